/-
  difference.
-/
import Derived.Test.YthplhlcdlnedfaaBits
import Derived.Laws.CopyOwn
namespace Go.Proofs.Ythplhlcdlnedfaa
open Go.RowKit MN

theorem Cols.of_block {k : IntKind} {e : TypeId} {base : Nat} {w wr w0 : World} {g N : Nat} {xs ys : List Nat} (h : Cols k e base w wr g N xs) (hlen : ys.length = N) (hN : N ≤ maxLen)
    (hg : w0.heap[g]? = some (.cells (ys.map fun (d : Nat) => Value.int k (d : Int)).toArray e (0, 0))) (hb : Below base w w0) (hbig : base ≤ w0.heap.size) : Cols k e base w w0 g N ys :=
  ⟨⟨by simp [hlen], .inr ⟨g, N, _, rfl, h.ge, hg, Nat.le_refl _, hN, by simp [hlen], by rw [Nat.mul_one]; exact List.take_of_length_le (by simp [hlen])⟩⟩, hb, hbig⟩

theorem splice_all {α : Type} (L cs : List α) (h : cs.length = L.length) : splice L 0 cs = cs := by
  unfold splice; rw [List.take_zero, List.nil_append, Nat.zero_add, h, List.drop_length, List.append_nil]

theorem Cols.heap {k : IntKind} {e : TypeId} {base : Nat} {w wr : World} {g N : Nat} {xs : List Nat} (h : Cols k e base w wr g N xs) : wr.heap[g]? = some (.cells (xs.map fun (d : Nat) => Value.int k (d : Int)).toArray e (0, 0)) := by
  rcases h.own.2 with ⟨hv, _⟩ | ⟨g', cap, cur, hv, _, hg, hnc, hcm, hcs, htake⟩
  · cases hv
  · injection hv with e1 e2 e3
    injection e1 with e1
    injection e1 with e1
    subst e1 e3
    rw [hg]
    rw [← htake, List.take_of_length_le (by rw [Array.length_toList, hcs]; exact Nat.le_refl _), Array.toArray_toList]

set_option maxRecDepth 100000 in
set_option maxHeartbeats 1000000 in
theorem difference_any (A1 A2 : Option Addr) (n1 c1 n2 c2 : Nat) (ys zs : List Nat) (w : World) (ha : Rd .u32 w A1 n1 c1 ys) (hb : Rd .u32 w A2 n2 c2 zs) (hla : Low 4294967296 ys) (hlb : Low 4294967296 zs) (hn1 : n1 ≤ 65536) (hn2 : n2 ≤ n1)
    (hle : val 4294967296 zs ≤ val 4294967296 ys) :
    Calls Try.prog 70 #[.slice A1 n1 c1, .slice A2 n2 c2] w (New w (val 4294967296 ys - val 4294967296 zs)) := by
  obtain ⟨i0, hi, hz0, hz1, hz2⟩ := info_parts info24
  have hlena := Lib.hid ha.len
  have hlenb := Lib.hid hb.len
  have hata := Lib.hid ha.at_
  have hatb := Lib.hid hb.at_
  have hca := Lib.hid ha.cap
  have HLE := Lib.hid hle
  have hca' := ha.cap
  have hca2 := Nat.le_trans ha.le hca'
  clear ha hb hle
  have hsz : (Try.prog.info? 24).map (·.size) = some 1 := by kernel_rfl
  go_enter Try.func70, Try.ntmps70
  go_wp2_with (first
      | (at_make; refine wpList_make_full _ rfl _ _ 23 rfl w.heap.size 24 i0 _ 1 Try.underlying23 hi hz0 hz1 .i64 .i64 _ _ n1 rfl rfl rfl rfl (by rw [hz2]; omega) (by unfold maxLen; omega) (Nat.le_refl _) ?_; intro w1 hown1 hg1)
      | (refine wpList_copy_splice (o := ⟨some 14, _, _, _, _, _⟩) rfl (.tmp 12) (.tmp 13) 23 23 rfl 24 Try.underlying23 hsz _ _ n1 n1 n1 c1 rfl rfl w.heap.size 0 _ 24 (Cols.made hown1 hg1 (Below.refl _ _) (Nat.le_refl _)).heap (vs32 ys) ?k1 ?k2 ?k3 ?k4 w.heap.size w (Cols.made hown1 hg1 (Below.refl _ _) (Nat.le_refl _)).below (Nat.le_refl _) ?k5))
  case k1 => simp [vs32, hlena.out]
  case k2 =>
    intro hp
    simp [vs32, hlena.out] at hp
    obtain ⟨b, off, rfl, hc⟩ := hata.out hp
    refine ⟨_, rfl, fun j v hj => ?_⟩
    have hjl : j < n1 := by
      have := (List.getElem?_eq_some_iff.1 hj).1
      simpa [vs32, hlena.out] using this
    have e1 : v = .int .u32 (dg ys j : Int) := by
      rw [dg_get ys j (by rw [hlena.out]; exact hjl)]
      simp [vs32, List.getElem?_map, List.getElem?_eq_getElem (show j < ys.length by rw [hlena.out]; exact hjl)] at hj
      exact hj.symm
    have e2 : (⟨b, off, none⟩ : Addr).add j = ⟨b, off + j, none⟩ := by unfold Addr.add; split <;> simp_all
    rw [e2, e1, (Cols.made hown1 hg1 (Below.refl _ _) (Nat.le_refl _)).below.cell (World.block_lt_of_cell? w _ (hc j hjl))]
    exact hc j hjl
  case k3 => simp [vs32, hlena.out]
  case k4 => intro v hv; simp [vs32] at hv; obtain ⟨d, _, rfl⟩ := hv; rfl
  case k5 =>
    intro w2 hg2 hb2
    have HC := Cols.of_block (Cols.made hown1 hg1 (Below.refl _ _) (Nat.le_refl _)) hlena.out hca2 (by
      have h2 := hg2.out
      rwa [splice_all _ _ (by simp [vs32, hlena.out])] at h2) hb2 hb2.size
    clear hg2 hb2 hown1 hg1
    go_wp2
    go_loopw [6, 17] (fun bo i wr => ∃ (k b : Nat) (xs : List Nat), k ≤ n1 ∧ i = .int .i64 k ∧ bo = .int .u32 b ∧ b ≤ 1 ∧ Cols .u32 24 w.heap.size w wr w.heap.size n1 xs ∧ Low 4294967296 xs ∧ Hid (∀ j, k ≤ j → dg xs j = dg ys j) ∧
        Hid (vsum 4294967296 (dg xs) k + vsum 4294967296 (dg zs) k = vsum 4294967296 (dg ys) k + 4294967296 ^ k * b)) (fun _ i _ => n1 - (intOf i).toNat)
    case atStart => exact ⟨0, 0, ys, Nat.zero_le _, rfl, rfl, by omega, HC, hla, Lib.hid (fun _ _ => rfl), Lib.hid (by simp [vsum])⟩
    case round =>
      obtain ⟨k, b, xs, hk, rfl, rfl, hb1, HC2, hlx, HX, HV⟩ := hrel
      by_cases hlt : k < n1
      · have hk2 := HC2.cell k hlt
        have hfr := HC2.frozen k
        obtain ⟨X, hX⟩ : ∃ X, X = dg xs k := ⟨_, rfl⟩
        have hXl : X < 4294967296 := by rw [hX]; exact low_dg hlx (by omega) k
        have HXY : Hid (X = dg ys k) := Lib.hid (by rw [hX]; exact HX.out k (Nat.le_refl _))
        rw [← hX] at hk2
        clear hX
        have HN : ∀ e b', Hid (dg ys k + 4294967296 * b' = e + dg zs k + b) → e < 4294967296 → Low 4294967296 (xs.set k e) ∧ Hid (∀ j, k + 1 ≤ j → dg (xs.set k e) j = dg ys j) ∧
            Hid (vsum 4294967296 (dg (xs.set k e)) (k + 1) + vsum 4294967296 (dg zs) (k + 1) = vsum 4294967296 (dg ys) (k + 1) + 4294967296 ^ (k + 1) * b') := fun e b' he hel =>
          ⟨low_set hlx k e hel, Lib.hid (fun j hj => by rw [dg_set _ _ _ _ (by rw [HC2.len]; exact hlt), if_neg (by omega)]; exact HX.out j (by omega)),
            Lib.hid (sub_step _ (dg xs) _ _ _ k b b' e HV.out he.out (fun j hj => by rw [dg_set _ _ _ _ (by rw [HC2.len]; exact hlt), if_neg (by omega)]) (by rw [dg_set _ _ _ _ (by rw [HC2.len]; exact hlt), if_pos rfl]))⟩
        have HNN := Lib.hid HN
        clear HN HX HV
        by_cases hlt2 : k < n2
        · obtain ⟨b2, off, rfl, hc⟩ := hatb.out (by omega)
          have hcell := (HC2.below.cell (p := ⟨b2, off + k, none⟩) (World.block_lt_of_cell? w _ (hc k hlt2))).trans (hc k hlt2)
          clear hc
          obtain ⟨D, hD⟩ : ∃ D, D = dg zs k := ⟨_, rfl⟩
          have hDl : D < 4294967296 := by rw [hD]; exact low_dg hlb (by omega) k
          rw [← hD] at hcell
          have HD := Lib.hid hD
          clear hD
          have HS := HC2.set k (sdf X D b) (sdf X D b : Int) rfl
          obtain ⟨q1, q2, q3⟩ := HNN.out (sdf X D b) (sbo X D b) (Lib.hid (by rw [← HD.out, ← HXY.out]; exact sub_eq X D b hXl hDl hb1)) (sdf_lt _ _ _)
          have q4 := sbo_le X D b
          clear HNN HC2
          go_wp2_with (go_at_call 105; refine (sub32_any X D b _ hXl hDl hb1).mono ?_; rintro e w' ⟨rfl, rfl⟩)
          go_roundw
          case rel => exact ⟨k + 1, _, _, by omega, by go_num, rfl, q4, HS, q1, q2, q3⟩
          case measure => simp [intOf]; omega
        · have HD : Hid (dg zs k = 0) := Lib.hid (dg_past zs k (by rw [hlenb.out]; omega))
          have HS := HC2.set k (sdf X 0 b) (sdf X 0 b : Int) rfl
          obtain ⟨q1, q2, q3⟩ := HNN.out (sdf X 0 b) (sbo X 0 b) (Lib.hid (by rw [HD.out, ← HXY.out]; exact sub_eq X 0 b hXl (by omega) hb1)) (sdf_lt _ _ _)
          have q4 := sbo_le X 0 b
          clear HNN HC2
          go_wp2_with (go_at_call 105; refine (sub32_any X 0 b _ hXl (by omega) hb1).mono ?_; rintro e w' ⟨rfl, rfl⟩)
          go_roundw
          case rel => exact ⟨k + 1, _, _, by omega, by go_num, rfl, q4, HS, q1, q2, q3⟩
          case measure => simp [intOf]; omega
      · obtain rfl : k = n1 := by omega
        have HF := Lib.hid (sub_end xs ys zs k b hlx HC2.len hlena.out (by rw [hlenb.out]; exact hn2) HLE.out HV.out)
        clear HX HV
        have hrd := HC2.rd
        go_wp2_with (go_at_call 106; refine (trim32_any _ _ _ xs _ hrd hlx).mono ?_; rintro e w' ⟨⟨m, hm, rfl, ht⟩, rfl⟩)
        go_ret
        refine ⟨_, m, _, rfl, ?_, HC2.below⟩
        rw [← HF.out, ← ht]
        exact own_take HC2.own hm
end Go.Proofs.Ythplhlcdlnedfaa
