/-
  The specification's round keys.
-/
import Derived.Test.YtcbanemkjebdcaaRfB
import Derived.Maps.AppendAt
namespace Go.Proofs.Ytcbanemkjebdcaa
open Go.RowKit SP
set_option linter.unusedVariables false
set_option linter.unusedSimpArgs false

theorem own_below {w w' : World} {B e size n : Nat} {v : Value} {xs : List Value} (h : w.ownsRow B e size v n xs) (hb : Below w.heap.size w w') : w'.ownsRow B e size v n xs :=
  h.kept (grownBy_of_below hb) (by by_cases e : v.ownBlock = none; exact .inl e; exact .inr e)
theorem own_new (w : World) (e : TypeId) (x : Value) (base : Nat) (hb : base ≤ w.heap.size) : (w.alloc (.cells #[x] e)).ownsRow base e 1 (.slice (some ⟨w.heap.size, 0, none⟩) 1 1) 1 [x] :=
  ⟨rfl, .inr ⟨w.heap.size, 1, #[x], rfl, hb, heap_alloc_new w _, Nat.le_refl _, by simp [maxLen], rfl, rfl⟩⟩
theorem own_slice {w : World} {B e n : Nat} {v : Value} {xs : List Value} (h : w.ownsRow B e 1 v n xs) (hn : 0 < n) : ∃ g c, v = .slice (some ⟨g, 0, none⟩) n c ∧ B ≤ g ∧ n ≤ c ∧ c ≤ maxLen ∧ ∀ i x, xs[i]? = some x → w.cell? ⟨g, i, none⟩ = some x := by
  rcases h.2 with ⟨_, h0⟩ | ⟨g, cap, cur, hv, hb, hg, hnc, hcm, hcs, ht⟩
  · omega
  · refine ⟨g, cap, hv, hb, hnc, hcm, fun i x hx => ?_⟩
    rw [cell_of_row _ _ i _ _ _ hg]
    rw [← ht] at hx
    have hi : i < n * 1 := by
      have := (List.getElem?_eq_some_iff.1 hx).1
      simp at this; omega
    rw [List.getElem?_take, if_pos hi] at hx
    simpa using hx

theorem own_block {w : World} {B e size n : Nat} {v : Value} {xs : List Value} (h : w.ownsRow B e size v n xs) {b : Nat} (hb : some b = v.ownBlock) : B ≤ b := by
  rcases h.2 with ⟨rfl, _⟩ | ⟨g, cap, cur, rfl, h1, _⟩
  · cases hb
  · injection hb with hb; rw [hb]; exact h1

theorem info30 : (Try.prog.info? 24).map (fun i => (i.zero, i.size, i.bytes)) = some (some (.int .u64 0), 1, 8) := by kernel_rfl
theorem info5 : (Try.prog.info? 5).map (fun i => (i.zero, i.size, i.bytes)) = some (some (.int .u8 0), 1, 1) := by kernel_rfl

/-- The first n round keys, as values. -/
def rks (X Y n : Nat) : List Value := (List.range n).map fun i => .int .u64 (rk X Y i : Int)
theorem rks_snoc (X Y n : Nat) : rks X Y (n + 1) = rks X Y n ++ [.int .u64 (rk X Y n : Int)] := by unfold rks; rw [List.range_succ, List.map_append]; rfl

set_option maxRecDepth 100000 in
set_option maxHeartbeats 2000000 in
theorem refKeys_any (X Y : Nat) (w : World) (hX : X < M) (hY : Y < M) :
    Calls Try.prog 119 #[.agg (kl X Y).toArray] w fun e w' => (∃ g c, e = .returned (.slice (some ⟨g, 0, none⟩) 32 c) ∧ w.heap.size ≤ g ∧ 32 ≤ c ∧ c ≤ maxLen ∧ ∀ i, i < 32 → w'.cell? ⟨g, i, none⟩ = some (.int .u64 (rk X Y i : Int))) ∧ Below w.heap.size w w' := by
  obtain ⟨i0, hi, hz0, hz1, hz2⟩ := info_parts info30
  obtain ⟨N, hN⟩ : ∃ N, N = w.heap.size := ⟨_, rfl⟩
  obtain ⟨W1, hW1⟩ : ∃ W1, W1 = w.alloc (.cells (kl X Y).toArray 23) := ⟨_, rfl⟩
  have HB1 : Hid (Below N w W1) := Lib.hid (by rw [hW1, hN]; exact (Below.refl _ _).alloc (Nat.le_refl _) _)
  have HL1 : Hid (N ≤ W1.heap.size) := Lib.hid (by rw [hW1, hN]; simp)
  have HK : Hid (KeyAt W1 N X Y) := Lib.hid (by rw [hW1, hN]; exact KeyAt.new w X Y 23)
  have HWd := Lib.hid (fun w => words_any X Y w hX hY)
  have HW := Lib.hid hW1
  have HX := Lib.hid (And.intro hX hY)
  have HN := Lib.hid hN
  rw [← hN]
  clear hW1 hX hY hN
  go_enter Try.func119, Try.ntmps119
  go_wp2_with (refine wpList_load_key rfl _ rfl _ rfl X Y (by rw [← HW.out, ← HN.out]; exact HK.out) ?_)
  rw [← HW.out, ← HN.out]
  refine (HWd.out _).mono ?_
  rintro e w2 ⟨rfl, hb2⟩
  have HB2 := Lib.hid (HB1.out.trans (hb2.mono HL1.out))
  have HL2 := Lib.hid (Nat.le_trans HL1.out hb2.size)
  clear hb2
  go_wp2_with fail
  obtain ⟨W3, hW3⟩ : ∃ W3, W3 = w2.alloc (.cells #[.int .u64 (Y : Int)] 24) := ⟨_, rfl⟩
  have ho3 : W3.ownsRow N 24 1 (.slice (some ⟨w2.heap.size, 0, none⟩) 1 1) 1 (rks X Y 1) := by rw [hW3]; exact own_new w2 24 _ N HL2.out
  have HB3 : Below N w W3 := by rw [hW3]; exact HB2.out.alloc HL2.out _
  have HL3 : N ≤ W3.heap.size := by rw [hW3]; simp; have := HL2.out; omega
  rw [← hW3]
  clear hW3
  go_loopw [3, 4, 5, 6] (fun x y v i wr => ∃ k a c : Nat, k ≤ 31 ∧ i = .int .i64 (k : Int) ∧ x = .int .u64 (a : Int) ∧ y = .int .u64 (c : Int) ∧ Hid (a = (kst X Y k).1 ∧ c = (kst X Y k).2) ∧ Hid (wr.ownsRow N 24 1 v (k + 1) (rks X Y (k + 1)) ∧ Below N w wr ∧ N ≤ wr.heap.size)) (fun _ _ _ i _ => 31 - (intOf i).toNat)
  case atStart => exact ⟨0, X, Y, by omega, rfl, rfl, rfl, Lib.hid ⟨rfl, rfl⟩, Lib.hid ⟨ho3, HB3, HL3⟩⟩
  case round =>
    obtain ⟨k, a, c, hk, rfl, rfl, rfl, HI, HO⟩ := hrel
    by_cases hlt : k < 31
    · have ha : a < M := by rw [HI.out.1]; exact (kst_ok HX.out.1 HX.out.2 k (by omega)).1
      have hc : c < M := by rw [HI.out.2]; exact (kst_ok HX.out.1 HX.out.2 k (by omega)).2
      have hkM : k < M := by unfold M; omega
      have H8 := Lib.hid (fun w => rotr8_any a w ha)
      have H3 := Lib.hid (fun w => rotl3_any c w hc)
      have hXx : bits .xor .u64 (IntKind.u64.wrap ((c : Int) + (rr8 a : Int))) (k : Int) = ((rdX a c k : Nat) : Int) := by rw [Int.add_comm]; exact rdX_int a c k hkM
      have hYy := rdY_int a c k hc hkM
      have HS : Hid (rdX a c k = (kst X Y (k + 1)).1 ∧ rdY a c k = (kst X Y (k + 1)).2) := Lib.hid (by rw [kst, HI.out.1, HI.out.2]; exact ⟨rfl, rfl⟩)
      obtain ⟨p, hp⟩ : ∃ p, p = rdX a c k := ⟨_, rfl⟩
      obtain ⟨q, hq⟩ : ∃ q, q = rdY a c k := ⟨_, rfl⟩
      rw [← hp] at hXx hYy HS
      rw [← hq] at hYy HS
      have hqk : Hid (q = rk X Y (k + 1)) := Lib.hid HS.out.2
      clear ha hc hkM HI hp hq
      go_wp2_with fail
      refine (H8.out _).mono ?_
      rintro e w4 ⟨rfl, hb4⟩
      have O4 := Lib.hid (own_below HO.out.1 hb4)
      have B4 := Lib.hid (HO.out.2.1.trans (hb4.mono HO.out.2.2))
      have L4 := Lib.hid (Nat.le_trans HO.out.2.2 hb4.size)
      clear hb4
      go_wp2_with fail
      refine (H3.out _).mono ?_
      rintro e w5 ⟨rfl, hb5⟩
      have O5 := own_below O4.out hb5
      have B5 := Lib.hid (B4.out.trans (hb5.mono L4.out))
      have L5 := Nat.le_trans L4.out hb5.size
      clear hb5
      go_wp2_with (first
        | (at_builtin; refine wpList_append_own _ rfl _ _ 29 rfl N 24 i0 _ 1 8 Try.underlying29 hi hz0 hz1 hz2 rfl (by omega) _ _ _ rfl (O5.alloc _) ⟨w5.heap.size, 0, none⟩ 1 1 [.int .u64 (q : Int)] rfl rfl (cell_one_new _ _ _) (by intro u hu; simp at hu; subst hu; rfl) (by unfold maxLen; omega) (by omega) (by simp; omega) ?_; intro v1 w6 hown6 hg6 _))
      go_roundw
      case rel => exact ⟨k + 1, p, q, by omega, by go_num, rfl, rfl, HS, Lib.hid ⟨by rw [rks_snoc, ← hqk.out]; exact hown6, (B5.out.alloc L5 _).grown hg6 (by simp; omega) (fun b hb => own_block O5 hb.symm), Nat.le_trans (by simp; omega) hg6.size⟩⟩
      case measure => simp [intOf]; omega
    · obtain rfl : k = 31 := by omega
      obtain ⟨g, c2, hv, h1, h2, h3, h4⟩ := own_slice HO.out.1 (by omega)
      subst hv
      go_wp2
      go_ret
      exact ⟨⟨g, c2, rfl, h1, h2, h3, fun i hi => h4 i _ (by simp [rks, List.getElem?_map, List.getElem?_range hi])⟩, HO.out.2.1⟩
end Go.Proofs.Ytcbanemkjebdcaa
