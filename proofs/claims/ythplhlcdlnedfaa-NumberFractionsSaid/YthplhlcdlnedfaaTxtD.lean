/-
  Texts, part D: trim and carry, at decimal digits.
-/
import Derived.Test.YthplhlcdlnedfaaTxtC
namespace Go.Proofs.Ythplhlcdlnedfaa
open Go.RowKit MN

theorem info5 : (Try.prog.info? 5).map (fun i => (i.zero, i.size, i.bytes)) = some (some (.int .u8 0), 1, 1) := by kernel_rfl

set_option maxRecDepth 100000 in
set_option maxHeartbeats 1000000 in
/-- trim, at digits of 8 bits. -/
theorem trim8_any (A : Option Addr) (n c : Nat) (xs : List Nat) (w : World) (h : Rd .u8 w A n c xs) (hl : Low 10 xs) :
    Calls Try.prog 120 #[.slice A n c] w fun e w' => (∃ m, m ≤ n ∧ e = .returned (.slice A m c) ∧ xs.take m = digs 10 (val 10 xs)) ∧ w = w' := by
  have hlen := Lib.hid h.len
  have hle := h.le
  have hcap := h.cap
  unfold maxLen at hcap
  have hat := Lib.hid h.at_
  clear h
  go_enter Try.func120, Try.ntmps120
  go_wp2
  go_loop [0] (fun v => ∃ k : Nat, k ≤ n ∧ v = .slice A k c ∧ Hid (∀ j, k ≤ j → dg xs j = 0)) (fun v => match v with | .slice _ k _ => k | _ => 0)
  case atStart => exact ⟨n, Nat.le_refl _, rfl, Lib.hid (fun j hj => dg_past xs j (by rw [hlen.out]; exact hj))⟩
  case round =>
    obtain ⟨k, hk, rfl, HZ⟩ := hrel
    rcases Nat.eq_zero_or_pos k with rfl | hpos
    · go_wp2
      go_ret
      exact ⟨⟨0, by omega, rfl, trim_end (by omega) xs 0 (by omega) hl HZ.out (.inl rfl)⟩, rfl⟩
    · obtain ⟨b, off, rfl, hc⟩ := hat.out (by omega)
      have hcell := hc (k - 1) (by omega)
      clear hc
      have hkp : 1 ≤ k := hpos
      obtain ⟨D, hD⟩ : ∃ D, D = dg xs (k - 1) := ⟨_, rfl⟩
      have HD := Lib.hid hD
      rw [← hD] at hcell
      clear hD
      by_cases h0 : D = 0
      · subst h0
        have HZ' : Hid (∀ j, k - 1 ≤ j → dg xs j = 0) := Lib.hid (fun j hj => by
          rcases Nat.lt_or_ge j k with h1 | h1
          · obtain rfl : j = k - 1 := by omega
            exact HD.out.symm
          · exact HZ.out j h1)
        clear HZ
        go_wp2
        go_round
        case rel => exact ⟨k - 1, by omega, by go_num, HZ'⟩
        case measure => simp; omega
      · have hb : ((D : Int) == 0) = false := by rw [beq_eq_false_iff_ne]; omega
        go_wp2
        go_ret
        exact ⟨⟨k, hk, rfl, trim_end (by omega) xs k (by rw [hlen.out]; exact hk) hl HZ.out (.inr (by rw [← HD.out]; exact h0))⟩, rfl⟩
/-- The digits of a row. -/
def vs8 (xs : List Nat) : List Value := xs.map fun (d : Nat) => Value.int .u8 (d : Int)
theorem vs8_snoc (xs : List Nat) (d : Nat) (z : Int) (h : z = (d : Int)) : vs8 xs ++ [Value.int .u8 z] = vs8 (xs ++ [d]) := by subst h; simp [vs8]

/-- The digits that are owned, after some columns of the value V; M is carried on. -/
structure Carried8 (base : Nat) (w wr : World) (v : Value) (ds : List Nat) (k M V : Nat) : Prop where
  len : ds.length = k
  low : Low 10 ds
  own : wr.ownsRow base 5 1 v k (vs8 ds)
  below : Below base w wr
  big : base ≤ wr.heap.size
  sum : val 10 ds + 10 ^ k * M = V

theorem Carried8.push {base k M V M' V' : Nat} {w wr w1 : World} {v v' : Value} {ds : List Nat} {o : Obj} {d : Nat} {z : Int} (h : Carried8 base w wr v ds k M V) (hd : d < 10) (hz : z = (d : Int))
    (hown : w1.ownsRow base 5 1 v' (k + 1) (vs8 ds ++ [Value.int .u8 z])) (hg : (wr.alloc o).grownBy w1 v.ownBlock) (hs : val 10 (ds ++ [d]) + 10 ^ (k + 1) * M' = V') : Carried8 base w w1 v' (ds ++ [d]) (k + 1) M' V' := by
  have hB : Below base w (wr.alloc o) := h.below.alloc h.big o
  have hsz : base ≤ (wr.alloc o).heap.size := by simp; have := h.big; omega
  exact ⟨by simp [h.len], low_append h.low (by intro x hx; simp at hx; omega), by rw [← vs8_snoc ds d z hz]; exact hown,
    hB.grown hg hsz (fun g hg' => (h.own.lt g hg').1), by have := hg.size; omega, hs⟩

theorem own_form8 {base k : Nat} {wr : World} {v : Value} {xs : List Nat} (h : wr.ownsRow base 5 1 v k (vs8 xs)) : ∃ A c, v = .slice A k c ∧ Rd .u8 wr A k c xs := by
  rcases h.2 with ⟨rfl, rfl⟩ | ⟨g, cap, cur, rfl, _⟩
  · exact ⟨none, 0, rfl, Rd.of_own h⟩
  · exact ⟨_, cap, rfl, Rd.of_own h⟩

theorem carry_done8 {base k m V c : Nat} {w wr : World} {A : Option Addr} {ds : List Nat} (h : Carried8 base w wr (.slice A k c) ds k 0 V) (hm : m ≤ k) (ht : ds.take m = digs 10 (val 10 ds)) :
    wr.ownsRow base 5 1 (.slice A m c) m (vs8 (digs 10 V)) := by
  have h2 := h.sum
  rw [Nat.mul_zero, Nat.add_zero] at h2
  rw [← h2, ← ht]
  exact own_take h.own hm

set_option maxRecDepth 100000 in
set_option maxHeartbeats 1000000 in
theorem carry8_any (A : Option Addr) (n c : Nat) (cs : List Nat) (w : World) (h : Rd .u64 w A n c cs) (hn : n ≤ 65536)
    (h1 : ∀ i, dg cs i ≤ 42949672960) :
    Calls Try.prog 115 #[.slice A n c, .int .u64 10] w fun e w' => ∃ A' m c', e = .returned (.slice A' m c') ∧ w'.ownsRow w.heap.size 5 1 (.slice A' m c') m (vs8 (digs 10 (val 10 cs))) ∧ Below w.heap.size w w' := by
  obtain ⟨i0, hi, hz0, hz1, hz2⟩ := info_parts info5
  have hlen := Lib.hid h.len
  have hat := Lib.hid h.at_
  have HB := Lib.hid h1
  clear h h1
  go_enter Try.func115, Try.ntmps115
  go_wp2_with (first
    | (at_make; refine wpList_make_own _ rfl _ _ 111 rfl w.heap.size 5 i0 _ 1 Try.underlying111 hi hz0 hz1 .i64 .i64 _ (n + 1) rfl rfl (by omega) (by rw [hz2]; omega) (by unfold maxLen; omega) (Nat.le_refl _) ?_; intro w1 hown1 hg1))
  go_loopw [5, 6, 15] (fun v m i wr => ∃ (k M : Nat) (ds : List Nat), k ≤ n ∧ i = .int .i64 k ∧ m = .int .u64 M ∧ M ≤ 8589934592 ∧ Carried8 w.heap.size w wr v ds k M (val 10 (cs.take k))) (fun _ _ i _ => n - (intOf i).toNat)
  case atStart =>
    exact ⟨0, 0, [], by omega, rfl, rfl, by omega, ⟨rfl, low_nil _, hown1, (Below.refl _ _).grown hg1 (Nat.le_refl _) (by simp), hg1.size, by simp [val]⟩⟩
  case round =>
    obtain ⟨k, M, ds, hk, rfl, rfl, hM, HC⟩ := hrel
    by_cases hlt : k < n
    · obtain ⟨b, off, rfl, hc⟩ := hat.out (by omega)
      have hcell := (HC.below.cell (p := ⟨b, off + k, none⟩) (World.block_lt_of_cell? w _ (hc k hlt))).trans (hc k hlt)
      clear hc
      have hsum := HB.out k
      have HV := Lib.hid (val_take_succ 10 cs k (by rw [hlen.out]; exact hlt))
      obtain ⟨C, hC⟩ : ∃ C, C = dg cs k := ⟨_, rfl⟩
      rw [← hC] at hcell hsum HV
      have HCC := Lib.hid hC
      clear hC
      have hown := HC.own
      go_wp2_with (first
        | (at_builtin; refine wpList_append_own _ rfl _ _ 111 rfl w.heap.size 5 i0 _ 1 1 Try.underlying111 hi hz0 hz1 hz2 rfl (by omega) _ _ _ rfl (hown.alloc _) ⟨wr.heap.size, 0, none⟩ 1 1 [.int .u8 (((M : Int) + (C : Int)) % 10)] rfl rfl (cell_one_new _ _ _) (by intro u hu; simp at hu; subst hu; rfl) (by unfold maxLen; omega) (by omega) (by simp; have := HC.big; omega) ?_; intro v1 w2 hown2 hg2 _))
      have HP := HC.push (d := (M + C) % 10) (M' := (M + C) / 10) (V' := val 10 (cs.take (k + 1))) (Nat.mod_lt _ (by omega)) (by omega) hown2 hg2
        (by rw [HV.out]; exact carry_step _ ds M C k _ HC.len HC.sum)
      clear hown2 hg2 hown HC HV HCC
      go_wp2
      go_roundw
      case rel => exact ⟨k + 1, (M + C) / 10, _, by omega, by go_num, by go_num, by omega, HP⟩
      case measure => simp [intOf]; omega
    · obtain rfl : k = n := by omega
      have HC' := HC
      rw [List.take_of_length_le (by rw [hlen.out]; exact Nat.le_refl _)] at HC'
      clear HC HB hown1 hg1 hat
      go_wp2
      obtain ⟨wo, rfl⟩ : ∃ wo : World, wo = wr := ⟨_, rfl⟩
      go_loopw [5, 6] (fun v m wr => ∃ (j r M : Nat) (ds : List Nat), j + r = k + 40 ∧ m = .int .u64 M ∧ Hid (M < 2 ^ r) ∧ M ≤ 8589934592 ∧ Carried8 w.heap.size w wr v ds j M (val 10 cs)) (fun _ m _ => (intOf m).toNat)
      case atStart => exact ⟨k, 40, M, ds, rfl, rfl, Lib.hid (by omega), hM, HC'⟩
      case round =>
        obtain ⟨j, r, M2, ds2, hjr, rfl, HM2, hM2, HC2⟩ := hrel
        rcases Nat.eq_zero_or_pos M2 with rfl | hpos
        · obtain ⟨A', c', rfl, hv⟩ := own_form8 HC2.own
          clear HC'
          go_wp2_with (go_at_call 120; refine (trim8_any A' j c' ds2 _ hv HC2.low).mono ?_; rintro e w' ⟨⟨m, hm, rfl, ht⟩, rfl⟩)
          go_ret
          exact ⟨A', m, c', rfl, carry_done8 HC2 hm ht, HC2.below⟩
        · have hown := HC2.own
          have hr : 1 ≤ r := by
            rcases Nat.eq_zero_or_pos r with h | h
            · have := HM2.out; rw [h] at this; simp at this; omega
            · exact h
          have HMn : Hid (M2 / 10 < 2 ^ (r - 1)) := Lib.hid (by
            have := HM2.out
            rw [show r = r - 1 + 1 by omega, Nat.pow_succ] at this
            omega)
          clear HC'
          go_wp2_with (first
            | (at_builtin; refine wpList_append_own _ rfl _ _ 111 rfl w.heap.size 5 i0 _ 1 1 Try.underlying111 hi hz0 hz1 hz2 rfl (by omega) _ _ _ rfl (hown.alloc _) ⟨wr.heap.size, 0, none⟩ 1 1 [.int .u8 ((M2 : Int) % 10)] rfl rfl (cell_one_new _ _ _) (by intro u hu; simp at hu; subst hu; rfl) (by unfold maxLen; omega) (by omega) (by simp; have := HC2.big; omega) ?_; intro v1 w2 hown2 hg2 _))
          have HP := HC2.push (d := M2 % 10) (M' := M2 / 10) (V' := val 10 cs) (Nat.mod_lt _ (by omega)) (by omega) hown2 hg2
            (carry_more _ ds2 M2 j _ HC2.len HC2.sum)
          clear hown2 hg2 hown HC2
          go_wp2
          go_roundw
          case rel => exact ⟨j + 1, r - 1, M2 / 10, _, by omega, by go_num, HMn, by omega, HP⟩
          case measure => simp [intOf]; omega

end Go.Proofs.Ythplhlcdlnedfaa
