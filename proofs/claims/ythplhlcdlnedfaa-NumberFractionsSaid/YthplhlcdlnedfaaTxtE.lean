/-
  Texts, part E: scale, at decimal digits.
-/
import Derived.Test.YthplhlcdlnedfaaTxtD
namespace Go.Proofs.Ythplhlcdlnedfaa
open Go.RowKit MN

/-- What is returned is new memory that holds the decimal digits of N. -/
def New8 (w : World) (N : Nat) (e : Ending) (w' : World) : Prop :=
  ∃ A m c, e = .returned (.slice A m c) ∧ w'.ownsRow w.heap.size 5 1 (.slice A m c) m (vs8 (digs 10 N)) ∧ Below w.heap.size w w'

set_option maxRecDepth 100000 in
set_option maxHeartbeats 1000000 in
theorem scale8_any (A1 : Option Addr) (n1 c1 m : Nat) (ys : List Nat) (w : World) (ha : Rd .u8 w A1 n1 c1 ys) (hla : Low 10 ys) (hn1 : n1 ≤ 1000) (hm : m < 4294967296) :
    Calls Try.prog 94 #[.slice A1 n1 c1, .int .u64 10, .int .u64 4294967296, .int .u64 (m : Int)] w (New8 w (val 10 ys * 4294967296 + m)) := by
  obtain ⟨i0, hi, hz0, hz1, hz2⟩ := info_parts info29
  have hlena := Lib.hid ha.len
  have hata := Lib.hid ha.at_
  clear ha
  go_enter Try.func94, Try.ntmps94
  go_wp2_with (first
      | (at_make; refine wpList_make_full _ rfl _ _ 99 rfl w.heap.size 29 i0 _ 1 Try.underlying99 hi hz0 hz1 .i64 .i64 _ _ (n1 + 1) rfl rfl (by omega) (by omega) (by rw [hz2]; omega) (by unfold maxLen; omega) (Nat.le_refl _) ?_; intro w1 hown1 hg1))
  have HC1 := Cols.made hown1 hg1 (Below.refl _ _) (Nat.le_refl _)
  clear hown1 hg1
  go_loopw [18] (fun i wr => ∃ (k : Nat) (cs : List Nat), k ≤ n1 ∧ i = .int .i64 k ∧ Cols .u64 29 w.heap.size w wr w.heap.size (n1 + 1) cs ∧ Hid (∀ j, dg cs j = if j < k then dg ys j * 4294967296 else 0)) (fun i _ => n1 - (intOf i).toNat)
  case atStart => exact ⟨0, _, Nat.zero_le _, rfl, HC1, Lib.hid (fun j => by rw [dg_replicate, if_neg (by omega)])⟩
  case round =>
    obtain ⟨k, cs, hk, rfl, HC, HX⟩ := hrel
    by_cases hlt : k < n1
    · obtain ⟨b, off, rfl, hc⟩ := hata.out (by omega)
      have hcell := (HC.below.cell (p := ⟨b, off + k, none⟩) (World.block_lt_of_cell? w _ (hc k hlt))).trans (hc k hlt)
      clear hc
      obtain ⟨D, hD⟩ : ∃ D, D = dg ys k := ⟨_, rfl⟩
      have hDl : D < 10 := by rw [hD]; exact low_dg hla (by omega) k
      rw [← hD] at hcell
      have HD := Lib.hid hD
      clear hD
      have hk2 := HC.cell k (by omega)
      have hfr := HC.frozen k
      have HS := HC.set k (D * 4294967296) ((D : Int) * 4294967296) (by omega)
      have HX' : Hid (∀ j, dg (cs.set k (D * 4294967296)) j = if j < k + 1 then dg ys j * 4294967296 else 0) := Lib.hid (fun j => by
        rw [dg_set _ _ _ _ (by rw [HC.len]; omega), HX.out j]
        by_cases e : j = k
        · subst e; rw [if_pos rfl, if_pos (by omega), HD.out]
        · rw [if_neg e]
          by_cases e2 : j < k
          · rw [if_pos e2, if_pos (by omega)]
          · rw [if_neg e2, if_neg (by omega)])
      clear HX HC
      go_wp2
      go_roundw
      case rel => exact ⟨k + 1, _, by omega, by go_num, HS, HX'⟩
      case measure => simp [intOf]; omega
    · obtain rfl : k = n1 := by omega
      have hk2 := HC.cell 0 (by omega)
      have hfr := HC.frozen 0
      obtain ⟨D, hD⟩ : ∃ D, D = dg cs 0 := ⟨_, rfl⟩
      have hbig : ∀ j, dg cs j ≤ 38654705664 := fun j => by
        rw [HX.out j]
        have h1 := low_dg hla (by omega) j
        split <;> omega
      have hDl : D ≤ 38654705664 := by rw [hD]; exact hbig 0
      have hval := scale_val 10 ys cs 4294967296 m (by rw [hlena.out]; exact HX.out) (by rw [HC.len, hlena.out])
      rw [← hD] at hk2 hval
      have HV := Lib.hid hval
      have HS := HC.set 0 (D + m) ((D : Int) + (m : Int)) (by omega)
      have HB : Hid (∀ j, dg (cs.set 0 (D + m)) j ≤ 42949672960) := Lib.hid (fun j => by
        have := hbig j
        rw [dg_set _ _ _ _ (by rw [HC.len]; omega)]
        split <;> omega)
      clear hD hval hbig HX
      have hrd := HS.rd
      have hbl := HS.below
      have hbg := HS.big
      clear HC HS
      go_wp2_with (go_at_call 115; refine (carry8_any _ _ _ _ _ hrd (by omega) HB.out).mono ?_; rintro e w9 ⟨A', m', c', rfl, hown9, hb9⟩)
      go_ret
      rw [HV.out] at hown9
      exact ⟨A', m', c', rfl, own_low hown9 hbg, hbl.trans (hb9.mono hbg)⟩

end Go.Proofs.Ythplhlcdlnedfaa
