/-
  Long division, part B: shiftDown.
-/
import Derived.Test.YthplhlcdlnedfaaDivA
import Derived.Test.YthplhlcdlnedfaaMathE
namespace Go.Proofs.Ythplhlcdlnedfaa
open Go.RowKit MN

theorem or_u64 (a d : Nat) (ha : a < 4294967296) (hd : d < 4294967296) : bits BinOp.or IntKind.u64 ((a : Int) * 4294967296) (d : Int) = ((a * 4294967296 + d : Nat) : Int) := by
  rw [show (a : Int) * 4294967296 = ((a * 4294967296 : Nat) : Int) by omega, u64_or_nat _ _ (by omega) (by omega)]
  congr 1
  exact nat_join 32 _ _ (by omega) (by omega)

set_option maxRecDepth 100000 in
set_option maxHeartbeats 1000000 in
theorem shiftDown_any (A1 : Option Addr) (n1 c1 s : Nat) (ys : List Nat) (w : World) (ha : Rd .u32 w A1 n1 c1 ys) (hla : Low 4294967296 ys) (hn1 : n1 ≤ 65536) (hs : s ≤ 31) :
    Calls Try.prog 109 #[.slice A1 n1 c1, .int .i64 (s : Int)] w (New w (val 4294967296 ys / 2 ^ s)) := by
  obtain ⟨i0, hi, hz0, hz1, hz2⟩ := info_parts info24
  have hlena := Lib.hid ha.len
  have hata := Lib.hid ha.at_
  clear ha
  go_enter Try.func109, Try.ntmps109
  go_wp2_with (first
      | (at_make; refine wpList_make_full _ rfl _ _ 23 rfl w.heap.size 24 i0 _ 1 Try.underlying23 hi hz0 hz1 .i64 .i64 _ _ n1 rfl rfl rfl rfl (by rw [hz2]; omega) (by unfold maxLen; omega) (Nat.le_refl _) ?_; intro w1 hown1 hg1))
  have HC1 := Cols.made hown1 hg1 (Below.refl _ _) (Nat.le_refl _)
  clear hown1 hg1
  go_loopw [6, 7] (fun ab i wr => ∃ (k Ab : Nat) (xs : List Nat), k ≤ n1 ∧ i = .int .i64 ((k : Int) - 1) ∧ ab = .int .u32 Ab ∧ Hid (Ab = dg ys k) ∧ Cols .u32 24 w.heap.size w wr w.heap.size n1 xs ∧ Down s ys xs k) (fun _ i _ => (intOf i + 1).toNat)
  case atStart => exact ⟨n1, 0, _, Nat.le_refl _, rfl, rfl, Lib.hid (dg_past ys n1 (by rw [hlena.out]; exact Nat.le_refl _)).symm, HC1, by have := Down.start s ys; rwa [hlena.out] at this⟩
  case round =>
    obtain ⟨k, Ab, xs, hk, rfl, rfl, HAb, HC, HP⟩ := hrel
    rcases Nat.eq_zero_or_pos k with rfl | hpos
    · have HV := Lib.hid HP.done
      have hlow := HP.low
      clear HP
      have hrd := HC.rd
      go_wp2_with (go_at_call 106; refine (trim32_any _ _ _ xs _ hrd hlow).mono ?_; rintro e w' ⟨⟨m, hm, rfl, ht⟩, rfl⟩)
      go_ret
      refine ⟨_, m, _, rfl, ?_, HC.below⟩
      rw [← HV.out, ← ht]
      exact own_take HC.own hm
    · obtain ⟨q, rfl⟩ : ∃ q, k = q + 1 := ⟨k - 1, by omega⟩
      have hq : q < n1 := by omega
      obtain ⟨b, off, rfl, hc⟩ := hata.out (by omega)
      have hcell := (HC.below.cell (p := ⟨b, off + q, none⟩) (World.block_lt_of_cell? w _ (hc q hq))).trans (hc q hq)
      have hbl : b < w.heap.size := World.block_lt_of_cell? w _ (hc q hq)
      clear hc
      have hAbl : Ab < 4294967296 := by rw [HAb.out]; exact low_dg hla (by omega) _
      obtain ⟨D, hD⟩ : ∃ D, D = dg ys q := ⟨_, rfl⟩
      have hDl : D < 4294967296 := by rw [hD]; exact low_dg hla (by omega) q
      obtain ⟨e, he⟩ : ∃ e, e = (Ab * 4294967296 + D) / 2 ^ s % 4294967296 := ⟨_, rfl⟩
      have HQ := HP.step (e := e) hs hla (by rw [hlena.out]; exact hq) (by rw [HC.len, hlena.out]) (by rw [he, HAb.out, hD])
      have hor := or_u64 Ab D hAbl hDl
      obtain ⟨Wd, hWd⟩ : ∃ Wd, Wd = Ab * 4294967296 + D := ⟨_, rfl⟩
      rw [← hWd] at hor he
      have hw1 : IntKind.u32.wrap ((Wd : Int) / 2 ^ s) = (e : Int) := by
        rw [he, IntKind.wrap_u32]
        have : ((Wd : Int) / 2 ^ s) = ((Wd / 2 ^ s : Nat) : Int) := by simp
        rw [this]; rfl
      have HD := Lib.hid hD
      rw [← hD] at hcell
      have g0 := HC.cell q (by omega)
      have r0 := HC.frozen q
      have HS := HC.set q e (e : Int) rfl
      have l0 : (0 : Int) ≤ (q : Int) := by omega
      clear hWd he hD HP HC
      rw [show (((q + 1 : Nat) : Int) - 1) = (q : Int) by omega]
      go_wp2
      go_roundw
      case rel => exact ⟨q, D, _, by omega, by go_num, rfl, HD, HS, HQ⟩
      case measure => simp [intOf]
end Go.Proofs.Ythplhlcdlnedfaa
