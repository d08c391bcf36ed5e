/-
  Long division, part A: LeadingZeros32, shiftUp.
-/
import Derived.Test.YthplhlcdlnedfaaNatF
import Derived.Test.YthplhlcdlnedfaaMathD
import Derived.Test.YthplhlcdlnedfaaShelf
namespace Go.Proofs.Ythplhlcdlnedfaa
open Go.RowKit MN

theorem bitLenAux_bounds (f x : Nat) (h0 : 0 < x) (h : x < 2 ^ f) : 0 < Lib.bitLenAux f x ∧ Lib.bitLenAux f x ≤ f ∧ 2 ^ (Lib.bitLenAux f x - 1) ≤ x ∧ x < 2 ^ Lib.bitLenAux f x := by
  induction f generalizing x with
  | zero => simp at h; omega
  | succ f ih =>
    rw [Lib.bitLenAux, if_neg (by omega)]
    rcases Nat.lt_or_ge x 2 with h2 | h2
    · obtain rfl : x = 1 := by omega
      have : Lib.bitLenAux f (1 / 2) = 0 := by cases f <;> simp [Lib.bitLenAux]
      rw [this]; simp
    · obtain ⟨a1, a2, a3, a4⟩ := ih (x / 2) (by omega) (by rw [Nat.pow_succ] at h; omega)
      generalize Lib.bitLenAux f (x / 2) = b at *
      obtain ⟨c, rfl⟩ : ∃ c, b = c + 1 := ⟨b - 1, by omega⟩
      rw [show 1 + (c + 1) = c + 1 + 1 by omega]
      simp only [Nat.add_sub_cancel, Nat.pow_succ] at *
      omega

theorem lz_shift (x : Nat) (h0 : 0 < x) (h : x < 4294967296) : ∃ s : Nat, s ≤ 31 ∧ (32 : Int) - (Lib.bitLen x : Int) = (s : Int) ∧ 2147483648 ≤ x * 2 ^ s ∧ x * 2 ^ s < 4294967296 := by
  have e : Lib.bitLen x = Lib.bitLenAux 32 x := Lib.bitLenAux_fuel 32 x (by omega) 64 (by omega)
  obtain ⟨a1, a2, a3, a4⟩ := bitLenAux_bounds 32 x h0 (by omega)
  rw [e]
  generalize Lib.bitLenAux 32 x = b at *
  obtain ⟨c, rfl⟩ : ∃ c, b = c + 1 := ⟨b - 1, by omega⟩
  refine ⟨31 - c, by omega, by omega, ?_, ?_⟩
  · have h1 : 2 ^ c * 2 ^ (31 - c) ≤ x * 2 ^ (31 - c) := Nat.mul_le_mul_right _ a3
    rw [← Nat.pow_add, show c + (31 - c) = 31 by omega] at h1
    omega
  · have h1 : x * 2 ^ (31 - c) < 2 ^ (c + 1) * 2 ^ (31 - c) := Nat.mul_lt_mul_of_pos_right a4 (Nat.two_pow_pos _)
    rw [← Nat.pow_add, show c + 1 + (31 - c) = 32 by omega] at h1
    omega

set_option maxRecDepth 100000 in
set_option maxHeartbeats 1000000 in
theorem shiftUp_any (A1 : Option Addr) (n1 c1 s : Nat) (ys : List Nat) (w : World) (ha : Rd .u32 w A1 n1 c1 ys) (hla : Low 4294967296 ys) (hn1 : n1 ≤ 65536) (hs : s ≤ 31) :
    Calls Try.prog 108 #[.slice A1 n1 c1, .int .i64 (s : Int)] w fun e w' => (∃ xs, e = .returned (.slice (some ⟨w.heap.size, 0, none⟩) (n1 + 1) (n1 + 1)) ∧ Cols .u32 24 w.heap.size w w' w.heap.size (n1 + 1) xs ∧ Low 4294967296 xs ∧ val 4294967296 xs = val 4294967296 ys * 2 ^ s) := by
  obtain ⟨i0, hi, hz0, hz1, hz2⟩ := info_parts info24
  have hlena := Lib.hid ha.len
  have hata := Lib.hid ha.at_
  clear ha
  go_enter Try.func108, Try.ntmps108
  go_wp2_with (first
      | (at_make; refine wpList_make_full _ rfl _ _ 23 rfl w.heap.size 24 i0 _ 1 Try.underlying23 hi hz0 hz1 .i64 .i64 _ _ (n1 + 1) rfl rfl (by omega) (by omega) (by rw [hz2]; omega) (by unfold maxLen; omega) (Nat.le_refl _) ?_; intro w1 hown1 hg1))
  have HC1 := Cols.made hown1 hg1 (Below.refl _ _) (Nat.le_refl _)
  clear hown1 hg1
  go_loopw [15] (fun i wr => ∃ (k : Nat) (xs : List Nat), k ≤ n1 ∧ i = .int .i64 k ∧ Cols .u32 24 w.heap.size w wr w.heap.size (n1 + 1) xs ∧ Up s ys xs k) (fun i _ => n1 - (intOf i).toNat)
  case atStart => exact ⟨0, _, Nat.zero_le _, rfl, HC1, Up.start s ys (n1 + 1)⟩
  case round =>
    obtain ⟨k, xs, hk, rfl, HC, HP⟩ := hrel
    by_cases hlt : k < n1
    · obtain ⟨b, off, rfl, hc⟩ := hata.out (by omega)
      have hcell := (HC.below.cell (p := ⟨b, off + k, none⟩) (World.block_lt_of_cell? w _ (hc k hlt))).trans (hc k hlt)
      clear hc
      obtain ⟨D, hD⟩ : ∃ D, D = dg ys k := ⟨_, rfl⟩
      have hDl : D < 4294967296 := by rw [hD]; exact low_dg hla (by omega) k
      obtain ⟨W, hW⟩ : ∃ W, W = D * 2 ^ s := ⟨_, rfl⟩
      obtain ⟨p1, p2, p3, p4, p5, p6⟩ := up_parts s D hs hDl
      rw [← hW] at p1 p2 p3 p4
      have HQ := HP.step hs hla (by rw [hlena.out]; exact hlt) (by rw [HC.len, hlena.out]) hD hW
      have hw1 : IntKind.u64.wrap ((D : Int) * 2 ^ s) = (W : Int) := by
        rw [show (D : Int) * 2 ^ s = (W : Int) by rw [hW]; simp]; exact IntWalk.u64_in _ (by omega)
      rw [← hD] at hcell
      have g0 := HC.cell k (by omega)
      have htop := HP.top
      have r0 := HC.frozen k
      have r1 := HC.frozen (k + 1)
      have g1 := HC.cell (k + 1) (by omega)
      obtain ⟨X, hX⟩ : ∃ X, X = dg xs k := ⟨_, rfl⟩
      rw [← hX] at g0 htop HQ
      have hor : bits BinOp.or IntKind.u32 (X : Int) ((W : Int) % 4294967296) = ((X + W % 4294967296 : Nat) : Int) := by
        rw [show (W : Int) % 4294967296 = ((W % 4294967296 : Nat) : Int) from rfl, u32_or_nat _ _ (by omega) (by omega)]
        congr 1
        rw [Nat.or_comm, nat_join s _ _ p1 htop, Nat.add_comm]
      have HS := (HC.set k (X + W % 4294967296) ((X + W % 4294967296 : Nat) : Int) rfl).set (k + 1) (W / 4294967296) ((W : Int) / 4294967296) rfl
      obtain ⟨T, hT⟩ : ∃ T, T = X + W % 4294967296 := ⟨_, rfl⟩
      rw [← hT] at hor HS HQ
      clear hW hD hX hT HP HC p1 htop
      go_wp2
      go_roundw
      case rel => exact ⟨k + 1, _, by omega, by go_num, HS, HQ⟩
      case measure => simp [intOf]; omega
    · obtain rfl : k = n1 := by omega
      have hd := HP
      rw [← hlena.out] at hd
      have HV := Lib.hid (hd.done (by rw [HC.len, hlena.out]))
      have hlow := HP.low
      clear hd HP
      go_wp2
      go_ret
      exact ⟨xs, rfl, HC, hlow, HV.out⟩

end Go.Proofs.Ythplhlcdlnedfaa
