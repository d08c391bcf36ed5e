/-
  Contracts of the functions of number that reckon modulo a number: checkModulus, power, PowMod.
-/
import Derived.Test.YtcbanemkjebdcaaProg
import Derived.Test.YtcbanemkjebdcaaMathM
import Derived.WalkKit
import Derived.Lib.Hide
import Derived.Deep.QuietTactic
import Derived.BigQuiet
namespace Go.Proofs.Ytcbanemkjebdcaa
open Go.RowKit

theorem ret_int1 {k : IntKind} {a b : Int} (h : a = b) : Ending.returned (.int k a) = .returned (.int k b) := by rw [h]
theorem ret_intE {k : IntKind} {a b c : Int} (h : a = b) : Ending.returned (.tuple #[.int k a, .int .i64 c]) = .returned (.tuple #[.int k b, .int .i64 c]) := by rw [h]

/-- A power modulo a number, as an integer. -/
def pwr (b n m : Int) : Int := ((b.toNat ^ n.toNat % m.toNat : Nat) : Int)

theorem pwr_nat (b n m : Nat) : pwr b n m = ((b ^ n % m : Nat) : Int) := by simp only [pwr, Int.toNat_natCast]

/-- A product of two numbers below 2^32 is not wrapped. -/
theorem mul_u64 (a b : Nat) (ha : a ≤ 4294967295) (hb : b ≤ 4294967295) : IntKind.u64.wrap ((a : Int) * (b : Int)) = (a : Int) * (b : Int) := by
  have h : a * b ≤ 4294967295 * 4294967295 := Nat.mul_le_mul ha hb
  have h2 : ((a * b : Nat) : Int) = (a : Int) * (b : Int) := Int.natCast_mul a b
  exact IntWalk.u64_in _ (by omega)

theorem checkModulus_yes (m : Int) (w : World) (h1 : 1 ≤ m) (h2 : m ≤ 4294967295) :
    Calls Try.prog 141 #[.int .u64 m] w fun e w' => e = .returned (.int .i64 0) ∧ w = w' := by
  go_enter Try.func141, Try.ntmps141
  go_wp2
  all_goals (go_ret; exact ⟨rfl, rfl⟩)

theorem checkModulus_no (m : Int) (w : World) (h : m < 1 ∨ 4294967295 < m) :
    Calls Try.prog 141 #[.int .u64 m] w fun e w' => e = .returned (.int .i64 2) ∧ w = w' := by
  rcases h with h | h
  · go_enter Try.func141, Try.ntmps141
    go_wp2
    all_goals (go_ret; exact ⟨rfl, rfl⟩)
  · have h' : ¬ m < 1 := by omega
    go_enter Try.func141, Try.ntmps141
    go_wp2
    all_goals (go_ret; exact ⟨rfl, rfl⟩)

set_option maxRecDepth 100000 in
set_option maxHeartbeats 1000000 in
theorem power_any (b n m : Int) (w : World) (hb : 0 ≤ b) (hn : 0 ≤ n) (hn2 : n ≤ 18446744073709551615) (hm : 1 ≤ m) (hm2 : m ≤ 4294967295) :
    Calls Try.prog 96 #[.int .u64 b, .int .u64 n, .int .u64 m] w fun e w' => e = .returned (.int .u64 (pwr b n m)) ∧ w = w' := by
  obtain ⟨B, rfl⟩ := Int.eq_ofNat_of_zero_le hb
  obtain ⟨N, rfl⟩ := Int.eq_ofNat_of_zero_le hn
  obtain ⟨M, rfl⟩ := Int.eq_ofNat_of_zero_le (show 0 ≤ m by omega)
  have HP : Hid (pwr B N M = ((B ^ N % M : Nat) : Int)) := Lib.hid (pwr_nat B N M)
  have hM : 0 < M := by omega
  go_enter Try.func96, Try.ntmps96
  go_wp2
  go_loop [1, 7, 8] (fun n r s => ∃ (k R S : Nat), n = .int .u64 k ∧ r = .int .u64 R ∧ s = .int .u64 S ∧ k ≤ N ∧ R ≤ 4294967295 ∧ S ≤ 4294967295 ∧ R < M ∧ Hid (R * S ^ k % M = B ^ N % M)) (fun n _ _ => (intOf n).toNat)
  case atStart =>
    have h1 := Nat.mod_lt 1 hM
    have h2 := Nat.mod_lt B hM
    exact ⟨N, 1 % M, B % M, rfl, by simp, by simp, Nat.le_refl _, by omega, by omega, h1, Lib.hid (MA.pw_start B N M)⟩
  case round =>
    obtain ⟨k, R, S, rfl, rfl, rfl, hk, hR, hS, hRM, HI⟩ := hrel
    have w1 := mul_u64 R S hR hS
    have w2 := mul_u64 S S hS hS
    have p1 : 0 ≤ (R : Int) * (S : Int) := Int.natCast_mul R S ▸ Int.natCast_nonneg _
    have p2 : 0 ≤ (S : Int) * (S : Int) := Int.natCast_mul S S ▸ Int.natCast_nonneg _
    by_cases hk0 : 0 < k
    · have l1 := Nat.mod_lt (R * S) hM
      have l2 := Nat.mod_lt (S * S) hM
      have L1 : R * S % M ≤ 4294967295 := by omega
      have L2 : S * S % M ≤ 4294967295 := by omega
      rcases Nat.mod_two_eq_zero_or_one k with ho | ho
      · have HI' : Hid (R * (S * S % M) ^ (k / 2) % M = B ^ N % M) := Lib.hid ((MA.pw_even R S k M ho).trans HI.out)
        have hb : ((k : Int) % 2 == 1) = false := by simp; omega
        clear HI ho
        go_wp2
        go_round
        case rel => exact ⟨k / 2, R, S * S % M, by go_num, rfl, by simp, by omega, hR, L2, hRM, HI'⟩
        case measure => simp [intOf]; omega
      · have HI' : Hid (R * S % M * (S * S % M) ^ (k / 2) % M = B ^ N % M) := Lib.hid ((MA.pw_odd R S k M ho).trans HI.out)
        have hb : ((k : Int) % 2 == 1) = true := by simp; omega
        clear HI ho
        go_wp2
        go_round
        case rel => exact ⟨k / 2, R * S % M, S * S % M, by go_num, by simp, by simp, by omega, L1, L2, l1, HI'⟩
        case measure => simp [intOf]; omega
    · obtain rfl : k = 0 := by omega
      go_wp2
      go_ret
      refine ⟨ret_int1 ?_, rfl⟩
      rw [HP.out, ← HI.out, Nat.pow_zero, Nat.mul_one, Nat.mod_eq_of_lt hRM]
end Go.Proofs.Ytcbanemkjebdcaa
