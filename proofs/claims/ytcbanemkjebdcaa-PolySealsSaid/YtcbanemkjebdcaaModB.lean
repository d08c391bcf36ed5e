/-
  Contracts: the specification's power, and PowMod of both; inverses of both.
-/
import Derived.Test.YtcbanemkjebdcaaModA
namespace Go.Proofs.Ytcbanemkjebdcaa
open Go.RowKit

set_option maxRecDepth 100000 in
set_option maxHeartbeats 1000000 in
theorem powerRef_any (b n m : Int) (w : World) (hb : 0 ≤ b) (hn : 0 ≤ n) (hn2 : n ≤ 18446744073709551615) (hm : 1 ≤ m) (hm2 : m ≤ 4294967295) :
    Calls Try.prog 70 #[.int .u64 b, .int .u64 n, .int .u64 m] w fun e w' => e = .returned (.int .u64 (pwr b n m)) ∧ w = w' := by
  obtain ⟨B, rfl⟩ := Int.eq_ofNat_of_zero_le hb
  obtain ⟨N, rfl⟩ := Int.eq_ofNat_of_zero_le hn
  obtain ⟨M, rfl⟩ := Int.eq_ofNat_of_zero_le (show 0 ≤ m by omega)
  have HP : Hid (pwr B N M = ((B ^ N % M : Nat) : Int)) := Lib.hid (pwr_nat B N M)
  have hM : 0 < M := by omega
  go_enter Try.func70, Try.ntmps70
  go_wp2
  go_loop [1, 7, 8] (fun n r s => ∃ (k R S : Nat), n = .int .u64 k ∧ r = .int .u64 R ∧ s = .int .u64 S ∧ k ≤ N ∧ R ≤ 4294967295 ∧ S ≤ 4294967295 ∧ R < M ∧ Hid (R * S ^ k % M = B ^ N % M)) (fun n _ _ => (intOf n).toNat)
  case atStart =>
    have h1 := Nat.mod_lt 1 hM
    have h2 := Nat.mod_lt B hM
    exact ⟨N, 1 % M, B % M, rfl, by simp, by simp, Nat.le_refl _, by omega, by omega, h1, Lib.hid (MA.pw_start B N M)⟩
  case round =>
    obtain ⟨k, R, S, rfl, rfl, rfl, hk, hR, hS, hRM, HI⟩ := hrel
    have w1 := mul_u64 R S hR hS
    have w2 := mul_u64 S S hS hS
    have p1 : 0 ≤ (R : Int) * (S : Int) := Int.natCast_mul R S ▸ Int.natCast_nonneg _
    have p2 : 0 ≤ (S : Int) * (S : Int) := Int.natCast_mul S S ▸ Int.natCast_nonneg _
    by_cases hk0 : 0 < k
    · have l1 := Nat.mod_lt (R * S) hM
      have l2 := Nat.mod_lt (S * S) hM
      have L1 : R * S % M ≤ 4294967295 := by omega
      have L2 : S * S % M ≤ 4294967295 := by omega
      rcases Nat.mod_two_eq_zero_or_one k with ho | ho
      · have HI' : Hid (R * (S * S % M) ^ (k / 2) % M = B ^ N % M) := Lib.hid ((MA.pw_even R S k M ho).trans HI.out)
        have hb : ((k : Int) % 2 == 1) = false := by simp; omega
        clear HI ho
        go_wp2
        go_round
        case rel => exact ⟨k / 2, R, S * S % M, by go_num, rfl, by simp, by omega, hR, L2, hRM, HI'⟩
        case measure => simp [intOf]; omega
      · have HI' : Hid (R * S % M * (S * S % M) ^ (k / 2) % M = B ^ N % M) := Lib.hid ((MA.pw_odd R S k M ho).trans HI.out)
        have hb : ((k : Int) % 2 == 1) = true := by simp; omega
        clear HI ho
        go_wp2
        go_round
        case rel => exact ⟨k / 2, R * S % M, S * S % M, by go_num, by simp, by simp, by omega, L1, L2, l1, HI'⟩
        case measure => simp [intOf]; omega
    · obtain rfl : k = 0 := by omega
      go_wp2
      go_ret
      refine ⟨ret_int1 ?_, rfl⟩
      rw [HP.out, ← HI.out, Nat.pow_zero, Nat.mul_one, Nat.mod_eq_of_lt hRM]

/-- What PowMod returns: the number and the error. -/
def pmv (b n m : Int) : Int := if 1 ≤ m ∧ m ≤ 4294967295 then pwr b n m else 0
def pmc (m : Int) : Int := if 1 ≤ m ∧ m ≤ 4294967295 then 0 else 2

theorem powMod_any (b n m : Int) (w : World) (hb : 0 ≤ b) (hn : 0 ≤ n) (hn2 : n ≤ 18446744073709551615) :
    Calls Try.prog 108 #[.int .u64 b, .int .u64 n, .int .u64 m] w fun e w' => e = .returned (.tuple #[.int .u64 (pmv b n m), .int .i64 (pmc m)]) ∧ w = w' := by
  by_cases h : 1 ≤ m ∧ m ≤ 4294967295
  · have HV : Hid (pmv b n m = pwr b n m) := Lib.hid (if_pos h)
    have HC : Hid (pmc m = 0) := Lib.hid (if_pos h)
    obtain ⟨h1, h2⟩ := h
    go_enter Try.func108, Try.ntmps108
    go_wp2_with (first
      | (go_at_call 141; refine (checkModulus_yes _ _ (by omega) (by omega)).mono ?_; rintro e w' ⟨rfl, rfl⟩)
      | (go_at_call 96; refine (power_any _ _ _ _ (by omega) (by omega) (by omega) (by omega) (by omega)).mono ?_; rintro e w' ⟨rfl, rfl⟩))
    go_ret2
    exact ⟨by rw [HV.out, HC.out]; try rfl, rfl⟩
  · have HV : Hid (pmv b n m = 0) := Lib.hid (if_neg h)
    have HC : Hid (pmc m = 2) := Lib.hid (if_neg h)
    have h' : m < 1 ∨ 4294967295 < m := by omega
    clear h
    go_enter Try.func108, Try.ntmps108
    go_wp2_with (first
      | (go_at_call 141; refine (checkModulus_no _ _ h').mono ?_; rintro e w' ⟨rfl, rfl⟩))
    go_ret2
    exact ⟨by rw [HV.out, HC.out]; try rfl, rfl⟩

end Go.Proofs.Ytcbanemkjebdcaa
