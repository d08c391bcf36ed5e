/-
  Bounds on rounds and on queries.
-/
import Derived.Test.YtchkgccnipejhaaJB
import Derived.Deep.RegionWith
namespace Go.Proofs.Ytchkgccnipejhaa
open Go.RowKit TR
set_option linter.unusedVariables false
set_option linter.unusedSimpArgs false

/-- Whether a number is within two others. -/
def iw (n lo hi : Int) : Bool := decide (lo ≤ n) && decide (n ≤ hi)
theorem iw_yes {n lo hi : Int} (h0 : lo ≤ n) (h1 : n ≤ hi) : iw n lo hi = true := by simp [iw, h0, h1]
theorem iw_no {n lo hi : Int} (h : ¬ (lo ≤ n ∧ n ≤ hi)) : iw n lo hi = false := by
  unfold iw; simp only [Bool.and_eq_false_iff, decide_eq_false_iff_not]; omega
theorem isWithin_any (n lo hi : Int) (w : World) :
    Calls Try.prog 98 #[.int .i64 n, .int .i64 lo, .int .i64 hi] w fun e w' => e = .returned (.bool (iw n lo hi)) ∧ w = w' := by
  by_cases h0 : lo ≤ n
  · by_cases h1 : n ≤ hi
    · rw [iw_yes h0 h1]
      go_enter Try.func98, Try.ntmps98
      go_wp2_with fail
      go_ret
      exact ⟨by first | rfl | simp, rfl⟩
    · rw [iw_no (by omega)]
      go_enter Try.func98, Try.ntmps98
      go_wp2_with fail
      go_ret
      exact ⟨by first | rfl | simp, rfl⟩
  · rw [iw_no (by omega)]
    go_enter Try.func98, Try.ntmps98
    go_wp2_with fail
    go_ret
    exact ⟨by first | rfl | simp, rfl⟩

/-- The least number whose power of 2 is at least a number. -/
def cl2 (u : Int) : Nat := lenv (u - 1).toNat
theorem chk_cl2 : ((List.range 65).all fun u => (List.range 7).all fun k => !(decide (1 ≤ u) && decide (u ≤ 2 ^ k) && (k == 0 || decide (2 ^ (k - 1) < u))) || lenv (u - 1) == k) = true := by decide +kernel
theorem chk_cl6 : ((List.range 65).all fun u => decide (lenv (u - 1) ≤ 6)) = true := by decide +kernel
theorem cl2_le (u : Int) (h0 : 1 ≤ u) (h1 : u ≤ 64) : cl2 u ≤ 6 := by
  have h := chk_cl6
  simp only [List.all_eq_true, List.mem_range, decide_eq_true_eq] at h
  have h2 := h u.toNat (by omega)
  unfold cl2
  rwa [show (u - 1).toNat = u.toNat - 1 by omega]
theorem cl2_is (u : Int) (k : Nat) (h0 : 1 ≤ u) (h1 : u ≤ 64) (hk : k ≤ 6) (h2 : u ≤ ((2 ^ k : Nat) : Int)) (h3 : k = 0 ∨ ((2 ^ (k - 1) : Nat) : Int) < u) : k = cl2 u := by
  have h := chk_cl2
  simp only [List.all_eq_true, List.mem_range] at h
  have h4 := h u.toNat (by omega) k (by omega)
  have e1 : decide (1 ≤ u.toNat) = true := decide_eq_true (by omega)
  have e2 : decide (u.toNat ≤ 2 ^ k) = true := decide_eq_true (by omega)
  have e3 : (k == 0 || decide (2 ^ (k - 1) < u.toNat)) = true := by
    rcases h3 with h3 | h3
    · simp [h3]
    · have h5 : decide (2 ^ (k - 1) < u.toNat) = true := decide_eq_true (by omega)
      rw [h5, Bool.or_true]
  rw [e1, e2, e3] at h4
  unfold cl2
  rw [show (u - 1).toNat = u.toNat - 1 by omega]
  simpa using (by simpa using h4 : lenv (u.toNat - 1) = k).symm
def rdk (u p : Int) : Bool := iw u 1 64 && iw p 0 u
def rdc (u p : Int) : Int := if rdk u p then 0 else 2
def rdv (u p : Int) : Int := if rdk u p then p * (1 + (cl2 u : Int)) else 0

set_option maxRecDepth 100000 in
set_option maxHeartbeats 400000 in
theorem rounds_any (u p : Int) (w : World) :
    Calls Try.prog 43 #[.int .i64 u, .int .i64 p] w fun e w' => e = .returned (.tuple #[.int .i64 (rdv u p), .int .i64 (rdc u p)]) ∧ w = w' := by
  by_cases hu : 1 ≤ u ∧ u ≤ 64
  · have e1 := iw_yes hu.1 hu.2
    by_cases hp : 0 ≤ p ∧ p ≤ u
    · have e2 := iw_yes hp.1 hp.2
      have HV : Hid (rdv u p = p * (1 + (cl2 u : Int))) := Lib.hid (by unfold rdv rdk; rw [e1, e2]; rfl)
      have HC : Hid (rdc u p = 0) := Lib.hid (by unfold rdc rdk; rw [e1, e2]; rfl)
      have HL : Hid (∀ w, Calls Try.prog 99 #[.int .u64 (u - 1)] w fun e w' => e = .returned (.int .i64 ((cl2 u : Nat) : Int)) ∧ w = w') := Lib.hid (fun w => by
        refine (bits_Len (u - 1) w (by omega) (by omega)).mono ?_
        rintro e w' ⟨rfl, rfl⟩
        refine ⟨?_, rfl⟩
        rw [bit_lenv _ (by omega)]
        rfl)
      have hc6 := cl2_le u hu.1 hu.2
      obtain ⟨c, hc⟩ : ∃ c, c = cl2 u := ⟨_, rfl⟩
      rw [← hc] at HV HL hc6
      rw [HV.out, HC.out]
      have hm0 : 0 ≤ p * (1 + (c : Int)) := Int.mul_nonneg hp.1 (by omega)
      have hm1 : p * (1 + (c : Int)) ≤ 64 * 7 := Int.mul_le_mul (by omega) (by omega) (by omega) (by omega)
      have hmw : IntKind.i64.wrap (p * (1 + (c : Int))) = p * (1 + (c : Int)) := by
        generalize p * (1 + (c : Int)) = z at hm0 hm1
        simp [IntKind.wrap, IntKind.bits, IntKind.signed]; omega
      have l1 : 0 ≤ u - 1 := by omega
      have l2 : u - 1 ≤ 63 := by omega
      have HE1 := Lib.hid e1
      have HE2 := Lib.hid e2
      clear HV HC hc e1 e2
      go_enter Try.func43, Try.ntmps43
      go_wp2_with fail
      refine (isWithin_any u 1 64 w).mono ?_
      rintro e w1 ⟨rfl, rfl⟩
      rw [HE1.out]
      go_wp2_with fail
      refine (isWithin_any p 0 u w).mono ?_
      rintro e w1 ⟨rfl, rfl⟩
      rw [HE2.out]
      go_wp2_with fail
      refine (HL.out w).mono ?_
      rintro e w1 ⟨rfl, rfl⟩
      go_wp2_with fail
      go_ret2
      exact ⟨by first | rfl | (simp [hmw]; done), rfl⟩
    · have e2 := iw_no hp
      have HV : Hid (rdv u p = 0) := Lib.hid (by unfold rdv rdk; rw [e1, e2]; rfl)
      have HC : Hid (rdc u p = 2) := Lib.hid (by unfold rdc rdk; rw [e1, e2]; rfl)
      rw [HV.out, HC.out]
      have HE1 := Lib.hid e1
      have HE2 := Lib.hid e2
      clear HV HC e1 e2
      go_enter Try.func43, Try.ntmps43
      go_wp2_with fail
      refine (isWithin_any u 1 64 w).mono ?_
      rintro e w1 ⟨rfl, rfl⟩
      rw [HE1.out]
      go_wp2_with fail
      refine (isWithin_any p 0 u w).mono ?_
      rintro e w1 ⟨rfl, rfl⟩
      rw [HE2.out]
      go_wp2_with fail
      go_ret2
      exact ⟨rfl, rfl⟩
  · have e1 := iw_no hu
    have HV : Hid (rdv u p = 0) := Lib.hid (by unfold rdv rdk; rw [e1]; rfl)
    have HC : Hid (rdc u p = 2) := Lib.hid (by unfold rdc rdk; rw [e1]; rfl)
    rw [HV.out, HC.out]
    have HE1 := Lib.hid e1
    clear HV HC e1
    go_enter Try.func43, Try.ntmps43
    go_wp2_with fail
    refine (isWithin_any u 1 64 w).mono ?_
    rintro e w1 ⟨rfl, rfl⟩
    rw [HE1.out]
    go_wp2_with fail
    go_ret2
    exact ⟨rfl, rfl⟩

set_option maxRecDepth 100000 in
set_option maxHeartbeats 400000 in
theorem refRounds_any (u p : Int) (w : World) :
    Calls Try.prog 44 #[.int .i64 u, .int .i64 p] w fun e w' => e = .returned (.tuple #[.int .i64 (rdv u p), .int .i64 (rdc u p)]) ∧ w = w' := by
  have hcases : u < 1 ∨ (1 ≤ u ∧ 64 < u) ∨ (1 ≤ u ∧ u ≤ 64 ∧ p < 0) ∨ (1 ≤ u ∧ u ≤ 64 ∧ 0 ≤ p ∧ u < p) ∨ (1 ≤ u ∧ u ≤ 64 ∧ 0 ≤ p ∧ p ≤ u) := by omega
  rcases hcases with h | ⟨h0, h⟩ | ⟨h0, h1, h⟩ | ⟨h0, h1, h2, h⟩ | ⟨h0, h1, h2, h⟩
  case inr.inr.inr.inr =>
    have HV : Hid (rdv u p = p * (1 + (cl2 u : Int))) := Lib.hid (by unfold rdv rdk; rw [iw_yes h0 h1, iw_yes h2 h]; rfl)
    have HC : Hid (rdc u p = 0) := Lib.hid (by unfold rdc rdk; rw [iw_yes h0 h1, iw_yes h2 h]; rfl)
    have HK := Lib.hid (fun k => cl2_is u k h0 h1)
    have hc6 := cl2_le u h0 h1
    rw [HV.out, HC.out]
    have n1 : ¬ (u < 1) := by omega
    have n2 : ¬ (64 < u) := by omega
    have n3 : ¬ (p < 0) := by omega
    have n4 : ¬ (u < p) := by omega
    obtain ⟨c, hc⟩ : ∃ c, c = cl2 u := ⟨_, rfl⟩
    rw [← hc] at HK hc6 ⊢
    have hm0 : 0 ≤ p * (1 + (c : Int)) := Int.mul_nonneg h2 (by omega)
    have hm1 : p * (1 + (c : Int)) ≤ 64 * 7 := Int.mul_le_mul (by omega) (by omega) (by omega) (by omega)
    have hmw : IntKind.i64.wrap (p * (1 + (c : Int))) = p * (1 + (c : Int)) := by
      generalize p * (1 + (c : Int)) = z at hm0 hm1
      simp [IntKind.wrap, IntKind.bits, IntKind.signed]; omega
    clear HV HC hc
    go_enter Try.func44, Try.ntmps44
    go_wp2_with fail
    go_loopw [6, 7] (fun cv nv wr => ∃ k q : Nat, k ≤ 6 ∧ cv = .int .i64 (k : Int) ∧ nv = .int .i64 (q : Int) ∧ Hid (q = 2 ^ k) ∧ Hid (k = 0 ∨ ((2 ^ (k - 1) : Nat) : Int) < u) ∧ wr = w) (fun cv _ _ => 7 - (intOf cv).toNat)
    case atStart => exact ⟨0, 1, by omega, rfl, rfl, Lib.hid rfl, Lib.hid (.inl rfl), rfl⟩
    case round =>
      obtain ⟨k, q, hk, rfl, rfl, HQ, HI, rfl⟩ := hrel
      by_cases hlt : (q : Int) < u
      · have hk5 : k ≤ 5 := by
          apply Classical.byContradiction
          intro h6
          obtain rfl : k = 6 := by omega
          have h7 := HQ.out
          omega
        have hq : q ≤ 64 := by omega
        have HQ2 : Hid (2 * q = 2 ^ (k + 1)) := Lib.hid (by rw [HQ.out, Nat.pow_succ]; omega)
        have HI2 : Hid (((2 ^ (k + 1 - 1) : Nat) : Int) < u) := Lib.hid (by rw [Nat.add_sub_cancel, ← HQ.out]; exact hlt)
        clear HQ HI
        go_wp2_with fail
        go_roundw
        case rel => exact ⟨k + 1, 2 * q, by omega, by go_num, by go_num, HQ2, Lib.hid (.inr HI2.out), by first | rfl | trivial⟩
        case measure => simp [intOf]; omega
      · obtain rfl : k = c := HK.out k hk (by rw [← HQ.out]; omega) HI.out
        go_wp2_with fail
        go_ret2
        exact ⟨by first | rfl | (simp [hmw]; done), rfl⟩
  all_goals
    have HV : Hid (rdv u p = 0) := Lib.hid (by unfold rdv rdk iw; simp; intros; omega)
    have HC : Hid (rdc u p = 2) := Lib.hid (by unfold rdc rdk iw; simp; intros; omega)
    rw [HV.out, HC.out]
    clear HV HC
    have n1 : (u < 1) ∨ ¬ (u < 1) := by omega
    go_enter Try.func44, Try.ntmps44
    go_wp2_with fail
    go_ret2
    exact ⟨rfl, rfl⟩

def bnc (K D E : Int) (P Q G : Nat) (z : Int) : Int := if scb K D E P Q G then (if iw z 0 8 then 0 else 2) else 30
def bnv (K D E : Int) (P Q G : Nat) (z : Int) : Int := if bnc K D E P Q G z = 0 then (2 * ((2 ^ D.toNat : Nat) : Int) + 1) * (D + 2) * (2 * z + 1) else 0
theorem bnv_bad {K D E : Int} {P Q G : Nat} {z c : Int} (h : bnc K D E P Q G z = c) (h0 : c ≠ 0) : bnv K D E P Q G z = 0 := by unfold bnv; rw [if_neg (by rw [h]; exact h0)]
theorem queries_any (z : Int) (w : World) (h0 : 0 ≤ z) (h8 : z ≤ 8) :
    Calls Try.prog 100 #[.int .i64 z] w fun e w' => e = .returned (.int .i64 (2 * z + 1)) ∧ w = w' := by
  go_enter Try.func100, Try.ntmps100
  go_wp2_with fail
  go_ret
  exact ⟨by first | rfl | simp, rfl⟩

theorem i64w (x : Int) (h0 : -1000000 ≤ x) (h1 : x ≤ 1000000) : IntKind.i64.wrap x = x := by
  simp [IntKind.wrap, IntKind.bits, IntKind.signed]; omega
theorem mul_bd (a b A B : Int) (h0 : 0 ≤ a) (h1 : a ≤ A) (h2 : 0 ≤ b) (h3 : b ≤ B) : 0 ≤ a * b ∧ a * b ≤ A * B :=
  ⟨Int.mul_nonneg h0 h2, Int.mul_le_mul h1 h3 h2 (by omega)⟩

set_option maxRecDepth 100000 in
set_option maxHeartbeats 400000 in
theorem limit_any (K E z : Int) (P Q G d : Nat) (w : World) (hd : d < 7) (h0 : 0 ≤ z) (h8 : z ≤ 8) :
    Calls Try.prog 102 #[.agg #[.int .u8 K, .int .i64 (d : Int), .int .i64 E, .int .u64 (P : Int), .int .u64 (Q : Int), .int .u64 (G : Int)], .int .i64 z] w fun e w' => e = .returned (.int .i64 ((2 * ((2 ^ d : Nat) : Int) + 1) * ((d : Int) + 2) * (2 * z + 1))) ∧ Below w.heap.size w w' := by
  have HR := Lib.hid (fun w => receivers_any d w hd)
  obtain ⟨N, hN⟩ : ∃ N, N = w.heap.size := ⟨_, rfl⟩
  obtain ⟨W1, hW1⟩ : ∃ W1, W1 = w.alloc (.cells #[.int .u8 K, .int .i64 (d : Int), .int .i64 E, .int .u64 (P : Int), .int .u64 (Q : Int), .int .u64 (G : Int)] 45) := ⟨_, rfl⟩
  have b1 : Below N w W1 := by rw [hW1, hN]; exact below_alloc _ _
  have e1 : Blk W1 N #[.int .u8 K, .int .i64 (d : Int), .int .i64 E, .int .u64 (P : Int), .int .u64 (Q : Int), .int .u64 (G : Int)] 45 := by rw [hW1, hN]; exact Blk.new w _ _
  have HZ : Hid (W1.drew.cell? ⟨N, 1, none⟩ = some (.int .i64 (d : Int))) := Lib.hid (e1.cell 1)
  have HB := Lib.hid b1.drew
  have hR1 : (1 : Int) ≤ ((2 ^ d : Nat) : Int) := by have h : 0 < 2 ^ d := Nat.pow_pos (by decide); omega
  have hR2 : ((2 ^ d : Nat) : Int) ≤ 64 := by
    have h := Nat.pow_le_pow_right (n := 2) (by decide) (show d ≤ 6 by omega)
    omega
  obtain ⟨R, hR⟩ : ∃ R : Int, R = ((2 ^ d : Nat) : Int) := ⟨_, rfl⟩
  rw [← hR] at hR1 hR2
  obtain ⟨A3, hA3⟩ : ∃ A : Int, A = 2 * R := ⟨_, rfl⟩
  obtain ⟨A4, hA4⟩ : ∃ A : Int, A = A3 + 1 := ⟨_, rfl⟩
  obtain ⟨A7, hA7⟩ : ∃ A : Int, A = (d : Int) + 2 := ⟨_, rfl⟩
  obtain ⟨A8, hA8⟩ : ∃ A : Int, A = A4 * A7 := ⟨_, rfl⟩
  obtain ⟨A10, hA10⟩ : ∃ A : Int, A = 2 * z := ⟨_, rfl⟩
  obtain ⟨A11, hA11⟩ : ∃ A : Int, A = A10 + 1 := ⟨_, rfl⟩
  obtain ⟨A12, hA12⟩ : ∃ A : Int, A = A8 * A11 := ⟨_, rfl⟩
  have b8 := mul_bd A4 A7 129 8 (by omega) (by omega) (by omega) (by omega)
  rw [← hA8] at b8
  have b12 := mul_bd A8 A11 1032 17 b8.1 (by omega) (by omega) (by omega)
  rw [← hA12] at b12
  have hw3 : IntKind.i64.wrap (2 * R) = A3 := by rw [← hA3]; exact i64w _ (by omega) (by omega)
  have hw4 : IntKind.i64.wrap (A3 + 1) = A4 := by rw [← hA4]; exact i64w _ (by omega) (by omega)
  have hw7 : IntKind.i64.wrap ((d : Int) + 2) = A7 := by rw [← hA7]; exact i64w _ (by omega) (by omega)
  have hw8 : IntKind.i64.wrap (A4 * A7) = A8 := by rw [← hA8]; exact i64w _ (by omega) (by omega)
  have hw10 : IntKind.i64.wrap (2 * z) = A10 := by rw [← hA10]; exact i64w _ (by omega) (by omega)
  have hw11 : IntKind.i64.wrap (A10 + 1) = A11 := by rw [← hA11]; exact i64w _ (by omega) (by omega)
  have hw12 : IntKind.i64.wrap (A8 * A11) = A12 := by rw [← hA12]; exact i64w _ (by omega) (by omega)
  have HA : Hid (A12 = (2 * R + 1) * ((d : Int) + 2) * (2 * z + 1)) := Lib.hid (by rw [hA12, hA8, hA4, hA3, hA7, hA11, hA10])
  rw [← hR] at HR ⊢
  rw [← HA.out]
  have HN := Lib.hid hN
  have HW := Lib.hid hW1
  rw [← hN]
  clear hN hW1 b1 e1 hR HA hA3 hA4 hA7 hA8 hA10 hA11 hA12 b8 b12 hR1 hR2
  go_enter Try.func102, Try.ntmps102
  go_wp2_with fail
  rw [← HW.out, ← HN.out]
  refine wp_region_inv (by kernel_rfl) (by kernel_rfl) (fun l a' w' => a' = { tmps := #[Value.agg #[Value.int IntKind.u8 K, Value.int IntKind.i64 (d : Int), Value.int IntKind.i64 E, Value.int IntKind.u64 (P : Int), Value.int IntKind.u64 (Q : Int), Value.int IntKind.u64 (G : Int)], Value.int .i64 z, Value.pointer (some ⟨N, 0, none⟩), undef, bif l 13 then Value.int .i64 A12 else Value.int .i64 0, bif l 0 then Value.pointer (some ⟨N, 1, none⟩) else undef, bif l 1 then Value.int .i64 (d : Int) else undef, bif l 2 then Value.int .i64 R else undef, bif l 3 then Value.int .i64 A3 else undef, bif l 4 then Value.int .i64 A4 else undef, bif l 5 then Value.pointer (some ⟨N, 1, none⟩) else undef, bif l 6 then Value.int .i64 (d : Int) else undef, bif l 7 then Value.int .i64 A7 else undef, bif l 8 then Value.int .i64 A8 else undef, bif l 9 then Value.int .i64 z else undef, bif l 10 then Value.int .i64 A10 else undef, bif l 11 then Value.int .i64 A11 else undef, bif l 12 then Value.int .i64 A12 else undef], defers := [] } ∧ w' = W1.drew) ⟨rfl, rfl⟩ ?_ ?_
  · rintro l a' w' i ⟨rfl, rfl⟩ hi hli hpre
    have hi2 : i < 14 := hi
    have hcase : i = 0 ∨ i = 1 ∨ i = 2 ∨ i = 3 ∨ i = 4 ∨ i = 5 ∨ i = 6 ∨ i = 7 ∨ i = 8 ∨ i = 9 ∨ i = 10 ∨ i = 11 ∨ i = 12 ∨ i = 13 := by omega
    clear hi hi2
    rcases hcase with rfl | rfl | rfl | rfl | rfl | rfl | rfl | rfl | rfl | rfl | rfl | rfl | rfl | rfl
    · -- 0: Op.fieldAddr 45 (Operand.tmp 2) 1
      refine wpOp_step rfl (fun K' hK => ?_)
      clear hpre
      rw [if_pos (by rfl)]
      go_simp
      exact hK _ _ ⟨by simp [upd, Act.put], rfl⟩
    · -- 1: Op.load 3 (Operand.tmp 5)
      have p0 : l 0 = true := hpre _ rfl ⟨0, .data⟩ (by simp) rfl
      refine wpOp_step rfl (fun K' hK => ?_)
      simp only [p0, cond_true, cond_false]
      clear hpre
      rw [if_pos (by rfl)]
      have c1 := HZ.out
      go_simp
      exact hK _ _ ⟨by simp [upd, Act.put, p0], rfl⟩
    · -- 2: Op.call { callee := Callee.value (Operand.func 72), args := 
      have p1 : l 1 = true := hpre _ rfl ⟨1, .data⟩ (by simp) rfl
      refine wpOp_step rfl (fun K' hK => ?_)
      simp only [p1, cond_true, cond_false]
      clear hpre
      rw [if_pos (by rfl)]
      go_simp
      refine (HR.out _).mono ?_
      rintro e w5 ⟨rfl, rfl⟩
      exact hK _ _ ⟨by simp [upd, Act.put, p1], rfl⟩
    · -- 3: Op.binOp BinOp.mul 3 (Operand.const (Value.int IntKind.i64 2
      have p2 : l 2 = true := hpre _ rfl ⟨2, .data⟩ (by simp) rfl
      refine wpOp_step rfl (fun K' hK => ?_)
      simp only [p2, cond_true, cond_false]
      clear hpre
      rw [if_pos (by rfl)]
      go_simp
      exact hK _ _ ⟨by simp [upd, Act.put, p2, hw3], rfl⟩
    · -- 4: Op.binOp BinOp.add 3 (Operand.tmp 8) (Operand.const (Value.i
      have p3 : l 3 = true := hpre _ rfl ⟨3, .data⟩ (by simp) rfl
      refine wpOp_step rfl (fun K' hK => ?_)
      simp only [p3, cond_true, cond_false]
      clear hpre
      rw [if_pos (by rfl)]
      go_simp
      exact hK _ _ ⟨by simp [upd, Act.put, p3, hw4], rfl⟩
    · -- 5: Op.fieldAddr 45 (Operand.tmp 2) 1
      refine wpOp_step rfl (fun K' hK => ?_)
      clear hpre
      rw [if_pos (by rfl)]
      go_simp
      exact hK _ _ ⟨by simp [upd, Act.put], rfl⟩
    · -- 6: Op.load 3 (Operand.tmp 10)
      have p5 : l 5 = true := hpre _ rfl ⟨5, .data⟩ (by simp) rfl
      refine wpOp_step rfl (fun K' hK => ?_)
      simp only [p5, cond_true, cond_false]
      clear hpre
      rw [if_pos (by rfl)]
      have c1 := HZ.out
      go_simp
      exact hK _ _ ⟨by simp [upd, Act.put, p5], rfl⟩
    · -- 7: Op.binOp BinOp.add 3 (Operand.tmp 11) (Operand.const (Value.
      have p6 : l 6 = true := hpre _ rfl ⟨6, .data⟩ (by simp) rfl
      refine wpOp_step rfl (fun K' hK => ?_)
      simp only [p6, cond_true, cond_false]
      clear hpre
      rw [if_pos (by rfl)]
      go_simp
      exact hK _ _ ⟨by simp [upd, Act.put, p6, hw7], rfl⟩
    · -- 8: Op.binOp BinOp.mul 3 (Operand.tmp 9) (Operand.tmp 12) 3
      have p4 : l 4 = true := hpre _ rfl ⟨4, .data⟩ (by simp) rfl
      have p7 : l 7 = true := hpre _ rfl ⟨7, .data⟩ (by simp) rfl
      refine wpOp_step rfl (fun K' hK => ?_)
      simp only [p4, p7, cond_true, cond_false]
      clear hpre
      rw [if_pos (by rfl)]
      go_simp
      exact hK _ _ ⟨by simp [upd, Act.put, p4, p7, hw8], rfl⟩
    · -- 9: Op.move (Operand.tmp 1)
      refine wpOp_step rfl (fun K' hK => ?_)
      clear hpre
      rw [if_pos (by rfl)]
      go_simp
      exact hK _ _ ⟨by simp [upd, Act.put], rfl⟩
    · -- 10: Op.binOp BinOp.mul 3 (Operand.const (Value.int IntKind.i64 2
      have p9 : l 9 = true := hpre _ rfl ⟨9, .data⟩ (by simp) rfl
      refine wpOp_step rfl (fun K' hK => ?_)
      simp only [p9, cond_true, cond_false]
      clear hpre
      rw [if_pos (by rfl)]
      go_simp
      exact hK _ _ ⟨by simp [upd, Act.put, p9, hw10], rfl⟩
    · -- 11: Op.binOp BinOp.add 3 (Operand.tmp 15) (Operand.const (Value.
      have p10 : l 10 = true := hpre _ rfl ⟨10, .data⟩ (by simp) rfl
      refine wpOp_step rfl (fun K' hK => ?_)
      simp only [p10, cond_true, cond_false]
      clear hpre
      rw [if_pos (by rfl)]
      go_simp
      exact hK _ _ ⟨by simp [upd, Act.put, p10, hw11], rfl⟩
    · -- 12: Op.binOp BinOp.mul 3 (Operand.tmp 13) (Operand.tmp 16) 3
      have p8 : l 8 = true := hpre _ rfl ⟨8, .data⟩ (by simp) rfl
      have p11 : l 11 = true := hpre _ rfl ⟨11, .data⟩ (by simp) rfl
      refine wpOp_step rfl (fun K' hK => ?_)
      simp only [p8, p11, cond_true, cond_false]
      clear hpre
      rw [if_pos (by rfl)]
      go_simp
      exact hK _ _ ⟨by simp [upd, Act.put, p8, p11, hw12], rfl⟩
    · -- 13: Op.assign (Operand.tmp 17)
      have p12 : l 12 = true := hpre _ rfl ⟨12, .data⟩ (by simp) rfl
      have p2 : l 2 = true := hpre _ rfl ⟨2, .chain⟩ (by simp) rfl
      have p0 : l 0 = true := hpre _ rfl ⟨0, .phase⟩ (by simp) rfl
      have p1 : l 1 = true := hpre _ rfl ⟨1, .phase⟩ (by simp) rfl
      have p3 : l 3 = true := hpre _ rfl ⟨3, .phase⟩ (by simp) rfl
      have p4 : l 4 = true := hpre _ rfl ⟨4, .phase⟩ (by simp) rfl
      have p5 : l 5 = true := hpre _ rfl ⟨5, .phase⟩ (by simp) rfl
      have p6 : l 6 = true := hpre _ rfl ⟨6, .phase⟩ (by simp) rfl
      have p7 : l 7 = true := hpre _ rfl ⟨7, .phase⟩ (by simp) rfl
      have p8 : l 8 = true := hpre _ rfl ⟨8, .phase⟩ (by simp) rfl
      have p9 : l 9 = true := hpre _ rfl ⟨9, .phase⟩ (by simp) rfl
      have p10 : l 10 = true := hpre _ rfl ⟨10, .phase⟩ (by simp) rfl
      have p11 : l 11 = true := hpre _ rfl ⟨11, .phase⟩ (by simp) rfl
      refine wpOp_step rfl (fun K' hK => ?_)
      simp only [p12, p2, p0, p1, p3, p4, p5, p6, p7, p8, p9, p10, p11, cond_true, cond_false]
      clear hpre
      rw [if_pos (by rfl)]
      go_simp
      exact hK _ _ ⟨by simp [upd, Act.put, p12, p2, p0, p1, p3, p4, p5, p6, p7, p8, p9, p10, p11], rfl⟩
  · rintro l a' w9 hall ⟨rfl, rfl⟩
    simp only [hall 0 (by decide), hall 1 (by decide), hall 2 (by decide), hall 3 (by decide), hall 4 (by decide), hall 5 (by decide), hall 6 (by decide), hall 7 (by decide), hall 8 (by decide), hall 9 (by decide), hall 10 (by decide), hall 11 (by decide), hall 12 (by decide), hall 13 (by decide), cond_true]
    clear hall
    clear hw3 hw4 hw7 hw8 hw10 hw11 hw12
    go_wp2_with fail
    go_ret
    exact ⟨rfl, HB.out⟩

set_option maxRecDepth 100000 in
set_option maxHeartbeats 400000 in
theorem bound_any (K D E z : Int) (P Q G : Nat) (w : World) (hK0 : 0 ≤ K) (hK1 : K ≤ 255) :
    Calls Try.prog 45 #[.agg #[.int .u8 K, .int .i64 D, .int .i64 E, .int .u64 (P : Int), .int .u64 (Q : Int), .int .u64 (G : Int)], .int .i64 z] w fun e w' => e = .returned (.tuple #[.int .i64 (bnv K D E P Q G z), .int .i64 (bnc K D E P Q G z)]) ∧ Below w.heap.size w w' := by
  obtain ⟨N, hN⟩ : ∃ N, N = w.heap.size := ⟨_, rfl⟩
  obtain ⟨W1, hW1⟩ : ∃ W1, W1 = w.alloc (.cells #[.int .u8 K, .int .i64 D, .int .i64 E, .int .u64 (P : Int), .int .u64 (Q : Int), .int .u64 (G : Int)] 45) := ⟨_, rfl⟩
  have b1 : Below N w W1 := by rw [hW1, hN]; exact below_alloc _ _
  have e1 : Blk W1 N #[.int .u8 K, .int .i64 D, .int .i64 E, .int .u64 (P : Int), .int .u64 (Q : Int), .int .u64 (G : Int)] 45 := by rw [hW1, hN]; exact Blk.new w _ _
  have HE : Hid (Below N w W1 ∧ Blk W1 N #[.int .u8 K, .int .i64 D, .int .i64 E, .int .u64 (P : Int), .int .u64 (Q : Int), .int .u64 (G : Int)] 45 ∧ N ≤ W1.heap.size) := Lib.hid ⟨b1, e1, by rw [hW1, hN]; simp⟩
  have HCk := Lib.hid (fun w => check_any K D E P Q G w hK0 hK1)
  have HQu := Lib.hid (fun w h0 h8 => queries_any z w h0 h8)
  have HN := Lib.hid hN
  have HW := Lib.hid hW1
  have c0 : W1.cell? ⟨N, 0, none⟩ = some (.int .u8 K) := e1.cell 0
  have c1 : W1.cell? ⟨N, 1, none⟩ = some (.int .i64 D) := e1.cell 1
  have c2 : W1.cell? ⟨N, 2, none⟩ = some (.int .i64 E) := e1.cell 2
  have c3 : W1.cell? ⟨N, 3, none⟩ = some (.int .u64 (P : Int)) := e1.cell 3
  have c4 : W1.cell? ⟨N, 4, none⟩ = some (.int .u64 (Q : Int)) := e1.cell 4
  have c5 : W1.cell? ⟨N, 5, none⟩ = some (.int .u64 (G : Int)) := e1.cell 5
  rw [hW1, hN] at c0 c1 c2 c3 c4 c5
  rw [← hN]
  clear hN hW1 b1 e1 hK0 hK1
  go_enter Try.func45, Try.ntmps45
  go_wp2_with fail
  rw [← HW.out, ← HN.out]
  refine (HCk.out _).mono ?_
  rintro e w2 ⟨rfl, hb2⟩
  have H2 : Hid (Below N w w2 ∧ Blk w2 N #[.int .u8 K, .int .i64 D, .int .i64 E, .int .u64 (P : Int), .int .u64 (Q : Int), .int .u64 (G : Int)] 45) := Lib.hid ⟨HE.out.1.trans (hb2.mono HE.out.2.2), HE.out.2.1.keep hb2⟩
  clear hb2 c0 c1 c2 c3 c4 c5
  by_cases h : ScOk K D E P Q G
  · have hsc := scc_yes h
    have hsb := scb_yes h
    rw [hsc]
    obtain ⟨-, -, hD0, hD6, -, -, -, -⟩ := h
    by_cases hz : 0 ≤ z ∧ z ≤ 8
    · have e2 := iw_yes hz.1 hz.2
      obtain ⟨d, rfl⟩ := Int.eq_ofNat_of_zero_le hD0
      have HV : Hid (bnv K d E P Q G z = (2 * ((2 ^ d : Nat) : Int) + 1) * ((d : Int) + 2) * (2 * z + 1)) := Lib.hid (by unfold bnv bnc; rw [hsb, e2]; simp)
      have HC : Hid (bnc K d E P Q G z = 0) := Lib.hid (by unfold bnc; rw [hsb, e2]; rfl)
      have HE2 := Lib.hid e2
      have hz0 := hz.1
      have hz8 := hz.2
      clear e2 hsc hsb hz HE
      have HZ : Hid (w2.drew.cell? ⟨N, 1, none⟩ = some (.int .i64 (d : Int))) := Lib.hid (H2.out.2.cell 1)
      have HB := Lib.hid H2.out.1.drew
      have hR1 : (1 : Int) ≤ ((2 ^ d : Nat) : Int) := by have h : 0 < 2 ^ d := Nat.pow_pos (by decide); omega
      have hR2 : ((2 ^ d : Nat) : Int) ≤ 64 := by
        have h := Nat.pow_le_pow_right (n := 2) (by decide) (show d ≤ 6 by omega)
        omega
      obtain ⟨R, hR⟩ : ∃ R : Int, R = ((2 ^ d : Nat) : Int) := ⟨_, rfl⟩
      rw [← hR] at hR1 hR2
      obtain ⟨A3, hA3⟩ : ∃ A : Int, A = 2 * R := ⟨_, rfl⟩
      obtain ⟨A4, hA4⟩ : ∃ A : Int, A = A3 + 1 := ⟨_, rfl⟩
      obtain ⟨A7, hA7⟩ : ∃ A : Int, A = (d : Int) + 2 := ⟨_, rfl⟩
      obtain ⟨A8, hA8⟩ : ∃ A : Int, A = A4 * A7 := ⟨_, rfl⟩
      obtain ⟨A10, hA10⟩ : ∃ A : Int, A = 2 * z := ⟨_, rfl⟩
      obtain ⟨A11, hA11⟩ : ∃ A : Int, A = A10 + 1 := ⟨_, rfl⟩
      obtain ⟨A12, hA12⟩ : ∃ A : Int, A = A8 * A11 := ⟨_, rfl⟩
      have b8 := mul_bd A4 A7 129 8 (by omega) (by omega) (by omega) (by omega)
      rw [← hA8] at b8
      have b12 := mul_bd A8 A11 1032 17 b8.1 (by omega) (by omega) (by omega)
      rw [← hA12] at b12
      have hw3 : IntKind.i64.wrap (2 * R) = A3 := by rw [← hA3]; exact i64w _ (by omega) (by omega)
      have hw4 : IntKind.i64.wrap (A3 + 1) = A4 := by rw [← hA4]; exact i64w _ (by omega) (by omega)
      have hw7 : IntKind.i64.wrap ((d : Int) + 2) = A7 := by rw [← hA7]; exact i64w _ (by omega) (by omega)
      have hw8 : IntKind.i64.wrap (A4 * A7) = A8 := by rw [← hA8]; exact i64w _ (by omega) (by omega)
      have hw10 : IntKind.i64.wrap (2 * z) = A10 := by rw [← hA10]; exact i64w _ (by omega) (by omega)
      have hw11 : IntKind.i64.wrap (A10 + 1) = A11 := by rw [← hA11]; exact i64w _ (by omega) (by omega)
      have hw12 : IntKind.i64.wrap (A8 * A11) = A12 := by rw [← hA12]; exact i64w _ (by omega) (by omega)
      have hwsh : IntKind.i64.wrap (2 * (2 : Int) ^ d) = A3 := by
        have h9 : ((2 : Int) ^ d) = R := by rw [hR]; simp
        rw [h9]; exact hw3
      have HA : Hid (A12 = (2 * R + 1) * ((d : Int) + 2) * (2 * z + 1)) := Lib.hid (by rw [hA12, hA8, hA4, hA3, hA7, hA11, hA10])
      replace HQu : Hid (∀ w, 0 ≤ z → z ≤ 8 → Calls Try.prog 100 #[.int .i64 z] w fun e w' => e = .returned (.int .i64 A11) ∧ w = w') := Lib.hid (by rw [hA11, hA10]; exact HQu.out)
      replace HV : Hid (bnv K d E P Q G z = A12) := Lib.hid (by rw [HV.out, HA.out, hR])
      have HRr := Lib.hid hR
      clear hR HA hA3 hA4 hA7 hA8 hA10 hA11 hA12 b8 b12 hR1 hR2 hD0 hw10 hw11
      go_wp2_with fail
      refine (isWithin_any z 0 8 w2).mono ?_
      rintro e w3 ⟨rfl, rfl⟩
      rw [HE2.out]
      go_wp2_with fail
      refine wp_region_inv (by kernel_rfl) (by kernel_rfl) (fun l a' w' => a' = { tmps := #[Value.agg #[Value.int IntKind.u8 K, Value.int IntKind.i64 (d : Int), Value.int IntKind.i64 E, Value.int IntKind.u64 (P : Int), Value.int IntKind.u64 (Q : Int), Value.int IntKind.u64 (G : Int)], Value.int .i64 z, Value.pointer (some ⟨N, 0, none⟩), undef, bif l 11 then Value.int .i64 A12 else Value.int .i64 0, bif l 12 then Value.int IntKind.i64 0 else Value.int .i64 0, Value.int .i64 0, Value.agg #[Value.int IntKind.u8 K, Value.int IntKind.i64 (d : Int), Value.int IntKind.i64 E, Value.int IntKind.u64 (P : Int), Value.int IntKind.u64 (Q : Int), Value.int IntKind.u64 (G : Int)], Value.int .i64 0, Value.int .i64 0, Value.bool false, undef, Value.int .i64 z, Value.bool true, Value.bool false, bif l 0 then Value.pointer (some ⟨N, 1, none⟩) else undef, bif l 1 then Value.int .i64 (d : Int) else undef, bif l 2 then Value.int .i64 A3 else undef, bif l 3 then Value.int .i64 A4 else undef, bif l 4 then Value.pointer (some ⟨N, 1, none⟩) else undef, bif l 5 then Value.int .i64 (d : Int) else undef, bif l 6 then Value.int .i64 A7 else undef, bif l 7 then Value.int .i64 A8 else undef, bif l 8 then Value.int .i64 z else undef, bif l 9 then Value.int .i64 A11 else undef, bif l 10 then Value.int .i64 A12 else undef], defers := [] } ∧ w' = w2.drew) ⟨rfl, rfl⟩ ?_ ?_
      · rintro l a' w' i ⟨rfl, rfl⟩ hi hli hpre
        have hi2 : i < 13 := hi
        have hcase : i = 0 ∨ i = 1 ∨ i = 2 ∨ i = 3 ∨ i = 4 ∨ i = 5 ∨ i = 6 ∨ i = 7 ∨ i = 8 ∨ i = 9 ∨ i = 10 ∨ i = 11 ∨ i = 12 := by omega
        clear hi hi2
        rcases hcase with rfl | rfl | rfl | rfl | rfl | rfl | rfl | rfl | rfl | rfl | rfl | rfl | rfl
        · -- 0: Op.fieldAddr 45 (Operand.tmp 2) 1
          refine wpOp_step rfl (fun K' hK => ?_)
          clear hpre
          rw [if_pos (by rfl)]
          go_simp
          exact hK _ _ ⟨by simp [upd, Act.put], rfl⟩
        · -- 1: Op.load 3 (Operand.tmp 15)
          have p0 : l 0 = true := hpre _ rfl ⟨0, .data⟩ (by simp) rfl
          refine wpOp_step rfl (fun K' hK => ?_)
          simp only [p0, cond_true, cond_false]
          clear hpre
          rw [if_pos (by rfl)]
          have c1 := HZ.out
          go_simp
          exact hK _ _ ⟨by simp [upd, Act.put, p0], rfl⟩
        · -- 2: Op.binOp BinOp.shl 3 (Operand.const (Value.int IntKind.i64 2
          have p1 : l 1 = true := hpre _ rfl ⟨1, .data⟩ (by simp) rfl
          refine wpOp_step rfl (fun K' hK => ?_)
          simp only [p1, cond_true, cond_false]
          clear hpre
          rw [if_pos (by rfl)]
          go_simp
          exact hK _ _ ⟨by simp [upd, Act.put, p1, hwsh], rfl⟩
        · -- 3: Op.binOp BinOp.add 3 (Operand.tmp 17) (Operand.const (Value.
          have p2 : l 2 = true := hpre _ rfl ⟨2, .data⟩ (by simp) rfl
          refine wpOp_step rfl (fun K' hK => ?_)
          simp only [p2, cond_true, cond_false]
          clear hpre
          rw [if_pos (by rfl)]
          go_simp
          exact hK _ _ ⟨by simp [upd, Act.put, p2, hw4], rfl⟩
        · -- 4: Op.fieldAddr 45 (Operand.tmp 2) 1
          refine wpOp_step rfl (fun K' hK => ?_)
          clear hpre
          rw [if_pos (by rfl)]
          go_simp
          exact hK _ _ ⟨by simp [upd, Act.put], rfl⟩
        · -- 5: Op.load 3 (Operand.tmp 19)
          have p4 : l 4 = true := hpre _ rfl ⟨4, .data⟩ (by simp) rfl
          refine wpOp_step rfl (fun K' hK => ?_)
          simp only [p4, cond_true, cond_false]
          clear hpre
          rw [if_pos (by rfl)]
          have c1 := HZ.out
          go_simp
          exact hK _ _ ⟨by simp [upd, Act.put, p4], rfl⟩
        · -- 6: Op.binOp BinOp.add 3 (Operand.tmp 20) (Operand.const (Value.
          have p5 : l 5 = true := hpre _ rfl ⟨5, .data⟩ (by simp) rfl
          refine wpOp_step rfl (fun K' hK => ?_)
          simp only [p5, cond_true, cond_false]
          clear hpre
          rw [if_pos (by rfl)]
          go_simp
          exact hK _ _ ⟨by simp [upd, Act.put, p5, hw7], rfl⟩
        · -- 7: Op.binOp BinOp.mul 3 (Operand.tmp 18) (Operand.tmp 21) 3
          have p3 : l 3 = true := hpre _ rfl ⟨3, .data⟩ (by simp) rfl
          have p6 : l 6 = true := hpre _ rfl ⟨6, .data⟩ (by simp) rfl
          refine wpOp_step rfl (fun K' hK => ?_)
          simp only [p3, p6, cond_true, cond_false]
          clear hpre
          rw [if_pos (by rfl)]
          go_simp
          exact hK _ _ ⟨by simp [upd, Act.put, p3, p6, hw8], rfl⟩
        · -- 8: Op.move (Operand.tmp 1)
          refine wpOp_step rfl (fun K' hK => ?_)
          clear hpre
          rw [if_pos (by rfl)]
          go_simp
          exact hK _ _ ⟨by simp [upd, Act.put], rfl⟩
        · -- 9: Op.call { callee := Callee.value (Operand.func 100), args :=
          have p8 : l 8 = true := hpre _ rfl ⟨8, .data⟩ (by simp) rfl
          refine wpOp_step rfl (fun K' hK => ?_)
          simp only [p8, cond_true, cond_false]
          clear hpre
          rw [if_pos (by rfl)]
          go_simp
          refine (HQu.out _ hz0 hz8).mono ?_
          rintro e w5 ⟨rfl, rfl⟩
          exact hK _ _ ⟨by simp [upd, Act.put, p8], rfl⟩
        · -- 10: Op.binOp BinOp.mul 3 (Operand.tmp 22) (Operand.tmp 24) 3
          have p7 : l 7 = true := hpre _ rfl ⟨7, .data⟩ (by simp) rfl
          have p9 : l 9 = true := hpre _ rfl ⟨9, .data⟩ (by simp) rfl
          refine wpOp_step rfl (fun K' hK => ?_)
          simp only [p7, p9, cond_true, cond_false]
          clear hpre
          rw [if_pos (by rfl)]
          go_simp
          exact hK _ _ ⟨by simp [upd, Act.put, p7, p9, hw12], rfl⟩
        · -- 11: Op.assign (Operand.tmp 25)
          have p10 : l 10 = true := hpre _ rfl ⟨10, .data⟩ (by simp) rfl
          have p9 : l 9 = true := hpre _ rfl ⟨9, .chain⟩ (by simp) rfl
          have p0 : l 0 = true := hpre _ rfl ⟨0, .phase⟩ (by simp) rfl
          have p1 : l 1 = true := hpre _ rfl ⟨1, .phase⟩ (by simp) rfl
          have p2 : l 2 = true := hpre _ rfl ⟨2, .phase⟩ (by simp) rfl
          have p3 : l 3 = true := hpre _ rfl ⟨3, .phase⟩ (by simp) rfl
          have p4 : l 4 = true := hpre _ rfl ⟨4, .phase⟩ (by simp) rfl
          have p5 : l 5 = true := hpre _ rfl ⟨5, .phase⟩ (by simp) rfl
          have p6 : l 6 = true := hpre _ rfl ⟨6, .phase⟩ (by simp) rfl
          have p7 : l 7 = true := hpre _ rfl ⟨7, .phase⟩ (by simp) rfl
          have p8 : l 8 = true := hpre _ rfl ⟨8, .phase⟩ (by simp) rfl
          refine wpOp_step rfl (fun K' hK => ?_)
          simp only [p10, p9, p0, p1, p2, p3, p4, p5, p6, p7, p8, cond_true, cond_false]
          clear hpre
          rw [if_pos (by rfl)]
          go_simp
          exact hK _ _ ⟨by simp [upd, Act.put, p10, p9, p0, p1, p2, p3, p4, p5, p6, p7, p8], rfl⟩
        · -- 12: Op.assign (Operand.const (Value.int IntKind.i64 0))
          have p11 : l 11 = true := hpre _ rfl ⟨11, .chain⟩ (by simp) rfl
          have p0 : l 0 = true := hpre _ rfl ⟨0, .phase⟩ (by simp) rfl
          have p1 : l 1 = true := hpre _ rfl ⟨1, .phase⟩ (by simp) rfl
          have p2 : l 2 = true := hpre _ rfl ⟨2, .phase⟩ (by simp) rfl
          have p3 : l 3 = true := hpre _ rfl ⟨3, .phase⟩ (by simp) rfl
          have p4 : l 4 = true := hpre _ rfl ⟨4, .phase⟩ (by simp) rfl
          have p5 : l 5 = true := hpre _ rfl ⟨5, .phase⟩ (by simp) rfl
          have p6 : l 6 = true := hpre _ rfl ⟨6, .phase⟩ (by simp) rfl
          have p7 : l 7 = true := hpre _ rfl ⟨7, .phase⟩ (by simp) rfl
          have p8 : l 8 = true := hpre _ rfl ⟨8, .phase⟩ (by simp) rfl
          have p9 : l 9 = true := hpre _ rfl ⟨9, .phase⟩ (by simp) rfl
          have p10 : l 10 = true := hpre _ rfl ⟨10, .phase⟩ (by simp) rfl
          refine wpOp_step rfl (fun K' hK => ?_)
          simp only [p11, p0, p1, p2, p3, p4, p5, p6, p7, p8, p9, p10, cond_true, cond_false]
          clear hpre
          rw [if_pos (by rfl)]
          go_simp
          exact hK _ _ ⟨by simp [upd, Act.put, p11, p0, p1, p2, p3, p4, p5, p6, p7, p8, p9, p10], rfl⟩
      · rintro l a' w9 hall ⟨rfl, rfl⟩
        simp only [hall 0 (by decide), hall 1 (by decide), hall 2 (by decide), hall 3 (by decide), hall 4 (by decide), hall 5 (by decide), hall 6 (by decide), hall 7 (by decide), hall 8 (by decide), hall 9 (by decide), hall 10 (by decide), hall 11 (by decide), hall 12 (by decide), cond_true]
        clear hall
        clear hwsh hw3 hw4 hw7 hw8 hw12
        go_wp2_with fail
        go_ret2
        exact ⟨by first | (rw [HV.out, HC.out]; rfl) | rw [HV.out, HC.out], HB.out⟩
    · have e2 := iw_no hz
      have HC : Hid (bnc K D E P Q G z = 2) := Lib.hid (by unfold bnc; rw [hsb, e2]; rfl)
      have HV := Lib.hid (bnv_bad HC.out (by decide))
      have HE2 := Lib.hid e2
      clear e2 hsc hsb hz HE
      go_wp2_with fail
      refine (isWithin_any z 0 8 w2).mono ?_
      rintro e w3 ⟨rfl, rfl⟩
      rw [HE2.out]
      go_wp2_with fail
      go_ret2
      exact ⟨by first | (rw [HV.out, HC.out]; rfl) | rw [HV.out, HC.out], H2.out.1⟩
  · have HC : Hid (bnc K D E P Q G z = 30) := Lib.hid (by unfold bnc; rw [scb_no h]; rfl)
    have HV := Lib.hid (bnv_bad HC.out (by decide))
    rw [scc_no h]
    clear h HE
    go_wp2_with fail
    go_ret2
    exact ⟨by first | (rw [HV.out, HC.out]; rfl) | rw [HV.out, HC.out], H2.out.1⟩

set_option maxRecDepth 100000 in
set_option maxHeartbeats 400000 in
theorem refBound_any (K D E z : Int) (P Q G : Nat) (w : World) (hK0 : 0 ≤ K) (hK1 : K ≤ 255) :
    Calls Try.prog 46 #[.agg #[.int .u8 K, .int .i64 D, .int .i64 E, .int .u64 (P : Int), .int .u64 (Q : Int), .int .u64 (G : Int)], .int .i64 z] w fun e w' => e = .returned (.tuple #[.int .i64 (bnv K D E P Q G z), .int .i64 (bnc K D E P Q G z)]) ∧ Below w.heap.size w w' := by
  obtain ⟨N, hN⟩ : ∃ N, N = w.heap.size := ⟨_, rfl⟩
  obtain ⟨W1, hW1⟩ : ∃ W1, W1 = w.alloc (.cells #[.int .u8 K, .int .i64 D, .int .i64 E, .int .u64 (P : Int), .int .u64 (Q : Int), .int .u64 (G : Int)] 45) := ⟨_, rfl⟩
  have b1 : Below N w W1 := by rw [hW1, hN]; exact below_alloc _ _
  have e1 : Blk W1 N #[.int .u8 K, .int .i64 D, .int .i64 E, .int .u64 (P : Int), .int .u64 (Q : Int), .int .u64 (G : Int)] 45 := by rw [hW1, hN]; exact Blk.new w _ _
  have HE : Hid (Below N w W1 ∧ Blk W1 N #[.int .u8 K, .int .i64 D, .int .i64 E, .int .u64 (P : Int), .int .u64 (Q : Int), .int .u64 (G : Int)] 45 ∧ N ≤ W1.heap.size) := Lib.hid ⟨b1, e1, by rw [hW1, hN]; simp⟩
  have HCk := Lib.hid (fun w => refCheck_any K D E P Q G w hK0 hK1)
  have HN := Lib.hid hN
  have HW := Lib.hid hW1
  have c0 : W1.cell? ⟨N, 0, none⟩ = some (.int .u8 K) := e1.cell 0
  have c1 : W1.cell? ⟨N, 1, none⟩ = some (.int .i64 D) := e1.cell 1
  have c2 : W1.cell? ⟨N, 2, none⟩ = some (.int .i64 E) := e1.cell 2
  have c3 : W1.cell? ⟨N, 3, none⟩ = some (.int .u64 (P : Int)) := e1.cell 3
  have c4 : W1.cell? ⟨N, 4, none⟩ = some (.int .u64 (Q : Int)) := e1.cell 4
  have c5 : W1.cell? ⟨N, 5, none⟩ = some (.int .u64 (G : Int)) := e1.cell 5
  rw [hW1, hN] at c0 c1 c2 c3 c4 c5
  rw [← hN]
  clear hN hW1 b1 e1 hK0 hK1
  go_enter Try.func46, Try.ntmps46
  go_wp2_with fail
  rw [← HW.out, ← HN.out]
  refine (HCk.out _).mono ?_
  rintro e w2 ⟨rfl, hb2⟩
  have H2 : Hid (Below N w w2 ∧ N ≤ w2.heap.size ∧ Blk w2 N #[.int .u8 K, .int .i64 D, .int .i64 E, .int .u64 (P : Int), .int .u64 (Q : Int), .int .u64 (G : Int)] 45) := Lib.hid ⟨HE.out.1.trans (hb2.mono HE.out.2.2), Nat.le_trans HE.out.2.2 hb2.size, HE.out.2.1.keep hb2⟩
  clear hb2 c0 c1 c2 c3 c4 c5
  by_cases h : ScOk K D E P Q G
  · have hsc := scc_yes h
    have hsb := scb_yes h
    rw [hsc]
    obtain ⟨-, -, hD0, hD6, -, -, -, -⟩ := h
    rcases (by omega : z < 0 ∨ (0 ≤ z ∧ 8 < z) ∨ (0 ≤ z ∧ z ≤ 8)) with hz | ⟨hz0, hz⟩ | ⟨hz0, hz⟩
    case inr.inr =>
      have e2 := iw_yes hz0 hz
      obtain ⟨d, rfl⟩ := Int.eq_ofNat_of_zero_le hD0
      have HV : Hid (bnv K d E P Q G z = (2 * ((2 ^ d : Nat) : Int) + 1) * ((d : Int) + 2) * (2 * z + 1)) := Lib.hid (by unfold bnv bnc; rw [hsb, e2]; simp)
      have HC : Hid (bnc K d E P Q G z = 0) := Lib.hid (by unfold bnc; rw [hsb, e2]; rfl)
      have HLm := Lib.hid (fun w => limit_any K E z P Q G d w (by omega) hz0 hz)
      have n1 : ¬ (z < 0) := by omega
      have n2 : ¬ (8 < z) := by omega
      have c0 := H2.out.2.2.cell 0
      have c1 := H2.out.2.2.cell 1
      have c2 := H2.out.2.2.cell 2
      have c3 := H2.out.2.2.cell 3
      have c4 := H2.out.2.2.cell 4
      have c5 := H2.out.2.2.cell 5
      clear e2 hsc hsb HE
      go_wp2_with fail
      refine (HLm.out _).mono ?_
      rintro e w3 ⟨rfl, hb3⟩
      have H3 := Lib.hid (H2.out.1.trans (hb3.mono H2.out.2.1))
      clear hb3 c0 c1 c2 c3 c4 c5
      go_wp2_with fail
      go_ret2
      exact ⟨by first | (rw [HV.out, HC.out]; rfl) | rw [HV.out, HC.out], H3.out⟩
    all_goals
      have e2 : iw z 0 8 = false := iw_no (by omega)
      have HC : Hid (bnc K D E P Q G z = 2) := Lib.hid (by unfold bnc; rw [hsb, e2]; rfl)
      have HV := Lib.hid (bnv_bad HC.out (by decide))
      clear e2 hsc hsb HE
      go_wp2_with fail
      go_ret2
      exact ⟨by first | (rw [HV.out, HC.out]; rfl) | rw [HV.out, HC.out], H2.out.1⟩
  · have HC : Hid (bnc K D E P Q G z = 30) := Lib.hid (by unfold bnc; rw [scb_no h]; rfl)
    have HV := Lib.hid (bnv_bad HC.out (by decide))
    rw [scc_no h]
    clear h HE
    go_wp2_with fail
    go_ret2
    exact ⟨by first | (rw [HV.out, HC.out]; rfl) | rw [HV.out, HC.out], H2.out.1⟩

set_option maxRecDepth 100000 in
set_option maxHeartbeats 400000 in
theorem counts_walk (u p K D E z : Int) (P Q G : Nat) (w : World) (hK0 : 0 ≤ K) (hK1 : K ≤ 255) :
    Calls Try.prog 14 #[.int .i64 u, .int .i64 p, .agg #[.int .u8 K, .int .i64 D, .int .i64 E, .int .u64 (P : Int), .int .u64 (Q : Int), .int .u64 (G : Int)], .int .i64 z] w fun e w' => e = .returned (.bool true) ∧ Below w.heap.size w w' := by
  obtain ⟨N, hN⟩ : ∃ N, N = w.heap.size := ⟨_, rfl⟩
  obtain ⟨W1, hW1⟩ : ∃ W1, W1 = w.alloc (.cells #[.int .u8 K, .int .i64 D, .int .i64 E, .int .u64 (P : Int), .int .u64 (Q : Int), .int .u64 (G : Int)] 45) := ⟨_, rfl⟩
  have b1 : Below N w W1 := by rw [hW1, hN]; exact below_alloc _ _
  have e1 : Blk W1 N #[.int .u8 K, .int .i64 D, .int .i64 E, .int .u64 (P : Int), .int .u64 (Q : Int), .int .u64 (G : Int)] 45 := by rw [hW1, hN]; exact Blk.new w _ _
  have HE : Hid (Below N w W1 ∧ Blk W1 N #[.int .u8 K, .int .i64 D, .int .i64 E, .int .u64 (P : Int), .int .u64 (Q : Int), .int .u64 (G : Int)] 45 ∧ N ≤ W1.heap.size) := Lib.hid ⟨b1, e1, by rw [hW1, hN]; simp⟩
  have HB1 := Lib.hid (fun w => bound_any K D E z P Q G w hK0 hK1)
  have HB2 := Lib.hid (fun w => refBound_any K D E z P Q G w hK0 hK1)
  have HR1 := Lib.hid (fun w => rounds_any u p w)
  have HR2 := Lib.hid (fun w => refRounds_any u p w)
  obtain ⟨a, ha⟩ : ∃ a, a = bnv K D E P Q G z := ⟨_, rfl⟩
  obtain ⟨b, hb⟩ : ∃ b, b = bnc K D E P Q G z := ⟨_, rfl⟩
  obtain ⟨x, hx⟩ : ∃ x, x = rdv u p := ⟨_, rfl⟩
  obtain ⟨y, hy⟩ : ∃ y, y = rdc u p := ⟨_, rfl⟩
  rw [← ha, ← hb] at HB1 HB2
  rw [← hx, ← hy] at HR1 HR2
  have HN := Lib.hid hN
  have HW := Lib.hid hW1
  rw [← hN]
  clear hN hW1 b1 e1 hK0 hK1 ha hb hx hy
  go_enter Try.func14, Try.ntmps14
  go_wp2_with fail
  rw [← HW.out]
  refine (HR1.out _).mono ?_
  rintro e w1 ⟨rfl, rfl⟩
  go_wp2_with fail
  refine (HR2.out _).mono ?_
  rintro e w1 ⟨rfl, rfl⟩
  have c0 := HE.out.2.1.cell 0
  have c1 := HE.out.2.1.cell 1
  have c2 := HE.out.2.1.cell 2
  have c3 := HE.out.2.1.cell 3
  have c4 := HE.out.2.1.cell 4
  have c5 := HE.out.2.1.cell 5
  rw [HN.out] at c0 c1 c2 c3 c4 c5
  go_wp2_with fail
  refine (HB1.out _).mono ?_
  rintro e w2 ⟨rfl, hb2⟩
  have H2 : Hid (Below N w w2 ∧ N ≤ w2.heap.size ∧ Blk w2 N #[.int .u8 K, .int .i64 D, .int .i64 E, .int .u64 (P : Int), .int .u64 (Q : Int), .int .u64 (G : Int)] 45) := Lib.hid ⟨HE.out.1.trans (hb2.mono HE.out.2.2), Nat.le_trans HE.out.2.2 hb2.size, HE.out.2.1.keep hb2⟩
  clear hb2 c0 c1 c2 c3 c4 c5
  have c0 := H2.out.2.2.cell 0
  have c1 := H2.out.2.2.cell 1
  have c2 := H2.out.2.2.cell 2
  have c3 := H2.out.2.2.cell 3
  have c4 := H2.out.2.2.cell 4
  have c5 := H2.out.2.2.cell 5
  rw [HN.out] at c0 c1 c2 c3 c4 c5
  go_wp2_with fail
  refine (HB2.out _).mono ?_
  rintro e w3 ⟨rfl, hb3⟩
  have H3 := Lib.hid (H2.out.1.trans (hb3.mono H2.out.2.1))
  clear hb3 c0 c1 c2 c3 c4 c5
  go_wp2_with fail
  go_ret
  exact ⟨by first | rfl | simp, H3.out⟩
end Go.Proofs.Ytchkgccnipejhaa
