/- The walk over NumberPower. -/
import Derived.Test.YthplhlcdlnedfaaLawBase
namespace Go.Proofs.Ythplhlcdlnedfaa.numberPower
open Go.RowKit MN

theorem lt32 (a m : Nat) (h1 : 1 ≤ m) : a % m < m := Nat.mod_lt _ h1

set_option maxRecDepth 100000 in
set_option maxHeartbeats 2000000 in
theorem walkN (b i j m : Nat) (hb : b ≤ 18446744073709551615) (hi : i ≤ 18446744073709551615) (hj : j ≤ 18446744073709551615) (hm : m ≤ 18446744073709551615) (w : World) :
    Calls Try.prog 15 #[.int .u64 (b : Int), .int .u64 (i : Int), .int .u64 (j : Int), .int .u64 (m : Int)] w fun e w' => e = .returned (.bool true) ∧ Below w.heap.size w w' := by
  have HA := Lib.hid (alive_any w)
  have HP := fun (n : Nat) (hn : n ≤ 18446744073709551615) (w : World) => powMod_any (b : Int) (n : Int) (m : Int) w (by omega) (by omega) (by omega)
  by_cases h : 1 ≤ m ∧ m ≤ 4294967295
  · obtain ⟨h1, h2⟩ := h
    by_cases hij : i ≤ 4611686018427387904 ∧ j ≤ 4611686018427387904
    · obtain ⟨g1, g2⟩ := hij
      obtain ⟨S, hS⟩ : ∃ S, S = i + j := ⟨_, rfl⟩
      obtain ⟨T, hT⟩ : ∃ T, T = i + 1 := ⟨_, rfl⟩
      have hp : pmc m = 0 := pmc_yes m h1 h2
      obtain ⟨X, hX⟩ : ∃ X, X = b ^ i % m := ⟨_, rfl⟩
      obtain ⟨Y, hY⟩ : ∃ Y, Y = b ^ j % m := ⟨_, rfl⟩
      obtain ⟨Z, hZ⟩ : ∃ Z, Z = b ^ S % m := ⟨_, rfl⟩
      obtain ⟨V, hV⟩ : ∃ V, V = b ^ T % m := ⟨_, rfl⟩
      obtain ⟨O, hO⟩ : ∃ O, O = b ^ 0 % m := ⟨_, rfl⟩
      obtain ⟨R, hR⟩ : ∃ R, R = b % m := ⟨_, rfl⟩
      have lX : X < m := by rw [hX]; exact lt32 _ _ h1
      have lY : Y < m := by rw [hY]; exact lt32 _ _ h1
      have lR : R < m := by rw [hR]; exact lt32 _ _ h1
      obtain ⟨P, hP⟩ : ∃ P, P = X * Y := ⟨_, rfl⟩
      obtain ⟨Q, hQ⟩ : ∃ Q, Q = X * R := ⟨_, rfl⟩
      have lP : P < 18446744073709551616 := by
        rw [hP]; exact Nat.lt_of_le_of_lt (Nat.mul_le_mul (show X ≤ 4294967294 by omega) (show Y ≤ 4294967294 by omega)) (by decide)
      have lQ : Q < 18446744073709551616 := by
        rw [hQ]; exact Nat.lt_of_le_of_lt (Nat.mul_le_mul (show X ≤ 4294967294 by omega) (show R ≤ 4294967294 by omega)) (by decide)
      have e1 : IntKind.u64.wrap ((i : Int) + (j : Int)) = (S : Int) := by rw [IntKind.wrap_u64]; omega
      have e2 : IntKind.u64.wrap ((i : Int) + 1) = (T : Int) := by rw [IntKind.wrap_u64]; omega
      have e3 : IntKind.u64.wrap ((X : Int) * (Y : Int)) = (P : Int) := by rw [IntKind.wrap_u64, ← Int.natCast_mul, ← hP]; omega
      have e4 : IntKind.u64.wrap ((X : Int) * (R : Int)) = (Q : Int) := by rw [IntKind.wrap_u64, ← Int.natCast_mul, ← hQ]; omega
      have r1 : (b : Int) % (m : Int) = (R : Int) := by rw [hR]; rfl
      have r2 : (P : Int) % (m : Int) = (Z : Int) := by
        rw [hZ, hS, hP, hX, hY, Nat.pow_add, Nat.mul_mod]; rfl
      have r3 : (Q : Int) % (m : Int) = (V : Int) := by
        rw [hV, hT, hQ, hX, hR, Nat.pow_succ, Nat.mul_mod]; rfl
      have r4 : (1 : Int) % (m : Int) = (O : Int) := by rw [hO, Nat.pow_zero]; rfl
      have v1 := HP i hi
      rw [pmv_nat b i m h1 h2, ← hX] at v1
      have v2 := HP j hj
      rw [pmv_nat b j m h1 h2, ← hY] at v2
      have v3 := HP S (by omega)
      rw [pmv_nat b S m h1 h2, ← hZ] at v3
      have v4 := HP T (by omega)
      rw [pmv_nat b T m h1 h2, ← hV] at v4
      have v5 := HP 0 (by omega)
      rw [pmv_nat b 0 m h1 h2, ← hO] at v5
      have V1 := Lib.hid v1
      have V2 := Lib.hid v2
      have V3 := Lib.hid v3
      have V4 := Lib.hid v4
      have V5 := Lib.hid v5
      clear HP v1 v2 v3 v4 v5 hS hT hX hY hZ hV hO hR hP hQ
      go_enter Try.func15, Try.ntmps15
      go_wp2_with fail
      refine HA.out.mono ?_
      rintro e w1 ⟨rfl, hb1⟩
      go_wp2_with fail
      refine (V1.out w1).mono ?_
      rintro e w2 ⟨rfl, rfl⟩
      go_wp2_with fail
      refine (V2.out _).mono ?_
      rintro e w2 ⟨rfl, rfl⟩
      go_wp2_with fail
      refine (V3.out _).mono ?_
      rintro e w2 ⟨rfl, rfl⟩
      go_wp2_with fail
      refine (V4.out _).mono ?_
      rintro e w2 ⟨rfl, rfl⟩
      go_wp2_with fail
      refine (V5.out _).mono ?_
      rintro e w2 ⟨rfl, rfl⟩
      go_wp2
      go_ret
      exact ⟨rfl, hb1⟩
    · have HX := Lib.hid (HP i hi)
      have hp : Hid (pmc m = 0) := Lib.hid (pmc_yes m h1 h2)
      clear HP
      by_cases h3 : 4611686018427387904 < i
      · go_enter Try.func15, Try.ntmps15
        go_wp2_with fail
        refine HA.out.mono ?_
        rintro e w1 ⟨rfl, hb1⟩
        go_wp2_with fail
        refine (HX.out w1).mono ?_
        rintro e w2 ⟨rfl, rfl⟩
        go_wp2
        go_ret
        exact ⟨rfl, hb1⟩
      · have h4 : 4611686018427387904 < j := by omega
        go_enter Try.func15, Try.ntmps15
        go_wp2_with fail
        refine HA.out.mono ?_
        rintro e w1 ⟨rfl, hb1⟩
        go_wp2_with fail
        refine (HX.out w1).mono ?_
        rintro e w2 ⟨rfl, rfl⟩
        go_wp2
        go_ret
        exact ⟨rfl, hb1⟩
  · have HX := Lib.hid (HP i hi)
    have hp := pmc_no m h
    clear HP
    by_cases h0 : m < 1
    · go_enter Try.func15, Try.ntmps15
      go_wp2_with fail
      refine HA.out.mono ?_
      rintro e w1 ⟨rfl, hb1⟩
      go_wp2_with fail
      refine (HX.out w1).mono ?_
      rintro e w2 ⟨rfl, rfl⟩
      go_wp2
      go_ret
      exact ⟨rfl, hb1⟩
    · have h4 : 4294967296 ≤ m := by omega
      go_enter Try.func15, Try.ntmps15
      go_wp2_with fail
      refine HA.out.mono ?_
      rintro e w1 ⟨rfl, hb1⟩
      go_wp2_with fail
      refine (HX.out w1).mono ?_
      rintro e w2 ⟨rfl, rfl⟩
      go_wp2
      go_ret
      exact ⟨rfl, hb1⟩

theorem walk (a0 : Int) (a1 : Int) (a2 : Int) (a3 : Int) (w0 : (Lit.int .u64 a0).wf = true) (w1 : (Lit.int .u64 a1).wf = true) (w2 : (Lit.int .u64 a2).wf = true) (w3 : (Lit.int .u64 a3).wf = true) (w : World) :
    Calls Try.prog 15 #[.int .u64 a0, .int .u64 a1, .int .u64 a2, .int .u64 a3] w fun e w' => e = .returned (.bool true) ∧ Below w.heap.size w w' := by
  have b0 := bounds_u64 w0
  have b1 := bounds_u64 w1
  have b2 := bounds_u64 w2
  have b3 := bounds_u64 w3
  obtain ⟨n0, rfl⟩ := Int.eq_ofNat_of_zero_le b0.1
  obtain ⟨n1, rfl⟩ := Int.eq_ofNat_of_zero_le b1.1
  obtain ⟨n2, rfl⟩ := Int.eq_ofNat_of_zero_le b2.1
  obtain ⟨n3, rfl⟩ := Int.eq_ofNat_of_zero_le b3.1
  exact walkN n0 n1 n2 n3 (by omega) (by omega) (by omega) (by omega) w

end Go.Proofs.Ythplhlcdlnedfaa.numberPower
