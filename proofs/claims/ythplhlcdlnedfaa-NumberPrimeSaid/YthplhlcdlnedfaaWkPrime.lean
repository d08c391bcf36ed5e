/- The walk over NumberPrime. -/
import Derived.Test.YthplhlcdlnedfaaLawBase
namespace Go.Proofs.Ythplhlcdlnedfaa.numberPrime
open Go.RowKit MN

theorem prc_le (n : Nat) (h : n ≤ 1048575) : prc n = 0 := by rw [prc, if_neg (by omega)]
theorem prc_gt (n : Nat) (h : 1048575 < n) : prc n = 4 := by rw [prc, if_pos (by omega)]
theorem prb_le (n : Nat) (h : n ≤ 1048575) : prb n = prv n := by rw [prb, if_neg (by omega)]

/-- What the first call says. -/
theorem call1 (a : Nat) (w : World) (p : Bool) (h : a ≤ 1048575) (hp : prv a = p) : Calls Try.prog 39 #[.int .u64 (a : Int)] w fun e w' => e = .returned (.tuple #[.bool p, .int .i64 0]) ∧ w = w' := by
  have H := prime_any (a : Int) w (by omega)
  rw [prb_le a h, prc_le a h, hp] at H
  exact H

set_option maxRecDepth 100000 in
set_option maxHeartbeats 2000000 in
theorem walkN (a b : Nat) (ha : a ≤ 18446744073709551615) (hb : b ≤ 18446744073709551615) (w : World) :
    Calls Try.prog 18 #[.int .u64 (a : Int), .int .u64 (b : Int)] w fun e w' => e = .returned (.bool true) ∧ Below w.heap.size w w' := by
  have HA := Lib.hid (alive_any w)
  by_cases hbig : 1048575 < a
  · have HX := Lib.hid (fun (w : World) => prime_any (a : Int) w (by omega))
    rw [prc_gt a hbig] at HX
    go_enter Try.func18, Try.ntmps18
    go_wp2_with fail
    refine HA.out.mono ?_
    rintro e w1 ⟨rfl, hb1⟩
    go_wp2_with fail
    refine (HX.out w1).mono ?_
    rintro e w2 ⟨rfl, rfl⟩
    go_wp2
    go_ret
    exact ⟨rfl, hb1⟩
  · have hle : a ≤ 1048575 := by omega
    clear hbig
    -- the ways on which the second call is not made
    have short : ∀ p : Bool, prv a = p →
        ((a < 2 ∧ p = false) ∨ (2 ≤ a ∧ b < 2) ∨ (2 ≤ a ∧ 2 ≤ b ∧ (∃ D : Nat, (1048575 : Int) / (a : Int) = (D : Int) ∧ D < b) ∧ (p = false ∨ a ≤ b ∨ (b < a ∧ ∃ E : Nat, (a : Int) % (b : Int) = (E : Int) ∧ ((E : Int) == 0) = false)))) →
        Calls Try.prog 18 #[.int .u64 (a : Int), .int .u64 (b : Int)] w fun e w' => e = .returned (.bool true) ∧ Below w.heap.size w w' := by
      rintro p hp h
      have HX := Lib.hid (fun (w : World) => call1 a w p hle hp)
      clear hp
      rcases h with ⟨h1, rfl⟩ | ⟨h1, h2⟩ | ⟨h1, h2, ⟨D, hD, h3⟩, rfl | h4 | ⟨h4, E, hE, h5⟩⟩
      case inr.inl => 
        cases p
        all_goals
          go_enter Try.func18, Try.ntmps18
          go_wp2_with fail
          refine HA.out.mono ?_
          rintro e w1 ⟨rfl, hb1⟩
          go_wp2_with fail
          refine (HX.out w1).mono ?_
          rintro e w2 ⟨rfl, rfl⟩
          go_wp2
          go_ret
          exact ⟨rfl, hb1⟩
      case inr.inr.inr.inl =>
        cases p
        all_goals
          go_enter Try.func18, Try.ntmps18
          go_wp2_with fail
          refine HA.out.mono ?_
          rintro e w1 ⟨rfl, hb1⟩
          go_wp2_with fail
          refine (HX.out w1).mono ?_
          rintro e w2 ⟨rfl, rfl⟩
          go_wp2
          go_ret
          exact ⟨rfl, hb1⟩
      case inr.inr.inr.inr =>
        cases p
        all_goals
          go_enter Try.func18, Try.ntmps18
          go_wp2_with fail
          refine HA.out.mono ?_
          rintro e w1 ⟨rfl, hb1⟩
          go_wp2_with fail
          refine (HX.out w1).mono ?_
          rintro e w2 ⟨rfl, rfl⟩
          go_wp2
          go_ret
          exact ⟨rfl, hb1⟩
      all_goals
        go_enter Try.func18, Try.ntmps18
        go_wp2_with fail
        refine HA.out.mono ?_
        rintro e w1 ⟨rfl, hb1⟩
        go_wp2_with fail
        refine (HX.out w1).mono ?_
        rintro e w2 ⟨rfl, rfl⟩
        go_wp2
        go_ret
        exact ⟨rfl, hb1⟩
    have long : ∀ p : Bool, prv a = p → 2 ≤ a → 2 ≤ b → (∃ D : Nat, (1048575 : Int) / (a : Int) = (D : Int) ∧ b ≤ D) → (p = false ∨ a ≤ b ∨ (b < a ∧ ∃ E : Nat, (a : Int) % (b : Int) = (E : Int) ∧ ((E : Int) == 0) = false)) →
        (∃ M : Nat, IntKind.u64.wrap ((a : Int) * (b : Int)) = (M : Int) ∧ M ≤ 1048575 ∧ prv M = false) →
        Calls Try.prog 18 #[.int .u64 (a : Int), .int .u64 (b : Int)] w fun e w' => e = .returned (.bool true) ∧ Below w.heap.size w w' := by
      rintro p hp h1 h2 ⟨D, hD, h3⟩ h ⟨M, hM, hM2, hM3⟩
      have HX := Lib.hid (fun (w : World) => call1 a w p hle hp)
      have HY := Lib.hid (fun (w : World) => call1 M w false hM2 hM3)
      clear hp hM3
      rcases h with rfl | h4 | ⟨h4, E, hE, h5⟩
      case inr.inl =>
        cases p
        all_goals
          go_enter Try.func18, Try.ntmps18
          go_wp2_with fail
          refine HA.out.mono ?_
          rintro e w1 ⟨rfl, hb1⟩
          go_wp2_with fail
          refine (HX.out w1).mono ?_
          rintro e w2 ⟨rfl, rfl⟩
          go_wp2_with fail
          refine (HY.out _).mono ?_
          rintro e w2 ⟨rfl, rfl⟩
          go_wp2
          go_ret
          exact ⟨rfl, hb1⟩
      case inr.inr =>
        cases p
        all_goals
          go_enter Try.func18, Try.ntmps18
          go_wp2_with fail
          refine HA.out.mono ?_
          rintro e w1 ⟨rfl, hb1⟩
          go_wp2_with fail
          refine (HX.out w1).mono ?_
          rintro e w2 ⟨rfl, rfl⟩
          go_wp2_with fail
          refine (HY.out _).mono ?_
          rintro e w2 ⟨rfl, rfl⟩
          go_wp2
          go_ret
          exact ⟨rfl, hb1⟩
      all_goals
        go_enter Try.func18, Try.ntmps18
        go_wp2_with fail
        refine HA.out.mono ?_
        rintro e w1 ⟨rfl, hb1⟩
        go_wp2_with fail
        refine (HX.out w1).mono ?_
        rintro e w2 ⟨rfl, rfl⟩
        go_wp2_with fail
        refine (HY.out _).mono ?_
        rintro e w2 ⟨rfl, rfl⟩
        go_wp2
        go_ret
        exact ⟨rfl, hb1⟩
    by_cases h1 : a < 2
    · exact short false (prv_no a (MA.not_pr_small a h1)) (.inl ⟨h1, rfl⟩)
    · have h1' : 2 ≤ a := by omega
      by_cases h2 : b < 2
      · exact short _ rfl (.inr (.inl ⟨h1', h2⟩))
      · have h2' : 2 ≤ b := by omega
        have key : prv a = false ∨ a ≤ b ∨ (b < a ∧ ∃ E : Nat, (a : Int) % (b : Int) = (E : Int) ∧ ((E : Int) == 0) = false) := by
          cases hp : prv a
          · exact .inl rfl
          · by_cases h4 : a ≤ b
            · exact .inr (.inl h4)
            · refine .inr (.inr ⟨by omega, a % b, rfl, ?_⟩)
              have := MA.pr_no_div a b (prv_pr a hp) h2' (by omega)
              rw [beq_eq_false_iff_ne]; omega
        have hD : (1048575 : Int) / (a : Int) = ((1048575 / a : Nat) : Int) := rfl
        by_cases h3 : 1048575 / a < b
        · exact short _ rfl (.inr (.inr ⟨h1', h2', ⟨_, hD, h3⟩, key⟩))
        · have hm : a * b ≤ 1048575 := by
            have := Nat.mul_le_mul_left a (show b ≤ 1048575 / a by omega)
            exact Nat.le_trans this (Nat.mul_div_le _ _)
          refine long _ rfl h1' h2' ⟨_, hD, by omega⟩ key ⟨a * b, ?_, hm, prv_no _ (MA.not_pr_mul a b h1' h2')⟩
          rw [IntKind.wrap_u64, ← Int.natCast_mul]; omega

theorem walk (a0 : Int) (a1 : Int) (w0 : (Lit.int .u64 a0).wf = true) (w1 : (Lit.int .u64 a1).wf = true) (w : World) :
    Calls Try.prog 18 #[.int .u64 a0, .int .u64 a1] w fun e w' => e = .returned (.bool true) ∧ Below w.heap.size w w' := by
  have b0 := bounds_u64 w0
  have b1 := bounds_u64 w1
  obtain ⟨n0, rfl⟩ := Int.eq_ofNat_of_zero_le b0.1
  obtain ⟨n1, rfl⟩ := Int.eq_ofNat_of_zero_le b1.1
  exact walkN n0 n1 (by omega) (by omega) w
end Go.Proofs.Ythplhlcdlnedfaa.numberPrime
