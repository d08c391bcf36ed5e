/-
  Contracts: groups of the specification.
-/
import Derived.Test.YtcbanemkjebdcaaGrpB
namespace Go.Proofs.Ytcbanemkjebdcaa
open Go.RowKit

theorem okP_no (P Q G : Nat) (h : prv P = false) : ¬ GrOk P Q G := fun k => by rw [prv_yes P k.2.1] at h; cases h
theorem okQ_no (P Q G : Nat) (h : prv Q = false) : ¬ GrOk P Q G := fun k => by rw [prv_yes Q k.2.2.2.1] at h; cases h
theorem prv_pr (P : Nat) (h : prv P = true) : MA.IsPr P := by
  rcases Classical.em (MA.IsPr P) with k | k
  · exact k
  · rw [prv_no P k] at h; cases h

set_option maxRecDepth 100000 in
set_option maxHeartbeats 2000000 in
theorem validGroup_any (p q g : Int) (w : World) (hp : 0 ≤ p) (hq : 0 ≤ q) (hg : 0 ≤ g) :
    Calls Try.prog 93 #[.agg #[.int .u64 p, .int .u64 q, .int .u64 g]] w fun e w' => e = .returned (.bool (grb p q g)) ∧ Below w.heap.size w w' := by
  obtain ⟨P, rfl⟩ := Int.eq_ofNat_of_zero_le hp
  obtain ⟨Q, rfl⟩ := Int.eq_ofNat_of_zero_le hq
  obtain ⟨G, rfl⟩ := Int.eq_ofNat_of_zero_le hg
  by_cases k0 : 1048575 < P
  · have H := Lib.hid (grb_no P Q G (fun k => by have := k.1; omega))
    go_enter Try.func93, Try.ntmps93
    go_wp2
    go_ret
    exact ⟨by rw [H.out]; try rfl, (Below.refl _ _).alloc (Nat.le_refl _) _⟩
  · have k0' : P ≤ 1048575 := by omega
    cases k1 : prv P
    · have H := Lib.hid (grb_no P Q G (okP_no P Q G k1))
      go_enter Try.func93, Try.ntmps93
      go_wp2_with (go_at_call 134; refine (isPrimeRef_any _ _ (by omega) (by omega)).mono ?_; rintro e w' ⟨rfl, rfl⟩)
      go_ret
      exact ⟨by rw [H.out]; try rfl, (Below.refl _ _).alloc (Nat.le_refl _) _⟩
    · by_cases k2 : 1048575 < Q
      · have H := Lib.hid (grb_no P Q G (fun k => by have := k.2.2.1; omega))
        go_enter Try.func93, Try.ntmps93
        go_wp2_with (go_at_call 134; refine (isPrimeRef_any _ _ (by omega) (by omega)).mono ?_; rintro e w' ⟨rfl, rfl⟩)
        go_ret
        exact ⟨by rw [H.out]; try rfl, (Below.refl _ _).alloc (Nat.le_refl _) _⟩
      · have k2' : Q ≤ 1048575 := by omega
        cases k3 : prv Q
        · have H := Lib.hid (grb_no P Q G (okQ_no P Q G k3))
          go_enter Try.func93, Try.ntmps93
          go_wp2_with (go_at_call 134; refine (isPrimeRef_any _ _ (by omega) (by omega)).mono ?_; rintro e w' ⟨rfl, rfl⟩)
          go_ret
          exact ⟨by rw [H.out]; try rfl, (Below.refl _ _).alloc (Nat.le_refl _) _⟩
        · have hP2 : 2 ≤ P := (prv_pr P k1).1
          have hQ0 : 2 ≤ Q := (prv_pr Q k3).1
          have ec : (((P - 1) % Q : Nat) : Int) = ((P : Int) - 1) % (Q : Int) := by
            rw [Int.natCast_emod, Int.ofNat_sub (by omega)]; rfl
          have ep : pwr G Q P = ((G ^ Q % P : Nat) : Int) := pwr_nat G Q P
          have key : (((((P : Int) - 1) % (Q : Int) != 0) = true ∧ grb P Q G = false) ∨ ((((P : Int) - 1) % (Q : Int) != 0) = false ∧ G < 2 ∧ grb P Q G = false)) ∨ (((((P : Int) - 1) % (Q : Int) != 0) = false ∧ 2 ≤ G ∧ P ≤ G ∧ grb P Q G = false) ∨
              ((((P : Int) - 1) % (Q : Int) != 0) = false ∧ 2 ≤ G ∧ G < P ∧ (pwr G Q P == 1) = false ∧ grb P Q G = false)) ∨ ((((P : Int) - 1) % (Q : Int) != 0) = false ∧ 2 ≤ G ∧ G < P ∧ (pwr G Q P == 1) = true ∧ grb P Q G = true) := by
            rw [← ec, ep]
            by_cases c1 : (P - 1) % Q = 0
            · have d1 : ((((P - 1) % Q : Nat) : Int) != 0) = false := by rw [c1]; rfl
              by_cases c2 : 2 ≤ G
              · by_cases c3 : G < P
                · by_cases c4 : G ^ Q % P = 1
                  · exact .inr (.inr ⟨d1, c2, c3, by rw [c4]; rfl, grb_yes P Q G ⟨k0', prv_pr P k1, k2', prv_pr Q k3, c1, c2, c3, c4⟩⟩)
                  · exact .inr (.inl (.inr ⟨d1, c2, c3, by rw [beq_eq_false_iff_ne]; omega, grb_no P Q G (fun k => c4 k.2.2.2.2.2.2.2)⟩))
                · exact .inr (.inl (.inl ⟨d1, c2, by omega, grb_no P Q G (fun k => c3 k.2.2.2.2.2.2.1)⟩))
              · exact .inl (.inr ⟨d1, by omega, grb_no P Q G (fun k => c2 k.2.2.2.2.2.1)⟩)
            · exact .inl (.inl ⟨by rw [bne_iff_ne]; omega, grb_no P Q G (fun k => c1 k.2.2.2.2.1)⟩)
          clear ec ep
          rcases key with (⟨d1, H⟩ | ⟨d1, d2, H⟩) | (⟨d1, d2, d3, H⟩ | ⟨d1, d2, d3, d4, H⟩) | ⟨d1, d2, d3, d4, H⟩
          all_goals
            have HH := Lib.hid H
            clear H
            go_enter Try.func93, Try.ntmps93
            go_wp2_with (first
              | (go_at_call 134; refine (isPrimeRef_any _ _ (by omega) (by omega)).mono ?_; rintro e w' ⟨rfl, rfl⟩)
              | (go_at_call 70; refine (powerRef_any _ _ _ _ (by omega) (by omega) (by omega) (by omega) (by omega)).mono ?_; rintro e w' ⟨rfl, rfl⟩))
            go_ret
            exact ⟨by rw [HH.out]; try rfl, (Below.refl _ _).alloc (Nat.le_refl _) _⟩

end Go.Proofs.Ytcbanemkjebdcaa
