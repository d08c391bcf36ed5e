/-
  Contracts: groups, of the program and of the specification.
-/
import Derived.Test.YtcbanemkjebdcaaGrpA
import Derived.Handy
namespace Go.Proofs.Ytcbanemkjebdcaa
open Go.RowKit

/-- A valid group. -/
def GrOk (p q g : Nat) : Prop := p ≤ 1048575 ∧ MA.IsPr p ∧ q ≤ 1048575 ∧ MA.IsPr q ∧ (p - 1) % q = 0 ∧ 2 ≤ g ∧ g < p ∧ g ^ q % p = 1

noncomputable def grb (p q g : Int) : Bool := @decide (GrOk p.toNat q.toNat g.toNat) (Classical.propDecidable _)
noncomputable def grc (p q g : Int) : Int := if grb p q g then 0 else 13

theorem grb_yes (p q g : Nat) (h : GrOk p q g) : grb p q g = true := by simp only [grb, Int.toNat_natCast]; exact @decide_eq_true _ (Classical.propDecidable _) h
theorem grb_no (p q g : Nat) (h : ¬ GrOk p q g) : grb p q g = false := by simp only [grb, Int.toNat_natCast]; exact @decide_eq_false _ (Classical.propDecidable _) h
theorem grc_yes (p q g : Nat) (h : GrOk p q g) : grc p q g = 0 := by unfold grc; rw [grb_yes p q g h, if_pos rfl]
theorem grc_no (p q g : Nat) (h : ¬ GrOk p q g) : grc p q g = 13 := by unfold grc; rw [grb_no p q g h, if_neg (by simp)]

/-- The three ways of the test for a prime. -/
theorem prime_ways (n : Nat) : (((prc n != 0) = true ∧ prb n = false ∧ ¬ (n ≤ 1048575 ∧ MA.IsPr n)) ∨ ((prc n != 0) = false ∧ prb n = false ∧ ¬ (n ≤ 1048575 ∧ MA.IsPr n))) ∨ ((prc n != 0) = false ∧ prb n = true ∧ n ≤ 1048575 ∧ MA.IsPr n) := by
  by_cases h : 1048575 < n
  · refine .inl (.inl ⟨?_, if_pos (by omega), fun k => by omega⟩)
    unfold prc; rw [if_pos (by omega)]; rfl
  · have e1 : prb n = prv n := if_neg (by omega)
    have e2 : prc n = 0 := if_neg (by omega)
    rw [e1, e2]
    by_cases k : MA.IsPr n
    · exact .inr ⟨rfl, prv_yes n k, by omega, k⟩
    · exact .inl (.inr ⟨rfl, prv_no n k, fun z => k z.2⟩)

set_option maxRecDepth 100000 in
set_option maxHeartbeats 1000000 in
theorem checkGroup_any (p q g : Int) (w : World) (hp : 0 ≤ p) (hq : 0 ≤ q) (hg : 0 ≤ g) (hq2 : q ≤ 18446744073709551615) :
    Calls Try.prog 41 #[.agg #[.int .u64 p, .int .u64 q, .int .u64 g]] w fun e w' => e = .returned (.int .i64 (grc p q g)) ∧ Below w.heap.size w w' := by
  obtain ⟨P, rfl⟩ := Int.eq_ofNat_of_zero_le hp
  obtain ⟨Q, rfl⟩ := Int.eq_ofNat_of_zero_le hq
  obtain ⟨G, rfl⟩ := Int.eq_ofNat_of_zero_le hg
  rcases prime_ways P with hP | ⟨a1, a2, a3, a4⟩
  · have H := Lib.hid (grc_no P Q G (fun k => by rcases hP with ⟨_, _, n⟩ | ⟨_, _, n⟩ <;> exact n ⟨k.1, k.2.1⟩))
    rcases hP with ⟨a1, a2, _⟩ | ⟨a1, a2, _⟩
    all_goals
      go_enter Try.func41, Try.ntmps41
      go_wp2
      refine wp_loop_rounds 2 ?_
      rw [rounds_succ]
      go_wp2_with (go_at_call 95; refine (prime_any _ _ (by omega)).mono ?_; rintro e w' ⟨rfl, rfl⟩)
      go_ret
      exact ⟨by rw [H.out]; try rfl, ((Below.refl _ _).alloc (Nat.le_refl _) _).alloc (by simp) _⟩
  · rcases prime_ways Q with hQ | ⟨b1, b2, b3, b4⟩
    · have H := Lib.hid (grc_no P Q G (fun k => by rcases hQ with ⟨_, _, n⟩ | ⟨_, _, n⟩ <;> exact n ⟨k.2.2.1, k.2.2.2.1⟩))
      rcases hQ with ⟨b1, b2, _⟩ | ⟨b1, b2, _⟩
      all_goals
        go_enter Try.func41, Try.ntmps41
        go_wp2
        refine wp_loop_rounds 3 ?_
        rw [rounds_succ]
        go_wp2_with (go_at_call 95; refine (prime_any _ _ (by omega)).mono ?_; rintro e w' ⟨rfl, rfl⟩)
        rw [rounds_succ]
        go_wp2_with (go_at_call 95; refine (prime_any _ _ (by omega)).mono ?_; rintro e w' ⟨rfl, rfl⟩)
        go_ret
        exact ⟨by rw [H.out]; try rfl, ((Below.refl _ _).alloc (Nat.le_refl _) _).alloc (by simp) _⟩
    · have hP2 : 2 ≤ P := a4.1
      have hQ0 : 2 ≤ Q := b4.1
      have ec : (((P - 1) % Q : Nat) : Int) = ((P : Int) - 1) % (Q : Int) := by
        rw [Int.natCast_emod, Int.ofNat_sub (by omega)]; rfl
      have ep : pwr G Q P = ((G ^ Q % P : Nat) : Int) := pwr_nat G Q P
      have key : (((((P : Int) - 1) % (Q : Int) != 0) = true ∧ grc P Q G = 13) ∨ ((((P : Int) - 1) % (Q : Int) != 0) = false ∧ G < 2 ∧ grc P Q G = 13)) ∨ (((((P : Int) - 1) % (Q : Int) != 0) = false ∧ 2 ≤ G ∧ P ≤ G ∧ grc P Q G = 13) ∨
          ((((P : Int) - 1) % (Q : Int) != 0) = false ∧ 2 ≤ G ∧ G < P ∧ (pwr G Q P != 1) = true ∧ grc P Q G = 13)) ∨ ((((P : Int) - 1) % (Q : Int) != 0) = false ∧ 2 ≤ G ∧ G < P ∧ (pwr G Q P != 1) = false ∧ grc P Q G = 0) := by
        rw [← ec, ep]
        by_cases c1 : (P - 1) % Q = 0
        · have d1 : ((((P - 1) % Q : Nat) : Int) != 0) = false := by rw [c1]; rfl
          by_cases c2 : 2 ≤ G
          · by_cases c3 : G < P
            · by_cases c4 : G ^ Q % P = 1
              · exact .inr (.inr ⟨d1, c2, c3, by rw [c4]; rfl, grc_yes P Q G ⟨a3, a4, b3, b4, c1, c2, c3, c4⟩⟩)
              · exact .inr (.inl (.inr ⟨d1, c2, c3, by rw [bne_iff_ne]; omega, grc_no P Q G (fun k => c4 k.2.2.2.2.2.2.2)⟩))
            · exact .inr (.inl (.inl ⟨d1, c2, by omega, grc_no P Q G (fun k => c3 k.2.2.2.2.2.2.1)⟩))
          · exact .inl (.inr ⟨d1, by omega, grc_no P Q G (fun k => c2 k.2.2.2.2.2.1)⟩)
        · exact .inl (.inl ⟨by rw [bne_iff_ne]; omega, grc_no P Q G (fun k => c1 k.2.2.2.2.1)⟩)
      clear ec ep a4 b4
      rcases key with (⟨d1, H⟩ | ⟨d1, d2, H⟩) | (⟨d1, d2, d3, H⟩ | ⟨d1, d2, d3, d4, H⟩) | ⟨d1, d2, d3, d4, H⟩
      all_goals
        have HH := Lib.hid H
        clear H
        go_enter Try.func41, Try.ntmps41
        go_wp2
        refine wp_loop_rounds 3 ?_
        rw [rounds_succ]
        go_wp2_with (go_at_call 95; refine (prime_any _ _ (by omega)).mono ?_; rintro e w' ⟨rfl, rfl⟩)
        rw [rounds_succ]
        go_wp2_with (go_at_call 95; refine (prime_any _ _ (by omega)).mono ?_; rintro e w' ⟨rfl, rfl⟩)
        rw [rounds_succ]
        go_wp2_with (go_at_call 96; refine (power_any _ _ _ _ (by omega) (by omega) (by omega) (by omega) (by omega)).mono ?_; rintro e w' ⟨rfl, rfl⟩)
        go_ret
        exact ⟨by rw [HH.out]; try rfl, ((Below.refl _ _).alloc (Nat.le_refl _) _).alloc (by simp) _⟩

end Go.Proofs.Ytcbanemkjebdcaa
