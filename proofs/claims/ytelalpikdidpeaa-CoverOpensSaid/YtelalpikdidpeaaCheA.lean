/-
  Whether a scheme is valid: the program's answer and the specification's.
-/
import Derived.Test.YtelalpikdidpeaaSpeA
import Derived.RegionTactic
import Derived.Below
namespace Go.Proofs.Ytelalpikdidpeaa
open Go.RowKit TR
set_option linter.unusedVariables false
set_option linter.unusedSimpArgs false

/-- A valid scheme. -/
def ScOk (K D E : Int) (P Q G : Nat) : Prop := 1 ≤ K ∧ K ≤ 3 ∧ 0 ≤ D ∧ D ≤ 6 ∧ E = 0 ∧ P = 0 ∧ Q = 0 ∧ G = 0
instance (K D E : Int) (P Q G : Nat) : Decidable (ScOk K D E P Q G) := by unfold ScOk; infer_instance
def scb (K D E : Int) (P Q G : Nat) : Bool := decide (ScOk K D E P Q G)
def scc (K D E : Int) (P Q G : Nat) : Int := if scb K D E P Q G then 0 else 30
theorem scb_yes {K D E : Int} {P Q G : Nat} (h : ScOk K D E P Q G) : scb K D E P Q G = true := decide_eq_true h
theorem scb_no {K D E : Int} {P Q G : Nat} (h : ¬ ScOk K D E P Q G) : scb K D E P Q G = false := decide_eq_false h
theorem scc_yes {K D E : Int} {P Q G : Nat} (h : ScOk K D E P Q G) : scc K D E P Q G = 0 := by unfold scc; rw [scb_yes h]; rfl
theorem scc_no {K D E : Int} {P Q G : Nat} (h : ¬ ScOk K D E P Q G) : scc K D E P Q G = 30 := by unfold scc; rw [scb_no h]; rfl

/-- The ways in which a scheme can fail, one after the other. -/
theorem sc_cases (K D E : Int) (P Q G : Nat) : (K < 1 ∧ (D < 0 ∨ 6 < D ∨ (0 ≤ D ∧ D ≤ 6))) ∨ (3 < K ∧ (D < 0 ∨ 6 < D ∨ (0 ≤ D ∧ D ≤ 6))) ∨ (1 ≤ K ∧ K ≤ 3 ∧ (D < 0 ∨ 6 < D)) ∨ (1 ≤ K ∧ K ≤ 3 ∧ 0 ≤ D ∧ D ≤ 6 ∧ (E < 0 ∨ 0 < E)) ∨ (1 ≤ K ∧ K ≤ 3 ∧ 0 ≤ D ∧ D ≤ 6 ∧ E = 0 ∧ (0 < P ∨ (P = 0 ∧ 0 < Q) ∨ (P = 0 ∧ Q = 0 ∧ 0 < G))) ∨ (1 ≤ K ∧ K ≤ 3 ∧ 0 ≤ D ∧ D ≤ 6 ∧ E = 0 ∧ P = 0 ∧ Q = 0 ∧ G = 0) := by omega

set_option maxRecDepth 100000 in
set_option maxHeartbeats 4000000 in
theorem check_any (K D E : Int) (P Q G : Nat) (w : World) (hK0 : 0 ≤ K) (hK1 : K ≤ 255) :
    Calls Try.prog 41 #[.agg #[.int .u8 K, .int .i64 D, .int .i64 E, .int .u64 (P : Int), .int .u64 (Q : Int), .int .u64 (G : Int)]] w fun e w' => e = .returned (.int .i64 (scc K D E P Q G)) ∧ Below w.heap.size w w' := by
  have HN : (¬ ScOk K D E P Q G) → scc K D E P Q G = 30 := fun h => scc_no h
  rcases sc_cases K D E P Q G with ⟨k, d | d | ⟨d1, d2⟩⟩ | ⟨k, d | d | ⟨d1, d2⟩⟩ | ⟨k1, k2, d | d⟩ | ⟨k1, k2, d1, d2, e | e⟩ | ⟨k1, k2, d1, d2, rfl, p | ⟨rfl, q⟩ | ⟨rfl, rfl, g⟩⟩ | h
  case inr.inr.inr.inr.inr =>
    have H := Lib.hid (scc_yes h)
    clear HN
    obtain ⟨k1, k2, d1, d2, rfl, rfl, rfl, rfl⟩ := h
    go_enter Try.func41, Try.ntmps41
    go_wp2
    go_ret
    exact ⟨by rw [H.out]; first | rfl | (simp; done), by first | exact (Below.refl _ _).alloc (Nat.le_refl _) _ | exact Below.refl _ _⟩
  all_goals
    have H := Lib.hid (HN (fun h => by obtain ⟨h1, h2, h3, h4, h5, h6, h7, h8⟩ := h; omega))
    clear HN
    go_enter Try.func41, Try.ntmps41
    go_wp2
    go_ret
    exact ⟨by rw [H.out]; first | rfl | (simp; done), by first | exact (Below.refl _ _).alloc (Nat.le_refl _) _ | exact Below.refl _ _⟩
end Go.Proofs.Ytelalpikdidpeaa
