/- The walk over NumberModular: both of its comparisons hold. -/
import Derived.Test.YthplhlcdlnedfaaModC
import Derived.OpenShut
namespace Go.Proofs.Ythplhlcdlnedfaa.numberModular
open Go.RowKit
set_option linter.unusedVariables false

/-- Draws turn no block. -/
theorem grown_drewN (n : Nat) (w : World) : Grown w (w.drewN n) :=
  ⟨Below.frame (⟨rfl, rfl, rfl, Nat.le_refl _, fun _ _ => rfl⟩ : Below w.heap.size w (w.drewN n)) _, fun _ => rfl, Nat.le_refl _⟩

/-! ### STEP 1: THE WALK: the Go text returns true. 'Grown w w'': the world has at most new blocks (Derived/RowKit3.lean). Part the cases AHEAD of 'go_enter' where a test parts the walk; take each callee by a contract of your own. -/
theorem walk (a0 : Int) (a1 : Int) (a2 : Int) (w0 : (Lit.int .u64 a0).wf = true) (w1 : (Lit.int .u64 a1).wf = true) (w2 : (Lit.int .u64 a2).wf = true) (w : World) :
    Calls Try.prog 7 #[.int .u64 a0, .int .u64 a1, .int .u64 a2] w fun e w' => e = .returned (.bool true) ∧ Grown w w' := by
  have b0 := bounds_u64 w0
  have b1 := bounds_u64 w1
  have b2 := bounds_u64 w2
  clear w0 w1 w2
  go_enter Try.func7, Try.ntmps7
  go_wp2_with (first
      | (go_at_call 37; refine (powMod_any _ _ _ _ (by omega) (by omega) (by omega)).mono ?_; rintro e w' ⟨rfl, rfl⟩)
      | (go_at_call 62; refine (powModRef_any _ _ _ _ (by omega) (by omega) (by omega)).mono ?_; rintro e w' ⟨rfl, rfl⟩)
      | (go_at_call 38; refine (invMod_all _ _ _ (by omega)).mono ?_; rintro e w' ⟨rfl, n1, rfl⟩)
      | (go_at_call 63; refine (invModRef_all _ _ _ (by omega)).mono ?_; rintro e w' ⟨rfl, n2, rfl⟩))
  go_ret
  exact ⟨rfl, grown_drewN _ _⟩

end Go.Proofs.Ythplhlcdlnedfaa.numberModular
