/-
  What the laws' walks share.
-/
import Derived.Test.YthplhlcdlnedfaaAlvC
namespace Go.Proofs.Ythplhlcdlnedfaa
open Go.RowKit MN

theorem below_drew {w w' : World} (h : Below w.heap.size w w') (n : Nat) : Below w.heap.size w (w'.drewN n) := below_drewN h n

theorem pmv_nat (b n m : Nat) (h1 : 1 ≤ m) (h2 : m ≤ 4294967295) : pmv b n m = ((b ^ n % m : Nat) : Int) := by rw [pmv, if_pos (by omega), pwr_nat]
theorem pmc_yes (m : Nat) (h1 : 1 ≤ m) (h2 : m ≤ 4294967295) : pmc m = 0 := by rw [pmc, if_pos (by omega)]
theorem pmc_no (m : Nat) (h : ¬ (1 ≤ m ∧ m ≤ 4294967295)) : pmc m = 2 := by rw [pmc, if_neg (by omega)]
end Go.Proofs.Ythplhlcdlnedfaa
