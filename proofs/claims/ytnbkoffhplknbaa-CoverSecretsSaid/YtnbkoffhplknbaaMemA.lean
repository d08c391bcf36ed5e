/-
  Members: what the program leaves is what the specification says.
-/
import Derived.Test.YtnbkoffhplknbaaDelB
namespace Go.Proofs.Ytnbkoffhplknbaa
open Go.RowKit TR
set_option linter.unusedVariables false

/-- The leaf of a place below v. -/
def lfa (d v i : Nat) : Nat := v * 2 ^ (d - lv v) + i
theorem lvs_lfa (d v : Nat) : lvs d v = (List.range (2 ^ (d - lv v))).map (lfa d v) := rfl
theorem mem_kpl (d v b : Nat) (hd : d < 7) (hv : v < 2 ^ (d + 1)) (h1 : 1 ≤ v) : mem_ d v b = (kpl b (lfa d v) (2 ^ (d - lv v))).map (fun l => l - 2 ^ d) := by
  obtain ⟨e, hl⟩ := mem_lvs d v hd hv h1
  have e1 : mem_ d v b = ((List.range (2 ^ d)).filter fun u => abv v (2 ^ d + u)).filter fun u => !(abv b (2 ^ d + u)) := by
    unfold mem_
    rw [List.filter_filter]
    congr 1
    funext u
    exact Bool.and_comm _ _
  rw [e1, e, List.filter_map]
  unfold kpl
  rw [← lvs_lfa]
  congr 1
  refine List.filter_congr fun l h => ?_
  show (!abv b (2 ^ d + (l - 2 ^ d))) = !abv b l
  rw [show 2 ^ d + (l - 2 ^ d) = l by have := hl l h; omega]
theorem kpl_len (b m : Nat) (g : Nat → Nat) : (kpl b g m).length ≤ m := by
  unfold kpl; have := List.length_filter_le (fun x => !abv b x) ((List.range m).map g); simpa using this
theorem kpl_leaf (d v b : Nat) (hd : d < 7) (hv : v < 2 ^ (d + 1)) (h1 : 1 ≤ v) : ∀ l ∈ kpl b (lfa d v) (2 ^ (d - lv v)), 2 ^ d ≤ l := fun l h => by
  unfold kpl at h
  rw [← lvs_lfa] at h
  exact (mem_lvs d v hd hv h1).2 l (List.mem_filter.1 h).1
theorem chk_lfa : ((List.range 7).all fun d => (List.range (2 ^ (d + 1))).all fun v => v == 0 || (List.range (2 ^ (d - lv v))).all fun i => decide (1 ≤ lfa d v i ∧ lfa d v i < 128)) = true := by decide +kernel
theorem lfa_lt (d v i : Nat) (hd : d < 7) (hv : v < 2 ^ (d + 1)) (h1 : 1 ≤ v) (hi : i < 2 ^ (d - lv v)) : 1 ≤ lfa d v i ∧ lfa d v i < 128 := by
  have h := chk_lfa
  simp only [List.all_eq_true, List.mem_range] at h
  have := h d hd v hv
  simp only [Bool.or_eq_true, beq_iff_eq, List.all_eq_true, List.mem_range, decide_eq_true_eq] at this
  rcases this with h0 | h2
  · omega
  · exact h2 i hi
theorem chk_ht : ((List.range 7).all fun d => (List.range (2 ^ (d + 1))).all fun v => v == 0 || decide (lv v ≤ d ∧ 1 ≤ 2 ^ (d - lv v) ∧ 2 ^ (d - lv v) ≤ 64)) = true := by decide +kernel
theorem ht_le (d v : Nat) (hd : d < 7) (hv : v < 2 ^ (d + 1)) (h1 : 1 ≤ v) : lv v ≤ d ∧ 1 ≤ 2 ^ (d - lv v) ∧ 2 ^ (d - lv v) ≤ 64 := by
  have h := chk_ht
  simp only [List.all_eq_true, List.mem_range] at h
  have := h d hd v hv
  simp only [Bool.or_eq_true, beq_iff_eq, decide_eq_true_eq] at this
  rcases this with h0 | h2
  · omega
  · exact h2
end Go.Proofs.Ytnbkoffhplknbaa
