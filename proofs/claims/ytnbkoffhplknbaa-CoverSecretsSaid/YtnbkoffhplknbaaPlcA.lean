/-
  The nodes of a receiver's labels: the list of them.
-/
import Derived.Test.YtnbkoffhplknbaaPthC
import Derived.Test.YtnbkoffhplknbaaCutA
namespace Go.Proofs.Ytnbkoffhplknbaa
open Go.RowKit TR
set_option linter.unusedVariables false

/-- The first k labels beside the path to y, of those of the node of level l. -/
def rin (K : Int) (d y l k : Nat) : List (Nat × Nat) := ((List.range k).map fun i => (nat_ y l, nat_ y (l + 1 + i) ^^^ 1)).filter fun p => isb K d (p.1 : Int) (p.2 : Int)
theorem rin_snoc (K : Int) (d y l k : Nat) : rin K d y l (k + 1) = rin K d y l k ++ (if isb K d (nat_ y l : Nat) ((nat_ y (l + 1 + k) ^^^ 1 : Nat) : Int) = true then [(nat_ y l, nat_ y (l + 1 + k) ^^^ 1)] else []) := by
  unfold rin
  rw [List.range_succ, List.map_append, List.filter_append]
  congr 1
  simp only [List.map_cons, List.map_nil, List.filter_cons, List.filter_nil]
theorem rin_len (K : Int) (d y l k : Nat) : (rin K d y l k).length ≤ k := by
  unfold rin; have := List.length_filter_le (fun p : Nat × Nat => isb K d (p.1 : Int) (p.2 : Int)) ((List.range k).map fun i => (nat_ y l, nat_ y (l + 1 + i) ^^^ 1)); simpa using this
/-- The same, of some levels. -/
def rls (K : Int) (d y l : Nat) (ls : List Nat) : List (Nat × Nat) := (ls.map fun m => (nat_ y l, nat_ y m ^^^ 1)).filter fun p => isb K d (p.1 : Int) (p.2 : Int)
theorem rls_snoc (K : Int) (d y l : Nat) (ls : List Nat) (m : Nat) : rls K d y l (ls ++ [m]) = rls K d y l ls ++ (if isb K d (nat_ y l : Nat) ((nat_ y m ^^^ 1 : Nat) : Int) = true then [(nat_ y l, nat_ y m ^^^ 1)] else []) := by
  unfold rls
  rw [List.map_append, List.filter_append]
  congr 1
  simp only [List.map_cons, List.map_nil, List.filter_cons, List.filter_nil]
theorem rls_len (K : Int) (d y l : Nat) (ls : List Nat) : (rls K d y l ls).length ≤ ls.length := by
  unfold rls; have := List.length_filter_le (fun p : Nat × Nat => isb K d (p.1 : Int) (p.2 : Int)) (ls.map fun m => (nat_ y l, nat_ y m ^^^ 1)); simpa using this
theorem rls_rin (K : Int) (d y l k : Nat) : rls K d y l (lvl (l + 1) k) = rin K d y l k := by
  unfold rls rin lvl; rw [List.map_map]; rfl
/-- The labels of the node of level l. -/
def rowl (K : Int) (d y l : Nat) : List (Nat × Nat) := if K = 1 then [(nat_ y l, 0)] else rin K d y l (lv y - l)
theorem rowl_len (K : Int) (d y l : Nat) (h : lv y ≤ 7) : (rowl K d y l).length ≤ 7 := by
  unfold rowl
  split
  · simp
  · have := rin_len K d y l (lv y - l); omega
def pre0 (K : Int) : List (Nat × Nat) := if K = 1 then [] else [(1, 0)]
/-- The labels of some levels' nodes. -/
def plf (K : Int) (d y : Nat) (ls : List Nat) : List (Nat × Nat) := pre0 K ++ ls.flatMap (rowl K d y)
theorem plf_snoc (K : Int) (d y : Nat) (ls : List Nat) (l : Nat) : plf K d y (ls ++ [l]) = plf K d y ls ++ rowl K d y l := by
  unfold plf; rw [List.flatMap_append, List.append_assoc]; simp
theorem plf_len (K : Int) (d y : Nat) (h : lv y ≤ 7) : ∀ ls : List Nat, (plf K d y ls).length ≤ 1 + 7 * ls.length := by
  intro ls
  have h1 : (pre0 K).length ≤ 1 := by unfold pre0; split <;> simp
  have h2 : (ls.flatMap (rowl K d y)).length ≤ 7 * ls.length := by
    induction ls with
    | nil => simp
    | cons a r ih => rw [List.flatMap_cons, List.length_append, List.length_cons]; have := rowl_len K d y a h; omega
  unfold plf
  rw [List.length_append]; omega
/-- All of them. -/
def plc (K : Int) (d y : Nat) : List (Nat × Nat) := plf K d y (List.range (lv y + 1))
/-- The cells of pairs. -/
def prs (xs : List (Nat × Nat)) : List Value := xs.flatMap fun p => [Value.int .i64 (p.1 : Int), Value.int .i64 (p.2 : Int)]
theorem prs_append (xs ys : List (Nat × Nat)) : prs (xs ++ ys) = prs xs ++ prs ys := by unfold prs; rw [List.flatMap_append]
theorem prs_len (xs : List (Nat × Nat)) : (prs xs).length = xs.length * 2 := by
  unfold prs
  induction xs with
  | nil => rfl
  | cons a r ih => rw [List.flatMap_cons, List.length_append, ih, List.length_cons]; simp; omega
theorem prs_get (xs : List (Nat × Nat)) (i : Nat) (p : Nat × Nat) (h : xs[i]? = some p) : (prs xs)[2 * i]? = some (.int .i64 (p.1 : Int)) ∧ (prs xs)[2 * i + 1]? = some (.int .i64 (p.2 : Int)) := by
  induction xs generalizing i with
  | nil => simp at h
  | cons a r ih =>
    cases i with
    | zero => simp at h; subst h; exact ⟨rfl, rfl⟩
    | succ i =>
      have h1 := ih i (by simpa using h)
      unfold prs at h1 ⊢
      rw [List.flatMap_cons, show 2 * (i + 1) = 2 * i + 1 + 1 by omega]
      exact h1
theorem lvl_zero (k : Nat) : lvl 0 k = List.range k := by unfold lvl; simp
end Go.Proofs.Ytnbkoffhplknbaa
