/-
  The tree's arithmetic: levels, what is above what, special nodes, subsets, members.
-/
import Derived.ProofKit
namespace Go.Proofs.Ytchkgccnipejhaa
namespace TR
set_option linter.unusedVariables false

/-- The level of a node. -/
def lv (v : Nat) : Nat := Nat.log2 v
/-- Whether w is below v, by levels. -/
def abv (v w : Nat) : Bool := v != 0 && decide (lv v ≤ lv w) && (w >>> (lv w - lv v) == v)
/-- Whether w is below v, by halves. -/
def blw : Nat → Nat → Nat → Bool
  | 0, w, v => w == v
  | k + 1, w, v => if v < w then blw k (w / 2) v else w == v
/-- The stride of a depth. -/
def strd (d : Nat) : Nat := if d ≤ 1 then 1 else if d ≤ 4 then 2 else 3
def spc (d v : Nat) : Bool := lv v % strd d == 0
/-- The node of level l on the path to w. -/
def nat_ (w l : Nat) : Nat := w >>> (lv w - l)
/-- The first special node from level l on, of n levels on the path to w, or 0. -/
def fsl (d w : Nat) : Nat → Nat → Nat
  | 0, _ => 0
  | n + 1, l => if spc d (nat_ w l) then nat_ w l else fsl d w n (l + 1)
/-- The first special node strictly between v and w. -/
def fsp (d v w : Nat) : Nat := fsl d (w / 2) (lv (w / 2) - lv v) (lv v + 1)
/-- The path from v to w below it. -/
def pth (v w : Nat) : List Nat := (List.range (lv w - lv v + 1)).map fun i => w >>> (lv w - lv v - i)
def btw (d v w : Nat) : Nat := (((pth v w).drop 1).dropLast.find? (spc d)).getD 0
/-- Whether (v, w) is a subset, of nodes; w = 0 for none. -/
def sbt (k d v w : Nat) : Bool :=
  (1 ≤ v && v < 2 ^ (d + 1)) && (if k = 1 then w == 0 else if w = 0 then v == 1 else (w < 2 ^ (d + 1)) && (w != v && (abv v w && (k == 2 || spc d v || fsp d v w == 0))))
/-- The members of (v, w). -/
def mem_ (d v w : Nat) : List Nat := (List.range (2 ^ d)).filter fun u => abv v (2 ^ d + u) && !(abv w (2 ^ d + u))
/-- The leaves below v. -/
def lvs (d v : Nat) : List Nat := (List.range (2 ^ (d - lv v))).map fun i => v * 2 ^ (d - lv v) + i

theorem lv_half (a : Nat) (h : 1 < a) : lv (a / 2) + 1 = lv a := by
  unfold lv
  conv => rhs; rw [Nat.log2_def, if_pos (by omega)]
theorem lv_low (a : Nat) (h : a ≤ 1) : lv a = 0 := by
  unfold lv; rw [Nat.log2_def, if_neg (by omega)]
theorem lv_le (a : Nat) : lv a ≤ a := by
  induction a using Nat.strongRecOn with
  | ind a ih =>
    by_cases h : 1 < a
    · have := ih (a / 2) (by omega); have := lv_half a h; omega
    · rw [lv_low a (by omega)]; exact Nat.zero_le _
theorem chk_blw : ((List.range 128).all fun v => (List.range 128).all fun w => v == 0 || w == 0 || blw 7 w v == abv v w) = true := by decide +kernel
theorem blw_abv (v w : Nat) (hv : v < 128) (hw : w < 128) (h1 : 1 ≤ v) (h2 : 1 ≤ w) : blw 7 w v = abv v w := by
  have h := chk_blw
  simp only [List.all_eq_true, List.mem_range] at h
  have h3 := h v hv w hw
  simpa [show v ≠ 0 by omega, show w ≠ 0 by omega] using h3
theorem chk_btw : ((List.range 7).all fun d => (List.range (2 ^ (d + 1))).all fun v => (List.range (2 ^ (d + 1))).all fun w => !(abv v w) || w == v || btw d v w == fsp d v w) = true := by decide +kernel
theorem btw_fsp (d v w : Nat) (hd : d < 7) (hv : v < 2 ^ (d + 1)) (hw : w < 2 ^ (d + 1)) (h1 : abv v w = true) (h2 : w ≠ v) : btw d v w = fsp d v w := by
  have h := chk_btw
  simp only [List.all_eq_true, List.mem_range] at h
  have h3 := h d hd v hv w hw
  simpa [h1, h2] using h3
theorem chk_mem : ((List.range 7).all fun d => (List.range (2 ^ (d + 1))).all fun v => v == 0 || ((List.range (2 ^ d)).filter (fun u => abv v (2 ^ d + u)) == (lvs d v).map (fun l => l - 2 ^ d) && (lvs d v).all fun l => 2 ^ d ≤ l)) = true := by decide +kernel
theorem mem_lvs (d v : Nat) (hd : d < 7) (hv : v < 2 ^ (d + 1)) (h1 : 1 ≤ v) : (List.range (2 ^ d)).filter (fun u => abv v (2 ^ d + u)) = (lvs d v).map (fun l => l - 2 ^ d) ∧ ∀ l ∈ lvs d v, 2 ^ d ≤ l := by
  have h := chk_mem
  simp only [List.all_eq_true, List.mem_range] at h
  have h3 := h d hd v hv
  simpa [show v ≠ 0 by omega] using h3
theorem chk_lv : ((List.range 256).all fun v => lv v < 8) = true := by decide +kernel
theorem lv_lt (v : Nat) (hv : v < 256) : lv v < 8 := by
  have h := chk_lv
  simp only [List.all_eq_true, List.mem_range] at h
  simpa using h v hv
/-- How many bits a number has. -/
def lenv (x : Nat) : Nat := if x = 0 then 0 else lv x + 1
end TR
end Go.Proofs.Ytchkgccnipejhaa
