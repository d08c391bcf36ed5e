/-
  Nodes, special nodes and parents, the program's.
-/
import Derived.Test.YtelalpikdidpeaaLevA
import Derived.Below
namespace Go.Proofs.Ytelalpikdidpeaa
open Go.RowKit TR
set_option linter.unusedVariables false
set_option linter.unusedSimpArgs false

/-- A scheme in a block of its own. -/
structure SchAt (w : World) (b : Nat) (K D E : Int) (P Q G : Nat) : Prop where
  c0 : w.cell? ⟨b, 0, none⟩ = some (.int .u8 K)
  c1 : w.cell? ⟨b, 1, none⟩ = some (.int .i64 D)
  c2 : w.cell? ⟨b, 2, none⟩ = some (.int .i64 E)
  c3 : w.cell? ⟨b, 3, none⟩ = some (.int .u64 (P : Int))
  c4 : w.cell? ⟨b, 4, none⟩ = some (.int .u64 (Q : Int))
  c5 : w.cell? ⟨b, 5, none⟩ = some (.int .u64 (G : Int))
theorem SchAt.new (w : World) (K D E : Int) (P Q G : Nat) (t : TypeId) : SchAt (w.alloc (.cells #[.int .u8 K, .int .i64 D, .int .i64 E, .int .u64 (P : Int), .int .u64 (Q : Int), .int .u64 (G : Int)] t)) w.heap.size K D E P Q G := by
  constructor <;> (rw [cell_of_row _ _ _ _ t _ (heap_alloc_new w _)]; rfl)
theorem SchAt.below {w w' : World} {n b : Nat} {K D E : Int} {P Q G : Nat} (h : SchAt w b K D E P Q G) (hb : Below n w w') (hn : b < n) : SchAt w' b K D E P Q G :=
  ⟨(hb.cell (p := ⟨b, 0, none⟩) hn).trans h.c0, (hb.cell (p := ⟨b, 1, none⟩) hn).trans h.c1, (hb.cell (p := ⟨b, 2, none⟩) hn).trans h.c2, (hb.cell (p := ⟨b, 3, none⟩) hn).trans h.c3, (hb.cell (p := ⟨b, 4, none⟩) hn).trans h.c4, (hb.cell (p := ⟨b, 5, none⟩) hn).trans h.c5⟩

/-- Whether a number is a node. -/
def hsn (d : Nat) (x : Int) : Bool := decide (1 ≤ x ∧ x < ((2 ^ (d + 1) : Nat) : Int))

set_option maxRecDepth 100000 in
set_option maxHeartbeats 1000000 in
theorem hasNode_any (K E x : Int) (d P Q G : Nat) (w : World) (hd : d < 7) :
    Calls Try.prog 89 #[.agg #[.int .u8 K, .int .i64 (d : Int), .int .i64 E, .int .u64 (P : Int), .int .u64 (Q : Int), .int .u64 (G : Int)], .int .i64 x] w fun e w' => e = .returned (.bool (hsn d x)) ∧ Below w.heap.size w w' := by
  have HB : Hid (Below w.heap.size w (w.alloc (.cells #[.int .u8 K, .int .i64 (d : Int), .int .i64 E, .int .u64 (P : Int), .int .u64 (Q : Int), .int .u64 (G : Int)] 28))) := Lib.hid ((Below.refl _ _).alloc (Nat.le_refl _) _)
  by_cases h1 : 1 ≤ x
  · have HF : Hid (hsn d x = decide (x < ((2 ^ (d + 1) : Nat) : Int))) := Lib.hid (by unfold hsn; simp [h1])
    rw [HF.out]
    clear HF
    rcases (by omega : d = 0 ∨ d = 1 ∨ d = 2 ∨ d = 3 ∨ d = 4 ∨ d = 5 ∨ d = 6) with rfl | rfl | rfl | rfl | rfl | rfl | rfl
    all_goals
      go_enter Try.func89, Try.ntmps89
      go_wp2_with fail
      go_ret
      exact ⟨by first | rfl | (simp; done), HB.out⟩
  · have HF : Hid (hsn d x = false) := Lib.hid (by unfold hsn; simp [h1])
    rw [HF.out]
    have h2 : x < 1 := by omega
    clear h1 HF
    go_enter Try.func89, Try.ntmps89
    go_wp2_with fail
    go_ret
    exact ⟨by first | rfl | (simp; done), HB.out⟩

set_option maxRecDepth 100000 in
set_option maxHeartbeats 2000000 in
theorem isSpecial_any (K E : Int) (d v P Q G : Nat) (w : World) (hd : d < 7) (h1 : 1 ≤ v) (hv : v < 256) :
    Calls Try.prog 93 #[.agg #[.int .u8 K, .int .i64 (d : Int), .int .i64 E, .int .u64 (P : Int), .int .u64 (Q : Int), .int .u64 (G : Int)], .int .i64 (v : Int)] w fun e w' => e = .returned (.bool (spc d v)) ∧ Below w.heap.size w w' := by
  have HB : Hid (Below w.heap.size w (w.alloc (.cells #[.int .u8 K, .int .i64 (d : Int), .int .i64 E, .int .u64 (P : Int), .int .u64 (Q : Int), .int .u64 (G : Int)] 28))) := Lib.hid ((Below.refl _ _).alloc (Nat.le_refl _) _)
  have HL := Lib.hid (fun w => level_any v w h1 hv)
  have HF : Hid (spc d v = (lv v % strd d == 0)) := Lib.hid rfl
  have hl := lv_lt v hv
  rw [HF.out]
  obtain ⟨m, hm⟩ : ∃ m, m = lv v := ⟨_, rfl⟩
  rw [← hm] at HL hl ⊢
  clear hm HF hv h1
  rcases (by omega : d = 0 ∨ d = 1 ∨ d = 2 ∨ d = 3 ∨ d = 4 ∨ d = 5 ∨ d = 6) with rfl | rfl | rfl | rfl | rfl | rfl | rfl
  all_goals
    go_enter Try.func93, Try.ntmps93
    go_wp2_with fail
    refine wp_loop_rounds 3 ?_
    repeat (rw [rounds_succ]; go_wp2_with fail)
    refine (HL.out _).mono ?_
    rintro e1 w' ⟨rfl, rfl⟩
    rcases (by omega : m = 0 ∨ m = 1 ∨ m = 2 ∨ m = 3 ∨ m = 4 ∨ m = 5 ∨ m = 6 ∨ m = 7) with rfl | rfl | rfl | rfl | rfl | rfl | rfl | rfl
    all_goals
      go_wp2_with fail
      go_ret
      exact ⟨by first | rfl | (simp; done), HB.out⟩

set_option maxRecDepth 100000 in
set_option maxHeartbeats 400000 in
theorem parent_any (v : Nat) (w : World) (hv : v < 256) :
    Calls Try.prog 132 #[.int .i64 (v : Int)] w fun e w' => e = .returned (.int .i64 ((v / 2 : Nat) : Int)) ∧ w = w' := by
  go_enter Try.func132, Try.ntmps132
  go_wp2_with fail
  go_ret
  exact ⟨ret_int (by simp), rfl⟩
end Go.Proofs.Ytelalpikdidpeaa
