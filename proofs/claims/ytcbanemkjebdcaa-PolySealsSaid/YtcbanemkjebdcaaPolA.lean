/-
  Contracts of layer 4: whether a scheme is valid, the program's and the specification's; receivers.
-/
import Derived.Test.YtcbanemkjebdcaaGrpC
import Derived.Test.YtcbanemkjebdcaaKeyG
namespace Go.Proofs.Ytcbanemkjebdcaa
open Go.RowKit SP

/-- A valid scheme. -/
def SchOk (K D E : Int) (P Q G : Nat) : Prop := K = 4 ∧ 0 ≤ D ∧ D ≤ 6 ∧ 1 ≤ E ∧ E ≤ 8 ∧ GrOk P Q G ∧ ((2 ^ D.toNat : Nat) : Int) + E < Q
noncomputable def scb (K D E : Int) (P Q G : Nat) : Bool := @decide (SchOk K D E P Q G) (Classical.propDecidable _)
noncomputable def scc (K D E : Int) (P Q G : Nat) : Int := if scb K D E P Q G then 0 else 30
theorem scb_yes {K D E : Int} {P Q G : Nat} (h : SchOk K D E P Q G) : scb K D E P Q G = true := @decide_eq_true _ (Classical.propDecidable _) h
theorem scb_no {K D E : Int} {P Q G : Nat} (h : ¬ SchOk K D E P Q G) : scb K D E P Q G = false := @decide_eq_false _ (Classical.propDecidable _) h
theorem scc_yes {K D E : Int} {P Q G : Nat} (h : SchOk K D E P Q G) : scc K D E P Q G = 0 := by unfold scc; rw [scb_yes h]; rfl
theorem scc_no {K D E : Int} {P Q G : Nat} (h : ¬ SchOk K D E P Q G) : scc K D E P Q G = 30 := by unfold scc; rw [scb_no h]; rfl

/-- A scheme in a block of its own. -/
structure SchAt (w : World) (b : Nat) (K D E : Int) (P Q G : Nat) : Prop where
  c0 : w.cell? ⟨b, 0, none⟩ = some (.int .u8 K)
  c1 : w.cell? ⟨b, 1, none⟩ = some (.int .i64 D)
  c2 : w.cell? ⟨b, 2, none⟩ = some (.int .i64 E)
  c3 : w.cell? ⟨b, 3, none⟩ = some (.int .u64 (P : Int))
  c4 : w.cell? ⟨b, 4, none⟩ = some (.int .u64 (Q : Int))
  c5 : w.cell? ⟨b, 5, none⟩ = some (.int .u64 (G : Int))
theorem SchAt.new (w : World) (K D E : Int) (P Q G : Nat) : SchAt (w.alloc (.cells #[.int .u8 K, .int .i64 D, .int .i64 E, .int .u64 (P : Int), .int .u64 (Q : Int), .int .u64 (G : Int)] 28)) w.heap.size K D E P Q G := by
  constructor <;> (rw [cell_of_row _ _ _ _ 28 _ (heap_alloc_new w _)]; rfl)
theorem SchAt.below {w w' : World} {n b : Nat} {K D E : Int} {P Q G : Nat} (h : SchAt w b K D E P Q G) (hb : Below n w w') (hn : b < n) : SchAt w' b K D E P Q G :=
  ⟨(hb.cell (p := ⟨b, 0, none⟩) hn).trans h.c0, (hb.cell (p := ⟨b, 1, none⟩) hn).trans h.c1, (hb.cell (p := ⟨b, 2, none⟩) hn).trans h.c2, (hb.cell (p := ⟨b, 3, none⟩) hn).trans h.c3, (hb.cell (p := ⟨b, 4, none⟩) hn).trans h.c4, (hb.cell (p := ⟨b, 5, none⟩) hn).trans h.c5⟩

/-- Whether a number is a receiver. -/
def isr (D u : Int) : Bool := decide (0 ≤ u ∧ u < ((2 ^ D.toNat : Nat) : Int))

set_option maxRecDepth 100000 in
set_option maxHeartbeats 4000000 in
theorem isReceiver_any (K D E u : Int) (P Q G : Nat) (w : World) (d1 : 0 ≤ D) (d2 : D ≤ 6) :
    Calls Try.prog 50 #[.agg #[.int .u8 K, .int .i64 D, .int .i64 E, .int .u64 (P : Int), .int .u64 (Q : Int), .int .u64 (G : Int)], .int .i64 u] w fun e w' => e = .returned (.bool (isr D u)) ∧ Below w.heap.size w w' := by
  by_cases hu : 0 ≤ u ∧ u < ((2 ^ D.toNat : Nat) : Int)
  · have H : Hid (isr D u = true) := Lib.hid (decide_eq_true hu)
    obtain ⟨u1, u2⟩ := hu
    rcases (by omega : D = 0 ∨ D = 1 ∨ D = 2 ∨ D = 3 ∨ D = 4 ∨ D = 5 ∨ D = 6) with rfl | rfl | rfl | rfl | rfl | rfl | rfl
    all_goals
      (simp only [Int.reduceToNat, Nat.reducePow, Int.cast_ofNat_Int] at u2)
      go_enter Try.func50, Try.ntmps50
      go_wp2
      go_ret
      exact ⟨by rw [H.out]; first | rfl | (simp; done) | (simp; omega), by first | exact (Below.refl _ _).alloc (Nat.le_refl _) _ | exact Below.refl _ _⟩
  · have H : Hid (isr D u = false) := Lib.hid (decide_eq_false hu)
    rcases (by omega : u < 0 ∨ (0 ≤ u ∧ ((2 ^ D.toNat : Nat) : Int) ≤ u)) with u1 | ⟨u1, u2⟩
    · clear hu
      go_enter Try.func50, Try.ntmps50
      go_wp2
      go_ret
      exact ⟨by rw [H.out]; first | rfl | (simp; done) | (simp; omega), by first | exact (Below.refl _ _).alloc (Nat.le_refl _) _ | exact Below.refl _ _⟩
    · clear hu
      rcases (by omega : D = 0 ∨ D = 1 ∨ D = 2 ∨ D = 3 ∨ D = 4 ∨ D = 5 ∨ D = 6) with rfl | rfl | rfl | rfl | rfl | rfl | rfl
      all_goals
        (simp only [Int.reduceToNat, Nat.reducePow, Int.cast_ofNat_Int] at u2)
        go_enter Try.func50, Try.ntmps50
        go_wp2
        go_ret
        exact ⟨by rw [H.out]; first | rfl | (simp; done) | (simp; omega), by first | exact (Below.refl _ _).alloc (Nat.le_refl _) _ | exact Below.refl _ _⟩

set_option maxRecDepth 100000 in
set_option maxHeartbeats 4000000 in
theorem shareX_any (u : Nat) (w : World) (hu : u < 1000) :
    Calls Try.prog 51 #[.int .i64 (u : Int)] w fun e w' => e = .returned (.int .u64 ((u + 1 : Nat) : Int)) ∧ w = w' := by
  go_enter Try.func51, Try.ntmps51
  go_wp2
  go_ret
  exact ⟨ret_int (by omega), rfl⟩

set_option maxRecDepth 100000 in
set_option maxHeartbeats 4000000 in
theorem receivers_any (D : Int) (w : World) (d1 : 0 ≤ D) (d2 : D ≤ 6) :
    Calls Try.prog 52 #[.int .i64 D] w fun e w' => e = .returned (.int .i64 ((2 ^ D.toNat : Nat) : Int)) ∧ w = w' := by
  rcases (by omega : D = 0 ∨ D = 1 ∨ D = 2 ∨ D = 3 ∨ D = 4 ∨ D = 5 ∨ D = 6) with rfl | rfl | rfl | rfl | rfl | rfl | rfl
  all_goals
    go_enter Try.func52, Try.ntmps52
    go_wp2
    refine wp_loop_rounds 7 ?_
    repeat (rw [rounds_succ]; go_wp2)
    go_ret
    exact ⟨rfl, rfl⟩

end Go.Proofs.Ytcbanemkjebdcaa
