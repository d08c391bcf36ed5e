/-
  Fractions, part A: fraction.
-/
import Derived.Test.YthplhlcdlnedfaaRefC
import Derived.Handy
namespace Go.Proofs.Ythplhlcdlnedfaa
open Go.RowKit MN

/-- A number in new memory. -/
def Own (B : Nat) (w : World) (v : Value) (N : Nat) : Prop := ∃ A m c, v = .slice A m c ∧ w.ownsRow B 24 1 v m (vs32 (digs 4294967296 N))

theorem Own.nil (B : Nat) (w : World) : Own B w (.slice none 0 0) 0 := ⟨none, 0, 0, rfl, World.ownsRow_nil _ _ _ _⟩
theorem Own.low {B B' : Nat} {w : World} {v : Value} {N : Nat} (h : Own B w v N) (hB : B' ≤ B) : Own B' w v N := by
  obtain ⟨A, m, c, rfl, h⟩ := h; exact ⟨A, m, c, rfl, own_low h hB⟩
theorem Own.keep {B : Nat} {w w' : World} {v : Value} {N : Nat} (h : Own B w v N) (hb : Below w.heap.size w w') : Own B w' v N := by
  obtain ⟨A, m, c, rfl, h⟩ := h; exact ⟨A, m, c, rfl, own_keep h hb⟩
theorem Own.set {B : Nat} {w : World} {v : Value} {N : Nat} (h : Own B w v N) {a : Addr} (ha : a.block < B) (u : Value) : Own B (w.setCell a u) v N := by
  obtain ⟨A, m, c, rfl, h⟩ := h; exact ⟨A, m, c, rfl, ownsRow_setCell_below h ha u⟩

/-- Two numbers in new memory. -/
structure Pair (w w' : World) (v1 v2 : Value) (N D : Nat) : Prop where
  one : Own w.heap.size w' v1 N
  two : Own w.heap.size w' v2 D
  below : Below w.heap.size w w'

/-- A variable of two cells. -/
structure Var2 (w : World) (B : Nat) (u v : Value) : Prop where
  c0 : w.cell? ⟨B, 0, none⟩ = some u
  c1 : w.cell? ⟨B, 1, none⟩ = some v
  f0 : w.frozen? ⟨B, 0, none⟩ = false
  f1 : w.frozen? ⟨B, 1, none⟩ = false

theorem var2_new (w : World) (u v : Value) (t : TypeId) : Var2 (w.alloc (.cells #[u, v] t)) w.heap.size u v :=
  ⟨by rw [World.cell?_alloc_at (hn := by simp)]; rfl, by rw [World.cell?_alloc_at (hn := by simp)]; rfl, World.frozen?_alloc_new .., World.frozen?_alloc_new ..⟩
theorem Var2.keep {w w' : World} {B N : Nat} {u v : Value} (h : Var2 w B u v) (hb : Below N w w') (hN : B < N) : Var2 w' B u v :=
  ⟨(hb.cell (p := ⟨B, 0, none⟩) hN).trans h.c0, (hb.cell (p := ⟨B, 1, none⟩) hN).trans h.c1, (hb.frozen (p := ⟨B, 0, none⟩) hN).trans h.f0, (hb.frozen (p := ⟨B, 1, none⟩) hN).trans h.f1⟩

theorem Var2.stored {w : World} {B : Nat} {u v : Value} (h : Var2 w B u v) (u' v' : Value) : Var2 ((w.setCell ⟨B, 0, none⟩ u').setCell ⟨B, 1, none⟩ v') B u' v' :=
  ⟨by rw [World.cell?_setCell_other (h := by simp)]; exact World.cell?_setCell_same _ _ _ h.c0,
   World.cell?_setCell_same _ _ _ (by rw [World.cell?_setCell_other (h := by simp)]; exact h.c1),
   by rw [World.frozen?_setCell, World.frozen?_setCell]; exact h.f0, by rw [World.frozen?_setCell, World.frozen?_setCell]; exact h.f1⟩

theorem Pair.shut {w w2 : World} {B : Nat} {v1 v2 : Value} {N D : Nat} (h1 : Own B w2 v1 N) (h2 : Own B w2 v2 D) (hB : w.heap.size < B) (hb : Below w.heap.size w w2) :
    Pair w ((w2.setCell ⟨w.heap.size, 0, none⟩ v1).setCell ⟨w.heap.size, 1, none⟩ v2) v1 v2 N D :=
  ⟨((h1.set hB _).set hB _).low (by omega), ((h2.set hB _).set hB _).low (by omega), (hb.setCell (Nat.le_refl _) _).setCell (Nat.le_refl _) _⟩

theorem fraction_any (X Y : Nat) (w : World) (h1 : X ≤ 18446744073709551615) (h2 : Y ≤ 18446744073709551615) :
    Calls Try.prog 33 #[.int .u64 (X : Int), .int .u64 (Y : Int)] w fun e w' => ∃ v1 v2, e = .returned (.agg #[v1, v2]) ∧ Pair w w' v1 v2 X Y := by
  obtain ⟨w0, hw0⟩ : ∃ w0, w0 = w.alloc (.cells #[.slice none 0 0, .slice none 0 0] 38) := ⟨_, rfl⟩
  have hb0 := below_alloc w (.cells #[.slice none 0 0, .slice none 0 0] 38)
  have hs0 : w0.heap.size = w.heap.size + 1 := by rw [hw0]; simp
  have hv0 := var2_new w (.slice none 0 0) (.slice none 0 0) 38
  rw [← hw0] at hb0 hv0
  have HW := Lib.hid hw0
  clear hw0
  go_enter Try.func33, Try.ntmps33
  go_wp2_with fail
  rw [← HW.out]
  refine (n_any X w0 h1).mono ?_
  rintro e w1 ⟨A1, m1, c1, rfl, ho1, hb1⟩
  go_wp2_with fail
  refine (n_any Y w1 h2).mono ?_
  rintro e w2 ⟨A2, m2, c2, rfl, ho2, hb2⟩
  have hs1 := hb1.size
  have hB := hb1.trans (hb2.mono hb1.size)
  obtain ⟨k0, k1, f0, f1⟩ := hv0.keep hB (by omega)
  have O1 := (⟨A1, m1, c1, rfl, own_keep ho1 hb2⟩ : Own w0.heap.size w2 (.slice A1 m1 c1) X)
  have O2 := (⟨A2, m2, c2, rfl, own_low ho2 hs1⟩ : Own w0.heap.size w2 (.slice A2 m2 c2) Y)
  have hv2 := Var2.stored (hv0.keep hB (by omega)) (.slice A1 m1 c1) (.slice A2 m2 c2)
  have HP := Pair.shut (w := w) O1 O2 (by omega) (hb0.trans (hB.mono (by omega)))
  clear ho1 ho2 O1 O2
  obtain ⟨wf, hwf⟩ : ∃ wf, wf = (w2.setCell ⟨w.heap.size, 0, none⟩ (.slice A1 m1 c1)).setCell ⟨w.heap.size, 1, none⟩ (.slice A2 m2 c2) := ⟨_, rfl⟩
  rw [← hwf] at HP hv2
  have HV := Lib.hid hv2
  have HF := Lib.hid hwf
  clear hwf hv2
  go_wp2
  rw [← HF.out]
  obtain ⟨q0, q1, _, _⟩ := HV.out
  refine bodyPost_ret (by simp [results, Try.results33, q0, q1, go_sem]; rfl) rfl ?_
  exact ⟨_, _, rfl, HP⟩
end Go.Proofs.Ythplhlcdlnedfaa
