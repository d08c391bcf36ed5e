/-
  Boxes, blocks' types, rows beside them.
-/
import Derived.Test.YtelalpikdidpeaaOwn
import Derived.OneCell
namespace Go.Proofs.Ytelalpikdidpeaa
open Go.RowKit Go.Shelf
set_option linter.unusedVariables false
set_option linter.unusedSimpArgs false

/-- A block of one cell. -/
def Box (w : World) (b : Nat) (v : Value) (t : TypeId) : Prop := w.heap[b]? = some (.cells #[v] t (0, 0))
theorem Box.lt {w : World} {b : Nat} {v : Value} {t : TypeId} (h : Box w b v t) : b < w.heap.size := (Array.getElem?_eq_some_iff.1 h).1
theorem Box.cell {w : World} {b : Nat} {v : Value} {t : TypeId} (h : Box w b v t) : w.cell? ⟨b, 0, none⟩ = some v := cell_of_one h
theorem Box.fr {w : World} {b : Nat} {v : Value} {t : TypeId} (h : Box w b v t) : w.frozen? ⟨b, 0, none⟩ = false := by unfold World.frozen?; rw [h]; simp
theorem Box.new (w : World) (v : Value) (t : TypeId) : Box (w.alloc (.cells #[v] t)) w.heap.size v t := heap_alloc_new w _
theorem Box.below {w w' : World} {m b : Nat} {v : Value} {t : TypeId} (h : Box w b v t) (hb : Below m w w') (hm : b < m) : Box w' b v t := (hb.block b hm).trans h
theorem Box.keep {w w' : World} {b : Nat} {v : Value} {t : TypeId} (h : Box w b v t) (hb : Below w.heap.size w w') : Box w' b v t := h.below hb h.lt
theorem Box.drew {w : World} {b : Nat} {v : Value} {t : TypeId} (h : Box w b v t) : Box w.drew b v t := h
theorem Box.set {w : World} {b : Nat} {v : Value} {t : TypeId} (h : Box w b v t) (u : Value) : Box (w.setCell ⟨b, 0, none⟩ u) b u t := by
  exact one_setCell h
theorem Box.other {w : World} {b : Nat} {v : Value} {t : TypeId} (h : Box w b v t) {a : Addr} (ha : a.block ≠ b) (u : Value) : Box (w.setCell a u) b v t := by
  unfold Box at h ⊢
  rw [Below.heap_setCell _ _ _ _ (fun e => ha (by first | exact e | exact e.symm))]; exact h
theorem Box.kept {w w' : World} {b : Nat} {v : Value} {t : TypeId} {row : Option Nat} (h : Box w b v t) (hg : w.grownBy w' row) (hr : ∀ r, row = some r → ∃ o : Obj, w.heap[r]? = some o ∧ o.isCells = false) : Box w' b v t :=
  (grownBy_keeps_cells hg hr h rfl).trans h
theorem Box.grown {w w' : World} {b : Nat} {v : Value} {t : TypeId} {row : Option Nat} (h : Box w b v t) (hg : w.grownBy w' row) (hb : some b ≠ row) : Box w' b v t := (hg.block b h.lt hb).trans h
/-- A block's type. -/
def Ty (w : World) (b : Nat) (t : TypeId) : Prop := ∃ cs fz, w.heap[b]? = some (.cells cs t fz)
theorem Box.ty {w : World} {b : Nat} {v : Value} {t : TypeId} (h : Box w b v t) : Ty w b t := ⟨_, _, h⟩
theorem Ty.lt {w : World} {b : Nat} {t : TypeId} (h : Ty w b t) : b < w.heap.size := by obtain ⟨_, _, h⟩ := h; exact (Array.getElem?_eq_some_iff.1 h).1
theorem Ty.below {w w' : World} {m b : Nat} {t : TypeId} (h : Ty w b t) (hb : Below m w w') (hm : b < m) : Ty w' b t := by obtain ⟨cs, fz, h⟩ := h; exact ⟨cs, fz, (hb.block b hm).trans h⟩
theorem Ty.keep {w w' : World} {b : Nat} {t : TypeId} (h : Ty w b t) (hb : Below w.heap.size w w') : Ty w' b t := h.below hb h.lt
theorem Ty.new (w : World) (cs : Array Value) (t : TypeId) : Ty (w.alloc (.cells cs t)) w.heap.size t := ⟨_, _, heap_alloc_new w _⟩
theorem Ty.setCell {w : World} {b : Nat} {t : TypeId} (h : Ty w b t) (a : Addr) (u : Value) : Ty (w.setCell a u) b t := by
  obtain ⟨cs, fz, h⟩ := h
  by_cases e : a.block = b
  · unfold Ty
    simp only [World.setCell, Array.getElem?_modify, e, h, if_true, Option.map_some]
    obtain ⟨ab, ao, sp⟩ := a
    simp only at e ⊢
    cases sp <;> exact ⟨_, _, rfl⟩
  · exact ⟨cs, fz, by rw [Below.heap_setCell _ _ _ _ (fun e' => e (by first | exact e' | exact e'.symm))]; exact h⟩
theorem Ty.setCells {w : World} {b : Nat} {t : TypeId} (h : Ty w b t) (b' : Nat) : ∀ (vs : List Value) (o : Nat), Ty (w.setCells b' o vs) b t := by
  intro vs
  induction vs generalizing w with
  | nil => intro o; exact h
  | cons v r ih => intro o; rw [World.setCells]; exact ih (h.setCell _ _) (o + 1)
theorem Ty.grown {w w' : World} {b : Nat} {t : TypeId} {row : Option Nat} (h : Ty w b t) (hg : w.grownBy w' row) (hb : some b ≠ row) : Ty w' b t := by
  have hl := h.lt
  obtain ⟨cs, fz, h⟩ := h; exact ⟨cs, fz, (hg.block b hl hb).trans h⟩
theorem Ty.apart {w : World} {b base size n : Nat} {e t : TypeId} {v : Value} {xs : List Value} (h : Ty w b t) (ho : w.ownsRow base e size v n xs) (hne : e ≠ t) : some b ≠ v.ownBlock := by
  obtain ⟨cs, fz, h⟩ := h
  rcases ho.2 with ⟨rfl, _⟩ | ⟨g, cap, cur, rfl, h1, h2, _⟩
  · intro e; cases e
  · intro eq
    injection eq with eq
    simp only at eq
    subst eq
    rw [h] at h2
    injection h2 with h2
    injection h2 with _ h3 _
    exact hne h3.symm
theorem KeepsOthers.grown {w w' : World} {base e size n : Nat} {v : Value} {xs : List Value} (ho : w.ownsRow base e size v n xs) (hg : w.grownBy w' v.ownBlock) : KeepsOthers w w' :=
  ⟨hg.size, fun k o hk hc => by
    rw [hg.block k (Array.getElem?_eq_some_iff.1 hk).1 ?_]; · exact hk
    intro eq
    rcases ho.2 with ⟨rfl, _⟩ | ⟨g, cap, cur, rfl, h1, h2, _⟩
    · cases eq
    · injection eq with eq
      simp only at eq
      subst eq
      rw [hk] at h2
      injection h2 with h2
      subst h2
      cases hc⟩

theorem own_notrow {w : World} {base e size n : Nat} {v : Value} {xs : List Value} {row : Option Nat} (ho : w.ownsRow base e size v n xs) (hr : ∀ r, row = some r → ∃ o : Obj, w.heap[r]? = some o ∧ o.isCells = false) : v.ownBlock = none ∨ v.ownBlock ≠ row := by
  rcases ho.2 with ⟨rfl, _⟩ | ⟨g, cap, cur, rfl, h1, h2, _⟩
  · exact .inl rfl
  · refine .inr fun e => ?_
    obtain ⟨o, ho', hc⟩ := hr g e.symm
    rw [h2] at ho'
    injection ho' with ho'
    subst ho'
    cases hc
end Go.Proofs.Ytelalpikdidpeaa
