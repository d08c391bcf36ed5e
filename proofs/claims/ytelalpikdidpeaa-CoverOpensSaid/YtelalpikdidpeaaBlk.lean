/-
  Blocks of cells, by their objects; an append into a variable's box.
-/
import Derived.Test.YtelalpikdidpeaaBox
import Derived.Test.YtelalpikdidpeaaRnd
import Derived.Test.YtelalpikdidpeaaLevB
import Derived.Test.YtelalpikdidpeaaJB
import Derived.Deep.MidRow
namespace Go.Proofs.Ytelalpikdidpeaa
open Go.RowKit Go.Shelf
set_option linter.unusedVariables false
set_option linter.unusedSimpArgs false

/-- A block of cells that may be written. -/
def Blk (w : World) (b : Nat) (cs : Array Value) (t : TypeId) : Prop := w.heap[b]? = some (.cells cs t (0, 0))
theorem Blk.lt {w : World} {b : Nat} {cs : Array Value} {t : TypeId} (h : Blk w b cs t) : b < w.heap.size := (Array.getElem?_eq_some_iff.1 h).1
theorem Blk.cell {w : World} {b : Nat} {cs : Array Value} {t : TypeId} (h : Blk w b cs t) (i : Nat) : w.cell? ⟨b, i, none⟩ = cs[i]? := by rw [cell_of_row _ _ i _ _ _ h]
theorem Blk.fr {w : World} {b : Nat} {cs : Array Value} {t : TypeId} (h : Blk w b cs t) (i : Nat) : w.frozen? ⟨b, i, none⟩ = false := by unfold World.frozen?; rw [h]; simp
theorem Blk.new (w : World) (cs : Array Value) (t : TypeId) : Blk (w.alloc (.cells cs t)) w.heap.size cs t := heap_alloc_new w _
theorem Blk.below {w w' : World} {m b : Nat} {cs : Array Value} {t : TypeId} (h : Blk w b cs t) (hb : Below m w w') (hm : b < m) : Blk w' b cs t := (hb.block b hm).trans h
theorem Blk.keep {w w' : World} {b : Nat} {cs : Array Value} {t : TypeId} (h : Blk w b cs t) (hb : Below w.heap.size w w') : Blk w' b cs t := h.below hb h.lt
theorem Blk.kept {w w' : World} {b : Nat} {cs : Array Value} {t : TypeId} {row : Option Nat} (h : Blk w b cs t) (hg : w.grownBy w' row) (hr : ∀ r, row = some r → ∃ o : Obj, w.heap[r]? = some o ∧ o.isCells = false) : Blk w' b cs t :=
  (grownBy_keeps_cells hg hr h rfl).trans h
theorem Blk.grown {w w' : World} {b : Nat} {cs : Array Value} {t : TypeId} {row : Option Nat} (h : Blk w b cs t) (hg : w.grownBy w' row) (hb : some b ≠ row) : Blk w' b cs t := (hg.block b h.lt hb).trans h
theorem Blk.other {w : World} {b : Nat} {cs : Array Value} {t : TypeId} (h : Blk w b cs t) {a : Addr} (ha : a.block ≠ b) (u : Value) : Blk (w.setCell a u) b cs t := by
  unfold Blk at h ⊢
  rw [Below.heap_setCell _ _ _ _ (fun e => ha (by first | exact e | exact e.symm))]; exact h
theorem Blk.ty {w : World} {b : Nat} {cs : Array Value} {t : TypeId} (h : Blk w b cs t) : Ty w b t := ⟨_, _, h⟩
theorem Blk.apart {w : World} {b base size n : Nat} {e t : TypeId} {cs : Array Value} {v : Value} {xs : List Value} (h : Blk w b cs t) (ho : w.ownsRow base e size v n xs) (hne : e ≠ t) : some b ≠ v.ownBlock := h.ty.apart ho hne
theorem Blk.range {w : World} {b : Nat} {cs : Array Value} {t : TypeId} (h : Blk w b cs t) : w.rangeAt b 0 cs.toList := fun j v hv => by
  rw [Nat.zero_add, h.cell]; simpa using hv
theorem Blk.there {w : World} {b : Nat} {cs : Array Value} {t : TypeId} (h : Blk w b cs t) : w.there b 0 cs.size := fun j hj => by
  rw [Nat.zero_add]; exact ⟨by rw [h.cell]; simp [hj], h.fr j⟩
theorem Blk.set2 {w : World} {b : Nat} {p q : Value} {t : TypeId} (h : Blk w b #[p, q] t) (x y : Value) : Blk (w.setCells b 0 [x, y]) b #[x, y] t := by
  unfold Blk at h ⊢
  simp only [World.setCells, World.setCell, Array.getElem?_modify, h, if_true, Option.map_some]
  rfl
theorem Box.blk {w : World} {b : Nat} {v : Value} {t : TypeId} (h : Box w b v t) : Blk w b #[v] t := h
theorem Blk.box {w : World} {b : Nat} {v : Value} {t : TypeId} (h : Blk w b #[v] t) : Box w b v t := h
theorem grownBy_refl (w : World) (row : Option Nat) : w.grownBy w row := ⟨rfl, rfl, rfl, Nat.le_refl _, fun _ _ _ => rfl⟩
theorem grownBy_trans {a b c : World} {row : Option Nat} (h : a.grownBy b row) (k : b.grownBy c row) : a.grownBy c row :=
  ⟨k.os.trans h.os, k.tape.trans h.tape, k.output.trans h.output, Nat.le_trans h.size k.size, fun i hi hr => (k.block i (Nat.lt_of_lt_of_le hi h.size) hr).trans (h.block i hi hr)⟩
theorem grownBy_below {a b c : World} {row : Option Nat} (h : a.grownBy b row) (k : Below b.heap.size b c) : a.grownBy c row :=
  grownBy_trans h ⟨k.os, k.tape, k.output, k.size, fun i hi _ => k.block i hi⟩
theorem below_alloc (w : World) (o : Obj) : Below w.heap.size w (w.alloc o) := (Below.refl _ _).alloc (Nat.le_refl _) _
theorem inRound_inRound (F : Fence) (a b : Nat) : (F.inRound a).inRound b = F.inRound b := rfl

/-- What stands behind 'l = append(l, ..)' where l lies in a box. -/
theorem app_done {W w1 : World} {N lb n m sz : Nat} {tl ts : TypeId} {v v2 : Value} {xs ys : List Value} (hv : Box W lb v tl) (hne : ts ≠ tl) (hrow : W.ownsRow N ts sz v n xs) (hg : W.grownBy w1 v.ownBlock)
    (ho : w1.ownsRow N ts sz v2 m ys) (hN : N ≤ W.heap.size) (hlb : N ≤ lb) :
    Box (w1.setCell ⟨lb, 0, none⟩ v2) lb v2 tl ∧ (w1.setCell ⟨lb, 0, none⟩ v2).ownsRow N ts sz v2 m ys ∧ KeepsOthers W (w1.setCell ⟨lb, 0, none⟩ v2) ∧ Below N W (w1.setCell ⟨lb, 0, none⟩ v2) ∧
      (∀ b cs t, b ≠ lb → ts ≠ t → Blk W b cs t → Blk (w1.setCell ⟨lb, 0, none⟩ v2) b cs t) := by
  have hv1 : Box w1 lb v tl := hv.grown hg (hv.ty.apart hrow hne)
  refine ⟨hv1.set v2, ownsRow_setCell_other ho (Ne.symm (hv1.ty.apart ho hne)) _, (KeepsOthers.grown hrow hg).trans (KeepsOthers.setCell _ _ _), ?_, fun b cs t h1 h2 h3 => ?_⟩
  · exact ((Below.refl N W).grown hg hN (fun b hb => own_block hrow hb.symm)).setCell (p := ⟨lb, 0, none⟩) hlb _
  · exact (h3.grown hg (h3.apart hrow h2)).other (fun e => h1 e.symm) _
end Go.Proofs.Ytelalpikdidpeaa
