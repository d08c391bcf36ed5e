/-
  Streams: boxes, and the bytes that are streamed.
-/
import Derived.Test.YtphhppdokdageaaChnB
import Derived.OneCell
namespace Go.Proofs.Ytphhppdokdageaa
open Go.RowKit Go.Shelf SP
set_option linter.unusedVariables false
set_option linter.unusedSimpArgs false

/-- A block of one cell. -/
def Box (w : World) (b : Nat) (v : Value) (t : TypeId) : Prop := w.heap[b]? = some (.cells #[v] t (0, 0))
theorem Box.lt {w : World} {b : Nat} {v : Value} {t : TypeId} (h : Box w b v t) : b < w.heap.size := (Array.getElem?_eq_some_iff.1 h).1
theorem Box.cell {w : World} {b : Nat} {v : Value} {t : TypeId} (h : Box w b v t) : w.cell? ⟨b, 0, none⟩ = some v := cell_of_one h
theorem Box.fr {w : World} {b : Nat} {v : Value} {t : TypeId} (h : Box w b v t) : w.frozen? ⟨b, 0, none⟩ = false := by unfold World.frozen?; rw [h]; simp
theorem Box.new (w : World) (v : Value) (t : TypeId) : Box (w.alloc (.cells #[v] t)) w.heap.size v t := heap_alloc_new w _
theorem Box.below {w w' : World} {m b : Nat} {v : Value} {t : TypeId} (h : Box w b v t) (hb : Below m w w') (hm : b < m) : Box w' b v t := (hb.block b hm).trans h
theorem Box.keep {w w' : World} {b : Nat} {v : Value} {t : TypeId} (h : Box w b v t) (hb : Below w.heap.size w w') : Box w' b v t := h.below hb h.lt
theorem Box.drew {w : World} {b : Nat} {v : Value} {t : TypeId} (h : Box w b v t) : Box w.drew b v t := h
theorem Box.set {w : World} {b : Nat} {v : Value} {t : TypeId} (h : Box w b v t) (u : Value) : Box (w.setCell ⟨b, 0, none⟩ u) b u t := by
  exact one_setCell h
theorem Box.other {w : World} {b : Nat} {v : Value} {t : TypeId} (h : Box w b v t) {a : Addr} (ha : a.block ≠ b) (u : Value) : Box (w.setCell a u) b v t := by
  unfold Box at h ⊢
  rw [Below.heap_setCell _ _ _ _ (fun e => ha (by first | exact e | exact e.symm))]; exact h
theorem Box.kept {w w' : World} {b : Nat} {v : Value} {t : TypeId} {row : Option Nat} (h : Box w b v t) (hg : w.grownBy w' row) (hr : ∀ r, row = some r → ∃ o : Obj, w.heap[r]? = some o ∧ o.isCells = false) : Box w' b v t :=
  (grownBy_keeps_cells hg hr h rfl).trans h
theorem Box.grown {w w' : World} {b : Nat} {v : Value} {t : TypeId} {row : Option Nat} (h : Box w b v t) (hg : w.grownBy w' row) (hb : some b ≠ row) : Box w' b v t := (hg.block b h.lt hb).trans h
/-- A block's type. -/
def Ty (w : World) (b : Nat) (t : TypeId) : Prop := ∃ cs fz, w.heap[b]? = some (.cells cs t fz)
theorem Box.ty {w : World} {b : Nat} {v : Value} {t : TypeId} (h : Box w b v t) : Ty w b t := ⟨_, _, h⟩
theorem Ty.lt {w : World} {b : Nat} {t : TypeId} (h : Ty w b t) : b < w.heap.size := by obtain ⟨_, _, h⟩ := h; exact (Array.getElem?_eq_some_iff.1 h).1
theorem Ty.below {w w' : World} {m b : Nat} {t : TypeId} (h : Ty w b t) (hb : Below m w w') (hm : b < m) : Ty w' b t := by obtain ⟨cs, fz, h⟩ := h; exact ⟨cs, fz, (hb.block b hm).trans h⟩
theorem Ty.keep {w w' : World} {b : Nat} {t : TypeId} (h : Ty w b t) (hb : Below w.heap.size w w') : Ty w' b t := h.below hb h.lt
theorem Ty.new (w : World) (cs : Array Value) (t : TypeId) : Ty (w.alloc (.cells cs t)) w.heap.size t := ⟨_, _, heap_alloc_new w _⟩
theorem Ty.setCell {w : World} {b : Nat} {t : TypeId} (h : Ty w b t) (a : Addr) (u : Value) : Ty (w.setCell a u) b t := by
  obtain ⟨cs, fz, h⟩ := h
  by_cases e : a.block = b
  · unfold Ty
    simp only [World.setCell, Array.getElem?_modify, e, h, if_true, Option.map_some]
    obtain ⟨ab, ao, sp⟩ := a
    simp only at e ⊢
    cases sp <;> exact ⟨_, _, rfl⟩
  · exact ⟨cs, fz, by rw [Below.heap_setCell _ _ _ _ (fun e' => e (by first | exact e' | exact e'.symm))]; exact h⟩
theorem Ty.setCells {w : World} {b : Nat} {t : TypeId} (h : Ty w b t) (b' : Nat) : ∀ (vs : List Value) (o : Nat), Ty (w.setCells b' o vs) b t := by
  intro vs
  induction vs generalizing w with
  | nil => intro o; exact h
  | cons v r ih => intro o; rw [World.setCells]; exact ih (h.setCell _ _) (o + 1)
theorem Ty.grown {w w' : World} {b : Nat} {t : TypeId} {row : Option Nat} (h : Ty w b t) (hg : w.grownBy w' row) (hb : some b ≠ row) : Ty w' b t := by
  have hl := h.lt
  obtain ⟨cs, fz, h⟩ := h; exact ⟨cs, fz, (hg.block b hl hb).trans h⟩
theorem Ty.apart {w : World} {b base size n : Nat} {e t : TypeId} {v : Value} {xs : List Value} (h : Ty w b t) (ho : w.ownsRow base e size v n xs) (hne : e ≠ t) : some b ≠ v.ownBlock := by
  obtain ⟨cs, fz, h⟩ := h
  rcases ho.2 with ⟨rfl, _⟩ | ⟨g, cap, cur, rfl, h1, h2, _⟩
  · intro e; cases e
  · intro eq
    injection eq with eq
    simp only at eq
    subst eq
    rw [h] at h2
    injection h2 with h2
    injection h2 with _ h3 _
    exact hne h3.symm
theorem KeepsOthers.grown {w w' : World} {base e size n : Nat} {v : Value} {xs : List Value} (ho : w.ownsRow base e size v n xs) (hg : w.grownBy w' v.ownBlock) : KeepsOthers w w' :=
  ⟨hg.size, fun k o hk hc => by
    rw [hg.block k (Array.getElem?_eq_some_iff.1 hk).1 ?_]; · exact hk
    intro eq
    rcases ho.2 with ⟨rfl, _⟩ | ⟨g, cap, cur, rfl, h1, h2, _⟩
    · cases eq
    · injection eq with eq
      simp only at eq
      subst eq
      rw [hk] at h2
      injection h2 with h2
      subst h2
      cases hc⟩

/-- The mask with a counter. -/
def msk (X Y t c : Nat) : Nat × Nat := enc X Y (72057594037927936 + c) t
/-- Byte j of a portion k, streamed with a counter c. -/
def sby (X Y t : Nat) (g : Nat → Nat) (c k j : Nat) : Nat := g (16 * k + j) ^^^ kby (msk X Y t c).1 (msk X Y t c).2 j
/-- Byte i of the stream. -/
def smb (X Y t : Nat) (g : Nat → Nat) (i : Nat) : Nat := g i ^^^ kby (msk X Y t (i / 16)).1 (msk X Y t (i / 16)).2 (i % 16)
theorem xor_byte {a b : Nat} (ha : a < 256) (hb : b < 256) : a ^^^ b < 256 := Nat.xor_lt_two_pow (n := 8) ha hb
theorem sby_lt (X Y t : Nat) {g : Nat → Nat} (hg : ∀ i, g i < 256) (c k j : Nat) : sby X Y t g c k j < 256 := xor_byte (hg _) (kby_lt _ _ _)
theorem smb_lt (X Y t : Nat) {g : Nat → Nat} (hg : ∀ i, g i < 256) (i : Nat) : smb X Y t g i < 256 := xor_byte (hg _) (kby_lt _ _ _)
theorem sby_smb (X Y t : Nat) (g : Nat → Nat) (k j : Nat) (hj : j < 16) : sby X Y t g k k j = smb X Y t g (16 * k + j) := by
  unfold sby smb
  rw [show (16 * k + j) / 16 = k by omega, show (16 * k + j) % 16 = j by omega]
def pby (X Y t : Nat) (g : Nat → Nat) (c k p : Nat) : List Nat := (List.range p).map (sby X Y t g c k)
theorem pby_snoc (X Y t : Nat) (g : Nat → Nat) (c k p : Nat) : pby X Y t g c k (p + 1) = pby X Y t g c k p ++ [sby X Y t g c k p] := by
  unfold pby; rw [List.range_succ, List.map_append]; rfl
theorem pby_len (X Y t : Nat) (g : Nat → Nat) (c k p : Nat) : (pby X Y t g c k p).length = p := by simp [pby]
/-- What is streamed after some portions, and the counter. -/
def stl (X Y t : Nat) (g : Nat → Nat) (n : Nat) (pre : List (Part n)) : List Nat × Nat := pre.foldl (fun s x => (s.1 ++ pby X Y t g s.2 x.1 (pln n x.1), s.2 + 1)) ([], 0)
theorem stl_snoc (X Y t : Nat) (g : Nat → Nat) (n : Nat) (pre : List (Part n)) (x : Part n) : stl X Y t g n (pre ++ [x]) = ((stl X Y t g n pre).1 ++ pby X Y t g (stl X Y t g n pre).2 x.1 (pln n x.1), (stl X Y t g n pre).2 + 1) := by
  unfold stl; rw [List.foldl_append]; rfl
theorem eq_snoc {α : Type} (l : List α) : l = [] ∨ ∃ ys y, l = ys ++ [y] := by
  rcases List.eq_nil_or_concat l with h | ⟨ys, y, h⟩
  · exact .inl h
  · exact .inr ⟨ys, y, by simpa using h⟩
theorem stl_len (X Y t : Nat) (g : Nat → Nat) (n : Nat) : ∀ (m : Nat) (pre : List (Part n)), pre.length = m → (stl X Y t g n pre).2 = m ∧ (stl X Y t g n pre).1.length ≤ 16 * m
  | 0, pre, h => by
    rw [List.length_eq_zero_iff.1 h]
    exact ⟨rfl, Nat.le_refl _⟩
  | m + 1, pre, h => by
    rcases eq_snoc pre with rfl | ⟨ys, y, rfl⟩
    · simp at h
    · have hl : ys.length = m := by simpa using h
      obtain ⟨h1, h2⟩ := stl_len X Y t g n m ys hl
      rw [stl_snoc]
      refine ⟨by show _ + 1 = _; rw [h1], ?_⟩
      show (_ ++ _ : List Nat).length ≤ _
      rw [List.length_append, pby_len]
      have : pln n y.1 ≤ 16 := by unfold pln; omega
      omega
theorem stl_all (X Y t : Nat) (g : Nat → Nat) (n : Nat) : ∀ (m : Nat) (xs : List (Part n)), m ≤ cnt n → xs.map (·.1) = List.range m → stl X Y t g n xs = ((List.range (min n (16 * m))).map (smb X Y t g), m)
  | 0, xs, _, h => by
    have : xs = [] := List.map_eq_nil_iff.1 (h.trans rfl)
    subst this
    simp [stl]
  | m + 1, xs, hm, h => by
    rcases eq_snoc xs with rfl | ⟨ys, y, rfl⟩
    · simp at h
    · rw [List.map_append, List.range_succ] at h
      have hl := congrArg List.length h
      simp at hl
      obtain ⟨h1, h2⟩ := List.append_inj h (by simp [hl])
      have h3 : y.1 = m := by simpa using h2
      have ih := stl_all X Y t g n m ys (by omega) h1
      rw [stl_snoc, ih, h3]
      have hlt := y.2
      rw [h3] at hlt
      have e1 : min n (16 * m) = 16 * m := by omega
      have e2 : min n (16 * (m + 1)) = 16 * m + pln n m := by unfold pln; omega
      have hp : pln n m ≤ 16 := by unfold pln; omega
      rw [e1, e2]
      refine Prod.ext ?_ rfl
      show List.map _ _ ++ pby X Y t g m m (pln n m) = List.map _ _
      rw [List.range_add, List.map_append, List.map_map]
      rw [List.append_cancel_left_eq]
      unfold pby
      refine List.map_congr_left fun j hj => ?_
      have hj' := List.mem_range.1 hj
      exact sby_smb X Y t g m j (by omega)
theorem own_notrow {w : World} {base e size n : Nat} {v : Value} {xs : List Value} {row : Option Nat} (ho : w.ownsRow base e size v n xs) (hr : ∀ r, row = some r → ∃ o : Obj, w.heap[r]? = some o ∧ o.isCells = false) : v.ownBlock = none ∨ v.ownBlock ≠ row := by
  rcases ho.2 with ⟨rfl, _⟩ | ⟨g, cap, cur, rfl, h1, h2, _⟩
  · exact .inl rfl
  · refine .inr fun e => ?_
    obtain ⟨o, ho', hc⟩ := hr g e.symm
    rw [h2] at ho'
    injection ho' with ho'
    subst ho'
    cases hc
theorem own_val {w : World} {base e size n : Nat} {v : Value} {xs : List Value} (ho : w.ownsRow base e size v n xs) : ∃ A m c, v = .slice A m c := by
  rcases ho.2 with ⟨rfl, _⟩ | ⟨g, cap, cur, rfl, _⟩
  · exact ⟨_, _, _, rfl⟩
  · exact ⟨_, _, _, rfl⟩
end Go.Proofs.Ytphhppdokdageaa
