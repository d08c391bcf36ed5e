/-
  Seal: powers, points, rows and blocks.
-/
import Derived.Test.YtcbanemkjebdcaaPolS
import Derived.Deep.DeepAppendWide
namespace Go.Proofs.Ytcbanemkjebdcaa
open Go.RowKit SP
set_option linter.unusedVariables false
set_option linter.unusedSimpArgs false

/-- A row of cells in a block that is not older than S. -/
def GRow (w : World) (S g c n : Nat) (F : Nat → Value) : Prop := S ≤ g ∧ g < w.heap.size ∧ n ≤ c ∧ c ≤ maxLen ∧ ∀ i, i < n → w.cell? ⟨g, i, none⟩ = some (F i)
theorem GRow.below {w w' : World} {S g c n m : Nat} {F : Nat → Value} (h : GRow w S g c n F) (hb : Below m w w') (hm : g < m) (hs : w.heap.size ≤ w'.heap.size) : GRow w' S g c n F :=
  ⟨h.1, Nat.lt_of_lt_of_le h.2.1 hs, h.2.2.1, h.2.2.2.1, fun i hi => (hb.cell (p := ⟨g, i, none⟩) hm).trans (h.2.2.2.2 i hi)⟩
theorem GRow.keep {w w' : World} {S g c n : Nat} {F : Nat → Value} (h : GRow w S g c n F) (hb : Below w.heap.size w w') : GRow w' S g c n F := h.below hb h.2.1 hb.size
theorem below_new (w : World) (o : Obj) : Below w.heap.size w (w.alloc o) := (Below.refl _ _).alloc (Nat.le_refl _) _
/-- A new block of n cells that may be written. -/
def NewB (w : World) (S b n : Nat) : Prop := S ≤ b ∧ b < w.heap.size ∧ w.there b 0 n
theorem NewB.keep {w w' : World} {S b n : Nat} (h : NewB w S b n) (hb : Below w.heap.size w w') : NewB w' S b n := ⟨h.1, Nat.lt_of_lt_of_le h.2.1 hb.size, there_below h.2.2 hb h.2.1⟩

/-- A power of the base of a header. -/
def pwv (X Y P Q G m E x : Nat) : Nat := hbase X Y P Q G m ^ (sm (cof X Y Q) x (E + 1) % Q) % P
def ptl (X Y P Q G m E T n : Nat) (f : Nat → Nat) (k : Nat) : List Value := (List.range k).flatMap fun i => [.int .u64 (px T n f i : Int), .int .u64 (pwv X Y P Q G m E (px T n f i) : Int)]
theorem ptl_snoc (X Y P Q G m E T n : Nat) (f : Nat → Nat) (k : Nat) : ptl X Y P Q G m E T n f (k + 1) = ptl X Y P Q G m E T n f k ++ [.int .u64 (px T n f k : Int), .int .u64 (pwv X Y P Q G m E (px T n f k) : Int)] := by unfold ptl; rw [List.range_succ, List.flatMap_append]; rfl
theorem size28 : (Try.prog.info? 28).map (·.size) = some 6 := by kernel_rfl
theorem size94 : (Try.prog.info? 94).map (·.size) = some 2 := by kernel_rfl
theorem SchAt.range {w : World} {b : Nat} {K D E : Int} {P Q G : Nat} (h : SchAt w b K D E P Q G) : w.rangeAt b 0 [.int .u8 K, .int .i64 D, .int .i64 E, .int .u64 (P : Int), .int .u64 (Q : Int), .int .u64 (G : Int)] := by
  intro j v hv
  rw [Nat.zero_add]
  rcases j with _ | _ | _ | _ | _ | _ | j
  · injection hv with hv; subst hv; exact h.c0
  · injection hv with hv; subst hv; exact h.c1
  · injection hv with hv; subst hv; exact h.c2
  · injection hv with hv; subst hv; exact h.c3
  · injection hv with hv; subst hv; exact h.c4
  · injection hv with hv; subst hv; exact h.c5
  · cases hv
theorem range_below {w w' : World} {n b o : Nat} {cs : List Value} (h : w.rangeAt b o cs) (hb : Below n w w') (hn : b < n) : w'.rangeAt b o cs := fun j v hv => (hb.cell (p := ⟨b, o + j, none⟩) hn).trans (h j v hv)
theorem cells_lt {w : World} {b n : Nat} {F : Nat → Value} (h : ∀ i, i < n → w.cell? ⟨b, i, none⟩ = some (F i)) (hn : 0 < n) : b < w.heap.size := World.block_lt_of_cell? w _ (h 0 hn)

theorem gb_refl (w : World) (row : Option Nat) : w.grownBy w row := ⟨rfl, rfl, rfl, Nat.le_refl _, fun _ _ _ => rfl⟩
theorem gb_below {W w w1 : World} {row : Option Nat} {L : Nat} (h : W.grownBy w row) (hL : W.heap.size ≤ L) (hb : Below L w w1) : W.grownBy w1 row :=
  ⟨hb.os.trans h.os, hb.tape.trans h.tape, hb.output.trans h.output, Nat.le_trans h.size hb.size, fun k hk hr => (hb.block k (by omega)).trans (h.block k hk hr)⟩
theorem gb_set {W w : World} {b : Nat} (h : W.grownBy w (some b)) (o : Nat) (v : Value) : W.grownBy (w.setCell ⟨b, o, none⟩ v) (some b) :=
  ⟨h.os, h.tape, h.output, by rw [World.size_setCell]; exact h.size, fun k hk hr => (Below.heap_setCell _ _ _ _ (fun e => hr (by rw [e]))).trans (h.block k hk hr)⟩
theorem gb_setCells {W : World} {b : Nat} : ∀ (vs : List Value) (o : Nat) (w : World), W.grownBy w (some b) → W.grownBy (w.setCells b o vs) (some b)
  | [], _, _, h => h
  | v :: r, o, w, h => by rw [World.setCells]; exact gb_setCells r (o + 1) _ (gb_set h o v)
theorem range_grown {w w' : World} {b o : Nat} {cs : List Value} {row : Option Nat} (h : w.rangeAt b o cs) (hg : w.grownBy w' row) (hb : b < w.heap.size) (hr : some b ≠ row) : w'.rangeAt b o cs := fun j v hv => by
  rw [World.cell?_of_block (hg.block b hb hr)]; exact h j v hv
theorem there_grown {w w' : World} {b o n : Nat} {row : Option Nat} (h : w.there b o n) (hg : w.grownBy w' row) (hb : b < w.heap.size) (hr : some b ≠ row) : w'.there b o n := fun j hj => by
  rw [World.cell?_of_block (hg.block b hb hr), World.frozen?_of_block (hg.block b hb hr)]; exact h j hj
theorem GRow.grown {w w' : World} {S g c n : Nat} {F : Nat → Value} {row : Option Nat} (h : GRow w S g c n F) (hg : w.grownBy w' row) (hr : some g ≠ row) : GRow w' S g c n F :=
  ⟨h.1, Nat.lt_of_lt_of_le h.2.1 hg.size, h.2.2.1, h.2.2.2.1, fun i hi => by rw [World.cell?_of_block (hg.block g h.2.1 hr)]; exact h.2.2.2.2 i hi⟩
theorem own_slice2 {w : World} {B e s n : Nat} {v : Value} {xs : List Value} (h : w.ownsRow B e s v n xs) (hn : 0 < n) : ∃ g c, v = .slice (some ⟨g, 0, none⟩) n c ∧ B ≤ g ∧ n ≤ c ∧ c ≤ maxLen ∧ ∀ i x, xs[i]? = some x → w.cell? ⟨g, i, none⟩ = some x := by
  rcases h.2 with ⟨_, h0⟩ | ⟨g, cap, cur, hv, hb, hg, hnc, hcm, hcs, ht⟩
  · omega
  · refine ⟨g, cap, hv, hb, hnc, hcm, fun i x hx => ?_⟩
    rw [cell_of_row _ _ i _ _ _ hg]
    have hl := h.1
    rw [← ht] at hx
    have hi : i < n * s := by
      have := (List.getElem?_eq_some_iff.1 hx).1
      simp at this; omega
    rw [List.getElem?_take, if_pos hi] at hx
    simpa using hx
theorem info46 : (Try.prog.info? 46).map (fun i => (i.zero, i.size, i.bytes)) = some (some (.agg #[.int .u64 0, .int .u64 0]), 2, 16) := by kernel_rfl
theorem cell_two_new (w : World) (x y : Value) (t : TypeId) : ∀ j u, [x, y][j]? = some u → (w.alloc (.cells #[x, y] t)).cell? ((⟨w.heap.size, 0, none⟩ : Addr).add j) = some u := by
  intro j u hu
  rw [Addr.add_mid, Nat.zero_add, cell_of_row _ _ j _ t _ (heap_alloc_new w _)]
  simpa using hu
theorem wp_build46 {op : Oper} {a : Act} {w : World} {K : Act → World → Prop} {Q : Exit → Act → World → Prop} (p q : Operand) (ho : op.op = .build 46 #[(0, p), (1, q)]) (x y : Nat) (hx : a.eval p = .int .u64 (x : Int)) (hy : a.eval q = .int .u64 (y : Int))
    (h : K (a.put op.dst (.agg #[.int .u64 (x : Int), .int .u64 (y : Int)])) w) : op.wp Try.prog a w K Q := by
  unfold Oper.wp execOp
  simp only [ho, List.map_toArray, List.map_cons, List.map_nil, hx, hy, Sem.run_bind, build46, Result.andThen_ok]
  exact h
end Go.Proofs.Ytcbanemkjebdcaa
