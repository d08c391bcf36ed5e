/-
  Headers in memory: 35 cells.
-/
import Derived.Test.YtcbanemkjebdcaaPolM
import Derived.Test.YtcbanemkjebdcaaPolN
import Derived.Test.YtcbanemkjebdcaaPolP
import Derived.Test.YtcbanemkjebdcaaPolQ
import Derived.Test.YtcbanemkjebdcaaPolB
import Derived.Test.YtcbanemkjebdcaaPolH
import Derived.Laws.Tables
namespace Go.Proofs.Ytcbanemkjebdcaa
open Go.RowKit SP
set_option linter.unusedVariables false
set_option linter.unusedSimpArgs false

/-- A header without items: its base, its points, its box and its check. -/
def hdl (pv : Value) (B X Y U V : Nat) : List Value := .slice none 0 0 :: .int .u64 (B : Int) :: pv :: (kl X Y ++ kl U V)
theorem hd_len (pv : Value) (B X Y U V : Nat) : (hdl pv B X Y U V).length = 35 := by simp [hdl, kl_len]
theorem size60 : (Try.prog.info? 60).map (·.size) = some 35 := by kernel_rfl
theorem hd_one (pv : Value) (B X Y U V : Nat) (hp : pv.oneCell' = true) : ∀ v ∈ hdl pv B X Y U V, v.oneCell' = true := by
  intro v hv
  simp only [hdl, List.mem_cons, List.mem_append] at hv
  rcases hv with rfl | rfl | rfl | h | h
  · rfl
  · rfl
  · exact hp
  · exact kl_one _ _ _ h
  · exact kl_one _ _ _ h
theorem hd_arr (pv : Value) (B X Y U V : Nat) (hp : pv.oneCell' = true) : (hdl pv B X Y U V).toArray.all (·.oneCell') = true := all_oneCell_toArray (hd_one pv B X Y U V hp)
theorem hd_zero : #[.slice none 0 0, .int .u64 0, .slice none 0 0, .int .u8 0, .int .u8 0, .int .u8 0, .int .u8 0, .int .u8 0, .int .u8 0, .int .u8 0, .int .u8 0, .int .u8 0, .int .u8 0, .int .u8 0, .int .u8 0, .int .u8 0, .int .u8 0, .int .u8 0, .int .u8 0, .int .u8 0, .int .u8 0, .int .u8 0, .int .u8 0, .int .u8 0, .int .u8 0, .int .u8 0, .int .u8 0, .int .u8 0, .int .u8 0, .int .u8 0, .int .u8 0, .int .u8 0, .int .u8 0, .int .u8 0, .int .u8 0] = (hdl (.slice none 0 0) 0 0 0 0 0).toArray := by first | rfl | kernel_rfl

/-- A header in a block that may be written. -/
def HdAt (w : World) (b : Nat) (pv : Value) (B X Y U V : Nat) : Prop := w.rangeAt b 0 (hdl pv B X Y U V) ∧ w.there b 0 35
section
variable {w w' : World} {b B X Y U V n : Nat} {pv : Value}
theorem HdAt.cell (h : HdAt w b pv B X Y U V) (i : Nat) {v : Value} (hv : (hdl pv B X Y U V)[i]? = some v) : w.cell? ⟨b, i, none⟩ = some v := by
  have := h.1 i v hv; rwa [Nat.zero_add] at this
theorem HdAt.c0 (h : HdAt w b pv B X Y U V) : w.cell? ⟨b, 0, none⟩ = some (.slice none 0 0) := h.cell 0 rfl
theorem HdAt.c1 (h : HdAt w b pv B X Y U V) : w.cell? ⟨b, 1, none⟩ = some (.int .u64 (B : Int)) := h.cell 1 rfl
theorem HdAt.c2 (h : HdAt w b pv B X Y U V) : w.cell? ⟨b, 2, none⟩ = some pv := h.cell 2 rfl
theorem HdAt.fr (h : HdAt w b pv B X Y U V) (i : Nat) (hi : i < 35) : w.frozen? ⟨b, i, none⟩ = false := by
  have := (h.2 i hi).2; rwa [Nat.zero_add] at this
theorem HdAt.box (h : HdAt w b pv B X Y U V) : w.rangeAt b 3 (kl X Y) := fun j v hv => h.cell (3 + j) (by
  have hj : j < 16 := by rw [← kl_len X Y]; exact (List.getElem?_eq_some_iff.1 hv).1
  rw [Nat.add_comm]
  show (kl X Y ++ kl U V)[j]? = some v
  rw [List.getElem?_append_left (by rw [kl_len]; exact hj)]; exact hv)
theorem HdAt.chk (h : HdAt w b pv B X Y U V) : w.rangeAt b 19 (kl U V) := fun j v hv => h.cell (19 + j) (by
  rw [show 19 + j = (16 + j) + 3 by omega]
  show (kl X Y ++ kl U V)[16 + j]? = some v
  rw [List.getElem?_append_right (by rw [kl_len]; omega), kl_len, Nat.add_sub_cancel_left]; exact hv)
theorem HdAt.lt (h : HdAt w b pv B X Y U V) : b < w.heap.size := World.block_lt_of_cell? w ⟨b, 0, none⟩ h.c0
theorem HdAt.below (h : HdAt w b pv B X Y U V) (hb : Below n w w') (hn : b < n) : HdAt w' b pv B X Y U V :=
  ⟨fun j v hv => (hb.cell (p := ⟨b, 0 + j, none⟩) hn).trans (h.1 j v hv), there_below h.2 hb hn⟩
theorem HdAt.new (w : World) (pv : Value) (B X Y U V : Nat) (t : TypeId) : HdAt (w.alloc (.cells (hdl pv B X Y U V).toArray t)) w.heap.size pv B X Y U V :=
  ⟨fun j v hv => by rw [Nat.zero_add, cell_of_row _ _ j _ t _ (heap_alloc_new w _)]; simpa using hv, there_new w _ t 35 (by simp [hd_len])⟩
theorem HdAt.stored (h : w.there b 0 35) (pv : Value) (B X Y U V : Nat) : HdAt (w.setCells b 0 (hdl pv B X Y U V)) b pv B X Y U V :=
  ⟨World.rangeAt_setCells_same w b 0 _ (by rw [hd_len]; exact h), World.there_setCells h _ _ _⟩
theorem HdAt.setPts (h : HdAt w b pv B X Y U V) (pv' : Value) : HdAt (w.setCell ⟨b, 2, none⟩ pv') b pv' B X Y U V := by
  refine ⟨fun j v hv => ?_, fun j hj => ?_⟩
  · rw [Nat.zero_add]
    by_cases e : j = 2
    · subst e
      injection hv with hv; subst hv
      exact World.cell?_setCell_same _ _ _ h.c2
    · rw [World.cell?_setCell_other _ _ _ _ (by intro h; injection h with h1 h2; exact e h2.symm)]
      refine h.cell j ?_
      rcases j with _ | _ | _ | j
      · exact hv
      · exact hv
      · exact absurd rfl e
      · exact hv
  · rw [World.frozen?_setCell]
    refine ⟨?_, (h.2 j hj).2⟩
    by_cases e : j = 2
    · subst e; rw [Nat.zero_add, World.cell?_setCell_same _ _ _ h.c2]; rfl
    · rw [Nat.zero_add, World.cell?_setCell_other _ _ _ _ (by intro h; injection h with h1 h2; exact e h2.symm)]
      have := (h.2 j hj).1; rwa [Nat.zero_add] at this
theorem HdAt.setBox (h : HdAt w b pv B X Y U V) (X' Y' : Nat) : HdAt (w.setCells b 3 (kl X' Y')) b pv B X' Y' U V := by
  have ht : w.there b 3 16 := fun j hj => by have := h.2 (3 + j) (by omega); rwa [Nat.zero_add] at this
  have hsame := World.rangeAt_setCells_same w b 3 (kl X' Y') (by rw [kl_len]; exact ht)
  refine ⟨fun j v hv => ?_, World.there_setCells h.2 _ _ _⟩
  rw [Nat.zero_add]
  by_cases e : j < 3
  · rw [World.cell?_setCells_out _ _ _ _ _ (fun _ _ => .inl e)]
    refine h.cell j ?_
    rcases j with _ | _ | _ | j
    · exact hv
    · exact hv
    · exact hv
    · omega
  · obtain ⟨i, rfl⟩ : ∃ i, j = 3 + i := ⟨j - 3, by omega⟩
    rw [Nat.add_comm] at hv
    have hv' : (kl X' Y' ++ kl U V)[i]? = some v := hv
    by_cases e2 : i < 16
    · rw [List.getElem?_append_left (by rw [kl_len]; exact e2)] at hv'
      exact hsame i v hv'
    · rw [World.cell?_setCells_out _ _ _ _ _ (fun _ _ => .inr (by show 3 + (kl X' Y').length ≤ 3 + i; rw [kl_len]; omega))]
      refine h.cell (3 + i) ?_
      rw [Nat.add_comm]
      show (kl X Y ++ kl U V)[i]? = some v
      rw [List.getElem?_append_right (by rw [kl_len]; omega), kl_len] at hv' ⊢
      exact hv'
end

theorem build60_zero (w : World) : (Instr.build 60 #[]).run Try.prog w = .ok (.agg (hdl (.slice none 0 0) 0 0 0 0 0).toArray) w := run_build w 60 _ _ (by kernel_rfl)
theorem build60 (B U V : Nat) (w : World) : (Instr.build 60 #[(1, .int .u64 (B : Int)), (4, .agg (kl U V).toArray)]).run Try.prog w = .ok (.agg (hdl (.slice none 0 0) B 0 0 U V).toArray) w := run_build w 60 _ _ (by kernel_rfl)
theorem build46 (x y : Nat) (w : World) : (Instr.build 46 #[(0, .int .u64 (x : Int)), (1, .int .u64 (y : Int))]).run Try.prog w = .ok (.agg #[.int .u64 (x : Int), .int .u64 (y : Int)]) w := run_build w 46 _ _ (by kernel_rfl)
theorem wp_build60 {op : Oper} {a : Act} {w : World} {K : Act → World → Prop} {Q : Exit → Act → World → Prop} (x y : Operand) (ho : op.op = .build 60 #[(1, x), (4, y)]) (B U V : Nat) (hx : a.eval x = .int .u64 (B : Int)) (hy : a.eval y = .agg (kl U V).toArray)
    (h : K (a.put op.dst (.agg (hdl (.slice none 0 0) B 0 0 U V).toArray)) w) : op.wp Try.prog a w K Q := by
  unfold Oper.wp execOp
  simp only [ho, List.map_toArray, List.map_cons, List.map_nil, hx, hy, Sem.run_bind, build60, Result.andThen_ok]
  exact h
theorem wpList_build60_zero {ops : Array Oper} {rest : List Oper} {op : Oper} {a : Act} {w : World} {Q : Exit → Act → World → Prop} (hgd : op.guard = none) (ho : op.op = .build 60 #[])
    (h : wpList Try.prog ops Q rest (a.put op.dst (.agg (hdl (.slice none 0 0) 0 0 0 0 0).toArray)) w) : wpList Try.prog ops Q (op :: rest) a w :=
  wpList_plain hgd fun K hK => by
    unfold Oper.wp execOp
    simp only [ho, List.map_toArray, List.map_nil, Sem.run_bind, build60_zero, Result.andThen_ok]
    exact hK _ _ h

/-- The load and the store of a header, as arms of the walk. -/
theorem wpList_load_hd {ops : Array Oper} {rest : List Oper} {op : Oper} {a : Act} {w : World} {Q : Exit → Act → World → Prop} (hgd : op.guard = none) (x : Operand) (ho : op.op = .load 60 x)
    (b : Nat) (hx : a.eval x = .pointer (some ⟨b, 0, none⟩)) (pv : Value) (B X Y U V : Nat) (hc : HdAt w b pv B X Y U V)
    (h : wpList Try.prog ops Q rest (a.put op.dst (.agg (hdl pv B X Y U V).toArray)) w) : wpList Try.prog ops Q (op :: rest) a w :=
  wpList_load_mid hgd 60 x ho b 0 hx (hdl pv B X Y U V) _ hc.1 Try.underlying60 rfl (by rw [hd_len]; exact size60) h
theorem wpList_store_hd {ops : Array Oper} {rest : List Oper} {op : Oper} {a : Act} {w : World} {Q : Exit → Act → World → Prop} (hgd : op.guard = none) (x y : Operand) (ho : op.op = .store 60 x y)
    (b : Nat) (pv : Value) (B X Y U V : Nat) (hp : pv.oneCell' = true) (hx : a.eval x = .pointer (some ⟨b, 0, none⟩)) (hy : a.eval y = .agg (hdl pv B X Y U V).toArray) (ht : w.there b 0 35)
    (h : wpList Try.prog ops Q rest (a.put op.dst undef) (w.setCells b 0 (hdl pv B X Y U V))) : wpList Try.prog ops Q (op :: rest) a w := by
  refine wpList_store_mid hgd 60 x y ho b 0 (hdl pv B X Y U V).toArray hx hy ?_ ?_ (hd_arr pv B X Y U V hp) ?_
  · simpa [hd_len] using ht
  · simp [hd_len, size60]
  · simpa using h
/-- What a function hands back whose first result is a header in memory. -/
theorem results_hd {fn : Func} {p q : Tmp} (h : fn.results = #[.cell p 60, .tmp q]) (tmps : Array Value) (w : World) (b : Nat) (pv : Value) (B X Y U V : Nat) (r : Value)
    (hp : tmps.getD p undef = .pointer (some ⟨b, 0, none⟩)) (hr : tmps.getD q undef = r) (hc : HdAt w b pv B X Y U V) : (results fn tmps).run Try.prog w = .ok (.tuple #[.agg (hdl pv B X Y U V).toArray, r]) w := by
  have hp' : tmps[p]?.getD undef = .pointer (some ⟨b, 0, none⟩) := by simpa using hp
  have hr' : tmps[q]?.getD undef = r := by simpa using hr
  simp [results, h, hp', hr', asAddr, run_loadVar_mid w b 0 60 (hdl pv B X Y U V) _ hc.1 Try.underlying60 rfl (by rw [hd_len]; exact size60)]
theorem bodyPost_hd {Q : Ending → World → Prop} {fn : Func} {p q : Tmp} (h : fn.results = #[.cell p 60, .tmp q]) {a : Act} {w : World} (b : Nat) (pv : Value) (B X Y U V : Nat) (r : Value)
    (hp : a.tmps.getD p undef = .pointer (some ⟨b, 0, none⟩)) (hr : a.tmps.getD q undef = r) (hc : HdAt w b pv B X Y U V) (hd : a.defers = []) (hq : Q (.returned (.tuple #[.agg (hdl pv B X Y U V).toArray, r])) w) : bodyPost Try.prog fn Q .ret a w :=
  bodyPost_ret (results_hd h a.tmps w b pv B X Y U V r hp hr hc) hd hq
theorem results_hd1 {fn : Func} {p : Tmp} (h : fn.results = #[.cell p 60]) (tmps : Array Value) (w : World) (b : Nat) (pv : Value) (B X Y U V : Nat)
    (hp : tmps.getD p undef = .pointer (some ⟨b, 0, none⟩)) (hc : HdAt w b pv B X Y U V) : (results fn tmps).run Try.prog w = .ok (.agg (hdl pv B X Y U V).toArray) w := by
  have hp' : tmps[p]?.getD undef = .pointer (some ⟨b, 0, none⟩) := by simpa using hp
  simp [results, h, hp', asAddr, run_loadVar_mid w b 0 60 (hdl pv B X Y U V) _ hc.1 Try.underlying60 rfl (by rw [hd_len]; exact size60)]
theorem bodyPost_hd1 {Q : Ending → World → Prop} {fn : Func} {p : Tmp} (h : fn.results = #[.cell p 60]) {a : Act} {w : World} (b : Nat) (pv : Value) (B X Y U V : Nat)
    (hp : a.tmps.getD p undef = .pointer (some ⟨b, 0, none⟩)) (hc : HdAt w b pv B X Y U V) (hd : a.defers = []) (hq : Q (.returned (.agg (hdl pv B X Y U V).toArray)) w) : bodyPost Try.prog fn Q .ret a w :=
  bodyPost_ret (results_hd1 h a.tmps w b pv B X Y U V hp hc) hd hq
end Go.Proofs.Ytcbanemkjebdcaa
