/-
  Headers in memory: 35 cells, their items in rows of 18.
-/
import Derived.Test.YtelalpikdidpeaaJG
import Derived.Great.BuildSlice
import Derived.Laws.StructEq
namespace Go.Proofs.Ytelalpikdidpeaa
open Go.RowKit TR L2 L2.SP
set_option linter.unusedVariables false
set_option linter.unusedSimpArgs false

/-- A header: its items, its base, its points, its box and its check. -/
def hdi (iv pv : Value) (B : Int) (x y : Nat × Nat) : List Value := iv :: .int .u64 B :: pv :: (kl x.1 x.2 ++ kl y.1 y.2)
theorem hdi_len (iv pv : Value) (B : Int) (x y : Nat × Nat) : (hdi iv pv B x y).length = 35 := by simp [hdi, kl_len]
theorem sizeHdr : (Try.prog.info? 59).map (·.size) = some 35 := by kernel_rfl
theorem sizeItm : (Try.prog.info? 112).map (·.size) = some 18 := by kernel_rfl
theorem infoItm : (Try.prog.info? 112).map (fun i => (i.zero, i.size, i.bytes)) = some (some (.agg lz18), 18, 32) := by kernel_rfl
theorem hdi_one (iv pv : Value) (B : Int) (x y : Nat × Nat) (hi : iv.oneCell' = true) (hp : pv.oneCell' = true) : ∀ v ∈ hdi iv pv B x y, v.oneCell' = true := by
  intro v hv
  simp only [hdi, List.mem_cons, List.mem_append] at hv
  rcases hv with rfl | rfl | rfl | h | h
  · exact hi
  · rfl
  · exact hp
  · exact kl_one _ _ _ h
  · exact kl_one _ _ _ h
theorem hdi_arr (iv pv : Value) (B : Int) (x y : Nat × Nat) (hi : iv.oneCell' = true) (hp : pv.oneCell' = true) : (hdi iv pv B x y).toArray.all (·.oneCell') = true := all_oneCell_toArray (hdi_one iv pv B x y hi hp)
/-- A header in a block of its own. -/
abbrev Hdx (w : World) (b : Nat) (iv pv : Value) (B : Int) (x y : Nat × Nat) : Prop := Blk w b (hdi iv pv B x y).toArray 59
section
variable {w w' : World} {b n : Nat} {iv pv : Value} {B : Int} {x y : Nat × Nat}
theorem Hdx.c0 (h : Hdx w b iv pv B x y) : w.cell? ⟨b, 0, none⟩ = some iv := h.cell 0
theorem Hdx.c1 (h : Hdx w b iv pv B x y) : w.cell? ⟨b, 1, none⟩ = some (.int .u64 B) := h.cell 1
theorem Hdx.c2 (h : Hdx w b iv pv B x y) : w.cell? ⟨b, 2, none⟩ = some pv := h.cell 2
theorem Hdx.range (h : Hdx w b iv pv B x y) : w.rangeAt b 0 (hdi iv pv B x y) := by have h1 := Blk.range h; simpa using h1
theorem Hdx.there (h : Hdx w b iv pv B x y) : w.there b 0 35 := by have h1 := Blk.there h; simpa [hdi_len] using h1
theorem Hdx.box (h : Hdx w b iv pv B x y) : w.rangeAt b 3 (kl x.1 x.2) := fun j v hv => by
  have hj : j < 16 := by rw [← kl_len x.1 x.2]; exact (List.getElem?_eq_some_iff.1 hv).1
  have h1 := h.range (3 + j) v (by
    rw [Nat.add_comm]
    show (kl x.1 x.2 ++ kl y.1 y.2)[j]? = some v
    rw [List.getElem?_append_left (by rw [kl_len]; exact hj)]; exact hv)
  rwa [Nat.zero_add] at h1
theorem Hdx.chk (h : Hdx w b iv pv B x y) : w.rangeAt b 19 (kl y.1 y.2) := fun j v hv => by
  have h1 := h.range (19 + j) v (by
    rw [show 19 + j = (16 + j) + 3 by omega]
    show (kl x.1 x.2 ++ kl y.1 y.2)[16 + j]? = some v
    rw [List.getElem?_append_right (by rw [kl_len]; omega), kl_len, Nat.add_sub_cancel_left]; exact hv)
  rwa [Nat.zero_add] at h1
theorem Hdx.stored {cs : Array Value} (h : Blk w b cs 59) (hs : cs.size = 35) (iv pv : Value) (B : Int) (x y : Nat × Nat) : Hdx (w.setCells b 0 (hdi iv pv B x y)) b iv pv B x y := Blk.setAll h _ (by rw [hdi_len, hs])
theorem Hdx.size : (hdi iv pv B x y).toArray.size = 35 := by simp [hdi_len]
theorem Hdx.setItems (h : Hdx w b iv pv B x y) (iv' : Value) : Hdx (w.setCell ⟨b, 0, none⟩ iv') b iv' pv B x y := by
  have h1 := h.set1 0 iv'
  have e : (hdi iv pv B x y).toArray.setIfInBounds 0 iv' = (hdi iv' pv B x y).toArray := by simp [hdi]
  rw [e] at h1; exact h1
end
/-- The zero header. -/
abbrev hd0 : Array Value := (hdi (.slice none 0 0) (.slice none 0 0) 0 (0, 0) (0, 0)).toArray
theorem zeroHdr : (Try.prog.info? 59).map (fun i => i.zero) = some (some (.agg hd0)) := by kernel_rfl
theorem buildHd0 (w : World) : (Instr.build 59 #[]).run Try.prog w = .ok (.agg hd0) w := run_build w 59 _ _ (by kernel_rfl)
theorem buildHd4 (U V : Nat) (w : World) : (Instr.build 59 #[(4, .agg (kl U V).toArray)]).run Try.prog w = .ok (.agg (hdi (.slice none 0 0) (.slice none 0 0) 0 (0, 0) (U, V)).toArray) w := run_build w 59 _ _ (by kernel_rfl)
theorem buildItm (a b : Int) (X Y : Nat) (w : World) : (Instr.build 112 #[(0, .agg #[.int .i64 a, .int .i64 b]), (1, .agg (kl X Y).toArray)]).run Try.prog w = .ok (.agg (lbl a b (X, Y)).toArray) w := run_build w 112 _ _ (by kernel_rfl)
theorem wpList_buildHd0 {ops : Array Oper} {rest : List Oper} {op : Oper} {a : Act} {w : World} {Q : Exit → Act → World → Prop} (hgd : op.guard = none) (ho : op.op = .build 59 #[])
    (h : wpList Try.prog ops Q rest (a.put op.dst (.agg hd0)) w) : wpList Try.prog ops Q (op :: rest) a w :=
  wpList_plain hgd fun K hK => by
    unfold Oper.wp execOp
    simp only [ho, List.map_toArray, List.map_nil, Sem.run_bind, buildHd0, Result.andThen_ok]
    exact hK _ _ h
theorem wpList_buildHd4 {ops : Array Oper} {rest : List Oper} {op : Oper} {a : Act} {w : World} {Q : Exit → Act → World → Prop} (hgd : op.guard = none) (x : Operand) (ho : op.op = .build 59 #[(4, x)]) (y : Nat × Nat) (hx : a.eval x = .agg (kl y.1 y.2).toArray)
    (h : wpList Try.prog ops Q rest (a.put op.dst (.agg (hdi (.slice none 0 0) (.slice none 0 0) 0 (0, 0) y).toArray)) w) : wpList Try.prog ops Q (op :: rest) a w :=
  wpList_plain hgd fun K hK => by
    unfold Oper.wp execOp
    simp only [ho, List.map_toArray, List.map_cons, List.map_nil, hx, Sem.run_bind, buildHd4, Result.andThen_ok]
    exact hK _ _ h
theorem wp_buildItm {op : Oper} {a : Act} {w : World} {K : Act → World → Prop} {Q : Exit → Act → World → Prop} (x y : Operand) (ho : op.op = .build 112 #[(0, x), (1, y)]) (u v : Int) (q : Nat × Nat) (hx : a.eval x = .agg #[.int .i64 u, .int .i64 v]) (hy : a.eval y = .agg (kl q.1 q.2).toArray)
    (h : K (a.put op.dst (.agg (lbl u v q).toArray)) w) : op.wp Try.prog a w K Q := by
  unfold Oper.wp execOp
  simp only [ho, List.map_toArray, List.map_cons, List.map_nil, hx, hy, Sem.run_bind, buildItm, Result.andThen_ok]
  exact h
theorem wp_buildSliceI {op : Oper} {a : Act} {w : World} {K : Act → World → Prop} {Q : Exit → Act → World → Prop} (x : Operand) {v z : Int} {p : Nat × Nat} (ho : op.op = .buildSlice 56 1 #[(0, x)]) (hx : a.eval x = .agg (lbl v z p).toArray)
    (h : K (a.put op.dst (.slice (some ⟨w.heap.size, 0, none⟩) 1 1)) (w.alloc (.cells (lbl v z p).toArray 112))) : op.wp Try.prog a w K Q := by
  obtain ⟨i0, hi, hz0, hz1, hz2⟩ := info_parts infoItm
  exact wp_buildSlice 56 112 1 #[(0, x)] ho (lbl v z p).toArray i0 _ Try.underlying56 hi hz0 (by rw [hz1]; decide) (by rw [hz1]; decide) (by rw [hz1]; simp only [List.map_toArray, List.map_cons, List.map_nil, hx]; exact fillLab v z p) h
theorem wpList_load_hdi {ops : Array Oper} {rest : List Oper} {op : Oper} {a : Act} {w : World} {Q : Exit → Act → World → Prop} (hgd : op.guard = none) (x : Operand) (ho : op.op = .load 59 x)
    (b : Nat) (hx : a.eval x = .pointer (some ⟨b, 0, none⟩)) (iv pv : Value) (B : Int) (p q : Nat × Nat) (hc : Hdx w b iv pv B p q)
    (h : wpList Try.prog ops Q rest (a.put op.dst (.agg (hdi iv pv B p q).toArray)) w) : wpList Try.prog ops Q (op :: rest) a w :=
  wpList_load_mid hgd 59 x ho b 0 hx (hdi iv pv B p q) _ hc.range Try.underlying59 rfl (by rw [hdi_len]; exact sizeHdr) h
theorem wpList_store_hdi {ops : Array Oper} {rest : List Oper} {op : Oper} {a : Act} {w : World} {Q : Exit → Act → World → Prop} (hgd : op.guard = none) (x y : Operand) (ho : op.op = .store 59 x y)
    (b : Nat) (iv pv : Value) (B : Int) (p q : Nat × Nat) (hi : iv.oneCell' = true) (hp : pv.oneCell' = true) (hx : a.eval x = .pointer (some ⟨b, 0, none⟩)) (hy : a.eval y = .agg (hdi iv pv B p q).toArray) (ht : w.there b 0 35)
    (h : wpList Try.prog ops Q rest (a.put op.dst undef) (w.setCells b 0 (hdi iv pv B p q))) : wpList Try.prog ops Q (op :: rest) a w := by
  refine wpList_store_mid hgd 59 x y ho b 0 (hdi iv pv B p q).toArray hx hy ?_ ?_ (hdi_arr iv pv B p q hi hp) ?_
  · simpa [hdi_len] using ht
  · simp [hdi_len, sizeHdr]
  · simpa using h
theorem results_hdi {fn : Func} {p q : Tmp} (h : fn.results = #[.cell p 59, .tmp q]) (tmps : Array Value) (w : World) (b : Nat) (iv pv : Value) (B : Int) (x y : Nat × Nat) (r : Value)
    (hp : tmps.getD p undef = .pointer (some ⟨b, 0, none⟩)) (hr : tmps.getD q undef = r) (hc : Hdx w b iv pv B x y) : (results fn tmps).run Try.prog w = .ok (.tuple #[.agg (hdi iv pv B x y).toArray, r]) w := by
  have hp' : tmps[p]?.getD undef = .pointer (some ⟨b, 0, none⟩) := by simpa using hp
  have hr' : tmps[q]?.getD undef = r := by simpa using hr
  simp [results, h, hp', hr', asAddr, run_loadVar_mid w b 0 59 (hdi iv pv B x y) _ hc.range Try.underlying59 rfl (by rw [hdi_len]; exact sizeHdr)]

/-! Equal items. -/
theorem partItm1 (v x : Int) (p : Nat × Nat) (w : World) : (part 23 (lbl v x p).toArray 2).run Try.prog w = .ok (.agg (kl p.1 p.2).toArray) w := partLab2 v x p w
theorem partItm0 (v x : Int) (p : Nat × Nat) (w : World) : (part 35 (lbl v x p).toArray 0).run Try.prog w = .ok (.agg #[.int .i64 v, .int .i64 x]) w := by
  have hs : ∃ i, Try.prog.info? 35 = some i ∧ i.size = 2 := by
    have h := sizeSub
    cases h1 : Try.prog.info? 35 with
    | none => rw [h1] at h; cases h
    | some i => rw [h1] at h; exact ⟨i, rfl, by simpa using h⟩
  obtain ⟨i, hi, hs⟩ := hs
  simp [part, isAgg, Sem.run_bind, run_underlying Try.underlying35 w, sizeOf, typeInfo, hi, hs]
  simp [lbl]
theorem itmFields : (Try.prog.fieldsOf 112).toList.map (fun f => (decide (f.name ≠ "_"), f.type, f.offset)) = [(true, 35, 0), (true, 23, 2)] := by kernel_rfl
theorem subFields : (Try.prog.fieldsOf 35).toList.map (fun f => (decide (f.name ≠ "_"), f.type, f.offset)) = [(true, 3, 0), (true, 3, 1)] := by kernel_rfl
theorem partSub0 (v x : Int) (w : World) : (part 3 #[.int .i64 v, .int .i64 x] 0).run Try.prog w = .ok (.int .i64 v) w := by
  simp [part, isAgg, Sem.run_bind, run_underlying Try.underlying3 w, go_sem]
theorem partSub1 (v x : Int) (w : World) : (part 3 #[.int .i64 v, .int .i64 x] 1).run Try.prog w = .ok (.int .i64 x) w := by
  simp [part, isAgg, Sem.run_bind, run_underlying Try.underlying3 w, go_sem]
theorem eqsub_self (d : Nat) (v x : Int) (w : World) : (Op.equalIn (d + 2) 35 (.agg #[.int .i64 v, .int .i64 x]) (.agg #[.int .i64 v, .int .i64 x])).run Try.prog w = .ok true w := by
  have hf := subFields
  rw [show d + 2 = (d + 1) + 1 from rfl, run_equalIn_struct w (d + 1) 35 _ _ (by kernel_rfl) (by kernel_rfl)]
  generalize (Try.prog.fieldsOf 35).toList = fs at hf
  obtain ⟨f0, f1, rfl⟩ : ∃ f0 f1, fs = [f0, f1] := by
    have hl : fs.length = 2 := by have h := congrArg List.length hf; simpa using h
    match fs, hl with
    | [f0, f1], _ => exact ⟨f0, f1, rfl⟩
  simp only [List.map_cons, List.map_nil, List.cons.injEq, Prod.mk.injEq, decide_eq_true_eq, and_true] at hf
  obtain ⟨⟨n0, t0, o0⟩, n1, t1, o1⟩ := hf
  have hi1 : ∀ a : Int, (Op.equalIn (d + 1) 3 (.int .i64 a) (.int .i64 a)).run Try.prog w = .ok true w := fun a => by
    have h := run_equalIn_int (P := Try.prog) w d 3 .i64 .i64 a a Try.underlying3
    simpa using h
  simp [Op.eqFields, n0, n1, t0, t1, o0, o1, partSub0, partSub1, hi1]
theorem eqitm_self (v x : Int) (p : Nat × Nat) (w : World) : (Op.equalIn 10000 112 (.agg (lbl v x p).toArray) (.agg (lbl v x p).toArray)).run Try.prog w = .ok true w := by
  have hf := itmFields
  rw [show (10000 : Nat) = 9999 + 1 from rfl, run_equalIn_struct w 9999 112 _ _ (by kernel_rfl) (by kernel_rfl)]
  generalize (Try.prog.fieldsOf 112).toList = fs at hf
  obtain ⟨f0, f1, rfl⟩ : ∃ f0 f1, fs = [f0, f1] := by
    have hl : fs.length = 2 := by have h := congrArg List.length hf; simpa using h
    match fs, hl with
    | [f0, f1], _ => exact ⟨f0, f1, rfl⟩
  simp only [List.map_cons, List.map_nil, List.cons.injEq, Prod.mk.injEq, decide_eq_true_eq, and_true] at hf
  obtain ⟨⟨n0, t0, o0⟩, n1, t1, o1⟩ := hf
  have hk : (Op.equalIn 9999 23 (.agg (kl p.1 p.2).toArray) (.agg (kl p.1 p.2).toArray)).run Try.prog w = .ok true w := eqkey_self 9997 p w
  have hs : (Op.equalIn 9999 35 (.agg #[.int .i64 v, .int .i64 x]) (.agg #[.int .i64 v, .int .i64 x])).run Try.prog w = .ok true w := eqsub_self 9997 v x w
  simp [Op.eqFields, n0, n1, t0, t1, o0, o1, partItm0, partItm1, hs, hk]
theorem run_neq_itm (v z : Int) (p : Nat × Nat) (w : World) : (binOp .neq 112 (.agg (lbl v z p).toArray) (.agg (lbl v z p).toArray)).run Try.prog w = .ok (.bool false) w := by
  have h := eqitm_self v z p w
  simp only [binOp, Op.equal, Op.maxDepth, Sem.run_bind, h, Result.andThen_ok, Sem.run_pure, Bool.not_true]
theorem wp_neq_itm {op : Oper} {a : Act} {w : World} {K : Act → World → Prop} {Q : Exit → Act → World → Prop} (x y : Operand) (ho : op.op = .binOp .neq 112 x y 112) (v z : Int) (p : Nat × Nat) (hx : a.eval x = .agg (lbl v z p).toArray) (hy : a.eval y = .agg (lbl v z p).toArray)
    (h : K (a.put op.dst (.bool false)) w) : op.wp Try.prog a w K Q := by
  have hg : (eqGuard .neq 112 x y (.agg (lbl v z p).toArray) (.agg (lbl v z p).toArray)).run Try.prog w = .ok () w := run_eqGuard_agg (P := Try.prog) w .neq 112 x y _ _ (by kernel_rfl)
  unfold Oper.wp execOp
  simp only [ho, hx, hy, Sem.run_bind, hg, run_neq_itm, Result.andThen_ok]
  exact h
end Go.Proofs.Ytelalpikdidpeaa
