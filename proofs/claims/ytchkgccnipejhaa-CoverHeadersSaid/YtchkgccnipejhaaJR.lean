/-
  Texts joined into one: HdrA, HdrB, WkKeys, SlA, SlB.
-/
import Derived.Test.YtchkgccnipejhaaJG
import Derived.Great.BuildSlice
import Derived.Laws.StructEq
import Derived.Test.YtchkgccnipejhaaJQ

/-
  Headers in memory: 35 cells, their items in rows of 18.
-/
namespace Go.Proofs.Ytchkgccnipejhaa
open Go.RowKit TR L2 L2.SP
set_option linter.unusedVariables false
set_option linter.unusedSimpArgs false

/-- A header: its items, its base, its points, its box and its check. -/
def hdi (iv pv : Value) (B : Int) (x y : Nat × Nat) : List Value := iv :: .int .u64 B :: pv :: (kl x.1 x.2 ++ kl y.1 y.2)
theorem hdi_len (iv pv : Value) (B : Int) (x y : Nat × Nat) : (hdi iv pv B x y).length = 35 := by simp [hdi, kl_len]
theorem sizeHdr : (Try.prog.info? 28).map (·.size) = some 35 := by kernel_rfl
theorem sizeItm : (Try.prog.info? 90).map (·.size) = some 18 := by kernel_rfl
theorem infoItm : (Try.prog.info? 90).map (fun i => (i.zero, i.size, i.bytes)) = some (some (.agg lz18), 18, 32) := by kernel_rfl
theorem hdi_one (iv pv : Value) (B : Int) (x y : Nat × Nat) (hi : iv.oneCell' = true) (hp : pv.oneCell' = true) : ∀ v ∈ hdi iv pv B x y, v.oneCell' = true := by
  intro v hv
  simp only [hdi, List.mem_cons, List.mem_append] at hv
  rcases hv with rfl | rfl | rfl | h | h
  · exact hi
  · rfl
  · exact hp
  · exact kl_one _ _ _ h
  · exact kl_one _ _ _ h
theorem hdi_arr (iv pv : Value) (B : Int) (x y : Nat × Nat) (hi : iv.oneCell' = true) (hp : pv.oneCell' = true) : (hdi iv pv B x y).toArray.all (·.oneCell') = true := all_oneCell_toArray (hdi_one iv pv B x y hi hp)
/-- A header in a block of its own. -/
abbrev Hdx (w : World) (b : Nat) (iv pv : Value) (B : Int) (x y : Nat × Nat) : Prop := Blk w b (hdi iv pv B x y).toArray 28
section
variable {w w' : World} {b n : Nat} {iv pv : Value} {B : Int} {x y : Nat × Nat}
theorem Hdx.c0 (h : Hdx w b iv pv B x y) : w.cell? ⟨b, 0, none⟩ = some iv := h.cell 0
theorem Hdx.c1 (h : Hdx w b iv pv B x y) : w.cell? ⟨b, 1, none⟩ = some (.int .u64 B) := h.cell 1
theorem Hdx.c2 (h : Hdx w b iv pv B x y) : w.cell? ⟨b, 2, none⟩ = some pv := h.cell 2
theorem Hdx.range (h : Hdx w b iv pv B x y) : w.rangeAt b 0 (hdi iv pv B x y) := by have h1 := Blk.range h; simpa using h1
theorem Hdx.there (h : Hdx w b iv pv B x y) : w.there b 0 35 := by have h1 := Blk.there h; simpa [hdi_len] using h1
theorem Hdx.box (h : Hdx w b iv pv B x y) : w.rangeAt b 3 (kl x.1 x.2) := fun j v hv => by
  have hj : j < 16 := by rw [← kl_len x.1 x.2]; exact (List.getElem?_eq_some_iff.1 hv).1
  have h1 := h.range (3 + j) v (by
    rw [Nat.add_comm]
    show (kl x.1 x.2 ++ kl y.1 y.2)[j]? = some v
    rw [List.getElem?_append_left (by rw [kl_len]; exact hj)]; exact hv)
  rwa [Nat.zero_add] at h1
theorem Hdx.chk (h : Hdx w b iv pv B x y) : w.rangeAt b 19 (kl y.1 y.2) := fun j v hv => by
  have h1 := h.range (19 + j) v (by
    rw [show 19 + j = (16 + j) + 3 by omega]
    show (kl x.1 x.2 ++ kl y.1 y.2)[16 + j]? = some v
    rw [List.getElem?_append_right (by rw [kl_len]; omega), kl_len, Nat.add_sub_cancel_left]; exact hv)
  rwa [Nat.zero_add] at h1
theorem Hdx.stored {cs : Array Value} (h : Blk w b cs 28) (hs : cs.size = 35) (iv pv : Value) (B : Int) (x y : Nat × Nat) : Hdx (w.setCells b 0 (hdi iv pv B x y)) b iv pv B x y := Blk.setAll h _ (by rw [hdi_len, hs])
theorem Hdx.size : (hdi iv pv B x y).toArray.size = 35 := by simp [hdi_len]
theorem Hdx.setItems (h : Hdx w b iv pv B x y) (iv' : Value) : Hdx (w.setCell ⟨b, 0, none⟩ iv') b iv' pv B x y := by
  have h1 := h.set1 0 iv'
  have e : (hdi iv pv B x y).toArray.setIfInBounds 0 iv' = (hdi iv' pv B x y).toArray := by simp [hdi]
  rw [e] at h1; exact h1
end
/-- The zero header. -/
abbrev hd0 : Array Value := (hdi (.slice none 0 0) (.slice none 0 0) 0 (0, 0) (0, 0)).toArray
theorem zeroHdr : (Try.prog.info? 28).map (fun i => i.zero) = some (some (.agg hd0)) := by kernel_rfl
theorem buildHd0 (w : World) : (Instr.build 28 #[]).run Try.prog w = .ok (.agg hd0) w := run_build w 28 _ _ (by kernel_rfl)
theorem buildHd4 (U V : Nat) (w : World) : (Instr.build 28 #[(4, .agg (kl U V).toArray)]).run Try.prog w = .ok (.agg (hdi (.slice none 0 0) (.slice none 0 0) 0 (0, 0) (U, V)).toArray) w := run_build w 28 _ _ (by kernel_rfl)
theorem buildItm (a b : Int) (X Y : Nat) (w : World) : (Instr.build 90 #[(0, .agg #[.int .i64 a, .int .i64 b]), (1, .agg (kl X Y).toArray)]).run Try.prog w = .ok (.agg (lbl a b (X, Y)).toArray) w := run_build w 90 _ _ (by kernel_rfl)
theorem wpList_buildHd0 {ops : Array Oper} {rest : List Oper} {op : Oper} {a : Act} {w : World} {Q : Exit → Act → World → Prop} (hgd : op.guard = none) (ho : op.op = .build 28 #[])
    (h : wpList Try.prog ops Q rest (a.put op.dst (.agg hd0)) w) : wpList Try.prog ops Q (op :: rest) a w :=
  wpList_plain hgd fun K hK => by
    unfold Oper.wp execOp
    simp only [ho, List.map_toArray, List.map_nil, Sem.run_bind, buildHd0, Result.andThen_ok]
    exact hK _ _ h
theorem wpList_buildHd4 {ops : Array Oper} {rest : List Oper} {op : Oper} {a : Act} {w : World} {Q : Exit → Act → World → Prop} (hgd : op.guard = none) (x : Operand) (ho : op.op = .build 28 #[(4, x)]) (y : Nat × Nat) (hx : a.eval x = .agg (kl y.1 y.2).toArray)
    (h : wpList Try.prog ops Q rest (a.put op.dst (.agg (hdi (.slice none 0 0) (.slice none 0 0) 0 (0, 0) y).toArray)) w) : wpList Try.prog ops Q (op :: rest) a w :=
  wpList_plain hgd fun K hK => by
    unfold Oper.wp execOp
    simp only [ho, List.map_toArray, List.map_cons, List.map_nil, hx, Sem.run_bind, buildHd4, Result.andThen_ok]
    exact hK _ _ h
theorem wp_buildItm {op : Oper} {a : Act} {w : World} {K : Act → World → Prop} {Q : Exit → Act → World → Prop} (x y : Operand) (ho : op.op = .build 90 #[(0, x), (1, y)]) (u v : Int) (q : Nat × Nat) (hx : a.eval x = .agg #[.int .i64 u, .int .i64 v]) (hy : a.eval y = .agg (kl q.1 q.2).toArray)
    (h : K (a.put op.dst (.agg (lbl u v q).toArray)) w) : op.wp Try.prog a w K Q := by
  unfold Oper.wp execOp
  simp only [ho, List.map_toArray, List.map_cons, List.map_nil, hx, hy, Sem.run_bind, buildItm, Result.andThen_ok]
  exact h
theorem wp_buildSliceI {op : Oper} {a : Act} {w : World} {K : Act → World → Prop} {Q : Exit → Act → World → Prop} (x : Operand) {v z : Int} {p : Nat × Nat} (ho : op.op = .buildSlice 22 1 #[(0, x)]) (hx : a.eval x = .agg (lbl v z p).toArray)
    (h : K (a.put op.dst (.slice (some ⟨w.heap.size, 0, none⟩) 1 1)) (w.alloc (.cells (lbl v z p).toArray 90))) : op.wp Try.prog a w K Q := by
  obtain ⟨i0, hi, hz0, hz1, hz2⟩ := info_parts infoItm
  exact wp_buildSlice 22 90 1 #[(0, x)] ho (lbl v z p).toArray i0 _ Try.underlying22 hi hz0 (by rw [hz1]; decide) (by rw [hz1]; decide) (by rw [hz1]; simp only [List.map_toArray, List.map_cons, List.map_nil, hx]; exact fillLab v z p) h
theorem wpList_load_hdi {ops : Array Oper} {rest : List Oper} {op : Oper} {a : Act} {w : World} {Q : Exit → Act → World → Prop} (hgd : op.guard = none) (x : Operand) (ho : op.op = .load 28 x)
    (b : Nat) (hx : a.eval x = .pointer (some ⟨b, 0, none⟩)) (iv pv : Value) (B : Int) (p q : Nat × Nat) (hc : Hdx w b iv pv B p q)
    (h : wpList Try.prog ops Q rest (a.put op.dst (.agg (hdi iv pv B p q).toArray)) w) : wpList Try.prog ops Q (op :: rest) a w :=
  wpList_load_mid hgd 28 x ho b 0 hx (hdi iv pv B p q) _ hc.range Try.underlying28 rfl (by rw [hdi_len]; exact sizeHdr) h
theorem wpList_store_hdi {ops : Array Oper} {rest : List Oper} {op : Oper} {a : Act} {w : World} {Q : Exit → Act → World → Prop} (hgd : op.guard = none) (x y : Operand) (ho : op.op = .store 28 x y)
    (b : Nat) (iv pv : Value) (B : Int) (p q : Nat × Nat) (hi : iv.oneCell' = true) (hp : pv.oneCell' = true) (hx : a.eval x = .pointer (some ⟨b, 0, none⟩)) (hy : a.eval y = .agg (hdi iv pv B p q).toArray) (ht : w.there b 0 35)
    (h : wpList Try.prog ops Q rest (a.put op.dst undef) (w.setCells b 0 (hdi iv pv B p q))) : wpList Try.prog ops Q (op :: rest) a w := by
  refine wpList_store_mid hgd 28 x y ho b 0 (hdi iv pv B p q).toArray hx hy ?_ ?_ (hdi_arr iv pv B p q hi hp) ?_
  · simpa [hdi_len] using ht
  · simp [hdi_len, sizeHdr]
  · simpa using h
theorem results_hdi {fn : Func} {p q : Tmp} (h : fn.results = #[.cell p 28, .tmp q]) (tmps : Array Value) (w : World) (b : Nat) (iv pv : Value) (B : Int) (x y : Nat × Nat) (r : Value)
    (hp : tmps.getD p undef = .pointer (some ⟨b, 0, none⟩)) (hr : tmps.getD q undef = r) (hc : Hdx w b iv pv B x y) : (results fn tmps).run Try.prog w = .ok (.tuple #[.agg (hdi iv pv B x y).toArray, r]) w := by
  have hp' : tmps[p]?.getD undef = .pointer (some ⟨b, 0, none⟩) := by simpa using hp
  have hr' : tmps[q]?.getD undef = r := by simpa using hr
  simp [results, h, hp', hr', asAddr, run_loadVar_mid w b 0 28 (hdi iv pv B x y) _ hc.range Try.underlying28 rfl (by rw [hdi_len]; exact sizeHdr)]

/-! Equal items. -/
theorem partItm1 (v x : Int) (p : Nat × Nat) (w : World) : (part 26 (lbl v x p).toArray 2).run Try.prog w = .ok (.agg (kl p.1 p.2).toArray) w := partLab2 v x p w
theorem partItm0 (v x : Int) (p : Nat × Nat) (w : World) : (part 56 (lbl v x p).toArray 0).run Try.prog w = .ok (.agg #[.int .i64 v, .int .i64 x]) w := by
  have hs : ∃ i, Try.prog.info? 56 = some i ∧ i.size = 2 := by
    have h := sizeSub
    cases h1 : Try.prog.info? 56 with
    | none => rw [h1] at h; cases h
    | some i => rw [h1] at h; exact ⟨i, rfl, by simpa using h⟩
  obtain ⟨i, hi, hs⟩ := hs
  simp [part, isAgg, Sem.run_bind, run_underlying Try.underlying56 w, sizeOf, typeInfo, hi, hs]
  simp [lbl]
theorem itmFields : (Try.prog.fieldsOf 90).toList.map (fun f => (decide (f.name ≠ "_"), f.type, f.offset)) = [(true, 56, 0), (true, 26, 2)] := by kernel_rfl
theorem subFields : (Try.prog.fieldsOf 56).toList.map (fun f => (decide (f.name ≠ "_"), f.type, f.offset)) = [(true, 3, 0), (true, 3, 1)] := by kernel_rfl
theorem partSub0 (v x : Int) (w : World) : (part 3 #[.int .i64 v, .int .i64 x] 0).run Try.prog w = .ok (.int .i64 v) w := by
  simp [part, isAgg, Sem.run_bind, run_underlying Try.underlying3 w, go_sem]
theorem partSub1 (v x : Int) (w : World) : (part 3 #[.int .i64 v, .int .i64 x] 1).run Try.prog w = .ok (.int .i64 x) w := by
  simp [part, isAgg, Sem.run_bind, run_underlying Try.underlying3 w, go_sem]
theorem eqsub_self (d : Nat) (v x : Int) (w : World) : (Op.equalIn (d + 2) 56 (.agg #[.int .i64 v, .int .i64 x]) (.agg #[.int .i64 v, .int .i64 x])).run Try.prog w = .ok true w := by
  have hf := subFields
  rw [show d + 2 = (d + 1) + 1 from rfl, run_equalIn_struct w (d + 1) 56 _ _ (by kernel_rfl) (by kernel_rfl)]
  generalize (Try.prog.fieldsOf 56).toList = fs at hf
  obtain ⟨f0, f1, rfl⟩ : ∃ f0 f1, fs = [f0, f1] := by
    have hl : fs.length = 2 := by have h := congrArg List.length hf; simpa using h
    match fs, hl with
    | [f0, f1], _ => exact ⟨f0, f1, rfl⟩
  simp only [List.map_cons, List.map_nil, List.cons.injEq, Prod.mk.injEq, decide_eq_true_eq, and_true] at hf
  obtain ⟨⟨n0, t0, o0⟩, n1, t1, o1⟩ := hf
  have hi1 : ∀ a : Int, (Op.equalIn (d + 1) 3 (.int .i64 a) (.int .i64 a)).run Try.prog w = .ok true w := fun a => by
    have h := run_equalIn_int (P := Try.prog) w d 3 .i64 .i64 a a Try.underlying3
    simpa using h
  simp [Op.eqFields, n0, n1, t0, t1, o0, o1, partSub0, partSub1, hi1]
theorem eqitm_self (v x : Int) (p : Nat × Nat) (w : World) : (Op.equalIn 10000 90 (.agg (lbl v x p).toArray) (.agg (lbl v x p).toArray)).run Try.prog w = .ok true w := by
  have hf := itmFields
  rw [show (10000 : Nat) = 9999 + 1 from rfl, run_equalIn_struct w 9999 90 _ _ (by kernel_rfl) (by kernel_rfl)]
  generalize (Try.prog.fieldsOf 90).toList = fs at hf
  obtain ⟨f0, f1, rfl⟩ : ∃ f0 f1, fs = [f0, f1] := by
    have hl : fs.length = 2 := by have h := congrArg List.length hf; simpa using h
    match fs, hl with
    | [f0, f1], _ => exact ⟨f0, f1, rfl⟩
  simp only [List.map_cons, List.map_nil, List.cons.injEq, Prod.mk.injEq, decide_eq_true_eq, and_true] at hf
  obtain ⟨⟨n0, t0, o0⟩, n1, t1, o1⟩ := hf
  have hk : (Op.equalIn 9999 26 (.agg (kl p.1 p.2).toArray) (.agg (kl p.1 p.2).toArray)).run Try.prog w = .ok true w := eqkey_self 9997 p w
  have hs : (Op.equalIn 9999 56 (.agg #[.int .i64 v, .int .i64 x]) (.agg #[.int .i64 v, .int .i64 x])).run Try.prog w = .ok true w := eqsub_self 9997 v x w
  simp [Op.eqFields, n0, n1, t0, t1, o0, o1, partItm0, partItm1, hs, hk]
theorem run_neq_itm (v z : Int) (p : Nat × Nat) (w : World) : (binOp .neq 90 (.agg (lbl v z p).toArray) (.agg (lbl v z p).toArray)).run Try.prog w = .ok (.bool false) w := by
  have h := eqitm_self v z p w
  simp only [binOp, Op.equal, Op.maxDepth, Sem.run_bind, h, Result.andThen_ok, Sem.run_pure, Bool.not_true]
theorem wp_neq_itm {op : Oper} {a : Act} {w : World} {K : Act → World → Prop} {Q : Exit → Act → World → Prop} (x y : Operand) (ho : op.op = .binOp .neq 90 x y 90) (v z : Int) (p : Nat × Nat) (hx : a.eval x = .agg (lbl v z p).toArray) (hy : a.eval y = .agg (lbl v z p).toArray)
    (h : K (a.put op.dst (.bool false)) w) : op.wp Try.prog a w K Q := by
  have hg : (eqGuard .neq 90 x y (.agg (lbl v z p).toArray) (.agg (lbl v z p).toArray)).run Try.prog w = .ok () w := run_eqGuard_agg (P := Try.prog) w .neq 90 x y _ _ (by kernel_rfl)
  unfold Oper.wp execOp
  simp only [ho, hx, hy, Sem.run_bind, hg, run_neq_itm, Result.andThen_ok]
  exact h
end Go.Proofs.Ytchkgccnipejhaa

/-
  Equal headers.
-/
namespace Go.Proofs.Ytchkgccnipejhaa
open Go.RowKit TR L2 L2.SP
set_option linter.unusedVariables false
set_option linter.unusedSimpArgs false

theorem wpList_load_on {ops : Array Oper} {rest : List Oper} {op : Oper} {a : Act} {w : World} {Q : Exit → Act → World → Prop} (hw : Region.wanted op (yielded ops a.tmps) = true) (ty : TypeId) (x : Operand) (ho : op.op = .load ty x)
    (b o : Nat) (hx : a.eval x = .pointer (some ⟨b, o, none⟩)) (cs : List Value) (d : TypeDesc) (hc : w.rangeAt b o cs)
    (hu : Try.prog.underlying ty = some d) (hd : d.isRow = true) (hi : (Try.prog.info? ty).map (·.size) = some cs.length)
    (h : wpList Try.prog ops Q rest (a.put op.dst (.agg cs.toArray)) w) : wpList Try.prog ops Q (op :: rest) a w :=
  wpList_step fun K hK => by rw [if_pos hw]; exact wp_load_mid ty x ho b o hx cs d hc hu hd hi (hK _ _ h)
theorem key_self' (q : Nat × Nat) (w : World) : (Op.equalIn 10000 26 (.agg (kl q.1 q.2).toArray) (.agg (kl q.1 q.2).toArray)).run Try.prog w = .ok true w := eqkey_self 9998 q w

set_option maxRecDepth 100000 in
set_option maxHeartbeats 400000 in
theorem sameHeader_gen (a1 a2 p1 p2 : Option Addr) (g1 g2 o2 n m1 m2 h1 h2 r2 np k1 k2 : Nat) (B : Int) (x y : Nat × Nat) (F : Nat → Int × Int × (Nat × Nat)) (G : Nat → Int × Int) (w : World) (hn : n ≤ 4398046511104) (hm1 : n ≤ m1) (hm2 : n ≤ m2) (had : n = 0 ∨ (a1 = some ⟨g1, 0, none⟩ ∧ a2 = some ⟨g2, o2, none⟩))
    (hc : ∀ i, i < n → w.rangeAt g1 (i * 18) (lbl (F i).1 (F i).2.1 (F i).2.2) ∧ w.rangeAt g2 (o2 + i * 18) (lbl (F i).1 (F i).2.1 (F i).2.2))
    (hnp : np ≤ 8796093022208) (hk1 : np ≤ k1) (hk2 : np ≤ k2) (hpd : np = 0 ∨ (p1 = some ⟨h1, 0, none⟩ ∧ p2 = some ⟨h2, r2, none⟩))
    (hpc : ∀ i, i < np → w.rangeAt h1 (i * 2) [.int .u64 (G i).1, .int .u64 (G i).2] ∧ w.rangeAt h2 (r2 + i * 2) [.int .u64 (G i).1, .int .u64 (G i).2]) :
    Calls Try.prog 18 #[.agg (hdi (.slice a1 n m1) (.slice p1 np k1) B x y).toArray, .agg (hdi (.slice a2 n m2) (.slice p2 np k2) B x y).toArray] w fun e w' => e = .returned (.bool true) ∧ Below w.heap.size w w' := by
  obtain ⟨N, hN⟩ : ∃ N, N = w.heap.size := ⟨_, rfl⟩
  obtain ⟨W2, hW2⟩ : ∃ W2, W2 = (w.alloc (.cells (hdi (.slice a1 n m1) (.slice p1 np k1) B x y).toArray 28)).alloc (.cells (hdi (.slice a2 n m2) (.slice p2 np k2) B x y).toArray 28) := ⟨_, rfl⟩
  have b2 : Below N w W2 := by rw [hW2, hN]; exact (below_alloc _ _).trans ((below_alloc _ _).mono (by simp))
  have e1 : Hdx W2 N (.slice a1 n m1) (.slice p1 np k1) B x y := by rw [hW2, hN]; exact (Blk.new w _ _).keep (below_alloc _ _)
  have e2 : Hdx W2 (N + 1) (.slice a2 n m2) (.slice p2 np k2) B x y := by
    have h := Blk.new (w.alloc (.cells (hdi (.slice a1 n m1) (.slice p1 np k1) B x y).toArray 28)) (hdi (.slice a2 n m2) (.slice p2 np k2) B x y).toArray 28
    rw [World.size_alloc, ← hN] at h; rw [hW2]; exact h
  have HS2 : Hid (W2.heap.size = N + 2 ∧ Below N w W2) := Lib.hid ⟨by rw [hW2, hN]; simp, b2⟩
  have HE : Hid (∀ w1, Below (N + 2) W2 w1 → Hdx w1 N (.slice a1 n m1) (.slice p1 np k1) B x y ∧ Hdx w1 (N + 1) (.slice a2 n m2) (.slice p2 np k2) B x y) := Lib.hid (fun w1 hb => ⟨Blk.below e1 hb (by omega), Blk.below e2 hb (by omega)⟩)
  have key : ∀ w1, Below (N + 2) W2 w1 → ∀ (g o : Nat) (xs : List Value), w.rangeAt g o xs → w1.rangeAt g o xs := fun w1 hb g o xs h j u hu => by
    have hb2 : Below N w w1 := b2.trans (hb.mono (by omega))
    exact (hb2.cell (p := ⟨g, o + j, none⟩) (by rw [hN]; exact World.block_lt_of_cell? w _ (h j u hu))).trans (h j u hu)
  have HC : Hid (∀ w1, Below (N + 2) W2 w1 → ∀ i, i < n → w1.rangeAt g1 (i * 18) (lbl (F i).1 (F i).2.1 (F i).2.2) ∧ w1.rangeAt g2 (o2 + i * 18) (lbl (F i).1 (F i).2.1 (F i).2.2)) := Lib.hid (fun w1 hb i hi => ⟨key w1 hb _ _ _ (hc i hi).1, key w1 hb _ _ _ (hc i hi).2⟩)
  have HP : Hid (∀ w1, Below (N + 2) W2 w1 → ∀ i, i < np → w1.rangeAt h1 (i * 2) [.int .u64 (G i).1, .int .u64 (G i).2] ∧ w1.rangeAt h2 (r2 + i * 2) [.int .u64 (G i).1, .int .u64 (G i).2]) := Lib.hid (fun w1 hb i hi => ⟨key w1 hb _ _ _ (hpc i hi).1, key w1 hb _ _ _ (hpc i hi).2⟩)
  have HAD := Lib.hid had
  have HPD := Lib.hid hpd
  have HR0 := Lib.hid (HE.out W2 (Below.refl _ _))
  have HN := Lib.hid hN
  have HW := Lib.hid hW2
  have c10 := HR0.out.1.c0
  have c11 := HR0.out.1.c1
  have c12 := HR0.out.1.c2
  have c20 := HR0.out.2.c0
  have c21 := HR0.out.2.c1
  have c22 := HR0.out.2.c2
  rw [HW.out, HN.out] at c10 c11 c12 c20 c21 c22
  have q1 := key_self' x
  have q2 := key_self' y
  clear hN hW2 e1 e2 b2 key hc hpc had hpd
  go_enter Try.func18, Try.ntmps18
  go_wp2_with (first
    | ((with_reducible show wpList _ _ _ (Oper.mk _ (Op.load 26 _) _ _ _ _ :: _) _ _); refine wpList_load_on (by rfl) 26 _ rfl N 3 (by rw [HN.out]; rfl) (kl x.1 x.2) _ (by rw [← HW.out]; exact HR0.out.1.box) Try.underlying26 rfl (by rw [kl_len]; exact size23) ?_)
    | ((with_reducible show wpList _ _ _ (Oper.mk _ (Op.load 26 _) _ _ _ _ :: _) _ _); refine wpList_load_on (by rfl) 26 _ rfl (N + 1) 3 (by rw [HN.out]; rfl) (kl x.1 x.2) _ (by rw [← HW.out]; exact HR0.out.2.box) Try.underlying26 rfl (by rw [kl_len]; exact size23) ?_)
    | ((with_reducible show wpList _ _ _ (Oper.mk _ (Op.load 26 _) _ _ _ _ :: _) _ _); refine wpList_load_on (by rfl) 26 _ rfl N 19 (by rw [HN.out]; rfl) (kl y.1 y.2) _ (by rw [← HW.out]; exact HR0.out.1.chk) Try.underlying26 rfl (by rw [kl_len]; exact size23) ?_)
    | ((with_reducible show wpList _ _ _ (Oper.mk _ (Op.load 26 _) _ _ _ _ :: _) _ _); refine wpList_load_on (by rfl) 26 _ rfl (N + 1) 19 (by rw [HN.out]; rfl) (kl y.1 y.2) _ (by rw [← HW.out]; exact HR0.out.2.chk) Try.underlying26 rfl (by rw [kl_len]; exact size23) ?_))
  rw [← HW.out, ← HN.out]
  clear q1 q2 c10 c11 c12 c20 c21 c22
  go_loopw [5] (fun i wr => ∃ (k : Nat), k ≤ n ∧ i = .int .i64 (k : Int) ∧ Hid (Below (N + 2) W2 wr)) (fun i _ => n - (intOf i).toNat)
  case atStart => exact ⟨0, by omega, rfl, Lib.hid (Below.refl _ _)⟩
  case round =>
    obtain ⟨k, hk, rfl, HBr⟩ := hrel
    have cz := (HE.out wr HBr.out).1.c0
    by_cases hlt : k < n
    · rcases HAD.out with h0 | ⟨rfl, rfl⟩
      · omega
      have l1 : (0 : Int) ≤ (k : Int) := by omega
      have l2 : (k : Int) < (n : Int) := by omega
      have HBd : Hid (Below (N + 2) W2 wr.drew) := Lib.hid HBr.out.drew
      have HCk := Lib.hid (HC.out _ HBd.out k hlt)
      have HAk := Lib.hid (HE.out _ HBd.out)
      obtain ⟨a, ha⟩ : ∃ a, a = (F k).1 := ⟨_, rfl⟩
      obtain ⟨b, hb⟩ : ∃ b, b = (F k).2.1 := ⟨_, rfl⟩
      obtain ⟨q, hq⟩ : ∃ q, q = (F k).2.2 := ⟨_, rfl⟩
      rw [← ha, ← hb, ← hq] at HCk
      clear ha hb hq hk
      go_wp2_with fail
      clear cz
      refine wp_region_inv (by kernel_rfl) (by kernel_rfl) (fun l a' w' => a' = { tmps := #[Value.agg (hdi (Value.slice (some ⟨g1, 0, none⟩) n m1) (Value.slice p1 np k1) B x y).toArray, Value.agg (hdi (Value.slice (some ⟨g2, o2, none⟩) n m2) (Value.slice p2 np k2) B x y).toArray, Value.pointer (some ⟨N, 0, none⟩), Value.pointer (some ⟨N + 1, 0, none⟩), u4, Value.int .i64 (k : Int), undef, Value.pointer (some ⟨N, 0, none⟩), Value.slice (some ⟨g1, 0, none⟩) n m1, Value.int .i64 (n : Int), Value.pointer (some ⟨N + 1, 0, none⟩), Value.slice (some ⟨g2, o2, none⟩) n m2, Value.int .i64 (n : Int), Value.bool false, Value.bool false, Value.pointer (some ⟨N, 2, none⟩), Value.slice p1 np k1, Value.int .i64 (np : Int), Value.pointer (some ⟨N + 1, 2, none⟩), Value.slice p2 np k2, Value.int .i64 (np : Int), Value.bool false, Value.bool false, Value.bool false, Value.pointer (some ⟨N, 1, none⟩), Value.int .u64 (B : Int), Value.pointer (some ⟨N + 1, 1, none⟩), Value.int .u64 (B : Int), Value.bool false, Value.bool false, Value.bool false, Value.pointer (some ⟨N, 3, none⟩), Value.agg (kl x.fst x.snd).toArray, Value.pointer (some ⟨N + 1, 3, none⟩), Value.agg (kl x.fst x.snd).toArray, Value.bool false, Value.bool false, Value.bool false, Value.pointer (some ⟨N, 19, none⟩), Value.agg (kl y.fst y.snd).toArray, Value.pointer (some ⟨N + 1, 19, none⟩), Value.agg (kl y.fst y.snd).toArray, Value.bool false, Value.bool false, Value.int .i64 (k : Int), Value.pointer (some ⟨N, 0, none⟩), Value.slice (some ⟨g1, 0, none⟩) n m1, Value.int .i64 (n : Int), Value.bool true, u49, u50, bif l 0 then Value.pointer (some ⟨N, 0, none⟩) else u51, bif l 1 then Value.slice (some ⟨g1, 0, none⟩) n m1 else u52, bif l 2 then Value.int .i64 (k : Int) else u53, bif l 3 then Value.pointer (some ⟨g1, k * 18, none⟩) else u54, bif l 4 then Value.agg (lbl a b q).toArray else u55, bif l 5 then Value.pointer (some ⟨N + 1, 0, none⟩) else u56, bif l 6 then Value.slice (some ⟨g2, o2, none⟩) n m2 else u57, bif l 7 then Value.int .i64 (k : Int) else u58, bif l 8 then Value.pointer (some ⟨g2, o2 + k * 18, none⟩) else u59, bif l 9 then Value.agg (lbl a b q).toArray else u60, bif l 10 then Value.bool false else u61, undef, undef, undef, undef, undef, undef, undef, undef, undef, undef, undef, undef, undef, undef, undef, undef, undef, undef], defers := [] } ∧ w' = wr.drew) ⟨rfl, rfl⟩ ?_ ?_
      · rintro l a' w' i ⟨rfl, rfl⟩ hi hli hpre
        have hi2 : i < 11 := hi
        have hcase : i = 0 ∨ i = 1 ∨ i = 2 ∨ i = 3 ∨ i = 4 ∨ i = 5 ∨ i = 6 ∨ i = 7 ∨ i = 8 ∨ i = 9 ∨ i = 10 := by omega
        clear hi hi2
        rcases hcase with rfl | rfl | rfl | rfl | rfl | rfl | rfl | rfl | rfl | rfl | rfl
        · -- 0: Op.fieldAddr 59 (Operand.tmp 2) 0
          refine wpOp_step rfl (fun K' hK => ?_)
          clear hpre
          rw [if_pos (by rfl)]
          go_simp
          exact hK _ _ ⟨by simp [upd, Act.put], rfl⟩
        · -- 1: Op.load 56 (Operand.tmp 51)
          have p0 : l 0 = true := hpre _ rfl ⟨0, .data⟩ (by simp) rfl
          refine wpOp_step rfl (fun K' hK => ?_)
          simp only [p0, cond_true, cond_false]
          clear hpre
          rw [if_pos (by rfl)]
          have z := HAk.out.1.c0
          go_simp
          exact hK _ _ ⟨by simp [upd, Act.put, p0], rfl⟩
        · -- 2: Op.move (Operand.tmp 5)
          refine wpOp_step rfl (fun K' hK => ?_)
          clear hpre
          rw [if_pos (by rfl)]
          go_simp
          exact hK _ _ ⟨by simp [upd, Act.put], rfl⟩
        · -- 3: Op.indexAddr 56 (Operand.tmp 52) (Operand.tmp 53)
          have p1 : l 1 = true := hpre _ rfl ⟨1, .data⟩ (by simp) rfl
          have p2 : l 2 = true := hpre _ rfl ⟨2, .data⟩ (by simp) rfl
          refine wpOp_step rfl (fun K' hK => ?_)
          simp only [p1, p2, cond_true, cond_false]
          clear hpre
          rw [if_pos (by rfl)]
          have l1 : (0 : Int) ≤ (k : Int) := by omega
          have l2 : (k : Int) < (n : Int) := by omega
          go_simp
          exact hK _ _ ⟨by simp [upd, Act.put, p1, p2], rfl⟩
        · -- 4: Op.load 112 (Operand.tmp 54)
          have p3 : l 3 = true := hpre _ rfl ⟨3, .data⟩ (by simp) rfl
          refine wpOp_step rfl (fun K' hK => ?_)
          simp only [p3, cond_true, cond_false]
          clear hpre
          rw [if_pos (by rfl)]
          refine wp_load_mid 90 _ rfl g1 (k * 18) rfl (lbl a b q) _ HCk.out.1 Try.underlying90 rfl (by rw [lbl_len]; exact sizeItm) ?_
          exact hK _ _ ⟨by simp [upd, Act.put, p3], rfl⟩
        · -- 5: Op.fieldAddr 59 (Operand.tmp 3) 0
          refine wpOp_step rfl (fun K' hK => ?_)
          clear hpre
          rw [if_pos (by rfl)]
          go_simp
          exact hK _ _ ⟨by simp [upd, Act.put], rfl⟩
        · -- 6: Op.load 56 (Operand.tmp 56)
          have p5 : l 5 = true := hpre _ rfl ⟨5, .data⟩ (by simp) rfl
          refine wpOp_step rfl (fun K' hK => ?_)
          simp only [p5, cond_true, cond_false]
          clear hpre
          rw [if_pos (by rfl)]
          have z := HAk.out.2.c0
          go_simp
          exact hK _ _ ⟨by simp [upd, Act.put, p5], rfl⟩
        · -- 7: Op.move (Operand.tmp 5)
          refine wpOp_step rfl (fun K' hK => ?_)
          clear hpre
          rw [if_pos (by rfl)]
          go_simp
          exact hK _ _ ⟨by simp [upd, Act.put], rfl⟩
        · -- 8: Op.indexAddr 56 (Operand.tmp 57) (Operand.tmp 58)
          have p6 : l 6 = true := hpre _ rfl ⟨6, .data⟩ (by simp) rfl
          have p7 : l 7 = true := hpre _ rfl ⟨7, .data⟩ (by simp) rfl
          refine wpOp_step rfl (fun K' hK => ?_)
          simp only [p6, p7, cond_true, cond_false]
          clear hpre
          rw [if_pos (by rfl)]
          have l1 : (0 : Int) ≤ (k : Int) := by omega
          have l2 : (k : Int) < (n : Int) := by omega
          go_simp
          exact hK _ _ ⟨by simp [upd, Act.put, p6, p7], rfl⟩
        · -- 9: Op.load 112 (Operand.tmp 59)
          have p8 : l 8 = true := hpre _ rfl ⟨8, .data⟩ (by simp) rfl
          refine wpOp_step rfl (fun K' hK => ?_)
          simp only [p8, cond_true, cond_false]
          clear hpre
          rw [if_pos (by rfl)]
          refine wp_load_mid 90 _ rfl g2 (o2 + k * 18) rfl (lbl a b q) _ HCk.out.2 Try.underlying90 rfl (by rw [lbl_len]; exact sizeItm) ?_
          exact hK _ _ ⟨by simp [upd, Act.put, p8], rfl⟩
        · -- 10: Op.binOp BinOp.neq 112 (Operand.tmp 55) (Operand.tmp 60) 112
          have p4 : l 4 = true := hpre _ rfl ⟨4, .data⟩ (by simp) rfl
          have p9 : l 9 = true := hpre _ rfl ⟨9, .data⟩ (by simp) rfl
          refine wpOp_step rfl (fun K' hK => ?_)
          simp only [p4, p9, cond_true, cond_false]
          clear hpre
          rw [if_pos (by rfl)]
          refine wp_neq_itm _ _ rfl a b q rfl rfl ?_
          exact hK _ _ ⟨by simp [upd, Act.put, p4, p9], rfl⟩
      · rintro l a' w9 hall ⟨rfl, rfl⟩
        simp only [hall 0 (by decide), hall 1 (by decide), hall 2 (by decide), hall 3 (by decide), hall 4 (by decide), hall 5 (by decide), hall 6 (by decide), hall 7 (by decide), hall 8 (by decide), hall 9 (by decide), hall 10 (by decide), cond_true]
        clear hall
        go_wp2_with fail
        go_roundw
        case rel => exact ⟨k + 1, by omega, by go_num, HBd⟩
        case measure => simp [intOf]; omega
    · have l3 : ¬ ((k : Int) < (n : Int)) := by omega
      go_wp2_with fail
      clear cz
      go_loopw [6] (fun i wr => ∃ (k : Nat), k ≤ np ∧ i = .int .i64 (k : Int) ∧ Hid (Below (N + 2) W2 wr)) (fun i _ => np - (intOf i).toNat)
      case atStart => exact ⟨0, by omega, rfl, HBr⟩
      case round =>
        obtain ⟨jj, hk, rfl, HBr⟩ := hrel
        have cz := (HE.out wr HBr.out).1.c2
        by_cases hlt : jj < np
        · rcases HPD.out with h0 | ⟨rfl, rfl⟩
          · omega
          have l1 : (0 : Int) ≤ (jj : Int) := by omega
          have l2 : (jj : Int) < (np : Int) := by omega
          have HBd : Hid (Below (N + 2) W2 wr.drew) := Lib.hid HBr.out.drew
          have HCk := Lib.hid (HP.out _ HBd.out jj hlt)
          have HAk := Lib.hid (HE.out _ HBd.out)
          obtain ⟨a, ha⟩ : ∃ a, a = (G jj).1 := ⟨_, rfl⟩
          obtain ⟨b, hb⟩ : ∃ b, b = (G jj).2 := ⟨_, rfl⟩
          rw [← ha, ← hb] at HCk
          clear ha hb hk
          go_wp2_with fail
          clear cz
          refine wp_region_inv (by kernel_rfl) (by kernel_rfl) (fun l a' w' => a' = { tmps := #[Value.agg (hdi (Value.slice a1 n m1) (Value.slice (some ⟨h1, 0, none⟩) np k1) B x y).toArray, Value.agg (hdi (Value.slice a2 n m2) (Value.slice (some ⟨h2, r2, none⟩) np k2) B x y).toArray, Value.pointer (some ⟨N, 0, none⟩), Value.pointer (some ⟨N + 1, 0, none⟩), u4, Value.int .i64 (k : Int), Value.int .i64 (jj : Int), Value.pointer (some ⟨N, 0, none⟩), Value.slice a1 n m1, Value.int .i64 (n : Int), Value.pointer (some ⟨N + 1, 0, none⟩), Value.slice a2 n m2, Value.int .i64 (n : Int), Value.bool false, Value.bool false, Value.pointer (some ⟨N, 2, none⟩), Value.slice (some ⟨h1, 0, none⟩) np k1, Value.int .i64 (np : Int), Value.pointer (some ⟨N + 1, 2, none⟩), Value.slice (some ⟨h2, r2, none⟩) np k2, Value.int .i64 (np : Int), Value.bool false, Value.bool false, Value.bool false, Value.pointer (some ⟨N, 1, none⟩), Value.int .u64 (B : Int), Value.pointer (some ⟨N + 1, 1, none⟩), Value.int .u64 (B : Int), Value.bool false, Value.bool false, Value.bool false, Value.pointer (some ⟨N, 3, none⟩), Value.agg (kl x.fst x.snd).toArray, Value.pointer (some ⟨N + 1, 3, none⟩), Value.agg (kl x.fst x.snd).toArray, Value.bool false, Value.bool false, Value.bool false, Value.pointer (some ⟨N, 19, none⟩), Value.agg (kl y.fst y.snd).toArray, Value.pointer (some ⟨N + 1, 19, none⟩), Value.agg (kl y.fst y.snd).toArray, Value.bool false, Value.bool false, Value.int .i64 (k : Int), Value.pointer (some ⟨N, 0, none⟩), Value.slice a1 n m1, Value.int .i64 (n : Int), Value.bool false, u49, u50, u51, u52, u53, u54, u55, u56, u57, u58, u59, u60, u61, Value.int .i64 (jj : Int), Value.pointer (some ⟨N, 2, none⟩), Value.slice (some ⟨h1, 0, none⟩) np k1, Value.int .i64 (np : Int), Value.bool true, u67, u68, bif l 0 then Value.pointer (some ⟨N, 2, none⟩) else u69, bif l 1 then Value.slice (some ⟨h1, 0, none⟩) np k1 else u70, bif l 2 then Value.int .i64 (jj : Int) else u71, bif l 3 then Value.pointer (some ⟨h1, jj * 2, none⟩) else u72, bif l 4 then Value.agg #[Value.int .u64 a, Value.int .u64 b] else u73, bif l 5 then Value.pointer (some ⟨N + 1, 2, none⟩) else u74, bif l 6 then Value.slice (some ⟨h2, r2, none⟩) np k2 else u75, bif l 7 then Value.int .i64 (jj : Int) else u76, bif l 8 then Value.pointer (some ⟨h2, r2 + jj * 2, none⟩) else u77, bif l 9 then Value.agg #[Value.int .u64 a, Value.int .u64 b] else u78, bif l 10 then Value.bool false else u79], defers := [] } ∧ w' = wr.drew) ⟨rfl, rfl⟩ ?_ ?_
          · rintro l a' w' i ⟨rfl, rfl⟩ hi hli hpre
            have hi2 : i < 11 := hi
            have hcase : i = 0 ∨ i = 1 ∨ i = 2 ∨ i = 3 ∨ i = 4 ∨ i = 5 ∨ i = 6 ∨ i = 7 ∨ i = 8 ∨ i = 9 ∨ i = 10 := by omega
            clear hi hi2
            rcases hcase with rfl | rfl | rfl | rfl | rfl | rfl | rfl | rfl | rfl | rfl | rfl
            · -- 0: Op.fieldAddr 59 (Operand.tmp 2) 2
              refine wpOp_step rfl (fun K' hK => ?_)
              clear hpre
              rw [if_pos (by rfl)]
              go_simp
              exact hK _ _ ⟨by simp [upd, Act.put], rfl⟩
            · -- 1: Op.load 57 (Operand.tmp 69)
              have p0 : l 0 = true := hpre _ rfl ⟨0, .data⟩ (by simp) rfl
              refine wpOp_step rfl (fun K' hK => ?_)
              simp only [p0, cond_true, cond_false]
              clear hpre
              rw [if_pos (by rfl)]
              have z := HAk.out.1.c2
              go_simp
              exact hK _ _ ⟨by simp [upd, Act.put, p0], rfl⟩
            · -- 2: Op.move (Operand.tmp 6)
              refine wpOp_step rfl (fun K' hK => ?_)
              clear hpre
              rw [if_pos (by rfl)]
              go_simp
              exact hK _ _ ⟨by simp [upd, Act.put], rfl⟩
            · -- 3: Op.indexAddr 57 (Operand.tmp 70) (Operand.tmp 71)
              have p1 : l 1 = true := hpre _ rfl ⟨1, .data⟩ (by simp) rfl
              have p2 : l 2 = true := hpre _ rfl ⟨2, .data⟩ (by simp) rfl
              refine wpOp_step rfl (fun K' hK => ?_)
              simp only [p1, p2, cond_true, cond_false]
              clear hpre
              rw [if_pos (by rfl)]
              have l1 : (0 : Int) ≤ (jj : Int) := by omega
              have l2 : (jj : Int) < (np : Int) := by omega
              go_simp
              exact hK _ _ ⟨by simp [upd, Act.put, p1, p2], rfl⟩
            · -- 4: Op.load 31 (Operand.tmp 72)
              have p3 : l 3 = true := hpre _ rfl ⟨3, .data⟩ (by simp) rfl
              refine wpOp_step rfl (fun K' hK => ?_)
              simp only [p3, cond_true, cond_false]
              clear hpre
              rw [if_pos (by rfl)]
              refine wp_load_mid 70 _ rfl h1 (jj * 2) rfl [.int .u64 a, .int .u64 b] _ HCk.out.1 Try.underlying70 rfl (by kernel_rfl) ?_
              exact hK _ _ ⟨by simp [upd, Act.put, p3], rfl⟩
            · -- 5: Op.fieldAddr 59 (Operand.tmp 3) 2
              refine wpOp_step rfl (fun K' hK => ?_)
              clear hpre
              rw [if_pos (by rfl)]
              go_simp
              exact hK _ _ ⟨by simp [upd, Act.put], rfl⟩
            · -- 6: Op.load 57 (Operand.tmp 74)
              have p5 : l 5 = true := hpre _ rfl ⟨5, .data⟩ (by simp) rfl
              refine wpOp_step rfl (fun K' hK => ?_)
              simp only [p5, cond_true, cond_false]
              clear hpre
              rw [if_pos (by rfl)]
              have z := HAk.out.2.c2
              go_simp
              exact hK _ _ ⟨by simp [upd, Act.put, p5], rfl⟩
            · -- 7: Op.move (Operand.tmp 6)
              refine wpOp_step rfl (fun K' hK => ?_)
              clear hpre
              rw [if_pos (by rfl)]
              go_simp
              exact hK _ _ ⟨by simp [upd, Act.put], rfl⟩
            · -- 8: Op.indexAddr 57 (Operand.tmp 75) (Operand.tmp 76)
              have p6 : l 6 = true := hpre _ rfl ⟨6, .data⟩ (by simp) rfl
              have p7 : l 7 = true := hpre _ rfl ⟨7, .data⟩ (by simp) rfl
              refine wpOp_step rfl (fun K' hK => ?_)
              simp only [p6, p7, cond_true, cond_false]
              clear hpre
              rw [if_pos (by rfl)]
              have l1 : (0 : Int) ≤ (jj : Int) := by omega
              have l2 : (jj : Int) < (np : Int) := by omega
              go_simp
              exact hK _ _ ⟨by simp [upd, Act.put, p6, p7], rfl⟩
            · -- 9: Op.load 31 (Operand.tmp 77)
              have p8 : l 8 = true := hpre _ rfl ⟨8, .data⟩ (by simp) rfl
              refine wpOp_step rfl (fun K' hK => ?_)
              simp only [p8, cond_true, cond_false]
              clear hpre
              rw [if_pos (by rfl)]
              refine wp_load_mid 70 _ rfl h2 (r2 + jj * 2) rfl [.int .u64 a, .int .u64 b] _ HCk.out.2 Try.underlying70 rfl (by kernel_rfl) ?_
              exact hK _ _ ⟨by simp [upd, Act.put, p8], rfl⟩
            · -- 10: Op.binOp BinOp.neq 31 (Operand.tmp 73) (Operand.tmp 78) 31
              have p4 : l 4 = true := hpre _ rfl ⟨4, .data⟩ (by simp) rfl
              have p9 : l 9 = true := hpre _ rfl ⟨9, .data⟩ (by simp) rfl
              refine wpOp_step rfl (fun K' hK => ?_)
              simp only [p4, p9, cond_true, cond_false]
              clear hpre
              rw [if_pos (by rfl)]
              have hq := eqpt_sg a b
              go_simp
              exact hK _ _ ⟨by simp [upd, Act.put, p4, p9], rfl⟩
          · rintro l a' w9 hall ⟨rfl, rfl⟩
            simp only [hall 0 (by decide), hall 1 (by decide), hall 2 (by decide), hall 3 (by decide), hall 4 (by decide), hall 5 (by decide), hall 6 (by decide), hall 7 (by decide), hall 8 (by decide), hall 9 (by decide), hall 10 (by decide), cond_true]
            clear hall
            go_wp2_with fail
            go_roundw
            case rel => exact ⟨jj + 1, by omega, by go_num, HBd⟩
            case measure => simp [intOf]; omega
        · have l4 : ¬ ((jj : Int) < (np : Int)) := by omega
          have HF : Hid (Below N w wr) := Lib.hid (HS2.out.2.trans (HBr.out.mono (by omega)))
          go_wp2_with fail
          go_ret
          exact ⟨by first | rfl | simp, by first | exact HF.out | (rw [← HN.out]; exact HF.out)⟩
end Go.Proofs.Ytchkgccnipejhaa

/-
  The walk through the law of keys.
-/
namespace Go.Proofs.Ytchkgccnipejhaa
open Go.RowKit TR L2 L2.SP
set_option linter.unusedVariables false
set_option linter.unusedSimpArgs false

theorem skk_ok {p : Nat × Nat} (hp : Ok p) (K D E : Int) (P Q G : Nat) (a b : Int) : Ok (skk p K D E P Q G a b) := by
  unfold skk
  split
  · rename_i h
    obtain ⟨_, d, v, x, _, rfl, rfl, _, _, h1, _⟩ := sbc_nat h
    exact kof_ok K hp _ _ (by simp; omega)
  · exact ⟨by decide, by decide⟩
theorem FdE.key {K D E a b : Int} {P Q G : Nat} {F : Nat → Int × Int × (Nat × Nat)} {n : Nat} {e : Ending} (h : FdE K D E a b P Q G F n e) (hF : ∀ i, i < n → Ok (F i).2.2) : ∃ (q : Nat × Nat) (c : Int), Ok q ∧ e = .returned (.tuple #[.agg (kl q.1 q.2).toArray, .int .i64 c]) := by
  rcases h with ⟨_, rfl⟩ | ⟨_, f, q, hr, rfl⟩
  · exact ⟨(0, 0), _, ⟨by decide, by decide⟩, rfl⟩
  · refine ⟨q, _, ?_, rfl⟩
    rcases hr with ⟨k, hk, _, _, _, rfl⟩ | ⟨_, _, rfl⟩
    · exact rch_ok (hF k hk) _ _
    · exact ⟨by decide, by decide⟩
theorem key_self {q : Nat × Nat} (h : Ok q) (w : World) : (Op.equalIn 10000 26 (.agg (kl q.1 q.2).toArray) (.agg (kl q.1 q.2).toArray)).run Try.prog w = .ok true w := by
  rw [run_equal_key h.1 h.2 h.1 h.2 w]; simp [same]

theorem wpList_load_sgo {ops : Array Oper} {rest : List Oper} {op : Oper} {a : Act} {w : World} {Q : Exit → Act → World → Prop} (hw : Region.wanted op (yielded ops a.tmps) = true) (x : Operand) (ho : op.op = .load 72 x)
    (b : Nat) (hx : a.eval x = .pointer (some ⟨b, 0, none⟩)) (r s t : Int) (v : Value) (hc : Blk w b (sg r v s t) 72)
    (h : wpList Try.prog ops Q rest (a.put op.dst (.agg (sg r v s t))) w) : wpList Try.prog ops Q (op :: rest) a w :=
  wpList_step fun K hK => by rw [if_pos hw]; exact wp_load_mid 72 x ho b 0 hx (sg r v s t).toList _ hc.range Try.underlying72 rfl sizeSec (by simpa using hK _ _ h)
/-- What stays where it is throughout the law. -/
structure KyE (w : World) (N S1 : Nat) (p : Nat × Nat) (K D E : Int) (P Q G : Nat) (a b r s t : Int) (A A' : Option Addr) (n m m' : Nat) : Prop where
  key : Kbx w N p
  sch : Blk w (N + 1) #[.int .u8 K, .int .i64 D, .int .i64 E, .int .u64 (P : Int), .int .u64 (Q : Int), .int .u64 (G : Int)] 45
  sec : Blk w (N + 2) (sg r (.slice A n m) s t) 72
  sub : Blk w (N + 3) #[.int .i64 a, .int .i64 b] 56
  own : Blk w S1 (sg r (.slice A' n m') s t) 72
theorem KyE.keep {w w' : World} {N S1 : Nat} {p : Nat × Nat} {K D E : Int} {P Q G : Nat} {a b r s t : Int} {A A' : Option Addr} {n m m' : Nat} (h : KyE w N S1 p K D E P Q G a b r s t A A' n m m') (hb : Below w.heap.size w w') : KyE w' N S1 p K D E P Q G a b r s t A A' n m m' :=
  ⟨Blk.keep h.key hb, h.sch.keep hb, h.sec.keep hb, h.sub.keep hb, h.own.keep hb⟩
theorem Blk.otherN {b b' : Nat} {cs : Array Value} {t : TypeId} : ∀ (vs : List Value) (o : Nat) {w : World}, Blk w b cs t → b' ≠ b → Blk (w.setCells b' o vs) b cs t
  | [], _, _, h, _ => h
  | v :: r, o, w, h, hne => by rw [World.setCells]; exact Blk.otherN r (o + 1) (h.other hne v) hne
/-- A key stored in a new block. -/
theorem keybox (w : World) (q : Nat × Nat) : (w.alloc (.cells z16 26)).there w.heap.size 0 16 ∧ Kbx ((w.alloc (.cells z16 26)).setCells w.heap.size 0 (kl q.1 q.2)) w.heap.size q ∧ Below w.heap.size w ((w.alloc (.cells z16 26)).setCells w.heap.size 0 (kl q.1 q.2)) ∧ ((w.alloc (.cells z16 26)).setCells w.heap.size 0 (kl q.1 q.2)).heap.size = w.heap.size + 1 := by
  have hA := Blk.new w z16 26
  exact ⟨by have h := hA.there; simpa using h, Kbx.stored hA rfl q, below_setCells _ _ _ _ (below_alloc _ _) (Nat.le_refl _), by rw [size_setCells]; simp⟩

end Go.Proofs.Ytchkgccnipejhaa

/-
  Seal, the program's.
-/
namespace Go.Proofs.Ytchkgccnipejhaa
open Go.RowKit TR L2 L2.SP
set_option linter.unusedVariables false
set_option linter.unusedSimpArgs false

/-- The zero header's cells, as they are allotted. -/
abbrev z35 : Array Value := #[.slice none 0 0, .int .u64 0, .slice none 0 0, .int .u8 0, .int .u8 0, .int .u8 0, .int .u8 0, .int .u8 0, .int .u8 0, .int .u8 0, .int .u8 0, .int .u8 0, .int .u8 0, .int .u8 0, .int .u8 0, .int .u8 0, .int .u8 0, .int .u8 0, .int .u8 0, .int .u8 0, .int .u8 0, .int .u8 0, .int .u8 0, .int .u8 0, .int .u8 0, .int .u8 0, .int .u8 0, .int .u8 0, .int .u8 0, .int .u8 0, .int .u8 0, .int .u8 0, .int .u8 0, .int .u8 0, .int .u8 0]
theorem z35_hdi : z35 = hd0 := by kernel_rfl
theorem z35_size : (z35 : Array Value).size = 35 := rfl
/-- The items of a header for some subsets. -/
def slG (p s : Nat × Nat) (K D E : Int) (P Q G : Nat) (f : Nat → Int × Int) (i : Nat) : Int × Int × (Nat × Nat) := ((f i).1, (f i).2, enc (skk p K D E P Q G (f i).1 (f i).2).1 (skk p K D E P Q G (f i).1 (f i).2).2 s.1 s.2)
/-- Whether all are subsets. -/
def sla (K D : Int) (f : Nat → Int × Int) (n : Nat) : Bool := (List.range n).all fun i => isb K D.toNat (f i).1 (f i).2
def slc (K D E : Int) (P Q G n : Nat) (f : Nat → Int × Int) : Int := if scb K D E P Q G then (if 64 < n then 4 else if sla K D f n then 0 else 31) else 30
def slm (K D E : Int) (P Q G n : Nat) (f : Nat → Int × Int) : Nat := if slc K D E P Q G n f = 0 then n else 0
def slk (s : Nat × Nat) (K D E : Int) (P Q G n : Nat) (f : Nat → Int × Int) : Nat × Nat := if slc K D E P Q G n f = 0 then drv s.1 s.2 53 0 else (0, 0)
theorem slm_le (K D E : Int) (P Q G n : Nat) (f : Nat → Int × Int) : slm K D E P Q G n f ≤ 64 := by
  unfold slm
  by_cases h : slc K D E P Q G n f = 0
  · rw [if_pos h]
    apply Classical.byContradiction
    intro h2
    unfold slc at h
    cases hb : scb K D E P Q G <;> simp [hb, show 64 < n by omega] at h
  · rw [if_neg h]; omega
/-- What a function that seals answers, of rows from the block B on. -/
def SlE (p s : Nat × Nat) (K D E : Int) (P Q G n : Nat) (f : Nat → Int × Int) (B : Nat) (e : Ending) (w' : World) : Prop :=
  ∃ v, e = .returned (.tuple #[.agg (hdi v (.slice none 0 0) 0 (0, 0) (slk s K D E P Q G n f)).toArray, .int .i64 (slc K D E P Q G n f)]) ∧ w'.ownsRow B 90 18 v (slm K D E P Q G n f) (lbF (slG p s K D E P Q G f) (slm K D E P Q G n f))
theorem SlE.bad {p s : Nat × Nat} {K D E : Int} {P Q G n : Nat} {f : Nat → Int × Int} {B : Nat} {e : Ending} {w' : World} (c : Int) (hc : slc K D E P Q G n f = c) (h0 : c ≠ 0) (he : e = .returned (.tuple #[.agg hd0, .int .i64 c])) : SlE p s K D E P Q G n f B e w' := by
  have hk : slk s K D E P Q G n f = (0, 0) := by unfold slk; rw [if_neg (by rw [hc]; exact h0)]
  have hm : slm K D E P Q G n f = 0 := by unfold slm; rw [if_neg (by rw [hc]; exact h0)]
  exact ⟨.slice none 0 0, by rw [hk, hc]; exact he, by rw [hm]; exact World.ownsRow_nil _ _ _ _⟩
theorem SlE.good {p s : Nat × Nat} {K D E : Int} {P Q G n : Nat} {f : Nat → Int × Int} {B : Nat} {e : Ending} {w' : World} (v : Value) (hc : slc K D E P Q G n f = 0) (he : e = .returned (.tuple #[.agg (hdi v (.slice none 0 0) 0 (0, 0) (drv s.1 s.2 53 0)).toArray, .int .i64 0]))
    (ho : w'.ownsRow B 90 18 v n (lbF (slG p s K D E P Q G f) n)) : SlE p s K D E P Q G n f B e w' := by
  have hk : slk s K D E P Q G n f = drv s.1 s.2 53 0 := by unfold slk; rw [if_pos hc]
  have hm : slm K D E P Q G n f = n := by unfold slm; rw [if_pos hc]
  exact ⟨v, by rw [hk, hc]; exact he, by rw [hm]; exact ho⟩
/-- What stands behind 'h.Items = append(h.Items, ..)'. -/
theorem app_hdr {W w1 : World} {N hb n m : Nat} {v v2 pv : Value} {B : Int} {x y : Nat × Nat} {xs ys : List Value} (hv : Hdx W hb v pv B x y) (hrow : W.ownsRow N 90 18 v n xs) (hg : W.grownBy w1 v.ownBlock)
    (ho : w1.ownsRow N 90 18 v2 m ys) (hN : N ≤ W.heap.size) (hlb : N ≤ hb) :
    Hdx (w1.setCell ⟨hb, 0, none⟩ v2) hb v2 pv B x y ∧ (w1.setCell ⟨hb, 0, none⟩ v2).ownsRow N 90 18 v2 m ys ∧ Below N W (w1.setCell ⟨hb, 0, none⟩ v2) ∧
      (∀ b cs t, b ≠ hb → 90 ≠ t → Blk W b cs t → Blk (w1.setCell ⟨hb, 0, none⟩ v2) b cs t) := by
  have hv1 : Hdx w1 hb v pv B x y := Blk.grown hv hg (Blk.apart hv hrow (by decide))
  refine ⟨Hdx.setItems hv1 v2, ownsRow_setCell_other ho (Ne.symm (Blk.apart hv1 ho (by decide))) _, ((Below.refl N W).grown hg hN (fun b hb => own_block hrow hb.symm)).setCell (p := ⟨hb, 0, none⟩) hlb _, fun b cs t h1 h2 h3 => (h3.grown hg (h3.apart hrow h2)).other (fun e => h1 e.symm) _⟩

set_option maxRecDepth 100000 in
set_option maxHeartbeats 400000 in
theorem checkOf_any (q : Nat × Nat) (w : World) (hq : Ok q) :
    Calls Try.prog 76 #[.agg (kl q.1 q.2).toArray] w fun e w' => e = .returned (.agg (kl (drv q.1 q.2 53 0).1 (drv q.1 q.2 53 0).2).toArray) ∧ Below w.heap.size w w' := by
  obtain ⟨N, hN⟩ : ∃ N, N = w.heap.size := ⟨_, rfl⟩
  obtain ⟨W2, hW2⟩ : ∃ W2, W2 = (w.alloc (.cells (kl q.1 q.2).toArray 26)).alloc (.cells z16 26) := ⟨_, rfl⟩
  have b2 : Below N w W2 := by rw [hW2, hN]; exact (below_alloc _ _).trans ((below_alloc _ _).mono (by simp))
  have e1 : Kbx W2 N q := by rw [hW2, hN]; exact Blk.keep (Blk.new w _ _) (below_alloc _ _)
  have e2 : Blk W2 (N + 1) z16 26 := by
    have h := Blk.new (w.alloc (.cells (kl q.1 q.2).toArray 26)) z16 26
    rw [World.size_alloc, ← hN] at h; rw [hW2]; exact h
  have HE : Hid (W2.heap.size = N + 2 ∧ Below N w W2 ∧ Kbx W2 N q ∧ Blk W2 (N + 1) z16 26) := Lib.hid ⟨by rw [hW2, hN]; simp, b2, e1, e2⟩
  have HD := Lib.hid (fun w => derive_any q.1 q.2 53 0 w hq.1 hq.2 (by omega) (by unfold M; omega))
  obtain ⟨z, hz⟩ : ∃ z, z = drv q.1 q.2 53 0 := ⟨_, rfl⟩
  rw [← hz] at HD ⊢
  have HN := Lib.hid hN
  have HW := Lib.hid hW2
  rw [← hN]
  clear hN hW2 b2 e1 e2 hq hz
  go_enter Try.func76, Try.ntmps76
  go_wp2_with ((with_reducible show wpList _ _ _ (Oper.mk _ (Op.load 26 _) _ _ _ _ :: _) _ _); refine wpList_load_key rfl _ rfl _ rfl _ _ (by rw [← HW.out, ← HN.out]; exact Kbx.at_ HE.out.2.2.1) ?_)
  rw [← HW.out, ← HN.out]
  refine (HD.out _).mono ?_
  rintro e w3 ⟨rfl, hb3⟩
  have hth : w3.there (N + 1) 0 16 := by have h := (HE.out.2.2.2.keep hb3).there; simpa using h
  have H3 : Hid (Kbx (w3.setCells (N + 1) 0 (kl z.1 z.2)) (N + 1) z ∧ Below N w (w3.setCells (N + 1) 0 (kl z.1 z.2))) := Lib.hid ⟨Kbx.stored (HE.out.2.2.2.keep hb3) rfl z, below_setCells _ _ _ _ (HE.out.2.1.trans (hb3.mono (by rw [HE.out.1]; omega))) (by omega)⟩
  clear hb3
  go_wp2_with ((with_reducible show wpList _ _ _ (Oper.mk _ (Op.store 26 _ _) _ _ _ _ :: _) _ _); refine wpList_store_key rfl _ _ rfl _ _ _ rfl rfl hth ?_)
  exact bodyPost_key rfl (N + 1) z.1 z.2 rfl (Kbx.at_ H3.out.1) rfl ⟨rfl, H3.out.2⟩

set_option maxRecDepth 100000 in
set_option maxHeartbeats 400000 in
theorem seal_any (p s : Nat × Nat) (K D E : Int) (P Q G n c g o : Nat) (A : Option Addr) (f : Nat → Int × Int) (w : World) (hp : Ok p) (hs : Ok s) (hK0 : 0 ≤ K) (hK1 : K ≤ 255) (hnc : n ≤ c) (hnm : n ≤ 9223372036854775807) (had : n = 0 ∨ A = some ⟨g, o, none⟩)
    (hcl : ∀ i, i < n → w.cell? ⟨g, o + i * 2, none⟩ = some (.int .i64 (f i).1) ∧ w.cell? ⟨g, o + i * 2 + 1, none⟩ = some (.int .i64 (f i).2)) :
    Calls Try.prog 31 #[.agg (kl p.1 p.2).toArray, .agg #[.int .u8 K, .int .i64 D, .int .i64 E, .int .u64 (P : Int), .int .u64 (Q : Int), .int .u64 (G : Int)], .slice A n c, .agg (kl s.1 s.2).toArray] w fun e w' => SlE p s K D E P Q G n f w.heap.size e w' ∧ Below w.heap.size w w' := by
  obtain ⟨N, hN⟩ : ∃ N, N = w.heap.size := ⟨_, rfl⟩
  obtain ⟨W4, hW4⟩ : ∃ W4, W4 = (((w.alloc (.cells (kl p.1 p.2).toArray 26)).alloc (.cells #[.int .u8 K, .int .i64 D, .int .i64 E, .int .u64 (P : Int), .int .u64 (Q : Int), .int .u64 (G : Int)] 45)).alloc (.cells (kl s.1 s.2).toArray 26)).alloc (.cells z35 28) := ⟨_, rfl⟩
  have s4 : W4.heap.size = N + 4 := by rw [hW4, hN]; simp
  have b4 : Below N w W4 := by rw [hW4, hN]; exact (below_alloc _ _).trans (((below_alloc _ _).mono (by simp)).trans (((below_alloc _ _).mono (by simp; omega)).trans ((below_alloc _ _).mono (by simp; omega))))
  have e1 : Kbx W4 N p := by rw [hW4, hN]; exact ((Blk.keep (Blk.new w _ _) (below_alloc _ _)).keep (below_alloc _ _)).keep (below_alloc _ _)
  have e2 : Blk W4 (N + 1) #[.int .u8 K, .int .i64 D, .int .i64 E, .int .u64 (P : Int), .int .u64 (Q : Int), .int .u64 (G : Int)] 45 := by
    have h := ((Blk.new (w.alloc (.cells (kl p.1 p.2).toArray 26)) #[.int .u8 K, .int .i64 D, .int .i64 E, .int .u64 (P : Int), .int .u64 (Q : Int), .int .u64 (G : Int)] 45).keep (below_alloc _ (.cells (kl s.1 s.2).toArray 26))).keep (below_alloc _ (.cells z35 28))
    rw [World.size_alloc, ← hN] at h; rw [hW4]; exact h
  have e3 : Kbx W4 (N + 2) s := by
    have h := (Blk.new ((w.alloc (.cells (kl p.1 p.2).toArray 26)).alloc (.cells #[.int .u8 K, .int .i64 D, .int .i64 E, .int .u64 (P : Int), .int .u64 (Q : Int), .int .u64 (G : Int)] 45)) (kl s.1 s.2).toArray 26).keep (below_alloc _ (.cells z35 28))
    rw [World.size_alloc, World.size_alloc, ← hN] at h; rw [hW4]; exact h
  have e4 : Hdx W4 (N + 3) (.slice none 0 0) (.slice none 0 0) 0 (0, 0) (0, 0) := by
    have h := Blk.new (((w.alloc (.cells (kl p.1 p.2).toArray 26)).alloc (.cells #[.int .u8 K, .int .i64 D, .int .i64 E, .int .u64 (P : Int), .int .u64 (Q : Int), .int .u64 (G : Int)] 45)).alloc (.cells (kl s.1 s.2).toArray 26)) z35 28
    rw [World.size_alloc, World.size_alloc, World.size_alloc, ← hN] at h; rw [hW4]; rw [z35_hdi] at h ⊢; exact h
  have HE : Hid (W4.heap.size = N + 4 ∧ Below N w W4 ∧ Kbx W4 N p ∧ Blk W4 (N + 1) #[.int .u8 K, .int .i64 D, .int .i64 E, .int .u64 (P : Int), .int .u64 (Q : Int), .int .u64 (G : Int)] 45 ∧ Kbx W4 (N + 2) s ∧ Hdx W4 (N + 3) (.slice none 0 0) (.slice none 0 0) 0 (0, 0) (0, 0)) := Lib.hid ⟨s4, b4, e1, e2, e3, e4⟩
  have HCL : Hid (∀ w1, Below N w w1 → ∀ i, i < n → w1.cell? ⟨g, o + i * 2, none⟩ = some (.int .i64 (f i).1) ∧ w1.cell? ⟨g, o + i * 2 + 1, none⟩ = some (.int .i64 (f i).2)) := Lib.hid (fun w1 hb i hi => by
    have k : ∀ (p : Addr) v, w.cell? p = some v → w1.cell? p = some v := fun p v hv => (hb.cell (p := p) (by rw [hN]; exact World.block_lt_of_cell? w _ hv)).trans hv
    exact ⟨k _ _ (hcl i hi).1, k _ _ (hcl i hi).2⟩)
  have HEND := Lib.hid (fun (w3 : World) (hb : Below N w w3) (h3 : ∃ cs, Blk w3 (N + 3) cs 28 ∧ cs.size = 35) => (by
    obtain ⟨cs, h1, h2⟩ := h3
    have h4 : Hdx (w3.setCells (N + 3) 0 (hdi (.slice none 0 0) (.slice none 0 0) 0 (0, 0) (0, 0))) (N + 3) (.slice none 0 0) (.slice none 0 0) 0 (0, 0) (0, 0) := Hdx.stored h1 h2 _ _ _ _ _
    exact ⟨h4, below_setCells _ _ _ _ hb (by omega), by have h5 := Blk.there h1; rw [h2] at h5; exact h5⟩ : Hdx (w3.setCells (N + 3) 0 (hdi (.slice none 0 0) (.slice none 0 0) 0 (0, 0) (0, 0))) (N + 3) (.slice none 0 0) (.slice none 0 0) 0 (0, 0) (0, 0) ∧ Below N w (w3.setCells (N + 3) 0 (hdi (.slice none 0 0) (.slice none 0 0) 0 (0, 0) (0, 0))) ∧ w3.there (N + 3) 0 35))
  have HSC := Lib.hid (fun (c : Int) (h : slc K D E P Q G n f = c) => h)
  have HCk := Lib.hid (fun w => check_any K D E P Q G w hK0 hK1)
  have HSk := Lib.hid (fun a b w => subsetKey_any p K D E a b P Q G w hp hK0 hK1)
  have HCo := Lib.hid (fun w => checkOf_any s w hs)
  have HEn := Lib.hid (fun a b w => encrypt_any (skk p K D E P Q G a b).1 (skk p K D E P Q G a b).2 s.1 s.2 w (skk_ok hp K D E P Q G a b).1 (skk_ok hp K D E P Q G a b).2 hs.1 hs.2)
  have HAD := Lib.hid had
  have HNC := Lib.hid (And.intro hnc hnm)
  have HN := Lib.hid hN
  have HW := Lib.hid hW4
  rw [← hN]
  have c0 : W4.cell? ⟨N + 1, 0, none⟩ = some (.int .u8 K) := (e2).cell 0
  have c1 : W4.cell? ⟨N + 1, 1, none⟩ = some (.int .i64 D) := (e2).cell 1
  have c2 : W4.cell? ⟨N + 1, 2, none⟩ = some (.int .i64 E) := (e2).cell 2
  have c3 : W4.cell? ⟨N + 1, 3, none⟩ = some (.int .u64 (P : Int)) := (e2).cell 3
  have c4 : W4.cell? ⟨N + 1, 4, none⟩ = some (.int .u64 (Q : Int)) := (e2).cell 4
  have c5 : W4.cell? ⟨N + 1, 5, none⟩ = some (.int .u64 (G : Int)) := (e2).cell 5
  rw [hW4, hN] at c0 c1 c2 c3 c4 c5
  clear hN hW4 s4 b4 e1 e2 e3 e4 hcl had hp hs hK0 hK1
  go_enter Try.func31, Try.ntmps31
  go_wp2_with fail
  rw [← HW.out, ← HN.out]
  refine (HCk.out _).mono ?_
  rintro e w5 ⟨rfl, hb5⟩
  have HB5 : Hid (N + 4 ≤ w5.heap.size ∧ Below N w w5 ∧ Kbx w5 N p ∧ Blk w5 (N + 1) #[.int .u8 K, .int .i64 D, .int .i64 E, .int .u64 (P : Int), .int .u64 (Q : Int), .int .u64 (G : Int)] 45 ∧ Kbx w5 (N + 2) s ∧ Hdx w5 (N + 3) (.slice none 0 0) (.slice none 0 0) 0 (0, 0) (0, 0)) := Lib.hid ⟨by rw [← HE.out.1]; exact hb5.size, HE.out.2.1.trans (hb5.mono (by rw [HE.out.1]; omega)), Blk.keep HE.out.2.2.1 hb5, HE.out.2.2.2.1.keep hb5, Blk.keep HE.out.2.2.2.2.1 hb5, Blk.keep HE.out.2.2.2.2.2 hb5⟩
  clear hb5 c0 c1 c2 c3 c4 c5
  by_cases h : ScOk K D E P Q G
  · have hsc := scc_yes h
    rw [hsc]
    have HSb := Lib.hid (scb_yes h)
    clear h hsc
    by_cases h64 : 64 < n
    · have H3 := Lib.hid (HEND.out w5 HB5.out.2.1 ⟨_, HB5.out.2.2.2.2.2, Hdx.size⟩)
      have HC : Hid (slc K D E P Q G n f = 4) := Lib.hid (by unfold slc; rw [HSb.out, if_pos rfl, if_pos h64])
      have h64' : (64 : Int) < (n : Int) := by omega
      go_wp2_with (first
      | ((with_reducible show wpList _ _ _ (Oper.mk _ (Op.build 28 _) _ _ _ _ :: _) _ _); refine wpList_buildHd0 rfl rfl ?_)
      | ((with_reducible show wpList _ _ _ (Oper.mk _ (Op.store 28 _ _) _ _ _ _ :: _) _ _); refine wpList_store_hdi rfl _ _ rfl (N + 3) _ _ _ _ _ rfl rfl rfl rfl H3.out.2.2 ?_))
      exact bodyPost_ret (results_hdi rfl _ _ (N + 3) (.slice none 0 0) (.slice none 0 0) 0 (0, 0) (0, 0) _ rfl rfl H3.out.1) rfl ⟨SlE.bad 4 HC.out (by decide) rfl, H3.out.2.1⟩
    · have h64' : ¬ ((64 : Int) < (n : Int)) := by omega
      have HN64 : Hid (n ≤ 64) := Lib.hid (by omega)
      go_wp2_with ((with_reducible show wpList _ _ _ (Oper.mk _ (Op.load 26 _) _ _ _ _ :: _) _ _); refine wpList_load_key rfl _ rfl _ rfl _ _ (Kbx.at_ HB5.out.2.2.2.2.1) ?_)
      refine (HCo.out _).mono ?_
      rintro e w6 ⟨rfl, hb6⟩
      have HB6 : Hid (N + 4 ≤ w6.heap.size ∧ Below N w w6 ∧ Kbx w6 N p ∧ Blk w6 (N + 1) #[.int .u8 K, .int .i64 D, .int .i64 E, .int .u64 (P : Int), .int .u64 (Q : Int), .int .u64 (G : Int)] 45 ∧ Kbx w6 (N + 2) s ∧ Hdx w6 (N + 3) (.slice none 0 0) (.slice none 0 0) 0 (0, 0) (0, 0)) := Lib.hid ⟨Nat.le_trans HB5.out.1 hb6.size, HB5.out.2.1.trans (hb6.mono (by have := HB5.out.1; omega)), Blk.keep HB5.out.2.2.1 hb6, HB5.out.2.2.2.1.keep hb6, Blk.keep HB5.out.2.2.2.2.1 hb6, Blk.keep HB5.out.2.2.2.2.2 hb6⟩
      obtain ⟨ck, hck⟩ : ∃ ck, ck = drv s.1 s.2 53 0 := ⟨_, rfl⟩
      rw [← hck]
      have HCK := Lib.hid hck
      have hA := Blk.new w6 z35 28
      have hth : (w6.alloc (.cells z35 28)).there w6.heap.size 0 35 := hA.there
      obtain ⟨W7, hW7⟩ : ∃ W7, W7 = (w6.alloc (.cells z35 28)).setCells w6.heap.size 0 (hdi (.slice none 0 0) (.slice none 0 0) 0 (0, 0) ck) := ⟨_, rfl⟩
      have b67 : Below w6.heap.size w6 W7 := by rw [hW7]; exact below_setCells _ _ _ _ (below_alloc _ _) (Nat.le_refl _)
      obtain ⟨hb, hhb⟩ : ∃ hb, hb = w6.heap.size := ⟨_, rfl⟩
      have HHB : Hid (N + 4 ≤ hb) := Lib.hid (by rw [hhb]; exact HB6.out.1)
      have HE7 : Hid (hb + 1 ≤ W7.heap.size ∧ Below N w W7 ∧ Kbx W7 N p ∧ Blk W7 (N + 1) #[.int .u8 K, .int .i64 D, .int .i64 E, .int .u64 (P : Int), .int .u64 (Q : Int), .int .u64 (G : Int)] 45 ∧ Kbx W7 (N + 2) s ∧ Hdx W7 (N + 3) (.slice none 0 0) (.slice none 0 0) 0 (0, 0) (0, 0) ∧ Hdx W7 hb (.slice none 0 0) (.slice none 0 0) 0 (0, 0) ck) := Lib.hid ⟨by rw [hW7, size_setCells]; simp [hhb], HB6.out.2.1.trans (b67.mono (by have := HB6.out.1; omega)), Blk.keep HB6.out.2.2.1 b67, HB6.out.2.2.2.1.keep b67, Blk.keep HB6.out.2.2.2.2.1 b67, Blk.keep HB6.out.2.2.2.2.2 b67, by rw [hW7, hhb]; exact Hdx.stored hA z35_size _ _ _ _ _⟩
      have HW7 := Lib.hid (And.intro hW7 hhb)
      have HTh := Lib.hid hth
      clear hA hth hW7 b67 hhb hck hb6
      go_wp2_with (first
        | ((with_reducible show wpList _ _ _ (Oper.mk _ (Op.build 28 _) _ _ _ _ :: _) _ _); refine wpList_buildHd4 rfl _ rfl ck rfl ?_)
        | ((with_reducible show wpList _ _ _ (Oper.mk _ (Op.store 28 _ _) _ _ _ _ :: _) _ _); refine wpList_store_hdi rfl _ _ rfl _ _ _ _ _ _ rfl rfl rfl rfl HTh.out ?_))
      rw [← HW7.out.1, ← HW7.out.2]
      go_loopw [31] (fun i wr => ∃ (k : Nat) (v : Value), k ≤ n ∧ i = .int .i64 (k : Int) ∧ Hid (wr.ownsRow N 90 18 v k (lbF (slG p s K D E P Q G f) k)) ∧ Hid (∀ j, j < k → isb K D.toNat (f j).1 (f j).2 = true) ∧ Hid (Kbx wr N p ∧ Blk wr (N + 1) #[.int .u8 K, .int .i64 D, .int .i64 E, .int .u64 (P : Int), .int .u64 (Q : Int), .int .u64 (G : Int)] 45 ∧ Kbx wr (N + 2) s ∧ Hdx wr (N + 3) (.slice none 0 0) (.slice none 0 0) 0 (0, 0) (0, 0) ∧ Hdx wr hb v (.slice none 0 0) 0 (0, 0) ck) ∧ Hid (Below N w wr ∧ hb + 1 ≤ wr.heap.size)) (fun i _ => n + 1 - (intOf i).toNat)
      case atStart => exact ⟨0, .slice none 0 0, by omega, rfl, Lib.hid (World.ownsRow_nil _ _ _ _), Lib.hid (fun j h => absurd h (by omega)), Lib.hid HE7.out.2.2, Lib.hid ⟨HE7.out.2.1, HE7.out.1⟩⟩
      case round =>
        obtain ⟨k, v, hk, rfl, HO, HA, HB, HS⟩ := hrel
        by_cases hlt : k < n
        · rcases HAD.out with h0 | rfl
          · omega
          have l1 : (0 : Int) ≤ (k : Int) := by omega
          have l2 : (k : Int) < (n : Int) := by omega
          have hgk := HCL.out wr HS.out.1 k hlt
          have g0 := hgk.1
          have g1 := hgk.2
          have HSn : Hid (lbF (slG p s K D E P Q G f) (k + 1) = lbF (slG p s K D E P Q G f) k ++ lbl (f k).1 (f k).2 (enc (skk p K D E P Q G (f k).1 (f k).2).1 (skk p K D E P Q G (f k).1 (f k).2).2 s.1 s.2)) := Lib.hid (lbF_succ _ _)
          have HNo : Hid (isb K D.toNat (f k).1 (f k).2 = false → slc K D E P Q G n f = 31) := Lib.hid (fun h => by
            have h1 : sla K D f n = false := by
              unfold sla
              rw [Bool.eq_false_iff]
              intro h2
              rw [List.all_eq_true] at h2
              have h3 := h2 k (List.mem_range.2 hlt)
              rw [h] at h3; cases h3
            unfold slc; rw [HSb.out, if_pos rfl, if_neg (by have := HN64.out; omega), h1]; rfl)
          have HAx : Hid (isb K D.toNat (f k).1 (f k).2 = true → ∀ j, j < k + 1 → isb K D.toNat (f j).1 (f j).2 = true) := Lib.hid (fun h j hj => by
            rcases Nat.lt_or_ge j k with h1 | h1
            · exact HA.out j h1
            · obtain rfl : j = k := by omega
              exact h)
          have hsb : sbc K D E P Q G (f k).1 (f k).2 = if isb K D.toNat (f k).1 (f k).2 then 0 else 31 := by unfold sbc; rw [HSb.out]; rfl
          have HSB2 := Lib.hid hsb
          have HSk2 := Lib.hid (fun w => HSk.out (f k).1 (f k).2 w)
          have HEn2 := Lib.hid (fun w => HEn.out (f k).1 (f k).2 w)
          obtain ⟨a, ha⟩ : ∃ a, a = (f k).1 := ⟨_, rfl⟩
          obtain ⟨b, hbb⟩ : ∃ b, b = (f k).2 := ⟨_, rfl⟩
          obtain ⟨z, hz⟩ : ∃ z, z = skk p K D E P Q G (f k).1 (f k).2 := ⟨_, rfl⟩
          obtain ⟨xs, hxs⟩ : ∃ xs, xs = lbF (slG p s K D E P Q G f) k := ⟨_, rfl⟩
          rw [← hz] at HSn HSk2 HEn2
          rw [← ha] at HSn HNo HAx HSB2 HSk2 g0
          rw [← hbb] at HSn HNo HAx HSB2 HSk2 g1
          rw [← hxs] at HSn HO
          obtain ⟨q, hq⟩ : ∃ q, q = enc z.1 z.2 s.1 s.2 := ⟨_, rfl⟩
          rw [← hq] at HSn HEn2
          obtain ⟨W8, hW8⟩ : ∃ W8, W8 = wr.alloc (.cells #[.int .i64 a, .int .i64 b] 56) := ⟨_, rfl⟩
          obtain ⟨xb, hxb⟩ : ∃ xb, xb = wr.heap.size := ⟨_, rfl⟩
          have fX : Blk W8 xb #[.int .i64 a, .int .i64 b] 56 := by rw [hW8, hxb]; exact Blk.new wr _ _
          have b8 : Below wr.heap.size wr W8 := by rw [hW8]; exact below_alloc _ _
          have HB8 : Hid (Kbx W8 N p ∧ Blk W8 (N + 1) #[.int .u8 K, .int .i64 D, .int .i64 E, .int .u64 (P : Int), .int .u64 (Q : Int), .int .u64 (G : Int)] 45 ∧ Kbx W8 (N + 2) s ∧ Hdx W8 (N + 3) (.slice none 0 0) (.slice none 0 0) 0 (0, 0) (0, 0) ∧ Hdx W8 hb v (.slice none 0 0) 0 (0, 0) ck ∧ Blk W8 xb #[.int .i64 a, .int .i64 b] 56) := Lib.hid ⟨Blk.keep HB.out.1 b8, HB.out.2.1.keep b8, Blk.keep HB.out.2.2.1 b8, Blk.keep HB.out.2.2.2.1 b8, Blk.keep HB.out.2.2.2.2 b8, fX⟩
          have HS8 : Hid (Below N w W8 ∧ hb + 1 ≤ W8.heap.size ∧ hb + 1 ≤ xb) := Lib.hid ⟨HS.out.1.trans (b8.mono (by have := HS.out.2; have := HHB.out; omega)), Nat.le_trans HS.out.2 b8.size, by rw [hxb]; exact HS.out.2⟩
          have HO8 := Lib.hid (own_below HO.out b8)
          have z0 : W8.cell? ⟨xb, 0, none⟩ = some (.int .i64 a) := fX.cell 0
          have z1 : W8.cell? ⟨xb, 1, none⟩ = some (.int .i64 b) := fX.cell 1
          have c0 : W8.cell? ⟨N + 1, 0, none⟩ = some (.int .u8 K) := (HB8.out.2.1).cell 0
          have c1 : W8.cell? ⟨N + 1, 1, none⟩ = some (.int .i64 D) := (HB8.out.2.1).cell 1
          have c2 : W8.cell? ⟨N + 1, 2, none⟩ = some (.int .i64 E) := (HB8.out.2.1).cell 2
          have c3 : W8.cell? ⟨N + 1, 3, none⟩ = some (.int .u64 (P : Int)) := (HB8.out.2.1).cell 3
          have c4 : W8.cell? ⟨N + 1, 4, none⟩ = some (.int .u64 (Q : Int)) := (HB8.out.2.1).cell 4
          have c5 : W8.cell? ⟨N + 1, 5, none⟩ = some (.int .u64 (G : Int)) := (HB8.out.2.1).cell 5
          rw [hW8] at c0 c1 c2 c3 c4 c5
          rw [hW8, hxb] at z0 z1
          have HW8 := Lib.hid (And.intro hW8 hxb)
          clear hW8 hxb fX b8 hgk ha hbb hz hxs hq hk hsb
          go_wp2_with ((with_reducible show wpList _ _ _ (Oper.mk _ (Op.load 26 _) _ _ _ _ :: _) _ _); refine wpList_load_key rfl _ rfl _ rfl _ _ (by rw [← HW8.out.1]; exact Kbx.at_ HB8.out.1) ?_)
          rw [← HW8.out.1, ← HW8.out.2]
          refine (HSk2.out _).mono ?_
          rintro e w9 ⟨rfl, hb9⟩
          rw [HSB2.out]
          have HB9 : Hid (Kbx w9 N p ∧ Blk w9 (N + 1) #[.int .u8 K, .int .i64 D, .int .i64 E, .int .u64 (P : Int), .int .u64 (Q : Int), .int .u64 (G : Int)] 45 ∧ Kbx w9 (N + 2) s ∧ Hdx w9 (N + 3) (.slice none 0 0) (.slice none 0 0) 0 (0, 0) (0, 0) ∧ Hdx w9 hb v (.slice none 0 0) 0 (0, 0) ck ∧ Blk w9 xb #[.int .i64 a, .int .i64 b] 56) := Lib.hid ⟨Blk.keep HB8.out.1 hb9, HB8.out.2.1.keep hb9, Blk.keep HB8.out.2.2.1 hb9, Blk.keep HB8.out.2.2.2.1 hb9, Blk.keep HB8.out.2.2.2.2.1 hb9, HB8.out.2.2.2.2.2.keep hb9⟩
          have HS9 : Hid (Below N w w9 ∧ xb + 1 ≤ w9.heap.size) := Lib.hid ⟨HS8.out.1.trans (hb9.mono (by have := HS8.out.2.1; have := HHB.out; omega)), by have := Blk.lt HB9.out.2.2.2.2.2; omega⟩
          have HO9 := Lib.hid (own_below HO8.out hb9)
          obtain ⟨k1, k2, k3, k4⟩ := keybox w9 z
          obtain ⟨W10, hW10⟩ : ∃ W10, W10 = (w9.alloc (.cells z16 26)).setCells w9.heap.size 0 (kl z.1 z.2) := ⟨_, rfl⟩
          rw [← hW10] at k2 k3 k4
          obtain ⟨kb, hkb⟩ : ∃ kb, kb = w9.heap.size := ⟨_, rfl⟩
          have HTk := Lib.hid k1
          have HW10 := Lib.hid (And.intro hW10 hkb)
          rw [← hkb] at k2 k4
          have HB10 : Hid (Kbx W10 N p ∧ Blk W10 (N + 1) #[.int .u8 K, .int .i64 D, .int .i64 E, .int .u64 (P : Int), .int .u64 (Q : Int), .int .u64 (G : Int)] 45 ∧ Kbx W10 (N + 2) s ∧ Hdx W10 (N + 3) (.slice none 0 0) (.slice none 0 0) 0 (0, 0) (0, 0) ∧ Hdx W10 hb v (.slice none 0 0) 0 (0, 0) ck ∧ Blk W10 xb #[.int .i64 a, .int .i64 b] 56 ∧ Kbx W10 kb z) := Lib.hid ⟨Blk.keep HB9.out.1 k3, HB9.out.2.1.keep k3, Blk.keep HB9.out.2.2.1 k3, Blk.keep HB9.out.2.2.2.1 k3, Blk.keep HB9.out.2.2.2.2.1 k3, HB9.out.2.2.2.2.2.keep k3, k2⟩
          have HS10 : Hid (Below N w W10 ∧ N ≤ W10.heap.size ∧ hb + 1 ≤ W10.heap.size) := Lib.hid ⟨HS9.out.1.trans (k3.mono (by have := HS9.out.2; have := HS8.out.2.2; have := HHB.out; omega)), by rw [k4, hkb]; have := HS9.out.2; have := HS8.out.2.2; have := HHB.out; omega, by rw [k4, hkb]; have := HS9.out.2; have := HS8.out.2.2; omega⟩
          have HO10 := Lib.hid (own_below HO9.out k3)
          clear k1 k2 k3 k4 hW10 hkb hb9 c0 c1 c2 c3 c4 c5 z0 z1 g0 g1
          cases hI : isb K D.toNat a b with
          | false =>
            have HC := Lib.hid (HNo.out hI)
            have H3 := Lib.hid (HEND.out W10 HS10.out.1 ⟨_, HB10.out.2.2.2.1, Hdx.size⟩)
            clear hI
            go_wp2_with (first
              | ((with_reducible show wpList _ _ _ (Oper.mk _ (Op.store 26 _ _) _ _ _ _ :: _) _ _); refine wpList_store_key rfl _ _ rfl _ _ _ rfl rfl HTk.out ?_)
              | ((with_reducible show wpList _ _ _ (Oper.mk _ (Op.build 28 _) _ _ _ _ :: _) _ _); refine wpList_buildHd0 rfl rfl ?_)
              | ((with_reducible show wpList _ _ _ (Oper.mk _ (Op.store 28 _ _) _ _ _ _ :: _) _ _); refine wpList_store_hdi rfl _ _ rfl (N + 3) _ _ _ _ _ rfl rfl rfl rfl (by rw [← HW10.out.1]; exact H3.out.2.2) ?_))
            rw [← HW10.out.1]
            exact bodyPost_ret (results_hdi rfl _ _ (N + 3) (.slice none 0 0) (.slice none 0 0) 0 (0, 0) (0, 0) _ rfl rfl H3.out.1) rfl ⟨SlE.bad 31 HC.out (by decide) rfl, H3.out.2.1⟩
          | true =>
            have HAy := Lib.hid (HAx.out hI)
            clear hI
            go_wp2_with ((with_reducible show wpList _ _ _ (Oper.mk _ (Op.store 26 _ _) _ _ _ _ :: _) _ _); refine wpList_store_key rfl _ _ rfl _ _ _ rfl rfl HTk.out ?_)
            rw [← HW10.out.1, ← HW10.out.2]
            have l3 : k ≤ 64 := by have := HN64.out; omega
            obtain ⟨i0, hi, hz0, hz1, hz2⟩ := info_parts infoItm
            have HI := Lib.hid (And.intro hi (And.intro hz0 (And.intro hz1 hz2)))
            clear hi hz0 hz1 hz2
            refine wp_region_inv (by kernel_rfl) (by kernel_rfl) (fun l a' w' => ∃ (v2 : Value) (gb : Nat) (w1 : World), a' = { tmps := #[Value.agg (kl p.fst p.snd).toArray, Value.agg #[Value.int IntKind.u8 K, Value.int IntKind.i64 D, Value.int IntKind.i64 E, Value.int IntKind.u64 P, Value.int IntKind.u64 Q, Value.int IntKind.u64 G], Value.slice (some ⟨g, o, none⟩) n c, Value.agg (kl s.fst s.snd).toArray, Value.pointer (some ⟨N, 0, none⟩), Value.pointer (some ⟨N + 1, 0, none⟩), undef, Value.pointer (some ⟨N + 1 + 1, 0, none⟩), Value.pointer (some ⟨N + 1 + 1 + 1, 0, none⟩), u9, Value.int .i64 (0 : Int), Value.pointer (some ⟨hb, 0, none⟩), undef, Value.pointer (some ⟨xb, 0, none⟩), Value.pointer (some ⟨kb, 0, none⟩), Value.int .i64 (0 : Int), Value.agg #[Value.int IntKind.u8 K, Value.int IntKind.i64 D, Value.int IntKind.i64 E, Value.int IntKind.u64 P, Value.int IntKind.u64 Q, Value.int IntKind.u64 G], Value.int .i64 (0 : Int), Value.int .i64 (0 : Int), Value.bool false, undef, undef, Value.slice (some ⟨g, o, none⟩) n c, Value.int .i64 (n : Int), Value.bool (decide ((64 : Int) < (n : Int))), undef, Value.agg (kl s.fst s.snd).toArray, Value.agg (kl ck.fst ck.snd).toArray, Value.agg (hdi (Value.slice none 0 0) (Value.slice none 0 0) 0 (0, 0) ck).toArray, Value.slice (some ⟨g, o, none⟩) n c, Value.int .i64 (n : Int), Value.int .i64 (k : Int), Value.bool true, Value.pointer (some ⟨g, o + k * 2, none⟩), Value.agg #[Value.int IntKind.i64 a, Value.int IntKind.i64 b], Value.tuple #[Value.agg (kl z.fst z.snd).toArray, Value.int IntKind.i64 0], Value.agg (kl p.fst p.snd).toArray, Value.agg #[Value.int IntKind.u8 K, Value.int IntKind.i64 D, Value.int IntKind.i64 E, Value.int IntKind.u64 P, Value.int IntKind.u64 Q, Value.int IntKind.u64 G], Value.agg #[Value.int IntKind.i64 a, Value.int IntKind.i64 b], Value.tuple #[Value.agg (kl z.fst z.snd).toArray, Value.int IntKind.i64 0], Value.agg (kl z.fst z.snd).toArray, Value.int .i64 (0 : Int), Value.int .i64 (0 : Int), Value.bool false, u44, u45, bif l 0 then Value.pointer (some ⟨hb, 0, none⟩) else u46, bif l 1 then v else u47, bif l 2 then Value.agg #[Value.int .i64 a, Value.int .i64 b] else u48, bif l 3 then Value.agg (kl z.1 z.2).toArray else u49, bif l 4 then Value.agg (kl s.1 s.2).toArray else u50, bif l 5 then Value.agg (kl q.1 q.2).toArray else u51, bif l 6 then Value.agg (lbl a b q).toArray else u52, bif l 7 then Value.slice (some ⟨gb, 0, none⟩) 1 1 else u53, bif l 8 then v2 else u54, bif l 9 then Value.pointer (some ⟨hb, 0, none⟩) else u55, u56, undef], defers := [] } ∧ (W10.grownBy w1 v.ownBlock) ∧ (l 8 = false → w1.ownsRow N 90 18 v k xs) ∧ (l 7 = true → l 8 = false → Blk w1 gb (lbl a b q).toArray 90) ∧ (l 8 = true → w1.ownsRow N 90 18 v2 (k + 1) (xs ++ (lbl a b q))) ∧ w' = (bif l 10 then w1.setCell ⟨hb, 0, none⟩ v2 else w1) ∧ (l 10 = true → (l 0 && l 1 && l 2 && l 3 && l 4 && l 5 && l 6 && l 7 && l 8 && l 9) = true)) ⟨v, 0, W10.drew, rfl, ⟨rfl, rfl, rfl, Nat.le_refl _, fun _ _ _ => rfl⟩, (fun _ => (HO10.out : W10.drew.ownsRow N 90 18 v k xs)), (fun h => by cases h), (fun h => by cases h), rfl, (fun h => by cases h)⟩ ?_ ?_
            · rintro l a' w' i ⟨v2, gb, w1, rfl, hG, cR, cS, cO, hw, oS⟩ hi' hli hpre
              have hi2 : i < 11 := hi'
              have hcase : i = 0 ∨ i = 1 ∨ i = 2 ∨ i = 3 ∨ i = 4 ∨ i = 5 ∨ i = 6 ∨ i = 7 ∨ i = 8 ∨ i = 9 ∨ i = 10 := by omega
              clear hi' hi2
              rcases hcase with rfl | rfl | rfl | rfl | rfl | rfl | rfl | rfl | rfl | rfl | rfl
              · -- 0: Op.fieldAddr 59 (Operand.tmp 11) 0
                refine wpOp_step rfl (fun K' hK => ?_)
                have nS : l 10 = false := by
                  cases h : l 10
                  · rfl
                  · have := oS h; simp [hli] at this
                rw [nS, cond_false] at hw
                subst hw
                clear hpre
                rw [if_pos (by rfl)]
                go_simp
                exact hK _ _ ⟨v2, gb, w', by simp [upd, Act.put], hG, (fun e0 => (cR (by simpa [upd] using e0))), (fun e0 e1 => (cS (by simpa [upd] using e0) (by simpa [upd] using e1))), (fun e0 => (cO (by simpa [upd] using e0))), by simp [upd, nS], (fun e => absurd e (by simp [upd, nS]))⟩
              · -- 1: Op.load 56 (Operand.tmp 46)
                have p0 : l 0 = true := hpre _ rfl ⟨0, .data⟩ (by simp) rfl
                refine wpOp_step rfl (fun K' hK => ?_)
                have nS : l 10 = false := by
                  cases h : l 10
                  · rfl
                  · have := oS h; simp [hli] at this
                rw [nS, cond_false] at hw
                subst hw
                simp only [p0, cond_true, cond_false]
                clear hpre
                rw [if_pos (by rfl)]
                have z1 : w'.cell? ⟨hb, 0, none⟩ = some v := Hdx.c0 (Blk.grown HB10.out.2.2.2.2.1 hG (Blk.apart HB10.out.2.2.2.2.1 HO10.out (by decide)))
                go_simp
                exact hK _ _ ⟨v2, gb, w', by simp [upd, Act.put, p0], hG, (fun e0 => (cR (by simpa [upd] using e0))), (fun e0 e1 => (cS (by simpa [upd] using e0) (by simpa [upd] using e1))), (fun e0 => (cO (by simpa [upd] using e0))), by simp [upd, nS], (fun e => absurd e (by simp [upd, nS]))⟩
              · -- 2: Op.load 35 (Operand.tmp 13)
                refine wpOp_step rfl (fun K' hK => ?_)
                have nS : l 10 = false := by
                  cases h : l 10
                  · rfl
                  · have := oS h; simp [hli] at this
                rw [nS, cond_false] at hw
                subst hw
                clear hpre
                rw [if_pos (by rfl)]
                refine wp_load_mid 56 _ rfl _ 0 rfl #[Value.int .i64 a, Value.int .i64 b].toList _ (Blk.grown HB10.out.2.2.2.2.2.1 hG (Blk.apart HB10.out.2.2.2.2.2.1 HO10.out (by decide))).range Try.underlying56 rfl sizeSub ?_
                exact hK _ _ ⟨v2, gb, w', by simp [upd, Act.put], hG, (fun e0 => (cR (by simpa [upd] using e0))), (fun e0 e1 => (cS (by simpa [upd] using e0) (by simpa [upd] using e1))), (fun e0 => (cO (by simpa [upd] using e0))), by simp [upd, nS], (fun e => absurd e (by simp [upd, nS]))⟩
              · -- 3: Op.load 23 (Operand.tmp 14)
                refine wpOp_step rfl (fun K' hK => ?_)
                have nS : l 10 = false := by
                  cases h : l 10
                  · rfl
                  · have := oS h; simp [hli] at this
                rw [nS, cond_false] at hw
                subst hw
                clear hpre
                rw [if_pos (by rfl)]
                refine wp_load_mid 26 _ rfl _ 0 rfl (kl z.1 z.2) _ (Kbx.at_ (Blk.grown HB10.out.2.2.2.2.2.2 hG (Blk.apart HB10.out.2.2.2.2.2.2 HO10.out (by decide)))) Try.underlying26 rfl (by rw [kl_len]; exact size23) ?_
                exact hK _ _ ⟨v2, gb, w', by simp [upd, Act.put], hG, (fun e0 => (cR (by simpa [upd] using e0))), (fun e0 e1 => (cS (by simpa [upd] using e0) (by simpa [upd] using e1))), (fun e0 => (cO (by simpa [upd] using e0))), by simp [upd, nS], (fun e => absurd e (by simp [upd, nS]))⟩
              · -- 4: Op.load 23 (Operand.tmp 7)
                refine wpOp_step rfl (fun K' hK => ?_)
                have nS : l 10 = false := by
                  cases h : l 10
                  · rfl
                  · have := oS h; simp [hli] at this
                rw [nS, cond_false] at hw
                subst hw
                clear hpre
                rw [if_pos (by rfl)]
                refine wp_load_mid 26 _ rfl _ 0 rfl (kl s.1 s.2) _ (Kbx.at_ (Blk.grown HB10.out.2.2.1 hG (Blk.apart HB10.out.2.2.1 HO10.out (by decide)))) Try.underlying26 rfl (by rw [kl_len]; exact size23) ?_
                exact hK _ _ ⟨v2, gb, w', by simp [upd, Act.put], hG, (fun e0 => (cR (by simpa [upd] using e0))), (fun e0 e1 => (cS (by simpa [upd] using e0) (by simpa [upd] using e1))), (fun e0 => (cO (by simpa [upd] using e0))), by simp [upd, nS], (fun e => absurd e (by simp [upd, nS]))⟩
              · -- 5: Op.call { callee := Callee.value (Operand.func 57), args := 
                have p3 : l 3 = true := hpre _ rfl ⟨3, .data⟩ (by simp) rfl
                have p4 : l 4 = true := hpre _ rfl ⟨4, .data⟩ (by simp) rfl
                refine wpOp_step rfl (fun K' hK => ?_)
                have nS : l 10 = false := by
                  cases h : l 10
                  · rfl
                  · have := oS h; simp [hli] at this
                rw [nS, cond_false] at hw
                subst hw
                simp only [p3, p4, cond_true, cond_false]
                clear hpre
                rw [if_pos (by rfl)]
                go_simp
                refine (HEn2.out _).mono ?_
                rintro e w5 ⟨rfl, hb5⟩
                exact hK _ _ ⟨v2, gb, w5, by simp [upd, Act.put, p3, p4], grownBy_below hG hb5, (fun e0 => own_below ((cR (by simpa [upd] using e0))) hb5), (fun e0 e1 => Blk.keep ((cS (by simpa [upd] using e0) (by simpa [upd] using e1))) hb5), (fun e0 => own_below ((cO (by simpa [upd] using e0))) hb5), by simp [upd, nS], (fun e => absurd e (by simp [upd, nS]))⟩
              · -- 6: Op.build 112 #[(0, Operand.tmp 48), (1, Operand.tmp 51)]
                have p2 : l 2 = true := hpre _ rfl ⟨2, .data⟩ (by simp) rfl
                have p5 : l 5 = true := hpre _ rfl ⟨5, .data⟩ (by simp) rfl
                refine wpOp_step rfl (fun K' hK => ?_)
                have nS : l 10 = false := by
                  cases h : l 10
                  · rfl
                  · have := oS h; simp [hli] at this
                rw [nS, cond_false] at hw
                subst hw
                simp only [p2, p5, cond_true, cond_false]
                clear hpre
                rw [if_pos (by rfl)]
                refine wp_buildItm _ _ rfl a b q rfl rfl ?_
                exact hK _ _ ⟨v2, gb, w', by simp [upd, Act.put, p2, p5], hG, (fun e0 => (cR (by simpa [upd] using e0))), (fun e0 e1 => (cS (by simpa [upd] using e0) (by simpa [upd] using e1))), (fun e0 => (cO (by simpa [upd] using e0))), by simp [upd, nS], (fun e => absurd e (by simp [upd, nS]))⟩
              · -- 7: Op.buildSlice 56 1 #[(0, Operand.tmp 52)]
                have p6 : l 6 = true := hpre _ rfl ⟨6, .data⟩ (by simp) rfl
                refine wpOp_step rfl (fun K' hK => ?_)
                have nS : l 10 = false := by
                  cases h : l 10
                  · rfl
                  · have := oS h; simp [hli] at this
                rw [nS, cond_false] at hw
                subst hw
                simp only [p6, cond_true, cond_false]
                clear hpre
                rw [if_pos (by rfl)]
                refine wp_buildSliceI _ rfl rfl ?_
                exact hK _ _ ⟨v2, w'.heap.size, w'.alloc (.cells (lbl a b q).toArray 90), by simp [upd, Act.put, p6], grownBy_below hG (below_alloc _ _), (fun e0 => own_below ((cR (by simpa [upd] using e0))) (below_alloc _ _)), (fun _ _ => Blk.new w' _ 90), (fun e0 => own_below ((cO (by simpa [upd] using e0))) (below_alloc _ _)), by simp [upd, nS], (fun e => absurd e (by simp [upd, nS]))⟩
              · -- 8: Op.call { callee := Callee.builtin Builtin.append, args := #
                have p1 : l 1 = true := hpre _ rfl ⟨1, .data⟩ (by simp) rfl
                have p7 : l 7 = true := hpre _ rfl ⟨7, .data⟩ (by simp) rfl
                have p5 : l 5 = true := hpre _ rfl ⟨5, .chain⟩ (by simp) rfl
                refine wpOp_step rfl (fun K' hK => ?_)
                have nS : l 10 = false := by
                  cases h : l 10
                  · rfl
                  · have := oS h; simp [hli] at this
                rw [nS, cond_false] at hw
                subst hw
                have n8 : l 8 = false := hli
                have hBk := cS p7 n8
                simp only [p1, p7, p5, cond_true, cond_false]
                clear hpre
                rw [if_pos (by rfl)]
                refine wp_append_own _ _ _ 22 rfl N 90 i0 _ 18 32 Try.underlying22 HI.out.1 HI.out.2.1 HI.out.2.2.1 HI.out.2.2.2 rfl (by omega) v k xs rfl (cR n8) ⟨gb, 0, none⟩ 1 1 (lbl a b q) rfl (by rw [lbl_len]) (fun j u hu => by rw [Addr.add_mid, Nat.zero_add, hBk.cell j]; simpa using hu) (lbl_one _ _ _) (by unfold maxLen; omega) (by omega) (Nat.le_trans HS10.out.2.1 hG.size) ?_
                intro v1 w6 hown6 hg6 _
                exact hK _ _ ⟨v1, gb, w6, by simp [upd, Act.put, p1, p7, p5], grownBy_trans hG hg6, (fun e0 => absurd e0 (by simp [upd])), (fun e0 e1 => absurd e1 (by simp [upd])), (fun _ => hown6), by simp [upd, nS], (fun e => absurd e (by simp [upd, nS]))⟩
              · -- 9: Op.fieldAddr 59 (Operand.tmp 11) 0
                have p0 : l 0 = true := hpre _ rfl ⟨0, .phase⟩ (by simp) rfl
                have p1 : l 1 = true := hpre _ rfl ⟨1, .phase⟩ (by simp) rfl
                have p2 : l 2 = true := hpre _ rfl ⟨2, .phase⟩ (by simp) rfl
                have p3 : l 3 = true := hpre _ rfl ⟨3, .phase⟩ (by simp) rfl
                have p4 : l 4 = true := hpre _ rfl ⟨4, .phase⟩ (by simp) rfl
                have p5 : l 5 = true := hpre _ rfl ⟨5, .phase⟩ (by simp) rfl
                have p6 : l 6 = true := hpre _ rfl ⟨6, .phase⟩ (by simp) rfl
                have p7 : l 7 = true := hpre _ rfl ⟨7, .phase⟩ (by simp) rfl
                have p8 : l 8 = true := hpre _ rfl ⟨8, .phase⟩ (by simp) rfl
                refine wpOp_step rfl (fun K' hK => ?_)
                have nS : l 10 = false := by
                  cases h : l 10
                  · rfl
                  · have := oS h; simp [hli] at this
                rw [nS, cond_false] at hw
                subst hw
                simp only [p0, p1, p2, p3, p4, p5, p6, p7, p8, cond_true, cond_false]
                clear hpre
                rw [if_pos (by rfl)]
                go_simp
                exact hK _ _ ⟨v2, gb, w', by simp [upd, Act.put, p0, p1, p2, p3, p4, p5, p6, p7, p8], hG, (fun e0 => (cR (by simpa [upd] using e0))), (fun e0 e1 => (cS (by simpa [upd] using e0) (by simpa [upd] using e1))), (fun e0 => (cO (by simpa [upd] using e0))), by simp [upd, nS], (fun e => absurd e (by simp [upd, nS]))⟩
              · -- 10: Op.store 56 (Operand.tmp 55) (Operand.tmp 54)
                have p9 : l 9 = true := hpre _ rfl ⟨9, .data⟩ (by simp) rfl
                have p8 : l 8 = true := hpre _ rfl ⟨8, .data⟩ (by simp) rfl
                have p0 : l 0 = true := hpre _ rfl ⟨0, .phase⟩ (by simp) rfl
                have p1 : l 1 = true := hpre _ rfl ⟨1, .phase⟩ (by simp) rfl
                have p2 : l 2 = true := hpre _ rfl ⟨2, .phase⟩ (by simp) rfl
                have p3 : l 3 = true := hpre _ rfl ⟨3, .phase⟩ (by simp) rfl
                have p4 : l 4 = true := hpre _ rfl ⟨4, .phase⟩ (by simp) rfl
                have p5 : l 5 = true := hpre _ rfl ⟨5, .phase⟩ (by simp) rfl
                have p6 : l 6 = true := hpre _ rfl ⟨6, .phase⟩ (by simp) rfl
                have p7 : l 7 = true := hpre _ rfl ⟨7, .phase⟩ (by simp) rfl
                refine wpOp_step rfl (fun K' hK => ?_)
                have nS : l 10 = false := hli
                rw [nS, cond_false] at hw
                subst hw
                simp only [p9, p8, p0, p1, p2, p3, p4, p5, p6, p7, cond_true, cond_false]
                clear hpre
                rw [if_pos (by rfl)]
                have hS3 := (Blk.grown HB10.out.2.2.2.2.1 hG (Blk.apart HB10.out.2.2.2.2.1 HO10.out (by decide)))
                have z1 := Hdx.c0 hS3
                have z2 := hS3.fr 0
                have c6 := cO p8
                obtain ⟨A6, d6, hv6⟩ := own_val c6
                subst hv6
                go_simp
                exact hK _ _ ⟨_, gb, w', by simp [upd, Act.put, p9, p8, p0, p1, p2, p3, p4, p5, p6, p7], hG, (fun e0 => (cR (by simpa [upd] using e0))), (fun e0 e1 => (cS (by simpa [upd] using e0) (by simpa [upd] using e1))), (fun _ => c6), by simp [upd], (fun _ => by simp [upd, p9, p8, p0, p1, p2, p3, p4, p5, p6, p7])⟩
            · rintro l a' w9 hall ⟨v2, gb, w1, rfl, hG, cR, cS, cO, hw, oS⟩
              rw [hall 10 (by decide), cond_true] at hw
              subst hw
              clear cR
              clear cS
              replace cO := cO (hall 8 (by decide))
              simp only [hall 0 (by decide), hall 1 (by decide), hall 2 (by decide), hall 3 (by decide), hall 4 (by decide), hall 5 (by decide), hall 6 (by decide), hall 7 (by decide), hall 8 (by decide), hall 9 (by decide), cond_true]
              clear hall oS
              have H9 := Lib.hid (app_hdr HB10.out.2.2.2.2.1 HO10.out hG cO HS10.out.2.1 (by have := HHB.out; omega))
              obtain ⟨W9, hW9⟩ : ∃ W9, W9 = w1.setCell ⟨hb, 0, none⟩ v2 := ⟨_, rfl⟩
              rw [← hW9] at H9
              rw [← hW9]
              clear hW9 hG cO
              go_wp2_with fail
              go_roundw
              case rel =>
                obtain ⟨j1, j2, j4, j5⟩ := H9.out
                have q1 := HHB.out
                exact ⟨k + 1, v2, by omega, by go_num, Lib.hid (by rw [HSn.out]; exact j2), HAy, Lib.hid ⟨j5 _ _ _ (by omega) (by decide) HB10.out.1, j5 _ _ _ (by omega) (by decide) HB10.out.2.1, j5 _ _ _ (by omega) (by decide) HB10.out.2.2.1, j5 _ _ _ (by omega) (by decide) HB10.out.2.2.2.1, j1⟩, Lib.hid ⟨HS10.out.1.trans j4, Nat.le_trans HS10.out.2.2 j4.size⟩⟩
              case measure => simp [intOf]; omega
        · obtain rfl : k = n := by omega
          have HC : Hid (slc K D E P Q G k f = 0) := Lib.hid (by
            have h1 : sla K D f k = true := by
              unfold sla
              rw [List.all_eq_true]
              intro j hj
              exact HA.out j (List.mem_range.1 hj)
            unfold slc; rw [HSb.out, if_pos rfl, if_neg (by have := HN64.out; omega), h1]; rfl)
          obtain ⟨A2, k2, hv2⟩ := own_val HO.out
          subst hv2
          have hth : wr.there (N + 3) 0 35 := Hdx.there HB.out.2.2.2.1
          have HF : Hid (Hdx (wr.setCells (N + 3) 0 (hdi (.slice A2 k k2) (.slice none 0 0) 0 (0, 0) ck)) (N + 3) (.slice A2 k k2) (.slice none 0 0) 0 (0, 0) ck ∧ Below N w (wr.setCells (N + 3) 0 (hdi (.slice A2 k k2) (.slice none 0 0) 0 (0, 0) ck)) ∧ (wr.setCells (N + 3) 0 (hdi (.slice A2 k k2) (.slice none 0 0) 0 (0, 0) ck)).ownsRow N 90 18 (.slice A2 k k2) k (lbF (slG p s K D E P Q G f) k)) := Lib.hid ⟨Hdx.stored HB.out.2.2.2.1 Hdx.size _ _ _ _ _, below_setCells _ _ _ _ HS.out.1 (by omega), own_setCells _ _ HO.out (Blk.apart HB.out.2.2.2.1 HO.out (by decide))⟩
          have l3 : ¬ ((k : Int) < (k : Int)) := by omega
          go_wp2_with (first
            | ((with_reducible show wpList _ _ _ (Oper.mk _ (Op.load 28 _) _ _ _ _ :: _) _ _); refine wpList_load_hdi rfl _ rfl _ rfl _ _ _ _ _ HB.out.2.2.2.2 ?_)
            | ((with_reducible show wpList _ _ _ (Oper.mk _ (Op.store 28 _ _) _ _ _ _ :: _) _ _); refine wpList_store_hdi rfl _ _ rfl _ _ _ _ _ _ rfl rfl rfl rfl hth ?_))
          exact bodyPost_ret (results_hdi rfl _ _ (N + 3) (.slice A2 k k2) (.slice none 0 0) 0 (0, 0) ck _ rfl rfl HF.out.1) rfl ⟨SlE.good (.slice A2 k k2) HC.out (by first | (rw [← HCK.out]; done) | (rw [← HCK.out]; rfl)) HF.out.2.2, HF.out.2.1⟩
  · have hsc := scc_no h
    rw [hsc]
    have H3 := Lib.hid (HEND.out w5 HB5.out.2.1 ⟨_, HB5.out.2.2.2.2.2, Hdx.size⟩)
    have HC : Hid (slc K D E P Q G n f = 30) := Lib.hid (by unfold slc; rw [scb_no h]; rfl)
    clear h hsc
    go_wp2_with (first
      | ((with_reducible show wpList _ _ _ (Oper.mk _ (Op.build 28 _) _ _ _ _ :: _) _ _); refine wpList_buildHd0 rfl rfl ?_)
      | ((with_reducible show wpList _ _ _ (Oper.mk _ (Op.store 28 _ _) _ _ _ _ :: _) _ _); refine wpList_store_hdi rfl _ _ rfl (N + 3) _ _ _ _ _ rfl rfl rfl rfl H3.out.2.2 ?_))
    exact bodyPost_ret (results_hdi rfl _ _ (N + 3) (.slice none 0 0) (.slice none 0 0) 0 (0, 0) (0, 0) _ rfl rfl H3.out.1) rfl ⟨SlE.bad 30 HC.out (by decide) rfl, H3.out.2.1⟩
end Go.Proofs.Ytchkgccnipejhaa

/-
  Seal, the specification's.
-/
namespace Go.Proofs.Ytchkgccnipejhaa
open Go.RowKit TR L2 L2.SP
set_option linter.unusedVariables false
set_option linter.unusedSimpArgs false

theorem below_cell2 {w w' : World} {g x y : Nat} {u v : Value} (hb : Below w.heap.size w w') (h : w.cell? ⟨g, x, none⟩ = some u ∧ w.cell? ⟨g, y, none⟩ = some v) : w'.cell? ⟨g, x, none⟩ = some u ∧ w'.cell? ⟨g, y, none⟩ = some v :=
  ⟨(hb.cell (p := ⟨g, x, none⟩) (World.block_lt_of_cell? w _ h.1)).trans h.1, (hb.cell (p := ⟨g, y, none⟩) (World.block_lt_of_cell? w _ h.2)).trans h.2⟩

end Go.Proofs.Ytchkgccnipejhaa
