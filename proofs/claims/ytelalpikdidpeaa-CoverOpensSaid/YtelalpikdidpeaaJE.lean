/-
  Texts joined into one: SecF, SecG, SecH, SecI, SecJ.
-/
import Derived.Test.YtelalpikdidpeaaJC
import Derived.Test.YtelalpikdidpeaaJD
import Derived.Great.BuildSlice
import Derived.Laws.StructEq

/-
  Receivers; lists of labels; secrets in memory.
-/
namespace Go.Proofs.Ytelalpikdidpeaa
open Go.RowKit TR L2 L2.SP
set_option linter.unusedVariables false
set_option linter.unusedSimpArgs false

/-- Whether a number is a receiver. -/
def isr (D u : Int) : Bool := decide (0 ≤ u ∧ u < ((2 ^ D.toNat : Nat) : Int))

set_option maxRecDepth 100000 in
set_option maxHeartbeats 800000 in
theorem isReceiver_any (K D E u : Int) (P Q G : Nat) (w : World) (d1 : 0 ≤ D) (d2 : D ≤ 6) :
    Calls Try.prog 42 #[.agg #[.int .u8 K, .int .i64 D, .int .i64 E, .int .u64 (P : Int), .int .u64 (Q : Int), .int .u64 (G : Int)], .int .i64 u] w fun e w' => e = .returned (.bool (isr D u)) ∧ Below w.heap.size w w' := by
  by_cases hu : 0 ≤ u ∧ u < ((2 ^ D.toNat : Nat) : Int)
  · have H : Hid (isr D u = true) := Lib.hid (decide_eq_true hu)
    obtain ⟨u1, u2⟩ := hu
    rcases (by omega : D = 0 ∨ D = 1 ∨ D = 2 ∨ D = 3 ∨ D = 4 ∨ D = 5 ∨ D = 6) with rfl | rfl | rfl | rfl | rfl | rfl | rfl
    all_goals
      (simp only [Int.reduceToNat, Nat.reducePow, Int.cast_ofNat_Int] at u2)
      go_enter Try.func42, Try.ntmps42
      go_wp2
      go_ret
      exact ⟨by rw [H.out]; first | rfl | (simp; done) | (simp; omega), by first | exact (Below.refl _ _).alloc (Nat.le_refl _) _ | exact Below.refl _ _⟩
  · have H : Hid (isr D u = false) := Lib.hid (decide_eq_false hu)
    rcases (by omega : u < 0 ∨ (0 ≤ u ∧ ((2 ^ D.toNat : Nat) : Int) ≤ u)) with u1 | ⟨u1, u2⟩
    · clear hu
      go_enter Try.func42, Try.ntmps42
      go_wp2
      go_ret
      exact ⟨by rw [H.out]; first | rfl | (simp; done) | (simp; omega), by first | exact (Below.refl _ _).alloc (Nat.le_refl _) _ | exact Below.refl _ _⟩
    · clear hu
      rcases (by omega : D = 0 ∨ D = 1 ∨ D = 2 ∨ D = 3 ∨ D = 4 ∨ D = 5 ∨ D = 6) with rfl | rfl | rfl | rfl | rfl | rfl | rfl
      all_goals
        (simp only [Int.reduceToNat, Nat.reducePow, Int.cast_ofNat_Int] at u2)
        go_enter Try.func42, Try.ntmps42
        go_wp2
        go_ret
        exact ⟨by rw [H.out]; first | rfl | (simp; done) | (simp; omega), by first | exact (Below.refl _ _).alloc (Nat.le_refl _) _ | exact Below.refl _ _⟩

set_option maxRecDepth 100000 in
set_option maxHeartbeats 400000 in
theorem refReceiver_any (d : Nat) (u : Int) (w : World) (hd : d < 7) :
    Calls Try.prog 46 #[.int .i64 (d : Int), .int .i64 u] w fun e w' => e = .returned (.bool (isr (d : Int) u)) ∧ Below w.heap.size w w' := by
  have HR := Lib.hid (fun w => receivers_any d w hd)
  have HF : Hid (isr (d : Int) u = decide (0 ≤ u ∧ u < ((2 ^ d : Nat) : Int))) := Lib.hid (by unfold isr; rw [Int.toNat_natCast])
  have h64 := p64 hd
  generalize 2 ^ d = T at HR HF h64
  by_cases h1 : 0 ≤ u
  · by_cases h2 : u < (T : Int)
    all_goals
      go_enter Try.func46, Try.ntmps46
      go_wp2_with fail
      refine (HR.out _).mono ?_
      rintro e1 w' ⟨rfl, rfl⟩
      go_wp2_with fail
      go_ret
      exact ⟨by rw [HF.out]; first | rfl | (simp [h1, h2]; done) | (simp; omega), Below.refl _ _⟩
  · have h2 : u < 0 := by omega
    go_enter Try.func46, Try.ntmps46
    go_wp2_with fail
    go_ret
    exact ⟨by rw [HF.out]; first | rfl | (simp [h1]; done) | (simp; omega), Below.refl _ _⟩

/-- The cells of a list of labels. -/
def lbs (K : Int) (p : Nat × Nat) (ps : List (Nat × Nat)) : List Value := ps.flatMap fun t => lbl (t.1 : Int) (t.2 : Int) (sky K p t.1 t.2)
theorem lbs_snoc (K : Int) (p : Nat × Nat) (ps : List (Nat × Nat)) (t : Nat × Nat) : lbs K p (ps ++ [t]) = lbs K p ps ++ lbl (t.1 : Int) (t.2 : Int) (sky K p t.1 t.2) := by unfold lbs; rw [List.flatMap_append]; simp
theorem isb_facts {K : Int} {d a b : Nat} (h : isb K d (a : Int) (b : Int) = true) (hK : K ≠ 1) (hb : b ≠ 0) : abv a b = true := by
  have hb1 : ¬ ((b : Int) = 0) := by omega
  unfold isb at h
  rw [if_neg hK, if_neg hb1] at h
  simp only [Bool.and_eq_true, Int.toNat_natCast] at h
  exact h.2.2.2.1
/-- A pair of nodes that a label may have. -/
def PrOk (K : Int) (t : Nat × Nat) : Prop := 1 ≤ t.1 ∧ t.1 < 256 ∧ t.2 < 256 ∧ (K ≠ 1 → t.2 ≠ 0 → abv t.1 t.2 = true)
theorem plc_ok (K : Int) (d r : Nat) (hd : d < 7) (hr : r < 2 ^ d) : ∀ t ∈ plc K d (2 ^ d + r), PrOk K t := by
  have h64 := p64 hd
  have hl := leaf_lv hd hr
  have hno : ∀ l, l ≤ d → 1 ≤ nat_ (2 ^ d + r) l ∧ nat_ (2 ^ d + r) l < 128 := fun l h => by
    have h1 := nat_ok (2 ^ d + r) l (by omega) (by omega) (by rw [hl]; exact h)
    omega
  intro t ht
  unfold plc plf at ht
  rw [hl] at ht
  rcases List.mem_append.1 ht with h | h
  · unfold pre0 at h
    split at h
    · simp at h
    · simp at h; subst h; exact ⟨by simp, by simp, by simp, fun _ h => absurd rfl h⟩
  · obtain ⟨l, hl1, hl2⟩ := List.mem_flatMap.1 h
    have hld : l ≤ d := by have := List.mem_range.1 hl1; omega
    unfold rowl at hl2
    split at hl2
    · simp at hl2; subst hl2
      exact ⟨(hno l hld).1, by have := (hno l hld).2; omega, by simp, fun _ h => absurd rfl h⟩
    · unfold rin at hl2
      obtain ⟨h1, h2⟩ := List.mem_filter.1 hl2
      obtain ⟨i, hi, rfl⟩ := List.mem_map.1 h1
      have hi1 := List.mem_range.1 hi
      rw [hl] at hi1
      have hx := (hno (l + 1 + i) (by omega)).2
      have hx2 : nat_ (2 ^ d + r) (l + 1 + i) ^^^ 1 < 128 := Nat.xor_lt_two_pow (n := 7) hx (by decide)
      exact ⟨(hno l hld).1, by have := (hno l hld).2; show _ < 256; omega, by show _ < 256; omega, fun hK hb => isb_facts h2 hK hb⟩
theorem plc_len (K : Int) (d r : Nat) (hd : d < 7) (hr : r < 2 ^ d) : (plc K d (2 ^ d + r)).length ≤ 64 := by
  have hl := leaf_lv hd hr
  have h := plf_len K d (2 ^ d + r) (by omega) (List.range (lv (2 ^ d + r) + 1))
  unfold plc
  rw [List.length_range, hl] at h
  rw [hl]
  omega
/-- The cells of a secret. -/
abbrev sc4 (r : Int) (v : Value) : Array Value := #[.int .i64 r, v, .int .u64 0, .int .u64 0]
theorem sizeSec : (Try.prog.info? 33).map (·.size) = some 4 := by kernel_rfl
theorem infoLabs : (Try.prog.info? 88).map (fun i => (i.zero, i.size, i.bytes)) = some (some (.agg lz18), 18, 32) := infoLab
/-- What stands behind 'c.Labels = append(c.Labels, ..)' where c lies in a block. -/
theorem app_sec {W w1 : World} {N sb n m : Nat} {r : Int} {v v2 : Value} {xs ys : List Value} (hv : Blk W sb (sc4 r v) 33) (hrow : W.ownsRow N 88 18 v n xs) (hg : W.grownBy w1 v.ownBlock)
    (ho : w1.ownsRow N 88 18 v2 m ys) (hN : N ≤ W.heap.size) (hlb : N ≤ sb) :
    Blk (w1.setCell ⟨sb, 1, none⟩ v2) sb (sc4 r v2) 33 ∧ (w1.setCell ⟨sb, 1, none⟩ v2).ownsRow N 88 18 v2 m ys ∧ Below N W (w1.setCell ⟨sb, 1, none⟩ v2) ∧
      (∀ b cs t, b ≠ sb → 88 ≠ t → Blk W b cs t → Blk (w1.setCell ⟨sb, 1, none⟩ v2) b cs t) := by
  have hv1 : Blk w1 sb (sc4 r v) 33 := hv.grown hg (hv.apart hrow (by decide))
  refine ⟨?_, ownsRow_setCell_other ho (Ne.symm (hv1.apart ho (by decide))) _, ((Below.refl N W).grown hg hN (fun b hb => own_block hrow hb.symm)).setCell (p := ⟨sb, 1, none⟩) hlb _, fun b cs t h1 h2 h3 => (h3.grown hg (h3.apart hrow h2)).other (fun e => h1 e.symm) _⟩
  have h := Blk.set1 hv1 1 v2
  exact h
/-- The error of Secret. -/
def secc (K D E : Int) (P Q G : Nat) (u : Int) : Int := if scb K D E P Q G then (if isr D u then 0 else 2) else 30
end Go.Proofs.Ytelalpikdidpeaa

/-
  Secret, the program's.
-/
namespace Go.Proofs.Ytelalpikdidpeaa
open Go.RowKit TR L2 L2.SP
set_option linter.unusedVariables false
set_option linter.unusedSimpArgs false

theorem wpList_store_sec {ops : Array Oper} {rest : List Oper} {op : Oper} {a : Act} {w : World} {Q : Exit → Act → World → Prop} (hgd : op.guard = none) (x y : Operand) (ho : op.op = .store 33 x y)
    (b : Nat) (r : Int) (v : Value) (hx : a.eval x = .pointer (some ⟨b, 0, none⟩)) (hy : a.eval y = .agg (sc4 r v)) (hv : v.oneCell' = true) (ht : w.there b 0 4)
    (h : wpList Try.prog ops Q rest (a.put op.dst undef) (w.setCells b 0 (sc4 r v).toList)) : wpList Try.prog ops Q (op :: rest) a w :=
  wpList_store_mid hgd 33 x y ho b 0 (sc4 r v) hx hy ht sizeSec (by simp [hv]; exact ⟨rfl, rfl⟩) h
theorem wpList_load_sec {ops : Array Oper} {rest : List Oper} {op : Oper} {a : Act} {w : World} {Q : Exit → Act → World → Prop} (hgd : op.guard = none) (x : Operand) (ho : op.op = .load 33 x)
    (b : Nat) (hx : a.eval x = .pointer (some ⟨b, 0, none⟩)) (r : Int) (v : Value) (hc : Blk w b (sc4 r v) 33)
    (h : wpList Try.prog ops Q rest (a.put op.dst (.agg (sc4 r v))) w) : wpList Try.prog ops Q (op :: rest) a w :=
  wpList_load_mid hgd 33 x ho b 0 hx (sc4 r v).toList _ hc.range Try.underlying33 rfl sizeSec (by simpa using h)
theorem results_sec {fn : Func} {r s : Tmp} (h : fn.results = #[.cell r 33, .tmp s]) (tmps : Array Value) (w : World) (b : Nat) (u : Int) (v e : Value)
    (hp : tmps.getD r undef = .pointer (some ⟨b, 0, none⟩)) (hs : tmps.getD s undef = e) (hc : Blk w b (sc4 u v) 33) : (results fn tmps).run Try.prog w = .ok (.tuple #[.agg (sc4 u v), e]) w := by
  have hp' : tmps[r]?.getD undef = .pointer (some ⟨b, 0, none⟩) := by simpa using hp
  have hs' : tmps[s]?.getD undef = e := by simpa using hs
  simp [results, h, hp', hs', asAddr, run_loadVar_mid w b 0 33 (sc4 u v).toList _ hc.range Try.underlying33 rfl sizeSec]
theorem results_sec1 {fn : Func} {r : Tmp} (h : fn.results = #[.cell r 33]) (tmps : Array Value) (w : World) (b : Nat) (u : Int) (v : Value)
    (hp : tmps.getD r undef = .pointer (some ⟨b, 0, none⟩)) (hc : Blk w b (sc4 u v) 33) : (results fn tmps).run Try.prog w = .ok (.agg (sc4 u v)) w := by
  have hp' : tmps[r]?.getD undef = .pointer (some ⟨b, 0, none⟩) := by simpa using hp
  simp [results, h, hp', asAddr, run_loadVar_mid w b 0 33 (sc4 u v).toList _ hc.range Try.underlying33 rfl sizeSec]
theorem own_blk {w : World} {B e s n : Nat} {v : Value} {xs : List Value} (h : w.ownsRow B e s v n xs) (hn : 0 < n) : ∃ g c cur, v = .slice (some ⟨g, 0, none⟩) n c ∧ B ≤ g ∧ n ≤ c ∧ c ≤ maxLen ∧ Blk w g cur e ∧ ∀ (i : Nat) (x : Value), xs[i]? = some x → cur[i]? = some x := by
  rcases h.2 with ⟨_, h0⟩ | ⟨g, cap, cur, hv, hb, hg, hnc, hcm, hcs, ht⟩
  · omega
  · refine ⟨g, cap, cur, hv, hb, hnc, hcm, hg, fun i x hx => ?_⟩
    have hl := h.1
    rw [← ht] at hx
    have hi : i < n * s := by
      have := (List.getElem?_eq_some_iff.1 hx).1
      simp at this; omega
    rw [List.getElem?_take, if_pos hi] at hx
    simpa using hx
theorem own_setCells {B e s n b : Nat} {v : Value} {xs : List Value} : ∀ (vs : List Value) (o : Nat) {w : World}, w.ownsRow B e s v n xs → some b ≠ v.ownBlock → (w.setCells b o vs).ownsRow B e s v n xs
  | [], _, _, h, _ => h
  | u :: r, o, w, h, hne => by rw [World.setCells]; exact own_setCells r (o + 1) (ownsRow_setCell_other h (Ne.symm hne) u) hne
theorem fillLab (v z : Int) (p : Nat × Nat) : Instr.fill (fun i => some (i * 18, 18)) ((Array.range (1 * 18)).map ((Value.agg lz18).cells[· % (Value.agg lz18).cells.size]!)) [(0, .agg (lbl v z p).toArray)] = some (lbl v z p).toArray := by kernel_rfl
theorem wp_buildSlice1 {op : Oper} {a : Act} {w : World} {K : Act → World → Prop} {Q : Exit → Act → World → Prop} (x : Operand) {v z : Int} {p : Nat × Nat} (ho : op.op = .buildSlice 29 1 #[(0, x)]) (hx : a.eval x = .agg (lbl v z p).toArray)
    (h : K (a.put op.dst (.slice (some ⟨w.heap.size, 0, none⟩) 1 1)) (w.alloc (.cells (lbl v z p).toArray 88))) : op.wp Try.prog a w K Q := by
  obtain ⟨i0, hi, hz0, hz1, hz2⟩ := info_parts infoLab
  exact wp_buildSlice 29 88 1 #[(0, x)] ho (lbl v z p).toArray i0 _ Try.underlying29 hi hz0 (by rw [hz1]; decide) (by rw [hz1]; decide) (by rw [hz1]; simp only [List.map_toArray, List.map_cons, List.map_nil, hx]; exact fillLab v z p) h
theorem plc_pos (K : Int) (d y : Nat) : 0 < (plc K d y).length := by
  unfold plc plf
  rw [List.length_append]
  by_cases h : K = 1
  · rw [List.range_succ, List.flatMap_append, List.length_append]
    have : (rowl K d y (lv y)).length = 1 := by unfold rowl; rw [if_pos h]; rfl
    simp only [List.flatMap_cons, List.flatMap_nil, List.append_nil]
    omega
  · unfold pre0; rw [if_neg h, List.length_cons]; omega
theorem sec_one (w : World) (A : Option Addr) (m c : Nat) : (Value.slice A m c).oneCell' = true := rfl

end Go.Proofs.Ytelalpikdidpeaa

/-
  SecretOf, the specification's.
-/
namespace Go.Proofs.Ytelalpikdidpeaa
open Go.RowKit TR L2 L2.SP
set_option linter.unusedVariables false
set_option linter.unusedSimpArgs false

theorem plc_k1 (d y : Nat) : ∀ t ∈ plc 1 d y, t.2 = 0 := by
  intro t ht
  unfold plc plf at ht
  rcases List.mem_append.1 ht with h | h
  · unfold pre0 at h; simp at h
  · obtain ⟨l, _, hl2⟩ := List.mem_flatMap.1 h
    unfold rowl at hl2
    rw [if_pos rfl] at hl2
    simp at hl2; subst hl2; rfl

end Go.Proofs.Ytelalpikdidpeaa

/-
  Secret, the specification's.
-/
namespace Go.Proofs.Ytelalpikdidpeaa
open Go.RowKit TR L2 L2.SP
set_option linter.unusedVariables false
set_option linter.unusedSimpArgs false

end Go.Proofs.Ytelalpikdidpeaa

/-
  Equal secrets.
-/
namespace Go.Proofs.Ytelalpikdidpeaa
open Go.RowKit TR L2 L2.SP
set_option linter.unusedVariables false
set_option linter.unusedSimpArgs false

theorem eqkey_self (d : Nat) (p : Nat × Nat) (w : World) : (Op.equalIn (d + 2) 23 (.agg (kl p.1 p.2).toArray) (.agg (kl p.1 p.2).toArray)).run Try.prog w = .ok true w := by
  obtain ⟨i, hi⟩ := info5'
  rw [show d + 2 = (d + 1) + 1 from rfl, run_equalIn_array w (d + 1) _ _ Try.underlying23 hi, cells5, eqItems_key d p.1 p.2 p.1 p.2 w _ (fun j hj => by simpa using hj)]
  simp
theorem lbl_take (v x : Int) (p : Nat × Nat) : List.take 16 (List.drop 2 (lbl v x p)) = kl p.1 p.2 := by
  unfold lbl
  exact List.take_of_length_le (by simp [kl_len])
theorem partLab0 (v x : Int) (p : Nat × Nat) (w : World) : (part 3 (lbl v x p).toArray 0).run Try.prog w = .ok (.int .i64 v) w := by
  simp [part, isAgg, Sem.run_bind, run_underlying Try.underlying3 w, lbl, go_sem]
theorem partLab1 (v x : Int) (p : Nat × Nat) (w : World) : (part 3 (lbl v x p).toArray 1).run Try.prog w = .ok (.int .i64 x) w := by
  simp [part, isAgg, Sem.run_bind, run_underlying Try.underlying3 w, lbl, go_sem]
theorem infoKey : ∃ i, Try.prog.info? 23 = some i ∧ i.size = 16 := by
  have h := size23
  cases h1 : Try.prog.info? 23 with
  | none => rw [h1] at h; cases h
  | some i => rw [h1] at h; exact ⟨i, rfl, by simpa using h⟩
theorem partLab2 (v x : Int) (p : Nat × Nat) (w : World) : (part 23 (lbl v x p).toArray 2).run Try.prog w = .ok (.agg (kl p.1 p.2).toArray) w := by
  obtain ⟨i, hi, hs⟩ := infoKey
  simp [part, isAgg, Sem.run_bind, run_underlying Try.underlying23 w, sizeOf, typeInfo, hi, hs]
  exact lbl_take v x p
theorem labFields : (Try.prog.fieldsOf 88).toList.map (fun f => (decide (f.name ≠ "_"), f.type, f.offset)) = [(true, 3, 0), (true, 3, 1), (true, 23, 2)] := by kernel_rfl
theorem eqlab_self (v x : Int) (p : Nat × Nat) (w : World) : (Op.equalIn 10000 88 (.agg (lbl v x p).toArray) (.agg (lbl v x p).toArray)).run Try.prog w = .ok true w := by
  have hf := labFields
  rw [show (10000 : Nat) = 9999 + 1 from rfl, run_equalIn_struct w 9999 88 _ _ (by kernel_rfl) (by kernel_rfl)]
  generalize (Try.prog.fieldsOf 88).toList = fs at hf
  obtain ⟨f0, f1, f2, rfl⟩ : ∃ f0 f1 f2, fs = [f0, f1, f2] := by
    have hl : fs.length = 3 := by have h := congrArg List.length hf; simpa using h
    match fs, hl with
    | [f0, f1, f2], _ => exact ⟨f0, f1, f2, rfl⟩
  simp only [List.map_cons, List.map_nil, List.cons.injEq, Prod.mk.injEq, decide_eq_true_eq, and_true] at hf
  obtain ⟨⟨n0, t0, o0⟩, ⟨n1, t1, o1⟩, n2, t2, o2⟩ := hf
  have hk : (Op.equalIn 9999 23 (.agg (kl p.1 p.2).toArray) (.agg (kl p.1 p.2).toArray)).run Try.prog w = .ok true w := eqkey_self 9997 p w
  have hi1 : ∀ a : Int, (Op.equalIn 9999 3 (.int .i64 a) (.int .i64 a)).run Try.prog w = .ok true w := fun a => by
    have h := run_equalIn_int (P := Try.prog) w 9998 3 .i64 .i64 a a Try.underlying3
    simpa using h
  simp [Op.eqFields, n0, n1, n2, t0, t1, t2, o0, o1, o2, partLab0, partLab1, partLab2, hi1, hk]
theorem run_neq_lab (v z : Int) (p : Nat × Nat) (w : World) : (binOp .neq 88 (.agg (lbl v z p).toArray) (.agg (lbl v z p).toArray)).run Try.prog w = .ok (.bool false) w := by
  have h := eqlab_self v z p w
  simp only [binOp, Op.equal, Op.maxDepth, Sem.run_bind, h, Result.andThen_ok, Sem.run_pure, Bool.not_true]
theorem wp_neq_lab {op : Oper} {a : Act} {w : World} {K : Act → World → Prop} {Q : Exit → Act → World → Prop} (x y : Operand) (ho : op.op = .binOp .neq 88 x y 88) (v z : Int) (p : Nat × Nat) (hx : a.eval x = .agg (lbl v z p).toArray) (hy : a.eval y = .agg (lbl v z p).toArray)
    (h : K (a.put op.dst (.bool false)) w) : op.wp Try.prog a w K Q := by
  have hg : (eqGuard .neq 88 x y (.agg (lbl v z p).toArray) (.agg (lbl v z p).toArray)).run Try.prog w = .ok () w := run_eqGuard_agg (P := Try.prog) w .neq 88 x y _ _ (by kernel_rfl)
  unfold Oper.wp execOp
  simp only [ho, hx, hy, Sem.run_bind, hg, run_neq_lab, Result.andThen_ok]
  exact h
theorem eqpt_self (w : World) : (Op.equalIn 10000 31 (.agg #[.int .u64 0, .int .u64 0]) (.agg #[.int .u64 0, .int .u64 0])).run Try.prog w = .ok true w := by kernel_rfl

set_option maxRecDepth 100000 in
set_option maxHeartbeats 800000 in
theorem sameSecret_eq (r : Int) (a1 a2 : Option Addr) (g1 g2 n m1 m2 : Nat) (F : Nat → Int × Int × (Nat × Nat)) (w : World) (hn : n ≤ 1024) (hm1 : n ≤ m1) (hm2 : n ≤ m2) (had : n = 0 ∨ (a1 = some ⟨g1, 0, none⟩ ∧ a2 = some ⟨g2, 0, none⟩))
    (hc : ∀ i, i < n → w.rangeAt g1 (i * 18) (lbl (F i).1 (F i).2.1 (F i).2.2) ∧ w.rangeAt g2 (i * 18) (lbl (F i).1 (F i).2.1 (F i).2.2)) :
    Calls Try.prog 13 #[.agg (sc4 r (.slice a1 n m1)), .agg (sc4 r (.slice a2 n m2))] w fun e w' => e = .returned (.bool true) ∧ Below w.heap.size w w' := by
  obtain ⟨N, hN⟩ : ∃ N, N = w.heap.size := ⟨_, rfl⟩
  obtain ⟨W2, hW2⟩ : ∃ W2, W2 = (w.alloc (.cells (sc4 r (.slice a1 n m1)) 33)).alloc (.cells (sc4 r (.slice a2 n m2)) 33) := ⟨_, rfl⟩
  have b2 : Below N w W2 := by rw [hW2, hN]; exact (below_alloc _ _).trans ((below_alloc _ _).mono (by simp))
  have e1 : Blk W2 N (sc4 r (.slice a1 n m1)) 33 := by rw [hW2, hN]; exact (Blk.new w _ _).keep (below_alloc _ _)
  have e2 : Blk W2 (N + 1) (sc4 r (.slice a2 n m2)) 33 := by
    have h := Blk.new (w.alloc (.cells (sc4 r (.slice a1 n m1)) 33)) (sc4 r (.slice a2 n m2)) 33
    rw [World.size_alloc, ← hN] at h; rw [hW2]; exact h
  have HE : Hid (Blk W2 N (sc4 r (.slice a1 n m1)) 33 ∧ Blk W2 (N + 1) (sc4 r (.slice a2 n m2)) 33 ∧ Below N w W2) := Lib.hid ⟨e1, e2, b2⟩
  have HC : Hid (∀ i, i < n → W2.rangeAt g1 (i * 18) (lbl (F i).1 (F i).2.1 (F i).2.2) ∧ W2.rangeAt g2 (i * 18) (lbl (F i).1 (F i).2.1 (F i).2.2)) := Lib.hid (fun i hi => by
    have k : ∀ (g o : Nat) (xs : List Value), w.rangeAt g o xs → W2.rangeAt g o xs := fun g o xs h j u hu => (b2.cell (p := ⟨g, o + j, none⟩) (by rw [hN]; exact World.block_lt_of_cell? w _ (h j u hu))).trans (h j u hu)
    exact ⟨k _ _ _ (hc i hi).1, k _ _ _ (hc i hi).2⟩)
  have HGL : Hid (∀ i, i < n → g1 < N + 2 ∧ g2 < N + 2) := Lib.hid (fun i hi => by
    have h1 := World.block_lt_of_cell? w _ ((hc i hi).1 0 _ rfl)
    have h2 := World.block_lt_of_cell? w _ ((hc i hi).2 0 _ rfl)
    rw [← hN] at h1 h2
    exact ⟨Nat.lt_of_lt_of_le h1 (by omega), Nat.lt_of_lt_of_le h2 (by omega)⟩)
  have HAD := Lib.hid had
  have HN := Lib.hid hN
  have HW := Lib.hid hW2
  rw [← hN]
  have hpt := eqpt_self
  have c10 : W2.cell? ⟨N, 0, none⟩ = some (.int .i64 r) := e1.cell 0
  have c11 : W2.cell? ⟨N, 1, none⟩ = some (.slice a1 n m1) := e1.cell 1
  have c12 : W2.cell? ⟨N, 2, none⟩ = some (.int .u64 0) := e1.cell 2
  have c13 : W2.cell? ⟨N, 3, none⟩ = some (.int .u64 0) := e1.cell 3
  have c20 : W2.cell? ⟨N + 1, 0, none⟩ = some (.int .i64 r) := e2.cell 0
  have c21 : W2.cell? ⟨N + 1, 1, none⟩ = some (.slice a2 n m2) := e2.cell 1
  have c22 : W2.cell? ⟨N + 1, 2, none⟩ = some (.int .u64 0) := e2.cell 2
  have c23 : W2.cell? ⟨N + 1, 3, none⟩ = some (.int .u64 0) := e2.cell 3
  rw [hW2, hN] at c10 c11 c12 c13 c20 c21 c22 c23
  clear hN hW2 e1 e2 b2 had hc
  go_enter Try.func13, Try.ntmps13
  go_wp2_with fail
  try rw [← HW.out, ← HN.out]
  try clear c10 c11 c12 c13 c20 c21 c22 c23
  go_loopw [5] (fun i wr => ∃ (k : Nat), k ≤ n ∧ i = .int .i64 (k : Int) ∧ Hid (Below (N + 2) W2 wr)) (fun i _ => n - (intOf i).toNat)
  case atStart => exact ⟨0, by omega, rfl, Lib.hid (Below.refl _ _)⟩
  case round =>
    obtain ⟨k, hk, rfl, HBr⟩ := hrel
    by_cases hlt : k < n
    · rcases HAD.out with h0 | ⟨rfl, rfl⟩
      · omega
      have l1 : (0 : Int) ≤ (k : Int) := by omega
      have l2 : (k : Int) < (n : Int) := by omega
      have b0 : Below W2.heap.size W2 W2 := Below.refl _ _
      have d1 := HE.out.1.below HBr.out (by omega)
      have d2 := HE.out.2.1.below HBr.out (by omega)
      have HBd : Hid (Below (N + 2) W2 wr.drew) := Lib.hid HBr.out.drew
      have HRk : Hid (wr.rangeAt g1 (k * 18) (lbl (F k).1 (F k).2.1 (F k).2.2) ∧ wr.rangeAt g2 (k * 18) (lbl (F k).1 (F k).2.1 (F k).2.2)) := Lib.hid (by
        have key : ∀ (g o : Nat) (xs : List Value), W2.rangeAt g o xs → g < N + 2 → wr.rangeAt g o xs := fun g o xs h hg j u hu => (HBr.out.cell (p := ⟨g, o + j, none⟩) hg).trans (h j u hu)
        exact ⟨key _ _ _ (HC.out k hlt).1 (HGL.out k hlt).1, key _ _ _ (HC.out k hlt).2 (HGL.out k hlt).2⟩)
      obtain ⟨a, ha⟩ : ∃ a, a = (F k).1 := ⟨_, rfl⟩
      obtain ⟨b, hb⟩ : ∃ b, b = (F k).2.1 := ⟨_, rfl⟩
      obtain ⟨q, hq⟩ : ∃ q, q = (F k).2.2 := ⟨_, rfl⟩
      rw [← ha, ← hb, ← hq] at HRk
      have c11 : wr.cell? ⟨N, 1, none⟩ = some (.slice (some ⟨g1, 0, none⟩) n m1) := d1.cell 1
      have c21 : wr.cell? ⟨N + 1, 1, none⟩ = some (.slice (some ⟨g2, 0, none⟩) n m2) := d2.cell 1
      have HD12 := Lib.hid (And.intro c11 c21)
      clear ha hb hq b0 d1 d2 c21 hk
      go_wp2_with fail
      clear c11
      refine wp_region_inv (by kernel_rfl) (by kernel_rfl) (fun l a' w' => a' = { tmps := #[Value.agg (sc4 r (Value.slice (some ⟨g1, 0, none⟩) n m1)), Value.agg (sc4 r (Value.slice (some ⟨g2, 0, none⟩) n m2)), Value.pointer (some ⟨N, 0, none⟩), Value.pointer (some ⟨N + 1, 0, none⟩), u4, Value.int .i64 (k : Int), Value.pointer (some ⟨N, 0, none⟩), Value.int .i64 (r : Int), Value.pointer (some ⟨N + 1, 0, none⟩), Value.int .i64 (r : Int), Value.bool false, Value.bool false, Value.pointer (some ⟨N, 2, none⟩), Value.agg #[Value.int IntKind.u64 0, Value.int IntKind.u64 0], Value.pointer (some ⟨N + 1, 2, none⟩), Value.agg #[Value.int IntKind.u64 0, Value.int IntKind.u64 0], Value.bool false, Value.bool false, Value.bool false, Value.pointer (some ⟨N, 1, none⟩), Value.slice (some ⟨g1, 0, none⟩) n m1, Value.int .i64 (n : Int), Value.pointer (some ⟨N + 1, 1, none⟩), Value.slice (some ⟨g2, 0, none⟩) n m2, Value.int .i64 (n : Int), Value.bool false, Value.bool false, Value.int .i64 (k : Int), Value.pointer (some ⟨N, 1, none⟩), Value.slice (some ⟨g1, 0, none⟩) n m1, Value.int .i64 (n : Int), Value.bool true, u32, u33, bif l 0 then Value.pointer (some ⟨N, 1, none⟩) else u34, bif l 1 then Value.slice (some ⟨g1, 0, none⟩) n m1 else u35, bif l 2 then Value.int .i64 (k : Int) else u36, bif l 3 then Value.pointer (some ⟨g1, k * 18, none⟩) else u37, bif l 4 then Value.agg (lbl a b q).toArray else u38, bif l 5 then Value.pointer (some ⟨N + 1, 1, none⟩) else u39, bif l 6 then Value.slice (some ⟨g2, 0, none⟩) n m2 else u40, bif l 7 then Value.int .i64 (k : Int) else u41, bif l 8 then Value.pointer (some ⟨g2, k * 18, none⟩) else u42, bif l 9 then Value.agg (lbl a b q).toArray else u43, bif l 10 then Value.bool false else u44], defers := [] } ∧ w' = wr.drew) ⟨rfl, rfl⟩ ?_ ?_
      · rintro l a' w' i ⟨rfl, rfl⟩ hi hli hpre
        have hi2 : i < 11 := hi
        have hcase : i = 0 ∨ i = 1 ∨ i = 2 ∨ i = 3 ∨ i = 4 ∨ i = 5 ∨ i = 6 ∨ i = 7 ∨ i = 8 ∨ i = 9 ∨ i = 10 := by omega
        clear hi hi2
        rcases hcase with rfl | rfl | rfl | rfl | rfl | rfl | rfl | rfl | rfl | rfl | rfl
        · -- 0: Op.fieldAddr 63 (Operand.tmp 2) 1
          refine wpOp_step rfl (fun K' hK => ?_)
          clear hpre
          rw [if_pos (by rfl)]
          go_simp
          exact hK _ _ ⟨by simp [upd, Act.put], rfl⟩
        · -- 1: Op.load 59 (Operand.tmp 34)
          have p0 : l 0 = true := hpre _ rfl ⟨0, .data⟩ (by simp) rfl
          refine wpOp_step rfl (fun K' hK => ?_)
          simp only [p0, cond_true, cond_false]
          clear hpre
          rw [if_pos (by rfl)]
          have z1 : wr.drew.cell? ⟨N, 1, none⟩ = some (.slice (some ⟨g1, 0, none⟩) n m1) := HD12.out.1
          go_simp
          exact hK _ _ ⟨by simp [upd, Act.put, p0], rfl⟩
        · -- 2: Op.move (Operand.tmp 5)
          refine wpOp_step rfl (fun K' hK => ?_)
          clear hpre
          rw [if_pos (by rfl)]
          go_simp
          exact hK _ _ ⟨by simp [upd, Act.put], rfl⟩
        · -- 3: Op.indexAddr 59 (Operand.tmp 35) (Operand.tmp 36)
          have p1 : l 1 = true := hpre _ rfl ⟨1, .data⟩ (by simp) rfl
          have p2 : l 2 = true := hpre _ rfl ⟨2, .data⟩ (by simp) rfl
          refine wpOp_step rfl (fun K' hK => ?_)
          simp only [p1, p2, cond_true, cond_false]
          clear hpre
          rw [if_pos (by rfl)]
          go_simp
          exact hK _ _ ⟨by simp [upd, Act.put, p1, p2], rfl⟩
        · -- 4: Op.load 70 (Operand.tmp 37)
          have p3 : l 3 = true := hpre _ rfl ⟨3, .data⟩ (by simp) rfl
          refine wpOp_step rfl (fun K' hK => ?_)
          simp only [p3, cond_true, cond_false]
          clear hpre
          rw [if_pos (by rfl)]
          refine wp_load_mid 88 _ rfl g1 (k * 18) rfl (lbl a b q) _ (HRk.out.1 : wr.drew.rangeAt g1 (k * 18) (lbl a b q)) Try.underlying88 rfl (by rw [lbl_len]; exact sizeLab) ?_
          exact hK _ _ ⟨by simp [upd, Act.put, p3], rfl⟩
        · -- 5: Op.fieldAddr 63 (Operand.tmp 3) 1
          refine wpOp_step rfl (fun K' hK => ?_)
          clear hpre
          rw [if_pos (by rfl)]
          go_simp
          exact hK _ _ ⟨by simp [upd, Act.put], rfl⟩
        · -- 6: Op.load 59 (Operand.tmp 39)
          have p5 : l 5 = true := hpre _ rfl ⟨5, .data⟩ (by simp) rfl
          refine wpOp_step rfl (fun K' hK => ?_)
          simp only [p5, cond_true, cond_false]
          clear hpre
          rw [if_pos (by rfl)]
          have z1 : wr.drew.cell? ⟨N + 1, 1, none⟩ = some (.slice (some ⟨g2, 0, none⟩) n m2) := HD12.out.2
          go_simp
          exact hK _ _ ⟨by simp [upd, Act.put, p5], rfl⟩
        · -- 7: Op.move (Operand.tmp 5)
          refine wpOp_step rfl (fun K' hK => ?_)
          clear hpre
          rw [if_pos (by rfl)]
          go_simp
          exact hK _ _ ⟨by simp [upd, Act.put], rfl⟩
        · -- 8: Op.indexAddr 59 (Operand.tmp 40) (Operand.tmp 41)
          have p6 : l 6 = true := hpre _ rfl ⟨6, .data⟩ (by simp) rfl
          have p7 : l 7 = true := hpre _ rfl ⟨7, .data⟩ (by simp) rfl
          refine wpOp_step rfl (fun K' hK => ?_)
          simp only [p6, p7, cond_true, cond_false]
          clear hpre
          rw [if_pos (by rfl)]
          go_simp
          exact hK _ _ ⟨by simp [upd, Act.put, p6, p7], rfl⟩
        · -- 9: Op.load 70 (Operand.tmp 42)
          have p8 : l 8 = true := hpre _ rfl ⟨8, .data⟩ (by simp) rfl
          refine wpOp_step rfl (fun K' hK => ?_)
          simp only [p8, cond_true, cond_false]
          clear hpre
          rw [if_pos (by rfl)]
          refine wp_load_mid 88 _ rfl g2 (k * 18) rfl (lbl a b q) _ (HRk.out.2 : wr.drew.rangeAt g2 (k * 18) (lbl a b q)) Try.underlying88 rfl (by rw [lbl_len]; exact sizeLab) ?_
          exact hK _ _ ⟨by simp [upd, Act.put, p8], rfl⟩
        · -- 10: Op.binOp BinOp.neq 70 (Operand.tmp 38) (Operand.tmp 43) 70
          have p4 : l 4 = true := hpre _ rfl ⟨4, .data⟩ (by simp) rfl
          have p9 : l 9 = true := hpre _ rfl ⟨9, .data⟩ (by simp) rfl
          refine wpOp_step rfl (fun K' hK => ?_)
          simp only [p4, p9, cond_true, cond_false]
          clear hpre
          rw [if_pos (by rfl)]
          refine wp_neq_lab _ _ rfl a b q rfl rfl ?_
          go_simp
          exact hK _ _ ⟨by simp [upd, Act.put, p4, p9], rfl⟩
      · rintro l a' w9 hall ⟨rfl, rfl⟩
        simp only [hall 0 (by decide), hall 1 (by decide), hall 2 (by decide), hall 3 (by decide), hall 4 (by decide), hall 5 (by decide), hall 6 (by decide), hall 7 (by decide), hall 8 (by decide), hall 9 (by decide), hall 10 (by decide), cond_true]
        clear hall
        go_wp2_with fail
        go_roundw
        case rel => exact ⟨k + 1, by omega, by go_num, HBd⟩
        case measure => simp [intOf]; omega
    · have c11 : wr.cell? ⟨N, 1, none⟩ = some (.slice a1 n m1) := (HE.out.1.below HBr.out (by omega)).cell 1
      have l3 : ¬ ((k : Int) < (n : Int)) := by omega
      have HF : Hid (Below N w wr) := Lib.hid (HE.out.2.2.trans (HBr.out.mono (by omega)))
      go_wp2_with fail
      go_ret
      exact ⟨rfl, HF.out⟩
end Go.Proofs.Ytelalpikdidpeaa
