/-
  Texts joined into one: FndG, WkSecrets, Tws.
-/
import Derived.Test.YtchkgccnipejhaaJF
import Derived.Test.YtchkgccnipejhaaJE
import Derived.Lib.AppendZeros

/-
  Equal secrets with a share.
-/
namespace Go.Proofs.Ytchkgccnipejhaa
open Go.RowKit TR L2 L2.SP
set_option linter.unusedVariables false
set_option linter.unusedSimpArgs false

theorem FdE.same {K D E a b : Int} {P Q G : Nat} {F : Nat → Int × Int × (Nat × Nat)} {n : Nat} {e1 e2 : Ending} (h1 : FdE K D E a b P Q G F n e1) (h2 : FdE K D E a b P Q G F n e2) : e1 = e2 := by
  rcases h1 with ⟨a1, rfl⟩ | ⟨a1, f1, q1, r1, rfl⟩ <;> rcases h2 with ⟨b1, rfl⟩ | ⟨b1, f2, q2, r2, rfl⟩
  · rfl
  · exact absurd b1 a1
  · exact absurd a1 b1
  · obtain ⟨rfl, rfl⟩ := FndR.same r1 r2
    rfl
theorem FdE.val {K D E a b : Int} {P Q G : Nat} {F : Nat → Int × Int × (Nat × Nat)} {n : Nat} {e : Ending} (h : FdE K D E a b P Q G F n e) : ∃ (q : Nat × Nat) (c : Int), e = .returned (.tuple #[.agg (kl q.1 q.2).toArray, .int .i64 c]) := by
  rcases h with ⟨_, rfl⟩ | ⟨_, f, q, _, rfl⟩
  · exact ⟨(0, 0), _, rfl⟩
  · exact ⟨q, _, rfl⟩
theorem partPt0 (s t : Int) (w : World) : (part 23 #[.int .u64 s, .int .u64 t] 0).run Try.prog w = .ok (.int .u64 s) w := by
  simp [part, isAgg, Sem.run_bind, run_underlying Try.underlying23 w, go_sem]
theorem partPt1 (s t : Int) (w : World) : (part 23 #[.int .u64 s, .int .u64 t] 1).run Try.prog w = .ok (.int .u64 t) w := by
  simp [part, isAgg, Sem.run_bind, run_underlying Try.underlying23 w, go_sem]
theorem ptFields : (Try.prog.fieldsOf 70).toList.map (fun f => (decide (f.name ≠ "_"), f.type, f.offset)) = [(true, 23, 0), (true, 23, 1)] := by kernel_rfl
theorem eqpt_sg (s t : Int) (w : World) : (Op.equalIn 10000 70 (.agg #[.int .u64 s, .int .u64 t]) (.agg #[.int .u64 s, .int .u64 t])).run Try.prog w = .ok true w := by
  have hf := ptFields
  rw [show (10000 : Nat) = 9999 + 1 from rfl, run_equalIn_struct w 9999 70 _ _ (by kernel_rfl) (by kernel_rfl)]
  generalize (Try.prog.fieldsOf 70).toList = fs at hf
  obtain ⟨f0, f1, rfl⟩ : ∃ f0 f1, fs = [f0, f1] := by
    have hl : fs.length = 2 := by have h := congrArg List.length hf; simpa using h
    match fs, hl with
    | [f0, f1], _ => exact ⟨f0, f1, rfl⟩
  simp only [List.map_cons, List.map_nil, List.cons.injEq, Prod.mk.injEq, decide_eq_true_eq, and_true] at hf
  obtain ⟨⟨n0, t0, o0⟩, n1, t1, o1⟩ := hf
  have hi1 : ∀ a : Int, (Op.equalIn 9999 23 (.int .u64 a) (.int .u64 a)).run Try.prog w = .ok true w := fun a => by
    have h := run_equalIn_int (P := Try.prog) w 9998 23 .u64 .u64 a a Try.underlying23
    simpa using h
  simp [Op.eqFields, n0, n1, t0, t1, o0, o1, partPt0, partPt1, hi1]

end Go.Proofs.Ytchkgccnipejhaa

/-
  The walk of the law CoverSecrets.
-/
namespace Go.Proofs.Ytchkgccnipejhaa
open Go.RowKit TR L2 L2.SP
set_option linter.unusedVariables false
set_option linter.unusedSimpArgs false

/-- The pairs of a secret, none where there is an error. -/
def pls (K D E : Int) (P Q G : Nat) (u : Int) : List (Nat × Nat) := if secc K D E P Q G u = 0 then plc K D.toNat (2 ^ D.toNat + u.toNat) else []
def rcv (K D E : Int) (P Q G : Nat) (u : Int) : Int := if secc K D E P Q G u = 0 then u else 0
theorem own_cap {w : World} {B e s n : Nat} {v : Value} {xs : List Value} (h : w.ownsRow B e s v n xs) : ∃ A c, v = .slice A n c ∧ n ≤ c ∧ (n = 0 ∨ ∃ g, A = some ⟨g, 0, none⟩ ∧ B ≤ g ∧ g < w.heap.size ∧ (∀ i x, xs[i]? = some x → w.cell? ⟨g, i, none⟩ = some x) ∧ ∃ cur, Blk w g cur e ∧ ∀ (i : Nat) (x : Value), xs[i]? = some x → cur[i]? = some x) := by
  rcases Nat.eq_zero_or_pos n with h0 | h0
  · rcases h.2 with ⟨h1, _⟩ | ⟨g, cap, cur, hv, hb, hg, hnc, hcm, hcs, ht⟩
    · exact ⟨none, 0, by rw [h1, h0], by omega, .inl h0⟩
    · exact ⟨_, _, hv, hnc, .inl h0⟩
  · obtain ⟨g, c, cur, e1, e2, e3, e4, e5, e6⟩ := own_blk h h0
    exact ⟨_, _, e1, e3, .inr ⟨g, rfl, e2, e5.lt, fun i x hx => (e5.cell i).trans (e6 i x hx), cur, e5, e6⟩⟩
theorem own_lower {w : World} {B B' e s n : Nat} {v : Value} {xs : List Value} (hB : B ≤ B') (h : w.ownsRow B' e s v n xs) : w.ownsRow B e s v n xs := by
  refine ⟨h.1, ?_⟩
  rcases h.2 with h2 | ⟨g, cap, cur, hv, hb, r⟩
  · exact .inl h2
  · exact .inr ⟨g, cap, cur, hv, Nat.le_trans hB hb, r⟩
theorem lbs_get (K : Int) (p : Nat × Nat) : ∀ (ps : List (Nat × Nat)) (i : Nat) (t : Nat × Nat) (j : Nat), ps[i]? = some t → j < 18 → (lbs K p ps)[i * 18 + j]? = (lbl (t.1 : Int) (t.2 : Int) (sky K p t.1 t.2))[j]?
  | [], i, t, j, h, _ => by simp at h
  | s :: r, 0, t, j, h, hj => by
    simp at h; subst h
    unfold lbs
    rw [List.flatMap_cons, Nat.zero_mul, Nat.zero_add, List.getElem?_append_left (by rw [lbl_len]; exact hj)]
  | s :: r, i + 1, t, j, h, hj => by
    have ih := lbs_get K p r i t j (by simpa using h) hj
    unfold lbs at ih ⊢
    rw [List.flatMap_cons, List.getElem?_append_right (by rw [lbl_len]; omega), lbl_len, show (i + 1) * 18 + j - 18 = i * 18 + j by omega]
    exact ih
theorem lbs_len (K : Int) (p : Nat × Nat) (ps : List (Nat × Nat)) : (lbs K p ps).length = ps.length * 18 := by
  unfold lbs
  induction ps with
  | nil => rfl
  | cons a r ih => rw [List.flatMap_cons, List.length_append, lbl_len, ih, List.length_cons]; omega
/-- What a secret is, in one word. -/
theorem secret_u (p : Nat × Nat) (K D E u : Int) (P Q G : Nat) (w : World) (hp : Ok p) (hK0 : 0 ≤ K) (hK1 : K ≤ 255) :
    Calls Try.prog 32 #[.agg (kl p.1 p.2).toArray, .agg #[.int .u8 K, .int .i64 D, .int .i64 E, .int .u64 (P : Int), .int .u64 (Q : Int), .int .u64 (G : Int)], .int .i64 u] w fun e w' => (∃ v, e = .returned (.tuple #[.agg (sc4 (rcv K D E P Q G u) v), .int .i64 (secc K D E P Q G u)]) ∧ w'.ownsRow w.heap.size 82 18 v (pls K D E P Q G u).length (lbs K p (pls K D E P Q G u))) ∧ Below w.heap.size w w' := by
  refine (secret_any p K D E u P Q G w hp hK0 hK1).mono ?_
  rintro e w' ⟨⟨rr, v, rfl, h1, h2⟩, hb⟩
  unfold rcv pls
  by_cases h : secc K D E P Q G u = 0
  · obtain ⟨rfl, ho⟩ := h2 h
    rw [if_pos h, if_pos h]; exact ⟨⟨v, rfl, ho⟩, hb⟩
  · obtain ⟨rfl, rfl⟩ := h1 h
    rw [if_neg h, if_neg h]; exact ⟨⟨_, rfl, World.ownsRow_nil _ _ _ _⟩, hb⟩
theorem pls_ok (K D E : Int) (P Q G : Nat) (u : Int) : (pls K D E P Q G u).length ≤ 64 ∧ ∀ t ∈ pls K D E P Q G u, t.1 < 256 := by
  unfold pls
  split
  · rename_i h
    unfold secc at h
    split at h
    · rename_i hs
      split at h
      · rename_i hr
        have h1 : ScOk K D E P Q G := of_decide_eq_true hs
        have h2 := of_decide_eq_true hr
        obtain ⟨d, rfl⟩ := Int.eq_ofNat_of_zero_le h1.2.2.1
        obtain ⟨r, rfl⟩ := Int.eq_ofNat_of_zero_le h2.1
        simp only [Int.toNat_natCast] at h2 ⊢
        have hd : d < 7 := by have := h1.2.2.2.1; omega
        have hrd : r < 2 ^ d := by omega
        exact ⟨plc_len K d r hd hrd, fun t ht => (plc_ok K d r hd hrd t ht).2.1⟩
      · cases h
    · cases h
  · simp
end Go.Proofs.Ytchkgccnipejhaa

/-
  A twin of a secret: the same labels in memory of its own.
-/
namespace Go.Proofs.Ytchkgccnipejhaa
open Go.RowKit TR L2 L2.SP
set_option linter.unusedVariables false
set_option linter.unusedSimpArgs false

theorem wpList_store_sg {ops : Array Oper} {rest : List Oper} {op : Oper} {a : Act} {w : World} {Q : Exit → Act → World → Prop} (hgd : op.guard = none) (x y : Operand) (ho : op.op = .store 72 x y)
    (b : Nat) (r s t : Int) (v : Value) (hx : a.eval x = .pointer (some ⟨b, 0, none⟩)) (hy : a.eval y = .agg (sg r v s t)) (hv : v.oneCell' = true) (ht : w.there b 0 4)
    (h : wpList Try.prog ops Q rest (a.put op.dst undef) (w.setCells b 0 (sg r v s t).toList)) : wpList Try.prog ops Q (op :: rest) a w :=
  wpList_store_mid hgd 72 x y ho b 0 (sg r v s t) hx hy ht sizeSec (by simp [hv]; exact ⟨rfl, rfl, rfl⟩) h
theorem results_sg1 {fn : Func} {r : Tmp} (h : fn.results = #[.cell r 72]) (tmps : Array Value) (w : World) (b : Nat) (u s t : Int) (v : Value)
    (hp : tmps.getD r undef = .pointer (some ⟨b, 0, none⟩)) (hc : Blk w b (sg u v s t) 72) : (results fn tmps).run Try.prog w = .ok (.agg (sg u v s t)) w := by
  have hp' : tmps[r]?.getD undef = .pointer (some ⟨b, 0, none⟩) := by simpa using hp
  simp [results, h, hp', asAddr, run_loadVar_mid w b 0 72 (sg u v s t).toList _ hc.range Try.underlying72 rfl sizeSec]
/-- The cells of the first n labels. -/
def lbF (F : Nat → Int × Int × (Nat × Nat)) (n : Nat) : List Value := (List.range n).flatMap fun i => lbl (F i).1 (F i).2.1 (F i).2.2
theorem lbF_succ (F : Nat → Int × Int × (Nat × Nat)) (n : Nat) : lbF F (n + 1) = lbF F n ++ lbl (F n).1 (F n).2.1 (F n).2.2 := by
  unfold lbF; rw [List.range_succ, List.flatMap_append]; simp
theorem lbF_len (F : Nat → Int × Int × (Nat × Nat)) : ∀ n, (lbF F n).length = n * 18
  | 0 => rfl
  | n + 1 => by rw [lbF_succ, List.length_append, lbF_len F n, lbl_len]; omega
theorem lbF_one (F : Nat → Int × Int × (Nat × Nat)) (n : Nat) : ∀ u ∈ lbF F n, u.oneCell' = true := by
  intro u hu
  unfold lbF at hu
  rw [List.mem_flatMap] at hu
  obtain ⟨i, _, h⟩ := hu
  exact lbl_one _ _ _ u h
theorem lbF_get (F : Nat → Int × Int × (Nat × Nat)) : ∀ (n i j : Nat), i < n → j < 18 → (lbF F n)[i * 18 + j]? = (lbl (F i).1 (F i).2.1 (F i).2.2)[j]?
  | 0, i, j, h, _ => absurd h (by omega)
  | n + 1, i, j, h, hj => by
    rw [lbF_succ]
    rcases Nat.lt_or_ge i n with h1 | h1
    · rw [List.getElem?_append_left (by rw [lbF_len]; omega), lbF_get F n i j h1 hj]
    · obtain rfl : i = n := by omega
      rw [List.getElem?_append_right (by rw [lbF_len]; omega), lbF_len]
      congr 1; omega
theorem run_append_nils {w : World} (c : Nat) (ty : TypeId) (i0 : TypeInfo) (hi : Try.prog.info? 82 = some i0) :
    (Builtin.append_ #[68, 68] ty #[.slice none 0 0, .slice none 0 c]).run Try.prog w = .ok (.slice none 0 0) w := by
  simp [Builtin.append_, run_underlying Try.underlying68, sizeOf, typeInfo, hi, Builtin.lenOf, Builtin.firstCells]

end Go.Proofs.Ytchkgccnipejhaa
