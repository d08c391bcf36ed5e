/-
  Texts joined into one: FndG, WkSecrets, Tws.
-/
import Derived.Test.YtelalpikdidpeaaJF
import Derived.Test.YtelalpikdidpeaaJE
import Derived.Lib.AppendZeros

/-
  Equal secrets with a share.
-/
namespace Go.Proofs.Ytelalpikdidpeaa
open Go.RowKit TR L2 L2.SP
set_option linter.unusedVariables false
set_option linter.unusedSimpArgs false

theorem FdE.same {K D E a b : Int} {P Q G : Nat} {F : Nat → Int × Int × (Nat × Nat)} {n : Nat} {e1 e2 : Ending} (h1 : FdE K D E a b P Q G F n e1) (h2 : FdE K D E a b P Q G F n e2) : e1 = e2 := by
  rcases h1 with ⟨a1, rfl⟩ | ⟨a1, f1, q1, r1, rfl⟩ <;> rcases h2 with ⟨b1, rfl⟩ | ⟨b1, f2, q2, r2, rfl⟩
  · rfl
  · exact absurd b1 a1
  · exact absurd a1 b1
  · obtain ⟨rfl, rfl⟩ := FndR.same r1 r2
    rfl
theorem FdE.val {K D E a b : Int} {P Q G : Nat} {F : Nat → Int × Int × (Nat × Nat)} {n : Nat} {e : Ending} (h : FdE K D E a b P Q G F n e) : ∃ (q : Nat × Nat) (c : Int), e = .returned (.tuple #[.agg (kl q.1 q.2).toArray, .int .i64 c]) := by
  rcases h with ⟨_, rfl⟩ | ⟨_, f, q, _, rfl⟩
  · exact ⟨(0, 0), _, rfl⟩
  · exact ⟨q, _, rfl⟩
theorem partPt0 (s t : Int) (w : World) : (part 24 #[.int .u64 s, .int .u64 t] 0).run Try.prog w = .ok (.int .u64 s) w := by
  simp [part, isAgg, Sem.run_bind, run_underlying Try.underlying24 w, go_sem]
theorem partPt1 (s t : Int) (w : World) : (part 24 #[.int .u64 s, .int .u64 t] 1).run Try.prog w = .ok (.int .u64 t) w := by
  simp [part, isAgg, Sem.run_bind, run_underlying Try.underlying24 w, go_sem]
theorem ptFields : (Try.prog.fieldsOf 31).toList.map (fun f => (decide (f.name ≠ "_"), f.type, f.offset)) = [(true, 24, 0), (true, 24, 1)] := by kernel_rfl
theorem eqpt_sg (s t : Int) (w : World) : (Op.equalIn 10000 31 (.agg #[.int .u64 s, .int .u64 t]) (.agg #[.int .u64 s, .int .u64 t])).run Try.prog w = .ok true w := by
  have hf := ptFields
  rw [show (10000 : Nat) = 9999 + 1 from rfl, run_equalIn_struct w 9999 31 _ _ (by kernel_rfl) (by kernel_rfl)]
  generalize (Try.prog.fieldsOf 31).toList = fs at hf
  obtain ⟨f0, f1, rfl⟩ : ∃ f0 f1, fs = [f0, f1] := by
    have hl : fs.length = 2 := by have h := congrArg List.length hf; simpa using h
    match fs, hl with
    | [f0, f1], _ => exact ⟨f0, f1, rfl⟩
  simp only [List.map_cons, List.map_nil, List.cons.injEq, Prod.mk.injEq, decide_eq_true_eq, and_true] at hf
  obtain ⟨⟨n0, t0, o0⟩, n1, t1, o1⟩ := hf
  have hi1 : ∀ a : Int, (Op.equalIn 9999 24 (.int .u64 a) (.int .u64 a)).run Try.prog w = .ok true w := fun a => by
    have h := run_equalIn_int (P := Try.prog) w 9998 24 .u64 .u64 a a Try.underlying24
    simpa using h
  simp [Op.eqFields, n0, n1, t0, t1, o0, o1, partPt0, partPt1, hi1]

set_option maxRecDepth 100000 in
set_option maxHeartbeats 800000 in
theorem sameSecret_sg (r s t : Int) (a1 a2 : Option Addr) (g1 g2 o2 n m1 m2 : Nat) (F : Nat → Int × Int × (Nat × Nat)) (w : World) (hn : n ≤ 4398046511104) (hm1 : n ≤ m1) (hm2 : n ≤ m2) (had : n = 0 ∨ (a1 = some ⟨g1, 0, none⟩ ∧ a2 = some ⟨g2, o2, none⟩))
    (hc : ∀ i, i < n → w.rangeAt g1 (i * 18) (lbl (F i).1 (F i).2.1 (F i).2.2) ∧ w.rangeAt g2 (o2 + i * 18) (lbl (F i).1 (F i).2.1 (F i).2.2)) :
    Calls Try.prog 13 #[.agg (sg r (.slice a1 n m1) s t), .agg (sg r (.slice a2 n m2) s t)] w fun e w' => e = .returned (.bool true) ∧ Below w.heap.size w w' := by
  obtain ⟨N, hN⟩ : ∃ N, N = w.heap.size := ⟨_, rfl⟩
  obtain ⟨W2, hW2⟩ : ∃ W2, W2 = (w.alloc (.cells (sg r (.slice a1 n m1) s t) 33)).alloc (.cells (sg r (.slice a2 n m2) s t) 33) := ⟨_, rfl⟩
  have b2 : Below N w W2 := by rw [hW2, hN]; exact (below_alloc _ _).trans ((below_alloc _ _).mono (by simp))
  have e1 : Blk W2 N (sg r (.slice a1 n m1) s t) 33 := by rw [hW2, hN]; exact (Blk.new w _ _).keep (below_alloc _ _)
  have e2 : Blk W2 (N + 1) (sg r (.slice a2 n m2) s t) 33 := by
    have h := Blk.new (w.alloc (.cells (sg r (.slice a1 n m1) s t) 33)) (sg r (.slice a2 n m2) s t) 33
    rw [World.size_alloc, ← hN] at h; rw [hW2]; exact h
  have HE : Hid (Blk W2 N (sg r (.slice a1 n m1) s t) 33 ∧ Blk W2 (N + 1) (sg r (.slice a2 n m2) s t) 33 ∧ Below N w W2) := Lib.hid ⟨e1, e2, b2⟩
  have HC : Hid (∀ i, i < n → W2.rangeAt g1 (i * 18) (lbl (F i).1 (F i).2.1 (F i).2.2) ∧ W2.rangeAt g2 (o2 + i * 18) (lbl (F i).1 (F i).2.1 (F i).2.2)) := Lib.hid (fun i hi => by
    have k : ∀ (g o : Nat) (xs : List Value), w.rangeAt g o xs → W2.rangeAt g o xs := fun g o xs h j u hu => (b2.cell (p := ⟨g, o + j, none⟩) (by rw [hN]; exact World.block_lt_of_cell? w _ (h j u hu))).trans (h j u hu)
    exact ⟨k _ _ _ (hc i hi).1, k _ _ _ (hc i hi).2⟩)
  have HGL : Hid (∀ i, i < n → g1 < N + 2 ∧ g2 < N + 2) := Lib.hid (fun i hi => by
    have h1 := World.block_lt_of_cell? w _ ((hc i hi).1 0 _ rfl)
    have h2 := World.block_lt_of_cell? w _ ((hc i hi).2 0 _ rfl)
    rw [← hN] at h1 h2
    exact ⟨Nat.lt_of_lt_of_le h1 (by omega), Nat.lt_of_lt_of_le h2 (by omega)⟩)
  have HAD := Lib.hid had
  have HN := Lib.hid hN
  have HW := Lib.hid hW2
  rw [← hN]
  have hpt := eqpt_sg s t
  have c10 : W2.cell? ⟨N, 0, none⟩ = some (.int .i64 r) := e1.cell 0
  have c11 : W2.cell? ⟨N, 1, none⟩ = some (.slice a1 n m1) := e1.cell 1
  have c12 : W2.cell? ⟨N, 2, none⟩ = some (.int .u64 s) := e1.cell 2
  have c13 : W2.cell? ⟨N, 3, none⟩ = some (.int .u64 t) := e1.cell 3
  have c20 : W2.cell? ⟨N + 1, 0, none⟩ = some (.int .i64 r) := e2.cell 0
  have c21 : W2.cell? ⟨N + 1, 1, none⟩ = some (.slice a2 n m2) := e2.cell 1
  have c22 : W2.cell? ⟨N + 1, 2, none⟩ = some (.int .u64 s) := e2.cell 2
  have c23 : W2.cell? ⟨N + 1, 3, none⟩ = some (.int .u64 t) := e2.cell 3
  rw [hW2, hN] at c10 c11 c12 c13 c20 c21 c22 c23
  clear hN hW2 e1 e2 b2 had hc
  go_enter Try.func13, Try.ntmps13
  go_wp2_with fail
  try rw [← HW.out, ← HN.out]
  try clear c10 c11 c12 c13 c20 c21 c22 c23
  go_loopw [5] (fun i wr => ∃ (k : Nat), k ≤ n ∧ i = .int .i64 (k : Int) ∧ Hid (Below (N + 2) W2 wr)) (fun i _ => n - (intOf i).toNat)
  case atStart => exact ⟨0, by omega, rfl, Lib.hid (Below.refl _ _)⟩
  case round =>
    obtain ⟨k, hk, rfl, HBr⟩ := hrel
    by_cases hlt : k < n
    · rcases HAD.out with h0 | ⟨rfl, rfl⟩
      · omega
      have l1 : (0 : Int) ≤ (k : Int) := by omega
      have l2 : (k : Int) < (n : Int) := by omega
      have b0 : Below W2.heap.size W2 W2 := Below.refl _ _
      have d1 := HE.out.1.below HBr.out (by omega)
      have d2 := HE.out.2.1.below HBr.out (by omega)
      have HBd : Hid (Below (N + 2) W2 wr.drew) := Lib.hid HBr.out.drew
      have HRk : Hid (wr.rangeAt g1 (k * 18) (lbl (F k).1 (F k).2.1 (F k).2.2) ∧ wr.rangeAt g2 (o2 + k * 18) (lbl (F k).1 (F k).2.1 (F k).2.2)) := Lib.hid (by
        have key : ∀ (g o : Nat) (xs : List Value), W2.rangeAt g o xs → g < N + 2 → wr.rangeAt g o xs := fun g o xs h hg j u hu => (HBr.out.cell (p := ⟨g, o + j, none⟩) hg).trans (h j u hu)
        exact ⟨key _ _ _ (HC.out k hlt).1 (HGL.out k hlt).1, key _ _ _ (HC.out k hlt).2 (HGL.out k hlt).2⟩)
      obtain ⟨a, ha⟩ : ∃ a, a = (F k).1 := ⟨_, rfl⟩
      obtain ⟨b, hb⟩ : ∃ b, b = (F k).2.1 := ⟨_, rfl⟩
      obtain ⟨q, hq⟩ : ∃ q, q = (F k).2.2 := ⟨_, rfl⟩
      rw [← ha, ← hb, ← hq] at HRk
      have c11 : wr.cell? ⟨N, 1, none⟩ = some (.slice (some ⟨g1, 0, none⟩) n m1) := d1.cell 1
      have c21 : wr.cell? ⟨N + 1, 1, none⟩ = some (.slice (some ⟨g2, o2, none⟩) n m2) := d2.cell 1
      have HD12 := Lib.hid (And.intro c11 c21)
      clear ha hb hq b0 d1 d2 c21 hk
      go_wp2_with fail
      clear c11
      refine wp_region_inv (by kernel_rfl) (by kernel_rfl) (fun l a' w' => a' = { tmps := #[Value.agg (sg r (Value.slice (some ⟨g1, 0, none⟩) n m1) s t), Value.agg (sg r (Value.slice (some ⟨g2, o2, none⟩) n m2) s t), Value.pointer (some ⟨N, 0, none⟩), Value.pointer (some ⟨N + 1, 0, none⟩), u4, Value.int .i64 (k : Int), Value.pointer (some ⟨N, 0, none⟩), Value.int .i64 (r : Int), Value.pointer (some ⟨N + 1, 0, none⟩), Value.int .i64 (r : Int), Value.bool false, Value.bool false, Value.pointer (some ⟨N, 2, none⟩), Value.agg #[Value.int IntKind.u64 s, Value.int IntKind.u64 t], Value.pointer (some ⟨N + 1, 2, none⟩), Value.agg #[Value.int IntKind.u64 s, Value.int IntKind.u64 t], Value.bool false, Value.bool false, Value.bool false, Value.pointer (some ⟨N, 1, none⟩), Value.slice (some ⟨g1, 0, none⟩) n m1, Value.int .i64 (n : Int), Value.pointer (some ⟨N + 1, 1, none⟩), Value.slice (some ⟨g2, o2, none⟩) n m2, Value.int .i64 (n : Int), Value.bool false, Value.bool false, Value.int .i64 (k : Int), Value.pointer (some ⟨N, 1, none⟩), Value.slice (some ⟨g1, 0, none⟩) n m1, Value.int .i64 (n : Int), Value.bool true, u32, u33, bif l 0 then Value.pointer (some ⟨N, 1, none⟩) else u34, bif l 1 then Value.slice (some ⟨g1, 0, none⟩) n m1 else u35, bif l 2 then Value.int .i64 (k : Int) else u36, bif l 3 then Value.pointer (some ⟨g1, k * 18, none⟩) else u37, bif l 4 then Value.agg (lbl a b q).toArray else u38, bif l 5 then Value.pointer (some ⟨N + 1, 1, none⟩) else u39, bif l 6 then Value.slice (some ⟨g2, o2, none⟩) n m2 else u40, bif l 7 then Value.int .i64 (k : Int) else u41, bif l 8 then Value.pointer (some ⟨g2, o2 + k * 18, none⟩) else u42, bif l 9 then Value.agg (lbl a b q).toArray else u43, bif l 10 then Value.bool false else u44], defers := [] } ∧ w' = wr.drew) ⟨rfl, rfl⟩ ?_ ?_
      · rintro l a' w' i ⟨rfl, rfl⟩ hi hli hpre
        have hi2 : i < 11 := hi
        have hcase : i = 0 ∨ i = 1 ∨ i = 2 ∨ i = 3 ∨ i = 4 ∨ i = 5 ∨ i = 6 ∨ i = 7 ∨ i = 8 ∨ i = 9 ∨ i = 10 := by omega
        clear hi hi2
        rcases hcase with rfl | rfl | rfl | rfl | rfl | rfl | rfl | rfl | rfl | rfl | rfl
        · -- 0: Op.fieldAddr 63 (Operand.tmp 2) 1
          refine wpOp_step rfl (fun K' hK => ?_)
          clear hpre
          rw [if_pos (by rfl)]
          go_simp
          exact hK _ _ ⟨by simp [upd, Act.put], rfl⟩
        · -- 1: Op.load 59 (Operand.tmp 34)
          have p0 : l 0 = true := hpre _ rfl ⟨0, .data⟩ (by simp) rfl
          refine wpOp_step rfl (fun K' hK => ?_)
          simp only [p0, cond_true, cond_false]
          clear hpre
          rw [if_pos (by rfl)]
          have z1 : wr.drew.cell? ⟨N, 1, none⟩ = some (.slice (some ⟨g1, 0, none⟩) n m1) := HD12.out.1
          go_simp
          exact hK _ _ ⟨by simp [upd, Act.put, p0], rfl⟩
        · -- 2: Op.move (Operand.tmp 5)
          refine wpOp_step rfl (fun K' hK => ?_)
          clear hpre
          rw [if_pos (by rfl)]
          go_simp
          exact hK _ _ ⟨by simp [upd, Act.put], rfl⟩
        · -- 3: Op.indexAddr 59 (Operand.tmp 35) (Operand.tmp 36)
          have p1 : l 1 = true := hpre _ rfl ⟨1, .data⟩ (by simp) rfl
          have p2 : l 2 = true := hpre _ rfl ⟨2, .data⟩ (by simp) rfl
          refine wpOp_step rfl (fun K' hK => ?_)
          simp only [p1, p2, cond_true, cond_false]
          clear hpre
          rw [if_pos (by rfl)]
          go_simp
          exact hK _ _ ⟨by simp [upd, Act.put, p1, p2], rfl⟩
        · -- 4: Op.load 70 (Operand.tmp 37)
          have p3 : l 3 = true := hpre _ rfl ⟨3, .data⟩ (by simp) rfl
          refine wpOp_step rfl (fun K' hK => ?_)
          simp only [p3, cond_true, cond_false]
          clear hpre
          rw [if_pos (by rfl)]
          refine wp_load_mid 88 _ rfl g1 (k * 18) rfl (lbl a b q) _ (HRk.out.1 : wr.drew.rangeAt g1 (k * 18) (lbl a b q)) Try.underlying88 rfl (by rw [lbl_len]; exact sizeLab) ?_
          exact hK _ _ ⟨by simp [upd, Act.put, p3], rfl⟩
        · -- 5: Op.fieldAddr 63 (Operand.tmp 3) 1
          refine wpOp_step rfl (fun K' hK => ?_)
          clear hpre
          rw [if_pos (by rfl)]
          go_simp
          exact hK _ _ ⟨by simp [upd, Act.put], rfl⟩
        · -- 6: Op.load 59 (Operand.tmp 39)
          have p5 : l 5 = true := hpre _ rfl ⟨5, .data⟩ (by simp) rfl
          refine wpOp_step rfl (fun K' hK => ?_)
          simp only [p5, cond_true, cond_false]
          clear hpre
          rw [if_pos (by rfl)]
          have z1 : wr.drew.cell? ⟨N + 1, 1, none⟩ = some (.slice (some ⟨g2, o2, none⟩) n m2) := HD12.out.2
          go_simp
          exact hK _ _ ⟨by simp [upd, Act.put, p5], rfl⟩
        · -- 7: Op.move (Operand.tmp 5)
          refine wpOp_step rfl (fun K' hK => ?_)
          clear hpre
          rw [if_pos (by rfl)]
          go_simp
          exact hK _ _ ⟨by simp [upd, Act.put], rfl⟩
        · -- 8: Op.indexAddr 59 (Operand.tmp 40) (Operand.tmp 41)
          have p6 : l 6 = true := hpre _ rfl ⟨6, .data⟩ (by simp) rfl
          have p7 : l 7 = true := hpre _ rfl ⟨7, .data⟩ (by simp) rfl
          refine wpOp_step rfl (fun K' hK => ?_)
          simp only [p6, p7, cond_true, cond_false]
          clear hpre
          rw [if_pos (by rfl)]
          go_simp
          exact hK _ _ ⟨by simp [upd, Act.put, p6, p7], rfl⟩
        · -- 9: Op.load 70 (Operand.tmp 42)
          have p8 : l 8 = true := hpre _ rfl ⟨8, .data⟩ (by simp) rfl
          refine wpOp_step rfl (fun K' hK => ?_)
          simp only [p8, cond_true, cond_false]
          clear hpre
          rw [if_pos (by rfl)]
          refine wp_load_mid 88 _ rfl g2 (o2 + k * 18) rfl (lbl a b q) _ (HRk.out.2 : wr.drew.rangeAt g2 (o2 + k * 18) (lbl a b q)) Try.underlying88 rfl (by rw [lbl_len]; exact sizeLab) ?_
          exact hK _ _ ⟨by simp [upd, Act.put, p8], rfl⟩
        · -- 10: Op.binOp BinOp.neq 70 (Operand.tmp 38) (Operand.tmp 43) 70
          have p4 : l 4 = true := hpre _ rfl ⟨4, .data⟩ (by simp) rfl
          have p9 : l 9 = true := hpre _ rfl ⟨9, .data⟩ (by simp) rfl
          refine wpOp_step rfl (fun K' hK => ?_)
          simp only [p4, p9, cond_true, cond_false]
          clear hpre
          rw [if_pos (by rfl)]
          refine wp_neq_lab _ _ rfl a b q rfl rfl ?_
          go_simp
          exact hK _ _ ⟨by simp [upd, Act.put, p4, p9], rfl⟩
      · rintro l a' w9 hall ⟨rfl, rfl⟩
        simp only [hall 0 (by decide), hall 1 (by decide), hall 2 (by decide), hall 3 (by decide), hall 4 (by decide), hall 5 (by decide), hall 6 (by decide), hall 7 (by decide), hall 8 (by decide), hall 9 (by decide), hall 10 (by decide), cond_true]
        clear hall
        go_wp2_with fail
        go_roundw
        case rel => exact ⟨k + 1, by omega, by go_num, HBd⟩
        case measure => simp [intOf]; omega
    · have c11 : wr.cell? ⟨N, 1, none⟩ = some (.slice a1 n m1) := (HE.out.1.below HBr.out (by omega)).cell 1
      have l3 : ¬ ((k : Int) < (n : Int)) := by omega
      have HF : Hid (Below N w wr) := Lib.hid (HE.out.2.2.trans (HBr.out.mono (by omega)))
      go_wp2_with fail
      go_ret
      exact ⟨rfl, HF.out⟩
end Go.Proofs.Ytelalpikdidpeaa

/-
  The walk of the law CoverSecrets.
-/
namespace Go.Proofs.Ytelalpikdidpeaa
open Go.RowKit TR L2 L2.SP
set_option linter.unusedVariables false
set_option linter.unusedSimpArgs false

/-- The pairs of a secret, none where there is an error. -/
def pls (K D E : Int) (P Q G : Nat) (u : Int) : List (Nat × Nat) := if secc K D E P Q G u = 0 then plc K D.toNat (2 ^ D.toNat + u.toNat) else []
def rcv (K D E : Int) (P Q G : Nat) (u : Int) : Int := if secc K D E P Q G u = 0 then u else 0
theorem own_cap {w : World} {B e s n : Nat} {v : Value} {xs : List Value} (h : w.ownsRow B e s v n xs) : ∃ A c, v = .slice A n c ∧ n ≤ c ∧ (n = 0 ∨ ∃ g, A = some ⟨g, 0, none⟩ ∧ B ≤ g ∧ g < w.heap.size ∧ (∀ i x, xs[i]? = some x → w.cell? ⟨g, i, none⟩ = some x) ∧ ∃ cur, Blk w g cur e ∧ ∀ (i : Nat) (x : Value), xs[i]? = some x → cur[i]? = some x) := by
  rcases Nat.eq_zero_or_pos n with h0 | h0
  · rcases h.2 with ⟨h1, _⟩ | ⟨g, cap, cur, hv, hb, hg, hnc, hcm, hcs, ht⟩
    · exact ⟨none, 0, by rw [h1, h0], by omega, .inl h0⟩
    · exact ⟨_, _, hv, hnc, .inl h0⟩
  · obtain ⟨g, c, cur, e1, e2, e3, e4, e5, e6⟩ := own_blk h h0
    exact ⟨_, _, e1, e3, .inr ⟨g, rfl, e2, e5.lt, fun i x hx => (e5.cell i).trans (e6 i x hx), cur, e5, e6⟩⟩
theorem own_lower {w : World} {B B' e s n : Nat} {v : Value} {xs : List Value} (hB : B ≤ B') (h : w.ownsRow B' e s v n xs) : w.ownsRow B e s v n xs := by
  refine ⟨h.1, ?_⟩
  rcases h.2 with h2 | ⟨g, cap, cur, hv, hb, r⟩
  · exact .inl h2
  · exact .inr ⟨g, cap, cur, hv, Nat.le_trans hB hb, r⟩
theorem lbs_get (K : Int) (p : Nat × Nat) : ∀ (ps : List (Nat × Nat)) (i : Nat) (t : Nat × Nat) (j : Nat), ps[i]? = some t → j < 18 → (lbs K p ps)[i * 18 + j]? = (lbl (t.1 : Int) (t.2 : Int) (sky K p t.1 t.2))[j]?
  | [], i, t, j, h, _ => by simp at h
  | s :: r, 0, t, j, h, hj => by
    simp at h; subst h
    unfold lbs
    rw [List.flatMap_cons, Nat.zero_mul, Nat.zero_add, List.getElem?_append_left (by rw [lbl_len]; exact hj)]
  | s :: r, i + 1, t, j, h, hj => by
    have ih := lbs_get K p r i t j (by simpa using h) hj
    unfold lbs at ih ⊢
    rw [List.flatMap_cons, List.getElem?_append_right (by rw [lbl_len]; omega), lbl_len, show (i + 1) * 18 + j - 18 = i * 18 + j by omega]
    exact ih
theorem lbs_len (K : Int) (p : Nat × Nat) (ps : List (Nat × Nat)) : (lbs K p ps).length = ps.length * 18 := by
  unfold lbs
  induction ps with
  | nil => rfl
  | cons a r ih => rw [List.flatMap_cons, List.length_append, lbl_len, ih, List.length_cons]; omega
theorem pls_ok (K D E : Int) (P Q G : Nat) (u : Int) : (pls K D E P Q G u).length ≤ 64 ∧ ∀ t ∈ pls K D E P Q G u, t.1 < 256 := by
  unfold pls
  split
  · rename_i h
    unfold secc at h
    split at h
    · rename_i hs
      split at h
      · rename_i hr
        have h1 : ScOk K D E P Q G := of_decide_eq_true hs
        have h2 := of_decide_eq_true hr
        obtain ⟨d, rfl⟩ := Int.eq_ofNat_of_zero_le h1.2.2.1
        obtain ⟨r, rfl⟩ := Int.eq_ofNat_of_zero_le h2.1
        simp only [Int.toNat_natCast] at h2 ⊢
        have hd : d < 7 := by have := h1.2.2.2.1; omega
        have hrd : r < 2 ^ d := by omega
        exact ⟨plc_len K d r hd hrd, fun t ht => (plc_ok K d r hd hrd t ht).2.1⟩
      · cases h
    · cases h
  · simp
/-- Two rows of the same labels are equal secrets. -/
theorem same_rows (K : Int) (p : Nat × Nat) (ps : List (Nat × Nat)) (r : Int) (B1 B2 : Nat) (v1 v2 : Value) (w : World) (hn : ps.length ≤ 64) (h1 : w.ownsRow B1 88 18 v1 ps.length (lbs K p ps)) (h2 : w.ownsRow B2 88 18 v2 ps.length (lbs K p ps)) :
    Calls Try.prog 13 #[.agg (sc4 r v1), .agg (sc4 r v2)] w fun e w' => e = .returned (.bool true) ∧ Below w.heap.size w w' := by
  obtain ⟨A1, c1, rfl, hc1, k1⟩ := own_cap h1
  obtain ⟨A2, c2, rfl, hc2, k2⟩ := own_cap h2
  rcases k1 with h0 | ⟨g1, rfl, _, _, q1, _⟩
  · exact sameSecret_eq r A1 A2 0 0 ps.length c1 c2 (fun _ => (0, 0, (0, 0))) w (by omega) hc1 hc2 (.inl h0) (fun i hi => by omega)
  · rcases k2 with h0 | ⟨g2, rfl, _, _, q2, _⟩
    · exact sameSecret_eq r _ A2 0 0 ps.length c1 c2 (fun _ => (0, 0, (0, 0))) w (by omega) hc1 hc2 (.inl h0) (fun i hi => by omega)
    · refine sameSecret_eq r _ _ g1 g2 ps.length c1 c2 (fun i => (((ps.getD i (0, 0)).1 : Int), ((ps.getD i (0, 0)).2 : Int), sky K p (ps.getD i (0, 0)).1 (ps.getD i (0, 0)).2)) w (by omega) hc1 hc2 (.inr ⟨rfl, rfl⟩) (fun i hi => ?_)
      have hg : ps[i]? = some (ps.getD i (0, 0)) := by rw [List.getElem?_eq_getElem hi]; simp [List.getD, hi]
      refine ⟨fun j x hx => q1 _ _ ?_, fun j x hx => q2 _ _ ?_⟩
      all_goals
        have hj : j < 18 := by rw [← lbl_len ((ps.getD i (0, 0)).1 : Int) ((ps.getD i (0, 0)).2 : Int) (sky K p (ps.getD i (0, 0)).1 (ps.getD i (0, 0)).2)]; exact (List.getElem?_eq_some_iff.1 hx).1
        rw [lbs_get K p ps i _ j hg hj]; exact hx

end Go.Proofs.Ytelalpikdidpeaa

/-
  A twin of a secret: the same labels in memory of its own.
-/
namespace Go.Proofs.Ytelalpikdidpeaa
open Go.RowKit TR L2 L2.SP
set_option linter.unusedVariables false
set_option linter.unusedSimpArgs false

theorem wpList_store_sg {ops : Array Oper} {rest : List Oper} {op : Oper} {a : Act} {w : World} {Q : Exit → Act → World → Prop} (hgd : op.guard = none) (x y : Operand) (ho : op.op = .store 33 x y)
    (b : Nat) (r s t : Int) (v : Value) (hx : a.eval x = .pointer (some ⟨b, 0, none⟩)) (hy : a.eval y = .agg (sg r v s t)) (hv : v.oneCell' = true) (ht : w.there b 0 4)
    (h : wpList Try.prog ops Q rest (a.put op.dst undef) (w.setCells b 0 (sg r v s t).toList)) : wpList Try.prog ops Q (op :: rest) a w :=
  wpList_store_mid hgd 33 x y ho b 0 (sg r v s t) hx hy ht sizeSec (by simp [hv]; exact ⟨rfl, rfl, rfl⟩) h
theorem results_sg1 {fn : Func} {r : Tmp} (h : fn.results = #[.cell r 33]) (tmps : Array Value) (w : World) (b : Nat) (u s t : Int) (v : Value)
    (hp : tmps.getD r undef = .pointer (some ⟨b, 0, none⟩)) (hc : Blk w b (sg u v s t) 33) : (results fn tmps).run Try.prog w = .ok (.agg (sg u v s t)) w := by
  have hp' : tmps[r]?.getD undef = .pointer (some ⟨b, 0, none⟩) := by simpa using hp
  simp [results, h, hp', asAddr, run_loadVar_mid w b 0 33 (sg u v s t).toList _ hc.range Try.underlying33 rfl sizeSec]
/-- The cells of the first n labels. -/
def lbF (F : Nat → Int × Int × (Nat × Nat)) (n : Nat) : List Value := (List.range n).flatMap fun i => lbl (F i).1 (F i).2.1 (F i).2.2
theorem lbF_succ (F : Nat → Int × Int × (Nat × Nat)) (n : Nat) : lbF F (n + 1) = lbF F n ++ lbl (F n).1 (F n).2.1 (F n).2.2 := by
  unfold lbF; rw [List.range_succ, List.flatMap_append]; simp
theorem lbF_len (F : Nat → Int × Int × (Nat × Nat)) : ∀ n, (lbF F n).length = n * 18
  | 0 => rfl
  | n + 1 => by rw [lbF_succ, List.length_append, lbF_len F n, lbl_len]; omega
theorem lbF_one (F : Nat → Int × Int × (Nat × Nat)) (n : Nat) : ∀ u ∈ lbF F n, u.oneCell' = true := by
  intro u hu
  unfold lbF at hu
  rw [List.mem_flatMap] at hu
  obtain ⟨i, _, h⟩ := hu
  exact lbl_one _ _ _ u h
theorem lbF_get (F : Nat → Int × Int × (Nat × Nat)) : ∀ (n i j : Nat), i < n → j < 18 → (lbF F n)[i * 18 + j]? = (lbl (F i).1 (F i).2.1 (F i).2.2)[j]?
  | 0, i, j, h, _ => absurd h (by omega)
  | n + 1, i, j, h, hj => by
    rw [lbF_succ]
    rcases Nat.lt_or_ge i n with h1 | h1
    · rw [List.getElem?_append_left (by rw [lbF_len]; omega), lbF_get F n i j h1 hj]
    · obtain rfl : i = n := by omega
      rw [List.getElem?_append_right (by rw [lbF_len]; omega), lbF_len]
      congr 1; omega
theorem run_append_nils {w : World} (c : Nat) (ty : TypeId) (i0 : TypeInfo) (hi : Try.prog.info? 88 = some i0) :
    (Builtin.append_ #[29, 29] ty #[.slice none 0 0, .slice none 0 c]).run Try.prog w = .ok (.slice none 0 0) w := by
  simp [Builtin.append_, run_underlying Try.underlying29, sizeOf, typeInfo, hi, Builtin.lenOf, Builtin.firstCells]

set_option maxRecDepth 100000 in
set_option maxHeartbeats 400000 in
theorem twinSecret_any (r s t : Int) (A : Option Addr) (g o n m : Nat) (F : Nat → Int × Int × (Nat × Nat)) (w : World) (hn : n ≤ 4398046511104) (had : n = 0 ∨ A = some ⟨g, o, none⟩)
    (hF : ∀ i, i < n → w.rangeAt g (o + i * 18) (lbl (F i).1 (F i).2.1 (F i).2.2)) :
    Calls Try.prog 8 #[.agg (sg r (.slice A n m) s t)] w fun e w' => (∃ A' m', e = .returned (.agg (sg r (.slice A' n m') s t)) ∧ n ≤ m' ∧ (n = 0 ∨ ∃ g', A' = some ⟨g', 0, none⟩ ∧ w.heap.size ≤ g' ∧ ∀ i, i < n → w'.rangeAt g' (i * 18) (lbl (F i).1 (F i).2.1 (F i).2.2))) ∧ Below w.heap.size w w' := by
  obtain ⟨N, hN⟩ : ∃ N, N = w.heap.size := ⟨_, rfl⟩
  obtain ⟨W2, hW2⟩ : ∃ W2, W2 = (w.alloc (.cells (sg r (.slice A n m) s t) 33)).alloc (.cells (sg 0 (.slice none 0 0) 0 0) 33) := ⟨_, rfl⟩
  have s2 : W2.heap.size = N + 2 := by rw [hW2, hN]; simp
  have b2 : Below N w W2 := by rw [hW2, hN]; exact (below_alloc _ _).trans ((below_alloc _ _).mono (by simp))
  have e1 : Blk W2 N (sg r (.slice A n m) s t) 33 := by rw [hW2, hN]; exact (Blk.new w _ _).keep (below_alloc _ _)
  have e2 : Blk W2 (N + 1) (sg 0 (.slice none 0 0) 0 0) 33 := by
    have h := Blk.new (w.alloc (.cells (sg r (.slice A n m) s t) 33)) (sg 0 (.slice none 0 0) 0 0) 33
    rw [World.size_alloc, ← hN] at h; rw [hW2]; exact h
  have HR : Hid (∀ ad, A = some ad → ∀ j u, (lbF F n)[j]? = some u → W2.cell? (ad.add j) = some u) := Lib.hid (fun ad hA j u hu => by
    have hj : j < n * 18 := by have := (List.getElem?_eq_some_iff.1 hu).1; rwa [lbF_len] at this
    have h1 : j / 18 < n := by omega
    obtain rfl : ad = ⟨g, o, none⟩ := by
      rcases had with h0 | h0
      · omega
      · rw [h0] at hA; injection hA with hA; exact hA.symm
    have h2 := lbF_get F n (j / 18) (j % 18) h1 (by omega)
    rw [show j / 18 * 18 + j % 18 = j by omega, hu] at h2
    have h3 := hF (j / 18) h1 (j % 18) u h2.symm
    have h4 := (b2.cell (p := ⟨g, o + j / 18 * 18 + j % 18, none⟩) (by rw [hN]; exact World.block_lt_of_cell? w _ h3)).trans h3
    rw [Addr.add_mid, show o + j = o + j / 18 * 18 + j % 18 by omega]
    exact h4)
  have HE : Hid (W2.heap.size = N + 2 ∧ Below N w W2 ∧ Blk W2 N (sg r (.slice A n m) s t) 33 ∧ Blk W2 (N + 1) (sg 0 (.slice none 0 0) 0 0) 33) := Lib.hid ⟨s2, b2, e1, e2⟩
  have HZ : Hid (∀ (v6 : Value) (w6 : World), w6.ownsRow (N + 2) 88 18 v6 n (lbF F n) → W2.grownBy w6 none → ∃ A' m', v6 = .slice A' n m' ∧ Blk w6 N (sg r (.slice A n m) s t) 33 ∧ (w6.setCell ⟨N, 1, none⟩ (.slice A' n m')).there (N + 1) 0 4 ∧ Blk (w6.setCell ⟨N, 1, none⟩ (.slice A' n m')) N (sg r (.slice A' n m') s t) 33 ∧ Blk ((w6.setCell ⟨N, 1, none⟩ (.slice A' n m')).setCells (N + 1) 0 (sg r (.slice A' n m') s t).toList) (N + 1) (sg r (.slice A' n m') s t) 33 ∧
      ((∃ A2 m2, Ending.returned (.agg (sg r (.slice A' n m') s t)) = .returned (.agg (sg r (.slice A2 n m2) s t)) ∧ n ≤ m2 ∧ (n = 0 ∨ ∃ g', A2 = some ⟨g', 0, none⟩ ∧ N ≤ g' ∧ ∀ i, i < n → ((w6.setCell ⟨N, 1, none⟩ (.slice A' n m')).setCells (N + 1) 0 (sg r (.slice A' n m') s t).toList).rangeAt g' (i * 18) (lbl (F i).1 (F i).2.1 (F i).2.2))) ∧ Below N w ((w6.setCell ⟨N, 1, none⟩ (.slice A' n m')).setCells (N + 1) 0 (sg r (.slice A' n m') s t).toList))) := Lib.hid (fun v6 w6 hown hg => by
    obtain ⟨A', m', rfl⟩ := own_val hown
    have hb : Below (N + 2) W2 w6 := (Below.refl _ _).grown hg (by rw [HE.out.1]; exact Nat.le_refl _) (fun b hb => by cases hb)
    have k1 := HE.out.2.2.1.below hb (by omega)
    have k2 := HE.out.2.2.2.below hb (by omega)
    have k3 : Blk (w6.setCell ⟨N, 1, none⟩ (.slice A' n m')) N (sg r (.slice A' n m') s t) 33 := k1.set1 1 (.slice A' n m')
    have k4 : Blk (w6.setCell ⟨N, 1, none⟩ (.slice A' n m')) (N + 1) (sg 0 (.slice none 0 0) 0 0) 33 := k2.other (by simp) _
    have hown2 := ownsRow_setCell_other (a := ⟨N, 1, none⟩) hown (Ne.symm (k1.apart hown (by decide))) (.slice A' n m')
    have hown3 := own_setCells (sg r (.slice A' n m') s t).toList 0 hown2 (k4.apart hown2 (by decide))
    refine ⟨A', m', rfl, k1, k4.there, k3, Blk.setAll k4 _ rfl, ?_, ?_⟩
    · obtain ⟨A2, m2, h1, hnm, hk⟩ := own_cap hown3
      injection h1 with h1 _ h3
      subst h1; subst h3
      refine ⟨A', m', rfl, hnm, ?_⟩
      rcases hk with h0 | ⟨g', rfl, hg1, hg2, hg3, _⟩
      · exact .inl h0
      · refine .inr ⟨g', rfl, by omega, fun i hi j u hu => ?_⟩
        have hj : j < 18 := by have := (List.getElem?_eq_some_iff.1 hu).1; rwa [lbl_len] at this
        exact hg3 (i * 18 + j) u (by rw [lbF_get F n i j hi hj]; exact hu)
    · exact below_setCells _ _ _ _ ((HE.out.2.1.trans (hb.mono (by omega))).setCell (p := ⟨N, 1, none⟩) (Nat.le_refl _) _) (by omega))
  have hl := lbF_len F n
  have ho := lbF_one F n
  obtain ⟨ys, hys⟩ : ∃ ys, ys = lbF F n := ⟨_, rfl⟩
  rw [← hys] at HR HZ hl ho
  obtain ⟨i0, hi, hz0, hz1, hz2⟩ := info_parts infoLab
  have HI := Lib.hid (And.intro hi (And.intro hz0 (And.intro hz1 hz2)))
  have HN := Lib.hid hN
  have HW := Lib.hid hW2
  have h63 : 0 + n ≤ maxLen := by unfold maxLen; omega
  have hby : (0 + n) * 32 ≤ 140737488355328 := by omega
  have hbs : N + 2 ≤ W2.heap.size := by rw [s2]; exact Nat.le_refl _
  rw [← hN]
  have c1 : W2.cell? ⟨N, 1, none⟩ = some (.slice A n m) := e1.cell 1
  rw [hW2, hN] at c1
  clear hN hW2 s2 b2 e1 e2 hF hys hi hz0 hz1 hz2
  rcases A with _ | ad
  · obtain rfl : n = 0 := by
      rcases had with h0 | h0
      · exact h0
      · cases h0
    have hap := fun ty => run_append_nils (w := W2) m ty i0 HI.out.1
    have HZ0 := Lib.hid (HZ.out (.slice none 0 0) W2 (by
      have h : ys = [] := List.eq_nil_of_length_eq_zero (by rw [hl])
      rw [h]; exact World.ownsRow_nil _ _ _ _) (grownBy_refl _ _))
    obtain ⟨A', m', h1, k1, k2, k3, k4, k5⟩ := HZ0.out
    injection h1 with h1 h2 h3
    subst h1; subst h3
    have f1 : W2.cell? ⟨N, 1, none⟩ = some (.slice none 0 m) := k1.cell 1
    have f2 : W2.frozen? ⟨N, 1, none⟩ = false := k1.fr 1
    clear HZ0 HZ h2
    go_enter Try.func8, Try.ntmps8
    go_wp2_with (first
      | (at_builtin; rw [← HW.out, ← HN.out]; refine Lib.wpList_append_run _ rfl _ _ _ _ rfl _ _ rfl rfl _ _ (hap _) ?_)
      | ((with_reducible show wpList _ _ _ (Oper.mk _ (Op.load 33 _) _ _ _ _ :: _) _ _); refine wpList_load_sg rfl _ rfl _ rfl _ _ _ _ k3 ?_)
      | ((with_reducible show wpList _ _ _ (Oper.mk _ (Op.store 33 _ _) _ _ _ _ :: _) _ _); refine wpList_store_sg rfl _ _ rfl _ _ _ _ _ rfl rfl rfl k2 ?_))
    exact bodyPost_ret (results_sg1 rfl _ _ (N + 1) _ _ _ _ rfl k4) rfl ⟨⟨none, 0, rfl⟩, k5.2⟩
  · have hnews := HR.out ad rfl
    go_enter Try.func8, Try.ntmps8
    go_wp2_with (first
      | (at_builtin; rw [← HW.out, ← HN.out]; refine wpList_append_own _ rfl _ _ 29 rfl (N + 2) 88 i0 _ 18 32 Try.underlying29 HI.out.1 HI.out.2.1 HI.out.2.2.1 HI.out.2.2.2 rfl (by omega) (.slice none 0 0) 0 [] rfl (World.ownsRow_nil _ _ _ _) ad n m ys rfl hl hnews ho h63 hby hbs ?_; intro v1 w6 hown6 hg6 _; obtain ⟨A', m', rfl, k1, k2, k3, k4, k5⟩ := HZ.out v1 w6 (by simpa using hown6) hg6; have f1 := k1.cell 1; have f2 := k1.fr 1; clear hown6 hg6 HZ)
      | ((with_reducible show wpList _ _ _ (Oper.mk _ (Op.load 33 _) _ _ _ _ :: _) _ _); refine wpList_load_sg rfl _ rfl _ rfl _ _ _ _ k3 ?_)
      | ((with_reducible show wpList _ _ _ (Oper.mk _ (Op.store 33 _ _) _ _ _ _ :: _) _ _); refine wpList_store_sg rfl _ _ rfl _ _ _ _ _ rfl rfl rfl k2 ?_))
    exact bodyPost_ret (results_sg1 rfl _ _ (N + 1) _ _ _ _ rfl k4) rfl k5
end Go.Proofs.Ytelalpikdidpeaa
