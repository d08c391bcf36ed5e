/-
  Equal headers.
-/
import Derived.Test.YtelalpikdidpeaaHdrA
namespace Go.Proofs.Ytelalpikdidpeaa
open Go.RowKit TR L2 L2.SP
set_option linter.unusedVariables false
set_option linter.unusedSimpArgs false

theorem wpList_load_on {ops : Array Oper} {rest : List Oper} {op : Oper} {a : Act} {w : World} {Q : Exit → Act → World → Prop} (hw : Region.wanted op (yielded ops a.tmps) = true) (ty : TypeId) (x : Operand) (ho : op.op = .load ty x)
    (b o : Nat) (hx : a.eval x = .pointer (some ⟨b, o, none⟩)) (cs : List Value) (d : TypeDesc) (hc : w.rangeAt b o cs)
    (hu : Try.prog.underlying ty = some d) (hd : d.isRow = true) (hi : (Try.prog.info? ty).map (·.size) = some cs.length)
    (h : wpList Try.prog ops Q rest (a.put op.dst (.agg cs.toArray)) w) : wpList Try.prog ops Q (op :: rest) a w :=
  wpList_step fun K hK => by rw [if_pos hw]; exact wp_load_mid ty x ho b o hx cs d hc hu hd hi (hK _ _ h)
theorem key_self' (q : Nat × Nat) (w : World) : (Op.equalIn 10000 23 (.agg (kl q.1 q.2).toArray) (.agg (kl q.1 q.2).toArray)).run Try.prog w = .ok true w := eqkey_self 9998 q w

set_option maxRecDepth 100000 in
set_option maxHeartbeats 400000 in
theorem sameHeader_gen (a1 a2 p1 p2 : Option Addr) (g1 g2 o2 n m1 m2 h1 h2 r2 np k1 k2 : Nat) (B : Int) (x y : Nat × Nat) (F : Nat → Int × Int × (Nat × Nat)) (G : Nat → Int × Int) (w : World) (hn : n ≤ 4398046511104) (hm1 : n ≤ m1) (hm2 : n ≤ m2) (had : n = 0 ∨ (a1 = some ⟨g1, 0, none⟩ ∧ a2 = some ⟨g2, o2, none⟩))
    (hc : ∀ i, i < n → w.rangeAt g1 (i * 18) (lbl (F i).1 (F i).2.1 (F i).2.2) ∧ w.rangeAt g2 (o2 + i * 18) (lbl (F i).1 (F i).2.1 (F i).2.2))
    (hnp : np ≤ 8796093022208) (hk1 : np ≤ k1) (hk2 : np ≤ k2) (hpd : np = 0 ∨ (p1 = some ⟨h1, 0, none⟩ ∧ p2 = some ⟨h2, r2, none⟩))
    (hpc : ∀ i, i < np → w.rangeAt h1 (i * 2) [.int .u64 (G i).1, .int .u64 (G i).2] ∧ w.rangeAt h2 (r2 + i * 2) [.int .u64 (G i).1, .int .u64 (G i).2]) :
    Calls Try.prog 20 #[.agg (hdi (.slice a1 n m1) (.slice p1 np k1) B x y).toArray, .agg (hdi (.slice a2 n m2) (.slice p2 np k2) B x y).toArray] w fun e w' => e = .returned (.bool true) ∧ Below w.heap.size w w' := by
  obtain ⟨N, hN⟩ : ∃ N, N = w.heap.size := ⟨_, rfl⟩
  obtain ⟨W2, hW2⟩ : ∃ W2, W2 = (w.alloc (.cells (hdi (.slice a1 n m1) (.slice p1 np k1) B x y).toArray 59)).alloc (.cells (hdi (.slice a2 n m2) (.slice p2 np k2) B x y).toArray 59) := ⟨_, rfl⟩
  have b2 : Below N w W2 := by rw [hW2, hN]; exact (below_alloc _ _).trans ((below_alloc _ _).mono (by simp))
  have e1 : Hdx W2 N (.slice a1 n m1) (.slice p1 np k1) B x y := by rw [hW2, hN]; exact (Blk.new w _ _).keep (below_alloc _ _)
  have e2 : Hdx W2 (N + 1) (.slice a2 n m2) (.slice p2 np k2) B x y := by
    have h := Blk.new (w.alloc (.cells (hdi (.slice a1 n m1) (.slice p1 np k1) B x y).toArray 59)) (hdi (.slice a2 n m2) (.slice p2 np k2) B x y).toArray 59
    rw [World.size_alloc, ← hN] at h; rw [hW2]; exact h
  have HS2 : Hid (W2.heap.size = N + 2 ∧ Below N w W2) := Lib.hid ⟨by rw [hW2, hN]; simp, b2⟩
  have HE : Hid (∀ w1, Below (N + 2) W2 w1 → Hdx w1 N (.slice a1 n m1) (.slice p1 np k1) B x y ∧ Hdx w1 (N + 1) (.slice a2 n m2) (.slice p2 np k2) B x y) := Lib.hid (fun w1 hb => ⟨Blk.below e1 hb (by omega), Blk.below e2 hb (by omega)⟩)
  have key : ∀ w1, Below (N + 2) W2 w1 → ∀ (g o : Nat) (xs : List Value), w.rangeAt g o xs → w1.rangeAt g o xs := fun w1 hb g o xs h j u hu => by
    have hb2 : Below N w w1 := b2.trans (hb.mono (by omega))
    exact (hb2.cell (p := ⟨g, o + j, none⟩) (by rw [hN]; exact World.block_lt_of_cell? w _ (h j u hu))).trans (h j u hu)
  have HC : Hid (∀ w1, Below (N + 2) W2 w1 → ∀ i, i < n → w1.rangeAt g1 (i * 18) (lbl (F i).1 (F i).2.1 (F i).2.2) ∧ w1.rangeAt g2 (o2 + i * 18) (lbl (F i).1 (F i).2.1 (F i).2.2)) := Lib.hid (fun w1 hb i hi => ⟨key w1 hb _ _ _ (hc i hi).1, key w1 hb _ _ _ (hc i hi).2⟩)
  have HP : Hid (∀ w1, Below (N + 2) W2 w1 → ∀ i, i < np → w1.rangeAt h1 (i * 2) [.int .u64 (G i).1, .int .u64 (G i).2] ∧ w1.rangeAt h2 (r2 + i * 2) [.int .u64 (G i).1, .int .u64 (G i).2]) := Lib.hid (fun w1 hb i hi => ⟨key w1 hb _ _ _ (hpc i hi).1, key w1 hb _ _ _ (hpc i hi).2⟩)
  have HAD := Lib.hid had
  have HPD := Lib.hid hpd
  have HR0 := Lib.hid (HE.out W2 (Below.refl _ _))
  have HN := Lib.hid hN
  have HW := Lib.hid hW2
  have c10 := HR0.out.1.c0
  have c11 := HR0.out.1.c1
  have c12 := HR0.out.1.c2
  have c20 := HR0.out.2.c0
  have c21 := HR0.out.2.c1
  have c22 := HR0.out.2.c2
  rw [HW.out, HN.out] at c10 c11 c12 c20 c21 c22
  have q1 := key_self' x
  have q2 := key_self' y
  clear hN hW2 e1 e2 b2 key hc hpc had hpd
  go_enter Try.func20, Try.ntmps20
  go_wp2_with (first
    | ((with_reducible show wpList _ _ _ (Oper.mk _ (Op.load 23 _) _ _ _ _ :: _) _ _); refine wpList_load_on (by rfl) 23 _ rfl N 3 (by rw [HN.out]; rfl) (kl x.1 x.2) _ (by rw [← HW.out]; exact HR0.out.1.box) Try.underlying23 rfl (by rw [kl_len]; exact size23) ?_)
    | ((with_reducible show wpList _ _ _ (Oper.mk _ (Op.load 23 _) _ _ _ _ :: _) _ _); refine wpList_load_on (by rfl) 23 _ rfl (N + 1) 3 (by rw [HN.out]; rfl) (kl x.1 x.2) _ (by rw [← HW.out]; exact HR0.out.2.box) Try.underlying23 rfl (by rw [kl_len]; exact size23) ?_)
    | ((with_reducible show wpList _ _ _ (Oper.mk _ (Op.load 23 _) _ _ _ _ :: _) _ _); refine wpList_load_on (by rfl) 23 _ rfl N 19 (by rw [HN.out]; rfl) (kl y.1 y.2) _ (by rw [← HW.out]; exact HR0.out.1.chk) Try.underlying23 rfl (by rw [kl_len]; exact size23) ?_)
    | ((with_reducible show wpList _ _ _ (Oper.mk _ (Op.load 23 _) _ _ _ _ :: _) _ _); refine wpList_load_on (by rfl) 23 _ rfl (N + 1) 19 (by rw [HN.out]; rfl) (kl y.1 y.2) _ (by rw [← HW.out]; exact HR0.out.2.chk) Try.underlying23 rfl (by rw [kl_len]; exact size23) ?_))
  rw [← HW.out, ← HN.out]
  clear q1 q2 c10 c11 c12 c20 c21 c22
  go_loopw [5] (fun i wr => ∃ (k : Nat), k ≤ n ∧ i = .int .i64 (k : Int) ∧ Hid (Below (N + 2) W2 wr)) (fun i _ => n - (intOf i).toNat)
  case atStart => exact ⟨0, by omega, rfl, Lib.hid (Below.refl _ _)⟩
  case round =>
    obtain ⟨k, hk, rfl, HBr⟩ := hrel
    have cz := (HE.out wr HBr.out).1.c0
    by_cases hlt : k < n
    · rcases HAD.out with h0 | ⟨rfl, rfl⟩
      · omega
      have l1 : (0 : Int) ≤ (k : Int) := by omega
      have l2 : (k : Int) < (n : Int) := by omega
      have HBd : Hid (Below (N + 2) W2 wr.drew) := Lib.hid HBr.out.drew
      have HCk := Lib.hid (HC.out _ HBd.out k hlt)
      have HAk := Lib.hid (HE.out _ HBd.out)
      obtain ⟨a, ha⟩ : ∃ a, a = (F k).1 := ⟨_, rfl⟩
      obtain ⟨b, hb⟩ : ∃ b, b = (F k).2.1 := ⟨_, rfl⟩
      obtain ⟨q, hq⟩ : ∃ q, q = (F k).2.2 := ⟨_, rfl⟩
      rw [← ha, ← hb, ← hq] at HCk
      clear ha hb hq hk
      go_wp2_with fail
      clear cz
      refine wp_region_inv (by kernel_rfl) (by kernel_rfl) (fun l a' w' => a' = { tmps := #[Value.agg (hdi (Value.slice (some ⟨g1, 0, none⟩) n m1) (Value.slice p1 np k1) B x y).toArray, Value.agg (hdi (Value.slice (some ⟨g2, o2, none⟩) n m2) (Value.slice p2 np k2) B x y).toArray, Value.pointer (some ⟨N, 0, none⟩), Value.pointer (some ⟨N + 1, 0, none⟩), u4, Value.int .i64 (k : Int), undef, Value.pointer (some ⟨N, 0, none⟩), Value.slice (some ⟨g1, 0, none⟩) n m1, Value.int .i64 (n : Int), Value.pointer (some ⟨N + 1, 0, none⟩), Value.slice (some ⟨g2, o2, none⟩) n m2, Value.int .i64 (n : Int), Value.bool false, Value.bool false, Value.pointer (some ⟨N, 2, none⟩), Value.slice p1 np k1, Value.int .i64 (np : Int), Value.pointer (some ⟨N + 1, 2, none⟩), Value.slice p2 np k2, Value.int .i64 (np : Int), Value.bool false, Value.bool false, Value.bool false, Value.pointer (some ⟨N, 1, none⟩), Value.int .u64 (B : Int), Value.pointer (some ⟨N + 1, 1, none⟩), Value.int .u64 (B : Int), Value.bool false, Value.bool false, Value.bool false, Value.pointer (some ⟨N, 3, none⟩), Value.agg (kl x.fst x.snd).toArray, Value.pointer (some ⟨N + 1, 3, none⟩), Value.agg (kl x.fst x.snd).toArray, Value.bool false, Value.bool false, Value.bool false, Value.pointer (some ⟨N, 19, none⟩), Value.agg (kl y.fst y.snd).toArray, Value.pointer (some ⟨N + 1, 19, none⟩), Value.agg (kl y.fst y.snd).toArray, Value.bool false, Value.bool false, Value.int .i64 (k : Int), Value.pointer (some ⟨N, 0, none⟩), Value.slice (some ⟨g1, 0, none⟩) n m1, Value.int .i64 (n : Int), Value.bool true, u49, u50, bif l 0 then Value.pointer (some ⟨N, 0, none⟩) else u51, bif l 1 then Value.slice (some ⟨g1, 0, none⟩) n m1 else u52, bif l 2 then Value.int .i64 (k : Int) else u53, bif l 3 then Value.pointer (some ⟨g1, k * 18, none⟩) else u54, bif l 4 then Value.agg (lbl a b q).toArray else u55, bif l 5 then Value.pointer (some ⟨N + 1, 0, none⟩) else u56, bif l 6 then Value.slice (some ⟨g2, o2, none⟩) n m2 else u57, bif l 7 then Value.int .i64 (k : Int) else u58, bif l 8 then Value.pointer (some ⟨g2, o2 + k * 18, none⟩) else u59, bif l 9 then Value.agg (lbl a b q).toArray else u60, bif l 10 then Value.bool false else u61, undef, undef, undef, undef, undef, undef, undef, undef, undef, undef, undef, undef, undef, undef, undef, undef, undef, undef], defers := [] } ∧ w' = wr.drew) ⟨rfl, rfl⟩ ?_ ?_
      · rintro l a' w' i ⟨rfl, rfl⟩ hi hli hpre
        have hi2 : i < 11 := hi
        have hcase : i = 0 ∨ i = 1 ∨ i = 2 ∨ i = 3 ∨ i = 4 ∨ i = 5 ∨ i = 6 ∨ i = 7 ∨ i = 8 ∨ i = 9 ∨ i = 10 := by omega
        clear hi hi2
        rcases hcase with rfl | rfl | rfl | rfl | rfl | rfl | rfl | rfl | rfl | rfl | rfl
        · -- 0: Op.fieldAddr 59 (Operand.tmp 2) 0
          refine wpOp_step rfl (fun K' hK => ?_)
          clear hpre
          rw [if_pos (by rfl)]
          go_simp
          exact hK _ _ ⟨by simp [upd, Act.put], rfl⟩
        · -- 1: Op.load 56 (Operand.tmp 51)
          have p0 : l 0 = true := hpre _ rfl ⟨0, .data⟩ (by simp) rfl
          refine wpOp_step rfl (fun K' hK => ?_)
          simp only [p0, cond_true, cond_false]
          clear hpre
          rw [if_pos (by rfl)]
          have z := HAk.out.1.c0
          go_simp
          exact hK _ _ ⟨by simp [upd, Act.put, p0], rfl⟩
        · -- 2: Op.move (Operand.tmp 5)
          refine wpOp_step rfl (fun K' hK => ?_)
          clear hpre
          rw [if_pos (by rfl)]
          go_simp
          exact hK _ _ ⟨by simp [upd, Act.put], rfl⟩
        · -- 3: Op.indexAddr 56 (Operand.tmp 52) (Operand.tmp 53)
          have p1 : l 1 = true := hpre _ rfl ⟨1, .data⟩ (by simp) rfl
          have p2 : l 2 = true := hpre _ rfl ⟨2, .data⟩ (by simp) rfl
          refine wpOp_step rfl (fun K' hK => ?_)
          simp only [p1, p2, cond_true, cond_false]
          clear hpre
          rw [if_pos (by rfl)]
          have l1 : (0 : Int) ≤ (k : Int) := by omega
          have l2 : (k : Int) < (n : Int) := by omega
          go_simp
          exact hK _ _ ⟨by simp [upd, Act.put, p1, p2], rfl⟩
        · -- 4: Op.load 112 (Operand.tmp 54)
          have p3 : l 3 = true := hpre _ rfl ⟨3, .data⟩ (by simp) rfl
          refine wpOp_step rfl (fun K' hK => ?_)
          simp only [p3, cond_true, cond_false]
          clear hpre
          rw [if_pos (by rfl)]
          refine wp_load_mid 112 _ rfl g1 (k * 18) rfl (lbl a b q) _ HCk.out.1 Try.underlying112 rfl (by rw [lbl_len]; exact sizeItm) ?_
          exact hK _ _ ⟨by simp [upd, Act.put, p3], rfl⟩
        · -- 5: Op.fieldAddr 59 (Operand.tmp 3) 0
          refine wpOp_step rfl (fun K' hK => ?_)
          clear hpre
          rw [if_pos (by rfl)]
          go_simp
          exact hK _ _ ⟨by simp [upd, Act.put], rfl⟩
        · -- 6: Op.load 56 (Operand.tmp 56)
          have p5 : l 5 = true := hpre _ rfl ⟨5, .data⟩ (by simp) rfl
          refine wpOp_step rfl (fun K' hK => ?_)
          simp only [p5, cond_true, cond_false]
          clear hpre
          rw [if_pos (by rfl)]
          have z := HAk.out.2.c0
          go_simp
          exact hK _ _ ⟨by simp [upd, Act.put, p5], rfl⟩
        · -- 7: Op.move (Operand.tmp 5)
          refine wpOp_step rfl (fun K' hK => ?_)
          clear hpre
          rw [if_pos (by rfl)]
          go_simp
          exact hK _ _ ⟨by simp [upd, Act.put], rfl⟩
        · -- 8: Op.indexAddr 56 (Operand.tmp 57) (Operand.tmp 58)
          have p6 : l 6 = true := hpre _ rfl ⟨6, .data⟩ (by simp) rfl
          have p7 : l 7 = true := hpre _ rfl ⟨7, .data⟩ (by simp) rfl
          refine wpOp_step rfl (fun K' hK => ?_)
          simp only [p6, p7, cond_true, cond_false]
          clear hpre
          rw [if_pos (by rfl)]
          have l1 : (0 : Int) ≤ (k : Int) := by omega
          have l2 : (k : Int) < (n : Int) := by omega
          go_simp
          exact hK _ _ ⟨by simp [upd, Act.put, p6, p7], rfl⟩
        · -- 9: Op.load 112 (Operand.tmp 59)
          have p8 : l 8 = true := hpre _ rfl ⟨8, .data⟩ (by simp) rfl
          refine wpOp_step rfl (fun K' hK => ?_)
          simp only [p8, cond_true, cond_false]
          clear hpre
          rw [if_pos (by rfl)]
          refine wp_load_mid 112 _ rfl g2 (o2 + k * 18) rfl (lbl a b q) _ HCk.out.2 Try.underlying112 rfl (by rw [lbl_len]; exact sizeItm) ?_
          exact hK _ _ ⟨by simp [upd, Act.put, p8], rfl⟩
        · -- 10: Op.binOp BinOp.neq 112 (Operand.tmp 55) (Operand.tmp 60) 112
          have p4 : l 4 = true := hpre _ rfl ⟨4, .data⟩ (by simp) rfl
          have p9 : l 9 = true := hpre _ rfl ⟨9, .data⟩ (by simp) rfl
          refine wpOp_step rfl (fun K' hK => ?_)
          simp only [p4, p9, cond_true, cond_false]
          clear hpre
          rw [if_pos (by rfl)]
          refine wp_neq_itm _ _ rfl a b q rfl rfl ?_
          exact hK _ _ ⟨by simp [upd, Act.put, p4, p9], rfl⟩
      · rintro l a' w9 hall ⟨rfl, rfl⟩
        simp only [hall 0 (by decide), hall 1 (by decide), hall 2 (by decide), hall 3 (by decide), hall 4 (by decide), hall 5 (by decide), hall 6 (by decide), hall 7 (by decide), hall 8 (by decide), hall 9 (by decide), hall 10 (by decide), cond_true]
        clear hall
        go_wp2_with fail
        go_roundw
        case rel => exact ⟨k + 1, by omega, by go_num, HBd⟩
        case measure => simp [intOf]; omega
    · have l3 : ¬ ((k : Int) < (n : Int)) := by omega
      go_wp2_with fail
      clear cz
      go_loopw [6] (fun i wr => ∃ (k : Nat), k ≤ np ∧ i = .int .i64 (k : Int) ∧ Hid (Below (N + 2) W2 wr)) (fun i _ => np - (intOf i).toNat)
      case atStart => exact ⟨0, by omega, rfl, HBr⟩
      case round =>
        obtain ⟨jj, hk, rfl, HBr⟩ := hrel
        have cz := (HE.out wr HBr.out).1.c2
        by_cases hlt : jj < np
        · rcases HPD.out with h0 | ⟨rfl, rfl⟩
          · omega
          have l1 : (0 : Int) ≤ (jj : Int) := by omega
          have l2 : (jj : Int) < (np : Int) := by omega
          have HBd : Hid (Below (N + 2) W2 wr.drew) := Lib.hid HBr.out.drew
          have HCk := Lib.hid (HP.out _ HBd.out jj hlt)
          have HAk := Lib.hid (HE.out _ HBd.out)
          obtain ⟨a, ha⟩ : ∃ a, a = (G jj).1 := ⟨_, rfl⟩
          obtain ⟨b, hb⟩ : ∃ b, b = (G jj).2 := ⟨_, rfl⟩
          rw [← ha, ← hb] at HCk
          clear ha hb hk
          go_wp2_with fail
          clear cz
          refine wp_region_inv (by kernel_rfl) (by kernel_rfl) (fun l a' w' => a' = { tmps := #[Value.agg (hdi (Value.slice a1 n m1) (Value.slice (some ⟨h1, 0, none⟩) np k1) B x y).toArray, Value.agg (hdi (Value.slice a2 n m2) (Value.slice (some ⟨h2, r2, none⟩) np k2) B x y).toArray, Value.pointer (some ⟨N, 0, none⟩), Value.pointer (some ⟨N + 1, 0, none⟩), u4, Value.int .i64 (k : Int), Value.int .i64 (jj : Int), Value.pointer (some ⟨N, 0, none⟩), Value.slice a1 n m1, Value.int .i64 (n : Int), Value.pointer (some ⟨N + 1, 0, none⟩), Value.slice a2 n m2, Value.int .i64 (n : Int), Value.bool false, Value.bool false, Value.pointer (some ⟨N, 2, none⟩), Value.slice (some ⟨h1, 0, none⟩) np k1, Value.int .i64 (np : Int), Value.pointer (some ⟨N + 1, 2, none⟩), Value.slice (some ⟨h2, r2, none⟩) np k2, Value.int .i64 (np : Int), Value.bool false, Value.bool false, Value.bool false, Value.pointer (some ⟨N, 1, none⟩), Value.int .u64 (B : Int), Value.pointer (some ⟨N + 1, 1, none⟩), Value.int .u64 (B : Int), Value.bool false, Value.bool false, Value.bool false, Value.pointer (some ⟨N, 3, none⟩), Value.agg (kl x.fst x.snd).toArray, Value.pointer (some ⟨N + 1, 3, none⟩), Value.agg (kl x.fst x.snd).toArray, Value.bool false, Value.bool false, Value.bool false, Value.pointer (some ⟨N, 19, none⟩), Value.agg (kl y.fst y.snd).toArray, Value.pointer (some ⟨N + 1, 19, none⟩), Value.agg (kl y.fst y.snd).toArray, Value.bool false, Value.bool false, Value.int .i64 (k : Int), Value.pointer (some ⟨N, 0, none⟩), Value.slice a1 n m1, Value.int .i64 (n : Int), Value.bool false, u49, u50, u51, u52, u53, u54, u55, u56, u57, u58, u59, u60, u61, Value.int .i64 (jj : Int), Value.pointer (some ⟨N, 2, none⟩), Value.slice (some ⟨h1, 0, none⟩) np k1, Value.int .i64 (np : Int), Value.bool true, u67, u68, bif l 0 then Value.pointer (some ⟨N, 2, none⟩) else u69, bif l 1 then Value.slice (some ⟨h1, 0, none⟩) np k1 else u70, bif l 2 then Value.int .i64 (jj : Int) else u71, bif l 3 then Value.pointer (some ⟨h1, jj * 2, none⟩) else u72, bif l 4 then Value.agg #[Value.int .u64 a, Value.int .u64 b] else u73, bif l 5 then Value.pointer (some ⟨N + 1, 2, none⟩) else u74, bif l 6 then Value.slice (some ⟨h2, r2, none⟩) np k2 else u75, bif l 7 then Value.int .i64 (jj : Int) else u76, bif l 8 then Value.pointer (some ⟨h2, r2 + jj * 2, none⟩) else u77, bif l 9 then Value.agg #[Value.int .u64 a, Value.int .u64 b] else u78, bif l 10 then Value.bool false else u79], defers := [] } ∧ w' = wr.drew) ⟨rfl, rfl⟩ ?_ ?_
          · rintro l a' w' i ⟨rfl, rfl⟩ hi hli hpre
            have hi2 : i < 11 := hi
            have hcase : i = 0 ∨ i = 1 ∨ i = 2 ∨ i = 3 ∨ i = 4 ∨ i = 5 ∨ i = 6 ∨ i = 7 ∨ i = 8 ∨ i = 9 ∨ i = 10 := by omega
            clear hi hi2
            rcases hcase with rfl | rfl | rfl | rfl | rfl | rfl | rfl | rfl | rfl | rfl | rfl
            · -- 0: Op.fieldAddr 59 (Operand.tmp 2) 2
              refine wpOp_step rfl (fun K' hK => ?_)
              clear hpre
              rw [if_pos (by rfl)]
              go_simp
              exact hK _ _ ⟨by simp [upd, Act.put], rfl⟩
            · -- 1: Op.load 57 (Operand.tmp 69)
              have p0 : l 0 = true := hpre _ rfl ⟨0, .data⟩ (by simp) rfl
              refine wpOp_step rfl (fun K' hK => ?_)
              simp only [p0, cond_true, cond_false]
              clear hpre
              rw [if_pos (by rfl)]
              have z := HAk.out.1.c2
              go_simp
              exact hK _ _ ⟨by simp [upd, Act.put, p0], rfl⟩
            · -- 2: Op.move (Operand.tmp 6)
              refine wpOp_step rfl (fun K' hK => ?_)
              clear hpre
              rw [if_pos (by rfl)]
              go_simp
              exact hK _ _ ⟨by simp [upd, Act.put], rfl⟩
            · -- 3: Op.indexAddr 57 (Operand.tmp 70) (Operand.tmp 71)
              have p1 : l 1 = true := hpre _ rfl ⟨1, .data⟩ (by simp) rfl
              have p2 : l 2 = true := hpre _ rfl ⟨2, .data⟩ (by simp) rfl
              refine wpOp_step rfl (fun K' hK => ?_)
              simp only [p1, p2, cond_true, cond_false]
              clear hpre
              rw [if_pos (by rfl)]
              have l1 : (0 : Int) ≤ (jj : Int) := by omega
              have l2 : (jj : Int) < (np : Int) := by omega
              go_simp
              exact hK _ _ ⟨by simp [upd, Act.put, p1, p2], rfl⟩
            · -- 4: Op.load 31 (Operand.tmp 72)
              have p3 : l 3 = true := hpre _ rfl ⟨3, .data⟩ (by simp) rfl
              refine wpOp_step rfl (fun K' hK => ?_)
              simp only [p3, cond_true, cond_false]
              clear hpre
              rw [if_pos (by rfl)]
              refine wp_load_mid 31 _ rfl h1 (jj * 2) rfl [.int .u64 a, .int .u64 b] _ HCk.out.1 Try.underlying31 rfl (by kernel_rfl) ?_
              exact hK _ _ ⟨by simp [upd, Act.put, p3], rfl⟩
            · -- 5: Op.fieldAddr 59 (Operand.tmp 3) 2
              refine wpOp_step rfl (fun K' hK => ?_)
              clear hpre
              rw [if_pos (by rfl)]
              go_simp
              exact hK _ _ ⟨by simp [upd, Act.put], rfl⟩
            · -- 6: Op.load 57 (Operand.tmp 74)
              have p5 : l 5 = true := hpre _ rfl ⟨5, .data⟩ (by simp) rfl
              refine wpOp_step rfl (fun K' hK => ?_)
              simp only [p5, cond_true, cond_false]
              clear hpre
              rw [if_pos (by rfl)]
              have z := HAk.out.2.c2
              go_simp
              exact hK _ _ ⟨by simp [upd, Act.put, p5], rfl⟩
            · -- 7: Op.move (Operand.tmp 6)
              refine wpOp_step rfl (fun K' hK => ?_)
              clear hpre
              rw [if_pos (by rfl)]
              go_simp
              exact hK _ _ ⟨by simp [upd, Act.put], rfl⟩
            · -- 8: Op.indexAddr 57 (Operand.tmp 75) (Operand.tmp 76)
              have p6 : l 6 = true := hpre _ rfl ⟨6, .data⟩ (by simp) rfl
              have p7 : l 7 = true := hpre _ rfl ⟨7, .data⟩ (by simp) rfl
              refine wpOp_step rfl (fun K' hK => ?_)
              simp only [p6, p7, cond_true, cond_false]
              clear hpre
              rw [if_pos (by rfl)]
              have l1 : (0 : Int) ≤ (jj : Int) := by omega
              have l2 : (jj : Int) < (np : Int) := by omega
              go_simp
              exact hK _ _ ⟨by simp [upd, Act.put, p6, p7], rfl⟩
            · -- 9: Op.load 31 (Operand.tmp 77)
              have p8 : l 8 = true := hpre _ rfl ⟨8, .data⟩ (by simp) rfl
              refine wpOp_step rfl (fun K' hK => ?_)
              simp only [p8, cond_true, cond_false]
              clear hpre
              rw [if_pos (by rfl)]
              refine wp_load_mid 31 _ rfl h2 (r2 + jj * 2) rfl [.int .u64 a, .int .u64 b] _ HCk.out.2 Try.underlying31 rfl (by kernel_rfl) ?_
              exact hK _ _ ⟨by simp [upd, Act.put, p8], rfl⟩
            · -- 10: Op.binOp BinOp.neq 31 (Operand.tmp 73) (Operand.tmp 78) 31
              have p4 : l 4 = true := hpre _ rfl ⟨4, .data⟩ (by simp) rfl
              have p9 : l 9 = true := hpre _ rfl ⟨9, .data⟩ (by simp) rfl
              refine wpOp_step rfl (fun K' hK => ?_)
              simp only [p4, p9, cond_true, cond_false]
              clear hpre
              rw [if_pos (by rfl)]
              have hq := eqpt_sg a b
              go_simp
              exact hK _ _ ⟨by simp [upd, Act.put, p4, p9], rfl⟩
          · rintro l a' w9 hall ⟨rfl, rfl⟩
            simp only [hall 0 (by decide), hall 1 (by decide), hall 2 (by decide), hall 3 (by decide), hall 4 (by decide), hall 5 (by decide), hall 6 (by decide), hall 7 (by decide), hall 8 (by decide), hall 9 (by decide), hall 10 (by decide), cond_true]
            clear hall
            go_wp2_with fail
            go_roundw
            case rel => exact ⟨jj + 1, by omega, by go_num, HBd⟩
            case measure => simp [intOf]; omega
        · have l4 : ¬ ((jj : Int) < (np : Int)) := by omega
          have HF : Hid (Below N w wr) := Lib.hid (HS2.out.2.trans (HBr.out.mono (by omega)))
          go_wp2_with fail
          go_ret
          exact ⟨by first | rfl | simp, by first | exact HF.out | (rw [← HN.out]; exact HF.out)⟩
end Go.Proofs.Ytelalpikdidpeaa
