/-
  Headers and lists that are the same.
-/
import Derived.Test.YtcbanemkjebdcaaPolT
namespace Go.Proofs.Ytcbanemkjebdcaa
open Go.RowKit SP
set_option linter.unusedVariables false
set_option linter.unusedSimpArgs false

theorem wpList_load_on {ops : Array Oper} {rest : List Oper} {op : Oper} {a : Act} {w : World} {Q : Exit → Act → World → Prop} (hw : Region.wanted op (yielded ops a.tmps) = true) (ty : TypeId) (x : Operand) (ho : op.op = .load ty x)
    (b o : Nat) (hx : a.eval x = .pointer (some ⟨b, o, none⟩)) (cs : List Value) (d : TypeDesc) (hc : w.rangeAt b o cs)
    (hu : Try.prog.underlying ty = some d) (hd : d.isRow = true) (hi : (Try.prog.info? ty).map (·.size) = some cs.length)
    (h : wpList Try.prog ops Q rest (a.put op.dst (.agg cs.toArray)) w) : wpList Try.prog ops Q (op :: rest) a w :=
  wpList_step fun K hK => by rw [if_pos hw]; exact wp_load_mid ty x ho b o hx cs d hc hu hd hi (hK _ _ h)

set_option maxRecDepth 100000 in
set_option maxHeartbeats 1000000 in
theorem sameHeader_eq (aa ab : Option Addr) (ga gb ca cb n B X Y U V : Nat) (F1 F2 : Nat → Nat) (w : World) (hX : X < M) (hY : Y < M) (hU : U < M) (hV : V < M) (hn : n ≤ 8) (hca : n ≤ ca) (hcb : n ≤ cb) (hca2 : ca ≤ maxLen) (hcb2 : cb ≤ maxLen) (had : n = 0 ∨ (aa = some ⟨ga, 0, none⟩ ∧ ab = some ⟨gb, 0, none⟩))
    (hc1 : ∀ i, i < n → w.cell? ⟨ga, i * 2, none⟩ = some (.int .u64 (F1 i : Int)) ∧ w.cell? ⟨ga, i * 2 + 1, none⟩ = some (.int .u64 (F2 i : Int))) (hc2 : ∀ i, i < n → w.cell? ⟨gb, i * 2, none⟩ = some (.int .u64 (F1 i : Int)) ∧ w.cell? ⟨gb, i * 2 + 1, none⟩ = some (.int .u64 (F2 i : Int))) :
    Calls Try.prog 22 #[.agg (hdl (.slice aa n ca) B X Y U V).toArray, .agg (hdl (.slice ab n cb) B X Y U V).toArray] w fun e w' => e = .returned (.bool true) ∧ Below w.heap.size w w' := by
  obtain ⟨N, hN⟩ : ∃ N, N = w.heap.size := ⟨_, rfl⟩
  obtain ⟨W2, hW2⟩ : ∃ W2, W2 = (w.alloc (.cells (hdl (.slice aa n ca) B X Y U V).toArray 60)).alloc (.cells (hdl (.slice ab n cb) B X Y U V).toArray 60) := ⟨_, rfl⟩
  have HB2 : Hid (Below N w W2) := Lib.hid (by rw [hW2, hN]; exact ((Below.refl _ _).alloc (Nat.le_refl _) _).alloc (by simp) _)
  have HS2 : Hid (W2.heap.size = N + 2) := Lib.hid (by rw [hW2, hN]; simp)
  have HA : Hid (∀ w1, Below (N + 2) W2 w1 → HdAt w1 N (.slice aa n ca) B X Y U V ∧ HdAt w1 (N + 1) (.slice ab n cb) B X Y U V) := Lib.hid (fun w1 h => by
    have k : HdAt W2 N (.slice aa n ca) B X Y U V := by rw [hW2, hN]; exact (HdAt.new w _ _ _ _ _ _ 60).below (below_new _ _) (by simp)
    have s : HdAt W2 (N + 1) (.slice ab n cb) B X Y U V := by
      have h := HdAt.new (w.alloc (.cells (hdl (.slice aa n ca) B X Y U V).toArray 60)) (.slice ab n cb) B X Y U V 60
      rw [World.size_alloc] at h
      rw [hW2, hN]; exact h
    exact ⟨k.below h (by omega), s.below h (by omega)⟩)
  have HC : Hid (∀ w1, Below (N + 2) W2 w1 → ∀ i, i < n → (w1.cell? ⟨ga, i * 2, none⟩ = some (.int .u64 (F1 i : Int)) ∧ w1.cell? ⟨ga, i * 2 + 1, none⟩ = some (.int .u64 (F2 i : Int))) ∧ (w1.cell? ⟨gb, i * 2, none⟩ = some (.int .u64 (F1 i : Int)) ∧ w1.cell? ⟨gb, i * 2 + 1, none⟩ = some (.int .u64 (F2 i : Int)))) := Lib.hid (fun w1 h i hi => by
    have hb : Below N w w1 := HB2.out.trans (h.mono (by omega))
    have k : ∀ (p : Addr) v, w.cell? p = some v → w1.cell? p = some v := fun p v hv => (hb.cell (p := p) (by rw [hN]; exact World.block_lt_of_cell? w _ hv)).trans hv
    exact ⟨⟨k _ _ (hc1 i hi).1, k _ _ (hc1 i hi).2⟩, ⟨k _ _ (hc2 i hi).1, k _ _ (hc2 i hi).2⟩⟩)
  have HQ1 : Hid (∀ w, (Op.equalIn 10000 23 (.agg (kl X Y).toArray) (.agg (kl X Y).toArray)).run Try.prog w = .ok true w) := Lib.hid (fun w => by rw [run_equal_key hX hY hX hY w]; simp [same])
  have HQ2 : Hid (∀ w, (Op.equalIn 10000 23 (.agg (kl U V).toArray) (.agg (kl U V).toArray)).run Try.prog w = .ok true w) := Lib.hid (fun w => by rw [run_equal_key hU hV hU hV w]; simp [same])
  have HR0 := Lib.hid (HA.out W2 (Below.refl _ _))
  have HAD := Lib.hid had
  have HN := Lib.hid hN
  have HW := Lib.hid hW2
  have a0 := HR0.out.1.c0
  have a1 := HR0.out.1.c1
  have a2 := HR0.out.1.c2
  have b0 := HR0.out.2.c0
  have b1 := HR0.out.2.c1
  have b2 := HR0.out.2.c2
  rw [HW.out, HN.out] at a0 a1 a2 b0 b1 b2
  have q1 := HQ1.out
  have q2 := HQ2.out
  clear hN hW2 hX hY hU hV hc1 hc2 had
  go_enter Try.func22, Try.ntmps22
  go_wp2_with (first
    | (refine wpList_load_on (by rfl) 23 _ rfl N 3 (by rw [HN.out]; rfl) (kl X Y) _ (by rw [← HW.out]; exact HR0.out.1.box) Try.underlying23 rfl (by rw [kl_len]; exact size23) ?_)
    | (refine wpList_load_on (by rfl) 23 _ rfl (N + 1) 3 (by rw [HN.out]; rfl) (kl X Y) _ (by rw [← HW.out]; exact HR0.out.2.box) Try.underlying23 rfl (by rw [kl_len]; exact size23) ?_)
    | (refine wpList_load_on (by rfl) 23 _ rfl N 19 (by rw [HN.out]; rfl) (kl U V) _ (by rw [← HW.out]; exact HR0.out.1.chk) Try.underlying23 rfl (by rw [kl_len]; exact size23) ?_)
    | (refine wpList_load_on (by rfl) 23 _ rfl (N + 1) 19 (by rw [HN.out]; rfl) (kl U V) _ (by rw [← HW.out]; exact HR0.out.2.chk) Try.underlying23 rfl (by rw [kl_len]; exact size23) ?_))
  rw [← HW.out, ← HN.out]
  have a0 := HR0.out.1.c0
  clear q1 q2 a1 a2 b0 b1 b2
  refine wp_loop_rounds 1 ?_
  rw [rounds_succ]
  go_wp2_with fail
  clear a0
  go_loopw [6] (fun i wr => ∃ (k : Nat), k ≤ n ∧ i = .int .i64 (k : Int) ∧ Hid (Below (N + 2) W2 wr)) (fun i _ => n - (intOf i).toNat)
  case atStart => exact ⟨0, by omega, rfl, Lib.hid (Below.refl _ _)⟩
  case round =>
    obtain ⟨k, hk, rfl, HBr⟩ := hrel
    have a2 := (HA.out wr HBr.out).1.c2
    by_cases hlt : k < n
    · rcases HAD.out with h0 | ⟨rfl, rfl⟩
      · omega
      have l1 : (0 : Int) ≤ (k : Int) := by omega
      have l2 : (k : Int) < (n : Int) := by omega
      have HBd : Hid (Below (N + 2) W2 wr.drew) := Lib.hid HBr.out.drew
      have HCk := Lib.hid (HC.out _ HBd.out k hlt)
      have HAk := Lib.hid (HA.out _ HBd.out)
      obtain ⟨x, hx⟩ : ∃ x, x = F1 k := ⟨_, rfl⟩
      obtain ⟨y, hy⟩ : ∃ y, y = F2 k := ⟨_, rfl⟩
      rw [← hx, ← hy] at HCk
      clear hx hy
      go_wp2_with fail
      refine wp_region_inv (by kernel_rfl) (by kernel_rfl) (fun l a' w' => a' = { tmps := #[Value.agg (hdl (Value.slice (some ⟨ga, 0, none⟩) n ca) B X Y U V).toArray, Value.agg (hdl (Value.slice (some ⟨gb, 0, none⟩) n cb) B X Y U V).toArray, Value.pointer (some ⟨N, 0, none⟩), Value.pointer (some ⟨N + 1, 0, none⟩), u4, Value.int .i64 (0 : Int), Value.int .i64 (k : Int), Value.pointer (some ⟨N, 0, none⟩), Value.slice none 0 0, Value.int .i64 (0 : Int), Value.pointer (some ⟨N + 1, 0, none⟩), Value.slice none 0 0, Value.int .i64 (0 : Int), Value.bool false, Value.bool false, Value.pointer (some ⟨N, 2, none⟩), Value.slice (some ⟨ga, 0, none⟩) n ca, Value.int .i64 (n : Int), Value.pointer (some ⟨N + 1, 2, none⟩), Value.slice (some ⟨gb, 0, none⟩) n cb, Value.int .i64 (n : Int), Value.bool false, Value.bool false, Value.bool false, Value.pointer (some ⟨N, 1, none⟩), Value.int .u64 (B : Int), Value.pointer (some ⟨N + 1, 1, none⟩), Value.int .u64 (B : Int), Value.bool false, Value.bool false, Value.bool false, Value.pointer (some ⟨N, 3, none⟩), Value.agg (kl X Y).toArray, Value.pointer (some ⟨N + 1, 3, none⟩), Value.agg (kl X Y).toArray, Value.bool false, Value.bool false, Value.bool false, Value.pointer (some ⟨N, 19, none⟩), Value.agg (kl U V).toArray, Value.pointer (some ⟨N + 1, 19, none⟩), Value.agg (kl U V).toArray, Value.bool false, Value.bool false, Value.int .i64 (0 : Int), Value.pointer (some ⟨N, 0, none⟩), Value.slice none 0 0, Value.int .i64 (0 : Int), Value.bool false, undef, undef, undef, undef, undef, undef, undef, undef, undef, undef, undef, undef, undef, Value.int .i64 (k : Int), Value.pointer (some ⟨N, 2, none⟩), Value.slice (some ⟨ga, 0, none⟩) n ca, Value.int .i64 (n : Int), Value.bool true, u67, u68, bif l 0 then Value.pointer (some ⟨N, 2, none⟩) else u69, bif l 1 then Value.slice (some ⟨ga, 0, none⟩) n ca else u70, bif l 2 then Value.int .i64 (k : Int) else u71, bif l 3 then Value.pointer (some ⟨ga, k * 2, none⟩) else u72, bif l 4 then Value.agg #[Value.int .u64 (x : Int), Value.int .u64 (y : Int)] else u73, bif l 5 then Value.pointer (some ⟨N + 1, 2, none⟩) else u74, bif l 6 then Value.slice (some ⟨gb, 0, none⟩) n cb else u75, bif l 7 then Value.int .i64 (k : Int) else u76, bif l 8 then Value.pointer (some ⟨gb, k * 2, none⟩) else u77, bif l 9 then Value.agg #[Value.int .u64 (x : Int), Value.int .u64 (y : Int)] else u78, bif l 10 then Value.bool false else u79], defers := [] } ∧ w' = wr.drew) ⟨rfl, rfl⟩ ?_ ?_
      · rintro l a' w' i ⟨rfl, rfl⟩ hi hli hpre
        have hi2 : i < 11 := hi
        have hcase : i = 0 ∨ i = 1 ∨ i = 2 ∨ i = 3 ∨ i = 4 ∨ i = 5 ∨ i = 6 ∨ i = 7 ∨ i = 8 ∨ i = 9 ∨ i = 10 := by omega
        clear hi hi2
        rcases hcase with rfl | rfl | rfl | rfl | rfl | rfl | rfl | rfl | rfl | rfl | rfl
        · -- 0: Op.fieldAddr 60 (Operand.tmp 2) 2
          refine wpOp_step rfl (fun K' hK => ?_)
          clear hpre
          rw [if_pos (by rfl)]
          go_simp
          exact hK _ _ ⟨by simp [upd, Act.put], rfl⟩
        · -- 1: Op.load 30 (Operand.tmp 69)
          have p0 : l 0 = true := hpre _ rfl ⟨0, .data⟩ (by simp) rfl
          refine wpOp_step rfl (fun K' hK => ?_)
          simp only [p0, cond_true, cond_false]
          clear hpre
          rw [if_pos (by rfl)]
          have z := HAk.out.1.c2
          go_simp
          exact hK _ _ ⟨by simp [upd, Act.put, p0], rfl⟩
        · -- 2: Op.move (Operand.tmp 6)
          refine wpOp_step rfl (fun K' hK => ?_)
          clear hpre
          rw [if_pos (by rfl)]
          go_simp
          exact hK _ _ ⟨by simp [upd, Act.put], rfl⟩
        · -- 3: Op.indexAddr 30 (Operand.tmp 70) (Operand.tmp 71)
          have p1 : l 1 = true := hpre _ rfl ⟨1, .data⟩ (by simp) rfl
          have p2 : l 2 = true := hpre _ rfl ⟨2, .data⟩ (by simp) rfl
          refine wpOp_step rfl (fun K' hK => ?_)
          simp only [p1, p2, cond_true, cond_false]
          clear hpre
          rw [if_pos (by rfl)]
          have l1 : (0 : Int) ≤ (k : Int) := by omega
          have l2 : (k : Int) < (n : Int) := by omega
          go_simp
          exact hK _ _ ⟨by simp [upd, Act.put, p1, p2], rfl⟩
        · -- 4: Op.load 46 (Operand.tmp 72)
          have p3 : l 3 = true := hpre _ rfl ⟨3, .data⟩ (by simp) rfl
          refine wpOp_step rfl (fun K' hK => ?_)
          simp only [p3, cond_true, cond_false]
          clear hpre
          rw [if_pos (by rfl)]
          have z1 := HCk.out.1.1
          have z2 := HCk.out.1.2
          go_simp
          exact hK _ _ ⟨by simp [upd, Act.put, p3], rfl⟩
        · -- 5: Op.fieldAddr 60 (Operand.tmp 3) 2
          refine wpOp_step rfl (fun K' hK => ?_)
          clear hpre
          rw [if_pos (by rfl)]
          go_simp
          exact hK _ _ ⟨by simp [upd, Act.put], rfl⟩
        · -- 6: Op.load 30 (Operand.tmp 74)
          have p5 : l 5 = true := hpre _ rfl ⟨5, .data⟩ (by simp) rfl
          refine wpOp_step rfl (fun K' hK => ?_)
          simp only [p5, cond_true, cond_false]
          clear hpre
          rw [if_pos (by rfl)]
          have z := HAk.out.2.c2
          go_simp
          exact hK _ _ ⟨by simp [upd, Act.put, p5], rfl⟩
        · -- 7: Op.move (Operand.tmp 6)
          refine wpOp_step rfl (fun K' hK => ?_)
          clear hpre
          rw [if_pos (by rfl)]
          go_simp
          exact hK _ _ ⟨by simp [upd, Act.put], rfl⟩
        · -- 8: Op.indexAddr 30 (Operand.tmp 75) (Operand.tmp 76)
          have p6 : l 6 = true := hpre _ rfl ⟨6, .data⟩ (by simp) rfl
          have p7 : l 7 = true := hpre _ rfl ⟨7, .data⟩ (by simp) rfl
          refine wpOp_step rfl (fun K' hK => ?_)
          simp only [p6, p7, cond_true, cond_false]
          clear hpre
          rw [if_pos (by rfl)]
          have l1 : (0 : Int) ≤ (k : Int) := by omega
          have l2 : (k : Int) < (n : Int) := by omega
          go_simp
          exact hK _ _ ⟨by simp [upd, Act.put, p6, p7], rfl⟩
        · -- 9: Op.load 46 (Operand.tmp 77)
          have p8 : l 8 = true := hpre _ rfl ⟨8, .data⟩ (by simp) rfl
          refine wpOp_step rfl (fun K' hK => ?_)
          simp only [p8, cond_true, cond_false]
          clear hpre
          rw [if_pos (by rfl)]
          have z1 := HCk.out.2.1
          have z2 := HCk.out.2.2
          go_simp
          exact hK _ _ ⟨by simp [upd, Act.put, p8], rfl⟩
        · -- 10: Op.binOp BinOp.neq 46 (Operand.tmp 73) (Operand.tmp 78) 46
          have p4 : l 4 = true := hpre _ rfl ⟨4, .data⟩ (by simp) rfl
          have p9 : l 9 = true := hpre _ rfl ⟨9, .data⟩ (by simp) rfl
          refine wpOp_step rfl (fun K' hK => ?_)
          simp only [p4, p9, cond_true, cond_false]
          clear hpre
          rw [if_pos (by rfl)]
          go_simp
          exact hK _ _ ⟨by simp [upd, Act.put, p4, p9], rfl⟩
      · rintro l a' w9 hall ⟨rfl, rfl⟩
        simp only [hall 0 (by decide), hall 1 (by decide), hall 2 (by decide), hall 3 (by decide), hall 4 (by decide), hall 5 (by decide), hall 6 (by decide), hall 7 (by decide), hall 8 (by decide), hall 9 (by decide), hall 10 (by decide), cond_true]
        clear hall
        go_wp2_with fail
        go_roundw
        case rel => exact ⟨k + 1, by omega, by go_num, HBd⟩
        case measure => simp [intOf]; omega
    · obtain rfl : n = k := by omega
      have HF : Hid (Below N w wr) := Lib.hid (HB2.out.trans (HBr.out.mono (by omega)))
      go_wp2_with fail
      go_ret
      exact ⟨rfl, by rw [← HN.out]; exact HF.out⟩

set_option maxRecDepth 100000 in
set_option maxHeartbeats 1000000 in
theorem sameInts_eq (aa ab : Option Addr) (ga ob gb n ca cb : Nat) (F : Nat → Int) (w : World) (hca : n ≤ ca) (hcb : n ≤ cb) (hca2 : ca ≤ maxLen) (hcb2 : cb ≤ maxLen) (had : n = 0 ∨ (aa = some ⟨ga, 0, none⟩ ∧ ab = some ⟨gb, ob, none⟩))
    (hc1 : ∀ i, i < n → w.cell? ⟨ga, i, none⟩ = some (.int .i64 (F i)) ∧ w.cell? ⟨gb, ob + i, none⟩ = some (.int .i64 (F i))) :
    Calls Try.prog 23 #[.slice aa n ca, .slice ab n cb] w fun e w' => e = .returned (.bool true) ∧ Below w.heap.size w w' := by
  obtain ⟨N, hN⟩ : ∃ N, N = w.heap.size := ⟨_, rfl⟩
  have HC : Hid (∀ w1, Below N w w1 → ∀ i, i < n → w1.cell? ⟨ga, i, none⟩ = some (.int .i64 (F i)) ∧ w1.cell? ⟨gb, ob + i, none⟩ = some (.int .i64 (F i))) := Lib.hid (fun w1 hb i hi => by
    have k : ∀ (p : Addr) v, w.cell? p = some v → w1.cell? p = some v := fun p v hv => (hb.cell (p := p) (by rw [hN]; exact World.block_lt_of_cell? w _ hv)).trans hv
    exact ⟨k _ _ (hc1 i hi).1, k _ _ (hc1 i hi).2⟩)
  have hm : n ≤ 9223372036854775807 := by unfold maxLen at hca2; omega
  have HAD := Lib.hid had
  have HN := Lib.hid hN
  rw [← hN]
  clear hN hc1 had hca2 hcb2
  go_enter Try.func23, Try.ntmps23
  go_wp2_with fail
  go_loopw [5] (fun i wr => ∃ (k : Nat), k ≤ n ∧ i = .int .i64 (k : Int) ∧ Hid (Below N w wr)) (fun i _ => n - (intOf i).toNat)
  case atStart => exact ⟨0, by omega, rfl, Lib.hid (Below.refl _ _)⟩
  case round =>
    obtain ⟨k, hk, rfl, HBr⟩ := hrel
    by_cases hlt : k < n
    · rcases HAD.out with h0 | ⟨rfl, rfl⟩
      · omega
      have l1 : (0 : Int) ≤ (k : Int) := by omega
      have l2 : (k : Int) < (n : Int) := by omega
      have HBd : Hid (Below N w wr.drew) := Lib.hid HBr.out.drew
      have HCk := Lib.hid (HC.out _ HBd.out k hlt)
      obtain ⟨x, hx⟩ : ∃ x, x = F k := ⟨_, rfl⟩
      rw [← hx] at HCk
      clear hx
      go_wp2_with fail
      refine wp_region_inv (by kernel_rfl) (by kernel_rfl) (fun l a' w' => a' = { tmps := #[Value.slice (some ⟨ga, 0, none⟩) n ca, Value.slice (some ⟨gb, ob, none⟩) n cb, undef, undef, u4, Value.int .i64 (k : Int), Value.slice (some ⟨ga, 0, none⟩) n ca, Value.int .i64 (n : Int), Value.slice (some ⟨gb, ob, none⟩) n cb, Value.int .i64 (n : Int), Value.bool false, Value.int .i64 (k : Int), Value.slice (some ⟨ga, 0, none⟩) n ca, Value.int .i64 (n : Int), Value.bool true, u15, u16, bif l 0 then Value.slice (some ⟨ga, 0, none⟩) n ca else u17, bif l 1 then Value.int .i64 (k : Int) else u18, bif l 2 then Value.pointer (some ⟨ga, k, none⟩) else u19, bif l 3 then Value.int .i64 x else u20, bif l 4 then Value.slice (some ⟨gb, ob, none⟩) n cb else u21, bif l 5 then Value.int .i64 (k : Int) else u22, bif l 6 then Value.pointer (some ⟨gb, ob + k, none⟩) else u23, bif l 7 then Value.int .i64 x else u24, bif l 8 then Value.bool false else u25], defers := [] } ∧ w' = wr.drew) ⟨rfl, rfl⟩ ?_ ?_
      · rintro l a' w' i ⟨rfl, rfl⟩ hi hli hpre
        have hi2 : i < 9 := hi
        have hcase : i = 0 ∨ i = 1 ∨ i = 2 ∨ i = 3 ∨ i = 4 ∨ i = 5 ∨ i = 6 ∨ i = 7 ∨ i = 8 := by omega
        clear hi hi2
        rcases hcase with rfl | rfl | rfl | rfl | rfl | rfl | rfl | rfl | rfl
        · -- 0: Op.move (Operand.tmp 0)
          refine wpOp_step rfl (fun K' hK => ?_)
          clear hpre
          rw [if_pos (by rfl)]
          go_simp
          exact hK _ _ ⟨by simp [upd, Act.put], rfl⟩
        · -- 1: Op.move (Operand.tmp 5)
          refine wpOp_step rfl (fun K' hK => ?_)
          clear hpre
          rw [if_pos (by rfl)]
          go_simp
          exact hK _ _ ⟨by simp [upd, Act.put], rfl⟩
        · -- 2: Op.indexAddr 57 (Operand.tmp 17) (Operand.tmp 18)
          have p0 : l 0 = true := hpre _ rfl ⟨0, .data⟩ (by simp) rfl
          have p1 : l 1 = true := hpre _ rfl ⟨1, .data⟩ (by simp) rfl
          refine wpOp_step rfl (fun K' hK => ?_)
          simp only [p0, p1, cond_true, cond_false]
          clear hpre
          rw [if_pos (by rfl)]
          have l1 : (0 : Int) ≤ (k : Int) := by omega
          have l2 : (k : Int) < (n : Int) := by omega
          go_simp
          exact hK _ _ ⟨by simp [upd, Act.put, p0, p1], rfl⟩
        · -- 3: Op.load 3 (Operand.tmp 19)
          have p2 : l 2 = true := hpre _ rfl ⟨2, .data⟩ (by simp) rfl
          refine wpOp_step rfl (fun K' hK => ?_)
          simp only [p2, cond_true, cond_false]
          clear hpre
          rw [if_pos (by rfl)]
          have z := HCk.out.1
          go_simp
          exact hK _ _ ⟨by simp [upd, Act.put, p2], rfl⟩
        · -- 4: Op.move (Operand.tmp 1)
          refine wpOp_step rfl (fun K' hK => ?_)
          clear hpre
          rw [if_pos (by rfl)]
          go_simp
          exact hK _ _ ⟨by simp [upd, Act.put], rfl⟩
        · -- 5: Op.move (Operand.tmp 5)
          refine wpOp_step rfl (fun K' hK => ?_)
          clear hpre
          rw [if_pos (by rfl)]
          go_simp
          exact hK _ _ ⟨by simp [upd, Act.put], rfl⟩
        · -- 6: Op.indexAddr 57 (Operand.tmp 21) (Operand.tmp 22)
          have p4 : l 4 = true := hpre _ rfl ⟨4, .data⟩ (by simp) rfl
          have p5 : l 5 = true := hpre _ rfl ⟨5, .data⟩ (by simp) rfl
          refine wpOp_step rfl (fun K' hK => ?_)
          simp only [p4, p5, cond_true, cond_false]
          clear hpre
          rw [if_pos (by rfl)]
          have l1 : (0 : Int) ≤ (k : Int) := by omega
          have l2 : (k : Int) < (n : Int) := by omega
          go_simp
          exact hK _ _ ⟨by simp [upd, Act.put, p4, p5], rfl⟩
        · -- 7: Op.load 3 (Operand.tmp 23)
          have p6 : l 6 = true := hpre _ rfl ⟨6, .data⟩ (by simp) rfl
          refine wpOp_step rfl (fun K' hK => ?_)
          simp only [p6, cond_true, cond_false]
          clear hpre
          rw [if_pos (by rfl)]
          have z := HCk.out.2
          go_simp
          exact hK _ _ ⟨by simp [upd, Act.put, p6], rfl⟩
        · -- 8: Op.binOp BinOp.neq 3 (Operand.tmp 20) (Operand.tmp 24) 3
          have p3 : l 3 = true := hpre _ rfl ⟨3, .data⟩ (by simp) rfl
          have p7 : l 7 = true := hpre _ rfl ⟨7, .data⟩ (by simp) rfl
          refine wpOp_step rfl (fun K' hK => ?_)
          simp only [p3, p7, cond_true, cond_false]
          clear hpre
          rw [if_pos (by rfl)]
          go_simp
          exact hK _ _ ⟨by simp [upd, Act.put, p3, p7], rfl⟩
      · rintro l a' w9 hall ⟨rfl, rfl⟩
        simp only [hall 0 (by decide), hall 1 (by decide), hall 2 (by decide), hall 3 (by decide), hall 4 (by decide), hall 5 (by decide), hall 6 (by decide), hall 7 (by decide), hall 8 (by decide), cond_true]
        clear hall
        go_wp2_with fail
        go_roundw
        case rel => exact ⟨k + 1, by omega, by go_num, HBd⟩
        case measure => simp [intOf]; omega
    · obtain rfl : n = k := by omega
      go_wp2_with fail
      go_ret
      exact ⟨rfl, HBr.out⟩
end Go.Proofs.Ytcbanemkjebdcaa
