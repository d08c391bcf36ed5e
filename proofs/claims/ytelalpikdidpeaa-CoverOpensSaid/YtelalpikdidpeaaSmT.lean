/-
  Equal slices of subsets, of which one begins anywhere.
-/
import Derived.Test.YtelalpikdidpeaaJB
namespace Go.Proofs.Ytelalpikdidpeaa
open Go.RowKit TR
set_option linter.unusedVariables false
set_option linter.unusedSimpArgs false

set_option maxRecDepth 100000 in
set_option maxHeartbeats 1000000 in
theorem sameSubs_gen (aa ab : Option Addr) (ga gb ob n ca cb : Nat) (F1 F2 : Nat → Int) (w : World) (hn : n ≤ 8796093022208) (hca : n ≤ ca) (hcb : n ≤ cb) (hca2 : ca ≤ maxLen) (hcb2 : cb ≤ maxLen) (had : n = 0 ∨ (aa = some ⟨ga, 0, none⟩ ∧ ab = some ⟨gb, ob, none⟩))
    (hc1 : ∀ i, i < n → (w.cell? ⟨ga, i * 2, none⟩ = some (.int .i64 (F1 i)) ∧ w.cell? ⟨ga, i * 2 + 1, none⟩ = some (.int .i64 (F2 i))) ∧ (w.cell? ⟨gb, ob + i * 2, none⟩ = some (.int .i64 (F1 i)) ∧ w.cell? ⟨gb, ob + i * 2 + 1, none⟩ = some (.int .i64 (F2 i)))) :
    Calls Try.prog 21 #[.slice aa n ca, .slice ab n cb] w fun e w' => e = .returned (.bool true) ∧ Below w.heap.size w w' := by
  obtain ⟨N, hN⟩ : ∃ N, N = w.heap.size := ⟨_, rfl⟩
  have HC : Hid (∀ w1, Below N w w1 → ∀ i, i < n → (w1.cell? ⟨ga, i * 2, none⟩ = some (.int .i64 (F1 i)) ∧ w1.cell? ⟨ga, i * 2 + 1, none⟩ = some (.int .i64 (F2 i))) ∧ (w1.cell? ⟨gb, ob + i * 2, none⟩ = some (.int .i64 (F1 i)) ∧ w1.cell? ⟨gb, ob + i * 2 + 1, none⟩ = some (.int .i64 (F2 i)))) := Lib.hid (fun w1 hb i hi => by
    have k : ∀ (p : Addr) v, w.cell? p = some v → w1.cell? p = some v := fun p v hv => (hb.cell (p := p) (by rw [hN]; exact World.block_lt_of_cell? w _ hv)).trans hv
    exact ⟨⟨k _ _ (hc1 i hi).1.1, k _ _ (hc1 i hi).1.2⟩, k _ _ (hc1 i hi).2.1, k _ _ (hc1 i hi).2.2⟩)
  have hm : n ≤ 9223372036854775807 := by unfold maxLen at hca2; omega
  have HAD := Lib.hid had
  have HN := Lib.hid hN
  rw [← hN]
  clear hN hc1 had hca2 hcb2
  go_enter Try.func21, Try.ntmps21
  go_wp2_with fail
  go_loopw [5] (fun i wr => ∃ (k : Nat), k ≤ n ∧ i = .int .i64 (k : Int) ∧ Hid (Below N w wr)) (fun i _ => n - (intOf i).toNat)
  case atStart => exact ⟨0, by omega, rfl, Lib.hid (Below.refl _ _)⟩
  case round =>
    obtain ⟨k, hk, rfl, HBr⟩ := hrel
    by_cases hlt : k < n
    · rcases HAD.out with h0 | ⟨rfl, rfl⟩
      · omega
      have l1 : (0 : Int) ≤ (k : Int) := by omega
      have l2 : (k : Int) < (n : Int) := by omega
      have HBd : Hid (Below N w wr.drew) := Lib.hid HBr.out.drew
      have HCk := Lib.hid (HC.out _ HBd.out k hlt)
      obtain ⟨x, hx⟩ : ∃ x, x = F1 k := ⟨_, rfl⟩
      obtain ⟨y, hy⟩ : ∃ y, y = F2 k := ⟨_, rfl⟩
      rw [← hx, ← hy] at HCk
      clear hx hy
      go_wp2_with fail
      refine wp_region_inv (by kernel_rfl) (by kernel_rfl) (fun l a' w' => a' = { tmps := #[Value.slice (some ⟨ga, 0, none⟩) n ca, Value.slice (some ⟨gb, ob, none⟩) n cb, undef, undef, u4, Value.int .i64 (k : Int), Value.slice (some ⟨ga, 0, none⟩) n ca, Value.int .i64 (n : Int), Value.slice (some ⟨gb, ob, none⟩) n cb, Value.int .i64 (n : Int), Value.bool false, Value.int .i64 (k : Int), Value.slice (some ⟨ga, 0, none⟩) n ca, Value.int .i64 (n : Int), Value.bool true, u15, u16, bif l 0 then Value.slice (some ⟨ga, 0, none⟩) n ca else u17, bif l 1 then Value.int .i64 (k : Int) else u18, bif l 2 then Value.pointer (some ⟨ga, k * 2, none⟩) else u19, bif l 3 then Value.agg #[.int .i64 x, .int .i64 y] else u20, bif l 4 then Value.slice (some ⟨gb, ob, none⟩) n cb else u21, bif l 5 then Value.int .i64 (k : Int) else u22, bif l 6 then Value.pointer (some ⟨gb, ob + k * 2, none⟩) else u23, bif l 7 then Value.agg #[.int .i64 x, .int .i64 y] else u24, bif l 8 then Value.bool false else u25], defers := [] } ∧ w' = wr.drew) ⟨rfl, rfl⟩ ?_ ?_
      · rintro l a' w' i ⟨rfl, rfl⟩ hi hli hpre
        have hi2 : i < 9 := hi
        have hcase : i = 0 ∨ i = 1 ∨ i = 2 ∨ i = 3 ∨ i = 4 ∨ i = 5 ∨ i = 6 ∨ i = 7 ∨ i = 8 := by omega
        clear hi hi2
        rcases hcase with rfl | rfl | rfl | rfl | rfl | rfl | rfl | rfl | rfl
        · -- 0: Op.move (Operand.tmp 0)
          refine wpOp_step rfl (fun K' hK => ?_)
          clear hpre
          rw [if_pos (by rfl)]
          go_simp
          exact hK _ _ ⟨by simp [upd, Act.put], rfl⟩
        · -- 1: Op.move (Operand.tmp 5)
          refine wpOp_step rfl (fun K' hK => ?_)
          clear hpre
          rw [if_pos (by rfl)]
          go_simp
          exact hK _ _ ⟨by simp [upd, Act.put], rfl⟩
        · -- 2: Op.indexAddr 57 (Operand.tmp 17) (Operand.tmp 18)
          have p0 : l 0 = true := hpre _ rfl ⟨0, .data⟩ (by simp) rfl
          have p1 : l 1 = true := hpre _ rfl ⟨1, .data⟩ (by simp) rfl
          refine wpOp_step rfl (fun K' hK => ?_)
          simp only [p0, p1, cond_true, cond_false]
          clear hpre
          rw [if_pos (by rfl)]
          have l1 : (0 : Int) ≤ (k : Int) := by omega
          have l2 : (k : Int) < (n : Int) := by omega
          go_simp
          exact hK _ _ ⟨by simp [upd, Act.put, p0, p1], rfl⟩
        · -- 3: Op.load 3 (Operand.tmp 19)
          have p2 : l 2 = true := hpre _ rfl ⟨2, .data⟩ (by simp) rfl
          refine wpOp_step rfl (fun K' hK => ?_)
          simp only [p2, cond_true, cond_false]
          clear hpre
          rw [if_pos (by rfl)]
          have z1 := HCk.out.1.1
          have z2 := HCk.out.1.2
          go_simp
          exact hK _ _ ⟨by simp [upd, Act.put, p2], rfl⟩
        · -- 4: Op.move (Operand.tmp 1)
          refine wpOp_step rfl (fun K' hK => ?_)
          clear hpre
          rw [if_pos (by rfl)]
          go_simp
          exact hK _ _ ⟨by simp [upd, Act.put], rfl⟩
        · -- 5: Op.move (Operand.tmp 5)
          refine wpOp_step rfl (fun K' hK => ?_)
          clear hpre
          rw [if_pos (by rfl)]
          go_simp
          exact hK _ _ ⟨by simp [upd, Act.put], rfl⟩
        · -- 6: Op.indexAddr 57 (Operand.tmp 21) (Operand.tmp 22)
          have p4 : l 4 = true := hpre _ rfl ⟨4, .data⟩ (by simp) rfl
          have p5 : l 5 = true := hpre _ rfl ⟨5, .data⟩ (by simp) rfl
          refine wpOp_step rfl (fun K' hK => ?_)
          simp only [p4, p5, cond_true, cond_false]
          clear hpre
          rw [if_pos (by rfl)]
          have l1 : (0 : Int) ≤ (k : Int) := by omega
          have l2 : (k : Int) < (n : Int) := by omega
          go_simp
          exact hK _ _ ⟨by simp [upd, Act.put, p4, p5], rfl⟩
        · -- 7: Op.load 3 (Operand.tmp 23)
          have p6 : l 6 = true := hpre _ rfl ⟨6, .data⟩ (by simp) rfl
          refine wpOp_step rfl (fun K' hK => ?_)
          simp only [p6, cond_true, cond_false]
          clear hpre
          rw [if_pos (by rfl)]
          have z1 := HCk.out.2.1
          have z2 := HCk.out.2.2
          go_simp
          exact hK _ _ ⟨by simp [upd, Act.put, p6], rfl⟩
        · -- 8: Op.binOp BinOp.neq 3 (Operand.tmp 20) (Operand.tmp 24) 3
          have p3 : l 3 = true := hpre _ rfl ⟨3, .data⟩ (by simp) rfl
          have p7 : l 7 = true := hpre _ rfl ⟨7, .data⟩ (by simp) rfl
          refine wpOp_step rfl (fun K' hK => ?_)
          simp only [p3, p7, cond_true, cond_false]
          clear hpre
          rw [if_pos (by rfl)]
          go_simp
          exact hK _ _ ⟨by simp [upd, Act.put, p3, p7], rfl⟩
      · rintro l a' w9 hall ⟨rfl, rfl⟩
        simp only [hall 0 (by decide), hall 1 (by decide), hall 2 (by decide), hall 3 (by decide), hall 4 (by decide), hall 5 (by decide), hall 6 (by decide), hall 7 (by decide), hall 8 (by decide), cond_true]
        clear hall
        go_wp2_with fail
        go_roundw
        case rel => exact ⟨k + 1, by omega, by go_num, HBd⟩
        case measure => simp [intOf]; omega
    · obtain rfl : n = k := by omega
      go_wp2_with fail
      go_ret
      exact ⟨rfl, HBr.out⟩
end Go.Proofs.Ytelalpikdidpeaa
