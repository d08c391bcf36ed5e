/-
  The specification's Text.
-/
import Derived.Test.YtphhppdokdageaaRfQ
import Derived.WalkSmall
namespace Go.Proofs.Ytphhppdokdageaa
open Go.RowKit SP
set_option linter.unusedVariables false
set_option linter.unusedSimpArgs false

/-- Digit m of the text of a key. -/
def tb (X Y m : Nat) : Nat := if m % 2 = 0 then hexd (kby X Y (m / 2) / 16) else hexd (kby X Y (m / 2) % 16)
theorem tb_lt (X Y m : Nat) : tb X Y m < 256 := by
  unfold tb
  have := kby_lt X Y (m / 2)
  split
  · exact hexd_lt (by omega)
  · exact hexd_lt (by omega)
def tbl (X Y k : Nat) : List Value := bl ((List.range (2 * k)).map (tb X Y))
theorem tbl_snoc (X Y k : Nat) : tbl X Y (k + 1) = tbl X Y k ++ [Value.int .u8 (hexd (kby X Y k / 16) : Int), Value.int .u8 (hexd (kby X Y k % 16) : Int)] := by
  unfold tbl
  rw [show 2 * (k + 1) = 2 * k + 1 + 1 by omega, List.range_succ, List.range_succ]
  simp [bl, u8, tb]
  rw [show (2 * k + 1) / 2 = k by omega]
theorem bst_tb (X Y : Nat) (hX : X < M) (hY : Y < M) : bst 32 (tb X Y) = txS X Y := by
  have hs : (bst 32 (tb X Y)).size = 32 := by unfold bst; rw [strOfNums_size]; simp
  refine bytes_ext _ _ (by rw [txS_size, hs]) (fun j hj => ?_)
  have hj32 : j < 32 := by first | exact hj | (rw [hs] at hj; exact hj) | (rw [txS_size] at hj; exact hj)
  have h1 : sb (bst 32 (tb X Y)) j = tb X Y j := by
    unfold sb bst
    rw [strOfNums_data]
    have hl := tb_lt X Y j
    simp [List.getD, List.getElem?_map, List.getElem?_range hj32]
    omega
  have e : ∀ x j, j < 16 → dgt x j = (if j % 2 = 0 then hexd (x / 256 ^ (7 - j / 2) % 256 / 16) else hexd (x / 256 ^ (7 - j / 2) % 256 % 16)) := by
    intro x j hj
    unfold dgt
    split
    · rw [← nib_hi x (j / 2) (by omega), show 15 - 2 * (j / 2) = 15 - j by omega]
    · rw [← nib_lo x (j / 2) (by omega), show 15 - (2 * (j / 2) + 1) = 15 - j by omega]
  by_cases h16 : j < 16
  · rw [h1, sb_txS1 X Y j h16, e X j h16]
    unfold tb
    rw [kby_hi _ _ _ (by omega)]
  · obtain ⟨i, rfl⟩ : ∃ i, j = 16 + i := ⟨j - 16, by omega⟩
    rw [h1, sb_txS2 X Y i (by omega), e Y i (by omega)]
    unfold tb
    rw [show (16 + i) / 2 = 8 + i / 2 by omega, show (16 + i) % 2 = i % 2 by omega, kby_lo _ _ _ (by omega)]

set_option maxRecDepth 100000 in
set_option maxHeartbeats 2000000 in
theorem refText_any (X Y : Nat) (w : World) (hX : X < M) (hY : Y < M) :
    Calls Try.prog 39 #[.agg (kl X Y).toArray] w fun e w' => e = .returned (.string (txS X Y)) ∧ Below w.heap.size w w' := by
  obtain ⟨i0, hi0, hz0, hz1, hz2⟩ := info_parts info5
  have HT := Lib.hid (bst_tb X Y hX hY)
  obtain ⟨N, hN⟩ : ∃ N, N = w.heap.size := ⟨_, rfl⟩
  obtain ⟨W1, hW1⟩ : ∃ W1, W1 = w.alloc (.cells (kl X Y).toArray 23) := ⟨_, rfl⟩
  have HB : Hid (Below N w W1) := Lib.hid (by rw [hW1, hN]; exact (Below.refl _ _).alloc (Nat.le_refl _) _)
  have HK : Hid (KeyAt W1 N X Y) := Lib.hid (by rw [hW1, hN]; exact KeyAt.new w X Y 23)
  have HS : Hid (W1.heap.size = N + 1) := Lib.hid (by rw [hW1, hN]; simp)
  have HW := Lib.hid hW1
  have HN := Lib.hid hN
  rw [← hN]
  clear hW1 hN hX hY
  go_enter Try.func39, Try.ntmps39
  go_wp2
  rw [← HW.out, ← HN.out]
  go_loopw [3, 4] (fun v i wr => ∃ k : Nat, k ≤ 16 ∧ i = .int .i64 (k : Int) ∧ Hid (wr.ownsRow (N + 1) 5 1 v (2 * k) (tbl X Y k)) ∧ Hid (Below (N + 1) W1 wr)) (fun _ i _ => 16 - (intOf i).toNat)
  case atStart => exact ⟨0, by omega, rfl, Lib.hid (World.ownsRow_nil _ _ _ _), Lib.hid (Below.refl _ _)⟩
  case round =>
    obtain ⟨k, hk, rfl, HO, HR⟩ := hrel
    by_cases hlt : k < 16
    · obtain ⟨v, hv⟩ : ∃ v, v = u3 := ⟨_, rfl⟩
      rw [← hv] at HO ⊢
      clear hv
      have HRs : Hid (N + 1 ≤ wr.heap.size) := Lib.hid (by rw [← HS.out]; exact HR.out.size)
      have HSn := Lib.hid (tbl_snoc X Y k)
      obtain ⟨xs, hxs⟩ : ∃ xs, xs = tbl X Y k := ⟨_, rfl⟩
      rw [← hxs] at HO HSn
      have HOw := Lib.hid HO.out
      have HCl : Hid (∀ w', Below (N + 1) wr w' → w'.cell? ⟨N, k, none⟩ = some (.int .u8 (kby X Y k : Int))) := Lib.hid (fun w' hB' => ((HK.out.below HR.out (by omega)).below hB' (by omega)).cell k hlt)
      have lc := kby_lt X Y k
      have X1 := Lib.hid (hex_index .u8 (kby X Y k / 16) (by omega))
      have X2 := Lib.hid (hex_index .u8 (kby X Y k % 16) (by omega))
      obtain ⟨c, hc⟩ : ∃ c, c = kby X Y k := ⟨_, rfl⟩
      rw [← hc] at HSn HCl lc X1 X2
      obtain ⟨d1, hd1⟩ : ∃ d1, d1 = c / 16 := ⟨_, rfl⟩
      obtain ⟨d2, hd2⟩ : ∃ d2, d2 = c % 16 := ⟨_, rfl⟩
      rw [← hd1] at HSn X1
      rw [← hd2] at HSn X2
      have b1 : d1 < 16 := by omega
      have b2 : d2 < 16 := by omega
      have E1 : Hid ((c : Int) / 16 = (d1 : Int)) := Lib.hid (by omega)
      have E2 : Hid ((c : Int).tdiv 16 = (d1 : Int)) := Lib.hid (by rw [Int.tdiv_eq_ediv_of_nonneg (by omega)]; omega)
      have E3 : Hid ((c : Int) % 16 = (d2 : Int)) := Lib.hid (by omega)
      have E4 : Hid ((c : Int).tmod 16 = (d2 : Int)) := Lib.hid (by rw [Int.tmod_eq_emod_of_nonneg (by omega)]; omega)
      have E5 : Hid (IntKind.u8.wrap (d1 : Int) = (d1 : Int)) := Lib.hid (by simp only [IntKind.wrap, IntKind.bits, IntKind.signed]; simp; omega)
      obtain ⟨h1, hh1⟩ : ∃ h1, h1 = hexd d1 := ⟨_, rfl⟩
      obtain ⟨h2, hh2⟩ : ∃ h2, h2 = hexd d2 := ⟨_, rfl⟩
      rw [← hh1] at HSn X1
      rw [← hh2] at HSn X2
      clear hc hd1 hd2 hh1 hh2 hxs HO
      have hd : decide ((k : Int) < 16) = true := decide_eq_true (by omega)
      go_wp2_with fail
      refine wp_region_inv (by kernel_rfl) (by kernel_rfl) (fun l a w' => ∃ (v2 : Value) (gb : Nat), a = { tmps := #[Value.agg (kl X Y).toArray, Value.pointer (some ⟨N, 0, none⟩), Value.string { data := #[] }, bif l 13 then v2 else v, Value.int .i64 (k : Int), Value.int .i64 (k : Int), Value.bool true, u7, u8, bif l 0 then v else u9, bif l 1 then Value.int .i64 (k : Int) else u10, bif l 2 then Value.pointer (some ⟨N, k, none⟩) else u11, bif l 3 then Value.int .u8 (c : Int) else u12, bif l 4 then Value.int .u8 (d1 : Int) else u13, bif l 5 then Value.int .u8 (h1 : Int) else u14, bif l 6 then Value.int .i64 (k : Int) else u15, bif l 7 then Value.pointer (some ⟨N, k, none⟩) else u16, bif l 8 then Value.int .u8 (c : Int) else u17, bif l 9 then Value.int .u8 (d2 : Int) else u18, bif l 10 then Value.int .u8 (h2 : Int) else u19, bif l 11 then Value.slice (some ⟨gb, 0, none⟩) 2 2 else u20, bif l 12 then v2 else u21, undef, undef], defers := [] } ∧ Below (N + 1) wr w' ∧ (l 12 = false → w'.ownsRow (N + 1) 5 1 v (2 * k) xs) ∧ (l 11 = true → l 12 = false → ∀ j u, [Value.int .u8 (h1 : Int), Value.int .u8 (h2 : Int)][j]? = some u → w'.cell? ((⟨gb, 0, none⟩ : Addr).add j) = some u) ∧ (l 12 = true → w'.ownsRow (N + 1) 5 1 v2 (2 * k + 2) (xs ++ [Value.int .u8 (h1 : Int), Value.int .u8 (h2 : Int)])) ∧ (l 12 = true → l 11 = true) ∧ (l 13 = true → l 12 = true) ∧ (l 13 = true → l 0 = true)) ⟨v, 0, rfl, (Below.refl _ _).drew, (fun _ => HOw.out), (fun h => by cases h), (fun h => by cases h), (fun h => by cases h), (fun h => by cases h), (fun h => by cases h)⟩ ?_ ?_
      · rintro l a w' i ⟨v2, gb, rfl, hB, c3, c4, c5, o1, o2, o3⟩ hi hli hpre
        have hi2 : i < 14 := hi
        have hcase : i = 0 ∨ i = 1 ∨ i = 2 ∨ i = 3 ∨ i = 4 ∨ i = 5 ∨ i = 6 ∨ i = 7 ∨ i = 8 ∨ i = 9 ∨ i = 10 ∨ i = 11 ∨ i = 12 ∨ i = 13 := by omega
        clear hi hi2
        rcases hcase with rfl | rfl | rfl | rfl | rfl | rfl | rfl | rfl | rfl | rfl | rfl | rfl | rfl | rfl
        · -- 0: Op.move (Operand.tmp 3)
          refine wpOp_step rfl (fun K hK => ?_)
          have n13 : l 13 = false := by cases h : l 13; rfl; exact absurd (o3 h) (by rw [hli]; decide)
          simp only [n13, cond_true, cond_false]
          clear hpre
          rw [if_pos (by rfl)]
          go_simp
          exact hK _ _ ⟨v2, gb, by simp [upd, Act.put, n13], hB, (fun e => c3 (by simpa [upd] using e)), (fun e1 e2 => c4 (by simpa [upd] using e1) (by simpa [upd] using e2)), (fun e => c5 (by simpa [upd] using e)), (by first | (simp [upd, n13]; done) | simpa [upd, n13] using o1), (by first | (simp [upd, n13]; done) | simpa [upd, n13] using o2), (by first | (simp [upd, n13]; done) | simpa [upd, n13] using o3)⟩
        · -- 1: Op.move (Operand.tmp 4)
          refine wpOp_step rfl (fun K hK => ?_)
          clear hpre
          rw [if_pos (by rfl)]
          go_simp
          exact hK _ _ ⟨v2, gb, by simp [upd, Act.put], hB, (fun e => c3 (by simpa [upd] using e)), (fun e1 e2 => c4 (by simpa [upd] using e1) (by simpa [upd] using e2)), (fun e => c5 (by simpa [upd] using e)), (by first | (simp [upd]; done) | simpa [upd] using o1), (by first | (simp [upd]; done) | simpa [upd] using o2), (by first | (simp [upd]; done) | simpa [upd] using o3)⟩
        · -- 2: Op.indexAddr 23 (Operand.tmp 1) (Operand.tmp 10)
          have p1 : l 1 = true := hpre _ rfl ⟨1, .data⟩ (by simp) rfl
          refine wpOp_step rfl (fun K hK => ?_)
          simp only [p1, cond_true, cond_false]
          clear hpre
          rw [if_pos (by rfl)]
          have l1 : (0 : Int) ≤ (k : Int) := by omega
          have l2 : (k : Int) < 16 := by omega
          go_simp
          exact hK _ _ ⟨v2, gb, by simp [upd, Act.put, p1], hB, (fun e => c3 (by simpa [upd] using e)), (fun e1 e2 => c4 (by simpa [upd] using e1) (by simpa [upd] using e2)), (fun e => c5 (by simpa [upd] using e)), (by first | (simp [upd, p1]; done) | simpa [upd, p1] using o1), (by first | (simp [upd, p1]; done) | simpa [upd, p1] using o2), (by first | (simp [upd, p1]; done) | simpa [upd, p1] using o3)⟩
        · -- 3: Op.load 5 (Operand.tmp 11)
          have p2 : l 2 = true := hpre _ rfl ⟨2, .data⟩ (by simp) rfl
          refine wpOp_step rfl (fun K hK => ?_)
          simp only [p2, cond_true, cond_false]
          clear hpre
          rw [if_pos (by rfl)]
          have z1 := HCl.out _ hB
          go_simp
          exact hK _ _ ⟨v2, gb, by simp [upd, Act.put, p2], hB, (fun e => c3 (by simpa [upd] using e)), (fun e1 e2 => c4 (by simpa [upd] using e1) (by simpa [upd] using e2)), (fun e => c5 (by simpa [upd] using e)), (by first | (simp [upd, p2]; done) | simpa [upd, p2] using o1), (by first | (simp [upd, p2]; done) | simpa [upd, p2] using o2), (by first | (simp [upd, p2]; done) | simpa [upd, p2] using o3)⟩
        · -- 4: Op.binOp BinOp.quo 5 (Operand.tmp 12) (Operand.con
          have p3 : l 3 = true := hpre _ rfl ⟨3, .data⟩ (by simp) rfl
          refine wpOp_step rfl (fun K hK => ?_)
          simp only [p3, cond_true, cond_false]
          clear hpre
          rw [if_pos (by rfl)]
          have z1 := E1.out
          have z2 := E2.out
          have z3 := E5.out
          go_simp
          exact hK _ _ ⟨v2, gb, by simp [upd, Act.put, p3], hB, (fun e => c3 (by simpa [upd] using e)), (fun e1 e2 => c4 (by simpa [upd] using e1) (by simpa [upd] using e2)), (fun e => c5 (by simpa [upd] using e)), (by first | (simp [upd, p3]; done) | simpa [upd, p3] using o1), (by first | (simp [upd, p3]; done) | simpa [upd, p3] using o2), (by first | (simp [upd, p3]; done) | simpa [upd, p3] using o3)⟩
        · -- 5: Op.index 9 (Operand.const (Value.string { data := 
          have p4 : l 4 = true := hpre _ rfl ⟨4, .data⟩ (by simp) rfl
          refine wpOp_step rfl (fun K hK => ?_)
          simp only [p4, cond_true, cond_false]
          clear hpre
          rw [if_pos (by rfl)]
          have z1 := X1.out
          go_simp
          exact hK _ _ ⟨v2, gb, by simp [upd, Act.put, p4], hB, (fun e => c3 (by simpa [upd] using e)), (fun e1 e2 => c4 (by simpa [upd] using e1) (by simpa [upd] using e2)), (fun e => c5 (by simpa [upd] using e)), (by first | (simp [upd, p4]; done) | simpa [upd, p4] using o1), (by first | (simp [upd, p4]; done) | simpa [upd, p4] using o2), (by first | (simp [upd, p4]; done) | simpa [upd, p4] using o3)⟩
        · -- 6: Op.move (Operand.tmp 4)
          refine wpOp_step rfl (fun K hK => ?_)
          clear hpre
          rw [if_pos (by rfl)]
          go_simp
          exact hK _ _ ⟨v2, gb, by simp [upd, Act.put], hB, (fun e => c3 (by simpa [upd] using e)), (fun e1 e2 => c4 (by simpa [upd] using e1) (by simpa [upd] using e2)), (fun e => c5 (by simpa [upd] using e)), (by first | (simp [upd]; done) | simpa [upd] using o1), (by first | (simp [upd]; done) | simpa [upd] using o2), (by first | (simp [upd]; done) | simpa [upd] using o3)⟩
        · -- 7: Op.indexAddr 23 (Operand.tmp 1) (Operand.tmp 15)
          have p6 : l 6 = true := hpre _ rfl ⟨6, .data⟩ (by simp) rfl
          refine wpOp_step rfl (fun K hK => ?_)
          simp only [p6, cond_true, cond_false]
          clear hpre
          rw [if_pos (by rfl)]
          have l1 : (0 : Int) ≤ (k : Int) := by omega
          have l2 : (k : Int) < 16 := by omega
          go_simp
          exact hK _ _ ⟨v2, gb, by simp [upd, Act.put, p6], hB, (fun e => c3 (by simpa [upd] using e)), (fun e1 e2 => c4 (by simpa [upd] using e1) (by simpa [upd] using e2)), (fun e => c5 (by simpa [upd] using e)), (by first | (simp [upd, p6]; done) | simpa [upd, p6] using o1), (by first | (simp [upd, p6]; done) | simpa [upd, p6] using o2), (by first | (simp [upd, p6]; done) | simpa [upd, p6] using o3)⟩
        · -- 8: Op.load 5 (Operand.tmp 16)
          have p7 : l 7 = true := hpre _ rfl ⟨7, .data⟩ (by simp) rfl
          refine wpOp_step rfl (fun K hK => ?_)
          simp only [p7, cond_true, cond_false]
          clear hpre
          rw [if_pos (by rfl)]
          have z1 := HCl.out _ hB
          go_simp
          exact hK _ _ ⟨v2, gb, by simp [upd, Act.put, p7], hB, (fun e => c3 (by simpa [upd] using e)), (fun e1 e2 => c4 (by simpa [upd] using e1) (by simpa [upd] using e2)), (fun e => c5 (by simpa [upd] using e)), (by first | (simp [upd, p7]; done) | simpa [upd, p7] using o1), (by first | (simp [upd, p7]; done) | simpa [upd, p7] using o2), (by first | (simp [upd, p7]; done) | simpa [upd, p7] using o3)⟩
        · -- 9: Op.binOp BinOp.rem 5 (Operand.tmp 17) (Operand.con
          have p8 : l 8 = true := hpre _ rfl ⟨8, .data⟩ (by simp) rfl
          refine wpOp_step rfl (fun K hK => ?_)
          simp only [p8, cond_true, cond_false]
          clear hpre
          rw [if_pos (by rfl)]
          have z1 := E3.out
          have z2 := E4.out
          go_simp
          exact hK _ _ ⟨v2, gb, by simp [upd, Act.put, p8], hB, (fun e => c3 (by simpa [upd] using e)), (fun e1 e2 => c4 (by simpa [upd] using e1) (by simpa [upd] using e2)), (fun e => c5 (by simpa [upd] using e)), (by first | (simp [upd, p8]; done) | simpa [upd, p8] using o1), (by first | (simp [upd, p8]; done) | simpa [upd, p8] using o2), (by first | (simp [upd, p8]; done) | simpa [upd, p8] using o3)⟩
        · -- 10: Op.index 9 (Operand.const (Value.string { data := 
          have p9 : l 9 = true := hpre _ rfl ⟨9, .data⟩ (by simp) rfl
          refine wpOp_step rfl (fun K hK => ?_)
          simp only [p9, cond_true, cond_false]
          clear hpre
          rw [if_pos (by rfl)]
          have z1 := X2.out
          go_simp
          exact hK _ _ ⟨v2, gb, by simp [upd, Act.put, p9], hB, (fun e => c3 (by simpa [upd] using e)), (fun e1 e2 => c4 (by simpa [upd] using e1) (by simpa [upd] using e2)), (fun e => c5 (by simpa [upd] using e)), (by first | (simp [upd, p9]; done) | simpa [upd, p9] using o1), (by first | (simp [upd, p9]; done) | simpa [upd, p9] using o2), (by first | (simp [upd, p9]; done) | simpa [upd, p9] using o3)⟩
        · -- 11: Op.buildSlice 26 2 #[(0, Operand.tmp 14), (1, Oper
          have p5 : l 5 = true := hpre _ rfl ⟨5, .data⟩ (by simp) rfl
          have p10 : l 10 = true := hpre _ rfl ⟨10, .data⟩ (by simp) rfl
          refine wpOp_step rfl (fun K hK => ?_)
          have n12 : l 12 = false := by cases h : l 12; rfl; exact absurd (o1 h) (by rw [hli]; decide)
          have n13 : l 13 = false := by cases h : l 13; rfl; exact absurd (o2 h) (by rw [n12]; decide)
          simp only [p5, p10, n13, n12, cond_true, cond_false]
          clear hpre
          rw [if_pos (by rfl)]
          go_simp
          exact hK _ _ ⟨v2, w'.heap.size, by simp [upd, Act.put, p5, p10, n13, n12], hB.alloc (Nat.le_trans HRs.out hB.size) _, (fun _ => (c3 n12).alloc _), (fun _ _ => cell_two_new _ _ _ _), (fun e => absurd e (by simp [upd, n12])), (by first | (simp [upd, p5, p10, n13, n12]; done) | simpa [upd, p5, p10, n13, n12] using o1), (by first | (simp [upd, p5, p10, n13, n12]; done) | simpa [upd, p5, p10, n13, n12] using o2), (by first | (simp [upd, p5, p10, n13, n12]; done) | simpa [upd, p5, p10, n13, n12] using o3)⟩
        · -- 12: Op.call { callee := Callee.builtin Builtin.append,
          have p0 : l 0 = true := hpre _ rfl ⟨0, .data⟩ (by simp) rfl
          have p11 : l 11 = true := hpre _ rfl ⟨11, .data⟩ (by simp) rfl
          refine wpOp_step rfl (fun K hK => ?_)
          have n12 : l 12 = false := hli
          have n13 : l 13 = false := by cases h : l 13; rfl; exact absurd (o2 h) (by rw [n12]; decide)
          simp only [p0, p11, n13, n12, cond_true, cond_false]
          clear hpre
          rw [if_pos (by rfl)]
          refine wp_append_own _ _ _ 26 rfl (N + 1) 5 i0 _ 1 1 Try.underlying26 hi0 hz0 hz1 hz2 rfl (by omega) v (2 * k) xs rfl (c3 n12) ⟨gb, 0, none⟩ 2 2 [Value.int .u8 (h1 : Int), Value.int .u8 (h2 : Int)] rfl rfl (c4 p11 n12) (by intro u hu; simp at hu; rcases hu with rfl | rfl <;> rfl) (by unfold maxLen; omega) (by omega) (Nat.le_trans HRs.out hB.size) ?_
          intro v1 w6 hown6 hg6 _
          exact hK _ _ ⟨v1, gb, by simp [upd, Act.put, p0, p11, n13, n12], hB.grown hg6 (Nat.le_trans HRs.out hB.size) (fun b hb => own_block (c3 n12) hb.symm), (fun e => absurd e (by simp [upd])), (fun _ e => absurd e (by simp [upd])), (fun _ => hown6), (by first | (simp [upd, p0, p11, n13, n12]; done) | simpa [upd, p0, p11, n13, n12] using o1), (by first | (simp [upd, p0, p11, n13, n12]; done) | simpa [upd, p0, p11, n13, n12] using o2), (by first | (simp [upd, p0, p11, n13, n12]; done) | simpa [upd, p0, p11, n13, n12] using o3)⟩
        · -- 13: Op.assign (Operand.tmp 21)
          have p12 : l 12 = true := hpre _ rfl ⟨12, .data⟩ (by simp) rfl
          have p0 : l 0 = true := hpre _ rfl ⟨0, .phase⟩ (by simp) rfl
          have p1 : l 1 = true := hpre _ rfl ⟨1, .phase⟩ (by simp) rfl
          have p2 : l 2 = true := hpre _ rfl ⟨2, .phase⟩ (by simp) rfl
          have p3 : l 3 = true := hpre _ rfl ⟨3, .phase⟩ (by simp) rfl
          have p4 : l 4 = true := hpre _ rfl ⟨4, .phase⟩ (by simp) rfl
          have p5 : l 5 = true := hpre _ rfl ⟨5, .phase⟩ (by simp) rfl
          have p6 : l 6 = true := hpre _ rfl ⟨6, .phase⟩ (by simp) rfl
          have p7 : l 7 = true := hpre _ rfl ⟨7, .phase⟩ (by simp) rfl
          have p8 : l 8 = true := hpre _ rfl ⟨8, .phase⟩ (by simp) rfl
          have p9 : l 9 = true := hpre _ rfl ⟨9, .phase⟩ (by simp) rfl
          have p10 : l 10 = true := hpre _ rfl ⟨10, .phase⟩ (by simp) rfl
          have p11 : l 11 = true := hpre _ rfl ⟨11, .phase⟩ (by simp) rfl
          refine wpOp_step rfl (fun K hK => ?_)
          simp only [p12, p0, p1, p2, p3, p4, p5, p6, p7, p8, p9, p10, p11, cond_true, cond_false]
          clear hpre
          rw [if_pos (by rfl)]
          go_simp
          exact hK _ _ ⟨v2, gb, by simp [upd, Act.put, p12, p0, p1, p2, p3, p4, p5, p6, p7, p8, p9, p10, p11], hB, (fun e => c3 (by simpa [upd] using e)), (fun e1 e2 => c4 (by simpa [upd] using e1) (by simpa [upd] using e2)), (fun e => c5 (by simpa [upd] using e)), (by first | (simp [upd, p12, p0, p1, p2, p3, p4, p5, p6, p7, p8, p9, p10, p11]; done) | simpa [upd, p12, p0, p1, p2, p3, p4, p5, p6, p7, p8, p9, p10, p11] using o1), (by first | (simp [upd, p12, p0, p1, p2, p3, p4, p5, p6, p7, p8, p9, p10, p11]; done) | simpa [upd, p12, p0, p1, p2, p3, p4, p5, p6, p7, p8, p9, p10, p11] using o2), (by first | (simp [upd, p12, p0, p1, p2, p3, p4, p5, p6, p7, p8, p9, p10, p11]; done) | simpa [upd, p12, p0, p1, p2, p3, p4, p5, p6, p7, p8, p9, p10, p11] using o3)⟩
      · rintro l a w9 hall ⟨v2, gb, rfl, hBz, _, _, c5, _, _, _⟩
        simp only [hall 0 (by decide), hall 1 (by decide), hall 2 (by decide), hall 3 (by decide), hall 4 (by decide), hall 5 (by decide), hall 6 (by decide), hall 7 (by decide), hall 8 (by decide), hall 9 (by decide), hall 10 (by decide), hall 11 (by decide), hall 12 (by decide), hall 13 (by decide), cond_true]
        have hOz := Lib.hid (c5 (hall 12 (by decide)))
        clear hall c5
        go_wp2
        go_roundw
        case rel => exact ⟨k + 1, by omega, by go_num, Lib.hid (by rw [HSn.out, show 2 * (k + 1) = 2 * k + 2 by omega]; exact hOz.out), Lib.hid (HR.out.trans (hBz.mono (by omega)))⟩
        case measure => simp [intOf]; omega
    · obtain rfl : k = 16 := by omega
      obtain ⟨A1, c1, hv5, hyo⟩ := own_byt HO.out (tb_lt X Y)
      subst hv5
      have V1 := conv_byt hyo
      rw [show 2 * 16 = 32 by rfl, HT.out] at V1
      go_wp2
      go_ret
      exact ⟨rfl, HB.out.trans (HR.out.mono (by omega))⟩
end Go.Proofs.Ytphhppdokdageaa
