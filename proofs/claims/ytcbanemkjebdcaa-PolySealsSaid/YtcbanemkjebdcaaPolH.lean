/-
  The secret polynomial of the program: its contract.
-/
import Derived.Test.YtcbanemkjebdcaaPolD
import Derived.Test.YtcbanemkjebdcaaPolG
import Derived.OneCell
namespace Go.Proofs.Ytcbanemkjebdcaa
open Go.RowKit SP
set_option linter.unusedVariables false
set_option linter.unusedSimpArgs false

theorem two_fr (w : World) (a b : Value) (t : TypeId) (o : Nat) : (w.alloc (.cells #[a, b] t)).frozen? ⟨w.heap.size, o, none⟩ = false := by
  unfold World.frozen?; rw [heap_alloc_new]; simp
theorem own_form {w : World} {base e size n : Nat} {v : Value} {xs : List Value} (ho : w.ownsRow base e size v n xs) : ∃ A m c, v = .slice A m c := by
  rcases ho.2 with ⟨h, _⟩ | ⟨g, cap, _, h, _⟩
  · exact ⟨_, _, _, h⟩
  · exact ⟨_, _, _, h⟩
theorem own_apart {w : World} {F n : Nat} {v : Value} {xs : List Value} {e size : Nat} (h : w.ownsRow (F + 1) e size v n xs) (o : Nat) (u : Value) : (w.setCell ⟨F, o, none⟩ u).ownsRow (F + 1) e size v n xs :=
  ownsRow_setCell_other h (fun hb => by have := own_block h hb.symm; simp at this; omega) u

set_option maxRecDepth 100000 in
set_option maxHeartbeats 4000000 in
theorem secretPoly_any (X Y : Nat) (K D : Int) (E P Q G : Nat) (w : World) (hX : X < M) (hY : Y < M) (hE : E ≤ 8) :
    Calls Try.prog 38 #[.agg (kl X Y).toArray, .agg #[.int .u8 K, .int .i64 D, .int .i64 (E : Int), .int .u64 (P : Int), .int .u64 (Q : Int), .int .u64 (G : Int)]] w fun r w' => (∃ g c, r = .returned (.agg #[.int .u64 (Q : Int), .slice (some ⟨g, 0, none⟩) (E + 1 : Nat) c]) ∧ w.heap.size ≤ g ∧ E + 1 ≤ c ∧ c ≤ maxLen ∧ ∀ i, i < E + 1 → w'.cell? ⟨g, i, none⟩ = some (.int .u64 (cof X Y Q i : Int))) ∧ Below w.heap.size w w' := by
  obtain ⟨i0, hi, hz0, hz1, hz2⟩ := info_parts info30
  obtain ⟨N, hN⟩ : ∃ N, N = w.heap.size := ⟨_, rfl⟩
  obtain ⟨W2, hW2⟩ : ∃ W2, W2 = ((w.alloc (.cells (kl X Y).toArray 23)).alloc (.cells #[.int .u8 K, .int .i64 D, .int .i64 (E : Int), .int .u64 (P : Int), .int .u64 (Q : Int), .int .u64 (G : Int)] 28)).alloc (.cells #[.int .u64 0, .slice none 0 0] 94) := ⟨_, rfl⟩
  have HB2 : Hid (Below N w W2) := Lib.hid (by rw [hW2, hN]; exact (((Below.refl _ _).alloc (Nat.le_refl _) _).alloc (by simp) _).alloc (by simp; omega) _)
  have HS2 : Hid (W2.heap.size = N + 3) := Lib.hid (by rw [hW2, hN]; simp)
  have HK : Hid (KeyAt W2 N X Y) := Lib.hid (by rw [hW2, hN]; exact ((KeyAt.new w X Y 23).alloc _).alloc _)
  have HSc : Hid (SchAt W2 (N + 1) K D (E : Int) P Q G) := Lib.hid (by
    have h := SchAt.new (w.alloc (.cells (kl X Y).toArray 23)) K D (E : Int) P Q G
    rw [World.size_alloc] at h
    rw [hW2, hN]; exact h.below ((Below.refl _ _).alloc (Nat.le_refl _) _) (by simp))
  have HR0 : Hid (W2.cell? ⟨N + 2, 0, none⟩ = some (.int .u64 0) ∧ W2.cell? ⟨N + 2, 1, none⟩ = some (.slice none 0 0) ∧ W2.frozen? ⟨N + 2, 0, none⟩ = false ∧ W2.frozen? ⟨N + 2, 1, none⟩ = false) := Lib.hid (by
    have e : N + 2 = ((w.alloc (.cells (kl X Y).toArray 23)).alloc (.cells #[.int .u8 K, .int .i64 D, .int .i64 (E : Int), .int .u64 (P : Int), .int .u64 (Q : Int), .int .u64 (G : Int)] 28)).heap.size := by rw [hN]; simp
    rw [hW2, e]
    exact ⟨(two_new _ _ _ _).1, (two_new _ _ _ _).2, two_fr _ _ _ _ _, two_fr _ _ _ _ _⟩)
  have HD := Lib.hid (fun w => derive_any X Y 40 0 w hX hY (by decide) (by decide))
  have hok := drv_ok hX hY (show 40 < 256 by decide) (show 0 < M by decide)
  have HC : Hid (∀ i, cof X Y Q i = numb (drv X Y 40 0).1 (drv X Y 40 0).2 i Q) := Lib.hid (fun i => rfl)
  obtain ⟨p, hp⟩ : ∃ p, p = (drv X Y 40 0).1 := ⟨_, rfl⟩
  obtain ⟨q, hq⟩ : ∃ q, q = (drv X Y 40 0).2 := ⟨_, rfl⟩
  rw [← hp] at HD HC
  rw [← hq] at HD HC
  have HPQ : Hid (p < M ∧ q < M) := Lib.hid (by rw [hp, hq]; exact hok)
  have HNu := Lib.hid (fun (n : Nat) (w : World) (hn : n < M) => number_any p q n Q w HPQ.out.1 HPQ.out.2 hn)
  have HW := Lib.hid hW2
  have HN := Lib.hid hN
  rw [← hN]
  clear hW2 hX hY hok hp hq hN
  go_enter Try.func38, Try.ntmps38
  go_wp2_with (refine wpList_load_key rfl _ rfl _ rfl X Y (by rw [← HW.out, ← HN.out]; exact HK.out) ?_)
  rw [← HW.out, ← HN.out]
  refine (HD.out _).mono ?_
  rintro e w3 ⟨rfl, hb3⟩
  have HT3 := Lib.hid (Row.zeros w3 23).there
  obtain ⟨kb, hkb⟩ : ∃ kb, kb = w3.heap.size := ⟨_, rfl⟩
  obtain ⟨W4, hW4⟩ : ∃ W4, W4 = (w3.alloc (.cells z16 23)).setCells kb 0 (kl p q) := ⟨_, rfl⟩
  have HB4 : Hid (Below kb w3 W4) := Lib.hid (by rw [hW4, hkb]; exact below_setCells _ _ _ _ ((Below.refl _ _).alloc (Nat.le_refl _) _) (Nat.le_refl _))
  have HL3 : Hid (N + 3 ≤ kb) := Lib.hid (by rw [hkb, ← HS2.out]; exact hb3.size)
  have HS4 : Hid (W4.heap.size = kb + 1) := Lib.hid (by rw [hW4, size_setCells, hkb]; simp)
  have HK4 : Hid (KeyAt W4 kb p q) := Lib.hid (by rw [hW4, hkb]; exact KeyAt.stored (Row.zeros w3 23).there p q)
  have HB24 : Hid (Below (N + 3) W2 W4) := Lib.hid ((hb3.mono (by rw [HS2.out]; omega)).trans (HB4.out.mono (by have := HL3.out; omega)))
  have HBa : Hid (Below N w W4) := Lib.hid (HB2.out.trans (HB24.out.mono (by omega)))
  have HSc4 : Hid (SchAt W4 (N + 1) K D (E : Int) P Q G) := Lib.hid (HSc.out.below HB24.out (by omega))
  have HKB := Lib.hid hkb
  have HW4 := Lib.hid hW4
  have HSc5 := HSc4.out.below (n := kb + 1) ((Below.refl (kb + 1) W4).alloc (by rw [HS4.out]; omega) (.cells #[.int .u64 (Q : Int), .slice none 0 0] 94)) (by have := HL3.out; omega)
  obtain ⟨_, _, c2, _, _, _⟩ := HSc5
  obtain ⟨_, _, _, _, c4, _⟩ := HSc4.out
  clear hW4 hb3
  go_wp2_with ((refine wpList_store_key rfl _ _ rfl w3.heap.size p q rfl rfl HT3.out ?_); rw [← HKB.out, ← HW4.out])
  obtain ⟨F, hF⟩ : ∃ F, F = W4.heap.size := ⟨_, rfl⟩
  have hFk : F = kb + 1 := by rw [hF]; exact HS4.out
  obtain ⟨W5, hW5⟩ : ∃ W5, W5 = W4.alloc (.cells #[.int .u64 (Q : Int), .slice none 0 0] 94) := ⟨_, rfl⟩
  have HB5 : Hid (Below F W4 W5) := Lib.hid (by rw [hW5, hF]; exact (Below.refl _ _).alloc (Nat.le_refl _) _)
  have HS5 : Hid (W5.heap.size = F + 1) := Lib.hid (by rw [hW5, hF]; simp)
  have HF5 : Hid (W5.cell? ⟨F, 0, none⟩ = some (.int .u64 (Q : Int)) ∧ W5.cell? ⟨F, 1, none⟩ = some (.slice none 0 0) ∧ W5.frozen? ⟨F, 1, none⟩ = false) := Lib.hid (by
    rw [hW5, hF]
    exact ⟨(two_new _ _ _ _).1, (two_new _ _ _ _).2, two_fr _ _ _ _ _⟩)
  have HKB5 : Hid (N + 3 ≤ kb ∧ F = kb + 1) := Lib.hid ⟨HL3.out, hFk⟩
  have HKey : Hid (∀ w1, Below F W5 w1 → KeyAt w1 kb p q ∧ SchAt w1 (N + 1) K D (E : Int) P Q G) := Lib.hid (fun w1 h => ⟨(HK4.out.below HB5.out (by omega)).below h (by omega), (HSc4.out.below HB5.out (by have := HL3.out; omega)).below h (by have := HL3.out; omega)⟩)
  have HRes : Hid (∀ w1, Below F W5 w1 → (w1.cell? ⟨N + 2, 0, none⟩ = some (.int .u64 0) ∧ w1.cell? ⟨N + 2, 1, none⟩ = some (.slice none 0 0) ∧ w1.frozen? ⟨N + 2, 0, none⟩ = false ∧ w1.frozen? ⟨N + 2, 1, none⟩ = false) ∧ Below N w w1) := Lib.hid (fun w1 h => by
    have h2 : Below (N + 3) W2 w1 := (HB24.out.trans (HB5.out.mono (by have := HL3.out; omega))).trans (h.mono (by have := HL3.out; omega))
    exact ⟨⟨(h2.cell (p := ⟨N + 2, 0, none⟩) (by show N + 2 < N + 3; omega)).trans HR0.out.1, (h2.cell (p := ⟨N + 2, 1, none⟩) (by show N + 2 < N + 3; omega)).trans HR0.out.2.1, (h2.frozen (p := ⟨N + 2, 0, none⟩) (by show N + 2 < N + 3; omega)).trans HR0.out.2.2.1, (h2.frozen (p := ⟨N + 2, 1, none⟩) (by show N + 2 < N + 3; omega)).trans HR0.out.2.2.2⟩, HB2.out.trans (h2.mono (by omega))⟩)
  have HEqs := Lib.hid (And.intro hF hW5)
  rw [← hW5, ← hF, ← HKB.out]
  simp only [Nat.add_assoc, Nat.reduceAdd]
  clear hF hFk hW5 hkb c2 c4 HW4 HT3 HB4 HS4 HK4 HSc4 HB5 HB24 HR0 HK HSc HS2 HL3
  go_loopw [18] (fun i wr => ∃ (k : Nat) (v : Value), k ≤ E + 1 ∧ i = .int .u64 (k : Int) ∧ Hid (wr.ownsRow (F + 1) 24 1 v k (cfl X Y Q k)) ∧ Hid (wr.cell? ⟨F, 0, none⟩ = some (.int .u64 (Q : Int)) ∧ wr.cell? ⟨F, 1, none⟩ = some v ∧ wr.frozen? ⟨F, 1, none⟩ = false) ∧ Hid (Below F W5 wr)) (fun i _ => E + 1 - (intOf i).toNat)
  case atStart => exact ⟨0, .slice none 0 0, by omega, rfl, Lib.hid (World.ownsRow_nil _ _ _ _), HF5, Lib.hid (Below.refl _ _)⟩
  case round =>
    obtain ⟨k, v, hk, rfl, HO, HCv, HBr⟩ := hrel
    by_cases hlt : k < E + 1
    · have HNk := Lib.hid (fun w => HNu.out k w (by unfold M; omega))
      have HSn : Hid (cfl X Y Q (k + 1) = cfl X Y Q k ++ [.int .u64 (numb p q k Q : Int)]) := Lib.hid (by rw [cfl_snoc, HC.out])
      obtain ⟨m, hm⟩ : ∃ m, m = numb p q k Q := ⟨_, rfl⟩
      rw [← hm] at HNk HSn
      obtain ⟨xs, hxs⟩ : ∃ xs, xs = cfl X Y Q k := ⟨_, rfl⟩
      rw [← hxs] at HO HSn
      have HRs : Hid (F + 1 ≤ wr.heap.size) := Lib.hid (by rw [← HS5.out]; exact HBr.out.size)
      have HWr : Hid (∀ w1, Below (F + 1) wr w1 → (w1.cell? ⟨F, 0, none⟩ = some (.int .u64 (Q : Int)) ∧ w1.cell? ⟨F, 1, none⟩ = some v ∧ w1.frozen? ⟨F, 1, none⟩ = false) ∧ KeyAt w1 kb p q ∧ w1.cell? ⟨N + 1, 4, none⟩ = some (.int .u64 (Q : Int))) := Lib.hid (fun w1 h => by
        have hk := HKey.out w1 (HBr.out.trans (h.mono (by omega)))
        exact ⟨⟨(h.cell (p := ⟨F, 0, none⟩) (by show F < F + 1; omega)).trans HCv.out.1, (h.cell (p := ⟨F, 1, none⟩) (by show F < F + 1; omega)).trans HCv.out.2.1, (h.frozen (p := ⟨F, 1, none⟩) (by show F < F + 1; omega)).trans HCv.out.2.2⟩, hk.1, hk.2.c4⟩)
      have hd19 : decide ((k : Int) < (E : Int) + 1) = true := decide_eq_true (by omega)
      clear hm hxs
      go_wp2_with fail
      refine wp_region_inv (by kernel_rfl) (by kernel_rfl) (fun l a' w' => ∃ (v2 : Value) (gb : Nat) (w1 : World), a' = { tmps := #[Value.agg (kl X Y).toArray, Value.agg #[Value.int .u8 K, Value.int .i64 D, Value.int .i64 (E : Int), Value.int .u64 (P : Int), Value.int .u64 (Q : Int), Value.int .u64 (G : Int)], Value.pointer (some ⟨N, 0, none⟩), Value.pointer (some ⟨N + 1, 0, none⟩), Value.pointer (some ⟨N + 2, 0, none⟩), Value.pointer (some ⟨kb, 0, none⟩), Value.pointer (some ⟨F, 0, none⟩), Value.int .u64 (k : Int), Value.agg (kl X Y).toArray, Value.agg (kl p q).toArray, Value.pointer (some ⟨N + 1, 3, none⟩), Value.pointer (some ⟨N + 1, 4, none⟩), Value.int .u64 (Q : Int), Value.agg #[Value.int .u64 (Q : Int), Value.slice none 0 0], Value.pointer (some ⟨N + 1, 2, none⟩), Value.int .i64 (E : Int), Value.int .u64 (E : Int), Value.int .u64 ((E : Int) + 1), Value.int .u64 (k : Int), Value.bool true, Value.int .u64 (k : Int), bif l 0 then Value.pointer (some ⟨F, 1, none⟩) else u21, bif l 1 then v else u22, bif l 2 then Value.agg (kl p q).toArray else u23, bif l 3 then Value.int .u64 (k : Int) else u24, bif l 4 then Value.pointer (some ⟨N + 1, 3, none⟩) else u25, bif l 5 then Value.pointer (some ⟨N + 1, 4, none⟩) else u26, bif l 6 then Value.int .u64 (Q : Int) else u27, bif l 7 then Value.int .u64 (m : Int) else u28, bif l 8 then Value.slice (some ⟨gb, 0, none⟩) 1 1 else u29, bif l 9 then v2 else u30, bif l 10 then Value.pointer (some ⟨F, 1, none⟩) else u31, u32, undef], defers := [] } ∧ Below (F + 1) wr w1 ∧ (l 9 = false → w1.ownsRow (F + 1) 24 1 v k xs) ∧ (l 8 = true → l 9 = false → ∀ j u, [Value.int .u64 (m : Int)][j]? = some u → w1.cell? ((⟨gb, 0, none⟩ : Addr).add j) = some u) ∧ (l 9 = true → w1.ownsRow (F + 1) 24 1 v2 (k + 1) (xs ++ [Value.int .u64 (m : Int)])) ∧ w' = (bif l 11 then w1.setCell ⟨F, 1, none⟩ v2 else w1) ∧ (l 9 = true → l 7 = true ∧ l 8 = true) ∧ (l 11 = true → ∀ j, j < 11 → l j = true)) ⟨v, 0, _, rfl, (Below.refl _ _).drew, (fun _ => HO.out), (fun h => by cases h), (fun h => by cases h), rfl, (fun h => by cases h), (fun h => by cases h)⟩ ?_ ?_
      · rintro l a' w' i ⟨v2, gb, w1, rfl, hB, c3, c4, c5, hw, o9, o11⟩ hi' hli hpre
        have hi2 : i < 12 := hi'
        have n11 : l 11 = false := by
          by_cases h11 : i = 11
          · rw [← h11]; exact hli
          · cases h : l 11; rfl; exact absurd (o11 h i (by omega)) (by rw [hli]; decide)
        rw [n11, cond_false] at hw
        subst hw
        have hL : F + 1 ≤ w'.heap.size := Nat.le_trans HRs.out hB.size
        have hcase : i = 0 ∨ i = 1 ∨ i = 2 ∨ i = 3 ∨ i = 4 ∨ i = 5 ∨ i = 6 ∨ i = 7 ∨ i = 8 ∨ i = 9 ∨ i = 10 ∨ i = 11 := by omega
        clear hi' hi2 o11
        obtain ⟨⟨z0, z1, z2⟩, zk, z4⟩ := HWr.out _ hB
        rcases hcase with rfl | rfl | rfl | rfl | rfl | rfl | rfl | rfl | rfl | rfl | rfl | rfl
        · -- 0: Op.fieldAddr 94 (Operand.tmp 6) 1
          refine wpOp_step rfl (fun K' hK => ?_)
          clear hpre
          rw [if_pos (by rfl)]
          go_simp
          exact hK _ _ ⟨v2, gb, _, by simp [upd, Act.put], hB, (fun e => c3 (by simpa [upd] using e)), (fun e1 e2 => c4 (by simpa [upd] using e1) (by simpa [upd] using e2)), (fun e => c5 (by simpa [upd] using e)), by simp [upd, n11], (fun e => by have h9 := o9 (by simpa [upd] using e); simp [upd, h9]), (fun e => absurd e (by simp [upd, n11]))⟩
        · -- 1: Op.load 29 (Operand.tmp 21)
          have p0 : l 0 = true := hpre _ rfl ⟨0, .data⟩ (by simp) rfl
          refine wpOp_step rfl (fun K' hK => ?_)
          simp only [p0, cond_true, cond_false]
          clear hpre
          rw [if_pos (by rfl)]
          go_simp
          exact hK _ _ ⟨v2, gb, _, by simp [upd, Act.put, p0], hB, (fun e => c3 (by simpa [upd] using e)), (fun e1 e2 => c4 (by simpa [upd] using e1) (by simpa [upd] using e2)), (fun e => c5 (by simpa [upd] using e)), by simp [upd, n11], (fun e => by have h9 := o9 (by simpa [upd] using e); simp [upd, h9]), (fun e => absurd e (by simp [upd, n11]))⟩
        · -- 2: Op.load 23 (Operand.tmp 5)
          refine wpOp_step rfl (fun K' hK => ?_)
          clear hpre
          rw [if_pos (by rfl)]
          refine wp_load_mid 23 _ rfl _ 0 rfl (kl p q) _ zk Try.underlying23 rfl (by rw [kl_len]; exact size23) ?_
          exact hK _ _ ⟨v2, gb, _, by simp [upd, Act.put], hB, (fun e => c3 (by simpa [upd] using e)), (fun e1 e2 => c4 (by simpa [upd] using e1) (by simpa [upd] using e2)), (fun e => c5 (by simpa [upd] using e)), by simp [upd, n11], (fun e => by have h9 := o9 (by simpa [upd] using e); simp [upd, h9]), (fun e => absurd e (by simp [upd, n11]))⟩
        · -- 3: Op.move (Operand.tmp 7)
          refine wpOp_step rfl (fun K' hK => ?_)
          clear hpre
          rw [if_pos (by rfl)]
          go_simp
          exact hK _ _ ⟨v2, gb, _, by simp [upd, Act.put], hB, (fun e => c3 (by simpa [upd] using e)), (fun e1 e2 => c4 (by simpa [upd] using e1) (by simpa [upd] using e2)), (fun e => c5 (by simpa [upd] using e)), by simp [upd, n11], (fun e => by have h9 := o9 (by simpa [upd] using e); simp [upd, h9]), (fun e => absurd e (by simp [upd, n11]))⟩
        · -- 4: Op.fieldAddr 28 (Operand.tmp 3) 3
          refine wpOp_step rfl (fun K' hK => ?_)
          clear hpre
          rw [if_pos (by rfl)]
          go_simp
          exact hK _ _ ⟨v2, gb, _, by simp [upd, Act.put], hB, (fun e => c3 (by simpa [upd] using e)), (fun e1 e2 => c4 (by simpa [upd] using e1) (by simpa [upd] using e2)), (fun e => c5 (by simpa [upd] using e)), by simp [upd, n11], (fun e => by have h9 := o9 (by simpa [upd] using e); simp [upd, h9]), (fun e => absurd e (by simp [upd, n11]))⟩
        · -- 5: Op.fieldAddr 26 (Operand.tmp 25) 1
          have p4 : l 4 = true := hpre _ rfl ⟨4, .data⟩ (by simp) rfl
          refine wpOp_step rfl (fun K' hK => ?_)
          simp only [p4, cond_true, cond_false]
          clear hpre
          rw [if_pos (by rfl)]
          go_simp
          exact hK _ _ ⟨v2, gb, _, by simp [upd, Act.put, p4], hB, (fun e => c3 (by simpa [upd] using e)), (fun e1 e2 => c4 (by simpa [upd] using e1) (by simpa [upd] using e2)), (fun e => c5 (by simpa [upd] using e)), by simp [upd, n11], (fun e => by have h9 := o9 (by simpa [upd] using e); simp [upd, h9]), (fun e => absurd e (by simp [upd, n11]))⟩
        · -- 6: Op.load 24 (Operand.tmp 26)
          have p5 : l 5 = true := hpre _ rfl ⟨5, .data⟩ (by simp) rfl
          refine wpOp_step rfl (fun K' hK => ?_)
          simp only [p5, cond_true, cond_false]
          clear hpre
          rw [if_pos (by rfl)]
          go_simp
          exact hK _ _ ⟨v2, gb, _, by simp [upd, Act.put, p5], hB, (fun e => c3 (by simpa [upd] using e)), (fun e1 e2 => c4 (by simpa [upd] using e1) (by simpa [upd] using e2)), (fun e => c5 (by simpa [upd] using e)), by simp [upd, n11], (fun e => by have h9 := o9 (by simpa [upd] using e); simp [upd, h9]), (fun e => absurd e (by simp [upd, n11]))⟩
        · -- 7: Op.call { callee := Callee.value (Operand.func 92)
          have p2 : l 2 = true := hpre _ rfl ⟨2, .data⟩ (by simp) rfl
          have p3 : l 3 = true := hpre _ rfl ⟨3, .data⟩ (by simp) rfl
          have p6 : l 6 = true := hpre _ rfl ⟨6, .data⟩ (by simp) rfl
          refine wpOp_step rfl (fun K' hK => ?_)
          have n9 : l 9 = false := by cases h : l 9; rfl; exact absurd (o9 h).1 (by rw [hli]; decide)
          simp only [p2, p3, p6, n9, cond_true, cond_false]
          clear hpre
          rw [if_pos (by rfl)]
          go_simp
          refine (HNk.out _).mono ?_
          rintro e w5 ⟨rfl, hb5⟩
          exact hK _ _ ⟨v2, gb, w5, by simp [upd, Act.put, p2, p3, p6, n9], hB.trans (hb5.mono hL), (fun _ => own_below (c3 n9) hb5), (fun e1 e2 j u hu => (hb5.cell (World.block_lt_of_cell? _ _ (c4 (by simpa [upd] using e1) n9 j u hu))).trans (c4 (by simpa [upd] using e1) n9 j u hu)), (fun e => absurd e (by simp [upd, n9])), by simp [upd, n11], (fun e => absurd e (by simp [upd, n9])), (fun e => absurd e (by simp [upd, n11]))⟩
        · -- 8: Op.buildSlice 29 1 #[(0, Operand.tmp 28)]
          have p7 : l 7 = true := hpre _ rfl ⟨7, .data⟩ (by simp) rfl
          refine wpOp_step rfl (fun K' hK => ?_)
          have n9 : l 9 = false := by cases h : l 9; rfl; exact absurd (o9 h).2 (by rw [hli]; decide)
          simp only [p7, n9, cond_true, cond_false]
          clear hpre
          rw [if_pos (by rfl)]
          go_simp
          exact hK _ _ ⟨v2, w'.heap.size, w'.alloc (.cells #[.int .u64 (m : Int)] 24), by simp [upd, Act.put, p7, n9], hB.alloc hL _, (fun _ => (c3 n9).alloc _), (fun _ _ => cell_one_new _ _ _), (fun e => absurd e (by simp [upd, n9])), by simp [upd, n11], (fun e => absurd e (by simp [upd, n9])), (fun e => absurd e (by simp [upd, n11]))⟩
        · -- 9: Op.call { callee := Callee.builtin Builtin.append,
          have p1 : l 1 = true := hpre _ rfl ⟨1, .data⟩ (by simp) rfl
          have p8 : l 8 = true := hpre _ rfl ⟨8, .data⟩ (by simp) rfl
          have p7 : l 7 = true := hpre _ rfl ⟨7, .chain⟩ (by simp) rfl
          refine wpOp_step rfl (fun K' hK => ?_)
          have n9 : l 9 = false := hli
          simp only [p1, p8, p7, n9, cond_true, cond_false]
          clear hpre
          rw [if_pos (by rfl)]
          refine wp_append_own _ _ _ 29 rfl (F + 1) 24 i0 _ 1 8 Try.underlying29 hi hz0 hz1 hz2 rfl (by omega) v k xs rfl (c3 n9) ⟨gb, 0, none⟩ 1 1 [Value.int .u64 (m : Int)] rfl rfl (c4 p8 n9) (by intro u hu; simp at hu; subst hu; rfl) (by unfold maxLen; omega) (by omega) hL ?_
          intro v1 w6 hown6 hg6 _
          exact hK _ _ ⟨v1, gb, w6, by simp [upd, Act.put, p1, p8, p7, n9], hB.grown hg6 hL (fun b hb => own_block (c3 n9) hb.symm), (fun e => absurd e (by simp [upd])), (fun _ e => absurd e (by simp [upd])), (fun _ => hown6), by simp [upd, n11], (fun _ => by simp [upd, p7, p8]), (fun e => absurd e (by simp [upd, n11]))⟩
        · -- 10: Op.fieldAddr 94 (Operand.tmp 6) 1
          have p0 : l 0 = true := hpre _ rfl ⟨0, .phase⟩ (by simp) rfl
          have p1 : l 1 = true := hpre _ rfl ⟨1, .phase⟩ (by simp) rfl
          have p2 : l 2 = true := hpre _ rfl ⟨2, .phase⟩ (by simp) rfl
          have p3 : l 3 = true := hpre _ rfl ⟨3, .phase⟩ (by simp) rfl
          have p4 : l 4 = true := hpre _ rfl ⟨4, .phase⟩ (by simp) rfl
          have p5 : l 5 = true := hpre _ rfl ⟨5, .phase⟩ (by simp) rfl
          have p6 : l 6 = true := hpre _ rfl ⟨6, .phase⟩ (by simp) rfl
          have p7 : l 7 = true := hpre _ rfl ⟨7, .phase⟩ (by simp) rfl
          have p8 : l 8 = true := hpre _ rfl ⟨8, .phase⟩ (by simp) rfl
          have p9 : l 9 = true := hpre _ rfl ⟨9, .phase⟩ (by simp) rfl
          refine wpOp_step rfl (fun K' hK => ?_)
          simp only [p0, p1, p2, p3, p4, p5, p6, p7, p8, p9, cond_true, cond_false]
          clear hpre
          rw [if_pos (by rfl)]
          go_simp
          exact hK _ _ ⟨v2, gb, _, by simp [upd, Act.put, p0, p1, p2, p3, p4, p5, p6, p7, p8, p9], hB, (fun e => absurd e (by simp [upd, p9])), (fun _ e => absurd e (by simp [upd, p9])), (fun _ => c5 p9), by simp [upd, n11], (fun _ => by simp [upd, p7, p8]), (fun e => absurd e (by simp [upd, n11]))⟩
        · -- 11: Op.store 29 (Operand.tmp 31) (Operand.tmp 30)
          have p10 : l 10 = true := hpre _ rfl ⟨10, .data⟩ (by simp) rfl
          have p9 : l 9 = true := hpre _ rfl ⟨9, .data⟩ (by simp) rfl
          have p0 : l 0 = true := hpre _ rfl ⟨0, .phase⟩ (by simp) rfl
          have p1 : l 1 = true := hpre _ rfl ⟨1, .phase⟩ (by simp) rfl
          have p2 : l 2 = true := hpre _ rfl ⟨2, .phase⟩ (by simp) rfl
          have p3 : l 3 = true := hpre _ rfl ⟨3, .phase⟩ (by simp) rfl
          have p4 : l 4 = true := hpre _ rfl ⟨4, .phase⟩ (by simp) rfl
          have p5 : l 5 = true := hpre _ rfl ⟨5, .phase⟩ (by simp) rfl
          have p6 : l 6 = true := hpre _ rfl ⟨6, .phase⟩ (by simp) rfl
          have p7 : l 7 = true := hpre _ rfl ⟨7, .phase⟩ (by simp) rfl
          have p8 : l 8 = true := hpre _ rfl ⟨8, .phase⟩ (by simp) rfl
          refine wpOp_step rfl (fun K' hK => ?_)
          simp only [p10, p9, p0, p1, p2, p3, p4, p5, p6, p7, p8, cond_true, cond_false]
          clear hpre
          rw [if_pos (by rfl)]
          have c6 := c5 p9
          obtain ⟨A6, m6, d6, hv6⟩ := own_form c6
          subst hv6
          go_simp
          exact hK _ _ ⟨_, gb, w', by simp [upd, Act.put, p10, p9, p0, p1, p2, p3, p4, p5, p6, p7, p8], hB, (fun e => absurd e (by simp [upd, p9])), (fun _ e => absurd e (by simp [upd, p9])), (fun _ => c6), by simp [upd], (fun _ => by simp [upd, p7, p8]), (fun _ j hj => by rcases (by omega : j = 0 ∨ j = 1 ∨ j = 2 ∨ j = 3 ∨ j = 4 ∨ j = 5 ∨ j = 6 ∨ j = 7 ∨ j = 8 ∨ j = 9 ∨ j = 10) with rfl | rfl | rfl | rfl | rfl | rfl | rfl | rfl | rfl | rfl | rfl <;> simp [upd, p0, p1, p2, p3, p4, p5, p6, p7, p8, p9, p10])⟩
      · rintro l a' w' hall ⟨v2, gb, w9, rfl, hBz, _, _, c5, hw, _, _⟩
        rw [hall 11 (by decide), cond_true] at hw
        subst hw
        have hO9 := c5 (hall 9 (by decide))
        simp only [hall 0 (by decide), hall 1 (by decide), hall 2 (by decide), hall 3 (by decide), hall 4 (by decide), hall 5 (by decide), hall 6 (by decide), hall 7 (by decide), hall 8 (by decide), hall 9 (by decide), hall 10 (by decide), cond_true]
        clear hall c5
        obtain ⟨⟨z0, z1, z2⟩, _, _⟩ := HWr.out _ hBz
        have HO9 : Hid ((w9.setCell ⟨F, 1, none⟩ v2).ownsRow (F + 1) 24 1 v2 (k + 1) (cfl X Y Q (k + 1))) := Lib.hid (by rw [HSn.out]; exact own_apart hO9 1 v2)
        have HC9 : Hid ((w9.setCell ⟨F, 1, none⟩ v2).cell? ⟨F, 0, none⟩ = some (.int .u64 (Q : Int)) ∧ (w9.setCell ⟨F, 1, none⟩ v2).cell? ⟨F, 1, none⟩ = some v2 ∧ (w9.setCell ⟨F, 1, none⟩ v2).frozen? ⟨F, 1, none⟩ = false) := Lib.hid ⟨(World.cell?_setCell_other _ _ _ _ (by intro h; injection h with h1 h2; omega)).trans z0, World.cell?_setCell_same _ _ _ z1, by rw [World.frozen?_setCell]; exact z2⟩
        have HB9 : Hid (Below F W5 (w9.setCell ⟨F, 1, none⟩ v2)) := Lib.hid ((HBr.out.trans (hBz.mono (by omega))).setCell (p := ⟨F, 1, none⟩) (Nat.le_refl _) _)
        obtain ⟨w10, hw10⟩ : ∃ w10, w10 = w9.setCell ⟨F, 1, none⟩ v2 := ⟨_, rfl⟩
        rw [← hw10] at HO9 HC9 HB9 ⊢
        clear hw10 z0 z1 z2 hO9 hBz
        go_wp2_with fail
        go_roundw
        case rel => exact ⟨k + 1, v2, by omega, by go_num, HO9, HC9, HB9⟩
        case measure => simp [intOf]; omega
    · obtain rfl : k = E + 1 := by omega
      obtain ⟨g, c, hv, q1, q2, q3, q4⟩ := own_slice HO.out (by omega)
      subst hv
      have z0 := HCv.out.1
      have z1 := HCv.out.2.1
      obtain ⟨⟨y0, y1, y2, y3⟩, HBf⟩ := HRes.out _ HBr.out
      have HGc : Hid (F + 1 ≤ g ∧ E + 1 ≤ c ∧ c ≤ maxLen ∧ ∀ i, i < E + 1 → wr.cell? ⟨g, i, none⟩ = some (.int .u64 (cof X Y Q i : Int))) := Lib.hid ⟨q1, q2, q3, fun i hi => q4 i _ (by simp [cfl, List.getElem?_map, List.getElem?_range hi])⟩
      have HBF := Lib.hid HBf
      clear q1 q2 q3 q4 HBf
      have hkb := HKB5.out
      have q0 : ((wr.setCell ⟨N + 2, 0, none⟩ (.int .u64 (Q : Int))).setCell ⟨N + 2, 1, none⟩ (.slice (some ⟨g, 0, none⟩) (E + 1 : Nat) c)).cell? ⟨N + 2, 0, none⟩ = some (.int .u64 (Q : Int)) :=
        (World.cell?_setCell_other _ _ _ _ (by intro h; injection h with h1 h2; omega)).trans (World.cell?_setCell_same _ _ _ y0)
      have q1 : ((wr.setCell ⟨N + 2, 0, none⟩ (.int .u64 (Q : Int))).setCell ⟨N + 2, 1, none⟩ (.slice (some ⟨g, 0, none⟩) (E + 1 : Nat) c)).cell? ⟨N + 2, 1, none⟩ = some (.slice (some ⟨g, 0, none⟩) (E + 1 : Nat) c) :=
        World.cell?_setCell_same _ _ _ ((World.cell?_setCell_other _ _ _ _ (by intro h; injection h with h1 h2; omega)).trans y1)
      have HQ := Lib.hid (And.intro q0 q1)
      clear q0 q1 hkb
      go_wp2_with fail
      have hkb := HKB5.out
      obtain ⟨q0, q1⟩ := HQ.out
      refine bodyPost_ret (by simp [results, Try.results38, q0, q1, go_sem]; rfl) rfl ?_
      refine ⟨⟨g, c, rfl, by have := HGc.out.1; omega, HGc.out.2.1, HGc.out.2.2.1, fun i hi => ?_⟩, (HBF.out.setCell (p := ⟨N + 2, 0, none⟩) (by show N ≤ N + 2; omega) _).setCell (p := ⟨N + 2, 1, none⟩) (by show N ≤ N + 2; omega) _⟩
      have hg := HGc.out.1
      rw [World.cell?_setCell_other _ _ _ _ (by intro h; injection h with h1 h2; omega), World.cell?_setCell_other _ _ _ _ (by intro h; injection h with h1 h2; omega)]
      exact HGc.out.2.2.2 i hi
end Go.Proofs.Ytcbanemkjebdcaa
