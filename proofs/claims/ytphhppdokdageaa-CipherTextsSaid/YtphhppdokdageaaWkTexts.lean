/- The walk over CipherTexts. -/
import Derived.Test.YtphhppdokdageaaRfR
import Derived.Test.YtphhppdokdageaaLawB
namespace Go.Proofs.Ytphhppdokdageaa.cipherTexts
open Go.RowKit SP
set_option linter.unusedVariables false
set_option linter.unusedSimpArgs false

set_option maxRecDepth 100000 in
set_option maxHeartbeats 4000000 in
theorem walkN (X Y : Nat) (hX : X < M) (hY : Y < M) (s : ByteArray) (P Q E : Nat) (hP : P < M) (hQ : Q < M)
    (hC1 : ∀ w, Calls Try.prog 24 #[.string s] w fun e w' => e = .returned (.tuple #[.agg (kl P Q).toArray, .int .i64 (E : Int)]) ∧ Below w.heap.size w w')
    (hC2 : ∀ w, Calls Try.prog 37 #[.string s] w fun e w' => e = .returned (.tuple #[.agg (kl P Q).toArray, .int .i64 (E : Int)]) ∧ Below w.heap.size w w') (w : World) :
    Calls Try.prog 9 #[.agg (kl X Y).toArray, .string s] w fun e w' => e = .returned (.bool true) ∧ Below w.heap.size w w' := by
  have C1 := Lib.hid hC1
  have C2 := Lib.hid hC2
  have t1 := fun w => text_any X Y w hX hY
  have t2 := fun w => refText_any X Y w hX hY
  obtain ⟨t, ht⟩ : ∃ t, t = txS X Y := ⟨_, rfl⟩
  rw [← ht] at t1 t2
  have T1 := Lib.hid t1
  have T2 := Lib.hid t2
  have Q1 : Hid (∀ w, (Op.equalIn 10000 23 (.agg (kl P Q).toArray) (.agg (kl P Q).toArray)).run Try.prog w = .ok true w) := Lib.hid (fun w => by rw [run_equal_key hP hQ hP hQ w]; simp [same])
  obtain ⟨N, hN⟩ : ∃ N, N = w.heap.size := ⟨_, rfl⟩
  obtain ⟨W1, hW1⟩ : ∃ W1, W1 = w.alloc (.cells (kl X Y).toArray 23) := ⟨_, rfl⟩
  have HB1 : Hid (Below N w W1) := Lib.hid (by rw [hW1, hN]; exact (Below.refl _ _).alloc (Nat.le_refl _) _)
  have HS1 : Hid (W1.heap.size = N + 1) := Lib.hid (by rw [hW1, hN]; simp)
  have HK : Hid (KeyAt W1 N X Y) := Lib.hid (by rw [hW1, hN]; exact KeyAt.new w X Y 23)
  have HW := Lib.hid hW1
  have HN := Lib.hid hN
  rw [← hN]
  clear hW1 hN hX hY hP hQ hC1 hC2 t1 t2 ht
  go_enter Try.func9, Try.ntmps9
  go_wp2_with fail
  rw [← HW.out, ← HN.out]
  refine (C1.out W1).mono ?_
  rintro e w2 ⟨rfl, hb2⟩
  obtain ⟨W3, hW3⟩ : ∃ W3, W3 = (w2.alloc (.cells z16 23)).setCells w2.heap.size 0 (kl P Q) := ⟨_, rfl⟩
  have T3 := Lib.hid (Row.zeros w2 23).there
  have B23 : Below w2.heap.size w2 W3 := by rw [hW3]; exact below_setCells _ _ _ _ ((Below.refl _ _).alloc (Nat.le_refl _) _) (Nat.le_refl _)
  have B3 := Lib.hid (hb2.trans (B23.mono hb2.size))
  have K3a : Hid (KeyAt W3 w2.heap.size P Q) := Lib.hid (by rw [hW3]; exact KeyAt.stored (Row.zeros w2 23).there P Q)
  have HW3 := Lib.hid hW3
  clear hW3 hb2 B23
  go_wp2_with ((refine wpList_store_key rfl _ _ rfl w2.heap.size P Q rfl rfl T3.out ?_); rw [← HW3.out])
  obtain ⟨m2, hm2⟩ : ∃ m2, m2 = w2.heap.size := ⟨_, rfl⟩
  rw [← hm2] at K3a ⊢
  clear T3 HW3 hm2
  refine (C2.out W3).mono ?_
  rintro e w4 ⟨rfl, hb4⟩
  obtain ⟨W5, hW5⟩ : ∃ W5, W5 = (w4.alloc (.cells z16 23)).setCells w4.heap.size 0 (kl P Q) := ⟨_, rfl⟩
  have T5 := Lib.hid (Row.zeros w4 23).there
  have B45 : Below w4.heap.size w4 W5 := by rw [hW5]; exact below_setCells _ _ _ _ ((Below.refl _ _).alloc (Nat.le_refl _) _) (Nat.le_refl _)
  have B35 := hb4.trans (B45.mono hb4.size)
  have B5 := Lib.hid (B3.out.trans (B35.mono B3.out.size))
  have K5a : Hid (KeyAt W5 w4.heap.size P Q) := Lib.hid (by rw [hW5]; exact KeyAt.stored (Row.zeros w4 23).there P Q)
  have K3 : Hid (KeyAt W5 m2 P Q) := Lib.hid (K3a.out.keep B35)
  have K0 : Hid (KeyAt W5 N X Y) := Lib.hid (HK.out.keep B5.out)
  have HW5 := Lib.hid hW5
  clear hW5 hb4 B45 B35 HK
  go_wp2_with ((refine wpList_store_key rfl _ _ rfl w4.heap.size P Q rfl rfl T5.out ?_); rw [← HW5.out])
  obtain ⟨m4, hm4⟩ : ∃ m4, m4 = w4.heap.size := ⟨_, rfl⟩
  rw [← hm4] at K5a ⊢
  have K5 := K5a
  clear T5 HW5 hm4 K5a
  refine wp_region_inv (by kernel_rfl) (by kernel_rfl) (fun l a w' => a = { tmps := #[Value.agg (kl X Y).toArray, Value.string s, .pointer (some ⟨N, 0, none⟩), undef, bif l 15 then Value.bool true else .bool false, .pointer (some ⟨m2, 0, none⟩), Value.int .i64 (E : Int), .pointer (some ⟨m4, 0, none⟩), Value.int .i64 (E : Int), Value.tuple #[Value.agg (kl P Q).toArray, Value.int .i64 (E : Int)], Value.string s, Value.tuple #[Value.agg (kl P Q).toArray, Value.int .i64 (E : Int)], Value.agg (kl P Q).toArray, Value.int .i64 (E : Int), Value.tuple #[Value.agg (kl P Q).toArray, Value.int .i64 (E : Int)], Value.string s, Value.tuple #[Value.agg (kl P Q).toArray, Value.int .i64 (E : Int)], Value.agg (kl P Q).toArray, Value.int .i64 (E : Int), bif l 0 then Value.agg (kl X Y).toArray else undef, bif l 1 then Value.string t else undef, bif l 2 then Value.agg (kl X Y).toArray else undef, bif l 3 then Value.string t else undef, bif l 4 then Value.bool true else undef, bif l 5 then Value.bool true else undef, bif l 6 then Value.agg (kl P Q).toArray else undef, bif l 7 then Value.agg (kl P Q).toArray else undef, bif l 8 then Value.bool true else undef, bif l 9 then Value.bool true else undef, bif l 10 then Value.bool true else undef, bif l 11 then Value.int .i64 (E : Int) else undef, bif l 12 then Value.int .i64 (E : Int) else undef, bif l 13 then Value.bool true else undef, bif l 14 then Value.bool true else undef], defers := [] } ∧ Below W5.heap.size W5 w') ⟨rfl, (Below.refl _ _).drew⟩ ?_ ?_
  · rintro l a w' i ⟨rfl, hB⟩ hi hli hpre
    have hi2 : i < 16 := hi
    have hcase : i = 0 ∨ i = 1 ∨ i = 2 ∨ i = 3 ∨ i = 4 ∨ i = 5 ∨ i = 6 ∨ i = 7 ∨ i = 8 ∨ i = 9 ∨ i = 10 ∨ i = 11 ∨ i = 12 ∨ i = 13 ∨ i = 14 ∨ i = 15 := by omega
    clear hi hi2
    rcases hcase with rfl | rfl | rfl | rfl | rfl | rfl | rfl | rfl | rfl | rfl | rfl | rfl | rfl | rfl | rfl | rfl
    · -- 0: Op.load 23 (Operand.tmp 2)
      refine wpOp_step rfl (fun K hK => ?_)
      clear hpre
      rw [if_pos (by rfl)]
      refine wp_load_mid 23 _ rfl _ 0 rfl (kl X Y) _ ((K0.out).below hB (K0.out).lt) Try.underlying23 rfl (by rw [kl_len]; exact size23) ?_
      exact hK _ _ ⟨by simp [upd, Act.put], hB⟩
    · -- 1: Op.call { callee := Callee.value (Operand.func 38), args := 
      have p0 : l 0 = true := hpre _ rfl ⟨0, .data⟩ (by simp) rfl
      refine wpOp_step rfl (fun K hK => ?_)
      simp only [p0, cond_true]
      clear hpre
      rw [if_pos (by rfl)]
      go_simp
      refine (T1.out _).mono ?_
      rintro e w5 ⟨rfl, hb5⟩
      exact hK _ _ ⟨by simp [upd, Act.put, p0], hB.trans (hb5.mono hB.size)⟩
    · -- 2: Op.load 23 (Operand.tmp 2)
      refine wpOp_step rfl (fun K hK => ?_)
      clear hpre
      rw [if_pos (by rfl)]
      refine wp_load_mid 23 _ rfl _ 0 rfl (kl X Y) _ ((K0.out).below hB (K0.out).lt) Try.underlying23 rfl (by rw [kl_len]; exact size23) ?_
      exact hK _ _ ⟨by simp [upd, Act.put], hB⟩
    · -- 3: Op.call { callee := Callee.value (Operand.func 39), args := 
      have p2 : l 2 = true := hpre _ rfl ⟨2, .data⟩ (by simp) rfl
      have p1 : l 1 = true := hpre _ rfl ⟨1, .chain⟩ (by simp) rfl
      refine wpOp_step rfl (fun K hK => ?_)
      simp only [p2, p1, cond_true]
      clear hpre
      rw [if_pos (by rfl)]
      go_simp
      refine (T2.out _).mono ?_
      rintro e w5 ⟨rfl, hb5⟩
      exact hK _ _ ⟨by simp [upd, Act.put, p2, p1], hB.trans (hb5.mono hB.size)⟩
    · -- 4: Op.binOp BinOp.eql 9 (Operand.tmp 20) (Operand.tmp 22) 9
      have p1 : l 1 = true := hpre _ rfl ⟨1, .data⟩ (by simp) rfl
      have p3 : l 3 = true := hpre _ rfl ⟨3, .data⟩ (by simp) rfl
      refine wpOp_step rfl (fun K hK => ?_)
      simp only [p1, p3, cond_true]
      clear hpre
      rw [if_pos (by rfl)]
      go_simp
      exact hK _ _ ⟨by simp [upd, Act.put, p1, p3], hB⟩
    · -- 5: Op.move (Operand.tmp 23)
      have p4 : l 4 = true := hpre _ rfl ⟨4, .data⟩ (by simp) rfl
      have p3 : l 3 = true := hpre _ rfl ⟨3, .chain⟩ (by simp) rfl
      refine wpOp_step rfl (fun K hK => ?_)
      simp only [p4, p3, cond_true]
      clear hpre
      rw [if_pos (by rfl)]
      go_simp
      exact hK _ _ ⟨by simp [upd, Act.put, p4, p3], hB⟩
    · -- 6: Op.load 23 (Operand.tmp 5)
      have p5 : l 5 = true := hpre _ rfl ⟨5, .guard⟩ (by simp) rfl
      refine wpOp_step rfl (fun K hK => ?_)
      simp only [p5, cond_true]
      clear hpre
      rw [if_pos (by rfl)]
      refine wp_load_mid 23 _ rfl _ 0 rfl (kl P Q) _ ((K3.out).below hB (K3.out).lt) Try.underlying23 rfl (by rw [kl_len]; exact size23) ?_
      exact hK _ _ ⟨by simp [upd, Act.put, p5], hB⟩
    · -- 7: Op.load 23 (Operand.tmp 7)
      have p5 : l 5 = true := hpre _ rfl ⟨5, .guard⟩ (by simp) rfl
      refine wpOp_step rfl (fun K hK => ?_)
      simp only [p5, cond_true]
      clear hpre
      rw [if_pos (by rfl)]
      refine wp_load_mid 23 _ rfl _ 0 rfl (kl P Q) _ ((K5.out).below hB (K5.out).lt) Try.underlying23 rfl (by rw [kl_len]; exact size23) ?_
      exact hK _ _ ⟨by simp [upd, Act.put, p5], hB⟩
    · -- 8: Op.binOp BinOp.eql 23 (Operand.tmp 25) (Operand.tmp 26) 23
      have p6 : l 6 = true := hpre _ rfl ⟨6, .data⟩ (by simp) rfl
      have p7 : l 7 = true := hpre _ rfl ⟨7, .data⟩ (by simp) rfl
      have p5 : l 5 = true := hpre _ rfl ⟨5, .guard⟩ (by simp) rfl
      refine wpOp_step rfl (fun K hK => ?_)
      simp only [p6, p7, p5, cond_true]
      clear hpre
      rw [if_pos (by rfl)]
      have q1 := Q1.out
      go_simp
      exact hK _ _ ⟨by simp [upd, Act.put, p6, p7, p5], hB⟩
    · -- 9: Op.pick (Operand.tmp 24) (Operand.tmp 27) (Operand.const (Va
      have p5 : l 5 = true := hpre _ rfl ⟨5, .data⟩ (by simp) rfl
      have p8 : l 8 = true := hpre _ rfl ⟨8, .data⟩ (by simp) rfl
      refine wpOp_step rfl (fun K hK => ?_)
      simp only [p5, p8, cond_true]
      clear hpre
      rw [if_pos (by rfl)]
      go_simp
      exact hK _ _ ⟨by simp [upd, Act.put, p5, p8], hB⟩
    · -- 10: Op.move (Operand.tmp 28)
      have p9 : l 9 = true := hpre _ rfl ⟨9, .data⟩ (by simp) rfl
      have p5 : l 5 = true := hpre _ rfl ⟨5, .chain⟩ (by simp) rfl
      refine wpOp_step rfl (fun K hK => ?_)
      simp only [p9, p5, cond_true]
      clear hpre
      rw [if_pos (by rfl)]
      go_simp
      exact hK _ _ ⟨by simp [upd, Act.put, p9, p5], hB⟩
    · -- 11: Op.move (Operand.tmp 6)
      have p10 : l 10 = true := hpre _ rfl ⟨10, .guard⟩ (by simp) rfl
      refine wpOp_step rfl (fun K hK => ?_)
      simp only [p10, cond_true]
      clear hpre
      rw [if_pos (by rfl)]
      go_simp
      exact hK _ _ ⟨by simp [upd, Act.put, p10], hB⟩
    · -- 12: Op.move (Operand.tmp 8)
      have p10 : l 10 = true := hpre _ rfl ⟨10, .guard⟩ (by simp) rfl
      refine wpOp_step rfl (fun K hK => ?_)
      simp only [p10, cond_true]
      clear hpre
      rw [if_pos (by rfl)]
      go_simp
      exact hK _ _ ⟨by simp [upd, Act.put, p10], hB⟩
    · -- 13: Op.binOp BinOp.eql 3 (Operand.tmp 30) (Operand.tmp 31) 3
      have p11 : l 11 = true := hpre _ rfl ⟨11, .data⟩ (by simp) rfl
      have p12 : l 12 = true := hpre _ rfl ⟨12, .data⟩ (by simp) rfl
      have p10 : l 10 = true := hpre _ rfl ⟨10, .guard⟩ (by simp) rfl
      refine wpOp_step rfl (fun K hK => ?_)
      simp only [p11, p12, p10, cond_true]
      clear hpre
      rw [if_pos (by rfl)]
      go_simp
      exact hK _ _ ⟨by simp [upd, Act.put, p11, p12, p10], hB⟩
    · -- 14: Op.pick (Operand.tmp 29) (Operand.tmp 32) (Operand.const (Va
      have p10 : l 10 = true := hpre _ rfl ⟨10, .data⟩ (by simp) rfl
      have p13 : l 13 = true := hpre _ rfl ⟨13, .data⟩ (by simp) rfl
      refine wpOp_step rfl (fun K hK => ?_)
      simp only [p10, p13, cond_true]
      clear hpre
      rw [if_pos (by rfl)]
      go_simp
      exact hK _ _ ⟨by simp [upd, Act.put, p10, p13], hB⟩
    · -- 15: Op.assign (Operand.tmp 33)
      have p14 : l 14 = true := hpre _ rfl ⟨14, .data⟩ (by simp) rfl
      have p10 : l 10 = true := hpre _ rfl ⟨10, .chain⟩ (by simp) rfl
      have p0 : l 0 = true := hpre _ rfl ⟨0, .phase⟩ (by simp) rfl
      have p1 : l 1 = true := hpre _ rfl ⟨1, .phase⟩ (by simp) rfl
      have p2 : l 2 = true := hpre _ rfl ⟨2, .phase⟩ (by simp) rfl
      have p3 : l 3 = true := hpre _ rfl ⟨3, .phase⟩ (by simp) rfl
      have p4 : l 4 = true := hpre _ rfl ⟨4, .phase⟩ (by simp) rfl
      have p5 : l 5 = true := hpre _ rfl ⟨5, .phase⟩ (by simp) rfl
      have p6 : l 6 = true := hpre _ rfl ⟨6, .phase⟩ (by simp) rfl
      have p7 : l 7 = true := hpre _ rfl ⟨7, .phase⟩ (by simp) rfl
      have p8 : l 8 = true := hpre _ rfl ⟨8, .phase⟩ (by simp) rfl
      have p9 : l 9 = true := hpre _ rfl ⟨9, .phase⟩ (by simp) rfl
      have p11 : l 11 = true := hpre _ rfl ⟨11, .phase⟩ (by simp) rfl
      have p12 : l 12 = true := hpre _ rfl ⟨12, .phase⟩ (by simp) rfl
      have p13 : l 13 = true := hpre _ rfl ⟨13, .phase⟩ (by simp) rfl
      refine wpOp_step rfl (fun K hK => ?_)
      simp only [p14, p10, p0, p1, p2, p3, p4, p5, p6, p7, p8, p9, p11, p12, p13, cond_true]
      clear hpre
      rw [if_pos (by rfl)]
      go_simp
      exact hK _ _ ⟨by simp [upd, Act.put, p14, p10, p0, p1, p2, p3, p4, p5, p6, p7, p8, p9, p11, p12, p13], hB⟩
  · rintro l a W5' hall ⟨rfl, hBz⟩
    simp only [hall 0 (by decide), hall 1 (by decide), hall 2 (by decide), hall 3 (by decide), hall 4 (by decide), hall 5 (by decide), hall 6 (by decide), hall 7 (by decide), hall 8 (by decide), hall 9 (by decide), hall 10 (by decide), hall 11 (by decide), hall 12 (by decide), hall 13 (by decide), hall 14 (by decide), hall 15 (by decide), cond_true]
    clear hall
    go_wp2_with fail
    go_ret
    exact ⟨rfl, HB1.out.trans ((B5.out.trans (hBz.mono B5.out.size)).mono (by rw [HS1.out]; omega))⟩

theorem walk (X Y : Nat) (hX : X < M) (hY : Y < M) (s : ByteArray) (hs : s.size ≤ maxLen) (w : World) :
    Calls Try.prog 9 #[.agg (kl X Y).toArray, .string s] w fun e w' => e = .returned (.bool true) ∧ Below w.heap.size w w' := by
  by_cases h : POk s
  · exact walkN X Y hX hY s (txX s) (txY s) 0 (vwd16_lt _) (vwd16_lt _) (fun w => parse_ok s w h) (fun w => (refParse_any s w hs).mono fun e w' ⟨h1, h2⟩ => ⟨by
      rcases h1 with h1 | h1
      · exact h1.2
      · exact absurd h h1.1, h2⟩) w
  · exact walkN X Y hX hY s 0 0 12 (by decide) (by decide) (fun w => parse_bad s w hs h) (fun w => (refParse_any s w hs).mono fun e w' ⟨h1, h2⟩ => ⟨by
      rcases h1 with h1 | h1
      · exact absurd h1.1 h
      · exact h1.2, h2⟩) w
end Go.Proofs.Ytphhppdokdageaa.cipherTexts
