/- The walk over CipherBlocks. -/
import Derived.Test.YtphhppdokdageaaRfH
import Derived.Test.YtphhppdokdageaaLawB
namespace Go.Proofs.Ytphhppdokdageaa.cipherBlocks
open Go.RowKit SP
set_option linter.unusedVariables false
set_option linter.unusedSimpArgs false

set_option maxRecDepth 100000 in
set_option maxHeartbeats 4000000 in
theorem walk (X Y : Nat) (hX : X < M) (hY : Y < M) (A B : Nat) (hA : A < M) (hB : B < M) (w : World) :
    Calls Try.prog 4 #[.agg (kl X Y).toArray, .agg (kl A B).toArray] w fun e w' => e = .returned (.bool true) ∧ Below w.heap.size w w' := by
  have E1 := Lib.hid (fun w => encrypt_any X Y A B w hX hY hA hB)
  have E2 := Lib.hid (fun w => refEncrypt_any X Y A B w hX hY hA hB)
  have D1 := Lib.hid (fun w => decrypt_any X Y A B w hX hY hA hB)
  have D2 := Lib.hid (fun w => refDecrypt_any X Y A B w hX hY hA hB)
  have o1 := enc_ok hX hY hA hB
  have o2 := dec_ok (X := X) (Y := Y) hA hB
  obtain ⟨P, hP⟩ : ∃ P, P = (enc X Y A B).1 := ⟨_, rfl⟩
  obtain ⟨Q, hQ⟩ : ∃ Q, Q = (enc X Y A B).2 := ⟨_, rfl⟩
  obtain ⟨U, hU⟩ : ∃ U, U = (dec X Y A B).1 := ⟨_, rfl⟩
  obtain ⟨V, hV⟩ : ∃ V, V = (dec X Y A B).2 := ⟨_, rfl⟩
  unfold Ok at o1 o2
  rw [← hP, ← hQ] at E1 E2 o1
  rw [← hU, ← hV] at D1 D2 o2
  have Q1 : Hid (∀ w, (Op.equalIn 10000 23 (.agg (kl P Q).toArray) (.agg (kl P Q).toArray)).run Try.prog w = .ok true w) := Lib.hid (fun w => by rw [run_equal_key o1.1 o1.2 o1.1 o1.2 w]; simp [same])
  have Q2 : Hid (∀ w, (Op.equalIn 10000 23 (.agg (kl U V).toArray) (.agg (kl U V).toArray)).run Try.prog w = .ok true w) := Lib.hid (fun w => by rw [run_equal_key o2.1 o2.2 o2.1 o2.2 w]; simp [same])
  obtain ⟨N, hN⟩ : ∃ N, N = w.heap.size := ⟨_, rfl⟩
  obtain ⟨W3, hW3⟩ : ∃ W3, W3 = (w.alloc (.cells (kl X Y).toArray 23)).alloc (.cells (kl A B).toArray 23) := ⟨_, rfl⟩
  have HB3 : Hid (Below N w W3) := Lib.hid (by rw [hW3, hN]; exact ((Below.refl _ _).alloc (Nat.le_refl _) _).alloc (by simp) _)
  have HS3 : Hid (N ≤ W3.heap.size) := Lib.hid (by rw [hW3, hN]; simp; omega)
  have K0 : Hid (KeyAt W3 N X Y) := Lib.hid (by rw [hW3, hN]; exact (KeyAt.new w X Y 23).alloc _)
  have K1 : Hid (KeyAt W3 (N + 1) A B) := Lib.hid (by
    have h := KeyAt.new (w.alloc (.cells (kl X Y).toArray 23)) A B 23
    rw [World.size_alloc] at h
    rw [hW3, hN]; exact h)
  have HW := Lib.hid hW3
  have HN := Lib.hid hN
  clear hW3 hN hX hY hA hB o1 o2 hP hQ hU hV
  go_enter Try.func4, Try.ntmps4
  go_wp2_with fail
  rw [← HW.out, ← HN.out]
  refine wp_region_inv (by kernel_rfl) (by kernel_rfl) (fun l a w' => a = { tmps := #[Value.agg (kl X Y).toArray, Value.agg (kl A B).toArray, .pointer (some ⟨N, 0, none⟩), .pointer (some ⟨N + 1, 0, none⟩), bif l 16 then Value.bool true else .bool false, bif l 0 then Value.agg (kl X Y).toArray else undef, bif l 1 then Value.agg (kl A B).toArray else undef, bif l 2 then Value.agg (kl P Q).toArray else undef, bif l 3 then Value.agg (kl X Y).toArray else undef, bif l 4 then Value.agg (kl A B).toArray else undef, bif l 5 then Value.agg (kl P Q).toArray else undef, bif l 6 then Value.bool true else undef, bif l 7 then Value.bool true else undef, bif l 8 then Value.agg (kl X Y).toArray else undef, bif l 9 then Value.agg (kl A B).toArray else undef, bif l 10 then Value.agg (kl U V).toArray else undef, bif l 11 then Value.agg (kl X Y).toArray else undef, bif l 12 then Value.agg (kl A B).toArray else undef, bif l 13 then Value.agg (kl U V).toArray else undef, bif l 14 then Value.bool true else undef, bif l 15 then Value.bool true else undef], defers := [] } ∧ Below W3.heap.size W3 w') ⟨rfl, (Below.refl _ _).drew⟩ ?_ ?_
  · rintro l a w' i ⟨rfl, hB⟩ hi hli hpre
    have hi2 : i < 17 := hi
    have hcase : i = 0 ∨ i = 1 ∨ i = 2 ∨ i = 3 ∨ i = 4 ∨ i = 5 ∨ i = 6 ∨ i = 7 ∨ i = 8 ∨ i = 9 ∨ i = 10 ∨ i = 11 ∨ i = 12 ∨ i = 13 ∨ i = 14 ∨ i = 15 ∨ i = 16 := by omega
    clear hi hi2
    rcases hcase with rfl | rfl | rfl | rfl | rfl | rfl | rfl | rfl | rfl | rfl | rfl | rfl | rfl | rfl | rfl | rfl | rfl
    · -- 0: Op.load 23 (Operand.tmp 2)
      refine wpOp_step rfl (fun K hK => ?_)
      clear hpre
      rw [if_pos (by rfl)]
      refine wp_load_mid 23 _ rfl _ 0 rfl (kl X Y) _ ((K0.out).below hB (K0.out).lt) Try.underlying23 rfl (by rw [kl_len]; exact size23) ?_
      exact hK _ _ ⟨by simp [upd, Act.put], hB⟩
    · -- 1: Op.load 23 (Operand.tmp 3)
      refine wpOp_step rfl (fun K hK => ?_)
      clear hpre
      rw [if_pos (by rfl)]
      refine wp_load_mid 23 _ rfl _ 0 rfl (kl A B) _ ((K1.out).below hB (K1.out).lt) Try.underlying23 rfl (by rw [kl_len]; exact size23) ?_
      exact hK _ _ ⟨by simp [upd, Act.put], hB⟩
    · -- 2: Op.call { callee := Callee.value (Operand.func 27), args := 
      have p0 : l 0 = true := hpre _ rfl ⟨0, .data⟩ (by simp) rfl
      have p1 : l 1 = true := hpre _ rfl ⟨1, .data⟩ (by simp) rfl
      refine wpOp_step rfl (fun K hK => ?_)
      simp only [p0, p1, cond_true]
      clear hpre
      rw [if_pos (by rfl)]
      go_simp
      refine (E1.out _).mono ?_
      rintro e w5 ⟨rfl, hb5⟩
      exact hK _ _ ⟨by simp [upd, Act.put, p0, p1], hB.trans (hb5.mono hB.size)⟩
    · -- 3: Op.load 23 (Operand.tmp 2)
      refine wpOp_step rfl (fun K hK => ?_)
      clear hpre
      rw [if_pos (by rfl)]
      refine wp_load_mid 23 _ rfl _ 0 rfl (kl X Y) _ ((K0.out).below hB (K0.out).lt) Try.underlying23 rfl (by rw [kl_len]; exact size23) ?_
      exact hK _ _ ⟨by simp [upd, Act.put], hB⟩
    · -- 4: Op.load 23 (Operand.tmp 3)
      refine wpOp_step rfl (fun K hK => ?_)
      clear hpre
      rw [if_pos (by rfl)]
      refine wp_load_mid 23 _ rfl _ 0 rfl (kl A B) _ ((K1.out).below hB (K1.out).lt) Try.underlying23 rfl (by rw [kl_len]; exact size23) ?_
      exact hK _ _ ⟨by simp [upd, Act.put], hB⟩
    · -- 5: Op.call { callee := Callee.value (Operand.func 28), args := 
      have p3 : l 3 = true := hpre _ rfl ⟨3, .data⟩ (by simp) rfl
      have p4 : l 4 = true := hpre _ rfl ⟨4, .data⟩ (by simp) rfl
      have p2 : l 2 = true := hpre _ rfl ⟨2, .chain⟩ (by simp) rfl
      refine wpOp_step rfl (fun K hK => ?_)
      simp only [p3, p4, p2, cond_true]
      clear hpre
      rw [if_pos (by rfl)]
      go_simp
      refine (E2.out _).mono ?_
      rintro e w5 ⟨rfl, hb5⟩
      exact hK _ _ ⟨by simp [upd, Act.put, p3, p4, p2], hB.trans (hb5.mono hB.size)⟩
    · -- 6: Op.binOp BinOp.eql 23 (Operand.tmp 7) (Operand.tmp 10) 23
      have p2 : l 2 = true := hpre _ rfl ⟨2, .data⟩ (by simp) rfl
      have p5 : l 5 = true := hpre _ rfl ⟨5, .data⟩ (by simp) rfl
      refine wpOp_step rfl (fun K hK => ?_)
      simp only [p2, p5, cond_true]
      clear hpre
      rw [if_pos (by rfl)]
      have q1 := Q1.out
      go_simp
      exact hK _ _ ⟨by simp [upd, Act.put, p2, p5], hB⟩
    · -- 7: Op.move (Operand.tmp 11)
      have p6 : l 6 = true := hpre _ rfl ⟨6, .data⟩ (by simp) rfl
      have p5 : l 5 = true := hpre _ rfl ⟨5, .chain⟩ (by simp) rfl
      refine wpOp_step rfl (fun K hK => ?_)
      simp only [p6, p5, cond_true]
      clear hpre
      rw [if_pos (by rfl)]
      go_simp
      exact hK _ _ ⟨by simp [upd, Act.put, p6, p5], hB⟩
    · -- 8: Op.load 23 (Operand.tmp 2)
      have p7 : l 7 = true := hpre _ rfl ⟨7, .guard⟩ (by simp) rfl
      refine wpOp_step rfl (fun K hK => ?_)
      simp only [p7, cond_true]
      clear hpre
      rw [if_pos (by rfl)]
      refine wp_load_mid 23 _ rfl _ 0 rfl (kl X Y) _ ((K0.out).below hB (K0.out).lt) Try.underlying23 rfl (by rw [kl_len]; exact size23) ?_
      exact hK _ _ ⟨by simp [upd, Act.put, p7], hB⟩
    · -- 9: Op.load 23 (Operand.tmp 3)
      have p7 : l 7 = true := hpre _ rfl ⟨7, .guard⟩ (by simp) rfl
      refine wpOp_step rfl (fun K hK => ?_)
      simp only [p7, cond_true]
      clear hpre
      rw [if_pos (by rfl)]
      refine wp_load_mid 23 _ rfl _ 0 rfl (kl A B) _ ((K1.out).below hB (K1.out).lt) Try.underlying23 rfl (by rw [kl_len]; exact size23) ?_
      exact hK _ _ ⟨by simp [upd, Act.put, p7], hB⟩
    · -- 10: Op.call { callee := Callee.value (Operand.func 29), args := 
      have p8 : l 8 = true := hpre _ rfl ⟨8, .data⟩ (by simp) rfl
      have p9 : l 9 = true := hpre _ rfl ⟨9, .data⟩ (by simp) rfl
      have p7 : l 7 = true := hpre _ rfl ⟨7, .chain⟩ (by simp) rfl
      refine wpOp_step rfl (fun K hK => ?_)
      simp only [p8, p9, p7, cond_true]
      clear hpre
      rw [if_pos (by rfl)]
      go_simp
      refine (D1.out _).mono ?_
      rintro e w5 ⟨rfl, hb5⟩
      exact hK _ _ ⟨by simp [upd, Act.put, p8, p9, p7], hB.trans (hb5.mono hB.size)⟩
    · -- 11: Op.load 23 (Operand.tmp 2)
      have p7 : l 7 = true := hpre _ rfl ⟨7, .guard⟩ (by simp) rfl
      refine wpOp_step rfl (fun K hK => ?_)
      simp only [p7, cond_true]
      clear hpre
      rw [if_pos (by rfl)]
      refine wp_load_mid 23 _ rfl _ 0 rfl (kl X Y) _ ((K0.out).below hB (K0.out).lt) Try.underlying23 rfl (by rw [kl_len]; exact size23) ?_
      exact hK _ _ ⟨by simp [upd, Act.put, p7], hB⟩
    · -- 12: Op.load 23 (Operand.tmp 3)
      have p7 : l 7 = true := hpre _ rfl ⟨7, .guard⟩ (by simp) rfl
      refine wpOp_step rfl (fun K hK => ?_)
      simp only [p7, cond_true]
      clear hpre
      rw [if_pos (by rfl)]
      refine wp_load_mid 23 _ rfl _ 0 rfl (kl A B) _ ((K1.out).below hB (K1.out).lt) Try.underlying23 rfl (by rw [kl_len]; exact size23) ?_
      exact hK _ _ ⟨by simp [upd, Act.put, p7], hB⟩
    · -- 13: Op.call { callee := Callee.value (Operand.func 30), args := 
      have p11 : l 11 = true := hpre _ rfl ⟨11, .data⟩ (by simp) rfl
      have p12 : l 12 = true := hpre _ rfl ⟨12, .data⟩ (by simp) rfl
      have p10 : l 10 = true := hpre _ rfl ⟨10, .chain⟩ (by simp) rfl
      have p7 : l 7 = true := hpre _ rfl ⟨7, .guard⟩ (by simp) rfl
      refine wpOp_step rfl (fun K hK => ?_)
      simp only [p11, p12, p10, p7, cond_true]
      clear hpre
      rw [if_pos (by rfl)]
      go_simp
      refine (D2.out _).mono ?_
      rintro e w5 ⟨rfl, hb5⟩
      exact hK _ _ ⟨by simp [upd, Act.put, p11, p12, p10, p7], hB.trans (hb5.mono hB.size)⟩
    · -- 14: Op.binOp BinOp.eql 23 (Operand.tmp 15) (Operand.tmp 18) 23
      have p10 : l 10 = true := hpre _ rfl ⟨10, .data⟩ (by simp) rfl
      have p13 : l 13 = true := hpre _ rfl ⟨13, .data⟩ (by simp) rfl
      have p7 : l 7 = true := hpre _ rfl ⟨7, .guard⟩ (by simp) rfl
      refine wpOp_step rfl (fun K hK => ?_)
      simp only [p10, p13, p7, cond_true]
      clear hpre
      rw [if_pos (by rfl)]
      have q1 := Q2.out
      go_simp
      exact hK _ _ ⟨by simp [upd, Act.put, p10, p13, p7], hB⟩
    · -- 15: Op.pick (Operand.tmp 12) (Operand.tmp 19) (Operand.const (Va
      have p7 : l 7 = true := hpre _ rfl ⟨7, .data⟩ (by simp) rfl
      have p14 : l 14 = true := hpre _ rfl ⟨14, .data⟩ (by simp) rfl
      refine wpOp_step rfl (fun K hK => ?_)
      simp only [p7, p14, cond_true]
      clear hpre
      rw [if_pos (by rfl)]
      go_simp
      exact hK _ _ ⟨by simp [upd, Act.put, p7, p14], hB⟩
    · -- 16: Op.assign (Operand.tmp 20)
      have p15 : l 15 = true := hpre _ rfl ⟨15, .data⟩ (by simp) rfl
      have p13 : l 13 = true := hpre _ rfl ⟨13, .chain⟩ (by simp) rfl
      have p0 : l 0 = true := hpre _ rfl ⟨0, .phase⟩ (by simp) rfl
      have p1 : l 1 = true := hpre _ rfl ⟨1, .phase⟩ (by simp) rfl
      have p2 : l 2 = true := hpre _ rfl ⟨2, .phase⟩ (by simp) rfl
      have p3 : l 3 = true := hpre _ rfl ⟨3, .phase⟩ (by simp) rfl
      have p4 : l 4 = true := hpre _ rfl ⟨4, .phase⟩ (by simp) rfl
      have p5 : l 5 = true := hpre _ rfl ⟨5, .phase⟩ (by simp) rfl
      have p6 : l 6 = true := hpre _ rfl ⟨6, .phase⟩ (by simp) rfl
      have p7 : l 7 = true := hpre _ rfl ⟨7, .phase⟩ (by simp) rfl
      have p8 : l 8 = true := hpre _ rfl ⟨8, .phase⟩ (by simp) rfl
      have p9 : l 9 = true := hpre _ rfl ⟨9, .phase⟩ (by simp) rfl
      have p10 : l 10 = true := hpre _ rfl ⟨10, .phase⟩ (by simp) rfl
      have p11 : l 11 = true := hpre _ rfl ⟨11, .phase⟩ (by simp) rfl
      have p12 : l 12 = true := hpre _ rfl ⟨12, .phase⟩ (by simp) rfl
      have p14 : l 14 = true := hpre _ rfl ⟨14, .phase⟩ (by simp) rfl
      refine wpOp_step rfl (fun K hK => ?_)
      simp only [p15, p13, p0, p1, p2, p3, p4, p5, p6, p7, p8, p9, p10, p11, p12, p14, cond_true]
      clear hpre
      rw [if_pos (by rfl)]
      go_simp
      exact hK _ _ ⟨by simp [upd, Act.put, p15, p13, p0, p1, p2, p3, p4, p5, p6, p7, p8, p9, p10, p11, p12, p14], hB⟩
  · rintro l a W3' hall ⟨rfl, hBz⟩
    simp only [hall 0 (by decide), hall 1 (by decide), hall 2 (by decide), hall 3 (by decide), hall 4 (by decide), hall 5 (by decide), hall 6 (by decide), hall 7 (by decide), hall 8 (by decide), hall 9 (by decide), hall 10 (by decide), hall 11 (by decide), hall 12 (by decide), hall 13 (by decide), hall 14 (by decide), hall 15 (by decide), hall 16 (by decide), cond_true]
    clear hall
    go_wp2_with fail
    go_ret
    exact ⟨rfl, by rw [← HN.out]; exact HB3.out.trans (hBz.mono HS3.out)⟩
end Go.Proofs.Ytphhppdokdageaa.cipherBlocks
