/- The walk over CipherInverse. -/
import Derived.Test.YtphhppdokdageaaAlv
import Derived.Test.YtphhppdokdageaaLawB
namespace Go.Proofs.Ytphhppdokdageaa.cipherInverse
open Go.RowKit SP
set_option linter.unusedVariables false
set_option linter.unusedSimpArgs false
set_option linter.unnecessarySimpa false

theorem same_enc {X Y A B C D : Nat} (hX : X < M) (hY : Y < M) (hA : A < M) (hB : B < M) (hC : C < M) (hD : D < M) :
    same (enc X Y A B).1 (enc X Y A B).2 (enc X Y C D).1 (enc X Y C D).2 = same A B C D := by
  unfold same
  congr 1
  apply propext
  constructor
  · rintro ⟨h1, h2⟩
    exact enc_inj hX hY hA hB hC hD (Prod.ext h1 h2)
  · rintro ⟨rfl, rfl⟩; exact ⟨rfl, rfl⟩

set_option maxRecDepth 100000 in
set_option maxHeartbeats 4000000 in
theorem walk (X Y : Nat) (hX : X < M) (hY : Y < M) (A B : Nat) (hA : A < M) (hB : B < M) (C D : Nat) (hC : C < M) (hD : D < M) (w : World) :
    Calls Try.prog 10 #[.agg (kl X Y).toArray, .agg (kl A B).toArray, .agg (kl C D).toArray] w fun e w' => e = .returned (.bool true) ∧ Below w.heap.size w w' := by
  have HAl := Lib.hid (fun w => alive_any w)
  have E1 := Lib.hid (fun w => encrypt_any X Y A B w hX hY hA hB)
  have E2 := Lib.hid (fun w => encrypt_any X Y C D w hX hY hC hD)
  have o1 := enc_ok hX hY hA hB
  have o2 := enc_ok hX hY hC hD
  have D1 := Lib.hid (fun w => decrypt_any X Y (enc X Y A B).1 (enc X Y A B).2 w hX hY o1.1 o1.2)
  rw [dec_enc hX hY hA hB] at D1
  have D2 := Lib.hid (fun w => decrypt_any X Y A B w hX hY hA hB)
  have o3 := dec_ok (X := X) (Y := Y) hA hB
  have E3 := Lib.hid (fun w => encrypt_any X Y (dec X Y A B).1 (dec X Y A B).2 w hX hY o3.1 o3.2)
  rw [enc_dec hX hY hA hB] at E3
  have hs := same_enc hX hY hA hB hC hD
  obtain ⟨P, hP⟩ : ∃ P, P = (enc X Y A B).1 := ⟨_, rfl⟩
  obtain ⟨Q, hQ⟩ : ∃ Q, Q = (enc X Y A B).2 := ⟨_, rfl⟩
  obtain ⟨R, hR⟩ : ∃ R, R = (enc X Y C D).1 := ⟨_, rfl⟩
  obtain ⟨S, hS⟩ : ∃ S, S = (enc X Y C D).2 := ⟨_, rfl⟩
  obtain ⟨U, hU⟩ : ∃ U, U = (dec X Y A B).1 := ⟨_, rfl⟩
  obtain ⟨V, hV⟩ : ∃ V, V = (dec X Y A B).2 := ⟨_, rfl⟩
  unfold Ok at o1 o2
  rw [← hP, ← hQ] at E1 D1 hs o1
  rw [← hR, ← hS] at E2 hs o2
  rw [← hU, ← hV] at D2 E3
  have Q1 : Hid (∀ w, (Op.equalIn 10000 23 (.agg (kl A B).toArray) (.agg (kl A B).toArray)).run Try.prog w = .ok true w) := Lib.hid (fun w => by rw [run_equal_key hA hB hA hB w]; simp [same])
  have Q2' := fun w => run_equal_key o1.1 o1.2 o2.1 o2.2 w
  have Q3' := fun w => run_equal_key hA hB hC hD w
  rw [hs] at Q2'
  obtain ⟨N, hN⟩ : ∃ N, N = w.heap.size := ⟨_, rfl⟩
  obtain ⟨W3, hW3⟩ : ∃ W3, W3 = ((w.alloc (.cells (kl X Y).toArray 23)).alloc (.cells (kl A B).toArray 23)).alloc (.cells (kl C D).toArray 23) := ⟨_, rfl⟩
  have HB3 : Hid (Below N w W3) := Lib.hid (by rw [hW3, hN]; exact (((Below.refl _ _).alloc (Nat.le_refl _) _).alloc (by simp) _).alloc (by simp; omega) _)
  have HS3 : Hid (N ≤ W3.heap.size) := Lib.hid (by rw [hW3, hN]; simp; omega)
  have K0 : Hid (KeyAt W3 N X Y) := Lib.hid (by rw [hW3, hN]; exact ((KeyAt.new w X Y 23).alloc _).alloc _)
  have K1 : Hid (KeyAt W3 (N + 1) A B) := Lib.hid (by
    have h := (KeyAt.new (w.alloc (.cells (kl X Y).toArray 23)) A B 23).alloc (.cells (kl C D).toArray 23)
    rw [World.size_alloc] at h
    rw [hW3, hN]; exact h)
  have K2 : Hid (KeyAt W3 (N + 1 + 1) C D) := Lib.hid (by
    have h := KeyAt.new ((w.alloc (.cells (kl X Y).toArray 23)).alloc (.cells (kl A B).toArray 23)) C D 23
    rw [World.size_alloc, World.size_alloc] at h
    rw [hW3, hN]; exact h)
  have HW := Lib.hid hW3
  have HN := Lib.hid hN
  clear hW3 hN hX hY hA hB hC hD o1 o2 o3 hP hQ hR hS hU hV hs
  obtain ⟨b, hb⟩ : ∃ b, b = same A B C D := ⟨_, rfl⟩
  rw [← hb] at Q2' Q3'
  clear hb
  have Q2h := Lib.hid Q2'
  have Q3h := Lib.hid Q3'
  clear Q2' Q3'
  go_enter Try.func10, Try.ntmps10
  go_wp2_with fail
  rw [← HW.out, ← HN.out]
  refine wp_region_inv (by kernel_rfl) (by kernel_rfl) (fun l a w' => ∃ b7 b8 : Nat, a = { tmps := #[Value.agg (kl X Y).toArray, Value.agg (kl A B).toArray, Value.agg (kl C D).toArray, .pointer (some ⟨N, 0, none⟩), .pointer (some ⟨N + 1, 0, none⟩), .pointer (some ⟨N + 1 + 1, 0, none⟩), .bool false, bif l 6 then Value.pointer (some ⟨b7, 0, none⟩) else undef, bif l 7 then Value.pointer (some ⟨b8, 0, none⟩) else undef, bif l 0 then Value.agg (kl X Y).toArray else undef, bif l 1 then Value.agg (kl A B).toArray else undef, bif l 2 then Value.agg (kl P Q).toArray else undef, bif l 3 then Value.agg (kl X Y).toArray else undef, bif l 4 then Value.agg (kl C D).toArray else undef, bif l 5 then Value.agg (kl R S).toArray else undef, undef, undef, undef, undef, undef, undef, undef, undef, undef, undef, undef, undef, undef, undef, undef, undef, undef, undef, undef, undef, undef, undef, undef, undef, undef, undef], defers := [] } ∧ Below W3.heap.size W3 w' ∧ (l 6 = true → w'.there b7 0 16 ∧ W3.heap.size ≤ b7 ∧ (l 8 = true → KeyAt w' b7 P Q)) ∧ (l 7 = true → w'.there b8 0 16 ∧ W3.heap.size ≤ b8 ∧ (l 9 = true → KeyAt w' b8 R S)) ∧ (l 6 = true → l 7 = true → b7 ≠ b8) ∧ (l 8 = true → l 6 = true) ∧ (l 9 = true → l 7 = true)) ⟨0, 0, rfl, (Below.refl _ _).drew, (fun h => by cases h), (fun h => by cases h), (fun h => by cases h), (fun h => by cases h), (fun h => by cases h)⟩ ?_ ?_
  · rintro l a w' i ⟨b7, b8, rfl, hB, h0, h1, d01, o0, o1⟩ hi hli hpre
    have hi2 : i < 10 := hi
    have hcase : i = 0 ∨ i = 1 ∨ i = 2 ∨ i = 3 ∨ i = 4 ∨ i = 5 ∨ i = 6 ∨ i = 7 ∨ i = 8 ∨ i = 9 := by omega
    clear hi hi2
    rcases hcase with rfl | rfl | rfl | rfl | rfl | rfl | rfl | rfl | rfl | rfl
    · -- 0: Op.load 23 (Operand.tmp 3)
      refine wpOp_step rfl (fun K hK => ?_)
      clear hpre
      rw [if_pos (by rfl)]
      refine wp_load_mid 23 _ rfl _ 0 rfl (kl X Y) _ ((K0.out).below hB (K0.out).lt) Try.underlying23 rfl (by rw [kl_len]; exact size23) ?_
      exact hK _ _ ⟨b7, b8, by simp [upd, Act.put], hB, (by simpa [upd] using h0), (by simpa [upd] using h1), (by simpa [upd] using d01), (by simpa [upd] using o0), (by simpa [upd] using o1)⟩
    · -- 1: Op.load 23 (Operand.tmp 4)
      refine wpOp_step rfl (fun K hK => ?_)
      clear hpre
      rw [if_pos (by rfl)]
      refine wp_load_mid 23 _ rfl _ 0 rfl (kl A B) _ ((K1.out).below hB (K1.out).lt) Try.underlying23 rfl (by rw [kl_len]; exact size23) ?_
      exact hK _ _ ⟨b7, b8, by simp [upd, Act.put], hB, (by simpa [upd] using h0), (by simpa [upd] using h1), (by simpa [upd] using d01), (by simpa [upd] using o0), (by simpa [upd] using o1)⟩
    · -- 2: Op.call { callee := Callee.value (Operand.func 27), args := 
      have p0 : l 0 = true := hpre _ rfl ⟨0, .data⟩ (by simp) rfl
      have p1 : l 1 = true := hpre _ rfl ⟨1, .data⟩ (by simp) rfl
      refine wpOp_step rfl (fun K hK => ?_)
      simp only [p0, p1, cond_true]
      clear hpre
      rw [if_pos (by rfl)]
      go_simp
      refine (E1.out _).mono ?_
      rintro e w5 ⟨rfl, hb5⟩
      exact hK _ _ ⟨b7, b8, by simp [upd, Act.put, p0, p1], hB.trans (hb5.mono hB.size), (fun a => by
          have a' : l 6 = true := by simpa [upd] using a
          obtain ⟨x1, x2, x3⟩ := h0 a'
          exact ⟨there_below x1 hb5 (there_lt x1 (by omega)), x2, fun e => (x3 (by simpa [upd] using e)).keep hb5⟩), (fun a => by
          have a' : l 7 = true := by simpa [upd] using a
          obtain ⟨x1, x2, x3⟩ := h1 a'
          exact ⟨there_below x1 hb5 (there_lt x1 (by omega)), x2, fun e => (x3 (by simpa [upd] using e)).keep hb5⟩), (by simpa [upd, p0, p1] using d01), (by simpa [upd, p0, p1] using o0), (by simpa [upd, p0, p1] using o1)⟩
    · -- 3: Op.load 23 (Operand.tmp 3)
      refine wpOp_step rfl (fun K hK => ?_)
      clear hpre
      rw [if_pos (by rfl)]
      refine wp_load_mid 23 _ rfl _ 0 rfl (kl X Y) _ ((K0.out).below hB (K0.out).lt) Try.underlying23 rfl (by rw [kl_len]; exact size23) ?_
      exact hK _ _ ⟨b7, b8, by simp [upd, Act.put], hB, (by simpa [upd] using h0), (by simpa [upd] using h1), (by simpa [upd] using d01), (by simpa [upd] using o0), (by simpa [upd] using o1)⟩
    · -- 4: Op.load 23 (Operand.tmp 5)
      refine wpOp_step rfl (fun K hK => ?_)
      clear hpre
      rw [if_pos (by rfl)]
      refine wp_load_mid 23 _ rfl _ 0 rfl (kl C D) _ ((K2.out).below hB (K2.out).lt) Try.underlying23 rfl (by rw [kl_len]; exact size23) ?_
      exact hK _ _ ⟨b7, b8, by simp [upd, Act.put], hB, (by simpa [upd] using h0), (by simpa [upd] using h1), (by simpa [upd] using d01), (by simpa [upd] using o0), (by simpa [upd] using o1)⟩
    · -- 5: Op.call { callee := Callee.value (Operand.func 27), args := 
      have p3 : l 3 = true := hpre _ rfl ⟨3, .data⟩ (by simp) rfl
      have p4 : l 4 = true := hpre _ rfl ⟨4, .data⟩ (by simp) rfl
      have p2 : l 2 = true := hpre _ rfl ⟨2, .chain⟩ (by simp) rfl
      refine wpOp_step rfl (fun K hK => ?_)
      simp only [p3, p4, p2, cond_true]
      clear hpre
      rw [if_pos (by rfl)]
      go_simp
      refine (E2.out _).mono ?_
      rintro e w5 ⟨rfl, hb5⟩
      exact hK _ _ ⟨b7, b8, by simp [upd, Act.put, p3, p4, p2], hB.trans (hb5.mono hB.size), (fun a => by
          have a' : l 6 = true := by simpa [upd] using a
          obtain ⟨x1, x2, x3⟩ := h0 a'
          exact ⟨there_below x1 hb5 (there_lt x1 (by omega)), x2, fun e => (x3 (by simpa [upd] using e)).keep hb5⟩), (fun a => by
          have a' : l 7 = true := by simpa [upd] using a
          obtain ⟨x1, x2, x3⟩ := h1 a'
          exact ⟨there_below x1 hb5 (there_lt x1 (by omega)), x2, fun e => (x3 (by simpa [upd] using e)).keep hb5⟩), (by simpa [upd, p3, p4, p2] using d01), (by simpa [upd, p3, p4, p2] using o0), (by simpa [upd, p3, p4, p2] using o1)⟩
    · -- 6: Op.alloc 23
      refine wpOp_step rfl (fun K hK => ?_)
      clear hpre
      rw [if_pos (by rfl)]
      have hA : Below w'.heap.size w' (w'.alloc (.cells z16 23)) := (Below.refl _ _).alloc (Nat.le_refl _) _
      go_simp
      exact hK _ _ ⟨w'.heap.size, b8, by simp [upd, Act.put], hB.trans (hA.mono hB.size), (fun _ => ⟨(Row.zeros w' 23).there, hB.size, fun e => by
          have e' : l 8 = true := by simpa [upd] using e
          rw [o0 e'] at hli; cases hli⟩), (fun a => by
          have a' : l 7 = true := by simpa [upd] using a
          obtain ⟨x1, x2, x3⟩ := h1 a'
          exact ⟨there_below x1 hA (there_lt x1 (by omega)), x2, fun e => (x3 (by simpa [upd] using e)).keep hA⟩), (fun _ a => by
          have a' : l 7 = true := by simpa [upd] using a
          have := there_lt (h1 a').1 (by omega)
          omega), (fun _ => by simp [upd]), (by simpa [upd] using o1)⟩
    · -- 7: Op.alloc 23
      refine wpOp_step rfl (fun K hK => ?_)
      clear hpre
      rw [if_pos (by rfl)]
      have hA : Below w'.heap.size w' (w'.alloc (.cells z16 23)) := (Below.refl _ _).alloc (Nat.le_refl _) _
      go_simp
      exact hK _ _ ⟨b7, w'.heap.size, by simp [upd, Act.put], hB.trans (hA.mono hB.size), (fun a => by
          have a' : l 6 = true := by simpa [upd] using a
          obtain ⟨x1, x2, x3⟩ := h0 a'
          exact ⟨there_below x1 hA (there_lt x1 (by omega)), x2, fun e => (x3 (by simpa [upd] using e)).keep hA⟩), (fun _ => ⟨(Row.zeros w' 23).there, hB.size, fun e => by
          have e' : l 9 = true := by simpa [upd] using e
          rw [o1 e'] at hli; cases hli⟩), (fun a _ => by
          have a' : l 6 = true := by simpa [upd] using a
          have := there_lt (h0 a').1 (by omega)
          omega), (by simpa [upd] using o0), (fun _ => by simp [upd])⟩
    · -- 8: Op.store 23 (Operand.tmp 7) (Operand.tmp 11)
      have p6 : l 6 = true := hpre _ rfl ⟨6, .data⟩ (by simp) rfl
      have p2 : l 2 = true := hpre _ rfl ⟨2, .data⟩ (by simp) rfl
      have p5 : l 5 = true := hpre _ rfl ⟨5, .chain⟩ (by simp) rfl
      have p0 : l 0 = true := hpre _ rfl ⟨0, .phase⟩ (by simp) rfl
      have p1 : l 1 = true := hpre _ rfl ⟨1, .phase⟩ (by simp) rfl
      have p7 : l 7 = true := hpre _ rfl ⟨7, .phase⟩ (by simp) rfl
      refine wpOp_step rfl (fun K hK => ?_)
      simp only [p6, p2, p5, p0, p1, p7, cond_true]
      clear hpre
      rw [if_pos (by rfl)]
      obtain ⟨x1, x2, _⟩ := h0 p6
      refine wp_store_mid 23 _ _ rfl b7 0 (kl P Q).toArray rfl rfl (by simpa [kl_len] using x1) (by simp [kl_len, size23]) (kl_arr P Q) ?_
      rw [List.toList_toArray]
      exact hK _ _ ⟨b7, b8, by simp [upd, Act.put, p6, p2, p5, p0, p1, p7], below_setCells _ _ _ _ hB x2, (fun _ => ⟨World.there_setCells x1 _ _ _, x2, fun _ => KeyAt.stored x1 P Q⟩), (fun a => by
          have a' : l 7 = true := by simpa [upd] using a
          obtain ⟨y1, y2, y3⟩ := h1 a'
          exact ⟨World.there_setCells y1 _ _ _, y2, fun e => (y3 (by simpa [upd] using e)).setCells _ _ (Ne.symm (d01 p6 a'))⟩), (by simpa [upd, p6, p2, p5, p0, p1, p7] using d01), (fun _ => by simp [upd, p6]), (by simpa [upd, p6, p2, p5, p0, p1, p7] using o1)⟩
    · -- 9: Op.store 23 (Operand.tmp 8) (Operand.tmp 14)
      have p7 : l 7 = true := hpre _ rfl ⟨7, .data⟩ (by simp) rfl
      have p5 : l 5 = true := hpre _ rfl ⟨5, .data⟩ (by simp) rfl
      have p8 : l 8 = true := hpre _ rfl ⟨8, .chain⟩ (by simp) rfl
      have p0 : l 0 = true := hpre _ rfl ⟨0, .phase⟩ (by simp) rfl
      have p1 : l 1 = true := hpre _ rfl ⟨1, .phase⟩ (by simp) rfl
      have p2 : l 2 = true := hpre _ rfl ⟨2, .phase⟩ (by simp) rfl
      have p3 : l 3 = true := hpre _ rfl ⟨3, .phase⟩ (by simp) rfl
      have p4 : l 4 = true := hpre _ rfl ⟨4, .phase⟩ (by simp) rfl
      have p6 : l 6 = true := hpre _ rfl ⟨6, .phase⟩ (by simp) rfl
      refine wpOp_step rfl (fun K hK => ?_)
      simp only [p7, p5, p8, p0, p1, p2, p3, p4, p6, cond_true]
      clear hpre
      rw [if_pos (by rfl)]
      obtain ⟨x1, x2, _⟩ := h1 p7
      refine wp_store_mid 23 _ _ rfl b8 0 (kl R S).toArray rfl rfl (by simpa [kl_len] using x1) (by simp [kl_len, size23]) (kl_arr R S) ?_
      rw [List.toList_toArray]
      exact hK _ _ ⟨b7, b8, by simp [upd, Act.put, p7, p5, p8, p0, p1, p2, p3, p4, p6], below_setCells _ _ _ _ hB x2, (fun a => by
          have a' : l 6 = true := by simpa [upd] using a
          obtain ⟨y1, y2, y3⟩ := h0 a'
          exact ⟨World.there_setCells y1 _ _ _, y2, fun e => (y3 (by simpa [upd] using e)).setCells _ _ (d01 a' p7)⟩), (fun _ => ⟨World.there_setCells x1 _ _ _, x2, fun _ => KeyAt.stored x1 R S⟩), (by simpa [upd, p7, p5, p8, p0, p1, p2, p3, p4, p6] using d01), (by simpa [upd, p7, p5, p8, p0, p1, p2, p3, p4, p6] using o0), (fun _ => by simp [upd, p7])⟩
  · rintro l a w9 hall ⟨b7, b8, rfl, hBz, h0, h1, d01, o0, o1⟩
    simp only [hall 0 (by decide), hall 1 (by decide), hall 2 (by decide), hall 3 (by decide), hall 4 (by decide), hall 5 (by decide), hall 6 (by decide), hall 7 (by decide), cond_true]
    obtain ⟨t0, n0, k0⟩ := h0 (hall 6 (by decide))
    replace k0 := k0 (hall 8 (by decide))
    obtain ⟨t1, n1, k1⟩ := h1 (hall 7 (by decide))
    replace k1 := k1 (hall 9 (by decide))
    clear h0 h1 d01 o0 o1 hall
    obtain ⟨W5, hW5⟩ : ∃ W5, W5 = w9 := ⟨_, rfl⟩
    rw [← hW5] at hBz k0 k1 t0 t1 ⊢
    have J0 := Lib.hid (K0.out.keep hBz)
    have J1 := Lib.hid (K1.out.keep hBz)
    have J2 := Lib.hid (K2.out.keep hBz)
    have J7 := Lib.hid k0
    have J8 := Lib.hid k1
    have HB5 := Lib.hid (HB3.out.trans (hBz.mono HS3.out))
    have HS5 : Hid (N ≤ W5.heap.size) := Lib.hid (Nat.le_trans HS3.out hBz.size)
    clear hBz k0 k1 t0 t1 n0 n1 hW5
    go_wp2_with fail
    rcases Bool.eq_false_or_eq_true b with hb | hb
    · rw [hb] at Q2h Q3h
      clear hb
      have Q2 := Q2h
      have Q3 := Q3h
      refine wp_region_inv (by kernel_rfl) (by kernel_rfl) (fun l a w' => a = { tmps := #[Value.agg (kl X Y).toArray, Value.agg (kl A B).toArray, Value.agg (kl C D).toArray, .pointer (some ⟨N, 0, none⟩), .pointer (some ⟨N + 1, 0, none⟩), .pointer (some ⟨N + 1 + 1, 0, none⟩), bif l 26 then Value.bool true else .bool false, Value.pointer (some ⟨b7, 0, none⟩), Value.pointer (some ⟨b8, 0, none⟩), Value.agg (kl X Y).toArray, Value.agg (kl A B).toArray, Value.agg (kl P Q).toArray, Value.agg (kl X Y).toArray, Value.agg (kl C D).toArray, Value.agg (kl R S).toArray, bif l 0 then Value.bool true else undef, bif l 1 then Value.bool true else undef, bif l 2 then Value.agg (kl X Y).toArray else undef, bif l 3 then Value.agg (kl P Q).toArray else undef, bif l 4 then Value.agg (kl A B).toArray else undef, bif l 5 then Value.agg (kl A B).toArray else undef, bif l 6 then Value.bool true else undef, bif l 7 then Value.bool true else undef, bif l 8 then Value.bool true else undef, bif l 9 then Value.agg (kl X Y).toArray else undef, bif l 10 then Value.agg (kl X Y).toArray else undef, bif l 11 then Value.agg (kl A B).toArray else undef, bif l 12 then Value.agg (kl U V).toArray else undef, bif l 13 then Value.agg (kl A B).toArray else undef, bif l 14 then Value.agg (kl A B).toArray else undef, bif l 15 then Value.bool true else undef, bif l 16 then Value.bool true else undef, bif l 17 then Value.bool true else undef, bif l 18 then Value.agg (kl P Q).toArray else undef, bif l 19 then Value.agg (kl R S).toArray else undef, bif l 20 then Value.bool true else undef, bif l 21 then Value.agg (kl A B).toArray else undef, bif l 22 then Value.agg (kl C D).toArray else undef, bif l 23 then Value.bool true else undef, bif l 24 then Value.bool true else undef, bif l 25 then Value.bool true else undef], defers := [] } ∧ Below W5.heap.size W5 w') ⟨rfl, (Below.refl _ _).drew⟩ ?_ ?_
      · rintro l a w' i ⟨rfl, hB⟩ hi hli hpre
        have hi2 : i < 27 := hi
        have hcase : i = 0 ∨ i = 1 ∨ i = 2 ∨ i = 3 ∨ i = 4 ∨ i = 5 ∨ i = 6 ∨ i = 7 ∨ i = 8 ∨ i = 9 ∨ i = 10 ∨ i = 11 ∨ i = 12 ∨ i = 13 ∨ i = 14 ∨ i = 15 ∨ i = 16 ∨ i = 17 ∨ i = 18 ∨ i = 19 ∨ i = 20 ∨ i = 21 ∨ i = 22 ∨ i = 23 ∨ i = 24 ∨ i = 25 ∨ i = 26 := by omega
        clear hi hi2
        rcases hcase with rfl | rfl | rfl | rfl | rfl | rfl | rfl | rfl | rfl | rfl | rfl | rfl | rfl | rfl | rfl | rfl | rfl | rfl | rfl | rfl | rfl | rfl | rfl | rfl | rfl | rfl | rfl
        · -- 0: Op.call { callee := Callee.value (Operand.func 23), args := 
          refine wpOp_step rfl (fun K hK => ?_)
          clear hpre
          rw [if_pos (by rfl)]
          go_simp
          refine (HAl.out _).mono ?_
          rintro e w5 ⟨rfl, hb5⟩
          exact hK _ _ ⟨by simp [upd, Act.put], hB.trans (hb5.mono hB.size)⟩
        · -- 1: Op.move (Operand.tmp 15)
          have p0 : l 0 = true := hpre _ rfl ⟨0, .data⟩ (by simp) rfl
          refine wpOp_step rfl (fun K hK => ?_)
          simp only [p0, cond_true]
          clear hpre
          rw [if_pos (by rfl)]
          go_simp
          exact hK _ _ ⟨by simp [upd, Act.put, p0], hB⟩
        · -- 2: Op.load 23 (Operand.tmp 3)
          have p1 : l 1 = true := hpre _ rfl ⟨1, .guard⟩ (by simp) rfl
          refine wpOp_step rfl (fun K hK => ?_)
          simp only [p1, cond_true]
          clear hpre
          rw [if_pos (by rfl)]
          refine wp_load_mid 23 _ rfl _ 0 rfl (kl X Y) _ ((J0.out).below hB (J0.out).lt) Try.underlying23 rfl (by rw [kl_len]; exact size23) ?_
          exact hK _ _ ⟨by simp [upd, Act.put, p1], hB⟩
        · -- 3: Op.load 23 (Operand.tmp 7)
          have p1 : l 1 = true := hpre _ rfl ⟨1, .guard⟩ (by simp) rfl
          refine wpOp_step rfl (fun K hK => ?_)
          simp only [p1, cond_true]
          clear hpre
          rw [if_pos (by rfl)]
          refine wp_load_mid 23 _ rfl _ 0 rfl (kl P Q) _ ((J7.out).below hB (J7.out).lt) Try.underlying23 rfl (by rw [kl_len]; exact size23) ?_
          exact hK _ _ ⟨by simp [upd, Act.put, p1], hB⟩
        · -- 4: Op.call { callee := Callee.value (Operand.func 29), args := 
          have p2 : l 2 = true := hpre _ rfl ⟨2, .data⟩ (by simp) rfl
          have p3 : l 3 = true := hpre _ rfl ⟨3, .data⟩ (by simp) rfl
          have p1 : l 1 = true := hpre _ rfl ⟨1, .chain⟩ (by simp) rfl
          refine wpOp_step rfl (fun K hK => ?_)
          simp only [p2, p3, p1, cond_true]
          clear hpre
          rw [if_pos (by rfl)]
          go_simp
          refine (D1.out _).mono ?_
          rintro e w5 ⟨rfl, hb5⟩
          exact hK _ _ ⟨by simp [upd, Act.put, p2, p3, p1], hB.trans (hb5.mono hB.size)⟩
        · -- 5: Op.load 23 (Operand.tmp 4)
          have p1 : l 1 = true := hpre _ rfl ⟨1, .guard⟩ (by simp) rfl
          refine wpOp_step rfl (fun K hK => ?_)
          simp only [p1, cond_true]
          clear hpre
          rw [if_pos (by rfl)]
          refine wp_load_mid 23 _ rfl _ 0 rfl (kl A B) _ ((J1.out).below hB (J1.out).lt) Try.underlying23 rfl (by rw [kl_len]; exact size23) ?_
          exact hK _ _ ⟨by simp [upd, Act.put, p1], hB⟩
        · -- 6: Op.binOp BinOp.eql 23 (Operand.tmp 19) (Operand.tmp 20) 23
          have p4 : l 4 = true := hpre _ rfl ⟨4, .data⟩ (by simp) rfl
          have p5 : l 5 = true := hpre _ rfl ⟨5, .data⟩ (by simp) rfl
          have p1 : l 1 = true := hpre _ rfl ⟨1, .guard⟩ (by simp) rfl
          refine wpOp_step rfl (fun K hK => ?_)
          simp only [p4, p5, p1, cond_true]
          clear hpre
          rw [if_pos (by rfl)]
          have q1 := Q1.out
          go_simp
          exact hK _ _ ⟨by simp [upd, Act.put, p4, p5, p1], hB⟩
        · -- 7: Op.pick (Operand.tmp 16) (Operand.tmp 21) (Operand.const (Va
          have p1 : l 1 = true := hpre _ rfl ⟨1, .data⟩ (by simp) rfl
          have p6 : l 6 = true := hpre _ rfl ⟨6, .data⟩ (by simp) rfl
          refine wpOp_step rfl (fun K hK => ?_)
          simp only [p1, p6, cond_true]
          clear hpre
          rw [if_pos (by rfl)]
          go_simp
          exact hK _ _ ⟨by simp [upd, Act.put, p1, p6], hB⟩
        · -- 8: Op.move (Operand.tmp 22)
          have p7 : l 7 = true := hpre _ rfl ⟨7, .data⟩ (by simp) rfl
          have p4 : l 4 = true := hpre _ rfl ⟨4, .chain⟩ (by simp) rfl
          refine wpOp_step rfl (fun K hK => ?_)
          simp only [p7, p4, cond_true]
          clear hpre
          rw [if_pos (by rfl)]
          go_simp
          exact hK _ _ ⟨by simp [upd, Act.put, p7, p4], hB⟩
        · -- 9: Op.load 23 (Operand.tmp 3)
          have p8 : l 8 = true := hpre _ rfl ⟨8, .guard⟩ (by simp) rfl
          refine wpOp_step rfl (fun K hK => ?_)
          simp only [p8, cond_true]
          clear hpre
          rw [if_pos (by rfl)]
          refine wp_load_mid 23 _ rfl _ 0 rfl (kl X Y) _ ((J0.out).below hB (J0.out).lt) Try.underlying23 rfl (by rw [kl_len]; exact size23) ?_
          exact hK _ _ ⟨by simp [upd, Act.put, p8], hB⟩
        · -- 10: Op.load 23 (Operand.tmp 3)
          have p8 : l 8 = true := hpre _ rfl ⟨8, .guard⟩ (by simp) rfl
          refine wpOp_step rfl (fun K hK => ?_)
          simp only [p8, cond_true]
          clear hpre
          rw [if_pos (by rfl)]
          refine wp_load_mid 23 _ rfl _ 0 rfl (kl X Y) _ ((J0.out).below hB (J0.out).lt) Try.underlying23 rfl (by rw [kl_len]; exact size23) ?_
          exact hK _ _ ⟨by simp [upd, Act.put, p8], hB⟩
        · -- 11: Op.load 23 (Operand.tmp 4)
          have p8 : l 8 = true := hpre _ rfl ⟨8, .guard⟩ (by simp) rfl
          refine wpOp_step rfl (fun K hK => ?_)
          simp only [p8, cond_true]
          clear hpre
          rw [if_pos (by rfl)]
          refine wp_load_mid 23 _ rfl _ 0 rfl (kl A B) _ ((J1.out).below hB (J1.out).lt) Try.underlying23 rfl (by rw [kl_len]; exact size23) ?_
          exact hK _ _ ⟨by simp [upd, Act.put, p8], hB⟩
        · -- 12: Op.call { callee := Callee.value (Operand.func 29), args := 
          have p10 : l 10 = true := hpre _ rfl ⟨10, .data⟩ (by simp) rfl
          have p11 : l 11 = true := hpre _ rfl ⟨11, .data⟩ (by simp) rfl
          have p8 : l 8 = true := hpre _ rfl ⟨8, .chain⟩ (by simp) rfl
          refine wpOp_step rfl (fun K hK => ?_)
          simp only [p10, p11, p8, cond_true]
          clear hpre
          rw [if_pos (by rfl)]
          go_simp
          refine (D2.out _).mono ?_
          rintro e w5 ⟨rfl, hb5⟩
          exact hK _ _ ⟨by simp [upd, Act.put, p10, p11, p8], hB.trans (hb5.mono hB.size)⟩
        · -- 13: Op.call { callee := Callee.value (Operand.func 27), args := 
          have p9 : l 9 = true := hpre _ rfl ⟨9, .data⟩ (by simp) rfl
          have p12 : l 12 = true := hpre _ rfl ⟨12, .data⟩ (by simp) rfl
          have p8 : l 8 = true := hpre _ rfl ⟨8, .guard⟩ (by simp) rfl
          refine wpOp_step rfl (fun K hK => ?_)
          simp only [p9, p12, p8, cond_true]
          clear hpre
          rw [if_pos (by rfl)]
          go_simp
          refine (E3.out _).mono ?_
          rintro e w5 ⟨rfl, hb5⟩
          exact hK _ _ ⟨by simp [upd, Act.put, p9, p12, p8], hB.trans (hb5.mono hB.size)⟩
        · -- 14: Op.load 23 (Operand.tmp 4)
          have p8 : l 8 = true := hpre _ rfl ⟨8, .guard⟩ (by simp) rfl
          refine wpOp_step rfl (fun K hK => ?_)
          simp only [p8, cond_true]
          clear hpre
          rw [if_pos (by rfl)]
          refine wp_load_mid 23 _ rfl _ 0 rfl (kl A B) _ ((J1.out).below hB (J1.out).lt) Try.underlying23 rfl (by rw [kl_len]; exact size23) ?_
          exact hK _ _ ⟨by simp [upd, Act.put, p8], hB⟩
        · -- 15: Op.binOp BinOp.eql 23 (Operand.tmp 28) (Operand.tmp 29) 23
          have p13 : l 13 = true := hpre _ rfl ⟨13, .data⟩ (by simp) rfl
          have p14 : l 14 = true := hpre _ rfl ⟨14, .data⟩ (by simp) rfl
          have p8 : l 8 = true := hpre _ rfl ⟨8, .guard⟩ (by simp) rfl
          refine wpOp_step rfl (fun K hK => ?_)
          simp only [p13, p14, p8, cond_true]
          clear hpre
          rw [if_pos (by rfl)]
          have q1 := Q1.out
          go_simp
          exact hK _ _ ⟨by simp [upd, Act.put, p13, p14, p8], hB⟩
        · -- 16: Op.pick (Operand.tmp 23) (Operand.tmp 30) (Operand.const (Va
          have p8 : l 8 = true := hpre _ rfl ⟨8, .data⟩ (by simp) rfl
          have p15 : l 15 = true := hpre _ rfl ⟨15, .data⟩ (by simp) rfl
          refine wpOp_step rfl (fun K hK => ?_)
          simp only [p8, p15, cond_true]
          clear hpre
          rw [if_pos (by rfl)]
          go_simp
          exact hK _ _ ⟨by simp [upd, Act.put, p8, p15], hB⟩
        · -- 17: Op.move (Operand.tmp 31)
          have p16 : l 16 = true := hpre _ rfl ⟨16, .data⟩ (by simp) rfl
          have p13 : l 13 = true := hpre _ rfl ⟨13, .chain⟩ (by simp) rfl
          refine wpOp_step rfl (fun K hK => ?_)
          simp only [p16, p13, cond_true]
          clear hpre
          rw [if_pos (by rfl)]
          go_simp
          exact hK _ _ ⟨by simp [upd, Act.put, p16, p13], hB⟩
        · -- 18: Op.load 23 (Operand.tmp 7)
          have p17 : l 17 = true := hpre _ rfl ⟨17, .guard⟩ (by simp) rfl
          refine wpOp_step rfl (fun K hK => ?_)
          simp only [p17, cond_true]
          clear hpre
          rw [if_pos (by rfl)]
          refine wp_load_mid 23 _ rfl _ 0 rfl (kl P Q) _ ((J7.out).below hB (J7.out).lt) Try.underlying23 rfl (by rw [kl_len]; exact size23) ?_
          exact hK _ _ ⟨by simp [upd, Act.put, p17], hB⟩
        · -- 19: Op.load 23 (Operand.tmp 8)
          have p17 : l 17 = true := hpre _ rfl ⟨17, .guard⟩ (by simp) rfl
          refine wpOp_step rfl (fun K hK => ?_)
          simp only [p17, cond_true]
          clear hpre
          rw [if_pos (by rfl)]
          refine wp_load_mid 23 _ rfl _ 0 rfl (kl R S) _ ((J8.out).below hB (J8.out).lt) Try.underlying23 rfl (by rw [kl_len]; exact size23) ?_
          exact hK _ _ ⟨by simp [upd, Act.put, p17], hB⟩
        · -- 20: Op.binOp BinOp.eql 23 (Operand.tmp 33) (Operand.tmp 34) 23
          have p18 : l 18 = true := hpre _ rfl ⟨18, .data⟩ (by simp) rfl
          have p19 : l 19 = true := hpre _ rfl ⟨19, .data⟩ (by simp) rfl
          have p17 : l 17 = true := hpre _ rfl ⟨17, .guard⟩ (by simp) rfl
          refine wpOp_step rfl (fun K hK => ?_)
          simp only [p18, p19, p17, cond_true]
          clear hpre
          rw [if_pos (by rfl)]
          have q1 := Q2.out
          go_simp
          exact hK _ _ ⟨by simp [upd, Act.put, p18, p19, p17], hB⟩
        · -- 21: Op.load 23 (Operand.tmp 4)
          have p17 : l 17 = true := hpre _ rfl ⟨17, .guard⟩ (by simp) rfl
          refine wpOp_step rfl (fun K hK => ?_)
          simp only [p17, cond_true]
          clear hpre
          rw [if_pos (by rfl)]
          refine wp_load_mid 23 _ rfl _ 0 rfl (kl A B) _ ((J1.out).below hB (J1.out).lt) Try.underlying23 rfl (by rw [kl_len]; exact size23) ?_
          exact hK _ _ ⟨by simp [upd, Act.put, p17], hB⟩
        · -- 22: Op.load 23 (Operand.tmp 5)
          have p17 : l 17 = true := hpre _ rfl ⟨17, .guard⟩ (by simp) rfl
          refine wpOp_step rfl (fun K hK => ?_)
          simp only [p17, cond_true]
          clear hpre
          rw [if_pos (by rfl)]
          refine wp_load_mid 23 _ rfl _ 0 rfl (kl C D) _ ((J2.out).below hB (J2.out).lt) Try.underlying23 rfl (by rw [kl_len]; exact size23) ?_
          exact hK _ _ ⟨by simp [upd, Act.put, p17], hB⟩
        · -- 23: Op.binOp BinOp.eql 23 (Operand.tmp 36) (Operand.tmp 37) 23
          have p21 : l 21 = true := hpre _ rfl ⟨21, .data⟩ (by simp) rfl
          have p22 : l 22 = true := hpre _ rfl ⟨22, .data⟩ (by simp) rfl
          have p17 : l 17 = true := hpre _ rfl ⟨17, .guard⟩ (by simp) rfl
          refine wpOp_step rfl (fun K hK => ?_)
          simp only [p21, p22, p17, cond_true]
          clear hpre
          rw [if_pos (by rfl)]
          have q1 := Q3.out
          go_simp
          exact hK _ _ ⟨by simp [upd, Act.put, p21, p22, p17], hB⟩
        · -- 24: Op.binOp BinOp.eql 4 (Operand.tmp 35) (Operand.tmp 38) 4
          have p20 : l 20 = true := hpre _ rfl ⟨20, .data⟩ (by simp) rfl
          have p23 : l 23 = true := hpre _ rfl ⟨23, .data⟩ (by simp) rfl
          have p17 : l 17 = true := hpre _ rfl ⟨17, .guard⟩ (by simp) rfl
          refine wpOp_step rfl (fun K hK => ?_)
          simp only [p20, p23, p17, cond_true]
          clear hpre
          rw [if_pos (by rfl)]
          go_simp
          exact hK _ _ ⟨by simp [upd, Act.put, p20, p23, p17], hB⟩
        · -- 25: Op.pick (Operand.tmp 32) (Operand.tmp 39) (Operand.const (Va
          have p17 : l 17 = true := hpre _ rfl ⟨17, .data⟩ (by simp) rfl
          have p24 : l 24 = true := hpre _ rfl ⟨24, .data⟩ (by simp) rfl
          refine wpOp_step rfl (fun K hK => ?_)
          simp only [p17, p24, cond_true]
          clear hpre
          rw [if_pos (by rfl)]
          go_simp
          exact hK _ _ ⟨by simp [upd, Act.put, p17, p24], hB⟩
        · -- 26: Op.assign (Operand.tmp 40)
          have p25 : l 25 = true := hpre _ rfl ⟨25, .data⟩ (by simp) rfl
          have p17 : l 17 = true := hpre _ rfl ⟨17, .chain⟩ (by simp) rfl
          have p0 : l 0 = true := hpre _ rfl ⟨0, .phase⟩ (by simp) rfl
          have p1 : l 1 = true := hpre _ rfl ⟨1, .phase⟩ (by simp) rfl
          have p2 : l 2 = true := hpre _ rfl ⟨2, .phase⟩ (by simp) rfl
          have p3 : l 3 = true := hpre _ rfl ⟨3, .phase⟩ (by simp) rfl
          have p4 : l 4 = true := hpre _ rfl ⟨4, .phase⟩ (by simp) rfl
          have p5 : l 5 = true := hpre _ rfl ⟨5, .phase⟩ (by simp) rfl
          have p6 : l 6 = true := hpre _ rfl ⟨6, .phase⟩ (by simp) rfl
          have p7 : l 7 = true := hpre _ rfl ⟨7, .phase⟩ (by simp) rfl
          have p8 : l 8 = true := hpre _ rfl ⟨8, .phase⟩ (by simp) rfl
          have p9 : l 9 = true := hpre _ rfl ⟨9, .phase⟩ (by simp) rfl
          have p10 : l 10 = true := hpre _ rfl ⟨10, .phase⟩ (by simp) rfl
          have p11 : l 11 = true := hpre _ rfl ⟨11, .phase⟩ (by simp) rfl
          have p12 : l 12 = true := hpre _ rfl ⟨12, .phase⟩ (by simp) rfl
          have p13 : l 13 = true := hpre _ rfl ⟨13, .phase⟩ (by simp) rfl
          have p14 : l 14 = true := hpre _ rfl ⟨14, .phase⟩ (by simp) rfl
          have p15 : l 15 = true := hpre _ rfl ⟨15, .phase⟩ (by simp) rfl
          have p16 : l 16 = true := hpre _ rfl ⟨16, .phase⟩ (by simp) rfl
          have p18 : l 18 = true := hpre _ rfl ⟨18, .phase⟩ (by simp) rfl
          have p19 : l 19 = true := hpre _ rfl ⟨19, .phase⟩ (by simp) rfl
          have p20 : l 20 = true := hpre _ rfl ⟨20, .phase⟩ (by simp) rfl
          have p21 : l 21 = true := hpre _ rfl ⟨21, .phase⟩ (by simp) rfl
          have p22 : l 22 = true := hpre _ rfl ⟨22, .phase⟩ (by simp) rfl
          have p23 : l 23 = true := hpre _ rfl ⟨23, .phase⟩ (by simp) rfl
          have p24 : l 24 = true := hpre _ rfl ⟨24, .phase⟩ (by simp) rfl
          refine wpOp_step rfl (fun K hK => ?_)
          simp only [p25, p17, p0, p1, p2, p3, p4, p5, p6, p7, p8, p9, p10, p11, p12, p13, p14, p15, p16, p18, p19, p20, p21, p22, p23, p24, cond_true]
          clear hpre
          rw [if_pos (by rfl)]
          go_simp
          exact hK _ _ ⟨by simp [upd, Act.put, p25, p17, p0, p1, p2, p3, p4, p5, p6, p7, p8, p9, p10, p11, p12, p13, p14, p15, p16, p18, p19, p20, p21, p22, p23, p24], hB⟩
      · rintro l a W5' hall ⟨rfl, hBz⟩
        simp only [hall 0 (by decide), hall 1 (by decide), hall 2 (by decide), hall 3 (by decide), hall 4 (by decide), hall 5 (by decide), hall 6 (by decide), hall 7 (by decide), hall 8 (by decide), hall 9 (by decide), hall 10 (by decide), hall 11 (by decide), hall 12 (by decide), hall 13 (by decide), hall 14 (by decide), hall 15 (by decide), hall 16 (by decide), hall 17 (by decide), hall 18 (by decide), hall 19 (by decide), hall 20 (by decide), hall 21 (by decide), hall 22 (by decide), hall 23 (by decide), hall 24 (by decide), hall 25 (by decide), hall 26 (by decide), cond_true]
        clear hall
        go_wp2_with fail
        go_ret
        exact ⟨rfl, by rw [← HN.out]; exact HB5.out.trans (hBz.mono HS5.out)⟩
    · rw [hb] at Q2h Q3h
      clear hb
      have Q2 := Q2h
      have Q3 := Q3h
      refine wp_region_inv (by kernel_rfl) (by kernel_rfl) (fun l a w' => a = { tmps := #[Value.agg (kl X Y).toArray, Value.agg (kl A B).toArray, Value.agg (kl C D).toArray, .pointer (some ⟨N, 0, none⟩), .pointer (some ⟨N + 1, 0, none⟩), .pointer (some ⟨N + 1 + 1, 0, none⟩), bif l 26 then Value.bool true else .bool false, Value.pointer (some ⟨b7, 0, none⟩), Value.pointer (some ⟨b8, 0, none⟩), Value.agg (kl X Y).toArray, Value.agg (kl A B).toArray, Value.agg (kl P Q).toArray, Value.agg (kl X Y).toArray, Value.agg (kl C D).toArray, Value.agg (kl R S).toArray, bif l 0 then Value.bool true else undef, bif l 1 then Value.bool true else undef, bif l 2 then Value.agg (kl X Y).toArray else undef, bif l 3 then Value.agg (kl P Q).toArray else undef, bif l 4 then Value.agg (kl A B).toArray else undef, bif l 5 then Value.agg (kl A B).toArray else undef, bif l 6 then Value.bool true else undef, bif l 7 then Value.bool true else undef, bif l 8 then Value.bool true else undef, bif l 9 then Value.agg (kl X Y).toArray else undef, bif l 10 then Value.agg (kl X Y).toArray else undef, bif l 11 then Value.agg (kl A B).toArray else undef, bif l 12 then Value.agg (kl U V).toArray else undef, bif l 13 then Value.agg (kl A B).toArray else undef, bif l 14 then Value.agg (kl A B).toArray else undef, bif l 15 then Value.bool true else undef, bif l 16 then Value.bool true else undef, bif l 17 then Value.bool true else undef, bif l 18 then Value.agg (kl P Q).toArray else undef, bif l 19 then Value.agg (kl R S).toArray else undef, bif l 20 then Value.bool false else undef, bif l 21 then Value.agg (kl A B).toArray else undef, bif l 22 then Value.agg (kl C D).toArray else undef, bif l 23 then Value.bool false else undef, bif l 24 then Value.bool true else undef, bif l 25 then Value.bool true else undef], defers := [] } ∧ Below W5.heap.size W5 w') ⟨rfl, (Below.refl _ _).drew⟩ ?_ ?_
      · rintro l a w' i ⟨rfl, hB⟩ hi hli hpre
        have hi2 : i < 27 := hi
        have hcase : i = 0 ∨ i = 1 ∨ i = 2 ∨ i = 3 ∨ i = 4 ∨ i = 5 ∨ i = 6 ∨ i = 7 ∨ i = 8 ∨ i = 9 ∨ i = 10 ∨ i = 11 ∨ i = 12 ∨ i = 13 ∨ i = 14 ∨ i = 15 ∨ i = 16 ∨ i = 17 ∨ i = 18 ∨ i = 19 ∨ i = 20 ∨ i = 21 ∨ i = 22 ∨ i = 23 ∨ i = 24 ∨ i = 25 ∨ i = 26 := by omega
        clear hi hi2
        rcases hcase with rfl | rfl | rfl | rfl | rfl | rfl | rfl | rfl | rfl | rfl | rfl | rfl | rfl | rfl | rfl | rfl | rfl | rfl | rfl | rfl | rfl | rfl | rfl | rfl | rfl | rfl | rfl
        · -- 0: Op.call { callee := Callee.value (Operand.func 23), args := 
          refine wpOp_step rfl (fun K hK => ?_)
          clear hpre
          rw [if_pos (by rfl)]
          go_simp
          refine (HAl.out _).mono ?_
          rintro e w5 ⟨rfl, hb5⟩
          exact hK _ _ ⟨by simp [upd, Act.put], hB.trans (hb5.mono hB.size)⟩
        · -- 1: Op.move (Operand.tmp 15)
          have p0 : l 0 = true := hpre _ rfl ⟨0, .data⟩ (by simp) rfl
          refine wpOp_step rfl (fun K hK => ?_)
          simp only [p0, cond_true]
          clear hpre
          rw [if_pos (by rfl)]
          go_simp
          exact hK _ _ ⟨by simp [upd, Act.put, p0], hB⟩
        · -- 2: Op.load 23 (Operand.tmp 3)
          have p1 : l 1 = true := hpre _ rfl ⟨1, .guard⟩ (by simp) rfl
          refine wpOp_step rfl (fun K hK => ?_)
          simp only [p1, cond_true]
          clear hpre
          rw [if_pos (by rfl)]
          refine wp_load_mid 23 _ rfl _ 0 rfl (kl X Y) _ ((J0.out).below hB (J0.out).lt) Try.underlying23 rfl (by rw [kl_len]; exact size23) ?_
          exact hK _ _ ⟨by simp [upd, Act.put, p1], hB⟩
        · -- 3: Op.load 23 (Operand.tmp 7)
          have p1 : l 1 = true := hpre _ rfl ⟨1, .guard⟩ (by simp) rfl
          refine wpOp_step rfl (fun K hK => ?_)
          simp only [p1, cond_true]
          clear hpre
          rw [if_pos (by rfl)]
          refine wp_load_mid 23 _ rfl _ 0 rfl (kl P Q) _ ((J7.out).below hB (J7.out).lt) Try.underlying23 rfl (by rw [kl_len]; exact size23) ?_
          exact hK _ _ ⟨by simp [upd, Act.put, p1], hB⟩
        · -- 4: Op.call { callee := Callee.value (Operand.func 29), args := 
          have p2 : l 2 = true := hpre _ rfl ⟨2, .data⟩ (by simp) rfl
          have p3 : l 3 = true := hpre _ rfl ⟨3, .data⟩ (by simp) rfl
          have p1 : l 1 = true := hpre _ rfl ⟨1, .chain⟩ (by simp) rfl
          refine wpOp_step rfl (fun K hK => ?_)
          simp only [p2, p3, p1, cond_true]
          clear hpre
          rw [if_pos (by rfl)]
          go_simp
          refine (D1.out _).mono ?_
          rintro e w5 ⟨rfl, hb5⟩
          exact hK _ _ ⟨by simp [upd, Act.put, p2, p3, p1], hB.trans (hb5.mono hB.size)⟩
        · -- 5: Op.load 23 (Operand.tmp 4)
          have p1 : l 1 = true := hpre _ rfl ⟨1, .guard⟩ (by simp) rfl
          refine wpOp_step rfl (fun K hK => ?_)
          simp only [p1, cond_true]
          clear hpre
          rw [if_pos (by rfl)]
          refine wp_load_mid 23 _ rfl _ 0 rfl (kl A B) _ ((J1.out).below hB (J1.out).lt) Try.underlying23 rfl (by rw [kl_len]; exact size23) ?_
          exact hK _ _ ⟨by simp [upd, Act.put, p1], hB⟩
        · -- 6: Op.binOp BinOp.eql 23 (Operand.tmp 19) (Operand.tmp 20) 23
          have p4 : l 4 = true := hpre _ rfl ⟨4, .data⟩ (by simp) rfl
          have p5 : l 5 = true := hpre _ rfl ⟨5, .data⟩ (by simp) rfl
          have p1 : l 1 = true := hpre _ rfl ⟨1, .guard⟩ (by simp) rfl
          refine wpOp_step rfl (fun K hK => ?_)
          simp only [p4, p5, p1, cond_true]
          clear hpre
          rw [if_pos (by rfl)]
          have q1 := Q1.out
          go_simp
          exact hK _ _ ⟨by simp [upd, Act.put, p4, p5, p1], hB⟩
        · -- 7: Op.pick (Operand.tmp 16) (Operand.tmp 21) (Operand.const (Va
          have p1 : l 1 = true := hpre _ rfl ⟨1, .data⟩ (by simp) rfl
          have p6 : l 6 = true := hpre _ rfl ⟨6, .data⟩ (by simp) rfl
          refine wpOp_step rfl (fun K hK => ?_)
          simp only [p1, p6, cond_true]
          clear hpre
          rw [if_pos (by rfl)]
          go_simp
          exact hK _ _ ⟨by simp [upd, Act.put, p1, p6], hB⟩
        · -- 8: Op.move (Operand.tmp 22)
          have p7 : l 7 = true := hpre _ rfl ⟨7, .data⟩ (by simp) rfl
          have p4 : l 4 = true := hpre _ rfl ⟨4, .chain⟩ (by simp) rfl
          refine wpOp_step rfl (fun K hK => ?_)
          simp only [p7, p4, cond_true]
          clear hpre
          rw [if_pos (by rfl)]
          go_simp
          exact hK _ _ ⟨by simp [upd, Act.put, p7, p4], hB⟩
        · -- 9: Op.load 23 (Operand.tmp 3)
          have p8 : l 8 = true := hpre _ rfl ⟨8, .guard⟩ (by simp) rfl
          refine wpOp_step rfl (fun K hK => ?_)
          simp only [p8, cond_true]
          clear hpre
          rw [if_pos (by rfl)]
          refine wp_load_mid 23 _ rfl _ 0 rfl (kl X Y) _ ((J0.out).below hB (J0.out).lt) Try.underlying23 rfl (by rw [kl_len]; exact size23) ?_
          exact hK _ _ ⟨by simp [upd, Act.put, p8], hB⟩
        · -- 10: Op.load 23 (Operand.tmp 3)
          have p8 : l 8 = true := hpre _ rfl ⟨8, .guard⟩ (by simp) rfl
          refine wpOp_step rfl (fun K hK => ?_)
          simp only [p8, cond_true]
          clear hpre
          rw [if_pos (by rfl)]
          refine wp_load_mid 23 _ rfl _ 0 rfl (kl X Y) _ ((J0.out).below hB (J0.out).lt) Try.underlying23 rfl (by rw [kl_len]; exact size23) ?_
          exact hK _ _ ⟨by simp [upd, Act.put, p8], hB⟩
        · -- 11: Op.load 23 (Operand.tmp 4)
          have p8 : l 8 = true := hpre _ rfl ⟨8, .guard⟩ (by simp) rfl
          refine wpOp_step rfl (fun K hK => ?_)
          simp only [p8, cond_true]
          clear hpre
          rw [if_pos (by rfl)]
          refine wp_load_mid 23 _ rfl _ 0 rfl (kl A B) _ ((J1.out).below hB (J1.out).lt) Try.underlying23 rfl (by rw [kl_len]; exact size23) ?_
          exact hK _ _ ⟨by simp [upd, Act.put, p8], hB⟩
        · -- 12: Op.call { callee := Callee.value (Operand.func 29), args := 
          have p10 : l 10 = true := hpre _ rfl ⟨10, .data⟩ (by simp) rfl
          have p11 : l 11 = true := hpre _ rfl ⟨11, .data⟩ (by simp) rfl
          have p8 : l 8 = true := hpre _ rfl ⟨8, .chain⟩ (by simp) rfl
          refine wpOp_step rfl (fun K hK => ?_)
          simp only [p10, p11, p8, cond_true]
          clear hpre
          rw [if_pos (by rfl)]
          go_simp
          refine (D2.out _).mono ?_
          rintro e w5 ⟨rfl, hb5⟩
          exact hK _ _ ⟨by simp [upd, Act.put, p10, p11, p8], hB.trans (hb5.mono hB.size)⟩
        · -- 13: Op.call { callee := Callee.value (Operand.func 27), args := 
          have p9 : l 9 = true := hpre _ rfl ⟨9, .data⟩ (by simp) rfl
          have p12 : l 12 = true := hpre _ rfl ⟨12, .data⟩ (by simp) rfl
          have p8 : l 8 = true := hpre _ rfl ⟨8, .guard⟩ (by simp) rfl
          refine wpOp_step rfl (fun K hK => ?_)
          simp only [p9, p12, p8, cond_true]
          clear hpre
          rw [if_pos (by rfl)]
          go_simp
          refine (E3.out _).mono ?_
          rintro e w5 ⟨rfl, hb5⟩
          exact hK _ _ ⟨by simp [upd, Act.put, p9, p12, p8], hB.trans (hb5.mono hB.size)⟩
        · -- 14: Op.load 23 (Operand.tmp 4)
          have p8 : l 8 = true := hpre _ rfl ⟨8, .guard⟩ (by simp) rfl
          refine wpOp_step rfl (fun K hK => ?_)
          simp only [p8, cond_true]
          clear hpre
          rw [if_pos (by rfl)]
          refine wp_load_mid 23 _ rfl _ 0 rfl (kl A B) _ ((J1.out).below hB (J1.out).lt) Try.underlying23 rfl (by rw [kl_len]; exact size23) ?_
          exact hK _ _ ⟨by simp [upd, Act.put, p8], hB⟩
        · -- 15: Op.binOp BinOp.eql 23 (Operand.tmp 28) (Operand.tmp 29) 23
          have p13 : l 13 = true := hpre _ rfl ⟨13, .data⟩ (by simp) rfl
          have p14 : l 14 = true := hpre _ rfl ⟨14, .data⟩ (by simp) rfl
          have p8 : l 8 = true := hpre _ rfl ⟨8, .guard⟩ (by simp) rfl
          refine wpOp_step rfl (fun K hK => ?_)
          simp only [p13, p14, p8, cond_true]
          clear hpre
          rw [if_pos (by rfl)]
          have q1 := Q1.out
          go_simp
          exact hK _ _ ⟨by simp [upd, Act.put, p13, p14, p8], hB⟩
        · -- 16: Op.pick (Operand.tmp 23) (Operand.tmp 30) (Operand.const (Va
          have p8 : l 8 = true := hpre _ rfl ⟨8, .data⟩ (by simp) rfl
          have p15 : l 15 = true := hpre _ rfl ⟨15, .data⟩ (by simp) rfl
          refine wpOp_step rfl (fun K hK => ?_)
          simp only [p8, p15, cond_true]
          clear hpre
          rw [if_pos (by rfl)]
          go_simp
          exact hK _ _ ⟨by simp [upd, Act.put, p8, p15], hB⟩
        · -- 17: Op.move (Operand.tmp 31)
          have p16 : l 16 = true := hpre _ rfl ⟨16, .data⟩ (by simp) rfl
          have p13 : l 13 = true := hpre _ rfl ⟨13, .chain⟩ (by simp) rfl
          refine wpOp_step rfl (fun K hK => ?_)
          simp only [p16, p13, cond_true]
          clear hpre
          rw [if_pos (by rfl)]
          go_simp
          exact hK _ _ ⟨by simp [upd, Act.put, p16, p13], hB⟩
        · -- 18: Op.load 23 (Operand.tmp 7)
          have p17 : l 17 = true := hpre _ rfl ⟨17, .guard⟩ (by simp) rfl
          refine wpOp_step rfl (fun K hK => ?_)
          simp only [p17, cond_true]
          clear hpre
          rw [if_pos (by rfl)]
          refine wp_load_mid 23 _ rfl _ 0 rfl (kl P Q) _ ((J7.out).below hB (J7.out).lt) Try.underlying23 rfl (by rw [kl_len]; exact size23) ?_
          exact hK _ _ ⟨by simp [upd, Act.put, p17], hB⟩
        · -- 19: Op.load 23 (Operand.tmp 8)
          have p17 : l 17 = true := hpre _ rfl ⟨17, .guard⟩ (by simp) rfl
          refine wpOp_step rfl (fun K hK => ?_)
          simp only [p17, cond_true]
          clear hpre
          rw [if_pos (by rfl)]
          refine wp_load_mid 23 _ rfl _ 0 rfl (kl R S) _ ((J8.out).below hB (J8.out).lt) Try.underlying23 rfl (by rw [kl_len]; exact size23) ?_
          exact hK _ _ ⟨by simp [upd, Act.put, p17], hB⟩
        · -- 20: Op.binOp BinOp.eql 23 (Operand.tmp 33) (Operand.tmp 34) 23
          have p18 : l 18 = true := hpre _ rfl ⟨18, .data⟩ (by simp) rfl
          have p19 : l 19 = true := hpre _ rfl ⟨19, .data⟩ (by simp) rfl
          have p17 : l 17 = true := hpre _ rfl ⟨17, .guard⟩ (by simp) rfl
          refine wpOp_step rfl (fun K hK => ?_)
          simp only [p18, p19, p17, cond_true]
          clear hpre
          rw [if_pos (by rfl)]
          have q1 := Q2.out
          go_simp
          exact hK _ _ ⟨by simp [upd, Act.put, p18, p19, p17], hB⟩
        · -- 21: Op.load 23 (Operand.tmp 4)
          have p17 : l 17 = true := hpre _ rfl ⟨17, .guard⟩ (by simp) rfl
          refine wpOp_step rfl (fun K hK => ?_)
          simp only [p17, cond_true]
          clear hpre
          rw [if_pos (by rfl)]
          refine wp_load_mid 23 _ rfl _ 0 rfl (kl A B) _ ((J1.out).below hB (J1.out).lt) Try.underlying23 rfl (by rw [kl_len]; exact size23) ?_
          exact hK _ _ ⟨by simp [upd, Act.put, p17], hB⟩
        · -- 22: Op.load 23 (Operand.tmp 5)
          have p17 : l 17 = true := hpre _ rfl ⟨17, .guard⟩ (by simp) rfl
          refine wpOp_step rfl (fun K hK => ?_)
          simp only [p17, cond_true]
          clear hpre
          rw [if_pos (by rfl)]
          refine wp_load_mid 23 _ rfl _ 0 rfl (kl C D) _ ((J2.out).below hB (J2.out).lt) Try.underlying23 rfl (by rw [kl_len]; exact size23) ?_
          exact hK _ _ ⟨by simp [upd, Act.put, p17], hB⟩
        · -- 23: Op.binOp BinOp.eql 23 (Operand.tmp 36) (Operand.tmp 37) 23
          have p21 : l 21 = true := hpre _ rfl ⟨21, .data⟩ (by simp) rfl
          have p22 : l 22 = true := hpre _ rfl ⟨22, .data⟩ (by simp) rfl
          have p17 : l 17 = true := hpre _ rfl ⟨17, .guard⟩ (by simp) rfl
          refine wpOp_step rfl (fun K hK => ?_)
          simp only [p21, p22, p17, cond_true]
          clear hpre
          rw [if_pos (by rfl)]
          have q1 := Q3.out
          go_simp
          exact hK _ _ ⟨by simp [upd, Act.put, p21, p22, p17], hB⟩
        · -- 24: Op.binOp BinOp.eql 4 (Operand.tmp 35) (Operand.tmp 38) 4
          have p20 : l 20 = true := hpre _ rfl ⟨20, .data⟩ (by simp) rfl
          have p23 : l 23 = true := hpre _ rfl ⟨23, .data⟩ (by simp) rfl
          have p17 : l 17 = true := hpre _ rfl ⟨17, .guard⟩ (by simp) rfl
          refine wpOp_step rfl (fun K hK => ?_)
          simp only [p20, p23, p17, cond_true]
          clear hpre
          rw [if_pos (by rfl)]
          go_simp
          exact hK _ _ ⟨by simp [upd, Act.put, p20, p23, p17], hB⟩
        · -- 25: Op.pick (Operand.tmp 32) (Operand.tmp 39) (Operand.const (Va
          have p17 : l 17 = true := hpre _ rfl ⟨17, .data⟩ (by simp) rfl
          have p24 : l 24 = true := hpre _ rfl ⟨24, .data⟩ (by simp) rfl
          refine wpOp_step rfl (fun K hK => ?_)
          simp only [p17, p24, cond_true]
          clear hpre
          rw [if_pos (by rfl)]
          go_simp
          exact hK _ _ ⟨by simp [upd, Act.put, p17, p24], hB⟩
        · -- 26: Op.assign (Operand.tmp 40)
          have p25 : l 25 = true := hpre _ rfl ⟨25, .data⟩ (by simp) rfl
          have p17 : l 17 = true := hpre _ rfl ⟨17, .chain⟩ (by simp) rfl
          have p0 : l 0 = true := hpre _ rfl ⟨0, .phase⟩ (by simp) rfl
          have p1 : l 1 = true := hpre _ rfl ⟨1, .phase⟩ (by simp) rfl
          have p2 : l 2 = true := hpre _ rfl ⟨2, .phase⟩ (by simp) rfl
          have p3 : l 3 = true := hpre _ rfl ⟨3, .phase⟩ (by simp) rfl
          have p4 : l 4 = true := hpre _ rfl ⟨4, .phase⟩ (by simp) rfl
          have p5 : l 5 = true := hpre _ rfl ⟨5, .phase⟩ (by simp) rfl
          have p6 : l 6 = true := hpre _ rfl ⟨6, .phase⟩ (by simp) rfl
          have p7 : l 7 = true := hpre _ rfl ⟨7, .phase⟩ (by simp) rfl
          have p8 : l 8 = true := hpre _ rfl ⟨8, .phase⟩ (by simp) rfl
          have p9 : l 9 = true := hpre _ rfl ⟨9, .phase⟩ (by simp) rfl
          have p10 : l 10 = true := hpre _ rfl ⟨10, .phase⟩ (by simp) rfl
          have p11 : l 11 = true := hpre _ rfl ⟨11, .phase⟩ (by simp) rfl
          have p12 : l 12 = true := hpre _ rfl ⟨12, .phase⟩ (by simp) rfl
          have p13 : l 13 = true := hpre _ rfl ⟨13, .phase⟩ (by simp) rfl
          have p14 : l 14 = true := hpre _ rfl ⟨14, .phase⟩ (by simp) rfl
          have p15 : l 15 = true := hpre _ rfl ⟨15, .phase⟩ (by simp) rfl
          have p16 : l 16 = true := hpre _ rfl ⟨16, .phase⟩ (by simp) rfl
          have p18 : l 18 = true := hpre _ rfl ⟨18, .phase⟩ (by simp) rfl
          have p19 : l 19 = true := hpre _ rfl ⟨19, .phase⟩ (by simp) rfl
          have p20 : l 20 = true := hpre _ rfl ⟨20, .phase⟩ (by simp) rfl
          have p21 : l 21 = true := hpre _ rfl ⟨21, .phase⟩ (by simp) rfl
          have p22 : l 22 = true := hpre _ rfl ⟨22, .phase⟩ (by simp) rfl
          have p23 : l 23 = true := hpre _ rfl ⟨23, .phase⟩ (by simp) rfl
          have p24 : l 24 = true := hpre _ rfl ⟨24, .phase⟩ (by simp) rfl
          refine wpOp_step rfl (fun K hK => ?_)
          simp only [p25, p17, p0, p1, p2, p3, p4, p5, p6, p7, p8, p9, p10, p11, p12, p13, p14, p15, p16, p18, p19, p20, p21, p22, p23, p24, cond_true]
          clear hpre
          rw [if_pos (by rfl)]
          go_simp
          exact hK _ _ ⟨by simp [upd, Act.put, p25, p17, p0, p1, p2, p3, p4, p5, p6, p7, p8, p9, p10, p11, p12, p13, p14, p15, p16, p18, p19, p20, p21, p22, p23, p24], hB⟩
      · rintro l a W5' hall ⟨rfl, hBz⟩
        simp only [hall 0 (by decide), hall 1 (by decide), hall 2 (by decide), hall 3 (by decide), hall 4 (by decide), hall 5 (by decide), hall 6 (by decide), hall 7 (by decide), hall 8 (by decide), hall 9 (by decide), hall 10 (by decide), hall 11 (by decide), hall 12 (by decide), hall 13 (by decide), hall 14 (by decide), hall 15 (by decide), hall 16 (by decide), hall 17 (by decide), hall 18 (by decide), hall 19 (by decide), hall 20 (by decide), hall 21 (by decide), hall 22 (by decide), hall 23 (by decide), hall 24 (by decide), hall 25 (by decide), hall 26 (by decide), cond_true]
        clear hall
        go_wp2_with fail
        go_ret
        exact ⟨rfl, by rw [← HN.out]; exact HB5.out.trans (hBz.mono HS5.out)⟩
end Go.Proofs.Ytphhppdokdageaa.cipherInverse
