/-
  The steps of digests and tags: Hash$1, Mac$1.
-/
import Derived.Test.YtphhppdokdageaaXorA
import Derived.Test.YtphhppdokdageaaReg
namespace Go.Proofs.Ytphhppdokdageaa
open Go.RowKit SP
set_option linter.unusedSimpArgs false
set_option linter.unusedVariables false

/-- A step of the tag under the key of the words X and Y, and of the digest. -/
def macS (X Y : Nat) (s p : Nat × Nat) : Nat × Nat := enc X Y (s.1 ^^^ p.1) (s.2 ^^^ p.2)
def hshS (s p : Nat × Nat) : Nat × Nat := ((enc p.1 p.2 s.1 s.2).1 ^^^ s.1, (enc p.1 p.2 s.1 s.2).2 ^^^ s.2)
theorem macS_ok {X Y : Nat} {s p : Nat × Nat} (hX : X < M) (hY : Y < M) (hs : Ok s) (hp : Ok p) : Ok (macS X Y s p) := enc_ok hX hY (xor_lt hs.1 hp.1) (xor_lt hs.2 hp.2)
theorem hshS_ok {s p : Nat × Nat} (hs : Ok s) (hp : Ok p) : Ok (hshS s p) :=
  ⟨xor_lt (enc_ok hp.1 hp.2 hs.1 hs.2).1 hs.1, xor_lt (enc_ok hp.1 hp.2 hs.1 hs.2).2 hs.2⟩

set_option maxRecDepth 100000 in
set_option maxHeartbeats 2000000 in
theorem macStep_any (X Y S T A B bk : Nat) (w : World) (hX : X < M) (hY : Y < M) (hS : S < M) (hT : T < M) (hA : A < M) (hB : B < M) (hk : KeyAt w bk X Y) :
    Calls Try.prog 47 #[.agg (kl S T).toArray, .agg (kl A B).toArray, .pointer (some ⟨bk, 0, none⟩)] w fun e w' => e = .returned (.agg (kl (macS X Y (S, T) (A, B)).1 (macS X Y (S, T) (A, B)).2).toArray) ∧ Below w.heap.size w w' := by
  have HX := Lib.hid (fun w => xor_any S T A B w)
  have HE := Lib.hid (fun w => encrypt_any X Y (S ^^^ A) (T ^^^ B) w hX hY (xor_lt hS hA) (xor_lt hT hB))
  have eP : (macS X Y (S, T) (A, B)).1 = (enc X Y (S ^^^ A) (T ^^^ B)).1 := rfl
  have eQ : (macS X Y (S, T) (A, B)).2 = (enc X Y (S ^^^ A) (T ^^^ B)).2 := rfl
  rw [eP, eQ]
  obtain ⟨P, hP⟩ : ∃ P, P = (enc X Y (S ^^^ A) (T ^^^ B)).1 := ⟨_, rfl⟩
  obtain ⟨Q, hQ⟩ : ∃ Q, Q = (enc X Y (S ^^^ A) (T ^^^ B)).2 := ⟨_, rfl⟩
  rw [← hP, ← hQ] at HE ⊢
  clear hP hQ eP eQ
  obtain ⟨W3, hW3⟩ : ∃ W3, W3 = ((w.alloc (.cells (kl S T).toArray 23)).alloc (.cells (kl A B).toArray 23)).alloc (.cells z16 23) := ⟨_, rfl⟩
  have HB3 : Hid (Below w.heap.size w W3) := Lib.hid (by rw [hW3]; exact (((Below.refl _ _).alloc (Nat.le_refl _) _).alloc (by simp) _).alloc (by simp; omega) _)
  have HK1 : Hid (KeyAt W3 w.heap.size S T) := Lib.hid (by rw [hW3]; exact ((KeyAt.new w S T 23).alloc _).alloc _)
  have HK2 : Hid (KeyAt W3 (w.heap.size + 1) A B) := Lib.hid (by
    have h := (KeyAt.new (w.alloc (.cells (kl S T).toArray 23)) A B 23).alloc (.cells z16 23)
    rw [World.size_alloc] at h
    rw [hW3]; exact h)
  have HT : Hid (W3.there (w.heap.size + 1 + 1) 0 16) := Lib.hid (by
    have h := (Row.zeros ((w.alloc (.cells (kl S T).toArray 23)).alloc (.cells (kl A B).toArray 23)) 23).there
    rw [World.size_alloc, World.size_alloc] at h
    rw [hW3]; exact h)
  have HK0 : Hid (KeyAt W3 bk X Y) := Lib.hid (hk.keep HB3.out)
  have hbk := hk.lt
  have hn : w.heap.size ≤ W3.heap.size := HB3.out.size
  have HW := Lib.hid hW3
  clear hW3 hk hX hY hS hT hA hB
  go_enter Try.func47, Try.ntmps47
  go_wp2_with fail
  rw [← HW.out]
  refine wp_region_inv (by kernel_rfl) (by kernel_rfl) (fun l a w' => a = { tmps := #[Value.agg (kl S T).toArray, Value.agg (kl A B).toArray, .pointer (some ⟨bk, 0, none⟩), .pointer (some ⟨w.heap.size, 0, none⟩), .pointer (some ⟨w.heap.size + 1, 0, none⟩), .pointer (some ⟨w.heap.size + 1 + 1, 0, none⟩), bif l 0 then Value.agg (kl X Y).toArray else undef, bif l 1 then Value.agg (kl S T).toArray else undef, bif l 2 then Value.agg (kl A B).toArray else undef, bif l 3 then Value.agg (kl (S ^^^ A) (T ^^^ B)).toArray else undef, bif l 4 then Value.agg (kl P Q).toArray else undef], defers := [] } ∧ Below (w.heap.size) W3 w' ∧ KeyAt w' (bk) X Y ∧ KeyAt w' (w.heap.size) S T ∧ KeyAt w' (w.heap.size + 1) A B ∧ w'.there (w.heap.size + 1 + 1) 0 16 ∧ (l 5 = true → KeyAt w' (w.heap.size + 1 + 1) P Q)) ⟨rfl, (Below.refl _ _).drew, HK0.out, HK1.out, HK2.out, HT.out, (fun h => by cases h)⟩ ?_ ?_
  · rintro l a w' i ⟨rfl, hB, K0, K1, K2, hT, hS⟩ hi hli hpre
    have hi2 : i < 6 := hi
    have hcase : i = 0 ∨ i = 1 ∨ i = 2 ∨ i = 3 ∨ i = 4 ∨ i = 5 := by omega
    clear hi hi2
    rcases hcase with rfl | rfl | rfl | rfl | rfl | rfl
    · -- 0: Op.load 23 (Operand.tmp 2)
      refine wpOp_step rfl (fun K hK => ?_)
      clear hpre
      rw [if_pos (by rfl)]
      refine wp_load_mid 23 _ rfl _ 0 rfl (kl X Y) _ K0 Try.underlying23 rfl (by rw [kl_len]; exact size23) ?_
      exact hK _ _ ⟨by simp [upd, Act.put], hB, K0, K1, K2, hT, (fun e => hS (by simpa [upd] using e))⟩
    · -- 1: Op.load 23 (Operand.tmp 3)
      refine wpOp_step rfl (fun K hK => ?_)
      clear hpre
      rw [if_pos (by rfl)]
      refine wp_load_mid 23 _ rfl _ 0 rfl (kl S T) _ K1 Try.underlying23 rfl (by rw [kl_len]; exact size23) ?_
      exact hK _ _ ⟨by simp [upd, Act.put], hB, K0, K1, K2, hT, (fun e => hS (by simpa [upd] using e))⟩
    · -- 2: Op.load 23 (Operand.tmp 4)
      refine wpOp_step rfl (fun K hK => ?_)
      clear hpre
      rw [if_pos (by rfl)]
      refine wp_load_mid 23 _ rfl _ 0 rfl (kl A B) _ K2 Try.underlying23 rfl (by rw [kl_len]; exact size23) ?_
      exact hK _ _ ⟨by simp [upd, Act.put], hB, K0, K1, K2, hT, (fun e => hS (by simpa [upd] using e))⟩
    · -- 3: Op.call { callee := Callee.value (Operand.func 46), args := 
      have p1 : l 1 = true := hpre _ rfl ⟨1, .data⟩ (by simp) rfl
      have p2 : l 2 = true := hpre _ rfl ⟨2, .data⟩ (by simp) rfl
      refine wpOp_step rfl (fun K hK => ?_)
      simp only [p1, p2, cond_true]
      clear hpre
      rw [if_pos (by rfl)]
      go_simp
      refine (HX.out _).mono ?_
      rintro e w5 ⟨rfl, hb5⟩
      exact hK _ _ ⟨by simp [upd, Act.put, p1, p2], hB.trans (hb5.mono (Nat.le_trans (hn) hB.size)), K0.keep hb5, K1.keep hb5, K2.keep hb5, there_below hT hb5 (there_lt hT (by omega)), (fun e => (hS (by simpa [upd] using e)).keep hb5)⟩
    · -- 4: Op.call { callee := Callee.value (Operand.func 27), args := 
      have p0 : l 0 = true := hpre _ rfl ⟨0, .data⟩ (by simp) rfl
      have p3 : l 3 = true := hpre _ rfl ⟨3, .data⟩ (by simp) rfl
      refine wpOp_step rfl (fun K hK => ?_)
      simp only [p0, p3, cond_true]
      clear hpre
      rw [if_pos (by rfl)]
      go_simp
      refine (HE.out _).mono ?_
      rintro e w5 ⟨rfl, hb5⟩
      exact hK _ _ ⟨by simp [upd, Act.put, p0, p3], hB.trans (hb5.mono (Nat.le_trans (hn) hB.size)), K0.keep hb5, K1.keep hb5, K2.keep hb5, there_below hT hb5 (there_lt hT (by omega)), (fun e => (hS (by simpa [upd] using e)).keep hb5)⟩
    · -- 5: Op.store 23 (Operand.tmp 5) (Operand.tmp 10)
      have p4 : l 4 = true := hpre _ rfl ⟨4, .data⟩ (by simp) rfl
      have p0 : l 0 = true := hpre _ rfl ⟨0, .phase⟩ (by simp) rfl
      have p1 : l 1 = true := hpre _ rfl ⟨1, .phase⟩ (by simp) rfl
      have p2 : l 2 = true := hpre _ rfl ⟨2, .phase⟩ (by simp) rfl
      have p3 : l 3 = true := hpre _ rfl ⟨3, .phase⟩ (by simp) rfl
      refine wpOp_step rfl (fun K hK => ?_)
      simp only [p4, p0, p1, p2, p3, cond_true]
      clear hpre
      rw [if_pos (by rfl)]
      refine wp_store_mid 23 _ _ rfl (w.heap.size + 1 + 1) 0 (kl P Q).toArray rfl rfl (by simpa [kl_len] using hT) (by simp [kl_len, size23]) (kl_arr P Q) ?_
      rw [List.toList_toArray]
      exact hK _ _ ⟨by simp [upd, Act.put, p4, p0, p1, p2, p3], below_setCells _ _ _ _ hB (by omega), K0.setCells _ _ (by omega), K1.setCells _ _ (by omega), K2.setCells _ _ (by omega), World.there_setCells hT _ _ _, (fun _ => KeyAt.stored hT P Q)⟩
  · rintro l a w9 hall ⟨rfl, hBz, K0, K1, K2, hT, hS⟩
    simp only [hall 0 (by decide), hall 1 (by decide), hall 2 (by decide), hall 3 (by decide), hall 4 (by decide), cond_true]
    replace hS := hS (hall 5 (by decide))
    clear hall
    go_wp2_with fail
    exact bodyPost_key rfl (w.heap.size + 1 + 1) P Q rfl hS rfl ⟨rfl, HB3.out.trans hBz⟩

set_option maxRecDepth 100000 in
set_option maxHeartbeats 2000000 in
theorem hashStep_any (S T A B : Nat) (w : World) (hS : S < M) (hT : T < M) (hA : A < M) (hB : B < M) :
    Calls Try.prog 45 #[.agg (kl S T).toArray, .agg (kl A B).toArray] w fun e w' => e = .returned (.agg (kl (hshS (S, T) (A, B)).1 (hshS (S, T) (A, B)).2).toArray) ∧ Below w.heap.size w w' := by
  have HE := Lib.hid (fun w => encrypt_any A B S T w hA hB hS hT)
  have eP : (hshS (S, T) (A, B)).1 = (enc A B S T).1 ^^^ S := rfl
  have eQ : (hshS (S, T) (A, B)).2 = (enc A B S T).2 ^^^ T := rfl
  rw [eP, eQ]
  obtain ⟨C, hC⟩ : ∃ C, C = (enc A B S T).1 := ⟨_, rfl⟩
  obtain ⟨D, hD⟩ : ∃ D, D = (enc A B S T).2 := ⟨_, rfl⟩
  rw [← hC, ← hD] at HE ⊢
  have HX := Lib.hid (fun w => xor_any C D S T w)
  obtain ⟨P, hP⟩ : ∃ P, P = C ^^^ S := ⟨_, rfl⟩
  obtain ⟨Q, hQ⟩ : ∃ Q, Q = D ^^^ T := ⟨_, rfl⟩
  rw [← hP, ← hQ] at HX ⊢
  clear hP hQ eP eQ hC hD
  obtain ⟨W3, hW3⟩ : ∃ W3, W3 = ((w.alloc (.cells (kl S T).toArray 23)).alloc (.cells (kl A B).toArray 23)).alloc (.cells z16 23) := ⟨_, rfl⟩
  have HB3 : Hid (Below w.heap.size w W3) := Lib.hid (by rw [hW3]; exact (((Below.refl _ _).alloc (Nat.le_refl _) _).alloc (by simp) _).alloc (by simp; omega) _)
  have HK1 : Hid (KeyAt W3 w.heap.size S T) := Lib.hid (by rw [hW3]; exact ((KeyAt.new w S T 23).alloc _).alloc _)
  have HK2 : Hid (KeyAt W3 (w.heap.size + 1) A B) := Lib.hid (by
    have h := (KeyAt.new (w.alloc (.cells (kl S T).toArray 23)) A B 23).alloc (.cells z16 23)
    rw [World.size_alloc] at h
    rw [hW3]; exact h)
  have HT : Hid (W3.there (w.heap.size + 1 + 1) 0 16) := Lib.hid (by
    have h := (Row.zeros ((w.alloc (.cells (kl S T).toArray 23)).alloc (.cells (kl A B).toArray 23)) 23).there
    rw [World.size_alloc, World.size_alloc] at h
    rw [hW3]; exact h)
  have hn : w.heap.size ≤ W3.heap.size := HB3.out.size
  have HW := Lib.hid hW3
  clear hW3 hS hT hA hB
  go_enter Try.func45, Try.ntmps45
  go_wp2_with fail
  rw [← HW.out]
  refine wp_region_inv (by kernel_rfl) (by kernel_rfl) (fun l a w' => a = { tmps := #[Value.agg (kl S T).toArray, Value.agg (kl A B).toArray, .pointer (some ⟨w.heap.size, 0, none⟩), .pointer (some ⟨w.heap.size + 1, 0, none⟩), .pointer (some ⟨w.heap.size + 1 + 1, 0, none⟩), bif l 0 then Value.agg (kl A B).toArray else undef, bif l 1 then Value.agg (kl S T).toArray else undef, bif l 2 then Value.agg (kl C D).toArray else undef, bif l 3 then Value.agg (kl S T).toArray else undef, bif l 4 then Value.agg (kl P Q).toArray else undef], defers := [] } ∧ Below (w.heap.size) W3 w' ∧ KeyAt w' (w.heap.size) S T ∧ KeyAt w' (w.heap.size + 1) A B ∧ w'.there (w.heap.size + 1 + 1) 0 16 ∧ (l 5 = true → KeyAt w' (w.heap.size + 1 + 1) P Q)) ⟨rfl, (Below.refl _ _).drew, HK1.out, HK2.out, HT.out, (fun h => by cases h)⟩ ?_ ?_
  · rintro l a w' i ⟨rfl, hB, K0, K1, hT, hS⟩ hi hli hpre
    have hi2 : i < 6 := hi
    have hcase : i = 0 ∨ i = 1 ∨ i = 2 ∨ i = 3 ∨ i = 4 ∨ i = 5 := by omega
    clear hi hi2
    rcases hcase with rfl | rfl | rfl | rfl | rfl | rfl
    · -- 0: Op.load 23 (Operand.tmp 3)
      refine wpOp_step rfl (fun K hK => ?_)
      clear hpre
      rw [if_pos (by rfl)]
      refine wp_load_mid 23 _ rfl _ 0 rfl (kl A B) _ K1 Try.underlying23 rfl (by rw [kl_len]; exact size23) ?_
      exact hK _ _ ⟨by simp [upd, Act.put], hB, K0, K1, hT, (fun e => hS (by simpa [upd] using e))⟩
    · -- 1: Op.load 23 (Operand.tmp 2)
      refine wpOp_step rfl (fun K hK => ?_)
      clear hpre
      rw [if_pos (by rfl)]
      refine wp_load_mid 23 _ rfl _ 0 rfl (kl S T) _ K0 Try.underlying23 rfl (by rw [kl_len]; exact size23) ?_
      exact hK _ _ ⟨by simp [upd, Act.put], hB, K0, K1, hT, (fun e => hS (by simpa [upd] using e))⟩
    · -- 2: Op.call { callee := Callee.value (Operand.func 27), args := 
      have p0 : l 0 = true := hpre _ rfl ⟨0, .data⟩ (by simp) rfl
      have p1 : l 1 = true := hpre _ rfl ⟨1, .data⟩ (by simp) rfl
      refine wpOp_step rfl (fun K hK => ?_)
      simp only [p0, p1, cond_true]
      clear hpre
      rw [if_pos (by rfl)]
      go_simp
      refine (HE.out _).mono ?_
      rintro e w5 ⟨rfl, hb5⟩
      exact hK _ _ ⟨by simp [upd, Act.put, p0, p1], hB.trans (hb5.mono (Nat.le_trans (hn) hB.size)), K0.keep hb5, K1.keep hb5, there_below hT hb5 (there_lt hT (by omega)), (fun e => (hS (by simpa [upd] using e)).keep hb5)⟩
    · -- 3: Op.load 23 (Operand.tmp 2)
      refine wpOp_step rfl (fun K hK => ?_)
      clear hpre
      rw [if_pos (by rfl)]
      refine wp_load_mid 23 _ rfl _ 0 rfl (kl S T) _ K0 Try.underlying23 rfl (by rw [kl_len]; exact size23) ?_
      exact hK _ _ ⟨by simp [upd, Act.put], hB, K0, K1, hT, (fun e => hS (by simpa [upd] using e))⟩
    · -- 4: Op.call { callee := Callee.value (Operand.func 46), args := 
      have p2 : l 2 = true := hpre _ rfl ⟨2, .data⟩ (by simp) rfl
      have p3 : l 3 = true := hpre _ rfl ⟨3, .data⟩ (by simp) rfl
      refine wpOp_step rfl (fun K hK => ?_)
      simp only [p2, p3, cond_true]
      clear hpre
      rw [if_pos (by rfl)]
      go_simp
      refine (HX.out _).mono ?_
      rintro e w5 ⟨rfl, hb5⟩
      exact hK _ _ ⟨by simp [upd, Act.put, p2, p3], hB.trans (hb5.mono (Nat.le_trans (hn) hB.size)), K0.keep hb5, K1.keep hb5, there_below hT hb5 (there_lt hT (by omega)), (fun e => (hS (by simpa [upd] using e)).keep hb5)⟩
    · -- 5: Op.store 23 (Operand.tmp 4) (Operand.tmp 9)
      have p4 : l 4 = true := hpre _ rfl ⟨4, .data⟩ (by simp) rfl
      have p0 : l 0 = true := hpre _ rfl ⟨0, .phase⟩ (by simp) rfl
      have p1 : l 1 = true := hpre _ rfl ⟨1, .phase⟩ (by simp) rfl
      have p2 : l 2 = true := hpre _ rfl ⟨2, .phase⟩ (by simp) rfl
      have p3 : l 3 = true := hpre _ rfl ⟨3, .phase⟩ (by simp) rfl
      refine wpOp_step rfl (fun K hK => ?_)
      simp only [p4, p0, p1, p2, p3, cond_true]
      clear hpre
      rw [if_pos (by rfl)]
      refine wp_store_mid 23 _ _ rfl (w.heap.size + 1 + 1) 0 (kl P Q).toArray rfl rfl (by simpa [kl_len] using hT) (by simp [kl_len, size23]) (kl_arr P Q) ?_
      rw [List.toList_toArray]
      exact hK _ _ ⟨by simp [upd, Act.put, p4, p0, p1, p2, p3], below_setCells _ _ _ _ hB (by omega), K0.setCells _ _ (by omega), K1.setCells _ _ (by omega), World.there_setCells hT _ _ _, (fun _ => KeyAt.stored hT P Q)⟩
  · rintro l a w9 hall ⟨rfl, hBz, K0, K1, hT, hS⟩
    simp only [hall 0 (by decide), hall 1 (by decide), hall 2 (by decide), hall 3 (by decide), hall 4 (by decide), cond_true]
    replace hS := hS (hall 5 (by decide))
    clear hall
    go_wp2_with fail
    exact bodyPost_key rfl (w.heap.size + 1 + 1) P Q rfl hS rfl ⟨rfl, HB3.out.trans hBz⟩

end Go.Proofs.Ytphhppdokdageaa
