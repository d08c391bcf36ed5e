/-
  Text.
-/
import Derived.Test.YtphhppdokdageaaTxtA
import Derived.Test.YtphhppdokdageaaReg
import Derived.Laws.BytesArg
namespace Go.Proofs.Ytphhppdokdageaa
open Go.RowKit SP
set_option linter.unusedSimpArgs false
set_option linter.unusedVariables false

/-- The bytes of a block as a string. -/
def keyStr (X Y : Nat) : ByteArray := strOfNums ((List.range 16).map fun j => (kby X Y j : Int))
theorem conv_key (w : World) (b X Y : Nat) (h : KeyAt w b X Y) : (convert 26 9 (.slice (some ⟨b, 0, none⟩) 16 16)).run Try.prog w = .ok (.string (keyStr X Y)) w := by
  have hc := run_convert_bytes_arg (P := Try.prog) w 26 5 Try.underlying26 Try.underlying5 b 0 16 16 ((List.range 16).map fun j => (kby X Y j : Int)) (by simp) (fun i hi => by
    rw [Nat.zero_add, h.cell i hi]
    simp [List.getD, List.getElem?_map, List.getElem?_range hi]) 9 Try.underlying9
  exact hc
/-- The text of a key. -/
def txS (X Y : Nat) : ByteArray := keyStr (kwX (dgt X)) (kwY (dgt X)) ++ keyStr (kwX (dgt Y)) (kwY (dgt Y))

set_option maxRecDepth 100000 in
set_option maxHeartbeats 1000000 in
theorem text_any (X Y : Nat) (w : World) (hX : X < M) (hY : Y < M) :
    Calls Try.prog 38 #[.agg (kl X Y).toArray] w fun e w' => e = .returned (.string (txS X Y)) ∧ Below w.heap.size w w' := by
  obtain ⟨N, hN⟩ : ∃ N, N = w.heap.size := ⟨_, rfl⟩
  obtain ⟨W1, hW1⟩ : ∃ W1, W1 = w.alloc (.cells (kl X Y).toArray 23) := ⟨_, rfl⟩
  have HB : Hid (Below N w W1) := Lib.hid (by rw [hW1, hN]; exact (Below.refl _ _).alloc (Nat.le_refl _) _)
  have HK : Hid (KeyAt W1 N X Y) := Lib.hid (by rw [hW1, hN]; exact KeyAt.new w X Y 23)
  have HNW : Hid (N ≤ W1.heap.size) := Lib.hid (by rw [hW1, hN]; simp)
  have HSp := Lib.hid (fun w => split_any X Y w hX hY)
  have HD1 := Lib.hid (fun w => digits_any X w hX)
  have HD2 := Lib.hid (fun w => digits_any Y w hY)
  have HW := Lib.hid hW1
  have HN := Lib.hid hN
  unfold txS
  obtain ⟨A, hA⟩ : ∃ x, x = kwX (dgt X) := ⟨_, rfl⟩
  obtain ⟨B, hB⟩ : ∃ x, x = kwY (dgt X) := ⟨_, rfl⟩
  obtain ⟨C, hC⟩ : ∃ x, x = kwX (dgt Y) := ⟨_, rfl⟩
  obtain ⟨D, hD⟩ : ∃ x, x = kwY (dgt Y) := ⟨_, rfl⟩
  rw [← hA, ← hB] at HD1
  rw [← hC, ← hD] at HD2
  rw [← hA, ← hB, ← hC, ← hD]
  clear hW1 hX hY hA hB hC hD hN
  go_enter Try.func38, Try.ntmps38
  go_wp2_with (refine wpList_load_key rfl _ rfl _ rfl X Y (by rw [← HW.out, ← HN.out]; exact HK.out) ?_)
  rw [← HW.out, ← HN.out]
  refine (HSp.out _).mono ?_
  rintro e w1 ⟨rfl, hb1⟩
  have HB1 := Lib.hid (HB.out.trans (hb1.mono HNW.out))
  have HN1 : Hid (N ≤ w1.heap.size) := Lib.hid (Nat.le_trans HNW.out hb1.size)
  clear hb1
  go_wp2_with fail
  refine (HD1.out _).mono ?_
  rintro e w2 ⟨rfl, hb2⟩
  have HB2 := Lib.hid (HB1.out.trans (hb2.mono HN1.out))
  have HN2 : Hid (N ≤ w2.heap.size) := Lib.hid (Nat.le_trans HN1.out hb2.size)
  clear hb2
  go_wp2_with fail
  refine (HD2.out _).mono ?_
  rintro e w3 ⟨rfl, hb3⟩
  have HB3 := Lib.hid (HB2.out.trans (hb3.mono HN2.out))
  have HN3 : Hid (N ≤ w3.heap.size) := Lib.hid (Nat.le_trans HN2.out hb3.size)
  clear hb3
  obtain ⟨b5, hb5⟩ : ∃ b5, b5 = w3.heap.size := ⟨_, rfl⟩
  have HT1 : Hid (((w3.alloc (.cells z16 23)).alloc (.cells z16 23)).there b5 0 16) := Lib.hid (by rw [hb5]; exact there_below (Row.zeros w3 23).there ((Below.refl _ _).alloc (Nat.le_refl _) _) (by simp))
  have HT2 : Hid (((w3.alloc (.cells z16 23)).alloc (.cells z16 23)).there (b5 + 1) 0 16) := Lib.hid (by
    have h := (Row.zeros (w3.alloc (.cells z16 23)) 23).there
    rw [World.size_alloc] at h
    rw [hb5]; exact h)
  have HBB : Hid (Below N w ((w3.alloc (.cells z16 23)).alloc (.cells z16 23))) := Lib.hid ((HB3.out.alloc HN3.out _).alloc (by simp; have := HN3.out; omega) _)
  obtain ⟨Wa, hWa⟩ : ∃ Wa, Wa = (w3.alloc (.cells z16 23)).alloc (.cells z16 23) := ⟨_, rfl⟩
  rw [← hWa] at HT1 HT2 HBB
  obtain ⟨Wb, hWb⟩ : ∃ Wb, Wb = Wa.setCells b5 0 (kl A B) := ⟨_, rfl⟩
  obtain ⟨w4, hw4⟩ : ∃ w4, w4 = Wb.setCells (b5 + 1) 0 (kl C D) := ⟨_, rfl⟩
  have HT2b : Hid (Wb.there (b5 + 1) 0 16) := Lib.hid (by rw [hWb]; exact World.there_setCells HT2.out _ _ _)
  have H5 : Hid (KeyAt w4 b5 A B) := Lib.hid (by rw [hw4, hWb]; exact (KeyAt.stored HT1.out A B).setCells _ _ (by omega))
  have H6 : Hid (KeyAt w4 (b5 + 1) C D) := Lib.hid (by rw [hw4]; exact KeyAt.stored HT2b.out C D)
  have HB4 : Hid (Below N w w4) := Lib.hid (by rw [hw4, hWb]; exact below_setCells _ _ _ _ (below_setCells _ _ _ _ HBB.out (by rw [hb5]; exact HN3.out)) (by rw [hb5]; have := HN3.out; omega))
  have HN4 : Hid (N ≤ w4.heap.size) := Lib.hid (by rw [hw4, hWb, size_setCells, size_setCells, hWa]; simp; have := HN3.out; omega)
  have HWa := Lib.hid hWa
  have HWb := Lib.hid hWb
  have Hw4 := Lib.hid hw4
  have Hb5 := Lib.hid hb5
  clear hWa hWb hw4 hb5
  go_wp2_with (first
    | ((refine wpList_store_key rfl _ _ rfl w3.heap.size A B rfl rfl (by rw [← HWa.out, ← Hb5.out]; exact HT1.out) ?_); rw [← HWa.out, ← Hb5.out, ← HWb.out])
    | ((refine wpList_store_key rfl _ _ rfl (b5 + 1) C D rfl rfl HT2b.out ?_); rw [← Hw4.out]))
  refine wp_region_inv (by kernel_rfl) (by kernel_rfl) (fun l a w' => a = { tmps := #[Value.agg (kl X Y).toArray, .pointer (some ⟨N, 0, none⟩), bif l 5 then Value.string (keyStr A B ++ keyStr C D) else .string { data := #[] }, .int .u64 (X : Int), .int .u64 (Y : Int), .pointer (some ⟨b5, 0, none⟩), .pointer (some ⟨b5 + 1, 0, none⟩), .tuple #[.int .u64 (X : Int), .int .u64 (Y : Int)], Value.agg (kl X Y).toArray, .tuple #[.int .u64 (X : Int), .int .u64 (Y : Int)], .int .u64 (X : Int), .int .u64 (Y : Int), .int .u64 (X : Int), Value.agg (kl A B).toArray, .int .u64 (Y : Int), Value.agg (kl C D).toArray, bif l 0 then Value.slice (some ⟨b5, 0, none⟩) 16 16 else undef, bif l 1 then Value.string (keyStr A B) else undef, bif l 2 then Value.slice (some ⟨b5 + 1, 0, none⟩) 16 16 else undef, bif l 3 then Value.string (keyStr C D) else undef, bif l 4 then Value.string (keyStr A B ++ keyStr C D) else undef], defers := [] } ∧ Below w4.heap.size w4 w') ⟨rfl, (Below.refl _ _).drew⟩ ?_ ?_
  · rintro l a w' i ⟨rfl, hB⟩ hi hli hpre
    have hi2 : i < 6 := hi
    have hcase : i = 0 ∨ i = 1 ∨ i = 2 ∨ i = 3 ∨ i = 4 ∨ i = 5 := by omega
    clear hi hi2
    rcases hcase with rfl | rfl | rfl | rfl | rfl | rfl
    · -- 0: Op.slice 23 (Operand.tmp 5) none none none
      refine wpOp_step rfl (fun K hK => ?_)
      clear hpre
      rw [if_pos (by rfl)]
      go_simp
      exact hK _ _ ⟨by simp [upd, Act.put], hB⟩
    · -- 1: Op.convert 26 9 (Operand.tmp 16)
      have p0 : l 0 = true := hpre _ rfl ⟨0, .data⟩ (by simp) rfl
      refine wpOp_step rfl (fun K hK => ?_)
      simp only [p0, cond_true]
      clear hpre
      rw [if_pos (by rfl)]
      have hcv := conv_key w' b5 A B (H5.out.below hB H5.out.lt)
      go_simp
      exact hK _ _ ⟨by simp [upd, Act.put, p0], hB⟩
    · -- 2: Op.slice 23 (Operand.tmp 6) none none none
      refine wpOp_step rfl (fun K hK => ?_)
      clear hpre
      rw [if_pos (by rfl)]
      go_simp
      exact hK _ _ ⟨by simp [upd, Act.put], hB⟩
    · -- 3: Op.convert 26 9 (Operand.tmp 18)
      have p2 : l 2 = true := hpre _ rfl ⟨2, .data⟩ (by simp) rfl
      refine wpOp_step rfl (fun K hK => ?_)
      simp only [p2, cond_true]
      clear hpre
      rw [if_pos (by rfl)]
      have hcv := conv_key w' (b5 + 1) C D (H6.out.below hB H6.out.lt)
      go_simp
      exact hK _ _ ⟨by simp [upd, Act.put, p2], hB⟩
    · -- 4: Op.binOp BinOp.add 9 (Operand.tmp 17) (Operand.tmp 19) 9
      have p1 : l 1 = true := hpre _ rfl ⟨1, .data⟩ (by simp) rfl
      have p3 : l 3 = true := hpre _ rfl ⟨3, .data⟩ (by simp) rfl
      refine wpOp_step rfl (fun K hK => ?_)
      simp only [p1, p3, cond_true]
      clear hpre
      rw [if_pos (by rfl)]
      go_simp
      exact hK _ _ ⟨by simp [upd, Act.put, p1, p3], hB⟩
    · -- 5: Op.assign (Operand.tmp 20)
      have p4 : l 4 = true := hpre _ rfl ⟨4, .data⟩ (by simp) rfl
      have p0 : l 0 = true := hpre _ rfl ⟨0, .phase⟩ (by simp) rfl
      have p1 : l 1 = true := hpre _ rfl ⟨1, .phase⟩ (by simp) rfl
      have p2 : l 2 = true := hpre _ rfl ⟨2, .phase⟩ (by simp) rfl
      have p3 : l 3 = true := hpre _ rfl ⟨3, .phase⟩ (by simp) rfl
      refine wpOp_step rfl (fun K hK => ?_)
      simp only [p4, p0, p1, p2, p3, cond_true]
      clear hpre
      rw [if_pos (by rfl)]
      go_simp
      exact hK _ _ ⟨by simp [upd, Act.put, p4, p0, p1, p2, p3], hB⟩
  · rintro l a w4' hall ⟨rfl, hBz⟩
    simp only [hall 0 (by decide), hall 1 (by decide), hall 2 (by decide), hall 3 (by decide), hall 4 (by decide), hall 5 (by decide), cond_true]
    clear hall
    obtain ⟨w5, hw5⟩ : ∃ w5, w5 = w4' := ⟨_, rfl⟩
    rw [← hw5] at hBz ⊢
    clear hw5
    go_wp2_with fail
    go_ret
    exact ⟨rfl, by rw [← HN.out]; exact HB4.out.trans (hBz.mono HN4.out)⟩

end Go.Proofs.Ytphhppdokdageaa
