/-
  The published key, block and encryption.
-/
import Derived.Test.YtphhppdokdageaaTxtC
import Derived.Test.YtphhppdokdageaaTxtD
import Derived.Test.YtphhppdokdageaaMac
namespace Go.Proofs.Ytphhppdokdageaa
open Go.RowKit SP
set_option linter.unusedSimpArgs false
set_option linter.unusedVariables false

theorem Row.drew {w : World} {b : Nat} {f : Nat → Nat} (h : Row w b f) : Row w.drew b f := ⟨h.cell, h.fr⟩

theorem parse_const (s : ByteArray) (X Y : Nat) (w : World) (hs : s.size = 32) (h : (hexA s && hexB s) = true) (hX : txX s = X) (hY : txY s = Y) :
    Calls Try.prog 24 #[.string s] w fun e w' => e = .returned (.tuple #[.agg (kl X Y).toArray, .int .i64 0]) ∧ Below w.heap.size w w' := by
  refine (parse_some s w hs).mono ?_
  rintro e w' ⟨⟨X', Y', E, he, hP⟩, hb⟩
  unfold Parses at hP
  rw [if_pos h] at hP
  obtain ⟨rfl, rfl, rfl⟩ := hP
  rw [hX, hY] at he
  exact ⟨he, hb⟩

/-- The published words. -/
def kX : Nat := 1084818905618843912
def kY : Nat := 506097522914230528
def bX : Nat := 7809653424151160096
def bY : Nat := 8388271400802151712
def cX : Nat := 11987905258827821669
def cY : Nat := 8674213117595946264
theorem kXlt : kX < M := by decide
theorem kYlt : kY < M := by decide
theorem bXlt : bX < M := by decide
theorem bYlt : bY < M := by decide
theorem cXlt : cX < M := by decide
theorem cYlt : cY < M := by decide
theorem known_enc : enc kX kY bX bY = (cX, cY) := by decide +kernel

theorem results_key4 {fn : Func} {p q r t : Tmp} (h : fn.results = #[.cell p 23, .cell q 23, .cell r 23, .tmp t]) (tmps : Array Value) (w : World) (b0 b1 b2 X0 Y0 X1 Y1 X2 Y2 : Nat)
    (hp : tmps.getD p undef = .pointer (some ⟨b0, 0, none⟩)) (hq : tmps.getD q undef = .pointer (some ⟨b1, 0, none⟩)) (hr : tmps.getD r undef = .pointer (some ⟨b2, 0, none⟩))
    (h0 : KeyAt w b0 X0 Y0) (h1 : KeyAt w b1 X1 Y1) (h2 : KeyAt w b2 X2 Y2) : (results fn tmps).run Try.prog w = .ok (.tuple #[.agg (kl X0 Y0).toArray, .agg (kl X1 Y1).toArray, .agg (kl X2 Y2).toArray, tmps.getD t undef]) w := by
  have hp' : tmps[p]?.getD undef = .pointer (some ⟨b0, 0, none⟩) := by simpa using hp
  have hq' : tmps[q]?.getD undef = .pointer (some ⟨b1, 0, none⟩) := by simpa using hq
  have hr' : tmps[r]?.getD undef = .pointer (some ⟨b2, 0, none⟩) := by simpa using hr
  simp [results, h, hp', hq', hr', asAddr, Sem.run_bind, run_loadVar_mid w b0 0 23 (kl X0 Y0) _ h0 Try.underlying23 rfl (by rw [kl_len]; exact size23), run_loadVar_mid w b1 0 23 (kl X1 Y1) _ h1 Try.underlying23 rfl (by rw [kl_len]; exact size23), run_loadVar_mid w b2 0 23 (kl X2 Y2) _ h2 Try.underlying23 rfl (by rw [kl_len]; exact size23)]

set_option maxRecDepth 100000 in
set_option maxHeartbeats 2000000 in
theorem known_any (w : World) :
    Calls Try.prog 19 #[] w fun e w' => e = .returned (.tuple #[.agg (kl kX kY).toArray, .agg (kl bX bY).toArray, .agg (kl cX cY).toArray, .bool true]) ∧ Below w.heap.size w w' := by
  have H0 := Lib.hid (fun w => parse_const { data := #[48, 102, 48, 101, 48, 100, 48, 99, 48, 98, 48, 97, 48, 57, 48, 56, 48, 55, 48, 54, 48, 53, 48, 52, 48, 51, 48, 50, 48, 49, 48, 48] } kX kY w (by decide) (by decide +kernel) (by decide +kernel) (by decide +kernel))
  have H1 := Lib.hid (fun w => parse_const { data := #[54, 99, 54, 49, 55, 54, 54, 57, 55, 53, 55, 49, 54, 53, 50, 48, 55, 52, 54, 57, 50, 48, 54, 53, 54, 52, 54, 49, 54, 100, 50, 48] } bX bY w (by decide) (by decide +kernel) (by decide +kernel) (by decide +kernel))
  have H2 := Lib.hid (fun w => parse_const { data := #[97, 54, 53, 100, 57, 56, 53, 49, 55, 57, 55, 56, 51, 50, 54, 53, 55, 56, 54, 48, 102, 101, 100, 102, 53, 99, 53, 55, 48, 100, 49, 56] } cX cY w (by decide) (by decide +kernel) (by decide +kernel) (by decide +kernel))
  obtain ⟨N, hN⟩ : ∃ N, N = w.heap.size := ⟨_, rfl⟩
  obtain ⟨W3, hW3⟩ : ∃ W3, W3 = ((w.alloc (.cells z16 23)).alloc (.cells z16 23)).alloc (.cells z16 23) := ⟨_, rfl⟩
  have HB3 : Hid (Below N w W3) := Lib.hid (by rw [hW3, hN]; exact (((Below.refl _ _).alloc (Nat.le_refl _) _).alloc (by simp) _).alloc (by simp; omega) _)
  have HS3 : Hid (W3.heap.size = N + 3) := Lib.hid (by rw [hW3, hN]; simp)
  have Z0 : Hid (Row W3 N (fun _ => 0)) := Lib.hid (by rw [hW3, hN]; exact ((Row.zeros w 23).keep ((Below.refl _ _).alloc (Nat.le_refl _) _)).keep ((Below.refl _ _).alloc (Nat.le_refl _) _))
  have Z1 : Hid (Row W3 (N + 1) (fun _ => 0)) := Lib.hid (by
    have h := (Row.zeros (w.alloc (.cells z16 23)) 23).keep ((Below.refl _ _).alloc (Nat.le_refl _) (.cells z16 23))
    rw [World.size_alloc] at h
    rw [hW3, hN]; exact h)
  have Z2 : Hid (Row W3 (N + 1 + 1) (fun _ => 0)) := Lib.hid (by
    have h := Row.zeros ((w.alloc (.cells z16 23)).alloc (.cells z16 23)) 23
    rw [World.size_alloc, World.size_alloc] at h
    rw [hW3, hN]; exact h)
  have HW := Lib.hid hW3
  have HN := Lib.hid hN
  clear hW3 hN
  go_enter Try.func19, Try.ntmps19
  go_wp2_with fail
  rw [← HW.out, ← HN.out]
  refine (H0.out _).mono ?_
  rintro e v0 ⟨rfl, hb0⟩
  obtain ⟨V0, hV0⟩ : ∃ V0, V0 = v0.setCells (N) 0 (kl kX kY) := ⟨_, rfl⟩
  have q00 := (Z0.out).keep hb0
  have q01 := (Z1.out).keep hb0
  have q02 := (Z2.out).keep hb0
  have HT0 := Lib.hid q00.there
  have r00 : Hid (Row V0 (N) (kby kX kY)) := Lib.hid (by rw [hV0]; exact Row.stored q00.there kX kY)
  have r01 : Hid (Row V0 (N + 1) (fun _ => 0)) := Lib.hid (by rw [hV0]; exact q01.setCells _ _ _ (by omega))
  have r02 : Hid (Row V0 (N + 1 + 1) (fun _ => 0)) := Lib.hid (by rw [hV0]; exact q02.setCells _ _ _ (by omega))
  have HBV0 : Hid (Below N w V0) := Lib.hid (by rw [hV0]; exact below_setCells _ _ _ _ ((HB3.out).trans (hb0.mono (by rw [HS3.out]; omega))) (by omega))
  have HNV0 : Hid (N ≤ V0.heap.size) := Lib.hid (by rw [hV0, size_setCells]; exact Nat.le_trans (by rw [HS3.out]; omega) hb0.size)
  have HV0 := Lib.hid hV0
  clear hV0 hb0 q00 q01 q02
  go_wp2_with ((refine wpList_store_key rfl _ _ rfl (N) kX kY rfl rfl HT0.out ?_); rw [← HV0.out])
  refine (H1.out _).mono ?_
  rintro e v1 ⟨rfl, hb1⟩
  obtain ⟨V1, hV1⟩ : ∃ V1, V1 = v1.setCells (N + 1) 0 (kl bX bY) := ⟨_, rfl⟩
  have q10 := (r00.out).keep hb1
  have q11 := (r01.out).keep hb1
  have q12 := (r02.out).keep hb1
  have HT1 := Lib.hid q11.there
  have r10 : Hid (Row V1 (N) (kby kX kY)) := Lib.hid (by rw [hV1]; exact q10.setCells _ _ _ (by omega))
  have r11 : Hid (Row V1 (N + 1) (kby bX bY)) := Lib.hid (by rw [hV1]; exact Row.stored q11.there bX bY)
  have r12 : Hid (Row V1 (N + 1 + 1) (fun _ => 0)) := Lib.hid (by rw [hV1]; exact q12.setCells _ _ _ (by omega))
  have HBV1 : Hid (Below N w V1) := Lib.hid (by rw [hV1]; exact below_setCells _ _ _ _ ((HBV0.out).trans (hb1.mono HNV0.out)) (by omega))
  have HNV1 : Hid (N ≤ V1.heap.size) := Lib.hid (by rw [hV1, size_setCells]; exact Nat.le_trans HNV0.out hb1.size)
  have HV1 := Lib.hid hV1
  clear hV1 hb1 q10 q11 q12
  go_wp2_with ((refine wpList_store_key rfl _ _ rfl (N + 1) bX bY rfl rfl HT1.out ?_); rw [← HV1.out])
  refine (H2.out _).mono ?_
  rintro e v2 ⟨rfl, hb2⟩
  obtain ⟨V2, hV2⟩ : ∃ V2, V2 = v2.setCells (N + 1 + 1) 0 (kl cX cY) := ⟨_, rfl⟩
  have q20 := (r10.out).keep hb2
  have q21 := (r11.out).keep hb2
  have q22 := (r12.out).keep hb2
  have HT2 := Lib.hid q22.there
  have r20 : Hid (Row V2 (N) (kby kX kY)) := Lib.hid (by rw [hV2]; exact q20.setCells _ _ _ (by omega))
  have r21 : Hid (Row V2 (N + 1) (kby bX bY)) := Lib.hid (by rw [hV2]; exact q21.setCells _ _ _ (by omega))
  have r22 : Hid (Row V2 (N + 1 + 1) (kby cX cY)) := Lib.hid (by rw [hV2]; exact Row.stored q22.there cX cY)
  have HBV2 : Hid (Below N w V2) := Lib.hid (by rw [hV2]; exact below_setCells _ _ _ _ ((HBV1.out).trans (hb2.mono HNV1.out)) (by omega))
  have HNV2 : Hid (N ≤ V2.heap.size) := Lib.hid (by rw [hV2, size_setCells]; exact Nat.le_trans HNV1.out hb2.size)
  have HV2 := Lib.hid hV2
  clear hV2 hb2 q20 q21 q22
  go_wp2_with ((refine wpList_store_key rfl _ _ rfl (N + 1 + 1) cX cY rfl rfl HT2.out ?_); rw [← HV2.out])
  obtain ⟨W6, hW6⟩ : ∃ W6, W6 = V2 := ⟨_, rfl⟩
  rw [← hW6]
  have R0 : Hid (Row W6 N (kby kX kY)) := by rw [hW6]; exact r20
  have R1 : Hid (Row W6 (N + 1) (kby bX bY)) := by rw [hW6]; exact r21
  have R2 : Hid (Row W6 (N + 1 + 1) (kby cX cY)) := by rw [hW6]; exact r22
  have HB6 : Hid (Below N w W6) := by rw [hW6]; exact HBV2
  clear hW6
  refine wp_region_inv (by kernel_rfl) (by kernel_rfl) (fun l a w' => a = { tmps := #[.pointer (some ⟨N, 0, none⟩), .pointer (some ⟨N + 1, 0, none⟩), .pointer (some ⟨N + 1 + 1, 0, none⟩), bif l 16 then Value.bool true else .bool false, .int .i64 0, .int .i64 0, .int .i64 0, .tuple #[Value.agg (kl kX kY).toArray, .int .i64 0], .tuple #[Value.agg (kl kX kY).toArray, .int .i64 0], Value.agg (kl kX kY).toArray, .int .i64 0, .tuple #[Value.agg (kl bX bY).toArray, .int .i64 0], .tuple #[Value.agg (kl bX bY).toArray, .int .i64 0], Value.agg (kl bX bY).toArray, .int .i64 0, .tuple #[Value.agg (kl cX cY).toArray, .int .i64 0], .tuple #[Value.agg (kl cX cY).toArray, .int .i64 0], Value.agg (kl cX cY).toArray, .int .i64 0, bif l 0 then Value.agg (kl kX kY).toArray else undef, bif l 1 then Value.agg (kl bX bY).toArray else undef, bif l 2 then Value.agg (kl cX cY).toArray else undef, bif l 3 then .int .i64 0 else undef, bif l 4 then Value.bool true else undef, bif l 5 then Value.bool true else undef, bif l 6 then .int .i64 0 else undef, bif l 7 then Value.bool true else undef, bif l 8 then Value.bool true else undef, bif l 9 then Value.bool true else undef, bif l 10 then .int .i64 0 else undef, bif l 11 then Value.bool true else undef, bif l 12 then Value.bool true else undef], defers := [] } ∧ Below (N) W6 w' ∧ Row w' (N) (kby kX kY) ∧ Row w' (N + 1) (kby bX bY) ∧ Row w' (N + 1 + 1) (kby cX cY)) ⟨rfl, (Below.refl _ _).drew, R0.out.drew, R1.out.drew, R2.out.drew⟩ ?_ ?_
  · rintro l a w' i ⟨rfl, hB, R0, R1, R2⟩ hi hli hpre
    have hi2 : i < 17 := hi
    have hcase : i = 0 ∨ i = 1 ∨ i = 2 ∨ i = 3 ∨ i = 4 ∨ i = 5 ∨ i = 6 ∨ i = 7 ∨ i = 8 ∨ i = 9 ∨ i = 10 ∨ i = 11 ∨ i = 12 ∨ i = 13 ∨ i = 14 ∨ i = 15 ∨ i = 16 := by omega
    clear hi hi2
    rcases hcase with rfl | rfl | rfl | rfl | rfl | rfl | rfl | rfl | rfl | rfl | rfl | rfl | rfl | rfl | rfl | rfl | rfl
    · -- 0: Op.load 23 (Operand.tmp 0)
      refine wpOp_step rfl (fun K hK => ?_)
      clear hpre
      rw [if_pos (by rfl)]
      refine wp_load_mid 23 _ rfl _ 0 rfl (kl kX kY) _ (R0.key fun _ _ => rfl) Try.underlying23 rfl (by rw [kl_len]; exact size23) ?_
      exact hK _ _ ⟨by simp [upd, Act.put], hB, R0, R1, R2⟩
    · -- 1: Op.load 23 (Operand.tmp 1)
      refine wpOp_step rfl (fun K hK => ?_)
      clear hpre
      rw [if_pos (by rfl)]
      refine wp_load_mid 23 _ rfl _ 0 rfl (kl bX bY) _ (R1.key fun _ _ => rfl) Try.underlying23 rfl (by rw [kl_len]; exact size23) ?_
      exact hK _ _ ⟨by simp [upd, Act.put], hB, R0, R1, R2⟩
    · -- 2: Op.load 23 (Operand.tmp 2)
      refine wpOp_step rfl (fun K hK => ?_)
      clear hpre
      rw [if_pos (by rfl)]
      refine wp_load_mid 23 _ rfl _ 0 rfl (kl cX cY) _ (R2.key fun _ _ => rfl) Try.underlying23 rfl (by rw [kl_len]; exact size23) ?_
      exact hK _ _ ⟨by simp [upd, Act.put], hB, R0, R1, R2⟩
    · -- 3: Op.move (Operand.tmp 4)
      refine wpOp_step rfl (fun K hK => ?_)
      clear hpre
      rw [if_pos (by rfl)]
      go_simp
      exact hK _ _ ⟨by simp [upd, Act.put], hB, R0, R1, R2⟩
    · -- 4: Op.binOp BinOp.eql 27 (Operand.tmp 22) (Operand.const (Value
      have p3 : l 3 = true := hpre _ rfl ⟨3, .data⟩ (by simp) rfl
      refine wpOp_step rfl (fun K hK => ?_)
      simp only [p3, cond_true]
      clear hpre
      rw [if_pos (by rfl)]
      go_simp
      exact hK _ _ ⟨by simp [upd, Act.put, p3], hB, R0, R1, R2⟩
    · -- 5: Op.move (Operand.tmp 23)
      have p4 : l 4 = true := hpre _ rfl ⟨4, .data⟩ (by simp) rfl
      refine wpOp_step rfl (fun K hK => ?_)
      simp only [p4, cond_true]
      clear hpre
      rw [if_pos (by rfl)]
      go_simp
      exact hK _ _ ⟨by simp [upd, Act.put, p4], hB, R0, R1, R2⟩
    · -- 6: Op.move (Operand.tmp 5)
      have p5 : l 5 = true := hpre _ rfl ⟨5, .guard⟩ (by simp) rfl
      refine wpOp_step rfl (fun K hK => ?_)
      simp only [p5, cond_true]
      clear hpre
      rw [if_pos (by rfl)]
      go_simp
      exact hK _ _ ⟨by simp [upd, Act.put, p5], hB, R0, R1, R2⟩
    · -- 7: Op.binOp BinOp.eql 27 (Operand.tmp 25) (Operand.const (Value
      have p6 : l 6 = true := hpre _ rfl ⟨6, .data⟩ (by simp) rfl
      have p5 : l 5 = true := hpre _ rfl ⟨5, .guard⟩ (by simp) rfl
      refine wpOp_step rfl (fun K hK => ?_)
      simp only [p6, p5, cond_true]
      clear hpre
      rw [if_pos (by rfl)]
      go_simp
      exact hK _ _ ⟨by simp [upd, Act.put, p6, p5], hB, R0, R1, R2⟩
    · -- 8: Op.pick (Operand.tmp 24) (Operand.tmp 26) (Operand.const (Va
      have p5 : l 5 = true := hpre _ rfl ⟨5, .data⟩ (by simp) rfl
      have p7 : l 7 = true := hpre _ rfl ⟨7, .data⟩ (by simp) rfl
      refine wpOp_step rfl (fun K hK => ?_)
      simp only [p5, p7, cond_true]
      clear hpre
      rw [if_pos (by rfl)]
      go_simp
      exact hK _ _ ⟨by simp [upd, Act.put, p5, p7], hB, R0, R1, R2⟩
    · -- 9: Op.move (Operand.tmp 27)
      have p8 : l 8 = true := hpre _ rfl ⟨8, .data⟩ (by simp) rfl
      have p5 : l 5 = true := hpre _ rfl ⟨5, .chain⟩ (by simp) rfl
      refine wpOp_step rfl (fun K hK => ?_)
      simp only [p8, p5, cond_true]
      clear hpre
      rw [if_pos (by rfl)]
      go_simp
      exact hK _ _ ⟨by simp [upd, Act.put, p8, p5], hB, R0, R1, R2⟩
    · -- 10: Op.move (Operand.tmp 6)
      have p9 : l 9 = true := hpre _ rfl ⟨9, .guard⟩ (by simp) rfl
      refine wpOp_step rfl (fun K hK => ?_)
      simp only [p9, cond_true]
      clear hpre
      rw [if_pos (by rfl)]
      go_simp
      exact hK _ _ ⟨by simp [upd, Act.put, p9], hB, R0, R1, R2⟩
    · -- 11: Op.binOp BinOp.eql 27 (Operand.tmp 29) (Operand.const (Value
      have p10 : l 10 = true := hpre _ rfl ⟨10, .data⟩ (by simp) rfl
      have p9 : l 9 = true := hpre _ rfl ⟨9, .guard⟩ (by simp) rfl
      refine wpOp_step rfl (fun K hK => ?_)
      simp only [p10, p9, cond_true]
      clear hpre
      rw [if_pos (by rfl)]
      go_simp
      exact hK _ _ ⟨by simp [upd, Act.put, p10, p9], hB, R0, R1, R2⟩
    · -- 12: Op.pick (Operand.tmp 28) (Operand.tmp 30) (Operand.const (Va
      have p9 : l 9 = true := hpre _ rfl ⟨9, .data⟩ (by simp) rfl
      have p11 : l 11 = true := hpre _ rfl ⟨11, .data⟩ (by simp) rfl
      refine wpOp_step rfl (fun K hK => ?_)
      simp only [p9, p11, cond_true]
      clear hpre
      rw [if_pos (by rfl)]
      go_simp
      exact hK _ _ ⟨by simp [upd, Act.put, p9, p11], hB, R0, R1, R2⟩
    · -- 13: Op.store 23 (Operand.tmp 0) (Operand.tmp 19)
      have p0 : l 0 = true := hpre _ rfl ⟨0, .data⟩ (by simp) rfl
      have p9 : l 9 = true := hpre _ rfl ⟨9, .chain⟩ (by simp) rfl
      refine wpOp_step rfl (fun K hK => ?_)
      simp only [p0, p9, cond_true]
      clear hpre
      rw [if_pos (by rfl)]
      refine wp_store_mid 23 _ _ rfl (N) 0 (kl kX kY).toArray rfl rfl (by simpa [kl_len] using R0.there) (by simp [kl_len, size23]) (kl_arr kX kY) ?_
      rw [List.toList_toArray]
      exact hK _ _ ⟨by simp [upd, Act.put, p0, p9], below_setCells _ _ _ _ hB (by omega), Row.stored R0.there kX kY, R1.setCells _ _ _ (by omega), R2.setCells _ _ _ (by omega)⟩
    · -- 14: Op.store 23 (Operand.tmp 1) (Operand.tmp 20)
      have p1 : l 1 = true := hpre _ rfl ⟨1, .data⟩ (by simp) rfl
      have p13 : l 13 = true := hpre _ rfl ⟨13, .chain⟩ (by simp) rfl
      have p0 : l 0 = true := hpre _ rfl ⟨0, .phase⟩ (by simp) rfl
      refine wpOp_step rfl (fun K hK => ?_)
      simp only [p1, p13, p0, cond_true]
      clear hpre
      rw [if_pos (by rfl)]
      refine wp_store_mid 23 _ _ rfl (N + 1) 0 (kl bX bY).toArray rfl rfl (by simpa [kl_len] using R1.there) (by simp [kl_len, size23]) (kl_arr bX bY) ?_
      rw [List.toList_toArray]
      exact hK _ _ ⟨by simp [upd, Act.put, p1, p13, p0], below_setCells _ _ _ _ hB (by omega), R0.setCells _ _ _ (by omega), Row.stored R1.there bX bY, R2.setCells _ _ _ (by omega)⟩
    · -- 15: Op.store 23 (Operand.tmp 2) (Operand.tmp 21)
      have p2 : l 2 = true := hpre _ rfl ⟨2, .data⟩ (by simp) rfl
      have p14 : l 14 = true := hpre _ rfl ⟨14, .chain⟩ (by simp) rfl
      have p0 : l 0 = true := hpre _ rfl ⟨0, .phase⟩ (by simp) rfl
      have p1 : l 1 = true := hpre _ rfl ⟨1, .phase⟩ (by simp) rfl
      have p13 : l 13 = true := hpre _ rfl ⟨13, .phase⟩ (by simp) rfl
      refine wpOp_step rfl (fun K hK => ?_)
      simp only [p2, p14, p0, p1, p13, cond_true]
      clear hpre
      rw [if_pos (by rfl)]
      refine wp_store_mid 23 _ _ rfl (N + 1 + 1) 0 (kl cX cY).toArray rfl rfl (by simpa [kl_len] using R2.there) (by simp [kl_len, size23]) (kl_arr cX cY) ?_
      rw [List.toList_toArray]
      exact hK _ _ ⟨by simp [upd, Act.put, p2, p14, p0, p1, p13], below_setCells _ _ _ _ hB (by omega), R0.setCells _ _ _ (by omega), R1.setCells _ _ _ (by omega), Row.stored R2.there cX cY⟩
    · -- 16: Op.assign (Operand.tmp 31)
      have p12 : l 12 = true := hpre _ rfl ⟨12, .data⟩ (by simp) rfl
      have p15 : l 15 = true := hpre _ rfl ⟨15, .chain⟩ (by simp) rfl
      have p0 : l 0 = true := hpre _ rfl ⟨0, .phase⟩ (by simp) rfl
      have p1 : l 1 = true := hpre _ rfl ⟨1, .phase⟩ (by simp) rfl
      have p2 : l 2 = true := hpre _ rfl ⟨2, .phase⟩ (by simp) rfl
      have p3 : l 3 = true := hpre _ rfl ⟨3, .phase⟩ (by simp) rfl
      have p4 : l 4 = true := hpre _ rfl ⟨4, .phase⟩ (by simp) rfl
      have p5 : l 5 = true := hpre _ rfl ⟨5, .phase⟩ (by simp) rfl
      have p6 : l 6 = true := hpre _ rfl ⟨6, .phase⟩ (by simp) rfl
      have p7 : l 7 = true := hpre _ rfl ⟨7, .phase⟩ (by simp) rfl
      have p8 : l 8 = true := hpre _ rfl ⟨8, .phase⟩ (by simp) rfl
      have p9 : l 9 = true := hpre _ rfl ⟨9, .phase⟩ (by simp) rfl
      have p10 : l 10 = true := hpre _ rfl ⟨10, .phase⟩ (by simp) rfl
      have p11 : l 11 = true := hpre _ rfl ⟨11, .phase⟩ (by simp) rfl
      have p13 : l 13 = true := hpre _ rfl ⟨13, .phase⟩ (by simp) rfl
      have p14 : l 14 = true := hpre _ rfl ⟨14, .phase⟩ (by simp) rfl
      refine wpOp_step rfl (fun K hK => ?_)
      simp only [p12, p15, p0, p1, p2, p3, p4, p5, p6, p7, p8, p9, p10, p11, p13, p14, cond_true]
      clear hpre
      rw [if_pos (by rfl)]
      go_simp
      exact hK _ _ ⟨by simp [upd, Act.put, p12, p15, p0, p1, p2, p3, p4, p5, p6, p7, p8, p9, p10, p11, p13, p14], hB, R0, R1, R2⟩
  · rintro l a w9 hall ⟨rfl, hBz, R0, R1, R2⟩
    simp only [hall 0 (by decide), hall 1 (by decide), hall 2 (by decide), hall 3 (by decide), hall 4 (by decide), hall 5 (by decide), hall 6 (by decide), hall 7 (by decide), hall 8 (by decide), hall 9 (by decide), hall 10 (by decide), hall 11 (by decide), hall 12 (by decide), hall 16 (by decide), cond_true]
    clear hall
    go_wp2_with fail
    exact bodyPost_ret (results_key4 rfl _ _ N (N + 1) (N + 1 + 1) kX kY bX bY cX cY rfl rfl rfl (R0.key fun _ _ => rfl) (R1.key fun _ _ => rfl) (R2.key fun _ _ => rfl)) rfl ⟨rfl, by rw [← HN.out]; exact HB6.out.trans hBz⟩

end Go.Proofs.Ytphhppdokdageaa
