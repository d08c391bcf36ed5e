/- The walk over CipherExamples. -/
import Derived.Test.YtphhppdokdageaaStrC
import Derived.Test.YtphhppdokdageaaHshD
import Derived.Test.YtphhppdokdageaaAlv
import Derived.Test.YtphhppdokdageaaTxtE
import Derived.Test.YtphhppdokdageaaLawB
import Derived.Laws.MakeOwn
namespace Go.Proofs.Ytphhppdokdageaa.cipherExamples
open Go.RowKit SP
set_option linter.unusedVariables false
set_option linter.unusedSimpArgs false

theorem one_word : pw (pdb (fun _ => 0) 0) 16 0 = (9223372036854775808, 0) := by decide +kernel
theorem fld_one (stp : Nat × Nat → Nat × Nat → Nat × Nat) (s : Nat × Nat) (g : Nat → Nat) (n : Nat) : fld stp s g n 1 = stp s (pw g n 0) := rfl
theorem hash_nil : hshV (fun _ => 0) 0 = ((enc 9223372036854775808 0 S5a S5a).1 ^^^ S5a, (enc 9223372036854775808 0 S5a S5a).2 ^^^ S5a) := by
  unfold hshV
  have e1 : pdl 0 = 16 := by decide
  have e2 : cnt 16 = 1 := by decide
  rw [e1, e2]
  rw [fld_one, one_word]
  simp only [hshS]
theorem one_key : (kl 9223372036854775808 0).toArray = #[Value.int .u8 128, Value.int .u8 0, Value.int .u8 0, Value.int .u8 0, Value.int .u8 0, Value.int .u8 0, Value.int .u8 0, Value.int .u8 0, Value.int .u8 0, Value.int .u8 0, Value.int .u8 0, Value.int .u8 0, Value.int .u8 0, Value.int .u8 0, Value.int .u8 0, Value.int .u8 0] := by kernel_rfl
theorem kby_one (j : Nat) (hj : j < 16) : (if j = 0 then 128 else 0) = kby 9223372036854775808 0 j := by
  have h16 : j = 0 ∨ j = 1 ∨ j = 2 ∨ j = 3 ∨ j = 4 ∨ j = 5 ∨ j = 6 ∨ j = 7 ∨ j = 8 ∨ j = 9 ∨ j = 10 ∨ j = 11 ∨ j = 12 ∨ j = 13 ∨ j = 14 ∨ j = 15 := by omega
  rcases h16 with rfl | rfl | rfl | rfl | rfl | rfl | rfl | rfl | rfl | rfl | rfl | rfl | rfl | rfl | rfl | rfl <;> decide

set_option maxRecDepth 100000 in
set_option maxHeartbeats 4000000 in
theorem walk (w : World) : Calls Try.prog 3 #[] w fun e w' => e = .returned (.bool true) ∧ Below w.heap.size w w' := by
  obtain ⟨i0, hi, hz0, hz1, hz2⟩ := info_parts info5
  obtain ⟨mc, hmc⟩ : ∃ mc : Array Value, mc = madeCells (Value.int .u8 0).cells (16385 * 1) := ⟨_, rfl⟩
  have HMk : Hid (∀ w : World, (Instr.makeSlice 26 (.int .i64 16385) (.int .i64 16385)).run Try.prog w = .ok (.slice (some ⟨w.heap.size, 0, none⟩) 16385 16385) (w.alloc (.cells mc 5))) := Lib.hid (fun w => by
    have h := run_make (P := Try.prog) w 26 5 i0 _ Try.underlying26 hi hz0 .i64 .i64 16385 16385 (by omega) (by omega) (by rw [hz2]; omega) (by omega)
    rw [hz1] at h
    rw [hmc]; exact h)
  have HAl := Lib.hid (fun w => alive_any w)
  have HK := Lib.hid (fun w => known_any w)
  have HSt : Hid (∀ w, Calls Try.prog 20 #[.agg (kl kX kY).toArray, .int .u64 3, .slice none 0 0] w fun e w' => ∃ A' c', e = .returned (.tuple #[.slice A' 0 c', .int .i64 0]) ∧ Below w.heap.size w w' ∧ Byt w' A' 0 c' (smb kX kY 3 (fun _ => 0))) := Lib.hid (fun w => stream_byt kX kY 3 none 0 0 (fun _ => 0) w kXlt kYlt (by decide) ⟨Nat.le_refl _, by simp [maxLen], fun _ => by omega, fun h => by omega⟩ (by omega))
  have HSn : Hid (∀ (b : Nat) (w : World), Calls Try.prog 20 #[.agg (kl kX kY).toArray, .int .u64 3, .slice (some ⟨b, 0, none⟩) 16385 16385] w fun e w' => e = .returned (.tuple #[.slice none 0 0, .int .i64 4]) ∧ Below w.heap.size w w') := Lib.hid (fun b w => stream_no kX kY 3 _ 16385 16385 w (by omega))
  have HHn : Hid (∀ (b : Nat) (w : World), Calls Try.prog 21 #[.slice (some ⟨b, 0, none⟩) 16385 16385] w fun e w' => e = .returned (.tuple #[.agg (kl 0 0).toArray, .int .i64 4]) ∧ Below w.heap.size w w') := Lib.hid (fun b w => hash_no _ 16385 16385 w (by omega))
  have HMn : Hid (∀ (b : Nat) (w : World), Calls Try.prog 22 #[.agg (kl kX kY).toArray, .slice (some ⟨b, 0, none⟩) 16385 16385] w fun e w' => e = .returned (.tuple #[.agg (kl 0 0).toArray, .int .i64 4]) ∧ Below w.heap.size w w') := Lib.hid (fun b w => mac_no kX kY _ 16385 16385 w (by omega))
  have hh := fun w => hash_yes none 0 0 (fun _ => 0) w ⟨Nat.le_refl _, by simp [maxLen], fun _ => by omega, fun h => by omega⟩ (by omega)
  have oP := hshV_ok (g := fun _ => 0) (fun _ => by omega) 0
  have he := fun w => encrypt_any 9223372036854775808 0 S5a S5a w (by decide) (by decide) S5a_lt S5a_lt
  rw [hash_nil] at hh oP
  obtain ⟨U0, hU0⟩ : ∃ U0, U0 = (enc 9223372036854775808 0 S5a S5a).1 := ⟨_, rfl⟩
  obtain ⟨V0, hV0⟩ : ∃ V0, V0 = (enc 9223372036854775808 0 S5a S5a).2 := ⟨_, rfl⟩
  rw [← hU0, ← hV0] at hh oP he
  have hx := fun w => lawXor_any U0 V0 S5a S5a w
  obtain ⟨P, hP⟩ : ∃ P, P = U0 ^^^ S5a := ⟨_, rfl⟩
  obtain ⟨Q, hQ⟩ : ∃ Q, Q = V0 ^^^ S5a := ⟨_, rfl⟩
  rw [← hP, ← hQ] at hh oP hx
  have HH : Hid (∀ w, Calls Try.prog 21 #[.slice none 0 0] w fun e w' => e = .returned (.tuple #[.agg (kl P Q).toArray, .int .i64 0]) ∧ Below w.heap.size w w') := Lib.hid hh
  have HE := Lib.hid he
  have HX := Lib.hid hx
  unfold Ok at oP
  have HQ : Hid (∀ w, (Op.equalIn 10000 23 (.agg (kl P Q).toArray) (.agg (kl P Q).toArray)).run Try.prog w = .ok true w) := Lib.hid (fun w => by rw [run_equal_key oP.1 oP.2 oP.1 oP.2 w]; simp [same])
  have hn1 : numb kX kY 5 1 = 0 := by unfold numb; simp [Nat.mod_one]
  have hn0 : numb kX kY 5 0 = 0 := by unfold numb; simp
  have h50 := fun w => number_any kX kY 5 0 w kXlt kYlt (by decide)
  have h51 := fun w => number_any kX kY 5 1 w kXlt kYlt (by decide)
  rw [hn0] at h50
  rw [hn1] at h51
  have HN0 : Hid (∀ w, Calls Try.prog 25 #[.agg (kl kX kY).toArray, .int .u64 5, .int .u64 0] w fun e w' => e = .returned (.int .u64 0) ∧ Below w.heap.size w w') := Lib.hid h50
  have HN1 : Hid (∀ w, Calls Try.prog 25 #[.agg (kl kX kY).toArray, .int .u64 5, .int .u64 1] w fun e w' => e = .returned (.int .u64 0) ∧ Below w.heap.size w w') := Lib.hid h51
  have HPa := Lib.hid (fun w => parse_bad { data := #[48, 70, 48, 101, 48, 100, 48, 99, 48, 98, 48, 97, 48, 57, 48, 56, 48, 55, 48, 54, 48, 53, 48, 52, 48, 51, 48, 50, 48, 49, 48, 48] } w (by decide) (by unfold POk; decide +kernel))
  have HPb := Lib.hid (fun w => parse_bad { data := #[48, 102, 48, 101, 48, 100, 48, 99, 48, 98, 48, 97, 48, 57, 48, 56, 48, 55, 48, 54, 48, 53, 48, 52, 48, 51, 48, 50, 48, 49, 48] } w (by decide) (by unfold POk; decide +kernel))
  clear hmc hi hz0 hz1 hz2 hh oP he hx hU0 hV0 hP hQ hn0 hn1 h50 h51
  go_enter Try.func3, Try.ntmps3
  go_wp2_with fail
  refine (HK.out _).mono ?_
  rintro e w0 ⟨rfl, hb0⟩
  obtain ⟨N, hN⟩ : ∃ N, N = w0.heap.size := ⟨_, rfl⟩
  obtain ⟨Wa, hWa⟩ : ∃ Wa, Wa = ((w0.alloc (.cells z16 23)).alloc (.cells z16 23)).alloc (.cells z16 23) := ⟨_, rfl⟩
  have ba : Below N w0 Wa := by rw [hWa, hN]; exact (((Below.refl _ _).alloc (Nat.le_refl _) _).alloc (by simp) _).alloc (by simp; omega) _
  have sa : Wa.heap.size = N + 3 := by rw [hWa, hN]; simp
  have z0 : Row Wa N (fun _ => 0) := by rw [hWa, hN]; exact ((Row.zeros w0 23).keep ((Below.refl _ _).alloc (Nat.le_refl _) _)).keep ((Below.refl _ _).alloc (Nat.le_refl _) _)
  have z1 : Row Wa (N + 1) (fun _ => 0) := by
    have h := (Row.zeros (w0.alloc (.cells z16 23)) 23).keep ((Below.refl _ _).alloc (Nat.le_refl _) (.cells z16 23))
    rw [World.size_alloc] at h
    rw [hWa, hN]; exact h
  have z2 : Row Wa (N + 1 + 1) (fun _ => 0) := by
    have h := Row.zeros ((w0.alloc (.cells z16 23)).alloc (.cells z16 23)) 23
    rw [World.size_alloc, World.size_alloc] at h
    rw [hWa, hN]; exact h
  obtain ⟨Wb, hWb⟩ : ∃ Wb, Wb = Wa.setCells N 0 (kl kX kY) := ⟨_, rfl⟩
  obtain ⟨Wc, hWc⟩ : ∃ Wc, Wc = Wb.setCells (N + 1) 0 (kl bX bY) := ⟨_, rfl⟩
  obtain ⟨W1, hW1⟩ : ∃ W1, W1 = Wc.setCells (N + 1 + 1) 0 (kl cX cY) := ⟨_, rfl⟩
  have T0 := Lib.hid z0.there
  have T1 : Hid (Wb.there (N + 1) 0 16) := Lib.hid (by rw [hWb]; exact (z1.setCells _ _ _ (by omega)).there)
  have T2 : Hid (Wc.there (N + 1 + 1) 0 16) := Lib.hid (by rw [hWc, hWb]; exact ((z2.setCells _ _ _ (by omega)).setCells _ _ _ (by omega)).there)
  have H0 : Hid (KeyAt W1 N kX kY) := Lib.hid (by rw [hW1, hWc, hWb]; exact ((KeyAt.stored z0.there kX kY).setCells _ _ (by omega)).setCells _ _ (by omega))
  have HB1 : Hid (Below w.heap.size w W1) := Lib.hid (by
    rw [hW1, hWc, hWb]
    have hl : w.heap.size ≤ N := by rw [hN]; exact hb0.size
    exact below_setCells _ _ _ _ (below_setCells _ _ _ _ (below_setCells _ _ _ _ (hb0.trans (ba.mono hl)) hl) (by omega)) (by omega))
  have HS1 : Hid (w.heap.size ≤ W1.heap.size) := Lib.hid (by rw [hW1, hWc, hWb, size_setCells, size_setCells, size_setCells, sa, hN]; have := hb0.size; omega)
  have HWa := Lib.hid hWa
  have HWb := Lib.hid hWb
  have HWc := Lib.hid hWc
  have HW1 := Lib.hid hW1
  have HN := Lib.hid hN
  clear z0 z1 z2 ba sa hb0 hWa hWb hWc hW1 hN
  go_wp2_with (first
    | ((refine wpList_store_key rfl _ _ rfl w0.heap.size kX kY rfl rfl (by rw [← HWa.out, ← HN.out]; exact T0.out) ?_); rw [← HWa.out, ← HN.out, ← HWb.out])
    | ((refine wpList_store_key rfl _ _ rfl (N + 1) bX bY rfl rfl T1.out ?_); rw [← HWc.out])
    | ((refine wpList_store_key rfl _ _ rfl (N + 1 + 1) cX cY rfl rfl T2.out ?_); rw [← HW1.out])
    | (refine wpList_load_key rfl _ rfl N rfl kX kY H0.out ?_))
  clear T0 T1 T2 HWa HWb HWc HW1 HN
  refine (HSt.out W1).mono ?_
  rintro e w3 ⟨A3, c3, rfl, hb3, -⟩
  have K3 := Lib.hid (H0.out.keep hb3)
  have B3 := Lib.hid (HB1.out.trans (hb3.mono HS1.out))
  have S3 := Lib.hid (Nat.le_trans HS1.out hb3.size)
  clear hb3 HB1 HS1 H0
  go_wp2_with fail
  refine wp_region_inv (by kernel_rfl) (by kernel_rfl) (fun l a w' => ∃ gb : Nat, a = { tmps := #[Value.bool false, Value.pointer (some ⟨N, 0, none⟩), Value.pointer (some ⟨N + 1, 0, none⟩), Value.pointer (some ⟨N + 1 + 1, 0, none⟩), Value.bool true, Value.slice A3 0 c3, Value.int .i64 (0 : Int), bif l 6 then Value.slice none 0 0 else undef, bif l 7 then Value.int .i64 4 else undef, undef, undef, undef, undef, undef, undef, undef, undef, Value.tuple #[Value.agg (kl kX kY).toArray, Value.agg (kl bX bY).toArray, Value.agg (kl cX cY).toArray, Value.bool true], Value.tuple #[Value.agg (kl kX kY).toArray, Value.agg (kl bX bY).toArray, Value.agg (kl cX cY).toArray, Value.bool true], Value.agg (kl kX kY).toArray, Value.agg (kl bX bY).toArray, Value.agg (kl cX cY).toArray, Value.bool true, Value.tuple #[Value.slice A3 0 c3, Value.int IntKind.i64 0], Value.agg (kl kX kY).toArray, Value.tuple #[Value.slice A3 0 c3, Value.int IntKind.i64 0], Value.slice A3 0 c3, Value.int .i64 (0 : Int), bif l 3 then Value.tuple #[Value.slice none 0 0, Value.int .i64 4] else undef, bif l 0 then Value.agg (kl kX kY).toArray else undef, bif l 1 then Value.slice (some ⟨gb, 0, none⟩) 16385 16385 else undef, bif l 2 then Value.tuple #[Value.slice none 0 0, Value.int .i64 4] else undef, bif l 4 then Value.slice none 0 0 else undef, bif l 5 then Value.int .i64 4 else undef, undef, undef, undef, undef, undef, undef, undef, undef, undef, undef, undef, undef, undef, undef, undef, undef, undef, undef, undef, undef, undef, undef, undef, undef, undef, undef, undef, undef, undef, undef, undef, undef, undef, undef, undef, undef, undef, undef, undef, undef, undef, undef, undef, undef, undef, undef, undef, undef, undef, undef, undef, undef, undef, undef, undef, undef, undef, undef, undef, undef, undef, undef, undef, undef, undef, undef, undef, undef, undef, undef, undef, undef, undef, undef, undef, undef, undef, undef, undef, undef, undef, undef, undef, undef, undef, undef, undef, undef], defers := [] } ∧ Below w3.heap.size w3 w') ⟨0, rfl, (Below.refl _ _).drew⟩ ?_ ?_
  · rintro l a w' i ⟨gb, rfl, hB⟩ hi hli hpre
    have hi2 : i < 8 := hi
    have hcase : i = 0 ∨ i = 1 ∨ i = 2 ∨ i = 3 ∨ i = 4 ∨ i = 5 ∨ i = 6 ∨ i = 7 := by omega
    clear hi hi2
    rcases hcase with rfl | rfl | rfl | rfl | rfl | rfl | rfl | rfl
    · -- 0: Op.load 23 (Operand.tmp 1)
      refine wpOp_step rfl (fun K hK => ?_)
      clear hpre
      rw [if_pos (by rfl)]
      refine wp_load_mid 23 _ rfl _ 0 rfl (kl kX kY) _ ((K3.out).below hB (K3.out).lt) Try.underlying23 rfl (by rw [kl_len]; exact size23) ?_
      exact hK _ _ ⟨gb, by simp [upd, Act.put], hB⟩
    · -- 1: Op.makeSlice 26 (Operand.const (Value.int IntKind.i64 16385)
      refine wpOp_step rfl (fun K hK => ?_)
      clear hpre
      rw [if_pos (by rfl)]
      have hA : Below w'.heap.size w' (w'.alloc (.cells mc 5)) := (Below.refl _ _).alloc (Nat.le_refl _) _
      have z1 := HMk.out w'
      go_simp
      exact hK _ _ ⟨w'.heap.size, by simp [upd, Act.put], hB.trans (hA.mono hB.size)⟩
    · -- 2: Op.call { callee := Callee.value (Operand.func 20), args := 
      have p0 : l 0 = true := hpre _ rfl ⟨0, .data⟩ (by simp) rfl
      have p1 : l 1 = true := hpre _ rfl ⟨1, .data⟩ (by simp) rfl
      refine wpOp_step rfl (fun K hK => ?_)
      simp only [p0, p1, cond_true, cond_false]
      clear hpre
      rw [if_pos (by rfl)]
      go_simp
      refine (HSn.out gb _).mono ?_
      rintro e w5 ⟨rfl, hb5⟩
      exact hK _ _ ⟨gb, by simp [upd, Act.put, p0, p1], hB.trans (hb5.mono hB.size)⟩
    · -- 3: Op.move (Operand.tmp 31)
      have p2 : l 2 = true := hpre _ rfl ⟨2, .data⟩ (by simp) rfl
      refine wpOp_step rfl (fun K hK => ?_)
      simp only [p2, cond_true, cond_false]
      clear hpre
      rw [if_pos (by rfl)]
      go_simp
      exact hK _ _ ⟨gb, by simp [upd, Act.put, p2], hB⟩
    · -- 4: Op.extract (Operand.tmp 28) 0
      have p3 : l 3 = true := hpre _ rfl ⟨3, .data⟩ (by simp) rfl
      refine wpOp_step rfl (fun K hK => ?_)
      simp only [p3, cond_true, cond_false]
      clear hpre
      rw [if_pos (by rfl)]
      go_simp
      exact hK _ _ ⟨gb, by simp [upd, Act.put, p3], hB⟩
    · -- 5: Op.extract (Operand.tmp 28) 1
      have p3 : l 3 = true := hpre _ rfl ⟨3, .data⟩ (by simp) rfl
      refine wpOp_step rfl (fun K hK => ?_)
      simp only [p3, cond_true, cond_false]
      clear hpre
      rw [if_pos (by rfl)]
      go_simp
      exact hK _ _ ⟨gb, by simp [upd, Act.put, p3], hB⟩
    · -- 6: Op.assign (Operand.tmp 32)
      have p4 : l 4 = true := hpre _ rfl ⟨4, .data⟩ (by simp) rfl
      have p2 : l 2 = true := hpre _ rfl ⟨2, .chain⟩ (by simp) rfl
      have p0 : l 0 = true := hpre _ rfl ⟨0, .phase⟩ (by simp) rfl
      have p1 : l 1 = true := hpre _ rfl ⟨1, .phase⟩ (by simp) rfl
      have p3 : l 3 = true := hpre _ rfl ⟨3, .phase⟩ (by simp) rfl
      refine wpOp_step rfl (fun K hK => ?_)
      simp only [p4, p2, p0, p1, p3, cond_true, cond_false]
      clear hpre
      rw [if_pos (by rfl)]
      go_simp
      exact hK _ _ ⟨gb, by simp [upd, Act.put, p4, p2, p0, p1, p3], hB⟩
    · -- 7: Op.assign (Operand.tmp 33)
      have p5 : l 5 = true := hpre _ rfl ⟨5, .data⟩ (by simp) rfl
      have p6 : l 6 = true := hpre _ rfl ⟨6, .chain⟩ (by simp) rfl
      have p0 : l 0 = true := hpre _ rfl ⟨0, .phase⟩ (by simp) rfl
      have p1 : l 1 = true := hpre _ rfl ⟨1, .phase⟩ (by simp) rfl
      have p2 : l 2 = true := hpre _ rfl ⟨2, .phase⟩ (by simp) rfl
      have p3 : l 3 = true := hpre _ rfl ⟨3, .phase⟩ (by simp) rfl
      have p4 : l 4 = true := hpre _ rfl ⟨4, .phase⟩ (by simp) rfl
      refine wpOp_step rfl (fun K hK => ?_)
      simp only [p5, p6, p0, p1, p2, p3, p4, cond_true, cond_false]
      clear hpre
      rw [if_pos (by rfl)]
      go_simp
      exact hK _ _ ⟨gb, by simp [upd, Act.put, p5, p6, p0, p1, p2, p3, p4], hB⟩
  · rintro l a w9 hall ⟨gb, rfl, hBz⟩
    simp only [hall 0 (by decide), hall 1 (by decide), hall 2 (by decide), hall 3 (by decide), hall 4 (by decide), hall 5 (by decide), hall 6 (by decide), hall 7 (by decide), cond_true]
    clear hall
    have K5 := Lib.hid (K3.out.keep hBz)
    have B5 := Lib.hid (B3.out.trans (hBz.mono S3.out))
    have S5 := Lib.hid (Nat.le_trans S3.out hBz.size)
    clear hBz K3 B3 S3
    have hmk := HMk.out w9
    obtain ⟨W6, hW6⟩ : ∃ W6, W6 = w9.alloc (.cells mc 5) := ⟨_, rfl⟩
    have b6 : Below w9.heap.size w9 W6 := by rw [hW6]; exact (Below.refl _ _).alloc (Nat.le_refl _) _
    have K6 := Lib.hid (K5.out.keep b6)
    have B6 := Lib.hid (B5.out.trans (b6.mono S5.out))
    have S6 := Lib.hid (Nat.le_trans S5.out b6.size)
    rw [← hW6] at hmk
    clear hW6 b6
    go_wp2_with fail
    refine (HHn.out _ _).mono ?_
    rintro e w7 ⟨rfl, hb7⟩
    have K7 := K6.out.keep hb7
    have B7 := B6.out.trans (hb7.mono S6.out)
    have S7 := Nat.le_trans S6.out hb7.size
    obtain ⟨m7, hm7⟩ : ∃ m7, m7 = w7.heap.size := ⟨_, rfl⟩
    obtain ⟨W8, hW8⟩ : ∃ W8, W8 = (w7.alloc (.cells z16 23)).setCells m7 0 (kl 0 0) := ⟨_, rfl⟩
    have T7 : Hid ((w7.alloc (.cells z16 23)).there m7 0 16) := Lib.hid (by rw [hm7]; exact (Row.zeros w7 23).there)
    have b8 : Below w7.heap.size w7 W8 := by rw [hW8, hm7]; exact below_setCells _ _ _ _ ((Below.refl _ _).alloc (Nat.le_refl _) _) (Nat.le_refl _)
    have K8 := Lib.hid (K7.keep b8)
    have B8 := Lib.hid (B7.trans (b8.mono S7))
    have S8 := Lib.hid (Nat.le_trans S7 b8.size)
    have HW8 := Lib.hid hW8
    have HM7 := Lib.hid hm7
    clear hmk hb7 K7 B7 S7 b8 hW8 hm7 K6 B6 S6 K5 B5 S5
    go_wp2_with ((refine wpList_store_key rfl _ _ rfl w7.heap.size 0 0 rfl rfl (by rw [← HM7.out]; exact T7.out) ?_); rw [← HM7.out, ← HW8.out])
    obtain ⟨g9, hg9⟩ : ∃ g9, g9 = w9.heap.size := ⟨_, rfl⟩
    rw [← hg9]
    clear hg9
    refine wp_region_inv (by kernel_rfl) (by kernel_rfl) (fun l a w' => ∃ gc : Nat, ∃ hb : Nat, a = { tmps := #[Value.bool false, Value.pointer (some ⟨N, 0, none⟩), Value.pointer (some ⟨N + 1, 0, none⟩), Value.pointer (some ⟨N + 1 + 1, 0, none⟩), Value.bool true, Value.slice A3 0 c3, Value.int .i64 (0 : Int), Value.slice none 0 0, Value.int .i64 (4 : Int), Value.pointer (some ⟨m7, 0, none⟩), Value.int .i64 (4 : Int), bif l 6 then Value.pointer (some ⟨hb, 0, none⟩) else undef, bif l 8 then Value.int .i64 4 else undef, undef, undef, undef, undef, Value.tuple #[Value.agg (kl kX kY).toArray, Value.agg (kl bX bY).toArray, Value.agg (kl cX cY).toArray, Value.bool true], Value.tuple #[Value.agg (kl kX kY).toArray, Value.agg (kl bX bY).toArray, Value.agg (kl cX cY).toArray, Value.bool true], Value.agg (kl kX kY).toArray, Value.agg (kl bX bY).toArray, Value.agg (kl cX cY).toArray, Value.bool true, Value.tuple #[Value.slice A3 0 c3, Value.int IntKind.i64 0], Value.agg (kl kX kY).toArray, Value.tuple #[Value.slice A3 0 c3, Value.int IntKind.i64 0], Value.slice A3 0 c3, Value.int .i64 (0 : Int), Value.tuple #[Value.slice none 0 0, Value.int IntKind.i64 4], Value.agg (kl kX kY).toArray, Value.slice (some ⟨gb, 0, none⟩) 16385 16385, Value.tuple #[Value.slice none 0 0, Value.int IntKind.i64 4], Value.slice none 0 0, Value.int .i64 (4 : Int), Value.tuple #[Value.agg (kl 0 0).toArray, Value.int IntKind.i64 4], Value.slice (some ⟨g9, 0, none⟩) 16385 16385, Value.tuple #[Value.agg (kl 0 0).toArray, Value.int IntKind.i64 4], Value.agg (kl 0 0).toArray, Value.int .i64 (4 : Int), bif l 3 then Value.tuple #[Value.agg (kl 0 0).toArray, Value.int .i64 4] else undef, bif l 0 then Value.agg (kl kX kY).toArray else undef, bif l 1 then Value.slice (some ⟨gc, 0, none⟩) 16385 16385 else undef, bif l 2 then Value.tuple #[Value.agg (kl 0 0).toArray, Value.int .i64 4] else undef, bif l 4 then Value.agg (kl 0 0).toArray else undef, bif l 5 then Value.int .i64 4 else undef, undef, undef, undef, undef, undef, undef, undef, undef, undef, undef, undef, undef, undef, undef, undef, undef, undef, undef, undef, undef, undef, undef, undef, undef, undef, undef, undef, undef, undef, undef, undef, undef, undef, undef, undef, undef, undef, undef, undef, undef, undef, undef, undef, undef, undef, undef, undef, undef, undef, undef, undef, undef, undef, undef, undef, undef, undef, undef, undef, undef, undef, undef, undef, undef, undef, undef, undef, undef, undef, undef, undef, undef, undef, undef, undef, undef, undef], defers := [] } ∧ Below W8.heap.size W8 w' ∧ (l 6 = true → w'.there hb 0 16 ∧ W8.heap.size ≤ hb)) ⟨0, 0, rfl, (Below.refl _ _).drew, (fun h => by cases h)⟩ ?_ ?_
    · rintro l a w' i ⟨gc, hb, rfl, hB, hf0⟩ hi hli hpre
      have hi2 : i < 9 := hi
      have hcase : i = 0 ∨ i = 1 ∨ i = 2 ∨ i = 3 ∨ i = 4 ∨ i = 5 ∨ i = 6 ∨ i = 7 ∨ i = 8 := by omega
      clear hi hi2
      rcases hcase with rfl | rfl | rfl | rfl | rfl | rfl | rfl | rfl | rfl
      · -- 0: Op.load 23 (Operand.tmp 1)
        refine wpOp_step rfl (fun K hK => ?_)
        clear hpre
        rw [if_pos (by rfl)]
        refine wp_load_mid 23 _ rfl _ 0 rfl (kl kX kY) _ ((K8.out).below hB (K8.out).lt) Try.underlying23 rfl (by rw [kl_len]; exact size23) ?_
        exact hK _ _ ⟨gc, hb, by simp [upd, Act.put], hB, (fun e => hf0 (by simpa [upd] using e))⟩
      · -- 1: Op.makeSlice 26 (Operand.const (Value.int IntKind.i64 16385)
        refine wpOp_step rfl (fun K hK => ?_)
        clear hpre
        rw [if_pos (by rfl)]
        have hA : Below w'.heap.size w' (w'.alloc (.cells mc 5)) := (Below.refl _ _).alloc (Nat.le_refl _) _
        have z1 := HMk.out w'
        go_simp
        exact hK _ _ ⟨w'.heap.size, hb, by simp [upd, Act.put], hB.trans (hA.mono hB.size), (fun e => ⟨there_below ((hf0 (by simpa [upd] using e))).1 hA (there_lt ((hf0 (by simpa [upd] using e))).1 (by omega)), ((hf0 (by simpa [upd] using e))).2⟩)⟩
      · -- 2: Op.call { callee := Callee.value (Operand.func 22), args := 
        have p0 : l 0 = true := hpre _ rfl ⟨0, .data⟩ (by simp) rfl
        have p1 : l 1 = true := hpre _ rfl ⟨1, .data⟩ (by simp) rfl
        refine wpOp_step rfl (fun K hK => ?_)
        simp only [p0, p1, cond_true, cond_false]
        clear hpre
        rw [if_pos (by rfl)]
        go_simp
        refine (HMn.out gc _).mono ?_
        rintro e w5 ⟨rfl, hb5⟩
        exact hK _ _ ⟨gc, hb, by simp [upd, Act.put, p0, p1], hB.trans (hb5.mono hB.size), (fun e => ⟨there_below ((hf0 (by simpa [upd] using e))).1 hb5 (there_lt ((hf0 (by simpa [upd] using e))).1 (by omega)), ((hf0 (by simpa [upd] using e))).2⟩)⟩
      · -- 3: Op.move (Operand.tmp 42)
        have p2 : l 2 = true := hpre _ rfl ⟨2, .data⟩ (by simp) rfl
        refine wpOp_step rfl (fun K hK => ?_)
        simp only [p2, cond_true, cond_false]
        clear hpre
        rw [if_pos (by rfl)]
        go_simp
        exact hK _ _ ⟨gc, hb, by simp [upd, Act.put, p2], hB, (fun e => hf0 (by simpa [upd] using e))⟩
      · -- 4: Op.extract (Operand.tmp 39) 0
        have p3 : l 3 = true := hpre _ rfl ⟨3, .data⟩ (by simp) rfl
        refine wpOp_step rfl (fun K hK => ?_)
        simp only [p3, cond_true, cond_false]
        clear hpre
        rw [if_pos (by rfl)]
        go_simp
        exact hK _ _ ⟨gc, hb, by simp [upd, Act.put, p3], hB, (fun e => hf0 (by simpa [upd] using e))⟩
      · -- 5: Op.extract (Operand.tmp 39) 1
        have p3 : l 3 = true := hpre _ rfl ⟨3, .data⟩ (by simp) rfl
        refine wpOp_step rfl (fun K hK => ?_)
        simp only [p3, cond_true, cond_false]
        clear hpre
        rw [if_pos (by rfl)]
        go_simp
        exact hK _ _ ⟨gc, hb, by simp [upd, Act.put, p3], hB, (fun e => hf0 (by simpa [upd] using e))⟩
      · -- 6: Op.alloc 23
        refine wpOp_step rfl (fun K hK => ?_)
        clear hpre
        rw [if_pos (by rfl)]
        have hA : Below w'.heap.size w' (w'.alloc (.cells z16 23)) := (Below.refl _ _).alloc (Nat.le_refl _) _
        go_simp
        exact hK _ _ ⟨gc, w'.heap.size, by simp [upd, Act.put], hB.trans (hA.mono hB.size), (fun _ => ⟨(Row.zeros w' 23).there, hB.size⟩)⟩
      · -- 7: Op.store 23 (Operand.tmp 11) (Operand.tmp 43)
        have p6 : l 6 = true := hpre _ rfl ⟨6, .data⟩ (by simp) rfl
        have p4 : l 4 = true := hpre _ rfl ⟨4, .data⟩ (by simp) rfl
        have p2 : l 2 = true := hpre _ rfl ⟨2, .chain⟩ (by simp) rfl
        have p0 : l 0 = true := hpre _ rfl ⟨0, .phase⟩ (by simp) rfl
        have p1 : l 1 = true := hpre _ rfl ⟨1, .phase⟩ (by simp) rfl
        have p3 : l 3 = true := hpre _ rfl ⟨3, .phase⟩ (by simp) rfl
        refine wpOp_step rfl (fun K hK => ?_)
        simp only [p6, p4, p2, p0, p1, p3, cond_true, cond_false]
        clear hpre
        rw [if_pos (by rfl)]
        obtain ⟨x1, x2⟩ := hf0 p6
        refine wp_store_mid 23 _ _ rfl hb 0 (kl 0 0).toArray rfl rfl (by simpa [kl_len] using x1) (by simp [kl_len, size23]) (kl_arr 0 0) ?_
        rw [List.toList_toArray]
        exact hK _ _ ⟨gc, hb, by simp [upd, Act.put, p6, p4, p2, p0, p1, p3], below_setCells _ _ _ _ hB x2, (fun _ => ⟨World.there_setCells x1 _ _ _, x2⟩)⟩
      · -- 8: Op.assign (Operand.tmp 44)
        have p5 : l 5 = true := hpre _ rfl ⟨5, .data⟩ (by simp) rfl
        have p7 : l 7 = true := hpre _ rfl ⟨7, .chain⟩ (by simp) rfl
        have p0 : l 0 = true := hpre _ rfl ⟨0, .phase⟩ (by simp) rfl
        have p1 : l 1 = true := hpre _ rfl ⟨1, .phase⟩ (by simp) rfl
        have p2 : l 2 = true := hpre _ rfl ⟨2, .phase⟩ (by simp) rfl
        have p3 : l 3 = true := hpre _ rfl ⟨3, .phase⟩ (by simp) rfl
        have p4 : l 4 = true := hpre _ rfl ⟨4, .phase⟩ (by simp) rfl
        have p6 : l 6 = true := hpre _ rfl ⟨6, .phase⟩ (by simp) rfl
        refine wpOp_step rfl (fun K hK => ?_)
        simp only [p5, p7, p0, p1, p2, p3, p4, p6, cond_true, cond_false]
        clear hpre
        rw [if_pos (by rfl)]
        go_simp
        exact hK _ _ ⟨gc, hb, by simp [upd, Act.put, p5, p7, p0, p1, p2, p3, p4, p6], hB, (fun e => hf0 (by simpa [upd] using e))⟩
    · rintro l a w9 hall ⟨gc, hb, rfl, hBz, hf0⟩
      simp only [hall 0 (by decide), hall 1 (by decide), hall 2 (by decide), hall 3 (by decide), hall 4 (by decide), hall 5 (by decide), hall 6 (by decide), hall 8 (by decide), cond_true]
      clear hall
      have K10 := Lib.hid (K8.out.keep hBz)
      have B10 := Lib.hid (B8.out.trans (hBz.mono S8.out))
      have S10 := Lib.hid (Nat.le_trans S8.out hBz.size)
      clear hBz hf0 K8 B8 S8 HW8 HM7 T7
      go_wp2_with fail
      refine (HAl.out _).mono ?_
      rintro e w11 ⟨rfl, hb11⟩
      have K11 := Lib.hid (K10.out.keep hb11)
      have B11 := Lib.hid (B10.out.trans (hb11.mono S10.out))
      have S11 := Lib.hid (Nat.le_trans S10.out hb11.size)
      obtain ⟨sb, hsb⟩ : ∃ sb, sb = w11.heap.size := ⟨_, rfl⟩
      obtain ⟨W12, hW12⟩ : ∃ W12, W12 = (w11.alloc (.cells z16 23)).alloc (.cells z16 23) := ⟨_, rfl⟩
      have R12 : Hid (Row W12 sb (fun _ => 0)) := Lib.hid (by rw [hW12, hsb]; exact (Row.zeros w11 23).keep ((Below.refl _ _).alloc (Nat.le_refl _) _))
      have Q12 : Hid (Row W12 (sb + 1) (fun _ => 0)) := Lib.hid (by
        have h := Row.zeros (w11.alloc (.cells z16 23)) 23
        rw [World.size_alloc] at h
        rw [hW12, hsb]; exact h)
      have b12 : Below sb w11 W12 := by rw [hW12, hsb]; exact ((Below.refl _ _).alloc (Nat.le_refl _) _).alloc (by simp) _
      have K12 := Lib.hid (K11.out.below b12 (by rw [hsb]; exact K11.out.lt))
      have B12 := Lib.hid (B11.out.trans (b12.mono (by rw [hsb]; exact S11.out)))
      have S12 : Hid (N < sb ∧ w.heap.size ≤ sb ∧ W12.heap.size = sb + 2) := Lib.hid ⟨by rw [hsb]; exact K11.out.lt, by rw [hsb]; exact S11.out, by rw [hW12, hsb]; simp⟩
      have HW12 := Lib.hid hW12
      have HSB := Lib.hid hsb
      clear hb11 hsb hW12 b12 K10 B10 S10 K11 B11 S11
      go_wp2_with fail
      rw [← HSB.out, ← HW12.out]
      go_loopw [15] (fun i wr => ∃ (k : Nat) (f : Nat → Nat), k ≤ 16 ∧ i = .int .i64 (k : Int) ∧ Hid (Below sb W12 wr) ∧ Hid (Row wr (sb + 1) (fun _ => 0)) ∧ Hid (Row wr sb f ∧ ∀ j, j < k → f j = 90)) (fun i _ => 16 - (intOf i).toNat)
      case atStart => exact ⟨0, _, by omega, rfl, Lib.hid (Below.refl _ _), Q12, Lib.hid ⟨R12.out, fun j hj => by omega⟩⟩
      case round =>
        obtain ⟨k, f, hk, rfl, HBr, HQr, HI⟩ := hrel
        by_cases hlt : k < 16
        · have t1 : decide ((k : Int) < 16) = true := decide_eq_true (by omega)
          have t2 : decide (k < 16) = true := decide_eq_true hlt
          have c1 := HI.out.1.cell k hlt
          have f1 := HI.out.1.fr k hlt
          have l1 : (0 : Int) ≤ (k : Int) := by omega
          have l2 : (k : Int) < 16 := by omega
          go_wp2_with fail
          go_roundw
          case rel =>
            refine ⟨k + 1, _, by omega, by go_num, Lib.hid (HBr.out.setCell (p := ⟨sb, k, none⟩) (Nat.le_refl _) _), Lib.hid (HQr.out.other k _ (by omega)), Lib.hid ⟨HI.out.1.set k 90 hlt, fun j hj => ?_⟩⟩
            by_cases e : j = k
            · rw [if_pos e]
            · rw [if_neg e]; exact HI.out.2 j (by omega)
          case measure => simp [intOf]; omega
        · obtain rfl : k = 16 := by omega
          have t1 : decide (((16 : Nat) : Int) < 16) = false := by decide
          have c0 := HQr.out.cell 0 (by omega)
          have f0 := HQr.out.fr 0 (by omega)
          obtain ⟨W13, hW13⟩ : ∃ W13, W13 = wr.setCell ⟨sb + 1, 0, none⟩ (.int .u8 128) := ⟨_, rfl⟩
          have KS : Hid (KeyAt W13 sb S5a S5a) := Lib.hid (by rw [hW13]; exact ((HI.out.1.key fun j hj => by rw [HI.out.2 j hj, kby_5a j hj])).setCell _ _ (by show sb + 1 ≠ sb; omega))
          have KO : Hid (KeyAt W13 (sb + 1) 9223372036854775808 0) := Lib.hid (by rw [hW13]; exact (HQr.out.set 0 128 (by omega)).key fun j hj => kby_one j hj)
          have b13 : Below sb W12 W13 := by rw [hW13]; exact HBr.out.setCell (p := ⟨sb + 1, 0, none⟩) (by show sb ≤ sb + 1; omega) _
          have K13 : Hid (KeyAt W13 N kX kY) := Lib.hid (K12.out.below b13 S12.out.1)
          have B13 := Lib.hid (B12.out.trans (b13.mono S12.out.2.1))
          have S13 : Hid (w.heap.size ≤ W13.heap.size) := Lib.hid (by have := b13.size; have := S12.out; omega)
          have HW13 := Lib.hid hW13
          clear hW13 b13 HI HBr HQr hlt R12 Q12 K12 B12
          go_wp2_with fail
          rw [← HW13.out]
          refine (HH.out _).mono ?_
          rintro e w15 ⟨rfl, hb15⟩
          obtain ⟨m15, hm15⟩ : ∃ m15, m15 = w15.heap.size := ⟨_, rfl⟩
          obtain ⟨W16, hW16⟩ : ∃ W16, W16 = (w15.alloc (.cells z16 23)).setCells m15 0 (kl P Q) := ⟨_, rfl⟩
          have T15 : Hid ((w15.alloc (.cells z16 23)).there m15 0 16) := Lib.hid (by rw [hm15]; exact (Row.zeros w15 23).there)
          have b16 : Below w15.heap.size w15 W16 := by rw [hW16, hm15]; exact below_setCells _ _ _ _ ((Below.refl _ _).alloc (Nat.le_refl _) _) (Nat.le_refl _)
          have b1316 := hb15.trans (b16.mono hb15.size)
          have KD : Hid (KeyAt W16 m15 P Q) := Lib.hid (by rw [hW16]; exact KeyAt.stored T15.out P Q)
          have KS16 := Lib.hid (KS.out.keep b1316)
          have KO16 := Lib.hid (KO.out.keep b1316)
          have K16 := Lib.hid (K13.out.keep b1316)
          have B16 := Lib.hid (B13.out.trans (b1316.mono S13.out))
          have S16 := Lib.hid (Nat.le_trans S13.out b1316.size)
          have HW16 := Lib.hid hW16
          have HM15 := Lib.hid hm15
          clear hb15 hm15 hW16 b16 b1316 KS KO K13 B13 S13 HW13
          go_wp2_with ((refine wpList_store_key rfl _ _ rfl w15.heap.size P Q rfl rfl (by rw [← HM15.out]; exact T15.out) ?_); rw [← HM15.out, ← HW16.out])
          refine (HPa.out _).mono ?_
          rintro e w17 ⟨rfl, hb17⟩
          have KD17 := Lib.hid (KD.out.keep hb17)
          have KS17 := Lib.hid (KS16.out.keep hb17)
          have KO17 := Lib.hid (KO16.out.keep hb17)
          have K17 := Lib.hid (K16.out.keep hb17)
          have B17 := Lib.hid (B16.out.trans (hb17.mono S16.out))
          have S17 := Lib.hid (Nat.le_trans S16.out hb17.size)
          clear hb17 KD KS16 KO16 K16 B16 S16
          go_wp2_with fail
          refine (HPb.out _).mono ?_
          rintro e w19 ⟨rfl, hb19⟩
          have KD19 := Lib.hid (KD17.out.keep hb19)
          have KS19 := Lib.hid (KS17.out.keep hb19)
          have KO19 := Lib.hid (KO17.out.keep hb19)
          have K19 := Lib.hid (K17.out.keep hb19)
          have B19 := Lib.hid (B17.out.trans (hb19.mono S17.out))
          have S19 := Lib.hid (Nat.le_trans S17.out hb19.size)
          clear hb19 KD17 KS17 KO17 K17 B17 S17
          go_wp2_with fail
          refine wp_region_inv (by kernel_rfl) (by kernel_rfl) (fun l a w' => a = { tmps := #[bif l 29 then Value.bool true else Value.bool false, Value.pointer (some ⟨N, 0, none⟩), Value.pointer (some ⟨N + 1, 0, none⟩), Value.pointer (some ⟨N + 1 + 1, 0, none⟩), Value.bool true, Value.slice A3 0 c3, Value.int .i64 (0 : Int), Value.slice none 0 0, Value.int .i64 (12 : Int), Value.pointer (some ⟨m7, 0, none⟩), Value.int .i64 (12 : Int), Value.pointer (some ⟨hb, 0, none⟩), Value.int .i64 (4 : Int), Value.pointer (some ⟨sb, 0, none⟩), Value.pointer (some ⟨sb + 1, 0, none⟩), Value.int .i64 (16 : Int), Value.pointer (some ⟨m15, 0, none⟩), Value.tuple #[Value.agg (kl kX kY).toArray, Value.agg (kl bX bY).toArray, Value.agg (kl cX cY).toArray, Value.bool true], Value.tuple #[Value.agg (kl kX kY).toArray, Value.agg (kl bX bY).toArray, Value.agg (kl cX cY).toArray, Value.bool true], Value.agg (kl kX kY).toArray, Value.agg (kl bX bY).toArray, Value.agg (kl cX cY).toArray, Value.bool true, Value.tuple #[Value.slice A3 0 c3, Value.int IntKind.i64 0], Value.agg (kl kX kY).toArray, Value.tuple #[Value.slice A3 0 c3, Value.int IntKind.i64 0], Value.slice A3 0 c3, Value.int .i64 (0 : Int), Value.tuple #[Value.slice none 0 0, Value.int IntKind.i64 4], Value.agg (kl kX kY).toArray, Value.slice (some ⟨gb, 0, none⟩) 16385 16385, Value.tuple #[Value.slice none 0 0, Value.int IntKind.i64 4], Value.slice none 0 0, Value.int .i64 (4 : Int), Value.tuple #[Value.agg (kl 0 0).toArray, Value.int IntKind.i64 4], Value.slice (some ⟨g9, 0, none⟩) 16385 16385, Value.tuple #[Value.agg (kl 0 0).toArray, Value.int IntKind.i64 4], Value.agg (kl 0 0).toArray, Value.int .i64 (4 : Int), Value.tuple #[Value.agg (kl 0 0).toArray, Value.int IntKind.i64 4], Value.agg (kl kX kY).toArray, Value.slice (some ⟨gc, 0, none⟩) 16385 16385, Value.tuple #[Value.agg (kl 0 0).toArray, Value.int IntKind.i64 4], Value.agg (kl 0 0).toArray, Value.int .i64 (4 : Int), Value.bool false, Value.bool true, Value.bool false, Value.bool false, Value.bool false, Value.bool true, Value.bool false, Value.bool false, Value.bool false, Value.int .i64 (0 : Int), Value.bool false, Value.bool false, Value.bool false, Value.slice A3 0 c3, Value.int .i64 (0 : Int), Value.bool false, Value.bool false, Value.bool false, Value.int .i64 (4 : Int), Value.bool false, Value.bool false, Value.bool false, Value.int .i64 (4 : Int), Value.bool false, Value.bool false, Value.bool false, Value.int .i64 (4 : Int), Value.bool false, Value.bool false, Value.int .i64 (16 : Int), Value.bool false, u76, u77, u78, u79, Value.pointer (some ⟨sb + 1, 0, none⟩), Value.tuple #[Value.agg (kl P Q).toArray, Value.int IntKind.i64 0], Value.tuple #[Value.agg (kl P Q).toArray, Value.int IntKind.i64 0], Value.agg (kl P Q).toArray, Value.int .i64 (0 : Int), Value.tuple #[Value.agg (kl 0 0).toArray, Value.int IntKind.i64 12], Value.tuple #[Value.agg (kl 0 0).toArray, Value.int IntKind.i64 12], Value.agg (kl 0 0).toArray, Value.int .i64 (12 : Int), Value.tuple #[Value.agg (kl 0 0).toArray, Value.int IntKind.i64 12], Value.tuple #[Value.agg (kl 0 0).toArray, Value.int IntKind.i64 12], Value.agg (kl 0 0).toArray, Value.int .i64 (12 : Int), bif l 0 then Value.agg (kl kX kY).toArray else undef, bif l 1 then Value.int .u64 0 else undef, bif l 2 then Value.bool true else undef, bif l 3 then Value.bool true else undef, bif l 4 then Value.agg (kl kX kY).toArray else undef, bif l 5 then Value.int .u64 0 else undef, bif l 6 then Value.bool true else undef, bif l 7 then Value.bool true else undef, bif l 8 then Value.bool true else undef, bif l 9 then Value.int .i64 (0 : Int) else undef, bif l 10 then Value.bool true else undef, bif l 11 then Value.bool true else undef, bif l 12 then Value.bool true else undef, bif l 13 then Value.agg (kl P Q).toArray else undef, bif l 14 then Value.agg (kl 9223372036854775808 0).toArray else undef, bif l 15 then Value.agg (kl S5a S5a).toArray else undef, bif l 16 then Value.agg (kl U0 V0).toArray else undef, bif l 17 then Value.agg (kl S5a S5a).toArray else undef, bif l 18 then Value.agg (kl P Q).toArray else undef, bif l 19 then Value.bool true else undef, bif l 20 then Value.bool true else undef, bif l 21 then Value.bool true else undef, bif l 22 then Value.int .i64 (12 : Int) else undef, bif l 23 then Value.bool true else undef, bif l 24 then Value.bool true else undef, bif l 25 then Value.bool true else undef, bif l 26 then Value.int .i64 (12 : Int) else undef, bif l 27 then Value.bool true else undef, bif l 28 then Value.bool true else undef], defers := [] } ∧ Below w19.heap.size w19 w') ⟨rfl, (Below.refl _ _).drew⟩ ?_ ?_
          · rintro l a w' i ⟨rfl, hB⟩ hi hli hpre
            have hi2 : i < 30 := hi
            have hcase : i = 0 ∨ i = 1 ∨ i = 2 ∨ i = 3 ∨ i = 4 ∨ i = 5 ∨ i = 6 ∨ i = 7 ∨ i = 8 ∨ i = 9 ∨ i = 10 ∨ i = 11 ∨ i = 12 ∨ i = 13 ∨ i = 14 ∨ i = 15 ∨ i = 16 ∨ i = 17 ∨ i = 18 ∨ i = 19 ∨ i = 20 ∨ i = 21 ∨ i = 22 ∨ i = 23 ∨ i = 24 ∨ i = 25 ∨ i = 26 ∨ i = 27 ∨ i = 28 ∨ i = 29 := by omega
            clear hi hi2
            rcases hcase with rfl | rfl | rfl | rfl | rfl | rfl | rfl | rfl | rfl | rfl | rfl | rfl | rfl | rfl | rfl | rfl | rfl | rfl | rfl | rfl | rfl | rfl | rfl | rfl | rfl | rfl | rfl | rfl | rfl | rfl
            · -- 0: Op.load 23 (Operand.tmp 1)
              refine wpOp_step rfl (fun K hK => ?_)
              clear hpre
              rw [if_pos (by rfl)]
              refine wp_load_mid 23 _ rfl _ 0 rfl (kl kX kY) _ ((K19.out).below hB (K19.out).lt) Try.underlying23 rfl (by rw [kl_len]; exact size23) ?_
              exact hK _ _ ⟨by simp [upd, Act.put], hB⟩
            · -- 1: Op.call { callee := Callee.value (Operand.func 25), args := 
              have p0 : l 0 = true := hpre _ rfl ⟨0, .data⟩ (by simp) rfl
              refine wpOp_step rfl (fun K hK => ?_)
              simp only [p0, cond_true]
              clear hpre
              rw [if_pos (by rfl)]
              go_simp
              refine (HN0.out _).mono ?_
              rintro e w5 ⟨rfl, hb5⟩
              exact hK _ _ ⟨by simp [upd, Act.put, p0], hB.trans (hb5.mono hB.size)⟩
            · -- 2: Op.binOp BinOp.eql 30 (Operand.tmp 94) (Operand.const (Value
              have p1 : l 1 = true := hpre _ rfl ⟨1, .data⟩ (by simp) rfl
              refine wpOp_step rfl (fun K hK => ?_)
              simp only [p1, cond_true]
              clear hpre
              rw [if_pos (by rfl)]
              go_simp
              exact hK _ _ ⟨by simp [upd, Act.put, p1], hB⟩
            · -- 3: Op.move (Operand.tmp 95)
              have p2 : l 2 = true := hpre _ rfl ⟨2, .data⟩ (by simp) rfl
              have p1 : l 1 = true := hpre _ rfl ⟨1, .chain⟩ (by simp) rfl
              refine wpOp_step rfl (fun K hK => ?_)
              simp only [p2, p1, cond_true]
              clear hpre
              rw [if_pos (by rfl)]
              go_simp
              exact hK _ _ ⟨by simp [upd, Act.put, p2, p1], hB⟩
            · -- 4: Op.load 23 (Operand.tmp 1)
              have p3 : l 3 = true := hpre _ rfl ⟨3, .guard⟩ (by simp) rfl
              refine wpOp_step rfl (fun K hK => ?_)
              simp only [p3, cond_true]
              clear hpre
              rw [if_pos (by rfl)]
              refine wp_load_mid 23 _ rfl _ 0 rfl (kl kX kY) _ ((K19.out).below hB (K19.out).lt) Try.underlying23 rfl (by rw [kl_len]; exact size23) ?_
              exact hK _ _ ⟨by simp [upd, Act.put, p3], hB⟩
            · -- 5: Op.call { callee := Callee.value (Operand.func 25), args := 
              have p4 : l 4 = true := hpre _ rfl ⟨4, .data⟩ (by simp) rfl
              have p3 : l 3 = true := hpre _ rfl ⟨3, .chain⟩ (by simp) rfl
              refine wpOp_step rfl (fun K hK => ?_)
              simp only [p4, p3, cond_true]
              clear hpre
              rw [if_pos (by rfl)]
              go_simp
              refine (HN1.out _).mono ?_
              rintro e w5 ⟨rfl, hb5⟩
              exact hK _ _ ⟨by simp [upd, Act.put, p4, p3], hB.trans (hb5.mono hB.size)⟩
            · -- 6: Op.binOp BinOp.eql 30 (Operand.tmp 98) (Operand.const (Value
              have p5 : l 5 = true := hpre _ rfl ⟨5, .data⟩ (by simp) rfl
              have p3 : l 3 = true := hpre _ rfl ⟨3, .guard⟩ (by simp) rfl
              refine wpOp_step rfl (fun K hK => ?_)
              simp only [p5, p3, cond_true]
              clear hpre
              rw [if_pos (by rfl)]
              go_simp
              exact hK _ _ ⟨by simp [upd, Act.put, p5, p3], hB⟩
            · -- 7: Op.pick (Operand.tmp 96) (Operand.tmp 99) (Operand.const (Va
              have p3 : l 3 = true := hpre _ rfl ⟨3, .data⟩ (by simp) rfl
              have p6 : l 6 = true := hpre _ rfl ⟨6, .data⟩ (by simp) rfl
              refine wpOp_step rfl (fun K hK => ?_)
              simp only [p3, p6, cond_true]
              clear hpre
              rw [if_pos (by rfl)]
              go_simp
              exact hK _ _ ⟨by simp [upd, Act.put, p3, p6], hB⟩
            · -- 8: Op.move (Operand.tmp 100)
              have p7 : l 7 = true := hpre _ rfl ⟨7, .data⟩ (by simp) rfl
              have p5 : l 5 = true := hpre _ rfl ⟨5, .chain⟩ (by simp) rfl
              refine wpOp_step rfl (fun K hK => ?_)
              simp only [p7, p5, cond_true]
              clear hpre
              rw [if_pos (by rfl)]
              go_simp
              exact hK _ _ ⟨by simp [upd, Act.put, p7, p5], hB⟩
            · -- 9: Op.move (Operand.tmp 6)
              have p8 : l 8 = true := hpre _ rfl ⟨8, .guard⟩ (by simp) rfl
              refine wpOp_step rfl (fun K hK => ?_)
              simp only [p8, cond_true]
              clear hpre
              rw [if_pos (by rfl)]
              go_simp
              exact hK _ _ ⟨by simp [upd, Act.put, p8], hB⟩
            · -- 10: Op.binOp BinOp.eql 27 (Operand.tmp 102) (Operand.const (Valu
              have p9 : l 9 = true := hpre _ rfl ⟨9, .data⟩ (by simp) rfl
              have p8 : l 8 = true := hpre _ rfl ⟨8, .guard⟩ (by simp) rfl
              refine wpOp_step rfl (fun K hK => ?_)
              simp only [p9, p8, cond_true]
              clear hpre
              rw [if_pos (by rfl)]
              go_simp
              exact hK _ _ ⟨by simp [upd, Act.put, p9, p8], hB⟩
            · -- 11: Op.pick (Operand.tmp 101) (Operand.tmp 103) (Operand.const (
              have p8 : l 8 = true := hpre _ rfl ⟨8, .data⟩ (by simp) rfl
              have p10 : l 10 = true := hpre _ rfl ⟨10, .data⟩ (by simp) rfl
              refine wpOp_step rfl (fun K hK => ?_)
              simp only [p8, p10, cond_true]
              clear hpre
              rw [if_pos (by rfl)]
              go_simp
              exact hK _ _ ⟨by simp [upd, Act.put, p8, p10], hB⟩
            · -- 12: Op.move (Operand.tmp 104)
              have p11 : l 11 = true := hpre _ rfl ⟨11, .data⟩ (by simp) rfl
              have p8 : l 8 = true := hpre _ rfl ⟨8, .chain⟩ (by simp) rfl
              refine wpOp_step rfl (fun K hK => ?_)
              simp only [p11, p8, cond_true]
              clear hpre
              rw [if_pos (by rfl)]
              go_simp
              exact hK _ _ ⟨by simp [upd, Act.put, p11, p8], hB⟩
            · -- 13: Op.load 23 (Operand.tmp 16)
              have p12 : l 12 = true := hpre _ rfl ⟨12, .guard⟩ (by simp) rfl
              refine wpOp_step rfl (fun K hK => ?_)
              simp only [p12, cond_true]
              clear hpre
              rw [if_pos (by rfl)]
              refine wp_load_mid 23 _ rfl _ 0 rfl (kl P Q) _ ((KD19.out).below hB (KD19.out).lt) Try.underlying23 rfl (by rw [kl_len]; exact size23) ?_
              exact hK _ _ ⟨by simp [upd, Act.put, p12], hB⟩
            · -- 14: Op.load 23 (Operand.tmp 14)
              have p12 : l 12 = true := hpre _ rfl ⟨12, .guard⟩ (by simp) rfl
              refine wpOp_step rfl (fun K hK => ?_)
              simp only [p12, cond_true]
              clear hpre
              rw [if_pos (by rfl)]
              refine wp_load_mid 23 _ rfl _ 0 rfl (kl 9223372036854775808 0) _ ((KO19.out).below hB (KO19.out).lt) Try.underlying23 rfl (by rw [kl_len]; exact size23) ?_
              exact hK _ _ ⟨by simp [upd, Act.put, p12], hB⟩
            · -- 15: Op.load 23 (Operand.tmp 13)
              have p12 : l 12 = true := hpre _ rfl ⟨12, .guard⟩ (by simp) rfl
              refine wpOp_step rfl (fun K hK => ?_)
              simp only [p12, cond_true]
              clear hpre
              rw [if_pos (by rfl)]
              refine wp_load_mid 23 _ rfl _ 0 rfl (kl S5a S5a) _ ((KS19.out).below hB (KS19.out).lt) Try.underlying23 rfl (by rw [kl_len]; exact size23) ?_
              exact hK _ _ ⟨by simp [upd, Act.put, p12], hB⟩
            · -- 16: Op.call { callee := Callee.value (Operand.func 27), args := 
              have p14 : l 14 = true := hpre _ rfl ⟨14, .data⟩ (by simp) rfl
              have p15 : l 15 = true := hpre _ rfl ⟨15, .data⟩ (by simp) rfl
              have p12 : l 12 = true := hpre _ rfl ⟨12, .chain⟩ (by simp) rfl
              refine wpOp_step rfl (fun K hK => ?_)
              simp only [p14, p15, p12, cond_true]
              clear hpre
              rw [if_pos (by rfl)]
              go_simp
              refine (HE.out _).mono ?_
              rintro e w5 ⟨rfl, hb5⟩
              exact hK _ _ ⟨by simp [upd, Act.put, p14, p15, p12], hB.trans (hb5.mono hB.size)⟩
            · -- 17: Op.load 23 (Operand.tmp 13)
              have p12 : l 12 = true := hpre _ rfl ⟨12, .guard⟩ (by simp) rfl
              refine wpOp_step rfl (fun K hK => ?_)
              simp only [p12, cond_true]
              clear hpre
              rw [if_pos (by rfl)]
              refine wp_load_mid 23 _ rfl _ 0 rfl (kl S5a S5a) _ ((KS19.out).below hB (KS19.out).lt) Try.underlying23 rfl (by rw [kl_len]; exact size23) ?_
              exact hK _ _ ⟨by simp [upd, Act.put, p12], hB⟩
            · -- 18: Op.call { callee := Callee.value (Operand.func 26), args := 
              have p16 : l 16 = true := hpre _ rfl ⟨16, .data⟩ (by simp) rfl
              have p17 : l 17 = true := hpre _ rfl ⟨17, .data⟩ (by simp) rfl
              have p12 : l 12 = true := hpre _ rfl ⟨12, .guard⟩ (by simp) rfl
              refine wpOp_step rfl (fun K hK => ?_)
              simp only [p16, p17, p12, cond_true]
              clear hpre
              rw [if_pos (by rfl)]
              go_simp
              refine (HX.out _).mono ?_
              rintro e w5 ⟨rfl, hb5⟩
              exact hK _ _ ⟨by simp [upd, Act.put, p16, p17, p12], hB.trans (hb5.mono hB.size)⟩
            · -- 19: Op.binOp BinOp.eql 23 (Operand.tmp 106) (Operand.tmp 111) 23
              have p13 : l 13 = true := hpre _ rfl ⟨13, .data⟩ (by simp) rfl
              have p18 : l 18 = true := hpre _ rfl ⟨18, .data⟩ (by simp) rfl
              have p12 : l 12 = true := hpre _ rfl ⟨12, .guard⟩ (by simp) rfl
              refine wpOp_step rfl (fun K hK => ?_)
              simp only [p13, p18, p12, cond_true]
              clear hpre
              rw [if_pos (by rfl)]
              have q1 := HQ.out
              go_simp
              exact hK _ _ ⟨by simp [upd, Act.put, p13, p18, p12], hB⟩
            · -- 20: Op.pick (Operand.tmp 105) (Operand.tmp 112) (Operand.const (
              have p12 : l 12 = true := hpre _ rfl ⟨12, .data⟩ (by simp) rfl
              have p19 : l 19 = true := hpre _ rfl ⟨19, .data⟩ (by simp) rfl
              refine wpOp_step rfl (fun K hK => ?_)
              simp only [p12, p19, cond_true]
              clear hpre
              rw [if_pos (by rfl)]
              go_simp
              exact hK _ _ ⟨by simp [upd, Act.put, p12, p19], hB⟩
            · -- 21: Op.move (Operand.tmp 113)
              have p20 : l 20 = true := hpre _ rfl ⟨20, .data⟩ (by simp) rfl
              have p18 : l 18 = true := hpre _ rfl ⟨18, .chain⟩ (by simp) rfl
              refine wpOp_step rfl (fun K hK => ?_)
              simp only [p20, p18, cond_true]
              clear hpre
              rw [if_pos (by rfl)]
              go_simp
              exact hK _ _ ⟨by simp [upd, Act.put, p20, p18], hB⟩
            · -- 22: Op.move (Operand.tmp 8)
              have p21 : l 21 = true := hpre _ rfl ⟨21, .guard⟩ (by simp) rfl
              refine wpOp_step rfl (fun K hK => ?_)
              simp only [p21, cond_true]
              clear hpre
              rw [if_pos (by rfl)]
              go_simp
              exact hK _ _ ⟨by simp [upd, Act.put, p21], hB⟩
            · -- 23: Op.binOp BinOp.eql 27 (Operand.tmp 115) (Operand.const (Valu
              have p22 : l 22 = true := hpre _ rfl ⟨22, .data⟩ (by simp) rfl
              have p21 : l 21 = true := hpre _ rfl ⟨21, .guard⟩ (by simp) rfl
              refine wpOp_step rfl (fun K hK => ?_)
              simp only [p22, p21, cond_true]
              clear hpre
              rw [if_pos (by rfl)]
              go_simp
              exact hK _ _ ⟨by simp [upd, Act.put, p22, p21], hB⟩
            · -- 24: Op.pick (Operand.tmp 114) (Operand.tmp 116) (Operand.const (
              have p21 : l 21 = true := hpre _ rfl ⟨21, .data⟩ (by simp) rfl
              have p23 : l 23 = true := hpre _ rfl ⟨23, .data⟩ (by simp) rfl
              refine wpOp_step rfl (fun K hK => ?_)
              simp only [p21, p23, cond_true]
              clear hpre
              rw [if_pos (by rfl)]
              go_simp
              exact hK _ _ ⟨by simp [upd, Act.put, p21, p23], hB⟩
            · -- 25: Op.move (Operand.tmp 117)
              have p24 : l 24 = true := hpre _ rfl ⟨24, .data⟩ (by simp) rfl
              have p21 : l 21 = true := hpre _ rfl ⟨21, .chain⟩ (by simp) rfl
              refine wpOp_step rfl (fun K hK => ?_)
              simp only [p24, p21, cond_true]
              clear hpre
              rw [if_pos (by rfl)]
              go_simp
              exact hK _ _ ⟨by simp [upd, Act.put, p24, p21], hB⟩
            · -- 26: Op.move (Operand.tmp 10)
              have p25 : l 25 = true := hpre _ rfl ⟨25, .guard⟩ (by simp) rfl
              refine wpOp_step rfl (fun K hK => ?_)
              simp only [p25, cond_true]
              clear hpre
              rw [if_pos (by rfl)]
              go_simp
              exact hK _ _ ⟨by simp [upd, Act.put, p25], hB⟩
            · -- 27: Op.binOp BinOp.eql 27 (Operand.tmp 119) (Operand.const (Valu
              have p26 : l 26 = true := hpre _ rfl ⟨26, .data⟩ (by simp) rfl
              have p25 : l 25 = true := hpre _ rfl ⟨25, .guard⟩ (by simp) rfl
              refine wpOp_step rfl (fun K hK => ?_)
              simp only [p26, p25, cond_true]
              clear hpre
              rw [if_pos (by rfl)]
              go_simp
              exact hK _ _ ⟨by simp [upd, Act.put, p26, p25], hB⟩
            · -- 28: Op.pick (Operand.tmp 118) (Operand.tmp 120) (Operand.const (
              have p25 : l 25 = true := hpre _ rfl ⟨25, .data⟩ (by simp) rfl
              have p27 : l 27 = true := hpre _ rfl ⟨27, .data⟩ (by simp) rfl
              refine wpOp_step rfl (fun K hK => ?_)
              simp only [p25, p27, cond_true]
              clear hpre
              rw [if_pos (by rfl)]
              go_simp
              exact hK _ _ ⟨by simp [upd, Act.put, p25, p27], hB⟩
            · -- 29: Op.assign (Operand.tmp 121)
              have p28 : l 28 = true := hpre _ rfl ⟨28, .data⟩ (by simp) rfl
              have p25 : l 25 = true := hpre _ rfl ⟨25, .chain⟩ (by simp) rfl
              have p0 : l 0 = true := hpre _ rfl ⟨0, .phase⟩ (by simp) rfl
              have p1 : l 1 = true := hpre _ rfl ⟨1, .phase⟩ (by simp) rfl
              have p2 : l 2 = true := hpre _ rfl ⟨2, .phase⟩ (by simp) rfl
              have p3 : l 3 = true := hpre _ rfl ⟨3, .phase⟩ (by simp) rfl
              have p4 : l 4 = true := hpre _ rfl ⟨4, .phase⟩ (by simp) rfl
              have p5 : l 5 = true := hpre _ rfl ⟨5, .phase⟩ (by simp) rfl
              have p6 : l 6 = true := hpre _ rfl ⟨6, .phase⟩ (by simp) rfl
              have p7 : l 7 = true := hpre _ rfl ⟨7, .phase⟩ (by simp) rfl
              have p8 : l 8 = true := hpre _ rfl ⟨8, .phase⟩ (by simp) rfl
              have p9 : l 9 = true := hpre _ rfl ⟨9, .phase⟩ (by simp) rfl
              have p10 : l 10 = true := hpre _ rfl ⟨10, .phase⟩ (by simp) rfl
              have p11 : l 11 = true := hpre _ rfl ⟨11, .phase⟩ (by simp) rfl
              have p12 : l 12 = true := hpre _ rfl ⟨12, .phase⟩ (by simp) rfl
              have p13 : l 13 = true := hpre _ rfl ⟨13, .phase⟩ (by simp) rfl
              have p14 : l 14 = true := hpre _ rfl ⟨14, .phase⟩ (by simp) rfl
              have p15 : l 15 = true := hpre _ rfl ⟨15, .phase⟩ (by simp) rfl
              have p16 : l 16 = true := hpre _ rfl ⟨16, .phase⟩ (by simp) rfl
              have p17 : l 17 = true := hpre _ rfl ⟨17, .phase⟩ (by simp) rfl
              have p18 : l 18 = true := hpre _ rfl ⟨18, .phase⟩ (by simp) rfl
              have p19 : l 19 = true := hpre _ rfl ⟨19, .phase⟩ (by simp) rfl
              have p20 : l 20 = true := hpre _ rfl ⟨20, .phase⟩ (by simp) rfl
              have p21 : l 21 = true := hpre _ rfl ⟨21, .phase⟩ (by simp) rfl
              have p22 : l 22 = true := hpre _ rfl ⟨22, .phase⟩ (by simp) rfl
              have p23 : l 23 = true := hpre _ rfl ⟨23, .phase⟩ (by simp) rfl
              have p24 : l 24 = true := hpre _ rfl ⟨24, .phase⟩ (by simp) rfl
              have p26 : l 26 = true := hpre _ rfl ⟨26, .phase⟩ (by simp) rfl
              have p27 : l 27 = true := hpre _ rfl ⟨27, .phase⟩ (by simp) rfl
              refine wpOp_step rfl (fun K hK => ?_)
              simp only [p28, p25, p0, p1, p2, p3, p4, p5, p6, p7, p8, p9, p10, p11, p12, p13, p14, p15, p16, p17, p18, p19, p20, p21, p22, p23, p24, p26, p27, cond_true]
              clear hpre
              rw [if_pos (by rfl)]
              go_simp
              exact hK _ _ ⟨by simp [upd, Act.put, p28, p25, p0, p1, p2, p3, p4, p5, p6, p7, p8, p9, p10, p11, p12, p13, p14, p15, p16, p17, p18, p19, p20, p21, p22, p23, p24, p26, p27], hB⟩
          · rintro l a w19' hall ⟨rfl, hBz⟩
            simp only [hall 0 (by decide), hall 1 (by decide), hall 2 (by decide), hall 3 (by decide), hall 4 (by decide), hall 5 (by decide), hall 6 (by decide), hall 7 (by decide), hall 8 (by decide), hall 9 (by decide), hall 10 (by decide), hall 11 (by decide), hall 12 (by decide), hall 13 (by decide), hall 14 (by decide), hall 15 (by decide), hall 16 (by decide), hall 17 (by decide), hall 18 (by decide), hall 19 (by decide), hall 20 (by decide), hall 21 (by decide), hall 22 (by decide), hall 23 (by decide), hall 24 (by decide), hall 25 (by decide), hall 26 (by decide), hall 27 (by decide), hall 28 (by decide), hall 29 (by decide), cond_true]
            clear hall
            go_wp2_with fail
            go_ret
            exact ⟨rfl, B19.out.trans (hBz.mono S19.out)⟩
end Go.Proofs.Ytphhppdokdageaa.cipherExamples
