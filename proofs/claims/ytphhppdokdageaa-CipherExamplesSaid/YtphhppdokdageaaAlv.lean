/-
  alive: some of the chapter's examples hold.
-/
import Derived.Test.YtphhppdokdageaaKnw
namespace Go.Proofs.Ytphhppdokdageaa
open Go.RowKit SP
set_option linter.unusedSimpArgs false
set_option linter.unusedVariables false

theorem text_known : txS kX kY = { data := #[48, 102, 48, 101, 48, 100, 48, 99, 48, 98, 48, 97, 48, 57, 48, 56, 48, 55, 48, 54, 48, 53, 48, 52, 48, 51, 48, 50, 48, 49, 48, 48] } := by
  have h : (txS kX kY).data.toList = ({ data := #[48, 102, 48, 101, 48, 100, 48, 99, 48, 98, 48, 97, 48, 57, 48, 56, 48, 55, 48, 54, 48, 53, 48, 52, 48, 51, 48, 50, 48, 49, 48, 48] } : ByteArray).data.toList := by decide +kernel
  cases hh : txS kX kY with
  | mk d => rw [hh] at h; exact congrArg ByteArray.mk (Array.toList_inj.1 h)

/-- The block of the tag 7 and the number 258. -/
abbrev d7 : Array Value := #[.int .u8 7, .int .u8 0, .int .u8 0, .int .u8 0, .int .u8 0, .int .u8 0, .int .u8 0, .int .u8 0, .int .u8 0, .int .u8 0, .int .u8 0, .int .u8 0, .int .u8 0, .int .u8 0, .int .u8 1, .int .u8 2]
theorem d7_key : (kl 504403158265495552 258).toArray = d7 := by kernel_rfl

theorem mac_nil (X Y : Nat) : macV X Y (fun _ => 0) 0 = drv X Y 2 0 := rfl

set_option maxRecDepth 100000 in
set_option maxHeartbeats 4000000 in
theorem alive_any (w : World) : Calls Try.prog 23 #[] w fun e w' => e = .returned (.bool true) ∧ Below w.heap.size w w' := by
  have HK := Lib.hid (fun w => known_any w)
  have HE := Lib.hid (fun w => encrypt_any kX kY bX bY w kXlt kYlt bXlt bYlt)
  have HD := Lib.hid (fun w => decrypt_any kX kY cX cY w kXlt kYlt cXlt cYlt)
  have e1 : (enc kX kY bX bY).1 = cX := by rw [known_enc]
  have e2 : (enc kX kY bX bY).2 = cY := by rw [known_enc]
  have d0 := dec_enc kXlt kYlt bXlt bYlt
  rw [known_enc] at d0
  have d1 : (dec kX kY cX cY).1 = bX := congrArg Prod.fst d0
  have d2 : (dec kX kY cX cY).2 = bY := congrArg Prod.snd d0
  rw [e1, e2] at HE
  rw [d1, d2] at HD
  have HT := Lib.hid (fun w => text_any kX kY w kXlt kYlt)
  rw [text_known] at HT
  have Q1 : Hid (∀ w, (Op.equalIn 10000 23 (.agg (kl cX cY).toArray) (.agg (kl cX cY).toArray)).run Try.prog w = .ok true w) := Lib.hid (fun w => by rw [run_equal_key cXlt cYlt cXlt cYlt w]; simp [same])
  have Q2 : Hid (∀ w, (Op.equalIn 10000 23 (.agg (kl bX bY).toArray) (.agg (kl bX bY).toArray)).run Try.prog w = .ok true w) := Lib.hid (fun w => by rw [run_equal_key bXlt bYlt bXlt bYlt w]; simp [same])
  have hd7 := drv_ok (t := 7) (n := 258) kXlt kYlt (by decide) (by decide)
  have hd2 := drv_ok (t := 2) (n := 0) kXlt kYlt (by decide) (by decide)
  have HV : Hid (∀ w, Calls Try.prog 31 #[.agg (kl kX kY).toArray, .int .u8 7, .int .u64 258] w fun e w' => e = .returned (.agg (kl (drv kX kY 7 258).1 (drv kX kY 7 258).2).toArray) ∧ Below w.heap.size w w') := Lib.hid (fun w => derive_any kX kY 7 258 w kXlt kYlt (by decide) (by decide))
  have HV2 := Lib.hid (fun w => encrypt_any kX kY 504403158265495552 258 w kXlt kYlt (by decide) (by decide))
  have HV3 : Hid (∀ w, Calls Try.prog 31 #[.agg (kl kX kY).toArray, .int .u8 2, .int .u64 0] w fun e w' => e = .returned (.agg (kl (drv kX kY 2 0).1 (drv kX kY 2 0).2).toArray) ∧ Below w.heap.size w w') := Lib.hid (fun w => derive_any kX kY 2 0 w kXlt kYlt (by decide) (by decide))
  have HM := Lib.hid (fun w => mac_yes kX kY none 0 0 (fun _ => 0) w kXlt kYlt ⟨by omega, by simp [maxLen], fun _ => by omega, fun h => by omega⟩ (by omega))
  rw [mac_nil] at HM
  have eD : enc kX kY 504403158265495552 258 = drv kX kY 7 258 := rfl
  rw [eD] at HV2
  obtain ⟨dX, hdX⟩ : ∃ x, x = (drv kX kY 7 258).1 := ⟨_, rfl⟩
  obtain ⟨dY, hdY⟩ : ∃ x, x = (drv kX kY 7 258).2 := ⟨_, rfl⟩
  obtain ⟨mX, hmX⟩ : ∃ x, x = (drv kX kY 2 0).1 := ⟨_, rfl⟩
  obtain ⟨mY, hmY⟩ : ∃ x, x = (drv kX kY 2 0).2 := ⟨_, rfl⟩
  rw [← hdX, ← hdY] at HV HV2
  rw [← hmX, ← hmY] at HV3 HM
  have Q3 : Hid (∀ w, (Op.equalIn 10000 23 (.agg (kl dX dY).toArray) (.agg (kl dX dY).toArray)).run Try.prog w = .ok true w) := Lib.hid (fun w => by rw [run_equal_key (by rw [hdX]; exact hd7.1) (by rw [hdY]; exact hd7.2) (by rw [hdX]; exact hd7.1) (by rw [hdY]; exact hd7.2) w]; simp [same])
  have Q4 : Hid (∀ w, (Op.equalIn 10000 23 (.agg (kl mX mY).toArray) (.agg (kl mX mY).toArray)).run Try.prog w = .ok true w) := Lib.hid (fun w => by rw [run_equal_key (by rw [hmX]; exact hd2.1) (by rw [hmY]; exact hd2.2) (by rw [hmX]; exact hd2.1) (by rw [hmY]; exact hd2.2) w]; simp [same])
  clear e1 e2 d0 d1 d2 hd7 hd2 hdX hdY hmX hmY eD
  go_enter Try.func23, Try.ntmps23
  go_wp2_with fail
  refine (HK.out _).mono ?_
  rintro e w0 ⟨rfl, hb0⟩
  obtain ⟨N, hN⟩ : ∃ N, N = w0.heap.size := ⟨_, rfl⟩
  obtain ⟨Wa, hWa⟩ : ∃ Wa, Wa = ((w0.alloc (.cells z16 23)).alloc (.cells z16 23)).alloc (.cells z16 23) := ⟨_, rfl⟩
  have ba : Below N w0 Wa := by rw [hWa, hN]; exact (((Below.refl _ _).alloc (Nat.le_refl _) _).alloc (by simp) _).alloc (by simp; omega) _
  have sa : Wa.heap.size = N + 3 := by rw [hWa, hN]; simp
  have z0 : Row Wa N (fun _ => 0) := by rw [hWa, hN]; exact ((Row.zeros w0 23).keep ((Below.refl _ _).alloc (Nat.le_refl _) _)).keep ((Below.refl _ _).alloc (Nat.le_refl _) _)
  have z1 : Row Wa (N + 1) (fun _ => 0) := by
    have h := (Row.zeros (w0.alloc (.cells z16 23)) 23).keep ((Below.refl _ _).alloc (Nat.le_refl _) (.cells z16 23))
    rw [World.size_alloc] at h
    rw [hWa, hN]; exact h
  have z2 : Row Wa (N + 1 + 1) (fun _ => 0) := by
    have h := Row.zeros ((w0.alloc (.cells z16 23)).alloc (.cells z16 23)) 23
    rw [World.size_alloc, World.size_alloc] at h
    rw [hWa, hN]; exact h
  obtain ⟨Wb, hWb⟩ : ∃ Wb, Wb = Wa.setCells N 0 (kl kX kY) := ⟨_, rfl⟩
  obtain ⟨Wc, hWc⟩ : ∃ Wc, Wc = Wb.setCells (N + 1) 0 (kl bX bY) := ⟨_, rfl⟩
  obtain ⟨W1, hW1⟩ : ∃ W1, W1 = Wc.setCells (N + 1 + 1) 0 (kl cX cY) := ⟨_, rfl⟩
  have T0 := Lib.hid z0.there
  have T1 : Hid (Wb.there (N + 1) 0 16) := Lib.hid (by rw [hWb]; exact (z1.setCells _ _ _ (by omega)).there)
  have T2 : Hid (Wc.there (N + 1 + 1) 0 16) := Lib.hid (by rw [hWc, hWb]; exact ((z2.setCells _ _ _ (by omega)).setCells _ _ _ (by omega)).there)
  have H0 : Hid (KeyAt W1 N kX kY) := Lib.hid (by rw [hW1, hWc, hWb]; exact ((KeyAt.stored z0.there kX kY).setCells _ _ (by omega)).setCells _ _ (by omega))
  have H1 : Hid (KeyAt W1 (N + 1) bX bY) := Lib.hid (by rw [hW1, hWc]; exact (KeyAt.stored T1.out bX bY).setCells _ _ (by omega))
  have H2 : Hid (KeyAt W1 (N + 1 + 1) cX cY) := Lib.hid (by rw [hW1]; exact KeyAt.stored T2.out cX cY)
  have HB1 : Hid (Below w.heap.size w W1) := Lib.hid (by
    rw [hW1, hWc, hWb]
    have hl : w.heap.size ≤ N := by rw [hN]; exact hb0.size
    exact below_setCells _ _ _ _ (below_setCells _ _ _ _ (below_setCells _ _ _ _ (hb0.trans (ba.mono hl)) hl) (by omega)) (by omega))
  have HS1 : Hid (W1.heap.size = N + 3) := Lib.hid (by rw [hW1, hWc, hWb, size_setCells, size_setCells, size_setCells, sa])
  have HLN : Hid (w.heap.size ≤ N) := Lib.hid (by rw [hN]; exact hb0.size)
  have HWa := Lib.hid hWa
  have HWb := Lib.hid hWb
  have HWc := Lib.hid hWc
  have HW1 := Lib.hid hW1
  have HN := Lib.hid hN
  clear z0 z1 z2 ba sa hb0 hWa hWb hWc hW1 hN
  go_wp2_with (first
    | ((refine wpList_store_key rfl _ _ rfl w0.heap.size kX kY rfl rfl (by rw [← HWa.out, ← HN.out]; exact T0.out) ?_); rw [← HWa.out, ← HN.out, ← HWb.out])
    | ((refine wpList_store_key rfl _ _ rfl (N + 1) bX bY rfl rfl T1.out ?_); rw [← HWc.out])
    | ((refine wpList_store_key rfl _ _ rfl (N + 1 + 1) cX cY rfl rfl T2.out ?_); rw [← HW1.out]))
  refine wp_region_inv (by kernel_rfl) (by kernel_rfl) (fun l a w' => a = { tmps := #[.bool false, .pointer (some ⟨N, 0, none⟩), .pointer (some ⟨N + 1, 0, none⟩), .pointer (some ⟨N + 1 + 1, 0, none⟩), Value.bool true, undef, undef, undef, .tuple #[Value.agg (kl kX kY).toArray, Value.agg (kl bX bY).toArray, Value.agg (kl cX cY).toArray, .bool true], .tuple #[Value.agg (kl kX kY).toArray, Value.agg (kl bX bY).toArray, Value.agg (kl cX cY).toArray, .bool true], Value.agg (kl kX kY).toArray, Value.agg (kl bX bY).toArray, Value.agg (kl cX cY).toArray, Value.bool true, bif l 0 then Value.bool true else undef, bif l 1 then Value.bool false else undef, bif l 2 then Value.bool false else undef, bif l 3 then Value.agg (kl kX kY).toArray else undef, bif l 4 then Value.agg (kl bX bY).toArray else undef, bif l 5 then Value.agg (kl cX cY).toArray else undef, bif l 6 then Value.agg (kl cX cY).toArray else undef, bif l 7 then Value.bool false else undef, bif l 8 then Value.bool false else undef, bif l 9 then Value.bool false else undef, bif l 10 then Value.agg (kl kX kY).toArray else undef, bif l 11 then Value.agg (kl cX cY).toArray else undef, bif l 12 then Value.agg (kl bX bY).toArray else undef, bif l 13 then Value.agg (kl bX bY).toArray else undef, bif l 14 then Value.bool false else undef, bif l 15 then Value.bool false else undef, bif l 16 then Value.bool false else undef, bif l 17 then Value.agg (kl kX kY).toArray else undef, bif l 18 then Value.string { data := #[48, 102, 48, 101, 48, 100, 48, 99, 48, 98, 48, 97, 48, 57, 48, 56, 48, 55, 48, 54, 48, 53, 48, 52, 48, 51, 48, 50, 48, 49, 48, 48] } else undef, bif l 19 then Value.bool false else undef, bif l 20 then Value.bool false else undef, undef, undef, undef, undef, undef, undef, undef, undef, undef, undef, undef, undef, undef, undef, undef, undef, undef, undef, undef, undef, undef, undef, undef, undef], defers := [] } ∧ Below W1.heap.size W1 w') ⟨rfl, (Below.refl _ _).drew⟩ ?_ ?_
  · rintro l a w' i ⟨rfl, hB⟩ hi hli hpre
    have hi2 : i < 21 := hi
    have hcase : i = 0 ∨ i = 1 ∨ i = 2 ∨ i = 3 ∨ i = 4 ∨ i = 5 ∨ i = 6 ∨ i = 7 ∨ i = 8 ∨ i = 9 ∨ i = 10 ∨ i = 11 ∨ i = 12 ∨ i = 13 ∨ i = 14 ∨ i = 15 ∨ i = 16 ∨ i = 17 ∨ i = 18 ∨ i = 19 ∨ i = 20 := by omega
    clear hi hi2
    rcases hcase with rfl | rfl | rfl | rfl | rfl | rfl | rfl | rfl | rfl | rfl | rfl | rfl | rfl | rfl | rfl | rfl | rfl | rfl | rfl | rfl | rfl
    · -- 0: Op.move (Operand.tmp 4)
      refine wpOp_step rfl (fun K hK => ?_)
      clear hpre
      rw [if_pos (by rfl)]
      go_simp
      exact hK _ _ ⟨by simp [upd, Act.put], hB⟩
    · -- 1: Op.unOp UnOp.not 4 (Operand.tmp 14)
      have p0 : l 0 = true := hpre _ rfl ⟨0, .data⟩ (by simp) rfl
      refine wpOp_step rfl (fun K hK => ?_)
      simp only [p0, cond_true]
      clear hpre
      rw [if_pos (by rfl)]
      go_simp
      exact hK _ _ ⟨by simp [upd, Act.put, p0], hB⟩
    · -- 2: Op.move (Operand.tmp 15)
      have p1 : l 1 = true := hpre _ rfl ⟨1, .data⟩ (by simp) rfl
      refine wpOp_step rfl (fun K hK => ?_)
      simp only [p1, cond_true]
      clear hpre
      rw [if_pos (by rfl)]
      go_simp
      exact hK _ _ ⟨by simp [upd, Act.put, p1], hB⟩
    · -- 3: Op.load 23 (Operand.tmp 1)
      have p2 : l 2 = true := hpre _ rfl ⟨2, .guard⟩ (by simp) rfl
      refine wpOp_step rfl (fun K hK => ?_)
      simp only [p2, cond_true]
      clear hpre
      rw [if_pos (by rfl)]
      refine wp_load_mid 23 _ rfl _ 0 rfl (kl kX kY) _ ((H0.out).below hB (H0.out).lt) Try.underlying23 rfl (by rw [kl_len]; exact size23) ?_
      exact hK _ _ ⟨by simp [upd, Act.put, p2], hB⟩
    · -- 4: Op.load 23 (Operand.tmp 2)
      have p2 : l 2 = true := hpre _ rfl ⟨2, .guard⟩ (by simp) rfl
      refine wpOp_step rfl (fun K hK => ?_)
      simp only [p2, cond_true]
      clear hpre
      rw [if_pos (by rfl)]
      refine wp_load_mid 23 _ rfl _ 0 rfl (kl bX bY) _ ((H1.out).below hB (H1.out).lt) Try.underlying23 rfl (by rw [kl_len]; exact size23) ?_
      exact hK _ _ ⟨by simp [upd, Act.put, p2], hB⟩
    · -- 5: Op.call { callee := Callee.value (Operand.func 27), args := 
      have p3 : l 3 = true := hpre _ rfl ⟨3, .data⟩ (by simp) rfl
      have p4 : l 4 = true := hpre _ rfl ⟨4, .data⟩ (by simp) rfl
      have p2 : l 2 = true := hpre _ rfl ⟨2, .chain⟩ (by simp) rfl
      refine wpOp_step rfl (fun K hK => ?_)
      simp only [p3, p4, p2, cond_true]
      clear hpre
      rw [if_pos (by rfl)]
      go_simp
      refine (HE.out _).mono ?_
      rintro e w5 ⟨rfl, hb5⟩
      exact hK _ _ ⟨by simp [upd, Act.put, p3, p4, p2], hB.trans (hb5.mono hB.size)⟩
    · -- 6: Op.load 23 (Operand.tmp 3)
      have p2 : l 2 = true := hpre _ rfl ⟨2, .guard⟩ (by simp) rfl
      refine wpOp_step rfl (fun K hK => ?_)
      simp only [p2, cond_true]
      clear hpre
      rw [if_pos (by rfl)]
      refine wp_load_mid 23 _ rfl _ 0 rfl (kl cX cY) _ ((H2.out).below hB (H2.out).lt) Try.underlying23 rfl (by rw [kl_len]; exact size23) ?_
      exact hK _ _ ⟨by simp [upd, Act.put, p2], hB⟩
    · -- 7: Op.binOp BinOp.neq 23 (Operand.tmp 19) (Operand.tmp 20) 23
      have p5 : l 5 = true := hpre _ rfl ⟨5, .data⟩ (by simp) rfl
      have p6 : l 6 = true := hpre _ rfl ⟨6, .data⟩ (by simp) rfl
      have p2 : l 2 = true := hpre _ rfl ⟨2, .guard⟩ (by simp) rfl
      refine wpOp_step rfl (fun K hK => ?_)
      simp only [p5, p6, p2, cond_true]
      clear hpre
      rw [if_pos (by rfl)]
      have q1 := Q1.out
      go_simp
      exact hK _ _ ⟨by simp [upd, Act.put, p5, p6, p2], hB⟩
    · -- 8: Op.pick (Operand.tmp 16) (Operand.const (Value.bool true)) (
      have p2 : l 2 = true := hpre _ rfl ⟨2, .data⟩ (by simp) rfl
      have p7 : l 7 = true := hpre _ rfl ⟨7, .data⟩ (by simp) rfl
      refine wpOp_step rfl (fun K hK => ?_)
      simp only [p2, p7, cond_true]
      clear hpre
      rw [if_pos (by rfl)]
      go_simp
      exact hK _ _ ⟨by simp [upd, Act.put, p2, p7], hB⟩
    · -- 9: Op.move (Operand.tmp 22)
      have p8 : l 8 = true := hpre _ rfl ⟨8, .data⟩ (by simp) rfl
      have p5 : l 5 = true := hpre _ rfl ⟨5, .chain⟩ (by simp) rfl
      refine wpOp_step rfl (fun K hK => ?_)
      simp only [p8, p5, cond_true]
      clear hpre
      rw [if_pos (by rfl)]
      go_simp
      exact hK _ _ ⟨by simp [upd, Act.put, p8, p5], hB⟩
    · -- 10: Op.load 23 (Operand.tmp 1)
      have p9 : l 9 = true := hpre _ rfl ⟨9, .guard⟩ (by simp) rfl
      refine wpOp_step rfl (fun K hK => ?_)
      simp only [p9, cond_true]
      clear hpre
      rw [if_pos (by rfl)]
      refine wp_load_mid 23 _ rfl _ 0 rfl (kl kX kY) _ ((H0.out).below hB (H0.out).lt) Try.underlying23 rfl (by rw [kl_len]; exact size23) ?_
      exact hK _ _ ⟨by simp [upd, Act.put, p9], hB⟩
    · -- 11: Op.load 23 (Operand.tmp 3)
      have p9 : l 9 = true := hpre _ rfl ⟨9, .guard⟩ (by simp) rfl
      refine wpOp_step rfl (fun K hK => ?_)
      simp only [p9, cond_true]
      clear hpre
      rw [if_pos (by rfl)]
      refine wp_load_mid 23 _ rfl _ 0 rfl (kl cX cY) _ ((H2.out).below hB (H2.out).lt) Try.underlying23 rfl (by rw [kl_len]; exact size23) ?_
      exact hK _ _ ⟨by simp [upd, Act.put, p9], hB⟩
    · -- 12: Op.call { callee := Callee.value (Operand.func 29), args := 
      have p10 : l 10 = true := hpre _ rfl ⟨10, .data⟩ (by simp) rfl
      have p11 : l 11 = true := hpre _ rfl ⟨11, .data⟩ (by simp) rfl
      have p9 : l 9 = true := hpre _ rfl ⟨9, .chain⟩ (by simp) rfl
      refine wpOp_step rfl (fun K hK => ?_)
      simp only [p10, p11, p9, cond_true]
      clear hpre
      rw [if_pos (by rfl)]
      go_simp
      refine (HD.out _).mono ?_
      rintro e w5 ⟨rfl, hb5⟩
      exact hK _ _ ⟨by simp [upd, Act.put, p10, p11, p9], hB.trans (hb5.mono hB.size)⟩
    · -- 13: Op.load 23 (Operand.tmp 2)
      have p9 : l 9 = true := hpre _ rfl ⟨9, .guard⟩ (by simp) rfl
      refine wpOp_step rfl (fun K hK => ?_)
      simp only [p9, cond_true]
      clear hpre
      rw [if_pos (by rfl)]
      refine wp_load_mid 23 _ rfl _ 0 rfl (kl bX bY) _ ((H1.out).below hB (H1.out).lt) Try.underlying23 rfl (by rw [kl_len]; exact size23) ?_
      exact hK _ _ ⟨by simp [upd, Act.put, p9], hB⟩
    · -- 14: Op.binOp BinOp.neq 23 (Operand.tmp 26) (Operand.tmp 27) 23
      have p12 : l 12 = true := hpre _ rfl ⟨12, .data⟩ (by simp) rfl
      have p13 : l 13 = true := hpre _ rfl ⟨13, .data⟩ (by simp) rfl
      have p9 : l 9 = true := hpre _ rfl ⟨9, .guard⟩ (by simp) rfl
      refine wpOp_step rfl (fun K hK => ?_)
      simp only [p12, p13, p9, cond_true]
      clear hpre
      rw [if_pos (by rfl)]
      have q1 := Q2.out
      go_simp
      exact hK _ _ ⟨by simp [upd, Act.put, p12, p13, p9], hB⟩
    · -- 15: Op.pick (Operand.tmp 23) (Operand.const (Value.bool true)) (
      have p9 : l 9 = true := hpre _ rfl ⟨9, .data⟩ (by simp) rfl
      have p14 : l 14 = true := hpre _ rfl ⟨14, .data⟩ (by simp) rfl
      refine wpOp_step rfl (fun K hK => ?_)
      simp only [p9, p14, cond_true]
      clear hpre
      rw [if_pos (by rfl)]
      go_simp
      exact hK _ _ ⟨by simp [upd, Act.put, p9, p14], hB⟩
    · -- 16: Op.move (Operand.tmp 29)
      have p15 : l 15 = true := hpre _ rfl ⟨15, .data⟩ (by simp) rfl
      have p12 : l 12 = true := hpre _ rfl ⟨12, .chain⟩ (by simp) rfl
      refine wpOp_step rfl (fun K hK => ?_)
      simp only [p15, p12, cond_true]
      clear hpre
      rw [if_pos (by rfl)]
      go_simp
      exact hK _ _ ⟨by simp [upd, Act.put, p15, p12], hB⟩
    · -- 17: Op.load 23 (Operand.tmp 1)
      have p16 : l 16 = true := hpre _ rfl ⟨16, .guard⟩ (by simp) rfl
      refine wpOp_step rfl (fun K hK => ?_)
      simp only [p16, cond_true]
      clear hpre
      rw [if_pos (by rfl)]
      refine wp_load_mid 23 _ rfl _ 0 rfl (kl kX kY) _ ((H0.out).below hB (H0.out).lt) Try.underlying23 rfl (by rw [kl_len]; exact size23) ?_
      exact hK _ _ ⟨by simp [upd, Act.put, p16], hB⟩
    · -- 18: Op.call { callee := Callee.value (Operand.func 38), args := 
      have p17 : l 17 = true := hpre _ rfl ⟨17, .data⟩ (by simp) rfl
      have p16 : l 16 = true := hpre _ rfl ⟨16, .chain⟩ (by simp) rfl
      refine wpOp_step rfl (fun K hK => ?_)
      simp only [p17, p16, cond_true]
      clear hpre
      rw [if_pos (by rfl)]
      go_simp
      refine (HT.out _).mono ?_
      rintro e w5 ⟨rfl, hb5⟩
      exact hK _ _ ⟨by simp [upd, Act.put, p17, p16], hB.trans (hb5.mono hB.size)⟩
    · -- 19: Op.binOp BinOp.neq 9 (Operand.tmp 32) (Operand.const (Value.
      have p18 : l 18 = true := hpre _ rfl ⟨18, .data⟩ (by simp) rfl
      have p16 : l 16 = true := hpre _ rfl ⟨16, .guard⟩ (by simp) rfl
      refine wpOp_step rfl (fun K hK => ?_)
      simp only [p18, p16, cond_true]
      clear hpre
      rw [if_pos (by rfl)]
      go_simp
      exact hK _ _ ⟨by simp [upd, Act.put, p18, p16], hB⟩
    · -- 20: Op.pick (Operand.tmp 30) (Operand.const (Value.bool true)) (
      have p16 : l 16 = true := hpre _ rfl ⟨16, .data⟩ (by simp) rfl
      have p19 : l 19 = true := hpre _ rfl ⟨19, .data⟩ (by simp) rfl
      refine wpOp_step rfl (fun K hK => ?_)
      simp only [p16, p19, cond_true]
      clear hpre
      rw [if_pos (by rfl)]
      go_simp
      exact hK _ _ ⟨by simp [upd, Act.put, p16, p19], hB⟩
  · rintro l a W1' hall ⟨rfl, hBz⟩
    simp only [hall 0 (by decide), hall 1 (by decide), hall 2 (by decide), hall 3 (by decide), hall 4 (by decide), hall 5 (by decide), hall 6 (by decide), hall 7 (by decide), hall 8 (by decide), hall 9 (by decide), hall 10 (by decide), hall 11 (by decide), hall 12 (by decide), hall 13 (by decide), hall 14 (by decide), hall 15 (by decide), hall 16 (by decide), hall 17 (by decide), hall 18 (by decide), hall 19 (by decide), hall 20 (by decide), cond_true]
    clear hall
    obtain ⟨W2, hW2⟩ : ∃ W2, W2 = W1' := ⟨_, rfl⟩
    rw [← hW2] at hBz ⊢
    clear hW2
    have I0 := Lib.hid (H0.out.keep hBz)
    have HB2 := Lib.hid (HB1.out.trans (hBz.mono (by rw [HS1.out]; have := HLN.out; omega)))
    have HL2 : Hid (w.heap.size ≤ W2.heap.size) := Lib.hid (by have := hBz.size; rw [HS1.out] at this; have := HLN.out; omega)
    clear hBz
    obtain ⟨W4, hW4⟩ : ∃ W4, W4 = W2.alloc (.cells d7 23) := ⟨_, rfl⟩
    have I4 : Hid (KeyAt W4 N kX kY) := Lib.hid (by rw [hW4]; exact I0.out.alloc _)
    have HB4 : Hid (Below w.heap.size w W4) := Lib.hid (by rw [hW4]; exact HB2.out.alloc HL2.out _)
    have HS4 : Hid (W4.heap.size = W2.heap.size + 1) := Lib.hid (by rw [hW4]; simp)
    have ZZ : Hid (KeyAt W4 W2.heap.size 504403158265495552 258) := Lib.hid (by rw [hW4, ← d7_key]; exact KeyAt.new _ _ _ _)
    have HW4 := Lib.hid hW4
    have hLD : Hid (w.heap.size ≤ W2.heap.size) := HL2
    clear hW4
    go_wp2_with ((refine wpList_load_key rfl _ rfl N rfl kX kY (by rw [← HW4.out]; exact I4.out) ?_); rw [← HW4.out])
    refine (HM.out _).mono ?_
    rintro e w4 ⟨rfl, hb4⟩
    obtain ⟨E, hE⟩ : ∃ E, E = w4.heap.size := ⟨_, rfl⟩
    obtain ⟨We, hWe⟩ : ∃ We, We = w4.alloc (.cells z16 23) := ⟨_, rfl⟩
    have ze : Row We E (fun _ => 0) := by rw [hWe, hE]; exact Row.zeros w4 23
    have be : Below E w4 We := by rw [hWe, hE]; exact (Below.refl _ _).alloc (Nat.le_refl _) _
    have hDE : W2.heap.size < E := by rw [hE]; have := hb4.size; rw [HS4.out] at this; omega
    obtain ⟨W5, hW5⟩ : ∃ W5, W5 = We.setCells E 0 (kl mX mY) := ⟨_, rfl⟩
    have b45 : Below W4.heap.size W4 W5 := by rw [hW5]; exact below_setCells _ _ _ _ (hb4.trans (be.mono (by rw [hE]; exact hb4.size))) (by rw [hE]; exact hb4.size)
    have J0 := Lib.hid (I4.out.keep b45)
    have JD : Hid (KeyAt W5 W2.heap.size 504403158265495552 258) := Lib.hid (ZZ.out.keep b45)
    have JE : Hid (KeyAt W5 E mX mY) := Lib.hid (by rw [hW5]; exact KeyAt.stored ze.there mX mY)
    have TE := Lib.hid ze.there
    have HB5 : Hid (Below w.heap.size w W5) := Lib.hid (HB4.out.trans (b45.mono (by rw [HS4.out]; have := hLD.out; omega)))
    have HL5 : Hid (w.heap.size ≤ W5.heap.size) := Lib.hid (by have := b45.size; rw [HS4.out] at this; have := hLD.out; omega)
    have HWe := Lib.hid hWe
    have HW5 := Lib.hid hW5
    have HE' := Lib.hid hE
    clear ze be b45 hb4 hWe hW5 hE
    go_wp2_with ((refine wpList_store_key rfl _ _ rfl w4.heap.size mX mY rfl rfl (by rw [← HWe.out, ← HE'.out]; exact TE.out) ?_); rw [← HWe.out, ← HE'.out, ← HW5.out])
    refine wp_region_inv (by kernel_rfl) (by kernel_rfl) (fun l a w' => a = { tmps := #[bif l 16 then Value.bool true else .bool false, .pointer (some ⟨N, 0, none⟩), .pointer (some ⟨N + 1, 0, none⟩), .pointer (some ⟨N + 1 + 1, 0, none⟩), Value.bool true, .pointer (some ⟨W2.heap.size, 0, none⟩), .pointer (some ⟨E, 0, none⟩), .int .i64 0, .tuple #[Value.agg (kl kX kY).toArray, Value.agg (kl bX bY).toArray, Value.agg (kl cX cY).toArray, .bool true], .tuple #[Value.agg (kl kX kY).toArray, Value.agg (kl bX bY).toArray, Value.agg (kl cX cY).toArray, .bool true], Value.agg (kl kX kY).toArray, Value.agg (kl bX bY).toArray, Value.agg (kl cX cY).toArray, Value.bool true, Value.bool true, Value.bool false, Value.bool false, Value.agg (kl kX kY).toArray, Value.agg (kl bX bY).toArray, Value.agg (kl cX cY).toArray, Value.agg (kl cX cY).toArray, Value.bool false, Value.bool false, Value.bool false, Value.agg (kl kX kY).toArray, Value.agg (kl cX cY).toArray, Value.agg (kl bX bY).toArray, Value.agg (kl bX bY).toArray, Value.bool false, Value.bool false, Value.bool false, Value.agg (kl kX kY).toArray, Value.string { data := #[48, 102, 48, 101, 48, 100, 48, 99, 48, 98, 48, 97, 48, 57, 48, 56, 48, 55, 48, 54, 48, 53, 48, 52, 48, 51, 48, 50, 48, 49, 48, 48] }, Value.bool false, Value.bool false, .pointer (some ⟨W2.heap.size, 0, none⟩), .pointer (some ⟨W2.heap.size, 14, none⟩), .pointer (some ⟨W2.heap.size, 15, none⟩), .tuple #[Value.agg (kl mX mY).toArray, .int .i64 0], Value.agg (kl kX kY).toArray, .tuple #[Value.agg (kl mX mY).toArray, .int .i64 0], Value.agg (kl mX mY).toArray, .int .i64 0, bif l 0 then Value.agg (kl kX kY).toArray else undef, bif l 1 then Value.agg (kl dX dY).toArray else undef, bif l 2 then Value.agg (kl kX kY).toArray else undef, bif l 3 then Value.agg (kl 504403158265495552 258).toArray else undef, bif l 4 then Value.agg (kl dX dY).toArray else undef, bif l 5 then Value.bool true else undef, bif l 6 then Value.bool true else undef, bif l 7 then .int .i64 0 else undef, bif l 8 then Value.bool true else undef, bif l 9 then Value.bool true else undef, bif l 10 then Value.bool true else undef, bif l 11 then Value.agg (kl mX mY).toArray else undef, bif l 12 then Value.agg (kl kX kY).toArray else undef, bif l 13 then Value.agg (kl mX mY).toArray else undef, bif l 14 then Value.bool true else undef, bif l 15 then Value.bool true else undef], defers := [] } ∧ Below W5.heap.size W5 w') ⟨rfl, (Below.refl _ _).drew⟩ ?_ ?_
    · rintro l a w' i ⟨rfl, hB⟩ hi hli hpre
      have hi2 : i < 17 := hi
      have hcase : i = 0 ∨ i = 1 ∨ i = 2 ∨ i = 3 ∨ i = 4 ∨ i = 5 ∨ i = 6 ∨ i = 7 ∨ i = 8 ∨ i = 9 ∨ i = 10 ∨ i = 11 ∨ i = 12 ∨ i = 13 ∨ i = 14 ∨ i = 15 ∨ i = 16 := by omega
      clear hi hi2
      rcases hcase with rfl | rfl | rfl | rfl | rfl | rfl | rfl | rfl | rfl | rfl | rfl | rfl | rfl | rfl | rfl | rfl | rfl
      · -- 0: Op.load 23 (Operand.tmp 1)
        refine wpOp_step rfl (fun K hK => ?_)
        clear hpre
        rw [if_pos (by rfl)]
        refine wp_load_mid 23 _ rfl _ 0 rfl (kl kX kY) _ ((J0.out).below hB (J0.out).lt) Try.underlying23 rfl (by rw [kl_len]; exact size23) ?_
        exact hK _ _ ⟨by simp [upd, Act.put], hB⟩
      · -- 1: Op.call { callee := Callee.value (Operand.func 31), args := 
        have p0 : l 0 = true := hpre _ rfl ⟨0, .data⟩ (by simp) rfl
        refine wpOp_step rfl (fun K hK => ?_)
        simp only [p0, cond_true]
        clear hpre
        rw [if_pos (by rfl)]
        go_simp
        refine (HV.out _).mono ?_
        rintro e w5 ⟨rfl, hb5⟩
        exact hK _ _ ⟨by simp [upd, Act.put, p0], hB.trans (hb5.mono hB.size)⟩
      · -- 2: Op.load 23 (Operand.tmp 1)
        refine wpOp_step rfl (fun K hK => ?_)
        clear hpre
        rw [if_pos (by rfl)]
        refine wp_load_mid 23 _ rfl _ 0 rfl (kl kX kY) _ ((J0.out).below hB (J0.out).lt) Try.underlying23 rfl (by rw [kl_len]; exact size23) ?_
        exact hK _ _ ⟨by simp [upd, Act.put], hB⟩
      · -- 3: Op.load 23 (Operand.tmp 5)
        refine wpOp_step rfl (fun K hK => ?_)
        clear hpre
        rw [if_pos (by rfl)]
        refine wp_load_mid 23 _ rfl _ 0 rfl (kl 504403158265495552 258) _ ((JD.out).below hB (JD.out).lt) Try.underlying23 rfl (by rw [kl_len]; exact size23) ?_
        exact hK _ _ ⟨by simp [upd, Act.put], hB⟩
      · -- 4: Op.call { callee := Callee.value (Operand.func 27), args := 
        have p2 : l 2 = true := hpre _ rfl ⟨2, .data⟩ (by simp) rfl
        have p3 : l 3 = true := hpre _ rfl ⟨3, .data⟩ (by simp) rfl
        have p1 : l 1 = true := hpre _ rfl ⟨1, .chain⟩ (by simp) rfl
        refine wpOp_step rfl (fun K hK => ?_)
        simp only [p2, p3, p1, cond_true]
        clear hpre
        rw [if_pos (by rfl)]
        go_simp
        refine (HV2.out _).mono ?_
        rintro e w5 ⟨rfl, hb5⟩
        exact hK _ _ ⟨by simp [upd, Act.put, p2, p3, p1], hB.trans (hb5.mono hB.size)⟩
      · -- 5: Op.binOp BinOp.eql 23 (Operand.tmp 44) (Operand.tmp 47) 23
        have p1 : l 1 = true := hpre _ rfl ⟨1, .data⟩ (by simp) rfl
        have p4 : l 4 = true := hpre _ rfl ⟨4, .data⟩ (by simp) rfl
        refine wpOp_step rfl (fun K hK => ?_)
        simp only [p1, p4, cond_true]
        clear hpre
        rw [if_pos (by rfl)]
        have q1 := Q3.out
        go_simp
        exact hK _ _ ⟨by simp [upd, Act.put, p1, p4], hB⟩
      · -- 6: Op.move (Operand.tmp 48)
        have p5 : l 5 = true := hpre _ rfl ⟨5, .data⟩ (by simp) rfl
        have p4 : l 4 = true := hpre _ rfl ⟨4, .chain⟩ (by simp) rfl
        refine wpOp_step rfl (fun K hK => ?_)
        simp only [p5, p4, cond_true]
        clear hpre
        rw [if_pos (by rfl)]
        go_simp
        exact hK _ _ ⟨by simp [upd, Act.put, p5, p4], hB⟩
      · -- 7: Op.move (Operand.tmp 7)
        have p6 : l 6 = true := hpre _ rfl ⟨6, .guard⟩ (by simp) rfl
        refine wpOp_step rfl (fun K hK => ?_)
        simp only [p6, cond_true]
        clear hpre
        rw [if_pos (by rfl)]
        go_simp
        exact hK _ _ ⟨by simp [upd, Act.put, p6], hB⟩
      · -- 8: Op.binOp BinOp.eql 27 (Operand.tmp 50) (Operand.const (Value
        have p7 : l 7 = true := hpre _ rfl ⟨7, .data⟩ (by simp) rfl
        have p6 : l 6 = true := hpre _ rfl ⟨6, .guard⟩ (by simp) rfl
        refine wpOp_step rfl (fun K hK => ?_)
        simp only [p7, p6, cond_true]
        clear hpre
        rw [if_pos (by rfl)]
        go_simp
        exact hK _ _ ⟨by simp [upd, Act.put, p7, p6], hB⟩
      · -- 9: Op.pick (Operand.tmp 49) (Operand.tmp 51) (Operand.const (Va
        have p6 : l 6 = true := hpre _ rfl ⟨6, .data⟩ (by simp) rfl
        have p8 : l 8 = true := hpre _ rfl ⟨8, .data⟩ (by simp) rfl
        refine wpOp_step rfl (fun K hK => ?_)
        simp only [p6, p8, cond_true]
        clear hpre
        rw [if_pos (by rfl)]
        go_simp
        exact hK _ _ ⟨by simp [upd, Act.put, p6, p8], hB⟩
      · -- 10: Op.move (Operand.tmp 52)
        have p9 : l 9 = true := hpre _ rfl ⟨9, .data⟩ (by simp) rfl
        have p6 : l 6 = true := hpre _ rfl ⟨6, .chain⟩ (by simp) rfl
        refine wpOp_step rfl (fun K hK => ?_)
        simp only [p9, p6, cond_true]
        clear hpre
        rw [if_pos (by rfl)]
        go_simp
        exact hK _ _ ⟨by simp [upd, Act.put, p9, p6], hB⟩
      · -- 11: Op.load 23 (Operand.tmp 6)
        have p10 : l 10 = true := hpre _ rfl ⟨10, .guard⟩ (by simp) rfl
        refine wpOp_step rfl (fun K hK => ?_)
        simp only [p10, cond_true]
        clear hpre
        rw [if_pos (by rfl)]
        refine wp_load_mid 23 _ rfl _ 0 rfl (kl mX mY) _ ((JE.out).below hB (JE.out).lt) Try.underlying23 rfl (by rw [kl_len]; exact size23) ?_
        exact hK _ _ ⟨by simp [upd, Act.put, p10], hB⟩
      · -- 12: Op.load 23 (Operand.tmp 1)
        have p10 : l 10 = true := hpre _ rfl ⟨10, .guard⟩ (by simp) rfl
        refine wpOp_step rfl (fun K hK => ?_)
        simp only [p10, cond_true]
        clear hpre
        rw [if_pos (by rfl)]
        refine wp_load_mid 23 _ rfl _ 0 rfl (kl kX kY) _ ((J0.out).below hB (J0.out).lt) Try.underlying23 rfl (by rw [kl_len]; exact size23) ?_
        exact hK _ _ ⟨by simp [upd, Act.put, p10], hB⟩
      · -- 13: Op.call { callee := Callee.value (Operand.func 31), args := 
        have p12 : l 12 = true := hpre _ rfl ⟨12, .data⟩ (by simp) rfl
        have p10 : l 10 = true := hpre _ rfl ⟨10, .chain⟩ (by simp) rfl
        refine wpOp_step rfl (fun K hK => ?_)
        simp only [p12, p10, cond_true]
        clear hpre
        rw [if_pos (by rfl)]
        go_simp
        refine (HV3.out _).mono ?_
        rintro e w5 ⟨rfl, hb5⟩
        exact hK _ _ ⟨by simp [upd, Act.put, p12, p10], hB.trans (hb5.mono hB.size)⟩
      · -- 14: Op.binOp BinOp.eql 23 (Operand.tmp 54) (Operand.tmp 56) 23
        have p11 : l 11 = true := hpre _ rfl ⟨11, .data⟩ (by simp) rfl
        have p13 : l 13 = true := hpre _ rfl ⟨13, .data⟩ (by simp) rfl
        have p10 : l 10 = true := hpre _ rfl ⟨10, .guard⟩ (by simp) rfl
        refine wpOp_step rfl (fun K hK => ?_)
        simp only [p11, p13, p10, cond_true]
        clear hpre
        rw [if_pos (by rfl)]
        have q1 := Q4.out
        go_simp
        exact hK _ _ ⟨by simp [upd, Act.put, p11, p13, p10], hB⟩
      · -- 15: Op.pick (Operand.tmp 53) (Operand.tmp 57) (Operand.const (Va
        have p10 : l 10 = true := hpre _ rfl ⟨10, .data⟩ (by simp) rfl
        have p14 : l 14 = true := hpre _ rfl ⟨14, .data⟩ (by simp) rfl
        refine wpOp_step rfl (fun K hK => ?_)
        simp only [p10, p14, cond_true]
        clear hpre
        rw [if_pos (by rfl)]
        go_simp
        exact hK _ _ ⟨by simp [upd, Act.put, p10, p14], hB⟩
      · -- 16: Op.assign (Operand.tmp 58)
        have p15 : l 15 = true := hpre _ rfl ⟨15, .data⟩ (by simp) rfl
        have p13 : l 13 = true := hpre _ rfl ⟨13, .chain⟩ (by simp) rfl
        have p0 : l 0 = true := hpre _ rfl ⟨0, .phase⟩ (by simp) rfl
        have p1 : l 1 = true := hpre _ rfl ⟨1, .phase⟩ (by simp) rfl
        have p2 : l 2 = true := hpre _ rfl ⟨2, .phase⟩ (by simp) rfl
        have p3 : l 3 = true := hpre _ rfl ⟨3, .phase⟩ (by simp) rfl
        have p4 : l 4 = true := hpre _ rfl ⟨4, .phase⟩ (by simp) rfl
        have p5 : l 5 = true := hpre _ rfl ⟨5, .phase⟩ (by simp) rfl
        have p6 : l 6 = true := hpre _ rfl ⟨6, .phase⟩ (by simp) rfl
        have p7 : l 7 = true := hpre _ rfl ⟨7, .phase⟩ (by simp) rfl
        have p8 : l 8 = true := hpre _ rfl ⟨8, .phase⟩ (by simp) rfl
        have p9 : l 9 = true := hpre _ rfl ⟨9, .phase⟩ (by simp) rfl
        have p10 : l 10 = true := hpre _ rfl ⟨10, .phase⟩ (by simp) rfl
        have p11 : l 11 = true := hpre _ rfl ⟨11, .phase⟩ (by simp) rfl
        have p12 : l 12 = true := hpre _ rfl ⟨12, .phase⟩ (by simp) rfl
        have p14 : l 14 = true := hpre _ rfl ⟨14, .phase⟩ (by simp) rfl
        refine wpOp_step rfl (fun K hK => ?_)
        simp only [p15, p13, p0, p1, p2, p3, p4, p5, p6, p7, p8, p9, p10, p11, p12, p14, cond_true]
        clear hpre
        rw [if_pos (by rfl)]
        go_simp
        exact hK _ _ ⟨by simp [upd, Act.put, p15, p13, p0, p1, p2, p3, p4, p5, p6, p7, p8, p9, p10, p11, p12, p14], hB⟩
    · rintro l a W5' hall ⟨rfl, hBz⟩
      simp only [hall 0 (by decide), hall 1 (by decide), hall 2 (by decide), hall 3 (by decide), hall 4 (by decide), hall 5 (by decide), hall 6 (by decide), hall 7 (by decide), hall 8 (by decide), hall 9 (by decide), hall 10 (by decide), hall 11 (by decide), hall 12 (by decide), hall 13 (by decide), hall 14 (by decide), hall 15 (by decide), hall 16 (by decide), cond_true]
      clear hall
      obtain ⟨W6, hW6⟩ : ∃ W6, W6 = W5' := ⟨_, rfl⟩
      rw [← hW6] at hBz ⊢
      clear hW6
      go_wp2_with fail
      go_ret
      exact ⟨rfl, HB5.out.trans (hBz.mono HL5.out)⟩

end Go.Proofs.Ytphhppdokdageaa
