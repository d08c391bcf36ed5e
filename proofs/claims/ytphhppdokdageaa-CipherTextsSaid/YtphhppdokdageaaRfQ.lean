/-
  The specification's Parse.
-/
import Derived.Test.YtphhppdokdageaaRfP
namespace Go.Proofs.Ytphhppdokdageaa
open Go.RowKit SP
set_option linter.unusedVariables false
set_option linter.unusedSimpArgs false

theorem str_index (s : ByteArray) (i : Nat) (hi : i < s.size) (w : World) : (Instr.index 9 (.string s) (.int .i64 (i : Int))).run Try.prog w = .ok (.int .u8 (sb s i : Int)) w := by
  simp only [Instr.index, asIntOf, Sem.run_bind, Sem.run_pure, run_underlying Try.underlying9 w, Result.andThen_ok]
  have hb : s.data.toList.getD i 0 = s[i] := by
    rw [List.getD_eq_getElem?_getD, Array.getElem?_toList, Array.getElem?_eq_getElem (by exact hi)]
    rfl
  rw [if_pos (Int.natCast_nonneg i), Int.toNat_natCast, getElem?_pos s i hi]
  unfold sb
  rw [hb]
  rfl
theorem pok_all (s : ByteArray) : POk s ↔ s.size = 32 ∧ ∀ j, j < 32 → isHex (sb s j) = true := by
  unfold POk
  rw [Bool.and_eq_true]
  unfold hexA hexB
  simp only [List.all_eq_true, List.mem_range]
  constructor
  · rintro ⟨h, h1, h2⟩
    refine ⟨h, fun j hj => ?_⟩
    by_cases e : j < 16
    · exact h1 j e
    · have := h2 (j - 16) (by omega)
      rwa [show 16 + (j - 16) = j by omega] at this
  · rintro ⟨h, h1⟩
    exact ⟨h, fun j hj => h1 j (by omega), fun j hj => h1 _ (by omega)⟩
theorem dgv_yes {c : Nat} (h : isHex c = true) : dgv c = vdig c := if_pos h
theorem dgv_no {c : Nat} (h : ¬ isHex c = true) : dgv c = 16 := if_neg h
theorem dgv_le (c : Nat) : dgv c ≤ 16 := by unfold dgv; have := vdig_lt c; split <;> omega
theorem dgv_hex {c : Nat} (h : dgv c ≠ 16) : isHex c = true := by
  by_cases e : isHex c = true
  · exact e
  · exact absurd (dgv_no e) h
theorem tx_byte (s : ByteArray) (j : Nat) (hj : j < 16) : kby (txX s) (txY s) j = 16 * vdig (sb s (2 * j)) + vdig (sb s (2 * j + 1)) := by
  by_cases h8 : j < 8
  · rw [kby_hi _ _ _ h8]
    exact byte_of_nibs _ j h8
  · rw [show j = 8 + (j - 8) by omega, kby_lo _ _ _ (by omega)]
    have h := byte_of_nibs (fun i => sb s (16 + i)) (j - 8) (by omega)
    rw [show 16 + 2 * (j - 8) = 2 * (8 + (j - 8)) by omega, show 16 + (2 * (j - 8) + 1) = 2 * (8 + (j - 8)) + 1 by omega] at h
    exact h

set_option maxRecDepth 100000 in
set_option maxHeartbeats 2000000 in
theorem refParse_any (s : ByteArray) (w : World) (hs : s.size ≤ maxLen) :
    Calls Try.prog 37 #[.string s] w fun e w' => ((POk s ∧ e = .returned (.tuple #[.agg (kl (txX s) (txY s)).toArray, .int .i64 0])) ∨ (¬ POk s ∧ e = .returned (.tuple #[.agg (kl 0 0).toArray, .int .i64 12]))) ∧ Below w.heap.size w w' := by
  unfold maxLen at hs
  obtain ⟨N, hN⟩ : ∃ N, N = w.heap.size := ⟨_, rfl⟩
  obtain ⟨W1, hW1⟩ : ∃ W1, W1 = (w.alloc (.cells z16 23)).alloc (.cells z16 23) := ⟨_, rfl⟩
  have HB : Hid (Below N w W1) := Lib.hid (by rw [hW1, hN]; exact ((Below.refl _ _).alloc (Nat.le_refl _) _).alloc (by simp) _)
  have HR : Hid (Row W1 (N + 1) (fun _ => 0)) := Lib.hid (by
    have h := Row.zeros (w.alloc (.cells z16 23)) 23
    rw [World.size_alloc] at h
    rw [hW1, hN]; exact h)
  have HT : Hid (W1.there N 0 16) := Lib.hid (by rw [hW1, hN]; exact ((Row.zeros w 23).keep ((Below.refl _ _).alloc (Nat.le_refl _) _)).there)
  have HW := Lib.hid hW1
  have HN := Lib.hid hN
  rw [← hN]
  clear hW1 hN
  by_cases h32 : s.size = 32
  · have hb32 : ((s.size : Int) != 32) = false := by simp; omega
    have HSz := Lib.hid h32
    clear h32 hs
    go_enter Try.func37, Try.ntmps37
    go_wp2
    rw [← HW.out, ← HN.out]
    go_loopw [5] (fun i wr => ∃ (k : Nat) (f : Nat → Nat), k ≤ 16 ∧ i = .int .i64 (k : Int) ∧ Hid (Row wr (N + 1) f ∧ wr.there N 0 16 ∧ Below N w wr ∧ N + 2 ≤ wr.heap.size ∧ (∀ j, j < 16 → f j = if j < k then 16 * vdig (sb s (2 * j)) + vdig (sb s (2 * j + 1)) else 0) ∧ ∀ j, j < 2 * k → isHex (sb s j) = true)) (fun i _ => 16 - (intOf i).toNat)
    case atStart => exact ⟨0, _, by omega, rfl, Lib.hid ⟨HR.out, HT.out, HB.out, by rw [HW.out, HN.out]; simp, fun j _ => by simp, fun j h => by omega⟩⟩
    case round =>
      obtain ⟨k, f, hk, rfl, HI⟩ := hrel
      by_cases hlt : k < 16
      · have hd : decide ((k : Int) < 16) = true := decide_eq_true (by omega)
        have Z1 : Hid (IntKind.i64.wrap (2 * (k : Int)) = 2 * (k : Int)) := Lib.hid (by simp only [IntKind.wrap, IntKind.bits, IntKind.signed]; simp; omega)
        have Z2 : Hid (IntKind.i64.wrap (2 * (k : Int) + 1) = 2 * (k : Int) + 1) := Lib.hid (by simp only [IntKind.wrap, IntKind.bits, IntKind.signed]; simp; omega)
        have hx1 := fun w => str_index s (2 * k) (by rw [HSz.out]; omega) w
        have hx2 := fun w => str_index s (2 * k + 1) (by rw [HSz.out]; omega) w
        rw [show (((2 * k : Nat) : Int)) = 2 * (k : Int) by omega] at hx1
        rw [show (((2 * k + 1 : Nat) : Int)) = 2 * (k : Int) + 1 by omega] at hx2
        have hd1 : ∀ w, Calls Try.prog 67 #[.int .u8 (sb s (2 * k) : Int)] w fun e w' => e = .returned (.int .i64 (dgv (sb s (2 * k)) : Nat)) ∧ Below w.heap.size w w' := fun w => (refDigit_any (sb s (2 * k)) w).mono fun e w' ⟨h1, h2⟩ => ⟨h1, h2 ▸ Below.refl _ _⟩
        have hd2 : ∀ w, Calls Try.prog 67 #[.int .u8 (sb s (2 * k + 1) : Int)] w fun e w' => e = .returned (.int .i64 (dgv (sb s (2 * k + 1)) : Nat)) ∧ Below w.heap.size w w' := fun w => (refDigit_any (sb s (2 * k + 1)) w).mono fun e w' ⟨h1, h2⟩ => ⟨h1, h2 ▸ Below.refl _ _⟩
        obtain ⟨p, hp⟩ : ∃ p, p = sb s (2 * k) := ⟨_, rfl⟩
        obtain ⟨q, hq⟩ : ∃ q, q = sb s (2 * k + 1) := ⟨_, rfl⟩
        rw [← hp] at hx1 hd1
        rw [← hq] at hx2 hd2
        have lx := dgv_le p
        have ly := dgv_le q
        obtain ⟨x, hx⟩ : ∃ x, x = dgv p := ⟨_, rfl⟩
        obtain ⟨y, hy⟩ : ∃ y, y = dgv q := ⟨_, rfl⟩
        rw [← hx] at hd1 lx
        rw [← hy] at hd2 ly
        have X1 := Lib.hid hx1
        have X2 := Lib.hid hx2
        have D1 := Lib.hid hd1
        have D2 := Lib.hid hd2
        have HP1 := Lib.hid hp
        have HP2 := Lib.hid hq
        have HX := Lib.hid hx
        have HY := Lib.hid hy
        have LX := Lib.hid lx
        have LY := Lib.hid ly
        clear hx1 hx2 hd1 hd2 hp hq hx hy lx ly
        go_wp2_with fail
        refine wp_region_inv (by kernel_rfl) (by kernel_rfl) (fun l a w' => a = { tmps := #[Value.string s, undef, Value.pointer (some ⟨N, 0, none⟩), u3, Value.pointer (some ⟨N + 1, 0, none⟩), Value.int .i64 (k : Int), bif l 11 then Value.int .i64 (x : Int) else u6, bif l 12 then Value.int .i64 (y : Int) else u7, Value.string s, Value.int .i64 (s.size : Int), Value.bool false, undef, Value.int .i64 (k : Int), Value.bool true, u14, u15, bif l 0 then Value.string s else u16, bif l 1 then Value.int .i64 (k : Int) else u17, bif l 2 then Value.int .i64 (2 * (k : Int)) else u18, bif l 3 then Value.int .u8 (p : Int) else u19, bif l 4 then Value.int .i64 (x : Int) else u20, bif l 5 then Value.string s else u21, bif l 6 then Value.int .i64 (k : Int) else u22, bif l 7 then Value.int .i64 (2 * (k : Int)) else u23, bif l 8 then Value.int .i64 (2 * (k : Int) + 1) else u24, bif l 9 then Value.int .u8 (q : Int) else u25, bif l 10 then Value.int .i64 (y : Int) else u26, u27, u28, u29, u30, u31, u32, u33, u34, u35, u36, u37, u38, u39, u40, undef], defers := [] } ∧ Below wr.heap.size wr w') ⟨rfl, (Below.refl _ _).drew⟩ ?_ ?_
        · rintro l a w' i ⟨rfl, hB⟩ hi hli hpre
          have hi2 : i < 13 := hi
          have hcase : i = 0 ∨ i = 1 ∨ i = 2 ∨ i = 3 ∨ i = 4 ∨ i = 5 ∨ i = 6 ∨ i = 7 ∨ i = 8 ∨ i = 9 ∨ i = 10 ∨ i = 11 ∨ i = 12 := by omega
          clear hi hi2
          rcases hcase with rfl | rfl | rfl | rfl | rfl | rfl | rfl | rfl | rfl | rfl | rfl | rfl | rfl
          · -- 0: Op.move (Operand.tmp 0)
            refine wpOp_step rfl (fun K hK => ?_)
            clear hpre
            rw [if_pos (by rfl)]
            go_simp
            exact hK _ _ ⟨by simp [upd, Act.put], hB⟩
          · -- 1: Op.move (Operand.tmp 5)
            refine wpOp_step rfl (fun K hK => ?_)
            clear hpre
            rw [if_pos (by rfl)]
            go_simp
            exact hK _ _ ⟨by simp [upd, Act.put], hB⟩
          · -- 2: Op.binOp BinOp.mul 3 (Operand.const (Value.int IntKind.i64 2
            have p1 : l 1 = true := hpre _ rfl ⟨1, .data⟩ (by simp) rfl
            refine wpOp_step rfl (fun K hK => ?_)
            simp only [p1, cond_true]
            clear hpre
            rw [if_pos (by rfl)]
            have z1 := Z1.out
            go_simp
            exact hK _ _ ⟨by simp [upd, Act.put, p1], hB⟩
          · -- 3: Op.index 9 (Operand.tmp 16) (Operand.tmp 18)
            have p0 : l 0 = true := hpre _ rfl ⟨0, .data⟩ (by simp) rfl
            have p2 : l 2 = true := hpre _ rfl ⟨2, .data⟩ (by simp) rfl
            refine wpOp_step rfl (fun K hK => ?_)
            simp only [p0, p2, cond_true]
            clear hpre
            rw [if_pos (by rfl)]
            have z1 := X1.out
            go_simp
            exact hK _ _ ⟨by simp [upd, Act.put, p0, p2], hB⟩
          · -- 4: Op.call { callee := Callee.value (Operand.func 67), args := 
            have p3 : l 3 = true := hpre _ rfl ⟨3, .data⟩ (by simp) rfl
            refine wpOp_step rfl (fun K hK => ?_)
            simp only [p3, cond_true]
            clear hpre
            rw [if_pos (by rfl)]
            go_simp
            refine (D1.out _).mono ?_
            rintro e w5 ⟨rfl, hb5⟩
            exact hK _ _ ⟨by simp [upd, Act.put, p3], hB.trans (hb5.mono hB.size)⟩
          · -- 5: Op.move (Operand.tmp 0)
            refine wpOp_step rfl (fun K hK => ?_)
            clear hpre
            rw [if_pos (by rfl)]
            go_simp
            exact hK _ _ ⟨by simp [upd, Act.put], hB⟩
          · -- 6: Op.move (Operand.tmp 5)
            refine wpOp_step rfl (fun K hK => ?_)
            clear hpre
            rw [if_pos (by rfl)]
            go_simp
            exact hK _ _ ⟨by simp [upd, Act.put], hB⟩
          · -- 7: Op.binOp BinOp.mul 3 (Operand.const (Value.int IntKind.i64 2
            have p6 : l 6 = true := hpre _ rfl ⟨6, .data⟩ (by simp) rfl
            refine wpOp_step rfl (fun K hK => ?_)
            simp only [p6, cond_true]
            clear hpre
            rw [if_pos (by rfl)]
            have z1 := Z1.out
            go_simp
            exact hK _ _ ⟨by simp [upd, Act.put, p6], hB⟩
          · -- 8: Op.binOp BinOp.add 3 (Operand.tmp 23) (Operand.const (Value.
            have p7 : l 7 = true := hpre _ rfl ⟨7, .data⟩ (by simp) rfl
            refine wpOp_step rfl (fun K hK => ?_)
            simp only [p7, cond_true]
            clear hpre
            rw [if_pos (by rfl)]
            have z1 := Z2.out
            go_simp
            exact hK _ _ ⟨by simp [upd, Act.put, p7], hB⟩
          · -- 9: Op.index 9 (Operand.tmp 21) (Operand.tmp 24)
            have p5 : l 5 = true := hpre _ rfl ⟨5, .data⟩ (by simp) rfl
            have p8 : l 8 = true := hpre _ rfl ⟨8, .data⟩ (by simp) rfl
            refine wpOp_step rfl (fun K hK => ?_)
            simp only [p5, p8, cond_true]
            clear hpre
            rw [if_pos (by rfl)]
            have z1 := X2.out
            go_simp
            exact hK _ _ ⟨by simp [upd, Act.put, p5, p8], hB⟩
          · -- 10: Op.call { callee := Callee.value (Operand.func 67), args := 
            have p9 : l 9 = true := hpre _ rfl ⟨9, .data⟩ (by simp) rfl
            have p4 : l 4 = true := hpre _ rfl ⟨4, .chain⟩ (by simp) rfl
            refine wpOp_step rfl (fun K hK => ?_)
            simp only [p9, p4, cond_true]
            clear hpre
            rw [if_pos (by rfl)]
            go_simp
            refine (D2.out _).mono ?_
            rintro e w5 ⟨rfl, hb5⟩
            exact hK _ _ ⟨by simp [upd, Act.put, p9, p4], hB.trans (hb5.mono hB.size)⟩
          · -- 11: Op.assign (Operand.tmp 20)
            have p4 : l 4 = true := hpre _ rfl ⟨4, .data⟩ (by simp) rfl
            have p10 : l 10 = true := hpre _ rfl ⟨10, .chain⟩ (by simp) rfl
            have p0 : l 0 = true := hpre _ rfl ⟨0, .phase⟩ (by simp) rfl
            have p1 : l 1 = true := hpre _ rfl ⟨1, .phase⟩ (by simp) rfl
            have p2 : l 2 = true := hpre _ rfl ⟨2, .phase⟩ (by simp) rfl
            have p3 : l 3 = true := hpre _ rfl ⟨3, .phase⟩ (by simp) rfl
            refine wpOp_step rfl (fun K hK => ?_)
            simp only [p4, p10, p0, p1, p2, p3, cond_true]
            clear hpre
            rw [if_pos (by rfl)]
            go_simp
            exact hK _ _ ⟨by simp [upd, Act.put, p4, p10, p0, p1, p2, p3], hB⟩
          · -- 12: Op.assign (Operand.tmp 26)
            have p10 : l 10 = true := hpre _ rfl ⟨10, .data⟩ (by simp) rfl
            have p11 : l 11 = true := hpre _ rfl ⟨11, .chain⟩ (by simp) rfl
            have p0 : l 0 = true := hpre _ rfl ⟨0, .phase⟩ (by simp) rfl
            have p1 : l 1 = true := hpre _ rfl ⟨1, .phase⟩ (by simp) rfl
            have p2 : l 2 = true := hpre _ rfl ⟨2, .phase⟩ (by simp) rfl
            have p3 : l 3 = true := hpre _ rfl ⟨3, .phase⟩ (by simp) rfl
            have p4 : l 4 = true := hpre _ rfl ⟨4, .phase⟩ (by simp) rfl
            have p5 : l 5 = true := hpre _ rfl ⟨5, .phase⟩ (by simp) rfl
            have p6 : l 6 = true := hpre _ rfl ⟨6, .phase⟩ (by simp) rfl
            have p7 : l 7 = true := hpre _ rfl ⟨7, .phase⟩ (by simp) rfl
            have p8 : l 8 = true := hpre _ rfl ⟨8, .phase⟩ (by simp) rfl
            have p9 : l 9 = true := hpre _ rfl ⟨9, .phase⟩ (by simp) rfl
            refine wpOp_step rfl (fun K hK => ?_)
            simp only [p10, p11, p0, p1, p2, p3, p4, p5, p6, p7, p8, p9, cond_true]
            clear hpre
            rw [if_pos (by rfl)]
            go_simp
            exact hK _ _ ⟨by simp [upd, Act.put, p10, p11, p0, p1, p2, p3, p4, p5, p6, p7, p8, p9], hB⟩
        · rintro l a wr' hall ⟨rfl, hBz⟩
          simp only [hall 0 (by decide), hall 1 (by decide), hall 2 (by decide), hall 3 (by decide), hall 4 (by decide), hall 5 (by decide), hall 6 (by decide), hall 7 (by decide), hall 8 (by decide), hall 9 (by decide), hall 10 (by decide), hall 11 (by decide), hall 12 (by decide), cond_true]
          clear hall
          have HR5 : Hid (Row wr' (N + 1) f) := Lib.hid (HI.out.1.keep hBz)
          have HT5 : Hid (wr'.there N 0 16) := Lib.hid (there_below HI.out.2.1 hBz (there_lt HI.out.2.1 (by omega)))
          have HB5 : Hid (Below N w wr') := Lib.hid (HI.out.2.2.1.trans (hBz.mono (Nat.le_trans (by omega) HI.out.2.2.2.1)))
          have HS5 : Hid (N + 2 ≤ wr'.heap.size) := Lib.hid (Nat.le_trans HI.out.2.2.2.1 hBz.size)
          clear hBz
          have HZ0 : Hid (Value.agg z16 = .agg (kl 0 0).toArray) := Lib.hid (by rw [kl_zero])
          by_cases ex : x = 16
          · have b1 : ((x : Int) == 16) = true := by simp; omega
            have HPn : Hid (¬ POk s) := Lib.hid (fun h => by
              have h2 := ((pok_all s).1 h).2 (2 * k) (by omega)
              rw [← HP1.out] at h2
              have h3 := dgv_yes h2
              have h4 := vdig_lt p
              have := HX.out
              omega)
            clear ex
            go_wp2_with (refine wpList_store_key rfl _ _ rfl N 0 0 rfl HZ0.out HT5.out ?_)
            exact bodyPost_key2 rfl N 0 0 rfl (KeyAt.stored HT5.out 0 0) rfl ⟨.inr ⟨HPn.out, rfl⟩, below_setCells _ _ _ _ HB5.out (Nat.le_refl _)⟩
          · have b1 : ((x : Int) == 16) = false := by simp; omega
            by_cases ey : y = 16
            · have b2 : ((y : Int) == 16) = true := by simp; omega
              have HPn : Hid (¬ POk s) := Lib.hid (fun h => by
                have h2 := ((pok_all s).1 h).2 (2 * k + 1) (by omega)
                rw [← HP2.out] at h2
                have h3 := dgv_yes h2
                have h4 := vdig_lt q
                have := HY.out
                omega)
              clear ex ey
              go_wp2_with (refine wpList_store_key rfl _ _ rfl N 0 0 rfl HZ0.out HT5.out ?_)
              exact bodyPost_key2 rfl N 0 0 rfl (KeyAt.stored HT5.out 0 0) rfl ⟨.inr ⟨HPn.out, rfl⟩, below_setCells _ _ _ _ HB5.out (Nat.le_refl _)⟩
            · have b2 : ((y : Int) == 16) = false := by simp; omega
              have hxp : isHex p = true := dgv_hex (by rw [← HX.out]; exact ex)
              have hyq : isHex q = true := dgv_hex (by rw [← HY.out]; exact ey)
              have e1 : x = vdig p := HX.out.trans (dgv_yes hxp)
              have e2 : y = vdig q := HY.out.trans (dgv_yes hyq)
              have t1 := vdig_lt p
              have t2 := vdig_lt q
              obtain ⟨z, hz⟩ : ∃ z, z = 16 * x + y := ⟨_, rfl⟩
              have hzl : z < 256 := by omega
              have hz1 : 16 * (x : Int) + (y : Int) = (z : Int) := by omega
              have bx : x < 16 := by omega
              have HZ : Hid (z = 16 * vdig (sb s (2 * k)) + vdig (sb s (2 * k + 1))) := Lib.hid (by rw [← HP1.out, ← HP2.out, hz, e1, e2])
              have HE : Hid (∀ j, j < 2 * (k + 1) → isHex (sb s j) = true) := Lib.hid (fun j hj => by
                by_cases j1 : j = 2 * k
                · rw [j1, ← HP1.out]; exact hxp
                · by_cases j2 : j = 2 * k + 1
                  · rw [j2, ← HP2.out]; exact hyq
                  · exact HI.out.2.2.2.2.2 j (by omega))
              have f1 : wr'.frozen? ⟨N + 1, k, none⟩ = false := HR5.out.fr k hlt
              have c3 : wr'.cell? ⟨N + 1, k, none⟩ = some (.int .u8 (f k : Int)) := HR5.out.cell k hlt
              have l1 : (0 : Int) ≤ (k : Int) := by omega
              have l2 : (k : Int) < 16 := by omega
              clear ex ey hxp hyq e1 e2 t1 t2 hz
              go_wp2
              go_roundw
              case rel =>
                refine ⟨k + 1, _, by omega, by go_num, Lib.hid ⟨HR5.out.set k z hlt, ?_, HB5.out.setCell (p := ⟨N + 1, k, none⟩) (by simp) _, by rw [World.size_setCell]; exact HS5.out, fun j hj => ?_, HE.out⟩⟩
                · intro j hj
                  have h := HT5.out j hj
                  refine ⟨?_, ?_⟩
                  · show ((World.setCell wr' _ _).cell? _).isSome = true
                    rw [World.cell?_setCell_other _ _ _ _ (by intro e; injection e with e; omega)]; exact h.1
                  · show (World.setCell wr' _ _).frozen? _ = false
                    rw [World.frozen?_setCell]; exact h.2
                · by_cases e : j = k
                  · subst e; rw [if_pos rfl, if_pos (by omega), HZ.out]
                  · rw [if_neg e, HI.out.2.2.2.2.1 j hj]
                    by_cases e2 : j < k
                    · rw [if_pos e2, if_pos (by omega)]
                    · rw [if_neg e2, if_neg (by omega)]
              case measure => simp [intOf]; omega
      · obtain rfl : k = 16 := by omega
        have HP : Hid (POk s) := Lib.hid ((pok_all s).2 ⟨HSz.out, fun j hj => HI.out.2.2.2.2.2 j (by omega)⟩)
        have HK2 : Hid (KeyAt wr (N + 1) (txX s) (txY s)) := Lib.hid (HI.out.1.key fun j hj => by rw [HI.out.2.2.2.2.1 j hj, if_pos hj, tx_byte s j hj])
        have HT2 := Lib.hid HI.out.2.1
        go_wp2_with (first
          | (refine wpList_load_key rfl _ rfl _ rfl _ _ HK2.out ?_)
          | (refine wpList_store_key rfl _ _ rfl N _ _ rfl rfl HT2.out ?_))
        exact bodyPost_key2 rfl N _ _ rfl (KeyAt.stored HT2.out _ _) rfl ⟨.inl ⟨HP.out, rfl⟩, below_setCells _ _ _ _ HI.out.2.2.1 (Nat.le_refl _)⟩
  · have hb32 : ((s.size : Int) != 32) = true := by simp; omega
    have HP : Hid (¬ POk s) := Lib.hid (fun h => h32 h.1)
    go_enter Try.func37, Try.ntmps37
    go_wp2_with ((refine wpList_store_key rfl _ _ rfl w.heap.size 0 0 rfl (by rw [kl_zero]; rfl) (by rw [← HW.out, ← HN.out]; exact HT.out) ?_); rw [← HW.out, ← HN.out])
    exact bodyPost_key2 rfl N 0 0 rfl (KeyAt.stored HT.out 0 0) rfl ⟨.inr ⟨HP.out, rfl⟩, below_setCells _ _ _ _ HB.out (Nat.le_refl _)⟩
end Go.Proofs.Ytphhppdokdageaa
