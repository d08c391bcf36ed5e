/-
  The specification's Stream.
-/
import Derived.Test.YtphhppdokdageaaStrA
import Derived.Test.YtphhppdokdageaaRfM
import Derived.Test.YtphhppdokdageaaRfI
import Derived.WalkSmall
namespace Go.Proofs.Ytphhppdokdageaa
open Go.RowKit SP
set_option linter.unusedVariables false
set_option linter.unusedSimpArgs false

set_option maxRecDepth 100000 in
set_option maxHeartbeats 1000000 in
theorem refStream_no (X Y t : Nat) (A : Option Addr) (n c : Nat) (w : World) (hn : 16384 < n) :
    Calls Try.prog 34 #[.agg (kl X Y).toArray, .int .u64 (t : Int), .slice A n c] w fun e w' => e = .returned (.tuple #[.slice none 0 0, .int .i64 4]) ∧ Below w.heap.size w w' := by
  have d1 : decide ((16384 : Int) < (n : Int)) = true := decide_eq_true (by omega)
  have d2 : ((16384 : Int) < (n : Int)) := by omega
  go_enter Try.func34, Try.ntmps34
  go_wp2
  go_ret2
  exact ⟨rfl, (Below.refl _ _).alloc (Nat.le_refl _) _⟩

theorem smb_part (X Y t : Nat) (g : Nat → Nat) (n k j P Q : Nat) (hP : P = (pw g n k).1 ^^^ (msk X Y t k).1) (hQ : Q = (pw g n k).2 ^^^ (msk X Y t k).2) (hg : ∀ i, g i < 256) (hj : j < 16) (hn : 16 * k + j < n) : kby P Q j = smb X Y t g (16 * k + j) := by
  rw [hP, hQ, kby_xor]
  have h : kby (pw g n k).1 (pw g n k).2 j = g (16 * k + j) := by
    show kby (kwX (pf g n k)) (kwY (pf g n k)) j = _
    rw [kw_byte _ (pf_lt hg n k) j hj]
    unfold pf
    rw [if_pos hn]
  rw [h]
  unfold smb
  rw [show (16 * k + j) / 16 = k by omega, show (16 * k + j) % 16 = j by omega]
def sml (X Y t : Nat) (g : Nat → Nat) (m : Nat) : List Value := bl ((List.range m).map (smb X Y t g))
theorem sml_snoc (X Y t : Nat) (g : Nat → Nat) (m : Nat) : sml X Y t g (m + 1) = sml X Y t g m ++ [Value.int .u8 (smb X Y t g m : Int)] := by
  unfold sml; rw [List.range_succ]; simp [bl, u8]

set_option maxRecDepth 100000 in
set_option pp.deepTerms true in
set_option pp.maxSteps 10000000 in
set_option maxHeartbeats 4000000 in
theorem refStream_yes (X Y t : Nat) (A : Option Addr) (n c : Nat) (g : Nat → Nat) (w : World) (hX : X < M) (hY : Y < M) (ht : t < M) (hb : Byt w A n c g) (hn : n ≤ 16384) :
    Calls Try.prog 34 #[.agg (kl X Y).toArray, .int .u64 (t : Int), .slice A n c] w fun e w' => ∃ v, e = .returned (.tuple #[v, .int .i64 0]) ∧ Below w.heap.size w w' ∧ w'.ownsRow (w.heap.size + 1) 5 1 v n (sml X Y t g n) := by
  obtain ⟨i0, hi, hz0, hz1, hz2⟩ := info_parts info5
  have HI0 := Lib.hid (And.intro hi (And.intro hz0 (And.intro hz1 hz2)))
  obtain ⟨N, hN⟩ : ∃ N, N = w.heap.size := ⟨_, rfl⟩
  obtain ⟨W1, hW1⟩ : ∃ W1, W1 = w.alloc (.cells (kl X Y).toArray 23) := ⟨_, rfl⟩
  have HB : Hid (Below N w W1) := Lib.hid (by rw [hW1, hN]; exact (Below.refl _ _).alloc (Nat.le_refl _) _)
  have HL : Hid (W1.heap.size = N + 1) := Lib.hid (by rw [hW1, hN]; simp)
  have HK : Hid (KeyAt W1 N X Y) := Lib.hid (by rw [hW1, hN]; exact KeyAt.new w X Y 23)
  have HY1 : Hid (Byt W1 A n c g) := Lib.hid (hb.keep (by rw [← hN]; exact HB.out))
  have HG := Lib.hid hb.lt
  have HXY := Lib.hid (And.intro hX (And.intro hY ht))
  have HNn := Lib.hid hn
  have HPt := Lib.hid (fun w => refPortions_any A n c w (by omega))
  have HW := Lib.hid hW1
  have HN := Lib.hid hN
  rw [← hN]
  have d1 : decide ((16384 : Int) < (n : Int)) = false := decide_eq_false (by omega)
  have d2 : ¬ ((16384 : Int) < (n : Int)) := by omega
  clear hW1 hN hX hY ht hb hi hz0 hz1 hz2
  go_enter Try.func34, Try.ntmps34
  go_wp2_with fail
  rw [← HW.out, ← HN.out]
  go_loopw [8, 9] (fun v i wr => ∃ k : Nat, k ≤ cnt n ∧ i = .int .i64 (k : Int) ∧ Hid (wr.ownsRow (N + 1) 5 1 v (min n (16 * k)) (sml X Y t g (min n (16 * k)))) ∧ Hid (Below (N + 1) W1 wr)) (fun _ i _ => cnt n - (intOf i).toNat)
  case atStart => exact ⟨0, by omega, rfl, Lib.hid (by rw [Nat.mul_zero, Nat.min_zero]; exact World.ownsRow_nil _ _ _ _), Lib.hid (Below.refl _ _)⟩
  case round =>
    obtain ⟨k, hk, rfl, HO, HR⟩ := hrel
    obtain ⟨v, hv⟩ : ∃ v, v = u8 := ⟨_, rfl⟩
    rw [← hv] at HO ⊢
    clear hv
    have HRs : Hid (N + 1 ≤ wr.heap.size) := Lib.hid (by rw [← HL.out]; exact HR.out.size)
    go_wp2_with fail
    refine (HPt.out wr).mono ?_
    rintro e w5 ⟨rfl, rfl⟩
    by_cases hlt : k < cnt n
    · have hkn : 16 * k < n := by unfold cnt at hlt; omega
      have hk7 : k < 70000 := by unfold cnt at hlt; omega
      have hmin : min n (16 * k) = 16 * k := by omega
      have HO1 : Hid (wr.ownsRow (N + 1) 5 1 v (16 * k) (sml X Y t g (16 * k))) := Lib.hid (by have h := HO.out; rw [hmin] at h; exact h)
      have hYr : Byt wr A n c g := HY1.out.keep (by rw [HL.out]; exact HR.out)
      obtain ⟨b, off, hA, hc⟩ := hYr.at_ (by omega)
      subst hA
      have hpo := fun (w' : World) (hB' : Below wr.heap.size wr w') => refPortion_pw b off n c k g w' HG.out hkn (by omega) HY1.out.le HY1.out.cap (fun i hi => (hB'.cell (p := ⟨b, off + i, none⟩) (block_lt_of_cell (hc i hi))).trans (hc i hi))
      have hbk := fun w => refBlk_any 1 k t w (by decide) (by omega) HXY.out.2.2
      have hen := fun w => refEncrypt_any X Y (1 * 72057594037927936 + k) t w HXY.out.1 HXY.out.2.1 (by unfold M; omega) HXY.out.2.2
      have hmk : enc X Y (1 * 72057594037927936 + k) t = msk X Y t k := by unfold msk; rw [Nat.one_mul]
      rw [hmk] at hen
      have hxo := fun w => refXor_any (pw g n k).1 (pw g n k).2 (msk X Y t k).1 (msk X Y t k).2 w
      obtain ⟨S, hS⟩ : ∃ S, S = (pw g n k).1 ^^^ (msk X Y t k).1 := ⟨_, rfl⟩
      obtain ⟨T, hT⟩ : ∃ T, T = (pw g n k).2 ^^^ (msk X Y t k).2 := ⟨_, rfl⟩
      rw [← hS, ← hT] at hxo
      have HSm : Hid (∀ j, j < 16 → 16 * k + j < n → kby S T j = smb X Y t g (16 * k + j)) := Lib.hid (fun j hj hjn => smb_part X Y t g n k j S T hS hT HG.out hj hjn)
      obtain ⟨C, hC⟩ : ∃ C, C = (pw g n k).1 := ⟨_, rfl⟩
      obtain ⟨D, hD⟩ : ∃ D, D = (pw g n k).2 := ⟨_, rfl⟩
      obtain ⟨P, hP⟩ : ∃ P, P = (msk X Y t k).1 := ⟨_, rfl⟩
      obtain ⟨Q, hQ⟩ : ∃ Q, Q = (msk X Y t k).2 := ⟨_, rfl⟩
      obtain ⟨tg, htg⟩ : ∃ tg, tg = 1 * 72057594037927936 + k := ⟨_, rfl⟩
      rw [← hC, ← hD] at hpo
      rw [← hC, ← hD, ← hP, ← hQ] at hxo
      rw [← hP, ← hQ, ← htg] at hen
      rw [← htg] at hbk
      have HPo := Lib.hid hpo
      have HBk := Lib.hid hbk
      have HEn := Lib.hid hen
      have HXo := Lib.hid hxo
      have HKr : Hid (KeyAt wr N X Y) := Lib.hid (HK.out.below HR.out (by omega))
      have hcv : IntKind.u64.wrap (k : Int) = (k : Int) := by simp [IntKind.wrap, IntKind.bits, IntKind.signed]; omega
      have HCv := Lib.hid hcv
      have hd : decide ((k : Int) < ((cnt n : Nat) : Int)) = true := decide_eq_true (by omega)
      have hd2 : decide (k < cnt n) = true := decide_eq_true hlt
      clear hpo hbk hen hxo hS hT hC hD hP hQ htg hmk hmin hc hYr hcv HO
      go_wp2_with fail
      refine wp_region_inv (by kernel_rfl) (by kernel_rfl) (fun l a w' => ∃ mb : Nat, a = { tmps := #[Value.agg (kl X Y).toArray, Value.int .u64 (t : Int), Value.slice (some ⟨b, off, none⟩) n c, Value.pointer (some ⟨N, 0, none⟩), undef, undef, Value.slice none 0 0, Value.int .i64 (0 : Int), v, Value.int .i64 (k : Int), bif l 10 then Value.pointer (some ⟨mb, 0, none⟩) else u10, u11, Value.slice (some ⟨b, off, none⟩) n c, Value.int .i64 (n : Int), Value.bool false, Value.int .i64 (k : Int), Value.slice (some ⟨b, off, none⟩) n c, Value.int .i64 (cnt n : Int), Value.bool true, u19, u20, bif l 0 then Value.slice (some ⟨b, off, none⟩) n c else u21, bif l 1 then Value.int .i64 (k : Int) else u22, bif l 2 then Value.agg (kl C D).toArray else u23, bif l 3 then Value.agg (kl X Y).toArray else u24, bif l 4 then Value.int .i64 (k : Int) else u25, bif l 5 then Value.int .u64 (k : Int) else u26, bif l 6 then Value.int .u64 (t : Int) else u27, bif l 7 then Value.agg (kl tg t).toArray else u28, bif l 8 then Value.agg (kl P Q).toArray else u29, bif l 9 then Value.agg (kl S T).toArray else u30, u31, u32, u33, u34, u35, u36, u37, u38, u39, u40, u41, u42, u43, u44, u45, u46, u47, u48, u49, undef], defers := [] } ∧ Below wr.heap.size wr w' ∧ (l 10 = true → w'.there mb 0 16 ∧ (wr.heap.size ≤ mb ∧ Ty w' mb 23) ∧ (l 11 = true → KeyAt w' mb S T)) ∧ (l 11 = true → l 10 = true)) ⟨0, rfl, (Below.refl _ _).drew, (fun h => by cases h), (fun h => by cases h)⟩ ?_ ?_
      · rintro l a w' i ⟨mb, rfl, hB, h0, o0⟩ hi hli hpre
        have hi2 : i < 12 := hi
        have hcase : i = 0 ∨ i = 1 ∨ i = 2 ∨ i = 3 ∨ i = 4 ∨ i = 5 ∨ i = 6 ∨ i = 7 ∨ i = 8 ∨ i = 9 ∨ i = 10 ∨ i = 11 := by omega
        clear hi hi2
        rcases hcase with rfl | rfl | rfl | rfl | rfl | rfl | rfl | rfl | rfl | rfl | rfl | rfl
        · -- 0: Op.move (Operand.tmp 2)
          refine wpOp_step rfl (fun K hK => ?_)
          clear hpre
          rw [if_pos (by rfl)]
          go_simp
          exact hK _ _ ⟨mb, by simp [upd, Act.put], hB, (by simpa [upd] using h0), (by simpa [upd] using o0)⟩
        · -- 1: Op.move (Operand.tmp 9)
          refine wpOp_step rfl (fun K hK => ?_)
          clear hpre
          rw [if_pos (by rfl)]
          go_simp
          exact hK _ _ ⟨mb, by simp [upd, Act.put], hB, (by simpa [upd] using h0), (by simpa [upd] using o0)⟩
        · -- 2: Op.call { callee := Callee.value (Operand.func 64), args := 
          have p0 : l 0 = true := hpre _ rfl ⟨0, .data⟩ (by simp) rfl
          have p1 : l 1 = true := hpre _ rfl ⟨1, .data⟩ (by simp) rfl
          refine wpOp_step rfl (fun K hK => ?_)
          simp only [p0, p1, cond_true]
          clear hpre
          rw [if_pos (by rfl)]
          go_simp
          refine (HPo.out _ hB).mono ?_
          rintro e w5 ⟨rfl, hb5⟩
          exact hK _ _ ⟨mb, by simp [upd, Act.put, p0, p1], hB.trans (hb5.mono hB.size), (fun a => by
              have a' : l 10 = true := by simpa [upd] using a
              obtain ⟨x1, x2, x3⟩ := h0 a'
              exact ⟨there_below x1 hb5 (there_lt x1 (by omega)), ⟨x2.1, x2.2.keep hb5⟩, fun e => (x3 (by simpa [upd] using e)).keep hb5⟩), (by simpa [upd, p0, p1] using o0)⟩
        · -- 3: Op.load 23 (Operand.tmp 3)
          refine wpOp_step rfl (fun K hK => ?_)
          clear hpre
          rw [if_pos (by rfl)]
          refine wp_load_mid 23 _ rfl _ 0 rfl (kl X Y) _ ((HKr.out).below hB (HKr.out).lt) Try.underlying23 rfl (by rw [kl_len]; exact size23) ?_
          exact hK _ _ ⟨mb, by simp [upd, Act.put], hB, (by simpa [upd] using h0), (by simpa [upd] using o0)⟩
        · -- 4: Op.move (Operand.tmp 9)
          refine wpOp_step rfl (fun K hK => ?_)
          clear hpre
          rw [if_pos (by rfl)]
          go_simp
          exact hK _ _ ⟨mb, by simp [upd, Act.put], hB, (by simpa [upd] using h0), (by simpa [upd] using o0)⟩
        · -- 5: Op.convert 3 30 (Operand.tmp 25)
          have p4 : l 4 = true := hpre _ rfl ⟨4, .data⟩ (by simp) rfl
          refine wpOp_step rfl (fun K hK => ?_)
          simp only [p4, cond_true]
          clear hpre
          rw [if_pos (by rfl)]
          have z := HCv.out
          go_simp
          exact hK _ _ ⟨mb, by simp [upd, Act.put, p4], hB, (by simpa [upd, p4] using h0), (by simpa [upd, p4] using o0)⟩
        · -- 6: Op.move (Operand.tmp 1)
          refine wpOp_step rfl (fun K hK => ?_)
          clear hpre
          rw [if_pos (by rfl)]
          go_simp
          exact hK _ _ ⟨mb, by simp [upd, Act.put], hB, (by simpa [upd] using h0), (by simpa [upd] using o0)⟩
        · -- 7: Op.call { callee := Callee.value (Operand.func 60), args := 
          have p5 : l 5 = true := hpre _ rfl ⟨5, .data⟩ (by simp) rfl
          have p6 : l 6 = true := hpre _ rfl ⟨6, .data⟩ (by simp) rfl
          have p2 : l 2 = true := hpre _ rfl ⟨2, .chain⟩ (by simp) rfl
          refine wpOp_step rfl (fun K hK => ?_)
          simp only [p5, p6, p2, cond_true]
          clear hpre
          rw [if_pos (by rfl)]
          go_simp
          refine (HBk.out _).mono ?_
          rintro e w5 ⟨rfl, hb5⟩
          exact hK _ _ ⟨mb, by simp [upd, Act.put, p5, p6, p2], hB.trans (hb5.mono hB.size), (fun a => by
              have a' : l 10 = true := by simpa [upd] using a
              obtain ⟨x1, x2, x3⟩ := h0 a'
              exact ⟨there_below x1 hb5 (there_lt x1 (by omega)), ⟨x2.1, x2.2.keep hb5⟩, fun e => (x3 (by simpa [upd] using e)).keep hb5⟩), (by simpa [upd, p5, p6, p2] using o0)⟩
        · -- 8: Op.call { callee := Callee.value (Operand.func 28), args := 
          have p3 : l 3 = true := hpre _ rfl ⟨3, .data⟩ (by simp) rfl
          have p7 : l 7 = true := hpre _ rfl ⟨7, .data⟩ (by simp) rfl
          refine wpOp_step rfl (fun K hK => ?_)
          simp only [p3, p7, cond_true]
          clear hpre
          rw [if_pos (by rfl)]
          go_simp
          refine (HEn.out _).mono ?_
          rintro e w5 ⟨rfl, hb5⟩
          exact hK _ _ ⟨mb, by simp [upd, Act.put, p3, p7], hB.trans (hb5.mono hB.size), (fun a => by
              have a' : l 10 = true := by simpa [upd] using a
              obtain ⟨x1, x2, x3⟩ := h0 a'
              exact ⟨there_below x1 hb5 (there_lt x1 (by omega)), ⟨x2.1, x2.2.keep hb5⟩, fun e => (x3 (by simpa [upd] using e)).keep hb5⟩), (by simpa [upd, p3, p7] using o0)⟩
        · -- 9: Op.call { callee := Callee.value (Operand.func 63), args := 
          have p2 : l 2 = true := hpre _ rfl ⟨2, .data⟩ (by simp) rfl
          have p8 : l 8 = true := hpre _ rfl ⟨8, .data⟩ (by simp) rfl
          refine wpOp_step rfl (fun K hK => ?_)
          simp only [p2, p8, cond_true]
          clear hpre
          rw [if_pos (by rfl)]
          go_simp
          refine (HXo.out _).mono ?_
          rintro e w5 ⟨rfl, hb5⟩
          exact hK _ _ ⟨mb, by simp [upd, Act.put, p2, p8], hB.trans (hb5.mono hB.size), (fun a => by
              have a' : l 10 = true := by simpa [upd] using a
              obtain ⟨x1, x2, x3⟩ := h0 a'
              exact ⟨there_below x1 hb5 (there_lt x1 (by omega)), ⟨x2.1, x2.2.keep hb5⟩, fun e => (x3 (by simpa [upd] using e)).keep hb5⟩), (by simpa [upd, p2, p8] using o0)⟩
        · -- 10: Op.alloc 23
          refine wpOp_step rfl (fun K hK => ?_)
          clear hpre
          rw [if_pos (by rfl)]
          have hA : Below w'.heap.size w' (w'.alloc (.cells z16 23)) := (Below.refl _ _).alloc (Nat.le_refl _) _
          go_simp
          exact hK _ _ ⟨w'.heap.size, by simp [upd, Act.put], hB.trans (hA.mono hB.size), (fun _ => ⟨(Row.zeros w' 23).there, ⟨hB.size, Ty.new w' z16 23⟩, fun e => by
              have e' : l 11 = true := by simpa [upd] using e
              rw [o0 e'] at hli; cases hli⟩), (fun _ => by simp [upd])⟩
        · -- 11: Op.store 23 (Operand.tmp 10) (Operand.tmp 30)
          have p10 : l 10 = true := hpre _ rfl ⟨10, .data⟩ (by simp) rfl
          have p9 : l 9 = true := hpre _ rfl ⟨9, .data⟩ (by simp) rfl
          have p0 : l 0 = true := hpre _ rfl ⟨0, .phase⟩ (by simp) rfl
          have p1 : l 1 = true := hpre _ rfl ⟨1, .phase⟩ (by simp) rfl
          have p2 : l 2 = true := hpre _ rfl ⟨2, .phase⟩ (by simp) rfl
          have p3 : l 3 = true := hpre _ rfl ⟨3, .phase⟩ (by simp) rfl
          have p4 : l 4 = true := hpre _ rfl ⟨4, .phase⟩ (by simp) rfl
          have p5 : l 5 = true := hpre _ rfl ⟨5, .phase⟩ (by simp) rfl
          have p6 : l 6 = true := hpre _ rfl ⟨6, .phase⟩ (by simp) rfl
          have p7 : l 7 = true := hpre _ rfl ⟨7, .phase⟩ (by simp) rfl
          have p8 : l 8 = true := hpre _ rfl ⟨8, .phase⟩ (by simp) rfl
          refine wpOp_step rfl (fun K hK => ?_)
          simp only [p10, p9, p0, p1, p2, p3, p4, p5, p6, p7, p8, cond_true]
          clear hpre
          rw [if_pos (by rfl)]
          obtain ⟨x1, x2, _⟩ := h0 p10
          refine wp_store_mid 23 _ _ rfl mb 0 (kl S T).toArray rfl rfl (by simpa [kl_len] using x1) (by simp [kl_len, size23]) (kl_arr S T) ?_
          rw [List.toList_toArray]
          exact hK _ _ ⟨mb, by simp [upd, Act.put, p10, p9, p0, p1, p2, p3, p4, p5, p6, p7, p8], below_setCells _ _ _ _ hB x2.1, (fun _ => ⟨World.there_setCells x1 _ _ _, ⟨x2.1, x2.2.setCells _ _ _⟩, fun _ => KeyAt.stored x1 S T⟩), (fun _ => by simp [upd, p10])⟩
      · rintro l a w9 hall ⟨mb, rfl, hBz, h0, o0⟩
        simp only [hall 0 (by decide), hall 1 (by decide), hall 2 (by decide), hall 3 (by decide), hall 4 (by decide), hall 5 (by decide), hall 6 (by decide), hall 7 (by decide), hall 8 (by decide), hall 9 (by decide), hall 10 (by decide), cond_true]
        obtain ⟨t0, nn0, k0⟩ := h0 (hall 10 (by decide))
        replace k0 := k0 (hall 11 (by decide))
        clear h0 o0 hall
        have HM9 : Hid (KeyAt w9 mb S T ∧ Ty w9 mb 23) := Lib.hid ⟨k0, nn0.2⟩
        have HO9 : Hid (w9.ownsRow (N + 1) 5 1 v (16 * k) (sml X Y t g (16 * k))) := Lib.hid (own_below HO1.out hBz)
        have HB9 : Hid (Below (N + 1) W1 w9) := Lib.hid (HR.out.trans (hBz.mono HRs.out))
        have HS9 : Hid (N + 1 ≤ w9.heap.size) := Lib.hid (Nat.le_trans HRs.out hBz.size)
        clear t0 nn0 k0 hBz HO1 HR HRs HPo HBk HEn HXo HKr
        go_wp2_with fail
        go_loopw [8, 11] (fun v i wr => ∃ j : Nat, j ≤ 16 ∧ 16 * k + j ≤ n ∧ i = .int .i64 (j : Int) ∧ Hid (wr.ownsRow (N + 1) 5 1 v (16 * k + j) (sml X Y t g (16 * k + j))) ∧ Hid (KeyAt wr mb S T ∧ Ty wr mb 23) ∧ Hid (Below (N + 1) W1 wr) ∧ Hid (N + 1 ≤ wr.heap.size)) (fun _ i _ => 16 - (intOf i).toNat)
        case atStart => exact ⟨0, by omega, by omega, rfl, HO9, HM9, HB9, HS9⟩
        case round =>
          obtain ⟨j, hj, hjn, rfl, HO, HM, HR, HS⟩ := hrel
          obtain ⟨v2, hv2⟩ : ∃ v2, v2 = u8 := ⟨_, rfl⟩
          rw [← hv2] at HO ⊢
          clear hv2 HO9 HM9 HB9 HS9
          have lk : (0 : Int) ≤ (j : Int) := by omega
          have lq : (0 : Int) ≤ (k : Int) := by omega
          by_cases hlt2 : j < 16 ∧ 16 * k + j < n
          · obtain ⟨h1, h2⟩ := hlt2
            have t1 : decide ((j : Int) < 16) = true := decide_eq_true (by omega)
            have t2 : decide (16 * (k : Int) + (j : Int) < (n : Int)) = true := decide_eq_true (by omega)
            have t3 : decide (j < 16) = true := decide_eq_true h1
            have c1 := HM.out.1.cell j h1
            have hsm := HSm.out j h1 h2
            have hsn := sml_snoc X Y t g (16 * k + j)
            obtain ⟨d, hd'⟩ : ∃ d, d = kby S T j := ⟨_, rfl⟩
            rw [← hsm, ← hd'] at hsn
            rw [← hd'] at c1
            obtain ⟨xs, hxs⟩ : ∃ xs, xs = sml X Y t g (16 * k + j) := ⟨_, rfl⟩
            rw [← hxs] at hsn HO
            have HSN := Lib.hid hsn
            have l3 : (j : Int) < 16 := by omega
            have hi := HI0.out.1
            have hz0 := HI0.out.2.1
            have hz1 := HI0.out.2.2.1
            have hz2 := HI0.out.2.2.2
            have ho := HO.out
            have hA9 : Below wr.heap.size wr (wr.alloc (.cells #[.int .u8 (d : Int)] 5)) := (Below.refl _ _).alloc (Nat.le_refl _) _
            have HA9 := Lib.hid hA9
            clear hsm hd' hxs hsn hA9
            go_wp2_with (at_builtin; refine wpList_append_own _ rfl _ _ 26 rfl (N + 1) 5 i0 _ 1 1 Try.underlying26 hi hz0 hz1 hz2 rfl (by omega) v2 (16 * k + j) xs rfl (ho.alloc _) ⟨wr.heap.size, 0, none⟩ 1 1 [.int .u8 (d : Int)] rfl rfl (cell_one_new _ _ _) (by intro u hu; simp at hu; subst hu; rfl) (by unfold maxLen; omega) (by omega) (by have := HS.out; simp; omega) ?_; intro v1 w6 hown6 hg6 _)
            go_roundw
            case rel =>
              have hoA := own_below HO.out HA9.out
              have hMA : KeyAt (wr.alloc (.cells #[.int .u8 (d : Int)] 5)) mb S T ∧ Ty (wr.alloc (.cells #[.int .u8 (d : Int)] 5)) mb 23 := ⟨HM.out.1.keep HA9.out, HM.out.2.keep HA9.out⟩
              have hap := hMA.2.apart hoA (by decide)
              exact ⟨j + 1, by omega, by omega, by go_num, Lib.hid (by rw [← Nat.add_assoc, HSN.out]; exact hown6), Lib.hid ⟨hMA.1.grown hg6 hap, hMA.2.grown hg6 hap⟩, Lib.hid ((HR.out.trans (HA9.out.mono HS.out)).grown hg6 (by have := HS.out; simp; omega) (fun b hb => own_block hoA hb.symm)), Lib.hid (Nat.le_trans (by have := HS.out; simp; omega) hg6.size)⟩
            case measure => simp [intOf]; omega
          · have hend : 16 * k + j = min n (16 * (k + 1)) := by omega
            have HMn : Hid (min n (16 * (k + 1)) = min n (16 * (k + 1))) := Lib.hid rfl
            have HMe := Lib.hid hend
            by_cases h1 : j < 16
            · have h2 : ¬ 16 * k + j < n := fun h => hlt2 ⟨h1, h⟩
              have t1 : decide ((j : Int) < 16) = true := decide_eq_true (by omega)
              have t2 : decide (16 * (k : Int) + (j : Int) < (n : Int)) = false := decide_eq_false (by omega)
              have t3 : decide (j < 16) = true := decide_eq_true h1
              have t4 : decide (16 * k + j < n) = false := decide_eq_false h2
              clear hlt2 hend
              go_wp2_with fail
              go_roundw
              case rel => exact ⟨k + 1, by omega, by go_num, Lib.hid (by rw [HMn.out, ← HMe.out]; exact HO.out), HR⟩
              case measure => simp [intOf]; omega
            · have t1 : decide ((j : Int) < 16) = false := decide_eq_false (by omega)
              have t3 : decide (j < 16) = false := decide_eq_false h1
              clear hlt2 hend
              go_wp2_with fail
              go_roundw
              case rel => exact ⟨k + 1, by omega, by go_num, Lib.hid (by rw [HMn.out, ← HMe.out]; exact HO.out), HR⟩
              case measure => simp [intOf]; omega
    · have hkc : k = cnt n := by omega
      have hd : decide ((k : Int) < ((cnt n : Nat) : Int)) = false := decide_eq_false (by omega)
      have hd2 : decide (k < cnt n) = false := decide_eq_false hlt
      have hmin : min n (16 * k) = n := by rw [hkc]; unfold cnt; omega
      have HO1 : Hid (wr.ownsRow (N + 1) 5 1 v n (sml X Y t g n)) := Lib.hid (by have h := HO.out; rw [hmin] at h; exact h)
      have hBf : Below N w wr := HB.out.trans (HR.out.mono (by omega))
      go_wp2_with fail
      go_ret2
      exact ⟨v, rfl, hBf, HO1.out⟩
end Go.Proofs.Ytphhppdokdageaa
