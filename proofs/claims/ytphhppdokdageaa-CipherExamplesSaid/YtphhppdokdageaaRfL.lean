/-
  The specification's Tag.
-/
import Derived.Test.YtphhppdokdageaaRfK
namespace Go.Proofs.Ytphhppdokdageaa
open Go.RowKit SP
set_option linter.unusedVariables false
set_option linter.unusedSimpArgs false

theorem flz_pf (g : Nat → Nat) (n k : Nat) (h : 16 * k < n) : flz (n - 16 * k) (fun i => g (16 * k + i)) = pf g n k := by
  funext j
  unfold flz pf
  by_cases h2 : 16 * k + j < n
  · rw [if_pos h2, if_pos (by omega)]
  · rw [if_neg h2, if_neg (by omega)]
theorem refPortion_pw (b off n c k : Nat) (g : Nat → Nat) (w : World) (hg : ∀ i, g i < 256) (hk : 16 * k < n) (hn : n ≤ 1000000) (hnc : n ≤ c) (hcm : c ≤ maxLen)
    (hc : ∀ i, i < n → w.cell? ⟨b, off + i, none⟩ = some (.int .u8 (g i : Int))) :
    Calls Try.prog 64 #[.slice (some ⟨b, off, none⟩) n c, .int .i64 (k : Int)] w fun e w' => e = .returned (.agg (kl (pw g n k).1 (pw g n k).2).toArray) ∧ Below w.heap.size w w' := by
  have h := refPortion_any b off n c k g w hg hk hn hnc hcm hc
  rw [flz_pf g n k hk] at h
  exact h

set_option maxRecDepth 100000 in
set_option maxHeartbeats 2000000 in
theorem refTag_any (X Y : Nat) (A : Option Addr) (n c : Nat) (g : Nat → Nat) (w : World) (hX : X < M) (hY : Y < M) (hb : Byt w A n c g) (hn : n ≤ 1000000) :
    Calls Try.prog 66 #[.agg (kl X Y).toArray, .slice A n c] w fun e w' => e = .returned (.agg (kl (macV X Y g n).1 (macV X Y g n).2).toArray) ∧ Below w.heap.size w w' := by
  have hnM : n < M := by unfold M; omega
  obtain ⟨N, hN⟩ : ∃ N, N = w.heap.size := ⟨_, rfl⟩
  obtain ⟨W2, hW2⟩ : ∃ W2, W2 = (w.alloc (.cells (kl X Y).toArray 23)).alloc (.cells z16 23) := ⟨_, rfl⟩
  have HB : Hid (Below N w W2) := Lib.hid (by rw [hW2, hN]; exact ((Below.refl _ _).alloc (Nat.le_refl _) _).alloc (by simp) _)
  have HS2 : Hid (W2.heap.size = N + 2) := Lib.hid (by rw [hW2, hN]; simp)
  have HT : Hid (W2.there (N + 1) 0 16) := Lib.hid (by
    have h := (Row.zeros (w.alloc (.cells (kl X Y).toArray 23)) 23).there
    rw [World.size_alloc] at h
    rw [hW2, hN]; exact h)
  have HK : Hid (KeyAt W2 N X Y) := Lib.hid (by rw [hW2, hN]; exact (KeyAt.new w X Y 23).alloc _)
  have HY2 : Hid (Byt W2 A n c g) := Lib.hid (hb.keep (by rw [← hN]; exact HB.out))
  have HD := Lib.hid (fun w => refDerive_any X Y 2 n w hX hY (by decide) hnM)
  have hdo := drv_ok (t := 2) hX hY (by decide) hnM
  obtain ⟨S0, hS⟩ : ∃ S0, S0 = (drv X Y 2 n).1 := ⟨_, rfl⟩
  obtain ⟨T0, hT⟩ : ∃ T0, T0 = (drv X Y 2 n).2 := ⟨_, rfl⟩
  have hST : drv X Y 2 n = (S0, T0) := by rw [hS, hT]
  have HM : Hid (macV X Y g n = fld (macS X Y) (S0, T0) g n (cnt n)) := Lib.hid (by unfold macV; rw [hST])
  have HOk : Hid (∀ k, Ok (fld (macS X Y) (S0, T0) g n k)) := Lib.hid (fun k => fld_ok (fun _ _ hs hp => macS_ok hX hY hs hp) (by rw [← hST]; exact hdo) hb.lt n k)
  have HPok : Hid (∀ k, Ok (pw g n k)) := Lib.hid (fun k => pw_ok hb.lt n k)
  have HE := Lib.hid (fun (a b : Nat) (w : World) (ha : a < M) (hb : b < M) => refEncrypt_any X Y a b w hX hY ha hb)
  have HPt := Lib.hid (fun (w : World) => refPortions_any A n c w hn)
  rw [← hS, ← hT] at HD
  have hcv : IntKind.u64.wrap (n : Int) = (n : Int) := by simp [IntKind.wrap, IntKind.bits, IntKind.signed]; unfold M at hnM; omega
  have HW := Lib.hid hW2
  have HN := Lib.hid hN
  have HNn := Lib.hid hn
  rw [← hN]
  clear hW2 hN hX hY hb hn hdo hS hT hST hnM
  go_enter Try.func66, Try.ntmps66
  go_wp2_with (refine wpList_load_key rfl _ rfl _ rfl X Y (by rw [← HW.out, ← HN.out]; exact HK.out) ?_)
  rw [← HW.out, ← HN.out]
  refine (HD.out W2).mono ?_
  rintro e w3 ⟨rfl, hb3⟩
  have hsz3 : N + 2 ≤ w3.heap.size := by rw [← HS2.out]; exact hb3.size
  obtain ⟨W4, hW4⟩ : ∃ W4, W4 = (w3.alloc (.cells z16 23)).setCells w3.heap.size 0 (kl S0 T0) := ⟨_, rfl⟩
  have HB4 : Hid (Below (N + 2) W2 W4) := Lib.hid (by rw [hW4]; exact below_setCells _ _ _ _ ((hb3.mono (by rw [HS2.out]; exact Nat.le_refl _)).alloc hsz3 _) hsz3)
  have HS4 : Hid (KeyAt W4 w3.heap.size S0 T0) := Lib.hid (by rw [hW4]; exact KeyAt.stored (Row.zeros w3 23).there S0 T0)
  have HTh : Hid (W4.there w3.heap.size 0 16) := Lib.hid (by rw [hW4]; exact World.there_setCells (Row.zeros w3 23).there _ _ _)
  have HT2 := Lib.hid (Row.zeros w3 23).there
  have HW4 := Lib.hid hW4
  clear hW4 hb3
  go_wp2_with ((refine wpList_store_key rfl _ _ rfl w3.heap.size S0 T0 rfl rfl HT2.out ?_); rw [← HW4.out])
  obtain ⟨sb, hsb⟩ : ∃ sb, sb = w3.heap.size := ⟨_, rfl⟩
  rw [← hsb] at HS4 HTh hsz3 ⊢
  clear hsb HW4 HT2
  go_loopw [6] (fun i wr => ∃ k : Nat, k ≤ cnt n ∧ i = .int .i64 (k : Int) ∧ Hid (Below (N + 2) W2 wr) ∧ Hid (wr.there sb 0 16 ∧ KeyAt wr sb (fld (macS X Y) (S0, T0) g n k).1 (fld (macS X Y) (S0, T0) g n k).2)) (fun i _ => cnt n - (intOf i).toNat)
  case atStart => exact ⟨0, by omega, rfl, HB4, Lib.hid ⟨HTh.out, HS4.out⟩⟩
  case round =>
    obtain ⟨k, hk, rfl, HR, HI⟩ := hrel
    have HRs : Hid (N + 2 ≤ wr.heap.size) := Lib.hid (by rw [← HS2.out]; exact (HR.out.size))
    have HBy : Hid (Byt wr A n c g) := Lib.hid ⟨HY2.out.le, HY2.out.cap, HY2.out.lt, fun h0 => by
      obtain ⟨b, off, e, hc⟩ := HY2.out.at_ h0
      exact ⟨b, off, e, fun i hi => (HR.out.cell (p := ⟨b, off + i, none⟩) (by rw [← HS2.out]; exact block_lt_of_cell (hc i hi))).trans (hc i hi)⟩⟩
    by_cases hlt : k < cnt n
    · have hkn : 16 * k < n := by unfold cnt at hlt; omega
      have hk7 : k < 70000 := by have := HNn.out; omega
      obtain ⟨b, off, rfl, hcell⟩ := HBy.out.at_ (by omega)
      have hd : decide ((k : Int) < ((cnt n : Nat) : Int)) = true := decide_eq_true (by omega)
      have HKr : Hid (KeyAt wr N X Y) := Lib.hid (HK.out.below HR.out (by omega))
      have HI1 := Lib.hid HI.out.1
      have hsk := HOk.out k
      have hpk := HPok.out k
      have hfs : fld (macS X Y) (S0, T0) g n (k + 1) = enc X Y ((fld (macS X Y) (S0, T0) g n k).1 ^^^ (pw g n k).1) ((fld (macS X Y) (S0, T0) g n k).2 ^^^ (pw g n k).2) := rfl
      have hpo := fun (w' : World) (hB' : Below (N + 2) wr w') => refPortion_pw b off n c k g w' HY2.out.lt hkn HNn.out HY2.out.le HY2.out.cap (fun i hi => (hB'.cell (p := ⟨b, off + i, none⟩) (by
        obtain ⟨b2, off2, e, hc2⟩ := HY2.out.at_ (by omega)
        injection e with e
        injection e with e1 e2
        subst e1; subst e2
        rw [← HS2.out]; exact block_lt_of_cell (hc2 i hi))).trans (hcell i hi))
      obtain ⟨S, hS⟩ : ∃ S, S = (fld (macS X Y) (S0, T0) g n k).1 := ⟨_, rfl⟩
      obtain ⟨T, hT⟩ : ∃ T, T = (fld (macS X Y) (S0, T0) g n k).2 := ⟨_, rfl⟩
      obtain ⟨C, hC⟩ : ∃ C, C = (pw g n k).1 := ⟨_, rfl⟩
      obtain ⟨D, hD⟩ : ∃ D, D = (pw g n k).2 := ⟨_, rfl⟩
      unfold Ok at hsk hpk
      rw [← hS, ← hT] at hsk hfs
      rw [← hC, ← hD] at hpk hfs hpo
      have HI2 : Hid (KeyAt wr sb S T) := Lib.hid (by rw [hS, hT]; exact HI.out.2)
      have he1 := fun w => HE.out (S ^^^ C) (T ^^^ D) w (xor_lt hsk.1 hpk.1) (xor_lt hsk.2 hpk.2)
      obtain ⟨P, hP⟩ : ∃ P, P = (enc X Y (S ^^^ C) (T ^^^ D)).1 := ⟨_, rfl⟩
      obtain ⟨Q, hQ⟩ : ∃ Q, Q = (enc X Y (S ^^^ C) (T ^^^ D)).2 := ⟨_, rfl⟩
      rw [← hP, ← hQ] at he1
      have HF : Hid ((fld (macS X Y) (S0, T0) g n (k + 1)).1 = P ∧ (fld (macS X Y) (S0, T0) g n (k + 1)).2 = Q) := Lib.hid (by rw [hfs, hP, hQ]; exact ⟨rfl, rfl⟩)
      have HE1 := Lib.hid he1
      have HX := Lib.hid (fun w => refXor_any S T C D w)
      have HPo := Lib.hid hpo
      clear he1 hpo hfs hS hT hC hD hP hQ hsk hpk hcell HI
      go_wp2_with fail
      refine (HPt.out wr).mono ?_
      rintro e w5 ⟨rfl, rfl⟩
      go_wp2_with fail
      refine wp_region_inv (by kernel_rfl) (by kernel_rfl) (fun l a w' => a = { tmps := #[Value.agg (kl X Y).toArray, Value.slice (some ⟨b, off, none⟩) n c, Value.pointer (some ⟨N, 0, none⟩), undef, Value.pointer (some ⟨N + 1, 0, none⟩), Value.pointer (some ⟨sb, 0, none⟩), Value.int .i64 (k : Int), Value.agg (kl X Y).toArray, Value.slice (some ⟨b, off, none⟩) n c, Value.int .i64 (n : Int), Value.int .u64 (n : Int), Value.agg (kl S0 T0).toArray, Value.int .i64 (k : Int), Value.slice (some ⟨b, off, none⟩) n c, Value.int .i64 ((cnt n : Nat) : Int), Value.bool true, u16, u17, bif l 0 then Value.agg (kl X Y).toArray else u18, bif l 1 then Value.agg (kl S T).toArray else u19, bif l 2 then Value.slice (some ⟨b, off, none⟩) n c else u20, bif l 3 then Value.int .i64 (k : Int) else u21, bif l 4 then Value.agg (kl C D).toArray else u22, bif l 5 then Value.agg (kl (S ^^^ C) (T ^^^ D)).toArray else u23, bif l 6 then Value.agg (kl P Q).toArray else u24, undef], defers := [] } ∧ Below (N + 2) wr w' ∧ KeyAt w' (N) X Y ∧ w'.there (sb) 0 16 ∧ (l 7 = true → KeyAt w' (sb) P Q) ∧ (l 7 = false → KeyAt w' (sb) S T) ∧ (l 7 = true → l 1 = true)) ⟨rfl, (Below.refl _ _).drew, HKr.out, HI1.out, (fun h => by cases h), (fun _ => HI2.out), (fun h => by cases h)⟩ ?_ ?_
      · rintro l a w' i ⟨rfl, hB, K0, hT, hS, hP, ho⟩ hi hli hpre
        have hi2 : i < 8 := hi
        have hcase : i = 0 ∨ i = 1 ∨ i = 2 ∨ i = 3 ∨ i = 4 ∨ i = 5 ∨ i = 6 ∨ i = 7 := by omega
        clear hi hi2
        rcases hcase with rfl | rfl | rfl | rfl | rfl | rfl | rfl | rfl
        · -- 0: Op.load 23 (Operand.tmp 2)
          refine wpOp_step rfl (fun K hK => ?_)
          clear hpre
          rw [if_pos (by rfl)]
          refine wp_load_mid 23 _ rfl _ 0 rfl (kl X Y) _ K0 Try.underlying23 rfl (by rw [kl_len]; exact size23) ?_
          exact hK _ _ ⟨by simp [upd, Act.put], hB, K0, hT, (fun e => hS (by simpa [upd] using e)), (fun e => hP (by simpa [upd] using e)), (by first | (simp [upd]; done) | simpa [upd] using ho)⟩
        · -- 1: Op.load 23 (Operand.tmp 5)
          refine wpOp_step rfl (fun K hK => ?_)
          clear hpre
          rw [if_pos (by rfl)]
          have n7 : l 7 = false := by cases h : l 7; rfl; exact absurd (ho h) (by rw [hli]; decide)
          refine wp_load_mid 23 _ rfl _ 0 rfl (kl S T) _ (hP n7) Try.underlying23 rfl (by rw [kl_len]; exact size23) ?_
          exact hK _ _ ⟨by simp [upd, Act.put], hB, K0, hT, (fun e => hS (by simpa [upd] using e)), (fun e => hP (by simpa [upd] using e)), (by first | (simp [upd]; done) | simpa [upd] using ho)⟩
        · -- 2: Op.move (Operand.tmp 1)
          refine wpOp_step rfl (fun K hK => ?_)
          clear hpre
          rw [if_pos (by rfl)]
          go_simp
          exact hK _ _ ⟨by simp [upd, Act.put], hB, K0, hT, (fun e => hS (by simpa [upd] using e)), (fun e => hP (by simpa [upd] using e)), (by first | (simp [upd]; done) | simpa [upd] using ho)⟩
        · -- 3: Op.move (Operand.tmp 6)
          refine wpOp_step rfl (fun K hK => ?_)
          clear hpre
          rw [if_pos (by rfl)]
          go_simp
          exact hK _ _ ⟨by simp [upd, Act.put], hB, K0, hT, (fun e => hS (by simpa [upd] using e)), (fun e => hP (by simpa [upd] using e)), (by first | (simp [upd]; done) | simpa [upd] using ho)⟩
        · -- 4: Op.call { callee := Callee.value (Operand.func 64), args := 
          have p2 : l 2 = true := hpre _ rfl ⟨2, .data⟩ (by simp) rfl
          have p3 : l 3 = true := hpre _ rfl ⟨3, .data⟩ (by simp) rfl
          refine wpOp_step rfl (fun K hK => ?_)
          simp only [p2, p3, cond_true]
          clear hpre
          rw [if_pos (by rfl)]
          go_simp
          refine (HPo.out _ hB).mono ?_
          rintro e w5 ⟨rfl, hb5⟩
          exact hK _ _ ⟨by simp [upd, Act.put, p2, p3], hB.trans (hb5.mono (Nat.le_trans (HRs.out) hB.size)), K0.keep hb5, there_below hT hb5 (there_lt hT (by omega)), (fun e => (hS (by simpa [upd] using e)).keep hb5), (fun e => (hP (by simpa [upd] using e)).keep hb5), (by first | (simp [upd, p2, p3]; done) | simpa [upd, p2, p3] using ho)⟩
        · -- 5: Op.call { callee := Callee.value (Operand.func 63), args := 
          have p1 : l 1 = true := hpre _ rfl ⟨1, .data⟩ (by simp) rfl
          have p4 : l 4 = true := hpre _ rfl ⟨4, .data⟩ (by simp) rfl
          refine wpOp_step rfl (fun K hK => ?_)
          simp only [p1, p4, cond_true]
          clear hpre
          rw [if_pos (by rfl)]
          go_simp
          refine (HX.out _).mono ?_
          rintro e w5 ⟨rfl, hb5⟩
          exact hK _ _ ⟨by simp [upd, Act.put, p1, p4], hB.trans (hb5.mono (Nat.le_trans (HRs.out) hB.size)), K0.keep hb5, there_below hT hb5 (there_lt hT (by omega)), (fun e => (hS (by simpa [upd] using e)).keep hb5), (fun e => (hP (by simpa [upd] using e)).keep hb5), (by first | (simp [upd, p1, p4]; done) | simpa [upd, p1, p4] using ho)⟩
        · -- 6: Op.call { callee := Callee.value (Operand.func 28), args := 
          have p0 : l 0 = true := hpre _ rfl ⟨0, .data⟩ (by simp) rfl
          have p5 : l 5 = true := hpre _ rfl ⟨5, .data⟩ (by simp) rfl
          refine wpOp_step rfl (fun K hK => ?_)
          simp only [p0, p5, cond_true]
          clear hpre
          rw [if_pos (by rfl)]
          go_simp
          refine (HE1.out _).mono ?_
          rintro e w5 ⟨rfl, hb5⟩
          exact hK _ _ ⟨by simp [upd, Act.put, p0, p5], hB.trans (hb5.mono (Nat.le_trans (HRs.out) hB.size)), K0.keep hb5, there_below hT hb5 (there_lt hT (by omega)), (fun e => (hS (by simpa [upd] using e)).keep hb5), (fun e => (hP (by simpa [upd] using e)).keep hb5), (by first | (simp [upd, p0, p5]; done) | simpa [upd, p0, p5] using ho)⟩
        · -- 7: Op.store 23 (Operand.tmp 5) (Operand.tmp 24)
          have p6 : l 6 = true := hpre _ rfl ⟨6, .data⟩ (by simp) rfl
          have p0 : l 0 = true := hpre _ rfl ⟨0, .phase⟩ (by simp) rfl
          have p1 : l 1 = true := hpre _ rfl ⟨1, .phase⟩ (by simp) rfl
          have p2 : l 2 = true := hpre _ rfl ⟨2, .phase⟩ (by simp) rfl
          have p3 : l 3 = true := hpre _ rfl ⟨3, .phase⟩ (by simp) rfl
          have p4 : l 4 = true := hpre _ rfl ⟨4, .phase⟩ (by simp) rfl
          have p5 : l 5 = true := hpre _ rfl ⟨5, .phase⟩ (by simp) rfl
          refine wpOp_step rfl (fun K hK => ?_)
          simp only [p6, p0, p1, p2, p3, p4, p5, cond_true]
          clear hpre
          rw [if_pos (by rfl)]
          refine wp_store_mid 23 _ _ rfl (sb) 0 (kl P Q).toArray rfl rfl (by simpa [kl_len] using hT) (by simp [kl_len, size23]) (kl_arr P Q) ?_
          rw [List.toList_toArray]
          exact hK _ _ ⟨by simp [upd, Act.put, p6, p0, p1, p2, p3, p4, p5], below_setCells _ _ _ _ hB (by omega), K0.setCells _ _ (by omega), World.there_setCells hT _ _ _, (fun _ => KeyAt.stored hT P Q), (fun e => absurd e (by simp [upd])), (by simp [upd, p6, p0, p1, p2, p3, p4, p5])⟩
      · rintro l a w9 hall ⟨rfl, hBz, K0, hT, hS, hP, ho⟩
        simp only [hall 0 (by decide), hall 1 (by decide), hall 2 (by decide), hall 3 (by decide), hall 4 (by decide), hall 5 (by decide), hall 6 (by decide), cond_true]
        replace hS := hS (hall 7 (by decide))
        clear hall
        go_wp2
        go_roundw
        case rel => exact ⟨k + 1, by omega, by go_num, Lib.hid (HR.out.trans (hBz.mono (Nat.le_refl _))), Lib.hid ⟨hT, by rw [HF.out.1, HF.out.2]; exact hS⟩⟩
        case measure => simp [intOf]; omega
    · obtain rfl : k = cnt n := by omega
      have hd : decide (((cnt n : Nat) : Int) < ((cnt n : Nat) : Int)) = false := decide_eq_false (by omega)
      have HKf : Hid (KeyAt wr sb (macV X Y g n).1 (macV X Y g n).2) := Lib.hid (by rw [HM.out]; exact HI.out.2)
      have HTf : Hid (wr.there (N + 1) 0 16) := Lib.hid (there_below HT.out HR.out (by omega))
      go_wp2_with fail
      refine (HPt.out wr).mono ?_
      rintro e w5 ⟨rfl, rfl⟩
      go_wp2_with (first
        | (refine wpList_load_key rfl _ rfl sb rfl _ _ HKf.out ?_)
        | (refine wpList_store_key rfl _ _ rfl (N + 1) _ _ rfl rfl HTf.out ?_))
      exact ends_key rfl (N + 1) _ _ HTf.out rfl rfl ⟨rfl, below_setCells _ _ _ _ (HB.out.trans (HR.out.mono (by omega))) (by omega)⟩
end Go.Proofs.Ytphhppdokdageaa
