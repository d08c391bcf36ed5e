/-
  The specification's Digest and Hash.
-/
import Derived.Test.YtphhppdokdageaaRfT
import Derived.Test.YtphhppdokdageaaHshD
import Derived.Test.YtphhppdokdageaaRfM
namespace Go.Proofs.Ytphhppdokdageaa
open Go.RowKit SP
set_option linter.unusedVariables false
set_option linter.unusedSimpArgs false

set_option maxRecDepth 100000 in
set_option maxHeartbeats 4000000 in
theorem refDigest_some (ad : Addr) (n : Nat) (c : Nat) (g : Nat → Nat) (w : World) (hb : Byt w (some ad) n c g) (hn : n ≤ 16384) :
    Calls Try.prog 65 #[.slice (some ad) n c] w fun e w' => e = .returned (.agg (kl (hshV g n).1 (hshV g n).2).toArray) ∧ Below w.heap.size w w' := by
  obtain ⟨A, hA⟩ : ∃ A : Option Addr, A = (some ad) := ⟨_, rfl⟩
  rw [← hA] at hb ⊢
  obtain ⟨i0, hi, hz0, hz1, hz2⟩ := info_parts info5
  have HPad := Lib.hid (fun w => refPad_any n w hn)
  have HPb := Lib.hid (pdb_lt hb.lt n)
  have HOk : Hid (∀ k, Ok (fld hshS (S5a, S5a) (pdb g n) (pdl n) k)) := Lib.hid (fun k => fld_ok (fun _ _ hs hp => hshS_ok hs hp) ⟨S5a_lt, S5a_lt⟩ (pdb_lt hb.lt n) _ k)
  have HPok : Hid (∀ k, Ok (pw (pdb g n) (pdl n) k)) := Lib.hid (fun k => pw_ok (pdb_lt hb.lt n) _ k)
  obtain ⟨P, hP⟩ : ∃ P, P = (hshV g n).1 := ⟨_, rfl⟩
  obtain ⟨Q, hQ⟩ : ∃ Q, Q = (hshV g n).2 := ⟨_, rfl⟩
  rw [← hP, ← hQ]
  have HPQ : Hid (P = (fld hshS (S5a, S5a) (pdb g n) (pdl n) (cnt (pdl n))).1 ∧ Q = (fld hshS (S5a, S5a) (pdb g n) (pdl n) (cnt (pdl n))).2) := Lib.hid ⟨hP, hQ⟩
  have HAll := Lib.hid (plt_all g n)
  have hzz : zz n ≤ 16 := by unfold zz; omega
  have hpd : n + (1 + zz n + 8) = pdl n := by unfold pdl; omega
  have HPd := Lib.hid hpd
  have HY := Lib.hid hb
  have HG := Lib.hid hb.lt
  have HA := Lib.hid hA
  have HNn := Lib.hid hn
  obtain ⟨N, hN⟩ : ∃ N, N = w.heap.size := ⟨_, rfl⟩
  obtain ⟨W2, hW2⟩ : ∃ W2, W2 = (w.alloc (.cells z16 23)).alloc (.cells z16 23) := ⟨_, rfl⟩
  have HB2 : Hid (Below N w W2) := Lib.hid (by rw [hW2, hN]; exact ((Below.refl _ _).alloc (Nat.le_refl _) _).alloc (by simp) _)
  have HL2 : Hid (W2.heap.size = N + 2) := Lib.hid (by rw [hW2, hN]; simp)
  have HT2 : Hid (W2.there N 0 16) := Lib.hid (by
    have h := ((Row.zeros w 23).keep ((Below.refl _ _).alloc (Nat.le_refl _) (.cells z16 23))).there
    rw [hW2, hN]; exact h)
  have HR2 : Hid (Row W2 (N + 1) (fun _ => 0)) := Lib.hid (by
    have h := Row.zeros (w.alloc (.cells z16 23)) 23
    rw [World.size_alloc] at h
    rw [hW2, hN]; exact h)
  have HW := Lib.hid hW2
  have HN := Lib.hid hN
  rw [← hN]
  clear hW2 hN hP hQ hb hA hpd
  go_enter Try.func65, Try.ntmps65
  go_wp2_with fail
  rw [← HW.out, ← HN.out]
  go_loopw [4] (fun i wr => ∃ (k : Nat) (f : Nat → Nat), k ≤ 16 ∧ i = .int .i64 (k : Int) ∧ Hid (Below (N + 1) W2 wr) ∧ Hid (Row wr (N + 1) f ∧ ∀ j, j < k → f j = 90)) (fun i _ => 16 - (intOf i).toNat)
  case atStart => exact ⟨0, _, by omega, rfl, Lib.hid (Below.refl _ _), Lib.hid ⟨HR2.out, fun j hj => by omega⟩⟩
  case round =>
    obtain ⟨k2, f, hk2, rfl, HBr, HI⟩ := hrel
    by_cases hlt2 : k2 < 16
    · have t1 : decide ((k2 : Int) < 16) = true := decide_eq_true (by omega)
      have t2 : decide (k2 < 16) = true := decide_eq_true hlt2
      have c1 := HI.out.1.cell k2 hlt2
      have f1' := HI.out.1.fr k2 hlt2
      have l1 : (0 : Int) ≤ (k2 : Int) := by omega
      have l2 : (k2 : Int) < 16 := by omega
      go_wp2_with fail
      go_roundw
      case rel =>
        refine ⟨k2 + 1, _, by omega, by go_num, Lib.hid (HBr.out.setCell (p := ⟨N + 1, k2, none⟩) (Nat.le_refl _) _), Lib.hid ⟨HI.out.1.set k2 90 hlt2, fun j hj => ?_⟩⟩
        by_cases e : j = k2
        · rw [if_pos e]
        · rw [if_neg e]; exact HI.out.2 j (by omega)
      case measure => simp [intOf]; omega
    · obtain rfl : k2 = 16 := by omega
      have t1 : decide (((16 : Nat) : Int) < 16) = false := by decide
      obtain ⟨w8, hw8⟩ : ∃ w8, w8 = wr := ⟨_, rfl⟩
      rw [← hw8] at HBr HI ⊢
      have K8 : Hid (KeyAt w8 (N + 1) S5a S5a) := Lib.hid (HI.out.1.key fun j hj => by rw [HI.out.2 j hj, kby_5a j hj])
      have T8 : Hid (w8.there (N + 1) 0 16) := Lib.hid HI.out.1.there
      have U8 : Hid (w8.there N 0 16) := Lib.hid (there_below HT2.out HBr.out (by omega))
      have B8 : Hid (Below N w w8) := Lib.hid (HB2.out.trans (HBr.out.mono (by omega)))
      have Y8 : Hid (Byt w8 A n c g) := Lib.hid (HY.out.keep (by rw [← HN.out]; exact B8.out))
      have S8 : Hid (N + 2 ≤ w8.heap.size) := Lib.hid (by rw [← HL2.out]; exact HBr.out.size)
      clear HI HBr hlt2 hw8
      obtain ⟨m9, hm9⟩ : ∃ m9, m9 = w8.heap.size := ⟨_, rfl⟩
      obtain ⟨W9, hW9⟩ : ∃ W9, W9 = w8.alloc (.cells #[] 5) := ⟨_, rfl⟩
      have b89 : Below m9 w8 W9 := by rw [hW9, hm9]; exact (Below.refl _ _).alloc (Nat.le_refl _) _
      have HO9 : Hid (W9.ownsRow m9 5 1 (.slice (some ⟨m9, 0, none⟩) 0 0) 0 []) := Lib.hid (by
        rw [hW9, hm9]
        exact ⟨rfl, .inr ⟨w8.heap.size, 0, #[], rfl, Nat.le_refl _, heap_alloc_new w8 (.cells #[] 5), Nat.le_refl _, by simp [maxLen], rfl, rfl⟩⟩)
      have HY9 : Hid (Byt W9 A n c g) := Lib.hid (Y8.out.keep (by rw [← hm9]; exact b89))
      have B9 := Lib.hid b89
      have HW9 := Lib.hid hW9
      have HM9 := Lib.hid hm9
      clear hW9 b89 hm9
      have hbs : m9 ≤ W9.heap.size := by have := B9.out.size; rw [← HM9.out] at this; exact this
      have hnw : ∀ j u, (bl ((List.range n).map g))[j]? = some u → W9.cell? (ad.add j) = some u := by
        intro j u hu
        have hj : j < n := by have := (List.getElem?_eq_some_iff.1 hu).1; simp [bl] at this; exact this
        obtain ⟨b, off, e, hc⟩ := HY9.out.at_ (by omega)
        rw [HA.out] at e
        injection e with e
        subst e
        rw [Addr.add_lit, hc j hj, ← hu]
        exact (bl_get _ j (g j) (by simp [List.getElem?_map, List.getElem?_range hj])).symm
      have hlen : (bl ((List.range n).map g)).length = n * 1 := by simp [bl]
      have hml : 0 + n ≤ maxLen := by unfold maxLen; omega
      have h47 : (0 + n) * 1 ≤ 140737488355328 := by omega
      have ho := HO9.out
      go_wp2_with (at_builtin; rw [← HM9.out, ← HW9.out]; refine wpList_append_own _ rfl _ _ 26 rfl m9 5 i0 _ 1 1 Try.underlying26 hi hz0 hz1 hz2 rfl (by omega) _ 0 [] rfl ho ad n c (bl ((List.range n).map g)) (by rw [HA.out]; rfl) hlen hnw (bl_one _) hml h47 hbs ?_; intro v10 w10 hown10 hg10 _; have HO10 : Hid (w10.ownsRow m9 5 1 v10 n (bl ((List.range n).map g))) := Lib.hid (by rw [Nat.zero_add, List.nil_append] at hown10; exact hown10); have B10 : Hid (Below m9 w8 w10) := Lib.hid (B9.out.grown hg10 hbs (fun b hb => own_block ho hb.symm)); have S10 : Hid (m9 ≤ w10.heap.size) := Lib.hid (Nat.le_trans hbs hg10.size); clear hown10 hg10)
      clear ho hnw hlen hml h47 hbs
      refine (HPad.out w10).mono ?_
      rintro e w11 ⟨v11, rfl, hb11, ho11⟩
      obtain ⟨g11, c11, hv11, hB11, hnc11, hcm11, hcell11⟩ := own_slice ho11 (by omega)
      subst hv11
      have hO11 := own_below HO10.out hb11
      have B11 := Lib.hid (B10.out.trans (hb11.mono S10.out))
      have S11 := Lib.hid (Nat.le_trans S10.out hb11.size)
      have hs11 := S11.out
      clear hb11 ho11 HO10 B10 S10
      go_wp2_with (at_builtin; refine wpList_append_own _ rfl _ _ 26 rfl m9 5 i0 _ 1 1 Try.underlying26 hi hz0 hz1 hz2 rfl (by omega) v10 n (bl ((List.range n).map g)) rfl hO11 ⟨g11, 0, none⟩ (1 + zz n + 8) c11 (plt n (1 + zz n + 8)) rfl (by simp [plt, bl]) (fun j u hu => by rw [Addr.add_lit, Nat.zero_add]; exact hcell11 j u hu) (bl_one _) (by unfold maxLen; omega) (by omega) hs11 ?_; intro v13 w13 hown13 hg13 _)
      have HO13 : w13.ownsRow m9 5 1 v13 (pdl n) (bl ((List.range (pdl n)).map (pdb g n))) := by rw [HAll.out, ← HPd.out]; exact hown13
      have hpl0 : 0 < pdl n := by unfold pdl; omega
      have hpl1 : pdl n ≤ 20000 := by unfold pdl; omega
      obtain ⟨b13, c13, hv13, hb13, hbl13, hn13, hm13, hr13⟩ := own_rown HO13 hpl0
      subst hv13
      have B13 : Hid (Below m9 w8 w13) := Lib.hid (B11.out.grown hg13 hs11 (fun b hb => own_block hO11 hb.symm))
      have S13 : Hid (m9 ≤ w13.heap.size) := Lib.hid (Nat.le_trans hs11 hg13.size)
      have HPc := Lib.hid (fun w => refPortions_any (some ⟨b13, 0, none⟩) (pdl n) c13 w (by omega))
      have HPo : Hid (∀ (w' : World) (k : Nat), RowN w' b13 (pdl n) (pdb g n) → 16 * k < pdl n → Calls Try.prog 64 #[.slice (some ⟨b13, 0, none⟩) (pdl n) c13, .int .i64 (k : Int)] w' fun e w2 => e = .returned (.agg (kl (pw (pdb g n) (pdl n) k).1 (pw (pdb g n) (pdl n) k).2).toArray) ∧ Below w'.heap.size w' w2) := Lib.hid (fun w' k hy hk =>
        refPortion_pw b13 0 (pdl n) c13 k (pdb g n) w' HPb.out hk (by omega) hn13 hm13 (fun i hi => by rw [Nat.zero_add]; exact hy.cell i hi))
      have K13 : Hid (KeyAt w13 (N + 1) S5a S5a) := Lib.hid (K8.out.below B13.out (by rw [HM9.out]; have := S8.out; omega))
      have T13 : Hid (w13.there (N + 1) 0 16) := Lib.hid (there_below T8.out B13.out (by rw [HM9.out]; have := S8.out; omega))
      have U13 : Hid (w13.there N 0 16) := Lib.hid (there_below U8.out B13.out (by rw [HM9.out]; have := S8.out; omega))
      have Bw13 : Hid (Below N w w13) := Lib.hid (B8.out.trans (B13.out.mono (by rw [HM9.out]; have := S8.out; omega)))
      have O13 : Hid (N + 2 ≤ w13.heap.size ∧ N + 2 ≤ b13) := Lib.hid (by have := S13.out; have := HM9.out; have := S8.out; omega)
      have R13 := Lib.hid hr13
      clear hown13 hg13 HO13 hr13 hO11 hs11 hcell11 B13 S13 B11 S11 hb13 hbl13 hn13 hm13
      go_wp2_with fail
      go_loopw [6] (fun i wr => ∃ k : Nat, k ≤ cnt (pdl n) ∧ i = .int .i64 (k : Int) ∧ Hid (Below (N + 1) w13 wr) ∧ Hid (N + 2 ≤ wr.heap.size) ∧ Hid (RowN wr b13 (pdl n) (pdb g n)) ∧ Hid (wr.there (N + 1) 0 16 ∧ KeyAt wr (N + 1) (fld hshS (S5a, S5a) (pdb g n) (pdl n) k).1 (fld hshS (S5a, S5a) (pdb g n) (pdl n) k).2)) (fun i _ => cnt (pdl n) - (intOf i).toNat)
      case atStart => exact ⟨0, by omega, rfl, Lib.hid (Below.refl _ _), Lib.hid O13.out.1, R13, Lib.hid ⟨T13.out, K13.out⟩⟩
      case round =>
        obtain ⟨k3, hk3, rfl, HBr, HRs, HRw, HI⟩ := hrel
        clear R13 T13 K13
        go_wp2_with fail
        refine (HPc.out wr).mono ?_
        rintro e w15 ⟨rfl, rfl⟩
        by_cases hlt : k3 < cnt (pdl n)
        · have hk7 : k3 < 70000 := by unfold cnt at hlt; omega
          have hkp : 16 * k3 < pdl n := by unfold cnt at hlt; omega
          have hd : decide ((k3 : Int) < ((cnt (pdl n) : Nat) : Int)) = true := decide_eq_true (by omega)
          have hd2 : decide (k3 < cnt (pdl n)) = true := decide_eq_true hlt
          have hsk := HOk.out k3
          have hpk := HPok.out k3
          have hpo := fun (w' : World) (h : RowN w' b13 (pdl n) (pdb g n)) => HPo.out w' k3 h hkp
          obtain ⟨S, hS⟩ : ∃ S, S = (fld hshS (S5a, S5a) (pdb g n) (pdl n) k3).1 := ⟨_, rfl⟩
          obtain ⟨T, hT⟩ : ∃ T, T = (fld hshS (S5a, S5a) (pdb g n) (pdl n) k3).2 := ⟨_, rfl⟩
          obtain ⟨C, hC⟩ : ∃ C, C = (pw (pdb g n) (pdl n) k3).1 := ⟨_, rfl⟩
          obtain ⟨D, hD⟩ : ∃ D, D = (pw (pdb g n) (pdl n) k3).2 := ⟨_, rfl⟩
          unfold Ok at hsk hpk
          rw [← hS, ← hT] at hsk
          rw [← hC, ← hD] at hpk hpo
          have hfs1 : fld hshS (S5a, S5a) (pdb g n) (pdl n) (k3 + 1) = ((enc C D S T).1 ^^^ S, (enc C D S T).2 ^^^ T) := by rw [hC, hD, hS, hT]; rfl
          have HI2 : Hid (KeyAt wr (N + 1) S T) := Lib.hid (by rw [hS, hT]; exact HI.out.2)
          have HI1 := Lib.hid HI.out.1
          have he1 := fun w => refEncrypt_any C D S T w hpk.1 hpk.2 hsk.1 hsk.2
          obtain ⟨U0, hU0⟩ : ∃ U0, U0 = (enc C D S T).1 := ⟨_, rfl⟩
          obtain ⟨V0, hV0⟩ : ∃ V0, V0 = (enc C D S T).2 := ⟨_, rfl⟩
          rw [← hU0, ← hV0] at he1 hfs1
          have hx1 := fun w => refXor_any U0 V0 S T w
          obtain ⟨U, hU⟩ : ∃ U, U = U0 ^^^ S := ⟨_, rfl⟩
          obtain ⟨V, hV⟩ : ∃ V, V = V0 ^^^ T := ⟨_, rfl⟩
          rw [← hU, ← hV] at hx1 hfs1
          have HF : Hid ((fld hshS (S5a, S5a) (pdb g n) (pdl n) (k3 + 1)).1 = U ∧ (fld hshS (S5a, S5a) (pdb g n) (pdl n) (k3 + 1)).2 = V) := Lib.hid (by rw [hfs1]; exact ⟨rfl, rfl⟩)
          have HE1 := Lib.hid he1
          have HX1 := Lib.hid hx1
          have HPp := Lib.hid hpo
          have O1 := O13.out
          have HRs1 : Hid (N + 1 ≤ wr.heap.size) := Lib.hid (by have := HRs.out; omega)
          clear he1 hx1 hpo hfs1 hS hT hC hD hU hV hU0 hV0 hsk hpk HI
          go_wp2_with fail
          refine wp_region_inv (by kernel_rfl) (by kernel_rfl) (fun l a w' => a = { tmps := #[Value.slice A n c, undef, Value.pointer (some ⟨N, 0, none⟩), Value.pointer (some ⟨N + 1, 0, none⟩), Value.int .i64 (16 : Int), Value.slice (some ⟨b13, 0, none⟩) (pdl n) c13, Value.int .i64 (k3 : Int), Value.int .i64 (16 : Int), Value.bool false, u9, u10, u11, u12, Value.slice (some ⟨m9, 0, none⟩) 0 0, Value.slice A n c, v10, v10, Value.slice A n c, Value.int .i64 (n : Int), Value.slice (some ⟨g11, 0, none⟩) (1 + zz n + 8) c11, Value.slice (some ⟨b13, 0, none⟩) (pdl n) c13, Value.int .i64 (k3 : Int), Value.slice (some ⟨b13, 0, none⟩) (pdl n) c13, Value.int .i64 (cnt (pdl n) : Int), Value.bool true, u25, u26, bif l 0 then Value.slice (some ⟨b13, 0, none⟩) (pdl n) c13 else u27, bif l 1 then Value.int .i64 (k3 : Int) else u28, bif l 2 then Value.agg (kl C D).toArray else u29, bif l 3 then Value.agg (kl S T).toArray else u30, bif l 4 then Value.agg (kl U0 V0).toArray else u31, bif l 5 then Value.agg (kl S T).toArray else u32, bif l 6 then Value.agg (kl U V).toArray else u33, undef], defers := [] } ∧ Below (N + 1) wr w' ∧ RowN w' b13 (pdl n) (pdb g n) ∧ w'.there (N + 1) 0 16 ∧ (l 7 = true → KeyAt w' (N + 1) U V) ∧ (l 7 = false → KeyAt w' (N + 1) S T) ∧ (l 7 = true → l 3 = true) ∧ (l 7 = true → l 5 = true)) ⟨rfl, (Below.refl _ _).drew, HRw.out.drew, HI1.out, (fun h => by cases h), (fun _ => HI2.out), (fun h => by cases h), (fun h => by cases h)⟩ ?_ ?_
          · rintro l a w' i ⟨rfl, hB, K0, hT, hS, hP, ho3, ho5⟩ hi hli hpre
            have hi2 : i < 8 := hi
            have hcase : i = 0 ∨ i = 1 ∨ i = 2 ∨ i = 3 ∨ i = 4 ∨ i = 5 ∨ i = 6 ∨ i = 7 := by omega
            clear hi hi2
            rcases hcase with rfl | rfl | rfl | rfl | rfl | rfl | rfl | rfl
            · -- 0: Op.move (Operand.tmp 5)
              refine wpOp_step rfl (fun K hK => ?_)
              clear hpre
              rw [if_pos (by rfl)]
              go_simp
              exact hK _ _ ⟨by simp [upd, Act.put], hB, K0, hT, (fun e => hS (by simpa [upd] using e)), (fun e => hP (by simpa [upd] using e)), (by first | (simp [upd]; done) | simpa [upd] using ho3), (by first | (simp [upd]; done) | simpa [upd] using ho5)⟩
            · -- 1: Op.move (Operand.tmp 6)
              refine wpOp_step rfl (fun K hK => ?_)
              clear hpre
              rw [if_pos (by rfl)]
              go_simp
              exact hK _ _ ⟨by simp [upd, Act.put], hB, K0, hT, (fun e => hS (by simpa [upd] using e)), (fun e => hP (by simpa [upd] using e)), (by first | (simp [upd]; done) | simpa [upd] using ho3), (by first | (simp [upd]; done) | simpa [upd] using ho5)⟩
            · -- 2: Op.call { callee := Callee.value (Operand.func 64), args := 
              have p0 : l 0 = true := hpre _ rfl ⟨0, .data⟩ (by simp) rfl
              have p1 : l 1 = true := hpre _ rfl ⟨1, .data⟩ (by simp) rfl
              refine wpOp_step rfl (fun K hK => ?_)
              simp only [p0, p1, cond_true]
              clear hpre
              rw [if_pos (by rfl)]
              go_simp
              refine ((fun _ : True => HPp.out w' K0) (by have := hB; trivial)).mono ?_
              rintro e w5 ⟨rfl, hb5⟩
              exact hK _ _ ⟨by simp [upd, Act.put, p0, p1], hB.trans (hb5.mono (Nat.le_trans (HRs1.out) hB.size)), K0.keep hb5, there_below hT hb5 (there_lt hT (by omega)), (fun e => (hS (by simpa [upd] using e)).keep hb5), (fun e => (hP (by simpa [upd] using e)).keep hb5), (by first | (simp [upd, p0, p1]; done) | simpa [upd, p0, p1] using ho3), (by first | (simp [upd, p0, p1]; done) | simpa [upd, p0, p1] using ho5)⟩
            · -- 3: Op.load 23 (Operand.tmp 3)
              refine wpOp_step rfl (fun K hK => ?_)
              clear hpre
              rw [if_pos (by rfl)]
              have n7 : l 7 = false := by cases h : l 7; rfl; exact absurd (ho3 h) (by rw [hli]; decide)
              refine wp_load_mid 23 _ rfl _ 0 rfl (kl S T) _ (hP n7) Try.underlying23 rfl (by rw [kl_len]; exact size23) ?_
              exact hK _ _ ⟨by simp [upd, Act.put], hB, K0, hT, (fun e => hS (by simpa [upd] using e)), (fun e => hP (by simpa [upd] using e)), (by first | (simp [upd]; done) | simpa [upd] using ho3), (by first | (simp [upd]; done) | simpa [upd] using ho5)⟩
            · -- 4: Op.call { callee := Callee.value (Operand.func 28), args := 
              have p2 : l 2 = true := hpre _ rfl ⟨2, .data⟩ (by simp) rfl
              have p3 : l 3 = true := hpre _ rfl ⟨3, .data⟩ (by simp) rfl
              refine wpOp_step rfl (fun K hK => ?_)
              simp only [p2, p3, cond_true]
              clear hpre
              rw [if_pos (by rfl)]
              go_simp
              refine (HE1.out _).mono ?_
              rintro e w5 ⟨rfl, hb5⟩
              exact hK _ _ ⟨by simp [upd, Act.put, p2, p3], hB.trans (hb5.mono (Nat.le_trans (HRs1.out) hB.size)), K0.keep hb5, there_below hT hb5 (there_lt hT (by omega)), (fun e => (hS (by simpa [upd] using e)).keep hb5), (fun e => (hP (by simpa [upd] using e)).keep hb5), (by first | (simp [upd, p2, p3]; done) | simpa [upd, p2, p3] using ho3), (by first | (simp [upd, p2, p3]; done) | simpa [upd, p2, p3] using ho5)⟩
            · -- 5: Op.load 23 (Operand.tmp 3)
              refine wpOp_step rfl (fun K hK => ?_)
              clear hpre
              rw [if_pos (by rfl)]
              have n7 : l 7 = false := by cases h : l 7; rfl; exact absurd (ho5 h) (by rw [hli]; decide)
              refine wp_load_mid 23 _ rfl _ 0 rfl (kl S T) _ (hP n7) Try.underlying23 rfl (by rw [kl_len]; exact size23) ?_
              exact hK _ _ ⟨by simp [upd, Act.put], hB, K0, hT, (fun e => hS (by simpa [upd] using e)), (fun e => hP (by simpa [upd] using e)), (by first | (simp [upd]; done) | simpa [upd] using ho3), (by first | (simp [upd]; done) | simpa [upd] using ho5)⟩
            · -- 6: Op.call { callee := Callee.value (Operand.func 63), args := 
              have p4 : l 4 = true := hpre _ rfl ⟨4, .data⟩ (by simp) rfl
              have p5 : l 5 = true := hpre _ rfl ⟨5, .data⟩ (by simp) rfl
              refine wpOp_step rfl (fun K hK => ?_)
              simp only [p4, p5, cond_true]
              clear hpre
              rw [if_pos (by rfl)]
              go_simp
              refine (HX1.out _).mono ?_
              rintro e w5 ⟨rfl, hb5⟩
              exact hK _ _ ⟨by simp [upd, Act.put, p4, p5], hB.trans (hb5.mono (Nat.le_trans (HRs1.out) hB.size)), K0.keep hb5, there_below hT hb5 (there_lt hT (by omega)), (fun e => (hS (by simpa [upd] using e)).keep hb5), (fun e => (hP (by simpa [upd] using e)).keep hb5), (by first | (simp [upd, p4, p5]; done) | simpa [upd, p4, p5] using ho3), (by first | (simp [upd, p4, p5]; done) | simpa [upd, p4, p5] using ho5)⟩
            · -- 7: Op.store 23 (Operand.tmp 3) (Operand.tmp 33)
              have p6 : l 6 = true := hpre _ rfl ⟨6, .data⟩ (by simp) rfl
              have p0 : l 0 = true := hpre _ rfl ⟨0, .phase⟩ (by simp) rfl
              have p1 : l 1 = true := hpre _ rfl ⟨1, .phase⟩ (by simp) rfl
              have p2 : l 2 = true := hpre _ rfl ⟨2, .phase⟩ (by simp) rfl
              have p3 : l 3 = true := hpre _ rfl ⟨3, .phase⟩ (by simp) rfl
              have p4 : l 4 = true := hpre _ rfl ⟨4, .phase⟩ (by simp) rfl
              have p5 : l 5 = true := hpre _ rfl ⟨5, .phase⟩ (by simp) rfl
              refine wpOp_step rfl (fun K hK => ?_)
              simp only [p6, p0, p1, p2, p3, p4, p5, cond_true]
              clear hpre
              rw [if_pos (by rfl)]
              refine wp_store_mid 23 _ _ rfl (N + 1) 0 (kl U V).toArray rfl rfl (by simpa [kl_len] using hT) (by simp [kl_len, size23]) (kl_arr U V) ?_
              rw [List.toList_toArray]
              exact hK _ _ ⟨by simp [upd, Act.put, p6, p0, p1, p2, p3, p4, p5], below_setCells _ _ _ _ hB (by omega), K0.setCells _ _ (by omega), World.there_setCells hT _ _ _, (fun _ => KeyAt.stored hT U V), (fun e => absurd e (by simp [upd])), (by simp [upd, p6, p0, p1, p2, p3, p4, p5]), (by simp [upd, p6, p0, p1, p2, p3, p4, p5])⟩
          · rintro l a w9 hall ⟨rfl, hBz, K0, hT, hS, hP, ho3, ho5⟩
            simp only [hall 0 (by decide), hall 1 (by decide), hall 2 (by decide), hall 3 (by decide), hall 4 (by decide), hall 5 (by decide), hall 6 (by decide), cond_true]
            replace hS := hS (hall 7 (by decide))
            clear hall
            go_wp2
            go_roundw
            case rel => exact ⟨k3 + 1, by omega, by go_num, Lib.hid (HBr.out.trans hBz), Lib.hid (Nat.le_trans HRs.out hBz.size), Lib.hid K0, Lib.hid ⟨hT, by rw [HF.out.1, HF.out.2]; exact hS⟩⟩
            case measure => simp [intOf]; omega
        · have hkn : k3 = cnt (pdl n) := by omega
          have hd : decide ((k3 : Int) < ((cnt (pdl n) : Nat) : Int)) = false := decide_eq_false (by omega)
          have hd2 : decide (k3 < cnt (pdl n)) = false := decide_eq_false hlt
          have HKf : Hid (KeyAt wr (N + 1) P Q) := Lib.hid (by have h := HI.out.2; rw [hkn, ← HPQ.out.1, ← HPQ.out.2] at h; exact h)
          have HTf : Hid (wr.there N 0 16) := Lib.hid (there_below U13.out HBr.out (by omega))
          have HCf : Hid (Below N w wr) := Lib.hid (Bw13.out.trans (HBr.out.mono (by omega)))
          clear HI hlt
          go_wp2_with (first
            | (refine wpList_load_key rfl _ rfl (N + 1) rfl P Q HKf.out ?_)
            | (refine wpList_store_key rfl _ _ rfl N P Q rfl rfl HTf.out ?_))
          exact ends_key rfl N P Q HTf.out rfl rfl ⟨rfl, below_setCells _ _ _ _ HCf.out (Nat.le_refl _)⟩

set_option maxRecDepth 100000 in
set_option maxHeartbeats 4000000 in
theorem refDigest_none (c : Nat) (g : Nat → Nat) (w : World) (hb : Byt w none 0 c g) :
    Calls Try.prog 65 #[.slice none 0 c] w fun e w' => e = .returned (.agg (kl (hshV g 0).1 (hshV g 0).2).toArray) ∧ Below w.heap.size w w' := by
  obtain ⟨n, hn0⟩ : ∃ n, n = 0 := ⟨0, rfl⟩
  have hn : n ≤ 16384 := by omega
  rw [← hn0] at hb ⊢
  have HN0 := Lib.hid hn0
  clear hn0
  obtain ⟨A, hA⟩ : ∃ A : Option Addr, A = none := ⟨_, rfl⟩
  rw [← hA] at hb ⊢
  obtain ⟨i0, hi, hz0, hz1, hz2⟩ := info_parts info5
  have HPad := Lib.hid (fun w => refPad_any n w hn)
  have HPb := Lib.hid (pdb_lt hb.lt n)
  have HOk : Hid (∀ k, Ok (fld hshS (S5a, S5a) (pdb g n) (pdl n) k)) := Lib.hid (fun k => fld_ok (fun _ _ hs hp => hshS_ok hs hp) ⟨S5a_lt, S5a_lt⟩ (pdb_lt hb.lt n) _ k)
  have HPok : Hid (∀ k, Ok (pw (pdb g n) (pdl n) k)) := Lib.hid (fun k => pw_ok (pdb_lt hb.lt n) _ k)
  obtain ⟨P, hP⟩ : ∃ P, P = (hshV g n).1 := ⟨_, rfl⟩
  obtain ⟨Q, hQ⟩ : ∃ Q, Q = (hshV g n).2 := ⟨_, rfl⟩
  rw [← hP, ← hQ]
  have HPQ : Hid (P = (fld hshS (S5a, S5a) (pdb g n) (pdl n) (cnt (pdl n))).1 ∧ Q = (fld hshS (S5a, S5a) (pdb g n) (pdl n) (cnt (pdl n))).2) := Lib.hid ⟨hP, hQ⟩
  have HAll := Lib.hid (plt_all g n)
  have hzz : zz n ≤ 16 := by unfold zz; omega
  have hpd : n + (1 + zz n + 8) = pdl n := by unfold pdl; omega
  have HPd := Lib.hid hpd
  have HY := Lib.hid hb
  have HG := Lib.hid hb.lt
  have HA := Lib.hid hA
  have HNn := Lib.hid hn
  obtain ⟨N, hN⟩ : ∃ N, N = w.heap.size := ⟨_, rfl⟩
  obtain ⟨W2, hW2⟩ : ∃ W2, W2 = (w.alloc (.cells z16 23)).alloc (.cells z16 23) := ⟨_, rfl⟩
  have HB2 : Hid (Below N w W2) := Lib.hid (by rw [hW2, hN]; exact ((Below.refl _ _).alloc (Nat.le_refl _) _).alloc (by simp) _)
  have HL2 : Hid (W2.heap.size = N + 2) := Lib.hid (by rw [hW2, hN]; simp)
  have HT2 : Hid (W2.there N 0 16) := Lib.hid (by
    have h := ((Row.zeros w 23).keep ((Below.refl _ _).alloc (Nat.le_refl _) (.cells z16 23))).there
    rw [hW2, hN]; exact h)
  have HR2 : Hid (Row W2 (N + 1) (fun _ => 0)) := Lib.hid (by
    have h := Row.zeros (w.alloc (.cells z16 23)) 23
    rw [World.size_alloc] at h
    rw [hW2, hN]; exact h)
  have HW := Lib.hid hW2
  have HN := Lib.hid hN
  rw [← hN]
  clear hW2 hN hP hQ hb hA hpd
  go_enter Try.func65, Try.ntmps65
  go_wp2_with fail
  rw [← HW.out, ← HN.out]
  go_loopw [4] (fun i wr => ∃ (k : Nat) (f : Nat → Nat), k ≤ 16 ∧ i = .int .i64 (k : Int) ∧ Hid (Below (N + 1) W2 wr) ∧ Hid (Row wr (N + 1) f ∧ ∀ j, j < k → f j = 90)) (fun i _ => 16 - (intOf i).toNat)
  case atStart => exact ⟨0, _, by omega, rfl, Lib.hid (Below.refl _ _), Lib.hid ⟨HR2.out, fun j hj => by omega⟩⟩
  case round =>
    obtain ⟨k2, f, hk2, rfl, HBr, HI⟩ := hrel
    by_cases hlt2 : k2 < 16
    · have t1 : decide ((k2 : Int) < 16) = true := decide_eq_true (by omega)
      have t2 : decide (k2 < 16) = true := decide_eq_true hlt2
      have c1 := HI.out.1.cell k2 hlt2
      have f1' := HI.out.1.fr k2 hlt2
      have l1 : (0 : Int) ≤ (k2 : Int) := by omega
      have l2 : (k2 : Int) < 16 := by omega
      go_wp2_with fail
      go_roundw
      case rel =>
        refine ⟨k2 + 1, _, by omega, by go_num, Lib.hid (HBr.out.setCell (p := ⟨N + 1, k2, none⟩) (Nat.le_refl _) _), Lib.hid ⟨HI.out.1.set k2 90 hlt2, fun j hj => ?_⟩⟩
        by_cases e : j = k2
        · rw [if_pos e]
        · rw [if_neg e]; exact HI.out.2 j (by omega)
      case measure => simp [intOf]; omega
    · obtain rfl : k2 = 16 := by omega
      have t1 : decide (((16 : Nat) : Int) < 16) = false := by decide
      obtain ⟨w8, hw8⟩ : ∃ w8, w8 = wr := ⟨_, rfl⟩
      rw [← hw8] at HBr HI ⊢
      have K8 : Hid (KeyAt w8 (N + 1) S5a S5a) := Lib.hid (HI.out.1.key fun j hj => by rw [HI.out.2 j hj, kby_5a j hj])
      have T8 : Hid (w8.there (N + 1) 0 16) := Lib.hid HI.out.1.there
      have U8 : Hid (w8.there N 0 16) := Lib.hid (there_below HT2.out HBr.out (by omega))
      have B8 : Hid (Below N w w8) := Lib.hid (HB2.out.trans (HBr.out.mono (by omega)))
      have Y8 : Hid (Byt w8 A n c g) := Lib.hid (HY.out.keep (by rw [← HN.out]; exact B8.out))
      have S8 : Hid (N + 2 ≤ w8.heap.size) := Lib.hid (by rw [← HL2.out]; exact HBr.out.size)
      clear HI HBr hlt2 hw8
      obtain ⟨m9, hm9⟩ : ∃ m9, m9 = w8.heap.size := ⟨_, rfl⟩
      obtain ⟨W9, hW9⟩ : ∃ W9, W9 = w8.alloc (.cells #[] 5) := ⟨_, rfl⟩
      have b89 : Below m9 w8 W9 := by rw [hW9, hm9]; exact (Below.refl _ _).alloc (Nat.le_refl _) _
      have HO9 : Hid (W9.ownsRow m9 5 1 (.slice (some ⟨m9, 0, none⟩) 0 0) 0 []) := Lib.hid (by
        rw [hW9, hm9]
        exact ⟨rfl, .inr ⟨w8.heap.size, 0, #[], rfl, Nat.le_refl _, heap_alloc_new w8 (.cells #[] 5), Nat.le_refl _, by simp [maxLen], rfl, rfl⟩⟩)
      have HY9 : Hid (Byt W9 A n c g) := Lib.hid (Y8.out.keep (by rw [← hm9]; exact b89))
      have B9 := Lib.hid b89
      have HW9 := Lib.hid hW9
      have HM9 := Lib.hid hm9
      clear hW9 b89 hm9
      have hbs : m9 ≤ W9.heap.size := by have := B9.out.size; rw [← HM9.out] at this; exact this
      have hap := fun ty => run_append_own_nil (c := c) i0 hi hz1 HO9.out ty
      obtain ⟨v10, hv10⟩ : ∃ v10, v10 = Value.slice (some ⟨m9, 0, none⟩) 0 0 := ⟨_, rfl⟩
      obtain ⟨w10, hw10⟩ : ∃ w10, w10 = W9 := ⟨_, rfl⟩
      have HO10 : Hid (w10.ownsRow m9 5 1 v10 n (bl ((List.range n).map g))) := Lib.hid (by rw [HN0.out, hw10, hv10]; exact HO9.out)
      have B10 : Hid (Below m9 w8 w10) := Lib.hid (by rw [hw10]; exact B9.out)
      have S10 : Hid (m9 ≤ w10.heap.size) := Lib.hid (by rw [hw10]; exact hbs)
      have HV10 := Lib.hid hv10
      have HW10 := Lib.hid hw10
      clear hv10 hw10
      go_wp2_with (at_builtin; rw [← HM9.out, ← HW9.out]; refine Lib.wpList_append_run _ rfl _ _ 26 26 rfl (Value.slice (some ⟨m9, 0, none⟩) 0 0) (Value.slice none 0 c) rfl (by rw [HA.out, HN0.out]; rfl) _ _ (hap _) ?_; rw [← HV10.out, ← HW10.out])
      clear hap hbs
      refine (HPad.out w10).mono ?_
      rintro e w11 ⟨v11, rfl, hb11, ho11⟩
      obtain ⟨g11, c11, hv11, hB11, hnc11, hcm11, hcell11⟩ := own_slice ho11 (by omega)
      subst hv11
      have hO11 := own_below HO10.out hb11
      have B11 := Lib.hid (B10.out.trans (hb11.mono S10.out))
      have S11 := Lib.hid (Nat.le_trans S10.out hb11.size)
      have hs11 := S11.out
      clear hb11 ho11 HO10 B10 S10
      go_wp2_with (at_builtin; refine wpList_append_own _ rfl _ _ 26 rfl m9 5 i0 _ 1 1 Try.underlying26 hi hz0 hz1 hz2 rfl (by omega) v10 n (bl ((List.range n).map g)) rfl hO11 ⟨g11, 0, none⟩ (1 + zz n + 8) c11 (plt n (1 + zz n + 8)) rfl (by simp [plt, bl]) (fun j u hu => by rw [Addr.add_lit, Nat.zero_add]; exact hcell11 j u hu) (bl_one _) (by unfold maxLen; omega) (by omega) hs11 ?_; intro v13 w13 hown13 hg13 _)
      have HO13 : w13.ownsRow m9 5 1 v13 (pdl n) (bl ((List.range (pdl n)).map (pdb g n))) := by rw [HAll.out, ← HPd.out]; exact hown13
      have hpl0 : 0 < pdl n := by unfold pdl; omega
      have hpl1 : pdl n ≤ 20000 := by unfold pdl; omega
      obtain ⟨b13, c13, hv13, hb13, hbl13, hn13, hm13, hr13⟩ := own_rown HO13 hpl0
      subst hv13
      have B13 : Hid (Below m9 w8 w13) := Lib.hid (B11.out.grown hg13 hs11 (fun b hb => own_block hO11 hb.symm))
      have S13 : Hid (m9 ≤ w13.heap.size) := Lib.hid (Nat.le_trans hs11 hg13.size)
      have HPc := Lib.hid (fun w => refPortions_any (some ⟨b13, 0, none⟩) (pdl n) c13 w (by omega))
      have HPo : Hid (∀ (w' : World) (k : Nat), RowN w' b13 (pdl n) (pdb g n) → 16 * k < pdl n → Calls Try.prog 64 #[.slice (some ⟨b13, 0, none⟩) (pdl n) c13, .int .i64 (k : Int)] w' fun e w2 => e = .returned (.agg (kl (pw (pdb g n) (pdl n) k).1 (pw (pdb g n) (pdl n) k).2).toArray) ∧ Below w'.heap.size w' w2) := Lib.hid (fun w' k hy hk =>
        refPortion_pw b13 0 (pdl n) c13 k (pdb g n) w' HPb.out hk (by omega) hn13 hm13 (fun i hi => by rw [Nat.zero_add]; exact hy.cell i hi))
      have K13 : Hid (KeyAt w13 (N + 1) S5a S5a) := Lib.hid (K8.out.below B13.out (by rw [HM9.out]; have := S8.out; omega))
      have T13 : Hid (w13.there (N + 1) 0 16) := Lib.hid (there_below T8.out B13.out (by rw [HM9.out]; have := S8.out; omega))
      have U13 : Hid (w13.there N 0 16) := Lib.hid (there_below U8.out B13.out (by rw [HM9.out]; have := S8.out; omega))
      have Bw13 : Hid (Below N w w13) := Lib.hid (B8.out.trans (B13.out.mono (by rw [HM9.out]; have := S8.out; omega)))
      have O13 : Hid (N + 2 ≤ w13.heap.size ∧ N + 2 ≤ b13) := Lib.hid (by have := S13.out; have := HM9.out; have := S8.out; omega)
      have R13 := Lib.hid hr13
      clear hown13 hg13 HO13 hr13 hO11 hs11 hcell11 B13 S13 B11 S11 hb13 hbl13 hn13 hm13
      go_wp2_with fail
      go_loopw [6] (fun i wr => ∃ k : Nat, k ≤ cnt (pdl n) ∧ i = .int .i64 (k : Int) ∧ Hid (Below (N + 1) w13 wr) ∧ Hid (N + 2 ≤ wr.heap.size) ∧ Hid (RowN wr b13 (pdl n) (pdb g n)) ∧ Hid (wr.there (N + 1) 0 16 ∧ KeyAt wr (N + 1) (fld hshS (S5a, S5a) (pdb g n) (pdl n) k).1 (fld hshS (S5a, S5a) (pdb g n) (pdl n) k).2)) (fun i _ => cnt (pdl n) - (intOf i).toNat)
      case atStart => exact ⟨0, by omega, rfl, Lib.hid (Below.refl _ _), Lib.hid O13.out.1, R13, Lib.hid ⟨T13.out, K13.out⟩⟩
      case round =>
        obtain ⟨k3, hk3, rfl, HBr, HRs, HRw, HI⟩ := hrel
        clear R13 T13 K13
        go_wp2_with fail
        refine (HPc.out wr).mono ?_
        rintro e w15 ⟨rfl, rfl⟩
        by_cases hlt : k3 < cnt (pdl n)
        · have hk7 : k3 < 70000 := by unfold cnt at hlt; omega
          have hkp : 16 * k3 < pdl n := by unfold cnt at hlt; omega
          have hd : decide ((k3 : Int) < ((cnt (pdl n) : Nat) : Int)) = true := decide_eq_true (by omega)
          have hd2 : decide (k3 < cnt (pdl n)) = true := decide_eq_true hlt
          have hsk := HOk.out k3
          have hpk := HPok.out k3
          have hpo := fun (w' : World) (h : RowN w' b13 (pdl n) (pdb g n)) => HPo.out w' k3 h hkp
          obtain ⟨S, hS⟩ : ∃ S, S = (fld hshS (S5a, S5a) (pdb g n) (pdl n) k3).1 := ⟨_, rfl⟩
          obtain ⟨T, hT⟩ : ∃ T, T = (fld hshS (S5a, S5a) (pdb g n) (pdl n) k3).2 := ⟨_, rfl⟩
          obtain ⟨C, hC⟩ : ∃ C, C = (pw (pdb g n) (pdl n) k3).1 := ⟨_, rfl⟩
          obtain ⟨D, hD⟩ : ∃ D, D = (pw (pdb g n) (pdl n) k3).2 := ⟨_, rfl⟩
          unfold Ok at hsk hpk
          rw [← hS, ← hT] at hsk
          rw [← hC, ← hD] at hpk hpo
          have hfs1 : fld hshS (S5a, S5a) (pdb g n) (pdl n) (k3 + 1) = ((enc C D S T).1 ^^^ S, (enc C D S T).2 ^^^ T) := by rw [hC, hD, hS, hT]; rfl
          have HI2 : Hid (KeyAt wr (N + 1) S T) := Lib.hid (by rw [hS, hT]; exact HI.out.2)
          have HI1 := Lib.hid HI.out.1
          have he1 := fun w => refEncrypt_any C D S T w hpk.1 hpk.2 hsk.1 hsk.2
          obtain ⟨U0, hU0⟩ : ∃ U0, U0 = (enc C D S T).1 := ⟨_, rfl⟩
          obtain ⟨V0, hV0⟩ : ∃ V0, V0 = (enc C D S T).2 := ⟨_, rfl⟩
          rw [← hU0, ← hV0] at he1 hfs1
          have hx1 := fun w => refXor_any U0 V0 S T w
          obtain ⟨U, hU⟩ : ∃ U, U = U0 ^^^ S := ⟨_, rfl⟩
          obtain ⟨V, hV⟩ : ∃ V, V = V0 ^^^ T := ⟨_, rfl⟩
          rw [← hU, ← hV] at hx1 hfs1
          have HF : Hid ((fld hshS (S5a, S5a) (pdb g n) (pdl n) (k3 + 1)).1 = U ∧ (fld hshS (S5a, S5a) (pdb g n) (pdl n) (k3 + 1)).2 = V) := Lib.hid (by rw [hfs1]; exact ⟨rfl, rfl⟩)
          have HE1 := Lib.hid he1
          have HX1 := Lib.hid hx1
          have HPp := Lib.hid hpo
          have O1 := O13.out
          have HRs1 : Hid (N + 1 ≤ wr.heap.size) := Lib.hid (by have := HRs.out; omega)
          clear he1 hx1 hpo hfs1 hS hT hC hD hU hV hU0 hV0 hsk hpk HI
          go_wp2_with fail
          refine wp_region_inv (by kernel_rfl) (by kernel_rfl) (fun l a w' => a = { tmps := #[Value.slice A n c, undef, Value.pointer (some ⟨N, 0, none⟩), Value.pointer (some ⟨N + 1, 0, none⟩), Value.int .i64 (16 : Int), Value.slice (some ⟨b13, 0, none⟩) (pdl n) c13, Value.int .i64 (k3 : Int), Value.int .i64 (16 : Int), Value.bool false, u9, u10, u11, u12, v10, Value.slice A n c, v10, v10, Value.slice A n c, Value.int .i64 (n : Int), Value.slice (some ⟨g11, 0, none⟩) (1 + zz n + 8) c11, Value.slice (some ⟨b13, 0, none⟩) (pdl n) c13, Value.int .i64 (k3 : Int), Value.slice (some ⟨b13, 0, none⟩) (pdl n) c13, Value.int .i64 (cnt (pdl n) : Int), Value.bool true, u25, u26, bif l 0 then Value.slice (some ⟨b13, 0, none⟩) (pdl n) c13 else u27, bif l 1 then Value.int .i64 (k3 : Int) else u28, bif l 2 then Value.agg (kl C D).toArray else u29, bif l 3 then Value.agg (kl S T).toArray else u30, bif l 4 then Value.agg (kl U0 V0).toArray else u31, bif l 5 then Value.agg (kl S T).toArray else u32, bif l 6 then Value.agg (kl U V).toArray else u33, undef], defers := [] } ∧ Below (N + 1) wr w' ∧ RowN w' b13 (pdl n) (pdb g n) ∧ w'.there (N + 1) 0 16 ∧ (l 7 = true → KeyAt w' (N + 1) U V) ∧ (l 7 = false → KeyAt w' (N + 1) S T) ∧ (l 7 = true → l 3 = true) ∧ (l 7 = true → l 5 = true)) ⟨rfl, (Below.refl _ _).drew, HRw.out.drew, HI1.out, (fun h => by cases h), (fun _ => HI2.out), (fun h => by cases h), (fun h => by cases h)⟩ ?_ ?_
          · rintro l a w' i ⟨rfl, hB, K0, hT, hS, hP, ho3, ho5⟩ hi hli hpre
            have hi2 : i < 8 := hi
            have hcase : i = 0 ∨ i = 1 ∨ i = 2 ∨ i = 3 ∨ i = 4 ∨ i = 5 ∨ i = 6 ∨ i = 7 := by omega
            clear hi hi2
            rcases hcase with rfl | rfl | rfl | rfl | rfl | rfl | rfl | rfl
            · -- 0: Op.move (Operand.tmp 5)
              refine wpOp_step rfl (fun K hK => ?_)
              clear hpre
              rw [if_pos (by rfl)]
              go_simp
              exact hK _ _ ⟨by simp [upd, Act.put], hB, K0, hT, (fun e => hS (by simpa [upd] using e)), (fun e => hP (by simpa [upd] using e)), (by first | (simp [upd]; done) | simpa [upd] using ho3), (by first | (simp [upd]; done) | simpa [upd] using ho5)⟩
            · -- 1: Op.move (Operand.tmp 6)
              refine wpOp_step rfl (fun K hK => ?_)
              clear hpre
              rw [if_pos (by rfl)]
              go_simp
              exact hK _ _ ⟨by simp [upd, Act.put], hB, K0, hT, (fun e => hS (by simpa [upd] using e)), (fun e => hP (by simpa [upd] using e)), (by first | (simp [upd]; done) | simpa [upd] using ho3), (by first | (simp [upd]; done) | simpa [upd] using ho5)⟩
            · -- 2: Op.call { callee := Callee.value (Operand.func 64), args := 
              have p0 : l 0 = true := hpre _ rfl ⟨0, .data⟩ (by simp) rfl
              have p1 : l 1 = true := hpre _ rfl ⟨1, .data⟩ (by simp) rfl
              refine wpOp_step rfl (fun K hK => ?_)
              simp only [p0, p1, cond_true]
              clear hpre
              rw [if_pos (by rfl)]
              go_simp
              refine ((fun _ : True => HPp.out w' K0) (by have := hB; trivial)).mono ?_
              rintro e w5 ⟨rfl, hb5⟩
              exact hK _ _ ⟨by simp [upd, Act.put, p0, p1], hB.trans (hb5.mono (Nat.le_trans (HRs1.out) hB.size)), K0.keep hb5, there_below hT hb5 (there_lt hT (by omega)), (fun e => (hS (by simpa [upd] using e)).keep hb5), (fun e => (hP (by simpa [upd] using e)).keep hb5), (by first | (simp [upd, p0, p1]; done) | simpa [upd, p0, p1] using ho3), (by first | (simp [upd, p0, p1]; done) | simpa [upd, p0, p1] using ho5)⟩
            · -- 3: Op.load 23 (Operand.tmp 3)
              refine wpOp_step rfl (fun K hK => ?_)
              clear hpre
              rw [if_pos (by rfl)]
              have n7 : l 7 = false := by cases h : l 7; rfl; exact absurd (ho3 h) (by rw [hli]; decide)
              refine wp_load_mid 23 _ rfl _ 0 rfl (kl S T) _ (hP n7) Try.underlying23 rfl (by rw [kl_len]; exact size23) ?_
              exact hK _ _ ⟨by simp [upd, Act.put], hB, K0, hT, (fun e => hS (by simpa [upd] using e)), (fun e => hP (by simpa [upd] using e)), (by first | (simp [upd]; done) | simpa [upd] using ho3), (by first | (simp [upd]; done) | simpa [upd] using ho5)⟩
            · -- 4: Op.call { callee := Callee.value (Operand.func 28), args := 
              have p2 : l 2 = true := hpre _ rfl ⟨2, .data⟩ (by simp) rfl
              have p3 : l 3 = true := hpre _ rfl ⟨3, .data⟩ (by simp) rfl
              refine wpOp_step rfl (fun K hK => ?_)
              simp only [p2, p3, cond_true]
              clear hpre
              rw [if_pos (by rfl)]
              go_simp
              refine (HE1.out _).mono ?_
              rintro e w5 ⟨rfl, hb5⟩
              exact hK _ _ ⟨by simp [upd, Act.put, p2, p3], hB.trans (hb5.mono (Nat.le_trans (HRs1.out) hB.size)), K0.keep hb5, there_below hT hb5 (there_lt hT (by omega)), (fun e => (hS (by simpa [upd] using e)).keep hb5), (fun e => (hP (by simpa [upd] using e)).keep hb5), (by first | (simp [upd, p2, p3]; done) | simpa [upd, p2, p3] using ho3), (by first | (simp [upd, p2, p3]; done) | simpa [upd, p2, p3] using ho5)⟩
            · -- 5: Op.load 23 (Operand.tmp 3)
              refine wpOp_step rfl (fun K hK => ?_)
              clear hpre
              rw [if_pos (by rfl)]
              have n7 : l 7 = false := by cases h : l 7; rfl; exact absurd (ho5 h) (by rw [hli]; decide)
              refine wp_load_mid 23 _ rfl _ 0 rfl (kl S T) _ (hP n7) Try.underlying23 rfl (by rw [kl_len]; exact size23) ?_
              exact hK _ _ ⟨by simp [upd, Act.put], hB, K0, hT, (fun e => hS (by simpa [upd] using e)), (fun e => hP (by simpa [upd] using e)), (by first | (simp [upd]; done) | simpa [upd] using ho3), (by first | (simp [upd]; done) | simpa [upd] using ho5)⟩
            · -- 6: Op.call { callee := Callee.value (Operand.func 63), args := 
              have p4 : l 4 = true := hpre _ rfl ⟨4, .data⟩ (by simp) rfl
              have p5 : l 5 = true := hpre _ rfl ⟨5, .data⟩ (by simp) rfl
              refine wpOp_step rfl (fun K hK => ?_)
              simp only [p4, p5, cond_true]
              clear hpre
              rw [if_pos (by rfl)]
              go_simp
              refine (HX1.out _).mono ?_
              rintro e w5 ⟨rfl, hb5⟩
              exact hK _ _ ⟨by simp [upd, Act.put, p4, p5], hB.trans (hb5.mono (Nat.le_trans (HRs1.out) hB.size)), K0.keep hb5, there_below hT hb5 (there_lt hT (by omega)), (fun e => (hS (by simpa [upd] using e)).keep hb5), (fun e => (hP (by simpa [upd] using e)).keep hb5), (by first | (simp [upd, p4, p5]; done) | simpa [upd, p4, p5] using ho3), (by first | (simp [upd, p4, p5]; done) | simpa [upd, p4, p5] using ho5)⟩
            · -- 7: Op.store 23 (Operand.tmp 3) (Operand.tmp 33)
              have p6 : l 6 = true := hpre _ rfl ⟨6, .data⟩ (by simp) rfl
              have p0 : l 0 = true := hpre _ rfl ⟨0, .phase⟩ (by simp) rfl
              have p1 : l 1 = true := hpre _ rfl ⟨1, .phase⟩ (by simp) rfl
              have p2 : l 2 = true := hpre _ rfl ⟨2, .phase⟩ (by simp) rfl
              have p3 : l 3 = true := hpre _ rfl ⟨3, .phase⟩ (by simp) rfl
              have p4 : l 4 = true := hpre _ rfl ⟨4, .phase⟩ (by simp) rfl
              have p5 : l 5 = true := hpre _ rfl ⟨5, .phase⟩ (by simp) rfl
              refine wpOp_step rfl (fun K hK => ?_)
              simp only [p6, p0, p1, p2, p3, p4, p5, cond_true]
              clear hpre
              rw [if_pos (by rfl)]
              refine wp_store_mid 23 _ _ rfl (N + 1) 0 (kl U V).toArray rfl rfl (by simpa [kl_len] using hT) (by simp [kl_len, size23]) (kl_arr U V) ?_
              rw [List.toList_toArray]
              exact hK _ _ ⟨by simp [upd, Act.put, p6, p0, p1, p2, p3, p4, p5], below_setCells _ _ _ _ hB (by omega), K0.setCells _ _ (by omega), World.there_setCells hT _ _ _, (fun _ => KeyAt.stored hT U V), (fun e => absurd e (by simp [upd])), (by simp [upd, p6, p0, p1, p2, p3, p4, p5]), (by simp [upd, p6, p0, p1, p2, p3, p4, p5])⟩
          · rintro l a w9 hall ⟨rfl, hBz, K0, hT, hS, hP, ho3, ho5⟩
            simp only [hall 0 (by decide), hall 1 (by decide), hall 2 (by decide), hall 3 (by decide), hall 4 (by decide), hall 5 (by decide), hall 6 (by decide), cond_true]
            replace hS := hS (hall 7 (by decide))
            clear hall
            go_wp2
            go_roundw
            case rel => exact ⟨k3 + 1, by omega, by go_num, Lib.hid (HBr.out.trans hBz), Lib.hid (Nat.le_trans HRs.out hBz.size), Lib.hid K0, Lib.hid ⟨hT, by rw [HF.out.1, HF.out.2]; exact hS⟩⟩
            case measure => simp [intOf]; omega
        · have hkn : k3 = cnt (pdl n) := by omega
          have hd : decide ((k3 : Int) < ((cnt (pdl n) : Nat) : Int)) = false := decide_eq_false (by omega)
          have hd2 : decide (k3 < cnt (pdl n)) = false := decide_eq_false hlt
          have HKf : Hid (KeyAt wr (N + 1) P Q) := Lib.hid (by have h := HI.out.2; rw [hkn, ← HPQ.out.1, ← HPQ.out.2] at h; exact h)
          have HTf : Hid (wr.there N 0 16) := Lib.hid (there_below U13.out HBr.out (by omega))
          have HCf : Hid (Below N w wr) := Lib.hid (Bw13.out.trans (HBr.out.mono (by omega)))
          clear HI hlt
          go_wp2_with (first
            | (refine wpList_load_key rfl _ rfl (N + 1) rfl P Q HKf.out ?_)
            | (refine wpList_store_key rfl _ _ rfl N P Q rfl rfl HTf.out ?_))
          exact ends_key rfl N P Q HTf.out rfl rfl ⟨rfl, below_setCells _ _ _ _ HCf.out (Nat.le_refl _)⟩

theorem refDigest_any (A : Option Addr) (n c : Nat) (g : Nat → Nat) (w : World) (hb : Byt w A n c g) (hn : n ≤ 16384) :
    Calls Try.prog 65 #[.slice A n c] w fun e w' => e = .returned (.agg (kl (hshV g n).1 (hshV g n).2).toArray) ∧ Below w.heap.size w w' := by
  cases A with
  | some ad => exact refDigest_some ad n c g w hb hn
  | none =>
    have h0 : n = 0 := by
      rcases Nat.eq_zero_or_pos n with h | h
      · exact h
      · obtain ⟨b, off, e, _⟩ := hb.at_ h
        cases e
    subst h0
    exact refDigest_none c g w hb

set_option maxRecDepth 100000 in
set_option maxHeartbeats 1000000 in
theorem refHash_no (A : Option Addr) (n c : Nat) (w : World) (hn : 16384 < n) :
    Calls Try.prog 35 #[.slice A n c] w fun e w' => e = .returned (.tuple #[.agg (kl 0 0).toArray, .int .i64 4]) ∧ Below w.heap.size w w' := by
  obtain ⟨W2, hW2⟩ : ∃ W2, W2 = w.alloc (.cells z16 23) := ⟨_, rfl⟩
  have HB : Hid (Below w.heap.size w W2) := Lib.hid (by rw [hW2]; exact (Below.refl _ _).alloc (Nat.le_refl _) _)
  have HT : Hid (W2.there w.heap.size 0 16) := Lib.hid (by rw [hW2]; exact (Row.zeros w 23).there)
  have HW := Lib.hid hW2
  clear hW2
  go_enter Try.func35, Try.ntmps35
  go_wp2_with (refine wpList_store_key rfl _ _ rfl w.heap.size 0 0 rfl (by rw [kl_zero]; rfl) (by rw [← HW.out]; exact HT.out) ?_)
  rw [← HW.out]
  exact bodyPost_key2 rfl w.heap.size 0 0 rfl (KeyAt.stored HT.out 0 0) rfl ⟨rfl, below_setCells _ _ _ _ HB.out (Nat.le_refl _)⟩

set_option maxRecDepth 100000 in
set_option maxHeartbeats 1000000 in
theorem refHash_yes (A : Option Addr) (n c : Nat) (g : Nat → Nat) (w : World) (hb : Byt w A n c g) (hn : n ≤ 16384) :
    Calls Try.prog 35 #[.slice A n c] w fun e w' => e = .returned (.tuple #[.agg (kl (hshV g n).1 (hshV g n).2).toArray, .int .i64 0]) ∧ Below w.heap.size w w' := by
  obtain ⟨N, hN⟩ : ∃ N, N = w.heap.size := ⟨_, rfl⟩
  obtain ⟨W2, hW2⟩ : ∃ W2, W2 = w.alloc (.cells z16 23) := ⟨_, rfl⟩
  have HB : Hid (Below N w W2) := Lib.hid (by rw [hW2, hN]; exact (Below.refl _ _).alloc (Nat.le_refl _) _)
  have HT : Hid (W2.there N 0 16) := Lib.hid (by rw [hW2, hN]; exact (Row.zeros w 23).there)
  have HL : Hid (W2.heap.size = N + 1) := Lib.hid (by rw [hW2, hN]; simp)
  have HTg := Lib.hid (refDigest_any A n c g W2 (hb.keep (by rw [← hN]; exact HB.out)) hn)
  obtain ⟨P, hP⟩ : ∃ P, P = (hshV g n).1 := ⟨_, rfl⟩
  obtain ⟨Q, hQ⟩ : ∃ Q, Q = (hshV g n).2 := ⟨_, rfl⟩
  rw [← hP, ← hQ] at HTg ⊢
  have HW := Lib.hid hW2
  have HN := Lib.hid hN
  rw [← hN]
  have d1 : decide ((16384 : Int) < (n : Int)) = false := decide_eq_false (by omega)
  have d2 : ¬ ((16384 : Int) < (n : Int)) := by omega
  clear hW2 hN hb hP hQ
  go_enter Try.func35, Try.ntmps35
  go_wp2_with fail
  rw [← HW.out, ← HN.out]
  refine HTg.out.mono ?_
  rintro e w5 ⟨rfl, hb5⟩
  have HT5 := Lib.hid (there_below HT.out hb5 (there_lt HT.out (by omega)))
  have HB5 := Lib.hid (HB.out.trans (hb5.mono (by have := HL.out; omega)))
  clear hb5 HTg
  go_wp2_with (refine wpList_store_key rfl _ _ rfl N P Q rfl rfl HT5.out ?_)
  exact bodyPost_key2 rfl N P Q rfl (KeyAt.stored HT5.out P Q) rfl ⟨rfl, below_setCells _ _ _ _ HB5.out (Nat.le_refl _)⟩
end Go.Proofs.Ytphhppdokdageaa
