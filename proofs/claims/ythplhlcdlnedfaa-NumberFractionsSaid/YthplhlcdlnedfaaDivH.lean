/-
  Long division, part H: the walk over divide.
-/
import Derived.Test.YthplhlcdlnedfaaDivG
namespace Go.Proofs.Ythplhlcdlnedfaa
open Go.RowKit MN

theorem lz_any (Z s : Nat) (w : World) (hZ : Z < 4294967296) (h : (32 : Int) - (Lib.bitLen Z : Int) = (s : Int)) :
    Calls Try.prog 107 #[.int .u32 (Z : Int)] w fun e w' => e = .returned (.int .i64 (s : Int)) ∧ w = w' :=
  (bits_LeadingZeros32 (Z : Int) w (by omega) (by omega)).mono fun e w' ⟨he, hw⟩ => ⟨by rw [he, Int.toNat_natCast, h], hw.symm⟩

set_option maxRecDepth 100000 in
set_option maxHeartbeats 2000000 in
theorem divide_any (A1 A2 : Option Addr) (n1 c1 n2 c2 : Nat) (ys zs : List Nat) (w : World) (ha : Rd .u32 w A1 n1 c1 ys) (hb : Rd .u32 w A2 (n2 + 1) c2 zs) (hla : Low 4294967296 ys) (hlb : Low 4294967296 zs) (htop : dg zs n2 ≠ 0) (hn1 : n1 ≤ 1000) (hn2 : n2 ≤ 1000) :
    Calls Try.prog 75 #[.slice A1 n1 c1, .slice A2 (n2 + 1) c2] w (Divided w (val 4294967296 ys) (val 4294967296 zs)) := by
  obtain ⟨i0, hi, hz0, hz1, hz2⟩ := info_parts info24
  obtain ⟨s, hs, hlz, hs1, hs2⟩ := lz_shift (dg zs n2) (by omega) (low_dg hlb (by omega) n2)
  obtain ⟨d1, d2, d3⟩ := divisor_shape zs n2 s hb.len hlb hs hs1 hs2
  have D1 := Lib.hid d1
  have D2 := Lib.hid d2
  have D3 := Lib.hid d3
  clear d1 d2 d3 hs1 hs2
  obtain ⟨b, off, rfl, hc⟩ := hb.at_ (by omega)
  have hcell := hc n2 (by omega)
  obtain ⟨Z, hZ⟩ : ∃ x, x = dg zs n2 := ⟨_, rfl⟩
  have hZl : Z < 4294967296 := by rw [hZ]; exact low_dg hlb (by omega) _
  rw [← hZ] at hcell hlz
  have HZ := Lib.hid hZ
  clear hZ hc
  have HL := Lib.hid hlz
  have HA := Lib.hid ha
  have HB := Lib.hid hb
  clear hlz ha hb
  have hbc := HB.out.cap
  have hbl := HB.out.le
  unfold maxLen at hbc
  go_enter Try.func75, Try.ntmps75
  go_wp2_with (go_at_call 107; refine (lz_any Z s _ hZl HL.out).mono ?_; rintro e w' ⟨rfl, rfl⟩)
  refine (shiftUp_any _ n1 c1 s ys _ HA.out hla (by omega) hs).mono ?_
  rintro e w1 ⟨us, rfl, hCu, hlu, hvu⟩
  have HVU := Lib.hid hvu
  clear hvu
  go_wp2_with fail
  refine (shiftUp_any _ (n2 + 1) c2 s zs w1 (HB.out.keep hCu.below) hlb (by omega) hs).mono ?_
  rintro e w2 ⟨vs0, rfl, hCv, hlv, hvv⟩
  have HVV := Lib.hid hvv
  clear hvv
  go_wp2_with fail
  refine (trim32_any _ (n2 + 1 + 1) (n2 + 1 + 1) vs0 w2 hCv.rd hlv).mono ?_
  rintro e w' ⟨⟨m, hm, rfl, ht⟩, rfl⟩
  rw [HVV.out] at ht
  have hmn : m = n2 + 1 := by
    have h1 := congrArg List.length ht
    rw [D1.out, List.length_take, hCv.len] at h1
    omega
  subst hmn
  have HT := Lib.hid ht
  clear ht
  have hgu : w.heap.size < w1.heap.size := hCu.lt
  have hCu2 := hCu.keep hCv.below hgu (Nat.le_of_lt hgu)
  have hCv2 := hCv.rebase hCu.below (Nat.le_of_lt hgu)
  have hgv : w1.heap.size < w2.heap.size := hCv.lt
  clear hCu hCv
  by_cases hshort : n1 ≤ n2
  · have hlt : val 4294967296 ys < val 4294967296 zs := by
      have h1 := val_lt ys hla
      rw [HA.out.len] at h1
      have h2 : 4294967296 ^ n1 ≤ 4294967296 ^ n2 := Nat.pow_le_pow_right (by omega) hshort
      have h3 := val_top_ge zs n2 HB.out.len htop
      omega
    have hurd := hCu2.rd
    go_wp2_with fail
    refine (shiftDown_any _ _ _ s us w2 hurd hlu (by omega) hs).mono ?_
    rintro e w5 ⟨A5, m5, c5, rfl, hown5, hb5⟩
    go_wp2
    go_ret2
    refine ⟨_, _, _, A5, m5, c5, rfl, ?_, ?_, hCu2.below.trans (hb5.mono hCu2.big)⟩
    · rw [Nat.div_eq_of_lt hlt]; exact World.ownsRow_nil _ _ _ _
    · rw [Nat.mod_eq_of_lt hlt]
      rw [HVU.out, Nat.mul_div_cancel _ (Nat.two_pow_pos s)] at hown5
      exact own_low hown5 hCu2.big
  · obtain ⟨L, rfl⟩ : ∃ L, n1 = n2 + L := ⟨n1 - n2, by omega⟩
    have hL : 1 ≤ L := by omega
    clear hshort
    go_wp2_with (first
      | (at_make; refine wpList_make_full _ rfl _ _ 23 rfl w.heap.size 24 i0 _ 1 Try.underlying23 hi hz0 hz1 .i64 .i64 _ _ L rfl rfl (by omega) (by omega) (by rw [hz2]; omega) (by unfold maxLen; omega) (by omega) ?_; intro w3 hown3 hg3))
    have hgq : w2.heap.size < w3.heap.size := (hown3.lt w2.heap.size rfl).2
    have hb23 : Below w2.heap.size w2 w3 := (Below.refl _ _).grown hg3 (Nat.le_refl _) (by simp)
    have hCq := Cols.made (w := w) hown3 hg3 hCu2.below hCu2.big
    have hCu3 := hCu2.keep hb23 (by omega) hCu2.big
    have hCv3 := hCv2.keep hb23 hgv hCv2.big
    clear hown3 hg3 hCu2 hCv2
    go_loopw [9] (fun i wr => ∃ (k : Nat) (us qs : List Nat), k ≤ L ∧ i = .int .i64 ((k : Int) - 1) ∧ Cols .u32 24 w.heap.size w wr w.heap.size (n2 + L + 1) us ∧ Cols .u32 24 w.heap.size w wr w1.heap.size (n2 + 1 + 1) vs0 ∧
        Cols .u32 24 w.heap.size w wr w2.heap.size L qs ∧ Dv (val 4294967296 ys * 2 ^ s) (val 4294967296 zs * 2 ^ s) (n2 + 1) k us qs) (fun i _ => (intOf i + 1).toNat)
    case atStart =>
      exact ⟨L, us, _, Nat.le_refl _, by go_num, hCu3, hCv3, hCq, dv_start ys zs us n2 L s HA.out.len HB.out.len hla htop hlu HVU.out⟩
    case round =>
      obtain ⟨k, us2, qs, hk, rfl, hU, hV, hQ, hD⟩ := hrel
      rcases Nat.eq_zero_or_pos k with rfl | hpos
      · have HE := Lib.hid hD.done
        have hqrd := hQ.rd
        have hurd := hU.rd
        have hql := hD.qlow
        have hul := hD.low
        clear hD
        go_wp2_with fail
        refine (trim32_any _ _ _ qs wr hqrd hql).mono ?_
        rintro e w' ⟨⟨m1, hm1, rfl, ht1⟩, rfl⟩
        go_wp2_with fail
        refine (shiftDown_any _ _ _ s us2 wr hurd hul (by omega) hs).mono ?_
        rintro e w5 ⟨A5, m5, c5, rfl, hown5, hb5⟩
        go_wp2
        go_ret2
        have hzpos : 0 < val 4294967296 zs := Nat.lt_of_lt_of_le (Nat.pow_pos (by omega)) (val_top_ge zs n2 HB.out.len htop)
        refine ⟨_, m1, _, A5, m5, c5, rfl, ?_, ?_, hU.below.trans (hb5.mono hU.big)⟩
        · rw [← HE.out.1, ← ht1]
          exact own_take (hQ.keep hb5 hQ.lt hQ.big).own hm1
        · rw [← HE.out.2]
          exact own_low hown5 hU.big
      · obtain ⟨q, rfl⟩ : ∃ q, k = q + 1 := ⟨k - 1, by omega⟩
        have e0 : (((q + 1 : Nat) : Int) - 1) = (q : Int) := by omega
        rw [e0]
        obtain ⟨vs, hvs⟩ : ∃ x, x = digs 4294967296 (val 4294967296 zs * 2 ^ s) := ⟨_, rfl⟩
        have hvval : val 4294967296 vs = val 4294967296 zs * 2 ^ s := by rw [hvs]; exact digs_val _ _ (by omega)
        have hvlow : Low 4294967296 vs := by rw [hvs]; exact digs_low _ _ (by omega)
        have hvtop : 2147483648 ≤ dg vs (n2 + 1 - 1) := by rw [hvs]; exact D2.out
        have hvrd : Rd .u32 wr (some ⟨w1.heap.size, 0, none⟩) (n2 + 1) (n2 + 1 + 1) vs := by
          have := hV.rd.take (m := n2 + 1) (by omega)
          rwa [HT.out, ← hvs] at this
        have hul := hD.low
        have HLN := Lib.hid hU.len
        have hpt := hD.part_lt (n := n2 + 1) (i := q) (by rw [hU.len]; omega) D3.out
        have HPT := Lib.hid hpt
        have HD := Lib.hid hD
        have HVV2 := Lib.hid hvval
        have HV0 : Hid (0 < val 4294967296 vs) := Lib.hid (by
          rw [hvval]
          exact Nat.mul_pos (Nat.lt_of_lt_of_le (Nat.pow_pos (by omega)) (val_top_ge zs n2 HB.out.len htop)) (Nat.two_pow_pos s))
        have hprd := hU.part q (n2 + 1 + 1) (n2 + L + 1 - q) (by omega) (by omega) (by unfold maxLen; omega)
        have hguess := guess_any wr w.heap.size q w1.heap.size 0 (n2 + 1) (n2 + L + 1 - q) (n2 + 1 + 1) _ vs (by omega) (by omega) hprd hvrd (low_take (low_drop hul q) _) hvlow hvtop
          (by rw [part_val, hvval]; exact hpt.1)
        rw [part_val] at hguess
        have HG := Lib.hid hguess
        clear hguess hvs hvval hvtop hpt hD hprd
        go_wp2_with fail
        rw [show q + (n2 + 1) + 1 - q = n2 + 1 + 1 by omega]
        refine HG.out.mono ?_
        rintro e wg ⟨Q, rfl, hdg, hq1, hq2⟩
        have hUg := hU.drawn hdg
        have hVg := hV.drawn hdg
        have hQg := hQ.drawn hdg
        have hvrdg := hvrd.keep hdg.below
        have hQ1 := Lib.hid hq1
        have hQ2 := Lib.hid hq2
        have hQle : Q ≤ 4294967296 := by
          have h1 : vsum 4294967296 (fr us2 q) (n2 + 1 + 1) / val 4294967296 vs < 4294967296 := Nat.div_lt_of_lt_mul (by rw [HVV2.out]; exact HPT.out.1)
          omega
        have hap : Apart (some ⟨w1.heap.size, 0, none⟩) w.heap.size := by
          intro b' off' he
          injection he with he
          injection he with he
          omega
        clear hU hV hQ hvrd hq1 hq2 HG hdg
        go_wp2_with fail
        refine (takeOff_any w.heap.size w wg w.heap.size (n2 + L + 1) q (n2 + 1) (n2 + L + 1 - q) (some ⟨w1.heap.size, 0, none⟩) (n2 + 1 + 1) us2 vs Q hUg hvrdg hap hul hvlow hQle (by omega) (by omega) (by omega)).mono ?_
        rintro e wt ⟨bb, us3, rfl, hR, hTk⟩
        have hVt := hVg.only hR.only (by omega) (Nat.le_refl _)
        have hQt := hQg.only hR.only (by omega) (Nat.le_refl _)
        have hUt := hR.cols
        have HTk := Lib.hid hTk
        have hR2 := hR.only
        have hvrdk := hvrdg
        clear hTk hR hUg hVg hQg hvrdg
        have HV0' : Hid (0 < val 4294967296 zs * 2 ^ s) := Lib.hid (by rw [← HVV2.out]; exact HV0.out)
        cases bb
        · obtain ⟨r1, r2⟩ := took_right HTk.out hQ1.out HV0.out
          rw [HVV2.out] at r1 r2
          obtain ⟨s1, s2⟩ := HD.out.next (q := Q) (xs' := us3) (by rw [HLN.out]; omega) (by rw [hUt.len, HLN.out]) D3.out HV0'.out (by rw [hQt.len]; omega) rfl rfl r1 r2 HTk.out.same HTk.out.low
          have S2 := Lib.hid s2
          have c1 := hQt.cell q (by omega)
          have f1 := hQt.frozen q
          have hUf := hUt.far (g' := w2.heap.size) (j := q) (u := .int .u32 (Q : Int)) (by omega) (by omega)
          have hVf := hVt.far (g' := w2.heap.size) (j := q) (u := .int .u32 (Q : Int)) (by omega) (by omega)
          have hQf := hQt.set q Q (Q : Int) rfl
          clear r1 r2 s2 hUt hVt hQt HD HPT hQ1 hQ2
          go_wp2_with fail
          go_roundw
          case rel => exact ⟨q, us3, _, by omega, by go_num, hUf, hVf, hQf, S2.out⟩
          case measure => simp [intOf]
        · have hvrdt := hvrdk.only hR2 hap
          have hpos := took_pos HTk.out
          go_wp2_with fail
          refine (giveBack_any w.heap.size w wt w.heap.size (n2 + L + 1) q (n2 + 1) (n2 + L + 1 - q) (some ⟨w1.heap.size, 0, none⟩) (n2 + 1 + 1) us3 vs hUt hvrdt hap HTk.out.low hvlow (by omega) (by omega) (by omega)).mono ?_
          rintro e wx ⟨us4, rfl, hR4, hGv⟩
          have hVx := hVt.only hR4.only (by omega) (Nat.le_refl _)
          have hQx := hQt.only hR4.only (by omega) (Nat.le_refl _)
          have hUx := hR4.cols
          obtain ⟨-, r1, r2⟩ := took_wrong HTk.out hGv hQ2.out HV0.out (by rw [HVV2.out]; exact D3.out) hul
          rw [HVV2.out] at r1 r2
          obtain ⟨s1, s2⟩ := HD.out.next (q := Q - 1) (xs' := us4) (by rw [HLN.out]; omega) (by rw [hUx.len, HLN.out]) D3.out HV0'.out (by rw [hQx.len]; omega) rfl rfl r1 r2 (fun c hc => (hGv.same c hc).trans (HTk.out.same c hc)) hGv.low
          have S2 := Lib.hid s2
          have c1 := hQx.cell q (by omega)
          have f1 := hQx.frozen q
          have hUf := hUx.far (g' := w2.heap.size) (j := q) (u := .int .u32 ((Q : Int) - 1)) (by omega) (by omega)
          have hVf := hVx.far (g' := w2.heap.size) (j := q) (u := .int .u32 ((Q : Int) - 1)) (by omega) (by omega)
          have hQf := hQx.set q (Q - 1) ((Q : Int) - 1) (by omega)
          clear r1 r2 s1 s2 hUt hVt hQt hUx hVx hQx HD HPT hQ1 hQ2 hvrdt hvrdk hR2 hR4 hGv
          go_wp2_with fail
          go_roundw
          case rel => exact ⟨q, us4, _, by omega, by go_num, hUf, hVf, hQf, S2.out⟩
          case measure => simp [intOf]

end Go.Proofs.Ythplhlcdlnedfaa
