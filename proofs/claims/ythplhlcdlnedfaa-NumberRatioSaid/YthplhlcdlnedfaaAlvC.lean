/-
  The chapter's examples, part C: alive.
-/
import Derived.Test.YthplhlcdlnedfaaAlvB
import Derived.Deep.RegionHeld3
import Derived.Deep.CutRange
namespace Go.Proofs.Ythplhlcdlnedfaa
open Go.RowKit MN

set_option maxRecDepth 100000 in
set_option maxHeartbeats 1000000 in
theorem alive_any (w0 : World) : Calls Try.prog 24 #[] w0 fun e w' => e = .returned (.bool true) ∧ Below w0.heap.size w0 w' := by
  have hb0 := Below.refl w0.heap.size w0
  go_enter Try.func24, Try.ntmps24
  go_wp2_with fail
  refine (n_val 4294967295 _ w0 rfl (by decide)).mono ?_
  rintro e w1 ⟨vp, rfl, xp, hx1⟩
  have hb1 := hb0.trans (hx1.mono hb0.size)
  have op := xp.low hb0.size
  clear hb0 hx1 xp
  go_wp2_with fail
  refine (n_val 1 _ w1 rfl (by decide)).mono ?_
  rintro e w2 ⟨vq, rfl, xq, hx2⟩
  have hb2 := hb1.trans (hx2.mono hb1.size)
  have oq := xq.low hb1.size
  replace op := op.keep hx2
  clear hb1 hx2 xq
  go_wp2_with fail
  refine (add_n op oq (by decide) (by decide) (by decide)).mono ?_
  rintro e w3 ⟨va, rfl, xa, hx3⟩
  have hb3 := hb2.trans (hx3.mono hb2.size)
  have oa := xa.low hb2.size
  clear op
  clear oq
  clear hb2 hx3 xa
  go_wp2_with fail
  refine (n_val 4294967296 _ w3 rfl (by decide)).mono ?_
  rintro e w4 ⟨vp, rfl, xp, hx4⟩
  have hb4 := hb3.trans (hx4.mono hb3.size)
  have op := xp.low hb3.size
  replace oa := oa.keep hx4
  clear hb3 hx4 xp
  go_wp2_with fail
  refine (n_val 4294967296 _ w4 rfl (by decide)).mono ?_
  rintro e w5 ⟨vq, rfl, xq, hx5⟩
  have hb5 := hb4.trans (hx5.mono hb4.size)
  have oq := xq.low hb4.size
  replace oa := oa.keep hx5
  replace op := op.keep hx5
  clear hb4 hx5 xq
  go_wp2_with fail
  refine (mul_n op oq (by decide) (by decide) (by decide)).mono ?_
  rintro e w6 ⟨vb, rfl, xb, hx6⟩
  have hb6 := hb5.trans (hx6.mono hb5.size)
  have ob := xb.low hb5.size
  clear op
  clear oq
  replace oa := oa.keep hx6
  clear hb5 hx6 xb
  go_wp2_with fail
  refine (n_val 100 _ w6 rfl (by decide)).mono ?_
  rintro e w7 ⟨vp, rfl, xp, hx7⟩
  have hb7 := hb6.trans (hx7.mono hb6.size)
  have op := xp.low hb6.size
  replace oa := oa.keep hx7
  replace ob := ob.keep hx7
  clear hb6 hx7 xp
  go_wp2_with fail
  refine (n_val 7 _ w7 rfl (by decide)).mono ?_
  rintro e w8 ⟨vq, rfl, xq, hx8⟩
  have hb8 := hb7.trans (hx8.mono hb7.size)
  have oq := xq.low hb7.size
  replace oa := oa.keep hx8
  replace ob := ob.keep hx8
  replace op := op.keep hx8
  clear hb7 hx8 xq
  go_wp2_with fail
  refine (div_n op oq (by decide) (by decide) (by decide)).mono ?_
  rintro e w9 ⟨vc, vr, rfl, xc, xr, hx9⟩
  have hb9 := hb8.trans (hx9.mono hb8.size)
  have oc := xc.low hb8.size
  have or := xr.low hb8.size
  clear op
  clear oq
  replace oa := oa.keep hx9
  replace ob := ob.keep hx9
  clear hb8 hx9 xc xr
  go_wp2_with fail
  refine (n_val 12 _ w9 rfl (by decide)).mono ?_
  rintro e w10 ⟨vp, rfl, xp, hx10⟩
  have hb10 := hb9.trans (hx10.mono hb9.size)
  have op := xp.low hb9.size
  replace oa := oa.keep hx10
  replace ob := ob.keep hx10
  replace oc := oc.keep hx10
  replace or := or.keep hx10
  clear hb9 hx10 xp
  go_wp2_with fail
  refine (n_val 18 _ w10 rfl (by decide)).mono ?_
  rintro e w11 ⟨vq, rfl, xq, hx11⟩
  have hb11 := hb10.trans (hx11.mono hb10.size)
  have oq := xq.low hb10.size
  replace oa := oa.keep hx11
  replace ob := ob.keep hx11
  replace oc := oc.keep hx11
  replace or := or.keep hx11
  replace op := op.keep hx11
  clear hb10 hx11 xq
  go_wp2_with fail
  refine (gcd_n op oq (by decide) (by decide)).mono ?_
  rintro e w12 ⟨vd, rfl, xd, hx12⟩
  have hb12 := hb11.trans (hx12.mono hb11.size)
  have od := xd.low hb11.size
  clear op
  clear oq
  replace oa := oa.keep hx12
  replace ob := ob.keep hx12
  replace oc := oc.keep hx12
  replace or := or.keep hx12
  clear hb11 hx12 xd
  go_wp2_with fail
  refine (is_n oa 0 [0, 1] _ rfl 2 rfl (by decide)).mono ?_
  rintro e w13 ⟨rfl, hx13⟩
  rw [ex_add]
  have hb13 := hb12.trans (hx13.mono hb12.size)
  clear oa
  replace ob := ob.keep hx13
  replace oc := oc.keep hx13
  replace or := or.keep hx13
  replace od := od.keep hx13
  clear hb12 hx13
  go_wp2_with fail
  refine (is_n ob 0 [0, 0, 1] _ rfl 3 rfl (by decide)).mono ?_
  rintro e w14 ⟨rfl, hx14⟩
  rw [ex_mul]
  have hb14 := hb13.trans (hx14.mono hb13.size)
  replace ob := ob.keep hx14
  replace oc := oc.keep hx14
  replace or := or.keep hx14
  replace od := od.keep hx14
  clear hb13 hx14
  go_wp2_with fail
  refine (is_n oc 0 [14] _ rfl 1 rfl (by decide)).mono ?_
  rintro e w15 ⟨rfl, hx15⟩
  rw [ex_div]
  have hb15 := hb14.trans (hx15.mono hb14.size)
  clear oc
  replace ob := ob.keep hx15
  replace or := or.keep hx15
  replace od := od.keep hx15
  clear hb14 hx15
  go_wp2_with fail
  refine (is_n or 0 [2] _ rfl 1 rfl (by decide)).mono ?_
  rintro e w16 ⟨rfl, hx16⟩
  rw [ex_mod]
  have hb16 := hb15.trans (hx16.mono hb15.size)
  clear or
  replace ob := ob.keep hx16
  replace od := od.keep hx16
  clear hb15 hx16
  go_wp2_with fail
  refine (is_n od 0 [6] _ rfl 1 rfl (by decide)).mono ?_
  rintro e w17 ⟨rfl, hx17⟩
  rw [ex_gcd]
  have hb17 := hb16.trans (hx17.mono hb16.size)
  clear od
  replace ob := ob.keep hx17
  clear hb16 hx17
  go_wp2_with fail
  refine (of_val 4294967301 _ w17 rfl (by decide)).mono ?_
  rintro e w18 ⟨vo, rfl, xo, hx18⟩
  have hb18 := hb17.trans (hx18.mono hb17.size)
  have oo := xo.low hb17.size
  replace ob := ob.keep hx18
  clear hb17 hx18 xo
  go_wp2_with fail
  refine (is_n oo 0 [5, 1] _ rfl 2 rfl (by decide)).mono ?_
  rintro e w19 ⟨rfl, hx19⟩
  rw [ex_of]
  have hb19 := hb18.trans (hx19.mono hb18.size)
  clear oo
  replace ob := ob.keep hx19
  clear hb18 hx19
  go_wp2_with fail
  refine (text_n ob (by decide)).mono ?_
  rintro e w20 ⟨rfl, hx20⟩
  rw [ex_text]
  have hb20 := hb19.trans (hx20.mono hb19.size)
  clear hb19 ob hx20
  go_wp2_with fail
  refine (parse_n _ w20 18446744073709551616 ex_size ex_dec ex_dvk (by decide)).mono ?_
  rintro e w21 ⟨vt, rfl, xt, hx21⟩
  have hb21 := hb20.trans (hx21.mono hb20.size)
  have ot := xt.low hb20.size
  clear hb20 hx21 xt
  go_wp2_with fail
  refine (n_val 6 _ w21 rfl (by decide)).mono ?_
  rintro e w22 ⟨vp, rfl, xp, hx22⟩
  have hb22 := hb21.trans (hx22.mono hb21.size)
  have op := xp.low hb21.size
  replace ot := ot.keep hx22
  clear hb21 hx22 xp
  go_wp2_with fail
  refine (n_val 4 _ w22 rfl (by decide)).mono ?_
  rintro e w23 ⟨vq, rfl, xq, hx23⟩
  have hb23 := hb22.trans (hx23.mono hb22.size)
  have oq := xq.low hb22.size
  replace ot := ot.keep hx23
  replace op := op.keep hx23
  clear hb22 hx23 xq
  go_wp2_with fail
  refine (ratio_n op oq (by decide) (by decide) (by decide)).mono ?_
  rintro e w24 ⟨u1, u2, rfl, xu1, xu2, hx24⟩
  have hb24 := hb23.trans (hx24.mono hb23.size)
  have ou1 := xu1.low hb23.size
  have ou2 := xu2.low hb23.size
  clear op
  clear oq
  replace ot := ot.keep hx24
  clear hb23 hx24 xu1 xu2
  -- COUNT 24 ['t', 'u1', 'u2']
  obtain ⟨A1, m1, c1, rfl, o1⟩ := ou1
  obtain ⟨A2, m2, c2, rfl, o2⟩ := ou2
  go_wp2_with fail
  refine (powMod_any 3 4 7 _ (by omega) (by omega) (by omega)).mono ?_
  rintro e w25 ⟨rfl, rfl⟩
  rw [ex_pow, ex_powc]
  go_wp2_with fail
  refine (invMod_all 3 7 _ (by omega)).mono ?_
  rintro e w25 ⟨rfl, n, rfl⟩
  rw [ex_inv, ex_invc]
  have hx26 : Below w24.heap.size w24 ((w24.alloc (Obj.cells #[Value.slice A1 m1 c1, Value.slice A2 m2 c2] 38)).drewN n) := Below.frame' w24 _ n
  have hv26 := (var2_new w24 (Value.slice A1 m1 c1) (Value.slice A2 m2 c2) 38).drewN n
  have hs26 : w24.heap.size < ((w24.alloc (Obj.cells #[Value.slice A1 m1 c1, Value.slice A2 m2 c2] 38)).drewN n).heap.size := lt_drewN w24 _ n
  go_wp2_with fail
  generalize (w24.alloc (Obj.cells #[Value.slice A1 m1 c1, Value.slice A2 m2 c2] 38)).drewN n = w26 at hx26 hv26 hs26 ⊢
  have hb26 := hb24.trans (hx26.mono hb24.size)
  replace ot := ot.keep hx26
  have oa1 := (⟨A1, m1, c1, rfl, own_keep o1 hx26⟩ : Own w0.heap.size w26 (.slice A1 m1 c1) (6 / Nat.gcd 6 4))
  have oa2 := (⟨A2, m2, c2, rfl, own_keep o2 hx26⟩ : Own w0.heap.size w26 (.slice A2 m2 c2) (4 / Nat.gcd 6 4))
  obtain ⟨k0, k1, _, _⟩ := hv26
  have HI : Hid (∀ wx, Below w26.heap.size w26 wx → Calls Try.prog 25 #[vt, .int .i64 0, .slice (some ⟨wx.heap.size, 0, none⟩) 3 3] (wx.alloc (.cells #[.int .u32 0, .int .u32 0, .int .u32 1] 24)) fun e w' => e = .returned (.bool true) ∧ Below w26.heap.size w26 w') :=
    Lib.hid (fun wx hx => (is_n (ot.keep hx) 0 [0, 0, 1] _ rfl 3 rfl (by decide)).mono fun e w' ⟨he, hb⟩ => ⟨by rw [he, ex_parse], hx.trans (hb.mono hx.size)⟩)
  have HK : Hid (∀ wx, Below w26.heap.size w26 wx → wx.cell? ⟨w24.heap.size, 0, none⟩ = some (.slice A1 m1 c1) ∧ wx.cell? ⟨w24.heap.size, 1, none⟩ = some (.slice A2 m2 c2) ∧ Below w26.heap.size w26 wx) :=
    Lib.hid (fun wx hx => ⟨(hx.cell (p := ⟨w24.heap.size, 0, none⟩) hs26).trans k0, (hx.cell (p := ⟨w24.heap.size, 1, none⟩) hs26).trans k1, hx⟩)
  have HF : Hid (∀ wx, Below w26.heap.size w26 wx → Calls Try.prog 33 #[.int .u64 3, .int .u64 2] wx fun e w' => ∃ u1 u2, e = .returned (.agg #[u1, u2]) ∧ Own w26.heap.size w' u1 3 ∧ Own w26.heap.size w' u2 2 ∧ Below w26.heap.size w26 w') :=
    Lib.hid (fun wx hx => (fraction_val 3 2 3 2 wx rfl rfl (by decide) (by decide)).mono fun e w' ⟨u1, u2, he, p1, p2, hb⟩ => ⟨u1, u2, he, p1.low hx.size, p2.low hx.size, hx.trans (hb.mono hx.size)⟩)
  have HS : Hid (∀ wx u1 u2, Below w26.heap.size w26 wx → Own w26.heap.size wx u1 3 → Own w26.heap.size wx u2 2 → Calls Try.prog 36 #[.agg #[.slice A1 m1 c1, .slice A2 m2 c2], .agg #[u1, u2]] wx fun e w' => e = .returned (.bool true) ∧ Below w26.heap.size w26 w') :=
    Lib.hid (fun wx u1 u2 hx p1 p2 => (same_n (Own.keep oa1 hx) (Own.keep oa2 hx) p1 p2).mono fun e w' ⟨he, hb⟩ => ⟨by rw [he, ex_same], hx.trans (hb.mono hx.size)⟩)
  have hx0 : Below w26.heap.size w26 w26.drew := (Below.refl _ _).drew
  have hb0 := hb26
  clear o1 o2 ot oa1 oa2 hb24 hx26 k0 k1
  go_cut [142] from 104 to 142 (fun s142 wx => s142 = .bool false ∧ Below w26.heap.size w26 wx)
  case first =>
    go_region_held3 (fun w' => w'.cell? ⟨w24.heap.size, 0, none⟩ = some (.slice A1 m1 c1) ∧ w'.cell? ⟨w24.heap.size, 1, none⟩ = some (.slice A2 m2 c2) ∧ Below w26.heap.size w26 w')
      (first
        | exact HK.out _ hx0
        | exact HK.out _ (Below.alloc hx0 (Nat.le_refl _) _)
        | exact HK.out _ hxA
        | exact HK.out _ hxB
        | exact HK.out _ hxC)
      (first
      | (go_at_call 25; refine (HI.out _ hx0).mono ?_; rintro e wA ⟨rfl, hxA⟩)
      | (go_at_call 33; refine (HF.out _ hxA).mono ?_; rintro e wB ⟨u1, u2, rfl, p1, p2, hxB⟩)
      | (go_at_call 36; refine (HS.out _ _ _ hxB p1 p2).mono ?_; rintro e wC ⟨rfl, hxC⟩))
    go_wp2_with fail
    go_meet
    case rel => exact ⟨rfl, hxC⟩
  case rest =>
    obtain ⟨rfl, hxc⟩ := hcut
    have hbc := hb26.trans (hxc.mono hb26.size)
    clear HI HF HS HK hx0 hb26 hxc hs26 hb0
    go_wp2_with fail
    refine (prime_any 2 _ (by omega)).mono ?_
    rintro e w30 ⟨rfl, rfl⟩
    rw [ex_prime, ex_primec]
    go_wp2_with fail
    refine (checkGroup_any 23 11 2 _ (by omega) (by omega) (by omega) (by omega)).mono ?_
    rintro e w31 ⟨rfl, hx31⟩
    rw [ex_grp]
    have hb31 := hbc.trans (hx31.mono hbc.size)
    go_wp2_with fail
    refine (checkGroup_any 23 11 5 _ (by omega) (by omega) (by omega) (by omega)).mono ?_
    rintro e w32 ⟨rfl, hx32⟩
    rw [ex_grp5]
    have hb32 := hb31.trans (hx32.mono hb31.size)
    go_wp2
    go_ret
    exact ⟨rfl, hb32⟩
end Go.Proofs.Ythplhlcdlnedfaa
