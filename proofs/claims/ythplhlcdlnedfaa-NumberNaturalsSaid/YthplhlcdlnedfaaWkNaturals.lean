/- The walk over NumberNaturals. -/
import Derived.Test.YthplhlcdlnedfaaRefS
namespace Go.Proofs.Ythplhlcdlnedfaa.numberNaturals
open Go.RowKit MN

theorem same_self {w : World} {A1 A2 : Option Addr} {n1 c1 n2 c2 : Nat} {xs : List Nat} (ha : Rd .u32 w A1 n1 c1 xs) (hb : Rd .u32 w A2 n2 c2 xs) :
    Calls Try.prog 46 #[.slice A1 n1 c1, .slice A2 n2 c2] w fun e w' => e = .returned (.bool true) ∧ Below w.heap.size w w' := by
  have H := same_any A1 A2 n1 c1 n2 c2 xs xs w ha hb
  rw [sB_yes rfl] at H
  exact H.mono fun _ _ h => ⟨h.1, h.2.below⟩

set_option maxRecDepth 100000 in
set_option maxHeartbeats 4000000 in
theorem walk (A1 : Option Addr) (n1 c1 : Nat) (xs : List Nat) (A2 : Option Addr) (n2 c2 : Nat) (ys : List Nat) (w0 : World) (ax : Arg w0 A1 n1 c1 xs) (ay : Arg w0 A2 n2 c2 ys) (s1 : n1 * 4 ≤ 140737488351232) (s2 : n2 * 4 ≤ 140737488351232) :
    Calls Try.prog 4 #[.slice A1 n1 c1, .slice A2 n2 c2] w0 fun e w' => e = .returned (.bool true) ∧ Below w0.heap.size w0 w' := by
  go_enter Try.func4, Try.ntmps4
  skip
  go_wp2_with fail
  refine (twin_any A1 n1 c1 xs w0 ax s1).mono ?_
  rintro e w1 ⟨X1, m1, d1, rfl, ox, hb⟩
  replace ax := ax.keep hb
  replace ay := ay.keep hb
  go_wp2_with fail
  refine (twin_any A2 n2 c2 ys w1 ay s2).mono ?_
  rintro e w2 ⟨X2, m2, d2, rfl, oy, hc⟩
  have bx : Arg w2 X1 m1 d1 xs := ⟨Rd.of_own (own_keep ox hc), ax.low⟩
  have bY : Arg w2 X2 m2 d2 ys := ⟨Rd.of_own oy, ay.low⟩
  replace ax := ax.keep hc
  replace ay := ay.keep hc
  replace hb := hb.trans (hc.mono hb.size)
  clear hc ox oy
  go_wp2_with fail
  refine (compare_any X1 m1 d1 xs X2 m2 d2 ys w2 bx bY).mono ?_
  rintro e w3 ⟨rfl, hc⟩
  replace ax := ax.keep hc
  replace ay := ay.keep hc
  replace bx := bx.keep hc
  replace bY := bY.keep hc
  replace hb := hb.trans (hc.mono hb.size)
  clear hc
  go_wp2_with fail
  refine (rCompare_any A1 n1 c1 xs A2 n2 c2 ys w3 ax ay).mono ?_
  rintro e w4 ⟨rfl, rfl⟩
  generalize okI xs ys (ordv (nv xs) (nv ys)) = CV
  generalize okC xs ys 0 = CC
  go_wp2_with fail
  refine (check_any X1 m1 d1 xs w3 bx).mono ?_
  rintro e w4 ⟨rfl, hc⟩
  replace ax := ax.keep hc
  replace ay := ay.keep hc
  replace bx := bx.keep hc
  replace bY := bY.keep hc
  replace hb := hb.trans (hc.mono hb.size)
  clear hc
  go_wp2_with fail
  refine (rCheck_any A1 n1 c1 xs w4 ax).mono ?_
  rintro e w5 ⟨rfl, rfl⟩
  generalize ck xs = CK
  -- add_any
  go_wp2_with fail
  refine (add_any X1 m1 d1 xs X2 m2 d2 ys w4 bx bY).mono ?_
  rintro e w5 ⟨C1, q1, e1, rfl, oc, hc⟩
  go_wp2_with fail
  refine (rAdd_any A1 n1 c1 xs A2 n2 c2 ys w5 (ax.keep hc) (ay.keep hc)).mono ?_
  rintro e w6 ⟨D1, q2, e2, rfl, od, hd⟩
  generalize okC xs ys (fitC (nv xs + nv ys)) = CC
  have oc2 := own_keep oc hd
  replace hc := hc.trans (hd.mono hc.size)
  go_wp2_with fail
  refine (same_self (Rd.of_own oc2) (Rd.of_own od)).mono ?_
  rintro e w7 ⟨rfl, hd⟩
  have oc3 := own_keep oc2 hd
  replace hc := hc.trans (hd.mono hc.size)
  clear oc od oc2 hd
  go_wp2_with fail
  refine (spoil_any C1 q1 e1 _ _ w7 oc3 (digs_low _ _ (by omega))).mono ?_
  rintro e w8 ⟨rfl, -, hd⟩
  replace hc := hc.trans hd
  clear oc3 hd
  replace ax := ax.keep hc
  replace ay := ay.keep hc
  replace bx := bx.keep hc
  replace bY := bY.keep hc
  replace hb := hb.trans (hc.mono hb.size)
  clear hc
  -- sub_any
  go_wp2_with fail
  refine (sub_any X1 m1 d1 xs X2 m2 d2 ys w8 bx bY).mono ?_
  rintro e w9 ⟨C1, q1, e1, rfl, oc, hc⟩
  go_wp2_with fail
  refine (rSub_any A1 n1 c1 xs A2 n2 c2 ys w9 (ax.keep hc) (ay.keep hc)).mono ?_
  rintro e w10 ⟨D1, q2, e2, rfl, od, hd⟩
  generalize okC xs ys (subC (nv xs) (nv ys)) = CC
  have oc2 := own_keep oc hd
  replace hc := hc.trans (hd.mono hc.size)
  go_wp2_with fail
  refine (same_self (Rd.of_own oc2) (Rd.of_own od)).mono ?_
  rintro e w11 ⟨rfl, hd⟩
  have oc3 := own_keep oc2 hd
  replace hc := hc.trans (hd.mono hc.size)
  clear oc od oc2 hd
  go_wp2_with fail
  refine (spoil_any C1 q1 e1 _ _ w11 oc3 (digs_low _ _ (by omega))).mono ?_
  rintro e w12 ⟨rfl, -, hd⟩
  replace hc := hc.trans hd
  clear oc3 hd
  replace ax := ax.keep hc
  replace ay := ay.keep hc
  replace bx := bx.keep hc
  replace bY := bY.keep hc
  replace hb := hb.trans (hc.mono hb.size)
  clear hc
  -- mul_any
  go_wp2_with fail
  refine (mul_any X1 m1 d1 xs X2 m2 d2 ys w12 bx bY).mono ?_
  rintro e w13 ⟨C1, q1, e1, rfl, oc, hc⟩
  go_wp2_with fail
  refine (rMul_any A1 n1 c1 xs A2 n2 c2 ys w13 (ax.keep hc) (ay.keep hc)).mono ?_
  rintro e w14 ⟨D1, q2, e2, rfl, od, hd⟩
  generalize okC xs ys (fitC (nv xs * nv ys)) = CC
  have oc2 := own_keep oc hd
  replace hc := hc.trans (hd.mono hc.size)
  go_wp2_with fail
  refine (same_self (Rd.of_own oc2) (Rd.of_own od)).mono ?_
  rintro e w15 ⟨rfl, hd⟩
  have oc3 := own_keep oc2 hd
  replace hc := hc.trans (hd.mono hc.size)
  clear oc od oc2 hd
  go_wp2_with fail
  refine (spoil_any C1 q1 e1 _ _ w15 oc3 (digs_low _ _ (by omega))).mono ?_
  rintro e w16 ⟨rfl, -, hd⟩
  replace hc := hc.trans hd
  clear oc3 hd
  replace ax := ax.keep hc
  replace ay := ay.keep hc
  replace bx := bx.keep hc
  replace bY := bY.keep hc
  replace hb := hb.trans (hc.mono hb.size)
  clear hc
  -- div
  go_wp2_with fail
  refine (div_any X1 m1 d1 xs X2 m2 d2 ys w16 bx bY).mono ?_
  rintro e w17 ⟨C1, q1, e1, R1, r1, f1, rfl, oc, or, hc⟩
  go_wp2_with fail
  refine (rDiv_any A1 n1 c1 xs A2 n2 c2 ys w17 (ax.keep hc) (ay.keep hc)).mono ?_
  rintro e w18 ⟨D1, q2, e2, S1, r2, f2, rfl, od, os, hd⟩
  generalize okC xs ys (divC (nv ys)) = CC
  have oc2 := own_keep oc hd
  have or2 := own_keep or hd
  replace hc := hc.trans (hd.mono hc.size)
  go_wp2_with fail
  refine (same_self (Rd.of_own oc2) (Rd.of_own od)).mono ?_
  rintro e w19 ⟨rfl, hd⟩
  have oc3 := own_keep oc2 hd
  have or3 := own_keep or2 hd
  have os3 := own_keep os hd
  replace hc := hc.trans (hd.mono hc.size)
  clear oc od oc2 or or2 os hd
  go_wp2_with fail
  refine (same_self (Rd.of_own or3) (Rd.of_own os3)).mono ?_
  rintro e w20 ⟨rfl, hd⟩
  have oc4 := own_keep oc3 hd
  have or4 := own_keep or3 hd
  replace hc := hc.trans (hd.mono hc.size)
  clear oc3 or3 os3 hd
  -- the two are spoilt
  go_wp2_with fail
  refine (spoil_any C1 q1 e1 _ _ w20 oc4 (digs_low _ _ (by omega))).mono ?_
  rintro e w21 ⟨rfl, hR, hd⟩
  obtain ⟨zr, lr, or5⟩ := hR _ _ _ _ or4 (digs_low _ _ (by omega))
  go_wp2_with fail
  refine (spoil_any R1 r1 f1 _ _ w21 or5 lr).mono ?_
  rintro e w22 ⟨rfl, -, he⟩
  replace hc := (hc.trans hd).trans he
  clear oc4 or4 or5 hd he hR lr
  replace ax := ax.keep hc
  replace ay := ay.keep hc
  replace bx := bx.keep hc
  replace bY := bY.keep hc
  replace hb := hb.trans (hc.mono hb.size)
  clear hc
  -- gcd_any
  go_wp2_with fail
  refine (gcd_any X1 m1 d1 xs X2 m2 d2 ys w22 bx bY).mono ?_
  rintro e w23 ⟨C1, q1, e1, rfl, oc, hc⟩
  go_wp2_with fail
  refine (rGcd_any A1 n1 c1 xs A2 n2 c2 ys w23 (ax.keep hc) (ay.keep hc)).mono ?_
  rintro e w24 ⟨D1, q2, e2, rfl, od, hd⟩
  generalize okC xs ys 0 = CC
  have oc2 := own_keep oc hd
  replace hc := hc.trans (hd.mono hc.size)
  go_wp2_with fail
  refine (same_self (Rd.of_own oc2) (Rd.of_own od)).mono ?_
  rintro e w25 ⟨rfl, hd⟩
  have oc3 := own_keep oc2 hd
  replace hc := hc.trans (hd.mono hc.size)
  clear oc od oc2 hd
  go_wp2_with fail
  refine (spoil_any C1 q1 e1 _ _ w25 oc3 (digs_low _ _ (by omega))).mono ?_
  rintro e w26 ⟨rfl, -, hd⟩
  replace hc := hc.trans hd
  clear oc3 hd
  replace ax := ax.keep hc
  replace ay := ay.keep hc
  replace bx := bx.keep hc
  replace bY := bY.keep hc
  replace hb := hb.trans (hc.mono hb.size)
  clear hc
  go_wp2_with fail
  refine (same_self bx.rd ax.rd).mono ?_
  rintro e w27 ⟨rfl, hd⟩
  replace ax := ax.keep hd
  replace ay := ay.keep hd
  replace bx := bx.keep hd
  replace bY := bY.keep hd
  replace hb := hb.trans (hd.mono hb.size)
  clear hd
  go_wp2_with fail
  refine (same_self bY.rd ay.rd).mono ?_
  rintro e w28 ⟨rfl, hd⟩
  replace hb := hb.trans (hd.mono hb.size)
  go_wp2
  go_ret
  exact ⟨rfl, hb⟩
end Go.Proofs.Ythplhlcdlnedfaa.numberNaturals
