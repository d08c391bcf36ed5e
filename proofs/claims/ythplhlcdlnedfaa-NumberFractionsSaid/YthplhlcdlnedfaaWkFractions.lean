/- The walk over NumberFractions. -/
import Derived.Test.YthplhlcdlnedfaaFrZ
namespace Go.Proofs.Ythplhlcdlnedfaa.numberFractions
open Go.RowKit MN

theorem twin_at {w1 wx : World} {A : Option Addr} {n c : Nat} {xs : List Nat} (h : Arg w1 A n c xs) (hn : n * 4 ≤ 140737488351232) (hx : Below w1.heap.size w1 wx) :
    Calls Try.prog 41 #[.slice A n c] wx fun e w' => ∃ A m c, e = .returned (.slice A m c) ∧ w'.ownsRow wx.heap.size 24 1 (.slice A m c) m (vs32 xs) ∧ Below wx.heap.size wx w' ∧ Below w1.heap.size w1 w' :=
  (twin_any A n c xs wx (h.keep hx) hn).mono fun _ _ ⟨A, m, c, he, ho, hb⟩ => ⟨A, m, c, he, ho, hb, hx.trans (hb.mono hx.size)⟩
theorem twin_al {w1 wx : World} {A : Option Addr} {n c : Nat} {xs : List Nat} (h : Arg w1 A n c xs) (hn : n * 4 ≤ 140737488351232) (hx : Below w1.heap.size w1 wx) :
    Calls Try.prog 41 #[.slice A n c] (wx.alloc (.cells #[.slice none 0 0, .slice none 0 0] 38)) fun e w' => ∃ A m c, e = .returned (.slice A m c) ∧ w'.ownsRow (wx.heap.size + 1) 24 1 (.slice A m c) m (vs32 xs) ∧ Below wx.heap.size wx w' ∧ Below w1.heap.size w1 w' ∧ VarAt w' wx.heap.size (.slice none 0 0) (.slice none 0 0) :=
  (twin_at h hn (hx.alloc hx.size _)).mono fun _ _ ⟨A, m, c, he, a, hb, hb1⟩ => ⟨A, m, c, he, own_low a (by simp), (below_alloc wx _).trans (hb.mono (by simp)), hb1, VarAt.keep (varAt_new wx _ _) hb⟩
theorem size_set (w : World) (g h : Nat) (u v : Value) : ((w.setCell ⟨g, 0, none⟩ u).setCell ⟨h, 1, none⟩ v).heap.size = w.heap.size := by simp [World.setCell]

theorem sameFr_self {w : World} {A1 A2 A3 A4 : Option Addr} {n1 c1 n2 c2 n3 c3 n4 c4 : Nat} {xs ys : List Nat} (h1 : Rd .u32 w A1 n1 c1 xs) (h2 : Rd .u32 w A2 n2 c2 ys) (h3 : Rd .u32 w A3 n3 c3 xs) (h4 : Rd .u32 w A4 n4 c4 ys) :
    Calls Try.prog 36 #[.agg #[.slice A1 n1 c1, .slice A2 n2 c2], .agg #[.slice A3 n3 c3, .slice A4 n4 c4]] w fun e w' => e = .returned (.bool true) ∧ Below w.heap.size w w' := by
  have H := sameFraction_any A1 A2 A3 A4 n1 c1 n2 c2 n3 c3 n4 c4 xs ys xs ys w h1 h2 h3 h4
  rw [sB_yes rfl, sB_yes rfl] at H
  exact H
set_option linter.unusedSimpArgs false in
theorem var2_other {w : World} {B R : Nat} {a b u v : Value} (h : Var2 w B a b) (hn : R ≠ B) : Var2 ((w.setCell ⟨R, 0, none⟩ u).setCell ⟨R, 1, none⟩ v) B a b :=
  ⟨by rw [World.cell?_setCell_other (h := by simp [hn]), World.cell?_setCell_other (h := by simp [hn])]; exact h.c0,
   by rw [World.cell?_setCell_other (h := by simp [hn]), World.cell?_setCell_other (h := by simp [hn])]; exact h.c1,
   by rw [World.frozen?_setCell, World.frozen?_setCell]; exact h.f0, by rw [World.frozen?_setCell, World.frozen?_setCell]; exact h.f1⟩
theorem varAt_low {w w' : World} {B N : Nat} {u v : Value} (h : VarAt w B u v) (hb : Below N w w') (hN : B < N) : VarAt w' B u v := ⟨h.1.keep hb hN, Nat.lt_of_lt_of_le h.2 hb.size⟩

set_option linter.unusedSimpArgs false in
set_option maxRecDepth 100000 in
set_option maxHeartbeats 4000000 in
theorem walk (A1 A2 A3 A4 A5 A6 : Option Addr) (n1 n2 n3 n4 n5 n6 c1 c2 c3 c4 c5 c6 : Nat) (xs ys zs us vs ts : List Nat) (w : World) (a1 : Arg w A1 n1 c1 xs) (a2 : Arg w A2 n2 c2 ys) (a3 : Arg w A3 n3 c3 zs) (a4 : Arg w A4 n4 c4 us) (a5 : Arg w A5 n5 c5 vs) (a6 : Arg w A6 n6 c6 ts)
    (s3 : n3 * 4 ≤ 140737488351232) (s4 : n4 * 4 ≤ 140737488351232) :
    Calls Try.prog 6 #[.slice A1 n1 c1, .slice A2 n2 c2, .agg #[.slice A3 n3 c3, .slice A4 n4 c4], .agg #[.slice A5 n5 c5, .slice A6 n6 c6]] w fun e w' => e = .returned (.bool true) ∧ Below w.heap.size w w' := by
  obtain ⟨w1, hw1⟩ : ∃ w1, w1 = (w.alloc (.cells #[.slice A3 n3 c3, .slice A4 n4 c4] 38)).alloc (.cells #[.slice A5 n5 c5, .slice A6 n6 c6] 38) := ⟨_, rfl⟩
  have hb1 : Below w.heap.size w w1 := by rw [hw1]; exact ((Below.refl _ _).alloc (Nat.le_refl _) _).alloc (by simp) _
  have hs1 : w1.heap.size = w.heap.size + 1 + 1 := by rw [hw1]; simp
  have vg : VarAt w1 (w.heap.size + 1) (.slice A5 n5 c5) (.slice A6 n6 c6) := by
    refine ⟨?_, by omega⟩
    rw [hw1]
    have := var2_new (w.alloc (.cells #[.slice A3 n3 c3, .slice A4 n4 c4] 38)) (.slice A5 n5 c5) (.slice A6 n6 c6) 38
    simpa using this
  have vf : VarAt w1 w.heap.size (.slice A3 n3 c3) (.slice A4 n4 c4) := by
    refine ⟨?_, by omega⟩
    rw [hw1]
    exact (var2_new w (.slice A3 n3 c3) (.slice A4 n4 c4) 38).keep (below_alloc _ _) (by simp)
  have HW := Lib.hid hw1
  replace a1 := a1.keep hb1
  replace a2 := a2.keep hb1
  replace a3 := a3.keep hb1
  replace a4 := a4.keep hb1
  replace a5 := a5.keep hb1
  replace a6 := a6.keep hb1
  clear hw1
  have HK : Hid (∀ wx, Below w1.heap.size w1 wx → wx.cell? ⟨w.heap.size, 0, none⟩ = some (.slice A3 n3 c3) ∧ wx.cell? ⟨w.heap.size, 1, none⟩ = some (.slice A4 n4 c4)) := Lib.hid (fun wx hx => ⟨(vf.keep hx).1.c0, (vf.keep hx).1.c1⟩)
  have HT1 : Hid (∀ wx, Below w1.heap.size w1 wx → Calls Try.prog 41 #[.slice A3 n3 c3] wx fun e w' => ∃ A m c, e = .returned (.slice A m c) ∧ w'.ownsRow wx.heap.size 24 1 (.slice A m c) m (vs32 zs) ∧ Below wx.heap.size wx w' ∧ Below w1.heap.size w1 w') := Lib.hid (fun wx hx => twin_at a3 s3 hx)
  have HT2 : Hid (∀ wx, Below w1.heap.size w1 wx → Calls Try.prog 41 #[.slice A4 n4 c4] wx fun e w' => ∃ A m c, e = .returned (.slice A m c) ∧ w'.ownsRow wx.heap.size 24 1 (.slice A m c) m (vs32 us) ∧ Below wx.heap.size wx w' ∧ Below w1.heap.size w1 w') := Lib.hid (fun wx hx => twin_at a4 s4 hx)
  have hx0 : Below w1.heap.size w1 w1.drew := (Below.refl _ _).drew
  have HU1 : Hid (∀ wx, Below w1.heap.size w1 wx → Calls Try.prog 41 #[.slice A3 n3 c3] (wx.alloc (.cells #[.slice none 0 0, .slice none 0 0] 38)) fun e w' => ∃ A m c, e = .returned (.slice A m c) ∧ w'.ownsRow (wx.heap.size + 1) 24 1 (.slice A m c) m (vs32 zs) ∧ Below wx.heap.size wx w' ∧ Below w1.heap.size w1 w' ∧ VarAt w' wx.heap.size (.slice none 0 0) (.slice none 0 0)) := Lib.hid (fun wx hx => twin_al a3 s3 hx)
  have HU0 : Hid (Calls Try.prog 41 #[.slice A3 n3 c3] (w1.alloc (.cells #[.slice none 0 0, .slice none 0 0] 38)).drew fun e w' => ∃ A m c, e = .returned (.slice A m c) ∧ w'.ownsRow (w1.heap.size + 1) 24 1 (.slice A m c) m (vs32 zs) ∧ Below w1.heap.size w1 w' ∧ VarAt w' w1.heap.size (.slice none 0 0) (.slice none 0 0)) :=
    Lib.hid ((twin_at a3 s3 (Below.drew (below_alloc w1 _))).mono fun _ _ ⟨A, m, c, he, a, hb, hb1⟩ => ⟨A, m, c, he, own_low a (by show w1.heap.size + 1 ≤ (w1.alloc _).heap.size; simp), hb1, VarAt.keep (w := (w1.alloc (.cells #[.slice none 0 0, .slice none 0 0] 38)).drew) ⟨⟨(varAt_new w1 _ _).1.c0, (varAt_new w1 _ _).1.c1, (varAt_new w1 _ _).1.f0, (varAt_new w1 _ _).1.f1⟩, (varAt_new w1 _ _).2⟩ hb⟩)
  have hx1 : Below w1.heap.size w1 (w1.alloc (.cells #[.slice none 0 0, .slice none 0 0] 38)).drew := Below.drew (below_alloc w1 _)
  have HU2 : Hid (∀ wx, Below w1.heap.size w1 wx → Calls Try.prog 41 #[.slice A4 n4 c4] (wx.alloc (.cells #[.slice none 0 0, .slice none 0 0] 38)) fun e w' => ∃ A m c, e = .returned (.slice A m c) ∧ w'.ownsRow (wx.heap.size + 1) 24 1 (.slice A m c) m (vs32 us) ∧ Below wx.heap.size wx w' ∧ Below w1.heap.size w1 w' ∧ VarAt w' wx.heap.size (.slice none 0 0) (.slice none 0 0)) := Lib.hid (fun wx hx => twin_al a4 s4 hx)
  have B1 := Lib.hid a1
  have B2 := Lib.hid a2
  have B3 := Lib.hid a3
  have B4 := Lib.hid a4
  have B5 := Lib.hid a5
  have B6 := Lib.hid a6
  have VF := Lib.hid vf
  have VG := Lib.hid vg
  clear a1 a2 a3 a4 a5 a6 vf vg s3 s4 hs1
  go_enter Try.func6, Try.ntmps6
  go_wp2_with fail
  rw [← HW.out]
  go_cut [9] from 16 to 22 (fun s wx => ∃ Bx X1 m1 k1 X2 m2 k2, s = .pointer (some ⟨Bx, 0, none⟩) ∧ VarAt wx Bx (.slice X1 m1 k1) (.slice X2 m2 k2) ∧ Arg wx X1 m1 k1 zs ∧ Arg wx X2 m2 k2 us ∧ Below w1.heap.size w1 wx)
  case first =>
    go_region_held3 (fun w' => w'.cell? ⟨w.heap.size, 0, none⟩ = some (.slice A3 n3 c3) ∧ w'.cell? ⟨w.heap.size, 1, none⟩ = some (.slice A4 n4 c4))
      (first
        | with_reducible exact HK.out _ hx0
        | with_reducible exact HK.out _ hx1
        | with_reducible exact HK.out _ hxA
        | with_reducible exact HK.out _ (Below.alloc hxA hxA.size _)
        | with_reducible exact HK.out _ hxB
        | with_reducible exact HK.out _ (Below.alloc hxB hxB.size _)
        | exact HK.out _ (Below.setCell (Below.setCell hxB hvx _) hvx _))
      (first
        | (go_at_call 41; (with_reducible refine (HU2.out _ hxA).mono ?_); rintro e wB ⟨X2, m2, k2, rfl, o2, hB, hxB, vx⟩; have hvx : w1.heap.size ≤ wA.heap.size := hxA.size; obtain ⟨g0, g1, u0, u1⟩ := vx.1)
        | (go_at_call 41; (with_reducible refine (HT2.out _ hxA).mono ?_); rintro e wB ⟨X2, m2, k2, rfl, o2, hB, hxB⟩; try (have hlt := vx.2; replace vx := VarAt.keep vx hB; obtain ⟨g0, g1, u0, u1⟩ := vx.1))
        | (go_at_call 41; (with_reducible refine HU0.out.mono ?_); rintro e wA ⟨X1, m1, k1, rfl, o1, hxA, vx⟩; have hvx : w1.heap.size ≤ w1.heap.size := Nat.le_refl _)
        | (go_at_call 41; (with_reducible refine (HT1.out _ hx0).mono ?_); rintro e wA ⟨X1, m1, k1, rfl, o1, hA, hxA⟩))
    all_goals
      go_wp2_with fail
      go_meet
      case rel =>
        first
          | exact ⟨_, _, _, _, _, _, _, rfl, varAt_new wB _ _, ⟨Rd.of_own (own_keep o1 (Below.alloc hB hB.size _)), B3.out.low⟩, ⟨Rd.of_own (own_keep o2 (below_alloc wB _)), B4.out.low⟩, Below.alloc hxB hxB.size _⟩
          | exact ⟨_, _, _, _, _, _, _, rfl, ⟨vx.1.stored _ _, by rw [size_set]; exact vx.2⟩, ⟨Rd.of_own (own_keep o1 (Below.setCell (Below.setCell hB (p := ⟨wA.heap.size, 0, none⟩) (Nat.le_refl _) _) (p := ⟨wA.heap.size, 1, none⟩) (Nat.le_refl _) _)), B3.out.low⟩, ⟨Rd.of_own (own_apart (own_apart o2 (by omega)) (by omega)), B4.out.low⟩, Below.setCell (Below.setCell hxB hvx _) hvx _⟩
          | exact ⟨_, _, _, _, _, _, _, rfl, ⟨vx.1.stored _ _, by rw [size_set]; exact vx.2⟩, ⟨Rd.of_own (own_apart (own_apart (own_keep o1 hB) (by omega)) (by omega)), B3.out.low⟩, ⟨Rd.of_own (own_apart (own_apart o2 hlt) hlt), B4.out.low⟩, Below.setCell (Below.setCell hxB hvx _) hvx _⟩
  case rest =>
    obtain ⟨Bx, X1, m1, k1, X2, m2, k2, rfl, vx, x1, x2, hx⟩ := hcut
    clear HT1 HT2 HU0 HU1 HU2 HK hx0 hx1
    go_wp2_with fail
    refine (ratio_any A1 n1 c1 xs A2 n2 c2 ys wc (B1.out.keep hx) (B2.out.keep hx)).mono ?_
    rintro e wR ⟨u1, u2, rfl, P⟩
    obtain ⟨C1, p1, t1, rfl, oc1⟩ := P.one
    obtain ⟨C2, p2, t2, rfl, oc2⟩ := P.two
    have hxR := hx.trans (P.below.mono hx.size)
    have G1 := Lib.hid (B1.out.keep hxR)
    have G2 := Lib.hid (B2.out.keep hxR)
    have G3 := Lib.hid (B3.out.keep hxR)
    have G4 := Lib.hid (B4.out.keep hxR)
    have G5 := Lib.hid (B5.out.keep hxR)
    have G6 := Lib.hid (B6.out.keep hxR)
    have GX1 := Lib.hid (x1.keep P.below)
    have GX2 := Lib.hid (x2.keep P.below)
    have VX := Lib.hid (vx.keep P.below)
    have VF2 := Lib.hid (VF.out.keep hxR)
    have VG2 := Lib.hid (VG.out.keep hxR)
    have hbR : Below w.heap.size w wR := hb1.trans (hxR.mono hb1.size)
    clear x1 x2 vx hx hxR P B1 B2 B3 B4 B5 B6 VF VG
    obtain ⟨Bc, hBc⟩ : ∃ B, B = wR.heap.size := ⟨_, rfl⟩
    have vc := varAt_new wR (.slice C1 p1 t1) (.slice C2 p2 t2)
    have hk := below_alloc wR (.cells #[.slice C1 p1 t1, .slice C2 p2 t2] 38)
    rw [← hBc] at vc
    have HBc := Lib.hid hBc
    go_wp2_with fail
    rw [← hBc]
    clear hBc
    generalize wR.alloc (.cells #[.slice C1 p1 t1, .slice C2 p2 t2] 38) = W2 at hk vc ⊢
    refine (rRatio_any A1 n1 c1 xs A2 n2 c2 ys W2 (G1.out.keep hk) (G2.out.keep hk)).mono ?_
    rintro e W3 ⟨u1, u2, rfl, Q⟩
    obtain ⟨D1, q1, r1, rfl, od1⟩ := Q.one
    obtain ⟨D2, q2, r2, rfl, od2⟩ := Q.two
    replace hk := hk.trans (Q.below.mono hk.size)
    replace vc := vc.keep Q.below
    clear Q
    obtain ⟨Bd, hBd⟩ : ∃ B, B = W3.heap.size := ⟨_, rfl⟩
    have hcd : Bc < Bd := by rw [hBd]; exact vc.2
    have vd := varAt_new W3 (.slice D1 q1 r1) (.slice D2 q2 r2)
    have hc := below_alloc W3 (.cells #[.slice D1 q1 r1, .slice D2 q2 r2] 38)
    rw [← hBd] at vd
    generalize okC xs ys (ratC (nv xs) (nv ys)) = CC1
    go_wp2_with fail
    rw [← hBd]
    clear hBd
    generalize W3.alloc (.cells #[.slice D1 q1 r1, .slice D2 q2 r2] 38) = W4 at hc vd ⊢
    have o1 := own_keep oc1 (hk.trans (hc.mono hk.size))
    have o2 := own_keep oc2 (hk.trans (hc.mono hk.size))
    have o3 := own_keep od1 hc
    have o4 := own_keep od2 hc
    replace hk := hk.trans (hc.mono hk.size)
    replace vc := vc.keep hc
    clear hc oc1 oc2 od1 od2
    have ex := VX.out.keep hk
    have ef := VF2.out.keep hk
    have HK : Hid (∀ wx, Below W4.heap.size W4 wx → wx.cell? ⟨Bc, 0, none⟩ = some (.slice C1 p1 t1) ∧ wx.cell? ⟨Bc, 1, none⟩ = some (.slice C2 p2 t2) ∧ wx.cell? ⟨Bd, 0, none⟩ = some (.slice D1 q1 r1) ∧ wx.cell? ⟨Bd, 1, none⟩ = some (.slice D2 q2 r2) ∧ wx.cell? ⟨Bx, 0, none⟩ = some (.slice X1 m1 k1) ∧ wx.cell? ⟨Bx, 1, none⟩ = some (.slice X2 m2 k2) ∧ wx.cell? ⟨w.heap.size, 0, none⟩ = some (.slice A3 n3 c3) ∧ wx.cell? ⟨w.heap.size, 1, none⟩ = some (.slice A4 n4 c4)) := Lib.hid (fun wx h => ⟨(vc.keep h).1.c0, (vc.keep h).1.c1, (vd.keep h).1.c0, (vd.keep h).1.c1, (ex.keep h).1.c0, (ex.keep h).1.c1, (ef.keep h).1.c0, (ef.keep h).1.c1⟩)
    obtain ⟨FC, hFC⟩ : ∃ c, c = frC zs us := ⟨_, rfl⟩
    have HS : Hid (∀ wx, Below W4.heap.size W4 wx → Calls Try.prog 36 #[.agg #[.slice C1 p1 t1, .slice C2 p2 t2], .agg #[.slice D1 q1 r1, .slice D2 q2 r2]] wx fun e w' => e = .returned (.bool true) ∧ Below W4.heap.size W4 w') := Lib.hid (fun wx h => (sameFr_self ((Rd.of_own o1).keep h) ((Rd.of_own o2).keep h) ((Rd.of_own o3).keep h) ((Rd.of_own o4).keep h)).mono fun e w' ⟨he, hb⟩ => ⟨he, h.trans (hb.mono h.size)⟩)
    have HC : Hid (∀ wx, Below W4.heap.size W4 wx → Calls Try.prog 57 #[.agg #[.slice X1 m1 k1, .slice X2 m2 k2]] wx fun e w' => e = .returned (.int .i64 FC) ∧ Below W4.heap.size W4 w') := Lib.hid (fun wx h => by rw [hFC]; exact (checkFraction_any X1 m1 k1 zs X2 m2 k2 us wx ((GX1.out.keep hk).keep h) ((GX2.out.keep hk).keep h)).mono fun e w' ⟨he, hb⟩ => ⟨he, h.trans (hb.mono h.size)⟩)
    have HD : Hid (∀ wx, Below W4.heap.size W4 wx → Calls Try.prog 58 #[.agg #[.slice A3 n3 c3, .slice A4 n4 c4]] wx fun e w' => e = .returned (.int .i64 FC) ∧ Below W4.heap.size W4 w') := Lib.hid (fun wx h => by rw [hFC]; exact (rCheckFr_any A3 n3 c3 zs A4 n4 c4 us wx ((G3.out.keep hk).keep h) ((G4.out.keep hk).keep h)).mono fun e w' ⟨he, hb⟩ => ⟨he, h.trans (hb.mono h.size)⟩)
    have hx0 : Below W4.heap.size W4 W4.drew := (Below.refl _ _).drew
    clear ex ef hFC o1 o2 o3 o4
    go_wp2_with fail
    go_cut [50] from 35 to 50 (fun s wx => s = .bool false ∧ Below W4.heap.size W4 wx)
    case first =>
      go_region_held3 (fun w' => w'.cell? ⟨Bc, 0, none⟩ = some (.slice C1 p1 t1) ∧ w'.cell? ⟨Bc, 1, none⟩ = some (.slice C2 p2 t2) ∧ w'.cell? ⟨Bd, 0, none⟩ = some (.slice D1 q1 r1) ∧ w'.cell? ⟨Bd, 1, none⟩ = some (.slice D2 q2 r2) ∧ w'.cell? ⟨Bx, 0, none⟩ = some (.slice X1 m1 k1) ∧ w'.cell? ⟨Bx, 1, none⟩ = some (.slice X2 m2 k2) ∧ w'.cell? ⟨w.heap.size, 0, none⟩ = some (.slice A3 n3 c3) ∧ w'.cell? ⟨w.heap.size, 1, none⟩ = some (.slice A4 n4 c4))
        (first
          | with_reducible exact HK.out _ hxC
          | with_reducible exact HK.out _ hxB
          | with_reducible exact HK.out _ hxA
          | with_reducible exact HK.out _ hx0)
        (first
          | (go_at_call 36; (with_reducible refine (HS.out _ hx0).mono ?_); rintro e wA ⟨rfl, hxA⟩)
          | (go_at_call 57; (with_reducible refine (HC.out _ hxA).mono ?_); rintro e wB ⟨rfl, hxB⟩)
          | (go_at_call 58; (with_reducible refine (HD.out _ hxB).mono ?_); rintro e wC ⟨rfl, hxC⟩))
      all_goals
        go_wp2_with fail
        go_meet
        case rel => exact ⟨rfl, hxC⟩
    case rest =>
    obtain ⟨rfl, hz⟩ := hcut
    replace hk := hk.trans (hz.mono hk.size)
    replace vc := vc.keep hz
    replace vd := vd.keep hz
    clear HK HS HC HD hx0 hz
    skip
    have xq0 := (VX.out.keep hk).1.c0
    have xq1 := (VX.out.keep hk).1.c1
    have gq0 := (VG2.out.keep hk).1.c0
    have gq1 := (VG2.out.keep hk).1.c1
    go_wp2_with fail
    refine (cmp_all _ X1 X2 A5 A6 m1 m2 n5 n6 k1 k2 c5 c6 zs us vs ts (GX1.out.keep hk) (GX2.out.keep hk) (G5.out.keep hk) (G6.out.keep hk)).mono ?_
    rintro e W6 ⟨rfl, hz⟩
    clear xq0 xq1 gq0 gq1
    replace hk := hk.trans (hz.mono hk.size)
    replace vc := vc.keep hz
    replace vd := vd.keep hz
    clear hz
    have fq0 := (VF2.out.keep hk).1.c0
    have fq1 := (VF2.out.keep hk).1.c1
    have gq0 := (VG2.out.keep hk).1.c0
    have gq1 := (VG2.out.keep hk).1.c1
    go_wp2_with fail
    refine (rCmp2_any W6 A3 A4 A5 A6 n3 n4 n5 n6 c3 c4 c5 c6 zs us vs ts (G3.out.keep hk) (G4.out.keep hk) (G5.out.keep hk) (G6.out.keep hk)).mono ?_
    rintro e W7 ⟨rfl, hz⟩
    generalize f2I zs us vs ts (ordv (nv zs * nv ts) (nv vs * nv us)) = CI
    generalize f2C zs us vs ts 0 = CF
    clear fq0 fq1 gq0 gq1
    replace hk := hk.trans (hz.mono hk.size)
    replace vc := vc.keep hz
    replace vd := vd.keep hz
    clear hz
    have xq0 := (VX.out.keep hk).1.c0
    have xq1 := (VX.out.keep hk).1.c1
    have gq0 := (VG2.out.keep hk).1.c0
    have gq1 := (VG2.out.keep hk).1.c1
    go_wp2_with fail
    refine (add_all W7 X1 X2 A5 A6 m1 m2 n5 n6 k1 k2 c5 c6 zs us vs ts (GX1.out.keep hk) (GX2.out.keep hk) (G5.out.keep hk) (G6.out.keep hk)).mono ?_
    rintro e V1 ⟨u1, u2, rfl, P⟩
    clear xq0 xq1 gq0 gq1
    obtain ⟨E1, y1, z1, rfl, oc1⟩ := P.one
    obtain ⟨E2, y2, z2, rfl, oc2⟩ := P.two
    have hz := P.below
    have hlc : Bc < W7.heap.size := vc.2
    have hld : Bd < W7.heap.size := vd.2
    have hWR : wR.heap.size ≤ W7.heap.size := hk.size
    replace hk := hk.trans (hz.mono hk.size)
    replace vc := vc.keep hz
    replace vd := vd.keep hz
    have hBR : wR.heap.size ≤ Bc := by rw [HBc.out]; exact Nat.le_refl _
    have sc := vc.1.stored (.slice E1 y1 z1) (.slice E2 y2 z2)
    have sd := var2_other (u := .slice E1 y1 z1) (v := .slice E2 y2 z2) vd.1 (show Bc ≠ Bd by omega)
    have sk := Below.setCell (Below.setCell hk (p := ⟨Bc, 0, none⟩) hBR (.slice E1 y1 z1)) (p := ⟨Bc, 1, none⟩) hBR (.slice E2 y2 z2)
    have so1 := own_apart (j := 1) (u := .slice E2 y2 z2) (own_apart (j := 0) (u := .slice E1 y1 z1) oc1 hlc) hlc
    have so2 := own_apart (j := 1) (u := .slice E2 y2 z2) (own_apart (j := 0) (u := .slice E1 y1 z1) oc2 hlc) hlc
    have ss := size_set V1 Bc Bc (.slice E1 y1 z1) (.slice E2 y2 z2)
    obtain ⟨c0, c1, cf0, cf1⟩ := vc.1
    have svc := vc.2
    have svd := vd.2
    have hz1 := hz.size
    clear P oc1 oc2 hz vc vd hk
    go_upto_region 11 with fail
    obtain ⟨V2, hV2⟩ : ∃ v, v = (V1.setCell ⟨Bc, 0, none⟩ (.slice E1 y1 z1)).setCell ⟨Bc, 1, none⟩ (.slice E2 y2 z2) := ⟨_, rfl⟩
    rw [← hV2] at sc sd sk so1 so2 ss ⊢
    clear hV2 c0 c1 cf0 cf1
    have vc : VarAt V2 Bc (.slice E1 y1 z1) (.slice E2 y2 z2) := ⟨sc, by rw [ss]; exact svc⟩
    have vd : VarAt V2 Bd _ _ := ⟨sd, by rw [ss]; exact svd⟩
    have hk := sk
    have hV2s : W7.heap.size ≤ V2.heap.size := by rw [ss]; exact hz1
    clear sc sd sk ss svc svd
    have fq0 := (VF2.out.keep hk).1.c0
    have fq1 := (VF2.out.keep hk).1.c1
    have gq0 := (VG2.out.keep hk).1.c0
    have gq1 := (VG2.out.keep hk).1.c1
    go_wp2_with fail
    refine (rAdd2_any V2 A3 A4 A5 A6 n3 n4 n5 n6 c3 c4 c5 c6 zs us vs ts (G3.out.keep hk) (G4.out.keep hk) (G5.out.keep hk) (G6.out.keep hk)).mono ?_
    rintro e V3 ⟨u1, u2, rfl, P⟩
    clear fq0 fq1 gq0 gq1
    obtain ⟨F1, i1, j1, rfl, od1⟩ := P.one
    obtain ⟨F2, i2, j2, rfl, od2⟩ := P.two
    have hz := P.below
    replace hk := hk.trans (hz.mono hk.size)
    replace vc := vc.keep hz
    replace vd := vd.keep hz
    have hld2 : Bd < V2.heap.size := by omega
    replace so1 := own_keep so1 hz
    replace so2 := own_keep so2 hz
    have sd := vd.1.stored (.slice F1 i1 j1) (.slice F2 i2 j2)
    have sc := var2_other (u := .slice F1 i1 j1) (v := .slice F2 i2 j2) vc.1 (show Bd ≠ Bc by omega)
    have hdR : wR.heap.size ≤ Bd := by omega
    have sk := Below.setCell (Below.setCell hk (p := ⟨Bd, 0, none⟩) hdR (.slice F1 i1 j1)) (p := ⟨Bd, 1, none⟩) hdR (.slice F2 i2 j2)
    replace so1 := own_apart (j := 1) (u := .slice F2 i2 j2) (own_apart (j := 0) (u := .slice F1 i1 j1) so1 hld) hld
    replace so2 := own_apart (j := 1) (u := .slice F2 i2 j2) (own_apart (j := 0) (u := .slice F1 i1 j1) so2 hld) hld
    have so3 := own_apart (j := 1) (u := .slice F2 i2 j2) (own_apart (j := 0) (u := .slice F1 i1 j1) od1 hld2) hld2
    have so4 := own_apart (j := 1) (u := .slice F2 i2 j2) (own_apart (j := 0) (u := .slice F1 i1 j1) od2 hld2) hld2
    have ss := size_set V3 Bd Bd (.slice F1 i1 j1) (.slice F2 i2 j2)
    obtain ⟨d0, d1, df0, df1⟩ := vd.1
    have svc := vc.2
    have svd := vd.2
    have hz2 := hz.size
    clear P od1 od2 hz vc vd hk
    generalize f2C zs us vs ts (redC (nv zs * nv ts + nv vs * nv us) (nv us * nv ts)) = KC
    go_upto_region 12 with fail
    obtain ⟨V4, hV4⟩ : ∃ v, v = (V3.setCell ⟨Bd, 0, none⟩ (.slice F1 i1 j1)).setCell ⟨Bd, 1, none⟩ (.slice F2 i2 j2) := ⟨_, rfl⟩
    rw [← hV4] at sc sd sk so1 so2 so3 so4 ss ⊢
    clear hV4 d0 d1 df0 df1
    have vc : VarAt V4 Bc _ _ := ⟨sc, by rw [ss]; exact svc⟩
    have vd : VarAt V4 Bd (.slice F1 i1 j1) (.slice F2 i2 j2) := ⟨sd, by rw [ss]; exact svd⟩
    have hk := sk
    clear sc sd sk ss svc svd
    have cq0 := (vc).1.c0
    have cq1 := (vc).1.c1
    have dq0 := (vd).1.c0
    have dq1 := (vd).1.c1
    go_wp2_with fail
    refine (sameFr_self (Rd.of_own so1) (Rd.of_own so2) (Rd.of_own so3) (Rd.of_own so4)).mono ?_
    rintro e V5 ⟨rfl, hz⟩
    clear cq0 cq1 dq0 dq1
    replace so1 := own_keep so1 hz
    replace so2 := own_keep so2 hz
    replace hk := hk.trans (hz.mono hk.size)
    replace vc := vc.keep hz
    replace vd := vd.keep hz
    clear hz so3 so4
    have cq0 := (vc).1.c0
    have cq1 := (vc).1.c1
    go_wp2_with fail
    refine (spoil_any E1 y1 z1 _ _ V5 so1 (digs_low _ _ (by omega))).mono ?_
    rintro e V6 ⟨rfl, hR, hz⟩
    clear cq0 cq1
    obtain ⟨zr, lr, so5⟩ := hR _ _ _ _ so2 (digs_low _ _ (by omega))
    replace hk := hk.trans (hz.mono hWR)
    replace vc := varAt_low vc hz hlc
    replace vd := varAt_low vd hz hld
    clear hz so1 so2 hR
    have cq0 := (vc).1.c0
    have cq1 := (vc).1.c1
    go_wp2_with fail
    refine (spoil_any E2 y2 z2 _ _ V6 so5 lr).mono ?_
    rintro e V7 ⟨rfl, -, hz⟩
    clear cq0 cq1
    replace hk := hk.trans (hz.mono hWR)
    replace vc := varAt_low vc hz hlc
    replace vd := varAt_low vd hz hld
    clear hz so5 lr hlc hld hWR hBR hz1 hV2s hld2 hdR hz2
    have xq0 := (VX.out.keep hk).1.c0
    have xq1 := (VX.out.keep hk).1.c1
    have gq0 := (VG2.out.keep hk).1.c0
    have gq1 := (VG2.out.keep hk).1.c1
    go_wp2_with fail
    refine (mul_all V7 X1 X2 A5 A6 m1 m2 n5 n6 k1 k2 c5 c6 zs us vs ts (GX1.out.keep hk) (GX2.out.keep hk) (G5.out.keep hk) (G6.out.keep hk)).mono ?_
    rintro e U1 ⟨u1, u2, rfl, P⟩
    clear xq0 xq1 gq0 gq1
    obtain ⟨E1, y1, z1, rfl, oc1⟩ := P.one
    obtain ⟨E2, y2, z2, rfl, oc2⟩ := P.two
    have hz := P.below
    have hlc : Bc < V7.heap.size := vc.2
    have hld : Bd < V7.heap.size := vd.2
    have hWR : wR.heap.size ≤ V7.heap.size := hk.size
    replace hk := hk.trans (hz.mono hk.size)
    replace vc := vc.keep hz
    replace vd := vd.keep hz
    have hBR : wR.heap.size ≤ Bc := by rw [HBc.out]; exact Nat.le_refl _
    have sc := vc.1.stored (.slice E1 y1 z1) (.slice E2 y2 z2)
    have sd := var2_other (u := .slice E1 y1 z1) (v := .slice E2 y2 z2) vd.1 (show Bc ≠ Bd by omega)
    have sk := Below.setCell (Below.setCell hk (p := ⟨Bc, 0, none⟩) hBR (.slice E1 y1 z1)) (p := ⟨Bc, 1, none⟩) hBR (.slice E2 y2 z2)
    have so1 := own_apart (j := 1) (u := .slice E2 y2 z2) (own_apart (j := 0) (u := .slice E1 y1 z1) oc1 hlc) hlc
    have so2 := own_apart (j := 1) (u := .slice E2 y2 z2) (own_apart (j := 0) (u := .slice E1 y1 z1) oc2 hlc) hlc
    have ss := size_set U1 Bc Bc (.slice E1 y1 z1) (.slice E2 y2 z2)
    obtain ⟨c0, c1, cf0, cf1⟩ := vc.1
    have svc := vc.2
    have svd := vd.2
    have hz1 := hz.size
    clear P oc1 oc2 hz vc vd hk
    go_upto_region 17 with fail
    obtain ⟨U2, hV2⟩ : ∃ v, v = (U1.setCell ⟨Bc, 0, none⟩ (.slice E1 y1 z1)).setCell ⟨Bc, 1, none⟩ (.slice E2 y2 z2) := ⟨_, rfl⟩
    rw [← hV2] at sc sd sk so1 so2 ss ⊢
    clear hV2 c0 c1 cf0 cf1
    have vc : VarAt U2 Bc (.slice E1 y1 z1) (.slice E2 y2 z2) := ⟨sc, by rw [ss]; exact svc⟩
    have vd : VarAt U2 Bd _ _ := ⟨sd, by rw [ss]; exact svd⟩
    have hk := sk
    have hV2s : V7.heap.size ≤ U2.heap.size := by rw [ss]; exact hz1
    clear sc sd sk ss svc svd
    have fq0 := (VF2.out.keep hk).1.c0
    have fq1 := (VF2.out.keep hk).1.c1
    have gq0 := (VG2.out.keep hk).1.c0
    have gq1 := (VG2.out.keep hk).1.c1
    go_wp2_with fail
    refine (rMul2_any U2 A3 A4 A5 A6 n3 n4 n5 n6 c3 c4 c5 c6 zs us vs ts (G3.out.keep hk) (G4.out.keep hk) (G5.out.keep hk) (G6.out.keep hk)).mono ?_
    rintro e U3 ⟨u1, u2, rfl, P⟩
    clear fq0 fq1 gq0 gq1
    obtain ⟨F1, i1, j1, rfl, od1⟩ := P.one
    obtain ⟨F2, i2, j2, rfl, od2⟩ := P.two
    have hz := P.below
    replace hk := hk.trans (hz.mono hk.size)
    replace vc := vc.keep hz
    replace vd := vd.keep hz
    have hld2 : Bd < U2.heap.size := by omega
    replace so1 := own_keep so1 hz
    replace so2 := own_keep so2 hz
    have sd := vd.1.stored (.slice F1 i1 j1) (.slice F2 i2 j2)
    have sc := var2_other (u := .slice F1 i1 j1) (v := .slice F2 i2 j2) vc.1 (show Bd ≠ Bc by omega)
    have hdR : wR.heap.size ≤ Bd := by omega
    have sk := Below.setCell (Below.setCell hk (p := ⟨Bd, 0, none⟩) hdR (.slice F1 i1 j1)) (p := ⟨Bd, 1, none⟩) hdR (.slice F2 i2 j2)
    replace so1 := own_apart (j := 1) (u := .slice F2 i2 j2) (own_apart (j := 0) (u := .slice F1 i1 j1) so1 hld) hld
    replace so2 := own_apart (j := 1) (u := .slice F2 i2 j2) (own_apart (j := 0) (u := .slice F1 i1 j1) so2 hld) hld
    have so3 := own_apart (j := 1) (u := .slice F2 i2 j2) (own_apart (j := 0) (u := .slice F1 i1 j1) od1 hld2) hld2
    have so4 := own_apart (j := 1) (u := .slice F2 i2 j2) (own_apart (j := 0) (u := .slice F1 i1 j1) od2 hld2) hld2
    have ss := size_set U3 Bd Bd (.slice F1 i1 j1) (.slice F2 i2 j2)
    obtain ⟨d0, d1, df0, df1⟩ := vd.1
    have svc := vc.2
    have svd := vd.2
    have hz2 := hz.size
    clear P od1 od2 hz vc vd hk
    generalize f2C zs us vs ts (redC (nv zs * nv vs) (nv us * nv ts)) = KE
    go_upto_region 18 with fail
    obtain ⟨U4, hV4⟩ : ∃ v, v = (U3.setCell ⟨Bd, 0, none⟩ (.slice F1 i1 j1)).setCell ⟨Bd, 1, none⟩ (.slice F2 i2 j2) := ⟨_, rfl⟩
    rw [← hV4] at sc sd sk so1 so2 so3 so4 ss ⊢
    clear hV4 d0 d1 df0 df1
    have vc : VarAt U4 Bc _ _ := ⟨sc, by rw [ss]; exact svc⟩
    have vd : VarAt U4 Bd (.slice F1 i1 j1) (.slice F2 i2 j2) := ⟨sd, by rw [ss]; exact svd⟩
    have hk := sk
    clear sc sd sk ss svc svd
    have cq0 := (vc).1.c0
    have cq1 := (vc).1.c1
    have dq0 := (vd).1.c0
    have dq1 := (vd).1.c1
    go_wp2_with fail
    refine (sameFr_self (Rd.of_own so1) (Rd.of_own so2) (Rd.of_own so3) (Rd.of_own so4)).mono ?_
    rintro e U5 ⟨rfl, hz⟩
    clear cq0 cq1 dq0 dq1
    replace so1 := own_keep so1 hz
    replace so2 := own_keep so2 hz
    replace hk := hk.trans (hz.mono hk.size)
    replace vc := vc.keep hz
    replace vd := vd.keep hz
    clear hz so3 so4
    have cq0 := (vc).1.c0
    have cq1 := (vc).1.c1
    go_wp2_with fail
    refine (spoil_any E1 y1 z1 _ _ U5 so1 (digs_low _ _ (by omega))).mono ?_
    rintro e U6 ⟨rfl, hR, hz⟩
    clear cq0 cq1
    obtain ⟨zr, lr, so5⟩ := hR _ _ _ _ so2 (digs_low _ _ (by omega))
    replace hk := hk.trans (hz.mono hWR)
    replace vc := varAt_low vc hz hlc
    replace vd := varAt_low vd hz hld
    clear hz so1 so2 hR
    have cq0 := (vc).1.c0
    have cq1 := (vc).1.c1
    go_wp2_with fail
    refine (spoil_any E2 y2 z2 _ _ U6 so5 lr).mono ?_
    rintro e U7 ⟨rfl, -, hz⟩
    clear cq0 cq1
    replace hk := hk.trans (hz.mono hWR)
    replace vc := varAt_low vc hz hlc
    replace vd := varAt_low vd hz hld
    clear hz so5 lr hlc hld hWR hBR hz1 hV2s hld2 hdR hz2
    have xq0 := (VX.out.keep hk).1.c0
    have xq1 := (VX.out.keep hk).1.c1
    have fq0 := (VF2.out.keep hk).1.c0
    have fq1 := (VF2.out.keep hk).1.c1
    go_wp2_with fail
    refine (sameFr_self (GX1.out.keep hk).rd (GX2.out.keep hk).rd (G3.out.keep hk).rd (G4.out.keep hk).rd).mono ?_
    rintro e U8 ⟨rfl, hz⟩
    have hfin := hbR.trans ((hk.trans (hz.mono hk.size)).mono hbR.size)
    clear xq0 xq1 fq0 fq1
    go_wp2
    go_ret
    exact ⟨rfl, hfin⟩
end Go.Proofs.Ythplhlcdlnedfaa.numberFractions
