/-
  Fractions, the rest: CheckFraction; the function literals of MulFractions, CompareFractions, AddFractions; operate; the three themselves; rational arithmetic; the calls at valid fractions.
-/
import Derived.Test.YthplhlcdlnedfaaLawNum
import Derived.Deep.RegionHeld3

namespace Go.Proofs.Ythplhlcdlnedfaa
open Go.RowKit MN

/-- A valid fraction. -/
def FrOk (xs ys : List Nat) : Prop := (Vd xs ∧ Vd ys) ∧ Nat.gcd (nv xs) (nv ys) = 1 ∧ nv ys ≠ 0
instance (xs ys : List Nat) : Decidable (FrOk xs ys) := by unfold FrOk; infer_instance
def frC (xs ys : List Nat) : Int := if FrOk xs ys then 0 else 8

set_option maxRecDepth 100000 in
set_option maxHeartbeats 2000000 in
theorem checkFraction_any (A1 : Option Addr) (n1 c1 : Nat) (xs : List Nat) (A2 : Option Addr) (n2 c2 : Nat) (ys : List Nat) (w : World) (h : Arg w A1 n1 c1 xs) (k : Arg w A2 n2 c2 ys) :
    Calls Try.prog 57 #[.agg #[.slice A1 n1 c1, .slice A2 n2 c2]] w fun e w' => e = .returned (.int .i64 (frC xs ys)) ∧ Below w.heap.size w w' := by
  obtain ⟨w0, hw0⟩ : ∃ w0, w0 = w.alloc (.cells #[.slice A1 n1 c1, .slice A2 n2 c2] 38) := ⟨_, rfl⟩
  have hb0 := below_alloc w (.cells #[.slice A1 n1 c1, .slice A2 n2 c2] 38)
  have hs0 : w0.heap.size = w.heap.size + 1 := by rw [hw0]; simp
  have hv0 := var2_new w (.slice A1 n1 c1) (.slice A2 n2 c2) 38
  rw [← hw0] at hb0 hv0
  have HW := Lib.hid hw0
  have h0 := h.keep hb0
  have k0 := k.keep hb0
  have H' := check2_call h0 k0
  rw [hs0] at H'
  have H := Lib.hid H'
  clear H'
  obtain ⟨w1, hw1⟩ : ∃ w1, w1 = w0.alloc (.cells #[.slice A1 n1 c1, .slice A2 n2 c2] 23) := ⟨_, rfl⟩
  have hb1 := below_alloc w0 (.cells #[.slice A1 n1 c1, .slice A2 n2 c2] 23)
  rw [← hw1] at hb1
  rw [← hw1] at H
  have HW1 := Lib.hid hw1
  have hs1 := hb1.size
  have hv1 := hv0.keep hb1 (by omega)
  have hbw := hb0.trans (hb1.mono (by omega))
  obtain ⟨d0, d1, _, _⟩ := hv0
  clear hw0 hw1
  by_cases hv : Vd xs ∧ Vd ys
  · have hck : (ck2 xs ys != 0) = false := by rw [ck2_yes hv.1 hv.2]; rfl
    have hn1 := h.len hv.1
    have hn2 := k.len hv.2
    have hlz := len_zero k hv.2
    obtain ⟨G, hG⟩ : ∃ G, G = Nat.gcd (nv xs) (nv ys) := ⟨_, rfl⟩
    have C := common_any A1 A2 n1 c1 n2 c2 xs ys w1 (h0.keep hb1) (k0.keep hb1) (by omega) (by omega)
    rw [show Nat.gcd (val 4294967296 xs) (val 4294967296 ys) = G from hG.symm] at C
    have HC := Lib.hid C
    have key : (((ordv G 1 != 0) = true) ∧ frC xs ys = 8) ∨ (((ordv G 1 != 0) = false) ∧ n2 = 0 ∧ frC xs ys = 8) ∨ (((ordv G 1 != 0) = false) ∧ ((n2 : Int) == 0) = false ∧ frC xs ys = 0) := by
      rcases Nat.lt_trichotomy G 1 with g | g | g
      · exact .inl ⟨by rw [ordv_lt g]; rfl, if_neg (fun f => by have := f.2.1; omega)⟩
      · by_cases hz : n2 = 0
        · exact .inr (.inl ⟨by rw [ordv_eq g]; rfl, hz, if_neg (fun f => f.2.2 (hlz.1 hz))⟩)
        · exact .inr (.inr ⟨by rw [ordv_eq g]; rfl, by rw [beq_eq_false_iff_ne]; omega, if_pos ⟨hv, by rw [← hG]; exact g, fun e => hz (hlz.2 e)⟩⟩)
      · exact .inl ⟨by rw [ordv_gt g]; rfl, if_neg (fun f => by have := f.2.1; omega)⟩
    clear h k h0 k0 hv hlz hG C
    rcases key with ⟨g1, g2⟩ | ⟨g1, rfl, g2⟩ | ⟨g1, g3, g2⟩
    all_goals
      have RC := Lib.hid g2
      clear g2
      go_enter Try.func57, Try.ntmps57
      go_wp2_with fail
      rw [← HW.out, ← HW1.out]
      refine H.out.mono ?_
      rintro e w' ⟨rfl, rfl⟩
      obtain ⟨e0, e1, _, _⟩ := hv1
      go_wp2_with fail
      refine HC.out.mono ?_
      rintro e w2 ⟨A3, m3, c3, rfl, o3, hb2⟩
      go_wp2_with fail
      refine (of_any 1 w2 (by omega) (by omega)).mono ?_
      rintro e w3 ⟨A4, m4, c4, rfl, o4, hb3⟩
      have a3 := ((own_num o3).1).keep hb3
      have a4 := (own_num o4).1
      have hbb := hb1.trans (hb2.mono hs1)
      have hb3' := hbb.trans (hb3.mono hbb.size)
      have q0 := (hb3'.cell (p := ⟨w.heap.size, 0, none⟩) (by show w.heap.size < _; omega)).trans d0
      have q1 := (hb3'.cell (p := ⟨w.heap.size, 1, none⟩) (by show w.heap.size < _; omega)).trans d1
      have hO := order_any A3 A4 m3 c3 m4 c4 _ _ w3 a3.rd a4.rd a3.low a4.low (digs_top _ _ (by omega)) (digs_top _ _ (by omega))
      rw [digs_val _ _ (by omega), digs_val _ _ (by omega)] at hO
      have HO := Lib.hid hO
      have hfin := hb0.trans (hb3'.mono (by omega))
      clear hO a3 a4 o3 o4 e0 e1
      go_wp2_with fail
      refine HO.out.mono ?_
      rintro e w4 ⟨rfl, hd⟩
      have q1' := (hd.cell ⟨w.heap.size, 1, none⟩).trans q1
      have hfin2 := hfin.trans (hd.below.mono hfin.size)
      go_wp2
      go_ret
      exact ⟨by rw [RC.out]; rfl, hfin2⟩
  · have hck : (ck2 xs ys != 0) = true := by rw [ck2_no hv]; rfl
    have h3 := Lib.hid (ck2_no hv)
    have RC : Hid (frC xs ys = 8) := Lib.hid (if_neg (fun f => hv f.1))
    clear h k h0 k0 hv
    go_enter Try.func57, Try.ntmps57
    go_wp2_with fail
    rw [← HW.out, ← HW1.out]
    refine H.out.mono ?_
    rintro e w' ⟨rfl, rfl⟩
    go_wp2
    go_ret
    exact ⟨by rw [RC.out, h3.out]; rfl, hbw⟩
end Go.Proofs.Ythplhlcdlnedfaa

namespace Go.Proofs.Ythplhlcdlnedfaa
open Go.RowKit MN

theorem product_v {w : World} {v1 v2 : Value} {X Y : Nat} (h : Nm w v1 X) (k : Nm w v2 Y) : Calls Try.prog 73 #[v1, v2] w fun e w' => ∃ v, e = .returned v ∧ Own w.heap.size w' v (X * Y) ∧ Below w.heap.size w w' := by
  obtain ⟨⟨A1, n1, c1, rfl, a1⟩, hX⟩ := h
  obtain ⟨⟨A2, n2, c2, rfl, a2⟩, hY⟩ := k
  have H := product_any A1 A2 n1 c1 n2 c2 _ _ w a1.rd a2.rd a1.low a2.low (by rw [← a1.rd.len]; have := digs_len (B := 4294967296) (by omega) _ _ hX; omega) (by rw [← a2.rd.len]; have := digs_len (B := 4294967296) (by omega) _ _ hY; omega)
  rw [digs_val _ _ (by omega), digs_val _ _ (by omega)] at H
  refine H.mono fun e w' => ?_
  rintro ⟨A, m, c, rfl, ho, hb⟩
  exact ⟨_, rfl, ⟨A, m, c, rfl, ho⟩, hb⟩

/-- reduce, of two numbers in new memory that are no more than a product of valid numbers. -/
theorem reduce_v {B : Nat} {w : World} {v1 v2 : Value} {X Y : Nat} (h : Own B w v1 X) (k : Own B w v2 Y) (hX : X < 4294967296 ^ 900) (hY : Y < 4294967296 ^ 900) (h0 : Y ≠ 0) :
    Calls Try.prog 80 #[v1, v2] w (FrRes w (redC X Y) (redN X Y) (redD X Y)) := by
  obtain ⟨A1, n1, c1, rfl, a1⟩ := h.arg
  obtain ⟨A2, n2, c2, rfl, a2⟩ := k.arg
  have H := reduce_any A1 n1 c1 _ A2 n2 c2 _ w a1 a2 (by rw [← a1.rd.len]; exact digs_len (by omega) _ _ hX) (by rw [← a2.rd.len]; exact digs_len (by omega) _ _ hY) (by rw [nv_digs]; exact h0)
  rw [nv_digs, nv_digs] at H
  exact H
end Go.Proofs.Ythplhlcdlnedfaa

namespace Go.Proofs.Ythplhlcdlnedfaa
open Go.RowKit MN

set_option linter.unusedSimpArgs false in
set_option maxRecDepth 100000 in
set_option maxHeartbeats 1000000 in
theorem mulOp_any (w : World) (base R : Nat) (A1 A2 A3 A4 : Option Addr) (n1 n2 n3 n4 c1 c2 c3 c4 N1 D1 N2 D2 : Nat) (h1 : Nm w (.slice A1 n1 c1) N1) (h2 : Nm w (.slice A2 n2 c2) D1) (h3 : Nm w (.slice A3 n3 c3) N2) (h4 : Nm w (.slice A4 n4 c4) D2)
    (hD1 : D1 ≠ 0) (hD2 : D2 ≠ 0) (u v : Value) (hR : Var2 w R u v) (hbase : base ≤ R) (hlt : R < w.heap.size) :
    Calls Try.prog 83 #[.agg #[.slice A1 n1 c1, .slice A2 n2 c2], .agg #[.slice A3 n3 c3, .slice A4 n4 c4], .pointer (some ⟨R, 0, none⟩)] w fun e w' =>
      ∃ v1 v2, e = .returned (.int .i64 (redC (N1 * N2) (D1 * D2))) ∧ Own w.heap.size w' v1 (redN (N1 * N2) (D1 * D2)) ∧ Own w.heap.size w' v2 (redD (N1 * N2) (D1 * D2)) ∧ Var2 w' R v1 v2 ∧ Below base w w' := by
  obtain ⟨w1, hw1⟩ : ∃ w1, w1 = (w.alloc (.cells #[.slice A1 n1 c1, .slice A2 n2 c2] 38)).alloc (.cells #[.slice A3 n3 c3, .slice A4 n4 c4] 38) := ⟨_, rfl⟩
  have hb1 : Below w.heap.size w w1 := by rw [hw1]; exact ((Below.refl _ _).alloc (Nat.le_refl _) _).alloc (by simp) _
  have hs1 : w1.heap.size = w.heap.size + 2 := by rw [hw1]; simp
  have hv2 : Var2 w1 (w.heap.size + 1) (.slice A3 n3 c3) (.slice A4 n4 c4) := by
    rw [hw1]
    have := var2_new (w.alloc (.cells #[.slice A1 n1 c1, .slice A2 n2 c2] 38)) (.slice A3 n3 c3) (.slice A4 n4 c4) 38
    simpa using this
  have hv1 : Var2 w1 w.heap.size (.slice A1 n1 c1) (.slice A2 n2 c2) := by
    rw [hw1]
    exact (var2_new w (.slice A1 n1 c1) (.slice A2 n2 c2) 38).keep (below_alloc _ _) (by simp)
  have hR1 := hR.keep hb1 hlt
  have HW := Lib.hid hw1
  clear hw1
  have HK : Hid (∀ wx, Below w1.heap.size w1 wx → wx.cell? ⟨w.heap.size, 0, none⟩ = some (.slice A1 n1 c1) ∧ wx.cell? ⟨w.heap.size, 1, none⟩ = some (.slice A2 n2 c2) ∧ wx.cell? ⟨w.heap.size + 1, 0, none⟩ = some (.slice A3 n3 c3) ∧ wx.cell? ⟨w.heap.size + 1, 1, none⟩ = some (.slice A4 n4 c4)) :=
    Lib.hid (fun wx hx => ⟨(hv1.keep hx (by omega)).c0, (hv1.keep hx (by omega)).c1, (hv2.keep hx (by omega)).c0, (hv2.keep hx (by omega)).c1⟩)
  have HS : Hid (∀ wx x y, Below w1.heap.size w1 wx → ((wx.setCell ⟨R, 0, none⟩ x).setCell ⟨R, 1, none⟩ y).cell? ⟨w.heap.size, 0, none⟩ = some (.slice A1 n1 c1) ∧ ((wx.setCell ⟨R, 0, none⟩ x).setCell ⟨R, 1, none⟩ y).cell? ⟨w.heap.size, 1, none⟩ = some (.slice A2 n2 c2) ∧ ((wx.setCell ⟨R, 0, none⟩ x).setCell ⟨R, 1, none⟩ y).cell? ⟨w.heap.size + 1, 0, none⟩ = some (.slice A3 n3 c3) ∧ ((wx.setCell ⟨R, 0, none⟩ x).setCell ⟨R, 1, none⟩ y).cell? ⟨w.heap.size + 1, 1, none⟩ = some (.slice A4 n4 c4)) :=
    Lib.hid (fun wx x y hx => by
      have hn : R ≠ w.heap.size := by omega
      have hn1 : R ≠ w.heap.size + 1 := by omega
      rw [World.cell?_setCell_other (h := by simp [hn]), World.cell?_setCell_other (h := by simp [hn]), World.cell?_setCell_other (h := by simp [hn]), World.cell?_setCell_other (h := by simp [hn]),
        World.cell?_setCell_other (h := by simp [hn1]), World.cell?_setCell_other (h := by simp [hn1]), World.cell?_setCell_other (h := by simp [hn1]), World.cell?_setCell_other (h := by simp [hn1])]
      exact HK.out wx hx)
  have HR1 : Hid (∀ wx, Below w1.heap.size w1 wx → Var2 wx R u v) := Lib.hid (fun wx hx => hR1.keep hx (by omega))
  have HP1 : Hid (∀ wx, Below w1.heap.size w1 wx → Calls Try.prog 73 #[.slice A1 n1 c1, .slice A3 n3 c3] wx fun e w' => ∃ v, e = .returned v ∧ Own w1.heap.size w' v (N1 * N2) ∧ Below wx.heap.size wx w' ∧ Below w1.heap.size w1 w') :=
    Lib.hid (fun wx hx => (product_v ((h1.keep hb1).keep hx) ((h3.keep hb1).keep hx)).mono fun e w' ⟨v, he, ho, hb⟩ => ⟨v, he, ho.low hx.size, hb, hx.trans (hb.mono hx.size)⟩)
  have HP2 : Hid (∀ wx, Below w1.heap.size w1 wx → Calls Try.prog 73 #[.slice A2 n2 c2, .slice A4 n4 c4] wx fun e w' => ∃ v, e = .returned v ∧ Own w1.heap.size w' v (D1 * D2) ∧ Below wx.heap.size wx w' ∧ Below w1.heap.size w1 w') :=
    Lib.hid (fun wx hx => (product_v ((h2.keep hb1).keep hx) ((h4.keep hb1).keep hx)).mono fun e w' ⟨v, he, ho, hb⟩ => ⟨v, he, ho.low hx.size, hb, hx.trans (hb.mono hx.size)⟩)
  have lt900 : ∀ a b : Nat, a < 4294967296 ^ 16 → b < 4294967296 ^ 16 → a * b < 4294967296 ^ 900 := fun a b ha hb => by
    obtain ⟨K, hK⟩ : ∃ K, K = 900 := ⟨_, rfl⟩
    rw [← hK]
    have e1 : a * b < 4294967296 ^ 16 * 4294967296 ^ 16 := Nat.mul_lt_mul'' ha hb
    rw [← Nat.pow_add] at e1
    exact Nat.lt_of_lt_of_le e1 (Nat.pow_le_pow_right (by omega) (by omega))
  have LA := lt900 N1 N2 h1.2 h3.2
  have LB := lt900 D1 D2 h2.2 h4.2
  have HD : D1 * D2 ≠ 0 := Nat.mul_ne_zero hD1 hD2
  have HRD : Hid (∀ wx v1 v2, Below w1.heap.size w1 wx → Own w1.heap.size wx v1 (N1 * N2) → Own w1.heap.size wx v2 (D1 * D2) → Calls Try.prog 80 #[v1, v2] wx fun e w' =>
      ∃ B1 m1 k1 B2 m2 k2, e = .returned (.tuple #[.agg #[.slice B1 m1 k1, .slice B2 m2 k2], .int .i64 (redC (N1 * N2) (D1 * D2))]) ∧ Own w1.heap.size w' (.slice B1 m1 k1) (redN (N1 * N2) (D1 * D2)) ∧ Own w1.heap.size w' (.slice B2 m2 k2) (redD (N1 * N2) (D1 * D2)) ∧ Below w1.heap.size w1 w') :=
    Lib.hid (fun wx v1 v2 hx p1 p2 => (reduce_v p1 p2 LA LB HD).mono fun e w' ⟨u1, u2, he, hP⟩ => by
      obtain ⟨B1, m1, k1, rfl, q1⟩ := hP.one
      obtain ⟨B2, m2, k2, rfl, q2⟩ := hP.two
      exact ⟨B1, m1, k1, B2, m2, k2, he, (⟨B1, m1, k1, rfl, own_low q1 hx.size⟩ : Own _ _ _ _), (⟨B2, m2, k2, rfl, own_low q2 hx.size⟩ : Own _ _ _ _), hx.trans (hP.below.mono hx.size)⟩)
  have hx0 : Below w1.heap.size w1 w1.drew := (Below.refl _ _).drew
  clear hv1 hv2 hR hR1 h1 h2 h3 h4 hD1 hD2 lt900 LA LB HD
  go_enter Try.func83, Try.ntmps83
  go_wp2_with fail
  rw [← HW.out]
  clear HW
  go_region_held3 (fun w' => w'.cell? ⟨w.heap.size, 0, none⟩ = some (.slice A1 n1 c1) ∧ w'.cell? ⟨w.heap.size, 1, none⟩ = some (.slice A2 n2 c2) ∧ w'.cell? ⟨w.heap.size + 1, 0, none⟩ = some (.slice A3 n3 c3) ∧ w'.cell? ⟨w.heap.size + 1, 1, none⟩ = some (.slice A4 n4 c4))
    (first
      | exact HS.out _ _ _ hxC
      | exact HK.out _ hxC
      | exact HK.out _ hxA
      | exact HK.out _ hxB
      | exact HK.out _ hx0)
    (first
      | (go_at_call 73; with_reducible refine (HP1.out _ hxB).mono ?_; rintro e wA ⟨v1, rfl, o1, hA, hxA⟩; replace o2 := Own.keep o2 hA)
      | (go_at_call 73; with_reducible refine (HP2.out _ hxA).mono ?_; rintro e wB ⟨v2, rfl, o2, hB, hxB⟩; replace o1 := Own.keep o1 hB)
      | (go_at_call 73; with_reducible refine (HP1.out _ hx0).mono ?_; rintro e wA ⟨v1, rfl, o1, hA, hxA⟩)
      | (go_at_call 73; with_reducible refine (HP2.out _ hx0).mono ?_; rintro e wB ⟨v2, rfl, o2, hB, hxB⟩)
      | (go_at_call 80; with_reducible refine (HRD.out _ _ _ hxB o1 o2).mono ?_; rintro e wC ⟨B1, m1, k1, B2, m2, k2, rfl, q1, q2, hxC⟩; obtain ⟨r0, r1, f0, f1⟩ := HR1.out _ hxC)
      | (go_at_call 80; with_reducible refine (HRD.out _ _ _ hxA o1 o2).mono ?_; rintro e wC ⟨B1, m1, k1, B2, m2, k2, rfl, q1, q2, hxC⟩; obtain ⟨r0, r1, f0, f1⟩ := HR1.out _ hxC))
  all_goals
    have hRl : R < w1.heap.size := by omega
    have hfin : Below base w wC := (hb1.mono (by omega)).trans (hxC.mono (by omega))
    go_wp2
    go_ret
    exact ⟨_, _, rfl, (Own.set (Own.set q1 (a := ⟨R, 0, none⟩) hRl _) (a := ⟨R, 1, none⟩) hRl _).low (by omega), (Own.set (Own.set q2 (a := ⟨R, 0, none⟩) hRl _) (a := ⟨R, 1, none⟩) hRl _).low (by omega), (HR1.out _ hxC).stored _ _, (hfin.setCell (p := ⟨R, 0, none⟩) hbase _).setCell (p := ⟨R, 1, none⟩) hbase _⟩
end Go.Proofs.Ythplhlcdlnedfaa

namespace Go.Proofs.Ythplhlcdlnedfaa
open Go.RowKit MN

set_option linter.unusedSimpArgs false in
set_option maxRecDepth 100000 in
set_option maxHeartbeats 1000000 in
theorem cmpOp_any (w : World) (base R : Nat) (A1 A2 A3 A4 : Option Addr) (n1 n2 n3 n4 c1 c2 c3 c4 N1 D1 N2 D2 : Nat) (h1 : Nm w (.slice A1 n1 c1) N1) (h2 : Nm w (.slice A2 n2 c2) D1) (h3 : Nm w (.slice A3 n3 c3) N2) (h4 : Nm w (.slice A4 n4 c4) D2)
    (u : Value) (hR0 : w.cell? ⟨R, 0, none⟩ = some u) (hRf : w.frozen? ⟨R, 0, none⟩ = false) (hbase : base ≤ R) (hlt : R < w.heap.size) :
    Calls Try.prog 84 #[.agg #[.slice A1 n1 c1, .slice A2 n2 c2], .agg #[.slice A3 n3 c3, .slice A4 n4 c4], .pointer (some ⟨R, 0, none⟩)] w fun e w' =>
      e = .returned (.int .i64 0) ∧ w'.cell? ⟨R, 0, none⟩ = some (.int .i64 (ordv (N1 * D2) (N2 * D1))) ∧ Below base w w' := by
  obtain ⟨w1, hw1⟩ : ∃ w1, w1 = (w.alloc (.cells #[.slice A1 n1 c1, .slice A2 n2 c2] 38)).alloc (.cells #[.slice A3 n3 c3, .slice A4 n4 c4] 38) := ⟨_, rfl⟩
  have hb1 : Below w.heap.size w w1 := by rw [hw1]; exact ((Below.refl _ _).alloc (Nat.le_refl _) _).alloc (by simp) _
  have hs1 : w1.heap.size = w.heap.size + 2 := by rw [hw1]; simp
  have hv2 : Var2 w1 (w.heap.size + 1) (.slice A3 n3 c3) (.slice A4 n4 c4) := by
    rw [hw1]
    have := var2_new (w.alloc (.cells #[.slice A1 n1 c1, .slice A2 n2 c2] 38)) (.slice A3 n3 c3) (.slice A4 n4 c4) 38
    simpa using this
  have hv1 : Var2 w1 w.heap.size (.slice A1 n1 c1) (.slice A2 n2 c2) := by
    rw [hw1]
    exact (var2_new w (.slice A1 n1 c1) (.slice A2 n2 c2) 38).keep (below_alloc _ _) (by simp)
  have hR1 : w1.cell? ⟨R, 0, none⟩ = some u := (hb1.cell (p := ⟨R, 0, none⟩) hlt).trans hR0
  have hR2 : w1.frozen? ⟨R, 0, none⟩ = false := (hb1.frozen (p := ⟨R, 0, none⟩) hlt).trans hRf
  have HW := Lib.hid hw1
  clear hw1
  have HK : Hid (∀ wx, Below w1.heap.size w1 wx → wx.cell? ⟨w.heap.size, 0, none⟩ = some (.slice A1 n1 c1) ∧ wx.cell? ⟨w.heap.size, 1, none⟩ = some (.slice A2 n2 c2) ∧ wx.cell? ⟨w.heap.size + 1, 0, none⟩ = some (.slice A3 n3 c3) ∧ wx.cell? ⟨w.heap.size + 1, 1, none⟩ = some (.slice A4 n4 c4)) :=
    Lib.hid (fun wx hx => ⟨(hv1.keep hx (by omega)).c0, (hv1.keep hx (by omega)).c1, (hv2.keep hx (by omega)).c0, (hv2.keep hx (by omega)).c1⟩)
  have HS : Hid (∀ wx x, Below w1.heap.size w1 wx → (wx.setCell ⟨R, 0, none⟩ x).cell? ⟨w.heap.size, 0, none⟩ = some (.slice A1 n1 c1) ∧ (wx.setCell ⟨R, 0, none⟩ x).cell? ⟨w.heap.size, 1, none⟩ = some (.slice A2 n2 c2) ∧ (wx.setCell ⟨R, 0, none⟩ x).cell? ⟨w.heap.size + 1, 0, none⟩ = some (.slice A3 n3 c3) ∧ (wx.setCell ⟨R, 0, none⟩ x).cell? ⟨w.heap.size + 1, 1, none⟩ = some (.slice A4 n4 c4)) :=
    Lib.hid (fun wx x hx => by
      have hn : R ≠ w.heap.size := by omega
      have hn1 : R ≠ w.heap.size + 1 := by omega
      rw [World.cell?_setCell_other (h := by simp [hn]), World.cell?_setCell_other (h := by simp [hn]), World.cell?_setCell_other (h := by simp [hn1]), World.cell?_setCell_other (h := by simp [hn1])]
      exact HK.out wx hx)
  have HR1 : Hid (∀ wx, Below w1.heap.size w1 wx → wx.cell? ⟨R, 0, none⟩ = some u ∧ wx.frozen? ⟨R, 0, none⟩ = false) := Lib.hid (fun wx hx => ⟨(hx.cell (p := ⟨R, 0, none⟩) (by show R < _; omega)).trans hR1, (hx.frozen (p := ⟨R, 0, none⟩) (by show R < _; omega)).trans hR2⟩)
  have HP1 : Hid (∀ wx, Below w1.heap.size w1 wx → Calls Try.prog 73 #[.slice A1 n1 c1, .slice A4 n4 c4] wx fun e w' => ∃ v, e = .returned v ∧ Own w1.heap.size w' v (N1 * D2) ∧ Below wx.heap.size wx w' ∧ Below w1.heap.size w1 w') :=
    Lib.hid (fun wx hx => (product_v ((h1.keep hb1).keep hx) ((h4.keep hb1).keep hx)).mono fun e w' ⟨v, he, ho, hb⟩ => ⟨v, he, ho.low hx.size, hb, hx.trans (hb.mono hx.size)⟩)
  have HP2 : Hid (∀ wx, Below w1.heap.size w1 wx → Calls Try.prog 73 #[.slice A3 n3 c3, .slice A2 n2 c2] wx fun e w' => ∃ v, e = .returned v ∧ Own w1.heap.size w' v (N2 * D1) ∧ Below wx.heap.size wx w' ∧ Below w1.heap.size w1 w') :=
    Lib.hid (fun wx hx => (product_v ((h3.keep hb1).keep hx) ((h2.keep hb1).keep hx)).mono fun e w' ⟨v, he, ho, hb⟩ => ⟨v, he, ho.low hx.size, hb, hx.trans (hb.mono hx.size)⟩)
  have HRD : Hid (∀ wx v1 v2, Below w1.heap.size w1 wx → Own w1.heap.size wx v1 (N1 * D2) → Own w1.heap.size wx v2 (N2 * D1) → Calls Try.prog 69 #[v1, v2] wx fun e w' => e = .returned (.int .i64 (ordv (N1 * D2) (N2 * D1))) ∧ Below w1.heap.size w1 w') :=
    Lib.hid (fun wx v1 v2 hx p1 p2 => by
      obtain ⟨B1, m1, k1, rfl, a1⟩ := p1.arg
      obtain ⟨B2, m2, k2, rfl, a2⟩ := p2.arg
      have H := order_any B1 B2 m1 k1 m2 k2 _ _ wx a1.rd a2.rd a1.low a2.low (digs_top _ _ (by omega)) (digs_top _ _ (by omega))
      rw [digs_val _ _ (by omega), digs_val _ _ (by omega)] at H
      exact H.mono fun e w' ⟨he, hd⟩ => ⟨he, hx.trans (hd.below.mono hx.size)⟩)
  have hx0 : Below w1.heap.size w1 w1.drew := (Below.refl _ _).drew
  clear hv1 hv2 hR0 hRf hR1 hR2 h1 h2 h3 h4
  go_enter Try.func84, Try.ntmps84
  go_wp2_with fail
  rw [← HW.out]
  clear HW
  go_region_held3 (fun w' => w'.cell? ⟨w.heap.size, 0, none⟩ = some (.slice A1 n1 c1) ∧ w'.cell? ⟨w.heap.size, 1, none⟩ = some (.slice A2 n2 c2) ∧ w'.cell? ⟨w.heap.size + 1, 0, none⟩ = some (.slice A3 n3 c3) ∧ w'.cell? ⟨w.heap.size + 1, 1, none⟩ = some (.slice A4 n4 c4))
    (first
      | exact HS.out _ _ hxC
      | exact HK.out _ hxC
      | exact HK.out _ hxA
      | exact HK.out _ hxB
      | exact HK.out _ hx0)
    (first
      | (go_at_call 73; with_reducible refine (HP1.out _ hxB).mono ?_; rintro e wA ⟨v1, rfl, o1, hA, hxA⟩; replace o2 := Own.keep o2 hA)
      | (go_at_call 73; with_reducible refine (HP2.out _ hxA).mono ?_; rintro e wB ⟨v2, rfl, o2, hB, hxB⟩; replace o1 := Own.keep o1 hB)
      | (go_at_call 73; with_reducible refine (HP1.out _ hx0).mono ?_; rintro e wA ⟨v1, rfl, o1, hA, hxA⟩)
      | (go_at_call 73; with_reducible refine (HP2.out _ hx0).mono ?_; rintro e wB ⟨v2, rfl, o2, hB, hxB⟩)
      | (go_at_call 69; with_reducible refine (HRD.out _ _ _ hxB o1 o2).mono ?_; rintro e wC ⟨rfl, hxC⟩; obtain ⟨r0, f0⟩ := HR1.out _ hxC)
      | (go_at_call 69; with_reducible refine (HRD.out _ _ _ hxA o1 o2).mono ?_; rintro e wC ⟨rfl, hxC⟩; obtain ⟨r0, f0⟩ := HR1.out _ hxC))
  all_goals
    have hRl : R < w1.heap.size := by omega
    have hfin : Below base w wC := (hb1.mono (by omega)).trans (hxC.mono (by omega))
    go_wp2
    go_ret
    exact ⟨rfl, World.cell?_setCell_same _ _ _ (HR1.out _ hxC).1, hfin.setCell (p := ⟨R, 0, none⟩) hbase _⟩
end Go.Proofs.Ythplhlcdlnedfaa

namespace Go.Proofs.Ythplhlcdlnedfaa
open Go.RowKit MN

set_option linter.unusedSimpArgs false in
set_option maxRecDepth 100000 in
set_option maxHeartbeats 1000000 in
theorem addOp_any (w : World) (base R : Nat) (A1 A2 A3 A4 : Option Addr) (n1 n2 n3 n4 c1 c2 c3 c4 N1 D1 N2 D2 : Nat) (h1 : Nm w (.slice A1 n1 c1) N1) (h2 : Nm w (.slice A2 n2 c2) D1) (h3 : Nm w (.slice A3 n3 c3) N2) (h4 : Nm w (.slice A4 n4 c4) D2)
    (hD1 : D1 ≠ 0) (hD2 : D2 ≠ 0) (u v : Value) (hR : Var2 w R u v) (hbase : base ≤ R) (hlt : R < w.heap.size) :
    Calls Try.prog 82 #[.agg #[.slice A1 n1 c1, .slice A2 n2 c2], .agg #[.slice A3 n3 c3, .slice A4 n4 c4], .pointer (some ⟨R, 0, none⟩)] w fun e w' =>
      ∃ v1 v2, e = .returned (.int .i64 (redC (N1 * D2 + N2 * D1) (D1 * D2))) ∧ Own w.heap.size w' v1 (redN (N1 * D2 + N2 * D1) (D1 * D2)) ∧ Own w.heap.size w' v2 (redD (N1 * D2 + N2 * D1) (D1 * D2)) ∧ Var2 w' R v1 v2 ∧ Below base w w' := by
  obtain ⟨w1, hw1⟩ : ∃ w1, w1 = (w.alloc (.cells #[.slice A1 n1 c1, .slice A2 n2 c2] 38)).alloc (.cells #[.slice A3 n3 c3, .slice A4 n4 c4] 38) := ⟨_, rfl⟩
  have hb1 : Below w.heap.size w w1 := by rw [hw1]; exact ((Below.refl _ _).alloc (Nat.le_refl _) _).alloc (by simp) _
  have hs1 : w1.heap.size = w.heap.size + 2 := by rw [hw1]; simp
  have hv2 : Var2 w1 (w.heap.size + 1) (.slice A3 n3 c3) (.slice A4 n4 c4) := by
    rw [hw1]
    have := var2_new (w.alloc (.cells #[.slice A1 n1 c1, .slice A2 n2 c2] 38)) (.slice A3 n3 c3) (.slice A4 n4 c4) 38
    simpa using this
  have hv1 : Var2 w1 w.heap.size (.slice A1 n1 c1) (.slice A2 n2 c2) := by
    rw [hw1]
    exact (var2_new w (.slice A1 n1 c1) (.slice A2 n2 c2) 38).keep (below_alloc _ _) (by simp)
  have hR1 := hR.keep hb1 hlt
  have HW := Lib.hid hw1
  clear hw1
  have HK : Hid (∀ wx, Below w1.heap.size w1 wx → wx.cell? ⟨w.heap.size, 0, none⟩ = some (.slice A1 n1 c1) ∧ wx.cell? ⟨w.heap.size, 1, none⟩ = some (.slice A2 n2 c2) ∧ wx.cell? ⟨w.heap.size + 1, 0, none⟩ = some (.slice A3 n3 c3) ∧ wx.cell? ⟨w.heap.size + 1, 1, none⟩ = some (.slice A4 n4 c4)) :=
    Lib.hid (fun wx hx => ⟨(hv1.keep hx (by omega)).c0, (hv1.keep hx (by omega)).c1, (hv2.keep hx (by omega)).c0, (hv2.keep hx (by omega)).c1⟩)
  have HR1 : Hid (∀ wx, Below w1.heap.size w1 wx → Var2 wx R u v) := Lib.hid (fun wx hx => hR1.keep hx (by omega))
  have HP1 : Hid (∀ wx, Below w1.heap.size w1 wx → Calls Try.prog 73 #[.slice A1 n1 c1, .slice A4 n4 c4] wx fun e w' => ∃ v, e = .returned v ∧ Own w1.heap.size w' v (N1 * D2) ∧ Below wx.heap.size wx w' ∧ Below w1.heap.size w1 w') :=
    Lib.hid (fun wx hx => (product_v ((h1.keep hb1).keep hx) ((h4.keep hb1).keep hx)).mono fun e w' ⟨v, he, ho, hb⟩ => ⟨v, he, ho.low hx.size, hb, hx.trans (hb.mono hx.size)⟩)
  have HP2 : Hid (∀ wx, Below w1.heap.size w1 wx → Calls Try.prog 73 #[.slice A3 n3 c3, .slice A2 n2 c2] wx fun e w' => ∃ v, e = .returned v ∧ Own w1.heap.size w' v (N2 * D1) ∧ Below wx.heap.size wx w' ∧ Below w1.heap.size w1 w') :=
    Lib.hid (fun wx hx => (product_v ((h3.keep hb1).keep hx) ((h2.keep hb1).keep hx)).mono fun e w' ⟨v, he, ho, hb⟩ => ⟨v, he, ho.low hx.size, hb, hx.trans (hb.mono hx.size)⟩)
  have HP3 : Hid (∀ wx, Below w1.heap.size w1 wx → Calls Try.prog 73 #[.slice A2 n2 c2, .slice A4 n4 c4] wx fun e w' => ∃ v, e = .returned v ∧ Own w1.heap.size w' v (D1 * D2) ∧ Below wx.heap.size wx w' ∧ Below w1.heap.size w1 w') :=
    Lib.hid (fun wx hx => (product_v ((h2.keep hb1).keep hx) ((h4.keep hb1).keep hx)).mono fun e w' ⟨v, he, ho, hb⟩ => ⟨v, he, ho.low hx.size, hb, hx.trans (hb.mono hx.size)⟩)
  have HSM : Hid (∀ wx v1 v2, Below w1.heap.size w1 wx → Own w1.heap.size wx v1 (N1 * D2) → Own w1.heap.size wx v2 (N2 * D1) → Calls Try.prog 72 #[v1, v2] wx fun e w' => ∃ A m c, e = .returned (.slice A m c) ∧ Own w1.heap.size w' (.slice A m c) (N1 * D2 + N2 * D1) ∧ Below w1.heap.size w1 w') :=
    Lib.hid (fun wx v1 v2 hx p1 p2 => by
      have l1 : N1 * D2 < 4294967296 ^ 32 := by
        have e1 : N1 * D2 < 4294967296 ^ 16 * 4294967296 ^ 16 := Nat.mul_lt_mul'' h1.2 h4.2
        rw [← Nat.pow_add] at e1; exact e1
      have l2 : N2 * D1 < 4294967296 ^ 32 := by
        have e1 : N2 * D1 < 4294967296 ^ 16 * 4294967296 ^ 16 := Nat.mul_lt_mul'' h3.2 h2.2
        rw [← Nat.pow_add] at e1; exact e1
      obtain ⟨B1, m1, k1, rfl, a1⟩ := p1.arg
      obtain ⟨B2, m2, k2, rfl, a2⟩ := p2.arg
      have H := sum_any B1 B2 m1 k1 m2 k2 _ _ wx a1.rd a2.rd a1.low a2.low (by rw [← a1.rd.len]; have := digs_len (B := 4294967296) (by omega) _ _ l1; omega) (by rw [← a2.rd.len]; have := digs_len (B := 4294967296) (by omega) _ _ l2; omega)
      rw [digs_val _ _ (by omega), digs_val _ _ (by omega)] at H
      refine H.mono fun e w' => ?_
      rintro ⟨A, m, c, rfl, ho, hb⟩
      exact ⟨A, m, c, rfl, (⟨A, m, c, rfl, own_low ho hx.size⟩ : Own _ _ _ _), hx.trans (hb.mono hx.size)⟩)
  have lt900 : ∀ a b : Nat, a < 4294967296 ^ 16 → b < 4294967296 ^ 16 → a * b < 4294967296 ^ 32 := fun a b ha hb => by
    have e1 : a * b < 4294967296 ^ 16 * 4294967296 ^ 16 := Nat.mul_lt_mul'' ha hb
    rw [← Nat.pow_add] at e1; exact e1
  have up : ∀ a : Nat, a < 4294967296 ^ 33 → a < 4294967296 ^ 900 := fun a ha => by
    obtain ⟨K, hK⟩ : ∃ K, K = 900 := ⟨_, rfl⟩
    rw [← hK]
    exact Nat.lt_of_lt_of_le ha (Nat.pow_le_pow_right (by omega) (by omega))
  have LA : N1 * D2 + N2 * D1 < 4294967296 ^ 900 := up _ (by
    have e1 := lt900 N1 D2 h1.2 h4.2
    have e2 := lt900 N2 D1 h3.2 h2.2
    have e3 : 4294967296 ^ 33 = 4294967296 ^ 32 * 4294967296 := Nat.pow_succ _ 32
    omega)
  have LB := up _ (Nat.lt_trans (lt900 D1 D2 h2.2 h4.2) (Nat.pow_lt_pow_right (by omega) (by omega)))
  have HD : D1 * D2 ≠ 0 := Nat.mul_ne_zero hD1 hD2
  have HRD : Hid (∀ wx v1 v2, Below w1.heap.size w1 wx → Own w1.heap.size wx v1 (N1 * D2 + N2 * D1) → Own w1.heap.size wx v2 (D1 * D2) → Calls Try.prog 80 #[v1, v2] wx fun e w' =>
      ∃ B1 m1 k1 B2 m2 k2, e = .returned (.tuple #[.agg #[.slice B1 m1 k1, .slice B2 m2 k2], .int .i64 (redC (N1 * D2 + N2 * D1) (D1 * D2))]) ∧ Own w1.heap.size w' (.slice B1 m1 k1) (redN (N1 * D2 + N2 * D1) (D1 * D2)) ∧ Own w1.heap.size w' (.slice B2 m2 k2) (redD (N1 * D2 + N2 * D1) (D1 * D2)) ∧ Below w1.heap.size w1 w') :=
    Lib.hid (fun wx v1 v2 hx p1 p2 => (reduce_v p1 p2 LA LB HD).mono fun e w' ⟨u1, u2, he, hP⟩ => by
      obtain ⟨B1, m1, k1, rfl, q1⟩ := hP.one
      obtain ⟨B2, m2, k2, rfl, q2⟩ := hP.two
      exact ⟨B1, m1, k1, B2, m2, k2, he, (⟨B1, m1, k1, rfl, own_low q1 hx.size⟩ : Own _ _ _ _), (⟨B2, m2, k2, rfl, own_low q2 hx.size⟩ : Own _ _ _ _), hx.trans (hP.below.mono hx.size)⟩)
  have hx0 : Below w1.heap.size w1 w1.drew := (Below.refl _ _).drew
  clear hv1 hv2 hR hR1 h1 h2 h3 h4 hD1 hD2 lt900 up LA LB HD
  go_enter Try.func82, Try.ntmps82
  go_wp2_with fail
  rw [← HW.out]
  clear HW
  go_region_held3 (fun w' => w'.cell? ⟨w.heap.size, 0, none⟩ = some (.slice A1 n1 c1) ∧ w'.cell? ⟨w.heap.size, 1, none⟩ = some (.slice A2 n2 c2) ∧ w'.cell? ⟨w.heap.size + 1, 0, none⟩ = some (.slice A3 n3 c3) ∧ w'.cell? ⟨w.heap.size + 1, 1, none⟩ = some (.slice A4 n4 c4))
    (first
      | exact HK.out _ hxC
      | exact HK.out _ hxA
      | exact HK.out _ hxB
      | exact HK.out _ hx0)
    (first
      | (go_at_call 73; with_reducible refine (HP1.out _ hxB).mono ?_; rintro e wA ⟨v1, rfl, o1, hA, hxA⟩; replace o2 := Own.keep o2 hA)
      | (go_at_call 73; with_reducible refine (HP2.out _ hxA).mono ?_; rintro e wB ⟨v2, rfl, o2, hB, hxB⟩; replace o1 := Own.keep o1 hB)
      | (go_at_call 73; with_reducible refine (HP1.out _ hx0).mono ?_; rintro e wA ⟨v1, rfl, o1, hA, hxA⟩)
      | (go_at_call 73; with_reducible refine (HP2.out _ hx0).mono ?_; rintro e wB ⟨v2, rfl, o2, hB, hxB⟩)
      | (go_at_call 72; with_reducible refine (HSM.out _ _ _ hxB o1 o2).mono ?_; rintro e wC ⟨AS, mS, cS, rfl, oS, hxC⟩)
      | (go_at_call 72; with_reducible refine (HSM.out _ _ _ hxA o1 o2).mono ?_; rintro e wC ⟨AS, mS, cS, rfl, oS, hxC⟩))
  all_goals
    have hRl : R < w1.heap.size := by omega
    clear o1 o2
    go_wp2_with fail
    with_reducible refine (HP3.out _ hxC).mono ?_
    rintro e wD ⟨v4, rfl, o4, hD, hxD⟩
    replace oS := Own.keep oS hD
    go_wp2_with fail
    with_reducible refine (HRD.out _ _ _ hxD oS o4).mono ?_
    rintro e wE ⟨B1, m1, k1, B2, m2, k2, rfl, q1, q2, hxE⟩
    obtain ⟨r0, r1, f0, f1⟩ := HR1.out _ hxE
    have hfin : Below base w wE := (hb1.mono (by omega)).trans (hxE.mono (by omega))
    go_wp2
    go_ret
    exact ⟨_, _, rfl, (Own.set (Own.set q1 (a := ⟨R, 0, none⟩) hRl _) (a := ⟨R, 1, none⟩) hRl _).low (by omega), (Own.set (Own.set q2 (a := ⟨R, 0, none⟩) hRl _) (a := ⟨R, 1, none⟩) hRl _).low (by omega), (HR1.out _ hxE).stored _ _, (hfin.setCell (p := ⟨R, 0, none⟩) hbase _).setCell (p := ⟨R, 1, none⟩) hbase _⟩
end Go.Proofs.Ythplhlcdlnedfaa

namespace Go.Proofs.Ythplhlcdlnedfaa
open Go.RowKit MN

set_option maxRecDepth 100000 in
set_option maxHeartbeats 1000000 in
theorem operate_83 (w : World) (A1 A2 A3 A4 : Option Addr) (n1 n2 n3 n4 c1 c2 c3 c4 : Nat) (xs ys zs us : List Nat) (h1 : Arg w A1 n1 c1 xs) (h2 : Arg w A2 n2 c2 ys) (h3 : Arg w A3 n3 c3 zs) (h4 : Arg w A4 n4 c4 us)
    (f1 : FrOk xs ys) (f2 : FrOk zs us) (p : Value) (code : Int) (RR : World → Prop)
    (hcall : ∀ wx, Below w.heap.size w wx → Calls Try.prog 83 #[.agg #[.slice A1 n1 c1, .slice A2 n2 c2], .agg #[.slice A3 n3 c3, .slice A4 n4 c4], p] wx fun e w' => e = .returned (.int .i64 code) ∧ RR w') :
    Calls Try.prog 81 #[.agg #[.slice A1 n1 c1, .slice A2 n2 c2, .slice A3 n3 c3, .slice A4 n4 c4], .func (Fn.func 83) #[] #[p]] w fun e w' => e = .returned (.int .i64 code) ∧ RR w' := by
  obtain ⟨wl, hwl⟩ : ∃ wl, wl = (w.alloc (.cells #[.slice A1 n1 c1, .slice A2 n2 c2, .slice A3 n3 c3, .slice A4 n4 c4] 105)).alloc (.cells #[.slice A1 n1 c1, .slice A2 n2 c2, .slice A3 n3 c3, .slice A4 n4 c4] 38) := ⟨_, rfl⟩
  have hbl : Below w.heap.size w wl := by rw [hwl]; exact ((Below.refl _ _).alloc (Nat.le_refl _) _).alloc (by simp) _
  have hsl : wl.heap.size = w.heap.size + 2 := by rw [hwl]; simp
  have e0 : ∀ i v, #[Value.slice A1 n1 c1, .slice A2 n2 c2, .slice A3 n3 c3, .slice A4 n4 c4][i]? = some v → wl.cell? ⟨w.heap.size, i, none⟩ = some v ∧ wl.cell? ⟨w.heap.size + 1, i, none⟩ = some v := fun i v hv => by
    constructor
    · rw [hwl]
      refine ((below_alloc _ _).cell (p := ⟨w.heap.size, i, none⟩) (by simp)).trans ?_
      rw [World.cell?_alloc_at (hn := by simp)]; exact hv
    · rw [hwl, World.cell?_alloc_at (hn := by simp)]; exact hv
  have HK : Hid (∀ wx, Below wl.heap.size wl wx → ∀ i v, #[Value.slice A1 n1 c1, .slice A2 n2 c2, .slice A3 n3 c3, .slice A4 n4 c4][i]? = some v → wx.cell? ⟨w.heap.size, i, none⟩ = some v ∧ wx.cell? ⟨w.heap.size + 1, i, none⟩ = some v) :=
    Lib.hid (fun wx hx i v hv => ⟨(hx.cell (p := ⟨w.heap.size, i, none⟩) (by show w.heap.size < _; omega)).trans (e0 i v hv).1, (hx.cell (p := ⟨w.heap.size + 1, i, none⟩) (by show w.heap.size + 1 < _; omega)).trans (e0 i v hv).2⟩)
  have C1 : Hid (∀ wx, Below wl.heap.size wl wx → Calls Try.prog 57 #[.agg #[.slice A1 n1 c1, .slice A2 n2 c2]] wx fun e w' => e = .returned (.int .i64 0) ∧ Below wl.heap.size wl w') :=
    Lib.hid (fun wx hx => (checkFraction_any A1 n1 c1 xs A2 n2 c2 ys wx ((h1.keep hbl).keep hx) ((h2.keep hbl).keep hx)).mono fun e w' ⟨he, hb⟩ => ⟨by rw [he, show frC xs ys = 0 from if_pos f1], hx.trans (hb.mono hx.size)⟩)
  have C2 : Hid (∀ wx, Below wl.heap.size wl wx → Calls Try.prog 57 #[.agg #[.slice A3 n3 c3, .slice A4 n4 c4]] wx fun e w' => e = .returned (.int .i64 0) ∧ Below wl.heap.size wl w') :=
    Lib.hid (fun wx hx => (checkFraction_any A3 n3 c3 zs A4 n4 c4 us wx ((h3.keep hbl).keep hx) ((h4.keep hbl).keep hx)).mono fun e w' ⟨he, hb⟩ => ⟨by rw [he, show frC zs us = 0 from if_pos f2], hx.trans (hb.mono hx.size)⟩)
  have HC := Lib.hid hcall
  have HW := Lib.hid hwl
  obtain ⟨x0, y0⟩ := e0 0 _ rfl
  obtain ⟨x1, y1⟩ := e0 1 _ rfl
  clear hwl h1 h2 h3 h4 f1 f2 hcall e0
  go_enter Try.func81, Try.ntmps81
  go_wp2
  rw [← HW.out]
  refine wp_loop_rounds 3 ?_
  rw [rounds_succ]
  go_wp2_with fail
  refine (C1.out _ (below_alloc wl _)).mono ?_
  rintro e w2 ⟨rfl, hx2⟩
  obtain ⟨_, z2⟩ := HK.out _ hx2 2 _ rfl
  obtain ⟨_, z3⟩ := HK.out _ hx2 3 _ rfl
  clear x0 y0 x1 y1
  go_wp2
  rw [rounds_succ]
  go_wp2_with fail
  refine (C2.out _ (Below.alloc hx2 hx2.size _)).mono ?_
  rintro e w3 ⟨rfl, hx3⟩
  obtain ⟨q0, _⟩ := HK.out _ hx3 0 _ rfl
  obtain ⟨q1, _⟩ := HK.out _ hx3 1 _ rfl
  obtain ⟨q2, _⟩ := HK.out _ hx3 2 _ rfl
  obtain ⟨q3, _⟩ := HK.out _ hx3 3 _ rfl
  clear z2 z3
  have hfin := hbl.trans (hx3.mono (by omega))
  go_wp2
  rw [rounds_succ]
  go_wp2_with fail
  refine (HC.out _ hfin).mono ?_
  rintro e w4 ⟨rfl, hr⟩
  go_wp2
  go_ret
  exact ⟨rfl, hr⟩
set_option maxRecDepth 100000 in
set_option maxHeartbeats 1000000 in
theorem operate_82 (w : World) (A1 A2 A3 A4 : Option Addr) (n1 n2 n3 n4 c1 c2 c3 c4 : Nat) (xs ys zs us : List Nat) (h1 : Arg w A1 n1 c1 xs) (h2 : Arg w A2 n2 c2 ys) (h3 : Arg w A3 n3 c3 zs) (h4 : Arg w A4 n4 c4 us)
    (f1 : FrOk xs ys) (f2 : FrOk zs us) (p : Value) (code : Int) (RR : World → Prop)
    (hcall : ∀ wx, Below w.heap.size w wx → Calls Try.prog 82 #[.agg #[.slice A1 n1 c1, .slice A2 n2 c2], .agg #[.slice A3 n3 c3, .slice A4 n4 c4], p] wx fun e w' => e = .returned (.int .i64 code) ∧ RR w') :
    Calls Try.prog 81 #[.agg #[.slice A1 n1 c1, .slice A2 n2 c2, .slice A3 n3 c3, .slice A4 n4 c4], .func (Fn.func 82) #[] #[p]] w fun e w' => e = .returned (.int .i64 code) ∧ RR w' := by
  obtain ⟨wl, hwl⟩ : ∃ wl, wl = (w.alloc (.cells #[.slice A1 n1 c1, .slice A2 n2 c2, .slice A3 n3 c3, .slice A4 n4 c4] 105)).alloc (.cells #[.slice A1 n1 c1, .slice A2 n2 c2, .slice A3 n3 c3, .slice A4 n4 c4] 38) := ⟨_, rfl⟩
  have hbl : Below w.heap.size w wl := by rw [hwl]; exact ((Below.refl _ _).alloc (Nat.le_refl _) _).alloc (by simp) _
  have hsl : wl.heap.size = w.heap.size + 2 := by rw [hwl]; simp
  have e0 : ∀ i v, #[Value.slice A1 n1 c1, .slice A2 n2 c2, .slice A3 n3 c3, .slice A4 n4 c4][i]? = some v → wl.cell? ⟨w.heap.size, i, none⟩ = some v ∧ wl.cell? ⟨w.heap.size + 1, i, none⟩ = some v := fun i v hv => by
    constructor
    · rw [hwl]
      refine ((below_alloc _ _).cell (p := ⟨w.heap.size, i, none⟩) (by simp)).trans ?_
      rw [World.cell?_alloc_at (hn := by simp)]; exact hv
    · rw [hwl, World.cell?_alloc_at (hn := by simp)]; exact hv
  have HK : Hid (∀ wx, Below wl.heap.size wl wx → ∀ i v, #[Value.slice A1 n1 c1, .slice A2 n2 c2, .slice A3 n3 c3, .slice A4 n4 c4][i]? = some v → wx.cell? ⟨w.heap.size, i, none⟩ = some v ∧ wx.cell? ⟨w.heap.size + 1, i, none⟩ = some v) :=
    Lib.hid (fun wx hx i v hv => ⟨(hx.cell (p := ⟨w.heap.size, i, none⟩) (by show w.heap.size < _; omega)).trans (e0 i v hv).1, (hx.cell (p := ⟨w.heap.size + 1, i, none⟩) (by show w.heap.size + 1 < _; omega)).trans (e0 i v hv).2⟩)
  have C1 : Hid (∀ wx, Below wl.heap.size wl wx → Calls Try.prog 57 #[.agg #[.slice A1 n1 c1, .slice A2 n2 c2]] wx fun e w' => e = .returned (.int .i64 0) ∧ Below wl.heap.size wl w') :=
    Lib.hid (fun wx hx => (checkFraction_any A1 n1 c1 xs A2 n2 c2 ys wx ((h1.keep hbl).keep hx) ((h2.keep hbl).keep hx)).mono fun e w' ⟨he, hb⟩ => ⟨by rw [he, show frC xs ys = 0 from if_pos f1], hx.trans (hb.mono hx.size)⟩)
  have C2 : Hid (∀ wx, Below wl.heap.size wl wx → Calls Try.prog 57 #[.agg #[.slice A3 n3 c3, .slice A4 n4 c4]] wx fun e w' => e = .returned (.int .i64 0) ∧ Below wl.heap.size wl w') :=
    Lib.hid (fun wx hx => (checkFraction_any A3 n3 c3 zs A4 n4 c4 us wx ((h3.keep hbl).keep hx) ((h4.keep hbl).keep hx)).mono fun e w' ⟨he, hb⟩ => ⟨by rw [he, show frC zs us = 0 from if_pos f2], hx.trans (hb.mono hx.size)⟩)
  have HC := Lib.hid hcall
  have HW := Lib.hid hwl
  obtain ⟨x0, y0⟩ := e0 0 _ rfl
  obtain ⟨x1, y1⟩ := e0 1 _ rfl
  clear hwl h1 h2 h3 h4 f1 f2 hcall e0
  go_enter Try.func81, Try.ntmps81
  go_wp2
  rw [← HW.out]
  refine wp_loop_rounds 3 ?_
  rw [rounds_succ]
  go_wp2_with fail
  refine (C1.out _ (below_alloc wl _)).mono ?_
  rintro e w2 ⟨rfl, hx2⟩
  obtain ⟨_, z2⟩ := HK.out _ hx2 2 _ rfl
  obtain ⟨_, z3⟩ := HK.out _ hx2 3 _ rfl
  clear x0 y0 x1 y1
  go_wp2
  rw [rounds_succ]
  go_wp2_with fail
  refine (C2.out _ (Below.alloc hx2 hx2.size _)).mono ?_
  rintro e w3 ⟨rfl, hx3⟩
  obtain ⟨q0, _⟩ := HK.out _ hx3 0 _ rfl
  obtain ⟨q1, _⟩ := HK.out _ hx3 1 _ rfl
  obtain ⟨q2, _⟩ := HK.out _ hx3 2 _ rfl
  obtain ⟨q3, _⟩ := HK.out _ hx3 3 _ rfl
  clear z2 z3
  have hfin := hbl.trans (hx3.mono (by omega))
  go_wp2
  rw [rounds_succ]
  go_wp2_with fail
  refine (HC.out _ hfin).mono ?_
  rintro e w4 ⟨rfl, hr⟩
  go_wp2
  go_ret
  exact ⟨rfl, hr⟩

set_option maxRecDepth 100000 in
set_option maxHeartbeats 1000000 in
theorem operate_84 (w : World) (A1 A2 A3 A4 : Option Addr) (n1 n2 n3 n4 c1 c2 c3 c4 : Nat) (xs ys zs us : List Nat) (h1 : Arg w A1 n1 c1 xs) (h2 : Arg w A2 n2 c2 ys) (h3 : Arg w A3 n3 c3 zs) (h4 : Arg w A4 n4 c4 us)
    (f1 : FrOk xs ys) (f2 : FrOk zs us) (p : Value) (code : Int) (RR : World → Prop)
    (hcall : ∀ wx, Below w.heap.size w wx → Calls Try.prog 84 #[.agg #[.slice A1 n1 c1, .slice A2 n2 c2], .agg #[.slice A3 n3 c3, .slice A4 n4 c4], p] wx fun e w' => e = .returned (.int .i64 code) ∧ RR w') :
    Calls Try.prog 81 #[.agg #[.slice A1 n1 c1, .slice A2 n2 c2, .slice A3 n3 c3, .slice A4 n4 c4], .func (Fn.func 84) #[] #[p]] w fun e w' => e = .returned (.int .i64 code) ∧ RR w' := by
  obtain ⟨wl, hwl⟩ : ∃ wl, wl = (w.alloc (.cells #[.slice A1 n1 c1, .slice A2 n2 c2, .slice A3 n3 c3, .slice A4 n4 c4] 105)).alloc (.cells #[.slice A1 n1 c1, .slice A2 n2 c2, .slice A3 n3 c3, .slice A4 n4 c4] 38) := ⟨_, rfl⟩
  have hbl : Below w.heap.size w wl := by rw [hwl]; exact ((Below.refl _ _).alloc (Nat.le_refl _) _).alloc (by simp) _
  have hsl : wl.heap.size = w.heap.size + 2 := by rw [hwl]; simp
  have e0 : ∀ i v, #[Value.slice A1 n1 c1, .slice A2 n2 c2, .slice A3 n3 c3, .slice A4 n4 c4][i]? = some v → wl.cell? ⟨w.heap.size, i, none⟩ = some v ∧ wl.cell? ⟨w.heap.size + 1, i, none⟩ = some v := fun i v hv => by
    constructor
    · rw [hwl]
      refine ((below_alloc _ _).cell (p := ⟨w.heap.size, i, none⟩) (by simp)).trans ?_
      rw [World.cell?_alloc_at (hn := by simp)]; exact hv
    · rw [hwl, World.cell?_alloc_at (hn := by simp)]; exact hv
  have HK : Hid (∀ wx, Below wl.heap.size wl wx → ∀ i v, #[Value.slice A1 n1 c1, .slice A2 n2 c2, .slice A3 n3 c3, .slice A4 n4 c4][i]? = some v → wx.cell? ⟨w.heap.size, i, none⟩ = some v ∧ wx.cell? ⟨w.heap.size + 1, i, none⟩ = some v) :=
    Lib.hid (fun wx hx i v hv => ⟨(hx.cell (p := ⟨w.heap.size, i, none⟩) (by show w.heap.size < _; omega)).trans (e0 i v hv).1, (hx.cell (p := ⟨w.heap.size + 1, i, none⟩) (by show w.heap.size + 1 < _; omega)).trans (e0 i v hv).2⟩)
  have C1 : Hid (∀ wx, Below wl.heap.size wl wx → Calls Try.prog 57 #[.agg #[.slice A1 n1 c1, .slice A2 n2 c2]] wx fun e w' => e = .returned (.int .i64 0) ∧ Below wl.heap.size wl w') :=
    Lib.hid (fun wx hx => (checkFraction_any A1 n1 c1 xs A2 n2 c2 ys wx ((h1.keep hbl).keep hx) ((h2.keep hbl).keep hx)).mono fun e w' ⟨he, hb⟩ => ⟨by rw [he, show frC xs ys = 0 from if_pos f1], hx.trans (hb.mono hx.size)⟩)
  have C2 : Hid (∀ wx, Below wl.heap.size wl wx → Calls Try.prog 57 #[.agg #[.slice A3 n3 c3, .slice A4 n4 c4]] wx fun e w' => e = .returned (.int .i64 0) ∧ Below wl.heap.size wl w') :=
    Lib.hid (fun wx hx => (checkFraction_any A3 n3 c3 zs A4 n4 c4 us wx ((h3.keep hbl).keep hx) ((h4.keep hbl).keep hx)).mono fun e w' ⟨he, hb⟩ => ⟨by rw [he, show frC zs us = 0 from if_pos f2], hx.trans (hb.mono hx.size)⟩)
  have HC := Lib.hid hcall
  have HW := Lib.hid hwl
  obtain ⟨x0, y0⟩ := e0 0 _ rfl
  obtain ⟨x1, y1⟩ := e0 1 _ rfl
  clear hwl h1 h2 h3 h4 f1 f2 hcall e0
  go_enter Try.func81, Try.ntmps81
  go_wp2
  rw [← HW.out]
  refine wp_loop_rounds 3 ?_
  rw [rounds_succ]
  go_wp2_with fail
  refine (C1.out _ (below_alloc wl _)).mono ?_
  rintro e w2 ⟨rfl, hx2⟩
  obtain ⟨_, z2⟩ := HK.out _ hx2 2 _ rfl
  obtain ⟨_, z3⟩ := HK.out _ hx2 3 _ rfl
  clear x0 y0 x1 y1
  go_wp2
  rw [rounds_succ]
  go_wp2_with fail
  refine (C2.out _ (Below.alloc hx2 hx2.size _)).mono ?_
  rintro e w3 ⟨rfl, hx3⟩
  obtain ⟨q0, _⟩ := HK.out _ hx3 0 _ rfl
  obtain ⟨q1, _⟩ := HK.out _ hx3 1 _ rfl
  obtain ⟨q2, _⟩ := HK.out _ hx3 2 _ rfl
  obtain ⟨q3, _⟩ := HK.out _ hx3 3 _ rfl
  clear z2 z3
  have hfin := hbl.trans (hx3.mono (by omega))
  go_wp2
  rw [rounds_succ]
  go_wp2_with fail
  refine (HC.out _ hfin).mono ?_
  rintro e w4 ⟨rfl, hr⟩
  go_wp2
  go_ret
  exact ⟨rfl, hr⟩
end Go.Proofs.Ythplhlcdlnedfaa

namespace Go.Proofs.Ythplhlcdlnedfaa
open Go.RowKit MN

/-- A valid fraction's value: two slices of numbers without a common divisor, the second not 0. -/
structure Fr (w : World) (v1 v2 : Value) (N D : Nat) : Prop where
  num : Nm w v1 N
  den : Nm w v2 D
  co : Nat.gcd N D = 1
  pos : D ≠ 0
theorem Fr.keep {w w' : World} {v1 v2 : Value} {N D : Nat} (h : Fr w v1 v2 N D) (hb : Below w.heap.size w w') : Fr w' v1 v2 N D := ⟨h.num.keep hb, h.den.keep hb, h.co, h.pos⟩
theorem frOk_digs {N D : Nat} (hN : N < 4294967296 ^ 16) (hD : D < 4294967296 ^ 16) (h : Nat.gcd N D = 1) (h0 : D ≠ 0) : FrOk (digs 4294967296 N) (digs 4294967296 D) :=
  ⟨⟨sm_vd hN, sm_vd hD⟩, by rw [nv_digs, nv_digs]; exact h, by rw [nv_digs]; exact h0⟩

set_option maxRecDepth 100000 in
set_option maxHeartbeats 1000000 in
theorem mulFr_v (w : World) (s1 s2 s3 s4 : Value) (N1 D1 N2 D2 : Nat) (h : Fr w s1 s2 N1 D1) (k : Fr w s3 s4 N2 D2) :
    Calls Try.prog 34 #[.agg #[s1, s2], .agg #[s3, s4]] w (FrRes w (redC (N1 * N2) (D1 * D2)) (redN (N1 * N2) (D1 * D2)) (redD (N1 * N2) (D1 * D2))) := by
  obtain ⟨⟨⟨A1, n1, c1, rfl, a1⟩, l1⟩, ⟨⟨A2, n2, c2, rfl, a2⟩, l2⟩, g1, p1⟩ := h
  obtain ⟨⟨⟨A3, n3, c3, rfl, a3⟩, l3⟩, ⟨⟨A4, n4, c4, rfl, a4⟩, l4⟩, g2, p2⟩ := k
  have F1 := frOk_digs l1 l2 g1 p1
  have F2 := frOk_digs l3 l4 g2 p2
  obtain ⟨w2, hw2⟩ : ∃ w2, w2 = (w.alloc (.cells #[.slice A1 n1 c1, .slice A2 n2 c2] 38)).alloc (.cells #[.slice A3 n3 c3, .slice A4 n4 c4] 38) := ⟨_, rfl⟩
  have hb2 : Below w.heap.size w w2 := by rw [hw2]; exact ((Below.refl _ _).alloc (Nat.le_refl _) _).alloc (by simp) _
  have hs2 : w2.heap.size = w.heap.size + 2 := by rw [hw2]; simp
  obtain ⟨w3, hw3⟩ : ∃ w3, w3 = w2.alloc (.cells #[.slice none 0 0, .slice none 0 0] 38) := ⟨_, rfl⟩
  have hb3 : Below w2.heap.size w2 w3 := by rw [hw3]; exact below_alloc _ _
  have hs3 : w3.heap.size = w.heap.size + 3 := by rw [hw3]; simp [hs2]
  have hv3 : Var2 w3 w2.heap.size (.slice none 0 0) (.slice none 0 0) := by rw [hw3]; exact var2_new _ _ _ _
  obtain ⟨w4, hw4⟩ : ∃ w4, w4 = w3.alloc (.cells #[.slice none 0 0, .slice none 0 0] 38) := ⟨_, rfl⟩
  have hb4 : Below w3.heap.size w3 w4 := by rw [hw4]; exact below_alloc _ _
  have hs4 : w4.heap.size = w.heap.size + 4 := by rw [hw4]; simp [hs3]
  have hv4 : Var2 w4 w3.heap.size (.slice none 0 0) (.slice none 0 0) := by rw [hw4]; exact var2_new _ _ _ _
  have hB : Below w.heap.size w w4 := hb2.trans ((hb3.mono (by omega)).trans (hb4.mono (by omega)))
  have HO := operate_83 w4 A1 A2 A3 A4 n1 n2 n3 n4 c1 c2 c3 c4 _ _ _ _ (a1.keep hB) (a2.keep hB) (a3.keep hB) (a4.keep hB) F1 F2 (.pointer (some ⟨w3.heap.size, 0, none⟩)) (redC (N1 * N2) (D1 * D2))
    (fun w' => ∃ v1 v2, Own w4.heap.size w' v1 (redN (N1 * N2) (D1 * D2)) ∧ Own w4.heap.size w' v2 (redD (N1 * N2) (D1 * D2)) ∧ Var2 w' w3.heap.size v1 v2 ∧ Below w3.heap.size w4 w')
    (fun wx hx => (mulOp_any wx w3.heap.size w3.heap.size A1 A2 A3 A4 n1 n2 n3 n4 c1 c2 c3 c4 N1 D1 N2 D2 ⟨⟨_, _, _, rfl, (a1.keep hB).keep hx⟩, l1⟩ ⟨⟨_, _, _, rfl, (a2.keep hB).keep hx⟩, l2⟩ ⟨⟨_, _, _, rfl, (a3.keep hB).keep hx⟩, l3⟩ ⟨⟨_, _, _, rfl, (a4.keep hB).keep hx⟩, l4⟩ p1 p2 _ _ (hv4.keep hx (by omega)) (Nat.le_refl _) (by have := hx.size; omega)).mono
      fun e w' ⟨v1, v2, he, o1, o2, hv, hb⟩ => ⟨he, v1, v2, o1.low hx.size, o2.low hx.size, hv, (hx.mono (by omega)).trans hb⟩)
  have hs3' : w3.heap.size = w.heap.size + 1 + 1 + 1 := hs3
  have hs2' : w2.heap.size = w.heap.size + 1 + 1 := hs2
  rw [hs3'] at HO
  rw [hs2'] at hv3
  have hv3' := hv3.keep hb4 (by omega)
  have HH := Lib.hid HO
  have H2 := Lib.hid hw2
  have H3 := Lib.hid hw3
  have H4 := Lib.hid hw4
  clear HO hw2 hw3 hw4 a1 a2 a3 a4 F1 F2 g1 g2 p1 p2 l1 l2 l3 l4
  go_enter Try.func34, Try.ntmps34
  go_wp2_with fail
  rw [← H2.out, ← H3.out, ← H4.out]
  refine HH.out.mono ?_
  rintro e w5 ⟨rfl, v1, v2, o1, o2, hv, hb⟩
  obtain ⟨B1, m1, k1, rfl, o1⟩ := o1
  obtain ⟨B2, m2, k2, rfl, o2⟩ := o2
  have hv5 := hv3'.keep hb (by omega)
  have hbw : Below w.heap.size w w5 := hB.trans (hb.mono (by omega))
  have hlt : w.heap.size + 1 + 1 < w4.heap.size := by omega
  have q1 := (⟨B1, m1, k1, rfl, o1⟩ : Own w4.heap.size w5 (.slice B1 m1 k1) _)
  have q2 := (⟨B2, m2, k2, rfl, o2⟩ : Own w4.heap.size w5 (.slice B2 m2 k2) _)
  have P1 := ((Own.set (Own.set q1 (a := ⟨w.heap.size + 1 + 1, 0, none⟩) hlt (.slice B1 m1 k1)) (a := ⟨w.heap.size + 1 + 1, 1, none⟩) hlt (.slice B2 m2 k2)).low (B' := w.heap.size) (by omega))
  have P2 := ((Own.set (Own.set q2 (a := ⟨w.heap.size + 1 + 1, 0, none⟩) hlt (.slice B1 m1 k1)) (a := ⟨w.heap.size + 1 + 1, 1, none⟩) hlt (.slice B2 m2 k2)).low (B' := w.heap.size) (by omega))
  have P3 := (hbw.setCell (p := ⟨w.heap.size + 1 + 1, 0, none⟩) (by show w.heap.size ≤ w.heap.size + 1 + 1; omega) (.slice B1 m1 k1)).setCell (p := ⟨w.heap.size + 1 + 1, 1, none⟩) (by show w.heap.size ≤ w.heap.size + 1 + 1; omega) (.slice B2 m2 k2)
  have V1 := hv5.stored (.slice B1 m1 k1) (.slice B2 m2 k2)
  obtain ⟨r0, r1, _, _⟩ := hv
  obtain ⟨t0, t1, f0, f1⟩ := hv5
  obtain ⟨wf, hwf⟩ : ∃ wf, wf = (w5.setCell ⟨w.heap.size + 1 + 1, 0, none⟩ (.slice B1 m1 k1)).setCell ⟨w.heap.size + 1 + 1, 1, none⟩ (.slice B2 m2 k2) := ⟨_, rfl⟩
  rw [← hwf] at P1 P2 P3 V1
  have HF := Lib.hid hwf
  have HV := Lib.hid V1
  have HP : Hid (Pair w wf (.slice B1 m1 k1) (.slice B2 m2 k2) _ _) := Lib.hid ⟨P1, P2, P3⟩
  clear hwf V1 P1 P2 P3 q1 q2 o1 o2
  go_wp2
  rw [← HF.out]
  obtain ⟨q0, q1, _, _⟩ := HV.out
  refine bodyPost_ret (by simp [results, Try.results34, q0, q1, go_sem]; rfl) rfl ?_
  exact ⟨_, _, rfl, HP.out⟩
set_option maxRecDepth 100000 in
set_option maxHeartbeats 1000000 in
theorem addFr_v (w : World) (s1 s2 s3 s4 : Value) (N1 D1 N2 D2 : Nat) (h : Fr w s1 s2 N1 D1) (k : Fr w s3 s4 N2 D2) :
    Calls Try.prog 32 #[.agg #[s1, s2], .agg #[s3, s4]] w (FrRes w (redC (N1 * D2 + N2 * D1) (D1 * D2)) (redN (N1 * D2 + N2 * D1) (D1 * D2)) (redD (N1 * D2 + N2 * D1) (D1 * D2))) := by
  obtain ⟨⟨⟨A1, n1, c1, rfl, a1⟩, l1⟩, ⟨⟨A2, n2, c2, rfl, a2⟩, l2⟩, g1, p1⟩ := h
  obtain ⟨⟨⟨A3, n3, c3, rfl, a3⟩, l3⟩, ⟨⟨A4, n4, c4, rfl, a4⟩, l4⟩, g2, p2⟩ := k
  have F1 := frOk_digs l1 l2 g1 p1
  have F2 := frOk_digs l3 l4 g2 p2
  obtain ⟨w2, hw2⟩ : ∃ w2, w2 = (w.alloc (.cells #[.slice A1 n1 c1, .slice A2 n2 c2] 38)).alloc (.cells #[.slice A3 n3 c3, .slice A4 n4 c4] 38) := ⟨_, rfl⟩
  have hb2 : Below w.heap.size w w2 := by rw [hw2]; exact ((Below.refl _ _).alloc (Nat.le_refl _) _).alloc (by simp) _
  have hs2 : w2.heap.size = w.heap.size + 2 := by rw [hw2]; simp
  obtain ⟨w3, hw3⟩ : ∃ w3, w3 = w2.alloc (.cells #[.slice none 0 0, .slice none 0 0] 38) := ⟨_, rfl⟩
  have hb3 : Below w2.heap.size w2 w3 := by rw [hw3]; exact below_alloc _ _
  have hs3 : w3.heap.size = w.heap.size + 3 := by rw [hw3]; simp [hs2]
  have hv3 : Var2 w3 w2.heap.size (.slice none 0 0) (.slice none 0 0) := by rw [hw3]; exact var2_new _ _ _ _
  obtain ⟨w4, hw4⟩ : ∃ w4, w4 = w3.alloc (.cells #[.slice none 0 0, .slice none 0 0] 38) := ⟨_, rfl⟩
  have hb4 : Below w3.heap.size w3 w4 := by rw [hw4]; exact below_alloc _ _
  have hs4 : w4.heap.size = w.heap.size + 4 := by rw [hw4]; simp [hs3]
  have hv4 : Var2 w4 w3.heap.size (.slice none 0 0) (.slice none 0 0) := by rw [hw4]; exact var2_new _ _ _ _
  have hB : Below w.heap.size w w4 := hb2.trans ((hb3.mono (by omega)).trans (hb4.mono (by omega)))
  have HO := operate_82 w4 A1 A2 A3 A4 n1 n2 n3 n4 c1 c2 c3 c4 _ _ _ _ (a1.keep hB) (a2.keep hB) (a3.keep hB) (a4.keep hB) F1 F2 (.pointer (some ⟨w3.heap.size, 0, none⟩)) (redC (N1 * D2 + N2 * D1) (D1 * D2))
    (fun w' => ∃ v1 v2, Own w4.heap.size w' v1 (redN (N1 * D2 + N2 * D1) (D1 * D2)) ∧ Own w4.heap.size w' v2 (redD (N1 * D2 + N2 * D1) (D1 * D2)) ∧ Var2 w' w3.heap.size v1 v2 ∧ Below w3.heap.size w4 w')
    (fun wx hx => (addOp_any wx w3.heap.size w3.heap.size A1 A2 A3 A4 n1 n2 n3 n4 c1 c2 c3 c4 N1 D1 N2 D2 ⟨⟨_, _, _, rfl, (a1.keep hB).keep hx⟩, l1⟩ ⟨⟨_, _, _, rfl, (a2.keep hB).keep hx⟩, l2⟩ ⟨⟨_, _, _, rfl, (a3.keep hB).keep hx⟩, l3⟩ ⟨⟨_, _, _, rfl, (a4.keep hB).keep hx⟩, l4⟩ p1 p2 _ _ (hv4.keep hx (by omega)) (Nat.le_refl _) (by have := hx.size; omega)).mono
      fun e w' ⟨v1, v2, he, o1, o2, hv, hb⟩ => ⟨he, v1, v2, o1.low hx.size, o2.low hx.size, hv, (hx.mono (by omega)).trans hb⟩)
  have hs3' : w3.heap.size = w.heap.size + 1 + 1 + 1 := hs3
  have hs2' : w2.heap.size = w.heap.size + 1 + 1 := hs2
  rw [hs3'] at HO
  rw [hs2'] at hv3
  have hv3' := hv3.keep hb4 (by omega)
  have HH := Lib.hid HO
  have H2 := Lib.hid hw2
  have H3 := Lib.hid hw3
  have H4 := Lib.hid hw4
  clear HO hw2 hw3 hw4 a1 a2 a3 a4 F1 F2 g1 g2 p1 p2 l1 l2 l3 l4
  go_enter Try.func32, Try.ntmps32
  go_wp2_with fail
  rw [← H2.out, ← H3.out, ← H4.out]
  refine HH.out.mono ?_
  rintro e w5 ⟨rfl, v1, v2, o1, o2, hv, hb⟩
  obtain ⟨B1, m1, k1, rfl, o1⟩ := o1
  obtain ⟨B2, m2, k2, rfl, o2⟩ := o2
  have hv5 := hv3'.keep hb (by omega)
  have hbw : Below w.heap.size w w5 := hB.trans (hb.mono (by omega))
  have hlt : w.heap.size + 1 + 1 < w4.heap.size := by omega
  have q1 := (⟨B1, m1, k1, rfl, o1⟩ : Own w4.heap.size w5 (.slice B1 m1 k1) _)
  have q2 := (⟨B2, m2, k2, rfl, o2⟩ : Own w4.heap.size w5 (.slice B2 m2 k2) _)
  have P1 := ((Own.set (Own.set q1 (a := ⟨w.heap.size + 1 + 1, 0, none⟩) hlt (.slice B1 m1 k1)) (a := ⟨w.heap.size + 1 + 1, 1, none⟩) hlt (.slice B2 m2 k2)).low (B' := w.heap.size) (by omega))
  have P2 := ((Own.set (Own.set q2 (a := ⟨w.heap.size + 1 + 1, 0, none⟩) hlt (.slice B1 m1 k1)) (a := ⟨w.heap.size + 1 + 1, 1, none⟩) hlt (.slice B2 m2 k2)).low (B' := w.heap.size) (by omega))
  have P3 := (hbw.setCell (p := ⟨w.heap.size + 1 + 1, 0, none⟩) (by show w.heap.size ≤ w.heap.size + 1 + 1; omega) (.slice B1 m1 k1)).setCell (p := ⟨w.heap.size + 1 + 1, 1, none⟩) (by show w.heap.size ≤ w.heap.size + 1 + 1; omega) (.slice B2 m2 k2)
  have V1 := hv5.stored (.slice B1 m1 k1) (.slice B2 m2 k2)
  obtain ⟨r0, r1, _, _⟩ := hv
  obtain ⟨t0, t1, f0, f1⟩ := hv5
  obtain ⟨wf, hwf⟩ : ∃ wf, wf = (w5.setCell ⟨w.heap.size + 1 + 1, 0, none⟩ (.slice B1 m1 k1)).setCell ⟨w.heap.size + 1 + 1, 1, none⟩ (.slice B2 m2 k2) := ⟨_, rfl⟩
  rw [← hwf] at P1 P2 P3 V1
  have HF := Lib.hid hwf
  have HV := Lib.hid V1
  have HP : Hid (Pair w wf (.slice B1 m1 k1) (.slice B2 m2 k2) _ _) := Lib.hid ⟨P1, P2, P3⟩
  clear hwf V1 P1 P2 P3 q1 q2 o1 o2
  go_wp2
  rw [← HF.out]
  obtain ⟨q0, q1, _, _⟩ := HV.out
  refine bodyPost_ret (by simp [results, Try.results32, q0, q1, go_sem]; rfl) rfl ?_
  exact ⟨_, _, rfl, HP.out⟩

set_option maxRecDepth 100000 in
set_option maxHeartbeats 1000000 in
theorem cmpFr_v (w : World) (s1 s2 s3 s4 : Value) (N1 D1 N2 D2 : Nat) (h : Fr w s1 s2 N1 D1) (k : Fr w s3 s4 N2 D2) :
    Calls Try.prog 35 #[.agg #[s1, s2], .agg #[s3, s4]] w fun e w' => e = .returned (.tuple #[.int .i64 (ordv (N1 * D2) (N2 * D1)), .int .i64 0]) ∧ Below w.heap.size w w' := by
  obtain ⟨⟨⟨A1, n1, c1, rfl, a1⟩, l1⟩, ⟨⟨A2, n2, c2, rfl, a2⟩, l2⟩, g1, p1⟩ := h
  obtain ⟨⟨⟨A3, n3, c3, rfl, a3⟩, l3⟩, ⟨⟨A4, n4, c4, rfl, a4⟩, l4⟩, g2, p2⟩ := k
  have F1 := frOk_digs l1 l2 g1 p1
  have F2 := frOk_digs l3 l4 g2 p2
  obtain ⟨w2, hw2⟩ : ∃ w2, w2 = (w.alloc (.cells #[.slice A1 n1 c1, .slice A2 n2 c2] 38)).alloc (.cells #[.slice A3 n3 c3, .slice A4 n4 c4] 38) := ⟨_, rfl⟩
  have hb2 : Below w.heap.size w w2 := by rw [hw2]; exact ((Below.refl _ _).alloc (Nat.le_refl _) _).alloc (by simp) _
  have hs2 : w2.heap.size = w.heap.size + 2 := by rw [hw2]; simp
  obtain ⟨w4, hw4⟩ : ∃ w4, w4 = w2.alloc (.cells #[.int .i64 0] 3) := ⟨_, rfl⟩
  have hb4 : Below w2.heap.size w2 w4 := by rw [hw4]; exact below_alloc _ _
  have hs4 : w4.heap.size = w.heap.size + 3 := by rw [hw4]; simp [hs2]
  have hc4 : w4.cell? ⟨w2.heap.size, 0, none⟩ = some (.int .i64 0) := by rw [hw4, World.cell?_alloc_at (hn := by simp)]; rfl
  have hf4 : w4.frozen? ⟨w2.heap.size, 0, none⟩ = false := by rw [hw4]; exact World.frozen?_alloc_new ..
  have hB : Below w.heap.size w w4 := hb2.trans (hb4.mono (by omega))
  have HO := operate_84 w4 A1 A2 A3 A4 n1 n2 n3 n4 c1 c2 c3 c4 _ _ _ _ (a1.keep hB) (a2.keep hB) (a3.keep hB) (a4.keep hB) F1 F2 (.pointer (some ⟨w2.heap.size, 0, none⟩)) 0
    (fun w' => w'.cell? ⟨w2.heap.size, 0, none⟩ = some (.int .i64 (ordv (N1 * D2) (N2 * D1))) ∧ Below w2.heap.size w4 w')
    (fun wx hx => (cmpOp_any wx w2.heap.size w2.heap.size A1 A2 A3 A4 n1 n2 n3 n4 c1 c2 c3 c4 N1 D1 N2 D2 ⟨⟨_, _, _, rfl, (a1.keep hB).keep hx⟩, l1⟩ ⟨⟨_, _, _, rfl, (a2.keep hB).keep hx⟩, l2⟩ ⟨⟨_, _, _, rfl, (a3.keep hB).keep hx⟩, l3⟩ ⟨⟨_, _, _, rfl, (a4.keep hB).keep hx⟩, l4⟩ _ ((hx.cell (p := ⟨w2.heap.size, 0, none⟩) (by show w2.heap.size < _; omega)).trans hc4) ((hx.frozen (p := ⟨w2.heap.size, 0, none⟩) (by show w2.heap.size < _; omega)).trans hf4) (Nat.le_refl _) (by have := hx.size; omega)).mono
      fun e w' ⟨he, hc, hb⟩ => ⟨he, hc, (hx.mono (by omega)).trans hb⟩)
  have hs2' : w2.heap.size = w.heap.size + 1 + 1 := hs2
  rw [hs2'] at HO
  have HH := Lib.hid HO
  have H2 := Lib.hid hw2
  have H4 := Lib.hid hw4
  clear HO hw2 hw4 a1 a2 a3 a4 F1 F2 g1 g2 p1 p2 l1 l2 l3 l4 hc4 hf4
  go_enter Try.func35, Try.ntmps35
  go_wp2_with fail
  rw [← H2.out, ← H4.out]
  refine HH.out.mono ?_
  rintro e w5 ⟨rfl, hc, hb⟩
  have hbw : Below w.heap.size w w5 := hB.trans (hb.mono (by omega))
  go_wp2
  go_ret2
  exact ⟨rfl, hbw⟩

end Go.Proofs.Ythplhlcdlnedfaa

namespace Go.Proofs.Ythplhlcdlnedfaa
open MN

theorem co_of (a b : Nat) (hb : b ≠ 0) : Nat.gcd (a / Nat.gcd a b) (b / Nat.gcd a b) = 1 ∧ b / Nat.gcd a b ≠ 0 ∧ a = Nat.gcd a b * (a / Nat.gcd a b) ∧ b = Nat.gcd a b * (b / Nat.gcd a b) ∧ Nat.gcd a b ≠ 0 := by
  have hg : Nat.gcd a b ≠ 0 := fun e => hb (Nat.eq_zero_of_gcd_eq_zero_right e)
  have d1 := Nat.gcd_dvd_left a b
  have d2 := Nat.gcd_dvd_right a b
  have h := Nat.gcd_mul_left (Nat.gcd a b) (a / Nat.gcd a b) (b / Nat.gcd a b)
  rw [Nat.mul_div_cancel' d1, Nat.mul_div_cancel' d2] at h
  refine ⟨Nat.eq_of_mul_eq_mul_left (Nat.pos_of_ne_zero hg) (by rw [Nat.mul_one]; exact h.symm), fun e => ?_, (Nat.mul_div_cancel' d1).symm, (Nat.mul_div_cancel' d2).symm, hg⟩
  have := Nat.mul_div_cancel' d2
  rw [e] at this
  exact hb (by omega)

/-- Reducing does not depend on a common factor. -/
theorem red_scale (k a b : Nat) (hk : k ≠ 0) : k * a / Nat.gcd (k * a) (k * b) = a / Nat.gcd a b ∧ k * b / Nat.gcd (k * a) (k * b) = b / Nat.gcd a b := by
  rw [Nat.gcd_mul_left]
  exact ⟨Nat.mul_div_mul_left _ _ (Nat.pos_of_ne_zero hk), Nat.mul_div_mul_left _ _ (Nat.pos_of_ne_zero hk)⟩

theorem ordv_scale (k a b : Nat) (hk : k ≠ 0) : ordv (k * a) (k * b) = ordv a b := by
  have hp := Nat.pos_of_ne_zero hk
  unfold ordv
  have e1 : k * a < k * b ↔ a < b := Nat.mul_lt_mul_left hp
  have e2 : k * b < k * a ↔ b < a := Nat.mul_lt_mul_left hp
  by_cases h1 : a < b
  · rw [if_pos h1, if_pos (e1.2 h1)]
  · rw [if_neg h1, if_neg (fun e => h1 (e1.1 e))]
    by_cases h2 : b < a
    · rw [if_pos h2, if_pos (e2.2 h2)]
    · rw [if_neg h2, if_neg (fun e => h2 (e2.1 e))]

/-- Fractions without common divisors are the same exactly if their cross products are. -/
theorem fr_eq (n1 d1 n2 d2 : Nat) (g1 : Nat.gcd n1 d1 = 1) (g2 : Nat.gcd n2 d2 = 1) (h1 : d1 ≠ 0) (_h2 : d2 ≠ 0) : n1 * d2 = n2 * d1 ↔ n1 = n2 ∧ d1 = d2 := by
  constructor
  · intro e
    have c1 : d1 ∣ n1 * d2 := ⟨n2, by rw [e, Nat.mul_comm]⟩
    have c2 : d2 ∣ n2 * d1 := ⟨n1, by rw [← e, Nat.mul_comm]⟩
    have k1 : d1 ∣ d2 := Nat.Coprime.dvd_of_dvd_mul_left (by rw [Nat.Coprime, Nat.gcd_comm]; exact g1) c1
    have k2 : d2 ∣ d1 := Nat.Coprime.dvd_of_dvd_mul_left (by rw [Nat.Coprime, Nat.gcd_comm]; exact g2) c2
    have hd : d1 = d2 := Nat.dvd_antisymm k1 k2
    subst hd
    exact ⟨Nat.eq_of_mul_eq_mul_right (Nat.pos_of_ne_zero h1) e, rfl⟩
  · rintro ⟨rfl, rfl⟩; rfl

theorem ordv_zero (a b : Nat) : ordv a b = 0 ↔ a = b := by
  unfold ordv
  by_cases h1 : a < b
  · rw [if_pos h1]; constructor <;> intro h <;> omega
  · rw [if_neg h1]
    by_cases h2 : b < a
    · rw [if_pos h2]; constructor <;> intro h <;> omega
    · rw [if_neg h2]; constructor <;> intro h <;> omega
end Go.Proofs.Ythplhlcdlnedfaa

namespace Go.Proofs.Ythplhlcdlnedfaa
open Go.RowKit MN

/-- A fraction of two numbers in slices, and an error 0. -/
def RetF (w : World) (N D : Nat) (e : Ending) (w' : World) : Prop := ∃ A1 n1 c1 A2 n2 c2, e = .returned (.tuple #[.agg #[.slice A1 n1 c1, .slice A2 n2 c2], .int .i64 0]) ∧ Nm w' (.slice A1 n1 c1) N ∧ Nm w' (.slice A2 n2 c2) D ∧ Below w.heap.size w w'

theorem retF_of {w w' : World} {e : Ending} {X Y : Nat} (hX : X < 4294967296 ^ 16) (hY : Y < 4294967296 ^ 16) (h : FrRes w (redC X Y) (redN X Y) (redD X Y) e w') : RetF w (X / Nat.gcd X Y) (Y / Nat.gcd X Y) e w' := by
  have hr : ¬ redBig X Y := fun e => e.elim (fun e => sm_big (Nat.lt_of_le_of_lt (Nat.div_le_self _ _) hX) e) (fun e => sm_big (Nat.lt_of_le_of_lt (Nat.div_le_self _ _) hY) e)
  rw [show redC X Y = 0 from if_neg hr, show redN X Y = X / Nat.gcd X Y from if_neg hr, show redD X Y = Y / Nat.gcd X Y from if_neg hr] at h
  obtain ⟨v1, v2, rfl, P1, P2, hb⟩ := h
  have m1 := P1.nm (Nat.lt_of_le_of_lt (Nat.div_le_self _ _) hX)
  have m2 := P2.nm (Nat.lt_of_le_of_lt (Nat.div_le_self _ _) hY)
  obtain ⟨A1, n1, c1, rfl, _⟩ := P1
  obtain ⟨A2, n2, c2, rfl, _⟩ := P2
  exact ⟨A1, n1, c1, A2, n2, c2, rfl, m1, m2, hb⟩

theorem ratio_v {w : World} {v1 v2 : Value} {X Y : Nat} (h : Nm w v1 X) (k : Nm w v2 Y) (hY : Y ≠ 0) : Calls Try.prog 31 #[v1, v2] w (RetF w (X / Nat.gcd X Y) (Y / Nat.gcd X Y)) := by
  have l1 := h.2
  have l2 := k.2
  obtain ⟨⟨A1, n1, c1, rfl, a1⟩, hX⟩ := h
  obtain ⟨⟨A2, n2, c2, rfl, a2⟩, hY'⟩ := k
  have H := ratio_any A1 n1 c1 _ A2 n2 c2 _ w a1 a2
  rw [okC_yes (sm_vd hX) (sm_vd hY'), okN_yes (sm_vd hX) (sm_vd hY'), okN_yes (sm_vd hX) (sm_vd hY'), nv_digs, nv_digs, show ratC X Y = redC X Y from if_neg hY, show ratN X Y = redN X Y from if_neg hY, show ratD X Y = redD X Y from if_neg hY] at H
  exact H.mono fun _ _ => retF_of l1 l2

theorem checkFr_v {w : World} {v1 v2 : Value} {N D : Nat} (h : Fr w v1 v2 N D) : Calls Try.prog 57 #[.agg #[v1, v2]] w fun e w' => e = .returned (.int .i64 0) ∧ Below w.heap.size w w' := by
  obtain ⟨⟨⟨A1, n1, c1, rfl, a1⟩, l1⟩, ⟨⟨A2, n2, c2, rfl, a2⟩, l2⟩, g1, p1⟩ := h
  have H := checkFraction_any A1 n1 c1 _ A2 n2 c2 _ w a1 a2
  rw [show frC _ _ = 0 from if_pos (frOk_digs l1 l2 g1 p1)] at H
  exact H

theorem addFr_w {w : World} {s1 s2 s3 s4 : Value} {N1 D1 N2 D2 : Nat} (h : Fr w s1 s2 N1 D1) (k : Fr w s3 s4 N2 D2) (hX : N1 * D2 + N2 * D1 < 4294967296 ^ 16) (hY : D1 * D2 < 4294967296 ^ 16) :
    Calls Try.prog 32 #[.agg #[s1, s2], .agg #[s3, s4]] w (RetF w ((N1 * D2 + N2 * D1) / Nat.gcd (N1 * D2 + N2 * D1) (D1 * D2)) (D1 * D2 / Nat.gcd (N1 * D2 + N2 * D1) (D1 * D2))) :=
  (addFr_v w s1 s2 s3 s4 N1 D1 N2 D2 h k).mono fun _ _ => retF_of hX hY
theorem mulFr_w {w : World} {s1 s2 s3 s4 : Value} {N1 D1 N2 D2 : Nat} (h : Fr w s1 s2 N1 D1) (k : Fr w s3 s4 N2 D2) (hX : N1 * N2 < 4294967296 ^ 16) (hY : D1 * D2 < 4294967296 ^ 16) :
    Calls Try.prog 34 #[.agg #[s1, s2], .agg #[s3, s4]] w (RetF w (N1 * N2 / Nat.gcd (N1 * N2) (D1 * D2)) (D1 * D2 / Nat.gcd (N1 * N2) (D1 * D2))) :=
  (mulFr_v w s1 s2 s3 s4 N1 D1 N2 D2 h k).mono fun _ _ => retF_of hX hY

theorem sameFr_yes {w : World} {v1 v2 v3 v4 : Value} {X Y Z U : Nat} (h1 : Nm w v1 X) (h2 : Nm w v2 Y) (h3 : Nm w v3 Z) (h4 : Nm w v4 U) (e1 : X = Z) (e2 : Y = U) :
    Calls Try.prog 36 #[.agg #[v1, v2], .agg #[v3, v4]] w fun e w' => e = .returned (.bool true) ∧ Below w.heap.size w w' := by
  subst e1 e2
  obtain ⟨⟨A1, n1, c1, rfl, a1⟩, l1⟩ := h1
  obtain ⟨⟨A2, n2, c2, rfl, a2⟩, l2⟩ := h2
  obtain ⟨⟨A3, n3, c3, rfl, a3⟩, l3⟩ := h3
  obtain ⟨⟨A4, n4, c4, rfl, a4⟩, l4⟩ := h4
  have H := sameFraction_any A1 A2 A3 A4 n1 c1 n2 c2 n3 c3 n4 c4 _ _ _ _ w a1.rd a2.rd a3.rd a4.rd
  rw [sB_yes rfl, sB_yes rfl] at H
  exact H
theorem sameFr_not {w : World} {v1 v2 v3 v4 : Value} {X Y Z U : Nat} (h1 : Nm w v1 X) (h2 : Nm w v2 Y) (h3 : Nm w v3 Z) (h4 : Nm w v4 U) (e : ¬ (X = Z ∧ Y = U)) :
    Calls Try.prog 36 #[.agg #[v1, v2], .agg #[v3, v4]] w fun e w' => e = .returned (.bool false) ∧ Below w.heap.size w w' := by
  obtain ⟨⟨A1, n1, c1, rfl, a1⟩, l1⟩ := h1
  obtain ⟨⟨A2, n2, c2, rfl, a2⟩, l2⟩ := h2
  obtain ⟨⟨A3, n3, c3, rfl, a3⟩, l3⟩ := h3
  obtain ⟨⟨A4, n4, c4, rfl, a4⟩, l4⟩ := h4
  have H := sameFraction_any A1 A2 A3 A4 n1 c1 n2 c2 n3 c3 n4 c4 _ _ _ _ w a1.rd a2.rd a3.rd a4.rd
  rw [sB_nm, sB_nm, show (decide (X = Z) && decide (Y = U)) = false by
    by_cases k : X = Z
    · have : ¬ Y = U := fun k2 => e ⟨k, k2⟩
      simp [this]
    · simp [k]] at H
  exact H

/-- A variable of two cells in a world, and that it is there. -/
def VarAt (w : World) (B : Nat) (u v : Value) : Prop := Var2 w B u v ∧ B < w.heap.size
theorem VarAt.keep {w w' : World} {B : Nat} {u v : Value} (h : VarAt w B u v) (hb : Below w.heap.size w w') : VarAt w' B u v := ⟨h.1.keep hb h.2, Nat.lt_of_lt_of_le h.2 hb.size⟩
theorem varAt_new (w : World) (u v : Value) : VarAt (w.alloc (.cells #[u, v] 38)) w.heap.size u v := ⟨var2_new _ _ _ _, by simp⟩
end Go.Proofs.Ythplhlcdlnedfaa
