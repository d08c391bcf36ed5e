/-
  Fractions, part C: Ratio, SameFraction.
-/
import Derived.Test.YthplhlcdlnedfaaFraB
namespace Go.Proofs.Ythplhlcdlnedfaa
open Go.RowKit MN

/-- What Ratio returns for two valid numbers. -/
def ratC (a b : Nat) : Int := if b = 0 then 10 else redC a b
def ratN (a b : Nat) : Nat := if b = 0 then 0 else redN a b
def ratD (a b : Nat) : Nat := if b = 0 then 0 else redD a b

set_option maxRecDepth 100000 in
set_option maxHeartbeats 2000000 in
theorem ratio_any (A1 : Option Addr) (n1 c1 : Nat) (xs : List Nat) (A2 : Option Addr) (n2 c2 : Nat) (ys : List Nat) (w : World) (h : Arg w A1 n1 c1 xs) (k : Arg w A2 n2 c2 ys) :
    Calls Try.prog 31 #[.slice A1 n1 c1, .slice A2 n2 c2] w (FrRes w (okC xs ys (ratC (nv xs) (nv ys))) (okN xs ys (ratN (nv xs) (nv ys))) (okN xs ys (ratD (nv xs) (nv ys)))) := by
  obtain ⟨w0, hw0⟩ : ∃ w0, w0 = w.alloc (.cells #[.slice none 0 0, .slice none 0 0] 38) := ⟨_, rfl⟩
  have hb0 := below_alloc w (.cells #[.slice none 0 0, .slice none 0 0] 38)
  have hs0 : w0.heap.size = w.heap.size + 1 := by rw [hw0]; simp
  have hv0 := var2_new w (.slice none 0 0) (.slice none 0 0) 38
  rw [← hw0] at hb0 hv0
  have HW := Lib.hid hw0
  clear hw0
  have h0 := h.keep hb0
  have k0 := k.keep hb0
  have H' := check2_call h0 k0
  rw [hs0] at H'
  have H := Lib.hid H'
  clear H'
  obtain ⟨w1, hw1⟩ : ∃ w1, w1 = w0.alloc (.cells #[.slice A1 n1 c1, .slice A2 n2 c2] 23) := ⟨_, rfl⟩
  have hb1 := below_alloc w0 (.cells #[.slice A1 n1 c1, .slice A2 n2 c2] 23)
  rw [← hw1] at hb1
  rw [← hw1] at H
  have HW1 := Lib.hid hw1
  clear hw1
  have hs1 := hb1.size
  have hv1 := hv0.keep hb1 (by omega)
  have hbw := hb0.trans (hb1.mono (by omega))
  have F0 := Lib.hid (Pair.shut (w := w) (Own.nil w0.heap.size w1) (Own.nil w0.heap.size w1) (by omega) hbw)
  have V0 := Lib.hid (hv1.stored (.slice none 0 0) (.slice none 0 0))
  by_cases hv : Vd xs ∧ Vd ys
  · have hck : (ck2 xs ys != 0) = false := by rw [ck2_yes hv.1 hv.2]; rfl
    have hn1 := h.len hv.1
    have hn2 := k.len hv.2
    have hlen := k.rd.len
    rw [okC_yes hv.1 hv.2, okN_yes hv.1 hv.2, okN_yes hv.1 hv.2]
    by_cases hz : nv ys = 0
    · have RC : Hid (ratC (nv xs) (nv ys) = 10) := Lib.hid (if_pos hz)
      have RN : Hid (ratN (nv xs) (nv ys) = 0) := Lib.hid (if_pos hz)
      have RD : Hid (ratD (nv xs) (nv ys) = 0) := Lib.hid (if_pos hz)
      have hn0 : n2 = 0 := by rw [← hlen, vd_zero hv.2 hz]; rfl
      subst hn0
      obtain ⟨c0, c1', f0, f1⟩ := hv1
      obtain ⟨wf, hwf⟩ : ∃ wf, wf = (w1.setCell ⟨w.heap.size, 0, none⟩ (.slice none 0 0)).setCell ⟨w.heap.size, 1, none⟩ (.slice none 0 0) := ⟨_, rfl⟩
      rw [← hwf] at F0 V0
      have HF := Lib.hid hwf
      clear hwf h k h0 k0 hv hz hlen hn2 hv0
      go_enter Try.func31, Try.ntmps31
      go_wp2_with fail
      rw [← HW.out, ← HW1.out]
      refine H.out.mono ?_
      rintro e w' ⟨rfl, rfl⟩
      go_wp2
      rw [← HF.out]
      obtain ⟨q0, q1, _, _⟩ := V0.out
      refine bodyPost_ret (by simp [results, Try.results31, q0, q1, go_sem]; rfl) rfl ?_
      exact ⟨_, _, by rw [RC.out], by rw [RN.out, RD.out]; exact F0.out⟩
    · have RC : Hid (ratC (nv xs) (nv ys) = redC (nv xs) (nv ys)) := Lib.hid (if_neg hz)
      have RN : Hid (ratN (nv xs) (nv ys) = redN (nv xs) (nv ys)) := Lib.hid (if_neg hz)
      have RD : Hid (ratD (nv xs) (nv ys) = redD (nv xs) (nv ys)) := Lib.hid (if_neg hz)
      have hb0' : ((n2 : Int) == 0) = false := by
        rw [beq_eq_false_iff_ne]
        intro e
        have : n2 = 0 := by omega
        subst this
        rw [List.eq_nil_of_length_eq_zero hlen] at hz
        exact hz rfl
      have R := Lib.hid (reduce_any A1 n1 c1 xs A2 n2 c2 ys w1 (h0.keep hb1) (k0.keep hb1) (by omega) (by omega) hz)
      clear h k h0 k0 hv hz hlen hn2 F0 V0
      go_enter Try.func31, Try.ntmps31
      go_wp2_with fail
      rw [← HW.out, ← HW1.out]
      refine H.out.mono ?_
      rintro e w' ⟨rfl, rfl⟩
      go_wp2_with fail
      refine R.out.mono ?_
      rintro e w2 ⟨v1, v2, rfl, P1, P2, hb2⟩
      obtain ⟨A3, m3, c3, rfl, P1⟩ := P1
      obtain ⟨A4, m4, c4, rfl, P2⟩ := P2
      have hB := hb1.trans (hb2.mono hs1)
      have hv2 := hv0.keep hB (by omega)
      have F1 := Pair.shut (w := w) (B := w0.heap.size) (w2 := w2) (⟨A3, m3, c3, rfl, own_low P1 hs1⟩ : Own w0.heap.size w2 (.slice A3 m3 c3) _) (⟨A4, m4, c4, rfl, own_low P2 hs1⟩ : Own w0.heap.size w2 (.slice A4 m4 c4) _) (by omega) (hb0.trans (hB.mono (by omega)))
      have V1 := hv2.stored (.slice A3 m3 c3) (.slice A4 m4 c4)
      obtain ⟨c0, c1', f0, f1⟩ := hv2
      obtain ⟨wf, hwf⟩ : ∃ wf, wf = (w2.setCell ⟨w.heap.size, 0, none⟩ (.slice A3 m3 c3)).setCell ⟨w.heap.size, 1, none⟩ (.slice A4 m4 c4) := ⟨_, rfl⟩
      rw [← hwf] at F1 V1
      have HF := Lib.hid hwf
      have HV := Lib.hid V1
      have HP := Lib.hid F1
      clear hwf V1 F1 hv0 hv1 P1 P2
      go_wp2
      rw [← HF.out]
      obtain ⟨q0, q1, _, _⟩ := HV.out
      refine bodyPost_ret (by simp [results, Try.results31, q0, q1, go_sem]; rfl) rfl ?_
      exact ⟨_, _, by rw [RC.out], by rw [RN.out, RD.out]; exact HP.out⟩
  · have hck : (ck2 xs ys != 0) = true := by rw [ck2_no hv]; rfl
    have h3 := Lib.hid (ck2_no hv)
    rw [okC_no hv, okN_no hv, okN_no hv]
    obtain ⟨c0, c1', f0, f1⟩ := hv1
    obtain ⟨wf, hwf⟩ : ∃ wf, wf = (w1.setCell ⟨w.heap.size, 0, none⟩ (.slice none 0 0)).setCell ⟨w.heap.size, 1, none⟩ (.slice none 0 0) := ⟨_, rfl⟩
    rw [← hwf] at F0 V0
    have HF := Lib.hid hwf
    clear hwf h k h0 k0 hv hv0
    go_enter Try.func31, Try.ntmps31
    go_wp2_with fail
    rw [← HW.out, ← HW1.out]
    refine H.out.mono ?_
    rintro e w' ⟨rfl, rfl⟩
    go_wp2
    rw [← HF.out]
    obtain ⟨q0, q1, _, _⟩ := V0.out
    refine bodyPost_ret (by simp [results, Try.results31, q0, q1, go_sem]; rfl) rfl ?_
    exact ⟨_, _, by rw [h3.out], F0.out⟩

/-- SameFraction. -/
theorem sameFraction_any (A1 A2 A3 A4 : Option Addr) (n1 c1 n2 c2 n3 c3 n4 c4 : Nat) (xs ys zs us : List Nat) (w : World) (h1 : Rd .u32 w A1 n1 c1 xs) (h2 : Rd .u32 w A2 n2 c2 ys) (h3 : Rd .u32 w A3 n3 c3 zs) (h4 : Rd .u32 w A4 n4 c4 us) :
    Calls Try.prog 36 #[.agg #[.slice A1 n1 c1, .slice A2 n2 c2], .agg #[.slice A3 n3 c3, .slice A4 n4 c4]] w fun e w' => e = .returned (.bool (sB xs zs && sB ys us)) ∧ Below w.heap.size w w' := by
  obtain ⟨w1, hw1⟩ : ∃ w1, w1 = (w.alloc (.cells #[.slice A1 n1 c1, .slice A2 n2 c2] 38)).alloc (.cells #[.slice A3 n3 c3, .slice A4 n4 c4] 38) := ⟨_, rfl⟩
  have hb1 : Below w.heap.size w w1 := by rw [hw1]; exact ((Below.refl _ _).alloc (Nat.le_refl _) _).alloc (by simp) _
  have hv2 : Var2 w1 (w.heap.size + 1) (.slice A3 n3 c3) (.slice A4 n4 c4) := by
    rw [hw1]
    have := var2_new (w.alloc (.cells #[.slice A1 n1 c1, .slice A2 n2 c2] 38)) (.slice A3 n3 c3) (.slice A4 n4 c4) 38
    simpa using this
  have hv1 : Var2 w1 w.heap.size (.slice A1 n1 c1) (.slice A2 n2 c2) := by
    rw [hw1]
    exact (var2_new w (.slice A1 n1 c1) (.slice A2 n2 c2) 38).keep (below_alloc _ _) (by simp)
  have HW := Lib.hid hw1
  clear hw1
  obtain ⟨a0, a1, _, _⟩ := hv1
  obtain ⟨b0, b1, _, _⟩ := hv2
  have S1 := Lib.hid (same_any A1 A3 n1 c1 n3 c3 xs zs w1 (h1.keep hb1) (h3.keep hb1))
  have R2 := Lib.hid (h2.keep hb1)
  have R4 := Lib.hid (h4.keep hb1)
  clear h1 h2 h3 h4
  go_enter Try.func36, Try.ntmps36
  go_wp2_with fail
  rw [← HW.out]
  refine S1.out.mono ?_
  rintro e w2 ⟨rfl, hd⟩
  have a1' := (hd.cell ⟨w.heap.size, 1, none⟩).trans a1
  have b1' := (hd.cell ⟨w.heap.size + 1, 1, none⟩).trans b1
  have hbd := hd.below
  have hb2 := hb1.trans (hbd.mono hb1.size)
  have S2 := Lib.hid (same_any A2 A4 n2 c2 n4 c4 ys us w2 (R2.out.keep hbd) (R4.out.keep hbd))
  clear R2 R4 S1 a0 a1 b0 b1 HW
  cases hs : sB xs zs
  · go_wp2
    go_ret
    exact ⟨by rw [hs]; rfl, hb2⟩
  · go_wp2_with fail
    refine S2.out.mono ?_
    rintro e w3 ⟨rfl, hd3⟩
    have hb3 := hb2.trans (hd3.below.mono hb2.size)
    go_wp2
    go_ret
    exact ⟨by rw [hs]; rfl, hb3⟩
end Go.Proofs.Ythplhlcdlnedfaa
