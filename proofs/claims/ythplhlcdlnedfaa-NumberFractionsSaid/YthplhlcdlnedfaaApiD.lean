/-
  The functions that the document lists, part D: Compare, Add, Sub, Mul, Div, Gcd.
-/
import Derived.Test.YthplhlcdlnedfaaApiC
namespace Go.Proofs.Ythplhlcdlnedfaa
open Go.RowKit MN

/-- The number of digits to the base 2^32. -/
abbrev nv (xs : List Nat) : Nat := val 4294967296 xs

/-- Errors and numbers: of two valid numbers what is said, otherwise 8 and 0. -/
def okC (xs ys : List Nat) (c : Int) : Int := if Vd xs ∧ Vd ys then c else 8
def okN (xs ys : List Nat) (N : Nat) : Nat := if Vd xs ∧ Vd ys then N else 0
def okI (xs ys : List Nat) (N : Int) : Int := if Vd xs ∧ Vd ys then N else 0
theorem okC_yes {xs ys : List Nat} (h : Vd xs) (k : Vd ys) (c : Int) : okC xs ys c = c := if_pos ⟨h, k⟩
theorem okN_yes {xs ys : List Nat} (h : Vd xs) (k : Vd ys) (c : Nat) : okN xs ys c = c := if_pos ⟨h, k⟩
theorem okI_yes {xs ys : List Nat} (h : Vd xs) (k : Vd ys) (c : Int) : okI xs ys c = c := if_pos ⟨h, k⟩
theorem okC_no {xs ys : List Nat} (h : ¬ (Vd xs ∧ Vd ys)) (c : Int) : okC xs ys c = 8 := if_neg h
theorem okN_no {xs ys : List Nat} (h : ¬ (Vd xs ∧ Vd ys)) (c : Nat) : okN xs ys c = 0 := if_neg h
theorem okI_no {xs ys : List Nat} (h : ¬ (Vd xs ∧ Vd ys)) (c : Int) : okI xs ys c = 0 := if_neg h
theorem ck2_no {xs ys : List Nat} (h : ¬ (Vd xs ∧ Vd ys)) : ck2 xs ys = 8 := if_neg h

theorem Arg.len {w : World} {A : Option Addr} {n c : Nat} {xs : List Nat} (h : Arg w A n c xs) (k : Vd xs) : n ≤ 16 := by rw [← h.rd.len]; exact k.1

set_option maxRecDepth 100000 in
set_option maxHeartbeats 1000000 in
theorem compare_any (A1 : Option Addr) (n1 c1 : Nat) (xs : List Nat) (A2 : Option Addr) (n2 c2 : Nat) (ys : List Nat) (w : World) (h : Arg w A1 n1 c1 xs) (k : Arg w A2 n2 c2 ys) :
    Calls Try.prog 42 #[.slice A1 n1 c1, .slice A2 n2 c2] w fun e w' => e = .returned (.tuple #[.int .i64 (okI xs ys (ordv (nv xs) (nv ys))), .int .i64 (okC xs ys 0)]) ∧ Below w.heap.size w w' := by
  have H := Lib.hid (check2_call h k)
  by_cases hv : Vd xs ∧ Vd ys
  · have hck : (ck2 xs ys != 0) = false := by rw [ck2_yes hv.1 hv.2]; rfl
    have h1 := Lib.hid (okI_yes hv.1 hv.2 (ordv (nv xs) (nv ys)))
    have h2 := Lib.hid (okC_yes hv.1 hv.2 0)
    have ho := Lib.hid (order_any A1 A2 n1 c1 n2 c2 xs ys (w.alloc (.cells #[.slice A1 n1 c1, .slice A2 n2 c2] 23)) (h.keep (below_alloc _ _)).rd (k.keep (below_alloc _ _)).rd h.low k.low hv.1.2 hv.2.2)
    clear h k hv
    go_enter Try.func42, Try.ntmps42
    go_wp2_with (first
      | (go_at_call 68; refine H.out.mono ?_; rintro e w' ⟨rfl, rfl⟩)
      | (go_at_call 69; refine ho.out.mono ?_; rintro e w' ⟨rfl, hd⟩))
    go_ret2
    exact ⟨by rw [h1.out, h2.out]; rfl, (below_alloc _ _).trans (hd.below.mono (by simp))⟩
  · have hck : (ck2 xs ys != 0) = true := by rw [ck2_no hv]; rfl
    have h1 := Lib.hid (okI_no hv (ordv (nv xs) (nv ys)))
    have h2 := Lib.hid (okC_no hv 0)
    have h3 := Lib.hid (ck2_no hv)
    clear h k hv
    go_enter Try.func42, Try.ntmps42
    go_wp2_with (go_at_call 68; refine H.out.mono ?_; rintro e w' ⟨rfl, rfl⟩)
    go_ret2
    exact ⟨by rw [h1.out, h2.out, h3.out]; rfl, below_alloc _ _⟩

set_option maxRecDepth 100000 in
set_option maxHeartbeats 1000000 in
theorem add_any (A1 : Option Addr) (n1 c1 : Nat) (xs : List Nat) (A2 : Option Addr) (n2 c2 : Nat) (ys : List Nat) (w : World) (h : Arg w A1 n1 c1 xs) (k : Arg w A2 n2 c2 ys) :
    Calls Try.prog 21 #[.slice A1 n1 c1, .slice A2 n2 c2] w (Res w (okC xs ys (fitC (nv xs + nv ys))) (okN xs ys (fitN (nv xs + nv ys)))) := by
  have H := Lib.hid (check2_call h k)
  by_cases hv : Vd xs ∧ Vd ys
  · have hck : (ck2 xs ys != 0) = false := by rw [ck2_yes hv.1 hv.2]; rfl
    have hn1 := h.len hv.1
    have hn2 := k.len hv.2
    have ho := Lib.hid (sum_any A1 A2 n1 c1 n2 c2 xs ys (w.alloc (.cells #[.slice A1 n1 c1, .slice A2 n2 c2] 23)) (h.keep (below_alloc _ _)).rd (k.keep (below_alloc _ _)).rd h.low k.low (by omega) (by omega))
    rw [okC_yes hv.1 hv.2, okN_yes hv.1 hv.2]
    clear h k hv
    go_enter Try.func21, Try.ntmps21
    go_wp2_with fail
    refine H.out.mono ?_
    rintro e w' ⟨rfl, rfl⟩
    go_wp2_with fail
    refine ho.out.mono ?_
    rintro e w2 ⟨A, m, c, rfl, hown, hb⟩
    have hb0 := below_alloc w (.cells #[.slice A1 n1 c1, .slice A2 n2 c2] 23)
    have hb2 := hb0.trans (hb.mono hb0.size)
    have hown2 := own_low hown hb0.size
    go_wp2_with fail
    refine (fit_any A m c _ w w2 hb2 hown2).mono ?_
    rintro e w3 ⟨A', m', c', rfl, hown3, hb3⟩
    go_wp2
    go_ret2
    exact ⟨A', m', c', rfl, hown3, hb3⟩
  · have hck : (ck2 xs ys != 0) = true := by rw [ck2_no hv]; rfl
    have h3 := Lib.hid (ck2_no hv)
    rw [okC_no hv, okN_no hv]
    clear h k hv
    go_enter Try.func21, Try.ntmps21
    go_wp2_with (go_at_call 68; refine H.out.mono ?_; rintro e w' ⟨rfl, rfl⟩)
    go_ret2
    refine ⟨none, 0, 0, by rw [h3.out]; rfl, World.ownsRow_nil _ _ _ _, below_alloc _ _⟩

set_option maxRecDepth 100000 in
set_option maxHeartbeats 1000000 in
theorem mul_any (A1 : Option Addr) (n1 c1 : Nat) (xs : List Nat) (A2 : Option Addr) (n2 c2 : Nat) (ys : List Nat) (w : World) (h : Arg w A1 n1 c1 xs) (k : Arg w A2 n2 c2 ys) :
    Calls Try.prog 23 #[.slice A1 n1 c1, .slice A2 n2 c2] w (Res w (okC xs ys (fitC (nv xs * nv ys))) (okN xs ys (fitN (nv xs * nv ys)))) := by
  have H := Lib.hid (check2_call h k)
  by_cases hv : Vd xs ∧ Vd ys
  · have hck : (ck2 xs ys != 0) = false := by rw [ck2_yes hv.1 hv.2]; rfl
    have hn1 := h.len hv.1
    have hn2 := k.len hv.2
    have ho := Lib.hid (product_any A1 A2 n1 c1 n2 c2 xs ys (w.alloc (.cells #[.slice A1 n1 c1, .slice A2 n2 c2] 23)) (h.keep (below_alloc _ _)).rd (k.keep (below_alloc _ _)).rd h.low k.low (by omega) (by omega))
    rw [okC_yes hv.1 hv.2, okN_yes hv.1 hv.2]
    clear h k hv
    go_enter Try.func23, Try.ntmps23
    go_wp2_with fail
    refine H.out.mono ?_
    rintro e w' ⟨rfl, rfl⟩
    go_wp2_with fail
    refine ho.out.mono ?_
    rintro e w2 ⟨A, m, c, rfl, hown, hb⟩
    have hb0 := below_alloc w (.cells #[.slice A1 n1 c1, .slice A2 n2 c2] 23)
    have hb2 := hb0.trans (hb.mono hb0.size)
    have hown2 := own_low hown hb0.size
    go_wp2_with fail
    refine (fit_any A m c _ w w2 hb2 hown2).mono ?_
    rintro e w3 ⟨A', m', c', rfl, hown3, hb3⟩
    go_wp2
    go_ret2
    exact ⟨A', m', c', rfl, hown3, hb3⟩
  · have hck : (ck2 xs ys != 0) = true := by rw [ck2_no hv]; rfl
    have h3 := Lib.hid (ck2_no hv)
    rw [okC_no hv, okN_no hv]
    clear h k hv
    go_enter Try.func23, Try.ntmps23
    go_wp2_with (go_at_call 68; refine H.out.mono ?_; rintro e w' ⟨rfl, rfl⟩)
    go_ret2
    refine ⟨none, 0, 0, by rw [h3.out]; rfl, World.ownsRow_nil _ _ _ _, below_alloc _ _⟩

end Go.Proofs.Ythplhlcdlnedfaa
