/-
  The functions that the document lists, part E: Sub, Div, Gcd.
-/
import Derived.Test.YthplhlcdlnedfaaApiD
namespace Go.Proofs.Ythplhlcdlnedfaa
open Go.RowKit MN

def subC (a b : Nat) : Int := if a < b then 11 else 0
def divC (b : Nat) : Int := if b = 0 then 10 else 0

theorem len_of_le {xs ys : List Nat} (hx : Low 4294967296 xs) (hy : Vd ys) (h : nv ys ≤ nv xs) : ys.length ≤ xs.length := by
  rcases Nat.lt_or_ge xs.length ys.length with h1 | h1
  · have := val_short (B := 4294967296) (by omega) xs ys hx hy.2 h1
    exact absurd this (by unfold nv at h; omega)
  · exact h1

theorem ordv_ge {a b : Nat} (h : b ≤ a) : 0 ≤ ordv a b := by unfold ordv; split <;> (try split) <;> omega

set_option maxRecDepth 100000 in
set_option maxHeartbeats 1000000 in
theorem sub_any (A1 : Option Addr) (n1 c1 : Nat) (xs : List Nat) (A2 : Option Addr) (n2 c2 : Nat) (ys : List Nat) (w : World) (h : Arg w A1 n1 c1 xs) (k : Arg w A2 n2 c2 ys) :
    Calls Try.prog 19 #[.slice A1 n1 c1, .slice A2 n2 c2] w (Res w (okC xs ys (subC (nv xs) (nv ys))) (okN xs ys (nv xs - nv ys))) := by
  have H := Lib.hid (check2_call h k)
  by_cases hv : Vd xs ∧ Vd ys
  · have hck : (ck2 xs ys != 0) = false := by rw [ck2_yes hv.1 hv.2]; rfl
    have hn1 := h.len hv.1
    have hn2 := k.len hv.2
    have ho := Lib.hid (order_any A1 A2 n1 c1 n2 c2 xs ys (w.alloc (.cells #[.slice A1 n1 c1, .slice A2 n2 c2] 23)) (h.keep (below_alloc _ _)).rd (k.keep (below_alloc _ _)).rd h.low k.low hv.1.2 hv.2.2)
    rw [okC_yes hv.1 hv.2, okN_yes hv.1 hv.2]
    have hb0 := below_alloc w (.cells #[.slice A1 n1 c1, .slice A2 n2 c2] 23)
    by_cases hlt : nv xs < nv ys
    · have hs : Hid (subC (nv xs) (nv ys) = 11) := Lib.hid (if_pos hlt)
      have hz : Hid (nv xs - nv ys = 0) := Lib.hid (by omega)
      have hord : ordv (val 4294967296 xs) (val 4294967296 ys) = -1 := ordv_lt hlt
      rw [hs.out, hz.out]
      clear h k hv hlt
      go_enter Try.func19, Try.ntmps19
      go_wp2_with (first
        | (go_at_call 68; refine H.out.mono ?_; rintro e w' ⟨rfl, rfl⟩)
        | (go_at_call 69; refine ho.out.mono ?_; rintro e w' ⟨rfl, hd⟩))
      go_ret2
      exact res_nil (hb0.trans (hd.below.mono hb0.size))
    · have hs : Hid (subC (nv xs) (nv ys) = 0) := Lib.hid (if_neg hlt)
      have hle : nv ys ≤ nv xs := by omega
      have hlen : n2 ≤ n1 := by
        have := len_of_le h.low hv.2 hle
        rwa [h.rd.len, k.rd.len] at this
      have hdf := Lib.hid (fun w' hd => difference_any A1 A2 n1 c1 n2 c2 xs ys w' ((h.keep (below_alloc w (.cells #[.slice A1 n1 c1, .slice A2 n2 c2] 23))).keep hd).rd ((k.keep (below_alloc w (.cells #[.slice A1 n1 c1, .slice A2 n2 c2] 23))).keep hd).rd h.low k.low (by omega) hlen hle)
      have hord : 0 ≤ ordv (val 4294967296 xs) (val 4294967296 ys) := ordv_ge hle
      rw [hs.out]
      clear h k hv hlt hle hlen
      go_enter Try.func19, Try.ntmps19
      go_wp2_with fail
      refine H.out.mono ?_
      rintro e w' ⟨rfl, rfl⟩
      go_wp2_with fail
      refine ho.out.mono ?_
      rintro e w2 ⟨rfl, hd⟩
      go_wp2_with fail
      refine (hdf.out w2 hd.below).mono ?_
      rintro e w3 ⟨A, m, c, rfl, hown, hb⟩
      have hb2 := hb0.trans (hd.below.mono hb0.size)
      go_wp2
      go_ret2
      exact ⟨A, m, c, rfl, own_low hown hb2.size, hb2.trans (hb.mono hb2.size)⟩
  · have hck : (ck2 xs ys != 0) = true := by rw [ck2_no hv]; rfl
    have h3 := Lib.hid (ck2_no hv)
    rw [okC_no hv, okN_no hv]
    clear h k hv
    go_enter Try.func19, Try.ntmps19
    go_wp2_with (go_at_call 68; refine H.out.mono ?_; rintro e w' ⟨rfl, rfl⟩)
    go_ret2
    refine ⟨none, 0, 0, by rw [h3.out]; rfl, World.ownsRow_nil _ _ _ _, below_alloc _ _⟩

set_option maxRecDepth 100000 in
set_option maxHeartbeats 1000000 in
theorem gcd_any (A1 : Option Addr) (n1 c1 : Nat) (xs : List Nat) (A2 : Option Addr) (n2 c2 : Nat) (ys : List Nat) (w : World) (h : Arg w A1 n1 c1 xs) (k : Arg w A2 n2 c2 ys) :
    Calls Try.prog 29 #[.slice A1 n1 c1, .slice A2 n2 c2] w (Res w (okC xs ys 0) (okN xs ys (Nat.gcd (nv xs) (nv ys)))) := by
  have H := Lib.hid (check2_call h k)
  by_cases hv : Vd xs ∧ Vd ys
  · have hck : (ck2 xs ys != 0) = false := by rw [ck2_yes hv.1 hv.2]; rfl
    have hn1 := h.len hv.1
    have hn2 := k.len hv.2
    have ho := Lib.hid (common_any A1 A2 n1 c1 n2 c2 xs ys (w.alloc (.cells #[.slice A1 n1 c1, .slice A2 n2 c2] 23)) (h.keep (below_alloc _ _)) (k.keep (below_alloc _ _)) (by omega) (by omega))
    rw [okC_yes hv.1 hv.2, okN_yes hv.1 hv.2]
    clear h k hv
    go_enter Try.func29, Try.ntmps29
    go_wp2_with fail
    refine H.out.mono ?_
    rintro e w' ⟨rfl, rfl⟩
    go_wp2_with fail
    refine ho.out.mono ?_
    rintro e w2 ⟨A, m, c, rfl, hown, hb⟩
    have hb0 := below_alloc w (.cells #[.slice A1 n1 c1, .slice A2 n2 c2] 23)
    have hb2 := hb0.trans (hb.mono hb0.size)
    go_wp2
    go_ret2
    exact ⟨A, m, c, rfl, own_low hown hb0.size, hb2⟩
  · have hck : (ck2 xs ys != 0) = true := by rw [ck2_no hv]; rfl
    have h3 := Lib.hid (ck2_no hv)
    rw [okC_no hv, okN_no hv]
    clear h k hv
    go_enter Try.func29, Try.ntmps29
    go_wp2_with (go_at_call 68; refine H.out.mono ?_; rintro e w' ⟨rfl, rfl⟩)
    go_ret2
    refine ⟨none, 0, 0, by rw [h3.out]; rfl, World.ownsRow_nil _ _ _ _, below_alloc _ _⟩

/-- Two numbers and an error are returned. -/
def Res2 (w : World) (code : Int) (N M : Nat) (e : Ending) (w' : World) : Prop :=
  ∃ A m c A' m' c', e = .returned (.tuple #[.slice A m c, .slice A' m' c', .int .i64 code]) ∧ w'.ownsRow w.heap.size 24 1 (.slice A m c) m (vs32 (digs 4294967296 N)) ∧
    w'.ownsRow w.heap.size 24 1 (.slice A' m' c') m' (vs32 (digs 4294967296 M)) ∧ Below w.heap.size w w'

theorem vd_zero {ys : List Nat} (h : Vd ys) (k : nv ys = 0) : ys = [] := by
  rcases Classical.em (ys = []) with e | e
  · exact e
  · have := val_pos_of_top (B := 4294967296) (by omega) ys h.2 e
    unfold nv at k; omega

set_option maxRecDepth 100000 in
set_option maxHeartbeats 1000000 in
theorem div_any (A1 : Option Addr) (n1 c1 : Nat) (xs : List Nat) (A2 : Option Addr) (n2 c2 : Nat) (ys : List Nat) (w : World) (h : Arg w A1 n1 c1 xs) (k : Arg w A2 n2 c2 ys) :
    Calls Try.prog 28 #[.slice A1 n1 c1, .slice A2 n2 c2] w (Res2 w (okC xs ys (divC (nv ys))) (okN xs ys (if nv ys = 0 then 0 else nv xs / nv ys)) (okN xs ys (if nv ys = 0 then 0 else nv xs % nv ys))) := by
  have H := Lib.hid (check2_call h k)
  by_cases hv : Vd xs ∧ Vd ys
  · have hck : (ck2 xs ys != 0) = false := by rw [ck2_yes hv.1 hv.2]; rfl
    have hn1 := h.len hv.1
    have hn2 := k.len hv.2
    have hlen := k.rd.len
    rw [okC_yes hv.1 hv.2, okN_yes hv.1 hv.2, okN_yes hv.1 hv.2]
    have hb0 := below_alloc w (.cells #[.slice A1 n1 c1, .slice A2 n2 c2] 23)
    by_cases hz : nv ys = 0
    · have hs : Hid (divC (nv ys) = 10) := Lib.hid (if_pos hz)
      have hnil := vd_zero hv.2 hz
      have hn0 : n2 = 0 := by rw [← hlen, hnil]; rfl
      subst hn0
      rw [if_pos hz, if_pos hz, hs.out]
      clear h k hv hz hlen hnil hn2
      go_enter Try.func28, Try.ntmps28
      go_wp2_with (go_at_call 68; refine H.out.mono ?_; rintro e w' ⟨rfl, rfl⟩)
      go_ret3
      exact ⟨none, 0, 0, none, 0, 0, rfl, World.ownsRow_nil _ _ _ _, World.ownsRow_nil _ _ _ _, hb0⟩
    · have hs : Hid (divC (nv ys) = 0) := Lib.hid (if_neg hz)
      have hpos : 0 < n2 := by
        rcases Nat.eq_zero_or_pos n2 with h0 | h0
        · exfalso
          subst h0
          rw [List.eq_nil_of_length_eq_zero hlen] at hz
          exact hz rfl
        · exact h0
      obtain ⟨m2, rfl⟩ : ∃ x, n2 = x + 1 := ⟨n2 - 1, by omega⟩
      have htop : dg ys m2 ≠ 0 := by
        rcases hv.2.2 with e | e
        · rw [e] at hlen; simp at hlen
        · rwa [hlen] at e
      rw [if_neg hz, if_neg hz, hs.out]
      have ho := Lib.hid (divide_any A1 A2 n1 c1 m2 c2 xs ys (w.alloc (.cells #[.slice A1 n1 c1, .slice A2 (m2 + 1) c2] 23)) (h.keep (below_alloc _ _)).rd (k.keep (below_alloc _ _)).rd h.low k.low htop (by omega) (by omega))
      have hb1 : ((m2 : Int) + 1 == 0) = false := by rw [beq_eq_false_iff_ne]; omega
      clear h k hv hz hlen htop hn2
      go_enter Try.func28, Try.ntmps28
      go_wp2_with fail
      refine H.out.mono ?_
      rintro e w' ⟨rfl, rfl⟩
      go_wp2_with fail
      refine ho.out.mono ?_
      rintro e w2 ⟨A, m, c, A', m', c', rfl, hown, hown', hb⟩
      have hb2 := hb0.trans (hb.mono hb0.size)
      go_wp2
      go_ret3
      exact ⟨A, m, c, A', m', c', rfl, own_low hown hb0.size, own_low hown' hb0.size, hb2⟩
  · have hck : (ck2 xs ys != 0) = true := by rw [ck2_no hv]; rfl
    have h3 := Lib.hid (ck2_no hv)
    rw [okC_no hv, okN_no hv, okN_no hv]
    clear h k hv
    go_enter Try.func28, Try.ntmps28
    go_wp2_with (go_at_call 68; refine H.out.mono ?_; rintro e w' ⟨rfl, rfl⟩)
    go_ret3
    refine ⟨none, 0, 0, none, 0, 0, by rw [h3.out]; rfl, World.ownsRow_nil _ _ _ _, World.ownsRow_nil _ _ _ _, below_alloc _ _⟩

end Go.Proofs.Ythplhlcdlnedfaa
