/-
  Texts joined into one: FrS, FrT, FrU, FrV, FrW, FrX, FrY, OpF.
-/
import Derived.Test.YthplhlcdlnedfaaRefS
import Derived.Lib.SmallJoins

/-
  The specification's fractions, part A: Lowest, Ratio, ValidFraction, CheckFraction.
-/
namespace Go.Proofs.Ythplhlcdlnedfaa
open Go.RowKit MN

set_option maxRecDepth 100000 in
set_option maxHeartbeats 1000000 in
theorem lowest_any (A1 : Option Addr) (n1 c1 : Nat) (A2 : Option Addr) (n2 c2 X Y : Nat) (w : World) (h : Arg w A1 n1 c1 (digs 4294967296 X)) (k : Arg w A2 n2 c2 (digs 4294967296 Y)) (hn1 : n1 ≤ 900) (hn2 : n2 ≤ 900) (hY : Y ≠ 0) :
    Calls Try.prog 97 #[.slice A1 n1 c1, .slice A2 n2 c2] w fun e w' => ∃ B1 m1 k1 B2 m2 k2, e = .returned (.agg #[.slice B1 m1 k1, .slice B2 m2 k2]) ∧ Pair w w' (.slice B1 m1 k1) (.slice B2 m2 k2) (X / Nat.gcd X Y) (Y / Nat.gcd X Y) := by
  obtain ⟨w0, hw0⟩ : ∃ w0, w0 = w.alloc (.cells #[.slice none 0 0, .slice none 0 0] 38) := ⟨_, rfl⟩
  have hb0 := below_alloc w (.cells #[.slice none 0 0, .slice none 0 0] 38)
  have hs0 : w0.heap.size = w.heap.size + 1 := by rw [hw0]; simp
  have hv0 := var2_new w (.slice none 0 0) (.slice none 0 0) 38
  rw [← hw0] at hb0 hv0
  have HW := Lib.hid hw0
  clear hw0
  have h0 := h.keep hb0
  have k0 := k.keep hb0
  have hgp : 0 < Nat.gcd X Y := Nat.gcd_pos_of_pos_right _ (Nat.pos_of_ne_zero hY)
  have hgl : Nat.gcd X Y ≤ Y := Nat.gcd_le_right _ (Nat.pos_of_ne_zero hY)
  have hYl : Y < 4294967296 ^ n2 := by
    have := val_lt (digs 4294967296 Y) k.low
    rwa [digs_val _ _ (by omega), k.rd.len] at this
  have HC := commonRef_any A1 A2 n1 c1 n2 c2 _ _ w0 h0 k0 (digs_top _ _ (by omega)) hn1 hn2
  rw [digs_val _ _ (by omega), digs_val _ _ (by omega)] at HC
  obtain ⟨G, hG⟩ : ∃ G, G = Nat.gcd X Y := ⟨_, rfl⟩
  rw [← hG] at hgp hgl HC ⊢
  have HC := Lib.hid HC
  have HGL := Lib.hid (Nat.lt_of_le_of_lt hgl hYl)
  clear hG hYl hgl h k
  go_enter Try.func97, Try.ntmps97
  go_wp2_with fail
  rw [← HW.out]
  refine HC.out.mono ?_
  rintro e w1 ⟨Ag, mg, cg, rfl, og, hb1⟩
  obtain ⟨ag, lg⟩ := own_num og
  have hmg : 0 < mg := by rw [← lg]; exact List.length_pos_iff.2 (digs_pos (by omega) hgp)
  have hmg2 : mg ≤ 900 := by have := digs_len (B := 4294967296) (by omega) _ _ HGL.out; omega
  have hq1 := partedRef_any A1 Ag n1 c1 mg cg _ _ w1 (h0.keep hb1) ag (digs_top _ _ (by omega)) (by omega) (by omega) hmg
  rw [digs_val _ _ (by omega), digs_val _ _ (by omega)] at hq1
  have HQ1 := Lib.hid hq1
  clear hq1 lg
  go_wp2_with fail
  refine HQ1.out.mono ?_
  rintro e w2 ⟨B1, m1, k1, R1, r1, f1, rfl, o1, -, hb2⟩
  have hb02 := hb1.trans (hb2.mono hb1.size)
  have hq2 := partedRef_any A2 Ag n2 c2 mg cg _ _ w2 (k0.keep hb02) (ag.keep hb2) (digs_top _ _ (by omega)) (by omega) (by omega) hmg
  rw [digs_val _ _ (by omega), digs_val _ _ (by omega)] at hq2
  have HQ2 := Lib.hid hq2
  clear hq2 ag og
  go_wp2_with fail
  refine HQ2.out.mono ?_
  rintro e w3 ⟨B2, m2, k2, R2, r2, f2, rfl, o2, -, hb3⟩
  have hb03 := hb02.trans (hb3.mono hb02.size)
  have P1 : Own w0.heap.size w3 (.slice B1 m1 k1) (X / G) := ⟨_, _, _, rfl, own_low (own_keep o1 hb3) hb1.size⟩
  have P2 : Own w0.heap.size w3 (.slice B2 m2 k2) (Y / G) := ⟨_, _, _, rfl, own_low o2 hb02.size⟩
  have F1 := Pair.shut (w := w) P1 P2 (by omega) (hb0.trans (hb03.mono (by omega)))
  have hv3 := hv0.keep hb03 (by omega)
  have V1 := hv3.stored (.slice B1 m1 k1) (.slice B2 m2 k2)
  obtain ⟨x0, x1, f0, f1'⟩ := hv3
  obtain ⟨wf, hwf⟩ : ∃ wf, wf = (w3.setCell ⟨w.heap.size, 0, none⟩ (.slice B1 m1 k1)).setCell ⟨w.heap.size, 1, none⟩ (.slice B2 m2 k2) := ⟨_, rfl⟩
  rw [← hwf] at F1 V1
  have HF := Lib.hid hwf
  have HV := Lib.hid V1
  have HP := Lib.hid F1
  clear hwf V1 F1 P1 P2 o1 o2 hv0 h0 k0
  go_wp2
  rw [← HF.out]
  obtain ⟨q0, q1, _, _⟩ := HV.out
  refine bodyPost_ret (by simp [results, Try.results97, q0, q1, go_sem]; rfl) rfl ?_
  exact ⟨_, _, _, _, _, _, rfl, HP.out⟩
end Go.Proofs.Ythplhlcdlnedfaa

/-
  The specification's fractions, part B: bounded, Ratio, ValidFraction, CheckFraction.
-/
namespace Go.Proofs.Ythplhlcdlnedfaa
open Go.RowKit MN

def bdC (N D : Nat) : Int := if Big N ∨ Big D then 4 else 0
def bdN (N D M : Nat) : Nat := if Big N ∨ Big D then 0 else M
theorem bd_yes {N D : Nat} (h : Big N ∨ Big D) (M : Nat) : bdC N D = 4 ∧ bdN N D M = 0 := ⟨if_pos h, if_pos h⟩
theorem bd_no {N D : Nat} (h : ¬ (Big N ∨ Big D)) (M : Nat) : bdC N D = 0 ∧ bdN N D M = M := ⟨if_neg h, if_neg h⟩

set_option maxRecDepth 100000 in
set_option maxHeartbeats 1000000 in
theorem bounded_any (w : World) (B : Nat) (A1 A2 : Option Addr) (n1 c1 n2 c2 N D : Nat) (h1 : Own B w (.slice A1 n1 c1) N) (h2 : Own B w (.slice A2 n2 c2) D) :
    Calls Try.prog 99 #[.agg #[.slice A1 n1 c1, .slice A2 n2 c2]] w fun e w' => ∃ B1 m1 k1 B2 m2 k2, e = .returned (.tuple #[.agg #[.slice B1 m1 k1, .slice B2 m2 k2], .int .i64 (bdC N D)]) ∧
      Own B w' (.slice B1 m1 k1) (bdN N D N) ∧ Own B w' (.slice B2 m2 k2) (bdN N D D) ∧ Below w.heap.size w w' := by
  obtain ⟨A1', n1', c1', e1, o1⟩ := h1
  injection e1 with e11 e12 e13
  subst e11 e12 e13
  obtain ⟨A2', n2', c2', e2, o2⟩ := h2
  injection e2 with e21 e22 e23
  subst e21 e22 e23
  have l1 := (own_num o1).2
  have l2 := (own_num o2).2
  have hcap1 := (Rd.of_own o1).cap
  have hle1 := (Rd.of_own o1).le
  have hcap2 := (Rd.of_own o2).cap
  have hle2 := (Rd.of_own o2).le
  unfold maxLen at hcap1 hcap2
  obtain ⟨w1, hw1⟩ : ∃ w1, w1 = w.alloc (.cells #[.slice A1 n1 c1, .slice A2 n2 c2] 38) := ⟨_, rfl⟩
  have hb1 := below_alloc w (.cells #[.slice A1 n1 c1, .slice A2 n2 c2] 38)
  have hs1 : w1.heap.size = w.heap.size + 1 := by rw [hw1]; simp
  have hv1 := var2_new w (.slice A1 n1 c1) (.slice A2 n2 c2) 38
  rw [← hw1] at hb1 hv1
  obtain ⟨w2, hw2⟩ : ∃ w2, w2 = w1.alloc (.cells #[.slice none 0 0, .slice none 0 0] 38) := ⟨_, rfl⟩
  have hb2 := below_alloc w1 (.cells #[.slice none 0 0, .slice none 0 0] 38)
  have hs2 : w2.heap.size = w.heap.size + 2 := by rw [hw2]; simp [hs1]
  have hv2 := var2_new w1 (.slice none 0 0) (.slice none 0 0) 38
  rw [← hw2] at hb2 hv2
  rw [hs1] at hv2
  have hv1' := hv1.keep hb2 (by omega)
  have HW1 := Lib.hid hw1
  have HW2 := Lib.hid hw2
  have hbw := hb1.trans (hb2.mono (by omega))
  obtain ⟨x0, x1, _, _⟩ := hv1'
  have P1 := Lib.hid (⟨_, _, _, rfl, o1⟩ : Own B w (.slice A1 n1 c1) N)
  have P2 := Lib.hid (⟨_, _, _, rfl, o2⟩ : Own B w (.slice A2 n2 c2) D)
  have fin : ∀ (u1 u2 : Value), ∃ wf, wf = w1.alloc (.cells #[u1, u2] 38) ∧ (wf.cell? ⟨w.heap.size + 1, 0, none⟩ = some u1 ∧ wf.cell? ⟨w.heap.size + 1, 1, none⟩ = some u2) ∧ Below w.heap.size w wf := fun u1 u2 => by
    have V := var2_new w1 u1 u2 38
    rw [hs1] at V
    exact ⟨_, rfl, ⟨V.c0, V.c1⟩, hb1.trans ((below_alloc w1 _).mono (by omega))⟩
  obtain ⟨y0, y1, f0, f1⟩ := hv2
  clear hw1 hw2 hv1
  by_cases hN : Big N
  · have E1 := Lib.hid (bd_yes (N := N) (D := D) (.inl hN) N)
    have E2 := Lib.hid (bd_yes (N := N) (D := D) (.inl hN) D)
    have hn : 16 < n1 := by rw [← l1]; exact hN
    have hn' : decide ((16 : Int) < (n1 : Int)) = true := decide_eq_true (by omega)
    obtain ⟨wf, hwf, hq, hbf⟩ := fin (.slice none 0 0) (.slice none 0 0)
    have HF := Lib.hid hwf
    have HQ := Lib.hid hq
    clear fin l1 l2 hN o1 o2 hwf hq
    go_enter Try.func99, Try.ntmps99
    go_wp2
    rw [← HW1.out, ← HF.out]
    obtain ⟨q0, q1⟩ := HQ.out
    refine bodyPost_ret (by simp [results, Try.results99, q0, q1, go_sem]; rfl) rfl ?_
    rw [E1.out.1, E1.out.2, E2.out.2]
    exact ⟨_, _, _, _, _, _, rfl, Own.nil _ _, Own.nil _ _, hbf⟩
  by_cases hD : Big D
  · have E1 := Lib.hid (bd_yes (N := N) (D := D) (.inr hD) N)
    have E2 := Lib.hid (bd_yes (N := N) (D := D) (.inr hD) D)
    have hn : 16 < n2 := by rw [← l2]; exact hD
    have hn' : decide ((16 : Int) < (n2 : Int)) = true := decide_eq_true (by omega)
    have hm : n1 ≤ 16 := by rw [← l1]; exact Nat.le_of_not_lt hN
    have hm' : decide ((16 : Int) < (n1 : Int)) = false := decide_eq_false (by omega)
    obtain ⟨wf, hwf, hq, hbf⟩ := fin (.slice none 0 0) (.slice none 0 0)
    have HF := Lib.hid hwf
    have HQ := Lib.hid hq
    clear fin l1 l2 hN hD o1 o2 hwf hq
    go_enter Try.func99, Try.ntmps99
    go_wp2
    rw [← HW1.out, ← HF.out]
    obtain ⟨q0, q1⟩ := HQ.out
    refine bodyPost_ret (by simp [results, Try.results99, q0, q1, go_sem]; rfl) rfl ?_
    rw [E1.out.1, E1.out.2, E2.out.2]
    exact ⟨_, _, _, _, _, _, rfl, Own.nil _ _, Own.nil _ _, hbf⟩
  · have E1 := Lib.hid (bd_no (N := N) (D := D) (fun h => h.elim hN hD) N)
    have E2 := Lib.hid (bd_no (N := N) (D := D) (fun h => h.elim hN hD) D)
    have hm : n1 ≤ 16 := by rw [← l1]; exact Nat.le_of_not_lt hN
    have hm' : decide ((16 : Int) < (n1 : Int)) = false := decide_eq_false (by omega)
    have hn : n2 ≤ 16 := by rw [← l2]; exact Nat.le_of_not_lt hD
    have hn' : decide ((16 : Int) < (n2 : Int)) = false := decide_eq_false (by omega)
    obtain ⟨wf, hwf, hq, hbf⟩ := fin (.slice A1 n1 c1) (.slice A2 n2 c2)
    have HF := Lib.hid hwf
    have HQ := Lib.hid hq
    clear fin l1 l2 hN hD o1 o2 hwf hq
    go_enter Try.func99, Try.ntmps99
    go_wp2
    rw [← HW1.out, ← HF.out]
    obtain ⟨q0, q1⟩ := HQ.out
    refine bodyPost_ret (by simp [results, Try.results99, q0, q1, go_sem]; rfl) rfl ?_
    rw [E1.out.1, E1.out.2, E2.out.2]
    exact ⟨_, _, _, _, _, _, rfl, Own.keep P1.out hbf, Own.keep P2.out hbf, hbf⟩

/-- A valid fraction, as a Boolean. -/
def frB (xs ys : List Nat) : Bool := decide (FrOk xs ys)
theorem frB_yes {xs ys : List Nat} (h : FrOk xs ys) : frB xs ys = true := decide_eq_true h
theorem frB_no {xs ys : List Nat} (h : ¬ FrOk xs ys) : frB xs ys = false := decide_eq_false h

set_option maxRecDepth 100000 in
set_option maxHeartbeats 1000000 in
theorem validFr_any (A1 : Option Addr) (n1 c1 : Nat) (xs : List Nat) (A2 : Option Addr) (n2 c2 : Nat) (ys : List Nat) (w : World) (h : Arg w A1 n1 c1 xs) (k : Arg w A2 n2 c2 ys) :
    Calls Try.prog 98 #[.agg #[.slice A1 n1 c1, .slice A2 n2 c2]] w fun e w' => e = .returned (.bool (frB xs ys)) ∧ Below w.heap.size w w' := by
  obtain ⟨w1, hw1⟩ : ∃ w1, w1 = w.alloc (.cells #[.slice A1 n1 c1, .slice A2 n2 c2] 38) := ⟨_, rfl⟩
  have hb1 := below_alloc w (.cells #[.slice A1 n1 c1, .slice A2 n2 c2] 38)
  have hs1 : w1.heap.size = w.heap.size + 1 := by rw [hw1]; simp
  have hv1 := var2_new w (.slice A1 n1 c1) (.slice A2 n2 c2) 38
  rw [← hw1] at hb1 hv1
  obtain ⟨x0, x1, _, _⟩ := hv1
  have HW := Lib.hid hw1
  have H1 := h.keep hb1
  have K1 := k.keep hb1
  clear hw1
  cases hx : vB xs
  · have H := Lib.hid (valid_v H1 _ hx)
    have RC := Lib.hid (frB_no (xs := xs) (ys := ys) (fun f => vB_no hx f.1.1))
    clear h k H1 K1 hx
    go_enter Try.func98, Try.ntmps98
    go_wp2_with fail
    rw [← HW.out]
    refine H.out.mono ?_
    rintro e w' ⟨rfl, rfl⟩
    go_wp2
    go_ret
    exact ⟨by rw [RC.out]; rfl, hb1⟩
  cases hy : vB ys
  · have H := Lib.hid (valid_v H1 _ hx)
    have H2 := Lib.hid (valid_v K1 _ hy)
    have RC := Lib.hid (frB_no (xs := xs) (ys := ys) (fun f => vB_no hy f.1.2))
    clear h k H1 K1 hx hy
    go_enter Try.func98, Try.ntmps98
    go_wp2_with fail
    rw [← HW.out]
    refine H.out.mono ?_
    rintro e w' ⟨rfl, rfl⟩
    go_wp2_with fail
    refine H2.out.mono ?_
    rintro e w' ⟨rfl, rfl⟩
    go_wp2
    go_ret
    exact ⟨by rw [RC.out]; rfl, hb1⟩
  have vx := vB_yes hx
  have vy := vB_yes hy
  have hn1 := h.len vx
  have hn2 := k.len vy
  have hlz := len_zero k vy
  have H := Lib.hid (valid_v H1 _ hx)
  have H2 := Lib.hid (valid_v K1 _ hy)
  by_cases hz : n2 = 0
  · have RC := Lib.hid (frB_no (xs := xs) (ys := ys) (fun f => f.2.2 (hlz.1 hz)))
    subst hz
    clear h k H1 K1 hx hy hlz hn2
    go_enter Try.func98, Try.ntmps98
    go_wp2_with fail
    rw [← HW.out]
    refine H.out.mono ?_
    rintro e w' ⟨rfl, rfl⟩
    go_wp2_with fail
    refine H2.out.mono ?_
    rintro e w' ⟨rfl, rfl⟩
    go_wp2
    go_ret
    exact ⟨by rw [RC.out]; rfl, hb1⟩
  have hpos : 0 < n2 := by omega
  have hd : decide ((0 : Int) < (n2 : Int)) = true := decide_eq_true (by omega)
  have hy0 : nv ys ≠ 0 := fun e => hz (hlz.2 e)
  have HC := commonRef_any A1 A2 n1 c1 n2 c2 xs ys w1 H1 K1 vy.2 (by omega) (by omega)
  obtain ⟨G, hG⟩ : ∃ G, G = Nat.gcd (nv xs) (nv ys) := ⟨_, rfl⟩
  rw [show Nat.gcd (val 4294967296 xs) (val 4294967296 ys) = G from hG.symm] at HC
  have HC := Lib.hid HC
  have RC : Hid (frB xs ys = decide (G = 1)) := Lib.hid (by
    by_cases g : G = 1
    · rw [frB_yes ⟨⟨vx, vy⟩, by rw [← hG]; exact g, hy0⟩]; simp [g]
    · rw [frB_no (fun f => g (by rw [hG]; exact f.2.1))]; simp [g])
  clear h k H1 K1 hx hy hlz hy0 hG vx vy hz
  go_enter Try.func98, Try.ntmps98
  go_wp2_with fail
  rw [← HW.out]
  refine H.out.mono ?_
  rintro e w' ⟨rfl, rfl⟩
  go_wp2_with fail
  refine H2.out.mono ?_
  rintro e w' ⟨rfl, rfl⟩
  go_wp2_with fail
  refine HC.out.mono ?_
  rintro e w2 ⟨A3, m3, c3, rfl, o3, hb2⟩
  go_wp2_with fail
  refine (ofRef_any 1 w2 (by omega)).mono ?_
  rintro e w3 ⟨A4, m4, c4, rfl, o4, hb3⟩
  have o3' := own_keep o3 hb3
  have HS := same_any A3 A4 m3 c3 m4 c4 _ _ w3 (Rd.of_own o3') (Rd.of_own o4)
  rw [sB_nm] at HS
  have HS := Lib.hid HS
  clear o3 o4 o3'
  have hbb := hb1.trans ((hb2.trans (hb3.mono hb2.size)).mono (by omega))
  go_wp2_with fail
  refine HS.out.mono ?_
  rintro e w4 ⟨rfl, hdr⟩
  go_wp2
  go_ret
  exact ⟨by rw [RC.out]; rfl, hbb.trans (hdr.below.mono hbb.size)⟩

theorem rCheckFr_any (A1 : Option Addr) (n1 c1 : Nat) (xs : List Nat) (A2 : Option Addr) (n2 c2 : Nat) (ys : List Nat) (w : World) (h : Arg w A1 n1 c1 xs) (k : Arg w A2 n2 c2 ys) :
    Calls Try.prog 58 #[.agg #[.slice A1 n1 c1, .slice A2 n2 c2]] w fun e w' => e = .returned (.int .i64 (frC xs ys)) ∧ Below w.heap.size w w' := by
  obtain ⟨w1, hw1⟩ : ∃ w1, w1 = w.alloc (.cells #[.slice A1 n1 c1, .slice A2 n2 c2] 38) := ⟨_, rfl⟩
  have hb1 := below_alloc w (.cells #[.slice A1 n1 c1, .slice A2 n2 c2] 38)
  have hv1 := var2_new w (.slice A1 n1 c1) (.slice A2 n2 c2) 38
  rw [← hw1] at hb1 hv1
  obtain ⟨x0, x1, _, _⟩ := hv1
  have HW := Lib.hid hw1
  have HV := validFr_any A1 n1 c1 xs A2 n2 c2 ys w1 (h.keep hb1) (k.keep hb1)
  clear hw1 h k
  by_cases f : FrOk xs ys
  · rw [frB_yes f] at HV
    have HV := Lib.hid HV
    have RC : Hid (frC xs ys = 0) := Lib.hid (if_pos f)
    clear f
    go_enter Try.func58, Try.ntmps58
    go_wp2_with fail
    rw [← HW.out]
    refine HV.out.mono ?_
    rintro e w2 ⟨rfl, hb2⟩
    go_wp2
    go_ret
    exact ⟨by rw [RC.out]; rfl, hb1.trans (hb2.mono hb1.size)⟩
  · rw [frB_no f] at HV
    have HV := Lib.hid HV
    have RC : Hid (frC xs ys = 8) := Lib.hid (if_neg f)
    clear f
    go_enter Try.func58, Try.ntmps58
    go_wp2_with fail
    rw [← HW.out]
    refine HV.out.mono ?_
    rintro e w2 ⟨rfl, hb2⟩
    go_wp2
    go_ret
    exact ⟨by rw [RC.out]; rfl, hb1.trans (hb2.mono hb1.size)⟩
end Go.Proofs.Ythplhlcdlnedfaa

/-
  The specification's fractions, part C: Ratio. The program's operations of fractions that are not valid.
-/
namespace Go.Proofs.Ythplhlcdlnedfaa
open Go.RowKit MN

theorem red_small {X Y : Nat} (hX : X < 4294967296 ^ 16) (hY : Y < 4294967296 ^ 16) : redC X Y = 0 ∧ redN X Y = X / Nat.gcd X Y ∧ redD X Y = Y / Nat.gcd X Y := by
  have hr : ¬ redBig X Y := fun e => e.elim (fun e => sm_big (Nat.lt_of_le_of_lt (Nat.div_le_self _ _) hX) e) (fun e => sm_big (Nat.lt_of_le_of_lt (Nat.div_le_self _ _) hY) e)
  exact ⟨if_neg hr, if_neg hr, if_neg hr⟩

set_option maxRecDepth 100000 in
set_option maxHeartbeats 1000000 in
theorem rRatio_any (A1 : Option Addr) (n1 c1 : Nat) (xs : List Nat) (A2 : Option Addr) (n2 c2 : Nat) (ys : List Nat) (w : World) (h : Arg w A1 n1 c1 xs) (k : Arg w A2 n2 c2 ys) :
    Calls Try.prog 56 #[.slice A1 n1 c1, .slice A2 n2 c2] w (FrRes w (okC xs ys (ratC (nv xs) (nv ys))) (okN xs ys (ratN (nv xs) (nv ys))) (okN xs ys (ratD (nv xs) (nv ys)))) := by
  obtain ⟨w0, hw0⟩ : ∃ w0, w0 = w.alloc (.cells #[.slice none 0 0, .slice none 0 0] 38) := ⟨_, rfl⟩
  have hb0 := below_alloc w (.cells #[.slice none 0 0, .slice none 0 0] 38)
  have hs0 : w0.heap.size = w.heap.size + 1 := by rw [hw0]; simp
  have hv0 := var2_new w (.slice none 0 0) (.slice none 0 0) 38
  rw [← hw0] at hb0 hv0
  have HW := Lib.hid hw0
  clear hw0
  have h0 := h.keep hb0
  have k0 := k.keep hb0
  have G0 := Pair.shut (w := w) (Own.nil w0.heap.size w0) (Own.nil w0.heap.size w0) (by omega) hb0
  have U0 := hv0.stored (.slice none 0 0) (.slice none 0 0)
  obtain ⟨wb, hwb⟩ : ∃ wb, wb = (w0.setCell ⟨w.heap.size, 0, none⟩ (.slice none 0 0)).setCell ⟨w.heap.size, 1, none⟩ (.slice none 0 0) := ⟨_, rfl⟩
  rw [← hwb] at G0 U0
  have HFB := Lib.hid hwb
  have F0 := Lib.hid (⟨U0.c0, U0.c1⟩ : wb.cell? ⟨w.heap.size, 0, none⟩ = some (.slice none 0 0) ∧ wb.cell? ⟨w.heap.size, 1, none⟩ = some (.slice none 0 0))
  have bad : ∀ code : Int, FrRes w code 0 0 (.returned (.tuple #[.agg #[.slice none 0 0, .slice none 0 0], .int .i64 code])) wb := fun code => ⟨_, _, rfl, G0⟩
  have HBAD := Lib.hid bad
  clear bad G0 U0 hwb
  cases hx : vB xs
  · have H := Lib.hid (valid_v h0 _ hx)
    have hv : ¬ (Vd xs ∧ Vd ys) := not_left hx
    rw [okC_no hv, okN_no hv, okN_no hv]
    obtain ⟨c0, c1', f0, f1⟩ := hv0
    clear h k h0 k0 hx hv
    go_enter Try.func56, Try.ntmps56
    go_wp2_with fail
    rw [← HW.out]
    refine H.out.mono ?_
    rintro e w' ⟨rfl, rfl⟩
    go_wp2
    rw [← HFB.out]
    obtain ⟨q0, q1⟩ := F0.out
    exact bodyPost_ret (by simp [results, Try.results56, q0, q1, go_sem]) rfl (HBAD.out _)
  cases hy : vB ys
  · have H := Lib.hid (valid_v h0 _ hx)
    have H2 := Lib.hid (valid_v k0 _ hy)
    have hv : ¬ (Vd xs ∧ Vd ys) := not_right hy
    rw [okC_no hv, okN_no hv, okN_no hv]
    obtain ⟨c0, c1', f0, f1⟩ := hv0
    clear h k h0 k0 hx hy hv
    go_enter Try.func56, Try.ntmps56
    go_wp2_with fail
    rw [← HW.out]
    refine H.out.mono ?_
    rintro e w' ⟨rfl, rfl⟩
    go_wp2_with fail
    refine H2.out.mono ?_
    rintro e w' ⟨rfl, rfl⟩
    go_wp2
    rw [← HFB.out]
    obtain ⟨q0, q1⟩ := F0.out
    exact bodyPost_ret (by simp [results, Try.results56, q0, q1, go_sem]) rfl (HBAD.out _)
  have vx := vB_yes hx
  have vy := vB_yes hy
  have hn1 := h.len vx
  have hn2 := k.len vy
  have hlz := len_zero k vy
  have H := Lib.hid (valid_v h0 _ hx)
  have H2 := Lib.hid (valid_v k0 _ hy)
  rw [okC_yes vx vy, okN_yes vx vy, okN_yes vx vy]
  by_cases hz : n2 = 0
  · have hy0 := hlz.1 hz
    have RC : Hid (ratC (nv xs) (nv ys) = 10) := Lib.hid (if_pos hy0)
    have RN : Hid (ratN (nv xs) (nv ys) = 0) := Lib.hid (if_pos hy0)
    have RD : Hid (ratD (nv xs) (nv ys) = 0) := Lib.hid (if_pos hy0)
    rw [RC.out, RN.out, RD.out]
    subst hz
    obtain ⟨c0, c1', f0, f1⟩ := hv0
    clear h k h0 k0 hx hy hlz hn2 hy0
    go_enter Try.func56, Try.ntmps56
    go_wp2_with fail
    rw [← HW.out]
    refine H.out.mono ?_
    rintro e w' ⟨rfl, rfl⟩
    go_wp2_with fail
    refine H2.out.mono ?_
    rintro e w' ⟨rfl, rfl⟩
    go_wp2
    rw [← HFB.out]
    obtain ⟨q0, q1⟩ := F0.out
    exact bodyPost_ret (by simp [results, Try.results56, q0, q1, go_sem]) rfl (HBAD.out _)
  have hy0 : nv ys ≠ 0 := fun e => hz (hlz.2 e)
  obtain ⟨q1, q2, q3⟩ := red_small (vd_lt vx h.low) (vd_lt vy k.low)
  have RC : Hid (ratC (nv xs) (nv ys) = 0) := Lib.hid (by rw [ratC, if_neg hy0, q1])
  have RN : Hid (ratN (nv xs) (nv ys) = nv xs / Nat.gcd (nv xs) (nv ys)) := Lib.hid (by rw [ratN, if_neg hy0, q2])
  have RD : Hid (ratD (nv xs) (nv ys) = nv ys / Nat.gcd (nv xs) (nv ys)) := Lib.hid (by rw [ratD, if_neg hy0, q3])
  rw [RC.out, RN.out, RD.out]
  have h0' := h0
  have k0' := k0
  rw [← vd_digs vx h.low] at h0'
  rw [← vd_digs vy k.low] at k0'
  have HL := Lib.hid (lowest_any A1 n1 c1 A2 n2 c2 _ _ w0 h0' k0' (by omega) (by omega) hy0)
  have hb1 : ((n2 : Int) == 0) = false := by rw [beq_eq_false_iff_ne]; omega
  clear h k h0 k0 h0' k0' hx hy hlz hy0 hz q1 q2 q3
  go_enter Try.func56, Try.ntmps56
  go_wp2_with fail
  rw [← HW.out]
  refine H.out.mono ?_
  rintro e w' ⟨rfl, rfl⟩
  go_wp2_with fail
  refine H2.out.mono ?_
  rintro e w' ⟨rfl, rfl⟩
  go_wp2_with fail
  refine HL.out.mono ?_
  rintro e w2 ⟨B1, m1, k1, B2, m2, k2, rfl, P⟩
  have hv2 := hv0.keep P.below (by omega)
  have F1 := Pair.shut (w := w) P.one P.two (by omega) (hb0.trans (P.below.mono (by omega)))
  have V1 := hv2.stored (.slice B1 m1 k1) (.slice B2 m2 k2)
  obtain ⟨c0, c1', f0, f1⟩ := hv2
  obtain ⟨wf, hwf⟩ : ∃ wf, wf = (w2.setCell ⟨w.heap.size, 0, none⟩ (.slice B1 m1 k1)).setCell ⟨w.heap.size, 1, none⟩ (.slice B2 m2 k2) := ⟨_, rfl⟩
  rw [← hwf] at F1 V1
  have HF := Lib.hid hwf
  have HV := Lib.hid V1
  have HP := Lib.hid F1
  clear hwf V1 F1 hv0 P
  go_wp2
  rw [← HF.out]
  obtain ⟨q0, q1, _, _⟩ := HV.out
  refine bodyPost_ret (by simp [results, Try.results56, q0, q1, go_sem]; rfl) rfl ?_
  exact ⟨_, _, rfl, HP.out⟩

/-- The two cells of what operate is given. -/
theorem operate_bad (F : Nat) (w : World) (A1 A2 A3 A4 : Option Addr) (n1 n2 n3 n4 c1 c2 c3 c4 : Nat) (xs ys zs us : List Nat) (h1 : Arg w A1 n1 c1 xs) (h2 : Arg w A2 n2 c2 ys) (h3 : Arg w A3 n3 c3 zs) (h4 : Arg w A4 n4 c4 us)
    (f : ¬ (FrOk xs ys ∧ FrOk zs us)) (p : Value) :
    Calls Try.prog 81 #[.agg #[.slice A1 n1 c1, .slice A2 n2 c2, .slice A3 n3 c3, .slice A4 n4 c4], .func (Fn.func F) #[] #[p]] w fun e w' => e = .returned (.int .i64 8) ∧ Below w.heap.size w w' := by
  obtain ⟨wl, hwl⟩ : ∃ wl, wl = (w.alloc (.cells #[.slice A1 n1 c1, .slice A2 n2 c2, .slice A3 n3 c3, .slice A4 n4 c4] 105)).alloc (.cells #[.slice A1 n1 c1, .slice A2 n2 c2, .slice A3 n3 c3, .slice A4 n4 c4] 38) := ⟨_, rfl⟩
  have hbl : Below w.heap.size w wl := by rw [hwl]; exact ((Below.refl _ _).alloc (Nat.le_refl _) _).alloc (by simp) _
  have hsl : wl.heap.size = w.heap.size + 2 := by rw [hwl]; simp
  have e0 : ∀ i v, #[Value.slice A1 n1 c1, .slice A2 n2 c2, .slice A3 n3 c3, .slice A4 n4 c4][i]? = some v → wl.cell? ⟨w.heap.size, i, none⟩ = some v ∧ wl.cell? ⟨w.heap.size + 1, i, none⟩ = some v := fun i v hv => by
    constructor
    · rw [hwl]
      refine ((below_alloc _ _).cell (p := ⟨w.heap.size, i, none⟩) (by simp)).trans ?_
      rw [World.cell?_alloc_at (hn := by simp)]; exact hv
    · rw [hwl, World.cell?_alloc_at (hn := by simp)]; exact hv
  have HK : Hid (∀ wx, Below wl.heap.size wl wx → ∀ i v, #[Value.slice A1 n1 c1, .slice A2 n2 c2, .slice A3 n3 c3, .slice A4 n4 c4][i]? = some v → wx.cell? ⟨w.heap.size, i, none⟩ = some v ∧ wx.cell? ⟨w.heap.size + 1, i, none⟩ = some v) :=
    Lib.hid (fun wx hx i v hv => ⟨(hx.cell (p := ⟨w.heap.size, i, none⟩) (by show w.heap.size < _; omega)).trans (e0 i v hv).1, (hx.cell (p := ⟨w.heap.size + 1, i, none⟩) (by show w.heap.size + 1 < _; omega)).trans (e0 i v hv).2⟩)
  have C1 : ∀ wx, Below wl.heap.size wl wx → Calls Try.prog 57 #[.agg #[.slice A1 n1 c1, .slice A2 n2 c2]] wx fun e w' => e = .returned (.int .i64 (frC xs ys)) ∧ Below wl.heap.size wl w' :=
    fun wx hx => (checkFraction_any A1 n1 c1 xs A2 n2 c2 ys wx ((h1.keep hbl).keep hx) ((h2.keep hbl).keep hx)).mono fun e w' ⟨he, hb⟩ => ⟨he, hx.trans (hb.mono hx.size)⟩
  have C2 : ∀ wx, Below wl.heap.size wl wx → Calls Try.prog 57 #[.agg #[.slice A3 n3 c3, .slice A4 n4 c4]] wx fun e w' => e = .returned (.int .i64 (frC zs us)) ∧ Below wl.heap.size wl w' :=
    fun wx hx => (checkFraction_any A3 n3 c3 zs A4 n4 c4 us wx ((h3.keep hbl).keep hx) ((h4.keep hbl).keep hx)).mono fun e w' ⟨he, hb⟩ => ⟨he, hx.trans (hb.mono hx.size)⟩
  have HW := Lib.hid hwl
  obtain ⟨x0, y0⟩ := e0 0 _ rfl
  obtain ⟨x1, y1⟩ := e0 1 _ rfl
  by_cases f1 : FrOk xs ys
  · have f2 : ¬ FrOk zs us := fun e => f ⟨f1, e⟩
    rw [show frC xs ys = 0 from if_pos f1] at C1
    rw [show frC zs us = 8 from if_neg f2] at C2
    have C1 := Lib.hid C1
    have C2 := Lib.hid C2
    clear hwl h1 h2 h3 h4 e0 f f1 f2
    go_enter Try.func81, Try.ntmps81
    go_wp2
    rw [← HW.out]
    refine wp_loop_rounds 3 ?_
    rw [rounds_succ]
    go_wp2_with fail
    refine (C1.out _ (below_alloc wl _)).mono ?_
    rintro e w2 ⟨rfl, hx2⟩
    obtain ⟨_, z2⟩ := HK.out _ hx2 2 _ rfl
    obtain ⟨_, z3⟩ := HK.out _ hx2 3 _ rfl
    clear x0 y0 x1 y1
    go_wp2
    rw [rounds_succ]
    go_wp2_with fail
    refine (C2.out _ (Below.alloc hx2 hx2.size _)).mono ?_
    rintro e w3 ⟨rfl, hx3⟩
    have hfin := hbl.trans (hx3.mono (by omega))
    go_wp2
    go_ret
    exact ⟨rfl, hfin⟩
  · rw [show frC xs ys = 8 from if_neg f1] at C1
    have C1 := Lib.hid C1
    clear hwl h1 h2 h3 h4 e0 f f1 C2
    go_enter Try.func81, Try.ntmps81
    go_wp2
    rw [← HW.out]
    refine wp_loop_rounds 3 ?_
    rw [rounds_succ]
    go_wp2_with fail
    refine (C1.out _ (below_alloc wl _)).mono ?_
    rintro e w2 ⟨rfl, hx2⟩
    have hfin := hbl.trans (hx2.mono (by omega))
    go_wp2
    go_ret
    exact ⟨rfl, hfin⟩
end Go.Proofs.Ythplhlcdlnedfaa

/-
  Sums, products and comparisons of whatever fractions came in.
-/
namespace Go.Proofs.Ythplhlcdlnedfaa
open Go.RowKit MN

def f2C (xs ys zs us : List Nat) (c : Int) : Int := if FrOk xs ys ∧ FrOk zs us then c else 8
def f2I (xs ys zs us : List Nat) (c : Int) : Int := if FrOk xs ys ∧ FrOk zs us then c else 0
def f2N (xs ys zs us : List Nat) (n : Nat) : Nat := if FrOk xs ys ∧ FrOk zs us then n else 0

theorem fr_of {w : World} {A1 A2 : Option Addr} {n1 c1 n2 c2 : Nat} {xs ys : List Nat} (a1 : Arg w A1 n1 c1 xs) (a2 : Arg w A2 n2 c2 ys) (f : FrOk xs ys) : Fr w (.slice A1 n1 c1) (.slice A2 n2 c2) (nv xs) (nv ys) :=
  ⟨a1.nm f.1.1, a2.nm f.1.2, f.2.1, f.2.2⟩

set_option maxRecDepth 100000 in
set_option maxHeartbeats 1000000 in
theorem mul_bad (w : World) (A1 A2 A3 A4 : Option Addr) (n1 n2 n3 n4 c1 c2 c3 c4 : Nat) (xs ys zs us : List Nat) (a1 : Arg w A1 n1 c1 xs) (a2 : Arg w A2 n2 c2 ys) (a3 : Arg w A3 n3 c3 zs) (a4 : Arg w A4 n4 c4 us) (f : ¬ (FrOk xs ys ∧ FrOk zs us)) :
    Calls Try.prog 34 #[.agg #[.slice A1 n1 c1, .slice A2 n2 c2], .agg #[.slice A3 n3 c3, .slice A4 n4 c4]] w (FrRes w 8 0 0) := by
  obtain ⟨w2, hw2⟩ : ∃ w2, w2 = (w.alloc (.cells #[.slice A1 n1 c1, .slice A2 n2 c2] 38)).alloc (.cells #[.slice A3 n3 c3, .slice A4 n4 c4] 38) := ⟨_, rfl⟩
  have hb2 : Below w.heap.size w w2 := by rw [hw2]; exact ((Below.refl _ _).alloc (Nat.le_refl _) _).alloc (by simp) _
  have hs2 : w2.heap.size = w.heap.size + 2 := by rw [hw2]; simp
  obtain ⟨w3, hw3⟩ : ∃ w3, w3 = w2.alloc (.cells #[.slice none 0 0, .slice none 0 0] 38) := ⟨_, rfl⟩
  have hb3 : Below w2.heap.size w2 w3 := by rw [hw3]; exact below_alloc _ _
  have hs3 : w3.heap.size = w.heap.size + 3 := by rw [hw3]; simp [hs2]
  have hv3 : Var2 w3 w2.heap.size (.slice none 0 0) (.slice none 0 0) := by rw [hw3]; exact var2_new _ _ _ _
  obtain ⟨w4, hw4⟩ : ∃ w4, w4 = w3.alloc (.cells #[.slice none 0 0, .slice none 0 0] 38) := ⟨_, rfl⟩
  have hb4 : Below w3.heap.size w3 w4 := by rw [hw4]; exact below_alloc _ _
  have hs4 : w4.heap.size = w.heap.size + 4 := by rw [hw4]; simp [hs3]
  have hv4 : Var2 w4 w3.heap.size (.slice none 0 0) (.slice none 0 0) := by rw [hw4]; exact var2_new _ _ _ _
  have hB : Below w.heap.size w w4 := hb2.trans ((hb3.mono (by omega)).trans (hb4.mono (by omega)))
  have HO := operate_bad 83 w4 A1 A2 A3 A4 n1 n2 n3 n4 c1 c2 c3 c4 _ _ _ _ (a1.keep hB) (a2.keep hB) (a3.keep hB) (a4.keep hB) f (.pointer (some ⟨w3.heap.size, 0, none⟩))
  have hs3' : w3.heap.size = w.heap.size + 1 + 1 + 1 := hs3
  have hs2' : w2.heap.size = w.heap.size + 1 + 1 := hs2
  rw [hs3'] at HO hv4
  rw [hs2'] at hv3
  have hv3' := hv3.keep hb4 (by omega)
  have HH := Lib.hid HO
  have H2 := Lib.hid hw2
  have H3 := Lib.hid hw3
  have H4 := Lib.hid hw4
  clear HO hw2 hw3 hw4 a1 a2 a3 a4 f
  go_enter Try.func34, Try.ntmps34
  go_wp2_with fail
  rw [← H2.out, ← H3.out, ← H4.out]
  refine HH.out.mono ?_
  rintro e w5 ⟨rfl, hb⟩
  have hv := hv4.keep hb (by omega)
  have hv5 := hv3'.keep hb (by omega)
  have hbw : Below w.heap.size w w5 := hB.trans (hb.mono (by omega))
  have P3 := (hbw.setCell (p := ⟨w.heap.size + 1 + 1, 0, none⟩) (by show w.heap.size ≤ w.heap.size + 1 + 1; omega) (.slice none 0 0)).setCell (p := ⟨w.heap.size + 1 + 1, 1, none⟩) (by show w.heap.size ≤ w.heap.size + 1 + 1; omega) (.slice none 0 0)
  have V1 := hv5.stored (.slice none 0 0) (.slice none 0 0)
  obtain ⟨r0, r1, _, _⟩ := hv
  obtain ⟨t0, t1, f0, f1⟩ := hv5
  obtain ⟨wf, hwf⟩ : ∃ wf, wf = (w5.setCell ⟨w.heap.size + 1 + 1, 0, none⟩ (.slice none 0 0)).setCell ⟨w.heap.size + 1 + 1, 1, none⟩ (.slice none 0 0) := ⟨_, rfl⟩
  rw [← hwf] at P3 V1
  have HF := Lib.hid hwf
  have HV := Lib.hid V1
  clear hwf V1
  go_wp2
  rw [← HF.out]
  obtain ⟨q0, q1, _, _⟩ := HV.out
  refine bodyPost_ret (by simp [results, Try.results34, q0, q1, go_sem]; rfl) rfl ?_
  exact ⟨_, _, rfl, Own.nil _ _, Own.nil _ _, P3⟩

set_option maxRecDepth 100000 in
set_option maxHeartbeats 1000000 in
theorem add_bad (w : World) (A1 A2 A3 A4 : Option Addr) (n1 n2 n3 n4 c1 c2 c3 c4 : Nat) (xs ys zs us : List Nat) (a1 : Arg w A1 n1 c1 xs) (a2 : Arg w A2 n2 c2 ys) (a3 : Arg w A3 n3 c3 zs) (a4 : Arg w A4 n4 c4 us) (f : ¬ (FrOk xs ys ∧ FrOk zs us)) :
    Calls Try.prog 32 #[.agg #[.slice A1 n1 c1, .slice A2 n2 c2], .agg #[.slice A3 n3 c3, .slice A4 n4 c4]] w (FrRes w 8 0 0) := by
  obtain ⟨w2, hw2⟩ : ∃ w2, w2 = (w.alloc (.cells #[.slice A1 n1 c1, .slice A2 n2 c2] 38)).alloc (.cells #[.slice A3 n3 c3, .slice A4 n4 c4] 38) := ⟨_, rfl⟩
  have hb2 : Below w.heap.size w w2 := by rw [hw2]; exact ((Below.refl _ _).alloc (Nat.le_refl _) _).alloc (by simp) _
  have hs2 : w2.heap.size = w.heap.size + 2 := by rw [hw2]; simp
  obtain ⟨w3, hw3⟩ : ∃ w3, w3 = w2.alloc (.cells #[.slice none 0 0, .slice none 0 0] 38) := ⟨_, rfl⟩
  have hb3 : Below w2.heap.size w2 w3 := by rw [hw3]; exact below_alloc _ _
  have hs3 : w3.heap.size = w.heap.size + 3 := by rw [hw3]; simp [hs2]
  have hv3 : Var2 w3 w2.heap.size (.slice none 0 0) (.slice none 0 0) := by rw [hw3]; exact var2_new _ _ _ _
  obtain ⟨w4, hw4⟩ : ∃ w4, w4 = w3.alloc (.cells #[.slice none 0 0, .slice none 0 0] 38) := ⟨_, rfl⟩
  have hb4 : Below w3.heap.size w3 w4 := by rw [hw4]; exact below_alloc _ _
  have hs4 : w4.heap.size = w.heap.size + 4 := by rw [hw4]; simp [hs3]
  have hv4 : Var2 w4 w3.heap.size (.slice none 0 0) (.slice none 0 0) := by rw [hw4]; exact var2_new _ _ _ _
  have hB : Below w.heap.size w w4 := hb2.trans ((hb3.mono (by omega)).trans (hb4.mono (by omega)))
  have HO := operate_bad 82 w4 A1 A2 A3 A4 n1 n2 n3 n4 c1 c2 c3 c4 _ _ _ _ (a1.keep hB) (a2.keep hB) (a3.keep hB) (a4.keep hB) f (.pointer (some ⟨w3.heap.size, 0, none⟩))
  have hs3' : w3.heap.size = w.heap.size + 1 + 1 + 1 := hs3
  have hs2' : w2.heap.size = w.heap.size + 1 + 1 := hs2
  rw [hs3'] at HO hv4
  rw [hs2'] at hv3
  have hv3' := hv3.keep hb4 (by omega)
  have HH := Lib.hid HO
  have H2 := Lib.hid hw2
  have H3 := Lib.hid hw3
  have H4 := Lib.hid hw4
  clear HO hw2 hw3 hw4 a1 a2 a3 a4 f
  go_enter Try.func32, Try.ntmps32
  go_wp2_with fail
  rw [← H2.out, ← H3.out, ← H4.out]
  refine HH.out.mono ?_
  rintro e w5 ⟨rfl, hb⟩
  have hv := hv4.keep hb (by omega)
  have hv5 := hv3'.keep hb (by omega)
  have hbw : Below w.heap.size w w5 := hB.trans (hb.mono (by omega))
  have P3 := (hbw.setCell (p := ⟨w.heap.size + 1 + 1, 0, none⟩) (by show w.heap.size ≤ w.heap.size + 1 + 1; omega) (.slice none 0 0)).setCell (p := ⟨w.heap.size + 1 + 1, 1, none⟩) (by show w.heap.size ≤ w.heap.size + 1 + 1; omega) (.slice none 0 0)
  have V1 := hv5.stored (.slice none 0 0) (.slice none 0 0)
  obtain ⟨r0, r1, _, _⟩ := hv
  obtain ⟨t0, t1, f0, f1⟩ := hv5
  obtain ⟨wf, hwf⟩ : ∃ wf, wf = (w5.setCell ⟨w.heap.size + 1 + 1, 0, none⟩ (.slice none 0 0)).setCell ⟨w.heap.size + 1 + 1, 1, none⟩ (.slice none 0 0) := ⟨_, rfl⟩
  rw [← hwf] at P3 V1
  have HF := Lib.hid hwf
  have HV := Lib.hid V1
  clear hwf V1
  go_wp2
  rw [← HF.out]
  obtain ⟨q0, q1, _, _⟩ := HV.out
  refine bodyPost_ret (by simp [results, Try.results32, q0, q1, go_sem]; rfl) rfl ?_
  exact ⟨_, _, rfl, Own.nil _ _, Own.nil _ _, P3⟩

set_option maxRecDepth 100000 in
set_option maxHeartbeats 1000000 in
theorem cmp_bad (w : World) (A1 A2 A3 A4 : Option Addr) (n1 n2 n3 n4 c1 c2 c3 c4 : Nat) (xs ys zs us : List Nat) (a1 : Arg w A1 n1 c1 xs) (a2 : Arg w A2 n2 c2 ys) (a3 : Arg w A3 n3 c3 zs) (a4 : Arg w A4 n4 c4 us) (f : ¬ (FrOk xs ys ∧ FrOk zs us)) :
    Calls Try.prog 35 #[.agg #[.slice A1 n1 c1, .slice A2 n2 c2], .agg #[.slice A3 n3 c3, .slice A4 n4 c4]] w fun e w' => e = .returned (.tuple #[.int .i64 0, .int .i64 8]) ∧ Below w.heap.size w w' := by
  obtain ⟨w2, hw2⟩ : ∃ w2, w2 = (w.alloc (.cells #[.slice A1 n1 c1, .slice A2 n2 c2] 38)).alloc (.cells #[.slice A3 n3 c3, .slice A4 n4 c4] 38) := ⟨_, rfl⟩
  have hb2 : Below w.heap.size w w2 := by rw [hw2]; exact ((Below.refl _ _).alloc (Nat.le_refl _) _).alloc (by simp) _
  have hs2 : w2.heap.size = w.heap.size + 2 := by rw [hw2]; simp
  obtain ⟨w4, hw4⟩ : ∃ w4, w4 = w2.alloc (.cells #[.int .i64 0] 3) := ⟨_, rfl⟩
  have hb4 : Below w2.heap.size w2 w4 := by rw [hw4]; exact below_alloc _ _
  have hs4 : w4.heap.size = w.heap.size + 3 := by rw [hw4]; simp [hs2]
  have hc4 : w4.cell? ⟨w2.heap.size, 0, none⟩ = some (.int .i64 0) := by rw [hw4, World.cell?_alloc_at (hn := by simp)]; rfl
  have hB : Below w.heap.size w w4 := hb2.trans (hb4.mono (by omega))
  have HO := operate_bad 84 w4 A1 A2 A3 A4 n1 n2 n3 n4 c1 c2 c3 c4 _ _ _ _ (a1.keep hB) (a2.keep hB) (a3.keep hB) (a4.keep hB) f (.pointer (some ⟨w2.heap.size, 0, none⟩))
  have hs2' : w2.heap.size = w.heap.size + 1 + 1 := hs2
  rw [hs2'] at HO hc4
  have HH := Lib.hid HO
  have H2 := Lib.hid hw2
  have H4 := Lib.hid hw4
  clear HO hw2 hw4 a1 a2 a3 a4 f
  go_enter Try.func35, Try.ntmps35
  go_wp2_with fail
  rw [← H2.out, ← H4.out]
  refine HH.out.mono ?_
  rintro e w5 ⟨rfl, hb⟩
  have hc := (hb.cell (p := ⟨w.heap.size + 1 + 1, 0, none⟩) (by show w.heap.size + 1 + 1 < _; omega)).trans hc4
  have hbw : Below w.heap.size w w5 := hB.trans (hb.mono (by omega))
  go_wp2
  go_ret2
  exact ⟨rfl, hbw⟩

section
variable (w : World) (A1 A2 A3 A4 : Option Addr) (n1 n2 n3 n4 c1 c2 c3 c4 : Nat) (xs ys zs us : List Nat) (a1 : Arg w A1 n1 c1 xs) (a2 : Arg w A2 n2 c2 ys) (a3 : Arg w A3 n3 c3 zs) (a4 : Arg w A4 n4 c4 us)
include a1 a2 a3 a4
theorem mul_all : Calls Try.prog 34 #[.agg #[.slice A1 n1 c1, .slice A2 n2 c2], .agg #[.slice A3 n3 c3, .slice A4 n4 c4]] w (FrRes w (f2C xs ys zs us (redC (nv xs * nv zs) (nv ys * nv us))) (f2N xs ys zs us (redN (nv xs * nv zs) (nv ys * nv us))) (f2N xs ys zs us (redD (nv xs * nv zs) (nv ys * nv us)))) := by
  by_cases f : FrOk xs ys ∧ FrOk zs us
  · unfold f2C f2N
    rw [if_pos f, if_pos f, if_pos f]
    exact mulFr_v w _ _ _ _ _ _ _ _ (fr_of a1 a2 f.1) (fr_of a3 a4 f.2)
  · unfold f2C f2N
    rw [if_neg f, if_neg f, if_neg f]
    exact mul_bad w A1 A2 A3 A4 n1 n2 n3 n4 c1 c2 c3 c4 xs ys zs us a1 a2 a3 a4 f
theorem add_all : Calls Try.prog 32 #[.agg #[.slice A1 n1 c1, .slice A2 n2 c2], .agg #[.slice A3 n3 c3, .slice A4 n4 c4]] w (FrRes w (f2C xs ys zs us (redC (nv xs * nv us + nv zs * nv ys) (nv ys * nv us))) (f2N xs ys zs us (redN (nv xs * nv us + nv zs * nv ys) (nv ys * nv us))) (f2N xs ys zs us (redD (nv xs * nv us + nv zs * nv ys) (nv ys * nv us)))) := by
  by_cases f : FrOk xs ys ∧ FrOk zs us
  · unfold f2C f2N
    rw [if_pos f, if_pos f, if_pos f]
    exact addFr_v w _ _ _ _ _ _ _ _ (fr_of a1 a2 f.1) (fr_of a3 a4 f.2)
  · unfold f2C f2N
    rw [if_neg f, if_neg f, if_neg f]
    exact add_bad w A1 A2 A3 A4 n1 n2 n3 n4 c1 c2 c3 c4 xs ys zs us a1 a2 a3 a4 f
theorem cmp_all : Calls Try.prog 35 #[.agg #[.slice A1 n1 c1, .slice A2 n2 c2], .agg #[.slice A3 n3 c3, .slice A4 n4 c4]] w fun e w' => e = .returned (.tuple #[.int .i64 (f2I xs ys zs us (ordv (nv xs * nv us) (nv zs * nv ys))), .int .i64 (f2C xs ys zs us 0)]) ∧ Below w.heap.size w w' := by
  by_cases f : FrOk xs ys ∧ FrOk zs us
  · unfold f2C f2I
    rw [if_pos f, if_pos f]
    exact cmpFr_v w _ _ _ _ _ _ _ _ (fr_of a1 a2 f.1) (fr_of a3 a4 f.2)
  · unfold f2C f2I
    rw [if_neg f, if_neg f]
    exact cmp_bad w A1 A2 A3 A4 n1 n2 n3 n4 c1 c2 c3 c4 xs ys zs us a1 a2 a3 a4 f
end
end Go.Proofs.Ythplhlcdlnedfaa

/-
  The specification's fractions, part D: sums, products and comparisons.
-/
namespace Go.Proofs.Ythplhlcdlnedfaa
open Go.RowKit MN

theorem bd_red (X Y : Nat) : bdC (X / Nat.gcd X Y) (Y / Nat.gcd X Y) = redC X Y ∧ bdN (X / Nat.gcd X Y) (Y / Nat.gcd X Y) (X / Nat.gcd X Y) = redN X Y ∧ bdN (X / Nat.gcd X Y) (Y / Nat.gcd X Y) (Y / Nat.gcd X Y) = redD X Y := by
  by_cases h : redBig X Y
  · have h' : Big (X / Nat.gcd X Y) ∨ Big (Y / Nat.gcd X Y) := h
    exact ⟨by rw [bdC, if_pos h', redC, if_pos h], by rw [bdN, if_pos h', redN, if_pos h], by rw [bdN, if_pos h', redD, if_pos h]⟩
  · have h' : ¬ (Big (X / Nat.gcd X Y) ∨ Big (Y / Nat.gcd X Y)) := h
    exact ⟨by rw [bdC, if_neg h', redC, if_neg h], by rw [bdN, if_neg h', redN, if_neg h], by rw [bdN, if_neg h', redD, if_neg h]⟩

theorem nm_len {w : World} {v : Value} {N : Nat} (h : Nm w v N) : ∃ A n c, v = .slice A n c ∧ Arg w A n c (digs 4294967296 N) ∧ n ≤ 16 := by
  obtain ⟨⟨A, n, c, rfl, a⟩, hN⟩ := h
  exact ⟨A, n, c, rfl, a, by rw [← a.rd.len]; exact digs_len (by omega) _ _ hN⟩
theorem own_len {B : Nat} {w : World} {v : Value} {N K : Nat} (h : Own B w v N) (hN : N < 4294967296 ^ K) : ∃ A n c, v = .slice A n c ∧ Arg w A n c (digs 4294967296 N) ∧ n ≤ K := by
  obtain ⟨A, n, c, rfl, ho⟩ := h
  obtain ⟨a, l⟩ := own_num ho
  exact ⟨A, n, c, rfl, a, by rw [← l]; exact digs_len (by omega) _ _ hN⟩

theorem times_v {w : World} {v1 v2 : Value} {X Y : Nat} (h : Nm w v1 X) (k : Nm w v2 Y) : Calls Try.prog 91 #[v1, v2] w fun e w' => ∃ v, e = .returned v ∧ Own w.heap.size w' v (X * Y) ∧ Below w.heap.size w w' := by
  obtain ⟨A1, n1, c1, rfl, a1, l1⟩ := nm_len h
  obtain ⟨A2, n2, c2, rfl, a2, l2⟩ := nm_len k
  have H := timesRef_any A1 A2 n1 c1 n2 c2 _ _ w a1 a2 (by omega) (by omega)
  rw [digs_val _ _ (by omega), digs_val _ _ (by omega)] at H
  exact H.mono fun e w' ⟨A, m, c, h, ho, hb⟩ => ⟨_, h, ⟨A, m, c, rfl, ho⟩, hb⟩
theorem plus_o {B : Nat} {w : World} {v1 v2 : Value} {X Y : Nat} (h : Own B w v1 X) (k : Own B w v2 Y) (hX : X < 4294967296 ^ 32) (hY : Y < 4294967296 ^ 32) : Calls Try.prog 89 #[v1, v2] w fun e w' => ∃ v, e = .returned v ∧ Own w.heap.size w' v (X + Y) ∧ Below w.heap.size w w' := by
  obtain ⟨A1, n1, c1, rfl, a1, l1⟩ := own_len h hX
  obtain ⟨A2, n2, c2, rfl, a2, l2⟩ := own_len k hY
  have H := plusRef_any A1 A2 n1 c1 n2 c2 _ _ w a1 a2 (by omega) (by omega)
  rw [digs_val _ _ (by omega), digs_val _ _ (by omega)] at H
  exact H.mono fun e w' ⟨A, m, c, h, ho, hb⟩ => ⟨_, h, ⟨A, m, c, rfl, ho⟩, hb⟩
theorem order_o {B : Nat} {w : World} {v1 v2 : Value} {X Y : Nat} (h : Own B w v1 X) (k : Own B w v2 Y) : Calls Try.prog 87 #[v1, v2] w fun e w' => e = .returned (.int .i64 (ordv X Y)) ∧ w = w' := by
  obtain ⟨A1, n1, c1, rfl, a1⟩ := h.arg
  obtain ⟨A2, n2, c2, rfl, a2⟩ := k.arg
  have H := orderRef_any A1 A2 n1 c1 n2 c2 _ _ w a1 a2
  rw [digs_val _ _ (by omega), digs_val _ _ (by omega)] at H
  exact H
theorem lowest_o {B : Nat} {w : World} {v1 v2 : Value} {X Y : Nat} (h : Own B w v1 X) (k : Own B w v2 Y) (hX : X < 4294967296 ^ 33) (hY : Y < 4294967296 ^ 33) (h0 : Y ≠ 0) :
    Calls Try.prog 97 #[v1, v2] w fun e w' => ∃ B1 m1 k1 B2 m2 k2, e = .returned (.agg #[.slice B1 m1 k1, .slice B2 m2 k2]) ∧ Pair w w' (.slice B1 m1 k1) (.slice B2 m2 k2) (X / Nat.gcd X Y) (Y / Nat.gcd X Y) := by
  obtain ⟨A1, n1, c1, rfl, a1, l1⟩ := own_len h hX
  obtain ⟨A2, n2, c2, rfl, a2, l2⟩ := own_len k hY
  exact lowest_any A1 n1 c1 A2 n2 c2 X Y w a1 a2 (by omega) (by omega) h0
theorem lt32 {a b : Nat} (ha : a < 4294967296 ^ 16) (hb : b < 4294967296 ^ 16) : a * b < 4294967296 ^ 32 := by
  have e1 : a * b < 4294967296 ^ 16 * 4294967296 ^ 16 := Nat.mul_lt_mul'' ha hb
  rw [← Nat.pow_add] at e1; exact e1
theorem up33 {a : Nat} (h : a < 4294967296 ^ 32) : a < 4294967296 ^ 33 := Nat.lt_trans h (Nat.pow_lt_pow_right (by omega) (by omega))
theorem add33 {a b : Nat} (h : a < 4294967296 ^ 32) (k : b < 4294967296 ^ 32) : a + b < 4294967296 ^ 33 := by
  have e3 : (4294967296 : Nat) ^ 33 = 4294967296 ^ 32 * 4294967296 := Nat.pow_succ ..
  omega

set_option linter.unusedSimpArgs false in
set_option maxRecDepth 100000 in
set_option maxHeartbeats 2000000 in
theorem rMul2_any (w : World) (A1 A2 A3 A4 : Option Addr) (n1 n2 n3 n4 c1 c2 c3 c4 : Nat) (xs ys zs us : List Nat) (a1 : Arg w A1 n1 c1 xs) (a2 : Arg w A2 n2 c2 ys) (a3 : Arg w A3 n3 c3 zs) (a4 : Arg w A4 n4 c4 us) :
    Calls Try.prog 61 #[.agg #[.slice A1 n1 c1, .slice A2 n2 c2], .agg #[.slice A3 n3 c3, .slice A4 n4 c4]] w (FrRes w (f2C xs ys zs us (redC (nv xs * nv zs) (nv ys * nv us))) (f2N xs ys zs us (redN (nv xs * nv zs) (nv ys * nv us))) (f2N xs ys zs us (redD (nv xs * nv zs) (nv ys * nv us)))) := by
  obtain ⟨w0, hw0⟩ : ∃ w0, w0 = (w.alloc (.cells #[.slice A1 n1 c1, .slice A2 n2 c2] 38)).alloc (.cells #[.slice A3 n3 c3, .slice A4 n4 c4] 38) := ⟨_, rfl⟩
  have hb0 : Below w.heap.size w w0 := by rw [hw0]; exact ((Below.refl _ _).alloc (Nat.le_refl _) _).alloc (by simp) _
  have hs0 : w0.heap.size = w.heap.size + 1 + 1 := by rw [hw0]; simp
  have hg0 : Var2 w0 (w.heap.size + 1) (.slice A3 n3 c3) (.slice A4 n4 c4) := by
    rw [hw0]
    have := var2_new (w.alloc (.cells #[.slice A1 n1 c1, .slice A2 n2 c2] 38)) (.slice A3 n3 c3) (.slice A4 n4 c4) 38
    simpa using this
  have hf0 : Var2 w0 w.heap.size (.slice A1 n1 c1) (.slice A2 n2 c2) := by
    rw [hw0]
    exact (var2_new w (.slice A1 n1 c1) (.slice A2 n2 c2) 38).keep (below_alloc _ _) (by simp)
  obtain ⟨w1, hw1⟩ : ∃ w1, w1 = w0.alloc (.cells #[.slice none 0 0, .slice none 0 0] 38) := ⟨_, rfl⟩
  have hb1 : Below w0.heap.size w0 w1 := by rw [hw1]; exact below_alloc _ _
  have hs1 : w1.heap.size = w.heap.size + 1 + 1 + 1 := by rw [hw1]; simp [hs0]
  have hr1 : Var2 w1 (w.heap.size + 1 + 1) (.slice none 0 0) (.slice none 0 0) := by rw [← hs0, hw1]; exact var2_new _ _ _ _
  have hf1 := hf0.keep hb1 (by omega)
  have hg1 := hg0.keep hb1 (by omega)
  have hB : Below w.heap.size w w1 := hb0.trans (hb1.mono (by omega))
  have H0 := Lib.hid hw0
  have H1 := Lib.hid hw1
  have V1 := validFr_any A1 n1 c1 xs A2 n2 c2 ys w1 (a1.keep hB) (a2.keep hB)
  have V2 : ∀ wx, Below w1.heap.size w1 wx → Calls Try.prog 98 #[.agg #[.slice A3 n3 c3, .slice A4 n4 c4]] wx fun e w' => e = .returned (.bool (frB zs us)) ∧ Below w1.heap.size w1 w' :=
    fun wx hx => (validFr_any A3 n3 c3 zs A4 n4 c4 us wx ((a3.keep hB).keep hx) ((a4.keep hB).keep hx)).mono fun e w' ⟨he, hb⟩ => ⟨he, hx.trans (hb.mono hx.size)⟩
  clear hw0 hw1 hf0 hg0
  have bad : ∀ wx, Below w1.heap.size w1 wx → ∃ wf, wf = (wx.setCell ⟨w.heap.size + 1 + 1, 0, none⟩ (.slice none 0 0)).setCell ⟨w.heap.size + 1 + 1, 1, none⟩ (.slice none 0 0) ∧ (wf.cell? ⟨w.heap.size + 1 + 1, 0, none⟩ = some (.slice none 0 0) ∧ wf.cell? ⟨w.heap.size + 1 + 1, 1, none⟩ = some (.slice none 0 0)) ∧
      FrRes w 8 0 0 (.returned (.tuple #[.agg #[.slice none 0 0, .slice none 0 0], .int .i64 8])) wf := fun wx hx => by
    have hv := (hr1.keep hx (by omega)).stored (.slice none 0 0) (.slice none 0 0)
    refine ⟨_, rfl, ⟨hv.c0, hv.c1⟩, _, _, rfl, Own.nil _ _, Own.nil _ _, ?_⟩
    exact ((hB.trans (hx.mono (by omega))).setCell (p := ⟨w.heap.size + 1 + 1, 0, none⟩) (by show w.heap.size ≤ w.heap.size + 1 + 1; omega) _).setCell (p := ⟨w.heap.size + 1 + 1, 1, none⟩) (by show w.heap.size ≤ w.heap.size + 1 + 1; omega) _
  have BAD := Lib.hid bad
  clear bad
  by_cases f1 : FrOk xs ys
  case neg =>
    have fn : ¬ (FrOk xs ys ∧ FrOk zs us) := fun e => f1 e.1
    rw [frB_no f1] at V1
    have V1 := Lib.hid V1
    unfold f2C f2N
    rw [if_neg fn, if_neg fn, if_neg fn]
    obtain ⟨x0, x1, _, _⟩ := hf1
    clear f1 fn V2 a1 a2 a3 a4 hg1
    go_enter Try.func61, Try.ntmps61
    go_wp2_with fail
    rw [← H0.out, ← H1.out]
    refine V1.out.mono ?_
    rintro e w2 ⟨rfl, hx⟩
    obtain ⟨wf, hwf, hq, hF⟩ := BAD.out w2 hx
    have HWF := Lib.hid hwf
    have HQ := Lib.hid hq
    have HFR := Lib.hid hF
    obtain ⟨t0, t1, g0, g1⟩ := hr1.keep hx (by omega)
    clear hwf hq hF hr1
    go_wp2
    rw [← HWF.out]
    obtain ⟨q0, q1⟩ := HQ.out
    exact bodyPost_ret (by simp [results, Try.results61, q0, q1, go_sem]) rfl HFR.out
  by_cases f2 : FrOk zs us
  case neg =>
    have fn : ¬ (FrOk xs ys ∧ FrOk zs us) := fun e => f2 e.2
    rw [frB_yes f1] at V1
    rw [frB_no f2] at V2
    have V1 := Lib.hid V1
    have V2 := Lib.hid V2
    unfold f2C f2N
    rw [if_neg fn, if_neg fn, if_neg fn]
    obtain ⟨x0, x1, _, _⟩ := hf1
    clear f1 f2 fn a1 a2 a3 a4
    go_enter Try.func61, Try.ntmps61
    go_wp2_with fail
    rw [← H0.out, ← H1.out]
    refine V1.out.mono ?_
    rintro e w2 ⟨rfl, hx⟩
    obtain ⟨y0, y1, _, _⟩ := hg1.keep hx (by omega)
    go_wp2_with fail
    refine (V2.out _ hx).mono ?_
    rintro e w3 ⟨rfl, hx3⟩
    obtain ⟨wf, hwf, hq, hF⟩ := BAD.out w3 hx3
    have HWF := Lib.hid hwf
    have HQ := Lib.hid hq
    have HFR := Lib.hid hF
    obtain ⟨t0, t1, g0, g1⟩ := hr1.keep hx3 (by omega)
    clear hwf hq hF hr1 x0 x1 y0 y1
    go_wp2
    rw [← HWF.out]
    obtain ⟨q0, q1⟩ := HQ.out
    exact bodyPost_ret (by simp [results, Try.results61, q0, q1, go_sem]) rfl HFR.out
  have fn : FrOk xs ys ∧ FrOk zs us := ⟨f1, f2⟩
  rw [frB_yes f1] at V1
  rw [frB_yes f2] at V2
  have V1 := Lib.hid V1
  have V2 := Lib.hid V2
  unfold f2C f2N
  rw [if_pos fn, if_pos fn, if_pos fn]
  have F1 := fr_of a1 a2 f1
  have F2 := fr_of a3 a4 f2
  obtain ⟨N1, hN1⟩ : ∃ x, x = nv xs := ⟨_, rfl⟩
  obtain ⟨D1, hD1⟩ : ∃ x, x = nv ys := ⟨_, rfl⟩
  obtain ⟨N2, hN2⟩ : ∃ x, x = nv zs := ⟨_, rfl⟩
  obtain ⟨D2, hD2⟩ : ∃ x, x = nv us := ⟨_, rfl⟩
  rw [← hN1, ← hD1] at F1
  rw [← hN2, ← hD2] at F2
  rw [← hN1, ← hD1, ← hN2, ← hD2]
  clear hN1 hD1 hN2 hD2 f1 f2 fn a1 a2 a3 a4 BAD
  have F1 := Lib.hid (F1.keep hB)
  have F2 := Lib.hid (F2.keep hB)
  have L1 := F1.out.num.2
  have L2 := F1.out.den.2
  have L3 := F2.out.num.2
  have L4 := F2.out.den.2
  have hD : D1 * D2 ≠ 0 := Nat.mul_ne_zero F1.out.pos F2.out.pos
  have LX : N1 * N2 < 4294967296 ^ 33 := up33 (lt32 L1 L3)
  have LY : D1 * D2 < 4294967296 ^ 33 := up33 (lt32 L2 L4)
  have LS1 := L1
  have LS2 := L3
  obtain ⟨E1, E2, E3⟩ := bd_red (N1 * N2) (D1 * D2)
  obtain ⟨x0, x1, _, _⟩ := hf1
  go_enter Try.func61, Try.ntmps61
  go_wp2_with fail
  rw [← H0.out, ← H1.out]
  refine V1.out.mono ?_
  rintro e w2 ⟨rfl, hx⟩
  obtain ⟨y0, y1, _, _⟩ := hg1.keep hx (by omega)
  go_wp2_with fail
  refine (V2.out _ hx).mono ?_
  rintro e w3 ⟨rfl, hx3⟩
  have hf3 : Var2 w3 w.heap.size (.slice A1 n1 c1) (.slice A2 n2 c2) := Var2.keep ⟨x0, x1, by assumption, by assumption⟩ hx3 (by omega)
  have hg3 := hg1.keep hx3 (by omega)
  have hr3 := hr1.keep hx3 (by omega)
  have hs3 : w.heap.size + 3 ≤ w3.heap.size := by have := hx3.size; omega
  have K1 := F1.out.keep hx3
  have K2 := F2.out.keep hx3
  have hB3 := hB.trans (hx3.mono (by omega))
  clear x0 x1 y0 y1 hg1 hr1 V1 V2 F1 F2
  have HK : Hid (∀ wx, Below w3.heap.size w3 wx → wx.cell? ⟨w.heap.size, 0, none⟩ = some (.slice A1 n1 c1) ∧ wx.cell? ⟨w.heap.size, 1, none⟩ = some (.slice A2 n2 c2) ∧ wx.cell? ⟨w.heap.size + 1, 0, none⟩ = some (.slice A3 n3 c3) ∧ wx.cell? ⟨w.heap.size + 1, 1, none⟩ = some (.slice A4 n4 c4)) :=
    Lib.hid (fun wx hx => ⟨(hf3.keep hx (by omega)).c0, (hf3.keep hx (by omega)).c1, (hg3.keep hx (by omega)).c0, (hg3.keep hx (by omega)).c1⟩)
  have HS : Hid (∀ wx x y, Below w3.heap.size w3 wx → ((wx.setCell ⟨w.heap.size + 1 + 1, 0, none⟩ x).setCell ⟨w.heap.size + 1 + 1, 1, none⟩ y).cell? ⟨w.heap.size, 0, none⟩ = some (.slice A1 n1 c1) ∧ ((wx.setCell ⟨w.heap.size + 1 + 1, 0, none⟩ x).setCell ⟨w.heap.size + 1 + 1, 1, none⟩ y).cell? ⟨w.heap.size, 1, none⟩ = some (.slice A2 n2 c2) ∧ ((wx.setCell ⟨w.heap.size + 1 + 1, 0, none⟩ x).setCell ⟨w.heap.size + 1 + 1, 1, none⟩ y).cell? ⟨w.heap.size + 1, 0, none⟩ = some (.slice A3 n3 c3) ∧ ((wx.setCell ⟨w.heap.size + 1 + 1, 0, none⟩ x).setCell ⟨w.heap.size + 1 + 1, 1, none⟩ y).cell? ⟨w.heap.size + 1, 1, none⟩ = some (.slice A4 n4 c4)) :=
    Lib.hid (fun wx x y hx => by
      obtain ⟨R, hR⟩ : ∃ R, R = w.heap.size + 1 + 1 := ⟨_, rfl⟩
      rw [← hR]
      have hn : R ≠ w.heap.size := by omega
      have hn1 : R ≠ w.heap.size + 1 := by omega
      rw [World.cell?_setCell_other (h := by simp [hn]), World.cell?_setCell_other (h := by simp [hn]), World.cell?_setCell_other (h := by simp [hn]), World.cell?_setCell_other (h := by simp [hn]),
        World.cell?_setCell_other (h := by simp [hn1]), World.cell?_setCell_other (h := by simp [hn1]), World.cell?_setCell_other (h := by simp [hn1]), World.cell?_setCell_other (h := by simp [hn1])]
      exact HK.out wx hx)
  have HR1 : Hid (∀ wx, Below w3.heap.size w3 wx → Var2 wx (w.heap.size + 1 + 1) (.slice none 0 0) (.slice none 0 0)) := Lib.hid (fun wx hx => hr3.keep hx (by omega))
  have HP1 : Hid (∀ wx, Below w3.heap.size w3 wx → Calls Try.prog 91 #[.slice A1 n1 c1, .slice A3 n3 c3] wx fun e w' => ∃ v, e = .returned v ∧ Own w3.heap.size w' v (N1 * N2) ∧ Below wx.heap.size wx w' ∧ Below w3.heap.size w3 w') :=
    Lib.hid (fun wx hx => (times_v (K1.num.keep hx) (K2.num.keep hx)).mono fun e w' ⟨v, he, ho, hb⟩ => ⟨v, he, ho.low hx.size, hb, hx.trans (hb.mono hx.size)⟩)
  have HP2 : Hid (∀ wx, Below w3.heap.size w3 wx → Calls Try.prog 91 #[.slice A2 n2 c2, .slice A4 n4 c4] wx fun e w' => ∃ v, e = .returned v ∧ Own w3.heap.size w' v (D1 * D2) ∧ Below wx.heap.size wx w' ∧ Below w3.heap.size w3 w') :=
    Lib.hid (fun wx hx => (times_v (K1.den.keep hx) (K2.den.keep hx)).mono fun e w' ⟨v, he, ho, hb⟩ => ⟨v, he, ho.low hx.size, hb, hx.trans (hb.mono hx.size)⟩)
  have HL : Hid (∀ wx v1 v2, Below w3.heap.size w3 wx → Own w3.heap.size wx v1 (N1 * N2) → Own w3.heap.size wx v2 (D1 * D2) → Calls Try.prog 97 #[v1, v2] wx fun e w' => ∃ B1 m1 k1 B2 m2 k2, e = .returned (.agg #[.slice B1 m1 k1, .slice B2 m2 k2]) ∧ Own w3.heap.size w' (.slice B1 m1 k1) ((N1 * N2) / Nat.gcd (N1 * N2) (D1 * D2)) ∧ Own w3.heap.size w' (.slice B2 m2 k2) (D1 * D2 / Nat.gcd (N1 * N2) (D1 * D2)) ∧ Below w3.heap.size w3 w') :=
    Lib.hid (fun wx v1 v2 hx p1 p2 => (lowest_o p1 p2 LX LY hD).mono fun e w' ⟨B1, m1, k1, B2, m2, k2, he, P⟩ => ⟨B1, m1, k1, B2, m2, k2, he, P.one.low hx.size, P.two.low hx.size, hx.trans (P.below.mono hx.size)⟩)
  have HB : Hid (∀ wx B1 m1 k1 B2 m2 k2, Below w3.heap.size w3 wx → Own w3.heap.size wx (.slice B1 m1 k1) ((N1 * N2) / Nat.gcd (N1 * N2) (D1 * D2)) → Own w3.heap.size wx (.slice B2 m2 k2) (D1 * D2 / Nat.gcd (N1 * N2) (D1 * D2)) → Calls Try.prog 99 #[.agg #[.slice B1 m1 k1, .slice B2 m2 k2]] wx fun e w' => ∃ B1 m1 k1 B2 m2 k2, e = .returned (.tuple #[.agg #[.slice B1 m1 k1, .slice B2 m2 k2], .int .i64 (redC (N1 * N2) (D1 * D2))]) ∧ Own w3.heap.size w' (.slice B1 m1 k1) (redN (N1 * N2) (D1 * D2)) ∧ Own w3.heap.size w' (.slice B2 m2 k2) (redD (N1 * N2) (D1 * D2)) ∧ Below w3.heap.size w3 w') :=
    Lib.hid (fun wx B1 m1 k1 B2 m2 k2 hx p1 p2 => by
      have H := bounded_any wx w3.heap.size B1 B2 m1 k1 m2 k2 _ _ p1 p2
      rw [E1, E2, E3] at H
      exact H.mono fun e w' ⟨B1, m1, k1, B2, m2, k2, he, q1, q2, hb⟩ => ⟨B1, m1, k1, B2, m2, k2, he, q1, q2, hx.trans (hb.mono hx.size)⟩)
  have hx0 : Below w3.heap.size w3 w3.drew := (Below.refl _ _).drew
  clear hf3 hg3 hr3 K1 K2 E1 E2 E3 LX LY LS1 LS2 L1 L2 L3 L4 hD hx hx3
  go_wp2_with fail
  go_region_held3 (fun w' => w'.cell? ⟨w.heap.size, 0, none⟩ = some (.slice A1 n1 c1) ∧ w'.cell? ⟨w.heap.size, 1, none⟩ = some (.slice A2 n2 c2) ∧ w'.cell? ⟨w.heap.size + 1, 0, none⟩ = some (.slice A3 n3 c3) ∧ w'.cell? ⟨w.heap.size + 1, 1, none⟩ = some (.slice A4 n4 c4))
    (first
      | exact HS.out _ _ _ hxZ
      | with_reducible exact HK.out _ hxZ
      | with_reducible exact HK.out _ hxY
      | with_reducible exact HK.out _ hxB
      | with_reducible exact HK.out _ hxA
      | with_reducible exact HK.out _ hx0)
    (first
      | (go_at_call 91; with_reducible refine (HP1.out _ hxB).mono ?_; rintro e wA ⟨v1, rfl, o1, hA, hxA⟩; replace o2 := Own.keep o2 hA)
      | (go_at_call 91; with_reducible refine (HP2.out _ hxA).mono ?_; rintro e wB ⟨v2, rfl, o2, hB', hxB⟩; replace o1 := Own.keep o1 hB')
      | (go_at_call 91; with_reducible refine (HP1.out _ hx0).mono ?_; rintro e wA ⟨v1, rfl, o1, hA, hxA⟩)
      | (go_at_call 91; with_reducible refine (HP2.out _ hx0).mono ?_; rintro e wB ⟨v2, rfl, o2, hB', hxB⟩)
      | (go_at_call 97; with_reducible refine (HL.out _ _ _ hxB o1 o2).mono ?_; rintro e wY ⟨C1, p1, t1, C2, p2, t2, rfl, r1, r2, hxY⟩)
      | (go_at_call 97; with_reducible refine (HL.out _ _ _ hxA o1 o2).mono ?_; rintro e wY ⟨C1, p1, t1, C2, p2, t2, rfl, r1, r2, hxY⟩)
      | (go_at_call 99; with_reducible refine (HB.out _ _ _ _ _ _ _ hxY r1 r2).mono ?_; rintro e wZ ⟨B1, m1, k1, B2, m2, k2, rfl, q1, q2, hxZ⟩; obtain ⟨g0, g1, u0, u1⟩ := HR1.out _ hxZ))
  all_goals
    have hRl : w.heap.size + 1 + 1 < w3.heap.size := by omega
    have hfin : Below w.heap.size w wZ := hB3.trans (hxZ.mono (by omega))
    have P1 := (Own.set (Own.set q1 (a := ⟨w.heap.size + 1 + 1, 0, none⟩) hRl (.slice B1 m1 k1)) (a := ⟨w.heap.size + 1 + 1, 1, none⟩) hRl (.slice B2 m2 k2)).low (B' := w.heap.size) (by omega)
    have P2 := (Own.set (Own.set q2 (a := ⟨w.heap.size + 1 + 1, 0, none⟩) hRl (.slice B1 m1 k1)) (a := ⟨w.heap.size + 1 + 1, 1, none⟩) hRl (.slice B2 m2 k2)).low (B' := w.heap.size) (by omega)
    have P3 := (hfin.setCell (p := ⟨w.heap.size + 1 + 1, 0, none⟩) (by show w.heap.size ≤ w.heap.size + 1 + 1; omega) (.slice B1 m1 k1)).setCell (p := ⟨w.heap.size + 1 + 1, 1, none⟩) (by show w.heap.size ≤ w.heap.size + 1 + 1; omega) (.slice B2 m2 k2)
    have PV := (HR1.out _ hxZ).stored (.slice B1 m1 k1) (.slice B2 m2 k2)
    obtain ⟨wf, hwf⟩ : ∃ wf, wf = (wZ.setCell ⟨w.heap.size + 1 + 1, 0, none⟩ (.slice B1 m1 k1)).setCell ⟨w.heap.size + 1 + 1, 1, none⟩ (.slice B2 m2 k2) := ⟨_, rfl⟩
    rw [← hwf] at P1 P2 P3 PV
    have HF := Lib.hid hwf
    have HP : Hid (Pair w wf (.slice B1 m1 k1) (.slice B2 m2 k2) _ _) := Lib.hid ⟨P1, P2, P3⟩
    clear hwf P1 P2 P3 q1 q2
    go_wp2
    rw [← HF.out]
    obtain ⟨q0, q1, _, _⟩ := PV
    refine bodyPost_ret (by simp [results, Try.results61, q0, q1, go_sem]; rfl) rfl ?_
    exact ⟨_, _, rfl, HP.out⟩
end Go.Proofs.Ythplhlcdlnedfaa

/-
  The specification's fractions, part E: sums.
-/
namespace Go.Proofs.Ythplhlcdlnedfaa
open Go.RowKit MN

set_option linter.unusedSimpArgs false in
set_option maxRecDepth 100000 in
set_option maxHeartbeats 2000000 in
theorem rAdd2_any (w : World) (A1 A2 A3 A4 : Option Addr) (n1 n2 n3 n4 c1 c2 c3 c4 : Nat) (xs ys zs us : List Nat) (a1 : Arg w A1 n1 c1 xs) (a2 : Arg w A2 n2 c2 ys) (a3 : Arg w A3 n3 c3 zs) (a4 : Arg w A4 n4 c4 us) :
    Calls Try.prog 60 #[.agg #[.slice A1 n1 c1, .slice A2 n2 c2], .agg #[.slice A3 n3 c3, .slice A4 n4 c4]] w (FrRes w (f2C xs ys zs us (redC (nv xs * nv us + nv zs * nv ys) (nv ys * nv us))) (f2N xs ys zs us (redN (nv xs * nv us + nv zs * nv ys) (nv ys * nv us))) (f2N xs ys zs us (redD (nv xs * nv us + nv zs * nv ys) (nv ys * nv us)))) := by
  obtain ⟨w0, hw0⟩ : ∃ w0, w0 = (w.alloc (.cells #[.slice A1 n1 c1, .slice A2 n2 c2] 38)).alloc (.cells #[.slice A3 n3 c3, .slice A4 n4 c4] 38) := ⟨_, rfl⟩
  have hb0 : Below w.heap.size w w0 := by rw [hw0]; exact ((Below.refl _ _).alloc (Nat.le_refl _) _).alloc (by simp) _
  have hs0 : w0.heap.size = w.heap.size + 1 + 1 := by rw [hw0]; simp
  have hg0 : Var2 w0 (w.heap.size + 1) (.slice A3 n3 c3) (.slice A4 n4 c4) := by
    rw [hw0]
    have := var2_new (w.alloc (.cells #[.slice A1 n1 c1, .slice A2 n2 c2] 38)) (.slice A3 n3 c3) (.slice A4 n4 c4) 38
    simpa using this
  have hf0 : Var2 w0 w.heap.size (.slice A1 n1 c1) (.slice A2 n2 c2) := by
    rw [hw0]
    exact (var2_new w (.slice A1 n1 c1) (.slice A2 n2 c2) 38).keep (below_alloc _ _) (by simp)
  obtain ⟨w1, hw1⟩ : ∃ w1, w1 = w0.alloc (.cells #[.slice none 0 0, .slice none 0 0] 38) := ⟨_, rfl⟩
  have hb1 : Below w0.heap.size w0 w1 := by rw [hw1]; exact below_alloc _ _
  have hs1 : w1.heap.size = w.heap.size + 1 + 1 + 1 := by rw [hw1]; simp [hs0]
  have hr1 : Var2 w1 (w.heap.size + 1 + 1) (.slice none 0 0) (.slice none 0 0) := by rw [← hs0, hw1]; exact var2_new _ _ _ _
  have hf1 := hf0.keep hb1 (by omega)
  have hg1 := hg0.keep hb1 (by omega)
  have hB : Below w.heap.size w w1 := hb0.trans (hb1.mono (by omega))
  have H0 := Lib.hid hw0
  have H1 := Lib.hid hw1
  have V1 := validFr_any A1 n1 c1 xs A2 n2 c2 ys w1 (a1.keep hB) (a2.keep hB)
  have V2 : ∀ wx, Below w1.heap.size w1 wx → Calls Try.prog 98 #[.agg #[.slice A3 n3 c3, .slice A4 n4 c4]] wx fun e w' => e = .returned (.bool (frB zs us)) ∧ Below w1.heap.size w1 w' :=
    fun wx hx => (validFr_any A3 n3 c3 zs A4 n4 c4 us wx ((a3.keep hB).keep hx) ((a4.keep hB).keep hx)).mono fun e w' ⟨he, hb⟩ => ⟨he, hx.trans (hb.mono hx.size)⟩
  clear hw0 hw1 hf0 hg0
  have bad : ∀ wx, Below w1.heap.size w1 wx → ∃ wf, wf = (wx.setCell ⟨w.heap.size + 1 + 1, 0, none⟩ (.slice none 0 0)).setCell ⟨w.heap.size + 1 + 1, 1, none⟩ (.slice none 0 0) ∧ (wf.cell? ⟨w.heap.size + 1 + 1, 0, none⟩ = some (.slice none 0 0) ∧ wf.cell? ⟨w.heap.size + 1 + 1, 1, none⟩ = some (.slice none 0 0)) ∧
      FrRes w 8 0 0 (.returned (.tuple #[.agg #[.slice none 0 0, .slice none 0 0], .int .i64 8])) wf := fun wx hx => by
    have hv := (hr1.keep hx (by omega)).stored (.slice none 0 0) (.slice none 0 0)
    refine ⟨_, rfl, ⟨hv.c0, hv.c1⟩, _, _, rfl, Own.nil _ _, Own.nil _ _, ?_⟩
    exact ((hB.trans (hx.mono (by omega))).setCell (p := ⟨w.heap.size + 1 + 1, 0, none⟩) (by show w.heap.size ≤ w.heap.size + 1 + 1; omega) _).setCell (p := ⟨w.heap.size + 1 + 1, 1, none⟩) (by show w.heap.size ≤ w.heap.size + 1 + 1; omega) _
  have BAD := Lib.hid bad
  clear bad
  by_cases f1 : FrOk xs ys
  case neg =>
    have fn : ¬ (FrOk xs ys ∧ FrOk zs us) := fun e => f1 e.1
    rw [frB_no f1] at V1
    have V1 := Lib.hid V1
    unfold f2C f2N
    rw [if_neg fn, if_neg fn, if_neg fn]
    obtain ⟨x0, x1, _, _⟩ := hf1
    clear f1 fn V2 a1 a2 a3 a4 hg1
    go_enter Try.func60, Try.ntmps60
    go_wp2_with fail
    rw [← H0.out, ← H1.out]
    refine V1.out.mono ?_
    rintro e w2 ⟨rfl, hx⟩
    obtain ⟨wf, hwf, hq, hF⟩ := BAD.out w2 hx
    have HWF := Lib.hid hwf
    have HQ := Lib.hid hq
    have HFR := Lib.hid hF
    obtain ⟨t0, t1, g0, g1⟩ := hr1.keep hx (by omega)
    clear hwf hq hF hr1
    go_wp2
    rw [← HWF.out]
    obtain ⟨q0, q1⟩ := HQ.out
    exact bodyPost_ret (by simp [results, Try.results60, q0, q1, go_sem]) rfl HFR.out
  by_cases f2 : FrOk zs us
  case neg =>
    have fn : ¬ (FrOk xs ys ∧ FrOk zs us) := fun e => f2 e.2
    rw [frB_yes f1] at V1
    rw [frB_no f2] at V2
    have V1 := Lib.hid V1
    have V2 := Lib.hid V2
    unfold f2C f2N
    rw [if_neg fn, if_neg fn, if_neg fn]
    obtain ⟨x0, x1, _, _⟩ := hf1
    clear f1 f2 fn a1 a2 a3 a4
    go_enter Try.func60, Try.ntmps60
    go_wp2_with fail
    rw [← H0.out, ← H1.out]
    refine V1.out.mono ?_
    rintro e w2 ⟨rfl, hx⟩
    obtain ⟨y0, y1, _, _⟩ := hg1.keep hx (by omega)
    go_wp2_with fail
    refine (V2.out _ hx).mono ?_
    rintro e w3 ⟨rfl, hx3⟩
    obtain ⟨wf, hwf, hq, hF⟩ := BAD.out w3 hx3
    have HWF := Lib.hid hwf
    have HQ := Lib.hid hq
    have HFR := Lib.hid hF
    obtain ⟨t0, t1, g0, g1⟩ := hr1.keep hx3 (by omega)
    clear hwf hq hF hr1 x0 x1 y0 y1
    go_wp2
    rw [← HWF.out]
    obtain ⟨q0, q1⟩ := HQ.out
    exact bodyPost_ret (by simp [results, Try.results60, q0, q1, go_sem]) rfl HFR.out
  have fn : FrOk xs ys ∧ FrOk zs us := ⟨f1, f2⟩
  rw [frB_yes f1] at V1
  rw [frB_yes f2] at V2
  have V1 := Lib.hid V1
  have V2 := Lib.hid V2
  unfold f2C f2N
  rw [if_pos fn, if_pos fn, if_pos fn]
  have F1 := fr_of a1 a2 f1
  have F2 := fr_of a3 a4 f2
  obtain ⟨N1, hN1⟩ : ∃ x, x = nv xs := ⟨_, rfl⟩
  obtain ⟨D1, hD1⟩ : ∃ x, x = nv ys := ⟨_, rfl⟩
  obtain ⟨N2, hN2⟩ : ∃ x, x = nv zs := ⟨_, rfl⟩
  obtain ⟨D2, hD2⟩ : ∃ x, x = nv us := ⟨_, rfl⟩
  rw [← hN1, ← hD1] at F1
  rw [← hN2, ← hD2] at F2
  rw [← hN1, ← hD1, ← hN2, ← hD2]
  clear hN1 hD1 hN2 hD2 f1 f2 fn a1 a2 a3 a4 BAD
  have F1 := Lib.hid (F1.keep hB)
  have F2 := Lib.hid (F2.keep hB)
  have L1 := F1.out.num.2
  have L2 := F1.out.den.2
  have L3 := F2.out.num.2
  have L4 := F2.out.den.2
  have hD : D1 * D2 ≠ 0 := Nat.mul_ne_zero F1.out.pos F2.out.pos
  have LX : N1 * D2 + N2 * D1 < 4294967296 ^ 33 := add33 (lt32 L1 L4) (lt32 L3 L2)
  have LY : D1 * D2 < 4294967296 ^ 33 := up33 (lt32 L2 L4)
  have LS1 := lt32 L1 L4
  have LS2 := lt32 L3 L2
  obtain ⟨E1, E2, E3⟩ := bd_red (N1 * D2 + N2 * D1) (D1 * D2)
  obtain ⟨x0, x1, _, _⟩ := hf1
  go_enter Try.func60, Try.ntmps60
  go_wp2_with fail
  rw [← H0.out, ← H1.out]
  refine V1.out.mono ?_
  rintro e w2 ⟨rfl, hx⟩
  obtain ⟨y0, y1, _, _⟩ := hg1.keep hx (by omega)
  go_wp2_with fail
  refine (V2.out _ hx).mono ?_
  rintro e w3 ⟨rfl, hx3⟩
  have hf3 : Var2 w3 w.heap.size (.slice A1 n1 c1) (.slice A2 n2 c2) := Var2.keep ⟨x0, x1, by assumption, by assumption⟩ hx3 (by omega)
  have hg3 := hg1.keep hx3 (by omega)
  have hr3 := hr1.keep hx3 (by omega)
  have hs3 : w.heap.size + 3 ≤ w3.heap.size := by have := hx3.size; omega
  have K1 := F1.out.keep hx3
  have K2 := F2.out.keep hx3
  have hB3 := hB.trans (hx3.mono (by omega))
  clear x0 x1 y0 y1 hg1 hr1 V1 V2 F1 F2
  have HK : Hid (∀ wx, Below w3.heap.size w3 wx → wx.cell? ⟨w.heap.size, 0, none⟩ = some (.slice A1 n1 c1) ∧ wx.cell? ⟨w.heap.size, 1, none⟩ = some (.slice A2 n2 c2) ∧ wx.cell? ⟨w.heap.size + 1, 0, none⟩ = some (.slice A3 n3 c3) ∧ wx.cell? ⟨w.heap.size + 1, 1, none⟩ = some (.slice A4 n4 c4)) :=
    Lib.hid (fun wx hx => ⟨(hf3.keep hx (by omega)).c0, (hf3.keep hx (by omega)).c1, (hg3.keep hx (by omega)).c0, (hg3.keep hx (by omega)).c1⟩)
  have HS : Hid (∀ wx x y, Below w3.heap.size w3 wx → ((wx.setCell ⟨w.heap.size + 1 + 1, 0, none⟩ x).setCell ⟨w.heap.size + 1 + 1, 1, none⟩ y).cell? ⟨w.heap.size, 0, none⟩ = some (.slice A1 n1 c1) ∧ ((wx.setCell ⟨w.heap.size + 1 + 1, 0, none⟩ x).setCell ⟨w.heap.size + 1 + 1, 1, none⟩ y).cell? ⟨w.heap.size, 1, none⟩ = some (.slice A2 n2 c2) ∧ ((wx.setCell ⟨w.heap.size + 1 + 1, 0, none⟩ x).setCell ⟨w.heap.size + 1 + 1, 1, none⟩ y).cell? ⟨w.heap.size + 1, 0, none⟩ = some (.slice A3 n3 c3) ∧ ((wx.setCell ⟨w.heap.size + 1 + 1, 0, none⟩ x).setCell ⟨w.heap.size + 1 + 1, 1, none⟩ y).cell? ⟨w.heap.size + 1, 1, none⟩ = some (.slice A4 n4 c4)) :=
    Lib.hid (fun wx x y hx => by
      obtain ⟨R, hR⟩ : ∃ R, R = w.heap.size + 1 + 1 := ⟨_, rfl⟩
      rw [← hR]
      have hn : R ≠ w.heap.size := by omega
      have hn1 : R ≠ w.heap.size + 1 := by omega
      rw [World.cell?_setCell_other (h := by simp [hn]), World.cell?_setCell_other (h := by simp [hn]), World.cell?_setCell_other (h := by simp [hn]), World.cell?_setCell_other (h := by simp [hn]),
        World.cell?_setCell_other (h := by simp [hn1]), World.cell?_setCell_other (h := by simp [hn1]), World.cell?_setCell_other (h := by simp [hn1]), World.cell?_setCell_other (h := by simp [hn1])]
      exact HK.out wx hx)
  have HR1 : Hid (∀ wx, Below w3.heap.size w3 wx → Var2 wx (w.heap.size + 1 + 1) (.slice none 0 0) (.slice none 0 0)) := Lib.hid (fun wx hx => hr3.keep hx (by omega))
  have HP1 : Hid (∀ wx, Below w3.heap.size w3 wx → Calls Try.prog 91 #[.slice A1 n1 c1, .slice A4 n4 c4] wx fun e w' => ∃ v, e = .returned v ∧ Own w3.heap.size w' v (N1 * D2) ∧ Below wx.heap.size wx w' ∧ Below w3.heap.size w3 w') :=
    Lib.hid (fun wx hx => (times_v (K1.num.keep hx) (K2.den.keep hx)).mono fun e w' ⟨v, he, ho, hb⟩ => ⟨v, he, ho.low hx.size, hb, hx.trans (hb.mono hx.size)⟩)
  have HP2 : Hid (∀ wx, Below w3.heap.size w3 wx → Calls Try.prog 91 #[.slice A3 n3 c3, .slice A2 n2 c2] wx fun e w' => ∃ v, e = .returned v ∧ Own w3.heap.size w' v (N2 * D1) ∧ Below wx.heap.size wx w' ∧ Below w3.heap.size w3 w') :=
    Lib.hid (fun wx hx => (times_v (K2.num.keep hx) (K1.den.keep hx)).mono fun e w' ⟨v, he, ho, hb⟩ => ⟨v, he, ho.low hx.size, hb, hx.trans (hb.mono hx.size)⟩)
  have HP3 : Hid (∀ wx, Below w3.heap.size w3 wx → Calls Try.prog 91 #[.slice A2 n2 c2, .slice A4 n4 c4] wx fun e w' => ∃ v, e = .returned v ∧ Own w3.heap.size w' v (D1 * D2) ∧ Below wx.heap.size wx w' ∧ Below w3.heap.size w3 w') :=
    Lib.hid (fun wx hx => (times_v (K1.den.keep hx) (K2.den.keep hx)).mono fun e w' ⟨v, he, ho, hb⟩ => ⟨v, he, ho.low hx.size, hb, hx.trans (hb.mono hx.size)⟩)
  have HSM : Hid (∀ wx v1 v2, Below w3.heap.size w3 wx → Own w3.heap.size wx v1 (N1 * D2) → Own w3.heap.size wx v2 (N2 * D1) → Calls Try.prog 89 #[v1, v2] wx fun e w' => ∃ v, e = .returned v ∧ Own w3.heap.size w' v (N1 * D2 + N2 * D1) ∧ Below wx.heap.size wx w' ∧ Below w3.heap.size w3 w') :=
    Lib.hid (fun wx v1 v2 hx p1 p2 => (plus_o p1 p2 LS1 LS2).mono fun e w' ⟨v, he, ho, hb⟩ => ⟨v, he, ho.low hx.size, hb, hx.trans (hb.mono hx.size)⟩)
  have HL : Hid (∀ wx v1 v2, Below w3.heap.size w3 wx → Own w3.heap.size wx v1 (N1 * D2 + N2 * D1) → Own w3.heap.size wx v2 (D1 * D2) → Calls Try.prog 97 #[v1, v2] wx fun e w' => ∃ B1 m1 k1 B2 m2 k2, e = .returned (.agg #[.slice B1 m1 k1, .slice B2 m2 k2]) ∧ Own w3.heap.size w' (.slice B1 m1 k1) ((N1 * D2 + N2 * D1) / Nat.gcd (N1 * D2 + N2 * D1) (D1 * D2)) ∧ Own w3.heap.size w' (.slice B2 m2 k2) (D1 * D2 / Nat.gcd (N1 * D2 + N2 * D1) (D1 * D2)) ∧ Below w3.heap.size w3 w') :=
    Lib.hid (fun wx v1 v2 hx p1 p2 => (lowest_o p1 p2 LX LY hD).mono fun e w' ⟨B1, m1, k1, B2, m2, k2, he, P⟩ => ⟨B1, m1, k1, B2, m2, k2, he, P.one.low hx.size, P.two.low hx.size, hx.trans (P.below.mono hx.size)⟩)
  have HB : Hid (∀ wx B1 m1 k1 B2 m2 k2, Below w3.heap.size w3 wx → Own w3.heap.size wx (.slice B1 m1 k1) ((N1 * D2 + N2 * D1) / Nat.gcd (N1 * D2 + N2 * D1) (D1 * D2)) → Own w3.heap.size wx (.slice B2 m2 k2) (D1 * D2 / Nat.gcd (N1 * D2 + N2 * D1) (D1 * D2)) → Calls Try.prog 99 #[.agg #[.slice B1 m1 k1, .slice B2 m2 k2]] wx fun e w' => ∃ B1 m1 k1 B2 m2 k2, e = .returned (.tuple #[.agg #[.slice B1 m1 k1, .slice B2 m2 k2], .int .i64 (redC (N1 * D2 + N2 * D1) (D1 * D2))]) ∧ Own w3.heap.size w' (.slice B1 m1 k1) (redN (N1 * D2 + N2 * D1) (D1 * D2)) ∧ Own w3.heap.size w' (.slice B2 m2 k2) (redD (N1 * D2 + N2 * D1) (D1 * D2)) ∧ Below w3.heap.size w3 w') :=
    Lib.hid (fun wx B1 m1 k1 B2 m2 k2 hx p1 p2 => by
      have H := bounded_any wx w3.heap.size B1 B2 m1 k1 m2 k2 _ _ p1 p2
      rw [E1, E2, E3] at H
      exact H.mono fun e w' ⟨B1, m1, k1, B2, m2, k2, he, q1, q2, hb⟩ => ⟨B1, m1, k1, B2, m2, k2, he, q1, q2, hx.trans (hb.mono hx.size)⟩)
  have hx0 : Below w3.heap.size w3 w3.drew := (Below.refl _ _).drew
  clear hf3 hg3 hr3 K1 K2 E1 E2 E3 LX LY LS1 LS2 L1 L2 L3 L4 hD hx hx3
  go_wp2_with fail
  go_region_held3 (fun w' => w'.cell? ⟨w.heap.size, 0, none⟩ = some (.slice A1 n1 c1) ∧ w'.cell? ⟨w.heap.size, 1, none⟩ = some (.slice A2 n2 c2) ∧ w'.cell? ⟨w.heap.size + 1, 0, none⟩ = some (.slice A3 n3 c3) ∧ w'.cell? ⟨w.heap.size + 1, 1, none⟩ = some (.slice A4 n4 c4))
    (first
      | exact HS.out _ _ _ hxZ
      | with_reducible exact HK.out _ hxZ
      | with_reducible exact HK.out _ hxY
      | with_reducible exact HK.out _ hxD
      | with_reducible exact HK.out _ hxC
      | with_reducible exact HK.out _ hxB
      | with_reducible exact HK.out _ hxA
      | with_reducible exact HK.out _ hx0)
    (first
      | (go_at_call 91; with_reducible refine (HP1.out _ hx0).mono ?_; rintro e wA ⟨v1, rfl, o1, hA, hxA⟩)
      | (go_at_call 91; with_reducible refine (HP2.out _ hxA).mono ?_; rintro e wB ⟨v2, rfl, o2, hB', hxB⟩; replace o1 := Own.keep o1 hB')
      | (go_at_call 89; with_reducible refine (HSM.out _ _ _ hxB o1 o2).mono ?_; rintro e wC ⟨v3, rfl, o3, hC, hxC⟩)
      | (go_at_call 91; with_reducible refine (HP3.out _ hxC).mono ?_; rintro e wD ⟨v4, rfl, o4, hD', hxD⟩; replace o3 := Own.keep o3 hD')
      | (go_at_call 97; with_reducible refine (HL.out _ _ _ hxD o3 o4).mono ?_; rintro e wY ⟨C1, p1, t1, C2, p2, t2, rfl, r1, r2, hxY⟩)
      | (go_at_call 99; with_reducible refine (HB.out _ _ _ _ _ _ _ hxY r1 r2).mono ?_; rintro e wZ ⟨B1, m1, k1, B2, m2, k2, rfl, q1, q2, hxZ⟩; obtain ⟨g0, g1, u0, u1⟩ := HR1.out _ hxZ))
  all_goals
    have hRl : w.heap.size + 1 + 1 < w3.heap.size := by omega
    have hfin : Below w.heap.size w wZ := hB3.trans (hxZ.mono (by omega))
    have P1 := (Own.set (Own.set q1 (a := ⟨w.heap.size + 1 + 1, 0, none⟩) hRl (.slice B1 m1 k1)) (a := ⟨w.heap.size + 1 + 1, 1, none⟩) hRl (.slice B2 m2 k2)).low (B' := w.heap.size) (by omega)
    have P2 := (Own.set (Own.set q2 (a := ⟨w.heap.size + 1 + 1, 0, none⟩) hRl (.slice B1 m1 k1)) (a := ⟨w.heap.size + 1 + 1, 1, none⟩) hRl (.slice B2 m2 k2)).low (B' := w.heap.size) (by omega)
    have P3 := (hfin.setCell (p := ⟨w.heap.size + 1 + 1, 0, none⟩) (by show w.heap.size ≤ w.heap.size + 1 + 1; omega) (.slice B1 m1 k1)).setCell (p := ⟨w.heap.size + 1 + 1, 1, none⟩) (by show w.heap.size ≤ w.heap.size + 1 + 1; omega) (.slice B2 m2 k2)
    have PV := (HR1.out _ hxZ).stored (.slice B1 m1 k1) (.slice B2 m2 k2)
    obtain ⟨wf, hwf⟩ : ∃ wf, wf = (wZ.setCell ⟨w.heap.size + 1 + 1, 0, none⟩ (.slice B1 m1 k1)).setCell ⟨w.heap.size + 1 + 1, 1, none⟩ (.slice B2 m2 k2) := ⟨_, rfl⟩
    rw [← hwf] at P1 P2 P3 PV
    have HF := Lib.hid hwf
    have HP : Hid (Pair w wf (.slice B1 m1 k1) (.slice B2 m2 k2) _ _) := Lib.hid ⟨P1, P2, P3⟩
    clear hwf P1 P2 P3 q1 q2
    go_wp2
    rw [← HF.out]
    obtain ⟨q0, q1, _, _⟩ := PV
    refine bodyPost_ret (by simp [results, Try.results60, q0, q1, go_sem]; rfl) rfl ?_
    exact ⟨_, _, rfl, HP.out⟩
end Go.Proofs.Ythplhlcdlnedfaa

/-
  The specification's fractions, part F: comparisons.
-/
namespace Go.Proofs.Ythplhlcdlnedfaa
open Go.RowKit MN

set_option linter.unusedSimpArgs false in
set_option maxRecDepth 100000 in
set_option maxHeartbeats 2000000 in
theorem rCmp2_any (w : World) (A1 A2 A3 A4 : Option Addr) (n1 n2 n3 n4 c1 c2 c3 c4 : Nat) (xs ys zs us : List Nat) (a1 : Arg w A1 n1 c1 xs) (a2 : Arg w A2 n2 c2 ys) (a3 : Arg w A3 n3 c3 zs) (a4 : Arg w A4 n4 c4 us) :
    Calls Try.prog 59 #[.agg #[.slice A1 n1 c1, .slice A2 n2 c2], .agg #[.slice A3 n3 c3, .slice A4 n4 c4]] w fun e w' => e = .returned (.tuple #[.int .i64 (f2I xs ys zs us (ordv (nv xs * nv us) (nv zs * nv ys))), .int .i64 (f2C xs ys zs us 0)]) ∧ Below w.heap.size w w' := by
  obtain ⟨w1, hw1⟩ : ∃ w1, w1 = (w.alloc (.cells #[.slice A1 n1 c1, .slice A2 n2 c2] 38)).alloc (.cells #[.slice A3 n3 c3, .slice A4 n4 c4] 38) := ⟨_, rfl⟩
  have hB : Below w.heap.size w w1 := by rw [hw1]; exact ((Below.refl _ _).alloc (Nat.le_refl _) _).alloc (by simp) _
  have hs1 : w1.heap.size = w.heap.size + 1 + 1 := by rw [hw1]; simp
  have hg1 : Var2 w1 (w.heap.size + 1) (.slice A3 n3 c3) (.slice A4 n4 c4) := by
    rw [hw1]
    have := var2_new (w.alloc (.cells #[.slice A1 n1 c1, .slice A2 n2 c2] 38)) (.slice A3 n3 c3) (.slice A4 n4 c4) 38
    simpa using this
  have hf1 : Var2 w1 w.heap.size (.slice A1 n1 c1) (.slice A2 n2 c2) := by
    rw [hw1]
    exact (var2_new w (.slice A1 n1 c1) (.slice A2 n2 c2) 38).keep (below_alloc _ _) (by simp)
  have H0 := Lib.hid hw1
  have V1 := validFr_any A1 n1 c1 xs A2 n2 c2 ys w1 (a1.keep hB) (a2.keep hB)
  have V2 : ∀ wx, Below w1.heap.size w1 wx → Calls Try.prog 98 #[.agg #[.slice A3 n3 c3, .slice A4 n4 c4]] wx fun e w' => e = .returned (.bool (frB zs us)) ∧ Below w1.heap.size w1 w' :=
    fun wx hx => (validFr_any A3 n3 c3 zs A4 n4 c4 us wx ((a3.keep hB).keep hx) ((a4.keep hB).keep hx)).mono fun e w' ⟨he, hb⟩ => ⟨he, hx.trans (hb.mono hx.size)⟩
  clear hw1
  by_cases f1 : FrOk xs ys
  case neg =>
    have fn : ¬ (FrOk xs ys ∧ FrOk zs us) := fun e => f1 e.1
    rw [frB_no f1] at V1
    have V1 := Lib.hid V1
    unfold f2C f2I
    rw [if_neg fn, if_neg fn]
    obtain ⟨x0, x1, _, _⟩ := hf1
    clear f1 fn V2 a1 a2 a3 a4 hg1
    go_enter Try.func59, Try.ntmps59
    go_wp2_with fail
    rw [← H0.out]
    refine V1.out.mono ?_
    rintro e w2 ⟨rfl, hx⟩
    have hfin := hB.trans (hx.mono (by omega))
    go_wp2
    go_ret2
    exact ⟨rfl, hfin⟩
  by_cases f2 : FrOk zs us
  case neg =>
    have fn : ¬ (FrOk xs ys ∧ FrOk zs us) := fun e => f2 e.2
    rw [frB_yes f1] at V1
    rw [frB_no f2] at V2
    have V1 := Lib.hid V1
    have V2 := Lib.hid V2
    unfold f2C f2I
    rw [if_neg fn, if_neg fn]
    obtain ⟨x0, x1, _, _⟩ := hf1
    clear f1 f2 fn a1 a2 a3 a4
    go_enter Try.func59, Try.ntmps59
    go_wp2_with fail
    rw [← H0.out]
    refine V1.out.mono ?_
    rintro e w2 ⟨rfl, hx⟩
    obtain ⟨y0, y1, _, _⟩ := hg1.keep hx (by omega)
    go_wp2_with fail
    refine (V2.out _ hx).mono ?_
    rintro e w3 ⟨rfl, hx3⟩
    have hfin := hB.trans (hx3.mono (by omega))
    clear x0 x1 y0 y1
    go_wp2
    go_ret2
    exact ⟨rfl, hfin⟩
  have fn : FrOk xs ys ∧ FrOk zs us := ⟨f1, f2⟩
  rw [frB_yes f1] at V1
  rw [frB_yes f2] at V2
  have V1 := Lib.hid V1
  have V2 := Lib.hid V2
  unfold f2C f2I
  rw [if_pos fn, if_pos fn]
  have F1 := fr_of a1 a2 f1
  have F2 := fr_of a3 a4 f2
  obtain ⟨N1, hN1⟩ : ∃ x, x = nv xs := ⟨_, rfl⟩
  obtain ⟨D1, hD1⟩ : ∃ x, x = nv ys := ⟨_, rfl⟩
  obtain ⟨N2, hN2⟩ : ∃ x, x = nv zs := ⟨_, rfl⟩
  obtain ⟨D2, hD2⟩ : ∃ x, x = nv us := ⟨_, rfl⟩
  rw [← hN1, ← hD1] at F1
  rw [← hN2, ← hD2] at F2
  rw [← hN1, ← hD1, ← hN2, ← hD2]
  clear hN1 hD1 hN2 hD2 f1 f2 fn a1 a2 a3 a4
  have F1 := Lib.hid (F1.keep hB)
  have F2 := Lib.hid (F2.keep hB)
  obtain ⟨x0, x1, _, _⟩ := hf1
  go_enter Try.func59, Try.ntmps59
  go_wp2_with fail
  rw [← H0.out]
  refine V1.out.mono ?_
  rintro e w2 ⟨rfl, hx⟩
  obtain ⟨y0, y1, _, _⟩ := hg1.keep hx (by omega)
  go_wp2_with fail
  refine (V2.out _ hx).mono ?_
  rintro e w3 ⟨rfl, hx3⟩
  have hf3 : Var2 w3 w.heap.size (.slice A1 n1 c1) (.slice A2 n2 c2) := Var2.keep ⟨x0, x1, by assumption, by assumption⟩ hx3 (by omega)
  have hg3 := hg1.keep hx3 (by omega)
  have hs3 : w.heap.size + 2 ≤ w3.heap.size := by have := hx3.size; omega
  have K1 := F1.out.keep hx3
  have K2 := F2.out.keep hx3
  have hB3 := hB.trans (hx3.mono (by omega))
  clear x0 x1 y0 y1 hg1 V1 V2 F1 F2
  have HK : Hid (∀ wx, Below w3.heap.size w3 wx → wx.cell? ⟨w.heap.size, 0, none⟩ = some (.slice A1 n1 c1) ∧ wx.cell? ⟨w.heap.size, 1, none⟩ = some (.slice A2 n2 c2) ∧ wx.cell? ⟨w.heap.size + 1, 0, none⟩ = some (.slice A3 n3 c3) ∧ wx.cell? ⟨w.heap.size + 1, 1, none⟩ = some (.slice A4 n4 c4)) :=
    Lib.hid (fun wx hx => ⟨(hf3.keep hx (by omega)).c0, (hf3.keep hx (by omega)).c1, (hg3.keep hx (by omega)).c0, (hg3.keep hx (by omega)).c1⟩)
  have HP1 : Hid (∀ wx, Below w3.heap.size w3 wx → Calls Try.prog 91 #[.slice A1 n1 c1, .slice A4 n4 c4] wx fun e w' => ∃ v, e = .returned v ∧ Own w3.heap.size w' v (N1 * D2) ∧ Below wx.heap.size wx w' ∧ Below w3.heap.size w3 w') :=
    Lib.hid (fun wx hx => (times_v (K1.num.keep hx) (K2.den.keep hx)).mono fun e w' ⟨v, he, ho, hb⟩ => ⟨v, he, ho.low hx.size, hb, hx.trans (hb.mono hx.size)⟩)
  have HP2 : Hid (∀ wx, Below w3.heap.size w3 wx → Calls Try.prog 91 #[.slice A3 n3 c3, .slice A2 n2 c2] wx fun e w' => ∃ v, e = .returned v ∧ Own w3.heap.size w' v (N2 * D1) ∧ Below wx.heap.size wx w' ∧ Below w3.heap.size w3 w') :=
    Lib.hid (fun wx hx => (times_v (K2.num.keep hx) (K1.den.keep hx)).mono fun e w' ⟨v, he, ho, hb⟩ => ⟨v, he, ho.low hx.size, hb, hx.trans (hb.mono hx.size)⟩)
  have HO : Hid (∀ wx v1 v2, Below w3.heap.size w3 wx → Own w3.heap.size wx v1 (N1 * D2) → Own w3.heap.size wx v2 (N2 * D1) → Calls Try.prog 87 #[v1, v2] wx fun e w' => e = .returned (.int .i64 (ordv (N1 * D2) (N2 * D1))) ∧ Below w3.heap.size w3 w') :=
    Lib.hid (fun wx v1 v2 hx p1 p2 => (order_o p1 p2).mono fun e w' ⟨he, hw⟩ => ⟨he, by rw [← hw]; exact hx⟩)
  have hx0 : Below w3.heap.size w3 w3.drew := (Below.refl _ _).drew
  clear hf3 hg3 K1 K2 hx hx3
  go_wp2_with fail
  go_region_held3 (fun w' => w'.cell? ⟨w.heap.size, 0, none⟩ = some (.slice A1 n1 c1) ∧ w'.cell? ⟨w.heap.size, 1, none⟩ = some (.slice A2 n2 c2) ∧ w'.cell? ⟨w.heap.size + 1, 0, none⟩ = some (.slice A3 n3 c3) ∧ w'.cell? ⟨w.heap.size + 1, 1, none⟩ = some (.slice A4 n4 c4))
    (first
      | with_reducible exact HK.out _ hxC
      | with_reducible exact HK.out _ hxB
      | with_reducible exact HK.out _ hxA
      | with_reducible exact HK.out _ hx0)
    (first
      | (go_at_call 91; with_reducible refine (HP1.out _ hxB).mono ?_; rintro e wA ⟨v1, rfl, o1, hA, hxA⟩; replace o2 := Own.keep o2 hA)
      | (go_at_call 91; with_reducible refine (HP2.out _ hxA).mono ?_; rintro e wB ⟨v2, rfl, o2, hB', hxB⟩; replace o1 := Own.keep o1 hB')
      | (go_at_call 91; with_reducible refine (HP1.out _ hx0).mono ?_; rintro e wA ⟨v1, rfl, o1, hA, hxA⟩)
      | (go_at_call 91; with_reducible refine (HP2.out _ hx0).mono ?_; rintro e wB ⟨v2, rfl, o2, hB', hxB⟩)
      | (go_at_call 87; with_reducible refine (HO.out _ _ _ hxB o1 o2).mono ?_; rintro e wC ⟨rfl, hxC⟩)
      | (go_at_call 87; with_reducible refine (HO.out _ _ _ hxA o1 o2).mono ?_; rintro e wC ⟨rfl, hxC⟩))
  all_goals
    have hfin : Below w.heap.size w wC := hB3.trans (hxC.mono (by omega))
    go_wp2
    go_ret2
    exact ⟨rfl, hfin⟩
end Go.Proofs.Ythplhlcdlnedfaa

/-
  A fraction opened: its two slices of digits, with their lengths as the datum's.
-/
namespace Go.Proofs.Ythplhlcdlnedfaa
open Go.ChangeShapes Go.WideShapes Go.ChangeAt Go.RowKit Go.Joins MN
set_option linter.unusedVariables false

theorem len_of_datum {H : Type} {n c : Nat} {zs : List Int} {e s : List (DataW H)} (hl : n ≤ c) (hz : zs.length = c) (he : e = lits .u32 (zs.take n)) : e.length = n := by
  subst he; simp [lits]; omega

set_option maxRecDepth 100000 in
theorem open_one {H : Type} {enc : TypeId × Value → H} {W : World} {fuel : Nat} {v : Value} {y : DataW H × List MemPlace}
    (hf : DataW.trod enc Try.prog W 0 (fun _ => true) true fuel 23 [v] = some y) : ∃ A n c xs, v = .slice A n c ∧ Arg W A n c xs ∧ (n = 0 ∨ ∃ elems spare, y.1 = .slice elems spare ∧ elems.length = n) := by
  rcases open_ints Try.underlying23 Try.underlying24 (by kernel_rfl) hf with ⟨hcs, hx⟩ | ⟨x, l, c', zs, hcs, _, hl, hm, hz, hx, hcell, hwz⟩
  · simp only [List.cons.injEq, and_true] at hcs
    subst hcs
    obtain ⟨xs, ax⟩ := arg_of (w := W) (zs := []) (.inl ⟨rfl, rfl, rfl, rfl⟩)
    exact ⟨none, 0, 0, xs, rfl, ax, .inl rfl⟩
  · simp only [List.cons.injEq, and_true] at hcs
    subst hcs
    have hz' : zs.length = c' := by simpa using hz
    obtain ⟨xs, ax⟩ := arg_of (w := W) (.inr ⟨x, rfl, hl, hm, hz', hcell, hwz⟩)
    exact ⟨some x, l, c', xs, rfl, ax, .inr ⟨lits .u32 (zs.take l), lits .u32 (zs.drop l), by rw [hx], by simp [lits]; omega⟩⟩

set_option maxRecDepth 100000 in
theorem open_frac {H : Type} {enc : TypeId × Value → H} {W : World} {base : Nat} {v : Value} {d : DataW H} {p : List MemPlace}
    (hok : Value.okWide Try.prog W .any base 38 v) (h : DataW.Trod enc Try.prog W 0 (fun _ => true) true 38 v d p) :
    ∃ A1 n1 c1 xs A2 n2 c2 ys y0 y1, v = .agg #[.slice A1 n1 c1, .slice A2 n2 c2] ∧ Arg W A1 n1 c1 xs ∧ Arg W A2 n2 c2 ys ∧ d = .agg [y0, y1] ∧ (n1 = 0 ∨ ∃ elems spare, y0 = .slice elems spare ∧ elems.length = n1) ∧ (n2 = 0 ∨ ∃ elems spare, y1 = .slice elems spare ∧ elems.length = n2) := by
  obtain ⟨v0, v1, y0, y1, n, rfl, hd, -, h0, h1⟩ := open_agg2 Try.underlying38 (by kernel_rfl) (by kernel_rfl) hok h
  obtain ⟨A1, n1, c1, xs, rfl, a1, e1⟩ := open_one h0
  obtain ⟨A2, n2, c2, ys, rfl, a2, e2⟩ := open_one h1
  exact ⟨A1, n1, c1, xs, A2, n2, c2, ys, y0.1, y1.1, rfl, a1, a2, hd, e1, e2⟩

theorem sized_frac {H : Type} {ts : List TypeId} {ds : List (DataW H)} (h : (DataW.weightsEach Try.prog ts ds).all (· ≤ reachBytes) = true) {j : Nat} {y0 y1 : DataW H} (ht : ts[j]? = some 38) (hd : ds[j]? = some (.agg [y0, y1])) :
    (DataW.weightsEach Try.prog [23, 23] [y0, y1]).all (· ≤ reachBytes) = true := by
  refine List.all_eq_true.2 (fun n hn => ?_)
  exact List.all_eq_true.1 h _ (DataW.weights_mem_each ht hd n (by simpa [DataW.weights, Try.underlying38] using hn))
end Go.Proofs.Ythplhlcdlnedfaa
