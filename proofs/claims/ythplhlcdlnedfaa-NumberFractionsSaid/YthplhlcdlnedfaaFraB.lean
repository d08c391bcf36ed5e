/-
  Fractions, part B: reduce, Ratio.
-/
import Derived.Test.YthplhlcdlnedfaaFraA
namespace Go.Proofs.Ythplhlcdlnedfaa
open Go.RowKit MN

/-- A fraction and an error are returned. -/
def FrRes (w : World) (code : Int) (N D : Nat) (e : Ending) (w' : World) : Prop :=
  ∃ v1 v2, e = .returned (.tuple #[.agg #[v1, v2], .int .i64 code]) ∧ Pair w w' v1 v2 N D

/-- What reduce returns for two numbers. -/
def redBig (a b : Nat) : Prop := Big (a / Nat.gcd a b) ∨ Big (b / Nat.gcd a b)
instance (a b : Nat) : Decidable (redBig a b) := by unfold redBig; infer_instance
def redC (a b : Nat) : Int := if redBig a b then 4 else 0
def redN (a b : Nat) : Nat := if redBig a b then 0 else a / Nat.gcd a b
def redD (a b : Nat) : Nat := if redBig a b then 0 else b / Nat.gcd a b

set_option maxRecDepth 100000 in
set_option maxHeartbeats 2000000 in
theorem reduce_any (A1 : Option Addr) (n1 c1 : Nat) (xs : List Nat) (A2 : Option Addr) (n2 c2 : Nat) (ys : List Nat) (w : World) (h : Arg w A1 n1 c1 xs) (k : Arg w A2 n2 c2 ys) (hn1 : n1 ≤ 900) (hn2 : n2 ≤ 900) (hy : nv ys ≠ 0) :
    Calls Try.prog 80 #[.slice A1 n1 c1, .slice A2 n2 c2] w (FrRes w (redC (nv xs) (nv ys)) (redN (nv xs) (nv ys)) (redD (nv xs) (nv ys))) := by
  obtain ⟨w0, hw0⟩ : ∃ w0, w0 = w.alloc (.cells #[.slice none 0 0, .slice none 0 0] 38) := ⟨_, rfl⟩
  have hb0 := below_alloc w (.cells #[.slice none 0 0, .slice none 0 0] 38)
  have hs0 : w0.heap.size = w.heap.size + 1 := by rw [hw0]; simp
  have hv0 := var2_new w (.slice none 0 0) (.slice none 0 0) 38
  rw [← hw0] at hb0 hv0
  have HW := Lib.hid hw0
  clear hw0
  have h0 := h.keep hb0
  have k0 := k.keep hb0
  have hg : Nat.gcd (nv xs) (nv ys) ≠ 0 := fun e => hy (Nat.eq_zero_of_gcd_eq_zero_right e)
  obtain ⟨G, hG⟩ : ∃ G, G = Nat.gcd (nv xs) (nv ys) := ⟨_, rfl⟩
  have C0 := Lib.hid (common_any A1 A2 n1 c1 n2 c2 xs ys w0 h0 k0 hn1 hn2)
  clear h k
  have HH := Lib.hid h0
  have HK := Lib.hid k0
  clear h0 k0
  go_enter Try.func80, Try.ntmps80
  go_wp2_with fail
  rw [← HW.out]
  refine C0.out.mono ?_
  rintro e w1 ⟨A3, m3, c3, rfl, ho1, hb1⟩
  have hl3 := (own_num ho1).2
  have ha3 := (own_num ho1).1
  have hm3 : 0 < m3 := by rw [← hl3]; exact List.length_pos_iff.2 (digs_pos (by omega) (by have := hg; unfold nv at this; omega))
  have hm9 : m3 ≤ n2 := by
    rw [← hl3]
    refine digs_len (by omega) _ _ (Nat.lt_of_le_of_lt (Nat.gcd_le_right _ (Nat.pos_of_ne_zero hy)) ?_)
    rw [← HK.out.rd.len]; exact val_lt ys HK.out.low
  have hs1 := hb1.size
  have hw1 : w.heap.size < w1.heap.size := by omega
  rw [← hG] at hl3 ha3 ho1
  have htop3 : dg (digs 4294967296 G) (m3 - 1) ≠ 0 := by
    rcases digs_top 4294967296 G (by omega) with e | e
    · rw [e] at hl3; simp at hl3; omega
    · rwa [hl3] at e
  obtain ⟨q3, rfl⟩ : ∃ x, m3 = x + 1 := ⟨m3 - 1, by omega⟩
  rw [Nat.add_sub_cancel] at htop3
  have D1 := Lib.hid (divide_any A1 A3 n1 c1 q3 c3 xs _ w1 (HH.out.keep hb1).rd ha3.rd HH.out.low ha3.low htop3 (by omega) (by omega))
  rw [digs_val _ _ (by omega)] at D1
  go_wp2_with fail
  refine D1.out.mono ?_
  rintro e w2 ⟨A4, m4, c4, A5, m5, c5, rfl, ho4, ho5, hb2⟩
  clear ho5 D1 C0
  have hB2 := hb1.trans (hb2.mono hs1)
  have hs2 := hb2.size
  have D2 := Lib.hid (divide_any A2 A3 n2 c2 q3 c3 ys _ w2 (HK.out.keep hB2).rd (ha3.keep hb2).rd HK.out.low ha3.low htop3 (by omega) (by omega))
  rw [digs_val _ _ (by omega)] at D2
  go_wp2_with fail
  refine D2.out.mono ?_
  rintro e w3 ⟨A6, m6, c6, A7, m7, c7, rfl, ho6, ho7, hb3⟩
  clear ho7 D2
  have hB3 := hB2.trans (hb3.mono hB2.size)
  have hv3 := hv0.keep hB3 (by omega)
  have hbw := hb0.trans (hB3.mono (by omega))
  have O1 := (⟨A4, m4, c4, rfl, own_low (own_keep ho4 hb3) hs1⟩ : Own w0.heap.size w3 (.slice A4 m4 c4) (nv xs / G))
  have O2 := (⟨A6, m6, c6, rfl, own_low ho6 hB2.size⟩ : Own w0.heap.size w3 (.slice A6 m6 c6) (nv ys / G))
  have hl4 := (own_num ho4).2
  have hl6 := (own_num ho6).2
  have hBig : redBig (nv xs) (nv ys) ↔ (16 < m4 ∨ 16 < m6) := by
    unfold redBig Big
    rw [← hG, ← hl4, ← hl6]
  clear ho1 ho4 ho6 ha3 hl3 htop3 hB2 hB3 hl4 hl6 hb1 hb2 hb3
  have F1 := Lib.hid (Pair.shut (w := w) O1 O2 (by omega) hbw)
  have F0 := Lib.hid (Pair.shut (w := w) (Own.nil w0.heap.size w3) (Own.nil w0.heap.size w3) (by omega) hbw)
  have V1 := Lib.hid (hv3.stored (.slice A4 m4 c4) (.slice A6 m6 c6))
  have V0 := Lib.hid (hv3.stored (.slice none 0 0) (.slice none 0 0))
  obtain ⟨k0, k1, f0, f1⟩ := hv3
  clear O1 O2 hv0 HH HK hg hy
  rcases Nat.lt_or_ge 16 m4 with h4 | h4
  · have R := hBig.2 (.inl h4)
    have RC : Hid (redC (nv xs) (nv ys) = 4) := Lib.hid (if_pos R)
    have RN : Hid (redN (nv xs) (nv ys) = 0) := Lib.hid (if_pos R)
    have RD : Hid (redD (nv xs) (nv ys) = 0) := Lib.hid (if_pos R)
    clear R hBig
    obtain ⟨wf, hwf⟩ : ∃ wf, wf = (w3.setCell ⟨w.heap.size, 0, none⟩ (.slice none 0 0)).setCell ⟨w.heap.size, 1, none⟩ (.slice none 0 0) := ⟨_, rfl⟩
    rw [← hwf] at F0 V0
    have HF := Lib.hid hwf
    clear hwf V1 F1
    go_wp2_with (first
      | (go_at_call 79; refine (tooLarge_yes _ _ _ _ h4).mono ?_; rintro e w' ⟨rfl, rfl⟩))
    rw [← HF.out]
    obtain ⟨q0, q1, _, _⟩ := V0.out
    refine bodyPost_ret (by simp [results, Try.results80, q0, q1, go_sem]; rfl) rfl ?_
    exact ⟨_, _, by rw [RC.out], by rw [RN.out, RD.out]; exact F0.out⟩
  · rcases Nat.lt_or_ge 16 m6 with h6 | h6
    · have R := hBig.2 (.inr h6)
      have RC : Hid (redC (nv xs) (nv ys) = 4) := Lib.hid (if_pos R)
      have RN : Hid (redN (nv xs) (nv ys) = 0) := Lib.hid (if_pos R)
      have RD : Hid (redD (nv xs) (nv ys) = 0) := Lib.hid (if_pos R)
      clear R hBig
      obtain ⟨wf, hwf⟩ : ∃ wf, wf = (w3.setCell ⟨w.heap.size, 0, none⟩ (.slice none 0 0)).setCell ⟨w.heap.size, 1, none⟩ (.slice none 0 0) := ⟨_, rfl⟩
      rw [← hwf] at F0 V0
      have HF := Lib.hid hwf
      clear hwf V1 F1
      go_wp2_with fail
      refine (tooLarge_no A4 _ _ _ h4).mono ?_
      rintro e w' ⟨rfl, rfl⟩
      go_wp2_with fail
      refine (tooLarge_yes A6 _ _ _ h6).mono ?_
      rintro e w' ⟨rfl, rfl⟩
      go_wp2
      rw [← HF.out]
      obtain ⟨q0, q1, _, _⟩ := V0.out
      refine bodyPost_ret (by simp [results, Try.results80, q0, q1, go_sem]; rfl) rfl ?_
      exact ⟨_, _, by rw [RC.out], by rw [RN.out, RD.out]; exact F0.out⟩
    · have R : ¬ redBig (nv xs) (nv ys) := fun e => (hBig.1 e).elim (by omega) (by omega)
      have RC : Hid (redC (nv xs) (nv ys) = 0) := Lib.hid (if_neg R)
      have RN : Hid (redN (nv xs) (nv ys) = nv xs / G) := Lib.hid (by rw [hG]; exact if_neg R)
      have RD : Hid (redD (nv xs) (nv ys) = nv ys / G) := Lib.hid (by rw [hG]; exact if_neg R)
      clear R hBig
      obtain ⟨wf, hwf⟩ : ∃ wf, wf = (w3.setCell ⟨w.heap.size, 0, none⟩ (.slice A4 m4 c4)).setCell ⟨w.heap.size, 1, none⟩ (.slice A6 m6 c6) := ⟨_, rfl⟩
      rw [← hwf] at F1 V1
      have HF := Lib.hid hwf
      clear hwf V0 F0
      go_wp2_with fail
      refine (tooLarge_no A4 _ _ _ h4).mono ?_
      rintro e w' ⟨rfl, rfl⟩
      go_wp2_with fail
      refine (tooLarge_no A6 _ _ _ h6).mono ?_
      rintro e w' ⟨rfl, rfl⟩
      go_wp2
      rw [← HF.out]
      obtain ⟨q0, q1, _, _⟩ := V1.out
      refine bodyPost_ret (by simp [results, Try.results80, q0, q1, go_sem]; rfl) rfl ?_
      exact ⟨_, _, by rw [RC.out], by rw [RN.out, RD.out]; exact F1.out⟩
end Go.Proofs.Ythplhlcdlnedfaa
