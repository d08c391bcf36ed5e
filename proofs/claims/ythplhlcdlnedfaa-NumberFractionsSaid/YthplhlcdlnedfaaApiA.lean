/-
  The functions that the document lists, part A: which numbers are valid; checkAll, Check, tooLarge.
-/
import Derived.Test.YthplhlcdlnedfaaDivH
namespace Go.Proofs.Ythplhlcdlnedfaa
open Go.RowKit MN

/-- A slice that came in, read as digits. -/
structure Arg (w : World) (A : Option Addr) (n c : Nat) (xs : List Nat) : Prop where
  rd : Rd .u32 w A n c xs
  low : Low 4294967296 xs

theorem Arg.keep {w w' : World} {A : Option Addr} {n c : Nat} {xs : List Nat} (h : Arg w A n c xs) (hb : Below w.heap.size w w') : Arg w' A n c xs := ⟨h.rd.keep hb, h.low⟩

/-- A valid number. -/
def Vd (xs : List Nat) : Prop := xs.length ≤ 16 ∧ Top xs

instance (xs : List Nat) : Decidable (Vd xs) := by unfold Vd Top; infer_instance

/-- The error of a number, of two numbers. -/
def ck (xs : List Nat) : Int := if Vd xs then 0 else 8
def ck2 (xs ys : List Nat) : Int := if Vd xs ∧ Vd ys then 0 else 8

theorem ck_yes {xs : List Nat} (h : Vd xs) : ck xs = 0 := if_pos h
theorem ck_no {xs : List Nat} (h : ¬ Vd xs) : ck xs = 8 := if_neg h
theorem ck2_yes {xs ys : List Nat} (h : Vd xs) (k : Vd ys) : ck2 xs ys = 0 := if_pos ⟨h, k⟩
theorem ck2_no1 {xs ys : List Nat} (h : ¬ Vd xs) : ck2 xs ys = 8 := if_neg fun k => h k.1
theorem ck2_no2 {xs ys : List Nat} (h : ¬ Vd ys) : ck2 xs ys = 8 := if_neg fun k => h k.2

/-- The four makes of a slice of digits. -/
theorem num_ways {w : World} {A : Option Addr} {n c : Nat} {xs : List Nat} (h : Arg w A n c xs) :
    ((16 < n ∧ ¬ Vd xs) ∨ (0 < n ∧ n ≤ 16 ∧ (∃ b off, A = some ⟨b, off, none⟩ ∧ w.cell? ⟨b, off + (n - 1), none⟩ = some (.int .u32 0)) ∧ ¬ Vd xs)) ∨
    ((n = 0 ∧ Vd xs) ∨ (0 < n ∧ n ≤ 16 ∧ (∃ b off, ∃ D : Nat, A = some ⟨b, off, none⟩ ∧ w.cell? ⟨b, off + (n - 1), none⟩ = some (.int .u32 (D : Int)) ∧ ((D : Int) == 0) = false) ∧ Vd xs)) := by
  have hlen := h.rd.len
  rcases Nat.lt_or_ge 16 n with h1 | h1
  · exact .inl (.inl ⟨h1, fun k => by have := k.1; omega⟩)
  · rcases Nat.eq_zero_or_pos n with h0 | h0
    · subst h0
      exact .inr (.inl ⟨rfl, by omega, .inl (List.eq_nil_of_length_eq_zero hlen)⟩)
    · obtain ⟨b, off, hA, hc⟩ := h.rd.at_ h0
      have hcell := hc (n - 1) (by omega)
      by_cases hz : dg xs (n - 1) = 0
      · refine .inl (.inr ⟨h0, h1, ⟨b, off, hA, by rw [hcell, hz]; rfl⟩, fun k => ?_⟩)
        rcases k.2 with k | k
        · subst k; simp at hlen; omega
        · rw [hlen] at k; exact k hz
      · exact .inr (.inr ⟨h0, h1, ⟨b, off, _, hA, hcell, by rw [beq_eq_false_iff_ne]; omega⟩, by omega, .inr (by rw [hlen]; exact hz)⟩)

theorem tooLarge_any (A : Option Addr) (n c : Nat) (w : World) : Calls Try.prog 79 #[.slice A n c] w fun e w' => e = .returned (.bool (decide (16 < n))) ∧ w = w' := by
  go_enter Try.func79, Try.ntmps79
  go_wp2
  go_ret
  exact ⟨by simp; omega, rfl⟩

theorem tooLarge_yes (A : Option Addr) (n c : Nat) (w : World) (h : 16 < n) : Calls Try.prog 79 #[.slice A n c] w fun e w' => e = .returned (.bool true) ∧ w = w' :=
  (tooLarge_any A n c w).mono fun _ _ ⟨he, hw⟩ => ⟨by rw [he, decide_eq_true h], hw⟩
theorem tooLarge_no (A : Option Addr) (n c : Nat) (w : World) (h : n ≤ 16) : Calls Try.prog 79 #[.slice A n c] w fun e w' => e = .returned (.bool false) ∧ w = w' :=
  (tooLarge_any A n c w).mono fun _ _ ⟨he, hw⟩ => ⟨by rw [he, decide_eq_false (by omega)], hw⟩

set_option maxRecDepth 100000 in
set_option maxHeartbeats 1000000 in
theorem checkAll1_any (A : Option Addr) (n c : Nat) (xs : List Nat) (g : Nat) (w : World) (h : Arg w A n c xs) (hg : w.cell? ⟨g, 0, none⟩ = some (.slice A n c)) :
    Calls Try.prog 68 #[.slice (some ⟨g, 0, none⟩) 1 1] w fun e w' => e = .returned (.int .i64 (ck xs)) ∧ w = w' := by
  have hca := h.rd.cap
  have hcl := h.rd.le
  unfold maxLen at hca
  rcases num_ways h with (⟨h1, hv⟩ | ⟨h1, h2, ⟨b, off, rfl, hc⟩, hv⟩) | (⟨rfl, hv⟩ | ⟨h1, h2, ⟨b, off, D, rfl, hc, hD⟩, hv⟩)
  · have H := Lib.hid (ck_no hv)
    clear h
    go_enter Try.func68, Try.ntmps68
    go_wp2
    refine wp_loop_rounds 1 ?_
    rw [rounds_succ]
    go_wp2_with (go_at_call 79; refine (tooLarge_yes _ _ _ _ (by omega)).mono ?_; rintro e w' ⟨rfl, rfl⟩)
    go_ret
    exact ⟨by rw [H.out]; rfl, rfl⟩
  · have H := Lib.hid (ck_no hv)
    clear h
    go_enter Try.func68, Try.ntmps68
    go_wp2
    refine wp_loop_rounds 1 ?_
    rw [rounds_succ]
    go_wp2_with (go_at_call 79; refine (tooLarge_no _ _ _ _ (by omega)).mono ?_; rintro e w' ⟨rfl, rfl⟩)
    go_ret
    exact ⟨by rw [H.out]; rfl, rfl⟩
  · have H := Lib.hid (ck_yes hv)
    clear h
    go_enter Try.func68, Try.ntmps68
    go_wp2
    refine wp_loop_rounds 2 ?_
    rw [rounds_succ]
    go_wp2_with (go_at_call 79; refine (tooLarge_no _ _ _ _ (by omega)).mono ?_; rintro e w' ⟨rfl, rfl⟩)
    rw [rounds_succ]
    go_wp2
    go_ret
    exact ⟨by rw [H.out]; rfl, rfl⟩
  · have H := Lib.hid (ck_yes hv)
    clear h
    go_enter Try.func68, Try.ntmps68
    go_wp2
    refine wp_loop_rounds 2 ?_
    rw [rounds_succ]
    go_wp2_with (go_at_call 79; refine (tooLarge_no _ _ _ _ (by omega)).mono ?_; rintro e w' ⟨rfl, rfl⟩)
    rw [rounds_succ]
    go_wp2
    go_ret
    exact ⟨by rw [H.out]; rfl, rfl⟩

set_option maxRecDepth 100000 in
set_option maxHeartbeats 2000000 in
theorem checkAll2_any (A1 : Option Addr) (n1 c1 : Nat) (xs : List Nat) (A2 : Option Addr) (n2 c2 : Nat) (ys : List Nat) (g : Nat) (w : World) (h : Arg w A1 n1 c1 xs) (k : Arg w A2 n2 c2 ys) (hg : w.cell? ⟨g, 0, none⟩ = some (.slice A1 n1 c1)) (hg2 : w.cell? ⟨g, 1, none⟩ = some (.slice A2 n2 c2)) :
    Calls Try.prog 68 #[.slice (some ⟨g, 0, none⟩) 2 2] w fun e w' => e = .returned (.int .i64 (ck2 xs ys)) ∧ w = w' := by
  have hca := h.rd.cap
  have hcl := h.rd.le
  unfold maxLen at hca
  have hka := k.rd.cap
  have hkl := k.rd.le
  unfold maxLen at hka
  rcases num_ways h with (⟨h1, hv⟩ | ⟨h1, h2, ⟨b, off, rfl, hc⟩, hv⟩) | (⟨rfl, hv⟩ | ⟨h1, h2, ⟨b, off, D, rfl, hc, hD⟩, hv⟩)
  · have H := Lib.hid (ck2_no1 (ys := ys) hv)
    clear h k
    go_enter Try.func68, Try.ntmps68
    go_wp2
    refine wp_loop_rounds 1 ?_
    rw [rounds_succ]
    go_wp2_with (go_at_call 79; refine (tooLarge_yes _ _ _ _ (by omega)).mono ?_; rintro e w' ⟨rfl, rfl⟩)
    go_ret
    exact ⟨by rw [H.out]; rfl, rfl⟩
  · have H := Lib.hid (ck2_no1 (ys := ys) hv)
    clear h k
    go_enter Try.func68, Try.ntmps68
    go_wp2
    refine wp_loop_rounds 1 ?_
    rw [rounds_succ]
    go_wp2_with (go_at_call 79; refine (tooLarge_no _ _ _ _ (by omega)).mono ?_; rintro e w' ⟨rfl, rfl⟩)
    go_ret
    exact ⟨by rw [H.out]; rfl, rfl⟩
  · rcases num_ways k with (⟨k1, kv⟩ | ⟨k1, k2, ⟨b2, off2, rfl, kc⟩, kv⟩) | (⟨rfl, kv⟩ | ⟨k1, k2, ⟨b2, off2, D2, rfl, kc, kD⟩, kv⟩)
    · have H := Lib.hid (ck2_no2 (xs := xs) kv)
      clear h k
      go_enter Try.func68, Try.ntmps68
      go_wp2
      refine wp_loop_rounds 2 ?_
      rw [rounds_succ]
      go_wp2_with (go_at_call 79; refine (tooLarge_no _ _ _ _ (by omega)).mono ?_; rintro e w' ⟨rfl, rfl⟩)
      rw [rounds_succ]
      go_wp2_with (go_at_call 79; refine (tooLarge_yes _ _ _ _ (by omega)).mono ?_; rintro e w' ⟨rfl, rfl⟩)
      go_ret
      exact ⟨by rw [H.out]; rfl, rfl⟩
    · have H := Lib.hid (ck2_no2 (xs := xs) kv)
      clear h k
      go_enter Try.func68, Try.ntmps68
      go_wp2
      refine wp_loop_rounds 2 ?_
      rw [rounds_succ]
      go_wp2_with (go_at_call 79; refine (tooLarge_no _ _ _ _ (by omega)).mono ?_; rintro e w' ⟨rfl, rfl⟩)
      rw [rounds_succ]
      go_wp2_with (go_at_call 79; refine (tooLarge_no _ _ _ _ (by omega)).mono ?_; rintro e w' ⟨rfl, rfl⟩)
      go_ret
      exact ⟨by rw [H.out]; rfl, rfl⟩
    · have H := Lib.hid (ck2_yes hv kv)
      clear h k
      go_enter Try.func68, Try.ntmps68
      go_wp2
      refine wp_loop_rounds 3 ?_
      rw [rounds_succ]
      go_wp2_with (go_at_call 79; refine (tooLarge_no _ _ _ _ (by omega)).mono ?_; rintro e w' ⟨rfl, rfl⟩)
      rw [rounds_succ]
      go_wp2_with (go_at_call 79; refine (tooLarge_no _ _ _ _ (by omega)).mono ?_; rintro e w' ⟨rfl, rfl⟩)
      rw [rounds_succ]
      go_wp2
      go_ret
      exact ⟨by rw [H.out]; rfl, rfl⟩
    · have H := Lib.hid (ck2_yes hv kv)
      clear h k
      go_enter Try.func68, Try.ntmps68
      go_wp2
      refine wp_loop_rounds 3 ?_
      rw [rounds_succ]
      go_wp2_with (go_at_call 79; refine (tooLarge_no _ _ _ _ (by omega)).mono ?_; rintro e w' ⟨rfl, rfl⟩)
      rw [rounds_succ]
      go_wp2_with (go_at_call 79; refine (tooLarge_no _ _ _ _ (by omega)).mono ?_; rintro e w' ⟨rfl, rfl⟩)
      rw [rounds_succ]
      go_wp2
      go_ret
      exact ⟨by rw [H.out]; rfl, rfl⟩
  · rcases num_ways k with (⟨k1, kv⟩ | ⟨k1, k2, ⟨b2, off2, rfl, kc⟩, kv⟩) | (⟨rfl, kv⟩ | ⟨k1, k2, ⟨b2, off2, D2, rfl, kc, kD⟩, kv⟩)
    · have H := Lib.hid (ck2_no2 (xs := xs) kv)
      clear h k
      go_enter Try.func68, Try.ntmps68
      go_wp2
      refine wp_loop_rounds 2 ?_
      rw [rounds_succ]
      go_wp2_with (go_at_call 79; refine (tooLarge_no _ _ _ _ (by omega)).mono ?_; rintro e w' ⟨rfl, rfl⟩)
      rw [rounds_succ]
      go_wp2_with (go_at_call 79; refine (tooLarge_yes _ _ _ _ (by omega)).mono ?_; rintro e w' ⟨rfl, rfl⟩)
      go_ret
      exact ⟨by rw [H.out]; rfl, rfl⟩
    · have H := Lib.hid (ck2_no2 (xs := xs) kv)
      clear h k
      go_enter Try.func68, Try.ntmps68
      go_wp2
      refine wp_loop_rounds 2 ?_
      rw [rounds_succ]
      go_wp2_with (go_at_call 79; refine (tooLarge_no _ _ _ _ (by omega)).mono ?_; rintro e w' ⟨rfl, rfl⟩)
      rw [rounds_succ]
      go_wp2_with (go_at_call 79; refine (tooLarge_no _ _ _ _ (by omega)).mono ?_; rintro e w' ⟨rfl, rfl⟩)
      go_ret
      exact ⟨by rw [H.out]; rfl, rfl⟩
    · have H := Lib.hid (ck2_yes hv kv)
      clear h k
      go_enter Try.func68, Try.ntmps68
      go_wp2
      refine wp_loop_rounds 3 ?_
      rw [rounds_succ]
      go_wp2_with (go_at_call 79; refine (tooLarge_no _ _ _ _ (by omega)).mono ?_; rintro e w' ⟨rfl, rfl⟩)
      rw [rounds_succ]
      go_wp2_with (go_at_call 79; refine (tooLarge_no _ _ _ _ (by omega)).mono ?_; rintro e w' ⟨rfl, rfl⟩)
      rw [rounds_succ]
      go_wp2
      go_ret
      exact ⟨by rw [H.out]; rfl, rfl⟩
    · have H := Lib.hid (ck2_yes hv kv)
      clear h k
      go_enter Try.func68, Try.ntmps68
      go_wp2
      refine wp_loop_rounds 3 ?_
      rw [rounds_succ]
      go_wp2_with (go_at_call 79; refine (tooLarge_no _ _ _ _ (by omega)).mono ?_; rintro e w' ⟨rfl, rfl⟩)
      rw [rounds_succ]
      go_wp2_with (go_at_call 79; refine (tooLarge_no _ _ _ _ (by omega)).mono ?_; rintro e w' ⟨rfl, rfl⟩)
      rw [rounds_succ]
      go_wp2
      go_ret
      exact ⟨by rw [H.out]; rfl, rfl⟩

end Go.Proofs.Ythplhlcdlnedfaa
