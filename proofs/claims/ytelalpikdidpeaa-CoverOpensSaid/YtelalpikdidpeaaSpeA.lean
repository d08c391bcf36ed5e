/-
  The specification's tree: levels, what is below what, strides, nodes.
-/
import Derived.Test.YtelalpikdidpeaaProg
import Derived.Test.YtelalpikdidpeaaMathT
import Derived.WalkKit
import Derived.Lib.Hide
import Derived.Deep.QuietTactic
import Derived.BigQuiet
namespace Go.Proofs.Ytelalpikdidpeaa
open Go.RowKit TR
set_option linter.unusedVariables false
set_option linter.unusedSimpArgs false

theorem ret_int {k : IntKind} {a b : Int} (h : a = b) : Ending.returned (.int k a) = .returned (.int k b) := by rw [h]
theorem ret_bool {a b : Bool} (h : a = b) : Ending.returned (.bool a) = .returned (.bool b) := by rw [h]

set_option maxRecDepth 100000 in
set_option maxHeartbeats 400000 in
theorem refLevel_any (v : Nat) (w : World) (hv : v < 1000) :
    Calls Try.prog 128 #[.int .i64 (v : Int)] w fun e w' => e = .returned (.int .i64 (lv v : Int)) ∧ w = w' := by
  go_enter Try.func128, Try.ntmps128
  go_wp2_with fail
  go_loop [0, 3] (fun x n => ∃ (a k : Nat), a ≤ v ∧ x = .int .i64 (a : Int) ∧ n = .int .i64 (k : Int) ∧ Hid (lv a + k = lv v) ∧ k ≤ v) (fun x _ => (intOf x).toNat)
  case atStart => exact ⟨v, 0, Nat.le_refl _, rfl, rfl, Lib.hid rfl, Nat.zero_le _⟩
  case round =>
    obtain ⟨a, k, ha, rfl, rfl, HL, hk⟩ := hrel
    by_cases h : 1 < a
    · have h1 := lv_half a h
      have HL1 : Hid (lv (a / 2) + (k + 1) = lv v) := Lib.hid (by have := HL.out; omega)
      have hk1 : k + 1 ≤ v := by have := HL1.out; have := lv_le v; omega
      clear h1
      go_wp2_with fail
      go_roundw
      case rel => exact ⟨a / 2, k + 1, by omega, by go_num, by go_num, HL1, hk1⟩
      case measure => simp [intOf]; omega
    · have h0 : lv a = 0 := lv_low a (by omega)
      have HF : Hid ((k : Int) = (lv v : Int)) := Lib.hid (by have := HL.out; omega)
      go_wp2_with fail
      go_ret
      exact ⟨by rw [HF.out]; rfl, rfl⟩

set_option maxRecDepth 100000 in
set_option maxHeartbeats 400000 in
theorem refBelow_any (x v : Nat) (w : World) (hx : x < 128) (hv : v < 1000) :
    Calls Try.prog 85 #[.int .i64 (x : Int), .int .i64 (v : Int)] w fun e w' => e = .returned (.bool (blw 7 x v)) ∧ w = w' := by
  go_enter Try.func85, Try.ntmps85
  go_wp2_with fail
  go_loop [0] (fun y => ∃ (a k : Nat), a ≤ x ∧ y = .int .i64 (a : Int) ∧ a < 2 ^ k ∧ Hid (blw k a v = blw 7 x v)) (fun y => (intOf y).toNat)
  case atStart => exact ⟨x, 7, Nat.le_refl _, rfl, hx, Lib.hid rfl⟩
  case round =>
    obtain ⟨a, k, ha, rfl, hk, HL⟩ := hrel
    by_cases h : v < a
    · obtain ⟨j, rfl⟩ : ∃ j, k = j + 1 := ⟨k - 1, by rcases k with _ | k; simp at hk; omega; rfl⟩
      have HL1 : Hid (blw j (a / 2) v = blw 7 x v) := Lib.hid (by rw [← HL.out, blw, if_pos h])
      have hj : a / 2 < 2 ^ j := by rw [Nat.pow_succ] at hk; omega
      go_wp2_with fail
      go_roundw
      case rel => exact ⟨a / 2, j, by omega, by go_num, hj, HL1⟩
      case measure => simp [intOf]; omega
    · have HF : Hid (decide ((a : Int) = (v : Int)) = blw 7 x v) := Lib.hid (by
        rw [← HL.out]
        have e : blw k a v = (a == v) := by rcases k with _ | k; rfl; rw [blw, if_neg h]
        rw [e]
        by_cases hav : a = v
        · subst hav; simp
        · have h2 : (a : Int) ≠ (v : Int) := by omega
          simp [hav, h2])
      go_wp2_with fail
      go_ret
      exact ⟨by rw [← HF.out]; first | rfl | (simp; done), rfl⟩

set_option maxRecDepth 100000 in
set_option maxHeartbeats 400000 in
theorem refStride_any (d : Nat) (w : World) (hd : d < 7) :
    Calls Try.prog 129 #[.int .i64 (d : Int)] w fun e w' => e = .returned (.int .i64 (strd d : Int)) ∧ w = w' := by
  rcases (by omega : d = 0 ∨ d = 1 ∨ d = 2 ∨ d = 3 ∨ d = 4 ∨ d = 5 ∨ d = 6) with rfl | rfl | rfl | rfl | rfl | rfl | rfl
  all_goals
    go_enter Try.func129, Try.ntmps129
    go_wp2
    refine wp_loop_rounds 3 ?_
    repeat (rw [rounds_succ]; go_wp2)
    go_ret
    exact ⟨rfl, rfl⟩

set_option maxRecDepth 100000 in
set_option maxHeartbeats 400000 in
theorem receivers_any (d : Nat) (w : World) (hd : d < 7) :
    Calls Try.prog 99 #[.int .i64 (d : Int)] w fun e w' => e = .returned (.int .i64 ((2 ^ d : Nat) : Int)) ∧ w = w' := by
  rcases (by omega : d = 0 ∨ d = 1 ∨ d = 2 ∨ d = 3 ∨ d = 4 ∨ d = 5 ∨ d = 6) with rfl | rfl | rfl | rfl | rfl | rfl | rfl
  all_goals
    go_enter Try.func99, Try.ntmps99
    go_wp2
    refine wp_loop_rounds 7 ?_
    repeat (rw [rounds_succ]; go_wp2)
    go_ret
    exact ⟨rfl, rfl⟩
end Go.Proofs.Ytelalpikdidpeaa
