/-
  The specification's digit.
-/
import Derived.Test.YtphhppdokdageaaRfN
import Derived.Test.YtphhppdokdageaaTxtE
namespace Go.Proofs.Ytphhppdokdageaa
open Go.RowKit SP
set_option linter.unusedVariables false
set_option linter.unusedSimpArgs false

/-- The value of a digit, or 16. -/
def dgv (c : Nat) : Nat := if isHex c = true then vdig c else 16
theorem dgv_hexd {d : Nat} (h : d < 16) : dgv (hexd d) = d := by unfold dgv; rw [if_pos (isHex_hexd h), vdig_hexd h]
theorem dgv_none {c : Nat} (h : ∀ j, j < 16 → hexd j ≠ c) : dgv c = 16 := by
  unfold dgv
  by_cases e : isHex c = true
  · exact absurd (hexd_vdig e) (h _ (vdig_lt c))
  · rw [if_neg e]

set_option maxRecDepth 100000 in
set_option maxHeartbeats 1000000 in
theorem refDigit_any (c : Nat) (w : World) :
    Calls Try.prog 67 #[.int .u8 (c : Int)] w fun e w' => e = .returned (.int .i64 (dgv c : Nat)) ∧ w = w' := by
  go_enter Try.func67, Try.ntmps67
  go_wp2
  go_loop [3] (fun i => ∃ k : Nat, k ≤ 16 ∧ i = .int .i64 (k : Int) ∧ Hid (∀ j, j < k → hexd j ≠ c)) (fun i => 16 - (intOf i).toNat)
  case atStart => exact ⟨0, by omega, rfl, Lib.hid (fun j h => by omega)⟩
  case round =>
    obtain ⟨k, hk, rfl, HI⟩ := hrel
    by_cases hlt : k < 16
    · have hix := hex_index .i64 k hlt
      obtain ⟨p, hp⟩ : ∃ p, p = hexd k := ⟨_, rfl⟩
      rw [← hp] at hix
      by_cases he : p = c
      · have hb : ((p : Int) == (c : Int)) = true := by simp; omega
        have HD : Hid (dgv c = k) := Lib.hid (by rw [← he, hp]; exact dgv_hexd hlt)
        clear he hp
        go_wp2
        go_ret
        exact ⟨ret_int (by rw [HD.out]), rfl⟩
      · have hb : ((p : Int) == (c : Int)) = false := by simp; omega
        have HN : Hid (∀ j, j < k + 1 → hexd j ≠ c) := Lib.hid (fun j hj => by
          by_cases e : j = k
          · rw [e, ← hp]; exact he
          · exact HI.out j (by omega))
        clear he hp
        go_wp2
        go_round
        case rel => exact ⟨k + 1, by omega, by go_num, HN⟩
        case measure => simp [intOf]; omega
    · obtain rfl : k = 16 := by omega
      have HD : Hid (dgv c = 16) := Lib.hid (dgv_none HI.out)
      go_wp2
      go_ret
      exact ⟨ret_int (by rw [HD.out]; rfl), rfl⟩
end Go.Proofs.Ytphhppdokdageaa
