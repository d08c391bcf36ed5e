/-
  The specification's rotations, values of bytes and words.
-/
import Derived.Test.YtcbanemkjebdcaaKeyG
import Derived.Test.YtcbanemkjebdcaaMathB
import Derived.Test.YtcbanemkjebdcaaRnd
namespace Go.Proofs.Ytcbanemkjebdcaa
open Go.RowKit SP
set_option linter.unusedVariables false
set_option linter.unusedSimpArgs false

theorem or_swap (a b : Nat) (ha : a < M) (hb : b < M) : bits .or .u64 (a : Int) (b : Int) = bits .or .u64 (b : Int) (a : Int) := by
  rw [u64_or_nat a b ha hb, u64_or_nat b a hb ha, Nat.or_comm]
theorem wrap_mul (x m : Nat) : IntKind.u64.wrap ((x : Int) * (m : Int)) = ((x * m % M : Nat) : Int) := by simp [IntKind.wrap, IntKind.bits, IntKind.signed]
theorem div_lt (x d : Nat) (hx : x < M) : x / d < M := Nat.lt_of_le_of_lt (Nat.div_le_self _ _) hx
theorem rot_swap (x m d : Nat) (hx : x < M) : bits .or .u64 ((x : Int) / (d : Int)) (IntKind.u64.wrap ((x : Int) * (m : Int))) = bits .or .u64 (IntKind.u64.wrap ((x : Int) * (m : Int))) ((x : Int) / (d : Int)) := by
  rw [wrap_mul, show (x : Int) / (d : Int) = ((x / d : Nat) : Int) by simp]
  exact or_swap _ _ (div_lt x d hx) (Nat.mod_lt _ (by decide))
theorem r8 (x : Nat) (hx : x < M) : bits .or .u64 ((x : Int) / 256) (IntKind.u64.wrap ((x : Int) * 72057594037927936)) = ((rr8 x : Nat) : Int) := (rot_swap x 72057594037927936 256 hx).trans (rotm8 x hx)
theorem r3 (x : Nat) (hx : x < M) : bits .or .u64 ((x : Int) / 8) (IntKind.u64.wrap ((x : Int) * 2305843009213693952)) = ((rr3 x : Nat) : Int) := (rot_swap x 2305843009213693952 8 hx).trans (rotm3 x hx)
theorem r61 (x : Nat) (hx : x < M) : bits .or .u64 ((x : Int) / 2305843009213693952) (IntKind.u64.wrap ((x : Int) * 8)) = ((rl3 x : Nat) : Int) := (rot_swap x 8 2305843009213693952 hx).trans (rot3 x hx)
theorem r56 (x : Nat) (hx : x < M) : bits .or .u64 ((x : Int) / 72057594037927936) (IntKind.u64.wrap ((x : Int) * 256)) = ((rl8 x : Nat) : Int) := (rot_swap x 256 72057594037927936 hx).trans (rot8 x hx)

set_option maxRecDepth 100000 in
theorem rotr8_any (x : Nat) (w : World) (hx : x < M) :
    Calls Try.prog 120 #[.int .u64 (x : Int), .int .i64 8] w fun e w' => e = .returned (.int .u64 (rr8 x : Nat)) ∧ Below w.heap.size w w' := by
  have HR := Lib.hid (r8 x hx)
  clear hx
  go_enter Try.func120, Try.ntmps120
  go_wp2
  go_region
  all_goals go_wp2
  all_goals go_ret
  all_goals exact ⟨ret_int HR.out, (Below.refl _ _).drew⟩
set_option maxRecDepth 100000 in
theorem rotr3_any (x : Nat) (w : World) (hx : x < M) :
    Calls Try.prog 120 #[.int .u64 (x : Int), .int .i64 3] w fun e w' => e = .returned (.int .u64 (rr3 x : Nat)) ∧ Below w.heap.size w w' := by
  have HR := Lib.hid (r3 x hx)
  clear hx
  go_enter Try.func120, Try.ntmps120
  go_wp2
  go_region
  all_goals go_wp2
  all_goals go_ret
  all_goals exact ⟨ret_int HR.out, (Below.refl _ _).drew⟩
set_option maxRecDepth 100000 in
theorem rotr61_any (x : Nat) (w : World) (hx : x < M) :
    Calls Try.prog 120 #[.int .u64 (x : Int), .int .i64 61] w fun e w' => e = .returned (.int .u64 (rl3 x : Nat)) ∧ Below w.heap.size w w' := by
  have HR := Lib.hid (r61 x hx)
  clear hx
  go_enter Try.func120, Try.ntmps120
  go_wp2
  go_region
  all_goals go_wp2
  all_goals go_ret
  all_goals exact ⟨ret_int HR.out, (Below.refl _ _).drew⟩
set_option maxRecDepth 100000 in
theorem rotr56_any (x : Nat) (w : World) (hx : x < M) :
    Calls Try.prog 120 #[.int .u64 (x : Int), .int .i64 56] w fun e w' => e = .returned (.int .u64 (rl8 x : Nat)) ∧ Below w.heap.size w w' := by
  have HR := Lib.hid (r56 x hx)
  clear hx
  go_enter Try.func120, Try.ntmps120
  go_wp2
  go_region
  all_goals go_wp2
  all_goals go_ret
  all_goals exact ⟨ret_int HR.out, (Below.refl _ _).drew⟩
theorem rotl3_any (x : Nat) (w : World) (hx : x < M) :
    Calls Try.prog 121 #[.int .u64 (x : Int), .int .i64 3] w fun e w' => e = .returned (.int .u64 (rl3 x : Nat)) ∧ Below w.heap.size w w' := by
  have HR := Lib.hid (fun w => rotr61_any x w hx)
  clear hx
  go_enter Try.func121, Try.ntmps121
  go_wp2_with fail
  refine (HR.out _).mono ?_
  rintro e w' ⟨rfl, hb⟩
  go_wp2_with fail
  go_ret
  exact ⟨rfl, hb⟩
theorem rotl8_any (x : Nat) (w : World) (hx : x < M) :
    Calls Try.prog 121 #[.int .u64 (x : Int), .int .i64 8] w fun e w' => e = .returned (.int .u64 (rl8 x : Nat)) ∧ Below w.heap.size w w' := by
  have HR := Lib.hid (fun w => rotr56_any x w hx)
  clear hx
  go_enter Try.func121, Try.ntmps121
  go_wp2_with fail
  refine (HR.out _).mono ?_
  rintro e w' ⟨rfl, hb⟩
  go_wp2_with fail
  go_ret
  exact ⟨rfl, hb⟩

theorem val_int (a b : Nat) (ha : a < 72057594037927936) (hb : b < 256) : IntKind.u64.wrap (256 * (a : Int)) = ((256 * a : Nat) : Int) ∧ IntKind.u64.wrap (((256 * a : Nat) : Int) + (b : Int)) = ((a * 256 + b : Nat) : Int) := by
  constructor
  · simp only [IntKind.wrap, IntKind.bits, IntKind.signed]; simp; omega
  · simp only [IntKind.wrap, IntKind.bits, IntKind.signed]; simp; omega

set_option maxRecDepth 100000 in
set_option maxHeartbeats 1000000 in
theorem refValue_any (b off n c : Nat) (g : Nat → Nat) (w : World) (hg : ∀ i, g i < 256) (hn : n ≤ 8) (hc : ∀ i, i < n → w.cell? ⟨b, off + i, none⟩ = some (.int .u8 (g i : Int))) :
    Calls Try.prog 135 #[.slice (some ⟨b, off, none⟩) n c] w fun e w' => e = .returned (.int .u64 (wd g n : Nat)) ∧ Below w.heap.size w w' := by
  have HC := Lib.hid hc
  have HG := Lib.hid hg
  clear hc hg
  go_enter Try.func135, Try.ntmps135
  go_wp2
  go_loop [3, 4] (fun v i => ∃ k a : Nat, k ≤ n ∧ i = .int .i64 (k : Int) ∧ v = .int .u64 (a : Int) ∧ Hid (a = wd g k)) (fun _ i => n - (intOf i).toNat)
  case atStart => exact ⟨0, 0, by omega, rfl, rfl, Lib.hid rfl⟩
  case round =>
    obtain ⟨k, a, hk, rfl, rfl, HI⟩ := hrel
    by_cases hlt : k < n
    · have c1 := HC.out k hlt
      obtain ⟨p, hp⟩ : ∃ p, p = g k := ⟨_, rfl⟩
      rw [← hp] at c1
      have lp : p < 256 := by rw [hp]; exact HG.out k
      have la : a < 72057594037927936 := by
        rw [HI.out]
        have h1 := wd_lt g HG.out k
        have h2 : (256 : Nat) ^ k ≤ 256 ^ 7 := Nat.pow_le_pow_right (by decide) (by omega)
        have h3 : (256 : Nat) ^ 7 = 72057594037927936 := by decide
        omega
      have hw1 := (val_int a p la lp).1
      have HS : Hid (a * 256 + p = wd g (k + 1)) := Lib.hid (by rw [wd, HI.out, hp])
      have hs1 : (256 * (a : Int) + (p : Int)) = ((a * 256 + p : Nat) : Int) := by omega
      have hlim : a * 256 + p ≤ 18446744073709551615 := by omega
      have HS1 := Lib.hid hs1
      clear hp HI hs1
      go_wp2
      go_round
      case rel => exact ⟨k + 1, a * 256 + p, by omega, by go_num, by rw [← HS1.out], HS⟩
      case measure => simp [intOf]; omega
    · obtain rfl : k = n := by omega
      go_wp2
      go_ret
      exact ⟨ret_int (by rw [HI.out]), Below.refl _ _⟩
end Go.Proofs.Ytcbanemkjebdcaa
