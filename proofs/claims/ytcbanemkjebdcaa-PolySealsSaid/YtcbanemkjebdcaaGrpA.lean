/-
  Contracts: trial division, of the program and of the specification.
-/
import Derived.Test.YtcbanemkjebdcaaModC
import Derived.WalkMore
namespace Go.Proofs.Ytcbanemkjebdcaa
open Go.RowKit

/-- Whether a number is a prime. -/
noncomputable def prv (n : Int) : Bool := @decide (MA.IsPr n.toNat) (Classical.propDecidable _)

theorem prv_yes (N : Nat) (h : MA.IsPr N) : prv N = true := by simp only [prv, Int.toNat_natCast]; exact @decide_eq_true _ (Classical.propDecidable _) h
theorem prv_no (N : Nat) (h : ¬ MA.IsPr N) : prv N = false := by simp only [prv, Int.toNat_natCast]; exact @decide_eq_false _ (Classical.propDecidable _) h

theorem sq_le (d n : Nat) (h : d * d ≤ n) : d ≤ n := by
  rcases Nat.eq_zero_or_pos d with rfl | hd
  · omega
  · exact Nat.le_trans (Nat.le_mul_of_pos_right d hd) h

/-- What is known when the loop ends. -/
theorem prv_end (N d : Nat) (hd : N < d * d) (H : ∀ c, 2 ≤ c → c < d → N % c ≠ 0) : prv N = decide ((2 : Int) ≤ (N : Int)) := by
  by_cases h : 2 ≤ N
  · rw [prv_yes N (MA.pr_of N d h H hd)]; exact (decide_eq_true (by omega)).symm
  · rw [prv_no N (MA.not_pr_small N (by omega))]; exact (decide_eq_false (by omega)).symm

set_option maxRecDepth 100000 in
set_option maxHeartbeats 1000000 in
theorem isPrimeRef_any (n : Int) (w : World) (hn : 0 ≤ n) (hn2 : n ≤ 1048575) :
    Calls Try.prog 134 #[.int .u64 n] w fun e w' => e = .returned (.bool (prv n)) ∧ w = w' := by
  obtain ⟨N, rfl⟩ := Int.eq_ofNat_of_zero_le hn
  go_enter Try.func134, Try.ntmps134
  go_wp2
  go_loop [3] (fun x => ∃ (d : Nat), x = .int .u64 d ∧ 2 ≤ d ∧ d ≤ 1048576 ∧ Hid (∀ c, 2 ≤ c → c < d → N % c ≠ 0)) (fun x => 1048577 - (intOf x).toNat)
  case atStart => exact ⟨2, rfl, by omega, by omega, Lib.hid (fun c h1 h2 => by omega)⟩
  case round =>
    obtain ⟨d, rfl, hd, hd2, HI⟩ := hrel
    have w1 := mul_u64 d d (by omega) (by omega)
    by_cases h : d * d ≤ N
    · have hle : (d : Int) * (d : Int) ≤ (N : Int) := by rw [← Int.natCast_mul]; omega
      have hdN := sq_le d N h
      by_cases h0 : N % d = 0
      · have H0 := Lib.hid (prv_no N (MA.not_pr_of N d hd h h0))
        have hb : ((N : Int) % (d : Int) == 0) = true := by rw [← Int.natCast_emod, h0]; rfl
        clear h h0 HI
        go_wp2
        go_ret
        exact ⟨by rw [H0.out]; rfl, rfl⟩
      · have hb : ((N : Int) % (d : Int) == 0) = false := by rw [← Int.natCast_emod, beq_eq_false_iff_ne]; omega
        have HI' : Hid (∀ c, 2 ≤ c → c < d + 1 → N % c ≠ 0) := Lib.hid (fun c h1 h2 => by
          rcases Nat.lt_or_ge c d with h3 | h3
          · exact HI.out c h1 h3
          · obtain rfl : c = d := by omega
            exact h0)
        clear h h0 HI
        go_wp2
        go_round
        case rel => exact ⟨d + 1, by go_num, by omega, by omega, HI'⟩
        case measure => simp [intOf]; omega
    · have hlt : (N : Int) < (d : Int) * (d : Int) := by rw [← Int.natCast_mul]; omega
      have H0 := Lib.hid (prv_end N d (by omega) HI.out)
      clear h HI
      go_wp2
      go_ret
      exact ⟨by rw [H0.out]; rfl, rfl⟩

/-- What Prime returns: whether, and the error. -/
noncomputable def prb (n : Int) : Bool := if 1048575 < n then false else prv n
noncomputable def prc (n : Int) : Int := if 1048575 < n then 4 else 0

set_option maxRecDepth 100000 in
set_option maxHeartbeats 1000000 in
theorem prime_any (n : Int) (w : World) (hn : 0 ≤ n) :
    Calls Try.prog 95 #[.int .u64 n] w fun e w' => e = .returned (.tuple #[.bool (prb n), .int .i64 (prc n)]) ∧ w = w' := by
  by_cases h : 1048575 < n
  · have H1 : Hid (prb n = false) := Lib.hid (if_pos h)
    have H2 : Hid (prc n = 4) := Lib.hid (if_pos h)
    go_enter Try.func95, Try.ntmps95
    go_wp2
    go_step3
    go_wp2
    rw [Exit.noGoto_ret]
    go_ret2
    exact ⟨by rw [H1.out, H2.out]; rfl, rfl⟩
  · have H1 : Hid (prb n = prv n) := Lib.hid (if_neg h)
    have H2 : Hid (prc n = 0) := Lib.hid (if_neg h)
    have hn2 : n ≤ 1048575 := by omega
    clear h
    obtain ⟨N, rfl⟩ := Int.eq_ofNat_of_zero_le hn
    go_enter Try.func95, Try.ntmps95
    go_wp2
    go_step3
    go_wp2
    go_step3
    go_wp2
    go_loop [4] (fun x => ∃ (d : Nat), x = .int .u64 d ∧ 2 ≤ d ∧ d ≤ 1048576 ∧ Hid (∀ c, 2 ≤ c → c < d → N % c ≠ 0)) (fun x => 1048577 - (intOf x).toNat)
    case atStart => exact ⟨2, rfl, by omega, by omega, Lib.hid (fun c h1 h2 => by omega)⟩
    case round =>
      obtain ⟨d, rfl, hd, hd2, HI⟩ := hrel
      have w1 := mul_u64 d d (by omega) (by omega)
      by_cases h : d * d ≤ N
      · have hle : (d : Int) * (d : Int) ≤ (N : Int) := by rw [← Int.natCast_mul]; omega
        have hdN := sq_le d N h
        by_cases h0 : N % d = 0
        · have H0 := Lib.hid (prv_no N (MA.not_pr_of N d hd h h0))
          have hb : ((N : Int) % (d : Int) == 0) = true := by rw [← Int.natCast_emod, h0]; rfl
          clear h h0 HI
          go_wp2
          go_ret2
          exact ⟨by rw [H1.out, H0.out, H2.out]; rfl, rfl⟩
        · have hb : ((N : Int) % (d : Int) == 0) = false := by rw [← Int.natCast_emod, beq_eq_false_iff_ne]; omega
          have HI' : Hid (∀ c, 2 ≤ c → c < d + 1 → N % c ≠ 0) := Lib.hid (fun c h1 h2 => by
            rcases Nat.lt_or_ge c d with h3 | h3
            · exact HI.out c h1 h3
            · obtain rfl : c = d := by omega
              exact h0)
          clear h h0 HI
          go_wp2
          go_round
          case rel => exact ⟨d + 1, by go_num, by omega, by omega, HI'⟩
          case measure => simp [intOf]; omega
      · have hlt : (N : Int) < (d : Int) * (d : Int) := by rw [← Int.natCast_mul]; omega
        have H0 := Lib.hid (prv_end N d (by omega) HI.out)
        clear h HI
        go_wp2
        go_ret2
        exact ⟨by rw [H1.out, H0.out, H2.out]; rfl, rfl⟩

end Go.Proofs.Ytcbanemkjebdcaa
