/-
  Arithmetic modulo a prime, and values of polynomials: the program's sums and products, the specification's value.
-/
import Derived.Test.YtcbanemkjebdcaaPolA
import Derived.Test.YtcbanemkjebdcaaModA
namespace Go.Proofs.Ytcbanemkjebdcaa
open Go.RowKit SP
set_option linter.unusedVariables false

/-- The value at x of the first n coefficients. -/
def sm (f : Nat → Nat) (x : Nat) : Nat → Nat
  | 0 => 0
  | n + 1 => sm f x n + f n * x ^ n
/-- The same from the last coefficient on. -/
def hs (f : Nat → Nat) (x n : Nat) : Nat → Nat
  | 0 => 0
  | j + 1 => hs f x n j * x + f (n - 1 - j)
theorem sm_hs (f : Nat → Nat) (x n : Nat) : ∀ j, j ≤ n → sm f x n = sm f x (n - j) + x ^ (n - j) * hs f x n j
  | 0, _ => by simp [hs]
  | j + 1, h => by
    rw [sm_hs f x n j (by omega)]
    obtain ⟨m, hm⟩ : ∃ m, n - j = m + 1 := ⟨n - j - 1, by omega⟩
    rw [hm, show n - (j + 1) = m by omega, hs, show n - 1 - j = m by omega, sm, Nat.pow_succ, Nat.mul_add, Nat.add_assoc]
    congr 1
    rw [Nat.add_comm, Nat.mul_comm (f m), Nat.mul_assoc, Nat.mul_comm x]
theorem hs_all (f : Nat → Nat) (x n : Nat) : hs f x n n = sm f x n := by
  rw [sm_hs f x n n (Nat.le_refl _), Nat.sub_self]; simp [sm]
theorem hs_step (f : Nat → Nat) (x n j q a : Nat) (h : a = hs f x n j % q) : (a * x % q + f (n - 1 - j)) % q = hs f x n (j + 1) % q := by
  rw [hs, h, Nat.add_mod, Nat.mod_mod, ← Nat.add_mod, Nat.add_mod, Nat.mul_mod, Nat.mod_mod, ← Nat.mul_mod, ← Nat.add_mod]
theorem sm_step (f : Nat → Nat) (x k q a b : Nat) (h : a = sm f x k % q) (h2 : b % q = x ^ k % q) : (a + f k * b) % q = sm f x (k + 1) % q := by
  rw [sm, h, Nat.add_mod, Nat.mod_mod, Nat.mul_mod, h2, ← Nat.mul_mod, ← Nat.add_mod]

/-- The product of n numbers modulo q. -/
def prd (f : Nat → Nat) (q : Nat) : Nat → Nat
  | 0 => 1
  | n + 1 => prd f q n * f n % q
theorem prd_le (f : Nat → Nat) (q : Nat) (h1 : 1 ≤ q) (h2 : q ≤ 1048575) : ∀ n, prd f q n ≤ 1048575
  | 0 => by simp [prd]
  | n + 1 => by
    have := Nat.mod_lt (prd f q n * f n) h1
    unfold prd; omega

theorem add_u64 (a m : Nat) (ha : a ≤ 4294967295) (hm : m ≤ 1152921504606846975) : IntKind.u64.wrap ((a : Int) + (m : Int)) = ((a + m : Nat) : Int) := by
  rw [IntWalk.u64_in _ (by omega)]; omega

set_option maxRecDepth 100000 in
set_option maxHeartbeats 1000000 in
theorem plus_any (q a b : Nat) (w : World) (h1 : 1 ≤ q) (ha : a ≤ 1048575) (hb : b ≤ 1048575) :
    Calls Try.prog 100 #[.int .u64 (q : Int), .int .u64 (a : Int), .int .u64 (b : Int)] w fun e w' => e = .returned (.int .u64 (((a + b) % q : Nat) : Int)) ∧ w = w' := by
  go_enter Try.func100, Try.ntmps100
  go_wp2
  go_ret
  exact ⟨ret_int (by first | rfl | go_num), rfl⟩

set_option maxRecDepth 100000 in
set_option maxHeartbeats 1000000 in
theorem product_any (q b n c : Nat) (f : Nat → Nat) (w : World) (h1 : 1 ≤ q) (h2 : q ≤ 1048575) (hf : ∀ i, i < n → f i ≤ 1048575) (hn : n ≤ c) (hc : c ≤ maxLen) (hcl : ∀ i, i < n → w.cell? ⟨b, i, none⟩ = some (.int .u64 (f i : Int))) :
    Calls Try.prog 101 #[.int .u64 (q : Int), .slice (some ⟨b, 0, none⟩) n c] w fun e w' => e = .returned (.int .u64 (prd f q n : Int)) ∧ w = w' := by
  have HC := Lib.hid hcl
  have HF := Lib.hid hf
  have hm : n ≤ 9223372036854775807 := by unfold maxLen at hc; omega
  clear hcl hf hc
  go_enter Try.func101, Try.ntmps101
  go_wp2
  go_loop [5, 10] (fun v i => ∃ k a : Nat, k ≤ n ∧ i = .int .i64 (k : Int) ∧ v = .int .u64 (a : Int) ∧ Hid (a = prd f q k)) (fun _ i => n - (intOf i).toNat)
  case atStart => exact ⟨0, 1, by omega, rfl, rfl, Lib.hid rfl⟩
  case round =>
    obtain ⟨k, a, hk, rfl, rfl, HI⟩ := hrel
    by_cases hlt : k < n
    · have c1 := HC.out k hlt
      have lp := HF.out k hlt
      have HS : Hid (a * f k % q = prd f q (k + 1)) := Lib.hid (by rw [prd, HI.out])
      obtain ⟨p, hp⟩ : ∃ p, p = f k := ⟨_, rfl⟩
      rw [← hp] at c1 lp HS
      have la : a ≤ 1048575 := by rw [HI.out]; exact prd_le f q h1 h2 k
      have hw1 : IntKind.u64.wrap ((a : Int) * (p : Int)) = ((a * p : Nat) : Int) := by rw [mul_u64 a p (by omega) (by omega)]; simp
      obtain ⟨m, hm'⟩ : ∃ m, m = a * p := ⟨_, rfl⟩
      rw [← hm'] at hw1 HS
      clear hp HI hm'
      go_wp2
      go_round
      case rel => exact ⟨k + 1, m % q, by omega, by go_num, by first | rfl | go_num, HS⟩
      case measure => simp [intOf]; omega
    · obtain rfl : k = n := by omega
      go_wp2
      go_ret
      exact ⟨ret_int (by rw [HI.out]), rfl⟩

set_option maxRecDepth 100000 in
set_option maxHeartbeats 1000000 in
theorem valueOf_any (q b n c x : Nat) (f : Nat → Nat) (w : World) (h1 : 2 ≤ q) (h2 : q ≤ 1048575) (hx : x ≤ 1048575) (hf : ∀ i, i < n → f i ≤ 1048575) (hn : n ≤ c) (hc : c ≤ maxLen) (hcl : ∀ i, i < n → w.cell? ⟨b, i, none⟩ = some (.int .u64 (f i : Int))) :
    Calls Try.prog 45 #[.int .u64 (q : Int), .slice (some ⟨b, 0, none⟩) n c, .int .u64 (x : Int)] w fun e w' => e = .returned (.int .u64 ((sm f x n % q : Nat) : Int)) ∧ w = w' := by
  have HC := Lib.hid hcl
  have HF := Lib.hid hf
  have hm : n ≤ 9223372036854775807 := by unfold maxLen at hc; omega
  clear hcl hf hc
  go_enter Try.func45, Try.ntmps45
  go_wp2
  go_loop [7, 8, 9] (fun v y i => ∃ k a d : Nat, k ≤ n ∧ i = .int .i64 (k : Int) ∧ v = .int .u64 (a : Int) ∧ y = .int .u64 (d : Int) ∧ a ≤ 1048575 ∧ d ≤ 1048575 ∧ Hid (a = sm f x k % q) ∧ Hid (d % q = x ^ k % q)) (fun _ _ i => n - (intOf i).toNat)
  case atStart => exact ⟨0, 0, 1, by omega, rfl, rfl, rfl, by omega, by omega, Lib.hid (by simp [sm]), Lib.hid (by simp)⟩
  case round =>
    obtain ⟨k, a, d, hk, rfl, rfl, rfl, la, ld, HI, HJ⟩ := hrel
    by_cases hlt : k < n
    · have c1 := HC.out k hlt
      have lp := HF.out k hlt
      have HS : Hid ((a + f k * d) % q = sm f x (k + 1) % q) := Lib.hid (sm_step f x k q a d HI.out HJ.out)
      have HT : Hid ((d * x % q) % q = x ^ (k + 1) % q) := Lib.hid (by rw [Nat.mod_mod, Nat.pow_succ, Nat.mul_mod, HJ.out, ← Nat.mul_mod])
      obtain ⟨p, hp⟩ : ∃ p, p = f k := ⟨_, rfl⟩
      rw [← hp] at c1 lp HS
      have hw1 : IntKind.u64.wrap ((p : Int) * (d : Int)) = ((p * d : Nat) : Int) := by rw [mul_u64 p d (by omega) (by omega)]; simp
      have hw2 : IntKind.u64.wrap ((d : Int) * (x : Int)) = ((d * x : Nat) : Int) := by rw [mul_u64 d x (by omega) (by omega)]; simp
      have lm : p * d ≤ 1048575 * 1048575 := Nat.mul_le_mul lp ld
      obtain ⟨m, hm'⟩ : ∃ m, m = p * d := ⟨_, rfl⟩
      rw [← hm'] at hw1 HS lm
      obtain ⟨s, hs'⟩ : ∃ s, s = d * x := ⟨_, rfl⟩
      rw [← hs'] at hw2 HT
      have hw3 := add_u64 a m (by omega) (by omega)
      have l1 := Nat.mod_lt (a + m) (show 0 < q by omega)
      have l2 := Nat.mod_lt s (show 0 < q by omega)
      obtain ⟨r, hr⟩ : ∃ r, r = a + m := ⟨_, rfl⟩
      rw [← hr] at hw3 HS l1
      clear hp HI HJ hm' hs' hr
      go_wp2
      go_round
      case rel => exact ⟨k + 1, r % q, s % q, by omega, by go_num, by first | rfl | go_num, by first | rfl | go_num, by omega, by omega, HS, HT⟩
      case measure => simp [intOf]; omega
    · obtain rfl : k = n := by omega
      go_wp2
      go_ret
      exact ⟨ret_int (by rw [HI.out]; first | rfl | simp), rfl⟩
end Go.Proofs.Ytcbanemkjebdcaa
