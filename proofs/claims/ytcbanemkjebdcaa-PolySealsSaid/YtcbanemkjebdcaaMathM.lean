/-
  Plain arithmetic of layer 1, part A: powers and inverses modulo a number, trial division. It imports nothing of the program.
-/
namespace Go.Proofs.Ytcbanemkjebdcaa.MA

/-! ### Powers -/

/-- One step of squaring keeps the product of the result and the power that is still to come. -/
theorem pw_even (r s n m : Nat) (h : n % 2 = 0) : (r * (s * s % m) ^ (n / 2)) % m = (r * s ^ n) % m := by
  have hn : n = 2 * (n / 2) := by omega
  have h1 : s ^ n = (s * s) ^ (n / 2) := by
    calc s ^ n = s ^ (2 * (n / 2)) := by rw [← hn]
      _ = (s ^ 2) ^ (n / 2) := Nat.pow_mul _ _ _
      _ = (s * s) ^ (n / 2) := by rw [Nat.pow_two]
  rw [h1, Nat.mul_mod, ← Nat.pow_mod, ← Nat.mul_mod]

theorem pw_odd (r s n m : Nat) (h : n % 2 = 1) : (r * s % m * (s * s % m) ^ (n / 2)) % m = (r * s ^ n) % m := by
  have hn : n = 2 * (n / 2) + 1 := by omega
  have h1 : s ^ n = s * (s * s) ^ (n / 2) := by
    calc s ^ n = s ^ (2 * (n / 2) + 1) := by rw [← hn]
      _ = s ^ (2 * (n / 2)) * s := Nat.pow_succ _ _
      _ = (s ^ 2) ^ (n / 2) * s := by rw [Nat.pow_mul]
      _ = s * (s * s) ^ (n / 2) := by rw [Nat.pow_two, Nat.mul_comm]
  rw [h1, Nat.mul_mod, Nat.mod_mod, ← Nat.pow_mod, ← Nat.mul_mod, Nat.mul_assoc]

theorem pw_start (b n m : Nat) : (1 % m * (b % m) ^ n) % m = b ^ n % m := by
  rw [Nat.mul_mod, Nat.mod_mod, ← Nat.pow_mod, ← Nat.mul_mod, Nat.one_mul]

/-! ### Inverses -/

/-- What is known of the two rests of Euclid's algorithm, and of what stands beside them. -/
def Eu (a m r t x y : Nat) : Prop := Nat.gcd r x = Nat.gcd a m ∧ (t * a) % m = r % m ∧ (y * a) % m = x % m

theorem eu_start (a m : Nat) : Eu a m m 0 (a % m) (1 % m) := by
  refine ⟨?_, by simp, ?_⟩
  · rw [Nat.gcd_comm a m, Nat.gcd_comm m (a % m)]; exact (Nat.gcd_rec m a).symm
  · rw [Nat.mul_mod, Nat.mod_mod, ← Nat.mul_mod, Nat.one_mul, Nat.mod_mod]

theorem eu_start1 (a m : Nat) : Eu a m m 0 (a % m) 1 := by
  refine ⟨?_, by simp, ?_⟩
  · rw [Nat.gcd_comm a m, Nat.gcd_comm m (a % m)]; exact (Nat.gcd_rec m a).symm
  · rw [Nat.one_mul, Nat.mod_mod]

theorem eu_start2 (a m : Nat) : Eu a m (a % m) (1 % m) m 0 := by
  refine ⟨?_, ?_, by simp⟩
  · rw [Nat.gcd_comm a m]; exact (Nat.gcd_rec m a).symm
  · rw [Nat.mul_mod, Nat.mod_mod, ← Nat.mul_mod, Nat.one_mul, Nat.mod_mod]

theorem sub_mul_mod (t k m : Nat) (hm : 0 < m) : ((t + (m - k % m)) % m + k) % m = t % m := by
  have hk := Nat.mod_lt k hm
  have h2 : t + (m - k % m) + k = t + m + m * (k / m) := by
    have := Nat.div_add_mod k m
    omega
  rw [Nat.mod_add_mod, h2, Nat.add_mul_mod_self_left, Nat.add_mod_right]

theorem mod_cancel (p q c m : Nat) (h : (p + c) % m = (q + c) % m) : p % m = q % m := by
  rcases Nat.eq_zero_or_pos m with rfl | hm
  · simp at h ⊢; omega
  · have h1 := congrArg (fun z => (z + (m - c % m)) % m) h
    simp only [Nat.mod_add_mod] at h1
    have e : ∀ u : Nat, (u + c + (m - c % m)) % m = u % m := fun u => by
      have hk := Nat.mod_lt c hm
      have h2 : u + c + (m - c % m) = u + m + m * (c / m) := by
        have := Nat.div_add_mod c m
        omega
      rw [h2, Nat.add_mul_mod_self_left, Nat.add_mod_right]
    rwa [e, e] at h1

/-- One round of Euclid's algorithm, with the next factor as it is reckoned modulo m. -/
theorem eu_step (a m r t x y z : Nat) (h : Eu a m r t x y) (hz : (z + r / x * y) % m = t % m) : Eu a m x y (r % x) z := by
  obtain ⟨h1, h2, h3⟩ := h
  refine ⟨?_, h3, ?_⟩
  · rw [← h1, Nat.gcd_comm x (r % x), Nat.gcd_comm r x]; exact (Nat.gcd_rec x r).symm
  · refine mod_cancel _ _ (r / x * (y * a)) m ?_
    have e1 : z * a + r / x * (y * a) = (z + r / x * y) * a := by rw [Nat.add_mul, Nat.mul_assoc]
    rw [e1, Nat.mul_mod, hz, ← Nat.mul_mod, h2]
    have e2 : r = r % x + r / x * x := by have := Nat.div_add_mod r x; rw [Nat.mul_comm] at this; omega
    conv => lhs; rw [e2]
    rw [Nat.add_mod, Nat.mul_mod (r / x) x m, ← h3, ← Nat.mul_mod, ← Nat.add_mod]

theorem eu_round (a m r t x y : Nat) (hm : 0 < m) (h : Eu a m r t x y) : Eu a m x y (r % x) ((t + (m - r / x * y % m)) % m) :=
  eu_step a m r t x y _ h (sub_mul_mod t (r / x * y) m hm)

theorem eu_end (a m r t y : Nat) (h : Eu a m r t 0 y) : r = Nat.gcd a m ∧ (t * a) % m = r % m := by
  refine ⟨?_, h.2.1⟩
  rw [← h.1, Nat.gcd_zero_right]

/-- The inverse is one number. -/
theorem inv_unique (a m u v : Nat) (hu : u < m) (hv : v < m) (h1 : u * a % m = 1 % m) (h2 : v * a % m = 1 % m) : u = v := by
  have h3 : u * a * v % m = v % m := by
    rw [Nat.mul_mod, h1, ← Nat.mul_mod, Nat.one_mul]
  have h4 : u * a * v % m = u % m := by
    rw [Nat.mul_assoc, Nat.mul_comm a v, Nat.mul_mod, h2, ← Nat.mul_mod, Nat.mul_one]
  rw [h3, Nat.mod_eq_of_lt hv, Nat.mod_eq_of_lt hu] at h4
  exact h4.symm

/-- What an inverse is: v is the inverse of a modulo m. -/
def IsInv (a m v : Nat) : Prop := v < m ∧ v * a % m = 1 % m ∧ Nat.gcd a m = 1

theorem isInv_unique {a m u v : Nat} (h1 : IsInv a m u) (h2 : IsInv a m v) : u = v := inv_unique a m u v h1.1 h2.1 h1.2.1 h2.2.1

/-! ### Trial division -/

/-- A number from 2 on that no number from 2 on, whose square is not above it, divides. -/
def IsPr (n : Nat) : Prop := 2 ≤ n ∧ ∀ d, 2 ≤ d → d * d ≤ n → n % d ≠ 0

theorem not_pr_of (n d : Nat) (h1 : 2 ≤ d) (h2 : d * d ≤ n) (h3 : n % d = 0) : ¬ IsPr n := fun h => h.2 d h1 h2 h3

theorem pr_of (n d : Nat) (h0 : 2 ≤ n) (h : ∀ c, 2 ≤ c → c < d → n % c ≠ 0) (hd : n < d * d) : IsPr n :=
  ⟨h0, fun c hc hcc => h c hc (by
    rcases Nat.lt_or_ge c d with hlt | hge
    · exact hlt
    · exact absurd (Nat.mul_le_mul hge hge) (by omega))⟩

theorem not_pr_small (n : Nat) (h : n < 2) : ¬ IsPr n := fun k => by have := k.1; omega

/-- No proper divisor at all. -/
theorem pr_no_div (n b : Nat) (h : IsPr n) (hb : 2 ≤ b) (hlt : b < n) : n % b ≠ 0 := by
  intro h0
  have hdiv : n = b * (n / b) := by have := Nat.div_add_mod n b; omega
  rcases Nat.lt_or_ge n (b * b) with hlt2 | hge
  · have hc2 : 2 ≤ n / b := by
      rcases Nat.lt_or_ge (n / b) 2 with h2 | h2
      · have h3 : b * (n / b) ≤ b * 1 := Nat.mul_le_mul_left b (by omega)
        omega
      · exact h2
    have hcb : n / b < b := by
      rcases Nat.lt_or_ge (n / b) b with h2 | h2
      · exact h2
      · have := Nat.mul_le_mul_left b h2; omega
    have hcc : n / b * (n / b) ≤ n := by
      have h4 : n / b * (n / b) ≤ b * (n / b) := Nat.mul_le_mul_right _ (by omega)
      omega
    refine h.2 (n / b) hc2 hcc ?_
    have h5 : n % (n / b) = (b * (n / b)) % (n / b) := by rw [← hdiv]
    rw [h5, Nat.mul_mod_left]
  · exact h.2 b hb hge h0

theorem not_pr_mul (a b : Nat) (ha : 2 ≤ a) (hb : 2 ≤ b) : ¬ IsPr (a * b) := by
  intro h
  refine pr_no_div (a * b) a h ha ?_ (Nat.mul_mod_right a b)
  have : a * 2 ≤ a * b := Nat.mul_le_mul_left a hb
  omega

end Go.Proofs.Ytcbanemkjebdcaa.MA
