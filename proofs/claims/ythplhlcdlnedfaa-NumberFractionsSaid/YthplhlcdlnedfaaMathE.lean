/-
  Plain arithmetic of layer 1, part E: shifting down.
-/
import Derived.Test.YthplhlcdlnedfaaMathD
namespace Go.Proofs.Ythplhlcdlnedfaa.MN

theorem val_drop (B : Nat) (xs : List Nat) (k : Nat) (h : k < xs.length) : val B (xs.drop k) = dg xs k + B * val B (xs.drop (k + 1)) := by
  rw [List.drop_eq_getElem_cons h, dg_get xs k h]; rfl

/-- The low bits of a number are those of its lowest digit. -/
theorem val_mod_pow (s : Nat) (hs : s ≤ 31) (d V : Nat) : (d + 4294967296 * V) % 2 ^ s = d % 2 ^ s := by
  have e : (4294967296 : Nat) = 2 ^ s * 2 ^ (32 - s) := by rw [← Nat.pow_add, show s + (32 - s) = 32 by omega]
  rw [e, Nat.mul_assoc, Nat.add_mul_mod_self_left]

/-- One digit that is shifted down: u is the digit above it. -/
theorem down_digit (s u d Q V : Nat) (_hs : s ≤ 31) (hd : d < 4294967296) (hQ : Q = V / 2 ^ s) (hR : V % 2 ^ s = u % 2 ^ s) :
    (u * 4294967296 + d) / 2 ^ s % 4294967296 + 4294967296 * Q = (d + 4294967296 * V) / 2 ^ s := by
  have hp : 0 < 2 ^ s := Nat.two_pow_pos s
  generalize hR2 : u % 2 ^ s = R at *
  have hRl : R < 2 ^ s := by rw [← hR2]; exact Nat.mod_lt _ hp
  have hu : u = 2 ^ s * (u / 2 ^ s) + R := by rw [← hR2]; exact (Nat.div_add_mod _ _).symm
  have hV : V = 2 ^ s * Q + R := by rw [hQ, ← hR]; exact (Nat.div_add_mod _ _).symm
  have e1 : u * 4294967296 + d = (d + 4294967296 * R) + 2 ^ s * (4294967296 * (u / 2 ^ s)) := by
    conv => lhs; rw [hu]
    rw [Nat.add_mul, Nat.mul_assoc, Nat.mul_comm (u / 2 ^ s)]; omega
  have e2 : d + 4294967296 * V = (d + 4294967296 * R) + 2 ^ s * (4294967296 * Q) := by
    conv => lhs; rw [hV]
    rw [Nat.mul_add, Nat.mul_left_comm]; omega
  rw [e1, e2, Nat.add_mul_div_left _ _ hp, Nat.add_mul_div_left _ _ hp, Nat.add_mul_mod_self_left]
  have h3 : (d + 4294967296 * R) / 2 ^ s < 4294967296 := by
    refine Nat.div_lt_of_lt_mul ?_
    have h4 : 4294967296 * R + 4294967296 ≤ 4294967296 * 2 ^ s := by
      have := Nat.mul_le_mul_left 4294967296 (show R + 1 ≤ 2 ^ s from hRl)
      omega
    rw [Nat.mul_comm (2 ^ s)]; omega
  rw [Nat.mod_eq_of_lt h3]

/-- Digits that are shifted down, from the index k on. -/
structure Down (s : Nat) (ys xs : List Nat) (k : Nat) : Prop where
  sum : val 4294967296 (xs.drop k) = val 4294967296 (ys.drop k) / 2 ^ s
  low : Low 4294967296 xs

theorem Down.start (s : Nat) (ys : List Nat) : Down s ys (List.replicate ys.length 0) ys.length :=
  ⟨by rw [List.drop_of_length_le (by simp), List.drop_of_length_le (Nat.le_refl _)]; simp [val], fun d hd => by rw [List.eq_of_mem_replicate hd]; omega⟩

theorem Down.step {s k e : Nat} {ys xs : List Nat} (h : Down s ys xs (k + 1)) (hs : s ≤ 31) (hly : Low 4294967296 ys) (hk : k < ys.length) (hlen : xs.length = ys.length) (he : e = (dg ys (k + 1) * 4294967296 + dg ys k) / 2 ^ s % 4294967296) :
    Down s ys (xs.set k e) k := by
  have hel : e < 4294967296 := by rw [he]; exact Nat.mod_lt _ (by omega)
  refine ⟨?_, low_set h.low _ _ hel⟩
  have hR : val 4294967296 (ys.drop (k + 1)) % 2 ^ s = dg ys (k + 1) % 2 ^ s := by
    rcases Nat.lt_or_ge (k + 1) ys.length with h1 | h1
    · rw [val_drop _ ys (k + 1) h1, val_mod_pow s hs]
    · rw [List.drop_of_length_le h1, dg_past ys (k + 1) h1]; rfl
  rw [val_drop _ (xs.set k e) k (by simp; omega), dg_set _ _ _ _ (by omega), if_pos rfl, List.drop_set_of_lt (by omega), h.sum, he, val_drop _ ys k hk]
  exact down_digit s _ _ _ _ hs (low_dg hly (by omega) k) rfl hR

theorem Down.done {s : Nat} {ys xs : List Nat} (h : Down s ys xs 0) : val 4294967296 xs = val 4294967296 ys / 2 ^ s := by
  have := h.sum; simpa using this

end Go.Proofs.Ythplhlcdlnedfaa.MN
