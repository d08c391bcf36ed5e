/-
  Plain arithmetic of layer 1, part D: shifts and long division.
-/
import Derived.Test.YthplhlcdlnedfaaMathO
namespace Go.Proofs.Ythplhlcdlnedfaa.MN

/-- One digit is shifted up: its low part, and what goes into the next digit. -/
theorem up_parts (s d : Nat) (hs : s ≤ 31) (hd : d < 4294967296) :
    (d * 2 ^ s % 4294967296) % 2 ^ s = 0 ∧ d * 2 ^ s % 4294967296 + 2 ^ s ≤ 4294967296 ∧ d * 2 ^ s / 4294967296 < 2 ^ s ∧ d * 2 ^ s ≤ 9223372034707292160 ∧ 2 ^ s ≤ 2147483648 ∧ 0 < 2 ^ s := by
  have e : (4294967296 : Nat) = 2 ^ s * 2 ^ (32 - s) := by rw [← Nat.pow_add, show s + (32 - s) = 32 by omega]
  have hp : 0 < 2 ^ s := Nat.two_pow_pos s
  have h31 : 2 ^ s ≤ 2 ^ 31 := Nat.pow_le_pow_right (by omega) hs
  have h1 : (d * 2 ^ s % 4294967296) % 2 ^ s = 0 := by
    rw [e, Nat.mod_mul_right_mod, Nat.mul_mod_left]
  refine ⟨h1, ?_, ?_, ?_, h31, hp⟩
  · have h2 : d * 2 ^ s % 4294967296 = 2 ^ s * (d % 2 ^ (32 - s)) := by
      rw [Nat.mul_comm d]; conv => lhs; rw [e]
      exact Nat.mul_mod_mul_left _ _ _
    have h3 : d % 2 ^ (32 - s) + 1 ≤ 2 ^ (32 - s) := Nat.mod_lt _ (Nat.two_pow_pos _)
    have h4 := Nat.mul_le_mul_left (2 ^ s) h3
    rw [Nat.mul_add, ← e] at h4
    rw [h2]; omega
  · have h5 : d * 2 ^ s < 4294967296 * 2 ^ s := Nat.mul_lt_mul_of_pos_right hd hp
    exact Nat.div_lt_of_lt_mul h5
  · have h6 : d * 2 ^ s ≤ 4294967295 * 2147483648 := Nat.mul_le_mul (by omega) h31
    omega

/-- Digits that are shifted up, after k rounds. -/
structure Up (s : Nat) (ys xs : List Nat) (k : Nat) : Prop where
  sum : vsum 4294967296 (dg xs) (k + 1) = val 4294967296 (ys.take k) * 2 ^ s
  top : dg xs k < 2 ^ s
  zero : ∀ j, k < j → dg xs j = 0
  low : Low 4294967296 xs

theorem Up.start (s : Nat) (ys : List Nat) (n : Nat) : Up s ys (List.replicate n 0) 0 :=
  ⟨by simp [vsum, val, dg_replicate], by rw [dg_replicate]; exact Nat.two_pow_pos s, fun j _ => dg_replicate n j, fun d hd => by rw [List.eq_of_mem_replicate hd]; omega⟩

theorem Up.step {s k d W : Nat} {ys xs : List Nat} (h : Up s ys xs k) (hs : s ≤ 31) (hly : Low 4294967296 ys) (hk : k < ys.length) (hlen : ys.length + 1 = xs.length) (hd : d = dg ys k) (hW : W = d * 2 ^ s) :
    Up s ys ((xs.set k (dg xs k + W % 4294967296)).set (k + 1) (W / 4294967296)) (k + 1) := by
  have hdl : d < 4294967296 := by rw [hd]; exact low_dg hly (by omega) k
  obtain ⟨p1, p2, p3, p4, p5, p6⟩ := up_parts s d hs hdl
  rw [← hW] at p1 p2 p3 p4
  have hk0 := h.top
  have hg : ∀ j, dg ((xs.set k (dg xs k + W % 4294967296)).set (k + 1) (W / 4294967296)) j = if j = k + 1 then W / 4294967296 else if j = k then dg xs k + W % 4294967296 else dg xs j := fun j => by
    rw [dg_set _ _ _ _ (by simp; omega), dg_set _ _ _ _ (by omega)]
  refine ⟨?_, ?_, fun j hj => ?_, low_set (low_set h.low _ _ (by omega)) _ _ (by omega)⟩
  · have hsum := h.sum
    simp only [vsum] at hsum ⊢
    rw [vsum_congr 4294967296 _ (dg xs) k (fun j hj => by rw [hg, if_neg (by omega), if_neg (by omega)]), hg k, hg (k + 1), if_neg (by omega), if_pos rfl, if_pos rfl, val_take_succ _ ys k hk, Nat.add_mul, ← hsum, ← hd, Nat.mul_assoc (4294967296 ^ k) d, ← hW, Nat.mul_add]
    have e1 : 4294967296 ^ (k + 1) * (W / 4294967296) = 4294967296 ^ k * (4294967296 * (W / 4294967296)) := by rw [Nat.pow_succ, Nat.mul_assoc]
    have e3 : 4294967296 ^ k * W = 4294967296 ^ k * (W % 4294967296) + 4294967296 ^ k * (4294967296 * (W / 4294967296)) := by
      rw [← Nat.mul_add, Nat.mod_add_div]
    rw [e1, e3]; omega
  · rw [hg, if_pos rfl]; exact p3
  · rw [hg, if_neg (by omega), if_neg (by omega)]; exact h.zero j (by omega)

theorem Up.done {s : Nat} {ys xs : List Nat} (h : Up s ys xs ys.length) (hlen : ys.length + 1 = xs.length) : val 4294967296 xs = val 4294967296 ys * 2 ^ s := by
  rw [val_vsum _ xs (ys.length + 1) (by omega), h.sum, List.take_of_length_le (Nat.le_refl _)]

end Go.Proofs.Ythplhlcdlnedfaa.MN
