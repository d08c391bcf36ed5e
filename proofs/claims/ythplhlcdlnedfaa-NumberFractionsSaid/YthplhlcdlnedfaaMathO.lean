/-
  Plain arithmetic of layer 1, part O: products by columns.
-/
import Derived.Test.YthplhlcdlnedfaaMathN
namespace Go.Proofs.Ythplhlcdlnedfaa.MN

theorem val_nil (B : Nat) : val B [] = 0 := rfl

theorem vsum_bump (B : Nat) (f g : Nat → Nat) (c d n : Nat) (hc : c < n) (h : ∀ j, g j = if j = c then f j + d else f j) : vsum B g n = vsum B f n + B ^ c * d := by
  induction n with
  | zero => omega
  | succ n ih =>
    simp only [vsum]
    rcases Nat.lt_or_ge c n with h1 | h1
    · rw [ih h1, h n, if_neg (by omega)]; omega
    · obtain rfl : c = n := by omega
      rw [vsum_congr B g f c (fun j hj => by rw [h j, if_neg (by omega)]), h c, if_pos rfl, Nat.mul_add]; omega

/-- A column is raised. -/
theorem val_bump {B : Nat} (xs : List Nat) (c d : Nat) (hc : c < xs.length) : val B (xs.set c (dg xs c + d)) = val B xs + B ^ c * d := by
  rw [val_vsum B (xs.set c _) xs.length (by simp), val_vsum B xs xs.length (Nat.le_refl _)]
  exact vsum_bump B (dg xs) _ c d _ hc (fun j => by
    rw [dg_set _ _ _ _ hc]
    by_cases e : j = c
    · subst e; rw [if_pos rfl]
    · rw [if_neg e, if_neg e])

/-- The columns behind some rounds of the inner loop: what they are worth, and how large they are. -/
structure Pr (ys zs xs : List Nat) (i j : Nat) : Prop where
  sum : val 4294967296 xs = val 4294967296 (ys.take i) * val 4294967296 zs + 4294967296 ^ i * dg ys i * val 4294967296 (zs.take j)
  le : ∀ c, dg xs c ≤ (2 * i + if c < i + j then 2 else if c = i + j then 1 else 0) * 4294967296

theorem Pr.start (ys zs : List Nat) (N : Nat) : Pr ys zs (List.replicate N 0) 0 0 :=
  ⟨by rw [val_zeros _ (fun j => dg_replicate N j), List.take_zero, List.take_zero, val_nil, Nat.mul_zero, Nat.zero_mul], fun c => by rw [dg_replicate]; exact Nat.zero_le _⟩

theorem Pr.step {ys zs xs : List Nat} {i j : Nat} (h : Pr ys zs xs i j) (hj : j < zs.length) (hlen : i + j + 1 < xs.length) (hly : Low 4294967296 ys) (hlz : Low 4294967296 zs) :
    Pr ys zs ((xs.set (i + j) (dg xs (i + j) + dg ys i * dg zs j % 4294967296)).set (i + j + 1) (dg xs (i + j + 1) + dg ys i * dg zs j / 4294967296)) i (j + 1) := by
  have hY := low_dg hly (by omega) i
  have hZ := low_dg hlz (by omega) j
  have hp : dg ys i * dg zs j ≤ 4294967295 * 4294967295 := Nat.mul_le_mul (by omega) (by omega)
  generalize hP : dg ys i * dg zs j = P at *
  have e0 : dg (xs.set (i + j) (dg xs (i + j) + P % 4294967296)) (i + j + 1) = dg xs (i + j + 1) := by rw [dg_set _ _ _ _ (by omega), if_neg (by omega)]
  refine ⟨?_, fun c => ?_⟩
  · rw [← e0, val_bump _ _ _ (by simp; omega), val_bump _ _ _ (by omega), h.sum, val_take_succ _ zs j hj, Nat.mul_add]
    have e1 : 4294967296 ^ (i + j + 1) * (P / 4294967296) = 4294967296 ^ (i + j) * (4294967296 * (P / 4294967296)) := by rw [Nat.pow_succ, Nat.mul_assoc]
    have e2 : 4294967296 ^ i * dg ys i * (4294967296 ^ j * dg zs j) = 4294967296 ^ (i + j) * P := by
      rw [← hP, Nat.pow_add, Nat.mul_assoc, Nat.mul_assoc, Nat.mul_left_comm (dg ys i)]
    have e3 : 4294967296 ^ (i + j) * P = 4294967296 ^ (i + j) * (P % 4294967296) + 4294967296 ^ (i + j) * (4294967296 * (P / 4294967296)) := by
      rw [← Nat.mul_add, Nat.mod_add_div]
    rw [e1, e2, e3]; omega
  · have h0 := h.le (i + j)
    have h1 := h.le (i + j + 1)
    have h2 := h.le c
    rw [if_neg (by omega), if_pos rfl] at h0
    rw [if_neg (by omega), if_neg (by omega)] at h1
    rw [dg_set _ _ _ _ (by simp; omega), dg_set _ _ _ _ (by omega)]
    by_cases e1 : c = i + j + 1
    · subst e1; rw [if_pos rfl, if_neg (by omega), if_pos (by omega)]; omega
    · rw [if_neg e1]
      by_cases e2 : c = i + j
      · subst e2; rw [if_pos rfl, if_pos (by omega)]; omega
      · rw [if_neg e2]
        by_cases e3 : c < i + j
        · rw [if_pos e3] at h2; rw [if_pos (by omega)]; exact h2
        · rw [if_neg e3, if_neg e2] at h2; rw [if_neg (by omega), if_neg (by omega)]; exact h2

theorem Pr.next {ys zs xs : List Nat} {i : Nat} (h : Pr ys zs xs i zs.length) (hi : i < ys.length) : Pr ys zs xs (i + 1) 0 := by
  refine ⟨?_, fun c => ?_⟩
  · rw [h.sum, List.take_of_length_le (Nat.le_refl _), val_take_succ _ ys i hi, List.take_zero, val_nil, Nat.mul_zero, Nat.add_zero, Nat.add_mul]
  · have h2 := h.le c
    have h3 : (2 * i + if c < i + zs.length then 2 else if c = i + zs.length then 1 else 0) ≤ 2 * i + 2 := by split <;> (try split) <;> omega
    refine Nat.le_trans h2 (Nat.mul_le_mul_right _ (by omega))

theorem Pr.done {ys zs xs : List Nat} (h : Pr ys zs xs ys.length 0) : val 4294967296 xs = val 4294967296 ys * val 4294967296 zs := by
  rw [h.sum, List.take_of_length_le (Nat.le_refl _), List.take_zero, val_nil, Nat.mul_zero, Nat.add_zero]

end Go.Proofs.Ythplhlcdlnedfaa.MN
