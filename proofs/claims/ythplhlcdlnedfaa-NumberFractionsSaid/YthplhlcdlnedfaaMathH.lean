/-
  Plain arithmetic of layer 1, part H: the whole of long division.
-/
import Derived.Test.YthplhlcdlnedfaaMathG
namespace Go.Proofs.Ythplhlcdlnedfaa.MN

theorem vsum_split (B : Nat) (f : Nat → Nat) (a b : Nat) : vsum B f (a + b) = vsum B f a + B ^ a * vsum B (fun j => f (a + j)) b := by
  induction b with
  | zero => simp [vsum]
  | succ b ih =>
    rw [← Nat.add_assoc]
    simp only [vsum, ih, Nat.mul_add, Nat.pow_add, Nat.mul_assoc]
    omega

/-- Digits beyond a bound of the value are zeros. -/
theorem high_zero {B : Nat} (f : Nat → Nat) (a b : Nat) (h : vsum B f (a + b) < B ^ a) : vsum B (fun j => f (a + j)) b = 0 := by
  rw [vsum_split] at h
  rcases Nat.eq_zero_or_pos (vsum B (fun j => f (a + j)) b) with h0 | h0
  · exact h0
  · have : B ^ a * 1 ≤ B ^ a * vsum B (fun j => f (a + j)) b := Nat.mul_le_mul_left _ h0
    omega

/-- The number in a row, by the part of n + 1 digits at o. -/
theorem row_split {B : Nat} (xs : List Nat) (o n N : Nat) (hlen : xs.length = N) (ho : o + n + 1 ≤ N) :
    val B xs = vsum B (dg xs) o + B ^ o * (vsum B (fr xs o) (n + 1) + B ^ (n + 1) * vsum B (fun j => dg xs (o + (n + 1) + j)) (N - (o + (n + 1)))) := by
  have e : N = o + ((n + 1) + (N - (o + (n + 1)))) := by omega
  rw [val_vsum B xs N (by omega)]
  conv => lhs; rw [e]
  rw [vsum_split, vsum_split]
  have e2 : (fun j => dg xs (o + (n + 1 + j))) = fun j => dg xs (o + (n + 1) + j) := by funext j; congr 1; omega
  rw [e2]; rfl

/-- The state of long division: V is the divisor, of n digits; Q the quotient's digits from i on; R what is left. -/
structure Dv (U V n i : Nat) (xs qs : List Nat) : Prop where
  sum : val 4294967296 xs + V * (4294967296 ^ i * val 4294967296 (qs.drop i)) = U
  less : val 4294967296 xs < V * 4294967296 ^ i
  low : Low 4294967296 xs
  qlow : Low 4294967296 qs

theorem Dv.part_lt {U V n i : Nat} {xs qs : List Nat} (h : Dv U V n (i + 1) xs qs) (hlen : i + n + 1 ≤ xs.length) (hV : V < 4294967296 ^ n) :
    vsum 4294967296 (fr xs i) (n + 1) < V * 4294967296 ∧ val 4294967296 xs = vsum 4294967296 (dg xs) i + 4294967296 ^ i * vsum 4294967296 (fr xs i) (n + 1) ∧
      vsum 4294967296 (fun j => dg xs (i + (n + 1) + j)) (xs.length - (i + (n + 1))) = 0 := by
  have h1 := row_split (B := 4294967296) xs i n xs.length rfl hlen
  have hz : vsum 4294967296 (fun j => dg xs (i + (n + 1) + j)) (xs.length - (i + (n + 1))) = 0 := by
    refine high_zero (dg xs) (i + (n + 1)) _ ?_
    rw [show i + (n + 1) + (xs.length - (i + (n + 1))) = xs.length by omega, ← val_vsum _ xs xs.length (Nat.le_refl _)]
    have h2 := h.less
    have h3 : V * 4294967296 ^ (i + 1) ≤ 4294967296 ^ n * 4294967296 ^ (i + 1) := Nat.mul_le_mul_right _ (Nat.le_of_lt hV)
    rw [← Nat.pow_add, show n + (i + 1) = i + (n + 1) by omega] at h3
    exact Nat.lt_of_lt_of_le h2 h3
  rw [hz, Nat.mul_zero, Nat.add_zero] at h1
  refine ⟨?_, h1, hz⟩
  have h2 := h.less
  rw [h1, Nat.pow_succ, Nat.mul_comm V, Nat.mul_assoc, Nat.mul_comm 4294967296 V] at h2
  exact Nat.lt_of_mul_lt_mul_left (Nat.lt_of_le_of_lt (Nat.le_add_left _ _) h2)

/-- One digit of the quotient: what is left behind it. -/
theorem Dv.next {U V n i q P P' : Nat} {xs xs' qs : List Nat} (h : Dv U V n (i + 1) xs qs) (hlen : i + n + 1 ≤ xs.length) (hlen' : xs'.length = xs.length) (hV : V < 4294967296 ^ n) (hV0 : 0 < V)
    (hi : i < qs.length) (hP : P = vsum 4294967296 (fr xs i) (n + 1)) (hP' : P' = vsum 4294967296 (fr xs' i) (n + 1)) (hq : q = P / V) (hr : P' = P % V) (hsame : ∀ c, c < i ∨ i + n < c → dg xs' c = dg xs c) (hl : Low 4294967296 xs') :
    q < 4294967296 ∧ Dv U V n i xs' (qs.set i q) := by
  obtain ⟨h1, h2, h3⟩ := h.part_lt hlen hV
  have h5 := row_split (B := 4294967296) xs' i n xs'.length rfl (by omega)
  have e1 : vsum 4294967296 (fun j => dg xs' (i + (n + 1) + j)) (xs'.length - (i + (n + 1))) = 0 := by
    rw [hlen', ← h3]
    exact vsum_congr _ _ _ _ (fun j _ => hsame _ (by omega))
  have e2 : vsum 4294967296 (dg xs') i = vsum 4294967296 (dg xs) i := vsum_congr _ _ _ _ (fun j hj => hsame _ (by omega))
  rw [e1, Nat.mul_zero, Nat.add_zero, e2, ← hP'] at h5
  rw [← hP] at h1 h2
  have hql : q < 4294967296 := by rw [hq]; exact Nat.div_lt_of_lt_mul h1
  have hPV : P = V * q + P' := by rw [hq, hr]; exact (Nat.div_add_mod _ _).symm
  have hP'V : P' < V := by rw [hr]; exact Nat.mod_lt _ hV0
  refine ⟨hql, ?_, ?_, hl, low_set h.qlow _ _ hql⟩
  · have hs := h.sum
    have e3 : val 4294967296 ((qs.set i q).drop i) = q + 4294967296 * val 4294967296 (qs.drop (i + 1)) := by
      rw [val_drop _ (qs.set i q) i (by simp; omega), dg_set _ _ _ _ hi, if_pos rfl, List.drop_set_of_lt (by omega)]
    rw [e3, h5]
    rw [h2] at hs
    generalize val 4294967296 (qs.drop (i + 1)) = Z at *
    have e4 : V * (4294967296 ^ i * (q + 4294967296 * Z)) = 4294967296 ^ i * (V * q) + V * (4294967296 ^ (i + 1) * Z) := by
      rw [Nat.mul_add, Nat.mul_add, Nat.pow_succ, Nat.mul_assoc (4294967296 ^ i) 4294967296, Nat.mul_left_comm V (4294967296 ^ i) q]
    have e5 : 4294967296 ^ i * P = 4294967296 ^ i * (V * q) + 4294967296 ^ i * P' := by rw [hPV, Nat.mul_add]
    rw [e4]; omega
  · rw [h5]
    have h6 := vsum_lt 4294967296 (dg xs) i (fun j _ => low_dg h.low (by omega) j)
    have h7 : 4294967296 ^ i * (P' + 1) ≤ 4294967296 ^ i * V := Nat.mul_le_mul_left _ hP'V
    rw [Nat.mul_add, Nat.mul_one] at h7
    rw [Nat.mul_comm V]
    omega

/-- The digit and the rest, where it was guessed right. -/
theorem took_right {vs xs xs' : List Nat} {q o n : Nat} (h : Took vs xs xs' q o n false) (h1 : vsum 4294967296 (fr xs o) (n + 1) / val 4294967296 vs ≤ q) (hV0 : 0 < val 4294967296 vs) :
    q = vsum 4294967296 (fr xs o) (n + 1) / val 4294967296 vs ∧ vsum 4294967296 (fr xs' o) (n + 1) = vsum 4294967296 (fr xs o) (n + 1) % val 4294967296 vs := by
  have hs := h.sum
  rw [if_neg (by simp), Nat.mul_zero, Nat.add_zero] at hs
  generalize vsum 4294967296 (fr xs o) (n + 1) = P at *
  generalize vsum 4294967296 (fr xs' o) (n + 1) = P' at *
  generalize val 4294967296 vs = V at *
  have hle : q ≤ P / V := (Nat.le_div_iff_mul_le hV0).2 (by omega)
  have hq : q = P / V := Nat.le_antisymm hle h1
  refine ⟨hq, ?_⟩
  have := Nat.div_add_mod P V
  rw [← hq, Nat.mul_comm] at this
  omega

/-- Where it was one too large. -/
theorem took_wrong {vs xs xs' xs'' : List Nat} {q o n : Nat} (h : Took vs xs xs' q o n true) (g : Gave vs xs' xs'' o n) (h2 : q ≤ vsum 4294967296 (fr xs o) (n + 1) / val 4294967296 vs + 1) (hV0 : 0 < val 4294967296 vs) (hV : val 4294967296 vs < 4294967296 ^ n) (hl : Low 4294967296 xs) :
    0 < q ∧ q - 1 = vsum 4294967296 (fr xs o) (n + 1) / val 4294967296 vs ∧ vsum 4294967296 (fr xs'' o) (n + 1) = vsum 4294967296 (fr xs o) (n + 1) % val 4294967296 vs := by
  have hs := h.sum
  rw [if_pos rfl, Nat.mul_one] at hs
  obtain ⟨c, hg⟩ := g.sum
  have b0 := vsum_lt 4294967296 (fr xs o) (n + 1) (fun j _ => low_dg hl (by omega) _)
  have b1 := vsum_lt 4294967296 (fr xs' o) (n + 1) (fun j _ => low_dg h.low (by omega) _)
  have b2 := vsum_lt 4294967296 (fr xs'' o) (n + 1) (fun j _ => low_dg g.low (by omega) _)
  have b3 : 4294967296 ^ n ≤ 4294967296 ^ (n + 1) := Nat.pow_le_pow_right (by omega) (by omega)
  generalize vsum 4294967296 (fr xs o) (n + 1) = P at *
  generalize vsum 4294967296 (fr xs' o) (n + 1) = P' at *
  generalize vsum 4294967296 (fr xs'' o) (n + 1) = P'' at *
  generalize val 4294967296 vs = V at *
  generalize 4294967296 ^ (n + 1) = K at *
  have hq0 : 0 < q := by
    rcases Nat.eq_zero_or_pos q with rfl | h0
    · rw [Nat.zero_mul] at hs; omega
    · exact h0
  have hlt : P / V < q := (Nat.div_lt_iff_lt_mul hV0).2 (by omega)
  have hq : q - 1 = P / V := by omega
  refine ⟨hq0, hq, ?_⟩
  have hd := Nat.div_add_mod P V
  have hm := Nat.mod_lt P hV0
  rw [← hq, Nat.mul_comm] at hd
  have e : q * V = (q - 1) * V + V := by
    conv => lhs; rw [show q = q - 1 + 1 by omega]
    rw [Nat.add_mul, Nat.one_mul]
  generalize (q - 1) * V = W at *
  generalize P % V = M at *
  have hc : c = 1 := by
    rcases Nat.lt_or_ge c 1 with h1 | h1
    · obtain rfl : c = 0 := by omega
      rw [Nat.mul_zero] at hg; omega
    · rcases Nat.lt_or_ge 1 c with h3 | h3
      · have : K * 2 ≤ K * c := Nat.mul_le_mul_left K h3
        omega
      · omega
  subst hc
  rw [Nat.mul_one] at hg
  omega

theorem Dv.done {a b s n : Nat} {xs qs : List Nat} (h : Dv (a * 2 ^ s) (b * 2 ^ s) n 0 xs qs) : val 4294967296 qs = a / b ∧ val 4294967296 xs / 2 ^ s = a % b := by
  have hs := h.sum
  have hl := h.less
  have hp : 0 < 2 ^ s := Nat.two_pow_pos s
  rw [List.drop_zero, Nat.pow_zero, Nat.one_mul] at hs
  rw [Nat.pow_zero, Nat.mul_one] at hl
  generalize val 4294967296 qs = Q at *
  generalize val 4294967296 xs = R at *
  have e1 : b * 2 ^ s * Q = b * Q * 2 ^ s := by rw [Nat.mul_right_comm]
  rw [e1] at hs
  have hle : b * Q * 2 ^ s ≤ a * 2 ^ s := by omega
  have hle2 : b * Q ≤ a := Nat.le_of_mul_le_mul_right hle hp
  have hR : R = (a - b * Q) * 2 ^ s := by rw [Nat.sub_mul]; omega
  have hlt : a - b * Q < b := by
    rw [hR] at hl
    exact Nat.lt_of_mul_lt_mul_right hl
  have hQ : Q = a / b := by
    refine (Nat.div_eq_of_lt_le ?_ ?_).symm
    · rw [Nat.mul_comm]; exact hle2
    · rw [Nat.add_mul, Nat.one_mul, Nat.mul_comm Q]; omega
  refine ⟨hQ, ?_⟩
  rw [hR, Nat.mul_div_cancel _ hp]
  have := Nat.div_add_mod a b
  rw [← hQ] at this; omega

end Go.Proofs.Ythplhlcdlnedfaa.MN
