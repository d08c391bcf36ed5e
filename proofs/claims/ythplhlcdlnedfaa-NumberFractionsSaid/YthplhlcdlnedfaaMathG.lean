/-
  Plain arithmetic of layer 1, part G: the guess of a digit of a quotient.
-/
import Derived.Test.YthplhlcdlnedfaaMathF
namespace Go.Proofs.Ythplhlcdlnedfaa.MN

/-- A quotient fits the highest digits. -/
theorem trunc_le (K P V u v z : Nat) (hV : K * v ≤ V) (hP : P < K * (u + 1)) (hz : z * V ≤ P) : z * v ≤ u := by
  have h1 : z * (K * v) ≤ z * V := Nat.mul_le_mul_left z hV
  have h2 : K * (z * v) < K * (u + 1) := by rw [Nat.mul_left_comm]; omega
  have := Nat.lt_of_mul_lt_mul_left h2
  omega

/-- What fits the highest digits is at most one too large. -/
theorem trunc_ge (K P V u v z : Nat) (hV : V < K * (v + 1)) (hP : K * u ≤ P) (hz : z * v ≤ u) (hV0 : 0 < V) (hsmall : P / V < v) : z ≤ P / V + 1 := by
  rcases Nat.lt_or_ge (P / V + 1) z with h | h
  · exfalso
    generalize hQ : P / V = Q at *
    have h1 : P < V * (Q + 1) := by rw [← hQ]; exact Nat.lt_mul_div_succ P hV0
    have h2 : (Q + 2) * v ≤ u := Nat.le_trans (Nat.mul_le_mul_right v h) hz
    have h3 : K * ((Q + 2) * v) ≤ P := Nat.le_trans (Nat.mul_le_mul_left K h2) hP
    have h4 : V * (Q + 1) ≤ K * (v + 1) * (Q + 1) := Nat.mul_le_mul_right _ (Nat.le_of_lt hV)
    have h5 : K * ((Q + 2) * v) < K * ((v + 1) * (Q + 1)) := by have e := Nat.mul_assoc K (v + 1) (Q + 1); omega
    have h6 := Nat.lt_of_mul_lt_mul_left h5
    have e1 : (Q + 2) * v = Q * v + 2 * v := Nat.add_mul _ _ _
    have e2 : (v + 1) * (Q + 1) = Q * v + v + Q + 1 := by rw [Nat.add_mul, Nat.mul_add, Nat.mul_comm v Q]; omega
    omega
  · exact h

/-- The setting: a divisor of j + 2 digits that begins with a one bit, and a part of one digit more. -/
structure Gs (ps vs : List Nat) (j : Nat) : Prop where
  plen : ps.length = j + 3
  vlen : vs.length = j + 2
  plow : Low 4294967296 ps
  vlow : Low 4294967296 vs
  top : 2147483648 ≤ dg vs (j + 1)
  less : val 4294967296 ps < val 4294967296 vs * 4294967296

theorem val_two {xs : List Nat} {j : Nat} (h : xs.length = j + 2) : val 4294967296 xs = vsum 4294967296 (dg xs) j + 4294967296 ^ j * (dg xs (j + 1) * 4294967296 + dg xs j) := by
  rw [val_vsum _ xs (j + 2) (by omega)]
  simp only [vsum, Nat.pow_succ]
  rw [Nat.mul_add, Nat.mul_assoc (4294967296 ^ j), Nat.mul_comm 4294967296]; omega
theorem val_three {xs : List Nat} {j : Nat} (h : xs.length = j + 3) : val 4294967296 xs = vsum 4294967296 (dg xs) j + 4294967296 ^ j * ((dg xs (j + 2) * 4294967296 + dg xs (j + 1)) * 4294967296 + dg xs j) := by
  rw [val_vsum _ xs (j + 3) (by omega)]
  simp only [vsum, Nat.pow_succ]
  have e : 4294967296 ^ j * ((dg xs (j + 2) * 4294967296 + dg xs (j + 1)) * 4294967296 + dg xs j) = 4294967296 ^ j * 4294967296 * 4294967296 * dg xs (j + 2) + 4294967296 ^ j * 4294967296 * dg xs (j + 1) + 4294967296 ^ j * dg xs j := by
    rw [Nat.mul_add, Nat.add_mul, Nat.mul_add]
    have e1 : 4294967296 ^ j * (dg xs (j + 2) * 4294967296 * 4294967296) = 4294967296 ^ j * 4294967296 * 4294967296 * dg xs (j + 2) := by
      rw [Nat.mul_assoc (4294967296 ^ j * 4294967296), Nat.mul_assoc (4294967296 ^ j), Nat.mul_comm 4294967296 (4294967296 * dg xs (j + 2)), Nat.mul_comm 4294967296 (dg xs (j + 2))]
    have e2 : 4294967296 ^ j * (dg xs (j + 1) * 4294967296) = 4294967296 ^ j * 4294967296 * dg xs (j + 1) := by
      rw [Nat.mul_assoc (4294967296 ^ j), Nat.mul_comm 4294967296 (dg xs (j + 1))]
    rw [e1, e2]
  rw [e]; omega

theorem Gs.vpos {ps vs : List Nat} {j : Nat} (h : Gs ps vs j) : 0 < val 4294967296 vs := by
  rw [val_two h.vlen]
  have h1 : 0 < 4294967296 ^ j := Nat.pow_pos (by omega)
  have h2 := h.top
  have h3 : 0 < 4294967296 ^ j * (dg vs (j + 1) * 4294967296 + dg vs j) := Nat.mul_pos h1 (by omega)
  omega

theorem Gs.quo_lt {ps vs : List Nat} {j : Nat} (h : Gs ps vs j) : val 4294967296 ps / val 4294967296 vs < 4294967296 :=
  Nat.div_lt_of_lt_mul h.less

theorem Gs.vlow2 {vs : List Nat} (j : Nat) (h : Low 4294967296 vs) : vsum 4294967296 (dg vs) j < 4294967296 ^ j := vsum_lt _ _ _ (fun i _ => low_dg h (by omega) i)

/-- With three digits by two. -/
theorem Gs.two_le {ps vs : List Nat} {j : Nat} (h : Gs ps vs j) : val 4294967296 ps / val 4294967296 vs * (dg vs (j + 1) * 4294967296 + dg vs j) ≤ (dg ps (j + 2) * 4294967296 + dg ps (j + 1)) * 4294967296 + dg ps j := by
  refine trunc_le (4294967296 ^ j) (val 4294967296 ps) (val 4294967296 vs) _ _ _ ?_ ?_ (Nat.div_mul_le_self _ _)
  · rw [val_two h.vlen]; omega
  · have := Gs.vlow2 j h.plow
    exact Nat.lt_of_lt_of_eq (by rw [val_three h.plen, Nat.add_comm]; exact Nat.add_lt_add_left this _) (Nat.mul_succ _ _).symm

theorem Gs.two_ge {ps vs : List Nat} {j z : Nat} (h : Gs ps vs j) (hz : z * (dg vs (j + 1) * 4294967296 + dg vs j) ≤ (dg ps (j + 2) * 4294967296 + dg ps (j + 1)) * 4294967296 + dg ps j) : z ≤ val 4294967296 ps / val 4294967296 vs + 1 := by
  refine trunc_ge (4294967296 ^ j) (val 4294967296 ps) (val 4294967296 vs) _ _ _ ?_ ?_ hz h.vpos ?_
  · have := Gs.vlow2 j h.vlow
    exact Nat.lt_of_lt_of_eq (by rw [val_two h.vlen, Nat.add_comm]; exact Nat.add_lt_add_left this _) (Nat.mul_succ _ _).symm
  · rw [val_three h.plen]; omega
  · have h1 := h.quo_lt
    have h2 := h.top
    omega

/-- With two digits by one. -/
theorem Gs.one_le {ps vs : List Nat} {j : Nat} (h : Gs ps vs j) : val 4294967296 ps / val 4294967296 vs * dg vs (j + 1) ≤ dg ps (j + 2) * 4294967296 + dg ps (j + 1) := by
  have h1 := h.two_le
  have h2 := low_dg h.plow (by omega) j
  generalize val 4294967296 ps / val 4294967296 vs = Q at *
  rw [Nat.mul_add, ← Nat.mul_assoc] at h1
  generalize Q * dg vs (j + 1) = a at *
  generalize Q * dg vs j = b at *
  omega

theorem top_abs (B K l x v u p : Nat) (hl : l < K) (h4 : v + 1 ≤ u) (h1 : x + K * (u * B + p) < (l + K * v) * B) : False := by
  have a1 : l + K * v ≤ K * (v + 1) := by rw [Nat.mul_succ]; omega
  have a2 := Nat.mul_le_mul_right B a1
  have a3 : K * (v + 1) * B ≤ K * u * B := Nat.mul_le_mul_right B (Nat.mul_le_mul_left K h4)
  have a4 : K * (u * B + p) = K * u * B + K * p := by rw [Nat.mul_add, Nat.mul_assoc]
  omega

theorem Gs.top_le {ps vs : List Nat} {j : Nat} (h : Gs ps vs j) : dg ps (j + 2) ≤ dg vs (j + 1) := by
  rcases Nat.lt_or_ge (dg vs (j + 1)) (dg ps (j + 2)) with hlt | hge
  · exfalso
    have h1 := h.less
    rw [val_two h.vlen, val_three h.plen] at h1
    have h2 := Gs.vlow2 j h.vlow
    have h3 := low_dg h.vlow (by omega) j
    have h4 : dg vs (j + 1) * 4294967296 + dg vs j + 1 ≤ dg ps (j + 2) * 4294967296 + dg ps (j + 1) := by omega
    exact top_abs _ _ _ _ _ _ _ h2 h4 h1
  · exact hge

/-- The state of the loop. -/
structure Gu (ps vs : List Nat) (j q r : Nat) : Prop where
  eq : q * dg vs (j + 1) + r = dg ps (j + 2) * 4294967296 + dg ps (j + 1)
  ge : val 4294967296 ps / val 4294967296 vs ≤ q
  le : q ≤ 4294967297

theorem Gu.start {ps vs : List Nat} {j : Nat} (h : Gs ps vs j) : Gu ps vs j ((dg ps (j + 2) * 4294967296 + dg ps (j + 1)) / dg vs (j + 1)) ((dg ps (j + 2) * 4294967296 + dg ps (j + 1)) % dg vs (j + 1)) := by
  have ht := h.top
  refine ⟨by rw [Nat.mul_comm]; exact Nat.div_add_mod _ _, (Nat.le_div_iff_mul_le (by omega)).2 h.one_le, ?_⟩
  have h1 := h.top_le
  have h2 := low_dg h.plow (by omega) (j + 1)
  have h3 : (dg ps (j + 2) * 4294967296 + dg ps (j + 1)) / dg vs (j + 1) < 4294967298 := Nat.div_lt_of_lt_mul (by omega)
  omega

theorem Gu.down {ps vs : List Nat} {j q r : Nat} (h : Gs ps vs j) (g : Gu ps vs j q r) (hc : 4294967296 ≤ q ∨ r * 4294967296 + dg ps j < q * dg vs j) : 0 < q ∧ Gu ps vs j (q - 1) (r + dg vs (j + 1)) := by
  have hlt : val 4294967296 ps / val 4294967296 vs < q := by
    rcases hc with hc | hc
    · have := h.quo_lt; omega
    · rcases Nat.lt_or_ge (val 4294967296 ps / val 4294967296 vs) q with h1 | h1
      · exact h1
      · exfalso
        have h2 := Nat.le_trans (Nat.mul_le_mul_right (dg vs (j + 1) * 4294967296 + dg vs j) h1) h.two_le
        have h3 := g.eq
        rw [Nat.mul_add, ← Nat.mul_assoc] at h2
        generalize q * dg vs (j + 1) = a at *
        generalize q * dg vs j = b at *
        omega
  have hg := g.le
  refine ⟨Nat.lt_of_le_of_lt (Nat.zero_le _) hlt, ?_, Nat.le_sub_one_of_lt hlt, Nat.le_trans (Nat.sub_le _ _) hg⟩
  have h3 := g.eq
  obtain ⟨p, rfl⟩ : ∃ p, q = p + 1 := ⟨q - 1, by have := Nat.lt_of_le_of_lt (Nat.zero_le _) hlt; omega⟩
  clear hc hlt
  rw [Nat.add_mul, Nat.one_mul] at h3
  rw [Nat.add_sub_cancel]; omega

theorem Gu.stop {ps vs : List Nat} {j q r : Nat} (h : Gs ps vs j) (g : Gu ps vs j q r) (hc : 4294967296 ≤ r ∨ (q < 4294967296 ∧ q * dg vs j ≤ r * 4294967296 + dg ps j)) :
    val 4294967296 ps / val 4294967296 vs ≤ q ∧ q ≤ val 4294967296 ps / val 4294967296 vs + 1 := by
  refine ⟨g.ge, h.two_ge ?_⟩
  have h3 := g.eq
  have hv := low_dg h.vlow (by omega) j
  have hb : q * dg vs j ≤ r * 4294967296 + dg ps j := by
    rcases hc with hc | hc
    · have hq : q ≤ 4294967296 := by
        rcases Nat.lt_or_ge 4294967296 q with h1 | h1
        · exfalso
          obtain rfl : q = 4294967297 := by have := g.le; omega
          have h4 := h.top_le
          have h5 := low_dg h.plow (by omega) (j + 1)
          have h6 := h.top
          omega
        · exact h1
      have h7 : q * dg vs j ≤ 4294967296 * 4294967295 := Nat.mul_le_mul hq (by omega)
      omega
    · exact hc.2
  rw [Nat.mul_add, ← Nat.mul_assoc]
  generalize q * dg vs (j + 1) = a at *
  generalize q * dg vs j = b at *
  omega

end Go.Proofs.Ythplhlcdlnedfaa.MN
