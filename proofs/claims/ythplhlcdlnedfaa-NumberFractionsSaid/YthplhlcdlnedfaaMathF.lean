/-
  Plain arithmetic of layer 1, part F: one step of long division, on a part of a row that begins at o.
-/
import Derived.Test.YthplhlcdlnedfaaMathE
namespace Go.Proofs.Ythplhlcdlnedfaa.MN

/-- The digits of a row from o on. -/
def fr (xs : List Nat) (o : Nat) : Nat → Nat := fun j => dg xs (o + j)

/-- After k digits q times vs has been taken off: b is borrowed, m carried. -/
structure Tk (vs xs0 xs : List Nat) (q o k b m : Nat) : Prop where
  sum : vsum 4294967296 (fr xs o) k + q * vsum 4294967296 (dg vs) k = vsum 4294967296 (fr xs0 o) k + 4294967296 ^ k * (b + m)
  same : ∀ c, c < o ∨ o + k ≤ c → dg xs c = dg xs0 c
  low : Low 4294967296 xs
  ble : b ≤ 1
  mle : m < 4294967296

theorem Tk.start (vs xs0 : List Nat) (q o : Nat) (h : Low 4294967296 xs0) : Tk vs xs0 xs0 q o 0 0 0 :=
  ⟨by simp [vsum], fun _ _ => rfl, h, by omega, by omega⟩

theorem Tk.step {vs xs0 xs : List Nat} {q o k b m t e b' : Nat} (h : Tk vs xs0 xs q o k b m) (hq : q ≤ 4294967296) (hlv : Low 4294967296 vs) (hk : o + k < xs.length)
    (ht : t = m + q * dg vs k) (he : dg xs (o + k) + 4294967296 * b' = e + t % 4294967296 + b) (hel : e < 4294967296) (hb : b' ≤ 1) : Tk vs xs0 (xs.set (o + k) e) q o (k + 1) b' (t / 4294967296) := by
  have hg : ∀ c, dg (xs.set (o + k) e) c = if c = o + k then e else dg xs c := fun c => dg_set _ _ _ _ hk
  have hv := low_dg hlv (by omega) k
  have hmq : q * dg vs k ≤ 4294967296 * 4294967295 := Nat.mul_le_mul hq (by omega)
  have hm := h.mle
  refine ⟨?_, fun c hc => ?_, low_set h.low _ _ hel, hb, ?_⟩
  · have e1 : vsum 4294967296 (fr (xs.set (o + k) e) o) k = vsum 4294967296 (fr xs o) k := vsum_congr _ _ _ _ (fun j hj => by
      show dg _ (o + j) = dg xs (o + j); rw [hg, if_neg (by omega)])
    have e2 : fr (xs.set (o + k) e) o k = e := by show dg _ (o + k) = e; rw [hg, if_pos rfl]
    have e3 : fr xs0 o k = dg xs (o + k) := by show dg xs0 (o + k) = _; rw [h.same _ (by omega)]
    have hs := h.sum
    simp only [vsum]
    rw [e1, e2, e3, Nat.mul_add, Nat.mul_left_comm q, Nat.pow_succ, Nat.mul_assoc (4294967296 ^ k)]
    have key : e + q * dg vs k + (b + m) = dg xs (o + k) + 4294967296 * (b' + t / 4294967296) := by omega
    have key2 := congrArg (4294967296 ^ k * ·) key
    simp only [Nat.mul_add] at key2 hs ⊢
    omega
  · rw [hg, if_neg (by omega)]; exact h.same c (by omega)
  · exact Nat.div_lt_of_lt_mul (by omega)

/-- The whole part: q times vs has been taken off. -/
structure Took (vs xs0 xs : List Nat) (q o n : Nat) (b : Bool) : Prop where
  sum : vsum 4294967296 (fr xs o) (n + 1) + q * val 4294967296 vs = vsum 4294967296 (fr xs0 o) (n + 1) + 4294967296 ^ (n + 1) * (if b then 1 else 0)
  same : ∀ c, c < o ∨ o + n < c → dg xs c = dg xs0 c
  low : Low 4294967296 xs

theorem Tk.done {vs xs0 xs : List Nat} {q o n b m e b' : Nat} (h : Tk vs xs0 xs q o n b m) (hlen : vs.length = n) (hk : o + n < xs.length)
    (he : dg xs (o + n) + 4294967296 * b' = e + m + b) (hel : e < 4294967296) (hb : b' ≤ 1) : Took vs xs0 (xs.set (o + n) e) q o n (b' == 1) := by
  have hg : ∀ c, dg (xs.set (o + n) e) c = if c = o + n then e else dg xs c := fun c => dg_set _ _ _ _ hk
  refine ⟨?_, fun c hc => ?_, low_set h.low _ _ hel⟩
  · have e1 : vsum 4294967296 (fr (xs.set (o + n) e) o) n = vsum 4294967296 (fr xs o) n := vsum_congr _ _ _ _ (fun j hj => by
      show dg _ (o + j) = dg xs (o + j); rw [hg, if_neg (by omega)])
    have e2 : fr (xs.set (o + n) e) o n = e := by show dg _ (o + n) = e; rw [hg, if_pos rfl]
    have e3 : fr xs0 o n = dg xs (o + n) := by show dg xs0 (o + n) = _; rw [h.same _ (by omega)]
    have e4 : (if (b' == 1) = true then 1 else 0) = b' := by
      have : b' = 0 ∨ b' = 1 := by omega
      rcases this with rfl | rfl <;> rfl
    have hs := h.sum
    rw [← val_vsum _ vs n (by omega)] at hs
    simp only [vsum]
    rw [e1, e2, e3, e4, Nat.pow_succ, Nat.mul_assoc (4294967296 ^ n)]
    have key2 := congrArg (4294967296 ^ n * ·) he
    simp only [Nat.mul_add] at key2 hs ⊢
    omega
  · rw [hg, if_neg (by omega)]; exact h.same c (by omega)

/-- After k digits vs has been added: c is carried. -/
structure Gv (vs xs0 xs : List Nat) (o k c : Nat) : Prop where
  sum : vsum 4294967296 (fr xs o) k + 4294967296 ^ k * c = vsum 4294967296 (fr xs0 o) k + vsum 4294967296 (dg vs) k
  same : ∀ j, j < o ∨ o + k ≤ j → dg xs j = dg xs0 j
  low : Low 4294967296 xs
  cle : c ≤ 1

theorem Gv.start (vs xs0 : List Nat) (o : Nat) (h : Low 4294967296 xs0) : Gv vs xs0 xs0 o 0 0 :=
  ⟨by simp [vsum], fun _ _ => rfl, h, by omega⟩

theorem Gv.step {vs xs0 xs : List Nat} {o k c e c' : Nat} (h : Gv vs xs0 xs o k c) (hk : o + k < xs.length)
    (he : e + 4294967296 * c' = dg xs (o + k) + dg vs k + c) (hel : e < 4294967296) (hc : c' ≤ 1) : Gv vs xs0 (xs.set (o + k) e) o (k + 1) c' := by
  have hg : ∀ c, dg (xs.set (o + k) e) c = if c = o + k then e else dg xs c := fun c => dg_set _ _ _ _ hk
  refine ⟨?_, fun c hc => ?_, low_set h.low _ _ hel, hc⟩
  · have e1 : vsum 4294967296 (fr (xs.set (o + k) e) o) k = vsum 4294967296 (fr xs o) k := vsum_congr _ _ _ _ (fun j hj => by
      show dg _ (o + j) = dg xs (o + j); rw [hg, if_neg (by omega)])
    have e2 : fr (xs.set (o + k) e) o k = e := by show dg _ (o + k) = e; rw [hg, if_pos rfl]
    have e3 : fr xs0 o k = dg xs (o + k) := by show dg xs0 (o + k) = _; rw [h.same _ (by omega)]
    have hs := h.sum
    simp only [vsum]
    rw [e1, e2, e3, Nat.pow_succ, Nat.mul_assoc (4294967296 ^ k)]
    have key2 := congrArg (4294967296 ^ k * ·) he
    simp only [Nat.mul_add] at key2 hs ⊢
    omega
  · rw [hg, if_neg (by omega)]; exact h.same c (by omega)

/-- The whole part: vs has been added, modulo the next power. -/
structure Gave (vs xs0 xs : List Nat) (o n : Nat) : Prop where
  sum : ∃ c, vsum 4294967296 (fr xs o) (n + 1) + 4294967296 ^ (n + 1) * c = vsum 4294967296 (fr xs0 o) (n + 1) + val 4294967296 vs
  same : ∀ j, j < o ∨ o + n < j → dg xs j = dg xs0 j
  low : Low 4294967296 xs

theorem Gv.done {vs xs0 xs : List Nat} {o n c : Nat} (h : Gv vs xs0 xs o n c) (hlen : vs.length = n) (hk : o + n < xs.length) : Gave vs xs0 (xs.set (o + n) ((dg xs (o + n) + c) % 4294967296)) o n := by
  have hg : ∀ j, dg (xs.set (o + n) ((dg xs (o + n) + c) % 4294967296)) j = if j = o + n then ((dg xs (o + n) + c) % 4294967296) else dg xs j := fun c => dg_set _ _ _ _ hk
  refine ⟨⟨(dg xs (o + n) + c) / 4294967296, ?_⟩, fun j hj => ?_, low_set h.low _ _ (Nat.mod_lt _ (by omega))⟩
  · have e1 : vsum 4294967296 (fr (xs.set (o + n) ((dg xs (o + n) + c) % 4294967296)) o) n = vsum 4294967296 (fr xs o) n := vsum_congr _ _ _ _ (fun j hj => by
      show dg _ (o + j) = dg xs (o + j); rw [hg, if_neg (by omega)])
    have e2 : fr (xs.set (o + n) ((dg xs (o + n) + c) % 4294967296)) o n = (dg xs (o + n) + c) % 4294967296 := by show dg _ (o + n) = _; rw [hg, if_pos rfl]
    have e3 : fr xs0 o n = dg xs (o + n) := by show dg xs0 (o + n) = _; rw [h.same _ (by omega)]
    have hs := h.sum
    rw [← val_vsum _ vs n (by omega)] at hs
    simp only [vsum]
    rw [e1, e2, e3, Nat.pow_succ, Nat.mul_assoc (4294967296 ^ n)]
    have key : (dg xs (o + n) + c) % 4294967296 + 4294967296 * ((dg xs (o + n) + c) / 4294967296) = dg xs (o + n) + c := Nat.mod_add_div _ _
    have key2 := congrArg (4294967296 ^ n * ·) key
    simp only [Nat.mul_add] at key2 hs ⊢
    omega
  · rw [hg, if_neg (by omega)]; exact h.same j (by omega)

end Go.Proofs.Ythplhlcdlnedfaa.MN
