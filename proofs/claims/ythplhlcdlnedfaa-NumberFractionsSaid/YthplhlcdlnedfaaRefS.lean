/-
  Texts joined into one: MathR, RefD, RefE, RefF, RefG, RefH, RefI, RefJ, Opn.
-/
import Derived.Test.YthplhlcdlnedfaaMathE
import Derived.Test.YthplhlcdlnedfaaAlvR
import Derived.Lib.AppendZeros
import Derived.Deep.AppendSrc
import Derived.Deep.CutRange
import Derived.BigRegion
import Derived.SizedLaws

/-
  Plain arithmetic of layer 1, part R: what the specification's functions reckon, digit by digit and bit by bit.
-/
namespace Go.Proofs.Ythplhlcdlnedfaa.MN

theorem val_same' {B : Nat} (xs ys : List Nat) (he : ∀ j, dg xs j = dg ys j) : val B xs = val B ys := by
  rw [val_vsum B xs (xs.length + ys.length) (by omega), val_vsum B ys (xs.length + ys.length) (by omega)]
  exact vsum_congr B _ _ _ (fun j _ => he j)

theorem val_cmp' {B : Nat} (xs ys : List Nat) (i : Nat) (hx : Low B xs) (hB : 0 < B) (h : dg xs i < dg ys i) (he : ∀ j, i < j → dg xs j = dg ys j) : val B xs < val B ys := by
  have hi : i < ys.length := by
    rcases Nat.lt_or_ge i ys.length with k | k
    · exact k
    · rw [dg_past ys i k] at h; omega
  rw [val_vsum B xs (xs.length + ys.length) (by omega), val_vsum B ys (xs.length + ys.length) (by omega)]
  exact vsum_cmp B _ _ i _ (by omega) (fun j => low_dg hx hB j) h (fun j a _ => he j a)

/-- One column of a sum. -/
theorem plus_step (B : Nat) (ds ys zs : List Nat) (M k : Nat) (hk : ds.length = k) (h : val B ds + B ^ k * M = vsum B (dg ys) k + vsum B (dg zs) k) :
    val B (ds ++ [(dg ys k + dg zs k + M) % B]) + B ^ (k + 1) * ((dg ys k + dg zs k + M) / B) = vsum B (dg ys) (k + 1) + vsum B (dg zs) (k + 1) := by
  have e := carry_step B ds M (dg ys k + dg zs k) k _ hk h
  rw [Nat.add_comm (dg ys k + dg zs k) M, e, Nat.mul_add]
  simp only [vsum]; omega

theorem plus_end {B : Nat} (hB : 2 ≤ B) (ds ys zs : List Nat) (M N : Nat) (hy : Low B ys) (hz : Low B zs) (h1 : ys.length ≤ N) (h2 : zs.length ≤ N) (h : val B ds + B ^ (N + 1) * M = vsum B (dg ys) (N + 1) + vsum B (dg zs) (N + 1)) : val B ds = val B ys + val B zs := by
  rw [← val_vsum B ys (N + 1) (by omega), ← val_vsum B zs (N + 1) (by omega)] at h
  have a := Nat.lt_of_lt_of_le (val_lt ys hy) (Nat.pow_le_pow_right (show 0 < B by omega) h1)
  have b := Nat.lt_of_lt_of_le (val_lt zs hz) (Nat.pow_le_pow_right (show 0 < B by omega) h2)
  have c : B ^ N * 2 ≤ B ^ (N + 1) := by rw [Nat.pow_succ]; exact Nat.mul_le_mul_left _ hB
  rcases Nat.eq_zero_or_pos M with rfl | hM
  · omega
  · have := Nat.mul_le_mul_left (B ^ (N + 1)) (show 1 ≤ M from hM)
    omega

theorem dg_snoc_lt (xs : List Nat) (d j : Nat) (h : j < xs.length) : dg (xs ++ [d]) j = dg xs j := by
  simp [dg, List.getD_eq_getElem?_getD, List.getElem?_append_left h]
theorem dg_snoc_eq (xs : List Nat) (d k : Nat) (h : xs.length = k) : dg (xs ++ [d]) k = d := by
  subst h; simp [dg, List.getD_eq_getElem?_getD]

/-- One column of a difference: what is kept, and what is borrowed. -/
theorem minus_step (B : Nat) (ds ys zs : List Nat) (bo k : Nat) (hk : ds.length = k) (hy : dg ys k < B) (hz : dg zs k < B) (hb : bo ≤ 1)
    (h : vsum B (dg ds) k + vsum B (dg zs) k = vsum B (dg ys) k + B ^ k * bo) :
    vsum B (dg (ds ++ [(B + dg ys k - dg zs k - bo) % B])) (k + 1) + vsum B (dg zs) (k + 1) = vsum B (dg ys) (k + 1) + B ^ (k + 1) * (1 - (B + dg ys k - dg zs k - bo) / B) := by
  refine sub_step B (dg ds) _ _ _ k bo _ _ h ?_ (fun j hj => dg_snoc_lt _ _ _ (by omega)) (dg_snoc_eq _ _ _ hk)
  generalize hx : B + dg ys k - dg zs k - bo = x
  have h1 : x < 2 * B := by omega
  rcases Nat.lt_or_ge x B with h2 | h2
  · rw [Nat.mod_eq_of_lt h2, Nat.div_eq_of_lt h2]; omega
  · have e1 : x / B = 1 := Nat.div_eq_of_lt_le (by omega) (by omega)
    have e2 := Nat.mod_add_div x B
    rw [e1] at e2 ⊢
    omega

theorem val_set {B : Nat} (xs : List Nat) (c v : Nat) (hc : c < xs.length) : val B (xs.set c v) + B ^ c * dg xs c = val B xs + B ^ c * v := by
  induction xs generalizing c with
  | nil => simp at hc
  | cons x xs ih =>
    rcases c with _ | c
    · simp only [List.set_cons_zero, val, dg_zero, Nat.pow_zero, Nat.one_mul]; omega
    · have := ih c (by simpa using hc)
      simp only [List.set_cons_succ, val, dg_succ, Nat.pow_succ]
      have e1 : B ^ c * B * dg xs c = B * (B ^ c * dg xs c) := by rw [Nat.mul_comm (B ^ c) B, Nat.mul_assoc]
      have e2 : B ^ c * B * v = B * (B ^ c * v) := by rw [Nat.mul_comm (B ^ c) B, Nat.mul_assoc]
      rw [e1, e2]
      have e3 := congrArg (B * ·) this
      simp only [Nat.mul_add] at e3
      omega

/-- A product that is under way: i digits of the one are through, and j digits of the other for the digit i. -/
structure Tm (ys zs xs : List Nat) (i j M : Nat) : Prop where
  sum : val 4294967296 xs + 4294967296 ^ (i + j) * M = val 4294967296 (ys.take i) * val 4294967296 zs + 4294967296 ^ i * dg ys i * val 4294967296 (zs.take j)
  zero : ∀ c, i + zs.length ≤ c → dg xs c = 0
  low : Low 4294967296 xs
  more : M < 4294967296

theorem Tm.start (ys zs : List Nat) (N : Nat) : Tm ys zs (List.replicate N 0) 0 0 0 :=
  ⟨by rw [val_zeros _ (fun j => dg_replicate N j), List.take_zero, List.take_zero]; simp [val], fun c _ => dg_replicate N c, fun d hd => by rw [List.eq_of_mem_replicate hd]; omega, by omega⟩

theorem tm_le {a b c m : Nat} (ha : a < 4294967296) (hb : b < 4294967296) (hc : c < 4294967296) (hm : m < 4294967296) : c + a * b + m ≤ 18446744073709551615 := by
  have := Nat.mul_le_mul (show a ≤ 4294967295 by omega) (show b ≤ 4294967295 by omega)
  omega

theorem Tm.step {ys zs xs : List Nat} {i j M X : Nat} (h : Tm ys zs xs i j M) (hj : j < zs.length) (hlen : i + j < xs.length) (hX : X = dg xs (i + j) + dg ys i * dg zs j + M) (hle : X ≤ 18446744073709551615) :
    Tm ys zs (xs.set (i + j) (X % 4294967296)) i (j + 1) (X / 4294967296) := by
  refine ⟨?_, fun c hc => ?_, low_set h.low _ _ (Nat.mod_lt _ (by omega)), by omega⟩
  · have hs := h.sum
    have hv := val_set (B := 4294967296) xs (i + j) (X % 4294967296) hlen
    rw [val_take_succ _ zs j hj, Nat.mul_add]
    have e1 : 4294967296 ^ (i + (j + 1)) * (X / 4294967296) = 4294967296 ^ (i + j) * (4294967296 * (X / 4294967296)) := by
      rw [← Nat.add_assoc, Nat.pow_succ, Nat.mul_assoc]
    have e2 : 4294967296 ^ i * dg ys i * (4294967296 ^ j * dg zs j) = 4294967296 ^ (i + j) * (dg ys i * dg zs j) := by
      rw [Nat.pow_add, Nat.mul_assoc, Nat.mul_assoc, Nat.mul_left_comm (dg ys i)]
    have e3 : 4294967296 ^ (i + j) * X = 4294967296 ^ (i + j) * (X % 4294967296) + 4294967296 ^ (i + j) * (4294967296 * (X / 4294967296)) := by
      rw [← Nat.mul_add, Nat.mod_add_div]
    have e4 : 4294967296 ^ (i + j) * X = 4294967296 ^ (i + j) * dg xs (i + j) + 4294967296 ^ (i + j) * (dg ys i * dg zs j) + 4294967296 ^ (i + j) * M := by
      rw [hX, Nat.mul_add, Nat.mul_add]
    rw [e1, e2]; omega
  · rw [dg_set _ _ _ _ hlen, if_neg (by omega)]; exact h.zero c hc

theorem tm_next (V W P M a b c : Nat) (hv : V + P * 0 = W + P * M) (hs : W + P * M = a * c + b * c) : V = (a + b) * c := by
  rw [Nat.mul_zero, Nat.add_zero] at hv
  rw [hv, hs, Nat.add_mul]
theorem Tm.next {ys zs xs : List Nat} {i M : Nat} (h : Tm ys zs xs i zs.length M) (hi : i < ys.length) (hlen : i + zs.length < xs.length) : Tm ys zs (xs.set (i + zs.length) M) (i + 1) 0 0 := by
  have hs := h.sum
  have hv := val_set (B := 4294967296) xs (i + zs.length) M hlen
  have h0 : dg xs (i + zs.length) = 0 := h.zero _ (Nat.le_refl _)
  rw [h0] at hv
  rw [List.take_of_length_le (Nat.le_refl _)] at hs
  have h1 := tm_next _ _ _ _ _ _ _ hv hs
  rw [← val_take_succ _ ys i hi] at h1
  have h2 := h.low
  have h3 := h.more
  have h4 := h.zero
  clear h hs hv
  refine ⟨?_, fun c hc => ?_, low_set h2 _ _ h3, Nat.zero_lt_of_lt h3⟩
  · rw [h1, List.take_zero, val_nil]
    simp only [Nat.mul_zero]
  · rw [dg_set _ _ _ _ hlen, if_neg (by omega)]; exact h4 c (by omega)

theorem Tm.done {ys zs xs : List Nat} (h : Tm ys zs xs ys.length 0 0) : val 4294967296 xs = val 4294967296 ys * val 4294967296 zs := by
  have := h.sum
  rw [List.take_of_length_le (Nat.le_refl _), List.take_zero] at this
  simpa [val] using this

theorem pow_32 : (2 : Nat) ^ 32 = 4294967296 := rfl
theorem pow_split (j s : Nat) : 2 ^ (32 * (j + 1) + s) = 4294967296 * 2 ^ (32 * j + s) := by
  rw [show 32 * (j + 1) + s = 32 + (32 * j + s) by omega, Nat.pow_add, pow_32]
theorem bit_low (x V s : Nat) (hs : s < 32) : (x + 4294967296 * V) / 2 ^ s % 2 = x / 2 ^ s % 2 := by
  have e : (4294967296 : Nat) = 2 ^ s * (2 * 2 ^ (31 - s)) := by
    rw [Nat.mul_comm 2, ← Nat.pow_succ, ← Nat.pow_add, show s + (31 - s).succ = 32 by omega]
  have e2 : 4294967296 * V = 2 ^ s * (2 * (2 ^ (31 - s) * V)) := by rw [e, Nat.mul_assoc, Nat.mul_assoc]
  rw [e2, Nat.add_mul_div_left _ _ (Nat.two_pow_pos s), Nat.add_mul_mod_self_left]

/-- The bit with an index. -/
theorem bit_val (xs : List Nat) (hl : Low 4294967296 xs) (i : Nat) : val 4294967296 xs / 2 ^ i % 2 = dg xs (i / 32) / 2 ^ (i % 32) % 2 := by
  have key : ∀ (xs : List Nat), Low 4294967296 xs → ∀ j s, s < 32 → val 4294967296 xs / 2 ^ (32 * j + s) % 2 = dg xs j / 2 ^ s % 2 := by
    intro xs
    induction xs with
    | nil => intro _ j s _; simp [val, dg]
    | cons x xs ih =>
      intro hl j s hs
      have hx : x < 4294967296 := hl x (by simp)
      rcases j with _ | j
      · rw [Nat.mul_zero, Nat.zero_add, dg_zero]
        simp only [val]
        exact bit_low x _ s hs
      · rw [dg_succ, ← ih (fun d hd => hl d (by simp [hd])) j s hs]
        simp only [val]
        generalize val 4294967296 xs = V
        have h1 : (x + 4294967296 * V) / 4294967296 = V := by omega
        rw [pow_split j s, ← Nat.div_div_eq_div_mul, h1]
  have := key xs hl (i / 32) (i % 32) (Nat.mod_lt _ (by omega))
  rwa [Nat.div_add_mod] at this

/-- Long division, bit by bit: Q is the quotient so far, with i + 1 bits to come. -/
structure Pd (A b : Nat) (i1 Q r : Nat) : Prop where
  sum : A / 2 ^ i1 = Q * b + r
  lt : r < b

theorem pd_half (A i : Nat) : A / 2 ^ i = 2 * (A / 2 ^ (i + 1)) + A / 2 ^ i % 2 := by
  rw [Nat.pow_succ, ← Nat.div_div_eq_div_mul]
  have := Nat.div_add_mod (A / 2 ^ i) 2
  omega

theorem Pd.less {A b i Q r t : Nat} (h : Pd A b (i + 1) Q r) (ht : t = A / 2 ^ i % 2) (hlt : r + r + t < b) : Pd A b i (2 * Q) (r + r + t) := by
  refine ⟨?_, hlt⟩
  have h1 := h.sum
  have h2 := pd_half A i
  rw [← ht] at h2
  rw [h2, h1, Nat.mul_assoc]; omega
theorem Pd.more {A b i Q r t : Nat} (h : Pd A b (i + 1) Q r) (ht : t = A / 2 ^ i % 2) (hge : b ≤ r + r + t) : Pd A b i (2 * Q + 1) (r + r + t - b) := by
  have h1 := h.sum
  have h2 := pd_half A i
  have h3 := h.lt
  have h4 : t < 2 := by rw [ht]; exact Nat.mod_lt _ (by omega)
  rw [← ht] at h2
  refine ⟨?_, by omega⟩
  rw [h2, h1, Nat.add_mul, Nat.mul_assoc]; omega
theorem Pd.done {A b Q r : Nat} (h : Pd A b 0 Q r) : Q = A / b ∧ r = A % b := by
  have h1 := h.sum
  have h3 := h.lt
  rw [Nat.pow_zero, Nat.div_one] at h1
  constructor
  · rw [h1, Nat.mul_comm, Nat.mul_add_div (by omega), Nat.div_eq_of_lt h3]; rfl
  · rw [h1, Nat.mul_comm, Nat.mul_add_mod, Nat.mod_eq_of_lt h3]

/-- A digit in which the bit i is not set yet, because only higher bits are. -/
theorem hi_digit (xs : List Nat) (hl : Low 4294967296 xs) (i Q : Nat) (h : val 4294967296 xs = 2 ^ (i + 1) * Q) : dg xs (i / 32) + 2 ^ (i % 32) < 4294967296 := by
  have key : ∀ (xs : List Nat), Low 4294967296 xs → ∀ j s Q, s < 32 → val 4294967296 xs = 2 ^ (32 * j + s + 1) * Q → dg xs j + 2 ^ s < 4294967296 := by
    intro xs
    induction xs with
    | nil =>
      intro _ j s _ hs _
      rw [dg_nil, Nat.zero_add]
      have := Nat.pow_le_pow_right (show 0 < 2 by omega) (show s ≤ 31 by omega)
      omega
    | cons x xs ih =>
      intro hl j s Q hs h
      have hx : x < 4294967296 := hl x (by simp)
      simp only [val] at h
      rcases j with _ | j
      · rw [dg_zero]
        rw [Nat.mul_zero, Nat.zero_add] at h
        have hp : 0 < 2 ^ s := Nat.two_pow_pos s
        have e : (4294967296 : Nat) = 2 ^ (s + 1) * 2 ^ (31 - s) := by rw [← Nat.pow_add, show s + 1 + (31 - s) = 32 by omega]
        have hd : 2 ^ (s + 1) ∣ x := by
          have h1 : 2 ^ (s + 1) ∣ x + 4294967296 * val 4294967296 xs := ⟨Q, h⟩
          have h2 : 2 ^ (s + 1) ∣ 4294967296 * val 4294967296 xs := by rw [e, Nat.mul_assoc]; exact Nat.dvd_mul_right _ _
          exact (Nat.dvd_add_iff_left h2).2 h1
        obtain ⟨y, rfl⟩ := hd
        have hy : y + 1 ≤ 2 ^ (31 - s) := by
          have : 2 ^ (s + 1) * y < 2 ^ (s + 1) * 2 ^ (31 - s) := by rw [← e]; exact hx
          exact Nat.lt_of_mul_lt_mul_left this
        have := Nat.mul_le_mul_left (2 ^ (s + 1)) hy
        rw [← e, Nat.mul_add, Nat.mul_one] at this
        have e2 : 2 ^ (s + 1) = 2 ^ s * 2 := Nat.pow_succ ..
        omega
      · rw [dg_succ]
        refine ih (fun d hd => hl d (by simp [hd])) j s Q hs ?_
        have e : 2 ^ (32 * (j + 1) + s + 1) * Q = 4294967296 * (2 ^ (32 * j + s + 1) * Q) := by
          rw [show 32 * (j + 1) + s + 1 = 32 + (32 * j + s + 1) by omega, Nat.pow_add, Nat.mul_assoc]
        rw [e] at h
        have hx0 : x = 0 := by omega
        omega
  have := key xs hl (i / 32) (i % 32) Q (Nat.mod_lt _ (by omega)) (by rw [Nat.div_add_mod]; exact h)
  exact this

theorem set_bit (xs : List Nat) (i Q D : Nat) (h : val 4294967296 xs = 2 ^ (i + 1) * Q) (hlen : i / 32 < xs.length) (hD : D = dg xs (i / 32)) : val 4294967296 (xs.set (i / 32) (D + 2 ^ (i % 32))) = 2 ^ i * (2 * Q + 1) := by
  have hv := val_set (B := 4294967296) xs (i / 32) (D + 2 ^ (i % 32)) hlen
  rw [← hD, Nat.mul_add] at hv
  have e : 4294967296 ^ (i / 32) * 2 ^ (i % 32) = 2 ^ i := by
    rw [show (4294967296 : Nat) = 2 ^ 32 from rfl, ← Nat.pow_mul, ← Nat.pow_add, Nat.div_add_mod]
  rw [e] at hv
  have e2 : 2 ^ i * (2 * Q + 1) = 2 ^ (i + 1) * Q + 2 ^ i := by rw [Nat.pow_succ, Nat.mul_add, Nat.mul_one, Nat.mul_assoc]
  omega
theorem no_bit (i Q : Nat) : 2 ^ (i + 1) * Q = 2 ^ i * (2 * Q) := by rw [Nat.pow_succ, Nat.mul_assoc]

/-- Where the division begins. -/
theorem pd_start (xs ys : List Nat) (k : Nat) (hx : Low 4294967296 xs) (hy : Top ys) (hne : ys ≠ []) (hk : k + ys.length = xs.length + 1) : Pd (val 4294967296 xs) (val 4294967296 ys) (32 * k) 0 (val 4294967296 (xs.drop k)) := by
  constructor
  · rw [Nat.zero_mul, Nat.zero_add, Nat.pow_mul, show (2 : Nat) ^ 32 = 4294967296 from rfl]
    have h1 := val_append 4294967296 (xs.take k) (xs.drop k)
    have hl : (xs.take k).length = k := by rw [List.length_take]; have := List.length_pos_iff.2 hne; omega
    rw [List.take_append_drop, hl] at h1
    have h2 := val_lt (xs.take k) (low_take hx k)
    rw [hl] at h2
    rw [h1, Nat.add_comm, Nat.mul_add_div (Nat.pow_pos (by omega)), Nat.div_eq_of_lt h2, Nat.add_zero]
  · have h1 := val_lt (xs.drop k) (low_drop hx k)
    have h2 := val_ge (B := 4294967296) ys hy hne
    rw [List.length_drop, show xs.length - k = ys.length - 1 by omega] at h1
    omega
end Go.Proofs.Ythplhlcdlnedfaa.MN

/-
  The specification's functions, part A: the digit with an index, the order.
-/
namespace Go.Proofs.Ythplhlcdlnedfaa
open Go.RowKit MN

theorem run_append_nil2 (w : World) (A : Option Addr) (c : Nat) (ty : TypeId) : (Builtin.append_ #[23, 23] ty #[.slice none 0 0, .slice A 0 c]).run Try.prog w = .ok (.slice none 0 0) w := by
  obtain ⟨i0, hi, hz0, hz1, hz2⟩ := info_parts info24
  cases A <;> simp [Builtin.append_, run_underlying Try.underlying23, sizeOf, typeInfo, hi, Builtin.lenOf, Builtin.firstCells, loadCells, loadCellsFrom]

theorem trimRef_zero (A : Option Addr) (c : Nat) (w : World) : Calls Try.prog 96 #[.slice A 0 c] w (New w 0) := by
  have hap := fun ty => run_append_nil2 w A c ty
  go_enter Try.func96, Try.ntmps96
  go_wp2
  refine wp_loop_rounds 1 ?_
  rw [rounds_succ]
  go_wp2_with (at_builtin; refine Lib.wpList_append_run _ rfl _ _ _ _ rfl _ _ rfl rfl _ _ (hap _) ?_)
  go_ret
  exact ⟨none, 0, 0, rfl, World.ownsRow_nil _ _ _ _, Below.refl _ _⟩

/-- trim of whatever came in. -/
theorem trimRef_arg (A : Option Addr) (n c : Nat) (xs : List Nat) (w : World) (h : Arg w A n c xs) (hn : n ≤ 65536) : Calls Try.prog 96 #[.slice A n c] w (New w (val 4294967296 xs)) := by
  rcases Nat.eq_zero_or_pos n with rfl | hp
  · rw [List.eq_nil_of_length_eq_zero h.rd.len]
    exact trimRef_zero A c w
  · obtain ⟨b, off, rfl, _⟩ := h.rd.at_ hp
    exact trimRef_any b off n c xs w h.rd h.low hn

/-- trim of an end of what came in. -/
theorem trimRef_cut (A A' : Option Addr) (n c k m c' : Nat) (xs : List Nat) (w : World) (h : Arg w A n c xs) (hn : n ≤ 65536) (hk : k ≤ n) (hm : m = n - k) (hc : c' = c - k) (hA : A' = if c = k then A else A.map (·.add k)) :
    Calls Try.prog 96 #[.slice A' m c'] w (New w (val 4294967296 (xs.drop k))) := by
  subst hm hc hA
  rcases Nat.lt_or_ge k n with hlt | hge
  · obtain ⟨b, off, rfl, hcell⟩ := h.rd.at_ (by omega)
    have hle := h.rd.le
    rw [if_neg (by omega)]
    have e1 : (Option.map (fun x => x.add k) (some (⟨b, off, none⟩ : Addr))) = some ⟨b, off + k, none⟩ := by cases k <;> simp [Addr.add]
    rw [e1]
    refine trimRef_any b (off + k) _ _ _ w ⟨by rw [List.length_drop, h.rd.len], by omega, Nat.le_trans (Nat.sub_le _ _) h.rd.cap, fun _ => ⟨b, off + k, rfl, fun i hi => ?_⟩⟩ (low_drop h.low k) (by omega)
    rw [Nat.add_assoc, hcell (k + i) (by omega), dg_drop]
  · obtain rfl : k = n := by omega
    rw [Nat.sub_self, List.drop_of_length_le (by rw [h.rd.len]; exact Nat.le_refl _)]
    exact trimRef_zero _ _ w

theorem atRef_any (A : Option Addr) (n c : Nat) (xs : List Nat) (i : Nat) (w : World) (h : Arg w A n c xs) :
    Calls Try.prog 113 #[.slice A n c, .int .i64 (i : Int)] w fun e w' => e = .returned (.int .u64 (dg xs i : Int)) ∧ w = w' := by
  have hle := h.rd.le
  have hcap := h.rd.cap
  unfold maxLen at hcap
  by_cases hlt : i < n
  · obtain ⟨b, off, rfl, hc⟩ := h.rd.at_ (by omega)
    have hcell := hc i hlt
    have hD := low_dg h.low (by omega) i
    clear hc h
    obtain ⟨D, hE⟩ : ∃ D, D = dg xs i := ⟨_, rfl⟩
    rw [← hE] at hcell hD ⊢
    clear hE
    go_enter Try.func113, Try.ntmps113
    go_wp2
    go_ret
    exact ⟨rfl, rfl⟩
  · have hz : Hid (dg xs i = 0) := Lib.hid (dg_past xs i (by rw [h.rd.len]; omega))
    clear h
    go_enter Try.func113, Try.ntmps113
    go_wp2
    go_ret
    exact ⟨by rw [hz.out]; rfl, rfl⟩

set_option maxRecDepth 100000 in
set_option maxHeartbeats 1000000 in
theorem orderRef_any (A1 A2 : Option Addr) (n1 c1 n2 c2 : Nat) (ys zs : List Nat) (w : World) (ha : Arg w A1 n1 c1 ys) (hb : Arg w A2 n2 c2 zs) :
    Calls Try.prog 87 #[.slice A1 n1 c1, .slice A2 n2 c2] w fun e w' => e = .returned (.int .i64 (ordv (val 4294967296 ys) (val 4294967296 zs))) ∧ w = w' := by
  have hlena := Lib.hid ha.rd.len
  have hlenb := Lib.hid hb.rd.len
  have q1 := ha.rd.le
  have q2 := hb.rd.le
  have q3 := ha.rd.cap
  have q4 := hb.rd.cap
  unfold maxLen at q3 q4
  have hla := Lib.hid ha.low
  have hlb := Lib.hid hb.low
  have HA := Lib.hid (fun i => atRef_any A1 n1 c1 ys i w ha)
  have HB := Lib.hid (fun i => atRef_any A2 n2 c2 zs i w hb)
  clear ha hb
  obtain ⟨N, hN1, hN2, hN3, HN⟩ : ∃ N, n1 ≤ N ∧ n2 ≤ N ∧ N ≤ 9223372036854775807 ∧ Hid ((n1 < n2 ∧ N = n2) ∨ (n2 ≤ n1 ∧ N = n1)) := by
    rcases Nat.lt_or_ge n1 n2 with h | h
    · exact ⟨n2, by omega, by omega, by omega, Lib.hid (.inl ⟨h, rfl⟩)⟩
    · exact ⟨n1, by omega, by omega, by omega, Lib.hid (.inr ⟨h, rfl⟩)⟩
  have hmax : (Builtin.max_ #[3, 3] 3 #[.int .i64 (n1 : Int), .int .i64 (n2 : Int)]).run Try.prog w = .ok (.int .i64 (N : Int)) w := by
    rw [run_max_int2]
    rcases HN.out with ⟨hlt, h⟩ | ⟨hlt, h⟩
    · rw [if_pos (by omega), h]
    · rw [if_neg (by omega), h]
  go_enter Try.func87, Try.ntmps87
  go_wp2
  go_loop [5] (fun i => (∃ q : Nat, i = .int .i64 q ∧ q < N ∧ Hid (∀ j, q < j → dg ys j = dg zs j)) ∨ (i = .int .i64 (-1) ∧ Hid (∀ j, dg ys j = dg zs j))) (fun i => (intOf i + 1).toNat)
  case atStart =>
    have hp : ∀ j, N ≤ j → dg ys j = dg zs j := fun j hj => by rw [dg_past ys j (by rw [hlena.out]; omega), dg_past zs j (by rw [hlenb.out]; omega)]
    rcases Nat.eq_zero_or_pos N with h0 | h0
    · exact .inr ⟨by rw [h0]; rfl, Lib.hid (fun j => hp j (by omega))⟩
    · exact .inl ⟨N - 1, by go_num, by omega, Lib.hid (fun j hj => hp j (by omega))⟩
  case round =>
    clear hmax
    rcases hrel with ⟨q, rfl, hq, HE⟩ | ⟨rfl, HE⟩
    · have HA2 := Lib.hid (HA.out q)
      have HB2 := Lib.hid (HB.out q)
      have b1 := low_dg hla.out (by omega) q
      have b2 := low_dg hlb.out (by omega) q
      obtain ⟨D1, hD1⟩ : ∃ D, D = dg ys q := ⟨_, rfl⟩
      obtain ⟨D2, hD2⟩ : ∃ D, D = dg zs q := ⟨_, rfl⟩
      rw [← hD1] at HA2 b1
      rw [← hD2] at HB2 b2
      have g1 := Lib.hid hD1
      have g2 := Lib.hid hD2
      clear hD1 hD2
      rcases Nat.lt_trichotomy D1 D2 with hlt | heq | hgt
      · have H2 := Lib.hid (ordv_lt (val_cmp' ys zs q hla.out (by omega) (by rw [← g1.out, ← g2.out]; exact hlt) HE.out))
        have ht : decide ((D1 : Int) < (D2 : Int)) = true := decide_eq_true (by omega)
        go_wp2_with (first | (go_at_call 113; (with_reducible refine HA2.out.mono ?_); rintro e w' ⟨rfl, rfl⟩) | (go_at_call 113; (with_reducible refine HB2.out.mono ?_); rintro e w' ⟨rfl, rfl⟩))
        go_ret
        exact ⟨by rw [H2.out]; rfl, rfl⟩
      · subst heq
        have HE' : Hid (∀ j, q ≤ j → dg ys j = dg zs j) := Lib.hid (fun j hj => by
          rcases Nat.lt_or_ge q j with h | h
          · exact HE.out j h
          · obtain rfl : j = q := by omega
            rw [← g1.out, ← g2.out])
        clear HE
        go_wp2_with (first | (go_at_call 113; (with_reducible refine HA2.out.mono ?_); rintro e w' ⟨rfl, rfl⟩) | (go_at_call 113; (with_reducible refine HB2.out.mono ?_); rintro e w' ⟨rfl, rfl⟩))
        go_round
        case rel =>
          rcases Nat.eq_zero_or_pos q with h0 | h0
          · exact .inr ⟨by rw [h0]; rfl, Lib.hid (fun j => HE'.out j (by omega))⟩
          · exact .inl ⟨q - 1, by go_num, by omega, Lib.hid (fun j hj => HE'.out j (by omega))⟩
        case measure => simp [intOf]
      · have H2 := Lib.hid (ordv_gt (val_cmp' zs ys q hlb.out (by omega) (by rw [← g1.out, ← g2.out]; exact hgt) (fun j hj => (HE.out j hj).symm)))
        have hf : decide ((D1 : Int) < (D2 : Int)) = false := decide_eq_false (by omega)
        have ht : decide ((D2 : Int) < (D1 : Int)) = true := decide_eq_true (by omega)
        go_wp2_with (first | (go_at_call 113; (with_reducible refine HA2.out.mono ?_); rintro e w' ⟨rfl, rfl⟩) | (go_at_call 113; (with_reducible refine HB2.out.mono ?_); rintro e w' ⟨rfl, rfl⟩))
        go_ret
        exact ⟨by rw [H2.out]; rfl, rfl⟩
    · have H := Lib.hid (ordv_eq (val_same' (B := 4294967296) ys zs HE.out))
      clear HE
      go_wp2
      go_ret
      exact ⟨by rw [H.out]; try rfl, rfl⟩
end Go.Proofs.Ythplhlcdlnedfaa

/-
  The specification's functions, part B: sums and differences.
-/
namespace Go.Proofs.Ythplhlcdlnedfaa
open Go.RowKit MN

set_option maxRecDepth 100000 in
set_option maxHeartbeats 1000000 in
theorem plusRef_any (A1 A2 : Option Addr) (n1 c1 n2 c2 : Nat) (ys zs : List Nat) (w : World) (ha : Arg w A1 n1 c1 ys) (hb : Arg w A2 n2 c2 zs) (hn1 : n1 ≤ 60000) (hn2 : n2 ≤ 60000) :
    Calls Try.prog 89 #[.slice A1 n1 c1, .slice A2 n2 c2] w (New w (val 4294967296 ys + val 4294967296 zs)) := by
  obtain ⟨i0, hi, hz0, hz1, hz2⟩ := info_parts info24
  have hlena := Lib.hid ha.rd.len
  have hlenb := Lib.hid hb.rd.len
  have HA := Lib.hid ha
  have HB := Lib.hid hb
  clear ha hb
  obtain ⟨N, hN1, hN2, hN3, HN⟩ : ∃ N, n1 ≤ N ∧ n2 ≤ N ∧ N ≤ 60000 ∧ Hid ((n1 < n2 ∧ N = n2) ∨ (n2 ≤ n1 ∧ N = n1)) := by
    rcases Nat.lt_or_ge n1 n2 with h | h
    · exact ⟨n2, by omega, by omega, by omega, Lib.hid (.inl ⟨h, rfl⟩)⟩
    · exact ⟨n1, by omega, by omega, by omega, Lib.hid (.inr ⟨h, rfl⟩)⟩
  have hmax : ∀ w : World, (Builtin.max_ #[3, 3] 3 #[.int .i64 (n1 : Int), .int .i64 (n2 : Int)]).run Try.prog w = .ok (.int .i64 (N : Int)) w := fun w => by
    rw [run_max_int2]
    rcases HN.out with ⟨hlt, h⟩ | ⟨hlt, h⟩
    · rw [if_pos (by omega), h]
    · rw [if_neg (by omega), h]
  go_enter Try.func89, Try.ntmps89
  go_wp2
  go_loopw [5, 6, 7] (fun v m i wr => ∃ (k M : Nat) (ds : List Nat), k ≤ N + 1 ∧ i = .int .i64 k ∧ m = .int .u64 M ∧ M ≤ 1 ∧ Carried w.heap.size w wr v ds k M (vsum 4294967296 (dg ys) k + vsum 4294967296 (dg zs) k)) (fun _ _ i _ => N + 1 - (intOf i).toNat)
  case atStart =>
    exact ⟨0, 0, [], by omega, rfl, rfl, by omega, ⟨rfl, low_nil _, World.ownsRow_nil _ _ _ _, Below.refl _ _, Nat.le_refl _, by simp [val, vsum]⟩⟩
  case round =>
    obtain ⟨k, M, ds, hk, rfl, rfl, hM, HC⟩ := hrel
    by_cases hlt : k ≤ N
    · have HA2 := Lib.hid (atRef_any A1 n1 c1 ys k wr (HA.out.keep HC.below))
      have HB2 := Lib.hid (atRef_any A2 n2 c2 zs k wr (HB.out.keep HC.below))
      have b1 := low_dg HA.out.low (by omega) k
      have b2 := low_dg HB.out.low (by omega) k
      have HP := Lib.hid (plus_step 4294967296 ds ys zs M k HC.len HC.sum)
      obtain ⟨Y, hY⟩ : ∃ D, D = dg ys k := ⟨_, rfl⟩
      obtain ⟨Z, hZ⟩ : ∃ D, D = dg zs k := ⟨_, rfl⟩
      rw [← hY] at HA2 b1 HP
      rw [← hZ] at HB2 b2 HP
      clear hY hZ
      have hle : k ≤ N := hlt
      have hown := HC.own
      have hbig := HC.big
      have h1m := hmax wr
      clear hmax
      go_wp2_with (first
        | (go_at_call 113; (with_reducible refine HA2.out.mono ?_); rintro e w' ⟨rfl, rfl⟩)
        | (go_at_call 113; (with_reducible refine HB2.out.mono ?_); rintro e w' ⟨rfl, rfl⟩)
        | (at_builtin; refine wpList_append_own _ rfl _ _ 23 rfl w.heap.size 24 i0 _ 1 4 Try.underlying23 hi hz0 hz1 hz2 rfl (by omega) _ _ _ rfl (hown.alloc _) ⟨wr.heap.size, 0, none⟩ 1 1 [.int .u32 (((Y : Int) + (Z : Int) + (M : Int)) % 4294967296)] rfl rfl (cell_one_new _ _ _) (by intro u hu; simp at hu; subst hu; rfl) (by unfold maxLen; omega) (by omega) (by simp; omega) ?_; intro v1 w2 hown2 hg2 _))
      have HQ := HC.push (d := (Y + Z + M) % 4294967296) (M' := (Y + Z + M) / 4294967296) (V' := vsum 4294967296 (dg ys) (k + 1) + vsum 4294967296 (dg zs) (k + 1)) (Nat.mod_lt _ (by omega)) (by omega) hown2 hg2 HP.out
      clear hown2 hg2 hown HC HP
      go_wp2
      go_roundw
      case rel => exact ⟨k + 1, (Y + Z + M) / 4294967296, _, by omega, by go_num, by go_num, by omega, HQ⟩
      case measure => simp [intOf]; omega
    · obtain rfl : k = N + 1 := by omega
      have hval := plus_end (B := 4294967296) (by omega) ds ys zs M N HA.out.low HB.out.low (by rw [hlena.out]; omega) (by rw [hlenb.out]; omega) HC.sum
      obtain ⟨Ao, c', rfl, hrd⟩ := own_form HC.own
      have HT := Lib.hid (trimRef_arg Ao (N + 1) c' ds wr ⟨hrd, HC.low⟩ (by omega))
      have HV := Lib.hid hval
      have hbl := HC.below
      have hbig := HC.big
      have h1m := hmax wr
      clear hmax hval HC hrd
      go_wp2_with (go_at_call 96; refine HT.out.mono ?_; rintro e w9 ⟨A', m', c9, rfl, hown9, hb9⟩)
      go_ret
      rw [HV.out] at hown9
      exact ⟨A', m', c9, rfl, own_low hown9 hbig, hbl.trans (hb9.mono hbig)⟩

set_option maxRecDepth 100000 in
set_option maxHeartbeats 1000000 in
theorem minusRef_any (A1 A2 : Option Addr) (n1 c1 n2 c2 : Nat) (ys zs : List Nat) (w : World) (ha : Arg w A1 n1 c1 ys) (hb : Arg w A2 n2 c2 zs) (hn1 : n1 ≤ 60000) (hn2 : n2 ≤ n1)
    (hle : val 4294967296 zs ≤ val 4294967296 ys) :
    Calls Try.prog 90 #[.slice A1 n1 c1, .slice A2 n2 c2] w (New w (val 4294967296 ys - val 4294967296 zs)) := by
  obtain ⟨i0, hi, hz0, hz1, hz2⟩ := info_parts info24
  have hlena := Lib.hid ha.rd.len
  have hlenb := Lib.hid hb.rd.len
  have HA := Lib.hid ha
  have HB := Lib.hid hb
  have HLE := Lib.hid hle
  clear ha hb hle
  go_enter Try.func90, Try.ntmps90
  go_wp2
  go_loopw [5, 6, 7] (fun v m i wr => ∃ (k M : Nat) (ds : List Nat), k ≤ n1 ∧ i = .int .i64 k ∧ m = .int .u64 M ∧ M ≤ 1 ∧ Carried w.heap.size w wr v ds k 0 (val 4294967296 ds) ∧
      Hid (vsum 4294967296 (dg ds) k + vsum 4294967296 (dg zs) k = vsum 4294967296 (dg ys) k + 4294967296 ^ k * M)) (fun _ _ i _ => n1 - (intOf i).toNat)
  case atStart =>
    exact ⟨0, 0, [], by omega, rfl, rfl, by omega, ⟨rfl, low_nil _, World.ownsRow_nil _ _ _ _, Below.refl _ _, Nat.le_refl _, by rw [Nat.mul_zero, Nat.add_zero]⟩, Lib.hid (by rw [Nat.mul_zero]; rfl)⟩
  case round =>
    obtain ⟨k, M, ds, hk, rfl, rfl, hM, HC, HS⟩ := hrel
    by_cases hlt : k < n1
    · have HA2 := Lib.hid (atRef_any A1 n1 c1 ys k wr (HA.out.keep HC.below))
      have HB2 := Lib.hid (atRef_any A2 n2 c2 zs k wr (HB.out.keep HC.below))
      have b1 := low_dg HA.out.low (by omega) k
      have b2 := low_dg HB.out.low (by omega) k
      have HP := Lib.hid (minus_step 4294967296 ds ys zs M k HC.len b1 b2 hM HS.out)
      obtain ⟨Y, hY⟩ : ∃ D, D = dg ys k := ⟨_, rfl⟩
      obtain ⟨Z, hZ⟩ : ∃ D, D = dg zs k := ⟨_, rfl⟩
      rw [← hY] at HA2 b1 HP
      rw [← hZ] at HB2 b2 HP
      clear hY hZ HS
      have hown := HC.own
      have hbig := HC.big
      obtain ⟨X, hX⟩ : ∃ X, X = 4294967296 + Y - Z - M := ⟨_, rfl⟩
      rw [← hX] at HP
      have hXl : X < 8589934592 := by omega
      have hXi : (4294967296 : Int) + (Y : Int) - (Z : Int) - (M : Int) = (X : Int) := by omega
      clear hX
      go_wp2_with (first
        | (go_at_call 113; (with_reducible refine HA2.out.mono ?_); rintro e w' ⟨rfl, rfl⟩)
        | (go_at_call 113; (with_reducible refine HB2.out.mono ?_); rintro e w' ⟨rfl, rfl⟩)
        | (at_builtin; refine wpList_append_own _ rfl _ _ 23 rfl w.heap.size 24 i0 _ 1 4 Try.underlying23 hi hz0 hz1 hz2 rfl (by omega) _ _ _ rfl (hown.alloc _) ⟨wr.heap.size, 0, none⟩ 1 1 [.int .u32 ((X : Int) % 4294967296)] rfl rfl (cell_one_new _ _ _) (by intro u hu; simp at hu; subst hu; rfl) (by unfold maxLen; omega) (by omega) (by simp; omega) ?_; intro v1 w2 hown2 hg2 _))
      have HQ := HC.push (d := X % 4294967296) (M' := 0) (V' := val 4294967296 (ds ++ [X % 4294967296])) (Nat.mod_lt _ (by omega)) (by omega) hown2 hg2 (by rw [Nat.mul_zero, Nat.add_zero])
      clear hown2 hg2 hown HC
      go_wp2
      go_roundw
      case rel => exact ⟨k + 1, 1 - X / 4294967296, _, by omega, by go_num, by go_num, by omega, HQ, HP⟩
      case measure => simp [intOf]; omega
    · obtain rfl : k = n1 := by omega
      have hval := sub_end ds ys zs k M HC.low HC.len hlena.out (by rw [hlenb.out]; exact hn2) HLE.out HS.out
      obtain ⟨Ao, c', rfl, hrd⟩ := own_form HC.own
      have HT := Lib.hid (trimRef_arg Ao k c' ds wr ⟨hrd, HC.low⟩ (by omega))
      have HV := Lib.hid hval
      have hbl := HC.below
      have hbig := HC.big
      clear hval HC hrd HS
      go_wp2_with (go_at_call 96; refine HT.out.mono ?_; rintro e w9 ⟨A', m', c9, rfl, hown9, hb9⟩)
      go_ret
      rw [HV.out] at hown9
      exact ⟨A', m', c9, rfl, own_low hown9 hbig, hbl.trans (hb9.mono hbig)⟩
end Go.Proofs.Ythplhlcdlnedfaa

/-
  The specification's functions, part C: products.
-/
namespace Go.Proofs.Ythplhlcdlnedfaa
open Go.RowKit MN

theorem atRef_q (A : Option Addr) (n c : Nat) (xs : List Nat) (i : Nat) (w : World) (h : Arg w A n c xs) :
    Calls Try.prog 113 #[.slice A n c, .int .i64 (i : Int)] w fun e w' => e = .returned (.int .u64 (dg xs i : Int)) ∧ w' = w :=
  (atRef_any A n c xs i w h).mono fun _ _ h => ⟨h.1, h.2.symm⟩

set_option maxRecDepth 100000 in
set_option maxHeartbeats 1000000 in
theorem timesRef_any (A1 A2 : Option Addr) (n1 c1 n2 c2 : Nat) (ys zs : List Nat) (w : World) (ha : Arg w A1 n1 c1 ys) (hb : Arg w A2 n2 c2 zs) (hn1 : n1 ≤ 1000) (hn2 : n2 ≤ 1000) :
    Calls Try.prog 91 #[.slice A1 n1 c1, .slice A2 n2 c2] w (New w (val 4294967296 ys * val 4294967296 zs)) := by
  obtain ⟨i0, hi, hz0, hz1, hz2⟩ := info_parts info24
  have hlena := Lib.hid ha.rd.len
  have hlenb := Lib.hid hb.rd.len
  have HA := Lib.hid ha
  have HB := Lib.hid hb
  clear ha hb
  go_enter Try.func91, Try.ntmps91
  go_wp2_with (first
      | (at_make; refine wpList_make_full _ rfl _ _ 23 rfl w.heap.size 24 i0 _ 1 Try.underlying23 hi hz0 hz1 .i64 .i64 _ _ (n1 + n2) rfl rfl (by omega) (by omega) (by rw [hz2]; omega) (by unfold maxLen; omega) (Nat.le_refl _) ?_; intro w1 hown1 hg1))
  have HC1 := Cols.made hown1 hg1 (Below.refl _ _) (Nat.le_refl _)
  clear hown1 hg1
  go_loopw [6] (fun i wr => ∃ (k : Nat) (xs : List Nat), k ≤ n1 ∧ i = .int .i64 k ∧ Cols .u32 24 w.heap.size w wr w.heap.size (n1 + n2) xs ∧ Tm ys zs xs k 0 0) (fun i _ => n1 - (intOf i).toNat)
  case atStart => exact ⟨0, _, Nat.zero_le _, rfl, HC1, Tm.start ys zs (n1 + n2)⟩
  case round =>
    obtain ⟨k, xs, hk, rfl, HC, HP⟩ := hrel
    by_cases hlt : k < n1
    · obtain ⟨wo, hwo⟩ : ∃ wo : World, wo = wr := ⟨_, rfl⟩
      clear hwo wo
      obtain ⟨Y, hY⟩ : ∃ D, D = dg ys k := ⟨_, rfl⟩
      have HY := Lib.hid hY
      have hYl : Y < 4294967296 := by rw [hY]; exact low_dg HA.out.low (by omega) k
      clear hY
      obtain ⟨wo, rfl⟩ : ∃ wo : World, wo = wr := ⟨_, rfl⟩
      go_wp2
      go_loopw [7, 8] (fun m j wr => ∃ (q M : Nat) (xs : List Nat), q ≤ n2 ∧ j = .int .i64 q ∧ m = .int .u64 M ∧ M < 4294967296 ∧ Cols .u32 24 w.heap.size w wr w.heap.size (n1 + n2) xs ∧ Tm ys zs xs k q M) (fun _ j _ => n2 - (intOf j).toNat)
      case atStart => exact ⟨0, 0, xs, Nat.zero_le _, rfl, rfl, by omega, HC, HP⟩
      case round =>
        obtain ⟨q, M, xs2, hq, rfl, rfl, hM, HC2, HP2⟩ := hrel
        by_cases hlt2 : q < n2
        · have HA2 := Lib.hid (fun j => atRef_q A1 n1 c1 ys k (wr.drewN j) (HA.out.keep (below_drewN HC2.below j)))
          have HB2 := Lib.hid (fun j => atRef_q A2 n2 c2 zs q (wr.drewN j) (HB.out.keep (below_drewN HC2.below j)))
          obtain ⟨Z, hZ⟩ : ∃ D, D = dg zs q := ⟨_, rfl⟩
          have hZl : Z < 4294967296 := by rw [hZ]; exact low_dg HB.out.low (by omega) q
          have g0 := HC2.cell (k + q) (by omega)
          obtain ⟨E, hE⟩ : ∃ E, E = dg xs2 (k + q) := ⟨_, rfl⟩
          have hEl : E < 4294967296 := by rw [hE]; exact low_dg HP2.low (by omega) _
          obtain ⟨P, hP⟩ : ∃ P, P = Y * Z := ⟨_, rfl⟩
          have hPl : P ≤ 18446744065119617025 := by rw [hP]; exact Nat.mul_le_mul (show Y ≤ 4294967295 by omega) (show Z ≤ 4294967295 by omega)
          have hw1 : IntKind.u64.wrap ((Y : Int) * (Z : Int)) = (P : Int) := by rw [mul_u64 Y Z (by omega) (by omega), hP]; rfl
          have hXl : E + P + M ≤ 18446744073709551615 := by omega
          have HQ := HP2.step (X := E + P + M) (by rw [hlenb.out]; exact hlt2) (by rw [HC2.len]; omega) (by rw [hE, hP, hZ, HY.out]) hXl
          rw [← HY.out] at HA2
          rw [← hZ] at HB2
          rw [← hE] at g0
          clear hP hZ hE
          clear HP2 HP HC
          have l0 : (0 : Int) ≤ (k : Int) + (q : Int) := by omega
          have l1 : (k : Int) + (q : Int) < (n1 : Int) + (n2 : Int) := by omega
          have l2 : IntKind.i64.wrap ((k : Int) + (q : Int)) = (k : Int) + (q : Int) := IntWalk.i64_in _ (by omega)
          have l3 : ((k : Int) + (q : Int)).toNat = k + q := by omega
          have l4 : IntKind.u64.wrap ((E : Int) + (P : Int)) = (E : Int) + (P : Int) := IntWalk.u64_in _ (by omega)
          have l5 : IntKind.u64.wrap ((E : Int) + (P : Int) + (M : Int)) = (E : Int) + (P : Int) + (M : Int) := IntWalk.u64_in _ (by omega)
          go_wp2
          go_quiet (first | (go_at_call 113; with_reducible exact Calls.quiet_of_same (HA2.out _)) | (go_at_call 113; with_reducible exact Calls.quiet_of_same (HB2.out _)))
          have HC3 := HC2.drawn ⟨nq, rfl⟩
          have r0 := HC3.frozen (k + q)
          have g0 := HC3.cell (k + q) (by omega)
          have HS := HC3.set (k + q) ((E + P + M) % 4294967296) (((E : Int) + (P : Int) + (M : Int)) % 4294967296) (by omega)
          clear HC2 HC3
          go_wp2
          go_roundw
          case rel => exact ⟨q + 1, (E + P + M) / 4294967296, _, by omega, by go_num, by go_num, by omega, HS, HQ⟩
          case measure => simp [intOf]; omega
        · obtain rfl : q = n2 := by omega
          have HN : Tm ys zs (xs2.set (k + q) M) (k + 1) 0 0 := by
            have := HP2
            rw [← hlenb.out] at this
            have e := this.next (by rw [hlena.out]; exact hlt) (by rw [HC2.len, hlenb.out]; omega)
            rwa [hlenb.out] at e
          have r0 := HC2.frozen (k + q)
          have g0 := HC2.cell (k + q) (by omega)
          have HS := HC2.set (k + q) M (M : Int) rfl
          clear HP2 HC2 HP HC
          go_wp2
          go_roundw
          case rel => exact ⟨k + 1, _, by omega, by go_num, HS, HN⟩
          case measure => simp [intOf]; omega
    · obtain rfl : k = n1 := by omega
      have hval : val 4294967296 xs = val 4294967296 ys * val 4294967296 zs := by
        have := HP
        rw [← hlena.out] at this
        exact this.done
      have HV := Lib.hid hval
      have HT := Lib.hid (trimRef_any _ _ _ _ xs wr HC.rd HP.low (by omega))
      have hbl := HC.below
      have hbig := HC.big
      clear hval HP HC
      go_wp2_with (go_at_call 96; refine HT.out.mono ?_; rintro e w9 ⟨A', m', c', rfl, hown9, hb9⟩)
      go_ret
      rw [HV.out] at hown9
      exact ⟨A', m', c', rfl, own_low hown9 hbig, hbl.trans (hb9.mono hbig)⟩
end Go.Proofs.Ythplhlcdlnedfaa

/-
  The specification's functions, part D: bits.
-/
namespace Go.Proofs.Ythplhlcdlnedfaa
open Go.RowKit MN

theorem bitRef_any (A : Option Addr) (n c : Nat) (xs : List Nat) (i : Nat) (w : World) (h : Arg w A n c xs) (hi : i ≤ 1000000) :
    Calls Try.prog 114 #[.slice A n c, .int .i64 (i : Int)] w fun e w' => e = .returned (.int .u64 ((val 4294967296 xs / 2 ^ i % 2 : Nat) : Int)) ∧ w = w' := by
  have HA := Lib.hid (atRef_any A n c xs (i / 32) w h)
  have HV := Lib.hid (bit_val xs h.low i)
  have b1 := low_dg h.low (by omega) (i / 32)
  obtain ⟨D, hD⟩ : ∃ D, D = dg xs (i / 32) := ⟨_, rfl⟩
  rw [← hD] at HA HV b1
  clear hD h
  obtain ⟨s, hs⟩ : ∃ s, s = i % 32 := ⟨_, rfl⟩
  obtain ⟨q, hq⟩ : ∃ q, q = i / 32 := ⟨_, rfl⟩
  obtain ⟨T, hT⟩ : ∃ T, T = D / 2 ^ s := ⟨_, rfl⟩
  have hs1 : s ≤ 31 := by omega
  have hTl : T ≤ 4294967295 := by rw [hT]; exact Nat.le_trans (Nat.div_le_self _ _) (by omega)
  have e1 : (i : Int) / 32 = (q : Int) := by omega
  have e2 : (i : Int) % 32 = (s : Int) := by omega
  have e3 : (D : Int) / 2 ^ s = (T : Int) := by rw [hT]; simp
  rw [← hs, ← hT] at HV
  rw [← hq] at HA
  clear hs hq hT
  rw [HV.out]
  clear HV
  go_enter Try.func114, Try.ntmps114
  go_wp2_with (go_at_call 113; (with_reducible refine HA.out.mono ?_); rintro e w' ⟨rfl, rfl⟩)
  go_ret
  exact ⟨rfl, rfl⟩

end Go.Proofs.Ythplhlcdlnedfaa

/-
  The specification's functions, part E: long division, bit by bit.
-/
namespace Go.Proofs.Ythplhlcdlnedfaa
open Go.RowKit MN

/-- What is owned lies apart from what is stored in a block below. -/
theorem own_apart {B : Nat} {e : TypeId} {size n : Nat} {v u : Value} {xs : List Value} {w : World} {g j : Nat} (h : w.ownsRow B e size v n xs) (hg : g < B) : (w.setCell ⟨g, j, none⟩ u).ownsRow B e size v n xs := by
  refine ⟨h.1, ?_⟩
  rcases h.2 with k | ⟨g', cap, cur, hv, hb, hh, r⟩
  · exact .inl k
  · refine .inr ⟨g', cap, cur, hv, hb, ?_, r⟩
    have hs := (h.lt g' (by rw [hv]; rfl)).2
    rw [(grown_set (World.grownBy.refl w _) : w.grownBy (w.setCell ⟨g, j, none⟩ u) (some g)).block g' hs (fun e => by injection e with e; omega)]
    exact hh

theorem len_of_top {xs ys : List Nat} (hx : Low 4294967296 xs) (hy : Top ys) (h : val 4294967296 ys ≤ val 4294967296 xs) : ys.length ≤ xs.length := by
  rcases Nat.lt_or_ge xs.length ys.length with h1 | h1
  · have := val_short (B := 4294967296) (by omega) xs ys hx hy h1
    omega
  · exact h1
theorem digs_small {b R n : Nat} (hb : b < 4294967296 ^ n) (hR : R < b) : (digs 4294967296 R).length ≤ n := digs_len (by omega) _ _ (by omega)

theorem bit_pow (s : Nat) (hs : s ≤ 31) : 2 ^ s ≤ 2147483648 ∧ 0 < 2 ^ s := by
  have := Nat.pow_le_pow_right (show 0 < 2 by omega) hs
  exact ⟨this, Nat.two_pow_pos s⟩

set_option maxRecDepth 100000 in
set_option maxHeartbeats 2000000 in
theorem partedRef_any (A1 A2 : Option Addr) (n1 c1 n2 c2 : Nat) (ys zs : List Nat) (w : World) (ha : Arg w A1 n1 c1 ys) (hb : Arg w A2 n2 c2 zs) (htop : Top zs) (hn1 : n1 ≤ 1000) (hn2 : n2 ≤ 1000) (hp : 0 < n2) :
    Calls Try.prog 92 #[.slice A1 n1 c1, .slice A2 n2 c2] w (Divided w (val 4294967296 ys) (val 4294967296 zs)) := by
  obtain ⟨i0, hi, hz0, hz1, hz2⟩ := info_parts info24
  have hlena := Lib.hid ha.rd.len
  have hlenb := Lib.hid hb.rd.len
  have HA := Lib.hid ha
  have HB := Lib.hid hb
  have HT := Lib.hid htop
  have hca := ha.rd.le
  have hcm := ha.rd.cap
  unfold maxLen at hcm
  clear ha hb htop
  by_cases hlt : n1 < n2
  · have hv : val 4294967296 ys < val 4294967296 zs := val_short (B := 4294967296) (by omega) ys zs HA.out.low HT.out (by rw [hlena.out, hlenb.out]; exact hlt)
    have HV := Lib.hid hv
    have H := Lib.hid (trimRef_arg A1 n1 c1 ys w HA.out (by omega))
    clear hv
    go_enter Try.func92, Try.ntmps92
    go_wp2_with (go_at_call 96; refine H.out.mono ?_; rintro e w9 ⟨A', m', c', rfl, hown9, hb9⟩)
    go_ret2
    refine ⟨none, 0, 0, A', m', c', rfl, ?_, ?_, hb9⟩
    · rw [Nat.div_eq_of_lt HV.out]; exact World.ownsRow_nil _ _ _ _
    · rw [Nat.mod_eq_of_lt HV.out]; exact hown9
  · obtain ⟨k, hk⟩ : ∃ k, k = n1 - n2 + 1 := ⟨_, rfl⟩
    have hkn : k ≤ n1 := by omega
    have hne : zs ≠ [] := fun e => by have := hlenb.out; rw [e] at this; simp at this; omega
    have HS := Lib.hid (pd_start ys zs k HA.out.low HT.out hne (by rw [hlena.out, hlenb.out]; omega))
    have hzlt := val_lt zs HB.out.low
    rw [hlenb.out] at hzlt
    have HZL := Lib.hid hzlt
    have hf : (n1 : Int) - (n2 : Int) + 1 = (k : Int) := by omega
    have hk0 : 0 < k := by omega
    have hge : n2 ≤ n1 := by omega
    clear hne hzlt hk hlt
    go_enter Try.func92, Try.ntmps92
    go_upto_region 5 with (at_make; refine wpList_make_full _ rfl _ _ 23 rfl w.heap.size 24 i0 _ 1 Try.underlying23 hi hz0 hz1 .i64 .i64 _ _ n1 rfl rfl rfl rfl (by rw [hz2]; omega) (by unfold maxLen; omega) (Nat.le_refl _) ?_; intro w1 hown1 hg1)
    have HC1 := Cols.made (w := w) hown1 hg1 (Below.refl _ _) (Nat.le_refl _)
    clear hown1 hg1
    go_cut [8] from 26 to 29 (fun v wr => ∃ A m c, v = .slice A m c ∧ Cols .u32 24 w.heap.size w wr w.heap.size n1 (List.replicate n1 0) ∧ wr.ownsRow (w.heap.size + 1) 24 1 (.slice A m c) m (vs32 (digs 4294967296 (val 4294967296 (ys.drop k)))))
    case first =>
      have HTC : Hid (∀ A' m' c', m' = n1 - k → c' = c1 - k → A' = (if c1 = k then A1 else A1.map (·.add k)) → Calls Try.prog 96 #[.slice A' m' c'] w1 (New w1 (val 4294967296 (ys.drop k)))) := Lib.hid (fun A' m' c' e1 e2 e3 => trimRef_cut A1 A' n1 c1 k m' c' ys w1 (HA.out.keep HC1.below) (by omega) hkn e1 e2 e3)
      by_cases hck : c1 = k
      · subst hck
        go_wp2_with fail
        refine (HTC.out _ _ _ (by omega) (by omega) (by simp)).mono ?_
        rintro e w2 ⟨Ar, mr, cr, rfl, hownr, hb2⟩
        have hg1 := HC1.lt
        have HC2 := HC1.keep hb2 hg1 HC1.big
        have hr2 := own_low (B' := w.heap.size + 1) hownr hg1
        go_wp2_with fail
        go_meet
        case rel => exact ⟨Ar, mr, cr, rfl, HC2, hr2⟩
      · go_wp2_with fail
        refine (HTC.out _ _ _ (by omega) (by omega) (by simp [hck])).mono ?_
        rintro e w2 ⟨Ar, mr, cr, rfl, hownr, hb2⟩
        have hg1 := HC1.lt
        have HC2 := HC1.keep hb2 hg1 HC1.big
        have hr2 := own_low (B' := w.heap.size + 1) hownr hg1
        go_wp2_with fail
        go_meet
        case rel => exact ⟨Ar, mr, cr, rfl, HC2, hr2⟩
    case rest =>
    obtain ⟨Ar, mr, cr, rfl, HC2, hr2⟩ := hcut
    clear HC1
    go_wp2_with fail
    go_loopw [8, 9] (fun r i wr => ∃ (j Q R : Nat) (qs : List Nat) (A : Option Addr) (m c : Nat), j ≤ 32 * k ∧ i = .int .i64 ((j : Int) - 1) ∧ r = .slice A m c ∧ Cols .u32 24 w.heap.size w wr w.heap.size n1 qs ∧
        wr.ownsRow (w.heap.size + 1) 24 1 (.slice A m c) m (vs32 (digs 4294967296 R)) ∧ Hid (Pd (val 4294967296 ys) (val 4294967296 zs) j Q R) ∧ Hid (val 4294967296 qs = 2 ^ j * Q) ∧ Low 4294967296 qs) (fun _ i _ => (intOf i + 1).toNat)
    case atStart =>
      exact ⟨32 * k, 0, _, _, Ar, mr, cr, Nat.le_refl _, by go_num, rfl, HC2, hr2, HS, Lib.hid (by rw [val_zeros _ (fun j => dg_replicate n1 j), Nat.mul_zero]), fun d hd => by rw [List.eq_of_mem_replicate hd]; omega⟩
    case round =>
      clear HC2 hr2
      obtain ⟨j, Q, R, qs, A, m, c, hj, rfl, rfl, HC, hor, HP, HQ, hql⟩ := hrel
      rcases Nat.eq_zero_or_pos j with rfl | hjp
      · have HD := HP.out.done
        have HE := Lib.hid HD
        have hq0 : val 4294967296 qs = Q := by rw [HQ.out, Nat.pow_zero, Nat.one_mul]
        have HTq := Lib.hid (trimRef_arg _ n1 n1 qs wr ⟨HC.rd, hql⟩ (by omega))
        have hbl := HC.below
        have hbig := HC.big
        have HQ0 := Lib.hid hq0
        clear HD hq0 HC HP HQ
        go_wp2_with (go_at_call 96; refine HTq.out.mono ?_; rintro e w9 ⟨A', m', c', rfl, hown9, hb9⟩)
        go_ret2
        refine ⟨A', m', c', A, m, c, rfl, ?_, ?_, hbl.trans (hb9.mono hbig)⟩
        · rw [HQ0.out, HE.out.1] at hown9; exact own_low hown9 hbig
        · rw [← HE.out.2]; exact own_low (own_keep hor hb9) (by omega)
      · obtain ⟨i, rfl⟩ : ∃ i, j = i + 1 := ⟨j - 1, by omega⟩
        have e0 : (((i + 1 : Nat) : Int) - 1) = (i : Int) := by omega
        rw [e0]
        obtain ⟨aR, lR⟩ := own_num hor
        have hm1 : m ≤ n2 := by rw [← lR]; exact digs_small HZL.out HP.out.lt
        have HR := Lib.hid HP.out.lt
        -- R + R
        go_wp2_with fail
        refine (plusRef_any A A m c m c _ _ wr aR aR (by omega) (by omega)).mono ?_
        rintro e w3 ⟨A3, m3, c3, rfl, ho3, hb3⟩
        rw [digs_val _ _ (by omega)] at ho3
        have b3 := HC.below.trans (hb3.mono HC.big)
        have HC3 := HC.keep hb3 HC.lt HC.big
        have ho3' := own_low (B' := w.heap.size + 1) ho3 HC.lt
        clear HC hor aR hb3 ho3
        -- the bit
        go_wp2_with fail
        refine (bitRef_any A1 n1 c1 ys i w3 (HA.out.keep b3) (by omega)).mono ?_
        rintro e w4 ⟨rfl, rfl⟩
        obtain ⟨t, ht⟩ : ∃ t, t = val 4294967296 ys / 2 ^ i % 2 := ⟨_, rfl⟩
        rw [← ht]
        have htl : t < 2 := by rw [ht]; exact Nat.mod_lt _ (by omega)
        have HT2 := Lib.hid ht
        clear ht
        go_wp2_with fail
        refine (ofRef_any t w3 (by omega)).mono ?_
        rintro e w5 ⟨A5, m5, c5, rfl, ho5, hb5⟩
        have b5 := b3.trans (hb5.mono b3.size)
        have HC5 := HC3.keep hb5 HC3.lt HC3.big
        have ho3'' := own_keep ho3' hb5
        obtain ⟨a3, l3⟩ := own_num ho3''
        obtain ⟨a5, l5⟩ := own_num ho5
        have hm3 : m3 ≤ n2 + 1 := by
          rw [← l3]
          refine digs_len (by omega) _ _ ?_
          have := HR.out; have := HZL.out
          rw [Nat.pow_succ]; omega
        have hm5 : m5 ≤ 1 := by rw [← l5]; exact digs_len (by omega) _ _ (by omega)
        go_wp2_with fail
        refine (plusRef_any A3 A5 m3 c3 m5 c5 _ _ w5 a3 a5 (by omega) (by omega)).mono ?_
        rintro e w6 ⟨A6, m6, c6, rfl, ho6, hb6⟩
        rw [digs_val _ _ (by omega), digs_val _ _ (by omega)] at ho6
        have b6 := b5.trans (hb6.mono b5.size)
        have HC6 := HC5.keep hb6 HC5.lt HC5.big
        have ho6' := own_low (B' := w.heap.size + 1) ho6 HC5.lt
        obtain ⟨a6, l6⟩ := own_num ho6'
        clear ho3' ho3'' ho5 ho6 a3 a5 HC3 HC5 hb5 hb6 l3 l5 b3 b5
        have hord := orderRef_any A6 A2 m6 c6 n2 c2 _ _ w6 a6 (HB.out.keep b6)
        rw [digs_val _ _ (by omega)] at hord
        have HO := Lib.hid hord
        clear hord
        by_cases hlt : R + R + t < val 4294967296 zs
        · have hov : decide ((0 : Int) ≤ ordv (R + R + t) (val 4294967296 zs)) = false := by rw [ordv_lt hlt]; rfl
          have HP' := Lib.hid (HP.out.less HT2.out hlt)
          have HQ' : Hid (val 4294967296 qs = 2 ^ i * (2 * Q)) := Lib.hid (by rw [HQ.out, no_bit])
          clear hlt HP HQ HR
          go_wp2_with fail
          refine HO.out.mono ?_
          rintro e w7 ⟨rfl, rfl⟩
          go_wp2_with fail
          go_roundw
          case rel => exact ⟨i, 2 * Q, _, qs, A6, m6, c6, by omega, by go_num, rfl, HC6, ho6', HP', HQ', hql⟩
          case measure => simp [intOf]
        · have hge2 : val 4294967296 zs ≤ R + R + t := by omega
          have hov : decide ((0 : Int) ≤ ordv (R + R + t) (val 4294967296 zs)) = true := decide_eq_true (ordv_ge hge2)
          have HP' := Lib.hid (HP.out.more HT2.out hge2)
          have hD := hi_digit qs hql i Q HQ.out
          obtain ⟨D, hDe⟩ : ∃ D, D = dg qs (i / 32) := ⟨_, rfl⟩
          have hilt : i / 32 < n1 := by omega
          have HQ' := Lib.hid (set_bit qs i Q D HQ.out (by rw [HC6.len]; exact hilt) hDe)
          have hlen6 : n2 ≤ m6 := by
            rw [← l6, ← hlenb.out]
            exact len_of_top (digs_low _ _ (by omega)) HT.out (by rw [digs_val _ _ (by omega)]; exact hge2)
          have hm6 : m6 ≤ n2 + 1 := by
            rw [← l6]
            refine digs_len (by omega) _ _ ?_
            have := HR.out; have := HZL.out
            rw [Nat.pow_succ]; omega
          have hmn := minusRef_any A6 A2 m6 c6 n2 c2 _ _ w6 a6 (HB.out.keep b6) (by omega) hlen6 (by rw [digs_val _ _ (by omega)]; exact hge2)
          rw [digs_val _ _ (by omega)] at hmn
          have HM := Lib.hid hmn
          rw [← hDe] at hD
          clear hmn hlt HP HQ HR hge2
          obtain ⟨s, hs⟩ : ∃ s, s = i % 32 := ⟨_, rfl⟩
          obtain ⟨q, hq⟩ : ∃ q, q = i / 32 := ⟨_, rfl⟩
          have e1 : (i : Int) / 32 = (q : Int) := by omega
          have e2 : (i : Int) % 32 = (s : Int) := by omega
          have hs1 : s ≤ 31 := by omega
          rw [← hs] at hD HQ'
          rw [← hq] at hDe hilt HQ'
          have hi2 : i ≤ 32000 := by omega
          clear hs hq
          obtain ⟨p1, p2⟩ := bit_pow s hs1
          have hwr : IntKind.u32.wrap ((1 : Int) * 2 ^ s) = ((2 ^ s : Nat) : Int) := by
            rw [show (1 : Int) * 2 ^ s = ((2 ^ s : Nat) : Int) by simp]; exact IntWalk.u32_in _ (by omega)
          obtain ⟨T, hT⟩ : ∃ T, T = 2 ^ s := ⟨_, rfl⟩
          rw [← hT] at hD hwr HQ' p1 p2
          have hz : ((D : Int) + 2 ^ s) % 4294967296 = ((D + T : Nat) : Int) := by
            rw [show (2 : Int) ^ s = (T : Int) by rw [hT]; simp]; omega
          have HZZ := Lib.hid hz
          clear hT hz
          go_wp2_with fail
          refine HO.out.mono ?_
          rintro e w7 ⟨rfl, rfl⟩
          go_wp2_with fail
          refine HM.out.mono ?_
          rintro e w8 ⟨A8, m8, c8, rfl, ho8, hb8⟩
          have HC8 := HC6.keep hb8 HC6.lt HC6.big
          have ho8' := own_apart (g := w.heap.size) (j := q) (u := .int .u32 (((D : Int) + 2 ^ s) % 4294967296)) (own_low (B' := w.heap.size + 1) ho8 HC6.lt) (by omega)
          have g0 := HC8.cell q hilt
          rw [← hDe] at g0
          have r0 := HC8.frozen q
          have HS8 := HC8.set q (D + T) (((D : Int) + 2 ^ s) % 4294967296) HZZ.out
          have hql' : Low 4294967296 (qs.set q (D + T)) := low_set hql _ _ hD
          have l0 : (0 : Int) ≤ (q : Int) := by omega
          have l1 : (q : Int) < (n1 : Int) := by omega
          have d1 : (i : Int).tdiv 32 = (q : Int) := by rw [Int.tdiv_eq_ediv_of_nonneg (by omega)]; exact e1
          have d2 : (i : Int).tmod 32 = (s : Int) := by rw [Int.tmod_eq_emod_of_nonneg (by omega)]; exact e2
          have s0 : (0 : Int) ≤ (s : Int) := by omega
          have s1 : ((s : Int)).toNat = s := by omega
          have l4 : IntKind.u32.wrap ((D : Int) + (T : Int)) = ((D + T : Nat) : Int) := by rw [IntWalk.u32_in _ (by omega)]; omega
          clear HC8 HC6 ho6' hDe ho8 hb8 HO HM
          go_wp2_with fail
          go_region
          go_wp2_with fail
          go_roundw
          case rel => exact ⟨i, 2 * Q + 1, _, _, A8, m8, c8, by omega, by go_num, rfl, HS8.drew, ho8'.drew, HP', HQ', hql'⟩
          case measure => simp [intOf]
end Go.Proofs.Ythplhlcdlnedfaa

/-
  The specification's functions, part F: the common divisor; the functions that the document lists.
-/
namespace Go.Proofs.Ythplhlcdlnedfaa
open Go.RowKit MN

set_option maxRecDepth 100000 in
set_option maxHeartbeats 2000000 in
theorem commonRef_any (A1 A2 : Option Addr) (n1 c1 n2 c2 : Nat) (ys zs : List Nat) (w : World) (ha : Arg w A1 n1 c1 ys) (hb : Arg w A2 n2 c2 zs) (htop : Top zs) (hn1 : n1 ≤ 900) (hn2 : n2 ≤ 900) :
    Calls Try.prog 93 #[.slice A1 n1 c1, .slice A2 n2 c2] w (New w (Nat.gcd (val 4294967296 ys) (val 4294967296 zs))) := by
  have hzs := digs_of (B := 4294967296) (by omega) zs hb.low htop
  obtain ⟨K, hK, hK2⟩ : ∃ K, K ≤ 900 ∧ n2 ≤ K := ⟨900, by omega, hn2⟩
  have hzl : val 4294967296 zs < 4294967296 ^ K := by
    have := val_lt zs hb.low
    rw [hb.rd.len] at this
    exact Nat.lt_of_lt_of_le this (Nat.pow_le_pow_right (by omega) hK2)
  have HZL := Lib.hid hzl
  obtain ⟨N0, hN0⟩ : ∃ x, x = val 4294967296 ys := ⟨_, rfl⟩
  obtain ⟨M0, hM0⟩ : ∃ x, x = val 4294967296 zs := ⟨_, rfl⟩
  rw [← hM0] at hzs HZL
  rw [hzs] at hb
  have HA := Lib.hid (show ∃ L, Arg w A1 n1 c1 L ∧ val 4294967296 L = N0 from ⟨ys, ha, hN0.symm⟩)
  have HB := Lib.hid hb
  rw [← hN0, ← hM0]
  clear hzl hN0 hM0 hzs ha hb htop
  go_enter Try.func93, Try.ntmps93
  go_wp2_with fail
  go_loopg [0, 1] M0 (fun k v0 v1 wr => ∃ (N : Nat) (A : Option Addr) (n c : Nat) (A' : Option Addr) (m c' : Nat), v0 = .slice A n c ∧ v1 = .slice A' m c' ∧ Hid (∃ L, Arg wr A n c L ∧ val 4294967296 L = N) ∧ n ≤ 900 ∧
      Hid (Arg wr A' m c' (digs 4294967296 k)) ∧ Below w.heap.size w wr ∧ Hid (Nat.gcd N k = Nat.gcd N0 M0) ∧ Hid (k < 4294967296 ^ K))
  case atStart => exact ⟨N0, _, _, _, _, _, _, rfl, rfl, HA, hn1, HB, Below.refl _ _, Lib.hid rfl, HZL⟩
  case round =>
    clear HA HB
    obtain ⟨N, A, n, c, A', m, c', rfl, rfl, HL, hn, HM, hbr, HGr, HK⟩ := hrel
    have hlM := HM.out.rd.len
    rcases Nat.eq_zero_or_pos gk with rfl | hpos
    · have hm0 : m = 0 := by rw [← hlM]; rfl
      subst hm0
      obtain ⟨L, hL, hLN⟩ := HL.out
      have HT := Lib.hid (trimRef_arg A n c L wr hL (by omega))
      have HE : Hid (Nat.gcd N0 M0 = val 4294967296 L) := Lib.hid (by rw [← HGr.out, Nat.gcd_zero_right, hLN])
      clear HGr HM HL hL hLN hlM
      go_wp2_with (go_at_call 96; refine HT.out.mono ?_; rintro e w9 ⟨A9, m9, c9, rfl, hown9, hb9⟩)
      go_ret
      refine ⟨A9, m9, c9, rfl, ?_, hbr.trans (hb9.mono hbr.size)⟩
      rw [HE.out]; exact own_low hown9 hbr.size
    · have hm1 : 0 < m := by
        rw [← hlM]
        exact List.length_pos_iff.2 (digs_pos (by omega) hpos)
      have hmK : m ≤ K := by rw [← hlM]; exact digs_len (by omega) _ _ HK.out
      have hm9 : m ≤ 900 := by omega
      obtain ⟨L, hL, hLN⟩ := HL.out
      have hdiv := partedRef_any A A' n c m c' L _ wr hL HM.out (digs_top _ _ (by omega)) (by omega) (by omega) hm1
      rw [digs_val _ _ (by omega), hLN] at hdiv
      have HDV := Lib.hid hdiv
      have hlM' := Lib.hid hlM
      clear hdiv HL hL hLN hlM
      go_wp2_with fail
      refine HDV.out.mono ?_
      rintro e wd ⟨Q1, q1, e1, R1, r1, f1, rfl, hoQ, hoR, hbd⟩
      have HL2 : Hid (∃ L, Arg wd A' m c' L ∧ val 4294967296 L = gk) := Lib.hid ⟨_, HM.out.keep hbd, digs_val _ _ (by omega)⟩
      have HM2 := Lib.hid (own_num hoR).1
      have hb4 := hbr.trans (hbd.mono hbr.size)
      have HGn : Hid (Nat.gcd gk (N % gk) = Nat.gcd N0 M0) := Lib.hid (by rw [← HGr.out, Nat.gcd_comm gk, Nat.gcd_comm N]; exact (Nat.gcd_rec gk N).symm)
      have HMn : Hid (N % gk < 4294967296 ^ K) := Lib.hid (Nat.lt_of_lt_of_le (Nat.mod_lt _ hpos) (Nat.le_of_lt HK.out))
      have hmod : N % gk < gk := Nat.mod_lt _ hpos
      clear hoQ hoR hbr HGr hbd HDV HM
      go_wp2_with fail
      go_roundg (N % gk)
      case rel => exact ⟨gk, A', m, c', R1, r1, f1, rfl, rfl, HL2, hm9, HM2, hb4, HGn, HMn⟩
      case measure => exact hmod

theorem vB_no {xs : List Nat} (h : vB xs = false) : ¬ Vd xs := of_decide_eq_false h
theorem not_left {xs ys : List Nat} (h : vB xs = false) : ¬ (Vd xs ∧ Vd ys) := fun k => vB_no h k.1
theorem not_right {xs ys : List Nat} (h : vB ys = false) : ¬ (Vd xs ∧ Vd ys) := fun k => vB_no h k.2

theorem rCheck_any (A : Option Addr) (n c : Nat) (xs : List Nat) (w : World) (h : Arg w A n c xs) :
    Calls Try.prog 44 #[.slice A n c] w fun e w' => e = .returned (.int .i64 (ck xs)) ∧ w = w' := by
  cases hx : vB xs
  · have H := Lib.hid (valid_v h _ hx)
    have H2 := Lib.hid (ck_no (vB_no hx))
    clear h hx
    go_enter Try.func44, Try.ntmps44
    go_wp2_with (go_at_call 66; refine H.out.mono ?_; rintro e w3 ⟨rfl, rfl⟩)
    go_ret
    exact ⟨by rw [H2.out]; rfl, rfl⟩
  · have H := Lib.hid (valid_v h _ hx)
    have H2 := Lib.hid (ck_yes (vB_yes hx))
    clear h hx
    go_enter Try.func44, Try.ntmps44
    go_wp2_with (go_at_call 66; refine H.out.mono ?_; rintro e w3 ⟨rfl, rfl⟩)
    go_ret
    exact ⟨by rw [H2.out]; rfl, rfl⟩

theorem limited_any (A : Option Addr) (n c N : Nat) (w0 w : World) (hsz : Below w0.heap.size w0 w) (ho : w.ownsRow w0.heap.size 24 1 (.slice A n c) n (vs32 (digs 4294967296 N))) :
    Calls Try.prog 88 #[.slice A n c] w (Res w0 (fitC N) (fitN N)) := by
  have hlen := (own_num ho).2
  by_cases h : Big N
  · have hC : Hid (fitC N = 4) := Lib.hid (if_pos h)
    have hN : Hid (fitN N = 0) := Lib.hid (if_pos h)
    have hn : 16 < n := by rw [← hlen]; exact h
    clear hlen h
    go_enter Try.func88, Try.ntmps88
    go_wp2
    go_ret2
    rw [hC.out, hN.out]
    exact res_nil hsz
  · have hC : Hid (fitC N = 0) := Lib.hid (if_neg h)
    have hN : Hid (fitN N = N) := Lib.hid (if_neg h)
    have hn : n ≤ 16 := by rw [← hlen]; exact Nat.le_of_not_lt h
    clear hlen h
    go_enter Try.func88, Try.ntmps88
    go_wp2
    go_ret2
    rw [hC.out, hN.out]
    exact ⟨A, n, c, rfl, ho, hsz⟩

set_option maxRecDepth 100000 in
set_option maxHeartbeats 1000000 in
theorem rCompare_any (A1 : Option Addr) (n1 c1 : Nat) (xs : List Nat) (A2 : Option Addr) (n2 c2 : Nat) (ys : List Nat) (w : World) (h : Arg w A1 n1 c1 xs) (k : Arg w A2 n2 c2 ys) :
    Calls Try.prog 43 #[.slice A1 n1 c1, .slice A2 n2 c2] w (fun e w' => e = .returned (.tuple #[.int .i64 (okI xs ys (ordv (nv xs) (nv ys))), .int .i64 (okC xs ys 0)]) ∧ w = w') := by
  cases hx : vB xs
  · have H := Lib.hid (valid_v h _ hx)
    rw [okI_no (not_left hx), okC_no (not_left hx)]
    clear h k hx
    go_enter Try.func43, Try.ntmps43
    go_wp2_with (go_at_call 66; refine H.out.mono ?_; rintro e w3 ⟨rfl, rfl⟩)
    go_ret2
    exact ⟨rfl, rfl⟩
  · cases hy : vB ys
    · have H := Lib.hid (valid_v h _ hx)
      have H2 := Lib.hid (valid_v k _ hy)
      rw [okI_no (not_right hy), okC_no (not_right hy)]
      clear h k hx hy
      go_enter Try.func43, Try.ntmps43
      go_wp2_with fail
      refine H.out.mono ?_
      rintro e w3 ⟨rfl, rfl⟩
      go_wp2_with fail
      refine H2.out.mono ?_
      rintro e w3 ⟨rfl, rfl⟩
      go_wp2
      go_ret2
      exact ⟨rfl, rfl⟩
    · have H := Lib.hid (valid_v h _ hx)
      have H2 := Lib.hid (valid_v k _ hy)
      rw [okI_yes (vB_yes hx) (vB_yes hy), okC_yes (vB_yes hx) (vB_yes hy)]
      have hn1 := h.len (vB_yes hx)
      have hn2 := k.len (vB_yes hy)
      have vy := vB_yes hy
      clear hx hy
      have HO := Lib.hid (orderRef_any A1 A2 n1 c1 n2 c2 xs ys w h k)
      clear h k vy
      go_enter Try.func43, Try.ntmps43
      go_wp2_with fail
      refine H.out.mono ?_
      rintro e w3 ⟨rfl, rfl⟩
      go_wp2_with fail
      refine H2.out.mono ?_
      rintro e w3 ⟨rfl, rfl⟩
      go_wp2_with fail
      refine HO.out.mono ?_
      rintro e w3 ⟨rfl, rfl⟩
      go_wp2
      go_ret2
      exact ⟨rfl, rfl⟩

set_option maxRecDepth 100000 in
set_option maxHeartbeats 1000000 in
theorem rAdd_any (A1 : Option Addr) (n1 c1 : Nat) (xs : List Nat) (A2 : Option Addr) (n2 c2 : Nat) (ys : List Nat) (w : World) (h : Arg w A1 n1 c1 xs) (k : Arg w A2 n2 c2 ys) :
    Calls Try.prog 45 #[.slice A1 n1 c1, .slice A2 n2 c2] w (Res w (okC xs ys (fitC (nv xs + nv ys))) (okN xs ys (fitN (nv xs + nv ys)))) := by
  cases hx : vB xs
  · have H := Lib.hid (valid_v h _ hx)
    rw [okC_no (not_left hx), okN_no (not_left hx)]
    clear h k hx
    go_enter Try.func45, Try.ntmps45
    go_wp2_with (go_at_call 66; refine H.out.mono ?_; rintro e w3 ⟨rfl, rfl⟩)
    go_ret2
    exact res_nil (Below.refl _ _)
  · cases hy : vB ys
    · have H := Lib.hid (valid_v h _ hx)
      have H2 := Lib.hid (valid_v k _ hy)
      rw [okC_no (not_right hy), okN_no (not_right hy)]
      clear h k hx hy
      go_enter Try.func45, Try.ntmps45
      go_wp2_with fail
      refine H.out.mono ?_
      rintro e w3 ⟨rfl, rfl⟩
      go_wp2_with fail
      refine H2.out.mono ?_
      rintro e w3 ⟨rfl, rfl⟩
      go_wp2
      go_ret2
      exact res_nil (Below.refl _ _)
    · have H := Lib.hid (valid_v h _ hx)
      have H2 := Lib.hid (valid_v k _ hy)
      rw [okC_yes (vB_yes hx) (vB_yes hy), okN_yes (vB_yes hx) (vB_yes hy)]
      have hn1 := h.len (vB_yes hx)
      have hn2 := k.len (vB_yes hy)
      have vy := vB_yes hy
      clear hx hy
      have HO := Lib.hid (plusRef_any A1 A2 n1 c1 n2 c2 xs ys w h k (by omega) (by omega))
      clear h k vy
      go_enter Try.func45, Try.ntmps45
      go_wp2_with fail
      refine H.out.mono ?_
      rintro e w3 ⟨rfl, rfl⟩
      go_wp2_with fail
      refine H2.out.mono ?_
      rintro e w3 ⟨rfl, rfl⟩
      go_wp2_with fail
      refine HO.out.mono ?_
      rintro e w4 ⟨A, m, c, rfl, hown, hb⟩
      go_wp2_with fail
      refine (limited_any A m c _ w w4 hb hown).mono ?_
      rintro e w5 ⟨A', m', c', rfl, hown3, hb3⟩
      go_wp2
      go_ret2
      exact ⟨A', m', c', rfl, hown3, hb3⟩

set_option maxRecDepth 100000 in
set_option maxHeartbeats 1000000 in
theorem rMul_any (A1 : Option Addr) (n1 c1 : Nat) (xs : List Nat) (A2 : Option Addr) (n2 c2 : Nat) (ys : List Nat) (w : World) (h : Arg w A1 n1 c1 xs) (k : Arg w A2 n2 c2 ys) :
    Calls Try.prog 49 #[.slice A1 n1 c1, .slice A2 n2 c2] w (Res w (okC xs ys (fitC (nv xs * nv ys))) (okN xs ys (fitN (nv xs * nv ys)))) := by
  cases hx : vB xs
  · have H := Lib.hid (valid_v h _ hx)
    rw [okC_no (not_left hx), okN_no (not_left hx)]
    clear h k hx
    go_enter Try.func49, Try.ntmps49
    go_wp2_with (go_at_call 66; refine H.out.mono ?_; rintro e w3 ⟨rfl, rfl⟩)
    go_ret2
    exact res_nil (Below.refl _ _)
  · cases hy : vB ys
    · have H := Lib.hid (valid_v h _ hx)
      have H2 := Lib.hid (valid_v k _ hy)
      rw [okC_no (not_right hy), okN_no (not_right hy)]
      clear h k hx hy
      go_enter Try.func49, Try.ntmps49
      go_wp2_with fail
      refine H.out.mono ?_
      rintro e w3 ⟨rfl, rfl⟩
      go_wp2_with fail
      refine H2.out.mono ?_
      rintro e w3 ⟨rfl, rfl⟩
      go_wp2
      go_ret2
      exact res_nil (Below.refl _ _)
    · have H := Lib.hid (valid_v h _ hx)
      have H2 := Lib.hid (valid_v k _ hy)
      rw [okC_yes (vB_yes hx) (vB_yes hy), okN_yes (vB_yes hx) (vB_yes hy)]
      have hn1 := h.len (vB_yes hx)
      have hn2 := k.len (vB_yes hy)
      have vy := vB_yes hy
      clear hx hy
      have HO := Lib.hid (timesRef_any A1 A2 n1 c1 n2 c2 xs ys w h k (by omega) (by omega))
      clear h k vy
      go_enter Try.func49, Try.ntmps49
      go_wp2_with fail
      refine H.out.mono ?_
      rintro e w3 ⟨rfl, rfl⟩
      go_wp2_with fail
      refine H2.out.mono ?_
      rintro e w3 ⟨rfl, rfl⟩
      go_wp2_with fail
      refine HO.out.mono ?_
      rintro e w4 ⟨A, m, c, rfl, hown, hb⟩
      go_wp2_with fail
      refine (limited_any A m c _ w w4 hb hown).mono ?_
      rintro e w5 ⟨A', m', c', rfl, hown3, hb3⟩
      go_wp2
      go_ret2
      exact ⟨A', m', c', rfl, hown3, hb3⟩

set_option maxRecDepth 100000 in
set_option maxHeartbeats 1000000 in
theorem rSub_any (A1 : Option Addr) (n1 c1 : Nat) (xs : List Nat) (A2 : Option Addr) (n2 c2 : Nat) (ys : List Nat) (w : World) (h : Arg w A1 n1 c1 xs) (k : Arg w A2 n2 c2 ys) :
    Calls Try.prog 48 #[.slice A1 n1 c1, .slice A2 n2 c2] w (Res w (okC xs ys (subC (nv xs) (nv ys))) (okN xs ys (nv xs - nv ys))) := by
  cases hx : vB xs
  · have H := Lib.hid (valid_v h _ hx)
    rw [okC_no (not_left hx), okN_no (not_left hx)]
    clear h k hx
    go_enter Try.func48, Try.ntmps48
    go_wp2_with (go_at_call 66; refine H.out.mono ?_; rintro e w3 ⟨rfl, rfl⟩)
    go_ret2
    exact res_nil (Below.refl _ _)
  · cases hy : vB ys
    · have H := Lib.hid (valid_v h _ hx)
      have H2 := Lib.hid (valid_v k _ hy)
      rw [okC_no (not_right hy), okN_no (not_right hy)]
      clear h k hx hy
      go_enter Try.func48, Try.ntmps48
      go_wp2_with fail
      refine H.out.mono ?_
      rintro e w3 ⟨rfl, rfl⟩
      go_wp2_with fail
      refine H2.out.mono ?_
      rintro e w3 ⟨rfl, rfl⟩
      go_wp2
      go_ret2
      exact res_nil (Below.refl _ _)
    · have H := Lib.hid (valid_v h _ hx)
      have H2 := Lib.hid (valid_v k _ hy)
      rw [okC_yes (vB_yes hx) (vB_yes hy), okN_yes (vB_yes hx) (vB_yes hy)]
      have hn1 := h.len (vB_yes hx)
      have hn2 := k.len (vB_yes hy)
      have vy := vB_yes hy
      clear hx hy
      have HO := Lib.hid (orderRef_any A1 A2 n1 c1 n2 c2 xs ys w h k)
      by_cases hlt : nv xs < nv ys
      · have hs : Hid (subC (nv xs) (nv ys) = 11) := Lib.hid (if_pos hlt)
        have hz : Hid (nv xs - nv ys = 0) := Lib.hid (by omega)
        have hord : ordv (val 4294967296 xs) (val 4294967296 ys) = -1 := ordv_lt hlt
        rw [hs.out, hz.out]
        clear h k hlt vy
        go_enter Try.func48, Try.ntmps48
        go_wp2_with fail
        refine H.out.mono ?_
        rintro e w3 ⟨rfl, rfl⟩
        go_wp2_with fail
        refine H2.out.mono ?_
        rintro e w3 ⟨rfl, rfl⟩
        go_wp2_with fail
        refine HO.out.mono ?_
        rintro e w3 ⟨rfl, rfl⟩
        go_wp2
        go_ret2
        exact res_nil (Below.refl _ _)
      · have hs : Hid (subC (nv xs) (nv ys) = 0) := Lib.hid (if_neg hlt)
        have hle : nv ys ≤ nv xs := by omega
        have hlen : n2 ≤ n1 := by
          have := len_of_le h.low vy hle
          rwa [h.rd.len, k.rd.len] at this
        have hord : 0 ≤ ordv (val 4294967296 xs) (val 4294967296 ys) := ordv_ge hle
        have HM := Lib.hid (minusRef_any A1 A2 n1 c1 n2 c2 xs ys w h k (by omega) hlen hle)
        rw [hs.out]
        clear h k hlt vy hle hlen
        go_enter Try.func48, Try.ntmps48
        go_wp2_with fail
        refine H.out.mono ?_
        rintro e w3 ⟨rfl, rfl⟩
        go_wp2_with fail
        refine H2.out.mono ?_
        rintro e w3 ⟨rfl, rfl⟩
        go_wp2_with fail
        refine HO.out.mono ?_
        rintro e w3 ⟨rfl, rfl⟩
        go_wp2_with fail
        refine HM.out.mono ?_
        rintro e w4 ⟨A, m, c, rfl, hown, hb⟩
        go_wp2
        go_ret2
        exact ⟨A, m, c, rfl, hown, hb⟩

set_option maxRecDepth 100000 in
set_option maxHeartbeats 1000000 in
theorem rGcd_any (A1 : Option Addr) (n1 c1 : Nat) (xs : List Nat) (A2 : Option Addr) (n2 c2 : Nat) (ys : List Nat) (w : World) (h : Arg w A1 n1 c1 xs) (k : Arg w A2 n2 c2 ys) :
    Calls Try.prog 51 #[.slice A1 n1 c1, .slice A2 n2 c2] w (Res w (okC xs ys 0) (okN xs ys (Nat.gcd (nv xs) (nv ys)))) := by
  cases hx : vB xs
  · have H := Lib.hid (valid_v h _ hx)
    rw [okC_no (not_left hx), okN_no (not_left hx)]
    clear h k hx
    go_enter Try.func51, Try.ntmps51
    go_wp2_with (go_at_call 66; refine H.out.mono ?_; rintro e w3 ⟨rfl, rfl⟩)
    go_ret2
    exact res_nil (Below.refl _ _)
  · cases hy : vB ys
    · have H := Lib.hid (valid_v h _ hx)
      have H2 := Lib.hid (valid_v k _ hy)
      rw [okC_no (not_right hy), okN_no (not_right hy)]
      clear h k hx hy
      go_enter Try.func51, Try.ntmps51
      go_wp2_with fail
      refine H.out.mono ?_
      rintro e w3 ⟨rfl, rfl⟩
      go_wp2_with fail
      refine H2.out.mono ?_
      rintro e w3 ⟨rfl, rfl⟩
      go_wp2
      go_ret2
      exact res_nil (Below.refl _ _)
    · have H := Lib.hid (valid_v h _ hx)
      have H2 := Lib.hid (valid_v k _ hy)
      rw [okC_yes (vB_yes hx) (vB_yes hy), okN_yes (vB_yes hx) (vB_yes hy)]
      have hn1 := h.len (vB_yes hx)
      have hn2 := k.len (vB_yes hy)
      have vy := vB_yes hy
      clear hx hy
      have HO := Lib.hid (commonRef_any A1 A2 n1 c1 n2 c2 xs ys w h k vy.2 (by omega) (by omega))
      clear h k vy
      go_enter Try.func51, Try.ntmps51
      go_wp2_with fail
      refine H.out.mono ?_
      rintro e w3 ⟨rfl, rfl⟩
      go_wp2_with fail
      refine H2.out.mono ?_
      rintro e w3 ⟨rfl, rfl⟩
      go_wp2_with fail
      refine HO.out.mono ?_
      rintro e w4 ⟨A, m, c, rfl, hown, hb⟩
      go_wp2
      go_ret2
      exact ⟨A, m, c, rfl, hown, hb⟩

set_option maxRecDepth 100000 in
set_option maxHeartbeats 1000000 in
theorem rDiv_any (A1 : Option Addr) (n1 c1 : Nat) (xs : List Nat) (A2 : Option Addr) (n2 c2 : Nat) (ys : List Nat) (w : World) (h : Arg w A1 n1 c1 xs) (k : Arg w A2 n2 c2 ys) :
    Calls Try.prog 50 #[.slice A1 n1 c1, .slice A2 n2 c2] w (Res2 w (okC xs ys (divC (nv ys))) (okN xs ys (if nv ys = 0 then 0 else nv xs / nv ys)) (okN xs ys (if nv ys = 0 then 0 else nv xs % nv ys))) := by
  cases hx : vB xs
  · have H := Lib.hid (valid_v h _ hx)
    rw [okC_no (not_left hx), okN_no (not_left hx), okN_no (not_left hx)]
    clear h k hx
    go_enter Try.func50, Try.ntmps50
    go_wp2_with (go_at_call 66; refine H.out.mono ?_; rintro e w3 ⟨rfl, rfl⟩)
    go_ret3
    exact ⟨none, 0, 0, none, 0, 0, rfl, World.ownsRow_nil _ _ _ _, World.ownsRow_nil _ _ _ _, Below.refl _ _⟩
  · cases hy : vB ys
    · have H := Lib.hid (valid_v h _ hx)
      have H2 := Lib.hid (valid_v k _ hy)
      rw [okC_no (not_right hy), okN_no (not_right hy), okN_no (not_right hy)]
      clear h k hx hy
      go_enter Try.func50, Try.ntmps50
      go_wp2_with fail
      refine H.out.mono ?_
      rintro e w3 ⟨rfl, rfl⟩
      go_wp2_with fail
      refine H2.out.mono ?_
      rintro e w3 ⟨rfl, rfl⟩
      go_wp2
      go_ret3
      exact ⟨none, 0, 0, none, 0, 0, rfl, World.ownsRow_nil _ _ _ _, World.ownsRow_nil _ _ _ _, Below.refl _ _⟩
    · have H := Lib.hid (valid_v h _ hx)
      have H2 := Lib.hid (valid_v k _ hy)
      rw [okC_yes (vB_yes hx) (vB_yes hy), okN_yes (vB_yes hx) (vB_yes hy), okN_yes (vB_yes hx) (vB_yes hy)]
      have hn1 := h.len (vB_yes hx)
      have hn2 := k.len (vB_yes hy)
      have vy := vB_yes hy
      clear hx hy
      have hlen := k.rd.len
      by_cases hz : nv ys = 0
      · have hs : Hid (divC (nv ys) = 10) := Lib.hid (if_pos hz)
        have hn0 : n2 = 0 := by rw [← hlen, vd_zero vy hz]; rfl
        subst hn0
        rw [if_pos hz, if_pos hz, hs.out]
        clear h k hz hlen vy hn2
        go_enter Try.func50, Try.ntmps50
        go_wp2_with fail
        refine H.out.mono ?_
        rintro e w3 ⟨rfl, rfl⟩
        go_wp2_with fail
        refine H2.out.mono ?_
        rintro e w3 ⟨rfl, rfl⟩
        go_wp2
        go_ret3
        exact ⟨none, 0, 0, none, 0, 0, rfl, World.ownsRow_nil _ _ _ _, World.ownsRow_nil _ _ _ _, Below.refl _ _⟩
      · have hs : Hid (divC (nv ys) = 0) := Lib.hid (if_neg hz)
        have hpos : 0 < n2 := by
          rcases Nat.eq_zero_or_pos n2 with h0 | h0
          · exfalso
            subst h0
            rw [List.eq_nil_of_length_eq_zero hlen] at hz
            exact hz rfl
          · exact h0
        rw [if_neg hz, if_neg hz, hs.out]
        have HO := Lib.hid (partedRef_any A1 A2 n1 c1 n2 c2 xs ys w h k vy.2 (by omega) (by omega) hpos)
        have hb1 : ((n2 : Int) == 0) = false := by rw [beq_eq_false_iff_ne]; omega
        clear h k hz hlen vy
        go_enter Try.func50, Try.ntmps50
        go_wp2_with fail
        refine H.out.mono ?_
        rintro e w3 ⟨rfl, rfl⟩
        go_wp2_with fail
        refine H2.out.mono ?_
        rintro e w3 ⟨rfl, rfl⟩
        go_wp2_with fail
        refine HO.out.mono ?_
        rintro e w4 ⟨A, m, c, A', m', c', rfl, hown, hown', hb⟩
        go_wp2
        go_ret3
        exact ⟨A, m, c, A', m', c', rfl, hown, hown', hb⟩
end Go.Proofs.Ythplhlcdlnedfaa

/-
  The laws' own functions: a copy of a number; its digits spoilt.
-/
namespace Go.Proofs.Ythplhlcdlnedfaa
open Go.RowKit MN

theorem run_append_room0 (w : World) (g : Nat) (A : Option Addr) (c : Nat) (ty : TypeId) : (Builtin.append_ #[23, 23] ty #[.slice (some ⟨g, 0, none⟩) 0 0, .slice A 0 c]).run Try.prog w = .ok (.slice (some ⟨g, 0, none⟩) 0 0) w := by
  obtain ⟨i0, hi, hz0, hz1, hz2⟩ := info_parts info24
  cases A <;> simp [Builtin.append_, run_underlying Try.underlying23, sizeOf, typeInfo, hi, Builtin.lenOf, Builtin.firstCells, loadCells, loadCellsFrom, storeCells]

/-- A copy in new memory. -/
def Copied (w : World) (xs : List Nat) (e : Ending) (w' : World) : Prop :=
  ∃ A m c, e = .returned (.slice A m c) ∧ w'.ownsRow w.heap.size 24 1 (.slice A m c) m (vs32 xs) ∧ Below w.heap.size w w'

theorem vs32_at (xs : List Nat) (j : Nat) (u : Value) (hj : (vs32 xs)[j]? = some u) : j < xs.length ∧ u = .int .u32 (dg xs j : Int) := by
  have h := vs32_take xs xs.length xs.length rfl (Nat.le_refl _) j u (by rw [List.take_of_length_le (Nat.le_refl _)]; exact hj)
  exact h

set_option maxRecDepth 100000 in
set_option maxHeartbeats 1000000 in
theorem twin_any (A : Option Addr) (n c : Nat) (xs : List Nat) (w : World) (h : Arg w A n c xs) (hn : n * 4 ≤ 140737488351232) : Calls Try.prog 41 #[.slice A n c] w (Copied w xs) := by
  obtain ⟨i0, hi, hz0, hz1, hz2⟩ := info_parts info24
  have hlen := h.rd.len
  have hle := h.rd.le
  have hcap := h.rd.cap
  unfold maxLen at hcap
  have hb0 := below_alloc w (.cells #[] 24)
  have ho0 : (w.alloc (.cells #[] 24)).ownsRow w.heap.size 24 1 (.slice (some ⟨w.heap.size, 0, none⟩) 0 0) 0 [] :=
    ⟨rfl, .inr ⟨w.heap.size, 0, #[], rfl, Nat.le_refl _, heap_alloc_new w _, Nat.le_refl _, by unfold maxLen; omega, rfl, rfl⟩⟩
  rcases Nat.eq_zero_or_pos n with rfl | hp
  · have hx := List.eq_nil_of_length_eq_zero hlen
    subst hx
    have hap := fun ty => run_append_room0 (w.alloc (.cells #[] 24)) w.heap.size A c ty
    have HO := Lib.hid ho0
    clear ho0 h hlen
    go_enter Try.func41, Try.ntmps41
    go_wp2_with (at_builtin; refine Lib.wpList_append_run _ rfl _ _ _ _ rfl _ _ rfl rfl _ _ (hap _) ?_)
    go_ret
    exact ⟨_, 0, 0, rfl, HO.out, hb0⟩
  · obtain ⟨b, off, rfl, hc⟩ := h.rd.at_ hp
    have HLEN := Lib.hid hlen
    have SIDE := Lib.hid (show ∀ j u, (vs32 xs)[j]? = some u → (w.alloc (.cells #[] 24)).cell? ((⟨b, off, none⟩ : Addr).add j) = some u from fun j u hj => by
      obtain ⟨h1, h2⟩ := vs32_at xs j u hj
      rw [hlen] at h1
      have e1 : (⟨b, off, none⟩ : Addr).add j = ⟨b, off + j, none⟩ := by cases j <;> simp [Addr.add]
      rw [h2, e1, hb0.cell (World.block_lt_of_cell? w _ (hc j h1))]; exact hc j h1)
    have HVL := Lib.hid (show (vs32 xs).length = n * 1 by simp [vs32, hlen])
    have H1C := Lib.hid (show ∀ u ∈ vs32 xs, u.oneCell' = true by
      intro u hu; simp only [vs32, List.mem_map] at hu; obtain ⟨d, _, rfl⟩ := hu; rfl)
    have HO := Lib.hid ho0
    clear ho0 h hlen hc
    go_enter Try.func41, Try.ntmps41
    go_wp2_with (at_builtin; refine wpList_append_own _ rfl _ _ 23 rfl w.heap.size 24 i0 _ 1 4 Try.underlying23 hi hz0 hz1 hz2 rfl (by omega) _ _ _ rfl HO.out ⟨b, off, none⟩ n c _ rfl HVL.out SIDE.out H1C.out (by unfold maxLen; omega) (by omega) (by simp) ?_; intro v1 w2 hown2 hg2 _)
    rw [Nat.zero_add, List.nil_append] at hown2
    obtain ⟨A', c', rfl, _⟩ := own_form hown2
    go_ret
    exact ⟨A', n, c', rfl, hown2, hb0.grown hg2 hb0.size (fun g hg => (HO.out.lt g hg).1)⟩

/-- A digit is stored somewhere: a row of digits is one still. -/
theorem own_poke {B n c g k X : Nat} {A : Option Addr} {zs : List Nat} {w : World} (h : w.ownsRow B 24 1 (.slice A n c) n (vs32 zs)) (hl : Low 4294967296 zs) (hX : X < 4294967296) :
    ∃ zs', Low 4294967296 zs' ∧ (w.setCell ⟨g, k, none⟩ (.int .u32 (X : Int))).ownsRow B 24 1 (.slice A n c) n (vs32 zs') := by
  rcases h.2 with ⟨hv, h0⟩ | ⟨g', cap, cur, hv, hbg, hh, r⟩
  · exact ⟨zs, hl, h.1, .inl ⟨hv, h0⟩⟩
  · by_cases hg : g = g'
    · subst hg
      injection hv with hv1 hv2 hv3
      subst hv1
      refine ⟨zs.set k X, low_set hl k X hX, ?_⟩
      have := (h.stored k (.int .u32 (X : Int))).1
      unfold vs32 at this ⊢
      rw [List.map_set]; exact this
    · refine ⟨zs, hl, h.1, .inr ⟨g', cap, cur, hv, hbg, ?_, r⟩⟩
      have hs := (h.lt g' (by rw [hv]; rfl)).2
      rw [(grown_set (World.grownBy.refl w _) : w.grownBy (w.setCell ⟨g, k, none⟩ (.int .u32 (X : Int))) (some g)).block g' hs (fun e => by injection e with e; exact hg e.symm)]
      exact hh

/-- Every row of digits is one still. -/
def Rows32 (B : Nat) (w w' : World) : Prop := ∀ A n c zs, w.ownsRow B 24 1 (.slice A n c) n (vs32 zs) → Low 4294967296 zs → ∃ zs', Low 4294967296 zs' ∧ w'.ownsRow B 24 1 (.slice A n c) n (vs32 zs')

set_option maxRecDepth 100000 in
set_option maxHeartbeats 1000000 in
theorem spoil_any (A : Option Addr) (m c : Nat) (xs : List Nat) (base : Nat) (w : World) (h : w.ownsRow base 24 1 (.slice A m c) m (vs32 xs)) (hl : Low 4294967296 xs) :
    Calls Try.prog 47 #[.slice A m c] w fun e w' => e = .returned (.tuple #[]) ∧ Rows32 base w w' ∧ Below base w w' := by
  have hcap : c ≤ maxLen := (Rd.of_own h).cap
  have hle : m ≤ c := (Rd.of_own h).le
  unfold maxLen at hcap
  go_enter Try.func47, Try.ntmps47
  go_wp2
  go_loopw [2] (fun i wr => ∃ (k : Nat) (ys : List Nat), k ≤ m ∧ i = .int .i64 k ∧ wr.ownsRow base 24 1 (.slice A m c) m (vs32 ys) ∧ Low 4294967296 ys ∧ Below base w wr ∧ Rows32 base w wr) (fun i _ => m - (intOf i).toNat)
  case atStart => exact ⟨0, xs, Nat.zero_le _, rfl, h, hl, Below.refl _ _, fun A n c zs h k => ⟨zs, k, h⟩⟩
  case round =>
    clear h
    obtain ⟨k, ys, hk, rfl, ho, hly, hb, hR⟩ := hrel
    by_cases hlt : k < m
    · have hlen := ho.1
      obtain ⟨g, rfl, hbg⟩ : ∃ g, A = some ⟨g, 0, none⟩ ∧ base ≤ g := by
        rcases ho.2 with ⟨_, h0⟩ | ⟨g, cap, cur, hv, hbg, _⟩
        · omega
        · injection hv with hv1 hv2 hv3
          exact ⟨g, hv1, hbg⟩
      have hcell := (Rd.of_own ho).at_ (by omega)
      obtain ⟨b, off, e, hc⟩ := hcell
      injection e with e
      injection e with e1 e2
      subst e1 e2
      have g0 := hc k hlt
      rw [Nat.zero_add] at g0
      have r0 := ho.frozenAt k
      obtain ⟨D, hD⟩ : ∃ D, D = dg ys k := ⟨_, rfl⟩
      have hDl : D < 4294967296 := by rw [hD]; exact low_dg hly (by omega) k
      rw [← hD] at g0
      have hxl : D ^^^ 1 < 4294967296 := Nat.xor_lt_two_pow (n := 32) hDl (by omega)
      obtain ⟨X, hX⟩ : ∃ X, X = D ^^^ 1 := ⟨_, rfl⟩
      have hxor : bits BinOp.xor IntKind.u32 (D : Int) 1 = (X : Int) := by rw [hX]; exact u32_xor_nat D 1 hDl (by omega)
      rw [← hX] at hxl
      have ho' : (wr.setCell ⟨g, k, none⟩ (.int .u32 (X : Int))).ownsRow base 24 1 (.slice (some ⟨g, 0, none⟩) m c) m (vs32 (ys.set k X)) := by
        have := (ho.stored k (.int .u32 (X : Int))).1
        unfold vs32 at this ⊢
        rw [List.map_set]; exact this
      have hb' : Below base w (wr.setCell ⟨g, k, none⟩ (.int .u32 (X : Int))) := hb.setCell (by exact hbg) _
      have hly' := low_set hly k X hxl
      have hR' : Rows32 base w (wr.setCell ⟨g, k, none⟩ (.int .u32 (X : Int))) := fun A n c zs h k' => by
        obtain ⟨zs1, h1, h2⟩ := hR A n c zs h k'
        exact own_poke h2 h1 hxl
      clear hX hD hc ho hb hly hlen hR
      go_wp2
      go_roundw
      case rel => exact ⟨k + 1, _, by omega, by go_num, ho', hly', hb', hR'⟩
      case measure => simp [intOf]; omega
    · obtain rfl : k = m := by omega
      go_wp2
      go_end0
      exact ⟨rfl, hR, hb⟩
end Go.Proofs.Ythplhlcdlnedfaa

/-
  A slice of digits opened, with its length as the datum's.
-/
namespace Go.Proofs.Ythplhlcdlnedfaa
open Go.ChangeShapes Go.WideShapes Go.ChangeAt Go.RowKit MN
set_option linter.unusedVariables false

theorem bytes24 : Try.prog.bytesOf 24 = 4 := by kernel_rfl
set_option maxRecDepth 100000 in
theorem open_row {H : Type} {enc : TypeId × Value → H} {W : World} {base : Nat} {v : Value} {d : DataW H} {p : List MemPlace}
    (hok : Value.okWide Try.prog W .any base 23 v) (h : DataW.Trod enc Try.prog W 0 (fun _ => true) true 23 v d p) : ∃ A n c xs, v = .slice A n c ∧ Arg W A n c xs ∧ (n = 0 ∨ ∃ elems spare, d = .slice elems spare ∧ elems.length = n) := by
  obtain ⟨A, n, c, rfl⟩ := okWide_slice Try.underlying23 hok
  obtain ⟨fuel, hf⟩ := h
  rcases open_ints Try.underlying23 Try.underlying24 (by kernel_rfl) hf with ⟨hcs, hx⟩ | ⟨x, l, c', zs, hcs, _, hl, hm, hz, hx, hcell, hwz⟩
  · simp [Value.cells] at hcs
    obtain ⟨rfl, rfl, rfl⟩ := hcs
    obtain ⟨xs, ax⟩ := arg_of (w := W) (zs := []) (.inl ⟨rfl, rfl, rfl, rfl⟩)
    exact ⟨none, 0, 0, xs, rfl, ax, .inl rfl⟩
  · simp [Value.cells] at hcs
    obtain ⟨rfl, rfl, rfl⟩ := hcs
    have hzl : n ≤ zs.length := by rw [hz]; simp; omega
    simp only [Prod.mk.injEq] at hx
    obtain ⟨rfl, rfl⟩ := hx
    obtain ⟨xs, ax⟩ := arg_of (w := W) (.inr ⟨x, rfl, hl, hm, by simpa using hz, hcell, hwz⟩)
    exact ⟨some x, n, c, xs, rfl, ax, .inr ⟨_, _, rfl, by simp [lits]; omega⟩⟩
end Go.Proofs.Ythplhlcdlnedfaa
