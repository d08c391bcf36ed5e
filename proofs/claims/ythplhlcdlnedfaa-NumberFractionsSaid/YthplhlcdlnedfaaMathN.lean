/-
  Plain arithmetic of layer 1, part N: natural numbers by their digits to a base, the lowest first. It imports nothing of the program.
-/
namespace Go.Proofs.Ythplhlcdlnedfaa.MN

/-- The digit with an index, 0 beyond the end. -/
def dg (xs : List Nat) (i : Nat) : Nat := xs.getD i 0

/-- The number of some digits. -/
def val (B : Nat) : List Nat → Nat
  | [] => 0
  | d :: ds => d + B * val B ds

def digF (B : Nat) : Nat → Nat → List Nat
  | 0, _ => []
  | f + 1, n => if n = 0 then [] else n % B :: digF B f (n / B)

/-- The digits of a number, without zeros at the end. -/
def digs (B n : Nat) : List Nat := digF B n n

/-- All digits are below the base. -/
def Low (B : Nat) (xs : List Nat) : Prop := ∀ d ∈ xs, d < B

/-- No zero at the end. -/
def Top (xs : List Nat) : Prop := xs = [] ∨ dg xs (xs.length - 1) ≠ 0

theorem dg_nil (i : Nat) : dg [] i = 0 := by simp [dg]
theorem dg_zero (x : Nat) (xs : List Nat) : dg (x :: xs) 0 = x := rfl
theorem dg_succ (x : Nat) (xs : List Nat) (i : Nat) : dg (x :: xs) (i + 1) = dg xs i := rfl
theorem dg_past (xs : List Nat) (i : Nat) (h : xs.length ≤ i) : dg xs i = 0 := by
  simp [dg, List.getD_eq_getElem?_getD, List.getElem?_eq_none h]
theorem dg_get (xs : List Nat) (i : Nat) (h : i < xs.length) : dg xs i = xs[i] := by
  simp [dg, List.getD_eq_getElem?_getD, List.getElem?_eq_getElem h]
theorem low_dg {B : Nat} {xs : List Nat} (h : Low B xs) (hB : 0 < B) (i : Nat) : dg xs i < B := by
  rcases Nat.lt_or_ge i xs.length with hi | hi
  · rw [dg_get xs i hi]; exact h _ (List.getElem_mem hi)
  · rw [dg_past xs i hi]; exact hB
theorem low_nil (B : Nat) : Low B [] := by simp [Low]
theorem low_cons {B x : Nat} {xs : List Nat} (hx : x < B) (h : Low B xs) : Low B (x :: xs) := by
  intro d hd
  rcases List.mem_cons.1 hd with rfl | hd
  · exact hx
  · exact h d hd
theorem low_append {B : Nat} {xs ys : List Nat} (h : Low B xs) (k : Low B ys) : Low B (xs ++ ys) := by
  intro d hd
  rcases List.mem_append.1 hd with hd | hd
  · exact h d hd
  · exact k d hd
theorem low_take {B : Nat} {xs : List Nat} (h : Low B xs) (k : Nat) : Low B (xs.take k) := fun d hd => h d (List.mem_of_mem_take hd)
theorem low_drop {B : Nat} {xs : List Nat} (h : Low B xs) (k : Nat) : Low B (xs.drop k) := fun d hd => h d (List.mem_of_mem_drop hd)

theorem val_append (B : Nat) (xs ys : List Nat) : val B (xs ++ ys) = val B xs + B ^ xs.length * val B ys := by
  induction xs with
  | nil => simp [val]
  | cons x xs ih =>
    simp only [List.cons_append, val, ih, List.length_cons, Nat.pow_succ, Nat.mul_add]
    rw [Nat.mul_comm (B ^ xs.length) B, Nat.mul_assoc]; omega

theorem val_snoc (B : Nat) (xs : List Nat) (d : Nat) : val B (xs ++ [d]) = val B xs + B ^ xs.length * d := by
  rw [val_append]; simp [val]

theorem val_lt {B : Nat} (xs : List Nat) (h : Low B xs) : val B xs < B ^ xs.length := by
  induction xs with
  | nil => simp [val]
  | cons x xs ih =>
    have hx : x < B := h x (by simp)
    have h2 := ih (fun d hd => h d (by simp [hd]))
    have h3 : B * val B xs + B ≤ B * B ^ xs.length := by
      have := Nat.mul_le_mul_left B (show val B xs + 1 ≤ B ^ xs.length from h2)
      rw [Nat.mul_add] at this; omega
    simp only [val, List.length_cons, Nat.pow_succ]
    rw [Nat.mul_comm (B ^ xs.length) B]; omega

theorem digF_val (B : Nat) (hB : 2 ≤ B) (f n : Nat) (h : n ≤ f) : val B (digF B f n) = n := by
  induction f generalizing n with
  | zero => have : n = 0 := by omega
            subst this; rfl
  | succ f ih =>
    unfold digF
    split
    · subst n; rfl
    · rename_i hn
      have h1 : n / B < n := Nat.div_lt_self (by omega) hB
      simp only [val]
      rw [ih (n / B) (by omega)]
      have := Nat.div_add_mod n B
      omega

theorem digs_val (B n : Nat) (hB : 2 ≤ B) : val B (digs B n) = n := digF_val B hB n n (Nat.le_refl _)

theorem digF_low (B : Nat) (hB : 2 ≤ B) (f n : Nat) : Low B (digF B f n) := by
  induction f generalizing n with
  | zero => exact low_nil B
  | succ f ih =>
    unfold digF
    split
    · exact low_nil B
    · exact low_cons (Nat.mod_lt _ (by omega)) (ih _)

theorem digs_low (B n : Nat) (hB : 2 ≤ B) : Low B (digs B n) := digF_low B hB n n

theorem top_cons {x : Nat} {xs : List Nat} (h : Top xs) (hx : xs = [] → x ≠ 0) : Top (x :: xs) := by
  right
  rcases xs with _ | ⟨y, ys⟩
  · exact hx rfl
  · rcases h with h | h
    · cases h
    · simp only [List.length_cons, Nat.add_sub_cancel] at h ⊢
      rw [dg_succ]; exact h

theorem digF_top (B : Nat) (hB : 2 ≤ B) (f n : Nat) (h : n ≤ f) : Top (digF B f n) := by
  induction f generalizing n with
  | zero => exact .inl rfl
  | succ f ih =>
    unfold digF
    split
    · exact .inl rfl
    · rename_i hn
      have h1 : n / B < n := Nat.div_lt_self (by omega) hB
      refine top_cons (ih (n / B) (by omega)) (fun hnil => ?_)
      have h2 := digF_val B hB f (n / B) (by omega)
      rw [hnil] at h2
      have h3 : 0 = n / B := h2
      have := Nat.div_add_mod n B
      rw [← h3] at this; omega

theorem digs_top (B n : Nat) (hB : 2 ≤ B) : Top (digs B n) := digF_top B hB n n (Nat.le_refl _)

theorem top_tail {x : Nat} {xs : List Nat} (h : Top (x :: xs)) : Top xs := by
  rcases xs with _ | ⟨y, ys⟩
  · exact .inl rfl
  · right
    rcases h with h | h
    · cases h
    · simp only [List.length_cons, Nat.add_sub_cancel] at h ⊢
      rw [dg_succ] at h; exact h

theorem val_pos_of_top {B : Nat} (hB : 2 ≤ B) (xs : List Nat) (h : Top xs) (hne : xs ≠ []) : 0 < val B xs := by
  induction xs with
  | nil => exact absurd rfl hne
  | cons x xs ih =>
    simp only [val]
    rcases xs with _ | ⟨y, ys⟩
    · rcases h with h | h
      · cases h
      · have : x ≠ 0 := h
        simp [val]; omega
    · have := ih (top_tail h) (by simp)
      have h2 : B * 1 ≤ B * val B (y :: ys) := Nat.mul_le_mul_left B this
      omega

/-- Two numbers without zeros at the end are the same if their values are. -/
theorem val_inj {B : Nat} (hB : 2 ≤ B) : ∀ (xs ys : List Nat), Low B xs → Low B ys → Top xs → Top ys → val B xs = val B ys → xs = ys
  | [], [], _, _, _, _, _ => rfl
  | [], y :: ys, _, _, _, h4, h => by
    have := val_pos_of_top hB (y :: ys) h4 (by simp)
    simp only [val] at h this; omega
  | x :: xs, [], _, _, h3, _, h => by
    have := val_pos_of_top hB (x :: xs) h3 (by simp)
    simp only [val] at h this; omega
  | x :: xs, y :: ys, h1, h2, h3, h4, h => by
    have hx : x < B := h1 x (by simp)
    have hy : y < B := h2 y (by simp)
    simp only [val] at h
    have e1 : x = y := by
      have := congrArg (· % B) h
      simp only [Nat.add_mul_mod_self_left] at this
      rwa [Nat.mod_eq_of_lt hx, Nat.mod_eq_of_lt hy] at this
    subst e1
    have e2 : val B xs = val B ys := Nat.eq_of_mul_eq_mul_left (show 0 < B by omega) (by omega)
    rw [val_inj hB xs ys (fun d hd => h1 d (by simp [hd])) (fun d hd => h2 d (by simp [hd])) (top_tail h3) (top_tail h4) e2]

theorem digs_of {B : Nat} (hB : 2 ≤ B) (xs : List Nat) (h : Low B xs) (k : Top xs) : xs = digs B (val B xs) :=
  val_inj hB _ _ h (digs_low B _ hB) k (digs_top B _ hB) (digs_val B _ hB).symm

theorem val_zeros {B : Nat} (xs : List Nat) (h : ∀ j, dg xs j = 0) : val B xs = 0 := by
  induction xs with
  | nil => rfl
  | cons x xs ih =>
    have h0 : x = 0 := h 0
    have h1 : val B xs = 0 := ih (fun j => h (j + 1))
    simp only [val, h0, h1, Nat.mul_zero, Nat.add_zero]

theorem dg_drop (xs : List Nat) (k j : Nat) : dg (xs.drop k) j = dg xs (k + j) := by
  simp [dg, List.getD_eq_getElem?_getD, List.getElem?_drop]
theorem dg_take (xs : List Nat) (k j : Nat) (h : j < k) : dg (xs.take k) j = dg xs j := by
  simp [dg, List.getD_eq_getElem?_getD, h]

/-- Where trimming stops. -/
theorem trim_end {B : Nat} (hB : 2 ≤ B) (xs : List Nat) (k : Nat) (hk : k ≤ xs.length) (hl : Low B xs) (hz : ∀ j, k ≤ j → dg xs j = 0) (ht : k = 0 ∨ dg xs (k - 1) ≠ 0) :
    xs.take k = digs B (val B xs) := by
  have hlen : (xs.take k).length = k := by simp; omega
  have h1 : Top (xs.take k) := by
    rcases ht with rfl | ht
    · exact .inl (by simp)
    · rcases Nat.eq_zero_or_pos k with rfl | hpos
      · exact .inl (by simp)
      · right
        rw [hlen, dg_take _ _ _ (by omega)]; exact ht
  rw [digs_of hB (xs.take k) (low_take hl k) h1]
  congr 1
  have h2 : val B (xs.drop k) = 0 := val_zeros _ (fun j => by rw [dg_drop]; exact hz _ (by omega))
  have h3 := val_append B (xs.take k) (xs.drop k)
  rw [List.take_append_drop, h2] at h3
  omega

theorem take_succ_dg (xs : List Nat) (k : Nat) (h : k < xs.length) : xs.take (k + 1) = xs.take k ++ [dg xs k] := by
  rw [List.take_succ_eq_append_getElem h, dg_get xs k h]

theorem val_take_succ (B : Nat) (xs : List Nat) (k : Nat) (h : k < xs.length) : val B (xs.take (k + 1)) = val B (xs.take k) + B ^ k * dg xs k := by
  rw [take_succ_dg xs k h, val_snoc, List.length_take, Nat.min_eq_left (Nat.le_of_lt h)]

/-- One column is carried on. -/
theorem carry_step (B : Nat) (ds : List Nat) (more c k V : Nat) (hk : ds.length = k) (h : val B ds + B ^ k * more = V) :
    val B (ds ++ [(more + c) % B]) + B ^ (k + 1) * ((more + c) / B) = V + B ^ k * c := by
  rw [val_snoc, hk, ← h, Nat.pow_succ, Nat.mul_assoc, Nat.add_assoc, ← Nat.mul_add, Nat.add_assoc, ← Nat.mul_add, Nat.add_comm ((more + c) % B), Nat.div_add_mod]

theorem carry_more (B : Nat) (ds : List Nat) (more k V : Nat) (hk : ds.length = k) (h : val B ds + B ^ k * more = V) :
    val B (ds ++ [more % B]) + B ^ (k + 1) * (more / B) = V := by
  have := carry_step B ds more 0 k V hk h
  simpa using this

theorem dg_set (xs : List Nat) (j d i : Nat) (h : j < xs.length) : dg (xs.set j d) i = if i = j then d else dg xs i := by
  simp only [dg, List.getD_eq_getElem?_getD, List.getElem?_set]
  by_cases hij : j = i
  · subst hij; simp [h]
  · rw [if_neg hij, if_neg (fun e => hij e.symm)]

/-- The number as a sum of its first columns. -/
def vsum (B : Nat) (f : Nat → Nat) : Nat → Nat
  | 0 => 0
  | n + 1 => vsum B f n + B ^ n * f n

theorem vsum_congr (B : Nat) (f g : Nat → Nat) (n : Nat) (h : ∀ j, j < n → f j = g j) : vsum B f n = vsum B g n := by
  induction n with
  | zero => rfl
  | succ n ih => simp only [vsum, ih (fun j hj => h j (by omega)), h n (by omega)]

theorem vsum_add (B : Nat) (f g : Nat → Nat) (n : Nat) : vsum B (fun j => f j + g j) n = vsum B f n + vsum B g n := by
  induction n with
  | zero => rfl
  | succ n ih => simp only [vsum, ih, Nat.mul_add]; omega

theorem val_take_vsum (B : Nat) (xs : List Nat) (n : Nat) : val B (xs.take n) = vsum B (dg xs) n := by
  induction n with
  | zero => simp [val, vsum]
  | succ n ih =>
    rcases Nat.lt_or_ge n xs.length with h | h
    · rw [val_take_succ B xs n h, ih]; rfl
    · have e1 : xs.take (n + 1) = xs.take n := by rw [List.take_of_length_le (by omega), List.take_of_length_le h]
      rw [e1, ih, vsum, dg_past xs n h, Nat.mul_zero, Nat.add_zero]

theorem val_vsum (B : Nat) (xs : List Nat) (n : Nat) (h : xs.length ≤ n) : val B xs = vsum B (dg xs) n := by
  rw [← val_take_vsum, List.take_of_length_le h]

theorem val_add_of (B : Nat) (xs ys zs : List Nat) (n : Nat) (h1 : xs.length ≤ n) (h2 : ys.length ≤ n) (h3 : zs.length ≤ n) (h : ∀ j, j < n → dg xs j = dg ys j + dg zs j) : val B xs = val B ys + val B zs := by
  rw [val_vsum B xs n h1, val_vsum B ys n h2, val_vsum B zs n h3, ← vsum_add]
  exact vsum_congr B _ _ n h

theorem dg_replicate (n i : Nat) : dg (List.replicate n 0) i = 0 := by
  simp only [dg, List.getD_eq_getElem?_getD, List.getElem?_replicate]
  split <;> rfl

theorem vsum_lt (B : Nat) (f : Nat → Nat) (n : Nat) (h : ∀ j, j < n → f j < B) : vsum B f n < B ^ n := by
  induction n with
  | zero => simp [vsum]
  | succ n ih =>
    have h1 := ih (fun j hj => h j (by omega))
    have h2 : B ^ n * f n + B ^ n ≤ B ^ n * B := by
      have := Nat.mul_le_mul_left (B ^ n) (show f n + 1 ≤ B from h n (by omega))
      rw [Nat.mul_add] at this; omega
    simp only [vsum, Nat.pow_succ]; omega

theorem vsum_cmp (B : Nat) (f g : Nat → Nat) (i n : Nat) (hi : i < n) (hf : ∀ j, f j < B) (h : f i < g i) (he : ∀ j, i < j → j < n → f j = g j) : vsum B f n < vsum B g n := by
  induction n with
  | zero => omega
  | succ n ih =>
    simp only [vsum]
    rcases Nat.lt_or_ge i n with h1 | h1
    · have := ih h1 (fun j a b => he j a (by omega))
      rw [he n h1 (by omega)]; omega
    · obtain rfl : i = n := by omega
      have h2 := vsum_lt B f i (fun j _ => hf j)
      have h3 : B ^ i * f i + B ^ i ≤ B ^ i * g i := by
        have := Nat.mul_le_mul_left (B ^ i) (show f i + 1 ≤ g i from h)
        rw [Nat.mul_add] at this; omega
      omega

theorem val_cmp {B : Nat} (xs ys : List Nat) (i : Nat) (hx : Low B xs) (hB : 0 < B) (hlen : xs.length = ys.length) (hi : i < ys.length) (h : dg xs i < dg ys i) (he : ∀ j, i < j → dg xs j = dg ys j) : val B xs < val B ys := by
  rw [val_vsum B xs ys.length (by omega), val_vsum B ys ys.length (Nat.le_refl _)]
  exact vsum_cmp B _ _ i _ hi (fun j => low_dg hx hB j) h (fun j a _ => he j a)

theorem val_same {B : Nat} (xs ys : List Nat) (hlen : xs.length = ys.length) (he : ∀ j, dg xs j = dg ys j) : val B xs = val B ys := by
  rw [val_vsum B xs ys.length (by omega), val_vsum B ys ys.length (Nat.le_refl _)]
  exact vsum_congr B _ _ _ (fun j _ => he j)

theorem val_ge {B : Nat} (xs : List Nat) (h : Top xs) (hne : xs ≠ []) : B ^ (xs.length - 1) ≤ val B xs := by
  have hl : 0 < xs.length := List.length_pos_iff.2 hne
  have h1 := val_take_succ B xs (xs.length - 1) (by omega)
  rw [show xs.length - 1 + 1 = xs.length by omega, List.take_of_length_le (Nat.le_refl _)] at h1
  have h2 : dg xs (xs.length - 1) ≠ 0 := by
    rcases h with h | h
    · exact absurd h hne
    · exact h
  have h3 : B ^ (xs.length - 1) * 1 ≤ B ^ (xs.length - 1) * dg xs (xs.length - 1) := Nat.mul_le_mul_left _ (by omega)
  omega

/-- A shorter number is the smaller one. -/
theorem val_short {B : Nat} (hB : 2 ≤ B) (xs ys : List Nat) (hx : Low B xs) (hy : Top ys) (h : xs.length < ys.length) : val B xs < val B ys := by
  have h1 := val_lt xs hx
  have h2 := val_ge (B := B) ys hy (by intro e; subst e; simp at h)
  have h3 : B ^ xs.length ≤ B ^ (ys.length - 1) := Nat.pow_le_pow_right (by omega) (by omega)
  omega

/-- The order of two numbers: -1, 0 or 1. -/
def ordv (a b : Nat) : Int := if a < b then -1 else if b < a then 1 else 0
theorem ordv_lt {a b : Nat} (h : a < b) : ordv a b = -1 := by simp [ordv, h]
theorem ordv_gt {a b : Nat} (h : b < a) : ordv a b = 1 := by simp [ordv, h, Nat.lt_asymm h]
theorem ordv_eq {a b : Nat} (h : a = b) : ordv a b = 0 := by subst h; simp [ordv]

/-- One digit of a difference. -/
theorem sub_step (B : Nat) (f f' g h : Nat → Nat) (k bo bo' e : Nat) (hk : vsum B f k + vsum B g k = vsum B h k + B ^ k * bo) (hd : h k + B * bo' = e + g k + bo) (hf : ∀ j, j < k → f' j = f j) (he : f' k = e) :
    vsum B f' (k + 1) + vsum B g (k + 1) = vsum B h (k + 1) + B ^ (k + 1) * bo' := by
  simp only [vsum, he, vsum_congr B f' f k hf, Nat.pow_succ]
  have h1 : B ^ k * h k + B ^ k * (B * bo') = B ^ k * e + B ^ k * g k + B ^ k * bo := by
    rw [← Nat.mul_add, hd, Nat.mul_add, Nat.mul_add]
  rw [Nat.mul_assoc (B ^ k) B bo']
  omega

theorem sub_end {B : Nat} (xs ys zs : List Nat) (n bo : Nat) (hx : Low B xs) (h1 : xs.length = n) (h2 : ys.length = n) (h3 : zs.length ≤ n) (hle : val B zs ≤ val B ys) (h : vsum B (dg xs) n + vsum B (dg zs) n = vsum B (dg ys) n + B ^ n * bo) : val B xs = val B ys - val B zs := by
  rw [← val_vsum B xs n (by omega), ← val_vsum B ys n (by omega), ← val_vsum B zs n h3] at h
  have hl := val_lt xs hx
  rw [h1] at hl
  rcases Nat.eq_zero_or_pos bo with rfl | hb
  · rw [Nat.mul_zero] at h; omega
  · have : B ^ n * 1 ≤ B ^ n * bo := Nat.mul_le_mul_left _ hb
    omega

theorem low_set {B : Nat} {xs : List Nat} (h : Low B xs) (j d : Nat) (hd : d < B) : Low B (xs.set j d) := by
  intro x hx
  rcases List.mem_or_eq_of_mem_set hx with hx | rfl
  · exact h x hx
  · exact hd

end Go.Proofs.Ythplhlcdlnedfaa.MN
