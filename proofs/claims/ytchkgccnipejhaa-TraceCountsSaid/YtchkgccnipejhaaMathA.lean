/-
  Plain arithmetic of Speck128/128: rotations, rounds, round keys, encryption and decryption on pairs of words; that they undo each other.
-/
namespace Go.Proofs.Ytchkgccnipejhaa.L2.SP

/-- 2^64. -/
abbrev M : Nat := 18446744073709551616

def rr8 (x : Nat) : Nat := x % 256 * 72057594037927936 + x / 256
def rl8 (x : Nat) : Nat := x % 72057594037927936 * 256 + x / 72057594037927936
def rl3 (x : Nat) : Nat := x % 2305843009213693952 * 8 + x / 2305843009213693952
def rr3 (x : Nat) : Nat := x % 8 * 2305843009213693952 + x / 8

theorem rr8_lt {x : Nat} (h : x < M) : rr8 x < M := by unfold rr8 M at *; omega
theorem rl8_lt {x : Nat} (h : x < M) : rl8 x < M := by unfold rl8 M at *; omega
theorem rl3_lt {x : Nat} (h : x < M) : rl3 x < M := by unfold rl3 M at *; omega
theorem rr3_lt {x : Nat} (h : x < M) : rr3 x < M := by unfold rr3 M at *; omega
theorem rr8_rl8 {x : Nat} (h : x < M) : rr8 (rl8 x) = x := by unfold rl8 rr8 M at *; omega
theorem rl8_rr8 {x : Nat} (h : x < M) : rl8 (rr8 x) = x := by unfold rl8 rr8 M at *; omega
theorem rr3_rl3 {x : Nat} (h : x < M) : rr3 (rl3 x) = x := by unfold rl3 rr3 M at *; omega
theorem rl3_rr3 {x : Nat} (h : x < M) : rl3 (rr3 x) = x := by unfold rl3 rr3 M at *; omega

theorem xor_lt {x y : Nat} (hx : x < M) (hy : y < M) : x ^^^ y < M := Nat.xor_lt_two_pow (n := 64) hx hy
theorem xor_back (x y : Nat) : x ^^^ y ^^^ y = x := by rw [Nat.xor_assoc, Nat.xor_self, Nat.xor_zero]
theorem xor_inj {x y k : Nat} (h : x ^^^ k = y ^^^ k) : x = y := by rw [← xor_back x k, h, xor_back]

/-- The first word after a round, and the second. -/
def rdX (x y k : Nat) : Nat := (rr8 x + y) % M ^^^ k
def rdY (x y k : Nat) : Nat := rl3 y ^^^ rdX x y k
/-- The words ahead of a round. -/
def unY (x y : Nat) : Nat := rr3 (y ^^^ x)
def unX (x y k : Nat) : Nat := rl8 (((x ^^^ k) + M - unY x y) % M)

theorem rdX_lt {x y k : Nat} (hk : k < M) : rdX x y k < M := xor_lt (Nat.mod_lt _ (by decide)) hk
theorem rdY_lt {x y k : Nat} (hy : y < M) (hk : k < M) : rdY x y k < M := xor_lt (rl3_lt hy) (rdX_lt hk)
theorem unY_lt {x y : Nat} (hx : x < M) (hy : y < M) : unY x y < M := rr3_lt (xor_lt hy hx)
theorem unX_lt {x y k : Nat} : unX x y k < M := rl8_lt (Nat.mod_lt _ (by decide))

theorem unY_rd {x y k : Nat} (hy : y < M) : unY (rdX x y k) (rdY x y k) = y := by
  unfold unY rdY; rw [xor_back, rr3_rl3 hy]
theorem unX_rd {x y k : Nat} (hx : x < M) (hy : y < M) : unX (rdX x y k) (rdY x y k) k = x := by
  unfold unX
  rw [unY_rd hy]
  unfold rdX
  rw [xor_back]
  have h1 : ((rr8 x + y) % M + M - y) % M = rr8 x := by
    have := rr8_lt hx
    unfold M at *; omega
  rw [h1, rl8_rr8 hx]
theorem rdX_un {x y k : Nat} (hx : x < M) (hy : y < M) (hk : k < M) : rdX (unX x y k) (unY x y) k = x := by
  unfold rdX unX
  have h2 := unY_lt hx hy
  have h3 := xor_lt hx hk
  rw [rr8_rl8 (Nat.mod_lt _ (by decide))]
  have h1 : (((x ^^^ k) + M - unY x y) % M + unY x y) % M = x ^^^ k := by unfold M at *; omega
  rw [h1, xor_back]
theorem rdY_un {x y k : Nat} (hx : x < M) (hy : y < M) (hk : k < M) : rdY (unX x y k) (unY x y) k = y := by
  unfold rdY
  rw [rdX_un hx hy hk]
  unfold unY
  rw [rl3_rr3 (xor_lt hy hx), xor_back]

def rd (s : Nat × Nat) (k : Nat) : Nat × Nat := (rdX s.1 s.2 k, rdY s.1 s.2 k)
def un (s : Nat × Nat) (k : Nat) : Nat × Nat := (unX s.1 s.2 k, unY s.1 s.2)
def Ok (s : Nat × Nat) : Prop := s.1 < M ∧ s.2 < M

theorem rd_ok {s : Nat × Nat} {k : Nat} (h : Ok s) (hk : k < M) : Ok (rd s k) := ⟨rdX_lt hk, rdY_lt h.2 hk⟩
theorem un_ok {s : Nat × Nat} {k : Nat} (h : Ok s) : Ok (un s k) := ⟨unX_lt, unY_lt h.1 h.2⟩
theorem un_rd {s : Nat × Nat} {k : Nat} (h : Ok s) : un (rd s k) k = s := by
  show (unX (rdX s.1 s.2 k) (rdY s.1 s.2 k) k, unY (rdX s.1 s.2 k) (rdY s.1 s.2 k)) = s
  rw [unX_rd h.1 h.2, unY_rd h.2]
theorem rd_un {s : Nat × Nat} {k : Nat} (h : Ok s) (hk : k < M) : rd (un s k) k = s := by
  show (rdX (unX s.1 s.2 k) (unY s.1 s.2) k, rdY (unX s.1 s.2 k) (unY s.1 s.2) k) = s
  rw [rdX_un h.1 h.2 hk, rdY_un h.1 h.2 hk]

/-- The words from which round key i comes. -/
def kst (X Y : Nat) : Nat → Nat × Nat
  | 0 => (X, Y)
  | i + 1 => rd (kst X Y i) i
/-- Round key i. -/
def rk (X Y i : Nat) : Nat := (kst X Y i).2
/-- The words after i rounds. -/
def est (X Y A B : Nat) : Nat → Nat × Nat
  | 0 => (A, B)
  | i + 1 => rd (est X Y A B i) (rk X Y i)
/-- The words after j rounds undone, from round 31 on. -/
def dst (X Y A B : Nat) : Nat → Nat × Nat
  | 0 => (A, B)
  | j + 1 => un (dst X Y A B j) (rk X Y (31 - j))

theorem kst_ok {X Y : Nat} (hX : X < M) (hY : Y < M) : ∀ i, i ≤ 32 → Ok (kst X Y i)
  | 0, _ => ⟨hX, hY⟩
  | i + 1, h => rd_ok (kst_ok hX hY i (by omega)) (by unfold M; omega)
theorem rk_lt {X Y : Nat} (hX : X < M) (hY : Y < M) (i : Nat) (h : i ≤ 32) : rk X Y i < M := (kst_ok hX hY i h).2
theorem est_ok {X Y A B : Nat} (hX : X < M) (hY : Y < M) (hA : A < M) (hB : B < M) : ∀ i, i ≤ 32 → Ok (est X Y A B i)
  | 0, _ => ⟨hA, hB⟩
  | i + 1, h => rd_ok (est_ok hX hY hA hB i (by omega)) (rk_lt hX hY i (by omega))
theorem dst_ok {X Y A B : Nat} (hA : A < M) (hB : B < M) : ∀ i, Ok (dst X Y A B i)
  | 0 => ⟨hA, hB⟩
  | i + 1 => un_ok (dst_ok hA hB i)

/-- A block, encrypted. -/
def enc (X Y A B : Nat) : Nat × Nat := est X Y A B 32
def dec (X Y A B : Nat) : Nat × Nat := dst X Y A B 32

theorem enc_ok {X Y A B : Nat} (hX : X < M) (hY : Y < M) (hA : A < M) (hB : B < M) : Ok (enc X Y A B) := est_ok hX hY hA hB 32 (Nat.le_refl _)
theorem dec_ok {X Y A B : Nat} (hA : A < M) (hB : B < M) : Ok (dec X Y A B) := dst_ok hA hB 32

theorem dst_est {X Y A B : Nat} (hX : X < M) (hY : Y < M) (hA : A < M) (hB : B < M) : ∀ j, j ≤ 32 →
    dst X Y (est X Y A B 32).1 (est X Y A B 32).2 j = est X Y A B (32 - j)
  | 0, _ => rfl
  | j + 1, h => by
    rw [dst, dst_est hX hY hA hB j (by omega), show 32 - j = (31 - j) + 1 by omega, est, un_rd (est_ok hX hY hA hB _ (by omega))]
    rw [show 32 - (j + 1) = 31 - j by omega]
theorem est_dst {X Y A B : Nat} (hX : X < M) (hY : Y < M) (hA : A < M) (hB : B < M) : ∀ i, i ≤ 32 →
    est X Y (dst X Y A B 32).1 (dst X Y A B 32).2 i = dst X Y A B (32 - i)
  | 0, _ => rfl
  | i + 1, h => by
    rw [est, est_dst hX hY hA hB i (by omega), show 32 - i = (31 - i) + 1 by omega, dst, show 31 - (31 - i) = i by omega,
      rd_un (dst_ok hA hB _) (rk_lt hX hY i (by omega)), show 32 - (i + 1) = 31 - i by omega]

theorem dec_enc {X Y A B : Nat} (hX : X < M) (hY : Y < M) (hA : A < M) (hB : B < M) : dec X Y (enc X Y A B).1 (enc X Y A B).2 = (A, B) :=
  dst_est hX hY hA hB 32 (Nat.le_refl _)
theorem enc_dec {X Y A B : Nat} (hX : X < M) (hY : Y < M) (hA : A < M) (hB : B < M) : enc X Y (dec X Y A B).1 (dec X Y A B).2 = (A, B) :=
  est_dst hX hY hA hB 32 (Nat.le_refl _)
theorem enc_inj {X Y A B A' B' : Nat} (hX : X < M) (hY : Y < M) (hA : A < M) (hB : B < M) (hA' : A' < M) (hB' : B' < M)
    (h : enc X Y A B = enc X Y A' B') : A = A' ∧ B = B' := by
  have h1 := dec_enc hX hY hA hB
  rw [h, dec_enc hX hY hA' hB'] at h1
  exact ⟨(congrArg Prod.fst h1).symm, (congrArg Prod.snd h1).symm⟩

/-- Byte i of the block of two words. -/
def kby (X Y i : Nat) : Nat := if i < 8 then X / 256 ^ (7 - i) % 256 else Y / 256 ^ (15 - i) % 256
theorem kby_lt (X Y i : Nat) : kby X Y i < 256 := by unfold kby; split <;> exact Nat.mod_lt _ (by decide)
theorem kby_hi (X Y i : Nat) (h : i < 8) : kby X Y i = X / 256 ^ (7 - i) % 256 := if_pos h
theorem kby_lo (X Y i : Nat) (h : i < 8) : kby X Y (8 + i) = Y / 256 ^ (7 - i) % 256 := by
  unfold kby; rw [if_neg (by omega), show 15 - (8 + i) = 7 - i by omega]

/-- One byte more of a word. -/
theorem word_step (X i : Nat) (h : i < 8) : X / 256 ^ (8 - i) * 256 + X / 256 ^ (7 - i) % 256 = X / 256 ^ (8 - (i + 1)) := by
  rw [show 8 - (i + 1) = 7 - i by omega, show 8 - i = (7 - i) + 1 by omega, Nat.pow_succ, ← Nat.div_div_eq_div_mul]
  omega
theorem word_lt {X : Nat} (h : X < M) : X / 256 ^ 8 = 0 := Nat.div_eq_of_lt h
theorem word_small (X i : Nat) (hX : X < M) (h : i < 8) : X / 256 ^ (8 - i) < 72057594037927936 := by
  have h1 : X / 256 ^ (8 - i) ≤ X / 256 ^ 1 := Nat.div_le_div_left (Nat.pow_le_pow_right (by decide) (by omega)) (by decide)
  rw [Nat.pow_one] at h1
  unfold M at hX; omega
theorem word_ext {X X' : Nat} (hX : X < M) (hX' : X' < M) (h : ∀ i, i < 8 → X / 256 ^ (7 - i) % 256 = X' / 256 ^ (7 - i) % 256) : X = X' := by
  have key : ∀ k, k ≤ 8 → X / 256 ^ (8 - k) = X' / 256 ^ (8 - k) := by
    intro k
    induction k with
    | zero => intro _; rw [Nat.sub_zero, word_lt hX, word_lt hX']
    | succ k ih => intro hk; rw [← word_step X k (by omega), ← word_step X' k (by omega), ih (by omega), h k (by omega)]
  have := key 8 (Nat.le_refl _)
  simpa using this
theorem kby_ext {X Y X' Y' : Nat} (hX : X < M) (hY : Y < M) (hX' : X' < M) (hY' : Y' < M) (h : ∀ i, i < 16 → kby X Y i = kby X' Y' i) : X = X' ∧ Y = Y' := by
  refine ⟨word_ext hX hX' fun i hi => ?_, word_ext hY hY' fun i hi => ?_⟩
  · have := h i (by omega); rwa [kby_hi _ _ _ hi, kby_hi _ _ _ hi] at this
  · have := h (8 + i) (by omega); rwa [kby_lo _ _ _ hi, kby_lo _ _ _ hi] at this

end Go.Proofs.Ytchkgccnipejhaa.L2.SP
