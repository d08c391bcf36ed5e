/-
  Plain arithmetic of the texts of keys: digits, values, words out of bytes.
-/
import Derived.Test.YtchkgccnipejhaaMathA
namespace Go.Proofs.Ytchkgccnipejhaa.L2.SP

/-- The word of the first k bytes. -/
def wd (f : Nat → Nat) : Nat → Nat
  | 0 => 0
  | k + 1 => wd f k * 256 + f k
/-- The words of 16 bytes. -/
def kwX (f : Nat → Nat) : Nat := wd f 8
def kwY (f : Nat → Nat) : Nat := wd (fun i => f (8 + i)) 8

theorem wd_lt (f : Nat → Nat) (hf : ∀ i, f i < 256) : ∀ k, wd f k < 256 ^ k
  | 0 => by simp [wd]
  | k + 1 => by
    have h1 := wd_lt f hf k
    have h2 := hf k
    rw [wd, Nat.pow_succ]; omega
theorem wd_div (f : Nat → Nat) (hf : ∀ i, f i < 256) (k : Nat) : ∀ j, wd f (k + j) / 256 ^ j = wd f k
  | 0 => by simp
  | j + 1 => by
    rw [← Nat.add_assoc, wd, Nat.pow_succ, Nat.mul_comm (256 ^ j) 256, ← Nat.div_div_eq_div_mul]
    have h2 := hf (k + j)
    rw [show (wd f (k + j) * 256 + f (k + j)) / 256 = wd f (k + j) by omega]
    exact wd_div f hf k j
theorem wd_byte (f : Nat → Nat) (hf : ∀ i, f i < 256) (i : Nat) (hi : i < 8) : wd f 8 / 256 ^ (7 - i) % 256 = f i := by
  have h := wd_div f hf (i + 1) (7 - i)
  rw [show i + 1 + (7 - i) = 8 by omega] at h
  rw [h, wd]
  have := hf i
  omega
theorem kw_lt (f : Nat → Nat) (hf : ∀ i, f i < 256) : kwX f < M ∧ kwY f < M := ⟨wd_lt f hf 8, wd_lt _ (fun i => hf (8 + i)) 8⟩
theorem kw_byte (f : Nat → Nat) (hf : ∀ i, f i < 256) (j : Nat) (hj : j < 16) : kby (kwX f) (kwY f) j = f j := by
  by_cases h : j < 8
  · rw [kby_hi _ _ _ h]; exact wd_byte f hf j h
  · have := kby_lo (kwX f) (kwY f) (j - 8) (by omega)
    rw [show 8 + (j - 8) = j by omega] at this
    rw [this]
    have h2 := wd_byte (fun i => f (8 + i)) (fun i => hf (8 + i)) (j - 8) (by omega)
    rw [show 8 + (j - 8) = j by omega] at h2
    exact h2

/-- A digit's byte. -/
def hexd (d : Nat) : Nat := if d < 10 then 48 + d else 87 + d
theorem hexd_lt {d : Nat} (h : d < 16) : hexd d < 256 := by unfold hexd; split <;> omega
/-- What value makes of a byte. -/
def vdig (c : Nat) : Nat := (if 97 ≤ c then c - 97 + 10 else (c + 208) % 256) % 16
theorem vdig_lt (c : Nat) : vdig c < 16 := Nat.mod_lt _ (by decide)
theorem vdig_hexd {d : Nat} (h : d < 16) : vdig (hexd d) = d := by unfold vdig hexd; split <;> split <;> omega
/-- Is a byte a digit? -/
def isHex (c : Nat) : Bool := (decide (48 ≤ c) && decide (c ≤ 57)) || (decide (97 ≤ c) && decide (c ≤ 102))
theorem isHex_hexd {d : Nat} (h : d < 16) : isHex (hexd d) = true := by
  unfold isHex hexd
  split <;> simp <;> omega
theorem hexd_vdig {c : Nat} (h : isHex c = true) : hexd (vdig c) = c := by
  unfold isHex at h
  simp at h
  unfold hexd vdig
  split <;> split <;> omega
theorem hexd_vdig_iff (c : Nat) : hexd (vdig c) = c ↔ isHex c = true :=
  ⟨fun h => by rw [← h]; exact isHex_hexd (vdig_lt c), hexd_vdig⟩

/-- The digits of a word. -/
def dgt (x j : Nat) : Nat := hexd (x / 16 ^ (15 - j) % 16)
theorem dgt_lt (x j : Nat) : dgt x j < 256 := hexd_lt (Nat.mod_lt _ (by decide))
/-- The word of the first k digits. -/
def vwd (f : Nat → Nat) : Nat → Nat
  | 0 => 0
  | k + 1 => vwd f k * 16 + vdig (f k)
theorem vwd_lt (f : Nat → Nat) : ∀ k, vwd f k < 16 ^ k
  | 0 => by simp [vwd]
  | k + 1 => by
    have h1 := vwd_lt f k
    have h2 := vdig_lt (f k)
    rw [vwd, Nat.pow_succ]; omega
theorem vwd_div (f : Nat → Nat) (k : Nat) : ∀ j, vwd f (k + j) / 16 ^ j = vwd f k
  | 0 => by simp
  | j + 1 => by
    rw [← Nat.add_assoc, vwd, Nat.pow_succ, Nat.mul_comm (16 ^ j) 16, ← Nat.div_div_eq_div_mul]
    have h2 := vdig_lt (f (k + j))
    rw [show (vwd f (k + j) * 16 + vdig (f (k + j))) / 16 = vwd f (k + j) by omega]
    exact vwd_div f k j
theorem dgt_vwd (f : Nat → Nat) (j : Nat) (hj : j < 16) : dgt (vwd f 16) j = hexd (vdig (f j)) := by
  have h := vwd_div f (j + 1) (15 - j)
  rw [show j + 1 + (15 - j) = 16 by omega] at h
  unfold dgt
  rw [h, vwd]
  have := vdig_lt (f j)
  rw [show (vwd f j * 16 + vdig (f j)) % 16 = vdig (f j) by omega]
theorem vwd16_lt (f : Nat → Nat) : vwd f 16 < M := vwd_lt f 16
theorem nib_step (x i : Nat) (h : i < 16) : x / 16 ^ (16 - i) * 16 + x / 16 ^ (15 - i) % 16 = x / 16 ^ (16 - (i + 1)) := by
  rw [show 16 - (i + 1) = 15 - i by omega, show 16 - i = (15 - i) + 1 by omega, Nat.pow_succ, ← Nat.div_div_eq_div_mul]
  omega
theorem nib_next (x q : Nat) (h : q < 16) : x / 16 ^ (16 - (q + 1)) / 16 = x / 16 ^ (16 - q) := by
  rw [Nat.div_div_eq_div_mul, ← Nat.pow_succ, show (16 - (q + 1)).succ = 16 - q by omega]
theorem vwd_dgt (x : Nat) (hx : x < M) : vwd (dgt x) 16 = x := by
  have key : ∀ k, k ≤ 16 → vwd (dgt x) k = x / 16 ^ (16 - k) := by
    intro k
    induction k with
    | zero => intro _; exact (Nat.div_eq_of_lt hx).symm
    | succ k ih =>
      intro hk
      rw [vwd, ih (by omega), dgt, vdig_hexd (Nat.mod_lt _ (by decide)), nib_step x k (by omega)]
  have := key 16 (Nat.le_refl _)
  simpa using this
theorem vwd_congr (f g : Nat → Nat) : ∀ k, (∀ i, i < k → f i = g i) → vwd f k = vwd g k
  | 0, _ => rfl
  | k + 1, h => by rw [vwd, vwd, vwd_congr f g k (fun i hi => h i (by omega)), h k (by omega)]

/-- Byte i of the key of two words, out of the digits. -/
theorem byte_of_nibs (f : Nat → Nat) (i : Nat) (hi : i < 8) : vwd f 16 / 256 ^ (7 - i) % 256 = 16 * vdig (f (2 * i)) + vdig (f (2 * i + 1)) := by
  have h := vwd_div f (2 * i + 2) (2 * (7 - i))
  rw [show 2 * i + 2 + 2 * (7 - i) = 16 by omega, Nat.pow_mul] at h
  rw [show (256 : Nat) = 16 ^ 2 by decide, h, vwd, vwd]
  have h1 := vdig_lt (f (2 * i))
  have h2 := vdig_lt (f (2 * i + 1))
  omega
/-- The digits of a byte of the key. -/
theorem nib_hi (x i : Nat) (hi : i < 8) : x / 16 ^ (15 - 2 * i) % 16 = x / 256 ^ (7 - i) % 256 / 16 := by
  rw [show (256 : Nat) = 16 ^ 2 by decide, ← Nat.pow_mul, show 15 - 2 * i = 2 * (7 - i) + 1 by omega, Nat.pow_succ, ← Nat.div_div_eq_div_mul]
  omega
theorem nib_lo (x i : Nat) (hi : i < 8) : x / 16 ^ (15 - (2 * i + 1)) % 16 = x / 256 ^ (7 - i) % 256 % 16 := by
  rw [show (256 : Nat) = 16 ^ 2 by decide, ← Nat.pow_mul, show 15 - (2 * i + 1) = 2 * (7 - i) by omega]
  omega

end Go.Proofs.Ytchkgccnipejhaa.L2.SP
