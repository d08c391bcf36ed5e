/-
  Parse's region: two strings turned into blocks, in whatever order.
-/
import Derived.Test.YtphhppdokdageaaReg
namespace Go.Proofs.Ytphhppdokdageaa
open Go.RowKit SP

/-- Byte j of a string. -/
def sb (s : ByteArray) (j : Nat) : Nat := (s.data.toList.getD j 0).toNat
theorem sb_lt (s : ByteArray) (j : Nat) : sb s j < 256 := by
  unfold sb; have := (s.data.toList.getD j 0).toNat_lt; omega

/-- What holds of the slots when some operations are listed. -/
structure PC (n : Nat) (s s1 s2 : ByteArray) (P1 Q1 P2 Q2 : Nat) (w0 : World) (l : Nat → Bool) (t4 t5 t12 t13 t14 t15 t16 t17 t18 t19 t20 t21 : Value) (w : World) : Prop where
  bel : Below n w0 w
  size : n ≤ w.heap.size
  c0 : l 0 = true → t12 = .string s
  c1 : l 1 = true → t13 = .string s1
  c2 : l 2 = true → l 4 = false → ∃ b c, t14 = .slice (some ⟨b, 0, none⟩) 16 c ∧ KeyAt w b P1 Q1
  c3 : l 3 = true → l 4 = false → ∃ b, t15 = .pointer (some ⟨b, 0, none⟩) ∧ KeyAt w b P1 Q1
  c4 : l 4 = true → t16 = .agg (kl P1 Q1).toArray
  c5 : l 5 = true → t17 = .string s
  c6 : l 6 = true → t18 = .string s2
  c7 : l 7 = true → l 9 = false → ∃ b c, t19 = .slice (some ⟨b, 0, none⟩) 16 c ∧ KeyAt w b P2 Q2 ∧ t4 ≠ .pointer (some ⟨b, 0, none⟩)
  c8 : l 8 = true → l 9 = false → ∃ b, t20 = .pointer (some ⟨b, 0, none⟩) ∧ KeyAt w b P2 Q2 ∧ t4 ≠ .pointer (some ⟨b, 0, none⟩)
  c9 : l 9 = true → t21 = .agg (kl P2 Q2).toArray
  c10 : l 10 = true → ∃ b, t4 = .pointer (some ⟨b, 0, none⟩) ∧ w.there b 0 16 ∧ n ≤ b ∧ (l 12 = true → KeyAt w b P1 Q1)
  d10 : l 10 = false → t4 = undef
  c11 : l 11 = true → ∃ b, t5 = .pointer (some ⟨b, 0, none⟩) ∧ w.there b 0 16 ∧ n ≤ b ∧ t4 ≠ .pointer (some ⟨b, 0, none⟩) ∧ (l 13 = true → KeyAt w b P2 Q2)
  o4 : l 4 = true → l 3 = true
  o9 : l 9 = true → l 8 = true
  o12 : l 12 = true → l 10 = true
  o13 : l 13 = true → l 11 = true

/-- An allocation elsewhere turns nothing of it. -/
theorem PC.grow {n : Nat} {s s1 s2 : ByteArray} {P1 Q1 P2 Q2 : Nat} {w0 : World} {l : Nat → Bool} {t4 t5 t12 t13 t14 t15 t16 t17 t18 t19 t20 t21 : Value} {w w' : World}
    (h : PC n s s1 s2 P1 Q1 P2 Q2 w0 l t4 t5 t12 t13 t14 t15 t16 t17 t18 t19 t20 t21 w) (hb : Below w.heap.size w w') : PC n s s1 s2 P1 Q1 P2 Q2 w0 l t4 t5 t12 t13 t14 t15 t16 t17 t18 t19 t20 t21 w' where
  bel := h.bel.trans (hb.mono h.size)
  size := Nat.le_trans h.size hb.size
  c0 := h.c0
  c1 := h.c1
  c2 a b := by obtain ⟨x, c, h1, h2⟩ := h.c2 a b; exact ⟨x, c, h1, h2.keep hb⟩
  c3 a b := by obtain ⟨x, h1, h2⟩ := h.c3 a b; exact ⟨x, h1, h2.keep hb⟩
  c4 := h.c4
  c5 := h.c5
  c6 := h.c6
  c7 a b := by obtain ⟨x, c, h1, h2, h3⟩ := h.c7 a b; exact ⟨x, c, h1, h2.keep hb, h3⟩
  c8 a b := by obtain ⟨x, h1, h2, h3⟩ := h.c8 a b; exact ⟨x, h1, h2.keep hb, h3⟩
  c9 := h.c9
  c10 a := by obtain ⟨x, h1, h2, h3, h4⟩ := h.c10 a; exact ⟨x, h1, there_below h2 hb (there_lt h2 (by omega)), h3, fun e => (h4 e).keep hb⟩
  d10 := h.d10
  c11 a := by obtain ⟨x, h1, h2, h3, h4, h5⟩ := h.c11 a; exact ⟨x, h1, there_below h2 hb (there_lt h2 (by omega)), h3, h4, fun e => (h5 e).keep hb⟩
  o4 := h.o4
  o9 := h.o9
  o12 := h.o12
  o13 := h.o13

/-- The region's invariant. -/
def PI (n r : Nat) (s s1 s2 : ByteArray) (P1 Q1 P2 Q2 : Nat) (w0 : World) (l : Nat → Bool) (a : Act) (w : World) : Prop :=
  ∃ t4 t5 t12 t13 t14 t15 t16 t17 t18 t19 t20 t21 : Value, a = { tmps := #[.string s, undef, .pointer (some ⟨r, 0, none⟩), .int .i64 0, t4, t5, undef, undef, .string s, .int .i64 32, .bool false, undef, t12, t13, t14, t15, t16, t17, t18, t19, t20, t21, undef, undef, undef, undef, undef, undef, undef, undef, undef, undef, undef, undef, undef, undef, undef, undef, undef, undef], defers := [] } ∧ PC n s s1 s2 P1 Q1 P2 Q2 w0 l t4 t5 t12 t13 t14 t15 t16 t17 t18 t19 t20 t21 w

theorem upd_ne (l : Nat → Bool) (i j : Nat) (h : j ≠ i) : upd l i j = l j := if_neg h
theorem upd_eq (l : Nat → Bool) (i : Nat) : upd l i i = true := if_pos rfl

theorem run_arr_ptr (b c : Nat) (w : World) : (Instr.arrayAt 23 (.slice (some ⟨b, 0, none⟩) 16 c)).run Try.prog w = .ok (.pointer (some ⟨b, 0, none⟩)) w := by
  simp [Instr.arrayAt, Sem.run_bind, run_underlying Try.underlying23 w, go_sem]

theorem bytes_key (w : World) (s : ByteArray) (hs : s.size = 16) : KeyAt (Lib.bytesWorld w 5 s) w.heap.size (kwX (sb s)) (kwY (sb s)) :=
  KeyAt.of_cells fun i hi => by rw [Lib.bytesWorld_cell w 5 s i (by omega), kw_byte _ (sb_lt s) i hi]; rfl
theorem bytes_below (w : World) (s : ByteArray) : Below w.heap.size w (Lib.bytesWorld w 5 s) where
  os := by simp [Lib.bytesWorld, World.freeze]; rfl
  tape := by simp [Lib.bytesWorld, World.freeze]
  output := by simp [Lib.bytesWorld, World.freeze]; rfl
  size := by rw [Lib.bytesWorld_size]; omega
  block k hk := Lib.bytesWorld_at_old w 5 s k hk

end Go.Proofs.Ytphhppdokdageaa
