/-
  Texts joined into one: EncA, EncB, EncC, DecA, DecB, DecC, DecD, DecE.
-/
import Derived.Test.YtchkgccnipejhaaJS
import Derived.RangeFuncBox
import Derived.Laws.BytesArg
import Derived.Shelf.Bytes.SlSmallAll
import Derived.Laws.CopyOwn

/-
  Bytes, numbers in rows of bytes, and whether a header can be written.
-/
namespace Go.Proofs.Ytchkgccnipejhaa
open Go.RowKit TR L2 L2.SP
set_option linter.unusedVariables false
set_option linter.unusedSimpArgs false

/-- Whether a number is a byte. -/
def isb8 (a : Int) : Bool := decide (0 ≤ a) && decide (a ≤ 255)
theorem isb8_yes {a : Int} (h0 : 0 ≤ a) (h1 : a ≤ 255) : isb8 a = true := by simp [isb8, h0, h1]
theorem isb8_no {a : Int} (h : ¬ (0 ≤ a ∧ a ≤ 255)) : isb8 a = false := by
  unfold isb8; simp only [Bool.and_eq_false_iff, decide_eq_false_iff_not]; omega
theorem isByte_any (a : Int) (w : World) :
    Calls Try.prog 103 #[.int .i64 a] w fun e w' => e = .returned (.bool (isb8 a)) ∧ Below w.heap.size w w' := by
  by_cases h0 : 0 ≤ a
  · by_cases h1 : a ≤ 255
    · rw [isb8_yes h0 h1]
      go_enter Try.func103, Try.ntmps103
      go_wp2_with fail
      go_ret
      exact ⟨by first | rfl | simp, Below.refl _ _⟩
    · rw [isb8_no (by omega)]
      go_enter Try.func103, Try.ntmps103
      go_wp2_with fail
      go_ret
      exact ⟨by first | rfl | simp, Below.refl _ _⟩
  · rw [isb8_no (by omega)]
    go_enter Try.func103, Try.ntmps103
    go_wp2_with fail
    go_ret
    exact ⟨by first | rfl | simp, Below.refl _ _⟩

theorem lowb_snoc (x : Nat) : ∀ k, lowb (x / 256) k ++ [x % 256] = lowb x (k + 1)
  | 0 => by simp [lowb]
  | k + 1 => by rw [lowb, List.cons_append, lowb_snoc x k, lowb, lowb, Nat.div_div_eq_div_mul, Nat.mul_comm 256, ← Nat.pow_succ]; rfl
theorem shr_byte (x s : Nat) : IntKind.u8.wrap ((x : Int) / ((2 ^ s : Nat) : Int)) = ((x / 2 ^ s % 256 : Nat) : Int) := by
  simp [IntKind.wrap, IntKind.bits, IntKind.signed]
/-- The first k of the eight bytes of a number. -/
def topb (x k : Nat) : List Nat := lowb (x / 256 ^ (8 - k)) k
theorem topb_succ (x k : Nat) (hk : k < 8) : topb x (k + 1) = topb x k ++ [x / 2 ^ (8 * (7 - k)) % 256] := by
  unfold topb
  rw [← lowb_snoc, Nat.div_div_eq_div_mul, ← Nat.pow_succ, show (8 - (k + 1)).succ = 8 - k by omega, show 8 - (k + 1) = 7 - k by omega, show (256 : Nat) = 2 ^ 8 by decide, ← Nat.pow_mul, ← Nat.pow_mul]

set_option maxRecDepth 100000 in
set_option maxHeartbeats 400000 in
theorem appendNumber_any (B n x : Nat) (v : Value) (xs : List Value) (w : World) (hx : x < M) (hB : B ≤ w.heap.size) (hn : n ≤ 1000000) (ho : w.ownsRow B 5 1 v n xs) :
    Calls Try.prog 48 #[v, .int .u64 (x : Int)] w fun e w' => ∃ v', e = .returned v' ∧ w'.ownsRow B 5 1 v' (n + 8) (xs ++ bl (lowb x 8)) ∧ Below B w w' ∧ ∀ b cs t, 5 ≠ t → Blk w b cs t → Blk w' b cs t := by
  obtain ⟨i0, hi, hz0, hz1, hz2⟩ := info_parts info5
  have hxx : (x : Int) ≤ 18446744073709551615 := by unfold M at hx; omega
  have HO := Lib.hid ho
  have HBB := Lib.hid hB
  clear ho
  go_enter Try.func48, Try.ntmps48
  go_wp2_with fail
  go_loopw [0, 5] (fun y i wr => ∃ k : Nat, k ≤ 8 ∧ i = .int .i64 (7 - (k : Int)) ∧ Hid (wr.ownsRow B 5 1 y (n + k) (xs ++ bl (topb x k)) ∧ Below B w wr ∧ B ≤ wr.heap.size ∧ ∀ b cs t, 5 ≠ t → Blk w b cs t → Blk wr b cs t)) (fun _ i _ => (intOf i + 1).toNat)
  case atStart => exact ⟨0, by omega, by go_num, Lib.hid ⟨by simpa [topb, lowb, bl] using HO.out, Below.refl _ _, HBB.out, fun _ _ _ _ h => h⟩⟩
  case round =>
    obtain ⟨k, hk, rfl, HI⟩ := hrel
    by_cases hlt : k < 8
    · have l1 : (0 : Int) ≤ 7 - (k : Int) := by omega
      obtain ⟨d, hd⟩ : ∃ d, d = x / 2 ^ (8 * (7 - k)) % 256 := ⟨_, rfl⟩
      have hd1 : (x : Int) / 2 ^ (8 * (7 - k)) % 256 = (d : Int) := by rw [hd]; norm_cast
      have HL : Hid (xs ++ bl (topb x (k + 1)) = (xs ++ bl (topb x k)) ++ [.int .u8 (d : Int)]) := Lib.hid (by rw [topb_succ x k hlt, ← hd, List.append_assoc]; simp [bl]; rfl)
      have O5 := HI.out.1
      have L5 := HI.out.2.2.1
      have HB5 := Lib.hid HI.out.2.1
      clear hd
      go_wp2_with (first
        | (at_builtin; refine wpList_append_own _ rfl _ _ 29 rfl B 5 i0 _ 1 1 Try.underlying29 hi hz0 hz1 hz2 rfl (by omega) _ _ _ rfl (O5.alloc _) ⟨wr.heap.size, 0, none⟩ 1 1 [.int .u8 (d : Int)] rfl rfl (cell_one_new _ _ _) (by intro u hu; simp at hu; subst hu; rfl) (by unfold maxLen; omega) (by omega) (by simp; omega) ?_; intro v1 w6 hown6 hg6 _))
      go_roundw
      case rel => exact ⟨k + 1, by omega, by go_num, Lib.hid ⟨by rw [HL.out]; exact hown6, (HB5.out.alloc L5 _).grown hg6 (by simp; omega) (fun b hb => own_block O5 hb.symm), Nat.le_trans (by simp; omega) hg6.size, fun b cs t ht h => (Blk.keep (HI.out.2.2.2 b cs t ht h) (below_alloc wr (.cells #[.int .u8 (d : Int)] 5))).grown hg6 ((Blk.keep (HI.out.2.2.2 b cs t ht h) (below_alloc wr (.cells #[.int .u8 (d : Int)] 5))).apart (O5.alloc (.cells #[.int .u8 (d : Int)] 5)) ht)⟩⟩
      case measure => simp [intOf]; omega
    · obtain rfl : k = 8 := by omega
      have l1 : ¬ ((0 : Int) ≤ 7 - ((8 : Nat) : Int)) := by omega
      have H := Lib.hid HI.out
      go_wp2_with fail
      go_ret
      exact ⟨_, rfl, by have h := H.out.1; simpa [topb] using h, H.out.2.1, H.out.2.2.2⟩
/-- Whether a header can be written: 0, 4 or 2. -/
def ckn (n np : Nat) (F : Nat → Int × Int × (Nat × Nat)) : Int := if 64 < n ∨ 8 < np then 4 else if ∀ i, i < n → isb8 (F i).1 = true ∧ isb8 (F i).2.1 = true then 0 else 2
theorem ckn_many {n np : Nat} {F : Nat → Int × Int × (Nat × Nat)} (h : 64 < n ∨ 8 < np) : ckn n np F = 4 := if_pos h
theorem ckn_ok {n np : Nat} {F : Nat → Int × Int × (Nat × Nat)} (h : ¬ (64 < n ∨ 8 < np)) (h2 : ∀ i, i < n → isb8 (F i).1 = true ∧ isb8 (F i).2.1 = true) : ckn n np F = 0 := by unfold ckn; rw [if_neg h, if_pos h2]
theorem ckn_bad {n np : Nat} {F : Nat → Int × Int × (Nat × Nat)} (h : ¬ (64 < n ∨ 8 < np)) (i : Nat) (hi : i < n) (h2 : isb8 (F i).1 = false ∨ isb8 (F i).2.1 = false) : ckn n np F = 2 := by
  unfold ckn; rw [if_neg h, if_neg (fun h3 => by have h4 := h3 i hi; rcases h2 with h5 | h5 <;> rw [h5] at h4 <;> simp at h4)]

set_option maxRecDepth 100000 in
set_option maxHeartbeats 400000 in
theorem checkCoding_any (B : Int) (g o n m np kp : Nat) (A Ap : Option Addr) (x y : Nat × Nat) (F : Nat → Int × Int × (Nat × Nat)) (w : World) (hn : n ≤ 4398046511104) (hnp : np ≤ 8796093022208) (hnm : n ≤ m) (had : n = 0 ∨ A = some ⟨g, o, none⟩)
    (hc : ∀ i, i < n → w.rangeAt g (o + i * 18) (lbl (F i).1 (F i).2.1 (F i).2.2)) :
    Calls Try.prog 47 #[.agg (hdi (.slice A n m) (.slice Ap np kp) B x y).toArray] w fun e w' => e = .returned (.int .i64 (ckn n np F)) ∧ Below w.heap.size w w' := by
  obtain ⟨N, hN⟩ : ∃ N, N = w.heap.size := ⟨_, rfl⟩
  obtain ⟨W2, hW2⟩ : ∃ W2, W2 = w.alloc (.cells (hdi (.slice A n m) (.slice Ap np kp) B x y).toArray 28) := ⟨_, rfl⟩
  have s2 : W2.heap.size = N + 1 := by rw [hW2, hN]; simp
  have b2 : Below N w W2 := by rw [hW2, hN]; exact below_alloc _ _
  have e2 : Hdx W2 N (.slice A n m) (.slice Ap np kp) B x y := by
    have h := Blk.new w (hdi (.slice A n m) (.slice Ap np kp) B x y).toArray 28
    rw [← hN] at h; rw [hW2]; exact h
  have HE : Hid (W2.heap.size = N + 1 ∧ Below N w W2 ∧ Hdx W2 N (.slice A n m) (.slice Ap np kp) B x y) := Lib.hid ⟨s2, b2, e2⟩
  have HC : Hid (∀ w1, Below W2.heap.size W2 w1 → ∀ i, i < n → w1.rangeAt g (o + i * 18) (lbl (F i).1 (F i).2.1 (F i).2.2)) := Lib.hid (fun w1 hb i hi j u hu => by
    have hb2 : Below N w w1 := b2.trans (hb.mono (by rw [s2]; omega))
    exact (hb2.cell (p := ⟨g, o + i * 18 + j, none⟩) (by rw [hN]; exact World.block_lt_of_cell? w _ (hc i hi j u hu))).trans (hc i hi j u hu))
  have HEND := Lib.hid (fun (w3 : World) (hb : Below W2.heap.size W2 w3) => (HE.out.2.1.trans (hb.mono (by rw [HE.out.1]; omega)) : Below N w w3))
  have HAD := Lib.hid had
  have HN := Lib.hid hN
  have HW := Lib.hid hW2
  rw [← hN]
  have c0 := Hdx.c0 e2
  have c2 := Hdx.c2 e2
  rw [hW2, hN] at c0 c2
  clear hN hW2 s2 b2 e2 hc had
  have HB2 : Hid (Below N w W2) := Lib.hid HE.out.2.1
  by_cases h64 : 64 < n
  · have HV : Hid (ckn n np F = 4) := Lib.hid (ckn_many (.inl h64))
    have h64' : (64 : Int) < (n : Int) := by omega
    rw [HV.out]
    go_enter Try.func47, Try.ntmps47
    go_wp2_with fail
    go_ret
    exact ⟨by first | rfl | simp, by rw [← HW.out]; exact HB2.out⟩
  have h64' : ¬ ((64 : Int) < (n : Int)) := by omega
  by_cases h8 : 8 < np
  · have HV : Hid (ckn n np F = 4) := Lib.hid (ckn_many (.inr h8))
    have h8' : (8 : Int) < (np : Int) := by omega
    rw [HV.out]
    go_enter Try.func47, Try.ntmps47
    go_wp2_with fail
    go_ret
    exact ⟨by first | rfl | simp, by rw [← HW.out]; exact HB2.out⟩
  have h8' : ¬ ((8 : Int) < (np : Int)) := by omega
  have HV : Hid ((∀ i, i < n → isb8 (F i).1 = true ∧ isb8 (F i).2.1 = true) → ckn n np F = 0) := Lib.hid (fun h => ckn_ok (by omega) h)
  have HVn : Hid (∀ i, i < n → isb8 (F i).1 = false ∨ isb8 (F i).2.1 = false → ckn n np F = 2) := Lib.hid (fun i hi h => ckn_bad (by omega) i hi h)
  obtain ⟨z, hz⟩ : ∃ z, z = ckn n np F := ⟨_, rfl⟩
  rw [← hz] at HV HVn ⊢
  clear hz
  go_enter Try.func47, Try.ntmps47
  go_wp2_with fail
  rw [← HW.out, ← HN.out]
  clear c0 c2
  go_loopw [18] (fun i wr => ∃ (k : Nat), k ≤ n ∧ i = .int .i64 (k : Int) ∧ Hid (Below W2.heap.size W2 wr) ∧ Hid (∀ j, j < k → isb8 (F j).1 = true ∧ isb8 (F j).2.1 = true)) (fun i _ => n - (intOf i).toNat)
  case atStart => exact ⟨0, by omega, rfl, Lib.hid (Below.refl _ _), Lib.hid (fun j h => by omega)⟩
  case round =>
    obtain ⟨k, hk, rfl, HBr, HA⟩ := hrel
    by_cases hlt : k < n
    · rcases HAD.out with h0 | rfl
      · omega
      have l1 : (0 : Int) ≤ (k : Int) := by omega
      have l2 : (k : Int) < (n : Int) := by omega
      have HRk := Lib.hid (HC.out wr HBr.out k hlt)
      have HNo := Lib.hid (HVn.out k hlt)
      have HAx : Hid (isb8 (F k).1 = true → isb8 (F k).2.1 = true → ∀ j, j < k + 1 → isb8 (F j).1 = true ∧ isb8 (F j).2.1 = true) := Lib.hid (fun h h2 j hj => by
        rcases Nat.lt_or_ge j k with h1 | h1
        · exact HA.out j h1
        · obtain rfl : j = k := by omega
          exact ⟨h, h2⟩)
      have HI1 := Lib.hid (fun w => isByte_any (F k).1 w)
      have HI2 := Lib.hid (fun w => isByte_any (F k).2.1 w)
      obtain ⟨a, ha⟩ : ∃ a, a = (F k).1 := ⟨_, rfl⟩
      obtain ⟨b, hb⟩ : ∃ b, b = (F k).2.1 := ⟨_, rfl⟩
      obtain ⟨q, hq⟩ : ∃ q, q = (F k).2.2 := ⟨_, rfl⟩
      rw [← ha, ← hb] at HNo HAx
      rw [← ha] at HI1
      rw [← hb] at HI2
      rw [← ha, ← hb, ← hq] at HRk
      obtain ⟨z1, hz1⟩ : ∃ z1, z1 = isb8 a := ⟨_, rfl⟩
      obtain ⟨z2, hz2⟩ : ∃ z2, z2 = isb8 b := ⟨_, rfl⟩
      rw [← hz1] at HI1
      rw [← hz2] at HI2
      rw [← hz1, ← hz2] at HNo HAx
      obtain ⟨k1, k2, k3, k4⟩ := itmbox wr a b q
      obtain ⟨W5, hW5⟩ : ∃ W5, W5 = (wr.alloc (.cells lz18 90)).setCells wr.heap.size 0 (lbl a b q) := ⟨_, rfl⟩
      rw [← hW5] at k2 k3 k4
      have HB5 : Hid (Below W2.heap.size W2 W5) := Lib.hid (HBr.out.trans (k3.mono HBr.out.size))
      have HK5 := Lib.hid k2
      have HS5 := Lib.hid k4
      have y0 : W5.cell? ⟨wr.heap.size, 0, none⟩ = some (.int .i64 a) := k2.cell 0
      rw [hW5] at y0
      have HW5 := Lib.hid hW5
      have HTh := Lib.hid k1
      clear ha hb hq hz1 hz2 k1 k2 k3 k4 hW5 hk
      go_wp2_with (first
        | ((with_reducible show wpList _ _ _ (Oper.mk _ (Op.load 90 _) _ _ _ _ :: _) _ _); refine wpList_load_itmo rfl _ rfl _ _ rfl _ _ _ HRk.out ?_)
        | ((with_reducible show wpList _ _ _ (Oper.mk _ (Op.store 90 _ _) _ _ _ _ :: _) _ _); refine wpList_store_itm rfl _ _ rfl _ _ _ _ rfl rfl HTh.out ?_))
      rw [← HW5.out]
      refine (HI1.out _).mono ?_
      rintro e w6 ⟨rfl, hb6⟩
      have y1 : w6.cell? ⟨wr.heap.size, 1, none⟩ = some (.int .i64 b) := (Blk.keep HK5.out hb6).cell 1
      have HB6 := Lib.hid (HB5.out.trans (hb6.mono HB5.out.size))
      clear hb6 y0
      rcases z1 with _ | _
      · have HF := Lib.hid (HNo.out (.inl rfl))
        have H3 := Lib.hid (HEND.out w6 HB6.out)
        go_wp2_with fail
        go_ret
        exact ⟨by rw [HF.out]; first | rfl | simp, H3.out⟩
      · go_wp2_with fail
        refine (HI2.out _).mono ?_
        rintro e w7 ⟨rfl, hb7⟩
        have HB7 := Lib.hid (HB6.out.trans (hb7.mono HB6.out.size))
        clear hb7 y1
        rcases z2 with _ | _
        · have HF := Lib.hid (HNo.out (.inr rfl))
          have H3 := Lib.hid (HEND.out w7 HB7.out)
          go_wp2_with fail
          go_ret
          exact ⟨by rw [HF.out]; first | rfl | simp, H3.out⟩
        · have HAy := Lib.hid (HAx.out (by trivial) (by trivial))
          go_wp2_with fail
          go_roundw
          case rel => exact ⟨k + 1, by omega, by go_num, HB7, HAy⟩
          case measure => simp [intOf]; omega
    · obtain rfl : k = n := by omega
      have HF := Lib.hid (HV.out HA.out)
      have H3 := Lib.hid (HEND.out wr HBr.out)
      have l3 : ¬ ((k : Int) < (k : Int)) := by omega
      go_wp2_with fail
      go_ret
      exact ⟨by rw [HF.out]; first | rfl | simp, H3.out⟩
end Go.Proofs.Ytchkgccnipejhaa

/-
  Encode, the program's.
-/
namespace Go.Proofs.Ytchkgccnipejhaa
open Go.RowKit TR L2 L2.SP
set_option linter.unusedVariables false
set_option linter.unusedSimpArgs false

theorem sizePnt : (Try.prog.info? 70).map (·.size) = some 2 := by kernel_rfl
theorem sizePnt' : (Try.prog.info? 70).map (·.size) = some (#[Value.int .u64 0, Value.int .u64 0] : Array Value).size := by kernel_rfl
/-- The bytes of some items. -/
def itb (F : Nat → Int × Int × (Nat × Nat)) (n : Nat) : List Value := (List.range n).flatMap fun i => .int .u8 (F i).1 :: .int .u8 (F i).2.1 :: kl (F i).2.2.1 (F i).2.2.2
theorem itb_succ (F : Nat → Int × Int × (Nat × Nat)) (n : Nat) : itb F (n + 1) = itb F n ++ ([.int .u8 (F n).1, .int .u8 (F n).2.1] ++ kl (F n).2.2.1 (F n).2.2.2) := by
  unfold itb; rw [List.range_succ, List.flatMap_append]; simp
theorem itb_len (F : Nat → Int × Int × (Nat × Nat)) : ∀ n, (itb F n).length = n * 18
  | 0 => rfl
  | n + 1 => by rw [itb_succ, List.length_append, itb_len F n, List.length_append, kl_len]; simp; omega
/-- The bytes of some points. -/
def ptb (G : Nat → Nat × Nat) (n : Nat) : List Value := (List.range n).flatMap fun i => bl (lowb (G i).1 8) ++ bl (lowb (G i).2 8)
theorem ptb_succ (G : Nat → Nat × Nat) (n : Nat) : ptb G (n + 1) = ptb G n ++ (bl (lowb (G n).1 8) ++ bl (lowb (G n).2 8)) := by
  unfold ptb; rw [List.range_succ, List.flatMap_append]; simp
theorem ptb_len (G : Nat → Nat × Nat) : ∀ n, (ptb G n).length = n * 16
  | 0 => rfl
  | n + 1 => by rw [ptb_succ, List.length_append, ptb_len G n, List.length_append]; simp [bl, lowb_len]; omega
/-- The bytes of a header. -/
def hbs (n b np : Nat) (F : Nat → Int × Int × (Nat × Nat)) (G : Nat → Nat × Nat) (x y : Nat × Nat) : List Value :=
  [.int .u8 (n : Int)] ++ itb F n ++ bl (lowb b 8) ++ [.int .u8 (np : Int)] ++ ptb G np ++ kl x.1 x.2 ++ kl y.1 y.2
/-- How many bytes a header takes. -/
def hln (n np : Nat) : Nat := 42 + 18 * n + 16 * np
theorem hbs_len (n b np : Nat) (F : Nat → Int × Int × (Nat × Nat)) (G : Nat → Nat × Nat) (x y : Nat × Nat) : (hbs n b np F G x y).length = hln n np := by
  unfold hbs hln
  simp only [List.length_append, itb_len, ptb_len, kl_len, List.length_cons, List.length_nil]
  simp [bl, lowb_len]; omega
theorem hbs_one (n b np : Nat) (F : Nat → Int × Int × (Nat × Nat)) (G : Nat → Nat × Nat) (x y : Nat × Nat) : ∀ u ∈ hbs n b np F G x y, u.oneCell' = true := by
  intro u hu
  simp only [hbs, List.mem_append, List.mem_cons, List.not_mem_nil, or_false] at hu
  rcases hu with (((((rfl | h) | h) | rfl) | h) | h) | h
  · rfl
  · unfold itb at h
    rw [List.mem_flatMap] at h
    obtain ⟨i, _, h⟩ := h
    simp only [List.mem_cons] at h
    rcases h with rfl | rfl | h
    · rfl
    · rfl
    · exact kl_one _ _ _ h
  · exact bl_one _ _ h
  · rfl
  · unfold ptb at h
    rw [List.mem_flatMap] at h
    obtain ⟨i, _, h⟩ := h
    rw [List.mem_append] at h
    rcases h with h | h
    · exact bl_one _ _ h
    · exact bl_one _ _ h
  · exact kl_one _ _ _ h
  · exact kl_one _ _ _ h

theorem ckn_zero {n np : Nat} {F : Nat → Int × Int × (Nat × Nat)} (h : ckn n np F = 0) : n ≤ 64 ∧ np ≤ 8 ∧ ∀ i, i < n → (0 ≤ (F i).1 ∧ (F i).1 ≤ 255) ∧ (0 ≤ (F i).2.1 ∧ (F i).2.1 ≤ 255) := by
  by_cases h1 : 64 < n ∨ 8 < np
  · rw [ckn_many h1] at h; omega
  · by_cases h2 : ∀ i, i < n → isb8 (F i).1 = true ∧ isb8 (F i).2.1 = true
    · refine ⟨by omega, by omega, fun i hi => ?_⟩
      have h3 := h2 i hi
      unfold isb8 at h3
      simp only [Bool.and_eq_true, decide_eq_true_eq] at h3
      exact h3
    · unfold ckn at h; rw [if_neg h1, if_neg h2] at h; omega
theorem itm_box {w : World} {b : Nat} {v z : Int} {p : Nat × Nat} (h : Itx w b v z p) : w.rangeAt b 2 (kl p.1 p.2) := fun j u hu => by
  have h1 := Blk.range h (2 + j) u (by rw [Nat.add_comm]; exact hu)
  rwa [Nat.zero_add] at h1
theorem range_add {w : World} {b o : Nat} {xs : List Value} (h : w.rangeAt b o xs) : ∀ j u, xs[j]? = some u → w.cell? ((⟨b, o, none⟩ : Addr).add j) = some u := fun j u hu => by
  rw [Addr.add_lit]; exact h j u hu

set_option maxRecDepth 100000 in
set_option maxHeartbeats 400000 in
theorem encode_any (b g o n m g2 o2 np kp : Nat) (A Ap : Option Addr) (x y : Nat × Nat) (F : Nat → Int × Int × (Nat × Nat)) (G : Nat → Nat × Nat) (w : World) (hb : b < M) (hn : n ≤ 4398046511104) (hnp : np ≤ 8796093022208) (hnm : n ≤ m) (hkp : np ≤ kp)
    (had : n = 0 ∨ A = some ⟨g, o, none⟩) (hpd : np = 0 ∨ Ap = some ⟨g2, o2, none⟩)
    (hc : ∀ i, i < n → w.rangeAt g (o + i * 18) (lbl (F i).1 (F i).2.1 (F i).2.2))
    (hp : ∀ i, i < np → w.rangeAt g2 (o2 + i * 2) [.int .u64 ((G i).1 : Int), .int .u64 ((G i).2 : Int)] ∧ Ok (G i)) :
    Calls Try.prog 16 #[.agg (hdi (.slice A n m) (.slice Ap np kp) (b : Int) x y).toArray] w fun e w' =>
      ((ckn n np F ≠ 0 ∧ e = .returned (.tuple #[.slice none 0 0, .int .i64 (ckn n np F)])) ∨ (ckn n np F = 0 ∧ ∃ v, e = .returned (.tuple #[v, .int .i64 0]) ∧ w'.ownsRow w.heap.size 5 1 v (hln n np) (hbs n b np F G x y))) ∧ Below w.heap.size w w' := by
  obtain ⟨i0, hi, hz0, hz1, hz2⟩ := info_parts info5
  obtain ⟨N, hN⟩ : ∃ N, N = w.heap.size := ⟨_, rfl⟩
  obtain ⟨W2, hW2⟩ : ∃ W2, W2 = w.alloc (.cells (hdi (.slice A n m) (.slice Ap np kp) (b : Int) x y).toArray 28) := ⟨_, rfl⟩
  have s2 : W2.heap.size = N + 1 := by rw [hW2, hN]; simp
  have b2 : Below N w W2 := by rw [hW2, hN]; exact below_alloc _ _
  have e2 : Hdx W2 N (.slice A n m) (.slice Ap np kp) (b : Int) x y := by
    have h := Blk.new w (hdi (.slice A n m) (.slice Ap np kp) (b : Int) x y).toArray 28
    rw [← hN] at h; rw [hW2]; exact h
  have HE : Hid (W2.heap.size = N + 1 ∧ Below N w W2 ∧ Hdx W2 N (.slice A n m) (.slice Ap np kp) (b : Int) x y) := Lib.hid ⟨s2, b2, e2⟩
  have HC : Hid (∀ w1, Below W2.heap.size W2 w1 → ∀ i, i < n → w1.rangeAt g (o + i * 18) (lbl (F i).1 (F i).2.1 (F i).2.2)) := Lib.hid (fun w1 hb i hi j u hu => by
    have hb2 : Below N w w1 := b2.trans (hb.mono (by rw [s2]; omega))
    exact (hb2.cell (p := ⟨g, o + i * 18 + j, none⟩) (by rw [hN]; exact World.block_lt_of_cell? w _ (hc i hi j u hu))).trans (hc i hi j u hu))
  have HP : Hid (∀ w1, Below W2.heap.size W2 w1 → ∀ i, i < np → w1.rangeAt g2 (o2 + i * 2) [.int .u64 ((G i).1 : Int), .int .u64 ((G i).2 : Int)] ∧ Ok (G i)) := Lib.hid (fun w1 hb i hi => ⟨fun j u hu => by
    have hb2 : Below N w w1 := b2.trans (hb.mono (by rw [s2]; omega))
    exact (hb2.cell (p := ⟨g2, o2 + i * 2 + j, none⟩) (by rw [hN]; exact World.block_lt_of_cell? w _ ((hp i hi).1 j u hu))).trans ((hp i hi).1 j u hu), (hp i hi).2⟩)
  have HEND := Lib.hid (fun (w3 : World) (hb : Below W2.heap.size W2 w3) => (HE.out.2.1.trans (hb.mono (by rw [HE.out.1]; omega)) : Below N w w3))
  have HAD := Lib.hid had
  have HPD := Lib.hid hpd
  have HBb := Lib.hid hb
  have HN := Lib.hid hN
  have HW := Lib.hid hW2
  have HCk := Lib.hid (fun w1 (hb : Below W2.heap.size W2 w1) => checkCoding_any (b : Int) g o n m np kp A Ap x y F w1 hn hnp hnm had (HC.out w1 hb))
  rw [← hN]
  clear hN hW2 s2 b2 e2 hc hp had hpd hb
  go_enter Try.func16, Try.ntmps16
  go_wp2_with ((with_reducible show wpList _ _ _ (Oper.mk _ (Op.load 28 _) _ _ _ _ :: _) _ _); refine wpList_load_hdi rfl _ rfl _ rfl _ _ _ _ _ (by first | (rw [HW.out, HN.out] at HE; exact HE.out.2.2) | exact HE.out.2.2) ?_)
  rw [← HW.out, ← HN.out]
  refine (HCk.out W2 (Below.refl _ _)).mono ?_
  rintro e w3 ⟨rfl, hb3⟩
  have HB3 := Lib.hid hb3
  clear hb3
  by_cases hk : ckn n np F = 0
  rotate_left
  · have hkn : (ckn n np F != 0) = true := by simp [hk]
    have HKn := Lib.hid hk
    obtain ⟨z, hz⟩ : ∃ z, z = ckn n np F := ⟨_, rfl⟩
    rw [← hz] at hkn ⊢
    have HZz := Lib.hid hz
    have H3 := Lib.hid (HEND.out w3 HB3.out)
    clear hk hz
    go_wp2_with fail
    exact bodyPost_ret (results_tmp2 rfl _ _ _) rfl ⟨.inl ⟨HKn.out, by rw [← HZz.out]; rfl⟩, H3.out⟩
  obtain ⟨hn64, hnp8, hby⟩ := ckn_zero hk
  have HBy := Lib.hid hby
  have HZ := Lib.hid hk
  rw [hk]
  have c0 := Hdx.c0 (Blk.keep HE.out.2.2 HB3.out)
  have c0' := Hdx.c0 (Blk.keep HE.out.2.2 (HB3.out.alloc HB3.out.size (.cells #[.int .u8 (n : Int)] 5)))
  clear hk hby hn hnp
  go_wp2_with fail
  have HR3 : Hid ((w3.alloc (.cells #[.int .u8 (n : Int)] 5)).ownsRow W2.heap.size 5 1 (.slice (some ⟨w3.heap.size, 0, none⟩) 1 1) 1 ([.int .u8 (n : Int)] ++ itb F 0)) := Lib.hid (by simpa [itb] using own_new w3 5 (.int .u8 (n : Int)) W2.heap.size HB3.out.size)
  have HB4 : Hid (Below W2.heap.size W2 (w3.alloc (.cells #[.int .u8 (n : Int)] 5))) := Lib.hid (HB3.out.alloc HB3.out.size _)
  obtain ⟨w4, hw4⟩ : ∃ w4, w4 = w3.alloc (.cells #[.int .u8 (n : Int)] 5) := ⟨_, rfl⟩
  rw [← hw4] at HR3 HB4 ⊢
  clear c0 c0'
  go_loopw [5, 23] (fun v i wr => ∃ (k : Nat), k ≤ n ∧ i = .int .i64 (k : Int) ∧ Hid (Below W2.heap.size W2 wr ∧ wr.ownsRow W2.heap.size 5 1 v (1 + k * 18) ([.int .u8 (n : Int)] ++ itb F k))) (fun _ i _ => n - (intOf i).toNat)
  case atStart => exact ⟨0, by omega, rfl, Lib.hid ⟨HB4.out, HR3.out⟩⟩
  case round =>
    obtain ⟨k, hk, rfl, HI⟩ := hrel
    by_cases hlt : k < n
    · rcases HAD.out with h0 | rfl
      · omega
      have l1 : (0 : Int) ≤ (k : Int) := by omega
      have l2 : (k : Int) < (n : Int) := by omega
      have HBr := Lib.hid HI.out.1
      have HRk := Lib.hid (HC.out wr HBr.out k hlt)
      obtain ⟨⟨ha0, ha1⟩, hb0, hb1⟩ := HBy.out k hlt
      have HIt := Lib.hid (itb_succ F k)
      obtain ⟨a, ha⟩ : ∃ a, a = (F k).1 := ⟨_, rfl⟩
      obtain ⟨b', hb⟩ : ∃ b, b = (F k).2.1 := ⟨_, rfl⟩
      obtain ⟨q, hq⟩ : ∃ q, q = (F k).2.2 := ⟨_, rfl⟩
      rw [← ha, ← hb, ← hq] at HRk HIt
      rw [← ha] at ha0 ha1
      rw [← hb] at hb0 hb1
      obtain ⟨k1, k2, k3, k4⟩ := itmbox wr a b' q
      obtain ⟨W5, hW5⟩ : ∃ W5, W5 = (wr.alloc (.cells lz18 90)).setCells wr.heap.size 0 (lbl a b' q) := ⟨_, rfl⟩
      rw [← hW5] at k2 k3 k4
      have HB5 : Hid (Below W2.heap.size W2 W5) := Lib.hid (HBr.out.trans (k3.mono HBr.out.size))
      have HO5 := Lib.hid (own_below HI.out.2 k3)
      have HK5 := Lib.hid k2
      have HS5 := Lib.hid k4
      have y0 : W5.cell? ⟨wr.heap.size, 0, none⟩ = some (.int .i64 a) := k2.cell 0
      have y1 : W5.cell? ⟨wr.heap.size, 1, none⟩ = some (.int .i64 b') := k2.cell 1
      have O5 := (HO5.out.alloc (.cells #[.int .u8 a, .int .u8 b'] 5))
      have L5 : W2.heap.size ≤ (W5.alloc (.cells #[.int .u8 a, .int .u8 b'] 5)).heap.size := by have := HB5.out.size; simp; omega
      have HN2 := Lib.hid (range_add (Blk.range (Blk.new W5 #[.int .u8 a, .int .u8 b'] 5)))
      have HW5 := Lib.hid hW5
      have HTh := Lib.hid k1
      clear ha hb hq k1 k2 k3 k4 hW5 hk HI HEND HP HPD HBb HZ HBy HO5
      go_wp2_with (first
        | ((with_reducible show wpList _ _ _ (Oper.mk _ (Op.load 90 _) _ _ _ _ :: _) _ _); refine wpList_load_itmo rfl _ rfl _ _ rfl _ _ _ HRk.out ?_)
        | ((with_reducible show wpList _ _ _ (Oper.mk _ (Op.store 90 _ _) _ _ _ _ :: _) _ _); refine wpList_store_itm rfl _ _ rfl _ _ _ _ rfl rfl HTh.out ?_; rw [← HW5.out])
        | (at_builtin; refine wpList_append_own _ rfl _ _ 29 rfl W2.heap.size 5 i0 _ 1 1 Try.underlying29 hi hz0 hz1 hz2 rfl (by omega) _ _ _ rfl O5 _ 2 2 [.int .u8 a, .int .u8 b'] rfl rfl HN2.out (by intro u hu; simp at hu; rcases hu with rfl | rfl <;> rfl) (by unfold maxLen; omega) (by omega) L5 ?_; intro v1 w6 hown6 hg6 _; have L6 := Lib.hid (Nat.le_trans L5 hg6.size); have HN6 := Lib.hid (range_add (itm_box (Blk.grown (Blk.keep HK5.out (below_alloc _ _)) hg6 (Blk.apart (Blk.keep HK5.out (below_alloc _ _)) O5 (by decide))))); have HB6 := Lib.hid ((HB5.out.alloc HB5.out.size _).grown hg6 L5 (fun b hb => own_block O5 hb.symm)); clear hg6)
        | (at_builtin; refine wpList_append_own _ rfl _ _ 29 rfl W2.heap.size 5 i0 _ 1 1 Try.underlying29 hi hz0 hz1 hz2 rfl (by omega) _ _ _ rfl hown6 _ 16 16 (kl q.1 q.2) rfl (kl_len _ _) HN6.out (kl_one _ _) (by unfold maxLen; omega) (by omega) L6.out ?_; intro v2 w7 hown7 hg7 _))
      have e7 : [Value.int .u8 (n : Int)] ++ itb F (k + 1) = ([Value.int .u8 (n : Int)] ++ itb F k ++ [.int .u8 a, .int .u8 b']) ++ kl q.1 q.2 := by rw [HIt.out]; simp only [List.append_assoc]
      go_roundw
      case rel => exact ⟨k + 1, by omega, by go_num, Lib.hid ⟨HB6.out.grown hg7 L6.out (fun b hb => own_block hown6 hb.symm), by rw [e7, show 1 + (k + 1) * 18 = 1 + k * 18 + 2 + 16 by omega]; exact hown7⟩⟩
      case measure => simp [intOf]; omega
    · obtain rfl : n = k := by omega
      have l3 : ¬ ((n : Int) < (n : Int)) := by omega
      have HBr := Lib.hid HI.out.1
      have HOr := Lib.hid HI.out.2
      have hf := Blk.keep HE.out.2.2 HBr.out
      have c1 := Hdx.c1 hf
      clear hf HI HC HBy hk hlt HR3 HB4
      go_wp2_with fail
      refine (appendNumber_any W2.heap.size _ b _ _ wr HBb.out HBr.out.size (by omega) HOr.out).mono ?_
      rintro e w8 ⟨v8, rfl, ho8, hb8, -⟩
      have HB8 := Lib.hid (HBr.out.trans hb8)
      have O8 := ho8.alloc (.cells #[.int .u8 (np : Int)] 5)
      have L8 : W2.heap.size ≤ (w8.alloc (.cells #[.int .u8 (np : Int)] 5)).heap.size := by have := HB8.out.size; simp; omega
      have HN8 := Lib.hid (range_add (Blk.range (Blk.new w8 #[.int .u8 (np : Int)] 5)))
      have hf := Blk.keep HE.out.2.2 HB8.out
      have c2 := Hdx.c2 hf
      clear hf ho8 hb8 c1 l3
      go_wp2_with (at_builtin; refine wpList_append_own _ rfl _ _ 29 rfl W2.heap.size 5 i0 _ 1 1 Try.underlying29 hi hz0 hz1 hz2 rfl (by omega) _ _ _ rfl O8 _ 1 1 [.int .u8 (np : Int)] rfl rfl HN8.out (by intro u hu; simp at hu; subst hu; rfl) (by unfold maxLen; omega) (by omega) L8 ?_; intro v9 w9 hown9 hg9 _; have HB9 := Lib.hid ((HB8.out.alloc HB8.out.size _).grown hg9 L8 (fun b hb => own_block O8 hb.symm)); have HO9 := Lib.hid hown9; clear hg9 hown9; have c3 := Hdx.c2 (Blk.keep HE.out.2.2 HB9.out))
      clear c2 c3 O8 L8 HN8 HB8 HBr HOr
      go_loopw [5, 57] (fun v i wr => ∃ (k : Nat), k ≤ np ∧ i = .int .i64 (k : Int) ∧ Hid (Below W2.heap.size W2 wr ∧ wr.ownsRow W2.heap.size 5 1 v (1 + n * 18 + 8 + 1 + k * 16) (([.int .u8 (n : Int)] ++ itb F n ++ bl (lowb b 8) ++ [.int .u8 (np : Int)]) ++ ptb G k))) (fun _ i _ => np - (intOf i).toNat)
      case atStart => exact ⟨0, by omega, rfl, Lib.hid ⟨HB9.out, by simpa [ptb] using HO9.out⟩⟩
      case round =>
        obtain ⟨k, hk, rfl, HI⟩ := hrel
        by_cases hlt : k < np
        · rcases HPD.out with h0 | rfl
          · omega
          have l1 : (0 : Int) ≤ (k : Int) := by omega
          have l2 : (k : Int) < (np : Int) := by omega
          have HBr := Lib.hid HI.out.1
          have HOr := Lib.hid HI.out.2
          have HRk := Lib.hid (HP.out wr HBr.out k hlt).1
          obtain ⟨ho1, ho2⟩ := (HP.out wr HBr.out k hlt).2
          have HIt := Lib.hid (ptb_succ G k)
          obtain ⟨p1, hp1⟩ : ∃ p, p = (G k).1 := ⟨_, rfl⟩
          obtain ⟨p2, hp2⟩ : ∃ p, p = (G k).2 := ⟨_, rfl⟩
          rw [← hp1] at ho1
          rw [← hp2] at ho2
          rw [← hp1, ← hp2] at HRk HIt
          have HPk := Lib.hid (And.intro ho1 ho2)
          have k1 := Blk.new wr #[Value.int .u64 (p1 : Int), .int .u64 (p2 : Int)] 70
          obtain ⟨W5, hW5⟩ : ∃ W5, W5 = wr.alloc (.cells #[.int .u64 (p1 : Int), .int .u64 (p2 : Int)] 70) := ⟨_, rfl⟩
          have b5 : Below wr.heap.size wr W5 := by rw [hW5]; exact below_alloc _ _
          rw [← hW5] at k1
          have HK5 := Lib.hid k1
          have HB5 : Hid (Below W2.heap.size W2 W5) := Lib.hid (HBr.out.trans (b5.mono HBr.out.size))
          have HO5 := Lib.hid (own_below HOr.out b5)
          have HW5 := Lib.hid hW5
          clear hp1 hp2 ho1 ho2 k1 hW5 b5 hk HI HBb HN HEND HZ
          go_wp2_with ((with_reducible show wpList _ _ _ (Oper.mk _ (Op.load 70 _) _ _ _ _ :: _) _ _); refine wpList_load_mid rfl 70 _ rfl g2 (o2 + k * 2) rfl [.int .u64 (p1 : Int), .int .u64 (p2 : Int)] _ HRk.out Try.underlying70 rfl sizePnt ?_)
          rw [← HW5.out]
          refine (appendNumber_any W2.heap.size _ p1 _ _ W5 HPk.out.1 HB5.out.size (by omega) HO5.out).mono ?_
          rintro e w6 ⟨v6, rfl, ho6, hb6, hk6⟩
          have k6 := hk6 _ _ _ (by decide) HK5.out
          have y1 : w6.cell? ⟨wr.heap.size, 1, none⟩ = some (.int .u64 (p2 : Int)) := k6.cell 1
          have HB6 := Lib.hid (HB5.out.trans hb6)
          have HO6 := Lib.hid ho6
          clear ho6 hb6 hk6 k6
          go_wp2_with fail
          refine (appendNumber_any W2.heap.size _ p2 _ _ w6 HPk.out.2 HB6.out.size (by omega) HO6.out).mono ?_
          rintro e w7 ⟨v7, rfl, ho7, hb7, -⟩
          have HB7 := Lib.hid (HB6.out.trans hb7)
          have HO7 := Lib.hid ho7
          clear ho7 hb7 y1
          go_wp2_with fail
          go_roundw
          case rel => exact ⟨k + 1, by omega, by go_num, Lib.hid ⟨HB7.out, by rw [HIt.out, ← List.append_assoc, ← List.append_assoc, show 1 + n * 18 + 8 + 1 + (k + 1) * 16 = 1 + n * 18 + 8 + 1 + k * 16 + 8 + 8 by omega]; exact HO7.out⟩⟩
          case measure => simp [intOf]; omega
        · obtain rfl : np = k := by omega
          have l4 : ¬ ((np : Int) < (np : Int)) := by omega
          have HBr := Lib.hid HI.out.1
          have O9 := HI.out.2
          have L9 := HBr.out.size
          have HFx : Hid (Hdx wr N (.slice A n m) (.slice Ap np kp) (b : Int) x y) := Lib.hid (Blk.keep HE.out.2.2 HBr.out)
          have HNx := Lib.hid (range_add HFx.out.box)
          clear hk hlt HI HP HPD HAD
          go_wp2_with (first
            | (at_builtin; refine wpList_append_own _ rfl _ _ 29 rfl W2.heap.size 5 i0 _ 1 1 Try.underlying29 hi hz0 hz1 hz2 rfl (by omega) _ _ _ rfl O9 _ 16 16 (kl x.1 x.2) rfl (kl_len _ _) HNx.out (kl_one _ _) (by unfold maxLen; omega) (by omega) L9 ?_; intro v1 w6 hown6 hg6 _; have L6 := Lib.hid (Nat.le_trans L9 hg6.size); have HNy := Lib.hid (range_add (Hdx.chk (Blk.grown HFx.out hg6 (Blk.apart HFx.out O9 (by decide))))); have HB6 := Lib.hid (HBr.out.grown hg6 L9 (fun b hb => own_block O9 hb.symm)); clear hg6)
            | (at_builtin; refine wpList_append_own _ rfl _ _ 29 rfl W2.heap.size 5 i0 _ 1 1 Try.underlying29 hi hz0 hz1 hz2 rfl (by omega) _ _ _ rfl hown6 _ 16 16 (kl y.1 y.2) rfl (kl_len _ _) HNy.out (kl_one _ _) (by unfold maxLen; omega) (by omega) L6.out ?_; intro v2 w7 hown7 hg7 _))
          have e7 : hbs n b np F G x y = ([Value.int .u8 (n : Int)] ++ itb F n ++ bl (lowb b 8) ++ [.int .u8 (np : Int)] ++ ptb G np) ++ kl x.1 x.2 ++ kl y.1 y.2 := rfl
          have H3 := Lib.hid (HEND.out w7 (HB6.out.grown hg7 L6.out (fun b hb => own_block hown6 hb.symm)))
          exact bodyPost_ret (results_tmp2 rfl _ _ _) rfl ⟨.inr ⟨HZ.out, _, rfl, by rw [e7, show hln n np = 1 + n * 18 + 8 + 1 + np * 16 + 16 + 16 by unfold hln; omega]; exact own_mono hown7 (by rw [HE.out.1]; omega)⟩, H3.out⟩
end Go.Proofs.Ytchkgccnipejhaa

/-
  Encode, the specification's.
-/
namespace Go.Proofs.Ytchkgccnipejhaa
open Go.RowKit TR L2 L2.SP
set_option linter.unusedVariables false
set_option linter.unusedSimpArgs false

set_option maxRecDepth 100000 in
set_option maxHeartbeats 400000 in
theorem refEncode_any (b g o n m g2 o2 np kp : Nat) (A Ap : Option Addr) (x y : Nat × Nat) (F : Nat → Int × Int × (Nat × Nat)) (G : Nat → Nat × Nat) (w : World) (hb : b < M) (hn : n ≤ 4398046511104) (hnp : np ≤ 8796093022208) (hnm : n ≤ m) (hkp : np ≤ kp)
    (had : n = 0 ∨ A = some ⟨g, o, none⟩) (hpd : np = 0 ∨ Ap = some ⟨g2, o2, none⟩)
    (hc : ∀ i, i < n → w.rangeAt g (o + i * 18) (lbl (F i).1 (F i).2.1 (F i).2.2))
    (hp : ∀ i, i < np → w.rangeAt g2 (o2 + i * 2) [.int .u64 ((G i).1 : Int), .int .u64 ((G i).2 : Int)] ∧ Ok (G i)) :
    Calls Try.prog 17 #[.agg (hdi (.slice A n m) (.slice Ap np kp) (b : Int) x y).toArray] w fun e w' =>
      ((ckn n np F ≠ 0 ∧ e = .returned (.tuple #[.slice none 0 0, .int .i64 (ckn n np F)])) ∨ (ckn n np F = 0 ∧ ∃ v, e = .returned (.tuple #[v, .int .i64 0]) ∧ w'.ownsRow w.heap.size 5 1 v (hln n np) (hbs n b np F G x y))) ∧ Below w.heap.size w w' := by
  obtain ⟨i0, hi, hz0, hz1, hz2⟩ := info_parts info5
  obtain ⟨N, hN⟩ : ∃ N, N = w.heap.size := ⟨_, rfl⟩
  obtain ⟨W2, hW2⟩ : ∃ W2, W2 = w.alloc (.cells (hdi (.slice A n m) (.slice Ap np kp) (b : Int) x y).toArray 28) := ⟨_, rfl⟩
  have s2 : W2.heap.size = N + 1 := by rw [hW2, hN]; simp
  have b2 : Below N w W2 := by rw [hW2, hN]; exact below_alloc _ _
  have e2 : Hdx W2 N (.slice A n m) (.slice Ap np kp) (b : Int) x y := by
    have h := Blk.new w (hdi (.slice A n m) (.slice Ap np kp) (b : Int) x y).toArray 28
    rw [← hN] at h; rw [hW2]; exact h
  have HE : Hid (W2.heap.size = N + 1 ∧ Below N w W2 ∧ Hdx W2 N (.slice A n m) (.slice Ap np kp) (b : Int) x y) := Lib.hid ⟨s2, b2, e2⟩
  have HC : Hid (∀ w1, Below W2.heap.size W2 w1 → ∀ i, i < n → w1.rangeAt g (o + i * 18) (lbl (F i).1 (F i).2.1 (F i).2.2)) := Lib.hid (fun w1 hb i hi j u hu => by
    have hb2 : Below N w w1 := b2.trans (hb.mono (by rw [s2]; omega))
    exact (hb2.cell (p := ⟨g, o + i * 18 + j, none⟩) (by rw [hN]; exact World.block_lt_of_cell? w _ (hc i hi j u hu))).trans (hc i hi j u hu))
  have HP : Hid (∀ w1, Below W2.heap.size W2 w1 → ∀ i, i < np → w1.rangeAt g2 (o2 + i * 2) [.int .u64 ((G i).1 : Int), .int .u64 ((G i).2 : Int)] ∧ Ok (G i)) := Lib.hid (fun w1 hb i hi => ⟨fun j u hu => by
    have hb2 : Below N w w1 := b2.trans (hb.mono (by rw [s2]; omega))
    exact (hb2.cell (p := ⟨g2, o2 + i * 2 + j, none⟩) (by rw [hN]; exact World.block_lt_of_cell? w _ ((hp i hi).1 j u hu))).trans ((hp i hi).1 j u hu), (hp i hi).2⟩)
  have HEND := Lib.hid (fun (w3 : World) (hb : Below W2.heap.size W2 w3) => (HE.out.2.1.trans (hb.mono (by rw [HE.out.1]; omega)) : Below N w w3))
  have HAD := Lib.hid had
  have HPD := Lib.hid hpd
  have HBb := Lib.hid hb
  have HN := Lib.hid hN
  have HW := Lib.hid hW2
  have HCKm : Hid (64 < n ∨ 8 < np → ckn n np F = 4) := Lib.hid ckn_many
  have HCKo : Hid (¬ (64 < n ∨ 8 < np) → (∀ i, i < n → isb8 (F i).1 = true ∧ isb8 (F i).2.1 = true) → ckn n np F = 0) := Lib.hid ckn_ok
  have HCKb : Hid (¬ (64 < n ∨ 8 < np) → ∀ i, i < n → isb8 (F i).1 = false ∨ isb8 (F i).2.1 = false → ckn n np F = 2) := Lib.hid ckn_bad
  have c0 := Hdx.c0 e2
  have c2 := Hdx.c2 e2
  rw [hW2, hN] at c0 c2
  rw [← hN]
  clear hN hW2 s2 b2 e2 hc hp had hpd hb
  by_cases h64 : 64 < n
  · have HF := Lib.hid (HCKm.out (.inl h64))
    have h64' : (64 : Int) < (n : Int) := by omega
    have H3 := Lib.hid (HEND.out W2 (Below.refl _ _))
    go_enter Try.func17, Try.ntmps17
    go_wp2_with fail
    exact bodyPost_ret (results_tmp2 rfl _ _ _) rfl ⟨.inl ⟨by rw [HF.out]; decide, by rw [HF.out]; rfl⟩, by rw [← HW.out]; exact H3.out⟩
  have h64' : ¬ ((64 : Int) < (n : Int)) := by omega
  by_cases h8 : 8 < np
  · have HF := Lib.hid (HCKm.out (.inr h8))
    have h8' : (8 : Int) < (np : Int) := by omega
    have H3 := Lib.hid (HEND.out W2 (Below.refl _ _))
    go_enter Try.func17, Try.ntmps17
    go_wp2_with fail
    exact bodyPost_ret (results_tmp2 rfl _ _ _) rfl ⟨.inl ⟨by rw [HF.out]; decide, by rw [HF.out]; rfl⟩, by rw [← HW.out]; exact H3.out⟩
  have h8' : ¬ ((8 : Int) < (np : Int)) := by omega
  have hn64 : n ≤ 64 := by omega
  have hnp8 : np ≤ 8 := by omega
  replace HCKo := Lib.hid (HCKo.out (by omega))
  replace HCKb := Lib.hid (HCKb.out (by omega))
  clear HCKm hn hnp h64 h8
  go_enter Try.func17, Try.ntmps17
  go_wp2_with fail
  rw [← HW.out, ← HN.out]
  have HR3 : Hid ((W2.alloc (.cells #[.int .u8 (n : Int)] 5)).ownsRow W2.heap.size 5 1 (.slice (some ⟨N + 1, 0, none⟩) 1 1) 1 ([.int .u8 (n : Int)] ++ itb F 0)) := Lib.hid (by rw [show N + 1 = W2.heap.size from HE.out.1.symm]; simpa [itb] using own_new W2 5 (.int .u8 (n : Int)) W2.heap.size (Nat.le_refl _))
  have HB4 : Hid (Below W2.heap.size W2 (W2.alloc (.cells #[.int .u8 (n : Int)] 5))) := Lib.hid (below_alloc _ _)
  clear c0 c2 h64' h8'
  go_loopw [4, 5] (fun v i wr => ∃ (k : Nat), k ≤ n ∧ i = .int .i64 (k : Int) ∧ Hid (Below W2.heap.size W2 wr ∧ wr.ownsRow W2.heap.size 5 1 v (1 + k * 18) ([.int .u8 (n : Int)] ++ itb F k) ∧ ∀ j, j < k → isb8 (F j).1 = true ∧ isb8 (F j).2.1 = true)) (fun _ i _ => n - (intOf i).toNat)
  case atStart => exact ⟨0, by omega, rfl, Lib.hid ⟨HB4.out, HR3.out, fun j h => by omega⟩⟩
  case round =>
    obtain ⟨k, hk, rfl, HI⟩ := hrel
    have HBr := Lib.hid HI.out.1
    have cz := Hdx.c0 (Blk.keep HE.out.2.2 HBr.out)
    by_cases hlt : k < n
    · rcases HAD.out with h0 | rfl
      · omega
      have l1 : (0 : Int) ≤ (k : Int) := by omega
      have l2 : (k : Int) < (n : Int) := by omega
      have HRk := Lib.hid (HC.out wr HBr.out k hlt)
      have HIt := Lib.hid (itb_succ F k)
      have HNo := Lib.hid (HCKb.out k hlt)
      have HAx : Hid (isb8 (F k).1 = true → isb8 (F k).2.1 = true → ∀ j, j < k + 1 → isb8 (F j).1 = true ∧ isb8 (F j).2.1 = true) := Lib.hid (fun h h2 j hj => by
        rcases Nat.lt_or_ge j k with h1 | h1
        · exact HI.out.2.2 j h1
        · obtain rfl : j = k := by omega
          exact ⟨h, h2⟩)
      obtain ⟨a, ha⟩ : ∃ a, a = (F k).1 := ⟨_, rfl⟩
      obtain ⟨b', hb⟩ : ∃ b, b = (F k).2.1 := ⟨_, rfl⟩
      obtain ⟨q, hq⟩ : ∃ q, q = (F k).2.2 := ⟨_, rfl⟩
      rw [← ha, ← hb, ← hq] at HRk HIt
      rw [← ha, ← hb] at HNo HAx
      obtain ⟨k1, k2, k3, k4⟩ := itmbox wr a b' q
      obtain ⟨W5, hW5⟩ : ∃ W5, W5 = (wr.alloc (.cells lz18 90)).setCells wr.heap.size 0 (lbl a b' q) := ⟨_, rfl⟩
      rw [← hW5] at k2 k3 k4
      have HB5 : Hid (Below W2.heap.size W2 W5) := Lib.hid (HBr.out.trans (k3.mono HBr.out.size))
      have HO5 := Lib.hid (own_below HI.out.2.1 k3)
      have HK5 := Lib.hid k2
      have y0 : W5.cell? ⟨wr.heap.size, 0, none⟩ = some (.int .i64 a) := k2.cell 0
      have y1 : W5.cell? ⟨wr.heap.size, 1, none⟩ = some (.int .i64 b') := k2.cell 1
      have HW5 := Lib.hid hW5
      have HTh := Lib.hid k1
      clear ha hb hq k1 k2 k3 k4 hW5 hk HI HCKo HCKb HP HPD HBb HR3 HB4
      by_cases ha0 : a < 0
      · have q1 : ¬ (0 ≤ a) := by omega
        have HF := Lib.hid (HNo.out (by first | exact .inl (isb8_no (by omega)) | exact .inr (isb8_no (by omega))))
        have H3 := Lib.hid (HEND.out W5 HB5.out)
        clear HNo
        go_wp2_with (first
          | ((with_reducible show wpList _ _ _ (Oper.mk _ (Op.load 90 _) _ _ _ _ :: _) _ _); refine wpList_load_itmo rfl _ rfl _ _ rfl _ _ _ HRk.out ?_)
          | ((with_reducible show wpList _ _ _ (Oper.mk _ (Op.store 90 _ _) _ _ _ _ :: _) _ _); refine wpList_store_itm rfl _ _ rfl _ _ _ _ rfl rfl HTh.out ?_; rw [← HW5.out]))
        exact bodyPost_ret (results_tmp2 rfl _ _ _) rfl ⟨.inl ⟨by rw [HF.out]; decide, by rw [HF.out]; rfl⟩, H3.out⟩
      have ha0' : 0 ≤ a := by omega
      by_cases ha1 : 255 < a
      · have q1 : ¬ (a ≤ 255) := by omega
        have HF := Lib.hid (HNo.out (by first | exact .inl (isb8_no (by omega)) | exact .inr (isb8_no (by omega))))
        have H3 := Lib.hid (HEND.out W5 HB5.out)
        clear HNo
        go_wp2_with (first
          | ((with_reducible show wpList _ _ _ (Oper.mk _ (Op.load 90 _) _ _ _ _ :: _) _ _); refine wpList_load_itmo rfl _ rfl _ _ rfl _ _ _ HRk.out ?_)
          | ((with_reducible show wpList _ _ _ (Oper.mk _ (Op.store 90 _ _) _ _ _ _ :: _) _ _); refine wpList_store_itm rfl _ _ rfl _ _ _ _ rfl rfl HTh.out ?_; rw [← HW5.out]))
        exact bodyPost_ret (results_tmp2 rfl _ _ _) rfl ⟨.inl ⟨by rw [HF.out]; decide, by rw [HF.out]; rfl⟩, H3.out⟩
      have ha1' : a ≤ 255 := by omega
      by_cases hb0 : b' < 0
      · have q1 : ¬ (0 ≤ b') := by omega
        have HF := Lib.hid (HNo.out (by first | exact .inl (isb8_no (by omega)) | exact .inr (isb8_no (by omega))))
        have H3 := Lib.hid (HEND.out W5 HB5.out)
        clear HNo
        go_wp2_with (first
          | ((with_reducible show wpList _ _ _ (Oper.mk _ (Op.load 90 _) _ _ _ _ :: _) _ _); refine wpList_load_itmo rfl _ rfl _ _ rfl _ _ _ HRk.out ?_)
          | ((with_reducible show wpList _ _ _ (Oper.mk _ (Op.store 90 _ _) _ _ _ _ :: _) _ _); refine wpList_store_itm rfl _ _ rfl _ _ _ _ rfl rfl HTh.out ?_; rw [← HW5.out]))
        exact bodyPost_ret (results_tmp2 rfl _ _ _) rfl ⟨.inl ⟨by rw [HF.out]; decide, by rw [HF.out]; rfl⟩, H3.out⟩
      have hb0' : 0 ≤ b' := by omega
      by_cases hb1 : 255 < b'
      · have q1 : ¬ (b' ≤ 255) := by omega
        have HF := Lib.hid (HNo.out (by first | exact .inl (isb8_no (by omega)) | exact .inr (isb8_no (by omega))))
        have H3 := Lib.hid (HEND.out W5 HB5.out)
        clear HNo
        go_wp2_with (first
          | ((with_reducible show wpList _ _ _ (Oper.mk _ (Op.load 90 _) _ _ _ _ :: _) _ _); refine wpList_load_itmo rfl _ rfl _ _ rfl _ _ _ HRk.out ?_)
          | ((with_reducible show wpList _ _ _ (Oper.mk _ (Op.store 90 _ _) _ _ _ _ :: _) _ _); refine wpList_store_itm rfl _ _ rfl _ _ _ _ rfl rfl HTh.out ?_; rw [← HW5.out]))
        exact bodyPost_ret (results_tmp2 rfl _ _ _) rfl ⟨.inl ⟨by rw [HF.out]; decide, by rw [HF.out]; rfl⟩, H3.out⟩
      have hb1' : b' ≤ 255 := by omega
      have HAy := Lib.hid (HAx.out (isb8_yes ha0' ha1') (isb8_yes hb0' hb1'))
      have O5 := (HO5.out.alloc (.cells #[.int .u8 a, .int .u8 b'] 5))
      have L5 : W2.heap.size ≤ (W5.alloc (.cells #[.int .u8 a, .int .u8 b'] 5)).heap.size := by have := HB5.out.size; simp; omega
      have HN2 := Lib.hid (range_add (Blk.range (Blk.new W5 #[.int .u8 a, .int .u8 b'] 5)))
      clear HNo HAx HEND HO5
      go_wp2_with (first
        | ((with_reducible show wpList _ _ _ (Oper.mk _ (Op.load 90 _) _ _ _ _ :: _) _ _); refine wpList_load_itmo rfl _ rfl _ _ rfl _ _ _ HRk.out ?_)
        | ((with_reducible show wpList _ _ _ (Oper.mk _ (Op.store 90 _ _) _ _ _ _ :: _) _ _); refine wpList_store_itm rfl _ _ rfl _ _ _ _ rfl rfl HTh.out ?_; rw [← HW5.out])
        | (at_builtin; refine wpList_append_own _ rfl _ _ 29 rfl W2.heap.size 5 i0 _ 1 1 Try.underlying29 hi hz0 hz1 hz2 rfl (by omega) _ _ _ rfl O5 _ 2 _ [.int .u8 a, .int .u8 b'] rfl rfl HN2.out (by intro u hu; simp at hu; rcases hu with rfl | rfl <;> rfl) (by unfold maxLen; omega) (by omega) L5 ?_; intro v1 w6 hown6 hg6 _; have L6 := Lib.hid (Nat.le_trans L5 hg6.size); have HN6 := Lib.hid (range_add (itm_box (Blk.grown (Blk.keep HK5.out (below_alloc _ _)) hg6 (Blk.apart (Blk.keep HK5.out (below_alloc _ _)) O5 (by decide))))); have HB6 := Lib.hid ((HB5.out.alloc HB5.out.size _).grown hg6 L5 (fun b hb => own_block O5 hb.symm)); clear hg6)
        | (at_builtin; refine wpList_append_own _ rfl _ _ 29 rfl W2.heap.size 5 i0 _ 1 1 Try.underlying29 hi hz0 hz1 hz2 rfl (by omega) _ _ _ rfl hown6 _ 16 _ (kl q.1 q.2) rfl (kl_len _ _) HN6.out (kl_one _ _) (by unfold maxLen; omega) (by omega) L6.out ?_; intro v2 w7 hown7 hg7 _))
      have e7 : [Value.int .u8 (n : Int)] ++ itb F (k + 1) = ([Value.int .u8 (n : Int)] ++ itb F k ++ [.int .u8 a, .int .u8 b']) ++ kl q.1 q.2 := by rw [HIt.out]; simp only [List.append_assoc]
      go_roundw
      case rel => exact ⟨k + 1, by omega, by go_num, Lib.hid ⟨HB6.out.grown hg7 L6.out (fun b hb => own_block hown6 hb.symm), by rw [e7, show 1 + (k + 1) * 18 = 1 + k * 18 + 2 + 16 by omega]; exact hown7, HAy.out⟩⟩
      case measure => simp [intOf]; omega
    · obtain rfl : n = k := by omega
      have l3 : ¬ ((n : Int) < (n : Int)) := by omega
      have HOr := Lib.hid HI.out.2.1
      have HZ := Lib.hid (HCKo.out HI.out.2.2)
      have hf := Blk.keep HE.out.2.2 HBr.out
      have c1 := Hdx.c1 hf
      clear hf HI HC hk hlt HR3 HB4 HCKo HCKb
      go_wp2_with fail
      refine (refBytes_any b 8 wr HBb.out (by omega)).mono ?_
      rintro e w5 ⟨v5, rfl, ho5, hb5⟩
      have HB5 := Lib.hid (HBr.out.trans (hb5.mono HBr.out.size))
      have O4 := own_below HOr.out hb5
      obtain ⟨g5, c5, hv5, q1, q2, q3, q4⟩ := own_slice ho5 (by omega)
      subst hv5
      have HN5 := Lib.hid (range_add (w := w5) (b := g5) (o := 0) (xs := bl (lowb b 8)) (fun j u hu => by rw [Nat.zero_add]; exact q4 j u hu))
      have L5 := HB5.out.size
      clear ho5 hb5 q1 q2 q3 q4 c1 l3
      go_wp2_with (first
        | (at_builtin; refine wpList_append_own _ rfl _ _ 29 rfl W2.heap.size 5 i0 _ 1 1 Try.underlying29 hi hz0 hz1 hz2 rfl (by omega) _ _ _ rfl O4 _ 8 _ (bl (lowb b 8)) rfl (by simp [bl, lowb_len]) HN5.out (bl_one _) (by unfold maxLen; omega) (by omega) L5 ?_; intro v6 w6 hown6 hg6 _; have HB6 := Lib.hid (HB5.out.grown hg6 L5 (fun b hb => own_block O4 hb.symm)); have O6 := hown6.alloc (.cells #[.int .u8 (np : Int)] 5); have L6 : W2.heap.size ≤ (w6.alloc (.cells #[.int .u8 (np : Int)] 5)).heap.size := (by have := HB6.out.size; simp; omega); have HN6 := Lib.hid (range_add (Blk.range (Blk.new w6 #[.int .u8 (np : Int)] 5))); have c2 := Hdx.c2 (Blk.keep HE.out.2.2 HB6.out); clear hg6 O4 HN5)
        | (at_builtin; refine wpList_append_own _ rfl _ _ 29 rfl W2.heap.size 5 i0 _ 1 1 Try.underlying29 hi hz0 hz1 hz2 rfl (by omega) _ _ _ rfl O6 _ 1 _ [.int .u8 (np : Int)] rfl rfl HN6.out (by intro u hu; simp at hu; subst hu; rfl) (by unfold maxLen; omega) (by omega) L6 ?_; intro v9 w9 hown9 hg9 _; have HB9 := Lib.hid ((HB6.out.alloc HB6.out.size _).grown hg9 L6 (fun b hb => own_block O6 hb.symm)); have HO9 := Lib.hid hown9; clear hg9 hown9))
      clear c2 O6 L6 HN6 HB6 HB5 hown6 HBr HOr L5
      go_loopw [4, 7] (fun v i wr => ∃ (k : Nat), k ≤ np ∧ i = .int .i64 (k : Int) ∧ Hid (Below W2.heap.size W2 wr ∧ wr.ownsRow W2.heap.size 5 1 v (1 + n * 18 + 8 + 1 + k * 16) (([.int .u8 (n : Int)] ++ itb F n ++ bl (lowb b 8) ++ [.int .u8 (np : Int)]) ++ ptb G k))) (fun _ i _ => np - (intOf i).toNat)
      case atStart => exact ⟨0, by omega, rfl, Lib.hid ⟨HB9.out, by simpa [ptb] using HO9.out⟩⟩
      case round =>
        obtain ⟨k, hk, rfl, HI⟩ := hrel
        have HBr := Lib.hid HI.out.1
        have cz := Hdx.c2 (Blk.keep HE.out.2.2 HBr.out)
        by_cases hlt : k < np
        · rcases HPD.out with h0 | rfl
          · omega
          have l1 : (0 : Int) ≤ (k : Int) := by omega
          have l2 : (k : Int) < (np : Int) := by omega
          have HOr := Lib.hid HI.out.2
          have HRw := Lib.hid (fun w1 hb => (HP.out w1 hb k hlt).1)
          obtain ⟨ho1, ho2⟩ := (HP.out wr HBr.out k hlt).2
          have HIt := Lib.hid (ptb_succ G k)
          obtain ⟨p1, hp1⟩ : ∃ p, p = (G k).1 := ⟨_, rfl⟩
          obtain ⟨p2, hp2⟩ : ∃ p, p = (G k).2 := ⟨_, rfl⟩
          rw [← hp1] at ho1
          rw [← hp2] at ho2
          rw [← hp1, ← hp2] at HRw HIt
          have HPk := Lib.hid (And.intro ho1 ho2)
          have z0 : wr.cell? ⟨g2, o2 + k * 2, none⟩ = some (.int .u64 (p1 : Int)) := HRw.out wr HBr.out 0 _ rfl
          clear hp1 hp2 ho1 ho2 hk HI HBb HN HEND HZ HP HAD
          go_wp2_with fail
          refine (refBytes_any p1 8 wr HPk.out.1 (by omega)).mono ?_
          rintro e w5 ⟨v5, rfl, ho5, hb5⟩
          have HB5 := Lib.hid (HBr.out.trans (hb5.mono HBr.out.size))
          have O4 := own_below HOr.out hb5
          obtain ⟨g5, c5, hv5, q1, q2, q3, q4⟩ := own_slice ho5 (by omega)
          subst hv5
          have HN5 := Lib.hid (range_add (w := w5) (b := g5) (o := 0) (xs := bl (lowb p1 8)) (fun j u hu => by rw [Nat.zero_add]; exact q4 j u hu))
          have L5 := HB5.out.size
          clear ho5 hb5 q1 q2 q3 q4 cz z0
          go_wp2_with (at_builtin; refine wpList_append_own _ rfl _ _ 29 rfl W2.heap.size 5 i0 _ 1 1 Try.underlying29 hi hz0 hz1 hz2 rfl (by omega) _ _ _ rfl O4 _ 8 _ (bl (lowb p1 8)) rfl (by simp [bl, lowb_len]) HN5.out (bl_one _) (by unfold maxLen; omega) (by omega) L5 ?_; intro v6 w6 hown6 hg6 _; have HB6 := Lib.hid (HB5.out.grown hg6 L5 (fun b hb => own_block O4 hb.symm)); have HO6 := Lib.hid hown6; have c2 := Hdx.c2 (Blk.keep HE.out.2.2 HB6.out); have z1 : w6.cell? ⟨g2, o2 + k * 2 + 1, none⟩ = some (.int .u64 (p2 : Int)) := HRw.out w6 HB6.out 1 _ rfl; clear hg6 hown6 O4 HN5)
          refine (refBytes_any p2 8 w6 HPk.out.2 (by omega)).mono ?_
          rintro e w7 ⟨v7, rfl, ho7, hb7⟩
          have HB7 := Lib.hid (HB6.out.trans (hb7.mono HB6.out.size))
          have O7 := own_below HO6.out hb7
          obtain ⟨g7, c7, hv7, q1, q2, q3, q4⟩ := own_slice ho7 (by omega)
          subst hv7
          have HN7 := Lib.hid (range_add (w := w7) (b := g7) (o := 0) (xs := bl (lowb p2 8)) (fun j u hu => by rw [Nat.zero_add]; exact q4 j u hu))
          have L7 := HB7.out.size
          clear ho7 hb7 q1 q2 q3 q4 c2 z1
          go_wp2_with (at_builtin; refine wpList_append_own _ rfl _ _ 29 rfl W2.heap.size 5 i0 _ 1 1 Try.underlying29 hi hz0 hz1 hz2 rfl (by omega) _ _ _ rfl O7 _ 8 _ (bl (lowb p2 8)) rfl (by simp [bl, lowb_len]) HN7.out (bl_one _) (by unfold maxLen; omega) (by omega) L7 ?_; intro v8 w8 hown8 hg8 _)
          go_roundw
          case rel => exact ⟨k + 1, by omega, by go_num, Lib.hid ⟨HB7.out.grown hg8 L7 (fun b hb => own_block O7 hb.symm), by rw [HIt.out, ← List.append_assoc, ← List.append_assoc, show 1 + n * 18 + 8 + 1 + (k + 1) * 16 = 1 + n * 18 + 8 + 1 + k * 16 + 8 + 8 by omega]; exact hown8⟩⟩
          case measure => simp [intOf]; omega
        · obtain rfl : np = k := by omega
          have l4 : ¬ ((np : Int) < (np : Int)) := by omega
          have O9 := HI.out.2
          have L9 := HBr.out.size
          have HFx : Hid (Hdx wr N (.slice A n m) (.slice Ap np kp) (b : Int) x y) := Lib.hid (Blk.keep HE.out.2.2 HBr.out)
          have HNx := Lib.hid (range_add HFx.out.box)
          clear hk hlt HI HP HPD HAD
          go_wp2_with (first
            | (at_builtin; refine wpList_append_own _ rfl _ _ 29 rfl W2.heap.size 5 i0 _ 1 1 Try.underlying29 hi hz0 hz1 hz2 rfl (by omega) _ _ _ rfl O9 _ 16 _ (kl x.1 x.2) rfl (kl_len _ _) HNx.out (kl_one _ _) (by unfold maxLen; omega) (by omega) L9 ?_; intro v1 w6 hown6 hg6 _; have L6 := Lib.hid (Nat.le_trans L9 hg6.size); have HNy := Lib.hid (range_add (Hdx.chk (Blk.grown HFx.out hg6 (Blk.apart HFx.out O9 (by decide))))); have HB6 := Lib.hid (HBr.out.grown hg6 L9 (fun b hb => own_block O9 hb.symm)); clear hg6)
            | (at_builtin; refine wpList_append_own _ rfl _ _ 29 rfl W2.heap.size 5 i0 _ 1 1 Try.underlying29 hi hz0 hz1 hz2 rfl (by omega) _ _ _ rfl hown6 _ 16 _ (kl y.1 y.2) rfl (kl_len _ _) HNy.out (kl_one _ _) (by unfold maxLen; omega) (by omega) L6.out ?_; intro v2 w7 hown7 hg7 _))
          have e7 : hbs n b np F G x y = ([Value.int .u8 (n : Int)] ++ itb F n ++ bl (lowb b 8) ++ [.int .u8 (np : Int)] ++ ptb G np) ++ kl x.1 x.2 ++ kl y.1 y.2 := rfl
          have H3 := Lib.hid (HEND.out w7 (HB6.out.grown hg7 L6.out (fun b hb => own_block hown6 hb.symm)))
          exact bodyPost_ret (results_tmp2 rfl _ _ _) rfl ⟨.inr ⟨HZ.out, _, rfl, by rw [e7, show hln n np = 1 + n * 18 + 8 + 1 + np * 16 + 16 + 16 by unfold hln; omega]; exact own_mono hown7 (by rw [HE.out.1]; omega)⟩, H3.out⟩
end Go.Proofs.Ytchkgccnipejhaa

/-
  Reading bytes, the program's.
-/
namespace Go.Proofs.Ytchkgccnipejhaa
open Go.RowKit TR L2 L2.SP
set_option linter.unusedVariables false
set_option linter.unusedSimpArgs false

/-- A reader: what is left of L bytes behind the first p. -/
def Rdr (w : World) (r g o L p : Nat) : Prop := ∃ A c, Box w r (.slice A (L - p) c) 106 ∧ L - p ≤ c ∧ c ≤ maxLen ∧ (L - p = 0 ∨ A = some ⟨g, o + p, none⟩) ∧ (A = none → c = 0) ∧ (∀ a, A = some a → a.spot = none)
theorem Rdr.below {w w' : World} {m r g o L p : Nat} (h : Rdr w r g o L p) (hb : Below m w w') (hm : r < m) : Rdr w' r g o L p := by
  obtain ⟨A, c, h1, h2⟩ := h
  exact ⟨A, c, h1.below hb hm, h2⟩
theorem Rdr.lt {w : World} {r g o L p : Nat} (h : Rdr w r g o L p) : r < w.heap.size := by
  obtain ⟨A, c, h1, h2⟩ := h
  exact h1.lt

set_option maxRecDepth 100000 in
set_option maxHeartbeats 400000 in
theorem take_any (r k g o L p : Nat) (w : World) (hr : Rdr w r g o L p) (hk : k ≤ 64) :
    Calls Try.prog 134 #[.pointer (some ⟨r, 0, none⟩), .int .i64 (k : Int)] w fun e w' => (∃ A c, e = .returned (.slice A (min k (L - p)) c) ∧ min k (L - p) ≤ c ∧ (min k (L - p) = 0 ∨ A = some ⟨g, o + p, none⟩)) ∧ Rdr w' r g o L (p + k) ∧ w.grownBy w' (some r) ∧ w'.heap.size = w.heap.size := by
  obtain ⟨A, m, hb, hnm, hm, hA, hz, hsp⟩ := hr
  unfold maxLen at hm
  have c0 : w.cell? ⟨r, 0, none⟩ = some (.slice A (L - p) m) := hb.cell
  have f0 := hb.fr
  have HL : Hid (L - (p + k) = (L - p) - min k (L - p)) := Lib.hid (by omega)
  have HPq : Hid (L - p ≠ 0 → min k (L - p) ≤ L - p) := Lib.hid (fun _ => Nat.min_le_right _ _)
  have HPk : Hid (L - p - min k (L - p) ≠ 0 → min k (L - p) = k) := Lib.hid (fun h => by omega)
  obtain ⟨n, hn⟩ : ∃ n, n = L - p := ⟨_, rfl⟩
  rw [← hn] at hb hnm hA c0 HL HPk ⊢
  obtain ⟨q, hq⟩ : ∃ q, q = min k n := ⟨_, rfl⟩
  rw [← hq] at HL HPk ⊢
  have hmin : min (k : Int) (n : Int) = (q : Int) := by omega
  have hqn : q ≤ n := by omega
  have HB := Lib.hid hb
  have HA := Lib.hid hA
  have HZ := Lib.hid hz
  have HG := Lib.hid (fun v => grownBy_setCell' w r v)
  clear hq hn hb HPq hA hz
  rcases A with _ | ⟨g1, o1, s1⟩
  · obtain rfl := HZ.out rfl
    obtain rfl : n = 0 := by omega
    obtain rfl : q = 0 := by omega
    have hmin0 : min (k : Int) 0 = 0 := by omega
    clear hsp hmin
    go_enter Try.func134, Try.ntmps134
    go_wp2_with fail
    go_ret
    exact ⟨by first | exact ⟨_, _, rfl, by omega, .inl rfl⟩ | exact ⟨_, _, rfl⟩, ⟨_, _, by rw [HL.out]; exact HB.out.set _, by rw [HL.out]; omega, (by unfold maxLen; omega), .inl (by rw [HL.out]), fun _ => rfl, fun a h => by cases h⟩, HG.out _, by simp⟩
  · obtain rfl : s1 = none := hsp _ rfl
    clear hsp
    by_cases hmq : m = q
    · subst hmq
      go_enter Try.func134, Try.ntmps134
      go_wp2_with fail
      go_ret
      have e : L - (p + k) = 0 := by rw [HL.out]; omega
      exact ⟨⟨_, _, rfl, Nat.le_refl _, HA.out.imp (fun h => by omega) id⟩, ⟨_, _, by rw [e]; exact HB.out.set _, by rw [e]; omega, (by unfold maxLen; omega), .inl e, (fun h => by cases h), (fun a h => by cases h; rfl)⟩, HG.out _, by simp⟩
    · go_enter Try.func134, Try.ntmps134
      go_wp2_with fail
      go_ret
      refine ⟨⟨_, _, rfl, by omega, HA.out.imp (fun h => by omega) id⟩, ⟨_, _, by rw [HL.out]; exact HB.out.set _, by rw [HL.out]; omega, (by unfold maxLen; omega), ?_, (fun h => by cases h), (fun a h => by cases h; rfl)⟩, HG.out _, by simp⟩
      rcases HA.out with h | h
      · exact .inl (by rw [HL.out]; omega)
      · cases h
        rcases Nat.eq_zero_or_pos (n - q) with h2 | h2
        · exact .inl (by rw [HL.out]; exact h2)
        · exact .inr (by rw [HPk.out (by omega), Nat.add_assoc])

set_option maxRecDepth 100000 in
set_option maxHeartbeats 400000 in
theorem number_any' (r k g o L p : Nat) (f : Nat → Nat) (w : World) (hr : Rdr w r g o L p) (hk : k ≤ 8) (hg : g ≠ r) (hf : ∀ i, f i < 256) (hc : ∀ i, i < L → w.cell? ⟨g, o + i, none⟩ = some (.int .u8 (f i : Int))) :
    Calls Try.prog 106 #[.pointer (some ⟨r, 0, none⟩), .int .i64 (k : Int)] w fun e w' => e = .returned (.int .u64 (wd (fun i => f (p + i)) (min k (L - p)) : Nat)) ∧ Rdr w' r g o L (p + k) ∧ w.grownBy w' (some r) ∧ w'.heap.size = w.heap.size := by
  have HT := Lib.hid (take_any r k g o L p w hr (by omega))
  have HC : Hid (∀ w', w.grownBy w' (some r) → ∀ i, i < min k (L - p) → w'.cell? ⟨g, o + p + i, none⟩ = some (.int .u8 (f (p + i) : Int))) := Lib.hid (fun w' h i hi => by
    have h1 := hc (p + i) (by omega)
    rw [← Nat.add_assoc] at h1
    exact h.cell h1 (by intro e; injection e with e; exact hg e))
  have HG : Hid (∀ i, f (p + i) < 256) := Lib.hid (fun i => hf _)
  obtain ⟨q, hq⟩ : ∃ q, q = min k (L - p) := ⟨_, rfl⟩
  rw [← hq] at HT HC ⊢
  have hq8 : q ≤ 8 := by omega
  clear hq hc hf hr
  go_enter Try.func106, Try.ntmps106
  go_wp2_with fail
  refine HT.out.mono ?_
  rintro e w1 ⟨⟨A, c, rfl, hqc, hA⟩, hR, hgr, hsz⟩
  have HR := Lib.hid (And.intro hR (And.intro hgr hsz))
  replace HC := Lib.hid (HC.out w1 hgr)
  clear hR hgr hsz HT
  go_wp2_with fail
  go_loopw [5, 12] (fun v i wr => ∃ k a : Nat, k ≤ q ∧ i = .int .i64 (k : Int) ∧ v = .int .u64 (a : Int) ∧ Hid (a = wd (fun i => f (p + i)) k) ∧ wr = w1) (fun _ i _ => q - (intOf i).toNat)
  case atStart => exact ⟨0, 0, by omega, rfl, rfl, Lib.hid rfl, rfl⟩
  case round =>
    obtain ⟨k, a, hk, rfl, rfl, HI, rfl⟩ := hrel
    by_cases hlt : k < q
    · rcases hA with h0 | rfl
      · omega
      have c1 := HC.out k hlt
      have l1 : (0 : Int) ≤ (k : Int) := by omega
      have l2 : (k : Int) < (q : Int) := by omega
      obtain ⟨d, hd⟩ : ∃ d, d = f (p + k) := ⟨_, rfl⟩
      rw [← hd] at c1
      have lp : d < 256 := by rw [hd]; exact HG.out k
      have la : a < 72057594037927936 := by
        rw [HI.out]
        have h1 := wd_lt (fun i => f (p + i)) HG.out k
        have h2 : (256 : Nat) ^ k ≤ 256 ^ 7 := Nat.pow_le_pow_right (by decide) (by omega)
        have h3 : (256 : Nat) ^ 7 = 72057594037927936 := by decide
        omega
      have HS : Hid (a * 256 + d = wd (fun i => f (p + i)) (k + 1)) := Lib.hid (by rw [wd, HI.out, hd])
      obtain ⟨s, hs⟩ : ∃ s, s = a * 256 + d := ⟨_, rfl⟩
      have hj : bits .or .u64 ((a : Int) * 256) (d : Int) = (s : Int) := by
        rw [hs]; exact or_join (a * 256) d 8 (by unfold M; omega) (by omega) (by simpa using lp) (by decide)
      rw [← hs] at HS
      have hs64 : s ≤ 18446744073709551615 := by omega
      clear hd HI hs
      go_wp2_with fail
      go_roundw
      case rel => exact ⟨k + 1, s, by omega, by go_num, by first | rfl | (rw [hj]; done) | simp, HS, by first | rfl | trivial⟩
      case measure => simp [intOf]; omega
    · obtain rfl : q = k := by omega
      have l3 : ¬ ((q : Int) < (q : Int)) := by omega
      go_wp2_with fail
      go_ret
      exact ⟨ret_int (by rw [HI.out]), HR.out⟩

set_option maxRecDepth 100000 in
set_option maxHeartbeats 400000 in
theorem small_any (r g o L p : Nat) (f : Nat → Nat) (w : World) (hr : Rdr w r g o L p) (hg : g ≠ r) (hf : ∀ i, f i < 256) (hc : ∀ i, i < L → w.cell? ⟨g, o + i, none⟩ = some (.int .u8 (f i : Int))) :
    Calls Try.prog 104 #[.pointer (some ⟨r, 0, none⟩)] w fun e w' => e = .returned (.int .i64 (flz L f p : Nat)) ∧ Rdr w' r g o L (p + 1) ∧ w.grownBy w' (some r) ∧ w'.heap.size = w.heap.size := by
  have HT := Lib.hid (number_any' r 1 g o L p f w hr (by omega) hg hf hc)
  have hx : wd (fun i => f (p + i)) (min 1 (L - p)) = flz L f p := by
    unfold flz
    split
    · rw [Nat.min_eq_left (by omega)]; simp [wd]
    · rw [show L - p = 0 by omega]; rfl
  have hb : flz L f p < 256 := flz_lt L f hf p
  rw [hx] at HT
  obtain ⟨z, hz⟩ : ∃ z, z = flz L f p := ⟨_, rfl⟩
  rw [← hz] at HT hb ⊢
  clear hx hz hc hf hr
  go_enter Try.func104, Try.ntmps104
  go_wp2_with fail
  refine HT.out.mono ?_
  rintro e w1 ⟨rfl, hR⟩
  go_wp2_with fail
  go_ret
  exact ⟨ret_int (by first | rfl | omega), hR⟩
end Go.Proofs.Ytchkgccnipejhaa

/-
  Reading bytes, the specification's; bytes compared.
-/
namespace Go.Proofs.Ytchkgccnipejhaa
open Go.RowKit TR L2 L2.SP
set_option linter.unusedVariables false
set_option linter.unusedSimpArgs false

/-- The values of some bytes. -/
def byr (h : Nat → Nat) (n : Nat) : List Value := (List.range n).map fun k => .int .u8 (h k : Int)
theorem byr_succ (h : Nat → Nat) (n : Nat) : byr h (n + 1) = byr h n ++ [.int .u8 (h n : Int)] := by
  unfold byr; rw [List.range_succ, List.map_append]; rfl
theorem byr_get (h : Nat → Nat) (n k : Nat) (hk : k < n) : (byr h n)[k]? = some (.int .u8 (h k : Int)) := by
  simp [byr, List.getElem?_map, List.getElem?_range hk]
theorem flz_le (n : Nat) (f : Nat → Nat) (i : Nat) (h : i < n) : flz n f i = f i := if_pos h
theorem flz_no (n : Nat) (f : Nat → Nat) (i : Nat) (h : n ≤ i) : flz n f i = 0 := if_neg (by omega)

set_option maxRecDepth 100000 in
set_option maxHeartbeats 400000 in
theorem refAt_any (g o L m i n : Nat) (A : Option Addr) (f : Nat → Nat) (w : World) (hi : i ≤ 1000000) (hn : n ≤ 64) (hL : L ≤ 140737488355328) (hLm : L ≤ m) (hA : L = 0 ∨ A = some ⟨g, o, none⟩) (hc : ∀ i, i < L → w.cell? ⟨g, o + i, none⟩ = some (.int .u8 (f i : Int))) :
    Calls Try.prog 52 #[.slice A L m, .int .i64 (i : Int), .int .i64 (n : Int)] w fun e w' => ∃ v, e = .returned v ∧ w'.ownsRow w.heap.size 5 1 v n (byr (fun k => flz L f (i + k)) n) ∧ Below w.heap.size w w' := by
  obtain ⟨i0, hi0, hz0, hz1, hz2⟩ := info_parts info5
  obtain ⟨N, hN⟩ : ∃ N, N = w.heap.size := ⟨_, rfl⟩
  have HC : Hid (∀ w', Below N w w' → ∀ i, i < L → w'.cell? ⟨g, o + i, none⟩ = some (.int .u8 (f i : Int))) := Lib.hid (fun w' h i hi => (h.cell (p := ⟨g, o + i, none⟩) (by rw [hN]; exact World.block_lt_of_cell? w _ (hc i hi))).trans (hc i hi))
  have HAD := Lib.hid hA
  have hN' : N ≤ w.heap.size := by omega
  rw [← hN]
  clear hN hc hA
  go_enter Try.func52, Try.ntmps52
  go_wp2_with fail
  go_loopw [7, 8] (fun v j wr => ∃ k : Nat, k ≤ n ∧ j = .int .i64 (k : Int) ∧ Hid (wr.ownsRow N 5 1 v k (byr (fun k => flz L f (i + k)) k) ∧ Below N w wr ∧ N ≤ wr.heap.size)) (fun _ j _ => n - (intOf j).toNat)
  case atStart => exact ⟨0, by omega, rfl, Lib.hid ⟨World.ownsRow_nil _ _ _ _, Below.refl _ _, hN'⟩⟩
  case round =>
    obtain ⟨k, hk, rfl, HI⟩ := hrel
    by_cases hlt : k < n
    · have l2 : (k : Int) < (n : Int) := by omega
      have O5 := HI.out.1
      have HB5 := Lib.hid HI.out.2.1
      have L5 := HI.out.2.2
      by_cases hin : i + k < L
      · rcases HAD.out with h0 | rfl
        · omega
        have l3 : (i : Int) + (k : Int) < (L : Int) := by omega
        have l4 : (0 : Int) ≤ (i : Int) + (k : Int) := by omega
        have HV : Hid (byr (fun k => flz L f (i + k)) (k + 1) = byr (fun k => flz L f (i + k)) k ++ [.int .u8 (f (i + k) : Int)]) := Lib.hid (by rw [byr_succ, flz_le _ _ _ hin])
        have c1 := HC.out wr HB5.out (i + k) hin
        obtain ⟨d, hd⟩ : ∃ d, d = f (i + k) := ⟨_, rfl⟩
        rw [← hd] at c1 HV
        clear hd HC HI
        go_wp2_with (first
          | (at_builtin; refine wpList_append_own _ rfl _ _ 29 rfl N 5 i0 _ 1 1 Try.underlying29 hi0 hz0 hz1 hz2 rfl (by omega) _ _ _ rfl (O5.alloc _) ⟨wr.heap.size, 0, none⟩ 1 1 [.int .u8 (d : Int)] rfl rfl (cell_one_new _ _ _) (by intro u hu; simp at hu; subst hu; rfl) (by unfold maxLen; omega) (by omega) (by simp; omega) ?_; intro v1 w6 hown6 hg6 _))
        go_roundw
        case rel => exact ⟨k + 1, by omega, by go_num, Lib.hid ⟨by rw [HV.out]; exact hown6, (HB5.out.alloc L5 _).grown hg6 (by simp; omega) (fun b hb => own_block O5 hb.symm), Nat.le_trans (by simp; omega) hg6.size⟩⟩
        case measure => simp [intOf]; omega
      · have l3 : ¬ ((i : Int) + (k : Int) < (L : Int)) := by omega
        have HV : Hid (byr (fun k => flz L f (i + k)) (k + 1) = byr (fun k => flz L f (i + k)) k ++ [.int .u8 0]) := Lib.hid (by rw [byr_succ, flz_no _ _ _ (by omega)]; rfl)
        clear HC HI
        go_wp2_with (first
          | (at_builtin; refine wpList_append_own _ rfl _ _ 29 rfl N 5 i0 _ 1 1 Try.underlying29 hi0 hz0 hz1 hz2 rfl (by omega) _ _ _ rfl (O5.alloc _) ⟨wr.heap.size, 0, none⟩ 1 1 [.int .u8 0] rfl rfl (cell_one_new _ _ _) (by intro u hu; simp at hu; subst hu; rfl) (by unfold maxLen; omega) (by omega) (by simp; omega) ?_; intro v1 w6 hown6 hg6 _))
        go_roundw
        case rel => exact ⟨k + 1, by omega, by go_num, Lib.hid ⟨by rw [HV.out]; exact hown6, (HB5.out.alloc L5 _).grown hg6 (by simp; omega) (fun b hb => own_block O5 hb.symm), Nat.le_trans (by simp; omega) hg6.size⟩⟩
        case measure => simp [intOf]; omega
    · obtain rfl : n = k := by omega
      have l3 : ¬ ((n : Int) < (n : Int)) := by omega
      go_wp2_with fail
      go_ret
      exact ⟨_, rfl, HI.out.1, HI.out.2.1⟩

set_option maxRecDepth 100000 in
set_option maxHeartbeats 1000000 in
/-- The key of sixteen bytes. -/
theorem refKey3_any (b off n c : Nat) (g : Nat → Nat) (w : World) (hn : 16 ≤ n) (hg : ∀ i, g i < 256) (hc : ∀ i, i < 16 → w.cell? ⟨b, off + i, none⟩ = some (.int .u8 (g i : Int))) :
    Calls Try.prog 53 #[.slice (some ⟨b, off, none⟩) n c] w fun e w' => e = .returned (.agg (kl (kwX g) (kwY g)).toArray) ∧ Below w.heap.size w w' := by
  obtain ⟨wo, hwo⟩ : ∃ wo, wo = (w.alloc (.cells z16 26)).alloc (.cells z16 26) := ⟨_, rfl⟩
  have HB : Hid (Below w.heap.size w wo) := Lib.hid (by rw [hwo]; exact ((Below.refl _ _).alloc (Nat.le_refl _) _).alloc (by simp) _)
  have HR : Hid (Row wo (w.heap.size + 1) (fun _ => 0)) := Lib.hid (by
    have h := Row.zeros (w.alloc (.cells z16 26)) 26
    rw [World.size_alloc] at h
    rw [hwo]; exact h)
  have HT : Hid (wo.there w.heap.size 0 16) := Lib.hid (by rw [hwo]; exact ((Row.zeros w 26).keep ((Below.refl _ _).alloc (Nat.le_refl _) _)).there)
  have HW := Lib.hid hwo
  have HC := Lib.hid hc
  have HG := Lib.hid hg
  clear hwo hc hg
  go_enter Try.func53, Try.ntmps53
  go_wp2
  rw [← HW.out]
  clear HW
  go_loopw [4] (fun i wr => ∃ (k : Nat) (f : Nat → Nat), k ≤ 16 ∧ i = .int .i64 (k : Int) ∧ Hid (Row wr (w.heap.size + 1) f ∧ wr.there w.heap.size 0 16 ∧ Below w.heap.size w wr ∧ ∀ j, j < 16 → f j = if j < k then g j else 0)) (fun i _ => 16 - (intOf i).toNat)
  case atStart => exact ⟨0, _, by omega, rfl, Lib.hid ⟨HR.out, HT.out, HB.out, fun j _ => by simp⟩⟩
  case round =>
    obtain ⟨k, f, hk, rfl, HI⟩ := hrel
    by_cases hlt : k < 16
    · have c1 := HC.out k hlt
      have hbl : b < w.heap.size := block_lt_of_cell c1
      have c2 : wr.cell? ⟨b, off + k, none⟩ = some (.int .u8 (g k : Int)) := (HI.out.2.2.1.cell (p := ⟨b, off + k, none⟩) hbl).trans c1
      have f1 : wr.frozen? ⟨w.heap.size + 1, k, none⟩ = false := HI.out.1.fr k hlt
      have c3 : wr.cell? ⟨w.heap.size + 1, k, none⟩ = some (.int .u8 (f k : Int)) := HI.out.1.cell k hlt
      obtain ⟨p, hp⟩ : ∃ p, p = g k := ⟨_, rfl⟩
      rw [← hp] at c2
      have HP := Lib.hid hp
      have l1 : (0 : Int) ≤ (k : Int) := by omega
      have l2 : (k : Int) < 16 := by omega
      have l3 : (k : Int) < (n : Int) := by omega
      clear c1 hp
      go_wp2
      go_roundw
      case rel =>
        refine ⟨k + 1, _, by omega, by go_num, Lib.hid ⟨HI.out.1.set k p hlt, ?_, ?_, fun j hj => ?_⟩⟩
        · intro j hj
          have h := HI.out.2.1 j hj
          refine ⟨?_, ?_⟩
          · show ((World.setCell wr _ _).cell? _).isSome = true
            rw [World.cell?_setCell_other _ _ _ _ (by intro e; injection e with e; omega)]; exact h.1
          · show (World.setCell wr _ _).frozen? _ = false
            rw [World.frozen?_setCell]; exact h.2
        · exact (HI.out.2.2.1).setCell (p := ⟨w.heap.size + 1, k, none⟩) (by simp) _
        · by_cases e : j = k
          · subst e; rw [if_pos rfl, if_pos (by omega), HP.out]
          · rw [if_neg e, HI.out.2.2.2 j hj]
            by_cases e2 : j < k
            · rw [if_pos e2, if_pos (by omega)]
            · rw [if_neg e2, if_neg (by omega)]
      case measure => simp [intOf]; omega
    · obtain rfl : k = 16 := by omega
      have HK2 : Hid (KeyAt wr (w.heap.size + 1) (kwX g) (kwY g)) := Lib.hid (HI.out.1.key fun j hj => by
        rw [HI.out.2.2.2 j hj, kw_byte _ HG.out j hj, if_pos hj])
      have HT2 := Lib.hid HI.out.2.1
      go_wp2_with (first
        | (refine wpList_load_key rfl _ rfl _ rfl _ _ HK2.out ?_)
        | (refine wpList_store_key rfl _ _ rfl w.heap.size _ _ rfl rfl HT2.out ?_))
      exact ends_key rfl w.heap.size _ _ HT2.out rfl rfl ⟨rfl, below_setCells _ _ _ _ HI.out.2.2.1 (by omega)⟩
end Go.Proofs.Ytchkgccnipejhaa

/-
  Bytes as strings; bytes compared.
-/
namespace Go.Proofs.Ytchkgccnipejhaa
open Go.RowKit TR L2 L2.SP
set_option linter.unusedVariables false
set_option linter.unusedSimpArgs false

/-- A slice of n bytes g. -/
structure Byt (w : World) (A : Option Addr) (n c : Nat) (g : Nat → Nat) : Prop where
  le : n ≤ c
  cap : c ≤ maxLen
  lt : ∀ i, g i < 256
  at_ : 0 < n → ∃ b off, A = some ⟨b, off, none⟩ ∧ ∀ i, i < n → w.cell? ⟨b, off + i, none⟩ = some (.int .u8 (g i : Int))
theorem Byt.keep {w w' : World} {A : Option Addr} {n c : Nat} {g : Nat → Nat} (h : Byt w A n c g) (hb : Below w.heap.size w w') : Byt w' A n c g :=
  ⟨h.le, h.cap, h.lt, fun hn => by
    obtain ⟨b, off, hA, hc⟩ := h.at_ hn
    exact ⟨b, off, hA, fun i hi => (hb.cell (World.block_lt_of_cell? w _ (hc i hi))).trans (hc i hi)⟩⟩
theorem own_byt {w : World} {B n : Nat} {v : Value} {g : Nat → Nat} (h : w.ownsRow B 5 1 v n (byr g n)) (hg : ∀ i, g i < 256) : ∃ A c, v = .slice A n c ∧ Byt w A n c g := by
  rcases Nat.eq_zero_or_pos n with rfl | hpos
  · rcases h.2 with ⟨hv, _⟩ | ⟨b, cap, cur, hv, _, _, hnc, hcm, _, _⟩
    · exact ⟨none, 0, hv, Nat.le_refl _, by simp [maxLen], hg, fun h0 => by omega⟩
    · exact ⟨_, cap, hv, hnc, hcm, hg, fun h0 => by omega⟩
  · obtain ⟨b, c, hv, _, q2, q3, q4⟩ := own_slice h hpos
    refine ⟨_, c, hv, q2, q3, hg, fun _ => ⟨b, 0, rfl, fun i hi => ?_⟩⟩
    rw [Nat.zero_add]
    exact q4 i _ (byr_get g n i hi)

/-- n bytes as a string. -/
def bst (n : Nat) (g : Nat → Nat) : ByteArray := strOfNums ((List.range n).map fun j => (g j : Int))
theorem conv_byt {w : World} {A : Option Addr} {n c : Nat} {g : Nat → Nat} (h : Byt w A n c g) : (convert 29 9 (.slice A n c)).run Try.prog w = .ok (.string (bst n g)) w := by
  rcases Nat.eq_zero_or_pos n with rfl | hpos
  · exact run_convert_bytes_zero w 29 5 Try.underlying29 Try.underlying5 A c 9 Try.underlying9
  · obtain ⟨b, off, rfl, hc⟩ := h.at_ hpos
    exact run_convert_bytes_arg (P := Try.prog) w 29 5 Try.underlying29 Try.underlying5 b off n c ((List.range n).map fun j => (g j : Int)) (by simp) (fun i hi => by
      rw [hc i hi]
      simp [List.getD, List.getElem?_map, List.getElem?_range hi]) 9 Try.underlying9
theorem bst_len (n : Nat) (g : Nat → Nat) : (bst n g).size = n := by
  unfold bst
  rw [← ByteArray.size_data, ← Array.length_toList, strOfNums_data]; simp

set_option maxRecDepth 100000 in
theorem equal_any (A1 A2 : Option Addr) (n1 c1 n2 c2 : Nat) (g1 g2 : Nat → Nat) (w : World) (h1 : Byt w A1 n1 c1 g1) (h2 : Byt w A2 n2 c2 g2) :
    Calls Try.prog 51 #[.slice A1 n1 c1, .slice A2 n2 c2] w fun e w' => e = .returned (.bool ((bst n1 g1).toList == (bst n2 g2).toList)) ∧ w' = w := by
  have V1 := conv_byt h1
  have V2 := conv_byt h2
  clear h1 h2
  go_enter Try.func51, Try.ntmps51
  go_wp2_with fail
  go_ret
  exact ⟨by first | rfl | simp, by first | rfl | trivial⟩
end Go.Proofs.Ytchkgccnipejhaa

/-
  A key read, the program's.
-/
namespace Go.Proofs.Ytchkgccnipejhaa
open Go.RowKit TR L2 L2.SP
set_option linter.unusedVariables false
set_option linter.unusedSimpArgs false

theorem byr_len (h : Nat → Nat) (n : Nat) : (byr h n).length = n := by simp [byr]
theorem byr_one (h : Nat → Nat) (n : Nat) : ∀ v ∈ byr h n, v.oneCell' = true := by
  intro v hv; obtain ⟨d, _, rfl⟩ := List.mem_map.1 hv; rfl
theorem sizeU8 : (Try.prog.info? 5).map (·.size) = some 1 := by kernel_rfl
theorem z16_list : z16.toList = List.replicate 16 (Value.int .u8 0) := by rfl
theorem splice_get (q : Nat) (f : Nat → Nat) (hq : q ≤ 16) (j : Nat) (hj : j < 16) : (splice z16.toList 0 (byr f q))[j]? = some (.int .u8 (flz q f j : Int)) := by
  unfold splice flz
  rw [z16_list]
  simp only [List.take_zero, List.nil_append, Nat.zero_add, byr_len]
  by_cases h : j < q
  · rw [List.getElem?_append_left (by rw [byr_len]; exact h), byr_get _ _ _ h, if_pos h]
  · rw [List.getElem?_append_right (by rw [byr_len]; omega), byr_len, if_neg h, List.getElem?_drop, List.getElem?_replicate, if_pos (by omega)]; rfl
theorem wp_copy_splice {o : Oper} {a : Act} {w : World} {K : Act → World → Prop} {Q : Exit → Act → World → Prop} (hgd : o.guard = none) (d s : Operand) (dT sT : TypeId)
    (ho : o.op = .call { callee := .builtin .copy, args := #[d, s], argTypes := #[dT, sT] }) (elem : TypeId) (hu : Try.prog.underlying dT = some (.slice elem)) (hsz : (Try.prog.info? elem).map (·.size) = some 1)
    (dp sp : Option Addr) (dLen dCap sLen sCap : Nat) (hd : a.eval d = .slice dp dLen dCap) (hs : a.eval s = .slice sp sLen sCap)
    (g off : Nat) (cur : List Value) (t : TypeId) (hg : w.heap[g]? = some (.cells cur.toArray t (0, 0))) (cs : List Value) (hn : cs.length = Nat.min sLen dLen)
    (hpos : 0 < cs.length → dp = some ⟨g, off, none⟩ ∧ ∃ ad, sp = some ad ∧ ∀ j v, cs[j]? = some v → w.cell? (ad.add j) = some v)
    (hfit : off + cs.length ≤ cur.length) (h1 : ∀ v ∈ cs, v.oneCell' = true) (B : Nat) (w0 : World) (hb : Below B w0 w) (hBg : B ≤ g)
    (h : ∀ w', Hid (w'.heap[g]? = some (.cells (splice cur off cs).toArray t (0, 0))) → Below B w0 w' → K (a.put o.dst (goInt cs.length)) w') : o.wp Try.prog a w K Q := by
  have h0 := step_copy_splice (P := Try.prog) (ops := #[]) (Q := Q) (E := True) hgd d s dT sT ho elem hu hsz dp sp dLen dCap sLen sCap hd hs g off cur t hg cs hn hpos hfit h1 B w0 hb hBg h
  rwa [if_pos (by simp [Region.wanted, hgd])] at h0

set_option maxRecDepth 100000 in
set_option maxHeartbeats 400000 in
theorem block_any (r g o L p : Nat) (f : Nat → Nat) (w : World) (hr : Rdr w r g o L p) (hg : g ≠ r) (hf : ∀ i, f i < 256) (hc : ∀ i, i < L → w.cell? ⟨g, o + i, none⟩ = some (.int .u8 (f i : Int))) :
    Calls Try.prog 105 #[.pointer (some ⟨r, 0, none⟩)] w fun e w' => e = .returned (.agg (kl (kwX fun i => flz L f (p + i)) (kwY fun i => flz L f (p + i))).toArray) ∧ Rdr w' r g o L (p + 16) ∧ w.grownBy w' (some r) := by
  obtain ⟨N, hN⟩ : ∃ N, N = w.heap.size := ⟨_, rfl⟩
  obtain ⟨W2, hW2⟩ : ∃ W2, W2 = (w.alloc (.cells z16 26)).alloc (.cells z16 26) := ⟨_, rfl⟩
  have s2 : W2.heap.size = N + 2 := by rw [hW2, hN]; simp
  have b2 : Below N w W2 := by rw [hW2, hN]; exact (below_alloc _ _).trans ((below_alloc _ _).mono (by simp))
  have hrN : r < N := by rw [hN]; exact hr.lt
  have k0 : Blk W2 N z16 26 := by rw [hW2, hN]; exact (Blk.new w _ _).keep (below_alloc _ _)
  have k1 : Blk W2 (N + 1) z16 26 := by
    have h := Blk.new (w.alloc (.cells z16 26)) z16 26
    rw [World.size_alloc, ← hN] at h; rw [hW2]; exact h
  have r2 : Rdr W2.drew r g o L p := (hr.below b2 hrN).below (m := N) (Below.refl N W2).drew hrN
  have HT := Lib.hid (take_any r 16 g o L p W2.drew r2 (by omega))
  have HE : Hid (W2.heap.size = N + 2 ∧ Below N w W2 ∧ Blk W2 N z16 26 ∧ Blk W2 (N + 1) z16 26) := Lib.hid ⟨s2, b2, k0, k1⟩
  have HC : Hid (∀ w1, W2.drew.grownBy w1 (some r) → ∀ i, i < min 16 (L - p) → w1.cell? ⟨g, o + p + i, none⟩ = some (.int .u8 (f (p + i) : Int))) := Lib.hid (fun w1 h i hi => by
    have h1 := hc (p + i) (by omega)
    rw [← Nat.add_assoc] at h1
    have h2 : W2.drew.cell? ⟨g, o + p + i, none⟩ = some (.int .u8 (f (p + i) : Int)) := (b2.drew.cell (p := ⟨g, o + p + i, none⟩) (by rw [hN]; exact World.block_lt_of_cell? w _ h1)).trans h1
    exact h.cell h2 (by intro e; injection e with e; exact hg e))
  have HG : Hid (∀ i, flz L f (p + i) < 256) := Lib.hid (fun i => flz_lt _ _ hf _)
  have HQ : Hid (∀ j, j < 16 → flz (min 16 (L - p)) (fun i => f (p + i)) j = flz L f (p + j)) := Lib.hid (fun j hj => by
    unfold flz
    by_cases h : j < min 16 (L - p)
    · rw [if_pos h, if_pos (by omega)]
    · rw [if_neg h, if_neg (by omega)])
  have hq16 : min 16 (L - p) ≤ 16 := Nat.min_le_left _ _
  obtain ⟨q, hq⟩ : ∃ q, q = min 16 (L - p) := ⟨_, rfl⟩
  rw [← hq] at HT HC HQ hq16
  have HW := Lib.hid hW2
  have HN := Lib.hid hN
  have HRN := Lib.hid hrN
  clear hq hN hW2 s2 b2 k0 k1 r2 hr hc hf hrN
  go_enter Try.func105, Try.ntmps105
  go_wp2_with fail
  rw [← HW.out, ← HN.out]
  refine wp_region_inv (by kernel_rfl) (by kernel_rfl) (fun l a' w' => ∃ (A : Option Addr) (c : Nat) (w1 : World), a' = { tmps := #[.pointer (some ⟨r, 0, none⟩), undef, .pointer (some ⟨N, 0, none⟩), .pointer (some ⟨N + 1, 0, none⟩), bif l 0 then .slice (some ⟨N + 1, 0, none⟩) 16 16 else undef, bif l 1 then .pointer (some ⟨r, 0, none⟩) else undef, bif l 2 then .slice A q c else undef, bif l 3 then .int .i64 (q : Int) else undef, undef], defers := [] } ∧ (l 2 = false → w' = W2.drew) ∧ (l 2 = true → q ≤ c ∧ (q = 0 ∨ A = some ⟨g, o + p, none⟩) ∧ Rdr w1 r g o L (p + 16) ∧ W2.drew.grownBy w1 (some r) ∧ w1.heap.size = W2.drew.heap.size) ∧ (l 2 = true → l 3 = false → w' = w1) ∧ (l 3 = true → l 2 = true) ∧ (l 3 = true → w'.heap[N + 1]? = some (.cells (splice z16.toList 0 (byr (fun i => f (p + i)) q)).toArray 26 (0, 0)) ∧ Below (N + 1) w1 w')) ⟨none, 0, W2, rfl, (fun _ => rfl), (fun h => by cases h), (fun h => by cases h), (fun h => by cases h), (fun h => by cases h)⟩ ?_ ?_
  · rintro l a' w' i ⟨A, c, w1, rfl, c1, c2, c3, c4, c5⟩ hi' hli hpre
    have hi2 : i < 4 := hi'
    have hcase : i = 0 ∨ i = 1 ∨ i = 2 ∨ i = 3 := by omega
    clear hi' hi2
    rcases hcase with rfl | rfl | rfl | rfl
    · refine wpOp_step rfl (fun K' hK => ?_)
      clear hpre
      rw [if_pos (by rfl)]
      go_simp
      exact hK _ _ ⟨A, c, w1, by simp [upd, Act.put], by simpa [upd] using c1, by simpa [upd] using c2, by simpa [upd] using c3, by simpa [upd] using c4, by simpa [upd] using c5⟩
    · refine wpOp_step rfl (fun K' hK => ?_)
      clear hpre
      rw [if_pos (by rfl)]
      go_simp
      exact hK _ _ ⟨A, c, w1, by simp [upd, Act.put], by simpa [upd] using c1, by simpa [upd] using c2, by simpa [upd] using c3, by simpa [upd] using c4, by simpa [upd] using c5⟩
    · have p1 : l 1 = true := hpre _ rfl ⟨1, .data⟩ (by simp) rfl
      have n3 : l 3 = false := by
        cases h : l 3
        · rfl
        · have := c4 h; simp [hli] at this
      obtain rfl := c1 hli
      refine wpOp_step rfl (fun K' hK => ?_)
      simp only [p1, cond_true, cond_false]
      clear hpre
      rw [if_pos (by rfl)]
      go_simp
      refine HT.out.mono ?_
      rintro e w5 ⟨⟨A', c', rfl, b1, b2⟩, b3, b4, b5⟩
      exact hK _ _ ⟨A', c', w5, by simp [upd, Act.put, p1, n3], (fun e => absurd e (by simp [upd])), (fun _ => ⟨b1, b2, b3, b4, b5⟩), (fun _ _ => rfl), (fun e => absurd e (by simp [upd, n3])), (fun e => absurd e (by simp [upd, n3]))⟩
    · have p0 : l 0 = true := hpre _ rfl ⟨0, .data⟩ (by simp) rfl
      have p2 : l 2 = true := hpre _ rfl ⟨2, .data⟩ (by simp) rfl
      obtain rfl := c3 p2 hli
      obtain ⟨b1, b2, b3, b4, b5⟩ := c2 p2
      have hk1 : w'.heap[N + 1]? = some (.cells z16.toList.toArray 26 (0, 0)) := (b4.block (N + 1) (by rw [show W2.drew.heap.size = W2.heap.size from rfl, HE.out.1]; omega) (by intro e; injection e with e; have := HRN.out; omega)).trans HE.out.2.2.2
      have hsrc := HC.out w' b4
      refine wpOp_step rfl (fun K' hK => ?_)
      simp only [p0, p2, cond_true, cond_false]
      clear hpre
      rw [if_pos (by rfl)]
      refine wp_copy_splice rfl (.tmp 4) (.tmp 6) 29 29 rfl 5 Try.underlying29 sizeU8 (some ⟨N + 1, 0, none⟩) A 16 16 q c (by rfl) (by rfl) (N + 1) 0 z16.toList 26 hk1 (byr (fun i => f (p + i)) q) (by rw [byr_len]; exact (Nat.min_eq_left hq16).symm) ?_ (by rw [byr_len, z16_list]; simp; omega) (byr_one _ _) (N + 1) w' (Below.refl _ _) (Nat.le_refl _) ?_
      · intro hpos
        rw [byr_len] at hpos
        rcases b2 with h0 | rfl
        · omega
        · exact ⟨rfl, _, rfl, fun j v hj => by
            have hjq : j < q := by have := (List.getElem?_eq_some_iff.1 hj).1; rwa [byr_len] at this
            rw [byr_get _ _ _ hjq] at hj
            cases hj
            rw [Addr.add_lit]; exact hsrc j hjq⟩
      · intro w7 hg7 hb7
        exact hK _ _ ⟨A, c, w', by first | (simp [upd, Act.put, p0, p2, byr_len]; done) | (simp [upd, Act.put, p0, p2, byr_len]; rfl), (fun e => absurd e (by simp [upd, p2])), (fun _ => ⟨b1, b2, b3, b4, b5⟩), (fun _ e => absurd e (by simp [upd])), (fun _ => by simp [upd, p2]), (fun _ => ⟨hg7.out, hb7⟩)⟩
  · rintro l a' w9 hall ⟨A, c, w1, rfl, c1, c2, c3, c4, c5⟩
    replace c2 := c2 (hall 2 (by decide))
    replace c5 := c5 (hall 3 (by decide))
    simp only [hall 0 (by decide), hall 1 (by decide), hall 2 (by decide), hall 3 (by decide), cond_true]
    clear hall c1 c3 c4
    obtain ⟨b1, b2, b3, b4, b5⟩ := c2
    obtain ⟨d1, d2⟩ := c5
    have hl1 : w1.heap.size = N + 2 := by rw [b5]; exact HE.out.1
    have K1 : Hid (KeyAt w9 (N + 1) (kwX fun i => flz L f (p + i)) (kwY fun i => flz L f (p + i))) := Lib.hid (fun j v hj => by
      have hj16 : j < 16 := by rw [← kl_len]; exact (List.getElem?_eq_some_iff.1 hj).1
      have h1 : w9.cell? ⟨N + 1, 0 + j, none⟩ = some (.int .u8 (flz q (fun i => f (p + i)) j : Int)) := by
        rw [cell_of_row _ _ (0 + j) _ _ _ d1, Nat.zero_add]; simpa using splice_get q _ hq16 j hj16
      rw [h1, HQ.out j hj16]
      rw [kl_get _ _ _ hj16] at hj
      rw [← hj, kw_byte _ HG.out j hj16])
    have T0 : Hid (w9.there N 0 16) := Lib.hid (by
      have h1 : Blk W2.drew N z16 26 := HE.out.2.2.1
      have h2 : Blk w1 N z16 26 := (b4.block N (by rw [show W2.drew.heap.size = W2.heap.size from rfl, HE.out.1]; omega) (by intro e; injection e with e; have := HRN.out; omega)).trans h1
      have h3 := (Blk.below h2 d2 (by omega)).there
      simpa using h3)
    have R9 := Lib.hid (b3.below d2 (by have := HRN.out; omega))
    have e1 := HE.out.2.1.drew
    have e5 := (d2.mono (Nat.le_succ N)).trans (below_setCells N (kl (kwX fun i => flz L f (p + i)) (kwY fun i => flz L f (p + i))) 0 w9 (Below.refl N w9) (Nat.le_refl _))
    have hNw := HN.out
    have G9 : Hid (w.grownBy (w9.setCells N 0 (kl (kwX fun i => flz L f (p + i)) (kwY fun i => flz L f (p + i)))) (some r)) := Lib.hid ⟨e5.os.trans (b4.os.trans e1.os), e5.tape.trans (b4.tape.trans e1.tape), e5.output.trans (b4.output.trans e1.output), Nat.le_trans e1.size (Nat.le_trans b4.size e5.size), fun k hk hne => (e5.block k (by omega)).trans ((b4.block k (by have := e1.size; omega) hne).trans (e1.block k (by omega)))⟩
    have R10 := Lib.hid (R9.out.below (m := N) (below_setCells N (kl (kwX fun i => flz L f (p + i)) (kwY fun i => flz L f (p + i))) 0 w9 (Below.refl N w9) (Nat.le_refl _)) HRN.out)
    clear b1 b2 b3 b4 b5 d1 d2 e1 e5 hNw
    go_wp2_with (first
      | (refine wpList_load_key rfl _ rfl _ rfl _ _ K1.out ?_)
      | (refine wpList_store_key rfl _ _ rfl N _ _ rfl rfl T0.out ?_))
    exact ends_key rfl N _ _ T0.out rfl rfl ⟨rfl, R10.out, G9.out⟩
end Go.Proofs.Ytchkgccnipejhaa

/-
  The bytes of a header as a function.
-/
namespace Go.Proofs.Ytchkgccnipejhaa
open Go.RowKit TR L2 L2.SP
set_option linter.unusedVariables false
set_option linter.unusedSimpArgs false

/-- The byte that a value is. -/
def vby : Value → Nat
  | .int .u8 z => z.toNat % 256
  | _ => 0
theorem vby_lt (v : Value) : vby v < 256 := by
  unfold vby; split <;> omega
theorem byr_of (xs : List Value) (h : ∀ u ∈ xs, ∃ d : Nat, d < 256 ∧ u = .int .u8 (d : Int)) : ∃ f : Nat → Nat, (∀ i, f i < 256) ∧ xs = byr f xs.length := by
  refine ⟨fun i => vby (xs.getD i undef), fun i => vby_lt _, ?_⟩
  apply List.ext_getElem?
  intro i
  by_cases hi : i < xs.length
  · rw [byr_get _ _ _ hi, List.getElem?_eq_getElem hi]
    obtain ⟨d, hd, hu⟩ := h xs[i] (List.getElem_mem hi)
    have e : xs.getD i undef = .int .u8 (d : Int) := by rw [List.getD_eq_getElem?_getD, List.getElem?_eq_getElem hi]; simpa using hu
    rw [e, hu]
    have e2 : vby (.int .u8 (d : Int)) = d := by show (d : Int).toNat % 256 = d; omega
    rw [e2]
  · rw [List.getElem?_eq_none (by omega), List.getElem?_eq_none (by rw [byr_len]; omega)]
theorem bl_mem (bs : List Nat) (h : ∀ b ∈ bs, b < 256) : ∀ u ∈ bl bs, ∃ d : Nat, d < 256 ∧ u = .int .u8 (d : Int) := by
  intro u hu
  obtain ⟨d, hd, rfl⟩ := List.mem_map.1 hu
  exact ⟨d, h d hd, rfl⟩
theorem lowb_mem (x : Nat) : ∀ k, ∀ b ∈ lowb x k, b < 256
  | 0, b, h => by cases h
  | k + 1, b, h => by
    rw [lowb, List.mem_cons] at h
    rcases h with rfl | h
    · exact Nat.mod_lt _ (by decide)
    · exact lowb_mem x k b h
theorem kl_mem (X Y : Nat) : ∀ u ∈ kl X Y, ∃ d : Nat, d < 256 ∧ u = .int .u8 (d : Int) := by
  rw [← bl_kl]
  intro u hu
  rcases List.mem_append.1 hu with h | h
  · exact bl_mem _ (lowb_mem _ _) u h
  · exact bl_mem _ (lowb_mem _ _) u h
/-- What Encode writes is bytes. -/
theorem hbs_byr (n b np : Nat) (F : Nat → Int × Int × (Nat × Nat)) (G : Nat → Nat × Nat) (x y : Nat × Nat) (hn : n ≤ 64) (hnp : np ≤ 8) (hF : ∀ i, i < n → (0 ≤ (F i).1 ∧ (F i).1 ≤ 255) ∧ (0 ≤ (F i).2.1 ∧ (F i).2.1 ≤ 255)) :
    ∃ f : Nat → Nat, (∀ i, f i < 256) ∧ hbs n b np F G x y = byr f (hln n np) := by
  rw [← hbs_len n b np F G x y]
  refine byr_of _ fun u hu => ?_
  simp only [hbs, List.mem_append, List.mem_cons, List.not_mem_nil, or_false] at hu
  rcases hu with (((((rfl | h) | h) | rfl) | h) | h) | h
  · exact ⟨n, by omega, rfl⟩
  · unfold itb at h
    rw [List.mem_flatMap] at h
    obtain ⟨i, hi, h⟩ := h
    have hb := hF i (List.mem_range.1 hi)
    simp only [List.mem_cons] at h
    rcases h with rfl | rfl | h
    · exact ⟨(F i).1.toNat, by omega, by rw [Int.toNat_of_nonneg hb.1.1]⟩
    · exact ⟨(F i).2.1.toNat, by omega, by rw [Int.toNat_of_nonneg hb.2.1]⟩
    · exact kl_mem _ _ u h
  · exact bl_mem _ (lowb_mem _ _) u h
  · exact ⟨np, by omega, rfl⟩
  · unfold ptb at h
    rw [List.mem_flatMap] at h
    obtain ⟨i, _, h⟩ := h
    rcases List.mem_append.1 h with h | h
    · exact bl_mem _ (lowb_mem _ _) u h
    · exact bl_mem _ (lowb_mem _ _) u h
  · exact kl_mem _ _ u h
  · exact kl_mem _ _ u h
/-- Strings of bytes of two lengths are two. -/
theorem bst_ne {n m : Nat} (f g : Nat → Nat) (h : n ≠ m) : ((bst n f).toList == (bst m g).toList) = false := by
  rw [beq_eq_false_iff_ne]
  intro e
  apply h
  have e1 := congrArg List.length e
  have e2 : ∀ s : ByteArray, s.toList.length = s.size := fun s => by rw [ByteArray.toList_eq, Array.length_toList, ByteArray.size_data]
  rw [e2, e2, bst_len, bst_len] at e1
  exact e1
/-- The answer of Decode on bytes of another length, whatever was read. -/
theorem ckn_cases (n np : Nat) (F : Nat → Int × Int × (Nat × Nat)) : ckn n np F = 4 ∨ ckn n np F = 0 ∨ ckn n np F = 2 := by
  unfold ckn; split
  · exact .inl rfl
  · split
    · exact .inr (.inl rfl)
    · exact .inr (.inr rfl)
end Go.Proofs.Ytchkgccnipejhaa
