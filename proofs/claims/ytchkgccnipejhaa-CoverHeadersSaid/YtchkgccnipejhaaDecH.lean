/-
  Decode, the specification's.
-/
import Derived.Test.YtchkgccnipejhaaDecG
namespace Go.Proofs.Ytchkgccnipejhaa
open Go.RowKit TR L2 L2.SP
set_option linter.unusedVariables false
set_option linter.unusedSimpArgs false

set_option maxRecDepth 100000 in
set_option maxHeartbeats 1600000 in
theorem refDecode_any (A : Option Addr) (g o L m : Nat) (f : Nat → Nat) (w : World) (hf : ∀ i, f i < 256) (hL : L ≤ 140737488355328) (hLm : L ≤ m) (hm : m ≤ maxLen) (hgo : L = 0 ∨ A = some ⟨g, o, none⟩) (hcl : ∀ i, i < L → w.cell? ⟨g, o + i, none⟩ = some (.int .u8 (f i : Int))) :
    Calls Try.prog 20 #[.slice A L m] w fun e w' => DcE L f w.heap.size e w' ∧ Below w.heap.size w w' := by
  obtain ⟨N, hN⟩ : ∃ N, N = w.heap.size := ⟨_, rfl⟩
  obtain ⟨W2, hW2⟩ : ∃ W2, W2 = ((w.alloc (.cells z35 28)).alloc (.cells z35 28)).setCells (w.heap.size + 1) 0 (hdi (.slice none 0 0) (.slice none 0 0) 0 (0, 0) (0, 0)) := ⟨_, rfl⟩
  have s2 : W2.heap.size = N + 2 := by rw [hW2, size_setCells, hN]; simp
  have b2 : Below N w W2 := by rw [hW2, hN]; exact below_setCells _ _ _ _ ((below_alloc _ _).trans ((below_alloc _ _).mono (by simp))) (by omega)
  have t1 : ((w.alloc (.cells z35 28)).alloc (.cells z35 28)).there (w.heap.size + 1) 0 35 := by
    have h := Blk.new (w.alloc (.cells z35 28)) z35 28
    rw [World.size_alloc] at h; exact h.there
  have e0 : Hdx W2 N (.slice none 0 0) (.slice none 0 0) 0 (0, 0) (0, 0) := by
    have h := (Blk.new w z35 28).keep (below_alloc _ (.cells z35 28))
    rw [hW2, hN]; rw [z35_hdi] at h ⊢; exact Blk.otherN _ _ h (by omega)
  have e1 : Hdx W2 (N + 1) (.slice none 0 0) (.slice none 0 0) 0 (0, 0) (0, 0) := by
    have h := Blk.new (w.alloc (.cells z35 28)) z35 28
    rw [World.size_alloc] at h; rw [hW2, hN]; exact Hdx.stored h z35_size _ _ _ _ _
  have hn255 : hn0 L f < 256 := flz_lt L f hf 0
  have hp255 : hnp L f < 256 := flz_lt L f hf _
  have HNP : Hid (flz L f (9 + 18 * hn0 L f) = hnp L f) := Lib.hid rfl
  have HN0 : Hid (flz L f 0 = hn0 L f) := Lib.hid rfl
  have hb0M : nbS L f (1 + 18 * hn0 L f) < M := nbS_M L f hf _
  have HDY : Hid (∀ (v pv : Value) (e : Ending) (w' : World), (L = hln (hn0 L f) (hnp L f) ∧ ckn (hn0 L f) (hnp L f) (dF L f) = 0 ∧ hbs (hn0 L f) (nbS L f (1 + 18 * hn0 L f)) (hnp L f) (dF L f) (pS L f (10 + 18 * hn0 L f)) (kyF L f (10 + 18 * hn0 L f + 16 * hnp L f)) (kyF L f (26 + 18 * hn0 L f + 16 * hnp L f)) = byr f L) → e = .returned (.tuple #[.agg (hdi v pv ((nbS L f (1 + 18 * hn0 L f) : Nat) : Int) (kyF L f (10 + 18 * hn0 L f + 16 * hnp L f)) (kyF L f (26 + 18 * hn0 L f + 16 * hnp L f))).toArray, .int .i64 0]) → w'.ownsRow N 90 18 v (hn0 L f) (lbF (dF L f) (hn0 L f)) → w'.ownsRow N 70 2 pv (hnp L f) (ptF (pI (pS L f (10 + 18 * hn0 L f))) (hnp L f)) → DcE L f N e w') := Lib.hid (fun v pv e w' hc he h1 h2 => .inl ⟨hc, v, pv, he, h1, h2⟩)
  have HDN : Hid (∀ (e : Ending) (w' : World), ¬ (L = hln (hn0 L f) (hnp L f) ∧ ckn (hn0 L f) (hnp L f) (dF L f) = 0 ∧ hbs (hn0 L f) (nbS L f (1 + 18 * hn0 L f)) (hnp L f) (dF L f) (pS L f (10 + 18 * hn0 L f)) (kyF L f (10 + 18 * hn0 L f + 16 * hnp L f)) (kyF L f (26 + 18 * hn0 L f + 16 * hnp L f)) = byr f L) → e = .returned (.tuple #[.agg hd0, .int .i64 12]) → DcE L f N e w') := Lib.hid (fun e w' hc he => .inr ⟨hc, he⟩)
  have HG : Hid (∀ i, Ok (pS L f (10 + 18 * hn0 L f) i)) := Lib.hid (fun i => ⟨nbS_M L f hf _, nbS_M L f hf _⟩)
  obtain ⟨D, hD⟩ : ∃ D : Ending → World → Prop, D = DcE L f N := ⟨_, rfl⟩
  rw [← hD] at HDY HDN
  obtain ⟨n, hn⟩ : ∃ n, n = hn0 L f := ⟨_, rfl⟩
  obtain ⟨np, hnpe⟩ : ∃ np, np = hnp L f := ⟨_, rfl⟩
  rw [← hn] at hn255 HNP HN0 HDY HDN HG hb0M
  rw [← hnpe] at hp255 HNP HDY HDN
  have HE : Hid (N + 2 ≤ W2.heap.size ∧ Below N w W2 ∧ Hdx W2 N (.slice none 0 0) (.slice none 0 0) 0 (0, 0) (0, 0) ∧ Hdx W2 (N + 1) (.slice none 0 0) (.slice none 0 0) 0 (0, 0) (0, 0)) := Lib.hid ⟨by omega, b2, e0, e1⟩
  have HAt : Hid (∀ (i k : Nat) (w1 : World), i ≤ 1000000 → k ≤ 64 → 0 < k → Below N w w1 → N ≤ w1.heap.size → Calls Try.prog 52 #[.slice A L m, .int .i64 (i : Int), .int .i64 (k : Int)] w1 fun e w' => ∃ (gl c : Nat) (cur : Array Value), e = .returned (.slice (some ⟨gl, 0, none⟩) k c) ∧ k ≤ c ∧ c ≤ maxLen ∧ Blk w' gl cur 5 ∧ (∀ j, j < k → cur[j]? = some (.int .u8 ((flz L f (i + j) : Nat) : Int))) ∧ Below w1.heap.size w1 w') := Lib.hid (fun i k w1 h1 h2 h3 h4 h5 => by
    refine (refAt_any g o L m i k A f w1 h1 h2 hL hLm hgo (fun j hj => (h4.cell (p := ⟨g, o + j, none⟩) (by rw [hN]; exact World.block_lt_of_cell? w _ (hcl j hj))).trans (hcl j hj))).mono ?_
    rintro e w' ⟨v, rfl, ho, hb⟩
    obtain ⟨gl, c, cur, rfl, _, q1, q2, q3, q4⟩ := own_blk ho h3
    exact ⟨gl, c, cur, rfl, q1, q2, q3, fun j hj => q4 j _ (byr_get _ _ _ hj), hb⟩)
  have HKy : Hid (∀ (gl off k c p : Nat) (w1 : World), 16 ≤ k → (∀ j, j < 16 → w1.cell? ⟨gl, off + j, none⟩ = some (.int .u8 ((flz L f (p + j) : Nat) : Int))) → Calls Try.prog 53 #[.slice (some ⟨gl, off, none⟩) k c] w1 fun e w' => e = .returned (.agg (kl (kyF L f p).1 (kyF L f p).2).toArray) ∧ Below w1.heap.size w1 w') := Lib.hid (fun gl off k c p w1 h1 h2 => refKey3_any gl off k c (fun j => flz L f (p + j)) w1 h1 (fun j => flz_lt L f hf _) h2)
  have HVa : Hid (∀ (gl c p : Nat) (w1 : World), (∀ j, j < 8 → w1.cell? ⟨gl, j, none⟩ = some (.int .u8 ((flz L f (p + j) : Nat) : Int))) → Calls Try.prog 54 #[.slice (some ⟨gl, 0, none⟩) 8 c] w1 fun e w' => e = .returned (.int .u64 ((nbS L f p : Nat) : Int)) ∧ Below w1.heap.size w1 w') := Lib.hid (fun gl c p w1 h2 => refValue_any gl 0 8 c (fun j => flz L f (p + j)) w1 (fun j => flz_lt L f hf _) (by omega) (fun i hi => by rw [Nat.zero_add]; exact h2 i hi))
  have HBt : Hid (∀ w1, Below N w w1 → Byt w1 A L m f) := Lib.hid (fun w1 h => ⟨hLm, hm, hf, fun h0 => by
    rcases hgo with h1 | h1
    · omega
    · exact ⟨g, o, h1, fun i hi => (h.cell (p := ⟨g, o + i, none⟩) (by rw [hN]; exact World.block_lt_of_cell? w _ (hcl i hi))).trans (hcl i hi)⟩⟩)
  have HFl : Hid (∀ i, flz L f i < 256) := Lib.hid (fun i => flz_lt L f hf _)
  have HN := Lib.hid hN
  have HW := Lib.hid hW2
  have HT1 := Lib.hid t1
  rw [← hN, ← hD]
  have HD := Lib.hid hD
  clear hD hn hnpe hN hW2 s2 b2 e0 e1 t1 hgo hcl hL hLm hm hf
  go_enter Try.func20, Try.ntmps20
  go_wp2_with (first
    | ((with_reducible show wpList _ _ _ (Oper.mk _ (Op.build 28 _) _ _ _ _ :: _) _ _); refine wpList_buildHd0 rfl rfl ?_)
    | ((with_reducible show wpList _ _ _ (Oper.mk _ (Op.store 28 _ _) _ _ _ _ :: _) _ _); refine wpList_store_hdi rfl _ _ rfl _ _ _ _ _ _ rfl rfl rfl rfl HT1.out ?_; rw [← HW.out, ← HN.out]))
  refine (HAt.out 0 1 W2 (by omega) (by omega) (by omega) HE.out.2.1 (by have := HE.out.1; omega)).mono ?_
  rintro e w3 ⟨g3, c3, cur3, rfl, q1, q2, hk3, hcu, hb3⟩
  have z3 : w3.cell? ⟨g3, 0, none⟩ = some (.int .u8 (n : Int)) := by
    rw [hk3.cell, hcu 0 (by omega)]
    show some (Value.int .u8 ((flz L f 0 : Nat) : Int)) = _
    rw [HN0.out]
  have H3 : Hid (Below N w w3 ∧ N + 2 ≤ w3.heap.size ∧ Hdx w3 N (.slice none 0 0) (.slice none 0 0) 0 (0, 0) (0, 0) ∧ Hdx w3 (N + 1) (.slice none 0 0) (.slice none 0 0) 0 (0, 0) (0, 0)) := Lib.hid ⟨HE.out.2.1.trans (hb3.mono (by have := HE.out.1; omega)), Nat.le_trans HE.out.1 hb3.size, Blk.keep HE.out.2.2.1 hb3, Blk.keep HE.out.2.2.2 hb3⟩
  clear hk3 hcu hb3
  go_wp2_with fail
  clear z3 q1 q2
  go_loopw [5, 6] (fun iv nv wr => ∃ (k j P : Nat) (v : Value), Hid (k + j = n) ∧ Hid (P = 1 + 18 * k) ∧ iv = .int .i64 (P : Int) ∧ nv = .int .i64 (j : Int) ∧ Hid (wr.ownsRow N 90 18 v k (lbF (dF L f) k)) ∧ Hid (Below N w wr ∧ N + 2 ≤ wr.heap.size) ∧ Hid (Hdx wr N (.slice none 0 0) (.slice none 0 0) 0 (0, 0) (0, 0) ∧ Hdx wr (N + 1) v (.slice none 0 0) 0 (0, 0) (0, 0))) (fun _ nv _ => (intOf nv).toNat)
  case atStart => exact ⟨0, n, 1, (.slice none 0 0), Lib.hid (by omega), Lib.hid rfl, rfl, rfl, Lib.hid (World.ownsRow_nil _ _ _ _), Lib.hid ⟨H3.out.1, H3.out.2.1⟩, Lib.hid ⟨H3.out.2.2.1, H3.out.2.2.2⟩⟩
  case round =>
    obtain ⟨k, j, P, v, HKJ, HP, rfl, rfl, HO, HS, HB⟩ := hrel
    have hkj := HKJ.out
    have hP1 : P ≤ 100000 := by have := HP.out; omega
    rcases Nat.eq_zero_or_pos j with h0 | h0
    rotate_left
    · have l2 : (0 : Int) < (j : Int) := by omega
      have l3 : k ≤ 255 := by omega
      have l4 : j ≤ 255 := by omega
      have HSn : Hid (lbF (dF L f) (k + 1) = lbF (dF L f) k ++ lbl ((flz L f P : Nat) : Int) ((flz L f (P + 1) : Nat) : Int) (kyF L f (P + 2))) := Lib.hid (by rw [HP.out]; exact lbF_succ _ _)
      have HQ := Lib.hid (fun gl c w1 => HKy.out gl 2 16 c (P + 2) w1 (by omega))
      have hwa : IntKind.i64.wrap ((flz L f P : Nat) : Int) = ((flz L f P : Nat) : Int) := by
        have := HFl.out P
        generalize flz L f P = z at this ⊢
        simp [IntKind.wrap, IntKind.bits, IntKind.signed]; omega
      have hwb : IntKind.i64.wrap ((flz L f (P + 1) : Nat) : Int) = ((flz L f (P + 1) : Nat) : Int) := by
        have := HFl.out (P + 1)
        generalize flz L f (P + 1) = z at this ⊢
        simp [IntKind.wrap, IntKind.bits, IntKind.signed]; omega
      obtain ⟨xs, hxs⟩ : ∃ xs, xs = lbF (dF L f) k := ⟨_, rfl⟩
      obtain ⟨q, hq⟩ : ∃ q, q = kyF L f (P + 2) := ⟨_, rfl⟩
      have HCA := Lib.hid (rfl : flz L f P = flz L f P)
      obtain ⟨a, ha⟩ : ∃ a : Int, a = ((flz L f P : Nat) : Int) := ⟨_, rfl⟩
      obtain ⟨b, hb⟩ : ∃ b : Int, b = ((flz L f (P + 1) : Nat) : Int) := ⟨_, rfl⟩
      rw [← ha] at HSn hwa
      rw [← hb] at HSn hwb
      rw [← hq] at HSn HQ
      rw [← hxs] at HSn HO
      have HEq := Lib.hid (And.intro ha hb)
      have HHj := Lib.hid h0
      clear ha hb hq hxs HCA hkj h0 hn255 hp255 hb0M
      go_wp2_with fail
      refine (HAt.out P 18 wr (by omega) (by omega) (by omega) HS.out.1 (by have := HS.out.2; omega)).mono ?_
      rintro e w4 ⟨gl, cl, cur, rfl, q1, q2, hk4, hcu, hb4⟩
      have HW4 : Hid (Below N w w4 ∧ N + 2 ≤ w4.heap.size ∧ Hdx w4 N (.slice none 0 0) (.slice none 0 0) 0 (0, 0) (0, 0) ∧ Hdx w4 (N + 1) v (.slice none 0 0) 0 (0, 0) (0, 0) ∧ w4.ownsRow N 90 18 v k xs ∧ Blk w4 gl cur 5) := Lib.hid ⟨HS.out.1.trans (hb4.mono (by have := HS.out.2; omega)), Nat.le_trans HS.out.2 hb4.size, Blk.keep HB.out.1 hb4, Blk.keep HB.out.2 hb4, own_below HO.out hb4, hk4⟩
      have HCu : Hid (cur[0]? = some (.int .u8 a) ∧ cur[1]? = some (.int .u8 b) ∧ ∀ i, i < 16 → cur[2 + i]? = some (.int .u8 ((flz L f (P + 2 + i) : Nat) : Int))) := Lib.hid ⟨by rw [HEq.out.1]; exact hcu 0 (by omega), by rw [HEq.out.2]; exact hcu 1 (by omega), fun i hi => by rw [hcu (2 + i) (by omega), Nat.add_assoc]⟩
      clear hk4 hcu hb4
      go_wp2_with fail
      have hcl2 : ¬ (cl = 2) := by omega
      obtain ⟨i0, hi, hz0, hz1, hz2⟩ := info_parts infoItm
      have HI := Lib.hid (And.intro hi (And.intro hz0 (And.intro hz1 hz2)))
      clear hi hz0 hz1 hz2
      refine wp_region_inv (by kernel_rfl) (by kernel_rfl) (fun l a' w' => ∃ (v2 : Value) (gb : Nat) (w1 : World), a' = { tmps := #[Value.slice A L m, undef, Value.pointer (some ⟨N, 0, none⟩), Value.int .i64 (0 : Int), Value.pointer (some ⟨N + 1, 0, none⟩), Value.int .i64 (P : Int), Value.int .i64 (j : Int), Value.slice (some ⟨gl, 0, none⟩) 18 cl, undef, undef, undef, undef, Value.agg hd0, Value.slice A L m, Value.slice (some ⟨g3, 0, none⟩) 1 c3, Value.pointer (some ⟨g3, 0, none⟩), Value.int .u8 (n : Int), Value.int .i64 (n : Int), Value.int .i64 (j : Int), Value.bool true, u20, u21, Value.slice A L m, Value.int .i64 (P : Int), Value.slice (some ⟨gl, 0, none⟩) 18 cl, bif l 0 then Value.pointer (some ⟨N + 1, 0, none⟩) else u25, bif l 1 then v else u26, bif l 2 then Value.slice (some ⟨gl, 0, none⟩) 18 cl else u27, bif l 3 then Value.pointer (some ⟨gl, 0, none⟩) else u28, bif l 4 then Value.int .u8 a else u29, bif l 5 then Value.int .i64 a else u30, bif l 6 then Value.slice (some ⟨gl, 0, none⟩) 18 cl else u31, bif l 7 then Value.pointer (some ⟨gl, 1, none⟩) else u32, bif l 8 then Value.int .u8 b else u33, bif l 9 then Value.int .i64 b else u34, bif l 10 then Value.agg #[Value.int .i64 a, Value.int .i64 b] else u35, bif l 11 then Value.slice (some ⟨gl, 0, none⟩) 18 cl else u36, bif l 12 then Value.slice (some ⟨gl, 2, none⟩) 16 (cl - 2) else u37, bif l 13 then Value.agg (kl q.1 q.2).toArray else u38, bif l 14 then Value.agg (lbl a b q).toArray else u39, bif l 15 then Value.slice (some ⟨gb, 0, none⟩) 1 1 else u40, bif l 16 then v2 else u41, bif l 17 then Value.pointer (some ⟨N + 1, 0, none⟩) else u42, u43, u44, undef, undef, undef, undef, undef, undef, undef, undef, undef, undef, undef, undef, undef, undef, undef, undef, undef, undef, undef, undef, undef, undef, undef, undef, undef, undef, undef, undef, undef, undef, undef, undef, undef, undef, undef, undef, undef, undef, undef, undef, undef, undef, undef, undef, undef, undef, undef, undef, undef, undef, undef, undef, undef, undef, undef, undef, undef, undef, undef, undef, undef, undef, undef], defers := [] } ∧ (Below N w w1) ∧ (∀ b' cs t, 90 ≠ t → Blk w4 b' cs t → Blk w1 b' cs t) ∧ (l 16 = false → w1.ownsRow N 90 18 v k xs) ∧ (l 15 = true → l 16 = false → Blk w1 gb (lbl a b q).toArray 90) ∧ (l 16 = true → w1.ownsRow N 90 18 v2 (k + 1) (xs ++ (lbl a b q))) ∧ w' = (bif l 18 then w1.setCell ⟨N + 1, 0, none⟩ v2 else w1) ∧ (l 18 = true → (l 0 && l 1 && l 2 && l 3 && l 4 && l 5 && l 6 && l 7 && l 8 && l 9 && l 10 && l 11 && l 12 && l 13 && l 14 && l 15 && l 16 && l 17) = true)) ⟨v, 0, w4.drew, rfl, (HW4.out.1.drew : Below N w w4.drew), (fun _ _ _ _ h => h), (fun _ => (HW4.out.2.2.2.2.1 : w4.drew.ownsRow N 90 18 v k xs)), (fun h => by cases h), (fun h => by cases h), rfl, (fun h => by cases h)⟩ ?_ ?_
      · rintro l a' w' i ⟨v2, gb, w1, rfl, hX, cK, cR, cS, cO, hw, oS⟩ hi' hli hpre
        have hi2 : i < 19 := hi'
        have hcase : i = 0 ∨ i = 1 ∨ i = 2 ∨ i = 3 ∨ i = 4 ∨ i = 5 ∨ i = 6 ∨ i = 7 ∨ i = 8 ∨ i = 9 ∨ i = 10 ∨ i = 11 ∨ i = 12 ∨ i = 13 ∨ i = 14 ∨ i = 15 ∨ i = 16 ∨ i = 17 ∨ i = 18 := by omega
        clear hi' hi2
        rcases hcase with rfl | rfl | rfl | rfl | rfl | rfl | rfl | rfl | rfl | rfl | rfl | rfl | rfl | rfl | rfl | rfl | rfl | rfl | rfl
        · -- 0: Op.fieldAddr 28 (Operand.tmp 4) 0
          refine wpOp_step rfl (fun K' hK => ?_)
          have nS : l 18 = false := by
            cases h : l 18
            · rfl
            · have := oS h; simp [hli] at this
          rw [nS, cond_false] at hw
          subst hw
          clear hpre
          rw [if_pos (by rfl)]
          go_simp
          exact hK _ _ ⟨v2, gb, w', by simp [upd, Act.put], hX, cK, (fun e0 => (cR (by simpa [upd] using e0))), (fun e0 e1 => (cS (by simpa [upd] using e0) (by simpa [upd] using e1))), (fun e0 => (cO (by simpa [upd] using e0))), by simp [upd, nS], (fun e => absurd e (by simp [upd, nS]))⟩
        · -- 1: Op.load 22 (Operand.tmp 25)
          have p0 : l 0 = true := hpre _ rfl ⟨0, .data⟩ (by simp) rfl
          refine wpOp_step rfl (fun K' hK => ?_)
          have nS : l 18 = false := by
            cases h : l 18
            · rfl
            · have := oS h; simp [hli] at this
          rw [nS, cond_false] at hw
          subst hw
          simp only [p0, cond_true, cond_false]
          clear hpre
          rw [if_pos (by rfl)]
          have z1 : w'.cell? ⟨N + 1, 0, none⟩ = some v := Hdx.c0 (cK _ _ _ (by decide) HW4.out.2.2.2.1)
          go_simp
          exact hK _ _ ⟨v2, gb, w', by simp [upd, Act.put, p0], hX, cK, (fun e0 => (cR (by simpa [upd] using e0))), (fun e0 e1 => (cS (by simpa [upd] using e0) (by simpa [upd] using e1))), (fun e0 => (cO (by simpa [upd] using e0))), by simp [upd, nS], (fun e => absurd e (by simp [upd, nS]))⟩
        · -- 2: Op.move (Operand.tmp 7)
          refine wpOp_step rfl (fun K' hK => ?_)
          have nS : l 18 = false := by
            cases h : l 18
            · rfl
            · have := oS h; simp [hli] at this
          rw [nS, cond_false] at hw
          subst hw
          clear hpre
          rw [if_pos (by rfl)]
          go_simp
          exact hK _ _ ⟨v2, gb, w', by simp [upd, Act.put], hX, cK, (fun e0 => (cR (by simpa [upd] using e0))), (fun e0 e1 => (cS (by simpa [upd] using e0) (by simpa [upd] using e1))), (fun e0 => (cO (by simpa [upd] using e0))), by simp [upd, nS], (fun e => absurd e (by simp [upd, nS]))⟩
        · -- 3: Op.indexAddr 29 (Operand.tmp 27) (Operand.const (Value.int I
          have p2 : l 2 = true := hpre _ rfl ⟨2, .data⟩ (by simp) rfl
          refine wpOp_step rfl (fun K' hK => ?_)
          have nS : l 18 = false := by
            cases h : l 18
            · rfl
            · have := oS h; simp [hli] at this
          rw [nS, cond_false] at hw
          subst hw
          simp only [p2, cond_true, cond_false]
          clear hpre
          rw [if_pos (by rfl)]
          have q18 : (0 : Int) < 18 := by omega
          go_simp
          exact hK _ _ ⟨v2, gb, w', by simp [upd, Act.put, p2], hX, cK, (fun e0 => (cR (by simpa [upd] using e0))), (fun e0 e1 => (cS (by simpa [upd] using e0) (by simpa [upd] using e1))), (fun e0 => (cO (by simpa [upd] using e0))), by simp [upd, nS], (fun e => absurd e (by simp [upd, nS]))⟩
        · -- 4: Op.load 5 (Operand.tmp 28)
          have p3 : l 3 = true := hpre _ rfl ⟨3, .data⟩ (by simp) rfl
          refine wpOp_step rfl (fun K' hK => ?_)
          have nS : l 18 = false := by
            cases h : l 18
            · rfl
            · have := oS h; simp [hli] at this
          rw [nS, cond_false] at hw
          subst hw
          simp only [p3, cond_true, cond_false]
          clear hpre
          rw [if_pos (by rfl)]
          have z1 : w'.cell? ⟨gl, 0, none⟩ = some (.int .u8 a) := ((cK _ _ _ (by decide) HW4.out.2.2.2.2.2).cell 0).trans HCu.out.1
          go_simp
          exact hK _ _ ⟨v2, gb, w', by simp [upd, Act.put, p3], hX, cK, (fun e0 => (cR (by simpa [upd] using e0))), (fun e0 e1 => (cS (by simpa [upd] using e0) (by simpa [upd] using e1))), (fun e0 => (cO (by simpa [upd] using e0))), by simp [upd, nS], (fun e => absurd e (by simp [upd, nS]))⟩
        · -- 5: Op.convert 5 3 (Operand.tmp 29)
          have p4 : l 4 = true := hpre _ rfl ⟨4, .data⟩ (by simp) rfl
          refine wpOp_step rfl (fun K' hK => ?_)
          have nS : l 18 = false := by
            cases h : l 18
            · rfl
            · have := oS h; simp [hli] at this
          rw [nS, cond_false] at hw
          subst hw
          simp only [p4, hwa, cond_true, cond_false]
          clear hpre
          rw [if_pos (by rfl)]
          go_simp
          exact hK _ _ ⟨v2, gb, w', by simp [upd, Act.put, p4, hwa], hX, cK, (fun e0 => (cR (by simpa [upd] using e0))), (fun e0 e1 => (cS (by simpa [upd] using e0) (by simpa [upd] using e1))), (fun e0 => (cO (by simpa [upd] using e0))), by simp [upd, nS], (fun e => absurd e (by simp [upd, nS]))⟩
        · -- 6: Op.move (Operand.tmp 7)
          refine wpOp_step rfl (fun K' hK => ?_)
          have nS : l 18 = false := by
            cases h : l 18
            · rfl
            · have := oS h; simp [hli] at this
          rw [nS, cond_false] at hw
          subst hw
          clear hpre
          rw [if_pos (by rfl)]
          go_simp
          exact hK _ _ ⟨v2, gb, w', by simp [upd, Act.put], hX, cK, (fun e0 => (cR (by simpa [upd] using e0))), (fun e0 e1 => (cS (by simpa [upd] using e0) (by simpa [upd] using e1))), (fun e0 => (cO (by simpa [upd] using e0))), by simp [upd, nS], (fun e => absurd e (by simp [upd, nS]))⟩
        · -- 7: Op.indexAddr 29 (Operand.tmp 31) (Operand.const (Value.int I
          have p6 : l 6 = true := hpre _ rfl ⟨6, .data⟩ (by simp) rfl
          refine wpOp_step rfl (fun K' hK => ?_)
          have nS : l 18 = false := by
            cases h : l 18
            · rfl
            · have := oS h; simp [hli] at this
          rw [nS, cond_false] at hw
          subst hw
          simp only [p6, cond_true, cond_false]
          clear hpre
          rw [if_pos (by rfl)]
          go_simp
          exact hK _ _ ⟨v2, gb, w', by simp [upd, Act.put, p6], hX, cK, (fun e0 => (cR (by simpa [upd] using e0))), (fun e0 e1 => (cS (by simpa [upd] using e0) (by simpa [upd] using e1))), (fun e0 => (cO (by simpa [upd] using e0))), by simp [upd, nS], (fun e => absurd e (by simp [upd, nS]))⟩
        · -- 8: Op.load 5 (Operand.tmp 32)
          have p7 : l 7 = true := hpre _ rfl ⟨7, .data⟩ (by simp) rfl
          refine wpOp_step rfl (fun K' hK => ?_)
          have nS : l 18 = false := by
            cases h : l 18
            · rfl
            · have := oS h; simp [hli] at this
          rw [nS, cond_false] at hw
          subst hw
          simp only [p7, cond_true, cond_false]
          clear hpre
          rw [if_pos (by rfl)]
          have z1 : w'.cell? ⟨gl, 1, none⟩ = some (.int .u8 b) := ((cK _ _ _ (by decide) HW4.out.2.2.2.2.2).cell 1).trans HCu.out.2.1
          go_simp
          exact hK _ _ ⟨v2, gb, w', by simp [upd, Act.put, p7], hX, cK, (fun e0 => (cR (by simpa [upd] using e0))), (fun e0 e1 => (cS (by simpa [upd] using e0) (by simpa [upd] using e1))), (fun e0 => (cO (by simpa [upd] using e0))), by simp [upd, nS], (fun e => absurd e (by simp [upd, nS]))⟩
        · -- 9: Op.convert 5 3 (Operand.tmp 33)
          have p8 : l 8 = true := hpre _ rfl ⟨8, .data⟩ (by simp) rfl
          refine wpOp_step rfl (fun K' hK => ?_)
          have nS : l 18 = false := by
            cases h : l 18
            · rfl
            · have := oS h; simp [hli] at this
          rw [nS, cond_false] at hw
          subst hw
          simp only [p8, hwb, cond_true, cond_false]
          clear hpre
          rw [if_pos (by rfl)]
          go_simp
          exact hK _ _ ⟨v2, gb, w', by simp [upd, Act.put, p8, hwb], hX, cK, (fun e0 => (cR (by simpa [upd] using e0))), (fun e0 e1 => (cS (by simpa [upd] using e0) (by simpa [upd] using e1))), (fun e0 => (cO (by simpa [upd] using e0))), by simp [upd, nS], (fun e => absurd e (by simp [upd, nS]))⟩
        · -- 10: Op.build 56 #[(0, Operand.tmp 30), (1, Operand.tmp 34)]
          have p5 : l 5 = true := hpre _ rfl ⟨5, .data⟩ (by simp) rfl
          have p9 : l 9 = true := hpre _ rfl ⟨9, .data⟩ (by simp) rfl
          refine wpOp_step rfl (fun K' hK => ?_)
          have nS : l 18 = false := by
            cases h : l 18
            · rfl
            · have := oS h; simp [hli] at this
          rw [nS, cond_false] at hw
          subst hw
          simp only [p5, p9, cond_true, cond_false]
          clear hpre
          rw [if_pos (by rfl)]
          go_simp
          exact hK _ _ ⟨v2, gb, w', by simp [upd, Act.put, p5, p9], hX, cK, (fun e0 => (cR (by simpa [upd] using e0))), (fun e0 e1 => (cS (by simpa [upd] using e0) (by simpa [upd] using e1))), (fun e0 => (cO (by simpa [upd] using e0))), by simp [upd, nS], (fun e => absurd e (by simp [upd, nS]))⟩
        · -- 11: Op.move (Operand.tmp 7)
          refine wpOp_step rfl (fun K' hK => ?_)
          have nS : l 18 = false := by
            cases h : l 18
            · rfl
            · have := oS h; simp [hli] at this
          rw [nS, cond_false] at hw
          subst hw
          clear hpre
          rw [if_pos (by rfl)]
          go_simp
          exact hK _ _ ⟨v2, gb, w', by simp [upd, Act.put], hX, cK, (fun e0 => (cR (by simpa [upd] using e0))), (fun e0 e1 => (cS (by simpa [upd] using e0) (by simpa [upd] using e1))), (fun e0 => (cO (by simpa [upd] using e0))), by simp [upd, nS], (fun e => absurd e (by simp [upd, nS]))⟩
        · -- 12: Op.slice 29 (Operand.tmp 36) (some (Operand.const (Value.int
          have p11 : l 11 = true := hpre _ rfl ⟨11, .data⟩ (by simp) rfl
          refine wpOp_step rfl (fun K' hK => ?_)
          have nS : l 18 = false := by
            cases h : l 18
            · rfl
            · have := oS h; simp [hli] at this
          rw [nS, cond_false] at hw
          subst hw
          simp only [p11, hcl2, cond_true, cond_false]
          clear hpre
          rw [if_pos (by rfl)]
          go_simp
          exact hK _ _ ⟨v2, gb, w', by simp [upd, Act.put, p11, hcl2], hX, cK, (fun e0 => (cR (by simpa [upd] using e0))), (fun e0 e1 => (cS (by simpa [upd] using e0) (by simpa [upd] using e1))), (fun e0 => (cO (by simpa [upd] using e0))), by simp [upd, nS], (fun e => absurd e (by simp [upd, nS]))⟩
        · -- 13: Op.call { callee := Callee.value (Operand.func 53), args := 
          have p12 : l 12 = true := hpre _ rfl ⟨12, .data⟩ (by simp) rfl
          refine wpOp_step rfl (fun K' hK => ?_)
          have nS : l 18 = false := by
            cases h : l 18
            · rfl
            · have := oS h; simp [hli] at this
          rw [nS, cond_false] at hw
          subst hw
          simp only [p12, cond_true, cond_false]
          clear hpre
          rw [if_pos (by rfl)]
          go_simp
          refine (HQ.out gl (cl - 2) _ (fun i hi => ((cK _ _ _ (by decide) HW4.out.2.2.2.2.2).cell (2 + i)).trans (HCu.out.2.2 i hi))).mono ?_
          rintro e w5 ⟨rfl, hb5⟩
          exact hK _ _ ⟨v2, gb, w5, by simp [upd, Act.put, p12], (hX).trans (hb5.mono (by have h1 := hX.size; rw [← HN.out] at h1; exact h1)), (fun b' cs t h1 h3 => Blk.keep (cK b' cs t h1 h3) hb5), (fun e0 => own_below ((cR (by simpa [upd] using e0))) hb5), (fun e0 e1 => Blk.keep ((cS (by simpa [upd] using e0) (by simpa [upd] using e1))) hb5), (fun e0 => own_below ((cO (by simpa [upd] using e0))) hb5), by simp [upd, nS], (fun e => absurd e (by simp [upd, nS]))⟩
        · -- 14: Op.build 90 #[(0, Operand.tmp 35), (1, Operand.tmp 38)]
          have p10 : l 10 = true := hpre _ rfl ⟨10, .data⟩ (by simp) rfl
          have p13 : l 13 = true := hpre _ rfl ⟨13, .data⟩ (by simp) rfl
          refine wpOp_step rfl (fun K' hK => ?_)
          have nS : l 18 = false := by
            cases h : l 18
            · rfl
            · have := oS h; simp [hli] at this
          rw [nS, cond_false] at hw
          subst hw
          simp only [p10, p13, cond_true, cond_false]
          clear hpre
          rw [if_pos (by rfl)]
          refine wp_buildItm _ _ rfl a b q rfl rfl ?_
          exact hK _ _ ⟨v2, gb, w', by simp [upd, Act.put, p10, p13], hX, cK, (fun e0 => (cR (by simpa [upd] using e0))), (fun e0 e1 => (cS (by simpa [upd] using e0) (by simpa [upd] using e1))), (fun e0 => (cO (by simpa [upd] using e0))), by simp [upd, nS], (fun e => absurd e (by simp [upd, nS]))⟩
        · -- 15: Op.buildSlice 22 1 #[(0, Operand.tmp 39)]
          have p14 : l 14 = true := hpre _ rfl ⟨14, .data⟩ (by simp) rfl
          refine wpOp_step rfl (fun K' hK => ?_)
          have nS : l 18 = false := by
            cases h : l 18
            · rfl
            · have := oS h; simp [hli] at this
          rw [nS, cond_false] at hw
          subst hw
          simp only [p14, cond_true, cond_false]
          clear hpre
          rw [if_pos (by rfl)]
          refine wp_buildSliceI _ rfl rfl ?_
          exact hK _ _ ⟨v2, w'.heap.size, w'.alloc (.cells (lbl a b q).toArray 90), by simp [upd, Act.put, p14], (hX).trans ((below_alloc _ _).mono (by have h1 := hX.size; rw [← HN.out] at h1; exact h1)), (fun b' cs t h1 h3 => Blk.keep (cK b' cs t h1 h3) (below_alloc _ _)), (fun e0 => own_below ((cR (by simpa [upd] using e0))) (below_alloc _ _)), (fun _ _ => Blk.new w' _ 90), (fun e0 => own_below ((cO (by simpa [upd] using e0))) (below_alloc _ _)), by simp [upd, nS], (fun e => absurd e (by simp [upd, nS]))⟩
        · -- 16: Op.call { callee := Callee.builtin Builtin.append, args := #
          have p1 : l 1 = true := hpre _ rfl ⟨1, .data⟩ (by simp) rfl
          have p15 : l 15 = true := hpre _ rfl ⟨15, .data⟩ (by simp) rfl
          have p13 : l 13 = true := hpre _ rfl ⟨13, .chain⟩ (by simp) rfl
          refine wpOp_step rfl (fun K' hK => ?_)
          have nS : l 18 = false := by
            cases h : l 18
            · rfl
            · have := oS h; simp [hli] at this
          rw [nS, cond_false] at hw
          subst hw
          have n16 : l 16 = false := hli
          have hBk := cS p15 n16
          have hRw := cR n16
          simp only [p1, p15, p13, cond_true, cond_false]
          clear hpre
          rw [if_pos (by rfl)]
          refine wp_append_own _ _ _ 22 rfl N 90 i0 _ 18 32 Try.underlying22 HI.out.1 HI.out.2.1 HI.out.2.2.1 HI.out.2.2.2 rfl (by omega) v k xs rfl hRw ⟨gb, 0, none⟩ 1 1 (lbl a b q) rfl (by rw [lbl_len]) (fun j u hu => by rw [Addr.add_mid, Nat.zero_add, hBk.cell j]; simpa using hu) (lbl_one _ _ _) (by unfold maxLen; omega) (by omega) (by have h1 := hX.size; rw [← HN.out] at h1; exact h1) ?_
          intro v1 w6 hown6 hg6 _
          exact hK _ _ ⟨v1, gb, w6, by simp [upd, Act.put, p1, p15, p13], hX.grown hg6 (by have h1 := hX.size; rw [← HN.out] at h1; exact h1) (fun b' e => own_block hRw e.symm), (fun b' cs t h2 h3 => Blk.grown (cK b' cs t h2 h3) hg6 (Blk.apart (cK b' cs t h2 h3) hRw h2)), (fun e0 => absurd e0 (by simp [upd])), (fun e0 e1 => absurd e1 (by simp [upd])), (fun _ => hown6), by simp [upd, nS], (fun e => absurd e (by simp [upd, nS]))⟩
        · -- 17: Op.fieldAddr 28 (Operand.tmp 4) 0
          have p0 : l 0 = true := hpre _ rfl ⟨0, .phase⟩ (by simp) rfl
          have p1 : l 1 = true := hpre _ rfl ⟨1, .phase⟩ (by simp) rfl
          have p2 : l 2 = true := hpre _ rfl ⟨2, .phase⟩ (by simp) rfl
          have p3 : l 3 = true := hpre _ rfl ⟨3, .phase⟩ (by simp) rfl
          have p4 : l 4 = true := hpre _ rfl ⟨4, .phase⟩ (by simp) rfl
          have p5 : l 5 = true := hpre _ rfl ⟨5, .phase⟩ (by simp) rfl
          have p6 : l 6 = true := hpre _ rfl ⟨6, .phase⟩ (by simp) rfl
          have p7 : l 7 = true := hpre _ rfl ⟨7, .phase⟩ (by simp) rfl
          have p8 : l 8 = true := hpre _ rfl ⟨8, .phase⟩ (by simp) rfl
          have p9 : l 9 = true := hpre _ rfl ⟨9, .phase⟩ (by simp) rfl
          have p10 : l 10 = true := hpre _ rfl ⟨10, .phase⟩ (by simp) rfl
          have p11 : l 11 = true := hpre _ rfl ⟨11, .phase⟩ (by simp) rfl
          have p12 : l 12 = true := hpre _ rfl ⟨12, .phase⟩ (by simp) rfl
          have p13 : l 13 = true := hpre _ rfl ⟨13, .phase⟩ (by simp) rfl
          have p14 : l 14 = true := hpre _ rfl ⟨14, .phase⟩ (by simp) rfl
          have p15 : l 15 = true := hpre _ rfl ⟨15, .phase⟩ (by simp) rfl
          have p16 : l 16 = true := hpre _ rfl ⟨16, .phase⟩ (by simp) rfl
          refine wpOp_step rfl (fun K' hK => ?_)
          have nS : l 18 = false := by
            cases h : l 18
            · rfl
            · have := oS h; simp [hli] at this
          rw [nS, cond_false] at hw
          subst hw
          simp only [p0, p1, p2, p3, p4, p5, p6, p7, p8, p9, p10, p11, p12, p13, p14, p15, p16, cond_true, cond_false]
          clear hpre
          rw [if_pos (by rfl)]
          go_simp
          exact hK _ _ ⟨v2, gb, w', by simp [upd, Act.put, p0, p1, p2, p3, p4, p5, p6, p7, p8, p9, p10, p11, p12, p13, p14, p15, p16], hX, cK, (fun e0 => (cR (by simpa [upd] using e0))), (fun e0 e1 => (cS (by simpa [upd] using e0) (by simpa [upd] using e1))), (fun e0 => (cO (by simpa [upd] using e0))), by simp [upd, nS], (fun e => absurd e (by simp [upd, nS]))⟩
        · -- 18: Op.store 22 (Operand.tmp 42) (Operand.tmp 41)
          have p17 : l 17 = true := hpre _ rfl ⟨17, .data⟩ (by simp) rfl
          have p16 : l 16 = true := hpre _ rfl ⟨16, .data⟩ (by simp) rfl
          have p0 : l 0 = true := hpre _ rfl ⟨0, .phase⟩ (by simp) rfl
          have p1 : l 1 = true := hpre _ rfl ⟨1, .phase⟩ (by simp) rfl
          have p2 : l 2 = true := hpre _ rfl ⟨2, .phase⟩ (by simp) rfl
          have p3 : l 3 = true := hpre _ rfl ⟨3, .phase⟩ (by simp) rfl
          have p4 : l 4 = true := hpre _ rfl ⟨4, .phase⟩ (by simp) rfl
          have p5 : l 5 = true := hpre _ rfl ⟨5, .phase⟩ (by simp) rfl
          have p6 : l 6 = true := hpre _ rfl ⟨6, .phase⟩ (by simp) rfl
          have p7 : l 7 = true := hpre _ rfl ⟨7, .phase⟩ (by simp) rfl
          have p8 : l 8 = true := hpre _ rfl ⟨8, .phase⟩ (by simp) rfl
          have p9 : l 9 = true := hpre _ rfl ⟨9, .phase⟩ (by simp) rfl
          have p10 : l 10 = true := hpre _ rfl ⟨10, .phase⟩ (by simp) rfl
          have p11 : l 11 = true := hpre _ rfl ⟨11, .phase⟩ (by simp) rfl
          have p12 : l 12 = true := hpre _ rfl ⟨12, .phase⟩ (by simp) rfl
          have p13 : l 13 = true := hpre _ rfl ⟨13, .phase⟩ (by simp) rfl
          have p14 : l 14 = true := hpre _ rfl ⟨14, .phase⟩ (by simp) rfl
          have p15 : l 15 = true := hpre _ rfl ⟨15, .phase⟩ (by simp) rfl
          refine wpOp_step rfl (fun K' hK => ?_)
          have nS : l 18 = false := hli
          rw [nS, cond_false] at hw
          subst hw
          simp only [p17, p16, p0, p1, p2, p3, p4, p5, p6, p7, p8, p9, p10, p11, p12, p13, p14, p15, cond_true, cond_false]
          clear hpre
          rw [if_pos (by rfl)]
          have hS3 := cK _ _ _ (by decide) HW4.out.2.2.2.1
          have z1 := Hdx.c0 hS3
          have z2 := hS3.fr 0
          have c6 := cO p16
          obtain ⟨A6, d6, hv6⟩ := own_val c6
          subst hv6
          go_simp
          exact hK _ _ ⟨_, gb, w', by simp [upd, Act.put, p17, p16, p0, p1, p2, p3, p4, p5, p6, p7, p8, p9, p10, p11, p12, p13, p14, p15], hX, cK, (fun e0 => (cR (by simpa [upd] using e0))), (fun e0 e1 => (cS (by simpa [upd] using e0) (by simpa [upd] using e1))), (fun _ => c6), by simp [upd], (fun _ => by simp [upd, p17, p16, p0, p1, p2, p3, p4, p5, p6, p7, p8, p9, p10, p11, p12, p13, p14, p15])⟩
      · rintro l a' w9 hall ⟨v2, gb, w1, rfl, hX, cK, cR, cS, cO, hw, oS⟩
        rw [hall 18 (by decide), cond_true] at hw
        subst hw
        clear cR
        clear cS
        replace cO := cO (hall 16 (by decide))
        simp only [hall 0 (by decide), hall 1 (by decide), hall 2 (by decide), hall 3 (by decide), hall 4 (by decide), hall 5 (by decide), hall 6 (by decide), hall 7 (by decide), hall 8 (by decide), hall 9 (by decide), hall 10 (by decide), hall 11 (by decide), hall 12 (by decide), hall 13 (by decide), hall 14 (by decide), hall 15 (by decide), hall 16 (by decide), hall 17 (by decide), cond_true]
        clear hall oS
        have hS3 := cK _ _ _ (by decide) HW4.out.2.2.2.1
        have H9 : Hid ((w1.setCell ⟨N + 1, 0, none⟩ v2).ownsRow N 90 18 v2 (k + 1) (lbF (dF L f) (k + 1)) ∧ (Below N w (w1.setCell ⟨N + 1, 0, none⟩ v2) ∧ N + 2 ≤ (w1.setCell ⟨N + 1, 0, none⟩ v2).heap.size) ∧ (Hdx (w1.setCell ⟨N + 1, 0, none⟩ v2) N (.slice none 0 0) (.slice none 0 0) 0 (0, 0) (0, 0) ∧ Hdx (w1.setCell ⟨N + 1, 0, none⟩ v2) (N + 1) v2 (.slice none 0 0) 0 (0, 0) (0, 0))) := Lib.hid ⟨by rw [HSn.out]; exact ownsRow_setCell_other cO (Ne.symm (Blk.apart hS3 cO (by decide))) _, ⟨hX.setCell (p := ⟨N + 1, 0, none⟩) (by simp) _, by
          have h1 := Blk.lt hS3
          have h2 : (w1.setCell ⟨N + 1, 0, none⟩ v2).heap.size = w1.heap.size := by simp
          omega⟩, (cK _ _ _ (by decide) HW4.out.2.2.1).other (by simp) _, Hdx.setItems hS3 v2⟩
        obtain ⟨W9, hW9⟩ : ∃ W9, W9 = w1.setCell ⟨N + 1, 0, none⟩ v2 := ⟨_, rfl⟩
        rw [← hW9] at H9
        rw [← hW9]
        clear hW9 hX cO cK hS3 hwa hwb
        go_wp2_with fail
        go_roundw
        case rel => exact ⟨k + 1, j - 1, P + 18, v2, Lib.hid (by have := HKJ.out; have := HHj.out; omega), Lib.hid (by rw [HP.out]; omega), by go_num, by have := HHj.out; go_num, Lib.hid H9.out.1, Lib.hid H9.out.2.1, Lib.hid H9.out.2.2⟩
        case measure => have := HHj.out; simp [intOf]; omega
    · subst h0
      obtain rfl : k = n := by omega
      have l3 : ¬ ((0 : Int) < ((0 : Nat) : Int)) := by omega
      have HB0 := Lib.hid (fun gl c w1 => HVa.out gl c P w1)
      obtain ⟨b0, hb0⟩ : ∃ b0 : Nat, b0 = nbS L f P := ⟨_, rfl⟩
      rw [← hb0] at HB0
      have HBe : Hid (b0 = nbS L f (1 + 18 * k)) := Lib.hid (by rw [hb0, HP.out])
      have hb64 : b0 < M := by rw [HBe.out]; exact hb0M
      obtain ⟨xs, hxs⟩ : ∃ xs, xs = lbF (dF L f) k := ⟨_, rfl⟩
      rw [← hxs] at HO
      have HXs := Lib.hid hxs
      have HP8 : Hid (P + 8 = 9 + 18 * k) := Lib.hid (by rw [HP.out]; omega)
      have HBM := Lib.hid hb64
      clear hb0 hxs hkj hb0M hb64 H3
      go_wp2_with fail
      refine (HAt.out P 8 wr (by omega) (by omega) (by omega) HS.out.1 (by have := HS.out.2; omega)).mono ?_
      rintro e w4 ⟨gl, cl, cur, rfl, q1, q2, hk4, hcu, hb4⟩
      have H4 : Hid (Below N w w4 ∧ N + 2 ≤ w4.heap.size ∧ Hdx w4 N (.slice none 0 0) (.slice none 0 0) 0 (0, 0) (0, 0) ∧ Hdx w4 (N + 1) v (.slice none 0 0) 0 (0, 0) (0, 0) ∧ w4.ownsRow N 90 18 v k xs) := Lib.hid ⟨HS.out.1.trans (hb4.mono (by have := HS.out.2; omega)), Nat.le_trans HS.out.2 hb4.size, Blk.keep HB.out.1 hb4, Blk.keep HB.out.2 hb4, own_below HO.out hb4⟩
      have HC4 := Lib.hid (HB0.out gl cl w4 (fun i hi => by rw [hk4.cell]; exact hcu i hi))
      clear hk4 hcu hb4 q1 q2
      go_wp2_with fail
      refine HC4.out.mono ?_
      rintro e w5 ⟨rfl, hb5⟩
      have h5 : Hdx w5 (N + 1) v (.slice none 0 0) 0 (0, 0) (0, 0) := Blk.keep H4.out.2.2.2.1 hb5
      have o5 := own_below H4.out.2.2.2.2 hb5
      obtain ⟨W6, hW6⟩ : ∃ W6, W6 = w5.setCell ⟨N + 1, 1, none⟩ (.int .u64 (b0 : Int)) := ⟨_, rfl⟩
      have H6 : Hid (Below N w W6 ∧ N + 2 ≤ W6.heap.size ∧ Hdx W6 N (.slice none 0 0) (.slice none 0 0) 0 (0, 0) (0, 0) ∧ Hdx W6 (N + 1) v (.slice none 0 0) (b0 : Int) (0, 0) (0, 0) ∧ W6.ownsRow N 90 18 v k xs) := Lib.hid (by
        rw [hW6]
        exact ⟨(H4.out.1.trans (hb5.mono (by have := H4.out.2.1; omega))).setCell (p := ⟨N + 1, 1, none⟩) (by simp) _, by simp; exact Nat.le_trans H4.out.2.1 hb5.size, Blk.other (Blk.keep H4.out.2.2.1 hb5) (by simp) _, Hdx.setBase h5 _, ownsRow_setCell_other o5 (Ne.symm (Blk.apart h5 o5 (by decide))) _⟩)
      have z1 := Hdx.c1 h5
      have z2 := Blk.fr h5 1
      have HW6 := Lib.hid hW6
      obtain ⟨P8, hP8⟩ : ∃ P8 : Nat, P8 = P + 8 := ⟨_, rfl⟩
      have hp8 : Hid ((P : Int) + 8 = (P8 : Int)) := Lib.hid (by omega)
      have HQ8 : Hid (P8 = 9 + 18 * k) := Lib.hid (by rw [hP8]; exact HP8.out)
      clear hb5 h5 o5 hW6 HC4 H4
      go_wp2_with fail
      rw [← HW6.out]
      rw [hp8.out]
      refine (HAt.out P8 1 W6 (by omega) (by omega) (by omega) H6.out.1 (by have := H6.out.2.1; omega)).mono ?_
      rintro e w7 ⟨g7, c7, cur7, rfl, q1, q2, hk7, hcu, hb7⟩
      have z7 : w7.cell? ⟨g7, 0, none⟩ = some (.int .u8 (np : Int)) := by
        rw [hk7.cell, hcu 0 (by omega), Nat.add_zero, HQ8.out, HNP.out]
      have H7 : Hid (Below N w w7 ∧ N + 2 ≤ w7.heap.size ∧ Hdx w7 N (.slice none 0 0) (.slice none 0 0) 0 (0, 0) (0, 0) ∧ Hdx w7 (N + 1) v (.slice none 0 0) (b0 : Int) (0, 0) (0, 0) ∧ w7.ownsRow N 90 18 v k xs) := Lib.hid ⟨H6.out.1.trans (hb7.mono (by have := H6.out.2.1; omega)), Nat.le_trans H6.out.2.1 hb7.size, Blk.keep H6.out.2.2.1 hb7, Blk.keep H6.out.2.2.2.1 hb7, own_below H6.out.2.2.2.2 hb7⟩
      obtain ⟨P9, hP9⟩ : ∃ P9 : Nat, P9 = P + 9 := ⟨_, rfl⟩
      have hp9 : Hid ((P : Int) + 9 = (P9 : Int)) := Lib.hid (by omega)
      have HQ9 : Hid (P9 = 10 + 18 * k) := Lib.hid (by rw [hP9, HP.out]; omega)
      have hP92 : P9 ≤ 100000 := by have := HQ9.out; omega
      clear hk7 hcu hb7 z1 z2 H6 HW6 HB HO HS hP8 hP9
      go_wp2_with fail
      rw [hp9.out]
      clear z7 q1 q2 hp8 hp9 l3
      obtain ⟨Po, hPo⟩ : ∃ Po, Po = P := ⟨_, rfl⟩
      rw [← hPo]
      clear hPo
      obtain ⟨Pq, hPq⟩ : ∃ Pq, Pq = P8 := ⟨_, rfl⟩
      rw [← hPq]
      clear hPq
      go_loopw [5, 9] (fun iv nv wr => ∃ (j i P : Nat) (pv : Value), Hid (j + i = np) ∧ Hid (P = 10 + 18 * k + 16 * j) ∧ iv = .int .i64 (P : Int) ∧ nv = .int .i64 (i : Int) ∧ Hid (wr.ownsRow N 90 18 v k xs ∧ wr.ownsRow N 70 2 pv j (ptF (pI (pS L f (10 + 18 * k))) j)) ∧ Hid (Below N w wr ∧ N + 2 ≤ wr.heap.size) ∧ Hid (Hdx wr N (.slice none 0 0) (.slice none 0 0) 0 (0, 0) (0, 0) ∧ Hdx wr (N + 1) v pv (b0 : Int) (0, 0) (0, 0))) (fun _ nv _ => (intOf nv).toNat)
      case atStart => exact ⟨0, np, P9, (.slice none 0 0), Lib.hid (by omega), Lib.hid (by rw [HQ9.out]; omega), rfl, rfl, Lib.hid ⟨H7.out.2.2.2.2, World.ownsRow_nil _ _ _ _⟩, Lib.hid ⟨H7.out.1, H7.out.2.1⟩, Lib.hid ⟨H7.out.2.2.1, H7.out.2.2.2.1⟩⟩
      case round =>
        obtain ⟨j, i, P, pv, HKJ, HP, rfl, rfl, HO, HS, HB⟩ := hrel
        have hkj := HKJ.out
        have hP1 : P ≤ 100000 := by have := HP.out; omega
        rcases Nat.eq_zero_or_pos i with h0 | h0
        rotate_left
        · have l2 : (0 : Int) < (i : Int) := by omega
          have l3 : j ≤ 255 := by omega
          have l4 : i ≤ 255 := by omega
          have HSn : Hid (ptF (pI (pS L f (10 + 18 * k))) (j + 1) = ptF (pI (pS L f (10 + 18 * k))) j ++ [.int .u64 ((nbS L f P : Nat) : Int), .int .u64 ((nbS L f (P + 8) : Nat) : Int)]) := Lib.hid (by rw [HP.out]; exact ptF_succ _ _)
          obtain ⟨P8, hP8⟩ : ∃ P8 : Nat, P8 = P + 8 := ⟨_, rfl⟩
          have hw8 : IntKind.i64.wrap ((P : Int) + 8) = (P8 : Int) := by
            rw [hP8]; simp [IntKind.wrap, IntKind.bits, IntKind.signed]; omega
          rw [← hP8] at HSn
          have hP82 : P8 ≤ 200000 := by omega
          have HA := Lib.hid (fun gl c w1 => HVa.out gl c P w1)
          have HBb := Lib.hid (fun gl c w1 => HVa.out gl c P8 w1)
          obtain ⟨a, ha⟩ : ∃ a : Int, a = ((nbS L f P : Nat) : Int) := ⟨_, rfl⟩
          obtain ⟨b, hb⟩ : ∃ b : Int, b = ((nbS L f P8 : Nat) : Int) := ⟨_, rfl⟩
          obtain ⟨ys, hys⟩ : ∃ ys, ys = ptF (pI (pS L f (10 + 18 * k))) j := ⟨_, rfl⟩
          rw [← ha] at HSn HA
          rw [← hb] at HSn HBb
          rw [← hys] at HSn HO
          have HHj := Lib.hid h0
          have HHP := Lib.hid hP1
          have HHQ := Lib.hid hP82
          clear ha hb hys hP8 hkj h0 hn255 hp255 H7
          go_wp2_with fail
          generalize decide (0 < i) = dd
          obtain ⟨i0, hi, hz0, hz1, hz2⟩ := info_parts infoPnt
          have HI := Lib.hid (And.intro hi (And.intro hz0 (And.intro hz1 hz2)))
          clear hi hz0 hz1 hz2
          refine wp_region_inv (by kernel_rfl) (by kernel_rfl) (fun l a' w' => ∃ (v2 : Value) (gb ga ca gc cc : Nat) (w1 : World), a' = { tmps := #[Value.slice A L m, undef, Value.pointer (some ⟨N, 0, none⟩), Value.int .i64 (0 : Int), Value.pointer (some ⟨N + 1, 0, none⟩), Value.int .i64 (P : Int), Value.int .i64 (0 : Int), u7, Value.int .i64 (np : Int), Value.int .i64 (i : Int), undef, undef, Value.agg hd0, Value.slice A L m, Value.slice (some ⟨g3, 0, none⟩) 1 c3, Value.pointer (some ⟨g3, 0, none⟩), Value.int .u8 (k : Int), Value.int .i64 (k : Int), Value.int .i64 (0 : Int), Value.bool false, u20, u21, u22, u23, u24, u25, u26, u27, u28, u29, u30, u31, u32, u33, u34, u35, u36, u37, u38, u39, u40, u41, u42, u43, u44, Value.slice A L m, Value.int .i64 (Po : Int), Value.slice (some ⟨gl, 0, none⟩) 8 cl, Value.int .u64 (b0 : Int), Value.pointer (some ⟨N + 1, 1, none⟩), Value.slice A L m, Value.int .i64 (Po : Int), Value.int .i64 (Pq : Int), Value.slice (some ⟨g7, 0, none⟩) 1 c7, Value.pointer (some ⟨g7, 0, none⟩), Value.int .u8 (np : Int), Value.int .i64 (np : Int), Value.int .i64 (Po : Int), Value.int .i64 (P9 : Int), Value.int .i64 (np : Int), Value.int .i64 (i : Int), Value.bool dd, u62, u63, bif l 0 then Value.pointer (some ⟨N + 1, 2, none⟩) else u64, bif l 1 then pv else u65, bif l 2 then Value.slice A L m else u66, bif l 3 then Value.int .i64 (P : Int) else u67, bif l 4 then Value.slice (some ⟨ga, 0, none⟩) 8 ca else u68, bif l 5 then Value.int .u64 a else u69, bif l 6 then Value.slice A L m else u70, bif l 7 then Value.int .i64 (P : Int) else u71, bif l 8 then Value.int .i64 (P8 : Int) else u72, bif l 9 then Value.slice (some ⟨gc, 0, none⟩) 8 cc else u73, bif l 10 then Value.int .u64 b else u74, bif l 11 then Value.agg [Value.int .u64 a, Value.int .u64 b].toArray else u75, bif l 12 then Value.slice (some ⟨gb, 0, none⟩) 1 1 else u76, bif l 13 then v2 else u77, bif l 14 then Value.pointer (some ⟨N + 1, 2, none⟩) else u78, u79, u80, undef, undef, undef, undef, undef, undef, undef, undef, undef, undef, undef, undef, undef, undef, undef, undef, undef, undef, undef, undef, undef, undef, undef, undef, undef, undef, undef], defers := [] } ∧ (Below N w w1) ∧ (∀ b' cs t, 70 ≠ t → Blk wr b' cs t → Blk w1 b' cs t) ∧ (w1.ownsRow N 90 18 v k xs) ∧ (l 13 = false → w1.ownsRow N 70 2 pv j ys) ∧ (l 4 = true → l 13 = false → ∀ i', i' < 8 → w1.cell? ⟨ga, i', none⟩ = some (.int .u8 ((flz L f (P + i') : Nat) : Int))) ∧ (l 9 = true → l 13 = false → ∀ i', i' < 8 → w1.cell? ⟨gc, i', none⟩ = some (.int .u8 ((flz L f (P8 + i') : Nat) : Int))) ∧ (l 12 = true → l 13 = false → Blk w1 gb [Value.int .u64 a, Value.int .u64 b].toArray 70) ∧ (l 13 = true → w1.ownsRow N 70 2 v2 (j + 1) (ys ++ [Value.int .u64 a, Value.int .u64 b])) ∧ (l 5 = true → l 4 = true) ∧ (l 10 = true → l 9 = true) ∧ (l 11 = true → l 5 = true) ∧ (l 11 = true → l 10 = true) ∧ (l 12 = true → l 11 = true) ∧ (l 13 = true → l 5 = true) ∧ (l 13 = true → l 10 = true) ∧ w' = (bif l 15 then w1.setCell ⟨N + 1, 2, none⟩ v2 else w1) ∧ (l 15 = true → (l 0 && l 1 && l 2 && l 3 && l 4 && l 5 && l 6 && l 7 && l 8 && l 9 && l 10 && l 11 && l 12 && l 13 && l 14) = true)) ⟨pv, 0, 0, 0, 0, 0, wr.drew, rfl, (HS.out.1.drew : Below N w wr.drew), (fun _ _ _ _ h => h), (HO.out.1 : wr.drew.ownsRow N 90 18 v k xs), (fun _ => (HO.out.2 : wr.drew.ownsRow N 70 2 pv j ys)), (fun h => by cases h), (fun h => by cases h), (fun h => by cases h), (fun h => by cases h), (fun h => by cases h), (fun h => by cases h), (fun h => by cases h), (fun h => by cases h), (fun h => by cases h), (fun h => by cases h), (fun h => by cases h), rfl, (fun h => by cases h)⟩ ?_ ?_
          · rintro l a' w' i ⟨v2, gb, ga, ca, gc, cc, w1, rfl, hX, cK, cI, cR, cA, cB, cS, cO, o54, oA9, o115, o11A, o1211, o13, o14, hw, oS⟩ hi' hli hpre
            have hi2 : i < 16 := hi'
            have hcase : i = 0 ∨ i = 1 ∨ i = 2 ∨ i = 3 ∨ i = 4 ∨ i = 5 ∨ i = 6 ∨ i = 7 ∨ i = 8 ∨ i = 9 ∨ i = 10 ∨ i = 11 ∨ i = 12 ∨ i = 13 ∨ i = 14 ∨ i = 15 := by omega
            clear hi' hi2
            rcases hcase with rfl | rfl | rfl | rfl | rfl | rfl | rfl | rfl | rfl | rfl | rfl | rfl | rfl | rfl | rfl | rfl
            · -- 0: Op.fieldAddr 28 (Operand.tmp 4) 2
              refine wpOp_step rfl (fun K' hK => ?_)
              have nS : l 15 = false := by
                cases h : l 15
                · rfl
                · have := oS h; simp [hli] at this
              rw [nS, cond_false] at hw
              subst hw
              clear hpre
              rw [if_pos (by rfl)]
              go_simp
              exact hK _ _ ⟨v2, gb, ga, ca, gc, cc, w', by simp [upd, Act.put], hX, cK, cI, (fun e0 => (cR (by simpa [upd] using e0))), (fun e0 e1 => (cA (by simpa [upd] using e0) (by simpa [upd] using e1))), (fun e0 e1 => (cB (by simpa [upd] using e0) (by simpa [upd] using e1))), (fun e0 e1 => (cS (by simpa [upd] using e0) (by simpa [upd] using e1))), (fun e0 => (cO (by simpa [upd] using e0))), (fun e0 => (by first | (simp [upd]; done) | simpa [upd] using (o54 (by simpa [upd] using e0)))), (fun e0 => (by first | (simp [upd]; done) | simpa [upd] using (oA9 (by simpa [upd] using e0)))), (fun e0 => (by first | (simp [upd]; done) | simpa [upd] using (o115 (by simpa [upd] using e0)))), (fun e0 => (by first | (simp [upd]; done) | simpa [upd] using (o11A (by simpa [upd] using e0)))), (fun e0 => (by first | (simp [upd]; done) | simpa [upd] using (o1211 (by simpa [upd] using e0)))), (fun e0 => (by first | (simp [upd]; done) | simpa [upd] using (o13 (by simpa [upd] using e0)))), (fun e0 => (by first | (simp [upd]; done) | simpa [upd] using (o14 (by simpa [upd] using e0)))), by simp [upd, nS], (fun e => absurd e (by simp [upd, nS]))⟩
            · -- 1: Op.load 24 (Operand.tmp 64)
              have p0 : l 0 = true := hpre _ rfl ⟨0, .data⟩ (by simp) rfl
              refine wpOp_step rfl (fun K' hK => ?_)
              have nS : l 15 = false := by
                cases h : l 15
                · rfl
                · have := oS h; simp [hli] at this
              rw [nS, cond_false] at hw
              subst hw
              simp only [p0, cond_true, cond_false]
              clear hpre
              rw [if_pos (by rfl)]
              have z1 : w'.cell? ⟨N + 1, 2, none⟩ = some pv := Hdx.c2 (cK _ _ _ (by decide) HB.out.2)
              go_simp
              exact hK _ _ ⟨v2, gb, ga, ca, gc, cc, w', by simp [upd, Act.put, p0], hX, cK, cI, (fun e0 => (cR (by simpa [upd] using e0))), (fun e0 e1 => (cA (by simpa [upd] using e0) (by simpa [upd] using e1))), (fun e0 e1 => (cB (by simpa [upd] using e0) (by simpa [upd] using e1))), (fun e0 e1 => (cS (by simpa [upd] using e0) (by simpa [upd] using e1))), (fun e0 => (cO (by simpa [upd] using e0))), (fun e0 => (by first | (simp [upd]; done) | simpa [upd] using (o54 (by simpa [upd] using e0)))), (fun e0 => (by first | (simp [upd]; done) | simpa [upd] using (oA9 (by simpa [upd] using e0)))), (fun e0 => (by first | (simp [upd]; done) | simpa [upd] using (o115 (by simpa [upd] using e0)))), (fun e0 => (by first | (simp [upd]; done) | simpa [upd] using (o11A (by simpa [upd] using e0)))), (fun e0 => (by first | (simp [upd]; done) | simpa [upd] using (o1211 (by simpa [upd] using e0)))), (fun e0 => (by first | (simp [upd]; done) | simpa [upd] using (o13 (by simpa [upd] using e0)))), (fun e0 => (by first | (simp [upd]; done) | simpa [upd] using (o14 (by simpa [upd] using e0)))), by simp [upd, nS], (fun e => absurd e (by simp [upd, nS]))⟩
            · -- 2: Op.move (Operand.tmp 0)
              refine wpOp_step rfl (fun K' hK => ?_)
              have nS : l 15 = false := by
                cases h : l 15
                · rfl
                · have := oS h; simp [hli] at this
              rw [nS, cond_false] at hw
              subst hw
              clear hpre
              rw [if_pos (by rfl)]
              go_simp
              exact hK _ _ ⟨v2, gb, ga, ca, gc, cc, w', by simp [upd, Act.put], hX, cK, cI, (fun e0 => (cR (by simpa [upd] using e0))), (fun e0 e1 => (cA (by simpa [upd] using e0) (by simpa [upd] using e1))), (fun e0 e1 => (cB (by simpa [upd] using e0) (by simpa [upd] using e1))), (fun e0 e1 => (cS (by simpa [upd] using e0) (by simpa [upd] using e1))), (fun e0 => (cO (by simpa [upd] using e0))), (fun e0 => (by first | (simp [upd]; done) | simpa [upd] using (o54 (by simpa [upd] using e0)))), (fun e0 => (by first | (simp [upd]; done) | simpa [upd] using (oA9 (by simpa [upd] using e0)))), (fun e0 => (by first | (simp [upd]; done) | simpa [upd] using (o115 (by simpa [upd] using e0)))), (fun e0 => (by first | (simp [upd]; done) | simpa [upd] using (o11A (by simpa [upd] using e0)))), (fun e0 => (by first | (simp [upd]; done) | simpa [upd] using (o1211 (by simpa [upd] using e0)))), (fun e0 => (by first | (simp [upd]; done) | simpa [upd] using (o13 (by simpa [upd] using e0)))), (fun e0 => (by first | (simp [upd]; done) | simpa [upd] using (o14 (by simpa [upd] using e0)))), by simp [upd, nS], (fun e => absurd e (by simp [upd, nS]))⟩
            · -- 3: Op.move (Operand.tmp 5)
              refine wpOp_step rfl (fun K' hK => ?_)
              have nS : l 15 = false := by
                cases h : l 15
                · rfl
                · have := oS h; simp [hli] at this
              rw [nS, cond_false] at hw
              subst hw
              clear hpre
              rw [if_pos (by rfl)]
              go_simp
              exact hK _ _ ⟨v2, gb, ga, ca, gc, cc, w', by simp [upd, Act.put], hX, cK, cI, (fun e0 => (cR (by simpa [upd] using e0))), (fun e0 e1 => (cA (by simpa [upd] using e0) (by simpa [upd] using e1))), (fun e0 e1 => (cB (by simpa [upd] using e0) (by simpa [upd] using e1))), (fun e0 e1 => (cS (by simpa [upd] using e0) (by simpa [upd] using e1))), (fun e0 => (cO (by simpa [upd] using e0))), (fun e0 => (by first | (simp [upd]; done) | simpa [upd] using (o54 (by simpa [upd] using e0)))), (fun e0 => (by first | (simp [upd]; done) | simpa [upd] using (oA9 (by simpa [upd] using e0)))), (fun e0 => (by first | (simp [upd]; done) | simpa [upd] using (o115 (by simpa [upd] using e0)))), (fun e0 => (by first | (simp [upd]; done) | simpa [upd] using (o11A (by simpa [upd] using e0)))), (fun e0 => (by first | (simp [upd]; done) | simpa [upd] using (o1211 (by simpa [upd] using e0)))), (fun e0 => (by first | (simp [upd]; done) | simpa [upd] using (o13 (by simpa [upd] using e0)))), (fun e0 => (by first | (simp [upd]; done) | simpa [upd] using (o14 (by simpa [upd] using e0)))), by simp [upd, nS], (fun e => absurd e (by simp [upd, nS]))⟩
            · -- 4: Op.call { callee := Callee.value (Operand.func 52), args := 
              have p2 : l 2 = true := hpre _ rfl ⟨2, .data⟩ (by simp) rfl
              have p3 : l 3 = true := hpre _ rfl ⟨3, .data⟩ (by simp) rfl
              refine wpOp_step rfl (fun K' hK => ?_)
              have nS : l 15 = false := by
                cases h : l 15
                · rfl
                · have := oS h; simp [hli] at this
              rw [nS, cond_false] at hw
              subst hw
              have n4 : l 4 = false := hli
              have n5 : l 5 = false := by
                cases h : l 5
                · rfl
                · exact absurd (o54 h) (by rw [hli]; decide)
              simp only [p2, p3, n5, cond_true, cond_false]
              clear hpre
              rw [if_pos (by rfl)]
              go_simp
              refine (HAt.out P 8 _ (by have := HHP.out; have := HHQ.out; omega) (by omega) (by omega) hX (by have h1 := hX.size; rw [← HN.out] at h1; exact h1)).mono ?_
              rintro e w5 ⟨gx, cx, curx, rfl, _, _, hkx, hcux, hb5⟩
              exact hK _ _ ⟨v2, gb, gx, cx, gc, cc, w5, by simp [upd, Act.put, p2, p3, n5], (hX).trans (hb5.mono (by have h1 := hX.size; rw [← HN.out] at h1; exact h1)), (fun b' cs t h1 h3 => Blk.keep (cK b' cs t h1 h3) hb5), own_below (cI) hb5, (fun e0 => own_below ((cR (by simpa [upd] using e0))) hb5), (fun _ _ i' hi' => (hkx.cell i').trans (hcux i' hi')), (fun e0 e1 => (fun i' hi' => ((hb5).cell (World.block_lt_of_cell? _ _ ((cB (by simpa [upd] using e0) (by simpa [upd] using e1)) i' hi'))).trans ((cB (by simpa [upd] using e0) (by simpa [upd] using e1)) i' hi'))), (fun e0 e1 => Blk.keep ((cS (by simpa [upd] using e0) (by simpa [upd] using e1))) hb5), (fun e0 => own_below ((cO (by simpa [upd] using e0))) hb5), (fun e0 => absurd e0 (by simp [upd, n5])), (fun e0 => (by first | (simp [upd]; done) | simpa [upd] using (oA9 (by simpa [upd] using e0)))), (fun e0 => (by first | (simp [upd]; done) | simpa [upd] using (o115 (by simpa [upd] using e0)))), (fun e0 => (by first | (simp [upd]; done) | simpa [upd] using (o11A (by simpa [upd] using e0)))), (fun e0 => (by first | (simp [upd]; done) | simpa [upd] using (o1211 (by simpa [upd] using e0)))), (fun e0 => (by first | (simp [upd]; done) | simpa [upd] using (o13 (by simpa [upd] using e0)))), (fun e0 => (by first | (simp [upd]; done) | simpa [upd] using (o14 (by simpa [upd] using e0)))), by simp [upd, nS], (fun e => absurd e (by simp [upd, nS]))⟩
            · -- 5: Op.call { callee := Callee.value (Operand.func 54), args := 
              have p4 : l 4 = true := hpre _ rfl ⟨4, .data⟩ (by simp) rfl
              refine wpOp_step rfl (fun K' hK => ?_)
              have nS : l 15 = false := by
                cases h : l 15
                · rfl
                · have := oS h; simp [hli] at this
              rw [nS, cond_false] at hw
              subst hw
              have n5 : l 5 = false := hli
              have n13 : l 13 = false := by
                cases h : l 13
                · rfl
                · exact absurd (o13 h) (by rw [hli]; decide)
              simp only [p4, n13, cond_true, cond_false]
              clear hpre
              rw [if_pos (by rfl)]
              go_simp
              refine (HA.out ga ca _ (cA p4 n13)).mono ?_
              rintro e w5 ⟨rfl, hb5⟩
              exact hK _ _ ⟨v2, gb, ga, ca, gc, cc, w5, by simp [upd, Act.put, p4, n13], (hX).trans (hb5.mono (by have h1 := hX.size; rw [← HN.out] at h1; exact h1)), (fun b' cs t h1 h3 => Blk.keep (cK b' cs t h1 h3) hb5), own_below (cI) hb5, (fun e0 => own_below ((cR (by simpa [upd] using e0))) hb5), (fun e0 e1 => (fun i' hi' => ((hb5).cell (World.block_lt_of_cell? _ _ ((cA (by simpa [upd] using e0) (by simpa [upd] using e1)) i' hi'))).trans ((cA (by simpa [upd] using e0) (by simpa [upd] using e1)) i' hi'))), (fun e0 e1 => (fun i' hi' => ((hb5).cell (World.block_lt_of_cell? _ _ ((cB (by simpa [upd] using e0) (by simpa [upd] using e1)) i' hi'))).trans ((cB (by simpa [upd] using e0) (by simpa [upd] using e1)) i' hi'))), (fun e0 e1 => Blk.keep ((cS (by simpa [upd] using e0) (by simpa [upd] using e1))) hb5), (fun e0 => own_below ((cO (by simpa [upd] using e0))) hb5), (fun _ => by simp [upd, p4]), (fun e0 => (by first | (simp [upd]; done) | simpa [upd] using (oA9 (by simpa [upd] using e0)))), (fun e0 => (by first | (simp [upd]; done) | simpa [upd] using (o115 (by simpa [upd] using e0)))), (fun e0 => (by first | (simp [upd]; done) | simpa [upd] using (o11A (by simpa [upd] using e0)))), (fun e0 => (by first | (simp [upd]; done) | simpa [upd] using (o1211 (by simpa [upd] using e0)))), (fun e0 => (by first | (simp [upd]; done) | simpa [upd] using (o13 (by simpa [upd] using e0)))), (fun e0 => (by first | (simp [upd]; done) | simpa [upd] using (o14 (by simpa [upd] using e0)))), by simp [upd, nS], (fun e => absurd e (by simp [upd, nS]))⟩
            · -- 6: Op.move (Operand.tmp 0)
              refine wpOp_step rfl (fun K' hK => ?_)
              have nS : l 15 = false := by
                cases h : l 15
                · rfl
                · have := oS h; simp [hli] at this
              rw [nS, cond_false] at hw
              subst hw
              clear hpre
              rw [if_pos (by rfl)]
              go_simp
              exact hK _ _ ⟨v2, gb, ga, ca, gc, cc, w', by simp [upd, Act.put], hX, cK, cI, (fun e0 => (cR (by simpa [upd] using e0))), (fun e0 e1 => (cA (by simpa [upd] using e0) (by simpa [upd] using e1))), (fun e0 e1 => (cB (by simpa [upd] using e0) (by simpa [upd] using e1))), (fun e0 e1 => (cS (by simpa [upd] using e0) (by simpa [upd] using e1))), (fun e0 => (cO (by simpa [upd] using e0))), (fun e0 => (by first | (simp [upd]; done) | simpa [upd] using (o54 (by simpa [upd] using e0)))), (fun e0 => (by first | (simp [upd]; done) | simpa [upd] using (oA9 (by simpa [upd] using e0)))), (fun e0 => (by first | (simp [upd]; done) | simpa [upd] using (o115 (by simpa [upd] using e0)))), (fun e0 => (by first | (simp [upd]; done) | simpa [upd] using (o11A (by simpa [upd] using e0)))), (fun e0 => (by first | (simp [upd]; done) | simpa [upd] using (o1211 (by simpa [upd] using e0)))), (fun e0 => (by first | (simp [upd]; done) | simpa [upd] using (o13 (by simpa [upd] using e0)))), (fun e0 => (by first | (simp [upd]; done) | simpa [upd] using (o14 (by simpa [upd] using e0)))), by simp [upd, nS], (fun e => absurd e (by simp [upd, nS]))⟩
            · -- 7: Op.move (Operand.tmp 5)
              refine wpOp_step rfl (fun K' hK => ?_)
              have nS : l 15 = false := by
                cases h : l 15
                · rfl
                · have := oS h; simp [hli] at this
              rw [nS, cond_false] at hw
              subst hw
              clear hpre
              rw [if_pos (by rfl)]
              go_simp
              exact hK _ _ ⟨v2, gb, ga, ca, gc, cc, w', by simp [upd, Act.put], hX, cK, cI, (fun e0 => (cR (by simpa [upd] using e0))), (fun e0 e1 => (cA (by simpa [upd] using e0) (by simpa [upd] using e1))), (fun e0 e1 => (cB (by simpa [upd] using e0) (by simpa [upd] using e1))), (fun e0 e1 => (cS (by simpa [upd] using e0) (by simpa [upd] using e1))), (fun e0 => (cO (by simpa [upd] using e0))), (fun e0 => (by first | (simp [upd]; done) | simpa [upd] using (o54 (by simpa [upd] using e0)))), (fun e0 => (by first | (simp [upd]; done) | simpa [upd] using (oA9 (by simpa [upd] using e0)))), (fun e0 => (by first | (simp [upd]; done) | simpa [upd] using (o115 (by simpa [upd] using e0)))), (fun e0 => (by first | (simp [upd]; done) | simpa [upd] using (o11A (by simpa [upd] using e0)))), (fun e0 => (by first | (simp [upd]; done) | simpa [upd] using (o1211 (by simpa [upd] using e0)))), (fun e0 => (by first | (simp [upd]; done) | simpa [upd] using (o13 (by simpa [upd] using e0)))), (fun e0 => (by first | (simp [upd]; done) | simpa [upd] using (o14 (by simpa [upd] using e0)))), by simp [upd, nS], (fun e => absurd e (by simp [upd, nS]))⟩
            · -- 8: Op.binOp BinOp.add 3 (Operand.tmp 71) (Operand.const (Value.
              have p7 : l 7 = true := hpre _ rfl ⟨7, .data⟩ (by simp) rfl
              refine wpOp_step rfl (fun K' hK => ?_)
              have nS : l 15 = false := by
                cases h : l 15
                · rfl
                · have := oS h; simp [hli] at this
              rw [nS, cond_false] at hw
              subst hw
              simp only [p7, hw8, cond_true, cond_false]
              clear hpre
              rw [if_pos (by rfl)]
              go_simp
              exact hK _ _ ⟨v2, gb, ga, ca, gc, cc, w', by simp [upd, Act.put, p7, hw8], hX, cK, cI, (fun e0 => (cR (by simpa [upd] using e0))), (fun e0 e1 => (cA (by simpa [upd] using e0) (by simpa [upd] using e1))), (fun e0 e1 => (cB (by simpa [upd] using e0) (by simpa [upd] using e1))), (fun e0 e1 => (cS (by simpa [upd] using e0) (by simpa [upd] using e1))), (fun e0 => (cO (by simpa [upd] using e0))), (fun e0 => (by first | (simp [upd]; done) | simpa [upd] using (o54 (by simpa [upd] using e0)))), (fun e0 => (by first | (simp [upd]; done) | simpa [upd] using (oA9 (by simpa [upd] using e0)))), (fun e0 => (by first | (simp [upd]; done) | simpa [upd] using (o115 (by simpa [upd] using e0)))), (fun e0 => (by first | (simp [upd]; done) | simpa [upd] using (o11A (by simpa [upd] using e0)))), (fun e0 => (by first | (simp [upd]; done) | simpa [upd] using (o1211 (by simpa [upd] using e0)))), (fun e0 => (by first | (simp [upd]; done) | simpa [upd] using (o13 (by simpa [upd] using e0)))), (fun e0 => (by first | (simp [upd]; done) | simpa [upd] using (o14 (by simpa [upd] using e0)))), by simp [upd, nS], (fun e => absurd e (by simp [upd, nS]))⟩
            · -- 9: Op.call { callee := Callee.value (Operand.func 52), args := 
              have p6 : l 6 = true := hpre _ rfl ⟨6, .data⟩ (by simp) rfl
              have p8 : l 8 = true := hpre _ rfl ⟨8, .data⟩ (by simp) rfl
              have p5 : l 5 = true := hpre _ rfl ⟨5, .chain⟩ (by simp) rfl
              refine wpOp_step rfl (fun K' hK => ?_)
              have nS : l 15 = false := by
                cases h : l 15
                · rfl
                · have := oS h; simp [hli] at this
              rw [nS, cond_false] at hw
              subst hw
              have n9 : l 9 = false := hli
              have p4 : l 4 = true := o54 p5
              have n10 : l 10 = false := by
                cases h : l 10
                · rfl
                · exact absurd (oA9 h) (by rw [hli]; decide)
              simp only [p6, p8, p5, n10, p4, cond_true, cond_false]
              clear hpre
              rw [if_pos (by rfl)]
              go_simp
              refine (HAt.out P8 8 _ (by have := HHP.out; have := HHQ.out; omega) (by omega) (by omega) hX (by have h1 := hX.size; rw [← HN.out] at h1; exact h1)).mono ?_
              rintro e w5 ⟨gx, cx, curx, rfl, _, _, hkx, hcux, hb5⟩
              exact hK _ _ ⟨v2, gb, ga, ca, gx, cx, w5, by simp [upd, Act.put, p6, p8, p5, n10, p4], (hX).trans (hb5.mono (by have h1 := hX.size; rw [← HN.out] at h1; exact h1)), (fun b' cs t h1 h3 => Blk.keep (cK b' cs t h1 h3) hb5), own_below (cI) hb5, (fun e0 => own_below ((cR (by simpa [upd] using e0))) hb5), (fun e0 e1 => (fun i' hi' => ((hb5).cell (World.block_lt_of_cell? _ _ ((cA (by simpa [upd] using e0) (by simpa [upd] using e1)) i' hi'))).trans ((cA (by simpa [upd] using e0) (by simpa [upd] using e1)) i' hi'))), (fun _ _ i' hi' => (hkx.cell i').trans (hcux i' hi')), (fun e0 e1 => Blk.keep ((cS (by simpa [upd] using e0) (by simpa [upd] using e1))) hb5), (fun e0 => own_below ((cO (by simpa [upd] using e0))) hb5), (fun e0 => (by first | (simp [upd]; done) | simpa [upd] using (o54 (by simpa [upd] using e0)))), (fun e0 => absurd e0 (by simp [upd, n10])), (fun e0 => (by first | (simp [upd]; done) | simpa [upd] using (o115 (by simpa [upd] using e0)))), (fun e0 => (by first | (simp [upd]; done) | simpa [upd] using (o11A (by simpa [upd] using e0)))), (fun e0 => (by first | (simp [upd]; done) | simpa [upd] using (o1211 (by simpa [upd] using e0)))), (fun e0 => (by first | (simp [upd]; done) | simpa [upd] using (o13 (by simpa [upd] using e0)))), (fun e0 => (by first | (simp [upd]; done) | simpa [upd] using (o14 (by simpa [upd] using e0)))), by simp [upd, nS], (fun e => absurd e (by simp [upd, nS]))⟩
            · -- 10: Op.call { callee := Callee.value (Operand.func 54), args := 
              have p9 : l 9 = true := hpre _ rfl ⟨9, .data⟩ (by simp) rfl
              refine wpOp_step rfl (fun K' hK => ?_)
              have nS : l 15 = false := by
                cases h : l 15
                · rfl
                · have := oS h; simp [hli] at this
              rw [nS, cond_false] at hw
              subst hw
              have n10 : l 10 = false := hli
              have n13 : l 13 = false := by
                cases h : l 13
                · rfl
                · exact absurd (o14 h) (by rw [hli]; decide)
              simp only [p9, n13, cond_true, cond_false]
              clear hpre
              rw [if_pos (by rfl)]
              go_simp
              refine (HBb.out gc cc _ (cB p9 n13)).mono ?_
              rintro e w5 ⟨rfl, hb5⟩
              exact hK _ _ ⟨v2, gb, ga, ca, gc, cc, w5, by simp [upd, Act.put, p9, n13], (hX).trans (hb5.mono (by have h1 := hX.size; rw [← HN.out] at h1; exact h1)), (fun b' cs t h1 h3 => Blk.keep (cK b' cs t h1 h3) hb5), own_below (cI) hb5, (fun e0 => own_below ((cR (by simpa [upd] using e0))) hb5), (fun e0 e1 => (fun i' hi' => ((hb5).cell (World.block_lt_of_cell? _ _ ((cA (by simpa [upd] using e0) (by simpa [upd] using e1)) i' hi'))).trans ((cA (by simpa [upd] using e0) (by simpa [upd] using e1)) i' hi'))), (fun e0 e1 => (fun i' hi' => ((hb5).cell (World.block_lt_of_cell? _ _ ((cB (by simpa [upd] using e0) (by simpa [upd] using e1)) i' hi'))).trans ((cB (by simpa [upd] using e0) (by simpa [upd] using e1)) i' hi'))), (fun e0 e1 => Blk.keep ((cS (by simpa [upd] using e0) (by simpa [upd] using e1))) hb5), (fun e0 => own_below ((cO (by simpa [upd] using e0))) hb5), (fun e0 => (by first | (simp [upd]; done) | simpa [upd] using (o54 (by simpa [upd] using e0)))), (fun _ => by simp [upd, p9]), (fun e0 => (by first | (simp [upd]; done) | simpa [upd] using (o115 (by simpa [upd] using e0)))), (fun e0 => (by first | (simp [upd]; done) | simpa [upd] using (o11A (by simpa [upd] using e0)))), (fun e0 => (by first | (simp [upd]; done) | simpa [upd] using (o1211 (by simpa [upd] using e0)))), (fun e0 => (by first | (simp [upd]; done) | simpa [upd] using (o13 (by simpa [upd] using e0)))), (fun _ => by simp [upd]), by simp [upd, nS], (fun e => absurd e (by simp [upd, nS]))⟩
            · -- 11: Op.build 70 #[(0, Operand.tmp 69), (1, Operand.tmp 74)]
              have p5 : l 5 = true := hpre _ rfl ⟨5, .data⟩ (by simp) rfl
              have p10 : l 10 = true := hpre _ rfl ⟨10, .data⟩ (by simp) rfl
              refine wpOp_step rfl (fun K' hK => ?_)
              have nS : l 15 = false := by
                cases h : l 15
                · rfl
                · have := oS h; simp [hli] at this
              rw [nS, cond_false] at hw
              subst hw
              simp only [p5, p10, cond_true, cond_false]
              clear hpre
              rw [if_pos (by rfl)]
              refine wp_buildPnt _ _ rfl a b rfl rfl ?_
              exact hK _ _ ⟨v2, gb, ga, ca, gc, cc, w', by simp [upd, Act.put, p5, p10], hX, cK, cI, (fun e0 => (cR (by simpa [upd] using e0))), (fun e0 e1 => (cA (by simpa [upd] using e0) (by simpa [upd] using e1))), (fun e0 e1 => (cB (by simpa [upd] using e0) (by simpa [upd] using e1))), (fun e0 e1 => (cS (by simpa [upd] using e0) (by simpa [upd] using e1))), (fun e0 => (cO (by simpa [upd] using e0))), (fun e0 => (by first | (simp [upd]; done) | simpa [upd] using (o54 (by simpa [upd] using e0)))), (fun e0 => (by first | (simp [upd]; done) | simpa [upd] using (oA9 (by simpa [upd] using e0)))), (fun _ => by simp [upd, p5]), (fun _ => by simp [upd, p10]), (fun e0 => (by first | (simp [upd]; done) | simpa [upd] using (o1211 (by simpa [upd] using e0)))), (fun e0 => (by first | (simp [upd]; done) | simpa [upd] using (o13 (by simpa [upd] using e0)))), (fun e0 => (by first | (simp [upd]; done) | simpa [upd] using (o14 (by simpa [upd] using e0)))), by simp [upd, nS], (fun e => absurd e (by simp [upd, nS]))⟩
            · -- 12: Op.buildSlice 24 1 #[(0, Operand.tmp 75)]
              have p11 : l 11 = true := hpre _ rfl ⟨11, .data⟩ (by simp) rfl
              refine wpOp_step rfl (fun K' hK => ?_)
              have nS : l 15 = false := by
                cases h : l 15
                · rfl
                · have := oS h; simp [hli] at this
              rw [nS, cond_false] at hw
              subst hw
              simp only [p11, cond_true, cond_false]
              clear hpre
              rw [if_pos (by rfl)]
              refine wp_buildSliceP _ rfl rfl ?_
              exact hK _ _ ⟨v2, w'.heap.size, ga, ca, gc, cc, w'.alloc (.cells [Value.int .u64 a, Value.int .u64 b].toArray 70), by simp [upd, Act.put, p11], (hX).trans ((below_alloc _ _).mono (by have h1 := hX.size; rw [← HN.out] at h1; exact h1)), (fun b' cs t h1 h3 => Blk.keep (cK b' cs t h1 h3) (below_alloc _ _)), own_below (cI) (below_alloc _ _), (fun e0 => own_below ((cR (by simpa [upd] using e0))) (below_alloc _ _)), (fun e0 e1 => (fun i' hi' => (((below_alloc _ _)).cell (World.block_lt_of_cell? _ _ ((cA (by simpa [upd] using e0) (by simpa [upd] using e1)) i' hi'))).trans ((cA (by simpa [upd] using e0) (by simpa [upd] using e1)) i' hi'))), (fun e0 e1 => (fun i' hi' => (((below_alloc _ _)).cell (World.block_lt_of_cell? _ _ ((cB (by simpa [upd] using e0) (by simpa [upd] using e1)) i' hi'))).trans ((cB (by simpa [upd] using e0) (by simpa [upd] using e1)) i' hi'))), (fun _ _ => Blk.new w' _ 70), (fun e0 => own_below ((cO (by simpa [upd] using e0))) (below_alloc _ _)), (fun e0 => (by first | (simp [upd]; done) | simpa [upd] using (o54 (by simpa [upd] using e0)))), (fun e0 => (by first | (simp [upd]; done) | simpa [upd] using (oA9 (by simpa [upd] using e0)))), (fun e0 => (by first | (simp [upd]; done) | simpa [upd] using (o115 (by simpa [upd] using e0)))), (fun e0 => (by first | (simp [upd]; done) | simpa [upd] using (o11A (by simpa [upd] using e0)))), (fun _ => by simp [upd, p11]), (fun e0 => (by first | (simp [upd]; done) | simpa [upd] using (o13 (by simpa [upd] using e0)))), (fun e0 => (by first | (simp [upd]; done) | simpa [upd] using (o14 (by simpa [upd] using e0)))), by simp [upd, nS], (fun e => absurd e (by simp [upd, nS]))⟩
            · -- 13: Op.call { callee := Callee.builtin Builtin.append, args := #
              have p1 : l 1 = true := hpre _ rfl ⟨1, .data⟩ (by simp) rfl
              have p12 : l 12 = true := hpre _ rfl ⟨12, .data⟩ (by simp) rfl
              have p10 : l 10 = true := hpre _ rfl ⟨10, .chain⟩ (by simp) rfl
              refine wpOp_step rfl (fun K' hK => ?_)
              have nS : l 15 = false := by
                cases h : l 15
                · rfl
                · have := oS h; simp [hli] at this
              rw [nS, cond_false] at hw
              subst hw
              have n13 : l 13 = false := hli
              have p11x := o1211 p12
              have p5x := o115 p11x
              have p10x := o11A p11x
              have hBk := cS p12 n13
              have hRw := cR n13
              simp only [p1, p12, p10, cond_true, cond_false]
              clear hpre
              rw [if_pos (by rfl)]
              refine wp_append_own _ _ _ 24 rfl N 70 i0 _ 2 16 Try.underlying24 HI.out.1 HI.out.2.1 HI.out.2.2.1 HI.out.2.2.2 rfl (by omega) pv j ys rfl hRw ⟨gb, 0, none⟩ 1 1 [Value.int .u64 a, Value.int .u64 b] rfl rfl (fun j u hu => by rw [Addr.add_mid, Nat.zero_add, hBk.cell j]; simpa using hu) (by intro u hu; simp at hu; rcases hu with rfl | rfl <;> rfl) (by unfold maxLen; omega) (by omega) (by have h1 := hX.size; rw [← HN.out] at h1; exact h1) ?_
              intro v1 w6 hown6 hg6 _
              exact hK _ _ ⟨v1, gb, ga, ca, gc, cc, w6, by simp [upd, Act.put, p1, p12, p10], hX.grown hg6 (by have h1 := hX.size; rw [← HN.out] at h1; exact h1) (fun b' e => own_block hRw e.symm), (fun b' cs t h2 h3 => Blk.grown (cK b' cs t h2 h3) hg6 (Blk.apart (cK b' cs t h2 h3) hRw h2)), cI.kept hg6 (own_apart cI hRw (by decide)), (fun e0 => absurd e0 (by simp [upd])), (fun e0 e1 => absurd e1 (by simp [upd])), (fun e0 e1 => absurd e1 (by simp [upd])), (fun e0 e1 => absurd e1 (by simp [upd])), (fun _ => hown6), (fun e0 => (by first | (simp [upd]; done) | simpa [upd] using (o54 (by simpa [upd] using e0)))), (fun e0 => (by first | (simp [upd]; done) | simpa [upd] using (oA9 (by simpa [upd] using e0)))), (fun e0 => (by first | (simp [upd]; done) | simpa [upd] using (o115 (by simpa [upd] using e0)))), (fun e0 => (by first | (simp [upd]; done) | simpa [upd] using (o11A (by simpa [upd] using e0)))), (fun e0 => (by first | (simp [upd]; done) | simpa [upd] using (o1211 (by simpa [upd] using e0)))), (fun _ => by simp [upd, p5x]), (fun _ => by simp [upd, p10x]), by simp [upd, nS], (fun e => absurd e (by simp [upd, nS]))⟩
            · -- 14: Op.fieldAddr 28 (Operand.tmp 4) 2
              have p0 : l 0 = true := hpre _ rfl ⟨0, .phase⟩ (by simp) rfl
              have p1 : l 1 = true := hpre _ rfl ⟨1, .phase⟩ (by simp) rfl
              have p2 : l 2 = true := hpre _ rfl ⟨2, .phase⟩ (by simp) rfl
              have p3 : l 3 = true := hpre _ rfl ⟨3, .phase⟩ (by simp) rfl
              have p4 : l 4 = true := hpre _ rfl ⟨4, .phase⟩ (by simp) rfl
              have p5 : l 5 = true := hpre _ rfl ⟨5, .phase⟩ (by simp) rfl
              have p6 : l 6 = true := hpre _ rfl ⟨6, .phase⟩ (by simp) rfl
              have p7 : l 7 = true := hpre _ rfl ⟨7, .phase⟩ (by simp) rfl
              have p8 : l 8 = true := hpre _ rfl ⟨8, .phase⟩ (by simp) rfl
              have p9 : l 9 = true := hpre _ rfl ⟨9, .phase⟩ (by simp) rfl
              have p10 : l 10 = true := hpre _ rfl ⟨10, .phase⟩ (by simp) rfl
              have p11 : l 11 = true := hpre _ rfl ⟨11, .phase⟩ (by simp) rfl
              have p12 : l 12 = true := hpre _ rfl ⟨12, .phase⟩ (by simp) rfl
              have p13 : l 13 = true := hpre _ rfl ⟨13, .phase⟩ (by simp) rfl
              refine wpOp_step rfl (fun K' hK => ?_)
              have nS : l 15 = false := by
                cases h : l 15
                · rfl
                · have := oS h; simp [hli] at this
              rw [nS, cond_false] at hw
              subst hw
              simp only [p0, p1, p2, p3, p4, p5, p6, p7, p8, p9, p10, p11, p12, p13, cond_true, cond_false]
              clear hpre
              rw [if_pos (by rfl)]
              go_simp
              exact hK _ _ ⟨v2, gb, ga, ca, gc, cc, w', by simp [upd, Act.put, p0, p1, p2, p3, p4, p5, p6, p7, p8, p9, p10, p11, p12, p13], hX, cK, cI, (fun e0 => (cR (by simpa [upd] using e0))), (fun e0 e1 => (cA (by simpa [upd] using e0) (by simpa [upd] using e1))), (fun e0 e1 => (cB (by simpa [upd] using e0) (by simpa [upd] using e1))), (fun e0 e1 => (cS (by simpa [upd] using e0) (by simpa [upd] using e1))), (fun e0 => (cO (by simpa [upd] using e0))), (fun e0 => (by first | (simp [upd]; done) | simpa [upd] using (o54 (by simpa [upd] using e0)))), (fun e0 => (by first | (simp [upd]; done) | simpa [upd] using (oA9 (by simpa [upd] using e0)))), (fun e0 => (by first | (simp [upd]; done) | simpa [upd] using (o115 (by simpa [upd] using e0)))), (fun e0 => (by first | (simp [upd]; done) | simpa [upd] using (o11A (by simpa [upd] using e0)))), (fun e0 => (by first | (simp [upd]; done) | simpa [upd] using (o1211 (by simpa [upd] using e0)))), (fun e0 => (by first | (simp [upd]; done) | simpa [upd] using (o13 (by simpa [upd] using e0)))), (fun e0 => (by first | (simp [upd]; done) | simpa [upd] using (o14 (by simpa [upd] using e0)))), by simp [upd, nS], (fun e => absurd e (by simp [upd, nS]))⟩
            · -- 15: Op.store 24 (Operand.tmp 78) (Operand.tmp 77)
              have p14 : l 14 = true := hpre _ rfl ⟨14, .data⟩ (by simp) rfl
              have p13 : l 13 = true := hpre _ rfl ⟨13, .data⟩ (by simp) rfl
              have p0 : l 0 = true := hpre _ rfl ⟨0, .phase⟩ (by simp) rfl
              have p1 : l 1 = true := hpre _ rfl ⟨1, .phase⟩ (by simp) rfl
              have p2 : l 2 = true := hpre _ rfl ⟨2, .phase⟩ (by simp) rfl
              have p3 : l 3 = true := hpre _ rfl ⟨3, .phase⟩ (by simp) rfl
              have p4 : l 4 = true := hpre _ rfl ⟨4, .phase⟩ (by simp) rfl
              have p5 : l 5 = true := hpre _ rfl ⟨5, .phase⟩ (by simp) rfl
              have p6 : l 6 = true := hpre _ rfl ⟨6, .phase⟩ (by simp) rfl
              have p7 : l 7 = true := hpre _ rfl ⟨7, .phase⟩ (by simp) rfl
              have p8 : l 8 = true := hpre _ rfl ⟨8, .phase⟩ (by simp) rfl
              have p9 : l 9 = true := hpre _ rfl ⟨9, .phase⟩ (by simp) rfl
              have p10 : l 10 = true := hpre _ rfl ⟨10, .phase⟩ (by simp) rfl
              have p11 : l 11 = true := hpre _ rfl ⟨11, .phase⟩ (by simp) rfl
              have p12 : l 12 = true := hpre _ rfl ⟨12, .phase⟩ (by simp) rfl
              refine wpOp_step rfl (fun K' hK => ?_)
              have nS : l 15 = false := hli
              rw [nS, cond_false] at hw
              subst hw
              simp only [p14, p13, p0, p1, p2, p3, p4, p5, p6, p7, p8, p9, p10, p11, p12, cond_true, cond_false]
              clear hpre
              rw [if_pos (by rfl)]
              have hS3 := cK _ _ _ (by decide) HB.out.2
              have z1 := Hdx.c2 hS3
              have z2 := hS3.fr 2
              have c6 := cO p13
              obtain ⟨A6, d6, hv6⟩ := own_val c6
              subst hv6
              go_simp
              exact hK _ _ ⟨_, gb, ga, ca, gc, cc, w', by simp [upd, Act.put, p14, p13, p0, p1, p2, p3, p4, p5, p6, p7, p8, p9, p10, p11, p12], hX, cK, cI, (fun e0 => (cR (by simpa [upd] using e0))), (fun e0 e1 => (cA (by simpa [upd] using e0) (by simpa [upd] using e1))), (fun e0 e1 => (cB (by simpa [upd] using e0) (by simpa [upd] using e1))), (fun e0 e1 => (cS (by simpa [upd] using e0) (by simpa [upd] using e1))), (fun _ => c6), (fun e0 => (by first | (simp [upd]; done) | simpa [upd] using (o54 (by simpa [upd] using e0)))), (fun e0 => (by first | (simp [upd]; done) | simpa [upd] using (oA9 (by simpa [upd] using e0)))), (fun e0 => (by first | (simp [upd]; done) | simpa [upd] using (o115 (by simpa [upd] using e0)))), (fun e0 => (by first | (simp [upd]; done) | simpa [upd] using (o11A (by simpa [upd] using e0)))), (fun e0 => (by first | (simp [upd]; done) | simpa [upd] using (o1211 (by simpa [upd] using e0)))), (fun e0 => (by first | (simp [upd]; done) | simpa [upd] using (o13 (by simpa [upd] using e0)))), (fun e0 => (by first | (simp [upd]; done) | simpa [upd] using (o14 (by simpa [upd] using e0)))), by simp [upd], (fun _ => by simp [upd, p14, p13, p0, p1, p2, p3, p4, p5, p6, p7, p8, p9, p10, p11, p12])⟩
          · rintro l a' w9 hall ⟨v2, gb, ga, ca, gc, cc, w1, rfl, hX, cK, cI, cR, cA, cB, cS, cO, o54, oA9, o115, o11A, o1211, o13, o14, hw, oS⟩
            rw [hall 15 (by decide), cond_true] at hw
            subst hw
            clear cR
            clear cA
            clear cB
            clear cS
            replace cO := cO (hall 13 (by decide))
            replace o54 := o54 (hall 5 (by decide))
            replace oA9 := oA9 (hall 10 (by decide))
            replace o115 := o115 (hall 11 (by decide))
            replace o11A := o11A (hall 11 (by decide))
            replace o1211 := o1211 (hall 12 (by decide))
            replace o13 := o13 (hall 13 (by decide))
            replace o14 := o14 (hall 13 (by decide))
            simp only [hall 0 (by decide), hall 1 (by decide), hall 2 (by decide), hall 3 (by decide), hall 4 (by decide), hall 5 (by decide), hall 6 (by decide), hall 7 (by decide), hall 8 (by decide), hall 9 (by decide), hall 10 (by decide), hall 11 (by decide), hall 12 (by decide), hall 13 (by decide), hall 14 (by decide), cond_true]
            clear hall oS
            have hS3 := cK _ _ _ (by decide) HB.out.2
            have H9 : Hid (((w1.setCell ⟨N + 1, 2, none⟩ v2).ownsRow N 90 18 v k xs ∧ (w1.setCell ⟨N + 1, 2, none⟩ v2).ownsRow N 70 2 v2 (j + 1) (ptF (pI (pS L f (10 + 18 * k))) (j + 1))) ∧ (Below N w (w1.setCell ⟨N + 1, 2, none⟩ v2) ∧ N + 2 ≤ (w1.setCell ⟨N + 1, 2, none⟩ v2).heap.size) ∧ (Hdx (w1.setCell ⟨N + 1, 2, none⟩ v2) N (.slice none 0 0) (.slice none 0 0) 0 (0, 0) (0, 0) ∧ Hdx (w1.setCell ⟨N + 1, 2, none⟩ v2) (N + 1) v v2 (b0 : Int) (0, 0) (0, 0))) := Lib.hid ⟨⟨ownsRow_setCell_other cI (Ne.symm (Blk.apart hS3 cI (by decide))) _, by rw [HSn.out]; exact ownsRow_setCell_other cO (Ne.symm (Blk.apart hS3 cO (by decide))) _⟩, ⟨hX.setCell (p := ⟨N + 1, 2, none⟩) (by simp) _, by
              have h1 := Blk.lt hS3
              have h2 : (w1.setCell ⟨N + 1, 2, none⟩ v2).heap.size = w1.heap.size := by simp
              omega⟩, (cK _ _ _ (by decide) HB.out.1).other (by simp) _, Hdx.setPoints hS3 v2⟩
            obtain ⟨W9, hW9⟩ : ∃ W9, W9 = w1.setCell ⟨N + 1, 2, none⟩ v2 := ⟨_, rfl⟩
            rw [← hW9] at H9
            rw [← hW9]
            clear hW9 hX cO cK cI hS3 hw8
            go_wp2_with fail
            go_roundw
            case rel => exact ⟨j + 1, i - 1, P + 16, v2, Lib.hid (by have := HKJ.out; have := HHj.out; omega), Lib.hid (by rw [HP.out]; omega), by go_num, by have := HHj.out; go_num, Lib.hid H9.out.1, Lib.hid H9.out.2.1, Lib.hid H9.out.2.2⟩
            case measure => have := HHj.out; simp [intOf]; omega
        · subst h0
          obtain rfl : j = np := by omega
          have l3 : ¬ ((0 : Int) < ((0 : Nat) : Int)) := by omega
          obtain ⟨x, hx⟩ : ∃ x, x = kyF L f P := ⟨_, rfl⟩
          obtain ⟨P16, hP16⟩ : ∃ P16 : Nat, P16 = P + 16 := ⟨_, rfl⟩
          have hp16 : Hid ((P : Int) + 16 = (P16 : Int)) := Lib.hid (by omega)
          have hP162 : P16 ≤ 200000 := by omega
          obtain ⟨y, hy⟩ : ∃ y, y = kyF L f P16 := ⟨_, rfl⟩
          have HXx := Lib.hid (fun gl c w1 => HKy.out gl 0 16 c P w1 (by omega))
          have HYy := Lib.hid (fun gl c w1 => HKy.out gl 0 16 c P16 w1 (by omega))
          rw [← hx] at HXx
          rw [← hy] at HYy
          have HXe : Hid (x = kyF L f (10 + 18 * k + 16 * j)) := Lib.hid (by rw [hx, HP.out])
          have HYe : Hid (y = kyF L f (26 + 18 * k + 16 * j)) := Lib.hid (by rw [hy, hP16, HP.out]; congr 1; omega)
          clear hx hy hP16 hkj H7
          go_wp2_with fail
          refine (HAt.out P 16 wr (by omega) (by omega) (by omega) HS.out.1 (by have := HS.out.2; omega)).mono ?_
          rintro e w4 ⟨gl, cl, cur, rfl, q1, q2, hk4, hcu, hb4⟩
          have H4 : Hid (Below N w w4 ∧ N + 2 ≤ w4.heap.size ∧ Hdx w4 N (.slice none 0 0) (.slice none 0 0) 0 (0, 0) (0, 0) ∧ Hdx w4 (N + 1) v pv (b0 : Int) (0, 0) (0, 0) ∧ w4.ownsRow N 90 18 v k xs ∧ w4.ownsRow N 70 2 pv j (ptF (pI (pS L f (10 + 18 * k))) j)) := Lib.hid ⟨HS.out.1.trans (hb4.mono (by have := HS.out.2; omega)), Nat.le_trans HS.out.2 hb4.size, Blk.keep HB.out.1 hb4, Blk.keep HB.out.2 hb4, own_below HO.out.1 hb4, own_below HO.out.2 hb4⟩
          have HC4 := Lib.hid (HXx.out gl cl w4 (fun i hi => by rw [Nat.zero_add, hk4.cell]; exact hcu i hi))
          clear hk4 hcu hb4 q1 q2
          go_wp2_with fail
          refine HC4.out.mono ?_
          rintro e w5 ⟨rfl, hb5⟩
          have h5 : Hdx w5 (N + 1) v pv (b0 : Int) (0, 0) (0, 0) := Blk.keep H4.out.2.2.2.1 hb5
          have o5 := own_below H4.out.2.2.2.2.1 hb5
          have o5' := own_below H4.out.2.2.2.2.2 hb5
          obtain ⟨W6, hW6⟩ : ∃ W6, W6 = w5.setCells (N + 1) 3 (kl x.1 x.2) := ⟨_, rfl⟩
          have H6 : Hid (Below N w W6 ∧ N + 2 ≤ W6.heap.size ∧ Hdx W6 N (.slice none 0 0) (.slice none 0 0) 0 (0, 0) (0, 0) ∧ Hdx W6 (N + 1) v pv (b0 : Int) x (0, 0) ∧ W6.ownsRow N 90 18 v k xs ∧ W6.ownsRow N 70 2 pv j (ptF (pI (pS L f (10 + 18 * k))) j)) := Lib.hid (by
            rw [hW6]
            exact ⟨below_setCells _ _ _ _ (H4.out.1.trans (hb5.mono (by have := H4.out.2.1; omega))) (by omega), by rw [size_setCells]; exact Nat.le_trans H4.out.2.1 hb5.size, Blk.otherN _ _ (Blk.keep H4.out.2.2.1 hb5) (by omega), Hdx.setBox h5 _, own_setCells _ _ o5 (Blk.apart h5 o5 (by decide)), own_setCells _ _ o5' (Blk.apart h5 o5' (by decide))⟩)
          have HT5 := Lib.hid (Hdx.there_at h5 3 (by omega))
          have HW6 := Lib.hid hW6
          clear hb5 h5 o5 o5' hW6 HC4 H4
          go_wp2_with ((with_reducible show wpList _ _ _ (Oper.mk _ (Op.store 26 _ _) _ _ _ _ :: _) _ _); refine wpList_store_keya rfl _ _ rfl _ 3 _ rfl rfl HT5.out ?_; rw [← HW6.out])
          rw [hp16.out]
          refine (HAt.out P16 16 W6 (by omega) (by omega) (by omega) H6.out.1 (by have := H6.out.2.1; omega)).mono ?_
          rintro e w7 ⟨gl, cl, cur, rfl, q1, q2, hk7, hcu, hb7⟩
          have H7 : Hid (Below N w w7 ∧ N + 2 ≤ w7.heap.size ∧ Hdx w7 N (.slice none 0 0) (.slice none 0 0) 0 (0, 0) (0, 0) ∧ Hdx w7 (N + 1) v pv (b0 : Int) x (0, 0) ∧ w7.ownsRow N 90 18 v k xs ∧ w7.ownsRow N 70 2 pv j (ptF (pI (pS L f (10 + 18 * k))) j)) := Lib.hid ⟨H6.out.1.trans (hb7.mono (by have := H6.out.2.1; omega)), Nat.le_trans H6.out.2.1 hb7.size, Blk.keep H6.out.2.2.1 hb7, Blk.keep H6.out.2.2.2.1 hb7, own_below H6.out.2.2.2.2.1 hb7, own_below H6.out.2.2.2.2.2 hb7⟩
          have HC7 := Lib.hid (HYy.out gl cl w7 (fun i hi => by rw [Nat.zero_add, hk7.cell]; exact hcu i hi))
          clear hk7 hcu hb7 q1 q2
          go_wp2_with fail
          refine HC7.out.mono ?_
          rintro e w8 ⟨rfl, hb8⟩
          have h8 : Hdx w8 (N + 1) v pv (b0 : Int) x (0, 0) := Blk.keep H7.out.2.2.2.1 hb8
          have o8 := own_below H7.out.2.2.2.2.1 hb8
          have o8' := own_below H7.out.2.2.2.2.2 hb8
          obtain ⟨W9, hW9⟩ : ∃ W9, W9 = w8.setCells (N + 1) 19 (kl y.1 y.2) := ⟨_, rfl⟩
          have h9 : Hdx W9 (N + 1) v pv (b0 : Int) x y := by rw [hW9]; exact Hdx.setChk h8 _
          have h9' : Hdx W9 N (.slice none 0 0) (.slice none 0 0) 0 (0, 0) (0, 0) := by rw [hW9]; exact Blk.otherN _ _ (Blk.keep H7.out.2.2.1 hb8) (by omega)
          have o9 : W9.ownsRow N 90 18 v k xs := by rw [hW9]; exact own_setCells _ _ o8 (Blk.apart h8 o8 (by decide))
          have o9' : W9.ownsRow N 70 2 pv j (ptF (pI (pS L f (10 + 18 * k))) j) := by rw [hW9]; exact own_setCells _ _ o8' (Blk.apart h8 o8' (by decide))
          have b9 : Below N w W9 := by rw [hW9]; exact below_setCells _ _ _ _ (H7.out.1.trans (hb8.mono (by have := H7.out.2.1; omega))) (by omega)
          have s9 : N + 2 ≤ W9.heap.size := by rw [hW9, size_setCells]; exact Nat.le_trans H7.out.2.1 hb8.size
          rw [HXs.out] at o9
          obtain ⟨A1, d1, rfl, hd1, hi1⟩ := own_items o9
          obtain ⟨A2, d2, rfl, hd2, hi2⟩ := own_points o9'
          obtain ⟨g1, hg1, hr1⟩ : ∃ g1, (k = 0 ∨ A1 = some ⟨g1, 0, none⟩) ∧ ∀ i, i < k → W9.rangeAt g1 (0 + i * 18) (lbl (dF L f i).1 (dF L f i).2.1 (dF L f i).2.2) := by
            rcases hi1 with h0 | ⟨g1, h1, _, h2⟩
            · exact ⟨0, .inl h0, fun i hi => by omega⟩
            · exact ⟨g1, .inr h1, fun i hi => by rw [Nat.zero_add]; exact h2 i hi⟩
          obtain ⟨g2, hg2, hr2⟩ : ∃ g2, (j = 0 ∨ A2 = some ⟨g2, 0, none⟩) ∧ ∀ i, i < j → W9.rangeAt g2 (0 + i * 2) [.int .u64 ((pS L f (10 + 18 * k) i).1 : Int), .int .u64 ((pS L f (10 + 18 * k) i).2 : Int)] := by
            rcases hi2 with h0 | ⟨g2, h1, _, h2⟩
            · exact ⟨0, .inl h0, fun i hi => by omega⟩
            · exact ⟨g2, .inr h1, fun i hi => by rw [Nat.zero_add]; exact h2 i hi⟩
          have HEn := Lib.hid (refEncode_any b0 g1 0 k d1 g2 0 j d2 A1 A2 x y (dF L f) (pS L f (10 + 18 * k)) W9 HBM.out (by omega) (by omega) hd1 hd2 hg1 hg2 hr1 (fun i hi => ⟨hr2 i hi, HG.out i⟩))
          have H9 : Hid (Below N w W9 ∧ N + 2 ≤ W9.heap.size ∧ Hdx W9 N (.slice none 0 0) (.slice none 0 0) 0 (0, 0) (0, 0) ∧ Hdx W9 (N + 1) (.slice A1 k d1) (.slice A2 j d2) (b0 : Int) x y ∧ W9.ownsRow N 90 18 (.slice A1 k d1) k (lbF (dF L f) k) ∧ W9.ownsRow N 70 2 (.slice A2 j d2) j (ptF (pI (pS L f (10 + 18 * k))) j)) := Lib.hid ⟨b9, s9, h9', h9, o9, o9'⟩
          have HT8 := Lib.hid (Hdx.there_at h8 19 (by omega))
          have HW9 := Lib.hid hW9
          clear hb8 h8 o8 o8' hW9 h9 h9' o9 o9' b9 s9 hi1 hi2 hd1 hd2 hg1 hg2 hr1 hr2 HC7 H7 HB HO HS
          go_wp2_with (first
            | ((with_reducible show wpList _ _ _ (Oper.mk _ (Op.store 26 _ _) _ _ _ _ :: _) _ _); refine wpList_store_keya rfl _ _ rfl _ 19 _ rfl rfl HT8.out ?_; rw [← HW9.out])
            | ((with_reducible show wpList _ _ _ (Oper.mk _ (Op.load 28 _) _ _ _ _ :: _) _ _); refine wpList_load_hdi rfl _ rfl _ rfl _ _ _ _ _ H9.out.2.2.2.1 ?_))
          refine HEn.out.mono ?_
          rintro e w6 ⟨hE, hb6⟩
          have H6 : Hid (Below N w w6 ∧ Hdx w6 N (.slice none 0 0) (.slice none 0 0) 0 (0, 0) (0, 0) ∧ Hdx w6 (N + 1) (.slice A1 k d1) (.slice A2 j d2) (b0 : Int) x y ∧ w6.ownsRow N 90 18 (.slice A1 k d1) k (lbF (dF L f) k) ∧ w6.ownsRow N 70 2 (.slice A2 j d2) j (ptF (pI (pS L f (10 + 18 * k))) j)) := Lib.hid ⟨H9.out.1.trans (hb6.mono (by have := H9.out.2.1; omega)), Blk.keep H9.out.2.2.1 hb6, Blk.keep H9.out.2.2.2.1 hb6, own_below H9.out.2.2.2.2.1 hb6, own_below H9.out.2.2.2.2.2 hb6⟩
          have HZ : Hid (Hdx (w6.setCells N 0 (hdi (.slice none 0 0) (.slice none 0 0) 0 (0, 0) (0, 0))) N (.slice none 0 0) (.slice none 0 0) 0 (0, 0) (0, 0) ∧ Below N w (w6.setCells N 0 (hdi (.slice none 0 0) (.slice none 0 0) 0 (0, 0) (0, 0))) ∧ w6.there N 0 35) := Lib.hid ⟨Hdx.stored H6.out.2.1 Hdx.size _ _ _ _ _, below_setCells _ _ _ _ H6.out.1 (Nat.le_refl _), H6.out.2.1.there⟩
          rw [← HBe.out, ← HXe.out, ← HYe.out] at HDY HDN
          obtain ⟨G, hG⟩ : ∃ G, G = pS L f (10 + 18 * k) := ⟨_, rfl⟩
          obtain ⟨F, hF⟩ : ∃ F, F = dF L f := ⟨_, rfl⟩
          rw [← hG, ← hF] at HDY HDN H6
          rw [← hF, ← hG] at hE
          clear hG hF
          rcases hE with ⟨hk, rfl⟩ | ⟨hk, v7, rfl, ho7⟩
          · have hkn : (ckn k j F != 0) = true := by simp [hk]
            have hno : ¬ (L = hln k j ∧ ckn k j F = 0 ∧ hbs k b0 j F G x y = byr f L) := fun h => hk h.2.1
            have HNo := Lib.hid hno
            obtain ⟨z, hz⟩ : ∃ z, z = ckn k j F := ⟨_, rfl⟩
            rw [← hz] at hkn ⊢
            clear hb6 hk hno hz HEn
            go_wp2_with (first
              | ((with_reducible show wpList _ _ _ (Oper.mk _ (Op.build 28 _) _ _ _ _ :: _) _ _); refine wpList_buildHd0 rfl rfl ?_)
              | ((with_reducible show wpList _ _ _ (Oper.mk _ (Op.store 28 _ _) _ _ _ _ :: _) _ _); refine wpList_store_hdi rfl _ _ rfl N _ _ _ _ _ rfl rfl rfl rfl HZ.out.2.2 ?_))
            exact bodyPost_ret (results_hdi rfl _ _ N (.slice none 0 0) (.slice none 0 0) 0 (0, 0) (0, 0) _ rfl rfl HZ.out.1) rfl ⟨HDN.out _ _ HNo.out rfl, HZ.out.2.1⟩
          · obtain ⟨hn64, hnp8, hby⟩ := ckn_zero hk
            obtain ⟨f2, hf2, hfe⟩ := hbs_byr k b0 j F G x y hn64 hnp8 hby
            rw [hfe] at ho7
            obtain ⟨A7, c7, rfl, hB7⟩ := own_byt ho7 hf2
            have V1 := conv_byt hB7
            have V2 := conv_byt (HBt.out w6 H6.out.1)
            have hFf := (HBt.out w6 H6.out.1).lt
            have HKf : Hid (((bst (hln k j) f2).toList == (bst L f).toList) = false → ¬ (L = hln k j ∧ ckn k j F = 0 ∧ hbs k b0 j F G x y = byr f L)) := Lib.hid (fun h hc => by
              obtain ⟨h1, _, h3⟩ := hc
              rw [hfe, ← h1] at h3
              rw [← h1, bst_same (byr_inj h3)] at h
              cases h)
            have HKt : Hid (((bst (hln k j) f2).toList == (bst L f).toList) = true → (L = hln k j ∧ ckn k j F = 0 ∧ hbs k b0 j F G x y = byr f L)) := Lib.hid (fun h => by
              by_cases h1 : L = hln k j
              · refine ⟨h1, hk, ?_⟩
                rw [hfe, ← h1]
                apply Classical.byContradiction
                intro h3
                rw [← h1, bst_diff hf2 hFf h3] at h
                cases h
              · rw [bst_ne f2 f (fun e => h1 e.symm)] at h
                cases h)
            have HV := Lib.hid (And.intro V1 V2)
            clear hb6 hk HEn hFf hB7 hfe hf2 hby hn64 hnp8 ho7
            cases ht : ((bst (hln k j) f2).toList == (bst L f).toList) with
            | false =>
              have HNo := Lib.hid (HKf.out ht)
              have ht2 : ((bst (hln k j) f2).toList != (bst L f).toList) = true := by rw [bne, ht]; rfl
              obtain ⟨s1, hs1⟩ : ∃ s, s = bst (hln k j) f2 := ⟨_, rfl⟩
              obtain ⟨s2, hs2⟩ : ∃ s, s = bst L f := ⟨_, rfl⟩
              rw [← hs1] at V1 ht ht2
              rw [← hs2] at V2 ht ht2
              clear hs1 hs2 HKf HKt HV
              go_wp2_with (first
                | ((with_reducible show wpList _ _ _ (Oper.mk _ (Op.build 28 _) _ _ _ _ :: _) _ _); refine wpList_buildHd0 rfl rfl ?_)
                | ((with_reducible show wpList _ _ _ (Oper.mk _ (Op.store 28 _ _) _ _ _ _ :: _) _ _); refine wpList_store_hdi rfl _ _ rfl N _ _ _ _ _ rfl rfl rfl rfl HZ.out.2.2 ?_))
              exact bodyPost_ret (results_hdi rfl _ _ N (.slice none 0 0) (.slice none 0 0) 0 (0, 0) (0, 0) _ rfl rfl HZ.out.1) rfl ⟨HDN.out _ _ HNo.out rfl, HZ.out.2.1⟩
            | true =>
              have HYs := Lib.hid (HKt.out ht)
              have ht2 : ((bst (hln k j) f2).toList != (bst L f).toList) = false := by rw [bne, ht]; rfl
              obtain ⟨s1, hs1⟩ : ∃ s, s = bst (hln k j) f2 := ⟨_, rfl⟩
              obtain ⟨s2, hs2⟩ : ∃ s, s = bst L f := ⟨_, rfl⟩
              rw [← hs1] at V1 ht ht2
              rw [← hs2] at V2 ht ht2
              clear hs1 hs2 HKf HKt HV
              have HF : Hid (Hdx (w6.setCells N 0 (hdi (.slice A1 k d1) (.slice A2 j d2) (b0 : Int) x y)) N (.slice A1 k d1) (.slice A2 j d2) (b0 : Int) x y ∧ Below N w (w6.setCells N 0 (hdi (.slice A1 k d1) (.slice A2 j d2) (b0 : Int) x y)) ∧ (w6.setCells N 0 (hdi (.slice A1 k d1) (.slice A2 j d2) (b0 : Int) x y)).ownsRow N 90 18 (.slice A1 k d1) k (lbF F k) ∧ (w6.setCells N 0 (hdi (.slice A1 k d1) (.slice A2 j d2) (b0 : Int) x y)).ownsRow N 70 2 (.slice A2 j d2) j (ptF (pI G) j)) := Lib.hid ⟨Hdx.stored H6.out.2.1 Hdx.size _ _ _ _ _, below_setCells _ _ _ _ H6.out.1 (Nat.le_refl _), own_setCells _ _ H6.out.2.2.2.1 (Blk.apart H6.out.2.1 H6.out.2.2.2.1 (by decide)), own_setCells _ _ H6.out.2.2.2.2 (Blk.apart H6.out.2.1 H6.out.2.2.2.2 (by decide))⟩
              go_wp2_with (first
                | ((with_reducible show wpList _ _ _ (Oper.mk _ (Op.load 28 _) _ _ _ _ :: _) _ _); refine wpList_load_hdi rfl _ rfl _ rfl _ _ _ _ _ H6.out.2.2.1 ?_)
                | ((with_reducible show wpList _ _ _ (Oper.mk _ (Op.store 28 _ _) _ _ _ _ :: _) _ _); refine wpList_store_hdi rfl _ _ rfl N _ _ _ _ _ rfl rfl rfl rfl HZ.out.2.2 ?_))
              exact bodyPost_ret (results_hdi rfl _ _ N _ _ _ _ _ _ rfl rfl HF.out.1) rfl ⟨HDY.out _ _ _ _ HYs.out rfl HF.out.2.2.1 HF.out.2.2.2, HF.out.2.1⟩
end Go.Proofs.Ytchkgccnipejhaa
