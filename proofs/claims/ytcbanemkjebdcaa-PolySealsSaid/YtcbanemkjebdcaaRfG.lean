/-
  The specification's encryption.
-/
import Derived.Test.YtcbanemkjebdcaaRfF
namespace Go.Proofs.Ytcbanemkjebdcaa
open Go.RowKit SP
set_option linter.unusedVariables false
set_option linter.unusedSimpArgs false

theorem add_int (x y : Nat) : IntKind.u64.wrap ((x : Int) + (y : Int)) = (((x + y) % M : Nat) : Int) := by
  simp only [IntKind.wrap, IntKind.bits, IntKind.signed]; simp

set_option maxRecDepth 100000 in
set_option maxHeartbeats 2000000 in
theorem refEncrypt_any (X Y A B : Nat) (w : World) (hX : X < M) (hY : Y < M) (hA : A < M) (hB : B < M) :
    Calls Try.prog 113 #[.agg (kl X Y).toArray, .agg (kl A B).toArray] w fun e w' => e = .returned (.agg (kl (enc X Y A B).1 (enc X Y A B).2).toArray) ∧ Below w.heap.size w w' := by
  obtain ⟨N, hN⟩ : ∃ N, N = w.heap.size := ⟨_, rfl⟩
  obtain ⟨W3, hW3⟩ : ∃ W3, W3 = ((w.alloc (.cells (kl X Y).toArray 23)).alloc (.cells (kl A B).toArray 23)).alloc (.cells z16 23) := ⟨_, rfl⟩
  have HB3 : Hid (Below N w W3) := Lib.hid (by rw [hW3, hN]; exact (((Below.refl _ _).alloc (Nat.le_refl _) _).alloc (by simp) _).alloc (by simp; omega) _)
  have HS3 : Hid (W3.heap.size = N + 3) := Lib.hid (by rw [hW3, hN]; simp)
  have K0 : Hid (KeyAt W3 N X Y) := Lib.hid (by rw [hW3, hN]; exact ((KeyAt.new w X Y 23).alloc _).alloc _)
  have K1 : Hid (KeyAt W3 (N + 1) A B) := Lib.hid (by
    have h := (KeyAt.new (w.alloc (.cells (kl X Y).toArray 23)) A B 23).alloc (.cells z16 23)
    rw [World.size_alloc] at h
    rw [hW3, hN]; exact h)
  have HT : Hid (W3.there (N + 1 + 1) 0 16) := Lib.hid (by
    have h := (Row.zeros ((w.alloc (.cells (kl X Y).toArray 23)).alloc (.cells (kl A B).toArray 23)) 23).there
    rw [World.size_alloc, World.size_alloc] at h
    rw [hW3, hN]; exact h)
  have HWd := Lib.hid (fun w => words_any A B w hA hB)
  have HRk := Lib.hid (fun w => refKeys_any X Y w hX hY)
  have HO := Lib.hid (fun k hk => est_ok hX hY hA hB k hk)
  have HRl := Lib.hid (fun i hi => rk_lt hX hY i hi)
  have HW := Lib.hid hW3
  have HN := Lib.hid hN
  rw [← hN]
  clear hW3 hN hX hY hA hB
  go_enter Try.func113, Try.ntmps113
  go_wp2_with (refine wpList_load_key rfl _ rfl _ rfl A B (by rw [← HW.out, ← HN.out]; exact K1.out) ?_)
  rw [← HW.out, ← HN.out]
  refine (HWd.out W3).mono ?_
  rintro e w4 ⟨rfl, hb4⟩
  have HB4 := Lib.hid hb4
  have K0' := Lib.hid (K0.out.keep hb4)
  clear hb4
  go_wp2_with (refine wpList_load_key rfl _ rfl _ rfl X Y K0'.out ?_)
  refine (HRk.out w4).mono ?_
  rintro e w5 ⟨⟨g, c, rfl, q1, q2, q3, q4⟩, hb5⟩
  have HB5 := Lib.hid (HB4.out.trans (hb5.mono HB4.out.size))
  have HC5 := Lib.hid q4
  have hg5 : Hid (g < w5.heap.size) := Lib.hid (block_lt_of_cell (q4 0 (by omega)))
  clear HB4 hb5 q1 q3 q4 K0 K0' K1
  go_wp2_with fail
  go_loopw [5, 6, 8] (fun x y i wr => ∃ k a b : Nat, k ≤ 32 ∧ i = .int .i64 (k : Int) ∧ x = .int .u64 (a : Int) ∧ y = .int .u64 (b : Int) ∧ Hid (a = (est X Y A B k).1 ∧ b = (est X Y A B k).2) ∧ Hid (Below w5.heap.size w5 wr)) (fun _ _ i _ => 32 - (intOf i).toNat)
  case atStart => exact ⟨0, A, B, by omega, rfl, rfl, rfl, Lib.hid ⟨rfl, rfl⟩, Lib.hid (Below.refl _ _)⟩
  case round =>
    obtain ⟨k, xa, xb, hk, rfl, rfl, rfl, HI, HR⟩ := hrel
    by_cases hlt : k < 32
    · have ha : xa < M := by rw [HI.out.1]; exact (HO.out k (by omega)).1
      have hb : xb < M := by rw [HI.out.2]; exact (HO.out k (by omega)).2
      have hq := HRl.out k (by omega)
      have HC : Hid (∀ w', Below wr.heap.size wr w' → w'.cell? ⟨g, k, none⟩ = some (.int .u64 (rk X Y k : Int))) := Lib.hid (fun w' hB' => (hB'.cell (p := ⟨g, k, none⟩) (Nat.lt_of_lt_of_le hg5.out HR.out.size)).trans ((HR.out.cell (p := ⟨g, k, none⟩) hg5.out).trans (HC5.out k hlt)))
      obtain ⟨q, hqe⟩ : ∃ q, q = rk X Y k := ⟨_, rfl⟩
      rw [← hqe] at hq HC
      have hx1 := add_int (rr8 xa) xb
      have hsM : (rr8 xa + xb) % M < M := Nat.mod_lt _ (by decide)
      obtain ⟨s, hs⟩ : ∃ s, s = (rr8 xa + xb) % M := ⟨_, rfl⟩
      rw [← hs] at hx1 hsM
      have hx2 := xor_int s q hsM hq
      have hpM := xor_lt hsM hq
      obtain ⟨p, hp⟩ : ∃ p, p = s ^^^ q := ⟨_, rfl⟩
      rw [← hp] at hx2 hpM
      have hx3 := xor_int (rl3 xb) p (rl3_lt hb) hpM
      obtain ⟨z, hz⟩ : ∃ z, z = rl3 xb ^^^ p := ⟨_, rfl⟩
      rw [← hz] at hx3
      have HS : Hid (p = (est X Y A B (k + 1)).1 ∧ z = (est X Y A B (k + 1)).2) := Lib.hid (by
        have e0 : est X Y A B k = (xa, xb) := Prod.ext HI.out.1.symm HI.out.2.symm
        rw [est, e0, ← hqe]
        have e1 : p = rdX xa xb q := by rw [hp, hs]; rfl
        refine ⟨e1, ?_⟩
        rw [hz, e1]; rfl)
      have H8 := Lib.hid (fun w => rotr8_any xa w ha)
      have H3 := Lib.hid (fun w => rotl3_any xb w hb)
      obtain ⟨r, hr⟩ : ∃ r, r = rr8 xa := ⟨_, rfl⟩
      obtain ⟨t, ht⟩ : ∃ t, t = rl3 xb := ⟨_, rfl⟩
      rw [← hr] at H8 hx1
      rw [← ht] at H3 hx3
      have h1 := Lib.hid hx1
      have h2 := Lib.hid hx2
      have h3 := Lib.hid hx3
      clear ha hb hq hx1 hx2 hx3 hsM hpM hqe hs hp hz hr ht HI
      have hd : decide ((k : Int) < 32) = true := decide_eq_true (by omega)
      go_wp2_with fail
      clear hd
      refine wp_region_inv (by kernel_rfl) (by kernel_rfl) (fun l a w' => a = { tmps := #[Value.agg (kl X Y).toArray, Value.agg (kl A B).toArray, Value.pointer (some ⟨N, 0, none⟩), Value.pointer (some ⟨N + 1, 0, none⟩), Value.pointer (some ⟨N + 1 + 1, 0, none⟩), bif l 9 then Value.int .u64 (p : Int) else Value.int .u64 (xa : Int), Value.int .u64 (xb : Int), Value.slice (some ⟨g, 0, none⟩) 32 c, Value.int .i64 (k : Int), Value.tuple #[Value.int .u64 (A : Int), Value.int .u64 (B : Int)], Value.agg (kl A B).toArray, Value.tuple #[Value.int .u64 (A : Int), Value.int .u64 (B : Int)], Value.int .u64 (A : Int), Value.int .u64 (B : Int), Value.agg (kl X Y).toArray, Value.slice (some ⟨g, 0, none⟩) 32 c, Value.int .i64 (k : Int), Value.bool true, u18, u19, bif l 0 then Value.int .u64 (xa : Int) else u20, bif l 1 then Value.int .u64 (r : Int) else u21, bif l 2 then Value.int .u64 (xb : Int) else u22, bif l 3 then Value.int .u64 (s : Int) else u23, bif l 4 then Value.slice (some ⟨g, 0, none⟩) 32 c else u24, bif l 5 then Value.int .i64 (k : Int) else u25, bif l 6 then Value.pointer (some ⟨g, k, none⟩) else u26, bif l 7 then Value.int .u64 (q : Int) else u27, bif l 8 then Value.int .u64 (p : Int) else u28, u29, u30, u31, u32, undef, undef, undef], defers := [] } ∧ Below wr.heap.size wr w' ∧ (l 9 = true → l 0 = true)) ⟨rfl, (Below.refl _ _).drew, (fun h => by cases h)⟩ ?_ ?_
      · rintro l a w' i ⟨rfl, hB, ho0⟩ hi hli hpre
        have hi2 : i < 10 := hi
        have hcase : i = 0 ∨ i = 1 ∨ i = 2 ∨ i = 3 ∨ i = 4 ∨ i = 5 ∨ i = 6 ∨ i = 7 ∨ i = 8 ∨ i = 9 := by omega
        clear hi hi2
        rcases hcase with rfl | rfl | rfl | rfl | rfl | rfl | rfl | rfl | rfl | rfl
        · -- 0: Op.move (Operand.tmp 5)
          refine wpOp_step rfl (fun K hK => ?_)
          clear hpre
          have n9 : l 9 = false := by cases h : l 9; rfl; exact absurd (ho0 h) (by rw [hli]; decide)
          simp only [n9, cond_false]
          rw [if_pos (by rfl)]
          go_simp
          exact hK _ _ ⟨by simp [upd, Act.put, n9], hB, (by first | (simp [upd]; done) | simpa [upd] using ho0)⟩
        · -- 1: Op.call { callee := Callee.value (Operand.func 56), args := 
          have p0 : l 0 = true := hpre _ rfl ⟨0, .data⟩ (by simp) rfl
          refine wpOp_step rfl (fun K hK => ?_)
          simp only [p0, cond_true]
          clear hpre
          rw [if_pos (by rfl)]
          go_simp
          refine (H8.out _).mono ?_
          rintro e w5 ⟨rfl, hb5⟩
          exact hK _ _ ⟨by simp [upd, Act.put, p0], hB.trans (hb5.mono hB.size), (by first | (simp [upd, p0]; done) | simpa [upd, p0] using ho0)⟩
        · -- 2: Op.move (Operand.tmp 6)
          refine wpOp_step rfl (fun K hK => ?_)
          clear hpre
          rw [if_pos (by rfl)]
          go_simp
          exact hK _ _ ⟨by simp [upd, Act.put], hB, (by first | (simp [upd]; done) | simpa [upd] using ho0)⟩
        · -- 3: Op.binOp BinOp.add 24 (Operand.tmp 21) (Operand.tmp 22) 24
          have p1 : l 1 = true := hpre _ rfl ⟨1, .data⟩ (by simp) rfl
          have p2 : l 2 = true := hpre _ rfl ⟨2, .data⟩ (by simp) rfl
          refine wpOp_step rfl (fun K hK => ?_)
          simp only [p1, p2, cond_true]
          clear hpre
          rw [if_pos (by rfl)]
          have c3 := h1.out
          go_simp
          exact hK _ _ ⟨by simp [upd, Act.put, p1, p2], hB, (by first | (simp [upd, p1, p2]; done) | simpa [upd, p1, p2] using ho0)⟩
        · -- 4: Op.move (Operand.tmp 7)
          refine wpOp_step rfl (fun K hK => ?_)
          clear hpre
          rw [if_pos (by rfl)]
          go_simp
          exact hK _ _ ⟨by simp [upd, Act.put], hB, (by first | (simp [upd]; done) | simpa [upd] using ho0)⟩
        · -- 5: Op.move (Operand.tmp 8)
          refine wpOp_step rfl (fun K hK => ?_)
          clear hpre
          rw [if_pos (by rfl)]
          go_simp
          exact hK _ _ ⟨by simp [upd, Act.put], hB, (by first | (simp [upd]; done) | simpa [upd] using ho0)⟩
        · -- 6: Op.indexAddr 29 (Operand.tmp 24) (Operand.tmp 25)
          have p4 : l 4 = true := hpre _ rfl ⟨4, .data⟩ (by simp) rfl
          have p5 : l 5 = true := hpre _ rfl ⟨5, .data⟩ (by simp) rfl
          refine wpOp_step rfl (fun K hK => ?_)
          simp only [p4, p5, cond_true]
          clear hpre
          rw [if_pos (by rfl)]
          have l1 : (0 : Int) ≤ (k : Int) := by omega
          have l2 : (k : Int) < 32 := by omega
          go_simp
          exact hK _ _ ⟨by simp [upd, Act.put, p4, p5], hB, (by first | (simp [upd, p4, p5]; done) | simpa [upd, p4, p5] using ho0)⟩
        · -- 7: Op.load 24 (Operand.tmp 189)
          have p6 : l 6 = true := hpre _ rfl ⟨6, .data⟩ (by simp) rfl
          refine wpOp_step rfl (fun K hK => ?_)
          simp only [p6, cond_true]
          clear hpre
          rw [if_pos (by rfl)]
          have c7 := HC.out _ hB
          go_simp
          exact hK _ _ ⟨by simp [upd, Act.put, p6], hB, (by first | (simp [upd, p6]; done) | simpa [upd, p6] using ho0)⟩
        · -- 8: Op.binOp BinOp.xor 24 (Operand.tmp 23) (Operand.tmp 27) 24
          have p3 : l 3 = true := hpre _ rfl ⟨3, .data⟩ (by simp) rfl
          have p7 : l 7 = true := hpre _ rfl ⟨7, .data⟩ (by simp) rfl
          refine wpOp_step rfl (fun K hK => ?_)
          simp only [p3, p7, cond_true]
          clear hpre
          rw [if_pos (by rfl)]
          have c8 := h2.out
          go_simp
          exact hK _ _ ⟨by simp [upd, Act.put, p3, p7], hB, (by first | (simp [upd, p3, p7]; done) | simpa [upd, p3, p7] using ho0)⟩
        · -- 9: Op.assign (Operand.tmp 28)
          have p8 : l 8 = true := hpre _ rfl ⟨8, .data⟩ (by simp) rfl
          have p1 : l 1 = true := hpre _ rfl ⟨1, .chain⟩ (by simp) rfl
          have p0 : l 0 = true := hpre _ rfl ⟨0, .phase⟩ (by simp) rfl
          have p2 : l 2 = true := hpre _ rfl ⟨2, .phase⟩ (by simp) rfl
          have p3 : l 3 = true := hpre _ rfl ⟨3, .phase⟩ (by simp) rfl
          have p4 : l 4 = true := hpre _ rfl ⟨4, .phase⟩ (by simp) rfl
          have p5 : l 5 = true := hpre _ rfl ⟨5, .phase⟩ (by simp) rfl
          have p6 : l 6 = true := hpre _ rfl ⟨6, .phase⟩ (by simp) rfl
          have p7 : l 7 = true := hpre _ rfl ⟨7, .phase⟩ (by simp) rfl
          refine wpOp_step rfl (fun K hK => ?_)
          simp only [p8, p1, p0, p2, p3, p4, p5, p6, p7, cond_true]
          clear hpre
          rw [if_pos (by rfl)]
          go_simp
          exact hK _ _ ⟨by simp [upd, Act.put, p8, p1, p0, p2, p3, p4, p5, p6, p7], hB, (by first | (simp [upd, p8, p1, p0, p2, p3, p4, p5, p6, p7]; done) | simpa [upd, p8, p1, p0, p2, p3, p4, p5, p6, p7] using ho0)⟩
      · rintro l a wr' hall ⟨rfl, hBz, _⟩
        simp only [hall 0 (by decide), hall 1 (by decide), hall 2 (by decide), hall 3 (by decide), hall 4 (by decide), hall 5 (by decide), hall 6 (by decide), hall 7 (by decide), hall 8 (by decide), hall 9 (by decide), cond_true]
        clear hall
        go_wp2_with fail
        refine (H3.out _).mono ?_
        rintro e w8 ⟨rfl, hb8⟩
        have HR8 : Hid (Below w5.heap.size w5 w8) := Lib.hid ((HR.out.trans (hBz.mono HR.out.size)).trans (hb8.mono (Nat.le_trans HR.out.size hBz.size)))
        have c9 := h3.out
        clear hBz hb8
        go_wp2
        go_roundw
        case rel => exact ⟨k + 1, p, z, by omega, by go_num, rfl, rfl, HS, HR8⟩
        case measure => simp [intOf]; omega
    · obtain rfl : k = 32 := by omega
      have ha : xa < M := by rw [HI.out.1]; exact (HO.out 32 (by omega)).1
      have hb : xb < M := by rw [HI.out.2]; exact (HO.out 32 (by omega)).2
      have HBk := Lib.hid (fun w => refBlock_any xa xb w ha hb)
      clear ha hb
      go_wp2_with fail
      refine (HBk.out _).mono ?_
      rintro e w8 ⟨rfl, hb8⟩
      have HB8 : Hid (Below W3.heap.size W3 w8) := Lib.hid ((HB5.out.trans (HR.out.mono HB5.out.size)).trans (hb8.mono (Nat.le_trans HB5.out.size HR.out.size)))
      have HT8 : Hid (w8.there (N + 1 + 1) 0 16) := Lib.hid (there_below HT.out HB8.out (by rw [HS3.out]; omega))
      clear hb8
      go_wp2_with (refine wpList_store_key rfl _ _ rfl (N + 1 + 1) _ _ rfl rfl HT8.out ?_)
      exact ends_key rfl (N + 1 + 1) _ _ HT8.out rfl rfl ⟨by rw [HI.out.1, HI.out.2]; rfl, below_setCells _ _ _ _ (HB3.out.trans (HB8.out.mono (by rw [HS3.out]; omega))) (by omega)⟩
end Go.Proofs.Ytcbanemkjebdcaa
