/-
  The places of a receiver's labels, the program's: the subtree scheme.
-/
import Derived.Test.YtnbkoffhplknbaaPlcA
import Derived.Test.YtnbkoffhplknbaaBlk
namespace Go.Proofs.Ytnbkoffhplknbaa
open Go.RowKit Go.Shelf TR
set_option linter.unusedVariables false
set_option linter.unusedSimpArgs false
attribute [local go_sem] Oper.semAt_some

theorem infoSub : (Try.prog.info? 35).map (fun i => (i.zero, i.size, i.bytes)) = some (some (.agg #[.int .i64 0, .int .i64 0]), 2, 16) := by kernel_rfl
theorem chk_leaf : ((List.range 7).all fun d => (List.range (2 ^ d)).all fun r => decide (lv (2 ^ d + r) = d) && decide (nat_ (2 ^ d + r) d = 2 ^ d + r)) = true := by decide +kernel
theorem leaf_lv {d r : Nat} (hd : d < 7) (hr : r < 2 ^ d) : lv (2 ^ d + r) = d := by
  have h := chk_leaf
  simp only [List.all_eq_true, List.mem_range, Bool.and_eq_true, decide_eq_true_eq] at h
  exact (h d hd r hr).1

set_option maxRecDepth 100000 in
set_option maxHeartbeats 4000000 in
theorem places_one (E : Int) (d r P Q G : Nat) (w : World) (hd : d < 7) (hr : r < 2 ^ d) :
    Calls Try.prog 69 #[.agg #[.int .u8 1, .int .i64 (d : Int), .int .i64 E, .int .u64 (P : Int), .int .u64 (Q : Int), .int .u64 (G : Int)], .int .i64 (r : Int)] w fun e w' => (∃ u, e = .returned u ∧ w'.ownsRow w.heap.size 35 2 u (plc 1 d (2 ^ d + r)).length (prs (plc 1 d (2 ^ d + r)))) ∧ Below w.heap.size w w' := by
  obtain ⟨i0, hi, hz0, hz1, hz2⟩ := info_parts infoSub
  have HI := Lib.hid (And.intro hi (And.intro hz0 (And.intro hz1 hz2)))
  have h64 := p64 hd
  have hly := leaf_lv hd hr
  obtain ⟨y, hy⟩ : ∃ y, y = 2 ^ d + r := ⟨_, rfl⟩
  have HLf : Hid (∀ w, Calls Try.prog 68 #[.agg #[.int .u8 1, .int .i64 (d : Int), .int .i64 E, .int .u64 (P : Int), .int .u64 (Q : Int), .int .u64 (G : Int)], .int .i64 (r : Int)] w fun e w' => e = .returned (.int .i64 (y : Int)) ∧ Below w.heap.size w w') := Lib.hid (fun w => by
    have h := leaf_any 1 E d r P Q G w hd (by omega)
    rw [← hy] at h; exact h)
  rw [← hy] at hly ⊢
  have hy1 : 1 ≤ y := by omega
  have hy2 : y < 128 := by omega
  have HY := Lib.hid (And.intro hy1 (And.intro hy2 hly))
  have HSub := Lib.hid (fun a b w => subset_any a b w)
  obtain ⟨N, hN⟩ : ∃ N, N = w.heap.size := ⟨_, rfl⟩
  obtain ⟨W3, hW3⟩ : ∃ W3, W3 = ((w.alloc (.cells #[.int .u8 1, .int .i64 (d : Int), .int .i64 E, .int .u64 (P : Int), .int .u64 (Q : Int), .int .u64 (G : Int)] 28)).alloc (.cells #[.int .i64 (r : Int)] 3)).alloc (.cells #[.slice none 0 0] 39) := ⟨_, rfl⟩
  have s3 : W3.heap.size = N + 3 := by rw [hW3, hN]; simp
  have b3 : Below N w W3 := by rw [hW3, hN]; exact (((Below.refl _ _).alloc (Nat.le_refl _) _).alloc (by simp) _).alloc (by simp; omega) _
  have eS : Blk W3 N #[.int .u8 1, .int .i64 (d : Int), .int .i64 E, .int .u64 (P : Int), .int .u64 (Q : Int), .int .u64 (G : Int)] 28 := by
    rw [hW3, hN]; exact ((Blk.new w _ _).keep (below_alloc _ _)).keep (below_alloc _ _)
  have eR : Box W3 (N + 1) (.int .i64 (r : Int)) 3 := by
    have h := (Box.new (w.alloc (.cells #[.int .u8 1, .int .i64 (d : Int), .int .i64 E, .int .u64 (P : Int), .int .u64 (Q : Int), .int .u64 (G : Int)] 28)) (.int .i64 (r : Int)) 3).keep (below_alloc _ (.cells #[.slice none 0 0] 39))
    rw [World.size_alloc, ← hN] at h; rw [hW3]; exact h
  have eL : Box W3 (N + 2) (.slice none 0 0) 39 := by
    have h := Box.new ((w.alloc (.cells #[.int .u8 1, .int .i64 (d : Int), .int .i64 E, .int .u64 (P : Int), .int .u64 (Q : Int), .int .u64 (G : Int)] 28)).alloc (.cells #[.int .i64 (r : Int)] 3)) (.slice none 0 0) 39
    rw [World.size_alloc, World.size_alloc, ← hN] at h; rw [hW3]; exact h
  have HE3 := Lib.hid (And.intro s3 (And.intro b3 (And.intro eS (And.intro eR eL))))
  have HN := Lib.hid hN
  have HW3 := Lib.hid hW3
  have HD := Lib.hid (And.intro hd hr)
  rw [← hN]
  have c0 : W3.cell? ⟨N, 0, none⟩ = some (.int .u8 1) := eS.cell 0
  have c1 : W3.cell? ⟨N, 1, none⟩ = some (.int .i64 (d : Int)) := eS.cell 1
  have c2 : W3.cell? ⟨N, 2, none⟩ = some (.int .i64 E) := eS.cell 2
  have c3 : W3.cell? ⟨N, 3, none⟩ = some (.int .u64 (P : Int)) := eS.cell 3
  have c4 : W3.cell? ⟨N, 4, none⟩ = some (.int .u64 (Q : Int)) := eS.cell 4
  have c5 : W3.cell? ⟨N, 5, none⟩ = some (.int .u64 (G : Int)) := eS.cell 5
  have c6 : W3.cell? ⟨N + 1, 0, none⟩ = some (.int .i64 (r : Int)) := eR.cell
  have c7 : W3.cell? ⟨N + 2, 0, none⟩ = some (.slice none 0 0) := eL.cell
  have c8 : W3.frozen? ⟨N + 2, 0, none⟩ = false := eL.fr
  rw [hW3, hN] at c0 c1 c2 c3 c4 c5 c6 c7 c8
  clear hN hW3 s3 b3 eS eR eL hi hz0 hz1 hz2 h64 hly hy hd hr
  refine (callsIn_wide (n := 8)).1 (callsIn_of_wp_marks Try.func69 rfl trivial ?_ rfl)
  simp only [Try.ntmps69, List.size_toArray, List.length_cons, List.length_nil, Nat.reduceAdd, Nat.reduceSub, Array.replicate_succ, Array.replicate_zero, List.push_toArray, List.append_toArray, List.nil_append, List.cons_append]
  refine wpIn_wide.2 ?_
  go_wp2_with fail
  rw [← HW3.out, ← HN.out]
  refine (HLf.out _).mono ?_
  rintro e w4 ⟨rfl, hb4⟩
  have HB4 := Lib.hid hb4
  clear hb4 c0 c1 c2 c3 c4 c5 c6 c7 c8
  go_wp2_with fail
  refine (path_any _ _ _).mono ?_
  rintro e w5 ⟨rfl, rfl⟩
  obtain ⟨C, hC⟩ : ∃ C, C = w4.heap.size := ⟨_, rfl⟩
  rw [← hC]
  obtain ⟨W5, hW5⟩ : ∃ W5, W5 = (w4.alloc (.cells #[.int .i64 (y : Int)] 123)).alloc (.cells #[.int .i64 0] 3) := ⟨_, rfl⟩
  rw [← hW5]
  have hCN : N + 3 ≤ C := by rw [hC, ← HE3.out.1]; exact HB4.out.size
  have s5 : W5.heap.size = C + 2 := by rw [hW5, hC]; simp
  have b35 : Below (N + 3) W3 W5 := (HB4.out.mono (by rw [HE3.out.1]; exact Nat.le_refl _)).trans (by rw [hW5]; exact ((Below.refl _ _).alloc (by omega) _).alloc (by simp; omega) _)
  have b05 : Below N w W5 := HE3.out.2.1.trans (b35.mono (by omega))
  have fS := HE3.out.2.2.1.below b35 (by omega)
  have fR := HE3.out.2.2.2.1.below b35 (by omega)
  have fL := HE3.out.2.2.2.2.below b35 (by omega)
  have fC : Box W5 C (.int .i64 (y : Int)) 123 := by rw [hW5, hC]; exact (Box.new w4 (.int .i64 (y : Int)) 123).keep (below_alloc _ _)
  have fC1 : Box W5 (C + 1) (.int .i64 0) 3 := by
    have h := Box.new (w4.alloc (.cells #[.int .i64 (y : Int)] 123)) (.int .i64 0) 3
    rw [World.size_alloc, ← hC] at h; rw [hW5]; exact h
  have HBS := Lib.hid (path_lev 7 (by omega) (C + 1) C y d 0 W5 HY.out.1 (by have := HY.out.2.1; omega) HY.out.2.2.symm (by omega) fC.cell fC1.cell)
  have HE5 := Lib.hid (And.intro s5 (And.intro b05 hCN))
  have F5 := Lib.hid (And.intro fS (And.intro fR (And.intro fL (And.intro fC fC1))))
  clear hW5 hC s5 b35 b05 fS fR fL fC fC1 hCN
  go_wp2_with fail
  simp only [Nat.add_assoc, Nat.reduceAdd]
  refine (wpIn_wide (n := 8)).1 ?_
  have hI0 : (∃ v, W5.ownsRow N 35 2 v (plf 1 d y (([] : List (Lev d)).map (·.1))).length (prs (plf 1 d y (([] : List (Lev d)).map (·.1)))) ∧ Box W5 (N + 2) v 39 ∧ Blk W5 N #[.int .u8 1, .int .i64 (d : Int), .int .i64 E, .int .u64 (P : Int), .int .u64 (Q : Int), .int .u64 (G : Int)] 28 ∧ Box W5 (N + 1) (.int .i64 (r : Int)) 3 ∧ Box W5 C (.int .i64 (y : Int)) 123 ∧ Box W5 (C + 1) (.int .i64 0) 3) ∧ Below N W5 W5 :=
    ⟨⟨.slice none 0 0, World.ownsRow_nil _ _ _ _, F5.out.2.2.1, F5.out.1, F5.out.2.1, F5.out.2.2.2.1, F5.out.2.2.2.2⟩, Below.refl _ _⟩
  refine wpIn_rangeFunc_ownH rfl (n := 8) (by omega) (gf := 164) (lb := #[.pointer (some ⟨C + 1, 0, none⟩), .pointer (some ⟨C, 0, none⟩)]) rfl trivial (enters_of Try.func164 (by kernel_rfl) rfl)
    HBS.out (fun h k => ⟨k.1.trans h.1, k.2.trans h.2⟩) (fun W l o o' hl _ _ _ => ⟨World.putObj_heap_other (by rw [HE5.out.1] at hl; omega), World.putObj_heap_other (by rw [HE5.out.1] at hl; omega)⟩) (Below.refl _ _) (fun _ => rfl)
    (fun pre W => (∃ v, W.ownsRow N 35 2 v (plf 1 d y (pre.map (·.1))).length (prs (plf 1 d y (pre.map (·.1)))) ∧ Box W (N + 2) v 39 ∧ Blk W N #[.int .u8 1, .int .i64 (d : Int), .int .i64 E, .int .u64 (P : Int), .int .u64 (Q : Int), .int .u64 (G : Int)] 28 ∧ Box W (N + 1) (.int .i64 (r : Int)) 3 ∧ Box W C (.int .i64 (y : Int)) 123 ∧ Box W (C + 1) (.int .i64 0) 3) ∧ Below N W5 W)
    (fun _ _ _ => False)
    (OwnFrom.and (Own.from (fun s A B' row hs hg hr => by
      obtain ⟨v, h1, h2, h3, h4, h5, h6⟩ := hs
      exact ⟨v, h1.kept hg (own_notrow h1 hr), h2.kept hg hr, h3.kept hg hr, h4.kept hg hr, h5.kept hg hr, h6.kept hg hr⟩) _) (ownFrom_below (by rw [HE5.out.1]; have := HE5.out.2.2; omega) (by rw [HE5.out.1]; have := HE5.out.2.2; omega)))
    (fun _ _ _ _ _ hs _ _ => hs)
    hI0
    (fun x a' W => ∃ Bx, C + 1 < Bx ∧ Box W Bx (.int .i64 (nat_ y x.1 : Int)) 123 ∧ a' = { tmps := #[Value.agg #[.int .u8 1, .int .i64 (d : Int), .int .i64 E, .int .u64 (P : Int), .int .u64 (Q : Int), .int .u64 (G : Int)], Value.int .i64 (r : Int), Value.pointer (some ⟨N, 0, none⟩), Value.pointer (some ⟨N + 1, 0, none⟩), Value.slice none 0 0, Value.pointer (some ⟨N + 2, 0, none⟩), Value.pointer (some ⟨Bx, 0, none⟩), undef, undef, Value.pointer (some ⟨N, 0, none⟩), Value.int .u8 1, Value.bool false, undef, undef, undef, undef, Value.agg #[.int .u8 1, .int .i64 (d : Int), .int .i64 E, .int .u64 (P : Int), .int .u64 (Q : Int), .int .u64 (G : Int)], Value.int .i64 (r : Int), Value.int .i64 (y : Int), Value.func (.func 164) #[] #[.pointer (some ⟨C + 1, 0, none⟩), .pointer (some ⟨C, 0, none⟩)], Value.int .i64 (nat_ y x.1 : Int), undef, undef, undef, undef, undef, undef, undef, undef, undef, undef, undef, undef, undef, undef, undef, undef, undef, undef, undef, undef, undef, undef, undef, undef, undef, undef, undef, undef], defers := [] })
    (fun x a' _ X Y row hs hg hr => by obtain ⟨Bx, h1, h2, h3⟩ := hs; exact ⟨Bx, h1, h2.kept hg (fun r e => (hr r e).2), h3⟩)
    ?assign ?body ?done ?stop
  case assign =>
    rintro l pre x W K ⟨⟨v, h1, h2, h3, h4, h5, h6⟩, hB⟩ hK
    unfold lenc
    gi_wp2
    have hA := below_alloc W (.cells #[.int .i64 (nat_ y x.1 : Int)] 123)
    exact hK _ _ ((KeepsOthers.alloc _ _).from _) ⟨(h6.keep hA).trans h6.symm, (h5.keep hA).trans h5.symm⟩ ⟨⟨v, own_below h1 hA, h2.keep hA, h3.keep hA, h4.keep hA, h5.keep hA, h6.keep hA⟩, hB.trans (hA.mono (by have := hB.size; rw [HE5.out.1] at this; have := HE5.out.2.2; omega))⟩ ⟨W.heap.size, h6.lt, Box.new W _ _, rfl⟩
  case body =>
    rintro l pre x a' W hl _ ⟨⟨v, h1, h2, h3, h4, h5, h6⟩, hB⟩ ⟨Bx, hBx, bX, rfl⟩ hlt
    have hsn := plf_snoc 1 d y (pre.map (·.1)) x.1
    have hln := plf_len 1 d y (by rw [HY.out.2.2]; have := HD.out.1; omega) (pre.map (·.1))
    have hrw : rowl 1 d y x.1 = [(nat_ y x.1, 0)] := by unfold rowl; rw [if_pos rfl]
    rw [hrw] at hsn
    have HSn : Hid (plf 1 d y ((pre ++ [x]).map (·.1)) = plf 1 d y (pre.map (·.1)) ++ [(nat_ y x.1, 0)]) := Lib.hid (by rw [List.map_append]; exact hsn)
    obtain ⟨ps, hps⟩ : ∃ ps, ps = plf 1 d y (pre.map (·.1)) := ⟨_, rfl⟩
    rw [← hps] at HSn h1 hln
    obtain ⟨L, hL⟩ : ∃ L, L = ps.length := ⟨_, rfl⟩
    obtain ⟨xs, hxs⟩ : ∃ xs, xs = prs ps := ⟨_, rfl⟩
    rw [← hL, ← hxs] at h1
    have hL80 : L ≤ 80 := by rw [List.length_map] at hln; omega
    obtain ⟨z, hz⟩ : ∃ z, z = nat_ y x.1 := ⟨_, rfl⟩
    rw [← hz] at HSn bX ⊢
    have HFin : Hid (plf 1 d y ((pre ++ [x]).map (·.1)) = ps ++ [(z, 0)] ∧ L = ps.length ∧ xs = prs ps) := Lib.hid ⟨HSn.out, hL, hxs⟩
    have HO := Lib.hid h1
    have HBL := Lib.hid h2
    have HFS := Lib.hid h3
    have HFR := Lib.hid h4
    have HFC := Lib.hid (And.intro h5 h6)
    have HBW := Lib.hid hB
    have HBX := Lib.hid bX
    have HNW : Hid (N ≤ W.heap.size) := Lib.hid (by have := hB.size; rw [HE5.out.1] at this; have := HE5.out.2.2; omega)
    have c0 : W.cell? ⟨N, 0, none⟩ = some (.int .u8 1) := h3.cell 0
    have HBxC := Lib.hid hBx
    clear h1 h2 h3 h4 h5 h6 hB bX hsn hln hrw hps hL hxs hz HSn hlt hBx
    gi_wp2_with fail
    clear c0
    refine wpIn_round_inv _ _ (by kernel_rfl) (by rintro ⟨_, _, h⟩; exact h) (by kernel_rfl) (by kernel_rfl) (fun l a w' => ∃ (v2 : Value) (gb : Nat) (w1 : World), a = { tmps := #[Value.agg #[.int .u8 1, .int .i64 (d : Int), .int .i64 E, .int .u64 (P : Int), .int .u64 (Q : Int), .int .u64 (G : Int)], Value.int .i64 (r : Int), Value.pointer (some ⟨N, 0, none⟩), Value.pointer (some ⟨N + 1, 0, none⟩), Value.slice none 0 0, Value.pointer (some ⟨N + 2, 0, none⟩), Value.pointer (some ⟨Bx, 0, none⟩), undef, undef, Value.pointer (some ⟨N, 0, none⟩), Value.int .u8 1, Value.bool false, undef, undef, undef, undef, Value.agg #[.int .u8 1, .int .i64 (d : Int), .int .i64 E, .int .u64 (P : Int), .int .u64 (Q : Int), .int .u64 (G : Int)], Value.int .i64 (r : Int), Value.int .i64 (y : Int), Value.func (.func 164) #[] #[.pointer (some ⟨C + 1, 0, none⟩), .pointer (some ⟨C, 0, none⟩)], Value.int .i64 (z : Int), Value.pointer (some ⟨N, 0, none⟩), Value.int .u8 1, Value.bool true, bif l 0 then v else undef, bif l 1 then Value.int .i64 (z : Int) else undef, bif l 2 then Value.agg #[.int .i64 (z : Int), .int .i64 0] else undef, bif l 3 then Value.slice (some ⟨gb, 0, none⟩) 1 1 else undef, bif l 4 then v2 else undef, undef, undef, undef, undef, undef, undef, undef, undef, undef, undef, undef, undef, undef, undef, undef, undef, undef, undef, undef, undef], defers := [] } ∧ World.grownBy W w1 (Value.ownBlock v) ∧ (l 4 = false → w1.ownsRow N 35 2 v L xs) ∧ (l 4 = true → w1.ownsRow N 35 2 v2 (L + 1) (xs ++ [Value.int .i64 (z : Int), Value.int .i64 0])) ∧ (l 3 = true → l 4 = false → Blk w1 gb #[.int .i64 (z : Int), .int .i64 0] 35) ∧ w' = (bif l 5 then w1.setCell ⟨N + 2, 0, none⟩ v2 else w1) ∧ (l 5 = true → l 4 = true) ∧ (l 4 = true → (l 0 && l 3) = true) ∧ (l 3 = true → l 2 = true) ∧ (l 2 = true → l 1 = true)) ⟨v, 0, World.drew _, rfl, ⟨rfl, rfl, rfl, Nat.le_refl _, fun _ _ _ => rfl⟩, (fun _ => HO.out), (fun h => by cases h), (fun h => by cases h), rfl, (fun h => by cases h), (fun h => by cases h), (fun h => by cases h), (fun h => by cases h)⟩ ?_ ?_
    · rintro l a w' i ⟨v2, gb, w1, rfl, hg, c1, c2, cb, hw, o5, o4, o3, o2⟩ hi hli hpre
      have hi2 : i < 6 := hi
      have hcase : i = 0 ∨ i = 1 ∨ i = 2 ∨ i = 3 ∨ i = 4 ∨ i = 5 := by omega
      clear hi hi2
      rcases hcase with rfl | rfl | rfl | rfl | rfl | rfl
      · -- 0
        refine wpOp_step rfl (fun K hK => ?_)
        have n4 : l 4 = false := by
          cases h : l 4
          · rfl
          · have h4 := o4 h; simp only [Bool.and_eq_true] at h4; rw [h4.1] at hli; cases hli
        have n5 : l 5 = false := by
          cases h : l 5
          · rfl
          · rw [o5 h] at n4; cases n4
        simp only [n5, cond_false] at hw
        subst hw
        simp only [n4, n5, cond_true, cond_false]
        clear hpre
        rw [if_pos (by rfl)]
        have z1 := (Box.grown HBL.out hg (HBL.out.ty.apart HO.out (by decide))).cell
        go_simp
        exact hK _ _ ⟨v2, gb, w', by simp [upd, Act.put, n4, n5], hg, (fun e => c1 (by simpa [upd] using e)), (fun e => c2 (by simpa [upd] using e)), (fun e1 e2 => cb (by simpa [upd] using e1) (by simpa [upd] using e2)), by simp [upd, n5], (by first | (simp [upd, n4, n5]; done) | simpa [upd, n4, n5] using o5), (by first | (simp [upd, n4, n5]; done) | simpa [upd, n4, n5] using o4), (by first | (simp [upd, n4, n5]; done) | simpa [upd, n4, n5] using o3), (by first | (simp [upd, n4, n5]; done) | simpa [upd, n4, n5] using o2)⟩
      · -- 1
        refine wpOp_step rfl (fun K hK => ?_)
        have n4 : l 4 = false := by
          cases h : l 4
          · rfl
          · have h4 := o4 h; simp only [Bool.and_eq_true] at h4; rw [o2 (o3 h4.2)] at hli; cases hli
        have n5 : l 5 = false := by
          cases h : l 5
          · rfl
          · rw [o5 h] at n4; cases n4
        simp only [n5, cond_false] at hw
        subst hw
        simp only [n4, n5, cond_true, cond_false]
        clear hpre
        rw [if_pos (by rfl)]
        have z1 := (HBX.out.grown hg (HBX.out.ty.apart HO.out (by decide))).cell
        go_simp
        exact hK _ _ ⟨v2, gb, w', by simp [upd, Act.put, n4, n5], hg, (fun e => c1 (by simpa [upd] using e)), (fun e => c2 (by simpa [upd] using e)), (fun e1 e2 => cb (by simpa [upd] using e1) (by simpa [upd] using e2)), by simp [upd, n5], (by first | (simp [upd, n4, n5]; done) | simpa [upd, n4, n5] using o5), (by first | (simp [upd, n4, n5]; done) | simpa [upd, n4, n5] using o4), (by first | (simp [upd, n4, n5]; done) | simpa [upd, n4, n5] using o3), (by first | (simp [upd, n4, n5]; done) | simpa [upd, n4, n5] using o2)⟩
      · -- 2
        have p1 : l 1 = true := hpre _ rfl ⟨1, .data⟩ (by simp) rfl
        refine wpOp_step rfl (fun K hK => ?_)
        have n4 : l 4 = false := by
          cases h : l 4
          · rfl
          · have h4 := o4 h; simp only [Bool.and_eq_true] at h4; rw [o3 h4.2] at hli; cases hli
        have n5 : l 5 = false := by
          cases h : l 5
          · rfl
          · rw [o5 h] at n4; cases n4
        have n3 : l 3 = false := by
          cases h : l 3
          · rfl
          · rw [o3 h] at hli; cases hli
        simp only [n5, cond_false] at hw
        subst hw
        simp only [p1, n3, n4, n5, cond_true, cond_false]
        clear hpre
        rw [if_pos (by rfl)]
        go_simp
        refine (HSub.out _ _ _).mono ?_
        rintro e w5 ⟨rfl, hb5⟩
        exact hK _ _ ⟨v2, gb, w5, by simp [upd, Act.put, p1, n3, n4, n5], grownBy_below hg hb5, (fun _ => own_below (c1 n4) hb5), (fun e => absurd e (by simp [upd, n4])), (fun e => absurd e (by simp [upd, n3])), by simp [upd, n5], (by first | (simp [upd, p1, n3, n4, n5]; done) | simpa [upd, p1, n3, n4, n5] using o5), (by first | (simp [upd, p1, n3, n4, n5]; done) | simpa [upd, p1, n3, n4, n5] using o4), (by first | (simp [upd, p1, n3, n4, n5]; done) | simpa [upd, p1, n3, n4, n5] using o3), (by first | (simp [upd, p1, n3, n4, n5]; done) | simpa [upd, p1, n3, n4, n5] using o2)⟩
      · -- 3
        have p2 : l 2 = true := hpre _ rfl ⟨2, .data⟩ (by simp) rfl
        refine wpOp_step rfl (fun K hK => ?_)
        have n4 : l 4 = false := by
          cases h : l 4
          · rfl
          · have h4 := o4 h; simp only [Bool.and_eq_true] at h4; rw [h4.2] at hli; cases hli
        have n5 : l 5 = false := by
          cases h : l 5
          · rfl
          · rw [o5 h] at n4; cases n4
        have p1 := o2 p2
        simp only [n5, cond_false] at hw
        subst hw
        simp only [p2, p1, n4, n5, cond_true, cond_false]
        clear hpre
        rw [if_pos (by rfl)]
        have hA := below_alloc w' (.cells #[.int .i64 (z : Int), .int .i64 0] 35)
        go_simp
        exact hK _ _ ⟨v2, w'.heap.size, _, by simp [upd, Act.put, p2, p1, n4, n5], grownBy_below hg hA, (fun _ => own_below (c1 n4) hA), (fun e => absurd e (by simp [upd, n4])), (fun _ _ => Blk.new w' _ 35), by simp [upd, n5], (by first | (simp [upd, p2, p1, n4, n5]; done) | simpa [upd, p2, p1, n4, n5] using o5), (by first | (simp [upd, p2, p1, n4, n5]; done) | simpa [upd, p2, p1, n4, n5] using o4), (by first | (simp [upd, p2, p1, n4, n5]; done) | simpa [upd, p2, p1, n4, n5] using o3), (by first | (simp [upd, p2, p1, n4, n5]; done) | simpa [upd, p2, p1, n4, n5] using o2)⟩
      · -- 4
        have p0 : l 0 = true := hpre _ rfl ⟨0, .data⟩ (by simp) rfl
        have p3 : l 3 = true := hpre _ rfl ⟨3, .data⟩ (by simp) rfl
        refine wpOp_step rfl (fun K hK => ?_)
        have n4 : l 4 = false := hli
        have n5 : l 5 = false := by
          cases h : l 5
          · rfl
          · rw [o5 h] at n4; cases n4
        have p2 := o3 p3
        have p1 := o2 p2
        simp only [n5, cond_false] at hw
        subst hw
        simp only [p0, p3, p2, p1, n4, n5, cond_true, cond_false]
        clear hpre
        rw [if_pos (by rfl)]
        have hO := c1 n4
        have hBk := cb p3 n4
        refine wp_append_own _ _ _ 39 rfl (N) 35 i0 _ 2 16 Try.underlying39 HI.out.1 HI.out.2.1 HI.out.2.2.1 HI.out.2.2.2 rfl (by omega) v L xs rfl hO ⟨gb, 0, none⟩ 1 1 [Value.int .i64 (z : Int), Value.int .i64 0] rfl rfl (fun j u hu => by rw [Addr.add_mid, Nat.zero_add, hBk.cell j]; simpa using hu) (by intro u hu; simp at hu; rcases hu with rfl | rfl <;> rfl) (by unfold maxLen; omega) (by omega) (Nat.le_trans HNW.out hg.size) ?_
        intro v1 w6 hown6 hg6 _
        exact hK _ _ ⟨v1, gb, w6, by simp [upd, Act.put, p0, p3, p2, p1, n4, n5], grownBy_trans hg hg6, (fun e => absurd e (by simp [upd])), (fun _ => hown6), (fun _ e => absurd e (by simp [upd])), by simp [upd, n5], (by first | (simp [upd, p0, p3, p2, p1, n4, n5]; done) | simpa [upd, p0, p3, p2, p1, n4, n5] using o5), (by first | (simp [upd, p0, p3, p2, p1, n4, n5]; done) | simpa [upd, p0, p3, p2, p1, n4, n5] using o4), (by first | (simp [upd, p0, p3, p2, p1, n4, n5]; done) | simpa [upd, p0, p3, p2, p1, n4, n5] using o3), (by first | (simp [upd, p0, p3, p2, p1, n4, n5]; done) | simpa [upd, p0, p3, p2, p1, n4, n5] using o2)⟩
      · -- 5
        have p4 : l 4 = true := hpre _ rfl ⟨4, .data⟩ (by simp) rfl
        have p0 : l 0 = true := hpre _ rfl ⟨0, .phase⟩ (by simp) rfl
        have p1 : l 1 = true := hpre _ rfl ⟨1, .phase⟩ (by simp) rfl
        have p2 : l 2 = true := hpre _ rfl ⟨2, .phase⟩ (by simp) rfl
        have p3 : l 3 = true := hpre _ rfl ⟨3, .phase⟩ (by simp) rfl
        refine wpOp_step rfl (fun K hK => ?_)
        have n5 : l 5 = false := hli
        simp only [n5, cond_false] at hw
        subst hw
        simp only [p4, p0, p1, p2, p3, n5, cond_true, cond_false]
        clear hpre
        rw [if_pos (by rfl)]
        have hS3 := Box.grown HBL.out hg (HBL.out.ty.apart HO.out (by decide))
        have hO := c2 p4
        have z1 := hS3.cell
        have z2 := hS3.fr
        obtain ⟨A2, k2, hv2⟩ := own_val hO
        subst hv2
        go_simp
        exact hK _ _ ⟨_, gb, w', by simp [upd, Act.put, p4, p0, p1, p2, p3], hg, (fun e => absurd e (by simp [upd, p4])), (fun _ => hO), (fun _ e => absurd e (by simp [upd, p4])), by simp [upd], (by first | (simp [upd, p4, p0, p1, p2, p3]; done) | simpa [upd, p4, p0, p1, p2, p3] using o5), (by first | (simp [upd, p4, p0, p1, p2, p3]; done) | simpa [upd, p4, p0, p1, p2, p3] using o4), (by first | (simp [upd, p4, p0, p1, p2, p3]; done) | simpa [upd, p4, p0, p1, p2, p3] using o3), (by first | (simp [upd, p4, p0, p1, p2, p3]; done) | simpa [upd, p4, p0, p1, p2, p3] using o2)⟩
    · rintro l a w9 hall ⟨v2, gb, w1, rfl, hg, _, c2, _, hw, _, _, _, _⟩
      rw [hall 5 (by decide), cond_true] at hw
      subst hw
      simp only [hall 0 (by decide), hall 1 (by decide), hall 2 (by decide), hall 3 (by decide), hall 4 (by decide), cond_true]
      have H9 := Lib.hid (app_done HBL.out (by decide) HO.out hg (c2 (hall 4 (by decide))) HNW.out (by omega))
      clear hall c2 hg
      obtain ⟨W9, hW9⟩ : ∃ W9, W9 = w1.setCell ⟨N + 2, 0, none⟩ v2 := ⟨_, rfl⟩
      rw [← hW9] at H9
      rw [← hW9]
      clear hW9
      gi_wp2_with fail
      obtain ⟨k1, k2, k3, k4, k5⟩ := H9.out
      have hN := HBxC.out
      have hC3 := HE5.out.2.2
      have g5 := k5 _ _ _ (by omega) (by decide) HFC.out.1.blk
      have g6 := k5 _ _ _ (by omega) (by decide) HFC.out.2.blk
      refine ⟨k3.from _, ⟨g6.trans HFC.out.2.symm, g5.trans HFC.out.1.symm⟩, ⟨v2, ?_, k1, k5 _ _ _ (by omega) (by decide) HFS.out, k5 _ _ _ (by omega) (by decide) HFR.out.blk, g5, g6⟩, HBW.out.trans k4⟩
      rw [HFin.out.1, List.length_append, prs_append, ← HFin.out.2.1, ← HFin.out.2.2]
      exact k2
  case done =>
    rintro D ys W hD hys ⟨⟨v, h1, h2, h3, h4, h5, h6⟩, hB⟩ hK
    have hpl : plf 1 d y (ys.map (·.1)) = plc 1 d y := by
      rw [hys, lvl_zero]; unfold plc; rw [HY.out.2.2, Nat.sub_zero]
    rw [hpl] at h1
    have H1 := Lib.hid h1
    have z1 := h2.cell
    have HKD := Lib.hid hK
    have HBl := Lib.hid hB
    have HDD := Lib.hid hD
    obtain ⟨A2, c2, hv2⟩ := own_val h1
    subst hv2
    clear h1 h2 h3 h4 h5 h6 hB hK hD hys hpl
    go_wp2_with fail
    refine ⟨by simp, .inl ⟨_, _, rfl, run_takeDeferred HKD.out, ?_⟩⟩
    refine ⟨_, results_tmp rfl _ _ _, ⟨_, rfl, ?_⟩, ?_⟩
    · exact H1.out.kept (grownBy_putObj' _ D _) (own_notrow H1.out (fun r e => by cases e; exact ⟨_, HKD.out, rfl⟩))
    · exact (HE5.out.2.1.trans HBl.out).trans (belowK_b (w := w) (by rw [HN.out]; exact Nat.le_refl _) _ D _ _ (by have := HDD.out; have := HE5.out; have := HN.out; omega) HKD.out rfl rfl)
  case stop =>
    rintro D c pre W _ _ h _
    exact h.elim
end Go.Proofs.Ytnbkoffhplknbaa
