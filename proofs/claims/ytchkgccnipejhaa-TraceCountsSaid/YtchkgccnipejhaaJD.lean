/-
  Texts joined into one: PlcB, PlcC, PlcD, PlcE, StoA.
-/
import Derived.Test.YtchkgccnipejhaaJB

/-
  The places of a receiver's labels, the program's: the subtree scheme.
-/
namespace Go.Proofs.Ytchkgccnipejhaa
open Go.RowKit Go.Shelf TR
set_option linter.unusedVariables false
set_option linter.unusedSimpArgs false
attribute [local go_sem] Oper.semAt_some

theorem infoSub : (Try.prog.info? 56).map (fun i => (i.zero, i.size, i.bytes)) = some (some (.agg #[.int .i64 0, .int .i64 0]), 2, 16) := by kernel_rfl
theorem chk_leaf : ((List.range 7).all fun d => (List.range (2 ^ d)).all fun r => decide (lv (2 ^ d + r) = d) && decide (nat_ (2 ^ d + r) d = 2 ^ d + r)) = true := by decide +kernel
theorem leaf_lv {d r : Nat} (hd : d < 7) (hr : r < 2 ^ d) : lv (2 ^ d + r) = d := by
  have h := chk_leaf
  simp only [List.all_eq_true, List.mem_range, Bool.and_eq_true, decide_eq_true_eq] at h
  exact (h d hd r hr).1

set_option maxRecDepth 100000 in
set_option maxHeartbeats 4000000 in
theorem places_one (E : Int) (d r P Q G : Nat) (w : World) (hd : d < 7) (hr : r < 2 ^ d) :
    Calls Try.prog 79 #[.agg #[.int .u8 1, .int .i64 (d : Int), .int .i64 E, .int .u64 (P : Int), .int .u64 (Q : Int), .int .u64 (G : Int)], .int .i64 (r : Int)] w fun e w' => (∃ u, e = .returned u ∧ w'.ownsRow w.heap.size 56 2 u (plc 1 d (2 ^ d + r)).length (prs (plc 1 d (2 ^ d + r)))) ∧ Below w.heap.size w w' := by
  obtain ⟨i0, hi, hz0, hz1, hz2⟩ := info_parts infoSub
  have HI := Lib.hid (And.intro hi (And.intro hz0 (And.intro hz1 hz2)))
  have h64 := p64 hd
  have hly := leaf_lv hd hr
  obtain ⟨y, hy⟩ : ∃ y, y = 2 ^ d + r := ⟨_, rfl⟩
  have HLf : Hid (∀ w, Calls Try.prog 87 #[.agg #[.int .u8 1, .int .i64 (d : Int), .int .i64 E, .int .u64 (P : Int), .int .u64 (Q : Int), .int .u64 (G : Int)], .int .i64 (r : Int)] w fun e w' => e = .returned (.int .i64 (y : Int)) ∧ Below w.heap.size w w') := Lib.hid (fun w => by
    have h := leaf_any 1 E d r P Q G w hd (by omega)
    rw [← hy] at h; exact h)
  rw [← hy] at hly ⊢
  have hy1 : 1 ≤ y := by omega
  have hy2 : y < 128 := by omega
  have HY := Lib.hid (And.intro hy1 (And.intro hy2 hly))
  have HSub := Lib.hid (fun a b w => subset_any a b w)
  obtain ⟨N, hN⟩ : ∃ N, N = w.heap.size := ⟨_, rfl⟩
  obtain ⟨W3, hW3⟩ : ∃ W3, W3 = ((w.alloc (.cells #[.int .u8 1, .int .i64 (d : Int), .int .i64 E, .int .u64 (P : Int), .int .u64 (Q : Int), .int .u64 (G : Int)] 45)).alloc (.cells #[.int .i64 (r : Int)] 3)).alloc (.cells #[.slice none 0 0] 47) := ⟨_, rfl⟩
  have s3 : W3.heap.size = N + 3 := by rw [hW3, hN]; simp
  have b3 : Below N w W3 := by rw [hW3, hN]; exact (((Below.refl _ _).alloc (Nat.le_refl _) _).alloc (by simp) _).alloc (by simp; omega) _
  have eS : Blk W3 N #[.int .u8 1, .int .i64 (d : Int), .int .i64 E, .int .u64 (P : Int), .int .u64 (Q : Int), .int .u64 (G : Int)] 45 := by
    rw [hW3, hN]; exact ((Blk.new w _ _).keep (below_alloc _ _)).keep (below_alloc _ _)
  have eR : Box W3 (N + 1) (.int .i64 (r : Int)) 3 := by
    have h := (Box.new (w.alloc (.cells #[.int .u8 1, .int .i64 (d : Int), .int .i64 E, .int .u64 (P : Int), .int .u64 (Q : Int), .int .u64 (G : Int)] 45)) (.int .i64 (r : Int)) 3).keep (below_alloc _ (.cells #[.slice none 0 0] 47))
    rw [World.size_alloc, ← hN] at h; rw [hW3]; exact h
  have eL : Box W3 (N + 2) (.slice none 0 0) 47 := by
    have h := Box.new ((w.alloc (.cells #[.int .u8 1, .int .i64 (d : Int), .int .i64 E, .int .u64 (P : Int), .int .u64 (Q : Int), .int .u64 (G : Int)] 45)).alloc (.cells #[.int .i64 (r : Int)] 3)) (.slice none 0 0) 47
    rw [World.size_alloc, World.size_alloc, ← hN] at h; rw [hW3]; exact h
  have HE3 := Lib.hid (And.intro s3 (And.intro b3 (And.intro eS (And.intro eR eL))))
  have HN := Lib.hid hN
  have HW3 := Lib.hid hW3
  have HD := Lib.hid (And.intro hd hr)
  rw [← hN]
  have c0 : W3.cell? ⟨N, 0, none⟩ = some (.int .u8 1) := eS.cell 0
  have c1 : W3.cell? ⟨N, 1, none⟩ = some (.int .i64 (d : Int)) := eS.cell 1
  have c2 : W3.cell? ⟨N, 2, none⟩ = some (.int .i64 E) := eS.cell 2
  have c3 : W3.cell? ⟨N, 3, none⟩ = some (.int .u64 (P : Int)) := eS.cell 3
  have c4 : W3.cell? ⟨N, 4, none⟩ = some (.int .u64 (Q : Int)) := eS.cell 4
  have c5 : W3.cell? ⟨N, 5, none⟩ = some (.int .u64 (G : Int)) := eS.cell 5
  have c6 : W3.cell? ⟨N + 1, 0, none⟩ = some (.int .i64 (r : Int)) := eR.cell
  have c7 : W3.cell? ⟨N + 2, 0, none⟩ = some (.slice none 0 0) := eL.cell
  have c8 : W3.frozen? ⟨N + 2, 0, none⟩ = false := eL.fr
  rw [hW3, hN] at c0 c1 c2 c3 c4 c5 c6 c7 c8
  clear hN hW3 s3 b3 eS eR eL hi hz0 hz1 hz2 h64 hly hy hd hr
  refine (callsIn_wide (n := 8)).1 (callsIn_of_wp_marks Try.func79 rfl trivial ?_ rfl)
  simp only [Try.ntmps79, List.size_toArray, List.length_cons, List.length_nil, Nat.reduceAdd, Nat.reduceSub, Array.replicate_succ, Array.replicate_zero, List.push_toArray, List.append_toArray, List.nil_append, List.cons_append]
  refine wpIn_wide.2 ?_
  go_wp2_with fail
  rw [← HW3.out, ← HN.out]
  refine (HLf.out _).mono ?_
  rintro e w4 ⟨rfl, hb4⟩
  have HB4 := Lib.hid hb4
  clear hb4 c0 c1 c2 c3 c4 c5 c6 c7 c8
  go_wp2_with fail
  refine (path_any _ _ _).mono ?_
  rintro e w5 ⟨rfl, rfl⟩
  obtain ⟨C, hC⟩ : ∃ C, C = w4.heap.size := ⟨_, rfl⟩
  rw [← hC]
  obtain ⟨W5, hW5⟩ : ∃ W5, W5 = (w4.alloc (.cells #[.int .i64 (y : Int)] 113)).alloc (.cells #[.int .i64 0] 3) := ⟨_, rfl⟩
  rw [← hW5]
  have hCN : N + 3 ≤ C := by rw [hC, ← HE3.out.1]; exact HB4.out.size
  have s5 : W5.heap.size = C + 2 := by rw [hW5, hC]; simp
  have b35 : Below (N + 3) W3 W5 := (HB4.out.mono (by rw [HE3.out.1]; exact Nat.le_refl _)).trans (by rw [hW5]; exact ((Below.refl _ _).alloc (by omega) _).alloc (by simp; omega) _)
  have b05 : Below N w W5 := HE3.out.2.1.trans (b35.mono (by omega))
  have fS := HE3.out.2.2.1.below b35 (by omega)
  have fR := HE3.out.2.2.2.1.below b35 (by omega)
  have fL := HE3.out.2.2.2.2.below b35 (by omega)
  have fC : Box W5 C (.int .i64 (y : Int)) 113 := by rw [hW5, hC]; exact (Box.new w4 (.int .i64 (y : Int)) 113).keep (below_alloc _ _)
  have fC1 : Box W5 (C + 1) (.int .i64 0) 3 := by
    have h := Box.new (w4.alloc (.cells #[.int .i64 (y : Int)] 113)) (.int .i64 0) 3
    rw [World.size_alloc, ← hC] at h; rw [hW5]; exact h
  have HBS := Lib.hid (path_lev 7 (by omega) (C + 1) C y d 0 W5 HY.out.1 (by have := HY.out.2.1; omega) HY.out.2.2.symm (by omega) fC.cell fC1.cell)
  have HE5 := Lib.hid (And.intro s5 (And.intro b05 hCN))
  have F5 := Lib.hid (And.intro fS (And.intro fR (And.intro fL (And.intro fC fC1))))
  clear hW5 hC s5 b35 b05 fS fR fL fC fC1 hCN
  go_wp2_with fail
  simp only [Nat.add_assoc, Nat.reduceAdd]
  refine (wpIn_wide (n := 8)).1 ?_
  have hI0 : (∃ v, W5.ownsRow N 56 2 v (plf 1 d y (([] : List (Lev d)).map (·.1))).length (prs (plf 1 d y (([] : List (Lev d)).map (·.1)))) ∧ Box W5 (N + 2) v 47 ∧ Blk W5 N #[.int .u8 1, .int .i64 (d : Int), .int .i64 E, .int .u64 (P : Int), .int .u64 (Q : Int), .int .u64 (G : Int)] 45 ∧ Box W5 (N + 1) (.int .i64 (r : Int)) 3 ∧ Box W5 C (.int .i64 (y : Int)) 113 ∧ Box W5 (C + 1) (.int .i64 0) 3) ∧ Below N W5 W5 :=
    ⟨⟨.slice none 0 0, World.ownsRow_nil _ _ _ _, F5.out.2.2.1, F5.out.1, F5.out.2.1, F5.out.2.2.2.1, F5.out.2.2.2.2⟩, Below.refl _ _⟩
  refine wpIn_rangeFunc_ownH rfl (n := 8) (by omega) (gf := 135) (lb := #[.pointer (some ⟨C + 1, 0, none⟩), .pointer (some ⟨C, 0, none⟩)]) rfl trivial (enters_of Try.func135 (by kernel_rfl) rfl)
    HBS.out (fun h k => ⟨k.1.trans h.1, k.2.trans h.2⟩) (fun W l o o' hl _ _ _ => ⟨World.putObj_heap_other (by rw [HE5.out.1] at hl; omega), World.putObj_heap_other (by rw [HE5.out.1] at hl; omega)⟩) (Below.refl _ _) (fun _ => rfl)
    (fun pre W => (∃ v, W.ownsRow N 56 2 v (plf 1 d y (pre.map (·.1))).length (prs (plf 1 d y (pre.map (·.1)))) ∧ Box W (N + 2) v 47 ∧ Blk W N #[.int .u8 1, .int .i64 (d : Int), .int .i64 E, .int .u64 (P : Int), .int .u64 (Q : Int), .int .u64 (G : Int)] 45 ∧ Box W (N + 1) (.int .i64 (r : Int)) 3 ∧ Box W C (.int .i64 (y : Int)) 113 ∧ Box W (C + 1) (.int .i64 0) 3) ∧ Below N W5 W)
    (fun _ _ _ => False)
    (OwnFrom.and (Own.from (fun s A B' row hs hg hr => by
      obtain ⟨v, h1, h2, h3, h4, h5, h6⟩ := hs
      exact ⟨v, h1.kept hg (own_notrow h1 hr), h2.kept hg hr, h3.kept hg hr, h4.kept hg hr, h5.kept hg hr, h6.kept hg hr⟩) _) (ownFrom_below (by rw [HE5.out.1]; have := HE5.out.2.2; omega) (by rw [HE5.out.1]; have := HE5.out.2.2; omega)))
    (fun _ _ _ _ _ hs _ _ => hs)
    hI0
    (fun x a' W => ∃ Bx, C + 1 < Bx ∧ Box W Bx (.int .i64 (nat_ y x.1 : Int)) 113 ∧ a' = { tmps := #[Value.agg #[.int .u8 1, .int .i64 (d : Int), .int .i64 E, .int .u64 (P : Int), .int .u64 (Q : Int), .int .u64 (G : Int)], Value.int .i64 (r : Int), Value.pointer (some ⟨N, 0, none⟩), Value.pointer (some ⟨N + 1, 0, none⟩), Value.slice none 0 0, Value.pointer (some ⟨N + 2, 0, none⟩), Value.pointer (some ⟨Bx, 0, none⟩), undef, undef, Value.pointer (some ⟨N, 0, none⟩), Value.int .u8 1, Value.bool false, undef, undef, undef, undef, Value.agg #[.int .u8 1, .int .i64 (d : Int), .int .i64 E, .int .u64 (P : Int), .int .u64 (Q : Int), .int .u64 (G : Int)], Value.int .i64 (r : Int), Value.int .i64 (y : Int), Value.func (.func 135) #[] #[.pointer (some ⟨C + 1, 0, none⟩), .pointer (some ⟨C, 0, none⟩)], Value.int .i64 (nat_ y x.1 : Int), undef, undef, undef, undef, undef, undef, undef, undef, undef, undef, undef, undef, undef, undef, undef, undef, undef, undef, undef, undef, undef, undef, undef, undef, undef, undef, undef, undef], defers := [] })
    (fun x a' _ X Y row hs hg hr => by obtain ⟨Bx, h1, h2, h3⟩ := hs; exact ⟨Bx, h1, h2.kept hg (fun r e => (hr r e).2), h3⟩)
    ?assign ?body ?done ?stop
  case assign =>
    rintro l pre x W K ⟨⟨v, h1, h2, h3, h4, h5, h6⟩, hB⟩ hK
    unfold lenc
    gi_wp2
    have hA := below_alloc W (.cells #[.int .i64 (nat_ y x.1 : Int)] 113)
    exact hK _ _ ((KeepsOthers.alloc _ _).from _) ⟨(h6.keep hA).trans h6.symm, (h5.keep hA).trans h5.symm⟩ ⟨⟨v, own_below h1 hA, h2.keep hA, h3.keep hA, h4.keep hA, h5.keep hA, h6.keep hA⟩, hB.trans (hA.mono (by have := hB.size; rw [HE5.out.1] at this; have := HE5.out.2.2; omega))⟩ ⟨W.heap.size, h6.lt, Box.new W _ _, rfl⟩
  case body =>
    rintro l pre x a' W hl _ ⟨⟨v, h1, h2, h3, h4, h5, h6⟩, hB⟩ ⟨Bx, hBx, bX, rfl⟩ hlt
    have hsn := plf_snoc 1 d y (pre.map (·.1)) x.1
    have hln := plf_len 1 d y (by rw [HY.out.2.2]; have := HD.out.1; omega) (pre.map (·.1))
    have hrw : rowl 1 d y x.1 = [(nat_ y x.1, 0)] := by unfold rowl; rw [if_pos rfl]
    rw [hrw] at hsn
    have HSn : Hid (plf 1 d y ((pre ++ [x]).map (·.1)) = plf 1 d y (pre.map (·.1)) ++ [(nat_ y x.1, 0)]) := Lib.hid (by rw [List.map_append]; exact hsn)
    obtain ⟨ps, hps⟩ : ∃ ps, ps = plf 1 d y (pre.map (·.1)) := ⟨_, rfl⟩
    rw [← hps] at HSn h1 hln
    obtain ⟨L, hL⟩ : ∃ L, L = ps.length := ⟨_, rfl⟩
    obtain ⟨xs, hxs⟩ : ∃ xs, xs = prs ps := ⟨_, rfl⟩
    rw [← hL, ← hxs] at h1
    have hL80 : L ≤ 80 := by rw [List.length_map] at hln; omega
    obtain ⟨z, hz⟩ : ∃ z, z = nat_ y x.1 := ⟨_, rfl⟩
    rw [← hz] at HSn bX ⊢
    have HFin : Hid (plf 1 d y ((pre ++ [x]).map (·.1)) = ps ++ [(z, 0)] ∧ L = ps.length ∧ xs = prs ps) := Lib.hid ⟨HSn.out, hL, hxs⟩
    have HO := Lib.hid h1
    have HBL := Lib.hid h2
    have HFS := Lib.hid h3
    have HFR := Lib.hid h4
    have HFC := Lib.hid (And.intro h5 h6)
    have HBW := Lib.hid hB
    have HBX := Lib.hid bX
    have HNW : Hid (N ≤ W.heap.size) := Lib.hid (by have := hB.size; rw [HE5.out.1] at this; have := HE5.out.2.2; omega)
    have c0 : W.cell? ⟨N, 0, none⟩ = some (.int .u8 1) := h3.cell 0
    have HBxC := Lib.hid hBx
    clear h1 h2 h3 h4 h5 h6 hB bX hsn hln hrw hps hL hxs hz HSn hlt hBx
    gi_wp2_with fail
    clear c0
    refine wpIn_round_inv _ _ (by kernel_rfl) (by rintro ⟨_, _, h⟩; exact h) (by kernel_rfl) (by kernel_rfl) (fun l a w' => ∃ (v2 : Value) (gb : Nat) (w1 : World), a = { tmps := #[Value.agg #[.int .u8 1, .int .i64 (d : Int), .int .i64 E, .int .u64 (P : Int), .int .u64 (Q : Int), .int .u64 (G : Int)], Value.int .i64 (r : Int), Value.pointer (some ⟨N, 0, none⟩), Value.pointer (some ⟨N + 1, 0, none⟩), Value.slice none 0 0, Value.pointer (some ⟨N + 2, 0, none⟩), Value.pointer (some ⟨Bx, 0, none⟩), undef, undef, Value.pointer (some ⟨N, 0, none⟩), Value.int .u8 1, Value.bool false, undef, undef, undef, undef, Value.agg #[.int .u8 1, .int .i64 (d : Int), .int .i64 E, .int .u64 (P : Int), .int .u64 (Q : Int), .int .u64 (G : Int)], Value.int .i64 (r : Int), Value.int .i64 (y : Int), Value.func (.func 135) #[] #[.pointer (some ⟨C + 1, 0, none⟩), .pointer (some ⟨C, 0, none⟩)], Value.int .i64 (z : Int), Value.pointer (some ⟨N, 0, none⟩), Value.int .u8 1, Value.bool true, bif l 0 then v else undef, bif l 1 then Value.int .i64 (z : Int) else undef, bif l 2 then Value.agg #[.int .i64 (z : Int), .int .i64 0] else undef, bif l 3 then Value.slice (some ⟨gb, 0, none⟩) 1 1 else undef, bif l 4 then v2 else undef, undef, undef, undef, undef, undef, undef, undef, undef, undef, undef, undef, undef, undef, undef, undef, undef, undef, undef, undef, undef], defers := [] } ∧ World.grownBy W w1 (Value.ownBlock v) ∧ (l 4 = false → w1.ownsRow N 56 2 v L xs) ∧ (l 4 = true → w1.ownsRow N 56 2 v2 (L + 1) (xs ++ [Value.int .i64 (z : Int), Value.int .i64 0])) ∧ (l 3 = true → l 4 = false → Blk w1 gb #[.int .i64 (z : Int), .int .i64 0] 56) ∧ w' = (bif l 5 then w1.setCell ⟨N + 2, 0, none⟩ v2 else w1) ∧ (l 5 = true → l 4 = true) ∧ (l 4 = true → (l 0 && l 3) = true) ∧ (l 3 = true → l 2 = true) ∧ (l 2 = true → l 1 = true)) ⟨v, 0, World.drew _, rfl, ⟨rfl, rfl, rfl, Nat.le_refl _, fun _ _ _ => rfl⟩, (fun _ => HO.out), (fun h => by cases h), (fun h => by cases h), rfl, (fun h => by cases h), (fun h => by cases h), (fun h => by cases h), (fun h => by cases h)⟩ ?_ ?_
    · rintro l a w' i ⟨v2, gb, w1, rfl, hg, c1, c2, cb, hw, o5, o4, o3, o2⟩ hi hli hpre
      have hi2 : i < 6 := hi
      have hcase : i = 0 ∨ i = 1 ∨ i = 2 ∨ i = 3 ∨ i = 4 ∨ i = 5 := by omega
      clear hi hi2
      rcases hcase with rfl | rfl | rfl | rfl | rfl | rfl
      · -- 0
        refine wpOp_step rfl (fun K hK => ?_)
        have n4 : l 4 = false := by
          cases h : l 4
          · rfl
          · have h4 := o4 h; simp only [Bool.and_eq_true] at h4; rw [h4.1] at hli; cases hli
        have n5 : l 5 = false := by
          cases h : l 5
          · rfl
          · rw [o5 h] at n4; cases n4
        simp only [n5, cond_false] at hw
        subst hw
        simp only [n4, n5, cond_true, cond_false]
        clear hpre
        rw [if_pos (by rfl)]
        have z1 := (Box.grown HBL.out hg (HBL.out.ty.apart HO.out (by decide))).cell
        go_simp
        exact hK _ _ ⟨v2, gb, w', by simp [upd, Act.put, n4, n5], hg, (fun e => c1 (by simpa [upd] using e)), (fun e => c2 (by simpa [upd] using e)), (fun e1 e2 => cb (by simpa [upd] using e1) (by simpa [upd] using e2)), by simp [upd, n5], (by first | (simp [upd, n4, n5]; done) | simpa [upd, n4, n5] using o5), (by first | (simp [upd, n4, n5]; done) | simpa [upd, n4, n5] using o4), (by first | (simp [upd, n4, n5]; done) | simpa [upd, n4, n5] using o3), (by first | (simp [upd, n4, n5]; done) | simpa [upd, n4, n5] using o2)⟩
      · -- 1
        refine wpOp_step rfl (fun K hK => ?_)
        have n4 : l 4 = false := by
          cases h : l 4
          · rfl
          · have h4 := o4 h; simp only [Bool.and_eq_true] at h4; rw [o2 (o3 h4.2)] at hli; cases hli
        have n5 : l 5 = false := by
          cases h : l 5
          · rfl
          · rw [o5 h] at n4; cases n4
        simp only [n5, cond_false] at hw
        subst hw
        simp only [n4, n5, cond_true, cond_false]
        clear hpre
        rw [if_pos (by rfl)]
        have z1 := (HBX.out.grown hg (HBX.out.ty.apart HO.out (by decide))).cell
        go_simp
        exact hK _ _ ⟨v2, gb, w', by simp [upd, Act.put, n4, n5], hg, (fun e => c1 (by simpa [upd] using e)), (fun e => c2 (by simpa [upd] using e)), (fun e1 e2 => cb (by simpa [upd] using e1) (by simpa [upd] using e2)), by simp [upd, n5], (by first | (simp [upd, n4, n5]; done) | simpa [upd, n4, n5] using o5), (by first | (simp [upd, n4, n5]; done) | simpa [upd, n4, n5] using o4), (by first | (simp [upd, n4, n5]; done) | simpa [upd, n4, n5] using o3), (by first | (simp [upd, n4, n5]; done) | simpa [upd, n4, n5] using o2)⟩
      · -- 2
        have p1 : l 1 = true := hpre _ rfl ⟨1, .data⟩ (by simp) rfl
        refine wpOp_step rfl (fun K hK => ?_)
        have n4 : l 4 = false := by
          cases h : l 4
          · rfl
          · have h4 := o4 h; simp only [Bool.and_eq_true] at h4; rw [o3 h4.2] at hli; cases hli
        have n5 : l 5 = false := by
          cases h : l 5
          · rfl
          · rw [o5 h] at n4; cases n4
        have n3 : l 3 = false := by
          cases h : l 3
          · rfl
          · rw [o3 h] at hli; cases hli
        simp only [n5, cond_false] at hw
        subst hw
        simp only [p1, n3, n4, n5, cond_true, cond_false]
        clear hpre
        rw [if_pos (by rfl)]
        go_simp
        refine (HSub.out _ _ _).mono ?_
        rintro e w5 ⟨rfl, hb5⟩
        exact hK _ _ ⟨v2, gb, w5, by simp [upd, Act.put, p1, n3, n4, n5], grownBy_below hg hb5, (fun _ => own_below (c1 n4) hb5), (fun e => absurd e (by simp [upd, n4])), (fun e => absurd e (by simp [upd, n3])), by simp [upd, n5], (by first | (simp [upd, p1, n3, n4, n5]; done) | simpa [upd, p1, n3, n4, n5] using o5), (by first | (simp [upd, p1, n3, n4, n5]; done) | simpa [upd, p1, n3, n4, n5] using o4), (by first | (simp [upd, p1, n3, n4, n5]; done) | simpa [upd, p1, n3, n4, n5] using o3), (by first | (simp [upd, p1, n3, n4, n5]; done) | simpa [upd, p1, n3, n4, n5] using o2)⟩
      · -- 3
        have p2 : l 2 = true := hpre _ rfl ⟨2, .data⟩ (by simp) rfl
        refine wpOp_step rfl (fun K hK => ?_)
        have n4 : l 4 = false := by
          cases h : l 4
          · rfl
          · have h4 := o4 h; simp only [Bool.and_eq_true] at h4; rw [h4.2] at hli; cases hli
        have n5 : l 5 = false := by
          cases h : l 5
          · rfl
          · rw [o5 h] at n4; cases n4
        have p1 := o2 p2
        simp only [n5, cond_false] at hw
        subst hw
        simp only [p2, p1, n4, n5, cond_true, cond_false]
        clear hpre
        rw [if_pos (by rfl)]
        have hA := below_alloc w' (.cells #[.int .i64 (z : Int), .int .i64 0] 56)
        go_simp
        exact hK _ _ ⟨v2, w'.heap.size, _, by simp [upd, Act.put, p2, p1, n4, n5], grownBy_below hg hA, (fun _ => own_below (c1 n4) hA), (fun e => absurd e (by simp [upd, n4])), (fun _ _ => Blk.new w' _ 56), by simp [upd, n5], (by first | (simp [upd, p2, p1, n4, n5]; done) | simpa [upd, p2, p1, n4, n5] using o5), (by first | (simp [upd, p2, p1, n4, n5]; done) | simpa [upd, p2, p1, n4, n5] using o4), (by first | (simp [upd, p2, p1, n4, n5]; done) | simpa [upd, p2, p1, n4, n5] using o3), (by first | (simp [upd, p2, p1, n4, n5]; done) | simpa [upd, p2, p1, n4, n5] using o2)⟩
      · -- 4
        have p0 : l 0 = true := hpre _ rfl ⟨0, .data⟩ (by simp) rfl
        have p3 : l 3 = true := hpre _ rfl ⟨3, .data⟩ (by simp) rfl
        refine wpOp_step rfl (fun K hK => ?_)
        have n4 : l 4 = false := hli
        have n5 : l 5 = false := by
          cases h : l 5
          · rfl
          · rw [o5 h] at n4; cases n4
        have p2 := o3 p3
        have p1 := o2 p2
        simp only [n5, cond_false] at hw
        subst hw
        simp only [p0, p3, p2, p1, n4, n5, cond_true, cond_false]
        clear hpre
        rw [if_pos (by rfl)]
        have hO := c1 n4
        have hBk := cb p3 n4
        refine wp_append_own _ _ _ 47 rfl (N) 56 i0 _ 2 16 Try.underlying47 HI.out.1 HI.out.2.1 HI.out.2.2.1 HI.out.2.2.2 rfl (by omega) v L xs rfl hO ⟨gb, 0, none⟩ 1 1 [Value.int .i64 (z : Int), Value.int .i64 0] rfl rfl (fun j u hu => by rw [Addr.add_mid, Nat.zero_add, hBk.cell j]; simpa using hu) (by intro u hu; simp at hu; rcases hu with rfl | rfl <;> rfl) (by unfold maxLen; omega) (by omega) (Nat.le_trans HNW.out hg.size) ?_
        intro v1 w6 hown6 hg6 _
        exact hK _ _ ⟨v1, gb, w6, by simp [upd, Act.put, p0, p3, p2, p1, n4, n5], grownBy_trans hg hg6, (fun e => absurd e (by simp [upd])), (fun _ => hown6), (fun _ e => absurd e (by simp [upd])), by simp [upd, n5], (by first | (simp [upd, p0, p3, p2, p1, n4, n5]; done) | simpa [upd, p0, p3, p2, p1, n4, n5] using o5), (by first | (simp [upd, p0, p3, p2, p1, n4, n5]; done) | simpa [upd, p0, p3, p2, p1, n4, n5] using o4), (by first | (simp [upd, p0, p3, p2, p1, n4, n5]; done) | simpa [upd, p0, p3, p2, p1, n4, n5] using o3), (by first | (simp [upd, p0, p3, p2, p1, n4, n5]; done) | simpa [upd, p0, p3, p2, p1, n4, n5] using o2)⟩
      · -- 5
        have p4 : l 4 = true := hpre _ rfl ⟨4, .data⟩ (by simp) rfl
        have p0 : l 0 = true := hpre _ rfl ⟨0, .phase⟩ (by simp) rfl
        have p1 : l 1 = true := hpre _ rfl ⟨1, .phase⟩ (by simp) rfl
        have p2 : l 2 = true := hpre _ rfl ⟨2, .phase⟩ (by simp) rfl
        have p3 : l 3 = true := hpre _ rfl ⟨3, .phase⟩ (by simp) rfl
        refine wpOp_step rfl (fun K hK => ?_)
        have n5 : l 5 = false := hli
        simp only [n5, cond_false] at hw
        subst hw
        simp only [p4, p0, p1, p2, p3, n5, cond_true, cond_false]
        clear hpre
        rw [if_pos (by rfl)]
        have hS3 := Box.grown HBL.out hg (HBL.out.ty.apart HO.out (by decide))
        have hO := c2 p4
        have z1 := hS3.cell
        have z2 := hS3.fr
        obtain ⟨A2, k2, hv2⟩ := own_val hO
        subst hv2
        go_simp
        exact hK _ _ ⟨_, gb, w', by simp [upd, Act.put, p4, p0, p1, p2, p3], hg, (fun e => absurd e (by simp [upd, p4])), (fun _ => hO), (fun _ e => absurd e (by simp [upd, p4])), by simp [upd], (by first | (simp [upd, p4, p0, p1, p2, p3]; done) | simpa [upd, p4, p0, p1, p2, p3] using o5), (by first | (simp [upd, p4, p0, p1, p2, p3]; done) | simpa [upd, p4, p0, p1, p2, p3] using o4), (by first | (simp [upd, p4, p0, p1, p2, p3]; done) | simpa [upd, p4, p0, p1, p2, p3] using o3), (by first | (simp [upd, p4, p0, p1, p2, p3]; done) | simpa [upd, p4, p0, p1, p2, p3] using o2)⟩
    · rintro lx ax w9 hall ⟨v2, gb, w1, rfl, hg, _, c2, _, hw, _, _, _, _⟩
      rw [hall 5 (by decide), cond_true] at hw
      subst hw
      simp only [hall 0 (by decide), hall 1 (by decide), hall 2 (by decide), hall 3 (by decide), hall 4 (by decide), cond_true]
      have H9 := Lib.hid (app_done HBL.out (by decide) HO.out hg (c2 (hall 4 (by decide))) HNW.out (by omega))
      clear hall c2 hg
      obtain ⟨W9, hW9⟩ : ∃ W9, W9 = w1.setCell ⟨N + 2, 0, none⟩ v2 := ⟨_, rfl⟩
      rw [← hW9] at H9
      rw [← hW9]
      clear hW9
      gi_wp2_with fail
      obtain ⟨k1, k2, k3, k4, k5⟩ := H9.out
      have hN := HBxC.out
      have hC3 := HE5.out.2.2
      have g5 := k5 _ _ _ (by omega) (by decide) HFC.out.1.blk
      have g6 := k5 _ _ _ (by omega) (by decide) HFC.out.2.blk
      refine ⟨k3.from _, ⟨g6.trans HFC.out.2.symm, g5.trans HFC.out.1.symm⟩, ⟨v2, ?_, k1, k5 _ _ _ (by omega) (by decide) HFS.out, k5 _ _ _ (by omega) (by decide) HFR.out.blk, g5, g6⟩, HBW.out.trans k4⟩
      rw [HFin.out.1, List.length_append, prs_append, ← HFin.out.2.1, ← HFin.out.2.2]
      exact k2
  case done =>
    rintro D ys W hD hys ⟨⟨v, h1, h2, h3, h4, h5, h6⟩, hB⟩ hK
    have hpl : plf 1 d y (ys.map (·.1)) = plc 1 d y := by
      rw [hys, lvl_zero]; unfold plc; rw [HY.out.2.2, Nat.sub_zero]
    rw [hpl] at h1
    have H1 := Lib.hid h1
    have z1 := h2.cell
    have HKD := Lib.hid hK
    have HBl := Lib.hid hB
    have HDD := Lib.hid hD
    obtain ⟨A2, c2, hv2⟩ := own_val h1
    subst hv2
    clear h1 h2 h3 h4 h5 h6 hB hK hD hys hpl
    go_wp2_with fail
    refine ⟨by simp, .inl ⟨_, _, rfl, run_takeDeferred HKD.out, ?_⟩⟩
    refine ⟨_, results_tmp rfl _ _ _, ⟨_, rfl, ?_⟩, ?_⟩
    · exact H1.out.kept (grownBy_putObj' _ D _) (own_notrow H1.out (fun r e => by cases e; exact ⟨_, HKD.out, rfl⟩))
    · exact (HE5.out.2.1.trans HBl.out).trans (belowK_b (w := w) (by rw [HN.out]; exact Nat.le_refl _) _ D _ _ (by have := HDD.out; have := HE5.out; have := HN.out; omega) HKD.out rfl rfl)
  case stop =>
    rintro D c pre W _ _ h _
    exact h.elim
end Go.Proofs.Ytchkgccnipejhaa

/-
  The places of a receiver's labels, the program's: the other schemes.
-/
namespace Go.Proofs.Ytchkgccnipejhaa
open Go.RowKit Go.Shelf TR
set_option linter.unusedVariables false
set_option linter.unusedSimpArgs false
attribute [local go_sem] Oper.semAt_some

theorem sizeSch : (Try.prog.info? 45).map (·.size) = some 6 := by kernel_rfl
theorem sizeSub : (Try.prog.info? 56).map (·.size) = some 2 := by kernel_rfl
set_option maxRecDepth 100000 in
set_option maxHeartbeats 8000000 in
theorem places_more (Kd E : Int) (d r P Q G : Nat) (w : World) (hd : d < 7) (hr : r < 2 ^ d) (hKd : Kd ≠ 1) :
    Calls Try.prog 79 #[.agg #[.int .u8 Kd, .int .i64 (d : Int), .int .i64 E, .int .u64 (P : Int), .int .u64 (Q : Int), .int .u64 (G : Int)], .int .i64 (r : Int)] w fun e w' => (∃ u, e = .returned u ∧ w'.ownsRow w.heap.size 56 2 u (plc Kd d (2 ^ d + r)).length (prs (plc Kd d (2 ^ d + r)))) ∧ Below w.heap.size w w' := by
  have hKn : (Kd == 1) = false := beq_eq_false_iff_ne.2 hKd
  have HK := Lib.hid hKd
  have HIs := Lib.hid (fun (a b : Int) w => isSubset_any Kd E a b d P Q G w hd)
  obtain ⟨i0, hi, hz0, hz1, hz2⟩ := info_parts infoSub
  have HI := Lib.hid (And.intro hi (And.intro hz0 (And.intro hz1 hz2)))
  have h64 := p64 hd
  have hly := leaf_lv hd hr
  obtain ⟨y, hy⟩ : ∃ y, y = 2 ^ d + r := ⟨_, rfl⟩
  have HLf : Hid (∀ w, Calls Try.prog 87 #[.agg #[.int .u8 Kd, .int .i64 (d : Int), .int .i64 E, .int .u64 (P : Int), .int .u64 (Q : Int), .int .u64 (G : Int)], .int .i64 (r : Int)] w fun e w' => e = .returned (.int .i64 (y : Int)) ∧ Below w.heap.size w w') := Lib.hid (fun w => by
    have h := leaf_any Kd E d r P Q G w hd (by omega)
    rw [← hy] at h; exact h)
  rw [← hy] at hly ⊢
  have hy1 : 1 ≤ y := by omega
  have hy2 : y < 128 := by omega
  have HY := Lib.hid (And.intro hy1 (And.intro hy2 hly))
  have HSub := Lib.hid (fun a b w => subset_any a b w)
  obtain ⟨N, hN⟩ : ∃ N, N = w.heap.size := ⟨_, rfl⟩
  obtain ⟨W3, hW3⟩ : ∃ W3, W3 = ((w.alloc (.cells #[.int .u8 Kd, .int .i64 (d : Int), .int .i64 E, .int .u64 (P : Int), .int .u64 (Q : Int), .int .u64 (G : Int)] 45)).alloc (.cells #[.int .i64 (r : Int)] 3)).alloc (.cells #[.slice none 0 0] 47) := ⟨_, rfl⟩
  have s3 : W3.heap.size = N + 3 := by rw [hW3, hN]; simp
  have b3 : Below N w W3 := by rw [hW3, hN]; exact (((Below.refl _ _).alloc (Nat.le_refl _) _).alloc (by simp) _).alloc (by simp; omega) _
  have eS : Blk W3 N #[.int .u8 Kd, .int .i64 (d : Int), .int .i64 E, .int .u64 (P : Int), .int .u64 (Q : Int), .int .u64 (G : Int)] 45 := by
    rw [hW3, hN]; exact ((Blk.new w _ _).keep (below_alloc _ _)).keep (below_alloc _ _)
  have eR : Box W3 (N + 1) (.int .i64 (r : Int)) 3 := by
    have h := (Box.new (w.alloc (.cells #[.int .u8 Kd, .int .i64 (d : Int), .int .i64 E, .int .u64 (P : Int), .int .u64 (Q : Int), .int .u64 (G : Int)] 45)) (.int .i64 (r : Int)) 3).keep (below_alloc _ (.cells #[.slice none 0 0] 47))
    rw [World.size_alloc, ← hN] at h; rw [hW3]; exact h
  have eL : Box W3 (N + 2) (.slice none 0 0) 47 := by
    have h := Box.new ((w.alloc (.cells #[.int .u8 Kd, .int .i64 (d : Int), .int .i64 E, .int .u64 (P : Int), .int .u64 (Q : Int), .int .u64 (G : Int)] 45)).alloc (.cells #[.int .i64 (r : Int)] 3)) (.slice none 0 0) 47
    rw [World.size_alloc, World.size_alloc, ← hN] at h; rw [hW3]; exact h
  have HE3 := Lib.hid (And.intro s3 (And.intro b3 (And.intro eS (And.intro eR eL))))
  have HN := Lib.hid hN
  have HW3 := Lib.hid hW3
  have HD := Lib.hid (And.intro hd hr)
  rw [← hN]
  have c0 : W3.cell? ⟨N, 0, none⟩ = some (.int .u8 Kd) := eS.cell 0
  have c1 : W3.cell? ⟨N, 1, none⟩ = some (.int .i64 (d : Int)) := eS.cell 1
  have c2 : W3.cell? ⟨N, 2, none⟩ = some (.int .i64 E) := eS.cell 2
  have c3 : W3.cell? ⟨N, 3, none⟩ = some (.int .u64 (P : Int)) := eS.cell 3
  have c4 : W3.cell? ⟨N, 4, none⟩ = some (.int .u64 (Q : Int)) := eS.cell 4
  have c5 : W3.cell? ⟨N, 5, none⟩ = some (.int .u64 (G : Int)) := eS.cell 5
  have c6 : W3.cell? ⟨N + 1, 0, none⟩ = some (.int .i64 (r : Int)) := eR.cell
  have c7 : W3.cell? ⟨N + 2, 0, none⟩ = some (.slice none 0 0) := eL.cell
  have c8 : W3.frozen? ⟨N + 2, 0, none⟩ = false := eL.fr
  rw [hW3, hN] at c0 c1 c2 c3 c4 c5 c6 c7 c8
  clear hN hW3 s3 b3 eS eR eL hi hz0 hz1 hz2 h64 hly hy hd hr
  refine (callsIn_wide (n := 8)).1 (callsIn_of_wp_marks Try.func79 rfl trivial ?_ rfl)
  simp only [Try.ntmps79, List.size_toArray, List.length_cons, List.length_nil, Nat.reduceAdd, Nat.reduceSub, Array.replicate_succ, Array.replicate_zero, List.push_toArray, List.append_toArray, List.nil_append, List.cons_append]
  refine wpIn_wide.2 ?_
  go_wp2_with fail
  rw [← HW3.out, ← HN.out]
  simp only [Nat.add_assoc, Nat.reduceAdd]
  obtain ⟨bq, hbq⟩ : ∃ bq, bq = (Kd != 1) := ⟨_, rfl⟩
  rw [← hbq]
  clear hbq hKn hKd c0 c1 c2 c3 c4 c5 c6 c7 c8
  have HO : Hid (W3.ownsRow N 56 2 (Value.slice none 0 0) 0 []) := Lib.hid (World.ownsRow_nil _ _ _ _)
  have HBL := Lib.hid HE3.out.2.2.2.2
  have HNW : Hid (N ≤ W3.heap.size) := Lib.hid (by rw [HE3.out.1]; omega)
  refine wp_region_inv (by kernel_rfl) (by kernel_rfl) (fun l a w' => ∃ (v2 : Value) (gb : Nat) (w1 : World), a = { tmps := #[Value.agg #[.int .u8 Kd, .int .i64 (d : Int), .int .i64 E, .int .u64 (P : Int), .int .u64 (Q : Int), .int .u64 (G : Int)], Value.int .i64 (r : Int), Value.pointer (some ⟨N, 0, none⟩), Value.pointer (some ⟨N + 1, 0, none⟩), Value.slice none 0 0, Value.pointer (some ⟨N + 2, 0, none⟩), undef, undef, undef, Value.pointer (some ⟨N, 0, none⟩), Value.int .u8 Kd, Value.bool bq, bif l 0 then (Value.slice none 0 0) else undef, bif l 1 then Value.agg #[.int .i64 1, .int .i64 0] else undef, bif l 2 then Value.slice (some ⟨gb, 0, none⟩) 1 1 else undef, bif l 3 then v2 else undef, undef, undef, undef, undef, undef, undef, undef, undef, undef, undef, undef, undef, undef, undef, undef, undef, undef, undef, undef, undef, undef, undef, undef, undef, undef, undef, undef, undef, undef, undef, undef, undef, undef], defers := [] } ∧ World.grownBy W3 w1 (Value.ownBlock (Value.slice none 0 0)) ∧ (l 3 = false → w1.ownsRow N 56 2 (Value.slice none 0 0) 0 []) ∧ (l 3 = true → w1.ownsRow N 56 2 v2 (0 + 1) ([] ++ [Value.int .i64 1, Value.int .i64 0])) ∧ (l 2 = true → l 3 = false → Blk w1 gb #[.int .i64 1, .int .i64 0] 56) ∧ w' = (bif l 4 then w1.setCell ⟨N + 2, 0, none⟩ v2 else w1) ∧ (l 4 = true → l 3 = true) ∧ (l 3 = true → (l 0 && l 2) = true) ∧ (l 2 = true → l 1 = true)) ⟨(Value.slice none 0 0), 0, World.drew _, rfl, ⟨rfl, rfl, rfl, Nat.le_refl _, fun _ _ _ => rfl⟩, (fun _ => HO.out), (fun h => by cases h), (fun h => by cases h), rfl, (fun h => by cases h), (fun h => by cases h), (fun h => by cases h)⟩ ?_ ?_
  · rintro l a w' i ⟨v2, gb, w1, rfl, hg, c1, c2, cb, hw, o5, o4, o3⟩ hi hli hpre
    have hi2 : i < 5 := hi
    have hcase : i = 0 ∨ i = 1 ∨ i = 2 ∨ i = 3 ∨ i = 4 := by omega
    clear hi hi2
    rcases hcase with rfl | rfl | rfl | rfl | rfl
    · -- 0
      refine wpOp_step rfl (fun K hK => ?_)
      have n4 : l 3 = false := by
        cases h : l 3
        · rfl
        · have h4 := o4 h; simp only [Bool.and_eq_true] at h4; rw [h4.1] at hli; cases hli
      have n5 : l 4 = false := by
        cases h : l 4
        · rfl
        · rw [o5 h] at n4; cases n4
      simp only [n5, cond_false] at hw
      subst hw
      simp only [n4, n5, cond_true, cond_false]
      clear hpre
      rw [if_pos (by rfl)]
      have z1 := (Box.grown HBL.out hg (HBL.out.ty.apart HO.out (by decide))).cell
      go_simp
      exact hK _ _ ⟨v2, gb, w', by simp [upd, Act.put, n4, n5], hg, (fun e => c1 (by simpa [upd] using e)), (fun e => c2 (by simpa [upd] using e)), (fun e1 e2 => cb (by simpa [upd] using e1) (by simpa [upd] using e2)), by simp [upd, n5], (by first | (simp [upd, n4, n5]; done) | simpa [upd, n4, n5] using o5), (by first | (simp [upd, n4, n5]; done) | simpa [upd, n4, n5] using o4), (by first | (simp [upd, n4, n5]; done) | simpa [upd, n4, n5] using o3)⟩
    · -- 1
      refine wpOp_step rfl (fun K hK => ?_)
      have n4 : l 3 = false := by
        cases h : l 3
        · rfl
        · have h4 := o4 h; simp only [Bool.and_eq_true] at h4; rw [o3 h4.2] at hli; cases hli
      have n5 : l 4 = false := by
        cases h : l 4
        · rfl
        · rw [o5 h] at n4; cases n4
      have n3 : l 2 = false := by
        cases h : l 2
        · rfl
        · rw [o3 h] at hli; cases hli
      simp only [n5, cond_false] at hw
      subst hw
      simp only [n3, n4, n5, cond_true, cond_false]
      clear hpre
      rw [if_pos (by rfl)]
      go_simp
      refine (HSub.out _ _ _).mono ?_
      rintro e w5 ⟨rfl, hb5⟩
      exact hK _ _ ⟨v2, gb, w5, by simp [upd, Act.put, n3, n4, n5], grownBy_below hg hb5, (fun _ => own_below (c1 n4) hb5), (fun e => absurd e (by simp [upd, n4])), (fun e => absurd e (by simp [upd, n3])), by simp [upd, n5], (by first | (simp [upd, n3, n4, n5]; done) | simpa [upd, n3, n4, n5] using o5), (by first | (simp [upd, n3, n4, n5]; done) | simpa [upd, n3, n4, n5] using o4), (by first | (simp [upd, n3, n4, n5]; done) | simpa [upd, n3, n4, n5] using o3)⟩
    · -- 2
      have p1 : l 1 = true := hpre _ rfl ⟨1, .data⟩ (by simp) rfl
      refine wpOp_step rfl (fun K hK => ?_)
      have n4 : l 3 = false := by
        cases h : l 3
        · rfl
        · have h4 := o4 h; simp only [Bool.and_eq_true] at h4; rw [h4.2] at hli; cases hli
      have n5 : l 4 = false := by
        cases h : l 4
        · rfl
        · rw [o5 h] at n4; cases n4
      simp only [n5, cond_false] at hw
      subst hw
      simp only [p1, n4, n5, cond_true, cond_false]
      clear hpre
      rw [if_pos (by rfl)]
      have hA := below_alloc w' (.cells #[.int .i64 1, .int .i64 0] 56)
      go_simp
      exact hK _ _ ⟨v2, w'.heap.size, _, by simp [upd, Act.put, p1, n4, n5], grownBy_below hg hA, (fun _ => own_below (c1 n4) hA), (fun e => absurd e (by simp [upd, n4])), (fun _ _ => Blk.new w' _ 56), by simp [upd, n5], (by first | (simp [upd, p1, n4, n5]; done) | simpa [upd, p1, n4, n5] using o5), (by first | (simp [upd, p1, n4, n5]; done) | simpa [upd, p1, n4, n5] using o4), (by first | (simp [upd, p1, n4, n5]; done) | simpa [upd, p1, n4, n5] using o3)⟩
    · -- 3
      have p0 : l 0 = true := hpre _ rfl ⟨0, .data⟩ (by simp) rfl
      have p2 : l 2 = true := hpre _ rfl ⟨2, .data⟩ (by simp) rfl
      refine wpOp_step rfl (fun K hK => ?_)
      have n4 : l 3 = false := hli
      have n5 : l 4 = false := by
        cases h : l 4
        · rfl
        · rw [o5 h] at n4; cases n4
      have p1 := o3 p2
      simp only [n5, cond_false] at hw
      subst hw
      simp only [p0, p2, p1, n4, n5, cond_true, cond_false]
      clear hpre
      rw [if_pos (by rfl)]
      have hO := c1 n4
      have hBk := cb p2 n4
      refine wp_append_own _ _ _ 47 rfl (N) 56 i0 _ 2 16 Try.underlying47 HI.out.1 HI.out.2.1 HI.out.2.2.1 HI.out.2.2.2 rfl (by omega) (Value.slice none 0 0) 0 [] rfl hO ⟨gb, 0, none⟩ 1 1 [Value.int .i64 1, Value.int .i64 0] rfl rfl (fun j u hu => by rw [Addr.add_mid, Nat.zero_add, hBk.cell j]; simpa using hu) (by intro u hu; simp at hu; rcases hu with rfl | rfl <;> rfl) (by unfold maxLen; omega) (by omega) (Nat.le_trans HNW.out hg.size) ?_
      intro v1 w6 hown6 hg6 _
      exact hK _ _ ⟨v1, gb, w6, by simp [upd, Act.put, p0, p2, p1, n4, n5], grownBy_trans hg hg6, (fun e => absurd e (by simp [upd])), (fun _ => hown6), (fun _ e => absurd e (by simp [upd])), by simp [upd, n5], (by first | (simp [upd, p0, p2, p1, n4, n5]; done) | simpa [upd, p0, p2, p1, n4, n5] using o5), (by first | (simp [upd, p0, p2, p1, n4, n5]; done) | simpa [upd, p0, p2, p1, n4, n5] using o4), (by first | (simp [upd, p0, p2, p1, n4, n5]; done) | simpa [upd, p0, p2, p1, n4, n5] using o3)⟩
    · -- 4
      have p3 : l 3 = true := hpre _ rfl ⟨3, .data⟩ (by simp) rfl
      have p0 : l 0 = true := hpre _ rfl ⟨0, .phase⟩ (by simp) rfl
      have p1 : l 1 = true := hpre _ rfl ⟨1, .phase⟩ (by simp) rfl
      have p2 : l 2 = true := hpre _ rfl ⟨2, .phase⟩ (by simp) rfl
      refine wpOp_step rfl (fun K hK => ?_)
      have n5 : l 4 = false := hli
      simp only [n5, cond_false] at hw
      subst hw
      simp only [p3, p0, p1, p2, n5, cond_true, cond_false]
      clear hpre
      rw [if_pos (by rfl)]
      have hS3 := Box.grown HBL.out hg (HBL.out.ty.apart HO.out (by decide))
      have hO := c2 p3
      have z1 := hS3.cell
      have z2 := hS3.fr
      obtain ⟨A2, k2, hv2⟩ := own_val hO
      subst hv2
      go_simp
      exact hK _ _ ⟨_, gb, w', by simp [upd, Act.put, p3, p0, p1, p2], hg, (fun e => absurd e (by simp [upd, p3])), (fun _ => hO), (fun _ e => absurd e (by simp [upd, p3])), by simp [upd], (by first | (simp [upd, p3, p0, p1, p2]; done) | simpa [upd, p3, p0, p1, p2] using o5), (by first | (simp [upd, p3, p0, p1, p2]; done) | simpa [upd, p3, p0, p1, p2] using o4), (by first | (simp [upd, p3, p0, p1, p2]; done) | simpa [upd, p3, p0, p1, p2] using o3)⟩
  · rintro lx ax w9 hall ⟨v2, gb, w1, rfl, hg, _, c2, _, hw, _, _, _⟩
    rw [hall 4 (by decide), cond_true] at hw
    subst hw
    simp only [hall 0 (by decide), hall 1 (by decide), hall 2 (by decide), hall 3 (by decide), cond_true]
    have H9 := Lib.hid (app_done HBL.out (by decide) HO.out hg (c2 (hall 3 (by decide))) HNW.out (by omega))
    clear hall c2 hg
    obtain ⟨W4, hW4⟩ : ∃ W4, W4 = w1.setCell ⟨N + 2, 0, none⟩ v2 := ⟨_, rfl⟩
    rw [← hW4] at H9
    rw [← hW4]
    clear hW4 HO HBL HNW
    obtain ⟨gb0, hgb0⟩ : ∃ gb0, gb0 = gb := ⟨_, rfl⟩
    obtain ⟨v0, hv0⟩ : ∃ v0, v0 = v2 := ⟨_, rfl⟩
    rw [← hv0] at H9
    rw [← hgb0, ← hv0]
    clear hgb0 hv0
    obtain ⟨k1, k2, _, k4, k5⟩ := H9.out
    have gS := k5 _ _ _ (by omega) (by decide) HE3.out.2.2.1
    have gR := k5 _ _ _ (by omega) (by decide) HE3.out.2.2.2.1.blk
    have g3 : N + 3 ≤ W4.heap.size := by have := k4.size; rw [HE3.out.1] at this; exact this
    have HE4 := Lib.hid (And.intro g3 (And.intro (HE3.out.2.1.trans k4) (And.intro gS (And.intro gR.box (And.intro k1 k2)))))
    have c0 : W4.cell? ⟨N, 0, none⟩ = some (.int .u8 Kd) := gS.cell 0
    have c1 : W4.cell? ⟨N, 1, none⟩ = some (.int .i64 (d : Int)) := gS.cell 1
    have c2 : W4.cell? ⟨N, 2, none⟩ = some (.int .i64 E) := gS.cell 2
    have c3 : W4.cell? ⟨N, 3, none⟩ = some (.int .u64 (P : Int)) := gS.cell 3
    have c4 : W4.cell? ⟨N, 4, none⟩ = some (.int .u64 (Q : Int)) := gS.cell 4
    have c5 : W4.cell? ⟨N, 5, none⟩ = some (.int .u64 (G : Int)) := gS.cell 5
    have c6 : W4.cell? ⟨N + 1, 0, none⟩ = some (.int .i64 (r : Int)) := gR.box.cell
    clear H9 k1 k2 k4 k5 gS gR g3
    go_wp2_with fail
    refine (HLf.out _).mono ?_
    rintro e w4 ⟨rfl, hb4⟩
    have HB4 := Lib.hid hb4
    clear hb4 c0 c1 c2 c3 c4 c5 c6
    go_wp2_with fail
    refine (path_any _ _ _).mono ?_
    rintro e w5 ⟨rfl, rfl⟩
    obtain ⟨C, hC⟩ : ∃ C, C = w4.heap.size := ⟨_, rfl⟩
    rw [← hC]
    obtain ⟨W5, hW5⟩ : ∃ W5, W5 = (w4.alloc (.cells #[.int .i64 (y : Int)] 113)).alloc (.cells #[.int .i64 0] 3) := ⟨_, rfl⟩
    rw [← hW5]
    have hCN : N + 3 ≤ C := by rw [hC]; exact Nat.le_trans HE4.out.1 HB4.out.size
    have s5 : W5.heap.size = C + 2 := by rw [hW5, hC]; simp
    have b45 : Below W4.heap.size W4 W5 := HB4.out.trans (by rw [hW5]; exact ((Below.refl _ _).alloc HB4.out.size _).alloc (by simp; have := HB4.out.size; omega) _)
    have b05 : Below N w W5 := HE4.out.2.1.trans (b45.mono (by have := HE4.out.1; omega))
    have fS := HE4.out.2.2.1.keep b45
    have fR := HE4.out.2.2.2.1.keep b45
    have fL := HE4.out.2.2.2.2.1.keep b45
    have fO := own_below HE4.out.2.2.2.2.2 b45
    have fC : Box W5 C (.int .i64 (y : Int)) 113 := by rw [hW5, hC]; exact (Box.new w4 (.int .i64 (y : Int)) 113).keep (below_alloc _ _)
    have fC1 : Box W5 (C + 1) (.int .i64 0) 3 := by
      have h := Box.new (w4.alloc (.cells #[.int .i64 (y : Int)] 113)) (.int .i64 0) 3
      rw [World.size_alloc, ← hC] at h; rw [hW5]; exact h
    have HBS := Lib.hid (path_lev 7 (by omega) (C + 1) C y d 0 W5 HY.out.1 (by have := HY.out.2.1; omega) HY.out.2.2.symm (by omega) fC.cell fC1.cell)
    have HE5 := Lib.hid (And.intro s5 (And.intro b05 hCN))
    have F5 := Lib.hid (And.intro fS (And.intro fR (And.intro fL (And.intro fC (And.intro fC1 fO)))))
    clear hW5 hC s5 b45 b05 fS fR fL fC fC1 hCN fO
    go_wp2_with fail
    refine (wpIn_wide (n := 8)).1 ?_
    have hp0 : plf Kd d y (([] : List (Lev d)).map (·.1)) = [(1, 0)] := by unfold plf pre0; rw [if_neg HK.out]; rfl
    have hI0 : (∃ v, W5.ownsRow N 56 2 v (plf Kd d y (([] : List (Lev d)).map (·.1))).length (prs (plf Kd d y (([] : List (Lev d)).map (·.1)))) ∧ Box W5 (N + 2) v 47 ∧ Blk W5 N #[.int .u8 Kd, .int .i64 (d : Int), .int .i64 E, .int .u64 (P : Int), .int .u64 (Q : Int), .int .u64 (G : Int)] 45 ∧ Box W5 (N + 1) (.int .i64 (r : Int)) 3 ∧ Box W5 C (.int .i64 (y : Int)) 113 ∧ Box W5 (C + 1) (.int .i64 0) 3) ∧ Below N W5 W5 :=
      ⟨⟨v0, by rw [hp0]; exact F5.out.2.2.2.2.2, F5.out.2.2.1, F5.out.1, F5.out.2.1, F5.out.2.2.2.1, F5.out.2.2.2.2.1⟩, Below.refl _ _⟩
    clear hp0
    refine wpIn_rangeFunc_ownH rfl (n := 8) (by omega) (gf := 135) (lb := #[.pointer (some ⟨C + 1, 0, none⟩), .pointer (some ⟨C, 0, none⟩)]) rfl trivial (enters_of Try.func135 (by kernel_rfl) rfl)
      HBS.out (fun h k => ⟨k.1.trans h.1, k.2.trans h.2⟩) (fun W l o o' hl _ _ _ => ⟨World.putObj_heap_other (by rw [HE5.out.1] at hl; omega), World.putObj_heap_other (by rw [HE5.out.1] at hl; omega)⟩) (Below.refl _ _) (fun _ => rfl)
      (fun pre W => (∃ v, W.ownsRow N 56 2 v (plf Kd d y (pre.map (·.1))).length (prs (plf Kd d y (pre.map (·.1)))) ∧ Box W (N + 2) v 47 ∧ Blk W N #[.int .u8 Kd, .int .i64 (d : Int), .int .i64 E, .int .u64 (P : Int), .int .u64 (Q : Int), .int .u64 (G : Int)] 45 ∧ Box W (N + 1) (.int .i64 (r : Int)) 3 ∧ Box W C (.int .i64 (y : Int)) 113 ∧ Box W (C + 1) (.int .i64 0) 3) ∧ Below N W5 W)
      (fun _ _ _ => False)
      (OwnFrom.and (Own.from (fun s A B' row hs hg hr => by
        obtain ⟨v, h1, h2, h3, h4, h5, h6⟩ := hs
        exact ⟨v, h1.kept hg (own_notrow h1 hr), h2.kept hg hr, h3.kept hg hr, h4.kept hg hr, h5.kept hg hr, h6.kept hg hr⟩) _) (ownFrom_below (by rw [HE5.out.1]; have := HE5.out.2.2; omega) (by rw [HE5.out.1]; have := HE5.out.2.2; omega)))
      (fun _ _ _ _ _ hs _ _ => hs)
      hI0
      (fun x a' W => ∃ Bx, C + 1 < Bx ∧ Box W Bx (.int .i64 (nat_ y x.1 : Int)) 113 ∧ a' = { tmps := #[Value.agg #[.int .u8 Kd, .int .i64 (d : Int), .int .i64 E, .int .u64 (P : Int), .int .u64 (Q : Int), .int .u64 (G : Int)], Value.int .i64 (r : Int), Value.pointer (some ⟨N, 0, none⟩), Value.pointer (some ⟨N + 1, 0, none⟩), Value.slice none 0 0, Value.pointer (some ⟨N + 2, 0, none⟩), Value.pointer (some ⟨Bx, 0, none⟩), undef, undef, Value.pointer (some ⟨N, 0, none⟩), Value.int .u8 Kd, Value.bool bq, Value.slice none 0 0, Value.agg #[.int .i64 1, .int .i64 0], Value.slice (some ⟨gb0, 0, none⟩) 1 1, v0, Value.agg #[.int .u8 Kd, .int .i64 (d : Int), .int .i64 E, .int .u64 (P : Int), .int .u64 (Q : Int), .int .u64 (G : Int)], Value.int .i64 (r : Int), Value.int .i64 (y : Int), Value.func (.func 135) #[] #[.pointer (some ⟨C + 1, 0, none⟩), .pointer (some ⟨C, 0, none⟩)], Value.int .i64 (nat_ y x.1 : Int), undef, undef, undef, undef, undef, undef, undef, undef, undef, undef, undef, undef, undef, undef, undef, undef, undef, undef, undef, undef, undef, undef, undef, undef, undef, undef, undef, undef], defers := [] })
      (fun x a' _ X Y row hs hg hr => by obtain ⟨Bx, h1, h2, h3⟩ := hs; exact ⟨Bx, h1, h2.kept hg (fun r e => (hr r e).2), h3⟩)
      ?assign ?body ?done ?stop
    case assign =>
      rintro l pre x W K ⟨⟨v, h1, h2, h3, h4, h5, h6⟩, hB⟩ hK
      unfold lenc
      gi_wp2
      have hA := below_alloc W (.cells #[.int .i64 (nat_ y x.1 : Int)] 113)
      exact hK _ _ ((KeepsOthers.alloc _ _).from _) ⟨(h6.keep hA).trans h6.symm, (h5.keep hA).trans h5.symm⟩ ⟨⟨v, own_below h1 hA, h2.keep hA, h3.keep hA, h4.keep hA, h5.keep hA, h6.keep hA⟩, hB.trans (hA.mono (by have := hB.size; rw [HE5.out.1] at this; have := HE5.out.2.2; omega))⟩ ⟨W.heap.size, h6.lt, Box.new W _ _, rfl⟩
    case body =>
      rintro l pre x a' W hl ⟨r0, hr0⟩ ⟨⟨v, h1, h2, h3, h4, h5, h6⟩, hB⟩ ⟨Bx, hBx, bX, rfl⟩ hlt
      have hsn := plf_snoc Kd d y (pre.map (·.1)) x.1
      have hln := plf_len Kd d y (by rw [HY.out.2.2]; have := HD.out.1; omega) (pre.map (·.1))
      have hrw : rowl Kd d y x.1 = rls Kd d y x.1 (lvl (x.1 + 1) (d - x.1)) := by unfold rowl; rw [if_neg HK.out, rls_rin, HY.out.2.2]
      obtain ⟨j, hj⟩ : ∃ j, j = x.1 := ⟨_, rfl⟩
      have hjd : j ≤ d := by rw [hj]; exact x.2
      rw [← hj] at hrw hsn bX ⊢
      rw [hrw] at hsn
      have hno := nat_ok y j HY.out.1 (by have := HY.out.2.1; omega) (by rw [HY.out.2.2]; exact hjd)
      have hzy : nat_ y j < 256 := by have := HY.out.2.1; omega
      have HLz : Hid (∀ w, Calls Try.prog 92 #[.int .i64 (nat_ y j : Int)] w fun e w' => e = .returned (.int .i64 (j : Int)) ∧ w = w') := Lib.hid (fun w => by
        have h := level_any (nat_ y j) w hno.1 hzy
        rw [hno.2.2] at h; exact h)
      obtain ⟨ps, hps⟩ : ∃ ps, ps = plf Kd d y (pre.map (·.1)) := ⟨_, rfl⟩
      rw [← hps] at hsn h1 hln
      have HFin : Hid (plf Kd d y ((pre ++ [x]).map (·.1)) = ps ++ rls Kd d y j (lvl (j + 1) (d - j))) := Lib.hid (by rw [List.map_append, List.map_cons, List.map_nil, ← hj]; exact hsn)
      have hps80 : ps.length ≤ 64 := by rw [List.length_map] at hln; omega
      have HLS := Lib.hid (fun ls => rls_len Kd d y j ls)
      have HLSn := Lib.hid (fun ls m => rls_snoc Kd d y j ls m)
      obtain ⟨z, hz⟩ : ∃ z, z = nat_ y j := ⟨_, rfl⟩
      rw [← hz] at bX HLz HLSn hzy ⊢
      have HO := Lib.hid h1
      have HBL := Lib.hid h2
      have HFS := Lib.hid h3
      have HFR := Lib.hid h4
      have HFC := Lib.hid (And.intro h5 h6)
      have HBW := Lib.hid hB
      have HBX := Lib.hid bX
      have HNW : Hid (C + 2 ≤ W.heap.size ∧ N + 3 ≤ C) := Lib.hid (by have := hB.size; rw [HE5.out.1] at this; exact ⟨this, HE5.out.2.2⟩)
      have HR0 := Lib.hid hr0
      have HZ := Lib.hid (And.intro hzy hjd)
      have c0 : W.cell? ⟨N, 0, none⟩ = some (.int .u8 Kd) := h3.cell 0
      have HBxC := Lib.hid hBx
      have hj8 : j ≤ 7 := by have := HD.out.1; omega
      have hKn : (Kd == 1) = false := beq_eq_false_iff_ne.2 HK.out
      clear h1 h2 h3 h4 h5 h6 hB bX hsn hln hrw hps hz hlt hBx hno hr0 hzy hjd hj
      gi_wp2_with fail
      clear c0 hKn
      refine wpIn_round_inv _ _ (by kernel_rfl) (by rintro ⟨_, _, h⟩; exact h) (by kernel_rfl) (by kernel_rfl) (fun l a w' => ∃ (D : Nat), a = { tmps := #[Value.agg #[.int .u8 Kd, .int .i64 (d : Int), .int .i64 E, .int .u64 (P : Int), .int .u64 (Q : Int), .int .u64 (G : Int)], Value.int .i64 (r : Int), Value.pointer (some ⟨N, 0, none⟩), Value.pointer (some ⟨N + 1, 0, none⟩), Value.slice none 0 0, Value.pointer (some ⟨N + 2, 0, none⟩), Value.pointer (some ⟨Bx, 0, none⟩), undef, undef, Value.pointer (some ⟨N, 0, none⟩), Value.int .u8 Kd, Value.bool bq, Value.slice none 0 0, Value.agg #[.int .i64 1, .int .i64 0], Value.slice (some ⟨gb0, 0, none⟩) 1 1, v0, Value.agg #[.int .u8 Kd, .int .i64 (d : Int), .int .i64 E, .int .u64 (P : Int), .int .u64 (Q : Int), .int .u64 (G : Int)], Value.int .i64 (r : Int), Value.int .i64 (y : Int), Value.func (.func 135) #[] #[.pointer (some ⟨C + 1, 0, none⟩), .pointer (some ⟨C, 0, none⟩)], Value.int .i64 (z : Int), Value.pointer (some ⟨N, 0, none⟩), Value.int .u8 Kd, Value.bool false, undef, undef, undef, undef, undef, bif l 0 then Value.agg #[.int .u8 Kd, .int .i64 (d : Int), .int .i64 E, .int .u64 (P : Int), .int .u64 (Q : Int), .int .u64 (G : Int)] else undef, bif l 1 then Value.int .i64 (r : Int) else undef, bif l 2 then Value.int .i64 (y : Int) else undef, bif l 3 then Value.int .i64 (z : Int) else undef, bif l 4 then Value.int .i64 (j : Int) else undef, bif l 5 then Value.int .i64 ((j : Int) + 1) else undef, bif l 6 then Value.func (.func 135) #[] #[.pointer (some ⟨D + 1, 0, none⟩), .pointer (some ⟨D, 0, none⟩)] else undef, undef, undef, undef, undef, undef, undef, undef, undef, undef, undef, undef, undef, undef], defers := [] } ∧ Below W.heap.size W w' ∧ (l 6 = true → W.heap.size ≤ D ∧ Box w' D (.int .i64 (y : Int)) 113 ∧ Box w' (D + 1) (.int .i64 ((j : Int) + 1)) 3 ∧ w'.heap.size = D + 2) ∧ (l 6 = true → (l 2 && l 5) = true) ∧ (l 5 = true → l 4 = true) ∧ (l 4 = true → (l 3 && l 2) = true) ∧ (l 2 = true → (l 0 && l 1) = true)) ⟨0, rfl, (Below.refl _ _).drew, (fun h => by cases h), (fun h => by cases h), (fun h => by cases h), (fun h => by cases h), (fun h => by cases h)⟩ ?_ ?_
      · rintro l a w' i ⟨D, rfl, hB, hF, o6, o5, o4, o2⟩ hi hli hpre
        have hi2 : i < 7 := hi
        have hcase : i = 0 ∨ i = 1 ∨ i = 2 ∨ i = 3 ∨ i = 4 ∨ i = 5 ∨ i = 6 := by omega
        clear hi hi2
        have n6 : l 6 = false := by
          cases h : l 6
          · rfl
          · exfalso
            have h6 := o6 h
            simp only [Bool.and_eq_true] at h6
            have h4 := o5 h6.2
            have h3 := o4 h4
            simp only [Bool.and_eq_true] at h3
            have h2 := o2 h3.2
            simp only [Bool.and_eq_true] at h2
            rcases hcase with rfl | rfl | rfl | rfl | rfl | rfl | rfl <;> simp_all
        clear hF
        rcases hcase with rfl | rfl | rfl | rfl | rfl | rfl | rfl
        · -- 0
          refine wpOp_step rfl (fun K hK => ?_)
          simp only [n6, cond_false]
          clear hpre
          rw [if_pos (by rfl)]
          refine wp_load_mid 45 _ rfl _ 0 rfl _ _ (HFS.out.keep hB).range Try.underlying45 rfl sizeSch ?_
          exact hK _ _ ⟨D, by simp [upd, Act.put, n6], hB, (fun e => absurd e (by simp [upd, n6])), (by first | (simp [upd, n6]; done) | (intro e; have h := o6 (by simpa [upd] using e); simp_all [upd]; done) | simpa [upd, n6] using o6), (by first | (simp [upd, n6]; done) | (intro e; have h := o5 (by simpa [upd] using e); simp_all [upd]; done) | simpa [upd, n6] using o5), (by first | (simp [upd, n6]; done) | (intro e; have h := o4 (by simpa [upd] using e); simp_all [upd]; done) | simpa [upd, n6] using o4), (by first | (simp [upd, n6]; done) | (intro e; have h := o2 (by simpa [upd] using e); simp_all [upd]; done) | simpa [upd, n6] using o2)⟩
        · -- 1
          refine wpOp_step rfl (fun K hK => ?_)
          simp only [n6, cond_false]
          clear hpre
          rw [if_pos (by rfl)]
          have z1 := (HFR.out.keep hB).cell
          go_simp
          exact hK _ _ ⟨D, by simp [upd, Act.put, n6], hB, (fun e => absurd e (by simp [upd, n6])), (by first | (simp [upd, n6]; done) | (intro e; have h := o6 (by simpa [upd] using e); simp_all [upd]; done) | simpa [upd, n6] using o6), (by first | (simp [upd, n6]; done) | (intro e; have h := o5 (by simpa [upd] using e); simp_all [upd]; done) | simpa [upd, n6] using o5), (by first | (simp [upd, n6]; done) | (intro e; have h := o4 (by simpa [upd] using e); simp_all [upd]; done) | simpa [upd, n6] using o4), (by first | (simp [upd, n6]; done) | (intro e; have h := o2 (by simpa [upd] using e); simp_all [upd]; done) | simpa [upd, n6] using o2)⟩
        · -- 2
          have p0 : l 0 = true := hpre _ rfl ⟨0, .data⟩ (by simp) rfl
          have p1 : l 1 = true := hpre _ rfl ⟨1, .data⟩ (by simp) rfl
          refine wpOp_step rfl (fun K hK => ?_)
          simp only [p0, p1, n6, cond_true, cond_false]
          clear hpre
          rw [if_pos (by rfl)]
          go_simp
          refine (HLf.out _).mono ?_
          rintro e w5 ⟨rfl, hb5⟩
          exact hK _ _ ⟨D, by simp [upd, Act.put, p0, p1, n6], hB.trans (hb5.mono hB.size), (fun e => absurd e (by simp [upd, n6])), (by first | (simp [upd, p0, p1, n6]; done) | (intro e; have h := o6 (by simpa [upd] using e); simp_all [upd]; done) | simpa [upd, p0, p1, n6] using o6), (by first | (simp [upd, p0, p1, n6]; done) | (intro e; have h := o5 (by simpa [upd] using e); simp_all [upd]; done) | simpa [upd, p0, p1, n6] using o5), (by first | (simp [upd, p0, p1, n6]; done) | (intro e; have h := o4 (by simpa [upd] using e); simp_all [upd]; done) | simpa [upd, p0, p1, n6] using o4), (by first | (simp [upd, p0, p1, n6]; done) | (intro e; have h := o2 (by simpa [upd] using e); simp_all [upd]; done) | simpa [upd, p0, p1, n6] using o2)⟩
        · -- 3
          refine wpOp_step rfl (fun K hK => ?_)
          simp only [n6, cond_false]
          clear hpre
          rw [if_pos (by rfl)]
          have z1 := (HBX.out.keep hB).cell
          go_simp
          exact hK _ _ ⟨D, by simp [upd, Act.put, n6], hB, (fun e => absurd e (by simp [upd, n6])), (by first | (simp [upd, n6]; done) | (intro e; have h := o6 (by simpa [upd] using e); simp_all [upd]; done) | simpa [upd, n6] using o6), (by first | (simp [upd, n6]; done) | (intro e; have h := o5 (by simpa [upd] using e); simp_all [upd]; done) | simpa [upd, n6] using o5), (by first | (simp [upd, n6]; done) | (intro e; have h := o4 (by simpa [upd] using e); simp_all [upd]; done) | simpa [upd, n6] using o4), (by first | (simp [upd, n6]; done) | (intro e; have h := o2 (by simpa [upd] using e); simp_all [upd]; done) | simpa [upd, n6] using o2)⟩
        · -- 4
          have p3 : l 3 = true := hpre _ rfl ⟨3, .data⟩ (by simp) rfl
          have p2 : l 2 = true := hpre _ rfl ⟨2, .chain⟩ (by simp) rfl
          have p0 := o2 p2
          simp only [Bool.and_eq_true] at p0
          have p1 := p0.2
          replace p0 := p0.1
          refine wpOp_step rfl (fun K hK => ?_)
          simp only [p3, p2, p0, p1, n6, cond_true, cond_false]
          clear hpre
          rw [if_pos (by rfl)]
          go_simp
          refine (HLz.out _).mono ?_
          rintro e w5 ⟨rfl, rfl⟩
          exact hK _ _ ⟨D, by simp [upd, Act.put, p3, p2, p0, p1, n6], hB, (fun e => absurd e (by simp [upd, n6])), (by first | (simp [upd, p3, p2, p0, p1, n6]; done) | (intro e; have h := o6 (by simpa [upd] using e); simp_all [upd]; done) | simpa [upd, p3, p2, p0, p1, n6] using o6), (by first | (simp [upd, p3, p2, p0, p1, n6]; done) | (intro e; have h := o5 (by simpa [upd] using e); simp_all [upd]; done) | simpa [upd, p3, p2, p0, p1, n6] using o5), (by first | (simp [upd, p3, p2, p0, p1, n6]; done) | (intro e; have h := o4 (by simpa [upd] using e); simp_all [upd]; done) | simpa [upd, p3, p2, p0, p1, n6] using o4), (by first | (simp [upd, p3, p2, p0, p1, n6]; done) | (intro e; have h := o2 (by simpa [upd] using e); simp_all [upd]; done) | simpa [upd, p3, p2, p0, p1, n6] using o2)⟩
        · -- 5
          have p4 : l 4 = true := hpre _ rfl ⟨4, .data⟩ (by simp) rfl
          have p3 := o4 p4
          simp only [Bool.and_eq_true] at p3
          have p2 := p3.2
          replace p3 := p3.1
          have p0 := o2 p2
          simp only [Bool.and_eq_true] at p0
          have p1 := p0.2
          replace p0 := p0.1
          refine wpOp_step rfl (fun K hK => ?_)
          simp only [p4, p3, p2, p0, p1, n6, cond_true, cond_false]
          clear hpre
          rw [if_pos (by rfl)]
          have zj : IntKind.i64.wrap ((j : Int) + 1) = (j : Int) + 1 := IntWalk.i64_in _ (by omega)
          go_simp
          exact hK _ _ ⟨D, by simp [upd, Act.put, p4, p3, p2, p0, p1, zj, n6], hB, (fun e => absurd e (by simp [upd, n6])), (by first | (simp [upd, p4, p3, p2, p0, p1, zj, n6]; done) | (intro e; have h := o6 (by simpa [upd] using e); simp_all [upd]; done) | simpa [upd, p4, p3, p2, p0, p1, zj, n6] using o6), (by first | (simp [upd, p4, p3, p2, p0, p1, zj, n6]; done) | (intro e; have h := o5 (by simpa [upd] using e); simp_all [upd]; done) | simpa [upd, p4, p3, p2, p0, p1, zj, n6] using o5), (by first | (simp [upd, p4, p3, p2, p0, p1, zj, n6]; done) | (intro e; have h := o4 (by simpa [upd] using e); simp_all [upd]; done) | simpa [upd, p4, p3, p2, p0, p1, zj, n6] using o4), (by first | (simp [upd, p4, p3, p2, p0, p1, zj, n6]; done) | (intro e; have h := o2 (by simpa [upd] using e); simp_all [upd]; done) | simpa [upd, p4, p3, p2, p0, p1, zj, n6] using o2)⟩
        · -- 6
          have p2 : l 2 = true := hpre _ rfl ⟨2, .data⟩ (by simp) rfl
          have p5 : l 5 = true := hpre _ rfl ⟨5, .data⟩ (by simp) rfl
          have p4 : l 4 = true := hpre _ rfl ⟨4, .chain⟩ (by simp) rfl
          have p3 := o4 p4
          simp only [Bool.and_eq_true] at p3
          replace p3 := p3.1
          have p0 := o2 p2
          simp only [Bool.and_eq_true] at p0
          have p1 := p0.2
          replace p0 := p0.1
          refine wpOp_step rfl (fun K hK => ?_)
          simp only [p5, p4, p3, p2, p0, p1, n6, cond_true, cond_false]
          clear hpre
          rw [if_pos (by rfl)]
          go_simp
          refine (path_any _ _ _).mono ?_
          rintro e w5 ⟨rfl, rfl⟩
          have hA1 := below_alloc w' (.cells #[.int .i64 (y : Int)] 113)
          have hA2 := below_alloc (w'.alloc (.cells #[.int .i64 (y : Int)] 113)) (.cells #[.int .i64 ((j : Int) + 1)] 3)
          have hbx := Box.new (w'.alloc (.cells #[.int .i64 (y : Int)] 113)) (.int .i64 ((j : Int) + 1)) 3
          rw [World.size_alloc] at hbx
          exact hK _ _ ⟨w'.heap.size, by simp [upd, Act.put, p5, p4, p3, p2, p0, p1, n6], (hB.trans (hA1.mono hB.size)).trans (hA2.mono (by have := hB.size; simp; omega)), (fun _ => ⟨hB.size, (Box.new w' _ _).keep hA2, hbx, by simp⟩), (by first | (simp [upd, p5, p4, p3, p2, p0, p1, n6]; done) | (intro e; have h := o6 (by simpa [upd] using e); simp_all [upd]; done) | simpa [upd, p5, p4, p3, p2, p0, p1, n6] using o6), (by first | (simp [upd, p5, p4, p3, p2, p0, p1, n6]; done) | (intro e; have h := o5 (by simpa [upd] using e); simp_all [upd]; done) | simpa [upd, p5, p4, p3, p2, p0, p1, n6] using o5), (by first | (simp [upd, p5, p4, p3, p2, p0, p1, n6]; done) | (intro e; have h := o4 (by simpa [upd] using e); simp_all [upd]; done) | simpa [upd, p5, p4, p3, p2, p0, p1, n6] using o4), (by first | (simp [upd, p5, p4, p3, p2, p0, p1, n6]; done) | (intro e; have h := o2 (by simpa [upd] using e); simp_all [upd]; done) | simpa [upd, p5, p4, p3, p2, p0, p1, n6] using o2)⟩
      · rintro lx ax w8 hall ⟨D, rfl, hB8, hF8, _, _, _, _⟩
        simp only [hall 0 (by decide), hall 1 (by decide), hall 2 (by decide), hall 3 (by decide), hall 4 (by decide), hall 5 (by decide), hall 6 (by decide), cond_true]
        replace hF8 := hF8 (hall 6 (by decide))
        clear hall
        have h8s : W.heap.size ≤ w8.heap.size := hB8.size
        have HB8 := Lib.hid hB8
        have HF8 := Lib.hid hF8
        have hr8 : w8.heap[l]? = some (.loop r0) := (hB8.block _ (Array.getElem?_eq_some_iff.1 HR0.out).1).trans HR0.out
        clear hB8 hF8
        gi_wp2_with fail
        have HBS2 := Lib.hid (path_lev 5 (by omega) (D + 1) D y d (j + 1) w8 HY.out.1 (by have := HY.out.2.1; omega) HY.out.2.2.symm (by have := HZ.out.2; omega) HF8.out.2.1.cell (by rw [show ((j + 1 : Nat) : Int) = (j : Int) + 1 by omega]; exact HF8.out.2.2.1.cell))
        have hI2 : ((∃ v', w8.ownsRow N 56 2 v' (ps ++ rls Kd d y j (([] : List (Lev d)).map (·.1))).length (prs (ps ++ rls Kd d y j (([] : List (Lev d)).map (·.1)))) ∧ Box w8 (N + 2) v' 47) ∧ (Blk w8 N #[.int .u8 Kd, .int .i64 (d : Int), .int .i64 E, .int .u64 (P : Int), .int .u64 (Q : Int), .int .u64 (G : Int)] 45 ∧ Box w8 (N + 1) (.int .i64 (r : Int)) 3 ∧ Box w8 C (.int .i64 (y : Int)) 113 ∧ Box w8 (C + 1) (.int .i64 0) 3 ∧ Box w8 Bx (.int .i64 (z : Int)) 113 ∧ Box w8 D (.int .i64 (y : Int)) 113 ∧ Box w8 (D + 1) (.int .i64 ((j : Int) + 1)) 3)) ∧ (Below N W w8 ∧ KeepsFrom W5.heap.size W w8) :=
          ⟨⟨⟨v, by rw [show ps ++ rls Kd d y j (([] : List (Lev d)).map (·.1)) = ps by unfold rls; simp]; exact own_below HO.out HB8.out, HBL.out.keep HB8.out⟩, HFS.out.keep HB8.out, HFR.out.keep HB8.out, HFC.out.1.keep HB8.out, HFC.out.2.keep HB8.out, HBX.out.keep HB8.out, HF8.out.2.1, HF8.out.2.2.1⟩, HB8.out.mono (by have := HNW.out; omega), (keeps_below HB8.out).from _⟩
        refine wpIn_rangeFunc_ownN (l₀ := l) (r₀ := r0) rfl hr8 (by omega) (gf := 135) (lb := #[.pointer (some ⟨D + 1, 0, none⟩), .pointer (some ⟨D, 0, none⟩)]) rfl trivial (enters_of Try.func135 (by kernel_rfl) rfl)
          (HBS2.out.inRound l) (fun h k => ⟨k.1.trans h.1, k.2.trans h.2⟩) (fun W l o o' hl _ _ _ => ⟨World.putObj_heap_other (by rw [HF8.out.2.2.2] at hl; omega), World.putObj_heap_other (by rw [HF8.out.2.2.2] at hl; omega)⟩) (Below.refl _ _) (fun _ => rfl)
          (fun pre' W' => ((∃ v', W'.ownsRow N 56 2 v' (ps ++ rls Kd d y j (pre'.map (·.1))).length (prs (ps ++ rls Kd d y j (pre'.map (·.1)))) ∧ Box W' (N + 2) v' 47) ∧ (Blk W' N #[.int .u8 Kd, .int .i64 (d : Int), .int .i64 E, .int .u64 (P : Int), .int .u64 (Q : Int), .int .u64 (G : Int)] 45 ∧ Box W' (N + 1) (.int .i64 (r : Int)) 3 ∧ Box W' C (.int .i64 (y : Int)) 113 ∧ Box W' (C + 1) (.int .i64 0) 3 ∧ Box W' Bx (.int .i64 (z : Int)) 113 ∧ Box W' D (.int .i64 (y : Int)) 113 ∧ Box W' (D + 1) (.int .i64 ((j : Int) + 1)) 3)) ∧ (Below N W W' ∧ KeepsFrom W5.heap.size W W'))
          (fun _ _ _ => False)
          (OwnFrom.and (Own.from (fun s A B' row hs hg hr => by
            obtain ⟨⟨v', h1, h2⟩, h3, h4, h5, h6, h7, h8, h9⟩ := hs
            exact ⟨⟨v', h1.kept hg (own_notrow h1 hr), h2.kept hg hr⟩, h3.kept hg hr, h4.kept hg hr, h5.kept hg hr, h6.kept hg hr, h7.kept hg hr, h8.kept hg hr, h9.kept hg hr⟩) _) (OwnFrom.and (ownFrom_below (by have := HNW.out; omega) (by have := HNW.out; omega)) (ownFrom_keepsFrom h8s)))
          (fun _ _ _ _ _ hs _ _ => hs)
          hI2
          (fun x' a'' _ => a'' = { tmps := #[Value.agg #[.int .u8 Kd, .int .i64 (d : Int), .int .i64 E, .int .u64 (P : Int), .int .u64 (Q : Int), .int .u64 (G : Int)], Value.int .i64 (r : Int), Value.pointer (some ⟨N, 0, none⟩), Value.pointer (some ⟨N + 1, 0, none⟩), Value.slice none 0 0, Value.pointer (some ⟨N + 2, 0, none⟩), Value.pointer (some ⟨Bx, 0, none⟩), Value.int .i64 (nat_ y x'.1 : Int), undef, Value.pointer (some ⟨N, 0, none⟩), Value.int .u8 Kd, Value.bool bq, Value.slice none 0 0, Value.agg #[.int .i64 1, .int .i64 0], Value.slice (some ⟨gb0, 0, none⟩) 1 1, v0, Value.agg #[.int .u8 Kd, .int .i64 (d : Int), .int .i64 E, .int .u64 (P : Int), .int .u64 (Q : Int), .int .u64 (G : Int)], Value.int .i64 (r : Int), Value.int .i64 (y : Int), Value.func (.func 135) #[] #[.pointer (some ⟨C + 1, 0, none⟩), .pointer (some ⟨C, 0, none⟩)], Value.int .i64 (z : Int), Value.pointer (some ⟨N, 0, none⟩), Value.int .u8 Kd, Value.bool false, undef, undef, undef, undef, undef, Value.agg #[.int .u8 Kd, .int .i64 (d : Int), .int .i64 E, .int .u64 (P : Int), .int .u64 (Q : Int), .int .u64 (G : Int)], Value.int .i64 (r : Int), Value.int .i64 (y : Int), Value.int .i64 (z : Int), Value.int .i64 (j : Int), Value.int .i64 ((j : Int) + 1), Value.func (.func 135) #[] #[.pointer (some ⟨D + 1, 0, none⟩), .pointer (some ⟨D, 0, none⟩)], Value.int .i64 (nat_ y x'.1 : Int), undef, undef, undef, undef, undef, undef, undef, undef, undef, undef, undef, undef], defers := [] })
          (fun _ _ _ _ _ _ hs _ _ => hs)
          ?assign2 ?body2 ?done2 ?stop2
        case assign2 =>
          rintro l2 pre' x' W' K hI hK
          unfold lenc
          gi_wp2
          exact hK _ _ (KeepsFrom.refl _ _) ⟨rfl, rfl⟩ hI rfl
        case body2 =>
          rintro l2 pre' x' a'' W2 hl2 _ ⟨⟨⟨v', h1, h2⟩, h3, h4, h5, h6, h7, h8, h9⟩, hBW, hKF⟩ rfl hlt2
          rw [inRound_inRound]
          have hno := nat_ok y x'.1 HY.out.1 (by have := HY.out.2.1; omega) (by rw [HY.out.2.2]; exact x'.2)
          have hsn := HLSn.out (pre'.map (·.1)) x'.1
          have hln := HLS.out (pre'.map (·.1))
          rw [List.length_map] at hln
          have HFin2 : Hid (rls Kd d y j ((pre' ++ [x']).map (·.1)) = rls Kd d y j (pre'.map (·.1)) ++ (if isb Kd d (z : Int) ((nat_ y x'.1 ^^^ 1 : Nat) : Int) = true then [(z, nat_ y x'.1 ^^^ 1)] else [])) := Lib.hid (by rw [List.map_append]; exact hsn)
          obtain ⟨q, hq⟩ : ∃ q, q = nat_ y x'.1 := ⟨_, rfl⟩
          rw [← hq] at HFin2 hno ⊢
          have hq256 : q < 256 := by have := HY.out.2.1; omega
          have HSib0 := Lib.hid (fun w => sibling_any q w hq256)
          obtain ⟨s, hs⟩ : ∃ s, s = q ^^^ 1 := ⟨_, rfl⟩
          rw [← hs] at HFin2 HSib0
          have HSib : Hid (∀ w, Calls Try.prog 93 #[.int .i64 (q : Int)] w fun e w' => e = .returned (.int .i64 (s : Int)) ∧ w = w') := HSib0
          obtain ⟨qs, hqs⟩ : ∃ qs, qs = ps ++ rls Kd d y j (pre'.map (·.1)) := ⟨_, rfl⟩
          have HFin3 : Hid (ps ++ rls Kd d y j ((pre' ++ [x']).map (·.1)) = qs ++ (if isb Kd d (z : Int) (s : Int) = true then [(z, s)] else [])) := Lib.hid (by rw [HFin2.out, hqs, List.append_assoc])
          have hq80 : qs.length ≤ 80 := by rw [hqs, List.length_append]; omega
          rw [← hqs] at h1
          obtain ⟨L, hL⟩ : ∃ L, L = qs.length := ⟨_, rfl⟩
          obtain ⟨xs, hxs⟩ : ∃ xs, xs = prs qs := ⟨_, rfl⟩
          have HQS := Lib.hid (And.intro hL hxs)
          rw [← hL] at h1 hq80
          rw [← hxs] at h1
          have HO2 := Lib.hid h1
          have HBL2 := Lib.hid h2
          have HF2 := Lib.hid (And.intro h3 (And.intro h4 (And.intro h5 (And.intro h6 (And.intro h8 h9)))))
          have HBX2 := Lib.hid h7
          have HBW2 := Lib.hid (And.intro hBW hKF)
          have HNW2 : Hid (N + 3 ≤ W2.heap.size ∧ W2.heap.size ≥ W.heap.size) := Lib.hid (by have := hBW.size; have := HNW.out; omega)
          clear h1 h2 h3 h4 h5 h6 h7 h8 h9 hBW hKF hsn hln hno hq hs hqs hL hxs hlt2 HSib0 HFin2
          gi_wp2_with fail
          refine wpIn_round_inv _ _ (by kernel_rfl) (by rintro ⟨_, _, h⟩; exact h) (by kernel_rfl) (by kernel_rfl) (fun l a w' => ∃ (xb : Nat) (w1 : World), a = { tmps := #[Value.agg #[.int .u8 Kd, .int .i64 (d : Int), .int .i64 E, .int .u64 (P : Int), .int .u64 (Q : Int), .int .u64 (G : Int)], Value.int .i64 (r : Int), Value.pointer (some ⟨N, 0, none⟩), Value.pointer (some ⟨N + 1, 0, none⟩), Value.slice none 0 0, Value.pointer (some ⟨N + 2, 0, none⟩), Value.pointer (some ⟨Bx, 0, none⟩), Value.int .i64 (q : Int), bif l 4 then Value.pointer (some ⟨xb, 0, none⟩) else undef, Value.pointer (some ⟨N, 0, none⟩), Value.int .u8 Kd, Value.bool bq, Value.slice none 0 0, Value.agg #[.int .i64 1, .int .i64 0], Value.slice (some ⟨gb0, 0, none⟩) 1 1, v0, Value.agg #[.int .u8 Kd, .int .i64 (d : Int), .int .i64 E, .int .u64 (P : Int), .int .u64 (Q : Int), .int .u64 (G : Int)], Value.int .i64 (r : Int), Value.int .i64 (y : Int), Value.func (.func 135) #[] #[.pointer (some ⟨C + 1, 0, none⟩), .pointer (some ⟨C, 0, none⟩)], Value.int .i64 (z : Int), Value.pointer (some ⟨N, 0, none⟩), Value.int .u8 Kd, Value.bool false, undef, undef, undef, undef, undef, Value.agg #[.int .u8 Kd, .int .i64 (d : Int), .int .i64 E, .int .u64 (P : Int), .int .u64 (Q : Int), .int .u64 (G : Int)], Value.int .i64 (r : Int), Value.int .i64 (y : Int), Value.int .i64 (z : Int), Value.int .i64 (j : Int), Value.int .i64 ((j : Int) + 1), Value.func (.func 135) #[] #[.pointer (some ⟨D + 1, 0, none⟩), .pointer (some ⟨D, 0, none⟩)], Value.int .i64 (q : Int), bif l 0 then Value.int .i64 (z : Int) else undef, bif l 1 then Value.int .i64 (q : Int) else undef, bif l 2 then Value.int .i64 (s : Int) else undef, bif l 3 then Value.agg #[.int .i64 (z : Int), .int .i64 (s : Int)] else undef, undef, undef, undef, undef, undef, undef, undef, undef], defers := [] } ∧ Below W2.heap.size W2 w1 ∧ (l 4 = true → W2.heap.size ≤ xb ∧ Blk w1 xb #[.int .i64 0, .int .i64 0] 56) ∧ w' = (bif l 5 then w1.setCells xb 0 [.int .i64 (z : Int), .int .i64 (s : Int)] else w1) ∧ (l 5 = true → (l 4 && l 3) = true) ∧ (l 3 = true → (l 0 && l 2) = true) ∧ (l 2 = true → l 1 = true)) ⟨0, W2.drew, rfl, (Below.refl _ _).drew, (fun h => by cases h), rfl, (fun h => by cases h), (fun h => by cases h), (fun h => by cases h)⟩ ?_ ?_
          · rintro l a w' i ⟨xb, w1, rfl, hB, hX, hw, o5, o3, o2⟩ hi hli hpre
            have hi2 : i < 6 := hi
            have hcase : i = 0 ∨ i = 1 ∨ i = 2 ∨ i = 3 ∨ i = 4 ∨ i = 5 := by omega
            clear hi hi2
            have n5 : l 5 = false := by
              cases h : l 5
              · rfl
              · exfalso
                have h5 := o5 h
                simp only [Bool.and_eq_true] at h5
                have h3 := o3 h5.2
                simp only [Bool.and_eq_true] at h3
                have h2 := o2 h3.2
                rcases hcase with rfl | rfl | rfl | rfl | rfl | rfl <;> simp_all
            rw [n5, cond_false] at hw
            subst hw
            rcases hcase with rfl | rfl | rfl | rfl | rfl | rfl
            · -- 0
              refine wpOp_step rfl (fun K hK => ?_)
              clear hpre
              rw [if_pos (by rfl)]
              have z1 := (HBX2.out.keep hB).cell
              go_simp
              exact hK _ _ ⟨xb, w', by simp [upd, Act.put, n5], hB, (fun e => hX (by simpa [upd] using e)), by simp [upd, n5], (by first | (simp [upd, n5]; done) | (intro e; have h := o5 (by simpa [upd] using e); simp_all [upd]; done) | simpa [upd, n5] using o5), (by first | (simp [upd, n5]; done) | (intro e; have h := o3 (by simpa [upd] using e); simp_all [upd]; done) | simpa [upd, n5] using o3), (by first | (simp [upd, n5]; done) | (intro e; have h := o2 (by simpa [upd] using e); simp_all [upd]; done) | simpa [upd, n5] using o2)⟩
            · -- 1
              refine wpOp_step rfl (fun K hK => ?_)
              clear hpre
              rw [if_pos (by rfl)]
              go_simp
              exact hK _ _ ⟨xb, w', by simp [upd, Act.put, n5], hB, (fun e => hX (by simpa [upd] using e)), by simp [upd, n5], (by first | (simp [upd, n5]; done) | (intro e; have h := o5 (by simpa [upd] using e); simp_all [upd]; done) | simpa [upd, n5] using o5), (by first | (simp [upd, n5]; done) | (intro e; have h := o3 (by simpa [upd] using e); simp_all [upd]; done) | simpa [upd, n5] using o3), (by first | (simp [upd, n5]; done) | (intro e; have h := o2 (by simpa [upd] using e); simp_all [upd]; done) | simpa [upd, n5] using o2)⟩
            · -- 2
              have p1 : l 1 = true := hpre _ rfl ⟨1, .data⟩ (by simp) rfl
              refine wpOp_step rfl (fun K hK => ?_)
              simp only [p1, cond_true]
              clear hpre
              rw [if_pos (by rfl)]
              go_simp
              refine (HSib.out _).mono ?_
              rintro e w5 ⟨rfl, rfl⟩
              exact hK _ _ ⟨xb, w', by simp [upd, Act.put, p1, n5], hB, (fun e => hX (by simpa [upd] using e)), by simp [upd, n5], (by first | (simp [upd, p1, n5]; done) | (intro e; have h := o5 (by simpa [upd] using e); simp_all [upd]; done) | simpa [upd, p1, n5] using o5), (by first | (simp [upd, p1, n5]; done) | (intro e; have h := o3 (by simpa [upd] using e); simp_all [upd]; done) | simpa [upd, p1, n5] using o3), (by first | (simp [upd, p1, n5]; done) | (intro e; have h := o2 (by simpa [upd] using e); simp_all [upd]; done) | simpa [upd, p1, n5] using o2)⟩
            · -- 3
              have p0 : l 0 = true := hpre _ rfl ⟨0, .data⟩ (by simp) rfl
              have p2 : l 2 = true := hpre _ rfl ⟨2, .data⟩ (by simp) rfl
              have p1 := o2 p2
              refine wpOp_step rfl (fun K hK => ?_)
              simp only [p0, p2, p1, cond_true]
              clear hpre
              rw [if_pos (by rfl)]
              go_simp
              refine (HSub.out _ _ _).mono ?_
              rintro e w5 ⟨rfl, hb5⟩
              exact hK _ _ ⟨xb, w5, by simp [upd, Act.put, p0, p2, p1, n5], hB.trans (hb5.mono hB.size), (fun e => by have h := hX (by simpa [upd] using e); exact ⟨h.1, h.2.keep hb5⟩), by simp [upd, n5], (by first | (simp [upd, p0, p2, p1, n5]; done) | (intro e; have h := o5 (by simpa [upd] using e); simp_all [upd]; done) | simpa [upd, p0, p2, p1, n5] using o5), (by first | (simp [upd, p0, p2, p1, n5]; done) | (intro e; have h := o3 (by simpa [upd] using e); simp_all [upd]; done) | simpa [upd, p0, p2, p1, n5] using o3), (by first | (simp [upd, p0, p2, p1, n5]; done) | (intro e; have h := o2 (by simpa [upd] using e); simp_all [upd]; done) | simpa [upd, p0, p2, p1, n5] using o2)⟩
            · -- 4
              refine wpOp_step rfl (fun K hK => ?_)
              have n4 : l 4 = false := hli
              simp only [n4, n5, cond_false]
              clear hpre
              rw [if_pos (by rfl)]
              have hA := below_alloc w' (.cells #[.int .i64 0, .int .i64 0] 56)
              go_simp
              exact hK _ _ ⟨w'.heap.size, _, by simp [upd, Act.put, n4, n5], hB.trans (hA.mono hB.size), (fun _ => ⟨hB.size, Blk.new w' _ 56⟩), by simp [upd, n5], (by first | (simp [upd, n4, n5]; done) | (intro e; have h := o5 (by simpa [upd] using e); simp_all [upd]; done) | simpa [upd, n4, n5] using o5), (by first | (simp [upd, n4, n5]; done) | (intro e; have h := o3 (by simpa [upd] using e); simp_all [upd]; done) | simpa [upd, n4, n5] using o3), (by first | (simp [upd, n4, n5]; done) | (intro e; have h := o2 (by simpa [upd] using e); simp_all [upd]; done) | simpa [upd, n4, n5] using o2)⟩
            · -- 5
              have p4 : l 4 = true := hpre _ rfl ⟨4, .data⟩ (by simp) rfl
              have p3 : l 3 = true := hpre _ rfl ⟨3, .data⟩ (by simp) rfl
              have p0 : l 0 = true := hpre _ rfl ⟨0, .phase⟩ (by simp) rfl
              have p1 : l 1 = true := hpre _ rfl ⟨1, .phase⟩ (by simp) rfl
              have p2 : l 2 = true := hpre _ rfl ⟨2, .phase⟩ (by simp) rfl
              refine wpOp_step rfl (fun K hK => ?_)
              simp only [p4, p3, p0, p1, p2, cond_true]
              clear hpre
              rw [if_pos (by rfl)]
              have hX4 := hX p4
              refine wp_store_mid 56 _ _ rfl xb 0 #[.int .i64 (z : Int), .int .i64 (s : Int)] rfl rfl hX4.2.there sizeSub (all_oneCell_toArray (by intro v hv; simp at hv; rcases hv with rfl | rfl <;> rfl)) ?_
              exact hK _ _ ⟨xb, w', by simp [upd, Act.put, p4, p3, p0, p1, p2], hB, (fun e => hX (by simpa [upd] using e)), by simp [upd], (by first | (simp [upd, p4, p3, p0, p1, p2]; done) | (intro e; have h := o5 (by simpa [upd] using e); simp_all [upd]; done) | simpa [upd, p4, p3, p0, p1, p2] using o5), (by first | (simp [upd, p4, p3, p0, p1, p2]; done) | (intro e; have h := o3 (by simpa [upd] using e); simp_all [upd]; done) | simpa [upd, p4, p3, p0, p1, p2] using o3), (by first | (simp [upd, p4, p3, p0, p1, p2]; done) | (intro e; have h := o2 (by simpa [upd] using e); simp_all [upd]; done) | simpa [upd, p4, p3, p0, p1, p2] using o2)⟩
          · rintro lx ax w9 hall ⟨xb, w1, rfl, hB9, hX9, hw, _, _, _⟩
            rw [hall 5 (by decide), cond_true] at hw
            subst hw
            simp only [hall 0 (by decide), hall 1 (by decide), hall 2 (by decide), hall 3 (by decide), hall 4 (by decide), cond_true]
            replace hX9 := hX9 (hall 4 (by decide))
            clear hall
            obtain ⟨W4', hW4'⟩ : ∃ W4', W4' = w1.setCells xb 0 [.int .i64 (z : Int), .int .i64 (s : Int)] := ⟨_, rfl⟩
            have hX4 : Blk W4' xb #[.int .i64 (z : Int), .int .i64 (s : Int)] 56 := by rw [hW4']; exact hX9.2.set2 _ _
            have hB4' : Below W2.heap.size W2 W4' := by rw [hW4']; exact below_setCells _ _ _ _ hB9 hX9.1
            rw [← hW4']
            have HX4 := Lib.hid (And.intro hX4 hB4')
            obtain ⟨f1, f2, f3, f4, f5, f6⟩ := HF2.out
            have g1 := f1.keep hB4'
            have c0 : W4'.cell? ⟨N, 0, none⟩ = some (.int .u8 Kd) := g1.cell 0
            have c1 : W4'.cell? ⟨N, 1, none⟩ = some (.int .i64 (d : Int)) := g1.cell 1
            have c2 : W4'.cell? ⟨N, 2, none⟩ = some (.int .i64 E) := g1.cell 2
            have c3 : W4'.cell? ⟨N, 3, none⟩ = some (.int .u64 (P : Int)) := g1.cell 3
            have c4 : W4'.cell? ⟨N, 4, none⟩ = some (.int .u64 (Q : Int)) := g1.cell 4
            have c5 : W4'.cell? ⟨N, 5, none⟩ = some (.int .u64 (G : Int)) := g1.cell 5
            have z0 : W4'.cell? ⟨xb, 0, none⟩ = some (.int .i64 (z : Int)) := hX4.cell 0
            have z1 : W4'.cell? ⟨xb, 1, none⟩ = some (.int .i64 (s : Int)) := hX4.cell 1
            clear hW4' hX4 hB4' hX9 hB9 f1 f2 f3 f4 f5 f6 g1
            gi_wp2_with fail
            refine ⟨trivial, (CallsIn.inRound l2 (callsIn_wide.2 (HIs.out _ _ _))).mono ?_⟩
            rintro e w6 ⟨rfl, hb6⟩
            have hb26 : Below W2.heap.size W2 w6 := HX4.out.2.trans (hb6.mono HX4.out.2.size)
            have HX6 := Lib.hid (And.intro (HX4.out.1.keep hb6) hb26)
            clear c0 c1 c2 c3 c4 c5 z0 z1 hb6 hb26
            rcases hisb : isb Kd d (z : Int) (s : Int) with _ | _
            · have HFn : Hid (ps ++ rls Kd d y j ((pre' ++ [x']).map (·.1)) = qs) := Lib.hid (by rw [HFin3.out, hisb, if_neg (by decide), List.append_nil])
              clear hisb
              gi_wp2_with fail
              have hb := HX6.out.2
              obtain ⟨f1, f2, f3, f4, f5, f6⟩ := HF2.out
              refine ⟨(keeps_below hb).from _, ⟨(f6.keep hb).trans f6.symm, (f5.keep hb).trans f5.symm⟩, ⟨⟨v', ?_, HBL2.out.keep hb⟩, f1.keep hb, f2.keep hb, f3.keep hb, f4.keep hb, HBX2.out.keep hb, f5.keep hb, f6.keep hb⟩, HBW2.out.1.trans (hb.mono (by have := HNW2.out; omega)), HBW2.out.2.trans ((keeps_below hb).from _)⟩
              rw [HFn.out, ← HQS.out.1, ← HQS.out.2]
              exact own_below HO2.out hb
            · have HFn : Hid (ps ++ rls Kd d y j ((pre' ++ [x']).map (·.1)) = qs ++ [(z, s)]) := Lib.hid (by rw [HFin3.out, hisb, if_pos rfl])
              clear hisb
              have hb := HX6.out.2
              have hBl6 := HBL2.out.keep hb
              have hO6 := own_below HO2.out hb
              have c7 : w6.cell? ⟨N + 2, 0, none⟩ = some v' := hBl6.cell
              have z0 : w6.cell? ⟨xb, 0, none⟩ = some (.int .i64 (z : Int)) := HX6.out.1.cell 0
              have z1 : w6.cell? ⟨xb, 1, none⟩ = some (.int .i64 (s : Int)) := HX6.out.1.cell 1
              have hA := below_alloc w6 (.cells #[.int .i64 (z : Int), .int .i64 (s : Int)] 56)
              have ho2 := own_below hO6 hA
              have hone : ∀ u ∈ [Value.int .i64 (z : Int), Value.int .i64 (s : Int)], u.oneCell' = true := by intro u hu; simp at hu; rcases hu with rfl | rfl <;> rfl
              have h63 : L + 1 ≤ maxLen := by unfold maxLen; omega
              have hby : (L + 1) * 16 ≤ 140737488355328 := by omega
              have hbs : N ≤ (w6.alloc (.cells #[.int .i64 (z : Int), .int .i64 (s : Int)] 56)).heap.size := by have := HNW2.out; have := hb.size; simp; omega
              have hnew : ∀ t u, [Value.int .i64 (z : Int), Value.int .i64 (s : Int)][t]? = some u → (w6.alloc (.cells #[.int .i64 (z : Int), .int .i64 (s : Int)] 56)).cell? ((⟨w6.heap.size, 0, none⟩ : Addr).add t) = some u := fun t u hu => by
                rw [Addr.add_mid, Nat.zero_add, (Blk.new w6 _ 56).cell t]; simpa using hu
              obtain ⟨hi, hz0, hz1, hz2⟩ := HI.out
              gi_wp2_with (first
                | (gi_at_builtin; refine wpListIn_append_own _ rfl _ _ 47 rfl N 56 i0 _ 2 16 Try.underlying47 hi hz0 hz1 hz2 rfl (by omega) _ _ _ rfl ho2 ⟨w6.heap.size, 0, none⟩ 1 1 [.int .i64 (z : Int), .int .i64 (s : Int)] rfl rfl hnew hone h63 hby hbs ?_; intro v1 w7 hown7 hg7 _; (obtain ⟨A7, k7, rfl⟩ := own_val hown7); have y1 := ((hBl6.keep hA).grown hg7 ((hBl6.keep hA).ty.apart ho2 (by decide))).cell; have y2 := ((hBl6.keep hA).grown hg7 ((hBl6.keep hA).ty.apart ho2 (by decide))).fr))
              have H9 := Lib.hid (app_done hBl6 (by decide) hO6 (grownBy_trans (World.grownBy_alloc w6 _ _) hg7) hown7 (by have := HNW2.out; have := hb.size; omega) (by omega))
              obtain ⟨k1, k2, k3, k4, k5⟩ := H9.out
              obtain ⟨f1, f2, f3, f4, f5, f6⟩ := HF2.out
              have q1 := HBxC.out
              have q2 := HNW.out
              have q3 := HF8.out.1
              have g1 := k5 _ _ _ (by omega) (by decide) (f1.keep hb)
              have g2 := k5 _ _ _ (by omega) (by decide) (f2.keep hb).blk
              have g3 := k5 _ _ _ (by omega) (by decide) (f3.keep hb).blk
              have g4 := k5 _ _ _ (by omega) (by decide) (f4.keep hb).blk
              have g5 := k5 _ _ _ (by omega) (by decide) (f5.keep hb).blk
              have g6 := k5 _ _ _ (by omega) (by decide) (f6.keep hb).blk
              have g7 := k5 _ _ _ (by omega) (by decide) (HBX2.out.keep hb).blk
              refine ⟨((keeps_below hb).trans k3).from _, ⟨g6.trans f6.symm, g5.trans f5.symm⟩, ⟨⟨_, ?_, k1⟩, g1, g2, g3, g4, g7, g5, g6⟩, (HBW2.out.1.trans (hb.mono (by have := HNW2.out; omega))).trans k4, HBW2.out.2.trans (((keeps_below hb).trans k3).from _)⟩
              rw [HFn.out, List.length_append, prs_append, ← HQS.out.1, ← HQS.out.2]
              exact k2
        case done2 =>
          rintro ys W' hys ⟨⟨⟨v', h1, h2⟩, h3, h4, h5, h6, h7, h8, h9⟩, hBW, hKF⟩
          rw [hys, show d + 1 - (j + 1) = d - j by omega, ← HFin.out] at h1
          gi_wp2_with fail
          exact ⟨hKF, ⟨h6.trans HFC.out.2.symm, h5.trans HFC.out.1.symm⟩, ⟨v', h1, h2, h3, h4, h5, h6⟩, HBW.out.trans hBW⟩
        case stop2 =>
          rintro c pre' W' _ h
          exact h.elim
    case done =>
      rintro D ys W hD hys ⟨⟨v, h1, h2, h3, h4, h5, h6⟩, hB⟩ hK
      have hpl : plf Kd d y (ys.map (·.1)) = plc Kd d y := by
        rw [hys, lvl_zero]; unfold plc; rw [HY.out.2.2, Nat.sub_zero]
      rw [hpl] at h1
      have H1 := Lib.hid h1
      have z1 := h2.cell
      have HKD := Lib.hid hK
      have HBl := Lib.hid hB
      have HDD := Lib.hid hD
      obtain ⟨A2, c2, hv2⟩ := own_val h1
      subst hv2
      clear h1 h2 h3 h4 h5 h6 hB hK hD hys hpl
      go_wp2_with fail
      refine ⟨by simp, .inl ⟨_, _, rfl, run_takeDeferred HKD.out, ?_⟩⟩
      refine ⟨_, results_tmp rfl _ _ _, ⟨_, rfl, ?_⟩, ?_⟩
      · exact H1.out.kept (grownBy_putObj' _ D _) (own_notrow H1.out (fun r e => by cases e; exact ⟨_, HKD.out, rfl⟩))
      · exact (HE5.out.2.1.trans HBl.out).trans (belowK_b (w := w) (by rw [HN.out]; exact Nat.le_refl _) _ D _ _ (by have := HDD.out; have := HE5.out; have := HN.out; omega) HKD.out rfl rfl)
    case stop =>
      rintro D c pre W _ _ h _
      exact h.elim
end Go.Proofs.Ytchkgccnipejhaa

/-
  The places of a receiver's labels, the specification's.
-/
namespace Go.Proofs.Ytchkgccnipejhaa
open Go.RowKit TR
set_option linter.unusedVariables false
set_option linter.unusedSimpArgs false

theorem chk_abv1 : ((List.range 128).all fun y => y == 0 || abv 1 y) = true := by decide +kernel
theorem abv_one (y : Nat) (h1 : 1 ≤ y) (h2 : y < 128) : abv 1 y = true := by
  have h := chk_abv1
  simp only [List.all_eq_true, List.mem_range] at h
  have h3 := h y h2
  simp only [Bool.or_eq_true, beq_iff_eq] at h3
  rcases h3 with h3 | h3
  · omega
  · exact h3
theorem lvl_range (k : Nat) : lvl 0 (k + 1) = List.range k ++ [k] := by rw [lvl_zero, List.range_succ]
/-- The path to a leaf. -/
theorem path_leaf (d r : Nat) (hd : d < 7) (hr : r < 2 ^ d) (w : World) :
    Calls Try.prog 122 #[.int .i64 1, .int .i64 ((2 ^ d + r : Nat) : Int)] w fun e w' => (∃ g c, e = .returned (.slice (some ⟨g, 0, none⟩) (d + 1) c) ∧ w.heap.size ≤ g ∧ d + 1 ≤ c ∧ c ≤ maxLen ∧ ∀ i, i < d + 1 → w'.cell? ⟨g, i, none⟩ = some (.int .i64 (nat_ (2 ^ d + r) i : Int))) ∧ Below w.heap.size w w' := by
  have h64 := p64 hd
  have hl := leaf_lv hd hr
  have h := refPath_any 1 (2 ^ d + r) w (by omega) (abv_one _ (by omega) (by omega))
  rw [hl, lv_low 1 (Nat.le_refl _), Nat.sub_zero] at h
  refine h.mono ?_
  rintro e w' ⟨⟨g, c, rfl, q1, q2, q3, q4⟩, hb⟩
  refine ⟨⟨g, c, rfl, q1, q2, q3, fun i hi => ?_⟩, hb⟩
  rw [q4 i hi]
  unfold nat_
  rw [hl]

end Go.Proofs.Ytchkgccnipejhaa

/-
  The places of a receiver's labels, the specification's: the other schemes.
-/
namespace Go.Proofs.Ytchkgccnipejhaa
open Go.RowKit TR
set_option linter.unusedVariables false
set_option linter.unusedSimpArgs false

end Go.Proofs.Ytchkgccnipejhaa

/-
  Storage: the program's and the specification's.
-/
namespace Go.Proofs.Ytchkgccnipejhaa
open Go.RowKit TR
set_option linter.unusedVariables false
set_option linter.unusedSimpArgs false

theorem places_any (K E : Int) (d r P Q G : Nat) (w : World) (hd : d < 7) (hr : r < 2 ^ d) :
    Calls Try.prog 79 #[.agg #[.int .u8 K, .int .i64 (d : Int), .int .i64 E, .int .u64 (P : Int), .int .u64 (Q : Int), .int .u64 (G : Int)], .int .i64 (r : Int)] w fun e w' => (∃ u, e = .returned u ∧ w'.ownsRow w.heap.size 56 2 u (plc K d (2 ^ d + r)).length (prs (plc K d (2 ^ d + r)))) ∧ Below w.heap.size w w' := by
  by_cases h : K = 1
  · subst h; exact places_one E d r P Q G w hd hr
  · exact places_more K E d r P Q G w hd hr h
/-- How many labels a secret has. -/
def stv (K D E : Int) (P Q G : Nat) : Nat := if scb K D E P Q G then (plc K D.toNat (2 ^ D.toNat)).length else 0

set_option maxRecDepth 100000 in
set_option maxHeartbeats 400000 in
theorem storage_any (K D E : Int) (P Q G : Nat) (w : World) (hK0 : 0 ≤ K) (hK1 : K ≤ 255) :
    Calls Try.prog 34 #[.agg #[.int .u8 K, .int .i64 D, .int .i64 E, .int .u64 (P : Int), .int .u64 (Q : Int), .int .u64 (G : Int)]] w fun e w' => e = .returned (.tuple #[.int .i64 (stv K D E P Q G : Int), .int .i64 (scc K D E P Q G)]) ∧ Below w.heap.size w w' := by
  obtain ⟨N, hN⟩ : ∃ N, N = w.heap.size := ⟨_, rfl⟩
  obtain ⟨W1, hW1⟩ : ∃ W1, W1 = w.alloc (.cells #[.int .u8 K, .int .i64 D, .int .i64 E, .int .u64 (P : Int), .int .u64 (Q : Int), .int .u64 (G : Int)] 45) := ⟨_, rfl⟩
  have HB1 : Hid (Below N w W1 ∧ N ≤ W1.heap.size) := Lib.hid ⟨by rw [hW1, hN]; exact below_alloc _ _, by rw [hW1, hN]; simp⟩
  have eS : Blk W1 N #[.int .u8 K, .int .i64 D, .int .i64 E, .int .u64 (P : Int), .int .u64 (Q : Int), .int .u64 (G : Int)] 45 := by rw [hW1, hN]; exact Blk.new w _ _
  have HES := Lib.hid eS
  have HV := Lib.hid (fun w => check_any K D E P Q G w hK0 hK1)
  have HN := Lib.hid hN
  have HW1 := Lib.hid hW1
  rw [← hN]
  have c0 : W1.cell? ⟨N, 0, none⟩ = some (.int .u8 K) := eS.cell 0
  have c1 : W1.cell? ⟨N, 1, none⟩ = some (.int .i64 D) := eS.cell 1
  have c2 : W1.cell? ⟨N, 2, none⟩ = some (.int .i64 E) := eS.cell 2
  have c3 : W1.cell? ⟨N, 3, none⟩ = some (.int .u64 (P : Int)) := eS.cell 3
  have c4 : W1.cell? ⟨N, 4, none⟩ = some (.int .u64 (Q : Int)) := eS.cell 4
  have c5 : W1.cell? ⟨N, 5, none⟩ = some (.int .u64 (G : Int)) := eS.cell 5
  rw [hW1, hN] at c0 c1 c2 c3 c4 c5
  clear hN hW1 eS hK0 hK1
  go_enter Try.func34, Try.ntmps34
  go_wp2_with fail
  rw [← HW1.out, ← HN.out]
  refine (HV.out _).mono ?_
  rintro e w2 ⟨rfl, hb2⟩
  have HB2 : Hid (Below N w w2 ∧ N ≤ w2.heap.size) := Lib.hid ⟨HB1.out.1.trans (hb2.mono HB1.out.2), Nat.le_trans HB1.out.2 hb2.size⟩
  have eS := HES.out.keep hb2
  clear c0 c1 c2 c3 c4 c5 hb2
  by_cases h : ScOk K D E P Q G
  · have hs := scc_yes h
    rw [hs]
    have HR : Hid (scc K D E P Q G = 0 ∧ stv K D E P Q G = (plc K D.toNat (2 ^ D.toNat)).length) := Lib.hid ⟨scc_yes h, by unfold stv; rw [scb_yes h, if_pos rfl]⟩
    obtain ⟨h1, h2, hd0, hd6, h5⟩ := h
    clear h1 h2 h5
    obtain ⟨d, rfl⟩ := Int.eq_ofNat_of_zero_le hd0
    have HP : Hid (∀ w, Calls Try.prog 79 #[.agg #[.int .u8 K, .int .i64 (d : Int), .int .i64 E, .int .u64 (P : Int), .int .u64 (Q : Int), .int .u64 (G : Int)], .int .i64 0] w fun e w' => (∃ u, e = .returned u ∧ w'.ownsRow w.heap.size 56 2 u (plc K d (2 ^ d)).length (prs (plc K d (2 ^ d)))) ∧ Below w.heap.size w w') := Lib.hid (fun w => places_any K E d 0 P Q G w (by omega) (Nat.two_pow_pos d))
    have HL : Hid (stv K d E P Q G = (plc K d (2 ^ d)).length) := Lib.hid HR.out.2
    obtain ⟨n, hn⟩ : ∃ n, n = (plc K d (2 ^ d)).length := ⟨_, rfl⟩
    obtain ⟨xs, hxs⟩ : ∃ xs, xs = prs (plc K d (2 ^ d)) := ⟨_, rfl⟩
    rw [← hn] at HL HP
    rw [← hxs] at HP
    have HR0 : Hid (scc K (d : Int) E P Q G = 0) := Lib.hid HR.out.1
    clear hn hxs HR
    have c0 : w2.cell? ⟨N, 0, none⟩ = some (.int .u8 K) := eS.cell 0
    have c1 : w2.cell? ⟨N, 1, none⟩ = some (.int .i64 (d : Int)) := eS.cell 1
    have c2 : w2.cell? ⟨N, 2, none⟩ = some (.int .i64 E) := eS.cell 2
    have c3 : w2.cell? ⟨N, 3, none⟩ = some (.int .u64 (P : Int)) := eS.cell 3
    have c4 : w2.cell? ⟨N, 4, none⟩ = some (.int .u64 (Q : Int)) := eS.cell 4
    have c5 : w2.cell? ⟨N, 5, none⟩ = some (.int .u64 (G : Int)) := eS.cell 5
    clear hs eS hd0 hd6
    go_wp2_with fail
    refine (HP.out _).mono ?_
    rintro e w3 ⟨⟨u, rfl, ho⟩, hb3⟩
    have HB3 : Hid (Below N w w3) := Lib.hid (HB2.out.1.trans (hb3.mono HB2.out.2))
    obtain ⟨A, c, rfl⟩ := own_val ho
    clear c0 c1 c2 c3 c4 c5 hb3 ho
    go_wp2_with fail
    go_ret2
    exact ⟨by rw [HR0.out, HL.out]; try rfl, HB3.out⟩
  · have hs := scc_no h
    rw [hs]
    have HR : Hid (scc K D E P Q G = 30 ∧ stv K D E P Q G = 0) := Lib.hid ⟨scc_no h, by unfold stv; rw [scb_no h]; rfl⟩
    clear h hs eS
    go_wp2_with fail
    go_ret2
    exact ⟨by rw [HR.out.1, HR.out.2]; rfl, HB2.out.1⟩

end Go.Proofs.Ytchkgccnipejhaa
