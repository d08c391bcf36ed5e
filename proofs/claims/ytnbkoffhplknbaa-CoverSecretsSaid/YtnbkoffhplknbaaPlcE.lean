/-
  The places of a receiver's labels, the specification's: the other schemes.
-/
import Derived.Test.YtnbkoffhplknbaaPlcD
namespace Go.Proofs.Ytnbkoffhplknbaa
open Go.RowKit TR
set_option linter.unusedVariables false
set_option linter.unusedSimpArgs false

set_option maxRecDepth 100000 in
set_option maxHeartbeats 8000000 in
theorem refLabels_more (Kd E : Int) (d r P Q G : Nat) (w : World) (hd : d < 7) (hr : r < 2 ^ d) (hKd : Kd ≠ 1) :
    Calls Try.prog 91 #[.agg #[.int .u8 Kd, .int .i64 (d : Int), .int .i64 E, .int .u64 (P : Int), .int .u64 (Q : Int), .int .u64 (G : Int)], .int .i64 (r : Int)] w fun e w' => (∃ u, e = .returned u ∧ w'.ownsRow w.heap.size 35 2 u (plc Kd d (2 ^ d + r)).length (prs (plc Kd d (2 ^ d + r)))) ∧ Below w.heap.size w w' := by
  have hKn : (Kd == 1) = false := beq_eq_false_iff_ne.2 hKd
  have HK := Lib.hid hKd
  have HIs := Lib.hid (fun (a b : Int) w => refIsSubset_any Kd E a b d P Q G w hd)
  obtain ⟨i0, hi, hz0, hz1, hz2⟩ := info_parts infoSub
  have HI := Lib.hid (And.intro hi (And.intro hz0 (And.intro hz1 hz2)))
  have h64 := p64 hd
  have hly := leaf_lv hd hr
  have HR := Lib.hid (fun w => receivers_any d w hd)
  have HPa := Lib.hid (fun w => path_leaf d r hd hr w)
  obtain ⟨y, hy⟩ : ∃ y, y = 2 ^ d + r := ⟨_, rfl⟩
  rw [← hy] at hly HPa ⊢
  have hy1 : 1 ≤ y := by omega
  have hy2 : y < 128 := by omega
  have HY := Lib.hid (And.intro hy1 (And.intro hy2 hly))
  have HPL : Hid (plc Kd d y = plf Kd d y (List.range (d + 1))) := Lib.hid (by unfold plc; rw [hly])
  rw [HPL.out]
  have HLn := Lib.hid (fun ls => plf_len Kd d y (by omega) ls)
  have HRn := Lib.hid (fun (k : Nat) => plf_snoc Kd d y (List.range k) k)
  obtain ⟨N, hN⟩ : ∃ N, N = w.heap.size := ⟨_, rfl⟩
  obtain ⟨W1, hW1⟩ : ∃ W1, W1 = w.alloc (.cells #[.int .u8 Kd, .int .i64 (d : Int), .int .i64 E, .int .u64 (P : Int), .int .u64 (Q : Int), .int .u64 (G : Int)] 28) := ⟨_, rfl⟩
  have s1 : W1.heap.size = N + 1 := by rw [hW1, hN]; simp
  have b1 : Below N w W1 := by rw [hW1, hN]; exact below_alloc _ _
  have eS : Blk W1 N #[.int .u8 Kd, .int .i64 (d : Int), .int .i64 E, .int .u64 (P : Int), .int .u64 (Q : Int), .int .u64 (G : Int)] 28 := by rw [hW1, hN]; exact Blk.new w _ _
  have HE1 := Lib.hid (And.intro s1 (And.intro b1 eS))
  have HN := Lib.hid hN
  have HW1 := Lib.hid hW1
  have HD := Lib.hid (And.intro hd hr)
  rw [← hN]
  have c0 : W1.cell? ⟨N, 0, none⟩ = some (.int .u8 Kd) := eS.cell 0
  have c1 : W1.cell? ⟨N, 1, none⟩ = some (.int .i64 (d : Int)) := eS.cell 1
  rw [hW1, hN] at c0 c1
  obtain ⟨T, hT⟩ : ∃ T, T = 2 ^ d := ⟨_, rfl⟩
  rw [← hT] at HR hy hr h64
  have hyT : ((T : Int) + (r : Int)) = (y : Int) := by omega
  have HyT := Lib.hid hyT
  have hr64 : (r : Int) ≤ 128 := by omega
  have hd7 : d ≤ 6 := by omega
  clear hN hW1 s1 b1 eS hi hz0 hz1 hz2 hly hy hd hr hT hyT
  go_enter Try.func91, Try.ntmps91
  go_wp2_with fail
  rw [← HW1.out, ← HN.out]
  refine (HR.out _).mono ?_
  rintro e w0 ⟨rfl, rfl⟩
  clear c0 c1
  have c0 : W1.cell? ⟨N, 0, none⟩ = some (.int .u8 Kd) := HE1.out.2.2.cell 0
  have hT64 : (T : Int) ≤ 64 := by omega
  go_wp2_with fail
  rw [HyT.out]
  refine (HPa.out _).mono ?_
  rintro e w2 ⟨⟨g, c, rfl, q1, q2, q3, q4⟩, hb2⟩
  have HCl : Hid (∀ w1, Below w2.heap.size w2 w1 → ∀ i, i < d + 1 → w1.cell? ⟨g, i, none⟩ = some (.int .i64 (nat_ y i : Int))) := Lib.hid (fun w1 hb i hi => (hb.cell (p := ⟨g, i, none⟩) (World.block_lt_of_cell? w2 _ (q4 i hi))).trans (q4 i hi))
  have HE2 : Hid (N + 1 ≤ w2.heap.size ∧ Below N w w2 ∧ Blk w2 N #[.int .u8 Kd, .int .i64 (d : Int), .int .i64 E, .int .u64 (P : Int), .int .u64 (Q : Int), .int .u64 (G : Int)] 28) := Lib.hid ⟨by rw [← HE1.out.1]; exact hb2.size, HE1.out.2.1.trans (hb2.mono (by rw [HE1.out.1]; omega)), HE1.out.2.2.keep hb2⟩
  clear c0 q1 q4 hb2
  have c0 : w2.cell? ⟨N, 0, none⟩ = some (.int .u8 Kd) := HE2.out.2.2.cell 0
  have HR1 : Hid (∀ k, rowl Kd d y k = rls Kd d y k (lvl (k + 1) (d - k))) := Lib.hid (fun k => by unfold rowl; rw [if_neg HK.out, rls_rin, HY.out.2.2])
  have HLS := Lib.hid (fun l ls => rls_len Kd d y l ls)
  have HLSn := Lib.hid (fun l ls m => rls_snoc Kd d y l ls m)
  have HNo := Lib.hid (fun (k : Nat) (hk : k ≤ d) => (nat_ok y k HY.out.1 (by have := HY.out.2.1; omega) (by rw [HY.out.2.2]; exact hk)))
  have hp0 : plf Kd d y (List.range 0) = [(1, 0)] := by unfold plf pre0; rw [if_neg HK.out]; rfl
  have HP0 := Lib.hid hp0
  clear hp0 hKd
  have ho : w2.ownsRow w2.heap.size 35 2 (.slice none 0 0) 0 [] := World.ownsRow_nil _ _ _ _
  have hA := below_alloc w2 (.cells #[.int .i64 1, .int .i64 0] 35)
  have ho2 := own_below ho hA
  have hone : ∀ u ∈ [Value.int .i64 1, Value.int .i64 0], u.oneCell' = true := by intro u hu; simp at hu; rcases hu with rfl | rfl <;> rfl
  have h63 : 0 + 1 ≤ maxLen := by unfold maxLen; omega
  have hby : (0 + 1) * 16 ≤ 140737488355328 := by omega
  have hbs : w2.heap.size ≤ (w2.alloc (.cells #[.int .i64 1, .int .i64 0] 35)).heap.size := by first | (simp; done) | (simp; omega)
  have hnew : ∀ t u, [Value.int .i64 1, Value.int .i64 0][t]? = some u → (w2.alloc (.cells #[.int .i64 1, .int .i64 0] 35)).cell? ((⟨w2.heap.size, 0, none⟩ : Addr).add t) = some u := fun t u hu => by
    rw [Addr.add_mid, Nat.zero_add, (Blk.new w2 _ 35).cell t]; simpa using hu
  obtain ⟨hi, hz0, hz1, hz2⟩ := HI.out
  go_wp2_with (first
    | (at_builtin; refine wpList_append_own _ rfl _ _ 39 rfl w2.heap.size 35 i0 _ 2 16 Try.underlying39 hi hz0 hz1 hz2 rfl (by omega) _ _ _ rfl ho2 ⟨w2.heap.size, 0, none⟩ 1 1 [.int .i64 1, .int .i64 0] rfl rfl hnew hone h63 hby hbs ?_; intro v1 w6 hown6 hg6 _))
  have HB6 : Hid (Below w2.heap.size w2 w6 ∧ w2.heap.size ≤ w6.heap.size) := Lib.hid ⟨hA.grown hg6 hbs (fun b hb => own_block ho2 hb.symm), Nat.le_trans hbs hg6.size⟩
  have HO6 := Lib.hid hown6
  have HS6 := Lib.hid (Blk.keep HE2.out.2.2 HB6.out.1)
  clear hA ho ho2 hone h63 hby hbs hnew hi hz0 hz1 hz2 hown6 hg6 c0 hKn
  go_loopw [5, 8] (fun u i wr => ∃ (k : Nat), k ≤ d + 1 ∧ i = .int .i64 (k : Int) ∧ Hid (wr.ownsRow w2.heap.size 35 2 u (plf Kd d y (List.range k)).length (prs (plf Kd d y (List.range k)))) ∧ Hid (Below w2.heap.size w2 wr)) (fun _ i _ => d + 2 - (intOf i).toNat)
  case atStart => exact ⟨0, by omega, rfl, Lib.hid (by rw [HP0.out]; exact HO6.out), Lib.hid HB6.out.1⟩
  case round =>
    obtain ⟨k, hk, rfl, HO, HBr⟩ := hrel
    have hln := HLn.out (List.range k)
    rw [List.length_range] at hln
    by_cases hlt : k < d + 1
    · have HSn : Hid (plf Kd d y (List.range (k + 1)) = plf Kd d y (List.range k) ++ rls Kd d y k (lvl (k + 1) (d - k))) := Lib.hid (by rw [List.range_succ, HRn.out, HR1.out])
      have HLSk := Lib.hid (HLS.out k)
      have HLSnk := Lib.hid (HLSn.out k)
      have hnz := HNo.out k (by omega)
      obtain ⟨z, hz⟩ : ∃ z, z = nat_ y k := ⟨_, rfl⟩
      have HZ := Lib.hid hz
      rw [← hz] at HLSnk hnz
      obtain ⟨ps, hps⟩ : ∃ ps, ps = plf Kd d y (List.range k) := ⟨_, rfl⟩
      rw [← hps] at HO HSn hln
      have hps64 : ps.length ≤ 64 := by omega
      have l3 : (k : Int) < (d : Int) + 1 := by omega
      have l4 : (0 : Int) ≤ (k : Int) := by omega
      have hz256 : z < 256 := by omega
      clear hps hz hln hnz hk
      go_wp2_with fail
      go_loopw [5, 9] (fun u i wr => ∃ (m : Nat), m ≤ d - k ∧ i = .int .i64 ((k + 1 + m : Nat) : Int) ∧ Hid (wr.ownsRow w2.heap.size 35 2 u (ps ++ rls Kd d y k (lvl (k + 1) m)).length (prs (ps ++ rls Kd d y k (lvl (k + 1) m)))) ∧ Hid (Below w2.heap.size w2 wr)) (fun _ i _ => d + 2 - (intOf i).toNat)
      case atStart => exact ⟨0, by omega, by go_num, Lib.hid (by rw [show ps ++ rls Kd d y k (lvl (k + 1) 0) = ps by unfold rls lvl; simp]; exact HO.out), HBr⟩
      case round =>
        obtain ⟨m, hm, rfl, HO1, HBq⟩ := hrel
        obtain ⟨j, hj⟩ : ∃ j, j = k + 1 + m := ⟨_, rfl⟩
        rw [← hj]
        by_cases hltj : j < d + 1
        · have hln2 := HLSk.out (lvl (k + 1) m)
          rw [show (lvl (k + 1) m).length = m by unfold lvl; simp] at hln2
          have hsn := HLSnk.out (lvl (k + 1) m) j
          rw [show lvl (k + 1) m ++ [j] = lvl (k + 1) (m + 1) by rw [lvl_snoc, hj]] at hsn
          have hnj := HNo.out j (by omega)
          have g1 : ∀ w1, Below wr.heap.size wr w1 → True := fun _ _ => trivial
          obtain ⟨q, hq⟩ : ∃ q, q = nat_ y j := ⟨_, rfl⟩
          have HQ := Lib.hid hq
          rw [← hq] at hsn hnj
          have hq256 : q < 256 := by have := HY.out.2.1; omega
          have hx1 := xor_one q hq256
          obtain ⟨s, hs⟩ : ∃ s, s = q ^^^ 1 := ⟨_, rfl⟩
          rw [← hs] at hsn hx1
          obtain ⟨qs, hqs⟩ : ∃ qs, qs = ps ++ rls Kd d y k (lvl (k + 1) m) := ⟨_, rfl⟩
          have HFin : Hid (ps ++ rls Kd d y k (lvl (k + 1) (m + 1)) = qs ++ (if isb Kd d (z : Int) (s : Int) = true then [(z, s)] else [])) := Lib.hid (by rw [hsn, hqs, List.append_assoc])
          have hq80 : qs.length ≤ 80 := by rw [hqs, List.length_append]; omega
          rw [← hqs] at HO1
          obtain ⟨L, hL⟩ : ∃ L, L = qs.length := ⟨_, rfl⟩
          obtain ⟨xs, hxs⟩ : ∃ xs, xs = prs qs := ⟨_, rfl⟩
          have HQS := Lib.hid (And.intro hL hxs)
          rw [← hL] at HO1 hq80
          rw [← hxs] at HO1
          have l5 : (j : Int) < (d : Int) + 1 := by omega
          have l6 : (0 : Int) ≤ (j : Int) := by omega
          have HJ := Lib.hid (And.intro hj (And.intro hm hltj))
          have hsq : w2.heap.size ≤ wr.heap.size := HBq.out.size
          clear hqs hL hxs hs hq hsn hln2 hnj hj g1
          go_wp2_with fail
          refine wp_region_inv (by kernel_rfl) (by kernel_rfl) (fun l a w' => ∃ (xb : Nat) (w1 : World), a = { tmps := #[Value.agg #[Value.int IntKind.u8 Kd, Value.int IntKind.i64 d, Value.int IntKind.i64 E, Value.int IntKind.u64 P, Value.int IntKind.u64 Q, Value.int IntKind.u64 G], Value.int .i64 (r : Int), Value.pointer (some ⟨N, 0, none⟩), undef, Value.slice none 0 0, u5, Value.slice (some ⟨g, 0, none⟩) (d + 1) c, undef, Value.int .i64 (k : Int), Value.int .i64 (j : Int), bif l 10 then Value.pointer (some ⟨xb, 0, none⟩) else u10, Value.pointer (some ⟨N, 1, none⟩), Value.int .i64 (d : Int), Value.int .i64 (T : Int), Value.int .i64 (r : Int), Value.int .i64 (y : Int), Value.slice (some ⟨g, 0, none⟩) (d + 1) c, Value.pointer (some ⟨N, 0, none⟩), Value.int .u8 (Kd : Int), Value.bool false, undef, undef, undef, undef, undef, undef, undef, undef, undef, undef, undef, undef, undef, undef, undef, Value.slice none 0 0, Value.agg #[Value.int IntKind.i64 1, Value.int IntKind.i64 0], Value.slice (some ⟨w2.heap.size, 0, none⟩) 1 1, v1, Value.int .i64 (k : Int), Value.slice (some ⟨g, 0, none⟩) (d + 1) c, Value.int .i64 (d + 1 : Int), Value.bool true, u43, u44, Value.int .i64 (k : Int), Value.int .i64 (k + 1 : Int), Value.int .i64 (j : Int), Value.slice (some ⟨g, 0, none⟩) (d + 1) c, Value.int .i64 (d + 1 : Int), Value.bool true, u51, u52, bif l 0 then Value.slice (some ⟨g, 0, none⟩) (d + 1) c else u53, bif l 1 then Value.int .i64 (k : Int) else u54, bif l 2 then Value.pointer (some ⟨g, k, none⟩) else u55, bif l 3 then Value.int .i64 (z : Int) else u56, bif l 4 then Value.slice (some ⟨g, 0, none⟩) (d + 1) c else u57, bif l 5 then Value.int .i64 (j : Int) else u58, bif l 6 then Value.pointer (some ⟨g, j, none⟩) else u59, bif l 7 then Value.int .i64 (q : Int) else u60, bif l 8 then Value.int .i64 (s : Int) else u61, bif l 9 then Value.agg #[.int .i64 (z : Int), .int .i64 (s : Int)] else u62, u63, u64, u65, u66, u67, u68, u69, undef], defers := [] } ∧ Below wr.heap.size wr w1 ∧ (l 10 = true → wr.heap.size ≤ xb ∧ Blk w1 xb #[.int .i64 0, .int .i64 0] 35) ∧ w' = (bif l 11 then w1.setCells xb 0 [.int .i64 (z : Int), .int .i64 (s : Int)] else w1) ∧ (l 11 = true → (l 10 && l 9) = true) ∧ (l 9 = true → (l 3 && l 8) = true) ∧ (l 8 = true → l 7 = true) ∧ (l 7 = true → l 6 = true) ∧ (l 6 = true → (l 4 && l 5) = true) ∧ (l 3 = true → l 2 = true) ∧ (l 2 = true → (l 0 && l 1) = true)) ⟨0, wr.drew, rfl, (Below.refl _ _).drew, (fun h => by cases h), rfl, (fun h => by cases h), (fun h => by cases h), (fun h => by cases h), (fun h => by cases h), (fun h => by cases h), (fun h => by cases h), (fun h => by cases h)⟩ ?_ ?_
          · rintro l a w' i ⟨xb, w1, rfl, hB, hX, hw, o11, o9, o8, o7, o6, o3, o2⟩ hi hli hpre
            have hi2 : i < 12 := hi
            have hcase : i = 0 ∨ i = 1 ∨ i = 2 ∨ i = 3 ∨ i = 4 ∨ i = 5 ∨ i = 6 ∨ i = 7 ∨ i = 8 ∨ i = 9 ∨ i = 10 ∨ i = 11 := by omega
            clear hi hi2
            have n11 : l 11 = false := by
              cases h : l 11
              · rfl
              · exfalso
                have h11 := o11 h
                simp only [Bool.and_eq_true] at h11
                have h9 := o9 h11.2
                simp only [Bool.and_eq_true] at h9
                have h8 := o8 h9.2
                have h7 := o7 h8
                have h6 := o6 h7
                simp only [Bool.and_eq_true] at h6
                have h3 := o3 h9.1
                have h2 := o2 h3
                simp only [Bool.and_eq_true] at h2
                rcases hcase with rfl | rfl | rfl | rfl | rfl | rfl | rfl | rfl | rfl | rfl | rfl | rfl <;> simp_all
            rw [n11, cond_false] at hw
            subst hw
            have gk := HCl.out w' (HBq.out.trans (hB.mono hsq)) k (by omega)
            have gj := HCl.out w' (HBq.out.trans (hB.mono hsq)) j (by omega)
            rw [← HZ.out] at gk
            rw [← HQ.out] at gj
            rcases hcase with rfl | rfl | rfl | rfl | rfl | rfl | rfl | rfl | rfl | rfl | rfl | rfl
            · -- 0
              refine wpOp_step rfl (fun K hK => ?_)
              clear hpre
              rw [if_pos (by rfl)]
              go_simp
              exact hK _ _ ⟨xb, w', by simp [upd, Act.put, n11], hB, (fun e => hX (by simpa [upd] using e)), by simp [upd, n11], (by first | (simp [upd, n11]; done) | (intro e; have h := o11 (by simpa [upd] using e); simp_all [upd]; done) | simpa [upd, n11] using o11), (by first | (simp [upd, n11]; done) | (intro e; have h := o9 (by simpa [upd] using e); simp_all [upd]; done) | simpa [upd, n11] using o9), (by first | (simp [upd, n11]; done) | (intro e; have h := o8 (by simpa [upd] using e); simp_all [upd]; done) | simpa [upd, n11] using o8), (by first | (simp [upd, n11]; done) | (intro e; have h := o7 (by simpa [upd] using e); simp_all [upd]; done) | simpa [upd, n11] using o7), (by first | (simp [upd, n11]; done) | (intro e; have h := o6 (by simpa [upd] using e); simp_all [upd]; done) | simpa [upd, n11] using o6), (by first | (simp [upd, n11]; done) | (intro e; have h := o3 (by simpa [upd] using e); simp_all [upd]; done) | simpa [upd, n11] using o3), (by first | (simp [upd, n11]; done) | (intro e; have h := o2 (by simpa [upd] using e); simp_all [upd]; done) | simpa [upd, n11] using o2)⟩
            · -- 1
              refine wpOp_step rfl (fun K hK => ?_)
              clear hpre
              rw [if_pos (by rfl)]
              go_simp
              exact hK _ _ ⟨xb, w', by simp [upd, Act.put, n11], hB, (fun e => hX (by simpa [upd] using e)), by simp [upd, n11], (by first | (simp [upd, n11]; done) | (intro e; have h := o11 (by simpa [upd] using e); simp_all [upd]; done) | simpa [upd, n11] using o11), (by first | (simp [upd, n11]; done) | (intro e; have h := o9 (by simpa [upd] using e); simp_all [upd]; done) | simpa [upd, n11] using o9), (by first | (simp [upd, n11]; done) | (intro e; have h := o8 (by simpa [upd] using e); simp_all [upd]; done) | simpa [upd, n11] using o8), (by first | (simp [upd, n11]; done) | (intro e; have h := o7 (by simpa [upd] using e); simp_all [upd]; done) | simpa [upd, n11] using o7), (by first | (simp [upd, n11]; done) | (intro e; have h := o6 (by simpa [upd] using e); simp_all [upd]; done) | simpa [upd, n11] using o6), (by first | (simp [upd, n11]; done) | (intro e; have h := o3 (by simpa [upd] using e); simp_all [upd]; done) | simpa [upd, n11] using o3), (by first | (simp [upd, n11]; done) | (intro e; have h := o2 (by simpa [upd] using e); simp_all [upd]; done) | simpa [upd, n11] using o2)⟩
            · -- 2
              have p0 : l 0 = true := hpre _ rfl ⟨0, .data⟩ (by simp) rfl
              have p1 : l 1 = true := hpre _ rfl ⟨1, .data⟩ (by simp) rfl
              refine wpOp_step rfl (fun K hK => ?_)
              simp only [p0, p1, cond_true]
              clear hpre
              rw [if_pos (by rfl)]
              go_simp
              exact hK _ _ ⟨xb, w', by simp [upd, Act.put, p0, p1, n11], hB, (fun e => hX (by simpa [upd] using e)), by simp [upd, n11], (by first | (simp [upd, p0, p1, n11]; done) | (intro e; have h := o11 (by simpa [upd] using e); simp_all [upd]; done) | simpa [upd, p0, p1, n11] using o11), (by first | (simp [upd, p0, p1, n11]; done) | (intro e; have h := o9 (by simpa [upd] using e); simp_all [upd]; done) | simpa [upd, p0, p1, n11] using o9), (by first | (simp [upd, p0, p1, n11]; done) | (intro e; have h := o8 (by simpa [upd] using e); simp_all [upd]; done) | simpa [upd, p0, p1, n11] using o8), (by first | (simp [upd, p0, p1, n11]; done) | (intro e; have h := o7 (by simpa [upd] using e); simp_all [upd]; done) | simpa [upd, p0, p1, n11] using o7), (by first | (simp [upd, p0, p1, n11]; done) | (intro e; have h := o6 (by simpa [upd] using e); simp_all [upd]; done) | simpa [upd, p0, p1, n11] using o6), (by first | (simp [upd, p0, p1, n11]; done) | (intro e; have h := o3 (by simpa [upd] using e); simp_all [upd]; done) | simpa [upd, p0, p1, n11] using o3), (by first | (simp [upd, p0, p1, n11]; done) | (intro e; have h := o2 (by simpa [upd] using e); simp_all [upd]; done) | simpa [upd, p0, p1, n11] using o2)⟩
            · -- 3
              have p2 : l 2 = true := hpre _ rfl ⟨2, .data⟩ (by simp) rfl
              have r2 := o2 p2
              simp only [Bool.and_eq_true] at r2
              obtain ⟨p0, p1⟩ := r2
              refine wpOp_step rfl (fun K hK => ?_)
              simp only [p2, p0, p1, cond_true]
              clear hpre
              rw [if_pos (by rfl)]
              go_simp
              exact hK _ _ ⟨xb, w', by simp [upd, Act.put, p2, p0, p1, n11], hB, (fun e => hX (by simpa [upd] using e)), by simp [upd, n11], (by first | (simp [upd, p2, p0, p1, n11]; done) | (intro e; have h := o11 (by simpa [upd] using e); simp_all [upd]; done) | simpa [upd, p2, p0, p1, n11] using o11), (by first | (simp [upd, p2, p0, p1, n11]; done) | (intro e; have h := o9 (by simpa [upd] using e); simp_all [upd]; done) | simpa [upd, p2, p0, p1, n11] using o9), (by first | (simp [upd, p2, p0, p1, n11]; done) | (intro e; have h := o8 (by simpa [upd] using e); simp_all [upd]; done) | simpa [upd, p2, p0, p1, n11] using o8), (by first | (simp [upd, p2, p0, p1, n11]; done) | (intro e; have h := o7 (by simpa [upd] using e); simp_all [upd]; done) | simpa [upd, p2, p0, p1, n11] using o7), (by first | (simp [upd, p2, p0, p1, n11]; done) | (intro e; have h := o6 (by simpa [upd] using e); simp_all [upd]; done) | simpa [upd, p2, p0, p1, n11] using o6), (by first | (simp [upd, p2, p0, p1, n11]; done) | (intro e; have h := o3 (by simpa [upd] using e); simp_all [upd]; done) | simpa [upd, p2, p0, p1, n11] using o3), (by first | (simp [upd, p2, p0, p1, n11]; done) | (intro e; have h := o2 (by simpa [upd] using e); simp_all [upd]; done) | simpa [upd, p2, p0, p1, n11] using o2)⟩
            · -- 4
              refine wpOp_step rfl (fun K hK => ?_)
              clear hpre
              rw [if_pos (by rfl)]
              go_simp
              exact hK _ _ ⟨xb, w', by simp [upd, Act.put, n11], hB, (fun e => hX (by simpa [upd] using e)), by simp [upd, n11], (by first | (simp [upd, n11]; done) | (intro e; have h := o11 (by simpa [upd] using e); simp_all [upd]; done) | simpa [upd, n11] using o11), (by first | (simp [upd, n11]; done) | (intro e; have h := o9 (by simpa [upd] using e); simp_all [upd]; done) | simpa [upd, n11] using o9), (by first | (simp [upd, n11]; done) | (intro e; have h := o8 (by simpa [upd] using e); simp_all [upd]; done) | simpa [upd, n11] using o8), (by first | (simp [upd, n11]; done) | (intro e; have h := o7 (by simpa [upd] using e); simp_all [upd]; done) | simpa [upd, n11] using o7), (by first | (simp [upd, n11]; done) | (intro e; have h := o6 (by simpa [upd] using e); simp_all [upd]; done) | simpa [upd, n11] using o6), (by first | (simp [upd, n11]; done) | (intro e; have h := o3 (by simpa [upd] using e); simp_all [upd]; done) | simpa [upd, n11] using o3), (by first | (simp [upd, n11]; done) | (intro e; have h := o2 (by simpa [upd] using e); simp_all [upd]; done) | simpa [upd, n11] using o2)⟩
            · -- 5
              refine wpOp_step rfl (fun K hK => ?_)
              clear hpre
              rw [if_pos (by rfl)]
              go_simp
              exact hK _ _ ⟨xb, w', by simp [upd, Act.put, n11], hB, (fun e => hX (by simpa [upd] using e)), by simp [upd, n11], (by first | (simp [upd, n11]; done) | (intro e; have h := o11 (by simpa [upd] using e); simp_all [upd]; done) | simpa [upd, n11] using o11), (by first | (simp [upd, n11]; done) | (intro e; have h := o9 (by simpa [upd] using e); simp_all [upd]; done) | simpa [upd, n11] using o9), (by first | (simp [upd, n11]; done) | (intro e; have h := o8 (by simpa [upd] using e); simp_all [upd]; done) | simpa [upd, n11] using o8), (by first | (simp [upd, n11]; done) | (intro e; have h := o7 (by simpa [upd] using e); simp_all [upd]; done) | simpa [upd, n11] using o7), (by first | (simp [upd, n11]; done) | (intro e; have h := o6 (by simpa [upd] using e); simp_all [upd]; done) | simpa [upd, n11] using o6), (by first | (simp [upd, n11]; done) | (intro e; have h := o3 (by simpa [upd] using e); simp_all [upd]; done) | simpa [upd, n11] using o3), (by first | (simp [upd, n11]; done) | (intro e; have h := o2 (by simpa [upd] using e); simp_all [upd]; done) | simpa [upd, n11] using o2)⟩
            · -- 6
              have p4 : l 4 = true := hpre _ rfl ⟨4, .data⟩ (by simp) rfl
              have p5 : l 5 = true := hpre _ rfl ⟨5, .data⟩ (by simp) rfl
              refine wpOp_step rfl (fun K hK => ?_)
              simp only [p4, p5, cond_true]
              clear hpre
              rw [if_pos (by rfl)]
              go_simp
              exact hK _ _ ⟨xb, w', by simp [upd, Act.put, p4, p5, n11], hB, (fun e => hX (by simpa [upd] using e)), by simp [upd, n11], (by first | (simp [upd, p4, p5, n11]; done) | (intro e; have h := o11 (by simpa [upd] using e); simp_all [upd]; done) | simpa [upd, p4, p5, n11] using o11), (by first | (simp [upd, p4, p5, n11]; done) | (intro e; have h := o9 (by simpa [upd] using e); simp_all [upd]; done) | simpa [upd, p4, p5, n11] using o9), (by first | (simp [upd, p4, p5, n11]; done) | (intro e; have h := o8 (by simpa [upd] using e); simp_all [upd]; done) | simpa [upd, p4, p5, n11] using o8), (by first | (simp [upd, p4, p5, n11]; done) | (intro e; have h := o7 (by simpa [upd] using e); simp_all [upd]; done) | simpa [upd, p4, p5, n11] using o7), (by first | (simp [upd, p4, p5, n11]; done) | (intro e; have h := o6 (by simpa [upd] using e); simp_all [upd]; done) | simpa [upd, p4, p5, n11] using o6), (by first | (simp [upd, p4, p5, n11]; done) | (intro e; have h := o3 (by simpa [upd] using e); simp_all [upd]; done) | simpa [upd, p4, p5, n11] using o3), (by first | (simp [upd, p4, p5, n11]; done) | (intro e; have h := o2 (by simpa [upd] using e); simp_all [upd]; done) | simpa [upd, p4, p5, n11] using o2)⟩
            · -- 7
              have p6 : l 6 = true := hpre _ rfl ⟨6, .data⟩ (by simp) rfl
              have r6 := o6 p6
              simp only [Bool.and_eq_true] at r6
              obtain ⟨p4, p5⟩ := r6
              refine wpOp_step rfl (fun K hK => ?_)
              simp only [p6, p4, p5, cond_true]
              clear hpre
              rw [if_pos (by rfl)]
              go_simp
              exact hK _ _ ⟨xb, w', by simp [upd, Act.put, p6, p4, p5, n11], hB, (fun e => hX (by simpa [upd] using e)), by simp [upd, n11], (by first | (simp [upd, p6, p4, p5, n11]; done) | (intro e; have h := o11 (by simpa [upd] using e); simp_all [upd]; done) | simpa [upd, p6, p4, p5, n11] using o11), (by first | (simp [upd, p6, p4, p5, n11]; done) | (intro e; have h := o9 (by simpa [upd] using e); simp_all [upd]; done) | simpa [upd, p6, p4, p5, n11] using o9), (by first | (simp [upd, p6, p4, p5, n11]; done) | (intro e; have h := o8 (by simpa [upd] using e); simp_all [upd]; done) | simpa [upd, p6, p4, p5, n11] using o8), (by first | (simp [upd, p6, p4, p5, n11]; done) | (intro e; have h := o7 (by simpa [upd] using e); simp_all [upd]; done) | simpa [upd, p6, p4, p5, n11] using o7), (by first | (simp [upd, p6, p4, p5, n11]; done) | (intro e; have h := o6 (by simpa [upd] using e); simp_all [upd]; done) | simpa [upd, p6, p4, p5, n11] using o6), (by first | (simp [upd, p6, p4, p5, n11]; done) | (intro e; have h := o3 (by simpa [upd] using e); simp_all [upd]; done) | simpa [upd, p6, p4, p5, n11] using o3), (by first | (simp [upd, p6, p4, p5, n11]; done) | (intro e; have h := o2 (by simpa [upd] using e); simp_all [upd]; done) | simpa [upd, p6, p4, p5, n11] using o2)⟩
            · -- 8
              have p7 : l 7 = true := hpre _ rfl ⟨7, .data⟩ (by simp) rfl
              have p6 := o7 p7
              have r6 := o6 p6
              simp only [Bool.and_eq_true] at r6
              obtain ⟨p4, p5⟩ := r6
              refine wpOp_step rfl (fun K hK => ?_)
              simp only [p7, p6, p4, p5, cond_true]
              clear hpre
              rw [if_pos (by rfl)]
              go_simp
              exact hK _ _ ⟨xb, w', by simp [upd, Act.put, p7, p6, p4, p5, hx1, n11], hB, (fun e => hX (by simpa [upd] using e)), by simp [upd, n11], (by first | (simp [upd, p7, p6, p4, p5, hx1, n11]; done) | (intro e; have h := o11 (by simpa [upd] using e); simp_all [upd]; done) | simpa [upd, p7, p6, p4, p5, hx1, n11] using o11), (by first | (simp [upd, p7, p6, p4, p5, hx1, n11]; done) | (intro e; have h := o9 (by simpa [upd] using e); simp_all [upd]; done) | simpa [upd, p7, p6, p4, p5, hx1, n11] using o9), (by first | (simp [upd, p7, p6, p4, p5, hx1, n11]; done) | (intro e; have h := o8 (by simpa [upd] using e); simp_all [upd]; done) | simpa [upd, p7, p6, p4, p5, hx1, n11] using o8), (by first | (simp [upd, p7, p6, p4, p5, hx1, n11]; done) | (intro e; have h := o7 (by simpa [upd] using e); simp_all [upd]; done) | simpa [upd, p7, p6, p4, p5, hx1, n11] using o7), (by first | (simp [upd, p7, p6, p4, p5, hx1, n11]; done) | (intro e; have h := o6 (by simpa [upd] using e); simp_all [upd]; done) | simpa [upd, p7, p6, p4, p5, hx1, n11] using o6), (by first | (simp [upd, p7, p6, p4, p5, hx1, n11]; done) | (intro e; have h := o3 (by simpa [upd] using e); simp_all [upd]; done) | simpa [upd, p7, p6, p4, p5, hx1, n11] using o3), (by first | (simp [upd, p7, p6, p4, p5, hx1, n11]; done) | (intro e; have h := o2 (by simpa [upd] using e); simp_all [upd]; done) | simpa [upd, p7, p6, p4, p5, hx1, n11] using o2)⟩
            · -- 9
              have p3 : l 3 = true := hpre _ rfl ⟨3, .data⟩ (by simp) rfl
              have p8 : l 8 = true := hpre _ rfl ⟨8, .data⟩ (by simp) rfl
              have p7 := o8 p8
              have p6 := o7 p7
              have r6 := o6 p6
              simp only [Bool.and_eq_true] at r6
              obtain ⟨p4, p5⟩ := r6
              have p2 := o3 p3
              have r2 := o2 p2
              simp only [Bool.and_eq_true] at r2
              obtain ⟨p0, p1⟩ := r2
              refine wpOp_step rfl (fun K hK => ?_)
              simp only [p3, p8, p7, p6, p4, p5, p2, p0, p1, cond_true]
              clear hpre
              rw [if_pos (by rfl)]
              go_simp
              exact hK _ _ ⟨xb, w', by simp [upd, Act.put, p3, p8, p7, p6, p4, p5, p2, p0, p1, n11], hB, (fun e => hX (by simpa [upd] using e)), by simp [upd, n11], (by first | (simp [upd, p3, p8, p7, p6, p4, p5, p2, p0, p1, n11]; done) | (intro e; have h := o11 (by simpa [upd] using e); simp_all [upd]; done) | simpa [upd, p3, p8, p7, p6, p4, p5, p2, p0, p1, n11] using o11), (by first | (simp [upd, p3, p8, p7, p6, p4, p5, p2, p0, p1, n11]; done) | (intro e; have h := o9 (by simpa [upd] using e); simp_all [upd]; done) | simpa [upd, p3, p8, p7, p6, p4, p5, p2, p0, p1, n11] using o9), (by first | (simp [upd, p3, p8, p7, p6, p4, p5, p2, p0, p1, n11]; done) | (intro e; have h := o8 (by simpa [upd] using e); simp_all [upd]; done) | simpa [upd, p3, p8, p7, p6, p4, p5, p2, p0, p1, n11] using o8), (by first | (simp [upd, p3, p8, p7, p6, p4, p5, p2, p0, p1, n11]; done) | (intro e; have h := o7 (by simpa [upd] using e); simp_all [upd]; done) | simpa [upd, p3, p8, p7, p6, p4, p5, p2, p0, p1, n11] using o7), (by first | (simp [upd, p3, p8, p7, p6, p4, p5, p2, p0, p1, n11]; done) | (intro e; have h := o6 (by simpa [upd] using e); simp_all [upd]; done) | simpa [upd, p3, p8, p7, p6, p4, p5, p2, p0, p1, n11] using o6), (by first | (simp [upd, p3, p8, p7, p6, p4, p5, p2, p0, p1, n11]; done) | (intro e; have h := o3 (by simpa [upd] using e); simp_all [upd]; done) | simpa [upd, p3, p8, p7, p6, p4, p5, p2, p0, p1, n11] using o3), (by first | (simp [upd, p3, p8, p7, p6, p4, p5, p2, p0, p1, n11]; done) | (intro e; have h := o2 (by simpa [upd] using e); simp_all [upd]; done) | simpa [upd, p3, p8, p7, p6, p4, p5, p2, p0, p1, n11] using o2)⟩
            · -- 10
              refine wpOp_step rfl (fun K hK => ?_)
              clear hpre
              rw [if_pos (by rfl)]
              have n10 : l 10 = false := hli
              simp only [n10, n11, cond_false]
              have hA := below_alloc w' (.cells #[.int .i64 0, .int .i64 0] 35)
              go_simp
              exact hK _ _ ⟨w'.heap.size, _, by simp [upd, Act.put, n10, n11], hB.trans (hA.mono hB.size), (fun _ => ⟨hB.size, Blk.new w' _ 35⟩), by simp [upd, n11], (by first | (simp [upd, n10, n11]; done) | (intro e; have h := o11 (by simpa [upd] using e); simp_all [upd]; done) | simpa [upd, n10, n11] using o11), (by first | (simp [upd, n10, n11]; done) | (intro e; have h := o9 (by simpa [upd] using e); simp_all [upd]; done) | simpa [upd, n10, n11] using o9), (by first | (simp [upd, n10, n11]; done) | (intro e; have h := o8 (by simpa [upd] using e); simp_all [upd]; done) | simpa [upd, n10, n11] using o8), (by first | (simp [upd, n10, n11]; done) | (intro e; have h := o7 (by simpa [upd] using e); simp_all [upd]; done) | simpa [upd, n10, n11] using o7), (by first | (simp [upd, n10, n11]; done) | (intro e; have h := o6 (by simpa [upd] using e); simp_all [upd]; done) | simpa [upd, n10, n11] using o6), (by first | (simp [upd, n10, n11]; done) | (intro e; have h := o3 (by simpa [upd] using e); simp_all [upd]; done) | simpa [upd, n10, n11] using o3), (by first | (simp [upd, n10, n11]; done) | (intro e; have h := o2 (by simpa [upd] using e); simp_all [upd]; done) | simpa [upd, n10, n11] using o2)⟩
            · -- 11
              have p10 : l 10 = true := hpre _ rfl ⟨10, .data⟩ (by simp) rfl
              have p9 : l 9 = true := hpre _ rfl ⟨9, .data⟩ (by simp) rfl
              have p0 : l 0 = true := hpre _ rfl ⟨0, .phase⟩ (by simp) rfl
              have p1 : l 1 = true := hpre _ rfl ⟨1, .phase⟩ (by simp) rfl
              have p2 : l 2 = true := hpre _ rfl ⟨2, .phase⟩ (by simp) rfl
              have p3 : l 3 = true := hpre _ rfl ⟨3, .phase⟩ (by simp) rfl
              have p4 : l 4 = true := hpre _ rfl ⟨4, .phase⟩ (by simp) rfl
              have p5 : l 5 = true := hpre _ rfl ⟨5, .phase⟩ (by simp) rfl
              have p6 : l 6 = true := hpre _ rfl ⟨6, .phase⟩ (by simp) rfl
              have p7 : l 7 = true := hpre _ rfl ⟨7, .phase⟩ (by simp) rfl
              have p8 : l 8 = true := hpre _ rfl ⟨8, .phase⟩ (by simp) rfl
              refine wpOp_step rfl (fun K hK => ?_)
              simp only [p10, p9, p0, p1, p2, p3, p4, p5, p6, p7, p8, cond_true]
              clear hpre
              rw [if_pos (by rfl)]
              have hX4 := hX p10
              refine wp_store_mid 35 _ _ rfl xb 0 #[.int .i64 (z : Int), .int .i64 (s : Int)] rfl rfl hX4.2.there sizeSub (all_oneCell_toArray (by intro v hv; simp at hv; rcases hv with rfl | rfl <;> rfl)) ?_
              exact hK _ _ ⟨xb, w', by simp [upd, Act.put, p10, p9, p0, p1, p2, p3, p4, p5, p6, p7, p8], hB, (fun e => hX (by simpa [upd] using e)), by simp [upd], (by first | (simp [upd, p10, p9, p0, p1, p2, p3, p4, p5, p6, p7, p8]; done) | (intro e; have h := o11 (by simpa [upd] using e); simp_all [upd]; done) | simpa [upd, p10, p9, p0, p1, p2, p3, p4, p5, p6, p7, p8] using o11), (by first | (simp [upd, p10, p9, p0, p1, p2, p3, p4, p5, p6, p7, p8]; done) | (intro e; have h := o9 (by simpa [upd] using e); simp_all [upd]; done) | simpa [upd, p10, p9, p0, p1, p2, p3, p4, p5, p6, p7, p8] using o9), (by first | (simp [upd, p10, p9, p0, p1, p2, p3, p4, p5, p6, p7, p8]; done) | (intro e; have h := o8 (by simpa [upd] using e); simp_all [upd]; done) | simpa [upd, p10, p9, p0, p1, p2, p3, p4, p5, p6, p7, p8] using o8), (by first | (simp [upd, p10, p9, p0, p1, p2, p3, p4, p5, p6, p7, p8]; done) | (intro e; have h := o7 (by simpa [upd] using e); simp_all [upd]; done) | simpa [upd, p10, p9, p0, p1, p2, p3, p4, p5, p6, p7, p8] using o7), (by first | (simp [upd, p10, p9, p0, p1, p2, p3, p4, p5, p6, p7, p8]; done) | (intro e; have h := o6 (by simpa [upd] using e); simp_all [upd]; done) | simpa [upd, p10, p9, p0, p1, p2, p3, p4, p5, p6, p7, p8] using o6), (by first | (simp [upd, p10, p9, p0, p1, p2, p3, p4, p5, p6, p7, p8]; done) | (intro e; have h := o3 (by simpa [upd] using e); simp_all [upd]; done) | simpa [upd, p10, p9, p0, p1, p2, p3, p4, p5, p6, p7, p8] using o3), (by first | (simp [upd, p10, p9, p0, p1, p2, p3, p4, p5, p6, p7, p8]; done) | (intro e; have h := o2 (by simpa [upd] using e); simp_all [upd]; done) | simpa [upd, p10, p9, p0, p1, p2, p3, p4, p5, p6, p7, p8] using o2)⟩
          · rintro lx ax w9 hall ⟨xb, w1, rfl, hB9, hX9, hw, _, _, _, _, _, _, _⟩
            rw [hall 11 (by decide), cond_true] at hw
            subst hw
            simp only [hall 0 (by decide), hall 1 (by decide), hall 2 (by decide), hall 3 (by decide), hall 4 (by decide), hall 5 (by decide), hall 6 (by decide), hall 7 (by decide), hall 8 (by decide), hall 9 (by decide), hall 10 (by decide), cond_true]
            replace hX9 := hX9 (hall 10 (by decide))
            clear hall
            obtain ⟨W4, hW4⟩ : ∃ W4, W4 = w1.setCells xb 0 [.int .i64 (z : Int), .int .i64 (s : Int)] := ⟨_, rfl⟩
            have hX4 : Blk W4 xb #[.int .i64 (z : Int), .int .i64 (s : Int)] 35 := by rw [hW4]; exact hX9.2.set2 _ _
            have hB4 : Below wr.heap.size wr W4 := by rw [hW4]; exact below_setCells _ _ _ _ hB9 hX9.1
            rw [← hW4]
            have HX4 := Lib.hid (And.intro hX4 hB4)
            have g1 : Blk W4 N #[.int .u8 Kd, .int .i64 (d : Int), .int .i64 E, .int .u64 (P : Int), .int .u64 (Q : Int), .int .u64 (G : Int)] 28 := HE2.out.2.2.keep (HBq.out.trans (hB4.mono hsq))
            have c0 : W4.cell? ⟨N, 0, none⟩ = some (.int .u8 Kd) := g1.cell 0
            have c1 : W4.cell? ⟨N, 1, none⟩ = some (.int .i64 (d : Int)) := g1.cell 1
            have c2 : W4.cell? ⟨N, 2, none⟩ = some (.int .i64 E) := g1.cell 2
            have c3 : W4.cell? ⟨N, 3, none⟩ = some (.int .u64 (P : Int)) := g1.cell 3
            have c4 : W4.cell? ⟨N, 4, none⟩ = some (.int .u64 (Q : Int)) := g1.cell 4
            have c5 : W4.cell? ⟨N, 5, none⟩ = some (.int .u64 (G : Int)) := g1.cell 5
            have z0 : W4.cell? ⟨xb, 0, none⟩ = some (.int .i64 (z : Int)) := hX4.cell 0
            have z1 : W4.cell? ⟨xb, 1, none⟩ = some (.int .i64 (s : Int)) := hX4.cell 1
            clear hW4 hX4 hB4 hX9 hB9 g1
            go_wp2_with fail
            refine (HIs.out _ _ _).mono ?_
            rintro e w6 ⟨rfl, hb6⟩
            have HX6 : Hid (Blk w6 xb #[.int .i64 (z : Int), .int .i64 (s : Int)] 35 ∧ Below wr.heap.size wr w6) := Lib.hid ⟨HX4.out.1.keep hb6, HX4.out.2.trans (hb6.mono HX4.out.2.size)⟩
            clear c0 c1 c2 c3 c4 c5 z0 z1 hb6
            have ho := own_below HO1.out HX6.out.2
            have hs6 : w2.heap.size ≤ w6.heap.size := Nat.le_trans hsq HX6.out.2.size
            rcases hisb : isb Kd d (z : Int) (s : Int) with _ | _
            · have HFn : Hid (ps ++ rls Kd d y k (lvl (k + 1) (m + 1)) = qs) := Lib.hid (by rw [HFin.out, hisb, if_neg (by decide), List.append_nil])
              have HOo := Lib.hid ho
              clear hisb ho hx1
              go_wp2_with fail
              go_roundw
              case rel => exact ⟨m + 1, by have := HJ.out; omega, by have := HJ.out; go_num, Lib.hid (by rw [HFn.out, ← HQS.out.1, ← HQS.out.2]; exact HOo.out), Lib.hid (HBq.out.trans (HX6.out.2.mono hsq))⟩
              case measure => have := HJ.out; simp [intOf]; omega
            · have HFn : Hid (ps ++ rls Kd d y k (lvl (k + 1) (m + 1)) = qs ++ [(z, s)]) := Lib.hid (by rw [HFin.out, hisb, if_pos rfl])
              have z0 : w6.cell? ⟨xb, 0, none⟩ = some (.int .i64 (z : Int)) := HX6.out.1.cell 0
              have z1 : w6.cell? ⟨xb, 1, none⟩ = some (.int .i64 (s : Int)) := HX6.out.1.cell 1
              have hA := below_alloc w6 (.cells #[.int .i64 (z : Int), .int .i64 (s : Int)] 35)
              have ho2 := own_below ho hA
              have hone : ∀ u ∈ [Value.int .i64 (z : Int), Value.int .i64 (s : Int)], u.oneCell' = true := by intro u hu; simp at hu; rcases hu with rfl | rfl <;> rfl
              have h63 : L + 1 ≤ maxLen := by unfold maxLen; omega
              have hby : (L + 1) * 16 ≤ 140737488355328 := by omega
              have hbs : w2.heap.size ≤ (w6.alloc (.cells #[.int .i64 (z : Int), .int .i64 (s : Int)] 35)).heap.size := by first | (simp; done) | (simp; omega)
              have hnew : ∀ t u, [Value.int .i64 (z : Int), Value.int .i64 (s : Int)][t]? = some u → (w6.alloc (.cells #[.int .i64 (z : Int), .int .i64 (s : Int)] 35)).cell? ((⟨w6.heap.size, 0, none⟩ : Addr).add t) = some u := fun t u hu => by
                rw [Addr.add_mid, Nat.zero_add, (Blk.new w6 _ 35).cell t]; simpa using hu
              obtain ⟨hi, hz0, hz1, hz2⟩ := HI.out
              clear hisb hx1
              go_wp2_with (first
                | (at_builtin; refine wpList_append_own _ rfl _ _ 39 rfl w2.heap.size 35 i0 _ 2 16 Try.underlying39 hi hz0 hz1 hz2 rfl (by omega) _ _ _ rfl ho2 ⟨w6.heap.size, 0, none⟩ 1 1 [.int .i64 (z : Int), .int .i64 (s : Int)] rfl rfl hnew hone h63 hby hbs ?_; intro v1 w7 hown7 hg7 _))
              go_roundw
              case rel => exact ⟨m + 1, by have := HJ.out; omega, by have := HJ.out; go_num, Lib.hid (by rw [HFn.out, List.length_append, prs_append, ← HQS.out.1, ← HQS.out.2]; exact hown7), Lib.hid ((HBq.out.trans ((HX6.out.2.mono hsq).trans (hA.mono hs6))).grown hg7 hbs (fun b hb => own_block ho2 hb.symm))⟩
              case measure => have := HJ.out; simp [intOf]; omega
        · have hmd : m = d - k := by omega
          have HFn : Hid (ps ++ rls Kd d y k (lvl (k + 1) m) = plf Kd d y (List.range (k + 1))) := Lib.hid (by rw [HSn.out, hmd])
          have l5 : ((d + 1 : Nat) : Int) ≤ (j : Int) := by omega
          have l6 : (d : Int) + 1 ≤ (j : Int) := by omega
          clear hj hmd
          go_wp2_with fail
          go_roundw
          case rel => exact ⟨k + 1, by omega, by go_num, Lib.hid (by rw [← HFn.out]; exact HO1.out), HBq⟩
          case measure => simp [intOf]; omega
    · obtain rfl : k = d + 1 := by omega
      have l3 : ((d + 1 : Nat) : Int) = (d : Int) + 1 := by omega
      have HF : Hid (wr.ownsRow N 35 2 u5 (plf Kd d y (List.range (d + 1))).length (prs (plf Kd d y (List.range (d + 1)))) ∧ Below N w wr) := Lib.hid ⟨own_mono HO.out (by have := HE2.out.1; omega), HE2.out.2.1.trans (HBr.out.mono (by have := HE2.out.1; omega))⟩
      obtain ⟨A2, k2, hv2⟩ := own_val HO.out
      subst hv2
      go_wp2_with fail
      go_ret
      exact ⟨⟨_, rfl, HF.out.1⟩, HF.out.2⟩
end Go.Proofs.Ytnbkoffhplknbaa
