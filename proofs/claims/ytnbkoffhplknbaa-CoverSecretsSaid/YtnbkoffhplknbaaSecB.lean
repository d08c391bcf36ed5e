/-
  down and label, the specification's.
-/
import Derived.Test.YtnbkoffhplknbaaSecA
import Derived.Test.YtnbkoffhplknbaaSpeB
namespace Go.Proofs.Ytnbkoffhplknbaa
open Go.RowKit TR L2 L2.SP
set_option linter.unusedVariables false
set_option linter.unusedSimpArgs false

theorem pnd_len (v x : Nat) : (pnd v x).length = lv x - lv v := by simp [pnd, lvl]
theorem take_snoc {α : Type} (l : List α) (k : Nat) (h : k < l.length) : l.take (k + 1) = l.take k ++ [l[k]] := by rw [List.take_add_one, List.getElem?_eq_getElem h]; rfl
theorem pnd_get (v x k : Nat) (h : k < (pnd v x).length) : (pnd v x)[k] = nat_ x (lv v + 1 + k) := by simp [pnd, lvl]

set_option maxRecDepth 100000 in
set_option maxHeartbeats 2000000 in
theorem refDown_any (p : Nat × Nat) (m x : Nat) (w : World) (hp : Ok p) (hx : x < 256) (hab : abv m x = true) :
    Calls Try.prog 145 #[.agg (kl p.1 p.2).toArray, .int .i64 (m : Int), .int .i64 (x : Int)] w fun e w' => e = .returned (.agg (kl (dwk p (pnd m x)).1 (dwk p (pnd m x)).2).toArray) ∧ Below w.heap.size w w' := by
  obtain ⟨N, hN⟩ : ∃ N, N = w.heap.size := ⟨_, rfl⟩
  obtain ⟨W2, hW2⟩ : ∃ W2, W2 = (w.alloc (.cells (kl p.1 p.2).toArray 58)).alloc (.cells z16 58) := ⟨_, rfl⟩
  have s2 : W2.heap.size = N + 2 := by rw [hW2, hN]; simp
  have b2 : Below N w W2 := by rw [hW2, hN]; exact (below_alloc _ _).trans ((below_alloc _ _).mono (by simp))
  have e1 : Kbx W2 N p := by rw [hW2, hN]; exact (Blk.new w _ _).keep (below_alloc _ _)
  have e2 : Blk W2 (N + 1) z16 58 := by
    have h := Blk.new (w.alloc (.cells (kl p.1 p.2).toArray 58)) z16 58
    rw [World.size_alloc, ← hN] at h; rw [hW2]; exact h
  have HE := Lib.hid (And.intro s2 (And.intro b2 (And.intro e1 e2)))
  have HPa := Lib.hid (fun w => refPath_any m x w hx hab)
  have hle := (abv_facts hab).2.1
  have hl8 := lv_lt x hx
  have HPl := Lib.hid (pnd_len m x)
  have HLe : Hid (∀ k, x >>> k < 256) := Lib.hid (fun k => by rw [Nat.shiftRight_eq_div_pow]; have := Nat.div_le_self x (2 ^ k); omega)
  have HG : Hid (∀ k (h : k < (pnd m x).length), (pnd m x)[k] = x >>> (lv x - lv m - (k + 1))) := Lib.hid (fun k h => by
    rw [pnd_get]; unfold nat_; congr 1; omega)
  obtain ⟨ns, hns⟩ : ∃ ns, ns = pnd m x := ⟨_, rfl⟩
  rw [← hns] at HPl HG ⊢
  obtain ⟨K, hK⟩ : ∃ K, K = lv x - lv m := ⟨_, rfl⟩
  rw [← hK] at HPa HPl HG
  have HOk := Lib.hid (fun k => dwk_ok (ns.take k) hp)
  have HSk := Lib.hid (fun (k : Nat) (h : k < ns.length) => dwk_snoc p (ns.take k) ns[k])
  have HN := Lib.hid hN
  have HW := Lib.hid hW2
  have HR : Hid (dwk p ns = dwk p (ns.take K)) := Lib.hid (by rw [List.take_of_length_le (by rw [HPl.out]; exact Nat.le_refl _)])
  have hK8 : K ≤ 8 := by omega
  rw [← hN, HR.out]
  clear hN hW2 s2 b2 e1 e2 hns hK hle hl8 hab hp hx
  go_enter Try.func145, Try.ntmps145
  go_wp2_with fail
  rw [← HW.out, ← HN.out]
  refine (HPa.out _).mono ?_
  rintro e w2 ⟨⟨g, c, rfl, q1, q2, q3, q4⟩, hb2⟩
  have HC2 : Hid (∀ i, i < K + 1 → w2.cell? ⟨g, i, none⟩ = some (.int .i64 ((x >>> (K - i) : Nat) : Int))) := Lib.hid q4
  have HG2 : Hid (N + 2 ≤ g) := Lib.hid (by rw [← HE.out.1]; exact q1)
  have HB2 : Hid (Kbx w2 N p ∧ Blk w2 (N + 1) z16 58 ∧ Below N w w2 ∧ N + 2 ≤ w2.heap.size) := Lib.hid ⟨HE.out.2.2.1.keep hb2, HE.out.2.2.2.keep hb2, HE.out.2.1.trans (hb2.mono (by rw [HE.out.1]; omega)), by rw [← HE.out.1]; exact hb2.size⟩
  clear q1 q4 hb2
  go_wp2_with fail
  go_loopw [8] (fun i wr => ∃ (k : Nat), k ≤ K ∧ i = .int .i64 ((k + 1 : Nat) : Int) ∧ Hid (Kbx wr N (dwk p (ns.take k)) ∧ Blk wr (N + 1) z16 58 ∧ Below N w wr ∧ N + 2 ≤ wr.heap.size) ∧ Hid (∀ i, i < K + 1 → wr.cell? ⟨g, i, none⟩ = some (.int .i64 ((x >>> (K - i) : Nat) : Int)))) (fun i _ => K + 2 - (intOf i).toNat)
  case atStart => exact ⟨0, by omega, rfl, HB2, HC2⟩
  case round =>
    obtain ⟨k, hk, rfl, HBr, HC⟩ := hrel
    obtain ⟨j, hj⟩ : ∃ j, j = k + 1 := ⟨_, rfl⟩
    have HJ := Lib.hid hj
    rw [← hj]
    obtain ⟨q, hq⟩ : ∃ q, q = dwk p (ns.take k) := ⟨_, rfl⟩
    have HQ := Lib.hid hq
    rw [← hq] at HBr
    by_cases hlt : k < K
    · have hkl : k < ns.length := by rw [HPl.out]; exact hlt
      obtain ⟨z, hz⟩ : ∃ z, z = x >>> (K - j) := ⟨_, rfl⟩
      have HSn : Hid (dwk p (ns.take (k + 1)) = skp q z) := Lib.hid (by
        have h1 := HSk.out k hkl
        rw [← hq, HG.out k hkl] at h1
        rw [take_snoc ns k hkl, HG.out k hkl, hz, hj]; exact h1)
      have HStp := Lib.hid (fun w => refStep_any q z w (by rw [HQ.out]; exact HOk.out k) (by rw [hz]; exact HLe.out _))
      obtain ⟨s, hs⟩ : ∃ s, s = skp q z := ⟨_, rfl⟩
      rw [← hs] at HSn HStp
      have l1 : (0 : Int) ≤ (j : Int) := by omega
      have l2 : (j : Int) < ((K + 1 : Nat) : Int) := by omega
      have l3 : (j : Int) < (K : Int) + 1 := by omega
      have HGc : Hid (wr.cell? ⟨g, j, none⟩ = some (.int .i64 (z : Int))) := Lib.hid (by rw [hz]; exact HC.out j (by omega))
      have HgL : Hid (g < wr.heap.size) := Lib.hid (World.block_lt_of_cell? wr _ (HC.out j (by omega)))
      clear hz hs hkl hq hj hk hlt
      go_wp2_with fail
      refine wp_region_inv (by kernel_rfl) (by kernel_rfl) (fun l a' w' => ∃  (w1 : World), a' = { tmps := #[Value.agg (kl p.fst p.snd).toArray, Value.int .i64 (m : Int), Value.int .i64 (x : Int), Value.pointer (some ⟨N, 0, none⟩), undef, undef, Value.pointer (some ⟨N + 1, 0, none⟩), Value.slice (some ⟨g, 0, none⟩) (K + 1) c, Value.int .i64 (j : Int), Value.int .i64 (m : Int), Value.int .i64 (x : Int), Value.slice (some ⟨g, 0, none⟩) (K + 1) c, Value.int .i64 (j : Int), Value.slice (some ⟨g, 0, none⟩) (K + 1) c, Value.int .i64 (K + 1 : Int), Value.bool true, u16, u17, bif l 0 then Value.agg (kl q.1 q.2).toArray else u18, bif l 1 then Value.slice (some ⟨g, 0, none⟩) (K + 1) c else u19, bif l 2 then Value.int .i64 (j : Int) else u20, bif l 3 then Value.pointer (some ⟨g, j, none⟩) else u21, bif l 4 then Value.int .i64 (z : Int) else u22, bif l 5 then Value.agg (kl s.1 s.2).toArray else u23, undef], defers := [] } ∧ (Below wr.heap.size wr w1) ∧ w' = (bif l 6 then w1.setCells N 0 (kl s.1 s.2) else w1) ∧ (l 6 = true → (l 0 && l 1 && l 2 && l 3 && l 4 && l 5) = true)) ⟨_, rfl, (Below.refl _ _).drew, rfl, (fun h => by cases h)⟩ ?_ ?_
      · rintro l a' w' i ⟨w1, rfl, hB, hw, oS⟩ hi' hli hpre
        have hi2 : i < 7 := hi'
        have hcase : i = 0 ∨ i = 1 ∨ i = 2 ∨ i = 3 ∨ i = 4 ∨ i = 5 ∨ i = 6 := by omega
        clear hi' hi2
        rcases hcase with rfl | rfl | rfl | rfl | rfl | rfl | rfl
        · -- 0: Op.load 58 (Operand.tmp 3)
          refine wpOp_step rfl (fun K' hK => ?_)
          have nS : l 6 = false := by
            cases h : l 6
            · rfl
            · have := oS h; simp [hli] at this
          rw [nS, cond_false] at hw
          subst hw
          clear hpre
          rw [if_pos (by rfl)]
          refine wp_load_mid 58 _ rfl _ 0 rfl (kl q.1 q.2) _ (Kbx.at_ (HBr.out.1.keep hB)) Try.underlying58 rfl (by rw [kl_len]; exact size23) ?_
          exact hK _ _ ⟨w', by simp [upd, Act.put], hB, by simp [upd, nS], (fun e => absurd e (by simp [upd, nS]))⟩
        · -- 1: Op.move (Operand.tmp 7)
          refine wpOp_step rfl (fun K' hK => ?_)
          have nS : l 6 = false := by
            cases h : l 6
            · rfl
            · have := oS h; simp [hli] at this
          rw [nS, cond_false] at hw
          subst hw
          clear hpre
          rw [if_pos (by rfl)]
          go_simp
          exact hK _ _ ⟨w', by simp [upd, Act.put], hB, by simp [upd, nS], (fun e => absurd e (by simp [upd, nS]))⟩
        · -- 2: Op.move (Operand.tmp 8)
          refine wpOp_step rfl (fun K' hK => ?_)
          have nS : l 6 = false := by
            cases h : l 6
            · rfl
            · have := oS h; simp [hli] at this
          rw [nS, cond_false] at hw
          subst hw
          clear hpre
          rw [if_pos (by rfl)]
          go_simp
          exact hK _ _ ⟨w', by simp [upd, Act.put], hB, by simp [upd, nS], (fun e => absurd e (by simp [upd, nS]))⟩
        · -- 3: Op.indexAddr 30 (Operand.tmp 19) (Operand.tmp 20)
          have p1 : l 1 = true := hpre _ rfl ⟨1, .data⟩ (by simp) rfl
          have p2 : l 2 = true := hpre _ rfl ⟨2, .data⟩ (by simp) rfl
          refine wpOp_step rfl (fun K' hK => ?_)
          have nS : l 6 = false := by
            cases h : l 6
            · rfl
            · have := oS h; simp [hli] at this
          rw [nS, cond_false] at hw
          subst hw
          simp only [p1, p2, cond_true, cond_false]
          clear hpre
          rw [if_pos (by rfl)]
          go_simp
          exact hK _ _ ⟨w', by simp [upd, Act.put, p1, p2], hB, by simp [upd, nS], (fun e => absurd e (by simp [upd, nS]))⟩
        · -- 4: Op.load 3 (Operand.tmp 21)
          have p3 : l 3 = true := hpre _ rfl ⟨3, .data⟩ (by simp) rfl
          refine wpOp_step rfl (fun K' hK => ?_)
          have nS : l 6 = false := by
            cases h : l 6
            · rfl
            · have := oS h; simp [hli] at this
          rw [nS, cond_false] at hw
          subst hw
          simp only [p3, cond_true, cond_false]
          clear hpre
          rw [if_pos (by rfl)]
          have gc := (hB.cell (p := ⟨g, j, none⟩) HgL.out).trans HGc.out
          go_simp
          exact hK _ _ ⟨w', by simp [upd, Act.put, p3], hB, by simp [upd, nS], (fun e => absurd e (by simp [upd, nS]))⟩
        · -- 5: Op.call { callee := Callee.value (Operand.func 176), args :=
          have p0 : l 0 = true := hpre _ rfl ⟨0, .data⟩ (by simp) rfl
          have p4 : l 4 = true := hpre _ rfl ⟨4, .data⟩ (by simp) rfl
          refine wpOp_step rfl (fun K' hK => ?_)
          have nS : l 6 = false := by
            cases h : l 6
            · rfl
            · have := oS h; simp [hli] at this
          rw [nS, cond_false] at hw
          subst hw
          simp only [p0, p4, cond_true, cond_false]
          clear hpre
          rw [if_pos (by rfl)]
          go_simp
          refine (HStp.out _).mono ?_
          rintro e w5 ⟨rfl, hb5⟩
          exact hK _ _ ⟨w5, by simp [upd, Act.put, p0, p4], hB.trans (hb5.mono hB.size), by simp [upd, nS], (fun e => absurd e (by simp [upd, nS]))⟩
        · -- 6: Op.store 58 (Operand.tmp 3) (Operand.tmp 23)
          have p5 : l 5 = true := hpre _ rfl ⟨5, .data⟩ (by simp) rfl
          have p0 : l 0 = true := hpre _ rfl ⟨0, .phase⟩ (by simp) rfl
          have p1 : l 1 = true := hpre _ rfl ⟨1, .phase⟩ (by simp) rfl
          have p2 : l 2 = true := hpre _ rfl ⟨2, .phase⟩ (by simp) rfl
          have p3 : l 3 = true := hpre _ rfl ⟨3, .phase⟩ (by simp) rfl
          have p4 : l 4 = true := hpre _ rfl ⟨4, .phase⟩ (by simp) rfl
          refine wpOp_step rfl (fun K' hK => ?_)
          have nS : l 6 = false := hli
          rw [nS, cond_false] at hw
          subst hw
          simp only [p5, p0, p1, p2, p3, p4, cond_true, cond_false]
          clear hpre
          rw [if_pos (by rfl)]
          refine wp_store_mid 58 _ _ rfl N 0 (kl s.1 s.2).toArray rfl rfl (by have h := Kbx.there_ (Blk.keep HBr.out.1 hB); simpa [kl_len] using h) (by simp [kl_len, size23]) (kl_arr _ _) ?_
          rw [List.toList_toArray]
          exact hK _ _ ⟨w', by simp [upd, Act.put, p5, p0, p1, p2, p3, p4], hB, by simp [upd], (fun _ => by simp [upd, p5, p0, p1, p2, p3, p4])⟩
      · rintro l a' w9 hall ⟨w1, rfl, hB, hw, oS⟩
        rw [hall 6 (by decide), cond_true] at hw
        subst hw
        simp only [hall 0 (by decide), hall 1 (by decide), hall 2 (by decide), hall 3 (by decide), hall 4 (by decide), hall 5 (by decide), cond_true]
        clear hall oS
        obtain ⟨W9, hW9⟩ : ∃ W9, W9 = w1.setCells N 0 (kl s.1 s.2) := ⟨_, rfl⟩
        have HF : Hid (Kbx W9 N s ∧ Blk W9 (N + 1) z16 58 ∧ Below N w W9 ∧ N + 2 ≤ W9.heap.size) := Lib.hid (by
          rw [hW9]
          exact ⟨Kbx.stored (HBr.out.1.keep hB) Kbx.size s, Blk.setCells_other (HBr.out.2.1.keep hB) _ _ (by omega), below_setCells _ _ _ _ (HBr.out.2.2.1.trans (hB.mono (by have := HBr.out.2.2.2; omega))) (Nat.le_refl _), by rw [size_setCells]; exact Nat.le_trans HBr.out.2.2.2 hB.size⟩)
        have HC9 : Hid (∀ i, i < K + 1 → W9.cell? ⟨g, i, none⟩ = some (.int .i64 ((x >>> (K - i) : Nat) : Int))) := Lib.hid (fun i hi => by
          rw [hW9, World.cell?_setCells_out _ _ _ _ _ (fun h _ => absurd h (by have := HG2.out; show ¬ g = N; omega))]
          exact (hB.cell (p := ⟨g, i, none⟩) HgL.out).trans (HC.out i hi))
        rw [← hW9]
        clear hW9 hB
        go_wp2_with fail
        go_roundw
        case rel => exact ⟨k + 1, by have := HJ.out; omega, by have := HJ.out; go_num, Lib.hid (by rw [HSn.out]; exact HF.out), HC9⟩
        case measure => have := HJ.out; simp [intOf]; omega
    · obtain rfl : k = K := by omega
      have l3 : ((k : Nat) : Int) + 1 ≤ (j : Int) := by omega
      have HF : Hid (Below N w wr ∧ wr.there (N + 1) 0 16) := Lib.hid ⟨HBr.out.2.2.1, by have h := HBr.out.2.1.there; simpa using h⟩
      have HFq : Hid (q = dwk p (ns.take k)) := HQ
      go_wp2_with (first
        | (refine wpList_load_key rfl _ rfl _ rfl q.1 q.2 (Kbx.at_ HBr.out.1) ?_)
        | (refine wpList_store_key rfl _ _ rfl (N + 1) q.1 q.2 rfl rfl HF.out.2 ?_))
      exact ends_key rfl (N + 1) q.1 q.2 HF.out.2 rfl rfl ⟨by rw [← HFq.out], below_setCells _ _ _ _ HF.out.1 (by omega)⟩

set_option maxRecDepth 100000 in
set_option maxHeartbeats 400000 in
theorem refLabel_any (p : Nat × Nat) (m x : Nat) (w : World) (hp : Ok p) (hm : m < 256) (hx : x < 256) (hab : abv m x = true) :
    Calls Try.prog 143 #[.agg (kl p.1 p.2).toArray, .int .i64 (m : Int), .int .i64 (x : Int)] w fun e w' => e = .returned (.agg (kl (lbk p m x).1 (lbk p m x).2).toArray) ∧ Below w.heap.size w w' := by
  obtain ⟨N, hN⟩ : ∃ N, N = w.heap.size := ⟨_, rfl⟩
  obtain ⟨W2, hW2⟩ : ∃ W2, W2 = (w.alloc (.cells (kl p.1 p.2).toArray 58)).alloc (.cells z16 58) := ⟨_, rfl⟩
  have s2 : W2.heap.size = N + 2 := by rw [hW2, hN]; simp
  have b2 : Below N w W2 := by rw [hW2, hN]; exact (below_alloc _ _).trans ((below_alloc _ _).mono (by simp))
  have e1 : Kbx W2 N p := by rw [hW2, hN]; exact (Blk.new w _ _).keep (below_alloc _ _)
  have e2 : Blk W2 (N + 1) z16 58 := by
    have h := Blk.new (w.alloc (.cells (kl p.1 p.2).toArray 58)) z16 58
    rw [World.size_alloc, ← hN] at h; rw [hW2]; exact h
  have HE := Lib.hid (And.intro s2 (And.intro b2 (And.intro e1 e2)))
  have HD : Hid (∀ w, Calls Try.prog 110 #[.agg (kl p.1 p.2).toArray, .int .u8 30, .int .u64 (m : Int)] w fun e w' => e = .returned (.agg (kl (ndk p m).1 (ndk p m).2).toArray) ∧ Below w.heap.size w w') := Lib.hid (fun w => refDerive_any p.1 p.2 30 m w hp.1 hp.2 (by omega) (by unfold M; omega))
  have HDn := Lib.hid (fun w => refDown_any (ndk p m) m x w (ndk_ok hp m hm) hx hab)
  obtain ⟨n, hn⟩ : ∃ n, n = ndk p m := ⟨_, rfl⟩
  obtain ⟨q, hq⟩ : ∃ q, q = lbk p m x := ⟨_, rfl⟩
  have hq2 : dwk n (pnd m x) = q := by rw [hq, hn]; rfl
  rw [← hn] at HD HDn
  rw [hq2] at HDn
  rw [← hq]
  have HN := Lib.hid hN
  have HW := Lib.hid hW2
  rw [← hN]
  clear hN hW2 s2 b2 e1 e2 hn hq hq2 hab hp
  go_enter Try.func143, Try.ntmps143
  go_wp2_with (refine wpList_load_key rfl _ rfl _ rfl p.1 p.2 (by rw [← HW.out, ← HN.out]; exact HE.out.2.2.1.at_) ?_)
  rw [← HW.out, ← HN.out]
  refine (HD.out _).mono ?_
  rintro e w3 ⟨rfl, hb3⟩
  have HB3 : Hid (Blk w3 (N + 1) z16 58 ∧ Below N w w3 ∧ N + 2 ≤ w3.heap.size) := Lib.hid ⟨HE.out.2.2.2.keep hb3, HE.out.2.1.trans (hb3.mono (by rw [HE.out.1]; omega)), by rw [← HE.out.1]; exact hb3.size⟩
  clear hb3
  go_wp2_with fail
  refine (HDn.out _).mono ?_
  rintro e w4 ⟨rfl, hb4⟩
  have HT4 : Hid (w4.there (N + 1) 0 16 ∧ Below N w w4) := Lib.hid ⟨by have h := (HB3.out.1.keep hb4).there; simpa using h, HB3.out.2.1.trans (hb4.mono (by have := HB3.out.2.2; omega))⟩
  clear hb4
  go_wp2_with (refine wpList_store_key rfl _ _ rfl (N + 1) _ _ rfl rfl HT4.out.1 ?_)
  exact ends_key rfl (N + 1) _ _ HT4.out.1 rfl rfl ⟨rfl, below_setCells _ _ _ _ HT4.out.2 (by omega)⟩
end Go.Proofs.Ytnbkoffhplknbaa
