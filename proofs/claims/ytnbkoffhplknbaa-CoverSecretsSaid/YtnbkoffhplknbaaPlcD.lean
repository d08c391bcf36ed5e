/-
  The places of a receiver's labels, the specification's.
-/
import Derived.Test.YtnbkoffhplknbaaPlcC
namespace Go.Proofs.Ytnbkoffhplknbaa
open Go.RowKit TR
set_option linter.unusedVariables false
set_option linter.unusedSimpArgs false

theorem chk_abv1 : ((List.range 128).all fun y => y == 0 || abv 1 y) = true := by decide +kernel
theorem abv_one (y : Nat) (h1 : 1 ≤ y) (h2 : y < 128) : abv 1 y = true := by
  have h := chk_abv1
  simp only [List.all_eq_true, List.mem_range] at h
  have h3 := h y h2
  simp only [Bool.or_eq_true, beq_iff_eq] at h3
  rcases h3 with h3 | h3
  · omega
  · exact h3
theorem lvl_range (k : Nat) : lvl 0 (k + 1) = List.range k ++ [k] := by rw [lvl_zero, List.range_succ]
/-- The path to a leaf. -/
theorem path_leaf (d r : Nat) (hd : d < 7) (hr : r < 2 ^ d) (w : World) :
    Calls Try.prog 104 #[.int .i64 1, .int .i64 ((2 ^ d + r : Nat) : Int)] w fun e w' => (∃ g c, e = .returned (.slice (some ⟨g, 0, none⟩) (d + 1) c) ∧ w.heap.size ≤ g ∧ d + 1 ≤ c ∧ c ≤ maxLen ∧ ∀ i, i < d + 1 → w'.cell? ⟨g, i, none⟩ = some (.int .i64 (nat_ (2 ^ d + r) i : Int))) ∧ Below w.heap.size w w' := by
  have h64 := p64 hd
  have hl := leaf_lv hd hr
  have h := refPath_any 1 (2 ^ d + r) w (by omega) (abv_one _ (by omega) (by omega))
  rw [hl, lv_low 1 (Nat.le_refl _), Nat.sub_zero] at h
  refine h.mono ?_
  rintro e w' ⟨⟨g, c, rfl, q1, q2, q3, q4⟩, hb⟩
  refine ⟨⟨g, c, rfl, q1, q2, q3, fun i hi => ?_⟩, hb⟩
  rw [q4 i hi]
  unfold nat_
  rw [hl]

set_option maxRecDepth 100000 in
set_option maxHeartbeats 4000000 in
theorem refLabels_one (E : Int) (d r P Q G : Nat) (w : World) (hd : d < 7) (hr : r < 2 ^ d) :
    Calls Try.prog 91 #[.agg #[.int .u8 1, .int .i64 (d : Int), .int .i64 E, .int .u64 (P : Int), .int .u64 (Q : Int), .int .u64 (G : Int)], .int .i64 (r : Int)] w fun e w' => (∃ u, e = .returned u ∧ w'.ownsRow w.heap.size 35 2 u (plc 1 d (2 ^ d + r)).length (prs (plc 1 d (2 ^ d + r)))) ∧ Below w.heap.size w w' := by
  obtain ⟨i0, hi, hz0, hz1, hz2⟩ := info_parts infoSub
  have HI := Lib.hid (And.intro hi (And.intro hz0 (And.intro hz1 hz2)))
  have h64 := p64 hd
  have hly := leaf_lv hd hr
  have HR := Lib.hid (fun w => receivers_any d w hd)
  have HPa := Lib.hid (fun w => path_leaf d r hd hr w)
  obtain ⟨y, hy⟩ : ∃ y, y = 2 ^ d + r := ⟨_, rfl⟩
  rw [← hy] at hly HPa ⊢
  have hy1 : 1 ≤ y := by omega
  have hy2 : y < 128 := by omega
  have HY := Lib.hid (And.intro hy1 (And.intro hy2 hly))
  have HPL : Hid (plc 1 d y = plf 1 d y (List.range (d + 1))) := Lib.hid (by unfold plc; rw [hly])
  rw [HPL.out]
  have HLn := Lib.hid (fun ls => plf_len 1 d y (by omega) ls)
  have HRn := Lib.hid (fun (k : Nat) => plf_snoc 1 d y (List.range k) k)
  obtain ⟨N, hN⟩ : ∃ N, N = w.heap.size := ⟨_, rfl⟩
  obtain ⟨W1, hW1⟩ : ∃ W1, W1 = w.alloc (.cells #[.int .u8 1, .int .i64 (d : Int), .int .i64 E, .int .u64 (P : Int), .int .u64 (Q : Int), .int .u64 (G : Int)] 28) := ⟨_, rfl⟩
  have s1 : W1.heap.size = N + 1 := by rw [hW1, hN]; simp
  have b1 : Below N w W1 := by rw [hW1, hN]; exact below_alloc _ _
  have eS : Blk W1 N #[.int .u8 1, .int .i64 (d : Int), .int .i64 E, .int .u64 (P : Int), .int .u64 (Q : Int), .int .u64 (G : Int)] 28 := by rw [hW1, hN]; exact Blk.new w _ _
  have HE1 := Lib.hid (And.intro s1 (And.intro b1 eS))
  have HN := Lib.hid hN
  have HW1 := Lib.hid hW1
  have HD := Lib.hid (And.intro hd hr)
  rw [← hN]
  have c0 : W1.cell? ⟨N, 0, none⟩ = some (.int .u8 1) := eS.cell 0
  have c1 : W1.cell? ⟨N, 1, none⟩ = some (.int .i64 (d : Int)) := eS.cell 1
  rw [hW1, hN] at c0 c1
  obtain ⟨T, hT⟩ : ∃ T, T = 2 ^ d := ⟨_, rfl⟩
  rw [← hT] at HR hy hr h64
  have hyT : ((T : Int) + (r : Int)) = (y : Int) := by omega
  have HyT := Lib.hid hyT
  have hr64 : (r : Int) ≤ 128 := by omega
  have hd7 : d ≤ 6 := by omega
  clear hN hW1 s1 b1 eS hi hz0 hz1 hz2 hly hy hd hr hT hyT
  go_enter Try.func91, Try.ntmps91
  go_wp2_with fail
  rw [← HW1.out, ← HN.out]
  refine (HR.out _).mono ?_
  rintro e w0 ⟨rfl, rfl⟩
  clear c0 c1
  have c0 : W1.cell? ⟨N, 0, none⟩ = some (.int .u8 1) := HE1.out.2.2.cell 0
  have hT64 : (T : Int) ≤ 64 := by omega
  go_wp2_with fail
  rw [HyT.out]
  refine (HPa.out _).mono ?_
  rintro e w2 ⟨⟨g, c, rfl, q1, q2, q3, q4⟩, hb2⟩
  have HCl : Hid (∀ w1, Below w2.heap.size w2 w1 → ∀ i, i < d + 1 → w1.cell? ⟨g, i, none⟩ = some (.int .i64 (nat_ y i : Int))) := Lib.hid (fun w1 hb i hi => (hb.cell (p := ⟨g, i, none⟩) (World.block_lt_of_cell? w2 _ (q4 i hi))).trans (q4 i hi))
  have HE2 : Hid (N + 1 ≤ w2.heap.size ∧ Below N w w2 ∧ Blk w2 N #[.int .u8 1, .int .i64 (d : Int), .int .i64 E, .int .u64 (P : Int), .int .u64 (Q : Int), .int .u64 (G : Int)] 28) := Lib.hid ⟨by rw [← HE1.out.1]; exact hb2.size, HE1.out.2.1.trans (hb2.mono (by rw [HE1.out.1]; omega)), HE1.out.2.2.keep hb2⟩
  clear c0 q1 q4 hb2
  have c0 : w2.cell? ⟨N, 0, none⟩ = some (.int .u8 1) := HE2.out.2.2.cell 0
  have HR1 : Hid (∀ k, rowl 1 d y k = [(nat_ y k, 0)]) := Lib.hid (fun k => by unfold rowl; rw [if_pos rfl])
  go_wp2_with fail
  go_loopw [5, 7] (fun u i wr => ∃ (k : Nat), k ≤ d + 1 ∧ i = .int .i64 (k : Int) ∧ Hid (wr.ownsRow w2.heap.size 35 2 u (plf 1 d y (List.range k)).length (prs (plf 1 d y (List.range k)))) ∧ Hid (Below w2.heap.size w2 wr)) (fun _ i _ => d + 2 - (intOf i).toNat)
  case atStart => exact ⟨0, by omega, rfl, Lib.hid (World.ownsRow_nil _ _ _ _), Lib.hid (Below.refl _ _)⟩
  case round =>
    obtain ⟨k, hk, rfl, HO, HBr⟩ := hrel
    have hln := HLn.out (List.range k)
    rw [List.length_range] at hln
    by_cases hlt : k < d + 1
    · have HSn : Hid (plf 1 d y (List.range (k + 1)) = plf 1 d y (List.range k) ++ [(nat_ y k, 0)]) := Lib.hid (by rw [List.range_succ, HRn.out, HR1.out])
      have g1 := HCl.out wr HBr.out k hlt
      obtain ⟨ps, hps⟩ : ∃ ps, ps = plf 1 d y (List.range k) := ⟨_, rfl⟩
      rw [← hps] at HO HSn hln
      obtain ⟨L, hL⟩ : ∃ L, L = ps.length := ⟨_, rfl⟩
      obtain ⟨xs, hxs⟩ : ∃ xs, xs = prs ps := ⟨_, rfl⟩
      rw [← hL, ← hxs] at HO
      have HQS := Lib.hid (And.intro hL hxs)
      obtain ⟨z, hz⟩ : ∃ z, z = nat_ y k := ⟨_, rfl⟩
      rw [← hz] at HSn g1
      have hL80 : L ≤ 80 := by omega
      have l1 : (0 : Int) ≤ (k : Int) := by omega
      have l2 : (k : Int) < ((d + 1 : Nat) : Int) := by omega
      have l3 : (k : Int) < (d : Int) + 1 := by omega
      have ho := HO.out
      have hA := below_alloc wr (.cells #[.int .i64 (z : Int), .int .i64 0] 35)
      have ho2 := own_below ho hA
      have hone : ∀ u ∈ [Value.int .i64 (z : Int), Value.int .i64 0], u.oneCell' = true := by intro u hu; simp at hu; rcases hu with rfl | rfl <;> rfl
      have h63 : L + 1 ≤ maxLen := by unfold maxLen; omega
      have hby : (L + 1) * 16 ≤ 140737488355328 := by omega
      have hsz := HBr.out.size
      have hbs : w2.heap.size ≤ (wr.alloc (.cells #[.int .i64 (z : Int), .int .i64 0] 35)).heap.size := by simp; omega
      have hnew : ∀ t u, [Value.int .i64 (z : Int), Value.int .i64 0][t]? = some u → (wr.alloc (.cells #[.int .i64 (z : Int), .int .i64 0] 35)).cell? ((⟨wr.heap.size, 0, none⟩ : Addr).add t) = some u := fun t u hu => by
        rw [Addr.add_mid, Nat.zero_add, (Blk.new wr _ 35).cell t]; simpa using hu
      obtain ⟨hi, hz0, hz1, hz2⟩ := HI.out
      clear hL hxs hps hz hln
      go_wp2_with (first
        | (at_builtin; refine wpList_append_own _ rfl _ _ 39 rfl w2.heap.size 35 i0 _ 2 16 Try.underlying39 hi hz0 hz1 hz2 rfl (by omega) _ _ _ rfl ho2 ⟨wr.heap.size, 0, none⟩ 1 1 [.int .i64 (z : Int), .int .i64 0] rfl rfl hnew hone h63 hby hbs ?_; intro v1 w6 hown6 hg6 _))
      go_roundw
      case rel => exact ⟨k + 1, by omega, by go_num, Lib.hid (by rw [HSn.out, List.length_append, prs_append, ← HQS.out.1, ← HQS.out.2]; exact hown6), Lib.hid ((HBr.out.trans (hA.mono hsz)).grown hg6 hbs (fun b hb => own_block ho2 hb.symm))⟩
      case measure => simp [intOf]; omega
    · obtain rfl : k = d + 1 := by omega
      have l3 : ((d + 1 : Nat) : Int) = (d : Int) + 1 := by omega
      have HF : Hid (wr.ownsRow N 35 2 u5 (plf 1 d y (List.range (d + 1))).length (prs (plf 1 d y (List.range (d + 1)))) ∧ Below N w wr) := Lib.hid ⟨own_mono HO.out (by have := HE2.out.1; omega), HE2.out.2.1.trans (HBr.out.mono (by have := HE2.out.1; omega))⟩
      obtain ⟨A2, k2, hv2⟩ := own_val HO.out
      subst hv2
      go_wp2_with fail
      go_ret
      exact ⟨⟨_, rfl, HF.out.1⟩, HF.out.2⟩
end Go.Proofs.Ytnbkoffhplknbaa
