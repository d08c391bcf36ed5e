/-
  SplitOf, the specification's.
-/
import Derived.Test.YtpclgiabbmdgmaaSplC
import Derived.Test.YtpclgiabbmdgmaaSpeC
namespace Go.Proofs.Ytpclgiabbmdgmaa
open Go.RowKit TR
set_option linter.unusedVariables false
set_option linter.unusedSimpArgs false

theorem sbc_root {K E : Int} {d v P Q G : Nat} (h : sbc K (d : Int) E P Q G (v : Int) ((0 : Nat) : Int) = 0) (hK : K ≠ 1) : v = 1 := by
  obtain ⟨hs, _⟩ := sbc_zero h
  unfold sbc at h
  rw [scb_yes hs] at h
  simp only [Int.toNat_natCast, if_true] at h
  cases hi : isb K d (v : Int) ((0 : Nat) : Int) with
  | false =>
    have hi2 : isb K d (v : Int) 0 = false := hi
    simp [hi2] at h
  | true =>
    unfold isb at hi
    rw [if_neg hK, if_pos (by rfl)] at hi
    simp only [Bool.and_eq_true, decide_eq_true_eq] at hi
    omega

theorem sbc_x {K E : Int} {d v x P Q G : Nat} (h : sbc K (d : Int) E P Q G (v : Int) (x : Int) = 0) (hK : K ≠ 1) (hx0 : x ≠ 0) : x < 2 ^ (d + 1) := by
  obtain ⟨hs, d', v', x', e1, e2, e3, hd, _⟩ := sbc_zero h
  obtain rfl : d = d' := by omega
  unfold sbc at h
  rw [scb_yes hs] at h
  simp only [Int.toNat_natCast, if_true] at h
  have hx1 : ¬ ((x : Int) = 0) := by omega
  cases hi : isb K d (v : Int) (x : Int) with
  | false => simp [hi] at h
  | true =>
    unfold isb at hi
    rw [if_neg hK, if_neg hx1] at hi
    simp only [Bool.and_eq_true] at hi
    obtain ⟨y, hy, _, h2, _⟩ := hsn_nat hd hi.2.1
    omega

set_option maxRecDepth 100000 in
set_option maxHeartbeats 4000000 in
theorem refSplitOf_any (K E : Int) (d v x P Q G : Nat) (w : World) (hs : sbc K (d : Int) E P Q G (v : Int) (x : Int) = 0) :
    Calls Try.prog 65 #[.agg #[.int .u8 K, .int .i64 (d : Int), .int .i64 E, .int .u64 (P : Int), .int .u64 (Q : Int), .int .u64 (G : Int)], .agg #[.int .i64 (v : Int), .int .i64 (x : Int)]] w fun e w' => (∃ u, e = .returned u ∧ ((mem_ d v x).length = 1 → u = .slice none 0 0) ∧ ((mem_ d v x).length ≠ 1 → w'.ownsRow w.heap.size 28 2 u 2 (splv K d v x))) ∧ Below w.heap.size w w' := by
  obtain ⟨N, hN⟩ : ∃ N, N = w.heap.size := ⟨_, rfl⟩
  obtain ⟨W2, hW2⟩ : ∃ W2, W2 = (w.alloc (.cells #[.int .u8 K, .int .i64 (d : Int), .int .i64 E, .int .u64 (P : Int), .int .u64 (Q : Int), .int .u64 (G : Int)] 26)).alloc (.cells #[.int .i64 (v : Int), .int .i64 (x : Int)] 28) := ⟨_, rfl⟩
  have HB2 : Hid (Below N w W2) := Lib.hid (by rw [hW2, hN]; exact ((Below.refl _ _).alloc (Nat.le_refl _) _).alloc (by simp) _)
  have HS2 : Hid (W2.heap.size = N + 2) := Lib.hid (by rw [hW2, hN]; simp)
  have HEnv : Hid (∀ w1, Below (N + 2) W2 w1 → SchAt w1 N K (d : Int) E P Q G ∧ (w1.cell? ⟨N + 1, 0, none⟩ = some (.int .i64 (v : Int)) ∧ w1.cell? ⟨N + 1, 1, none⟩ = some (.int .i64 (x : Int))) ∧ Below N w w1) := Lib.hid (fun w1 h => by
    have s : SchAt W2 N K (d : Int) E P Q G := by rw [hW2, hN]; exact (SchAt.new w K (d : Int) E P Q G _).below ((Below.refl _ _).alloc (Nat.le_refl _) _) (by simp)
    have c : ∀ j u0, #[Value.int .i64 (v : Int), Value.int .i64 (x : Int)][j]? = some u0 → W2.cell? ⟨N + 1, j, none⟩ = some u0 := fun j u0 hv => by
      have h := heap_alloc_new (w.alloc (.cells #[.int .u8 K, .int .i64 (d : Int), .int .i64 E, .int .u64 (P : Int), .int .u64 (Q : Int), .int .u64 (G : Int)] 26)) (.cells #[.int .i64 (v : Int), .int .i64 (x : Int)] 28)
      rw [← hW2, World.size_alloc, ← hN] at h
      rw [cell_of_row _ _ j _ _ _ h]; exact hv
    exact ⟨s.below h (by omega), ⟨(h.cell (p := ⟨N + 1, 0, none⟩) (by show N + 1 < N + 2; omega)).trans (c 0 _ rfl), (h.cell (p := ⟨N + 1, 1, none⟩) (by show N + 1 < N + 2; omega)).trans (c 1 _ rfl)⟩, HB2.out.trans (h.mono (by omega))⟩)
  obtain ⟨_, d', v', x', e1, e2, e3, hd, v1, v2, v3, hx⟩ := sbc_zero hs
  obtain rfl : d = d' := by omega
  obtain rfl : v = v' := by omega
  obtain rfl : x = x' := by omega
  clear e1 e2 e3
  have HSs := Lib.hid hs
  have HM := Lib.hid (fun w => refMembersOf_any K E d v x P Q G w hd v1 v3 hx)
  have HIs := Lib.hid (fun (a : Int) w => refIsSubset_any K E a (x : Int) d P Q G w hd)
  have HD := Lib.hid hd
  have HV2 := Lib.hid v2
  clear hs hd v2
  have HN := Lib.hid hN
  have HW := Lib.hid hW2
  rw [← hN]
  obtain ⟨⟨c0, c1, c2, c3, c4, c5⟩, ⟨z0, z1⟩, _⟩ := HEnv.out W2 (Below.refl _ _)
  rw [hW2, hN] at c0 c1 c2 c3 c4 c5 z0 z1
  clear hN hW2
  go_enter Try.func65, Try.ntmps65
  go_wp2_with fail
  rw [← HW.out, ← HN.out]
  refine wp_region_inv (by kernel_rfl) (by kernel_rfl) (fun l a' w' => a' = { tmps := #[Value.agg #[.int .u8 K, .int .i64 (d : Int), .int .i64 E, .int .u64 (P : Int), .int .u64 (Q : Int), .int .u64 (G : Int)], Value.agg #[Value.int .i64 (v : Int), Value.int .i64 (x : Int)], Value.pointer (some ⟨N, 0, none⟩), Value.pointer (some ⟨N + 1, 0, none⟩), Value.slice none 0 0, bif l 4 then Value.int .i64 (v : Int) else undef, bif l 5 then Value.int .i64 (x : Int) else undef, undef, undef, bif l 0 then Value.pointer (some ⟨N + 1, 0, none⟩) else undef, bif l 1 then Value.int .i64 (v : Int) else undef, bif l 2 then Value.pointer (some ⟨N + 1, 1, none⟩) else undef, bif l 3 then Value.int .i64 (x : Int) else undef, undef, undef, undef, undef, undef, undef, undef, undef, undef, undef, undef, undef, undef, undef, undef, undef, undef, undef, undef, undef, undef, undef, undef, undef, undef, undef, undef, undef, undef, undef, undef, undef, undef, undef, undef, undef, undef, undef, undef, undef, undef, undef, undef, undef, undef, undef, undef, undef, undef, undef, undef, undef, undef, undef, undef, undef, undef, undef, undef], defers := [] } ∧ w' = W2.drew) ⟨rfl, rfl⟩ ?_ ?_
  · rintro l a' w' i ⟨rfl, rfl⟩ hi hli hpre
    have hi2 : i < 6 := hi
    have hcase : i = 0 ∨ i = 1 ∨ i = 2 ∨ i = 3 ∨ i = 4 ∨ i = 5 := by omega
    clear hi hi2
    rcases hcase with rfl | rfl | rfl | rfl | rfl | rfl
    · -- 0: Op.fieldAddr 28 (Operand.tmp 3) 0
      refine wpOp_step rfl (fun K' hK => ?_)
      clear hpre
      rw [if_pos (by rfl)]
      go_simp
      exact hK _ _ ⟨by simp [upd, Act.put], rfl⟩
    · -- 1: Op.load 3 (Operand.tmp 9)
      have p0 : l 0 = true := hpre _ rfl ⟨0, .data⟩ (by simp) rfl
      refine wpOp_step rfl (fun K' hK => ?_)
      simp only [p0, cond_true, cond_false]
      clear hpre
      rw [if_pos (by rfl)]
      have z := (HEnv.out W2.drew ((Below.refl _ _).drew)).2.1
      have z1 := z.1
      go_simp
      exact hK _ _ ⟨by simp [upd, Act.put, p0], rfl⟩
    · -- 2: Op.fieldAddr 28 (Operand.tmp 3) 1
      refine wpOp_step rfl (fun K' hK => ?_)
      clear hpre
      rw [if_pos (by rfl)]
      go_simp
      exact hK _ _ ⟨by simp [upd, Act.put], rfl⟩
    · -- 3: Op.load 3 (Operand.tmp 11)
      have p2 : l 2 = true := hpre _ rfl ⟨2, .data⟩ (by simp) rfl
      refine wpOp_step rfl (fun K' hK => ?_)
      simp only [p2, cond_true, cond_false]
      clear hpre
      rw [if_pos (by rfl)]
      have z := (HEnv.out W2.drew ((Below.refl _ _).drew)).2.1
      have z1 := z.2
      go_simp
      exact hK _ _ ⟨by simp [upd, Act.put, p2], rfl⟩
    · -- 4: Op.assign (Operand.tmp 10)
      have p1 : l 1 = true := hpre _ rfl ⟨1, .data⟩ (by simp) rfl
      have p0 : l 0 = true := hpre _ rfl ⟨0, .phase⟩ (by simp) rfl
      refine wpOp_step rfl (fun K' hK => ?_)
      simp only [p1, p0, cond_true, cond_false]
      clear hpre
      rw [if_pos (by rfl)]
      go_simp
      exact hK _ _ ⟨by simp [upd, Act.put, p1, p0], rfl⟩
    · -- 5: Op.assign (Operand.tmp 12)
      have p3 : l 3 = true := hpre _ rfl ⟨3, .data⟩ (by simp) rfl
      have p4 : l 4 = true := hpre _ rfl ⟨4, .chain⟩ (by simp) rfl
      have p0 : l 0 = true := hpre _ rfl ⟨0, .phase⟩ (by simp) rfl
      have p1 : l 1 = true := hpre _ rfl ⟨1, .phase⟩ (by simp) rfl
      have p2 : l 2 = true := hpre _ rfl ⟨2, .phase⟩ (by simp) rfl
      refine wpOp_step rfl (fun K' hK => ?_)
      simp only [p3, p4, p0, p1, p2, cond_true, cond_false]
      clear hpre
      rw [if_pos (by rfl)]
      go_simp
      exact hK _ _ ⟨by simp [upd, Act.put, p3, p4, p0, p1, p2], rfl⟩
  · rintro l a' w9 hall ⟨rfl, rfl⟩
    simp only [hall 0 (by decide), hall 1 (by decide), hall 2 (by decide), hall 3 (by decide), hall 4 (by decide), hall 5 (by decide), cond_true]
    clear hall
    obtain ⟨Wq, hWq⟩ : ∃ Wq, Wq = W2.drew := ⟨_, rfl⟩
    have HBq : Hid (Below (N + 2) W2 Wq ∧ N + 2 ≤ Wq.heap.size) := Lib.hid (by rw [hWq]; exact ⟨(Below.refl _ _).drew, by show N + 2 ≤ W2.heap.size; rw [HS2.out]; exact Nat.le_refl _⟩)
    rw [← hWq]
    clear hWq c0 c1 c2 c3 c4 c5 z0 z1
    obtain ⟨⟨c0, c1, c2, c3, c4, c5⟩, ⟨z0, z1⟩, _⟩ := HEnv.out Wq HBq.out.1
    go_wp2_with fail
    refine (HM.out _).mono ?_
    rintro e w3 ⟨⟨u, rfl, ho⟩, hb3⟩
    have HB3 : Hid (Below (N + 2) W2 w3 ∧ N + 2 ≤ w3.heap.size) := Lib.hid ⟨HBq.out.1.trans (hb3.mono HBq.out.2), Nat.le_trans HBq.out.2 hb3.size⟩
    have HE3 : Hid (Below N w w3 ∧ N ≤ w3.heap.size) := Lib.hid ⟨(HEnv.out w3 HB3.out.1).2.2, by have := HB3.out.2; omega⟩
    clear hb3 c0 c1 c2 c3 c4 c5 z0 z1 HM
    obtain ⟨A, c, rfl⟩ := own_val ho
    clear ho
    obtain ⟨m, hm⟩ : ∃ m, m = (mem_ d v x).length := ⟨_, rfl⟩
    have HMm := Lib.hid hm
    rw [← hm]
    clear hm
    by_cases hm1 : m = 1
    · subst hm1
      have HL : Hid ((mem_ d v x).length = 1) := Lib.hid HMm.out.symm
      clear HMm
      go_wp2_with fail
      go_ret
      exact ⟨⟨_, rfl, fun _ => rfl, fun h => absurd HL.out h⟩, HE3.out.1⟩
    have HL : Hid ((mem_ d v x).length ≠ 1) := Lib.hid (by rw [← HMm.out]; exact hm1)
    have hmn : ((m : Int) == 1) = false := beq_eq_false_iff_ne.2 (by omega)
    clear hm1 HMm
    obtain ⟨⟨c0, c1, c2, c3, c4, c5⟩, _, _⟩ := HEnv.out w3 HB3.out.1
    by_cases hK : K = 1
    · have HSp : Hid (splv K d v x = two (2 * v : Nat) 0 (2 * v + 1 : Nat) 0) := Lib.hid (by unfold splv; rw [if_pos hK])
      rw [hK] at c0
      have HO : Hid (∀ l r : Int, l = ((2 * v : Nat) : Int) → r = ((2 * v + 1 : Nat) : Int) → (w3.alloc (.cells #[.int .i64 l, .int .i64 0, .int .i64 r, .int .i64 0] 28)).ownsRow N 28 2 (.slice (some ⟨w3.heap.size, 0, none⟩) 2 2) 2 (splv K d v x) ∧ Below N w (w3.alloc (.cells #[.int .i64 l, .int .i64 0, .int .i64 r, .int .i64 0] 28))) := Lib.hid (fun l r e1 e2 => by
        rw [HSp.out, ← e1, ← e2]
        exact ⟨own_two w3 l 0 r 0 N HE3.out.2, HE3.out.1.alloc HE3.out.2 _⟩)
      clear hK
      go_wp2_with fail
      go_ret
      exact ⟨⟨_, rfl, fun h => absurd h HL.out, fun _ => (HO.out _ _ (by omega) (by omega)).1⟩, (HO.out _ _ (by omega) (by omega)).2⟩
    have hKn : (K == 1) = false := beq_eq_false_iff_ne.2 hK
    by_cases hx0 : x = 0
    · subst hx0
      obtain rfl := sbc_root HSs.out hK
      have HSp : Hid (splv K d 1 0 = two 1 2 1 3) := Lib.hid (by unfold splv; rw [if_neg hK, if_pos rfl]; rfl)
      have HO : Hid ((w3.alloc (.cells #[.int .i64 1, .int .i64 2, .int .i64 1, .int .i64 3] 28)).ownsRow N 28 2 (.slice (some ⟨w3.heap.size, 0, none⟩) 2 2) 2 (splv K d 1 0) ∧ Below N w (w3.alloc (.cells #[.int .i64 1, .int .i64 2, .int .i64 1, .int .i64 3] 28))) := Lib.hid (by
        rw [HSp.out]
        exact ⟨own_two w3 1 2 1 3 N HE3.out.2, HE3.out.1.alloc HE3.out.2 _⟩)
      clear hK
      go_wp2_with fail
      go_ret
      exact ⟨⟨_, rfl, fun h => absurd h HL.out, fun _ => HO.out.1⟩, HO.out.2⟩
    obtain ⟨hxv, habv⟩ := sbc_high HSs.out hK hx0
    obtain ⟨hx2, hxl⟩ := half_ok v3 hx habv hxv
    have hlv := lv_half x (by omega)
    have hxn : ((x : Int) == 0) = false := beq_eq_false_iff_ne.2 (by omega)
    have HSp : Hid (splv K d v x = if x = nat_ x (lv v + 1) then two (x ^^^ 1 : Nat) (2 * (x ^^^ 1) : Nat) (x ^^^ 1 : Nat) (2 * (x ^^^ 1) + 1 : Nat)
      else if isb K d (nat_ x (lv v + 1)) x = true then two v (nat_ x (lv v + 1)) (nat_ x (lv v + 1)) x else two v (fsp d v x) (fsp d v x) x) := Lib.hid (by unfold splv; rw [if_neg hK, if_neg hx0])
    have HPt := Lib.hid (fun w => refPath_any v x w (by omega) habv)
    have HNa : Hid (x >>> (lv x - lv v - 1) = nat_ x (lv v + 1)) := Lib.hid (by unfold nat_; rw [Nat.sub_sub])
    have HXs : Hid (x < 2 ^ (d + 1)) := Lib.hid (sbc_x HSs.out hK hx0)
    have HBw := Lib.hid (fun w => refBetween_any d v x w HD.out HV2.out HXs.out habv hxv)
    obtain ⟨Lp, hLp⟩ : ∃ Lp, Lp = lv x - lv v := ⟨_, rfl⟩
    have hl8 := lv_lt x (by omega)
    have hLp1 : 1 ≤ Lp ∧ Lp < 8 := by omega
    rw [← hLp] at HPt HNa
    obtain ⟨ch, hch⟩ : ∃ ch, ch = nat_ x (lv v + 1) := ⟨_, rfl⟩
    obtain ⟨fs, hfs⟩ : ∃ fs, fs = fsp d v x := ⟨_, rfl⟩
    rw [← hch, ← hfs] at HSp
    rw [← hch] at HNa
    rw [← hfs] at HBw
    clear hLp hl8 hch hfs hK hx0 hxv habv hx2 hxl hlv HV2
    go_wp2_with fail
    refine (HPt.out _).mono ?_
    rintro e w4 ⟨⟨g, cc, rfl, hg1, hg2, hg3, hcell⟩, hb4⟩
    have k1 := hcell 1 (by omega)
    rw [HNa.out] at k1
    have HB4 : Hid (Below (N + 2) W2 w4 ∧ N + 2 ≤ w4.heap.size) := Lib.hid ⟨HB3.out.1.trans (hb4.mono HB3.out.2), Nat.le_trans HB3.out.2 hb4.size⟩
    have HE4 : Hid (Below N w w4 ∧ N ≤ w4.heap.size) := Lib.hid ⟨(HEnv.out w4 HB4.out.1).2.2, by have := HB4.out.2; omega⟩
    clear hcell hb4 hg1 c0 c1 c2 c3 c4 c5
    obtain ⟨⟨c0, c1, c2, c3, c4, c5⟩, _, _⟩ := HEnv.out w4 HB4.out.1
    by_cases hc : x = ch
    · have HS2 : Hid (splv K d v x = two (x ^^^ 1 : Nat) (2 * (x ^^^ 1) : Nat) (x ^^^ 1 : Nat) (2 * (x ^^^ 1) + 1 : Nat)) := Lib.hid (by rw [HSp.out, if_pos hc])
      subst hc
      have hxo := xor_one x (by omega)
      have ho7 : x ^^^ 1 < 128 := Nat.xor_lt_two_pow (n := 7) (by omega) (by decide)
      obtain ⟨oo, hoo⟩ : ∃ oo, oo = x ^^^ 1 := ⟨_, rfl⟩
      rw [← hoo] at hxo ho7 HS2
      clear hoo
      have HO : Hid (∀ l r : Int, l = ((2 * oo : Nat) : Int) → r = ((2 * oo + 1 : Nat) : Int) → (w4.alloc (.cells #[.int .i64 (oo : Int), .int .i64 l, .int .i64 (oo : Int), .int .i64 r] 28)).ownsRow N 28 2 (.slice (some ⟨w4.heap.size, 0, none⟩) 2 2) 2 (splv K d v x) ∧ Below N w (w4.alloc (.cells #[.int .i64 (oo : Int), .int .i64 l, .int .i64 (oo : Int), .int .i64 r] 28))) := Lib.hid (fun l r e1 e2 => by
        rw [HS2.out, ← e1, ← e2]
        exact ⟨own_two w4 oo l oo r N HE4.out.2, HE4.out.1.alloc HE4.out.2 _⟩)
      go_wp2_with fail
      go_ret
      exact ⟨⟨_, rfl, fun h => absurd h HL.out, fun _ => (HO.out _ _ (by omega) (by omega)).1⟩, (HO.out _ _ (by omega) (by omega)).2⟩
    have hcn : ((ch : Int) == (x : Int)) = false := beq_eq_false_iff_ne.2 (by omega)
    have HS2 : Hid (splv K d v x = if isb K d ch x = true then two v ch ch x else two v fs fs x) := Lib.hid (by rw [HSp.out, if_neg hc])
    clear hc
    go_wp2_with fail
    refine (HIs.out _ _).mono ?_
    rintro e w5 ⟨rfl, hb5⟩
    have HB5 : Hid (Below (N + 2) W2 w5 ∧ N + 2 ≤ w5.heap.size) := Lib.hid ⟨HB4.out.1.trans (hb5.mono HB4.out.2), Nat.le_trans HB4.out.2 hb5.size⟩
    have HE5 : Hid (Below N w w5 ∧ N ≤ w5.heap.size) := Lib.hid ⟨(HEnv.out w5 HB5.out.1).2.2, by have := HB5.out.2; omega⟩
    clear hb5 c0 c1 c2 c3 c4 c5 k1
    obtain ⟨⟨c0, c1, c2, c3, c4, c5⟩, _, _⟩ := HEnv.out w5 HB5.out.1
    obtain ⟨q, hq⟩ : ∃ q, q = isb K d (ch : Int) (x : Int) := ⟨_, rfl⟩
    rw [← hq] at HS2 ⊢
    clear hq
    rcases q with _ | _
    · have HS3 : Hid (splv K d v x = two v fs fs x) := Lib.hid (by rw [HS2.out, if_neg Bool.false_ne_true])
      clear HS2
      go_wp2_with fail
      refine (HBw.out _).mono ?_
      rintro e w6 ⟨rfl, hb6⟩
      have HE6 : Hid (Below N w w6 ∧ N ≤ w6.heap.size) := Lib.hid ⟨HE5.out.1.trans (hb6.mono HE5.out.2), Nat.le_trans HE5.out.2 hb6.size⟩
      have HO : Hid ((w6.alloc (.cells #[.int .i64 (v : Int), .int .i64 (fs : Int), .int .i64 (fs : Int), .int .i64 (x : Int)] 28)).ownsRow N 28 2 (.slice (some ⟨w6.heap.size, 0, none⟩) 2 2) 2 (splv K d v x) ∧ Below N w (w6.alloc (.cells #[.int .i64 (v : Int), .int .i64 (fs : Int), .int .i64 (fs : Int), .int .i64 (x : Int)] 28))) := Lib.hid (by
        rw [HS3.out]
        exact ⟨own_two w6 v fs fs x N HE6.out.2, HE6.out.1.alloc HE6.out.2 _⟩)
      clear hb6 c0 c1 c2 c3 c4 c5
      go_wp2_with fail
      go_ret
      exact ⟨⟨_, rfl, fun h => absurd h HL.out, fun _ => HO.out.1⟩, HO.out.2⟩
    · have HS3 : Hid (splv K d v x = two v ch ch x) := Lib.hid (by rw [HS2.out, if_pos rfl])
      have HO : Hid ((w5.alloc (.cells #[.int .i64 (v : Int), .int .i64 (ch : Int), .int .i64 (ch : Int), .int .i64 (x : Int)] 28)).ownsRow N 28 2 (.slice (some ⟨w5.heap.size, 0, none⟩) 2 2) 2 (splv K d v x) ∧ Below N w (w5.alloc (.cells #[.int .i64 (v : Int), .int .i64 (ch : Int), .int .i64 (ch : Int), .int .i64 (x : Int)] 28))) := Lib.hid (by
        rw [HS3.out]
        exact ⟨own_two w5 v ch ch x N HE5.out.2, HE5.out.1.alloc HE5.out.2 _⟩)
      clear HS2 c0 c1 c2 c3 c4 c5
      go_wp2_with fail
      go_ret
      exact ⟨⟨_, rfl, fun h => absurd h HL.out, fun _ => HO.out.1⟩, HO.out.2⟩
end Go.Proofs.Ytpclgiabbmdgmaa
