/-
  Whether two nodes are a subset, the program's.
-/
import Derived.Test.YtelalpikdidpeaaPthB
import Derived.Test.YtelalpikdidpeaaReg
namespace Go.Proofs.Ytelalpikdidpeaa
open Go.RowKit TR
set_option linter.unusedVariables false
set_option linter.unusedSimpArgs false

/-- Whether two numbers are a subset of a scheme of kind K. -/
def isb (K : Int) (d : Nat) (a b : Int) : Bool :=
  hsn d a && (if K = 1 then decide (b = 0) else if b = 0 then decide (a = 1) else (hsn d b && (!(decide (b = a)) && (abv a.toNat b.toNat && (decide (K = 2) || spc d a.toNat || fsp d a.toNat b.toNat == 0)))))
theorem hsn_nat {d : Nat} {a : Int} (hd : d < 7) (h : hsn d a = true) : ∃ v : Nat, a = (v : Int) ∧ 1 ≤ v ∧ v < 2 ^ (d + 1) ∧ v < 128 := by
  have h1 := of_decide_eq_true h
  refine ⟨a.toNat, by omega, by omega, by omega, ?_⟩
  have h2 : 2 ^ (d + 1) ≤ 128 := by rcases (by omega : d = 0 ∨ d = 1 ∨ d = 2 ∨ d = 3 ∨ d = 4 ∨ d = 5 ∨ d = 6) with rfl | rfl | rfl | rfl | rfl | rfl | rfl <;> decide
  omega
theorem chk_half : ((List.range 128).all fun v => (List.range 128).all fun x => !(abv v x) || x == v || (decide (2 ≤ x) && decide (lv v ≤ lv (x / 2)))) = true := by decide +kernel
theorem half_ok {v x : Nat} (hv : v < 128) (hx : x < 128) (h : abv v x = true) (hne : x ≠ v) : 2 ≤ x ∧ lv v ≤ lv (x / 2) := by
  have h1 := chk_half
  simp only [List.all_eq_true, List.mem_range] at h1
  have h3 := h1 v hv x hx
  simp [h, hne] at h3
  exact h3

set_option maxRecDepth 100000 in
set_option maxHeartbeats 4000000 in
theorem isSubset_any (K E a b : Int) (d P Q G : Nat) (w : World) (hd : d < 7) :
    Calls Try.prog 43 #[.agg #[.int .u8 K, .int .i64 (d : Int), .int .i64 E, .int .u64 (P : Int), .int .u64 (Q : Int), .int .u64 (G : Int)], .agg #[.int .i64 a, .int .i64 b]] w fun e w' => e = .returned (.bool (isb K d a b)) ∧ Below w.heap.size w w' := by
  obtain ⟨N, hN⟩ : ∃ N, N = w.heap.size := ⟨_, rfl⟩
  obtain ⟨W2, hW2⟩ : ∃ W2, W2 = (w.alloc (.cells #[.int .u8 K, .int .i64 (d : Int), .int .i64 E, .int .u64 (P : Int), .int .u64 (Q : Int), .int .u64 (G : Int)] 28)).alloc (.cells #[.int .i64 a, .int .i64 b] 35) := ⟨_, rfl⟩
  have HB2 : Hid (Below N w W2) := Lib.hid (by rw [hW2, hN]; exact ((Below.refl _ _).alloc (Nat.le_refl _) _).alloc (by simp) _)
  have HS2 : Hid (W2.heap.size = N + 2) := Lib.hid (by rw [hW2, hN]; simp)
  have HEnv : Hid (∀ w1, Below (N + 2) W2 w1 → SchAt w1 N K (d : Int) E P Q G ∧ (w1.cell? ⟨N + 1, 0, none⟩ = some (.int .i64 a) ∧ w1.cell? ⟨N + 1, 1, none⟩ = some (.int .i64 b)) ∧ Below N w w1) := Lib.hid (fun w1 h => by
    have s : SchAt W2 N K (d : Int) E P Q G := by rw [hW2, hN]; exact (SchAt.new w K (d : Int) E P Q G _).below ((Below.refl _ _).alloc (Nat.le_refl _) _) (by simp)
    have c : ∀ j v, #[Value.int .i64 a, Value.int .i64 b][j]? = some v → W2.cell? ⟨N + 1, j, none⟩ = some v := fun j v hv => by
      have h := heap_alloc_new (w.alloc (.cells #[.int .u8 K, .int .i64 (d : Int), .int .i64 E, .int .u64 (P : Int), .int .u64 (Q : Int), .int .u64 (G : Int)] 28)) (.cells #[.int .i64 a, .int .i64 b] 35)
      rw [← hW2, World.size_alloc, ← hN] at h
      rw [cell_of_row _ _ j _ _ _ h]; exact hv
    exact ⟨s.below h (by omega), ⟨(h.cell (p := ⟨N + 1, 0, none⟩) (by show N + 1 < N + 2; omega)).trans (c 0 _ rfl), (h.cell (p := ⟨N + 1, 1, none⟩) (by show N + 1 < N + 2; omega)).trans (c 1 _ rfl)⟩, HB2.out.trans (h.mono (by omega))⟩)
  have HH := Lib.hid (fun (x : Int) (w : World) => hasNode_any K E x d P Q G w hd)
  have HD := Lib.hid hd
  have HN := Lib.hid hN
  have HW := Lib.hid hW2
  rw [← hN]
  clear hN hW2 hd
  go_enter Try.func43, Try.ntmps43
  go_wp2_with fail
  rw [← HW.out, ← HN.out]
  skip
  refine wp_region_inv (by kernel_rfl) (by kernel_rfl) (fun l a' w' => a' = { tmps := #[Value.agg #[.int .u8 K, .int .i64 (d : Int), .int .i64 E, .int .u64 (P : Int), .int .u64 (Q : Int), .int .u64 (G : Int)], Value.agg #[Value.int .i64 a, Value.int .i64 b], Value.pointer (some ⟨N, 0, none⟩), Value.pointer (some ⟨N + 1, 0, none⟩), Value.bool false, bif l 4 then Value.int .i64 a else undef, bif l 5 then Value.int .i64 b else undef, bif l 0 then Value.pointer (some ⟨N + 1, 0, none⟩) else undef, bif l 1 then Value.int .i64 a else undef, bif l 2 then Value.pointer (some ⟨N + 1, 1, none⟩) else undef, bif l 3 then Value.int .i64 b else undef, undef, undef, undef, undef, undef, undef, undef, undef, undef, undef, undef, undef, undef, undef, undef, undef, undef, undef, undef, undef, undef, undef, undef, undef, undef, undef, undef, undef, undef, undef, undef, undef, undef, undef, undef, undef, undef, undef, undef, undef, undef, undef, undef, undef, undef, undef, undef], defers := [] } ∧ w' = W2.drew) ⟨rfl, rfl⟩ ?_ ?_
  · rintro l a' w' i ⟨rfl, rfl⟩ hi hli hpre
    have hi2 : i < 6 := hi
    have hcase : i = 0 ∨ i = 1 ∨ i = 2 ∨ i = 3 ∨ i = 4 ∨ i = 5 := by omega
    clear hi hi2
    rcases hcase with rfl | rfl | rfl | rfl | rfl | rfl
    · -- 0: Op.fieldAddr 28 (Operand.tmp 3) 0
      refine wpOp_step rfl (fun K' hK => ?_)
      clear hpre
      rw [if_pos (by rfl)]
      go_simp
      exact hK _ _ ⟨by simp [upd, Act.put], rfl⟩
    · -- 1: Op.load 3 (Operand.tmp 7)
      have p0 : l 0 = true := hpre _ rfl ⟨0, .data⟩ (by simp) rfl
      refine wpOp_step rfl (fun K' hK => ?_)
      simp only [p0, cond_true, cond_false]
      clear hpre
      rw [if_pos (by rfl)]
      have z := (HEnv.out W2.drew ((Below.refl _ _).drew)).2.1
      have z1 := z.1
      go_simp
      exact hK _ _ ⟨by simp [upd, Act.put, p0], rfl⟩
    · -- 2: Op.fieldAddr 28 (Operand.tmp 3) 1
      refine wpOp_step rfl (fun K' hK => ?_)
      clear hpre
      rw [if_pos (by rfl)]
      go_simp
      exact hK _ _ ⟨by simp [upd, Act.put], rfl⟩
    · -- 3: Op.load 3 (Operand.tmp 9)
      have p2 : l 2 = true := hpre _ rfl ⟨2, .data⟩ (by simp) rfl
      refine wpOp_step rfl (fun K' hK => ?_)
      simp only [p2, cond_true, cond_false]
      clear hpre
      rw [if_pos (by rfl)]
      have z := (HEnv.out W2.drew ((Below.refl _ _).drew)).2.1
      have z1 := z.2
      go_simp
      exact hK _ _ ⟨by simp [upd, Act.put, p2], rfl⟩
    · -- 4: Op.assign (Operand.tmp 8)
      have p1 : l 1 = true := hpre _ rfl ⟨1, .data⟩ (by simp) rfl
      have p0 : l 0 = true := hpre _ rfl ⟨0, .phase⟩ (by simp) rfl
      refine wpOp_step rfl (fun K' hK => ?_)
      simp only [p1, p0, cond_true, cond_false]
      clear hpre
      rw [if_pos (by rfl)]
      go_simp
      exact hK _ _ ⟨by simp [upd, Act.put, p1, p0], rfl⟩
    · -- 5: Op.assign (Operand.tmp 10)
      have p3 : l 3 = true := hpre _ rfl ⟨3, .data⟩ (by simp) rfl
      have p4 : l 4 = true := hpre _ rfl ⟨4, .chain⟩ (by simp) rfl
      have p0 : l 0 = true := hpre _ rfl ⟨0, .phase⟩ (by simp) rfl
      have p1 : l 1 = true := hpre _ rfl ⟨1, .phase⟩ (by simp) rfl
      have p2 : l 2 = true := hpre _ rfl ⟨2, .phase⟩ (by simp) rfl
      refine wpOp_step rfl (fun K' hK => ?_)
      simp only [p3, p4, p0, p1, p2, cond_true, cond_false]
      clear hpre
      rw [if_pos (by rfl)]
      go_simp
      exact hK _ _ ⟨by simp [upd, Act.put, p3, p4, p0, p1, p2], rfl⟩
  · rintro l a' w9 hall ⟨rfl, rfl⟩
    simp only [hall 0 (by decide), hall 1 (by decide), hall 2 (by decide), hall 3 (by decide), hall 4 (by decide), hall 5 (by decide), cond_true]
    clear hall
    obtain ⟨Wq, hWq⟩ : ∃ Wq, Wq = W2.drew := ⟨_, rfl⟩
    have HBq : Hid (Below (N + 2) W2 Wq ∧ N + 2 ≤ Wq.heap.size) := Lib.hid (by rw [hWq]; exact ⟨(Below.refl _ _).drew, by show N + 2 ≤ W2.heap.size; rw [HS2.out]; exact Nat.le_refl _⟩)
    rw [← hWq]
    clear hWq
    obtain ⟨⟨c0, c1, c2, c3, c4, c5⟩, _, _⟩ := HEnv.out Wq HBq.out.1
    go_wp2_with fail
    refine (HH.out a _).mono ?_
    rintro e w3 ⟨rfl, hb3⟩
    have HB3 : Hid (Below (N + 2) W2 w3 ∧ N + 2 ≤ w3.heap.size) := Lib.hid ⟨HBq.out.1.trans (hb3.mono HBq.out.2), Nat.le_trans HBq.out.2 hb3.size⟩
    have HE3 : Hid (Below N w w3) := Lib.hid (HEnv.out w3 HB3.out.1).2.2
    clear hb3 c0 c1 c2 c3 c4 c5
    rcases hha : hsn d a with _ | _
    · have HF : Hid (isb K d a b = false) := Lib.hid (by unfold isb; rw [hha]; rfl)
      clear hha
      go_wp2_with fail
      go_ret
      exact ⟨by rw [HF.out]; rfl, HE3.out⟩
    obtain ⟨v, rfl, hv1, hv2, hv3⟩ := hsn_nat HD.out hha
    have HHa := Lib.hid hha
    have HV := Lib.hid (And.intro hv1 hv3)
    clear hha hv1 hv2 hv3
    obtain ⟨⟨c0, c1, c2, c3, c4, c5⟩, _, _⟩ := HEnv.out w3 HB3.out.1
    by_cases hK1 : K = 1
    · have HF : Hid (isb K d v b = decide (b = 0)) := Lib.hid (by unfold isb; rw [HHa.out, if_pos hK1]; rfl)
      by_cases hb0 : b = 0
      all_goals
        go_wp2_with fail
        go_ret
        exact ⟨by rw [HF.out]; first | rfl | (simp [hb0]; done), HE3.out⟩
    by_cases hb0 : b = 0
    · have HF : Hid (isb K d v b = decide ((v : Int) = 1)) := Lib.hid (by unfold isb; rw [HHa.out, if_neg hK1, if_pos hb0]; rfl)
      by_cases hv1 : (v : Int) = 1
      all_goals
        go_wp2_with fail
        go_ret
        exact ⟨by rw [HF.out]; first | rfl | (simp [hv1]; done) | (simp; omega), HE3.out⟩
    go_wp2_with fail
    refine (HH.out b _).mono ?_
    rintro e w4 ⟨rfl, hb4⟩
    have HB4 : Hid (Below (N + 2) W2 w4 ∧ N + 2 ≤ w4.heap.size) := Lib.hid ⟨HB3.out.1.trans (hb4.mono HB3.out.2), Nat.le_trans HB3.out.2 hb4.size⟩
    have HE4 : Hid (Below N w w4) := Lib.hid (HEnv.out w4 HB4.out.1).2.2
    clear hb4 c0 c1 c2 c3 c4 c5
    rcases hhb : hsn d b with _ | _
    · have HF : Hid (isb K d v b = false) := Lib.hid (by unfold isb; rw [HHa.out, if_neg hK1, if_neg hb0, hhb]; rfl)
      clear hhb
      go_wp2_with fail
      go_ret
      exact ⟨by rw [HF.out]; rfl, HE4.out⟩
    obtain ⟨x, rfl, hx1, hx2, hx3⟩ := hsn_nat HD.out hhb
    have HHb := Lib.hid hhb
    have HX := Lib.hid (And.intro hx1 hx3)
    have HI : Hid (isb K d v x = (!(decide ((x : Int) = (v : Int))) && (abv v x && (decide (K = 2) || spc d v || fsp d v x == 0)))) := Lib.hid (by unfold isb; rw [HHa.out, if_neg hK1, if_neg hb0, HHb.out]; simp only [Bool.true_and, Int.toNat_natCast])
    clear hhb hx1 hx2 hx3 hb0
    by_cases hxv : x = v
    · subst hxv
      go_wp2_with fail
      go_ret
      exact ⟨by rw [HI.out]; first | rfl | (simp; done), HE4.out⟩
    have hxv' : ¬ (x : Int) = (v : Int) := by omega
    have HNE := Lib.hid hxv
    have HA := Lib.hid (fun w => isAbove_any v x w (by have := HV.out.2; omega) HX.out.1 (by have := HX.out.2; omega))
    clear hxv
    go_wp2_with fail
    refine (HA.out _).mono ?_
    rintro e w' ⟨rfl, rfl⟩
    clear HA
    rcases hab : abv v x with _ | _
    · have HAb := Lib.hid hab
      clear hab
      go_wp2_with fail
      go_ret
      exact ⟨by rw [HI.out, HAb.out]; first | rfl | (simp; done), HE4.out⟩
    have HHL := Lib.hid (half_ok HV.out.2 HX.out.2 hab HNE.out)
    have HAb := Lib.hid hab
    clear hab
    obtain ⟨⟨c0, c1, c2, c3, c4, c5⟩, _, _⟩ := HEnv.out w4 HB4.out.1
    by_cases hK2 : K = 2
    · go_wp2_with fail
      go_ret
      exact ⟨by rw [HI.out, HAb.out]; first | rfl | (simp [hK2, hxv']; done), HE4.out⟩
    have HSp := Lib.hid (fun w => isSpecial_any K E d v P Q G w HD.out HV.out.1 (by have := HV.out.2; omega))
    have HFs := Lib.hid (fun w => firstSpecial_any K E d v x P Q G w HD.out HV.out.1 (by have := HV.out.2; omega) HHL.out.1 (by have := HX.out.2; omega) HHL.out.2)
    go_wp2_with fail
    refine (HSp.out _).mono ?_
    rintro e w5 ⟨rfl, hb5⟩
    have HB5 : Hid (Below (N + 2) W2 w5 ∧ N + 2 ≤ w5.heap.size) := Lib.hid ⟨HB4.out.1.trans (hb5.mono HB4.out.2), Nat.le_trans HB4.out.2 hb5.size⟩
    have HE5 : Hid (Below N w w5) := Lib.hid (HEnv.out w5 HB5.out.1).2.2
    clear hb5 c0 c1 c2 c3 c4 c5 HSp
    rcases hsp : spc d v with _ | _
    · have HSb := Lib.hid hsp
      clear hsp
      obtain ⟨⟨c0, c1, c2, c3, c4, c5⟩, _, _⟩ := HEnv.out w5 HB5.out.1
      go_wp2_with fail
      refine (HFs.out _).mono ?_
      rintro e w6 ⟨rfl, hb6⟩
      have HE6 : Hid (Below N w w6) := Lib.hid (HE5.out.trans (hb6.mono (by have := HB5.out.2; omega)))
      clear hb6 c0 c1 c2 c3 c4 c5 HFs
      obtain ⟨r, hr⟩ : ∃ r, r = fsp d v x := ⟨_, rfl⟩
      have HR := Lib.hid hr
      rw [← hr]
      clear hr
      by_cases hr : (r : Int) = 0
      · have hr0 : r = 0 := by omega
        go_wp2_with fail
        go_ret
        exact ⟨by rw [HI.out, ← HR.out, HAb.out, HSb.out]; first | rfl | (simp [hK2, hxv', hr0]; done), HE6.out⟩
      · have hr0 : ¬ r = 0 := by omega
        go_wp2_with fail
        go_ret
        exact ⟨by rw [HI.out, ← HR.out, HAb.out, HSb.out]; first | rfl | (simp [hK2, hxv', hr0]; done) | (simp only [show (K == 2) = false by simp [hK2], show ((r : Int) == 0) = false by simp [hr0], show (r == 0) = false by simp [hr0], show decide (K = 2) = false by simp [hK2], show decide ((x : Int) = (v : Int)) = false by simp; omega]; rfl), HE6.out⟩
    · have HSb := Lib.hid hsp
      clear hsp HFs
      go_wp2_with fail
      go_ret
      exact ⟨by rw [HI.out, HAb.out, HSb.out]; first | rfl | (simp [hK2, hxv']; done), HE5.out⟩
end Go.Proofs.Ytelalpikdidpeaa
