/-
  Texts joined into one: SpeC, SubB, SpeD, LvsA.
-/
import Derived.Test.YtelalpikdidpeaaSpeB
import Derived.Test.YtelalpikdidpeaaSubA

/-
  The first special node between two, the specification's.
-/
namespace Go.Proofs.Ytelalpikdidpeaa
open Go.RowKit TR
set_option linter.unusedVariables false
set_option linter.unusedSimpArgs false

/-- The first special one of n nodes from the one with the index i on, on a path of K steps to x. -/
def btl (d x K : Nat) : Nat → Nat → Nat
  | 0, _ => 0
  | n + 1, i => if spc d (x >>> (K - i)) then x >>> (K - i) else btl d x K n (i + 1)
theorem chk_btl : ((List.range 7).all fun d => (List.range (2 ^ (d + 1))).all fun v => (List.range (2 ^ (d + 1))).all fun w => !(abv v w) || w == v || btl d w (lv w - lv v) (lv w - lv v - 1) 1 == fsp d v w) = true := by decide +kernel
theorem btl_fsp (d v w : Nat) (hd : d < 7) (hv : v < 2 ^ (d + 1)) (hw : w < 2 ^ (d + 1)) (h1 : abv v w = true) (h2 : w ≠ v) : btl d w (lv w - lv v) (lv w - lv v - 1) 1 = fsp d v w := by
  have h := chk_btl
  simp only [List.all_eq_true, List.mem_range] at h
  have h3 := h d hd v hv w hw
  simpa [h1, h2] using h3

set_option maxRecDepth 100000 in
set_option maxHeartbeats 1000000 in
theorem refBetween_any (d v x : Nat) (w : World) (hd : d < 7) (hv : v < 2 ^ (d + 1)) (hx : x < 2 ^ (d + 1)) (h : abv v x = true) (hne : x ≠ v) :
    Calls Try.prog 87 #[.int .i64 (d : Int), .int .i64 (v : Int), .int .i64 (x : Int)] w fun e w' => e = .returned (.int .i64 (fsp d v x : Int)) ∧ Below w.heap.size w w' := by
  have h2 : 2 ^ (d + 1) ≤ 128 := by rcases (by omega : d = 0 ∨ d = 1 ∨ d = 2 ∨ d = 3 ∨ d = 4 ∨ d = 5 ∨ d = 6) with rfl | rfl | rfl | rfl | rfl | rfl | rfl <;> decide
  have HR := Lib.hid (btl_fsp d v x hd hv hx h hne)
  have HPa := Lib.hid (fun w => refPath_any v x w (by omega) h)
  have HLe : Hid (∀ k, x >>> k < 256) := Lib.hid (fun k => by rw [Nat.shiftRight_eq_div_pow]; have := Nat.div_le_self x (2 ^ k); omega)
  have HSp := Lib.hid (fun k w => refSpecial_any d (x >>> k) w hd (HLe.out k))
  have hl8 := lv_lt x (by omega)
  obtain ⟨R, hR⟩ : ∃ R, R = fsp d v x := ⟨_, rfl⟩
  rw [← hR] at HR ⊢
  obtain ⟨K, hK⟩ : ∃ K, K = lv x - lv v := ⟨_, rfl⟩
  rw [← hK] at HR HPa
  have hK8 : K ≤ 8 := by omega
  obtain ⟨N, hN⟩ : ∃ N, N = w.heap.size := ⟨_, rfl⟩
  have HN := Lib.hid hN
  clear hR hK h hne hv hx h2 hl8 hd hN
  go_enter Try.func87, Try.ntmps87
  go_wp2_with fail
  refine (HPa.out _).mono ?_
  rintro e w2 ⟨⟨g, c, rfl, q1, q2, q3, q4⟩, hb2⟩
  have HCl := Lib.hid q4
  have HB2 := Lib.hid hb2
  have HS2 := Lib.hid q1
  clear q1 q4 hb2
  go_wp2_with fail
  go_loopw [8] (fun y wr => ∃ (i : Nat), 1 ≤ i ∧ i ≤ K + 1 ∧ y = .int .i64 (i : Int) ∧ Hid (btl d x K (K - i) i = R) ∧ Hid (Below w2.heap.size w2 wr)) (fun y _ => K + 2 - (intOf y).toNat)
  case atStart => exact ⟨1, Nat.le_refl _, by omega, rfl, HR, Lib.hid (Below.refl _ _)⟩
  case round =>
    obtain ⟨i, hi1, hi2, rfl, HL, HBr⟩ := hrel
    by_cases hlt : i < K
    · have g1 := (HBr.out.cell (p := ⟨g, i, none⟩) (World.block_lt_of_cell? w2 _ (HCl.out i (by omega)))).trans (HCl.out i (by omega))
      have HSi := Lib.hid (fun w => HSp.out (K - i) w)
      have HL1 : Hid (btl d x K (K - i - 1 + 1) i = R) := Lib.hid (by rw [show K - i - 1 + 1 = K - i by omega]; exact HL.out)
      obtain ⟨y, hy⟩ : ∃ y, y = x >>> (K - i) := ⟨_, rfl⟩
      have HY := Lib.hid hy
      rw [← hy] at g1 HSi
      have l1 : (0 : Int) ≤ (i : Int) := by omega
      have l2 : (i : Int) < ((K + 1 : Nat) : Int) := by omega
      have l3 : (i : Int) < (K : Int) := by omega
      clear hy
      rcases hsp : spc d y with _ | _
      · have HNx : Hid (btl d x K (K - (i + 1)) (i + 1) = R) := Lib.hid (by
          have h1 := HL1.out
          rw [btl, ← HY.out, hsp, if_neg (by decide)] at h1
          rw [show K - (i + 1) = K - i - 1 by omega]; exact h1)
        rw [hsp] at HSi
        clear hsp
        go_wp2_with fail
        refine (HSi.out _).mono ?_
        rintro e w' ⟨rfl, rfl⟩
        clear g1
        go_wp2_with fail
        go_roundw
        case rel => exact ⟨i + 1, by omega, by omega, by go_num, HNx, HBr⟩
        case measure => simp [intOf]; omega
      · have HF : Hid (R = y) := Lib.hid (by
          have h1 := HL1.out
          rw [btl, ← HY.out, hsp, if_pos rfl] at h1
          exact h1.symm)
        rw [hsp] at HSi
        clear hsp
        go_wp2_with fail
        refine (HSi.out _).mono ?_
        rintro e w' ⟨rfl, rfl⟩
        go_wp2_with fail
        go_ret
        exact ⟨by rw [HF.out]; rfl, HB2.out.trans (HBr.out.mono HB2.out.size)⟩
    · have HF : Hid (R = 0) := Lib.hid (by rw [← HL.out, show K - i = 0 by omega]; rfl)
      have l3 : (K : Int) ≤ (i : Int) := by omega
      go_wp2_with fail
      go_ret
      exact ⟨by rw [HF.out]; rfl, HB2.out.trans (HBr.out.mono HB2.out.size)⟩
end Go.Proofs.Ytelalpikdidpeaa

/-
  Whether two nodes are a subset, the specification's.
-/
namespace Go.Proofs.Ytelalpikdidpeaa
open Go.RowKit TR
set_option linter.unusedVariables false
set_option linter.unusedSimpArgs false

set_option maxRecDepth 100000 in
set_option maxHeartbeats 4000000 in
theorem refIsSubset_any (K E a b : Int) (d P Q G : Nat) (w : World) (hd : d < 7) :
    Calls Try.prog 36 #[.agg #[.int .u8 K, .int .i64 (d : Int), .int .i64 E, .int .u64 (P : Int), .int .u64 (Q : Int), .int .u64 (G : Int)], .agg #[.int .i64 a, .int .i64 b]] w fun e w' => e = .returned (.bool (isb K d a b)) ∧ Below w.heap.size w w' := by
  obtain ⟨N, hN⟩ : ∃ N, N = w.heap.size := ⟨_, rfl⟩
  obtain ⟨W2, hW2⟩ : ∃ W2, W2 = (w.alloc (.cells #[.int .u8 K, .int .i64 (d : Int), .int .i64 E, .int .u64 (P : Int), .int .u64 (Q : Int), .int .u64 (G : Int)] 28)).alloc (.cells #[.int .i64 a, .int .i64 b] 35) := ⟨_, rfl⟩
  have HB2 : Hid (Below N w W2) := Lib.hid (by rw [hW2, hN]; exact ((Below.refl _ _).alloc (Nat.le_refl _) _).alloc (by simp) _)
  have HS2 : Hid (W2.heap.size = N + 2) := Lib.hid (by rw [hW2, hN]; simp)
  have HEnv : Hid (∀ w1, Below (N + 2) W2 w1 → SchAt w1 N K (d : Int) E P Q G ∧ (w1.cell? ⟨N + 1, 0, none⟩ = some (.int .i64 a) ∧ w1.cell? ⟨N + 1, 1, none⟩ = some (.int .i64 b)) ∧ Below N w w1) := Lib.hid (fun w1 h => by
    have s : SchAt W2 N K (d : Int) E P Q G := by rw [hW2, hN]; exact (SchAt.new w K (d : Int) E P Q G _).below ((Below.refl _ _).alloc (Nat.le_refl _) _) (by simp)
    have c : ∀ j v, #[Value.int .i64 a, Value.int .i64 b][j]? = some v → W2.cell? ⟨N + 1, j, none⟩ = some v := fun j v hv => by
      have h := heap_alloc_new (w.alloc (.cells #[.int .u8 K, .int .i64 (d : Int), .int .i64 E, .int .u64 (P : Int), .int .u64 (Q : Int), .int .u64 (G : Int)] 28)) (.cells #[.int .i64 a, .int .i64 b] 35)
      rw [← hW2, World.size_alloc, ← hN] at h
      rw [cell_of_row _ _ j _ _ _ h]; exact hv
    exact ⟨s.below h (by omega), ⟨(h.cell (p := ⟨N + 1, 0, none⟩) (by show N + 1 < N + 2; omega)).trans (c 0 _ rfl), (h.cell (p := ⟨N + 1, 1, none⟩) (by show N + 1 < N + 2; omega)).trans (c 1 _ rfl)⟩, HB2.out.trans (h.mono (by omega))⟩)
  have HH := Lib.hid (fun (x : Int) (w : World) => refNode_any x d w hd)
  have HD := Lib.hid hd
  have HN := Lib.hid hN
  have HW := Lib.hid hW2
  rw [← hN]
  obtain ⟨⟨c0, c1, c2, c3, c4, c5⟩, ⟨z0, z1⟩, _⟩ := HEnv.out W2 (Below.refl _ _)
  rw [hW2, hN] at c0 c1 c2 c3 c4 c5 z0 z1
  clear hN hW2 hd
  go_enter Try.func36, Try.ntmps36
  go_wp2_with fail
  rw [← HW.out, ← HN.out]
  refine (HH.out a _).mono ?_
  rintro e w3 ⟨rfl, rfl⟩
  clear c0 c1 c2 c3 c4 c5 z0 z1
  obtain ⟨⟨c0, c1, c2, c3, c4, c5⟩, ⟨z0, z1⟩, hE3⟩ := HEnv.out W2 (Below.refl _ _)
  have HE3 := Lib.hid hE3
  clear hE3
  rcases hha : hsn d a with _ | _
  · have HF : Hid (isb K d a b = false) := Lib.hid (by unfold isb; rw [hha]; rfl)
    clear hha
    go_wp2_with fail
    go_ret
    exact ⟨by rw [HF.out]; rfl, HE3.out⟩
  obtain ⟨v, rfl, hv1, hv2, hv3⟩ := hsn_nat HD.out hha
  have HHa := Lib.hid hha
  have HV := Lib.hid (And.intro hv1 (And.intro hv2 hv3))
  clear hha hv1 hv2 hv3
  by_cases hK1 : K = 1
  · have HF : Hid (isb K d v b = decide (b = 0)) := Lib.hid (by unfold isb; rw [HHa.out, if_pos hK1]; rfl)
    by_cases hb0 : b = 0
    all_goals
      go_wp2_with fail
      go_ret
      exact ⟨by rw [HF.out]; first | rfl | (simp [hb0]; done), HE3.out⟩
  by_cases hb0 : b = 0
  · have HF : Hid (isb K d v b = decide ((v : Int) = 1)) := Lib.hid (by unfold isb; rw [HHa.out, if_neg hK1, if_pos hb0]; rfl)
    by_cases hv1 : (v : Int) = 1
    all_goals
      go_wp2_with fail
      go_ret
      exact ⟨by rw [HF.out]; first | rfl | (simp [hv1]; done) | (simp; omega), HE3.out⟩
  go_wp2_with fail
  refine (HH.out b _).mono ?_
  rintro e w4 ⟨rfl, rfl⟩
  rcases hhb : hsn d b with _ | _
  · have HF : Hid (isb K d v b = false) := Lib.hid (by unfold isb; rw [HHa.out, if_neg hK1, if_neg hb0, hhb]; rfl)
    clear hhb
    go_wp2_with fail
    go_ret
    exact ⟨by rw [HF.out]; rfl, HE3.out⟩
  obtain ⟨x, rfl, hx1, hx2, hx3⟩ := hsn_nat HD.out hhb
  have HHb := Lib.hid hhb
  have HX := Lib.hid (And.intro hx1 (And.intro hx2 hx3))
  have HI : Hid (isb K d v x = (!(decide ((x : Int) = (v : Int))) && (abv v x && (decide (K = 2) || spc d v || fsp d v x == 0)))) := Lib.hid (by unfold isb; rw [HHa.out, if_neg hK1, if_neg hb0, HHb.out]; simp only [Bool.true_and, Int.toNat_natCast])
  clear hhb hx1 hx2 hx3 hb0
  by_cases hxv : x = v
  · subst hxv
    go_wp2_with fail
    go_ret
    exact ⟨by rw [HI.out]; first | rfl | (simp; done), HE3.out⟩
  have hxv' : ¬ (x : Int) = (v : Int) := by omega
  have HNE := Lib.hid hxv
  have HA : Hid (∀ w, Calls Try.prog 85 #[.int .i64 (x : Int), .int .i64 (v : Int)] w fun e w' => e = .returned (.bool (abv v x)) ∧ w = w') := Lib.hid (fun w => by
    have h := refBelow_any x v w HX.out.2.2 (by have := HV.out.2.2; omega)
    rw [blw_abv v x HV.out.2.2 HX.out.2.2 HV.out.1 HX.out.1] at h
    exact h)
  clear hxv
  go_wp2_with fail
  refine (HA.out _).mono ?_
  rintro e w' ⟨rfl, rfl⟩
  clear HA
  rcases hab : abv v x with _ | _
  · have HAb := Lib.hid hab
    clear hab
    go_wp2_with fail
    go_ret
    exact ⟨by rw [HI.out, HAb.out]; first | rfl | (simp; done), HE3.out⟩
  have HAb := Lib.hid hab
  clear hab
  by_cases hK2 : K = 2
  · go_wp2_with fail
    go_ret
    exact ⟨by rw [HI.out, HAb.out]; first | rfl | (simp [hK2, hxv']; done), HE3.out⟩
  have HSp := Lib.hid (fun w => refSpecial_any d v w HD.out (by have := HV.out.2.2; omega))
  have HFs := Lib.hid (fun w => refBetween_any d v x w HD.out HV.out.2.1 HX.out.2.1 HAb.out HNE.out)
  go_wp2_with fail
  refine (HSp.out _).mono ?_
  rintro e w5 ⟨rfl, rfl⟩
  clear HSp
  rcases hsp : spc d v with _ | _
  · have HSb := Lib.hid hsp
    clear hsp
    go_wp2_with fail
    refine (HFs.out _).mono ?_
    rintro e w6 ⟨rfl, hb6⟩
    have HE6 : Hid (Below N w w6) := Lib.hid (HE3.out.trans (hb6.mono (by rw [HS2.out]; omega)))
    clear hb6 c0 c1 c2 c3 c4 c5 z0 z1 HFs
    obtain ⟨r, hr⟩ : ∃ r, r = fsp d v x := ⟨_, rfl⟩
    have HR := Lib.hid hr
    rw [← hr]
    clear hr
    by_cases hr : (r : Int) = 0
    · have hr0 : r = 0 := by omega
      go_wp2_with fail
      go_ret
      exact ⟨by rw [HI.out, ← HR.out, HAb.out, HSb.out]; first | rfl | (simp [hK2, hxv', hr0]; done), HE6.out⟩
    · have hr0 : ¬ r = 0 := by omega
      go_wp2_with fail
      go_ret
      exact ⟨by rw [HI.out, ← HR.out, HAb.out, HSb.out]; first | rfl | (simp [hK2, hxv', hr0]; done) | (simp only [show (K == 2) = false by simp [hK2], show ((r : Int) == 0) = false by simp [hr0], show (r == 0) = false by simp [hr0], show decide (K = 2) = false by simp [hK2], show decide ((x : Int) = (v : Int)) = false by simp; omega]; rfl), HE6.out⟩
  · have HSb := Lib.hid hsp
    clear hsp HFs
    go_wp2_with fail
    go_ret
    exact ⟨by rw [HI.out, HAb.out, HSb.out]; first | rfl | (simp [hK2, hxv']; done), HE3.out⟩
end Go.Proofs.Ytelalpikdidpeaa

/-
  Members, the specification's.
-/
namespace Go.Proofs.Ytelalpikdidpeaa
open Go.RowKit TR
set_option linter.unusedVariables false
set_option linter.unusedSimpArgs false

theorem p64 {d : Nat} (hd : d < 7) : 1 ≤ 2 ^ d ∧ 2 ^ d ≤ 64 := by
  rcases (by omega : d = 0 ∨ d = 1 ∨ d = 2 ∨ d = 3 ∨ d = 4 ∨ d = 5 ∨ d = 6) with rfl | rfl | rfl | rfl | rfl | rfl | rfl <;> decide
theorem abv_zero (y : Nat) : abv 0 y = false := rfl

set_option maxRecDepth 100000 in
set_option maxHeartbeats 2000000 in
theorem refHas_any (K E : Int) (d v x u P Q G : Nat) (w : World) (hd : d < 7) (hv1 : 1 ≤ v) (hv : v < 128) (hx : x < 128) (hu : u < 2 ^ d) :
    Calls Try.prog 47 #[.agg #[.int .u8 K, .int .i64 (d : Int), .int .i64 E, .int .u64 (P : Int), .int .u64 (Q : Int), .int .u64 (G : Int)], .agg #[.int .i64 (v : Int), .int .i64 (x : Int)], .int .i64 (u : Int)] w fun e w' => e = .returned (.bool (abv v (2 ^ d + u) && !(abv x (2 ^ d + u)))) ∧ Below w.heap.size w w' := by
  obtain ⟨N, hN⟩ : ∃ N, N = w.heap.size := ⟨_, rfl⟩
  obtain ⟨W2, hW2⟩ : ∃ W2, W2 = (w.alloc (.cells #[.int .u8 K, .int .i64 (d : Int), .int .i64 E, .int .u64 (P : Int), .int .u64 (Q : Int), .int .u64 (G : Int)] 28)).alloc (.cells #[.int .i64 (v : Int), .int .i64 (x : Int)] 35) := ⟨_, rfl⟩
  have HB2 : Hid (Below N w W2) := Lib.hid (by rw [hW2, hN]; exact ((Below.refl _ _).alloc (Nat.le_refl _) _).alloc (by simp) _)
  have HS2 : Hid (W2.heap.size = N + 2) := Lib.hid (by rw [hW2, hN]; simp)
  have HEnv : Hid (∀ w1, Below (N + 2) W2 w1 → SchAt w1 N K (d : Int) E P Q G ∧ (w1.cell? ⟨N + 1, 0, none⟩ = some (.int .i64 (v : Int)) ∧ w1.cell? ⟨N + 1, 1, none⟩ = some (.int .i64 (x : Int))) ∧ Below N w w1) := Lib.hid (fun w1 h => by
    have s : SchAt W2 N K (d : Int) E P Q G := by rw [hW2, hN]; exact (SchAt.new w K (d : Int) E P Q G _).below ((Below.refl _ _).alloc (Nat.le_refl _) _) (by simp)
    have c : ∀ j t, #[Value.int .i64 (v : Int), Value.int .i64 (x : Int)][j]? = some t → W2.cell? ⟨N + 1, j, none⟩ = some t := fun j t hv => by
      have h := heap_alloc_new (w.alloc (.cells #[.int .u8 K, .int .i64 (d : Int), .int .i64 E, .int .u64 (P : Int), .int .u64 (Q : Int), .int .u64 (G : Int)] 28)) (.cells #[.int .i64 (v : Int), .int .i64 (x : Int)] 35)
      rw [← hW2, World.size_alloc, ← hN] at h
      rw [cell_of_row _ _ j _ _ _ h]; exact hv
    exact ⟨s.below h (by omega), ⟨(h.cell (p := ⟨N + 1, 0, none⟩) (by show N + 1 < N + 2; omega)).trans (c 0 _ rfl), (h.cell (p := ⟨N + 1, 1, none⟩) (by show N + 1 < N + 2; omega)).trans (c 1 _ rfl)⟩, HB2.out.trans (h.mono (by omega))⟩)
  have h64 := p64 hd
  have HR := Lib.hid (fun w => receivers_any d w hd)
  have HA : Hid (∀ w, Calls Try.prog 85 #[.int .i64 ((2 ^ d + u : Nat) : Int), .int .i64 (v : Int)] w fun e w' => e = .returned (.bool (abv v (2 ^ d + u))) ∧ w = w') := Lib.hid (fun w => by
    have h := refBelow_any (2 ^ d + u) v w (by omega) (by omega)
    rw [blw_abv v (2 ^ d + u) hv (by omega) hv1 (by omega)] at h
    exact h)
  have HX : Hid (1 ≤ x → ∀ w, Calls Try.prog 85 #[.int .i64 ((2 ^ d + u : Nat) : Int), .int .i64 (x : Int)] w fun e w' => e = .returned (.bool (abv x (2 ^ d + u))) ∧ w = w') := Lib.hid (fun hx1 w => by
    have h := refBelow_any (2 ^ d + u) x w (by omega) (by omega)
    rw [blw_abv x (2 ^ d + u) hx (by omega) hx1 (by omega)] at h
    exact h)
  have HZ := Lib.hid (abv_zero (2 ^ d + u))
  have HBE := Lib.hid (HEnv.out W2 (Below.refl _ _)).2.2
  have HN := Lib.hid hN
  have HW := Lib.hid hW2
  rw [← hN]
  obtain ⟨⟨c0, c1, c2, c3, c4, c5⟩, ⟨z0, z1⟩, _⟩ := HEnv.out W2 (Below.refl _ _)
  rw [hW2, hN] at c0 c1 c2 c3 c4 c5 z0 z1
  obtain ⟨l, hl⟩ : ∃ l, l = 2 ^ d + u := ⟨_, rfl⟩
  rw [← hl] at HA HX HZ ⊢
  generalize 2 ^ d = T at HR hl hu h64
  clear hN hW2 hd hv1 hv hx
  go_enter Try.func47, Try.ntmps47
  go_wp2_with fail
  rw [← HW.out, ← HN.out]
  refine (HR.out _).mono ?_
  rintro e w' ⟨rfl, rfl⟩
  clear c0 c1 c2 c3 c4 c5 z0 z1
  obtain ⟨⟨c0, c1, c2, c3, c4, c5⟩, ⟨z0, z1⟩, _⟩ := HEnv.out W2 (Below.refl _ _)
  go_wp2_with fail
  rw [show ((T : Int) + (u : Int)) = (l : Int) by omega]
  refine (HA.out _).mono ?_
  rintro e w' ⟨rfl, rfl⟩
  rcases hab : abv v l with _ | _
  · go_wp2_with fail
    go_ret
    exact ⟨by first | rfl | (simp [hab]; done), HBE.out⟩
  · by_cases hx0 : x = 0
    · have hx0i : (x : Int) = 0 := by omega
      have HX0 := Lib.hid hx0
      clear hx0
      go_wp2_with fail
      go_ret
      exact ⟨by rw [HX0.out, HZ.out]; first | rfl | (simp [hab]; done), HBE.out⟩
    · have hx0i : ¬ (x : Int) = 0 := by omega
      have HXx := Lib.hid (HX.out (by omega))
      go_wp2_with fail
      try rw [show ((T : Int) + (u : Int)) = (l : Int) by omega]
      refine (HXx.out _).mono ?_
      rintro e w' ⟨rfl, rfl⟩
      rcases hxb : abv x l with _ | _
      all_goals
        go_wp2_with fail
        go_ret
        exact ⟨by first | rfl | (simp [hab, hxb, hx0i, hx0]; done), HBE.out⟩

/-- The members among the first k receivers, as values. -/
def mmv (d v x k : Nat) : List Nat := (List.range k).filter fun u => abv v (2 ^ d + u) && !(abv x (2 ^ d + u))
theorem mmv_snoc (d v x k : Nat) : mmv d v x (k + 1) = if (abv v (2 ^ d + k) && !(abv x (2 ^ d + k))) = true then mmv d v x k ++ [k] else mmv d v x k := by
  unfold mmv
  rw [List.range_succ, List.filter_append]
  by_cases h : (abv v (2 ^ d + k) && !(abv x (2 ^ d + k))) = true
  · rw [if_pos h]; simp only [List.filter_cons, h, if_true, List.filter_nil]
  · rw [if_neg h]; simp only [List.filter_cons, h, if_false, List.filter_nil, List.append_nil, Bool.false_eq_true]
theorem mmv_len (d v x k : Nat) : (mmv d v x k).length ≤ k := by
  unfold mmv; have := List.length_filter_le (fun u => abv v (2 ^ d + u) && !(abv x (2 ^ d + u))) (List.range k); simpa using this
def ivs (xs : List Nat) : List Value := xs.map fun (u : Nat) => Value.int .i64 (u : Int)

end Go.Proofs.Ytelalpikdidpeaa

/-
  Leaves, the program's.
-/
namespace Go.Proofs.Ytelalpikdidpeaa
open Go.RowKit TR
set_option linter.unusedVariables false
set_option linter.unusedSimpArgs false

theorem infoN : (Try.prog.info? 125).map (fun i => (i.zero, i.size, i.bytes)) = some (some (.int .i64 0), 1, 8) := by kernel_rfl
/-- The first k leaves below v. -/
def lvk (h v k : Nat) : List Nat := (List.range k).map fun i => v * 2 ^ h + i
theorem lvk_snoc (h v k : Nat) : lvk h v (k + 1) = lvk h v k ++ [v * 2 ^ h + k] := by unfold lvk; rw [List.range_succ, List.map_append]; rfl
theorem lvk_len (h v k : Nat) : (lvk h v k).length = k := by simp [lvk]

end Go.Proofs.Ytelalpikdidpeaa
