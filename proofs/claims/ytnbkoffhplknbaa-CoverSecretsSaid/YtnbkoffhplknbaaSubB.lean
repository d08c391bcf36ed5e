/-
  Whether two nodes are a subset, the specification's.
-/
import Derived.Test.YtnbkoffhplknbaaSpeC
namespace Go.Proofs.Ytnbkoffhplknbaa
open Go.RowKit TR
set_option linter.unusedVariables false
set_option linter.unusedSimpArgs false

set_option maxRecDepth 100000 in
set_option maxHeartbeats 4000000 in
theorem refIsSubset_any (K E a b : Int) (d P Q G : Nat) (w : World) (hd : d < 7) :
    Calls Try.prog 61 #[.agg #[.int .u8 K, .int .i64 (d : Int), .int .i64 E, .int .u64 (P : Int), .int .u64 (Q : Int), .int .u64 (G : Int)], .agg #[.int .i64 a, .int .i64 b]] w fun e w' => e = .returned (.bool (isb K d a b)) ∧ Below w.heap.size w w' := by
  obtain ⟨N, hN⟩ : ∃ N, N = w.heap.size := ⟨_, rfl⟩
  obtain ⟨W2, hW2⟩ : ∃ W2, W2 = (w.alloc (.cells #[.int .u8 K, .int .i64 (d : Int), .int .i64 E, .int .u64 (P : Int), .int .u64 (Q : Int), .int .u64 (G : Int)] 28)).alloc (.cells #[.int .i64 a, .int .i64 b] 35) := ⟨_, rfl⟩
  have HB2 : Hid (Below N w W2) := Lib.hid (by rw [hW2, hN]; exact ((Below.refl _ _).alloc (Nat.le_refl _) _).alloc (by simp) _)
  have HS2 : Hid (W2.heap.size = N + 2) := Lib.hid (by rw [hW2, hN]; simp)
  have HEnv : Hid (∀ w1, Below (N + 2) W2 w1 → SchAt w1 N K (d : Int) E P Q G ∧ (w1.cell? ⟨N + 1, 0, none⟩ = some (.int .i64 a) ∧ w1.cell? ⟨N + 1, 1, none⟩ = some (.int .i64 b)) ∧ Below N w w1) := Lib.hid (fun w1 h => by
    have s : SchAt W2 N K (d : Int) E P Q G := by rw [hW2, hN]; exact (SchAt.new w K (d : Int) E P Q G _).below ((Below.refl _ _).alloc (Nat.le_refl _) _) (by simp)
    have c : ∀ j v, #[Value.int .i64 a, Value.int .i64 b][j]? = some v → W2.cell? ⟨N + 1, j, none⟩ = some v := fun j v hv => by
      have h := heap_alloc_new (w.alloc (.cells #[.int .u8 K, .int .i64 (d : Int), .int .i64 E, .int .u64 (P : Int), .int .u64 (Q : Int), .int .u64 (G : Int)] 28)) (.cells #[.int .i64 a, .int .i64 b] 35)
      rw [← hW2, World.size_alloc, ← hN] at h
      rw [cell_of_row _ _ j _ _ _ h]; exact hv
    exact ⟨s.below h (by omega), ⟨(h.cell (p := ⟨N + 1, 0, none⟩) (by show N + 1 < N + 2; omega)).trans (c 0 _ rfl), (h.cell (p := ⟨N + 1, 1, none⟩) (by show N + 1 < N + 2; omega)).trans (c 1 _ rfl)⟩, HB2.out.trans (h.mono (by omega))⟩)
  have HH := Lib.hid (fun (x : Int) (w : World) => refNode_any x d w hd)
  have HD := Lib.hid hd
  have HN := Lib.hid hN
  have HW := Lib.hid hW2
  rw [← hN]
  obtain ⟨⟨c0, c1, c2, c3, c4, c5⟩, ⟨z0, z1⟩, _⟩ := HEnv.out W2 (Below.refl _ _)
  rw [hW2, hN] at c0 c1 c2 c3 c4 c5 z0 z1
  clear hN hW2 hd
  go_enter Try.func61, Try.ntmps61
  go_wp2_with fail
  rw [← HW.out, ← HN.out]
  refine (HH.out a _).mono ?_
  rintro e w3 ⟨rfl, rfl⟩
  clear c0 c1 c2 c3 c4 c5 z0 z1
  obtain ⟨⟨c0, c1, c2, c3, c4, c5⟩, ⟨z0, z1⟩, hE3⟩ := HEnv.out W2 (Below.refl _ _)
  have HE3 := Lib.hid hE3
  clear hE3
  rcases hha : hsn d a with _ | _
  · have HF : Hid (isb K d a b = false) := Lib.hid (by unfold isb; rw [hha]; rfl)
    clear hha
    go_wp2_with fail
    go_ret
    exact ⟨by rw [HF.out]; rfl, HE3.out⟩
  obtain ⟨v, rfl, hv1, hv2, hv3⟩ := hsn_nat HD.out hha
  have HHa := Lib.hid hha
  have HV := Lib.hid (And.intro hv1 (And.intro hv2 hv3))
  clear hha hv1 hv2 hv3
  by_cases hK1 : K = 1
  · have HF : Hid (isb K d v b = decide (b = 0)) := Lib.hid (by unfold isb; rw [HHa.out, if_pos hK1]; rfl)
    by_cases hb0 : b = 0
    all_goals
      go_wp2_with fail
      go_ret
      exact ⟨by rw [HF.out]; first | rfl | (simp [hb0]; done), HE3.out⟩
  by_cases hb0 : b = 0
  · have HF : Hid (isb K d v b = decide ((v : Int) = 1)) := Lib.hid (by unfold isb; rw [HHa.out, if_neg hK1, if_pos hb0]; rfl)
    by_cases hv1 : (v : Int) = 1
    all_goals
      go_wp2_with fail
      go_ret
      exact ⟨by rw [HF.out]; first | rfl | (simp [hv1]; done) | (simp; omega), HE3.out⟩
  go_wp2_with fail
  refine (HH.out b _).mono ?_
  rintro e w4 ⟨rfl, rfl⟩
  rcases hhb : hsn d b with _ | _
  · have HF : Hid (isb K d v b = false) := Lib.hid (by unfold isb; rw [HHa.out, if_neg hK1, if_neg hb0, hhb]; rfl)
    clear hhb
    go_wp2_with fail
    go_ret
    exact ⟨by rw [HF.out]; rfl, HE3.out⟩
  obtain ⟨x, rfl, hx1, hx2, hx3⟩ := hsn_nat HD.out hhb
  have HHb := Lib.hid hhb
  have HX := Lib.hid (And.intro hx1 (And.intro hx2 hx3))
  have HI : Hid (isb K d v x = (!(decide ((x : Int) = (v : Int))) && (abv v x && (decide (K = 2) || spc d v || fsp d v x == 0)))) := Lib.hid (by unfold isb; rw [HHa.out, if_neg hK1, if_neg hb0, HHb.out]; simp only [Bool.true_and, Int.toNat_natCast])
  clear hhb hx1 hx2 hx3 hb0
  by_cases hxv : x = v
  · subst hxv
    go_wp2_with fail
    go_ret
    exact ⟨by rw [HI.out]; first | rfl | (simp; done), HE3.out⟩
  have hxv' : ¬ (x : Int) = (v : Int) := by omega
  have HNE := Lib.hid hxv
  have HA : Hid (∀ w, Calls Try.prog 62 #[.int .i64 (x : Int), .int .i64 (v : Int)] w fun e w' => e = .returned (.bool (abv v x)) ∧ w = w') := Lib.hid (fun w => by
    have h := refBelow_any x v w HX.out.2.2 (by have := HV.out.2.2; omega)
    rw [blw_abv v x HV.out.2.2 HX.out.2.2 HV.out.1 HX.out.1] at h
    exact h)
  clear hxv
  go_wp2_with fail
  refine (HA.out _).mono ?_
  rintro e w' ⟨rfl, rfl⟩
  clear HA
  rcases hab : abv v x with _ | _
  · have HAb := Lib.hid hab
    clear hab
    go_wp2_with fail
    go_ret
    exact ⟨by rw [HI.out, HAb.out]; first | rfl | (simp; done), HE3.out⟩
  have HAb := Lib.hid hab
  clear hab
  by_cases hK2 : K = 2
  · go_wp2_with fail
    go_ret
    exact ⟨by rw [HI.out, HAb.out]; first | rfl | (simp [hK2, hxv']; done), HE3.out⟩
  have HSp := Lib.hid (fun w => refSpecial_any d v w HD.out (by have := HV.out.2.2; omega))
  have HFs := Lib.hid (fun w => refBetween_any d v x w HD.out HV.out.2.1 HX.out.2.1 HAb.out HNE.out)
  go_wp2_with fail
  refine (HSp.out _).mono ?_
  rintro e w5 ⟨rfl, rfl⟩
  clear HSp
  rcases hsp : spc d v with _ | _
  · have HSb := Lib.hid hsp
    clear hsp
    go_wp2_with fail
    refine (HFs.out _).mono ?_
    rintro e w6 ⟨rfl, hb6⟩
    have HE6 : Hid (Below N w w6) := Lib.hid (HE3.out.trans (hb6.mono (by rw [HS2.out]; omega)))
    clear hb6 c0 c1 c2 c3 c4 c5 z0 z1 HFs
    obtain ⟨r, hr⟩ : ∃ r, r = fsp d v x := ⟨_, rfl⟩
    have HR := Lib.hid hr
    rw [← hr]
    clear hr
    by_cases hr : (r : Int) = 0
    · have hr0 : r = 0 := by omega
      go_wp2_with fail
      go_ret
      exact ⟨by rw [HI.out, ← HR.out, HAb.out, HSb.out]; first | rfl | (simp [hK2, hxv', hr0]; done), HE6.out⟩
    · have hr0 : ¬ r = 0 := by omega
      go_wp2_with fail
      go_ret
      exact ⟨by rw [HI.out, ← HR.out, HAb.out, HSb.out]; first | rfl | (simp [hK2, hxv', hr0]; done) | (simp only [show (K == 2) = false by simp [hK2], show ((r : Int) == 0) = false by simp [hr0], show (r == 0) = false by simp [hr0], show decide (K = 2) = false by simp [hK2], show decide ((x : Int) = (v : Int)) = false by simp; omega]; rfl), HE6.out⟩
  · have HSb := Lib.hid hsp
    clear hsp HFs
    go_wp2_with fail
    go_ret
    exact ⟨by rw [HI.out, HAb.out, HSb.out]; first | rfl | (simp [hK2, hxv']; done), HE3.out⟩
end Go.Proofs.Ytnbkoffhplknbaa
