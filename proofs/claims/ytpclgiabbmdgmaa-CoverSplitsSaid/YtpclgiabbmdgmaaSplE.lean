/-
  Split, both; their common answer.
-/
import Derived.Test.YtpclgiabbmdgmaaSplD
namespace Go.Proofs.Ytpclgiabbmdgmaa
open Go.RowKit TR
set_option linter.unusedVariables false
set_option linter.unusedSimpArgs false

/-- The error of Split. -/
def spe (K D E : Int) (P Q G : Nat) (a b : Int) : Int := if sbc K D E P Q G a b = 0 then (if (mem_ D.toNat a.toNat b.toNat).length = 1 then 6 else 0) else sbc K D E P Q G a b

theorem split_any (K D E a b : Int) (P Q G : Nat) (w : World) (hK0 : 0 ≤ K) (hK1 : K ≤ 255) :
    Calls Try.prog 18 #[.agg #[.int .u8 K, .int .i64 D, .int .i64 E, .int .u64 (P : Int), .int .u64 (Q : Int), .int .u64 (G : Int)], .agg #[.int .i64 a, .int .i64 b]] w fun e w' => (∃ u, e = .returned (.tuple #[u, .int .i64 (spe K D E P Q G a b)]) ∧ (spe K D E P Q G a b ≠ 0 → u = .slice none 0 0) ∧ (spe K D E P Q G a b = 0 → w'.ownsRow w.heap.size 28 2 u 2 (splv K D.toNat a.toNat b.toNat))) ∧ Below w.heap.size w w' := by
  by_cases h : sbc K D E P Q G a b = 0
  · by_cases h1 : (mem_ D.toNat a.toNat b.toNat).length = 1
    · refine (split_none K D E a b P Q G w hK0 hK1 (.inr h1)).mono ?_
      rintro e w' ⟨rfl, hb⟩
      have hr : spe K D E P Q G a b = 6 := by unfold spe; rw [if_pos h, if_pos h1]
      exact ⟨⟨_, by rw [if_pos h, hr], fun _ => rfl, fun h2 => by rw [hr] at h2; cases h2⟩, hb⟩
    · have hr : spe K D E P Q G a b = 0 := by unfold spe; rw [if_pos h, if_neg h1]
      obtain ⟨_, d, v, x, rfl, rfl, rfl, _⟩ := sbc_zero h
      simp only [Int.toNat_natCast] at h1
      have key : Calls Try.prog 18 #[.agg #[.int .u8 K, .int .i64 (d : Int), .int .i64 E, .int .u64 (P : Int), .int .u64 (Q : Int), .int .u64 (G : Int)], .agg #[.int .i64 (v : Int), .int .i64 (x : Int)]] w fun e w' => (∃ u, e = .returned (.tuple #[u, .int .i64 0]) ∧ w'.ownsRow w.heap.size 28 2 u 2 (splv K d v x)) ∧ Below w.heap.size w w' := by
        by_cases hk : K = 1
        · exact split_low K E d v x P Q G w hK0 hK1 h h1 (.inl hk)
        · by_cases hx : x = 0
          · exact split_low K E d v x P Q G w hK0 hK1 h h1 (.inr hx)
          · exact split_high K E d v x P Q G w hK0 hK1 h h1 hk hx
      refine key.mono ?_
      rintro e w' ⟨⟨u, rfl, ho⟩, hb⟩
      refine ⟨⟨u, by rw [hr], fun h2 => absurd hr h2, fun _ => ?_⟩, hb⟩
      simp only [Int.toNat_natCast]
      exact ho
  · refine (split_none K D E a b P Q G w hK0 hK1 (.inl h)).mono ?_
    rintro e w' ⟨rfl, hb⟩
    have hr : spe K D E P Q G a b = sbc K D E P Q G a b := by unfold spe; rw [if_neg h]
    exact ⟨⟨_, by rw [if_neg h, hr], fun _ => rfl, fun h2 => absurd (hr.symm.trans h2) h⟩, hb⟩

set_option maxRecDepth 100000 in
set_option maxHeartbeats 2000000 in
theorem refSplit_any (K D E a b : Int) (P Q G : Nat) (w : World) (hK0 : 0 ≤ K) (hK1 : K ≤ 255) :
    Calls Try.prog 19 #[.agg #[.int .u8 K, .int .i64 D, .int .i64 E, .int .u64 (P : Int), .int .u64 (Q : Int), .int .u64 (G : Int)], .agg #[.int .i64 a, .int .i64 b]] w fun e w' => (∃ u, e = .returned (.tuple #[u, .int .i64 (spe K D E P Q G a b)]) ∧ (spe K D E P Q G a b ≠ 0 → u = .slice none 0 0) ∧ (spe K D E P Q G a b = 0 → w'.ownsRow w.heap.size 28 2 u 2 (splv K D.toNat a.toNat b.toNat))) ∧ Below w.heap.size w w' := by
  obtain ⟨N, hN⟩ : ∃ N, N = w.heap.size := ⟨_, rfl⟩
  obtain ⟨W2, hW2⟩ : ∃ W2, W2 = (w.alloc (.cells #[.int .u8 K, .int .i64 D, .int .i64 E, .int .u64 (P : Int), .int .u64 (Q : Int), .int .u64 (G : Int)] 26)).alloc (.cells #[.int .i64 a, .int .i64 b] 28) := ⟨_, rfl⟩
  have HB2 : Hid (Below N w W2) := Lib.hid (by rw [hW2, hN]; exact ((Below.refl _ _).alloc (Nat.le_refl _) _).alloc (by simp) _)
  have HS2 : Hid (W2.heap.size = N + 2) := Lib.hid (by rw [hW2, hN]; simp)
  have HEnv : Hid (∀ w1, Below (N + 2) W2 w1 → SchAt w1 N K D E P Q G ∧ (w1.cell? ⟨N + 1, 0, none⟩ = some (.int .i64 a) ∧ w1.cell? ⟨N + 1, 1, none⟩ = some (.int .i64 b)) ∧ Below N w w1) := Lib.hid (fun w1 h => by
    have s : SchAt W2 N K D E P Q G := by rw [hW2, hN]; exact (SchAt.new w K D E P Q G _).below ((Below.refl _ _).alloc (Nat.le_refl _) _) (by simp)
    have c : ∀ j v, #[Value.int .i64 a, Value.int .i64 b][j]? = some v → W2.cell? ⟨N + 1, j, none⟩ = some v := fun j v hv => by
      have h := heap_alloc_new (w.alloc (.cells #[.int .u8 K, .int .i64 D, .int .i64 E, .int .u64 (P : Int), .int .u64 (Q : Int), .int .u64 (G : Int)] 26)) (.cells #[.int .i64 a, .int .i64 b] 28)
      rw [← hW2, World.size_alloc, ← hN] at h
      rw [cell_of_row _ _ j _ _ _ h]; exact hv
    exact ⟨s.below h (by omega), ⟨(h.cell (p := ⟨N + 1, 0, none⟩) (by show N + 1 < N + 2; omega)).trans (c 0 _ rfl), (h.cell (p := ⟨N + 1, 1, none⟩) (by show N + 1 < N + 2; omega)).trans (c 1 _ rfl)⟩, HB2.out.trans (h.mono (by omega))⟩)
  have HV := Lib.hid (fun w => refValid_any K D E P Q G w hK0 hK1)
  have HZ := Lib.hid (fun h => sbc_zero (K := K) (D := D) (E := E) (a := a) (b := b) (P := P) (Q := Q) (G := G) h)
  have HN := Lib.hid hN
  have HW := Lib.hid hW2
  rw [← hN]
  obtain ⟨⟨c0, c1, c2, c3, c4, c5⟩, ⟨z0, z1⟩, _⟩ := HEnv.out W2 (Below.refl _ _)
  rw [hW2, hN] at c0 c1 c2 c3 c4 c5 z0 z1
  clear hN hW2 hK0 hK1
  go_enter Try.func19, Try.ntmps19
  go_wp2_with fail
  rw [← HW.out, ← HN.out]
  refine (HV.out _).mono ?_
  rintro e w3 ⟨rfl, hb3⟩
  have HB3 : Hid (Below (N + 2) W2 w3 ∧ N + 2 ≤ w3.heap.size) := Lib.hid ⟨hb3.mono (by rw [HS2.out]; exact Nat.le_refl _), by rw [← HS2.out]; exact hb3.size⟩
  have HE3 : Hid (Below N w w3) := Lib.hid (HEnv.out w3 HB3.out.1).2.2
  clear hb3 c0 c1 c2 c3 c4 c5 z0 z1
  by_cases h : ScOk K D E P Q G
  · have hs : scb K D E P Q G = true := scb_yes h
    rw [hs]
    have hd0 := h.2.2.1
    have hd6 := h.2.2.2.1
    have HSb : Hid (sbc K D E P Q G a b = if isb K D.toNat a b then 0 else 31) := Lib.hid (by unfold sbc; rw [scb_yes h]; rfl)
    obtain ⟨d, rfl⟩ := Int.eq_ofNat_of_zero_le hd0
    have HI := Lib.hid (fun w => refIsSubset_any K E a b d P Q G w (by omega))
    rw [Int.toNat_natCast] at HSb
    clear h hs hd0 hd6
    obtain ⟨⟨c0, c1, c2, c3, c4, c5⟩, ⟨z0, z1⟩, _⟩ := HEnv.out w3 HB3.out.1
    go_wp2_with fail
    refine (HI.out _).mono ?_
    rintro e w4 ⟨rfl, hb4⟩
    have HB4 : Hid (Below (N + 2) W2 w4 ∧ N + 2 ≤ w4.heap.size) := Lib.hid ⟨HB3.out.1.trans (hb4.mono HB3.out.2), Nat.le_trans HB3.out.2 hb4.size⟩
    have HE4 : Hid (Below N w w4) := Lib.hid (HEnv.out w4 HB4.out.1).2.2
    clear hb4 c0 c1 c2 c3 c4 c5 z0 z1 HI
    obtain ⟨q, hq⟩ : ∃ q, q = isb K d a b := ⟨_, rfl⟩
    rw [← hq] at HSb ⊢
    clear hq
    rcases q with _ | _
    · have HR : Hid (spe K (d : Int) E P Q G a b = 31) := Lib.hid (by unfold spe; rw [HSb.out]; rfl)
      clear HSb HZ
      go_wp2_with fail
      go_ret2
      exact ⟨⟨_, by first | (rw [HR.out]; done) | (rw [HR.out]; rfl), fun _ => rfl, fun h2 => by rw [HR.out] at h2; cases h2⟩, HE4.out⟩
    · have HR : Hid (sbc K (d : Int) E P Q G a b = 0) := Lib.hid (by rw [HSb.out]; rfl)
      obtain ⟨_, d', v, x, e1, rfl, rfl, hd, v1, v2, v3, hx⟩ := HZ.out HR.out
      obtain rfl : d = d' := by omega
      have HM := Lib.hid (fun w => refSplitOf_any K E d v x P Q G w HR.out)
      clear HSb HZ e1
      obtain ⟨⟨c0, c1, c2, c3, c4, c5⟩, ⟨z0, z1⟩, _⟩ := HEnv.out w4 HB4.out.1
      go_wp2_with fail
      refine (HM.out _).mono ?_
      rintro e w5 ⟨⟨u5, rfl, hu1, hu2⟩, hb5⟩
      have HB5 : Hid (Below N w w5) := Lib.hid (HEnv.out w5 (HB4.out.1.trans (hb5.mono HB4.out.2))).2.2
      clear hb5 c0 c1 c2 c3 c4 c5 z0 z1 HM
      by_cases h1 : (mem_ d v x).length = 1
      · have HR2 : Hid (spe K (d : Int) E P Q G (v : Int) (x : Int) = 6) := Lib.hid (by unfold spe; rw [if_pos HR.out]; simp only [Int.toNat_natCast]; rw [if_pos h1])
        obtain rfl := hu1 h1
        clear hu1 hu2 h1
        go_wp2_with fail
        go_ret2
        exact ⟨⟨_, by first | (rw [HR2.out]; done) | (rw [HR2.out]; rfl), fun _ => rfl, fun h2 => by rw [HR2.out] at h2; cases h2⟩, HB5.out⟩
      · have HR2 : Hid (spe K (d : Int) E P Q G (v : Int) (x : Int) = 0) := Lib.hid (by unfold spe; rw [if_pos HR.out]; simp only [Int.toNat_natCast]; rw [if_neg h1])
        have ho5 := hu2 h1
        have HO : Hid (w5.ownsRow N 28 2 u5 2 (splv K (d : Int).toNat (v : Int).toNat (x : Int).toNat)) := Lib.hid (by
          simp only [Int.toNat_natCast]
          exact own_mono ho5 (by have := HB4.out.2; omega))
        obtain ⟨A, c, rfl⟩ := own_val ho5
        clear hu1 hu2 ho5 h1
        go_wp2_with fail
        go_ret2
        exact ⟨⟨_, by first | (rw [HR2.out]; done) | (rw [HR2.out]; rfl), fun h2 => absurd HR2.out h2, fun _ => HO.out⟩, HB5.out⟩
  · have hs : scb K D E P Q G = false := scb_no h
    rw [hs]
    have HR : Hid (spe K D E P Q G a b = 30) := Lib.hid (by unfold spe sbc; rw [scb_no h]; rfl)
    clear h hs HZ
    go_wp2_with fail
    go_ret2
    exact ⟨⟨_, by first | (rw [HR.out]; done) | (rw [HR.out]; rfl), fun _ => rfl, fun h2 => by rw [HR.out] at h2; cases h2⟩, HE3.out⟩
end Go.Proofs.Ytpclgiabbmdgmaa
