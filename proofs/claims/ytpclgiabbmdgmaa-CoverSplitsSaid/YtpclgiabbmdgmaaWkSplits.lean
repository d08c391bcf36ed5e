/-
  The walk of the law CoverSplits.
-/
import Derived.Test.YtpclgiabbmdgmaaSplE
namespace Go.Proofs.Ytpclgiabbmdgmaa
open Go.RowKit TR
set_option linter.unusedVariables false
set_option linter.unusedSimpArgs false

theorem splv_two (K : Int) (d v x : Nat) : ∃ p q r t : Int, splv K d v x = two p q r t := by
  unfold splv
  split
  · exact ⟨_, _, _, _, rfl⟩
  · split
    · exact ⟨_, _, _, _, rfl⟩
    · split
      · exact ⟨_, _, _, _, rfl⟩
      · split <;> exact ⟨_, _, _, _, rfl⟩

set_option maxRecDepth 100000 in
set_option maxHeartbeats 2000000 in
theorem splits_walk (K D E a b : Int) (P Q G : Nat) (w : World) (hK0 : 0 ≤ K) (hK1 : K ≤ 255) :
    Calls Try.prog 4 #[.agg #[.int .u8 K, .int .i64 D, .int .i64 E, .int .u64 (P : Int), .int .u64 (Q : Int), .int .u64 (G : Int)], .agg #[.int .i64 a, .int .i64 b]] w fun e w' => e = .returned (.bool true) ∧ Below w.heap.size w w' := by
  obtain ⟨N, hN⟩ : ∃ N, N = w.heap.size := ⟨_, rfl⟩
  obtain ⟨W2, hW2⟩ : ∃ W2, W2 = (w.alloc (.cells #[.int .u8 K, .int .i64 D, .int .i64 E, .int .u64 (P : Int), .int .u64 (Q : Int), .int .u64 (G : Int)] 26)).alloc (.cells #[.int .i64 a, .int .i64 b] 28) := ⟨_, rfl⟩
  have HB2 : Hid (Below N w W2) := Lib.hid (by rw [hW2, hN]; exact ((Below.refl _ _).alloc (Nat.le_refl _) _).alloc (by simp) _)
  have HS2 : Hid (W2.heap.size = N + 2) := Lib.hid (by rw [hW2, hN]; simp)
  have HEnv : Hid (∀ w1, Below (N + 2) W2 w1 → SchAt w1 N K D E P Q G ∧ (w1.cell? ⟨N + 1, 0, none⟩ = some (.int .i64 a) ∧ w1.cell? ⟨N + 1, 1, none⟩ = some (.int .i64 b)) ∧ Below N w w1) := Lib.hid (fun w1 h => by
    have s : SchAt W2 N K D E P Q G := by rw [hW2, hN]; exact (SchAt.new w K D E P Q G _).below ((Below.refl _ _).alloc (Nat.le_refl _) _) (by simp)
    have c : ∀ j v, #[Value.int .i64 a, Value.int .i64 b][j]? = some v → W2.cell? ⟨N + 1, j, none⟩ = some v := fun j v hv => by
      have h := heap_alloc_new (w.alloc (.cells #[.int .u8 K, .int .i64 D, .int .i64 E, .int .u64 (P : Int), .int .u64 (Q : Int), .int .u64 (G : Int)] 26)) (.cells #[.int .i64 a, .int .i64 b] 28)
      rw [← hW2, World.size_alloc, ← hN] at h
      rw [cell_of_row _ _ j _ _ _ h]; exact hv
    exact ⟨s.below h (by omega), ⟨(h.cell (p := ⟨N + 1, 0, none⟩) (by show N + 1 < N + 2; omega)).trans (c 0 _ rfl), (h.cell (p := ⟨N + 1, 1, none⟩) (by show N + 1 < N + 2; omega)).trans (c 1 _ rfl)⟩, HB2.out.trans (h.mono (by omega))⟩)
  have HA := Lib.hid (fun w => split_any K D E a b P Q G w hK0 hK1)
  have HB := Lib.hid (fun w => refSplit_any K D E a b P Q G w hK0 hK1)
  have HN := Lib.hid hN
  have HW := Lib.hid hW2
  rw [← hN]
  obtain ⟨⟨c0, c1, c2, c3, c4, c5⟩, ⟨z0, z1⟩, _⟩ := HEnv.out W2 (Below.refl _ _)
  rw [hW2, hN] at c0 c1 c2 c3 c4 c5 z0 z1
  clear hN hW2 hK0 hK1
  go_enter Try.func4, Try.ntmps4
  go_wp2_with fail
  rw [← HW.out, ← HN.out]
  refine (HA.out _).mono ?_
  rintro e w3 ⟨⟨u3, rfl, hu1, hu2⟩, hb3⟩
  have HB3 : Hid (Below (N + 2) W2 w3 ∧ N + 2 ≤ w3.heap.size) := Lib.hid ⟨hb3.mono (by rw [HS2.out]; exact Nat.le_refl _), by rw [← HS2.out]; exact hb3.size⟩
  have HU3 := Lib.hid (And.intro hu1 hu2)
  clear hb3 hu1 hu2 c0 c1 c2 c3 c4 c5 z0 z1
  obtain ⟨⟨c0, c1, c2, c3, c4, c5⟩, ⟨z0, z1⟩, _⟩ := HEnv.out w3 HB3.out.1
  go_wp2_with fail
  refine (HB.out _).mono ?_
  rintro e w4 ⟨⟨u4, rfl, hv1, hv2⟩, hb4⟩
  have HB4 : Hid (Below N w w4 ∧ N ≤ w4.heap.size) := Lib.hid ⟨(HEnv.out w4 (HB3.out.1.trans (hb4.mono HB3.out.2))).2.2, by have := hb4.size; have := HB3.out.2; omega⟩
  have HU4 : Hid (w3.heap.size ≤ w4.heap.size ∧ Below w3.heap.size w3 w4) := Lib.hid ⟨hb4.size, hb4⟩
  clear c0 c1 c2 c3 c4 c5 z0 z1
  have HSm : Hid (∀ w1, w1 = w4 → Calls Try.prog 20 #[u3, u4] w1 fun e w' => e = .returned (.bool true) ∧ Below w1.heap.size w1 w') := Lib.hid (fun w1 hw => by
    subst hw
    by_cases hr : spe K D E P Q G a b = 0
    · have o3 := own_below (HU3.out.2 hr) HU4.out.2
      have o4 := hv2 hr
      obtain ⟨p, q, r, t, hl⟩ := splv_two K D.toNat a.toNat b.toNat
      rw [hl] at o3 o4
      obtain ⟨g3, k3, rfl, _, n3, m3, l3⟩ := own_slice2 o3 (by omega)
      obtain ⟨g4, k4, rfl, _, n4, m4, l4⟩ := own_slice2 o4 (by omega)
      exact sameSubs_eq _ _ g3 g4 2 k3 k4 (fun i => if i = 0 then p else r) (fun i => if i = 0 then q else t) w1 (by omega) n3 n4 m3 m4 (.inr ⟨rfl, rfl⟩) (fun i hi => by
        rcases (by omega : i = 0 ∨ i = 1) with rfl | rfl
        · exact ⟨⟨l3 0 _ rfl, l3 1 _ rfl⟩, l4 0 _ rfl, l4 1 _ rfl⟩
        · exact ⟨⟨l3 2 _ rfl, l3 3 _ rfl⟩, l4 2 _ rfl, l4 3 _ rfl⟩)
    · obtain rfl := HU3.out.1 hr
      obtain rfl := hv1 hr
      exact sameSubs_eq none none 0 0 0 0 0 (fun _ => 0) (fun _ => 0) w1 (by omega) (by omega) (by omega) (by unfold maxLen; omega) (by unfold maxLen; omega) (.inl rfl) (fun i hi => by omega))
  clear hv1 hv2 hb4
  obtain ⟨r, hr⟩ : ∃ r, r = spe K D E P Q G a b := ⟨_, rfl⟩
  rw [← hr]
  clear hr
  go_wp2_with fail
  refine (HSm.out _ rfl).mono ?_
  rintro e w5 ⟨rfl, hb5⟩
  have HF : Hid (Below N w w5) := Lib.hid (HB4.out.1.trans (hb5.mono HB4.out.2))
  clear hb5
  go_wp2_with fail
  go_ret
  exact ⟨by first | rfl | (simp; done), HF.out⟩
end Go.Proofs.Ytpclgiabbmdgmaa
