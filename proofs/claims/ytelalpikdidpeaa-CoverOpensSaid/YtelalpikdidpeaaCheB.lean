/-
  Whether a scheme is valid, the specification's answer; the program's check of a subset.
-/
import Derived.Test.YtelalpikdidpeaaCheA
import Derived.Test.YtelalpikdidpeaaSubA
namespace Go.Proofs.Ytelalpikdidpeaa
open Go.RowKit TR
set_option linter.unusedVariables false
set_option linter.unusedSimpArgs false

set_option maxRecDepth 100000 in
set_option maxHeartbeats 4000000 in
theorem refValid_any (K D E : Int) (P Q G : Nat) (w : World) (hK0 : 0 ≤ K) (hK1 : K ≤ 255) :
    Calls Try.prog 35 #[.agg #[.int .u8 K, .int .i64 D, .int .i64 E, .int .u64 (P : Int), .int .u64 (Q : Int), .int .u64 (G : Int)]] w fun e w' => e = .returned (.bool (scb K D E P Q G)) ∧ Below w.heap.size w w' := by
  have HN : (¬ ScOk K D E P Q G) → scb K D E P Q G = false := fun h => scb_no h
  rcases sc_cases K D E P Q G with ⟨k, d | d | ⟨d1, d2⟩⟩ | ⟨k, d | d | ⟨d1, d2⟩⟩ | ⟨k1, k2, d | d⟩ | ⟨k1, k2, d1, d2, e | e⟩ | ⟨k1, k2, d1, d2, rfl, p | ⟨rfl, q⟩ | ⟨rfl, rfl, g⟩⟩ | h
  case inr.inr.inr.inr.inr =>
    have H := Lib.hid (scb_yes h)
    clear HN
    obtain ⟨k1, k2, d1, d2, rfl, rfl, rfl, rfl⟩ := h
    go_enter Try.func35, Try.ntmps35
    go_wp2
    go_ret
    exact ⟨by rw [H.out]; first | rfl | (simp; done), by first | exact (Below.refl _ _).alloc (Nat.le_refl _) _ | exact Below.refl _ _⟩
  all_goals
    have H := Lib.hid (HN (fun h => by obtain ⟨h1, h2, h3, h4, h5, h6, h7, h8⟩ := h; omega))
    clear HN
    go_enter Try.func35, Try.ntmps35
    go_wp2
    go_ret
    exact ⟨by rw [H.out]; first | rfl | (simp; done) | (simp; omega), by first | exact (Below.refl _ _).alloc (Nat.le_refl _) _ | exact Below.refl _ _⟩

/-- The error of a scheme and a subset. -/
def sbc (K D E : Int) (P Q G : Nat) (a b : Int) : Int := if scb K D E P Q G then (if isb K D.toNat a b then 0 else 31) else 30

set_option maxRecDepth 100000 in
set_option maxHeartbeats 1000000 in
theorem checkSubset_any (K D E a b : Int) (P Q G : Nat) (w : World) (hK0 : 0 ≤ K) (hK1 : K ≤ 255) :
    Calls Try.prog 32 #[.agg #[.int .u8 K, .int .i64 D, .int .i64 E, .int .u64 (P : Int), .int .u64 (Q : Int), .int .u64 (G : Int)], .agg #[.int .i64 a, .int .i64 b]] w fun e w' => e = .returned (.int .i64 (sbc K D E P Q G a b)) ∧ Below w.heap.size w w' := by
  obtain ⟨N, hN⟩ : ∃ N, N = w.heap.size := ⟨_, rfl⟩
  obtain ⟨W2, hW2⟩ : ∃ W2, W2 = (w.alloc (.cells #[.int .u8 K, .int .i64 D, .int .i64 E, .int .u64 (P : Int), .int .u64 (Q : Int), .int .u64 (G : Int)] 28)).alloc (.cells #[.int .i64 a, .int .i64 b] 35) := ⟨_, rfl⟩
  have HB2 : Hid (Below N w W2) := Lib.hid (by rw [hW2, hN]; exact ((Below.refl _ _).alloc (Nat.le_refl _) _).alloc (by simp) _)
  have HS2 : Hid (W2.heap.size = N + 2) := Lib.hid (by rw [hW2, hN]; simp)
  have HEnv : Hid (∀ w1, Below (N + 2) W2 w1 → SchAt w1 N K D E P Q G ∧ (w1.cell? ⟨N + 1, 0, none⟩ = some (.int .i64 a) ∧ w1.cell? ⟨N + 1, 1, none⟩ = some (.int .i64 b)) ∧ Below N w w1) := Lib.hid (fun w1 h => by
    have s : SchAt W2 N K D E P Q G := by rw [hW2, hN]; exact (SchAt.new w K D E P Q G _).below ((Below.refl _ _).alloc (Nat.le_refl _) _) (by simp)
    have c : ∀ j v, #[Value.int .i64 a, Value.int .i64 b][j]? = some v → W2.cell? ⟨N + 1, j, none⟩ = some v := fun j v hv => by
      have h := heap_alloc_new (w.alloc (.cells #[.int .u8 K, .int .i64 D, .int .i64 E, .int .u64 (P : Int), .int .u64 (Q : Int), .int .u64 (G : Int)] 28)) (.cells #[.int .i64 a, .int .i64 b] 35)
      rw [← hW2, World.size_alloc, ← hN] at h
      rw [cell_of_row _ _ j _ _ _ h]; exact hv
    exact ⟨s.below h (by omega), ⟨(h.cell (p := ⟨N + 1, 0, none⟩) (by show N + 1 < N + 2; omega)).trans (c 0 _ rfl), (h.cell (p := ⟨N + 1, 1, none⟩) (by show N + 1 < N + 2; omega)).trans (c 1 _ rfl)⟩, HB2.out.trans (h.mono (by omega))⟩)
  have HC := Lib.hid (fun w => check_any K D E P Q G w hK0 hK1)
  have HN := Lib.hid hN
  have HW := Lib.hid hW2
  rw [← hN]
  obtain ⟨⟨c0, c1, c2, c3, c4, c5⟩, ⟨z0, z1⟩, _⟩ := HEnv.out W2 (Below.refl _ _)
  rw [hW2, hN] at c0 c1 c2 c3 c4 c5 z0 z1
  clear hN hW2 hK0 hK1
  go_enter Try.func32, Try.ntmps32
  go_wp2_with fail
  rw [← HW.out, ← HN.out]
  refine (HC.out _).mono ?_
  rintro e w3 ⟨rfl, hb3⟩
  have HB3 : Hid (Below (N + 2) W2 w3 ∧ N + 2 ≤ w3.heap.size) := Lib.hid ⟨hb3.mono (by rw [HS2.out]; exact Nat.le_refl _), by rw [← HS2.out]; exact hb3.size⟩
  have HE3 : Hid (Below N w w3) := Lib.hid (HEnv.out w3 HB3.out.1).2.2
  clear hb3 c0 c1 c2 c3 c4 c5 z0 z1
  by_cases h : ScOk K D E P Q G
  · have hs : scc K D E P Q G = 0 := scc_yes h
    rw [hs]
    have hd0 := h.2.2.1
    have hd6 := h.2.2.2.1
    have HSb : Hid (sbc K D E P Q G a b = if isb K D.toNat a b then 0 else 31) := Lib.hid (by unfold sbc; rw [scb_yes h]; rfl)
    obtain ⟨d, rfl⟩ := Int.eq_ofNat_of_zero_le hd0
    have HI := Lib.hid (fun w => isSubset_any K E a b d P Q G w (by omega))
    rw [Int.toNat_natCast] at HSb
    clear h hs hd0 hd6
    obtain ⟨⟨c0, c1, c2, c3, c4, c5⟩, ⟨z0, z1⟩, _⟩ := HEnv.out w3 HB3.out.1
    go_wp2_with fail
    refine (HI.out _).mono ?_
    rintro e w4 ⟨rfl, hb4⟩
    have HE4 : Hid (Below N w w4) := Lib.hid (HE3.out.trans (hb4.mono (by have := HB3.out.2; omega)))
    clear hb4 c0 c1 c2 c3 c4 c5 z0 z1 HI
    obtain ⟨q, hq⟩ : ∃ q, q = isb K d a b := ⟨_, rfl⟩
    rw [← hq] at HSb ⊢
    clear hq
    rcases q with _ | _
    all_goals
      go_wp2_with fail
      go_ret
      exact ⟨by rw [HSb.out]; rfl, HE4.out⟩
  · have hs : scc K D E P Q G = 30 := scc_no h
    rw [hs]
    have HSb : Hid (sbc K D E P Q G a b = 30) := Lib.hid (by unfold sbc; rw [scb_no h]; rfl)
    clear h hs
    go_wp2_with fail
    go_ret
    exact ⟨by rw [HSb.out]; rfl, HE3.out⟩
end Go.Proofs.Ytelalpikdidpeaa
