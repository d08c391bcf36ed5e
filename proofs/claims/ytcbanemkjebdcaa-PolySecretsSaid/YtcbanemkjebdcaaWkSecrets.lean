/- The walk over PolySecrets: the two secrets are the same, and the two errors. -/
import Derived.Test.YtcbanemkjebdcaaPolK
import Derived.OpenShut
namespace Go.Proofs.Ytcbanemkjebdcaa.polySecrets
open Go.RowKit SP
set_option linter.unusedVariables false
set_option linter.unusedSimpArgs false

set_option maxRecDepth 100000 in
set_option maxHeartbeats 2000000 in
theorem walk_of (X Y : Nat) (K D E u r x y code : Int) (P Q G : Nat) (w : World)
    (H1 : ∀ w, Calls Try.prog 17 #[.agg (kl X Y).toArray, .agg #[.int .u8 K, .int .i64 D, .int .i64 E, .int .u64 (P : Int), .int .u64 (Q : Int), .int .u64 (G : Int)], .int .i64 u] w fun e w' => e = .returned (.tuple #[.agg #[.int .i64 r, .slice none 0 0, .int .u64 x, .int .u64 y], .int .i64 code]) ∧ Below w.heap.size w w')
    (H2 : ∀ w, Calls Try.prog 18 #[.agg (kl X Y).toArray, .agg #[.int .u8 K, .int .i64 D, .int .i64 E, .int .u64 (P : Int), .int .u64 (Q : Int), .int .u64 (G : Int)], .int .i64 u] w fun e w' => e = .returned (.tuple #[.agg #[.int .i64 r, .slice none 0 0, .int .u64 x, .int .u64 y], .int .i64 code]) ∧ Below w.heap.size w w') :
    Calls Try.prog 4 #[.agg (kl X Y).toArray, .agg #[.int .u8 K, .int .i64 D, .int .i64 E, .int .u64 (P : Int), .int .u64 (Q : Int), .int .u64 (G : Int)], .int .i64 u] w fun e w' => e = .returned (.bool true) ∧ Below w.heap.size w w' := by
  obtain ⟨N, hN⟩ : ∃ N, N = w.heap.size := ⟨_, rfl⟩
  obtain ⟨W2, hW2⟩ : ∃ W2, W2 = (w.alloc (.cells (kl X Y).toArray 23)).alloc (.cells #[.int .u8 K, .int .i64 D, .int .i64 E, .int .u64 (P : Int), .int .u64 (Q : Int), .int .u64 (G : Int)] 28) := ⟨_, rfl⟩
  have HB2 : Hid (Below N w W2) := Lib.hid (by rw [hW2, hN]; exact ((Below.refl _ _).alloc (Nat.le_refl _) _).alloc (by simp) _)
  have HS2 : Hid (W2.heap.size = N + 2) := Lib.hid (by rw [hW2, hN]; simp)
  have HEnv : Hid (∀ w1, Below (N + 2) W2 w1 → KeyAt w1 N X Y ∧ SchAt w1 (N + 1) K D E P Q G ∧ Below N w w1) := Lib.hid (fun w1 h => by
    have k : KeyAt W2 N X Y := by rw [hW2, hN]; exact (KeyAt.new w X Y 23).alloc _
    have s : SchAt W2 (N + 1) K D E P Q G := by
      have h := SchAt.new (w.alloc (.cells (kl X Y).toArray 23)) K D E P Q G
      rw [World.size_alloc] at h
      rw [hW2, hN]; exact h
    exact ⟨k.below h (by omega), s.below h (by omega), HB2.out.trans (h.mono (by omega))⟩)
  have HN := Lib.hid hN
  have HW := Lib.hid hW2
  have HA := Lib.hid H1
  have HB := Lib.hid H2
  have HK2 : Hid (KeyAt W2 N X Y) := Lib.hid (HEnv.out W2 (Below.refl _ _)).1
  rw [← hN]
  clear hN hW2 H1 H2
  go_enter Try.func4, Try.ntmps4
  go_wp2_with (refine wpList_load_key rfl _ rfl _ rfl X Y (by rw [← HW.out, ← HN.out]; exact HK2.out) ?_)
  rw [← HW.out, ← HN.out]
  refine (HA.out _).mono ?_
  rintro e w1 ⟨rfl, hb1⟩
  have hL1 : N + 2 ≤ w1.heap.size := by rw [← HS2.out]; exact hb1.size
  have HB1 := Lib.hid (hb1.mono (show N + 2 ≤ _ by rw [HS2.out]; omega))
  obtain ⟨A, hA⟩ : ∃ A, A = w1.heap.size := ⟨_, rfl⟩
  obtain ⟨w2, hw2⟩ : ∃ w2, w2 = w1.alloc (.cells #[.int .i64 r, .slice none 0 0, .int .u64 x, .int .u64 y] 50) := ⟨_, rfl⟩
  have HA2 : Hid (SecAt w2 A (.int .i64 r) (.slice none 0 0) (.int .u64 x) (.int .u64 y)) := Lib.hid (by rw [hw2, hA]; exact SecAt.new _ _ _ _ _ _)
  have HS3 : Hid (w2.heap.size = A + 1) := Lib.hid (by rw [hw2, hA]; simp)
  have HB2' : Hid (Below (N + 2) W2 w2) := Lib.hid (by rw [hw2]; exact HB1.out.alloc hL1 _)
  have HK3 := Lib.hid (HEnv.out w2 HB2'.out).1
  obtain ⟨_, ⟨c0, c1, c2, c3, c4, c5⟩, _⟩ := HEnv.out w2 HB2'.out
  have HAN : Hid (N + 2 ≤ A) := Lib.hid (by rw [hA]; exact hL1)
  have HWA := Lib.hid hA
  have HW2 := Lib.hid hw2
  clear hb1 hL1 hA hw2
  rw [HW2.out] at c0 c1 c2 c3 c4 c5
  go_wp2_with (refine wpList_load_key rfl _ rfl _ rfl X Y (by rw [← HW2.out]; exact HK3.out) ?_)
  rw [← HW2.out, ← HWA.out]
  refine (HB.out _).mono ?_
  rintro e w3 ⟨rfl, hb3⟩
  have hL3 : A + 1 ≤ w3.heap.size := by rw [← HS3.out]; exact hb3.size
  have hA3 : SecAt w3 A (.int .i64 r) (.slice none 0 0) (.int .u64 x) (.int .u64 y) := HA2.out.below hb3 (by rw [HS3.out]; omega)
  have hA4 := hA3.below ((Below.refl w3.heap.size w3).alloc (Nat.le_refl _) (.cells #[.int .i64 r, .slice none 0 0, .int .u64 x, .int .u64 y] 50)) (by omega)
  have hB4 := SecAt.new w3 (.int .i64 r) (.slice none 0 0) (.int .u64 x) (.int .u64 y) 50
  have HBE : Hid (Below N w (w3.alloc (.cells #[.int .i64 r, .slice none 0 0, .int .u64 x, .int .u64 y] 50)) ∧ N ≤ (w3.alloc (.cells #[.int .i64 r, .slice none 0 0, .int .u64 x, .int .u64 y] 50)).heap.size) := Lib.hid (by
    have hn := HAN.out
    have h1 : Below N w w3 := (HEnv.out _ HB2'.out).2.2.trans (hb3.mono (by rw [HS3.out]; omega))
    exact ⟨h1.alloc (by omega) _, by simp; omega⟩)
  obtain ⟨d0, d1, d2, d3, _, _, _, _⟩ := hA4
  obtain ⟨e0, e1, e2, e3, _, _, _, _⟩ := hB4
  clear hb3 hL3 hA3 c0 c1 c2 c3 c4 c5
  go_wp2_with fail
  refine (sameSecret_any r x y _).mono ?_
  rintro e w5 ⟨rfl, hb5⟩
  have HF := Lib.hid (HBE.out.1.trans (hb5.mono HBE.out.2))
  clear hb5 d0 d1 d2 d3 e0 e1 e2 e3
  go_wp2_with fail
  go_ret
  exact ⟨by first | rfl | simp, HF.out⟩

theorem walk (X Y : Nat) (hX : X < M) (hY : Y < M) (K D E P Q G u : Int) (hK0 : 0 ≤ K) (hK1 : K ≤ 255) (hP : 0 ≤ P) (hQ : 0 ≤ Q) (hQ2 : Q ≤ 18446744073709551615) (hG : 0 ≤ G) (w : World) :
    Calls Try.prog 4 #[.agg (kl X Y).toArray, .agg #[.int .u8 K, .int .i64 D, .int .i64 E, .int .u64 P, .int .u64 Q, .int .u64 G], .int .i64 u] w fun e w' => e = .returned (.bool true) ∧ Below w.heap.size w w' := by
  obtain ⟨P, rfl⟩ := Int.eq_ofNat_of_zero_le hP
  obtain ⟨Q, rfl⟩ := Int.eq_ofNat_of_zero_le hQ
  obtain ⟨G, rfl⟩ := Int.eq_ofNat_of_zero_le hG
  have hQM : Q < M := by unfold M; omega
  by_cases h : SchOk K D E P Q G
  · cases hu : isr D u
    · exact walk_of X Y K D E u 0 0 0 2 P Q G w (fun w => secret_arg X Y K D E u P Q G w hK0 hK1 hQM h hu) (fun w => refSecret_arg X Y K D E u P Q G w hK0 hK1 hQM h hu)
    · obtain ⟨e, rfl⟩ := Int.eq_ofNat_of_zero_le (show 0 ≤ E by have := h.2.2.2.1; omega)
      obtain ⟨v, rfl⟩ := Int.eq_ofNat_of_zero_le (show 0 ≤ u from (of_decide_eq_true hu).1)
      exact walk_of X Y K D e v v ((v + 1 : Nat) : Int) (sval X Y Q e v : Int) 0 P Q G w (fun w => secret_ok X Y K D e P Q G v w hX hY hK0 hK1 hQM h hu) (fun w => refSecret_ok X Y K D e P Q G v w hX hY hK0 hK1 hQM h hu)
  · exact walk_of X Y K D E u 0 0 0 30 P Q G w (fun w => secret_bad X Y K D E u P Q G w hK0 hK1 hQM h) (fun w => refSecret_bad X Y K D E u P Q G w hK0 hK1 hQM h)
end Go.Proofs.Ytcbanemkjebdcaa.polySecrets
