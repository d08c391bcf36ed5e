/-
  Contracts of layer 4: whether a scheme is valid, the program's.
-/
import Derived.Test.YtcbanemkjebdcaaPolA
import Derived.RegionTactic
namespace Go.Proofs.Ytcbanemkjebdcaa
open Go.RowKit SP

set_option maxRecDepth 100000 in
set_option maxHeartbeats 4000000 in
theorem check_any (K D E : Int) (P Q G : Nat) (w : World) (hK0 : 0 ≤ K) (hK1 : K ≤ 255) (hQ : Q < M) :
    Calls Try.prog 11 #[.agg #[.int .u8 K, .int .i64 D, .int .i64 E, .int .u64 (P : Int), .int .u64 (Q : Int), .int .u64 (G : Int)]] w fun e w' => e = .returned (.int .i64 (scc K D E P Q G)) ∧ Below w.heap.size w w' := by
  have HQ : (Q : Int) ≤ 18446744073709551615 := by unfold M at hQ; omega
  clear hQ
  by_cases hb : K = 4 ∧ 0 ≤ D ∧ D ≤ 6 ∧ 1 ≤ E ∧ E ≤ 8
  · obtain ⟨rfl, d1, d2, e1, e2⟩ := hb
    by_cases hg : GrOk P Q G
    · have HC : Hid (∀ w, Calls Try.prog 41 #[.agg #[.int .u64 (P : Int), .int .u64 (Q : Int), .int .u64 (G : Int)]] w fun e w' => e = .returned (.int .i64 0) ∧ Below w.heap.size w w') := Lib.hid (fun w => by
        have h := checkGroup_any P Q G w (by omega) (by omega) (by omega) HQ
        rw [grc_yes P Q G hg] at h; exact h)
      by_cases hq : ((2 ^ D.toNat : Nat) : Int) + E < Q
      · have H := Lib.hid (scc_yes (K := 4) (D := D) (E := E) (P := P) (Q := Q) (G := G) ⟨rfl, d1, d2, e1, e2, hg, hq⟩)
        clear hg
        rcases (by omega : D = 0 ∨ D = 1 ∨ D = 2 ∨ D = 3 ∨ D = 4 ∨ D = 5 ∨ D = 6) with rfl | rfl | rfl | rfl | rfl | rfl | rfl
        all_goals
          simp only [Int.reduceToNat, Nat.reducePow, Int.cast_ofNat_Int] at hq
          go_enter Try.func11, Try.ntmps11
          go_wp2_with (go_at_call 41; refine (HC.out _).mono ?_; rintro e w' ⟨rfl, hbl⟩; obtain ⟨c0, c1, c2, c3, c4, c5⟩ := (SchAt.new w _ _ _ P Q G).below hbl (by simp); have HBL := Lib.hid (((Below.refl w.heap.size w).alloc (Nat.le_refl _) _).trans (hbl.mono (show w.heap.size ≤ _ by simp))); clear hbl)
          go_region
          go_wp2
          go_ret
          exact ⟨by rw [H.out]; first | rfl | (simp; done) | (simp; omega), by first | exact (Below.refl _ _).alloc (Nat.le_refl _) _ | exact HBL.out | exact HBL.out.drew⟩
      · have H := Lib.hid (scc_no (K := 4) (D := D) (E := E) (P := P) (Q := Q) (G := G) (fun k => hq k.2.2.2.2.2.2))
        clear hg
        rcases (by omega : D = 0 ∨ D = 1 ∨ D = 2 ∨ D = 3 ∨ D = 4 ∨ D = 5 ∨ D = 6) with rfl | rfl | rfl | rfl | rfl | rfl | rfl
        all_goals
          simp only [Int.reduceToNat, Nat.reducePow, Int.cast_ofNat_Int] at hq
          go_enter Try.func11, Try.ntmps11
          go_wp2_with (go_at_call 41; refine (HC.out _).mono ?_; rintro e w' ⟨rfl, hbl⟩; obtain ⟨c0, c1, c2, c3, c4, c5⟩ := (SchAt.new w _ _ _ P Q G).below hbl (by simp); have HBL := Lib.hid (((Below.refl w.heap.size w).alloc (Nat.le_refl _) _).trans (hbl.mono (show w.heap.size ≤ _ by simp))); clear hbl)
          go_region
          go_wp2
          go_ret
          exact ⟨by rw [H.out]; first | rfl | (simp; done) | (simp; omega), by first | exact (Below.refl _ _).alloc (Nat.le_refl _) _ | exact HBL.out | exact HBL.out.drew⟩
    · have HC : Hid (∀ w, Calls Try.prog 41 #[.agg #[.int .u64 (P : Int), .int .u64 (Q : Int), .int .u64 (G : Int)]] w fun e w' => e = .returned (.int .i64 13) ∧ Below w.heap.size w w') := Lib.hid (fun w => by
        have h := checkGroup_any P Q G w (by omega) (by omega) (by omega) HQ
        rw [grc_no P Q G hg] at h; exact h)
      have H := Lib.hid (scc_no (K := 4) (D := D) (E := E) (P := P) (Q := Q) (G := G) (fun k => hg k.2.2.2.2.2.1))
      clear hg
      go_enter Try.func11, Try.ntmps11
      go_wp2_with (go_at_call 41; refine (HC.out _).mono ?_; rintro e w' ⟨rfl, hbl⟩; obtain ⟨c0, c1, c2, c3, c4, c5⟩ := (SchAt.new w _ _ _ P Q G).below hbl (by simp); have HBL := Lib.hid (((Below.refl w.heap.size w).alloc (Nat.le_refl _) _).trans (hbl.mono (show w.heap.size ≤ _ by simp))); clear hbl)
      go_ret
      exact ⟨by rw [H.out]; first | rfl | (simp; done) | (simp; omega), by first | exact (Below.refl _ _).alloc (Nat.le_refl _) _ | exact HBL.out | exact HBL.out.drew⟩
  · have H := Lib.hid (scc_no (K := K) (D := D) (E := E) (P := P) (Q := Q) (G := G) (fun k => hb ⟨k.1, k.2.1, k.2.2.1, k.2.2.2.1, k.2.2.2.2.1⟩))
    have HB := Lib.hid hb
    clear hb
    rcases (by omega : D < 0 ∨ 6 < D ∨ (0 ≤ D ∧ D ≤ 6)) with d | d | ⟨d1, d2⟩ <;> rcases (by omega : E < 1 ∨ 8 < E ∨ (1 ≤ E ∧ E ≤ 8)) with e | e | ⟨e1, e2⟩ <;> rcases (by omega : K = 4 ∨ K < 4 ∨ 4 < K) with rfl | k | k
    all_goals first
      | (exfalso; apply HB.out; refine ⟨?_, ?_, ?_, ?_, ?_⟩ <;> omega)
      | (go_enter Try.func11, Try.ntmps11
         go_wp2
         go_ret
         exact ⟨by rw [H.out]; first | rfl | (simp; done) | (simp; omega), by first | exact (Below.refl _ _).alloc (Nat.le_refl _) _ | exact HBL.out | exact HBL.out.drew⟩)

end Go.Proofs.Ytcbanemkjebdcaa
