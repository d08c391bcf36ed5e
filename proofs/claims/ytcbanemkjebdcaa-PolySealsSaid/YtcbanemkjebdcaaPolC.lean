/-
  Contracts of layer 4: whether a scheme is valid, the specification's.
-/
import Derived.Test.YtcbanemkjebdcaaPolA
import Derived.RegionTactic
import Derived.Deep.RegionHeld3
namespace Go.Proofs.Ytcbanemkjebdcaa
open Go.RowKit SP

theorem pw6 (D : Int) (d1 : 0 ≤ D) (d2 : D ≤ 6) : 1 ≤ 2 ^ D.toNat ∧ 2 ^ D.toNat ≤ 64 := by
  rcases (by omega : D = 0 ∨ D = 1 ∨ D = 2 ∨ D = 3 ∨ D = 4 ∨ D = 5 ∨ D = 6) with rfl | rfl | rfl | rfl | rfl | rfl | rfl <;> decide

set_option maxRecDepth 100000 in
set_option maxHeartbeats 4000000 in
theorem valid_any (K D E : Int) (P Q G : Nat) (w : World) (hK0 : 0 ≤ K) (hK1 : K ≤ 255) (hQ : Q < M) :
    Calls Try.prog 39 #[.agg #[.int .u8 K, .int .i64 D, .int .i64 E, .int .u64 (P : Int), .int .u64 (Q : Int), .int .u64 (G : Int)]] w fun e w' => e = .returned (.bool (scb K D E P Q G)) ∧ Below w.heap.size w w' := by
  have HQ : (Q : Int) ≤ 18446744073709551615 := by unfold M at hQ; omega
  clear hQ
  by_cases hb : K = 4 ∧ 0 ≤ D ∧ D ≤ 6 ∧ 1 ≤ E ∧ E ≤ 8
  · obtain ⟨rfl, d1, d2, e1, e2⟩ := hb
    by_cases hg : GrOk P Q G
    · have HC : Hid (∀ w, Calls Try.prog 93 #[.agg #[.int .u64 (P : Int), .int .u64 (Q : Int), .int .u64 (G : Int)]] w fun e w' => e = .returned (.bool true) ∧ Below w.heap.size w w') := Lib.hid (fun w => by
        have h := validGroup_any P Q G w (by omega) (by omega) (by omega)
        rw [grb_yes P Q G hg] at h; exact h)
      have HR := Lib.hid (fun w => receivers_any D w d1 d2)
      have hs := pw6 D d1 d2
      by_cases hq : ((2 ^ D.toNat : Nat) : Int) + E < Q
      · have H := Lib.hid (scb_yes (K := 4) (D := D) (E := E) (P := P) (Q := Q) (G := G) ⟨rfl, d1, d2, e1, e2, hg, hq⟩)
        clear hg
        generalize 2 ^ D.toNat = T at hs hq HR
        obtain ⟨s1, s2⟩ := hs
        go_enter Try.func39, Try.ntmps39
        go_wp2_with (go_at_call 93; refine (HC.out _).mono ?_; rintro e W1 ⟨rfl, hbl⟩; have HS1 := Lib.hid ((SchAt.new w _ _ _ P Q G).below hbl (by simp)); have HL := Lib.hid (show w.heap.size < W1.heap.size by have := hbl.size; simp at this; omega); have HBL := Lib.hid (((Below.refl w.heap.size w).alloc (Nat.le_refl _) _).trans (hbl.mono (show w.heap.size ≤ _ by simp))); clear hbl)
        have hw : IntKind.u64.wrap (IntKind.i64.wrap ((T : Int) + E)) = (T : Int) + E := by first | go_num | (simp [IntKind.wrap, IntKind.bits, IntKind.signed]; omega)
        have HWR := Lib.hid hw
        clear hw
        have hx0 : Below W1.heap.size W1 W1.drew := (Below.refl _ _).drew
        have HF := Lib.hid (fun (v : World) (h : Below W1.heap.size W1 v) => (⟨(HS1.out.below h HL.out).c1, (HS1.out.below h HL.out).c2, (HS1.out.below h HL.out).c4⟩ : v.cell? ⟨w.heap.size, 1, none⟩ = some (.int .i64 D) ∧ v.cell? ⟨w.heap.size, 2, none⟩ = some (.int .i64 E) ∧ v.cell? ⟨w.heap.size, 4, none⟩ = some (.int .u64 (Q : Int))))
        go_region_held3 (fun v => v.cell? ⟨w.heap.size, 1, none⟩ = some (.int .i64 D) ∧ v.cell? ⟨w.heap.size, 2, none⟩ = some (.int .i64 E) ∧ v.cell? ⟨w.heap.size, 4, none⟩ = some (.int .u64 (Q : Int)))
          (with_reducible exact HF.out _ hx0)
          (first | (go_at_call 52; with_reducible refine (HR.out _).mono ?_; rintro e w' ⟨rfl, rfl⟩))
        all_goals
          go_wp2
          go_ret
          exact ⟨by rw [H.out]; first | rfl | (simp [HWR.out]; done) | (simp [HWR.out]; omega), by first | exact HBL.out | exact HBL.out.drew⟩
      · have H := Lib.hid (scb_no (K := 4) (D := D) (E := E) (P := P) (Q := Q) (G := G) (fun k => hq k.2.2.2.2.2.2))
        clear hg
        generalize 2 ^ D.toNat = T at hs hq HR
        obtain ⟨s1, s2⟩ := hs
        go_enter Try.func39, Try.ntmps39
        go_wp2_with (go_at_call 93; refine (HC.out _).mono ?_; rintro e W1 ⟨rfl, hbl⟩; have HS1 := Lib.hid ((SchAt.new w _ _ _ P Q G).below hbl (by simp)); have HL := Lib.hid (show w.heap.size < W1.heap.size by have := hbl.size; simp at this; omega); have HBL := Lib.hid (((Below.refl w.heap.size w).alloc (Nat.le_refl _) _).trans (hbl.mono (show w.heap.size ≤ _ by simp))); clear hbl)
        have hw : IntKind.u64.wrap (IntKind.i64.wrap ((T : Int) + E)) = (T : Int) + E := by first | go_num | (simp [IntKind.wrap, IntKind.bits, IntKind.signed]; omega)
        have HWR := Lib.hid hw
        clear hw
        have hx0 : Below W1.heap.size W1 W1.drew := (Below.refl _ _).drew
        have HF := Lib.hid (fun (v : World) (h : Below W1.heap.size W1 v) => (⟨(HS1.out.below h HL.out).c1, (HS1.out.below h HL.out).c2, (HS1.out.below h HL.out).c4⟩ : v.cell? ⟨w.heap.size, 1, none⟩ = some (.int .i64 D) ∧ v.cell? ⟨w.heap.size, 2, none⟩ = some (.int .i64 E) ∧ v.cell? ⟨w.heap.size, 4, none⟩ = some (.int .u64 (Q : Int))))
        go_region_held3 (fun v => v.cell? ⟨w.heap.size, 1, none⟩ = some (.int .i64 D) ∧ v.cell? ⟨w.heap.size, 2, none⟩ = some (.int .i64 E) ∧ v.cell? ⟨w.heap.size, 4, none⟩ = some (.int .u64 (Q : Int)))
          (with_reducible exact HF.out _ hx0)
          (first | (go_at_call 52; with_reducible refine (HR.out _).mono ?_; rintro e w' ⟨rfl, rfl⟩))
        all_goals
          go_wp2
          go_ret
          exact ⟨by rw [H.out]; first | rfl | (simp [HWR.out]; done) | (simp [HWR.out]; omega), by first | exact HBL.out | exact HBL.out.drew⟩
    · have HC : Hid (∀ w, Calls Try.prog 93 #[.agg #[.int .u64 (P : Int), .int .u64 (Q : Int), .int .u64 (G : Int)]] w fun e w' => e = .returned (.bool false) ∧ Below w.heap.size w w') := Lib.hid (fun w => by
        have h := validGroup_any P Q G w (by omega) (by omega) (by omega)
        rw [grb_no P Q G hg] at h; exact h)
      have H := Lib.hid (scb_no (K := 4) (D := D) (E := E) (P := P) (Q := Q) (G := G) (fun k => hg k.2.2.2.2.2.1))
      clear hg
      go_enter Try.func39, Try.ntmps39
      go_wp2_with (go_at_call 93; refine (HC.out _).mono ?_; rintro e w' ⟨rfl, hbl⟩; obtain ⟨c0, c1, c2, c3, c4, c5⟩ := (SchAt.new w _ _ _ P Q G).below hbl (by simp); have HBL := Lib.hid (((Below.refl w.heap.size w).alloc (Nat.le_refl _) _).trans (hbl.mono (show w.heap.size ≤ _ by simp))); clear hbl)
      go_ret
      exact ⟨by rw [H.out]; first | rfl | (simp; done), HBL.out⟩
  · have H := Lib.hid (scb_no (K := K) (D := D) (E := E) (P := P) (Q := Q) (G := G) (fun k => hb ⟨k.1, k.2.1, k.2.2.1, k.2.2.2.1, k.2.2.2.2.1⟩))
    have HB := Lib.hid hb
    clear hb
    rcases (by omega : K < 4 ∨ 4 < K ∨ K = 4) with k | k | rfl
    rotate_left 2
    · rcases (by omega : D < 0 ∨ 6 < D ∨ (0 ≤ D ∧ D ≤ 6)) with d | d | ⟨d1, d2⟩
      rotate_left 2
      · rcases (by omega : E < 1 ∨ 8 < E ∨ (1 ≤ E ∧ E ≤ 8)) with e | e | ⟨e1, e2⟩
        rotate_left 2
        · exact absurd ⟨rfl, d1, d2, e1, e2⟩ HB.out
        all_goals
          go_enter Try.func39, Try.ntmps39
          go_wp2
          go_ret
          exact ⟨by rw [H.out]; first | rfl | (simp; done) | (simp; omega), (Below.refl _ _).alloc (Nat.le_refl _) _⟩
      all_goals
        go_enter Try.func39, Try.ntmps39
        go_wp2
        go_ret
        exact ⟨by rw [H.out]; first | rfl | (simp; done) | (simp; omega), (Below.refl _ _).alloc (Nat.le_refl _) _⟩
    all_goals
      go_enter Try.func39, Try.ntmps39
      go_wp2
      go_ret
      exact ⟨by rw [H.out]; first | rfl | (simp; done) | (simp; omega), (Below.refl _ _).alloc (Nat.le_refl _) _⟩

end Go.Proofs.Ytcbanemkjebdcaa
