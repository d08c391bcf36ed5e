/-
  Split, the program's: where there is none.
-/
import Derived.Test.YtpclgiabbmdgmaaSmS
import Derived.Test.YtpclgiabbmdgmaaCutA
namespace Go.Proofs.Ytpclgiabbmdgmaa
open Go.RowKit TR
set_option linter.unusedVariables false
set_option linter.unusedSimpArgs false

set_option maxRecDepth 100000 in
set_option maxHeartbeats 2000000 in
theorem split_none (K D E a b : Int) (P Q G : Nat) (w : World) (hK0 : 0 ≤ K) (hK1 : K ≤ 255) (hno : sbc K D E P Q G a b ≠ 0 ∨ (mem_ D.toNat a.toNat b.toNat).length = 1) :
    Calls Try.prog 18 #[.agg #[.int .u8 K, .int .i64 D, .int .i64 E, .int .u64 (P : Int), .int .u64 (Q : Int), .int .u64 (G : Int)], .agg #[.int .i64 a, .int .i64 b]] w fun e w' => e = .returned (.tuple #[.slice none 0 0, .int .i64 (if sbc K D E P Q G a b = 0 then 6 else sbc K D E P Q G a b)]) ∧ Below w.heap.size w w' := by
  obtain ⟨N, hN⟩ : ∃ N, N = w.heap.size := ⟨_, rfl⟩
  obtain ⟨W2, hW2⟩ : ∃ W2, W2 = (w.alloc (.cells #[.int .u8 K, .int .i64 D, .int .i64 E, .int .u64 (P : Int), .int .u64 (Q : Int), .int .u64 (G : Int)] 26)).alloc (.cells #[.int .i64 a, .int .i64 b] 28) := ⟨_, rfl⟩
  have HB2 : Hid (Below N w W2) := Lib.hid (by rw [hW2, hN]; exact ((Below.refl _ _).alloc (Nat.le_refl _) _).alloc (by simp) _)
  have HS2 : Hid (W2.heap.size = N + 2) := Lib.hid (by rw [hW2, hN]; simp)
  have HEnv : Hid (∀ w1, Below (N + 2) W2 w1 → SchAt w1 N K D E P Q G ∧ (w1.cell? ⟨N + 1, 0, none⟩ = some (.int .i64 a) ∧ w1.cell? ⟨N + 1, 1, none⟩ = some (.int .i64 b)) ∧ Below N w w1) := Lib.hid (fun w1 h => by
    have s : SchAt W2 N K D E P Q G := by rw [hW2, hN]; exact (SchAt.new w K D E P Q G _).below ((Below.refl _ _).alloc (Nat.le_refl _) _) (by simp)
    have c : ∀ j v, #[Value.int .i64 a, Value.int .i64 b][j]? = some v → W2.cell? ⟨N + 1, j, none⟩ = some v := fun j v hv => by
      have h := heap_alloc_new (w.alloc (.cells #[.int .u8 K, .int .i64 D, .int .i64 E, .int .u64 (P : Int), .int .u64 (Q : Int), .int .u64 (G : Int)] 26)) (.cells #[.int .i64 a, .int .i64 b] 28)
      rw [← hW2, World.size_alloc, ← hN] at h
      rw [cell_of_row _ _ j _ _ _ h]; exact hv
    exact ⟨s.below h (by omega), ⟨(h.cell (p := ⟨N + 1, 0, none⟩) (by show N + 1 < N + 2; omega)).trans (c 0 _ rfl), (h.cell (p := ⟨N + 1, 1, none⟩) (by show N + 1 < N + 2; omega)).trans (c 1 _ rfl)⟩, HB2.out.trans (h.mono (by omega))⟩)
  have HM := Lib.hid (fun w => members_any K D E a b P Q G w hK0 hK1)
  have HNo := Lib.hid hno
  clear hno
  have HN := Lib.hid hN
  have HW := Lib.hid hW2
  rw [← hN]
  obtain ⟨⟨c0, c1, c2, c3, c4, c5⟩, ⟨z0, z1⟩, _⟩ := HEnv.out W2 (Below.refl _ _)
  rw [hW2, hN] at c0 c1 c2 c3 c4 c5 z0 z1
  clear hN hW2 hK0 hK1
  go_enter Try.func18, Try.ntmps18
  go_wp2_with fail
  rw [← HW.out, ← HN.out]
  refine (HM.out _).mono ?_
  rintro e w3 ⟨⟨u, rfl, hu1, hu2⟩, hb3⟩
  have HB3 : Hid (Below (N + 2) W2 w3 ∧ N + 2 ≤ w3.heap.size) := Lib.hid ⟨hb3.mono (by rw [HS2.out]; exact Nat.le_refl _), by rw [← HS2.out]; exact hb3.size⟩
  have HE3 : Hid (Below N w w3) := Lib.hid (HEnv.out w3 HB3.out.1).2.2
  clear hb3 c0 c1 c2 c3 c4 c5 z0 z1
  obtain ⟨r, hr⟩ : ∃ r, r = sbc K D E P Q G a b := ⟨_, rfl⟩
  rw [← hr] at hu1 hu2 HNo ⊢
  have HR := Lib.hid hr
  by_cases h : r = 0
  · have ho := hu2 h
    have hl : (mem_ D.toNat a.toNat b.toNat).length = 1 := HNo.out.resolve_left (fun h2 => h2 h)
    rw [hl] at ho
    obtain ⟨A, c, rfl⟩ := own_val ho
    have HR2 : Hid (sbc K D E P Q G a b = 0) := Lib.hid (hr.symm.trans h)
    subst h
    clear hu1 hu2 ho hl hr HNo HR
    go_wp2_with fail
    go_ret2
    exact ⟨by first | (rw [if_pos HR2.out]; rfl) | (rw [if_pos rfl]; rfl) | rfl, HE3.out⟩
  · have HF : Hid (sbc K D E P Q G a b ≠ 0) := Lib.hid (fun h2 => h (hr.trans h2))
    have hne : (r == 0) = false := beq_eq_false_iff_ne.2 h
    clear hu1 hu2 hr HNo
    go_wp2_with fail
    go_ret2
    exact ⟨by first | (rw [← HR.out]; rfl) | (rw [if_neg HF.out, ← HR.out]; rfl), HE3.out⟩
end Go.Proofs.Ytpclgiabbmdgmaa
