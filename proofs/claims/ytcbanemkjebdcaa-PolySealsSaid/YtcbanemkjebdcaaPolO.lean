/-
  Contracts of layer 4: lists of receivers, the program's.
-/
import Derived.Test.YtcbanemkjebdcaaPolA
namespace Go.Proofs.Ytcbanemkjebdcaa
open Go.RowKit SP
set_option linter.unusedVariables false
set_option linter.unusedSimpArgs false

/-- A list of receivers: increasing numbers, each of them one. -/
def Lst (D : Int) (n : Nat) (f : Nat → Int) : Prop := ∀ i, i < n → isr D (f i) = true ∧ ∀ j, j + 1 = i → f j < f i
noncomputable def lsb (D : Int) (n : Nat) (f : Nat → Int) : Bool := @decide (Lst D n f) (Classical.propDecidable _)
theorem lsb_yes {D : Int} {n : Nat} {f : Nat → Int} (h : Lst D n f) : lsb D n f = true := @decide_eq_true _ (Classical.propDecidable _) h
theorem lsb_no {D : Int} {n : Nat} {f : Nat → Int} (h : ¬ Lst D n f) : lsb D n f = false := @decide_eq_false _ (Classical.propDecidable _) h
/-- The last one of the first k numbers. -/
def lst1 (f : Nat → Int) : Nat → Int
  | 0 => -1
  | k + 1 => f k

set_option maxRecDepth 100000 in
set_option maxHeartbeats 400000 in
theorem isList_any (K D E : Int) (P Q G b off n c : Nat) (f : Nat → Int) (w : World) (d1 : 0 ≤ D) (d2 : D ≤ 6) (hn : n ≤ c) (hc : c ≤ maxLen) (hcl : ∀ i, i < n → w.cell? ⟨b, off + i, none⟩ = some (.int .i64 (f i))) :
    Calls Try.prog 54 #[.agg #[.int .u8 K, .int .i64 D, .int .i64 E, .int .u64 (P : Int), .int .u64 (Q : Int), .int .u64 (G : Int)], .slice (some ⟨b, off, none⟩) n c] w fun e w' => e = .returned (.bool (lsb D n f)) ∧ Below w.heap.size w w' := by
  obtain ⟨N, hN⟩ : ∃ N, N = w.heap.size := ⟨_, rfl⟩
  obtain ⟨W1, hW1⟩ : ∃ W1, W1 = w.alloc (.cells #[.int .u8 K, .int .i64 D, .int .i64 E, .int .u64 (P : Int), .int .u64 (Q : Int), .int .u64 (G : Int)] 28) := ⟨_, rfl⟩
  have HB1 : Hid (Below N w W1) := Lib.hid (by rw [hW1, hN]; exact (Below.refl _ _).alloc (Nat.le_refl _) _)
  have HS1 : Hid (W1.heap.size = N + 1) := Lib.hid (by rw [hW1, hN]; simp)
  have HEnv : Hid (∀ w1, Below (N + 1) W1 w1 → SchAt w1 N K D E P Q G ∧ Below N w w1 ∧ ∀ i, i < n → w1.cell? ⟨b, off + i, none⟩ = some (.int .i64 (f i))) := Lib.hid (fun w1 h => by
    have s : SchAt W1 N K D E P Q G := by rw [hW1, hN]; exact SchAt.new w K D E P Q G
    have hb : Below N w w1 := HB1.out.trans (h.mono (by omega))
    exact ⟨s.below h (by omega), hb, fun i hi => (hb.cell (p := ⟨b, off + i, none⟩) (by rw [hN]; exact World.block_lt_of_cell? w _ (hcl i hi))).trans (hcl i hi)⟩)
  have HR := Lib.hid (fun u w => isReceiver_any K D E u P Q G w d1 d2)
  have hm : n ≤ 9223372036854775807 := by unfold maxLen at hc; omega
  have HN := Lib.hid hN
  have HW := Lib.hid hW1
  rw [← hN]
  clear hN hW1 hcl hc d1 d2
  go_enter Try.func54, Try.ntmps54
  go_wp2_with fail
  rw [← HW.out, ← HN.out]
  go_loopw [5, 10] (fun v i wr => ∃ (k : Nat), k ≤ n ∧ i = .int .i64 (k : Int) ∧ v = .int .i64 (lst1 f k) ∧ Hid (Lst D k f) ∧ Hid (Below (N + 1) W1 wr)) (fun _ i _ => n - (intOf i).toNat)
  case atStart => exact ⟨0, by omega, rfl, rfl, Lib.hid (fun i hi => by omega), Lib.hid (Below.refl _ _)⟩
  case round =>
    obtain ⟨k, hk, rfl, rfl, HL, HB⟩ := hrel
    have HBf : Hid (Below N w wr ∧ N + 1 ≤ wr.heap.size) := Lib.hid ⟨(HEnv.out wr HB.out).2.1, by rw [← HS1.out]; exact HB.out.size⟩
    by_cases hlt : k < n
    · obtain ⟨⟨c0, c1, c2, c3, c4, c5⟩, _, hcl⟩ := HEnv.out wr HB.out
      have g1 := hcl k hlt
      have HU : Hid (lst1 f (k + 1) = f k) := Lib.hid rfl
      have HNx : Hid (Lst D (k + 1) f ↔ (isr D (f k) = true ∧ lst1 f k < f k)) := Lib.hid (by
        constructor
        · intro h
          refine ⟨(h k (by omega)).1, ?_⟩
          cases k with
          | zero =>
            have h1 : 0 ≤ f 0 ∧ f 0 < ((2 ^ D.toNat : Nat) : Int) := of_decide_eq_true (h 0 (by omega)).1
            show (-1 : Int) < f 0
            omega
          | succ j => exact (h (j + 1) (by omega)).2 j rfl
        · rintro ⟨h1, h2⟩ i hi
          rcases (by omega : i < k ∨ i = k) with h3 | rfl
          · exact HL.out i h3
          · exact ⟨h1, fun j hj => by subst hj; exact h2⟩)
      have HNo : Hid (¬ (isr D (f k) = true ∧ lst1 f k < f k) → lsb D n f = false) := Lib.hid (fun h => lsb_no (fun h1 => h (HNx.out.1 (fun i hi => h1 i (by omega)))))
      have HRu := Lib.hid (HR.out (f k))
      have l1 : (0 : Int) ≤ (k : Int) := by omega
      have l2 : (k : Int) < (n : Int) := by omega
      obtain ⟨u, hu⟩ : ∃ u, u = f k := ⟨_, rfl⟩
      obtain ⟨last, hl⟩ : ∃ last, last = lst1 f k := ⟨_, rfl⟩
      rw [← hu] at g1 HU HNx HNo HRu
      rw [← hl] at HNx HNo ⊢
      clear hu hl hcl
      by_cases hle : u ≤ last
      · have HF := Lib.hid (HNo.out (fun h => by omega))
        go_wp2_with fail
        go_ret
        exact ⟨by rw [HF.out]; rfl, HBf.out.1⟩
      · have hgt : last < u := by omega
        have hdd : decide (u ≤ last) = false := decide_eq_false hle
        rcases hisr : isr D u with _ | _
        · have HF := Lib.hid (HNo.out (fun h => by rw [hisr] at h; cases h.1))
          rw [hisr] at HRu
          go_wp2_with fail
          refine (HRu.out _).mono ?_
          rintro e w2 ⟨rfl, hb2⟩
          have HB2 := Lib.hid (HBf.out.1.trans (hb2.mono (by have := HBf.out.2; omega)))
          clear hb2 c0 c1 c2 c3 c4 c5
          go_wp2_with fail
          go_ret
          exact ⟨by rw [HF.out]; rfl, HB2.out⟩
        · have HL' := Lib.hid (HNx.out.2 ⟨hisr, hgt⟩)
          rw [hisr] at HRu
          go_wp2_with fail
          refine (HRu.out _).mono ?_
          rintro e w2 ⟨rfl, hb2⟩
          have HB2 := Lib.hid (HB.out.trans (hb2.mono HBf.out.2))
          clear hb2 c0 c1 c2 c3 c4 c5
          go_wp2_with fail
          go_roundw
          case rel => exact ⟨k + 1, by omega, by go_num, by rw [HU.out], HL', HB2⟩
          case measure => simp [intOf]; omega
    · obtain rfl : k = n := by omega
      have HF := Lib.hid (lsb_yes HL.out)
      go_wp2_with fail
      go_ret
      exact ⟨by rw [HF.out]; rfl, HBf.out.1⟩
end Go.Proofs.Ytcbanemkjebdcaa
