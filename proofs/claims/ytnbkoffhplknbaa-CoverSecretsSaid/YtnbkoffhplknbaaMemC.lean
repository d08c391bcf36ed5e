/-
  Check and Members, the specification's.
-/
import Derived.Test.YtnbkoffhplknbaaMemB
import Derived.Test.YtnbkoffhplknbaaSubB
import Derived.Test.YtnbkoffhplknbaaSpeD
namespace Go.Proofs.Ytnbkoffhplknbaa
open Go.RowKit TR
set_option linter.unusedVariables false
set_option linter.unusedSimpArgs false

theorem own_mono {w : World} {B B' e s n : Nat} {v : Value} {xs : List Value} (h : w.ownsRow B e s v n xs) (hb : B' ≤ B) : w.ownsRow B' e s v n xs :=
  ⟨h.1, h.2.imp id fun ⟨g, cap, cur, h1, h2, r⟩ => ⟨g, cap, cur, h1, Nat.le_trans hb h2, r⟩⟩

set_option maxRecDepth 100000 in
set_option maxHeartbeats 1000000 in
theorem refCheck_any (K D E : Int) (P Q G : Nat) (w : World) (hK0 : 0 ≤ K) (hK1 : K ≤ 255) :
    Calls Try.prog 32 #[.agg #[.int .u8 K, .int .i64 D, .int .i64 E, .int .u64 (P : Int), .int .u64 (Q : Int), .int .u64 (G : Int)]] w fun e w' => e = .returned (.int .i64 (scc K D E P Q G)) ∧ Below w.heap.size w w' := by
  obtain ⟨N, hN⟩ : ∃ N, N = w.heap.size := ⟨_, rfl⟩
  obtain ⟨W1, hW1⟩ : ∃ W1, W1 = w.alloc (.cells #[.int .u8 K, .int .i64 D, .int .i64 E, .int .u64 (P : Int), .int .u64 (Q : Int), .int .u64 (G : Int)] 28) := ⟨_, rfl⟩
  have HB1 : Hid (Below N w W1 ∧ N ≤ W1.heap.size) := Lib.hid ⟨by rw [hW1, hN]; exact (Below.refl _ _).alloc (Nat.le_refl _) _, by rw [hW1, hN]; simp⟩
  have HV := Lib.hid (fun w => refValid_any K D E P Q G w hK0 hK1)
  have HN := Lib.hid hN
  have HW := Lib.hid hW1
  rw [← hN]
  clear hN hW1 hK0 hK1
  go_enter Try.func32, Try.ntmps32
  go_wp2_with fail
  rw [← HW.out]
  refine (HV.out _).mono ?_
  rintro e w2 ⟨rfl, hb2⟩
  have HB2 : Hid (Below N w w2) := Lib.hid (HB1.out.1.trans (hb2.mono HB1.out.2))
  clear hb2 HB1 HW HV
  have HS : Hid (scc K D E P Q G = if scb K D E P Q G = true then 0 else 30) := Lib.hid (by
    by_cases h : ScOk K D E P Q G
    · rw [scc_yes h, scb_yes h]; rfl
    · rw [scc_no h, scb_no h]; rfl)
  obtain ⟨q, hq⟩ : ∃ q, q = scb K D E P Q G := ⟨_, rfl⟩
  rw [← hq] at HS ⊢
  clear hq
  rcases q with _ | _
  all_goals
    go_wp2_with fail
    go_ret
    exact ⟨by rw [HS.out]; rfl, HB2.out⟩

set_option maxRecDepth 100000 in
set_option maxHeartbeats 2000000 in
theorem refMembers_any (K D E a b : Int) (P Q G : Nat) (w : World) (hK0 : 0 ≤ K) (hK1 : K ≤ 255) :
    Calls Try.prog 33 #[.agg #[.int .u8 K, .int .i64 D, .int .i64 E, .int .u64 (P : Int), .int .u64 (Q : Int), .int .u64 (G : Int)], .agg #[.int .i64 a, .int .i64 b]] w fun e w' => (∃ u, e = .returned (.tuple #[u, .int .i64 (sbc K D E P Q G a b)]) ∧ (sbc K D E P Q G a b ≠ 0 → u = .slice none 0 0) ∧ (sbc K D E P Q G a b = 0 → w'.ownsRow w.heap.size 3 1 u (mem_ D.toNat a.toNat b.toNat).length (ivs (mem_ D.toNat a.toNat b.toNat)))) ∧ Below w.heap.size w w' := by
  obtain ⟨N, hN⟩ : ∃ N, N = w.heap.size := ⟨_, rfl⟩
  obtain ⟨W2, hW2⟩ : ∃ W2, W2 = (w.alloc (.cells #[.int .u8 K, .int .i64 D, .int .i64 E, .int .u64 (P : Int), .int .u64 (Q : Int), .int .u64 (G : Int)] 28)).alloc (.cells #[.int .i64 a, .int .i64 b] 35) := ⟨_, rfl⟩
  have HB2 : Hid (Below N w W2) := Lib.hid (by rw [hW2, hN]; exact ((Below.refl _ _).alloc (Nat.le_refl _) _).alloc (by simp) _)
  have HS2 : Hid (W2.heap.size = N + 2) := Lib.hid (by rw [hW2, hN]; simp)
  have HEnv : Hid (∀ w1, Below (N + 2) W2 w1 → SchAt w1 N K D E P Q G ∧ (w1.cell? ⟨N + 1, 0, none⟩ = some (.int .i64 a) ∧ w1.cell? ⟨N + 1, 1, none⟩ = some (.int .i64 b)) ∧ Below N w w1) := Lib.hid (fun w1 h => by
    have s : SchAt W2 N K D E P Q G := by rw [hW2, hN]; exact (SchAt.new w K D E P Q G _).below ((Below.refl _ _).alloc (Nat.le_refl _) _) (by simp)
    have c : ∀ j v, #[Value.int .i64 a, Value.int .i64 b][j]? = some v → W2.cell? ⟨N + 1, j, none⟩ = some v := fun j v hv => by
      have h := heap_alloc_new (w.alloc (.cells #[.int .u8 K, .int .i64 D, .int .i64 E, .int .u64 (P : Int), .int .u64 (Q : Int), .int .u64 (G : Int)] 28)) (.cells #[.int .i64 a, .int .i64 b] 35)
      rw [← hW2, World.size_alloc, ← hN] at h
      rw [cell_of_row _ _ j _ _ _ h]; exact hv
    exact ⟨s.below h (by omega), ⟨(h.cell (p := ⟨N + 1, 0, none⟩) (by show N + 1 < N + 2; omega)).trans (c 0 _ rfl), (h.cell (p := ⟨N + 1, 1, none⟩) (by show N + 1 < N + 2; omega)).trans (c 1 _ rfl)⟩, HB2.out.trans (h.mono (by omega))⟩)
  have HV := Lib.hid (fun w => refValid_any K D E P Q G w hK0 hK1)
  have HZ := Lib.hid (fun h => sbc_zero (K := K) (D := D) (E := E) (a := a) (b := b) (P := P) (Q := Q) (G := G) h)
  have HN := Lib.hid hN
  have HW := Lib.hid hW2
  rw [← hN]
  obtain ⟨⟨c0, c1, c2, c3, c4, c5⟩, ⟨z0, z1⟩, _⟩ := HEnv.out W2 (Below.refl _ _)
  rw [hW2, hN] at c0 c1 c2 c3 c4 c5 z0 z1
  clear hN hW2 hK0 hK1
  go_enter Try.func33, Try.ntmps33
  go_wp2_with fail
  rw [← HW.out, ← HN.out]
  refine (HV.out _).mono ?_
  rintro e w3 ⟨rfl, hb3⟩
  have HB3 : Hid (Below (N + 2) W2 w3 ∧ N + 2 ≤ w3.heap.size) := Lib.hid ⟨hb3.mono (by rw [HS2.out]; exact Nat.le_refl _), by rw [← HS2.out]; exact hb3.size⟩
  have HE3 : Hid (Below N w w3) := Lib.hid (HEnv.out w3 HB3.out.1).2.2
  clear hb3 c0 c1 c2 c3 c4 c5 z0 z1
  by_cases h : ScOk K D E P Q G
  · have hs : scb K D E P Q G = true := scb_yes h
    rw [hs]
    have hd0 := h.2.2.1
    have hd6 := h.2.2.2.1
    have HSb : Hid (sbc K D E P Q G a b = if isb K D.toNat a b then 0 else 31) := Lib.hid (by unfold sbc; rw [scb_yes h]; rfl)
    obtain ⟨d, rfl⟩ := Int.eq_ofNat_of_zero_le hd0
    have HI := Lib.hid (fun w => refIsSubset_any K E a b d P Q G w (by omega))
    rw [Int.toNat_natCast] at HSb
    clear h hs hd0 hd6
    obtain ⟨⟨c0, c1, c2, c3, c4, c5⟩, ⟨z0, z1⟩, _⟩ := HEnv.out w3 HB3.out.1
    go_wp2_with fail
    refine (HI.out _).mono ?_
    rintro e w4 ⟨rfl, hb4⟩
    have HB4 : Hid (Below (N + 2) W2 w4 ∧ N + 2 ≤ w4.heap.size) := Lib.hid ⟨HB3.out.1.trans (hb4.mono HB3.out.2), Nat.le_trans HB3.out.2 hb4.size⟩
    have HE4 : Hid (Below N w w4) := Lib.hid (HEnv.out w4 HB4.out.1).2.2
    clear hb4 c0 c1 c2 c3 c4 c5 z0 z1 HI
    obtain ⟨q, hq⟩ : ∃ q, q = isb K d a b := ⟨_, rfl⟩
    rw [← hq] at HSb ⊢
    clear hq
    rcases q with _ | _
    · have HR : Hid (sbc K (d : Int) E P Q G a b = 31) := Lib.hid (by rw [HSb.out]; rfl)
      clear HSb HZ
      go_wp2_with fail
      go_ret2
      exact ⟨⟨_, by first | (rw [HR.out]; done) | (rw [HR.out]; rfl), fun _ => rfl, fun h2 => by rw [HR.out] at h2; cases h2⟩, HE4.out⟩
    · have HR : Hid (sbc K (d : Int) E P Q G a b = 0) := Lib.hid (by rw [HSb.out]; rfl)
      obtain ⟨_, d', v, x, e1, rfl, rfl, hd, v1, v2, v3, hx⟩ := HZ.out HR.out
      obtain rfl : d = d' := by omega
      have HM := Lib.hid (fun w => refMembersOf_any K E d v x P Q G w hd v1 v3 hx)
      clear HSb HZ e1
      obtain ⟨⟨c0, c1, c2, c3, c4, c5⟩, ⟨z0, z1⟩, _⟩ := HEnv.out w4 HB4.out.1
      go_wp2_with fail
      refine (HM.out _).mono ?_
      rintro e w5 ⟨⟨u5, rfl, ho5⟩, hb5⟩
      have HB5 : Hid (Below N w w5) := Lib.hid (HEnv.out w5 (HB4.out.1.trans (hb5.mono HB4.out.2))).2.2
      have HO : Hid (w5.ownsRow N 3 1 u5 (mem_ (d : Int).toNat (v : Int).toNat (x : Int).toNat).length (ivs (mem_ (d : Int).toNat (v : Int).toNat (x : Int).toNat))) := Lib.hid (by
        simp only [Int.toNat_natCast]
        exact own_mono ho5 (by have := HB4.out.2; omega))
      clear ho5 hb5 c0 c1 c2 c3 c4 c5 z0 z1 HM
      go_wp2_with fail
      go_ret2
      exact ⟨⟨_, by first | (rw [HR.out]; done) | (rw [HR.out]; rfl), fun h2 => absurd HR.out h2, fun _ => HO.out⟩, HB5.out⟩
  · have hs : scb K D E P Q G = false := scb_no h
    rw [hs]
    have HR : Hid (sbc K D E P Q G a b = 30) := Lib.hid (by unfold sbc; rw [scb_no h]; rfl)
    clear h hs HZ
    go_wp2_with fail
    go_ret2
    exact ⟨⟨_, by first | (rw [HR.out]; done) | (rw [HR.out]; rfl), fun _ => rfl, fun h2 => by rw [HR.out] at h2; cases h2⟩, HE3.out⟩
end Go.Proofs.Ytnbkoffhplknbaa
