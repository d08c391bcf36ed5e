/-
  The first special node between two, the specification's.
-/
import Derived.Test.YtnbkoffhplknbaaSpeB
import Derived.Test.YtnbkoffhplknbaaSubA
namespace Go.Proofs.Ytnbkoffhplknbaa
open Go.RowKit TR
set_option linter.unusedVariables false
set_option linter.unusedSimpArgs false

/-- The first special one of n nodes from the one with the index i on, on a path of K steps to x. -/
def btl (d x K : Nat) : Nat → Nat → Nat
  | 0, _ => 0
  | n + 1, i => if spc d (x >>> (K - i)) then x >>> (K - i) else btl d x K n (i + 1)
theorem chk_btl : ((List.range 7).all fun d => (List.range (2 ^ (d + 1))).all fun v => (List.range (2 ^ (d + 1))).all fun w => !(abv v w) || w == v || btl d w (lv w - lv v) (lv w - lv v - 1) 1 == fsp d v w) = true := by decide +kernel
theorem btl_fsp (d v w : Nat) (hd : d < 7) (hv : v < 2 ^ (d + 1)) (hw : w < 2 ^ (d + 1)) (h1 : abv v w = true) (h2 : w ≠ v) : btl d w (lv w - lv v) (lv w - lv v - 1) 1 = fsp d v w := by
  have h := chk_btl
  simp only [List.all_eq_true, List.mem_range] at h
  have h3 := h d hd v hv w hw
  simpa [h1, h2] using h3

set_option maxRecDepth 100000 in
set_option maxHeartbeats 1000000 in
theorem refBetween_any (d v x : Nat) (w : World) (hd : d < 7) (hv : v < 2 ^ (d + 1)) (hx : x < 2 ^ (d + 1)) (h : abv v x = true) (hne : x ≠ v) :
    Calls Try.prog 127 #[.int .i64 (d : Int), .int .i64 (v : Int), .int .i64 (x : Int)] w fun e w' => e = .returned (.int .i64 (fsp d v x : Int)) ∧ Below w.heap.size w w' := by
  have h2 : 2 ^ (d + 1) ≤ 128 := by rcases (by omega : d = 0 ∨ d = 1 ∨ d = 2 ∨ d = 3 ∨ d = 4 ∨ d = 5 ∨ d = 6) with rfl | rfl | rfl | rfl | rfl | rfl | rfl <;> decide
  have HR := Lib.hid (btl_fsp d v x hd hv hx h hne)
  have HPa := Lib.hid (fun w => refPath_any v x w (by omega) h)
  have HLe : Hid (∀ k, x >>> k < 256) := Lib.hid (fun k => by rw [Nat.shiftRight_eq_div_pow]; have := Nat.div_le_self x (2 ^ k); omega)
  have HSp := Lib.hid (fun k w => refSpecial_any d (x >>> k) w hd (HLe.out k))
  have hl8 := lv_lt x (by omega)
  obtain ⟨R, hR⟩ : ∃ R, R = fsp d v x := ⟨_, rfl⟩
  rw [← hR] at HR ⊢
  obtain ⟨K, hK⟩ : ∃ K, K = lv x - lv v := ⟨_, rfl⟩
  rw [← hK] at HR HPa
  have hK8 : K ≤ 8 := by omega
  obtain ⟨N, hN⟩ : ∃ N, N = w.heap.size := ⟨_, rfl⟩
  have HN := Lib.hid hN
  clear hR hK h hne hv hx h2 hl8 hd hN
  go_enter Try.func127, Try.ntmps127
  go_wp2_with fail
  refine (HPa.out _).mono ?_
  rintro e w2 ⟨⟨g, c, rfl, q1, q2, q3, q4⟩, hb2⟩
  have HCl := Lib.hid q4
  have HB2 := Lib.hid hb2
  have HS2 := Lib.hid q1
  clear q1 q4 hb2
  go_wp2_with fail
  go_loopw [8] (fun y wr => ∃ (i : Nat), 1 ≤ i ∧ i ≤ K + 1 ∧ y = .int .i64 (i : Int) ∧ Hid (btl d x K (K - i) i = R) ∧ Hid (Below w2.heap.size w2 wr)) (fun y _ => K + 2 - (intOf y).toNat)
  case atStart => exact ⟨1, Nat.le_refl _, by omega, rfl, HR, Lib.hid (Below.refl _ _)⟩
  case round =>
    obtain ⟨i, hi1, hi2, rfl, HL, HBr⟩ := hrel
    by_cases hlt : i < K
    · have g1 := (HBr.out.cell (p := ⟨g, i, none⟩) (World.block_lt_of_cell? w2 _ (HCl.out i (by omega)))).trans (HCl.out i (by omega))
      have HSi := Lib.hid (fun w => HSp.out (K - i) w)
      have HL1 : Hid (btl d x K (K - i - 1 + 1) i = R) := Lib.hid (by rw [show K - i - 1 + 1 = K - i by omega]; exact HL.out)
      obtain ⟨y, hy⟩ : ∃ y, y = x >>> (K - i) := ⟨_, rfl⟩
      have HY := Lib.hid hy
      rw [← hy] at g1 HSi
      have l1 : (0 : Int) ≤ (i : Int) := by omega
      have l2 : (i : Int) < ((K + 1 : Nat) : Int) := by omega
      have l3 : (i : Int) < (K : Int) := by omega
      clear hy
      rcases hsp : spc d y with _ | _
      · have HNx : Hid (btl d x K (K - (i + 1)) (i + 1) = R) := Lib.hid (by
          have h1 := HL1.out
          rw [btl, ← HY.out, hsp, if_neg (by decide)] at h1
          rw [show K - (i + 1) = K - i - 1 by omega]; exact h1)
        rw [hsp] at HSi
        clear hsp
        go_wp2_with fail
        refine (HSi.out _).mono ?_
        rintro e w' ⟨rfl, rfl⟩
        clear g1
        go_wp2_with fail
        go_roundw
        case rel => exact ⟨i + 1, by omega, by omega, by go_num, HNx, HBr⟩
        case measure => simp [intOf]; omega
      · have HF : Hid (R = y) := Lib.hid (by
          have h1 := HL1.out
          rw [btl, ← HY.out, hsp, if_pos rfl] at h1
          exact h1.symm)
        rw [hsp] at HSi
        clear hsp
        go_wp2_with fail
        refine (HSi.out _).mono ?_
        rintro e w' ⟨rfl, rfl⟩
        go_wp2_with fail
        go_ret
        exact ⟨by rw [HF.out]; rfl, HB2.out.trans (HBr.out.mono HB2.out.size)⟩
    · have HF : Hid (R = 0) := Lib.hid (by rw [← HL.out, show K - i = 0 by omega]; rfl)
      have l3 : (K : Int) ≤ (i : Int) := by omega
      go_wp2_with fail
      go_ret
      exact ⟨by rw [HF.out]; rfl, HB2.out.trans (HBr.out.mono HB2.out.size)⟩
end Go.Proofs.Ytnbkoffhplknbaa
