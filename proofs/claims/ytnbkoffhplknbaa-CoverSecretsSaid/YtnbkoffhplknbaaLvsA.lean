/-
  Leaves, the program's.
-/
import Derived.Test.YtnbkoffhplknbaaSpeD
namespace Go.Proofs.Ytnbkoffhplknbaa
open Go.RowKit TR
set_option linter.unusedVariables false
set_option linter.unusedSimpArgs false

theorem infoN : (Try.prog.info? 123).map (fun i => (i.zero, i.size, i.bytes)) = some (some (.int .i64 0), 1, 8) := by kernel_rfl
/-- The first k leaves below v. -/
def lvk (h v k : Nat) : List Nat := (List.range k).map fun i => v * 2 ^ h + i
theorem lvk_snoc (h v k : Nat) : lvk h v (k + 1) = lvk h v k ++ [v * 2 ^ h + k] := by unfold lvk; rw [List.range_succ, List.map_append]; rfl
theorem lvk_len (h v k : Nat) : (lvk h v k).length = k := by simp [lvk]

set_option maxRecDepth 100000 in
set_option maxHeartbeats 1000000 in
theorem leaves_any (v d : Nat) (w : World) (hd : d < 7) (h1 : 1 ≤ v) (hv : v < 2 ^ (d + 1)) (hle : lv v ≤ d) :
    Calls Try.prog 65 #[.int .i64 (v : Int), .int .i64 (d : Int)] w fun e w' => (∃ u, e = .returned u ∧ w'.ownsRow w.heap.size 123 1 u (2 ^ (d - lv v)) (ivs (lvs d v))) ∧ Below w.heap.size w w' := by
  obtain ⟨i0, hi, hz0, hz1, hz2⟩ := info_parts infoN
  have h128 : 2 ^ (d + 1) ≤ 128 := by rcases (by omega : d = 0 ∨ d = 1 ∨ d = 2 ∨ d = 3 ∨ d = 4 ∨ d = 5 ∨ d = 6) with rfl | rfl | rfl | rfl | rfl | rfl | rfl <;> decide
  have hv2 : v < 128 := by omega
  clear h128
  have HL := Lib.hid (fun w => level_any v w h1 (by omega))
  have HM : Hid (lvs d v = lvk (d - lv v) v (2 ^ (d - lv v))) := Lib.hid rfl
  obtain ⟨m, hm⟩ : ∃ m, m = lv v := ⟨_, rfl⟩
  rw [← hm] at HL HM hle ⊢
  obtain ⟨h, rfl⟩ : ∃ h, d = m + h := ⟨d - m, by omega⟩
  rw [show m + h - m = h by omega] at HM ⊢
  have hh : h < 7 := by omega
  have hT := p64 hh
  have HW1 : Hid (RowKit.wrap64 ((2 : Int) ^ h) = ((2 ^ h : Nat) : Int)) := Lib.hid (by
    have e : ((2 : Int) ^ h) = ((2 ^ h : Nat) : Int) := by simp
    rw [e, ← IntWalk.i64_left]; exact IntWalk.i64_in _ (by omega))
  have HW2 : Hid (RowKit.wrap64 ((v : Int) * (2 : Int) ^ h) = ((v * 2 ^ h : Nat) : Int)) := Lib.hid (by
    have e : ((v : Int) * (2 : Int) ^ h) = ((v * 2 ^ h : Nat) : Int) := by simp
    have hb : v * 2 ^ h ≤ 128 * 64 := Nat.mul_le_mul (by omega) hT.2
    rw [e, ← IntWalk.i64_left]; exact IntWalk.i64_in _ (by omega))
  have hb : v * 2 ^ h ≤ 128 * 64 := Nat.mul_le_mul (by omega) hT.2
  have HSn := Lib.hid (fun k => lvk_snoc h v k)
  have HLn := Lib.hid (fun k => lvk_len h v k)
  rw [HM.out]
  obtain ⟨B, hB⟩ : ∃ B, B = v * 2 ^ h := ⟨_, rfl⟩
  rw [← hB] at HW2 hb
  have HSn2 : Hid (∀ k, lvk h v (k + 1) = lvk h v k ++ [B + k]) := Lib.hid (fun k => by rw [hB]; exact HSn.out k)
  obtain ⟨T, hT2⟩ : ∃ T, T = 2 ^ h := ⟨_, rfl⟩
  rw [← hT2] at HW1 hT ⊢
  clear hB hT2 HSn
  obtain ⟨N, hN⟩ : ∃ N, N = w.heap.size := ⟨_, rfl⟩
  have HN := Lib.hid hN
  clear hm hN hd hv hle h1
  go_enter Try.func65, Try.ntmps65
  go_wp2_with fail
  refine (HL.out _).mono ?_
  rintro e w' ⟨rfl, rfl⟩
  go_wp2_with fail
  rw [show ((m : Int) + (h : Int) - (m : Int)) = (h : Int) by omega, show m + h - m = h by omega, HW1.out]
  have hw2 := HW2.out
  go_loopw [6, 14] (fun u y wr => ∃ (k : Nat), k ≤ T ∧ y = .int .i64 (k : Int) ∧ Hid (wr.ownsRow N 123 1 u k (ivs (lvk h v k))) ∧ Hid (Below N w wr ∧ N ≤ wr.heap.size)) (fun _ y _ => T - (intOf y).toNat)
  case atStart => exact ⟨0, by omega, rfl, Lib.hid (World.ownsRow_nil _ _ _ _), Lib.hid ⟨Below.refl _ _, by rw [HN.out]; exact Nat.le_refl _⟩⟩
  case round =>
    obtain ⟨k, hk, rfl, HO, HBr⟩ := hrel
    by_cases hlt : k < T
    · have HSk : Hid (ivs (lvk h v (k + 1)) = ivs (lvk h v k) ++ [.int .i64 ((B : Int) + (k : Int))]) := Lib.hid (by rw [HSn2.out]; unfold ivs; rw [List.map_append]; simp)
      have hlt' : (k : Int) < (T : Int) := by omega
      have hBk : (B : Int) ≤ 8192 := by omega
      have hkk : (k : Int) ≤ 64 := by omega
      have ho := HO.out
      have hNw := HBr.out.2
      have ho2 := ho.alloc (.cells #[.int .i64 ((B : Int) + (k : Int))] 123)
      have hone : ∀ u ∈ [Value.int .i64 ((B : Int) + (k : Int))], u.oneCell' = true := by intro u hu; simp at hu; subst hu; rfl
      have h63 : k + 1 ≤ maxLen := by unfold maxLen; omega
      have hby : (k + 1) * 8 ≤ 140737488355328 := by omega
      have hbs : N ≤ (wr.alloc (.cells #[.int .i64 ((B : Int) + (k : Int))] 123)).heap.size := by simp; omega
      go_wp2_with (first
        | (at_builtin; refine wpList_append_own _ rfl _ _ 122 rfl N 123 i0 _ 1 8 Try.underlying122 hi hz0 hz1 hz2 rfl (by omega) _ _ _ rfl ho2 ⟨wr.heap.size, 0, none⟩ 1 1 [.int .i64 ((B : Int) + (k : Int))] rfl rfl (cell_one_new _ _ _) hone h63 (by omega) hbs ?_; intro v1 w6 hown6 hg6 _))
      go_roundw
      case rel => exact ⟨k + 1, by omega, by go_num, Lib.hid (by rw [HSk.out]; exact hown6), Lib.hid ⟨(HBr.out.1.alloc hNw _).grown hg6 (by simp; omega) (fun b hb => own_block ho hb.symm), Nat.le_trans (by simp; omega) hg6.size⟩⟩
      case measure => simp [intOf]; omega
    · obtain rfl : T = k := by omega
      have HF := Lib.hid (And.intro HO.out HBr.out.1)
      go_wp2_with fail
      go_ret
      exact ⟨⟨_, rfl, by rw [← HN.out]; exact HF.out.1⟩, by rw [← HN.out]; exact HF.out.2⟩
end Go.Proofs.Ytnbkoffhplknbaa
