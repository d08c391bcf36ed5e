/-
  slices.Grow of nil; an append of nothing.
-/
import Derived.Test.YtphhppdokdageaaStrA
import Derived.Lib.AppendZeros
import Derived.Deep.AppendSrc
namespace Go.Proofs.Ytphhppdokdageaa
open Go.RowKit SP
set_option linter.unusedVariables false
set_option linter.unusedSimpArgs false

theorem run_append_own_nil {w : World} {base n c : Nat} {v : Value} {xs : List Value} (i0 : TypeInfo) (hi : Try.prog.info? 5 = some i0) (hz1 : i0.size = 1) (ho : w.ownsRow base 5 1 v n xs) (ty : TypeId) :
    (Builtin.append_ #[26, 26] ty #[v, .slice none 0 c]).run Try.prog w = .ok v w := by
  rcases ho.2 with ⟨rfl, rfl⟩ | ⟨g, cap, cur, rfl, h1, h2, h3, h4, h5, h6⟩
  · simp [Builtin.append_, run_underlying Try.underlying26, sizeOf, typeInfo, hi, Builtin.lenOf, Builtin.firstCells]
  · have h := run_append_room_src (P := Try.prog) (w := w) 26 26 ty 5 i0 Try.underlying26 hi g 0 n cap (.slice none 0 c) 0 [] (Src.ofNil _ Try.underlying26 c) (by omega) (fun j hj => by simp at hj) (fun j hj => by simp at hj)
    simpa [World.setCells] using h

set_option maxRecDepth 100000 in
set_option maxHeartbeats 1000000 in
theorem grow_nil (m : Nat) (w : World) (h0 : 0 < m) (hm : m ≤ 1000000) :
    Calls Try.prog 75 #[.slice none 0 0, .int .i64 (m : Int)] w fun e w' => ∃ v, e = .returned v ∧ Below w.heap.size w w' ∧ w'.ownsRow w.heap.size 5 1 v 0 [] := by
  obtain ⟨i0, hi, hz0, hz1, hz2⟩ := info_parts info5
  have hap := fun ty => Lib.run_append_nil_zeros (P := Try.prog) w 26 3 ty 5 i0 _ .i64 .i64 Try.underlying26 Try.underlying3 hi hz0 m h0 (by omega) (by omega) (by rw [hz2]; omega)
  obtain ⟨G, hG⟩ : ∃ G, G = grownCap w m 0 5 := ⟨_, rfl⟩
  have hGm : m ≤ G := by rw [hG]; exact grownCap_ge w m 0 5
  have hGM : G ≤ maxLen := by rw [hG]; exact grownCap_le_maxLen w m 0 5 (by unfold maxLen; omega)
  rw [← hG] at hap
  obtain ⟨W1, hW1⟩ : ∃ W1, W1 = w.drew.alloc (.cells (Builtin.zeroCells (Value.int .u8 0).cells m ++ Builtin.zeroCells (Value.int .u8 0).cells (G - m)) 5) := ⟨_, rfl⟩
  rw [← hW1] at hap
  have HB : Hid (Below w.heap.size w W1) := Lib.hid (by rw [hW1]; exact (Below.refl _ _).drew.alloc (Nat.le_refl _) _)
  have HO : Hid (W1.ownsRow w.heap.size 5 1 (.slice (some ⟨w.heap.size, 0, none⟩) 0 G) 0 []) := Lib.hid
    ⟨rfl, .inr ⟨w.heap.size, G, _, rfl, Nat.le_refl _, by rw [hW1]; exact heap_alloc_new w.drew _, Nat.zero_le _, hGM, by rw [Array.size_append, size_zeroCells, size_zeroCells]; show m * 1 + (G - m) * 1 = G * 1; omega, by simp⟩⟩
  have d1 : ¬ ((m : Int) < 0) := by omega
  have d2 : decide ((m : Int) < 0) = false := decide_eq_false d1
  have d3 : decide ((0 : Int) < (m : Int)) = true := decide_eq_true (by omega)
  have l1 : (0 : Int) ≤ (G : Int) := by omega
  unfold maxLen at hGM
  clear hW1 hG
  go_enter Try.func75, Try.ntmps75
  go_wp2_with (at_builtin; refine Lib.wpList_append_run _ rfl _ _ _ _ rfl _ _ rfl rfl _ _ (hap _) ?_)
  go_ret
  exact ⟨_, rfl, HB.out, HO.out⟩
end Go.Proofs.Ytphhppdokdageaa
