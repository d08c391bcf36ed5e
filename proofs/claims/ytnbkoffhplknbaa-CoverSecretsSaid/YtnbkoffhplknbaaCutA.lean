/-
  Slices of two subsets, the program's.
-/
import Derived.Test.YtnbkoffhplknbaaSmI
namespace Go.Proofs.Ytnbkoffhplknbaa
open Go.RowKit TR
set_option linter.unusedVariables false
set_option linter.unusedSimpArgs false

/-- The cells of two subsets. -/
def two (a b c d : Int) : List Value := [.int .i64 a, .int .i64 b, .int .i64 c, .int .i64 d]
theorem own_two (w : World) (a b c d : Int) (N : Nat) (hN : N ≤ w.heap.size) : (w.alloc (.cells #[.int .i64 a, .int .i64 b, .int .i64 c, .int .i64 d] 35)).ownsRow N 35 2 (.slice (some ⟨w.heap.size, 0, none⟩) 2 2) 2 (two a b c d) :=
  ⟨rfl, .inr ⟨w.heap.size, 2, #[.int .i64 a, .int .i64 b, .int .i64 c, .int .i64 d], rfl, hN, heap_alloc_new w _, Nat.le_refl _, by unfold maxLen; omega, rfl, rfl⟩⟩

set_option maxRecDepth 100000 in
set_option maxHeartbeats 1000000 in
theorem cut_any (a b c : Int) (w : World) :
    Calls Try.prog 78 #[.int .i64 a, .int .i64 b, .int .i64 c] w fun e w' => (∃ u, e = .returned u ∧ w'.ownsRow w.heap.size 35 2 u 2 (two a b b c)) ∧ Below w.heap.size w w' := by
  obtain ⟨N, hN⟩ : ∃ N, N = w.heap.size := ⟨_, rfl⟩
  have HN := Lib.hid hN
  have HS := Lib.hid (fun a b w => subset_any a b w)
  rw [← hN]
  clear hN
  go_enter Try.func78, Try.ntmps78
  go_wp2_with fail
  refine (HS.out _ _ _).mono ?_
  rintro e w1 ⟨rfl, hb1⟩
  have HB1 : Hid (Below N w w1 ∧ N ≤ w1.heap.size) := Lib.hid ⟨by rw [HN.out]; exact hb1, by rw [HN.out]; exact hb1.size⟩
  clear hb1
  go_wp2_with fail
  refine (HS.out _ _ _).mono ?_
  rintro e w2 ⟨rfl, hb2⟩
  have HB2 : Hid (Below N w w2 ∧ N ≤ w2.heap.size) := Lib.hid ⟨HB1.out.1.trans (hb2.mono HB1.out.2), Nat.le_trans HB1.out.2 hb2.size⟩
  clear hb2
  have HO : Hid ((w2.alloc (.cells #[.int .i64 a, .int .i64 b, .int .i64 b, .int .i64 c] 35)).ownsRow N 35 2 (.slice (some ⟨w2.heap.size, 0, none⟩) 2 2) 2 (two a b b c) ∧ Below N w (w2.alloc (.cells #[.int .i64 a, .int .i64 b, .int .i64 b, .int .i64 c] 35))) := Lib.hid ⟨own_two w2 a b b c N HB2.out.2, HB2.out.1.alloc HB2.out.2 _⟩
  go_wp2_with fail
  go_ret
  exact ⟨⟨_, rfl, HO.out.1⟩, HO.out.2⟩

set_option maxRecDepth 100000 in
set_option maxHeartbeats 1000000 in
theorem withoutChild_any (v : Nat) (w : World) (hv : v < 256) :
    Calls Try.prog 73 #[.int .i64 (v : Int)] w fun e w' => (∃ u, e = .returned u ∧ w'.ownsRow w.heap.size 35 2 u 2 (two v (2 * v : Nat) v (2 * v + 1 : Nat))) ∧ Below w.heap.size w w' := by
  obtain ⟨N, hN⟩ : ∃ N, N = w.heap.size := ⟨_, rfl⟩
  have HN := Lib.hid hN
  have HS := Lib.hid (fun a b w => subset_any a b w)
  have HL := Lib.hid (fun w => left_any v w hv)
  have HR := Lib.hid (fun w => right_any v w hv)
  rw [← hN]
  obtain ⟨l, hl⟩ : ∃ l, l = 2 * v := ⟨_, rfl⟩
  obtain ⟨r, hr⟩ : ∃ r, r = 2 * v + 1 := ⟨_, rfl⟩
  rw [← hl] at HL
  rw [← hr] at HR
  rw [← hr, ← hl]
  clear hN hl hr
  go_enter Try.func73, Try.ntmps73
  go_wp2_with fail
  refine (HL.out _).mono ?_
  rintro e w0 ⟨rfl, rfl⟩
  go_wp2_with fail
  refine (HS.out _ _ _).mono ?_
  rintro e w1 ⟨rfl, hb1⟩
  have HB1 : Hid (Below N w w1 ∧ N ≤ w1.heap.size) := Lib.hid ⟨by rw [HN.out]; exact hb1, by rw [HN.out]; exact hb1.size⟩
  clear hb1
  go_wp2_with fail
  refine (HR.out _).mono ?_
  rintro e w0 ⟨rfl, rfl⟩
  go_wp2_with fail
  refine (HS.out _ _ _).mono ?_
  rintro e w2 ⟨rfl, hb2⟩
  have HB2 : Hid (Below N w w2 ∧ N ≤ w2.heap.size) := Lib.hid ⟨HB1.out.1.trans (hb2.mono HB1.out.2), Nat.le_trans HB1.out.2 hb2.size⟩
  clear hb2
  have HO : Hid ((w2.alloc (.cells #[.int .i64 (v : Int), .int .i64 (l : Int), .int .i64 (v : Int), .int .i64 (r : Int)] 35)).ownsRow N 35 2 (.slice (some ⟨w2.heap.size, 0, none⟩) 2 2) 2 (two v l v r) ∧ Below N w (w2.alloc (.cells #[.int .i64 (v : Int), .int .i64 (l : Int), .int .i64 (v : Int), .int .i64 (r : Int)] 35))) := Lib.hid ⟨own_two w2 v l v r N HB2.out.2, HB2.out.1.alloc HB2.out.2 _⟩
  go_wp2_with fail
  go_ret
  exact ⟨⟨_, rfl, HO.out.1⟩, HO.out.2⟩
end Go.Proofs.Ytnbkoffhplknbaa
