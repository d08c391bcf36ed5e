/- The walk over NumberGroups: all three of its comparisons hold. -/
import Derived.Test.YthplhlcdlnedfaaGrpC
import Derived.Deep.RegionHeld3
import Derived.OpenShut
namespace Go.Proofs.Ythplhlcdlnedfaa.numberGroups
open Go.RowKit

set_option maxRecDepth 100000 in
set_option maxHeartbeats 1000000 in
theorem walk (n p q g : Int) (hn : 0 ≤ n) (hp : 0 ≤ p) (hq : 0 ≤ q) (hg : 0 ≤ g) (hq2 : q ≤ 18446744073709551615) (w : World) :
    Calls Try.prog 8 #[.int .u64 n, .agg #[.int .u64 p, .int .u64 q, .int .u64 g]] w fun e w' => e = .returned (.bool true) ∧ Below w.heap.size w w' := by
  go_enter Try.func8, Try.ntmps8
  go_wp2_with (first
    | (go_at_call 39; refine (prime_any _ _ hn).mono ?_; rintro e w' ⟨rfl, rfl⟩)
    | (go_at_call 64; refine (primeRef_any _ _ hn).mono ?_; rintro e w' ⟨rfl, rfl⟩)
    | fail)
  obtain ⟨wb, hwb⟩ : ∃ wb, wb = w.alloc (.cells #[.int .u64 p, .int .u64 q, .int .u64 g] 53) := ⟨_, rfl⟩
  have hB : Below w.heap.size w wb := by rw [hwb]; exact (Below.refl _ _).alloc (Nat.le_refl _) _
  have hs : wb.heap.size = w.heap.size + 1 := by rw [hwb]; simp
  have c0 : wb.cell? ⟨w.heap.size, 0, none⟩ = some (.int .u64 p) := by rw [hwb, World.cell?_alloc_at (hn := by simp)]; rfl
  have c1 : wb.cell? ⟨w.heap.size, 1, none⟩ = some (.int .u64 q) := by rw [hwb, World.cell?_alloc_at (hn := by simp)]; rfl
  have c2 : wb.cell? ⟨w.heap.size, 2, none⟩ = some (.int .u64 g) := by rw [hwb, World.cell?_alloc_at (hn := by simp)]; rfl
  rw [← hwb]
  clear hwb
  have hs' : w.heap.size < wb.heap.size := by omega
  clear hs
  go_region_held3 (fun w' => w'.cell? ⟨w.heap.size, 0, none⟩ = some (.int .u64 p) ∧ w'.cell? ⟨w.heap.size, 1, none⟩ = some (.int .u64 q) ∧ w'.cell? ⟨w.heap.size, 2, none⟩ = some (.int .u64 g) ∧ Below w.heap.size w w' ∧ w.heap.size < w'.heap.size)
    (first
      | exact ⟨c0, c1, c2, hB.drew, hs'⟩
      | go_keep
      | (go_split_ands
         refine ⟨?_, ?_, ?_, ?_, ?_⟩
         · ((rw [hb1.cell (by first | assumption | (simp; assumption))]); assumption)
         · ((rw [hb1.cell (by first | assumption | (simp; assumption))]); assumption)
         · ((rw [hb1.cell (by first | assumption | (simp; assumption))]); assumption)
         · (exact Below.trans (by first | assumption | exact hB.drew) (hb1.mono (Nat.le_of_lt (by assumption))))
         · (exact Nat.lt_of_lt_of_le (by assumption) hb1.size)))
    (first
      | (go_at_call 40; refine (checkGroup_any _ _ _ _ hp hq hg hq2).mono ?_; rintro e w1 ⟨rfl, hb1⟩)
      | (go_at_call 65; refine (checkGroupRef_any _ _ _ _ hp hq hg).mono ?_; rintro e w1 ⟨rfl, hb1⟩))
  go_wp2
  go_ret
  exact ⟨rfl, by go_split_ands; assumption⟩

end Go.Proofs.Ythplhlcdlnedfaa.numberGroups
