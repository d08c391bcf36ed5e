/-
  A row of bytes of one's own, that is stored to.
-/
import Derived.Test.YtphhppdokdageaaPorA
namespace Go.Proofs.Ytphhppdokdageaa
open Go.RowKit SP
set_option linter.unusedVariables false

/-- A row of n bytes that may be written. -/
structure RowN (w : World) (b n : Nat) (f : Nat → Nat) : Prop where
  cell : ∀ j, j < n → w.cell? ⟨b, j, none⟩ = some (.int .u8 (f j : Int))
  fr : ∀ j, j < n → w.frozen? ⟨b, j, none⟩ = false

theorem RowN.set {w : World} {b n : Nat} {f : Nat → Nat} (h : RowN w b n f) (j v : Nat) (hj : j < n) : RowN (w.setCell ⟨b, j, none⟩ (.int .u8 (v : Int))) b n (fun i => if i = j then v else f i) where
  cell i hi := by
    by_cases e : i = j
    · subst e
      rw [if_pos rfl, World.cell?_setCell_same _ _ _ (h.cell i hi)]
    · rw [if_neg e, World.cell?_setCell_other _ _ _ _ (fun hh => e (by injection hh with _ h2 _; exact h2.symm))]
      exact h.cell i hi
  fr i hi := by rw [World.frozen?_setCell]; exact h.fr i hi
theorem RowN.below {w w' : World} {m b n : Nat} {f : Nat → Nat} (h : RowN w b n f) (hb : Below m w w') (hn : b < m) : RowN w' b n f where
  cell i hi := by rw [hb.cell (p := ⟨b, i, none⟩) hn]; exact h.cell i hi
  fr i hi := by rw [hb.frozen (p := ⟨b, i, none⟩) hn]; exact h.fr i hi
theorem RowN.drew {w : World} {b n : Nat} {f : Nat → Nat} (h : RowN w b n f) : RowN w.drew b n f := ⟨h.cell, h.fr⟩
theorem RowN.ext {w : World} {b n : Nat} {f g : Nat → Nat} (h : RowN w b n f) (e : ∀ i, i < n → f i = g i) : RowN w b n g :=
  ⟨fun i hi => by rw [← e i hi]; exact h.cell i hi, h.fr⟩
theorem RowN.byt {w : World} {b n c : Nat} {f : Nat → Nat} (h : RowN w b n f) (hl : ∀ i, f i < 256) (hc : n ≤ c) (hm : c ≤ maxLen) : Byt w (some ⟨b, 0, none⟩) n c f :=
  ⟨hc, hm, hl, fun _ => ⟨b, 0, rfl, fun i hi => by rw [Nat.zero_add]; exact h.cell i hi⟩⟩
theorem own_rown {w : World} {B n : Nat} {v : Value} {g : Nat → Nat} (h : w.ownsRow B 5 1 v n (bl ((List.range n).map g))) (hn : 0 < n) : ∃ b c, v = .slice (some ⟨b, 0, none⟩) n c ∧ B ≤ b ∧ b < w.heap.size ∧ n ≤ c ∧ c ≤ maxLen ∧ RowN w b n g := by
  rcases h.2 with ⟨_, h0⟩ | ⟨b, cap, cur, hv, hb, hg, hnc, hcm, hcs, ht⟩
  · omega
  · refine ⟨b, cap, hv, hb, (Array.getElem?_eq_some_iff.1 hg).1, hnc, hcm, fun i hi => ?_, fun i hi => ?_⟩
    · have hx : (bl ((List.range n).map g))[i]? = some (.int .u8 (g i : Int)) := bl_get _ i (g i) (by simp [List.getElem?_map, List.getElem?_range hi])
      rw [cell_of_row _ _ i _ _ _ hg]
      rw [← ht, List.getElem?_take, if_pos (by omega)] at hx
      simpa using hx
    · unfold World.frozen?
      rw [hg]
      simp
end Go.Proofs.Ytphhppdokdageaa
