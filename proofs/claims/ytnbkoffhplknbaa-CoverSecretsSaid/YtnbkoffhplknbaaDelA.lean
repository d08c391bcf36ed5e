/-
  slices.IndexFunc at the method value of isAbove.
-/
import Derived.Test.YtnbkoffhplknbaaSmlA
namespace Go.Proofs.Ytnbkoffhplknbaa
open Go.RowKit TR
set_option linter.unusedVariables false
set_option linter.unusedSimpArgs false

/-- A row of n nodes that may be written. -/
structure RowI (w : World) (b n : Nat) (f : Nat → Nat) : Prop where
  cell : ∀ j, j < n → w.cell? ⟨b, j, none⟩ = some (.int .i64 (f j : Int))
  fr : ∀ j, j < n → w.frozen? ⟨b, j, none⟩ = false
theorem RowI.set {w : World} {b n : Nat} {f : Nat → Nat} (h : RowI w b n f) (j v : Nat) (hj : j < n) : RowI (w.setCell ⟨b, j, none⟩ (.int .i64 (v : Int))) b n (fun i => if i = j then v else f i) where
  cell i hi := by
    by_cases e : i = j
    · subst e
      rw [if_pos rfl, World.cell?_setCell_same _ _ _ (h.cell i hi)]
    · rw [if_neg e, World.cell?_setCell_other _ _ _ _ (fun hh => e (by injection hh with _ h2 _; exact h2.symm))]
      exact h.cell i hi
  fr i hi := by rw [World.frozen?_setCell]; exact h.fr i hi
theorem RowI.below {w w' : World} {m b n : Nat} {f : Nat → Nat} (h : RowI w b n f) (hb : Below m w w') (hn : b < m) : RowI w' b n f where
  cell i hi := by rw [hb.cell (p := ⟨b, i, none⟩) hn]; exact h.cell i hi
  fr i hi := by rw [hb.frozen (p := ⟨b, i, none⟩) hn]; exact h.fr i hi
theorem RowI.ext {w : World} {b n : Nat} {f g : Nat → Nat} (h : RowI w b n f) (e : ∀ i, i < n → f i = g i) : RowI w b n g :=
  ⟨fun i hi => by rw [← e i hi]; exact h.cell i hi, h.fr⟩
theorem own_rowi {w : World} {B n : Nat} {v : Value} {g : Nat → Nat} {t : TypeId} (h : w.ownsRow B t 1 v n (ivs ((List.range n).map g))) (hn : 0 < n) : ∃ b c, v = .slice (some ⟨b, 0, none⟩) n c ∧ B ≤ b ∧ b < w.heap.size ∧ n ≤ c ∧ c ≤ maxLen ∧ RowI w b n g := by
  rcases h.2 with ⟨_, h0⟩ | ⟨b, cap, cur, hv, hb, hg, hnc, hcm, hcs, ht⟩
  · omega
  · refine ⟨b, cap, hv, hb, (Array.getElem?_eq_some_iff.1 hg).1, hnc, hcm, fun i hi => ?_, fun i hi => ?_⟩
    · have hx : (ivs ((List.range n).map g))[i]? = some (.int .i64 (g i : Int)) := by unfold ivs; simp [List.getElem?_map, List.getElem?_range hi]
      rw [cell_of_row _ _ i _ _ _ hg]
      rw [← ht, List.getElem?_take, if_pos (by omega)] at hx
      simpa using hx
    · unfold World.frozen?
      rw [hg]
      simp

/-- The first place at which b is above, or -1. -/
def FirstAt (b n : Nat) (g : Nat → Nat) (k : Int) : Prop := (k = -1 ∧ ∀ j, j < n → abv b (g j) = false) ∨ ∃ m : Nat, k = (m : Int) ∧ m < n ∧ abv b (g m) = true ∧ ∀ j, j < m → abv b (g j) = false

set_option maxRecDepth 100000 in
set_option maxHeartbeats 1000000 in
theorem index_any (b n c B : Nat) (g : Nat → Nat) (w : World) (hb : b < 256) (hn : n ≤ 64) (hg : ∀ j, j < n → 1 ≤ g j ∧ g j < 256) (hc : ∀ j, j < n → w.cell? ⟨B, j, none⟩ = some (.int .i64 (g j : Int))) :
    Calls Try.prog 129 #[.slice (some ⟨B, 0, none⟩) n c, .func (.func 67) #[.int .i64 (b : Int)] #[]] w fun e w' => (∃ k, e = .returned (.int .i64 k) ∧ FirstAt b n g k) ∧ w = w' := by
  have HA := Lib.hid (fun x w h1 h2 => isAbove_any b x w hb h1 h2)
  have HG := Lib.hid hg
  have HC := Lib.hid hc
  clear hg hc hb
  go_enter Try.func129, Try.ntmps129
  go_wp2_with fail
  go_loopw [8] (fun i wr => ∃ (k : Nat), k ≤ n ∧ i = .int .i64 (k : Int) ∧ wr = w ∧ Hid (∀ j, j < k → abv b (g j) = false)) (fun i _ => n - (intOf i).toNat)
  case atStart => exact ⟨0, by omega, rfl, rfl, Lib.hid (fun j h => by omega)⟩
  case round =>
    obtain ⟨k, hk, rfl, hw, HP⟩ := hrel
    subst hw
    by_cases hlt : k < n
    · have hlt' : (k : Int) < (n : Int) := by omega
      have ck := HC.out k hlt
      obtain ⟨g1, g2⟩ := HG.out k hlt
      have HAk := Lib.hid (HA.out (g k) wr g1 g2)
      have HS : Hid (∀ q, q = abv b (g k) → (q = true → FirstAt b n g (k : Int)) ∧ (q = false → ∀ j, j < k + 1 → abv b (g j) = false)) := Lib.hid (fun q hq => ⟨fun h => .inr ⟨k, rfl, hlt, by rw [← hq]; exact h, HP.out⟩, fun h j hj => by
        by_cases e : j = k
        · rw [e, ← hq]; exact h
        · exact HP.out j (by omega)⟩)
      generalize g k = x at ck HAk HS g1 g2
      generalize abv b x = q at HAk HS
      go_wp2_with fail
      refine HAk.out.mono ?_
      rintro e w2 ⟨rfl, rfl⟩
      have hs := HS.out q rfl
      have HS2 := Lib.hid hs
      clear hs HS HAk
      rcases q with _ | _
      · have HP2 := Lib.hid (HS2.out.2 rfl)
        go_wp2_with fail
        go_roundw
        case rel => exact ⟨k + 1, by omega, by go_num, by first | rfl | trivial, HP2⟩
        case measure => simp [intOf]; omega
      · have HF := Lib.hid (HS2.out.1 rfl)
        go_wp2_with fail
        go_ret
        exact ⟨⟨_, rfl, HF.out⟩, rfl⟩
    · obtain rfl : n = k := by omega
      have HF : Hid (FirstAt b n g (-1)) := Lib.hid (.inl ⟨rfl, HP.out⟩)
      go_wp2_with fail
      go_ret
      exact ⟨⟨_, rfl, HF.out⟩, rfl⟩
end Go.Proofs.Ytnbkoffhplknbaa
