/-
  A slice of bytes as a string; a copy of it.
-/
import Derived.Test.YtphhppdokdageaaRfM
import Derived.Laws.BytesArg
import Derived.Shelf.Bytes.SlSmallAll
namespace Go.Proofs.Ytphhppdokdageaa
open Go.RowKit SP
set_option linter.unusedVariables false
set_option linter.unusedSimpArgs false

theorem own_byt {w : World} {B n : Nat} {v : Value} {g : Nat → Nat} (h : w.ownsRow B 5 1 v n (bl ((List.range n).map g))) (hg : ∀ i, g i < 256) : ∃ A c, v = .slice A n c ∧ Byt w A n c g := by
  rcases Nat.eq_zero_or_pos n with rfl | hpos
  · rcases h.2 with ⟨hv, _⟩ | ⟨b, cap, cur, hv, _, _, hnc, hcm, _, _⟩
    · exact ⟨none, 0, hv, Nat.le_refl _, by simp [maxLen], hg, fun h0 => by omega⟩
    · exact ⟨_, cap, hv, hnc, hcm, hg, fun h0 => by omega⟩
  · obtain ⟨b, c, hv, _, q2, q3, q4⟩ := own_slice h hpos
    refine ⟨_, c, hv, q2, q3, hg, fun _ => ⟨b, 0, rfl, fun i hi => ?_⟩⟩
    rw [Nat.zero_add]
    exact q4 i _ (bl_get _ i (g i) (by simp [List.getElem?_map, List.getElem?_range hi]))

/-- n bytes as a string. -/
def bst (n : Nat) (g : Nat → Nat) : ByteArray := strOfNums ((List.range n).map fun j => (g j : Int))
theorem conv_byt {w : World} {A : Option Addr} {n c : Nat} {g : Nat → Nat} (h : Byt w A n c g) : (convert 26 9 (.slice A n c)).run Try.prog w = .ok (.string (bst n g)) w := by
  rcases Nat.eq_zero_or_pos n with rfl | hpos
  · exact run_convert_bytes_zero w 26 5 Try.underlying26 Try.underlying5 A c 9 Try.underlying9
  · obtain ⟨b, off, rfl, hc⟩ := h.at_ hpos
    exact run_convert_bytes_arg (P := Try.prog) w 26 5 Try.underlying26 Try.underlying5 b off n c ((List.range n).map fun j => (g j : Int)) (by simp) (fun i hi => by
      rw [hc i hi]
      simp [List.getD, List.getElem?_map, List.getElem?_range hi]) 9 Try.underlying9
end Go.Proofs.Ytphhppdokdageaa
