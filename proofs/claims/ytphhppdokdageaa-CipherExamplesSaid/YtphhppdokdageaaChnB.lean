/-
  A block within a row of blocks.
-/
import Derived.Test.YtphhppdokdageaaChnA
namespace Go.Proofs.Ytphhppdokdageaa
open Go.RowKit SP
set_option linter.unusedVariables false

theorem RowN.lt {w : World} {b n : Nat} {f : Nat → Nat} (h : RowN w b n f) (hn : 0 < n) : b < w.heap.size := World.block_lt_of_cell? w ⟨b, 0, none⟩ (h.cell 0 hn)
theorem RowN.keep {w w' : World} {b n : Nat} {f : Nat → Nat} (h : RowN w b n f) (hb : Below w.heap.size w w') : RowN w' b n f :=
  ⟨fun i hi => by rw [hb.cell (p := ⟨b, i, none⟩) (block_lt_of_cell (h.cell i hi))]; exact h.cell i hi, fun i hi => by rw [hb.frozen (p := ⟨b, i, none⟩) (block_lt_of_cell (h.cell i hi))]; exact h.fr i hi⟩
theorem RowN.setCells {w : World} {b n : Nat} {f : Nat → Nat} (h : RowN w b n f) (b' : Nat) (vs : List Value) (hp : b ≠ b') : RowN (w.setCells b' 0 vs) b n f :=
  ⟨fun i hi => by rw [World.cell?_setCells_out b' vs 0 w ⟨b, i, none⟩ (fun e _ => absurd e hp)]; exact h.cell i hi, fun i hi => by rw [World.frozen?_setCells]; exact h.fr i hi⟩
theorem RowN.key_at {w : World} {b n : Nat} {g : Nat → Nat} (h : RowN w b (16 * cnt n) (fun i => if i < n then g i else 0)) (hg : ∀ i, g i < 256) {k : Nat} (hk : k < cnt n) : w.rangeAt b (k * 16) (kl (pw g n k).1 (pw g n k).2) := fun j v hv => by
  have hj : j < 16 := by rw [← kl_len (pw g n k).1 (pw g n k).2]; exact (List.getElem?_eq_some_iff.1 hv).1
  rw [kl_get _ _ j hj] at hv
  injection hv with hv
  rw [h.cell (k * 16 + j) (by omega), ← hv]
  show _ = some (Value.int .u8 ((kby (kwX (pf g n k)) (kwY (pf g n k)) j : Nat) : Int))
  rw [kw_byte _ (pf_lt hg n k) j hj]
  unfold pf
  rw [show k * 16 + j = 16 * k + j by omega]
end Go.Proofs.Ytphhppdokdageaa
