/-
  fold: a step for each portion.
-/
import Derived.Test.YtphhppdokdageaaFldA
import Derived.Test.YtphhppdokdageaaChk
import Derived.Test.YtphhppdokdageaaMathB
import Derived.Laws.IdiomCopy
namespace Go.Proofs.Ytphhppdokdageaa
open Go.RowKit Go.Shelf SP
attribute [local go_sem] Oper.semAt_some

/-- Byte j of portion k of n bytes g, filled up. -/
def pf (g : Nat → Nat) (n k j : Nat) : Nat := if 16 * k + j < n then g (16 * k + j) else 0
theorem pf_lt {g : Nat → Nat} (hg : ∀ i, g i < 256) (n k j : Nat) : pf g n k j < 256 := by unfold pf; split; exact hg _; omega
/-- The words of portion k. -/
def pw (g : Nat → Nat) (n k : Nat) : Nat × Nat := (kwX (pf g n k), kwY (pf g n k))
theorem pw_ok {g : Nat → Nat} (hg : ∀ i, g i < 256) (n k : Nat) : Ok (pw g n k) := kw_lt _ (pf_lt hg n k)
/-- The state after k portions. -/
def fld (stp : Nat × Nat → Nat × Nat → Nat × Nat) (s : Nat × Nat) (g : Nat → Nat) (n : Nat) : Nat → Nat × Nat
  | 0 => s
  | k + 1 => stp (fld stp s g n k) (pw g n k)
theorem fld_ok {stp : Nat × Nat → Nat × Nat → Nat × Nat} (hstp : ∀ s p, Ok s → Ok p → Ok (stp s p)) {s : Nat × Nat} (hs : Ok s) {g : Nat → Nat} (hg : ∀ i, g i < 256) (n : Nat) : ∀ k, Ok (fld stp s g n k)
  | 0 => hs
  | k + 1 => hstp _ _ (fld_ok hstp hs hg n k) (pw_ok hg n k)

theorem KeepsOthers.of_below {W W' : World} (h : Below W.heap.size W W') : KeepsOthers W W' :=
  ⟨h.size, fun l o ho _ => by rw [h.block l (Array.getElem?_eq_some_iff.1 ho).1]; exact ho⟩
theorem KeepsOthers.setCells (b : Nat) : ∀ (vs : List Value) (o : Nat) (W : World), KeepsOthers W (W.setCells b o vs)
  | [], _, _ => KeepsOthers.refl _
  | v :: r, o, W => by
    rw [World.setCells]
    exact (KeepsOthers.setCell _ _ _).trans (KeepsOthers.setCells b r (o + 1) _)
theorem KeyAt.kept {W W' : World} {b X Y : Nat} {row : Option Nat} (h : KeyAt W b X Y) (hg : W.grownBy W' row) (hr : ∀ r, row = some r → ∃ o : Obj, W.heap[r]? = some o ∧ o.isCells = false) : KeyAt W' b X Y :=
  KeyAt.of_cells fun i hi => cell_kept (h.cell i hi) hg hr
theorem Row.kept {W W' : World} {b : Nat} {f : Nat → Nat} {row : Option Nat} (h : Row W b f) (hg : W.grownBy W' row) (hr : ∀ r, row = some r → ∃ o : Obj, W.heap[r]? = some o ∧ o.isCells = false) : Row W' b f :=
  ⟨fun i hi => cell_kept (h.cell i hi) hg hr, fun i hi => (frozen_kept (h.cell i hi) hg hr).trans (h.fr i hi)⟩
theorem Row.setCells {w : World} {b : Nat} {f : Nat → Nat} (h : Row w b f) (b' : Nat) : ∀ (vs : List Value) (o : Nat), b' ≠ b → Row (w.setCells b' o vs) b f := fun vs o hne =>
  ⟨fun i hi => by rw [World.cell?_setCells_out b' vs o w ⟨b, i, none⟩ (fun e _ => absurd e.symm hne)]; exact h.cell i hi, fun i hi => by rw [World.frozen?_setCells]; exact h.fr i hi⟩

/-! ### The walk's arms within a round -/
theorem wpListIn_load_key {l n : Nat} {ops : Array Oper} {rest : List Oper} {op : Oper} {a : Act} {w : World} {Q : Exit → Act → World → Prop} (hgd : op.guard = none) (x : Operand) (ho : op.op = .load 23 x)
    (b : Nat) (hx : a.eval x = .pointer (some ⟨b, 0, none⟩)) (X Y : Nat) (hc : KeyAt w b X Y)
    (h : wpListIn (Fence.wide.inRound l) n Try.prog ops Q rest (a.put op.dst (.agg (kl X Y).toArray)) w) : wpListIn (Fence.wide.inRound l) n Try.prog ops Q (op :: rest) a w :=
  wpListIn_plain hgd fun _ hK => opIn_of_op l n (by rw [ho]; intro c e; cases e) (wp_load_mid 23 x ho b 0 hx (kl X Y) _ hc Try.underlying23 rfl (by rw [kl_len]; exact size23) (hK _ _ h))
theorem wpListIn_store_key {l n : Nat} {ops : Array Oper} {rest : List Oper} {op : Oper} {a : Act} {w : World} {Q : Exit → Act → World → Prop} (hgd : op.guard = none) (x y : Operand) (ho : op.op = .store 23 x y)
    (b : Nat) (X Y : Nat) (hx : a.eval x = .pointer (some ⟨b, 0, none⟩)) (hy : a.eval y = .agg (kl X Y).toArray) (ht : w.there b 0 16)
    (h : wpListIn (Fence.wide.inRound l) n Try.prog ops Q rest (a.put op.dst undef) (w.setCells b 0 (kl X Y))) : wpListIn (Fence.wide.inRound l) n Try.prog ops Q (op :: rest) a w :=
  wpListIn_plain hgd fun _ hK => opIn_of_op l n (by rw [ho]; intro c e; cases e) (wp_store_mid 23 x y ho b 0 (kl X Y).toArray hx hy (by simpa [kl_len] using ht) (by simp [kl_len, size23]) (kl_arr X Y) (by rw [List.toList_toArray]; exact hK _ _ h))

/-- The bytes of a portion, copied into a block of zeros. -/
theorem portion_copied (w : World) (g : Nat → Nat) (hg : ∀ i, g i < 256) (n k p : Nat) (hk : 16 * k < n) (hp : p = pln n k) (W : World) (hW : W = w.alloc (.cells z16 23)) :
    KeyAt (W.setCells w.heap.size 0 (bl ((List.range p).map fun j => g (16 * k + j)))) w.heap.size (pw g n k).1 (pw g n k).2 := by
  have hR := Row.zeros w 23
  rw [← hW] at hR
  refine KeyAt.of_cells fun i hi => ?_
  show _ = some (Value.int .u8 ((kby (kwX (pf g n k)) (kwY (pf g n k)) i : Nat) : Int))
  rw [kw_byte _ (pf_lt hg n k) i hi]
  have hpl : p ≤ 16 := by rw [hp]; unfold pln; omega
  by_cases h : i < p
  · have h1 := World.cell?_setCells_in w.heap.size (bl ((List.range p).map fun j => g (16 * k + j))) 0 W (fun j hj => by
      have hj' : j < 16 := by simp [bl] at hj; omega
      rw [Nat.zero_add, hR.cell j hj']; rfl) i (by simp [bl]; exact h)
    rw [Nat.zero_add] at h1
    rw [h1]
    have h2 : 16 * k + i < n := by rw [hp] at h; unfold pln at h; omega
    unfold pf
    rw [if_pos h2]
    simp [bl, u8]
  · have h1 := World.cell?_setCells_out w.heap.size (bl ((List.range p).map fun j => g (16 * k + j))) 0 W ⟨w.heap.size, i, none⟩ (fun _ _ => .inr (by simp [bl]; omega))
    rw [h1, hR.cell i hi]
    have h2 : ¬ 16 * k + i < n := by rw [hp] at h; unfold pln at h; omega
    unfold pf
    rw [if_neg h2]

end Go.Proofs.Ytphhppdokdageaa
