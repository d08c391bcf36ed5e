/-
  A key that comes in.
-/
import Derived.Test.YtnbkoffhplknbaaSecJ
import Derived.Test.YtnbkoffhplknbaaOpn
namespace Go.Proofs.Ytnbkoffhplknbaa
open Go.ChangeShapes Go.WideShapes Go.ChangeAt Go.RowKit Go.Joins TR L2 L2.SP
set_option linter.unusedVariables false
set_option maxRecDepth 100000

theorem cells58 : Try.prog.cellsOf 58 = 16 := by kernel_rfl
/-- The byte of a cell. -/
def byteOf : Option Value → Nat
  | some (.int _ n) => if 0 ≤ n ∧ n < 256 then n.toNat else 0
  | _ => 0
theorem byteOf_lt (o : Option Value) : byteOf o < 256 := by
  unfold byteOf
  split
  · split <;> omega
  · omega
theorem byteOf_cell {k : IntKind} {n : Int} (h0 : 0 ≤ n) (h1 : n < 256) : (byteOf (some (.int k n)) : Int) = n := by
  show ((if 0 ≤ n ∧ n < 256 then n.toNat else 0 : Nat) : Int) = n
  rw [if_pos ⟨h0, h1⟩]; omega

theorem open_key {H : Type} {enc : TypeId × Value → H} {W : World} {base : Nat} {sp : Nat → Bool} {v : Value} {d : DataW H} {p : List MemPlace}
    (hok : Value.okWide Try.prog W .any base 58 v) (h : DataW.Trod enc Try.prog W 0 sp true 58 v d p) : ∃ X Y : Nat, X < M ∧ Y < M ∧ v = .agg (kl X Y).toArray := by
  obtain ⟨cs, rfl, hsz⟩ : ∃ cs : Array Value, v = .agg cs ∧ cs.size = 16 := by
    have h1 := hok
    simp only [Value.okWide, Try.underlying58] at h1
    obtain ⟨cs, h2, h3, _⟩ : ∃ cs, v = .agg cs ∧ cs.size = Try.prog.cellsOf 58 ∧ Row.okWide Try.prog W .any base 58 cs := by simpa using h1
    exact ⟨cs, h2, by rw [h3, cells58]⟩
  obtain ⟨fuel, hf⟩ := h
  obtain ⟨xs, m, _, _, _, hl, hel⟩ := DataW.trod_array Try.underlying58 hf
  have hcell : ∀ i, i < 16 → ∃ n : Int, cs[i]? = some (.int .u8 n) ∧ 0 ≤ n ∧ n < 256 := fun i hi => by
    have h1 := hel i hi
    rw [cells5, List.getElem?_eq_getElem (by omega)] at h1
    obtain ⟨n, hn, _, hwf⟩ := DataW.trod_int Try.underlying5 h1
    have hb := bounds_u8 hwf
    have h2 : cs[i]? = some (.int .u8 n) := by
      have h3 := congrArg (·[0]?) hn
      simpa [Value.cells, List.getElem?_take, List.getElem?_drop] using h3
    exact ⟨n, h2, by omega, by omega⟩
  obtain ⟨f, hf⟩ : ∃ f : Nat → Nat, ∀ i, f i < 256 ∧ (i < 16 → cs[i]? = some (.int .u8 (f i : Int))) := by
    refine ⟨fun i => byteOf cs[i]?, fun i => ⟨byteOf_lt _, fun hi => ?_⟩⟩
    obtain ⟨n, h1, h2, h3⟩ := hcell i hi
    show _ = some (Value.int .u8 ((byteOf cs[i]? : Nat) : Int))
    rw [h1, byteOf_cell h2 h3]
  refine ⟨kwX f, kwY f, (kw_lt f (fun i => (hf i).1)).1, (kw_lt f (fun i => (hf i).1)).2, ?_⟩
  congr 1
  apply Array.ext
  · simp [kl_len, hsz]
  · intro i h1 h2
    have h3 := (hf i).2 (by omega)
    have h4 := kl_get (kwX f) (kwY f) i (by omega)
    rw [kw_byte f (fun i => (hf i).1) i (by omega)] at h4
    rw [Array.getElem?_eq_getElem h1] at h3
    injection h3 with h3
    rw [h3]
    have h5 : (kl (kwX f) (kwY f)).toArray[i]? = some (.int .u8 (f i : Int)) := by simpa using h4
    rw [Array.getElem?_eq_getElem h2] at h5
    injection h5 with h5
    exact h5.symm

end Go.Proofs.Ytnbkoffhplknbaa
