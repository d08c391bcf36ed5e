/-
  What the laws over keys, bytes and strings open alike.
-/
import Derived.Test.YtphhppdokdageaaMac
import Derived.ProofKit
import Derived.OpenShut
import Derived.ShutString
import Derived.ChangeOld
import Derived.ChangeSlices
import Derived.Below
namespace Go.Proofs.Ytphhppdokdageaa
open Go.ChangeShapes Go.WideShapes Go.ChangeAt Go.RowKit SP
set_option linter.unusedVariables false

theorem own : ownKnob Try.prog.godebug = none := by kernel_rfl
theorem laidOut : laidOutB Try.prog = true := by kernel_rfl
theorem cells23 : Try.prog.cellsOf 23 = 16 := by kernel_rfl

/-- The byte of a cell. -/
def byteOf : Option Value → Nat
  | some (.int _ n) => if 0 ≤ n ∧ n < 256 then n.toNat else 0
  | _ => 0
theorem byteOf_lt (o : Option Value) : byteOf o < 256 := by
  unfold byteOf
  split
  · split <;> omega
  · omega
theorem byteOf_cell {k : IntKind} {n : Int} (h0 : 0 ≤ n) (h1 : n < 256) : (byteOf (some (.int k n)) : Int) = n := by
  show ((if 0 ≤ n ∧ n < 256 then n.toNat else 0 : Nat) : Int) = n
  rw [if_pos ⟨h0, h1⟩]; omega

theorem open_key {H : Type} {enc : TypeId × Value → H} {W : World} {base : Nat} {sp : Nat → Bool} {v : Value} {d : DataW H} {p : List MemPlace}
    (hok : Value.okWide Try.prog W .any base 23 v) (h : DataW.Trod enc Try.prog W 0 sp true 23 v d p) : ∃ X Y : Nat, X < M ∧ Y < M ∧ v = .agg (kl X Y).toArray := by
  obtain ⟨cs, rfl, hsz⟩ : ∃ cs : Array Value, v = .agg cs ∧ cs.size = 16 := by
    have h1 := hok
    simp only [Value.okWide, Try.underlying23] at h1
    obtain ⟨cs, h2, h3, _⟩ : ∃ cs, v = .agg cs ∧ cs.size = Try.prog.cellsOf 23 ∧ Row.okWide Try.prog W .any base 23 cs := by simpa using h1
    exact ⟨cs, h2, by rw [h3, cells23]⟩
  obtain ⟨fuel, hf⟩ := h
  obtain ⟨xs, m, _, _, _, hl, hel⟩ := DataW.trod_array Try.underlying23 hf
  have hcell : ∀ i, i < 16 → ∃ n : Int, cs[i]? = some (.int .u8 n) ∧ 0 ≤ n ∧ n < 256 := fun i hi => by
    have h1 := hel i hi
    rw [cells5, List.getElem?_eq_getElem (by omega)] at h1
    obtain ⟨n, hn, _, hwf⟩ := DataW.trod_int Try.underlying5 h1
    have hb := bounds_u8 hwf
    have h2 : cs[i]? = some (.int .u8 n) := by
      have h3 := congrArg (·[0]?) hn
      simpa [Value.cells, List.getElem?_take, List.getElem?_drop] using h3
    exact ⟨n, h2, by omega, by omega⟩
  obtain ⟨f, hf⟩ : ∃ f : Nat → Nat, ∀ i, f i < 256 ∧ (i < 16 → cs[i]? = some (.int .u8 (f i : Int))) := by
    refine ⟨fun i => byteOf cs[i]?, fun i => ⟨byteOf_lt _, fun hi => ?_⟩⟩
    obtain ⟨n, h1, h2, h3⟩ := hcell i hi
    show _ = some (Value.int .u8 ((byteOf cs[i]? : Nat) : Int))
    rw [h1, byteOf_cell h2 h3]
  refine ⟨kwX f, kwY f, (kw_lt f (fun i => (hf i).1)).1, (kw_lt f (fun i => (hf i).1)).2, ?_⟩
  congr 1
  apply Array.ext
  · simp [kl_len, hsz]
  · intro i h1 h2
    have h3 := (hf i).2 (by omega)
    have h4 := kl_get (kwX f) (kwY f) i (by omega)
    rw [kw_byte f (fun i => (hf i).1) i (by omega)] at h4
    rw [Array.getElem?_eq_getElem h1] at h3
    injection h3 with h3
    rw [h3]
    have h5 : (kl (kwX f) (kwY f)).toArray[i]? = some (.int .u8 (f i : Int)) := by simpa using h4
    rw [Array.getElem?_eq_getElem h2] at h5
    injection h5 with h5
    exact h5.symm

theorem open_bytes {H : Type} {enc : TypeId × Value → H} {W : World} {base : Nat} {sp : Nat → Bool} {v : Value} {d : DataW H} {p : List MemPlace}
    (hok : Value.okWide Try.prog W .any base 26 v) (h : DataW.Trod enc Try.prog W 0 sp true 26 v d p) : ∃ A n c g, v = .slice A n c ∧ Byt W A n c g := by
  obtain ⟨A, n, c, rfl⟩ := okWide_slice Try.underlying26 hok
  obtain ⟨fuel, hf⟩ := h
  rcases open_ints Try.underlying26 Try.underlying5 cells5 hf with ⟨hcs, _⟩ | ⟨x, l, c', zs, hcs, _, hl, hm, hz, _, hcell, hwz⟩
  · simp [Value.cells] at hcs
    obtain ⟨rfl, rfl, rfl⟩ := hcs
    exact ⟨none, 0, 0, fun _ => 0, rfl, by omega, by simp [maxLen], fun _ => by omega, fun h => by omega⟩
  · simp [Value.cells] at hcs
    obtain ⟨rfl, rfl, rfl⟩ := hcs
    have hzl : n ≤ zs.length := by rw [hz]; split <;> omega
    refine ⟨some x, n, c, fun i => byteOf (some (.int .u8 (zs.getD i 0))), rfl, hl, hm, fun _ => byteOf_lt _, fun hn => ?_⟩
    have h0 := hcell 0 (by omega)
    have hs : x.spot = none := by simpa [Addr.add] using World.cell?_spot h0
    refine ⟨x.block, x.off, by cases x; simp_all, fun i hi => ?_⟩
    have h1 := hcell i (by omega)
    have e1 : x.add i = ⟨x.block, x.off + i, none⟩ := by cases x; cases i <;> simp_all [Addr.add]
    rw [e1] at h1
    rw [h1]
    have hwf : (Lit.int IntKind.u8 (zs.getD i 0)).wf = true := by
      have hi' : i < zs.length := by omega
      simp only [List.getD, List.getElem?_eq_getElem hi', Option.getD_some]
      exact hwz _ (List.getElem_mem hi')
    have hb := bounds_u8 hwf
    show _ = some (Value.int .u8 ((byteOf (some (.int .u8 (zs.getD i 0))) : Nat) : Int))
    rw [byteOf_cell (by omega) (by omega)]
end Go.Proofs.Ytphhppdokdageaa
