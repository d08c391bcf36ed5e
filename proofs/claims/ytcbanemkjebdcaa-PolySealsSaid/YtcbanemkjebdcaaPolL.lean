/-
  What the laws over keys and schemes open alike.
-/
import Derived.Test.YtcbanemkjebdcaaRfJ
import Derived.Lib.SmallJoins
import Derived.ProofKit
import Derived.OpenShut
import Derived.ShutString
import Derived.ChangeOld
import Derived.ChangeSlices
import Derived.Below
namespace Go.Proofs.Ytcbanemkjebdcaa
open Go.ChangeShapes Go.WideShapes Go.ChangeAt Go.RowKit Go.Joins SP
set_option linter.unusedVariables false
set_option maxRecDepth 100000

theorem own : ownKnob Try.prog.godebug = none := by kernel_rfl
theorem laidOut : laidOutB Try.prog = true := by kernel_rfl
theorem cells23 : Try.prog.cellsOf 23 = 16 := by kernel_rfl

/-- The byte of a cell. -/
def byteOf : Option Value → Nat
  | some (.int _ n) => if 0 ≤ n ∧ n < 256 then n.toNat else 0
  | _ => 0
theorem byteOf_lt (o : Option Value) : byteOf o < 256 := by
  unfold byteOf
  split
  · split <;> omega
  · omega
theorem byteOf_cell {k : IntKind} {n : Int} (h0 : 0 ≤ n) (h1 : n < 256) : (byteOf (some (.int k n)) : Int) = n := by
  show ((if 0 ≤ n ∧ n < 256 then n.toNat else 0 : Nat) : Int) = n
  rw [if_pos ⟨h0, h1⟩]; omega

theorem open_key {H : Type} {enc : TypeId × Value → H} {W : World} {base : Nat} {sp : Nat → Bool} {v : Value} {d : DataW H} {p : List MemPlace}
    (hok : Value.okWide Try.prog W .any base 23 v) (h : DataW.Trod enc Try.prog W 0 sp true 23 v d p) : ∃ X Y : Nat, X < M ∧ Y < M ∧ v = .agg (kl X Y).toArray := by
  obtain ⟨cs, rfl, hsz⟩ : ∃ cs : Array Value, v = .agg cs ∧ cs.size = 16 := by
    have h1 := hok
    simp only [Value.okWide, Try.underlying23] at h1
    obtain ⟨cs, h2, h3, _⟩ : ∃ cs, v = .agg cs ∧ cs.size = Try.prog.cellsOf 23 ∧ Row.okWide Try.prog W .any base 23 cs := by simpa using h1
    exact ⟨cs, h2, by rw [h3, cells23]⟩
  obtain ⟨fuel, hf⟩ := h
  obtain ⟨xs, m, _, _, _, hl, hel⟩ := DataW.trod_array Try.underlying23 hf
  have hcell : ∀ i, i < 16 → ∃ n : Int, cs[i]? = some (.int .u8 n) ∧ 0 ≤ n ∧ n < 256 := fun i hi => by
    have h1 := hel i hi
    rw [cells5, List.getElem?_eq_getElem (by omega)] at h1
    obtain ⟨n, hn, _, hwf⟩ := DataW.trod_int Try.underlying5 h1
    have hb := bounds_u8 hwf
    have h2 : cs[i]? = some (.int .u8 n) := by
      have h3 := congrArg (·[0]?) hn
      simpa [Value.cells, List.getElem?_take, List.getElem?_drop] using h3
    exact ⟨n, h2, by omega, by omega⟩
  obtain ⟨f, hf⟩ : ∃ f : Nat → Nat, ∀ i, f i < 256 ∧ (i < 16 → cs[i]? = some (.int .u8 (f i : Int))) := by
    refine ⟨fun i => byteOf cs[i]?, fun i => ⟨byteOf_lt _, fun hi => ?_⟩⟩
    obtain ⟨n, h1, h2, h3⟩ := hcell i hi
    show _ = some (Value.int .u8 ((byteOf cs[i]? : Nat) : Int))
    rw [h1, byteOf_cell h2 h3]
  refine ⟨kwX f, kwY f, (kw_lt f (fun i => (hf i).1)).1, (kw_lt f (fun i => (hf i).1)).2, ?_⟩
  congr 1
  apply Array.ext
  · simp [kl_len, hsz]
  · intro i h1 h2
    have h3 := (hf i).2 (by omega)
    have h4 := kl_get (kwX f) (kwY f) i (by omega)
    rw [kw_byte f (fun i => (hf i).1) i (by omega)] at h4
    rw [Array.getElem?_eq_getElem h1] at h3
    injection h3 with h3
    rw [h3]
    have h5 : (kl (kwX f) (kwY f)).toArray[i]? = some (.int .u8 (f i : Int)) := by simpa using h4
    rw [Array.getElem?_eq_getElem h2] at h5
    injection h5 with h5
    exact h5.symm

theorem array6 {α : Type} {cs : Array α} (h : cs.size = 6) : ∃ c0 c1 c2 c3 c4 c5, cs = #[c0, c1, c2, c3, c4, c5] := by
  obtain ⟨l⟩ := cs
  match l, h with
  | [c0, c1, c2, c3, c4, c5], _ => exact ⟨c0, c1, c2, c3, c4, c5, rfl⟩
theorem cells28 : Try.prog.cellsOf 28 = 6 := by kernel_rfl
theorem cells26 : Try.prog.cellsOf 26 = 3 := by kernel_rfl
theorem cells3 : Try.prog.cellsOf 3 = 1 := by kernel_rfl
theorem cells24 : Try.prog.cellsOf 24 = 1 := by kernel_rfl

/-- A scheme that comes in. -/
theorem open_scheme {H : Type} {enc : TypeId × Value → H} {W : World} {base : Nat} {sp : Nat → Bool} {v : Value} {d : DataW H} {p : List MemPlace}
    (hok : Value.okWide Try.prog W .any base 28 v) (h : DataW.Trod enc Try.prog W 0 sp true 28 v d p) :
    ∃ K D E P Q G : Int, (0 ≤ K ∧ K ≤ 255) ∧ (0 ≤ P ∧ P ≤ 18446744073709551615) ∧ (0 ≤ Q ∧ Q ≤ 18446744073709551615) ∧ (0 ≤ G ∧ G ≤ 18446744073709551615) ∧ v = .agg #[.int .u8 K, .int .i64 D, .int .i64 E, .int .u64 P, .int .u64 Q, .int .u64 G] := by
  obtain ⟨cs, rfl, hsz⟩ := okWide_struct Try.underlying28 hok
  obtain ⟨a0, a1, a2, a3, a4, a5, rfl⟩ := array6 (hsz.trans cells28)
  obtain ⟨fuel, hf⟩ := h
  obtain ⟨y0, y1, y2, y3, n, _, _, h0, h1, h2, h3⟩ := trod_struct4 Try.underlying28 hf
  simp [Value.cells, cells5, cells3, cells26] at h0 h1 h2 h3
  obtain ⟨K, e0, -, u0⟩ := DataW.trod_int Try.underlying5 h0
  obtain ⟨D, e1, -, u1⟩ := DataW.trod_int Try.underlying3 h1
  obtain ⟨E, e2, -, u2⟩ := DataW.trod_int Try.underlying3 h2
  obtain ⟨z0, z1, z2, m, _, _, g0, g1, g2⟩ := Go.Deep.trod_struct3 Try.underlying26 h3
  simp [cells24] at g0 g1 g2
  obtain ⟨P, e3, -, u3⟩ := DataW.trod_int Try.underlying24 g0
  obtain ⟨Q, e4, -, u4⟩ := DataW.trod_int Try.underlying24 g1
  obtain ⟨G, e5, -, u5⟩ := DataW.trod_int Try.underlying24 g2
  simp only [List.cons.injEq, and_true] at e0 e1 e2 e3 e4 e5
  subst e0 e1 e2 e3 e4 e5
  have b0 := bounds_u8 u0
  have b3 := bounds_u64 u3
  have b4 := bounds_u64 u4
  have b5 := bounds_u64 u5
  exact ⟨K, D, E, P, Q, G, by omega, by omega, by omega, by omega, rfl⟩
end Go.Proofs.Ytcbanemkjebdcaa
