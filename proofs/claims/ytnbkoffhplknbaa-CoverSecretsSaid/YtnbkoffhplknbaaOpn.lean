/-
  What the laws over keys and schemes open alike.
-/
import Derived.Test.YtnbkoffhplknbaaBox
import Derived.Lib.SmallJoins
import Derived.ProofKit
import Derived.OpenShut
import Derived.ShutString
import Derived.ChangeOld
import Derived.ChangeSlices
import Derived.Below
namespace Go.Proofs.Ytnbkoffhplknbaa
open Go.ChangeShapes Go.WideShapes Go.ChangeAt Go.RowKit Go.Joins TR
set_option linter.unusedVariables false
set_option maxRecDepth 100000

theorem own : ownKnob Try.prog.godebug = none := by kernel_rfl
theorem laidOut : laidOutB Try.prog = true := by kernel_rfl
theorem cells5 : Try.prog.cellsOf 5 = 1 := by kernel_rfl
theorem array6 {α : Type} {cs : Array α} (h : cs.size = 6) : ∃ c0 c1 c2 c3 c4 c5, cs = #[c0, c1, c2, c3, c4, c5] := by
  obtain ⟨l⟩ := cs
  match l, h with
  | [c0, c1, c2, c3, c4, c5], _ => exact ⟨c0, c1, c2, c3, c4, c5, rfl⟩
theorem cells28 : Try.prog.cellsOf 28 = 6 := by kernel_rfl
theorem cells26 : Try.prog.cellsOf 26 = 3 := by kernel_rfl
theorem cells3 : Try.prog.cellsOf 3 = 1 := by kernel_rfl
theorem cells24 : Try.prog.cellsOf 24 = 1 := by kernel_rfl

theorem array2 {α : Type} {cs : Array α} (h : cs.size = 2) : ∃ c0 c1, cs = #[c0, c1] := by
  obtain ⟨l⟩ := cs
  match l, h with
  | [c0, c1], _ => exact ⟨c0, c1, rfl⟩
theorem cells35 : Try.prog.cellsOf 35 = 2 := by kernel_rfl
/-- A subset that comes in. -/
theorem open_subset {H : Type} {enc : TypeId × Value → H} {W : World} {base : Nat} {sp : Nat → Bool} {v : Value} {d : DataW H} {p : List MemPlace}
    (hok : Value.okWide Try.prog W .any base 35 v) (h : DataW.Trod enc Try.prog W 0 sp true 35 v d p) : ∃ a b : Int, v = .agg #[.int .i64 a, .int .i64 b] := by
  obtain ⟨cs, rfl, hsz⟩ := okWide_struct Try.underlying35 hok
  obtain ⟨a0, a1, rfl⟩ := array2 (hsz.trans cells35)
  obtain ⟨fuel, hf⟩ := h
  obtain ⟨y0, y1, n, _, _, h0, h1⟩ := Go.ChangeShapes.trod_struct2 Try.underlying35 hf
  simp [Value.cells, cells3] at h0 h1
  obtain ⟨D, e1, -, u1⟩ := DataW.trod_int Try.underlying3 h0
  obtain ⟨E, e2, -, u2⟩ := DataW.trod_int Try.underlying3 h1
  simp only [List.cons.injEq, and_true] at e1 e2
  subst e1 e2
  exact ⟨D, E, rfl⟩

/-- A scheme that comes in. -/
theorem open_scheme {H : Type} {enc : TypeId × Value → H} {W : World} {base : Nat} {sp : Nat → Bool} {v : Value} {d : DataW H} {p : List MemPlace}
    (hok : Value.okWide Try.prog W .any base 28 v) (h : DataW.Trod enc Try.prog W 0 sp true 28 v d p) :
    ∃ K D E P Q G : Int, (0 ≤ K ∧ K ≤ 255) ∧ (0 ≤ P ∧ P ≤ 18446744073709551615) ∧ (0 ≤ Q ∧ Q ≤ 18446744073709551615) ∧ (0 ≤ G ∧ G ≤ 18446744073709551615) ∧ v = .agg #[.int .u8 K, .int .i64 D, .int .i64 E, .int .u64 P, .int .u64 Q, .int .u64 G] := by
  obtain ⟨cs, rfl, hsz⟩ := okWide_struct Try.underlying28 hok
  obtain ⟨a0, a1, a2, a3, a4, a5, rfl⟩ := array6 (hsz.trans cells28)
  obtain ⟨fuel, hf⟩ := h
  obtain ⟨y0, y1, y2, y3, n, _, _, h0, h1, h2, h3⟩ := trod_struct4 Try.underlying28 hf
  simp [Value.cells, cells5, cells3, cells26] at h0 h1 h2 h3
  obtain ⟨K, e0, -, u0⟩ := DataW.trod_int Try.underlying5 h0
  obtain ⟨D, e1, -, u1⟩ := DataW.trod_int Try.underlying3 h1
  obtain ⟨E, e2, -, u2⟩ := DataW.trod_int Try.underlying3 h2
  obtain ⟨z0, z1, z2, m, _, _, g0, g1, g2⟩ := Go.Deep.trod_struct3 Try.underlying26 h3
  simp [cells24] at g0 g1 g2
  obtain ⟨P, e3, -, u3⟩ := DataW.trod_int Try.underlying24 g0
  obtain ⟨Q, e4, -, u4⟩ := DataW.trod_int Try.underlying24 g1
  obtain ⟨G, e5, -, u5⟩ := DataW.trod_int Try.underlying24 g2
  simp only [List.cons.injEq, and_true] at e0 e1 e2 e3 e4 e5
  subst e0 e1 e2 e3 e4 e5
  have b0 := bounds_u8 u0
  have b3 := bounds_u64 u3
  have b4 := bounds_u64 u4
  have b5 := bounds_u64 u5
  exact ⟨K, D, E, P, Q, G, by omega, by omega, by omega, by omega, rfl⟩
end Go.Proofs.Ytnbkoffhplknbaa
