/- For every a and b (of type api.Natural) and every f and g (of type api.Fraction): the Go function NumberFractions returns true: the fraction of two numbers, whether a fraction is valid, comparisons, sums and products, or the errors, are those of the specification; the fractions are not changed. No condition. -/
import Derived.Test.YthplhlcdlnedfaaRows
import Derived.Test.YthplhlcdlnedfaaWkFractions
import Derived.WalkKit
import Derived.ProofKit
import Derived.OpenShut
import Derived.ShutString
import Derived.ChangeMaps
import Derived.ChangeOld
import Derived.Below
import Derived.SizedLaws
namespace Go.Proofs.Ythplhlcdlnedfaa.numberFractions
open Go.ChangeShapes Go.WideShapes Go.ChangeAt Go.RowKit
set_option linter.unusedVariables false

theorem own : ownKnob Try.prog.godebug = none := by kernel_rfl
theorem laidOut : laidOutB Try.prog = true := by kernel_rfl

set_option maxRecDepth 100000 in
theorem lifted (os : Os) (started : os.Started) (H : Type) (enc : TypeId × Value → H) :
    ReturnsInHanded {} Try.checked os 6 .any (Rows.numberFractionsSpec.pre6 enc Try.prog Try.f6 Rows.numberFractionsRow.domain false) (Rows.numberFractionsSpec.post enc Try.prog Try.f6 false true false false) := by
  refine returnsInHanded_of_change_sized (C := Try.checked) own started (by kernel_rfl) Try.func6
    (ChangeSpec.witness6 (enc := enc) (C := Try.checked) false ⟨#[], #[.slice none 0 0, .slice none 0 0, .agg #[.slice none 0 0, .slice none 0 0], .agg #[.slice none 0 0, .slice none 0 0]], []⟩ 8 (by kernel_rfl) (by kernel_rfl) (by kernel_rfl) (by kernel_rfl)) ?_
  intro W base args ds gs before hval0 hW hcnd hsz0 _
  have hval : ∀ (j : Nat) t v, Try.f6.params[j]? = some t → args[j]? = some v → Value.okWide Try.prog W .any base t v := hval0
  have hsz : (DataW.weightsEach Try.prog (Try.f6.params.toList ++ Rows.numberFractionsSpec.plain.varTypes Try.prog) (ds ++ gs)).all (· ≤ reachBytes) = true := hsz0
  have hW' := hW
  obtain ⟨p, q, hA0, hV, rfl, hfz, hnd⟩ := hW
  have hA : DataW.TrodAll enc Try.prog W 0 (fun _ => true) true Try.f6.params.toList args.toList ds p := hA0
  rw [Try.params6] at hA hval hsz
  obtain ⟨v0, vs0, d0, ds0, p0, q0, hargs, rfl, rfl, h0, r0⟩ := trodAll_cons hA
  obtain ⟨v1, vs1, d1, ds1, p1, q1, rfl, rfl, rfl, h1, r1⟩ := trodAll_cons r0
  obtain ⟨v2, vs2, d2, ds2, p2, q2, rfl, rfl, rfl, h2, r2⟩ := trodAll_cons r1
  obtain ⟨v3, vs3, d3, ds3, p3, q3, rfl, rfl, rfl, h3, r3⟩ := trodAll_cons r2
  obtain ⟨rfl, rfl, rfl⟩ := trodAll_nil r3
  obtain rfl : args = #[v0, v1, v2, v3] := by cases args; simp_all
  obtain ⟨rfl, rfl⟩ := trodVars_none hV
  have k0 := h0
  have lt0 : ∀ x ∈ p0, x.block < W.heap.size := by obtain ⟨m, hm⟩ := k0; exact DataW.trod_lt m _ _ _ hm
  have k1 := h1
  have lt1 : ∀ x ∈ p1, x.block < W.heap.size := by obtain ⟨m, hm⟩ := k1; exact DataW.trod_lt m _ _ _ hm
  have k2 := h2
  have lt2 : ∀ x ∈ p2, x.block < W.heap.size := by obtain ⟨m, hm⟩ := k2; exact DataW.trod_lt m _ _ _ hm
  have k3 := h3
  have lt3 : ∀ x ∈ p3, x.block < W.heap.size := by obtain ⟨m, hm⟩ := k3; exact DataW.trod_lt m _ _ _ hm
  obtain ⟨A1, n1, c1, xs, rfl, a1, z1⟩ := open_row (hval 0 23 v0 rfl rfl) h0
  obtain ⟨A2, n2, c2, ys, rfl, a2, z2⟩ := open_row (hval 1 23 v1 rfl rfl) h1
  obtain ⟨A3, n3, c3, zs, A4, n4, c4, us, y0, y1, rfl, a3, a4, hd2, z3, z4⟩ := open_frac (hval 2 38 v2 rfl rfl) h2
  obtain ⟨A5, n5, c5, vs, A6, n6, c6, ts, y2, y3, rfl, a5, a6, hd3, z5, z6⟩ := open_frac (hval 3 38 v3 rfl rfl) h3
  subst hd2
  have hsf := sized_frac hsz (j := 2) (y0 := y0) (y1 := y1) rfl rfl
  have s3 : n3 * 4 ≤ 140737488351232 := by
    rcases z3 with rfl | ⟨elems, spare, hd, hl⟩
    · omega
    · subst hd
      have h := sized_slice hsf (j := 0) (t := 23) (e := 24) rfl rfl Try.underlying23
      rw [bytes24] at h
      simp only [reachBytes] at h
      omega
  have s4 : n4 * 4 ≤ 140737488351232 := by
    rcases z4 with rfl | ⟨elems, spare, hd, hl⟩
    · omega
    · subst hd
      have h := sized_slice hsf (j := 1) (t := 23) (e := 24) rfl rfl Try.underlying23
      rw [bytes24] at h
      simp only [reachBytes] at h
      omega
  clear hA0 hval0
  refine (walk A1 A2 A3 A4 A5 A6 n1 n2 n3 n4 n5 n6 c1 c2 c3 c4 c5 c6 xs ys zs us vs ts W a1 a2 a3 a4 a5 a6 s3 s4).mono fun e W' ⟨he, bel⟩ => ?_
  subst he
  exact ⟨_, rfl, _, _, _, [], _, [], hW', trodAll_mk1 (shut_bool Try.underlying4 _), (trodAll_cons_mk (Below.trod laidOut (by kernel_rfl) (of_decide_eq_true (by kernel_rfl)) k0 bel lt0) (trodAll_cons_mk (Below.trod laidOut (by kernel_rfl) (of_decide_eq_true (by kernel_rfl)) k1 bel lt1) (trodAll_cons_mk (Below.trod laidOut (by kernel_rfl) (of_decide_eq_true (by kernel_rfl)) k2 bel lt2) (trodAll_cons_mk (Below.trod laidOut (by kernel_rfl) (of_decide_eq_true (by kernel_rfl)) k3 bel lt3) trodAll_mk0)))), rfl, bel.frame _, fun h => by cases h⟩

theorem over : Rows.numberFractionsRow.holds Try.pinned (OpenSpec.ofChange Rows.numberFractionsSpec) :=
  OpenClaim.holds_of_wide 6 Try.f6 rfl rfl rfl rfl rfl rfl rfl ⟨rfl, rfl, rfl, rfl, rfl⟩ rfl rfl rfl rfl rfl (by kernel_rfl) Try.func6 (by kernel_rfl)
    (of_decide_eq_true (by kernel_rfl)) (by unfold Func.isWrapper; first | (rw [if_pos (by decide +kernel)]; kernel_rfl) | (rw [if_neg (by decide +kernel)]; exact ⟨rfl, rfl⟩))
    (fun os started H enc _ => lifted os started H enc)

/-- THE STATEMENT -/
theorem proved : Rows.NumberFractionsSaid := over
#print axioms proved
end Go.Proofs.Ythplhlcdlnedfaa.numberFractions
