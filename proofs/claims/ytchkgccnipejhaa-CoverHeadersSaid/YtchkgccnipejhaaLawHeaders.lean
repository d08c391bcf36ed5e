/- For every header and all bytes (any values of their types): the Go function CoverHeaders returns true: the encoding of the header, or the error, and the header that the bytes encode, or the error, are those of the specification, and neither the header nor the bytes are changed. No condition. -/
import Derived.Test.YtchkgccnipejhaaRows
import Derived.Test.YtchkgccnipejhaaWkHeaders
import Derived.Test.YtchkgccnipejhaaJU
import Derived.SizedLaws
import Derived.WalkKit
import Derived.ProofKit
import Derived.OpenShut
import Derived.ShutString
import Derived.ChangeMaps5
import Derived.ChangeOld
import Derived.Below
namespace Go.Proofs.Ytchkgccnipejhaa.coverHeaders
open Go.ChangeShapes Go.WideShapes Go.ChangeAt Go.RowKit TR L2 L2.SP
open Go.ChangeMaps (open_string)
set_option linter.unusedVariables false

set_option maxRecDepth 100000 in
theorem lifted (os : Os) (started : os.Started) (H : Type) (enc : TypeId × Value → H) :
    ReturnsInHanded {} Try.checked os 3 .any (Rows.coverHeadersSpec.pre6 enc Try.prog Try.f3 Rows.coverHeadersRow.domain false) (Rows.coverHeadersSpec.post enc Try.prog Try.f3 false true false false) := by
  refine returnsInHanded_of_change_sized (C := Try.checked) own started (by kernel_rfl) Try.func3
    (ChangeSpec.witness6 (enc := enc) (C := Try.checked) false ⟨#[], #[.agg #[.slice none 0 0, .int .u64 0, .slice none 0 0, .int .u8 0, .int .u8 0, .int .u8 0, .int .u8 0, .int .u8 0, .int .u8 0, .int .u8 0, .int .u8 0, .int .u8 0, .int .u8 0, .int .u8 0, .int .u8 0, .int .u8 0, .int .u8 0, .int .u8 0, .int .u8 0, .int .u8 0, .int .u8 0, .int .u8 0, .int .u8 0, .int .u8 0, .int .u8 0, .int .u8 0, .int .u8 0, .int .u8 0, .int .u8 0, .int .u8 0, .int .u8 0, .int .u8 0, .int .u8 0, .int .u8 0, .int .u8 0], .slice none 0 0], []⟩ 8 (by kernel_rfl) (by kernel_rfl) (by kernel_rfl) (by kernel_rfl)) ?_
  intro W base args ds gs before hval0 hW hcnd hsz0 _
  have hval : ∀ (j : Nat) t v, Try.f3.params[j]? = some t → args[j]? = some v → Value.okWide Try.prog W .any base t v := hval0
  have hsz : (DataW.weightsEach Try.prog (Try.f3.params.toList ++ Rows.coverHeadersSpec.plain.varTypes Try.prog) (ds ++ gs)).all (· ≤ reachBytes) = true := hsz0
  have hW' := hW
  obtain ⟨p, q, hA0, hV, rfl, hfz, hnd⟩ := hW
  have hA : DataW.TrodAll enc Try.prog W 0 (fun _ => true) true Try.f3.params.toList args.toList ds p := hA0
  rw [Try.params3] at hA hval hsz
  obtain ⟨v0, vs0, d0, ds0, p0, q0, hargs, rfl, rfl, h0, r0⟩ := trodAll_cons hA
  obtain ⟨v1, vs1, d1, ds1, p1, q1, rfl, rfl, rfl, h1, r1⟩ := trodAll_cons r0
  obtain ⟨rfl, rfl, rfl⟩ := trodAll_nil r1
  obtain rfl : args = #[v0, v1] := by cases args; simp_all
  obtain ⟨rfl, rfl⟩ := trodVars_none hV
  have k0 := h0
  have lt0 : ∀ x ∈ p0, x.block < W.heap.size := by obtain ⟨m, hm⟩ := k0; exact DataW.trod_lt m _ _ _ hm
  have k1 := h1
  have lt1 : ∀ x ∈ p1, x.block < W.heap.size := by obtain ⟨m, hm⟩ := k1; exact DataW.trod_lt m _ _ _ hm
  obtain ⟨A0, Ap0, g0, o0, n0, m0, hb0, r0x, np0, kp0, b0, x0, y0, F0, K0, rfl, hnm0, hkp0, hx0, hy0, hin0, hFo0, hbM0, hKo0, e00, e01, e02, e03, e04, rfl, hz01, hz02⟩ := open_headerN (hval 0 28 v0 rfl rfl) h0
  obtain ⟨A1, g1, o1, n1, c1, f1, rfl, hnc1, hcm1, hf1, hA1n, had1, hcb1, hz1⟩ := open_bytes3 (hval 1 29 v1 rfl rfl) h1
  have hr01 : n0 ≤ 4398046511104 := by
    rcases hz01 with hz | ⟨elems, spare, hd, hl⟩
    · omega
    · subst hd
      have h := sized_field hsz (j := 0) (t := 28) (i := 0) (t' := 22) (e := 90) rfl rfl Try.underlying28 rfl rfl Try.underlying22
      rw [bytes90] at h
      simp only [reachBytes] at h
      omega
  have hr02 : np0 ≤ 8796093022208 := by
    rcases hz02 with hz | ⟨elems, spare, hd, hl⟩
    · omega
    · subst hd
      have h := sized_field hsz (j := 0) (t := 28) (i := 2) (t' := 24) (e := 70) rfl rfl Try.underlying28 rfl rfl Try.underlying24
      rw [bytes70] at h
      simp only [reachBytes] at h
      omega
  have hr1 : n1 ≤ 140737488351232 := by
    rcases hz1 with hz | ⟨elems, spare, hd, hl⟩
    · omega
    · subst hd
      have h := sized_slice hsz (j := 1) (t := 29) (e := 5) rfl rfl Try.underlying29
      rw [bytes5] at h
      simp only [reachBytes] at h
      omega
  clear hA0 hval0
  refine (headers_walk b0 g0 o0 n0 m0 hb0 r0x np0 kp0 g1 o1 n1 c1 A0 Ap0 A1 x0 y0 F0 K0 f1 W hbM0 hr01 hr02 hnm0 hkp0 hin0 hKo0 hr1 hnc1 hcm1 hf1 hA1n had1 hcb1).mono fun e W' ⟨he, bel⟩ => ?_
  subst he
  exact ⟨_, rfl, _, _, _, [], _, [], hW', trodAll_mk1 (shut_bool Try.underlying4 _), (trodAll_cons_mk (Below.trod laidOut (by kernel_rfl) (of_decide_eq_true (by kernel_rfl)) k0 bel lt0) (trodAll_cons_mk (Below.trod laidOut (by kernel_rfl) (of_decide_eq_true (by kernel_rfl)) k1 bel lt1) trodAll_mk0)), rfl, bel.frame _, fun h => by cases h⟩

set_option maxHeartbeats 4000000 in
theorem over : Rows.coverHeadersRow.holds Try.pinned (OpenSpec.ofChange Rows.coverHeadersSpec) :=
  OpenClaim.holds_of_wide 3 Try.f3 rfl rfl rfl rfl rfl rfl rfl ⟨rfl, rfl, rfl, rfl, rfl⟩ rfl rfl rfl rfl rfl (by as_aux_lemma => kernel_rfl) Try.func3 (by as_aux_lemma => kernel_rfl)
    (of_decide_eq_true (by as_aux_lemma => kernel_rfl)) (by unfold Func.isWrapper; first | (rw [if_pos (by decide +kernel)]; kernel_rfl) | (rw [if_neg (by decide +kernel)]; exact ⟨rfl, rfl⟩))
    (fun os started H enc _ => lifted os started H enc)

/-- THE STATEMENT -/
theorem proved : Rows.CoverHeadersSaid := over
#print axioms proved
end Go.Proofs.Ytchkgccnipejhaa.coverHeaders
