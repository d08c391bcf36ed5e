/- For every scheme, secret and header (any values of their types): the Go function CoverOpens returns true: the session key of the header, or the error, is that of the specification, and the secret and the header are as they were. No condition. -/
import Derived.Test.YtelalpikdidpeaaRows
import Derived.Test.YtelalpikdidpeaaWkOpens
import Derived.Test.YtelalpikdidpeaaOpnH
import Derived.Test.YtelalpikdidpeaaJI
import Derived.SizedLaws
import Derived.WalkKit
import Derived.ProofKit
import Derived.OpenShut
import Derived.ShutString
import Derived.ChangeMaps5
import Derived.ChangeOld
import Derived.Below
namespace Go.Proofs.Ytelalpikdidpeaa.coverOpens
open Go.ChangeShapes Go.WideShapes Go.ChangeAt Go.RowKit TR L2 L2.SP
open Go.ChangeMaps (open_string)
set_option linter.unusedVariables false

set_option maxRecDepth 100000 in
theorem lifted (os : Os) (started : os.Started) (H : Type) (enc : TypeId × Value → H) :
    ReturnsInHanded {} Try.checked os 5 .any (Rows.coverOpensSpec.pre6 enc Try.prog Try.f5 Rows.coverOpensRow.domain false) (Rows.coverOpensSpec.post enc Try.prog Try.f5 false true false false) := by
  refine returnsInHanded_of_change_sized (C := Try.checked) own started (by kernel_rfl) Try.func5
    (ChangeSpec.witness6 (enc := enc) (C := Try.checked) false ⟨#[], #[.agg #[.int .u8 0, .int .i64 0, .int .i64 0, .int .u64 0, .int .u64 0, .int .u64 0], .agg #[.int .i64 0, .slice none 0 0, .int .u64 0, .int .u64 0], .agg #[.slice none 0 0, .int .u64 0, .slice none 0 0, .int .u8 0, .int .u8 0, .int .u8 0, .int .u8 0, .int .u8 0, .int .u8 0, .int .u8 0, .int .u8 0, .int .u8 0, .int .u8 0, .int .u8 0, .int .u8 0, .int .u8 0, .int .u8 0, .int .u8 0, .int .u8 0, .int .u8 0, .int .u8 0, .int .u8 0, .int .u8 0, .int .u8 0, .int .u8 0, .int .u8 0, .int .u8 0, .int .u8 0, .int .u8 0, .int .u8 0, .int .u8 0, .int .u8 0, .int .u8 0, .int .u8 0, .int .u8 0]], []⟩ 8 (by kernel_rfl) (by kernel_rfl) (by kernel_rfl) (by kernel_rfl)) ?_
  intro W base args ds gs before hval0 hW hcnd hsz0 _
  have hval : ∀ (j : Nat) t v, Try.f5.params[j]? = some t → args[j]? = some v → Value.okWide Try.prog W .any base t v := hval0
  have hsz : (DataW.weightsEach Try.prog (Try.f5.params.toList ++ Rows.coverOpensSpec.plain.varTypes Try.prog) (ds ++ gs)).all (· ≤ reachBytes) = true := hsz0
  have hW' := hW
  obtain ⟨p, q, hA0, hV, rfl, hfz, hnd⟩ := hW
  have hA : DataW.TrodAll enc Try.prog W 0 (fun _ => true) true Try.f5.params.toList args.toList ds p := hA0
  rw [Try.params5] at hA hval hsz
  obtain ⟨v0, vs0, d0, ds0, p0, q0, hargs, rfl, rfl, h0, r0⟩ := trodAll_cons hA
  obtain ⟨v1, vs1, d1, ds1, p1, q1, rfl, rfl, rfl, h1, r1⟩ := trodAll_cons r0
  obtain ⟨v2, vs2, d2, ds2, p2, q2, rfl, rfl, rfl, h2, r2⟩ := trodAll_cons r1
  obtain ⟨rfl, rfl, rfl⟩ := trodAll_nil r2
  obtain rfl : args = #[v0, v1, v2] := by cases args; simp_all
  obtain ⟨rfl, rfl⟩ := trodVars_none hV
  have k0 := h0
  have lt0 : ∀ x ∈ p0, x.block < W.heap.size := by obtain ⟨m, hm⟩ := k0; exact DataW.trod_lt m _ _ _ hm
  have k1 := h1
  have lt1 : ∀ x ∈ p1, x.block < W.heap.size := by obtain ⟨m, hm⟩ := k1; exact DataW.trod_lt m _ _ _ hm
  have k2 := h2
  have lt2 : ∀ x ∈ p2, x.block < W.heap.size := by obtain ⟨m, hm⟩ := k2; exact DataW.trod_lt m _ _ _ hm
  obtain ⟨K, D, E, P, Q, G, bK, bP, bQ, bG, rfl⟩ := open_scheme (hval 0 28 v0 rfl rfl) h0
  obtain ⟨rr, ss, tt, AL, gl, ol, nl, ml, L, rfl, hnl, hml, hal, hL, hzl⟩ := open_secret (hval 1 33 v1 rfl rfl) h1
  obtain ⟨A, Ap, g, o, n, m, hb, r, np, kp, B, x, y, F, H9, rfl, hnm, hkp, hx, hy, hin, hFo, e0, e1, e2, e3, e4, rfl, hz1, hz2⟩ := open_header (hval 2 59 v2 rfl rfl) h2
  have hr0 : nl ≤ 4398046511104 := by
    rcases hzl with hz | ⟨y0, y2, elems, spare, hd, hl⟩
    · omega
    · subst hd
      have h := sized_field hsz (j := 1) (t := 33) (i := 1) (t' := 29) (e := 88) rfl rfl Try.underlying33 rfl rfl Try.underlying29
      rw [bytes88] at h
      simp only [reachBytes] at h
      omega
  have hr1 : n ≤ 4398046511104 := by
    rcases hz1 with hz | ⟨elems, spare, hd, hl⟩
    · omega
    · subst hd
      have h := sized_field hsz (j := 2) (t := 59) (i := 0) (t' := 56) (e := 112) rfl rfl Try.underlying59 rfl rfl Try.underlying56
      rw [bytes112] at h
      simp only [reachBytes] at h
      omega
  have hr2 : np ≤ 8796093022208 := by
    rcases hz2 with hz | ⟨elems, spare, hd, hl⟩
    · omega
    · subst hd
      have h := sized_field hsz (j := 2) (t := 59) (i := 2) (t' := 57) (e := 31) rfl rfl Try.underlying59 rfl rfl Try.underlying57
      rw [bytes31] at h
      simp only [reachBytes] at h
      omega
  clear hA0 hval0
  obtain ⟨P, rfl⟩ := Int.eq_ofNat_of_zero_le bP.1
  obtain ⟨Q, rfl⟩ := Int.eq_ofNat_of_zero_le bQ.1
  obtain ⟨G, rfl⟩ := Int.eq_ofNat_of_zero_le bG.1
  refine (opens_walk K D E B rr ss tt P Q G g o n m hb r gl ol nl ml np kp A AL Ap x y L F H9 W bK.1 bK.2 hx hy hr1 hr2 hnm hkp hin hFo hr0 hnl hal hL).mono fun e W' ⟨he, bel⟩ => ?_
  subst he
  exact ⟨_, rfl, _, _, _, [], _, [], hW', trodAll_mk1 (shut_bool Try.underlying4 _), (trodAll_cons_mk (Below.trod laidOut (by kernel_rfl) (of_decide_eq_true (by kernel_rfl)) k0 bel lt0) (trodAll_cons_mk (Below.trod laidOut (by kernel_rfl) (of_decide_eq_true (by kernel_rfl)) k1 bel lt1) (trodAll_cons_mk (Below.trod laidOut (by kernel_rfl) (of_decide_eq_true (by kernel_rfl)) k2 bel lt2) trodAll_mk0))), rfl, bel.frame _, fun h => by cases h⟩

set_option maxHeartbeats 4000000 in
theorem over : Rows.coverOpensRow.holds Try.pinned (OpenSpec.ofChange Rows.coverOpensSpec) :=
  OpenClaim.holds_of_wide 5 Try.f5 rfl rfl rfl rfl rfl rfl rfl ⟨rfl, rfl, rfl, rfl, rfl⟩ rfl rfl rfl rfl rfl (by as_aux_lemma => kernel_rfl) Try.func5 (by as_aux_lemma => kernel_rfl)
    (of_decide_eq_true (by as_aux_lemma => kernel_rfl)) (by unfold Func.isWrapper; first | (rw [if_pos (by decide +kernel)]; kernel_rfl) | (rw [if_neg (by decide +kernel)]; exact ⟨rfl, rfl⟩))
    (fun os started H enc _ => lifted os started H enc)

/-- THE STATEMENT -/
theorem proved : Rows.CoverOpensSaid := over
#print axioms proved
end Go.Proofs.Ytelalpikdidpeaa.coverOpens
