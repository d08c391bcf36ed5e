/-
  Long division, part E: guess.
-/
import Derived.Test.YthplhlcdlnedfaaDivD
import Derived.Test.YthplhlcdlnedfaaMathG
import Derived.WalkMore
namespace Go.Proofs.Ythplhlcdlnedfaa
open Go.RowKit MN

def Guessed (ws : World) (P V : Nat) (e : Ending) (w' : World) : Prop :=
  ∃ q : Nat, e = .returned (.int .u64 (q : Int)) ∧ Drawn ws w' ∧ P / V ≤ q ∧ q ≤ P / V + 1

set_option maxRecDepth 100000 in
set_option maxHeartbeats 2000000 in
theorem guess_two (ws : World) (bu ou bv ov j cu cv : Nat) (ps vs : List Nat) (hs : Gs ps vs j)
    (hu : ∀ i, i < j + 3 → ws.cell? ⟨bu, ou + i, none⟩ = some (.int .u32 (dg ps i : Int))) (hv : ∀ i, i < j + 2 → ws.cell? ⟨bv, ov + i, none⟩ = some (.int .u32 (dg vs i : Int))) (hj : j ≤ 65536) :
    Calls Try.prog 110 #[.slice (some ⟨bu, ou, none⟩) (j + 3) cu, .slice (some ⟨bv, ov, none⟩) (j + 2) cv] ws (Guessed ws (val 4294967296 ps) (val 4294967296 vs)) := by
  have hp2 := hu (j + 2) (by omega)
  have hp1 := hu (j + 1) (by omega)
  have hp0 := hu j (by omega)
  have hv1 := hv (j + 1) (by omega)
  have hv0 := hv j (by omega)
  clear hu hv
  have HS := Lib.hid hs
  have HG := Lib.hid (Gu.start hs)
  have t1 := hs.top
  have l2 := low_dg hs.plow (by omega) (j + 2)
  have l1 := low_dg hs.plow (by omega) (j + 1)
  have l0 := low_dg hs.plow (by omega) j
  have k1 := low_dg hs.vlow (by omega) (j + 1)
  have k0 := low_dg hs.vlow (by omega) j
  clear hs
  obtain ⟨P2, h2⟩ : ∃ x, x = dg ps (j + 2) := ⟨_, rfl⟩
  obtain ⟨P1, h1⟩ : ∃ x, x = dg ps (j + 1) := ⟨_, rfl⟩
  obtain ⟨P0, h0⟩ : ∃ x, x = dg ps j := ⟨_, rfl⟩
  obtain ⟨V1, g1⟩ : ∃ x, x = dg vs (j + 1) := ⟨_, rfl⟩
  obtain ⟨V0, g0⟩ : ∃ x, x = dg vs j := ⟨_, rfl⟩
  rw [← h2] at hp2 l2 HG
  rw [← h1] at hp1 l1 HG
  rw [← h0] at hp0 l0
  rw [← g1] at hv1 t1 k1 HG
  rw [← g0] at hv0 k0
  have H0 := Lib.hid h0
  have G0 := Lib.hid g0
  have G1 := Lib.hid g1
  clear h2 h1 h0 g1 g0
  have hor := or_u64 P2 P1 l2 l1
  obtain ⟨T, hT⟩ : ∃ T, T = P2 * 4294967296 + P1 := ⟨_, rfl⟩
  rw [← hT] at hor HG
  have hT' := Lib.hid hT
  clear hT
  have i0 : (0 : Int) ≤ (j : Int) := by omega
  have i1 : (j : Int) < (j : Int) + 2 := by omega
  have i2 : (j : Int) + 1 < (j : Int) + 2 := by omega
  have i3 : (0 : Int) ≤ (j : Int) + 1 := by omega
  have i4 : (0 : Int) ≤ (j : Int) + 2 := by omega
  have i5 : (j : Int) + 2 < (j : Int) + 3 := by omega
  have i6 : (j : Int) + 1 < (j : Int) + 3 := by omega
  have i7 : (j : Int) < (j : Int) + 3 := by omega
  have i8 : (1 : Int) < (j : Int) + 2 := by omega
  have n1 : ((j : Int) + 1).toNat = j + 1 := by omega
  have n2 : ((j : Int) + 2).toNat = j + 2 := by omega
  have w1 : IntKind.i64.wrap ((j : Int) + 2 - 1) = (j : Int) + 1 := by rw [IntWalk.i64_in _ (by omega)]; omega
  have w2 : IntKind.i64.wrap ((j : Int) + 2 - 2) = (j : Int) := by rw [IntWalk.i64_in _ (by omega)]; omega
  have w3 : IntKind.u64.wrap ((P2 : Int) * 4294967296) = (P2 : Int) * 4294967296 := IntWalk.u64_in _ (by omega)
  go_enter Try.func110, Try.ntmps110
  go_wp2
  go_step3
  go_wp2
  go_quiet (fail)
  obtain ⟨Q0, hQ0⟩ : ∃ x, x = T / V1 := ⟨_, rfl⟩
  obtain ⟨R0, hR0⟩ : ∃ x, x = T % V1 := ⟨_, rfl⟩
  have hT0 : T ≤ 18446744073709551615 := by rw [hT'.out]; omega
  have hQl : Q0 ≤ T := by rw [hQ0]; exact Nat.div_le_self _ _
  have hRl : R0 < V1 := by rw [hR0]; exact Nat.mod_lt _ (by omega)
  have d1 : IntKind.u64.wrap ((T : Int) / (V1 : Int)) = (Q0 : Int) := by rw [show (T : Int) / (V1 : Int) = (Q0 : Int) by rw [hQ0]; rfl]; exact IntWalk.u64_in _ (by omega)
  have d2 : (T : Int) % (V1 : Int) = (R0 : Int) := by rw [hR0]; rfl
  have d3 : IntKind.u64.wrap ((T : Int).tdiv (V1 : Int)) = (Q0 : Int) := by rw [Int.tdiv_eq_ediv_of_nonneg (by omega)]; exact d1
  have d4 : (T : Int).tmod (V1 : Int) = (R0 : Int) := by rw [Int.tmod_eq_emod_of_nonneg (by omega)]; exact d2
  rw [← hQ0, ← hR0] at HG
  clear hQ0 hR0 hT0
  go_wp2
  go_quiet (fail)
  go_wp2
  go_step3
  go_wp2
  have hQm : Q0 ≤ 4294967297 := HG.out.le
  go_loopw [8, 9] (fun q r wr => ∃ (Q R : Nat), q = .int .u64 Q ∧ r = .int .u64 R ∧ Q ≤ 4294967297 ∧ R ≤ 8589934592 ∧ Drawn ws wr ∧ Hid (Gu ps vs j Q R)) (fun q _ _ => (intOf q).toNat)
  case atStart => exact ⟨Q0, R0, rfl, rfl, hQm, by omega, ((Drawn.refl ws).more _).more _, HG⟩
  case round =>
    obtain ⟨Q, R, rfl, rfl, hQ, hR, hD, HU⟩ := hrel
    have q1 := (hD.cell ⟨bu, ou + j, none⟩).trans hp0
    have q0 := (hD.cell ⟨bv, ov + j, none⟩).trans hv0
    by_cases hr : 4294967296 ≤ R
    · have HE := Lib.hid (HU.out.stop HS.out (.inl hr))
      have hri : (4294967296 : Int) ≤ (R : Int) := by omega
      clear HU HG hr
      go_wp2
      rw [Exit.noGoto_ret]
      go_ret
      exact ⟨Q, rfl, hD, HE.out.1, HE.out.2⟩
    · have hr' : R < 4294967296 := by omega
      clear hr
      by_cases hq : 4294967296 ≤ Q
      · have HE := Lib.hid (HU.out.down HS.out (.inl hq))
        have hpos := HE.out.1
        have HU' := Lib.hid HE.out.2
        rw [← G1.out] at HU'
        have hd : (4294967296 : Int) ≤ (Q : Int) := by omega
        have hdec : decide ((4294967296 : Int) ≤ (R : Int)) = false := decide_eq_false (by omega)
        clear HU HG HE hq
        go_wp2
        go_quiet (fail)
        go_wp2
        go_roundw
        case rel => exact ⟨Q - 1, R + V1, by go_num, by go_num, HU'.out.le, by omega, hD.more _, HU'⟩
        case measure => simp [intOf]; omega
      · have hq' : Q < 4294967296 := by omega
        have hdec : decide ((4294967296 : Int) ≤ (R : Int)) = false := decide_eq_false (by omega)
        have hdec2 : decide ((4294967296 : Int) ≤ (Q : Int)) = false := decide_eq_false (by omega)
        clear hq
        have hor2 := or_u64 R P0 hr' l0
        obtain ⟨M, hM⟩ : ∃ x, x = Q * V0 := ⟨_, rfl⟩
        obtain ⟨Nn, hN⟩ : ∃ x, x = R * 4294967296 + P0 := ⟨_, rfl⟩
        rw [← hN] at hor2
        have w4 : IntKind.u64.wrap ((Q : Int) * (V0 : Int)) = (M : Int) := by rw [mul_u64 Q V0 (by omega) (by omega), hM]; rfl
        have w5 : IntKind.u64.wrap ((R : Int) * 4294967296) = (R : Int) * 4294967296 := IntWalk.u64_in _ (by omega)
        by_cases hc : Nn < M
        · have HE := Lib.hid (HU.out.down HS.out (.inr (by rw [← H0.out, ← G0.out, ← hM, ← hN]; exact hc)))
          have hpos := HE.out.1
          have HU' := Lib.hid HE.out.2
          rw [← G1.out] at HU'
          have hd : decide (Nn < M) = true := decide_eq_true hc
          clear HU HG HE hM hN hc
          go_wp2
          go_quiet (fail)
          go_wp2
          go_roundw
          case rel => exact ⟨Q - 1, R + V1, by go_num, by go_num, HU'.out.le, by omega, hD.more _, HU'⟩
          case measure => simp [intOf]; omega
        · have HE := Lib.hid (HU.out.stop HS.out (.inr ⟨hq', by rw [← H0.out, ← G0.out, ← hM, ← hN]; omega⟩))
          have hd : decide (Nn < M) = false := decide_eq_false hc
          clear HU HG hM hN hc
          go_wp2
          go_quiet (fail)
          go_wp2
          rw [Exit.noGoto_ret]
          go_ret
          exact ⟨Q, rfl, hD.more _, HE.out.1, HE.out.2⟩

end Go.Proofs.Ythplhlcdlnedfaa
