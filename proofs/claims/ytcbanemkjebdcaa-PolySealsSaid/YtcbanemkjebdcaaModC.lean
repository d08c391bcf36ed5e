/-
  Contracts: inverses modulo a number, of the program and of the specification.
-/
import Derived.Test.YtcbanemkjebdcaaModB
namespace Go.Proofs.Ytcbanemkjebdcaa
open Go.RowKit

/-- What InvMod returns: the number and the error. -/
noncomputable def ivv (a m : Int) : Int :=
  open Classical in if h : (1 ≤ m ∧ m ≤ 4294967295) ∧ ∃ v, MA.IsInv a.toNat m.toNat v then ((Classical.choose h.2 : Nat) : Int) else 0
noncomputable def ivc (a m : Int) : Int :=
  if 1 ≤ m ∧ m ≤ 4294967295 then (if Nat.gcd a.toNat m.toNat = 1 then 0 else 10) else 2

theorem ivv_of (a m : Int) (v : Nat) (h1 : 1 ≤ m) (h2 : m ≤ 4294967295) (h : MA.IsInv a.toNat m.toNat v) : ivv a m = v := by
  unfold ivv
  rw [dif_pos ⟨⟨h1, h2⟩, v, h⟩]
  exact congrArg Int.ofNat (MA.isInv_unique (Classical.choose_spec (⟨v, h⟩ : ∃ v, MA.IsInv a.toNat m.toNat v)) h)
theorem ivv_none (a m : Int) (h : Nat.gcd a.toNat m.toNat ≠ 1) : ivv a m = 0 := by
  unfold ivv
  rw [dif_neg]
  rintro ⟨_, v, hv⟩
  exact h hv.2.2
theorem ivv_bad (a m : Int) (h : m < 1 ∨ 4294967295 < m) : ivv a m = 0 := by
  unfold ivv
  rw [dif_neg]
  rintro ⟨h', _⟩
  omega
theorem ivc_of (a m : Int) (h1 : 1 ≤ m) (h2 : m ≤ 4294967295) (h : Nat.gcd a.toNat m.toNat = 1) : ivc a m = 0 := by
  unfold ivc; rw [if_pos ⟨h1, h2⟩, if_pos h]
theorem ivc_none (a m : Int) (h1 : 1 ≤ m) (h2 : m ≤ 4294967295) (h : Nat.gcd a.toNat m.toNat ≠ 1) : ivc a m = 10 := by
  unfold ivc; rw [if_pos ⟨h1, h2⟩, if_neg h]
theorem ivc_bad (a m : Int) (h : m < 1 ∨ 4294967295 < m) : ivc a m = 2 := by
  unfold ivc; rw [if_neg (by omega)]

/-- What the end of Euclid's algorithm says. -/
theorem inv_end (A M R T Y : Nat) (h2 : M ≤ 4294967295) (hT : T < M) (h : MA.Eu A M R T 0 Y) :
    (R = 1 → ivv A M = T ∧ ivc A M = 0) ∧ (R ≠ 1 → ivv A M = 0 ∧ ivc A M = 10) := by
  have he := MA.eu_end _ _ _ _ _ h
  refine ⟨fun hR => ?_, fun hR => ?_⟩
  · subst hR
    refine ⟨ivv_of _ _ _ (by omega) (by omega) ?_, ivc_of _ _ (by omega) (by omega) ?_⟩
    · simp only [Int.toNat_natCast]; exact ⟨hT, he.2, he.1.symm⟩
    · simp only [Int.toNat_natCast]; exact he.1.symm
  · refine ⟨ivv_none _ _ ?_, ivc_none _ _ (by omega) (by omega) ?_⟩ <;> (simp only [Int.toNat_natCast]; rw [← he.1]; exact hR)

/-- The next factor, as the walk spells it. -/
theorem sub_cast (T M Q Y : Nat) (hM : 0 < M) (hT : T < M) (h2 : (M : Int) ≤ 4294967295) : IntKind.u64.wrap ((T : Int) + (M : Int) - (Q : Int) * (Y : Int) % (M : Int)) = ((T + (M - Q * Y % M) : Nat) : Int) := by
  have hk := Nat.mod_lt (Q * Y) hM
  have e : (Q : Int) * (Y : Int) % (M : Int) = ((Q * Y % M : Nat) : Int) := rfl
  rw [e]
  generalize Q * Y % M = k at *
  rw [IntWalk.u64_in _ (by omega)]
  omega

set_option maxRecDepth 100000 in
set_option maxHeartbeats 1000000 in
theorem invMod_any (a m : Int) (w : World) (ha : 0 ≤ a) (hm1 : 1 ≤ m) (hm2 : m ≤ 4294967295) :
    Calls Try.prog 157 #[.int .u64 a, .int .u64 m] w fun e w' => e = .returned (.tuple #[.int .u64 (ivv a m), .int .i64 (ivc a m)]) ∧ ∃ n, w' = w.drewN n := by
  obtain ⟨A, rfl⟩ := Int.eq_ofNat_of_zero_le ha
  obtain ⟨M, rfl⟩ := Int.eq_ofNat_of_zero_le (show 0 ≤ m by omega)
  have hM : 0 < M := by omega
  go_enter Try.func157, Try.ntmps157
  go_wp2_with (first
      | (go_at_call 141; refine (checkModulus_yes _ _ (by omega) (by omega)).mono ?_; rintro e w' ⟨rfl, rfl⟩))
  go_loopw [7, 8, 9, 10] (fun r t x y wr => ∃ (n R T X Y : Nat), r = .int .u64 R ∧ t = .int .u64 T ∧ x = .int .u64 X ∧ y = .int .u64 Y ∧ wr = w.drewN n ∧ R ≤ M ∧ T ≤ M ∧ X ≤ M ∧ Y ≤ M ∧ T < M ∧ (0 < X → Y < M) ∧ Hid (MA.Eu A M R T X Y)) (fun _ _ x _ _ => (intOf x).toNat)
  case atStart =>
    have h2 := Nat.mod_lt A hM
    exact ⟨0, M, 0, A % M, 1, rfl, rfl, by simp, rfl, rfl, Nat.le_refl _, by omega, by omega, by omega, hM, fun h => by omega, Lib.hid (MA.eu_start1 A M)⟩
  case round =>
    obtain ⟨n, R, T, X, Y, rfl, rfl, rfl, rfl, rfl, hR, hT, hX, hY, hTM, hYM, HI⟩ := hrel
    by_cases hx0 : 0 < X
    · have hYM' := hYM hx0
      clear hYM
      obtain ⟨Q, hQ⟩ : ∃ Q, Q = R / X := ⟨_, rfl⟩
      have HQ : Hid (Q = R / X) := Lib.hid hQ
      have hq0 : (R : Int) / (X : Int) = (Q : Int) := by rw [hQ]; rfl
      have hQ2 : Q ≤ R := by rw [hQ]; exact Nat.div_le_self _ _
      have hq : IntKind.u64.wrap ((R : Int) / (X : Int)) = (Q : Int) := by rw [hq0]; exact IntWalk.u64_in _ (by omega)
      clear hQ hq0
      have hw1 := mul_u64 Q Y (by omega) (by omega)
      have p1 : 0 ≤ (Q : Int) * (Y : Int) := Int.natCast_mul Q Y ▸ Int.natCast_nonneg _
      obtain ⟨Z, hZ⟩ : ∃ Z, Z = T + (M - Q * Y % M) := ⟨_, rfl⟩
      have HZ : Hid (Z = T + (M - Q * Y % M)) := Lib.hid hZ
      have hw2 : IntKind.u64.wrap ((T : Int) + (M : Int) - (Q : Int) * (Y : Int) % (M : Int)) = (Z : Int) := by
        rw [hZ]; exact sub_cast T M Q Y hM hTM hm2
      clear hZ
      go_wp2
      go_quiet (fail)
      go_wp2
      go_quiet (fail)
      go_wp2
      have l0 := Nat.mod_lt R hx0
      have l1 := Nat.mod_lt Z hM
      have HE : Hid (MA.Eu A M X Y (R % X) (Z % M)) := by
        refine Lib.hid ?_
        rw [HZ.out, HQ.out]; exact MA.eu_round A M R T X Y hM HI.out
      go_roundw
      case rel =>
        exact ⟨_, X, Y, R % X, Z % M, rfl, rfl, by simp, by simp, by rw [World.drewN_drewN, World.drewN_drewN], by omega, by omega, by omega, by omega, hYM', fun _ => l1, HE⟩
      case measure => simp [intOf]; omega
    · obtain rfl : X = 0 := by omega
      have he := inv_end A M R T Y (by omega) hTM HI.out
      clear HI hYM
      by_cases h1 : R = 1
      · have e1 := (he.1 h1).1
        have e2 := (he.1 h1).2
        subst h1
        have H1 := Lib.hid e1
        have H2 := Lib.hid e2
        clear e1 e2 he
        go_wp2
        go_ret2
        exact ⟨by rw [H1.out, H2.out]; try rfl, _, rfl⟩
      · have e1 := (he.2 h1).1
        have e2 := (he.2 h1).2
        have H1 := Lib.hid e1
        have H2 := Lib.hid e2
        have hb : ((R : Int) != 1) = true := by simp; omega
        clear e1 e2 he h1
        go_wp2
        go_ret2
        exact ⟨by rw [H1.out, H2.out]; try rfl, _, rfl⟩

theorem invMod_bad (a m : Int) (w : World) (h : m < 1 ∨ 4294967295 < m) :
    Calls Try.prog 157 #[.int .u64 a, .int .u64 m] w fun e w' => e = .returned (.tuple #[.int .u64 (ivv a m), .int .i64 (ivc a m)]) ∧ ∃ n, w' = w.drewN n := by
  have H1 := Lib.hid (ivv_bad a m h)
  have H2 := Lib.hid (ivc_bad a m h)
  go_enter Try.func157, Try.ntmps157
  go_wp2_with (first
      | (go_at_call 141; refine (checkModulus_no _ _ h).mono ?_; rintro e w' ⟨rfl, rfl⟩))
  go_ret2
  exact ⟨by rw [H1.out, H2.out]; try rfl, 0, rfl⟩

theorem invMod_all (a m : Int) (w : World) (ha : 0 ≤ a) :
    Calls Try.prog 157 #[.int .u64 a, .int .u64 m] w fun e w' => e = .returned (.tuple #[.int .u64 (ivv a m), .int .i64 (ivc a m)]) ∧ ∃ n, w' = w.drewN n := by
  by_cases h : m < 1 ∨ 4294967295 < m
  · exact invMod_bad a m w h
  · exact invMod_any a m w ha (by omega) (by omega)

set_option maxRecDepth 100000 in
set_option maxHeartbeats 1000000 in
theorem inverseRef_any (a m : Int) (w : World) (ha : 0 ≤ a) (hm1 : 1 ≤ m) (hm2 : m ≤ 4294967295) (P : Ending → World → Prop)
    (hP : ∀ (v : Int) (b : Bool) (n : Nat), (b = true → v = ivv a m ∧ ivc a m = 0) → (b = false → ivv a m = 0 ∧ ivc a m = 10) → P (.returned (.tuple #[.int .u64 v, .bool b])) (w.drewN n)) :
    Calls Try.prog 105 #[.int .u64 a, .int .u64 m] w P := by
  obtain ⟨A, rfl⟩ := Int.eq_ofNat_of_zero_le ha
  obtain ⟨M, rfl⟩ := Int.eq_ofNat_of_zero_le (show 0 ≤ m by omega)
  have hM : 0 < M := by omega
  have HPP := Lib.hid hP
  clear hP
  go_enter Try.func105, Try.ntmps105
  go_wp2
  go_quiet (fail)
  go_wp2
  go_loopw [6, 7, 8, 9] (fun r t x y wr => ∃ (n R T X Y : Nat), r = .int .u64 R ∧ t = .int .u64 T ∧ x = .int .u64 X ∧ y = .int .u64 Y ∧ wr = w.drewN n ∧ R ≤ M ∧ T < M ∧ X ≤ M ∧ Y < M ∧ Hid (MA.Eu A M R T X Y)) (fun _ _ x _ _ => (intOf x).toNat)
  case atStart =>
    have h2 := Nat.mod_lt A hM
    have h1 := Nat.mod_lt 1 hM
    exact ⟨_, A % M, 1 % M, M, 0, by simp, by simp, rfl, rfl, rfl, by omega, h1, Nat.le_refl _, hM, Lib.hid (MA.eu_start2 A M)⟩
  case round =>
    obtain ⟨n, R, T, X, Y, rfl, rfl, rfl, rfl, rfl, hR, hT, hX, hY, HI⟩ := hrel
    by_cases hx0 : 0 < X
    · obtain ⟨Q, hQ⟩ : ∃ Q, Q = R / X := ⟨_, rfl⟩
      have HQ : Hid (Q = R / X) := Lib.hid hQ
      have hq0 : (R : Int) / (X : Int) = (Q : Int) := by rw [hQ]; rfl
      have hQ2 : Q ≤ R := by rw [hQ]; exact Nat.div_le_self _ _
      have hq : IntKind.u64.wrap ((R : Int) / (X : Int)) = (Q : Int) := by rw [hq0]; exact IntWalk.u64_in _ (by omega)
      have hw1 := mul_u64 Q X (by omega) (by omega)
      obtain ⟨U, hU⟩ : ∃ U, U = R % X := ⟨_, rfl⟩
      have HU : Hid (U = R % X) := Lib.hid hU
      have hw0 : IntKind.u64.wrap ((R : Int) - (Q : Int) * (X : Int)) = (U : Int) := by
        have e1 := Nat.div_add_mod R X
        rw [← hQ, ← hU, Nat.mul_comm] at e1
        have e2 : (Q : Int) * (X : Int) + (U : Int) = (R : Int) := by rw [← e1]; rfl
        have e3 : (R : Int) - (Q : Int) * (X : Int) = (U : Int) := by omega
        have hUR : U ≤ R := by omega
        rw [e3]; exact IntWalk.u64_in _ (by omega)
      clear hQ hq0 hU
      obtain ⟨V, hV⟩ : ∃ V, V = Q % M := ⟨_, rfl⟩
      have HV : Hid (V = Q % M) := Lib.hid hV
      have hv0 : (Q : Int) % (M : Int) = (V : Int) := by rw [hV]; rfl
      have hVM : V < M := by rw [hV]; exact Nat.mod_lt _ hM
      clear hV
      have hw2 := mul_u64 V Y (by omega) (by omega)
      have p1 : 0 ≤ (V : Int) * (Y : Int) := Int.natCast_mul V Y ▸ Int.natCast_nonneg _
      obtain ⟨Z, hZ⟩ : ∃ Z, Z = M - V * Y % M := ⟨_, rfl⟩
      have HZ : Hid (Z = M - V * Y % M) := Lib.hid hZ
      have hZM : Z ≤ M := by omega
      have hw3 : IntKind.u64.wrap ((M : Int) - (V : Int) * (Y : Int) % (M : Int)) = (Z : Int) := by
        have hk := Nat.mod_lt (V * Y) hM
        have e : (V : Int) * (Y : Int) % (M : Int) = ((V * Y % M : Nat) : Int) := rfl
        rw [e, hZ]
        generalize V * Y % M = k at *
        rw [IntWalk.u64_in _ (by omega)]
        omega
      clear hZ
      have l0 : U < X := by rw [HU.out]; exact Nat.mod_lt R hx0
      have l1 := Nat.mod_lt (T + Z) hM
      have HE : Hid (MA.Eu A M X Y U ((T + Z) % M)) := by
        refine Lib.hid ?_
        rw [HZ.out, HV.out, HU.out, Nat.mod_mul_mod, HQ.out]; exact MA.eu_round A M R T X Y hM HI.out
      go_wp2
      go_quiet (fail)
      go_wp2
      go_roundw
      case rel =>
        exact ⟨_, X, Y, U, (T + Z) % M, rfl, rfl, by simp, by simp, by rw [World.drewN_drewN], by omega, by omega, by omega, by omega, HE⟩
      case measure => simp [intOf]; omega
    · obtain rfl : X = 0 := by omega
      have he := inv_end A M R T Y (by omega) hT HI.out
      clear HI
      by_cases h1 : R = 1
      · have e1 := (he.1 h1).1
        have e2 := (he.1 h1).2
        subst h1
        have H1 := Lib.hid e1
        have H2 := Lib.hid e2
        clear e1 e2 he
        go_wp2
        exact HPP.out _ true n (fun _ => ⟨H1.out.symm, H2.out⟩) (fun h => by cases h)
      · have e1 := (he.2 h1).1
        have e2 := (he.2 h1).2
        have H1 := Lib.hid e1
        have H2 := Lib.hid e2
        have hb : ((R : Int) == 1) = false := by simp; omega
        clear e1 e2 he h1
        go_wp2
        exact HPP.out _ false n (fun h => by cases h) (fun _ => ⟨H1.out, H2.out⟩)

end Go.Proofs.Ytcbanemkjebdcaa
