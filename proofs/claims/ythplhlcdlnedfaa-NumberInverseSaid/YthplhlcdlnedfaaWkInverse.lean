/- The walk over NumberInverse. -/
import Derived.Test.YthplhlcdlnedfaaLawBase
namespace Go.Proofs.Ythplhlcdlnedfaa.numberInverse
open Go.RowKit MN

theorem eu_ex (a m : Nat) (hm : 0 < m) : ∀ x r t y, MA.Eu a m r t x y → ∃ t', (t' * a) % m = Nat.gcd a m % m := by
  intro x
  induction x using Nat.strongRecOn with
  | _ x ih =>
    intro r t y h
    rcases Nat.eq_zero_or_pos x with rfl | hx
    · obtain ⟨h1, h2⟩ := MA.eu_end a m r t y h
      exact ⟨t, by rw [h2, h1]⟩
    · exact ih (r % x) (Nat.mod_lt _ hx) _ _ _ (MA.eu_round a m r t x y hm h)

theorem inv_ex (a m : Nat) (hm : 0 < m) (h : Nat.gcd a m = 1) : ∃ v, MA.IsInv a m v := by
  obtain ⟨t, ht⟩ := eu_ex a m hm _ _ _ _ (MA.eu_start a m)
  refine ⟨t % m, Nat.mod_lt _ hm, ?_, h⟩
  rw [Nat.mod_mul_mod, ht, h]

theorem isB_yes (N : Nat) (h : N = 1) : isB 0 (digs 4294967296 N) [1] = true := ex_is _ _ (by unfold Low; decide) (by unfold Top; decide) (by rw [h]; decide)
theorem isB_no (N : Nat) (h : N ≠ 1) : isB 0 (digs 4294967296 N) [1] = false := by
  show (true && sB (digs 4294967296 N) [1]) = false
  rw [sB_no]; · rfl
  intro e
  have := nv_digs N
  rw [e] at this
  exact h (this.symm.trans (by decide))

/-- What Prime says, where it says anything of a. -/
theorem prime_call (a m : Nat) (h1 : 1 ≤ m) (hg : Nat.gcd a m = 1) : ∃ (p : Bool) (c : Int), (∀ w, Calls Try.prog 39 #[.int .u64 (m : Int)] w fun e w' => e = .returned (.tuple #[.bool p, .int .i64 c]) ∧ w = w') ∧
    (c = 4 ∨ (c = 0 ∧ p = false) ∨ (c = 0 ∧ p = true ∧ ∃ R : Nat, (a : Int) % (m : Int) = (R : Int) ∧ ((R : Int) == 0) = false)) := by
  refine ⟨_, _, fun w => prime_any (m : Int) w (by omega), ?_⟩
  by_cases hb : 1048575 < m
  · exact .inl (by rw [prc, if_pos (by omega)])
  · have hc : prc m = 0 := by rw [prc, if_neg (by omega)]
    have hpb : prb m = prv m := by rw [prb, if_neg (by omega)]
    cases hp : prv m
    · exact .inr (.inl ⟨hc, by rw [hpb, hp]⟩)
    · refine .inr (.inr ⟨hc, by rw [hpb, hp], a % m, rfl, ?_⟩)
      have h2 := (prv_pr m hp).1
      rw [beq_eq_false_iff_ne]
      intro e
      have e' : a % m = 0 := by omega
      have := Nat.gcd_eq_right (Nat.dvd_of_mod_eq_zero e')
      omega

set_option maxRecDepth 100000 in
set_option maxHeartbeats 2000000 in
theorem walkN (a m : Nat) (ha : a ≤ 18446744073709551615) (hm : m ≤ 18446744073709551615) (w : World) :
    Calls Try.prog 16 #[.int .u64 (a : Int), .int .u64 (m : Int)] w fun e w' => e = .returned (.bool true) ∧ Below w.heap.size w w' := by
  have HA := Lib.hid (alive_any w)
  by_cases h : 1 ≤ m ∧ m ≤ 4294967295
  · obtain ⟨h1, h2⟩ := h
    have HI := fun (w : World) => invMod_all (a : Int) (m : Int) w (by omega)
    have HN1 := Lib.hid (fun (w : World) => n_val a (a : Int) w rfl (by omega))
    have HN2 := Lib.hid (fun (w : World) => n_val m (m : Int) w rfl (by omega))
    by_cases hg : Nat.gcd a m = 1
    · obtain ⟨v, hv⟩ := inv_ex a m h1 hg
      have hv1 := hv.1
      have e1 : ivv a m = (v : Int) := ivv_of a m v (by omega) (by omega) (by simpa using hv)
      have e2 : ivc a m = 0 := ivc_of a m (by omega) (by omega) (by simpa using hg)
      rw [e1, e2] at HI
      have V1 := Lib.hid HI
      obtain ⟨p, c, hcall, hcase⟩ := prime_call a m h1 hg
      have V2 := Lib.hid hcall
      have E := Lib.hid (isB_yes _ hg)
      obtain ⟨R, hR⟩ : ∃ R, R = a % m := ⟨_, rfl⟩
      have lR : R < m := by rw [hR]; exact Nat.mod_lt _ h1
      obtain ⟨P, hP⟩ : ∃ P, P = R * v := ⟨_, rfl⟩
      obtain ⟨O, hO⟩ : ∃ O, O = 1 % m := ⟨_, rfl⟩
      have lP : P < 18446744073709551616 := by
        rw [hP]; exact Nat.lt_of_le_of_lt (Nat.mul_le_mul (show R ≤ 4294967294 by omega) (show v ≤ 4294967294 by omega)) (by decide)
      have r1 : (a : Int) % (m : Int) = (R : Int) := by rw [hR]; rfl
      have r2 : IntKind.u64.wrap ((R : Int) * (v : Int)) = (P : Int) := by rw [IntKind.wrap_u64, ← Int.natCast_mul, ← hP]; omega
      have r3 : (P : Int) % (m : Int) = (O : Int) := by
        have : P % m = O := by rw [hP, hO, hR, Nat.mod_mul_mod, Nat.mul_comm, hv.2.1]
        rw [← this]; rfl
      have r4 : (1 : Int) % (m : Int) = (O : Int) := by rw [hO]; rfl
      have hm0 : ((m : Int) == 0) = false := by rw [beq_eq_false_iff_ne]; omega
      clear HI hv e1 e2 hcall hR hP hO
      rcases hcase with rfl | ⟨rfl, rfl⟩ | ⟨rfl, rfl, R', hR', hR0⟩
      case inr.inr =>
        rw [r1] at hR'
        rw [← hR'] at hR0
        clear hR'
        go_enter Try.func16, Try.ntmps16
        go_wp2_with fail
        refine HA.out.mono ?_
        rintro e w1 ⟨rfl, hb1⟩
        go_wp2_with fail
        refine (V1.out w1).mono ?_
        rintro e w2 ⟨rfl, n, rfl⟩
        replace hb1 := below_drewN hb1 n
        generalize w1.drewN n = w2 at hb1 ⊢
        go_wp2_with fail
        refine (HN1.out w2).mono ?_
        rintro e w3 ⟨v1, rfl, o1, hx3⟩
        go_wp2_with fail
        refine (HN2.out w3).mono ?_
        rintro e w4 ⟨v2, rfl, o2, hx4⟩
        replace o1 := o1.keep hx4
        replace o2 := o2.low hx3.size
        go_wp2_with fail
        refine (gcd_n o1 o2 (Nat.lt_of_le_of_lt ha (by decide)) (Nat.lt_of_le_of_lt hm (by decide))).mono ?_
        rintro e w5 ⟨v3, rfl, o3, hx5⟩
        go_wp2_with fail
        refine (is_n o3 0 [1] _ rfl 1 rfl (by decide)).mono ?_
        rintro e w6 ⟨rfl, hx6⟩
        rw [E.out]
        replace hb1 := hb1.trans (hx3.mono hb1.size)
        replace hb1 := hb1.trans (hx4.mono hb1.size)
        replace hb1 := hb1.trans (hx5.mono hb1.size)
        replace hb1 := hb1.trans (hx6.mono hb1.size)
        clear o1 o2 o3 hx3 hx4 hx5 hx6
        go_wp2_with fail
        refine (V2.out w6).mono ?_
        rintro e w7 ⟨rfl, rfl⟩
        go_wp2
        go_quiet (fail)
        go_wp2
        go_ret
        exact ⟨rfl, below_drewN hb1 nq⟩
      case inr.inl =>
        go_enter Try.func16, Try.ntmps16
        go_wp2_with fail
        refine HA.out.mono ?_
        rintro e w1 ⟨rfl, hb1⟩
        go_wp2_with fail
        refine (V1.out w1).mono ?_
        rintro e w2 ⟨rfl, n, rfl⟩
        replace hb1 := below_drewN hb1 n
        generalize w1.drewN n = w2 at hb1 ⊢
        go_wp2_with fail
        refine (HN1.out w2).mono ?_
        rintro e w3 ⟨v1, rfl, o1, hx3⟩
        go_wp2_with fail
        refine (HN2.out w3).mono ?_
        rintro e w4 ⟨v2, rfl, o2, hx4⟩
        replace o1 := o1.keep hx4
        replace o2 := o2.low hx3.size
        go_wp2_with fail
        refine (gcd_n o1 o2 (Nat.lt_of_le_of_lt ha (by decide)) (Nat.lt_of_le_of_lt hm (by decide))).mono ?_
        rintro e w5 ⟨v3, rfl, o3, hx5⟩
        go_wp2_with fail
        refine (is_n o3 0 [1] _ rfl 1 rfl (by decide)).mono ?_
        rintro e w6 ⟨rfl, hx6⟩
        rw [E.out]
        replace hb1 := hb1.trans (hx3.mono hb1.size)
        replace hb1 := hb1.trans (hx4.mono hb1.size)
        replace hb1 := hb1.trans (hx5.mono hb1.size)
        replace hb1 := hb1.trans (hx6.mono hb1.size)
        clear o1 o2 o3 hx3 hx4 hx5 hx6
        go_wp2_with fail
        refine (V2.out w6).mono ?_
        rintro e w7 ⟨rfl, rfl⟩
        go_wp2
        go_quiet (fail)
        go_wp2
        go_ret
        exact ⟨rfl, below_drewN hb1 nq⟩
      all_goals
        cases p
        all_goals
          go_enter Try.func16, Try.ntmps16
          go_wp2_with fail
          refine HA.out.mono ?_
          rintro e w1 ⟨rfl, hb1⟩
          go_wp2_with fail
          refine (V1.out w1).mono ?_
          rintro e w2 ⟨rfl, n, rfl⟩
          replace hb1 := below_drewN hb1 n
          generalize w1.drewN n = w2 at hb1 ⊢
          go_wp2_with fail
          refine (HN1.out w2).mono ?_
          rintro e w3 ⟨v1, rfl, o1, hx3⟩
          go_wp2_with fail
          refine (HN2.out w3).mono ?_
          rintro e w4 ⟨v2, rfl, o2, hx4⟩
          replace o1 := o1.keep hx4
          replace o2 := o2.low hx3.size
          go_wp2_with fail
          refine (gcd_n o1 o2 (Nat.lt_of_le_of_lt ha (by decide)) (Nat.lt_of_le_of_lt hm (by decide))).mono ?_
          rintro e w5 ⟨v3, rfl, o3, hx5⟩
          go_wp2_with fail
          refine (is_n o3 0 [1] _ rfl 1 rfl (by decide)).mono ?_
          rintro e w6 ⟨rfl, hx6⟩
          rw [E.out]
          replace hb1 := hb1.trans (hx3.mono hb1.size)
          replace hb1 := hb1.trans (hx4.mono hb1.size)
          replace hb1 := hb1.trans (hx5.mono hb1.size)
          replace hb1 := hb1.trans (hx6.mono hb1.size)
          clear o1 o2 o3 hx3 hx4 hx5 hx6
          go_wp2_with fail
          refine (V2.out w6).mono ?_
          rintro e w7 ⟨rfl, rfl⟩
          go_wp2
          go_quiet (fail)
          go_wp2
          go_ret
          exact ⟨rfl, below_drewN hb1 nq⟩
    · have e1 : ivv a m = 0 := ivv_none a m (by simpa using hg)
      have e2 : ivc a m = 10 := ivc_none a m (by omega) (by omega) (by simpa using hg)
      rw [e1, e2] at HI
      have V1 := Lib.hid HI
      have E := Lib.hid (isB_no _ hg)
      clear HI hg e1 e2
      go_enter Try.func16, Try.ntmps16
      go_wp2_with fail
      refine HA.out.mono ?_
      rintro e w1 ⟨rfl, hb1⟩
      go_wp2_with fail
      refine (V1.out w1).mono ?_
      rintro e w2 ⟨rfl, n, rfl⟩
      replace hb1 := below_drewN hb1 n
      generalize w1.drewN n = w2 at hb1 ⊢
      go_wp2_with fail
      refine (HN1.out w2).mono ?_
      rintro e w3 ⟨v1, rfl, o1, hx3⟩
      go_wp2_with fail
      refine (HN2.out w3).mono ?_
      rintro e w4 ⟨v2, rfl, o2, hx4⟩
      replace o1 := o1.keep hx4
      replace o2 := o2.low hx3.size
      go_wp2_with fail
      refine (gcd_n o1 o2 (Nat.lt_of_le_of_lt ha (by decide)) (Nat.lt_of_le_of_lt hm (by decide))).mono ?_
      rintro e w5 ⟨v3, rfl, o3, hx5⟩
      go_wp2_with fail
      refine (is_n o3 0 [1] _ rfl 1 rfl (by decide)).mono ?_
      rintro e w6 ⟨rfl, hx6⟩
      rw [E.out]
      replace hb1 := hb1.trans (hx3.mono hb1.size)
      replace hb1 := hb1.trans (hx4.mono hb1.size)
      replace hb1 := hb1.trans (hx5.mono hb1.size)
      replace hb1 := hb1.trans (hx6.mono hb1.size)
      clear o1 o2 o3 hx3 hx4 hx5 hx6
      go_wp2
      go_ret
      exact ⟨rfl, hb1⟩
  · have HX := Lib.hid (fun (w : World) => invMod_all (a : Int) (m : Int) w (by omega))
    have hp : ivc a m = 2 := ivc_bad a m (by omega)
    by_cases h0 : m < 1
    · go_enter Try.func16, Try.ntmps16
      go_wp2_with fail
      refine HA.out.mono ?_
      rintro e w1 ⟨rfl, hb1⟩
      go_wp2_with fail
      refine (HX.out w1).mono ?_
      rintro e w2 ⟨rfl, n, rfl⟩
      go_wp2
      go_ret
      exact ⟨rfl, below_drewN hb1 n⟩
    · have h4 : 4294967296 ≤ m := by omega
      go_enter Try.func16, Try.ntmps16
      go_wp2_with fail
      refine HA.out.mono ?_
      rintro e w1 ⟨rfl, hb1⟩
      go_wp2_with fail
      refine (HX.out w1).mono ?_
      rintro e w2 ⟨rfl, n, rfl⟩
      go_wp2
      go_ret
      exact ⟨rfl, below_drewN hb1 n⟩

theorem walk (a0 : Int) (a1 : Int) (w0 : (Lit.int .u64 a0).wf = true) (w1 : (Lit.int .u64 a1).wf = true) (w : World) :
    Calls Try.prog 16 #[.int .u64 a0, .int .u64 a1] w fun e w' => e = .returned (.bool true) ∧ Below w.heap.size w w' := by
  have b0 := bounds_u64 w0
  have b1 := bounds_u64 w1
  obtain ⟨n0, rfl⟩ := Int.eq_ofNat_of_zero_le b0.1
  obtain ⟨n1, rfl⟩ := Int.eq_ofNat_of_zero_le b1.1
  exact walkN n0 n1 (by omega) (by omega) w
end Go.Proofs.Ythplhlcdlnedfaa.numberInverse
