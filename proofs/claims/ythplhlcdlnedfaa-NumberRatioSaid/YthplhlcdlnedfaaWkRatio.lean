/- The walk over NumberRatio. -/
import Derived.Test.YthplhlcdlnedfaaFraR
namespace Go.Proofs.Ythplhlcdlnedfaa.numberRatio
open Go.RowKit MN

theorem small_lt {w : World} {A : Option Addr} {n c : Nat} {xs : List Nat} (h : Arg w A n c xs) (hn : n ≤ 4) : nv xs < 4294967296 ^ 4 := by
  have h1 := val_lt xs h.low
  rw [h.rd.len] at h1
  exact Nat.lt_of_lt_of_le h1 (Nat.pow_le_pow_right (by omega) hn)
theorem mul_lt8 {a b : Nat} (ha : a < 4294967296 ^ 4) (hb : b < 4294967296 ^ 4) : a * b < 4294967296 ^ 8 := by
  have e := Nat.mul_lt_mul'' ha hb
  rw [← Nat.pow_add] at e; exact e
theorem lt16 {a : Nat} (ha : a < 4294967296 ^ 8) : a < 4294967296 ^ 16 := Nat.lt_of_lt_of_le ha (Nat.pow_le_pow_right (by omega) (by omega))
theorem add_lt16 {a b : Nat} (ha : a < 4294967296 ^ 8) (hb : b < 4294967296 ^ 8) : a + b < 4294967296 ^ 16 := by
  have e : (4294967296 : Nat) ^ 8 + 4294967296 ^ 8 ≤ 4294967296 ^ 16 := by decide
  omega

set_option maxRecDepth 100000 in
set_option maxHeartbeats 2000000 in
theorem walk (a0 : Option Addr) (len0 cap0 : Nat) (z0 : List Int) (a1 : Option Addr) (len1 cap1 : Nat) (z1 : List Int) (a2 : Option Addr) (len2 cap2 : Nat) (z2 : List Int) (a3 : Option Addr) (len3 cap3 : Nat) (z3 : List Int) (w : World) (w0 : IsRow .u32 w a0 len0 cap0 z0) (w1 : IsRow .u32 w a1 len1 cap1 z1) (w2 : IsRow .u32 w a2 len2 cap2 z2) (w3 : IsRow .u32 w a3 len3 cap3 z3) :
    Calls Try.prog 14 #[.slice a0 len0 cap0, .slice a1 len1 cap1, .slice a2 len2 cap2, .slice a3 len3 cap3] w fun e w' => e = .returned (.bool true) ∧ Below w.heap.size w w' := by
  obtain ⟨xs, ax⟩ := arg_of w0
  obtain ⟨ys, ay⟩ := arg_of w1
  obtain ⟨zs, az⟩ := arg_of w2
  obtain ⟨us, au⟩ := arg_of w3
  clear w0 w1 w2 w3
  have HA := Lib.hid (alive_any w)
  cases hx : vB xs
  · have hx' := Lib.hid hx
    clear hx
    go_enter Try.func14, Try.ntmps14
    go_wp2_with fail
    refine HA.out.mono ?_
    rintro e w2 ⟨rfl, hb⟩
    go_wp2_with fail
    refine (valid_v (ax.keep hb) _ hx'.out).mono ?_
    rintro e w3 ⟨rfl, rfl⟩
    go_wp2
    go_ret
    exact ⟨rfl, hb⟩
  · skip
    cases hy : vB ys
    · have hx' := Lib.hid hx
      have hy' := Lib.hid hy
      clear hx hy
      go_enter Try.func14, Try.ntmps14
      go_wp2_with fail
      refine HA.out.mono ?_
      rintro e w2 ⟨rfl, hb⟩
      go_wp2_with fail
      refine (valid_v (ax.keep hb) _ hx'.out).mono ?_
      rintro e w3 ⟨rfl, rfl⟩
      go_wp2_with fail
      refine (valid_v (ay.keep hb) _ hy'.out).mono ?_
      rintro e w3 ⟨rfl, rfl⟩
      go_wp2
      go_ret
      exact ⟨rfl, hb⟩
    · skip
      cases hz : vB zs
      · have hx' := Lib.hid hx
        have hy' := Lib.hid hy
        have hz' := Lib.hid hz
        clear hx hy hz
        go_enter Try.func14, Try.ntmps14
        go_wp2_with fail
        refine HA.out.mono ?_
        rintro e w2 ⟨rfl, hb⟩
        go_wp2_with fail
        refine (valid_v (ax.keep hb) _ hx'.out).mono ?_
        rintro e w3 ⟨rfl, rfl⟩
        go_wp2_with fail
        refine (valid_v (ay.keep hb) _ hy'.out).mono ?_
        rintro e w3 ⟨rfl, rfl⟩
        go_wp2_with fail
        refine (valid_v (az.keep hb) _ hz'.out).mono ?_
        rintro e w3 ⟨rfl, rfl⟩
        go_wp2
        go_ret
        exact ⟨rfl, hb⟩
      · skip
        cases hu : vB us
        · have hx' := Lib.hid hx
          have hy' := Lib.hid hy
          have hz' := Lib.hid hz
          have hu' := Lib.hid hu
          clear hx hy hz hu
          go_enter Try.func14, Try.ntmps14
          go_wp2_with fail
          refine HA.out.mono ?_
          rintro e w2 ⟨rfl, hb⟩
          go_wp2_with fail
          refine (valid_v (ax.keep hb) _ hx'.out).mono ?_
          rintro e w3 ⟨rfl, rfl⟩
          go_wp2_with fail
          refine (valid_v (ay.keep hb) _ hy'.out).mono ?_
          rintro e w3 ⟨rfl, rfl⟩
          go_wp2_with fail
          refine (valid_v (az.keep hb) _ hz'.out).mono ?_
          rintro e w3 ⟨rfl, rfl⟩
          go_wp2_with fail
          refine (valid_v (au.keep hb) _ hu'.out).mono ?_
          rintro e w3 ⟨rfl, rfl⟩
          go_wp2
          go_ret
          exact ⟨rfl, hb⟩
        · skip
          have nx := ax.nm (vB_yes hx)
          have ny := ay.nm (vB_yes hy)
          have nz := az.nm (vB_yes hz)
          have nu := au.nm (vB_yes hu)
          have ly := len_zero ay (vB_yes hy)
          have lu := len_zero au (vB_yes hu)
          have hx' := Lib.hid hx
          have hy' := Lib.hid hy
          have hz' := Lib.hid hz
          have hu' := Lib.hid hu
          clear hx hy hz hu
          by_cases e1 : len1 = 0
          · subst e1
            clear ly lu
            go_enter Try.func14, Try.ntmps14
            go_wp2_with fail
            refine HA.out.mono ?_
            rintro e w2 ⟨rfl, hb⟩
            go_wp2_with fail
            refine (valid_v (ax.keep hb) _ hx'.out).mono ?_
            rintro e w3 ⟨rfl, rfl⟩
            go_wp2_with fail
            refine (valid_v (ay.keep hb) _ hy'.out).mono ?_
            rintro e w3 ⟨rfl, rfl⟩
            go_wp2_with fail
            refine (valid_v (az.keep hb) _ hz'.out).mono ?_
            rintro e w3 ⟨rfl, rfl⟩
            go_wp2_with fail
            refine (valid_v (au.keep hb) _ hu'.out).mono ?_
            rintro e w3 ⟨rfl, rfl⟩
            go_wp2
            go_ret
            exact ⟨rfl, hb⟩
          have q1 : ((len1 : Int) == 0) = false := by rw [beq_eq_false_iff_ne]; omega
          by_cases e3 : len3 = 0
          · subst e3
            clear ly lu
            go_enter Try.func14, Try.ntmps14
            go_wp2_with fail
            refine HA.out.mono ?_
            rintro e w2 ⟨rfl, hb⟩
            go_wp2_with fail
            refine (valid_v (ax.keep hb) _ hx'.out).mono ?_
            rintro e w3 ⟨rfl, rfl⟩
            go_wp2_with fail
            refine (valid_v (ay.keep hb) _ hy'.out).mono ?_
            rintro e w3 ⟨rfl, rfl⟩
            go_wp2_with fail
            refine (valid_v (az.keep hb) _ hz'.out).mono ?_
            rintro e w3 ⟨rfl, rfl⟩
            go_wp2_with fail
            refine (valid_v (au.keep hb) _ hu'.out).mono ?_
            rintro e w3 ⟨rfl, rfl⟩
            go_wp2
            go_ret
            exact ⟨rfl, hb⟩
          have q3 : ((len3 : Int) == 0) = false := by rw [beq_eq_false_iff_ne]; omega
          by_cases g0 : 4 < len0
          · clear ly lu
            go_enter Try.func14, Try.ntmps14
            go_wp2_with fail
            refine HA.out.mono ?_
            rintro e w2 ⟨rfl, hb⟩
            go_wp2_with fail
            refine (valid_v (ax.keep hb) _ hx'.out).mono ?_
            rintro e w3 ⟨rfl, rfl⟩
            go_wp2_with fail
            refine (valid_v (ay.keep hb) _ hy'.out).mono ?_
            rintro e w3 ⟨rfl, rfl⟩
            go_wp2_with fail
            refine (valid_v (az.keep hb) _ hz'.out).mono ?_
            rintro e w3 ⟨rfl, rfl⟩
            go_wp2_with fail
            refine (valid_v (au.keep hb) _ hu'.out).mono ?_
            rintro e w3 ⟨rfl, rfl⟩
            go_wp2
            go_ret
            exact ⟨rfl, hb⟩
          replace g0 : len0 ≤ 4 := by omega
          by_cases g1 : 4 < len1
          · clear ly lu
            go_enter Try.func14, Try.ntmps14
            go_wp2_with fail
            refine HA.out.mono ?_
            rintro e w2 ⟨rfl, hb⟩
            go_wp2_with fail
            refine (valid_v (ax.keep hb) _ hx'.out).mono ?_
            rintro e w3 ⟨rfl, rfl⟩
            go_wp2_with fail
            refine (valid_v (ay.keep hb) _ hy'.out).mono ?_
            rintro e w3 ⟨rfl, rfl⟩
            go_wp2_with fail
            refine (valid_v (az.keep hb) _ hz'.out).mono ?_
            rintro e w3 ⟨rfl, rfl⟩
            go_wp2_with fail
            refine (valid_v (au.keep hb) _ hu'.out).mono ?_
            rintro e w3 ⟨rfl, rfl⟩
            go_wp2
            go_ret
            exact ⟨rfl, hb⟩
          replace g1 : len1 ≤ 4 := by omega
          by_cases g2 : 4 < len2
          · clear ly lu
            go_enter Try.func14, Try.ntmps14
            go_wp2_with fail
            refine HA.out.mono ?_
            rintro e w2 ⟨rfl, hb⟩
            go_wp2_with fail
            refine (valid_v (ax.keep hb) _ hx'.out).mono ?_
            rintro e w3 ⟨rfl, rfl⟩
            go_wp2_with fail
            refine (valid_v (ay.keep hb) _ hy'.out).mono ?_
            rintro e w3 ⟨rfl, rfl⟩
            go_wp2_with fail
            refine (valid_v (az.keep hb) _ hz'.out).mono ?_
            rintro e w3 ⟨rfl, rfl⟩
            go_wp2_with fail
            refine (valid_v (au.keep hb) _ hu'.out).mono ?_
            rintro e w3 ⟨rfl, rfl⟩
            go_wp2
            go_ret
            exact ⟨rfl, hb⟩
          replace g2 : len2 ≤ 4 := by omega
          by_cases g3 : 4 < len3
          · clear ly lu
            go_enter Try.func14, Try.ntmps14
            go_wp2_with fail
            refine HA.out.mono ?_
            rintro e w2 ⟨rfl, hb⟩
            go_wp2_with fail
            refine (valid_v (ax.keep hb) _ hx'.out).mono ?_
            rintro e w3 ⟨rfl, rfl⟩
            go_wp2_with fail
            refine (valid_v (ay.keep hb) _ hy'.out).mono ?_
            rintro e w3 ⟨rfl, rfl⟩
            go_wp2_with fail
            refine (valid_v (az.keep hb) _ hz'.out).mono ?_
            rintro e w3 ⟨rfl, rfl⟩
            go_wp2_with fail
            refine (valid_v (au.keep hb) _ hu'.out).mono ?_
            rintro e w3 ⟨rfl, rfl⟩
            go_wp2
            go_ret
            exact ⟨rfl, hb⟩
          replace g3 : len3 ≤ 4 := by omega
          have hY : nv ys ≠ 0 := fun e => e1 (ly.2 e)
          have hU : nv us ≠ 0 := fun e => e3 (lu.2 e)
          have bX := small_lt ax g0
          have bY := small_lt ay g1
          have bZ := small_lt az g2
          have bU := small_lt au g3
          clear ly lu e1 e3
          obtain ⟨X, hXv⟩ : ∃ t, t = nv xs := ⟨_, rfl⟩
          rw [← hXv] at nx bX
          obtain ⟨Y, hYv⟩ : ∃ t, t = nv ys := ⟨_, rfl⟩
          rw [← hYv] at ny bY
          obtain ⟨Z, hZv⟩ : ∃ t, t = nv zs := ⟨_, rfl⟩
          rw [← hZv] at nz bZ
          obtain ⟨U, hUv⟩ : ∃ t, t = nv us := ⟨_, rfl⟩
          rw [← hUv] at nu bU
          rw [← hYv] at hY
          rw [← hUv] at hU
          clear hXv hYv hZv hUv
          have F1 := fit_yes (lt16 (mul_lt8 bX bU))
          have F2 := fit_yes (lt16 (mul_lt8 bZ bY))
          have F3 := fit_yes (lt16 (mul_lt8 bY bU))
          have F4 := fit_yes (lt16 (mul_lt8 bX bZ))
          have F5 := fit_yes (add_lt16 (mul_lt8 bX bU) (mul_lt8 bZ bY))
          obtain ⟨G1, P1, X1, Y1, k1⟩ := co_of X Y hY
          obtain ⟨G2, P2, Z1, U1, k2⟩ := co_of Z U hU
          obtain ⟨N1, hN1⟩ : ∃ t, t = X / Nat.gcd X Y := ⟨_, rfl⟩
          obtain ⟨D1, hD1⟩ : ∃ t, t = Y / Nat.gcd X Y := ⟨_, rfl⟩
          obtain ⟨N2, hN2⟩ : ∃ t, t = Z / Nat.gcd Z U := ⟨_, rfl⟩
          obtain ⟨D2, hD2⟩ : ∃ t, t = U / Nat.gcd Z U := ⟨_, rfl⟩
          rw [← hN1, ← hD1] at G1
          rw [← hN2, ← hD2] at G2
          rw [← hD1] at P1 Y1
          rw [← hD2] at P2 U1
          rw [← hN1] at X1
          rw [← hN2] at Z1
          obtain ⟨s, hs⟩ : ∃ t, t = Nat.gcd X Y := ⟨_, rfl⟩
          obtain ⟨t, ht⟩ : ∃ t, t = Nat.gcd Z U := ⟨_, rfl⟩
          rw [← hs] at X1 Y1 k1
          rw [← ht] at Z1 U1 k2
          have kk : s * t ≠ 0 := Nat.mul_ne_zero k1 k2
          have E1 : X * U = s * t * (N1 * D2) := by rw [X1, U1]; simp only [Nat.mul_left_comm, Nat.mul_comm]
          have E2 : Z * Y = s * t * (N2 * D1) := by rw [Z1, Y1]; simp only [Nat.mul_left_comm, Nat.mul_comm]
          have E3 : Y * U = s * t * (D1 * D2) := by rw [Y1, U1]; simp only [Nat.mul_left_comm, Nat.mul_comm]
          have E4 : X * Z = s * t * (N1 * N2) := by rw [X1, Z1]; simp only [Nat.mul_left_comm, Nat.mul_comm]
          have E5 : X * U + Z * Y = s * t * (N1 * D2 + N2 * D1) := by rw [E1, E2, Nat.mul_add]
          have lN1 : N1 < 4294967296 ^ 4 := by rw [hN1]; exact Nat.lt_of_le_of_lt (Nat.div_le_self _ _) bX
          have lD1 : D1 < 4294967296 ^ 4 := by rw [hD1]; exact Nat.lt_of_le_of_lt (Nat.div_le_self _ _) bY
          have lN2 : N2 < 4294967296 ^ 4 := by rw [hN2]; exact Nat.lt_of_le_of_lt (Nat.div_le_self _ _) bZ
          have lD2 : D2 < 4294967296 ^ 4 := by rw [hD2]; exact Nat.lt_of_le_of_lt (Nat.div_le_self _ _) bU
          have L1 : N1 * D2 + N2 * D1 < 4294967296 ^ 16 := add_lt16 (mul_lt8 lN1 lD2) (mul_lt8 lN2 lD1)
          have L2 : D1 * D2 < 4294967296 ^ 16 := lt16 (mul_lt8 lD1 lD2)
          have L3 : N1 * N2 < 4294967296 ^ 16 := lt16 (mul_lt8 lN1 lN2)
          have hYU : Y * U ≠ 0 := Nat.mul_ne_zero hY hU
          obtain ⟨O, hO⟩ : ∃ O, O = ordv (N1 * D2) (N2 * D1) := ⟨_, rfl⟩
          have EO : ordv (X * U) (Z * Y) = O := by rw [E1, E2, ordv_scale _ _ _ kk, hO]
          have HR1 : ∀ {v w}, Nm w v (X / Nat.gcd X Y) → Nm w v N1 := fun h => by rw [hN1]; exact h
          have S1 : (N1 * D2 + N2 * D1) / Nat.gcd (N1 * D2 + N2 * D1) (D1 * D2) = (X * U + Z * Y) / Nat.gcd (X * U + Z * Y) (Y * U) := by rw [E5, E3]; exact (red_scale _ _ _ kk).1.symm
          have S2 : D1 * D2 / Nat.gcd (N1 * D2 + N2 * D1) (D1 * D2) = Y * U / Nat.gcd (X * U + Z * Y) (Y * U) := by rw [E5, E3]; exact (red_scale _ _ _ kk).2.symm
          have S3 : N1 * N2 / Nat.gcd (N1 * N2) (D1 * D2) = X * Z / Nat.gcd (X * Z) (Y * U) := by rw [E4, E3]; exact (red_scale _ _ _ kk).1.symm
          have S4 : D1 * D2 / Nat.gcd (N1 * N2) (D1 * D2) = Y * U / Nat.gcd (X * Z) (Y * U) := by rw [E4, E3]; exact (red_scale _ _ _ kk).2.symm
          have hq := fr_eq N1 D1 N2 D2 G1 G2 P1 P2
          have hz0 := ordv_zero (N1 * D2) (N2 * D1)
          rw [← hO] at hz0
          replace S1 := Lib.hid S1
          replace S2 := Lib.hid S2
          replace S3 := Lib.hid S3
          replace S4 := Lib.hid S4
          replace EO := Lib.hid EO
          have HN1 := Lib.hid hN1
          have HD1 := Lib.hid hD1
          have HN2 := Lib.hid hN2
          have HD2 := Lib.hid hD2
          have HO := Lib.hid hO
          clear hN1 hD1 hN2 hD2 hO X1 Y1 Z1 U1 k1 k2 hs ht kk E1 E2 E3 E4 E5 lN1 lD1 lN2 lD2 HR1 bX bY bZ bU
          by_cases Q : N1 = N2 ∧ D1 = D2
          · have hO0 : O = 0 := hz0.2 (hq.2 Q)
            have hOb : (O == 0) = true := by rw [hO0]; rfl
            clear hz0 hq hO0
            replace Q := Lib.hid Q
            go_enter Try.func14, Try.ntmps14
            go_wp2_with fail
            refine HA.out.mono ?_
            rintro e w2 ⟨rfl, hb⟩
            go_wp2_with fail
            refine (valid_v (ax.keep hb) _ hx'.out).mono ?_
            rintro e w3 ⟨rfl, rfl⟩
            go_wp2_with fail
            refine (valid_v (ay.keep hb) _ hy'.out).mono ?_
            rintro e w3 ⟨rfl, rfl⟩
            go_wp2_with fail
            refine (valid_v (az.keep hb) _ hz'.out).mono ?_
            rintro e w3 ⟨rfl, rfl⟩
            go_wp2_with fail
            refine (valid_v (au.keep hb) _ hu'.out).mono ?_
            rintro e w3 ⟨rfl, rfl⟩
            replace nx := nx.keep hb
            replace ny := ny.keep hb
            replace nz := nz.keep hb
            replace nu := nu.keep hb
            go_wp2_with fail
            refine (ratio_v nx ny hY).mono ?_
            rw [← HN1.out, ← HD1.out]
            rintro e w5 ⟨Ax, nnx, ccx, Bx, mmx, ddx, rfl, kx, lx, hc⟩
            replace nx := nx.keep hc
            replace ny := ny.keep hc
            replace nz := nz.keep hc
            replace nu := nu.keep hc
            replace hb := hb.trans (hc.mono hb.size)
            clear hc
            have vx := varAt_new w5 (.slice Ax nnx ccx) (.slice Bx mmx ddx)
            have hc := below_alloc w5 (.cells #[.slice Ax nnx ccx, .slice Bx mmx ddx] 38)
            obtain ⟨Rx, hRx⟩ : ∃ R, R = w5.heap.size := ⟨_, rfl⟩
            rw [← hRx] at vx
            skip
            go_wp2_with fail
            rw [← hRx]
            generalize w5.alloc (.cells #[.slice Ax nnx ccx, .slice Bx mmx ddx] 38) = w6 at hc vx ⊢
            replace nx := nx.keep hc
            replace ny := ny.keep hc
            replace nz := nz.keep hc
            replace nu := nu.keep hc
            replace kx := kx.keep hc
            replace lx := lx.keep hc
            replace hb := hb.trans (hc.mono hb.size)
            clear hc hRx
            refine (ratio_v nz nu hU).mono ?_
            rw [← HN2.out, ← HD2.out]
            rintro e w7 ⟨Ay, nny, ccy, By, mmy, ddy, rfl, ky, ly, hc⟩
            replace nx := nx.keep hc
            replace ny := ny.keep hc
            replace nz := nz.keep hc
            replace nu := nu.keep hc
            replace kx := kx.keep hc
            replace lx := lx.keep hc
            replace vx := vx.keep hc
            replace hb := hb.trans (hc.mono hb.size)
            clear hc
            have vy := varAt_new w7 (.slice Ay nny ccy) (.slice By mmy ddy)
            have hc := below_alloc w7 (.cells #[.slice Ay nny ccy, .slice By mmy ddy] 38)
            obtain ⟨Ry, hRy⟩ : ∃ R, R = w7.heap.size := ⟨_, rfl⟩
            rw [← hRy] at vy
            skip
            go_wp2_with fail
            rw [← hRy]
            generalize w7.alloc (.cells #[.slice Ay nny ccy, .slice By mmy ddy] 38) = w8 at hc vy ⊢
            replace nx := nx.keep hc
            replace ny := ny.keep hc
            replace nz := nz.keep hc
            replace nu := nu.keep hc
            replace kx := kx.keep hc
            replace lx := lx.keep hc
            replace vx := vx.keep hc
            replace ky := ky.keep hc
            replace ly := ly.keep hc
            replace hb := hb.trans (hc.mono hb.size)
            clear hc hRy
            refine (mul_v nx nu).mono ?_
            rw [F1.1, F1.2]
            rintro e w9 ⟨p, rfl, np, hc⟩
            replace nx := nx.keep hc
            replace ny := ny.keep hc
            replace nz := nz.keep hc
            replace nu := nu.keep hc
            replace kx := kx.keep hc
            replace lx := lx.keep hc
            replace vx := vx.keep hc
            replace ky := ky.keep hc
            replace ly := ly.keep hc
            replace vy := vy.keep hc
            replace hb := hb.trans (hc.mono hb.size)
            clear hc
            go_wp2_with fail
            refine (mul_v nz ny).mono ?_
            rw [F2.1, F2.2]
            rintro e w10 ⟨q, rfl, nq, hc⟩
            replace nx := nx.keep hc
            replace ny := ny.keep hc
            replace nz := nz.keep hc
            replace nu := nu.keep hc
            replace kx := kx.keep hc
            replace lx := lx.keep hc
            replace vx := vx.keep hc
            replace ky := ky.keep hc
            replace ly := ly.keep hc
            replace vy := vy.keep hc
            replace np := np.keep hc
            replace hb := hb.trans (hc.mono hb.size)
            clear hc
            go_wp2_with fail
            refine (mul_v ny nu).mono ?_
            rw [F3.1, F3.2]
            rintro e w11 ⟨bd, rfl, nbd, hc⟩
            replace nx := nx.keep hc
            replace ny := ny.keep hc
            replace nz := nz.keep hc
            replace nu := nu.keep hc
            replace kx := kx.keep hc
            replace lx := lx.keep hc
            replace vx := vx.keep hc
            replace ky := ky.keep hc
            replace ly := ly.keep hc
            replace vy := vy.keep hc
            replace np := np.keep hc
            replace nq := nq.keep hc
            replace hb := hb.trans (hc.mono hb.size)
            clear hc
            go_wp2_with fail
            refine (mul_v nx nz).mono ?_
            rw [F4.1, F4.2]
            rintro e w12 ⟨ac, rfl, nac, hc⟩
            replace nx := nx.keep hc
            replace ny := ny.keep hc
            replace nz := nz.keep hc
            replace nu := nu.keep hc
            replace kx := kx.keep hc
            replace lx := lx.keep hc
            replace vx := vx.keep hc
            replace ky := ky.keep hc
            replace ly := ly.keep hc
            replace vy := vy.keep hc
            replace np := np.keep hc
            replace nq := nq.keep hc
            replace nbd := nbd.keep hc
            replace hb := hb.trans (hc.mono hb.size)
            clear hc
            go_wp2_with fail
            refine (add_v np nq).mono ?_
            rw [F5.1, F5.2]
            rintro e w13 ⟨sm, rfl, nsm, hc⟩
            replace nx := nx.keep hc
            replace ny := ny.keep hc
            replace nz := nz.keep hc
            replace nu := nu.keep hc
            replace kx := kx.keep hc
            replace lx := lx.keep hc
            replace vx := vx.keep hc
            replace ky := ky.keep hc
            replace ly := ly.keep hc
            replace vy := vy.keep hc
            replace np := np.keep hc
            replace nq := nq.keep hc
            replace nbd := nbd.keep hc
            replace nac := nac.keep hc
            replace hb := hb.trans (hc.mono hb.size)
            clear hc
            have cx0 := vx.1.c0
            have cx1 := vx.1.c1
            have cy0 := vy.1.c0
            have cy1 := vy.1.c1
            go_wp2_with fail
            refine (checkFr_v ⟨kx, lx, G1, P1⟩).mono ?_
            rintro e w14 ⟨rfl, hc⟩
            replace nx := nx.keep hc
            replace ny := ny.keep hc
            replace nz := nz.keep hc
            replace nu := nu.keep hc
            replace kx := kx.keep hc
            replace lx := lx.keep hc
            replace vx := vx.keep hc
            replace ky := ky.keep hc
            replace ly := ly.keep hc
            replace vy := vy.keep hc
            replace np := np.keep hc
            replace nq := nq.keep hc
            replace nbd := nbd.keep hc
            replace nac := nac.keep hc
            replace nsm := nsm.keep hc
            replace hb := hb.trans (hc.mono hb.size)
            clear hc
            clear cx0 cx1
            clear cy0 cy1
            have cx0 := vx.1.c0
            have cx1 := vx.1.c1
            have cy0 := vy.1.c0
            have cy1 := vy.1.c1
            go_wp2_with fail
            refine (checkFr_v ⟨ky, ly, G2, P2⟩).mono ?_
            rintro e w15 ⟨rfl, hc⟩
            replace nx := nx.keep hc
            replace ny := ny.keep hc
            replace nz := nz.keep hc
            replace nu := nu.keep hc
            replace kx := kx.keep hc
            replace lx := lx.keep hc
            replace vx := vx.keep hc
            replace ky := ky.keep hc
            replace ly := ly.keep hc
            replace vy := vy.keep hc
            replace np := np.keep hc
            replace nq := nq.keep hc
            replace nbd := nbd.keep hc
            replace nac := nac.keep hc
            replace nsm := nsm.keep hc
            replace hb := hb.trans (hc.mono hb.size)
            clear hc
            clear cx0 cx1
            clear cy0 cy1
            have cx0 := vx.1.c0
            have cx1 := vx.1.c1
            have cy0 := vy.1.c0
            have cy1 := vy.1.c1
            go_wp2_with fail
            refine (cmpFr_v _ _ _ _ _ _ _ _ _ ⟨kx, lx, G1, P1⟩ ⟨ky, ly, G2, P2⟩).mono ?_
            rw [← HO.out]
            rintro e w16 ⟨rfl, hc⟩
            replace nx := nx.keep hc
            replace ny := ny.keep hc
            replace nz := nz.keep hc
            replace nu := nu.keep hc
            replace kx := kx.keep hc
            replace lx := lx.keep hc
            replace vx := vx.keep hc
            replace ky := ky.keep hc
            replace ly := ly.keep hc
            replace vy := vy.keep hc
            replace np := np.keep hc
            replace nq := nq.keep hc
            replace nbd := nbd.keep hc
            replace nac := nac.keep hc
            replace nsm := nsm.keep hc
            replace hb := hb.trans (hc.mono hb.size)
            clear hc
            clear cx0 cx1
            clear cy0 cy1
            have cx0 := vx.1.c0
            have cx1 := vx.1.c1
            have cy0 := vy.1.c0
            have cy1 := vy.1.c1
            go_wp2_with fail
            refine (compare_v np nq).mono ?_
            rw [EO.out]
            rintro e w17 ⟨rfl, hc⟩
            replace nx := nx.keep hc
            replace ny := ny.keep hc
            replace nz := nz.keep hc
            replace nu := nu.keep hc
            replace kx := kx.keep hc
            replace lx := lx.keep hc
            replace vx := vx.keep hc
            replace ky := ky.keep hc
            replace ly := ly.keep hc
            replace vy := vy.keep hc
            replace np := np.keep hc
            replace nq := nq.keep hc
            replace nbd := nbd.keep hc
            replace nac := nac.keep hc
            replace nsm := nsm.keep hc
            replace hb := hb.trans (hc.mono hb.size)
            clear hc
            clear cx0 cx1
            clear cy0 cy1
            have cx0 := vx.1.c0
            have cx1 := vx.1.c1
            have cy0 := vy.1.c0
            have cy1 := vy.1.c1
            go_wp2_with fail
            refine (sameFr_yes kx lx ky ly Q.out.1 Q.out.2).mono ?_
            rintro e w18 ⟨rfl, hc⟩
            replace nx := nx.keep hc
            replace ny := ny.keep hc
            replace nz := nz.keep hc
            replace nu := nu.keep hc
            replace kx := kx.keep hc
            replace lx := lx.keep hc
            replace vx := vx.keep hc
            replace ky := ky.keep hc
            replace ly := ly.keep hc
            replace vy := vy.keep hc
            replace np := np.keep hc
            replace nq := nq.keep hc
            replace nbd := nbd.keep hc
            replace nac := nac.keep hc
            replace nsm := nsm.keep hc
            replace hb := hb.trans (hc.mono hb.size)
            clear hc
            clear cx0 cx1
            clear cy0 cy1
            have cx0 := vx.1.c0
            have cx1 := vx.1.c1
            have cy0 := vy.1.c0
            have cy1 := vy.1.c1
            go_wp2_with fail
            refine (addFr_w ⟨kx, lx, G1, P1⟩ ⟨ky, ly, G2, P2⟩ L1 L2).mono ?_
            rintro e w19 ⟨As, nns, ccs, Bs, mms, dds, rfl, ks, ls, hc⟩
            replace nx := nx.keep hc
            replace ny := ny.keep hc
            replace nz := nz.keep hc
            replace nu := nu.keep hc
            replace kx := kx.keep hc
            replace lx := lx.keep hc
            replace vx := vx.keep hc
            replace ky := ky.keep hc
            replace ly := ly.keep hc
            replace vy := vy.keep hc
            replace np := np.keep hc
            replace nq := nq.keep hc
            replace nbd := nbd.keep hc
            replace nac := nac.keep hc
            replace nsm := nsm.keep hc
            replace hb := hb.trans (hc.mono hb.size)
            clear hc
            have vs := varAt_new w19 (.slice As nns ccs) (.slice Bs mms dds)
            have hc := below_alloc w19 (.cells #[.slice As nns ccs, .slice Bs mms dds] 38)
            obtain ⟨Rs, hRs⟩ : ∃ R, R = w19.heap.size := ⟨_, rfl⟩
            rw [← hRs] at vs
            skip
            go_wp2_with fail
            rw [← hRs]
            generalize w19.alloc (.cells #[.slice As nns ccs, .slice Bs mms dds] 38) = w20 at hc vs ⊢
            replace nx := nx.keep hc
            replace ny := ny.keep hc
            replace nz := nz.keep hc
            replace nu := nu.keep hc
            replace kx := kx.keep hc
            replace lx := lx.keep hc
            replace vx := vx.keep hc
            replace ky := ky.keep hc
            replace ly := ly.keep hc
            replace vy := vy.keep hc
            replace np := np.keep hc
            replace nq := nq.keep hc
            replace nbd := nbd.keep hc
            replace nac := nac.keep hc
            replace nsm := nsm.keep hc
            replace ks := ks.keep hc
            replace ls := ls.keep hc
            replace hb := hb.trans (hc.mono hb.size)
            clear hc hRs
            clear cx0 cx1
            clear cy0 cy1
            refine (ratio_v nsm nbd hYU).mono ?_
            rintro e w21 ⟨At, nnt, cct, Bt, mmt, ddt, rfl, kt, lt, hc⟩
            replace nx := nx.keep hc
            replace ny := ny.keep hc
            replace nz := nz.keep hc
            replace nu := nu.keep hc
            replace kx := kx.keep hc
            replace lx := lx.keep hc
            replace vx := vx.keep hc
            replace ky := ky.keep hc
            replace ly := ly.keep hc
            replace vy := vy.keep hc
            replace np := np.keep hc
            replace nq := nq.keep hc
            replace nbd := nbd.keep hc
            replace nac := nac.keep hc
            replace nsm := nsm.keep hc
            replace ks := ks.keep hc
            replace ls := ls.keep hc
            replace vs := vs.keep hc
            replace hb := hb.trans (hc.mono hb.size)
            clear hc
            have vt := varAt_new w21 (.slice At nnt cct) (.slice Bt mmt ddt)
            have hc := below_alloc w21 (.cells #[.slice At nnt cct, .slice Bt mmt ddt] 38)
            obtain ⟨Rt, hRt⟩ : ∃ R, R = w21.heap.size := ⟨_, rfl⟩
            rw [← hRt] at vt
            skip
            have cx0 := (VarAt.keep vx hc).1.c0
            have cx1 := (VarAt.keep vx hc).1.c1
            have cy0 := (VarAt.keep vy hc).1.c0
            have cy1 := (VarAt.keep vy hc).1.c1
            go_wp2_with fail
            clear cx0 cx1
            clear cy0 cy1
            rw [← hRt]
            generalize w21.alloc (.cells #[.slice At nnt cct, .slice Bt mmt ddt] 38) = w22 at hc vt ⊢
            replace nx := nx.keep hc
            replace ny := ny.keep hc
            replace nz := nz.keep hc
            replace nu := nu.keep hc
            replace kx := kx.keep hc
            replace lx := lx.keep hc
            replace vx := vx.keep hc
            replace ky := ky.keep hc
            replace ly := ly.keep hc
            replace vy := vy.keep hc
            replace np := np.keep hc
            replace nq := nq.keep hc
            replace nbd := nbd.keep hc
            replace nac := nac.keep hc
            replace nsm := nsm.keep hc
            replace ks := ks.keep hc
            replace ls := ls.keep hc
            replace vs := vs.keep hc
            replace kt := kt.keep hc
            replace lt := lt.keep hc
            replace hb := hb.trans (hc.mono hb.size)
            clear hc hRt
            refine (mulFr_w ⟨kx, lx, G1, P1⟩ ⟨ky, ly, G2, P2⟩ L3 L2).mono ?_
            rintro e w23 ⟨Am, nnm, ccm, Bm, mmm, ddm, rfl, km, lm, hc⟩
            replace nx := nx.keep hc
            replace ny := ny.keep hc
            replace nz := nz.keep hc
            replace nu := nu.keep hc
            replace kx := kx.keep hc
            replace lx := lx.keep hc
            replace vx := vx.keep hc
            replace ky := ky.keep hc
            replace ly := ly.keep hc
            replace vy := vy.keep hc
            replace np := np.keep hc
            replace nq := nq.keep hc
            replace nbd := nbd.keep hc
            replace nac := nac.keep hc
            replace nsm := nsm.keep hc
            replace ks := ks.keep hc
            replace ls := ls.keep hc
            replace vs := vs.keep hc
            replace kt := kt.keep hc
            replace lt := lt.keep hc
            replace vt := vt.keep hc
            replace hb := hb.trans (hc.mono hb.size)
            clear hc
            have vm := varAt_new w23 (.slice Am nnm ccm) (.slice Bm mmm ddm)
            have hc := below_alloc w23 (.cells #[.slice Am nnm ccm, .slice Bm mmm ddm] 38)
            obtain ⟨Rm, hRm⟩ : ∃ R, R = w23.heap.size := ⟨_, rfl⟩
            rw [← hRm] at vm
            skip
            go_wp2_with fail
            rw [← hRm]
            generalize w23.alloc (.cells #[.slice Am nnm ccm, .slice Bm mmm ddm] 38) = w24 at hc vm ⊢
            replace nx := nx.keep hc
            replace ny := ny.keep hc
            replace nz := nz.keep hc
            replace nu := nu.keep hc
            replace kx := kx.keep hc
            replace lx := lx.keep hc
            replace vx := vx.keep hc
            replace ky := ky.keep hc
            replace ly := ly.keep hc
            replace vy := vy.keep hc
            replace np := np.keep hc
            replace nq := nq.keep hc
            replace nbd := nbd.keep hc
            replace nac := nac.keep hc
            replace nsm := nsm.keep hc
            replace ks := ks.keep hc
            replace ls := ls.keep hc
            replace vs := vs.keep hc
            replace kt := kt.keep hc
            replace lt := lt.keep hc
            replace vt := vt.keep hc
            replace km := km.keep hc
            replace lm := lm.keep hc
            replace hb := hb.trans (hc.mono hb.size)
            clear hc hRm
            refine (ratio_v nac nbd hYU).mono ?_
            rintro e w25 ⟨An, nnn, ccn, Bn, mmn, ddn, rfl, kn, ln, hc⟩
            replace nx := nx.keep hc
            replace ny := ny.keep hc
            replace nz := nz.keep hc
            replace nu := nu.keep hc
            replace kx := kx.keep hc
            replace lx := lx.keep hc
            replace vx := vx.keep hc
            replace ky := ky.keep hc
            replace ly := ly.keep hc
            replace vy := vy.keep hc
            replace np := np.keep hc
            replace nq := nq.keep hc
            replace nbd := nbd.keep hc
            replace nac := nac.keep hc
            replace nsm := nsm.keep hc
            replace ks := ks.keep hc
            replace ls := ls.keep hc
            replace vs := vs.keep hc
            replace kt := kt.keep hc
            replace lt := lt.keep hc
            replace vt := vt.keep hc
            replace km := km.keep hc
            replace lm := lm.keep hc
            replace vm := vm.keep hc
            replace hb := hb.trans (hc.mono hb.size)
            clear hc
            have vn := varAt_new w25 (.slice An nnn ccn) (.slice Bn mmn ddn)
            have hc := below_alloc w25 (.cells #[.slice An nnn ccn, .slice Bn mmn ddn] 38)
            obtain ⟨Rn, hRn⟩ : ∃ R, R = w25.heap.size := ⟨_, rfl⟩
            rw [← hRn] at vn
            skip
            have hn_ : True := trivial
            have cs0 := (VarAt.keep vs hc).1.c0
            have cs1 := (VarAt.keep vs hc).1.c1
            have ct0 := (VarAt.keep vt hc).1.c0
            have ct1 := (VarAt.keep vt hc).1.c1
            go_wp2_with fail
            clear cs0 cs1
            clear ct0 ct1
            rw [← hRn]
            generalize w25.alloc (.cells #[.slice An nnn ccn, .slice Bn mmn ddn] 38) = w26 at hc vn ⊢
            replace nx := nx.keep hc
            replace ny := ny.keep hc
            replace nz := nz.keep hc
            replace nu := nu.keep hc
            replace kx := kx.keep hc
            replace lx := lx.keep hc
            replace vx := vx.keep hc
            replace ky := ky.keep hc
            replace ly := ly.keep hc
            replace vy := vy.keep hc
            replace np := np.keep hc
            replace nq := nq.keep hc
            replace nbd := nbd.keep hc
            replace nac := nac.keep hc
            replace nsm := nsm.keep hc
            replace ks := ks.keep hc
            replace ls := ls.keep hc
            replace vs := vs.keep hc
            replace kt := kt.keep hc
            replace lt := lt.keep hc
            replace vt := vt.keep hc
            replace km := km.keep hc
            replace lm := lm.keep hc
            replace vm := vm.keep hc
            replace kn := kn.keep hc
            replace ln := ln.keep hc
            replace hb := hb.trans (hc.mono hb.size)
            clear hc hRn
            refine (sameFr_yes ks ls kt lt S1.out S2.out).mono ?_
            rintro e w27 ⟨rfl, hc⟩
            replace nx := nx.keep hc
            replace ny := ny.keep hc
            replace nz := nz.keep hc
            replace nu := nu.keep hc
            replace kx := kx.keep hc
            replace lx := lx.keep hc
            replace vx := vx.keep hc
            replace ky := ky.keep hc
            replace ly := ly.keep hc
            replace vy := vy.keep hc
            replace np := np.keep hc
            replace nq := nq.keep hc
            replace nbd := nbd.keep hc
            replace nac := nac.keep hc
            replace nsm := nsm.keep hc
            replace ks := ks.keep hc
            replace ls := ls.keep hc
            replace vs := vs.keep hc
            replace kt := kt.keep hc
            replace lt := lt.keep hc
            replace vt := vt.keep hc
            replace km := km.keep hc
            replace lm := lm.keep hc
            replace vm := vm.keep hc
            replace kn := kn.keep hc
            replace ln := ln.keep hc
            replace vn := vn.keep hc
            replace hb := hb.trans (hc.mono hb.size)
            clear hc
            have cm0 := vm.1.c0
            have cm1 := vm.1.c1
            have cn0 := vn.1.c0
            have cn1 := vn.1.c1
            go_wp2_with fail
            refine (sameFr_yes km lm kn ln S3.out S4.out).mono ?_
            rintro e w28 ⟨rfl, hc⟩
            replace nx := nx.keep hc
            replace ny := ny.keep hc
            replace nz := nz.keep hc
            replace nu := nu.keep hc
            replace kx := kx.keep hc
            replace lx := lx.keep hc
            replace vx := vx.keep hc
            replace ky := ky.keep hc
            replace ly := ly.keep hc
            replace vy := vy.keep hc
            replace np := np.keep hc
            replace nq := nq.keep hc
            replace nbd := nbd.keep hc
            replace nac := nac.keep hc
            replace nsm := nsm.keep hc
            replace ks := ks.keep hc
            replace ls := ls.keep hc
            replace vs := vs.keep hc
            replace kt := kt.keep hc
            replace lt := lt.keep hc
            replace vt := vt.keep hc
            replace km := km.keep hc
            replace lm := lm.keep hc
            replace vm := vm.keep hc
            replace kn := kn.keep hc
            replace ln := ln.keep hc
            replace vn := vn.keep hc
            replace hb := hb.trans (hc.mono hb.size)
            clear hc
            go_wp2
            go_ret
            exact ⟨rfl, hb⟩
          · have hO0 : ¬ O = 0 := fun e => Q (hq.1 (hz0.1 e))
            have hOb : (O == 0) = false := by rw [beq_eq_false_iff_ne]; exact hO0
            clear hz0 hq hO0
            replace Q := Lib.hid Q
            go_enter Try.func14, Try.ntmps14
            go_wp2_with fail
            refine HA.out.mono ?_
            rintro e w2 ⟨rfl, hb⟩
            go_wp2_with fail
            refine (valid_v (ax.keep hb) _ hx'.out).mono ?_
            rintro e w3 ⟨rfl, rfl⟩
            go_wp2_with fail
            refine (valid_v (ay.keep hb) _ hy'.out).mono ?_
            rintro e w3 ⟨rfl, rfl⟩
            go_wp2_with fail
            refine (valid_v (az.keep hb) _ hz'.out).mono ?_
            rintro e w3 ⟨rfl, rfl⟩
            go_wp2_with fail
            refine (valid_v (au.keep hb) _ hu'.out).mono ?_
            rintro e w3 ⟨rfl, rfl⟩
            replace nx := nx.keep hb
            replace ny := ny.keep hb
            replace nz := nz.keep hb
            replace nu := nu.keep hb
            go_wp2_with fail
            refine (ratio_v nx ny hY).mono ?_
            rw [← HN1.out, ← HD1.out]
            rintro e w5 ⟨Ax, nnx, ccx, Bx, mmx, ddx, rfl, kx, lx, hc⟩
            replace nx := nx.keep hc
            replace ny := ny.keep hc
            replace nz := nz.keep hc
            replace nu := nu.keep hc
            replace hb := hb.trans (hc.mono hb.size)
            clear hc
            have vx := varAt_new w5 (.slice Ax nnx ccx) (.slice Bx mmx ddx)
            have hc := below_alloc w5 (.cells #[.slice Ax nnx ccx, .slice Bx mmx ddx] 38)
            obtain ⟨Rx, hRx⟩ : ∃ R, R = w5.heap.size := ⟨_, rfl⟩
            rw [← hRx] at vx
            skip
            go_wp2_with fail
            rw [← hRx]
            generalize w5.alloc (.cells #[.slice Ax nnx ccx, .slice Bx mmx ddx] 38) = w6 at hc vx ⊢
            replace nx := nx.keep hc
            replace ny := ny.keep hc
            replace nz := nz.keep hc
            replace nu := nu.keep hc
            replace kx := kx.keep hc
            replace lx := lx.keep hc
            replace hb := hb.trans (hc.mono hb.size)
            clear hc hRx
            refine (ratio_v nz nu hU).mono ?_
            rw [← HN2.out, ← HD2.out]
            rintro e w7 ⟨Ay, nny, ccy, By, mmy, ddy, rfl, ky, ly, hc⟩
            replace nx := nx.keep hc
            replace ny := ny.keep hc
            replace nz := nz.keep hc
            replace nu := nu.keep hc
            replace kx := kx.keep hc
            replace lx := lx.keep hc
            replace vx := vx.keep hc
            replace hb := hb.trans (hc.mono hb.size)
            clear hc
            have vy := varAt_new w7 (.slice Ay nny ccy) (.slice By mmy ddy)
            have hc := below_alloc w7 (.cells #[.slice Ay nny ccy, .slice By mmy ddy] 38)
            obtain ⟨Ry, hRy⟩ : ∃ R, R = w7.heap.size := ⟨_, rfl⟩
            rw [← hRy] at vy
            skip
            go_wp2_with fail
            rw [← hRy]
            generalize w7.alloc (.cells #[.slice Ay nny ccy, .slice By mmy ddy] 38) = w8 at hc vy ⊢
            replace nx := nx.keep hc
            replace ny := ny.keep hc
            replace nz := nz.keep hc
            replace nu := nu.keep hc
            replace kx := kx.keep hc
            replace lx := lx.keep hc
            replace vx := vx.keep hc
            replace ky := ky.keep hc
            replace ly := ly.keep hc
            replace hb := hb.trans (hc.mono hb.size)
            clear hc hRy
            refine (mul_v nx nu).mono ?_
            rw [F1.1, F1.2]
            rintro e w9 ⟨p, rfl, np, hc⟩
            replace nx := nx.keep hc
            replace ny := ny.keep hc
            replace nz := nz.keep hc
            replace nu := nu.keep hc
            replace kx := kx.keep hc
            replace lx := lx.keep hc
            replace vx := vx.keep hc
            replace ky := ky.keep hc
            replace ly := ly.keep hc
            replace vy := vy.keep hc
            replace hb := hb.trans (hc.mono hb.size)
            clear hc
            go_wp2_with fail
            refine (mul_v nz ny).mono ?_
            rw [F2.1, F2.2]
            rintro e w10 ⟨q, rfl, nq, hc⟩
            replace nx := nx.keep hc
            replace ny := ny.keep hc
            replace nz := nz.keep hc
            replace nu := nu.keep hc
            replace kx := kx.keep hc
            replace lx := lx.keep hc
            replace vx := vx.keep hc
            replace ky := ky.keep hc
            replace ly := ly.keep hc
            replace vy := vy.keep hc
            replace np := np.keep hc
            replace hb := hb.trans (hc.mono hb.size)
            clear hc
            go_wp2_with fail
            refine (mul_v ny nu).mono ?_
            rw [F3.1, F3.2]
            rintro e w11 ⟨bd, rfl, nbd, hc⟩
            replace nx := nx.keep hc
            replace ny := ny.keep hc
            replace nz := nz.keep hc
            replace nu := nu.keep hc
            replace kx := kx.keep hc
            replace lx := lx.keep hc
            replace vx := vx.keep hc
            replace ky := ky.keep hc
            replace ly := ly.keep hc
            replace vy := vy.keep hc
            replace np := np.keep hc
            replace nq := nq.keep hc
            replace hb := hb.trans (hc.mono hb.size)
            clear hc
            go_wp2_with fail
            refine (mul_v nx nz).mono ?_
            rw [F4.1, F4.2]
            rintro e w12 ⟨ac, rfl, nac, hc⟩
            replace nx := nx.keep hc
            replace ny := ny.keep hc
            replace nz := nz.keep hc
            replace nu := nu.keep hc
            replace kx := kx.keep hc
            replace lx := lx.keep hc
            replace vx := vx.keep hc
            replace ky := ky.keep hc
            replace ly := ly.keep hc
            replace vy := vy.keep hc
            replace np := np.keep hc
            replace nq := nq.keep hc
            replace nbd := nbd.keep hc
            replace hb := hb.trans (hc.mono hb.size)
            clear hc
            go_wp2_with fail
            refine (add_v np nq).mono ?_
            rw [F5.1, F5.2]
            rintro e w13 ⟨sm, rfl, nsm, hc⟩
            replace nx := nx.keep hc
            replace ny := ny.keep hc
            replace nz := nz.keep hc
            replace nu := nu.keep hc
            replace kx := kx.keep hc
            replace lx := lx.keep hc
            replace vx := vx.keep hc
            replace ky := ky.keep hc
            replace ly := ly.keep hc
            replace vy := vy.keep hc
            replace np := np.keep hc
            replace nq := nq.keep hc
            replace nbd := nbd.keep hc
            replace nac := nac.keep hc
            replace hb := hb.trans (hc.mono hb.size)
            clear hc
            have cx0 := vx.1.c0
            have cx1 := vx.1.c1
            have cy0 := vy.1.c0
            have cy1 := vy.1.c1
            go_wp2_with fail
            refine (checkFr_v ⟨kx, lx, G1, P1⟩).mono ?_
            rintro e w14 ⟨rfl, hc⟩
            replace nx := nx.keep hc
            replace ny := ny.keep hc
            replace nz := nz.keep hc
            replace nu := nu.keep hc
            replace kx := kx.keep hc
            replace lx := lx.keep hc
            replace vx := vx.keep hc
            replace ky := ky.keep hc
            replace ly := ly.keep hc
            replace vy := vy.keep hc
            replace np := np.keep hc
            replace nq := nq.keep hc
            replace nbd := nbd.keep hc
            replace nac := nac.keep hc
            replace nsm := nsm.keep hc
            replace hb := hb.trans (hc.mono hb.size)
            clear hc
            clear cx0 cx1
            clear cy0 cy1
            have cx0 := vx.1.c0
            have cx1 := vx.1.c1
            have cy0 := vy.1.c0
            have cy1 := vy.1.c1
            go_wp2_with fail
            refine (checkFr_v ⟨ky, ly, G2, P2⟩).mono ?_
            rintro e w15 ⟨rfl, hc⟩
            replace nx := nx.keep hc
            replace ny := ny.keep hc
            replace nz := nz.keep hc
            replace nu := nu.keep hc
            replace kx := kx.keep hc
            replace lx := lx.keep hc
            replace vx := vx.keep hc
            replace ky := ky.keep hc
            replace ly := ly.keep hc
            replace vy := vy.keep hc
            replace np := np.keep hc
            replace nq := nq.keep hc
            replace nbd := nbd.keep hc
            replace nac := nac.keep hc
            replace nsm := nsm.keep hc
            replace hb := hb.trans (hc.mono hb.size)
            clear hc
            clear cx0 cx1
            clear cy0 cy1
            have cx0 := vx.1.c0
            have cx1 := vx.1.c1
            have cy0 := vy.1.c0
            have cy1 := vy.1.c1
            go_wp2_with fail
            refine (cmpFr_v _ _ _ _ _ _ _ _ _ ⟨kx, lx, G1, P1⟩ ⟨ky, ly, G2, P2⟩).mono ?_
            rw [← HO.out]
            rintro e w16 ⟨rfl, hc⟩
            replace nx := nx.keep hc
            replace ny := ny.keep hc
            replace nz := nz.keep hc
            replace nu := nu.keep hc
            replace kx := kx.keep hc
            replace lx := lx.keep hc
            replace vx := vx.keep hc
            replace ky := ky.keep hc
            replace ly := ly.keep hc
            replace vy := vy.keep hc
            replace np := np.keep hc
            replace nq := nq.keep hc
            replace nbd := nbd.keep hc
            replace nac := nac.keep hc
            replace nsm := nsm.keep hc
            replace hb := hb.trans (hc.mono hb.size)
            clear hc
            clear cx0 cx1
            clear cy0 cy1
            have cx0 := vx.1.c0
            have cx1 := vx.1.c1
            have cy0 := vy.1.c0
            have cy1 := vy.1.c1
            go_wp2_with fail
            refine (compare_v np nq).mono ?_
            rw [EO.out]
            rintro e w17 ⟨rfl, hc⟩
            replace nx := nx.keep hc
            replace ny := ny.keep hc
            replace nz := nz.keep hc
            replace nu := nu.keep hc
            replace kx := kx.keep hc
            replace lx := lx.keep hc
            replace vx := vx.keep hc
            replace ky := ky.keep hc
            replace ly := ly.keep hc
            replace vy := vy.keep hc
            replace np := np.keep hc
            replace nq := nq.keep hc
            replace nbd := nbd.keep hc
            replace nac := nac.keep hc
            replace nsm := nsm.keep hc
            replace hb := hb.trans (hc.mono hb.size)
            clear hc
            clear cx0 cx1
            clear cy0 cy1
            have cx0 := vx.1.c0
            have cx1 := vx.1.c1
            have cy0 := vy.1.c0
            have cy1 := vy.1.c1
            go_wp2_with fail
            refine (sameFr_not kx lx ky ly Q.out).mono ?_
            rintro e w18 ⟨rfl, hc⟩
            replace nx := nx.keep hc
            replace ny := ny.keep hc
            replace nz := nz.keep hc
            replace nu := nu.keep hc
            replace kx := kx.keep hc
            replace lx := lx.keep hc
            replace vx := vx.keep hc
            replace ky := ky.keep hc
            replace ly := ly.keep hc
            replace vy := vy.keep hc
            replace np := np.keep hc
            replace nq := nq.keep hc
            replace nbd := nbd.keep hc
            replace nac := nac.keep hc
            replace nsm := nsm.keep hc
            replace hb := hb.trans (hc.mono hb.size)
            clear hc
            clear cx0 cx1
            clear cy0 cy1
            have cx0 := vx.1.c0
            have cx1 := vx.1.c1
            have cy0 := vy.1.c0
            have cy1 := vy.1.c1
            go_wp2_with fail
            refine (addFr_w ⟨kx, lx, G1, P1⟩ ⟨ky, ly, G2, P2⟩ L1 L2).mono ?_
            rintro e w19 ⟨As, nns, ccs, Bs, mms, dds, rfl, ks, ls, hc⟩
            replace nx := nx.keep hc
            replace ny := ny.keep hc
            replace nz := nz.keep hc
            replace nu := nu.keep hc
            replace kx := kx.keep hc
            replace lx := lx.keep hc
            replace vx := vx.keep hc
            replace ky := ky.keep hc
            replace ly := ly.keep hc
            replace vy := vy.keep hc
            replace np := np.keep hc
            replace nq := nq.keep hc
            replace nbd := nbd.keep hc
            replace nac := nac.keep hc
            replace nsm := nsm.keep hc
            replace hb := hb.trans (hc.mono hb.size)
            clear hc
            have vs := varAt_new w19 (.slice As nns ccs) (.slice Bs mms dds)
            have hc := below_alloc w19 (.cells #[.slice As nns ccs, .slice Bs mms dds] 38)
            obtain ⟨Rs, hRs⟩ : ∃ R, R = w19.heap.size := ⟨_, rfl⟩
            rw [← hRs] at vs
            skip
            go_wp2_with fail
            rw [← hRs]
            generalize w19.alloc (.cells #[.slice As nns ccs, .slice Bs mms dds] 38) = w20 at hc vs ⊢
            replace nx := nx.keep hc
            replace ny := ny.keep hc
            replace nz := nz.keep hc
            replace nu := nu.keep hc
            replace kx := kx.keep hc
            replace lx := lx.keep hc
            replace vx := vx.keep hc
            replace ky := ky.keep hc
            replace ly := ly.keep hc
            replace vy := vy.keep hc
            replace np := np.keep hc
            replace nq := nq.keep hc
            replace nbd := nbd.keep hc
            replace nac := nac.keep hc
            replace nsm := nsm.keep hc
            replace ks := ks.keep hc
            replace ls := ls.keep hc
            replace hb := hb.trans (hc.mono hb.size)
            clear hc hRs
            clear cx0 cx1
            clear cy0 cy1
            refine (ratio_v nsm nbd hYU).mono ?_
            rintro e w21 ⟨At, nnt, cct, Bt, mmt, ddt, rfl, kt, lt, hc⟩
            replace nx := nx.keep hc
            replace ny := ny.keep hc
            replace nz := nz.keep hc
            replace nu := nu.keep hc
            replace kx := kx.keep hc
            replace lx := lx.keep hc
            replace vx := vx.keep hc
            replace ky := ky.keep hc
            replace ly := ly.keep hc
            replace vy := vy.keep hc
            replace np := np.keep hc
            replace nq := nq.keep hc
            replace nbd := nbd.keep hc
            replace nac := nac.keep hc
            replace nsm := nsm.keep hc
            replace ks := ks.keep hc
            replace ls := ls.keep hc
            replace vs := vs.keep hc
            replace hb := hb.trans (hc.mono hb.size)
            clear hc
            have vt := varAt_new w21 (.slice At nnt cct) (.slice Bt mmt ddt)
            have hc := below_alloc w21 (.cells #[.slice At nnt cct, .slice Bt mmt ddt] 38)
            obtain ⟨Rt, hRt⟩ : ∃ R, R = w21.heap.size := ⟨_, rfl⟩
            rw [← hRt] at vt
            skip
            have cx0 := (VarAt.keep vx hc).1.c0
            have cx1 := (VarAt.keep vx hc).1.c1
            have cy0 := (VarAt.keep vy hc).1.c0
            have cy1 := (VarAt.keep vy hc).1.c1
            go_wp2_with fail
            clear cx0 cx1
            clear cy0 cy1
            rw [← hRt]
            generalize w21.alloc (.cells #[.slice At nnt cct, .slice Bt mmt ddt] 38) = w22 at hc vt ⊢
            replace nx := nx.keep hc
            replace ny := ny.keep hc
            replace nz := nz.keep hc
            replace nu := nu.keep hc
            replace kx := kx.keep hc
            replace lx := lx.keep hc
            replace vx := vx.keep hc
            replace ky := ky.keep hc
            replace ly := ly.keep hc
            replace vy := vy.keep hc
            replace np := np.keep hc
            replace nq := nq.keep hc
            replace nbd := nbd.keep hc
            replace nac := nac.keep hc
            replace nsm := nsm.keep hc
            replace ks := ks.keep hc
            replace ls := ls.keep hc
            replace vs := vs.keep hc
            replace kt := kt.keep hc
            replace lt := lt.keep hc
            replace hb := hb.trans (hc.mono hb.size)
            clear hc hRt
            refine (mulFr_w ⟨kx, lx, G1, P1⟩ ⟨ky, ly, G2, P2⟩ L3 L2).mono ?_
            rintro e w23 ⟨Am, nnm, ccm, Bm, mmm, ddm, rfl, km, lm, hc⟩
            replace nx := nx.keep hc
            replace ny := ny.keep hc
            replace nz := nz.keep hc
            replace nu := nu.keep hc
            replace kx := kx.keep hc
            replace lx := lx.keep hc
            replace vx := vx.keep hc
            replace ky := ky.keep hc
            replace ly := ly.keep hc
            replace vy := vy.keep hc
            replace np := np.keep hc
            replace nq := nq.keep hc
            replace nbd := nbd.keep hc
            replace nac := nac.keep hc
            replace nsm := nsm.keep hc
            replace ks := ks.keep hc
            replace ls := ls.keep hc
            replace vs := vs.keep hc
            replace kt := kt.keep hc
            replace lt := lt.keep hc
            replace vt := vt.keep hc
            replace hb := hb.trans (hc.mono hb.size)
            clear hc
            have vm := varAt_new w23 (.slice Am nnm ccm) (.slice Bm mmm ddm)
            have hc := below_alloc w23 (.cells #[.slice Am nnm ccm, .slice Bm mmm ddm] 38)
            obtain ⟨Rm, hRm⟩ : ∃ R, R = w23.heap.size := ⟨_, rfl⟩
            rw [← hRm] at vm
            skip
            go_wp2_with fail
            rw [← hRm]
            generalize w23.alloc (.cells #[.slice Am nnm ccm, .slice Bm mmm ddm] 38) = w24 at hc vm ⊢
            replace nx := nx.keep hc
            replace ny := ny.keep hc
            replace nz := nz.keep hc
            replace nu := nu.keep hc
            replace kx := kx.keep hc
            replace lx := lx.keep hc
            replace vx := vx.keep hc
            replace ky := ky.keep hc
            replace ly := ly.keep hc
            replace vy := vy.keep hc
            replace np := np.keep hc
            replace nq := nq.keep hc
            replace nbd := nbd.keep hc
            replace nac := nac.keep hc
            replace nsm := nsm.keep hc
            replace ks := ks.keep hc
            replace ls := ls.keep hc
            replace vs := vs.keep hc
            replace kt := kt.keep hc
            replace lt := lt.keep hc
            replace vt := vt.keep hc
            replace km := km.keep hc
            replace lm := lm.keep hc
            replace hb := hb.trans (hc.mono hb.size)
            clear hc hRm
            refine (ratio_v nac nbd hYU).mono ?_
            rintro e w25 ⟨An, nnn, ccn, Bn, mmn, ddn, rfl, kn, ln, hc⟩
            replace nx := nx.keep hc
            replace ny := ny.keep hc
            replace nz := nz.keep hc
            replace nu := nu.keep hc
            replace kx := kx.keep hc
            replace lx := lx.keep hc
            replace vx := vx.keep hc
            replace ky := ky.keep hc
            replace ly := ly.keep hc
            replace vy := vy.keep hc
            replace np := np.keep hc
            replace nq := nq.keep hc
            replace nbd := nbd.keep hc
            replace nac := nac.keep hc
            replace nsm := nsm.keep hc
            replace ks := ks.keep hc
            replace ls := ls.keep hc
            replace vs := vs.keep hc
            replace kt := kt.keep hc
            replace lt := lt.keep hc
            replace vt := vt.keep hc
            replace km := km.keep hc
            replace lm := lm.keep hc
            replace vm := vm.keep hc
            replace hb := hb.trans (hc.mono hb.size)
            clear hc
            have vn := varAt_new w25 (.slice An nnn ccn) (.slice Bn mmn ddn)
            have hc := below_alloc w25 (.cells #[.slice An nnn ccn, .slice Bn mmn ddn] 38)
            obtain ⟨Rn, hRn⟩ : ∃ R, R = w25.heap.size := ⟨_, rfl⟩
            rw [← hRn] at vn
            skip
            have hn_ : True := trivial
            have cs0 := (VarAt.keep vs hc).1.c0
            have cs1 := (VarAt.keep vs hc).1.c1
            have ct0 := (VarAt.keep vt hc).1.c0
            have ct1 := (VarAt.keep vt hc).1.c1
            go_wp2_with fail
            clear cs0 cs1
            clear ct0 ct1
            rw [← hRn]
            generalize w25.alloc (.cells #[.slice An nnn ccn, .slice Bn mmn ddn] 38) = w26 at hc vn ⊢
            replace nx := nx.keep hc
            replace ny := ny.keep hc
            replace nz := nz.keep hc
            replace nu := nu.keep hc
            replace kx := kx.keep hc
            replace lx := lx.keep hc
            replace vx := vx.keep hc
            replace ky := ky.keep hc
            replace ly := ly.keep hc
            replace vy := vy.keep hc
            replace np := np.keep hc
            replace nq := nq.keep hc
            replace nbd := nbd.keep hc
            replace nac := nac.keep hc
            replace nsm := nsm.keep hc
            replace ks := ks.keep hc
            replace ls := ls.keep hc
            replace vs := vs.keep hc
            replace kt := kt.keep hc
            replace lt := lt.keep hc
            replace vt := vt.keep hc
            replace km := km.keep hc
            replace lm := lm.keep hc
            replace vm := vm.keep hc
            replace kn := kn.keep hc
            replace ln := ln.keep hc
            replace hb := hb.trans (hc.mono hb.size)
            clear hc hRn
            refine (sameFr_yes ks ls kt lt S1.out S2.out).mono ?_
            rintro e w27 ⟨rfl, hc⟩
            replace nx := nx.keep hc
            replace ny := ny.keep hc
            replace nz := nz.keep hc
            replace nu := nu.keep hc
            replace kx := kx.keep hc
            replace lx := lx.keep hc
            replace vx := vx.keep hc
            replace ky := ky.keep hc
            replace ly := ly.keep hc
            replace vy := vy.keep hc
            replace np := np.keep hc
            replace nq := nq.keep hc
            replace nbd := nbd.keep hc
            replace nac := nac.keep hc
            replace nsm := nsm.keep hc
            replace ks := ks.keep hc
            replace ls := ls.keep hc
            replace vs := vs.keep hc
            replace kt := kt.keep hc
            replace lt := lt.keep hc
            replace vt := vt.keep hc
            replace km := km.keep hc
            replace lm := lm.keep hc
            replace vm := vm.keep hc
            replace kn := kn.keep hc
            replace ln := ln.keep hc
            replace vn := vn.keep hc
            replace hb := hb.trans (hc.mono hb.size)
            clear hc
            have cm0 := vm.1.c0
            have cm1 := vm.1.c1
            have cn0 := vn.1.c0
            have cn1 := vn.1.c1
            go_wp2_with fail
            refine (sameFr_yes km lm kn ln S3.out S4.out).mono ?_
            rintro e w28 ⟨rfl, hc⟩
            replace nx := nx.keep hc
            replace ny := ny.keep hc
            replace nz := nz.keep hc
            replace nu := nu.keep hc
            replace kx := kx.keep hc
            replace lx := lx.keep hc
            replace vx := vx.keep hc
            replace ky := ky.keep hc
            replace ly := ly.keep hc
            replace vy := vy.keep hc
            replace np := np.keep hc
            replace nq := nq.keep hc
            replace nbd := nbd.keep hc
            replace nac := nac.keep hc
            replace nsm := nsm.keep hc
            replace ks := ks.keep hc
            replace ls := ls.keep hc
            replace vs := vs.keep hc
            replace kt := kt.keep hc
            replace lt := lt.keep hc
            replace vt := vt.keep hc
            replace km := km.keep hc
            replace lm := lm.keep hc
            replace vm := vm.keep hc
            replace kn := kn.keep hc
            replace ln := ln.keep hc
            replace vn := vn.keep hc
            replace hb := hb.trans (hc.mono hb.size)
            clear hc
            go_wp2
            go_ret
            exact ⟨rfl, hb⟩
end Go.Proofs.Ythplhlcdlnedfaa.numberRatio
