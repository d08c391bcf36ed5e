/- The walk over NumberDivides. -/
import Derived.Test.YthplhlcdlnedfaaLawNum
namespace Go.Proofs.Ythplhlcdlnedfaa.numberDivides
open Go.RowKit MN

set_option maxRecDepth 100000 in
set_option maxHeartbeats 2000000 in
theorem walk (a0 : Option Addr) (len0 cap0 : Nat) (z0 : List Int) (a1 : Option Addr) (len1 cap1 : Nat) (z1 : List Int) (w : World) (w0 : IsRow .u32 w a0 len0 cap0 z0) (w1 : IsRow .u32 w a1 len1 cap1 z1) :
    Calls Try.prog 11 #[.slice a0 len0 cap0, .slice a1 len1 cap1] w fun e w' => e = .returned (.bool true) ∧ Below w.heap.size w w' := by
  obtain ⟨xs, ax⟩ := arg_of w0
  obtain ⟨ys, ay⟩ := arg_of w1
  clear w0 w1
  have HA := Lib.hid (alive_any w)
  cases hx : vB xs
  · go_enter Try.func11, Try.ntmps11
    go_wp2_with fail
    refine HA.out.mono ?_
    rintro e w2 ⟨rfl, hb⟩
    go_wp2_with fail
    refine (valid_v (ax.keep hb) _ hx).mono ?_
    rintro e w3 ⟨rfl, rfl⟩
    go_wp2
    go_ret
    exact ⟨rfl, hb⟩
  · cases hy : vB ys
    · go_enter Try.func11, Try.ntmps11
      go_wp2_with fail
      refine HA.out.mono ?_
      rintro e w2 ⟨rfl, hb⟩
      go_wp2_with fail
      refine (valid_v (ax.keep hb) _ hx).mono ?_
      rintro e w3 ⟨rfl, rfl⟩
      go_wp2_with fail
      refine (valid_v (ay.keep hb) _ hy).mono ?_
      rintro e w3 ⟨rfl, rfl⟩
      go_wp2
      go_ret
      exact ⟨rfl, hb⟩
    · have vx := vB_yes hx
      have vy := vB_yes hy
      have nx := ax.nm vx
      have ny := ay.nm vy
      have hlz := len_zero ay vy
      by_cases hz : nv ys = 0
      · have hl : len1 = 0 := hlz.2 hz
        have hl' : ((len1 : Int) == 0) = true := by rw [hl]; rfl
        clear hl hlz
        go_enter Try.func11, Try.ntmps11
        go_wp2_with fail
        refine HA.out.mono ?_
        rintro e w2 ⟨rfl, hb⟩
        go_wp2_with fail
        refine (valid_v (ax.keep hb) _ hx).mono ?_
        rintro e w3 ⟨rfl, rfl⟩
        go_wp2_with fail
        refine (valid_v (ay.keep hb) _ hy).mono ?_
        rintro e w3 ⟨rfl, rfl⟩
        go_wp2_with fail
        refine (div_z (nx.keep hb) (ny.keep hb) hz).mono ?_
        rintro e w4 ⟨v1, v2, rfl, -, -, hb4⟩
        go_wp2
        go_ret
        exact ⟨rfl, hb.trans (hb4.mono hb.size)⟩
      · have hl : ¬ len1 = 0 := fun e => hz (hlz.1 e)
        have hl' : ((len1 : Int) == 0) = false := by rw [beq_eq_false_iff_ne]; omega
        have hypos : 0 < nv ys := Nat.pos_of_ne_zero hz
        have e1 : nv xs / nv ys * nv ys + nv xs % nv ys = nv xs := Nat.div_add_mod' _ _
        have e2 : nv xs % nv ys < nv ys := Nat.mod_lt _ hypos
        have hlt := vd_lt vx ax.low
        have F1 := fit_yes (N := nv xs / nv ys * nv ys) (Nat.lt_of_le_of_lt (Nat.div_mul_le_self _ _) hlt)
        have F2 := fit_yes (N := nv xs / nv ys * nv ys + nv xs % nv ys) (by rw [e1]; exact hlt)
        have hx' := Lib.hid hx
        have hy' := Lib.hid hy
        clear hl hlz hlt vx vy hx hy
        go_enter Try.func11, Try.ntmps11
        go_wp2_with fail
        refine HA.out.mono ?_
        rintro e w2 ⟨rfl, hb⟩
        go_wp2_with fail
        refine (valid_v (ax.keep hb) _ hx'.out).mono ?_
        rintro e w3 ⟨rfl, rfl⟩
        go_wp2_with fail
        refine (valid_v (ay.keep hb) _ hy'.out).mono ?_
        rintro e w3 ⟨rfl, rfl⟩
        replace nx := nx.keep hb
        replace ny := ny.keep hb
        go_wp2_with fail
        refine (div_v nx ny hz).mono ?_
        rintro e w4 ⟨q, r, rfl, nq, nr, hb4⟩
        replace nx := nx.keep hb4
        replace ny := ny.keep hb4
        replace hb := hb.trans (hb4.mono hb.size)
        go_wp2_with fail
        refine (mul_v nq ny).mono ?_
        rw [F1.1, F1.2]
        rintro e w5 ⟨p, rfl, np, hb5⟩
        replace nx := nx.keep hb5
        replace ny := ny.keep hb5
        replace nr := nr.keep hb5
        replace hb := hb.trans (hb5.mono hb.size)
        go_wp2_with fail
        refine (add_v np nr).mono ?_
        rw [F2.1, F2.2]
        rintro e w6 ⟨s, rfl, ns, hb6⟩
        replace nx := nx.keep hb6
        replace ny := ny.keep hb6
        replace nr := nr.keep hb6
        replace hb := hb.trans (hb6.mono hb.size)
        go_wp2_with fail
        refine (compare_v nr ny).mono ?_
        rw [ordv_lt e2]
        rintro e w7 ⟨rfl, hb7⟩
        replace nx := nx.keep hb7
        replace ns := ns.keep hb7
        replace hb := hb.trans (hb7.mono hb.size)
        go_wp2_with fail
        refine (same_yes ns nx e1).mono ?_
        rintro e w8 ⟨rfl, hb8⟩
        replace hb := hb.trans (hb8.mono hb.size)
        go_wp2
        go_ret
        exact ⟨rfl, hb⟩
end Go.Proofs.Ythplhlcdlnedfaa.numberDivides
