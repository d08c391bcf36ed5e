/- The walk over NumberBack. -/
import Derived.Test.YthplhlcdlnedfaaLawNum
namespace Go.Proofs.Ythplhlcdlnedfaa.numberBack
open Go.RowKit MN

set_option maxRecDepth 100000 in
set_option maxHeartbeats 2000000 in
theorem walk (a0 : Option Addr) (len0 cap0 : Nat) (z0 : List Int) (a1 : Option Addr) (len1 cap1 : Nat) (z1 : List Int) (w : World) (w0 : IsRow .u32 w a0 len0 cap0 z0) (w1 : IsRow .u32 w a1 len1 cap1 z1) :
    Calls Try.prog 10 #[.slice a0 len0 cap0, .slice a1 len1 cap1] w fun e w' => e = .returned (.bool true) ∧ Below w.heap.size w w' := by
  obtain ⟨xs, ax⟩ := arg_of w0
  obtain ⟨ys, ay⟩ := arg_of w1
  clear w0 w1
  have HA := Lib.hid (alive_any w)
  cases hx : vB xs
  · have hx' := Lib.hid hx
    clear hx
    go_enter Try.func10, Try.ntmps10
    go_wp2_with fail
    refine HA.out.mono ?_
    rintro e w2 ⟨rfl, hb⟩
    go_wp2_with fail
    refine (valid_v (ax.keep hb) _ hx'.out).mono ?_
    rintro e w3 ⟨rfl, rfl⟩
    go_wp2
    go_ret
    exact ⟨rfl, hb⟩
  · cases hy : vB ys
    · have hx' := Lib.hid hx
      have hy' := Lib.hid hy
      clear hx hy
      go_enter Try.func10, Try.ntmps10
      go_wp2_with fail
      refine HA.out.mono ?_
      rintro e w2 ⟨rfl, hb⟩
      go_wp2_with fail
      refine (valid_v (ax.keep hb) _ hx'.out).mono ?_
      rintro e w3 ⟨rfl, rfl⟩
      go_wp2_with fail
      refine (valid_v (ay.keep hb) _ hy'.out).mono ?_
      rintro e w3 ⟨rfl, rfl⟩
      go_wp2
      go_ret
      exact ⟨rfl, hb⟩
    · have vx := vB_yes hx
      have vy := vB_yes hy
      have nx := ax.nm vx
      have ny := ay.nm vy
      have hlz := len_zero ay vy
      have hlt := vd_lt vx ax.low
      have hx' := Lib.hid hx
      have hy' := Lib.hid hy
      clear vx vy hx hy
      obtain ⟨X, hX⟩ : ∃ X, X = nv xs := ⟨_, rfl⟩
      obtain ⟨Y, hY⟩ : ∃ Y, Y = nv ys := ⟨_, rfl⟩
      rw [← hX] at nx hlt
      rw [← hY] at ny hlz
      clear hX hY
      by_cases hf : X + Y < 4294967296 ^ 16
      · have F := fit_yes hf
        have U1 : subC (X + Y) Y = 0 := if_neg (by omega)
        have U2 : X + Y - Y = X := Nat.add_sub_cancel ..
        clear hf
        rcases Nat.eq_zero_or_pos Y with hy0 | hy0
        · have K : ordv (X + Y) X = 0 := ordv_eq (by omega)
          have hl := hlz.2 hy0
          subst hl
          rcases Nat.eq_zero_or_pos X with hx0 | hx0
          · have K1 : ordv X Y = 0 := ordv_eq (by omega)
            have K2 : ordv Y X = 0 := ordv_eq (by omega)
            have U3 : subC X Y = 0 := if_neg (by omega)
            have U4 : X - Y + Y = X := by omega
            have F3 := fit_yes (N := X - Y + Y) (by rw [U4]; exact hlt)
            rw [U4] at F3
            have he : X = Y := by omega
            clear hlz hlt hx0 hy0
            go_enter Try.func10, Try.ntmps10
            go_wp2_with fail
            refine HA.out.mono ?_
            rintro e w2 ⟨rfl, hb⟩
            go_wp2_with fail
            refine (valid_v (ax.keep hb) _ hx'.out).mono ?_
            rintro e w3 ⟨rfl, rfl⟩
            go_wp2_with fail
            refine (valid_v (ay.keep hb) _ hy'.out).mono ?_
            rintro e w3 ⟨rfl, rfl⟩
            replace nx := nx.keep hb
            replace ny := ny.keep hb
            go_wp2_with fail
            refine (add_v nx ny).mono ?_
            rw [F.1, F.2]
            rintro e w5 ⟨v1, rfl, n1, hc⟩
            replace nx := nx.keep hc
            replace ny := ny.keep hc
            replace hb := hb.trans (hc.mono hb.size)
            clear hc
            go_wp2_with fail
            refine (sub_v n1 ny).mono ?_
            rw [U1, U2]
            rintro e w6 ⟨v2, rfl, n2, hc⟩
            replace nx := nx.keep hc
            replace ny := ny.keep hc
            replace n1 := n1.keep hc
            replace hb := hb.trans (hc.mono hb.size)
            clear hc
            go_wp2_with fail
            refine (compare_v n1 nx).mono ?_
            rw [K]
            rintro e w7 ⟨rfl, hc⟩
            replace nx := nx.keep hc
            replace ny := ny.keep hc
            replace n1 := n1.keep hc
            replace n2 := n2.keep hc
            replace hb := hb.trans (hc.mono hb.size)
            clear hc
            go_wp2_with fail
            refine (same_yes n2 nx rfl).mono ?_
            rintro e w8 ⟨rfl, hc⟩
            replace nx := nx.keep hc
            replace ny := ny.keep hc
            replace n1 := n1.keep hc
            replace n2 := n2.keep hc
            replace hb := hb.trans (hc.mono hb.size)
            clear hc
            go_wp2_with fail
            refine (compare_v nx ny).mono ?_
            rw [K1]
            rintro e w9 ⟨rfl, hc⟩
            replace nx := nx.keep hc
            replace ny := ny.keep hc
            replace n1 := n1.keep hc
            replace n2 := n2.keep hc
            replace hb := hb.trans (hc.mono hb.size)
            clear hc
            go_wp2_with fail
            refine (compare_v ny nx).mono ?_
            rw [K2]
            rintro e w10 ⟨rfl, hc⟩
            replace nx := nx.keep hc
            replace ny := ny.keep hc
            replace n1 := n1.keep hc
            replace n2 := n2.keep hc
            replace hb := hb.trans (hc.mono hb.size)
            clear hc
            go_wp2_with fail
            refine (sub_v nx ny).mono ?_
            rw [U3]
            rintro e w11 ⟨v3, rfl, n3, hc⟩
            replace nx := nx.keep hc
            replace ny := ny.keep hc
            replace n1 := n1.keep hc
            replace n2 := n2.keep hc
            replace hb := hb.trans (hc.mono hb.size)
            clear hc
            go_wp2_with fail
            refine (same_yes nx ny he).mono ?_
            rintro e w12 ⟨rfl, hc⟩
            replace nx := nx.keep hc
            replace ny := ny.keep hc
            replace n1 := n1.keep hc
            replace n2 := n2.keep hc
            replace n3 := n3.keep hc
            replace hb := hb.trans (hc.mono hb.size)
            clear hc
            go_wp2_with fail
            refine (add_v n3 ny).mono ?_
            rw [U4, F3.1, F3.2]
            rintro e w13 ⟨v4, rfl, n4, hc⟩
            replace nx := nx.keep hc
            replace ny := ny.keep hc
            replace n1 := n1.keep hc
            replace n2 := n2.keep hc
            replace n3 := n3.keep hc
            replace hb := hb.trans (hc.mono hb.size)
            clear hc
            go_wp2_with fail
            refine (same_yes n4 nx rfl).mono ?_
            rintro e w14 ⟨rfl, hc⟩
            replace nx := nx.keep hc
            replace ny := ny.keep hc
            replace n1 := n1.keep hc
            replace n2 := n2.keep hc
            replace n3 := n3.keep hc
            replace n4 := n4.keep hc
            replace hb := hb.trans (hc.mono hb.size)
            clear hc
            go_wp2
            go_ret
            exact ⟨rfl, hb⟩
          · have K1 : ordv X Y = 1 := ordv_gt (by omega)
            have K2 : ordv Y X = -1 := ordv_lt (by omega)
            have U3 : subC X Y = 0 := if_neg (by omega)
            have U4 : X - Y + Y = X := by omega
            have F3 := fit_yes (N := X - Y + Y) (by rw [U4]; exact hlt)
            rw [U4] at F3
            have hne : ¬ X = Y := by omega
            clear hlz hlt hx0 hy0
            go_enter Try.func10, Try.ntmps10
            go_wp2_with fail
            refine HA.out.mono ?_
            rintro e w2 ⟨rfl, hb⟩
            go_wp2_with fail
            refine (valid_v (ax.keep hb) _ hx'.out).mono ?_
            rintro e w3 ⟨rfl, rfl⟩
            go_wp2_with fail
            refine (valid_v (ay.keep hb) _ hy'.out).mono ?_
            rintro e w3 ⟨rfl, rfl⟩
            replace nx := nx.keep hb
            replace ny := ny.keep hb
            go_wp2_with fail
            refine (add_v nx ny).mono ?_
            rw [F.1, F.2]
            rintro e w5 ⟨v1, rfl, n1, hc⟩
            replace nx := nx.keep hc
            replace ny := ny.keep hc
            replace hb := hb.trans (hc.mono hb.size)
            clear hc
            go_wp2_with fail
            refine (sub_v n1 ny).mono ?_
            rw [U1, U2]
            rintro e w6 ⟨v2, rfl, n2, hc⟩
            replace nx := nx.keep hc
            replace ny := ny.keep hc
            replace n1 := n1.keep hc
            replace hb := hb.trans (hc.mono hb.size)
            clear hc
            go_wp2_with fail
            refine (compare_v n1 nx).mono ?_
            rw [K]
            rintro e w7 ⟨rfl, hc⟩
            replace nx := nx.keep hc
            replace ny := ny.keep hc
            replace n1 := n1.keep hc
            replace n2 := n2.keep hc
            replace hb := hb.trans (hc.mono hb.size)
            clear hc
            go_wp2_with fail
            refine (same_yes n2 nx rfl).mono ?_
            rintro e w8 ⟨rfl, hc⟩
            replace nx := nx.keep hc
            replace ny := ny.keep hc
            replace n1 := n1.keep hc
            replace n2 := n2.keep hc
            replace hb := hb.trans (hc.mono hb.size)
            clear hc
            go_wp2_with fail
            refine (compare_v nx ny).mono ?_
            rw [K1]
            rintro e w9 ⟨rfl, hc⟩
            replace nx := nx.keep hc
            replace ny := ny.keep hc
            replace n1 := n1.keep hc
            replace n2 := n2.keep hc
            replace hb := hb.trans (hc.mono hb.size)
            clear hc
            go_wp2_with fail
            refine (compare_v ny nx).mono ?_
            rw [K2]
            rintro e w10 ⟨rfl, hc⟩
            replace nx := nx.keep hc
            replace ny := ny.keep hc
            replace n1 := n1.keep hc
            replace n2 := n2.keep hc
            replace hb := hb.trans (hc.mono hb.size)
            clear hc
            go_wp2_with fail
            refine (sub_v nx ny).mono ?_
            rw [U3]
            rintro e w11 ⟨v3, rfl, n3, hc⟩
            replace nx := nx.keep hc
            replace ny := ny.keep hc
            replace n1 := n1.keep hc
            replace n2 := n2.keep hc
            replace hb := hb.trans (hc.mono hb.size)
            clear hc
            go_wp2_with fail
            refine (same_not nx ny hne).mono ?_
            rintro e w12 ⟨rfl, hc⟩
            replace nx := nx.keep hc
            replace ny := ny.keep hc
            replace n1 := n1.keep hc
            replace n2 := n2.keep hc
            replace n3 := n3.keep hc
            replace hb := hb.trans (hc.mono hb.size)
            clear hc
            go_wp2_with fail
            refine (add_v n3 ny).mono ?_
            rw [U4, F3.1, F3.2]
            rintro e w13 ⟨v4, rfl, n4, hc⟩
            replace nx := nx.keep hc
            replace ny := ny.keep hc
            replace n1 := n1.keep hc
            replace n2 := n2.keep hc
            replace n3 := n3.keep hc
            replace hb := hb.trans (hc.mono hb.size)
            clear hc
            go_wp2_with fail
            refine (same_yes n4 nx rfl).mono ?_
            rintro e w14 ⟨rfl, hc⟩
            replace nx := nx.keep hc
            replace ny := ny.keep hc
            replace n1 := n1.keep hc
            replace n2 := n2.keep hc
            replace n3 := n3.keep hc
            replace n4 := n4.keep hc
            replace hb := hb.trans (hc.mono hb.size)
            clear hc
            go_wp2
            go_ret
            exact ⟨rfl, hb⟩
        · have K : ordv (X + Y) X = 1 := ordv_gt (by omega)
          have hl : ¬ len1 = 0 := fun e => by have := hlz.1 e; omega
          have hl' : ((len1 : Int) == 0) = false := by rw [beq_eq_false_iff_ne]; omega
          have hg' : 0 < len1 := by omega
          clear hl hlz
          rcases Nat.lt_trichotomy X Y with h | h | h
          · have K1 : ordv X Y = -1 := ordv_lt h
            have K2 : ordv Y X = 1 := ordv_gt h
            have U3 : subC X Y = 11 := if_pos h
            have hne : ¬ X = Y := by omega
            clear hlt hy0 h
            go_enter Try.func10, Try.ntmps10
            go_wp2_with fail
            refine HA.out.mono ?_
            rintro e w2 ⟨rfl, hb⟩
            go_wp2_with fail
            refine (valid_v (ax.keep hb) _ hx'.out).mono ?_
            rintro e w3 ⟨rfl, rfl⟩
            go_wp2_with fail
            refine (valid_v (ay.keep hb) _ hy'.out).mono ?_
            rintro e w3 ⟨rfl, rfl⟩
            replace nx := nx.keep hb
            replace ny := ny.keep hb
            go_wp2_with fail
            refine (add_v nx ny).mono ?_
            rw [F.1, F.2]
            rintro e w5 ⟨v1, rfl, n1, hc⟩
            replace nx := nx.keep hc
            replace ny := ny.keep hc
            replace hb := hb.trans (hc.mono hb.size)
            clear hc
            go_wp2_with fail
            refine (sub_v n1 ny).mono ?_
            rw [U1, U2]
            rintro e w6 ⟨v2, rfl, n2, hc⟩
            replace nx := nx.keep hc
            replace ny := ny.keep hc
            replace n1 := n1.keep hc
            replace hb := hb.trans (hc.mono hb.size)
            clear hc
            go_wp2_with fail
            refine (compare_v n1 nx).mono ?_
            rw [K]
            rintro e w7 ⟨rfl, hc⟩
            replace nx := nx.keep hc
            replace ny := ny.keep hc
            replace n1 := n1.keep hc
            replace n2 := n2.keep hc
            replace hb := hb.trans (hc.mono hb.size)
            clear hc
            go_wp2_with fail
            refine (same_yes n2 nx rfl).mono ?_
            rintro e w8 ⟨rfl, hc⟩
            replace nx := nx.keep hc
            replace ny := ny.keep hc
            replace n1 := n1.keep hc
            replace n2 := n2.keep hc
            replace hb := hb.trans (hc.mono hb.size)
            clear hc
            go_wp2_with fail
            refine (compare_v nx ny).mono ?_
            rw [K1]
            rintro e w9 ⟨rfl, hc⟩
            replace nx := nx.keep hc
            replace ny := ny.keep hc
            replace n1 := n1.keep hc
            replace n2 := n2.keep hc
            replace hb := hb.trans (hc.mono hb.size)
            clear hc
            go_wp2_with fail
            refine (compare_v ny nx).mono ?_
            rw [K2]
            rintro e w10 ⟨rfl, hc⟩
            replace nx := nx.keep hc
            replace ny := ny.keep hc
            replace n1 := n1.keep hc
            replace n2 := n2.keep hc
            replace hb := hb.trans (hc.mono hb.size)
            clear hc
            go_wp2_with fail
            refine (sub_v nx ny).mono ?_
            rw [U3]
            rintro e w11 ⟨v3, rfl, n3, hc⟩
            replace nx := nx.keep hc
            replace ny := ny.keep hc
            replace n1 := n1.keep hc
            replace n2 := n2.keep hc
            replace hb := hb.trans (hc.mono hb.size)
            clear hc
            go_wp2_with fail
            refine (same_not nx ny hne).mono ?_
            rintro e w12 ⟨rfl, hc⟩
            replace nx := nx.keep hc
            replace ny := ny.keep hc
            replace n1 := n1.keep hc
            replace n2 := n2.keep hc
            replace n3 := n3.keep hc
            replace hb := hb.trans (hc.mono hb.size)
            clear hc
            go_wp2
            go_ret
            exact ⟨rfl, hb⟩
          · have K1 : ordv X Y = 0 := ordv_eq h
            have K2 : ordv Y X = 0 := ordv_eq h.symm
            have U3 : subC X Y = 0 := if_neg (by omega)
            have U4 : X - Y + Y = X := by omega
            have F3 := fit_yes (N := X - Y + Y) (by rw [U4]; exact hlt)
            rw [U4] at F3
            have he : X = Y := h
            clear hlt hy0 h
            go_enter Try.func10, Try.ntmps10
            go_wp2_with fail
            refine HA.out.mono ?_
            rintro e w2 ⟨rfl, hb⟩
            go_wp2_with fail
            refine (valid_v (ax.keep hb) _ hx'.out).mono ?_
            rintro e w3 ⟨rfl, rfl⟩
            go_wp2_with fail
            refine (valid_v (ay.keep hb) _ hy'.out).mono ?_
            rintro e w3 ⟨rfl, rfl⟩
            replace nx := nx.keep hb
            replace ny := ny.keep hb
            go_wp2_with fail
            refine (add_v nx ny).mono ?_
            rw [F.1, F.2]
            rintro e w5 ⟨v1, rfl, n1, hc⟩
            replace nx := nx.keep hc
            replace ny := ny.keep hc
            replace hb := hb.trans (hc.mono hb.size)
            clear hc
            go_wp2_with fail
            refine (sub_v n1 ny).mono ?_
            rw [U1, U2]
            rintro e w6 ⟨v2, rfl, n2, hc⟩
            replace nx := nx.keep hc
            replace ny := ny.keep hc
            replace n1 := n1.keep hc
            replace hb := hb.trans (hc.mono hb.size)
            clear hc
            go_wp2_with fail
            refine (compare_v n1 nx).mono ?_
            rw [K]
            rintro e w7 ⟨rfl, hc⟩
            replace nx := nx.keep hc
            replace ny := ny.keep hc
            replace n1 := n1.keep hc
            replace n2 := n2.keep hc
            replace hb := hb.trans (hc.mono hb.size)
            clear hc
            go_wp2_with fail
            refine (same_yes n2 nx rfl).mono ?_
            rintro e w8 ⟨rfl, hc⟩
            replace nx := nx.keep hc
            replace ny := ny.keep hc
            replace n1 := n1.keep hc
            replace n2 := n2.keep hc
            replace hb := hb.trans (hc.mono hb.size)
            clear hc
            go_wp2_with fail
            refine (compare_v nx ny).mono ?_
            rw [K1]
            rintro e w9 ⟨rfl, hc⟩
            replace nx := nx.keep hc
            replace ny := ny.keep hc
            replace n1 := n1.keep hc
            replace n2 := n2.keep hc
            replace hb := hb.trans (hc.mono hb.size)
            clear hc
            go_wp2_with fail
            refine (compare_v ny nx).mono ?_
            rw [K2]
            rintro e w10 ⟨rfl, hc⟩
            replace nx := nx.keep hc
            replace ny := ny.keep hc
            replace n1 := n1.keep hc
            replace n2 := n2.keep hc
            replace hb := hb.trans (hc.mono hb.size)
            clear hc
            go_wp2_with fail
            refine (sub_v nx ny).mono ?_
            rw [U3]
            rintro e w11 ⟨v3, rfl, n3, hc⟩
            replace nx := nx.keep hc
            replace ny := ny.keep hc
            replace n1 := n1.keep hc
            replace n2 := n2.keep hc
            replace hb := hb.trans (hc.mono hb.size)
            clear hc
            go_wp2_with fail
            refine (same_yes nx ny he).mono ?_
            rintro e w12 ⟨rfl, hc⟩
            replace nx := nx.keep hc
            replace ny := ny.keep hc
            replace n1 := n1.keep hc
            replace n2 := n2.keep hc
            replace n3 := n3.keep hc
            replace hb := hb.trans (hc.mono hb.size)
            clear hc
            go_wp2_with fail
            refine (add_v n3 ny).mono ?_
            rw [U4, F3.1, F3.2]
            rintro e w13 ⟨v4, rfl, n4, hc⟩
            replace nx := nx.keep hc
            replace ny := ny.keep hc
            replace n1 := n1.keep hc
            replace n2 := n2.keep hc
            replace n3 := n3.keep hc
            replace hb := hb.trans (hc.mono hb.size)
            clear hc
            go_wp2_with fail
            refine (same_yes n4 nx rfl).mono ?_
            rintro e w14 ⟨rfl, hc⟩
            replace nx := nx.keep hc
            replace ny := ny.keep hc
            replace n1 := n1.keep hc
            replace n2 := n2.keep hc
            replace n3 := n3.keep hc
            replace n4 := n4.keep hc
            replace hb := hb.trans (hc.mono hb.size)
            clear hc
            go_wp2
            go_ret
            exact ⟨rfl, hb⟩
          · have K1 : ordv X Y = 1 := ordv_gt h
            have K2 : ordv Y X = -1 := ordv_lt h
            have U3 : subC X Y = 0 := if_neg (by omega)
            have U4 : X - Y + Y = X := by omega
            have F3 := fit_yes (N := X - Y + Y) (by rw [U4]; exact hlt)
            rw [U4] at F3
            have hne : ¬ X = Y := by omega
            clear hlt hy0 h
            go_enter Try.func10, Try.ntmps10
            go_wp2_with fail
            refine HA.out.mono ?_
            rintro e w2 ⟨rfl, hb⟩
            go_wp2_with fail
            refine (valid_v (ax.keep hb) _ hx'.out).mono ?_
            rintro e w3 ⟨rfl, rfl⟩
            go_wp2_with fail
            refine (valid_v (ay.keep hb) _ hy'.out).mono ?_
            rintro e w3 ⟨rfl, rfl⟩
            replace nx := nx.keep hb
            replace ny := ny.keep hb
            go_wp2_with fail
            refine (add_v nx ny).mono ?_
            rw [F.1, F.2]
            rintro e w5 ⟨v1, rfl, n1, hc⟩
            replace nx := nx.keep hc
            replace ny := ny.keep hc
            replace hb := hb.trans (hc.mono hb.size)
            clear hc
            go_wp2_with fail
            refine (sub_v n1 ny).mono ?_
            rw [U1, U2]
            rintro e w6 ⟨v2, rfl, n2, hc⟩
            replace nx := nx.keep hc
            replace ny := ny.keep hc
            replace n1 := n1.keep hc
            replace hb := hb.trans (hc.mono hb.size)
            clear hc
            go_wp2_with fail
            refine (compare_v n1 nx).mono ?_
            rw [K]
            rintro e w7 ⟨rfl, hc⟩
            replace nx := nx.keep hc
            replace ny := ny.keep hc
            replace n1 := n1.keep hc
            replace n2 := n2.keep hc
            replace hb := hb.trans (hc.mono hb.size)
            clear hc
            go_wp2_with fail
            refine (same_yes n2 nx rfl).mono ?_
            rintro e w8 ⟨rfl, hc⟩
            replace nx := nx.keep hc
            replace ny := ny.keep hc
            replace n1 := n1.keep hc
            replace n2 := n2.keep hc
            replace hb := hb.trans (hc.mono hb.size)
            clear hc
            go_wp2_with fail
            refine (compare_v nx ny).mono ?_
            rw [K1]
            rintro e w9 ⟨rfl, hc⟩
            replace nx := nx.keep hc
            replace ny := ny.keep hc
            replace n1 := n1.keep hc
            replace n2 := n2.keep hc
            replace hb := hb.trans (hc.mono hb.size)
            clear hc
            go_wp2_with fail
            refine (compare_v ny nx).mono ?_
            rw [K2]
            rintro e w10 ⟨rfl, hc⟩
            replace nx := nx.keep hc
            replace ny := ny.keep hc
            replace n1 := n1.keep hc
            replace n2 := n2.keep hc
            replace hb := hb.trans (hc.mono hb.size)
            clear hc
            go_wp2_with fail
            refine (sub_v nx ny).mono ?_
            rw [U3]
            rintro e w11 ⟨v3, rfl, n3, hc⟩
            replace nx := nx.keep hc
            replace ny := ny.keep hc
            replace n1 := n1.keep hc
            replace n2 := n2.keep hc
            replace hb := hb.trans (hc.mono hb.size)
            clear hc
            go_wp2_with fail
            refine (same_not nx ny hne).mono ?_
            rintro e w12 ⟨rfl, hc⟩
            replace nx := nx.keep hc
            replace ny := ny.keep hc
            replace n1 := n1.keep hc
            replace n2 := n2.keep hc
            replace n3 := n3.keep hc
            replace hb := hb.trans (hc.mono hb.size)
            clear hc
            go_wp2_with fail
            refine (add_v n3 ny).mono ?_
            rw [U4, F3.1, F3.2]
            rintro e w13 ⟨v4, rfl, n4, hc⟩
            replace nx := nx.keep hc
            replace ny := ny.keep hc
            replace n1 := n1.keep hc
            replace n2 := n2.keep hc
            replace n3 := n3.keep hc
            replace hb := hb.trans (hc.mono hb.size)
            clear hc
            go_wp2_with fail
            refine (same_yes n4 nx rfl).mono ?_
            rintro e w14 ⟨rfl, hc⟩
            replace nx := nx.keep hc
            replace ny := ny.keep hc
            replace n1 := n1.keep hc
            replace n2 := n2.keep hc
            replace n3 := n3.keep hc
            replace n4 := n4.keep hc
            replace hb := hb.trans (hc.mono hb.size)
            clear hc
            go_wp2
            go_ret
            exact ⟨rfl, hb⟩
      · have F := fit_no hf
        clear hf hlz
        rcases Nat.lt_trichotomy X Y with h | h | h
        · have K1 : ordv X Y = -1 := ordv_lt h
          have K2 : ordv Y X = 1 := ordv_gt h
          have U3 : subC X Y = 11 := if_pos h
          have hne : ¬ X = Y := by omega
          clear hlt h
          go_enter Try.func10, Try.ntmps10
          go_wp2_with fail
          refine HA.out.mono ?_
          rintro e w2 ⟨rfl, hb⟩
          go_wp2_with fail
          refine (valid_v (ax.keep hb) _ hx'.out).mono ?_
          rintro e w3 ⟨rfl, rfl⟩
          go_wp2_with fail
          refine (valid_v (ay.keep hb) _ hy'.out).mono ?_
          rintro e w3 ⟨rfl, rfl⟩
          replace nx := nx.keep hb
          replace ny := ny.keep hb
          go_wp2_with fail
          refine (add_v nx ny).mono ?_
          rw [F.1, F.2]
          rintro e w5 ⟨v1, rfl, n1, hc⟩
          replace nx := nx.keep hc
          replace ny := ny.keep hc
          replace hb := hb.trans (hc.mono hb.size)
          clear hc
          go_wp2_with fail
          refine (compare_v nx ny).mono ?_
          rw [K1]
          rintro e w6 ⟨rfl, hc⟩
          replace nx := nx.keep hc
          replace ny := ny.keep hc
          replace n1 := n1.keep hc
          replace hb := hb.trans (hc.mono hb.size)
          clear hc
          go_wp2_with fail
          refine (compare_v ny nx).mono ?_
          rw [K2]
          rintro e w7 ⟨rfl, hc⟩
          replace nx := nx.keep hc
          replace ny := ny.keep hc
          replace n1 := n1.keep hc
          replace hb := hb.trans (hc.mono hb.size)
          clear hc
          go_wp2_with fail
          refine (sub_v nx ny).mono ?_
          rw [U3]
          rintro e w8 ⟨v3, rfl, n3, hc⟩
          replace nx := nx.keep hc
          replace ny := ny.keep hc
          replace n1 := n1.keep hc
          replace hb := hb.trans (hc.mono hb.size)
          clear hc
          go_wp2_with fail
          refine (same_not nx ny hne).mono ?_
          rintro e w9 ⟨rfl, hc⟩
          replace nx := nx.keep hc
          replace ny := ny.keep hc
          replace n1 := n1.keep hc
          replace n3 := n3.keep hc
          replace hb := hb.trans (hc.mono hb.size)
          clear hc
          go_wp2
          go_ret
          exact ⟨rfl, hb⟩
        · have K1 : ordv X Y = 0 := ordv_eq h
          have K2 : ordv Y X = 0 := ordv_eq h.symm
          have U3 : subC X Y = 0 := if_neg (by omega)
          have U4 : X - Y + Y = X := by omega
          have F3 := fit_yes (N := X - Y + Y) (by rw [U4]; exact hlt)
          rw [U4] at F3
          have he : X = Y := h
          clear hlt h
          go_enter Try.func10, Try.ntmps10
          go_wp2_with fail
          refine HA.out.mono ?_
          rintro e w2 ⟨rfl, hb⟩
          go_wp2_with fail
          refine (valid_v (ax.keep hb) _ hx'.out).mono ?_
          rintro e w3 ⟨rfl, rfl⟩
          go_wp2_with fail
          refine (valid_v (ay.keep hb) _ hy'.out).mono ?_
          rintro e w3 ⟨rfl, rfl⟩
          replace nx := nx.keep hb
          replace ny := ny.keep hb
          go_wp2_with fail
          refine (add_v nx ny).mono ?_
          rw [F.1, F.2]
          rintro e w5 ⟨v1, rfl, n1, hc⟩
          replace nx := nx.keep hc
          replace ny := ny.keep hc
          replace hb := hb.trans (hc.mono hb.size)
          clear hc
          go_wp2_with fail
          refine (compare_v nx ny).mono ?_
          rw [K1]
          rintro e w6 ⟨rfl, hc⟩
          replace nx := nx.keep hc
          replace ny := ny.keep hc
          replace n1 := n1.keep hc
          replace hb := hb.trans (hc.mono hb.size)
          clear hc
          go_wp2_with fail
          refine (compare_v ny nx).mono ?_
          rw [K2]
          rintro e w7 ⟨rfl, hc⟩
          replace nx := nx.keep hc
          replace ny := ny.keep hc
          replace n1 := n1.keep hc
          replace hb := hb.trans (hc.mono hb.size)
          clear hc
          go_wp2_with fail
          refine (sub_v nx ny).mono ?_
          rw [U3]
          rintro e w8 ⟨v3, rfl, n3, hc⟩
          replace nx := nx.keep hc
          replace ny := ny.keep hc
          replace n1 := n1.keep hc
          replace hb := hb.trans (hc.mono hb.size)
          clear hc
          go_wp2_with fail
          refine (same_yes nx ny he).mono ?_
          rintro e w9 ⟨rfl, hc⟩
          replace nx := nx.keep hc
          replace ny := ny.keep hc
          replace n1 := n1.keep hc
          replace n3 := n3.keep hc
          replace hb := hb.trans (hc.mono hb.size)
          clear hc
          go_wp2_with fail
          refine (add_v n3 ny).mono ?_
          rw [U4, F3.1, F3.2]
          rintro e w10 ⟨v4, rfl, n4, hc⟩
          replace nx := nx.keep hc
          replace ny := ny.keep hc
          replace n1 := n1.keep hc
          replace n3 := n3.keep hc
          replace hb := hb.trans (hc.mono hb.size)
          clear hc
          go_wp2_with fail
          refine (same_yes n4 nx rfl).mono ?_
          rintro e w11 ⟨rfl, hc⟩
          replace nx := nx.keep hc
          replace ny := ny.keep hc
          replace n1 := n1.keep hc
          replace n3 := n3.keep hc
          replace n4 := n4.keep hc
          replace hb := hb.trans (hc.mono hb.size)
          clear hc
          go_wp2
          go_ret
          exact ⟨rfl, hb⟩
        · have K1 : ordv X Y = 1 := ordv_gt h
          have K2 : ordv Y X = -1 := ordv_lt h
          have U3 : subC X Y = 0 := if_neg (by omega)
          have U4 : X - Y + Y = X := by omega
          have F3 := fit_yes (N := X - Y + Y) (by rw [U4]; exact hlt)
          rw [U4] at F3
          have hne : ¬ X = Y := by omega
          clear hlt h
          go_enter Try.func10, Try.ntmps10
          go_wp2_with fail
          refine HA.out.mono ?_
          rintro e w2 ⟨rfl, hb⟩
          go_wp2_with fail
          refine (valid_v (ax.keep hb) _ hx'.out).mono ?_
          rintro e w3 ⟨rfl, rfl⟩
          go_wp2_with fail
          refine (valid_v (ay.keep hb) _ hy'.out).mono ?_
          rintro e w3 ⟨rfl, rfl⟩
          replace nx := nx.keep hb
          replace ny := ny.keep hb
          go_wp2_with fail
          refine (add_v nx ny).mono ?_
          rw [F.1, F.2]
          rintro e w5 ⟨v1, rfl, n1, hc⟩
          replace nx := nx.keep hc
          replace ny := ny.keep hc
          replace hb := hb.trans (hc.mono hb.size)
          clear hc
          go_wp2_with fail
          refine (compare_v nx ny).mono ?_
          rw [K1]
          rintro e w6 ⟨rfl, hc⟩
          replace nx := nx.keep hc
          replace ny := ny.keep hc
          replace n1 := n1.keep hc
          replace hb := hb.trans (hc.mono hb.size)
          clear hc
          go_wp2_with fail
          refine (compare_v ny nx).mono ?_
          rw [K2]
          rintro e w7 ⟨rfl, hc⟩
          replace nx := nx.keep hc
          replace ny := ny.keep hc
          replace n1 := n1.keep hc
          replace hb := hb.trans (hc.mono hb.size)
          clear hc
          go_wp2_with fail
          refine (sub_v nx ny).mono ?_
          rw [U3]
          rintro e w8 ⟨v3, rfl, n3, hc⟩
          replace nx := nx.keep hc
          replace ny := ny.keep hc
          replace n1 := n1.keep hc
          replace hb := hb.trans (hc.mono hb.size)
          clear hc
          go_wp2_with fail
          refine (same_not nx ny hne).mono ?_
          rintro e w9 ⟨rfl, hc⟩
          replace nx := nx.keep hc
          replace ny := ny.keep hc
          replace n1 := n1.keep hc
          replace n3 := n3.keep hc
          replace hb := hb.trans (hc.mono hb.size)
          clear hc
          go_wp2_with fail
          refine (add_v n3 ny).mono ?_
          rw [U4, F3.1, F3.2]
          rintro e w10 ⟨v4, rfl, n4, hc⟩
          replace nx := nx.keep hc
          replace ny := ny.keep hc
          replace n1 := n1.keep hc
          replace n3 := n3.keep hc
          replace hb := hb.trans (hc.mono hb.size)
          clear hc
          go_wp2_with fail
          refine (same_yes n4 nx rfl).mono ?_
          rintro e w11 ⟨rfl, hc⟩
          replace nx := nx.keep hc
          replace ny := ny.keep hc
          replace n1 := n1.keep hc
          replace n3 := n3.keep hc
          replace n4 := n4.keep hc
          replace hb := hb.trans (hc.mono hb.size)
          clear hc
          go_wp2
          go_ret
          exact ⟨rfl, hb⟩
end Go.Proofs.Ythplhlcdlnedfaa.numberBack
