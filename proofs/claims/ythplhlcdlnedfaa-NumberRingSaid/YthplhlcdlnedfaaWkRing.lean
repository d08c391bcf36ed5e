/- The walk over NumberRing. -/
import Derived.Test.YthplhlcdlnedfaaLawNum
namespace Go.Proofs.Ythplhlcdlnedfaa.numberRing
open Go.RowKit MN

set_option maxRecDepth 100000 in
set_option maxHeartbeats 2000000 in
theorem walk (a0 : Option Addr) (len0 cap0 : Nat) (z0 : List Int) (a1 : Option Addr) (len1 cap1 : Nat) (z1 : List Int) (a2 : Option Addr) (len2 cap2 : Nat) (z2 : List Int) (w : World) (w0 : IsRow .u32 w a0 len0 cap0 z0) (w1 : IsRow .u32 w a1 len1 cap1 z1) (w2 : IsRow .u32 w a2 len2 cap2 z2) :
    Calls Try.prog 9 #[.slice a0 len0 cap0, .slice a1 len1 cap1, .slice a2 len2 cap2] w fun e w' => e = .returned (.bool true) ∧ Below w.heap.size w w' := by
  obtain ⟨xs, ax⟩ := arg_of w0
  obtain ⟨ys, ay⟩ := arg_of w1
  obtain ⟨zs, az⟩ := arg_of w2
  clear w0 w1 w2
  have HA := Lib.hid (alive_any w)
  cases hx : vB xs
  · have hx' := Lib.hid hx
    clear hx
    go_enter Try.func9, Try.ntmps9
    go_wp2_with fail
    refine HA.out.mono ?_
    rintro e w2 ⟨rfl, hb⟩
    go_wp2_with fail
    refine (valid_v (ax.keep hb) _ hx'.out).mono ?_
    rintro e w3 ⟨rfl, rfl⟩
    go_wp2
    go_ret
    exact ⟨rfl, hb⟩
  · cases hy : vB ys
    · have hx' := Lib.hid hx
      have hy' := Lib.hid hy
      clear hx hy
      go_enter Try.func9, Try.ntmps9
      go_wp2_with fail
      refine HA.out.mono ?_
      rintro e w2 ⟨rfl, hb⟩
      go_wp2_with fail
      refine (valid_v (ax.keep hb) _ hx'.out).mono ?_
      rintro e w3 ⟨rfl, rfl⟩
      go_wp2_with fail
      refine (valid_v (ay.keep hb) _ hy'.out).mono ?_
      rintro e w3 ⟨rfl, rfl⟩
      go_wp2
      go_ret
      exact ⟨rfl, hb⟩
    · cases hz : vB zs
      · have hx' := Lib.hid hx
        have hy' := Lib.hid hy
        have hz' := Lib.hid hz
        clear hx hy hz
        go_enter Try.func9, Try.ntmps9
        go_wp2_with fail
        refine HA.out.mono ?_
        rintro e w2 ⟨rfl, hb⟩
        go_wp2_with fail
        refine (valid_v (ax.keep hb) _ hx'.out).mono ?_
        rintro e w3 ⟨rfl, rfl⟩
        go_wp2_with fail
        refine (valid_v (ay.keep hb) _ hy'.out).mono ?_
        rintro e w3 ⟨rfl, rfl⟩
        go_wp2_with fail
        refine (valid_v (az.keep hb) _ hz'.out).mono ?_
        rintro e w3 ⟨rfl, rfl⟩
        go_wp2
        go_ret
        exact ⟨rfl, hb⟩
      · have nx := ax.nm (vB_yes hx)
        have ny := ay.nm (vB_yes hy)
        have nz := az.nm (vB_yes hz)
        have hx' := Lib.hid hx
        have hy' := Lib.hid hy
        have hz' := Lib.hid hz
        clear hx hy hz
        obtain ⟨X, hX⟩ : ∃ X, X = nv xs := ⟨_, rfl⟩
        obtain ⟨Y, hY⟩ : ∃ Y, Y = nv ys := ⟨_, rfl⟩
        obtain ⟨Z, hZ⟩ : ∃ Z, Z = nv zs := ⟨_, rfl⟩
        rw [← hX] at nx
        rw [← hY] at ny
        rw [← hZ] at nz
        clear hX hY hZ
        by_cases h1 : X + Y < 4294967296 ^ 16
        · have F1 := fit_yes h1
          by_cases h2 : X * Y < 4294967296 ^ 16
          · have F2 := fit_yes h2
            by_cases h3 : (X + Y) * Z < 4294967296 ^ 16
            · have F3 := fit_yes h3
              have E1 : X * Z + Y * Z = (X + Y) * Z := (Nat.add_mul X Y Z).symm
              have E2 : X * (Y * Z) = X * Y * Z := (Nat.mul_assoc X Y Z).symm
              have F4 := fit_yes (N := X * Z) (by omega)
              have F5 := fit_yes (N := Y * Z) (by omega)
              clear h1 h2 h3
              go_enter Try.func9, Try.ntmps9
              go_wp2_with fail
              refine HA.out.mono ?_
              rintro e w2 ⟨rfl, hb⟩
              go_wp2_with fail
              refine (valid_v (ax.keep hb) _ hx'.out).mono ?_
              rintro e w3 ⟨rfl, rfl⟩
              go_wp2_with fail
              refine (valid_v (ay.keep hb) _ hy'.out).mono ?_
              rintro e w3 ⟨rfl, rfl⟩
              go_wp2_with fail
              refine (valid_v (az.keep hb) _ hz'.out).mono ?_
              rintro e w3 ⟨rfl, rfl⟩
              replace nx := nx.keep hb
              replace ny := ny.keep hb
              replace nz := nz.keep hb
              go_wp2_with fail
              refine (add_v nx ny).mono ?_
              rw [F1.1, F1.2]
              rintro e w5 ⟨v1, rfl, n1, hc⟩
              replace nx := nx.keep hc
              replace ny := ny.keep hc
              replace nz := nz.keep hc
              replace hb := hb.trans (hc.mono hb.size)
              clear hc
              go_wp2_with fail
              refine (add_v ny nx).mono ?_
              rw [Nat.add_comm Y X, F1.1, F1.2]
              rintro e w6 ⟨v2, rfl, n2, hc⟩
              replace nx := nx.keep hc
              replace ny := ny.keep hc
              replace nz := nz.keep hc
              replace n1 := n1.keep hc
              replace hb := hb.trans (hc.mono hb.size)
              clear hc
              go_wp2_with fail
              refine (mul_v nx ny).mono ?_
              rw [F2.1, F2.2]
              rintro e w7 ⟨v3, rfl, n3, hc⟩
              replace nx := nx.keep hc
              replace ny := ny.keep hc
              replace nz := nz.keep hc
              replace n1 := n1.keep hc
              replace n2 := n2.keep hc
              replace hb := hb.trans (hc.mono hb.size)
              clear hc
              go_wp2_with fail
              refine (mul_v ny nx).mono ?_
              rw [Nat.mul_comm Y X, F2.1, F2.2]
              rintro e w8 ⟨v4, rfl, n4, hc⟩
              replace nx := nx.keep hc
              replace ny := ny.keep hc
              replace nz := nz.keep hc
              replace n1 := n1.keep hc
              replace n2 := n2.keep hc
              replace n3 := n3.keep hc
              replace hb := hb.trans (hc.mono hb.size)
              clear hc
              go_wp2_with fail
              refine (same_yes n1 n2 rfl).mono ?_
              rintro e w9 ⟨rfl, hc⟩
              replace nx := nx.keep hc
              replace ny := ny.keep hc
              replace nz := nz.keep hc
              replace n1 := n1.keep hc
              replace n2 := n2.keep hc
              replace n3 := n3.keep hc
              replace n4 := n4.keep hc
              replace hb := hb.trans (hc.mono hb.size)
              clear hc
              go_wp2_with fail
              refine (same_yes n3 n4 rfl).mono ?_
              rintro e w10 ⟨rfl, hc⟩
              replace nx := nx.keep hc
              replace ny := ny.keep hc
              replace nz := nz.keep hc
              replace n1 := n1.keep hc
              replace n2 := n2.keep hc
              replace n3 := n3.keep hc
              replace n4 := n4.keep hc
              replace hb := hb.trans (hc.mono hb.size)
              clear hc
              go_wp2_with fail
              refine (mul_v n1 nz).mono ?_
              rw [F3.1, F3.2]
              rintro e w11 ⟨v5, rfl, n5, hc⟩
              replace nx := nx.keep hc
              replace ny := ny.keep hc
              replace nz := nz.keep hc
              replace n1 := n1.keep hc
              replace n2 := n2.keep hc
              replace n3 := n3.keep hc
              replace n4 := n4.keep hc
              replace hb := hb.trans (hc.mono hb.size)
              clear hc
              go_wp2_with fail
              refine (mul_v nx nz).mono ?_
              rw [F4.1, F4.2]
              rintro e w12 ⟨v6, rfl, n6, hc⟩
              replace nx := nx.keep hc
              replace ny := ny.keep hc
              replace nz := nz.keep hc
              replace n1 := n1.keep hc
              replace n2 := n2.keep hc
              replace n3 := n3.keep hc
              replace n4 := n4.keep hc
              replace n5 := n5.keep hc
              replace hb := hb.trans (hc.mono hb.size)
              clear hc
              go_wp2_with fail
              refine (mul_v ny nz).mono ?_
              rw [F5.1, F5.2]
              rintro e w13 ⟨v7, rfl, n7, hc⟩
              replace nx := nx.keep hc
              replace ny := ny.keep hc
              replace nz := nz.keep hc
              replace n1 := n1.keep hc
              replace n2 := n2.keep hc
              replace n3 := n3.keep hc
              replace n4 := n4.keep hc
              replace n5 := n5.keep hc
              replace n6 := n6.keep hc
              replace hb := hb.trans (hc.mono hb.size)
              clear hc
              go_wp2_with fail
              refine (add_v n6 n7).mono ?_
              rw [E1, F3.1, F3.2]
              rintro e w14 ⟨v8, rfl, n8, hc⟩
              replace nx := nx.keep hc
              replace ny := ny.keep hc
              replace nz := nz.keep hc
              replace n1 := n1.keep hc
              replace n2 := n2.keep hc
              replace n3 := n3.keep hc
              replace n4 := n4.keep hc
              replace n5 := n5.keep hc
              replace n6 := n6.keep hc
              replace n7 := n7.keep hc
              replace hb := hb.trans (hc.mono hb.size)
              clear hc
              go_wp2_with fail
              refine (mul_v n3 nz).mono ?_
              rintro e w15 ⟨v9, rfl, n9, hc⟩
              replace nx := nx.keep hc
              replace ny := ny.keep hc
              replace nz := nz.keep hc
              replace n1 := n1.keep hc
              replace n2 := n2.keep hc
              replace n3 := n3.keep hc
              replace n4 := n4.keep hc
              replace n5 := n5.keep hc
              replace n6 := n6.keep hc
              replace n7 := n7.keep hc
              replace n8 := n8.keep hc
              replace hb := hb.trans (hc.mono hb.size)
              clear hc
              go_wp2_with fail
              refine (mul_v nx n7).mono ?_
              rw [E2]
              rintro e w16 ⟨v10, rfl, n10, hc⟩
              replace nx := nx.keep hc
              replace ny := ny.keep hc
              replace nz := nz.keep hc
              replace n1 := n1.keep hc
              replace n2 := n2.keep hc
              replace n3 := n3.keep hc
              replace n4 := n4.keep hc
              replace n5 := n5.keep hc
              replace n6 := n6.keep hc
              replace n7 := n7.keep hc
              replace n8 := n8.keep hc
              replace n9 := n9.keep hc
              replace hb := hb.trans (hc.mono hb.size)
              clear hc
              go_wp2_with fail
              refine (same_yes n5 n8 rfl).mono ?_
              rintro e w17 ⟨rfl, hc⟩
              replace nx := nx.keep hc
              replace ny := ny.keep hc
              replace nz := nz.keep hc
              replace n1 := n1.keep hc
              replace n2 := n2.keep hc
              replace n3 := n3.keep hc
              replace n4 := n4.keep hc
              replace n5 := n5.keep hc
              replace n6 := n6.keep hc
              replace n7 := n7.keep hc
              replace n8 := n8.keep hc
              replace n9 := n9.keep hc
              replace n10 := n10.keep hc
              replace hb := hb.trans (hc.mono hb.size)
              clear hc
              go_wp2_with fail
              refine (same_yes n9 n10 rfl).mono ?_
              rintro e w18 ⟨rfl, hc⟩
              replace nx := nx.keep hc
              replace ny := ny.keep hc
              replace nz := nz.keep hc
              replace n1 := n1.keep hc
              replace n2 := n2.keep hc
              replace n3 := n3.keep hc
              replace n4 := n4.keep hc
              replace n5 := n5.keep hc
              replace n6 := n6.keep hc
              replace n7 := n7.keep hc
              replace n8 := n8.keep hc
              replace n9 := n9.keep hc
              replace n10 := n10.keep hc
              replace hb := hb.trans (hc.mono hb.size)
              clear hc
              go_wp2
              go_ret
              exact ⟨rfl, hb⟩
            · have F3 := fit_no h3
              clear h1 h2 h3
              go_enter Try.func9, Try.ntmps9
              go_wp2_with fail
              refine HA.out.mono ?_
              rintro e w2 ⟨rfl, hb⟩
              go_wp2_with fail
              refine (valid_v (ax.keep hb) _ hx'.out).mono ?_
              rintro e w3 ⟨rfl, rfl⟩
              go_wp2_with fail
              refine (valid_v (ay.keep hb) _ hy'.out).mono ?_
              rintro e w3 ⟨rfl, rfl⟩
              go_wp2_with fail
              refine (valid_v (az.keep hb) _ hz'.out).mono ?_
              rintro e w3 ⟨rfl, rfl⟩
              replace nx := nx.keep hb
              replace ny := ny.keep hb
              replace nz := nz.keep hb
              go_wp2_with fail
              refine (add_v nx ny).mono ?_
              rw [F1.1, F1.2]
              rintro e w5 ⟨v1, rfl, n1, hc⟩
              replace nx := nx.keep hc
              replace ny := ny.keep hc
              replace nz := nz.keep hc
              replace hb := hb.trans (hc.mono hb.size)
              clear hc
              go_wp2_with fail
              refine (add_v ny nx).mono ?_
              rw [Nat.add_comm Y X, F1.1, F1.2]
              rintro e w6 ⟨v2, rfl, n2, hc⟩
              replace nx := nx.keep hc
              replace ny := ny.keep hc
              replace nz := nz.keep hc
              replace n1 := n1.keep hc
              replace hb := hb.trans (hc.mono hb.size)
              clear hc
              go_wp2_with fail
              refine (mul_v nx ny).mono ?_
              rw [F2.1, F2.2]
              rintro e w7 ⟨v3, rfl, n3, hc⟩
              replace nx := nx.keep hc
              replace ny := ny.keep hc
              replace nz := nz.keep hc
              replace n1 := n1.keep hc
              replace n2 := n2.keep hc
              replace hb := hb.trans (hc.mono hb.size)
              clear hc
              go_wp2_with fail
              refine (mul_v ny nx).mono ?_
              rw [Nat.mul_comm Y X, F2.1, F2.2]
              rintro e w8 ⟨v4, rfl, n4, hc⟩
              replace nx := nx.keep hc
              replace ny := ny.keep hc
              replace nz := nz.keep hc
              replace n1 := n1.keep hc
              replace n2 := n2.keep hc
              replace n3 := n3.keep hc
              replace hb := hb.trans (hc.mono hb.size)
              clear hc
              go_wp2_with fail
              refine (same_yes n1 n2 rfl).mono ?_
              rintro e w9 ⟨rfl, hc⟩
              replace nx := nx.keep hc
              replace ny := ny.keep hc
              replace nz := nz.keep hc
              replace n1 := n1.keep hc
              replace n2 := n2.keep hc
              replace n3 := n3.keep hc
              replace n4 := n4.keep hc
              replace hb := hb.trans (hc.mono hb.size)
              clear hc
              go_wp2_with fail
              refine (same_yes n3 n4 rfl).mono ?_
              rintro e w10 ⟨rfl, hc⟩
              replace nx := nx.keep hc
              replace ny := ny.keep hc
              replace nz := nz.keep hc
              replace n1 := n1.keep hc
              replace n2 := n2.keep hc
              replace n3 := n3.keep hc
              replace n4 := n4.keep hc
              replace hb := hb.trans (hc.mono hb.size)
              clear hc
              go_wp2_with fail
              refine (mul_v n1 nz).mono ?_
              rw [F3.1, F3.2]
              rintro e w11 ⟨v5, rfl, n5, hc⟩
              replace nx := nx.keep hc
              replace ny := ny.keep hc
              replace nz := nz.keep hc
              replace n1 := n1.keep hc
              replace n2 := n2.keep hc
              replace n3 := n3.keep hc
              replace n4 := n4.keep hc
              replace hb := hb.trans (hc.mono hb.size)
              clear hc
              go_wp2_with fail
              refine (mul_v nx nz).mono ?_
              rintro e w12 ⟨v6, rfl, n6, hc⟩
              replace nx := nx.keep hc
              replace ny := ny.keep hc
              replace nz := nz.keep hc
              replace n1 := n1.keep hc
              replace n2 := n2.keep hc
              replace n3 := n3.keep hc
              replace n4 := n4.keep hc
              replace n5 := n5.keep hc
              replace hb := hb.trans (hc.mono hb.size)
              clear hc
              go_wp2_with fail
              refine (mul_v ny nz).mono ?_
              rintro e w13 ⟨v7, rfl, n7, hc⟩
              replace nx := nx.keep hc
              replace ny := ny.keep hc
              replace nz := nz.keep hc
              replace n1 := n1.keep hc
              replace n2 := n2.keep hc
              replace n3 := n3.keep hc
              replace n4 := n4.keep hc
              replace n5 := n5.keep hc
              replace n6 := n6.keep hc
              replace hb := hb.trans (hc.mono hb.size)
              clear hc
              go_wp2
              go_ret
              exact ⟨rfl, hb⟩
          · have F2 := fit_no h2
            clear h1 h2
            go_enter Try.func9, Try.ntmps9
            go_wp2_with fail
            refine HA.out.mono ?_
            rintro e w2 ⟨rfl, hb⟩
            go_wp2_with fail
            refine (valid_v (ax.keep hb) _ hx'.out).mono ?_
            rintro e w3 ⟨rfl, rfl⟩
            go_wp2_with fail
            refine (valid_v (ay.keep hb) _ hy'.out).mono ?_
            rintro e w3 ⟨rfl, rfl⟩
            go_wp2_with fail
            refine (valid_v (az.keep hb) _ hz'.out).mono ?_
            rintro e w3 ⟨rfl, rfl⟩
            replace nx := nx.keep hb
            replace ny := ny.keep hb
            replace nz := nz.keep hb
            go_wp2_with fail
            refine (add_v nx ny).mono ?_
            rw [F1.1, F1.2]
            rintro e w5 ⟨v1, rfl, n1, hc⟩
            replace nx := nx.keep hc
            replace ny := ny.keep hc
            replace nz := nz.keep hc
            replace hb := hb.trans (hc.mono hb.size)
            clear hc
            go_wp2_with fail
            refine (add_v ny nx).mono ?_
            rw [Nat.add_comm Y X, F1.1, F1.2]
            rintro e w6 ⟨v2, rfl, n2, hc⟩
            replace nx := nx.keep hc
            replace ny := ny.keep hc
            replace nz := nz.keep hc
            replace n1 := n1.keep hc
            replace hb := hb.trans (hc.mono hb.size)
            clear hc
            go_wp2_with fail
            refine (mul_v nx ny).mono ?_
            rw [F2.1, F2.2]
            rintro e w7 ⟨v3, rfl, n3, hc⟩
            replace nx := nx.keep hc
            replace ny := ny.keep hc
            replace nz := nz.keep hc
            replace n1 := n1.keep hc
            replace n2 := n2.keep hc
            replace hb := hb.trans (hc.mono hb.size)
            clear hc
            go_wp2_with fail
            refine (mul_v ny nx).mono ?_
            rw [Nat.mul_comm Y X, F2.1, F2.2]
            rintro e w8 ⟨v4, rfl, n4, hc⟩
            replace nx := nx.keep hc
            replace ny := ny.keep hc
            replace nz := nz.keep hc
            replace n1 := n1.keep hc
            replace n2 := n2.keep hc
            replace n3 := n3.keep hc
            replace hb := hb.trans (hc.mono hb.size)
            clear hc
            go_wp2_with fail
            refine (same_yes n1 n2 rfl).mono ?_
            rintro e w9 ⟨rfl, hc⟩
            replace nx := nx.keep hc
            replace ny := ny.keep hc
            replace nz := nz.keep hc
            replace n1 := n1.keep hc
            replace n2 := n2.keep hc
            replace n3 := n3.keep hc
            replace n4 := n4.keep hc
            replace hb := hb.trans (hc.mono hb.size)
            clear hc
            go_wp2_with fail
            refine (same_yes n3 n4 rfl).mono ?_
            rintro e w10 ⟨rfl, hc⟩
            replace nx := nx.keep hc
            replace ny := ny.keep hc
            replace nz := nz.keep hc
            replace n1 := n1.keep hc
            replace n2 := n2.keep hc
            replace n3 := n3.keep hc
            replace n4 := n4.keep hc
            replace hb := hb.trans (hc.mono hb.size)
            clear hc
            go_wp2
            go_ret
            exact ⟨rfl, hb⟩
        · have F1 := fit_no h1
          by_cases h2 : X * Y < 4294967296 ^ 16
          · have F2 := fit_yes h2
            clear h1 h2
            go_enter Try.func9, Try.ntmps9
            go_wp2_with fail
            refine HA.out.mono ?_
            rintro e w2 ⟨rfl, hb⟩
            go_wp2_with fail
            refine (valid_v (ax.keep hb) _ hx'.out).mono ?_
            rintro e w3 ⟨rfl, rfl⟩
            go_wp2_with fail
            refine (valid_v (ay.keep hb) _ hy'.out).mono ?_
            rintro e w3 ⟨rfl, rfl⟩
            go_wp2_with fail
            refine (valid_v (az.keep hb) _ hz'.out).mono ?_
            rintro e w3 ⟨rfl, rfl⟩
            replace nx := nx.keep hb
            replace ny := ny.keep hb
            replace nz := nz.keep hb
            go_wp2_with fail
            refine (add_v nx ny).mono ?_
            rw [F1.1, F1.2]
            rintro e w5 ⟨v1, rfl, n1, hc⟩
            replace nx := nx.keep hc
            replace ny := ny.keep hc
            replace nz := nz.keep hc
            replace hb := hb.trans (hc.mono hb.size)
            clear hc
            go_wp2_with fail
            refine (add_v ny nx).mono ?_
            rw [Nat.add_comm Y X, F1.1, F1.2]
            rintro e w6 ⟨v2, rfl, n2, hc⟩
            replace nx := nx.keep hc
            replace ny := ny.keep hc
            replace nz := nz.keep hc
            replace n1 := n1.keep hc
            replace hb := hb.trans (hc.mono hb.size)
            clear hc
            go_wp2_with fail
            refine (mul_v nx ny).mono ?_
            rw [F2.1, F2.2]
            rintro e w7 ⟨v3, rfl, n3, hc⟩
            replace nx := nx.keep hc
            replace ny := ny.keep hc
            replace nz := nz.keep hc
            replace n1 := n1.keep hc
            replace n2 := n2.keep hc
            replace hb := hb.trans (hc.mono hb.size)
            clear hc
            go_wp2_with fail
            refine (mul_v ny nx).mono ?_
            rw [Nat.mul_comm Y X, F2.1, F2.2]
            rintro e w8 ⟨v4, rfl, n4, hc⟩
            replace nx := nx.keep hc
            replace ny := ny.keep hc
            replace nz := nz.keep hc
            replace n1 := n1.keep hc
            replace n2 := n2.keep hc
            replace n3 := n3.keep hc
            replace hb := hb.trans (hc.mono hb.size)
            clear hc
            go_wp2_with fail
            refine (same_yes n1 n2 rfl).mono ?_
            rintro e w9 ⟨rfl, hc⟩
            replace nx := nx.keep hc
            replace ny := ny.keep hc
            replace nz := nz.keep hc
            replace n1 := n1.keep hc
            replace n2 := n2.keep hc
            replace n3 := n3.keep hc
            replace n4 := n4.keep hc
            replace hb := hb.trans (hc.mono hb.size)
            clear hc
            go_wp2_with fail
            refine (same_yes n3 n4 rfl).mono ?_
            rintro e w10 ⟨rfl, hc⟩
            replace nx := nx.keep hc
            replace ny := ny.keep hc
            replace nz := nz.keep hc
            replace n1 := n1.keep hc
            replace n2 := n2.keep hc
            replace n3 := n3.keep hc
            replace n4 := n4.keep hc
            replace hb := hb.trans (hc.mono hb.size)
            clear hc
            go_wp2
            go_ret
            exact ⟨rfl, hb⟩
          · have F2 := fit_no h2
            clear h1 h2
            go_enter Try.func9, Try.ntmps9
            go_wp2_with fail
            refine HA.out.mono ?_
            rintro e w2 ⟨rfl, hb⟩
            go_wp2_with fail
            refine (valid_v (ax.keep hb) _ hx'.out).mono ?_
            rintro e w3 ⟨rfl, rfl⟩
            go_wp2_with fail
            refine (valid_v (ay.keep hb) _ hy'.out).mono ?_
            rintro e w3 ⟨rfl, rfl⟩
            go_wp2_with fail
            refine (valid_v (az.keep hb) _ hz'.out).mono ?_
            rintro e w3 ⟨rfl, rfl⟩
            replace nx := nx.keep hb
            replace ny := ny.keep hb
            replace nz := nz.keep hb
            go_wp2_with fail
            refine (add_v nx ny).mono ?_
            rw [F1.1, F1.2]
            rintro e w5 ⟨v1, rfl, n1, hc⟩
            replace nx := nx.keep hc
            replace ny := ny.keep hc
            replace nz := nz.keep hc
            replace hb := hb.trans (hc.mono hb.size)
            clear hc
            go_wp2_with fail
            refine (add_v ny nx).mono ?_
            rw [Nat.add_comm Y X, F1.1, F1.2]
            rintro e w6 ⟨v2, rfl, n2, hc⟩
            replace nx := nx.keep hc
            replace ny := ny.keep hc
            replace nz := nz.keep hc
            replace n1 := n1.keep hc
            replace hb := hb.trans (hc.mono hb.size)
            clear hc
            go_wp2_with fail
            refine (mul_v nx ny).mono ?_
            rw [F2.1, F2.2]
            rintro e w7 ⟨v3, rfl, n3, hc⟩
            replace nx := nx.keep hc
            replace ny := ny.keep hc
            replace nz := nz.keep hc
            replace n1 := n1.keep hc
            replace n2 := n2.keep hc
            replace hb := hb.trans (hc.mono hb.size)
            clear hc
            go_wp2_with fail
            refine (mul_v ny nx).mono ?_
            rw [Nat.mul_comm Y X, F2.1, F2.2]
            rintro e w8 ⟨v4, rfl, n4, hc⟩
            replace nx := nx.keep hc
            replace ny := ny.keep hc
            replace nz := nz.keep hc
            replace n1 := n1.keep hc
            replace n2 := n2.keep hc
            replace n3 := n3.keep hc
            replace hb := hb.trans (hc.mono hb.size)
            clear hc
            go_wp2_with fail
            refine (same_yes n1 n2 rfl).mono ?_
            rintro e w9 ⟨rfl, hc⟩
            replace nx := nx.keep hc
            replace ny := ny.keep hc
            replace nz := nz.keep hc
            replace n1 := n1.keep hc
            replace n2 := n2.keep hc
            replace n3 := n3.keep hc
            replace n4 := n4.keep hc
            replace hb := hb.trans (hc.mono hb.size)
            clear hc
            go_wp2_with fail
            refine (same_yes n3 n4 rfl).mono ?_
            rintro e w10 ⟨rfl, hc⟩
            replace nx := nx.keep hc
            replace ny := ny.keep hc
            replace nz := nz.keep hc
            replace n1 := n1.keep hc
            replace n2 := n2.keep hc
            replace n3 := n3.keep hc
            replace n4 := n4.keep hc
            replace hb := hb.trans (hc.mono hb.size)
            clear hc
            go_wp2
            go_ret
            exact ⟨rfl, hb⟩
end Go.Proofs.Ythplhlcdlnedfaa.numberRing
