/- The walk over NumberElements. -/
import Derived.Test.YthplhlcdlnedfaaLawBase
import Derived.Deep.RegionHeld3
namespace Go.Proofs.Ythplhlcdlnedfaa.numberElements
open Go.RowKit MN

theorem pow_one (G P d k : Nat) (h : G ^ d % P = 1) : G ^ (d * k) % P = 1 % P := by
  rw [Nat.pow_mul, Nat.pow_mod, h, Nat.one_pow]
theorem pow_red (G P Q r k : Nat) (h : G ^ Q % P = 1) : G ^ (Q * k + r) % P = G ^ r % P := by
  rw [Nat.pow_add, Nat.mul_mod, pow_one G P Q k h, ← Nat.mul_mod, Nat.one_mul]
theorem pow_mod_q (G P Q i : Nat) (h : G ^ Q % P = 1) : G ^ i % P = G ^ (i % Q) % P := by
  have := pow_red G P Q (i % Q) (i / Q) h
  rw [Nat.div_add_mod] at this
  exact this
/-- No smaller power of G is 1. -/
theorem no_less (G P Q : Nat) (hQ : MA.IsPr Q) (h2 : 2 ≤ G) (hG : G < P) (h : G ^ Q % P = 1) : ∀ d, 0 < d → d < Q → G ^ d % P ≠ 1 := by
  intro d
  induction d using Nat.strongRecOn with
  | _ d ih =>
    intro hd hdQ hone
    by_cases h1 : d = 1
    · subst h1
      rw [Nat.pow_one, Nat.mod_eq_of_lt hG] at hone
      omega
    · have hr := MA.pr_no_div Q d hQ (by omega) hdQ
      have hlt := Nat.mod_lt Q hd
      refine ih (Q % d) hlt (Nat.pos_of_ne_zero hr) (by omega) ?_
      have := pow_mod_q G P d Q hone
      rw [← this, h]
theorem ne_of_lt (G P Q a b : Nat) (hQ : MA.IsPr Q) (h2 : 2 ≤ G) (hG : G < P) (h : G ^ Q % P = 1) (hab : a < b) (hb : b < Q) : G ^ a % P ≠ G ^ b % P := by
  intro e
  have e1 : G ^ (Q - a) * G ^ a = G ^ Q := by rw [← Nat.pow_add]; congr 1; omega
  have e2 : G ^ (Q - a) * G ^ b = G ^ (Q * 1 + (b - a)) := by rw [← Nat.pow_add]; congr 1; omega
  have e3 : G ^ (Q - a) * G ^ a % P = G ^ (Q - a) * G ^ b % P := by rw [Nat.mul_mod, e, ← Nat.mul_mod]
  rw [e1, e2, pow_red G P Q (b - a) 1 h, h] at e3
  exact no_less G P Q hQ h2 hG h (b - a) (by omega) (by omega) e3.symm
theorem pow_eq_iff (G P Q i j : Nat) (hQ : MA.IsPr Q) (h2 : 2 ≤ G) (hG : G < P) (h : G ^ Q % P = 1) : G ^ i % P = G ^ j % P ↔ i % Q = j % Q := by
  have hq : 0 < Q := by have := hQ.1; omega
  rw [pow_mod_q G P Q i h, pow_mod_q G P Q j h]
  constructor
  · intro e
    rcases Nat.lt_trichotomy (i % Q) (j % Q) with k | k | k
    · exact absurd e (ne_of_lt G P Q _ _ hQ h2 hG h k (Nat.mod_lt _ hq))
    · exact k
    · exact absurd e.symm (ne_of_lt G P Q _ _ hQ h2 hG h k (Nat.mod_lt _ hq))
  · intro e; rw [e]

theorem prime_pr (n : Nat) (h : n ≤ 1048575) (hp : MA.IsPr n) (w : World) : Calls Try.prog 39 #[.int .u64 (n : Int)] w fun e w' => e = .returned (.tuple #[.bool true, .int .i64 0]) ∧ w = w' := by
  have H := prime_any (n : Int) w (by omega)
  rw [show prb n = true by rw [prb, if_neg (by omega)]; exact prv_yes n hp, show prc n = 0 by rw [prc, if_neg (by omega)]] at H
  exact H

set_option maxRecDepth 100000 in
set_option maxHeartbeats 2000000 in
theorem walkN (p q g i j : Nat) (hp : p ≤ 18446744073709551615) (hq : q ≤ 18446744073709551615) (hi : i ≤ 18446744073709551615) (hj : j ≤ 18446744073709551615) (w : World) :
    Calls Try.prog 17 #[.agg #[.int .u64 (p : Int), .int .u64 (q : Int), .int .u64 (g : Int)], .int .u64 (i : Int), .int .u64 (j : Int)] w fun e w' => e = .returned (.bool true) ∧ Below w.heap.size w w' := by
  obtain ⟨wb, hwb⟩ : ∃ wb, wb = w.alloc (.cells #[.int .u64 (p : Int), .int .u64 (q : Int), .int .u64 (g : Int)] 53) := ⟨_, rfl⟩
  have hB : Below w.heap.size w wb := by rw [hwb]; exact (Below.refl _ _).alloc (Nat.le_refl _) _
  have hs : w.heap.size < wb.heap.size := by rw [hwb]; simp
  have c0 : wb.cell? ⟨w.heap.size, 0, none⟩ = some (.int .u64 (p : Int)) := by rw [hwb, World.cell?_alloc_at (hn := by simp)]; rfl
  have c1 : wb.cell? ⟨w.heap.size, 1, none⟩ = some (.int .u64 (q : Int)) := by rw [hwb, World.cell?_alloc_at (hn := by simp)]; rfl
  have c2 : wb.cell? ⟨w.heap.size, 2, none⟩ = some (.int .u64 (g : Int)) := by rw [hwb, World.cell?_alloc_at (hn := by simp)]; rfl
  have HW := Lib.hid hwb
  clear hwb
  -- what the cells are in every later world
  have HC : Hid (∀ wx, Below wb.heap.size wb wx → wx.cell? ⟨w.heap.size, 0, none⟩ = some (.int .u64 (p : Int)) ∧ wx.cell? ⟨w.heap.size, 1, none⟩ = some (.int .u64 (q : Int)) ∧ wx.cell? ⟨w.heap.size, 2, none⟩ = some (.int .u64 (g : Int))) :=
    Lib.hid (fun wx hx => ⟨(hx.cell (p := ⟨w.heap.size, 0, none⟩) hs).trans c0, (hx.cell (p := ⟨w.heap.size, 1, none⟩) hs).trans c1, (hx.cell (p := ⟨w.heap.size, 2, none⟩) hs).trans c2⟩)
  have HA := Lib.hid (alive_any wb)
  clear c0 c1 c2
  by_cases hok : GrOk p q g
  · obtain ⟨k1, k2, k3, k4, k5, k6, k7, k8⟩ := hok
    have hok : GrOk p q g := ⟨k1, k2, k3, k4, k5, k6, k7, k8⟩
    have E1 := Lib.hid (fun (w : World) => validGroup_any (p : Int) (q : Int) (g : Int) w (by omega) (by omega) (by omega))
    have E2 := Lib.hid (fun (w : World) => checkGroup_any (p : Int) (q : Int) (g : Int) w (by omega) (by omega) (by omega) (by omega))
    rw [grb_yes p q g hok] at E1
    rw [grc_yes p q g hok] at E2
    have hiff := pow_eq_iff g p q i j k4 k6 k7 k8
    have V1 := Lib.hid (fun (w : World) => powMod_any (g : Int) (i : Int) (p : Int) w (by omega) (by omega) (by omega))
    have V2 := Lib.hid (fun (w : World) => powMod_any (g : Int) (j : Int) (p : Int) w (by omega) (by omega) (by omega))
    rw [pmv_nat g i p (by omega) (by omega), pmc_yes p (by omega) (by omega)] at V1
    rw [pmv_nat g j p (by omega) (by omega), pmc_yes p (by omega) (by omega)] at V2
    have V3 := Lib.hid (prime_pr p k1 k2)
    have V4 := Lib.hid (prime_pr q k3 k4)
    obtain ⟨X, hX⟩ : ∃ X, X = g ^ i % p := ⟨_, rfl⟩
    obtain ⟨Y, hY⟩ : ∃ Y, Y = g ^ j % p := ⟨_, rfl⟩
    obtain ⟨E, hE⟩ : ∃ E, E = i % q := ⟨_, rfl⟩
    obtain ⟨F, hF⟩ : ∃ F, F = j % q := ⟨_, rfl⟩
    have r1 : (i : Int) % (q : Int) = (E : Int) := by rw [hE]; rfl
    have r2 : (j : Int) % (q : Int) = (F : Int) := by rw [hF]; rfl
    have hq0 : ((q : Int) == 0) = false := by have := k4.1; rw [beq_eq_false_iff_ne]; omega
    have hq1 : 2 ≤ q := k4.1
    have t1 : (i : Int).tmod (q : Int) = (E : Int) := by rw [hE]; rfl
    have t2 : (j : Int).tmod (q : Int) = (F : Int) := by rw [hF]; rfl
    have hq2 : ¬ (q : Int) = 0 := by omega
    have hq3 : ¬ q = 0 := by omega
    have hq4 : (0 : Int) < (q : Int) := by omega
    have hi0 : (0 : Int) ≤ (i : Int) := by omega
    have hj0 : (0 : Int) ≤ (j : Int) := by omega
    rw [← hX] at V1
    rw [← hY] at V2
    rw [← hX, ← hY, ← hE, ← hF] at hiff
    have HK : Hid (∀ wx, Below wb.heap.size wb wx → wx.cell? ⟨w.heap.size, 0, none⟩ = some (.int .u64 (p : Int)) ∧ wx.cell? ⟨w.heap.size, 1, none⟩ = some (.int .u64 (q : Int)) ∧ wx.cell? ⟨w.heap.size, 2, none⟩ = some (.int .u64 (g : Int)) ∧ Below wb.heap.size wb wx) :=
      Lib.hid (fun wx hx => ⟨(HC.out wx hx).1, (HC.out wx hx).2.1, (HC.out wx hx).2.2, hx⟩)
    clear hX hY hE hF hok k1 k2 k3 k4 k5 k6 k7 k8
    have key : (X = Y ∧ E = F) ∨ (((X : Int) == (Y : Int)) = false ∧ ((E : Int) == (F : Int)) = false) := by
      by_cases h : X = Y
      · exact .inl ⟨h, hiff.1 h⟩
      · refine .inr ⟨?_, ?_⟩
        · rw [beq_eq_false_iff_ne]; omega
        · have : ¬ E = F := fun e => h (hiff.2 e)
          rw [beq_eq_false_iff_ne]; omega
    clear hiff
    rcases key with ⟨rfl, rfl⟩ | ⟨hne1, hne2⟩
    all_goals
      go_enter Try.func17, Try.ntmps17
      go_wp2_with fail
      rw [← HW.out]
      refine HA.out.mono ?_
      rintro e w2 ⟨rfl, hx⟩
      obtain ⟨c0, c1, c2⟩ := HC.out _ hx
      go_wp2_with fail
      refine (E1.out w2).mono ?_
      rintro e w3 ⟨rfl, hx3⟩
      clear c0 c1 c2
      replace hx := hx.trans (hx3.mono hx.size)
      obtain ⟨c0, c1, c2⟩ := HC.out _ hx
      go_wp2_with fail
      refine (V1.out w3).mono ?_
      rintro e w4 ⟨rfl, rfl⟩
      go_wp2_with fail
      refine (V2.out _).mono ?_
      rintro e w4 ⟨rfl, rfl⟩
      go_wp2_with fail
      refine (V3.out _).mono ?_
      rintro e w4 ⟨rfl, rfl⟩
      go_wp2_with fail
      refine (V4.out _).mono ?_
      rintro e w4 ⟨rfl, rfl⟩
      go_wp2_with fail
      have hx0 : Below wb.heap.size wb w3.drew := hx.drew
      have hlen0 : wb.heap.size ≤ w3.drew.heap.size := hx0.size
      clear c0 c1 c2
      go_region_held3 (fun w' => w'.cell? ⟨w.heap.size, 0, none⟩ = some (.int .u64 (p : Int)) ∧ w'.cell? ⟨w.heap.size, 1, none⟩ = some (.int .u64 (q : Int)) ∧ w'.cell? ⟨w.heap.size, 2, none⟩ = some (.int .u64 (g : Int)) ∧ Below wb.heap.size wb w')
        (first
          | exact HK.out _ hx0
          | exact HK.out _ hx5)
        (first
          | (go_at_call 40; refine (E2.out _).mono ?_; rintro e w5 ⟨rfl, hx5'⟩; have hx5 := hx0.trans (hx5'.mono hlen0)))
      go_wp2
      go_ret
      exact ⟨rfl, hB.trans (hx5.mono hB.size)⟩
  · have E1 := Lib.hid (fun (w : World) => validGroup_any (p : Int) (q : Int) (g : Int) w (by omega) (by omega) (by omega))
    have E2 := Lib.hid (fun (w : World) => checkGroup_any (p : Int) (q : Int) (g : Int) w (by omega) (by omega) (by omega) (by omega))
    rw [grb_no p q g hok] at E1
    rw [grc_no p q g hok] at E2
    clear hok
    go_enter Try.func17, Try.ntmps17
    go_wp2_with fail
    rw [← HW.out]
    refine HA.out.mono ?_
    rintro e w2 ⟨rfl, hx⟩
    obtain ⟨c0, c1, c2⟩ := HC.out _ hx
    go_wp2_with fail
    refine (E1.out w2).mono ?_
    rintro e w3 ⟨rfl, hx3⟩
    clear c0 c1 c2
    replace hx := hx.trans (hx3.mono hx.size)
    obtain ⟨c0, c1, c2⟩ := HC.out _ hx
    go_wp2_with fail
    refine (E2.out w3).mono ?_
    rintro e w4 ⟨rfl, hx4⟩
    replace hx := hx.trans (hx4.mono hx.size)
    go_wp2
    go_ret
    exact ⟨rfl, hB.trans (hx.mono hB.size)⟩

theorem walk (a0 a1 a2 a3 a4 : Int) (w0 : (Lit.int .u64 a0).wf = true) (w1 : (Lit.int .u64 a1).wf = true) (w2 : (Lit.int .u64 a2).wf = true) (w3 : (Lit.int .u64 a3).wf = true) (w4 : (Lit.int .u64 a4).wf = true) (w : World) :
    Calls Try.prog 17 #[.agg #[.int .u64 a0, .int .u64 a1, .int .u64 a2], .int .u64 a3, .int .u64 a4] w fun e w' => e = .returned (.bool true) ∧ Below w.heap.size w w' := by
  have b0 := bounds_u64 w0
  have b1 := bounds_u64 w1
  have b2 := bounds_u64 w2
  have b3 := bounds_u64 w3
  have b4 := bounds_u64 w4
  obtain ⟨n0, rfl⟩ := Int.eq_ofNat_of_zero_le b0.1
  obtain ⟨n1, rfl⟩ := Int.eq_ofNat_of_zero_le b1.1
  obtain ⟨n2, rfl⟩ := Int.eq_ofNat_of_zero_le b2.1
  obtain ⟨n3, rfl⟩ := Int.eq_ofNat_of_zero_le b3.1
  obtain ⟨n4, rfl⟩ := Int.eq_ofNat_of_zero_le b4.1
  exact walkN n0 n1 n2 n3 n4 (by omega) (by omega) (by omega) (by omega) w

end Go.Proofs.Ythplhlcdlnedfaa.numberElements
