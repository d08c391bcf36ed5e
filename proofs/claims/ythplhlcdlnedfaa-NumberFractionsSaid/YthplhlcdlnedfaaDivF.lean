/-
  Long division, part F: guess, where the divisor has one digit; guess at every length.
-/
import Derived.Test.YthplhlcdlnedfaaDivE
namespace Go.Proofs.Ythplhlcdlnedfaa
open Go.RowKit MN

set_option maxRecDepth 100000 in
set_option maxHeartbeats 2000000 in
theorem guess_one (ws : World) (bu ou bv ov cu cv : Nat) (ps vs : List Nat) (hpl : ps.length = 2) (hvl : vs.length = 1) (hlp : Low 4294967296 ps) (hlv : Low 4294967296 vs) (htop : 0 < dg vs 0)
    (hu : ∀ i, i < 2 → ws.cell? ⟨bu, ou + i, none⟩ = some (.int .u32 (dg ps i : Int))) (hv : ∀ i, i < 1 → ws.cell? ⟨bv, ov + i, none⟩ = some (.int .u32 (dg vs i : Int))) :
    Calls Try.prog 110 #[.slice (some ⟨bu, ou, none⟩) 2 cu, .slice (some ⟨bv, ov, none⟩) 1 cv] ws (Guessed ws (val 4294967296 ps) (val 4294967296 vs)) := by
  have hp1 := hu 1 (by omega)
  have hp0 : ws.cell? ⟨bu, ou, none⟩ = some (.int .u32 (dg ps 0 : Int)) := hu 0 (by omega)
  have hv0 : ws.cell? ⟨bv, ov, none⟩ = some (.int .u32 (dg vs 0 : Int)) := hv 0 (by omega)
  clear hu hv
  have e1 : val 4294967296 ps = dg ps 1 * 4294967296 + dg ps 0 := by
    rw [val_vsum _ ps 2 (by omega)]
    simp only [vsum, Nat.pow_zero, Nat.pow_one, Nat.zero_add, Nat.one_mul]; omega
  have e2 : val 4294967296 vs = dg vs 0 := by
    rw [val_vsum _ vs 1 (by omega)]
    simp only [vsum, Nat.pow_zero, Nat.zero_add, Nat.one_mul]
  rw [e1, e2]
  have l1 := low_dg hlp (by omega) 1
  have l0 := low_dg hlp (by omega) 0
  have k0 := low_dg hlv (by omega) 0
  clear hlp hlv e1 e2 hpl hvl
  generalize dg ps 1 = P1 at *
  generalize dg ps 0 = P0 at *
  generalize dg vs 0 = V0 at *
  have hor := or_u64 P1 P0 l1 l0
  obtain ⟨T, hT⟩ : ∃ T, T = P1 * 4294967296 + P0 := ⟨_, rfl⟩
  rw [← hT] at hor
  have hT' : Hid (T ≤ 18446744073709551615) := Lib.hid (by omega)
  rw [← hT]
  clear hT
  have w3 : IntKind.u64.wrap ((P1 : Int) * 4294967296) = (P1 : Int) * 4294967296 := IntWalk.u64_in _ (by omega)
  obtain ⟨Q0, hQ0⟩ : ∃ x, x = T / V0 := ⟨_, rfl⟩
  obtain ⟨R0, hR0⟩ : ∃ x, x = T % V0 := ⟨_, rfl⟩
  have hQl : Q0 ≤ T := by rw [hQ0]; exact Nat.div_le_self _ _
  have d1 : IntKind.u64.wrap ((T : Int) / (V0 : Int)) = (Q0 : Int) := by rw [show (T : Int) / (V0 : Int) = (Q0 : Int) by rw [hQ0]; rfl]; exact IntWalk.u64_in _ (by have := hT'.out; omega)
  have d2 : (T : Int) % (V0 : Int) = (R0 : Int) := by rw [hR0]; rfl
  have d3 : IntKind.u64.wrap ((T : Int).tdiv (V0 : Int)) = (Q0 : Int) := by rw [Int.tdiv_eq_ediv_of_nonneg (by omega)]; exact d1
  have d4 : (T : Int).tmod (V0 : Int) = (R0 : Int) := by rw [Int.tmod_eq_emod_of_nonneg (by omega)]; exact d2
  have HQ := Lib.hid hQ0
  clear hQ0 hR0
  have hw : IntKind.i64.wrap ((1 : Int) - 1) = 0 := by decide
  go_enter Try.func110, Try.ntmps110
  go_wp2
  go_step3
  go_wp2
  go_quiet (fail)
  go_wp2
  go_quiet (fail)
  go_wp2
  go_step3
  go_wp2
  refine wp_loop_rounds 1 ?_
  rw [rounds_succ]
  go_wp2
  go_ret
  refine ⟨Q0, rfl, ⟨_, rfl⟩, ?_, ?_⟩
  · rw [HQ.out]; exact Nat.le_refl _
  · rw [HQ.out]; exact Nat.le_succ _

/-- The row of some digits as a slice into it. -/
theorem Cols.part {k : IntKind} {e : TypeId} {base : Nat} {w wr : World} {g N : Nat} {xs : List Nat} (h : Cols k e base w wr g N xs) (o m c : Nat) (ho : o + m ≤ N) (hc : m ≤ c) (hcm : c ≤ maxLen) : Rd k wr (some ⟨g, o, none⟩) m c ((xs.drop o).take m) := by
  refine ⟨by rw [List.length_take, List.length_drop, h.len]; omega, hc, hcm, fun _ => ⟨g, o, rfl, fun i hi => ?_⟩⟩
  rw [dg_take _ _ _ hi, dg_drop]
  exact h.cell (o + i) (by omega)

theorem part_val {xs : List Nat} (o m : Nat) : val 4294967296 ((xs.drop o).take m) = vsum 4294967296 (fr xs o) m := by
  rw [val_take_vsum]
  exact vsum_congr _ _ _ _ (fun j _ => dg_drop xs o j)

theorem guess_any (ws : World) (bu ou bv ov n cu cv : Nat) (ps vs : List Nat) (hn : 0 < n) (hn2 : n ≤ 65536) (hu : Rd .u32 ws (some ⟨bu, ou, none⟩) (n + 1) cu ps) (hv : Rd .u32 ws (some ⟨bv, ov, none⟩) n cv vs) (hlp : Low 4294967296 ps) (hlv : Low 4294967296 vs)
    (htop : 2147483648 ≤ dg vs (n - 1)) (hless : val 4294967296 ps < val 4294967296 vs * 4294967296) :
    Calls Try.prog 110 #[.slice (some ⟨bu, ou, none⟩) (n + 1) cu, .slice (some ⟨bv, ov, none⟩) n cv] ws (Guessed ws (val 4294967296 ps) (val 4294967296 vs)) := by
  have hpl := hu.len
  have hvl := hv.len
  obtain ⟨b1, o1, e1, hcu⟩ := hu.at_ (by omega)
  obtain ⟨b2, o2, e2, hcv⟩ := hv.at_ (by omega)
  injection e1 with e1
  injection e1 with e1a e1b
  injection e2 with e2
  injection e2 with e2a e2b
  subst e1a e1b e2a e2b
  rcases Nat.lt_or_ge n 2 with h | h
  · obtain rfl : n = 1 := by omega
    exact guess_one ws bu ou bv ov cu cv ps vs hpl hvl hlp hlv (by have : dg vs (1 - 1) = dg vs 0 := rfl; omega) hcu hcv
  · obtain ⟨j, rfl⟩ : ∃ j, n = j + 2 := ⟨n - 2, by omega⟩
    exact guess_two ws bu ou bv ov j cu cv ps vs ⟨hpl, hvl, hlp, hlv, htop, hless⟩ hcu hcv (by omega)

end Go.Proofs.Ythplhlcdlnedfaa
