/-
  product.
-/
import Derived.Test.YthplhlcdlnedfaaNatE
import Derived.Test.YthplhlcdlnedfaaMathO
import Derived.Test.YthplhlcdlnedfaaModA
namespace Go.Proofs.Ythplhlcdlnedfaa
open Go.RowKit MN

set_option maxRecDepth 100000 in
set_option maxHeartbeats 1000000 in
theorem product_any (A1 A2 : Option Addr) (n1 c1 n2 c2 : Nat) (ys zs : List Nat) (w : World) (ha : Rd .u32 w A1 n1 c1 ys) (hb : Rd .u32 w A2 n2 c2 zs) (hla : Low 4294967296 ys) (hlb : Low 4294967296 zs) (hn1 : n1 ≤ 1000) (hn2 : n2 ≤ 1000) :
    Calls Try.prog 73 #[.slice A1 n1 c1, .slice A2 n2 c2] w (New w (val 4294967296 ys * val 4294967296 zs)) := by
  obtain ⟨i0, hi, hz0, hz1, hz2⟩ := info_parts info29
  have hlena := Lib.hid ha.len
  have hlenb := Lib.hid hb.len
  have hata := Lib.hid ha.at_
  have hatb := Lib.hid hb.at_
  clear ha hb
  go_enter Try.func73, Try.ntmps73
  go_wp2_with (first
      | (at_make; refine wpList_make_full _ rfl _ _ 99 rfl w.heap.size 29 i0 _ 1 Try.underlying99 hi hz0 hz1 .i64 .i64 _ _ (n1 + n2) rfl rfl (by omega) (by omega) (by rw [hz2]; omega) (by unfold maxLen; omega) (Nat.le_refl _) ?_; intro w1 hown1 hg1))
  have HC1 := Cols.made hown1 hg1 (Below.refl _ _) (Nat.le_refl _)
  clear hown1 hg1
  go_loopw [19] (fun i wr => ∃ (k : Nat) (xs : List Nat), k ≤ n1 ∧ i = .int .i64 k ∧ Cols .u64 29 w.heap.size w wr w.heap.size (n1 + n2) xs ∧ Pr ys zs xs k 0) (fun i _ => n1 - (intOf i).toNat)
  case atStart => exact ⟨0, _, Nat.zero_le _, rfl, HC1, Pr.start ys zs (n1 + n2)⟩
  case round =>
    obtain ⟨k, xs, hk, rfl, HC, HP⟩ := hrel
    by_cases hlt : k < n1
    · obtain ⟨b, off, rfl, hc⟩ := hata.out (by omega)
      have hcell := (HC.below.cell (p := ⟨b, off + k, none⟩) (World.block_lt_of_cell? w _ (hc k hlt))).trans (hc k hlt)
      clear hc
      obtain ⟨Y, hY⟩ : ∃ D, D = dg ys k := ⟨_, rfl⟩
      have hYl : Y < 4294967296 := by rw [hY]; exact low_dg hla (by omega) k
      rw [← hY] at hcell
      have HY := Lib.hid hY
      clear hY
      obtain ⟨wo, rfl⟩ : ∃ wo : World, wo = wr := ⟨_, rfl⟩
      go_wp2
      go_loopw [26] (fun j wr => ∃ (m : Nat) (xs : List Nat), m ≤ n2 ∧ j = .int .i64 m ∧ Cols .u64 29 w.heap.size w wr w.heap.size (n1 + n2) xs ∧ Pr ys zs xs k m) (fun j _ => n2 - (intOf j).toNat)
      case atStart => exact ⟨0, xs, Nat.zero_le _, rfl, HC, HP⟩
      case round =>
        obtain ⟨m, xs2, hm, rfl, HC2, HP2⟩ := hrel
        by_cases hlt2 : m < n2
        · obtain ⟨b2, off2, rfl, hc⟩ := hatb.out (by omega)
          have hcell2 := (HC2.below.cell (p := ⟨b2, off2 + m, none⟩) (World.block_lt_of_cell? w _ (hc m hlt2))).trans (hc m hlt2)
          clear hc
          obtain ⟨Z, hZ⟩ : ∃ D, D = dg zs m := ⟨_, rfl⟩
          have hZl : Z < 4294967296 := by rw [hZ]; exact low_dg hlb (by omega) m
          rw [← hZ] at hcell2
          have HZ := Lib.hid hZ
          clear hZ
          have HQ := HP2.step (by rw [hlenb.out]; exact hlt2) (by rw [HC2.len]; omega) hla hlb
          rw [← HY.out, ← HZ.out] at HQ
          obtain ⟨P, hP⟩ : ∃ P, P = Y * Z := ⟨_, rfl⟩
          have hPl : P ≤ 18446744065119617025 := by rw [hP]; exact Nat.mul_le_mul (show Y ≤ 4294967295 by omega) (show Z ≤ 4294967295 by omega)
          have hw1 : IntKind.u64.wrap ((Y : Int) * (Z : Int)) = (P : Int) := by rw [mul_u64 Y Z (by omega) (by omega), hP]; rfl
          rw [← hP] at HQ
          clear hP
          have f0 := HP2.le (k + m)
          have f1 := HP2.le (k + m + 1)
          rw [if_neg (by omega), if_pos rfl] at f0
          rw [if_neg (by omega), if_neg (by omega)] at f1
          have g0 := HC2.cell (k + m) (by omega)
          have g1 := HC2.cell (k + m + 1) (by omega)
          obtain ⟨E0, hE0⟩ : ∃ E, E = dg xs2 (k + m) := ⟨_, rfl⟩
          obtain ⟨E1, hE1⟩ : ∃ E, E = dg xs2 (k + m + 1) := ⟨_, rfl⟩
          rw [← hE0] at f0 g0 HQ
          rw [← hE1] at f1 g1 HQ
          clear hE0 hE1
          have r0 := HC2.frozen (k + m)
          have r1 := HC2.frozen (k + m + 1)
          have HS := (HC2.set (k + m) (E0 + P % 4294967296) ((E0 : Int) + (P : Int) % 4294967296) (by omega)).set (k + m + 1) (E1 + P / 4294967296) ((E1 : Int) + (P : Int) / 4294967296) (by omega)
          clear HP2 HC2 HP HC
          go_wp2
          go_roundw
          case rel => exact ⟨m + 1, _, by omega, by go_num, HS, HQ⟩
          case measure => simp [intOf]; omega
        · obtain rfl : m = n2 := by omega
          have HN : Pr ys zs xs2 (k + 1) 0 := by
            have := HP2
            rw [← hlenb.out] at this
            exact this.next (by rw [hlena.out]; exact hlt)
          clear HP2 HP HC
          go_wp2
          go_roundw
          case rel => exact ⟨k + 1, xs2, by omega, by go_num, HC2, HN⟩
          case measure => simp [intOf]; omega
    · obtain rfl : k = n1 := by omega
      have hval : val 4294967296 xs = val 4294967296 ys * val 4294967296 zs := by
        have := HP
        rw [← hlena.out] at this
        exact this.done
      have HV := Lib.hid hval
      have HB : Hid (∀ i, dg xs i ≤ 9223372036854775807) := Lib.hid (fun i => by
        have h1 := HP.le i
        have h2 : (2 * k + if i < k + 0 then 2 else if i = k + 0 then 1 else 0) ≤ 2002 := by split <;> (try split) <;> omega
        have h3 := Nat.mul_le_mul_right 4294967296 h2
        omega)
      clear hval HP
      have hrd := HC.rd
      go_wp2_with (go_at_call 74; refine (carry32_any _ _ _ xs _ hrd (by omega) (by have := HB.out 0; omega) (fun i _ => HB.out i)).mono ?_; rintro e w9 ⟨A', m', c', rfl, hown9, hb9⟩)
      go_ret
      rw [HV.out] at hown9
      exact ⟨A', m', c', rfl, own_low hown9 HC.big, HC.below.trans (hb9.mono HC.big)⟩

end Go.Proofs.Ythplhlcdlnedfaa
