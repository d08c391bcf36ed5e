/-
  slices.Concat of some slices of bytes.
-/
import Derived.Test.YtphhppdokdageaaHshA
namespace Go.Proofs.Ytphhppdokdageaa
open Go.RowKit SP
set_option linter.unusedVariables false
set_option linter.unusedSimpArgs false

/-- The lengths of the first k slices, together; and their bytes. -/
def tot (ln : Nat → Nat) : Nat → Nat
  | 0 => 0
  | k + 1 => tot ln k + ln k
def ctl (ln : Nat → Nat) (gs : Nat → Nat → Nat) : Nat → List Nat
  | 0 => []
  | k + 1 => ctl ln gs k ++ (List.range (ln k)).map (gs k)
theorem ctl_len (ln : Nat → Nat) (gs : Nat → Nat → Nat) : ∀ k, (ctl ln gs k).length = tot ln k
  | 0 => rfl
  | k + 1 => by rw [ctl, tot, List.length_append, ctl_len ln gs k]; simp
theorem tot_le (ln : Nat → Nat) : ∀ k m, k ≤ m → tot ln k ≤ tot ln m
  | k, 0, h => by obtain rfl : k = 0 := by omega
                  exact Nat.le_refl _
  | k, m + 1, h => by
    rcases Nat.lt_or_ge m k with h1 | h1
    · obtain rfl : k = m + 1 := by omega
      exact Nat.le_refl _
    · exact Nat.le_trans (tot_le ln k m h1) (Nat.le_add_right _ _)

set_option maxRecDepth 100000 in
set_option maxHeartbeats 600000 in
theorem concat_any (sb m : Nat) (Ad : Nat → Option Addr) (ln cp : Nat → Nat) (gs : Nat → Nat → Nat) (w : World) (hm : m ≤ 1000)
    (hc : ∀ k, k < m → w.cell? ⟨sb, k, none⟩ = some (.slice (Ad k) (ln k) (cp k))) (hy : ∀ k, k < m → Byt w (Ad k) (ln k) (cp k) (gs k)) (h0 : 0 < tot ln m) (ht : tot ln m ≤ 1000000) :
    Calls Try.prog 69 #[.slice (some ⟨sb, 0, none⟩) m m] w fun e w' => ∃ v, e = .returned v ∧ Below w.heap.size w w' ∧ w'.ownsRow w.heap.size 5 1 v (tot ln m) (bl (ctl ln gs m)) := by
  obtain ⟨i0, hi, hz0, hz1, hz2⟩ := info_parts info5
  have HI := Lib.hid (And.intro hi (And.intro hz0 (And.intro hz1 hz2)))
  have HG := Lib.hid (grow_nil (tot ln m) w h0 ht)
  have HC := Lib.hid hc
  have HY := Lib.hid hy
  have HT := Lib.hid ht
  have HM := Lib.hid hm
  clear hi hz0 hz1 hz2 hc hy h0 ht
  go_enter Try.func69, Try.ntmps69
  go_wp2_with fail
  go_loopw [3, 11] (fun z i wr => ∃ k : Nat, k ≤ m ∧ i = .int .i64 (k : Int) ∧ z = .int .i64 (tot ln k : Nat) ∧ wr = w) (fun _ i _ => m - (intOf i).toNat)
  case atStart => exact ⟨0, by omega, rfl, rfl, rfl⟩
  case round =>
    obtain ⟨k, hk, rfl, rfl, hwr⟩ := hrel
    have hwr' := hwr.symm
    clear hwr
    subst hwr'
    by_cases hlt : k < m
    · have d1 : decide ((k : Int) < (m : Int)) = true := decide_eq_true (by omega)
      have d2 : decide (k < m) = true := decide_eq_true hlt
      have c1 := HC.out k hlt
      have l1 : (0 : Int) ≤ (k : Int) := by omega
      have l2 : (k : Int) < (m : Int) := by omega
      have ht2 : tot ln k + ln k = tot ln (k + 1) := rfl
      have ht3 := tot_le ln (k + 1) m (by omega)
      have ht4 := HT.out
      have e1 : ((tot ln k : Nat) : Int) + ((ln k : Nat) : Int) = ((tot ln (k + 1) : Nat) : Int) := by omega
      obtain ⟨T0, hT0⟩ : ∃ T0, T0 = tot ln k := ⟨_, rfl⟩
      obtain ⟨T1, hT1⟩ : ∃ T1, T1 = tot ln (k + 1) := ⟨_, rfl⟩
      obtain ⟨lk, hlk⟩ : ∃ lk, lk = ln k := ⟨_, rfl⟩
      rw [← hT0, ← hT1, ← hlk] at e1
      rw [← hT1] at ht3
      rw [← hlk] at c1
      rw [← hT0]
      have d3 : decide ((T1 : Int) < 0) = false := decide_eq_false (by omega)
      have HT1 := Lib.hid hT1
      clear ht2 hT0 hT1 hlk
      have h9 : (T1 : Int) ≤ 1000000 := by omega
      have h10 : (0 : Int) ≤ (T0 : Int) := by omega
      have h11 : (0 : Int) ≤ (lk : Int) := by omega
      go_wp2_with fail
      go_roundw
      case rel => exact ⟨k + 1, by omega, by go_num, by rw [← HT1.out], trivial⟩
      case measure => simp [intOf]; omega
    · obtain rfl : k = m := by omega
      have d1 : decide ((k : Int) < (k : Int)) = false := decide_eq_false (by omega)
      have d2 : decide (k < k) = false := decide_eq_false (by omega)
      have HT4 := HT.out
      obtain ⟨T0, hT0⟩ : ∃ T0, T0 = tot ln k := ⟨_, rfl⟩
      rw [← hT0] at HG HT4 ⊢
      have HT0 := Lib.hid hT0
      clear hT0
      go_wp2_with fail
      refine HG.out.mono ?_
      rintro e w3 ⟨v3, rfl, hb3, ho3⟩
      obtain ⟨N, hN⟩ : ∃ N, N = w.heap.size := ⟨_, rfl⟩
      rw [← hN] at hb3 ho3
      have HN := Lib.hid hN
      have HB3 := Lib.hid hb3
      have HO3 := Lib.hid ho3
      clear hN hb3 ho3 HG
      go_wp2_with fail
      go_loopw [6, 27] (fun v i wr' => ∃ j : Nat, j ≤ k ∧ i = .int .i64 (j : Int) ∧ Hid (wr'.ownsRow N 5 1 v (tot ln j) (bl (ctl ln gs j))) ∧ Hid (Below N w wr')) (fun _ i _ => k - (intOf i).toNat)
      case atStart => exact ⟨0, by omega, rfl, HO3, HB3⟩
      case round =>
        obtain ⟨j, hj, rfl, HO, HB⟩ := hrel
        obtain ⟨v, hv⟩ : ∃ v, v = u6 := ⟨_, rfl⟩
        rw [← hv] at HO ⊢
        clear hv HO3 HB3
        have HS : Hid (N ≤ wr.heap.size) := Lib.hid (by rw [HN.out]; exact HB.out.size)
        by_cases hlt2 : j < k
        · have d3 : decide ((j : Int) < (k : Int)) = true := decide_eq_true (by omega)
          have d4 : decide (j < k) = true := decide_eq_true hlt2
          have c0 := HC.out j hlt2
          have c1 : wr.cell? ⟨sb, j, none⟩ = some (.slice (Ad j) (ln j) (cp j)) := (HB.out.cell (p := ⟨sb, j, none⟩) (by rw [HN.out]; exact World.block_lt_of_cell? w _ c0)).trans c0
          have hYj : Byt wr (Ad j) (ln j) (cp j) (gs j) := (HY.out j hlt2).keep (by rw [← HN.out]; exact HB.out)
          have ht3 := tot_le ln (j + 1) k (by omega)
          have ht2 : tot ln (j + 1) = tot ln j + ln j := rfl
          have hct : bl (ctl ln gs (j + 1)) = bl (ctl ln gs j) ++ bl ((List.range (ln j)).map (gs j)) := by rw [ctl]; simp [bl]
          have l1 : (0 : Int) ≤ (j : Int) := by omega
          have l2 : (j : Int) < (k : Int) := by omega
          have hsz : tot ln j + ln j ≤ 1000000 := by have := HT0.out; have := HT.out; omega
          have HTj := Lib.hid ht2
          have HCj := Lib.hid hct
          obtain ⟨xs, hxs⟩ : ∃ xs, xs = bl (ctl ln gs j) := ⟨_, rfl⟩
          obtain ⟨Tj, hTj⟩ : ∃ Tj, Tj = tot ln j := ⟨_, rfl⟩
          obtain ⟨lj, hlj⟩ : ∃ lj, lj = ln j := ⟨_, rfl⟩
          obtain ⟨cj, hcj⟩ : ∃ cj, cj = cp j := ⟨_, rfl⟩
          obtain ⟨gj, hgj⟩ : ∃ gj, gj = gs j := ⟨_, rfl⟩
          obtain ⟨aj, haj⟩ : ∃ aj, aj = Ad j := ⟨_, rfl⟩
          rw [← hxs, ← hTj] at HO
          rw [← hxs, ← hlj, ← hgj] at HCj
          rw [← hTj, ← hlj] at HTj hsz
          rw [← hlj, ← hcj, ← haj] at c1
          rw [← hlj, ← hcj, ← hgj, ← haj] at hYj
          have hO := HO.out
          have HYj := Lib.hid hYj
          clear ht2 ht3 hct hxs hTj hlj hcj hgj haj c0 hYj
          have hi := HI.out.1
          have hz0 := HI.out.2.1
          have hz1 := HI.out.2.2.1
          have hz2 := HI.out.2.2.2
          cases aj with
          | none =>
            have hl0 : lj = 0 := by
              rcases Nat.eq_zero_or_pos lj with h | h
              · exact h
              · obtain ⟨b, off, e, _⟩ := HYj.out.at_ h
                cases e
            subst hl0
            go_wp2_with (at_builtin; refine Lib.wpList_append_run _ rfl _ _ _ _ rfl _ _ rfl rfl _ _ (run_append_own_nil i0 hi hz1 hO _) ?_)
            go_roundw
            case rel => exact ⟨j + 1, by omega, by go_num, Lib.hid (by rw [HTj.out, HCj.out]; simpa [bl] using hO), HB⟩
            case measure => simp [intOf]; omega
          | some ad =>
            have hnw : ∀ i u, (bl ((List.range lj).map gj))[i]? = some u → wr.cell? (ad.add i) = some u := by
              intro i u hu
              have hi' : i < lj := by have := (List.getElem?_eq_some_iff.1 hu).1; simp [bl] at this; exact this
              obtain ⟨b, off, e, hc'⟩ := HYj.out.at_ (by omega)
              injection e with e
              subst e
              rw [Addr.add_lit, hc' i hi', ← hu]
              exact (bl_get _ i (gj i) (by simp [List.getElem?_map, List.getElem?_range hi'])).symm
            have hlen : (bl ((List.range lj).map gj)).length = lj * 1 := by simp [bl]
            have hml : Tj + lj ≤ maxLen := by unfold maxLen; omega
            go_wp2_with (at_builtin; refine wpList_append_own _ rfl _ _ 26 rfl N 5 i0 _ 1 1 Try.underlying26 hi hz0 hz1 hz2 rfl (by omega) v Tj xs rfl hO ad lj cj (bl ((List.range lj).map gj)) rfl hlen hnw (bl_one _) hml (by omega) HS.out ?_; intro v6 w6 hown6 hg6 _)
            go_roundw
            case rel => exact ⟨j + 1, by omega, by go_num, Lib.hid (by rw [HTj.out, HCj.out]; exact hown6), Lib.hid (HB.out.grown hg6 HS.out (fun b hb => own_block hO hb.symm))⟩
            case measure => simp [intOf]; omega
        · obtain rfl : j = k := by omega
          have d3 : decide ((j : Int) < (j : Int)) = false := decide_eq_false (by omega)
          have d4 : decide (j < j) = false := decide_eq_false (by omega)
          go_wp2_with fail
          go_ret
          exact ⟨v, rfl, by rw [← HN.out]; exact HB.out, by rw [← HN.out]; exact HO.out⟩
end Go.Proofs.Ytphhppdokdageaa
