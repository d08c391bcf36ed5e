/-
  Texts, part C: Parse.
-/
import Derived.Test.YthplhlcdlnedfaaTxtB
namespace Go.Proofs.Ythplhlcdlnedfaa
open Go.RowKit MN

/-- The number of the first k digits of a decimal text. -/
def dvk (l : List Nat) : Nat → Nat
  | 0 => 0
  | k + 1 => dvk l k * 10 + (dg l k - 48)

theorem dvk_mono (l : List Nat) (k m : Nat) (h : k ≤ m) : dvk l k ≤ dvk l m := by
  induction m with
  | zero => obtain rfl : k = 0 := by omega
            exact Nat.le_refl _
  | succ m ih =>
    rcases Nat.lt_or_ge m k with h1 | h1
    · obtain rfl : k = m + 1 := by omega
      exact Nat.le_refl _
    · have := ih h1
      simp only [dvk]; omega

theorem big_iff (N : Nat) : Big N ↔ 4294967296 ^ 16 ≤ N := by
  unfold Big
  constructor
  · intro h
    have h1 := val_ge (B := 4294967296) (digs 4294967296 N) (digs_top _ _ (by omega)) (by intro e; rw [e] at h; simp at h)
    rw [digs_val _ _ (by omega)] at h1
    exact Nat.le_trans (Nat.pow_le_pow_right (by omega) (by omega)) h1
  · intro h
    rcases Nat.lt_or_ge 16 (digs 4294967296 N).length with h1 | h1
    · exact h1
    · exfalso
      have h2 := val_lt (B := 4294967296) (digs 4294967296 N) (digs_low _ _ (by omega))
      rw [digs_val _ _ (by omega)] at h2
      have h3 : 4294967296 ^ (digs 4294967296 N).length ≤ 4294967296 ^ 16 := Nat.pow_le_pow_right (by omega) h1
      exact Nat.lt_irrefl _ (Nat.lt_of_lt_of_le h2 (Nat.le_trans h3 h))

theorem big_mono {N M : Nat} (h : N ≤ M) (k : Big N) : Big M := (big_iff M).2 (Nat.le_trans ((big_iff N).1 k) h)

/-- What Parse returns. -/
noncomputable def parC (s : ByteArray) : Int := if decB s = true then fitC (dvk (bs s) s.size) else 12
noncomputable def parN (s : ByteArray) : Nat := if decB s = true then fitN (dvk (bs s) s.size) else 0

theorem fitC_big {N : Nat} (h : Big N) : fitC N = 4 := if_pos h
theorem fitN_big {N : Nat} (h : Big N) : fitN N = 0 := if_pos h
theorem fitC_ok {N : Nat} (h : ¬ Big N) : fitC N = 0 := if_neg h
theorem fitN_ok {N : Nat} (h : ¬ Big N) : fitN N = N := if_neg h

theorem isDec_of {s : ByteArray} (h : decB s = true) : IsDec (bs s) := @of_decide_eq_true _ (Classical.propDecidable _) h

set_option maxRecDepth 100000 in
set_option maxHeartbeats 1000000 in
theorem parse_any (s : ByteArray) (w : World) (hs : s.size ≤ maxLen) :
    Calls Try.prog 30 #[.string s] w (Res w (parC s) (parN s)) := by
  have hs' := hs
  unfold maxLen at hs'
  cases hd : decB s
  · have h1 : Hid (parC s = 12) := Lib.hid (if_neg (by rw [hd]; simp))
    have h2 : Hid (parN s = 0) := Lib.hid (if_neg (by rw [hd]; simp))
    rw [h1.out, h2.out]
    go_enter Try.func30, Try.ntmps30
    go_wp2_with (go_at_call 77; refine (isDecimal_any s _ hs).mono ?_; rintro e w' ⟨rfl, rfl⟩)
    go_ret2
    exact res_nil (Below.refl _ _)
  · have h1 : Hid (parC s = fitC (dvk (bs s) s.size)) := Lib.hid (if_pos hd)
    have h2 : Hid (parN s = fitN (dvk (bs s) s.size)) := Lib.hid (if_pos hd)
    have HD := Lib.hid (isDec_of hd)
    rw [h1.out, h2.out]
    go_enter Try.func30, Try.ntmps30
    go_wp2_with (go_at_call 77; refine (isDecimal_any s _ hs).mono ?_; rintro e w' ⟨rfl, rfl⟩)
    go_loopw [4, 11] (fun v i wr => ∃ (k : Nat) (A : Option Addr) (n c : Nat), k ≤ s.size ∧ i = .int .i64 k ∧ v = .slice A n c ∧ wr.ownsRow w.heap.size 24 1 (.slice A n c) n (vs32 (digs 4294967296 (dvk (bs s) k))) ∧ n ≤ 16 ∧ Below w.heap.size w wr) (fun _ i _ => s.size - (intOf i).toNat)
    case atStart => exact ⟨0, none, 0, 0, Nat.zero_le _, rfl, rfl, World.ownsRow_nil _ _ _ _, by omega, Below.refl _ _⟩
    case round =>
      obtain ⟨k, A, n, c, hk, rfl, rfl, hown, hn, hbel⟩ := hrel
      by_cases hlt : k < s.size
      · have hb := bs_get s k hlt
        have hcd := HD.out.1 k (by rw [bs_len]; exact hlt)
        obtain ⟨m, hm⟩ : ∃ m, m = dg (bs s) k - 48 := ⟨_, rfl⟩
        have hm2 : (s[k].toNat : Int) - 48 = (m : Int) := by rw [hb]; omega
        have hlo : (48 : Int) ≤ (s[k].toNat : Int) := by rw [hb]; omega
        have hhi : (s[k].toNat : Int) ≤ 57 := by rw [hb]; omega
        have hml : m ≤ 255 := by omega
        have HM := Lib.hid hm
        have hA := (own_num hown).1
        have hsc := scale32_any A n c m _ wr hA (by omega) hml
        rw [digs_val _ _ (by omega), hm] at hsc
        have HSC : Hid (Calls Try.prog 78 #[.slice A n c, .int .u64 4294967296, .int .u64 10, .int .u64 (m : Int)] wr (New wr (dvk (bs s) (k + 1)))) := Lib.hid (by rw [hm]; exact hsc)
        clear hsc hA hb hcd hm
        go_wp2_with fail
        refine HSC.out.mono ?_
        rintro e w2 ⟨A2, n2, c2, rfl, hown2, hb2⟩
        have hown3 := own_low hown2 hbel.size
        have hbel3 := hbel.trans (hb2.mono hbel.size)
        have hln := (own_num hown2).2
        by_cases hbig : 16 < n2
        · have hB : Big (dvk (bs s) s.size) := big_mono (dvk_mono _ (k + 1) _ hlt) (by unfold Big; rw [hln]; exact hbig)
          have c1 := Lib.hid (fitC_big hB)
          have c2' := Lib.hid (fitN_big hB)
          clear hown hown2 hln hB
          go_wp2_with (go_at_call 79; refine (tooLarge_yes _ _ _ _ hbig).mono ?_; rintro e w' ⟨rfl, rfl⟩)
          go_ret2
          rw [c1.out, c2'.out]
          exact res_nil hbel3
        · have hsm : n2 ≤ 16 := by omega
          clear hown hown2 hln hbig
          go_wp2_with (go_at_call 79; refine (tooLarge_no _ _ _ _ hsm).mono ?_; rintro e w' ⟨rfl, rfl⟩)
          go_roundw
          case rel => exact ⟨k + 1, A2, n2, c2, by omega, by go_num, rfl, hown3, hsm, hbel3⟩
          case measure => simp [intOf]; omega
      · obtain rfl : k = s.size := by omega
        have hln := (own_num hown).2
        have hB : ¬ Big (dvk (bs s) s.size) := by unfold Big; rw [hln]; omega
        have c1 := Lib.hid (fitC_ok hB)
        have c2' := Lib.hid (fitN_ok hB)
        clear hln hB
        go_wp2
        go_ret2
        rw [c1.out, c2'.out]
        exact ⟨A, n, c, rfl, hown, hbel⟩

end Go.Proofs.Ythplhlcdlnedfaa
