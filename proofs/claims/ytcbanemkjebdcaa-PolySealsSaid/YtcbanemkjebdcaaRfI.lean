/-
  The specification's Block, Derive and Number.
-/
import Derived.Test.YtcbanemkjebdcaaRfH
namespace Go.Proofs.Ytcbanemkjebdcaa
open Go.RowKit SP
set_option linter.unusedVariables false
set_option linter.unusedSimpArgs false

theorem lowb_tag (t c : Nat) (ht : t < 256) (hc : c < 72057594037927936) : lowb (t * 72057594037927936 + c) 8 = t :: lowb c 7 := by
  simp only [lowb, Nat.reducePow, List.cons.injEq]
  refine ⟨by omega, by omega, by omega, by omega, by omega, by omega, by omega, by omega, trivial⟩
theorem bl_tag (t c n : Nat) (ht : t < 256) (hc : c < 72057594037927936) : [.int .u8 (t : Int)] ++ bl (lowb c 7) ++ bl (lowb n 8) = kl (t * 72057594037927936 + c) n := by
  rw [← bl_kl, lowb_tag t c ht hc]; rfl

set_option maxRecDepth 100000 in
set_option maxHeartbeats 1000000 in
theorem refBlk_any (t c n : Nat) (w : World) (ht : t < 256) (hc : c < 72057594037927936) (hn : n < M) :
    Calls Try.prog 123 #[.int .u8 (t : Int), .int .u64 (c : Int), .int .u64 (n : Int)] w fun e w' => e = .returned (.agg (kl (t * 72057594037927936 + c) n).toArray) ∧ Below w.heap.size w w' := by
  have hbt := bl_tag t c n ht hc
  have hxM : t * 72057594037927936 + c < M := by unfold M; omega
  obtain ⟨x, hx⟩ : ∃ x, x = t * 72057594037927936 + c := ⟨_, rfl⟩
  rw [← hx] at hbt hxM ⊢
  obtain ⟨i0, hi, hz0, hz1, hz2⟩ := info_parts info5
  obtain ⟨N, hN⟩ : ∃ N, N = w.heap.size := ⟨_, rfl⟩
  obtain ⟨W1, hW1⟩ : ∃ W1, W1 = (w.alloc (.cells z16 23)).alloc (.cells #[.int .u8 (t : Int)] 5) := ⟨_, rfl⟩
  have HB1 : Hid (Below N w W1) := Lib.hid (by rw [hW1, hN]; exact ((Below.refl _ _).alloc (Nat.le_refl _) _).alloc (by simp) _)
  have HS1 : Hid (W1.heap.size = N + 2) := Lib.hid (by rw [hW1, hN]; simp)
  have HT : Hid (W1.there N 0 16) := Lib.hid (by rw [hW1, hN]; exact ((Row.zeros w 23).keep ((Below.refl _ _).alloc (Nat.le_refl _) _)).there)
  have HO0 : Hid (W1.ownsRow (N + 1) 5 1 (.slice (some ⟨N + 1, 0, none⟩) 1 1) 1 [.int .u8 (t : Int)]) := Lib.hid (by
    have h := own_new (w.alloc (.cells z16 23)) 5 (.int .u8 (t : Int)) (N + 1) (by simp [hN])
    rw [World.size_alloc, ← hN] at h
    rw [hW1]; exact h)
  have H1 := Lib.hid (fun w => refBytes_any c 7 w (by unfold M; omega) (by omega))
  have H2 := Lib.hid (fun w => refBytes_any n 8 w hn (by omega))
  have HF := Lib.hid (flz_key x n hxM hn)
  have HBT := Lib.hid hbt
  have HW := Lib.hid hW1
  have HN := Lib.hid hN
  rw [← hN]
  clear hW1 hN hn hx hxM hbt hc ht
  go_enter Try.func123, Try.ntmps123
  go_wp2_with fail
  rw [← HW.out, ← HN.out]
  refine (H1.out W1).mono ?_
  rintro e w3 ⟨v2, rfl, ho2, hb3⟩
  have ho1 := own_below HO0.out (hb3.mono (Nat.le_refl _))
  have HB3 := Lib.hid hb3
  obtain ⟨g2, c2, hv2, q1, q2, q3, q4⟩ := own_slice ho2 (by omega)
  subst hv2
  have hnw : ∀ j u, (bl (lowb c 7))[j]? = some u → w3.cell? ((⟨g2, 0, none⟩ : Addr).add j) = some u := by
    intro j u hu
    rw [Addr.add_lit, Nat.zero_add]
    exact q4 j u hu
  have hlen : (bl (lowb c 7)).length = 7 * 1 := by simp [bl, lowb_len]
  have HB3s : N + 1 ≤ w3.heap.size := Nat.le_trans (by rw [HS1.out]; omega) HB3.out.size
  clear ho2 hb3 q4 HO0
  go_wp2_with (first
    | (at_builtin; refine wpList_append_own _ rfl _ _ 189 rfl (N + 1) 5 i0 _ 1 1 Try.underlying189 hi hz0 hz1 hz2 rfl (by omega) _ 1 [.int .u8 (t : Int)] rfl ho1 ⟨g2, 0, none⟩ 7 c2 (bl (lowb c 7)) rfl hlen hnw (bl_one _) (by unfold maxLen; omega) (by omega) HB3s ?_; intro v5 w6 hown6 hg6 _))
  have HB6 := Lib.hid ((HB3.out.mono (show N + 1 ≤ W1.heap.size by rw [HS1.out]; omega)).grown hg6 HB3s (fun b hb => own_block ho1 hb.symm))
  have HO6 := Lib.hid hown6
  clear hown6 hg6 ho1 hnw hlen HB3s HB3
  refine (H2.out w6).mono ?_
  rintro e w7 ⟨v7, rfl, ho7, hb7⟩
  have hl6 : N + 1 ≤ w6.heap.size := Nat.le_trans (by rw [HS1.out]; omega) HB6.out.size
  have hl7 : N + 1 ≤ w7.heap.size := Nat.le_trans hl6 hb7.size
  have ho1 := own_below HO6.out hb7
  have HB7 := Lib.hid (HB6.out.trans (hb7.mono hl6))
  obtain ⟨g3, c3, hv3, s1, s2, s3, s4⟩ := own_slice ho7 (by omega)
  subst hv3
  have hnw : ∀ j u, (bl (lowb n 8))[j]? = some u → w7.cell? ((⟨g3, 0, none⟩ : Addr).add j) = some u := by
    intro j u hu
    rw [Addr.add_lit, Nat.zero_add]
    exact s4 j u hu
  have hlen : (bl (lowb n 8)).length = 8 * 1 := by simp [bl, lowb_len]
  clear ho7 hb7 s4 HO6 HB6 hl6
  go_wp2_with (first
    | (at_builtin; refine wpList_append_own _ rfl _ _ 189 rfl (N + 1) 5 i0 _ 1 1 Try.underlying189 hi hz0 hz1 hz2 rfl (by omega) _ 8 _ rfl ho1 ⟨g3, 0, none⟩ 8 c3 (bl (lowb n 8)) rfl hlen hnw (bl_one _) (by unfold maxLen; omega) (by omega) hl7 ?_; intro v8 w8 hown8 hg8 _))
  rw [HBT.out] at hown8
  obtain ⟨g, c, hv8, r1, r2, r3, r4⟩ := own_slice hown8 (by omega)
  subst hv8
  have HB8 := Lib.hid (HB7.out.grown hg8 hl7 (fun b hb => own_block ho1 hb.symm))
  have h72 := refKey_any g 0 16 c (kby x n) w8 (kby_lt x n) (fun i _ hi => by rw [Nat.zero_add]; exact r4 i _ (kl_get x n i hi))
  rw [HF.out.1, HF.out.2] at h72
  refine h72.mono ?_
  rintro e w9 ⟨rfl, hb9⟩
  have HB9 := Lib.hid (HB8.out.trans (hb9.mono (Nat.le_trans (by rw [HS1.out]; omega) HB8.out.size)))
  have HT9 : Hid (w9.there N 0 16) := Lib.hid (there_below HT.out HB9.out (by omega))
  clear h72 HB8 r4 hown8 ho1 hg8 hnw HT hb9
  go_wp2_with (refine wpList_store_key rfl _ _ rfl N _ _ rfl rfl HT9.out ?_)
  exact ends_key rfl N _ _ HT9.out rfl rfl ⟨rfl, below_setCells _ _ _ _ (HB1.out.trans (HB9.out.mono (by omega))) (by omega)⟩
end Go.Proofs.Ytcbanemkjebdcaa
