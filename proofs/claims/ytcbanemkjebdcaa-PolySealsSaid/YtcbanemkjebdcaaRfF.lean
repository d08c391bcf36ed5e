/-
  The specification's block.
-/
import Derived.Test.YtcbanemkjebdcaaRfE
namespace Go.Proofs.Ytcbanemkjebdcaa
open Go.RowKit SP
set_option linter.unusedVariables false
set_option linter.unusedSimpArgs false

theorem lowb_kb (X Y : Nat) : lowb X 8 ++ lowb Y 8 = kb X Y := by
  simp [lowb, kb, List.range_succ, kby]
theorem bl_kl (X Y : Nat) : bl (lowb X 8) ++ bl (lowb Y 8) = kl X Y := by
  unfold kl; rw [← lowb_kb]; unfold bl; rw [List.map_append]
theorem flz_key (X Y : Nat) (hX : X < M) (hY : Y < M) : kwX (flz 16 (kby X Y)) = X ∧ kwY (flz 16 (kby X Y)) = Y := by
  have h := kw_kby X Y hX hY
  refine ⟨.trans ?_ h.1, .trans ?_ h.2⟩
  · exact wd_congr _ _ 8 fun i hi => if_pos (by omega)
  · exact wd_congr _ _ 8 fun i hi => if_pos (by omega)

set_option maxRecDepth 100000 in
set_option maxHeartbeats 1000000 in
theorem refBlock_any (X Y : Nat) (w : World) (hX : X < M) (hY : Y < M) :
    Calls Try.prog 122 #[.int .u64 (X : Int), .int .u64 (Y : Int)] w fun e w' => e = .returned (.agg (kl X Y).toArray) ∧ Below w.heap.size w w' := by
  obtain ⟨i0, hi, hz0, hz1, hz2⟩ := info_parts info5
  obtain ⟨N, hN⟩ : ∃ N, N = w.heap.size := ⟨_, rfl⟩
  obtain ⟨W1, hW1⟩ : ∃ W1, W1 = w.alloc (.cells z16 23) := ⟨_, rfl⟩
  have HB1 : Hid (Below N w W1) := Lib.hid (by rw [hW1, hN]; exact (Below.refl _ _).alloc (Nat.le_refl _) _)
  have HS1 : Hid (W1.heap.size = N + 1) := Lib.hid (by rw [hW1, hN]; simp)
  have HT : Hid (W1.there N 0 16) := Lib.hid (by rw [hW1, hN]; exact (Row.zeros w 23).there)
  have H1 := Lib.hid (fun w => refBytes_any X 8 w hX (by omega))
  have H2 := Lib.hid (fun w => refBytes_any Y 8 w hY (by omega))
  have HF := Lib.hid (flz_key X Y hX hY)
  have HW := Lib.hid hW1
  have HN := Lib.hid hN
  rw [← hN]
  clear hW1 hN hX hY
  go_enter Try.func122, Try.ntmps122
  go_wp2_with fail
  rw [← HW.out, ← HN.out]
  refine (H1.out W1).mono ?_
  rintro e w2 ⟨v1, rfl, ho1, hb2⟩
  have HO1 := Lib.hid ho1
  have HB2 := Lib.hid hb2
  clear ho1 hb2
  go_wp2_with fail
  refine (H2.out w2).mono ?_
  rintro e w3 ⟨v2, rfl, ho2, hb3⟩
  have hL : W1.heap.size ≤ w2.heap.size := HB2.out.size
  have ho1 := own_below HO1.out hb3
  have HB3 := Lib.hid (HB2.out.trans (hb3.mono hL))
  obtain ⟨g2, c2, hv2, q1, q2, q3, q4⟩ := own_slice ho2 (by omega)
  subst hv2
  have hnw : ∀ j u, (bl (lowb Y 8))[j]? = some u → w3.cell? ((⟨g2, 0, none⟩ : Addr).add j) = some u := by
    intro j u hu
    rw [Addr.add_lit, Nat.zero_add]
    exact q4 j u hu
  clear HO1 HB2 ho2 hb3 q4 hL
  have hlen : (bl (lowb Y 8)).length = 8 * 1 := by simp [bl, lowb_len]
  have HB3s : W1.heap.size ≤ w3.heap.size := HB3.out.size
  go_wp2_with (first
    | (at_builtin; refine wpList_append_own _ rfl _ _ 189 rfl W1.heap.size 5 i0 _ 1 1 Try.underlying189 hi hz0 hz1 hz2 rfl (by omega) _ 8 (bl (lowb X 8)) rfl ho1 ⟨g2, 0, none⟩ 8 c2 (bl (lowb Y 8)) rfl hlen hnw (bl_one _) (by unfold maxLen; omega) (by omega) HB3s ?_; intro v5 w6 hown6 hg6 _))
  rw [bl_kl] at hown6
  obtain ⟨g, c, hv5, r1, r2, r3, r4⟩ := own_slice hown6 (by omega)
  subst hv5
  have HB6 := Lib.hid (HB3.out.grown hg6 HB3s (fun b hb => own_block ho1 hb.symm))
  have h72 := refKey_any g 0 16 c (kby X Y) w6 (kby_lt X Y) (fun i _ hi => by rw [Nat.zero_add]; exact r4 i _ (kl_get X Y i hi))
  rw [HF.out.1, HF.out.2] at h72
  refine h72.mono ?_
  rintro e w7 ⟨rfl, hb7⟩
  have HB7 := Lib.hid (HB6.out.trans (hb7.mono HB6.out.size))
  have HT7 : Hid (w7.there N 0 16) := Lib.hid (there_below HT.out HB7.out (by rw [HS1.out]; omega))
  clear h72 HB6 r4 hown6 ho1 hg6 hnw HT hb7
  go_wp2_with (refine wpList_store_key rfl _ _ rfl N _ _ rfl rfl HT7.out ?_)
  exact ends_key rfl N _ _ HT7.out rfl rfl ⟨rfl, below_setCells _ _ _ _ (HB1.out.trans (HB7.out.mono (by rw [HS1.out]; omega))) (Nat.le_refl _)⟩
end Go.Proofs.Ytcbanemkjebdcaa
