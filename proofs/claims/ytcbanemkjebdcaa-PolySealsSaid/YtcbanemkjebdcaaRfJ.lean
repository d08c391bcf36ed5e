/-
  The specification's Derive and Number.
-/
import Derived.Test.YtcbanemkjebdcaaRfI
import Derived.Deep.RegionHeld3
namespace Go.Proofs.Ytcbanemkjebdcaa
open Go.RowKit SP
set_option linter.unusedVariables false
set_option linter.unusedSimpArgs false

set_option maxRecDepth 100000 in
set_option maxHeartbeats 1000000 in
theorem refDerive_any (X Y t n : Nat) (w : World) (hX : X < M) (hY : Y < M) (ht : t < 256) (hn : n < M) :
    Calls Try.prog 74 #[.agg (kl X Y).toArray, .int .u8 (t : Int), .int .u64 (n : Int)] w fun e w' => e = .returned (.agg (kl (drv X Y t n).1 (drv X Y t n).2).toArray) ∧ Below w.heap.size w w' := by
  obtain ⟨W2, hW2⟩ : ∃ W2, W2 = (w.alloc (.cells (kl X Y).toArray 23)).alloc (.cells z16 23) := ⟨_, rfl⟩
  have HB : Hid (Below w.heap.size w W2) := Lib.hid (by rw [hW2]; exact ((Below.refl _ _).alloc (Nat.le_refl _) _).alloc (by simp) _)
  have HT : Hid (W2.there (w.heap.size + 1) 0 16) := Lib.hid (by
    have h := (Row.zeros (w.alloc (.cells (kl X Y).toArray 23)) 23).there
    rw [World.size_alloc] at h
    rw [hW2]; exact h)
  have HK : Hid (KeyAt W2 w.heap.size X Y) := Lib.hid (by rw [hW2]; exact (KeyAt.new w X Y 23).alloc _)
  have HW := Lib.hid hW2
  have HG := Lib.hid (fun w => refBlk_any t 0 n w ht (by omega) hn)
  rw [Nat.add_zero] at HG
  have HE := Lib.hid (fun w => refEncrypt_any X Y (t * 72057594037927936) n w hX hY (by unfold M; omega) hn)
  obtain ⟨P, hP⟩ : ∃ P, P = (drv X Y t n).1 := ⟨_, rfl⟩
  obtain ⟨Q, hQ⟩ : ∃ Q, Q = (drv X Y t n).2 := ⟨_, rfl⟩
  have eP : (enc X Y (t * 72057594037927936) n).1 = P := hP.symm
  have eQ : (enc X Y (t * 72057594037927936) n).2 = Q := hQ.symm
  rw [eP, eQ] at HE
  rw [← hP, ← hQ]
  clear eP eQ hP hQ
  have hsz : (kl P Q).toArray.size = 16 := by simp [kl_len]
  have HS := Lib.hid (fun (w' : World) (h : Below W2.heap.size W2 w') => (⟨HK.out.below h HK.out.lt, by rw [hsz]; exact there_below HT.out h (there_lt HT.out (by omega)), HB.out.trans (h.mono HB.out.size)⟩ : w'.rangeAt w.heap.size 0 (kl X Y) ∧ w'.there (w.heap.size + 1) 0 (kl P Q).toArray.size ∧ Below w.heap.size w w'))
  have HS2 := Lib.hid (fun (w' : World) (h : w'.rangeAt w.heap.size 0 (kl X Y) ∧ w'.there (w.heap.size + 1) 0 (kl P Q).toArray.size ∧ Below w.heap.size w w') =>
    (⟨KeyAt.setCells h.1 _ _ (by omega), World.there_setCells h.2.1 _ _ _, below_setCells _ _ _ _ h.2.2 (by omega)⟩ : (w'.setCells (w.heap.size + 1) 0 (kl P Q)).rangeAt w.heap.size 0 (kl X Y) ∧ (w'.setCells (w.heap.size + 1) 0 (kl P Q)).there (w.heap.size + 1) 0 (kl P Q).toArray.size ∧ Below w.heap.size w (w'.setCells (w.heap.size + 1) 0 (kl P Q))))
  have HS3 := Lib.hid (fun (w' : World) (h : w'.there (w.heap.size + 1) 0 (kl P Q).toArray.size) => (by rw [hsz] at h; exact h : w'.there (w.heap.size + 1) 0 16))
  have hx0 : Below W2.heap.size W2 W2.drew := (Below.refl _ _).drew
  have hlen0 : W2.heap.size ≤ W2.drew.heap.size := hx0.size
  clear hW2 hsz
  go_enter Try.func74, Try.ntmps74
  go_wp2_with fail
  rw [← HW.out]
  have hi : (Try.prog.info? 23).map (·.size) = some (kl X Y).length := by rw [kl_len]; exact size23
  have hu := Try.underlying23
  have hi2 : (Try.prog.info? 23).map (·.size) = some (kl P Q).toArray.size := by simp [kl_len, size23]
  have ho2 := kl_one P Q
  go_region_held3 (fun w' => w'.rangeAt w.heap.size 0 (kl X Y) ∧ w'.there (w.heap.size + 1) 0 (kl P Q).toArray.size ∧ Below w.heap.size w w')
    (first | with_reducible exact HS2.out _ (by assumption) | with_reducible exact HS.out _ hx0 | with_reducible exact HS.out _ hx1 | with_reducible exact HS.out _ hx2)
    (first
      | (go_at_call 123; refine (HG.out _).mono ?_; rintro e w5 ⟨rfl, hx5'⟩; have hx1 := hx0.trans (hx5'.mono hlen0))
      | (go_at_call 113; refine (HE.out _).mono ?_; rintro e w6 ⟨rfl, hx6'⟩; have hx2 := hx1.trans (hx6'.mono hx1.size)))
  have HF := HS3.out _ (HS.out _ hx2).2.1
  go_wp2
  exact ends_key rfl (w.heap.size + 1) P Q HF rfl rfl ⟨rfl, below_setCells _ _ _ _ (HB.out.trans (hx2.mono HB.out.size)) (by omega)⟩

set_option maxRecDepth 100000 in
set_option maxHeartbeats 1000000 in
theorem refNumber_any (X Y n most : Nat) (w : World) (hX : X < M) (hY : Y < M) (hn : n < M) :
    Calls Try.prog 94 #[.agg (kl X Y).toArray, .int .u64 (n : Int), .int .u64 (most : Int)] w fun e w' => e = .returned (.int .u64 (numb X Y n most : Nat)) ∧ Below w.heap.size w w' := by
  obtain ⟨W1, hW1⟩ : ∃ W1, W1 = w.alloc (.cells (kl X Y).toArray 23) := ⟨_, rfl⟩
  have HB : Hid (Below w.heap.size w W1) := Lib.hid (by rw [hW1]; exact (Below.refl _ _).alloc (Nat.le_refl _) _)
  have HK : Hid (KeyAt W1 w.heap.size X Y) := Lib.hid (by rw [hW1]; exact KeyAt.new w X Y 23)
  have HW := Lib.hid hW1
  have HD := Lib.hid (fun w => refDerive_any X Y 3 n w hX hY (by decide) hn)
  have hok := drv_ok hX hY (show 3 < 256 by decide) hn
  have HSp := Lib.hid (kw_kby (drv X Y 3 n).1 (drv X Y 3 n).2 hok.1 hok.2).1
  by_cases h0 : most = 0
  · subst h0
    clear hW1 hX hY hn hok
    go_enter Try.func94, Try.ntmps94
    go_wp2
    go_ret
    exact ⟨rfl, by rw [← HW.out]; exact HB.out⟩
  · have HN : Hid (((numb X Y n most : Nat) : Int) = ((drv X Y 3 n).1 : Int) % (most : Int)) := Lib.hid (by unfold numb; rw [if_neg h0]; simp)
    obtain ⟨p, hp⟩ : ∃ p, p = (drv X Y 3 n).1 := ⟨_, rfl⟩
    obtain ⟨q, hq⟩ : ∃ q, q = (drv X Y 3 n).2 := ⟨_, rfl⟩
    rw [← hp] at HD HSp HN
    rw [← hq] at HD HSp
    have hm1 : ((most : Int) == 0) = false := by rw [beq_eq_false_iff_ne]; omega
    have hm2 : (0 : Int) < (most : Int) := by omega
    clear hW1 hX hY hn hok hp hq
    go_enter Try.func94, Try.ntmps94
    go_wp2_with (refine wpList_load_key rfl _ rfl _ rfl X Y (by rw [← HW.out]; exact HK.out) ?_)
    rw [← HW.out]
    refine (HD.out _).mono ?_
    rintro e w2 ⟨rfl, hb2⟩
    have HT2 := Lib.hid (Row.zeros w2 23).there
    obtain ⟨W4, hW4⟩ : ∃ W4, W4 = (w2.alloc (.cells z16 23)).setCells w2.heap.size 0 (kl p q) := ⟨_, rfl⟩
    have HB4 := Lib.hid (show Below w2.heap.size w2 W4 by rw [hW4]; exact below_setCells _ _ _ _ ((Below.refl _ _).alloc (Nat.le_refl _) _) (Nat.le_refl _))
    have hk4 : Hid (KeyAt W4 w2.heap.size p q) := Lib.hid (by rw [hW4]; exact KeyAt.stored (Row.zeros w2 23).there p q)
    have HW4 := Lib.hid hW4
    clear hW4
    go_wp2_with ((refine wpList_store_key rfl _ _ rfl w2.heap.size p q rfl rfl HT2.out ?_); rw [← HW4.out])
    have hcall := refValue_any w2.heap.size 0 8 16 (kby p q) W4 (kby_lt p q) (Nat.le_refl _) (fun i hi => by rw [Nat.zero_add]; exact hk4.out.cell i (by omega))
    rw [show wd (kby p q) 8 = p from HSp.out] at hcall
    refine hcall.mono ?_
    rintro e w3 ⟨rfl, hb3⟩
    clear hcall
    go_wp2_with fail
    go_ret
    exact ⟨ret_int HN.out.symm, (HB.out.trans (hb2.mono HB.out.size)).trans ((HB4.out.trans (hb3.mono HB4.out.size)).mono (Nat.le_trans HB.out.size hb2.size))⟩
end Go.Proofs.Ytcbanemkjebdcaa
