/-
  The specification's Xor, portions and portion.
-/
import Derived.Test.YtphhppdokdageaaRfJ
import Derived.Test.YtphhppdokdageaaMac
namespace Go.Proofs.Ytphhppdokdageaa
open Go.RowKit SP
set_option linter.unusedVariables false
set_option linter.unusedSimpArgs false

set_option maxRecDepth 100000 in
set_option maxHeartbeats 1000000 in
theorem refXor_any (X Y A B : Nat) (w : World) :
    Calls Try.prog 63 #[.agg (kl X Y).toArray, .agg (kl A B).toArray] w fun e w' => e = .returned (.agg (kl (X ^^^ A) (Y ^^^ B)).toArray) ∧ Below w.heap.size w w' := by
  obtain ⟨wo, hwo⟩ : ∃ wo, wo = ((w.alloc (.cells (kl X Y).toArray 23)).alloc (.cells (kl A B).toArray 23)).alloc (.cells z16 23) := ⟨_, rfl⟩
  have HB : Hid (Below w.heap.size w wo) := Lib.hid (by rw [hwo]; exact (((Below.refl _ _).alloc (Nat.le_refl _) _).alloc (by simp) _).alloc (by simp; omega) _)
  have HR : Hid (Row wo w.heap.size (kby X Y)) := Lib.hid (by rw [hwo]; exact ((Row.keyNew w X Y 23).keep ((Below.refl _ _).alloc (Nat.le_refl _) _)).keep ((Below.refl _ _).alloc (Nat.le_refl _) _))
  have HK : Hid (KeyAt wo (w.heap.size + 1) A B) := Lib.hid (by
    have h := (KeyAt.new (w.alloc (.cells (kl X Y).toArray 23)) A B 23).alloc (.cells z16 23)
    rw [World.size_alloc] at h
    rw [hwo]; exact h)
  have HT : Hid (wo.there (w.heap.size + 2) 0 16) := Lib.hid (by
    have h := (Row.zeros ((w.alloc (.cells (kl X Y).toArray 23)).alloc (.cells (kl A B).toArray 23)) 23).there
    rw [World.size_alloc, World.size_alloc] at h
    rw [hwo]; exact h)
  have HW := Lib.hid hwo
  clear hwo
  go_enter Try.func63, Try.ntmps63
  go_wp2
  rw [← HW.out]
  clear HW
  go_loopw [5] (fun i wr => ∃ (k : Nat) (f : Nat → Nat), k ≤ 16 ∧ i = .int .i64 (k : Int) ∧ Hid (Row wr w.heap.size f ∧ KeyAt wr (w.heap.size + 1) A B ∧ wr.there (w.heap.size + 2) 0 16 ∧ Below w.heap.size w wr ∧ ∀ j, j < 16 → f j = if j < k then kby X Y j ^^^ kby A B j else kby X Y j)) (fun i _ => 16 - (intOf i).toNat)
  case atStart => exact ⟨0, _, by omega, rfl, Lib.hid ⟨HR.out, HK.out, HT.out, HB.out, fun j _ => by simp⟩⟩
  case round =>
    obtain ⟨k, f, hk, rfl, HI⟩ := hrel
    by_cases hlt : k < 16
    · have c1 := HI.out.1.cell k hlt
      have f1 := HI.out.1.fr k hlt
      have c2 := HI.out.2.1.cell k hlt
      have e1 := HI.out.2.2.2.2 k hlt
      rw [if_neg (by omega)] at e1
      rw [e1] at c1
      obtain ⟨p, hp⟩ : ∃ p, p = kby X Y k := ⟨_, rfl⟩
      obtain ⟨q, hq⟩ : ∃ q, q = kby A B k := ⟨_, rfl⟩
      have hx := xor8_int p q (by rw [hp]; exact kby_lt _ _ _) (by rw [hq]; exact kby_lt _ _ _)
      rw [← hp] at c1
      rw [← hq] at c2
      have HPQ := Lib.hid (And.intro hp hq)
      have l1 : (0 : Int) ≤ (k : Int) := by omega
      have l2 : (k : Int) < 16 := by omega
      clear e1 hp hq
      have c1' : wr.drew.cell? ⟨w.heap.size, k, none⟩ = some (.int .u8 (p : Int)) := c1
      have c2' : wr.drew.cell? ⟨w.heap.size + 1, k, none⟩ = some (.int .u8 (q : Int)) := c2
      have f1' : wr.drew.frozen? ⟨w.heap.size, k, none⟩ = false := f1
      clear c1 c2 f1
      go_wp2
      go_region
      all_goals go_wp2
      all_goals go_roundw
      case rel =>
        refine ⟨k + 1, _, by omega, by go_num, Lib.hid ⟨(HI.out.1.below (Below.refl _ _).drew HI.out.1.lt).set k (p ^^^ q) hlt, (HI.out.2.1.drew).setCell _ _ (by simp), ?_, ?_, fun j hj => ?_⟩⟩
        · intro j hj
          have h := HI.out.2.2.1 j hj
          refine ⟨?_, ?_⟩
          · show ((World.setCell wr _ _).cell? _).isSome = true
            rw [World.cell?_setCell_other _ _ _ _ (by intro e; injection e with e; omega)]; exact h.1
          · show (World.setCell wr _ _).frozen? _ = false
            rw [World.frozen?_setCell]; exact h.2
        · exact (HI.out.2.2.2.1.drew).setCell (p := ⟨w.heap.size, k, none⟩) (Nat.le_refl _) _
        · by_cases e : j = k
          · subst e; rw [if_pos rfl, if_pos (by omega), HPQ.out.1, HPQ.out.2]
          · rw [if_neg e, HI.out.2.2.2.2 j hj]
            by_cases e2 : j < k
            · rw [if_pos e2, if_pos (by omega)]
            · rw [if_neg e2, if_neg (by omega)]
      case measure => simp [intOf]; omega
    · obtain rfl : k = 16 := by omega
      have HK2 : Hid (KeyAt wr w.heap.size (X ^^^ A) (Y ^^^ B)) := Lib.hid (HI.out.1.key fun j hj => by rw [HI.out.2.2.2.2 j hj, if_pos hj, kby_xor])
      have HT2 := Lib.hid HI.out.2.2.1
      go_wp2_with (first
        | (refine wpList_load_key rfl _ rfl _ rfl _ _ HK2.out ?_)
        | (refine wpList_store_key rfl _ _ rfl (w.heap.size + 1 + 1) _ _ rfl rfl HT2.out ?_))
      exact ends_key rfl (w.heap.size + 1 + 1) _ _ HT2.out rfl rfl ⟨rfl, below_setCells _ _ _ _ HI.out.2.2.2.1 (by omega)⟩

theorem refPortions_any (A : Option Addr) (n c : Nat) (w : World) (hn : n ≤ 1000000) :
    Calls Try.prog 62 #[.slice A n c] w fun e w' => e = .returned (.int .i64 (cnt n : Nat)) ∧ w = w' := by
  have h1 : ((n : Int) + 15) / 16 = ((cnt n : Nat) : Int) := by unfold cnt; omega
  have h2 : ((n : Int) + 15).tdiv 16 = ((cnt n : Nat) : Int) := by rw [Int.tdiv_eq_ediv_of_nonneg (by omega)]; exact h1
  go_enter Try.func62, Try.ntmps62
  go_wp2
  go_ret
  exact ⟨rfl, rfl⟩

set_option maxRecDepth 100000 in
set_option maxHeartbeats 1000000 in
theorem refPortion_any (b off n c k : Nat) (g : Nat → Nat) (w : World) (hg : ∀ i, g i < 256) (hk : 16 * k < n) (hn : n ≤ 1000000) (hnc : n ≤ c) (hcm : c ≤ maxLen)
    (hc : ∀ i, i < n → w.cell? ⟨b, off + i, none⟩ = some (.int .u8 (g i : Int))) :
    Calls Try.prog 64 #[.slice (some ⟨b, off, none⟩) n c, .int .i64 (k : Int)] w fun e w' => e = .returned (.agg (kl (kwX (flz (n - 16 * k) fun i => g (16 * k + i))) (kwY (flz (n - 16 * k) fun i => g (16 * k + i)))).toArray) ∧ Below w.heap.size w w' := by
  obtain ⟨W1, hW1⟩ : ∃ W1, W1 = w.alloc (.cells z16 23) := ⟨_, rfl⟩
  have HB : Hid (Below w.heap.size w W1) := Lib.hid (by rw [hW1]; exact (Below.refl _ _).alloc (Nat.le_refl _) _)
  have HT : Hid (W1.there w.heap.size 0 16) := Lib.hid (by rw [hW1]; exact (Row.zeros w 23).there)
  have h72 := refKey_any b (off + 16 * k) (n - 16 * k) (c - 16 * k) (fun i => g (16 * k + i)) W1 (fun i => hg _) (fun i hi _ => by
    rw [show off + 16 * k + i = off + (16 * k + i) by omega]
    have h := hc (16 * k + i) (by omega)
    exact (HB.out.cell (p := ⟨b, off + (16 * k + i), none⟩) (block_lt_of_cell h)).trans h)
  have H72 := Lib.hid h72
  have HW := Lib.hid hW1
  have l1 : (0 : Int) ≤ 16 * (k : Int) := by omega
  have l2 : 16 * (k : Int) ≤ (n : Int) := by omega
  have l3 : 16 * (k : Int) ≤ (c : Int) := by omega
  clear h72 hW1 hc hg
  go_enter Try.func64, Try.ntmps64
  go_wp2_with fail
  rw [← HW.out]
  refine H72.out.mono ?_
  rintro e w2 ⟨rfl, hb2⟩
  have HT2 := Lib.hid (there_below HT.out hb2 (there_lt HT.out (by omega)))
  have HB2 := Lib.hid (HB.out.trans (hb2.mono HB.out.size))
  clear hb2
  go_wp2_with (refine wpList_store_key rfl _ _ rfl w.heap.size _ _ rfl rfl HT2.out ?_)
  exact ends_key rfl w.heap.size _ _ HT2.out rfl rfl ⟨rfl, below_setCells _ _ _ _ HB2.out (Nat.le_refl _)⟩
end Go.Proofs.Ytphhppdokdageaa
