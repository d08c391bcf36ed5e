/-
  The specification's key.
-/
import Derived.Test.YtcbanemkjebdcaaRfD
import Derived.Test.YtcbanemkjebdcaaXorA
namespace Go.Proofs.Ytcbanemkjebdcaa
open Go.RowKit SP
set_option linter.unusedVariables false
set_option linter.unusedSimpArgs false

/-- n bytes, zeros behind. -/
def flz (n : Nat) (g : Nat → Nat) (i : Nat) : Nat := if i < n then g i else 0
theorem flz_lt (n : Nat) (g : Nat → Nat) (h : ∀ i, g i < 256) (i : Nat) : flz n g i < 256 := by unfold flz; split; exact h i; omega

set_option maxRecDepth 100000 in
set_option maxHeartbeats 1000000 in
theorem refKey_any (b off n c : Nat) (g : Nat → Nat) (w : World) (hg : ∀ i, g i < 256) (hc : ∀ i, i < n → i < 16 → w.cell? ⟨b, off + i, none⟩ = some (.int .u8 (g i : Int))) :
    Calls Try.prog 145 #[.slice (some ⟨b, off, none⟩) n c] w fun e w' => e = .returned (.agg (kl (kwX (flz n g)) (kwY (flz n g))).toArray) ∧ Below w.heap.size w w' := by
  obtain ⟨wo, hwo⟩ : ∃ wo, wo = (w.alloc (.cells z16 23)).alloc (.cells z16 23) := ⟨_, rfl⟩
  have HB : Hid (Below w.heap.size w wo) := Lib.hid (by rw [hwo]; exact ((Below.refl _ _).alloc (Nat.le_refl _) _).alloc (by simp) _)
  have HR : Hid (Row wo (w.heap.size + 1) (fun _ => 0)) := Lib.hid (by
    have h := Row.zeros (w.alloc (.cells z16 23)) 23
    rw [World.size_alloc] at h
    rw [hwo]; exact h)
  have HT : Hid (wo.there w.heap.size 0 16) := Lib.hid (by rw [hwo]; exact ((Row.zeros w 23).keep ((Below.refl _ _).alloc (Nat.le_refl _) _)).there)
  have HW := Lib.hid hwo
  have HC := Lib.hid hc
  have HG := Lib.hid hg
  clear hwo hc hg
  go_enter Try.func145, Try.ntmps145
  go_wp2
  rw [← HW.out]
  clear HW
  go_loopw [4] (fun i wr => ∃ (k : Nat) (f : Nat → Nat), k ≤ 16 ∧ k ≤ n ∧ i = .int .i64 (k : Int) ∧ Hid (Row wr (w.heap.size + 1) f ∧ wr.there w.heap.size 0 16 ∧ Below w.heap.size w wr ∧ ∀ j, j < 16 → f j = if j < k then g j else 0)) (fun i _ => 16 - (intOf i).toNat)
  case atStart => exact ⟨0, _, by omega, by omega, rfl, Lib.hid ⟨HR.out, HT.out, HB.out, fun j _ => by simp⟩⟩
  case round =>
    obtain ⟨k, f, hk, hkn, rfl, HI⟩ := hrel
    have hend : ¬ (k < 16 ∧ k < n) → Hid (KeyAt wr (w.heap.size + 1) (kwX (flz n g)) (kwY (flz n g))) := fun hno => Lib.hid (HI.out.1.key fun j hj => by
      rw [HI.out.2.2.2 j hj, kw_byte _ (flz_lt n g HG.out) j hj]
      unfold flz
      by_cases e : j < k
      · rw [if_pos e, if_pos (by omega)]
      · rw [if_neg e, if_neg (by omega)])
    by_cases hlt : k < 16
    · by_cases hln : k < n
      · have c1 := HC.out k hln hlt
        have hbl : b < w.heap.size := block_lt_of_cell c1
        have c2 : wr.cell? ⟨b, off + k, none⟩ = some (.int .u8 (g k : Int)) := (HI.out.2.2.1.cell (p := ⟨b, off + k, none⟩) hbl).trans c1
        have f1 : wr.frozen? ⟨w.heap.size + 1, k, none⟩ = false := HI.out.1.fr k hlt
        have c3 : wr.cell? ⟨w.heap.size + 1, k, none⟩ = some (.int .u8 (f k : Int)) := HI.out.1.cell k hlt
        obtain ⟨p, hp⟩ : ∃ p, p = g k := ⟨_, rfl⟩
        rw [← hp] at c2
        have HP := Lib.hid hp
        have l1 : (0 : Int) ≤ (k : Int) := by omega
        have l2 : (k : Int) < 16 := by omega
        have l3 : (k : Int) < (n : Int) := by omega
        clear c1 hp hend
        go_wp2
        go_roundw
        case rel =>
          refine ⟨k + 1, _, by omega, by omega, by go_num, Lib.hid ⟨HI.out.1.set k p hlt, ?_, ?_, fun j hj => ?_⟩⟩
          · intro j hj
            have h := HI.out.2.1 j hj
            refine ⟨?_, ?_⟩
            · show ((World.setCell wr _ _).cell? _).isSome = true
              rw [World.cell?_setCell_other _ _ _ _ (by intro e; injection e with e; omega)]; exact h.1
            · show (World.setCell wr _ _).frozen? _ = false
              rw [World.frozen?_setCell]; exact h.2
          · exact (HI.out.2.2.1).setCell (p := ⟨w.heap.size + 1, k, none⟩) (by simp) _
          · by_cases e : j = k
            · subst e; rw [if_pos rfl, if_pos (by omega), HP.out]
            · rw [if_neg e, HI.out.2.2.2 j hj]
              by_cases e2 : j < k
              · rw [if_pos e2, if_pos (by omega)]
              · rw [if_neg e2, if_neg (by omega)]
        case measure => simp [intOf]; omega
      · have HK2 := hend (by omega)
        have HT2 := Lib.hid HI.out.2.1
        go_wp2_with (first
          | (refine wpList_load_key rfl _ rfl _ rfl _ _ HK2.out ?_)
          | (refine wpList_store_key rfl _ _ rfl w.heap.size _ _ rfl rfl HT2.out ?_))
        exact ends_key rfl w.heap.size _ _ HT2.out rfl rfl ⟨rfl, below_setCells _ _ _ _ HI.out.2.2.1 (by omega)⟩
    · obtain rfl : k = 16 := by omega
      have HK2 := hend (by omega)
      have HT2 := Lib.hid HI.out.2.1
      go_wp2_with (first
        | (refine wpList_load_key rfl _ rfl _ rfl _ _ HK2.out ?_)
        | (refine wpList_store_key rfl _ _ rfl w.heap.size _ _ rfl rfl HT2.out ?_))
      exact ends_key rfl w.heap.size _ _ HT2.out rfl rfl ⟨rfl, below_setCells _ _ _ _ HI.out.2.2.1 (by omega)⟩
end Go.Proofs.Ytcbanemkjebdcaa
