/-
  Contracts of xor, the program's and the laws' own.
-/
import Derived.Test.YtphhppdokdageaaKeyG
import Derived.RegionTactic
namespace Go.Proofs.Ytphhppdokdageaa
open Go.RowKit SP

theorem kby_xor (X Y A B j : Nat) : kby (X ^^^ A) (Y ^^^ B) j = kby X Y j ^^^ kby A B j := by
  have key : ∀ x y p : Nat, (x ^^^ y) / 256 ^ p % 256 = (x / 256 ^ p % 256) ^^^ (y / 256 ^ p % 256) := by
    intro x y p
    rw [show (256 : Nat) = 2 ^ 8 by decide, ← Nat.pow_mul, ← Nat.shiftRight_eq_div_pow, ← Nat.shiftRight_eq_div_pow, ← Nat.shiftRight_eq_div_pow, Nat.shiftRight_xor_distrib, Nat.xor_mod_two_pow]
  unfold kby
  split <;> exact key _ _ _

theorem xor8_int (a b : Nat) (ha : a < 256) (hb : b < 256) : bits .xor .u8 (a : Int) (b : Int) = ((a ^^^ b : Nat) : Int) := u8_xor_nat a b ha hb

set_option maxRecDepth 100000 in
set_option maxHeartbeats 1000000 in
theorem xor_any (X Y A B : Nat) (w : World) :
    Calls Try.prog 46 #[.agg (kl X Y).toArray, .agg (kl A B).toArray] w fun e w' => e = .returned (.agg (kl (X ^^^ A) (Y ^^^ B)).toArray) ∧ Below w.heap.size w w' := by
  obtain ⟨wo, hwo⟩ : ∃ wo, wo = ((w.alloc (.cells (kl X Y).toArray 23)).alloc (.cells (kl A B).toArray 23)).alloc (.cells z16 23) := ⟨_, rfl⟩
  have HB : Hid (Below w.heap.size w wo) := Lib.hid (by rw [hwo]; exact (((Below.refl _ _).alloc (Nat.le_refl _) _).alloc (by simp) _).alloc (by simp; omega) _)
  have HR : Hid (Row wo w.heap.size (kby X Y)) := Lib.hid (by rw [hwo]; exact ((Row.keyNew w X Y 23).keep ((Below.refl _ _).alloc (Nat.le_refl _) _)).keep ((Below.refl _ _).alloc (Nat.le_refl _) _))
  have HK : Hid (KeyAt wo (w.heap.size + 1) A B) := Lib.hid (by
    have h := (KeyAt.new (w.alloc (.cells (kl X Y).toArray 23)) A B 23).alloc (.cells z16 23)
    rw [World.size_alloc] at h
    rw [hwo]; exact h)
  have HT : Hid (wo.there (w.heap.size + 2) 0 16) := Lib.hid (by
    have h := (Row.zeros ((w.alloc (.cells (kl X Y).toArray 23)).alloc (.cells (kl A B).toArray 23)) 23).there
    rw [World.size_alloc, World.size_alloc] at h
    rw [hwo]; exact h)
  have HW := Lib.hid hwo
  clear hwo
  go_enter Try.func46, Try.ntmps46
  go_wp2
  rw [← HW.out]
  clear HW
  go_loopw [5, 6] (fun _ i wr => ∃ (k : Nat) (f : Nat → Nat), k ≤ 16 ∧ i = .int .i64 (k : Int) ∧ Hid (Row wr w.heap.size f ∧ KeyAt wr (w.heap.size + 1) A B ∧ wr.there (w.heap.size + 2) 0 16 ∧ Below w.heap.size w wr ∧ ∀ j, j < 16 → f j = if j < k then kby X Y j ^^^ kby A B j else kby X Y j)) (fun _ i _ => 16 - (intOf i).toNat)
  case atStart => exact ⟨0, _, by omega, rfl, Lib.hid ⟨HR.out, HK.out, HT.out, HB.out, fun j _ => by simp⟩⟩
  case round =>
    obtain ⟨k, f, hk, rfl, HI⟩ := hrel
    by_cases hlt : k < 16
    · have c1 := HI.out.1.cell k hlt
      have f1 := HI.out.1.fr k hlt
      have c2 := HI.out.2.1.cell k hlt
      have e1 := HI.out.2.2.2.2 k hlt
      rw [if_neg (by omega)] at e1
      rw [e1] at c1
      obtain ⟨p, hp⟩ : ∃ p, p = kby X Y k := ⟨_, rfl⟩
      obtain ⟨q, hq⟩ : ∃ q, q = kby A B k := ⟨_, rfl⟩
      have hx := xor8_int p q (by rw [hp]; exact kby_lt _ _ _) (by rw [hq]; exact kby_lt _ _ _)
      rw [← hp] at c1
      rw [← hq] at c2
      have HPQ := Lib.hid (And.intro hp hq)
      have l1 : (0 : Int) ≤ (k : Int) := by omega
      have l2 : (k : Int) < 16 := by omega
      clear e1 hp hq
      have c1' : wr.drew.cell? ⟨w.heap.size, k, none⟩ = some (.int .u8 (p : Int)) := c1
      have c2' : wr.drew.cell? ⟨w.heap.size + 1, k, none⟩ = some (.int .u8 (q : Int)) := c2
      have f1' : wr.drew.frozen? ⟨w.heap.size, k, none⟩ = false := f1
      clear c1 c2 f1
      go_wp2
      go_region
      all_goals go_wp2
      all_goals go_roundw
      case rel =>
        refine ⟨k + 1, _, by omega, by go_num, Lib.hid ⟨(HI.out.1.below (Below.refl _ _).drew HI.out.1.lt).set k (p ^^^ q) hlt, (HI.out.2.1.drew).setCell _ _ (by simp), ?_, ?_, fun j hj => ?_⟩⟩
        · intro j hj
          have h := HI.out.2.2.1 j hj
          refine ⟨?_, ?_⟩
          · show ((World.setCell wr _ _).cell? _).isSome = true
            rw [World.cell?_setCell_other _ _ _ _ (by intro e; injection e with e; omega)]; exact h.1
          · show (World.setCell wr _ _).frozen? _ = false
            rw [World.frozen?_setCell]; exact h.2
        · exact (HI.out.2.2.2.1.drew).setCell (p := ⟨w.heap.size, k, none⟩) (Nat.le_refl _) _
        · by_cases e : j = k
          · subst e; rw [if_pos rfl, if_pos (by omega), HPQ.out.1, HPQ.out.2]
          · rw [if_neg e, HI.out.2.2.2.2 j hj]
            by_cases e2 : j < k
            · rw [if_pos e2, if_pos (by omega)]
            · rw [if_neg e2, if_neg (by omega)]
      case measure => simp [intOf]; omega
    · obtain rfl : k = 16 := by omega
      have HK2 : Hid (KeyAt wr w.heap.size (X ^^^ A) (Y ^^^ B)) := Lib.hid (HI.out.1.key fun j hj => by rw [HI.out.2.2.2.2 j hj, if_pos hj, kby_xor])
      have HT2 := Lib.hid HI.out.2.2.1
      go_wp2_with (first
        | (refine wpList_load_key rfl _ rfl _ rfl _ _ HK2.out ?_)
        | (refine wpList_store_key rfl _ _ rfl (w.heap.size + 1 + 1) _ _ rfl rfl HT2.out ?_))
      exact ends_key rfl (w.heap.size + 1 + 1) _ _ HT2.out rfl rfl ⟨rfl, below_setCells _ _ _ _ HI.out.2.2.2.1 (by omega)⟩
set_option maxRecDepth 100000 in
set_option maxHeartbeats 1000000 in
theorem lawXor_any (X Y A B : Nat) (w : World) :
    Calls Try.prog 26 #[.agg (kl X Y).toArray, .agg (kl A B).toArray] w fun e w' => e = .returned (.agg (kl (X ^^^ A) (Y ^^^ B)).toArray) ∧ Below w.heap.size w w' := by
  obtain ⟨wo, hwo⟩ : ∃ wo, wo = ((w.alloc (.cells (kl X Y).toArray 23)).alloc (.cells (kl A B).toArray 23)).alloc (.cells z16 23) := ⟨_, rfl⟩
  have HB : Hid (Below w.heap.size w wo) := Lib.hid (by rw [hwo]; exact (((Below.refl _ _).alloc (Nat.le_refl _) _).alloc (by simp) _).alloc (by simp; omega) _)
  have HR : Hid (Row wo w.heap.size (kby X Y)) := Lib.hid (by rw [hwo]; exact ((Row.keyNew w X Y 23).keep ((Below.refl _ _).alloc (Nat.le_refl _) _)).keep ((Below.refl _ _).alloc (Nat.le_refl _) _))
  have HK : Hid (KeyAt wo (w.heap.size + 1) A B) := Lib.hid (by
    have h := (KeyAt.new (w.alloc (.cells (kl X Y).toArray 23)) A B 23).alloc (.cells z16 23)
    rw [World.size_alloc] at h
    rw [hwo]; exact h)
  have HT : Hid (wo.there (w.heap.size + 2) 0 16) := Lib.hid (by
    have h := (Row.zeros ((w.alloc (.cells (kl X Y).toArray 23)).alloc (.cells (kl A B).toArray 23)) 23).there
    rw [World.size_alloc, World.size_alloc] at h
    rw [hwo]; exact h)
  have HW := Lib.hid hwo
  clear hwo
  go_enter Try.func26, Try.ntmps26
  go_wp2
  rw [← HW.out]
  clear HW
  go_loopw [5] (fun i wr => ∃ (k : Nat) (f : Nat → Nat), k ≤ 16 ∧ i = .int .i64 (k : Int) ∧ Hid (Row wr w.heap.size f ∧ KeyAt wr (w.heap.size + 1) A B ∧ wr.there (w.heap.size + 2) 0 16 ∧ Below w.heap.size w wr ∧ ∀ j, j < 16 → f j = if j < k then kby X Y j ^^^ kby A B j else kby X Y j)) (fun i _ => 16 - (intOf i).toNat)
  case atStart => exact ⟨0, _, by omega, rfl, Lib.hid ⟨HR.out, HK.out, HT.out, HB.out, fun j _ => by simp⟩⟩
  case round =>
    obtain ⟨k, f, hk, rfl, HI⟩ := hrel
    by_cases hlt : k < 16
    · have c1 := HI.out.1.cell k hlt
      have f1 := HI.out.1.fr k hlt
      have c2 := HI.out.2.1.cell k hlt
      have e1 := HI.out.2.2.2.2 k hlt
      rw [if_neg (by omega)] at e1
      rw [e1] at c1
      obtain ⟨p, hp⟩ : ∃ p, p = kby X Y k := ⟨_, rfl⟩
      obtain ⟨q, hq⟩ : ∃ q, q = kby A B k := ⟨_, rfl⟩
      have hx := xor8_int p q (by rw [hp]; exact kby_lt _ _ _) (by rw [hq]; exact kby_lt _ _ _)
      rw [← hp] at c1
      rw [← hq] at c2
      have HPQ := Lib.hid (And.intro hp hq)
      have l1 : (0 : Int) ≤ (k : Int) := by omega
      have l2 : (k : Int) < 16 := by omega
      clear e1 hp hq
      have c1' : wr.drew.cell? ⟨w.heap.size, k, none⟩ = some (.int .u8 (p : Int)) := c1
      have c2' : wr.drew.cell? ⟨w.heap.size + 1, k, none⟩ = some (.int .u8 (q : Int)) := c2
      have f1' : wr.drew.frozen? ⟨w.heap.size, k, none⟩ = false := f1
      clear c1 c2 f1
      go_wp2
      go_region
      all_goals go_wp2
      all_goals go_roundw
      case rel =>
        refine ⟨k + 1, _, by omega, by go_num, Lib.hid ⟨(HI.out.1.below (Below.refl _ _).drew HI.out.1.lt).set k (p ^^^ q) hlt, (HI.out.2.1.drew).setCell _ _ (by simp), ?_, ?_, fun j hj => ?_⟩⟩
        · intro j hj
          have h := HI.out.2.2.1 j hj
          refine ⟨?_, ?_⟩
          · show ((World.setCell wr _ _).cell? _).isSome = true
            rw [World.cell?_setCell_other _ _ _ _ (by intro e; injection e with e; omega)]; exact h.1
          · show (World.setCell wr _ _).frozen? _ = false
            rw [World.frozen?_setCell]; exact h.2
        · exact (HI.out.2.2.2.1.drew).setCell (p := ⟨w.heap.size, k, none⟩) (Nat.le_refl _) _
        · by_cases e : j = k
          · subst e; rw [if_pos rfl, if_pos (by omega), HPQ.out.1, HPQ.out.2]
          · rw [if_neg e, HI.out.2.2.2.2 j hj]
            by_cases e2 : j < k
            · rw [if_pos e2, if_pos (by omega)]
            · rw [if_neg e2, if_neg (by omega)]
      case measure => simp [intOf]; omega
    · obtain rfl : k = 16 := by omega
      have HK2 : Hid (KeyAt wr w.heap.size (X ^^^ A) (Y ^^^ B)) := Lib.hid (HI.out.1.key fun j hj => by rw [HI.out.2.2.2.2 j hj, if_pos hj, kby_xor])
      have HT2 := Lib.hid HI.out.2.2.1
      go_wp2_with (first
        | (refine wpList_load_key rfl _ rfl _ rfl _ _ HK2.out ?_)
        | (refine wpList_store_key rfl _ _ rfl (w.heap.size + 1 + 1) _ _ rfl rfl HT2.out ?_))
      exact ends_key rfl (w.heap.size + 1 + 1) _ _ HT2.out rfl rfl ⟨rfl, below_setCells _ _ _ _ HI.out.2.2.2.1 (by omega)⟩
end Go.Proofs.Ytphhppdokdageaa
