/-
  Contracts of layer 4: keys of headers, lists of receivers.
-/
import Derived.Test.YtcbanemkjebdcaaPolL
import Derived.Test.YtcbanemkjebdcaaPolK
namespace Go.Proofs.Ytcbanemkjebdcaa
open Go.RowKit SP
set_option linter.unusedVariables false
set_option linter.unusedSimpArgs false

theorem kl_zero : #[.int .u8 0, .int .u8 0, .int .u8 0, .int .u8 0, .int .u8 0, .int .u8 0, .int .u8 0, .int .u8 0, .int .u8 0, .int .u8 0, .int .u8 0, .int .u8 0, .int .u8 0, .int .u8 0, .int .u8 0, .int .u8 0] = (kl 0 0).toArray := by first | rfl | kernel_rfl

set_option maxRecDepth 100000 in
set_option maxHeartbeats 400000 in
theorem checkOf_any (X Y : Nat) (w : World) (hX : X < M) (hY : Y < M) :
    Calls Try.prog 56 #[.agg (kl X Y).toArray] w fun e w' => e = .returned (.agg (kl (drv X Y 53 0).1 (drv X Y 53 0).2).toArray) ∧ Below w.heap.size w w' := by
  obtain ⟨W2, hW2⟩ : ∃ W2, W2 = (w.alloc (.cells (kl X Y).toArray 23)).alloc (.cells z16 23) := ⟨_, rfl⟩
  have HB : Hid (Below w.heap.size w W2) := Lib.hid (by rw [hW2]; exact ((Below.refl _ _).alloc (Nat.le_refl _) _).alloc (by simp) _)
  have HT : Hid (W2.there (w.heap.size + 1) 0 16) := Lib.hid (by
    have h := (Row.zeros (w.alloc (.cells (kl X Y).toArray 23)) 23).there
    rw [World.size_alloc] at h
    rw [hW2]; exact h)
  have HS : Hid (W2.heap.size = w.heap.size + 2) := Lib.hid (by rw [hW2]; simp)
  have HK : Hid (KeyAt W2 w.heap.size X Y) := Lib.hid (by rw [hW2]; exact (KeyAt.new w X Y 23).alloc _)
  have HD := Lib.hid (fun w => derive_any X Y 53 0 w hX hY (by decide) (by decide))
  obtain ⟨p, hp⟩ : ∃ p, p = (drv X Y 53 0).1 := ⟨_, rfl⟩
  obtain ⟨q, hq⟩ : ∃ q, q = (drv X Y 53 0).2 := ⟨_, rfl⟩
  rw [← hp, ← hq] at HD ⊢
  have HW := Lib.hid hW2
  clear hW2 hX hY hp hq
  go_enter Try.func56, Try.ntmps56
  go_wp2_with (refine wpList_load_key rfl _ rfl _ rfl X Y (by rw [← HW.out]; exact HK.out) ?_)
  rw [← HW.out]
  refine (HD.out _).mono ?_
  rintro e w3 ⟨rfl, hb3⟩
  have HT3 := Lib.hid (there_below HT.out hb3 (by rw [HS.out]; omega))
  have HB3 := Lib.hid (HB.out.trans (hb3.mono HB.out.size))
  obtain ⟨w5, hw5⟩ : ∃ w5, w5 = w3.setCells (w.heap.size + 1) 0 (kl p q) := ⟨_, rfl⟩
  have HK5 : Hid (KeyAt w5 (w.heap.size + 1) p q) := Lib.hid (by rw [hw5]; exact KeyAt.stored HT3.out p q)
  have HB5 : Hid (Below w.heap.size w w5) := Lib.hid (by rw [hw5]; exact below_setCells _ _ _ _ HB3.out (by omega))
  have HW5 := Lib.hid hw5
  clear hb3 hw5
  go_wp2_with ((refine wpList_store_key rfl _ _ rfl (w.heap.size + 1) p q rfl rfl HT3.out ?_); rw [← HW5.out])
  exact bodyPost_key rfl (w.heap.size + 1) p q rfl HK5.out rfl ⟨rfl, HB5.out⟩

set_option maxRecDepth 100000 in
set_option maxHeartbeats 400000 in
theorem maskKey_any (z : Nat) (w : World) (hz : z < M) :
    Calls Try.prog 60 #[.int .u64 (z : Int)] w fun e w' => e = .returned (.agg (kl (drv 0 0 42 z).1 (drv 0 0 42 z).2).toArray) ∧ Below w.heap.size w w' := by
  obtain ⟨W2, hW2⟩ : ∃ W2, W2 = w.alloc (.cells z16 23) := ⟨_, rfl⟩
  have HB : Hid (Below w.heap.size w W2) := Lib.hid (by rw [hW2]; exact (Below.refl _ _).alloc (Nat.le_refl _) _)
  have HT : Hid (W2.there w.heap.size 0 16) := Lib.hid (by rw [hW2]; exact (Row.zeros w 23).there)
  have HS : Hid (W2.heap.size = w.heap.size + 1) := Lib.hid (by rw [hW2]; simp)
  have HD : Hid (∀ w, Calls Try.prog 91 #[.agg #[.int .u8 0, .int .u8 0, .int .u8 0, .int .u8 0, .int .u8 0, .int .u8 0, .int .u8 0, .int .u8 0, .int .u8 0, .int .u8 0, .int .u8 0, .int .u8 0, .int .u8 0, .int .u8 0, .int .u8 0, .int .u8 0], .int .u8 42, .int .u64 (z : Int)] w fun e w' => e = .returned (.agg (kl (drv 0 0 42 z).1 (drv 0 0 42 z).2).toArray) ∧ Below w.heap.size w w') := Lib.hid (fun w => by
    rw [kl_zero]
    exact derive_any 0 0 42 z w (by decide) (by decide) (by decide) hz)
  obtain ⟨p, hp⟩ : ∃ p, p = (drv 0 0 42 z).1 := ⟨_, rfl⟩
  obtain ⟨q, hq⟩ : ∃ q, q = (drv 0 0 42 z).2 := ⟨_, rfl⟩
  rw [← hp, ← hq] at HD ⊢
  have HW := Lib.hid hW2
  clear hW2 hz hp hq
  go_enter Try.func60, Try.ntmps60
  go_wp2_with fail
  refine (HD.out _).mono ?_
  rintro e w3 ⟨rfl, hb3⟩
  have hb3' : Below W2.heap.size W2 w3 := by rw [HW.out]; exact hb3
  have HT3 := Lib.hid (there_below HT.out hb3' (by rw [HS.out]; omega))
  have HB3 := Lib.hid (HB.out.trans (hb3'.mono HB.out.size))
  obtain ⟨w5, hw5⟩ : ∃ w5, w5 = w3.setCells w.heap.size 0 (kl p q) := ⟨_, rfl⟩
  have HK5 : Hid (KeyAt w5 w.heap.size p q) := Lib.hid (by rw [hw5]; exact KeyAt.stored HT3.out p q)
  have HB5 : Hid (Below w.heap.size w w5) := Lib.hid (by rw [hw5]; exact below_setCells _ _ _ _ HB3.out (Nat.le_refl _))
  have HW5 := Lib.hid hw5
  clear hb3 hb3' hw5
  go_wp2_with ((refine wpList_store_key rfl _ _ rfl w.heap.size p q rfl rfl HT3.out ?_); rw [← HW5.out])
  exact bodyPost_key rfl w.heap.size p q rfl HK5.out rfl ⟨rfl, HB5.out⟩

set_option maxRecDepth 100000 in
set_option maxHeartbeats 400000 in
theorem refMaskKey_any (z : Nat) (w : World) (hz : z < M) :
    Calls Try.prog 73 #[.int .u64 (z : Int)] w fun e w' => e = .returned (.agg (kl (drv 0 0 42 z).1 (drv 0 0 42 z).2).toArray) ∧ Below w.heap.size w w' := by
  obtain ⟨W2, hW2⟩ : ∃ W2, W2 = w.alloc (.cells z16 23) := ⟨_, rfl⟩
  have HB : Hid (Below w.heap.size w W2) := Lib.hid (by rw [hW2]; exact (Below.refl _ _).alloc (Nat.le_refl _) _)
  have HT : Hid (W2.there w.heap.size 0 16) := Lib.hid (by rw [hW2]; exact (Row.zeros w 23).there)
  have HS : Hid (W2.heap.size = w.heap.size + 1) := Lib.hid (by rw [hW2]; simp)
  have HD : Hid (∀ w, Calls Try.prog 74 #[.agg #[.int .u8 0, .int .u8 0, .int .u8 0, .int .u8 0, .int .u8 0, .int .u8 0, .int .u8 0, .int .u8 0, .int .u8 0, .int .u8 0, .int .u8 0, .int .u8 0, .int .u8 0, .int .u8 0, .int .u8 0, .int .u8 0], .int .u8 42, .int .u64 (z : Int)] w fun e w' => e = .returned (.agg (kl (drv 0 0 42 z).1 (drv 0 0 42 z).2).toArray) ∧ Below w.heap.size w w') := Lib.hid (fun w => by
    rw [kl_zero]
    exact refDerive_any 0 0 42 z w (by decide) (by decide) (by decide) hz)
  obtain ⟨p, hp⟩ : ∃ p, p = (drv 0 0 42 z).1 := ⟨_, rfl⟩
  obtain ⟨q, hq⟩ : ∃ q, q = (drv 0 0 42 z).2 := ⟨_, rfl⟩
  rw [← hp, ← hq] at HD ⊢
  have HW := Lib.hid hW2
  clear hW2 hz hp hq
  go_enter Try.func73, Try.ntmps73
  go_wp2_with fail
  refine (HD.out _).mono ?_
  rintro e w3 ⟨rfl, hb3⟩
  have hb3' : Below W2.heap.size W2 w3 := by rw [HW.out]; exact hb3
  have HT3 := Lib.hid (there_below HT.out hb3' (by rw [HS.out]; omega))
  have HB3 := Lib.hid (HB.out.trans (hb3'.mono HB.out.size))
  obtain ⟨w5, hw5⟩ : ∃ w5, w5 = w3.setCells w.heap.size 0 (kl p q) := ⟨_, rfl⟩
  have HK5 : Hid (KeyAt w5 w.heap.size p q) := Lib.hid (by rw [hw5]; exact KeyAt.stored HT3.out p q)
  have HB5 : Hid (Below w.heap.size w w5) := Lib.hid (by rw [hw5]; exact below_setCells _ _ _ _ HB3.out (Nat.le_refl _))
  have HW5 := Lib.hid hw5
  clear hb3 hb3' hw5
  go_wp2_with ((refine wpList_store_key rfl _ _ rfl w.heap.size p q rfl rfl HT3.out ?_); rw [← HW5.out])
  exact bodyPost_key rfl w.heap.size p q rfl HK5.out rfl ⟨rfl, HB5.out⟩

end Go.Proofs.Ytcbanemkjebdcaa
