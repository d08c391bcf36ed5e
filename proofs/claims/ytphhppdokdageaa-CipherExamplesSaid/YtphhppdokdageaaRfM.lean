/-
  The specification's Mac.
-/
import Derived.Test.YtphhppdokdageaaRfL
namespace Go.Proofs.Ytphhppdokdageaa
open Go.RowKit SP
set_option linter.unusedVariables false
set_option linter.unusedSimpArgs false

set_option maxRecDepth 100000 in
set_option maxHeartbeats 1000000 in
theorem refMac_no (X Y : Nat) (A : Option Addr) (n c : Nat) (w : World) (hn : 16384 < n) :
    Calls Try.prog 36 #[.agg (kl X Y).toArray, .slice A n c] w fun e w' => e = .returned (.tuple #[.agg (kl 0 0).toArray, .int .i64 4]) ∧ Below w.heap.size w w' := by
  obtain ⟨W2, hW2⟩ : ∃ W2, W2 = (w.alloc (.cells (kl X Y).toArray 23)).alloc (.cells z16 23) := ⟨_, rfl⟩
  have HB : Hid (Below w.heap.size w W2) := Lib.hid (by rw [hW2]; exact ((Below.refl _ _).alloc (Nat.le_refl _) _).alloc (by simp) _)
  have HT : Hid (W2.there (w.heap.size + 1) 0 16) := Lib.hid (by
    have h := (Row.zeros (w.alloc (.cells (kl X Y).toArray 23)) 23).there
    rw [World.size_alloc] at h
    rw [hW2]; exact h)
  have HW := Lib.hid hW2
  clear hW2
  go_enter Try.func36, Try.ntmps36
  go_wp2_with (refine wpList_store_key rfl _ _ rfl (w.heap.size + 1) 0 0 rfl (by rw [kl_zero]; rfl) (by rw [← HW.out]; exact HT.out) ?_)
  rw [← HW.out]
  exact bodyPost_key2 rfl (w.heap.size + 1) 0 0 rfl (KeyAt.stored HT.out 0 0) rfl ⟨rfl, below_setCells _ _ _ _ HB.out (by omega)⟩

set_option maxRecDepth 100000 in
set_option maxHeartbeats 1000000 in
theorem refMac_yes (X Y : Nat) (A : Option Addr) (n c : Nat) (g : Nat → Nat) (w : World) (hX : X < M) (hY : Y < M) (hb : Byt w A n c g) (hn : n ≤ 16384) :
    Calls Try.prog 36 #[.agg (kl X Y).toArray, .slice A n c] w fun e w' => e = .returned (.tuple #[.agg (kl (macV X Y g n).1 (macV X Y g n).2).toArray, .int .i64 0]) ∧ Below w.heap.size w w' := by
  obtain ⟨N, hN⟩ : ∃ N, N = w.heap.size := ⟨_, rfl⟩
  obtain ⟨W2, hW2⟩ : ∃ W2, W2 = (w.alloc (.cells (kl X Y).toArray 23)).alloc (.cells z16 23) := ⟨_, rfl⟩
  have HB : Hid (Below N w W2) := Lib.hid (by rw [hW2, hN]; exact ((Below.refl _ _).alloc (Nat.le_refl _) _).alloc (by simp) _)
  have HS2 : Hid (W2.heap.size = N + 2) := Lib.hid (by rw [hW2, hN]; simp)
  have HT : Hid (W2.there (N + 1) 0 16) := Lib.hid (by
    have h := (Row.zeros (w.alloc (.cells (kl X Y).toArray 23)) 23).there
    rw [World.size_alloc] at h
    rw [hW2, hN]; exact h)
  have HK : Hid (KeyAt W2 N X Y) := Lib.hid (by rw [hW2, hN]; exact (KeyAt.new w X Y 23).alloc _)
  have hby2 : Byt W2 A n c g := hb.keep (by rw [← hN]; exact HB.out)
  have HTg := Lib.hid (refTag_any X Y A n c g W2 hX hY hby2 (by omega))
  obtain ⟨P, hP⟩ : ∃ P, P = (macV X Y g n).1 := ⟨_, rfl⟩
  obtain ⟨Q, hQ⟩ : ∃ Q, Q = (macV X Y g n).2 := ⟨_, rfl⟩
  rw [← hP, ← hQ] at HTg ⊢
  have HW := Lib.hid hW2
  have HN := Lib.hid hN
  rw [← hN]
  clear hW2 hN hX hY hb hby2 hP hQ
  go_enter Try.func36, Try.ntmps36
  go_wp2_with (refine wpList_load_key rfl _ rfl _ rfl X Y (by rw [← HW.out, ← HN.out]; exact HK.out) ?_)
  rw [← HW.out, ← HN.out]
  refine HTg.out.mono ?_
  rintro e w5 ⟨rfl, hb5⟩
  have HT5 := Lib.hid (there_below HT.out hb5 (there_lt HT.out (by omega)))
  have HB5 := Lib.hid (HB.out.trans (hb5.mono (by have := HS2.out; omega)))
  clear hb5 HTg
  go_wp2_with (refine wpList_store_key rfl _ _ rfl (N + 1) P Q rfl rfl HT5.out ?_)
  refine bodyPost_key2 rfl (N + 1) P Q rfl (KeyAt.stored HT5.out P Q) rfl ⟨rfl, ?_⟩
  exact below_setCells _ _ _ _ HB5.out (by omega)
end Go.Proofs.Ytphhppdokdageaa
