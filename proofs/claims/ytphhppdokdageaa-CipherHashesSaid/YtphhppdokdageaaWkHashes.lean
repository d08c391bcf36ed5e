/- The walk over CipherHashes. -/
import Derived.Test.YtphhppdokdageaaRfU
import Derived.Test.YtphhppdokdageaaLawB
namespace Go.Proofs.Ytphhppdokdageaa.cipherHashes
open Go.RowKit SP
set_option linter.unusedVariables false
set_option linter.unusedSimpArgs false

set_option maxRecDepth 100000 in
set_option maxHeartbeats 1000000 in
theorem walk_yes (A : Option Addr) (n c : Nat) (g : Nat → Nat) (w : World) (hb : Byt w A n c g) (hn : n ≤ 16384) :
    Calls Try.prog 7 #[.slice A n c] w fun e w' => e = .returned (.bool true) ∧ Below w.heap.size w w' := by
  have oP := hshV_ok hb.lt n
  have C1 := Lib.hid (hash_yes A n c g w hb hn)
  have C2 := Lib.hid (fun (w : World) (h : Byt w A n c g) => refHash_yes A n c g w h hn)
  have HY := Lib.hid hb
  obtain ⟨P, hP⟩ : ∃ P, P = (hshV g n).1 := ⟨_, rfl⟩
  obtain ⟨Q, hQ⟩ : ∃ Q, Q = (hshV g n).2 := ⟨_, rfl⟩
  unfold Ok at oP
  rw [← hP, ← hQ] at C1 C2 oP
  have HQ : Hid (∀ w, (Op.equalIn 10000 23 (.agg (kl P Q).toArray) (.agg (kl P Q).toArray)).run Try.prog w = .ok true w) := Lib.hid (fun w => by rw [run_equal_key oP.1 oP.2 oP.1 oP.2 w]; simp [same])
  clear hP hQ oP hb
  go_enter Try.func7, Try.ntmps7
  go_wp2_with fail
  refine C1.out.mono ?_
  rintro e w7 ⟨rfl, hb7⟩
  obtain ⟨m7, hm7⟩ : ∃ m7, m7 = w7.heap.size := ⟨_, rfl⟩
  obtain ⟨W8, hW8⟩ : ∃ W8, W8 = (w7.alloc (.cells z16 23)).setCells m7 0 (kl P Q) := ⟨_, rfl⟩
  have T7 : Hid ((w7.alloc (.cells z16 23)).there m7 0 16) := Lib.hid (by rw [hm7]; exact (Row.zeros w7 23).there)
  have B78 : Below w7.heap.size w7 W8 := by rw [hW8, hm7]; exact below_setCells _ _ _ _ ((Below.refl _ _).alloc (Nat.le_refl _) _) (Nat.le_refl _)
  have B8 := Lib.hid (hb7.trans (B78.mono hb7.size))
  have K8 : Hid (KeyAt W8 m7 P Q) := Lib.hid (by rw [hW8]; exact KeyAt.stored T7.out P Q)
  have HW8 := Lib.hid hW8
  have HM7 := Lib.hid hm7
  clear hW8 hb7 B78 hm7
  go_wp2_with (refine wpList_store_key rfl _ _ rfl w7.heap.size P Q rfl rfl (by rw [← HM7.out]; exact T7.out) ?_; rw [← HM7.out, ← HW8.out])
  refine (C2.out W8 (HY.out.keep B8.out)).mono ?_
  rintro e w9 ⟨rfl, hb9⟩
  obtain ⟨m9, hm9⟩ : ∃ m9, m9 = w9.heap.size := ⟨_, rfl⟩
  obtain ⟨W10, hW10⟩ : ∃ W10, W10 = (w9.alloc (.cells z16 23)).setCells m9 0 (kl P Q) := ⟨_, rfl⟩
  have T9 : Hid ((w9.alloc (.cells z16 23)).there m9 0 16) := Lib.hid (by rw [hm9]; exact (Row.zeros w9 23).there)
  have B910 : Below w9.heap.size w9 W10 := by rw [hW10, hm9]; exact below_setCells _ _ _ _ ((Below.refl _ _).alloc (Nat.le_refl _) _) (Nat.le_refl _)
  have B810 := hb9.trans (B910.mono hb9.size)
  have K10 : Hid (KeyAt W10 m9 P Q) := Lib.hid (by rw [hW10]; exact KeyAt.stored T9.out P Q)
  have L10 : Hid (KeyAt W10 m7 P Q) := Lib.hid (K8.out.keep B810)
  have B10 := Lib.hid (B8.out.trans (B810.mono B8.out.size))
  have HW10 := Lib.hid hW10
  have HM9 := Lib.hid hm9
  clear hW10 hb9 B910 B810 hm9
  have q1 := HQ.out
  go_wp2_with (first
    | ((refine wpList_store_key rfl _ _ rfl w9.heap.size P Q rfl rfl (by rw [← HM9.out]; exact T9.out) ?_); rw [← HM9.out, ← HW10.out])
    | (refine wpList_load_key rfl _ rfl m7 rfl P Q L10.out ?_)
    | (refine wpList_load_key rfl _ rfl m9 rfl P Q K10.out ?_))
  go_ret
  exact ⟨rfl, B10.out⟩

set_option maxRecDepth 100000 in
set_option maxHeartbeats 1000000 in
theorem walk_no (A : Option Addr) (n c : Nat) (w : World) (hn : 16384 < n) :
    Calls Try.prog 7 #[.slice A n c] w fun e w' => e = .returned (.bool true) ∧ Below w.heap.size w w' := by
  have C1 := Lib.hid (hash_no A n c w hn)
  have C2 := Lib.hid (fun (w : World) => refHash_no A n c w hn)
  have HQ : Hid (∀ w, (Op.equalIn 10000 23 (.agg (kl 0 0).toArray) (.agg (kl 0 0).toArray)).run Try.prog w = .ok true w) := Lib.hid (fun w => by rw [run_equal_key (by decide) (by decide) (by decide) (by decide) w]; simp [same])
  go_enter Try.func7, Try.ntmps7
  go_wp2_with fail
  refine C1.out.mono ?_
  rintro e w7 ⟨rfl, hb7⟩
  obtain ⟨m7, hm7⟩ : ∃ m7, m7 = w7.heap.size := ⟨_, rfl⟩
  obtain ⟨W8, hW8⟩ : ∃ W8, W8 = (w7.alloc (.cells z16 23)).setCells m7 0 (kl 0 0) := ⟨_, rfl⟩
  have T7 : Hid ((w7.alloc (.cells z16 23)).there m7 0 16) := Lib.hid (by rw [hm7]; exact (Row.zeros w7 23).there)
  have B78 : Below w7.heap.size w7 W8 := by rw [hW8, hm7]; exact below_setCells _ _ _ _ ((Below.refl _ _).alloc (Nat.le_refl _) _) (Nat.le_refl _)
  have B8 := Lib.hid (hb7.trans (B78.mono hb7.size))
  have K8 : Hid (KeyAt W8 m7 0 0) := Lib.hid (by rw [hW8]; exact KeyAt.stored T7.out 0 0)
  have HW8 := Lib.hid hW8
  have HM7 := Lib.hid hm7
  clear hW8 hb7 B78 hm7
  go_wp2_with (refine wpList_store_key rfl _ _ rfl w7.heap.size 0 0 rfl rfl (by rw [← HM7.out]; exact T7.out) ?_; rw [← HM7.out, ← HW8.out])
  refine (C2.out W8).mono ?_
  rintro e w9 ⟨rfl, hb9⟩
  obtain ⟨m9, hm9⟩ : ∃ m9, m9 = w9.heap.size := ⟨_, rfl⟩
  obtain ⟨W10, hW10⟩ : ∃ W10, W10 = (w9.alloc (.cells z16 23)).setCells m9 0 (kl 0 0) := ⟨_, rfl⟩
  have T9 : Hid ((w9.alloc (.cells z16 23)).there m9 0 16) := Lib.hid (by rw [hm9]; exact (Row.zeros w9 23).there)
  have B910 : Below w9.heap.size w9 W10 := by rw [hW10, hm9]; exact below_setCells _ _ _ _ ((Below.refl _ _).alloc (Nat.le_refl _) _) (Nat.le_refl _)
  have B810 := hb9.trans (B910.mono hb9.size)
  have K10 : Hid (KeyAt W10 m9 0 0) := Lib.hid (by rw [hW10]; exact KeyAt.stored T9.out 0 0)
  have L10 : Hid (KeyAt W10 m7 0 0) := Lib.hid (K8.out.keep B810)
  have B10 := Lib.hid (B8.out.trans (B810.mono B8.out.size))
  have HW10 := Lib.hid hW10
  have HM9 := Lib.hid hm9
  clear hW10 hb9 B910 B810 hm9
  have q1 := HQ.out
  go_wp2_with (first
    | ((refine wpList_store_key rfl _ _ rfl w9.heap.size 0 0 rfl rfl (by rw [← HM9.out]; exact T9.out) ?_); rw [← HM9.out, ← HW10.out])
    | (refine wpList_load_key rfl _ rfl m7 rfl 0 0 L10.out ?_)
    | (refine wpList_load_key rfl _ rfl m9 rfl 0 0 K10.out ?_))
  go_ret
  exact ⟨rfl, B10.out⟩

theorem walk (A : Option Addr) (n c : Nat) (g : Nat → Nat) (w0 : World) (hb : Byt w0 A n c g) :
    Calls Try.prog 7 #[.slice A n c] w0 fun e w' => e = .returned (.bool true) ∧ Below w0.heap.size w0 w' := by
  by_cases h1 : 16384 < n
  · exact walk_no A n c w0 h1
  · exact walk_yes A n c g w0 hb (by omega)
end Go.Proofs.Ytphhppdokdageaa.cipherHashes
