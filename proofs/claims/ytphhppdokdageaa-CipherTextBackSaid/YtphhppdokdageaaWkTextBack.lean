/- The walk over CipherTextBack. -/
import Derived.Test.YtphhppdokdageaaTxtE
import Derived.Test.YtphhppdokdageaaLawB
namespace Go.Proofs.Ytphhppdokdageaa.cipherTextBack
open Go.RowKit SP
set_option linter.unusedVariables false
set_option linter.unusedSimpArgs false

set_option maxRecDepth 100000 in
set_option maxHeartbeats 2000000 in
theorem walk (X Y : Nat) (hX : X < M) (hY : Y < M) (s : ByteArray) (hs : s.size ≤ maxLen) (w : World) :
    Calls Try.prog 18 #[.agg (kl X Y).toArray, .string s] w fun e w' => e = .returned (.bool true) ∧ Below w.heap.size w w' := by
  have HAl := Lib.hid (fun w => alive_any w)
  have HT := Lib.hid (fun w => text_any X Y w hX hY)
  have HP := Lib.hid (fun w => parse_ok (txS X Y) w (pok_txS X Y))
  rw [txX_txS X Y hX, txY_txS X Y hY] at HP
  have hsz := txS_size X Y
  obtain ⟨T, hT⟩ : ∃ T, T = txS X Y := ⟨_, rfl⟩
  rw [← hT] at HT HP hsz
  have q1 : ∀ w, (Op.equalIn 10000 23 (.agg (kl X Y).toArray) (.agg (kl X Y).toArray)).run Try.prog w = .ok true w := fun w => by rw [run_equal_key hX hY hX hY w]; simp [same]
  have q0 : ∀ w, (Op.equalIn 10000 23 (.agg (kl 0 0).toArray) (.agg z16)).run Try.prog w = .ok true w := fun w => by rw [← kl_zero, run_equal_key (by decide) (by decide) (by decide) (by decide) w]; simp [same]
  have Q1 := Lib.hid q1
  have Q0 := Lib.hid q0
  obtain ⟨N, hN⟩ : ∃ N, N = w.heap.size := ⟨_, rfl⟩
  obtain ⟨W1, hW1⟩ : ∃ W1, W1 = w.alloc (.cells (kl X Y).toArray 23) := ⟨_, rfl⟩
  have HB : Hid (Below N w W1) := Lib.hid (by rw [hW1, hN]; exact (Below.refl _ _).alloc (Nat.le_refl _) _)
  have HL : Hid (N ≤ W1.heap.size) := Lib.hid (by rw [hW1, hN]; simp)
  have HK : Hid (KeyAt W1 N X Y) := Lib.hid (by rw [hW1, hN]; exact KeyAt.new w X Y 23)
  have HW := Lib.hid hW1
  have HN := Lib.hid hN
  have hs2 := hs
  unfold maxLen at hs2
  clear hW1 hN hX hY hT q1 q0
  go_enter Try.func18, Try.ntmps18
  go_wp2_with fail
  rw [← HW.out, ← HN.out]
  refine (HAl.out _).mono ?_
  rintro e w1 ⟨rfl, hb1⟩
  have K1 := Lib.hid (HK.out.keep hb1)
  have B1 := Lib.hid (HB.out.trans (hb1.mono HL.out))
  have L1 := Lib.hid (Nat.le_trans HL.out hb1.size)
  clear hb1
  go_wp2_with (refine wpList_load_key rfl _ rfl N rfl X Y K1.out ?_)
  refine (HT.out _).mono ?_
  rintro e w2 ⟨rfl, hb2⟩
  have K2 := Lib.hid (K1.out.keep hb2)
  have B2 := Lib.hid (B1.out.trans (hb2.mono L1.out))
  have L2 := Lib.hid (Nat.le_trans L1.out hb2.size)
  clear hb2
  go_wp2_with fail
  refine (HP.out _).mono ?_
  rintro e w3 ⟨rfl, hb3⟩
  have K3 := Lib.hid (K2.out.keep hb3)
  have B3 := Lib.hid (B2.out.trans (hb3.mono L2.out))
  have L3 := Lib.hid (Nat.le_trans L2.out hb3.size)
  clear hb3
  obtain ⟨W4, hW4⟩ : ∃ W4, W4 = (w3.alloc (.cells z16 23)).setCells w3.heap.size 0 (kl X Y) := ⟨_, rfl⟩
  have J4 : Hid (KeyAt W4 w3.heap.size X Y) := Lib.hid (by rw [hW4]; exact KeyAt.stored (Row.zeros w3 23).there X Y)
  have b4 : Below w3.heap.size w3 W4 := by rw [hW4]; exact below_setCells _ _ _ _ ((Below.refl _ _).alloc (Nat.le_refl _) _) (Nat.le_refl _)
  have K4 := Lib.hid (K3.out.keep b4)
  have B4 := Lib.hid (B3.out.trans (b4.mono L3.out))
  have L4 := Lib.hid (Nat.le_trans L3.out b4.size)
  have T3 := Lib.hid (Row.zeros w3 23).there
  have HW4 := Lib.hid hW4
  clear hW4 b4
  have q1 := Q1.out
  go_wp2_with (first
    | ((refine wpList_store_key rfl _ _ rfl w3.heap.size X Y rfl rfl T3.out ?_); rw [← HW4.out])
    | (refine wpList_load_key_w rfl _ rfl w3.heap.size rfl X Y J4.out ?_)
    | (refine wpList_load_key_w rfl _ rfl N rfl X Y K4.out ?_))
  by_cases hp : POk s
  · have HPs := Lib.hid (fun w => parse_ok s w hp)
    have hback := txS_back s hp
    have HTs := Lib.hid (fun w => text_any (txX s) (txY s) w (txX_lt s) (txY_lt s))
    rw [hback] at HTs
    obtain ⟨A, hA⟩ : ∃ A, A = txX s := ⟨_, rfl⟩
    obtain ⟨B, hB⟩ : ∃ B, B = txY s := ⟨_, rfl⟩
    rw [← hA, ← hB] at HPs HTs
    clear hback hA hB hp
    refine (HPs.out _).mono ?_
    rintro e w5 ⟨rfl, hb5⟩
    have B5 := Lib.hid (B4.out.trans (hb5.mono L4.out))
    have L5 := Lib.hid (Nat.le_trans L4.out hb5.size)
    clear hb5
    obtain ⟨W6, hW6⟩ : ∃ W6, W6 = (w5.alloc (.cells z16 23)).setCells w5.heap.size 0 (kl A B) := ⟨_, rfl⟩
    have J6 : Hid (KeyAt W6 w5.heap.size A B) := Lib.hid (by rw [hW6]; exact KeyAt.stored (Row.zeros w5 23).there A B)
    have b6 : Below w5.heap.size w5 W6 := by rw [hW6]; exact below_setCells _ _ _ _ ((Below.refl _ _).alloc (Nat.le_refl _) _) (Nat.le_refl _)
    have B6 := Lib.hid (B5.out.trans (b6.mono L5.out))
    have L6 := Lib.hid (Nat.le_trans L5.out b6.size)
    have T5 := Lib.hid (Row.zeros w5 23).there
    have HW6 := Lib.hid hW6
    clear hW6 b6
    go_wp2_with (first
      | ((refine wpList_store_key rfl _ _ rfl w5.heap.size A B rfl rfl T5.out ?_); rw [← HW6.out])
      | (refine wpList_load_key_w rfl _ rfl w5.heap.size rfl A B J6.out ?_))
    refine (HTs.out _).mono ?_
    rintro e w7 ⟨rfl, hb7⟩
    have B7 := Lib.hid (B6.out.trans (hb7.mono L6.out))
    clear hb7
    go_wp2_with fail
    go_ret
    exact ⟨rfl, by rw [← HN.out]; exact B7.out⟩
  · have HPs := Lib.hid (fun w => parse_bad s w hs hp)
    clear hp
    refine (HPs.out _).mono ?_
    rintro e w5 ⟨rfl, hb5⟩
    have B5 := Lib.hid (B4.out.trans (hb5.mono L4.out))
    have L5 := Lib.hid (Nat.le_trans L4.out hb5.size)
    clear hb5
    obtain ⟨W6, hW6⟩ : ∃ W6, W6 = (w5.alloc (.cells z16 23)).setCells w5.heap.size 0 (kl 0 0) := ⟨_, rfl⟩
    have J6 : Hid (KeyAt W6 w5.heap.size 0 0) := Lib.hid (by rw [hW6]; exact KeyAt.stored (Row.zeros w5 23).there 0 0)
    have b6 : Below w5.heap.size w5 W6 := by rw [hW6]; exact below_setCells _ _ _ _ ((Below.refl _ _).alloc (Nat.le_refl _) _) (Nat.le_refl _)
    have B6 := Lib.hid (B5.out.trans (b6.mono L5.out))
    have T5 := Lib.hid (Row.zeros w5 23).there
    have HW6 := Lib.hid hW6
    clear hW6 b6
    have q0 := Q0.out
    go_wp2_with (first
      | ((refine wpList_store_key rfl _ _ rfl w5.heap.size 0 0 rfl rfl T5.out ?_); rw [← HW6.out])
      | (refine wpList_load_key_w rfl _ rfl w5.heap.size rfl 0 0 J6.out ?_))
    go_ret
    exact ⟨rfl, by rw [← HN.out]; exact B6.out⟩
end Go.Proofs.Ytphhppdokdageaa.cipherTextBack
