/- The walk over CipherBelow. -/
import Derived.Test.YtphhppdokdageaaAlv
import Derived.Test.YtphhppdokdageaaLawB
namespace Go.Proofs.Ytphhppdokdageaa.cipherBelow
open Go.RowKit SP
set_option linter.unusedVariables false
set_option linter.unusedSimpArgs false

set_option maxRecDepth 100000 in
set_option maxHeartbeats 2000000 in
theorem walkN (X Y n most : Nat) (hX : X < M) (hY : Y < M) (hn : n < M) (hm : most < M) (w : World) :
    Calls Try.prog 12 #[.agg (kl X Y).toArray, .int .u64 (n : Int), .int .u64 (most : Int)] w fun e w' => e = .returned (.bool true) ∧ Below w.heap.size w w' := by
  have HAl := Lib.hid (fun w => alive_any w)
  have HNu := Lib.hid (fun w => number_any X Y n most w hX hY hn)
  have HD : Hid (∀ w, Calls Try.prog 31 #[.agg (kl X Y).toArray, .int .u8 3, .int .u64 (n : Int)] w fun e w' => e = .returned (.agg (kl (drv X Y 3 n).1 (drv X Y 3 n).2).toArray) ∧ Below w.heap.size w w') := Lib.hid (fun w => derive_any X Y 3 n w hX hY (by decide) hn)
  have hok := drv_ok hX hY (show 3 < 256 by decide) hn
  obtain ⟨P, hP⟩ : ∃ P, P = (drv X Y 3 n).1 := ⟨_, rfl⟩
  obtain ⟨Q, hQ⟩ : ∃ Q, Q = (drv X Y 3 n).2 := ⟨_, rfl⟩
  obtain ⟨x, hx⟩ : ∃ x, x = numb X Y n most := ⟨_, rfl⟩
  rw [← hP, ← hQ] at HD
  rw [← hx] at HNu
  have HPlt : Hid (P < M) := Lib.hid (by rw [hP]; exact hok.1)
  obtain ⟨N, hN⟩ : ∃ N, N = w.heap.size := ⟨_, rfl⟩
  obtain ⟨W1, hW1⟩ : ∃ W1, W1 = w.alloc (.cells (kl X Y).toArray 23) := ⟨_, rfl⟩
  have HB : Hid (Below N w W1) := Lib.hid (by rw [hW1, hN]; exact (Below.refl _ _).alloc (Nat.le_refl _) _)
  have HL : Hid (N ≤ W1.heap.size) := Lib.hid (by rw [hW1, hN]; simp)
  have HK : Hid (KeyAt W1 N X Y) := Lib.hid (by rw [hW1, hN]; exact KeyAt.new w X Y 23)
  have HW := Lib.hid hW1
  have HN := Lib.hid hN
  have HX := Lib.hid (show x = if most = 0 then 0 else P % most by rw [hx, hP]; rfl)
  clear hW1 hN hX hY hn hok hP hQ hx
  go_enter Try.func12, Try.ntmps12
  go_wp2_with fail
  rw [← HW.out, ← HN.out]
  refine (HAl.out _).mono ?_
  rintro e w1 ⟨rfl, hb1⟩
  have K1 := Lib.hid (HK.out.keep hb1)
  have B1 := Lib.hid (HB.out.trans (hb1.mono HL.out))
  have L1 := Lib.hid (Nat.le_trans HL.out hb1.size)
  clear hb1
  go_wp2_with (refine wpList_load_key rfl _ rfl N rfl X Y K1.out ?_)
  refine (HNu.out _).mono ?_
  rintro e w2 ⟨rfl, hb2⟩
  have K2 := Lib.hid (K1.out.keep hb2)
  have B2 := Lib.hid (B1.out.trans (hb2.mono L1.out))
  have L2 := Lib.hid (Nat.le_trans L1.out hb2.size)
  clear hb2
  by_cases h0 : most = 0
  · subst h0
    have hx0 : x = 0 := by rw [HX.out]; rfl
    subst hx0
    go_wp2_with fail
    go_ret
    exact ⟨rfl, by rw [← HN.out]; exact B2.out⟩
  · have hm1 : ((most : Int) == 0) = false := by rw [beq_eq_false_iff_ne]; omega
    have hm2 : (0 : Int) < (most : Int) := by omega
    have hxe : x = P % most := by rw [HX.out, if_neg h0]
    have hxl : x < most := by rw [hxe]; exact Nat.mod_lt _ (by omega)
    have HXE := Lib.hid hxe
    clear hxe h0
    go_wp2_with (refine wpList_load_key rfl _ rfl N rfl X Y K2.out ?_)
    refine (HD.out _).mono ?_
    rintro e w3 ⟨rfl, hb3⟩
    have B3 := Lib.hid (B2.out.trans (hb3.mono L2.out))
    have L3 := Lib.hid (Nat.le_trans L2.out hb3.size)
    clear hb3
    obtain ⟨W4, hW4⟩ : ∃ W4, W4 = (w3.alloc (.cells z16 23)).setCells w3.heap.size 0 (kl P Q) := ⟨_, rfl⟩
    have K4 : Hid (KeyAt W4 w3.heap.size P Q) := Lib.hid (by rw [hW4]; exact KeyAt.stored (Row.zeros w3 23).there P Q)
    have B4 : Hid (Below N w W4) := Lib.hid (by rw [hW4]; exact below_setCells _ _ _ _ (B3.out.alloc L3.out _) L3.out)
    have T3 := Lib.hid (Row.zeros w3 23).there
    have HW4 := Lib.hid hW4
    clear hW4
    go_wp2_with ((refine wpList_store_key rfl _ _ rfl w3.heap.size P Q rfl rfl T3.out ?_); rw [← HW4.out])
    go_loop [10, 11] (fun v i => ∃ k a : Nat, k ≤ 8 ∧ i = .int .i64 (k : Int) ∧ v = .int .u64 (a : Int) ∧ Hid (a = P / 256 ^ (8 - k))) (fun _ i => 8 - (intOf i).toNat)
    case atStart => exact ⟨0, 0, by omega, rfl, rfl, Lib.hid (word_lt HPlt.out).symm⟩
    case round =>
      obtain ⟨k, a, hk, rfl, rfl, HI⟩ := hrel
      by_cases hlt : k < 8
      · have c1 := K4.out.cell k (by omega)
        rw [kby_hi _ _ _ hlt] at c1
        obtain ⟨p, hp⟩ : ∃ p, p = P / 256 ^ (7 - k) % 256 := ⟨_, rfl⟩
        rw [← hp] at c1
        have lp : p < 256 := by rw [hp]; exact Nat.mod_lt _ (by decide)
        have j1 := join_int a p (P / 256 ^ (8 - (k + 1))) (by rw [HI.out]; exact word_small P k HPlt.out hlt) lp (by rw [HI.out, hp]; exact word_step P k hlt)
        obtain ⟨p1, HP1⟩ : ∃ p1, Hid (p1 = P / 256 ^ (8 - (k + 1))) := ⟨_, Lib.hid rfl⟩
        rw [← HP1.out] at j1
        clear hp HI
        go_wp2
        go_round
        case rel => exact ⟨k + 1, p1, by omega, by go_num, rfl, HP1⟩
        case measure => simp [intOf]; omega
      · obtain rfl : k = 8 := by omega
        have ha : a = P := by have := HI.out; simpa using this
        clear HI
        subst ha
        have hq1 : ((x : Int) == (a : Int) % (most : Int)) = true := by rw [HXE.out]; simp
        go_wp2
        go_ret
        exact ⟨rfl, by rw [← HN.out]; exact B4.out⟩

theorem walk (X Y : Nat) (hX : X < M) (hY : Y < M) (a1 : Int) (w1 : (Lit.int .u64 a1).wf = true) (a2 : Int) (w2 : (Lit.int .u64 a2).wf = true) (w : World) :
    Calls Try.prog 12 #[.agg (kl X Y).toArray, .int .u64 a1, .int .u64 a2] w fun e w' => e = .returned (.bool true) ∧ Below w.heap.size w w' := by
  have b1 := bounds_u64 w1
  have b2 := bounds_u64 w2
  obtain ⟨n, rfl⟩ := Int.eq_ofNat_of_zero_le b1.1
  obtain ⟨m, rfl⟩ := Int.eq_ofNat_of_zero_le b2.1
  exact walkN X Y n m hX hY (by unfold M; omega) (by unfold M; omega) w
end Go.Proofs.Ytphhppdokdageaa.cipherBelow
