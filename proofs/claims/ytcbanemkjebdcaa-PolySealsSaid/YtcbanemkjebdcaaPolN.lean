/-
  Contracts of layer 4: powers modulo P, and the base of a header.
-/
import Derived.Test.YtcbanemkjebdcaaPolM
namespace Go.Proofs.Ytcbanemkjebdcaa
open Go.RowKit SP
set_option linter.unusedVariables false
set_option linter.unusedSimpArgs false

set_option maxRecDepth 100000 in
set_option maxHeartbeats 400000 in
theorem powerM_any (m b n : Nat) (w : World) (hm1 : 1 ≤ m) (hm2 : m ≤ 1048575) (hn : n < M) :
    Calls Try.prog 58 #[.int .u64 (m : Int), .int .u64 (b : Int), .int .u64 (n : Int)] w fun e w' => e = .returned (.int .u64 ((b ^ n % m : Nat) : Int)) ∧ w = w' := by
  have HP : Hid (∀ w, Calls Try.prog 108 #[.int .u64 (b : Int), .int .u64 (n : Int), .int .u64 (m : Int)] w fun e w' => e = .returned (.tuple #[.int .u64 ((b ^ n % m : Nat) : Int), .int .i64 0]) ∧ w = w') := Lib.hid (fun w => by
    have h := powMod_any b n m w (by omega) (by omega) (by unfold M at hn; omega)
    rw [show pmv b n m = ((b ^ n % m : Nat) : Int) from (if_pos (by omega)).trans (pwr_nat b n m), show pmc (m : Int) = 0 from if_pos (by omega)] at h
    exact h)
  obtain ⟨r, hr⟩ : ∃ r, r = b ^ n % m := ⟨_, rfl⟩
  rw [← hr] at HP ⊢
  clear hr
  go_enter Try.func58, Try.ntmps58
  go_wp2_with (go_at_call 108; refine (HP.out _).mono ?_; rintro e w' ⟨rfl, rfl⟩)
  go_ret
  exact ⟨rfl, rfl⟩

/-- The base of the header with a nonce. -/
def hbase (X Y P Q G n : Nat) : Nat := G ^ (1 + numb (drv X Y 41 n).1 (drv X Y 41 n).2 0 (Q - 1)) % P

set_option maxRecDepth 100000 in
set_option maxHeartbeats 400000 in
theorem baseOf_any (X Y : Nat) (K D E : Int) (P Q G n : Nat) (w : World) (hX : X < M) (hY : Y < M) (hn : n < M) (hp1 : 1 ≤ P) (hp2 : P ≤ 1048575) (hq1 : 2 ≤ Q) (hq2 : Q ≤ 1048575) :
    Calls Try.prog 55 #[.agg (kl X Y).toArray, .agg #[.int .u8 K, .int .i64 D, .int .i64 E, .int .u64 (P : Int), .int .u64 (Q : Int), .int .u64 (G : Int)], .int .u64 (n : Int)] w fun e w' => e = .returned (.int .u64 (hbase X Y P Q G n : Int)) ∧ Below w.heap.size w w' := by
  obtain ⟨N, hN⟩ : ∃ N, N = w.heap.size := ⟨_, rfl⟩
  obtain ⟨W2, hW2⟩ : ∃ W2, W2 = (w.alloc (.cells (kl X Y).toArray 23)).alloc (.cells #[.int .u8 K, .int .i64 D, .int .i64 E, .int .u64 (P : Int), .int .u64 (Q : Int), .int .u64 (G : Int)] 28) := ⟨_, rfl⟩
  have HB2 : Hid (Below N w W2) := Lib.hid (by rw [hW2, hN]; exact ((Below.refl _ _).alloc (Nat.le_refl _) _).alloc (by simp) _)
  have HS2 : Hid (W2.heap.size = N + 2) := Lib.hid (by rw [hW2, hN]; simp)
  have HEnv : Hid (∀ w1, Below (N + 2) W2 w1 → KeyAt w1 N X Y ∧ SchAt w1 (N + 1) K D E P Q G ∧ Below N w w1) := Lib.hid (fun w1 h => by
    have k : KeyAt W2 N X Y := by rw [hW2, hN]; exact (KeyAt.new w X Y 23).alloc _
    have s : SchAt W2 (N + 1) K D E P Q G := by
      have h := SchAt.new (w.alloc (.cells (kl X Y).toArray 23)) K D E P Q G
      rw [World.size_alloc] at h
      rw [hW2, hN]; exact h
    exact ⟨k.below h (by omega), s.below h (by omega), HB2.out.trans (h.mono (by omega))⟩)
  have HK2 : Hid (KeyAt W2 N X Y) := Lib.hid (HEnv.out W2 (Below.refl _ _)).1
  have hok := drv_ok hX hY (show 41 < 256 by decide) hn
  have HD := Lib.hid (fun w => derive_any X Y 41 n w hX hY (by decide) hn)
  have HR : Hid (hbase X Y P Q G n = G ^ (1 + numb (drv X Y 41 n).1 (drv X Y 41 n).2 0 (Q - 1)) % P) := Lib.hid rfl
  obtain ⟨p, hp⟩ : ∃ p, p = (drv X Y 41 n).1 := ⟨_, rfl⟩
  obtain ⟨q, hq⟩ : ∃ q, q = (drv X Y 41 n).2 := ⟨_, rfl⟩
  rw [← hp, ← hq] at HD HR
  have HNu := Lib.hid (fun w => number_any p q 0 (Q - 1) w (by rw [hp]; exact hok.1) (by rw [hq]; exact hok.2) (by decide))
  have hlt : numb p q 0 (Q - 1) < Q - 1 := by unfold numb; rw [if_neg (by omega)]; exact Nat.mod_lt _ (by omega)
  obtain ⟨m, hm⟩ : ∃ m, m = numb p q 0 (Q - 1) := ⟨_, rfl⟩
  rw [← hm] at HNu HR hlt
  have HPw : Hid (∀ w, Calls Try.prog 58 #[.int .u64 (P : Int), .int .u64 (G : Int), .int .u64 (1 + (m : Int))] w fun e w' => e = .returned (.int .u64 (hbase X Y P Q G n : Int)) ∧ w = w') := Lib.hid (fun w => by
    have h := powerM_any P G (1 + m) w hp1 hp2 (by unfold M; omega)
    rw [← HR.out, show ((1 + m : Nat) : Int) = 1 + (m : Int) by omega] at h; exact h)
  obtain ⟨r, hr⟩ : ∃ r, r = hbase X Y P Q G n := ⟨_, rfl⟩
  rw [← hr] at HPw ⊢
  have hq1' : (2 : Int) ≤ (Q : Int) := by omega
  have hq2' : (Q : Int) ≤ 1048575 := by omega
  have hQ1 : ((Q - 1 : Nat) : Int) = (Q : Int) - 1 := by omega
  rw [hQ1] at HNu
  have hm2 : (m : Int) ≤ 1048575 := by omega
  have HW := Lib.hid hW2
  have HN := Lib.hid hN
  rw [← hN]
  clear hW2 hX hY hn hok hp hq hN hm hr hQ1 hlt hp1 hp2 hq1 hq2 HR
  go_enter Try.func55, Try.ntmps55
  go_wp2_with (refine wpList_load_key rfl _ rfl _ rfl X Y (by rw [← HW.out, ← HN.out]; exact HK2.out) ?_)
  rw [← HW.out, ← HN.out]
  refine (HD.out _).mono ?_
  rintro e w3 ⟨rfl, hb3⟩
  have HT3 := Lib.hid (Row.zeros w3 23).there
  obtain ⟨kb, hkb⟩ : ∃ kb, kb = w3.heap.size := ⟨_, rfl⟩
  obtain ⟨W4, hW4⟩ : ∃ W4, W4 = (w3.alloc (.cells z16 23)).setCells kb 0 (kl p q) := ⟨_, rfl⟩
  have hkl : N + 2 ≤ kb := by rw [hkb, ← HS2.out]; exact hb3.size
  have hB4 : Below kb w3 W4 := by rw [hW4, hkb]; exact below_setCells _ _ _ _ ((Below.refl _ _).alloc (Nat.le_refl _) _) (Nat.le_refl _)
  have HK4 : Hid (KeyAt W4 kb p q) := Lib.hid (by rw [hW4, hkb]; exact KeyAt.stored (Row.zeros w3 23).there p q)
  have HB4 : Hid (Below (N + 2) W2 W4) := Lib.hid ((hb3.mono (by rw [HS2.out]; omega)).trans (hB4.mono (by omega)))
  have HKB := Lib.hid hkb
  have HW4 := Lib.hid hW4
  obtain ⟨_, ⟨c0, c1, c2, c3, c4, c5⟩, _⟩ := HEnv.out W4 HB4.out
  have HL4 : Hid (N + 2 ≤ W4.heap.size) := Lib.hid (by rw [← HS2.out]; exact HB4.out.size)
  clear hW4 hb3 hB4 hkl hkb
  go_wp2_with (first | ((refine wpList_store_key rfl _ _ rfl w3.heap.size p q rfl rfl HT3.out ?_); rw [← HKB.out, ← HW4.out]) | refine wpList_load_key rfl _ rfl _ rfl p q HK4.out ?_)
  refine (HNu.out _).mono ?_
  rintro e w5 ⟨rfl, hb5⟩
  have HB5 := Lib.hid (HB4.out.trans (hb5.mono HL4.out))
  clear hb5 c0 c1 c2 c3 c4 c5
  obtain ⟨_, ⟨c0, c1, c2, c3, c4, c5⟩, _⟩ := HEnv.out w5 HB5.out
  go_wp2_with fail
  refine (HPw.out _).mono ?_
  rintro e w' ⟨rfl, rfl⟩
  go_wp2_with fail
  go_ret
  exact ⟨rfl, (HEnv.out _ HB5.out).2.2⟩
end Go.Proofs.Ytcbanemkjebdcaa
