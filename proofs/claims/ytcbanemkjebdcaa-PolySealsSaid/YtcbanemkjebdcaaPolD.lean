/-
  Contracts of layer 4: the coefficients of the secret polynomial, the specification's.
-/
import Derived.Test.YtcbanemkjebdcaaPolA
import Derived.Test.YtcbanemkjebdcaaRfJ
namespace Go.Proofs.Ytcbanemkjebdcaa
open Go.RowKit SP
set_option linter.unusedVariables false
set_option linter.unusedSimpArgs false

/-- Coefficient i of the secret polynomial. -/
def cof (X Y Q i : Nat) : Nat := numb (drv X Y 40 0).1 (drv X Y 40 0).2 i Q
def cfl (X Y Q k : Nat) : List Value := (List.range k).map fun i => .int .u64 (cof X Y Q i : Int)
theorem cfl_snoc (X Y Q n : Nat) : cfl X Y Q (n + 1) = cfl X Y Q n ++ [.int .u64 (cof X Y Q n : Int)] := by unfold cfl; rw [List.range_succ, List.map_append]; rfl

set_option maxRecDepth 100000 in
set_option maxHeartbeats 2000000 in
theorem coefOf_any (X Y : Nat) (K D : Int) (E P Q G : Nat) (w : World) (hX : X < M) (hY : Y < M) (hE : E ≤ 8) :
    Calls Try.prog 40 #[.agg (kl X Y).toArray, .agg #[.int .u8 K, .int .i64 D, .int .i64 (E : Int), .int .u64 (P : Int), .int .u64 (Q : Int), .int .u64 (G : Int)]] w fun r w' => (∃ g c, r = .returned (.slice (some ⟨g, 0, none⟩) (E + 1) c) ∧ w.heap.size ≤ g ∧ E + 1 ≤ c ∧ c ≤ maxLen ∧ ∀ i, i < E + 1 → w'.cell? ⟨g, i, none⟩ = some (.int .u64 (cof X Y Q i : Int))) ∧ Below w.heap.size w w' := by
  obtain ⟨i0, hi, hz0, hz1, hz2⟩ := info_parts info30
  obtain ⟨N, hN⟩ : ∃ N, N = w.heap.size := ⟨_, rfl⟩
  obtain ⟨W2, hW2⟩ : ∃ W2, W2 = (w.alloc (.cells (kl X Y).toArray 23)).alloc (.cells #[.int .u8 K, .int .i64 D, .int .i64 (E : Int), .int .u64 (P : Int), .int .u64 (Q : Int), .int .u64 (G : Int)] 28) := ⟨_, rfl⟩
  have HB2 : Hid (Below N w W2) := Lib.hid (by rw [hW2, hN]; exact ((Below.refl _ _).alloc (Nat.le_refl _) _).alloc (by simp) _)
  have HS2 : Hid (W2.heap.size = N + 2) := Lib.hid (by rw [hW2, hN]; simp)
  have HK : Hid (KeyAt W2 N X Y) := Lib.hid (by rw [hW2, hN]; exact (KeyAt.new w X Y 23).alloc _)
  have HSc : Hid (SchAt W2 (N + 1) K D (E : Int) P Q G) := Lib.hid (by
    have h := SchAt.new (w.alloc (.cells (kl X Y).toArray 23)) K D (E : Int) P Q G
    rw [World.size_alloc] at h
    rw [hW2, hN]; exact h)
  have HD := Lib.hid (fun w => refDerive_any X Y 40 0 w hX hY (by decide) (by decide))
  have hok := drv_ok hX hY (show 40 < 256 by decide) (show 0 < M by decide)
  have HC : Hid (∀ i, cof X Y Q i = numb (drv X Y 40 0).1 (drv X Y 40 0).2 i Q) := Lib.hid (fun i => rfl)
  obtain ⟨p, hp⟩ : ∃ p, p = (drv X Y 40 0).1 := ⟨_, rfl⟩
  obtain ⟨q, hq⟩ : ∃ q, q = (drv X Y 40 0).2 := ⟨_, rfl⟩
  rw [← hp] at HD HC
  rw [← hq] at HD HC
  have HPQ : Hid (p < M ∧ q < M) := Lib.hid (by rw [hp, hq]; exact hok)
  have HNu := Lib.hid (fun (n : Nat) (w : World) (hn : n < M) => refNumber_any p q n Q w HPQ.out.1 HPQ.out.2 hn)
  have HW := Lib.hid hW2
  have HN := Lib.hid hN
  rw [← hN]
  clear hW2 hX hY hok hp hq hN
  go_enter Try.func40, Try.ntmps40
  go_wp2_with (refine wpList_load_key rfl _ rfl _ rfl X Y (by rw [← HW.out, ← HN.out]; exact HK.out) ?_)
  rw [← HW.out, ← HN.out]
  refine (HD.out _).mono ?_
  rintro e w3 ⟨rfl, hb3⟩
  have HT3 := Lib.hid (Row.zeros w3 23).there
  obtain ⟨kb, hkb⟩ : ∃ kb, kb = w3.heap.size := ⟨_, rfl⟩
  obtain ⟨W4, hW4⟩ : ∃ W4, W4 = (w3.alloc (.cells z16 23)).setCells kb 0 (kl p q) := ⟨_, rfl⟩
  have HB4 : Hid (Below kb w3 W4) := Lib.hid (by rw [hW4, hkb]; exact below_setCells _ _ _ _ ((Below.refl _ _).alloc (Nat.le_refl _) _) (Nat.le_refl _))
  have HL3 : Hid (N + 2 ≤ kb) := Lib.hid (by rw [hkb, ← HS2.out]; exact hb3.size)
  have HS4 : Hid (W4.heap.size = kb + 1) := Lib.hid (by rw [hW4, size_setCells, hkb]; simp)
  have HK4 : Hid (KeyAt W4 kb p q) := Lib.hid (by rw [hW4, hkb]; exact KeyAt.stored (Row.zeros w3 23).there p q)
  have HBa : Hid (Below N w W4) := Lib.hid ((HB2.out.trans (hb3.mono (by rw [HS2.out]; omega))).trans (HB4.out.mono (by have := HL3.out; omega)))
  have HSc4 : Hid (SchAt W4 (N + 1) K D (E : Int) P Q G) := Lib.hid ((HSc.out.below hb3 (by rw [HS2.out]; omega)).below HB4.out (by have := HL3.out; omega))
  have HKB := Lib.hid hkb
  have HW4 := Lib.hid hW4
  clear hW4 hb3
  go_wp2_with ((refine wpList_store_key rfl _ _ rfl w3.heap.size p q rfl rfl HT3.out ?_); rw [← HKB.out, ← HW4.out])
  clear hkb
  go_loopw [5, 7] (fun v i wr => ∃ k : Nat, k ≤ E + 1 ∧ i = .int .i64 (k : Int) ∧ Hid (wr.ownsRow (kb + 1) 24 1 v k (cfl X Y Q k) ∧ Below (kb + 1) W4 wr ∧ kb + 1 ≤ wr.heap.size)) (fun _ i _ => E + 1 - (intOf i).toNat)
  case atStart => exact ⟨0, by omega, rfl, Lib.hid ⟨World.ownsRow_nil _ _ _ _, Below.refl _ _, by rw [HS4.out]; omega⟩⟩
  case round =>
    obtain ⟨k, hk, rfl, HO⟩ := hrel
    have HKr : Hid (KeyAt wr w3.heap.size p q) := Lib.hid (by rw [← HKB.out]; exact HK4.out.below HO.out.2.1 (by omega))
    obtain ⟨_, _, c2, _, c4, _⟩ := HSc4.out.below HO.out.2.1 (by have := HL3.out; omega)
    by_cases hlt : k < E + 1
    · have HNk := Lib.hid (fun w => HNu.out k w (by unfold M; omega))
      have HSn : Hid (cfl X Y Q (k + 1) = cfl X Y Q k ++ [.int .u64 (numb p q k Q : Int)]) := Lib.hid (by rw [cfl_snoc, HC.out])
      obtain ⟨m, hm⟩ : ∃ m, m = numb p q k Q := ⟨_, rfl⟩
      rw [← hm] at HNk HSn
      clear hm
      go_wp2_with (refine wpList_load_key rfl _ rfl _ rfl p q HKr.out ?_)
      refine (HNk.out _).mono ?_
      rintro e w5 ⟨rfl, hb5⟩
      have O5 := own_below HO.out.1 hb5
      have B5 := Lib.hid (HO.out.2.1.trans (hb5.mono HO.out.2.2))
      have L5 := Nat.le_trans HO.out.2.2 hb5.size
      clear hb5 c2 c4
      go_wp2_with (first
        | (at_builtin; refine wpList_append_own _ rfl _ _ 29 rfl (kb + 1) 24 i0 _ 1 8 Try.underlying29 hi hz0 hz1 hz2 rfl (by omega) _ _ _ rfl (O5.alloc _) ⟨w5.heap.size, 0, none⟩ 1 1 [.int .u64 (m : Int)] rfl rfl (cell_one_new _ _ _) (by intro u hu; simp at hu; subst hu; rfl) (by unfold maxLen; omega) (by omega) (by simp; omega) ?_; intro v1 w6 hown6 hg6 _))
      go_roundw
      case rel => exact ⟨k + 1, by omega, by go_num, Lib.hid ⟨by rw [HSn.out]; exact hown6, (B5.out.alloc L5 _).grown hg6 (by simp; omega) (fun b hb => own_block O5 hb.symm), Nat.le_trans (by simp; omega) hg6.size⟩⟩
      case measure => simp [intOf]; omega
    · obtain rfl : k = E + 1 := by omega
      obtain ⟨g, c, hv, h1, h2, h3, h4⟩ := own_slice HO.out.1 (by omega)
      subst hv
      go_wp2
      go_ret
      exact ⟨⟨g, c, rfl, by have := HL3.out; omega, h2, h3, fun i hi => h4 i _ (by simp [cfl, List.getElem?_map, List.getElem?_range hi])⟩, HBa.out.trans (HO.out.2.1.mono (by have := HL3.out; omega))⟩
end Go.Proofs.Ytcbanemkjebdcaa
