/-
  The specification's decryption.
-/
import Derived.Test.YtcbanemkjebdcaaRfG
namespace Go.Proofs.Ytcbanemkjebdcaa
open Go.RowKit SP
set_option linter.unusedVariables false
set_option linter.unusedSimpArgs false

theorem dst_step (X Y A B j : Nat) (h : j < 32) : dst X Y A B (32 - j) = un (dst X Y A B (31 - j)) (rk X Y j) := by
  rw [show 32 - j = (31 - j) + 1 by omega, dst, show 31 - (31 - j) = j by omega]

set_option maxRecDepth 100000 in
set_option maxHeartbeats 2000000 in
theorem refDecrypt_any (X Y A B : Nat) (w : World) (hX : X < M) (hY : Y < M) (hA : A < M) (hB : B < M) :
    Calls Try.prog 72 #[.agg (kl X Y).toArray, .agg (kl A B).toArray] w fun e w' => e = .returned (.agg (kl (dec X Y A B).1 (dec X Y A B).2).toArray) ∧ Below w.heap.size w w' := by
  obtain ⟨N, hN⟩ : ∃ N, N = w.heap.size := ⟨_, rfl⟩
  obtain ⟨W3, hW3⟩ : ∃ W3, W3 = ((w.alloc (.cells (kl X Y).toArray 23)).alloc (.cells (kl A B).toArray 23)).alloc (.cells z16 23) := ⟨_, rfl⟩
  have HB3 : Hid (Below N w W3) := Lib.hid (by rw [hW3, hN]; exact (((Below.refl _ _).alloc (Nat.le_refl _) _).alloc (by simp) _).alloc (by simp; omega) _)
  have HS3 : Hid (W3.heap.size = N + 3) := Lib.hid (by rw [hW3, hN]; simp)
  have K0 : Hid (KeyAt W3 N X Y) := Lib.hid (by rw [hW3, hN]; exact ((KeyAt.new w X Y 23).alloc _).alloc _)
  have K1 : Hid (KeyAt W3 (N + 1) A B) := Lib.hid (by
    have h := (KeyAt.new (w.alloc (.cells (kl X Y).toArray 23)) A B 23).alloc (.cells z16 23)
    rw [World.size_alloc] at h
    rw [hW3, hN]; exact h)
  have HT : Hid (W3.there (N + 1 + 1) 0 16) := Lib.hid (by
    have h := (Row.zeros ((w.alloc (.cells (kl X Y).toArray 23)).alloc (.cells (kl A B).toArray 23)) 23).there
    rw [World.size_alloc, World.size_alloc] at h
    rw [hW3, hN]; exact h)
  have HWd := Lib.hid (fun w => words_any A B w hA hB)
  have HRk := Lib.hid (fun w => refKeys_any X Y w hX hY)
  have HO := Lib.hid (fun k => dst_ok (X := X) (Y := Y) hA hB k)
  have HRl := Lib.hid (fun i hi => rk_lt hX hY i hi)
  have HW := Lib.hid hW3
  have HN := Lib.hid hN
  rw [← hN]
  clear hW3 hN hX hY hA hB
  go_enter Try.func72, Try.ntmps72
  go_wp2_with (refine wpList_load_key rfl _ rfl _ rfl A B (by rw [← HW.out, ← HN.out]; exact K1.out) ?_)
  rw [← HW.out, ← HN.out]
  refine (HWd.out W3).mono ?_
  rintro e w4 ⟨rfl, hb4⟩
  have HB4 := Lib.hid hb4
  have K0' := Lib.hid (K0.out.keep hb4)
  clear hb4
  go_wp2_with (refine wpList_load_key rfl _ rfl _ rfl X Y K0'.out ?_)
  refine (HRk.out w4).mono ?_
  rintro e w5 ⟨⟨g, c, rfl, q1, q2, q3, q4⟩, hb5⟩
  have HB5 := Lib.hid (HB4.out.trans (hb5.mono HB4.out.size))
  have HC5 := Lib.hid q4
  have hg5 : Hid (g < w5.heap.size) := Lib.hid (block_lt_of_cell (q4 0 (by omega)))
  clear HB4 hb5 q1 q3 q4 K0 K0' K1
  go_wp2_with fail
  go_loopw [5, 6, 8] (fun x y i wr => ∃ k xa xb : Nat, k ≤ 32 ∧ i = .int .i64 ((k : Int) - 1) ∧ x = .int .u64 (xa : Int) ∧ y = .int .u64 (xb : Int) ∧ Hid (xa = (dst X Y A B (32 - k)).1 ∧ xb = (dst X Y A B (32 - k)).2) ∧ Hid (Below w5.heap.size w5 wr)) (fun _ _ i _ => (intOf i + 1).toNat)
  case atStart => exact ⟨32, A, B, by omega, by go_num, rfl, rfl, Lib.hid ⟨rfl, rfl⟩, Lib.hid (Below.refl _ _)⟩
  case round =>
    obtain ⟨k, xa, xb, hk, rfl, rfl, rfl, HI, HR⟩ := hrel
    have ha : xa < M := by rw [HI.out.1]; exact (HO.out _).1
    have hb : xb < M := by rw [HI.out.2]; exact (HO.out _).2
    rcases Nat.eq_zero_or_pos k with rfl | hpos
    · have HBk := Lib.hid (fun w => refBlock_any xa xb w ha hb)
      clear ha hb
      go_wp2_with fail
      refine (HBk.out _).mono ?_
      rintro e w8 ⟨rfl, hb8⟩
      have HB8 : Hid (Below W3.heap.size W3 w8) := Lib.hid ((HB5.out.trans (HR.out.mono HB5.out.size)).trans (hb8.mono (Nat.le_trans HB5.out.size HR.out.size)))
      have HT8 : Hid (w8.there (N + 1 + 1) 0 16) := Lib.hid (there_below HT.out HB8.out (by rw [HS3.out]; omega))
      clear hb8
      go_wp2_with (refine wpList_store_key rfl _ _ rfl (N + 1 + 1) _ _ rfl rfl HT8.out ?_)
      exact ends_key rfl (N + 1 + 1) _ _ HT8.out rfl rfl ⟨by rw [HI.out.1, HI.out.2]; rfl, below_setCells _ _ _ _ (HB3.out.trans (HB8.out.mono (by rw [HS3.out]; omega))) (by omega)⟩
    · obtain ⟨j, rfl⟩ : ∃ j, k = j + 1 := ⟨k - 1, by omega⟩
      have hj : j < 32 := by omega
      have e1 : (((j + 1 : Nat) : Int) - 1) = (j : Int) := by omega
      rw [e1]
      have hq := HRl.out j (by omega)
      have HC : Hid (∀ w', Below wr.heap.size wr w' → w'.cell? ⟨g, j, none⟩ = some (.int .u64 (rk X Y j : Int))) := Lib.hid (fun w' hB' => (hB'.cell (p := ⟨g, j, none⟩) (Nat.lt_of_lt_of_le hg5.out HR.out.size)).trans ((HR.out.cell (p := ⟨g, j, none⟩) hg5.out).trans (HC5.out j hj)))
      obtain ⟨q, hqe⟩ : ∃ q, q = rk X Y j := ⟨_, rfl⟩
      rw [← hqe] at hq HC
      have hx1 := xor_int xb xa hb ha
      have h3M := xor_lt hb ha
      obtain ⟨s, hs⟩ : ∃ s, s = xb ^^^ xa := ⟨_, rfl⟩
      rw [← hs] at hx1 h3M
      have H3 := Lib.hid (fun w => rotr3_any s w h3M)
      have htM := rr3_lt h3M
      obtain ⟨t, ht⟩ : ∃ t, t = rr3 s := ⟨_, rfl⟩
      rw [← ht] at H3 htM
      have hx2 := xor_int xa q ha hq
      obtain ⟨p, hp⟩ : ∃ p, p = xa ^^^ q := ⟨_, rfl⟩
      rw [← hp] at hx2
      have hx3 := sub_int p t htM
      have hzM : (p + M - t) % M < M := Nat.mod_lt _ (by decide)
      obtain ⟨z, hz⟩ : ∃ z, z = (p + M - t) % M := ⟨_, rfl⟩
      rw [← hz] at hx3 hzM
      have H8 := Lib.hid (fun w => rotl8_any z w hzM)
      obtain ⟨r, hr⟩ : ∃ r, r = rl8 z := ⟨_, rfl⟩
      rw [← hr] at H8
      have HS : Hid (r = (dst X Y A B (32 - j)).1 ∧ t = (dst X Y A B (32 - j)).2) := Lib.hid (by
        have e0 : dst X Y A B (31 - j) = (xa, xb) := by rw [show 31 - j = 32 - (j + 1) by omega]; exact Prod.ext HI.out.1.symm HI.out.2.symm
        rw [dst_step X Y A B j hj, e0, ← hqe]
        have e2 : t = unY xa xb := by rw [ht, hs]; rfl
        refine ⟨?_, e2⟩
        rw [hr, hz, hp, e2]; rfl)
      have h1 := Lib.hid hx1
      have h2 := Lib.hid hx2
      have h3 := Lib.hid hx3
      have c1 := hx1
      have l1 : (0 : Int) ≤ (j : Int) := by omega
      have l2 : (j : Int) < 32 := by omega
      clear ha hb hq hx1 hx2 hx3 h3M htM hzM hqe hs hp hz hr ht HI e1
      go_wp2_with fail
      refine (H3.out _).mono ?_
      rintro e w7 ⟨rfl, hb7⟩
      have c2 := HC.out w7 hb7
      have c3 := h2.out
      have c4 := h3.out
      have HR7 := Lib.hid (HR.out.trans (hb7.mono HR.out.size))
      clear hb7
      go_wp2_with fail
      refine (H8.out _).mono ?_
      rintro e w8 ⟨rfl, hb8⟩
      have HR8 : Hid (Below w5.heap.size w5 w8) := Lib.hid (HR7.out.trans (hb8.mono HR7.out.size))
      clear hb8
      go_wp2
      go_roundw
      case rel => exact ⟨j, r, t, by omega, by go_num, rfl, rfl, HS, HR8⟩
      case measure => simp [intOf]
end Go.Proofs.Ytcbanemkjebdcaa
