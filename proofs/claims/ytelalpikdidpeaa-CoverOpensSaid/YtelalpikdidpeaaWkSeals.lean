/-
  The walk through the law of sealing.
-/
import Derived.Test.YtelalpikdidpeaaSlC
namespace Go.Proofs.Ytelalpikdidpeaa
open Go.RowKit TR L2 L2.SP
set_option linter.unusedVariables false
set_option linter.unusedSimpArgs false

theorem hdrbox (w : World) (iv pv : Value) (B : Int) (x y : Nat × Nat) : (w.alloc (.cells z35 59)).there w.heap.size 0 35 ∧ Hdx ((w.alloc (.cells z35 59)).setCells w.heap.size 0 (hdi iv pv B x y)) w.heap.size iv pv B x y ∧ Below w.heap.size w ((w.alloc (.cells z35 59)).setCells w.heap.size 0 (hdi iv pv B x y)) ∧ ((w.alloc (.cells z35 59)).setCells w.heap.size 0 (hdi iv pv B x y)).heap.size = w.heap.size + 1 := by
  have hA := Blk.new w z35 59
  exact ⟨hA.there, Hdx.stored hA z35_size _ _ _ _ _, below_setCells _ _ _ _ (below_alloc _ _) (Nat.le_refl _), by rw [size_setCells]; simp⟩

set_option maxRecDepth 100000 in
set_option maxHeartbeats 400000 in
theorem seals_walk (p s : Nat × Nat) (K D E : Int) (P Q G n c g o : Nat) (A : Option Addr) (f : Nat → Int × Int) (w : World) (hp : Ok p) (hs : Ok s) (hK0 : 0 ≤ K) (hK1 : K ≤ 255) (hnc : n ≤ c) (hnm : n ≤ 8796093022208) (had : n = 0 ∨ A = some ⟨g, o, none⟩) (hcm : c ≤ maxLen)
    (hcl : ∀ i, i < n → w.cell? ⟨g, o + i * 2, none⟩ = some (.int .i64 (f i).1) ∧ w.cell? ⟨g, o + i * 2 + 1, none⟩ = some (.int .i64 (f i).2)) :
    Calls Try.prog 4 #[.agg (kl p.1 p.2).toArray, .agg #[.int .u8 K, .int .i64 D, .int .i64 E, .int .u64 (P : Int), .int .u64 (Q : Int), .int .u64 (G : Int)], .slice A n c, .agg (kl s.1 s.2).toArray] w fun e w' => e = .returned (.bool true) ∧ Below w.heap.size w w' := by
  obtain ⟨N, hN⟩ : ∃ N, N = w.heap.size := ⟨_, rfl⟩
  obtain ⟨W4, hW4⟩ : ∃ W4, W4 = (((w.alloc (.cells (kl p.1 p.2).toArray 23)).alloc (.cells #[.int .u8 K, .int .i64 D, .int .i64 E, .int .u64 (P : Int), .int .u64 (Q : Int), .int .u64 (G : Int)] 28)).alloc (.cells (kl s.1 s.2).toArray 23)).alloc (.cells #[] 35) := ⟨_, rfl⟩
  have s4 : W4.heap.size = N + 4 := by rw [hW4, hN]; simp
  have b4 : Below N w W4 := by rw [hW4, hN]; exact (below_alloc _ _).trans (((below_alloc _ _).mono (by simp)).trans (((below_alloc _ _).mono (by simp; omega)).trans ((below_alloc _ _).mono (by simp; omega))))
  have e1 : Kbx W4 N p := by rw [hW4, hN]; exact ((Blk.keep (Blk.new w _ _) (below_alloc _ _)).keep (below_alloc _ _)).keep (below_alloc _ _)
  have e2 : Blk W4 (N + 1) #[.int .u8 K, .int .i64 D, .int .i64 E, .int .u64 (P : Int), .int .u64 (Q : Int), .int .u64 (G : Int)] 28 := by
    have h := ((Blk.new (w.alloc (.cells (kl p.1 p.2).toArray 23)) #[.int .u8 K, .int .i64 D, .int .i64 E, .int .u64 (P : Int), .int .u64 (Q : Int), .int .u64 (G : Int)] 28).keep (below_alloc _ (.cells (kl s.1 s.2).toArray 23))).keep (below_alloc _ (.cells #[] 35))
    rw [World.size_alloc, ← hN] at h; rw [hW4]; exact h
  have e3 : Kbx W4 (N + 2) s := by
    have h := (Blk.new ((w.alloc (.cells (kl p.1 p.2).toArray 23)).alloc (.cells #[.int .u8 K, .int .i64 D, .int .i64 E, .int .u64 (P : Int), .int .u64 (Q : Int), .int .u64 (G : Int)] 28)) (kl s.1 s.2).toArray 23).keep (below_alloc _ (.cells #[] 35))
    rw [World.size_alloc, World.size_alloc, ← hN] at h; rw [hW4]; exact h
  have hO : W4.ownsRow (N + 3) 35 2 (.slice (some ⟨N + 3, 0, none⟩) 0 0) 0 [] := by
    have h := World.ownsRow_made (base := N + 3) (e := 35) (size := 2) (((w.alloc (.cells (kl p.1 p.2).toArray 23)).alloc (.cells #[.int .u8 K, .int .i64 D, .int .i64 E, .int .u64 (P : Int), .int .u64 (Q : Int), .int .u64 (G : Int)] 28)).alloc (.cells (kl s.1 s.2).toArray 23)) #[] 0 (by simp [hN]) (by simp [maxLen]) rfl
    rw [World.size_alloc, World.size_alloc, World.size_alloc, ← hN] at h; rw [hW4]; exact h
  have HCL : Hid (∀ w1, Below N w w1 → ∀ i, i < n → w1.cell? ⟨g, o + i * 2, none⟩ = some (.int .i64 (f i).1) ∧ w1.cell? ⟨g, o + i * 2 + 1, none⟩ = some (.int .i64 (f i).2)) := Lib.hid (fun w1 hb i hi => by
    have k : ∀ (p : Addr) v, w.cell? p = some v → w1.cell? p = some v := fun p v hv => (hb.cell (p := p) (by rw [hN]; exact World.block_lt_of_cell? w _ hv)).trans hv
    exact ⟨k _ _ (hcl i hi).1, k _ _ (hcl i hi).2⟩)
  obtain ⟨i0, hi, hz0, hz1, hz2⟩ := info_parts infoSub
  obtain ⟨v5, W5, hap, ho5, hg5⟩ := append_run (T := 55) (e := 35) (i0 := i0) (z := .agg #[.int .i64 0, .int .i64 0]) (size := 2) (bytes := 16) Try.underlying55 hi hz0 hz1 hz2 rfl (by omega) 55 W4 (N + 3) 0 n c (.slice (some ⟨N + 3, 0, none⟩) 0 0) [] (sbF f n) A hO
    (fun h => by rcases had with h0 | h0; exact h0; rw [h] at h0; cases h0)
    (fun ad hA j u hu => by
      have hj : j < n * 2 := by have := (List.getElem?_eq_some_iff.1 hu).1; rwa [sbF_len] at this
      have h1 : j / 2 < n := by omega
      obtain rfl : ad = ⟨g, o, none⟩ := by
        rcases had with h0 | h0
        · omega
        · rw [h0] at hA; injection hA with hA; exact hA.symm
      have h2 := sbF_get f n (j / 2) h1
      have h3 := HCL.out W4 b4 (j / 2) h1
      rw [Addr.add_mid]
      rcases Nat.mod_two_eq_zero_or_one j with h4 | h4
      · rw [show j / 2 * 2 = j by omega] at h2 h3
        rw [hu] at h2
        rw [h3.1, ← h2.1]
      · rw [show j / 2 * 2 + 1 = j by omega] at h2
        rw [hu] at h2
        rw [show o + j = o + j / 2 * 2 + 1 by omega, h3.2, ← h2.2])
    (sbF_len f n) (sbF_one f n) (by unfold maxLen; omega) (by omega) (by rw [s4]; omega)
  have b45 : Below (N + 3) W4 W5 := (Below.refl _ _).grown hg5 (by rw [s4]; omega) (fun b hb => by
    have h1 : (Value.slice (some ⟨N + 3, 0, none⟩) 0 0).ownBlock = some (N + 3) := rfl
    rw [h1] at hb; injection hb with hb; omega)
  obtain ⟨A5, c5, rfl, hc5, hk5⟩ := own_cap ho5
  rw [Nat.zero_add] at hap ho5 hc5 hk5
  have HM5 : Hid (∃ g5, (n = 0 ∨ A5 = some ⟨g5, 0, none⟩) ∧ ∀ i, i < n → W5.cell? ⟨g5, i * 2, none⟩ = some (.int .i64 (f i).1) ∧ W5.cell? ⟨g5, i * 2 + 1, none⟩ = some (.int .i64 (f i).2)) := Lib.hid (by
    rcases hk5 with h0 | ⟨g5, h1, _, _, h2, _⟩
    · exact ⟨0, .inl h0, fun i hi => by omega⟩
    · refine ⟨g5, .inr h1, fun i hi => ⟨h2 _ _ (by simpa using (sbF_get f n i hi).1), h2 _ _ (by simpa using (sbF_get f n i hi).2)⟩⟩)
  have hcm5 : c5 ≤ maxLen := by
    rcases ho5.2 with ⟨h0, _⟩ | ⟨_, _, _, h0, _, _, _, hcm, _, _⟩
    · injection h0 with _ _ h0; rw [h0]; exact Nat.zero_le _
    · injection h0 with _ _ h0; rw [h0]; exact hcm
  have HE5 : Hid (N + 3 ≤ W5.heap.size ∧ Below N w W5 ∧ Kbx W5 N p ∧ Blk W5 (N + 1) #[.int .u8 K, .int .i64 D, .int .i64 E, .int .u64 (P : Int), .int .u64 (Q : Int), .int .u64 (G : Int)] 28 ∧ Kbx W5 (N + 2) s) := Lib.hid ⟨by have := hg5.size; rw [s4] at this; omega, b4.trans (b45.mono (by omega)), Blk.below e1 b45 (by omega), e2.below b45 (by omega), Blk.below e3 b45 (by omega)⟩
  have HA1 := Lib.hid (fun (g5 : Nat) (w1 : World) (had5 : n = 0 ∨ A5 = some ⟨g5, 0, none⟩) (hcl5 : ∀ i, i < n → w1.cell? ⟨g5, i * 2, none⟩ = some (.int .i64 (f i).1) ∧ w1.cell? ⟨g5, i * 2 + 1, none⟩ = some (.int .i64 (f i).2)) => seal_any p s K D E P Q G n c5 g5 0 A5 f w1 hp hs hK0 hK1 hc5 (by omega) had5 (fun i hi => by rw [Nat.zero_add]; exact hcl5 i hi))
  have HA2 := Lib.hid (fun (w1 : World) (hb : Below N w w1) => refSeal_any p s K D E P Q G n c g o A f w1 hp hs hK0 hK1 hnc (by omega) had (HCL.out w1 hb))
  have HSm := Lib.hid (fun (g5 : Nat) (w1 : World) (had5 : n = 0 ∨ A5 = some ⟨g5, 0, none⟩) (hcl5 : ∀ i, i < n → w1.cell? ⟨g5, i * 2, none⟩ = some (.int .i64 (f i).1) ∧ w1.cell? ⟨g5, i * 2 + 1, none⟩ = some (.int .i64 (f i).2)) (hb : Below N w w1) => sameSubs_gen A5 A g5 g o n c5 c (fun i => (f i).1) (fun i => (f i).2) w1 hnm hc5 hnc hcm5 hcm (by
    rcases had with h | h
    · exact .inl h
    · rcases had5 with h' | h'
      · exact .inl h'
      · exact .inr ⟨h', h⟩) (fun i hi => ⟨hcl5 i hi, HCL.out w1 hb i hi⟩))
  have hm64 := slm_le K D E P Q G n f
  obtain ⟨m, hm⟩ : ∃ m, m = slm K D E P Q G n f := ⟨_, rfl⟩
  obtain ⟨ck, hck⟩ : ∃ ck, ck = slk s K D E P Q G n f := ⟨_, rfl⟩
  obtain ⟨cd, hcd⟩ : ∃ cd, cd = slc K D E P Q G n f := ⟨_, rfl⟩
  obtain ⟨F, hF⟩ : ∃ F, F = slG p s K D E P Q G f := ⟨_, rfl⟩
  simp only [SlE, ← hm, ← hck, ← hcd, ← hF] at HA1 HA2
  rw [← hm] at hm64
  have HM64 := Lib.hid hm64
  have HN := Lib.hid hN
  have HW := Lib.hid hW4
  rw [← hN]
  have hpk := hap
  have c0 : W5.cell? ⟨N + 1, 0, none⟩ = some (.int .u8 K) := (HE5.out.2.2.2.1).cell 0
  have c1 : W5.cell? ⟨N + 1, 1, none⟩ = some (.int .i64 D) := (HE5.out.2.2.2.1).cell 1
  have c2 : W5.cell? ⟨N + 1, 2, none⟩ = some (.int .i64 E) := (HE5.out.2.2.2.1).cell 2
  have c3 : W5.cell? ⟨N + 1, 3, none⟩ = some (.int .u64 (P : Int)) := (HE5.out.2.2.2.1).cell 3
  have c4 : W5.cell? ⟨N + 1, 4, none⟩ = some (.int .u64 (Q : Int)) := (HE5.out.2.2.2.1).cell 4
  have c5 : W5.cell? ⟨N + 1, 5, none⟩ = some (.int .u64 (G : Int)) := (HE5.out.2.2.2.1).cell 5
  clear hN hW4 s4 b4 e1 e2 e3 hO hap ho5 hg5 b45 hk5 hc5 hcm5 hp hs hK0 hK1 hnc hnm had hcl hcm hm hck hcd hF hm64 hi hz0 hz1 hz2
  obtain ⟨g5, had5, hcl5⟩ := HM5.out
  have HG5 := Lib.hid had5
  have HC5 := Lib.hid hcl5
  clear had5 hcl5 HM5
  go_enter Try.func4, Try.ntmps4
  go_wp2_with (first
    | (at_builtin; rw [← HN.out]; simp only [Nat.add_assoc, Nat.reduceAdd]; rw [← HW.out]; refine Lib.wpList_append_run _ rfl _ _ _ _ rfl _ _ rfl rfl _ _ hpk ?_)
    | ((with_reducible show wpList _ _ _ (Oper.mk _ (Op.load 23 _) _ _ _ _ :: _) _ _); refine wpList_load_key rfl _ rfl N rfl _ _ (Kbx.at_ HE5.out.2.2.1) ?_)
    | ((with_reducible show wpList _ _ _ (Oper.mk _ (Op.load 23 _) _ _ _ _ :: _) _ _); refine wpList_load_key rfl _ rfl (N + 2) rfl _ _ (Kbx.at_ HE5.out.2.2.2.2) ?_))
  refine (HA1.out g5 W5 HG5.out HC5.out).mono ?_
  rintro e w6 ⟨⟨v6, rfl, ho6⟩, hb6⟩
  obtain ⟨A6, c6, rfl, hc6, hk6⟩ := own_items ho6
  obtain ⟨k1, k2, k3, k4⟩ := hdrbox w6 (.slice A6 m c6) (.slice none 0 0) 0 (0, 0) ck
  obtain ⟨W7, hW7⟩ : ∃ W7, W7 = (w6.alloc (.cells z35 59)).setCells w6.heap.size 0 (hdi (.slice A6 m c6) (.slice none 0 0) 0 (0, 0) ck) := ⟨_, rfl⟩
  rw [← hW7] at k2 k3 k4
  obtain ⟨h6, hh6⟩ : ∃ h6, h6 = w6.heap.size := ⟨_, rfl⟩
  rw [← hh6] at k2 k4
  have HW7 := Lib.hid (And.intro hW7 hh6)
  have HTk := Lib.hid k1
  have b57 : Below W5.heap.size W5 W7 := hb6.trans (k3.mono hb6.size)
  have HE7 : Hid (Below W5.heap.size W5 W7 ∧ Below N w W7 ∧ Kbx W7 N p ∧ Blk W7 (N + 1) #[.int .u8 K, .int .i64 D, .int .i64 E, .int .u64 (P : Int), .int .u64 (Q : Int), .int .u64 (G : Int)] 28 ∧ Kbx W7 (N + 2) s ∧ Hdx W7 h6 (.slice A6 m c6) (.slice none 0 0) 0 (0, 0) ck) := Lib.hid ⟨b57, HE5.out.2.1.trans (b57.mono (by have := HE5.out.1; omega)), Blk.keep HE5.out.2.2.1 b57, HE5.out.2.2.2.1.keep b57, Blk.keep HE5.out.2.2.2.2 b57, k2⟩
  have HR7 : Hid (m ≤ c6 ∧ (m = 0 ∨ ∃ g6, A6 = some ⟨g6, 0, none⟩ ∧ ∀ i, i < m → W7.rangeAt g6 (i * 18) (lbl (F i).1 (F i).2.1 (F i).2.2))) := Lib.hid ⟨hc6, by
    rcases hk6 with h0 | ⟨g6, h1, _, h2⟩
    · exact .inl h0
    · exact .inr ⟨g6, h1, fun i hi j u hu => (k3.cell (p := ⟨g6, i * 18 + j, none⟩) (World.block_lt_of_cell? w6 _ (h2 i hi j u hu))).trans (h2 i hi j u hu)⟩⟩
  clear c0 c1 c2 c3 c4 c5
  have c0 : W7.cell? ⟨N + 1, 0, none⟩ = some (.int .u8 K) := (HE7.out.2.2.2.1).cell 0
  have c1 : W7.cell? ⟨N + 1, 1, none⟩ = some (.int .i64 D) := (HE7.out.2.2.2.1).cell 1
  have c2 : W7.cell? ⟨N + 1, 2, none⟩ = some (.int .i64 E) := (HE7.out.2.2.2.1).cell 2
  have c3 : W7.cell? ⟨N + 1, 3, none⟩ = some (.int .u64 (P : Int)) := (HE7.out.2.2.2.1).cell 3
  have c4 : W7.cell? ⟨N + 1, 4, none⟩ = some (.int .u64 (Q : Int)) := (HE7.out.2.2.2.1).cell 4
  have c5 : W7.cell? ⟨N + 1, 5, none⟩ = some (.int .u64 (G : Int)) := (HE7.out.2.2.2.1).cell 5
  rw [hW7] at c0 c1 c2 c3 c4 c5
  clear k1 k2 k3 k4 hW7 hh6 hb6 ho6 hk6 hc6 b57 hpk
  go_wp2_with (first
    | ((with_reducible show wpList _ _ _ (Oper.mk _ (Op.store 59 _ _) _ _ _ _ :: _) _ _); refine wpList_store_hdi rfl _ _ rfl _ _ _ _ _ _ rfl rfl rfl rfl HTk.out ?_)
    | ((with_reducible show wpList _ _ _ (Oper.mk _ (Op.load 23 _) _ _ _ _ :: _) _ _); refine wpList_load_key rfl _ rfl N rfl _ _ (by rw [← HW7.out.1]; exact Kbx.at_ HE7.out.2.2.1) ?_)
    | ((with_reducible show wpList _ _ _ (Oper.mk _ (Op.load 23 _) _ _ _ _ :: _) _ _); refine wpList_load_key rfl _ rfl (N + 2) rfl _ _ (by rw [← HW7.out.1]; exact Kbx.at_ HE7.out.2.2.2.2.1) ?_))
  rw [← HW7.out.1, ← HW7.out.2]
  refine (HA2.out W7 HE7.out.2.1).mono ?_
  rintro e w8 ⟨⟨v8, rfl, ho8⟩, hb8⟩
  obtain ⟨A8, c8, rfl, hc8, hk8⟩ := own_items ho8
  obtain ⟨k1, k2, k3, k4⟩ := hdrbox w8 (.slice A8 m c8) (.slice none 0 0) 0 (0, 0) ck
  obtain ⟨W9, hW9⟩ : ∃ W9, W9 = (w8.alloc (.cells z35 59)).setCells w8.heap.size 0 (hdi (.slice A8 m c8) (.slice none 0 0) 0 (0, 0) ck) := ⟨_, rfl⟩
  rw [← hW9] at k2 k3 k4
  obtain ⟨h8, hh8⟩ : ∃ h8, h8 = w8.heap.size := ⟨_, rfl⟩
  rw [← hh8] at k2 k4
  have HW9 := Lib.hid (And.intro hW9 hh8)
  have HTk2 := Lib.hid k1
  have b79 : Below W7.heap.size W7 W9 := hb8.trans (k3.mono hb8.size)
  have HE9 : Hid (Below W5.heap.size W5 W9 ∧ Below N w W9 ∧ Hdx W9 h6 (.slice A6 m c6) (.slice none 0 0) 0 (0, 0) ck ∧ Hdx W9 h8 (.slice A8 m c8) (.slice none 0 0) 0 (0, 0) ck) := Lib.hid ⟨HE7.out.1.trans (b79.mono HE7.out.1.size), HE7.out.2.1.trans (b79.mono (by have := HE5.out.1; have := HE7.out.1.size; omega)), Blk.keep HE7.out.2.2.2.2.2 b79, k2⟩
  have HSH : Hid (Calls Try.prog 20 #[.agg (hdi (.slice A6 m c6) (.slice none 0 0) 0 (0, 0) ck).toArray, .agg (hdi (.slice A8 m c8) (.slice none 0 0) 0 (0, 0) ck).toArray] W9 fun e w' => e = .returned (.bool true) ∧ Below W9.heap.size W9 w') := Lib.hid (by
    have hm := HM64.out
    rcases HR7.out.2 with h0 | ⟨g6, h1, h2⟩
    · exact sameHeader_gen A6 A8 none none 0 0 0 m c6 c8 0 0 0 0 0 0 0 (0, 0) ck F (fun _ => (0, 0)) W9 (by omega) HR7.out.1 hc8 (.inl h0) (fun i hi => by omega) (by omega) (Nat.le_refl _) (Nat.le_refl _) (.inl rfl) (fun i hi => by omega)
    · rcases hk8 with h0 | ⟨g8, h3, _, h4⟩
      · exact sameHeader_gen A6 A8 none none 0 0 0 m c6 c8 0 0 0 0 0 0 0 (0, 0) ck F (fun _ => (0, 0)) W9 (by omega) HR7.out.1 hc8 (.inl h0) (fun i hi => by omega) (by omega) (Nat.le_refl _) (Nat.le_refl _) (.inl rfl) (fun i hi => by omega)
      · refine sameHeader_gen A6 A8 none none g6 g8 0 m c6 c8 0 0 0 0 0 0 0 (0, 0) ck F (fun _ => (0, 0)) W9 (by omega) HR7.out.1 hc8 (.inr ⟨h1, h3⟩) (fun i hi => ⟨fun j u hu => ?_, fun j u hu => ?_⟩) (by omega) (Nat.le_refl _) (Nat.le_refl _) (.inl rfl) (fun i hi => by omega)
        · exact (b79.cell (p := ⟨g6, i * 18 + j, none⟩) (World.block_lt_of_cell? W7 _ (h2 i hi j u hu))).trans (h2 i hi j u hu)
        · rw [Nat.zero_add]
          exact (k3.cell (p := ⟨g8, i * 18 + j, none⟩) (World.block_lt_of_cell? w8 _ (h4 i hi j u hu))).trans (h4 i hi j u hu))
  clear k1 k2 k3 k4 hW9 hh8 hb8 ho8 hk8 hc8 b79 c0 c1 c2 c3 c4 c5
  go_wp2_with (first
    | ((with_reducible show wpList _ _ _ (Oper.mk _ (Op.store 59 _ _) _ _ _ _ :: _) _ _); refine wpList_store_hdi rfl _ _ rfl _ _ _ _ _ _ rfl rfl rfl rfl HTk2.out ?_)
    | ((with_reducible show wpList _ _ _ (Oper.mk _ (Op.load 59 _) _ _ _ _ :: _) _ _); refine wpList_load_hdi rfl _ rfl _ rfl _ _ _ _ _ (by rw [← HW9.out.1]; exact HE9.out.2.2.1) ?_)
    | ((with_reducible show wpList _ _ _ (Oper.mk _ (Op.load 59 _) _ _ _ _ :: _) _ _); refine wpList_load_hdi rfl _ rfl _ rfl _ _ _ _ _ (by rw [← HW9.out.1, ← HW9.out.2]; exact HE9.out.2.2.2) ?_))
  rw [← HW9.out.1]
  refine HSH.out.mono ?_
  rintro e w10 ⟨rfl, hb10⟩
  have HB10 : Hid (Below W5.heap.size W5 w10 ∧ Below N w w10 ∧ N ≤ w10.heap.size) := Lib.hid ⟨HE9.out.1.trans (hb10.mono HE9.out.1.size), HE9.out.2.1.trans (hb10.mono (by have := HE5.out.1; have := HE9.out.1.size; omega)), by have := HE5.out.1; have := HE9.out.1.size; have := hb10.size; omega⟩
  clear hb10
  go_wp2_with fail
  refine (HSm.out g5 w10 HG5.out (fun i hi => below_cell2 HB10.out.1 (HC5.out i hi)) HB10.out.2.1).mono ?_
  rintro e w11 ⟨rfl, hb11⟩
  have HF : Hid (Below N w w11) := Lib.hid (HB10.out.2.1.trans (hb11.mono HB10.out.2.2))
  clear hb11
  go_wp2_with fail
  go_ret
  exact ⟨by first | rfl | simp, HF.out⟩
end Go.Proofs.Ytelalpikdidpeaa
