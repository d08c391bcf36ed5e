/-
  Seal, the specification's: what it refuses, and what it answers.
-/
import Derived.Test.YtcbanemkjebdcaaPolV
import Derived.Test.YtcbanemkjebdcaaPolP
import Derived.Test.YtcbanemkjebdcaaPolC
namespace Go.Proofs.Ytcbanemkjebdcaa
open Go.RowKit SP
set_option linter.unusedVariables false
set_option linter.unusedSimpArgs false

set_option maxRecDepth 100000 in
set_option maxHeartbeats 400000 in
theorem refIsList_nil (D : Int) (ad : Option Addr) (c : Nat) (f : Nat → Int) (w : World) :
    Calls Try.prog 61 #[.int .i64 D, .slice ad 0 c] w fun e w' => e = .returned (.bool (lsb D 0 f)) ∧ Below w.heap.size w w' := by
  have HX := Lib.hid (lsb_yes (D := D) (n := 0) (f := f) (fun i hi => by omega))
  go_enter Try.func61, Try.ntmps61
  go_wp2_with fail
  refine wp_loop_rounds 1 ?_
  rw [rounds_succ]
  go_wp2
  go_ret
  exact ⟨by rw [HX.out]; rfl, Below.refl _ _⟩

theorem refIsList_ad (D : Int) (b off n c : Nat) (ad : Option Addr) (f : Nat → Int) (w : World) (d1 : 0 ≤ D) (d2 : D ≤ 6) (hn : n ≤ c) (hc : c ≤ maxLen) (had : n = 0 ∨ ad = some ⟨b, off, none⟩) (hcl : ∀ i, i < n → w.cell? ⟨b, off + i, none⟩ = some (.int .i64 (f i))) :
    Calls Try.prog 61 #[.int .i64 D, .slice ad n c] w fun e w' => e = .returned (.bool (lsb D n f)) ∧ Below w.heap.size w w' := by
  rcases had with rfl | rfl
  · exact refIsList_nil D ad c f w
  · exact refIsList_any D b off n c f w d1 d2 hn hc hcl

set_option maxRecDepth 100000 in
set_option maxHeartbeats 1000000 in
theorem refSeal_scheme (X Y A B : Nat) (K D E : Int) (P Q G m b off n c : Nat) (ad : Option Addr) (w : World) (hK0 : 0 ≤ K) (hK1 : K ≤ 255) (hQ : Q < M) (h : ¬ SchOk K D E P Q G) :
    Calls Try.prog 21 #[.agg (kl X Y).toArray, .agg #[.int .u8 K, .int .i64 D, .int .i64 E, .int .u64 (P : Int), .int .u64 (Q : Int), .int .u64 (G : Int)], .slice ad n c, .agg (kl A B).toArray, .int .u64 (m : Int)] w fun e w' => e = .returned (.tuple #[.agg (hdl (.slice none 0 0) 0 0 0 0 0).toArray, .int .i64 30]) ∧ Below w.heap.size w w' := by
  obtain ⟨N, hN⟩ : ∃ N, N = w.heap.size := ⟨_, rfl⟩
  obtain ⟨W4, hW4⟩ : ∃ W4, W4 = (((w.alloc (.cells (kl X Y).toArray 23)).alloc (.cells #[.int .u8 K, .int .i64 D, .int .i64 E, .int .u64 (P : Int), .int .u64 (Q : Int), .int .u64 (G : Int)] 28)).alloc (.cells (kl A B).toArray 23)).alloc (.cells (hdl (.slice none 0 0) 0 0 0 0 0).toArray 60) := ⟨_, rfl⟩
  have HB4 : Hid (Below N w W4) := Lib.hid (by rw [hW4, hN]; exact ((((Below.refl _ _).alloc (Nat.le_refl _) _).alloc (by simp) _).alloc (by simp; omega) _).alloc (by simp; omega) _)
  have HS4 : Hid (W4.heap.size = N + 4) := Lib.hid (by rw [hW4, hN]; simp)
  have HEnv : Hid (∀ w1, Below (N + 4) W4 w1 → KeyAt w1 N X Y ∧ SchAt w1 (N + 1) K D E P Q G ∧ KeyAt w1 (N + 2) A B ∧ HdAt w1 (N + 3) (.slice none 0 0) 0 0 0 0 0 ∧ Below N w w1) := Lib.hid (fun w1 h => by
    have k : KeyAt W4 N X Y := by rw [hW4, hN]; exact (((KeyAt.new w X Y 23).alloc _).alloc _).alloc _
    have s : SchAt W4 (N + 1) K D E P Q G := by
      have h := SchAt.new (w.alloc (.cells (kl X Y).toArray 23)) K D E P Q G
      rw [World.size_alloc] at h
      rw [hW4, hN]; exact h.below (((Below.refl _ _).alloc (Nat.le_refl _) _).alloc (by simp) _) (by simp)
    have k2 : KeyAt W4 (N + 2) A B := by
      have h := KeyAt.new ((w.alloc (.cells (kl X Y).toArray 23)).alloc (.cells #[.int .u8 K, .int .i64 D, .int .i64 E, .int .u64 (P : Int), .int .u64 (Q : Int), .int .u64 (G : Int)] 28)) A B 23
      rw [World.size_alloc, World.size_alloc] at h
      rw [hW4, hN]; exact h.alloc _
    have r : HdAt W4 (N + 3) (.slice none 0 0) 0 0 0 0 0 := by
      have h := HdAt.new (((w.alloc (.cells (kl X Y).toArray 23)).alloc (.cells #[.int .u8 K, .int .i64 D, .int .i64 E, .int .u64 (P : Int), .int .u64 (Q : Int), .int .u64 (G : Int)] 28)).alloc (.cells (kl A B).toArray 23)) (.slice none 0 0) 0 0 0 0 0 60
      rw [World.size_alloc, World.size_alloc, World.size_alloc] at h
      rw [hW4, hN]; exact h
    exact ⟨k.below h (by omega), s.below h (by omega), k2.below h (by omega), r.below h (by omega), HB4.out.trans (h.mono (by omega))⟩)
  have HZ : Hid (∀ (w : World), w.there (N + 3) 0 35 → HdAt (w.setCells (N + 3) 0 (hdl (.slice none 0 0) 0 0 0 0 0)) (N + 3) (.slice none 0 0) 0 0 0 0 0) := Lib.hid (fun w h => HdAt.stored h _ _ _ _ _ _)
  have HN := Lib.hid hN
  have HW : Hid (W4 = (((w.alloc (.cells (kl X Y).toArray 23)).alloc (.cells #[.int .u8 K, .int .i64 D, .int .i64 E, .int .u64 (P : Int), .int .u64 (Q : Int), .int .u64 (G : Int)] 28)).alloc (.cells (kl A B).toArray 23)).alloc (.cells #[.slice none 0 0, .int .u64 0, .slice none 0 0, .int .u8 0, .int .u8 0, .int .u8 0, .int .u8 0, .int .u8 0, .int .u8 0, .int .u8 0, .int .u8 0, .int .u8 0, .int .u8 0, .int .u8 0, .int .u8 0, .int .u8 0, .int .u8 0, .int .u8 0, .int .u8 0, .int .u8 0, .int .u8 0, .int .u8 0, .int .u8 0, .int .u8 0, .int .u8 0, .int .u8 0, .int .u8 0, .int .u8 0, .int .u8 0, .int .u8 0, .int .u8 0, .int .u8 0, .int .u8 0, .int .u8 0, .int .u8 0] 60)) := Lib.hid (by rw [hd_zero]; exact hW4)
  rw [← hN]
  have HCk : Hid (∀ w, Calls Try.prog 39 #[.agg #[.int .u8 K, .int .i64 D, .int .i64 E, .int .u64 (P : Int), .int .u64 (Q : Int), .int .u64 (G : Int)]] w fun e w' => e = .returned (.bool false) ∧ Below w.heap.size w w') := Lib.hid (fun w => by
    have h1 := valid_any K D E P Q G w hK0 hK1 hQ
    rw [scb_no h] at h1; exact h1)
  clear hN hW4 hQ h
  go_enter Try.func21, Try.ntmps21
  go_wp2_with fail
  refine (HCk.out _).mono ?_
  rintro e w1 ⟨rfl, hb1⟩
  rw [← HW.out] at hb1
  have HB1 := Lib.hid (hb1.mono (show N + 4 ≤ _ by rw [HS4.out]; omega))
  rw [← HN.out]
  simp only [Nat.add_assoc, Nat.reduceAdd]
  clear hb1
  obtain ⟨_, _, _, hr, hb⟩ := HEnv.out w1 HB1.out
  have HT := Lib.hid hr.2
  have HBf := Lib.hid hb
  clear hr hb
  obtain ⟨Wz, hWz⟩ : ∃ Wz, Wz = w1.setCells (N + 3) 0 (hdl (.slice none 0 0) 0 0 0 0 0) := ⟨_, rfl⟩
  have HWz := Lib.hid hWz
  have HZz : Hid (HdAt Wz (N + 3) (.slice none 0 0) 0 0 0 0 0) := Lib.hid (by rw [hWz]; exact HZ.out _ HT.out)
  have HBz : Hid (Below N w Wz) := Lib.hid (by rw [hWz]; exact below_setCells _ _ _ _ HBf.out (by omega))
  clear hWz HZ
  go_wp2_with (first
    | (refine wpList_build60_zero rfl rfl ?_)
    | ((refine wpList_store_hd rfl _ _ rfl (N + 3) (.slice none 0 0) 0 0 0 0 0 rfl rfl rfl HT.out ?_); rw [← HWz.out]))
  exact bodyPost_hd rfl (N + 3) _ _ _ _ _ _ _ rfl rfl HZz.out rfl ⟨rfl, HBz.out⟩

set_option maxRecDepth 100000 in
set_option maxHeartbeats 1000000 in
theorem refSeal_arg (X Y A B : Nat) (K D E : Int) (P Q G m b off n c : Nat) (ad : Option Addr) (f : Nat → Int) (w : World) (hK0 : 0 ≤ K) (hK1 : K ≤ 255) (hQ : Q < M) (h : SchOk K D E P Q G) (hn : n ≤ c) (hc : c ≤ maxLen) (had : n = 0 ∨ ad = some ⟨b, off, none⟩) (hcl : ∀ i, i < n → w.cell? ⟨b, off + i, none⟩ = some (.int .i64 (f i))) (hl : lsb D n f = false) :
    Calls Try.prog 21 #[.agg (kl X Y).toArray, .agg #[.int .u8 K, .int .i64 D, .int .i64 E, .int .u64 (P : Int), .int .u64 (Q : Int), .int .u64 (G : Int)], .slice ad n c, .agg (kl A B).toArray, .int .u64 (m : Int)] w fun e w' => e = .returned (.tuple #[.agg (hdl (.slice none 0 0) 0 0 0 0 0).toArray, .int .i64 2]) ∧ Below w.heap.size w w' := by
  obtain ⟨N, hN⟩ : ∃ N, N = w.heap.size := ⟨_, rfl⟩
  obtain ⟨W4, hW4⟩ : ∃ W4, W4 = (((w.alloc (.cells (kl X Y).toArray 23)).alloc (.cells #[.int .u8 K, .int .i64 D, .int .i64 E, .int .u64 (P : Int), .int .u64 (Q : Int), .int .u64 (G : Int)] 28)).alloc (.cells (kl A B).toArray 23)).alloc (.cells (hdl (.slice none 0 0) 0 0 0 0 0).toArray 60) := ⟨_, rfl⟩
  have HB4 : Hid (Below N w W4) := Lib.hid (by rw [hW4, hN]; exact ((((Below.refl _ _).alloc (Nat.le_refl _) _).alloc (by simp) _).alloc (by simp; omega) _).alloc (by simp; omega) _)
  have HS4 : Hid (W4.heap.size = N + 4) := Lib.hid (by rw [hW4, hN]; simp)
  have HEnv : Hid (∀ w1, Below (N + 4) W4 w1 → KeyAt w1 N X Y ∧ SchAt w1 (N + 1) K D E P Q G ∧ KeyAt w1 (N + 2) A B ∧ HdAt w1 (N + 3) (.slice none 0 0) 0 0 0 0 0 ∧ Below N w w1) := Lib.hid (fun w1 h => by
    have k : KeyAt W4 N X Y := by rw [hW4, hN]; exact (((KeyAt.new w X Y 23).alloc _).alloc _).alloc _
    have s : SchAt W4 (N + 1) K D E P Q G := by
      have h := SchAt.new (w.alloc (.cells (kl X Y).toArray 23)) K D E P Q G
      rw [World.size_alloc] at h
      rw [hW4, hN]; exact h.below (((Below.refl _ _).alloc (Nat.le_refl _) _).alloc (by simp) _) (by simp)
    have k2 : KeyAt W4 (N + 2) A B := by
      have h := KeyAt.new ((w.alloc (.cells (kl X Y).toArray 23)).alloc (.cells #[.int .u8 K, .int .i64 D, .int .i64 E, .int .u64 (P : Int), .int .u64 (Q : Int), .int .u64 (G : Int)] 28)) A B 23
      rw [World.size_alloc, World.size_alloc] at h
      rw [hW4, hN]; exact h.alloc _
    have r : HdAt W4 (N + 3) (.slice none 0 0) 0 0 0 0 0 := by
      have h := HdAt.new (((w.alloc (.cells (kl X Y).toArray 23)).alloc (.cells #[.int .u8 K, .int .i64 D, .int .i64 E, .int .u64 (P : Int), .int .u64 (Q : Int), .int .u64 (G : Int)] 28)).alloc (.cells (kl A B).toArray 23)) (.slice none 0 0) 0 0 0 0 0 60
      rw [World.size_alloc, World.size_alloc, World.size_alloc] at h
      rw [hW4, hN]; exact h
    exact ⟨k.below h (by omega), s.below h (by omega), k2.below h (by omega), r.below h (by omega), HB4.out.trans (h.mono (by omega))⟩)
  have HZ : Hid (∀ (w : World), w.there (N + 3) 0 35 → HdAt (w.setCells (N + 3) 0 (hdl (.slice none 0 0) 0 0 0 0 0)) (N + 3) (.slice none 0 0) 0 0 0 0 0) := Lib.hid (fun w h => HdAt.stored h _ _ _ _ _ _)
  have HN := Lib.hid hN
  have HW : Hid (W4 = (((w.alloc (.cells (kl X Y).toArray 23)).alloc (.cells #[.int .u8 K, .int .i64 D, .int .i64 E, .int .u64 (P : Int), .int .u64 (Q : Int), .int .u64 (G : Int)] 28)).alloc (.cells (kl A B).toArray 23)).alloc (.cells #[.slice none 0 0, .int .u64 0, .slice none 0 0, .int .u8 0, .int .u8 0, .int .u8 0, .int .u8 0, .int .u8 0, .int .u8 0, .int .u8 0, .int .u8 0, .int .u8 0, .int .u8 0, .int .u8 0, .int .u8 0, .int .u8 0, .int .u8 0, .int .u8 0, .int .u8 0, .int .u8 0, .int .u8 0, .int .u8 0, .int .u8 0, .int .u8 0, .int .u8 0, .int .u8 0, .int .u8 0, .int .u8 0, .int .u8 0, .int .u8 0, .int .u8 0, .int .u8 0, .int .u8 0, .int .u8 0, .int .u8 0] 60)) := Lib.hid (by rw [hd_zero]; exact hW4)
  rw [← hN]
  have HCk : Hid (∀ w, Calls Try.prog 39 #[.agg #[.int .u8 K, .int .i64 D, .int .i64 E, .int .u64 (P : Int), .int .u64 (Q : Int), .int .u64 (G : Int)]] w fun e w' => e = .returned (.bool true) ∧ Below w.heap.size w w') := Lib.hid (fun w => by
    have h1 := valid_any K D E P Q G w hK0 hK1 hQ
    rw [scb_yes h] at h1; exact h1)
  have HIL : Hid (∀ w1, Below (N + 4) W4 w1 → Calls Try.prog 61 #[.int .i64 D, .slice ad n c] w1 fun e w' => e = .returned (.bool false) ∧ Below w1.heap.size w1 w') := Lib.hid (fun w1 h1 => by
    have h2 := refIsList_ad D b off n c ad f w1 h.2.1 h.2.2.1 hn hc had (fun i hi => ((HB4.out.trans (h1.mono (by omega))).cell (p := ⟨b, off + i, none⟩) (by rw [HN.out]; exact World.block_lt_of_cell? w _ (hcl i hi))).trans (hcl i hi))
    rw [hl] at h2; exact h2)
  clear hN hW4 hQ h hl hcl
  go_enter Try.func21, Try.ntmps21
  go_wp2_with fail
  refine (HCk.out _).mono ?_
  rintro e w1 ⟨rfl, hb1⟩
  rw [← HW.out] at hb1
  have HB1 := Lib.hid (hb1.mono (show N + 4 ≤ _ by rw [HS4.out]; omega))
  rw [← HN.out]
  simp only [Nat.add_assoc, Nat.reduceAdd]
  clear hb1
  obtain ⟨_, ⟨c0, c1, c2, c3, c4, c5⟩, _, _, _⟩ := HEnv.out w1 HB1.out
  have HIL1 := Lib.hid (HIL.out w1 HB1.out)
  go_wp2_with fail
  refine HIL1.out.mono ?_
  rintro e w2 ⟨rfl, hb2⟩
  have HB2 := Lib.hid (HB1.out.trans (hb2.mono (by rw [← HS4.out]; exact HB1.out.size)))
  obtain ⟨_, _, _, hr, hb⟩ := HEnv.out w2 HB2.out
  have HT := Lib.hid hr.2
  have HBf := Lib.hid hb
  clear hr hb hb2 c0 c1 c2 c3 c4 c5
  obtain ⟨Wz, hWz⟩ : ∃ Wz, Wz = w2.setCells (N + 3) 0 (hdl (.slice none 0 0) 0 0 0 0 0) := ⟨_, rfl⟩
  have HWz := Lib.hid hWz
  have HZz : Hid (HdAt Wz (N + 3) (.slice none 0 0) 0 0 0 0 0) := Lib.hid (by rw [hWz]; exact HZ.out _ HT.out)
  have HBz : Hid (Below N w Wz) := Lib.hid (by rw [hWz]; exact below_setCells _ _ _ _ HBf.out (by omega))
  clear hWz HZ
  go_wp2_with (first
    | (refine wpList_build60_zero rfl rfl ?_)
    | ((refine wpList_store_hd rfl _ _ rfl (N + 3) (.slice none 0 0) 0 0 0 0 0 rfl rfl rfl HT.out ?_); rw [← HWz.out]))
  exact bodyPost_hd rfl (N + 3) _ _ _ _ _ _ _ rfl rfl HZz.out rfl ⟨rfl, HBz.out⟩

set_option maxRecDepth 100000 in
set_option maxHeartbeats 1000000 in
theorem refSeal_many (X Y A B : Nat) (K D E : Int) (P Q G m b off n c : Nat) (ad : Option Addr) (f : Nat → Int) (w : World) (hK0 : 0 ≤ K) (hK1 : K ≤ 255) (hQ : Q < M) (h : SchOk K D E P Q G) (hn : n ≤ c) (hc : c ≤ maxLen) (had : n = 0 ∨ ad = some ⟨b, off, none⟩) (hcl : ∀ i, i < n → w.cell? ⟨b, off + i, none⟩ = some (.int .i64 (f i))) (hl : lsb D n f = true) (hm : E < (n : Int)) :
    Calls Try.prog 21 #[.agg (kl X Y).toArray, .agg #[.int .u8 K, .int .i64 D, .int .i64 E, .int .u64 (P : Int), .int .u64 (Q : Int), .int .u64 (G : Int)], .slice ad n c, .agg (kl A B).toArray, .int .u64 (m : Int)] w fun e w' => e = .returned (.tuple #[.agg (hdl (.slice none 0 0) 0 0 0 0 0).toArray, .int .i64 4]) ∧ Below w.heap.size w w' := by
  obtain ⟨N, hN⟩ : ∃ N, N = w.heap.size := ⟨_, rfl⟩
  obtain ⟨W4, hW4⟩ : ∃ W4, W4 = (((w.alloc (.cells (kl X Y).toArray 23)).alloc (.cells #[.int .u8 K, .int .i64 D, .int .i64 E, .int .u64 (P : Int), .int .u64 (Q : Int), .int .u64 (G : Int)] 28)).alloc (.cells (kl A B).toArray 23)).alloc (.cells (hdl (.slice none 0 0) 0 0 0 0 0).toArray 60) := ⟨_, rfl⟩
  have HB4 : Hid (Below N w W4) := Lib.hid (by rw [hW4, hN]; exact ((((Below.refl _ _).alloc (Nat.le_refl _) _).alloc (by simp) _).alloc (by simp; omega) _).alloc (by simp; omega) _)
  have HS4 : Hid (W4.heap.size = N + 4) := Lib.hid (by rw [hW4, hN]; simp)
  have HEnv : Hid (∀ w1, Below (N + 4) W4 w1 → KeyAt w1 N X Y ∧ SchAt w1 (N + 1) K D E P Q G ∧ KeyAt w1 (N + 2) A B ∧ HdAt w1 (N + 3) (.slice none 0 0) 0 0 0 0 0 ∧ Below N w w1) := Lib.hid (fun w1 h => by
    have k : KeyAt W4 N X Y := by rw [hW4, hN]; exact (((KeyAt.new w X Y 23).alloc _).alloc _).alloc _
    have s : SchAt W4 (N + 1) K D E P Q G := by
      have h := SchAt.new (w.alloc (.cells (kl X Y).toArray 23)) K D E P Q G
      rw [World.size_alloc] at h
      rw [hW4, hN]; exact h.below (((Below.refl _ _).alloc (Nat.le_refl _) _).alloc (by simp) _) (by simp)
    have k2 : KeyAt W4 (N + 2) A B := by
      have h := KeyAt.new ((w.alloc (.cells (kl X Y).toArray 23)).alloc (.cells #[.int .u8 K, .int .i64 D, .int .i64 E, .int .u64 (P : Int), .int .u64 (Q : Int), .int .u64 (G : Int)] 28)) A B 23
      rw [World.size_alloc, World.size_alloc] at h
      rw [hW4, hN]; exact h.alloc _
    have r : HdAt W4 (N + 3) (.slice none 0 0) 0 0 0 0 0 := by
      have h := HdAt.new (((w.alloc (.cells (kl X Y).toArray 23)).alloc (.cells #[.int .u8 K, .int .i64 D, .int .i64 E, .int .u64 (P : Int), .int .u64 (Q : Int), .int .u64 (G : Int)] 28)).alloc (.cells (kl A B).toArray 23)) (.slice none 0 0) 0 0 0 0 0 60
      rw [World.size_alloc, World.size_alloc, World.size_alloc] at h
      rw [hW4, hN]; exact h
    exact ⟨k.below h (by omega), s.below h (by omega), k2.below h (by omega), r.below h (by omega), HB4.out.trans (h.mono (by omega))⟩)
  have HZ : Hid (∀ (w : World), w.there (N + 3) 0 35 → HdAt (w.setCells (N + 3) 0 (hdl (.slice none 0 0) 0 0 0 0 0)) (N + 3) (.slice none 0 0) 0 0 0 0 0) := Lib.hid (fun w h => HdAt.stored h _ _ _ _ _ _)
  have HN := Lib.hid hN
  have HW : Hid (W4 = (((w.alloc (.cells (kl X Y).toArray 23)).alloc (.cells #[.int .u8 K, .int .i64 D, .int .i64 E, .int .u64 (P : Int), .int .u64 (Q : Int), .int .u64 (G : Int)] 28)).alloc (.cells (kl A B).toArray 23)).alloc (.cells #[.slice none 0 0, .int .u64 0, .slice none 0 0, .int .u8 0, .int .u8 0, .int .u8 0, .int .u8 0, .int .u8 0, .int .u8 0, .int .u8 0, .int .u8 0, .int .u8 0, .int .u8 0, .int .u8 0, .int .u8 0, .int .u8 0, .int .u8 0, .int .u8 0, .int .u8 0, .int .u8 0, .int .u8 0, .int .u8 0, .int .u8 0, .int .u8 0, .int .u8 0, .int .u8 0, .int .u8 0, .int .u8 0, .int .u8 0, .int .u8 0, .int .u8 0, .int .u8 0, .int .u8 0, .int .u8 0, .int .u8 0] 60)) := Lib.hid (by rw [hd_zero]; exact hW4)
  rw [← hN]
  have HCk : Hid (∀ w, Calls Try.prog 39 #[.agg #[.int .u8 K, .int .i64 D, .int .i64 E, .int .u64 (P : Int), .int .u64 (Q : Int), .int .u64 (G : Int)]] w fun e w' => e = .returned (.bool true) ∧ Below w.heap.size w w') := Lib.hid (fun w => by
    have h1 := valid_any K D E P Q G w hK0 hK1 hQ
    rw [scb_yes h] at h1; exact h1)
  have HIL : Hid (∀ w1, Below (N + 4) W4 w1 → Calls Try.prog 61 #[.int .i64 D, .slice ad n c] w1 fun e w' => e = .returned (.bool true) ∧ Below w1.heap.size w1 w') := Lib.hid (fun w1 h1 => by
    have h2 := refIsList_ad D b off n c ad f w1 h.2.1 h.2.2.1 hn hc had (fun i hi => ((HB4.out.trans (h1.mono (by omega))).cell (p := ⟨b, off + i, none⟩) (by rw [HN.out]; exact World.block_lt_of_cell? w _ (hcl i hi))).trans (hcl i hi))
    rw [hl] at h2; exact h2)
  clear hN hW4 hQ h hl hcl
  go_enter Try.func21, Try.ntmps21
  go_wp2_with fail
  refine (HCk.out _).mono ?_
  rintro e w1 ⟨rfl, hb1⟩
  rw [← HW.out] at hb1
  have HB1 := Lib.hid (hb1.mono (show N + 4 ≤ _ by rw [HS4.out]; omega))
  rw [← HN.out]
  simp only [Nat.add_assoc, Nat.reduceAdd]
  clear hb1
  obtain ⟨_, ⟨c0, c1, c2, c3, c4, c5⟩, _, _, _⟩ := HEnv.out w1 HB1.out
  have HIL1 := Lib.hid (HIL.out w1 HB1.out)
  go_wp2_with fail
  refine HIL1.out.mono ?_
  rintro e w2 ⟨rfl, hb2⟩
  have HB2 := Lib.hid (HB1.out.trans (hb2.mono (by rw [← HS4.out]; exact HB1.out.size)))
  obtain ⟨_, _, _, hr, hb⟩ := HEnv.out w2 HB2.out
  have HT := Lib.hid hr.2
  have HBf := Lib.hid hb
  clear hr hb hb2 c0 c1 c2 c3 c4 c5
  obtain ⟨_, ⟨c0, c1, c2, c3, c4, c5⟩, _, _, _⟩ := HEnv.out w2 HB2.out
  obtain ⟨Wz, hWz⟩ : ∃ Wz, Wz = w2.setCells (N + 3) 0 (hdl (.slice none 0 0) 0 0 0 0 0) := ⟨_, rfl⟩
  have HWz := Lib.hid hWz
  have HZz : Hid (HdAt Wz (N + 3) (.slice none 0 0) 0 0 0 0 0) := Lib.hid (by rw [hWz]; exact HZ.out _ HT.out)
  have HBz : Hid (Below N w Wz) := Lib.hid (by rw [hWz]; exact below_setCells _ _ _ _ HBf.out (by omega))
  clear hWz HZ
  go_wp2_with (first
    | (refine wpList_build60_zero rfl rfl ?_)
    | ((refine wpList_store_hd rfl _ _ rfl (N + 3) (.slice none 0 0) 0 0 0 0 0 rfl rfl rfl HT.out ?_); rw [← HWz.out]))
  exact bodyPost_hd rfl (N + 3) _ _ _ _ _ _ _ rfl rfl HZz.out rfl ⟨rfl, HBz.out⟩

set_option maxRecDepth 100000 in
set_option maxHeartbeats 1000000 in
theorem refSeal_ok (X Y A B : Nat) (K D : Int) (E P Q G m b off n c : Nat) (ad : Option Addr) (f : Nat → Nat) (w : World) (hX : X < M) (hY : Y < M) (hA : A < M) (hB : B < M) (hm : m < M) (hK0 : 0 ≤ K) (hK1 : K ≤ 255) (hQ : Q < M) (h : SchOk K D (E : Int) P Q G) (hn : n ≤ c) (hc : c ≤ maxLen) (hnE : n ≤ E) (hnT : n ≤ 2 ^ D.toNat) (hf : ∀ i, i < n → f i < 64) (had : n = 0 ∨ ad = some ⟨b, off, none⟩) (hcl : ∀ i, i < n → w.cell? ⟨b, off + i, none⟩ = some (.int .i64 (f i : Int))) (hl : lsb D n (fun i => (f i : Int)) = true) :
    Calls Try.prog 21 #[.agg (kl X Y).toArray, .agg #[.int .u8 K, .int .i64 D, .int .i64 (E : Int), .int .u64 (P : Int), .int .u64 (Q : Int), .int .u64 (G : Int)], .slice ad n c, .agg (kl A B).toArray, .int .u64 (m : Int)] w fun e w' => (∃ g c', e = .returned (.tuple #[.agg (hdl (.slice (some ⟨g, 0, none⟩) E c') (hbase X Y P Q G m) (enc (drv 0 0 42 (pwv X Y P Q G m E 0)).1 (drv 0 0 42 (pwv X Y P Q G m E 0)).2 A B).1 (enc (drv 0 0 42 (pwv X Y P Q G m E 0)).1 (drv 0 0 42 (pwv X Y P Q G m E 0)).2 A B).2 (drv A B 53 0).1 (drv A B 53 0).2).toArray, .int .i64 0]) ∧ w.heap.size ≤ g ∧ E ≤ c' ∧ c' ≤ maxLen ∧ ∀ j v, (ptl X Y P Q G m E (2 ^ D.toNat) n f E)[j]? = some v → w'.cell? ⟨g, j, none⟩ = some v) ∧ Below w.heap.size w w' := by
  obtain ⟨N, hN⟩ : ∃ N, N = w.heap.size := ⟨_, rfl⟩
  obtain ⟨W4, hW4⟩ : ∃ W4, W4 = (((w.alloc (.cells (kl X Y).toArray 23)).alloc (.cells #[.int .u8 K, .int .i64 D, .int .i64 (E : Int), .int .u64 (P : Int), .int .u64 (Q : Int), .int .u64 (G : Int)] 28)).alloc (.cells (kl A B).toArray 23)).alloc (.cells (hdl (.slice none 0 0) 0 0 0 0 0).toArray 60) := ⟨_, rfl⟩
  have HB4 : Hid (Below N w W4) := Lib.hid (by rw [hW4, hN]; exact ((((Below.refl _ _).alloc (Nat.le_refl _) _).alloc (by simp) _).alloc (by simp; omega) _).alloc (by simp; omega) _)
  have HS4 : Hid (W4.heap.size = N + 4) := Lib.hid (by rw [hW4, hN]; simp)
  have HEnv : Hid (∀ w1, Below (N + 4) W4 w1 → KeyAt w1 N X Y ∧ SchAt w1 (N + 1) K D (E : Int) P Q G ∧ KeyAt w1 (N + 2) A B ∧ HdAt w1 (N + 3) (.slice none 0 0) 0 0 0 0 0 ∧ Below N w w1) := Lib.hid (fun w1 h => by
    have k : KeyAt W4 N X Y := by rw [hW4, hN]; exact (((KeyAt.new w X Y 23).alloc _).alloc _).alloc _
    have s : SchAt W4 (N + 1) K D (E : Int) P Q G := by
      have h := SchAt.new (w.alloc (.cells (kl X Y).toArray 23)) K D (E : Int) P Q G
      rw [World.size_alloc] at h
      rw [hW4, hN]; exact h.below (((Below.refl _ _).alloc (Nat.le_refl _) _).alloc (by simp) _) (by simp)
    have k2 : KeyAt W4 (N + 2) A B := by
      have h := KeyAt.new ((w.alloc (.cells (kl X Y).toArray 23)).alloc (.cells #[.int .u8 K, .int .i64 D, .int .i64 (E : Int), .int .u64 (P : Int), .int .u64 (Q : Int), .int .u64 (G : Int)] 28)) A B 23
      rw [World.size_alloc, World.size_alloc] at h
      rw [hW4, hN]; exact h.alloc _
    have r : HdAt W4 (N + 3) (.slice none 0 0) 0 0 0 0 0 := by
      have h := HdAt.new (((w.alloc (.cells (kl X Y).toArray 23)).alloc (.cells #[.int .u8 K, .int .i64 D, .int .i64 (E : Int), .int .u64 (P : Int), .int .u64 (Q : Int), .int .u64 (G : Int)] 28)).alloc (.cells (kl A B).toArray 23)) (.slice none 0 0) 0 0 0 0 0 60
      rw [World.size_alloc, World.size_alloc, World.size_alloc] at h
      rw [hW4, hN]; exact h
    exact ⟨k.below h (by omega), s.below h (by omega), k2.below h (by omega), r.below h (by omega), HB4.out.trans (h.mono (by omega))⟩)
  have HZ : Hid (∀ (w : World), w.there (N + 3) 0 35 → HdAt (w.setCells (N + 3) 0 (hdl (.slice none 0 0) 0 0 0 0 0)) (N + 3) (.slice none 0 0) 0 0 0 0 0) := Lib.hid (fun w h => HdAt.stored h _ _ _ _ _ _)
  have HN := Lib.hid hN
  have HW : Hid (W4 = (((w.alloc (.cells (kl X Y).toArray 23)).alloc (.cells #[.int .u8 K, .int .i64 D, .int .i64 (E : Int), .int .u64 (P : Int), .int .u64 (Q : Int), .int .u64 (G : Int)] 28)).alloc (.cells (kl A B).toArray 23)).alloc (.cells #[.slice none 0 0, .int .u64 0, .slice none 0 0, .int .u8 0, .int .u8 0, .int .u8 0, .int .u8 0, .int .u8 0, .int .u8 0, .int .u8 0, .int .u8 0, .int .u8 0, .int .u8 0, .int .u8 0, .int .u8 0, .int .u8 0, .int .u8 0, .int .u8 0, .int .u8 0, .int .u8 0, .int .u8 0, .int .u8 0, .int .u8 0, .int .u8 0, .int .u8 0, .int .u8 0, .int .u8 0, .int .u8 0, .int .u8 0, .int .u8 0, .int .u8 0, .int .u8 0, .int .u8 0, .int .u8 0, .int .u8 0] 60)) := Lib.hid (by rw [hd_zero]; exact hW4)
  rw [← hN]
  have HCk : Hid (∀ w, Calls Try.prog 39 #[.agg #[.int .u8 K, .int .i64 D, .int .i64 (E : Int), .int .u64 (P : Int), .int .u64 (Q : Int), .int .u64 (G : Int)]] w fun e w' => e = .returned (.bool true) ∧ Below w.heap.size w w') := Lib.hid (fun w => by
    have h1 := valid_any K D (E : Int) P Q G w hK0 hK1 hQ
    rw [scb_yes h] at h1; exact h1)
  have HIL : Hid (∀ w1, Below (N + 4) W4 w1 → Calls Try.prog 61 #[.int .i64 D, .slice ad n c] w1 fun e w' => e = .returned (.bool true) ∧ Below w1.heap.size w1 w') := Lib.hid (fun w1 h1 => by
    have h2 := refIsList_ad D b off n c ad (fun i => (f i : Int)) w1 h.2.1 h.2.2.1 hn hc had (fun i hi => ((HB4.out.trans (h1.mono (by omega))).cell (p := ⟨b, off + i, none⟩) (by rw [HN.out]; exact World.block_lt_of_cell? w _ (hcl i hi))).trans (hcl i hi))
    rw [hl] at h2; exact h2)
  have HSO : Hid (∀ w1, Below (N + 4) W4 w1 → N ≤ w1.heap.size → Calls Try.prog 62 #[.agg (kl X Y).toArray, .agg #[.int .u8 K, .int .i64 D, .int .i64 (E : Int), .int .u64 (P : Int), .int .u64 (Q : Int), .int .u64 (G : Int)], .slice ad n c, .agg (kl A B).toArray, .int .u64 (m : Int)] w1 fun e w' => (∃ g c', e = .returned (.agg (hdl (.slice (some ⟨g, 0, none⟩) E c') (hbase X Y P Q G m) (enc (drv 0 0 42 (pwv X Y P Q G m E 0)).1 (drv 0 0 42 (pwv X Y P Q G m E 0)).2 A B).1 (enc (drv 0 0 42 (pwv X Y P Q G m E 0)).1 (drv 0 0 42 (pwv X Y P Q G m E 0)).2 A B).2 (drv A B 53 0).1 (drv A B 53 0).2).toArray) ∧ w1.heap.size ≤ g ∧ E ≤ c' ∧ c' ≤ maxLen ∧ ∀ j v, (ptl X Y P Q G m E (2 ^ D.toNat) n f E)[j]? = some v → w'.cell? ⟨g, j, none⟩ = some v) ∧ Below w1.heap.size w1 w') := Lib.hid (fun w1 h1 _ =>
    sealOf_any X Y A B K D E P Q G m b off n c ad f w1 hX hY hA hB hm hK0 hK1 hQ h hn hc hnE hnT hf had (fun i hi => ((HB4.out.trans (h1.mono (by omega))).cell (p := ⟨b, off + i, none⟩) (by rw [HN.out]; exact World.block_lt_of_cell? w _ (hcl i hi))).trans (hcl i hi)))
  have hE1 : 1 ≤ E := by have := h.2.2.2.1; omega
  have hE8 : E ≤ 8 := by have := h.2.2.2.2.1; omega
  have hgt : decide ((E : Int) < (n : Int)) = false := decide_eq_false (by omega)
  have HLn : Hid (0 < (ptl X Y P Q G m E (2 ^ D.toNat) n f E).length) := Lib.hid (by
    obtain ⟨e, rfl⟩ : ∃ e, E = e + 1 := ⟨E - 1, by omega⟩
    rw [ptl_snoc]; simp)
  generalize hpt : ptl X Y P Q G m E (2 ^ D.toNat) n f E = pt at HSO HLn ⊢
  obtain ⟨bs, hbs⟩ : ∃ bs, bs = hbase X Y P Q G m := ⟨_, rfl⟩
  obtain ⟨EX, hEX⟩ : ∃ EX, EX = (enc (drv 0 0 42 (pwv X Y P Q G m E 0)).1 (drv 0 0 42 (pwv X Y P Q G m E 0)).2 A B).1 := ⟨_, rfl⟩
  obtain ⟨EY, hEY⟩ : ∃ EY, EY = (enc (drv 0 0 42 (pwv X Y P Q G m E 0)).1 (drv 0 0 42 (pwv X Y P Q G m E 0)).2 A B).2 := ⟨_, rfl⟩
  obtain ⟨U, hU⟩ : ∃ U, U = (drv A B 53 0).1 := ⟨_, rfl⟩
  obtain ⟨V, hV⟩ : ∃ V, V = (drv A B 53 0).2 := ⟨_, rfl⟩
  rw [← hbs, ← hEX, ← hEY, ← hU, ← hV] at HSO ⊢
  clear hN hW4 hQ h hl hcl hX hY hA hB hm hf had hpt hbs hEX hEY hU hV
  go_enter Try.func21, Try.ntmps21
  go_wp2_with fail
  refine (HCk.out _).mono ?_
  rintro e w1 ⟨rfl, hb1⟩
  rw [← HW.out] at hb1
  have HB1 := Lib.hid (hb1.mono (show N + 4 ≤ _ by rw [HS4.out]; omega))
  rw [← HN.out]
  simp only [Nat.add_assoc, Nat.reduceAdd]
  clear hb1
  obtain ⟨_, ⟨c0, c1, c2, c3, c4, c5⟩, _, _, _⟩ := HEnv.out w1 HB1.out
  have HIL1 := Lib.hid (HIL.out w1 HB1.out)
  go_wp2_with fail
  refine HIL1.out.mono ?_
  rintro e w2 ⟨rfl, hb2⟩
  have HB2 := Lib.hid (HB1.out.trans (hb2.mono (by rw [← HS4.out]; exact HB1.out.size)))
  obtain ⟨_, _, _, hr, hb⟩ := HEnv.out w2 HB2.out
  have HT := Lib.hid hr.2
  have HBf := Lib.hid hb
  clear hr hb hb2 c0 c1 c2 c3 c4 c5
  obtain ⟨k0, ⟨c0, c1, c2, c3, c4, c5⟩, k2, _, _⟩ := HEnv.out w2 HB2.out
  have HK0 := Lib.hid k0
  have HK2 := Lib.hid k2
  have HL2 : Hid (N + 4 ≤ w2.heap.size) := Lib.hid (by rw [← HS4.out]; exact HB2.out.size)
  have HSO2 := Lib.hid (HSO.out w2 HB2.out (by have := HL2.out; omega))
  clear k0 k2
  go_wp2_with (first
    | (refine wpList_load_key rfl _ rfl N rfl X Y HK0.out ?_)
    | (refine wpList_load_key rfl _ rfl (N + 2) rfl A B HK2.out ?_))
  refine HSO2.out.mono ?_
  rintro e w3 ⟨⟨g3, c3', rfl, q1, q2, q3, q4⟩, hb3⟩
  have hB3 : Below (N + 4) W4 w3 := HB2.out.trans (hb3.mono HL2.out)
  have HT3 : Hid (w3.there (N + 3) 0 35) := Lib.hid (HEnv.out w3 hB3).2.2.2.1.2
  obtain ⟨Wd, hWd⟩ : ∃ Wd, Wd = w3.setCells (N + 3) 0 (hdl (.slice (some ⟨g3, 0, none⟩) E c3') bs EX EY U V) := ⟨_, rfl⟩
  have HHd : Hid (HdAt Wd (N + 3) (.slice (some ⟨g3, 0, none⟩) E c3') bs EX EY U V) := Lib.hid (by rw [hWd]; exact HdAt.stored HT3.out _ _ _ _ _ _)
  have HFd : Hid (Below N w Wd ∧ N ≤ g3 ∧ E ≤ c3' ∧ c3' ≤ maxLen ∧ ∀ j v, pt[j]? = some v → Wd.cell? ⟨g3, j, none⟩ = some v) := Lib.hid (by
    have h1 := HL2.out
    rw [hWd]
    exact ⟨below_setCells _ _ _ _ (HEnv.out w3 hB3).2.2.2.2 (by omega), by omega, q2, q3, fun j v hj => (World.cell?_setCells_out _ _ _ _ _ (fun h _ => absurd h (by show g3 ≠ N + 3; omega))).trans (q4 j v hj)⟩)
  have HWd := Lib.hid hWd
  clear hWd hB3 hb3 q1 q2 q3 q4 c0 c1 c2 c3 c4 c5
  go_wp2_with ((refine wpList_store_hd rfl _ _ rfl (N + 3) (.slice (some ⟨g3, 0, none⟩) E c3') bs EX EY U V rfl rfl rfl HT3.out ?_); rw [← HWd.out])
  exact bodyPost_hd rfl (N + 3) _ _ _ _ _ _ _ rfl rfl HHd.out rfl ⟨⟨g3, c3', rfl, HFd.out.2.1, HFd.out.2.2.1, HFd.out.2.2.2.1, HFd.out.2.2.2.2⟩, HFd.out.1⟩
end Go.Proofs.Ytcbanemkjebdcaa
