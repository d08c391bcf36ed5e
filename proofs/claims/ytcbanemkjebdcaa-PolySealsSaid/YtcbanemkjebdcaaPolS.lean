/-
  Seal, the program's: what it answers where it refuses.
-/
import Derived.Test.YtcbanemkjebdcaaPolR
namespace Go.Proofs.Ytcbanemkjebdcaa
open Go.RowKit SP
set_option linter.unusedVariables false
set_option linter.unusedSimpArgs false

set_option maxRecDepth 100000 in
set_option maxHeartbeats 500000 in
theorem seal_scheme (X Y A B : Nat) (K D E : Int) (P Q G m b off n c : Nat) (w : World) (hK0 : 0 ≤ K) (hK1 : K ≤ 255) (hQ : Q < M) (h : ¬ SchOk K D E P Q G) :
    Calls Try.prog 20 #[.agg (kl X Y).toArray, .agg #[.int .u8 K, .int .i64 D, .int .i64 E, .int .u64 (P : Int), .int .u64 (Q : Int), .int .u64 (G : Int)], .slice (some ⟨b, off, none⟩) n c, .agg (kl A B).toArray, .int .u64 (m : Int)] w fun e w' => e = .returned (.tuple #[.agg (hdl (.slice none 0 0) 0 0 0 0 0).toArray, .int .i64 30]) ∧ Below w.heap.size w w' := by
  obtain ⟨N, hN⟩ : ∃ N, N = w.heap.size := ⟨_, rfl⟩
  obtain ⟨W4, hW4⟩ : ∃ W4, W4 = (((w.alloc (.cells (kl X Y).toArray 23)).alloc (.cells #[.int .u8 K, .int .i64 D, .int .i64 E, .int .u64 (P : Int), .int .u64 (Q : Int), .int .u64 (G : Int)] 28)).alloc (.cells (kl A B).toArray 23)).alloc (.cells (hdl (.slice none 0 0) 0 0 0 0 0).toArray 60) := ⟨_, rfl⟩
  have HB4 : Hid (Below N w W4) := Lib.hid (by rw [hW4, hN]; exact ((((Below.refl _ _).alloc (Nat.le_refl _) _).alloc (by simp) _).alloc (by simp; omega) _).alloc (by simp; omega) _)
  have HS4 : Hid (W4.heap.size = N + 4) := Lib.hid (by rw [hW4, hN]; simp)
  have HEnv : Hid (∀ w1, Below (N + 4) W4 w1 → KeyAt w1 N X Y ∧ SchAt w1 (N + 1) K D E P Q G ∧ KeyAt w1 (N + 2) A B ∧ HdAt w1 (N + 3) (.slice none 0 0) 0 0 0 0 0 ∧ Below N w w1) := Lib.hid (fun w1 h => by
    have k : KeyAt W4 N X Y := by rw [hW4, hN]; exact (((KeyAt.new w X Y 23).alloc _).alloc _).alloc _
    have s : SchAt W4 (N + 1) K D E P Q G := by
      have h := SchAt.new (w.alloc (.cells (kl X Y).toArray 23)) K D E P Q G
      rw [World.size_alloc] at h
      rw [hW4, hN]; exact h.below (((Below.refl _ _).alloc (Nat.le_refl _) _).alloc (by simp) _) (by simp)
    have k2 : KeyAt W4 (N + 2) A B := by
      have h := KeyAt.new ((w.alloc (.cells (kl X Y).toArray 23)).alloc (.cells #[.int .u8 K, .int .i64 D, .int .i64 E, .int .u64 (P : Int), .int .u64 (Q : Int), .int .u64 (G : Int)] 28)) A B 23
      rw [World.size_alloc, World.size_alloc] at h
      rw [hW4, hN]; exact h.alloc _
    have r : HdAt W4 (N + 3) (.slice none 0 0) 0 0 0 0 0 := by
      have h := HdAt.new (((w.alloc (.cells (kl X Y).toArray 23)).alloc (.cells #[.int .u8 K, .int .i64 D, .int .i64 E, .int .u64 (P : Int), .int .u64 (Q : Int), .int .u64 (G : Int)] 28)).alloc (.cells (kl A B).toArray 23)) (.slice none 0 0) 0 0 0 0 0 60
      rw [World.size_alloc, World.size_alloc, World.size_alloc] at h
      rw [hW4, hN]; exact h
    exact ⟨k.below h (by omega), s.below h (by omega), k2.below h (by omega), r.below h (by omega), HB4.out.trans (h.mono (by omega))⟩)
  have HZ : Hid (∀ (w : World), w.there (N + 3) 0 35 → HdAt (w.setCells (N + 3) 0 (hdl (.slice none 0 0) 0 0 0 0 0)) (N + 3) (.slice none 0 0) 0 0 0 0 0) := Lib.hid (fun w h => HdAt.stored h _ _ _ _ _ _)
  have HN := Lib.hid hN
  have HW : Hid (W4 = (((w.alloc (.cells (kl X Y).toArray 23)).alloc (.cells #[.int .u8 K, .int .i64 D, .int .i64 E, .int .u64 (P : Int), .int .u64 (Q : Int), .int .u64 (G : Int)] 28)).alloc (.cells (kl A B).toArray 23)).alloc (.cells #[.slice none 0 0, .int .u64 0, .slice none 0 0, .int .u8 0, .int .u8 0, .int .u8 0, .int .u8 0, .int .u8 0, .int .u8 0, .int .u8 0, .int .u8 0, .int .u8 0, .int .u8 0, .int .u8 0, .int .u8 0, .int .u8 0, .int .u8 0, .int .u8 0, .int .u8 0, .int .u8 0, .int .u8 0, .int .u8 0, .int .u8 0, .int .u8 0, .int .u8 0, .int .u8 0, .int .u8 0, .int .u8 0, .int .u8 0, .int .u8 0, .int .u8 0, .int .u8 0, .int .u8 0, .int .u8 0, .int .u8 0] 60)) := Lib.hid (by rw [hd_zero]; exact hW4)
  rw [← hN]
  have HCk : Hid (∀ w, Calls Try.prog 11 #[.agg #[.int .u8 K, .int .i64 D, .int .i64 E, .int .u64 (P : Int), .int .u64 (Q : Int), .int .u64 (G : Int)]] w fun e w' => e = .returned (.int .i64 30) ∧ Below w.heap.size w w') := Lib.hid (fun w => by
    have h1 := check_any K D E P Q G w hK0 hK1 hQ
    rw [scc_no h] at h1; exact h1)
  clear hN hW4 hQ h
  go_enter Try.func20, Try.ntmps20
  go_wp2_with fail
  refine (HCk.out _).mono ?_
  rintro e w1 ⟨rfl, hb1⟩
  rw [← HW.out] at hb1
  have HB1 := Lib.hid (hb1.mono (show N + 4 ≤ _ by rw [HS4.out]; omega))
  rw [← HN.out]
  simp only [Nat.add_assoc, Nat.reduceAdd]
  clear hb1
  obtain ⟨_, _, _, hr, hb⟩ := HEnv.out w1 HB1.out
  have HT := Lib.hid hr.2
  have HBf := Lib.hid hb
  clear hr hb
  obtain ⟨Wz, hWz⟩ : ∃ Wz, Wz = w1.setCells (N + 3) 0 (hdl (.slice none 0 0) 0 0 0 0 0) := ⟨_, rfl⟩
  have HWz := Lib.hid hWz
  have HZz : Hid (HdAt Wz (N + 3) (.slice none 0 0) 0 0 0 0 0) := Lib.hid (by rw [hWz]; exact HZ.out _ HT.out)
  have HBz : Hid (Below N w Wz) := Lib.hid (by rw [hWz]; exact below_setCells _ _ _ _ HBf.out (by omega))
  clear hWz HZ
  go_wp2_with (first
    | (refine wpList_build60_zero rfl rfl ?_)
    | ((refine wpList_store_hd rfl _ _ rfl (N + 3) (.slice none 0 0) 0 0 0 0 0 rfl rfl rfl HT.out ?_); rw [← HWz.out]))
  exact bodyPost_hd rfl (N + 3) _ _ _ _ _ _ _ rfl rfl HZz.out rfl ⟨rfl, HBz.out⟩

set_option maxRecDepth 100000 in
set_option maxHeartbeats 500000 in
theorem seal_arg (X Y A B : Nat) (K D E : Int) (P Q G m b off n c : Nat) (f : Nat → Int) (w : World) (hK0 : 0 ≤ K) (hK1 : K ≤ 255) (hQ : Q < M) (h : SchOk K D E P Q G) (hn : n ≤ c) (hc : c ≤ maxLen) (hcl : ∀ i, i < n → w.cell? ⟨b, off + i, none⟩ = some (.int .i64 (f i))) (hl : lsb D n f = false) :
    Calls Try.prog 20 #[.agg (kl X Y).toArray, .agg #[.int .u8 K, .int .i64 D, .int .i64 E, .int .u64 (P : Int), .int .u64 (Q : Int), .int .u64 (G : Int)], .slice (some ⟨b, off, none⟩) n c, .agg (kl A B).toArray, .int .u64 (m : Int)] w fun e w' => e = .returned (.tuple #[.agg (hdl (.slice none 0 0) 0 0 0 0 0).toArray, .int .i64 2]) ∧ Below w.heap.size w w' := by
  obtain ⟨N, hN⟩ : ∃ N, N = w.heap.size := ⟨_, rfl⟩
  obtain ⟨W4, hW4⟩ : ∃ W4, W4 = (((w.alloc (.cells (kl X Y).toArray 23)).alloc (.cells #[.int .u8 K, .int .i64 D, .int .i64 E, .int .u64 (P : Int), .int .u64 (Q : Int), .int .u64 (G : Int)] 28)).alloc (.cells (kl A B).toArray 23)).alloc (.cells (hdl (.slice none 0 0) 0 0 0 0 0).toArray 60) := ⟨_, rfl⟩
  have HB4 : Hid (Below N w W4) := Lib.hid (by rw [hW4, hN]; exact ((((Below.refl _ _).alloc (Nat.le_refl _) _).alloc (by simp) _).alloc (by simp; omega) _).alloc (by simp; omega) _)
  have HS4 : Hid (W4.heap.size = N + 4) := Lib.hid (by rw [hW4, hN]; simp)
  have HEnv : Hid (∀ w1, Below (N + 4) W4 w1 → KeyAt w1 N X Y ∧ SchAt w1 (N + 1) K D E P Q G ∧ KeyAt w1 (N + 2) A B ∧ HdAt w1 (N + 3) (.slice none 0 0) 0 0 0 0 0 ∧ Below N w w1) := Lib.hid (fun w1 h => by
    have k : KeyAt W4 N X Y := by rw [hW4, hN]; exact (((KeyAt.new w X Y 23).alloc _).alloc _).alloc _
    have s : SchAt W4 (N + 1) K D E P Q G := by
      have h := SchAt.new (w.alloc (.cells (kl X Y).toArray 23)) K D E P Q G
      rw [World.size_alloc] at h
      rw [hW4, hN]; exact h.below (((Below.refl _ _).alloc (Nat.le_refl _) _).alloc (by simp) _) (by simp)
    have k2 : KeyAt W4 (N + 2) A B := by
      have h := KeyAt.new ((w.alloc (.cells (kl X Y).toArray 23)).alloc (.cells #[.int .u8 K, .int .i64 D, .int .i64 E, .int .u64 (P : Int), .int .u64 (Q : Int), .int .u64 (G : Int)] 28)) A B 23
      rw [World.size_alloc, World.size_alloc] at h
      rw [hW4, hN]; exact h.alloc _
    have r : HdAt W4 (N + 3) (.slice none 0 0) 0 0 0 0 0 := by
      have h := HdAt.new (((w.alloc (.cells (kl X Y).toArray 23)).alloc (.cells #[.int .u8 K, .int .i64 D, .int .i64 E, .int .u64 (P : Int), .int .u64 (Q : Int), .int .u64 (G : Int)] 28)).alloc (.cells (kl A B).toArray 23)) (.slice none 0 0) 0 0 0 0 0 60
      rw [World.size_alloc, World.size_alloc, World.size_alloc] at h
      rw [hW4, hN]; exact h
    exact ⟨k.below h (by omega), s.below h (by omega), k2.below h (by omega), r.below h (by omega), HB4.out.trans (h.mono (by omega))⟩)
  have HZ : Hid (∀ (w : World), w.there (N + 3) 0 35 → HdAt (w.setCells (N + 3) 0 (hdl (.slice none 0 0) 0 0 0 0 0)) (N + 3) (.slice none 0 0) 0 0 0 0 0) := Lib.hid (fun w h => HdAt.stored h _ _ _ _ _ _)
  have HN := Lib.hid hN
  have HW : Hid (W4 = (((w.alloc (.cells (kl X Y).toArray 23)).alloc (.cells #[.int .u8 K, .int .i64 D, .int .i64 E, .int .u64 (P : Int), .int .u64 (Q : Int), .int .u64 (G : Int)] 28)).alloc (.cells (kl A B).toArray 23)).alloc (.cells #[.slice none 0 0, .int .u64 0, .slice none 0 0, .int .u8 0, .int .u8 0, .int .u8 0, .int .u8 0, .int .u8 0, .int .u8 0, .int .u8 0, .int .u8 0, .int .u8 0, .int .u8 0, .int .u8 0, .int .u8 0, .int .u8 0, .int .u8 0, .int .u8 0, .int .u8 0, .int .u8 0, .int .u8 0, .int .u8 0, .int .u8 0, .int .u8 0, .int .u8 0, .int .u8 0, .int .u8 0, .int .u8 0, .int .u8 0, .int .u8 0, .int .u8 0, .int .u8 0, .int .u8 0, .int .u8 0, .int .u8 0] 60)) := Lib.hid (by rw [hd_zero]; exact hW4)
  rw [← hN]
  have HCk : Hid (∀ w, Calls Try.prog 11 #[.agg #[.int .u8 K, .int .i64 D, .int .i64 E, .int .u64 (P : Int), .int .u64 (Q : Int), .int .u64 (G : Int)]] w fun e w' => e = .returned (.int .i64 0) ∧ Below w.heap.size w w') := Lib.hid (fun w => by
    have h1 := check_any K D E P Q G w hK0 hK1 hQ
    rw [scc_yes h] at h1; exact h1)
  have HIL : Hid (∀ w1, Below (N + 4) W4 w1 → Calls Try.prog 54 #[.agg #[.int .u8 K, .int .i64 D, .int .i64 E, .int .u64 (P : Int), .int .u64 (Q : Int), .int .u64 (G : Int)], .slice (some ⟨b, off, none⟩) n c] w1 fun e w' => e = .returned (.bool false) ∧ Below w1.heap.size w1 w') := Lib.hid (fun w1 h1 => by
    have h2 := isList_any K D E P Q G b off n c f w1 h.2.1 h.2.2.1 hn hc (fun i hi => ((HB4.out.trans (h1.mono (by omega))).cell (p := ⟨b, off + i, none⟩) (by rw [HN.out]; exact World.block_lt_of_cell? w _ (hcl i hi))).trans (hcl i hi))
    rw [hl] at h2; exact h2)
  clear hN hW4 hQ h hl hcl
  go_enter Try.func20, Try.ntmps20
  go_wp2_with fail
  refine (HCk.out _).mono ?_
  rintro e w1 ⟨rfl, hb1⟩
  rw [← HW.out] at hb1
  have HB1 := Lib.hid (hb1.mono (show N + 4 ≤ _ by rw [HS4.out]; omega))
  rw [← HN.out]
  simp only [Nat.add_assoc, Nat.reduceAdd]
  clear hb1
  obtain ⟨_, ⟨c0, c1, c2, c3, c4, c5⟩, _, _, _⟩ := HEnv.out w1 HB1.out
  have HIL1 := Lib.hid (HIL.out w1 HB1.out)
  go_wp2_with fail
  refine HIL1.out.mono ?_
  rintro e w2 ⟨rfl, hb2⟩
  have HB2 := Lib.hid (HB1.out.trans (hb2.mono (by rw [← HS4.out]; exact HB1.out.size)))
  obtain ⟨_, _, _, hr, hb⟩ := HEnv.out w2 HB2.out
  have HT := Lib.hid hr.2
  have HBf := Lib.hid hb
  clear hr hb hb2 c0 c1 c2 c3 c4 c5
  obtain ⟨Wz, hWz⟩ : ∃ Wz, Wz = w2.setCells (N + 3) 0 (hdl (.slice none 0 0) 0 0 0 0 0) := ⟨_, rfl⟩
  have HWz := Lib.hid hWz
  have HZz : Hid (HdAt Wz (N + 3) (.slice none 0 0) 0 0 0 0 0) := Lib.hid (by rw [hWz]; exact HZ.out _ HT.out)
  have HBz : Hid (Below N w Wz) := Lib.hid (by rw [hWz]; exact below_setCells _ _ _ _ HBf.out (by omega))
  clear hWz HZ
  go_wp2_with (first
    | (refine wpList_build60_zero rfl rfl ?_)
    | ((refine wpList_store_hd rfl _ _ rfl (N + 3) (.slice none 0 0) 0 0 0 0 0 rfl rfl rfl HT.out ?_); rw [← HWz.out]))
  exact bodyPost_hd rfl (N + 3) _ _ _ _ _ _ _ rfl rfl HZz.out rfl ⟨rfl, HBz.out⟩

set_option maxRecDepth 100000 in
set_option maxHeartbeats 500000 in
theorem seal_many (X Y A B : Nat) (K D E : Int) (P Q G m b off n c : Nat) (f : Nat → Int) (w : World) (hK0 : 0 ≤ K) (hK1 : K ≤ 255) (hQ : Q < M) (h : SchOk K D E P Q G) (hn : n ≤ c) (hc : c ≤ maxLen) (hcl : ∀ i, i < n → w.cell? ⟨b, off + i, none⟩ = some (.int .i64 (f i))) (hl : lsb D n f = true) (hm : E < (n : Int)) :
    Calls Try.prog 20 #[.agg (kl X Y).toArray, .agg #[.int .u8 K, .int .i64 D, .int .i64 E, .int .u64 (P : Int), .int .u64 (Q : Int), .int .u64 (G : Int)], .slice (some ⟨b, off, none⟩) n c, .agg (kl A B).toArray, .int .u64 (m : Int)] w fun e w' => e = .returned (.tuple #[.agg (hdl (.slice none 0 0) 0 0 0 0 0).toArray, .int .i64 4]) ∧ Below w.heap.size w w' := by
  obtain ⟨N, hN⟩ : ∃ N, N = w.heap.size := ⟨_, rfl⟩
  obtain ⟨W4, hW4⟩ : ∃ W4, W4 = (((w.alloc (.cells (kl X Y).toArray 23)).alloc (.cells #[.int .u8 K, .int .i64 D, .int .i64 E, .int .u64 (P : Int), .int .u64 (Q : Int), .int .u64 (G : Int)] 28)).alloc (.cells (kl A B).toArray 23)).alloc (.cells (hdl (.slice none 0 0) 0 0 0 0 0).toArray 60) := ⟨_, rfl⟩
  have HB4 : Hid (Below N w W4) := Lib.hid (by rw [hW4, hN]; exact ((((Below.refl _ _).alloc (Nat.le_refl _) _).alloc (by simp) _).alloc (by simp; omega) _).alloc (by simp; omega) _)
  have HS4 : Hid (W4.heap.size = N + 4) := Lib.hid (by rw [hW4, hN]; simp)
  have HEnv : Hid (∀ w1, Below (N + 4) W4 w1 → KeyAt w1 N X Y ∧ SchAt w1 (N + 1) K D E P Q G ∧ KeyAt w1 (N + 2) A B ∧ HdAt w1 (N + 3) (.slice none 0 0) 0 0 0 0 0 ∧ Below N w w1) := Lib.hid (fun w1 h => by
    have k : KeyAt W4 N X Y := by rw [hW4, hN]; exact (((KeyAt.new w X Y 23).alloc _).alloc _).alloc _
    have s : SchAt W4 (N + 1) K D E P Q G := by
      have h := SchAt.new (w.alloc (.cells (kl X Y).toArray 23)) K D E P Q G
      rw [World.size_alloc] at h
      rw [hW4, hN]; exact h.below (((Below.refl _ _).alloc (Nat.le_refl _) _).alloc (by simp) _) (by simp)
    have k2 : KeyAt W4 (N + 2) A B := by
      have h := KeyAt.new ((w.alloc (.cells (kl X Y).toArray 23)).alloc (.cells #[.int .u8 K, .int .i64 D, .int .i64 E, .int .u64 (P : Int), .int .u64 (Q : Int), .int .u64 (G : Int)] 28)) A B 23
      rw [World.size_alloc, World.size_alloc] at h
      rw [hW4, hN]; exact h.alloc _
    have r : HdAt W4 (N + 3) (.slice none 0 0) 0 0 0 0 0 := by
      have h := HdAt.new (((w.alloc (.cells (kl X Y).toArray 23)).alloc (.cells #[.int .u8 K, .int .i64 D, .int .i64 E, .int .u64 (P : Int), .int .u64 (Q : Int), .int .u64 (G : Int)] 28)).alloc (.cells (kl A B).toArray 23)) (.slice none 0 0) 0 0 0 0 0 60
      rw [World.size_alloc, World.size_alloc, World.size_alloc] at h
      rw [hW4, hN]; exact h
    exact ⟨k.below h (by omega), s.below h (by omega), k2.below h (by omega), r.below h (by omega), HB4.out.trans (h.mono (by omega))⟩)
  have HZ : Hid (∀ (w : World), w.there (N + 3) 0 35 → HdAt (w.setCells (N + 3) 0 (hdl (.slice none 0 0) 0 0 0 0 0)) (N + 3) (.slice none 0 0) 0 0 0 0 0) := Lib.hid (fun w h => HdAt.stored h _ _ _ _ _ _)
  have HN := Lib.hid hN
  have HW : Hid (W4 = (((w.alloc (.cells (kl X Y).toArray 23)).alloc (.cells #[.int .u8 K, .int .i64 D, .int .i64 E, .int .u64 (P : Int), .int .u64 (Q : Int), .int .u64 (G : Int)] 28)).alloc (.cells (kl A B).toArray 23)).alloc (.cells #[.slice none 0 0, .int .u64 0, .slice none 0 0, .int .u8 0, .int .u8 0, .int .u8 0, .int .u8 0, .int .u8 0, .int .u8 0, .int .u8 0, .int .u8 0, .int .u8 0, .int .u8 0, .int .u8 0, .int .u8 0, .int .u8 0, .int .u8 0, .int .u8 0, .int .u8 0, .int .u8 0, .int .u8 0, .int .u8 0, .int .u8 0, .int .u8 0, .int .u8 0, .int .u8 0, .int .u8 0, .int .u8 0, .int .u8 0, .int .u8 0, .int .u8 0, .int .u8 0, .int .u8 0, .int .u8 0, .int .u8 0] 60)) := Lib.hid (by rw [hd_zero]; exact hW4)
  rw [← hN]
  have HCk : Hid (∀ w, Calls Try.prog 11 #[.agg #[.int .u8 K, .int .i64 D, .int .i64 E, .int .u64 (P : Int), .int .u64 (Q : Int), .int .u64 (G : Int)]] w fun e w' => e = .returned (.int .i64 0) ∧ Below w.heap.size w w') := Lib.hid (fun w => by
    have h1 := check_any K D E P Q G w hK0 hK1 hQ
    rw [scc_yes h] at h1; exact h1)
  have HIL : Hid (∀ w1, Below (N + 4) W4 w1 → Calls Try.prog 54 #[.agg #[.int .u8 K, .int .i64 D, .int .i64 E, .int .u64 (P : Int), .int .u64 (Q : Int), .int .u64 (G : Int)], .slice (some ⟨b, off, none⟩) n c] w1 fun e w' => e = .returned (.bool true) ∧ Below w1.heap.size w1 w') := Lib.hid (fun w1 h1 => by
    have h2 := isList_any K D E P Q G b off n c f w1 h.2.1 h.2.2.1 hn hc (fun i hi => ((HB4.out.trans (h1.mono (by omega))).cell (p := ⟨b, off + i, none⟩) (by rw [HN.out]; exact World.block_lt_of_cell? w _ (hcl i hi))).trans (hcl i hi))
    rw [hl] at h2; exact h2)
  clear hN hW4 hQ h hl hcl
  go_enter Try.func20, Try.ntmps20
  go_wp2_with fail
  refine (HCk.out _).mono ?_
  rintro e w1 ⟨rfl, hb1⟩
  rw [← HW.out] at hb1
  have HB1 := Lib.hid (hb1.mono (show N + 4 ≤ _ by rw [HS4.out]; omega))
  rw [← HN.out]
  simp only [Nat.add_assoc, Nat.reduceAdd]
  clear hb1
  obtain ⟨_, ⟨c0, c1, c2, c3, c4, c5⟩, _, _, _⟩ := HEnv.out w1 HB1.out
  have HIL1 := Lib.hid (HIL.out w1 HB1.out)
  go_wp2_with fail
  refine HIL1.out.mono ?_
  rintro e w2 ⟨rfl, hb2⟩
  have HB2 := Lib.hid (HB1.out.trans (hb2.mono (by rw [← HS4.out]; exact HB1.out.size)))
  obtain ⟨_, _, _, hr, hb⟩ := HEnv.out w2 HB2.out
  have HT := Lib.hid hr.2
  have HBf := Lib.hid hb
  clear hr hb hb2 c0 c1 c2 c3 c4 c5
  obtain ⟨_, ⟨c0, c1, c2, c3, c4, c5⟩, _, _, _⟩ := HEnv.out w2 HB2.out
  obtain ⟨Wz, hWz⟩ : ∃ Wz, Wz = w2.setCells (N + 3) 0 (hdl (.slice none 0 0) 0 0 0 0 0) := ⟨_, rfl⟩
  have HWz := Lib.hid hWz
  have HZz : Hid (HdAt Wz (N + 3) (.slice none 0 0) 0 0 0 0 0) := Lib.hid (by rw [hWz]; exact HZ.out _ HT.out)
  have HBz : Hid (Below N w Wz) := Lib.hid (by rw [hWz]; exact below_setCells _ _ _ _ HBf.out (by omega))
  clear hWz HZ
  go_wp2_with (first
    | (refine wpList_build60_zero rfl rfl ?_)
    | ((refine wpList_store_hd rfl _ _ rfl (N + 3) (.slice none 0 0) 0 0 0 0 0 rfl rfl rfl HT.out ?_); rw [← HWz.out]))
  exact bodyPost_hd rfl (N + 3) _ _ _ _ _ _ _ rfl rfl HZz.out rfl ⟨rfl, HBz.out⟩

end Go.Proofs.Ytcbanemkjebdcaa
