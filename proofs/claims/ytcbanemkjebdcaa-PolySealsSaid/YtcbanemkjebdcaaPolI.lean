/-
  The secret of a receiver: the program's contract.
-/
import Derived.Test.YtcbanemkjebdcaaPolB
import Derived.Test.YtcbanemkjebdcaaPolC
import Derived.Test.YtcbanemkjebdcaaPolH
namespace Go.Proofs.Ytcbanemkjebdcaa
open Go.RowKit SP
set_option linter.unusedVariables false
set_option linter.unusedSimpArgs false

/-- The Y of a share. -/
def sval (X Y Q E u : Nat) : Nat := sm (cof X Y Q) (u + 1) (E + 1) % Q
theorem cof_lt (X Y Q i : Nat) (h : 0 < Q) : cof X Y Q i < Q := by
  unfold cof numb; rw [if_neg (by omega)]; exact Nat.mod_lt _ h

/-- Four cells of a secret. -/
structure SecAt (w : World) (b : Nat) (v0 v1 v2 v3 : Value) : Prop where
  c0 : w.cell? ⟨b, 0, none⟩ = some v0
  c1 : w.cell? ⟨b, 1, none⟩ = some v1
  c2 : w.cell? ⟨b, 2, none⟩ = some v2
  c3 : w.cell? ⟨b, 3, none⟩ = some v3
  f0 : w.frozen? ⟨b, 0, none⟩ = false
  f1 : w.frozen? ⟨b, 1, none⟩ = false
  f2 : w.frozen? ⟨b, 2, none⟩ = false
  f3 : w.frozen? ⟨b, 3, none⟩ = false
theorem SecAt.new (w : World) (v0 v1 v2 v3 : Value) (t : TypeId) : SecAt (w.alloc (.cells #[v0, v1, v2, v3] t)) w.heap.size v0 v1 v2 v3 := by
  constructor
  all_goals first
    | (rw [cell_of_row _ _ _ _ t _ (heap_alloc_new w _)]; rfl)
    | (unfold World.frozen?; rw [heap_alloc_new]; simp)
theorem SecAt.below {w w' : World} {n b : Nat} {v0 v1 v2 v3 : Value} (h : SecAt w b v0 v1 v2 v3) (hb : Below n w w') (hn : b < n) : SecAt w' b v0 v1 v2 v3 :=
  ⟨(hb.cell (p := ⟨b, 0, none⟩) hn).trans h.c0, (hb.cell (p := ⟨b, 1, none⟩) hn).trans h.c1, (hb.cell (p := ⟨b, 2, none⟩) hn).trans h.c2, (hb.cell (p := ⟨b, 3, none⟩) hn).trans h.c3,
   (hb.frozen (p := ⟨b, 0, none⟩) hn).trans h.f0, (hb.frozen (p := ⟨b, 1, none⟩) hn).trans h.f1, (hb.frozen (p := ⟨b, 2, none⟩) hn).trans h.f2, (hb.frozen (p := ⟨b, 3, none⟩) hn).trans h.f3⟩
/-- What stands there after a store. -/
def secSet (w : World) (b : Nat) (v0 v1 v2 v3 : Value) : World := (((w.setCell ⟨b, 0, none⟩ v0).setCell ⟨b, 1, none⟩ v1).setCell ⟨b, 2, none⟩ v2).setCell ⟨b, 3, none⟩ v3
theorem SecAt.set {w : World} {b : Nat} {a0 a1 a2 a3 : Value} (h : SecAt w b a0 a1 a2 a3) (v0 v1 v2 v3 : Value) : (secSet w b v0 v1 v2 v3).cell? ⟨b, 0, none⟩ = some v0 ∧ (secSet w b v0 v1 v2 v3).cell? ⟨b, 1, none⟩ = some v1 ∧ (secSet w b v0 v1 v2 v3).cell? ⟨b, 2, none⟩ = some v2 ∧ (secSet w b v0 v1 v2 v3).cell? ⟨b, 3, none⟩ = some v3 := by
  unfold secSet
  have o : ∀ (w : World) (i j : Nat) (v : Value), i ≠ j → (w.setCell ⟨b, j, none⟩ v).cell? ⟨b, i, none⟩ = w.cell? ⟨b, i, none⟩ := fun w i j v hij => World.cell?_setCell_other _ _ _ _ (by intro e; injection e with e1 e2; omega)
  have s : ∀ (w : World) (i : Nat) (v x : Value), w.cell? ⟨b, i, none⟩ = some x → (w.setCell ⟨b, i, none⟩ v).cell? ⟨b, i, none⟩ = some v := fun _ _ _ _ h => World.cell?_setCell_same _ _ _ h
  exact ⟨(o _ 0 3 _ (by decide)).trans ((o _ 0 2 _ (by decide)).trans ((o _ 0 1 _ (by decide)).trans (s _ 0 _ _ h.c0))), (o _ 1 3 _ (by decide)).trans ((o _ 1 2 _ (by decide)).trans (s _ 1 _ _ ((o _ 1 0 _ (by decide)).trans h.c1))), (o _ 2 3 _ (by decide)).trans (s _ 2 _ _ ((o _ 2 1 _ (by decide)).trans ((o _ 2 0 _ (by decide)).trans h.c2))), s _ 3 _ _ ((o _ 3 2 _ (by decide)).trans ((o _ 3 1 _ (by decide)).trans ((o _ 3 0 _ (by decide)).trans h.c3)))⟩
theorem secSet_below {w0 w : World} {n b : Nat} (h : Below n w0 w) (hb : n ≤ b) (v0 v1 v2 v3 : Value) : Below n w0 (secSet w b v0 v1 v2 v3) :=
  (((h.setCell (p := ⟨b, 0, none⟩) hb _).setCell (p := ⟨b, 1, none⟩) hb _).setCell (p := ⟨b, 2, none⟩) hb _).setCell (p := ⟨b, 3, none⟩) hb _

set_option maxRecDepth 100000 in
set_option maxHeartbeats 2000000 in
theorem secret_bad (X Y : Nat) (K D E u : Int) (P Q G : Nat) (w : World) (hK0 : 0 ≤ K) (hK1 : K ≤ 255) (hQ : Q < M) (h : ¬ SchOk K D E P Q G) :
    Calls Try.prog 17 #[.agg (kl X Y).toArray, .agg #[.int .u8 K, .int .i64 D, .int .i64 E, .int .u64 (P : Int), .int .u64 (Q : Int), .int .u64 (G : Int)], .int .i64 u] w fun e w' => e = .returned (.tuple #[.agg #[.int .i64 0, .slice none 0 0, .int .u64 0, .int .u64 0], .int .i64 30]) ∧ Below w.heap.size w w' := by
  obtain ⟨N, hN⟩ : ∃ N, N = w.heap.size := ⟨_, rfl⟩
  obtain ⟨W3, hW3⟩ : ∃ W3, W3 = ((w.alloc (.cells (kl X Y).toArray 23)).alloc (.cells #[.int .u8 K, .int .i64 D, .int .i64 E, .int .u64 (P : Int), .int .u64 (Q : Int), .int .u64 (G : Int)] 28)).alloc (.cells #[.int .i64 0, .slice none 0 0, .int .u64 0, .int .u64 0] 50) := ⟨_, rfl⟩
  have HB3 : Hid (Below N w W3) := Lib.hid (by rw [hW3, hN]; exact (((Below.refl _ _).alloc (Nat.le_refl _) _).alloc (by simp) _).alloc (by simp; omega) _)
  have HS3 : Hid (W3.heap.size = N + 3) := Lib.hid (by rw [hW3, hN]; simp)
  have HEnv : Hid (∀ w1, Below (N + 3) W3 w1 → KeyAt w1 N X Y ∧ SchAt w1 (N + 1) K D E P Q G ∧ SecAt w1 (N + 2) (.int .i64 0) (.slice none 0 0) (.int .u64 0) (.int .u64 0) ∧ Below N w w1) := Lib.hid (fun w1 h => by
    have k : KeyAt W3 N X Y := by rw [hW3, hN]; exact ((KeyAt.new w X Y 23).alloc _).alloc _
    have s : SchAt W3 (N + 1) K D E P Q G := by
      have h := SchAt.new (w.alloc (.cells (kl X Y).toArray 23)) K D E P Q G
      rw [World.size_alloc] at h
      rw [hW3, hN]; exact h.below ((Below.refl _ _).alloc (Nat.le_refl _) _) (by simp)
    have r : SecAt W3 (N + 2) (.int .i64 0) (.slice none 0 0) (.int .u64 0) (.int .u64 0) := by
      have h := SecAt.new ((w.alloc (.cells (kl X Y).toArray 23)).alloc (.cells #[.int .u8 K, .int .i64 D, .int .i64 E, .int .u64 (P : Int), .int .u64 (Q : Int), .int .u64 (G : Int)] 28)) (.int .i64 0) (.slice none 0 0) (.int .u64 0) (.int .u64 0) 50
      rw [World.size_alloc, World.size_alloc] at h
      rw [hW3, hN]; exact h
    exact ⟨k.below h (by omega), s.below h (by omega), r.below h (by omega), HB3.out.trans (h.mono (by omega))⟩)
  have HN := Lib.hid hN
  have HW := Lib.hid hW3
  rw [← hN]
  have HCk : Hid (∀ w, Calls Try.prog 11 #[.agg #[.int .u8 K, .int .i64 D, .int .i64 E, .int .u64 (P : Int), .int .u64 (Q : Int), .int .u64 (G : Int)]] w fun e w' => e = .returned (.int .i64 30) ∧ Below w.heap.size w w') := Lib.hid (fun w => by
    have h1 := check_any K D E P Q G w hK0 hK1 hQ
    rw [scc_no h] at h1; exact h1)
  clear hN hW3 hQ h
  go_enter Try.func17, Try.ntmps17
  go_wp2_with fail
  refine (HCk.out _).mono ?_
  rintro e w1 ⟨rfl, hb1⟩
  rw [← HW.out] at hb1
  obtain ⟨_, _, hr, hb⟩ := HEnv.out w1 (hb1.mono (by rw [HS3.out]; omega))
  rw [← HN.out]
  simp only [Nat.add_assoc, Nat.reduceAdd]
  have HST := Lib.hid (hr.set (.int .i64 0) (.slice none 0 0) (.int .u64 0) (.int .u64 0))
  have HBE := Lib.hid (secSet_below hb (show N ≤ N + 2 by omega) (.int .i64 0) (.slice none 0 0) (.int .u64 0) (.int .u64 0))
  obtain ⟨a0, a1, a2, a3, b0, b1, b2, b3⟩ := hr
  clear hb1 hb
  go_wp2_with fail
  obtain ⟨q0, q1, q2, q3⟩ := HST.out
  unfold secSet at q0 q1 q2 q3
  refine bodyPost_ret (by simp [results, Try.results17, q0, q1, q2, q3, go_sem]; rfl) rfl ?_
  exact ⟨rfl, HBE.out⟩

set_option maxRecDepth 100000 in
set_option maxHeartbeats 2000000 in
theorem secret_arg (X Y : Nat) (K D E u : Int) (P Q G : Nat) (w : World) (hK0 : 0 ≤ K) (hK1 : K ≤ 255) (hQ : Q < M) (h : SchOk K D E P Q G) (hu : isr D u = false) :
    Calls Try.prog 17 #[.agg (kl X Y).toArray, .agg #[.int .u8 K, .int .i64 D, .int .i64 E, .int .u64 (P : Int), .int .u64 (Q : Int), .int .u64 (G : Int)], .int .i64 u] w fun e w' => e = .returned (.tuple #[.agg #[.int .i64 0, .slice none 0 0, .int .u64 0, .int .u64 0], .int .i64 2]) ∧ Below w.heap.size w w' := by
  obtain ⟨N, hN⟩ : ∃ N, N = w.heap.size := ⟨_, rfl⟩
  obtain ⟨W3, hW3⟩ : ∃ W3, W3 = ((w.alloc (.cells (kl X Y).toArray 23)).alloc (.cells #[.int .u8 K, .int .i64 D, .int .i64 E, .int .u64 (P : Int), .int .u64 (Q : Int), .int .u64 (G : Int)] 28)).alloc (.cells #[.int .i64 0, .slice none 0 0, .int .u64 0, .int .u64 0] 50) := ⟨_, rfl⟩
  have HB3 : Hid (Below N w W3) := Lib.hid (by rw [hW3, hN]; exact (((Below.refl _ _).alloc (Nat.le_refl _) _).alloc (by simp) _).alloc (by simp; omega) _)
  have HS3 : Hid (W3.heap.size = N + 3) := Lib.hid (by rw [hW3, hN]; simp)
  have HEnv : Hid (∀ w1, Below (N + 3) W3 w1 → KeyAt w1 N X Y ∧ SchAt w1 (N + 1) K D E P Q G ∧ SecAt w1 (N + 2) (.int .i64 0) (.slice none 0 0) (.int .u64 0) (.int .u64 0) ∧ Below N w w1) := Lib.hid (fun w1 h => by
    have k : KeyAt W3 N X Y := by rw [hW3, hN]; exact ((KeyAt.new w X Y 23).alloc _).alloc _
    have s : SchAt W3 (N + 1) K D E P Q G := by
      have h := SchAt.new (w.alloc (.cells (kl X Y).toArray 23)) K D E P Q G
      rw [World.size_alloc] at h
      rw [hW3, hN]; exact h.below ((Below.refl _ _).alloc (Nat.le_refl _) _) (by simp)
    have r : SecAt W3 (N + 2) (.int .i64 0) (.slice none 0 0) (.int .u64 0) (.int .u64 0) := by
      have h := SecAt.new ((w.alloc (.cells (kl X Y).toArray 23)).alloc (.cells #[.int .u8 K, .int .i64 D, .int .i64 E, .int .u64 (P : Int), .int .u64 (Q : Int), .int .u64 (G : Int)] 28)) (.int .i64 0) (.slice none 0 0) (.int .u64 0) (.int .u64 0) 50
      rw [World.size_alloc, World.size_alloc] at h
      rw [hW3, hN]; exact h
    exact ⟨k.below h (by omega), s.below h (by omega), r.below h (by omega), HB3.out.trans (h.mono (by omega))⟩)
  have HN := Lib.hid hN
  have HW := Lib.hid hW3
  rw [← hN]
  have HCk : Hid (∀ w, Calls Try.prog 11 #[.agg #[.int .u8 K, .int .i64 D, .int .i64 E, .int .u64 (P : Int), .int .u64 (Q : Int), .int .u64 (G : Int)]] w fun e w' => e = .returned (.int .i64 0) ∧ Below w.heap.size w w') := Lib.hid (fun w => by
    have h1 := check_any K D E P Q G w hK0 hK1 hQ
    rw [scc_yes h] at h1; exact h1)
  have HRc : Hid (∀ w, Calls Try.prog 50 #[.agg #[.int .u8 K, .int .i64 D, .int .i64 E, .int .u64 (P : Int), .int .u64 (Q : Int), .int .u64 (G : Int)], .int .i64 u] w fun e w' => e = .returned (.bool false) ∧ Below w.heap.size w w') := Lib.hid (fun w => by
    have h1 := isReceiver_any K D E u P Q G w h.2.1 h.2.2.1
    rw [hu] at h1; exact h1)
  clear hN hW3 hQ h hu
  go_enter Try.func17, Try.ntmps17
  go_wp2_with fail
  refine (HCk.out _).mono ?_
  rintro e w1 ⟨rfl, hb1⟩
  rw [← HW.out] at hb1
  have HB1 := Lib.hid (hb1.mono (show N + 3 ≤ _ by rw [HS3.out]; omega))
  obtain ⟨_, ⟨c0, c1, c2, c3, c4, c5⟩, _, _⟩ := HEnv.out w1 HB1.out
  rw [← HN.out]
  simp only [Nat.add_assoc, Nat.reduceAdd]
  clear hb1
  go_wp2_with fail
  refine (HRc.out _).mono ?_
  rintro e w2 ⟨rfl, hb2⟩
  obtain ⟨_, _, hr, hb⟩ := HEnv.out w2 (HB1.out.trans (hb2.mono (by rw [← HS3.out]; exact HB1.out.size)))
  have HST := Lib.hid (hr.set (.int .i64 0) (.slice none 0 0) (.int .u64 0) (.int .u64 0))
  have HBE := Lib.hid (secSet_below hb (show N ≤ N + 2 by omega) (.int .i64 0) (.slice none 0 0) (.int .u64 0) (.int .u64 0))
  obtain ⟨a0, a1, a2, a3, b0, b1, b2, b3⟩ := hr
  clear hb2 hb c0 c1 c2 c3 c4 c5
  go_wp2_with fail
  obtain ⟨q0, q1, q2, q3⟩ := HST.out
  unfold secSet at q0 q1 q2 q3
  refine bodyPost_ret (by simp [results, Try.results17, q0, q1, q2, q3, go_sem]; rfl) rfl ?_
  exact ⟨rfl, HBE.out⟩

set_option maxRecDepth 100000 in
set_option maxHeartbeats 2000000 in
theorem secret_ok (X Y : Nat) (K D : Int) (E P Q G u : Nat) (w : World) (hX : X < M) (hY : Y < M) (hK0 : 0 ≤ K) (hK1 : K ≤ 255) (hQ : Q < M) (h : SchOk K D (E : Int) P Q G) (hu : isr D (u : Int) = true) :
    Calls Try.prog 17 #[.agg (kl X Y).toArray, .agg #[.int .u8 K, .int .i64 D, .int .i64 (E : Int), .int .u64 (P : Int), .int .u64 (Q : Int), .int .u64 (G : Int)], .int .i64 (u : Int)] w fun e w' => e = .returned (.tuple #[.agg #[.int .i64 (u : Int), .slice none 0 0, .int .u64 ((u + 1 : Nat) : Int), .int .u64 (sval X Y Q E u : Int)], .int .i64 0]) ∧ Below w.heap.size w w' := by
  obtain ⟨N, hN⟩ : ∃ N, N = w.heap.size := ⟨_, rfl⟩
  obtain ⟨W3, hW3⟩ : ∃ W3, W3 = ((w.alloc (.cells (kl X Y).toArray 23)).alloc (.cells #[.int .u8 K, .int .i64 D, .int .i64 (E : Int), .int .u64 (P : Int), .int .u64 (Q : Int), .int .u64 (G : Int)] 28)).alloc (.cells #[.int .i64 0, .slice none 0 0, .int .u64 0, .int .u64 0] 50) := ⟨_, rfl⟩
  have HB3 : Hid (Below N w W3) := Lib.hid (by rw [hW3, hN]; exact (((Below.refl _ _).alloc (Nat.le_refl _) _).alloc (by simp) _).alloc (by simp; omega) _)
  have HS3 : Hid (W3.heap.size = N + 3) := Lib.hid (by rw [hW3, hN]; simp)
  have HEnv : Hid (∀ w1, Below (N + 3) W3 w1 → KeyAt w1 N X Y ∧ SchAt w1 (N + 1) K D (E : Int) P Q G ∧ SecAt w1 (N + 2) (.int .i64 0) (.slice none 0 0) (.int .u64 0) (.int .u64 0) ∧ Below N w w1) := Lib.hid (fun w1 h => by
    have k : KeyAt W3 N X Y := by rw [hW3, hN]; exact ((KeyAt.new w X Y 23).alloc _).alloc _
    have s : SchAt W3 (N + 1) K D (E : Int) P Q G := by
      have h := SchAt.new (w.alloc (.cells (kl X Y).toArray 23)) K D (E : Int) P Q G
      rw [World.size_alloc] at h
      rw [hW3, hN]; exact h.below ((Below.refl _ _).alloc (Nat.le_refl _) _) (by simp)
    have r : SecAt W3 (N + 2) (.int .i64 0) (.slice none 0 0) (.int .u64 0) (.int .u64 0) := by
      have h := SecAt.new ((w.alloc (.cells (kl X Y).toArray 23)).alloc (.cells #[.int .u8 K, .int .i64 D, .int .i64 (E : Int), .int .u64 (P : Int), .int .u64 (Q : Int), .int .u64 (G : Int)] 28)) (.int .i64 0) (.slice none 0 0) (.int .u64 0) (.int .u64 0) 50
      rw [World.size_alloc, World.size_alloc] at h
      rw [hW3, hN]; exact h
    exact ⟨k.below h (by omega), s.below h (by omega), r.below h (by omega), HB3.out.trans (h.mono (by omega))⟩)
  have HN := Lib.hid hN
  have HW := Lib.hid hW3
  rw [← hN]
  have HCk : Hid (∀ w, Calls Try.prog 11 #[.agg #[.int .u8 K, .int .i64 D, .int .i64 (E : Int), .int .u64 (P : Int), .int .u64 (Q : Int), .int .u64 (G : Int)]] w fun e w' => e = .returned (.int .i64 0) ∧ Below w.heap.size w w') := Lib.hid (fun w => by
    have h1 := check_any K D (E : Int) P Q G w hK0 hK1 hQ
    rw [scc_yes h] at h1; exact h1)
  have HRc : Hid (∀ w, Calls Try.prog 50 #[.agg #[.int .u8 K, .int .i64 D, .int .i64 (E : Int), .int .u64 (P : Int), .int .u64 (Q : Int), .int .u64 (G : Int)], .int .i64 (u : Int)] w fun e w' => e = .returned (.bool true) ∧ Below w.heap.size w w') := Lib.hid (fun w => by
    have h1 := isReceiver_any K D (E : Int) (u : Int) P Q G w h.2.1 h.2.2.1
    rw [hu] at h1; exact h1)
  have hu64 : u < 64 := by
    have h1 : 0 ≤ (u : Int) ∧ (u : Int) < ((2 ^ D.toNat : Nat) : Int) := of_decide_eq_true hu
    have h2 := pw6 D h.2.1 h.2.2.1
    omega
  have hE8 : E ≤ 8 := by have := h.2.2.2.2.1; omega
  have hg := h.2.2.2.2.2.1
  have hq2 : 2 ≤ Q := hg.2.2.2.1.1
  have hq3 : Q ≤ 1048575 := hg.2.2.1
  have HSx := Lib.hid (fun w => shareX_any u w (by omega))
  have HSp := Lib.hid (fun w => secretPoly_any X Y K D E P Q G w hX hY hE8)
  obtain ⟨x, hx⟩ : ∃ x, x = u + 1 := ⟨_, rfl⟩
  obtain ⟨y, hy⟩ : ∃ y, y = sval X Y Q E u := ⟨_, rfl⟩
  have HAt : Hid (∀ w g c, E + 1 ≤ c → c ≤ maxLen → (∀ i, i < E + 1 → w.cell? ⟨g, i, none⟩ = some (.int .u64 (cof X Y Q i : Int))) → Calls Try.prog 43 #[.agg #[.int .u64 (Q : Int), .slice (some ⟨g, 0, none⟩) (E + 1 : Nat) c], .int .u64 (x : Int)] w fun e w' => e = .returned (.int .u64 (y : Int)) ∧ Below w.heap.size w w') := Lib.hid (fun w g c e1 e2 e3 => by
    have h1 := at_any Q g (E + 1) c x (cof X Y Q) w hq2 hq3 (by omega) (fun i _ => by have := cof_lt X Y Q i (by omega); omega) (by omega) e1 e2 e3
    rw [hx, show sm (cof X Y Q) (u + 1) (E + 1) % Q = y by rw [hy]; rfl, ← hx] at h1
    exact h1)
  rw [← hx] at HSx ⊢
  rw [← hy]
  clear hN hW3 hQ h hu hX hY hg hq2 hq3 hx hy
  go_enter Try.func17, Try.ntmps17
  go_wp2_with fail
  refine (HCk.out _).mono ?_
  rintro e w1 ⟨rfl, hb1⟩
  rw [← HW.out] at hb1
  have HB1 := Lib.hid (hb1.mono (show N + 3 ≤ _ by rw [HS3.out]; omega))
  obtain ⟨_, ⟨c0, c1, c2, c3, c4, c5⟩, _, _⟩ := HEnv.out w1 HB1.out
  rw [← HN.out]
  simp only [Nat.add_assoc, Nat.reduceAdd]
  clear hb1
  go_wp2_with fail
  refine (HRc.out _).mono ?_
  rintro e w2 ⟨rfl, hb2⟩
  have HB2 := Lib.hid (HB1.out.trans (hb2.mono (show N + 3 ≤ _ by rw [← HS3.out]; exact HB1.out.size)))
  clear hb2 c0 c1 c2 c3 c4 c5
  have HK2 := Lib.hid (HEnv.out w2 HB2.out).1
  obtain ⟨_, ⟨c0, c1, c2, c3, c4, c5⟩, _, _⟩ := HEnv.out w2 HB2.out
  go_wp2_with fail
  refine (HSx.out _).mono ?_
  rintro e w' ⟨rfl, rfl⟩
  go_wp2_with (refine wpList_load_key rfl _ rfl _ rfl X Y HK2.out ?_)
  refine (HSp.out _).mono ?_
  rintro e w3 ⟨⟨g, c, rfl, g1, g2, g3, g4⟩, hb3⟩
  have HB3' := Lib.hid (HB2.out.trans (hb3.mono (show N + 3 ≤ _ by rw [← HS3.out]; exact HB2.out.size)))
  have HA := Lib.hid (HAt.out w3 g c g2 g3 g4)
  clear hb3 c0 c1 c2 c3 c4 c5 g1 g2 g3 g4
  go_wp2_with fail
  refine HA.out.mono ?_
  rintro e w4 ⟨rfl, hb4⟩
  have HB4 := Lib.hid (HB3'.out.trans (hb4.mono (show N + 3 ≤ _ by rw [← HS3.out]; exact HB3'.out.size)))
  have HB5 := Lib.hid (HB4.out.alloc (by rw [← HS3.out]; exact HB4.out.size) (.cells #[.int .u64 (x : Int), .int .u64 (y : Int)] 46))
  clear hb4
  obtain ⟨_, _, hr, hb⟩ := HEnv.out _ HB5.out
  have HST := Lib.hid (hr.set (.int .i64 (u : Int)) (.slice none 0 0) (.int .u64 (x : Int)) (.int .u64 (y : Int)))
  have HBE := Lib.hid (secSet_below hb (show N ≤ N + 2 by omega) (.int .i64 (u : Int)) (.slice none 0 0) (.int .u64 (x : Int)) (.int .u64 (y : Int)))
  obtain ⟨a0, a1, a2, a3, b0, b1, b2, b3⟩ := hr
  clear hb
  go_wp2_with fail
  obtain ⟨q0, q1, q2, q3⟩ := HST.out
  unfold secSet at q0 q1 q2 q3
  refine bodyPost_ret (by simp [results, Try.results17, q0, q1, q2, q3, go_sem]; rfl) rfl ?_
  exact ⟨rfl, HBE.out⟩
end Go.Proofs.Ytcbanemkjebdcaa
