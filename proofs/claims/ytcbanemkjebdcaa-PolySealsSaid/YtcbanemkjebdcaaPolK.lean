/-
  The secret of a receiver: the specification's contract.
-/
import Derived.Test.YtcbanemkjebdcaaPolJ
namespace Go.Proofs.Ytcbanemkjebdcaa
open Go.RowKit SP
set_option linter.unusedVariables false
set_option linter.unusedSimpArgs false

set_option maxRecDepth 100000 in
set_option maxHeartbeats 2000000 in
theorem refSecret_bad (X Y : Nat) (K D E u : Int) (P Q G : Nat) (w : World) (hK0 : 0 ≤ K) (hK1 : K ≤ 255) (hQ : Q < M) (h : ¬ SchOk K D E P Q G) :
    Calls Try.prog 18 #[.agg (kl X Y).toArray, .agg #[.int .u8 K, .int .i64 D, .int .i64 E, .int .u64 (P : Int), .int .u64 (Q : Int), .int .u64 (G : Int)], .int .i64 u] w fun e w' => e = .returned (.tuple #[.agg #[.int .i64 0, .slice none 0 0, .int .u64 0, .int .u64 0], .int .i64 30]) ∧ Below w.heap.size w w' := by
  obtain ⟨N, hN⟩ : ∃ N, N = w.heap.size := ⟨_, rfl⟩
  obtain ⟨W3, hW3⟩ : ∃ W3, W3 = ((w.alloc (.cells (kl X Y).toArray 23)).alloc (.cells #[.int .u8 K, .int .i64 D, .int .i64 E, .int .u64 (P : Int), .int .u64 (Q : Int), .int .u64 (G : Int)] 28)).alloc (.cells #[.int .i64 0, .slice none 0 0, .int .u64 0, .int .u64 0] 50) := ⟨_, rfl⟩
  have HB3 : Hid (Below N w W3) := Lib.hid (by rw [hW3, hN]; exact (((Below.refl _ _).alloc (Nat.le_refl _) _).alloc (by simp) _).alloc (by simp; omega) _)
  have HS3 : Hid (W3.heap.size = N + 3) := Lib.hid (by rw [hW3, hN]; simp)
  have HEnv : Hid (∀ w1, Below (N + 3) W3 w1 → KeyAt w1 N X Y ∧ SchAt w1 (N + 1) K D E P Q G ∧ SecAt w1 (N + 2) (.int .i64 0) (.slice none 0 0) (.int .u64 0) (.int .u64 0) ∧ Below N w w1) := Lib.hid (fun w1 h => by
    have k : KeyAt W3 N X Y := by rw [hW3, hN]; exact ((KeyAt.new w X Y 23).alloc _).alloc _
    have s : SchAt W3 (N + 1) K D E P Q G := by
      have h := SchAt.new (w.alloc (.cells (kl X Y).toArray 23)) K D E P Q G
      rw [World.size_alloc] at h
      rw [hW3, hN]; exact h.below ((Below.refl _ _).alloc (Nat.le_refl _) _) (by simp)
    have r : SecAt W3 (N + 2) (.int .i64 0) (.slice none 0 0) (.int .u64 0) (.int .u64 0) := by
      have h := SecAt.new ((w.alloc (.cells (kl X Y).toArray 23)).alloc (.cells #[.int .u8 K, .int .i64 D, .int .i64 E, .int .u64 (P : Int), .int .u64 (Q : Int), .int .u64 (G : Int)] 28)) (.int .i64 0) (.slice none 0 0) (.int .u64 0) (.int .u64 0) 50
      rw [World.size_alloc, World.size_alloc] at h
      rw [hW3, hN]; exact h
    exact ⟨k.below h (by omega), s.below h (by omega), r.below h (by omega), HB3.out.trans (h.mono (by omega))⟩)
  have HN := Lib.hid hN
  have HW := Lib.hid hW3
  rw [← hN]
  have HCk : Hid (∀ w, Calls Try.prog 39 #[.agg #[.int .u8 K, .int .i64 D, .int .i64 E, .int .u64 (P : Int), .int .u64 (Q : Int), .int .u64 (G : Int)]] w fun e w' => e = .returned (.bool false) ∧ Below w.heap.size w w') := Lib.hid (fun w => by
    have h1 := valid_any K D E P Q G w hK0 hK1 hQ
    rw [scb_no h] at h1; exact h1)
  clear hN hW3 hQ h
  go_enter Try.func18, Try.ntmps18
  go_wp2_with fail
  refine (HCk.out _).mono ?_
  rintro e w1 ⟨rfl, hb1⟩
  rw [← HW.out] at hb1
  obtain ⟨_, _, hr, hb⟩ := HEnv.out w1 (hb1.mono (by rw [HS3.out]; omega))
  rw [← HN.out]
  simp only [Nat.add_assoc, Nat.reduceAdd]
  have HST := Lib.hid (hr.set (.int .i64 0) (.slice none 0 0) (.int .u64 0) (.int .u64 0))
  have HBE := Lib.hid (secSet_below hb (show N ≤ N + 2 by omega) (.int .i64 0) (.slice none 0 0) (.int .u64 0) (.int .u64 0))
  obtain ⟨a0, a1, a2, a3, b0, b1, b2, b3⟩ := hr
  clear hb1 hb
  go_wp2_with fail
  obtain ⟨q0, q1, q2, q3⟩ := HST.out
  unfold secSet at q0 q1 q2 q3
  refine bodyPost_ret (by simp [results, Try.results18, q0, q1, q2, q3, go_sem]; rfl) rfl ?_
  exact ⟨rfl, HBE.out⟩

set_option maxRecDepth 100000 in
set_option maxHeartbeats 2000000 in
theorem refSecret_arg (X Y : Nat) (K D E u : Int) (P Q G : Nat) (w : World) (hK0 : 0 ≤ K) (hK1 : K ≤ 255) (hQ : Q < M) (h : SchOk K D E P Q G) (hu : isr D u = false) :
    Calls Try.prog 18 #[.agg (kl X Y).toArray, .agg #[.int .u8 K, .int .i64 D, .int .i64 E, .int .u64 (P : Int), .int .u64 (Q : Int), .int .u64 (G : Int)], .int .i64 u] w fun e w' => e = .returned (.tuple #[.agg #[.int .i64 0, .slice none 0 0, .int .u64 0, .int .u64 0], .int .i64 2]) ∧ Below w.heap.size w w' := by
  obtain ⟨N, hN⟩ : ∃ N, N = w.heap.size := ⟨_, rfl⟩
  obtain ⟨W3, hW3⟩ : ∃ W3, W3 = ((w.alloc (.cells (kl X Y).toArray 23)).alloc (.cells #[.int .u8 K, .int .i64 D, .int .i64 E, .int .u64 (P : Int), .int .u64 (Q : Int), .int .u64 (G : Int)] 28)).alloc (.cells #[.int .i64 0, .slice none 0 0, .int .u64 0, .int .u64 0] 50) := ⟨_, rfl⟩
  have HB3 : Hid (Below N w W3) := Lib.hid (by rw [hW3, hN]; exact (((Below.refl _ _).alloc (Nat.le_refl _) _).alloc (by simp) _).alloc (by simp; omega) _)
  have HS3 : Hid (W3.heap.size = N + 3) := Lib.hid (by rw [hW3, hN]; simp)
  have HEnv : Hid (∀ w1, Below (N + 3) W3 w1 → KeyAt w1 N X Y ∧ SchAt w1 (N + 1) K D E P Q G ∧ SecAt w1 (N + 2) (.int .i64 0) (.slice none 0 0) (.int .u64 0) (.int .u64 0) ∧ Below N w w1) := Lib.hid (fun w1 h => by
    have k : KeyAt W3 N X Y := by rw [hW3, hN]; exact ((KeyAt.new w X Y 23).alloc _).alloc _
    have s : SchAt W3 (N + 1) K D E P Q G := by
      have h := SchAt.new (w.alloc (.cells (kl X Y).toArray 23)) K D E P Q G
      rw [World.size_alloc] at h
      rw [hW3, hN]; exact h.below ((Below.refl _ _).alloc (Nat.le_refl _) _) (by simp)
    have r : SecAt W3 (N + 2) (.int .i64 0) (.slice none 0 0) (.int .u64 0) (.int .u64 0) := by
      have h := SecAt.new ((w.alloc (.cells (kl X Y).toArray 23)).alloc (.cells #[.int .u8 K, .int .i64 D, .int .i64 E, .int .u64 (P : Int), .int .u64 (Q : Int), .int .u64 (G : Int)] 28)) (.int .i64 0) (.slice none 0 0) (.int .u64 0) (.int .u64 0) 50
      rw [World.size_alloc, World.size_alloc] at h
      rw [hW3, hN]; exact h
    exact ⟨k.below h (by omega), s.below h (by omega), r.below h (by omega), HB3.out.trans (h.mono (by omega))⟩)
  have HN := Lib.hid hN
  have HW := Lib.hid hW3
  rw [← hN]
  have HCk : Hid (∀ w, Calls Try.prog 39 #[.agg #[.int .u8 K, .int .i64 D, .int .i64 E, .int .u64 (P : Int), .int .u64 (Q : Int), .int .u64 (G : Int)]] w fun e w' => e = .returned (.bool true) ∧ Below w.heap.size w w') := Lib.hid (fun w => by
    have h1 := valid_any K D E P Q G w hK0 hK1 hQ
    rw [scb_yes h] at h1; exact h1)
  have HRc := Lib.hid (fun w => receivers_any D w h.2.1 h.2.2.1)
  have hur : u < 0 ∨ (0 ≤ u ∧ ((2 ^ D.toNat : Nat) : Int) ≤ u) := by
    have h1 : ¬ (0 ≤ u ∧ u < ((2 ^ D.toNat : Nat) : Int)) := of_decide_eq_false hu
    omega
  generalize 2 ^ D.toNat = T at HRc hur
  clear hN hW3 hQ h hu
  go_enter Try.func18, Try.ntmps18
  go_wp2_with fail
  refine (HCk.out _).mono ?_
  rintro e w1 ⟨rfl, hb1⟩
  rw [← HW.out] at hb1
  have HB1 := Lib.hid (hb1.mono (show N + 3 ≤ _ by rw [HS3.out]; omega))
  obtain ⟨_, ⟨c0, c1, c2, c3, c4, c5⟩, hr, hb⟩ := HEnv.out w1 HB1.out
  rw [← HN.out]
  simp only [Nat.add_assoc, Nat.reduceAdd]
  have HST := Lib.hid (hr.set (.int .i64 0) (.slice none 0 0) (.int .u64 0) (.int .u64 0))
  have HBE := Lib.hid (secSet_below hb (show N ≤ N + 2 by omega) (.int .i64 0) (.slice none 0 0) (.int .u64 0) (.int .u64 0))
  obtain ⟨a0, a1, a2, a3, b0, b1, b2, b3⟩ := hr
  clear hb1 hb
  rcases hur with hu0 | ⟨hu0, hu1⟩
  · go_wp2_with fail
    obtain ⟨q0, q1, q2, q3⟩ := HST.out
    unfold secSet at q0 q1 q2 q3
    refine bodyPost_ret (by simp [results, Try.results18, q0, q1, q2, q3, go_sem]; rfl) rfl ?_
    exact ⟨rfl, HBE.out⟩
  · go_wp2_with fail
    refine (HRc.out _).mono ?_
    rintro e w' ⟨rfl, rfl⟩
    go_wp2_with fail
    obtain ⟨q0, q1, q2, q3⟩ := HST.out
    unfold secSet at q0 q1 q2 q3
    refine bodyPost_ret (by simp [results, Try.results18, q0, q1, q2, q3, go_sem]; rfl) rfl ?_
    exact ⟨rfl, HBE.out⟩

set_option maxRecDepth 100000 in
set_option maxHeartbeats 2000000 in
theorem refSecret_ok (X Y : Nat) (K D : Int) (E P Q G u : Nat) (w : World) (hX : X < M) (hY : Y < M) (hK0 : 0 ≤ K) (hK1 : K ≤ 255) (hQ : Q < M) (h : SchOk K D (E : Int) P Q G) (hu : isr D (u : Int) = true) :
    Calls Try.prog 18 #[.agg (kl X Y).toArray, .agg #[.int .u8 K, .int .i64 D, .int .i64 (E : Int), .int .u64 (P : Int), .int .u64 (Q : Int), .int .u64 (G : Int)], .int .i64 (u : Int)] w fun e w' => e = .returned (.tuple #[.agg #[.int .i64 (u : Int), .slice none 0 0, .int .u64 ((u + 1 : Nat) : Int), .int .u64 (sval X Y Q E u : Int)], .int .i64 0]) ∧ Below w.heap.size w w' := by
  obtain ⟨N, hN⟩ : ∃ N, N = w.heap.size := ⟨_, rfl⟩
  obtain ⟨W3, hW3⟩ : ∃ W3, W3 = ((w.alloc (.cells (kl X Y).toArray 23)).alloc (.cells #[.int .u8 K, .int .i64 D, .int .i64 (E : Int), .int .u64 (P : Int), .int .u64 (Q : Int), .int .u64 (G : Int)] 28)).alloc (.cells #[.int .i64 0, .slice none 0 0, .int .u64 0, .int .u64 0] 50) := ⟨_, rfl⟩
  have HB3 : Hid (Below N w W3) := Lib.hid (by rw [hW3, hN]; exact (((Below.refl _ _).alloc (Nat.le_refl _) _).alloc (by simp) _).alloc (by simp; omega) _)
  have HS3 : Hid (W3.heap.size = N + 3) := Lib.hid (by rw [hW3, hN]; simp)
  have HEnv : Hid (∀ w1, Below (N + 3) W3 w1 → KeyAt w1 N X Y ∧ SchAt w1 (N + 1) K D (E : Int) P Q G ∧ SecAt w1 (N + 2) (.int .i64 0) (.slice none 0 0) (.int .u64 0) (.int .u64 0) ∧ Below N w w1) := Lib.hid (fun w1 h => by
    have k : KeyAt W3 N X Y := by rw [hW3, hN]; exact ((KeyAt.new w X Y 23).alloc _).alloc _
    have s : SchAt W3 (N + 1) K D (E : Int) P Q G := by
      have h := SchAt.new (w.alloc (.cells (kl X Y).toArray 23)) K D (E : Int) P Q G
      rw [World.size_alloc] at h
      rw [hW3, hN]; exact h.below ((Below.refl _ _).alloc (Nat.le_refl _) _) (by simp)
    have r : SecAt W3 (N + 2) (.int .i64 0) (.slice none 0 0) (.int .u64 0) (.int .u64 0) := by
      have h := SecAt.new ((w.alloc (.cells (kl X Y).toArray 23)).alloc (.cells #[.int .u8 K, .int .i64 D, .int .i64 (E : Int), .int .u64 (P : Int), .int .u64 (Q : Int), .int .u64 (G : Int)] 28)) (.int .i64 0) (.slice none 0 0) (.int .u64 0) (.int .u64 0) 50
      rw [World.size_alloc, World.size_alloc] at h
      rw [hW3, hN]; exact h
    exact ⟨k.below h (by omega), s.below h (by omega), r.below h (by omega), HB3.out.trans (h.mono (by omega))⟩)
  have HN := Lib.hid hN
  have HW := Lib.hid hW3
  rw [← hN]
  have HCk : Hid (∀ w, Calls Try.prog 39 #[.agg #[.int .u8 K, .int .i64 D, .int .i64 (E : Int), .int .u64 (P : Int), .int .u64 (Q : Int), .int .u64 (G : Int)]] w fun e w' => e = .returned (.bool true) ∧ Below w.heap.size w w') := Lib.hid (fun w => by
    have h1 := valid_any K D (E : Int) P Q G w hK0 hK1 hQ
    rw [scb_yes h] at h1; exact h1)
  have HRc := Lib.hid (fun w => receivers_any D w h.2.1 h.2.2.1)
  have h6 := pw6 D h.2.1 h.2.2.1
  have hur : (u : Int) < ((2 ^ D.toNat : Nat) : Int) := (of_decide_eq_true hu).2
  have hE8 : E ≤ 8 := by have := h.2.2.2.2.1; omega
  have hg := h.2.2.2.2.2.1
  have hq2 : 2 ≤ Q := hg.2.2.2.1.1
  have hq3 : Q ≤ 1048575 := hg.2.2.1
  generalize 2 ^ D.toNat = T at HRc hur h6
  have HSo := Lib.hid (fun w => secretOf_any X Y K D E P Q G u w hX hY hE8 hq2 hq3 (by omega))
  obtain ⟨x, hx⟩ : ∃ x, x = u + 1 := ⟨_, rfl⟩
  obtain ⟨y, hy⟩ : ∃ y, y = sval X Y Q E u := ⟨_, rfl⟩
  rw [← hx, ← hy] at HSo ⊢
  clear hN hW3 hQ h hu hX hY hg hq2 hq3 hx hy h6
  go_enter Try.func18, Try.ntmps18
  go_wp2_with fail
  refine (HCk.out _).mono ?_
  rintro e w1 ⟨rfl, hb1⟩
  rw [← HW.out] at hb1
  have HB1 := Lib.hid (hb1.mono (show N + 3 ≤ _ by rw [HS3.out]; omega))
  have HK1 := Lib.hid (HEnv.out w1 HB1.out).1
  obtain ⟨_, ⟨c0, c1, c2, c3, c4, c5⟩, _, _⟩ := HEnv.out w1 HB1.out
  rw [← HN.out]
  simp only [Nat.add_assoc, Nat.reduceAdd]
  clear hb1
  go_wp2_with fail
  refine (HRc.out _).mono ?_
  rintro e w' ⟨rfl, rfl⟩
  go_wp2_with (refine wpList_load_key rfl _ rfl _ rfl X Y HK1.out ?_)
  refine (HSo.out _).mono ?_
  rintro e w3 ⟨rfl, hb3⟩
  obtain ⟨_, _, hr, hb⟩ := HEnv.out w3 (HB1.out.trans (hb3.mono (show N + 3 ≤ _ by rw [← HS3.out]; exact HB1.out.size)))
  have HST := Lib.hid (hr.set (.int .i64 (u : Int)) (.slice none 0 0) (.int .u64 (x : Int)) (.int .u64 (y : Int)))
  have HBE := Lib.hid (secSet_below hb (show N ≤ N + 2 by omega) (.int .i64 (u : Int)) (.slice none 0 0) (.int .u64 (x : Int)) (.int .u64 (y : Int)))
  obtain ⟨a0, a1, a2, a3, b0, b1, b2, b3⟩ := hr
  clear hb hb3 c0 c1 c2 c3 c4 c5
  go_wp2_with fail
  obtain ⟨q0, q1, q2, q3⟩ := HST.out
  unfold secSet at q0 q1 q2 q3
  refine bodyPost_ret (by simp [results, Try.results18, q0, q1, q2, q3, go_sem]; rfl) rfl ?_
  exact ⟨rfl, HBE.out⟩

set_option maxRecDepth 100000 in
set_option maxHeartbeats 2000000 in
theorem sameSecret_any (r x y : Int) (w : World) :
    Calls Try.prog 19 #[.agg #[.int .i64 r, .slice none 0 0, .int .u64 x, .int .u64 y], .agg #[.int .i64 r, .slice none 0 0, .int .u64 x, .int .u64 y]] w fun e w' => e = .returned (.bool true) ∧ Below w.heap.size w w' := by
  go_enter Try.func19, Try.ntmps19
  go_wp2_with fail
  refine wp_loop_rounds 1 ?_
  rw [rounds_succ]
  go_wp2_with fail
  go_ret
  exact ⟨rfl, ((Below.refl _ _).alloc (Nat.le_refl _) _).alloc (by simp) _⟩
end Go.Proofs.Ytcbanemkjebdcaa
