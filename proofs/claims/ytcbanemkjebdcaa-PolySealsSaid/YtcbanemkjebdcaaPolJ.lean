/-
  The secret of a receiver: the specification's contracts.
-/
import Derived.Test.YtcbanemkjebdcaaPolI
namespace Go.Proofs.Ytcbanemkjebdcaa
open Go.RowKit SP
set_option linter.unusedVariables false
set_option linter.unusedSimpArgs false

set_option maxRecDepth 100000 in
set_option maxHeartbeats 2000000 in
theorem secretOf_any (X Y : Nat) (K D : Int) (E P Q G u : Nat) (w : World) (hX : X < M) (hY : Y < M) (hE8 : E ≤ 8) (hq2 : 2 ≤ Q) (hq3 : Q ≤ 1048575) (hu64 : u < 64) :
    Calls Try.prog 53 #[.agg (kl X Y).toArray, .agg #[.int .u8 K, .int .i64 D, .int .i64 (E : Int), .int .u64 (P : Int), .int .u64 (Q : Int), .int .u64 (G : Int)], .int .i64 (u : Int)] w fun e w' => e = .returned (.agg #[.int .i64 (u : Int), .slice none 0 0, .int .u64 ((u + 1 : Nat) : Int), .int .u64 (sval X Y Q E u : Int)]) ∧ Below w.heap.size w w' := by
  obtain ⟨N, hN⟩ : ∃ N, N = w.heap.size := ⟨_, rfl⟩
  obtain ⟨W3, hW3⟩ : ∃ W3, W3 = ((w.alloc (.cells (kl X Y).toArray 23)).alloc (.cells #[.int .u8 K, .int .i64 D, .int .i64 (E : Int), .int .u64 (P : Int), .int .u64 (Q : Int), .int .u64 (G : Int)] 28)).alloc (.cells #[.int .i64 0, .slice none 0 0, .int .u64 0, .int .u64 0] 50) := ⟨_, rfl⟩
  have HB3 : Hid (Below N w W3) := Lib.hid (by rw [hW3, hN]; exact (((Below.refl _ _).alloc (Nat.le_refl _) _).alloc (by simp) _).alloc (by simp; omega) _)
  have HS3 : Hid (W3.heap.size = N + 3) := Lib.hid (by rw [hW3, hN]; simp)
  have HEnv : Hid (∀ w1, Below (N + 3) W3 w1 → KeyAt w1 N X Y ∧ SchAt w1 (N + 1) K D (E : Int) P Q G ∧ SecAt w1 (N + 2) (.int .i64 0) (.slice none 0 0) (.int .u64 0) (.int .u64 0) ∧ Below N w w1) := Lib.hid (fun w1 h => by
    have k : KeyAt W3 N X Y := by rw [hW3, hN]; exact ((KeyAt.new w X Y 23).alloc _).alloc _
    have s : SchAt W3 (N + 1) K D (E : Int) P Q G := by
      have h := SchAt.new (w.alloc (.cells (kl X Y).toArray 23)) K D (E : Int) P Q G
      rw [World.size_alloc] at h
      rw [hW3, hN]; exact h.below ((Below.refl _ _).alloc (Nat.le_refl _) _) (by simp)
    have r : SecAt W3 (N + 2) (.int .i64 0) (.slice none 0 0) (.int .u64 0) (.int .u64 0) := by
      have h := SecAt.new ((w.alloc (.cells (kl X Y).toArray 23)).alloc (.cells #[.int .u8 K, .int .i64 D, .int .i64 (E : Int), .int .u64 (P : Int), .int .u64 (Q : Int), .int .u64 (G : Int)] 28)) (.int .i64 0) (.slice none 0 0) (.int .u64 0) (.int .u64 0) 50
      rw [World.size_alloc, World.size_alloc] at h
      rw [hW3, hN]; exact h
    exact ⟨k.below h (by omega), s.below h (by omega), r.below h (by omega), HB3.out.trans (h.mono (by omega))⟩)
  have HN := Lib.hid hN
  have HW := Lib.hid hW3
  rw [← hN]
  have HCo := Lib.hid (fun w => coefOf_any X Y K D E P Q G w hX hY hE8)
  obtain ⟨x, hx⟩ : ∃ x, x = u + 1 := ⟨_, rfl⟩
  obtain ⟨y, hy⟩ : ∃ y, y = sval X Y Q E u := ⟨_, rfl⟩
  have HAt : Hid (∀ w g c, E + 1 ≤ c → c ≤ maxLen → (∀ i, i < E + 1 → w.cell? ⟨g, i, none⟩ = some (.int .u64 (cof X Y Q i : Int))) → Calls Try.prog 45 #[.int .u64 (Q : Int), .slice (some ⟨g, 0, none⟩) (E + 1 : Nat) c, .int .u64 (x : Int)] w fun e w' => e = .returned (.int .u64 (y : Int)) ∧ w = w') := Lib.hid (fun w g c e1 e2 e3 => by
    have h1 := valueOf_any Q g (E + 1) c x (cof X Y Q) w hq2 hq3 (by omega) (fun i _ => by have := cof_lt X Y Q i (by omega); omega) e1 e2 e3
    rw [hx, show sm (cof X Y Q) (u + 1) (E + 1) % Q = y by rw [hy]; rfl, ← hx] at h1
    exact h1)
  have hx1 : (u : Int) + 1 = (x : Int) := by omega
  rw [← hx, ← hy]
  have HX1 := Lib.hid hx1
  clear hN hW3 hX hY hq2 hq3 hx hy hx1
  go_enter Try.func53, Try.ntmps53
  go_wp2_with fail
  rw [HX1.out, ← HW.out, ← HN.out]
  simp only [Nat.add_assoc, Nat.reduceAdd]
  refine wp_region_inv (by kernel_rfl) (by kernel_rfl) (fun l a' w' => ∃ (g c : Nat) (w1 : World), a' = { tmps := #[Value.agg (kl X Y).toArray, Value.agg #[.int .u8 K, .int .i64 D, .int .i64 (E : Int), .int .u64 (P : Int), .int .u64 (Q : Int), .int .u64 (G : Int)], Value.int .i64 (u : Int), Value.pointer (some ⟨N, 0, none⟩), Value.pointer (some ⟨N + 1, 0, none⟩), undef, Value.pointer (some ⟨N + 2, 0, none⟩), Value.int .u64 (x : Int), Value.int .i64 (u : Int), Value.int .u64 (u : Int), Value.int .u64 (x : Int), bif l 0 then Value.int .i64 (u : Int) else undef, bif l 1 then Value.int .u64 (x : Int) else undef, bif l 2 then Value.pointer (some ⟨N + 1, 3, none⟩) else undef, bif l 3 then Value.pointer (some ⟨N + 1, 4, none⟩) else undef, bif l 4 then Value.int .u64 (Q : Int) else undef, bif l 5 then Value.agg (kl X Y).toArray else undef, bif l 6 then Value.agg #[.int .u8 K, .int .i64 D, .int .i64 (E : Int), .int .u64 (P : Int), .int .u64 (Q : Int), .int .u64 (G : Int)] else undef, bif l 7 then Value.slice (some ⟨g, 0, none⟩) (E + 1 : Nat) c else undef, bif l 8 then Value.int .u64 (x : Int) else undef, bif l 9 then Value.int .u64 (y : Int) else undef, bif l 10 then Value.agg #[.int .u64 (x : Int), .int .u64 (y : Int)] else undef, bif l 11 then Value.agg #[.int .i64 (u : Int), .slice none 0 0, .int .u64 (x : Int), .int .u64 (y : Int)] else undef], defers := [] } ∧ Below (N + 3) W3 w1 ∧ (l 7 = true → E + 1 ≤ c ∧ c ≤ maxLen ∧ ∀ i, i < E + 1 → w1.cell? ⟨g, i, none⟩ = some (.int .u64 (cof X Y Q i : Int))) ∧ w' = (bif l 12 then secSet w1 (N + 2) (.int .i64 (u : Int)) (.slice none 0 0) (.int .u64 (x : Int)) (.int .u64 (y : Int)) else w1) ∧ (l 12 = true → ∀ j, j < 12 → l j = true)) ⟨0, 0, _, rfl, (Below.refl _ _).drew, (fun h => by cases h), rfl, (fun h => by cases h)⟩ ?_ ?_
  · rintro l a' w' i ⟨g, c, w1, rfl, hB, c3, hw, o11⟩ hi' hli hpre
    have hi2 : i < 13 := hi'
    have n12 : l 12 = false := by
      by_cases h11 : i = 12
      · rw [← h11]; exact hli
      · cases h : l 12; rfl; exact absurd (o11 h i (by omega)) (by rw [hli]; decide)
    rw [n12, cond_false] at hw
    subst hw
    have hL : N + 3 ≤ w'.heap.size := by rw [← HS3.out]; exact hB.size
    have hcase : i = 0 ∨ i = 1 ∨ i = 2 ∨ i = 3 ∨ i = 4 ∨ i = 5 ∨ i = 6 ∨ i = 7 ∨ i = 8 ∨ i = 9 ∨ i = 10 ∨ i = 11 ∨ i = 12 := by omega
    clear hi' hi2 o11
    obtain ⟨zk, ⟨s0, s1, s2, s3, s4, s5⟩, ⟨r0, r1, r2, r3, f0, f1, f2, f3⟩, _⟩ := HEnv.out _ hB
    rcases hcase with rfl | rfl | rfl | rfl | rfl | rfl | rfl | rfl | rfl | rfl | rfl | rfl | rfl
    · -- 0: Op.move (Operand.tmp 2)
      refine wpOp_step rfl (fun K' hK => ?_)
      clear hpre
      rw [if_pos (by rfl)]
      go_simp
      exact hK _ _ ⟨g, c, _, by simp [upd, Act.put], hB, (fun e => c3 (by simpa [upd] using e)), by simp [upd, n12], (fun e => absurd e (by simp [upd, n12]))⟩
    · -- 1: Op.move (Operand.tmp 7)
      refine wpOp_step rfl (fun K' hK => ?_)
      clear hpre
      rw [if_pos (by rfl)]
      go_simp
      exact hK _ _ ⟨g, c, _, by simp [upd, Act.put], hB, (fun e => c3 (by simpa [upd] using e)), by simp [upd, n12], (fun e => absurd e (by simp [upd, n12]))⟩
    · -- 2: Op.fieldAddr 28 (Operand.tmp 4) 3
      refine wpOp_step rfl (fun K' hK => ?_)
      clear hpre
      rw [if_pos (by rfl)]
      go_simp
      exact hK _ _ ⟨g, c, _, by simp [upd, Act.put], hB, (fun e => c3 (by simpa [upd] using e)), by simp [upd, n12], (fun e => absurd e (by simp [upd, n12]))⟩
    · -- 3: Op.fieldAddr 26 (Operand.tmp 13) 1
      have p2 : l 2 = true := hpre _ rfl ⟨2, .data⟩ (by simp) rfl
      refine wpOp_step rfl (fun K' hK => ?_)
      simp only [p2, cond_true, cond_false]
      clear hpre
      rw [if_pos (by rfl)]
      go_simp
      exact hK _ _ ⟨g, c, _, by simp [upd, Act.put, p2], hB, (fun e => c3 (by simpa [upd] using e)), by simp [upd, n12], (fun e => absurd e (by simp [upd, n12]))⟩
    · -- 4: Op.load 24 (Operand.tmp 14)
      have p3 : l 3 = true := hpre _ rfl ⟨3, .data⟩ (by simp) rfl
      refine wpOp_step rfl (fun K' hK => ?_)
      simp only [p3, cond_true, cond_false]
      clear hpre
      rw [if_pos (by rfl)]
      go_simp
      exact hK _ _ ⟨g, c, _, by simp [upd, Act.put, p3], hB, (fun e => c3 (by simpa [upd] using e)), by simp [upd, n12], (fun e => absurd e (by simp [upd, n12]))⟩
    · -- 5: Op.load 23 (Operand.tmp 3)
      refine wpOp_step rfl (fun K' hK => ?_)
      clear hpre
      rw [if_pos (by rfl)]
      refine wp_load_mid 23 _ rfl _ 0 rfl (kl X Y) _ zk Try.underlying23 rfl (by rw [kl_len]; exact size23) ?_
      exact hK _ _ ⟨g, c, _, by simp [upd, Act.put], hB, (fun e => c3 (by simpa [upd] using e)), by simp [upd, n12], (fun e => absurd e (by simp [upd, n12]))⟩
    · -- 6: Op.load 28 (Operand.tmp 4)
      refine wpOp_step rfl (fun K' hK => ?_)
      clear hpre
      rw [if_pos (by rfl)]
      go_simp
      exact hK _ _ ⟨g, c, _, by simp [upd, Act.put], hB, (fun e => c3 (by simpa [upd] using e)), by simp [upd, n12], (fun e => absurd e (by simp [upd, n12]))⟩
    · -- 7: Op.call { callee := Callee.value (Operand.func 40)
      have p5 : l 5 = true := hpre _ rfl ⟨5, .data⟩ (by simp) rfl
      have p6 : l 6 = true := hpre _ rfl ⟨6, .data⟩ (by simp) rfl
      refine wpOp_step rfl (fun K' hK => ?_)
      simp only [p5, p6, cond_true, cond_false]
      clear hpre
      rw [if_pos (by rfl)]
      go_simp
      refine (HCo.out _).mono ?_
      rintro e w5 ⟨⟨g', c', rfl, q1, q2, q3, q4⟩, hb5⟩
      exact hK _ _ ⟨g', c', w5, by simp [upd, Act.put, p5, p6], hB.trans (hb5.mono hL), (fun _ => ⟨q2, q3, q4⟩), by simp [upd, n12], (fun e => absurd e (by simp [upd, n12]))⟩
    · -- 8: Op.move (Operand.tmp 7)
      refine wpOp_step rfl (fun K' hK => ?_)
      clear hpre
      rw [if_pos (by rfl)]
      go_simp
      exact hK _ _ ⟨g, c, _, by simp [upd, Act.put], hB, (fun e => c3 (by simpa [upd] using e)), by simp [upd, n12], (fun e => absurd e (by simp [upd, n12]))⟩
    · -- 9: Op.call { callee := Callee.value (Operand.func 45)
      have p4 : l 4 = true := hpre _ rfl ⟨4, .data⟩ (by simp) rfl
      have p7 : l 7 = true := hpre _ rfl ⟨7, .data⟩ (by simp) rfl
      have p8 : l 8 = true := hpre _ rfl ⟨8, .data⟩ (by simp) rfl
      refine wpOp_step rfl (fun K' hK => ?_)
      simp only [p4, p7, p8, cond_true, cond_false]
      clear hpre
      rw [if_pos (by rfl)]
      go_simp
      refine (HAt.out _ g c (c3 p7).1 (c3 p7).2.1 (c3 p7).2.2).mono ?_
      rintro e w5 ⟨rfl, rfl⟩
      exact hK _ _ ⟨g, c, _, by simp [upd, Act.put, p4, p7, p8], hB, (fun e => c3 (by simpa [upd] using e)), by simp [upd, n12], (fun e => absurd e (by simp [upd, n12]))⟩
    · -- 10: Op.build 46 #[(0, Operand.tmp 12), (1, Operand.tmp
      have p1 : l 1 = true := hpre _ rfl ⟨1, .data⟩ (by simp) rfl
      have p9 : l 9 = true := hpre _ rfl ⟨9, .data⟩ (by simp) rfl
      refine wpOp_step rfl (fun K' hK => ?_)
      simp only [p1, p9, cond_true, cond_false]
      clear hpre
      rw [if_pos (by rfl)]
      go_simp
      exact hK _ _ ⟨g, c, _, by simp [upd, Act.put, p1, p9], hB, (fun e => c3 (by simpa [upd] using e)), by simp [upd, n12], (fun e => absurd e (by simp [upd, n12]))⟩
    · -- 11: Op.build 50 #[(0, Operand.tmp 11), (2, Operand.tmp
      have p0 : l 0 = true := hpre _ rfl ⟨0, .data⟩ (by simp) rfl
      have p10 : l 10 = true := hpre _ rfl ⟨10, .data⟩ (by simp) rfl
      refine wpOp_step rfl (fun K' hK => ?_)
      simp only [p0, p10, cond_true, cond_false]
      clear hpre
      rw [if_pos (by rfl)]
      go_simp
      exact hK _ _ ⟨g, c, _, by simp [upd, Act.put, p0, p10], hB, (fun e => c3 (by simpa [upd] using e)), by simp [upd, n12], (fun e => absurd e (by simp [upd, n12]))⟩
    · -- 12: Op.store 50 (Operand.tmp 6) (Operand.tmp 22)
      have p11 : l 11 = true := hpre _ rfl ⟨11, .data⟩ (by simp) rfl
      have p9 : l 9 = true := hpre _ rfl ⟨9, .chain⟩ (by simp) rfl
      have p0 : l 0 = true := hpre _ rfl ⟨0, .phase⟩ (by simp) rfl
      have p1 : l 1 = true := hpre _ rfl ⟨1, .phase⟩ (by simp) rfl
      have p2 : l 2 = true := hpre _ rfl ⟨2, .phase⟩ (by simp) rfl
      have p3 : l 3 = true := hpre _ rfl ⟨3, .phase⟩ (by simp) rfl
      have p4 : l 4 = true := hpre _ rfl ⟨4, .phase⟩ (by simp) rfl
      have p5 : l 5 = true := hpre _ rfl ⟨5, .phase⟩ (by simp) rfl
      have p6 : l 6 = true := hpre _ rfl ⟨6, .phase⟩ (by simp) rfl
      have p7 : l 7 = true := hpre _ rfl ⟨7, .phase⟩ (by simp) rfl
      have p8 : l 8 = true := hpre _ rfl ⟨8, .phase⟩ (by simp) rfl
      have p10 : l 10 = true := hpre _ rfl ⟨10, .phase⟩ (by simp) rfl
      refine wpOp_step rfl (fun K' hK => ?_)
      simp only [p11, p9, p0, p1, p2, p3, p4, p5, p6, p7, p8, p10, cond_true, cond_false]
      clear hpre
      rw [if_pos (by rfl)]
      go_simp
      exact hK _ _ ⟨g, c, w', by simp [upd, Act.put, p11, p9, p0, p1, p2, p3, p4, p5, p6, p7, p8, p10], hB, (fun e => c3 (by simpa [upd] using e)), by simp [upd, secSet], (fun _ j hj => by rcases (by omega : j = 0 ∨ j = 1 ∨ j = 2 ∨ j = 3 ∨ j = 4 ∨ j = 5 ∨ j = 6 ∨ j = 7 ∨ j = 8 ∨ j = 9 ∨ j = 10 ∨ j = 11) with rfl | rfl | rfl | rfl | rfl | rfl | rfl | rfl | rfl | rfl | rfl | rfl <;> simp [upd, p0, p1, p2, p3, p4, p5, p6, p7, p8, p9, p10, p11])⟩
  · rintro l a' w' hall ⟨g, c, w9, rfl, hBz, _, hw, _⟩
    rw [hall 12 (by decide), cond_true] at hw
    subst hw
    simp only [hall 0 (by decide), hall 1 (by decide), hall 2 (by decide), hall 3 (by decide), hall 4 (by decide), hall 5 (by decide), hall 6 (by decide), hall 7 (by decide), hall 8 (by decide), hall 9 (by decide), hall 10 (by decide), hall 11 (by decide), cond_true]
    clear hall
    obtain ⟨_, _, hr, hb⟩ := HEnv.out _ hBz
    obtain ⟨q0, q1, q2, q3⟩ := hr.set (.int .i64 (u : Int)) (.slice none 0 0) (.int .u64 (x : Int)) (.int .u64 (y : Int))
    have HBE := Lib.hid (secSet_below hb (show N ≤ N + 2 by omega) (.int .i64 (u : Int)) (.slice none 0 0) (.int .u64 (x : Int)) (.int .u64 (y : Int)))
    generalize secSet w9 (N + 2) (.int .i64 (u : Int)) (.slice none 0 0) (.int .u64 (x : Int)) (.int .u64 (y : Int)) = wf at q0 q1 q2 q3 HBE ⊢
    go_wp2_with fail
    refine bodyPost_ret (by simp [results, Try.results53, q0, q1, q2, q3, go_sem]; rfl) rfl ?_
    exact ⟨rfl, HBE.out⟩
end Go.Proofs.Ytcbanemkjebdcaa
