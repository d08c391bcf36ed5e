/-
  The walk of the law CoverSchemes.
-/
import Derived.Test.YtnbkoffhplknbaaStoA
import Derived.Test.YtnbkoffhplknbaaSmI
import Derived.Test.YtnbkoffhplknbaaMemC
namespace Go.Proofs.Ytnbkoffhplknbaa
open Go.RowKit TR
set_option linter.unusedVariables false
set_option linter.unusedSimpArgs false

set_option maxRecDepth 100000 in
set_option maxHeartbeats 1000000 in
theorem schemes_walk (K D E a b : Int) (P Q G : Nat) (w : World) (hK0 : 0 ≤ K) (hK1 : K ≤ 255) :
    Calls Try.prog 4 #[.agg #[.int .u8 K, .int .i64 D, .int .i64 E, .int .u64 (P : Int), .int .u64 (Q : Int), .int .u64 (G : Int)], .agg #[.int .i64 a, .int .i64 b]] w fun e w' => e = .returned (.bool true) ∧ Below w.heap.size w w' := by
  obtain ⟨N, hN⟩ : ∃ N, N = w.heap.size := ⟨_, rfl⟩
  obtain ⟨W2, hW2⟩ : ∃ W2, W2 = (w.alloc (.cells #[.int .u8 K, .int .i64 D, .int .i64 E, .int .u64 (P : Int), .int .u64 (Q : Int), .int .u64 (G : Int)] 28)).alloc (.cells #[.int .i64 a, .int .i64 b] 35) := ⟨_, rfl⟩
  have HB2 : Hid (Below N w W2) := Lib.hid (by rw [hW2, hN]; exact ((Below.refl _ _).alloc (Nat.le_refl _) _).alloc (by simp) _)
  have HS2 : Hid (W2.heap.size = N + 2) := Lib.hid (by rw [hW2, hN]; simp)
  have HEnv : Hid (∀ w1, Below (N + 2) W2 w1 → SchAt w1 N K D E P Q G ∧ (w1.cell? ⟨N + 1, 0, none⟩ = some (.int .i64 a) ∧ w1.cell? ⟨N + 1, 1, none⟩ = some (.int .i64 b)) ∧ Below N w w1) := Lib.hid (fun w1 h => by
    have s : SchAt W2 N K D E P Q G := by rw [hW2, hN]; exact (SchAt.new w K D E P Q G _).below ((Below.refl _ _).alloc (Nat.le_refl _) _) (by simp)
    have c : ∀ j v, #[Value.int .i64 a, Value.int .i64 b][j]? = some v → W2.cell? ⟨N + 1, j, none⟩ = some v := fun j v hv => by
      have h := heap_alloc_new (w.alloc (.cells #[.int .u8 K, .int .i64 D, .int .i64 E, .int .u64 (P : Int), .int .u64 (Q : Int), .int .u64 (G : Int)] 28)) (.cells #[.int .i64 a, .int .i64 b] 35)
      rw [← hW2, World.size_alloc, ← hN] at h
      rw [cell_of_row _ _ j _ _ _ h]; exact hv
    exact ⟨s.below h (by omega), ⟨(h.cell (p := ⟨N + 1, 0, none⟩) (by show N + 1 < N + 2; omega)).trans (c 0 _ rfl), (h.cell (p := ⟨N + 1, 1, none⟩) (by show N + 1 < N + 2; omega)).trans (c 1 _ rfl)⟩, HB2.out.trans (h.mono (by omega))⟩)
  have HSt := Lib.hid (fun w => storage_any K D E P Q G w hK0 hK1)
  have HRt := Lib.hid (fun w => refStorage_any K D E P Q G w hK0 hK1)
  have HCk := Lib.hid (fun w => check_any K D E P Q G w hK0 hK1)
  have HRk := Lib.hid (fun w => refCheck_any K D E P Q G w hK0 hK1)
  have HA := Lib.hid (fun w => members_any K D E a b P Q G w hK0 hK1)
  have HB := Lib.hid (fun w => refMembers_any K D E a b P Q G w hK0 hK1)
  obtain ⟨n, hn⟩ : ∃ n, n = stv K D E P Q G := ⟨_, rfl⟩
  rw [← hn] at HSt HRt
  obtain ⟨cc, hcc⟩ : ∃ cc, cc = scc K D E P Q G := ⟨_, rfl⟩
  rw [← hcc] at HSt HRt HCk HRk
  obtain ⟨sb, hsb⟩ : ∃ sb, sb = sbc K D E P Q G a b := ⟨_, rfl⟩
  rw [← hsb] at HA HB
  obtain ⟨ms, hms⟩ : ∃ ms, ms = mem_ D.toNat a.toNat b.toNat := ⟨_, rfl⟩
  rw [← hms] at HA HB
  have HN := Lib.hid hN
  have HW := Lib.hid hW2
  rw [← hN]
  obtain ⟨⟨c0, c1, c2, c3, c4, c5⟩, ⟨z0, z1⟩, _⟩ := HEnv.out W2 (Below.refl _ _)
  rw [hW2, hN] at c0 c1 c2 c3 c4 c5 z0 z1
  clear hN hW2 hK0 hK1 hn hcc hsb hms
  go_enter Try.func4, Try.ntmps4
  go_wp2_with fail
  rw [← HW.out, ← HN.out]
  refine (HSt.out _).mono ?_
  rintro e w3 ⟨rfl, hb3⟩
  have HB3 : Hid (Below (N + 2) W2 w3 ∧ N + 2 ≤ w3.heap.size) := Lib.hid ⟨hb3.mono (by rw [HS2.out]; exact Nat.le_refl _), by rw [← HS2.out]; exact hb3.size⟩
  clear hb3 c0 c1 c2 c3 c4 c5 z0 z1
  obtain ⟨⟨c0, c1, c2, c3, c4, c5⟩, _, _⟩ := HEnv.out w3 HB3.out.1
  go_wp2_with fail
  refine (HRt.out _).mono ?_
  rintro e w4 ⟨rfl, hb4⟩
  have HB4 : Hid (Below (N + 2) W2 w4 ∧ N + 2 ≤ w4.heap.size) := Lib.hid ⟨HB3.out.1.trans (hb4.mono HB3.out.2), Nat.le_trans HB3.out.2 hb4.size⟩
  clear hb4 c0 c1 c2 c3 c4 c5
  go_wp2_with fail
  have HBd : Hid (Below (N + 2) W2 w4.drew ∧ N + 2 ≤ w4.drew.heap.size) := Lib.hid ⟨HB4.out.1.drew, HB4.out.2⟩
  refine wp_region_inv (by kernel_rfl) (by kernel_rfl) (fun l a' w' => a' = { tmps := #[Value.agg #[Value.int IntKind.u8 K, Value.int IntKind.i64 D, Value.int IntKind.i64 E, Value.int IntKind.u64 P, Value.int IntKind.u64 Q, Value.int IntKind.u64 G], Value.agg #[Value.int IntKind.i64 a, Value.int IntKind.i64 b], Value.pointer (some ⟨N, 0, none⟩), Value.pointer (some ⟨N + 1, 0, none⟩), Value.bool false, Value.int .i64 (n : Int), Value.int .i64 (cc : Int), Value.int .i64 (n : Int), Value.int .i64 (cc : Int), undef, undef, Value.tuple #[Value.int IntKind.i64 n, Value.int IntKind.i64 cc], Value.agg #[Value.int IntKind.u8 K, Value.int IntKind.i64 D, Value.int IntKind.i64 E, Value.int IntKind.u64 P, Value.int IntKind.u64 Q, Value.int IntKind.u64 G], Value.tuple #[Value.int IntKind.i64 n, Value.int IntKind.i64 cc], Value.int .i64 (n : Int), Value.int .i64 (cc : Int), Value.tuple #[Value.int IntKind.i64 n, Value.int IntKind.i64 cc], Value.agg #[Value.int IntKind.u8 K, Value.int IntKind.i64 D, Value.int IntKind.i64 E, Value.int IntKind.u64 P, Value.int IntKind.u64 Q, Value.int IntKind.u64 G], Value.tuple #[Value.int IntKind.i64 n, Value.int IntKind.i64 cc], Value.int .i64 (n : Int), Value.int .i64 (cc : Int), bif l 0 then Value.int .i64 (n : Int) else undef, bif l 1 then Value.int .i64 (n : Int) else undef, bif l 2 then Value.bool false else undef, bif l 3 then Value.bool false else undef, bif l 4 then Value.int .i64 (cc : Int) else undef, bif l 5 then Value.int .i64 (cc : Int) else undef, bif l 6 then Value.bool false else undef, bif l 7 then Value.bool false else undef, bif l 8 then Value.bool false else undef, bif l 9 then Value.agg #[.int .u8 K, .int .i64 D, .int .i64 E, .int .u64 (P : Int), .int .u64 (Q : Int), .int .u64 (G : Int)] else undef, bif l 10 then Value.int .i64 cc else undef, bif l 11 then Value.agg #[.int .u8 K, .int .i64 D, .int .i64 E, .int .u64 (P : Int), .int .u64 (Q : Int), .int .u64 (G : Int)] else undef, bif l 12 then Value.int .i64 cc else undef, bif l 13 then Value.bool false else undef, bif l 14 then Value.bool false else undef, undef, undef, undef, undef, undef, undef, undef, undef, undef, undef, undef, undef, undef, undef, undef, undef, undef, undef, undef, undef], defers := [] } ∧ Hid (Below (N + 2) W2 w' ∧ N + 2 ≤ w'.heap.size)) ⟨rfl, HBd⟩ ?_ ?_
  · rintro l a' w' i ⟨rfl, HI⟩ hi hli hpre
    have hi2 : i < 15 := hi
    have hcase : i = 0 ∨ i = 1 ∨ i = 2 ∨ i = 3 ∨ i = 4 ∨ i = 5 ∨ i = 6 ∨ i = 7 ∨ i = 8 ∨ i = 9 ∨ i = 10 ∨ i = 11 ∨ i = 12 ∨ i = 13 ∨ i = 14 := by omega
    clear hi hi2
    rcases hcase with rfl | rfl | rfl | rfl | rfl | rfl | rfl | rfl | rfl | rfl | rfl | rfl | rfl | rfl | rfl
    · -- 0: Op.move (Operand.tmp 5)
      refine wpOp_step rfl (fun K' hK => ?_)
      clear hpre
      rw [if_pos (by rfl)]
      go_simp
      exact hK _ _ ⟨by simp [upd, Act.put], HI⟩
    · -- 1: Op.move (Operand.tmp 7)
      refine wpOp_step rfl (fun K' hK => ?_)
      clear hpre
      rw [if_pos (by rfl)]
      go_simp
      exact hK _ _ ⟨by simp [upd, Act.put], HI⟩
    · -- 2: Op.binOp BinOp.neq 3 (Operand.tmp 21) (Operand.tmp 22) 3
      have p0 : l 0 = true := hpre _ rfl ⟨0, .data⟩ (by simp) rfl
      have p1 : l 1 = true := hpre _ rfl ⟨1, .data⟩ (by simp) rfl
      refine wpOp_step rfl (fun K' hK => ?_)
      simp only [p0, p1, cond_true, cond_false]
      clear hpre
      rw [if_pos (by rfl)]
      go_simp
      exact hK _ _ ⟨by simp [upd, Act.put, p0, p1], HI⟩
    · -- 3: Op.move (Operand.tmp 23)
      have p2 : l 2 = true := hpre _ rfl ⟨2, .data⟩ (by simp) rfl
      refine wpOp_step rfl (fun K' hK => ?_)
      simp only [p2, cond_true, cond_false]
      clear hpre
      rw [if_pos (by rfl)]
      go_simp
      exact hK _ _ ⟨by simp [upd, Act.put, p2], HI⟩
    · -- 4: Op.move (Operand.tmp 6)
      have p3 : l 3 = true := hpre _ rfl ⟨3, .guard⟩ (by simp) rfl
      refine wpOp_step rfl (fun K' hK => ?_)
      simp only [p3, cond_true, cond_false]
      clear hpre
      rw [if_pos (by rfl)]
      go_simp
      exact hK _ _ ⟨by simp [upd, Act.put, p3], HI⟩
    · -- 5: Op.move (Operand.tmp 8)
      have p3 : l 3 = true := hpre _ rfl ⟨3, .guard⟩ (by simp) rfl
      refine wpOp_step rfl (fun K' hK => ?_)
      simp only [p3, cond_true, cond_false]
      clear hpre
      rw [if_pos (by rfl)]
      go_simp
      exact hK _ _ ⟨by simp [upd, Act.put, p3], HI⟩
    · -- 6: Op.binOp BinOp.neq 3 (Operand.tmp 25) (Operand.tmp 26) 3
      have p4 : l 4 = true := hpre _ rfl ⟨4, .data⟩ (by simp) rfl
      have p5 : l 5 = true := hpre _ rfl ⟨5, .data⟩ (by simp) rfl
      have p3 : l 3 = true := hpre _ rfl ⟨3, .guard⟩ (by simp) rfl
      refine wpOp_step rfl (fun K' hK => ?_)
      simp only [p4, p5, p3, cond_true, cond_false]
      clear hpre
      rw [if_pos (by rfl)]
      go_simp
      exact hK _ _ ⟨by simp [upd, Act.put, p4, p5, p3], HI⟩
    · -- 7: Op.pick (Operand.tmp 24) (Operand.const (Value.bool true)) (
      have p3 : l 3 = true := hpre _ rfl ⟨3, .data⟩ (by simp) rfl
      have p6 : l 6 = true := hpre _ rfl ⟨6, .data⟩ (by simp) rfl
      refine wpOp_step rfl (fun K' hK => ?_)
      simp only [p3, p6, cond_true, cond_false]
      clear hpre
      rw [if_pos (by rfl)]
      go_simp
      exact hK _ _ ⟨by simp [upd, Act.put, p3, p6], HI⟩
    · -- 8: Op.move (Operand.tmp 28)
      have p7 : l 7 = true := hpre _ rfl ⟨7, .data⟩ (by simp) rfl
      have p3 : l 3 = true := hpre _ rfl ⟨3, .chain⟩ (by simp) rfl
      refine wpOp_step rfl (fun K' hK => ?_)
      simp only [p7, p3, cond_true, cond_false]
      clear hpre
      rw [if_pos (by rfl)]
      go_simp
      exact hK _ _ ⟨by simp [upd, Act.put, p7, p3], HI⟩
    · -- 9: Op.load 28 (Operand.tmp 2)
      have p8 : l 8 = true := hpre _ rfl ⟨8, .guard⟩ (by simp) rfl
      refine wpOp_step rfl (fun K' hK => ?_)
      simp only [p8, cond_true, cond_false]
      clear hpre
      rw [if_pos (by rfl)]
      obtain ⟨⟨c0, c1, c2, c3, c4, c5⟩, _, _⟩ := HEnv.out w' HI.out.1
      go_simp
      exact hK _ _ ⟨by simp [upd, Act.put, p8], HI⟩
    · -- 10: Op.call { callee := Callee.value (Operand.func 30), args := 
      have p9 : l 9 = true := hpre _ rfl ⟨9, .data⟩ (by simp) rfl
      have p8 : l 8 = true := hpre _ rfl ⟨8, .chain⟩ (by simp) rfl
      refine wpOp_step rfl (fun K' hK => ?_)
      simp only [p9, p8, cond_true, cond_false]
      clear hpre
      rw [if_pos (by rfl)]
      go_simp
      refine (HCk.out _).mono ?_
      rintro e w5 ⟨rfl, hb5⟩
      exact hK _ _ ⟨by simp [upd, Act.put, p9, p8], Lib.hid ⟨HI.out.1.trans (hb5.mono HI.out.2), Nat.le_trans HI.out.2 hb5.size⟩⟩
    · -- 11: Op.load 28 (Operand.tmp 2)
      have p8 : l 8 = true := hpre _ rfl ⟨8, .guard⟩ (by simp) rfl
      refine wpOp_step rfl (fun K' hK => ?_)
      simp only [p8, cond_true, cond_false]
      clear hpre
      rw [if_pos (by rfl)]
      obtain ⟨⟨c0, c1, c2, c3, c4, c5⟩, _, _⟩ := HEnv.out w' HI.out.1
      go_simp
      exact hK _ _ ⟨by simp [upd, Act.put, p8], HI⟩
    · -- 12: Op.call { callee := Callee.value (Operand.func 32), args := 
      have p11 : l 11 = true := hpre _ rfl ⟨11, .data⟩ (by simp) rfl
      have p10 : l 10 = true := hpre _ rfl ⟨10, .chain⟩ (by simp) rfl
      have p8 : l 8 = true := hpre _ rfl ⟨8, .guard⟩ (by simp) rfl
      refine wpOp_step rfl (fun K' hK => ?_)
      simp only [p11, p10, p8, cond_true, cond_false]
      clear hpre
      rw [if_pos (by rfl)]
      go_simp
      refine (HRk.out _).mono ?_
      rintro e w5 ⟨rfl, hb5⟩
      exact hK _ _ ⟨by simp [upd, Act.put, p11, p10, p8], Lib.hid ⟨HI.out.1.trans (hb5.mono HI.out.2), Nat.le_trans HI.out.2 hb5.size⟩⟩
    · -- 13: Op.binOp BinOp.neq 3 (Operand.tmp 31) (Operand.tmp 33) 3
      have p10 : l 10 = true := hpre _ rfl ⟨10, .data⟩ (by simp) rfl
      have p12 : l 12 = true := hpre _ rfl ⟨12, .data⟩ (by simp) rfl
      have p8 : l 8 = true := hpre _ rfl ⟨8, .guard⟩ (by simp) rfl
      refine wpOp_step rfl (fun K' hK => ?_)
      simp only [p10, p12, p8, cond_true, cond_false]
      clear hpre
      rw [if_pos (by rfl)]
      go_simp
      exact hK _ _ ⟨by simp [upd, Act.put, p10, p12, p8], HI⟩
    · -- 14: Op.pick (Operand.tmp 29) (Operand.const (Value.bool true)) (
      have p8 : l 8 = true := hpre _ rfl ⟨8, .data⟩ (by simp) rfl
      have p13 : l 13 = true := hpre _ rfl ⟨13, .data⟩ (by simp) rfl
      refine wpOp_step rfl (fun K' hK => ?_)
      simp only [p8, p13, cond_true, cond_false]
      clear hpre
      rw [if_pos (by rfl)]
      go_simp
      exact hK _ _ ⟨by simp [upd, Act.put, p8, p13], HI⟩
  · rintro l a' w9 hall ⟨rfl, HI9⟩
    simp only [hall 0 (by decide), hall 1 (by decide), hall 2 (by decide), hall 3 (by decide), hall 4 (by decide), hall 5 (by decide), hall 6 (by decide), hall 7 (by decide), hall 8 (by decide), hall 9 (by decide), hall 10 (by decide), hall 11 (by decide), hall 12 (by decide), hall 13 (by decide), hall 14 (by decide), cond_true]
    clear hall
    obtain ⟨⟨c0, c1, c2, c3, c4, c5⟩, ⟨z0, z1⟩, _⟩ := HEnv.out w9 HI9.out.1
    go_wp2_with fail
    refine (HA.out _).mono ?_
    rintro e w5 ⟨⟨u5, rfl, hu1, hu2⟩, hb5⟩
    have HB5 : Hid (Below (N + 2) W2 w5 ∧ N + 2 ≤ w5.heap.size) := Lib.hid ⟨HI9.out.1.trans (hb5.mono HI9.out.2), Nat.le_trans HI9.out.2 hb5.size⟩
    have HU5 := Lib.hid (And.intro hu1 hu2)
    clear hb5 hu1 hu2 c0 c1 c2 c3 c4 c5 z0 z1
    obtain ⟨⟨c0, c1, c2, c3, c4, c5⟩, ⟨z0, z1⟩, _⟩ := HEnv.out w5 HB5.out.1
    go_wp2_with fail
    refine (HB.out _).mono ?_
    rintro e w6 ⟨⟨u6, rfl, hv1, hv2⟩, hb6⟩
    have HB6 : Hid (Below N w w6 ∧ N ≤ w6.heap.size) := Lib.hid ⟨(HEnv.out w6 (HB5.out.1.trans (hb6.mono HB5.out.2))).2.2, by have := hb6.size; have := HB5.out.2; omega⟩
    clear c0 c1 c2 c3 c4 c5 z0 z1
    have HSm : Hid (∀ w1, w1 = w6 → Calls Try.prog 24 #[u5, u6] w1 fun e w' => e = .returned (.bool true) ∧ Below w1.heap.size w1 w') := Lib.hid (fun w1 hw => by
      subst hw
      by_cases hr : sb = 0
      · have o5 := own_below (HU5.out.2 hr) hb6
        have o6 := hv2 hr
        rcases Nat.eq_zero_or_pos ms.length with h0 | h0
        · rcases o5.2 with ⟨e5, _⟩ | ⟨g5, k5, _, e5, _, _, q5, r5, _⟩ <;> rcases o6.2 with ⟨e6, _⟩ | ⟨g6, k6, _, e6, _, _, q6, r6, _⟩ <;> rw [e5, e6] <;> (try rw [h0]) <;> exact sameInts_eq _ _ 0 0 0 0 _ _ (fun _ => 0) w1 (by omega) (by omega) (by first | omega | (unfold maxLen; omega)) (by first | omega | (unfold maxLen; omega)) (.inl rfl) (fun i hi => by omega)
        · obtain ⟨g5, k5, rfl, _, n5, m5, l5⟩ := own_slice2 o5 h0
          obtain ⟨g6, k6, rfl, _, n6, m6, l6⟩ := own_slice2 o6 h0
          have hx : ∀ i, i < ms.length → (ivs ms)[i]? = some (.int .i64 ((ms.getD i 0 : Nat) : Int)) := fun i hi => by
            unfold ivs; rw [List.getElem?_map, List.getElem?_eq_getElem hi]; simp [List.getD, hi]
          exact sameInts_eq _ _ g5 0 g6 ms.length k5 k6 (fun i => ((ms.getD i 0 : Nat) : Int)) w1 n5 n6 m5 m6 (.inr ⟨rfl, rfl⟩) (fun i hi => ⟨l5 i _ (hx i hi), by rw [Nat.zero_add]; exact l6 i _ (hx i hi)⟩)
      · obtain rfl := HU5.out.1 hr
        obtain rfl := hv1 hr
        exact sameInts_eq none none 0 0 0 0 0 0 (fun _ => 0) w1 (by omega) (by omega) (by unfold maxLen; omega) (by unfold maxLen; omega) (.inl rfl) (fun i hi => by omega))
    clear hv1 hv2 hb6
    go_wp2_with fail
    refine (HSm.out _ rfl).mono ?_
    rintro e w7 ⟨rfl, hb7⟩
    have HF : Hid (Below N w w7) := Lib.hid (HB6.out.1.trans (hb7.mono HB6.out.2))
    clear hb7
    go_wp2_with fail
    go_ret
    exact ⟨by first | rfl | (simp; done), HF.out⟩
end Go.Proofs.Ytnbkoffhplknbaa
