/-
  Split, the program's: the other kinds.
-/
import Derived.Test.YtpclgiabbmdgmaaSplB
namespace Go.Proofs.Ytpclgiabbmdgmaa
open Go.RowKit TR
set_option linter.unusedVariables false
set_option linter.unusedSimpArgs false

theorem sbc_high {K E : Int} {d v x P Q G : Nat} (h : sbc K (d : Int) E P Q G (v : Int) (x : Int) = 0) (hK : K ≠ 1) (hx0 : x ≠ 0) : x ≠ v ∧ abv v x = true := by
  obtain ⟨hs, _⟩ := sbc_zero h
  unfold sbc at h
  rw [scb_yes hs] at h
  simp only [Int.toNat_natCast, if_true] at h
  have hx1 : ¬ ((x : Int) = 0) := by omega
  cases hi : isb K d (v : Int) (x : Int) with
  | false => simp [hi] at h
  | true =>
    unfold isb at hi
    rw [if_neg hK, if_neg hx1] at hi
    simp only [Bool.and_eq_true, Int.toNat_natCast] at hi
    obtain ⟨_, _, h3, h4, _⟩ := hi
    exact ⟨fun e => by simp [e] at h3, h4⟩

set_option maxRecDepth 100000 in
set_option maxHeartbeats 2000000 in
theorem split_high (K E : Int) (d v x P Q G : Nat) (w : World) (hK0 : 0 ≤ K) (hK1 : K ≤ 255) (hs : sbc K (d : Int) E P Q G (v : Int) (x : Int) = 0) (hn : (mem_ d v x).length ≠ 1) (hK : K ≠ 1) (hx0 : x ≠ 0) :
    Calls Try.prog 18 #[.agg #[.int .u8 K, .int .i64 (d : Int), .int .i64 E, .int .u64 (P : Int), .int .u64 (Q : Int), .int .u64 (G : Int)], .agg #[.int .i64 (v : Int), .int .i64 (x : Int)]] w fun e w' => (∃ u, e = .returned (.tuple #[u, .int .i64 0]) ∧ w'.ownsRow w.heap.size 28 2 u 2 (splv K d v x)) ∧ Below w.heap.size w w' := by
  obtain ⟨N, hN⟩ : ∃ N, N = w.heap.size := ⟨_, rfl⟩
  obtain ⟨W2, hW2⟩ : ∃ W2, W2 = (w.alloc (.cells #[.int .u8 K, .int .i64 (d : Int), .int .i64 E, .int .u64 (P : Int), .int .u64 (Q : Int), .int .u64 (G : Int)] 26)).alloc (.cells #[.int .i64 (v : Int), .int .i64 (x : Int)] 28) := ⟨_, rfl⟩
  have HB2 : Hid (Below N w W2) := Lib.hid (by rw [hW2, hN]; exact ((Below.refl _ _).alloc (Nat.le_refl _) _).alloc (by simp) _)
  have HS2 : Hid (W2.heap.size = N + 2) := Lib.hid (by rw [hW2, hN]; simp)
  have HEnv : Hid (∀ w1, Below (N + 2) W2 w1 → SchAt w1 N K (d : Int) E P Q G ∧ (w1.cell? ⟨N + 1, 0, none⟩ = some (.int .i64 (v : Int)) ∧ w1.cell? ⟨N + 1, 1, none⟩ = some (.int .i64 (x : Int))) ∧ Below N w w1) := Lib.hid (fun w1 h => by
    have s : SchAt W2 N K (d : Int) E P Q G := by rw [hW2, hN]; exact (SchAt.new w K (d : Int) E P Q G _).below ((Below.refl _ _).alloc (Nat.le_refl _) _) (by simp)
    have c : ∀ j u0, #[Value.int .i64 (v : Int), Value.int .i64 (x : Int)][j]? = some u0 → W2.cell? ⟨N + 1, j, none⟩ = some u0 := fun j u0 hv => by
      have h := heap_alloc_new (w.alloc (.cells #[.int .u8 K, .int .i64 (d : Int), .int .i64 E, .int .u64 (P : Int), .int .u64 (Q : Int), .int .u64 (G : Int)] 26)) (.cells #[.int .i64 (v : Int), .int .i64 (x : Int)] 28)
      rw [← hW2, World.size_alloc, ← hN] at h
      rw [cell_of_row _ _ j _ _ _ h]; exact hv
    exact ⟨s.below h (by omega), ⟨(h.cell (p := ⟨N + 1, 0, none⟩) (by show N + 1 < N + 2; omega)).trans (c 0 _ rfl), (h.cell (p := ⟨N + 1, 1, none⟩) (by show N + 1 < N + 2; omega)).trans (c 1 _ rfl)⟩, HB2.out.trans (h.mono (by omega))⟩)
  have HM := Lib.hid (fun w => members_any K (d : Int) E (v : Int) (x : Int) P Q G w hK0 hK1)
  obtain ⟨_, d', v', x', e1, e2, e3, hd, v1, v2, v3, hx⟩ := sbc_zero hs
  obtain rfl : d = d' := by omega
  obtain rfl : v = v' := by omega
  obtain rfl : x = x' := by omega
  clear e1 e2 e3
  have HSs := Lib.hid hs
  have HNn := Lib.hid hn
  obtain ⟨hxv, habv⟩ := sbc_high hs hK hx0
  obtain ⟨hx2, hxl⟩ := half_ok v3 hx habv hxv
  have hlv := lv_half x (by omega)
  have HLv := Lib.hid (fun w => level_any v w v1 (by omega))
  have HFs := Lib.hid (fun w => firstSpecial_any K E d v x P Q G w hd v1 (by omega) hx2 (by omega) hxl)
  have HA0 := Lib.hid (fun w => at_any x (lv v + 1) w (by omega) (by omega) (by omega))
  have HSp : Hid (splv K d v x = if x = nat_ x (lv v + 1) then two (x ^^^ 1 : Nat) (2 * (x ^^^ 1) : Nat) (x ^^^ 1 : Nat) (2 * (x ^^^ 1) + 1 : Nat)
    else if isb K d (nat_ x (lv v + 1)) x = true then two v (nat_ x (lv v + 1)) (nat_ x (lv v + 1)) x else two v (fsp d v x) (fsp d v x) x) := Lib.hid (by unfold splv; rw [if_neg hK, if_neg hx0])
  have HSib := Lib.hid (fun w => sibling_any x w (by omega))
  have HWc := Lib.hid (fun w => withoutChild_any (x ^^^ 1) w (by have := Nat.xor_lt_two_pow (n := 7) (x := x) (y := 1) (by omega) (by decide); omega))
  have HIs := Lib.hid (fun (a : Int) w => isSubset_any K E a (x : Int) d P Q G w hd)
  have HCut := Lib.hid (fun a b c w => cut_any a b c w)
  have HSub := Lib.hid (fun a b w => subset_any a b w)
  obtain ⟨ch, hch⟩ : ∃ ch, ch = nat_ x (lv v + 1) := ⟨_, rfl⟩
  obtain ⟨fs, hfs⟩ : ∃ fs, fs = fsp d v x := ⟨_, rfl⟩
  rw [← hch, ← hfs] at HSp
  rw [← hch] at HA0
  rw [← hfs] at HFs
  obtain ⟨lm, hlm⟩ : ∃ lm, lm = lv v := ⟨_, rfl⟩
  rw [← hlm] at HLv HA0
  have HAt : Hid (∀ w, Calls Try.prog 59 #[.int .i64 (x : Int), .int .i64 ((lm : Int) + 1)] w fun e w' => e = .returned (.int .i64 (ch : Int)) ∧ w = w') := Lib.hid (fun w => HA0.out w)
  have hlm8 : lm < 8 := by rw [hlm]; exact lv_lt v (by omega)
  have hKn : (K == 1) = false := beq_eq_false_iff_ne.2 hK
  have hxn : ((x : Int) == 0) = false := beq_eq_false_iff_ne.2 (by omega)
  clear hs hn hxv habv hx2 hxl hlv HA0 hch hfs hlm hK
  have HN := Lib.hid hN
  have HW := Lib.hid hW2
  rw [← hN]
  obtain ⟨⟨c0, c1, c2, c3, c4, c5⟩, ⟨z0, z1⟩, _⟩ := HEnv.out W2 (Below.refl _ _)
  rw [hW2, hN] at c0 c1 c2 c3 c4 c5 z0 z1
  clear hN hW2 hK0 hK1
  go_enter Try.func18, Try.ntmps18
  go_wp2_with fail
  rw [← HW.out, ← HN.out]
  refine (HM.out _).mono ?_
  rintro e w3 ⟨⟨u, rfl, _, hu2⟩, hb3⟩
  have HB3 : Hid (Below (N + 2) W2 w3 ∧ N + 2 ≤ w3.heap.size) := Lib.hid ⟨hb3.mono (by rw [HS2.out]; exact Nat.le_refl _), by rw [← HS2.out]; exact hb3.size⟩
  clear hb3 c0 c1 c2 c3 c4 c5 z0 z1
  have ho := hu2 HSs.out
  simp only [Int.toNat_natCast] at ho
  obtain ⟨A, c, rfl⟩ := own_val ho
  clear hu2 ho
  rw [HSs.out]
  obtain ⟨m, hm⟩ : ∃ m, m = (mem_ d v x).length := ⟨_, rfl⟩
  have hm1 : ((m : Int) == 1) = false := beq_eq_false_iff_ne.2 (by have := HNn.out; omega)
  rw [← hm]
  clear hm HM
  go_wp2_with fail
  refine wp_region_inv (by kernel_rfl) (by kernel_rfl) (fun l a' w' => a' = { tmps := #[Value.agg #[Value.int IntKind.u8 K, Value.int IntKind.i64 d, Value.int IntKind.i64 E, Value.int IntKind.u64 P, Value.int IntKind.u64 Q, Value.int IntKind.u64 G], Value.agg #[Value.int IntKind.i64 v, Value.int IntKind.i64 x], Value.pointer (some ⟨N, 0, none⟩), Value.pointer (some ⟨N + 1, 0, none⟩), Value.slice none 0 0, Value.int .i64 (0 : Int), Value.slice A m c, Value.int .i64 (0 : Int), bif l 4 then Value.int .i64 (v : Int) else undef, bif l 5 then Value.int .i64 (x : Int) else undef, undef, Value.tuple #[Value.slice A m c, Value.int IntKind.i64 0], Value.agg #[Value.int IntKind.u8 K, Value.int IntKind.i64 d, Value.int IntKind.i64 E, Value.int IntKind.u64 P, Value.int IntKind.u64 Q, Value.int IntKind.u64 G], Value.agg #[Value.int IntKind.i64 v, Value.int IntKind.i64 x], Value.tuple #[Value.slice A m c, Value.int IntKind.i64 0], Value.slice A m c, Value.int .i64 (0 : Int), Value.int .i64 (0 : Int), Value.bool false, undef, Value.slice A m c, Value.int .i64 (m : Int), Value.bool false, bif l 0 then Value.pointer (some ⟨N + 1, 0, none⟩) else undef, bif l 1 then Value.int .i64 (v : Int) else undef, bif l 2 then Value.pointer (some ⟨N + 1, 1, none⟩) else undef, bif l 3 then Value.int .i64 (x : Int) else undef, undef, undef, undef, undef, undef, undef, undef, undef, undef, undef, undef, undef, undef, undef, undef, undef, undef, undef, undef, undef, undef, undef, undef, undef, undef, undef, undef, undef, undef, undef, undef, undef, undef, undef, undef, undef, undef, undef, undef, undef, undef], defers := [] } ∧ w' = w3.drew) ⟨rfl, rfl⟩ ?_ ?_
  · rintro l a' w' i ⟨rfl, rfl⟩ hi hli hpre
    have hi2 : i < 6 := hi
    have hcase : i = 0 ∨ i = 1 ∨ i = 2 ∨ i = 3 ∨ i = 4 ∨ i = 5 := by omega
    clear hi hi2
    rcases hcase with rfl | rfl | rfl | rfl | rfl | rfl
    · -- 0: Op.fieldAddr 28 (Operand.tmp 3) 0
      refine wpOp_step rfl (fun K' hK => ?_)
      clear hpre
      rw [if_pos (by rfl)]
      go_simp
      exact hK _ _ ⟨by simp [upd, Act.put], rfl⟩
    · -- 1: Op.load 3 (Operand.tmp 23)
      have p0 : l 0 = true := hpre _ rfl ⟨0, .data⟩ (by simp) rfl
      refine wpOp_step rfl (fun K' hK => ?_)
      simp only [p0, cond_true, cond_false]
      clear hpre
      rw [if_pos (by rfl)]
      have z := (HEnv.out w3.drew (HB3.out.1.drew)).2.1
      have z1 := z.1
      go_simp
      exact hK _ _ ⟨by simp [upd, Act.put, p0], rfl⟩
    · -- 2: Op.fieldAddr 28 (Operand.tmp 3) 1
      refine wpOp_step rfl (fun K' hK => ?_)
      clear hpre
      rw [if_pos (by rfl)]
      go_simp
      exact hK _ _ ⟨by simp [upd, Act.put], rfl⟩
    · -- 3: Op.load 3 (Operand.tmp 25)
      have p2 : l 2 = true := hpre _ rfl ⟨2, .data⟩ (by simp) rfl
      refine wpOp_step rfl (fun K' hK => ?_)
      simp only [p2, cond_true, cond_false]
      clear hpre
      rw [if_pos (by rfl)]
      have z := (HEnv.out w3.drew (HB3.out.1.drew)).2.1
      have z1 := z.2
      go_simp
      exact hK _ _ ⟨by simp [upd, Act.put, p2], rfl⟩
    · -- 4: Op.assign (Operand.tmp 24)
      have p1 : l 1 = true := hpre _ rfl ⟨1, .data⟩ (by simp) rfl
      have p0 : l 0 = true := hpre _ rfl ⟨0, .phase⟩ (by simp) rfl
      refine wpOp_step rfl (fun K' hK => ?_)
      simp only [p1, p0, cond_true, cond_false]
      clear hpre
      rw [if_pos (by rfl)]
      go_simp
      exact hK _ _ ⟨by simp [upd, Act.put, p1, p0], rfl⟩
    · -- 5: Op.assign (Operand.tmp 26)
      have p3 : l 3 = true := hpre _ rfl ⟨3, .data⟩ (by simp) rfl
      have p4 : l 4 = true := hpre _ rfl ⟨4, .chain⟩ (by simp) rfl
      have p0 : l 0 = true := hpre _ rfl ⟨0, .phase⟩ (by simp) rfl
      have p1 : l 1 = true := hpre _ rfl ⟨1, .phase⟩ (by simp) rfl
      have p2 : l 2 = true := hpre _ rfl ⟨2, .phase⟩ (by simp) rfl
      refine wpOp_step rfl (fun K' hK => ?_)
      simp only [p3, p4, p0, p1, p2, cond_true, cond_false]
      clear hpre
      rw [if_pos (by rfl)]
      go_simp
      exact hK _ _ ⟨by simp [upd, Act.put, p3, p4, p0, p1, p2], rfl⟩
  · rintro l a' w9 hall ⟨rfl, rfl⟩
    simp only [hall 0 (by decide), hall 1 (by decide), hall 2 (by decide), hall 3 (by decide), hall 4 (by decide), hall 5 (by decide), cond_true]
    clear hall
    obtain ⟨Wq, hWq⟩ : ∃ Wq, Wq = w3.drew := ⟨_, rfl⟩
    have HBq : Hid (Below (N + 2) W2 Wq ∧ N + 2 ≤ Wq.heap.size) := Lib.hid (by rw [hWq]; exact ⟨HB3.out.1.drew, HB3.out.2⟩)
    rw [← hWq]
    clear hWq
    have HEq : Hid (Below N w Wq) := Lib.hid (HEnv.out Wq HBq.out.1).2.2
    obtain ⟨⟨c0, c1, c2, c3, c4, c5⟩, _, _⟩ := HEnv.out Wq HBq.out.1
    go_wp2_with fail
    refine (HLv.out _).mono ?_
    rintro e w0 ⟨rfl, rfl⟩
    go_wp2_with fail
    refine (HAt.out _).mono ?_
    rintro e w0 ⟨rfl, rfl⟩
    by_cases hc : x = ch
    · have HS2 : Hid (splv K d v x = two (x ^^^ 1 : Nat) (2 * (x ^^^ 1) : Nat) (x ^^^ 1 : Nat) (2 * (x ^^^ 1) + 1 : Nat)) := Lib.hid (by rw [HSp.out, if_pos hc])
      subst hc
      go_wp2_with fail
      refine (HSib.out _).mono ?_
      rintro e w0 ⟨rfl, rfl⟩
      go_wp2_with fail
      refine (HWc.out _).mono ?_
      rintro e w4 ⟨⟨u4, rfl, ho4⟩, hb4⟩
      have HO : Hid (w4.ownsRow N 28 2 u4 2 (splv K d v x) ∧ Below N w w4) := Lib.hid ⟨by rw [HS2.out]; exact own_mono ho4 (by have := HBq.out.2; omega), HEq.out.trans (hb4.mono (by have := HBq.out.2; omega))⟩
      clear ho4 hb4 c0 c1 c2 c3 c4 c5
      go_wp2_with fail
      go_ret2
      exact ⟨⟨_, rfl, HO.out.1⟩, HO.out.2⟩
    · have hcn : ((x : Int) == (ch : Int)) = false := beq_eq_false_iff_ne.2 (by omega)
      have HS2 : Hid (splv K d v x = if isb K d ch x = true then two v ch ch x else two v fs fs x) := Lib.hid (by rw [HSp.out, if_neg hc])
      clear hc
      go_wp2_with fail
      have HBd : Hid (Below (N + 2) W2 Wq.drew ∧ N + 2 ≤ Wq.drew.heap.size) := Lib.hid ⟨HBq.out.1.drew, HBq.out.2⟩
      refine wp_region_inv (by kernel_rfl) (by kernel_rfl) (fun l a' w' => a' = { tmps := #[Value.agg #[Value.int IntKind.u8 K, Value.int IntKind.i64 d, Value.int IntKind.i64 E, Value.int IntKind.u64 P, Value.int IntKind.u64 Q, Value.int IntKind.u64 G], Value.agg #[Value.int IntKind.i64 v, Value.int IntKind.i64 x], Value.pointer (some ⟨N, 0, none⟩), Value.pointer (some ⟨N + 1, 0, none⟩), Value.slice none 0 0, Value.int .i64 (0 : Int), Value.slice A m c, Value.int .i64 (0 : Int), Value.int .i64 (v : Int), Value.int .i64 (x : Int), Value.int .i64 (ch : Int), Value.tuple #[Value.slice A m c, Value.int IntKind.i64 0], Value.agg #[Value.int IntKind.u8 K, Value.int IntKind.i64 d, Value.int IntKind.i64 E, Value.int IntKind.u64 P, Value.int IntKind.u64 Q, Value.int IntKind.u64 G], Value.agg #[Value.int IntKind.i64 v, Value.int IntKind.i64 x], Value.tuple #[Value.slice A m c, Value.int IntKind.i64 0], Value.slice A m c, Value.int .i64 (0 : Int), Value.int .i64 (0 : Int), Value.bool false, undef, Value.slice A m c, Value.int .i64 (m : Int), Value.bool false, Value.pointer (some ⟨N + 1, 0, none⟩), Value.int .i64 (v : Int), Value.pointer (some ⟨N + 1, 1, none⟩), Value.int .i64 (x : Int), Value.pointer (some ⟨N, 0, none⟩), Value.int .u8 (K : Int), Value.bool false, undef, undef, undef, undef, undef, undef, undef, Value.int .i64 (x : Int), Value.bool false, undef, undef, Value.int .i64 (x : Int), Value.int .i64 (v : Int), Value.int .i64 (lm : Int), Value.int .i64 (lm + 1 : Int), Value.int .i64 (ch : Int), Value.int .i64 (x : Int), Value.int .i64 (ch : Int), Value.bool false, undef, undef, undef, bif l 0 then Value.agg #[.int .u8 K, .int .i64 (d : Int), .int .i64 E, .int .u64 (P : Int), .int .u64 (Q : Int), .int .u64 (G : Int)] else undef, bif l 1 then Value.int .i64 (ch : Int) else undef, bif l 2 then Value.int .i64 (x : Int) else undef, bif l 3 then Value.agg #[.int .i64 (ch : Int), .int .i64 (x : Int)] else undef, bif l 4 then Value.bool (isb K d (ch : Int) (x : Int)) else undef, undef, undef, undef, undef, undef, undef, undef, undef, undef, undef, undef], defers := [] } ∧ Hid (Below (N + 2) W2 w' ∧ N + 2 ≤ w'.heap.size)) ⟨rfl, HBd⟩ ?_ ?_
      · rintro l a' w' i ⟨rfl, HI⟩ hi hli hpre
        have hi2 : i < 5 := hi
        have hcase : i = 0 ∨ i = 1 ∨ i = 2 ∨ i = 3 ∨ i = 4 := by omega
        clear hi hi2
        rcases hcase with rfl | rfl | rfl | rfl | rfl
        · -- 0: Op.load 26 (Operand.tmp 2)
          refine wpOp_step rfl (fun K' hK => ?_)
          clear hpre
          rw [if_pos (by rfl)]
          obtain ⟨⟨c0, c1, c2, c3, c4, c5⟩, _, _⟩ := HEnv.out w' HI.out.1
          go_simp
          exact hK _ _ ⟨by simp [upd, Act.put], HI⟩
        · -- 1: Op.move (Operand.tmp 10)
          refine wpOp_step rfl (fun K' hK => ?_)
          clear hpre
          rw [if_pos (by rfl)]
          go_simp
          exact hK _ _ ⟨by simp [upd, Act.put], HI⟩
        · -- 2: Op.move (Operand.tmp 9)
          refine wpOp_step rfl (fun K' hK => ?_)
          clear hpre
          rw [if_pos (by rfl)]
          go_simp
          exact hK _ _ ⟨by simp [upd, Act.put], HI⟩
        · -- 3: Op.call { callee := Callee.value (Operand.func 55), args := 
          have p1 : l 1 = true := hpre _ rfl ⟨1, .data⟩ (by simp) rfl
          have p2 : l 2 = true := hpre _ rfl ⟨2, .data⟩ (by simp) rfl
          refine wpOp_step rfl (fun K' hK => ?_)
          simp only [p1, p2, cond_true, cond_false]
          clear hpre
          rw [if_pos (by rfl)]
          go_simp
          refine (HSub.out _ _ _).mono ?_
          rintro e w5 ⟨rfl, hb5⟩
          exact hK _ _ ⟨by simp [upd, Act.put, p1, p2], Lib.hid ⟨HI.out.1.trans (hb5.mono HI.out.2), Nat.le_trans HI.out.2 hb5.size⟩⟩
        · -- 4: Op.call { callee := Callee.value (Operand.func 62), args := 
          have p0 : l 0 = true := hpre _ rfl ⟨0, .data⟩ (by simp) rfl
          have p3 : l 3 = true := hpre _ rfl ⟨3, .data⟩ (by simp) rfl
          refine wpOp_step rfl (fun K' hK => ?_)
          simp only [p0, p3, cond_true, cond_false]
          clear hpre
          rw [if_pos (by rfl)]
          go_simp
          refine (HIs.out _ _).mono ?_
          rintro e w5 ⟨rfl, hb5⟩
          exact hK _ _ ⟨by simp [upd, Act.put, p0, p3], Lib.hid ⟨HI.out.1.trans (hb5.mono HI.out.2), Nat.le_trans HI.out.2 hb5.size⟩⟩
      · rintro l a' w9 hall ⟨rfl, HI9⟩
        simp only [hall 0 (by decide), hall 1 (by decide), hall 2 (by decide), hall 3 (by decide), hall 4 (by decide), cond_true]
        clear hall
        have HE9 : Hid (Below N w w9 ∧ N ≤ w9.heap.size) := Lib.hid ⟨(HEnv.out w9 HI9.out.1).2.2, by have := HI9.out.2; omega⟩
        clear c0 c1 c2 c3 c4 c5
        obtain ⟨⟨c0, c1, c2, c3, c4, c5⟩, _, _⟩ := HEnv.out w9 HI9.out.1
        obtain ⟨q, hq⟩ : ∃ q, q = isb K d (ch : Int) (x : Int) := ⟨_, rfl⟩
        rw [← hq] at HS2 ⊢
        clear hq
        rcases q with _ | _
        · have HS3 : Hid (splv K d v x = two v fs fs x) := Lib.hid (by rw [HS2.out, if_neg Bool.false_ne_true])
          clear HS2
          go_wp2_with fail
          refine (HFs.out _).mono ?_
          rintro e w10 ⟨rfl, hb10⟩
          have HE10 : Hid (Below N w w10 ∧ N ≤ w10.heap.size) := Lib.hid ⟨HE9.out.1.trans (hb10.mono HE9.out.2), Nat.le_trans HE9.out.2 hb10.size⟩
          clear hb10 c0 c1 c2 c3 c4 c5
          go_wp2_with fail
          refine (HCut.out _ _ _ _).mono ?_
          rintro e w4 ⟨⟨u4, rfl, ho4⟩, hb4⟩
          have HO : Hid (w4.ownsRow N 28 2 u4 2 (splv K d v x) ∧ Below N w w4) := Lib.hid ⟨by rw [HS3.out]; exact own_mono ho4 HE10.out.2, HE10.out.1.trans (hb4.mono HE10.out.2)⟩
          clear ho4 hb4
          go_wp2_with fail
          go_ret2
          exact ⟨⟨_, rfl, HO.out.1⟩, HO.out.2⟩
        · have HS3 : Hid (splv K d v x = two v ch ch x) := Lib.hid (by rw [HS2.out, if_pos rfl])
          clear HS2 c0 c1 c2 c3 c4 c5
          go_wp2_with fail
          refine (HCut.out _ _ _ _).mono ?_
          rintro e w4 ⟨⟨u4, rfl, ho4⟩, hb4⟩
          have HO : Hid (w4.ownsRow N 28 2 u4 2 (splv K d v x) ∧ Below N w w4) := Lib.hid ⟨by rw [HS3.out]; exact own_mono ho4 HE9.out.2, HE9.out.1.trans (hb4.mono HE9.out.2)⟩
          clear ho4 hb4
          go_wp2_with fail
          go_ret2
          exact ⟨⟨_, rfl, HO.out.1⟩, HO.out.2⟩
end Go.Proofs.Ytpclgiabbmdgmaa
