/-
  Texts joined into one: LstA, LstB.
-/
import Derived.Test.YtelalpikdidpeaaKnwA
import Derived.Test.YtelalpikdidpeaaReg

/-
  Lists of receivers, the program's.
-/
namespace Go.Proofs.Ytelalpikdidpeaa
open Go.RowKit TR L2 L2.SP
set_option linter.unusedVariables false
set_option linter.unusedSimpArgs false

/-- A list of receivers: increasing numbers, each of them one. -/
def Lst (D : Int) (n : Nat) (f : Nat → Int) : Prop := ∀ i, i < n → isr D (f i) = true ∧ ∀ j, j + 1 = i → f j < f i
noncomputable def lsb (D : Int) (n : Nat) (f : Nat → Int) : Bool := @decide (Lst D n f) (Classical.propDecidable _)
theorem lsb_yes {D : Int} {n : Nat} {f : Nat → Int} (h : Lst D n f) : lsb D n f = true := @decide_eq_true _ (Classical.propDecidable _) h
theorem lsb_no {D : Int} {n : Nat} {f : Nat → Int} (h : ¬ Lst D n f) : lsb D n f = false := @decide_eq_false _ (Classical.propDecidable _) h
/-- The last one of the first k numbers. -/
def lst1 (f : Nat → Int) : Nat → Int
  | 0 => -1
  | k + 1 => f k

set_option maxRecDepth 100000 in
set_option maxHeartbeats 400000 in
theorem isList_any (K D E : Int) (P Q G b off n c : Nat) (A : Option Addr) (f : Nat → Int) (w : World) (d1 : 0 ≤ D) (d2 : D ≤ 6) (hn : n ≤ c) (hc : c ≤ maxLen) (had : n = 0 ∨ A = some ⟨b, off, none⟩) (hcl : ∀ i, i < n → w.cell? ⟨b, off + i, none⟩ = some (.int .i64 (f i))) :
    Calls Try.prog 51 #[.agg #[.int .u8 K, .int .i64 D, .int .i64 E, .int .u64 (P : Int), .int .u64 (Q : Int), .int .u64 (G : Int)], .slice A n c] w fun e w' => e = .returned (.bool (lsb D n f)) ∧ Below w.heap.size w w' := by
  obtain ⟨N, hN⟩ : ∃ N, N = w.heap.size := ⟨_, rfl⟩
  obtain ⟨W1, hW1⟩ : ∃ W1, W1 = w.alloc (.cells #[.int .u8 K, .int .i64 D, .int .i64 E, .int .u64 (P : Int), .int .u64 (Q : Int), .int .u64 (G : Int)] 28) := ⟨_, rfl⟩
  have HB1 : Hid (Below N w W1) := Lib.hid (by rw [hW1, hN]; exact (Below.refl _ _).alloc (Nat.le_refl _) _)
  have HS1 : Hid (W1.heap.size = N + 1) := Lib.hid (by rw [hW1, hN]; simp)
  have HEnv : Hid (∀ w1, Below (N + 1) W1 w1 → SchAt w1 N K D E P Q G ∧ Below N w w1 ∧ ∀ i, i < n → w1.cell? ⟨b, off + i, none⟩ = some (.int .i64 (f i))) := Lib.hid (fun w1 h => by
    have s : SchAt W1 N K D E P Q G := by rw [hW1, hN]; exact SchAt.new w K D E P Q G _
    have hb : Below N w w1 := HB1.out.trans (h.mono (by omega))
    exact ⟨s.below h (by omega), hb, fun i hi => (hb.cell (p := ⟨b, off + i, none⟩) (by rw [hN]; exact World.block_lt_of_cell? w _ (hcl i hi))).trans (hcl i hi)⟩)
  have HR := Lib.hid (fun u w => isReceiver_any K D E u P Q G w d1 d2)
  have hm : n ≤ 9223372036854775807 := by unfold maxLen at hc; omega
  have HAD := Lib.hid had
  have HN := Lib.hid hN
  have HW := Lib.hid hW1
  rw [← hN]
  clear hN hW1 hcl hc d1 d2 had
  go_enter Try.func51, Try.ntmps51
  go_wp2_with fail
  rw [← HW.out, ← HN.out]
  go_loopw [5, 10] (fun v i wr => ∃ (k : Nat), k ≤ n ∧ i = .int .i64 (k : Int) ∧ v = .int .i64 (lst1 f k) ∧ Hid (Lst D k f) ∧ Hid (Below (N + 1) W1 wr)) (fun _ i _ => n - (intOf i).toNat)
  case atStart => exact ⟨0, by omega, rfl, rfl, Lib.hid (fun i hi => by omega), Lib.hid (Below.refl _ _)⟩
  case round =>
    obtain ⟨k, hk, rfl, rfl, HL, HB⟩ := hrel
    have HBf : Hid (Below N w wr ∧ N + 1 ≤ wr.heap.size) := Lib.hid ⟨(HEnv.out wr HB.out).2.1, by rw [← HS1.out]; exact HB.out.size⟩
    by_cases hlt : k < n
    · rcases HAD.out with h0 | rfl
      · omega
      obtain ⟨⟨c0, c1, c2, c3, c4, c5⟩, _, hcl⟩ := HEnv.out wr HB.out
      have g1 := hcl k hlt
      have HU : Hid (lst1 f (k + 1) = f k) := Lib.hid rfl
      have HNx : Hid (Lst D (k + 1) f ↔ (isr D (f k) = true ∧ lst1 f k < f k)) := Lib.hid (by
        constructor
        · intro h
          refine ⟨(h k (by omega)).1, ?_⟩
          cases k with
          | zero =>
            have h1 : 0 ≤ f 0 ∧ f 0 < ((2 ^ D.toNat : Nat) : Int) := of_decide_eq_true (h 0 (by omega)).1
            show (-1 : Int) < f 0
            omega
          | succ j => exact (h (j + 1) (by omega)).2 j rfl
        · rintro ⟨h1, h2⟩ i hi
          rcases (by omega : i < k ∨ i = k) with h3 | rfl
          · exact HL.out i h3
          · exact ⟨h1, fun j hj => by subst hj; exact h2⟩)
      have HNo : Hid (¬ (isr D (f k) = true ∧ lst1 f k < f k) → lsb D n f = false) := Lib.hid (fun h => lsb_no (fun h1 => h (HNx.out.1 (fun i hi => h1 i (by omega)))))
      have HRu := Lib.hid (HR.out (f k))
      have l1 : (0 : Int) ≤ (k : Int) := by omega
      have l2 : (k : Int) < (n : Int) := by omega
      obtain ⟨u, hu⟩ : ∃ u, u = f k := ⟨_, rfl⟩
      obtain ⟨last, hl⟩ : ∃ last, last = lst1 f k := ⟨_, rfl⟩
      rw [← hu] at g1 HU HNx HNo HRu
      rw [← hl] at HNx HNo ⊢
      clear hu hl hcl
      by_cases hle : u ≤ last
      · have HF := Lib.hid (HNo.out (fun h => by omega))
        go_wp2_with fail
        go_ret
        exact ⟨by rw [HF.out]; rfl, HBf.out.1⟩
      · have hgt : last < u := by omega
        have hdd : decide (u ≤ last) = false := decide_eq_false hle
        rcases hisr : isr D u with _ | _
        · have HF := Lib.hid (HNo.out (fun h => by rw [hisr] at h; cases h.1))
          rw [hisr] at HRu
          go_wp2_with fail
          refine (HRu.out _).mono ?_
          rintro e w2 ⟨rfl, hb2⟩
          have HB2 := Lib.hid (HBf.out.1.trans (hb2.mono (by have := HBf.out.2; omega)))
          clear hb2 c0 c1 c2 c3 c4 c5
          go_wp2_with fail
          go_ret
          exact ⟨by rw [HF.out]; rfl, HB2.out⟩
        · have HL' := Lib.hid (HNx.out.2 ⟨hisr, hgt⟩)
          rw [hisr] at HRu
          go_wp2_with fail
          refine (HRu.out _).mono ?_
          rintro e w2 ⟨rfl, hb2⟩
          have HB2 := Lib.hid (HB.out.trans (hb2.mono HBf.out.2))
          clear hb2 c0 c1 c2 c3 c4 c5
          go_wp2_with fail
          go_roundw
          case rel => exact ⟨k + 1, by omega, by go_num, by rw [HU.out], HL', HB2⟩
          case measure => simp [intOf]; omega
    · obtain rfl : k = n := by omega
      have HF := Lib.hid (lsb_yes HL.out)
      go_wp2_with fail
      go_ret
      exact ⟨by rw [HF.out]; rfl, HBf.out.1⟩
end Go.Proofs.Ytelalpikdidpeaa

/-
  Lists of receivers, the specification's.
-/
namespace Go.Proofs.Ytelalpikdidpeaa
open Go.RowKit TR L2 L2.SP
set_option linter.unusedVariables false
set_option linter.unusedSimpArgs false

set_option maxRecDepth 100000 in
set_option maxHeartbeats 1000000 in
theorem refIsList_any (D : Int) (b off n c : Nat) (A : Option Addr) (f : Nat → Int) (w : World) (d1 : 0 ≤ D) (d2 : D ≤ 6) (hn : n ≤ c) (hc : c ≤ maxLen) (had : n = 0 ∨ A = some ⟨b, off, none⟩) (hcl : ∀ i, i < n → w.cell? ⟨b, off + i, none⟩ = some (.int .i64 (f i))) :
    Calls Try.prog 55 #[.int .i64 D, .slice A n c] w fun e w' => e = .returned (.bool (lsb D n f)) ∧ Below w.heap.size w w' := by
  obtain ⟨N, hN⟩ : ∃ N, N = w.heap.size := ⟨_, rfl⟩
  have HEnv : Hid (∀ w1, Below N w w1 → ∀ i, i < n → w1.cell? ⟨b, off + i, none⟩ = some (.int .i64 (f i))) := Lib.hid (fun w1 h i hi => (h.cell (p := ⟨b, off + i, none⟩) (by rw [hN]; exact World.block_lt_of_cell? w _ (hcl i hi))).trans (hcl i hi))
  have HR : Hid (∀ w, Calls Try.prog 99 #[.int .i64 D] w fun e w' => e = .returned (.int .i64 ((2 ^ D.toNat : Nat) : Int)) ∧ w = w') := Lib.hid (fun w => by obtain ⟨d, rfl⟩ := Int.eq_ofNat_of_zero_le d1; exact receivers_any d w (by omega))
  have HI : Hid (∀ u, isr D u = true ↔ (0 ≤ u ∧ u < ((2 ^ D.toNat : Nat) : Int))) := Lib.hid (fun u => decide_eq_true_iff)
  generalize 2 ^ D.toNat = T at HR HI
  have hm : n ≤ 9223372036854775807 := by unfold maxLen at hc; omega
  have HAD := Lib.hid had
  have HN := Lib.hid hN
  rw [← hN]
  clear hN hcl hc d1 d2 had
  go_enter Try.func55, Try.ntmps55
  go_wp2_with fail
  go_loopw [5] (fun i wr => ∃ (k : Nat), k ≤ n ∧ i = .int .i64 (k : Int) ∧ Hid (Lst D k f) ∧ Hid (Below N w wr ∧ N ≤ wr.heap.size)) (fun i _ => n - (intOf i).toNat)
  case atStart => exact ⟨0, by omega, rfl, Lib.hid (fun i hi => by omega), Lib.hid ⟨Below.refl _ _, by rw [HN.out]; omega⟩⟩
  case round =>
    obtain ⟨k, hk, rfl, HL, HB⟩ := hrel
    by_cases hlt : k < n
    · rcases HAD.out with h0 | rfl
      · omega
      have HF : Hid (∀ v, Below wr.heap.size wr v → ∀ i, i < n → v.cell? ⟨b, off + i, none⟩ = some (.int .i64 (f i))) := Lib.hid (fun v h => HEnv.out v (HB.out.1.trans (h.mono HB.out.2)))
      have HBd : Hid (Below N w wr.drew ∧ N ≤ wr.drew.heap.size) := Lib.hid ⟨HB.out.1.drew, HB.out.2⟩
      have HFk : Hid (∀ v, Below wr.heap.size wr v → v.cell? ⟨b, off + k, none⟩ = some (.int .i64 (f k))) := Lib.hid (fun v h => HF.out v h k hlt)
      have l1 : (0 : Int) ≤ (k : Int) := by omega
      have l2 : (k : Int) < (n : Int) := by omega
      have HUk : Hid (∀ g : Int, g = f k → g < 0 ∨ (T : Int) ≤ g → lsb D n f = false) := Lib.hid (fun g hg h => lsb_no (fun h1 => by
        have h2 := (HI.out (f k)).1 (h1 k hlt).1
        rw [← hg] at h2; omega))
      obtain ⟨u, hu⟩ : ∃ u, u = f k := ⟨_, rfl⟩
      rw [← hu] at HFk
      have HU := Lib.hid hu
      clear hu
      by_cases hu0 : u < 0
      · have HX := Lib.hid (HUk.out u HU.out (.inl hu0))
        have du0 : decide (u < 0) = true := decide_eq_true hu0
        go_wp2_with fail
        have hx0 : Below wr.heap.size wr wr.drew := (Below.refl _ _).drew
        refine wp_region_inv (by kernel_rfl) (by kernel_rfl) (fun l a' w' => a' = { tmps := #[Value.int .i64 (D : Int), Value.slice (some ⟨b, off, none⟩) n c, undef, undef, u4, Value.int .i64 (k : Int), Value.int .i64 (k : Int), Value.slice (some ⟨b, off, none⟩) n c, Value.int .i64 (n : Int), Value.bool true, u10, u11, bif l 0 then Value.slice (some ⟨b, off, none⟩) n c else u12, bif l 1 then Value.int .i64 (k : Int) else u13, bif l 2 then Value.pointer (some ⟨b, off + k, none⟩) else u14, bif l 3 then Value.int .i64 u else u15, bif l 4 then Value.bool true else u16, bif l 5 then Value.bool true else u17, bif l 6 then undef else u18, bif l 7 then undef else u19, bif l 8 then undef else u20, bif l 9 then undef else u21, bif l 10 then undef else u22, bif l 11 then undef else u23, bif l 12 then undef else u24, bif l 13 then Value.bool true else u25, bif l 14 then Value.bool true else u26, bif l 15 then undef else u27, bif l 16 then undef else u28, bif l 17 then undef else u29, bif l 18 then undef else u30, bif l 19 then undef else u31, bif l 20 then undef else u32, bif l 21 then undef else u33, bif l 22 then undef else u34, bif l 23 then undef else u35, bif l 24 then undef else u36, bif l 25 then undef else u37, bif l 26 then undef else u38, bif l 27 then undef else u39, bif l 28 then undef else u40, bif l 29 then Value.bool true else u41], defers := [] } ∧ w' = wr.drew) ⟨rfl, rfl⟩ ?_ ?_
        · rintro l a' w' i ⟨rfl, rfl⟩ hi hli hpre
          have hi2 : i < 30 := hi
          have hcase : i = 0 ∨ i = 1 ∨ i = 2 ∨ i = 3 ∨ i = 4 ∨ i = 5 ∨ i = 6 ∨ i = 7 ∨ i = 8 ∨ i = 9 ∨ i = 10 ∨ i = 11 ∨ i = 12 ∨ i = 13 ∨ i = 14 ∨ i = 15 ∨ i = 16 ∨ i = 17 ∨ i = 18 ∨ i = 19 ∨ i = 20 ∨ i = 21 ∨ i = 22 ∨ i = 23 ∨ i = 24 ∨ i = 25 ∨ i = 26 ∨ i = 27 ∨ i = 28 ∨ i = 29 := by omega
          clear hi hi2
          rcases hcase with rfl | rfl | rfl | rfl | rfl | rfl | rfl | rfl | rfl | rfl | rfl | rfl | rfl | rfl | rfl | rfl | rfl | rfl | rfl | rfl | rfl | rfl | rfl | rfl | rfl | rfl | rfl | rfl | rfl | rfl
          · -- 0: Op.move (Operand.tmp 1)
            refine wpOp_step rfl (fun K' hK => ?_)
            clear hpre
            rw [if_pos (by rfl)]
            go_simp
            exact hK _ _ ⟨by simp [upd, Act.put], rfl⟩
          · -- 1: Op.move (Operand.tmp 5)
            refine wpOp_step rfl (fun K' hK => ?_)
            clear hpre
            rw [if_pos (by rfl)]
            go_simp
            exact hK _ _ ⟨by simp [upd, Act.put], rfl⟩
          · -- 2: Op.indexAddr 57 (Operand.tmp 12) (Operand.tmp 13)
            have p0 : l 0 = true := hpre _ rfl ⟨0, .data⟩ (by simp) rfl
            have p1 : l 1 = true := hpre _ rfl ⟨1, .data⟩ (by simp) rfl
            refine wpOp_step rfl (fun K' hK => ?_)
            simp only [p0, p1, cond_true, cond_false]
            clear hpre
            rw [if_pos (by rfl)]
            have l1 : (0 : Int) ≤ (k : Int) := by omega
            have l2 : (k : Int) < (n : Int) := by omega
            go_simp
            exact hK _ _ ⟨by simp [upd, Act.put, p0, p1], rfl⟩
          · -- 3: Op.load 3 (Operand.tmp 14)
            have p2 : l 2 = true := hpre _ rfl ⟨2, .data⟩ (by simp) rfl
            refine wpOp_step rfl (fun K' hK => ?_)
            simp only [p2, cond_true, cond_false]
            clear hpre
            rw [if_pos (by rfl)]
            have z1 := HFk.out _ hx0
            go_simp
            exact hK _ _ ⟨by simp [upd, Act.put, p2], rfl⟩
          · -- 4: Op.binOp BinOp.lss 3 (Operand.tmp 15) (Operand.const (Value.
            have p3 : l 3 = true := hpre _ rfl ⟨3, .data⟩ (by simp) rfl
            refine wpOp_step rfl (fun K' hK => ?_)
            simp only [p3, cond_true, cond_false]
            clear hpre
            rw [if_pos (by rfl)]
            go_simp
            exact hK _ _ ⟨by simp [upd, Act.put, p3, du0], rfl⟩
          · -- 5: Op.move (Operand.tmp 16)
            have p4 : l 4 = true := hpre _ rfl ⟨4, .data⟩ (by simp) rfl
            refine wpOp_step rfl (fun K' hK => ?_)
            simp only [p4, cond_true, cond_false]
            clear hpre
            rw [if_pos (by rfl)]
            go_simp
            exact hK _ _ ⟨by simp [upd, Act.put, p4], rfl⟩
          · -- 6: Op.move (Operand.tmp 1)
            have p5 : l 5 = true := hpre _ rfl ⟨5, .guard⟩ (by simp) rfl
            refine wpOp_step rfl (fun K' hK => ?_)
            simp only [p5, cond_true, cond_false]
            clear hpre
            rw [if_neg (by exact Bool.false_ne_true)]
            exact hK _ _ ⟨by simp [upd, Act.put, p5], rfl⟩
          · -- 7: Op.move (Operand.tmp 5)
            have p5 : l 5 = true := hpre _ rfl ⟨5, .guard⟩ (by simp) rfl
            refine wpOp_step rfl (fun K' hK => ?_)
            simp only [p5, cond_true, cond_false]
            clear hpre
            rw [if_neg (by exact Bool.false_ne_true)]
            exact hK _ _ ⟨by simp [upd, Act.put, p5], rfl⟩
          · -- 8: Op.indexAddr 57 (Operand.tmp 18) (Operand.tmp 19)
            have p6 : l 6 = true := hpre _ rfl ⟨6, .data⟩ (by simp) rfl
            have p7 : l 7 = true := hpre _ rfl ⟨7, .data⟩ (by simp) rfl
            have p5 : l 5 = true := hpre _ rfl ⟨5, .guard⟩ (by simp) rfl
            refine wpOp_step rfl (fun K' hK => ?_)
            simp only [p6, p7, p5, cond_true, cond_false]
            clear hpre
            rw [if_neg (by exact Bool.false_ne_true)]
            exact hK _ _ ⟨by simp [upd, Act.put, p6, p7, p5], rfl⟩
          · -- 9: Op.load 3 (Operand.tmp 20)
            have p8 : l 8 = true := hpre _ rfl ⟨8, .data⟩ (by simp) rfl
            have p5 : l 5 = true := hpre _ rfl ⟨5, .guard⟩ (by simp) rfl
            refine wpOp_step rfl (fun K' hK => ?_)
            simp only [p8, p5, cond_true, cond_false]
            clear hpre
            rw [if_neg (by exact Bool.false_ne_true)]
            exact hK _ _ ⟨by simp [upd, Act.put, p8, p5], rfl⟩
          · -- 10: Op.move (Operand.tmp 0)
            have p5 : l 5 = true := hpre _ rfl ⟨5, .guard⟩ (by simp) rfl
            refine wpOp_step rfl (fun K' hK => ?_)
            simp only [p5, cond_true, cond_false]
            clear hpre
            rw [if_neg (by exact Bool.false_ne_true)]
            exact hK _ _ ⟨by simp [upd, Act.put, p5], rfl⟩
          · -- 11: Op.call { callee := Callee.value (Operand.func 52), args := 
            have p10 : l 10 = true := hpre _ rfl ⟨10, .data⟩ (by simp) rfl
            have p5 : l 5 = true := hpre _ rfl ⟨5, .chain⟩ (by simp) rfl
            refine wpOp_step rfl (fun K' hK => ?_)
            simp only [p10, p5, cond_true, cond_false]
            clear hpre
            rw [if_neg (by exact Bool.false_ne_true)]
            exact hK _ _ ⟨by simp [upd, Act.put, p10, p5], rfl⟩
          · -- 12: Op.binOp BinOp.geq 3 (Operand.tmp 21) (Operand.tmp 23) 3
            have p9 : l 9 = true := hpre _ rfl ⟨9, .data⟩ (by simp) rfl
            have p11 : l 11 = true := hpre _ rfl ⟨11, .data⟩ (by simp) rfl
            have p5 : l 5 = true := hpre _ rfl ⟨5, .guard⟩ (by simp) rfl
            refine wpOp_step rfl (fun K' hK => ?_)
            simp only [p9, p11, p5, cond_true, cond_false]
            clear hpre
            rw [if_neg (by exact Bool.false_ne_true)]
            exact hK _ _ ⟨by simp [upd, Act.put, p9, p11, p5], rfl⟩
          · -- 13: Op.pick (Operand.tmp 17) (Operand.const (Value.bool true)) (
            have p5 : l 5 = true := hpre _ rfl ⟨5, .data⟩ (by simp) rfl
            have p12 : l 12 = true := hpre _ rfl ⟨12, .data⟩ (by simp) rfl
            refine wpOp_step rfl (fun K' hK => ?_)
            simp only [p5, p12, cond_true, cond_false]
            clear hpre
            rw [if_pos (by rfl)]
            go_simp
            exact hK _ _ ⟨by simp [upd, Act.put, p5, p12], rfl⟩
          · -- 14: Op.move (Operand.tmp 25)
            have p13 : l 13 = true := hpre _ rfl ⟨13, .data⟩ (by simp) rfl
            have p11 : l 11 = true := hpre _ rfl ⟨11, .chain⟩ (by simp) rfl
            refine wpOp_step rfl (fun K' hK => ?_)
            simp only [p13, p11, cond_true, cond_false]
            clear hpre
            rw [if_pos (by rfl)]
            go_simp
            exact hK _ _ ⟨by simp [upd, Act.put, p13, p11], rfl⟩
          · -- 15: Op.move (Operand.tmp 5)
            have p14 : l 14 = true := hpre _ rfl ⟨14, .guard⟩ (by simp) rfl
            refine wpOp_step rfl (fun K' hK => ?_)
            simp only [p14, cond_true, cond_false]
            clear hpre
            rw [if_neg (by exact Bool.false_ne_true)]
            exact hK _ _ ⟨by simp [upd, Act.put, p14], rfl⟩
          · -- 16: Op.binOp BinOp.gtr 3 (Operand.tmp 27) (Operand.const (Value.
            have p15 : l 15 = true := hpre _ rfl ⟨15, .data⟩ (by simp) rfl
            have p14 : l 14 = true := hpre _ rfl ⟨14, .guard⟩ (by simp) rfl
            refine wpOp_step rfl (fun K' hK => ?_)
            simp only [p15, p14, cond_true, cond_false]
            clear hpre
            rw [if_neg (by exact Bool.false_ne_true)]
            exact hK _ _ ⟨by simp [upd, Act.put, p15, p14], rfl⟩
          · -- 17: Op.move (Operand.tmp 28)
            have p16 : l 16 = true := hpre _ rfl ⟨16, .data⟩ (by simp) rfl
            have p14 : l 14 = true := hpre _ rfl ⟨14, .chain⟩ (by simp) rfl
            refine wpOp_step rfl (fun K' hK => ?_)
            simp only [p16, p14, cond_true, cond_false]
            clear hpre
            rw [if_neg (by exact Bool.false_ne_true)]
            exact hK _ _ ⟨by simp [upd, Act.put, p16, p14], rfl⟩
          · -- 18: Op.move (Operand.tmp 1)
            have p17 : l 17 = true := hpre _ rfl ⟨17, .guard⟩ (by simp) rfl
            refine wpOp_step rfl (fun K' hK => ?_)
            simp only [p17, cond_true, cond_false]
            clear hpre
            rw [if_neg (by exact Bool.false_ne_true)]
            exact hK _ _ ⟨by simp [upd, Act.put, p17], rfl⟩
          · -- 19: Op.move (Operand.tmp 5)
            have p17 : l 17 = true := hpre _ rfl ⟨17, .guard⟩ (by simp) rfl
            refine wpOp_step rfl (fun K' hK => ?_)
            simp only [p17, cond_true, cond_false]
            clear hpre
            rw [if_neg (by exact Bool.false_ne_true)]
            exact hK _ _ ⟨by simp [upd, Act.put, p17], rfl⟩
          · -- 20: Op.indexAddr 57 (Operand.tmp 30) (Operand.tmp 31)
            have p18 : l 18 = true := hpre _ rfl ⟨18, .data⟩ (by simp) rfl
            have p19 : l 19 = true := hpre _ rfl ⟨19, .data⟩ (by simp) rfl
            have p17 : l 17 = true := hpre _ rfl ⟨17, .guard⟩ (by simp) rfl
            refine wpOp_step rfl (fun K' hK => ?_)
            simp only [p18, p19, p17, cond_true, cond_false]
            clear hpre
            rw [if_neg (by exact Bool.false_ne_true)]
            exact hK _ _ ⟨by simp [upd, Act.put, p18, p19, p17], rfl⟩
          · -- 21: Op.load 3 (Operand.tmp 32)
            have p20 : l 20 = true := hpre _ rfl ⟨20, .data⟩ (by simp) rfl
            have p17 : l 17 = true := hpre _ rfl ⟨17, .guard⟩ (by simp) rfl
            refine wpOp_step rfl (fun K' hK => ?_)
            simp only [p20, p17, cond_true, cond_false]
            clear hpre
            rw [if_neg (by exact Bool.false_ne_true)]
            exact hK _ _ ⟨by simp [upd, Act.put, p20, p17], rfl⟩
          · -- 22: Op.move (Operand.tmp 1)
            have p17 : l 17 = true := hpre _ rfl ⟨17, .guard⟩ (by simp) rfl
            refine wpOp_step rfl (fun K' hK => ?_)
            simp only [p17, cond_true, cond_false]
            clear hpre
            rw [if_neg (by exact Bool.false_ne_true)]
            exact hK _ _ ⟨by simp [upd, Act.put, p17], rfl⟩
          · -- 23: Op.move (Operand.tmp 5)
            have p17 : l 17 = true := hpre _ rfl ⟨17, .guard⟩ (by simp) rfl
            refine wpOp_step rfl (fun K' hK => ?_)
            simp only [p17, cond_true, cond_false]
            clear hpre
            rw [if_neg (by exact Bool.false_ne_true)]
            exact hK _ _ ⟨by simp [upd, Act.put, p17], rfl⟩
          · -- 24: Op.binOp BinOp.sub 3 (Operand.tmp 35) (Operand.const (Value.
            have p23 : l 23 = true := hpre _ rfl ⟨23, .data⟩ (by simp) rfl
            have p17 : l 17 = true := hpre _ rfl ⟨17, .guard⟩ (by simp) rfl
            refine wpOp_step rfl (fun K' hK => ?_)
            simp only [p23, p17, cond_true, cond_false]
            clear hpre
            rw [if_neg (by exact Bool.false_ne_true)]
            exact hK _ _ ⟨by simp [upd, Act.put, p23, p17], rfl⟩
          · -- 25: Op.indexAddr 57 (Operand.tmp 34) (Operand.tmp 36)
            have p22 : l 22 = true := hpre _ rfl ⟨22, .data⟩ (by simp) rfl
            have p24 : l 24 = true := hpre _ rfl ⟨24, .data⟩ (by simp) rfl
            have p17 : l 17 = true := hpre _ rfl ⟨17, .guard⟩ (by simp) rfl
            refine wpOp_step rfl (fun K' hK => ?_)
            simp only [p22, p24, p17, cond_true, cond_false]
            clear hpre
            rw [if_neg (by exact Bool.false_ne_true)]
            exact hK _ _ ⟨by simp [upd, Act.put, p22, p24, p17], rfl⟩
          · -- 26: Op.load 3 (Operand.tmp 37)
            have p25 : l 25 = true := hpre _ rfl ⟨25, .data⟩ (by simp) rfl
            have p17 : l 17 = true := hpre _ rfl ⟨17, .guard⟩ (by simp) rfl
            refine wpOp_step rfl (fun K' hK => ?_)
            simp only [p25, p17, cond_true, cond_false]
            clear hpre
            rw [if_neg (by exact Bool.false_ne_true)]
            exact hK _ _ ⟨by simp [upd, Act.put, p25, p17], rfl⟩
          · -- 27: Op.binOp BinOp.leq 3 (Operand.tmp 33) (Operand.tmp 38) 3
            have p21 : l 21 = true := hpre _ rfl ⟨21, .data⟩ (by simp) rfl
            have p26 : l 26 = true := hpre _ rfl ⟨26, .data⟩ (by simp) rfl
            have p17 : l 17 = true := hpre _ rfl ⟨17, .guard⟩ (by simp) rfl
            refine wpOp_step rfl (fun K' hK => ?_)
            simp only [p21, p26, p17, cond_true, cond_false]
            clear hpre
            rw [if_neg (by exact Bool.false_ne_true)]
            exact hK _ _ ⟨by simp [upd, Act.put, p21, p26, p17], rfl⟩
          · -- 28: Op.pick (Operand.tmp 29) (Operand.tmp 39) (Operand.const (Va
            have p17 : l 17 = true := hpre _ rfl ⟨17, .data⟩ (by simp) rfl
            have p27 : l 27 = true := hpre _ rfl ⟨27, .data⟩ (by simp) rfl
            have p14 : l 14 = true := hpre _ rfl ⟨14, .guard⟩ (by simp) rfl
            refine wpOp_step rfl (fun K' hK => ?_)
            simp only [p17, p27, p14, cond_true, cond_false]
            clear hpre
            rw [if_neg (by exact Bool.false_ne_true)]
            exact hK _ _ ⟨by simp [upd, Act.put, p17, p27, p14], rfl⟩
          · -- 29: Op.pick (Operand.tmp 26) (Operand.const (Value.bool true)) (
            have p14 : l 14 = true := hpre _ rfl ⟨14, .data⟩ (by simp) rfl
            have p28 : l 28 = true := hpre _ rfl ⟨28, .data⟩ (by simp) rfl
            refine wpOp_step rfl (fun K' hK => ?_)
            simp only [p14, p28, cond_true, cond_false]
            clear hpre
            rw [if_pos (by rfl)]
            go_simp
            exact hK _ _ ⟨by simp [upd, Act.put, p14, p28], rfl⟩
        · rintro l a' w9 hall ⟨rfl, rfl⟩
          simp only [hall 0 (by decide), hall 1 (by decide), hall 2 (by decide), hall 3 (by decide), hall 4 (by decide), hall 5 (by decide), hall 6 (by decide), hall 7 (by decide), hall 8 (by decide), hall 9 (by decide), hall 10 (by decide), hall 11 (by decide), hall 12 (by decide), hall 13 (by decide), hall 14 (by decide), hall 15 (by decide), hall 16 (by decide), hall 17 (by decide), hall 18 (by decide), hall 19 (by decide), hall 20 (by decide), hall 21 (by decide), hall 22 (by decide), hall 23 (by decide), hall 24 (by decide), hall 25 (by decide), hall 26 (by decide), hall 27 (by decide), hall 28 (by decide), hall 29 (by decide), cond_true]
          clear hall
          go_wp2
          go_ret
          exact ⟨by rw [HX.out]; rfl, HBd.out.1⟩
      · have hu0' : 0 ≤ u := by omega
        have du0 : decide (u < 0) = false := decide_eq_false hu0
        by_cases huT : (T : Int) ≤ u
        · have HX := Lib.hid (HUk.out u HU.out (.inr huT))
          have duT : decide ((T : Int) ≤ u) = true := decide_eq_true huT
          go_wp2_with fail
          have hx0 : Below wr.heap.size wr wr.drew := (Below.refl _ _).drew
          refine wp_region_inv (by kernel_rfl) (by kernel_rfl) (fun l a' w' => a' = { tmps := #[Value.int .i64 (D : Int), Value.slice (some ⟨b, off, none⟩) n c, undef, undef, u4, Value.int .i64 (k : Int), Value.int .i64 (k : Int), Value.slice (some ⟨b, off, none⟩) n c, Value.int .i64 (n : Int), Value.bool true, u10, u11, bif l 0 then Value.slice (some ⟨b, off, none⟩) n c else u12, bif l 1 then Value.int .i64 (k : Int) else u13, bif l 2 then Value.pointer (some ⟨b, off + k, none⟩) else u14, bif l 3 then Value.int .i64 u else u15, bif l 4 then Value.bool false else u16, bif l 5 then Value.bool false else u17, bif l 6 then Value.slice (some ⟨b, off, none⟩) n c else u18, bif l 7 then Value.int .i64 (k : Int) else u19, bif l 8 then Value.pointer (some ⟨b, off + k, none⟩) else u20, bif l 9 then Value.int .i64 u else u21, bif l 10 then Value.int .i64 (D : Int) else u22, bif l 11 then Value.int .i64 (T : Int) else u23, bif l 12 then Value.bool true else u24, bif l 13 then Value.bool true else u25, bif l 14 then Value.bool true else u26, bif l 15 then undef else u27, bif l 16 then undef else u28, bif l 17 then undef else u29, bif l 18 then undef else u30, bif l 19 then undef else u31, bif l 20 then undef else u32, bif l 21 then undef else u33, bif l 22 then undef else u34, bif l 23 then undef else u35, bif l 24 then undef else u36, bif l 25 then undef else u37, bif l 26 then undef else u38, bif l 27 then undef else u39, bif l 28 then undef else u40, bif l 29 then Value.bool true else u41], defers := [] } ∧ w' = wr.drew) ⟨rfl, rfl⟩ ?_ ?_
          · rintro l a' w' i ⟨rfl, rfl⟩ hi hli hpre
            have hi2 : i < 30 := hi
            have hcase : i = 0 ∨ i = 1 ∨ i = 2 ∨ i = 3 ∨ i = 4 ∨ i = 5 ∨ i = 6 ∨ i = 7 ∨ i = 8 ∨ i = 9 ∨ i = 10 ∨ i = 11 ∨ i = 12 ∨ i = 13 ∨ i = 14 ∨ i = 15 ∨ i = 16 ∨ i = 17 ∨ i = 18 ∨ i = 19 ∨ i = 20 ∨ i = 21 ∨ i = 22 ∨ i = 23 ∨ i = 24 ∨ i = 25 ∨ i = 26 ∨ i = 27 ∨ i = 28 ∨ i = 29 := by omega
            clear hi hi2
            rcases hcase with rfl | rfl | rfl | rfl | rfl | rfl | rfl | rfl | rfl | rfl | rfl | rfl | rfl | rfl | rfl | rfl | rfl | rfl | rfl | rfl | rfl | rfl | rfl | rfl | rfl | rfl | rfl | rfl | rfl | rfl
            · -- 0: Op.move (Operand.tmp 1)
              refine wpOp_step rfl (fun K' hK => ?_)
              clear hpre
              rw [if_pos (by rfl)]
              go_simp
              exact hK _ _ ⟨by simp [upd, Act.put], rfl⟩
            · -- 1: Op.move (Operand.tmp 5)
              refine wpOp_step rfl (fun K' hK => ?_)
              clear hpre
              rw [if_pos (by rfl)]
              go_simp
              exact hK _ _ ⟨by simp [upd, Act.put], rfl⟩
            · -- 2: Op.indexAddr 57 (Operand.tmp 12) (Operand.tmp 13)
              have p0 : l 0 = true := hpre _ rfl ⟨0, .data⟩ (by simp) rfl
              have p1 : l 1 = true := hpre _ rfl ⟨1, .data⟩ (by simp) rfl
              refine wpOp_step rfl (fun K' hK => ?_)
              simp only [p0, p1, cond_true, cond_false]
              clear hpre
              rw [if_pos (by rfl)]
              have l1 : (0 : Int) ≤ (k : Int) := by omega
              have l2 : (k : Int) < (n : Int) := by omega
              go_simp
              exact hK _ _ ⟨by simp [upd, Act.put, p0, p1], rfl⟩
            · -- 3: Op.load 3 (Operand.tmp 14)
              have p2 : l 2 = true := hpre _ rfl ⟨2, .data⟩ (by simp) rfl
              refine wpOp_step rfl (fun K' hK => ?_)
              simp only [p2, cond_true, cond_false]
              clear hpre
              rw [if_pos (by rfl)]
              have z1 := HFk.out _ hx0
              go_simp
              exact hK _ _ ⟨by simp [upd, Act.put, p2], rfl⟩
            · -- 4: Op.binOp BinOp.lss 3 (Operand.tmp 15) (Operand.const (Value.
              have p3 : l 3 = true := hpre _ rfl ⟨3, .data⟩ (by simp) rfl
              refine wpOp_step rfl (fun K' hK => ?_)
              simp only [p3, cond_true, cond_false]
              clear hpre
              rw [if_pos (by rfl)]
              go_simp
              exact hK _ _ ⟨by simp [upd, Act.put, p3, du0], rfl⟩
            · -- 5: Op.move (Operand.tmp 16)
              have p4 : l 4 = true := hpre _ rfl ⟨4, .data⟩ (by simp) rfl
              refine wpOp_step rfl (fun K' hK => ?_)
              simp only [p4, cond_true, cond_false]
              clear hpre
              rw [if_pos (by rfl)]
              go_simp
              exact hK _ _ ⟨by simp [upd, Act.put, p4], rfl⟩
            · -- 6: Op.move (Operand.tmp 1)
              have p5 : l 5 = true := hpre _ rfl ⟨5, .guard⟩ (by simp) rfl
              refine wpOp_step rfl (fun K' hK => ?_)
              simp only [p5, cond_true, cond_false]
              clear hpre
              rw [if_pos (by rfl)]
              go_simp
              exact hK _ _ ⟨by simp [upd, Act.put, p5], rfl⟩
            · -- 7: Op.move (Operand.tmp 5)
              have p5 : l 5 = true := hpre _ rfl ⟨5, .guard⟩ (by simp) rfl
              refine wpOp_step rfl (fun K' hK => ?_)
              simp only [p5, cond_true, cond_false]
              clear hpre
              rw [if_pos (by rfl)]
              go_simp
              exact hK _ _ ⟨by simp [upd, Act.put, p5], rfl⟩
            · -- 8: Op.indexAddr 57 (Operand.tmp 18) (Operand.tmp 19)
              have p6 : l 6 = true := hpre _ rfl ⟨6, .data⟩ (by simp) rfl
              have p7 : l 7 = true := hpre _ rfl ⟨7, .data⟩ (by simp) rfl
              have p5 : l 5 = true := hpre _ rfl ⟨5, .guard⟩ (by simp) rfl
              refine wpOp_step rfl (fun K' hK => ?_)
              simp only [p6, p7, p5, cond_true, cond_false]
              clear hpre
              rw [if_pos (by rfl)]
              have l1 : (0 : Int) ≤ (k : Int) := by omega
              have l2 : (k : Int) < (n : Int) := by omega
              go_simp
              exact hK _ _ ⟨by simp [upd, Act.put, p6, p7, p5], rfl⟩
            · -- 9: Op.load 3 (Operand.tmp 20)
              have p8 : l 8 = true := hpre _ rfl ⟨8, .data⟩ (by simp) rfl
              have p5 : l 5 = true := hpre _ rfl ⟨5, .guard⟩ (by simp) rfl
              refine wpOp_step rfl (fun K' hK => ?_)
              simp only [p8, p5, cond_true, cond_false]
              clear hpre
              rw [if_pos (by rfl)]
              have z1 := HFk.out _ hx0
              go_simp
              exact hK _ _ ⟨by simp [upd, Act.put, p8, p5], rfl⟩
            · -- 10: Op.move (Operand.tmp 0)
              have p5 : l 5 = true := hpre _ rfl ⟨5, .guard⟩ (by simp) rfl
              refine wpOp_step rfl (fun K' hK => ?_)
              simp only [p5, cond_true, cond_false]
              clear hpre
              rw [if_pos (by rfl)]
              go_simp
              exact hK _ _ ⟨by simp [upd, Act.put, p5], rfl⟩
            · -- 11: Op.call { callee := Callee.value (Operand.func 52), args := 
              have p10 : l 10 = true := hpre _ rfl ⟨10, .data⟩ (by simp) rfl
              have p5 : l 5 = true := hpre _ rfl ⟨5, .chain⟩ (by simp) rfl
              refine wpOp_step rfl (fun K' hK => ?_)
              simp only [p10, p5, cond_true, cond_false]
              clear hpre
              rw [if_pos (by rfl)]
              go_simp
              refine (HR.out _).mono ?_
              rintro e w5 ⟨rfl, rfl⟩
              exact hK _ _ ⟨by simp [upd, Act.put, p10, p5], rfl⟩
            · -- 12: Op.binOp BinOp.geq 3 (Operand.tmp 21) (Operand.tmp 23) 3
              have p9 : l 9 = true := hpre _ rfl ⟨9, .data⟩ (by simp) rfl
              have p11 : l 11 = true := hpre _ rfl ⟨11, .data⟩ (by simp) rfl
              have p5 : l 5 = true := hpre _ rfl ⟨5, .guard⟩ (by simp) rfl
              refine wpOp_step rfl (fun K' hK => ?_)
              simp only [p9, p11, p5, cond_true, cond_false]
              clear hpre
              rw [if_pos (by rfl)]
              go_simp
              exact hK _ _ ⟨by simp [upd, Act.put, p9, p11, p5, duT], rfl⟩
            · -- 13: Op.pick (Operand.tmp 17) (Operand.const (Value.bool true)) (
              have p5 : l 5 = true := hpre _ rfl ⟨5, .data⟩ (by simp) rfl
              have p12 : l 12 = true := hpre _ rfl ⟨12, .data⟩ (by simp) rfl
              refine wpOp_step rfl (fun K' hK => ?_)
              simp only [p5, p12, cond_true, cond_false]
              clear hpre
              rw [if_pos (by rfl)]
              go_simp
              exact hK _ _ ⟨by simp [upd, Act.put, p5, p12], rfl⟩
            · -- 14: Op.move (Operand.tmp 25)
              have p13 : l 13 = true := hpre _ rfl ⟨13, .data⟩ (by simp) rfl
              have p11 : l 11 = true := hpre _ rfl ⟨11, .chain⟩ (by simp) rfl
              refine wpOp_step rfl (fun K' hK => ?_)
              simp only [p13, p11, cond_true, cond_false]
              clear hpre
              rw [if_pos (by rfl)]
              go_simp
              exact hK _ _ ⟨by simp [upd, Act.put, p13, p11], rfl⟩
            · -- 15: Op.move (Operand.tmp 5)
              have p14 : l 14 = true := hpre _ rfl ⟨14, .guard⟩ (by simp) rfl
              refine wpOp_step rfl (fun K' hK => ?_)
              simp only [p14, cond_true, cond_false]
              clear hpre
              rw [if_neg (by exact Bool.false_ne_true)]
              exact hK _ _ ⟨by simp [upd, Act.put, p14], rfl⟩
            · -- 16: Op.binOp BinOp.gtr 3 (Operand.tmp 27) (Operand.const (Value.
              have p15 : l 15 = true := hpre _ rfl ⟨15, .data⟩ (by simp) rfl
              have p14 : l 14 = true := hpre _ rfl ⟨14, .guard⟩ (by simp) rfl
              refine wpOp_step rfl (fun K' hK => ?_)
              simp only [p15, p14, cond_true, cond_false]
              clear hpre
              rw [if_neg (by exact Bool.false_ne_true)]
              exact hK _ _ ⟨by simp [upd, Act.put, p15, p14], rfl⟩
            · -- 17: Op.move (Operand.tmp 28)
              have p16 : l 16 = true := hpre _ rfl ⟨16, .data⟩ (by simp) rfl
              have p14 : l 14 = true := hpre _ rfl ⟨14, .chain⟩ (by simp) rfl
              refine wpOp_step rfl (fun K' hK => ?_)
              simp only [p16, p14, cond_true, cond_false]
              clear hpre
              rw [if_neg (by exact Bool.false_ne_true)]
              exact hK _ _ ⟨by simp [upd, Act.put, p16, p14], rfl⟩
            · -- 18: Op.move (Operand.tmp 1)
              have p17 : l 17 = true := hpre _ rfl ⟨17, .guard⟩ (by simp) rfl
              refine wpOp_step rfl (fun K' hK => ?_)
              simp only [p17, cond_true, cond_false]
              clear hpre
              rw [if_neg (by exact Bool.false_ne_true)]
              exact hK _ _ ⟨by simp [upd, Act.put, p17], rfl⟩
            · -- 19: Op.move (Operand.tmp 5)
              have p17 : l 17 = true := hpre _ rfl ⟨17, .guard⟩ (by simp) rfl
              refine wpOp_step rfl (fun K' hK => ?_)
              simp only [p17, cond_true, cond_false]
              clear hpre
              rw [if_neg (by exact Bool.false_ne_true)]
              exact hK _ _ ⟨by simp [upd, Act.put, p17], rfl⟩
            · -- 20: Op.indexAddr 57 (Operand.tmp 30) (Operand.tmp 31)
              have p18 : l 18 = true := hpre _ rfl ⟨18, .data⟩ (by simp) rfl
              have p19 : l 19 = true := hpre _ rfl ⟨19, .data⟩ (by simp) rfl
              have p17 : l 17 = true := hpre _ rfl ⟨17, .guard⟩ (by simp) rfl
              refine wpOp_step rfl (fun K' hK => ?_)
              simp only [p18, p19, p17, cond_true, cond_false]
              clear hpre
              rw [if_neg (by exact Bool.false_ne_true)]
              exact hK _ _ ⟨by simp [upd, Act.put, p18, p19, p17], rfl⟩
            · -- 21: Op.load 3 (Operand.tmp 32)
              have p20 : l 20 = true := hpre _ rfl ⟨20, .data⟩ (by simp) rfl
              have p17 : l 17 = true := hpre _ rfl ⟨17, .guard⟩ (by simp) rfl
              refine wpOp_step rfl (fun K' hK => ?_)
              simp only [p20, p17, cond_true, cond_false]
              clear hpre
              rw [if_neg (by exact Bool.false_ne_true)]
              exact hK _ _ ⟨by simp [upd, Act.put, p20, p17], rfl⟩
            · -- 22: Op.move (Operand.tmp 1)
              have p17 : l 17 = true := hpre _ rfl ⟨17, .guard⟩ (by simp) rfl
              refine wpOp_step rfl (fun K' hK => ?_)
              simp only [p17, cond_true, cond_false]
              clear hpre
              rw [if_neg (by exact Bool.false_ne_true)]
              exact hK _ _ ⟨by simp [upd, Act.put, p17], rfl⟩
            · -- 23: Op.move (Operand.tmp 5)
              have p17 : l 17 = true := hpre _ rfl ⟨17, .guard⟩ (by simp) rfl
              refine wpOp_step rfl (fun K' hK => ?_)
              simp only [p17, cond_true, cond_false]
              clear hpre
              rw [if_neg (by exact Bool.false_ne_true)]
              exact hK _ _ ⟨by simp [upd, Act.put, p17], rfl⟩
            · -- 24: Op.binOp BinOp.sub 3 (Operand.tmp 35) (Operand.const (Value.
              have p23 : l 23 = true := hpre _ rfl ⟨23, .data⟩ (by simp) rfl
              have p17 : l 17 = true := hpre _ rfl ⟨17, .guard⟩ (by simp) rfl
              refine wpOp_step rfl (fun K' hK => ?_)
              simp only [p23, p17, cond_true, cond_false]
              clear hpre
              rw [if_neg (by exact Bool.false_ne_true)]
              exact hK _ _ ⟨by simp [upd, Act.put, p23, p17], rfl⟩
            · -- 25: Op.indexAddr 57 (Operand.tmp 34) (Operand.tmp 36)
              have p22 : l 22 = true := hpre _ rfl ⟨22, .data⟩ (by simp) rfl
              have p24 : l 24 = true := hpre _ rfl ⟨24, .data⟩ (by simp) rfl
              have p17 : l 17 = true := hpre _ rfl ⟨17, .guard⟩ (by simp) rfl
              refine wpOp_step rfl (fun K' hK => ?_)
              simp only [p22, p24, p17, cond_true, cond_false]
              clear hpre
              rw [if_neg (by exact Bool.false_ne_true)]
              exact hK _ _ ⟨by simp [upd, Act.put, p22, p24, p17], rfl⟩
            · -- 26: Op.load 3 (Operand.tmp 37)
              have p25 : l 25 = true := hpre _ rfl ⟨25, .data⟩ (by simp) rfl
              have p17 : l 17 = true := hpre _ rfl ⟨17, .guard⟩ (by simp) rfl
              refine wpOp_step rfl (fun K' hK => ?_)
              simp only [p25, p17, cond_true, cond_false]
              clear hpre
              rw [if_neg (by exact Bool.false_ne_true)]
              exact hK _ _ ⟨by simp [upd, Act.put, p25, p17], rfl⟩
            · -- 27: Op.binOp BinOp.leq 3 (Operand.tmp 33) (Operand.tmp 38) 3
              have p21 : l 21 = true := hpre _ rfl ⟨21, .data⟩ (by simp) rfl
              have p26 : l 26 = true := hpre _ rfl ⟨26, .data⟩ (by simp) rfl
              have p17 : l 17 = true := hpre _ rfl ⟨17, .guard⟩ (by simp) rfl
              refine wpOp_step rfl (fun K' hK => ?_)
              simp only [p21, p26, p17, cond_true, cond_false]
              clear hpre
              rw [if_neg (by exact Bool.false_ne_true)]
              exact hK _ _ ⟨by simp [upd, Act.put, p21, p26, p17], rfl⟩
            · -- 28: Op.pick (Operand.tmp 29) (Operand.tmp 39) (Operand.const (Va
              have p17 : l 17 = true := hpre _ rfl ⟨17, .data⟩ (by simp) rfl
              have p27 : l 27 = true := hpre _ rfl ⟨27, .data⟩ (by simp) rfl
              have p14 : l 14 = true := hpre _ rfl ⟨14, .guard⟩ (by simp) rfl
              refine wpOp_step rfl (fun K' hK => ?_)
              simp only [p17, p27, p14, cond_true, cond_false]
              clear hpre
              rw [if_neg (by exact Bool.false_ne_true)]
              exact hK _ _ ⟨by simp [upd, Act.put, p17, p27, p14], rfl⟩
            · -- 29: Op.pick (Operand.tmp 26) (Operand.const (Value.bool true)) (
              have p14 : l 14 = true := hpre _ rfl ⟨14, .data⟩ (by simp) rfl
              have p28 : l 28 = true := hpre _ rfl ⟨28, .data⟩ (by simp) rfl
              refine wpOp_step rfl (fun K' hK => ?_)
              simp only [p14, p28, cond_true, cond_false]
              clear hpre
              rw [if_pos (by rfl)]
              go_simp
              exact hK _ _ ⟨by simp [upd, Act.put, p14, p28], rfl⟩
          · rintro l a' w9 hall ⟨rfl, rfl⟩
            simp only [hall 0 (by decide), hall 1 (by decide), hall 2 (by decide), hall 3 (by decide), hall 4 (by decide), hall 5 (by decide), hall 6 (by decide), hall 7 (by decide), hall 8 (by decide), hall 9 (by decide), hall 10 (by decide), hall 11 (by decide), hall 12 (by decide), hall 13 (by decide), hall 14 (by decide), hall 15 (by decide), hall 16 (by decide), hall 17 (by decide), hall 18 (by decide), hall 19 (by decide), hall 20 (by decide), hall 21 (by decide), hall 22 (by decide), hall 23 (by decide), hall 24 (by decide), hall 25 (by decide), hall 26 (by decide), hall 27 (by decide), hall 28 (by decide), hall 29 (by decide), cond_true]
            clear hall
            go_wp2
            go_ret
            exact ⟨by rw [HX.out]; rfl, HBd.out.1⟩
        · have huT' : u < (T : Int) := by omega
          have duT : decide ((T : Int) ≤ u) = false := decide_eq_false huT
          have HIs : Hid (isr D (f k) = true) := Lib.hid (by rw [← HU.out]; exact (HI.out u).2 ⟨hu0', huT'⟩)
          rcases Nat.eq_zero_or_pos k with hk0 | hk0
          · have HK0 := Lib.hid hk0
            have hk0i : (k : Int) = 0 := by omega
            have hk0d : decide (0 < (k : Int)) = false := decide_eq_false (by omega)
            have hk0e : decide (0 < k) = false := decide_eq_false (by omega)
            have HL' : Hid (Lst D (k + 1) f) := Lib.hid (fun i hi => by
              have : i = k := by have := HK0.out; omega
              subst this
              exact ⟨HIs.out, fun j hj => by have := HK0.out; omega⟩)
            clear hk0 hk0i
            go_wp2_with fail
            have hx0 : Below wr.heap.size wr wr.drew := (Below.refl _ _).drew
            refine wp_region_inv (by kernel_rfl) (by kernel_rfl) (fun l a' w' => a' = { tmps := #[Value.int .i64 (D : Int), Value.slice (some ⟨b, off, none⟩) n c, undef, undef, u4, Value.int .i64 (k : Int), Value.int .i64 (k : Int), Value.slice (some ⟨b, off, none⟩) n c, Value.int .i64 (n : Int), Value.bool true, u10, u11, bif l 0 then Value.slice (some ⟨b, off, none⟩) n c else u12, bif l 1 then Value.int .i64 (k : Int) else u13, bif l 2 then Value.pointer (some ⟨b, off + k, none⟩) else u14, bif l 3 then Value.int .i64 u else u15, bif l 4 then Value.bool false else u16, bif l 5 then Value.bool false else u17, bif l 6 then Value.slice (some ⟨b, off, none⟩) n c else u18, bif l 7 then Value.int .i64 (k : Int) else u19, bif l 8 then Value.pointer (some ⟨b, off + k, none⟩) else u20, bif l 9 then Value.int .i64 u else u21, bif l 10 then Value.int .i64 (D : Int) else u22, bif l 11 then Value.int .i64 (T : Int) else u23, bif l 12 then Value.bool false else u24, bif l 13 then Value.bool false else u25, bif l 14 then Value.bool false else u26, bif l 15 then Value.int .i64 (k : Int) else u27, bif l 16 then Value.bool false else u28, bif l 17 then Value.bool false else u29, bif l 18 then undef else u30, bif l 19 then undef else u31, bif l 20 then undef else u32, bif l 21 then undef else u33, bif l 22 then undef else u34, bif l 23 then undef else u35, bif l 24 then undef else u36, bif l 25 then undef else u37, bif l 26 then undef else u38, bif l 27 then undef else u39, bif l 28 then Value.bool false else u40, bif l 29 then Value.bool false else u41], defers := [] } ∧ w' = wr.drew) ⟨rfl, rfl⟩ ?_ ?_
            · rintro l a' w' i ⟨rfl, rfl⟩ hi hli hpre
              have hi2 : i < 30 := hi
              have hcase : i = 0 ∨ i = 1 ∨ i = 2 ∨ i = 3 ∨ i = 4 ∨ i = 5 ∨ i = 6 ∨ i = 7 ∨ i = 8 ∨ i = 9 ∨ i = 10 ∨ i = 11 ∨ i = 12 ∨ i = 13 ∨ i = 14 ∨ i = 15 ∨ i = 16 ∨ i = 17 ∨ i = 18 ∨ i = 19 ∨ i = 20 ∨ i = 21 ∨ i = 22 ∨ i = 23 ∨ i = 24 ∨ i = 25 ∨ i = 26 ∨ i = 27 ∨ i = 28 ∨ i = 29 := by omega
              clear hi hi2
              rcases hcase with rfl | rfl | rfl | rfl | rfl | rfl | rfl | rfl | rfl | rfl | rfl | rfl | rfl | rfl | rfl | rfl | rfl | rfl | rfl | rfl | rfl | rfl | rfl | rfl | rfl | rfl | rfl | rfl | rfl | rfl
              · -- 0: Op.move (Operand.tmp 1)
                refine wpOp_step rfl (fun K' hK => ?_)
                clear hpre
                rw [if_pos (by rfl)]
                go_simp
                exact hK _ _ ⟨by simp [upd, Act.put], rfl⟩
              · -- 1: Op.move (Operand.tmp 5)
                refine wpOp_step rfl (fun K' hK => ?_)
                clear hpre
                rw [if_pos (by rfl)]
                go_simp
                exact hK _ _ ⟨by simp [upd, Act.put], rfl⟩
              · -- 2: Op.indexAddr 57 (Operand.tmp 12) (Operand.tmp 13)
                have p0 : l 0 = true := hpre _ rfl ⟨0, .data⟩ (by simp) rfl
                have p1 : l 1 = true := hpre _ rfl ⟨1, .data⟩ (by simp) rfl
                refine wpOp_step rfl (fun K' hK => ?_)
                simp only [p0, p1, cond_true, cond_false]
                clear hpre
                rw [if_pos (by rfl)]
                have l1 : (0 : Int) ≤ (k : Int) := by omega
                have l2 : (k : Int) < (n : Int) := by omega
                go_simp
                exact hK _ _ ⟨by simp [upd, Act.put, p0, p1], rfl⟩
              · -- 3: Op.load 3 (Operand.tmp 14)
                have p2 : l 2 = true := hpre _ rfl ⟨2, .data⟩ (by simp) rfl
                refine wpOp_step rfl (fun K' hK => ?_)
                simp only [p2, cond_true, cond_false]
                clear hpre
                rw [if_pos (by rfl)]
                have z1 := HFk.out _ hx0
                go_simp
                exact hK _ _ ⟨by simp [upd, Act.put, p2], rfl⟩
              · -- 4: Op.binOp BinOp.lss 3 (Operand.tmp 15) (Operand.const (Value.
                have p3 : l 3 = true := hpre _ rfl ⟨3, .data⟩ (by simp) rfl
                refine wpOp_step rfl (fun K' hK => ?_)
                simp only [p3, cond_true, cond_false]
                clear hpre
                rw [if_pos (by rfl)]
                go_simp
                exact hK _ _ ⟨by simp [upd, Act.put, p3, du0], rfl⟩
              · -- 5: Op.move (Operand.tmp 16)
                have p4 : l 4 = true := hpre _ rfl ⟨4, .data⟩ (by simp) rfl
                refine wpOp_step rfl (fun K' hK => ?_)
                simp only [p4, cond_true, cond_false]
                clear hpre
                rw [if_pos (by rfl)]
                go_simp
                exact hK _ _ ⟨by simp [upd, Act.put, p4], rfl⟩
              · -- 6: Op.move (Operand.tmp 1)
                have p5 : l 5 = true := hpre _ rfl ⟨5, .guard⟩ (by simp) rfl
                refine wpOp_step rfl (fun K' hK => ?_)
                simp only [p5, cond_true, cond_false]
                clear hpre
                rw [if_pos (by rfl)]
                go_simp
                exact hK _ _ ⟨by simp [upd, Act.put, p5], rfl⟩
              · -- 7: Op.move (Operand.tmp 5)
                have p5 : l 5 = true := hpre _ rfl ⟨5, .guard⟩ (by simp) rfl
                refine wpOp_step rfl (fun K' hK => ?_)
                simp only [p5, cond_true, cond_false]
                clear hpre
                rw [if_pos (by rfl)]
                go_simp
                exact hK _ _ ⟨by simp [upd, Act.put, p5], rfl⟩
              · -- 8: Op.indexAddr 57 (Operand.tmp 18) (Operand.tmp 19)
                have p6 : l 6 = true := hpre _ rfl ⟨6, .data⟩ (by simp) rfl
                have p7 : l 7 = true := hpre _ rfl ⟨7, .data⟩ (by simp) rfl
                have p5 : l 5 = true := hpre _ rfl ⟨5, .guard⟩ (by simp) rfl
                refine wpOp_step rfl (fun K' hK => ?_)
                simp only [p6, p7, p5, cond_true, cond_false]
                clear hpre
                rw [if_pos (by rfl)]
                have l1 : (0 : Int) ≤ (k : Int) := by omega
                have l2 : (k : Int) < (n : Int) := by omega
                go_simp
                exact hK _ _ ⟨by simp [upd, Act.put, p6, p7, p5], rfl⟩
              · -- 9: Op.load 3 (Operand.tmp 20)
                have p8 : l 8 = true := hpre _ rfl ⟨8, .data⟩ (by simp) rfl
                have p5 : l 5 = true := hpre _ rfl ⟨5, .guard⟩ (by simp) rfl
                refine wpOp_step rfl (fun K' hK => ?_)
                simp only [p8, p5, cond_true, cond_false]
                clear hpre
                rw [if_pos (by rfl)]
                have z1 := HFk.out _ hx0
                go_simp
                exact hK _ _ ⟨by simp [upd, Act.put, p8, p5], rfl⟩
              · -- 10: Op.move (Operand.tmp 0)
                have p5 : l 5 = true := hpre _ rfl ⟨5, .guard⟩ (by simp) rfl
                refine wpOp_step rfl (fun K' hK => ?_)
                simp only [p5, cond_true, cond_false]
                clear hpre
                rw [if_pos (by rfl)]
                go_simp
                exact hK _ _ ⟨by simp [upd, Act.put, p5], rfl⟩
              · -- 11: Op.call { callee := Callee.value (Operand.func 52), args := 
                have p10 : l 10 = true := hpre _ rfl ⟨10, .data⟩ (by simp) rfl
                have p5 : l 5 = true := hpre _ rfl ⟨5, .chain⟩ (by simp) rfl
                refine wpOp_step rfl (fun K' hK => ?_)
                simp only [p10, p5, cond_true, cond_false]
                clear hpre
                rw [if_pos (by rfl)]
                go_simp
                refine (HR.out _).mono ?_
                rintro e w5 ⟨rfl, rfl⟩
                exact hK _ _ ⟨by simp [upd, Act.put, p10, p5], rfl⟩
              · -- 12: Op.binOp BinOp.geq 3 (Operand.tmp 21) (Operand.tmp 23) 3
                have p9 : l 9 = true := hpre _ rfl ⟨9, .data⟩ (by simp) rfl
                have p11 : l 11 = true := hpre _ rfl ⟨11, .data⟩ (by simp) rfl
                have p5 : l 5 = true := hpre _ rfl ⟨5, .guard⟩ (by simp) rfl
                refine wpOp_step rfl (fun K' hK => ?_)
                simp only [p9, p11, p5, cond_true, cond_false]
                clear hpre
                rw [if_pos (by rfl)]
                go_simp
                exact hK _ _ ⟨by simp [upd, Act.put, p9, p11, p5, duT], rfl⟩
              · -- 13: Op.pick (Operand.tmp 17) (Operand.const (Value.bool true)) (
                have p5 : l 5 = true := hpre _ rfl ⟨5, .data⟩ (by simp) rfl
                have p12 : l 12 = true := hpre _ rfl ⟨12, .data⟩ (by simp) rfl
                refine wpOp_step rfl (fun K' hK => ?_)
                simp only [p5, p12, cond_true, cond_false]
                clear hpre
                rw [if_pos (by rfl)]
                go_simp
                exact hK _ _ ⟨by simp [upd, Act.put, p5, p12], rfl⟩
              · -- 14: Op.move (Operand.tmp 25)
                have p13 : l 13 = true := hpre _ rfl ⟨13, .data⟩ (by simp) rfl
                have p11 : l 11 = true := hpre _ rfl ⟨11, .chain⟩ (by simp) rfl
                refine wpOp_step rfl (fun K' hK => ?_)
                simp only [p13, p11, cond_true, cond_false]
                clear hpre
                rw [if_pos (by rfl)]
                go_simp
                exact hK _ _ ⟨by simp [upd, Act.put, p13, p11], rfl⟩
              · -- 15: Op.move (Operand.tmp 5)
                have p14 : l 14 = true := hpre _ rfl ⟨14, .guard⟩ (by simp) rfl
                refine wpOp_step rfl (fun K' hK => ?_)
                simp only [p14, cond_true, cond_false]
                clear hpre
                rw [if_pos (by rfl)]
                go_simp
                exact hK _ _ ⟨by simp [upd, Act.put, p14], rfl⟩
              · -- 16: Op.binOp BinOp.gtr 3 (Operand.tmp 27) (Operand.const (Value.
                have p15 : l 15 = true := hpre _ rfl ⟨15, .data⟩ (by simp) rfl
                have p14 : l 14 = true := hpre _ rfl ⟨14, .guard⟩ (by simp) rfl
                refine wpOp_step rfl (fun K' hK => ?_)
                simp only [p15, p14, cond_true, cond_false]
                clear hpre
                rw [if_pos (by rfl)]
                go_simp
                exact hK _ _ ⟨by simp [upd, Act.put, p15, p14, hk0d, hk0e], rfl⟩
              · -- 17: Op.move (Operand.tmp 28)
                have p16 : l 16 = true := hpre _ rfl ⟨16, .data⟩ (by simp) rfl
                have p14 : l 14 = true := hpre _ rfl ⟨14, .chain⟩ (by simp) rfl
                refine wpOp_step rfl (fun K' hK => ?_)
                simp only [p16, p14, cond_true, cond_false]
                clear hpre
                rw [if_pos (by rfl)]
                go_simp
                exact hK _ _ ⟨by simp [upd, Act.put, p16, p14], rfl⟩
              · -- 18: Op.move (Operand.tmp 1)
                have p17 : l 17 = true := hpre _ rfl ⟨17, .guard⟩ (by simp) rfl
                refine wpOp_step rfl (fun K' hK => ?_)
                simp only [p17, cond_true, cond_false]
                clear hpre
                rw [if_neg (by exact Bool.false_ne_true)]
                exact hK _ _ ⟨by simp [upd, Act.put, p17], rfl⟩
              · -- 19: Op.move (Operand.tmp 5)
                have p17 : l 17 = true := hpre _ rfl ⟨17, .guard⟩ (by simp) rfl
                refine wpOp_step rfl (fun K' hK => ?_)
                simp only [p17, cond_true, cond_false]
                clear hpre
                rw [if_neg (by exact Bool.false_ne_true)]
                exact hK _ _ ⟨by simp [upd, Act.put, p17], rfl⟩
              · -- 20: Op.indexAddr 57 (Operand.tmp 30) (Operand.tmp 31)
                have p18 : l 18 = true := hpre _ rfl ⟨18, .data⟩ (by simp) rfl
                have p19 : l 19 = true := hpre _ rfl ⟨19, .data⟩ (by simp) rfl
                have p17 : l 17 = true := hpre _ rfl ⟨17, .guard⟩ (by simp) rfl
                refine wpOp_step rfl (fun K' hK => ?_)
                simp only [p18, p19, p17, cond_true, cond_false]
                clear hpre
                rw [if_neg (by exact Bool.false_ne_true)]
                exact hK _ _ ⟨by simp [upd, Act.put, p18, p19, p17], rfl⟩
              · -- 21: Op.load 3 (Operand.tmp 32)
                have p20 : l 20 = true := hpre _ rfl ⟨20, .data⟩ (by simp) rfl
                have p17 : l 17 = true := hpre _ rfl ⟨17, .guard⟩ (by simp) rfl
                refine wpOp_step rfl (fun K' hK => ?_)
                simp only [p20, p17, cond_true, cond_false]
                clear hpre
                rw [if_neg (by exact Bool.false_ne_true)]
                exact hK _ _ ⟨by simp [upd, Act.put, p20, p17], rfl⟩
              · -- 22: Op.move (Operand.tmp 1)
                have p17 : l 17 = true := hpre _ rfl ⟨17, .guard⟩ (by simp) rfl
                refine wpOp_step rfl (fun K' hK => ?_)
                simp only [p17, cond_true, cond_false]
                clear hpre
                rw [if_neg (by exact Bool.false_ne_true)]
                exact hK _ _ ⟨by simp [upd, Act.put, p17], rfl⟩
              · -- 23: Op.move (Operand.tmp 5)
                have p17 : l 17 = true := hpre _ rfl ⟨17, .guard⟩ (by simp) rfl
                refine wpOp_step rfl (fun K' hK => ?_)
                simp only [p17, cond_true, cond_false]
                clear hpre
                rw [if_neg (by exact Bool.false_ne_true)]
                exact hK _ _ ⟨by simp [upd, Act.put, p17], rfl⟩
              · -- 24: Op.binOp BinOp.sub 3 (Operand.tmp 35) (Operand.const (Value.
                have p23 : l 23 = true := hpre _ rfl ⟨23, .data⟩ (by simp) rfl
                have p17 : l 17 = true := hpre _ rfl ⟨17, .guard⟩ (by simp) rfl
                refine wpOp_step rfl (fun K' hK => ?_)
                simp only [p23, p17, cond_true, cond_false]
                clear hpre
                rw [if_neg (by exact Bool.false_ne_true)]
                exact hK _ _ ⟨by simp [upd, Act.put, p23, p17], rfl⟩
              · -- 25: Op.indexAddr 57 (Operand.tmp 34) (Operand.tmp 36)
                have p22 : l 22 = true := hpre _ rfl ⟨22, .data⟩ (by simp) rfl
                have p24 : l 24 = true := hpre _ rfl ⟨24, .data⟩ (by simp) rfl
                have p17 : l 17 = true := hpre _ rfl ⟨17, .guard⟩ (by simp) rfl
                refine wpOp_step rfl (fun K' hK => ?_)
                simp only [p22, p24, p17, cond_true, cond_false]
                clear hpre
                rw [if_neg (by exact Bool.false_ne_true)]
                exact hK _ _ ⟨by simp [upd, Act.put, p22, p24, p17], rfl⟩
              · -- 26: Op.load 3 (Operand.tmp 37)
                have p25 : l 25 = true := hpre _ rfl ⟨25, .data⟩ (by simp) rfl
                have p17 : l 17 = true := hpre _ rfl ⟨17, .guard⟩ (by simp) rfl
                refine wpOp_step rfl (fun K' hK => ?_)
                simp only [p25, p17, cond_true, cond_false]
                clear hpre
                rw [if_neg (by exact Bool.false_ne_true)]
                exact hK _ _ ⟨by simp [upd, Act.put, p25, p17], rfl⟩
              · -- 27: Op.binOp BinOp.leq 3 (Operand.tmp 33) (Operand.tmp 38) 3
                have p21 : l 21 = true := hpre _ rfl ⟨21, .data⟩ (by simp) rfl
                have p26 : l 26 = true := hpre _ rfl ⟨26, .data⟩ (by simp) rfl
                have p17 : l 17 = true := hpre _ rfl ⟨17, .guard⟩ (by simp) rfl
                refine wpOp_step rfl (fun K' hK => ?_)
                simp only [p21, p26, p17, cond_true, cond_false]
                clear hpre
                rw [if_neg (by exact Bool.false_ne_true)]
                exact hK _ _ ⟨by simp [upd, Act.put, p21, p26, p17], rfl⟩
              · -- 28: Op.pick (Operand.tmp 29) (Operand.tmp 39) (Operand.const (Va
                have p17 : l 17 = true := hpre _ rfl ⟨17, .data⟩ (by simp) rfl
                have p27 : l 27 = true := hpre _ rfl ⟨27, .data⟩ (by simp) rfl
                have p14 : l 14 = true := hpre _ rfl ⟨14, .guard⟩ (by simp) rfl
                refine wpOp_step rfl (fun K' hK => ?_)
                simp only [p17, p27, p14, cond_true, cond_false]
                clear hpre
                rw [if_pos (by rfl)]
                go_simp
                exact hK _ _ ⟨by simp [upd, Act.put, p17, p27, p14], rfl⟩
              · -- 29: Op.pick (Operand.tmp 26) (Operand.const (Value.bool true)) (
                have p14 : l 14 = true := hpre _ rfl ⟨14, .data⟩ (by simp) rfl
                have p28 : l 28 = true := hpre _ rfl ⟨28, .data⟩ (by simp) rfl
                refine wpOp_step rfl (fun K' hK => ?_)
                simp only [p14, p28, cond_true, cond_false]
                clear hpre
                rw [if_pos (by rfl)]
                go_simp
                exact hK _ _ ⟨by simp [upd, Act.put, p14, p28], rfl⟩
            · rintro l a' w9 hall ⟨rfl, rfl⟩
              simp only [hall 0 (by decide), hall 1 (by decide), hall 2 (by decide), hall 3 (by decide), hall 4 (by decide), hall 5 (by decide), hall 6 (by decide), hall 7 (by decide), hall 8 (by decide), hall 9 (by decide), hall 10 (by decide), hall 11 (by decide), hall 12 (by decide), hall 13 (by decide), hall 14 (by decide), hall 15 (by decide), hall 16 (by decide), hall 17 (by decide), hall 18 (by decide), hall 19 (by decide), hall 20 (by decide), hall 21 (by decide), hall 22 (by decide), hall 23 (by decide), hall 24 (by decide), hall 25 (by decide), hall 26 (by decide), hall 27 (by decide), hall 28 (by decide), hall 29 (by decide), cond_true]
              clear hall
              go_wp2
              go_roundw
              case rel => exact ⟨k + 1, by omega, by go_num, HL', HBd⟩
              case measure => simp [intOf]; omega
          · obtain ⟨j, hj⟩ : ∃ j, k = j + 1 := ⟨k - 1, by omega⟩
            have HJ := Lib.hid hj
            have hji : (k : Int) - 1 = (j : Int) := by omega
            have hk0d : decide (0 < (k : Int)) = true := decide_eq_true (by omega)
            have hk0e : decide (0 < k) = true := decide_eq_true hk0
            have HFj : Hid (∀ v, Below wr.heap.size wr v → v.cell? ⟨b, off + k, none⟩ = some (.int .i64 u) ∧ v.cell? ⟨b, off + j, none⟩ = some (.int .i64 (f j))) := Lib.hid (fun v h => ⟨HFk.out v h, HF.out v h j (by omega)⟩)
            have m1 : (0 : Int) ≤ (j : Int) := by omega
            have m2 : (j : Int) < (n : Int) := by omega
            obtain ⟨last, hl⟩ : ∃ last, last = f j := ⟨_, rfl⟩
            rw [← hl] at HFj
            have HLa := Lib.hid hl
            clear hj hl
            by_cases hle : u ≤ last
            · have dle : decide (u ≤ last) = true := decide_eq_true hle
              have HX : Hid (lsb D n f = false) := Lib.hid (lsb_no (fun h1 => by
                have h2 := (h1 k hlt).2 j HJ.out.symm
                rw [← HU.out, ← HLa.out] at h2; omega))
              go_wp2_with fail
              have hx0 : Below wr.heap.size wr wr.drew := (Below.refl _ _).drew
              refine wp_region_inv (by kernel_rfl) (by kernel_rfl) (fun l a' w' => a' = { tmps := #[Value.int .i64 (D : Int), Value.slice (some ⟨b, off, none⟩) n c, undef, undef, u4, Value.int .i64 (k : Int), Value.int .i64 (k : Int), Value.slice (some ⟨b, off, none⟩) n c, Value.int .i64 (n : Int), Value.bool true, u10, u11, bif l 0 then Value.slice (some ⟨b, off, none⟩) n c else u12, bif l 1 then Value.int .i64 (k : Int) else u13, bif l 2 then Value.pointer (some ⟨b, off + k, none⟩) else u14, bif l 3 then Value.int .i64 u else u15, bif l 4 then Value.bool false else u16, bif l 5 then Value.bool false else u17, bif l 6 then Value.slice (some ⟨b, off, none⟩) n c else u18, bif l 7 then Value.int .i64 (k : Int) else u19, bif l 8 then Value.pointer (some ⟨b, off + k, none⟩) else u20, bif l 9 then Value.int .i64 u else u21, bif l 10 then Value.int .i64 (D : Int) else u22, bif l 11 then Value.int .i64 (T : Int) else u23, bif l 12 then Value.bool false else u24, bif l 13 then Value.bool false else u25, bif l 14 then Value.bool false else u26, bif l 15 then Value.int .i64 (k : Int) else u27, bif l 16 then Value.bool true else u28, bif l 17 then Value.bool true else u29, bif l 18 then Value.slice (some ⟨b, off, none⟩) n c else u30, bif l 19 then Value.int .i64 (k : Int) else u31, bif l 20 then Value.pointer (some ⟨b, off + k, none⟩) else u32, bif l 21 then Value.int .i64 u else u33, bif l 22 then Value.slice (some ⟨b, off, none⟩) n c else u34, bif l 23 then Value.int .i64 (k : Int) else u35, bif l 24 then Value.int .i64 (j : Int) else u36, bif l 25 then Value.pointer (some ⟨b, off + j, none⟩) else u37, bif l 26 then Value.int .i64 last else u38, bif l 27 then Value.bool true else u39, bif l 28 then Value.bool true else u40, bif l 29 then Value.bool true else u41], defers := [] } ∧ w' = wr.drew) ⟨rfl, rfl⟩ ?_ ?_
              · rintro l a' w' i ⟨rfl, rfl⟩ hi hli hpre
                have hi2 : i < 30 := hi
                have hcase : i = 0 ∨ i = 1 ∨ i = 2 ∨ i = 3 ∨ i = 4 ∨ i = 5 ∨ i = 6 ∨ i = 7 ∨ i = 8 ∨ i = 9 ∨ i = 10 ∨ i = 11 ∨ i = 12 ∨ i = 13 ∨ i = 14 ∨ i = 15 ∨ i = 16 ∨ i = 17 ∨ i = 18 ∨ i = 19 ∨ i = 20 ∨ i = 21 ∨ i = 22 ∨ i = 23 ∨ i = 24 ∨ i = 25 ∨ i = 26 ∨ i = 27 ∨ i = 28 ∨ i = 29 := by omega
                clear hi hi2
                rcases hcase with rfl | rfl | rfl | rfl | rfl | rfl | rfl | rfl | rfl | rfl | rfl | rfl | rfl | rfl | rfl | rfl | rfl | rfl | rfl | rfl | rfl | rfl | rfl | rfl | rfl | rfl | rfl | rfl | rfl | rfl
                · -- 0: Op.move (Operand.tmp 1)
                  refine wpOp_step rfl (fun K' hK => ?_)
                  clear hpre
                  rw [if_pos (by rfl)]
                  go_simp
                  exact hK _ _ ⟨by simp [upd, Act.put], rfl⟩
                · -- 1: Op.move (Operand.tmp 5)
                  refine wpOp_step rfl (fun K' hK => ?_)
                  clear hpre
                  rw [if_pos (by rfl)]
                  go_simp
                  exact hK _ _ ⟨by simp [upd, Act.put], rfl⟩
                · -- 2: Op.indexAddr 57 (Operand.tmp 12) (Operand.tmp 13)
                  have p0 : l 0 = true := hpre _ rfl ⟨0, .data⟩ (by simp) rfl
                  have p1 : l 1 = true := hpre _ rfl ⟨1, .data⟩ (by simp) rfl
                  refine wpOp_step rfl (fun K' hK => ?_)
                  simp only [p0, p1, cond_true, cond_false]
                  clear hpre
                  rw [if_pos (by rfl)]
                  have l1 : (0 : Int) ≤ (k : Int) := by omega
                  have l2 : (k : Int) < (n : Int) := by omega
                  go_simp
                  exact hK _ _ ⟨by simp [upd, Act.put, p0, p1], rfl⟩
                · -- 3: Op.load 3 (Operand.tmp 14)
                  have p2 : l 2 = true := hpre _ rfl ⟨2, .data⟩ (by simp) rfl
                  refine wpOp_step rfl (fun K' hK => ?_)
                  simp only [p2, cond_true, cond_false]
                  clear hpre
                  rw [if_pos (by rfl)]
                  have z1 := (HFj.out _ hx0).1
                  go_simp
                  exact hK _ _ ⟨by simp [upd, Act.put, p2], rfl⟩
                · -- 4: Op.binOp BinOp.lss 3 (Operand.tmp 15) (Operand.const (Value.
                  have p3 : l 3 = true := hpre _ rfl ⟨3, .data⟩ (by simp) rfl
                  refine wpOp_step rfl (fun K' hK => ?_)
                  simp only [p3, cond_true, cond_false]
                  clear hpre
                  rw [if_pos (by rfl)]
                  go_simp
                  exact hK _ _ ⟨by simp [upd, Act.put, p3, du0], rfl⟩
                · -- 5: Op.move (Operand.tmp 16)
                  have p4 : l 4 = true := hpre _ rfl ⟨4, .data⟩ (by simp) rfl
                  refine wpOp_step rfl (fun K' hK => ?_)
                  simp only [p4, cond_true, cond_false]
                  clear hpre
                  rw [if_pos (by rfl)]
                  go_simp
                  exact hK _ _ ⟨by simp [upd, Act.put, p4], rfl⟩
                · -- 6: Op.move (Operand.tmp 1)
                  have p5 : l 5 = true := hpre _ rfl ⟨5, .guard⟩ (by simp) rfl
                  refine wpOp_step rfl (fun K' hK => ?_)
                  simp only [p5, cond_true, cond_false]
                  clear hpre
                  rw [if_pos (by rfl)]
                  go_simp
                  exact hK _ _ ⟨by simp [upd, Act.put, p5], rfl⟩
                · -- 7: Op.move (Operand.tmp 5)
                  have p5 : l 5 = true := hpre _ rfl ⟨5, .guard⟩ (by simp) rfl
                  refine wpOp_step rfl (fun K' hK => ?_)
                  simp only [p5, cond_true, cond_false]
                  clear hpre
                  rw [if_pos (by rfl)]
                  go_simp
                  exact hK _ _ ⟨by simp [upd, Act.put, p5], rfl⟩
                · -- 8: Op.indexAddr 57 (Operand.tmp 18) (Operand.tmp 19)
                  have p6 : l 6 = true := hpre _ rfl ⟨6, .data⟩ (by simp) rfl
                  have p7 : l 7 = true := hpre _ rfl ⟨7, .data⟩ (by simp) rfl
                  have p5 : l 5 = true := hpre _ rfl ⟨5, .guard⟩ (by simp) rfl
                  refine wpOp_step rfl (fun K' hK => ?_)
                  simp only [p6, p7, p5, cond_true, cond_false]
                  clear hpre
                  rw [if_pos (by rfl)]
                  have l1 : (0 : Int) ≤ (k : Int) := by omega
                  have l2 : (k : Int) < (n : Int) := by omega
                  go_simp
                  exact hK _ _ ⟨by simp [upd, Act.put, p6, p7, p5], rfl⟩
                · -- 9: Op.load 3 (Operand.tmp 20)
                  have p8 : l 8 = true := hpre _ rfl ⟨8, .data⟩ (by simp) rfl
                  have p5 : l 5 = true := hpre _ rfl ⟨5, .guard⟩ (by simp) rfl
                  refine wpOp_step rfl (fun K' hK => ?_)
                  simp only [p8, p5, cond_true, cond_false]
                  clear hpre
                  rw [if_pos (by rfl)]
                  have z1 := (HFj.out _ hx0).1
                  go_simp
                  exact hK _ _ ⟨by simp [upd, Act.put, p8, p5], rfl⟩
                · -- 10: Op.move (Operand.tmp 0)
                  have p5 : l 5 = true := hpre _ rfl ⟨5, .guard⟩ (by simp) rfl
                  refine wpOp_step rfl (fun K' hK => ?_)
                  simp only [p5, cond_true, cond_false]
                  clear hpre
                  rw [if_pos (by rfl)]
                  go_simp
                  exact hK _ _ ⟨by simp [upd, Act.put, p5], rfl⟩
                · -- 11: Op.call { callee := Callee.value (Operand.func 52), args := 
                  have p10 : l 10 = true := hpre _ rfl ⟨10, .data⟩ (by simp) rfl
                  have p5 : l 5 = true := hpre _ rfl ⟨5, .chain⟩ (by simp) rfl
                  refine wpOp_step rfl (fun K' hK => ?_)
                  simp only [p10, p5, cond_true, cond_false]
                  clear hpre
                  rw [if_pos (by rfl)]
                  go_simp
                  refine (HR.out _).mono ?_
                  rintro e w5 ⟨rfl, rfl⟩
                  exact hK _ _ ⟨by simp [upd, Act.put, p10, p5], rfl⟩
                · -- 12: Op.binOp BinOp.geq 3 (Operand.tmp 21) (Operand.tmp 23) 3
                  have p9 : l 9 = true := hpre _ rfl ⟨9, .data⟩ (by simp) rfl
                  have p11 : l 11 = true := hpre _ rfl ⟨11, .data⟩ (by simp) rfl
                  have p5 : l 5 = true := hpre _ rfl ⟨5, .guard⟩ (by simp) rfl
                  refine wpOp_step rfl (fun K' hK => ?_)
                  simp only [p9, p11, p5, cond_true, cond_false]
                  clear hpre
                  rw [if_pos (by rfl)]
                  go_simp
                  exact hK _ _ ⟨by simp [upd, Act.put, p9, p11, p5, duT], rfl⟩
                · -- 13: Op.pick (Operand.tmp 17) (Operand.const (Value.bool true)) (
                  have p5 : l 5 = true := hpre _ rfl ⟨5, .data⟩ (by simp) rfl
                  have p12 : l 12 = true := hpre _ rfl ⟨12, .data⟩ (by simp) rfl
                  refine wpOp_step rfl (fun K' hK => ?_)
                  simp only [p5, p12, cond_true, cond_false]
                  clear hpre
                  rw [if_pos (by rfl)]
                  go_simp
                  exact hK _ _ ⟨by simp [upd, Act.put, p5, p12], rfl⟩
                · -- 14: Op.move (Operand.tmp 25)
                  have p13 : l 13 = true := hpre _ rfl ⟨13, .data⟩ (by simp) rfl
                  have p11 : l 11 = true := hpre _ rfl ⟨11, .chain⟩ (by simp) rfl
                  refine wpOp_step rfl (fun K' hK => ?_)
                  simp only [p13, p11, cond_true, cond_false]
                  clear hpre
                  rw [if_pos (by rfl)]
                  go_simp
                  exact hK _ _ ⟨by simp [upd, Act.put, p13, p11], rfl⟩
                · -- 15: Op.move (Operand.tmp 5)
                  have p14 : l 14 = true := hpre _ rfl ⟨14, .guard⟩ (by simp) rfl
                  refine wpOp_step rfl (fun K' hK => ?_)
                  simp only [p14, cond_true, cond_false]
                  clear hpre
                  rw [if_pos (by rfl)]
                  go_simp
                  exact hK _ _ ⟨by simp [upd, Act.put, p14], rfl⟩
                · -- 16: Op.binOp BinOp.gtr 3 (Operand.tmp 27) (Operand.const (Value.
                  have p15 : l 15 = true := hpre _ rfl ⟨15, .data⟩ (by simp) rfl
                  have p14 : l 14 = true := hpre _ rfl ⟨14, .guard⟩ (by simp) rfl
                  refine wpOp_step rfl (fun K' hK => ?_)
                  simp only [p15, p14, cond_true, cond_false]
                  clear hpre
                  rw [if_pos (by rfl)]
                  go_simp
                  exact hK _ _ ⟨by simp [upd, Act.put, p15, p14, hk0d, hk0e], rfl⟩
                · -- 17: Op.move (Operand.tmp 28)
                  have p16 : l 16 = true := hpre _ rfl ⟨16, .data⟩ (by simp) rfl
                  have p14 : l 14 = true := hpre _ rfl ⟨14, .chain⟩ (by simp) rfl
                  refine wpOp_step rfl (fun K' hK => ?_)
                  simp only [p16, p14, cond_true, cond_false]
                  clear hpre
                  rw [if_pos (by rfl)]
                  go_simp
                  exact hK _ _ ⟨by simp [upd, Act.put, p16, p14], rfl⟩
                · -- 18: Op.move (Operand.tmp 1)
                  have p17 : l 17 = true := hpre _ rfl ⟨17, .guard⟩ (by simp) rfl
                  refine wpOp_step rfl (fun K' hK => ?_)
                  simp only [p17, cond_true, cond_false]
                  clear hpre
                  rw [if_pos (by rfl)]
                  go_simp
                  exact hK _ _ ⟨by simp [upd, Act.put, p17], rfl⟩
                · -- 19: Op.move (Operand.tmp 5)
                  have p17 : l 17 = true := hpre _ rfl ⟨17, .guard⟩ (by simp) rfl
                  refine wpOp_step rfl (fun K' hK => ?_)
                  simp only [p17, cond_true, cond_false]
                  clear hpre
                  rw [if_pos (by rfl)]
                  go_simp
                  exact hK _ _ ⟨by simp [upd, Act.put, p17], rfl⟩
                · -- 20: Op.indexAddr 57 (Operand.tmp 30) (Operand.tmp 31)
                  have p18 : l 18 = true := hpre _ rfl ⟨18, .data⟩ (by simp) rfl
                  have p19 : l 19 = true := hpre _ rfl ⟨19, .data⟩ (by simp) rfl
                  have p17 : l 17 = true := hpre _ rfl ⟨17, .guard⟩ (by simp) rfl
                  refine wpOp_step rfl (fun K' hK => ?_)
                  simp only [p18, p19, p17, cond_true, cond_false]
                  clear hpre
                  rw [if_pos (by rfl)]
                  have l1 : (0 : Int) ≤ (k : Int) := by omega
                  have l2 : (k : Int) < (n : Int) := by omega
                  go_simp
                  exact hK _ _ ⟨by simp [upd, Act.put, p18, p19, p17], rfl⟩
                · -- 21: Op.load 3 (Operand.tmp 32)
                  have p20 : l 20 = true := hpre _ rfl ⟨20, .data⟩ (by simp) rfl
                  have p17 : l 17 = true := hpre _ rfl ⟨17, .guard⟩ (by simp) rfl
                  refine wpOp_step rfl (fun K' hK => ?_)
                  simp only [p20, p17, cond_true, cond_false]
                  clear hpre
                  rw [if_pos (by rfl)]
                  have z1 := (HFj.out _ hx0).1
                  go_simp
                  exact hK _ _ ⟨by simp [upd, Act.put, p20, p17], rfl⟩
                · -- 22: Op.move (Operand.tmp 1)
                  have p17 : l 17 = true := hpre _ rfl ⟨17, .guard⟩ (by simp) rfl
                  refine wpOp_step rfl (fun K' hK => ?_)
                  simp only [p17, cond_true, cond_false]
                  clear hpre
                  rw [if_pos (by rfl)]
                  go_simp
                  exact hK _ _ ⟨by simp [upd, Act.put, p17], rfl⟩
                · -- 23: Op.move (Operand.tmp 5)
                  have p17 : l 17 = true := hpre _ rfl ⟨17, .guard⟩ (by simp) rfl
                  refine wpOp_step rfl (fun K' hK => ?_)
                  simp only [p17, cond_true, cond_false]
                  clear hpre
                  rw [if_pos (by rfl)]
                  go_simp
                  exact hK _ _ ⟨by simp [upd, Act.put, p17], rfl⟩
                · -- 24: Op.binOp BinOp.sub 3 (Operand.tmp 35) (Operand.const (Value.
                  have p23 : l 23 = true := hpre _ rfl ⟨23, .data⟩ (by simp) rfl
                  have p17 : l 17 = true := hpre _ rfl ⟨17, .guard⟩ (by simp) rfl
                  refine wpOp_step rfl (fun K' hK => ?_)
                  simp only [p23, p17, cond_true, cond_false]
                  clear hpre
                  rw [if_pos (by rfl)]
                  have hjw : IntKind.i64.wrap (j : Int) = (j : Int) := IntWalk.i64_in _ (by omega)
                  go_simp
                  exact hK _ _ ⟨by simp [upd, Act.put, p23, p17, hji, hjw], rfl⟩
                · -- 25: Op.indexAddr 57 (Operand.tmp 34) (Operand.tmp 36)
                  have p22 : l 22 = true := hpre _ rfl ⟨22, .data⟩ (by simp) rfl
                  have p24 : l 24 = true := hpre _ rfl ⟨24, .data⟩ (by simp) rfl
                  have p17 : l 17 = true := hpre _ rfl ⟨17, .guard⟩ (by simp) rfl
                  refine wpOp_step rfl (fun K' hK => ?_)
                  simp only [p22, p24, p17, cond_true, cond_false]
                  clear hpre
                  rw [if_pos (by rfl)]
                  have m1 : (0 : Int) ≤ (j : Int) := by omega
                  have m2 : (j : Int) < (n : Int) := by omega
                  go_simp
                  exact hK _ _ ⟨by simp [upd, Act.put, p22, p24, p17], rfl⟩
                · -- 26: Op.load 3 (Operand.tmp 37)
                  have p25 : l 25 = true := hpre _ rfl ⟨25, .data⟩ (by simp) rfl
                  have p17 : l 17 = true := hpre _ rfl ⟨17, .guard⟩ (by simp) rfl
                  refine wpOp_step rfl (fun K' hK => ?_)
                  simp only [p25, p17, cond_true, cond_false]
                  clear hpre
                  rw [if_pos (by rfl)]
                  have z2 := (HFj.out _ hx0).2
                  go_simp
                  exact hK _ _ ⟨by simp [upd, Act.put, p25, p17], rfl⟩
                · -- 27: Op.binOp BinOp.leq 3 (Operand.tmp 33) (Operand.tmp 38) 3
                  have p21 : l 21 = true := hpre _ rfl ⟨21, .data⟩ (by simp) rfl
                  have p26 : l 26 = true := hpre _ rfl ⟨26, .data⟩ (by simp) rfl
                  have p17 : l 17 = true := hpre _ rfl ⟨17, .guard⟩ (by simp) rfl
                  refine wpOp_step rfl (fun K' hK => ?_)
                  simp only [p21, p26, p17, cond_true, cond_false]
                  clear hpre
                  rw [if_pos (by rfl)]
                  go_simp
                  exact hK _ _ ⟨by simp [upd, Act.put, p21, p26, p17, dle], rfl⟩
                · -- 28: Op.pick (Operand.tmp 29) (Operand.tmp 39) (Operand.const (Va
                  have p17 : l 17 = true := hpre _ rfl ⟨17, .data⟩ (by simp) rfl
                  have p27 : l 27 = true := hpre _ rfl ⟨27, .data⟩ (by simp) rfl
                  have p14 : l 14 = true := hpre _ rfl ⟨14, .guard⟩ (by simp) rfl
                  refine wpOp_step rfl (fun K' hK => ?_)
                  simp only [p17, p27, p14, cond_true, cond_false]
                  clear hpre
                  rw [if_pos (by rfl)]
                  go_simp
                  exact hK _ _ ⟨by simp [upd, Act.put, p17, p27, p14], rfl⟩
                · -- 29: Op.pick (Operand.tmp 26) (Operand.const (Value.bool true)) (
                  have p14 : l 14 = true := hpre _ rfl ⟨14, .data⟩ (by simp) rfl
                  have p28 : l 28 = true := hpre _ rfl ⟨28, .data⟩ (by simp) rfl
                  refine wpOp_step rfl (fun K' hK => ?_)
                  simp only [p14, p28, cond_true, cond_false]
                  clear hpre
                  rw [if_pos (by rfl)]
                  go_simp
                  exact hK _ _ ⟨by simp [upd, Act.put, p14, p28], rfl⟩
              · rintro l a' w9 hall ⟨rfl, rfl⟩
                simp only [hall 0 (by decide), hall 1 (by decide), hall 2 (by decide), hall 3 (by decide), hall 4 (by decide), hall 5 (by decide), hall 6 (by decide), hall 7 (by decide), hall 8 (by decide), hall 9 (by decide), hall 10 (by decide), hall 11 (by decide), hall 12 (by decide), hall 13 (by decide), hall 14 (by decide), hall 15 (by decide), hall 16 (by decide), hall 17 (by decide), hall 18 (by decide), hall 19 (by decide), hall 20 (by decide), hall 21 (by decide), hall 22 (by decide), hall 23 (by decide), hall 24 (by decide), hall 25 (by decide), hall 26 (by decide), hall 27 (by decide), hall 28 (by decide), hall 29 (by decide), cond_true]
                clear hall
                go_wp2
                go_ret
                exact ⟨by rw [HX.out]; rfl, HBd.out.1⟩
            · have hgt : last < u := by omega
              have dle : decide (u ≤ last) = false := decide_eq_false hle
              have HL' : Hid (Lst D (k + 1) f) := Lib.hid (fun i hi => by
                rcases (by omega : i < k ∨ i = k) with h3 | rfl
                · exact HL.out i h3
                · exact ⟨HIs.out, fun j' hj' => by
                    have : j' = j := by have := HJ.out; omega
                    subst this
                    rw [← HU.out, ← HLa.out]; exact hgt⟩)
              go_wp2_with fail
              have hx0 : Below wr.heap.size wr wr.drew := (Below.refl _ _).drew
              refine wp_region_inv (by kernel_rfl) (by kernel_rfl) (fun l a' w' => a' = { tmps := #[Value.int .i64 (D : Int), Value.slice (some ⟨b, off, none⟩) n c, undef, undef, u4, Value.int .i64 (k : Int), Value.int .i64 (k : Int), Value.slice (some ⟨b, off, none⟩) n c, Value.int .i64 (n : Int), Value.bool true, u10, u11, bif l 0 then Value.slice (some ⟨b, off, none⟩) n c else u12, bif l 1 then Value.int .i64 (k : Int) else u13, bif l 2 then Value.pointer (some ⟨b, off + k, none⟩) else u14, bif l 3 then Value.int .i64 u else u15, bif l 4 then Value.bool false else u16, bif l 5 then Value.bool false else u17, bif l 6 then Value.slice (some ⟨b, off, none⟩) n c else u18, bif l 7 then Value.int .i64 (k : Int) else u19, bif l 8 then Value.pointer (some ⟨b, off + k, none⟩) else u20, bif l 9 then Value.int .i64 u else u21, bif l 10 then Value.int .i64 (D : Int) else u22, bif l 11 then Value.int .i64 (T : Int) else u23, bif l 12 then Value.bool false else u24, bif l 13 then Value.bool false else u25, bif l 14 then Value.bool false else u26, bif l 15 then Value.int .i64 (k : Int) else u27, bif l 16 then Value.bool true else u28, bif l 17 then Value.bool true else u29, bif l 18 then Value.slice (some ⟨b, off, none⟩) n c else u30, bif l 19 then Value.int .i64 (k : Int) else u31, bif l 20 then Value.pointer (some ⟨b, off + k, none⟩) else u32, bif l 21 then Value.int .i64 u else u33, bif l 22 then Value.slice (some ⟨b, off, none⟩) n c else u34, bif l 23 then Value.int .i64 (k : Int) else u35, bif l 24 then Value.int .i64 (j : Int) else u36, bif l 25 then Value.pointer (some ⟨b, off + j, none⟩) else u37, bif l 26 then Value.int .i64 last else u38, bif l 27 then Value.bool false else u39, bif l 28 then Value.bool false else u40, bif l 29 then Value.bool false else u41], defers := [] } ∧ w' = wr.drew) ⟨rfl, rfl⟩ ?_ ?_
              · rintro l a' w' i ⟨rfl, rfl⟩ hi hli hpre
                have hi2 : i < 30 := hi
                have hcase : i = 0 ∨ i = 1 ∨ i = 2 ∨ i = 3 ∨ i = 4 ∨ i = 5 ∨ i = 6 ∨ i = 7 ∨ i = 8 ∨ i = 9 ∨ i = 10 ∨ i = 11 ∨ i = 12 ∨ i = 13 ∨ i = 14 ∨ i = 15 ∨ i = 16 ∨ i = 17 ∨ i = 18 ∨ i = 19 ∨ i = 20 ∨ i = 21 ∨ i = 22 ∨ i = 23 ∨ i = 24 ∨ i = 25 ∨ i = 26 ∨ i = 27 ∨ i = 28 ∨ i = 29 := by omega
                clear hi hi2
                rcases hcase with rfl | rfl | rfl | rfl | rfl | rfl | rfl | rfl | rfl | rfl | rfl | rfl | rfl | rfl | rfl | rfl | rfl | rfl | rfl | rfl | rfl | rfl | rfl | rfl | rfl | rfl | rfl | rfl | rfl | rfl
                · -- 0: Op.move (Operand.tmp 1)
                  refine wpOp_step rfl (fun K' hK => ?_)
                  clear hpre
                  rw [if_pos (by rfl)]
                  go_simp
                  exact hK _ _ ⟨by simp [upd, Act.put], rfl⟩
                · -- 1: Op.move (Operand.tmp 5)
                  refine wpOp_step rfl (fun K' hK => ?_)
                  clear hpre
                  rw [if_pos (by rfl)]
                  go_simp
                  exact hK _ _ ⟨by simp [upd, Act.put], rfl⟩
                · -- 2: Op.indexAddr 57 (Operand.tmp 12) (Operand.tmp 13)
                  have p0 : l 0 = true := hpre _ rfl ⟨0, .data⟩ (by simp) rfl
                  have p1 : l 1 = true := hpre _ rfl ⟨1, .data⟩ (by simp) rfl
                  refine wpOp_step rfl (fun K' hK => ?_)
                  simp only [p0, p1, cond_true, cond_false]
                  clear hpre
                  rw [if_pos (by rfl)]
                  have l1 : (0 : Int) ≤ (k : Int) := by omega
                  have l2 : (k : Int) < (n : Int) := by omega
                  go_simp
                  exact hK _ _ ⟨by simp [upd, Act.put, p0, p1], rfl⟩
                · -- 3: Op.load 3 (Operand.tmp 14)
                  have p2 : l 2 = true := hpre _ rfl ⟨2, .data⟩ (by simp) rfl
                  refine wpOp_step rfl (fun K' hK => ?_)
                  simp only [p2, cond_true, cond_false]
                  clear hpre
                  rw [if_pos (by rfl)]
                  have z1 := (HFj.out _ hx0).1
                  go_simp
                  exact hK _ _ ⟨by simp [upd, Act.put, p2], rfl⟩
                · -- 4: Op.binOp BinOp.lss 3 (Operand.tmp 15) (Operand.const (Value.
                  have p3 : l 3 = true := hpre _ rfl ⟨3, .data⟩ (by simp) rfl
                  refine wpOp_step rfl (fun K' hK => ?_)
                  simp only [p3, cond_true, cond_false]
                  clear hpre
                  rw [if_pos (by rfl)]
                  go_simp
                  exact hK _ _ ⟨by simp [upd, Act.put, p3, du0], rfl⟩
                · -- 5: Op.move (Operand.tmp 16)
                  have p4 : l 4 = true := hpre _ rfl ⟨4, .data⟩ (by simp) rfl
                  refine wpOp_step rfl (fun K' hK => ?_)
                  simp only [p4, cond_true, cond_false]
                  clear hpre
                  rw [if_pos (by rfl)]
                  go_simp
                  exact hK _ _ ⟨by simp [upd, Act.put, p4], rfl⟩
                · -- 6: Op.move (Operand.tmp 1)
                  have p5 : l 5 = true := hpre _ rfl ⟨5, .guard⟩ (by simp) rfl
                  refine wpOp_step rfl (fun K' hK => ?_)
                  simp only [p5, cond_true, cond_false]
                  clear hpre
                  rw [if_pos (by rfl)]
                  go_simp
                  exact hK _ _ ⟨by simp [upd, Act.put, p5], rfl⟩
                · -- 7: Op.move (Operand.tmp 5)
                  have p5 : l 5 = true := hpre _ rfl ⟨5, .guard⟩ (by simp) rfl
                  refine wpOp_step rfl (fun K' hK => ?_)
                  simp only [p5, cond_true, cond_false]
                  clear hpre
                  rw [if_pos (by rfl)]
                  go_simp
                  exact hK _ _ ⟨by simp [upd, Act.put, p5], rfl⟩
                · -- 8: Op.indexAddr 57 (Operand.tmp 18) (Operand.tmp 19)
                  have p6 : l 6 = true := hpre _ rfl ⟨6, .data⟩ (by simp) rfl
                  have p7 : l 7 = true := hpre _ rfl ⟨7, .data⟩ (by simp) rfl
                  have p5 : l 5 = true := hpre _ rfl ⟨5, .guard⟩ (by simp) rfl
                  refine wpOp_step rfl (fun K' hK => ?_)
                  simp only [p6, p7, p5, cond_true, cond_false]
                  clear hpre
                  rw [if_pos (by rfl)]
                  have l1 : (0 : Int) ≤ (k : Int) := by omega
                  have l2 : (k : Int) < (n : Int) := by omega
                  go_simp
                  exact hK _ _ ⟨by simp [upd, Act.put, p6, p7, p5], rfl⟩
                · -- 9: Op.load 3 (Operand.tmp 20)
                  have p8 : l 8 = true := hpre _ rfl ⟨8, .data⟩ (by simp) rfl
                  have p5 : l 5 = true := hpre _ rfl ⟨5, .guard⟩ (by simp) rfl
                  refine wpOp_step rfl (fun K' hK => ?_)
                  simp only [p8, p5, cond_true, cond_false]
                  clear hpre
                  rw [if_pos (by rfl)]
                  have z1 := (HFj.out _ hx0).1
                  go_simp
                  exact hK _ _ ⟨by simp [upd, Act.put, p8, p5], rfl⟩
                · -- 10: Op.move (Operand.tmp 0)
                  have p5 : l 5 = true := hpre _ rfl ⟨5, .guard⟩ (by simp) rfl
                  refine wpOp_step rfl (fun K' hK => ?_)
                  simp only [p5, cond_true, cond_false]
                  clear hpre
                  rw [if_pos (by rfl)]
                  go_simp
                  exact hK _ _ ⟨by simp [upd, Act.put, p5], rfl⟩
                · -- 11: Op.call { callee := Callee.value (Operand.func 52), args := 
                  have p10 : l 10 = true := hpre _ rfl ⟨10, .data⟩ (by simp) rfl
                  have p5 : l 5 = true := hpre _ rfl ⟨5, .chain⟩ (by simp) rfl
                  refine wpOp_step rfl (fun K' hK => ?_)
                  simp only [p10, p5, cond_true, cond_false]
                  clear hpre
                  rw [if_pos (by rfl)]
                  go_simp
                  refine (HR.out _).mono ?_
                  rintro e w5 ⟨rfl, rfl⟩
                  exact hK _ _ ⟨by simp [upd, Act.put, p10, p5], rfl⟩
                · -- 12: Op.binOp BinOp.geq 3 (Operand.tmp 21) (Operand.tmp 23) 3
                  have p9 : l 9 = true := hpre _ rfl ⟨9, .data⟩ (by simp) rfl
                  have p11 : l 11 = true := hpre _ rfl ⟨11, .data⟩ (by simp) rfl
                  have p5 : l 5 = true := hpre _ rfl ⟨5, .guard⟩ (by simp) rfl
                  refine wpOp_step rfl (fun K' hK => ?_)
                  simp only [p9, p11, p5, cond_true, cond_false]
                  clear hpre
                  rw [if_pos (by rfl)]
                  go_simp
                  exact hK _ _ ⟨by simp [upd, Act.put, p9, p11, p5, duT], rfl⟩
                · -- 13: Op.pick (Operand.tmp 17) (Operand.const (Value.bool true)) (
                  have p5 : l 5 = true := hpre _ rfl ⟨5, .data⟩ (by simp) rfl
                  have p12 : l 12 = true := hpre _ rfl ⟨12, .data⟩ (by simp) rfl
                  refine wpOp_step rfl (fun K' hK => ?_)
                  simp only [p5, p12, cond_true, cond_false]
                  clear hpre
                  rw [if_pos (by rfl)]
                  go_simp
                  exact hK _ _ ⟨by simp [upd, Act.put, p5, p12], rfl⟩
                · -- 14: Op.move (Operand.tmp 25)
                  have p13 : l 13 = true := hpre _ rfl ⟨13, .data⟩ (by simp) rfl
                  have p11 : l 11 = true := hpre _ rfl ⟨11, .chain⟩ (by simp) rfl
                  refine wpOp_step rfl (fun K' hK => ?_)
                  simp only [p13, p11, cond_true, cond_false]
                  clear hpre
                  rw [if_pos (by rfl)]
                  go_simp
                  exact hK _ _ ⟨by simp [upd, Act.put, p13, p11], rfl⟩
                · -- 15: Op.move (Operand.tmp 5)
                  have p14 : l 14 = true := hpre _ rfl ⟨14, .guard⟩ (by simp) rfl
                  refine wpOp_step rfl (fun K' hK => ?_)
                  simp only [p14, cond_true, cond_false]
                  clear hpre
                  rw [if_pos (by rfl)]
                  go_simp
                  exact hK _ _ ⟨by simp [upd, Act.put, p14], rfl⟩
                · -- 16: Op.binOp BinOp.gtr 3 (Operand.tmp 27) (Operand.const (Value.
                  have p15 : l 15 = true := hpre _ rfl ⟨15, .data⟩ (by simp) rfl
                  have p14 : l 14 = true := hpre _ rfl ⟨14, .guard⟩ (by simp) rfl
                  refine wpOp_step rfl (fun K' hK => ?_)
                  simp only [p15, p14, cond_true, cond_false]
                  clear hpre
                  rw [if_pos (by rfl)]
                  go_simp
                  exact hK _ _ ⟨by simp [upd, Act.put, p15, p14, hk0d, hk0e], rfl⟩
                · -- 17: Op.move (Operand.tmp 28)
                  have p16 : l 16 = true := hpre _ rfl ⟨16, .data⟩ (by simp) rfl
                  have p14 : l 14 = true := hpre _ rfl ⟨14, .chain⟩ (by simp) rfl
                  refine wpOp_step rfl (fun K' hK => ?_)
                  simp only [p16, p14, cond_true, cond_false]
                  clear hpre
                  rw [if_pos (by rfl)]
                  go_simp
                  exact hK _ _ ⟨by simp [upd, Act.put, p16, p14], rfl⟩
                · -- 18: Op.move (Operand.tmp 1)
                  have p17 : l 17 = true := hpre _ rfl ⟨17, .guard⟩ (by simp) rfl
                  refine wpOp_step rfl (fun K' hK => ?_)
                  simp only [p17, cond_true, cond_false]
                  clear hpre
                  rw [if_pos (by rfl)]
                  go_simp
                  exact hK _ _ ⟨by simp [upd, Act.put, p17], rfl⟩
                · -- 19: Op.move (Operand.tmp 5)
                  have p17 : l 17 = true := hpre _ rfl ⟨17, .guard⟩ (by simp) rfl
                  refine wpOp_step rfl (fun K' hK => ?_)
                  simp only [p17, cond_true, cond_false]
                  clear hpre
                  rw [if_pos (by rfl)]
                  go_simp
                  exact hK _ _ ⟨by simp [upd, Act.put, p17], rfl⟩
                · -- 20: Op.indexAddr 57 (Operand.tmp 30) (Operand.tmp 31)
                  have p18 : l 18 = true := hpre _ rfl ⟨18, .data⟩ (by simp) rfl
                  have p19 : l 19 = true := hpre _ rfl ⟨19, .data⟩ (by simp) rfl
                  have p17 : l 17 = true := hpre _ rfl ⟨17, .guard⟩ (by simp) rfl
                  refine wpOp_step rfl (fun K' hK => ?_)
                  simp only [p18, p19, p17, cond_true, cond_false]
                  clear hpre
                  rw [if_pos (by rfl)]
                  have l1 : (0 : Int) ≤ (k : Int) := by omega
                  have l2 : (k : Int) < (n : Int) := by omega
                  go_simp
                  exact hK _ _ ⟨by simp [upd, Act.put, p18, p19, p17], rfl⟩
                · -- 21: Op.load 3 (Operand.tmp 32)
                  have p20 : l 20 = true := hpre _ rfl ⟨20, .data⟩ (by simp) rfl
                  have p17 : l 17 = true := hpre _ rfl ⟨17, .guard⟩ (by simp) rfl
                  refine wpOp_step rfl (fun K' hK => ?_)
                  simp only [p20, p17, cond_true, cond_false]
                  clear hpre
                  rw [if_pos (by rfl)]
                  have z1 := (HFj.out _ hx0).1
                  go_simp
                  exact hK _ _ ⟨by simp [upd, Act.put, p20, p17], rfl⟩
                · -- 22: Op.move (Operand.tmp 1)
                  have p17 : l 17 = true := hpre _ rfl ⟨17, .guard⟩ (by simp) rfl
                  refine wpOp_step rfl (fun K' hK => ?_)
                  simp only [p17, cond_true, cond_false]
                  clear hpre
                  rw [if_pos (by rfl)]
                  go_simp
                  exact hK _ _ ⟨by simp [upd, Act.put, p17], rfl⟩
                · -- 23: Op.move (Operand.tmp 5)
                  have p17 : l 17 = true := hpre _ rfl ⟨17, .guard⟩ (by simp) rfl
                  refine wpOp_step rfl (fun K' hK => ?_)
                  simp only [p17, cond_true, cond_false]
                  clear hpre
                  rw [if_pos (by rfl)]
                  go_simp
                  exact hK _ _ ⟨by simp [upd, Act.put, p17], rfl⟩
                · -- 24: Op.binOp BinOp.sub 3 (Operand.tmp 35) (Operand.const (Value.
                  have p23 : l 23 = true := hpre _ rfl ⟨23, .data⟩ (by simp) rfl
                  have p17 : l 17 = true := hpre _ rfl ⟨17, .guard⟩ (by simp) rfl
                  refine wpOp_step rfl (fun K' hK => ?_)
                  simp only [p23, p17, cond_true, cond_false]
                  clear hpre
                  rw [if_pos (by rfl)]
                  have hjw : IntKind.i64.wrap (j : Int) = (j : Int) := IntWalk.i64_in _ (by omega)
                  go_simp
                  exact hK _ _ ⟨by simp [upd, Act.put, p23, p17, hji, hjw], rfl⟩
                · -- 25: Op.indexAddr 57 (Operand.tmp 34) (Operand.tmp 36)
                  have p22 : l 22 = true := hpre _ rfl ⟨22, .data⟩ (by simp) rfl
                  have p24 : l 24 = true := hpre _ rfl ⟨24, .data⟩ (by simp) rfl
                  have p17 : l 17 = true := hpre _ rfl ⟨17, .guard⟩ (by simp) rfl
                  refine wpOp_step rfl (fun K' hK => ?_)
                  simp only [p22, p24, p17, cond_true, cond_false]
                  clear hpre
                  rw [if_pos (by rfl)]
                  have m1 : (0 : Int) ≤ (j : Int) := by omega
                  have m2 : (j : Int) < (n : Int) := by omega
                  go_simp
                  exact hK _ _ ⟨by simp [upd, Act.put, p22, p24, p17], rfl⟩
                · -- 26: Op.load 3 (Operand.tmp 37)
                  have p25 : l 25 = true := hpre _ rfl ⟨25, .data⟩ (by simp) rfl
                  have p17 : l 17 = true := hpre _ rfl ⟨17, .guard⟩ (by simp) rfl
                  refine wpOp_step rfl (fun K' hK => ?_)
                  simp only [p25, p17, cond_true, cond_false]
                  clear hpre
                  rw [if_pos (by rfl)]
                  have z2 := (HFj.out _ hx0).2
                  go_simp
                  exact hK _ _ ⟨by simp [upd, Act.put, p25, p17], rfl⟩
                · -- 27: Op.binOp BinOp.leq 3 (Operand.tmp 33) (Operand.tmp 38) 3
                  have p21 : l 21 = true := hpre _ rfl ⟨21, .data⟩ (by simp) rfl
                  have p26 : l 26 = true := hpre _ rfl ⟨26, .data⟩ (by simp) rfl
                  have p17 : l 17 = true := hpre _ rfl ⟨17, .guard⟩ (by simp) rfl
                  refine wpOp_step rfl (fun K' hK => ?_)
                  simp only [p21, p26, p17, cond_true, cond_false]
                  clear hpre
                  rw [if_pos (by rfl)]
                  go_simp
                  exact hK _ _ ⟨by simp [upd, Act.put, p21, p26, p17, dle], rfl⟩
                · -- 28: Op.pick (Operand.tmp 29) (Operand.tmp 39) (Operand.const (Va
                  have p17 : l 17 = true := hpre _ rfl ⟨17, .data⟩ (by simp) rfl
                  have p27 : l 27 = true := hpre _ rfl ⟨27, .data⟩ (by simp) rfl
                  have p14 : l 14 = true := hpre _ rfl ⟨14, .guard⟩ (by simp) rfl
                  refine wpOp_step rfl (fun K' hK => ?_)
                  simp only [p17, p27, p14, cond_true, cond_false]
                  clear hpre
                  rw [if_pos (by rfl)]
                  go_simp
                  exact hK _ _ ⟨by simp [upd, Act.put, p17, p27, p14], rfl⟩
                · -- 29: Op.pick (Operand.tmp 26) (Operand.const (Value.bool true)) (
                  have p14 : l 14 = true := hpre _ rfl ⟨14, .data⟩ (by simp) rfl
                  have p28 : l 28 = true := hpre _ rfl ⟨28, .data⟩ (by simp) rfl
                  refine wpOp_step rfl (fun K' hK => ?_)
                  simp only [p14, p28, cond_true, cond_false]
                  clear hpre
                  rw [if_pos (by rfl)]
                  go_simp
                  exact hK _ _ ⟨by simp [upd, Act.put, p14, p28], rfl⟩
              · rintro l a' w9 hall ⟨rfl, rfl⟩
                simp only [hall 0 (by decide), hall 1 (by decide), hall 2 (by decide), hall 3 (by decide), hall 4 (by decide), hall 5 (by decide), hall 6 (by decide), hall 7 (by decide), hall 8 (by decide), hall 9 (by decide), hall 10 (by decide), hall 11 (by decide), hall 12 (by decide), hall 13 (by decide), hall 14 (by decide), hall 15 (by decide), hall 16 (by decide), hall 17 (by decide), hall 18 (by decide), hall 19 (by decide), hall 20 (by decide), hall 21 (by decide), hall 22 (by decide), hall 23 (by decide), hall 24 (by decide), hall 25 (by decide), hall 26 (by decide), hall 27 (by decide), hall 28 (by decide), hall 29 (by decide), cond_true]
                clear hall
                go_wp2
                go_roundw
                case rel => exact ⟨k + 1, by omega, by go_num, HL', HBd⟩
                case measure => simp [intOf]; omega
    · obtain rfl : k = n := by omega
      have HX := Lib.hid (lsb_yes HL.out)
      go_wp2_with fail
      go_ret
      exact ⟨by rw [HX.out]; rfl, HB.out.1⟩
end Go.Proofs.Ytelalpikdidpeaa
