/-
  Knows, the program's and the specification's.
-/
import Derived.Test.YtelalpikdidpeaaKnwB
import Derived.Test.YtelalpikdidpeaaWrkB
namespace Go.Proofs.Ytelalpikdidpeaa
open Go.RowKit TR L2 L2.SP
set_option linter.unusedVariables false
set_option linter.unusedSimpArgs false

/-- The answer of Knows. -/
def KwE (K D E a b : Int) (P Q G n : Nat) (f : Nat → Int) (e : Ending) : Prop :=
  (scb K D E P Q G = false ∧ e = .returned (.tuple #[.bool false, .int .i64 30])) ∨
  (scb K D E P Q G = true ∧ lsb D n f = false ∧ e = .returned (.tuple #[.bool false, .int .i64 2])) ∨
  (scb K D E P Q G = true ∧ lsb D n f = true ∧ isb K D.toNat a b = false ∧ e = .returned (.tuple #[.bool false, .int .i64 31])) ∨
  (scb K D E P Q G = true ∧ lsb D n f = true ∧ isb K D.toNat a b = true ∧ ∃ z, (z = true ↔ ∃ i, i < n ∧ mbr D.toNat a.toNat b.toNat (f i).toNat = true) ∧ e = .returned (.tuple #[.bool z, .int .i64 0]))
theorem KwE.same {K D E a b : Int} {P Q G n : Nat} {f : Nat → Int} {e1 e2 : Ending} (h1 : KwE K D E a b P Q G n f e1) (h2 : KwE K D E a b P Q G n f e2) : e1 = e2 := by
  rcases h1 with ⟨a1, rfl⟩ | ⟨a1, a2, rfl⟩ | ⟨a1, a2, a3, rfl⟩ | ⟨a1, a2, a3, i, a4, rfl⟩ <;> rcases h2 with ⟨b1, rfl⟩ | ⟨b1, b2, rfl⟩ | ⟨b1, b2, b3, rfl⟩ | ⟨b1, b2, b3, j, b4, rfl⟩
  all_goals first
    | rfl
    | exact absurd (a1.symm.trans b1) (by decide)
    | exact absurd (a2.symm.trans b2) (by decide)
    | exact absurd (a3.symm.trans b3) (by decide)
    | skip
  have h : i = j := by
    rcases i with _ | _ <;> rcases j with _ | _
    · rfl
    · exact absurd (a4.2 (b4.1 rfl)) (by decide)
    · exact absurd (b4.2 (a4.1 rfl)) (by decide)
    · rfl
  rw [h]
theorem KwE.val {K D E a b : Int} {P Q G n : Nat} {f : Nat → Int} {e : Ending} (h : KwE K D E a b P Q G n f e) : ∃ (z : Bool) (c : Int), e = .returned (.tuple #[.bool z, .int .i64 c]) := by
  rcases h with ⟨_, rfl⟩ | ⟨_, _, rfl⟩ | ⟨_, _, _, rfl⟩ | ⟨_, _, _, z, _, rfl⟩
  all_goals exact ⟨_, _, rfl⟩
theorem lsb_lst {D : Int} {n : Nat} {f : Nat → Int} (h : lsb D n f = true) : Lst D n f := by
  apply Classical.byContradiction
  intro h2
  rw [lsb_no h2] at h; cases h

set_option maxRecDepth 100000 in
set_option maxHeartbeats 400000 in
theorem knows_any (K D E a b : Int) (P Q G lb off n c : Nat) (A : Option Addr) (f : Nat → Int) (w : World) (hK0 : 0 ≤ K) (hK1 : K ≤ 255) (hn : n ≤ c) (hc : c ≤ maxLen) (had : n = 0 ∨ A = some ⟨lb, off, none⟩) (hcl : ∀ i, i < n → w.cell? ⟨lb, off + i, none⟩ = some (.int .i64 (f i))) :
    Calls Try.prog 16 #[.agg #[.int .u8 K, .int .i64 D, .int .i64 E, .int .u64 (P : Int), .int .u64 (Q : Int), .int .u64 (G : Int)], .slice A n c, .agg #[.int .i64 a, .int .i64 b]] w fun e w' => KwE K D E a b P Q G n f e ∧ Below w.heap.size w w' := by
  obtain ⟨N, hN⟩ : ∃ N, N = w.heap.size := ⟨_, rfl⟩
  obtain ⟨W2, hW2⟩ : ∃ W2, W2 = (w.alloc (.cells #[.int .u8 K, .int .i64 D, .int .i64 E, .int .u64 (P : Int), .int .u64 (Q : Int), .int .u64 (G : Int)] 28)).alloc (.cells #[.int .i64 a, .int .i64 b] 35) := ⟨_, rfl⟩
  have s2 : W2.heap.size = N + 2 := by rw [hW2, hN]; simp
  have b2 : Below N w W2 := by rw [hW2, hN]; exact (below_alloc _ _).trans ((below_alloc _ _).mono (by simp))
  have e1 : Blk W2 N #[.int .u8 K, .int .i64 D, .int .i64 E, .int .u64 (P : Int), .int .u64 (Q : Int), .int .u64 (G : Int)] 28 := by rw [hW2, hN]; exact (Blk.new w _ _).keep (below_alloc _ _)
  have e2 : Blk W2 (N + 1) #[.int .i64 a, .int .i64 b] 35 := by
    have h := Blk.new (w.alloc (.cells #[.int .u8 K, .int .i64 D, .int .i64 E, .int .u64 (P : Int), .int .u64 (Q : Int), .int .u64 (G : Int)] 28)) #[.int .i64 a, .int .i64 b] 35
    rw [World.size_alloc, ← hN] at h; rw [hW2]; exact h
  have HE : Hid (W2.heap.size = N + 2 ∧ Below N w W2 ∧ Blk W2 N #[.int .u8 K, .int .i64 D, .int .i64 E, .int .u64 (P : Int), .int .u64 (Q : Int), .int .u64 (G : Int)] 28 ∧ Blk W2 (N + 1) #[.int .i64 a, .int .i64 b] 35) := Lib.hid ⟨s2, b2, e1, e2⟩
  have HEND := Lib.hid (fun (w3 : World) (hb : Below W2.heap.size W2 w3) => (HE.out.2.1.trans (hb.mono (by rw [HE.out.1]; omega)) : Below N w w3))
  have HLC : Hid (∀ w1, Below W2.heap.size W2 w1 → ∀ i, i < n → w1.cell? ⟨lb, off + i, none⟩ = some (.int .i64 (f i))) := Lib.hid (fun w1 h i hi => ((HEND.out w1 h).cell (p := ⟨lb, off + i, none⟩) (by rw [hN]; exact World.block_lt_of_cell? w _ (hcl i hi))).trans (hcl i hi))
  have HCk := Lib.hid (fun w => check_any K D E P Q G w hK0 hK1)
  have HLi := Lib.hid (fun w1 (d1 : 0 ≤ D) (d2 : D ≤ 6) (hb : Below W2.heap.size W2 w1) => isList_any K D E P Q G lb off n c A f w1 d1 d2 hn hc had (fun i hi => HLC.out w1 hb i hi))
  have HNC := Lib.hid (And.intro hn (And.intro hc had))
  have HN := Lib.hid hN
  have HW := Lib.hid hW2
  rw [← hN]
  have c0 : W2.cell? ⟨N, 0, none⟩ = some (.int .u8 K) := (e1).cell 0
  have c1 : W2.cell? ⟨N, 1, none⟩ = some (.int .i64 D) := (e1).cell 1
  have c2 : W2.cell? ⟨N, 2, none⟩ = some (.int .i64 E) := (e1).cell 2
  have c3 : W2.cell? ⟨N, 3, none⟩ = some (.int .u64 (P : Int)) := (e1).cell 3
  have c4 : W2.cell? ⟨N, 4, none⟩ = some (.int .u64 (Q : Int)) := (e1).cell 4
  have c5 : W2.cell? ⟨N, 5, none⟩ = some (.int .u64 (G : Int)) := (e1).cell 5
  have z0 : W2.cell? ⟨N + 1, 0, none⟩ = some (.int .i64 a) := (e2).cell 0
  have z1 : W2.cell? ⟨N + 1, 1, none⟩ = some (.int .i64 b) := (e2).cell 1
  rw [hW2, hN] at c0 c1 c2 c3 c4 c5 z0 z1
  clear hN hW2 s2 b2 e1 e2 hK0 hK1 hn hc had hcl
  go_enter Try.func16, Try.ntmps16
  go_wp2_with fail
  rw [← HW.out, ← HN.out]
  refine (HCk.out _).mono ?_
  rintro e w3 ⟨rfl, hb3⟩
  have HB3 := Lib.hid hb3
  clear hb3 c0 c1 c2 c3 c4 c5 z0 z1
  by_cases h : ScOk K D E P Q G
  · have hs := scc_yes h
    rw [hs]
    have HSb := Lib.hid (scb_yes h)
    have HK123 : Hid (K = 1 ∨ K = 2 ∨ K = 3) := Lib.hid (by have h1 := h.1; have h2 := h.2.1; omega)
    have hD := h.2.2.1
    have hD2 := h.2.2.2.1
    have HLw := Lib.hid (HLi.out w3 hD hD2 HB3.out)
    obtain ⟨d, rfl⟩ := Int.eq_ofNat_of_zero_le hD
    have hd : d < 7 := by omega
    have HD := Lib.hid hd
    have HIs := Lib.hid (fun w => isSubset_any K E a b d P Q G w hd)
    have c0 : w3.cell? ⟨N, 0, none⟩ = some (.int .u8 K) := (HE.out.2.2.1.keep HB3.out).cell 0
    have c1 : w3.cell? ⟨N, 1, none⟩ = some (.int .i64 (d : Int)) := (HE.out.2.2.1.keep HB3.out).cell 1
    have c2 : w3.cell? ⟨N, 2, none⟩ = some (.int .i64 E) := (HE.out.2.2.1.keep HB3.out).cell 2
    have c3 : w3.cell? ⟨N, 3, none⟩ = some (.int .u64 (P : Int)) := (HE.out.2.2.1.keep HB3.out).cell 3
    have c4 : w3.cell? ⟨N, 4, none⟩ = some (.int .u64 (Q : Int)) := (HE.out.2.2.1.keep HB3.out).cell 4
    have c5 : w3.cell? ⟨N, 5, none⟩ = some (.int .u64 (G : Int)) := (HE.out.2.2.1.keep HB3.out).cell 5
    clear hs h hD hD2 hd HLi
    go_wp2_with fail
    refine HLw.out.mono ?_
    rintro e w4 ⟨rfl, hb4⟩
    have HB4 := Lib.hid (HB3.out.trans (hb4.mono HB3.out.size))
    clear hb4 c0 c1 c2 c3 c4 c5 HLw
    rcases hr : lsb (d : Int) n f with _ | _
    · have H3 := Lib.hid (HEND.out w4 HB4.out)
      have HC : Hid (KwE K (d : Int) E a b P Q G n f (.returned (.tuple #[.bool false, .int .i64 2]))) := Lib.hid (.inr (.inl ⟨HSb.out, hr, rfl⟩))
      clear hr
      go_wp2_with fail
      go_ret2
      exact ⟨HC.out, H3.out⟩
    · have HRr := Lib.hid hr
      have HLs := Lib.hid (fun i (hi : i < n) => of_decide_eq_true (lsb_lst hr i hi).1)
      clear hr
      have c0 : w4.cell? ⟨N, 0, none⟩ = some (.int .u8 K) := (HE.out.2.2.1.keep HB4.out).cell 0
      have c1 : w4.cell? ⟨N, 1, none⟩ = some (.int .i64 (d : Int)) := (HE.out.2.2.1.keep HB4.out).cell 1
      have c2 : w4.cell? ⟨N, 2, none⟩ = some (.int .i64 E) := (HE.out.2.2.1.keep HB4.out).cell 2
      have c3 : w4.cell? ⟨N, 3, none⟩ = some (.int .u64 (P : Int)) := (HE.out.2.2.1.keep HB4.out).cell 3
      have c4 : w4.cell? ⟨N, 4, none⟩ = some (.int .u64 (Q : Int)) := (HE.out.2.2.1.keep HB4.out).cell 4
      have c5 : w4.cell? ⟨N, 5, none⟩ = some (.int .u64 (G : Int)) := (HE.out.2.2.1.keep HB4.out).cell 5
      have z0 : w4.cell? ⟨N + 1, 0, none⟩ = some (.int .i64 a) := (HE.out.2.2.2.keep HB4.out).cell 0
      have z1 : w4.cell? ⟨N + 1, 1, none⟩ = some (.int .i64 b) := (HE.out.2.2.2.keep HB4.out).cell 1
      go_wp2_with fail
      refine (HIs.out _).mono ?_
      rintro e w5 ⟨rfl, hb5⟩
      have HB5 := Lib.hid (HB4.out.trans (hb5.mono HB4.out.size))
      clear hb5 c0 c1 c2 c3 c4 c5 z0 z1
      rcases hi : isb K d a b with _ | _
      · have H3 := Lib.hid (HEND.out w5 HB5.out)
        have HC : Hid (KwE K (d : Int) E a b P Q G n f (.returned (.tuple #[.bool false, .int .i64 31]))) := Lib.hid (.inr (.inr (.inl ⟨HSb.out, HRr.out, by rw [Int.toNat_natCast]; exact hi, rfl⟩)))
        clear hi
        go_wp2_with fail
        go_ret2
        exact ⟨HC.out, H3.out⟩
      · obtain ⟨v, x, rfl, rfl, v1, v3, v2, hx, x2, hk1⟩ := isb_nat HD.out hi
        have HC : Hid (∀ e, (∃ z, (z = true ↔ ∃ i, i < n ∧ mbr d v x (f i).toNat = true) ∧ e = .returned (.tuple #[.bool z, .int .i64 0])) → KwE K (d : Int) E (v : Int) (x : Int) P Q G n f e) := Lib.hid (fun e he => .inr (.inr (.inr ⟨HSb.out, HRr.out, by rw [Int.toNat_natCast]; exact hi, by simp only [Int.toNat_natCast]; exact he⟩)))
        have HFn : Hid (∀ i, i < n → f i = ((f i).toNat : Int) ∧ (f i).toNat < 2 ^ d) := Lib.hid (fun i hi => by have h := HLs.out i hi; rw [Int.toNat_natCast] at h; omega)
        have HCo := Lib.hid (fun p q w1 (hk : KEnv w1 p q K E d P Q G v x) (hb : Below W2.heap.size W2 w1) => containsM_any K E d P Q G v x p q lb off n c A (fun i => (f i).toNat) w1 HD.out v3 hx hk HNC.out.1 HNC.out.2.1 HNC.out.2.2 (fun i hi => ⟨by rw [HLC.out w1 hb i hi, ← (HFn.out i hi).1], (HFn.out i hi).2⟩))
        have HKe : Hid (KEnv w5 N (N + 1) K E d P Q G v x) := Lib.hid ⟨HE.out.2.2.1.keep HB5.out, HE.out.2.2.2.keep HB5.out⟩
        have HCp := Lib.hid (HCo.out N (N + 1) w5 HKe.out HB5.out)
        clear hi v1 v3 v2 hx x2 hk1
        go_wp2_with fail
        refine (HCp.out).mono ?_
        rintro e w6 ⟨⟨z, rfl, hz⟩, hb6⟩
        have H3 := Lib.hid (HEND.out w6 (HB5.out.trans (hb6.mono HB5.out.size)))
        have HZ := Lib.hid hz
        clear hb6 hz
        go_wp2_with fail
        go_ret2
        exact ⟨HC.out _ ⟨z, HZ.out, rfl⟩, H3.out⟩
  · have hs := scc_no h
    rw [hs]
    have H3 := Lib.hid (HEND.out w3 HB3.out)
    have HC : Hid (KwE K D E a b P Q G n f (.returned (.tuple #[.bool false, .int .i64 30]))) := Lib.hid (.inl ⟨scb_no h, rfl⟩)
    clear h hs
    go_wp2_with fail
    go_ret2
    exact ⟨HC.out, H3.out⟩

set_option maxRecDepth 100000 in
set_option maxHeartbeats 400000 in
theorem refKnows_any (K D E a b : Int) (P Q G lb off n c : Nat) (A : Option Addr) (f : Nat → Int) (w : World) (hK0 : 0 ≤ K) (hK1 : K ≤ 255) (hn : n ≤ c) (hc : c ≤ maxLen) (had : n = 0 ∨ A = some ⟨lb, off, none⟩) (hcl : ∀ i, i < n → w.cell? ⟨lb, off + i, none⟩ = some (.int .i64 (f i))) :
    Calls Try.prog 17 #[.agg #[.int .u8 K, .int .i64 D, .int .i64 E, .int .u64 (P : Int), .int .u64 (Q : Int), .int .u64 (G : Int)], .slice A n c, .agg #[.int .i64 a, .int .i64 b]] w fun e w' => KwE K D E a b P Q G n f e ∧ Below w.heap.size w w' := by
  obtain ⟨N, hN⟩ : ∃ N, N = w.heap.size := ⟨_, rfl⟩
  obtain ⟨W2, hW2⟩ : ∃ W2, W2 = (w.alloc (.cells #[.int .u8 K, .int .i64 D, .int .i64 E, .int .u64 (P : Int), .int .u64 (Q : Int), .int .u64 (G : Int)] 28)).alloc (.cells #[.int .i64 a, .int .i64 b] 35) := ⟨_, rfl⟩
  have s2 : W2.heap.size = N + 2 := by rw [hW2, hN]; simp
  have b2 : Below N w W2 := by rw [hW2, hN]; exact (below_alloc _ _).trans ((below_alloc _ _).mono (by simp))
  have e1 : Blk W2 N #[.int .u8 K, .int .i64 D, .int .i64 E, .int .u64 (P : Int), .int .u64 (Q : Int), .int .u64 (G : Int)] 28 := by rw [hW2, hN]; exact (Blk.new w _ _).keep (below_alloc _ _)
  have e2 : Blk W2 (N + 1) #[.int .i64 a, .int .i64 b] 35 := by
    have h := Blk.new (w.alloc (.cells #[.int .u8 K, .int .i64 D, .int .i64 E, .int .u64 (P : Int), .int .u64 (Q : Int), .int .u64 (G : Int)] 28)) #[.int .i64 a, .int .i64 b] 35
    rw [World.size_alloc, ← hN] at h; rw [hW2]; exact h
  have HE : Hid (W2.heap.size = N + 2 ∧ Below N w W2 ∧ Blk W2 N #[.int .u8 K, .int .i64 D, .int .i64 E, .int .u64 (P : Int), .int .u64 (Q : Int), .int .u64 (G : Int)] 28 ∧ Blk W2 (N + 1) #[.int .i64 a, .int .i64 b] 35) := Lib.hid ⟨s2, b2, e1, e2⟩
  have HEND := Lib.hid (fun (w3 : World) (hb : Below W2.heap.size W2 w3) => (HE.out.2.1.trans (hb.mono (by rw [HE.out.1]; omega)) : Below N w w3))
  have HLC : Hid (∀ w1, Below W2.heap.size W2 w1 → ∀ i, i < n → w1.cell? ⟨lb, off + i, none⟩ = some (.int .i64 (f i))) := Lib.hid (fun w1 h i hi => ((HEND.out w1 h).cell (p := ⟨lb, off + i, none⟩) (by rw [hN]; exact World.block_lt_of_cell? w _ (hcl i hi))).trans (hcl i hi))
  have HCk := Lib.hid (fun w => refValid_any K D E P Q G w hK0 hK1)
  have HLi := Lib.hid (fun w1 (d1 : 0 ≤ D) (d2 : D ≤ 6) (hb : Below W2.heap.size W2 w1) => refIsList_any D lb off n c A f w1 d1 d2 hn hc had (fun i hi => HLC.out w1 hb i hi))
  have HNC := Lib.hid (And.intro hn (And.intro hc had))
  have HN := Lib.hid hN
  have HW := Lib.hid hW2
  rw [← hN]
  have c0 : W2.cell? ⟨N, 0, none⟩ = some (.int .u8 K) := (e1).cell 0
  have c1 : W2.cell? ⟨N, 1, none⟩ = some (.int .i64 D) := (e1).cell 1
  have c2 : W2.cell? ⟨N, 2, none⟩ = some (.int .i64 E) := (e1).cell 2
  have c3 : W2.cell? ⟨N, 3, none⟩ = some (.int .u64 (P : Int)) := (e1).cell 3
  have c4 : W2.cell? ⟨N, 4, none⟩ = some (.int .u64 (Q : Int)) := (e1).cell 4
  have c5 : W2.cell? ⟨N, 5, none⟩ = some (.int .u64 (G : Int)) := (e1).cell 5
  have z0 : W2.cell? ⟨N + 1, 0, none⟩ = some (.int .i64 a) := (e2).cell 0
  have z1 : W2.cell? ⟨N + 1, 1, none⟩ = some (.int .i64 b) := (e2).cell 1
  rw [hW2, hN] at c0 c1 c2 c3 c4 c5 z0 z1
  clear hN hW2 s2 b2 e1 e2 hK0 hK1 hn hc had hcl
  go_enter Try.func17, Try.ntmps17
  go_wp2_with fail
  rw [← HW.out, ← HN.out]
  refine (HCk.out _).mono ?_
  rintro e w3 ⟨rfl, hb3⟩
  have HB3 := Lib.hid hb3
  clear hb3 c0 c1 c2 c3 c4 c5 z0 z1
  by_cases h : ScOk K D E P Q G
  · have hs := scb_yes h
    rw [hs]
    have HSb := Lib.hid (scb_yes h)
    have HK123 : Hid (K = 1 ∨ K = 2 ∨ K = 3) := Lib.hid (by have h1 := h.1; have h2 := h.2.1; omega)
    have hD := h.2.2.1
    have hD2 := h.2.2.2.1
    have HLw := Lib.hid (HLi.out w3 hD hD2 HB3.out)
    obtain ⟨d, rfl⟩ := Int.eq_ofNat_of_zero_le hD
    have hd : d < 7 := by omega
    have HD := Lib.hid hd
    have HIs := Lib.hid (fun w => refIsSubset_any K E a b d P Q G w hd)
    have c0 : w3.cell? ⟨N, 0, none⟩ = some (.int .u8 K) := (HE.out.2.2.1.keep HB3.out).cell 0
    have c1 : w3.cell? ⟨N, 1, none⟩ = some (.int .i64 (d : Int)) := (HE.out.2.2.1.keep HB3.out).cell 1
    have c2 : w3.cell? ⟨N, 2, none⟩ = some (.int .i64 E) := (HE.out.2.2.1.keep HB3.out).cell 2
    have c3 : w3.cell? ⟨N, 3, none⟩ = some (.int .u64 (P : Int)) := (HE.out.2.2.1.keep HB3.out).cell 3
    have c4 : w3.cell? ⟨N, 4, none⟩ = some (.int .u64 (Q : Int)) := (HE.out.2.2.1.keep HB3.out).cell 4
    have c5 : w3.cell? ⟨N, 5, none⟩ = some (.int .u64 (G : Int)) := (HE.out.2.2.1.keep HB3.out).cell 5
    clear hs h hD hD2 hd HLi
    go_wp2_with fail
    refine HLw.out.mono ?_
    rintro e w4 ⟨rfl, hb4⟩
    have HB4 := Lib.hid (HB3.out.trans (hb4.mono HB3.out.size))
    clear hb4 c0 c1 c2 c3 c4 c5 HLw
    rcases hr : lsb (d : Int) n f with _ | _
    · have H3 := Lib.hid (HEND.out w4 HB4.out)
      have HC : Hid (KwE K (d : Int) E a b P Q G n f (.returned (.tuple #[.bool false, .int .i64 2]))) := Lib.hid (.inr (.inl ⟨HSb.out, hr, rfl⟩))
      clear hr
      go_wp2_with fail
      go_ret2
      exact ⟨HC.out, H3.out⟩
    · have HRr := Lib.hid hr
      have HLs := Lib.hid (fun i (hi : i < n) => of_decide_eq_true (lsb_lst hr i hi).1)
      clear hr
      have c0 : w4.cell? ⟨N, 0, none⟩ = some (.int .u8 K) := (HE.out.2.2.1.keep HB4.out).cell 0
      have c1 : w4.cell? ⟨N, 1, none⟩ = some (.int .i64 (d : Int)) := (HE.out.2.2.1.keep HB4.out).cell 1
      have c2 : w4.cell? ⟨N, 2, none⟩ = some (.int .i64 E) := (HE.out.2.2.1.keep HB4.out).cell 2
      have c3 : w4.cell? ⟨N, 3, none⟩ = some (.int .u64 (P : Int)) := (HE.out.2.2.1.keep HB4.out).cell 3
      have c4 : w4.cell? ⟨N, 4, none⟩ = some (.int .u64 (Q : Int)) := (HE.out.2.2.1.keep HB4.out).cell 4
      have c5 : w4.cell? ⟨N, 5, none⟩ = some (.int .u64 (G : Int)) := (HE.out.2.2.1.keep HB4.out).cell 5
      have z0 : w4.cell? ⟨N + 1, 0, none⟩ = some (.int .i64 a) := (HE.out.2.2.2.keep HB4.out).cell 0
      have z1 : w4.cell? ⟨N + 1, 1, none⟩ = some (.int .i64 b) := (HE.out.2.2.2.keep HB4.out).cell 1
      go_wp2_with fail
      refine (HIs.out _).mono ?_
      rintro e w5 ⟨rfl, hb5⟩
      have HB5 := Lib.hid (HB4.out.trans (hb5.mono HB4.out.size))
      clear hb5 c0 c1 c2 c3 c4 c5 z0 z1
      rcases hi : isb K d a b with _ | _
      · have H3 := Lib.hid (HEND.out w5 HB5.out)
        have HC : Hid (KwE K (d : Int) E a b P Q G n f (.returned (.tuple #[.bool false, .int .i64 31]))) := Lib.hid (.inr (.inr (.inl ⟨HSb.out, HRr.out, by rw [Int.toNat_natCast]; exact hi, rfl⟩)))
        clear hi
        go_wp2_with fail
        go_ret2
        exact ⟨HC.out, H3.out⟩
      · obtain ⟨v, x, rfl, rfl, v1, v3, v2, hx, x2, hk1⟩ := isb_nat HD.out hi
        have HC : Hid (∀ e, (∃ z, (z = true ↔ ∃ i, i < n ∧ mbr d v x (f i).toNat = true) ∧ e = .returned (.tuple #[.bool z, .int .i64 0])) → KwE K (d : Int) E (v : Int) (x : Int) P Q G n f e) := Lib.hid (fun e he => .inr (.inr (.inr ⟨HSb.out, HRr.out, by rw [Int.toNat_natCast]; exact hi, by simp only [Int.toNat_natCast]; exact he⟩)))
        have HFn : Hid (∀ i, i < n → f i = ((f i).toNat : Int) ∧ (f i).toNat < 2 ^ d) := Lib.hid (fun i hi => by have h := HLs.out i hi; rw [Int.toNat_natCast] at h; omega)
        have HKn := Lib.hid (fun (r : Nat) w (hr : r < 2 ^ d) => refKnown_any K E d r P Q G v x w HD.out hr hk1 v1 v3 x2 hx)
        have HMb := Lib.hid (fun (r : Nat) (j : Int) (hr : r < 2 ^ d) (hj : Kno d (plc K d (2 ^ d + r)) v x j) => (hj.none_iff.trans (lds_some HK123.out HD.out hr v1 v3 x2 hi) : 0 ≤ j ↔ mbr d v x r = true))
        have hm : n ≤ 9223372036854775807 := by have h1 := HNC.out.1; have h2 := HNC.out.2.1; unfold maxLen at h2; omega
        clear hi v1 v3 v2 hx x2 hk1
        go_wp2_with fail
        go_loopw [8] (fun i wr => ∃ (k : Nat), k ≤ n ∧ i = .int .i64 (k : Int) ∧ Hid (Below W2.heap.size W2 wr) ∧ Hid (∀ j, j < k → mbr d v x (f j).toNat = false)) (fun i _ => n - (intOf i).toNat)
        case atStart => exact ⟨0, by omega, rfl, HB5, Lib.hid (fun j h => by omega)⟩
        case round =>
          obtain ⟨k, hk, rfl, HBr, HP⟩ := hrel
          by_cases hlt : k < n
          · rcases HNC.out.2.2 with h0 | rfl
            · omega
            have l1 : (0 : Int) ≤ (k : Int) := by omega
            have l2 : (k : Int) < (n : Int) := by omega
            have hfk := HFn.out k hlt
            have HG1 : Hid (∀ w1, Below W2.heap.size W2 w1 → w1.cell? ⟨lb, off + k, none⟩ = some (.int .i64 ((f k).toNat : Int))) := Lib.hid (fun w1 hb => by rw [← hfk.1]; exact HLC.out w1 hb k hlt)
            have HKk := Lib.hid (fun w => HKn.out (f k).toNat w hfk.2)
            have HMk := Lib.hid (fun j => HMb.out (f k).toNat j hfk.2)
            have HPx : Hid (mbr d v x (f k).toNat = false → ∀ j, j < k + 1 → mbr d v x (f j).toNat = false) := Lib.hid (fun h j hj => by
              rcases Nat.lt_or_ge j k with h1 | h1
              · exact HP.out j h1
              · obtain rfl : j = k := by omega
                exact h)
            have HY : Hid (mbr d v x (f k).toNat = true → (true = true ↔ ∃ i, i < n ∧ mbr d v x (f i).toNat = true)) := Lib.hid (fun h => ⟨fun _ => ⟨k, hlt, h⟩, fun _ => rfl⟩)
            obtain ⟨r, hr⟩ : ∃ r, r = (f k).toNat := ⟨_, rfl⟩
            rw [← hr] at HG1 HKk HMk HPx HY
            clear hfk hr hk
            have g1 := HG1.out wr HBr.out
            go_wp2_with fail
            clear g1
            refine wp_region_inv (by kernel_rfl) (by kernel_rfl) (fun l a' w' => ∃ (i9 : Int), a' = { tmps := #[Value.agg #[Value.int IntKind.u8 K, Value.int IntKind.i64 d, Value.int IntKind.i64 E, Value.int IntKind.u64 P, Value.int IntKind.u64 Q, Value.int IntKind.u64 G], Value.slice (some ⟨lb, off, none⟩) n c, Value.agg #[Value.int IntKind.i64 v, Value.int IntKind.i64 x], Value.pointer (some ⟨N, 0, none⟩), undef, Value.pointer (some ⟨N + 1, 0, none⟩), u6, u7, Value.int .i64 (k : Int), Value.agg #[Value.int IntKind.u8 K, Value.int IntKind.i64 d, Value.int IntKind.i64 E, Value.int IntKind.u64 P, Value.int IntKind.u64 Q, Value.int IntKind.u64 G], Value.bool true, Value.bool false, Value.pointer (some ⟨N, 1, none⟩), Value.int .i64 (d : Int), Value.slice (some ⟨lb, off, none⟩) n c, Value.bool true, Value.bool false, Value.agg #[Value.int IntKind.u8 K, Value.int IntKind.i64 d, Value.int IntKind.i64 E, Value.int IntKind.u64 P, Value.int IntKind.u64 Q, Value.int IntKind.u64 G], Value.agg #[Value.int IntKind.i64 v, Value.int IntKind.i64 x], Value.bool true, Value.bool false, Value.int .i64 (k : Int), Value.slice (some ⟨lb, off, none⟩) n c, Value.int .i64 (n : Int), Value.bool true, u25, u26, bif l 0 then Value.agg #[Value.int .u8 K, Value.int .i64 (d : Int), Value.int .i64 E, Value.int .u64 (P : Int), Value.int .u64 (Q : Int), Value.int .u64 (G : Int)] else u27, bif l 1 then Value.slice (some ⟨lb, off, none⟩) n c else u28, bif l 2 then Value.int .i64 (k : Int) else u29, bif l 3 then Value.pointer (some ⟨lb, off + k, none⟩) else u30, bif l 4 then Value.int .i64 (r : Int) else u31, bif l 5 then Value.agg #[Value.int .i64 (v : Int), Value.int .i64 (x : Int)] else u32, bif l 6 then Value.int .i64 i9 else u33, bif l 7 then Value.bool (decide (i9 ≥ 0)) else u34], defers := [] } ∧ (Below W2.heap.size W2 w') ∧ (l 6 = true → Kno d (plc K d (2 ^ d + r)) v x i9) ∧ (l 7 = true → l 6 = true)) ⟨0, rfl, (HBr.out).drew, (fun h => by cases h), (fun h => by cases h)⟩ ?_ ?_
            · rintro l a' w' i ⟨i9, rfl, hB, cK, o7⟩ hi' hli hpre
              have hi2 : i < 8 := hi'
              have hcase : i = 0 ∨ i = 1 ∨ i = 2 ∨ i = 3 ∨ i = 4 ∨ i = 5 ∨ i = 6 ∨ i = 7 := by omega
              clear hi' hi2
              rcases hcase with rfl | rfl | rfl | rfl | rfl | rfl | rfl | rfl
              · -- 0: Op.load 28 (Operand.tmp 3)
                refine wpOp_step rfl (fun K' hK => ?_)
                clear hpre
                rw [if_pos (by rfl)]
                refine wp_load_mid 28 _ rfl _ 0 rfl #[Value.int .u8 K, Value.int .i64 (d : Int), Value.int .i64 E, Value.int .u64 (P : Int), Value.int .u64 (Q : Int), Value.int .u64 (G : Int)].toList _ (HE.out.2.2.1.keep hB).range Try.underlying28 rfl sizeSch ?_
                exact hK _ _ ⟨i9, by simp [upd, Act.put], hB, (fun e0 => (cK (by simpa [upd] using e0))), (fun e0 => (by first | (simp [upd]; done) | simpa [upd] using (o7 (by simpa [upd] using e0))))⟩
              · -- 1: Op.move (Operand.tmp 1)
                refine wpOp_step rfl (fun K' hK => ?_)
                clear hpre
                rw [if_pos (by rfl)]
                go_simp
                exact hK _ _ ⟨i9, by simp [upd, Act.put], hB, (fun e0 => (cK (by simpa [upd] using e0))), (fun e0 => (by first | (simp [upd]; done) | simpa [upd] using (o7 (by simpa [upd] using e0))))⟩
              · -- 2: Op.move (Operand.tmp 8)
                refine wpOp_step rfl (fun K' hK => ?_)
                clear hpre
                rw [if_pos (by rfl)]
                go_simp
                exact hK _ _ ⟨i9, by simp [upd, Act.put], hB, (fun e0 => (cK (by simpa [upd] using e0))), (fun e0 => (by first | (simp [upd]; done) | simpa [upd] using (o7 (by simpa [upd] using e0))))⟩
              · -- 3: Op.indexAddr 36 (Operand.tmp 28) (Operand.tmp 29)
                have p1 : l 1 = true := hpre _ rfl ⟨1, .data⟩ (by simp) rfl
                have p2 : l 2 = true := hpre _ rfl ⟨2, .data⟩ (by simp) rfl
                refine wpOp_step rfl (fun K' hK => ?_)
                simp only [p1, p2, cond_true, cond_false]
                clear hpre
                rw [if_pos (by rfl)]
                go_simp
                exact hK _ _ ⟨i9, by simp [upd, Act.put, p1, p2], hB, (fun e0 => (cK (by simpa [upd] using e0))), (fun e0 => (by first | (simp [upd]; done) | simpa [upd] using (o7 (by simpa [upd] using e0))))⟩
              · -- 4: Op.load 3 (Operand.tmp 30)
                have p3 : l 3 = true := hpre _ rfl ⟨3, .data⟩ (by simp) rfl
                refine wpOp_step rfl (fun K' hK => ?_)
                simp only [p3, cond_true, cond_false]
                clear hpre
                rw [if_pos (by rfl)]
                have g1 := HG1.out w' hB
                go_simp
                exact hK _ _ ⟨i9, by simp [upd, Act.put, p3], hB, (fun e0 => (cK (by simpa [upd] using e0))), (fun e0 => (by first | (simp [upd]; done) | simpa [upd] using (o7 (by simpa [upd] using e0))))⟩
              · -- 5: Op.load 35 (Operand.tmp 5)
                refine wpOp_step rfl (fun K' hK => ?_)
                clear hpre
                rw [if_pos (by rfl)]
                refine wp_load_mid 35 _ rfl _ 0 rfl #[Value.int .i64 (v : Int), Value.int .i64 (x : Int)].toList _ (HE.out.2.2.2.keep hB).range Try.underlying35 rfl sizeSub ?_
                exact hK _ _ ⟨i9, by simp [upd, Act.put], hB, (fun e0 => (cK (by simpa [upd] using e0))), (fun e0 => (by first | (simp [upd]; done) | simpa [upd] using (o7 (by simpa [upd] using e0))))⟩
              · -- 6: Op.call { callee := Callee.value (Operand.func 49), args := 
                have p0 : l 0 = true := hpre _ rfl ⟨0, .data⟩ (by simp) rfl
                have p4 : l 4 = true := hpre _ rfl ⟨4, .data⟩ (by simp) rfl
                have p5 : l 5 = true := hpre _ rfl ⟨5, .data⟩ (by simp) rfl
                refine wpOp_step rfl (fun K' hK => ?_)
                have n7 : l 7 = false := by
                  cases h : l 7
                  · rfl
                  · exact absurd (o7 h) (by rw [hli]; decide)
                simp only [p0, p4, p5, n7, cond_true, cond_false]
                clear hpre
                rw [if_pos (by rfl)]
                go_simp
                refine (HKk.out _).mono ?_
                rintro e w7 ⟨⟨i7, rfl, hi7⟩, hb5⟩
                exact hK _ _ ⟨i7, by simp [upd, Act.put, p0, p4, p5, n7], (hB).trans (hb5.mono (hB).size), (fun _ => hi7), (fun e0 => (by first | (simp [upd]; done) | simpa [upd] using (o7 (by simpa [upd] using e0))))⟩
              · -- 7: Op.binOp BinOp.geq 3 (Operand.tmp 33) (Operand.const (Value.
                have p6 : l 6 = true := hpre _ rfl ⟨6, .data⟩ (by simp) rfl
                refine wpOp_step rfl (fun K' hK => ?_)
                simp only [p6, cond_true, cond_false]
                clear hpre
                rw [if_pos (by rfl)]
                go_simp
                exact hK _ _ ⟨i9, by simp [upd, Act.put, p6], hB, (fun e0 => (cK (by simpa [upd] using e0))), (fun _ => by simp [upd, p6])⟩
            · rintro l a' w9 hall ⟨i9, rfl, hB, cK, o7⟩
              replace cK := cK (hall 6 (by decide))
              replace o7 := o7 (hall 7 (by decide))
              simp only [hall 0 (by decide), hall 1 (by decide), hall 2 (by decide), hall 3 (by decide), hall 4 (by decide), hall 5 (by decide), hall 6 (by decide), hall 7 (by decide), cond_true]
              clear hall
              have H6 := Lib.hid hB
              have hmk := HMk.out i9 cK
              clear hB cK
              by_cases hj : 0 ≤ i9
              · have HYy := Lib.hid (HY.out (hmk.1 hj))
                have H3 := Lib.hid (HEND.out w9 H6.out)
                have hd9 : decide (i9 ≥ 0) = true := decide_eq_true hj
                clear hmk
                rw [hd9]
                clear hd9 hj
                go_wp2_with fail
                go_ret2
                exact ⟨HC.out _ ⟨true, by simpa using HYy.out, rfl⟩, H3.out⟩
              · have hmf : mbr d v x r = false := by
                  rcases hz : mbr d v x r with _ | _
                  · rfl
                  · exact absurd (hmk.2 hz) hj
                have HNy := Lib.hid (HPx.out hmf)
                have hd9 : decide (i9 ≥ 0) = false := decide_eq_false hj
                clear hmk hmf
                rw [hd9]
                clear hd9 hj
                go_wp2_with fail
                go_roundw
                case rel => exact ⟨k + 1, by omega, by go_num, H6, HNy⟩
                case measure => simp [intOf]; omega
          · have HF : Hid (false = true ↔ ∃ i, i < n ∧ mbr d v x (f i).toNat = true) := Lib.hid ⟨fun h => by (cases h), fun ⟨i, hi, h⟩ => by rw [HP.out i (by omega)] at h; cases h⟩
            have l3 : ¬ ((k : Int) < (n : Int)) := by omega
            have H3 := Lib.hid (HEND.out wr HBr.out)
            go_wp2_with fail
            go_ret2
            exact ⟨HC.out _ ⟨false, HF.out, rfl⟩, H3.out⟩
  · have hs := scb_no h
    rw [hs]
    have H3 := Lib.hid (HEND.out w3 HB3.out)
    have HC : Hid (KwE K D E a b P Q G n f (.returned (.tuple #[.bool false, .int .i64 30]))) := Lib.hid (.inl ⟨scb_no h, rfl⟩)
    clear h hs
    go_wp2_with fail
    go_ret2
    exact ⟨HC.out, H3.out⟩
end Go.Proofs.Ytelalpikdidpeaa
