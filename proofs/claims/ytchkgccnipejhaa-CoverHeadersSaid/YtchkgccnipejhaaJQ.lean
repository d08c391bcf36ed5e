/-
  Texts joined into one: KnwA, LstA, LstB, KnwB, WrkA, WrkB, KnwC.
-/
import Derived.Test.YtchkgccnipejhaaJF
import Derived.Test.YtchkgccnipejhaaMathK
import Derived.Test.YtchkgccnipejhaaJN
import Derived.Test.YtchkgccnipejhaaJB

/-
  The index of the label that leads, the specification's; and how many derivations a label needs.
-/
namespace Go.Proofs.Ytchkgccnipejhaa
open Go.RowKit TR L2 L2.SP
set_option linter.unusedVariables false
set_option linter.unusedSimpArgs false

/-- What the search of the pairs L finds: the index of the first that leads to the key of (v, x), or -1. -/
def Kno (d : Nat) (L : List (Nat × Nat)) (v x : Nat) (i : Int) : Prop :=
  (i = -1 ∧ ∀ (j : Nat) (p : Nat × Nat), L[j]? = some p → ldb d (p.1 : Int) (p.2 : Int) v x = false) ∨
  (∃ (k : Nat) (p : Nat × Nat), i = (k : Int) ∧ L[k]? = some p ∧ ldb d (p.1 : Int) (p.2 : Int) v x = true ∧ ∀ (j : Nat) (q : Nat × Nat), j < k → L[j]? = some q → ldb d (q.1 : Int) (q.2 : Int) v x = false)
theorem Kno.same {d : Nat} {L : List (Nat × Nat)} {v x : Nat} {i j : Int} (h : Kno d L v x i) (h2 : Kno d L v x j) : i = j := by
  rcases h with ⟨rfl, a⟩ | ⟨k, p, rfl, a1, a2, a3⟩ <;> rcases h2 with ⟨rfl, b⟩ | ⟨k2, p2, rfl, b1, b2, b3⟩
  · rfl
  · have := a k2 p2 b1; rw [b2] at this; cases this
  · have := b k p a1; rw [a2] at this; cases this
  · rcases Nat.lt_trichotomy k k2 with h | rfl | h
    · have := b3 k p h a1; rw [a2] at this; cases this
    · rfl
    · have := a3 k2 p2 h b1; rw [b2] at this; cases this
theorem Kno.none_iff {d : Nat} {L : List (Nat × Nat)} {v x : Nat} {i : Int} (h : Kno d L v x i) : 0 ≤ i ↔ ∃ p ∈ L, ldb d (p.1 : Int) (p.2 : Int) v x = true := by
  rcases h with ⟨rfl, a⟩ | ⟨k, p, rfl, a1, a2, a3⟩
  · constructor
    · intro h; omega
    · rintro ⟨p, hp, hq⟩
      obtain ⟨j, hj⟩ := List.mem_iff_getElem?.1 hp
      rw [a j p hj] at hq; cases hq
  · exact ⟨fun _ => ⟨p, List.mem_iff_getElem?.2 ⟨k, a1⟩, a2⟩, fun _ => Int.natCast_nonneg k⟩

set_option maxRecDepth 100000 in
set_option maxHeartbeats 400000 in
theorem derivations_any (a b m x : Nat) (v : Nat) (w : World) (hx : x < 256) (hm : x ≠ 0 → 1 ≤ m ∧ m < 256 ∧ lv m ≤ lv x) :
    Calls Try.prog 97 #[.agg #[.int .i64 (a : Int), .int .i64 (m : Int)], .agg #[.int .i64 (v : Int), .int .i64 (x : Int)]] w fun e w' => e = .returned (.int .i64 (if x = 0 then 0 else ((lv x - lv m + 1 : Nat) : Int))) ∧ Below w.heap.size w w' := by
  obtain ⟨W2, hW2⟩ : ∃ W2, W2 = (w.alloc (.cells #[.int .i64 (a : Int), .int .i64 (m : Int)] 56)).alloc (.cells #[.int .i64 (v : Int), .int .i64 (x : Int)] 56) := ⟨_, rfl⟩
  have s2 : W2.heap.size = w.heap.size + 2 := by rw [hW2]; simp
  have e1 : Blk W2 w.heap.size #[.int .i64 (a : Int), .int .i64 (m : Int)] 56 := by rw [hW2]; exact (Blk.new w _ _).keep (below_alloc _ _)
  have e2 : Blk W2 (w.heap.size + 1) #[.int .i64 (v : Int), .int .i64 (x : Int)] 56 := by
    have h := Blk.new (w.alloc (.cells #[.int .i64 (a : Int), .int .i64 (m : Int)] 56)) #[.int .i64 (v : Int), .int .i64 (x : Int)] 56
    rw [World.size_alloc] at h; rw [hW2]; exact h
  have l0 : W2.cell? ⟨w.heap.size, 1, none⟩ = some (.int .i64 (m : Int)) := e1.cell 1
  have l1 : W2.cell? ⟨w.heap.size + 1, 1, none⟩ = some (.int .i64 (x : Int)) := e2.cell 1
  have hb : Below w.heap.size w W2 := by rw [hW2]; exact (below_alloc _ _).trans ((below_alloc _ _).mono (by simp))
  have HB := Lib.hid hb
  have HE : Hid (W2.heap.size = w.heap.size + 2 ∧ Blk W2 w.heap.size #[.int .i64 (a : Int), .int .i64 (m : Int)] 56 ∧ Blk W2 (w.heap.size + 1) #[.int .i64 (v : Int), .int .i64 (x : Int)] 56) := Lib.hid ⟨s2, e1, e2⟩
  rw [hW2] at l0 l1
  have HW := Lib.hid hW2
  clear e1 e2 hb s2 hW2
  by_cases h0 : x = 0
  · subst h0
    have HR : Hid ((if (0 : Nat) = 0 then (0 : Int) else ((lv 0 - lv m + 1 : Nat) : Int)) = 0) := Lib.hid (by simp)
    rw [HR.out]
    have HB0 := Lib.hid (by have h := HB.out; rw [HW.out] at h; exact h)
    clear hm
    go_enter Try.func97, Try.ntmps97
    go_wp2_with fail
    go_ret
    exact ⟨rfl, by simpa using HB0.out⟩
  · obtain ⟨m1, m2, m3⟩ := hm h0
    have hz : (x : Int) ≠ 0 := by omega
    have hne : ((x : Int) == 0) = false := beq_eq_false_iff_ne.2 hz
    have HR : Hid ((if x = 0 then (0 : Int) else ((lv x - lv m + 1 : Nat) : Int)) = (lv x : Int) - (lv m : Int) + 1) := Lib.hid (by rw [if_neg h0]; omega)
    rw [HR.out]
    have HL := Lib.hid (fun (n : Nat) (h1 : n < 256) (h2 : 1 ≤ n) w => level_any n w h2 h1)
    have x1 : 1 ≤ x := by omega
    have HX := Lib.hid (And.intro x1 (And.intro hx (And.intro m1 m2)))
    have HLl := Lib.hid (And.intro (lv_lt x hx) (lv_lt m m2))
    clear hm m1 m2 hz h0 x1 hx
    go_enter Try.func97, Try.ntmps97
    go_wp2_with fail
    rw [← HW.out]
    clear l0 l1
    refine wp_region_inv (by kernel_rfl) (by kernel_rfl) (fun l a' w' => a' = { tmps := #[Value.agg #[Value.int IntKind.i64 a, Value.int IntKind.i64 m], Value.agg #[Value.int IntKind.i64 v, Value.int IntKind.i64 x], Value.pointer (some ⟨w.heap.size, 0, none⟩), Value.pointer (some ⟨w.heap.size + 1, 0, none⟩), bif l 8 then Value.int .i64 ((lv x : Int) - (lv m : Int) + 1) else Value.int .i64 (0 : Int), Value.pointer (some ⟨w.heap.size + 1, 1, none⟩), Value.int .i64 (x : Int), Value.bool false, bif l 0 then Value.pointer (some ⟨w.heap.size + 1, 1, none⟩) else undef, bif l 1 then Value.int .i64 (x : Int) else undef, bif l 2 then Value.int .i64 (lv x : Int) else undef, bif l 3 then Value.pointer (some ⟨w.heap.size, 1, none⟩) else undef, bif l 4 then Value.int .i64 (m : Int) else undef, bif l 5 then Value.int .i64 (lv m : Int) else undef, bif l 6 then Value.int .i64 ((lv x : Int) - (lv m : Int)) else undef, bif l 7 then Value.int .i64 ((lv x : Int) - (lv m : Int) + 1) else undef], defers := [] } ∧ (Below W2.heap.size W2 w')) ⟨rfl, (Below.refl _ _).drew⟩ ?_ ?_
    · rintro l a' w' i ⟨rfl, hB⟩ hi' hli hpre
      have hi2 : i < 9 := hi'
      have hcase : i = 0 ∨ i = 1 ∨ i = 2 ∨ i = 3 ∨ i = 4 ∨ i = 5 ∨ i = 6 ∨ i = 7 ∨ i = 8 := by omega
      clear hi' hi2
      rcases hcase with rfl | rfl | rfl | rfl | rfl | rfl | rfl | rfl | rfl
      · -- 0: Op.fieldAddr 35 (Operand.tmp 3) 1
        refine wpOp_step rfl (fun K' hK => ?_)
        clear hpre
        rw [if_pos (by rfl)]
        go_simp
        exact hK _ _ ⟨by simp [upd, Act.put], hB⟩
      · -- 1: Op.load 3 (Operand.tmp 8)
        have p0 : l 0 = true := hpre _ rfl ⟨0, .data⟩ (by simp) rfl
        refine wpOp_step rfl (fun K' hK => ?_)
        simp only [p0, cond_true, cond_false]
        clear hpre
        rw [if_pos (by rfl)]
        have l1 : w'.cell? ⟨w.heap.size + 1, 1, none⟩ = some (.int .i64 (x : Int)) := (HE.out.2.2.keep hB).cell 1
        go_simp
        exact hK _ _ ⟨by simp [upd, Act.put, p0], hB⟩
      · -- 2: Op.call { callee := Callee.value (Operand.func 97), args := 
        have p1 : l 1 = true := hpre _ rfl ⟨1, .data⟩ (by simp) rfl
        refine wpOp_step rfl (fun K' hK => ?_)
        simp only [p1, cond_true, cond_false]
        clear hpre
        rw [if_pos (by rfl)]
        go_simp
        refine (HL.out x HX.out.2.1 HX.out.1 _).mono ?_
        rintro e w6 ⟨rfl, rfl⟩
        exact hK _ _ ⟨by simp [upd, Act.put, p1], hB⟩
      · -- 3: Op.fieldAddr 35 (Operand.tmp 2) 1
        refine wpOp_step rfl (fun K' hK => ?_)
        clear hpre
        rw [if_pos (by rfl)]
        go_simp
        exact hK _ _ ⟨by simp [upd, Act.put], hB⟩
      · -- 4: Op.load 3 (Operand.tmp 11)
        have p3 : l 3 = true := hpre _ rfl ⟨3, .data⟩ (by simp) rfl
        refine wpOp_step rfl (fun K' hK => ?_)
        simp only [p3, cond_true, cond_false]
        clear hpre
        rw [if_pos (by rfl)]
        have l0 : w'.cell? ⟨w.heap.size, 1, none⟩ = some (.int .i64 (m : Int)) := (HE.out.2.1.keep hB).cell 1
        go_simp
        exact hK _ _ ⟨by simp [upd, Act.put, p3], hB⟩
      · -- 5: Op.call { callee := Callee.value (Operand.func 97), args := 
        have p4 : l 4 = true := hpre _ rfl ⟨4, .data⟩ (by simp) rfl
        have p2 : l 2 = true := hpre _ rfl ⟨2, .chain⟩ (by simp) rfl
        refine wpOp_step rfl (fun K' hK => ?_)
        simp only [p4, p2, cond_true, cond_false]
        clear hpre
        rw [if_pos (by rfl)]
        go_simp
        refine (HL.out m HX.out.2.2.2 HX.out.2.2.1 _).mono ?_
        rintro e w6 ⟨rfl, rfl⟩
        exact hK _ _ ⟨by simp [upd, Act.put, p4, p2], hB⟩
      · -- 6: Op.binOp BinOp.sub 3 (Operand.tmp 10) (Operand.tmp 13) 3
        have p2 : l 2 = true := hpre _ rfl ⟨2, .data⟩ (by simp) rfl
        have p5 : l 5 = true := hpre _ rfl ⟨5, .data⟩ (by simp) rfl
        refine wpOp_step rfl (fun K' hK => ?_)
        have hq := HLl.out
        obtain ⟨q1, q2⟩ := hq
        have hj6 : IntKind.i64.wrap ((lv x : Int) - (lv m : Int)) = (lv x : Int) - (lv m : Int) := IntWalk.i64_in _ (by omega)
        simp only [p2, p5, hj6, cond_true, cond_false]
        clear hpre
        rw [if_pos (by rfl)]
        go_simp
        exact hK _ _ ⟨by simp [upd, Act.put, p2, p5, hj6], hB⟩
      · -- 7: Op.binOp BinOp.add 3 (Operand.tmp 14) (Operand.const (Value.
        have p6 : l 6 = true := hpre _ rfl ⟨6, .data⟩ (by simp) rfl
        refine wpOp_step rfl (fun K' hK => ?_)
        have hq := HLl.out
        obtain ⟨q1, q2⟩ := hq
        have hj7 : IntKind.i64.wrap ((lv x : Int) - (lv m : Int) + 1) = (lv x : Int) - (lv m : Int) + 1 := IntWalk.i64_in _ (by omega)
        simp only [p6, hj7, cond_true, cond_false]
        clear hpre
        rw [if_pos (by rfl)]
        go_simp
        exact hK _ _ ⟨by simp [upd, Act.put, p6, hj7], hB⟩
      · -- 8: Op.assign (Operand.tmp 15)
        have p7 : l 7 = true := hpre _ rfl ⟨7, .data⟩ (by simp) rfl
        have p5 : l 5 = true := hpre _ rfl ⟨5, .chain⟩ (by simp) rfl
        have p0 : l 0 = true := hpre _ rfl ⟨0, .phase⟩ (by simp) rfl
        have p1 : l 1 = true := hpre _ rfl ⟨1, .phase⟩ (by simp) rfl
        have p2 : l 2 = true := hpre _ rfl ⟨2, .phase⟩ (by simp) rfl
        have p3 : l 3 = true := hpre _ rfl ⟨3, .phase⟩ (by simp) rfl
        have p4 : l 4 = true := hpre _ rfl ⟨4, .phase⟩ (by simp) rfl
        have p6 : l 6 = true := hpre _ rfl ⟨6, .phase⟩ (by simp) rfl
        refine wpOp_step rfl (fun K' hK => ?_)
        simp only [p7, p5, p0, p1, p2, p3, p4, p6, cond_true, cond_false]
        clear hpre
        rw [if_pos (by rfl)]
        go_simp
        exact hK _ _ ⟨by simp [upd, Act.put, p7, p5, p0, p1, p2, p3, p4, p6], hB⟩
    · rintro l a' w9 hall ⟨rfl, hB⟩
      simp only [hall 0 (by decide), hall 1 (by decide), hall 2 (by decide), hall 3 (by decide), hall 4 (by decide), hall 5 (by decide), hall 6 (by decide), hall 7 (by decide), hall 8 (by decide), cond_true]
      clear hall
      have H3 : Hid (Below w.heap.size w w9) := Lib.hid (HB.out.trans (hB.mono (by rw [HE.out.1]; omega)))
      clear hB
      go_wp2_with fail
      go_ret
      exact ⟨rfl, H3.out⟩
end Go.Proofs.Ytchkgccnipejhaa

/-
  Lists of receivers, the program's.
-/
namespace Go.Proofs.Ytchkgccnipejhaa
open Go.RowKit TR L2 L2.SP
set_option linter.unusedVariables false
set_option linter.unusedSimpArgs false

/-- A list of receivers: increasing numbers, each of them one. -/
def Lst (D : Int) (n : Nat) (f : Nat → Int) : Prop := ∀ i, i < n → isr D (f i) = true ∧ ∀ j, j + 1 = i → f j < f i
noncomputable def lsb (D : Int) (n : Nat) (f : Nat → Int) : Bool := @decide (Lst D n f) (Classical.propDecidable _)
theorem lsb_yes {D : Int} {n : Nat} {f : Nat → Int} (h : Lst D n f) : lsb D n f = true := @decide_eq_true _ (Classical.propDecidable _) h
theorem lsb_no {D : Int} {n : Nat} {f : Nat → Int} (h : ¬ Lst D n f) : lsb D n f = false := @decide_eq_false _ (Classical.propDecidable _) h
/-- The last one of the first k numbers. -/
def lst1 (f : Nat → Int) : Nat → Int
  | 0 => -1
  | k + 1 => f k

set_option maxRecDepth 100000 in
set_option maxHeartbeats 400000 in
theorem isList_any (K D E : Int) (P Q G b off n c : Nat) (A : Option Addr) (f : Nat → Int) (w : World) (d1 : 0 ≤ D) (d2 : D ≤ 6) (hn : n ≤ c) (hc : c ≤ maxLen) (had : n = 0 ∨ A = some ⟨b, off, none⟩) (hcl : ∀ i, i < n → w.cell? ⟨b, off + i, none⟩ = some (.int .i64 (f i))) :
    Calls Try.prog 55 #[.agg #[.int .u8 K, .int .i64 D, .int .i64 E, .int .u64 (P : Int), .int .u64 (Q : Int), .int .u64 (G : Int)], .slice A n c] w fun e w' => e = .returned (.bool (lsb D n f)) ∧ Below w.heap.size w w' := by
  obtain ⟨N, hN⟩ : ∃ N, N = w.heap.size := ⟨_, rfl⟩
  obtain ⟨W1, hW1⟩ : ∃ W1, W1 = w.alloc (.cells #[.int .u8 K, .int .i64 D, .int .i64 E, .int .u64 (P : Int), .int .u64 (Q : Int), .int .u64 (G : Int)] 45) := ⟨_, rfl⟩
  have HB1 : Hid (Below N w W1) := Lib.hid (by rw [hW1, hN]; exact (Below.refl _ _).alloc (Nat.le_refl _) _)
  have HS1 : Hid (W1.heap.size = N + 1) := Lib.hid (by rw [hW1, hN]; simp)
  have HEnv : Hid (∀ w1, Below (N + 1) W1 w1 → SchAt w1 N K D E P Q G ∧ Below N w w1 ∧ ∀ i, i < n → w1.cell? ⟨b, off + i, none⟩ = some (.int .i64 (f i))) := Lib.hid (fun w1 h => by
    have s : SchAt W1 N K D E P Q G := by rw [hW1, hN]; exact SchAt.new w K D E P Q G _
    have hb : Below N w w1 := HB1.out.trans (h.mono (by omega))
    exact ⟨s.below h (by omega), hb, fun i hi => (hb.cell (p := ⟨b, off + i, none⟩) (by rw [hN]; exact World.block_lt_of_cell? w _ (hcl i hi))).trans (hcl i hi)⟩)
  have HR := Lib.hid (fun u w => isReceiver_any K D E u P Q G w d1 d2)
  have hm : n ≤ 9223372036854775807 := by unfold maxLen at hc; omega
  have HAD := Lib.hid had
  have HN := Lib.hid hN
  have HW := Lib.hid hW1
  rw [← hN]
  clear hN hW1 hcl hc d1 d2 had
  go_enter Try.func55, Try.ntmps55
  go_wp2_with fail
  rw [← HW.out, ← HN.out]
  go_loopw [5, 10] (fun v i wr => ∃ (k : Nat), k ≤ n ∧ i = .int .i64 (k : Int) ∧ v = .int .i64 (lst1 f k) ∧ Hid (Lst D k f) ∧ Hid (Below (N + 1) W1 wr)) (fun _ i _ => n - (intOf i).toNat)
  case atStart => exact ⟨0, by omega, rfl, rfl, Lib.hid (fun i hi => by omega), Lib.hid (Below.refl _ _)⟩
  case round =>
    obtain ⟨k, hk, rfl, rfl, HL, HB⟩ := hrel
    have HBf : Hid (Below N w wr ∧ N + 1 ≤ wr.heap.size) := Lib.hid ⟨(HEnv.out wr HB.out).2.1, by rw [← HS1.out]; exact HB.out.size⟩
    by_cases hlt : k < n
    · rcases HAD.out with h0 | rfl
      · omega
      obtain ⟨⟨c0, c1, c2, c3, c4, c5⟩, _, hcl⟩ := HEnv.out wr HB.out
      have g1 := hcl k hlt
      have HU : Hid (lst1 f (k + 1) = f k) := Lib.hid rfl
      have HNx : Hid (Lst D (k + 1) f ↔ (isr D (f k) = true ∧ lst1 f k < f k)) := Lib.hid (by
        constructor
        · intro h
          refine ⟨(h k (by omega)).1, ?_⟩
          cases k with
          | zero =>
            have h1 : 0 ≤ f 0 ∧ f 0 < ((2 ^ D.toNat : Nat) : Int) := of_decide_eq_true (h 0 (by omega)).1
            show (-1 : Int) < f 0
            omega
          | succ j => exact (h (j + 1) (by omega)).2 j rfl
        · rintro ⟨h1, h2⟩ i hi
          rcases (by omega : i < k ∨ i = k) with h3 | rfl
          · exact HL.out i h3
          · exact ⟨h1, fun j hj => by subst hj; exact h2⟩)
      have HNo : Hid (¬ (isr D (f k) = true ∧ lst1 f k < f k) → lsb D n f = false) := Lib.hid (fun h => lsb_no (fun h1 => h (HNx.out.1 (fun i hi => h1 i (by omega)))))
      have HRu := Lib.hid (HR.out (f k))
      have l1 : (0 : Int) ≤ (k : Int) := by omega
      have l2 : (k : Int) < (n : Int) := by omega
      obtain ⟨u, hu⟩ : ∃ u, u = f k := ⟨_, rfl⟩
      obtain ⟨last, hl⟩ : ∃ last, last = lst1 f k := ⟨_, rfl⟩
      rw [← hu] at g1 HU HNx HNo HRu
      rw [← hl] at HNx HNo ⊢
      clear hu hl hcl
      by_cases hle : u ≤ last
      · have HF := Lib.hid (HNo.out (fun h => by omega))
        go_wp2_with fail
        go_ret
        exact ⟨by rw [HF.out]; rfl, HBf.out.1⟩
      · have hgt : last < u := by omega
        have hdd : decide (u ≤ last) = false := decide_eq_false hle
        rcases hisr : isr D u with _ | _
        · have HF := Lib.hid (HNo.out (fun h => by rw [hisr] at h; cases h.1))
          rw [hisr] at HRu
          go_wp2_with fail
          refine (HRu.out _).mono ?_
          rintro e w2 ⟨rfl, hb2⟩
          have HB2 := Lib.hid (HBf.out.1.trans (hb2.mono (by have := HBf.out.2; omega)))
          clear hb2 c0 c1 c2 c3 c4 c5
          go_wp2_with fail
          go_ret
          exact ⟨by rw [HF.out]; rfl, HB2.out⟩
        · have HL' := Lib.hid (HNx.out.2 ⟨hisr, hgt⟩)
          rw [hisr] at HRu
          go_wp2_with fail
          refine (HRu.out _).mono ?_
          rintro e w2 ⟨rfl, hb2⟩
          have HB2 := Lib.hid (HB.out.trans (hb2.mono HBf.out.2))
          clear hb2 c0 c1 c2 c3 c4 c5
          go_wp2_with fail
          go_roundw
          case rel => exact ⟨k + 1, by omega, by go_num, by rw [HU.out], HL', HB2⟩
          case measure => simp [intOf]; omega
    · obtain rfl : k = n := by omega
      have HF := Lib.hid (lsb_yes HL.out)
      go_wp2_with fail
      go_ret
      exact ⟨by rw [HF.out]; rfl, HBf.out.1⟩
end Go.Proofs.Ytchkgccnipejhaa

/-
  Lists of receivers, the specification's.
-/
namespace Go.Proofs.Ytchkgccnipejhaa
open Go.RowKit TR L2 L2.SP
set_option linter.unusedVariables false
set_option linter.unusedSimpArgs false

set_option maxRecDepth 100000 in
set_option maxHeartbeats 1000000 in
theorem refIsList_any (D : Int) (b off n c : Nat) (A : Option Addr) (f : Nat → Int) (w : World) (d1 : 0 ≤ D) (d2 : D ≤ 6) (hn : n ≤ c) (hc : c ≤ maxLen) (had : n = 0 ∨ A = some ⟨b, off, none⟩) (hcl : ∀ i, i < n → w.cell? ⟨b, off + i, none⟩ = some (.int .i64 (f i))) :
    Calls Try.prog 28 #[.int .i64 D, .slice A n c] w fun e w' => e = .returned (.bool (lsb D n f)) ∧ Below w.heap.size w w' := by
  obtain ⟨N, hN⟩ : ∃ N, N = w.heap.size := ⟨_, rfl⟩
  have HEnv : Hid (∀ w1, Below N w w1 → ∀ i, i < n → w1.cell? ⟨b, off + i, none⟩ = some (.int .i64 (f i))) := Lib.hid (fun w1 h i hi => (h.cell (p := ⟨b, off + i, none⟩) (by rw [hN]; exact World.block_lt_of_cell? w _ (hcl i hi))).trans (hcl i hi))
  have HR : Hid (∀ w, Calls Try.prog 72 #[.int .i64 D] w fun e w' => e = .returned (.int .i64 ((2 ^ D.toNat : Nat) : Int)) ∧ w = w') := Lib.hid (fun w => by obtain ⟨d, rfl⟩ := Int.eq_ofNat_of_zero_le d1; exact receivers_any d w (by omega))
  have HI : Hid (∀ u, isr D u = true ↔ (0 ≤ u ∧ u < ((2 ^ D.toNat : Nat) : Int))) := Lib.hid (fun u => decide_eq_true_iff)
  generalize 2 ^ D.toNat = T at HR HI
  have hm : n ≤ 9223372036854775807 := by unfold maxLen at hc; omega
  have HAD := Lib.hid had
  have HN := Lib.hid hN
  rw [← hN]
  clear hN hcl hc d1 d2 had
  go_enter Try.func28, Try.ntmps28
  go_wp2_with fail
  go_loopw [5] (fun i wr => ∃ (k : Nat), k ≤ n ∧ i = .int .i64 (k : Int) ∧ Hid (Lst D k f) ∧ Hid (Below N w wr ∧ N ≤ wr.heap.size)) (fun i _ => n - (intOf i).toNat)
  case atStart => exact ⟨0, by omega, rfl, Lib.hid (fun i hi => by omega), Lib.hid ⟨Below.refl _ _, by rw [HN.out]; omega⟩⟩
  case round =>
    obtain ⟨k, hk, rfl, HL, HB⟩ := hrel
    by_cases hlt : k < n
    · rcases HAD.out with h0 | rfl
      · omega
      have HF : Hid (∀ v, Below wr.heap.size wr v → ∀ i, i < n → v.cell? ⟨b, off + i, none⟩ = some (.int .i64 (f i))) := Lib.hid (fun v h => HEnv.out v (HB.out.1.trans (h.mono HB.out.2)))
      have HBd : Hid (Below N w wr.drew ∧ N ≤ wr.drew.heap.size) := Lib.hid ⟨HB.out.1.drew, HB.out.2⟩
      have HFk : Hid (∀ v, Below wr.heap.size wr v → v.cell? ⟨b, off + k, none⟩ = some (.int .i64 (f k))) := Lib.hid (fun v h => HF.out v h k hlt)
      have l1 : (0 : Int) ≤ (k : Int) := by omega
      have l2 : (k : Int) < (n : Int) := by omega
      have HUk : Hid (∀ g : Int, g = f k → g < 0 ∨ (T : Int) ≤ g → lsb D n f = false) := Lib.hid (fun g hg h => lsb_no (fun h1 => by
        have h2 := (HI.out (f k)).1 (h1 k hlt).1
        rw [← hg] at h2; omega))
      obtain ⟨u, hu⟩ : ∃ u, u = f k := ⟨_, rfl⟩
      rw [← hu] at HFk
      have HU := Lib.hid hu
      clear hu
      by_cases hu0 : u < 0
      · have HX := Lib.hid (HUk.out u HU.out (.inl hu0))
        have du0 : decide (u < 0) = true := decide_eq_true hu0
        go_wp2_with fail
        have hx0 : Below wr.heap.size wr wr.drew := (Below.refl _ _).drew
        refine wp_region_inv (by kernel_rfl) (by kernel_rfl) (fun l a' w' => a' = { tmps := #[Value.int .i64 (D : Int), Value.slice (some ⟨b, off, none⟩) n c, undef, undef, u4, Value.int .i64 (k : Int), Value.int .i64 (k : Int), Value.slice (some ⟨b, off, none⟩) n c, Value.int .i64 (n : Int), Value.bool true, u10, u11, bif l 0 then Value.slice (some ⟨b, off, none⟩) n c else u12, bif l 1 then Value.int .i64 (k : Int) else u13, bif l 2 then Value.pointer (some ⟨b, off + k, none⟩) else u14, bif l 3 then Value.int .i64 u else u15, bif l 4 then Value.bool true else u16, bif l 5 then Value.bool true else u17, bif l 6 then undef else u18, bif l 7 then undef else u19, bif l 8 then undef else u20, bif l 9 then undef else u21, bif l 10 then undef else u22, bif l 11 then undef else u23, bif l 12 then undef else u24, bif l 13 then Value.bool true else u25, bif l 14 then Value.bool true else u26, bif l 15 then undef else u27, bif l 16 then undef else u28, bif l 17 then undef else u29, bif l 18 then undef else u30, bif l 19 then undef else u31, bif l 20 then undef else u32, bif l 21 then undef else u33, bif l 22 then undef else u34, bif l 23 then undef else u35, bif l 24 then undef else u36, bif l 25 then undef else u37, bif l 26 then undef else u38, bif l 27 then undef else u39, bif l 28 then undef else u40, bif l 29 then Value.bool true else u41], defers := [] } ∧ w' = wr.drew) ⟨rfl, rfl⟩ ?_ ?_
        · rintro l a' w' i ⟨rfl, rfl⟩ hi hli hpre
          have hi2 : i < 30 := hi
          have hcase : i = 0 ∨ i = 1 ∨ i = 2 ∨ i = 3 ∨ i = 4 ∨ i = 5 ∨ i = 6 ∨ i = 7 ∨ i = 8 ∨ i = 9 ∨ i = 10 ∨ i = 11 ∨ i = 12 ∨ i = 13 ∨ i = 14 ∨ i = 15 ∨ i = 16 ∨ i = 17 ∨ i = 18 ∨ i = 19 ∨ i = 20 ∨ i = 21 ∨ i = 22 ∨ i = 23 ∨ i = 24 ∨ i = 25 ∨ i = 26 ∨ i = 27 ∨ i = 28 ∨ i = 29 := by omega
          clear hi hi2
          rcases hcase with rfl | rfl | rfl | rfl | rfl | rfl | rfl | rfl | rfl | rfl | rfl | rfl | rfl | rfl | rfl | rfl | rfl | rfl | rfl | rfl | rfl | rfl | rfl | rfl | rfl | rfl | rfl | rfl | rfl | rfl
          · -- 0: Op.move (Operand.tmp 1)
            refine wpOp_step rfl (fun K' hK => ?_)
            clear hpre
            rw [if_pos (by rfl)]
            go_simp
            exact hK _ _ ⟨by simp [upd, Act.put], rfl⟩
          · -- 1: Op.move (Operand.tmp 5)
            refine wpOp_step rfl (fun K' hK => ?_)
            clear hpre
            rw [if_pos (by rfl)]
            go_simp
            exact hK _ _ ⟨by simp [upd, Act.put], rfl⟩
          · -- 2: Op.indexAddr 57 (Operand.tmp 12) (Operand.tmp 13)
            have p0 : l 0 = true := hpre _ rfl ⟨0, .data⟩ (by simp) rfl
            have p1 : l 1 = true := hpre _ rfl ⟨1, .data⟩ (by simp) rfl
            refine wpOp_step rfl (fun K' hK => ?_)
            simp only [p0, p1, cond_true, cond_false]
            clear hpre
            rw [if_pos (by rfl)]
            have l1 : (0 : Int) ≤ (k : Int) := by omega
            have l2 : (k : Int) < (n : Int) := by omega
            go_simp
            exact hK _ _ ⟨by simp [upd, Act.put, p0, p1], rfl⟩
          · -- 3: Op.load 3 (Operand.tmp 14)
            have p2 : l 2 = true := hpre _ rfl ⟨2, .data⟩ (by simp) rfl
            refine wpOp_step rfl (fun K' hK => ?_)
            simp only [p2, cond_true, cond_false]
            clear hpre
            rw [if_pos (by rfl)]
            have z1 := HFk.out _ hx0
            go_simp
            exact hK _ _ ⟨by simp [upd, Act.put, p2], rfl⟩
          · -- 4: Op.binOp BinOp.lss 3 (Operand.tmp 15) (Operand.const (Value.
            have p3 : l 3 = true := hpre _ rfl ⟨3, .data⟩ (by simp) rfl
            refine wpOp_step rfl (fun K' hK => ?_)
            simp only [p3, cond_true, cond_false]
            clear hpre
            rw [if_pos (by rfl)]
            go_simp
            exact hK _ _ ⟨by simp [upd, Act.put, p3, du0], rfl⟩
          · -- 5: Op.move (Operand.tmp 16)
            have p4 : l 4 = true := hpre _ rfl ⟨4, .data⟩ (by simp) rfl
            refine wpOp_step rfl (fun K' hK => ?_)
            simp only [p4, cond_true, cond_false]
            clear hpre
            rw [if_pos (by rfl)]
            go_simp
            exact hK _ _ ⟨by simp [upd, Act.put, p4], rfl⟩
          · -- 6: Op.move (Operand.tmp 1)
            have p5 : l 5 = true := hpre _ rfl ⟨5, .guard⟩ (by simp) rfl
            refine wpOp_step rfl (fun K' hK => ?_)
            simp only [p5, cond_true, cond_false]
            clear hpre
            rw [if_neg (by exact Bool.false_ne_true)]
            exact hK _ _ ⟨by simp [upd, Act.put, p5], rfl⟩
          · -- 7: Op.move (Operand.tmp 5)
            have p5 : l 5 = true := hpre _ rfl ⟨5, .guard⟩ (by simp) rfl
            refine wpOp_step rfl (fun K' hK => ?_)
            simp only [p5, cond_true, cond_false]
            clear hpre
            rw [if_neg (by exact Bool.false_ne_true)]
            exact hK _ _ ⟨by simp [upd, Act.put, p5], rfl⟩
          · -- 8: Op.indexAddr 57 (Operand.tmp 18) (Operand.tmp 19)
            have p6 : l 6 = true := hpre _ rfl ⟨6, .data⟩ (by simp) rfl
            have p7 : l 7 = true := hpre _ rfl ⟨7, .data⟩ (by simp) rfl
            have p5 : l 5 = true := hpre _ rfl ⟨5, .guard⟩ (by simp) rfl
            refine wpOp_step rfl (fun K' hK => ?_)
            simp only [p6, p7, p5, cond_true, cond_false]
            clear hpre
            rw [if_neg (by exact Bool.false_ne_true)]
            exact hK _ _ ⟨by simp [upd, Act.put, p6, p7, p5], rfl⟩
          · -- 9: Op.load 3 (Operand.tmp 20)
            have p8 : l 8 = true := hpre _ rfl ⟨8, .data⟩ (by simp) rfl
            have p5 : l 5 = true := hpre _ rfl ⟨5, .guard⟩ (by simp) rfl
            refine wpOp_step rfl (fun K' hK => ?_)
            simp only [p8, p5, cond_true, cond_false]
            clear hpre
            rw [if_neg (by exact Bool.false_ne_true)]
            exact hK _ _ ⟨by simp [upd, Act.put, p8, p5], rfl⟩
          · -- 10: Op.move (Operand.tmp 0)
            have p5 : l 5 = true := hpre _ rfl ⟨5, .guard⟩ (by simp) rfl
            refine wpOp_step rfl (fun K' hK => ?_)
            simp only [p5, cond_true, cond_false]
            clear hpre
            rw [if_neg (by exact Bool.false_ne_true)]
            exact hK _ _ ⟨by simp [upd, Act.put, p5], rfl⟩
          · -- 11: Op.call { callee := Callee.value (Operand.func 52), args := 
            have p10 : l 10 = true := hpre _ rfl ⟨10, .data⟩ (by simp) rfl
            have p5 : l 5 = true := hpre _ rfl ⟨5, .chain⟩ (by simp) rfl
            refine wpOp_step rfl (fun K' hK => ?_)
            simp only [p10, p5, cond_true, cond_false]
            clear hpre
            rw [if_neg (by exact Bool.false_ne_true)]
            exact hK _ _ ⟨by simp [upd, Act.put, p10, p5], rfl⟩
          · -- 12: Op.binOp BinOp.geq 3 (Operand.tmp 21) (Operand.tmp 23) 3
            have p9 : l 9 = true := hpre _ rfl ⟨9, .data⟩ (by simp) rfl
            have p11 : l 11 = true := hpre _ rfl ⟨11, .data⟩ (by simp) rfl
            have p5 : l 5 = true := hpre _ rfl ⟨5, .guard⟩ (by simp) rfl
            refine wpOp_step rfl (fun K' hK => ?_)
            simp only [p9, p11, p5, cond_true, cond_false]
            clear hpre
            rw [if_neg (by exact Bool.false_ne_true)]
            exact hK _ _ ⟨by simp [upd, Act.put, p9, p11, p5], rfl⟩
          · -- 13: Op.pick (Operand.tmp 17) (Operand.const (Value.bool true)) (
            have p5 : l 5 = true := hpre _ rfl ⟨5, .data⟩ (by simp) rfl
            have p12 : l 12 = true := hpre _ rfl ⟨12, .data⟩ (by simp) rfl
            refine wpOp_step rfl (fun K' hK => ?_)
            simp only [p5, p12, cond_true, cond_false]
            clear hpre
            rw [if_pos (by rfl)]
            go_simp
            exact hK _ _ ⟨by simp [upd, Act.put, p5, p12], rfl⟩
          · -- 14: Op.move (Operand.tmp 25)
            have p13 : l 13 = true := hpre _ rfl ⟨13, .data⟩ (by simp) rfl
            have p11 : l 11 = true := hpre _ rfl ⟨11, .chain⟩ (by simp) rfl
            refine wpOp_step rfl (fun K' hK => ?_)
            simp only [p13, p11, cond_true, cond_false]
            clear hpre
            rw [if_pos (by rfl)]
            go_simp
            exact hK _ _ ⟨by simp [upd, Act.put, p13, p11], rfl⟩
          · -- 15: Op.move (Operand.tmp 5)
            have p14 : l 14 = true := hpre _ rfl ⟨14, .guard⟩ (by simp) rfl
            refine wpOp_step rfl (fun K' hK => ?_)
            simp only [p14, cond_true, cond_false]
            clear hpre
            rw [if_neg (by exact Bool.false_ne_true)]
            exact hK _ _ ⟨by simp [upd, Act.put, p14], rfl⟩
          · -- 16: Op.binOp BinOp.gtr 3 (Operand.tmp 27) (Operand.const (Value.
            have p15 : l 15 = true := hpre _ rfl ⟨15, .data⟩ (by simp) rfl
            have p14 : l 14 = true := hpre _ rfl ⟨14, .guard⟩ (by simp) rfl
            refine wpOp_step rfl (fun K' hK => ?_)
            simp only [p15, p14, cond_true, cond_false]
            clear hpre
            rw [if_neg (by exact Bool.false_ne_true)]
            exact hK _ _ ⟨by simp [upd, Act.put, p15, p14], rfl⟩
          · -- 17: Op.move (Operand.tmp 28)
            have p16 : l 16 = true := hpre _ rfl ⟨16, .data⟩ (by simp) rfl
            have p14 : l 14 = true := hpre _ rfl ⟨14, .chain⟩ (by simp) rfl
            refine wpOp_step rfl (fun K' hK => ?_)
            simp only [p16, p14, cond_true, cond_false]
            clear hpre
            rw [if_neg (by exact Bool.false_ne_true)]
            exact hK _ _ ⟨by simp [upd, Act.put, p16, p14], rfl⟩
          · -- 18: Op.move (Operand.tmp 1)
            have p17 : l 17 = true := hpre _ rfl ⟨17, .guard⟩ (by simp) rfl
            refine wpOp_step rfl (fun K' hK => ?_)
            simp only [p17, cond_true, cond_false]
            clear hpre
            rw [if_neg (by exact Bool.false_ne_true)]
            exact hK _ _ ⟨by simp [upd, Act.put, p17], rfl⟩
          · -- 19: Op.move (Operand.tmp 5)
            have p17 : l 17 = true := hpre _ rfl ⟨17, .guard⟩ (by simp) rfl
            refine wpOp_step rfl (fun K' hK => ?_)
            simp only [p17, cond_true, cond_false]
            clear hpre
            rw [if_neg (by exact Bool.false_ne_true)]
            exact hK _ _ ⟨by simp [upd, Act.put, p17], rfl⟩
          · -- 20: Op.indexAddr 57 (Operand.tmp 30) (Operand.tmp 31)
            have p18 : l 18 = true := hpre _ rfl ⟨18, .data⟩ (by simp) rfl
            have p19 : l 19 = true := hpre _ rfl ⟨19, .data⟩ (by simp) rfl
            have p17 : l 17 = true := hpre _ rfl ⟨17, .guard⟩ (by simp) rfl
            refine wpOp_step rfl (fun K' hK => ?_)
            simp only [p18, p19, p17, cond_true, cond_false]
            clear hpre
            rw [if_neg (by exact Bool.false_ne_true)]
            exact hK _ _ ⟨by simp [upd, Act.put, p18, p19, p17], rfl⟩
          · -- 21: Op.load 3 (Operand.tmp 32)
            have p20 : l 20 = true := hpre _ rfl ⟨20, .data⟩ (by simp) rfl
            have p17 : l 17 = true := hpre _ rfl ⟨17, .guard⟩ (by simp) rfl
            refine wpOp_step rfl (fun K' hK => ?_)
            simp only [p20, p17, cond_true, cond_false]
            clear hpre
            rw [if_neg (by exact Bool.false_ne_true)]
            exact hK _ _ ⟨by simp [upd, Act.put, p20, p17], rfl⟩
          · -- 22: Op.move (Operand.tmp 1)
            have p17 : l 17 = true := hpre _ rfl ⟨17, .guard⟩ (by simp) rfl
            refine wpOp_step rfl (fun K' hK => ?_)
            simp only [p17, cond_true, cond_false]
            clear hpre
            rw [if_neg (by exact Bool.false_ne_true)]
            exact hK _ _ ⟨by simp [upd, Act.put, p17], rfl⟩
          · -- 23: Op.move (Operand.tmp 5)
            have p17 : l 17 = true := hpre _ rfl ⟨17, .guard⟩ (by simp) rfl
            refine wpOp_step rfl (fun K' hK => ?_)
            simp only [p17, cond_true, cond_false]
            clear hpre
            rw [if_neg (by exact Bool.false_ne_true)]
            exact hK _ _ ⟨by simp [upd, Act.put, p17], rfl⟩
          · -- 24: Op.binOp BinOp.sub 3 (Operand.tmp 35) (Operand.const (Value.
            have p23 : l 23 = true := hpre _ rfl ⟨23, .data⟩ (by simp) rfl
            have p17 : l 17 = true := hpre _ rfl ⟨17, .guard⟩ (by simp) rfl
            refine wpOp_step rfl (fun K' hK => ?_)
            simp only [p23, p17, cond_true, cond_false]
            clear hpre
            rw [if_neg (by exact Bool.false_ne_true)]
            exact hK _ _ ⟨by simp [upd, Act.put, p23, p17], rfl⟩
          · -- 25: Op.indexAddr 57 (Operand.tmp 34) (Operand.tmp 36)
            have p22 : l 22 = true := hpre _ rfl ⟨22, .data⟩ (by simp) rfl
            have p24 : l 24 = true := hpre _ rfl ⟨24, .data⟩ (by simp) rfl
            have p17 : l 17 = true := hpre _ rfl ⟨17, .guard⟩ (by simp) rfl
            refine wpOp_step rfl (fun K' hK => ?_)
            simp only [p22, p24, p17, cond_true, cond_false]
            clear hpre
            rw [if_neg (by exact Bool.false_ne_true)]
            exact hK _ _ ⟨by simp [upd, Act.put, p22, p24, p17], rfl⟩
          · -- 26: Op.load 3 (Operand.tmp 37)
            have p25 : l 25 = true := hpre _ rfl ⟨25, .data⟩ (by simp) rfl
            have p17 : l 17 = true := hpre _ rfl ⟨17, .guard⟩ (by simp) rfl
            refine wpOp_step rfl (fun K' hK => ?_)
            simp only [p25, p17, cond_true, cond_false]
            clear hpre
            rw [if_neg (by exact Bool.false_ne_true)]
            exact hK _ _ ⟨by simp [upd, Act.put, p25, p17], rfl⟩
          · -- 27: Op.binOp BinOp.leq 3 (Operand.tmp 33) (Operand.tmp 38) 3
            have p21 : l 21 = true := hpre _ rfl ⟨21, .data⟩ (by simp) rfl
            have p26 : l 26 = true := hpre _ rfl ⟨26, .data⟩ (by simp) rfl
            have p17 : l 17 = true := hpre _ rfl ⟨17, .guard⟩ (by simp) rfl
            refine wpOp_step rfl (fun K' hK => ?_)
            simp only [p21, p26, p17, cond_true, cond_false]
            clear hpre
            rw [if_neg (by exact Bool.false_ne_true)]
            exact hK _ _ ⟨by simp [upd, Act.put, p21, p26, p17], rfl⟩
          · -- 28: Op.pick (Operand.tmp 29) (Operand.tmp 39) (Operand.const (Va
            have p17 : l 17 = true := hpre _ rfl ⟨17, .data⟩ (by simp) rfl
            have p27 : l 27 = true := hpre _ rfl ⟨27, .data⟩ (by simp) rfl
            have p14 : l 14 = true := hpre _ rfl ⟨14, .guard⟩ (by simp) rfl
            refine wpOp_step rfl (fun K' hK => ?_)
            simp only [p17, p27, p14, cond_true, cond_false]
            clear hpre
            rw [if_neg (by exact Bool.false_ne_true)]
            exact hK _ _ ⟨by simp [upd, Act.put, p17, p27, p14], rfl⟩
          · -- 29: Op.pick (Operand.tmp 26) (Operand.const (Value.bool true)) (
            have p14 : l 14 = true := hpre _ rfl ⟨14, .data⟩ (by simp) rfl
            have p28 : l 28 = true := hpre _ rfl ⟨28, .data⟩ (by simp) rfl
            refine wpOp_step rfl (fun K' hK => ?_)
            simp only [p14, p28, cond_true, cond_false]
            clear hpre
            rw [if_pos (by rfl)]
            go_simp
            exact hK _ _ ⟨by simp [upd, Act.put, p14, p28], rfl⟩
        · rintro l a' w9 hall ⟨rfl, rfl⟩
          simp only [hall 0 (by decide), hall 1 (by decide), hall 2 (by decide), hall 3 (by decide), hall 4 (by decide), hall 5 (by decide), hall 6 (by decide), hall 7 (by decide), hall 8 (by decide), hall 9 (by decide), hall 10 (by decide), hall 11 (by decide), hall 12 (by decide), hall 13 (by decide), hall 14 (by decide), hall 15 (by decide), hall 16 (by decide), hall 17 (by decide), hall 18 (by decide), hall 19 (by decide), hall 20 (by decide), hall 21 (by decide), hall 22 (by decide), hall 23 (by decide), hall 24 (by decide), hall 25 (by decide), hall 26 (by decide), hall 27 (by decide), hall 28 (by decide), hall 29 (by decide), cond_true]
          clear hall
          go_wp2
          go_ret
          exact ⟨by rw [HX.out]; rfl, HBd.out.1⟩
      · have hu0' : 0 ≤ u := by omega
        have du0 : decide (u < 0) = false := decide_eq_false hu0
        by_cases huT : (T : Int) ≤ u
        · have HX := Lib.hid (HUk.out u HU.out (.inr huT))
          have duT : decide ((T : Int) ≤ u) = true := decide_eq_true huT
          go_wp2_with fail
          have hx0 : Below wr.heap.size wr wr.drew := (Below.refl _ _).drew
          refine wp_region_inv (by kernel_rfl) (by kernel_rfl) (fun l a' w' => a' = { tmps := #[Value.int .i64 (D : Int), Value.slice (some ⟨b, off, none⟩) n c, undef, undef, u4, Value.int .i64 (k : Int), Value.int .i64 (k : Int), Value.slice (some ⟨b, off, none⟩) n c, Value.int .i64 (n : Int), Value.bool true, u10, u11, bif l 0 then Value.slice (some ⟨b, off, none⟩) n c else u12, bif l 1 then Value.int .i64 (k : Int) else u13, bif l 2 then Value.pointer (some ⟨b, off + k, none⟩) else u14, bif l 3 then Value.int .i64 u else u15, bif l 4 then Value.bool false else u16, bif l 5 then Value.bool false else u17, bif l 6 then Value.slice (some ⟨b, off, none⟩) n c else u18, bif l 7 then Value.int .i64 (k : Int) else u19, bif l 8 then Value.pointer (some ⟨b, off + k, none⟩) else u20, bif l 9 then Value.int .i64 u else u21, bif l 10 then Value.int .i64 (D : Int) else u22, bif l 11 then Value.int .i64 (T : Int) else u23, bif l 12 then Value.bool true else u24, bif l 13 then Value.bool true else u25, bif l 14 then Value.bool true else u26, bif l 15 then undef else u27, bif l 16 then undef else u28, bif l 17 then undef else u29, bif l 18 then undef else u30, bif l 19 then undef else u31, bif l 20 then undef else u32, bif l 21 then undef else u33, bif l 22 then undef else u34, bif l 23 then undef else u35, bif l 24 then undef else u36, bif l 25 then undef else u37, bif l 26 then undef else u38, bif l 27 then undef else u39, bif l 28 then undef else u40, bif l 29 then Value.bool true else u41], defers := [] } ∧ w' = wr.drew) ⟨rfl, rfl⟩ ?_ ?_
          · rintro l a' w' i ⟨rfl, rfl⟩ hi hli hpre
            have hi2 : i < 30 := hi
            have hcase : i = 0 ∨ i = 1 ∨ i = 2 ∨ i = 3 ∨ i = 4 ∨ i = 5 ∨ i = 6 ∨ i = 7 ∨ i = 8 ∨ i = 9 ∨ i = 10 ∨ i = 11 ∨ i = 12 ∨ i = 13 ∨ i = 14 ∨ i = 15 ∨ i = 16 ∨ i = 17 ∨ i = 18 ∨ i = 19 ∨ i = 20 ∨ i = 21 ∨ i = 22 ∨ i = 23 ∨ i = 24 ∨ i = 25 ∨ i = 26 ∨ i = 27 ∨ i = 28 ∨ i = 29 := by omega
            clear hi hi2
            rcases hcase with rfl | rfl | rfl | rfl | rfl | rfl | rfl | rfl | rfl | rfl | rfl | rfl | rfl | rfl | rfl | rfl | rfl | rfl | rfl | rfl | rfl | rfl | rfl | rfl | rfl | rfl | rfl | rfl | rfl | rfl
            · -- 0: Op.move (Operand.tmp 1)
              refine wpOp_step rfl (fun K' hK => ?_)
              clear hpre
              rw [if_pos (by rfl)]
              go_simp
              exact hK _ _ ⟨by simp [upd, Act.put], rfl⟩
            · -- 1: Op.move (Operand.tmp 5)
              refine wpOp_step rfl (fun K' hK => ?_)
              clear hpre
              rw [if_pos (by rfl)]
              go_simp
              exact hK _ _ ⟨by simp [upd, Act.put], rfl⟩
            · -- 2: Op.indexAddr 57 (Operand.tmp 12) (Operand.tmp 13)
              have p0 : l 0 = true := hpre _ rfl ⟨0, .data⟩ (by simp) rfl
              have p1 : l 1 = true := hpre _ rfl ⟨1, .data⟩ (by simp) rfl
              refine wpOp_step rfl (fun K' hK => ?_)
              simp only [p0, p1, cond_true, cond_false]
              clear hpre
              rw [if_pos (by rfl)]
              have l1 : (0 : Int) ≤ (k : Int) := by omega
              have l2 : (k : Int) < (n : Int) := by omega
              go_simp
              exact hK _ _ ⟨by simp [upd, Act.put, p0, p1], rfl⟩
            · -- 3: Op.load 3 (Operand.tmp 14)
              have p2 : l 2 = true := hpre _ rfl ⟨2, .data⟩ (by simp) rfl
              refine wpOp_step rfl (fun K' hK => ?_)
              simp only [p2, cond_true, cond_false]
              clear hpre
              rw [if_pos (by rfl)]
              have z1 := HFk.out _ hx0
              go_simp
              exact hK _ _ ⟨by simp [upd, Act.put, p2], rfl⟩
            · -- 4: Op.binOp BinOp.lss 3 (Operand.tmp 15) (Operand.const (Value.
              have p3 : l 3 = true := hpre _ rfl ⟨3, .data⟩ (by simp) rfl
              refine wpOp_step rfl (fun K' hK => ?_)
              simp only [p3, cond_true, cond_false]
              clear hpre
              rw [if_pos (by rfl)]
              go_simp
              exact hK _ _ ⟨by simp [upd, Act.put, p3, du0], rfl⟩
            · -- 5: Op.move (Operand.tmp 16)
              have p4 : l 4 = true := hpre _ rfl ⟨4, .data⟩ (by simp) rfl
              refine wpOp_step rfl (fun K' hK => ?_)
              simp only [p4, cond_true, cond_false]
              clear hpre
              rw [if_pos (by rfl)]
              go_simp
              exact hK _ _ ⟨by simp [upd, Act.put, p4], rfl⟩
            · -- 6: Op.move (Operand.tmp 1)
              have p5 : l 5 = true := hpre _ rfl ⟨5, .guard⟩ (by simp) rfl
              refine wpOp_step rfl (fun K' hK => ?_)
              simp only [p5, cond_true, cond_false]
              clear hpre
              rw [if_pos (by rfl)]
              go_simp
              exact hK _ _ ⟨by simp [upd, Act.put, p5], rfl⟩
            · -- 7: Op.move (Operand.tmp 5)
              have p5 : l 5 = true := hpre _ rfl ⟨5, .guard⟩ (by simp) rfl
              refine wpOp_step rfl (fun K' hK => ?_)
              simp only [p5, cond_true, cond_false]
              clear hpre
              rw [if_pos (by rfl)]
              go_simp
              exact hK _ _ ⟨by simp [upd, Act.put, p5], rfl⟩
            · -- 8: Op.indexAddr 57 (Operand.tmp 18) (Operand.tmp 19)
              have p6 : l 6 = true := hpre _ rfl ⟨6, .data⟩ (by simp) rfl
              have p7 : l 7 = true := hpre _ rfl ⟨7, .data⟩ (by simp) rfl
              have p5 : l 5 = true := hpre _ rfl ⟨5, .guard⟩ (by simp) rfl
              refine wpOp_step rfl (fun K' hK => ?_)
              simp only [p6, p7, p5, cond_true, cond_false]
              clear hpre
              rw [if_pos (by rfl)]
              have l1 : (0 : Int) ≤ (k : Int) := by omega
              have l2 : (k : Int) < (n : Int) := by omega
              go_simp
              exact hK _ _ ⟨by simp [upd, Act.put, p6, p7, p5], rfl⟩
            · -- 9: Op.load 3 (Operand.tmp 20)
              have p8 : l 8 = true := hpre _ rfl ⟨8, .data⟩ (by simp) rfl
              have p5 : l 5 = true := hpre _ rfl ⟨5, .guard⟩ (by simp) rfl
              refine wpOp_step rfl (fun K' hK => ?_)
              simp only [p8, p5, cond_true, cond_false]
              clear hpre
              rw [if_pos (by rfl)]
              have z1 := HFk.out _ hx0
              go_simp
              exact hK _ _ ⟨by simp [upd, Act.put, p8, p5], rfl⟩
            · -- 10: Op.move (Operand.tmp 0)
              have p5 : l 5 = true := hpre _ rfl ⟨5, .guard⟩ (by simp) rfl
              refine wpOp_step rfl (fun K' hK => ?_)
              simp only [p5, cond_true, cond_false]
              clear hpre
              rw [if_pos (by rfl)]
              go_simp
              exact hK _ _ ⟨by simp [upd, Act.put, p5], rfl⟩
            · -- 11: Op.call { callee := Callee.value (Operand.func 52), args := 
              have p10 : l 10 = true := hpre _ rfl ⟨10, .data⟩ (by simp) rfl
              have p5 : l 5 = true := hpre _ rfl ⟨5, .chain⟩ (by simp) rfl
              refine wpOp_step rfl (fun K' hK => ?_)
              simp only [p10, p5, cond_true, cond_false]
              clear hpre
              rw [if_pos (by rfl)]
              go_simp
              refine (HR.out _).mono ?_
              rintro e w5 ⟨rfl, rfl⟩
              exact hK _ _ ⟨by simp [upd, Act.put, p10, p5], rfl⟩
            · -- 12: Op.binOp BinOp.geq 3 (Operand.tmp 21) (Operand.tmp 23) 3
              have p9 : l 9 = true := hpre _ rfl ⟨9, .data⟩ (by simp) rfl
              have p11 : l 11 = true := hpre _ rfl ⟨11, .data⟩ (by simp) rfl
              have p5 : l 5 = true := hpre _ rfl ⟨5, .guard⟩ (by simp) rfl
              refine wpOp_step rfl (fun K' hK => ?_)
              simp only [p9, p11, p5, cond_true, cond_false]
              clear hpre
              rw [if_pos (by rfl)]
              go_simp
              exact hK _ _ ⟨by simp [upd, Act.put, p9, p11, p5, duT], rfl⟩
            · -- 13: Op.pick (Operand.tmp 17) (Operand.const (Value.bool true)) (
              have p5 : l 5 = true := hpre _ rfl ⟨5, .data⟩ (by simp) rfl
              have p12 : l 12 = true := hpre _ rfl ⟨12, .data⟩ (by simp) rfl
              refine wpOp_step rfl (fun K' hK => ?_)
              simp only [p5, p12, cond_true, cond_false]
              clear hpre
              rw [if_pos (by rfl)]
              go_simp
              exact hK _ _ ⟨by simp [upd, Act.put, p5, p12], rfl⟩
            · -- 14: Op.move (Operand.tmp 25)
              have p13 : l 13 = true := hpre _ rfl ⟨13, .data⟩ (by simp) rfl
              have p11 : l 11 = true := hpre _ rfl ⟨11, .chain⟩ (by simp) rfl
              refine wpOp_step rfl (fun K' hK => ?_)
              simp only [p13, p11, cond_true, cond_false]
              clear hpre
              rw [if_pos (by rfl)]
              go_simp
              exact hK _ _ ⟨by simp [upd, Act.put, p13, p11], rfl⟩
            · -- 15: Op.move (Operand.tmp 5)
              have p14 : l 14 = true := hpre _ rfl ⟨14, .guard⟩ (by simp) rfl
              refine wpOp_step rfl (fun K' hK => ?_)
              simp only [p14, cond_true, cond_false]
              clear hpre
              rw [if_neg (by exact Bool.false_ne_true)]
              exact hK _ _ ⟨by simp [upd, Act.put, p14], rfl⟩
            · -- 16: Op.binOp BinOp.gtr 3 (Operand.tmp 27) (Operand.const (Value.
              have p15 : l 15 = true := hpre _ rfl ⟨15, .data⟩ (by simp) rfl
              have p14 : l 14 = true := hpre _ rfl ⟨14, .guard⟩ (by simp) rfl
              refine wpOp_step rfl (fun K' hK => ?_)
              simp only [p15, p14, cond_true, cond_false]
              clear hpre
              rw [if_neg (by exact Bool.false_ne_true)]
              exact hK _ _ ⟨by simp [upd, Act.put, p15, p14], rfl⟩
            · -- 17: Op.move (Operand.tmp 28)
              have p16 : l 16 = true := hpre _ rfl ⟨16, .data⟩ (by simp) rfl
              have p14 : l 14 = true := hpre _ rfl ⟨14, .chain⟩ (by simp) rfl
              refine wpOp_step rfl (fun K' hK => ?_)
              simp only [p16, p14, cond_true, cond_false]
              clear hpre
              rw [if_neg (by exact Bool.false_ne_true)]
              exact hK _ _ ⟨by simp [upd, Act.put, p16, p14], rfl⟩
            · -- 18: Op.move (Operand.tmp 1)
              have p17 : l 17 = true := hpre _ rfl ⟨17, .guard⟩ (by simp) rfl
              refine wpOp_step rfl (fun K' hK => ?_)
              simp only [p17, cond_true, cond_false]
              clear hpre
              rw [if_neg (by exact Bool.false_ne_true)]
              exact hK _ _ ⟨by simp [upd, Act.put, p17], rfl⟩
            · -- 19: Op.move (Operand.tmp 5)
              have p17 : l 17 = true := hpre _ rfl ⟨17, .guard⟩ (by simp) rfl
              refine wpOp_step rfl (fun K' hK => ?_)
              simp only [p17, cond_true, cond_false]
              clear hpre
              rw [if_neg (by exact Bool.false_ne_true)]
              exact hK _ _ ⟨by simp [upd, Act.put, p17], rfl⟩
            · -- 20: Op.indexAddr 57 (Operand.tmp 30) (Operand.tmp 31)
              have p18 : l 18 = true := hpre _ rfl ⟨18, .data⟩ (by simp) rfl
              have p19 : l 19 = true := hpre _ rfl ⟨19, .data⟩ (by simp) rfl
              have p17 : l 17 = true := hpre _ rfl ⟨17, .guard⟩ (by simp) rfl
              refine wpOp_step rfl (fun K' hK => ?_)
              simp only [p18, p19, p17, cond_true, cond_false]
              clear hpre
              rw [if_neg (by exact Bool.false_ne_true)]
              exact hK _ _ ⟨by simp [upd, Act.put, p18, p19, p17], rfl⟩
            · -- 21: Op.load 3 (Operand.tmp 32)
              have p20 : l 20 = true := hpre _ rfl ⟨20, .data⟩ (by simp) rfl
              have p17 : l 17 = true := hpre _ rfl ⟨17, .guard⟩ (by simp) rfl
              refine wpOp_step rfl (fun K' hK => ?_)
              simp only [p20, p17, cond_true, cond_false]
              clear hpre
              rw [if_neg (by exact Bool.false_ne_true)]
              exact hK _ _ ⟨by simp [upd, Act.put, p20, p17], rfl⟩
            · -- 22: Op.move (Operand.tmp 1)
              have p17 : l 17 = true := hpre _ rfl ⟨17, .guard⟩ (by simp) rfl
              refine wpOp_step rfl (fun K' hK => ?_)
              simp only [p17, cond_true, cond_false]
              clear hpre
              rw [if_neg (by exact Bool.false_ne_true)]
              exact hK _ _ ⟨by simp [upd, Act.put, p17], rfl⟩
            · -- 23: Op.move (Operand.tmp 5)
              have p17 : l 17 = true := hpre _ rfl ⟨17, .guard⟩ (by simp) rfl
              refine wpOp_step rfl (fun K' hK => ?_)
              simp only [p17, cond_true, cond_false]
              clear hpre
              rw [if_neg (by exact Bool.false_ne_true)]
              exact hK _ _ ⟨by simp [upd, Act.put, p17], rfl⟩
            · -- 24: Op.binOp BinOp.sub 3 (Operand.tmp 35) (Operand.const (Value.
              have p23 : l 23 = true := hpre _ rfl ⟨23, .data⟩ (by simp) rfl
              have p17 : l 17 = true := hpre _ rfl ⟨17, .guard⟩ (by simp) rfl
              refine wpOp_step rfl (fun K' hK => ?_)
              simp only [p23, p17, cond_true, cond_false]
              clear hpre
              rw [if_neg (by exact Bool.false_ne_true)]
              exact hK _ _ ⟨by simp [upd, Act.put, p23, p17], rfl⟩
            · -- 25: Op.indexAddr 57 (Operand.tmp 34) (Operand.tmp 36)
              have p22 : l 22 = true := hpre _ rfl ⟨22, .data⟩ (by simp) rfl
              have p24 : l 24 = true := hpre _ rfl ⟨24, .data⟩ (by simp) rfl
              have p17 : l 17 = true := hpre _ rfl ⟨17, .guard⟩ (by simp) rfl
              refine wpOp_step rfl (fun K' hK => ?_)
              simp only [p22, p24, p17, cond_true, cond_false]
              clear hpre
              rw [if_neg (by exact Bool.false_ne_true)]
              exact hK _ _ ⟨by simp [upd, Act.put, p22, p24, p17], rfl⟩
            · -- 26: Op.load 3 (Operand.tmp 37)
              have p25 : l 25 = true := hpre _ rfl ⟨25, .data⟩ (by simp) rfl
              have p17 : l 17 = true := hpre _ rfl ⟨17, .guard⟩ (by simp) rfl
              refine wpOp_step rfl (fun K' hK => ?_)
              simp only [p25, p17, cond_true, cond_false]
              clear hpre
              rw [if_neg (by exact Bool.false_ne_true)]
              exact hK _ _ ⟨by simp [upd, Act.put, p25, p17], rfl⟩
            · -- 27: Op.binOp BinOp.leq 3 (Operand.tmp 33) (Operand.tmp 38) 3
              have p21 : l 21 = true := hpre _ rfl ⟨21, .data⟩ (by simp) rfl
              have p26 : l 26 = true := hpre _ rfl ⟨26, .data⟩ (by simp) rfl
              have p17 : l 17 = true := hpre _ rfl ⟨17, .guard⟩ (by simp) rfl
              refine wpOp_step rfl (fun K' hK => ?_)
              simp only [p21, p26, p17, cond_true, cond_false]
              clear hpre
              rw [if_neg (by exact Bool.false_ne_true)]
              exact hK _ _ ⟨by simp [upd, Act.put, p21, p26, p17], rfl⟩
            · -- 28: Op.pick (Operand.tmp 29) (Operand.tmp 39) (Operand.const (Va
              have p17 : l 17 = true := hpre _ rfl ⟨17, .data⟩ (by simp) rfl
              have p27 : l 27 = true := hpre _ rfl ⟨27, .data⟩ (by simp) rfl
              have p14 : l 14 = true := hpre _ rfl ⟨14, .guard⟩ (by simp) rfl
              refine wpOp_step rfl (fun K' hK => ?_)
              simp only [p17, p27, p14, cond_true, cond_false]
              clear hpre
              rw [if_neg (by exact Bool.false_ne_true)]
              exact hK _ _ ⟨by simp [upd, Act.put, p17, p27, p14], rfl⟩
            · -- 29: Op.pick (Operand.tmp 26) (Operand.const (Value.bool true)) (
              have p14 : l 14 = true := hpre _ rfl ⟨14, .data⟩ (by simp) rfl
              have p28 : l 28 = true := hpre _ rfl ⟨28, .data⟩ (by simp) rfl
              refine wpOp_step rfl (fun K' hK => ?_)
              simp only [p14, p28, cond_true, cond_false]
              clear hpre
              rw [if_pos (by rfl)]
              go_simp
              exact hK _ _ ⟨by simp [upd, Act.put, p14, p28], rfl⟩
          · rintro l a' w9 hall ⟨rfl, rfl⟩
            simp only [hall 0 (by decide), hall 1 (by decide), hall 2 (by decide), hall 3 (by decide), hall 4 (by decide), hall 5 (by decide), hall 6 (by decide), hall 7 (by decide), hall 8 (by decide), hall 9 (by decide), hall 10 (by decide), hall 11 (by decide), hall 12 (by decide), hall 13 (by decide), hall 14 (by decide), hall 15 (by decide), hall 16 (by decide), hall 17 (by decide), hall 18 (by decide), hall 19 (by decide), hall 20 (by decide), hall 21 (by decide), hall 22 (by decide), hall 23 (by decide), hall 24 (by decide), hall 25 (by decide), hall 26 (by decide), hall 27 (by decide), hall 28 (by decide), hall 29 (by decide), cond_true]
            clear hall
            go_wp2
            go_ret
            exact ⟨by rw [HX.out]; rfl, HBd.out.1⟩
        · have huT' : u < (T : Int) := by omega
          have duT : decide ((T : Int) ≤ u) = false := decide_eq_false huT
          have HIs : Hid (isr D (f k) = true) := Lib.hid (by rw [← HU.out]; exact (HI.out u).2 ⟨hu0', huT'⟩)
          rcases Nat.eq_zero_or_pos k with hk0 | hk0
          · have HK0 := Lib.hid hk0
            have hk0i : (k : Int) = 0 := by omega
            have hk0d : decide (0 < (k : Int)) = false := decide_eq_false (by omega)
            have hk0e : decide (0 < k) = false := decide_eq_false (by omega)
            have HL' : Hid (Lst D (k + 1) f) := Lib.hid (fun i hi => by
              have : i = k := by have := HK0.out; omega
              subst this
              exact ⟨HIs.out, fun j hj => by have := HK0.out; omega⟩)
            clear hk0 hk0i
            go_wp2_with fail
            have hx0 : Below wr.heap.size wr wr.drew := (Below.refl _ _).drew
            refine wp_region_inv (by kernel_rfl) (by kernel_rfl) (fun l a' w' => a' = { tmps := #[Value.int .i64 (D : Int), Value.slice (some ⟨b, off, none⟩) n c, undef, undef, u4, Value.int .i64 (k : Int), Value.int .i64 (k : Int), Value.slice (some ⟨b, off, none⟩) n c, Value.int .i64 (n : Int), Value.bool true, u10, u11, bif l 0 then Value.slice (some ⟨b, off, none⟩) n c else u12, bif l 1 then Value.int .i64 (k : Int) else u13, bif l 2 then Value.pointer (some ⟨b, off + k, none⟩) else u14, bif l 3 then Value.int .i64 u else u15, bif l 4 then Value.bool false else u16, bif l 5 then Value.bool false else u17, bif l 6 then Value.slice (some ⟨b, off, none⟩) n c else u18, bif l 7 then Value.int .i64 (k : Int) else u19, bif l 8 then Value.pointer (some ⟨b, off + k, none⟩) else u20, bif l 9 then Value.int .i64 u else u21, bif l 10 then Value.int .i64 (D : Int) else u22, bif l 11 then Value.int .i64 (T : Int) else u23, bif l 12 then Value.bool false else u24, bif l 13 then Value.bool false else u25, bif l 14 then Value.bool false else u26, bif l 15 then Value.int .i64 (k : Int) else u27, bif l 16 then Value.bool false else u28, bif l 17 then Value.bool false else u29, bif l 18 then undef else u30, bif l 19 then undef else u31, bif l 20 then undef else u32, bif l 21 then undef else u33, bif l 22 then undef else u34, bif l 23 then undef else u35, bif l 24 then undef else u36, bif l 25 then undef else u37, bif l 26 then undef else u38, bif l 27 then undef else u39, bif l 28 then Value.bool false else u40, bif l 29 then Value.bool false else u41], defers := [] } ∧ w' = wr.drew) ⟨rfl, rfl⟩ ?_ ?_
            · rintro l a' w' i ⟨rfl, rfl⟩ hi hli hpre
              have hi2 : i < 30 := hi
              have hcase : i = 0 ∨ i = 1 ∨ i = 2 ∨ i = 3 ∨ i = 4 ∨ i = 5 ∨ i = 6 ∨ i = 7 ∨ i = 8 ∨ i = 9 ∨ i = 10 ∨ i = 11 ∨ i = 12 ∨ i = 13 ∨ i = 14 ∨ i = 15 ∨ i = 16 ∨ i = 17 ∨ i = 18 ∨ i = 19 ∨ i = 20 ∨ i = 21 ∨ i = 22 ∨ i = 23 ∨ i = 24 ∨ i = 25 ∨ i = 26 ∨ i = 27 ∨ i = 28 ∨ i = 29 := by omega
              clear hi hi2
              rcases hcase with rfl | rfl | rfl | rfl | rfl | rfl | rfl | rfl | rfl | rfl | rfl | rfl | rfl | rfl | rfl | rfl | rfl | rfl | rfl | rfl | rfl | rfl | rfl | rfl | rfl | rfl | rfl | rfl | rfl | rfl
              · -- 0: Op.move (Operand.tmp 1)
                refine wpOp_step rfl (fun K' hK => ?_)
                clear hpre
                rw [if_pos (by rfl)]
                go_simp
                exact hK _ _ ⟨by simp [upd, Act.put], rfl⟩
              · -- 1: Op.move (Operand.tmp 5)
                refine wpOp_step rfl (fun K' hK => ?_)
                clear hpre
                rw [if_pos (by rfl)]
                go_simp
                exact hK _ _ ⟨by simp [upd, Act.put], rfl⟩
              · -- 2: Op.indexAddr 57 (Operand.tmp 12) (Operand.tmp 13)
                have p0 : l 0 = true := hpre _ rfl ⟨0, .data⟩ (by simp) rfl
                have p1 : l 1 = true := hpre _ rfl ⟨1, .data⟩ (by simp) rfl
                refine wpOp_step rfl (fun K' hK => ?_)
                simp only [p0, p1, cond_true, cond_false]
                clear hpre
                rw [if_pos (by rfl)]
                have l1 : (0 : Int) ≤ (k : Int) := by omega
                have l2 : (k : Int) < (n : Int) := by omega
                go_simp
                exact hK _ _ ⟨by simp [upd, Act.put, p0, p1], rfl⟩
              · -- 3: Op.load 3 (Operand.tmp 14)
                have p2 : l 2 = true := hpre _ rfl ⟨2, .data⟩ (by simp) rfl
                refine wpOp_step rfl (fun K' hK => ?_)
                simp only [p2, cond_true, cond_false]
                clear hpre
                rw [if_pos (by rfl)]
                have z1 := HFk.out _ hx0
                go_simp
                exact hK _ _ ⟨by simp [upd, Act.put, p2], rfl⟩
              · -- 4: Op.binOp BinOp.lss 3 (Operand.tmp 15) (Operand.const (Value.
                have p3 : l 3 = true := hpre _ rfl ⟨3, .data⟩ (by simp) rfl
                refine wpOp_step rfl (fun K' hK => ?_)
                simp only [p3, cond_true, cond_false]
                clear hpre
                rw [if_pos (by rfl)]
                go_simp
                exact hK _ _ ⟨by simp [upd, Act.put, p3, du0], rfl⟩
              · -- 5: Op.move (Operand.tmp 16)
                have p4 : l 4 = true := hpre _ rfl ⟨4, .data⟩ (by simp) rfl
                refine wpOp_step rfl (fun K' hK => ?_)
                simp only [p4, cond_true, cond_false]
                clear hpre
                rw [if_pos (by rfl)]
                go_simp
                exact hK _ _ ⟨by simp [upd, Act.put, p4], rfl⟩
              · -- 6: Op.move (Operand.tmp 1)
                have p5 : l 5 = true := hpre _ rfl ⟨5, .guard⟩ (by simp) rfl
                refine wpOp_step rfl (fun K' hK => ?_)
                simp only [p5, cond_true, cond_false]
                clear hpre
                rw [if_pos (by rfl)]
                go_simp
                exact hK _ _ ⟨by simp [upd, Act.put, p5], rfl⟩
              · -- 7: Op.move (Operand.tmp 5)
                have p5 : l 5 = true := hpre _ rfl ⟨5, .guard⟩ (by simp) rfl
                refine wpOp_step rfl (fun K' hK => ?_)
                simp only [p5, cond_true, cond_false]
                clear hpre
                rw [if_pos (by rfl)]
                go_simp
                exact hK _ _ ⟨by simp [upd, Act.put, p5], rfl⟩
              · -- 8: Op.indexAddr 57 (Operand.tmp 18) (Operand.tmp 19)
                have p6 : l 6 = true := hpre _ rfl ⟨6, .data⟩ (by simp) rfl
                have p7 : l 7 = true := hpre _ rfl ⟨7, .data⟩ (by simp) rfl
                have p5 : l 5 = true := hpre _ rfl ⟨5, .guard⟩ (by simp) rfl
                refine wpOp_step rfl (fun K' hK => ?_)
                simp only [p6, p7, p5, cond_true, cond_false]
                clear hpre
                rw [if_pos (by rfl)]
                have l1 : (0 : Int) ≤ (k : Int) := by omega
                have l2 : (k : Int) < (n : Int) := by omega
                go_simp
                exact hK _ _ ⟨by simp [upd, Act.put, p6, p7, p5], rfl⟩
              · -- 9: Op.load 3 (Operand.tmp 20)
                have p8 : l 8 = true := hpre _ rfl ⟨8, .data⟩ (by simp) rfl
                have p5 : l 5 = true := hpre _ rfl ⟨5, .guard⟩ (by simp) rfl
                refine wpOp_step rfl (fun K' hK => ?_)
                simp only [p8, p5, cond_true, cond_false]
                clear hpre
                rw [if_pos (by rfl)]
                have z1 := HFk.out _ hx0
                go_simp
                exact hK _ _ ⟨by simp [upd, Act.put, p8, p5], rfl⟩
              · -- 10: Op.move (Operand.tmp 0)
                have p5 : l 5 = true := hpre _ rfl ⟨5, .guard⟩ (by simp) rfl
                refine wpOp_step rfl (fun K' hK => ?_)
                simp only [p5, cond_true, cond_false]
                clear hpre
                rw [if_pos (by rfl)]
                go_simp
                exact hK _ _ ⟨by simp [upd, Act.put, p5], rfl⟩
              · -- 11: Op.call { callee := Callee.value (Operand.func 52), args := 
                have p10 : l 10 = true := hpre _ rfl ⟨10, .data⟩ (by simp) rfl
                have p5 : l 5 = true := hpre _ rfl ⟨5, .chain⟩ (by simp) rfl
                refine wpOp_step rfl (fun K' hK => ?_)
                simp only [p10, p5, cond_true, cond_false]
                clear hpre
                rw [if_pos (by rfl)]
                go_simp
                refine (HR.out _).mono ?_
                rintro e w5 ⟨rfl, rfl⟩
                exact hK _ _ ⟨by simp [upd, Act.put, p10, p5], rfl⟩
              · -- 12: Op.binOp BinOp.geq 3 (Operand.tmp 21) (Operand.tmp 23) 3
                have p9 : l 9 = true := hpre _ rfl ⟨9, .data⟩ (by simp) rfl
                have p11 : l 11 = true := hpre _ rfl ⟨11, .data⟩ (by simp) rfl
                have p5 : l 5 = true := hpre _ rfl ⟨5, .guard⟩ (by simp) rfl
                refine wpOp_step rfl (fun K' hK => ?_)
                simp only [p9, p11, p5, cond_true, cond_false]
                clear hpre
                rw [if_pos (by rfl)]
                go_simp
                exact hK _ _ ⟨by simp [upd, Act.put, p9, p11, p5, duT], rfl⟩
              · -- 13: Op.pick (Operand.tmp 17) (Operand.const (Value.bool true)) (
                have p5 : l 5 = true := hpre _ rfl ⟨5, .data⟩ (by simp) rfl
                have p12 : l 12 = true := hpre _ rfl ⟨12, .data⟩ (by simp) rfl
                refine wpOp_step rfl (fun K' hK => ?_)
                simp only [p5, p12, cond_true, cond_false]
                clear hpre
                rw [if_pos (by rfl)]
                go_simp
                exact hK _ _ ⟨by simp [upd, Act.put, p5, p12], rfl⟩
              · -- 14: Op.move (Operand.tmp 25)
                have p13 : l 13 = true := hpre _ rfl ⟨13, .data⟩ (by simp) rfl
                have p11 : l 11 = true := hpre _ rfl ⟨11, .chain⟩ (by simp) rfl
                refine wpOp_step rfl (fun K' hK => ?_)
                simp only [p13, p11, cond_true, cond_false]
                clear hpre
                rw [if_pos (by rfl)]
                go_simp
                exact hK _ _ ⟨by simp [upd, Act.put, p13, p11], rfl⟩
              · -- 15: Op.move (Operand.tmp 5)
                have p14 : l 14 = true := hpre _ rfl ⟨14, .guard⟩ (by simp) rfl
                refine wpOp_step rfl (fun K' hK => ?_)
                simp only [p14, cond_true, cond_false]
                clear hpre
                rw [if_pos (by rfl)]
                go_simp
                exact hK _ _ ⟨by simp [upd, Act.put, p14], rfl⟩
              · -- 16: Op.binOp BinOp.gtr 3 (Operand.tmp 27) (Operand.const (Value.
                have p15 : l 15 = true := hpre _ rfl ⟨15, .data⟩ (by simp) rfl
                have p14 : l 14 = true := hpre _ rfl ⟨14, .guard⟩ (by simp) rfl
                refine wpOp_step rfl (fun K' hK => ?_)
                simp only [p15, p14, cond_true, cond_false]
                clear hpre
                rw [if_pos (by rfl)]
                go_simp
                exact hK _ _ ⟨by simp [upd, Act.put, p15, p14, hk0d, hk0e], rfl⟩
              · -- 17: Op.move (Operand.tmp 28)
                have p16 : l 16 = true := hpre _ rfl ⟨16, .data⟩ (by simp) rfl
                have p14 : l 14 = true := hpre _ rfl ⟨14, .chain⟩ (by simp) rfl
                refine wpOp_step rfl (fun K' hK => ?_)
                simp only [p16, p14, cond_true, cond_false]
                clear hpre
                rw [if_pos (by rfl)]
                go_simp
                exact hK _ _ ⟨by simp [upd, Act.put, p16, p14], rfl⟩
              · -- 18: Op.move (Operand.tmp 1)
                have p17 : l 17 = true := hpre _ rfl ⟨17, .guard⟩ (by simp) rfl
                refine wpOp_step rfl (fun K' hK => ?_)
                simp only [p17, cond_true, cond_false]
                clear hpre
                rw [if_neg (by exact Bool.false_ne_true)]
                exact hK _ _ ⟨by simp [upd, Act.put, p17], rfl⟩
              · -- 19: Op.move (Operand.tmp 5)
                have p17 : l 17 = true := hpre _ rfl ⟨17, .guard⟩ (by simp) rfl
                refine wpOp_step rfl (fun K' hK => ?_)
                simp only [p17, cond_true, cond_false]
                clear hpre
                rw [if_neg (by exact Bool.false_ne_true)]
                exact hK _ _ ⟨by simp [upd, Act.put, p17], rfl⟩
              · -- 20: Op.indexAddr 57 (Operand.tmp 30) (Operand.tmp 31)
                have p18 : l 18 = true := hpre _ rfl ⟨18, .data⟩ (by simp) rfl
                have p19 : l 19 = true := hpre _ rfl ⟨19, .data⟩ (by simp) rfl
                have p17 : l 17 = true := hpre _ rfl ⟨17, .guard⟩ (by simp) rfl
                refine wpOp_step rfl (fun K' hK => ?_)
                simp only [p18, p19, p17, cond_true, cond_false]
                clear hpre
                rw [if_neg (by exact Bool.false_ne_true)]
                exact hK _ _ ⟨by simp [upd, Act.put, p18, p19, p17], rfl⟩
              · -- 21: Op.load 3 (Operand.tmp 32)
                have p20 : l 20 = true := hpre _ rfl ⟨20, .data⟩ (by simp) rfl
                have p17 : l 17 = true := hpre _ rfl ⟨17, .guard⟩ (by simp) rfl
                refine wpOp_step rfl (fun K' hK => ?_)
                simp only [p20, p17, cond_true, cond_false]
                clear hpre
                rw [if_neg (by exact Bool.false_ne_true)]
                exact hK _ _ ⟨by simp [upd, Act.put, p20, p17], rfl⟩
              · -- 22: Op.move (Operand.tmp 1)
                have p17 : l 17 = true := hpre _ rfl ⟨17, .guard⟩ (by simp) rfl
                refine wpOp_step rfl (fun K' hK => ?_)
                simp only [p17, cond_true, cond_false]
                clear hpre
                rw [if_neg (by exact Bool.false_ne_true)]
                exact hK _ _ ⟨by simp [upd, Act.put, p17], rfl⟩
              · -- 23: Op.move (Operand.tmp 5)
                have p17 : l 17 = true := hpre _ rfl ⟨17, .guard⟩ (by simp) rfl
                refine wpOp_step rfl (fun K' hK => ?_)
                simp only [p17, cond_true, cond_false]
                clear hpre
                rw [if_neg (by exact Bool.false_ne_true)]
                exact hK _ _ ⟨by simp [upd, Act.put, p17], rfl⟩
              · -- 24: Op.binOp BinOp.sub 3 (Operand.tmp 35) (Operand.const (Value.
                have p23 : l 23 = true := hpre _ rfl ⟨23, .data⟩ (by simp) rfl
                have p17 : l 17 = true := hpre _ rfl ⟨17, .guard⟩ (by simp) rfl
                refine wpOp_step rfl (fun K' hK => ?_)
                simp only [p23, p17, cond_true, cond_false]
                clear hpre
                rw [if_neg (by exact Bool.false_ne_true)]
                exact hK _ _ ⟨by simp [upd, Act.put, p23, p17], rfl⟩
              · -- 25: Op.indexAddr 57 (Operand.tmp 34) (Operand.tmp 36)
                have p22 : l 22 = true := hpre _ rfl ⟨22, .data⟩ (by simp) rfl
                have p24 : l 24 = true := hpre _ rfl ⟨24, .data⟩ (by simp) rfl
                have p17 : l 17 = true := hpre _ rfl ⟨17, .guard⟩ (by simp) rfl
                refine wpOp_step rfl (fun K' hK => ?_)
                simp only [p22, p24, p17, cond_true, cond_false]
                clear hpre
                rw [if_neg (by exact Bool.false_ne_true)]
                exact hK _ _ ⟨by simp [upd, Act.put, p22, p24, p17], rfl⟩
              · -- 26: Op.load 3 (Operand.tmp 37)
                have p25 : l 25 = true := hpre _ rfl ⟨25, .data⟩ (by simp) rfl
                have p17 : l 17 = true := hpre _ rfl ⟨17, .guard⟩ (by simp) rfl
                refine wpOp_step rfl (fun K' hK => ?_)
                simp only [p25, p17, cond_true, cond_false]
                clear hpre
                rw [if_neg (by exact Bool.false_ne_true)]
                exact hK _ _ ⟨by simp [upd, Act.put, p25, p17], rfl⟩
              · -- 27: Op.binOp BinOp.leq 3 (Operand.tmp 33) (Operand.tmp 38) 3
                have p21 : l 21 = true := hpre _ rfl ⟨21, .data⟩ (by simp) rfl
                have p26 : l 26 = true := hpre _ rfl ⟨26, .data⟩ (by simp) rfl
                have p17 : l 17 = true := hpre _ rfl ⟨17, .guard⟩ (by simp) rfl
                refine wpOp_step rfl (fun K' hK => ?_)
                simp only [p21, p26, p17, cond_true, cond_false]
                clear hpre
                rw [if_neg (by exact Bool.false_ne_true)]
                exact hK _ _ ⟨by simp [upd, Act.put, p21, p26, p17], rfl⟩
              · -- 28: Op.pick (Operand.tmp 29) (Operand.tmp 39) (Operand.const (Va
                have p17 : l 17 = true := hpre _ rfl ⟨17, .data⟩ (by simp) rfl
                have p27 : l 27 = true := hpre _ rfl ⟨27, .data⟩ (by simp) rfl
                have p14 : l 14 = true := hpre _ rfl ⟨14, .guard⟩ (by simp) rfl
                refine wpOp_step rfl (fun K' hK => ?_)
                simp only [p17, p27, p14, cond_true, cond_false]
                clear hpre
                rw [if_pos (by rfl)]
                go_simp
                exact hK _ _ ⟨by simp [upd, Act.put, p17, p27, p14], rfl⟩
              · -- 29: Op.pick (Operand.tmp 26) (Operand.const (Value.bool true)) (
                have p14 : l 14 = true := hpre _ rfl ⟨14, .data⟩ (by simp) rfl
                have p28 : l 28 = true := hpre _ rfl ⟨28, .data⟩ (by simp) rfl
                refine wpOp_step rfl (fun K' hK => ?_)
                simp only [p14, p28, cond_true, cond_false]
                clear hpre
                rw [if_pos (by rfl)]
                go_simp
                exact hK _ _ ⟨by simp [upd, Act.put, p14, p28], rfl⟩
            · rintro l a' w9 hall ⟨rfl, rfl⟩
              simp only [hall 0 (by decide), hall 1 (by decide), hall 2 (by decide), hall 3 (by decide), hall 4 (by decide), hall 5 (by decide), hall 6 (by decide), hall 7 (by decide), hall 8 (by decide), hall 9 (by decide), hall 10 (by decide), hall 11 (by decide), hall 12 (by decide), hall 13 (by decide), hall 14 (by decide), hall 15 (by decide), hall 16 (by decide), hall 17 (by decide), hall 18 (by decide), hall 19 (by decide), hall 20 (by decide), hall 21 (by decide), hall 22 (by decide), hall 23 (by decide), hall 24 (by decide), hall 25 (by decide), hall 26 (by decide), hall 27 (by decide), hall 28 (by decide), hall 29 (by decide), cond_true]
              clear hall
              go_wp2
              go_roundw
              case rel => exact ⟨k + 1, by omega, by go_num, HL', HBd⟩
              case measure => simp [intOf]; omega
          · obtain ⟨j, hj⟩ : ∃ j, k = j + 1 := ⟨k - 1, by omega⟩
            have HJ := Lib.hid hj
            have hji : (k : Int) - 1 = (j : Int) := by omega
            have hk0d : decide (0 < (k : Int)) = true := decide_eq_true (by omega)
            have hk0e : decide (0 < k) = true := decide_eq_true hk0
            have HFj : Hid (∀ v, Below wr.heap.size wr v → v.cell? ⟨b, off + k, none⟩ = some (.int .i64 u) ∧ v.cell? ⟨b, off + j, none⟩ = some (.int .i64 (f j))) := Lib.hid (fun v h => ⟨HFk.out v h, HF.out v h j (by omega)⟩)
            have m1 : (0 : Int) ≤ (j : Int) := by omega
            have m2 : (j : Int) < (n : Int) := by omega
            obtain ⟨last, hl⟩ : ∃ last, last = f j := ⟨_, rfl⟩
            rw [← hl] at HFj
            have HLa := Lib.hid hl
            clear hj hl
            by_cases hle : u ≤ last
            · have dle : decide (u ≤ last) = true := decide_eq_true hle
              have HX : Hid (lsb D n f = false) := Lib.hid (lsb_no (fun h1 => by
                have h2 := (h1 k hlt).2 j HJ.out.symm
                rw [← HU.out, ← HLa.out] at h2; omega))
              go_wp2_with fail
              have hx0 : Below wr.heap.size wr wr.drew := (Below.refl _ _).drew
              refine wp_region_inv (by kernel_rfl) (by kernel_rfl) (fun l a' w' => a' = { tmps := #[Value.int .i64 (D : Int), Value.slice (some ⟨b, off, none⟩) n c, undef, undef, u4, Value.int .i64 (k : Int), Value.int .i64 (k : Int), Value.slice (some ⟨b, off, none⟩) n c, Value.int .i64 (n : Int), Value.bool true, u10, u11, bif l 0 then Value.slice (some ⟨b, off, none⟩) n c else u12, bif l 1 then Value.int .i64 (k : Int) else u13, bif l 2 then Value.pointer (some ⟨b, off + k, none⟩) else u14, bif l 3 then Value.int .i64 u else u15, bif l 4 then Value.bool false else u16, bif l 5 then Value.bool false else u17, bif l 6 then Value.slice (some ⟨b, off, none⟩) n c else u18, bif l 7 then Value.int .i64 (k : Int) else u19, bif l 8 then Value.pointer (some ⟨b, off + k, none⟩) else u20, bif l 9 then Value.int .i64 u else u21, bif l 10 then Value.int .i64 (D : Int) else u22, bif l 11 then Value.int .i64 (T : Int) else u23, bif l 12 then Value.bool false else u24, bif l 13 then Value.bool false else u25, bif l 14 then Value.bool false else u26, bif l 15 then Value.int .i64 (k : Int) else u27, bif l 16 then Value.bool true else u28, bif l 17 then Value.bool true else u29, bif l 18 then Value.slice (some ⟨b, off, none⟩) n c else u30, bif l 19 then Value.int .i64 (k : Int) else u31, bif l 20 then Value.pointer (some ⟨b, off + k, none⟩) else u32, bif l 21 then Value.int .i64 u else u33, bif l 22 then Value.slice (some ⟨b, off, none⟩) n c else u34, bif l 23 then Value.int .i64 (k : Int) else u35, bif l 24 then Value.int .i64 (j : Int) else u36, bif l 25 then Value.pointer (some ⟨b, off + j, none⟩) else u37, bif l 26 then Value.int .i64 last else u38, bif l 27 then Value.bool true else u39, bif l 28 then Value.bool true else u40, bif l 29 then Value.bool true else u41], defers := [] } ∧ w' = wr.drew) ⟨rfl, rfl⟩ ?_ ?_
              · rintro l a' w' i ⟨rfl, rfl⟩ hi hli hpre
                have hi2 : i < 30 := hi
                have hcase : i = 0 ∨ i = 1 ∨ i = 2 ∨ i = 3 ∨ i = 4 ∨ i = 5 ∨ i = 6 ∨ i = 7 ∨ i = 8 ∨ i = 9 ∨ i = 10 ∨ i = 11 ∨ i = 12 ∨ i = 13 ∨ i = 14 ∨ i = 15 ∨ i = 16 ∨ i = 17 ∨ i = 18 ∨ i = 19 ∨ i = 20 ∨ i = 21 ∨ i = 22 ∨ i = 23 ∨ i = 24 ∨ i = 25 ∨ i = 26 ∨ i = 27 ∨ i = 28 ∨ i = 29 := by omega
                clear hi hi2
                rcases hcase with rfl | rfl | rfl | rfl | rfl | rfl | rfl | rfl | rfl | rfl | rfl | rfl | rfl | rfl | rfl | rfl | rfl | rfl | rfl | rfl | rfl | rfl | rfl | rfl | rfl | rfl | rfl | rfl | rfl | rfl
                · -- 0: Op.move (Operand.tmp 1)
                  refine wpOp_step rfl (fun K' hK => ?_)
                  clear hpre
                  rw [if_pos (by rfl)]
                  go_simp
                  exact hK _ _ ⟨by simp [upd, Act.put], rfl⟩
                · -- 1: Op.move (Operand.tmp 5)
                  refine wpOp_step rfl (fun K' hK => ?_)
                  clear hpre
                  rw [if_pos (by rfl)]
                  go_simp
                  exact hK _ _ ⟨by simp [upd, Act.put], rfl⟩
                · -- 2: Op.indexAddr 57 (Operand.tmp 12) (Operand.tmp 13)
                  have p0 : l 0 = true := hpre _ rfl ⟨0, .data⟩ (by simp) rfl
                  have p1 : l 1 = true := hpre _ rfl ⟨1, .data⟩ (by simp) rfl
                  refine wpOp_step rfl (fun K' hK => ?_)
                  simp only [p0, p1, cond_true, cond_false]
                  clear hpre
                  rw [if_pos (by rfl)]
                  have l1 : (0 : Int) ≤ (k : Int) := by omega
                  have l2 : (k : Int) < (n : Int) := by omega
                  go_simp
                  exact hK _ _ ⟨by simp [upd, Act.put, p0, p1], rfl⟩
                · -- 3: Op.load 3 (Operand.tmp 14)
                  have p2 : l 2 = true := hpre _ rfl ⟨2, .data⟩ (by simp) rfl
                  refine wpOp_step rfl (fun K' hK => ?_)
                  simp only [p2, cond_true, cond_false]
                  clear hpre
                  rw [if_pos (by rfl)]
                  have z1 := (HFj.out _ hx0).1
                  go_simp
                  exact hK _ _ ⟨by simp [upd, Act.put, p2], rfl⟩
                · -- 4: Op.binOp BinOp.lss 3 (Operand.tmp 15) (Operand.const (Value.
                  have p3 : l 3 = true := hpre _ rfl ⟨3, .data⟩ (by simp) rfl
                  refine wpOp_step rfl (fun K' hK => ?_)
                  simp only [p3, cond_true, cond_false]
                  clear hpre
                  rw [if_pos (by rfl)]
                  go_simp
                  exact hK _ _ ⟨by simp [upd, Act.put, p3, du0], rfl⟩
                · -- 5: Op.move (Operand.tmp 16)
                  have p4 : l 4 = true := hpre _ rfl ⟨4, .data⟩ (by simp) rfl
                  refine wpOp_step rfl (fun K' hK => ?_)
                  simp only [p4, cond_true, cond_false]
                  clear hpre
                  rw [if_pos (by rfl)]
                  go_simp
                  exact hK _ _ ⟨by simp [upd, Act.put, p4], rfl⟩
                · -- 6: Op.move (Operand.tmp 1)
                  have p5 : l 5 = true := hpre _ rfl ⟨5, .guard⟩ (by simp) rfl
                  refine wpOp_step rfl (fun K' hK => ?_)
                  simp only [p5, cond_true, cond_false]
                  clear hpre
                  rw [if_pos (by rfl)]
                  go_simp
                  exact hK _ _ ⟨by simp [upd, Act.put, p5], rfl⟩
                · -- 7: Op.move (Operand.tmp 5)
                  have p5 : l 5 = true := hpre _ rfl ⟨5, .guard⟩ (by simp) rfl
                  refine wpOp_step rfl (fun K' hK => ?_)
                  simp only [p5, cond_true, cond_false]
                  clear hpre
                  rw [if_pos (by rfl)]
                  go_simp
                  exact hK _ _ ⟨by simp [upd, Act.put, p5], rfl⟩
                · -- 8: Op.indexAddr 57 (Operand.tmp 18) (Operand.tmp 19)
                  have p6 : l 6 = true := hpre _ rfl ⟨6, .data⟩ (by simp) rfl
                  have p7 : l 7 = true := hpre _ rfl ⟨7, .data⟩ (by simp) rfl
                  have p5 : l 5 = true := hpre _ rfl ⟨5, .guard⟩ (by simp) rfl
                  refine wpOp_step rfl (fun K' hK => ?_)
                  simp only [p6, p7, p5, cond_true, cond_false]
                  clear hpre
                  rw [if_pos (by rfl)]
                  have l1 : (0 : Int) ≤ (k : Int) := by omega
                  have l2 : (k : Int) < (n : Int) := by omega
                  go_simp
                  exact hK _ _ ⟨by simp [upd, Act.put, p6, p7, p5], rfl⟩
                · -- 9: Op.load 3 (Operand.tmp 20)
                  have p8 : l 8 = true := hpre _ rfl ⟨8, .data⟩ (by simp) rfl
                  have p5 : l 5 = true := hpre _ rfl ⟨5, .guard⟩ (by simp) rfl
                  refine wpOp_step rfl (fun K' hK => ?_)
                  simp only [p8, p5, cond_true, cond_false]
                  clear hpre
                  rw [if_pos (by rfl)]
                  have z1 := (HFj.out _ hx0).1
                  go_simp
                  exact hK _ _ ⟨by simp [upd, Act.put, p8, p5], rfl⟩
                · -- 10: Op.move (Operand.tmp 0)
                  have p5 : l 5 = true := hpre _ rfl ⟨5, .guard⟩ (by simp) rfl
                  refine wpOp_step rfl (fun K' hK => ?_)
                  simp only [p5, cond_true, cond_false]
                  clear hpre
                  rw [if_pos (by rfl)]
                  go_simp
                  exact hK _ _ ⟨by simp [upd, Act.put, p5], rfl⟩
                · -- 11: Op.call { callee := Callee.value (Operand.func 52), args := 
                  have p10 : l 10 = true := hpre _ rfl ⟨10, .data⟩ (by simp) rfl
                  have p5 : l 5 = true := hpre _ rfl ⟨5, .chain⟩ (by simp) rfl
                  refine wpOp_step rfl (fun K' hK => ?_)
                  simp only [p10, p5, cond_true, cond_false]
                  clear hpre
                  rw [if_pos (by rfl)]
                  go_simp
                  refine (HR.out _).mono ?_
                  rintro e w5 ⟨rfl, rfl⟩
                  exact hK _ _ ⟨by simp [upd, Act.put, p10, p5], rfl⟩
                · -- 12: Op.binOp BinOp.geq 3 (Operand.tmp 21) (Operand.tmp 23) 3
                  have p9 : l 9 = true := hpre _ rfl ⟨9, .data⟩ (by simp) rfl
                  have p11 : l 11 = true := hpre _ rfl ⟨11, .data⟩ (by simp) rfl
                  have p5 : l 5 = true := hpre _ rfl ⟨5, .guard⟩ (by simp) rfl
                  refine wpOp_step rfl (fun K' hK => ?_)
                  simp only [p9, p11, p5, cond_true, cond_false]
                  clear hpre
                  rw [if_pos (by rfl)]
                  go_simp
                  exact hK _ _ ⟨by simp [upd, Act.put, p9, p11, p5, duT], rfl⟩
                · -- 13: Op.pick (Operand.tmp 17) (Operand.const (Value.bool true)) (
                  have p5 : l 5 = true := hpre _ rfl ⟨5, .data⟩ (by simp) rfl
                  have p12 : l 12 = true := hpre _ rfl ⟨12, .data⟩ (by simp) rfl
                  refine wpOp_step rfl (fun K' hK => ?_)
                  simp only [p5, p12, cond_true, cond_false]
                  clear hpre
                  rw [if_pos (by rfl)]
                  go_simp
                  exact hK _ _ ⟨by simp [upd, Act.put, p5, p12], rfl⟩
                · -- 14: Op.move (Operand.tmp 25)
                  have p13 : l 13 = true := hpre _ rfl ⟨13, .data⟩ (by simp) rfl
                  have p11 : l 11 = true := hpre _ rfl ⟨11, .chain⟩ (by simp) rfl
                  refine wpOp_step rfl (fun K' hK => ?_)
                  simp only [p13, p11, cond_true, cond_false]
                  clear hpre
                  rw [if_pos (by rfl)]
                  go_simp
                  exact hK _ _ ⟨by simp [upd, Act.put, p13, p11], rfl⟩
                · -- 15: Op.move (Operand.tmp 5)
                  have p14 : l 14 = true := hpre _ rfl ⟨14, .guard⟩ (by simp) rfl
                  refine wpOp_step rfl (fun K' hK => ?_)
                  simp only [p14, cond_true, cond_false]
                  clear hpre
                  rw [if_pos (by rfl)]
                  go_simp
                  exact hK _ _ ⟨by simp [upd, Act.put, p14], rfl⟩
                · -- 16: Op.binOp BinOp.gtr 3 (Operand.tmp 27) (Operand.const (Value.
                  have p15 : l 15 = true := hpre _ rfl ⟨15, .data⟩ (by simp) rfl
                  have p14 : l 14 = true := hpre _ rfl ⟨14, .guard⟩ (by simp) rfl
                  refine wpOp_step rfl (fun K' hK => ?_)
                  simp only [p15, p14, cond_true, cond_false]
                  clear hpre
                  rw [if_pos (by rfl)]
                  go_simp
                  exact hK _ _ ⟨by simp [upd, Act.put, p15, p14, hk0d, hk0e], rfl⟩
                · -- 17: Op.move (Operand.tmp 28)
                  have p16 : l 16 = true := hpre _ rfl ⟨16, .data⟩ (by simp) rfl
                  have p14 : l 14 = true := hpre _ rfl ⟨14, .chain⟩ (by simp) rfl
                  refine wpOp_step rfl (fun K' hK => ?_)
                  simp only [p16, p14, cond_true, cond_false]
                  clear hpre
                  rw [if_pos (by rfl)]
                  go_simp
                  exact hK _ _ ⟨by simp [upd, Act.put, p16, p14], rfl⟩
                · -- 18: Op.move (Operand.tmp 1)
                  have p17 : l 17 = true := hpre _ rfl ⟨17, .guard⟩ (by simp) rfl
                  refine wpOp_step rfl (fun K' hK => ?_)
                  simp only [p17, cond_true, cond_false]
                  clear hpre
                  rw [if_pos (by rfl)]
                  go_simp
                  exact hK _ _ ⟨by simp [upd, Act.put, p17], rfl⟩
                · -- 19: Op.move (Operand.tmp 5)
                  have p17 : l 17 = true := hpre _ rfl ⟨17, .guard⟩ (by simp) rfl
                  refine wpOp_step rfl (fun K' hK => ?_)
                  simp only [p17, cond_true, cond_false]
                  clear hpre
                  rw [if_pos (by rfl)]
                  go_simp
                  exact hK _ _ ⟨by simp [upd, Act.put, p17], rfl⟩
                · -- 20: Op.indexAddr 57 (Operand.tmp 30) (Operand.tmp 31)
                  have p18 : l 18 = true := hpre _ rfl ⟨18, .data⟩ (by simp) rfl
                  have p19 : l 19 = true := hpre _ rfl ⟨19, .data⟩ (by simp) rfl
                  have p17 : l 17 = true := hpre _ rfl ⟨17, .guard⟩ (by simp) rfl
                  refine wpOp_step rfl (fun K' hK => ?_)
                  simp only [p18, p19, p17, cond_true, cond_false]
                  clear hpre
                  rw [if_pos (by rfl)]
                  have l1 : (0 : Int) ≤ (k : Int) := by omega
                  have l2 : (k : Int) < (n : Int) := by omega
                  go_simp
                  exact hK _ _ ⟨by simp [upd, Act.put, p18, p19, p17], rfl⟩
                · -- 21: Op.load 3 (Operand.tmp 32)
                  have p20 : l 20 = true := hpre _ rfl ⟨20, .data⟩ (by simp) rfl
                  have p17 : l 17 = true := hpre _ rfl ⟨17, .guard⟩ (by simp) rfl
                  refine wpOp_step rfl (fun K' hK => ?_)
                  simp only [p20, p17, cond_true, cond_false]
                  clear hpre
                  rw [if_pos (by rfl)]
                  have z1 := (HFj.out _ hx0).1
                  go_simp
                  exact hK _ _ ⟨by simp [upd, Act.put, p20, p17], rfl⟩
                · -- 22: Op.move (Operand.tmp 1)
                  have p17 : l 17 = true := hpre _ rfl ⟨17, .guard⟩ (by simp) rfl
                  refine wpOp_step rfl (fun K' hK => ?_)
                  simp only [p17, cond_true, cond_false]
                  clear hpre
                  rw [if_pos (by rfl)]
                  go_simp
                  exact hK _ _ ⟨by simp [upd, Act.put, p17], rfl⟩
                · -- 23: Op.move (Operand.tmp 5)
                  have p17 : l 17 = true := hpre _ rfl ⟨17, .guard⟩ (by simp) rfl
                  refine wpOp_step rfl (fun K' hK => ?_)
                  simp only [p17, cond_true, cond_false]
                  clear hpre
                  rw [if_pos (by rfl)]
                  go_simp
                  exact hK _ _ ⟨by simp [upd, Act.put, p17], rfl⟩
                · -- 24: Op.binOp BinOp.sub 3 (Operand.tmp 35) (Operand.const (Value.
                  have p23 : l 23 = true := hpre _ rfl ⟨23, .data⟩ (by simp) rfl
                  have p17 : l 17 = true := hpre _ rfl ⟨17, .guard⟩ (by simp) rfl
                  refine wpOp_step rfl (fun K' hK => ?_)
                  simp only [p23, p17, cond_true, cond_false]
                  clear hpre
                  rw [if_pos (by rfl)]
                  have hjw : IntKind.i64.wrap (j : Int) = (j : Int) := IntWalk.i64_in _ (by omega)
                  go_simp
                  exact hK _ _ ⟨by simp [upd, Act.put, p23, p17, hji, hjw], rfl⟩
                · -- 25: Op.indexAddr 57 (Operand.tmp 34) (Operand.tmp 36)
                  have p22 : l 22 = true := hpre _ rfl ⟨22, .data⟩ (by simp) rfl
                  have p24 : l 24 = true := hpre _ rfl ⟨24, .data⟩ (by simp) rfl
                  have p17 : l 17 = true := hpre _ rfl ⟨17, .guard⟩ (by simp) rfl
                  refine wpOp_step rfl (fun K' hK => ?_)
                  simp only [p22, p24, p17, cond_true, cond_false]
                  clear hpre
                  rw [if_pos (by rfl)]
                  have m1 : (0 : Int) ≤ (j : Int) := by omega
                  have m2 : (j : Int) < (n : Int) := by omega
                  go_simp
                  exact hK _ _ ⟨by simp [upd, Act.put, p22, p24, p17], rfl⟩
                · -- 26: Op.load 3 (Operand.tmp 37)
                  have p25 : l 25 = true := hpre _ rfl ⟨25, .data⟩ (by simp) rfl
                  have p17 : l 17 = true := hpre _ rfl ⟨17, .guard⟩ (by simp) rfl
                  refine wpOp_step rfl (fun K' hK => ?_)
                  simp only [p25, p17, cond_true, cond_false]
                  clear hpre
                  rw [if_pos (by rfl)]
                  have z2 := (HFj.out _ hx0).2
                  go_simp
                  exact hK _ _ ⟨by simp [upd, Act.put, p25, p17], rfl⟩
                · -- 27: Op.binOp BinOp.leq 3 (Operand.tmp 33) (Operand.tmp 38) 3
                  have p21 : l 21 = true := hpre _ rfl ⟨21, .data⟩ (by simp) rfl
                  have p26 : l 26 = true := hpre _ rfl ⟨26, .data⟩ (by simp) rfl
                  have p17 : l 17 = true := hpre _ rfl ⟨17, .guard⟩ (by simp) rfl
                  refine wpOp_step rfl (fun K' hK => ?_)
                  simp only [p21, p26, p17, cond_true, cond_false]
                  clear hpre
                  rw [if_pos (by rfl)]
                  go_simp
                  exact hK _ _ ⟨by simp [upd, Act.put, p21, p26, p17, dle], rfl⟩
                · -- 28: Op.pick (Operand.tmp 29) (Operand.tmp 39) (Operand.const (Va
                  have p17 : l 17 = true := hpre _ rfl ⟨17, .data⟩ (by simp) rfl
                  have p27 : l 27 = true := hpre _ rfl ⟨27, .data⟩ (by simp) rfl
                  have p14 : l 14 = true := hpre _ rfl ⟨14, .guard⟩ (by simp) rfl
                  refine wpOp_step rfl (fun K' hK => ?_)
                  simp only [p17, p27, p14, cond_true, cond_false]
                  clear hpre
                  rw [if_pos (by rfl)]
                  go_simp
                  exact hK _ _ ⟨by simp [upd, Act.put, p17, p27, p14], rfl⟩
                · -- 29: Op.pick (Operand.tmp 26) (Operand.const (Value.bool true)) (
                  have p14 : l 14 = true := hpre _ rfl ⟨14, .data⟩ (by simp) rfl
                  have p28 : l 28 = true := hpre _ rfl ⟨28, .data⟩ (by simp) rfl
                  refine wpOp_step rfl (fun K' hK => ?_)
                  simp only [p14, p28, cond_true, cond_false]
                  clear hpre
                  rw [if_pos (by rfl)]
                  go_simp
                  exact hK _ _ ⟨by simp [upd, Act.put, p14, p28], rfl⟩
              · rintro l a' w9 hall ⟨rfl, rfl⟩
                simp only [hall 0 (by decide), hall 1 (by decide), hall 2 (by decide), hall 3 (by decide), hall 4 (by decide), hall 5 (by decide), hall 6 (by decide), hall 7 (by decide), hall 8 (by decide), hall 9 (by decide), hall 10 (by decide), hall 11 (by decide), hall 12 (by decide), hall 13 (by decide), hall 14 (by decide), hall 15 (by decide), hall 16 (by decide), hall 17 (by decide), hall 18 (by decide), hall 19 (by decide), hall 20 (by decide), hall 21 (by decide), hall 22 (by decide), hall 23 (by decide), hall 24 (by decide), hall 25 (by decide), hall 26 (by decide), hall 27 (by decide), hall 28 (by decide), hall 29 (by decide), cond_true]
                clear hall
                go_wp2
                go_ret
                exact ⟨by rw [HX.out]; rfl, HBd.out.1⟩
            · have hgt : last < u := by omega
              have dle : decide (u ≤ last) = false := decide_eq_false hle
              have HL' : Hid (Lst D (k + 1) f) := Lib.hid (fun i hi => by
                rcases (by omega : i < k ∨ i = k) with h3 | rfl
                · exact HL.out i h3
                · exact ⟨HIs.out, fun j' hj' => by
                    have : j' = j := by have := HJ.out; omega
                    subst this
                    rw [← HU.out, ← HLa.out]; exact hgt⟩)
              go_wp2_with fail
              have hx0 : Below wr.heap.size wr wr.drew := (Below.refl _ _).drew
              refine wp_region_inv (by kernel_rfl) (by kernel_rfl) (fun l a' w' => a' = { tmps := #[Value.int .i64 (D : Int), Value.slice (some ⟨b, off, none⟩) n c, undef, undef, u4, Value.int .i64 (k : Int), Value.int .i64 (k : Int), Value.slice (some ⟨b, off, none⟩) n c, Value.int .i64 (n : Int), Value.bool true, u10, u11, bif l 0 then Value.slice (some ⟨b, off, none⟩) n c else u12, bif l 1 then Value.int .i64 (k : Int) else u13, bif l 2 then Value.pointer (some ⟨b, off + k, none⟩) else u14, bif l 3 then Value.int .i64 u else u15, bif l 4 then Value.bool false else u16, bif l 5 then Value.bool false else u17, bif l 6 then Value.slice (some ⟨b, off, none⟩) n c else u18, bif l 7 then Value.int .i64 (k : Int) else u19, bif l 8 then Value.pointer (some ⟨b, off + k, none⟩) else u20, bif l 9 then Value.int .i64 u else u21, bif l 10 then Value.int .i64 (D : Int) else u22, bif l 11 then Value.int .i64 (T : Int) else u23, bif l 12 then Value.bool false else u24, bif l 13 then Value.bool false else u25, bif l 14 then Value.bool false else u26, bif l 15 then Value.int .i64 (k : Int) else u27, bif l 16 then Value.bool true else u28, bif l 17 then Value.bool true else u29, bif l 18 then Value.slice (some ⟨b, off, none⟩) n c else u30, bif l 19 then Value.int .i64 (k : Int) else u31, bif l 20 then Value.pointer (some ⟨b, off + k, none⟩) else u32, bif l 21 then Value.int .i64 u else u33, bif l 22 then Value.slice (some ⟨b, off, none⟩) n c else u34, bif l 23 then Value.int .i64 (k : Int) else u35, bif l 24 then Value.int .i64 (j : Int) else u36, bif l 25 then Value.pointer (some ⟨b, off + j, none⟩) else u37, bif l 26 then Value.int .i64 last else u38, bif l 27 then Value.bool false else u39, bif l 28 then Value.bool false else u40, bif l 29 then Value.bool false else u41], defers := [] } ∧ w' = wr.drew) ⟨rfl, rfl⟩ ?_ ?_
              · rintro l a' w' i ⟨rfl, rfl⟩ hi hli hpre
                have hi2 : i < 30 := hi
                have hcase : i = 0 ∨ i = 1 ∨ i = 2 ∨ i = 3 ∨ i = 4 ∨ i = 5 ∨ i = 6 ∨ i = 7 ∨ i = 8 ∨ i = 9 ∨ i = 10 ∨ i = 11 ∨ i = 12 ∨ i = 13 ∨ i = 14 ∨ i = 15 ∨ i = 16 ∨ i = 17 ∨ i = 18 ∨ i = 19 ∨ i = 20 ∨ i = 21 ∨ i = 22 ∨ i = 23 ∨ i = 24 ∨ i = 25 ∨ i = 26 ∨ i = 27 ∨ i = 28 ∨ i = 29 := by omega
                clear hi hi2
                rcases hcase with rfl | rfl | rfl | rfl | rfl | rfl | rfl | rfl | rfl | rfl | rfl | rfl | rfl | rfl | rfl | rfl | rfl | rfl | rfl | rfl | rfl | rfl | rfl | rfl | rfl | rfl | rfl | rfl | rfl | rfl
                · -- 0: Op.move (Operand.tmp 1)
                  refine wpOp_step rfl (fun K' hK => ?_)
                  clear hpre
                  rw [if_pos (by rfl)]
                  go_simp
                  exact hK _ _ ⟨by simp [upd, Act.put], rfl⟩
                · -- 1: Op.move (Operand.tmp 5)
                  refine wpOp_step rfl (fun K' hK => ?_)
                  clear hpre
                  rw [if_pos (by rfl)]
                  go_simp
                  exact hK _ _ ⟨by simp [upd, Act.put], rfl⟩
                · -- 2: Op.indexAddr 57 (Operand.tmp 12) (Operand.tmp 13)
                  have p0 : l 0 = true := hpre _ rfl ⟨0, .data⟩ (by simp) rfl
                  have p1 : l 1 = true := hpre _ rfl ⟨1, .data⟩ (by simp) rfl
                  refine wpOp_step rfl (fun K' hK => ?_)
                  simp only [p0, p1, cond_true, cond_false]
                  clear hpre
                  rw [if_pos (by rfl)]
                  have l1 : (0 : Int) ≤ (k : Int) := by omega
                  have l2 : (k : Int) < (n : Int) := by omega
                  go_simp
                  exact hK _ _ ⟨by simp [upd, Act.put, p0, p1], rfl⟩
                · -- 3: Op.load 3 (Operand.tmp 14)
                  have p2 : l 2 = true := hpre _ rfl ⟨2, .data⟩ (by simp) rfl
                  refine wpOp_step rfl (fun K' hK => ?_)
                  simp only [p2, cond_true, cond_false]
                  clear hpre
                  rw [if_pos (by rfl)]
                  have z1 := (HFj.out _ hx0).1
                  go_simp
                  exact hK _ _ ⟨by simp [upd, Act.put, p2], rfl⟩
                · -- 4: Op.binOp BinOp.lss 3 (Operand.tmp 15) (Operand.const (Value.
                  have p3 : l 3 = true := hpre _ rfl ⟨3, .data⟩ (by simp) rfl
                  refine wpOp_step rfl (fun K' hK => ?_)
                  simp only [p3, cond_true, cond_false]
                  clear hpre
                  rw [if_pos (by rfl)]
                  go_simp
                  exact hK _ _ ⟨by simp [upd, Act.put, p3, du0], rfl⟩
                · -- 5: Op.move (Operand.tmp 16)
                  have p4 : l 4 = true := hpre _ rfl ⟨4, .data⟩ (by simp) rfl
                  refine wpOp_step rfl (fun K' hK => ?_)
                  simp only [p4, cond_true, cond_false]
                  clear hpre
                  rw [if_pos (by rfl)]
                  go_simp
                  exact hK _ _ ⟨by simp [upd, Act.put, p4], rfl⟩
                · -- 6: Op.move (Operand.tmp 1)
                  have p5 : l 5 = true := hpre _ rfl ⟨5, .guard⟩ (by simp) rfl
                  refine wpOp_step rfl (fun K' hK => ?_)
                  simp only [p5, cond_true, cond_false]
                  clear hpre
                  rw [if_pos (by rfl)]
                  go_simp
                  exact hK _ _ ⟨by simp [upd, Act.put, p5], rfl⟩
                · -- 7: Op.move (Operand.tmp 5)
                  have p5 : l 5 = true := hpre _ rfl ⟨5, .guard⟩ (by simp) rfl
                  refine wpOp_step rfl (fun K' hK => ?_)
                  simp only [p5, cond_true, cond_false]
                  clear hpre
                  rw [if_pos (by rfl)]
                  go_simp
                  exact hK _ _ ⟨by simp [upd, Act.put, p5], rfl⟩
                · -- 8: Op.indexAddr 57 (Operand.tmp 18) (Operand.tmp 19)
                  have p6 : l 6 = true := hpre _ rfl ⟨6, .data⟩ (by simp) rfl
                  have p7 : l 7 = true := hpre _ rfl ⟨7, .data⟩ (by simp) rfl
                  have p5 : l 5 = true := hpre _ rfl ⟨5, .guard⟩ (by simp) rfl
                  refine wpOp_step rfl (fun K' hK => ?_)
                  simp only [p6, p7, p5, cond_true, cond_false]
                  clear hpre
                  rw [if_pos (by rfl)]
                  have l1 : (0 : Int) ≤ (k : Int) := by omega
                  have l2 : (k : Int) < (n : Int) := by omega
                  go_simp
                  exact hK _ _ ⟨by simp [upd, Act.put, p6, p7, p5], rfl⟩
                · -- 9: Op.load 3 (Operand.tmp 20)
                  have p8 : l 8 = true := hpre _ rfl ⟨8, .data⟩ (by simp) rfl
                  have p5 : l 5 = true := hpre _ rfl ⟨5, .guard⟩ (by simp) rfl
                  refine wpOp_step rfl (fun K' hK => ?_)
                  simp only [p8, p5, cond_true, cond_false]
                  clear hpre
                  rw [if_pos (by rfl)]
                  have z1 := (HFj.out _ hx0).1
                  go_simp
                  exact hK _ _ ⟨by simp [upd, Act.put, p8, p5], rfl⟩
                · -- 10: Op.move (Operand.tmp 0)
                  have p5 : l 5 = true := hpre _ rfl ⟨5, .guard⟩ (by simp) rfl
                  refine wpOp_step rfl (fun K' hK => ?_)
                  simp only [p5, cond_true, cond_false]
                  clear hpre
                  rw [if_pos (by rfl)]
                  go_simp
                  exact hK _ _ ⟨by simp [upd, Act.put, p5], rfl⟩
                · -- 11: Op.call { callee := Callee.value (Operand.func 52), args := 
                  have p10 : l 10 = true := hpre _ rfl ⟨10, .data⟩ (by simp) rfl
                  have p5 : l 5 = true := hpre _ rfl ⟨5, .chain⟩ (by simp) rfl
                  refine wpOp_step rfl (fun K' hK => ?_)
                  simp only [p10, p5, cond_true, cond_false]
                  clear hpre
                  rw [if_pos (by rfl)]
                  go_simp
                  refine (HR.out _).mono ?_
                  rintro e w5 ⟨rfl, rfl⟩
                  exact hK _ _ ⟨by simp [upd, Act.put, p10, p5], rfl⟩
                · -- 12: Op.binOp BinOp.geq 3 (Operand.tmp 21) (Operand.tmp 23) 3
                  have p9 : l 9 = true := hpre _ rfl ⟨9, .data⟩ (by simp) rfl
                  have p11 : l 11 = true := hpre _ rfl ⟨11, .data⟩ (by simp) rfl
                  have p5 : l 5 = true := hpre _ rfl ⟨5, .guard⟩ (by simp) rfl
                  refine wpOp_step rfl (fun K' hK => ?_)
                  simp only [p9, p11, p5, cond_true, cond_false]
                  clear hpre
                  rw [if_pos (by rfl)]
                  go_simp
                  exact hK _ _ ⟨by simp [upd, Act.put, p9, p11, p5, duT], rfl⟩
                · -- 13: Op.pick (Operand.tmp 17) (Operand.const (Value.bool true)) (
                  have p5 : l 5 = true := hpre _ rfl ⟨5, .data⟩ (by simp) rfl
                  have p12 : l 12 = true := hpre _ rfl ⟨12, .data⟩ (by simp) rfl
                  refine wpOp_step rfl (fun K' hK => ?_)
                  simp only [p5, p12, cond_true, cond_false]
                  clear hpre
                  rw [if_pos (by rfl)]
                  go_simp
                  exact hK _ _ ⟨by simp [upd, Act.put, p5, p12], rfl⟩
                · -- 14: Op.move (Operand.tmp 25)
                  have p13 : l 13 = true := hpre _ rfl ⟨13, .data⟩ (by simp) rfl
                  have p11 : l 11 = true := hpre _ rfl ⟨11, .chain⟩ (by simp) rfl
                  refine wpOp_step rfl (fun K' hK => ?_)
                  simp only [p13, p11, cond_true, cond_false]
                  clear hpre
                  rw [if_pos (by rfl)]
                  go_simp
                  exact hK _ _ ⟨by simp [upd, Act.put, p13, p11], rfl⟩
                · -- 15: Op.move (Operand.tmp 5)
                  have p14 : l 14 = true := hpre _ rfl ⟨14, .guard⟩ (by simp) rfl
                  refine wpOp_step rfl (fun K' hK => ?_)
                  simp only [p14, cond_true, cond_false]
                  clear hpre
                  rw [if_pos (by rfl)]
                  go_simp
                  exact hK _ _ ⟨by simp [upd, Act.put, p14], rfl⟩
                · -- 16: Op.binOp BinOp.gtr 3 (Operand.tmp 27) (Operand.const (Value.
                  have p15 : l 15 = true := hpre _ rfl ⟨15, .data⟩ (by simp) rfl
                  have p14 : l 14 = true := hpre _ rfl ⟨14, .guard⟩ (by simp) rfl
                  refine wpOp_step rfl (fun K' hK => ?_)
                  simp only [p15, p14, cond_true, cond_false]
                  clear hpre
                  rw [if_pos (by rfl)]
                  go_simp
                  exact hK _ _ ⟨by simp [upd, Act.put, p15, p14, hk0d, hk0e], rfl⟩
                · -- 17: Op.move (Operand.tmp 28)
                  have p16 : l 16 = true := hpre _ rfl ⟨16, .data⟩ (by simp) rfl
                  have p14 : l 14 = true := hpre _ rfl ⟨14, .chain⟩ (by simp) rfl
                  refine wpOp_step rfl (fun K' hK => ?_)
                  simp only [p16, p14, cond_true, cond_false]
                  clear hpre
                  rw [if_pos (by rfl)]
                  go_simp
                  exact hK _ _ ⟨by simp [upd, Act.put, p16, p14], rfl⟩
                · -- 18: Op.move (Operand.tmp 1)
                  have p17 : l 17 = true := hpre _ rfl ⟨17, .guard⟩ (by simp) rfl
                  refine wpOp_step rfl (fun K' hK => ?_)
                  simp only [p17, cond_true, cond_false]
                  clear hpre
                  rw [if_pos (by rfl)]
                  go_simp
                  exact hK _ _ ⟨by simp [upd, Act.put, p17], rfl⟩
                · -- 19: Op.move (Operand.tmp 5)
                  have p17 : l 17 = true := hpre _ rfl ⟨17, .guard⟩ (by simp) rfl
                  refine wpOp_step rfl (fun K' hK => ?_)
                  simp only [p17, cond_true, cond_false]
                  clear hpre
                  rw [if_pos (by rfl)]
                  go_simp
                  exact hK _ _ ⟨by simp [upd, Act.put, p17], rfl⟩
                · -- 20: Op.indexAddr 57 (Operand.tmp 30) (Operand.tmp 31)
                  have p18 : l 18 = true := hpre _ rfl ⟨18, .data⟩ (by simp) rfl
                  have p19 : l 19 = true := hpre _ rfl ⟨19, .data⟩ (by simp) rfl
                  have p17 : l 17 = true := hpre _ rfl ⟨17, .guard⟩ (by simp) rfl
                  refine wpOp_step rfl (fun K' hK => ?_)
                  simp only [p18, p19, p17, cond_true, cond_false]
                  clear hpre
                  rw [if_pos (by rfl)]
                  have l1 : (0 : Int) ≤ (k : Int) := by omega
                  have l2 : (k : Int) < (n : Int) := by omega
                  go_simp
                  exact hK _ _ ⟨by simp [upd, Act.put, p18, p19, p17], rfl⟩
                · -- 21: Op.load 3 (Operand.tmp 32)
                  have p20 : l 20 = true := hpre _ rfl ⟨20, .data⟩ (by simp) rfl
                  have p17 : l 17 = true := hpre _ rfl ⟨17, .guard⟩ (by simp) rfl
                  refine wpOp_step rfl (fun K' hK => ?_)
                  simp only [p20, p17, cond_true, cond_false]
                  clear hpre
                  rw [if_pos (by rfl)]
                  have z1 := (HFj.out _ hx0).1
                  go_simp
                  exact hK _ _ ⟨by simp [upd, Act.put, p20, p17], rfl⟩
                · -- 22: Op.move (Operand.tmp 1)
                  have p17 : l 17 = true := hpre _ rfl ⟨17, .guard⟩ (by simp) rfl
                  refine wpOp_step rfl (fun K' hK => ?_)
                  simp only [p17, cond_true, cond_false]
                  clear hpre
                  rw [if_pos (by rfl)]
                  go_simp
                  exact hK _ _ ⟨by simp [upd, Act.put, p17], rfl⟩
                · -- 23: Op.move (Operand.tmp 5)
                  have p17 : l 17 = true := hpre _ rfl ⟨17, .guard⟩ (by simp) rfl
                  refine wpOp_step rfl (fun K' hK => ?_)
                  simp only [p17, cond_true, cond_false]
                  clear hpre
                  rw [if_pos (by rfl)]
                  go_simp
                  exact hK _ _ ⟨by simp [upd, Act.put, p17], rfl⟩
                · -- 24: Op.binOp BinOp.sub 3 (Operand.tmp 35) (Operand.const (Value.
                  have p23 : l 23 = true := hpre _ rfl ⟨23, .data⟩ (by simp) rfl
                  have p17 : l 17 = true := hpre _ rfl ⟨17, .guard⟩ (by simp) rfl
                  refine wpOp_step rfl (fun K' hK => ?_)
                  simp only [p23, p17, cond_true, cond_false]
                  clear hpre
                  rw [if_pos (by rfl)]
                  have hjw : IntKind.i64.wrap (j : Int) = (j : Int) := IntWalk.i64_in _ (by omega)
                  go_simp
                  exact hK _ _ ⟨by simp [upd, Act.put, p23, p17, hji, hjw], rfl⟩
                · -- 25: Op.indexAddr 57 (Operand.tmp 34) (Operand.tmp 36)
                  have p22 : l 22 = true := hpre _ rfl ⟨22, .data⟩ (by simp) rfl
                  have p24 : l 24 = true := hpre _ rfl ⟨24, .data⟩ (by simp) rfl
                  have p17 : l 17 = true := hpre _ rfl ⟨17, .guard⟩ (by simp) rfl
                  refine wpOp_step rfl (fun K' hK => ?_)
                  simp only [p22, p24, p17, cond_true, cond_false]
                  clear hpre
                  rw [if_pos (by rfl)]
                  have m1 : (0 : Int) ≤ (j : Int) := by omega
                  have m2 : (j : Int) < (n : Int) := by omega
                  go_simp
                  exact hK _ _ ⟨by simp [upd, Act.put, p22, p24, p17], rfl⟩
                · -- 26: Op.load 3 (Operand.tmp 37)
                  have p25 : l 25 = true := hpre _ rfl ⟨25, .data⟩ (by simp) rfl
                  have p17 : l 17 = true := hpre _ rfl ⟨17, .guard⟩ (by simp) rfl
                  refine wpOp_step rfl (fun K' hK => ?_)
                  simp only [p25, p17, cond_true, cond_false]
                  clear hpre
                  rw [if_pos (by rfl)]
                  have z2 := (HFj.out _ hx0).2
                  go_simp
                  exact hK _ _ ⟨by simp [upd, Act.put, p25, p17], rfl⟩
                · -- 27: Op.binOp BinOp.leq 3 (Operand.tmp 33) (Operand.tmp 38) 3
                  have p21 : l 21 = true := hpre _ rfl ⟨21, .data⟩ (by simp) rfl
                  have p26 : l 26 = true := hpre _ rfl ⟨26, .data⟩ (by simp) rfl
                  have p17 : l 17 = true := hpre _ rfl ⟨17, .guard⟩ (by simp) rfl
                  refine wpOp_step rfl (fun K' hK => ?_)
                  simp only [p21, p26, p17, cond_true, cond_false]
                  clear hpre
                  rw [if_pos (by rfl)]
                  go_simp
                  exact hK _ _ ⟨by simp [upd, Act.put, p21, p26, p17, dle], rfl⟩
                · -- 28: Op.pick (Operand.tmp 29) (Operand.tmp 39) (Operand.const (Va
                  have p17 : l 17 = true := hpre _ rfl ⟨17, .data⟩ (by simp) rfl
                  have p27 : l 27 = true := hpre _ rfl ⟨27, .data⟩ (by simp) rfl
                  have p14 : l 14 = true := hpre _ rfl ⟨14, .guard⟩ (by simp) rfl
                  refine wpOp_step rfl (fun K' hK => ?_)
                  simp only [p17, p27, p14, cond_true, cond_false]
                  clear hpre
                  rw [if_pos (by rfl)]
                  go_simp
                  exact hK _ _ ⟨by simp [upd, Act.put, p17, p27, p14], rfl⟩
                · -- 29: Op.pick (Operand.tmp 26) (Operand.const (Value.bool true)) (
                  have p14 : l 14 = true := hpre _ rfl ⟨14, .data⟩ (by simp) rfl
                  have p28 : l 28 = true := hpre _ rfl ⟨28, .data⟩ (by simp) rfl
                  refine wpOp_step rfl (fun K' hK => ?_)
                  simp only [p14, p28, cond_true, cond_false]
                  clear hpre
                  rw [if_pos (by rfl)]
                  go_simp
                  exact hK _ _ ⟨by simp [upd, Act.put, p14, p28], rfl⟩
              · rintro l a' w9 hall ⟨rfl, rfl⟩
                simp only [hall 0 (by decide), hall 1 (by decide), hall 2 (by decide), hall 3 (by decide), hall 4 (by decide), hall 5 (by decide), hall 6 (by decide), hall 7 (by decide), hall 8 (by decide), hall 9 (by decide), hall 10 (by decide), hall 11 (by decide), hall 12 (by decide), hall 13 (by decide), hall 14 (by decide), hall 15 (by decide), hall 16 (by decide), hall 17 (by decide), hall 18 (by decide), hall 19 (by decide), hall 20 (by decide), hall 21 (by decide), hall 22 (by decide), hall 23 (by decide), hall 24 (by decide), hall 25 (by decide), hall 26 (by decide), hall 27 (by decide), hall 28 (by decide), hall 29 (by decide), cond_true]
                clear hall
                go_wp2
                go_roundw
                case rel => exact ⟨k + 1, by omega, by go_num, HL', HBd⟩
                case measure => simp [intOf]; omega
    · obtain rfl : k = n := by omega
      have HX := Lib.hid (lsb_yes HL.out)
      go_wp2_with fail
      go_ret
      exact ⟨by rw [HX.out]; rfl, HB.out.1⟩
end Go.Proofs.Ytchkgccnipejhaa

/-
  Knows: the members of a list, searched by the program.
-/
namespace Go.Proofs.Ytchkgccnipejhaa
open Go.RowKit TR L2 L2.SP
set_option linter.unusedVariables false
set_option linter.unusedSimpArgs false

/-- Whether the receiver u is a member of (v, x). -/
def mbr (d v x u : Nat) : Bool := abv v (2 ^ d + u) && !(abv x (2 ^ d + u))
theorem y_lt {d r : Nat} (hd : d < 7) (hr : r < 2 ^ d) : 1 ≤ 2 ^ d + r ∧ 2 ^ d + r < 128 := by
  have h2d : 2 ^ d ≤ 64 := by rcases (by omega : d = 0 ∨ d = 1 ∨ d = 2 ∨ d = 3 ∨ d = 4 ∨ d = 5 ∨ d = 6) with rfl | rfl | rfl | rfl | rfl | rfl | rfl <;> decide
  have h2p : 1 ≤ 2 ^ d := Nat.one_le_two_pow
  omega

set_option maxRecDepth 100000 in
set_option maxHeartbeats 400000 in
theorem isMember_any (K E : Int) (d r P Q G v x : Nat) (w : World) (hd : d < 7) (hr : r < 2 ^ d) (hv : v < 128) (hx : x < 128) :
    Calls Try.prog 71 #[.agg #[.int .u8 K, .int .i64 (d : Int), .int .i64 E, .int .u64 (P : Int), .int .u64 (Q : Int), .int .u64 (G : Int)], .int .i64 (r : Int), .agg #[.int .i64 (v : Int), .int .i64 (x : Int)]] w fun e w' => e = .returned (.bool (mbr d v x r)) ∧ Below w.heap.size w w' := by
  obtain ⟨N, hN⟩ : ∃ N, N = w.heap.size := ⟨_, rfl⟩
  obtain ⟨W2, hW2⟩ : ∃ W2, W2 = (w.alloc (.cells #[.int .u8 K, .int .i64 (d : Int), .int .i64 E, .int .u64 (P : Int), .int .u64 (Q : Int), .int .u64 (G : Int)] 45)).alloc (.cells #[.int .i64 (v : Int), .int .i64 (x : Int)] 56) := ⟨_, rfl⟩
  have s2 : W2.heap.size = N + 2 := by rw [hW2, hN]; simp
  have b2 : Below N w W2 := by rw [hW2, hN]; exact (below_alloc _ _).trans ((below_alloc _ _).mono (by simp))
  have e1 : Blk W2 N #[.int .u8 K, .int .i64 (d : Int), .int .i64 E, .int .u64 (P : Int), .int .u64 (Q : Int), .int .u64 (G : Int)] 45 := by rw [hW2, hN]; exact (Blk.new w _ _).keep (below_alloc _ _)
  have e2 : Blk W2 (N + 1) #[.int .i64 (v : Int), .int .i64 (x : Int)] 56 := by
    have h := Blk.new (w.alloc (.cells #[.int .u8 K, .int .i64 (d : Int), .int .i64 E, .int .u64 (P : Int), .int .u64 (Q : Int), .int .u64 (G : Int)] 45)) #[.int .i64 (v : Int), .int .i64 (x : Int)] 56
    rw [World.size_alloc, ← hN] at h; rw [hW2]; exact h
  have HE : Hid (W2.heap.size = N + 2 ∧ Below N w W2 ∧ Blk W2 (N + 1) #[.int .i64 (v : Int), .int .i64 (x : Int)] 56) := Lib.hid ⟨s2, b2, e2⟩
  have HLf := Lib.hid (fun w => leaf_any K E d r P Q G w hd (by have := y_lt hd hr; omega))
  have hy := y_lt hd hr
  have HV := Lib.hid (fun w => isAbove_any v (2 ^ d + r) w (by omega) hy.1 (by omega))
  have HXx := Lib.hid (fun w => isAbove_any x (2 ^ d + r) w (by omega) hy.1 (by omega))
  have HM : Hid (mbr d v x r = (abv v (2 ^ d + r) && !(abv x (2 ^ d + r)))) := Lib.hid rfl
  obtain ⟨m1, hm1⟩ : ∃ m1, m1 = abv v (2 ^ d + r) := ⟨_, rfl⟩
  obtain ⟨m2, hm2⟩ : ∃ m2, m2 = abv x (2 ^ d + r) := ⟨_, rfl⟩
  obtain ⟨y, hy1⟩ : ∃ y, y = 2 ^ d + r := ⟨_, rfl⟩
  rw [← hm1] at HV HM
  rw [← hm2] at HXx HM
  rw [← hy1] at HV HXx HLf
  have HN := Lib.hid hN
  have HW := Lib.hid hW2
  rw [← hN]
  have c0 : W2.cell? ⟨N, 0, none⟩ = some (.int .u8 K) := (e1).cell 0
  have c1 : W2.cell? ⟨N, 1, none⟩ = some (.int .i64 (d : Int)) := (e1).cell 1
  have c2 : W2.cell? ⟨N, 2, none⟩ = some (.int .i64 E) := (e1).cell 2
  have c3 : W2.cell? ⟨N, 3, none⟩ = some (.int .u64 (P : Int)) := (e1).cell 3
  have c4 : W2.cell? ⟨N, 4, none⟩ = some (.int .u64 (Q : Int)) := (e1).cell 4
  have c5 : W2.cell? ⟨N, 5, none⟩ = some (.int .u64 (G : Int)) := (e1).cell 5
  have z0 : W2.cell? ⟨N + 1, 0, none⟩ = some (.int .i64 (v : Int)) := (e2).cell 0
  have z1 : W2.cell? ⟨N + 1, 1, none⟩ = some (.int .i64 (x : Int)) := (e2).cell 1
  rw [hW2, hN] at c0 c1 c2 c3 c4 c5 z0 z1
  clear hN hW2 s2 b2 e1 e2 hd hr hv hx hy hm1 hm2 hy1
  go_enter Try.func71, Try.ntmps71
  go_wp2_with fail
  rw [← HW.out, ← HN.out]
  refine (HLf.out _).mono ?_
  rintro e w3 ⟨rfl, hb3⟩
  have HB3 := Lib.hid hb3
  clear hb3 c0 c1 c2 c3 c4 c5 z0 z1
  have H3 : Hid (Below N w w3) := Lib.hid (HE.out.2.1.trans (HB3.out.mono (by rw [HE.out.1]; omega)))
  have z0 : w3.cell? ⟨N + 1, 0, none⟩ = some (.int .i64 (v : Int)) := (HE.out.2.2.keep HB3.out).cell 0
  have z1 : w3.cell? ⟨N + 1, 1, none⟩ = some (.int .i64 (x : Int)) := (HE.out.2.2.keep HB3.out).cell 1
  rcases m1 with _ | _
  · go_wp2_with fail
    refine (HV.out _).mono ?_
    rintro e w4 ⟨rfl, rfl⟩
    go_wp2_with fail
    go_ret
    exact ⟨by rw [HM.out]; rfl, H3.out⟩
  · go_wp2_with fail
    refine (HV.out _).mono ?_
    rintro e w4 ⟨rfl, rfl⟩
    go_wp2_with fail
    refine (HXx.out _).mono ?_
    rintro e w4 ⟨rfl, rfl⟩
    go_wp2_with fail
    go_ret
    exact ⟨by rw [HM.out]; simp, H3.out⟩

/-- What stands where a search over a list has its scheme and its subset. -/
structure KEnv (w : World) (p q : Nat) (K E : Int) (d P Q G v x : Nat) : Prop where
  sch : Blk w p #[.int .u8 K, .int .i64 (d : Int), .int .i64 E, .int .u64 (P : Int), .int .u64 (Q : Int), .int .u64 (G : Int)] 45
  sub : Blk w q #[.int .i64 (v : Int), .int .i64 (x : Int)] 56
theorem KEnv.keep {w w' : World} {p q : Nat} {K E : Int} {d P Q G v x : Nat} (h : KEnv w p q K E d P Q G v x) (hb : Below w.heap.size w w') : KEnv w' p q K E d P Q G v x := ⟨h.sch.keep hb, h.sub.keep hb⟩

set_option maxRecDepth 100000 in
set_option maxHeartbeats 400000 in
theorem closure_any (K E : Int) (d r P Q G v x p q : Nat) (w : World) (hd : d < 7) (hr : r < 2 ^ d) (hv : v < 128) (hx : x < 128) (hk : KEnv w p q K E d P Q G v x) :
    Calls Try.prog 70 #[.int .i64 (r : Int), .pointer (some ⟨p, 0, none⟩), .pointer (some ⟨q, 0, none⟩)] w fun e w' => e = .returned (.bool (mbr d v x r)) ∧ Below w.heap.size w w' := by
  have HM := Lib.hid (fun w => isMember_any K E d r P Q G v x w hd hr hv hx)
  have c0 : w.cell? ⟨p, 0, none⟩ = some (.int .u8 K) := hk.sch.cell 0
  have c1 : w.cell? ⟨p, 1, none⟩ = some (.int .i64 (d : Int)) := hk.sch.cell 1
  have c2 : w.cell? ⟨p, 2, none⟩ = some (.int .i64 E) := hk.sch.cell 2
  have c3 : w.cell? ⟨p, 3, none⟩ = some (.int .u64 (P : Int)) := hk.sch.cell 3
  have c4 : w.cell? ⟨p, 4, none⟩ = some (.int .u64 (Q : Int)) := hk.sch.cell 4
  have c5 : w.cell? ⟨p, 5, none⟩ = some (.int .u64 (G : Int)) := hk.sch.cell 5
  have z0 : w.cell? ⟨q, 0, none⟩ = some (.int .i64 (v : Int)) := hk.sub.cell 0
  have z1 : w.cell? ⟨q, 1, none⟩ = some (.int .i64 (x : Int)) := hk.sub.cell 1
  clear hd hr hv hx hk
  go_enter Try.func70, Try.ntmps70
  go_wp2_with fail
  refine (HM.out _).mono ?_
  rintro e w3 ⟨rfl, hb3⟩
  have HB3 := Lib.hid hb3
  clear hb3 c0 c1 c2 c3 c4 c5 z0 z1
  go_wp2_with fail
  go_ret
  exact ⟨rfl, HB3.out⟩

/-- The first member in a list, or -1. -/
def FirstM (d v x n : Nat) (f : Nat → Nat) (k : Int) : Prop := (k = -1 ∧ ∀ j, j < n → mbr d v x (f j) = false) ∨ ∃ m : Nat, k = (m : Int) ∧ m < n ∧ mbr d v x (f m) = true

set_option maxRecDepth 100000 in
set_option maxHeartbeats 400000 in
theorem indexM_any (K E : Int) (d P Q G v x p q b off n c : Nat) (A : Option Addr) (f : Nat → Nat) (w : World) (hd : d < 7) (hv : v < 128) (hx : x < 128) (hk : KEnv w p q K E d P Q G v x) (hn : n ≤ c) (hc : c ≤ maxLen) (had : n = 0 ∨ A = some ⟨b, off, none⟩)
    (hcl : ∀ i, i < n → w.cell? ⟨b, off + i, none⟩ = some (.int .i64 (f i : Int)) ∧ f i < 2 ^ d) :
    Calls Try.prog 119 #[.slice A n c, .func (.func 70) #[] #[.pointer (some ⟨p, 0, none⟩), .pointer (some ⟨q, 0, none⟩)]] w fun e w' => (∃ k, e = .returned (.int .i64 k) ∧ FirstM d v x n f k) ∧ Below w.heap.size w w' := by
  have HCl := Lib.hid (fun (r : Nat) (w' : World) (hr : r < 2 ^ d) (hb : Below w.heap.size w w') => closure_any K E d r P Q G v x p q w' hd hr hv hx (hk.keep hb))
  have HC : Hid (∀ w', Below w.heap.size w w' → ∀ i, i < n → w'.cell? ⟨b, off + i, none⟩ = some (.int .i64 (f i : Int))) := Lib.hid (fun w' h i hi => (h.cell (p := ⟨b, off + i, none⟩) (World.block_lt_of_cell? w _ (hcl i hi).1)).trans (hcl i hi).1)
  have HFl : Hid (∀ i, i < n → f i < 2 ^ d) := Lib.hid (fun i hi => (hcl i hi).2)
  have hm : n ≤ 9223372036854775807 := by unfold maxLen at hc; omega
  have HAD := Lib.hid had
  clear hcl hd hv hx hk had hc
  go_enter Try.func119, Try.ntmps119
  go_wp2_with fail
  go_loopw [8] (fun i wr => ∃ (k : Nat), k ≤ n ∧ i = .int .i64 (k : Int) ∧ Hid (Below w.heap.size w wr) ∧ Hid (∀ j, j < k → mbr d v x (f j) = false)) (fun i _ => n - (intOf i).toNat)
  case atStart => exact ⟨0, by omega, rfl, Lib.hid (Below.refl _ _), Lib.hid (fun j h => by omega)⟩
  case round =>
    obtain ⟨k, hk, rfl, HB, HP⟩ := hrel
    by_cases hlt : k < n
    · rcases HAD.out with h0 | rfl
      · omega
      have l1 : (0 : Int) ≤ (k : Int) := by omega
      have l2 : (k : Int) < (n : Int) := by omega
      have g1 := HC.out wr HB.out k hlt
      have HCk := Lib.hid (HCl.out (f k) wr (HFl.out k hlt) HB.out)
      have HS : Hid (∀ q, q = mbr d v x (f k) → (q = true → FirstM d v x n f (k : Int)) ∧ (q = false → ∀ j, j < k + 1 → mbr d v x (f j) = false)) := Lib.hid (fun q hq => ⟨fun h => .inr ⟨k, rfl, hlt, by rw [← hq]; exact h⟩, fun h j hj => by
        by_cases e : j = k
        · rw [e, ← hq]; exact h
        · exact HP.out j (by omega)⟩)
      generalize f k = y at g1 HCk HS
      generalize mbr d v x y = z at HCk HS
      clear hk
      go_wp2_with fail
      refine HCk.out.mono ?_
      rintro e w2 ⟨rfl, hb2⟩
      have HB2 := Lib.hid (HB.out.trans (hb2.mono HB.out.size))
      have hs := HS.out z rfl
      have HS2 := Lib.hid hs
      clear hs HS HCk hb2 g1
      rcases z with _ | _
      · have HP2 := Lib.hid (HS2.out.2 rfl)
        go_wp2_with fail
        go_roundw
        case rel => exact ⟨k + 1, by omega, by go_num, HB2, HP2⟩
        case measure => simp [intOf]; omega
      · have HF := Lib.hid (HS2.out.1 rfl)
        go_wp2_with fail
        go_ret
        exact ⟨⟨_, rfl, HF.out⟩, HB2.out⟩
    · obtain rfl : n = k := by omega
      have HF : Hid (FirstM d v x n f (-1)) := Lib.hid (.inl ⟨rfl, HP.out⟩)
      go_wp2_with fail
      go_ret
      exact ⟨⟨_, rfl, HF.out⟩, HB.out⟩

set_option maxRecDepth 100000 in
set_option maxHeartbeats 400000 in
theorem containsM_any (K E : Int) (d P Q G v x p q b off n c : Nat) (A : Option Addr) (f : Nat → Nat) (w : World) (hd : d < 7) (hv : v < 128) (hx : x < 128) (hk : KEnv w p q K E d P Q G v x) (hn : n ≤ c) (hc : c ≤ maxLen) (had : n = 0 ∨ A = some ⟨b, off, none⟩)
    (hcl : ∀ i, i < n → w.cell? ⟨b, off + i, none⟩ = some (.int .i64 (f i : Int)) ∧ f i < 2 ^ d) :
    Calls Try.prog 69 #[.slice A n c, .func (.func 70) #[] #[.pointer (some ⟨p, 0, none⟩), .pointer (some ⟨q, 0, none⟩)]] w fun e w' => (∃ z, e = .returned (.bool z) ∧ (z = true ↔ ∃ i, i < n ∧ mbr d v x (f i) = true)) ∧ Below w.heap.size w w' := by
  have HI := Lib.hid (indexM_any K E d P Q G v x p q b off n c A f w hd hv hx hk hn hc had hcl)
  clear hd hv hx hk hn hc had hcl
  go_enter Try.func69, Try.ntmps69
  go_wp2_with fail
  refine (HI.out).mono ?_
  rintro e w2 ⟨⟨k, rfl, hk⟩, hb2⟩
  have HB2 := Lib.hid hb2
  clear hb2
  rcases hk with ⟨rfl, hno⟩ | ⟨m, rfl, hm1, hm2⟩
  · have HF : Hid (false = true ↔ ∃ i, i < n ∧ mbr d v x (f i) = true) := Lib.hid ⟨fun h => by (cases h), fun ⟨i, hi, h⟩ => by rw [hno i hi] at h; cases h⟩
    clear hno
    go_wp2_with fail
    go_ret
    exact ⟨⟨false, rfl, HF.out⟩, HB2.out⟩
  · have HF : Hid (true = true ↔ ∃ i, i < n ∧ mbr d v x (f i) = true) := Lib.hid ⟨fun _ => ⟨m, hm1, hm2⟩, fun _ => rfl⟩
    have hm0 : (0 : Int) ≤ (m : Int) := by omega
    clear hm1 hm2
    go_wp2_with fail
    go_ret
    exact ⟨⟨true, rfl, by simpa using HF.out⟩, HB2.out⟩
end Go.Proofs.Ytchkgccnipejhaa

/-
  Work, the program's: how many derivations a receiver needs.
-/
namespace Go.Proofs.Ytchkgccnipejhaa
open Go.RowKit TR L2 L2.SP
set_option linter.unusedVariables false
set_option linter.unusedSimpArgs false

/-- How many derivations the label with the index i needs. -/
def wkv (L : List (Nat × Nat)) (x : Nat) (i : Int) : Int := if x = 0 then 0 else ((lv x - lv (L.getD i.toNat (0, 0)).2 + 1 : Nat) : Int)
/-- The answer of Work. -/
def WkE (K D E u a b : Int) (P Q G : Nat) (e : Ending) : Prop :=
  (scb K D E P Q G = false ∧ e = .returned (.tuple #[.int .i64 0, .int .i64 30])) ∨
  (scb K D E P Q G = true ∧ isr D u = false ∧ e = .returned (.tuple #[.int .i64 0, .int .i64 2])) ∨
  (scb K D E P Q G = true ∧ isr D u = true ∧ isb K D.toNat a b = false ∧ e = .returned (.tuple #[.int .i64 0, .int .i64 31])) ∨
  (scb K D E P Q G = true ∧ isr D u = true ∧ isb K D.toNat a b = true ∧ ∃ i, Kno D.toNat (plc K D.toNat (2 ^ D.toNat + u.toNat)) a.toNat b.toNat i ∧ ((i < 0 ∧ e = .returned (.tuple #[.int .i64 0, .int .i64 6])) ∨ (0 ≤ i ∧ e = .returned (.tuple #[.int .i64 (wkv (plc K D.toNat (2 ^ D.toNat + u.toNat)) b.toNat i), .int .i64 0]))))
theorem WkE.same {K D E u a b : Int} {P Q G : Nat} {e1 e2 : Ending} (h1 : WkE K D E u a b P Q G e1) (h2 : WkE K D E u a b P Q G e2) : e1 = e2 := by
  rcases h1 with ⟨a1, rfl⟩ | ⟨a1, a2, rfl⟩ | ⟨a1, a2, a3, rfl⟩ | ⟨a1, a2, a3, i, a4, a5⟩ <;> rcases h2 with ⟨b1, rfl⟩ | ⟨b1, b2, rfl⟩ | ⟨b1, b2, b3, rfl⟩ | ⟨b1, b2, b3, j, b4, b5⟩
  all_goals first
    | rfl
    | exact absurd (a1.symm.trans b1) (by decide)
    | exact absurd (a2.symm.trans b2) (by decide)
    | exact absurd (a3.symm.trans b3) (by decide)
    | skip
  obtain rfl := Kno.same a4 b4
  rcases a5 with ⟨c, rfl⟩ | ⟨c, rfl⟩ <;> rcases b5 with ⟨d, rfl⟩ | ⟨d, rfl⟩
  all_goals first
    | rfl
    | (exfalso; omega)
theorem WkE.val {K D E u a b : Int} {P Q G : Nat} {e : Ending} (h : WkE K D E u a b P Q G e) : ∃ n c : Int, e = .returned (.tuple #[.int .i64 n, .int .i64 c]) := by
  rcases h with ⟨_, rfl⟩ | ⟨_, _, rfl⟩ | ⟨_, _, _, rfl⟩ | ⟨_, _, _, _, _, ⟨_, rfl⟩ | ⟨_, rfl⟩⟩
  all_goals exact ⟨_, _, rfl⟩
/-- A subset of a valid scheme, in nodes. -/
theorem isb_nat {K a b : Int} {d : Nat} (hd : d < 7) (h : isb K d a b = true) : ∃ v x : Nat, a = (v : Int) ∧ b = (x : Int) ∧ 1 ≤ v ∧ v < 128 ∧ v < 2 ^ (d + 1) ∧ x < 128 ∧ x < 2 ^ (d + 1) ∧ (K = 1 → x = 0) := by
  have h0 := h
  unfold isb at h
  rw [Bool.and_eq_true] at h
  obtain ⟨v, rfl, v1, v2, v3⟩ := hsn_nat hd h.1
  have hp : 1 ≤ 2 ^ (d + 1) := Nat.one_le_two_pow
  have h2 := h.2
  by_cases hK : K = 1
  · rw [if_pos hK] at h2
    have := of_decide_eq_true h2
    exact ⟨v, 0, rfl, by omega, v1, v3, v2, by omega, by omega, fun _ => rfl⟩
  · rw [if_neg hK] at h2
    by_cases hb : b = 0
    · exact ⟨v, 0, rfl, by omega, v1, v3, v2, by omega, by omega, fun _ => rfl⟩
    · rw [if_neg hb, Bool.and_eq_true] at h2
      obtain ⟨x, rfl, x1, x2, x3⟩ := hsn_nat hd h2.1
      exact ⟨v, x, rfl, rfl, v1, v3, v2, x3, x2, fun h => absurd h hK⟩

set_option maxRecDepth 100000 in
set_option maxHeartbeats 400000 in
theorem work_any (K D E u a b : Int) (P Q G : Nat) (w : World) (hK0 : 0 ≤ K) (hK1 : K ≤ 255) :
    Calls Try.prog 41 #[.agg #[.int .u8 K, .int .i64 D, .int .i64 E, .int .u64 (P : Int), .int .u64 (Q : Int), .int .u64 (G : Int)], .int .i64 u, .agg #[.int .i64 a, .int .i64 b]] w fun e w' => WkE K D E u a b P Q G e ∧ Below w.heap.size w w' := by
  obtain ⟨N, hN⟩ : ∃ N, N = w.heap.size := ⟨_, rfl⟩
  obtain ⟨W2, hW2⟩ : ∃ W2, W2 = (w.alloc (.cells #[.int .u8 K, .int .i64 D, .int .i64 E, .int .u64 (P : Int), .int .u64 (Q : Int), .int .u64 (G : Int)] 45)).alloc (.cells #[.int .i64 a, .int .i64 b] 56) := ⟨_, rfl⟩
  have s2 : W2.heap.size = N + 2 := by rw [hW2, hN]; simp
  have b2 : Below N w W2 := by rw [hW2, hN]; exact (below_alloc _ _).trans ((below_alloc _ _).mono (by simp))
  have e1 : Blk W2 N #[.int .u8 K, .int .i64 D, .int .i64 E, .int .u64 (P : Int), .int .u64 (Q : Int), .int .u64 (G : Int)] 45 := by rw [hW2, hN]; exact (Blk.new w _ _).keep (below_alloc _ _)
  have e2 : Blk W2 (N + 1) #[.int .i64 a, .int .i64 b] 56 := by
    have h := Blk.new (w.alloc (.cells #[.int .u8 K, .int .i64 D, .int .i64 E, .int .u64 (P : Int), .int .u64 (Q : Int), .int .u64 (G : Int)] 45)) #[.int .i64 a, .int .i64 b] 56
    rw [World.size_alloc, ← hN] at h; rw [hW2]; exact h
  have HE : Hid (W2.heap.size = N + 2 ∧ Below N w W2 ∧ Blk W2 N #[.int .u8 K, .int .i64 D, .int .i64 E, .int .u64 (P : Int), .int .u64 (Q : Int), .int .u64 (G : Int)] 45 ∧ Blk W2 (N + 1) #[.int .i64 a, .int .i64 b] 56) := Lib.hid ⟨s2, b2, e1, e2⟩
  have HEND := Lib.hid (fun (w3 : World) (hb : Below W2.heap.size W2 w3) => (HE.out.2.1.trans (hb.mono (by rw [HE.out.1]; omega)) : Below N w w3))
  have HCk := Lib.hid (fun w => check_any K D E P Q G w hK0 hK1)
  have HN := Lib.hid hN
  have HW := Lib.hid hW2
  rw [← hN]
  have c0 : W2.cell? ⟨N, 0, none⟩ = some (.int .u8 K) := (e1).cell 0
  have c1 : W2.cell? ⟨N, 1, none⟩ = some (.int .i64 D) := (e1).cell 1
  have c2 : W2.cell? ⟨N, 2, none⟩ = some (.int .i64 E) := (e1).cell 2
  have c3 : W2.cell? ⟨N, 3, none⟩ = some (.int .u64 (P : Int)) := (e1).cell 3
  have c4 : W2.cell? ⟨N, 4, none⟩ = some (.int .u64 (Q : Int)) := (e1).cell 4
  have c5 : W2.cell? ⟨N, 5, none⟩ = some (.int .u64 (G : Int)) := (e1).cell 5
  have z0 : W2.cell? ⟨N + 1, 0, none⟩ = some (.int .i64 a) := (e2).cell 0
  have z1 : W2.cell? ⟨N + 1, 1, none⟩ = some (.int .i64 b) := (e2).cell 1
  rw [hW2, hN] at c0 c1 c2 c3 c4 c5 z0 z1
  clear hN hW2 s2 b2 e1 e2 hK0 hK1
  go_enter Try.func41, Try.ntmps41
  go_wp2_with fail
  rw [← HW.out, ← HN.out]
  refine (HCk.out _).mono ?_
  rintro e w3 ⟨rfl, hb3⟩
  have HB3 := Lib.hid hb3
  clear hb3 c0 c1 c2 c3 c4 c5 z0 z1
  by_cases h : ScOk K D E P Q G
  · have hs := scc_yes h
    rw [hs]
    have HSb := Lib.hid (scb_yes h)
    have HK123 : Hid (K = 1 ∨ K = 2 ∨ K = 3) := Lib.hid (by have h1 := h.1; have h2 := h.2.1; omega)
    have hD := h.2.2.1
    have hD2 := h.2.2.2.1
    obtain ⟨d, rfl⟩ := Int.eq_ofNat_of_zero_le hD
    have hd : d < 7 := by omega
    have HD := Lib.hid hd
    have HIr := Lib.hid (fun w => isReceiver_any K (d : Int) E u P Q G w hD hD2)
    have HIs := Lib.hid (fun w => isSubset_any K E a b d P Q G w hd)
    have c0 : w3.cell? ⟨N, 0, none⟩ = some (.int .u8 K) := (HE.out.2.2.1.keep HB3.out).cell 0
    have c1 : w3.cell? ⟨N, 1, none⟩ = some (.int .i64 (d : Int)) := (HE.out.2.2.1.keep HB3.out).cell 1
    have c2 : w3.cell? ⟨N, 2, none⟩ = some (.int .i64 E) := (HE.out.2.2.1.keep HB3.out).cell 2
    have c3 : w3.cell? ⟨N, 3, none⟩ = some (.int .u64 (P : Int)) := (HE.out.2.2.1.keep HB3.out).cell 3
    have c4 : w3.cell? ⟨N, 4, none⟩ = some (.int .u64 (Q : Int)) := (HE.out.2.2.1.keep HB3.out).cell 4
    have c5 : w3.cell? ⟨N, 5, none⟩ = some (.int .u64 (G : Int)) := (HE.out.2.2.1.keep HB3.out).cell 5
    clear hs h hD hD2 hd
    go_wp2_with fail
    refine (HIr.out _).mono ?_
    rintro e w4 ⟨rfl, hb4⟩
    have HB4 := Lib.hid (HB3.out.trans (hb4.mono HB3.out.size))
    clear hb4 c0 c1 c2 c3 c4 c5
    rcases hr : isr (d : Int) u with _ | _
    · have H3 := Lib.hid (HEND.out w4 HB4.out)
      have HC : Hid (WkE K (d : Int) E u a b P Q G (.returned (.tuple #[.int .i64 0, .int .i64 2]))) := Lib.hid (.inr (.inl ⟨HSb.out, hr, rfl⟩))
      clear hr
      go_wp2_with fail
      go_ret2
      exact ⟨HC.out, H3.out⟩
    · have hu := of_decide_eq_true hr
      obtain ⟨r, rfl⟩ := Int.eq_ofNat_of_zero_le hu.1
      have hrd : r < 2 ^ d := by have h := hu.2; rw [Int.toNat_natCast] at h; omega
      have HRr := Lib.hid hr
      have HRd := Lib.hid hrd
      clear hu hr hrd
      have c0 : w4.cell? ⟨N, 0, none⟩ = some (.int .u8 K) := (HE.out.2.2.1.keep HB4.out).cell 0
      have c1 : w4.cell? ⟨N, 1, none⟩ = some (.int .i64 (d : Int)) := (HE.out.2.2.1.keep HB4.out).cell 1
      have c2 : w4.cell? ⟨N, 2, none⟩ = some (.int .i64 E) := (HE.out.2.2.1.keep HB4.out).cell 2
      have c3 : w4.cell? ⟨N, 3, none⟩ = some (.int .u64 (P : Int)) := (HE.out.2.2.1.keep HB4.out).cell 3
      have c4 : w4.cell? ⟨N, 4, none⟩ = some (.int .u64 (Q : Int)) := (HE.out.2.2.1.keep HB4.out).cell 4
      have c5 : w4.cell? ⟨N, 5, none⟩ = some (.int .u64 (G : Int)) := (HE.out.2.2.1.keep HB4.out).cell 5
      have z0 : w4.cell? ⟨N + 1, 0, none⟩ = some (.int .i64 a) := (HE.out.2.2.2.keep HB4.out).cell 0
      have z1 : w4.cell? ⟨N + 1, 1, none⟩ = some (.int .i64 b) := (HE.out.2.2.2.keep HB4.out).cell 1
      go_wp2_with fail
      refine (HIs.out _).mono ?_
      rintro e w5 ⟨rfl, hb5⟩
      have HB5 := Lib.hid (HB4.out.trans (hb5.mono HB4.out.size))
      clear hb5 c0 c1 c2 c3 c4 c5 z0 z1
      rcases hi : isb K d a b with _ | _
      · have H3 := Lib.hid (HEND.out w5 HB5.out)
        have HC : Hid (WkE K (d : Int) E (r : Int) a b P Q G (.returned (.tuple #[.int .i64 0, .int .i64 31]))) := Lib.hid (.inr (.inr (.inl ⟨HSb.out, HRr.out, by rw [Int.toNat_natCast]; exact hi, rfl⟩)))
        clear hi
        go_wp2_with fail
        go_ret2
        exact ⟨HC.out, H3.out⟩
      · obtain ⟨v, x, rfl, rfl, v1, v3, v2, hx, x2, hk1⟩ := isb_nat HD.out hi
        have HC : Hid (∀ e, (∃ i, Kno d (plc K d (2 ^ d + r)) v x i ∧ ((i < 0 ∧ e = .returned (.tuple #[.int .i64 0, .int .i64 6])) ∨ (0 ≤ i ∧ e = .returned (.tuple #[.int .i64 (wkv (plc K d (2 ^ d + r)) x i), .int .i64 0])))) → WkE K (d : Int) E (r : Int) (v : Int) (x : Int) P Q G e) := Lib.hid (fun e he => .inr (.inr (.inr ⟨HSb.out, HRr.out, by rw [Int.toNat_natCast]; exact hi, by simp only [Int.toNat_natCast]; exact he⟩)))
        have HPl := Lib.hid (fun w => places_any K E d r P Q G w HD.out HRd.out)
        have HOkp := Lib.hid (plc_ok K d r HD.out HRd.out)
        have hn64 := plc_len K d r HD.out HRd.out
        have hn0 := plc_pos K d (2 ^ d + r)
        have HLd := Lib.hid (fun (a b : Nat) w => leads_any K E (a : Int) (b : Int) d P Q G v x w HD.out v1 v3 hx (fun h => by omega))
        obtain ⟨ps, hps⟩ : ∃ ps, ps = plc K d (2 ^ d + r) := ⟨_, rfl⟩
        rw [← hps] at HPl HOkp hn64 hn0 HC
        obtain ⟨n, hn⟩ : ∃ n, n = ps.length := ⟨_, rfl⟩
        rw [← hn] at HPl hn64 hn0
        have HN0 := Lib.hid hn
        have HX := Lib.hid hx
        clear hps hn hi v1 v3 v2 hx x2 hk1
        have c0 : w5.cell? ⟨N, 0, none⟩ = some (.int .u8 K) := (HE.out.2.2.1.keep HB5.out).cell 0
        have c1 : w5.cell? ⟨N, 1, none⟩ = some (.int .i64 (d : Int)) := (HE.out.2.2.1.keep HB5.out).cell 1
        have c2 : w5.cell? ⟨N, 2, none⟩ = some (.int .i64 E) := (HE.out.2.2.1.keep HB5.out).cell 2
        have c3 : w5.cell? ⟨N, 3, none⟩ = some (.int .u64 (P : Int)) := (HE.out.2.2.1.keep HB5.out).cell 3
        have c4 : w5.cell? ⟨N, 4, none⟩ = some (.int .u64 (Q : Int)) := (HE.out.2.2.1.keep HB5.out).cell 4
        have c5 : w5.cell? ⟨N, 5, none⟩ = some (.int .u64 (G : Int)) := (HE.out.2.2.1.keep HB5.out).cell 5
        go_wp2_with fail
        refine (HPl.out _).mono ?_
        rintro e w6 ⟨⟨u6, rfl, ho6⟩, hb6⟩
        obtain ⟨g, cg, cur, rfl, hg1, hg2, hg3, hg4, hg5⟩ := own_blk ho6 hn0
        have HG : Hid (∀ j (t : Nat × Nat), ps[j]? = some t → cur[j * 2]? = some (.int .i64 (t.1 : Int)) ∧ cur[j * 2 + 1]? = some (.int .i64 (t.2 : Int))) := Lib.hid (fun j t h => by
          have h1 := prs_get ps j t h
          rw [Nat.mul_comm j 2]
          exact ⟨hg5 _ _ h1.1, hg5 _ _ h1.2⟩)
        have HE6 : Hid (Below W2.heap.size W2 w6 ∧ Blk w6 g cur 56) := Lib.hid ⟨HB5.out.trans (hb6.mono HB5.out.size), hg4⟩
        clear hb6 ho6 hg1 hg4 hg5 c0 c1 c2 c3 c4 c5
        go_wp2_with fail
        go_loopw [28] (fun i wr => ∃ (k : Nat), k ≤ n ∧ i = .int .i64 (k : Int) ∧ Hid (Below w6.heap.size w6 wr) ∧ Hid (∀ (j : Nat) (q : Nat × Nat), j < k → ps[j]? = some q → ldb d (q.1 : Int) (q.2 : Int) v x = false)) (fun i _ => n + 1 - (intOf i).toNat)
        case atStart => exact ⟨0, by omega, rfl, Lib.hid (Below.refl _ _), Lib.hid (fun j q h => absurd h (by omega))⟩
        case round =>
          obtain ⟨k, hk, rfl, HBr, HNo⟩ := hrel
          have HBx : Hid (Below W2.heap.size W2 wr) := Lib.hid (HE6.out.1.trans (HBr.out.mono HE6.out.1.size))
          by_cases hlt : k < n
          · have hkl : k < ps.length := by rw [← HN0.out]; exact hlt
            obtain ⟨t, ht⟩ : ∃ t, t = ps[k] := ⟨_, rfl⟩
            have hgk0 : ps[k]? = some t := by rw [List.getElem?_eq_getElem hkl, ht]
            have hgk := HG.out k t hgk0
            have hok := HOkp.out t (by rw [ht]; exact List.getElem_mem hkl)
            have l1 : (0 : Int) ≤ (k : Int) := by omega
            have l2 : (k : Int) < (n : Int) := by omega
            have HNx : Hid (ldb d (t.1 : Int) (t.2 : Int) v x = false → ∀ (j : Nat) (q : Nat × Nat), j < k + 1 → ps[j]? = some q → ldb d (q.1 : Int) (q.2 : Int) v x = false) := Lib.hid (fun h j q hj hq => by
              rcases Nat.lt_or_ge j k with h1 | h1
              · exact HNo.out j q h1 hq
              · obtain rfl : j = k := by omega
                rw [hgk0] at hq; injection hq with hq; rw [← hq]; exact h)
            have HYs : Hid (ldb d (t.1 : Int) (t.2 : Int) v x = true → Kno d ps v x (k : Int)) := Lib.hid (fun h => .inr ⟨k, t, rfl, hgk0, h, HNo.out⟩)
            have HYv : Hid (wkv ps x (k : Int) = if x = 0 then 0 else ((lv x - lv t.2 + 1 : Nat) : Int)) := Lib.hid (by unfold wkv; rw [Int.toNat_natCast, List.getD_eq_getElem?_getD, hgk0]; rfl)
            have HCl := Lib.hid (fun w => HLd.out t.1 t.2 w)
            have HDf := Lib.hid (fun h0 w => derivations_any t.1 v t.2 x v w (by have := HX.out; omega) (h0 : x ≠ 0 → 1 ≤ t.2 ∧ t.2 < 256 ∧ lv t.2 ≤ lv x))
            obtain ⟨a, ha⟩ : ∃ a, a = t.1 := ⟨_, rfl⟩
            obtain ⟨b, hb⟩ : ∃ b, b = t.2 := ⟨_, rfl⟩
            rw [← ha, ← hb] at HNx HYs HCl hgk HDf
            rw [← hb] at HYv
            have g0 : wr.cell? ⟨g, k * 2, none⟩ = some (.int .i64 (a : Int)) := (Blk.cell (HE6.out.2.keep HBr.out) (k * 2)).trans hgk.1
            have g1 : wr.cell? ⟨g, k * 2 + 1, none⟩ = some (.int .i64 (b : Int)) := (Blk.cell (HE6.out.2.keep HBr.out) (k * 2 + 1)).trans hgk.2
            have hk2 : k < 2 ^ 40 := by omega
            obtain ⟨W8, hW8⟩ : ∃ W8, W8 = wr.alloc (.cells #[.int .i64 (a : Int), .int .i64 (b : Int)] 56) := ⟨_, rfl⟩
            obtain ⟨xb, hxb⟩ : ∃ xb, xb = wr.heap.size := ⟨_, rfl⟩
            have fX : Blk W8 xb #[.int .i64 (a : Int), .int .i64 (b : Int)] 56 := by rw [hW8, hxb]; exact Blk.new wr _ _
            have b8 : Below wr.heap.size wr W8 := by rw [hW8]; exact below_alloc _ _
            have HB8 : Hid (Below W2.heap.size W2 W8 ∧ Below w6.heap.size w6 W8 ∧ Blk W8 xb #[.int .i64 (a : Int), .int .i64 (b : Int)] 56) := Lib.hid ⟨HBx.out.trans (b8.mono HBx.out.size), HBr.out.trans (b8.mono HBr.out.size), fX⟩
            have y0 : W8.cell? ⟨xb, 0, none⟩ = some (.int .i64 (a : Int)) := fX.cell 0
            have y1 : W8.cell? ⟨xb, 1, none⟩ = some (.int .i64 (b : Int)) := fX.cell 1
            have c0 : W8.cell? ⟨N, 0, none⟩ = some (.int .u8 K) := (HE.out.2.2.1.keep HB8.out.1).cell 0
            have c1 : W8.cell? ⟨N, 1, none⟩ = some (.int .i64 (d : Int)) := (HE.out.2.2.1.keep HB8.out.1).cell 1
            have c2 : W8.cell? ⟨N, 2, none⟩ = some (.int .i64 E) := (HE.out.2.2.1.keep HB8.out.1).cell 2
            have c3 : W8.cell? ⟨N, 3, none⟩ = some (.int .u64 (P : Int)) := (HE.out.2.2.1.keep HB8.out.1).cell 3
            have c4 : W8.cell? ⟨N, 4, none⟩ = some (.int .u64 (Q : Int)) := (HE.out.2.2.1.keep HB8.out.1).cell 4
            have c5 : W8.cell? ⟨N, 5, none⟩ = some (.int .u64 (G : Int)) := (HE.out.2.2.1.keep HB8.out.1).cell 5
            have z0 : W8.cell? ⟨N + 1, 0, none⟩ = some (.int .i64 (v : Int)) := (HE.out.2.2.2.keep HB8.out.1).cell 0
            have z1 : W8.cell? ⟨N + 1, 1, none⟩ = some (.int .i64 (x : Int)) := (HE.out.2.2.2.keep HB8.out.1).cell 1
            rw [hW8] at c0 c1 c2 c3 c4 c5 z0 z1
            rw [hW8, hxb] at y0 y1
            have HW8 := Lib.hid (And.intro hW8 hxb)
            clear ha hb hok hgk hgk0 ht hkl hk hW8 hxb fX b8
            go_wp2_with fail
            rw [← HW8.out.1, ← HW8.out.2]
            refine (HCl.out _).mono ?_
            rintro e w9 ⟨rfl, hb9⟩
            have HB9 : Hid (Below W2.heap.size W2 w9 ∧ Below w6.heap.size w6 w9) := Lib.hid ⟨HB8.out.1.trans (hb9.mono HB8.out.1.size), HB8.out.2.1.trans (hb9.mono HB8.out.2.1.size)⟩
            have HX9 := Lib.hid (HB8.out.2.2.keep hb9)
            clear hb9 c0 c1 c2 c3 c4 c5 z0 z1 y0 y1 g0 g1
            cases hL : ldb d (a : Int) (b : Int) v x with
            | false =>
              have HNy := Lib.hid (HNx.out hL)
              clear hL
              go_wp2_with fail
              go_roundw
              case rel => exact ⟨k + 1, by omega, by go_num, Lib.hid HB9.out.2, HNy⟩
              case measure => simp [intOf]; omega
            | true =>
              have HYy := Lib.hid (HYs.out hL)
              have HDg := Lib.hid (HDf.out (fun h => by
                obtain ⟨m, hm, m1, m2, m3⟩ := ldb_facts HD.out hL h
                obtain rfl : b = m := Int.ofNat.inj hm
                exact ⟨m1, by omega, (abv_facts m3).2.1⟩))
              rw [← HYv.out] at HDg
              clear hL
              have y0 : w9.cell? ⟨xb, 0, none⟩ = some (.int .i64 (a : Int)) := HX9.out.cell 0
              have y1 : w9.cell? ⟨xb, 1, none⟩ = some (.int .i64 (b : Int)) := HX9.out.cell 1
              have z0 : w9.cell? ⟨N + 1, 0, none⟩ = some (.int .i64 (v : Int)) := (HE.out.2.2.2.keep HB9.out.1).cell 0
              have z1 : w9.cell? ⟨N + 1, 1, none⟩ = some (.int .i64 (x : Int)) := (HE.out.2.2.2.keep HB9.out.1).cell 1
              go_wp2_with fail
              refine (HDg.out _).mono ?_
              rintro e w10 ⟨rfl, hb10⟩
              have H3 := Lib.hid (HEND.out w10 (HB9.out.1.trans (hb10.mono HB9.out.1.size)))
              clear hb10 y0 y1 z0 z1
              go_wp2_with fail
              go_ret2
              exact ⟨HC.out _ ⟨(k : Int), HYy.out, .inr ⟨by omega, rfl⟩⟩, H3.out⟩
          · have l3 : ¬ ((k : Int) < (n : Int)) := by omega
            have HF2 : Hid (Kno d ps v x (-1)) := Lib.hid (.inl ⟨rfl, fun j p hj => HNo.out j p (by have h1 := (List.getElem?_eq_some_iff.1 hj).1; have h2 := HN0.out; omega) hj⟩)
            have H3 := Lib.hid (HEND.out wr HBx.out)
            go_wp2_with fail
            go_ret2
            exact ⟨HC.out _ ⟨-1, HF2.out, .inl ⟨by decide, rfl⟩⟩, H3.out⟩
  · have hs := scc_no h
    rw [hs]
    have H3 := Lib.hid (HEND.out w3 HB3.out)
    have HC : Hid (WkE K D E u a b P Q G (.returned (.tuple #[.int .i64 0, .int .i64 30]))) := Lib.hid (.inl ⟨scb_no h, rfl⟩)
    clear h hs
    go_wp2_with fail
    go_ret2
    exact ⟨HC.out, H3.out⟩
end Go.Proofs.Ytchkgccnipejhaa

/-
  Work, the specification's.
-/
namespace Go.Proofs.Ytchkgccnipejhaa
open Go.RowKit TR L2 L2.SP
set_option linter.unusedVariables false
set_option linter.unusedSimpArgs false

/-- There is a first one that leads, or none. -/
theorem Kno.ex (d : Nat) (L : List (Nat × Nat)) (v x : Nat) : ∃ i, Kno d L v x i := by
  have key : ∀ n, (∃ i, 0 ≤ i ∧ Kno d L v x i) ∨ ∀ (j : Nat) (q : Nat × Nat), j < n → L[j]? = some q → ldb d (q.1 : Int) (q.2 : Int) v x = false := by
    intro n
    induction n with
    | zero => exact .inr (fun j q h => absurd h (by omega))
    | succ n ih =>
      rcases ih with h | h
      · exact .inl h
      · rcases hn : L[n]? with _ | p
        · refine .inr (fun j q hj hq => ?_)
          rcases Nat.lt_or_ge j n with h1 | h1
          · exact h j q h1 hq
          · obtain rfl : j = n := by omega
            rw [hn] at hq; cases hq
        · rcases hl : ldb d (p.1 : Int) (p.2 : Int) v x with _ | _
          · refine .inr (fun j q hj hq => ?_)
            rcases Nat.lt_or_ge j n with h1 | h1
            · exact h j q h1 hq
            · obtain rfl : j = n := by omega
              rw [hn] at hq; injection hq with hq; rw [← hq]; exact hl
          · exact .inl ⟨(n : Int), Int.natCast_nonneg n, .inr ⟨n, p, rfl, hn, hl, h⟩⟩
  rcases key L.length with ⟨i, _, h⟩ | h
  · exact ⟨i, h⟩
  · exact ⟨-1, .inl ⟨rfl, fun j p hj => h j p (List.getElem?_eq_some_iff.1 hj).1 hj⟩⟩

end Go.Proofs.Ytchkgccnipejhaa

/-
  Knows, the program's and the specification's.
-/
namespace Go.Proofs.Ytchkgccnipejhaa
open Go.RowKit TR L2 L2.SP
set_option linter.unusedVariables false
set_option linter.unusedSimpArgs false

/-- The answer of Knows. -/
def KwE (K D E a b : Int) (P Q G n : Nat) (f : Nat → Int) (e : Ending) : Prop :=
  (scb K D E P Q G = false ∧ e = .returned (.tuple #[.bool false, .int .i64 30])) ∨
  (scb K D E P Q G = true ∧ lsb D n f = false ∧ e = .returned (.tuple #[.bool false, .int .i64 2])) ∨
  (scb K D E P Q G = true ∧ lsb D n f = true ∧ isb K D.toNat a b = false ∧ e = .returned (.tuple #[.bool false, .int .i64 31])) ∨
  (scb K D E P Q G = true ∧ lsb D n f = true ∧ isb K D.toNat a b = true ∧ ∃ z, (z = true ↔ ∃ i, i < n ∧ mbr D.toNat a.toNat b.toNat (f i).toNat = true) ∧ e = .returned (.tuple #[.bool z, .int .i64 0]))
theorem KwE.same {K D E a b : Int} {P Q G n : Nat} {f : Nat → Int} {e1 e2 : Ending} (h1 : KwE K D E a b P Q G n f e1) (h2 : KwE K D E a b P Q G n f e2) : e1 = e2 := by
  rcases h1 with ⟨a1, rfl⟩ | ⟨a1, a2, rfl⟩ | ⟨a1, a2, a3, rfl⟩ | ⟨a1, a2, a3, i, a4, rfl⟩ <;> rcases h2 with ⟨b1, rfl⟩ | ⟨b1, b2, rfl⟩ | ⟨b1, b2, b3, rfl⟩ | ⟨b1, b2, b3, j, b4, rfl⟩
  all_goals first
    | rfl
    | exact absurd (a1.symm.trans b1) (by decide)
    | exact absurd (a2.symm.trans b2) (by decide)
    | exact absurd (a3.symm.trans b3) (by decide)
    | skip
  have h : i = j := by
    rcases i with _ | _ <;> rcases j with _ | _
    · rfl
    · exact absurd (a4.2 (b4.1 rfl)) (by decide)
    · exact absurd (b4.2 (a4.1 rfl)) (by decide)
    · rfl
  rw [h]
theorem KwE.val {K D E a b : Int} {P Q G n : Nat} {f : Nat → Int} {e : Ending} (h : KwE K D E a b P Q G n f e) : ∃ (z : Bool) (c : Int), e = .returned (.tuple #[.bool z, .int .i64 c]) := by
  rcases h with ⟨_, rfl⟩ | ⟨_, _, rfl⟩ | ⟨_, _, _, rfl⟩ | ⟨_, _, _, z, _, rfl⟩
  all_goals exact ⟨_, _, rfl⟩
theorem lsb_lst {D : Int} {n : Nat} {f : Nat → Int} (h : lsb D n f = true) : Lst D n f := by
  apply Classical.byContradiction
  intro h2
  rw [lsb_no h2] at h; cases h

set_option maxRecDepth 100000 in
set_option maxHeartbeats 400000 in
theorem knows_any (K D E a b : Int) (P Q G lb off n c : Nat) (A : Option Addr) (f : Nat → Int) (w : World) (hK0 : 0 ≤ K) (hK1 : K ≤ 255) (hn : n ≤ c) (hc : c ≤ maxLen) (had : n = 0 ∨ A = some ⟨lb, off, none⟩) (hcl : ∀ i, i < n → w.cell? ⟨lb, off + i, none⟩ = some (.int .i64 (f i))) :
    Calls Try.prog 26 #[.agg #[.int .u8 K, .int .i64 D, .int .i64 E, .int .u64 (P : Int), .int .u64 (Q : Int), .int .u64 (G : Int)], .slice A n c, .agg #[.int .i64 a, .int .i64 b]] w fun e w' => KwE K D E a b P Q G n f e ∧ Below w.heap.size w w' := by
  obtain ⟨N, hN⟩ : ∃ N, N = w.heap.size := ⟨_, rfl⟩
  obtain ⟨W2, hW2⟩ : ∃ W2, W2 = (w.alloc (.cells #[.int .u8 K, .int .i64 D, .int .i64 E, .int .u64 (P : Int), .int .u64 (Q : Int), .int .u64 (G : Int)] 45)).alloc (.cells #[.int .i64 a, .int .i64 b] 56) := ⟨_, rfl⟩
  have s2 : W2.heap.size = N + 2 := by rw [hW2, hN]; simp
  have b2 : Below N w W2 := by rw [hW2, hN]; exact (below_alloc _ _).trans ((below_alloc _ _).mono (by simp))
  have e1 : Blk W2 N #[.int .u8 K, .int .i64 D, .int .i64 E, .int .u64 (P : Int), .int .u64 (Q : Int), .int .u64 (G : Int)] 45 := by rw [hW2, hN]; exact (Blk.new w _ _).keep (below_alloc _ _)
  have e2 : Blk W2 (N + 1) #[.int .i64 a, .int .i64 b] 56 := by
    have h := Blk.new (w.alloc (.cells #[.int .u8 K, .int .i64 D, .int .i64 E, .int .u64 (P : Int), .int .u64 (Q : Int), .int .u64 (G : Int)] 45)) #[.int .i64 a, .int .i64 b] 56
    rw [World.size_alloc, ← hN] at h; rw [hW2]; exact h
  have HE : Hid (W2.heap.size = N + 2 ∧ Below N w W2 ∧ Blk W2 N #[.int .u8 K, .int .i64 D, .int .i64 E, .int .u64 (P : Int), .int .u64 (Q : Int), .int .u64 (G : Int)] 45 ∧ Blk W2 (N + 1) #[.int .i64 a, .int .i64 b] 56) := Lib.hid ⟨s2, b2, e1, e2⟩
  have HEND := Lib.hid (fun (w3 : World) (hb : Below W2.heap.size W2 w3) => (HE.out.2.1.trans (hb.mono (by rw [HE.out.1]; omega)) : Below N w w3))
  have HLC : Hid (∀ w1, Below W2.heap.size W2 w1 → ∀ i, i < n → w1.cell? ⟨lb, off + i, none⟩ = some (.int .i64 (f i))) := Lib.hid (fun w1 h i hi => ((HEND.out w1 h).cell (p := ⟨lb, off + i, none⟩) (by rw [hN]; exact World.block_lt_of_cell? w _ (hcl i hi))).trans (hcl i hi))
  have HCk := Lib.hid (fun w => check_any K D E P Q G w hK0 hK1)
  have HLi := Lib.hid (fun w1 (d1 : 0 ≤ D) (d2 : D ≤ 6) (hb : Below W2.heap.size W2 w1) => isList_any K D E P Q G lb off n c A f w1 d1 d2 hn hc had (fun i hi => HLC.out w1 hb i hi))
  have HNC := Lib.hid (And.intro hn (And.intro hc had))
  have HN := Lib.hid hN
  have HW := Lib.hid hW2
  rw [← hN]
  have c0 : W2.cell? ⟨N, 0, none⟩ = some (.int .u8 K) := (e1).cell 0
  have c1 : W2.cell? ⟨N, 1, none⟩ = some (.int .i64 D) := (e1).cell 1
  have c2 : W2.cell? ⟨N, 2, none⟩ = some (.int .i64 E) := (e1).cell 2
  have c3 : W2.cell? ⟨N, 3, none⟩ = some (.int .u64 (P : Int)) := (e1).cell 3
  have c4 : W2.cell? ⟨N, 4, none⟩ = some (.int .u64 (Q : Int)) := (e1).cell 4
  have c5 : W2.cell? ⟨N, 5, none⟩ = some (.int .u64 (G : Int)) := (e1).cell 5
  have z0 : W2.cell? ⟨N + 1, 0, none⟩ = some (.int .i64 a) := (e2).cell 0
  have z1 : W2.cell? ⟨N + 1, 1, none⟩ = some (.int .i64 b) := (e2).cell 1
  rw [hW2, hN] at c0 c1 c2 c3 c4 c5 z0 z1
  clear hN hW2 s2 b2 e1 e2 hK0 hK1 hn hc had hcl
  go_enter Try.func26, Try.ntmps26
  go_wp2_with fail
  rw [← HW.out, ← HN.out]
  refine (HCk.out _).mono ?_
  rintro e w3 ⟨rfl, hb3⟩
  have HB3 := Lib.hid hb3
  clear hb3 c0 c1 c2 c3 c4 c5 z0 z1
  by_cases h : ScOk K D E P Q G
  · have hs := scc_yes h
    rw [hs]
    have HSb := Lib.hid (scb_yes h)
    have HK123 : Hid (K = 1 ∨ K = 2 ∨ K = 3) := Lib.hid (by have h1 := h.1; have h2 := h.2.1; omega)
    have hD := h.2.2.1
    have hD2 := h.2.2.2.1
    have HLw := Lib.hid (HLi.out w3 hD hD2 HB3.out)
    obtain ⟨d, rfl⟩ := Int.eq_ofNat_of_zero_le hD
    have hd : d < 7 := by omega
    have HD := Lib.hid hd
    have HIs := Lib.hid (fun w => isSubset_any K E a b d P Q G w hd)
    have c0 : w3.cell? ⟨N, 0, none⟩ = some (.int .u8 K) := (HE.out.2.2.1.keep HB3.out).cell 0
    have c1 : w3.cell? ⟨N, 1, none⟩ = some (.int .i64 (d : Int)) := (HE.out.2.2.1.keep HB3.out).cell 1
    have c2 : w3.cell? ⟨N, 2, none⟩ = some (.int .i64 E) := (HE.out.2.2.1.keep HB3.out).cell 2
    have c3 : w3.cell? ⟨N, 3, none⟩ = some (.int .u64 (P : Int)) := (HE.out.2.2.1.keep HB3.out).cell 3
    have c4 : w3.cell? ⟨N, 4, none⟩ = some (.int .u64 (Q : Int)) := (HE.out.2.2.1.keep HB3.out).cell 4
    have c5 : w3.cell? ⟨N, 5, none⟩ = some (.int .u64 (G : Int)) := (HE.out.2.2.1.keep HB3.out).cell 5
    clear hs h hD hD2 hd HLi
    go_wp2_with fail
    refine HLw.out.mono ?_
    rintro e w4 ⟨rfl, hb4⟩
    have HB4 := Lib.hid (HB3.out.trans (hb4.mono HB3.out.size))
    clear hb4 c0 c1 c2 c3 c4 c5 HLw
    rcases hr : lsb (d : Int) n f with _ | _
    · have H3 := Lib.hid (HEND.out w4 HB4.out)
      have HC : Hid (KwE K (d : Int) E a b P Q G n f (.returned (.tuple #[.bool false, .int .i64 2]))) := Lib.hid (.inr (.inl ⟨HSb.out, hr, rfl⟩))
      clear hr
      go_wp2_with fail
      go_ret2
      exact ⟨HC.out, H3.out⟩
    · have HRr := Lib.hid hr
      have HLs := Lib.hid (fun i (hi : i < n) => of_decide_eq_true (lsb_lst hr i hi).1)
      clear hr
      have c0 : w4.cell? ⟨N, 0, none⟩ = some (.int .u8 K) := (HE.out.2.2.1.keep HB4.out).cell 0
      have c1 : w4.cell? ⟨N, 1, none⟩ = some (.int .i64 (d : Int)) := (HE.out.2.2.1.keep HB4.out).cell 1
      have c2 : w4.cell? ⟨N, 2, none⟩ = some (.int .i64 E) := (HE.out.2.2.1.keep HB4.out).cell 2
      have c3 : w4.cell? ⟨N, 3, none⟩ = some (.int .u64 (P : Int)) := (HE.out.2.2.1.keep HB4.out).cell 3
      have c4 : w4.cell? ⟨N, 4, none⟩ = some (.int .u64 (Q : Int)) := (HE.out.2.2.1.keep HB4.out).cell 4
      have c5 : w4.cell? ⟨N, 5, none⟩ = some (.int .u64 (G : Int)) := (HE.out.2.2.1.keep HB4.out).cell 5
      have z0 : w4.cell? ⟨N + 1, 0, none⟩ = some (.int .i64 a) := (HE.out.2.2.2.keep HB4.out).cell 0
      have z1 : w4.cell? ⟨N + 1, 1, none⟩ = some (.int .i64 b) := (HE.out.2.2.2.keep HB4.out).cell 1
      go_wp2_with fail
      refine (HIs.out _).mono ?_
      rintro e w5 ⟨rfl, hb5⟩
      have HB5 := Lib.hid (HB4.out.trans (hb5.mono HB4.out.size))
      clear hb5 c0 c1 c2 c3 c4 c5 z0 z1
      rcases hi : isb K d a b with _ | _
      · have H3 := Lib.hid (HEND.out w5 HB5.out)
        have HC : Hid (KwE K (d : Int) E a b P Q G n f (.returned (.tuple #[.bool false, .int .i64 31]))) := Lib.hid (.inr (.inr (.inl ⟨HSb.out, HRr.out, by rw [Int.toNat_natCast]; exact hi, rfl⟩)))
        clear hi
        go_wp2_with fail
        go_ret2
        exact ⟨HC.out, H3.out⟩
      · obtain ⟨v, x, rfl, rfl, v1, v3, v2, hx, x2, hk1⟩ := isb_nat HD.out hi
        have HC : Hid (∀ e, (∃ z, (z = true ↔ ∃ i, i < n ∧ mbr d v x (f i).toNat = true) ∧ e = .returned (.tuple #[.bool z, .int .i64 0])) → KwE K (d : Int) E (v : Int) (x : Int) P Q G n f e) := Lib.hid (fun e he => .inr (.inr (.inr ⟨HSb.out, HRr.out, by rw [Int.toNat_natCast]; exact hi, by simp only [Int.toNat_natCast]; exact he⟩)))
        have HFn : Hid (∀ i, i < n → f i = ((f i).toNat : Int) ∧ (f i).toNat < 2 ^ d) := Lib.hid (fun i hi => by have h := HLs.out i hi; rw [Int.toNat_natCast] at h; omega)
        have HCo := Lib.hid (fun p q w1 (hk : KEnv w1 p q K E d P Q G v x) (hb : Below W2.heap.size W2 w1) => containsM_any K E d P Q G v x p q lb off n c A (fun i => (f i).toNat) w1 HD.out v3 hx hk HNC.out.1 HNC.out.2.1 HNC.out.2.2 (fun i hi => ⟨by rw [HLC.out w1 hb i hi, ← (HFn.out i hi).1], (HFn.out i hi).2⟩))
        have HKe : Hid (KEnv w5 N (N + 1) K E d P Q G v x) := Lib.hid ⟨HE.out.2.2.1.keep HB5.out, HE.out.2.2.2.keep HB5.out⟩
        have HCp := Lib.hid (HCo.out N (N + 1) w5 HKe.out HB5.out)
        clear hi v1 v3 v2 hx x2 hk1
        go_wp2_with fail
        refine (HCp.out).mono ?_
        rintro e w6 ⟨⟨z, rfl, hz⟩, hb6⟩
        have H3 := Lib.hid (HEND.out w6 (HB5.out.trans (hb6.mono HB5.out.size)))
        have HZ := Lib.hid hz
        clear hb6 hz
        go_wp2_with fail
        go_ret2
        exact ⟨HC.out _ ⟨z, HZ.out, rfl⟩, H3.out⟩
  · have hs := scc_no h
    rw [hs]
    have H3 := Lib.hid (HEND.out w3 HB3.out)
    have HC : Hid (KwE K D E a b P Q G n f (.returned (.tuple #[.bool false, .int .i64 30]))) := Lib.hid (.inl ⟨scb_no h, rfl⟩)
    clear h hs
    go_wp2_with fail
    go_ret2
    exact ⟨HC.out, H3.out⟩

end Go.Proofs.Ytchkgccnipejhaa
