/-
  The value of a polynomial: its contract.
-/
import Derived.Test.YtcbanemkjebdcaaPolE
import Derived.Test.YtcbanemkjebdcaaPolF
import Derived.WalkSmall
import Derived.Deep.AppendSrc
namespace Go.Proofs.Ytcbanemkjebdcaa
open Go.RowKit Go.Shelf SP
attribute [local go_sem] Oper.semAt_some
set_option linter.unusedVariables false
set_option linter.unusedSimpArgs false

/-- The value after some coefficients, from the last one on. -/
def vst {n : Nat} (f : Nat → Nat) (x q : Nat) (pre : List (Idx n)) : Nat := pre.foldl (fun s k => (s * x % q + f k.1) % q) 0
theorem vst_snoc {n : Nat} (f : Nat → Nat) (x q : Nat) (pre : List (Idx n)) (k : Idx n) : vst f x q (pre ++ [k]) = (vst f x q pre * x % q + f k.1) % q := by simp [vst]
theorem vst_lt {n : Nat} (f : Nat → Nat) (x q : Nat) (h : 0 < q) (pre : List (Idx n)) : vst f x q pre < q := by
  have key : ∀ (l : List (Idx n)) (s : Nat), s < q → l.foldl (fun s k => (s * x % q + f k.1) % q) s < q := by
    intro l
    induction l with
    | nil => intro s hs; exact hs
    | cons a l ih => intro s _; exact ih _ (Nat.mod_lt _ h)
  exact key pre 0 h
theorem vst_all {n : Nat} (f : Nat → Nat) (x q : Nat) (h : 0 < q) (ys : List (Idx n)) (hy : ys.map (·.1) = (List.range n).map fun i => n - 1 - i) : vst f x q ys = sm f x n % q := by
  have h1 : vst f x q ys = (ys.map (·.1)).foldl (fun s k => (s * x % q + f k) % q) 0 := by unfold vst; rw [List.foldl_map]
  have key : ∀ j, j ≤ n → (((List.range j).map fun i => n - 1 - i).foldl (fun s k => (s * x % q + f k) % q) 0) = hs f x n j % q := by
    intro j
    induction j with
    | zero => intro _; simp [hs]
    | succ j ih =>
      intro hj
      rw [List.range_succ, List.map_append, List.foldl_append, ih (by omega)]
      exact hs_step f x n j q _ rfl
  rw [h1, hy, key n (Nat.le_refl _), hs_all]

theorem prd_two (g : Nat → Nat) (q a x : Nat) (h0 : g 0 = a) (h1 : g 1 = x) (ha : a < q) : prd g q 2 = a * x % q := by
  simp [prd, h0, h1, Nat.mod_eq_of_lt ha]

theorem keeps_below {W W' : World} (h : Below W.heap.size W W') : KeepsOthers W W' :=
  ⟨h.size, fun l o ho _ => by rw [h.block l (Array.getElem?_eq_some_iff.1 ho).1]; exact ho⟩
theorem two_new (w : World) (a b : Value) (t : TypeId) : (w.alloc (.cells #[a, b] t)).cell? ⟨w.heap.size, 0, none⟩ = some a ∧ (w.alloc (.cells #[a, b] t)).cell? ⟨w.heap.size, 1, none⟩ = some b := by
  constructor <;> simp

set_option maxRecDepth 100000 in
set_option maxHeartbeats 4000000 in
theorem at_any (q b n c x : Nat) (f : Nat → Nat) (w : World) (h1 : 2 ≤ q) (h2 : q ≤ 1048575) (hx : x ≤ 1048575) (hf : ∀ i, i < n → f i ≤ 1048575) (hn0 : 0 < n) (hn : n ≤ c) (hc : c ≤ maxLen) (hcl : ∀ i, i < n → w.cell? ⟨b, i, none⟩ = some (.int .u64 (f i : Int))) :
    Calls Try.prog 43 #[.agg #[.int .u64 (q : Int), .slice (some ⟨b, 0, none⟩) n c], .int .u64 (x : Int)] w fun e w' => e = .returned (.int .u64 ((sm f x n % q : Nat) : Int)) ∧ Below w.heap.size w w' := by
  obtain ⟨N, hN⟩ : ∃ N, N = w.heap.size := ⟨_, rfl⟩
  obtain ⟨W1, hW1⟩ : ∃ W1, W1 = w.alloc (.cells #[.int .u64 (q : Int), .slice (some ⟨b, 0, none⟩) n c] 94) := ⟨_, rfl⟩
  obtain ⟨W2, hW2⟩ : ∃ W2, W2 = W1.alloc (.cells #[.int .u64 (x : Int)] 24) := ⟨_, rfl⟩
  obtain ⟨W3, hW3⟩ : ∃ W3, W3 = W2.alloc (.cells #[.int .u64 0] 24) := ⟨_, rfl⟩
  obtain ⟨W5, hW5⟩ : ∃ W5, W5 = W3.alloc (.cells #[.slice (some ⟨b, 0, none⟩) n c] 29) := ⟨_, rfl⟩
  have s1 : W1.heap.size = N + 1 := by rw [hW1, hN]; simp
  have s2 : W2.heap.size = N + 2 := by rw [hW2]; simp [s1]
  have s3 : W3.heap.size = N + 3 := by rw [hW3]; simp [s2]
  have s5 : W5.heap.size = N + 4 := by rw [hW5]; simp [s3]
  have B1 : Below (N + 1) W1 W5 := by rw [hW5, hW3, hW2]; exact (((Below.refl _ _).alloc (by rw [s1]; omega) _).alloc (by simp [s1]) _).alloc (by simp [s1]) _
  have B2 : Below (N + 2) W2 W5 := by rw [hW5, hW3]; exact ((Below.refl _ _).alloc (by rw [s2]; omega) _).alloc (by simp [s2]) _
  have B3 : Below (N + 3) W3 W5 := by rw [hW5]; exact (Below.refl _ _).alloc (by rw [s3]; omega) _
  have B0 : Below N w W5 := (show Below N w W1 by rw [hW1]; exact (Below.refl _ _).alloc (by omega) _).trans (B1.mono (by omega))
  have e0 : W1.cell? ⟨N, 0, none⟩ = some (.int .u64 (q : Int)) := by rw [hW1, hN, cell_of_row _ _ _ _ 94 _ (heap_alloc_new w _)]; rfl
  have e1 := box_new W1 (.int .u64 (x : Int)) 24
  have e2 := box_new W2 (.int .u64 0) 24
  have e3 := box_new W3 (.slice (some ⟨b, 0, none⟩) n c) 29
  rw [← hW2, s1] at e1
  rw [← hW3, s2] at e2
  rw [← hW5, s3] at e3
  have cq : W5.cell? ⟨N, 0, none⟩ = some (.int .u64 (q : Int)) := (B1.cell (p := ⟨N, 0, none⟩) (by show N < N + 1; omega)).trans e0
  have cx : W5.cell? ⟨N + 1, 0, none⟩ = some (.int .u64 (x : Int)) := (B2.cell (p := ⟨N + 1, 0, none⟩) (by show N + 1 < N + 2; omega)).trans e1.1
  have cv : W5.cell? ⟨N + 2, 0, none⟩ = some (.int .u64 0) := (B3.cell (p := ⟨N + 2, 0, none⟩) (by show N + 2 < N + 3; omega)).trans e2.1
  have fv : W5.frozen? ⟨N + 2, 0, none⟩ = false := (B3.frozen (p := ⟨N + 2, 0, none⟩) (by show N + 2 < N + 3; omega)).trans e2.2
  have hbN : b < N := by rw [hN]; exact World.block_lt_of_cell? w ⟨b, 0, none⟩ (hcl 0 hn0)
  have hcd : ∀ i, i < n → W5.cell? ⟨b, i, none⟩ = some (.int .u64 (f i : Int)) := fun i hi => (B0.cell (p := ⟨b, i, none⟩) hbN).trans (hcl i hi)
  have HBS := Lib.hid (back_stops 3 (by omega) b n c (N + 3) f W5 hn0 hn hc e3.1 hcd)
  have HF := Lib.hid hf
  have HN := Lib.hid hN
  have HB0 := Lib.hid B0
  have HC := Lib.hid (And.intro cq (And.intro cx (And.intro cv fv)))
  have HE : Hid (W5 = (((w.alloc (.cells #[.int .u64 (q : Int), .slice (some ⟨b, 0, none⟩) n c] 94)).alloc (.cells #[.int .u64 (x : Int)] 24)).alloc (.cells #[.int .u64 0] 24)).alloc (.cells #[.slice (some ⟨b, 0, none⟩) n c] 29)) := Lib.hid (by rw [hW5, hW3, hW2, hW1])
  have HS5 := Lib.hid s5
  have HX := Lib.hid (And.intro h1 (And.intro h2 hx))
  have HBN := Lib.hid hbN
  rw [← hN]
  clear hW1 hW2 hW3 hW5 s1 s2 s3 s5 B0 B1 B2 B3 e0 e1 e2 e3 cq cx cv fv hcd hcl hf hN h1 h2 hx hbN hc hn
  refine (callsIn_wide (n := 4)).1 (callsIn_of_wp_marks Try.func43 rfl trivial ?_ rfl)
  simp only [Try.ntmps43, List.size_toArray, List.length_cons, List.length_nil, Nat.reduceAdd, Nat.reduceSub, Array.replicate_succ, Array.replicate_zero, List.push_toArray, List.append_toArray, List.nil_append, List.cons_append]
  refine wpIn_wide.2 ?_
  go_wp2_with fail
  refine (backward_any _ _ _ _).mono ?_
  rintro e w' ⟨rfl, rfl⟩
  go_wp2_with fail
  rw [← HE.out, ← HN.out]
  simp only [Nat.add_assoc, Nat.reduceAdd]
  refine (wpIn_wide (n := 4)).1 ?_
  refine wpIn_rangeFunc_ownF rfl (n := 4) (by omega) (gf := 137) (lb := #[.pointer (some ⟨N + 3, 0, none⟩)]) rfl trivial (enters_of Try.func137 (by kernel_rfl) rfl)
    HBS.out (fun h k => ⟨k.1.trans h.1, k.2.trans h.2⟩) (fun W l o o' hl _ _ _ => ⟨World.putObj_heap_other (by rw [HS5.out] at hl; omega), World.putObj_heap_other (by rw [HS5.out] at hl; have := HBN.out; omega)⟩) (Below.refl _ _) (fun _ => rfl)
    (fun pre W => (W.cell? ⟨N + 2, 0, none⟩ = some (.int .u64 (vst f x q pre : Int)) ∧ W.frozen? ⟨N + 2, 0, none⟩ = false) ∧ Below (N + 2) W5 W)
    (fun _ _ _ => False)
    (OwnFrom.and (Own.from (fun s A B row hs hg hr => ⟨cell_kept hs.1 hg hr, (frozen_kept hs.1 hg hr).trans hs.2⟩) _) (ownFrom_below (by rw [HS5.out]; omega) (by rw [HS5.out]; omega)))
    (fun _ _ _ _ _ hs _ _ => hs)
    ⟨⟨HC.out.2.2.1, HC.out.2.2.2⟩, Below.refl _ _⟩
    (fun y => { tmps := #[.agg #[.int .u64 (q : Int), .slice (some ⟨b, 0, none⟩) n c], .int .u64 (x : Int), .pointer (some ⟨N, 0, none⟩), .pointer (some ⟨N + 1, 0, none⟩), .int .u64 0, .pointer (some ⟨N + 2, 0, none⟩), undef, .int .u64 (f y.1 : Int), .pointer (some ⟨N, 1, none⟩), .slice (some ⟨b, 0, none⟩) n c, .func (.func 137) #[] #[.pointer (some ⟨N + 3, 0, none⟩)], .int .i64 (y.1 : Int), .int .u64 (f y.1 : Int), undef, undef, undef, undef, undef, undef, undef, undef, undef, undef, undef], defers := [] }) ?assign ?body ?done ?stop
  case assign =>
    intro l y W K hK
    unfold iencs
    gi_wp2
    exact hK
  case body =>
    rintro l pre y W ⟨⟨h1, h2⟩, hB⟩ _
    have hlt := vst_lt f x q (by have := HX.out.1; omega) pre
    have hsn := vst_snoc f x q pre y
    have hfy := HF.out y.1 y.2
    obtain ⟨a, ha⟩ : ∃ a, a = vst f x q pre := ⟨_, rfl⟩
    obtain ⟨d, hd⟩ : ∃ d, d = f y.1 := ⟨_, rfl⟩
    rw [← ha] at h1 hlt hsn
    rw [← hd] at hsn hfy ⊢
    have hq0 : 1 ≤ q := by have := HX.out.1; omega
    have HPr : Hid (∀ w gb, w.cell? ⟨gb, 0, none⟩ = some (.int .u64 (a : Int)) → w.cell? ⟨gb, 1, none⟩ = some (.int .u64 (x : Int)) → Calls Try.prog 101 #[.int .u64 (q : Int), .slice (some ⟨gb, 0, none⟩) 2 2] w fun e w' => e = .returned (.int .u64 ((a * x % q : Nat) : Int)) ∧ w = w') := Lib.hid (fun w gb g0 g1 => by
      have h := product_any q gb 2 2 (fun i => if i = 0 then a else x) w hq0 HX.out.2.1 (fun i _ => by have := HX.out; show (if i = 0 then a else x) ≤ 1048575; split <;> omega) (Nat.le_refl _) (by unfold maxLen; omega) (fun i hi => by
        rcases (by omega : i = 0 ∨ i = 1) with rfl | rfl
        · exact g0
        · exact g1)
      rw [prd_two _ q a x rfl rfl hlt] at h
      exact h)
    have hr1 := Nat.mod_lt (a * x) hq0
    obtain ⟨r1, hr1e⟩ : ∃ r1, r1 = a * x % q := ⟨_, rfl⟩
    rw [← hr1e] at HPr hr1 hsn
    have HPl : Hid (∀ w, Calls Try.prog 100 #[.int .u64 (q : Int), .int .u64 (r1 : Int), .int .u64 (d : Int)] w fun e w' => e = .returned (.int .u64 (((r1 + d) % q : Nat) : Int)) ∧ w = w') := Lib.hid (fun w => plus_any q r1 d w hq0 (by have := HX.out; omega) hfy)
    obtain ⟨r2, hr2⟩ : ∃ r2, r2 = (r1 + d) % q := ⟨_, rfl⟩
    rw [← hr2] at HPl hsn
    have HSN := Lib.hid hsn
    have HW : Hid (∀ w1, Below W.heap.size W w1 → (w1.cell? ⟨N, 0, none⟩ = some (.int .u64 (q : Int)) ∧ w1.cell? ⟨N + 1, 0, none⟩ = some (.int .u64 (x : Int))) ∧ w1.cell? ⟨N + 2, 0, none⟩ = some (.int .u64 (a : Int)) ∧ w1.frozen? ⟨N + 2, 0, none⟩ = false) := Lib.hid (fun w1 hw => by
      have hs : N + 4 ≤ W.heap.size := by rw [← HS5.out]; exact hB.size
      exact ⟨⟨(hw.cell (p := ⟨N, 0, none⟩) (by show N < W.heap.size; omega)).trans ((hB.cell (p := ⟨N, 0, none⟩) (by show N < N + 2; omega)).trans HC.out.1), (hw.cell (p := ⟨N + 1, 0, none⟩) (by show N + 1 < W.heap.size; omega)).trans ((hB.cell (p := ⟨N + 1, 0, none⟩) (by show N + 1 < N + 2; omega)).trans HC.out.2.1)⟩,
        (hw.cell (p := ⟨N + 2, 0, none⟩) (by show N + 2 < W.heap.size; omega)).trans h1, (hw.frozen (p := ⟨N + 2, 0, none⟩) (by show N + 2 < W.heap.size; omega)).trans h2⟩)
    have HBB := Lib.hid hB
    clear ha hd hlt hsn hfy hr1 hr1e hr2 hq0 h1 h2 hB
    gi_wp2_with fail
    refine wpIn_round_inv _ _ (by kernel_rfl) (by rintro ⟨_, _, h⟩; exact h) (by kernel_rfl) (by kernel_rfl) (fun l a' w' => ∃ (gb : Nat) (w1 : World), a' = { tmps := #[Value.agg #[.int .u64 (q : Int), .slice (some ⟨b, 0, none⟩) n c], Value.int .u64 (x : Int), Value.pointer (some ⟨N, 0, none⟩), Value.pointer (some ⟨N + 1, 0, none⟩), Value.int .u64 0, Value.pointer (some ⟨N + 2, 0, none⟩), undef, Value.int .u64 (d : Int), Value.pointer (some ⟨N, 1, none⟩), Value.slice (some ⟨b, 0, none⟩) n c, Value.func (.func 137) #[] #[.pointer (some ⟨N + 3, 0, none⟩)], Value.int .i64 (y.1 : Int), Value.int .u64 (d : Int), bif l 0 then Value.pointer (some ⟨N, 0, none⟩) else undef, bif l 1 then Value.int .u64 (q : Int) else undef, bif l 2 then Value.pointer (some ⟨N, 0, none⟩) else undef, bif l 3 then Value.int .u64 (q : Int) else undef, bif l 4 then Value.int .u64 (a : Int) else undef, bif l 5 then Value.int .u64 (x : Int) else undef, bif l 6 then Value.slice (some ⟨gb, 0, none⟩) 2 2 else undef, bif l 7 then Value.int .u64 (r1 : Int) else undef, bif l 8 then Value.int .u64 (d : Int) else undef, bif l 9 then Value.int .u64 (r2 : Int) else undef, undef], defers := [] } ∧ Below W.heap.size W w1 ∧ (l 6 = true → w1.cell? ⟨gb, 0, none⟩ = some (.int .u64 (a : Int)) ∧ w1.cell? ⟨gb, 1, none⟩ = some (.int .u64 (x : Int))) ∧ w' = (bif l 10 then w1.setCell ⟨N + 2, 0, none⟩ (.int .u64 (r2 : Int)) else w1) ∧ (l 10 = true → ∀ j, j < 10 → l j = true)) ⟨0, _, rfl, (Below.refl _ _).drew, (fun h => by cases h), rfl, (fun h => by cases h)⟩ ?_ ?_
    · rintro l a' w' i ⟨gb, w1, rfl, hBw, hcz, hw, ho⟩ hi hli hpre
      have hi2 : i < 11 := hi
      have n10 : l 10 = false := by
        by_cases h10 : i = 10
        · rw [← h10]; exact hli
        · cases h : l 10; rfl; exact absurd (ho h i (by omega)) (by rw [hli]; decide)
      rw [n10, cond_false] at hw
      subst hw
      have hcase : i = 0 ∨ i = 1 ∨ i = 2 ∨ i = 3 ∨ i = 4 ∨ i = 5 ∨ i = 6 ∨ i = 7 ∨ i = 8 ∨ i = 9 ∨ i = 10 := by omega
      clear hi hi2 ho
      obtain ⟨⟨zq, zx⟩, zv, zf⟩ := HW.out _ hBw
      rcases hcase with rfl | rfl | rfl | rfl | rfl | rfl | rfl | rfl | rfl | rfl | rfl
      · -- 0: Op.fieldAddr 94 (Operand.tmp 2) 0
        refine wpOp_step rfl (fun K hK => ?_)
        clear hpre
        rw [if_pos (by rfl)]
        go_simp
        exact hK _ _ ⟨gb, _, by simp [upd, Act.put], hBw, (fun e => hcz (by simpa [upd] using e)), by simp [upd, n10], (fun e => absurd e (by simp [upd, n10]))⟩
      · -- 1: Op.load 92 (Operand.tmp 13)
        have p0 : l 0 = true := hpre _ rfl ⟨0, .data⟩ (by simp) rfl
        refine wpOp_step rfl (fun K hK => ?_)
        simp only [p0, cond_true]
        clear hpre
        rw [if_pos (by rfl)]
        go_simp
        exact hK _ _ ⟨gb, _, by simp [upd, Act.put, p0], hBw, (fun e => hcz (by simpa [upd] using e)), by simp [upd, n10], (fun e => absurd e (by simp [upd, n10]))⟩
      · -- 2: Op.fieldAddr 94 (Operand.tmp 2) 0
        refine wpOp_step rfl (fun K hK => ?_)
        clear hpre
        rw [if_pos (by rfl)]
        go_simp
        exact hK _ _ ⟨gb, _, by simp [upd, Act.put], hBw, (fun e => hcz (by simpa [upd] using e)), by simp [upd, n10], (fun e => absurd e (by simp [upd, n10]))⟩
      · -- 3: Op.load 92 (Operand.tmp 15)
        have p2 : l 2 = true := hpre _ rfl ⟨2, .data⟩ (by simp) rfl
        refine wpOp_step rfl (fun K hK => ?_)
        simp only [p2, cond_true]
        clear hpre
        rw [if_pos (by rfl)]
        go_simp
        exact hK _ _ ⟨gb, _, by simp [upd, Act.put, p2], hBw, (fun e => hcz (by simpa [upd] using e)), by simp [upd, n10], (fun e => absurd e (by simp [upd, n10]))⟩
      · -- 4: Op.load 24 (Operand.tmp 5)
        refine wpOp_step rfl (fun K hK => ?_)
        clear hpre
        rw [if_pos (by rfl)]
        go_simp
        exact hK _ _ ⟨gb, _, by simp [upd, Act.put], hBw, (fun e => hcz (by simpa [upd] using e)), by simp [upd, n10], (fun e => absurd e (by simp [upd, n10]))⟩
      · -- 5: Op.load 24 (Operand.tmp 3)
        refine wpOp_step rfl (fun K hK => ?_)
        clear hpre
        rw [if_pos (by rfl)]
        go_simp
        exact hK _ _ ⟨gb, _, by simp [upd, Act.put], hBw, (fun e => hcz (by simpa [upd] using e)), by simp [upd, n10], (fun e => absurd e (by simp [upd, n10]))⟩
      · -- 6: Op.buildSlice 29 2 #[(0, Operand.tmp 17), (1, Oper
        have p4 : l 4 = true := hpre _ rfl ⟨4, .data⟩ (by simp) rfl
        have p5 : l 5 = true := hpre _ rfl ⟨5, .data⟩ (by simp) rfl
        refine wpOp_step rfl (fun K hK => ?_)
        simp only [p4, p5, cond_true]
        clear hpre
        rw [if_pos (by rfl)]
        go_simp
        exact hK _ _ ⟨w'.heap.size, w'.alloc (.cells #[.int .u64 (a : Int), .int .u64 (x : Int)] 24), by simp [upd, Act.put, p4, p5], hBw.alloc hBw.size _, (fun _ => two_new _ _ _ _), by simp [upd, n10], (fun e => absurd e (by simp [upd, n10]))⟩
      · -- 7: Op.call { callee := Callee.value (Operand.func 101
        have p3 : l 3 = true := hpre _ rfl ⟨3, .data⟩ (by simp) rfl
        have p6 : l 6 = true := hpre _ rfl ⟨6, .data⟩ (by simp) rfl
        refine wpOp_step rfl (fun K hK => ?_)
        simp only [p3, p6, cond_true]
        clear hpre
        rw [if_pos (by rfl)]
        go_simp
        refine (HPr.out _ gb (hcz p6).1 (hcz p6).2).mono ?_
        rintro e w5 ⟨rfl, rfl⟩
        exact hK _ _ ⟨gb, _, by simp [upd, Act.put, p3, p6], hBw, (fun e => hcz (by simpa [upd] using e)), by simp [upd, n10], (fun e => absurd e (by simp [upd, n10]))⟩
      · -- 8: Op.move (Operand.tmp 7)
        refine wpOp_step rfl (fun K hK => ?_)
        clear hpre
        rw [if_pos (by rfl)]
        go_simp
        exact hK _ _ ⟨gb, _, by simp [upd, Act.put], hBw, (fun e => hcz (by simpa [upd] using e)), by simp [upd, n10], (fun e => absurd e (by simp [upd, n10]))⟩
      · -- 9: Op.call { callee := Callee.value (Operand.func 100
        have p1 : l 1 = true := hpre _ rfl ⟨1, .data⟩ (by simp) rfl
        have p7 : l 7 = true := hpre _ rfl ⟨7, .data⟩ (by simp) rfl
        have p8 : l 8 = true := hpre _ rfl ⟨8, .data⟩ (by simp) rfl
        refine wpOp_step rfl (fun K hK => ?_)
        simp only [p1, p7, p8, cond_true]
        clear hpre
        rw [if_pos (by rfl)]
        go_simp
        refine (HPl.out _).mono ?_
        rintro e w5 ⟨rfl, rfl⟩
        exact hK _ _ ⟨gb, _, by simp [upd, Act.put, p1, p7, p8], hBw, (fun e => hcz (by simpa [upd] using e)), by simp [upd, n10], (fun e => absurd e (by simp [upd, n10]))⟩
      · -- 10: Op.store 24 (Operand.tmp 5) (Operand.tmp 22)
        have p9 : l 9 = true := hpre _ rfl ⟨9, .data⟩ (by simp) rfl
        have p0 : l 0 = true := hpre _ rfl ⟨0, .phase⟩ (by simp) rfl
        have p1 : l 1 = true := hpre _ rfl ⟨1, .phase⟩ (by simp) rfl
        have p2 : l 2 = true := hpre _ rfl ⟨2, .phase⟩ (by simp) rfl
        have p3 : l 3 = true := hpre _ rfl ⟨3, .phase⟩ (by simp) rfl
        have p4 : l 4 = true := hpre _ rfl ⟨4, .phase⟩ (by simp) rfl
        have p5 : l 5 = true := hpre _ rfl ⟨5, .phase⟩ (by simp) rfl
        have p6 : l 6 = true := hpre _ rfl ⟨6, .phase⟩ (by simp) rfl
        have p7 : l 7 = true := hpre _ rfl ⟨7, .phase⟩ (by simp) rfl
        have p8 : l 8 = true := hpre _ rfl ⟨8, .phase⟩ (by simp) rfl
        refine wpOp_step rfl (fun K hK => ?_)
        simp only [p9, p0, p1, p2, p3, p4, p5, p6, p7, p8, cond_true]
        clear hpre
        rw [if_pos (by rfl)]
        go_simp
        exact hK _ _ ⟨gb, _, by simp [upd, Act.put, p9, p0, p1, p2, p3, p4, p5, p6, p7, p8], hBw, (fun e => hcz (by simpa [upd] using e)), by simp [upd], (fun _ j hj => by rcases (by omega : j = 0 ∨ j = 1 ∨ j = 2 ∨ j = 3 ∨ j = 4 ∨ j = 5 ∨ j = 6 ∨ j = 7 ∨ j = 8 ∨ j = 9) with rfl | rfl | rfl | rfl | rfl | rfl | rfl | rfl | rfl | rfl <;> simp [upd, p9, p0, p1, p2, p3, p4, p5, p6, p7, p8])⟩
    · rintro l a' w' hall ⟨gb, w9, rfl, hBz, _, hw, _⟩
      rw [hall 10 (by decide), cond_true] at hw
      subst hw
      simp only [hall 0 (by decide), hall 1 (by decide), hall 2 (by decide), hall 3 (by decide), hall 4 (by decide), hall 5 (by decide), hall 6 (by decide), hall 7 (by decide), hall 8 (by decide), hall 9 (by decide), cond_true]
      clear hall
      obtain ⟨⟨zq, zx⟩, zv, zf⟩ := HW.out _ hBz
      have hs : N + 4 ≤ W.heap.size := by rw [← HS5.out]; exact HBB.out.size
      gi_wp2_with fail
      refine ⟨(keeps_below hBz).trans (KeepsOthers.setCell _ _ _), ⟨?_, ?_⟩, ⟨?_, ?_⟩, (HBB.out.trans (hBz.mono (by omega))).setCell (p := ⟨N + 2, 0, none⟩) (Nat.le_refl _) _⟩
      · rw [Below.heap_setCell _ _ _ _ (by show N + 3 ≠ N + 2; omega)]; exact hBz.block _ (by omega)
      · rw [Below.heap_setCell _ _ _ _ (by show b ≠ N + 2; have := HBN.out; omega)]; exact hBz.block _ (by have := HBN.out; omega)
      · rw [HSN.out, World.cell?_setCell_same _ _ _ zv]
      · rw [World.frozen?_setCell]; exact zf
  case done =>
    rintro D ys W hD hys ⟨⟨h1, h2⟩, hBl⟩ hK
    rw [vst_all f x q (by have := HX.out.1; omega) ys hys] at h1
    have HKD := Lib.hid hK
    have HBl := Lib.hid hBl
    have HD := Lib.hid hD
    obtain ⟨r, hr⟩ : ∃ r, r = sm f x n % q := ⟨_, rfl⟩
    rw [← hr] at h1
    have HRE := Lib.hid hr
    clear hr hys hBl hD hK
    go_wp2_with fail
    refine ⟨by simp, .inl ⟨_, _, rfl, run_takeDeferred HKD.out, ?_⟩⟩
    refine ⟨_, results_tmp rfl _ _ _, by rw [← HRE.out]; rfl, ?_⟩
    exact (HB0.out.trans (HBl.out.mono (by omega))).trans (belowK_b (w := w) (by rw [HN.out]; exact Nat.le_refl _) _ D _ _ (by have := HD.out; have := HS5.out; have := HN.out; omega) HKD.out rfl rfl)
  case stop =>
    rintro D c pre W _ _ h _
    exact h.elim
end Go.Proofs.Ytcbanemkjebdcaa
