/-
  Contract of Decrypt.
-/
import Derived.Test.YtcbanemkjebdcaaKeyE
namespace Go.Proofs.Ytcbanemkjebdcaa
open Go.RowKit Go.Shelf SP
attribute [local go_sem] Oper.semAt_some

/-- Block b holds 32 words f, and may be written. -/
structure Wrow (w : World) (b : Nat) (f : Nat → Nat) : Prop where
  cell : ∀ j, j < 32 → w.cell? ⟨b, j, none⟩ = some (.int .u64 (f j : Int))
  fr : ∀ j, j < 32 → w.frozen? ⟨b, j, none⟩ = false

theorem Wrow.lt {w : World} {b : Nat} {f : Nat → Nat} (h : Wrow w b f) : b < w.heap.size := World.block_lt_of_cell? w ⟨b, 0, none⟩ (h.cell 0 (by omega))
theorem Wrow.set {w : World} {b : Nat} {f : Nat → Nat} (h : Wrow w b f) (j v : Nat) (hj : j < 32) : Wrow (w.setCell ⟨b, j, none⟩ (.int .u64 (v : Int))) b (fun i => if i = j then v else f i) where
  cell i hi := by
    by_cases e : i = j
    · subst e
      rw [if_pos rfl, World.cell?_setCell_same _ _ _ (h.cell i hi)]
    · rw [if_neg e, World.cell?_setCell_other _ _ _ _ (fun hh => e (by injection hh with _ h2 _; exact h2.symm))]
      exact h.cell i hi
  fr i hi := by rw [World.frozen?_setCell]; exact h.fr i hi
theorem Wrow.other {w : World} {b b' : Nat} {f : Nat → Nat} (h : Wrow w b f) (j : Nat) (v : Value) (hb : b' ≠ b) : Wrow (w.setCell ⟨b', j, none⟩ v) b f where
  cell i hi := by
    rw [World.cell?_setCell_other _ _ _ _ (fun hh => hb (by injection hh with h1 _ _))]
    exact h.cell i hi
  fr i hi := by rw [World.frozen?_setCell]; exact h.fr i hi
theorem Wrow.below {w w' : World} {n b : Nat} {f : Nat → Nat} (h : Wrow w b f) (hb : Below n w w') (hn : b < n) : Wrow w' b f where
  cell i hi := by rw [hb.cell (p := ⟨b, i, none⟩) hn]; exact h.cell i hi
  fr i hi := by rw [hb.frozen (p := ⟨b, i, none⟩) hn]; exact h.fr i hi
theorem Wrow.ext {w : World} {b : Nat} {f g : Nat → Nat} (h : Wrow w b f) (hf : ∀ j, j < 32 → f j = g j) : Wrow w b g :=
  ⟨fun j hj => by rw [← hf j hj]; exact h.cell j hj, h.fr⟩
theorem Wrow.grown {w w' : World} {b : Nat} {f : Nat → Nat} {row : Option Nat} (h : Wrow w b f) (hg : w.grownBy w' row) (hr : ∀ r, row = some r → ∃ o : Obj, w.heap[r]? = some o ∧ o.isCells = false) : Wrow w' b f :=
  ⟨fun j hj => cell_kept (h.cell j hj) hg hr, fun j hj => (frozen_kept (h.cell j hj) hg hr).trans (h.fr j hj)⟩
abbrev z32 : Array Value := #[.int .u64 0, .int .u64 0, .int .u64 0, .int .u64 0, .int .u64 0, .int .u64 0, .int .u64 0, .int .u64 0, .int .u64 0, .int .u64 0, .int .u64 0, .int .u64 0, .int .u64 0, .int .u64 0, .int .u64 0, .int .u64 0, .int .u64 0, .int .u64 0, .int .u64 0, .int .u64 0, .int .u64 0, .int .u64 0, .int .u64 0, .int .u64 0, .int .u64 0, .int .u64 0, .int .u64 0, .int .u64 0, .int .u64 0, .int .u64 0, .int .u64 0, .int .u64 0]
theorem z32_get (j : Nat) (h : j < 32) : z32[j]? = some (.int .u64 0) := by
  have h32 : j = 0 ∨ j = 1 ∨ j = 2 ∨ j = 3 ∨ j = 4 ∨ j = 5 ∨ j = 6 ∨ j = 7 ∨ j = 8 ∨ j = 9 ∨ j = 10 ∨ j = 11 ∨ j = 12 ∨ j = 13 ∨ j = 14 ∨ j = 15 ∨ j = 16 ∨ j = 17 ∨ j = 18 ∨ j = 19 ∨ j = 20 ∨ j = 21 ∨ j = 22 ∨ j = 23 ∨ j = 24 ∨ j = 25 ∨ j = 26 ∨ j = 27 ∨ j = 28 ∨ j = 29 ∨ j = 30 ∨ j = 31 := by omega
  rcases h32 with rfl | rfl | rfl | rfl | rfl | rfl | rfl | rfl | rfl | rfl | rfl | rfl | rfl | rfl | rfl | rfl | rfl | rfl | rfl | rfl | rfl | rfl | rfl | rfl | rfl | rfl | rfl | rfl | rfl | rfl | rfl | rfl <;> rfl
theorem Wrow.zeros (w : World) (t : TypeId) : Wrow (w.alloc (.cells z32 t)) w.heap.size (fun _ => 0) where
  cell i hi := by rw [cell_of_row _ _ i _ t _ (heap_alloc_new w _), z32_get i hi]; rfl
  fr i hi := by unfold World.frozen?; rw [heap_alloc_new]; simp

/-- The cells of 32 words. -/
def wl (f : Nat → Nat) : List Value := (List.range 32).map fun j => .int .u64 (f j : Int)
theorem wl_len (f : Nat → Nat) : (wl f).length = 32 := by simp [wl]
theorem wl_get (f : Nat → Nat) (j : Nat) (h : j < 32) : (wl f)[j]? = some (.int .u64 (f j : Int)) := by simp [wl, List.getElem?_map, List.getElem?_range h]
theorem Wrow.range {w : World} {b : Nat} {f : Nat → Nat} (h : Wrow w b f) : w.rangeAt b 0 (wl f) := fun j v hv => by
  have hj : j < 32 := by rw [← wl_len f]; exact (List.getElem?_eq_some_iff.1 hv).1
  rw [wl_get f j hj] at hv
  injection hv with hv
  rw [Nat.zero_add, h.cell j hj, hv]
theorem size79 : (Try.prog.info? 177).map (·.size) = some 32 := by kernel_rfl
theorem wpList_load_words {ops : Array Oper} {rest : List Oper} {op : Oper} {a : Act} {w : World} {Q : Exit → Act → World → Prop} (hgd : op.guard = none) (x : Operand) (ho : op.op = .load 177 x)
    (b : Nat) (hx : a.eval x = .pointer (some ⟨b, 0, none⟩)) (f : Nat → Nat) (hc : w.rangeAt b 0 (wl f))
    (h : wpList Try.prog ops Q rest (a.put op.dst (.agg (wl f).toArray)) w) : wpList Try.prog ops Q (op :: rest) a w :=
  wpList_load_mid hgd 177 x ho b 0 hx (wl f) _ hc Try.underlying177 rfl (by rw [wl_len]; exact size79) h
theorem run_index_words (f : Nat → Nat) (k : Nat) (h : k < 32) (w : World) : (Instr.index 177 (.agg (wl f).toArray) (.int .i64 (k : Int))).run Try.prog w = .ok (.int .u64 (f k : Int)) w := by
  have h3 := wl_get f k h
  simp [Instr.index, asIntOf, Sem.run_bind, Sem.run_pure, run_underlying Try.underlying177 w, part, isAgg, Try.sizeOf24, h3, go_sem]
  intro h'; omega

theorem run_index_key (X Y k : Nat) (h : k < 16) (w : World) : (Instr.index 23 (.agg (kl X Y).toArray) (.int .i64 (k : Int))).run Try.prog w = .ok (.int .u8 (kby X Y k : Int)) w := by
  have h3 := kl_get X Y k h
  simp [Instr.index, asIntOf, Sem.run_bind, Sem.run_pure, run_underlying Try.underlying23 w, part, isAgg, Try.sizeOf5, h3, go_sem]
  intro h'; omega

theorem map_get {xs : List W64} {n : Nat} {f : Nat → Nat} (h : xs.map (·.1) = (List.range n).map f) (i : Nat) (hi : i < n) : xs[i]?.map (·.1) = some (f i) := by
  have := congrArg (·[i]?) h
  simpa [List.getElem?_map, List.getElem?_range hi] using this

/-- Word j of the array of round keys when some have come. -/
def wat (pre : List W64) (j : Nat) : Nat := if 31 - j < pre.length then (pre[31 - j]?.map (·.1)).getD 0 else 0
theorem wat_snoc (pre : List W64) (x : W64) (h : pre.length < 32) (j : Nat) (hj : j < 32) : (if j = 31 - pre.length then x.1 else wat pre j) = wat (pre ++ [x]) j := by
  unfold wat
  by_cases e : j = 31 - pre.length
  · rw [if_pos e, if_pos (by simp; omega), show 31 - j = pre.length by omega]; simp
  · rw [if_neg e]
    by_cases e2 : 31 - j < pre.length
    · rw [if_pos e2, if_pos (by simp; omega), List.getElem?_append_left e2]
    · rw [if_neg e2, if_neg (by simp; omega)]
theorem wat_all {xs : List W64} {f : Nat → Nat} (h : xs.map (·.1) = (List.range 32).map f) (j : Nat) (hj : j < 32) : wat xs j = f (31 - j) := by
  have hl : xs.length = 32 := by have := congrArg List.length h; simpa using this
  unfold wat
  rw [if_pos (by omega), map_get h (31 - j) (by omega)]; rfl

set_option maxRecDepth 100000 in
set_option maxHeartbeats 4000000 in
theorem decrypt_any (X Y A B : Nat) (w : World) (hX : X < M) (hY : Y < M) (hA : A < M) (hB : B < M) :
    Calls Try.prog 67 #[.agg (kl X Y).toArray, .agg (kl A B).toArray] w fun e w' => e = .returned (.agg (kl (dec X Y A B).1 (dec X Y A B).2).toArray) ∧ Below w.heap.size w w' := by
  have HX := Lib.hid hX
  have HY := Lib.hid hY
  have HA := Lib.hid hA
  have HB' := Lib.hid hB
  clear hX hY hA hB
  obtain ⟨n, hn⟩ : ∃ n, n = w.heap.size := ⟨_, rfl⟩
  obtain ⟨W5, HW5⟩ : ∃ W5, Hid (W5 = ((((w.alloc (.cells (kl X Y).toArray 23)).alloc (.cells (kl A B).toArray 23)).alloc (.cells z16 23)).alloc (.cells z32 177)).alloc (.cells #[.int .i64 32] 3)) := ⟨_, Lib.hid rfl⟩
  have HBel : Hid (Below n w W5) := Lib.hid (by rw [HW5.out, hn]; exact (((((Below.refl _ _).alloc (Nat.le_refl _) _).alloc (by simp) _).alloc (by simp; omega) _).alloc (by simp; omega) _).alloc (by simp; omega) _)
  have HS : Hid (W5.heap.size = n + 5) := Lib.hid (by rw [HW5.out, hn]; simp)
  have HK1 : Hid (KeyAt W5 n X Y) := Lib.hid (by rw [HW5.out, hn]; exact ((((KeyAt.new w X Y 23).alloc _).alloc _).alloc _).alloc _)
  have HK2 : Hid (KeyAt W5 (n + 1) A B) := Lib.hid (by
    have h := (((KeyAt.new (w.alloc (.cells (kl X Y).toArray 23)) A B 23).alloc (.cells z16 23)).alloc (.cells z32 177)).alloc (.cells #[.int .i64 32] 3)
    rw [World.size_alloc] at h
    rw [HW5.out, hn]; exact h)
  have HR : Hid (W5.there (n + 2) 0 16) := Lib.hid (by
    have h := (Row.zeros ((w.alloc (.cells (kl X Y).toArray 23)).alloc (.cells (kl A B).toArray 23)) 23).there
    rw [World.size_alloc, World.size_alloc] at h
    rw [HW5.out, hn]; exact there_below h (((Below.refl _ _).alloc (Nat.le_refl _) _).alloc (by simp) _) (by simp))
  have HWr : Hid (Wrow W5 (n + 3) (fun _ => 0)) := Lib.hid (by
    have h := Wrow.zeros (((w.alloc (.cells (kl X Y).toArray 23)).alloc (.cells (kl A B).toArray 23)).alloc (.cells z16 23)) 177
    rw [World.size_alloc, World.size_alloc, World.size_alloc] at h
    rw [HW5.out, hn]; exact h.below ((Below.refl _ _).alloc (Nat.le_refl _) _) (by simp))
  have HC : Hid (W5.cell? ⟨n + 4, 0, none⟩ = some (.int .i64 32) ∧ W5.frozen? ⟨n + 4, 0, none⟩ = false) := Lib.hid (by
    have h := box_new ((((w.alloc (.cells (kl X Y).toArray 23)).alloc (.cells (kl A B).toArray 23)).alloc (.cells z16 23)).alloc (.cells z32 177)) (.int .i64 32) 3
    rw [World.size_alloc, World.size_alloc, World.size_alloc, World.size_alloc] at h
    rw [HW5.out, hn]; exact h)
  have HN := Lib.hid hn
  clear hn
  refine (callsIn_wide (n := 4)).1 (callsIn_of_wp_marks Try.func67 rfl trivial ?_ rfl)
  simp only [Try.ntmps67, List.size_toArray, List.length_cons, List.length_nil, Nat.reduceAdd, Nat.reduceSub, Array.replicate_succ, Array.replicate_zero, List.push_toArray, List.append_toArray, List.nil_append, List.cons_append]
  refine wpIn_wide.2 ?_
  go_wp2_with (refine wpList_load_key rfl _ rfl _ rfl X Y (by rw [← HW5.out, ← HN.out]; exact HK1.out) ?_)
  rw [← HW5.out, ← HN.out]
  refine (roundKeys_any X Y W5).mono ?_
  rintro e w' ⟨rfl, rfl⟩
  go_wp2_with fail
  obtain ⟨b6, hb6⟩ : ∃ b6, b6 = n + 1 + 1 + 1 + 1 := ⟨_, rfl⟩
  obtain ⟨b5, hb5⟩ : ∃ b5, b5 = n + 1 + 1 + 1 := ⟨_, rfl⟩
  obtain ⟨b4, hb4⟩ : ∃ b4, b4 = n + 1 + 1 := ⟨_, rfl⟩
  obtain ⟨b3, hb3⟩ : ∃ b3, b3 = n + 1 := ⟨_, rfl⟩
  rw [← hb6, ← hb5, ← hb4, ← hb3]
  obtain ⟨m, hm⟩ : ∃ m, m = W5.heap.size := ⟨_, rfl⟩
  obtain ⟨W6, hW6⟩ : ∃ W6, W6 = W5.alloc (.cells (kl X Y).toArray 23) := ⟨_, rfl⟩
  have hS6 : W6.heap.size = m + 1 := by rw [hW6, hm]; simp
  have hB6 : Below m W5 W6 := by rw [hW6, hm]; exact (Below.refl _ _).alloc (Nat.le_refl _) _
  have k6 : KeyAt W6 m X Y := by rw [hW6, hm]; exact KeyAt.new _ _ _ _
  have hmn : m = n + 5 := by rw [hm, HS.out]
  have hth : W6.there b4 0 16 := by rw [hb4]; exact there_below HR.out hB6 (by omega)
  have hk3 : KeyAt W6 b3 A B := by rw [hb3]; exact HK2.out.below hB6 (by omega)
  have hw5 : Wrow W6 b5 (wat []) := by rw [hb5]; exact (HWr.out.below hB6 (by omega)).ext (fun j _ => by simp [wat])
  have hc6 : W6.cell? ⟨b6, 0, none⟩ = some (.int .i64 ((32 - ([] : List W64).length : Nat) : Int)) := by rw [hb6]; exact (hB6.cell (p := ⟨n + 4, 0, none⟩) (by show n + 4 < m; omega)).trans HC.out.1
  have hf6 : W6.frozen? ⟨b6, 0, none⟩ = false := by rw [hb6]; exact (hB6.frozen (p := ⟨n + 4, 0, none⟩) (by show n + 4 < m; omega)).trans HC.out.2
  have hb06 : Below n w W6 := HBel.out.trans (hB6.mono (by omega))
  rw [← hW6, ← hm]
  have HB : Hid (b6 = n + 4 ∧ b5 = n + 3 ∧ b4 = n + 2 ∧ b3 = n + 1) := Lib.hid ⟨hb6, hb5, hb4, hb3⟩
  have h65 : b6 ≠ b5 := by omega
  have h56 : b5 ≠ b6 := by omega
  have HM := Lib.hid hmn
  have HS6 := Lib.hid hS6
  clear hW6 hm hb6 hb5 hb4 hb3 hmn hB6
  refine (wpIn_wide (n := 4)).1 ?_
  refine wpIn_rangeFunc_ownF rfl (n := 4) (by omega) (gf := 142) (lb := #[.pointer (some ⟨m, 0, none⟩)]) rfl trivial (enters_of Try.func142 (by kernel_rfl) rfl)
    (keys_stops 3 (by omega) X Y m W6 HX.out HY.out k6) (fun _ _ => trivial) (fun _ _ _ _ _ _ _ _ => trivial) (Below.refl _ _) (fun _ => rfl)
    (fun pre W => (W.cell? ⟨b6, 0, none⟩ = some (.int .i64 ((32 - pre.length : Nat) : Int)) ∧ W.frozen? ⟨b6, 0, none⟩ = false ∧ Wrow W b5 (wat pre)) ∧ Below b5 W6 W)
    (fun _ _ _ => False)
    (OwnFrom.and (Own.from (fun s A B row hs hg hr => ⟨cell_kept hs.1 hg hr, (frozen_kept hs.1 hg hr).trans hs.2.1, hs.2.2.grown hg hr⟩) _) (ownFrom_below (by rw [HS6.out, HM.out, HB.out.2.1]; omega) (by rw [HS6.out, HM.out, HB.out.2.1]; omega)))
    (fun _ _ _ _ _ hs _ _ => hs)
    ⟨⟨hc6, hf6, hw5⟩, Below.refl _ _⟩
    (fun x => { tmps := #[.agg (kl X Y).toArray, .agg (kl A B).toArray, .pointer (some ⟨n, 0, none⟩), .pointer (some ⟨b3, 0, none⟩), .pointer (some ⟨b4, 0, none⟩), .pointer (some ⟨b5, 0, none⟩), .pointer (some ⟨b6, 0, none⟩), .int .u64 (x.1 : Int), undef, undef, undef, undef, .agg (kl X Y).toArray, .func (.func 142) #[] #[.pointer (some ⟨m, 0, none⟩)], .int .u64 (x.1 : Int), undef, undef, undef, undef, undef, undef, undef, undef, undef, undef, undef, undef, undef, undef, undef, undef, undef, undef, undef, undef, undef, undef, undef, undef, undef], defers := [] }) ?assign ?body ?done ?stop
  case assign =>
    intro l x W K hK
    unfold encs
    gi_wp2
    exact hK
  case body =>
    rintro l pre x W ⟨⟨h1, h2, h3⟩, hB⟩ hlen
    obtain ⟨c, hc⟩ : ∃ c, 32 - pre.length = c + 1 := ⟨31 - pre.length, by omega⟩
    rw [hc] at h1
    have hc32 : c < 32 := by omega
    have HCc : Hid (c = 31 - pre.length) := Lib.hid (by omega)
    have hcell := h3.cell c hc32
    have hfr := h3.fr c hc32
    have HW := Lib.hid h3
    have hl32 := Lib.hid hlen
    obtain ⟨v, hv⟩ : ∃ v, v = wat pre c := ⟨_, rfl⟩
    rw [← hv] at hcell
    clear h3 hc hlen hv
    have l0 : (0 : Int) ≤ (c : Int) := by omega
    gi_wp2_with fail
    refine ⟨((KeepsOthers.setCell _ _ _).trans (KeepsOthers.setCell _ _ _)), trivial, ⟨?_, ?_, ?_⟩, (hB.setCell (p := ⟨b6, 0, none⟩) (by show b5 ≤ b6; have := HB.out.1; have := HB.out.2.1; omega) _).setCell (p := ⟨b5, c, none⟩) (Nat.le_refl _) _⟩
    · rw [World.cell?_setCell_other _ _ _ _ (by intro h; injection h with h; exact h56 h), World.cell?_setCell_same _ _ _ h1]
      rw [List.length_append, List.length_singleton, HCc.out]
      have := hl32.out
      rw [show 32 - (pre.length + 1) = 31 - pre.length by omega]
    · rw [World.frozen?_setCell, World.frozen?_setCell]; exact h2
    · have h := ((HW.out.other 0 (.int .i64 (c : Int)) h65).set c x.1 hc32).ext (g := wat (pre ++ [x])) (fun j hj => by rw [HCc.out]; exact wat_snoc pre x hl32.out j hj)
      exact h
  case done =>
    rintro D ys W hD hys ⟨⟨h1, h2, h3⟩, hB⟩ hK
    have HT := Lib.hid (there_below hth hB (by have := HB.out.2.1; have := HB.out.2.2.1; omega))
    have HK3 := Lib.hid (hk3.below hB (by have := HB.out.2.1; have := HB.out.2.2.2; omega))
    have HBW := Lib.hid hB
    have HWW := Lib.hid (h3.ext (g := fun j => rk X Y (31 - j)) (fun j hj => wat_all hys j hj))
    have hDs : D < W.heap.size := (Array.getElem?_eq_some_iff.1 hK).1
    have HK := Lib.hid hK
    have HD := Lib.hid hD
    clear hD hys h1 h2 h3 hB hK hk3 hth hc6 hf6 hw5 k6
    go_wp2_with (refine wpList_load_key rfl _ rfl _ rfl A B HK3.out ?_)
    refine (split_any A B W HA.out HB'.out).mono ?_
    rintro e w1 ⟨rfl, hb1⟩
    have hbb : b5 < W.heap.size := HWW.out.lt
    have HW1 := Lib.hid ((HWW.out.below hb1 hbb).range)
    obtain ⟨g, HG⟩ : ∃ g : Nat → Nat, Hid (g = fun j => rk X Y (31 - j)) := ⟨_, Lib.hid rfl⟩
    rw [← HG.out] at HW1
    have HT1 := Lib.hid (there_below HT.out hb1 (there_lt HT.out (by omega)))
    have HK1' := Lib.hid ((hb1.block D hDs).trans HK.out)
    have HBW1 : Hid (Below n w w1) := Lib.hid ((hb06.trans (HBW.out.mono (by have := HB.out.2.1; omega))).trans (hb1.mono (by have := HB.out.2.1; omega)))
    have hD1 : D < w1.heap.size := Nat.lt_of_lt_of_le hDs hb1.size
    clear hb1 hbb hDs
    go_wp2_with (refine wpList_load_words rfl _ rfl _ rfl g HW1.out ?_)
    go_loop [8, 9, 26] (fun x y i => ∃ (k a c : Nat), k ≤ 32 ∧ i = .int .i64 (k : Int) ∧ x = .int .u64 (a : Int) ∧ y = .int .u64 (c : Int) ∧ Hid (a = (dst X Y A B k).1 ∧ c = (dst X Y A B k).2)) (fun _ _ i => 32 - (intOf i).toNat)
    case atStart => exact ⟨0, A, B, by omega, rfl, rfl, rfl, Lib.hid ⟨rfl, rfl⟩⟩
    case round =>
      obtain ⟨k, a, c, hk, rfl, rfl, rfl, HI⟩ := hrel
      by_cases hlt : k < 32
      · have hix := run_index_words g k hlt
        have HU := Lib.hid (fun w => unround_any a c (g k) w (by rw [HI.out.1]; exact (dst_ok HA.out HB'.out k).1) (by rw [HI.out.2]; exact (dst_ok HA.out HB'.out k).2) (by rw [HG.out]; exact rk_lt HX.out HY.out _ (by omega)))
        obtain ⟨u, HUu⟩ : ∃ u, Hid (u = g k) := ⟨_, Lib.hid rfl⟩
        rw [← HUu.out] at hix HU
        go_wp2_with fail
        refine (HU.out _).mono ?_
        rintro e w' ⟨rfl, rfl⟩
        go_wp2_with fail
        go_round
        case rel => exact ⟨k + 1, _, _, by omega, by go_num, rfl, rfl, Lib.hid (by rw [dst, HI.out.1, HI.out.2, HUu.out, HG.out]; exact ⟨rfl, rfl⟩)⟩
        case measure => simp [intOf]; omega
      · obtain rfl : k = 32 := by omega
        have HJ := Lib.hid (fun w => join_any a c w)
        go_wp2_with fail
        refine (HJ.out _).mono ?_
        rintro e w2 ⟨rfl, hb2⟩
        have HT := Lib.hid (there_below HT1.out hb2 (there_lt HT1.out (by omega)))
        have HK2 := Lib.hid ((hb2.block D hD1).trans HK1'.out)
        have HBw : Hid (Below n w w2) := Lib.hid (HBW1.out.trans (hb2.mono (by have := HBel.out.size; have := HBW1.out.size; rw [HN.out]; omega)))
        clear hb2
        go_wp2_with (refine wpList_store_key rfl _ _ rfl b4 _ _ rfl rfl HT.out ?_)
        have hne : D ≠ b4 := by have := HB.out.2.2.1; have := HD.out; have := HS6.out; have := HM.out; omega
        have hK3 : (w2.setCells b4 0 (kl a c)).heap[D]? = some (.deferred (some [])) := (heap_setCells_ne _ _ _ _ D hne).trans HK2.out
        refine ⟨by simp, .inl ⟨_, _, rfl, run_takeDeferred hK3, ?_⟩⟩
        refine ⟨_, results_key rfl _ _ b4 a c rfl ((KeyAt.stored HT.out _ _).grown (grownBy_putObj' _ D _) (by intro h; injection h with h; exact hne h.symm)), by rw [HI.out.1, HI.out.2]; rfl, ?_⟩
        have hb3 : Below n w (w2.setCells b4 0 (kl a c)) := below_setCells _ _ _ _ HBw.out (by have := HB.out.2.2.1; omega)
        rw [← HN.out]
        exact hb3.trans (belowK_b (w := w) (by rw [HN.out]; exact Nat.le_refl _) _ D _ _ (by have := HD.out; have := HS6.out; have := HM.out; have := HN.out; omega) hK3 rfl rfl)
  case stop =>
    rintro D c pre W _ _ h _
    exact h.elim
end Go.Proofs.Ytcbanemkjebdcaa
