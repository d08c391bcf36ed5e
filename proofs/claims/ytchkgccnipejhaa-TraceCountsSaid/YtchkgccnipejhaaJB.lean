/-
  Texts joined into one: Box, PthC, SmlA, DelA, DelB, MemA, MemB, MemC, SmI, CutA, PlcA, Rnd, Blk.
-/
import Derived.Test.YtchkgccnipejhaaJN
import Derived.OneCell
import Derived.Lib.SliceRun
import Derived.Laws.IdiomCopy
import Derived.Laws.OwnMore
import Derived.RangeFuncCalls
import Derived.OrdersIn
import Derived.Deep.MidRow

/-
  Boxes, blocks' types, rows beside them.
-/
namespace Go.Proofs.Ytchkgccnipejhaa
open Go.RowKit Go.Shelf
set_option linter.unusedVariables false
set_option linter.unusedSimpArgs false

/-- A block of one cell. -/
def Box (w : World) (b : Nat) (v : Value) (t : TypeId) : Prop := w.heap[b]? = some (.cells #[v] t (0, 0))
theorem Box.lt {w : World} {b : Nat} {v : Value} {t : TypeId} (h : Box w b v t) : b < w.heap.size := (Array.getElem?_eq_some_iff.1 h).1
theorem Box.cell {w : World} {b : Nat} {v : Value} {t : TypeId} (h : Box w b v t) : w.cell? ⟨b, 0, none⟩ = some v := cell_of_one h
theorem Box.fr {w : World} {b : Nat} {v : Value} {t : TypeId} (h : Box w b v t) : w.frozen? ⟨b, 0, none⟩ = false := by unfold World.frozen?; rw [h]; simp
theorem Box.new (w : World) (v : Value) (t : TypeId) : Box (w.alloc (.cells #[v] t)) w.heap.size v t := heap_alloc_new w _
theorem Box.below {w w' : World} {m b : Nat} {v : Value} {t : TypeId} (h : Box w b v t) (hb : Below m w w') (hm : b < m) : Box w' b v t := (hb.block b hm).trans h
theorem Box.keep {w w' : World} {b : Nat} {v : Value} {t : TypeId} (h : Box w b v t) (hb : Below w.heap.size w w') : Box w' b v t := h.below hb h.lt
theorem Box.drew {w : World} {b : Nat} {v : Value} {t : TypeId} (h : Box w b v t) : Box w.drew b v t := h
theorem Box.set {w : World} {b : Nat} {v : Value} {t : TypeId} (h : Box w b v t) (u : Value) : Box (w.setCell ⟨b, 0, none⟩ u) b u t := by
  exact one_setCell h
theorem Box.other {w : World} {b : Nat} {v : Value} {t : TypeId} (h : Box w b v t) {a : Addr} (ha : a.block ≠ b) (u : Value) : Box (w.setCell a u) b v t := by
  unfold Box at h ⊢
  rw [Below.heap_setCell _ _ _ _ (fun e => ha (by first | exact e | exact e.symm))]; exact h
theorem Box.kept {w w' : World} {b : Nat} {v : Value} {t : TypeId} {row : Option Nat} (h : Box w b v t) (hg : w.grownBy w' row) (hr : ∀ r, row = some r → ∃ o : Obj, w.heap[r]? = some o ∧ o.isCells = false) : Box w' b v t :=
  (grownBy_keeps_cells hg hr h rfl).trans h
theorem Box.grown {w w' : World} {b : Nat} {v : Value} {t : TypeId} {row : Option Nat} (h : Box w b v t) (hg : w.grownBy w' row) (hb : some b ≠ row) : Box w' b v t := (hg.block b h.lt hb).trans h
/-- A block's type. -/
def Ty (w : World) (b : Nat) (t : TypeId) : Prop := ∃ cs fz, w.heap[b]? = some (.cells cs t fz)
theorem Box.ty {w : World} {b : Nat} {v : Value} {t : TypeId} (h : Box w b v t) : Ty w b t := ⟨_, _, h⟩
theorem Ty.lt {w : World} {b : Nat} {t : TypeId} (h : Ty w b t) : b < w.heap.size := by obtain ⟨_, _, h⟩ := h; exact (Array.getElem?_eq_some_iff.1 h).1
theorem Ty.below {w w' : World} {m b : Nat} {t : TypeId} (h : Ty w b t) (hb : Below m w w') (hm : b < m) : Ty w' b t := by obtain ⟨cs, fz, h⟩ := h; exact ⟨cs, fz, (hb.block b hm).trans h⟩
theorem Ty.keep {w w' : World} {b : Nat} {t : TypeId} (h : Ty w b t) (hb : Below w.heap.size w w') : Ty w' b t := h.below hb h.lt
theorem Ty.new (w : World) (cs : Array Value) (t : TypeId) : Ty (w.alloc (.cells cs t)) w.heap.size t := ⟨_, _, heap_alloc_new w _⟩
theorem Ty.setCell {w : World} {b : Nat} {t : TypeId} (h : Ty w b t) (a : Addr) (u : Value) : Ty (w.setCell a u) b t := by
  obtain ⟨cs, fz, h⟩ := h
  by_cases e : a.block = b
  · unfold Ty
    simp only [World.setCell, Array.getElem?_modify, e, h, if_true, Option.map_some]
    obtain ⟨ab, ao, sp⟩ := a
    simp only at e ⊢
    cases sp <;> exact ⟨_, _, rfl⟩
  · exact ⟨cs, fz, by rw [Below.heap_setCell _ _ _ _ (fun e' => e (by first | exact e' | exact e'.symm))]; exact h⟩
theorem Ty.setCells {w : World} {b : Nat} {t : TypeId} (h : Ty w b t) (b' : Nat) : ∀ (vs : List Value) (o : Nat), Ty (w.setCells b' o vs) b t := by
  intro vs
  induction vs generalizing w with
  | nil => intro o; exact h
  | cons v r ih => intro o; rw [World.setCells]; exact ih (h.setCell _ _) (o + 1)
theorem Ty.grown {w w' : World} {b : Nat} {t : TypeId} {row : Option Nat} (h : Ty w b t) (hg : w.grownBy w' row) (hb : some b ≠ row) : Ty w' b t := by
  have hl := h.lt
  obtain ⟨cs, fz, h⟩ := h; exact ⟨cs, fz, (hg.block b hl hb).trans h⟩
theorem Ty.apart {w : World} {b base size n : Nat} {e t : TypeId} {v : Value} {xs : List Value} (h : Ty w b t) (ho : w.ownsRow base e size v n xs) (hne : e ≠ t) : some b ≠ v.ownBlock := by
  obtain ⟨cs, fz, h⟩ := h
  rcases ho.2 with ⟨rfl, _⟩ | ⟨g, cap, cur, rfl, h1, h2, _⟩
  · intro e; cases e
  · intro eq
    injection eq with eq
    simp only at eq
    subst eq
    rw [h] at h2
    injection h2 with h2
    injection h2 with _ h3 _
    exact hne h3.symm
theorem KeepsOthers.grown {w w' : World} {base e size n : Nat} {v : Value} {xs : List Value} (ho : w.ownsRow base e size v n xs) (hg : w.grownBy w' v.ownBlock) : KeepsOthers w w' :=
  ⟨hg.size, fun k o hk hc => by
    rw [hg.block k (Array.getElem?_eq_some_iff.1 hk).1 ?_]; · exact hk
    intro eq
    rcases ho.2 with ⟨rfl, _⟩ | ⟨g, cap, cur, rfl, h1, h2, _⟩
    · cases eq
    · injection eq with eq
      simp only at eq
      subst eq
      rw [hk] at h2
      injection h2 with h2
      subst h2
      cases hc⟩

theorem own_notrow {w : World} {base e size n : Nat} {v : Value} {xs : List Value} {row : Option Nat} (ho : w.ownsRow base e size v n xs) (hr : ∀ r, row = some r → ∃ o : Obj, w.heap[r]? = some o ∧ o.isCells = false) : v.ownBlock = none ∨ v.ownBlock ≠ row := by
  rcases ho.2 with ⟨rfl, _⟩ | ⟨g, cap, cur, rfl, h1, h2, _⟩
  · exact .inl rfl
  · refine .inr fun e => ?_
    obtain ⟨o, ho', hc⟩ := hr g e.symm
    rw [h2] at ho'
    injection ho' with ho'
    subst ho'
    cases hc
end Go.Proofs.Ytchkgccnipejhaa

/-
  The path to a node, by levels.
-/
namespace Go.Proofs.Ytchkgccnipejhaa
open Go.RowKit Go.Shelf TR
set_option linter.unusedVariables false
set_option linter.unusedSimpArgs false
attribute [local go_sem] Oper.semAt_some

/-- A level of a node's path. -/
abbrev Lev (q : Nat) := { j : Nat // j ≤ q }
def lenc (v q : Nat) (j : Lev q) : Array Value := #[.int .i64 (nat_ v j.1 : Int)]
/-- k levels from l on. -/
def lvl (l k : Nat) : List Nat := (List.range k).map fun i => l + i
theorem lvl_snoc (l k : Nat) : lvl l (k + 1) = lvl l k ++ [l + k] := by unfold lvl; rw [List.range_succ, List.map_append]; rfl

set_option maxRecDepth 100000 in
set_option maxHeartbeats 2000000 in
theorem path_lev (m : Nat) (hm : 1 ≤ m) (bl bv v q l : Nat) (w : World) (h1 : 1 ≤ v) (hv : v < 256) (hq : q = lv v) (hl : l ≤ q + 1) (hB1 : w.cell? ⟨bv, 0, none⟩ = some (.int .i64 (v : Int))) (hB2 : w.cell? ⟨bl, 0, none⟩ = some (.int .i64 (l : Int))) :
    SeqStopsK Fence.wide m Try.prog 135 #[.pointer (some ⟨bl, 0, none⟩), .pointer (some ⟨bv, 0, none⟩)] (lenc v q) (Kp2 bl bv) (fun xs => xs.map (·.1) = lvl l (q + 1 - l)) (fun pre => ∃ k, k ≤ q + 1 - l ∧ pre.map (·.1) = lvl l k) 9 w := fun l' J Jx W hW hJ hJx hYd h0 => by
  have H1 := Lib.hid ((hW.cell (p := ⟨bv, 0, none⟩) (World.block_lt_of_cell? w _ hB1)).trans hB1)
  have H2 := Lib.hid ((hW.cell (p := ⟨bl, 0, none⟩) (World.block_lt_of_cell? w _ hB2)).trans hB2)
  have HLv := Lib.hid (fun w => level_any v w h1 hv)
  have HAt := Lib.hid (fun (i : Nat) (w : World) (hi : i ≤ lv v) => at_any v i w h1 hv hi)
  have HNo := Lib.hid (fun (i : Nat) (hi : i ≤ lv v) => nat_ok v i h1 hv hi)
  have HV := Lib.hid hv
  have hl8 := lv_lt v hv
  rw [← hq] at HLv HAt HNo hl8
  have g0 := H1.out
  have g1 := H2.out
  clear hB1 hB2 hq h1 hv
  refine callsIn_of_wp Try.func135 rfl trivial ?_ rfl
  simp only [Try.ntmps135, List.size_toArray, List.length_cons, List.length_nil, Nat.reduceAdd, Nat.reduceSub, Array.replicate_succ, Array.replicate_zero, List.push_toArray, List.append_toArray, List.nil_append, List.cons_append]
  gi_wp2_with fail
  gi_loopw [4] (fun i wr => ∃ (k : Nat) (pre : List (Lev q)), k ≤ q + 1 - l ∧ i = .int .i64 ((l + k : Nat) : Int) ∧ Hid (pre.map (·.1) = lvl l k) ∧ Hid (J pre wr) ∧ Hid (wr.cell? ⟨bv, 0, none⟩ = some (.int .i64 (v : Int)) ∧ wr.cell? ⟨bl, 0, none⟩ = some (.int .i64 (l : Int)))) (fun i _ => q + 1 - (intOf i).toNat)
  case atStart => exact ⟨0, [], by omega, rfl, Lib.hid rfl, Lib.hid h0, Lib.hid ⟨H1.out, H2.out⟩⟩
  case round =>
    obtain ⟨k, pre, hk, rfl, HP, HJs, HC⟩ := hrel
    clear g0 g1
    have g0 := HC.out.1
    obtain ⟨i, hi⟩ : ∃ i, i = l + k := ⟨_, rfl⟩
    have HI := Lib.hid hi
    rw [← hi]
    by_cases hlt : i ≤ q
    · have hlen : pre.length < 9 := by have := congrArg List.length HP.out; simp [lvl] at this; omega
      have hno := HNo.out i hlt
      have HAi := Lib.hid (fun w => HAt.out i w hlt)
      have HSn : Hid (lvl l (k + 1) = lvl l k ++ [i]) := Lib.hid (by rw [hi]; exact lvl_snoc l k)
      obtain ⟨y, hy0⟩ : ∃ y, y = nat_ v i := ⟨_, rfl⟩
      rw [← hy0] at hno HAi
      obtain ⟨x, hx⟩ : ∃ x : Lev q, x.1 = i := ⟨⟨i, hlt⟩, rfl⟩
      obtain ⟨fn, tmps, assign, body, hy, hR⟩ := hYd pre x wr HJs.out hlen
      have HR := Lib.hid hR
      dsimp only [lenc] at hy
      rw [hx, ← hy0] at hy
      have HX := Lib.hid hx
      have hle' : (i : Int) ≤ (q : Int) := by omega
      clear hx hy0 hR hlen hno hi
      gi_wp2_with fail
      refine ⟨trivial, (callsIn_wide.2 (HLv.out _)).mono ?_⟩
      rintro e w' ⟨rfl, rfl⟩
      gi_wp2_with fail
      refine ⟨trivial, (callsIn_wide.2 (HAi.out _)).mono ?_⟩
      rintro e w' ⟨rfl, rfl⟩
      gi_wp2_with fail
      refine HR.out.mono ?_
      rintro e W3 (⟨rfl, hJ3, hKp⟩ | ⟨rfl, hJx3⟩)
      · have HC3 : Hid (W3.cell? ⟨bv, 0, none⟩ = some (.int .i64 (v : Int)) ∧ W3.cell? ⟨bl, 0, none⟩ = some (.int .i64 (l : Int))) := Lib.hid ⟨(World.cell?_of_block (a := ⟨bv, 0, none⟩) hKp.2).trans HC.out.1, (World.cell?_of_block (a := ⟨bl, 0, none⟩) hKp.1).trans HC.out.2⟩
        clear g0 hKp
        gi_wp2_with fail
        go_roundw
        case rel => exact ⟨k + 1, pre ++ [x], by have := HI.out; omega, by have := HI.out; go_num, Lib.hid (by rw [List.map_append, HP.out, HSn.out]; simp [HX.out]), Lib.hid hJ3, HC3⟩
        case measure => simp [intOf]; omega
      · gi_wp2_with fail
        refine bodyPost_ret (results_none rfl _ _ _) rfl ?_
        exact ⟨⟨_, rfl⟩, .inr ⟨_, ⟨k + 1, by have := HI.out; omega, by rw [List.map_append, HP.out, HSn.out]; simp [HX.out]⟩, hJx3⟩⟩
    · have hle' : (q : Int) < (i : Int) := by omega
      have HK : Hid (k = q + 1 - l) := Lib.hid (by omega)
      clear hi
      gi_wp2_with fail
      refine ⟨trivial, (callsIn_wide.2 (HLv.out _)).mono ?_⟩
      rintro e w' ⟨rfl, rfl⟩
      gi_wp2_with fail
      go_end0
      exact ⟨⟨_, rfl⟩, .inl ⟨pre, by rw [HP.out, HK.out], HJs.out⟩⟩
end Go.Proofs.Ytchkgccnipejhaa

/-
  Children, siblings, leaves, subsets, the program's.
-/
namespace Go.Proofs.Ytchkgccnipejhaa
open Go.RowKit TR
set_option linter.unusedVariables false
set_option linter.unusedSimpArgs false

set_option maxRecDepth 100000 in
set_option maxHeartbeats 400000 in
theorem left_any (v : Nat) (w : World) (hv : v < 256) :
    Calls Try.prog 88 #[.int .i64 (v : Int)] w fun e w' => e = .returned (.int .i64 ((2 * v : Nat) : Int)) ∧ w = w' := by
  go_enter Try.func88, Try.ntmps88
  go_wp2_with fail
  go_ret
  exact ⟨ret_int (by simp), rfl⟩

set_option maxRecDepth 100000 in
set_option maxHeartbeats 400000 in
theorem right_any (v : Nat) (w : World) (hv : v < 256) :
    Calls Try.prog 89 #[.int .i64 (v : Int)] w fun e w' => e = .returned (.int .i64 ((2 * v + 1 : Nat) : Int)) ∧ w = w' := by
  go_enter Try.func89, Try.ntmps89
  go_wp2_with fail
  go_ret
  exact ⟨ret_int (by simp), rfl⟩

theorem infoS : (Try.prog.info? 56).map (·.size) = some 2 := by kernel_rfl
theorem results_sub {fn : Func} {p : Tmp} (h : fn.results = #[.cell p 56]) (tmps : Array Value) (w : World) (b : Nat) (x y : Value)
    (hp : tmps.getD p undef = .pointer (some ⟨b, 0, none⟩)) (h0 : w.cell? ⟨b, 0, none⟩ = some x) (h1 : w.cell? ⟨b, 1, none⟩ = some y) : (results fn tmps).run Try.prog w = .ok (.agg #[x, y]) w := by
  have hp' : tmps[p]?.getD undef = .pointer (some ⟨b, 0, none⟩) := by simpa using hp
  have hc : w.rangeAt b 0 [x, y] := fun j v hv => by
    rw [Nat.zero_add]
    rcases j with _ | _ | j
    · simp at hv; subst hv; exact h0
    · simp at hv; subst hv; exact h1
    · simp at hv
  simp [results, h, hp', asAddr, run_loadVar_mid w b 0 56 [x, y] _ hc Try.underlying56 rfl infoS]
theorem bodyPost_sub {Q : Ending → World → Prop} {fn : Func} {p : Tmp} (h : fn.results = #[.cell p 56]) {a : Act} {w : World} (b : Nat) (x y : Value)
    (hp : a.tmps.getD p undef = .pointer (some ⟨b, 0, none⟩)) (h0 : w.cell? ⟨b, 0, none⟩ = some x) (h1 : w.cell? ⟨b, 1, none⟩ = some y) (hd : a.defers = []) (hq : Q (.returned (.agg #[x, y])) w) : bodyPost Try.prog fn Q .ret a w :=
  bodyPost_ret (results_sub h a.tmps w b x y hp h0 h1) hd hq

set_option maxRecDepth 100000 in
set_option maxHeartbeats 400000 in
theorem subset_any (a b : Int) (w : World) :
    Calls Try.prog 56 #[.int .i64 a, .int .i64 b] w fun e w' => e = .returned (.agg #[.int .i64 a, .int .i64 b]) ∧ Below w.heap.size w w' := by
  go_enter Try.func56, Try.ntmps56
  go_wp2
  exact bodyPost_sub rfl w.heap.size _ _ rfl (by simp) (by simp) rfl ⟨rfl, (Below.refl _ _).alloc (Nat.le_refl _) _⟩

set_option maxRecDepth 100000 in
set_option maxHeartbeats 1000000 in
theorem leaf_any (K E : Int) (d u P Q G : Nat) (w : World) (hd : d < 7) (hu : u < 256) :
    Calls Try.prog 87 #[.agg #[.int .u8 K, .int .i64 (d : Int), .int .i64 E, .int .u64 (P : Int), .int .u64 (Q : Int), .int .u64 (G : Int)], .int .i64 (u : Int)] w fun e w' => e = .returned (.int .i64 ((2 ^ d + u : Nat) : Int)) ∧ Below w.heap.size w w' := by
  have HB : Hid (Below w.heap.size w (w.alloc (.cells #[.int .u8 K, .int .i64 (d : Int), .int .i64 E, .int .u64 (P : Int), .int .u64 (Q : Int), .int .u64 (G : Int)] 45))) := Lib.hid ((Below.refl _ _).alloc (Nat.le_refl _) _)
  rcases (by omega : d = 0 ∨ d = 1 ∨ d = 2 ∨ d = 3 ∨ d = 4 ∨ d = 5 ∨ d = 6) with rfl | rfl | rfl | rfl | rfl | rfl | rfl
  all_goals
    go_enter Try.func87, Try.ntmps87
    go_wp2_with fail
    go_ret
    exact ⟨ret_int (by first | rfl | (simp; done) | (simp; omega)), HB.out⟩

theorem chk_xor : ((List.range 256).all fun x => bits BinOp.xor IntKind.i64 (x : Int) 1 == ((x ^^^ 1 : Nat) : Int)) = true := by decide +kernel
theorem xor_one (x : Nat) (hx : x < 256) : bits BinOp.xor IntKind.i64 (x : Int) 1 = ((x ^^^ 1 : Nat) : Int) := by
  have h := chk_xor
  simp only [List.all_eq_true, List.mem_range] at h
  simpa using h x hx
set_option maxRecDepth 100000 in
set_option maxHeartbeats 400000 in
theorem sibling_any (v : Nat) (w : World) (hv : v < 256) :
    Calls Try.prog 93 #[.int .i64 (v : Int)] w fun e w' => e = .returned (.int .i64 ((v ^^^ 1 : Nat) : Int)) ∧ w = w' := by
  go_enter Try.func93, Try.ntmps93
  go_wp2_with fail
  go_ret
  exact ⟨ret_int (xor_one v hv), rfl⟩
end Go.Proofs.Ytchkgccnipejhaa

/-
  slices.IndexFunc at the method value of isAbove.
-/
namespace Go.Proofs.Ytchkgccnipejhaa
open Go.RowKit TR
set_option linter.unusedVariables false
set_option linter.unusedSimpArgs false

/-- A row of n nodes that may be written. -/
structure RowI (w : World) (b n : Nat) (f : Nat → Nat) : Prop where
  cell : ∀ j, j < n → w.cell? ⟨b, j, none⟩ = some (.int .i64 (f j : Int))
  fr : ∀ j, j < n → w.frozen? ⟨b, j, none⟩ = false
theorem RowI.set {w : World} {b n : Nat} {f : Nat → Nat} (h : RowI w b n f) (j v : Nat) (hj : j < n) : RowI (w.setCell ⟨b, j, none⟩ (.int .i64 (v : Int))) b n (fun i => if i = j then v else f i) where
  cell i hi := by
    by_cases e : i = j
    · subst e
      rw [if_pos rfl, World.cell?_setCell_same _ _ _ (h.cell i hi)]
    · rw [if_neg e, World.cell?_setCell_other _ _ _ _ (fun hh => e (by injection hh with _ h2 _; exact h2.symm))]
      exact h.cell i hi
  fr i hi := by rw [World.frozen?_setCell]; exact h.fr i hi
theorem RowI.below {w w' : World} {m b n : Nat} {f : Nat → Nat} (h : RowI w b n f) (hb : Below m w w') (hn : b < m) : RowI w' b n f where
  cell i hi := by rw [hb.cell (p := ⟨b, i, none⟩) hn]; exact h.cell i hi
  fr i hi := by rw [hb.frozen (p := ⟨b, i, none⟩) hn]; exact h.fr i hi
theorem RowI.ext {w : World} {b n : Nat} {f g : Nat → Nat} (h : RowI w b n f) (e : ∀ i, i < n → f i = g i) : RowI w b n g :=
  ⟨fun i hi => by rw [← e i hi]; exact h.cell i hi, h.fr⟩
theorem own_rowi {w : World} {B n : Nat} {v : Value} {g : Nat → Nat} {t : TypeId} (h : w.ownsRow B t 1 v n (ivs ((List.range n).map g))) (hn : 0 < n) : ∃ b c, v = .slice (some ⟨b, 0, none⟩) n c ∧ B ≤ b ∧ b < w.heap.size ∧ n ≤ c ∧ c ≤ maxLen ∧ RowI w b n g := by
  rcases h.2 with ⟨_, h0⟩ | ⟨b, cap, cur, hv, hb, hg, hnc, hcm, hcs, ht⟩
  · omega
  · refine ⟨b, cap, hv, hb, (Array.getElem?_eq_some_iff.1 hg).1, hnc, hcm, fun i hi => ?_, fun i hi => ?_⟩
    · have hx : (ivs ((List.range n).map g))[i]? = some (.int .i64 (g i : Int)) := by unfold ivs; simp [List.getElem?_map, List.getElem?_range hi]
      rw [cell_of_row _ _ i _ _ _ hg]
      rw [← ht, List.getElem?_take, if_pos (by omega)] at hx
      simpa using hx
    · unfold World.frozen?
      rw [hg]
      simp

/-- The first place at which b is above, or -1. -/
def FirstAt (b n : Nat) (g : Nat → Nat) (k : Int) : Prop := (k = -1 ∧ ∀ j, j < n → abv b (g j) = false) ∨ ∃ m : Nat, k = (m : Int) ∧ m < n ∧ abv b (g m) = true ∧ ∀ j, j < m → abv b (g j) = false

set_option maxRecDepth 100000 in
set_option maxHeartbeats 1000000 in
theorem index_any (b n c B : Nat) (g : Nat → Nat) (w : World) (hb : b < 256) (hn : n ≤ 64) (hg : ∀ j, j < n → 1 ≤ g j ∧ g j < 256) (hc : ∀ j, j < n → w.cell? ⟨B, j, none⟩ = some (.int .i64 (g j : Int))) :
    Calls Try.prog 130 #[.slice (some ⟨B, 0, none⟩) n c, .func (.func 86) #[.int .i64 (b : Int)] #[]] w fun e w' => (∃ k, e = .returned (.int .i64 k) ∧ FirstAt b n g k) ∧ w = w' := by
  have HA := Lib.hid (fun x w h1 h2 => isAbove_any b x w hb h1 h2)
  have HG := Lib.hid hg
  have HC := Lib.hid hc
  clear hg hc hb
  go_enter Try.func130, Try.ntmps130
  go_wp2_with fail
  go_loopw [8] (fun i wr => ∃ (k : Nat), k ≤ n ∧ i = .int .i64 (k : Int) ∧ wr = w ∧ Hid (∀ j, j < k → abv b (g j) = false)) (fun i _ => n - (intOf i).toNat)
  case atStart => exact ⟨0, by omega, rfl, rfl, Lib.hid (fun j h => by omega)⟩
  case round =>
    obtain ⟨k, hk, rfl, hw, HP⟩ := hrel
    subst hw
    by_cases hlt : k < n
    · have hlt' : (k : Int) < (n : Int) := by omega
      have ck := HC.out k hlt
      obtain ⟨g1, g2⟩ := HG.out k hlt
      have HAk := Lib.hid (HA.out (g k) wr g1 g2)
      have HS : Hid (∀ q, q = abv b (g k) → (q = true → FirstAt b n g (k : Int)) ∧ (q = false → ∀ j, j < k + 1 → abv b (g j) = false)) := Lib.hid (fun q hq => ⟨fun h => .inr ⟨k, rfl, hlt, by rw [← hq]; exact h, HP.out⟩, fun h j hj => by
        by_cases e : j = k
        · rw [e, ← hq]; exact h
        · exact HP.out j (by omega)⟩)
      generalize g k = x at ck HAk HS g1 g2
      generalize abv b x = q at HAk HS
      go_wp2_with fail
      refine HAk.out.mono ?_
      rintro e w2 ⟨rfl, rfl⟩
      have hs := HS.out q rfl
      have HS2 := Lib.hid hs
      clear hs HS HAk
      rcases q with _ | _
      · have HP2 := Lib.hid (HS2.out.2 rfl)
        go_wp2_with fail
        go_roundw
        case rel => exact ⟨k + 1, by omega, by go_num, by first | rfl | trivial, HP2⟩
        case measure => simp [intOf]; omega
      · have HF := Lib.hid (HS2.out.1 rfl)
        go_wp2_with fail
        go_ret
        exact ⟨⟨_, rfl, HF.out⟩, rfl⟩
    · obtain rfl : n = k := by omega
      have HF : Hid (FirstAt b n g (-1)) := Lib.hid (.inl ⟨rfl, HP.out⟩)
      go_wp2_with fail
      go_ret
      exact ⟨⟨_, rfl, HF.out⟩, rfl⟩
end Go.Proofs.Ytchkgccnipejhaa

/-
  slices.DeleteFunc at the method value of isAbove.
-/
namespace Go.Proofs.Ytchkgccnipejhaa
open Go.RowKit TR
set_option linter.unusedVariables false
set_option linter.unusedSimpArgs false

/-- Of the first m places' nodes those that b is not above. -/
def kpl (b : Nat) (g : Nat → Nat) (m : Nat) : List Nat := ((List.range m).map g).filter (fun x => !abv b x)
theorem kpl_yes {b m : Nat} {g : Nat → Nat} (h : abv b (g m) = false) : kpl b g (m + 1) = kpl b g m ++ [g m] := by
  unfold kpl; rw [List.range_succ, List.map_append, List.filter_append]; simp [h]
theorem kpl_no {b m : Nat} {g : Nat → Nat} (h : abv b (g m) = true) : kpl b g (m + 1) = kpl b g m := by
  unfold kpl; rw [List.range_succ, List.map_append, List.filter_append]; simp [h]
theorem kpl_all {b : Nat} {g : Nat → Nat} : ∀ m : Nat, (∀ j, j < m → abv b (g j) = false) → kpl b g m = (List.range m).map g
  | 0, _ => rfl
  | m + 1, h => by rw [kpl_yes (h m (by omega)), kpl_all m (fun j hj => h j (by omega)), List.range_succ, List.map_append]; rfl
theorem below_setCells {n : Nat} {w : World} (b : Nat) : ∀ (vs : List Value) (o : Nat) (w' : World), Below n w w' → n ≤ b → Below n w (w'.setCells b o vs)
  | [], _, _, h, _ => h
  | v :: r, o, w', h, hb => by
    rw [World.setCells]
    exact below_setCells b r (o + 1) _ (h.setCell (p := ⟨b, o, none⟩) hb _) hb

/-- m places have been looked at: i nodes are kept. -/
structure Kpt (b n : Nat) (g : Nat → Nat) (i m : Nat) (F : Nat → Nat) : Prop where
  lt : i < m
  le : m ≤ n
  len : (kpl b g m).length = i
  low : ∀ t, t < i → (kpl b g m)[t]? = some (F t)
  high : ∀ t, m ≤ t → t < n → F t = g t
theorem Kpt.start {b n m : Nat} {g : Nat → Nat} (h : ∀ j, j < m → abv b (g j) = false) (hm : m < n) (ht : abv b (g m) = true) : Kpt b n g m (m + 1) g where
  lt := by omega
  le := by omega
  len := by rw [kpl_no ht, kpl_all m h]; simp
  low t h2 := by rw [kpl_no ht, kpl_all m h]; simp [List.getElem?_map, List.getElem?_range h2]
  high t _ _ := rfl
theorem Kpt.keep {b n i m : Nat} {g F : Nat → Nat} (h : Kpt b n g i m F) (hm : m < n) (ht : abv b (g m) = false) : Kpt b n g (i + 1) (m + 1) (fun t => if t = i then g m else F t) where
  lt := by have := h.lt; omega
  le := by omega
  len := by rw [kpl_yes ht]; simp [h.len]
  low t h2 := by
    rw [kpl_yes ht]
    by_cases e : t = i
    · subst e
      rw [List.getElem?_append_right (by rw [h.len]; exact Nat.le_refl _), h.len, Nat.sub_self]; simp
    · rw [List.getElem?_append_left (by rw [h.len]; omega), h.low t (by omega)]; simp [e]
  high t h1 h2 := by
    have := h.lt
    show (if t = i then g m else F t) = g t
    rw [if_neg (by omega)]; exact h.high t (by omega) h2
theorem Kpt.skip {b n i m : Nat} {g F : Nat → Nat} (h : Kpt b n g i m F) (hm : m < n) (ht : abv b (g m) = true) : Kpt b n g i (m + 1) F where
  lt := by have := h.lt; omega
  le := by omega
  len := by rw [kpl_no ht]; exact h.len
  low t h2 := by rw [kpl_no ht]; exact h.low t h2
  high t h1 h2 := h.high t (by omega) h2

/-- What a slice of nodes reads. -/
def NodesAt (w : World) (B : Nat) (l : List Nat) : Prop := ∀ (t x : Nat), l[t]? = some x → w.cell? ⟨B, t, none⟩ = some (.int .i64 (x : Int))

set_option maxRecDepth 100000 in
set_option maxHeartbeats 2000000 in
theorem delete_any (b n c B N : Nat) (g : Nat → Nat) (w : World) (hb : b < 256) (hn : n ≤ 64) (hnc : n ≤ c) (hg : ∀ j, j < n → 1 ≤ g j ∧ g j < 256) (hR : RowI w B n g) (hN : N ≤ B) :
    Calls Try.prog 85 #[.slice (some ⟨B, 0, none⟩) n c, .func (.func 86) #[.int .i64 (b : Int)] #[]] w fun e w' => (e = .returned (.slice (some ⟨B, 0, none⟩) (kpl b g n).length c) ∧ NodesAt w' B (kpl b g n)) ∧ Below N w w' := by
  have HI := Lib.hid (index_any b n c B g w hb hn hg hR.cell)
  have HA := Lib.hid (fun x w h1 h2 => isAbove_any b x w hb h1 h2)
  have HG := Lib.hid hg
  have HR0 := Lib.hid hR
  have HN := Lib.hid hN
  clear hg hb hR hN
  go_enter Try.func85, Try.ntmps85
  go_wp2_with fail
  refine HI.out.mono ?_
  rintro e w2 ⟨⟨k, rfl, hk⟩, rfl⟩
  rcases hk with ⟨rfl, hall⟩ | ⟨k0, rfl, hk0, ht, hall⟩
  · have HK : Hid (kpl b g n = (List.range n).map g) := Lib.hid (kpl_all n hall)
    have HL : Hid ((kpl b g n).length = n) := Lib.hid (by rw [HK.out]; simp)
    have HF : Hid (NodesAt w B (kpl b g n)) := Lib.hid (fun t x hx => by
      rw [HK.out] at hx
      have ht : t < n := by have := (List.getElem?_eq_some_iff.1 hx).1; simpa using this
      simp [List.getElem?_map, List.getElem?_range ht] at hx
      rw [← hx]; exact HR0.out.cell t ht)
    clear hall HI
    go_wp2_with fail
    go_ret
    exact ⟨⟨by first | (rw [HL.out]; done) | (rw [HL.out]; rfl), HF.out⟩, Below.refl _ _⟩
  · have HS := Lib.hid (Kpt.start hall hk0 ht)
    clear hall ht HI
    have hne : ((k0 : Int) == -1) = false := beq_eq_false_iff_ne.2 (by omega)
    go_wp2_with fail
    go_loopw [5, 6] (fun x y wr => ∃ (i j : Nat) (F : Nat → Nat), x = .int .i64 (i : Int) ∧ y = .int .i64 (j : Int) ∧ j ≤ n ∧ Hid (Kpt b n g i j F) ∧ Hid (RowI wr B n F) ∧ Hid (Below N w wr)) (fun _ y _ => n - (intOf y).toNat)
    case atStart => exact ⟨k0, k0 + 1, g, rfl, by go_num, by omega, HS, HR0, Lib.hid (Below.refl _ _)⟩
    case round =>
      obtain ⟨i, j, F, rfl, rfl, hj, HP, HRw, HB⟩ := hrel
      have hij := HP.out.lt
      by_cases hlt : j < n
      · have hlt' : (j : Int) < (n : Int) := by omega
        have ck := HRw.out.cell j hlt
        have ci := HRw.out.cell i (by omega)
        have fi := HRw.out.fr i (by omega)
        rw [HP.out.high j (Nat.le_refl _) hlt] at ck
        obtain ⟨g1, g2⟩ := HG.out j hlt
        have HAk := Lib.hid (HA.out (g j) wr g1 g2)
        have HX : Hid (∀ q x, q = abv b (g j) → x = g j → (q = true → Kpt b n g i (j + 1) F) ∧ (q = false → Kpt b n g (i + 1) (j + 1) (fun t => if t = i then x else F t))) := Lib.hid (fun q x hq hx => ⟨fun h => HP.out.skip hlt (by rw [← hq]; exact h), fun h => by rw [hx]; exact HP.out.keep hlt (by rw [← hq]; exact h)⟩)
        obtain ⟨x, hx⟩ : ∃ x, x = g j := ⟨_, rfl⟩
        obtain ⟨q, hq⟩ : ∃ q, q = abv b (g j) := ⟨_, rfl⟩
        have HX2 := Lib.hid (HX.out q x hq hx)
        rw [← hx] at ck HAk hq g1 g2
        rw [← hq] at HAk
        have HSt := Lib.hid (HRw.out.set i x (by omega))
        generalize F i = old at ci
        clear hx hq HX g1 g2
        go_wp2_with fail
        refine HAk.out.mono ?_
        rintro e w3 ⟨rfl, rfl⟩
        clear HAk
        rcases q with _ | _
        · have HP2 := Lib.hid (HX2.out.2 rfl)
          go_wp2_with fail
          go_roundw
          case rel => exact ⟨i + 1, j + 1, _, by go_num, by go_num, by omega, HP2, HSt, Lib.hid (HB.out.setCell (p := ⟨B, i, none⟩) HN.out _)⟩
          case measure => simp [intOf]; omega
        · have HP2 := Lib.hid (HX2.out.1 rfl)
          go_wp2_with fail
          go_roundw
          case rel => exact ⟨i, j + 1, F, rfl, by go_num, by omega, HP2, HRw, HB⟩
          case measure => simp [intOf]; omega
      · obtain rfl : n = j := by omega
        have HL : Hid ((kpl b g n).length = i) := Lib.hid HP.out.len
        have hcl : ∀ ty, (Builtin.clear_ #[139] ty #[.slice (some ⟨B, 0 + i, none⟩) (n - i) (c - i)]).run Try.prog wr = .ok (.tuple #[]) (wr.setCells B (0 + i) (List.replicate (n - i) (.int .i64 0))) :=
          fun ty => Lib.run_clear_slice wr _ _ ty (.int .i64 0) Try.underlying139 Try.zeroValue113 rfl rfl B (0 + i) _ _ (by omega) (fun t ht => by rw [show 0 + i + t = i + t by omega, HRw.out.cell (i + t) (by omega)]; rfl) (fun t ht => by rw [show 0 + i + t = i + t by omega]; exact HRw.out.fr (i + t) (by omega))
        rw [Nat.zero_add] at hcl
        have HE : Hid (NodesAt (wr.setCells B i (List.replicate (n - i) (.int .i64 0))) B (kpl b g n) ∧ Below N w (wr.setCells B i (List.replicate (n - i) (.int .i64 0)))) := Lib.hid ⟨fun t x hx => by
          have ht : t < i := by have := (List.getElem?_eq_some_iff.1 hx).1; rw [HL.out] at this; exact this
          rw [World.cell?_setCells_out B _ i wr ⟨B, t, none⟩ (fun _ _ => .inl ht), HRw.out.cell t (by omega)]
          have := HP.out.low t ht
          rw [this] at hx
          injection hx with hx
          rw [hx], below_setCells _ _ _ _ HB.out HN.out⟩
        clear HP HS HR0
        go_wp2_with fail
        go_ret
        exact ⟨⟨by first | (rw [HL.out]; done) | (rw [HL.out]; rfl), HE.out.1⟩, HE.out.2⟩
end Go.Proofs.Ytchkgccnipejhaa

/-
  Members: what the program leaves is what the specification says.
-/
namespace Go.Proofs.Ytchkgccnipejhaa
open Go.RowKit TR
set_option linter.unusedVariables false

/-- The leaf of a place below v. -/
def lfa (d v i : Nat) : Nat := v * 2 ^ (d - lv v) + i
theorem lvs_lfa (d v : Nat) : lvs d v = (List.range (2 ^ (d - lv v))).map (lfa d v) := rfl
theorem mem_kpl (d v b : Nat) (hd : d < 7) (hv : v < 2 ^ (d + 1)) (h1 : 1 ≤ v) : mem_ d v b = (kpl b (lfa d v) (2 ^ (d - lv v))).map (fun l => l - 2 ^ d) := by
  obtain ⟨e, hl⟩ := mem_lvs d v hd hv h1
  have e1 : mem_ d v b = ((List.range (2 ^ d)).filter fun u => abv v (2 ^ d + u)).filter fun u => !(abv b (2 ^ d + u)) := by
    unfold mem_
    rw [List.filter_filter]
    congr 1
    funext u
    exact Bool.and_comm _ _
  rw [e1, e, List.filter_map]
  unfold kpl
  rw [← lvs_lfa]
  congr 1
  refine List.filter_congr fun l h => ?_
  show (!abv b (2 ^ d + (l - 2 ^ d))) = !abv b l
  rw [show 2 ^ d + (l - 2 ^ d) = l by have := hl l h; omega]
theorem kpl_len (b m : Nat) (g : Nat → Nat) : (kpl b g m).length ≤ m := by
  unfold kpl; have := List.length_filter_le (fun x => !abv b x) ((List.range m).map g); simpa using this
theorem kpl_leaf (d v b : Nat) (hd : d < 7) (hv : v < 2 ^ (d + 1)) (h1 : 1 ≤ v) : ∀ l ∈ kpl b (lfa d v) (2 ^ (d - lv v)), 2 ^ d ≤ l := fun l h => by
  unfold kpl at h
  rw [← lvs_lfa] at h
  exact (mem_lvs d v hd hv h1).2 l (List.mem_filter.1 h).1
theorem chk_lfa : ((List.range 7).all fun d => (List.range (2 ^ (d + 1))).all fun v => v == 0 || (List.range (2 ^ (d - lv v))).all fun i => decide (1 ≤ lfa d v i ∧ lfa d v i < 128)) = true := by decide +kernel
theorem lfa_lt (d v i : Nat) (hd : d < 7) (hv : v < 2 ^ (d + 1)) (h1 : 1 ≤ v) (hi : i < 2 ^ (d - lv v)) : 1 ≤ lfa d v i ∧ lfa d v i < 128 := by
  have h := chk_lfa
  simp only [List.all_eq_true, List.mem_range] at h
  have := h d hd v hv
  simp only [Bool.or_eq_true, beq_iff_eq, List.all_eq_true, List.mem_range, decide_eq_true_eq] at this
  rcases this with h0 | h2
  · omega
  · exact h2 i hi
theorem chk_ht : ((List.range 7).all fun d => (List.range (2 ^ (d + 1))).all fun v => v == 0 || decide (lv v ≤ d ∧ 1 ≤ 2 ^ (d - lv v) ∧ 2 ^ (d - lv v) ≤ 64)) = true := by decide +kernel
theorem ht_le (d v : Nat) (hd : d < 7) (hv : v < 2 ^ (d + 1)) (h1 : 1 ≤ v) : lv v ≤ d ∧ 1 ≤ 2 ^ (d - lv v) ∧ 2 ^ (d - lv v) ≤ 64 := by
  have h := chk_ht
  simp only [List.all_eq_true, List.mem_range] at h
  have := h d hd v hv
  simp only [Bool.or_eq_true, beq_iff_eq, decide_eq_true_eq] at this
  rcases this with h0 | h2
  · omega
  · exact h2
end Go.Proofs.Ytchkgccnipejhaa

/-
  Members, the program's.
-/
namespace Go.Proofs.Ytchkgccnipejhaa
open Go.RowKit TR
set_option linter.unusedVariables false
set_option linter.unusedSimpArgs false

theorem sbc_zero {K D E a b : Int} {P Q G : Nat} (h : sbc K D E P Q G a b = 0) : ScOk K D E P Q G ∧ ∃ d v x : Nat, D = (d : Int) ∧ a = (v : Int) ∧ b = (x : Int) ∧ d < 7 ∧ 1 ≤ v ∧ v < 2 ^ (d + 1) ∧ v < 128 ∧ x < 128 := by
  unfold sbc at h
  by_cases hs : ScOk K D E P Q G
  · rw [scb_yes hs] at h
    have hd0 := hs.2.2.1
    have hd6 := hs.2.2.2.1
    obtain ⟨d, rfl⟩ := Int.eq_ofNat_of_zero_le hd0
    simp only [Int.toNat_natCast, if_true] at h
    cases hi : isb K d a b with
    | false => simp [hi] at h
    | true =>
      unfold isb at hi
      rw [Bool.and_eq_true] at hi
      obtain ⟨h1, h2⟩ := hi
      obtain ⟨v, rfl, v1, v2, v3⟩ := hsn_nat (by omega) h1
      have hb : b = 0 ∨ hsn d b = true := by
        by_cases k1 : K = 1
        · rw [if_pos k1] at h2; exact .inl (of_decide_eq_true h2)
        · rw [if_neg k1] at h2
          by_cases b0 : b = 0
          · exact .inl b0
          · rw [if_neg b0, Bool.and_eq_true] at h2; exact .inr h2.1
      rcases hb with rfl | hb
      · exact ⟨hs, d, v, 0, rfl, rfl, rfl, by omega, v1, v2, v3, by omega⟩
      · obtain ⟨x, rfl, _, _, x3⟩ := hsn_nat (by omega) hb
        exact ⟨hs, d, v, x, rfl, rfl, rfl, by omega, v1, v2, v3, x3⟩
  · rw [scb_no hs] at h; simp at h

theorem kpl_lt {b m : Nat} {g : Nat → Nat} (h : ∀ i, i < m → g i < 128) : ∀ l ∈ kpl b g m, l < 128 := fun l hl => by
  unfold kpl at hl
  obtain ⟨i, hi, rfl⟩ := List.mem_map.1 (List.mem_filter.1 hl).1
  exact h i (List.mem_range.1 hi)
theorem ivs_ext {m : Nat} {xs : List Value} {l : List Nat} (hl : l.length = m) (hx : xs.length = m) (h : ∀ t y, t < m → l[t]? = some y → xs[t]? = some (.int .i64 (y : Int))) : xs = ivs l := by
  apply List.ext_getElem?
  intro t
  by_cases ht : t < m
  · have e : l[t]? = some l[t] := List.getElem?_eq_getElem (by omega)
    rw [h t _ ht e]; unfold ivs; rw [List.getElem?_map, e]; rfl
  · rw [List.getElem?_eq_none (by omega), List.getElem?_eq_none (by unfold ivs; rw [List.length_map]; omega)]

set_option maxRecDepth 100000 in
set_option maxHeartbeats 2000000 in
theorem members_any (K D E a b : Int) (P Q G : Nat) (w : World) (hK0 : 0 ≤ K) (hK1 : K ≤ 255) :
    Calls Try.prog 37 #[.agg #[.int .u8 K, .int .i64 D, .int .i64 E, .int .u64 (P : Int), .int .u64 (Q : Int), .int .u64 (G : Int)], .agg #[.int .i64 a, .int .i64 b]] w fun e w' => (∃ u, e = .returned (.tuple #[u, .int .i64 (sbc K D E P Q G a b)]) ∧ (sbc K D E P Q G a b ≠ 0 → u = .slice none 0 0) ∧ (sbc K D E P Q G a b = 0 → w'.ownsRow w.heap.size 3 1 u (mem_ D.toNat a.toNat b.toNat).length (ivs (mem_ D.toNat a.toNat b.toNat)))) ∧ Below w.heap.size w w' := by
  obtain ⟨i0, hi, hz0, hz1, hz2⟩ := info_parts infoI
  obtain ⟨N, hN⟩ : ∃ N, N = w.heap.size := ⟨_, rfl⟩
  obtain ⟨W2, hW2⟩ : ∃ W2, W2 = (w.alloc (.cells #[.int .u8 K, .int .i64 D, .int .i64 E, .int .u64 (P : Int), .int .u64 (Q : Int), .int .u64 (G : Int)] 45)).alloc (.cells #[.int .i64 a, .int .i64 b] 56) := ⟨_, rfl⟩
  have HB2 : Hid (Below N w W2) := Lib.hid (by rw [hW2, hN]; exact ((Below.refl _ _).alloc (Nat.le_refl _) _).alloc (by simp) _)
  have HS2 : Hid (W2.heap.size = N + 2) := Lib.hid (by rw [hW2, hN]; simp)
  have HEnv : Hid (∀ w1, Below (N + 2) W2 w1 → SchAt w1 N K D E P Q G ∧ (w1.cell? ⟨N + 1, 0, none⟩ = some (.int .i64 a) ∧ w1.cell? ⟨N + 1, 1, none⟩ = some (.int .i64 b)) ∧ Below N w w1) := Lib.hid (fun w1 h => by
    have s : SchAt W2 N K D E P Q G := by rw [hW2, hN]; exact (SchAt.new w K D E P Q G _).below ((Below.refl _ _).alloc (Nat.le_refl _) _) (by simp)
    have c : ∀ j v, #[Value.int .i64 a, Value.int .i64 b][j]? = some v → W2.cell? ⟨N + 1, j, none⟩ = some v := fun j v hv => by
      have h := heap_alloc_new (w.alloc (.cells #[.int .u8 K, .int .i64 D, .int .i64 E, .int .u64 (P : Int), .int .u64 (Q : Int), .int .u64 (G : Int)] 45)) (.cells #[.int .i64 a, .int .i64 b] 56)
      rw [← hW2, World.size_alloc, ← hN] at h
      rw [cell_of_row _ _ j _ _ _ h]; exact hv
    exact ⟨s.below h (by omega), ⟨(h.cell (p := ⟨N + 1, 0, none⟩) (by show N + 1 < N + 2; omega)).trans (c 0 _ rfl), (h.cell (p := ⟨N + 1, 1, none⟩) (by show N + 1 < N + 2; omega)).trans (c 1 _ rfl)⟩, HB2.out.trans (h.mono (by omega))⟩)
  have HC := Lib.hid (fun w => checkSubset_any K D E a b P Q G w hK0 hK1)
  have HZ := Lib.hid (fun h => sbc_zero (K := K) (D := D) (E := E) (a := a) (b := b) (P := P) (Q := Q) (G := G) h)
  have HN := Lib.hid hN
  have HW := Lib.hid hW2
  rw [← hN]
  obtain ⟨⟨c0, c1, c2, c3, c4, c5⟩, ⟨z0, z1⟩, _⟩ := HEnv.out W2 (Below.refl _ _)
  rw [hW2, hN] at c0 c1 c2 c3 c4 c5 z0 z1
  clear hN hW2 hK0 hK1
  go_enter Try.func37, Try.ntmps37
  go_wp2_with fail
  rw [← HW.out, ← HN.out]
  refine (HC.out _).mono ?_
  rintro e w3 ⟨rfl, hb3⟩
  have HB3 : Hid (Below (N + 2) W2 w3 ∧ N + 2 ≤ w3.heap.size) := Lib.hid ⟨hb3.mono (by rw [HS2.out]; exact Nat.le_refl _), by rw [← HS2.out]; exact hb3.size⟩
  have HE3 : Hid (Below N w w3) := Lib.hid (HEnv.out w3 HB3.out.1).2.2
  clear hb3 c0 c1 c2 c3 c4 c5 z0 z1
  obtain ⟨r, hr⟩ : ∃ r, r = sbc K D E P Q G a b := ⟨_, rfl⟩
  have HR := Lib.hid hr
  rw [← hr]
  by_cases h : r = 0
  · obtain ⟨hs, d, v, x, rfl, rfl, rfl, hd, v1, v2, v3, hx⟩ := HZ.out (by rw [← hr]; exact h)
    subst h
    clear hr
    obtain ⟨ht1, ht2, ht3⟩ := ht_le d v hd v2 v1
    have HLv := Lib.hid (fun w => leaves_any v d w hd v1 v2 ht1)
    have HMk := Lib.hid (mem_kpl d v x hd v2 v1)
    have HLf : Hid (∀ w, Calls Try.prog 87 #[.agg #[.int .u8 K, .int .i64 (d : Int), .int .i64 E, .int .u64 (P : Int), .int .u64 (Q : Int), .int .u64 (G : Int)], .int .i64 0] w fun e w' => e = .returned (.int .i64 ((2 ^ d : Nat) : Int)) ∧ Below w.heap.size w w') := Lib.hid (fun w => leaf_any K E d 0 P Q G w hd (by omega))
    have HLl := Lib.hid (fun i h => lfa_lt d v i hd v2 v1 h)
    have HKl := Lib.hid (kpl_leaf d v x hd v2 v1)
    have HKn := Lib.hid (kpl_len x (2 ^ (d - lv v)) (lfa d v))
    have HD := Lib.hid (fun c B N w h1 h2 h3 h4 => delete_any x (2 ^ (d - lv v)) c B N (lfa d v) w (by omega) ht3 h1 h2 h3 h4)
    have HLs := Lib.hid (lvs_lfa d v)
    obtain ⟨T, hT⟩ : ∃ T, T = 2 ^ (d - lv v) := ⟨_, rfl⟩
    rw [← hT] at HLv HMk HLl HKl HKn HD HLs ht2 ht3
    clear hT hs ht1
    obtain ⟨⟨c0, c1, c2, c3, c4, c5⟩, ⟨z0, z1⟩, _⟩ := HEnv.out w3 HB3.out.1
    go_wp2_with fail
    refine (HLv.out _).mono ?_
    rintro e w4 ⟨⟨u4, rfl, ho4⟩, hb4⟩
    rw [HLs.out] at ho4
    obtain ⟨B, c, rfl, hB1, hB2, hnc, hcm, hR4⟩ := own_rowi ho4 ht2
    have HD4 := Lib.hid (HD.out c B (N + 2) w4 hnc (fun j h => by have := HLl.out j h; omega) hR4 (by have := HB3.out.2; omega))
    have HB4 : Hid (Below (N + 2) W2 w4 ∧ B < w4.heap.size ∧ N + 2 ≤ w4.heap.size) := Lib.hid ⟨HB3.out.1.trans (hb4.mono HB3.out.2), hB2, Nat.le_trans HB3.out.2 hb4.size⟩
    clear c0 c1 c2 c3 c4 c5 z0 z1 hb4 ho4 hR4 hB1 hB2 HD HLv
    obtain ⟨⟨c0, c1, c2, c3, c4, c5⟩, ⟨z0, z1⟩, _⟩ := HEnv.out w4 HB4.out.1
    go_wp2_with fail
    refine HD4.out.mono ?_
    rintro e w5 ⟨⟨rfl, hn5⟩, hb5⟩
    obtain ⟨l, hl⟩ : ∃ l, l = kpl x (lfa d v) T := ⟨_, rfl⟩
    have HLk := Lib.hid hl
    rw [← hl] at HMk HKl HKn hn5 ⊢
    have HB5 : Hid (Below (N + 2) W2 w5 ∧ N + 2 ≤ w5.heap.size) := Lib.hid ⟨HB4.out.1.trans hb5, Nat.le_trans HB4.out.2.2 hb5.size⟩
    have HBs : Hid (B < w5.heap.size) := Lib.hid (Nat.lt_of_lt_of_le HB4.out.2.1 hb5.size)
    have HNd := Lib.hid hn5
    have HD2 := Lib.hid (p64 hd)
    obtain ⟨m, hm⟩ : ∃ m, m = l.length := ⟨_, rfl⟩
    have hmT : m ≤ T := by rw [hm]; exact HKn.out
    have HLen := Lib.hid hm
    rw [← hm]
    clear hb5 hn5 hl hm c0 c1 c2 c3 c4 c5 z0 z1 HD4
    have hN5 : N ≤ w5.heap.size := by have := HB5.out.2; omega
    go_wp2_with (first
      | (at_make; refine wpList_make_full _ rfl _ _ 46 rfl N 3 i0 _ 1 Try.underlying46 hi hz0 hz1 .i64 .i64 _ _ m rfl rfl rfl rfl (by rw [hz2]; omega) (by unfold maxLen; omega) hN5 ?_; intro w6 hown6 hg6))
    have HB6 : Hid (Below w5.heap.size w5 w6 ∧ w5.heap.size ≤ w6.heap.size) := Lib.hid ⟨(Below.refl _ _).grown hg6 (Nat.le_refl _) (by simp), hg6.size⟩
    obtain ⟨S, hS⟩ : ∃ S, S = w5.heap.size := ⟨_, rfl⟩
    rw [← hS] at HB5 HBs HB6 hown6 hN5 ⊢
    have HO6 := Lib.hid hown6
    clear hown6 hg6 hS
    have HKm : Hid (∀ y ∈ l, y < 128) := Lib.hid (by rw [HLk.out]; exact kpl_lt (fun i h => (HLl.out i h).2))
    have HLt : Hid (∀ k, k < m → ∃ y, l[k]? = some y ∧ 2 ^ d ≤ y ∧ y < 128) := Lib.hid (fun k hk => by
      have hk2 : k < l.length := by rw [← HLen.out]; exact hk
      exact ⟨l[k], List.getElem?_eq_getElem hk2, HKl.out _ (List.getElem_mem hk2), HKm.out _ (List.getElem_mem hk2)⟩)
    obtain ⟨D2, hD2⟩ : ∃ D2, D2 = 2 ^ d := ⟨_, rfl⟩
    rw [← hD2] at HMk HLf HLt HD2
    have hD3 := HD2.out
    clear hD2 HKl HKm HLl HLk
    go_loopw [32] (fun i wr => ∃ (k : Nat) (xs : List Value), k ≤ m ∧ i = .int .i64 (k : Int) ∧ Hid (wr.ownsRow N 3 1 (.slice (some ⟨S, 0, none⟩) m m) m xs) ∧ Hid (∀ t y, t < k → l[t]? = some y → xs[t]? = some (.int .i64 ((y - D2 : Nat) : Int))) ∧ Hid (Below S w5 wr ∧ S ≤ wr.heap.size)) (fun i _ => m - (intOf i).toNat)
    case atStart => exact ⟨0, _, by omega, rfl, HO6, Lib.hid (fun t y h => by omega), HB6⟩
    case round =>
      obtain ⟨k, xs, hk, rfl, HO, HX, HBr⟩ := hrel
      have HBw : Hid (Below (N + 2) W2 wr) := Lib.hid (HB5.out.1.trans (HBr.out.1.mono HB5.out.2))
      by_cases hlt : k < m
      · have hlt' : (k : Int) < (m : Int) := by omega
        obtain ⟨y, hy, hy1, hy2⟩ := HLt.out k hlt
        have HY := Lib.hid hy
        have ck : wr.cell? ⟨B, k, none⟩ = some (.int .i64 (y : Int)) := (HBr.out.1.cell (p := ⟨B, k, none⟩) HBs.out).trans (HNd.out k y hy)
        clear hy
        obtain ⟨⟨c0, c1, c2, c3, c4, c5⟩, _, _⟩ := HEnv.out wr HBw.out
        go_wp2_with fail
        refine (HLf.out _).mono ?_
        rintro e w7 ⟨rfl, hb7⟩
        have HO7 := Lib.hid (own_below HO.out hb7)
        have HB7 : Hid (Below S w5 w7 ∧ S ≤ w7.heap.size) := Lib.hid ⟨HBr.out.1.trans (hb7.mono HBr.out.2), Nat.le_trans HBr.out.2 hb7.size⟩
        have hxl : xs.length = m := by have := HO7.out.1; omega
        have HXl := Lib.hid hxl
        have cS : w7.cell? ⟨S, k, none⟩ = some xs[k] := by
          obtain ⟨g, c', e1, _, _, _, h5⟩ := own_slice2 HO7.out (by omega)
          injection e1 with e1 _ _; injection e1 with e1; injection e1 with e1 _ _
          rw [e1]; exact h5 k _ (List.getElem?_eq_getElem (by omega))
        have fS := HO7.out.frozenAt k
        have HSt := Lib.hid (HO7.out.stored k (.int .i64 ((y - D2 : Nat) : Int)))
        have hsub : ((y : Int) - (D2 : Int)) = ((y - D2 : Nat) : Int) := by omega
        generalize xs[k] = old at cS
        clear c0 c1 c2 c3 c4 c5 ck hb7 hxl
        obtain ⟨q, hq⟩ : ∃ q, q = y - D2 := ⟨_, rfl⟩
        rw [← hq] at HSt hsub
        have HQ := Lib.hid hq
        clear hq
        go_wp2_with fail
        go_roundw
        case rel => exact ⟨k + 1, _, by omega, by go_num, Lib.hid HSt.out.1, Lib.hid (fun t y2 h1 h2 => by
          by_cases e : t = k
          · subst e
            rw [HY.out] at h2; injection h2 with h2
            rw [List.getElem?_set_self (by rw [HXl.out]; exact hlt), HQ.out, h2]
          · rw [List.getElem?_set_ne (by omega)]
            exact HX.out t y2 (by omega) h2), Lib.hid ⟨HB7.out.1.setCell (p := ⟨S, k, none⟩) (Nat.le_refl _) _, by rw [World.size_setCell]; exact HB7.out.2⟩⟩
        case measure => simp [intOf]; omega
      · obtain rfl : m = k := by omega
        have HE : Hid (wr.ownsRow N 3 1 (.slice (some ⟨S, 0, none⟩) m m) (mem_ (d : Int).toNat (v : Int).toNat (x : Int).toNat).length (ivs (mem_ (d : Int).toNat (v : Int).toNat (x : Int).toNat))) := Lib.hid (by
          simp only [Int.toNat_natCast]
          have hx2 : xs = ivs (l.map (fun l => l - D2)) := ivs_ext (m := m) (by rw [List.length_map]; exact HLen.out.symm) (by have := HO.out.1; omega) (fun t y ht hy => by
            rw [List.getElem?_map] at hy
            obtain ⟨y0, hy0, rfl⟩ := Option.map_eq_some_iff.1 hy
            exact HX.out t y0 ht hy0)
          rw [HMk.out, List.length_map, ← HLen.out, ← hx2]
          exact HO.out)
        have HBe := Lib.hid (HEnv.out wr HBw.out).2.2
        clear HO HX HBr HBw
        go_wp2_with fail
        go_ret2
        exact ⟨⟨_, by first | (rw [← HR.out]; done) | (rw [← HR.out]; rfl), fun h2 => absurd HR.out.symm h2, fun _ => HE.out⟩, HBe.out⟩
  · have HF : Hid (Below N w w3) := HE3
    have hne : (r == 0) = false := beq_eq_false_iff_ne.2 h
    clear hr
    go_wp2_with fail
    go_ret2
    exact ⟨⟨_, by first | (rw [← HR.out]; done) | (rw [← HR.out]; rfl), fun _ => rfl, fun h2 => absurd (HR.out.trans h2) h⟩, HF.out⟩
end Go.Proofs.Ytchkgccnipejhaa

/-
  Check and Members, the specification's.
-/
namespace Go.Proofs.Ytchkgccnipejhaa
open Go.RowKit TR
set_option linter.unusedVariables false
set_option linter.unusedSimpArgs false

theorem own_mono {w : World} {B B' e s n : Nat} {v : Value} {xs : List Value} (h : w.ownsRow B e s v n xs) (hb : B' ≤ B) : w.ownsRow B' e s v n xs :=
  ⟨h.1, h.2.imp id fun ⟨g, cap, cur, h1, h2, r⟩ => ⟨g, cap, cur, h1, Nat.le_trans hb h2, r⟩⟩

set_option maxRecDepth 100000 in
set_option maxHeartbeats 1000000 in
theorem refCheck_any (K D E : Int) (P Q G : Nat) (w : World) (hK0 : 0 ≤ K) (hK1 : K ≤ 255) :
    Calls Try.prog 101 #[.agg #[.int .u8 K, .int .i64 D, .int .i64 E, .int .u64 (P : Int), .int .u64 (Q : Int), .int .u64 (G : Int)]] w fun e w' => e = .returned (.int .i64 (scc K D E P Q G)) ∧ Below w.heap.size w w' := by
  obtain ⟨N, hN⟩ : ∃ N, N = w.heap.size := ⟨_, rfl⟩
  obtain ⟨W1, hW1⟩ : ∃ W1, W1 = w.alloc (.cells #[.int .u8 K, .int .i64 D, .int .i64 E, .int .u64 (P : Int), .int .u64 (Q : Int), .int .u64 (G : Int)] 45) := ⟨_, rfl⟩
  have HB1 : Hid (Below N w W1 ∧ N ≤ W1.heap.size) := Lib.hid ⟨by rw [hW1, hN]; exact (Below.refl _ _).alloc (Nat.le_refl _) _, by rw [hW1, hN]; simp⟩
  have HV := Lib.hid (fun w => refValid_any K D E P Q G w hK0 hK1)
  have HN := Lib.hid hN
  have HW := Lib.hid hW1
  rw [← hN]
  clear hN hW1 hK0 hK1
  go_enter Try.func101, Try.ntmps101
  go_wp2_with fail
  rw [← HW.out]
  refine (HV.out _).mono ?_
  rintro e w2 ⟨rfl, hb2⟩
  have HB2 : Hid (Below N w w2) := Lib.hid (HB1.out.1.trans (hb2.mono HB1.out.2))
  clear hb2 HB1 HW HV
  have HS : Hid (scc K D E P Q G = if scb K D E P Q G = true then 0 else 30) := Lib.hid (by
    by_cases h : ScOk K D E P Q G
    · rw [scc_yes h, scb_yes h]; rfl
    · rw [scc_no h, scb_no h]; rfl)
  obtain ⟨q, hq⟩ : ∃ q, q = scb K D E P Q G := ⟨_, rfl⟩
  rw [← hq] at HS ⊢
  clear hq
  rcases q with _ | _
  all_goals
    go_wp2_with fail
    go_ret
    exact ⟨by rw [HS.out]; rfl, HB2.out⟩

end Go.Proofs.Ytchkgccnipejhaa

/-
  Equal slices of ints.
-/
namespace Go.Proofs.Ytchkgccnipejhaa
open Go.RowKit TR
set_option linter.unusedVariables false
set_option linter.unusedSimpArgs false

set_option maxRecDepth 100000 in
set_option maxHeartbeats 1000000 in
theorem sameInts_eq (aa ab : Option Addr) (ga ob gb n ca cb : Nat) (F : Nat → Int) (w : World) (hca : n ≤ ca) (hcb : n ≤ cb) (hca2 : ca ≤ maxLen) (hcb2 : cb ≤ maxLen) (had : n = 0 ∨ (aa = some ⟨ga, 0, none⟩ ∧ ab = some ⟨gb, ob, none⟩))
    (hc1 : ∀ i, i < n → w.cell? ⟨ga, i, none⟩ = some (.int .i64 (F i)) ∧ w.cell? ⟨gb, ob + i, none⟩ = some (.int .i64 (F i))) :
    Calls Try.prog 24 #[.slice aa n ca, .slice ab n cb] w fun e w' => e = .returned (.bool true) ∧ Below w.heap.size w w' := by
  obtain ⟨N, hN⟩ : ∃ N, N = w.heap.size := ⟨_, rfl⟩
  have HC : Hid (∀ w1, Below N w w1 → ∀ i, i < n → w1.cell? ⟨ga, i, none⟩ = some (.int .i64 (F i)) ∧ w1.cell? ⟨gb, ob + i, none⟩ = some (.int .i64 (F i))) := Lib.hid (fun w1 hb i hi => by
    have k : ∀ (p : Addr) v, w.cell? p = some v → w1.cell? p = some v := fun p v hv => (hb.cell (p := p) (by rw [hN]; exact World.block_lt_of_cell? w _ hv)).trans hv
    exact ⟨k _ _ (hc1 i hi).1, k _ _ (hc1 i hi).2⟩)
  have hm : n ≤ 9223372036854775807 := by unfold maxLen at hca2; omega
  have HAD := Lib.hid had
  have HN := Lib.hid hN
  rw [← hN]
  clear hN hc1 had hca2 hcb2
  go_enter Try.func24, Try.ntmps24
  go_wp2_with fail
  go_loopw [5] (fun i wr => ∃ (k : Nat), k ≤ n ∧ i = .int .i64 (k : Int) ∧ Hid (Below N w wr)) (fun i _ => n - (intOf i).toNat)
  case atStart => exact ⟨0, by omega, rfl, Lib.hid (Below.refl _ _)⟩
  case round =>
    obtain ⟨k, hk, rfl, HBr⟩ := hrel
    by_cases hlt : k < n
    · rcases HAD.out with h0 | ⟨rfl, rfl⟩
      · omega
      have l1 : (0 : Int) ≤ (k : Int) := by omega
      have l2 : (k : Int) < (n : Int) := by omega
      have HBd : Hid (Below N w wr.drew) := Lib.hid HBr.out.drew
      have HCk := Lib.hid (HC.out _ HBd.out k hlt)
      obtain ⟨x, hx⟩ : ∃ x, x = F k := ⟨_, rfl⟩
      rw [← hx] at HCk
      clear hx
      go_wp2_with fail
      refine wp_region_inv (by kernel_rfl) (by kernel_rfl) (fun l a' w' => a' = { tmps := #[Value.slice (some ⟨ga, 0, none⟩) n ca, Value.slice (some ⟨gb, ob, none⟩) n cb, undef, undef, u4, Value.int .i64 (k : Int), Value.slice (some ⟨ga, 0, none⟩) n ca, Value.int .i64 (n : Int), Value.slice (some ⟨gb, ob, none⟩) n cb, Value.int .i64 (n : Int), Value.bool false, Value.int .i64 (k : Int), Value.slice (some ⟨ga, 0, none⟩) n ca, Value.int .i64 (n : Int), Value.bool true, u15, u16, bif l 0 then Value.slice (some ⟨ga, 0, none⟩) n ca else u17, bif l 1 then Value.int .i64 (k : Int) else u18, bif l 2 then Value.pointer (some ⟨ga, k, none⟩) else u19, bif l 3 then Value.int .i64 x else u20, bif l 4 then Value.slice (some ⟨gb, ob, none⟩) n cb else u21, bif l 5 then Value.int .i64 (k : Int) else u22, bif l 6 then Value.pointer (some ⟨gb, ob + k, none⟩) else u23, bif l 7 then Value.int .i64 x else u24, bif l 8 then Value.bool false else u25], defers := [] } ∧ w' = wr.drew) ⟨rfl, rfl⟩ ?_ ?_
      · rintro l a' w' i ⟨rfl, rfl⟩ hi hli hpre
        have hi2 : i < 9 := hi
        have hcase : i = 0 ∨ i = 1 ∨ i = 2 ∨ i = 3 ∨ i = 4 ∨ i = 5 ∨ i = 6 ∨ i = 7 ∨ i = 8 := by omega
        clear hi hi2
        rcases hcase with rfl | rfl | rfl | rfl | rfl | rfl | rfl | rfl | rfl
        · -- 0: Op.move (Operand.tmp 0)
          refine wpOp_step rfl (fun K' hK => ?_)
          clear hpre
          rw [if_pos (by rfl)]
          go_simp
          exact hK _ _ ⟨by simp [upd, Act.put], rfl⟩
        · -- 1: Op.move (Operand.tmp 5)
          refine wpOp_step rfl (fun K' hK => ?_)
          clear hpre
          rw [if_pos (by rfl)]
          go_simp
          exact hK _ _ ⟨by simp [upd, Act.put], rfl⟩
        · -- 2: Op.indexAddr 57 (Operand.tmp 17) (Operand.tmp 18)
          have p0 : l 0 = true := hpre _ rfl ⟨0, .data⟩ (by simp) rfl
          have p1 : l 1 = true := hpre _ rfl ⟨1, .data⟩ (by simp) rfl
          refine wpOp_step rfl (fun K' hK => ?_)
          simp only [p0, p1, cond_true, cond_false]
          clear hpre
          rw [if_pos (by rfl)]
          have l1 : (0 : Int) ≤ (k : Int) := by omega
          have l2 : (k : Int) < (n : Int) := by omega
          go_simp
          exact hK _ _ ⟨by simp [upd, Act.put, p0, p1], rfl⟩
        · -- 3: Op.load 3 (Operand.tmp 19)
          have p2 : l 2 = true := hpre _ rfl ⟨2, .data⟩ (by simp) rfl
          refine wpOp_step rfl (fun K' hK => ?_)
          simp only [p2, cond_true, cond_false]
          clear hpre
          rw [if_pos (by rfl)]
          have z := HCk.out.1
          go_simp
          exact hK _ _ ⟨by simp [upd, Act.put, p2], rfl⟩
        · -- 4: Op.move (Operand.tmp 1)
          refine wpOp_step rfl (fun K' hK => ?_)
          clear hpre
          rw [if_pos (by rfl)]
          go_simp
          exact hK _ _ ⟨by simp [upd, Act.put], rfl⟩
        · -- 5: Op.move (Operand.tmp 5)
          refine wpOp_step rfl (fun K' hK => ?_)
          clear hpre
          rw [if_pos (by rfl)]
          go_simp
          exact hK _ _ ⟨by simp [upd, Act.put], rfl⟩
        · -- 6: Op.indexAddr 57 (Operand.tmp 21) (Operand.tmp 22)
          have p4 : l 4 = true := hpre _ rfl ⟨4, .data⟩ (by simp) rfl
          have p5 : l 5 = true := hpre _ rfl ⟨5, .data⟩ (by simp) rfl
          refine wpOp_step rfl (fun K' hK => ?_)
          simp only [p4, p5, cond_true, cond_false]
          clear hpre
          rw [if_pos (by rfl)]
          have l1 : (0 : Int) ≤ (k : Int) := by omega
          have l2 : (k : Int) < (n : Int) := by omega
          go_simp
          exact hK _ _ ⟨by simp [upd, Act.put, p4, p5], rfl⟩
        · -- 7: Op.load 3 (Operand.tmp 23)
          have p6 : l 6 = true := hpre _ rfl ⟨6, .data⟩ (by simp) rfl
          refine wpOp_step rfl (fun K' hK => ?_)
          simp only [p6, cond_true, cond_false]
          clear hpre
          rw [if_pos (by rfl)]
          have z := HCk.out.2
          go_simp
          exact hK _ _ ⟨by simp [upd, Act.put, p6], rfl⟩
        · -- 8: Op.binOp BinOp.neq 3 (Operand.tmp 20) (Operand.tmp 24) 3
          have p3 : l 3 = true := hpre _ rfl ⟨3, .data⟩ (by simp) rfl
          have p7 : l 7 = true := hpre _ rfl ⟨7, .data⟩ (by simp) rfl
          refine wpOp_step rfl (fun K' hK => ?_)
          simp only [p3, p7, cond_true, cond_false]
          clear hpre
          rw [if_pos (by rfl)]
          go_simp
          exact hK _ _ ⟨by simp [upd, Act.put, p3, p7], rfl⟩
      · rintro l a' w9 hall ⟨rfl, rfl⟩
        simp only [hall 0 (by decide), hall 1 (by decide), hall 2 (by decide), hall 3 (by decide), hall 4 (by decide), hall 5 (by decide), hall 6 (by decide), hall 7 (by decide), hall 8 (by decide), cond_true]
        clear hall
        go_wp2_with fail
        go_roundw
        case rel => exact ⟨k + 1, by omega, by go_num, HBd⟩
        case measure => simp [intOf]; omega
    · obtain rfl : n = k := by omega
      go_wp2_with fail
      go_ret
      exact ⟨rfl, HBr.out⟩
end Go.Proofs.Ytchkgccnipejhaa

/-
  Slices of two subsets, the program's.
-/
namespace Go.Proofs.Ytchkgccnipejhaa
open Go.RowKit TR
set_option linter.unusedVariables false
set_option linter.unusedSimpArgs false

/-- The cells of two subsets. -/
def two (a b c d : Int) : List Value := [.int .i64 a, .int .i64 b, .int .i64 c, .int .i64 d]
theorem own_two (w : World) (a b c d : Int) (N : Nat) (hN : N ≤ w.heap.size) : (w.alloc (.cells #[.int .i64 a, .int .i64 b, .int .i64 c, .int .i64 d] 56)).ownsRow N 56 2 (.slice (some ⟨w.heap.size, 0, none⟩) 2 2) 2 (two a b c d) :=
  ⟨rfl, .inr ⟨w.heap.size, 2, #[.int .i64 a, .int .i64 b, .int .i64 c, .int .i64 d], rfl, hN, heap_alloc_new w _, Nat.le_refl _, by unfold maxLen; omega, rfl, rfl⟩⟩

set_option maxRecDepth 100000 in
set_option maxHeartbeats 1000000 in
theorem cut_any (a b c : Int) (w : World) :
    Calls Try.prog 94 #[.int .i64 a, .int .i64 b, .int .i64 c] w fun e w' => (∃ u, e = .returned u ∧ w'.ownsRow w.heap.size 56 2 u 2 (two a b b c)) ∧ Below w.heap.size w w' := by
  obtain ⟨N, hN⟩ : ∃ N, N = w.heap.size := ⟨_, rfl⟩
  have HN := Lib.hid hN
  have HS := Lib.hid (fun a b w => subset_any a b w)
  rw [← hN]
  clear hN
  go_enter Try.func94, Try.ntmps94
  go_wp2_with fail
  refine (HS.out _ _ _).mono ?_
  rintro e w1 ⟨rfl, hb1⟩
  have HB1 : Hid (Below N w w1 ∧ N ≤ w1.heap.size) := Lib.hid ⟨by rw [HN.out]; exact hb1, by rw [HN.out]; exact hb1.size⟩
  clear hb1
  go_wp2_with fail
  refine (HS.out _ _ _).mono ?_
  rintro e w2 ⟨rfl, hb2⟩
  have HB2 : Hid (Below N w w2 ∧ N ≤ w2.heap.size) := Lib.hid ⟨HB1.out.1.trans (hb2.mono HB1.out.2), Nat.le_trans HB1.out.2 hb2.size⟩
  clear hb2
  have HO : Hid ((w2.alloc (.cells #[.int .i64 a, .int .i64 b, .int .i64 b, .int .i64 c] 56)).ownsRow N 56 2 (.slice (some ⟨w2.heap.size, 0, none⟩) 2 2) 2 (two a b b c) ∧ Below N w (w2.alloc (.cells #[.int .i64 a, .int .i64 b, .int .i64 b, .int .i64 c] 56))) := Lib.hid ⟨own_two w2 a b b c N HB2.out.2, HB2.out.1.alloc HB2.out.2 _⟩
  go_wp2_with fail
  go_ret
  exact ⟨⟨_, rfl, HO.out.1⟩, HO.out.2⟩

set_option maxRecDepth 100000 in
set_option maxHeartbeats 1000000 in
theorem withoutChild_any (v : Nat) (w : World) (hv : v < 256) :
    Calls Try.prog 90 #[.int .i64 (v : Int)] w fun e w' => (∃ u, e = .returned u ∧ w'.ownsRow w.heap.size 56 2 u 2 (two v (2 * v : Nat) v (2 * v + 1 : Nat))) ∧ Below w.heap.size w w' := by
  obtain ⟨N, hN⟩ : ∃ N, N = w.heap.size := ⟨_, rfl⟩
  have HN := Lib.hid hN
  have HS := Lib.hid (fun a b w => subset_any a b w)
  have HL := Lib.hid (fun w => left_any v w hv)
  have HR := Lib.hid (fun w => right_any v w hv)
  rw [← hN]
  obtain ⟨l, hl⟩ : ∃ l, l = 2 * v := ⟨_, rfl⟩
  obtain ⟨r, hr⟩ : ∃ r, r = 2 * v + 1 := ⟨_, rfl⟩
  rw [← hl] at HL
  rw [← hr] at HR
  rw [← hr, ← hl]
  clear hN hl hr
  go_enter Try.func90, Try.ntmps90
  go_wp2_with fail
  refine (HL.out _).mono ?_
  rintro e w0 ⟨rfl, rfl⟩
  go_wp2_with fail
  refine (HS.out _ _ _).mono ?_
  rintro e w1 ⟨rfl, hb1⟩
  have HB1 : Hid (Below N w w1 ∧ N ≤ w1.heap.size) := Lib.hid ⟨by rw [HN.out]; exact hb1, by rw [HN.out]; exact hb1.size⟩
  clear hb1
  go_wp2_with fail
  refine (HR.out _).mono ?_
  rintro e w0 ⟨rfl, rfl⟩
  go_wp2_with fail
  refine (HS.out _ _ _).mono ?_
  rintro e w2 ⟨rfl, hb2⟩
  have HB2 : Hid (Below N w w2 ∧ N ≤ w2.heap.size) := Lib.hid ⟨HB1.out.1.trans (hb2.mono HB1.out.2), Nat.le_trans HB1.out.2 hb2.size⟩
  clear hb2
  have HO : Hid ((w2.alloc (.cells #[.int .i64 (v : Int), .int .i64 (l : Int), .int .i64 (v : Int), .int .i64 (r : Int)] 56)).ownsRow N 56 2 (.slice (some ⟨w2.heap.size, 0, none⟩) 2 2) 2 (two v l v r) ∧ Below N w (w2.alloc (.cells #[.int .i64 (v : Int), .int .i64 (l : Int), .int .i64 (v : Int), .int .i64 (r : Int)] 56))) := Lib.hid ⟨own_two w2 v l v r N HB2.out.2, HB2.out.1.alloc HB2.out.2 _⟩
  go_wp2_with fail
  go_ret
  exact ⟨⟨_, rfl, HO.out.1⟩, HO.out.2⟩
end Go.Proofs.Ytchkgccnipejhaa

/-
  The nodes of a receiver's labels: the list of them.
-/
namespace Go.Proofs.Ytchkgccnipejhaa
open Go.RowKit TR
set_option linter.unusedVariables false

/-- The first k labels beside the path to y, of those of the node of level l. -/
def rin (K : Int) (d y l k : Nat) : List (Nat × Nat) := ((List.range k).map fun i => (nat_ y l, nat_ y (l + 1 + i) ^^^ 1)).filter fun p => isb K d (p.1 : Int) (p.2 : Int)
theorem rin_snoc (K : Int) (d y l k : Nat) : rin K d y l (k + 1) = rin K d y l k ++ (if isb K d (nat_ y l : Nat) ((nat_ y (l + 1 + k) ^^^ 1 : Nat) : Int) = true then [(nat_ y l, nat_ y (l + 1 + k) ^^^ 1)] else []) := by
  unfold rin
  rw [List.range_succ, List.map_append, List.filter_append]
  congr 1
  simp only [List.map_cons, List.map_nil, List.filter_cons, List.filter_nil]
theorem rin_len (K : Int) (d y l k : Nat) : (rin K d y l k).length ≤ k := by
  unfold rin; have := List.length_filter_le (fun p : Nat × Nat => isb K d (p.1 : Int) (p.2 : Int)) ((List.range k).map fun i => (nat_ y l, nat_ y (l + 1 + i) ^^^ 1)); simpa using this
/-- The same, of some levels. -/
def rls (K : Int) (d y l : Nat) (ls : List Nat) : List (Nat × Nat) := (ls.map fun m => (nat_ y l, nat_ y m ^^^ 1)).filter fun p => isb K d (p.1 : Int) (p.2 : Int)
theorem rls_snoc (K : Int) (d y l : Nat) (ls : List Nat) (m : Nat) : rls K d y l (ls ++ [m]) = rls K d y l ls ++ (if isb K d (nat_ y l : Nat) ((nat_ y m ^^^ 1 : Nat) : Int) = true then [(nat_ y l, nat_ y m ^^^ 1)] else []) := by
  unfold rls
  rw [List.map_append, List.filter_append]
  congr 1
  simp only [List.map_cons, List.map_nil, List.filter_cons, List.filter_nil]
theorem rls_len (K : Int) (d y l : Nat) (ls : List Nat) : (rls K d y l ls).length ≤ ls.length := by
  unfold rls; have := List.length_filter_le (fun p : Nat × Nat => isb K d (p.1 : Int) (p.2 : Int)) (ls.map fun m => (nat_ y l, nat_ y m ^^^ 1)); simpa using this
theorem rls_rin (K : Int) (d y l k : Nat) : rls K d y l (lvl (l + 1) k) = rin K d y l k := by
  unfold rls rin lvl; rw [List.map_map]; rfl
/-- The labels of the node of level l. -/
def rowl (K : Int) (d y l : Nat) : List (Nat × Nat) := if K = 1 then [(nat_ y l, 0)] else rin K d y l (lv y - l)
theorem rowl_len (K : Int) (d y l : Nat) (h : lv y ≤ 7) : (rowl K d y l).length ≤ 7 := by
  unfold rowl
  split
  · simp
  · have := rin_len K d y l (lv y - l); omega
def pre0 (K : Int) : List (Nat × Nat) := if K = 1 then [] else [(1, 0)]
/-- The labels of some levels' nodes. -/
def plf (K : Int) (d y : Nat) (ls : List Nat) : List (Nat × Nat) := pre0 K ++ ls.flatMap (rowl K d y)
theorem plf_snoc (K : Int) (d y : Nat) (ls : List Nat) (l : Nat) : plf K d y (ls ++ [l]) = plf K d y ls ++ rowl K d y l := by
  unfold plf; rw [List.flatMap_append, List.append_assoc]; simp
theorem plf_len (K : Int) (d y : Nat) (h : lv y ≤ 7) : ∀ ls : List Nat, (plf K d y ls).length ≤ 1 + 7 * ls.length := by
  intro ls
  have h1 : (pre0 K).length ≤ 1 := by unfold pre0; split <;> simp
  have h2 : (ls.flatMap (rowl K d y)).length ≤ 7 * ls.length := by
    induction ls with
    | nil => simp
    | cons a r ih => rw [List.flatMap_cons, List.length_append, List.length_cons]; have := rowl_len K d y a h; omega
  unfold plf
  rw [List.length_append]; omega
/-- All of them. -/
def plc (K : Int) (d y : Nat) : List (Nat × Nat) := plf K d y (List.range (lv y + 1))
/-- The cells of pairs. -/
def prs (xs : List (Nat × Nat)) : List Value := xs.flatMap fun p => [Value.int .i64 (p.1 : Int), Value.int .i64 (p.2 : Int)]
theorem prs_append (xs ys : List (Nat × Nat)) : prs (xs ++ ys) = prs xs ++ prs ys := by unfold prs; rw [List.flatMap_append]
theorem prs_len (xs : List (Nat × Nat)) : (prs xs).length = xs.length * 2 := by
  unfold prs
  induction xs with
  | nil => rfl
  | cons a r ih => rw [List.flatMap_cons, List.length_append, ih, List.length_cons]; simp; omega
theorem prs_get (xs : List (Nat × Nat)) (i : Nat) (p : Nat × Nat) (h : xs[i]? = some p) : (prs xs)[2 * i]? = some (.int .i64 (p.1 : Int)) ∧ (prs xs)[2 * i + 1]? = some (.int .i64 (p.2 : Int)) := by
  induction xs generalizing i with
  | nil => simp at h
  | cons a r ih =>
    cases i with
    | zero => simp at h; subst h; exact ⟨rfl, rfl⟩
    | succ i =>
      have h1 := ih i (by simpa using h)
      unfold prs at h1 ⊢
      rw [List.flatMap_cons, show 2 * (i + 1) = 2 * i + 1 + 1 by omega]
      exact h1
theorem lvl_zero (k : Nat) : lvl 0 k = List.range k := by unfold lvl; simp
end Go.Proofs.Ytchkgccnipejhaa

/-
  Regions within a round of a loop over a function: what the plain laws prove holds there too.
-/
namespace Go.Proofs.Ytchkgccnipejhaa
open Go.RowKit

/-- No operation defers. -/
def calm (ops : Array Oper) : Bool := ops.all fun o => match o.op with | .defer _ => false | _ => true
theorem calm_spec {ops : Array Oper} (h : calm ops = true) {o : Oper} (ho : o ∈ ops) : ∀ c, o.op ≠ .defer c := by
  have h1 := (Array.all_eq_true_iff_forall_mem.1 h) o ho
  intro c e
  rw [e] at h1
  cases h1

variable {P : Program} {ops : Array Oper} {Q : Exit → Act → World → Prop}

theorem rowsIn_wide {n : Nat} {row : String} {args : Array Value} {w : World} {R : Value → World → Prop} (h : Rows P row args w R) : RowsIn Fence.wide n P row args w R := by
  intro c cs _
  obtain ⟨v, w', hr, hs⟩ := h c cs
  exact ⟨v, w', hr, stepsIn_wide.2 hs⟩

theorem opIn_of_op {o : Oper} {a : Act} {w : World} {K : Act → World → Prop} (l n : Nat) (hd : ∀ c, o.op ≠ .defer c) (h : o.wp P a w K Q) : o.wpIn (Fence.wide.inRound l) n P a w K Q := by
  unfold Oper.wp at h
  unfold Oper.wpIn
  refine ⟨fun _ _ => trivial, ?_⟩
  rw [Oper.semAt_eq _ _ _ hd]
  generalize (execOp a.eval o).run P w = r at h ⊢
  cases r with
  | ok v w' =>
    cases v with
    | enter f args => exact ⟨(fun e => by cases e), CallsIn.inRound l (callsIn_wide.2 h)⟩
    | row row args => exact ⟨(fun e => by cases e), rowsIn_wide h⟩
    | _ => first | exact h | exact (h : False).elim
  | halt hh w' => cases hh <;> exact h

theorem wpOpIn_of_wpOp {i : Nat} {a : Act} {w : World} {K : Act → World → Prop} (l n : Nat) (hc : calm ops = true) (hno : ¬ LetsOut Q) (h : wpOp P ops Q i K a w) : wpOpIn (Fence.wide.inRound l) n P ops Q i K a w := by
  unfold wpOp at h
  unfold wpOpIn
  split
  · rename_i ho; rw [ho] at h; exact h
  · rename_i o ho
    rw [ho] at h
    simp only at h
    split
    · rename_i hw
      rw [if_pos hw] at h
      rcases h with h | h
      · exact opIn_of_op l n (calm_spec hc (Array.mem_of_getElem? ho)) h
      · exact absurd h.2 hno
    · rename_i hw
      rw [if_neg hw] at h
      exact ⟨fun _ _ => trivial, h⟩

theorem wpAnyIn_of_wpAny {md : Region.Mode} (l n : Nat) (hc : calm ops = true) (hno : ¬ LetsOut Q) : ∀ (fuel : Nat) (L : Array Bool) (a : Act) (w : World), wpAny P md ops Q fuel L a w → wpAnyIn (Fence.wide.inRound l) n P md ops Q fuel L a w
  | 0, _, _, _, h => h
  | fuel + 1, _, _, _, h => ⟨h.1, fun i hi => wpOpIn_of_wpOp l n hc hno (wpOp_mono (fun a' w' h' => wpAnyIn_of_wpAny l n hc hno fuel _ a' w' h') (h.2 i hi))⟩

theorem wpListIn_of_wpList (l n : Nat) (hno : ¬ LetsOut Q) : ∀ (r : List Oper) (_ : ∀ o ∈ r, ∀ c, o.op ≠ .defer c) (a : Act) (w : World), wpList P ops Q r a w → wpListIn (Fence.wide.inRound l) n P ops Q r a w
  | [], _, _, _, h => h
  | o :: r, hc, a, w, h => by
    unfold wpList at h
    unfold wpListIn
    split
    · rename_i hw
      rw [if_pos hw] at h
      rcases h with h | h
      · exact opIn_of_op l n (hc o (by simp)) (Oper.wp_mono (fun a' w' h' => wpListIn_of_wpList l n hno r (fun o' ho' => hc o' (by simp [ho'])) a' w' h') h)
      · exact absurd h.2 hno
    · rename_i hw
      rw [if_neg hw] at h
      exact ⟨fun _ _ => trivial, wpListIn_of_wpList l n hno r (fun o' ho' => hc o' (by simp [ho'])) _ w h⟩

/-- A plain region within a round. -/
theorem wpIn_round_list {id : Nat} {a : Act} {w : World} (l n : Nat) (hc : calm ops = true) (hno : ¬ LetsOut Q) (h : wpList P ops Q ops.toList a w) : (Code.region id ops false).wpIn (Fence.wide.inRound l) n P Q a w :=
  wpIn_region_list (wpListIn_of_wpList l n hno ops.toList (fun o ho => calm_spec hc (by simpa using ho)) a w h)

/-- A region in whatever order within a round. -/
theorem wpIn_round_inv {id : Nat} {a : Act} {w : World} (l n : Nat) (hc : calm ops = true) (hno : ¬ LetsOut Q) (hm : P.follows .mixedOrders = true) (ho : ordered .any ops = true) (Inv : (Nat → Bool) → Act → World → Prop)
    (h0 : Inv (fun _ => false) a w.drew)
    (hstep : ∀ (l : Nat → Bool) (a : Act) (w : World) (i : Nat), Inv l a w → i < ops.size → l i = false → (∀ o, ops[i]? = some o → ∀ e ∈ o.after, Region.binds .any e = true → l e.on = true) → wpOp P ops Q i (fun a' w' => Inv (upd l i) a' w') a w)
    (hdone : ∀ (l : Nat → Bool) (a : Act) (w : World), (∀ i, i < ops.size → l i = true) → Inv l a w → Q .normal a w) :
    (Code.region id ops true).wpIn (Fence.wide.inRound l) n P Q a w := by
  refine wpIn_region_any hm (wpAnyIn_of_wpAny l n hc hno _ _ _ _ (wpAny_inv ho Inv hstep hdone ops.size _ a _ (by simp) ?_ ?_))
  · simp [unl_replicate]
  · have e : lst (Array.replicate ops.size false) = fun _ => false := by
      funext j; unfold lst; by_cases hj : j < ops.size <;> simp [Array.getD, hj]
    rw [e]; exact h0

end Go.Proofs.Ytchkgccnipejhaa

/-
  Blocks of cells, by their objects; an append into a variable's box.
-/
namespace Go.Proofs.Ytchkgccnipejhaa
open Go.RowKit Go.Shelf
set_option linter.unusedVariables false
set_option linter.unusedSimpArgs false

/-- A block of cells that may be written. -/
def Blk (w : World) (b : Nat) (cs : Array Value) (t : TypeId) : Prop := w.heap[b]? = some (.cells cs t (0, 0))
theorem Blk.lt {w : World} {b : Nat} {cs : Array Value} {t : TypeId} (h : Blk w b cs t) : b < w.heap.size := (Array.getElem?_eq_some_iff.1 h).1
theorem Blk.cell {w : World} {b : Nat} {cs : Array Value} {t : TypeId} (h : Blk w b cs t) (i : Nat) : w.cell? ⟨b, i, none⟩ = cs[i]? := by rw [cell_of_row _ _ i _ _ _ h]
theorem Blk.fr {w : World} {b : Nat} {cs : Array Value} {t : TypeId} (h : Blk w b cs t) (i : Nat) : w.frozen? ⟨b, i, none⟩ = false := by unfold World.frozen?; rw [h]; simp
theorem Blk.new (w : World) (cs : Array Value) (t : TypeId) : Blk (w.alloc (.cells cs t)) w.heap.size cs t := heap_alloc_new w _
theorem Blk.below {w w' : World} {m b : Nat} {cs : Array Value} {t : TypeId} (h : Blk w b cs t) (hb : Below m w w') (hm : b < m) : Blk w' b cs t := (hb.block b hm).trans h
theorem Blk.keep {w w' : World} {b : Nat} {cs : Array Value} {t : TypeId} (h : Blk w b cs t) (hb : Below w.heap.size w w') : Blk w' b cs t := h.below hb h.lt
theorem Blk.kept {w w' : World} {b : Nat} {cs : Array Value} {t : TypeId} {row : Option Nat} (h : Blk w b cs t) (hg : w.grownBy w' row) (hr : ∀ r, row = some r → ∃ o : Obj, w.heap[r]? = some o ∧ o.isCells = false) : Blk w' b cs t :=
  (grownBy_keeps_cells hg hr h rfl).trans h
theorem Blk.grown {w w' : World} {b : Nat} {cs : Array Value} {t : TypeId} {row : Option Nat} (h : Blk w b cs t) (hg : w.grownBy w' row) (hb : some b ≠ row) : Blk w' b cs t := (hg.block b h.lt hb).trans h
theorem Blk.other {w : World} {b : Nat} {cs : Array Value} {t : TypeId} (h : Blk w b cs t) {a : Addr} (ha : a.block ≠ b) (u : Value) : Blk (w.setCell a u) b cs t := by
  unfold Blk at h ⊢
  rw [Below.heap_setCell _ _ _ _ (fun e => ha (by first | exact e | exact e.symm))]; exact h
theorem Blk.ty {w : World} {b : Nat} {cs : Array Value} {t : TypeId} (h : Blk w b cs t) : Ty w b t := ⟨_, _, h⟩
theorem Blk.apart {w : World} {b base size n : Nat} {e t : TypeId} {cs : Array Value} {v : Value} {xs : List Value} (h : Blk w b cs t) (ho : w.ownsRow base e size v n xs) (hne : e ≠ t) : some b ≠ v.ownBlock := h.ty.apart ho hne
theorem Blk.range {w : World} {b : Nat} {cs : Array Value} {t : TypeId} (h : Blk w b cs t) : w.rangeAt b 0 cs.toList := fun j v hv => by
  rw [Nat.zero_add, h.cell]; simpa using hv
theorem Blk.there {w : World} {b : Nat} {cs : Array Value} {t : TypeId} (h : Blk w b cs t) : w.there b 0 cs.size := fun j hj => by
  rw [Nat.zero_add]; exact ⟨by rw [h.cell]; simp [hj], h.fr j⟩
theorem Blk.set2 {w : World} {b : Nat} {p q : Value} {t : TypeId} (h : Blk w b #[p, q] t) (x y : Value) : Blk (w.setCells b 0 [x, y]) b #[x, y] t := by
  unfold Blk at h ⊢
  simp only [World.setCells, World.setCell, Array.getElem?_modify, h, if_true, Option.map_some]
  rfl
theorem Box.blk {w : World} {b : Nat} {v : Value} {t : TypeId} (h : Box w b v t) : Blk w b #[v] t := h
theorem Blk.box {w : World} {b : Nat} {v : Value} {t : TypeId} (h : Blk w b #[v] t) : Box w b v t := h
theorem grownBy_refl (w : World) (row : Option Nat) : w.grownBy w row := ⟨rfl, rfl, rfl, Nat.le_refl _, fun _ _ _ => rfl⟩
theorem grownBy_trans {a b c : World} {row : Option Nat} (h : a.grownBy b row) (k : b.grownBy c row) : a.grownBy c row :=
  ⟨k.os.trans h.os, k.tape.trans h.tape, k.output.trans h.output, Nat.le_trans h.size k.size, fun i hi hr => (k.block i (Nat.lt_of_lt_of_le hi h.size) hr).trans (h.block i hi hr)⟩
theorem grownBy_below {a b c : World} {row : Option Nat} (h : a.grownBy b row) (k : Below b.heap.size b c) : a.grownBy c row :=
  grownBy_trans h ⟨k.os, k.tape, k.output, k.size, fun i hi _ => k.block i hi⟩
theorem below_alloc (w : World) (o : Obj) : Below w.heap.size w (w.alloc o) := (Below.refl _ _).alloc (Nat.le_refl _) _
theorem inRound_inRound (F : Fence) (a b : Nat) : (F.inRound a).inRound b = F.inRound b := rfl

/-- What stands behind 'l = append(l, ..)' where l lies in a box. -/
theorem app_done {W w1 : World} {N lb n m sz : Nat} {tl ts : TypeId} {v v2 : Value} {xs ys : List Value} (hv : Box W lb v tl) (hne : ts ≠ tl) (hrow : W.ownsRow N ts sz v n xs) (hg : W.grownBy w1 v.ownBlock)
    (ho : w1.ownsRow N ts sz v2 m ys) (hN : N ≤ W.heap.size) (hlb : N ≤ lb) :
    Box (w1.setCell ⟨lb, 0, none⟩ v2) lb v2 tl ∧ (w1.setCell ⟨lb, 0, none⟩ v2).ownsRow N ts sz v2 m ys ∧ KeepsOthers W (w1.setCell ⟨lb, 0, none⟩ v2) ∧ Below N W (w1.setCell ⟨lb, 0, none⟩ v2) ∧
      (∀ b cs t, b ≠ lb → ts ≠ t → Blk W b cs t → Blk (w1.setCell ⟨lb, 0, none⟩ v2) b cs t) := by
  have hv1 : Box w1 lb v tl := hv.grown hg (hv.ty.apart hrow hne)
  refine ⟨hv1.set v2, ownsRow_setCell_other ho (Ne.symm (hv1.ty.apart ho hne)) _, (KeepsOthers.grown hrow hg).trans (KeepsOthers.setCell _ _ _), ?_, fun b cs t h1 h2 h3 => ?_⟩
  · exact ((Below.refl N W).grown hg hN (fun b hb => own_block hrow hb.symm)).setCell (p := ⟨lb, 0, none⟩) hlb _
  · exact (h3.grown hg (h3.apart hrow h2)).other (fun e => h1 e.symm) _
end Go.Proofs.Ytchkgccnipejhaa
