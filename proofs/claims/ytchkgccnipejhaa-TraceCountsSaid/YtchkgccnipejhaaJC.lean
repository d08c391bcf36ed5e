/-
  Texts joined into one: SecA, SecB, SecC, SecD, SecE.
-/
import Derived.Test.YtchkgccnipejhaaL2B
import Derived.Test.YtchkgccnipejhaaJB
import Derived.Test.YtchkgccnipejhaaJN
import Derived.Laws.Tables

/-
  Keys that are derived down a path: nodeKey, step.
-/
namespace Go.Proofs.Ytchkgccnipejhaa
open Go.RowKit TR L2 L2.SP
set_option linter.unusedVariables false
set_option linter.unusedSimpArgs false

def skp (p : Nat × Nat) (v : Nat) : Nat × Nat := drv p.1 p.2 (if v % 2 = 0 then 31 else 32) 0
def dwk (p : Nat × Nat) (ns : List Nat) : Nat × Nat := ns.foldl skp p
def ndk (p : Nat × Nat) (v : Nat) : Nat × Nat := drv p.1 p.2 30 v
def pnd (v x : Nat) : List Nat := (lvl (lv v + 1) (lv x - lv v)).map (nat_ x)
/-- The label of (v, x). -/
def lbk (p : Nat × Nat) (v x : Nat) : Nat × Nat := dwk (ndk p v) (pnd v x)
/-- The key that is stored for (v, x). -/
def sky (K : Int) (p : Nat × Nat) (v x : Nat) : Nat × Nat := if K = 1 then ndk p v else if x = 0 then drv p.1 p.2 34 0 else lbk p v x
theorem skp_ok {p : Nat × Nat} (h : Ok p) (v : Nat) : Ok (skp p v) := drv_ok h.1 h.2 (by split <;> omega) (by unfold M; omega)
theorem dwk_ok : ∀ (ns : List Nat) {p : Nat × Nat}, Ok p → Ok (dwk p ns)
  | [], _, h => h
  | v :: r, _, h => dwk_ok r (skp_ok h v)
theorem dwk_snoc (p : Nat × Nat) (ns : List Nat) (v : Nat) : dwk p (ns ++ [v]) = skp (dwk p ns) v := by unfold dwk; rw [List.foldl_append]; rfl
theorem ndk_ok {p : Nat × Nat} (h : Ok p) (v : Nat) (hv : v < 256) : Ok (ndk p v) := drv_ok h.1 h.2 (by omega) (by unfold M; omega)
theorem lbk_ok {p : Nat × Nat} (h : Ok p) (v x : Nat) (hv : v < 256) : Ok (lbk p v x) := dwk_ok _ (ndk_ok h v hv)
theorem sky_ok (K : Int) {p : Nat × Nat} (h : Ok p) (v x : Nat) (hv : v < 256) : Ok (sky K p v x) := by
  unfold sky
  split
  · exact ndk_ok h v hv
  · split
    · exact drv_ok h.1 h.2 (by omega) (by unfold M; omega)
    · exact lbk_ok h v x hv

/-- A block that holds a key. -/
abbrev Kbx (w : World) (b : Nat) (p : Nat × Nat) : Prop := Blk w b (kl p.1 p.2).toArray 26
theorem Kbx.at_ {w : World} {b : Nat} {p : Nat × Nat} (h : Kbx w b p) : KeyAt w b p.1 p.2 := by
  have h1 := Blk.range h
  unfold KeyAt; simpa using h1
theorem Kbx.there_ {w : World} {b : Nat} {p : Nat × Nat} (h : Kbx w b p) : w.there b 0 16 := by
  have h1 := Blk.there h; simpa [kl_len] using h1
theorem Blk.set1 {w : World} {b : Nat} {cs : Array Value} {t : TypeId} (h : Blk w b cs t) (o : Nat) (v : Value) : Blk (w.setCell ⟨b, o, none⟩ v) b (cs.setIfInBounds o v) t := by
  unfold Blk at h ⊢
  simp only [World.setCell, Array.getElem?_modify, h, if_true, Option.map_some]
  rfl
theorem Blk.setn {b : Nat} {t : TypeId} : ∀ (vs : List Value) (o : Nat) {w : World} {cs : Array Value}, Blk w b cs t → ∃ cs', Blk (w.setCells b o vs) b cs' t ∧ cs'.size = cs.size ∧ ∀ i, i < cs.size → cs'[i]? = if o ≤ i ∧ i < o + vs.length then vs[i - o]? else cs[i]?
  | [], o, w, cs, h => ⟨cs, h, rfl, fun i hi => by rw [if_neg (by simp; try omega)]⟩
  | v :: r, o, w, cs, h => by
    obtain ⟨cs', h1, h2, h3⟩ := Blk.setn r (o + 1) (Blk.set1 h o v)
    refine ⟨cs', by rw [World.setCells]; exact h1, by simpa using h2, fun i hi => ?_⟩
    rw [h3 i (by simpa using hi)]
    by_cases e : i = o
    · subst e
      rw [if_neg (by omega), if_pos (by simp)]
      simp [hi]
    · by_cases e2 : o + 1 ≤ i ∧ i < o + 1 + r.length
      · rw [if_pos e2, if_pos (by simp; omega), show i - o = (i - (o + 1)) + 1 by omega]; rfl
      · rw [if_neg e2, if_neg (by simp; omega), Array.getElem?_setIfInBounds_ne (fun e3 => e e3.symm)]
theorem Blk.setAll {w : World} {b : Nat} {cs : Array Value} {t : TypeId} (h : Blk w b cs t) (vs : List Value) (hl : vs.length = cs.size) : Blk (w.setCells b 0 vs) b vs.toArray t := by
  obtain ⟨cs', h1, h2, h3⟩ := Blk.setn vs 0 h
  have e : cs' = vs.toArray := by
    apply Array.ext
    · simp [h2, hl]
    · intro i hi1 hi2
      have h4 := h3 i (by omega)
      rw [if_pos (by simp; omega), Nat.sub_zero, Array.getElem?_eq_getElem hi1] at h4
      simp at hi2
      rw [List.getElem?_eq_getElem hi2] at h4
      simpa using h4
  rw [← e]; exact h1
theorem Blk.setCells_other {w : World} {b : Nat} {cs : Array Value} {t : TypeId} (h : Blk w b cs t) (b' : Nat) (vs : List Value) (hne : b ≠ b') (o : Nat := 0) : Blk (w.setCells b' o vs) b cs t := by
  induction vs generalizing w o with
  | nil => exact h
  | cons v r ih => rw [World.setCells]; exact ih (h.other (fun e => hne e.symm) v) (o + 1)
theorem keeps_setCells (b : Nat) : ∀ (vs : List Value) (o : Nat) (w : World), KeepsOthers w (w.setCells b o vs)
  | [], _, w => KeepsOthers.refl w
  | v :: r, o, w => by rw [World.setCells]; exact (KeepsOthers.setCell w _ v).trans (keeps_setCells b r (o + 1) _)
theorem Kbx.stored {w : World} {b : Nat} {cs : Array Value} (h : Blk w b cs 26) (hs : cs.size = 16) (p : Nat × Nat) : Kbx (w.setCells b 0 (kl p.1 p.2)) b p := Blk.setAll h _ (by rw [kl_len, hs])
theorem Kbx.size {p : Nat × Nat} : (kl p.1 p.2).toArray.size = 16 := by simp [kl_len]
theorem z16_size : (z16 : Array Value).size = 16 := rfl


set_option maxRecDepth 100000 in
set_option maxHeartbeats 400000 in
theorem nodeKey_any (p : Nat × Nat) (v : Nat) (w : World) (hp : Ok p) (hv : v < 256) :
    Calls Try.prog 127 #[.agg (kl p.1 p.2).toArray, .int .i64 (v : Int)] w fun e w' => e = .returned (.agg (kl (ndk p v).1 (ndk p v).2).toArray) ∧ Below w.heap.size w w' := by
  obtain ⟨N, hN⟩ : ∃ N, N = w.heap.size := ⟨_, rfl⟩
  obtain ⟨W2, hW2⟩ : ∃ W2, W2 = (w.alloc (.cells (kl p.1 p.2).toArray 26)).alloc (.cells z16 26) := ⟨_, rfl⟩
  have s2 : W2.heap.size = N + 2 := by rw [hW2, hN]; simp
  have b2 : Below N w W2 := by rw [hW2, hN]; exact (below_alloc _ _).trans ((below_alloc _ _).mono (by simp))
  have e1 : Kbx W2 N p := by rw [hW2, hN]; exact (Blk.new w _ _).keep (below_alloc _ _)
  have e2 : Blk W2 (N + 1) z16 26 := by
    have h := Blk.new (w.alloc (.cells (kl p.1 p.2).toArray 26)) z16 26
    rw [World.size_alloc, ← hN] at h; rw [hW2]; exact h
  have HE := Lib.hid (And.intro s2 (And.intro b2 (And.intro e1 e2)))
  have HD : Hid (∀ w, Calls Try.prog 67 #[.agg (kl p.1 p.2).toArray, .int .u8 30, .int .u64 (v : Int)] w fun e w' => e = .returned (.agg (kl (ndk p v).1 (ndk p v).2).toArray) ∧ Below w.heap.size w w') := Lib.hid (fun w => derive_any p.1 p.2 30 v w hp.1 hp.2 (by omega) (by unfold M; omega))
  have HN := Lib.hid hN
  have HW := Lib.hid hW2
  rw [← hN]
  obtain ⟨q, hq⟩ : ∃ q, q = (ndk p v) := ⟨_, rfl⟩
  have HQ := Lib.hid hq
  rw [← hq] at HD ⊢
  clear hN hW2 s2 b2 e1 e2 hq
  go_enter Try.func127, Try.ntmps127
  go_wp2_with (refine wpList_load_key rfl _ rfl _ rfl p.1 p.2 (by rw [← HW.out, ← HN.out]; exact HE.out.2.2.1.at_) ?_)
  rw [← HW.out, ← HN.out]
  refine (HD.out _).mono ?_
  rintro e w3 ⟨rfl, hb3⟩
  have HT3 : Hid (Blk w3 (N + 1) z16 26) := Lib.hid (HE.out.2.2.2.below hb3 (by rw [HE.out.1]; omega))
  have HB3 : Hid (Below N w w3) := Lib.hid (HE.out.2.1.trans (hb3.mono (by rw [HE.out.1]; omega)))
  clear hb3
  go_wp2_with (refine wpList_store_key rfl _ _ rfl (N + 1) _ _ rfl rfl (by have h := HT3.out.there; simpa using h) ?_)
  exact ends_key rfl (N + 1) _ _ (by have h := HT3.out.there; simpa using h) rfl rfl ⟨rfl, below_setCells _ _ _ _ HB3.out (by omega)⟩

end Go.Proofs.Ytchkgccnipejhaa

/-
  down and label, the specification's.
-/
namespace Go.Proofs.Ytchkgccnipejhaa
open Go.RowKit TR L2 L2.SP
set_option linter.unusedVariables false
set_option linter.unusedSimpArgs false

theorem pnd_len (v x : Nat) : (pnd v x).length = lv x - lv v := by simp [pnd, lvl]
theorem take_snoc {α : Type} (l : List α) (k : Nat) (h : k < l.length) : l.take (k + 1) = l.take k ++ [l[k]] := by rw [List.take_add_one, List.getElem?_eq_getElem h]; rfl
theorem pnd_get (v x k : Nat) (h : k < (pnd v x).length) : (pnd v x)[k] = nat_ x (lv v + 1 + k) := by simp [pnd, lvl]

end Go.Proofs.Ytchkgccnipejhaa

/-
  lower, the program's.
-/
namespace Go.Proofs.Ytchkgccnipejhaa
open Go.RowKit Go.Shelf TR L2 L2.SP
set_option linter.unusedVariables false
set_option linter.unusedSimpArgs false
attribute [local go_sem] Oper.semAt_some

set_option maxRecDepth 100000 in
set_option maxHeartbeats 400000 in
theorem isLeft_any (v : Nat) (w : World) (hv : v < 256) :
    Calls Try.prog 146 #[.int .i64 (v : Int)] w fun e w' => e = .returned (.bool (v % 2 == 0)) ∧ w = w' := by
  have h0 : (v : Int).tmod 2 = ((v % 2 : Nat) : Int) := rfl
  rcases Nat.mod_two_eq_zero_or_one v with hv2 | hv2
  all_goals
    rw [hv2] at h0 ⊢
    go_enter Try.func146, Try.ntmps146
    go_wp2_with fail
    go_ret
    exact ⟨by first | rfl | (simp; done) | (simp [h0]; done), rfl⟩

theorem wpListIn_load_key {ops : Array Oper} {rest : List Oper} {op : Oper} {a : Act} {w : World} {Q : Exit → Act → World → Prop} (l n : Nat) (hgd : op.guard = none) (x : Operand) (ho : op.op = .load 26 x)
    (b : Nat) (hx : a.eval x = .pointer (some ⟨b, 0, none⟩)) (X Y : Nat) (hc : KeyAt w b X Y)
    (h : wpListIn (Fence.wide.inRound l) n Try.prog ops Q rest (a.put op.dst (.agg (kl X Y).toArray)) w) : wpListIn (Fence.wide.inRound l) n Try.prog ops Q (op :: rest) a w :=
  wpListIn_plain hgd fun K hK => opIn_of_op l n (by rw [ho]; intro c h; cases h) (wp_load_mid 26 x ho b 0 hx (kl X Y) _ hc Try.underlying26 rfl (by rw [kl_len]; exact size23) (hK _ _ h))
theorem wpListIn_store_key {ops : Array Oper} {rest : List Oper} {op : Oper} {a : Act} {w : World} {Q : Exit → Act → World → Prop} (l n : Nat) (hgd : op.guard = none) (x y : Operand) (ho : op.op = .store 26 x y)
    (b : Nat) (X Y : Nat) (hx : a.eval x = .pointer (some ⟨b, 0, none⟩)) (hy : a.eval y = .agg (kl X Y).toArray) (ht : w.there b 0 16)
    (h : wpListIn (Fence.wide.inRound l) n Try.prog ops Q rest (a.put op.dst undef) (w.setCells b 0 (kl X Y))) : wpListIn (Fence.wide.inRound l) n Try.prog ops Q (op :: rest) a w :=
  wpListIn_plain hgd fun K hK => opIn_of_op l n (by rw [ho]; intro c h; cases h) (wp_store_mid 26 x y ho b 0 (kl X Y).toArray hx hy (by simpa [kl_len] using ht) (by simp [kl_len, size23]) (kl_arr X Y) (hK _ _ (by simpa using h)))

theorem pnd_levels (v x a : Nat) (h : a = lv v) (pre : List (Lev (lv x))) (hs : pre.map (·.1) = lvl (a + 1) (lv x + 1 - (a + 1))) : (pre.map (·.1)).map (nat_ x) = pnd v x := by
  rw [hs, h]; unfold pnd; rw [show lv x + 1 - (lv v + 1) = lv x - lv v by omega]

set_option maxRecDepth 100000 in
set_option maxHeartbeats 400000 in
theorem lower_any (p : Nat × Nat) (m x : Nat) (w : World) (hp : Ok p) (hm1 : 1 ≤ m) (hm : m < 256) (hx1 : 1 ≤ x) (hx : x < 256) (hle : lv m ≤ lv x) :
    Calls Try.prog 128 #[.agg (kl p.1 p.2).toArray, .int .i64 (m : Int), .int .i64 (x : Int)] w fun e w' => e = .returned (.agg (kl (dwk p (pnd m x)).1 (dwk p (pnd m x)).2).toArray) ∧ Below w.heap.size w w' := by
  obtain ⟨N, hN⟩ : ∃ N, N = w.heap.size := ⟨_, rfl⟩
  obtain ⟨W2, hW2⟩ : ∃ W2, W2 = (w.alloc (.cells (kl p.1 p.2).toArray 26)).alloc (.cells z16 26) := ⟨_, rfl⟩
  have s2 : W2.heap.size = N + 2 := by rw [hW2, hN]; simp
  have b2 : Below N w W2 := by rw [hW2, hN]; exact (below_alloc _ _).trans ((below_alloc _ _).mono (by simp))
  have e1 : Kbx W2 N p := by rw [hW2, hN]; exact (Blk.new w _ _).keep (below_alloc _ _)
  have e2 : Blk W2 (N + 1) z16 26 := by
    have h := Blk.new (w.alloc (.cells (kl p.1 p.2).toArray 26)) z16 26
    rw [World.size_alloc, ← hN] at h; rw [hW2]; exact h
  have HE := Lib.hid (And.intro s2 (And.intro b2 (And.intro e1 e2)))
  have HLv := Lib.hid (fun w => level_any m w hm1 hm)
  have HOk := Lib.hid (fun (ns : List Nat) => dwk_ok ns hp)
  have HSn := Lib.hid (fun (ns : List Nat) (v : Nat) => dwk_snoc p ns v)
  have HLf := Lib.hid (fun (v : Nat) (w : World) (h : v < 256) => isLeft_any v w h)
  have HDv := Lib.hid (fun (q : Nat × Nat) (t : Nat) (w : World) (h : Ok q) (ht : t < 256) => derive_any q.1 q.2 t 0 w h.1 h.2 ht (by unfold M; omega))
  have HNo := Lib.hid (fun (z : Lev (lv x)) => (nat_ok x z.1 hx1 hx z.2).2.1)
  have hl8 := lv_lt m hm
  obtain ⟨a, ha⟩ : ∃ a, a = lv m := ⟨_, rfl⟩
  have HA := Lib.hid (And.intro ha (And.intro hle (And.intro hx1 hx)))
  rw [← ha] at HLv hl8
  have HN := Lib.hid hN
  have HW := Lib.hid hW2
  rw [← hN]
  obtain ⟨R, hR⟩ : ∃ R, R = dwk p (pnd m x) := ⟨_, rfl⟩
  have HR := Lib.hid hR
  rw [← hR]
  clear hN hW2 s2 b2 e1 e2 hR hle ha hx1 hx hm1 hm hp
  refine (callsIn_wide (n := 4)).1 (callsIn_of_wp_marks Try.func128 rfl trivial ?_ rfl)
  simp only [Try.ntmps128, List.size_toArray, List.length_cons, List.length_nil, Nat.reduceAdd, Nat.reduceSub, Array.replicate_succ, Array.replicate_zero, List.push_toArray, List.append_toArray, List.nil_append, List.cons_append]
  refine wpIn_wide.2 ?_
  go_wp2_with fail
  rw [← HW.out, ← HN.out]
  refine (HLv.out _).mono ?_
  rintro e w' ⟨rfl, rfl⟩
  go_wp2_with fail
  refine (path_any _ _ _).mono ?_
  rintro e w5 ⟨rfl, rfl⟩
  rw [HE.out.1]
  obtain ⟨C, hC⟩ : ∃ C, C = N + 2 := ⟨_, rfl⟩
  rw [← hC]
  obtain ⟨W5, hW5⟩ : ∃ W5, W5 = (W2.alloc (.cells #[.int .i64 (x : Int)] 113)).alloc (.cells #[.int .i64 ((a : Int) + 1)] 3) := ⟨_, rfl⟩
  rw [← hW5]
  have s5 : W5.heap.size = C + 2 := by rw [hW5, hC]; simp [HE.out.1]
  have b25 : Below (N + 2) W2 W5 := by rw [hW5, ← HE.out.1]; exact (below_alloc _ _).trans ((below_alloc _ _).mono (by simp))
  have f1 := HE.out.2.2.1.below b25 (by omega)
  have f2 := HE.out.2.2.2.below b25 (by omega)
  have fC : Box W5 C (.int .i64 (x : Int)) 113 := by rw [hW5, hC, ← HE.out.1]; exact (Box.new W2 (.int .i64 (x : Int)) 113).keep (below_alloc _ _)
  have fC1 : Box W5 (C + 1) (.int .i64 ((a : Int) + 1)) 3 := by
    have h := Box.new (W2.alloc (.cells #[.int .i64 (x : Int)] 113)) (.int .i64 ((a : Int) + 1)) 3
    rw [World.size_alloc, HE.out.1, ← hC] at h; rw [hW5]; exact h
  have HBS := Lib.hid (path_lev 3 (by omega) (C + 1) C x (lv x) (a + 1) W5 HA.out.2.2.1 HA.out.2.2.2 rfl (by have := HA.out; omega) fC.cell (by rw [show ((a + 1 : Nat) : Int) = (a : Int) + 1 by omega]; exact fC1.cell))
  have HE5 := Lib.hid (And.intro s5 (And.intro (HE.out.2.1.trans (b25.mono (by omega))) hC))
  have F5 := Lib.hid (And.intro f1 (And.intro f2 (And.intro fC fC1)))
  clear hW5 hC s5 b25 f1 f2 fC fC1
  go_wp2_with fail
  refine (wpIn_wide (n := 4)).1 ?_
  have hI0 : (Kbx W5 N (dwk p ((([] : List (Lev (lv x))).map (·.1)).map (nat_ x))) ∧ Blk W5 (N + 1) z16 26 ∧ Box W5 C (.int .i64 (x : Int)) 113 ∧ Box W5 (C + 1) (.int .i64 ((a : Int) + 1)) 3) ∧ Below N W5 W5 := ⟨F5.out, Below.refl _ _⟩
  refine wpIn_rangeFunc_ownF rfl (n := 4) (by omega) (gf := 135) (lb := #[.pointer (some ⟨C + 1, 0, none⟩), .pointer (some ⟨C, 0, none⟩)]) rfl trivial (enters_of Try.func135 (by kernel_rfl) rfl)
    HBS.out (fun h k => ⟨k.1.trans h.1, k.2.trans h.2⟩) (fun W l o o' hl _ _ _ => ⟨World.putObj_heap_other (by rw [HE5.out.1] at hl; omega), World.putObj_heap_other (by rw [HE5.out.1] at hl; omega)⟩) (Below.refl _ _) (fun _ => rfl)
    (fun pre W => (Kbx W N (dwk p ((pre.map (·.1)).map (nat_ x))) ∧ Blk W (N + 1) z16 26 ∧ Box W C (.int .i64 (x : Int)) 113 ∧ Box W (C + 1) (.int .i64 ((a : Int) + 1)) 3) ∧ Below N W5 W)
    (fun _ _ _ => False)
    (OwnFrom.and (Own.from (fun s A B' row hs hg hr => ⟨hs.1.kept hg hr, hs.2.1.kept hg hr, hs.2.2.1.kept hg hr, hs.2.2.2.kept hg hr⟩) _) (ownFrom_below (by rw [HE5.out.1]; have := HE5.out.2.2; omega) (by rw [HE5.out.1]; have := HE5.out.2.2; omega)))
    (fun _ _ _ _ _ hs _ _ => hs)
    hI0
    (fun z => { tmps := #[Value.agg (kl p.1 p.2).toArray, Value.int .i64 (m : Int), Value.int .i64 (x : Int), Value.pointer (some ⟨N, 0, none⟩), undef, undef, Value.pointer (some ⟨N + 1, 0, none⟩), Value.int .i64 (nat_ x z.1 : Int), undef, Value.int .i64 (x : Int), Value.int .i64 (m : Int), Value.int .i64 (a : Int), Value.int .i64 ((a : Int) + 1), Value.func (.func 135) #[] #[.pointer (some ⟨C + 1, 0, none⟩), .pointer (some ⟨C, 0, none⟩)], Value.int .i64 (nat_ x z.1 : Int), undef, undef, undef, undef, undef, undef], defers := [] }) ?assign ?body ?done ?stop
  case assign =>
    intro l z W K hK
    unfold lenc
    gi_wp2
    exact hK
  case body =>
    rintro l pre z W ⟨⟨h1, h2, h3, h4⟩, hB⟩ _
    obtain ⟨ns, hns⟩ : ∃ ns, ns = (pre.map (·.1)).map (nat_ x) := ⟨_, rfl⟩
    have hfin : ((pre ++ [z]).map (·.1)).map (nat_ x) = ns ++ [nat_ x z.1] := by rw [hns, List.map_append, List.map_append]; rfl
    rw [← hns] at h1
    have hz256 : nat_ x z.1 < 256 := by have := HNo.out z; have := HA.out; omega
    have hok := HOk.out ns
    have hsn := HSn.out ns (nat_ x z.1)
    rw [← hfin] at hsn
    obtain ⟨q, hq⟩ : ∃ q, q = dwk p ns := ⟨_, rfl⟩
    rw [← hq] at h1 hok hsn
    obtain ⟨v, hv⟩ : ∃ v, v = nat_ x z.1 := ⟨_, rfl⟩
    rw [← hv] at hz256 hsn ⊢
    have HLv2 := Lib.hid (fun w => HLf.out v w hz256)
    have HDq : Hid (∀ (t : Nat) (w : World), t < 256 → Calls Try.prog 67 #[.agg (kl q.1 q.2).toArray, .int .u8 (t : Int), .int .u64 0] w fun e w' => e = .returned (.agg (kl (drv q.1 q.2 t 0).1 (drv q.1 q.2 t 0).2).toArray) ∧ Below w.heap.size w w') := Lib.hid (fun t w ht => HDv.out q t w hok ht)
    have HFin := Lib.hid hsn
    have HK := Lib.hid (And.intro h1 (And.intro h2 (And.intro h3 h4)))
    have HBW := Lib.hid hB
    have hsz : N + 2 ≤ W.heap.size := by have := hB.size; rw [HE5.out.1] at this; have := HE5.out.2.2; omega
    have HSz := Lib.hid hsz
    have END : ∀ (s : Nat × Nat) (w5 : World), s = skp q v → Below W.heap.size W w5 → KeepsOthers W (w5.setCells N 0 (kl s.1 s.2)) ∧ Kp2 (C + 1) C W (w5.setCells N 0 (kl s.1 s.2)) ∧ (Kbx (w5.setCells N 0 (kl s.1 s.2)) N (dwk p (((pre ++ [z]).map (·.1)).map (nat_ x))) ∧ Blk (w5.setCells N 0 (kl s.1 s.2)) (N + 1) z16 26 ∧ Box (w5.setCells N 0 (kl s.1 s.2)) C (.int .i64 (x : Int)) 113 ∧ Box (w5.setCells N 0 (kl s.1 s.2)) (C + 1) (.int .i64 ((a : Int) + 1)) 3) ∧ Below N W5 (w5.setCells N 0 (kl s.1 s.2)) := fun s w5 hs hb => by
      have hC := HE5.out.2.2
      have g3 := Blk.setCells_other (HK.out.2.2.1.keep hb).blk N (kl s.1 s.2) (by omega)
      have g4 := Blk.setCells_other (HK.out.2.2.2.keep hb).blk N (kl s.1 s.2) (by omega)
      refine ⟨(keeps_below hb).trans (keeps_setCells _ _ _ _), ⟨g4.trans HK.out.2.2.2.symm, g3.trans HK.out.2.2.1.symm⟩, ⟨?_, Blk.setCells_other (HK.out.2.1.keep hb) N _ (by omega), g3, g4⟩, below_setCells _ _ _ _ (HBW.out.trans (hb.mono (by have := HSz.out; omega))) (Nat.le_refl _)⟩
      rw [HFin.out, ← hs]
      exact Kbx.stored (HK.out.1.keep hb) Kbx.size s
    have HEND := Lib.hid END
    have hkey := HK.out.1.at_
    have HT : Hid (∀ w5, Below W.heap.size W w5 → w5.there N 0 16) := Lib.hid (fun w5 hb => Kbx.there_ (HK.out.1.keep hb))
    clear END h1 h2 h3 h4 hB hsn hok hq hv hfin hns hsz
    have HKey := Lib.hid hkey
    clear hkey
    gi_wp2_with fail
    refine ⟨trivial, (CallsIn.inRound l (callsIn_wide.2 (HLv2.out _))).mono ?_⟩
    rintro e w' ⟨rfl, rfl⟩
    rcases Nat.mod_two_eq_zero_or_one v with hv2 | hv2
    · have HS : Hid (drv q.1 q.2 31 0 = skp q v) := Lib.hid (by unfold skp; rw [if_pos hv2])
      have HD31 := Lib.hid (fun w => HDq.out 31 w (by omega))
      rw [hv2]
      clear hv2
      gi_wp2_with (refine wpListIn_load_key l _ rfl _ rfl _ rfl q.1 q.2 HKey.out ?_)
      refine ⟨trivial, (CallsIn.inRound l (callsIn_wide.2 (HD31.out _))).mono ?_⟩
      rintro e w5 ⟨rfl, hb5⟩
      have HT5 := Lib.hid (HT.out w5 hb5)
      have HE9 := Lib.hid (HEND.out _ w5 HS.out hb5)
      clear hb5
      gi_wp2_with (refine wpListIn_store_key l _ rfl _ _ rfl N _ _ rfl rfl HT5.out ?_)
      exact HE9.out
    · have HS : Hid (drv q.1 q.2 32 0 = skp q v) := Lib.hid (by unfold skp; rw [if_neg (by omega)])
      have HD32 := Lib.hid (fun w => HDq.out 32 w (by omega))
      rw [hv2]
      clear hv2
      gi_wp2_with (refine wpListIn_load_key l _ rfl _ rfl _ rfl q.1 q.2 HKey.out ?_)
      refine ⟨trivial, (CallsIn.inRound l (callsIn_wide.2 (HD32.out _))).mono ?_⟩
      rintro e w5 ⟨rfl, hb5⟩
      have HT5 := Lib.hid (HT.out w5 hb5)
      have HE9 := Lib.hid (HEND.out _ w5 HS.out hb5)
      clear hb5
      gi_wp2_with (refine wpListIn_store_key l _ rfl _ _ rfl N _ _ rfl rfl HT5.out ?_)
      exact HE9.out
  case done =>
    rintro D ys W hD hys ⟨⟨h1, h2, h3, h4⟩, hB⟩ hK
    rw [pnd_levels m x a HA.out.1 ys hys, ← HR.out] at h1
    have HKey := Lib.hid (Kbx.at_ h1)
    have hT : W.there (N + 1) 0 16 := by have h := h2.there; simpa using h
    have HT := Lib.hid hT
    have HKD := Lib.hid hK
    have HBl := Lib.hid hB
    have HDD := Lib.hid hD
    clear h1 h2 h3 h4 hB hK hD hys hT
    go_wp2_with (first
      | (refine wpList_load_key rfl _ rfl _ rfl R.1 R.2 HKey.out ?_)
      | (refine wpList_store_key rfl _ _ rfl (N + 1) R.1 R.2 rfl rfl HT.out ?_))
    have hne : D ≠ N + 1 := by have := HDD.out; rw [HE5.out.1] at this; have := HE5.out.2.2; omega
    have hK3 : (W.setCells (N + 1) 0 (kl R.1 R.2)).heap[D]? = some (.deferred (some [])) := (heap_setCells_ne _ _ _ _ D hne).trans HKD.out
    refine ⟨by simp, .inl ⟨_, _, rfl, run_takeDeferred hK3, ?_⟩⟩
    refine ⟨_, results_key rfl _ _ (N + 1) R.1 R.2 rfl ((KeyAt.stored HT.out _ _).grown (grownBy_putObj' _ D _) (by show some (N + 1) ≠ some D; intro h; injection h with h; exact hne h.symm)), rfl, ?_⟩
    have hb3 : Below N w (W.setCells (N + 1) 0 (kl R.1 R.2)) := below_setCells _ _ _ _ (HE5.out.2.1.trans HBl.out) (by omega)
    exact hb3.trans (belowK_b (w := w) (by rw [HN.out]; exact Nat.le_refl _) _ D _ _ (by have := HDD.out; have := HE5.out; have := HN.out; omega) hK3 rfl rfl)
  case stop =>
    rintro D c pre W _ _ h _
    exact h.elim
end Go.Proofs.Ytchkgccnipejhaa

/-
  Labels in memory; KeyOf, the specification's.
-/
namespace Go.Proofs.Ytchkgccnipejhaa
open Go.RowKit TR L2 L2.SP
set_option linter.unusedVariables false
set_option linter.unusedSimpArgs false

/-- The cells of a label. -/
def lbl (v x : Int) (p : Nat × Nat) : List Value := [.int .i64 v, .int .i64 x] ++ kl p.1 p.2
abbrev lz18 : Array Value := #[.int .i64 0, .int .i64 0, .int .u8 0, .int .u8 0, .int .u8 0, .int .u8 0, .int .u8 0, .int .u8 0, .int .u8 0, .int .u8 0, .int .u8 0, .int .u8 0, .int .u8 0, .int .u8 0, .int .u8 0, .int .u8 0, .int .u8 0, .int .u8 0]
theorem lbl_len (v x : Int) (p : Nat × Nat) : (lbl v x p).length = 18 := by simp [lbl, kl_len]
theorem lbl_zero : (lbl 0 0 (0, 0)).toArray = lz18 := by kernel_rfl
theorem lbl_one (v x : Int) (p : Nat × Nat) : ∀ u ∈ lbl v x p, u.oneCell' = true := by
  intro u hu
  unfold lbl at hu
  rcases List.mem_append.1 hu with h | h
  · simp at h; rcases h with rfl | rfl <;> rfl
  · exact kl_one p.1 p.2 u h
theorem lbl_arr (v x : Int) (p : Nat × Nat) : (lbl v x p).toArray.all (·.oneCell') = true := all_oneCell_toArray (lbl_one v x p)
theorem sizeLab : (Try.prog.info? 82).map (·.size) = some 18 := by kernel_rfl
theorem infoLab : (Try.prog.info? 82).map (fun i => (i.zero, i.size, i.bytes)) = some (some (.agg lz18), 18, 32) := by kernel_rfl
theorem buildLab (v x : Int) (w : World) : (Instr.build 82 #[(0, .int .i64 v), (1, .int .i64 x)]).run Try.prog w = .ok (.agg (lbl v x (0, 0)).toArray) w := run_build w 82 _ _ (by kernel_rfl)
theorem buildLabK (v x : Int) (p : Nat × Nat) (w : World) : (Instr.build 82 #[(0, .int .i64 v), (1, .int .i64 x), (2, .agg (kl p.1 p.2).toArray)]).run Try.prog w = .ok (.agg (lbl v x p).toArray) w := run_build w 82 _ _ (by kernel_rfl)
theorem wp_buildLab {op : Oper} {a : Act} {w : World} {K : Act → World → Prop} {Q : Exit → Act → World → Prop} (p q : Operand) (ho : op.op = .build 82 #[(0, p), (1, q)]) (v x : Int) (hx : a.eval p = .int .i64 v) (hy : a.eval q = .int .i64 x)
    (h : K (a.put op.dst (.agg (lbl v x (0, 0)).toArray)) w) : op.wp Try.prog a w K Q := by
  unfold Oper.wp execOp
  simp only [ho, List.map_toArray, List.map_cons, List.map_nil, hx, hy, Sem.run_bind, buildLab, Result.andThen_ok]
  exact h
theorem wp_buildLabK {op : Oper} {a : Act} {w : World} {K : Act → World → Prop} {Q : Exit → Act → World → Prop} (p q r : Operand) (ho : op.op = .build 82 #[(0, p), (1, q), (2, r)]) (v x : Int) (k : Nat × Nat) (hx : a.eval p = .int .i64 v) (hy : a.eval q = .int .i64 x) (hk : a.eval r = .agg (kl k.1 k.2).toArray)
    (h : K (a.put op.dst (.agg (lbl v x k).toArray)) w) : op.wp Try.prog a w K Q := by
  unfold Oper.wp execOp
  simp only [ho, List.map_toArray, List.map_cons, List.map_nil, hx, hy, hk, Sem.run_bind, buildLabK, Result.andThen_ok]
  exact h
theorem wpList_buildLab {ops : Array Oper} {rest : List Oper} {op : Oper} {a : Act} {w : World} {Q : Exit → Act → World → Prop} (hgd : op.guard = none) (p q : Operand) (ho : op.op = .build 82 #[(0, p), (1, q)]) (v x : Int) (hx : a.eval p = .int .i64 v) (hy : a.eval q = .int .i64 x)
    (h : wpList Try.prog ops Q rest (a.put op.dst (.agg (lbl v x (0, 0)).toArray)) w) : wpList Try.prog ops Q (op :: rest) a w :=
  wpList_plain hgd fun _ hK => wp_buildLab p q ho v x hx hy (hK _ _ h)
theorem wpList_store_lab {ops : Array Oper} {rest : List Oper} {op : Oper} {a : Act} {w : World} {Q : Exit → Act → World → Prop} (hgd : op.guard = none) (x y : Operand) (ho : op.op = .store 82 x y)
    (b : Nat) (v z : Int) (p : Nat × Nat) (hx : a.eval x = .pointer (some ⟨b, 0, none⟩)) (hy : a.eval y = .agg (lbl v z p).toArray) (ht : w.there b 0 18)
    (h : wpList Try.prog ops Q rest (a.put op.dst undef) (w.setCells b 0 (lbl v z p))) : wpList Try.prog ops Q (op :: rest) a w :=
  wpList_store_mid hgd 82 x y ho b 0 (lbl v z p).toArray hx hy (by simpa [lbl_len] using ht) (by simp [lbl_len, sizeLab]) (lbl_arr v z p) (by simpa using h)
theorem wpList_load_lab {ops : Array Oper} {rest : List Oper} {op : Oper} {a : Act} {w : World} {Q : Exit → Act → World → Prop} (hgd : op.guard = none) (x : Operand) (ho : op.op = .load 82 x)
    (b : Nat) (hx : a.eval x = .pointer (some ⟨b, 0, none⟩)) (v z : Int) (p : Nat × Nat) (hc : w.rangeAt b 0 (lbl v z p))
    (h : wpList Try.prog ops Q rest (a.put op.dst (.agg (lbl v z p).toArray)) w) : wpList Try.prog ops Q (op :: rest) a w :=
  wpList_load_mid hgd 82 x ho b 0 hx (lbl v z p) _ hc Try.underlying82 rfl (by rw [lbl_len]; exact sizeLab) h
theorem wpList_store_keyo {ops : Array Oper} {rest : List Oper} {op : Oper} {a : Act} {w : World} {Q : Exit → Act → World → Prop} (hgd : op.guard = none) (x y : Operand) (ho : op.op = .store 26 x y)
    (b o : Nat) (p : Nat × Nat) (hx : a.eval x = .pointer (some ⟨b, o, none⟩)) (hy : a.eval y = .agg (kl p.1 p.2).toArray) (ht : w.there b o 16)
    (h : wpList Try.prog ops Q rest (a.put op.dst undef) (w.setCells b o (kl p.1 p.2))) : wpList Try.prog ops Q (op :: rest) a w :=
  wpList_store_mid hgd 26 x y ho b o (kl p.1 p.2).toArray hx hy (by simpa [kl_len] using ht) (by simp [kl_len, size23]) (kl_arr p.1 p.2) (by simpa using h)
theorem results_lab {fn : Func} {r : Tmp} (h : fn.results = #[.cell r 82]) (tmps : Array Value) (w : World) (b : Nat) (v x : Int) (p : Nat × Nat)
    (hp : tmps.getD r undef = .pointer (some ⟨b, 0, none⟩)) (hc : w.rangeAt b 0 (lbl v x p)) : (results fn tmps).run Try.prog w = .ok (.agg (lbl v x p).toArray) w := by
  have hp' : tmps[r]?.getD undef = .pointer (some ⟨b, 0, none⟩) := by simpa using hp
  simp [results, h, hp', asAddr, run_loadVar_mid w b 0 82 (lbl v x p) _ hc Try.underlying82 rfl (by rw [lbl_len]; exact sizeLab)]
/-- A block that holds a label. -/
abbrev Lbx (w : World) (b : Nat) (v x : Int) (p : Nat × Nat) : Prop := Blk w b (lbl v x p).toArray 82
theorem Lbx.stored {w : World} {b : Nat} {cs : Array Value} (h : Blk w b cs 82) (hs : cs.size = 18) (v x : Int) (p : Nat × Nat) : Lbx (w.setCells b 0 (lbl v x p)) b v x p := Blk.setAll h _ (by rw [lbl_len, hs])
theorem Lbx.key {w : World} {b : Nat} {v x : Int} {p : Nat × Nat} (h : Lbx w b v x p) (q : Nat × Nat) : Lbx (w.setCells b 2 (kl q.1 q.2)) b v x q := by
  obtain ⟨cs', h1, h2, h3⟩ := Blk.setn (kl q.1 q.2) 2 h
  have e : cs' = (lbl v x q).toArray := by
    apply Array.ext
    · simp [h2, lbl_len]
    · intro i hi1 hi2
      have h4 := h3 i (by omega)
      rw [Array.getElem?_eq_getElem hi1] at h4
      simp only [List.size_toArray, lbl_len] at hi2
      rw [kl_len] at h4
      have h5 : (lbl v x q)[i]? = if 2 ≤ i ∧ i < 2 + 16 then (kl q.1 q.2)[i - 2]? else (lbl v x p).toArray[i]? := by
        rcases i with _ | _ | i
        · rfl
        · rfl
        · rw [if_pos (by omega)]; rfl
      rw [← h5, List.getElem?_eq_getElem (by rw [lbl_len]; exact hi2)] at h4
      simpa using h4
  rw [e] at h1; exact h1
theorem Lbx.range {w : World} {b : Nat} {v x : Int} {p : Nat × Nat} (h : Lbx w b v x p) : w.rangeAt b 0 (lbl v x p) := by
  have h1 := Blk.range h; simpa using h1
theorem Lbx.there_ {w : World} {b : Nat} {v x : Int} {p : Nat × Nat} (h : Lbx w b v x p) : w.there b 0 18 := by
  have h1 := Blk.there h; simpa [lbl_len] using h1
theorem Lbx.there2 {w : World} {b : Nat} {v x : Int} {p : Nat × Nat} (h : Lbx w b v x p) : w.there b 2 16 := fun j hj => by
  have h1 := h.there_ (2 + j) (by omega)
  rwa [Nat.zero_add] at h1

/-- The key of (v, x). -/
def kof (K : Int) (p : Nat × Nat) (v x : Nat) : Nat × Nat := if K = 1 then ndk p v else if x = 0 then drv p.1 p.2 34 0 else drv (lbk p v x).1 (lbk p v x).2 33 0
theorem kof_ok (K : Int) {p : Nat × Nat} (h : Ok p) (v x : Nat) (hv : v < 256) : Ok (kof K p v x) := by
  unfold kof
  split
  · exact ndk_ok h v hv
  · split
    · exact drv_ok h.1 h.2 (by omega) (by unfold M; omega)
    · have h1 := lbk_ok h v x hv
      exact drv_ok h1.1 h1.2 (by omega) (by unfold M; omega)

end Go.Proofs.Ytchkgccnipejhaa

/-
  labelFor, the program's.
-/
namespace Go.Proofs.Ytchkgccnipejhaa
open Go.RowKit TR L2 L2.SP
set_option linter.unusedVariables false
set_option linter.unusedSimpArgs false

set_option maxRecDepth 100000 in
set_option maxHeartbeats 400000 in
theorem labelFor_any (p : Nat × Nat) (K D E : Int) (P Q G v x : Nat) (w : World) (hp : Ok p) (hv1 : 1 ≤ v) (hv : v < 256) (hx : x < 256) (hle : K ≠ 1 → x ≠ 0 → lv v ≤ lv x) :
    Calls Try.prog 80 #[.agg (kl p.1 p.2).toArray, .agg #[.int .u8 K, .int .i64 D, .int .i64 E, .int .u64 (P : Int), .int .u64 (Q : Int), .int .u64 (G : Int)], .agg #[.int .i64 (v : Int), .int .i64 (x : Int)]] w fun e w' => e = .returned (.agg (lbl v x (sky K p v x)).toArray) ∧ Below w.heap.size w w' := by
  obtain ⟨N, hN⟩ : ∃ N, N = w.heap.size := ⟨_, rfl⟩
  obtain ⟨W4, hW4⟩ : ∃ W4, W4 = (((w.alloc (.cells (kl p.1 p.2).toArray 26)).alloc (.cells #[.int .u8 K, .int .i64 D, .int .i64 E, .int .u64 (P : Int), .int .u64 (Q : Int), .int .u64 (G : Int)] 45)).alloc (.cells #[.int .i64 (v : Int), .int .i64 (x : Int)] 56)).alloc (.cells lz18 82) := ⟨_, rfl⟩
  have s4 : W4.heap.size = N + 4 := by rw [hW4, hN]; simp
  have b4 : Below N w W4 := by rw [hW4, hN]; exact (below_alloc _ _).trans (((below_alloc _ _).mono (by simp)).trans (((below_alloc _ _).mono (by simp; omega)).trans ((below_alloc _ _).mono (by simp; omega))))
  have e1 : Kbx W4 N p := by rw [hW4, hN]; exact (((Blk.new w _ _).keep (below_alloc _ _)).keep (below_alloc _ _)).keep (below_alloc _ _)
  have e2 : Blk W4 (N + 1) #[.int .u8 K, .int .i64 D, .int .i64 E, .int .u64 (P : Int), .int .u64 (Q : Int), .int .u64 (G : Int)] 45 := by
    have h := ((Blk.new (w.alloc (.cells (kl p.1 p.2).toArray 26)) #[.int .u8 K, .int .i64 D, .int .i64 E, .int .u64 (P : Int), .int .u64 (Q : Int), .int .u64 (G : Int)] 45).keep (below_alloc _ (.cells #[.int .i64 (v : Int), .int .i64 (x : Int)] 56))).keep (below_alloc _ (.cells lz18 82))
    rw [World.size_alloc, ← hN] at h; rw [hW4]; exact h
  have e3 : Blk W4 (N + 2) #[.int .i64 (v : Int), .int .i64 (x : Int)] 56 := by
    have h := (Blk.new ((w.alloc (.cells (kl p.1 p.2).toArray 26)).alloc (.cells #[.int .u8 K, .int .i64 D, .int .i64 E, .int .u64 (P : Int), .int .u64 (Q : Int), .int .u64 (G : Int)] 45)) #[.int .i64 (v : Int), .int .i64 (x : Int)] 56).keep (below_alloc _ (.cells lz18 82))
    rw [World.size_alloc, World.size_alloc, ← hN] at h; rw [hW4]; exact h
  have e4 : Blk W4 (N + 3) lz18 82 := by
    have h := Blk.new (((w.alloc (.cells (kl p.1 p.2).toArray 26)).alloc (.cells #[.int .u8 K, .int .i64 D, .int .i64 E, .int .u64 (P : Int), .int .u64 (Q : Int), .int .u64 (G : Int)] 45)).alloc (.cells #[.int .i64 (v : Int), .int .i64 (x : Int)] 56)) lz18 82
    rw [World.size_alloc, World.size_alloc, World.size_alloc, ← hN] at h; rw [hW4]; exact h
  have HE := Lib.hid (And.intro s4 (And.intro b4 (And.intro e1 (And.intro e2 (And.intro e3 e4)))))
  have HN := Lib.hid hN
  have HW := Lib.hid hW4
  rw [← hN]
  have c0 : W4.cell? ⟨N + 1, 0, none⟩ = some (.int .u8 K) := e2.cell 0
  have z0 : W4.cell? ⟨N + 2, 0, none⟩ = some (.int .i64 (v : Int)) := e3.cell 0
  have z1 : W4.cell? ⟨N + 2, 1, none⟩ = some (.int .i64 (x : Int)) := e3.cell 1
  rw [hW4, hN] at c0 z0 z1
  obtain ⟨q, hq⟩ : ∃ q, q = sky K p v x := ⟨_, rfl⟩
  have HQ := Lib.hid hq
  rw [← hq]
  clear hN hW4 s4 b4 e1 e2 e3 e4 hq
  go_enter Try.func80, Try.ntmps80
  go_wp2_with fail
  rw [← HW.out, ← HN.out]
  clear c0 z0 z1
  simp only [Nat.add_assoc, Nat.reduceAdd]
  refine wp_region_inv (by kernel_rfl) (by kernel_rfl) (fun l a' w' => a' = { tmps := #[Value.agg (kl p.fst p.snd).toArray, Value.agg #[Value.int IntKind.u8 K, Value.int IntKind.i64 D, Value.int IntKind.i64 E, Value.int IntKind.u64 P, Value.int IntKind.u64 Q, Value.int IntKind.u64 G], Value.agg #[Value.int IntKind.i64 v, Value.int IntKind.i64 x], Value.pointer (some ⟨N, 0, none⟩), Value.pointer (some ⟨N + 1, 0, none⟩), Value.pointer (some ⟨N + 2, 0, none⟩), Value.pointer (some ⟨N + 3, 0, none⟩), bif l 4 then Value.int .i64 (v : Int) else undef, bif l 5 then Value.int .i64 (x : Int) else undef, undef, bif l 0 then Value.pointer (some ⟨N + 2, 0, none⟩) else undef, bif l 1 then Value.int .i64 (v : Int) else undef, bif l 2 then Value.pointer (some ⟨N + 2, 1, none⟩) else undef, bif l 3 then Value.int .i64 (x : Int) else undef, undef, undef, undef, undef, undef, undef, undef, undef, undef, undef, undef, undef, undef, undef, undef, undef, undef, undef, undef, undef, undef, undef, undef, undef, undef, undef, undef], defers := [] } ∧ w' = W4.drew) ⟨rfl, rfl⟩ ?_ ?_
  · rintro l a' w' i ⟨rfl, rfl⟩ hi hli hpre
    have hi2 : i < 6 := hi
    have hcase : i = 0 ∨ i = 1 ∨ i = 2 ∨ i = 3 ∨ i = 4 ∨ i = 5 := by omega
    clear hi hi2
    rcases hcase with rfl | rfl | rfl | rfl | rfl | rfl
    · -- 0: Op.fieldAddr 35 (Operand.tmp 5) 0
      refine wpOp_step rfl (fun K' hK => ?_)
      clear hpre
      rw [if_pos (by rfl)]
      go_simp
      exact hK _ _ ⟨by simp [upd, Act.put], rfl⟩
    · -- 1: Op.load 3 (Operand.tmp 10)
      have p0 : l 0 = true := hpre _ rfl ⟨0, .data⟩ (by simp) rfl
      refine wpOp_step rfl (fun K' hK => ?_)
      simp only [p0, cond_true, cond_false]
      clear hpre
      rw [if_pos (by rfl)]
      have g0 : W4.drew.cell? ⟨N + 2, 0, none⟩ = some (.int .i64 (v : Int)) := HE.out.2.2.2.2.1.cell 0
      go_simp
      exact hK _ _ ⟨by simp [upd, Act.put, p0], rfl⟩
    · -- 2: Op.fieldAddr 35 (Operand.tmp 5) 1
      refine wpOp_step rfl (fun K' hK => ?_)
      clear hpre
      rw [if_pos (by rfl)]
      go_simp
      exact hK _ _ ⟨by simp [upd, Act.put], rfl⟩
    · -- 3: Op.load 3 (Operand.tmp 12)
      have p2 : l 2 = true := hpre _ rfl ⟨2, .data⟩ (by simp) rfl
      refine wpOp_step rfl (fun K' hK => ?_)
      simp only [p2, cond_true, cond_false]
      clear hpre
      rw [if_pos (by rfl)]
      have g1 : W4.drew.cell? ⟨N + 2, 1, none⟩ = some (.int .i64 (x : Int)) := HE.out.2.2.2.2.1.cell 1
      go_simp
      exact hK _ _ ⟨by simp [upd, Act.put, p2], rfl⟩
    · -- 4: Op.assign (Operand.tmp 11)
      have p1 : l 1 = true := hpre _ rfl ⟨1, .data⟩ (by simp) rfl
      have p0 : l 0 = true := hpre _ rfl ⟨0, .phase⟩ (by simp) rfl
      refine wpOp_step rfl (fun K' hK => ?_)
      simp only [p1, p0, cond_true, cond_false]
      clear hpre
      rw [if_pos (by rfl)]
      go_simp
      exact hK _ _ ⟨by simp [upd, Act.put, p1, p0], rfl⟩
    · -- 5: Op.assign (Operand.tmp 13)
      have p3 : l 3 = true := hpre _ rfl ⟨3, .data⟩ (by simp) rfl
      have p4 : l 4 = true := hpre _ rfl ⟨4, .chain⟩ (by simp) rfl
      have p0 : l 0 = true := hpre _ rfl ⟨0, .phase⟩ (by simp) rfl
      have p1 : l 1 = true := hpre _ rfl ⟨1, .phase⟩ (by simp) rfl
      have p2 : l 2 = true := hpre _ rfl ⟨2, .phase⟩ (by simp) rfl
      refine wpOp_step rfl (fun K' hK => ?_)
      simp only [p3, p4, p0, p1, p2, cond_true, cond_false]
      clear hpre
      rw [if_pos (by rfl)]
      go_simp
      exact hK _ _ ⟨by simp [upd, Act.put, p3, p4, p0, p1, p2], rfl⟩
  · rintro l a' w9 hall ⟨rfl, rfl⟩
    simp only [hall 0 (by decide), hall 1 (by decide), hall 2 (by decide), hall 3 (by decide), hall 4 (by decide), hall 5 (by decide), cond_true]
    clear hall
    obtain ⟨W5, hW5⟩ : ∃ W5, W5 = W4.drew := ⟨_, rfl⟩
    rw [← hW5]
    have b45 : Below W4.heap.size W4 W5 := by rw [hW5]; exact (Below.refl _ _).drew
    have s5 : W5.heap.size = N + 4 := by rw [hW5]; exact HE.out.1
    have H5 := Lib.hid (And.intro b45 s5)
    have z0 : W5.cell? ⟨N + 2, 0, none⟩ = some (.int .i64 (v : Int)) := (HE.out.2.2.2.2.1.keep b45).cell 0
    have z1 : W5.cell? ⟨N + 2, 1, none⟩ = some (.int .i64 (x : Int)) := (HE.out.2.2.2.2.1.keep b45).cell 1
    clear hW5 b45 s5
    have hA := Blk.new W5 lz18 82
    have hth : (W5.alloc (.cells lz18 82)).there W5.heap.size 0 18 := by have h := hA.there; simpa using h
    obtain ⟨W6, hW6⟩ : ∃ W6, W6 = (W5.alloc (.cells lz18 82)).setCells W5.heap.size 0 (lbl v x (0, 0)) := ⟨_, rfl⟩
    have b56 : Below W5.heap.size W5 W6 := by rw [hW6]; exact below_setCells _ _ _ _ (below_alloc _ _) (Nat.le_refl _)
    have hl6 : Lbx W6 (N + 4) v x (0, 0) := by rw [hW6, ← H5.out.2]; exact Lbx.stored hA rfl _ _ _
    have s6 : W6.heap.size = N + 5 := by rw [hW6, size_setCells]; simp [H5.out.2]
    have b46 : Below W4.heap.size W4 W6 := H5.out.1.trans (b56.mono H5.out.1.size)
    have H6 := Lib.hid (And.intro b46 (And.intro hl6 s6))
    have HK6 := Lib.hid (Kbx.at_ (HE.out.2.2.1.keep b46))
    have HW6 := Lib.hid hW6
    have hs5 : W5.heap.size = N + 4 := H5.out.2
    have c0 : W6.cell? ⟨N + 1, 0, none⟩ = some (.int .u8 K) := (HE.out.2.2.2.1.keep b46).cell 0
    rw [hW6] at c0
    have HS5 := Lib.hid hs5
    clear hs5
    have HTh := Lib.hid hth
    have END : ∀ w7, Below W6.heap.size W6 w7 → (w7.there (N + 4) 2 16) ∧ ((w7.setCells (N + 4) 2 (kl q.1 q.2)).rangeAt (N + 4) 0 (lbl v x q)) ∧ ((w7.setCells (N + 4) 2 (kl q.1 q.2)).there (N + 3) 0 18) ∧ (((w7.setCells (N + 4) 2 (kl q.1 q.2)).setCells (N + 3) 0 (lbl v x q)).rangeAt (N + 3) 0 (lbl v x q)) ∧ Below N w ((w7.setCells (N + 4) 2 (kl q.1 q.2)).setCells (N + 3) 0 (lbl v x q)) := fun w7 hb => by
      have a1 := H6.out.2.1.keep hb
      have a2 := Lbx.key a1 q
      have a3 := (HE.out.2.2.2.2.2.keep (H6.out.1.trans (hb.mono H6.out.1.size))).setCells_other (N + 4) (kl q.1 q.2) (by omega) 2
      have a4 : (w7.setCells (N + 4) 2 (kl q.1 q.2)).there (N + 3) 0 18 := by have h := a3.there; simpa using h
      exact ⟨Lbx.there2 a1, Lbx.range a2, a4, Lbx.range (Lbx.stored a3 rfl _ _ _), below_setCells _ _ _ _ (below_setCells _ _ _ _ (HE.out.2.1.trans ((H6.out.1.trans (hb.mono H6.out.1.size)).mono (by rw [HE.out.1]; omega))) (by omega)) (by omega)⟩
    have HEND := Lib.hid END
    clear END hW6 b56 hl6 s6 b46 hA hth
    by_cases hK : K = 1
    · subst hK
      have HD : Hid (∀ w, Calls Try.prog 127 #[.agg (kl p.1 p.2).toArray, .int .i64 (v : Int)] w fun e w' => e = .returned (.agg (kl q.1 q.2).toArray) ∧ Below w.heap.size w w') := Lib.hid (fun w => by
        have h := nodeKey_any p v w hp hv
        have e : q = ndk p v := by rw [HQ.out]; rfl
        rw [e]; exact h)
      clear hp hle hx hv hv1
      go_wp2_with (first
              | ((with_reducible show wpList _ _ _ (Oper.mk _ (Op.build 82 _) _ _ _ _ :: _) _ _); refine wpList_buildLab rfl _ _ rfl _ _ rfl rfl ?_)
              | ((with_reducible show wpList _ _ _ (Oper.mk _ (Op.store 82 _ _) _ _ _ _ :: _) _ _); refine wpList_store_lab rfl _ _ rfl _ _ _ _ rfl rfl HTh.out ?_)
              | ((with_reducible show wpList _ _ _ (Oper.mk _ (Op.load 26 _) _ _ _ _ :: _) _ _); refine wpList_load_key rfl _ rfl _ rfl _ _ (by rw [← HW6.out]; exact HK6.out) ?_))
      rw [← HW6.out, HS5.out]
      refine (HD.out _).mono ?_
      rintro e w7 ⟨rfl, hb7⟩
      have H7 := Lib.hid (HEND.out w7 hb7)
      clear hb7 c0 z0 z1
      go_wp2_with (first
        | ((with_reducible show wpList _ _ _ (Oper.mk _ (Op.store 26 _ _) _ _ _ _ :: _) _ _); refine wpList_store_keyo rfl _ _ rfl _ _ _ rfl rfl H7.out.1 ?_)
        | ((with_reducible show wpList _ _ _ (Oper.mk _ (Op.load 82 _) _ _ _ _ :: _) _ _); refine wpList_load_lab rfl _ rfl _ rfl _ _ _ H7.out.2.1 ?_)
        | ((with_reducible show wpList _ _ _ (Oper.mk _ (Op.store 82 _ _) _ _ _ _ :: _) _ _); refine wpList_store_lab rfl _ _ rfl _ _ _ _ rfl rfl H7.out.2.2.1 ?_))
      exact bodyPost_ret (results_lab rfl _ _ (N + 3) v x q rfl H7.out.2.2.2.1) rfl ⟨rfl, H7.out.2.2.2.2⟩
    · have hKn : (K == 1) = false := beq_eq_false_iff_ne.2 hK
      by_cases hx0 : x = 0
      · have HD : Hid (∀ w, Calls Try.prog 67 #[.agg (kl p.1 p.2).toArray, .int .u8 34, .int .u64 0] w fun e w' => e = .returned (.agg (kl q.1 q.2).toArray) ∧ Below w.heap.size w w') := Lib.hid (fun w => by
          have h := derive_any p.1 p.2 34 0 w hp.1 hp.2 (by omega) (by unfold M; omega)
          have e : q = drv p.1 p.2 34 0 := by rw [HQ.out]; unfold sky; rw [if_neg hK, if_pos hx0]
          rw [e]; exact h)
        have hxi : ((x : Int) == 0) = true := beq_iff_eq.2 (by omega)
        clear hp hle hx hv hv1 hx0 hK
        go_wp2_with (first
                | ((with_reducible show wpList _ _ _ (Oper.mk _ (Op.build 82 _) _ _ _ _ :: _) _ _); refine wpList_buildLab rfl _ _ rfl _ _ rfl rfl ?_)
                | ((with_reducible show wpList _ _ _ (Oper.mk _ (Op.store 82 _ _) _ _ _ _ :: _) _ _); refine wpList_store_lab rfl _ _ rfl _ _ _ _ rfl rfl HTh.out ?_)
                | ((with_reducible show wpList _ _ _ (Oper.mk _ (Op.load 26 _) _ _ _ _ :: _) _ _); refine wpList_load_key rfl _ rfl _ rfl _ _ (by rw [← HW6.out]; exact HK6.out) ?_))
        rw [← HW6.out, HS5.out]
        refine (HD.out _).mono ?_
        rintro e w7 ⟨rfl, hb7⟩
        have H7 := Lib.hid (HEND.out w7 hb7)
        clear hb7 c0 z0 z1
        go_wp2_with (first
          | ((with_reducible show wpList _ _ _ (Oper.mk _ (Op.store 26 _ _) _ _ _ _ :: _) _ _); refine wpList_store_keyo rfl _ _ rfl _ _ _ rfl rfl H7.out.1 ?_)
          | ((with_reducible show wpList _ _ _ (Oper.mk _ (Op.load 82 _) _ _ _ _ :: _) _ _); refine wpList_load_lab rfl _ rfl _ rfl _ _ _ H7.out.2.1 ?_)
          | ((with_reducible show wpList _ _ _ (Oper.mk _ (Op.store 82 _ _) _ _ _ _ :: _) _ _); refine wpList_store_lab rfl _ _ rfl _ _ _ _ rfl rfl H7.out.2.2.1 ?_))
        exact bodyPost_ret (results_lab rfl _ _ (N + 3) v x q rfl H7.out.2.2.2.1) rfl ⟨rfl, H7.out.2.2.2.2⟩
      · have hxn : ((x : Int) == 0) = false := beq_eq_false_iff_ne.2 (by omega)
        have HNk := Lib.hid (fun w => nodeKey_any p v w hp hv)
        have HLw : Hid (∀ w, Calls Try.prog 128 #[.agg (kl (ndk p v).1 (ndk p v).2).toArray, .int .i64 (v : Int), .int .i64 (x : Int)] w fun e w' => e = .returned (.agg (kl q.1 q.2).toArray) ∧ Below w.heap.size w w') := Lib.hid (fun w => by
          have h := lower_any (ndk p v) v x w (ndk_ok hp v hv) hv1 hv (by omega) hx (hle hK hx0)
          have e : q = dwk (ndk p v) (pnd v x) := by rw [HQ.out]; unfold sky; rw [if_neg hK, if_neg hx0]; rfl
          rw [e]; exact h)
        obtain ⟨n, hn⟩ : ∃ n, n = ndk p v := ⟨_, rfl⟩
        rw [← hn] at HNk HLw
        clear hp hle hx hv hv1 hx0 hK hn
        go_wp2_with (first
                | ((with_reducible show wpList _ _ _ (Oper.mk _ (Op.build 82 _) _ _ _ _ :: _) _ _); refine wpList_buildLab rfl _ _ rfl _ _ rfl rfl ?_)
                | ((with_reducible show wpList _ _ _ (Oper.mk _ (Op.store 82 _ _) _ _ _ _ :: _) _ _); refine wpList_store_lab rfl _ _ rfl _ _ _ _ rfl rfl HTh.out ?_)
                | ((with_reducible show wpList _ _ _ (Oper.mk _ (Op.load 26 _) _ _ _ _ :: _) _ _); refine wpList_load_key rfl _ rfl _ rfl _ _ (by rw [← HW6.out]; exact HK6.out) ?_))
        rw [← HW6.out, HS5.out]
        refine (HNk.out _).mono ?_
        rintro e w7 ⟨rfl, hb7⟩
        have HB7 := Lib.hid hb7
        clear hb7 c0 z0 z1
        go_wp2_with fail
        refine (HLw.out _).mono ?_
        rintro e w8 ⟨rfl, hb8⟩
        have H7 := Lib.hid (HEND.out w8 (HB7.out.trans (hb8.mono HB7.out.size)))
        clear hb8
        go_wp2_with (first
          | ((with_reducible show wpList _ _ _ (Oper.mk _ (Op.store 26 _ _) _ _ _ _ :: _) _ _); refine wpList_store_keyo rfl _ _ rfl _ _ _ rfl rfl H7.out.1 ?_)
          | ((with_reducible show wpList _ _ _ (Oper.mk _ (Op.load 82 _) _ _ _ _ :: _) _ _); refine wpList_load_lab rfl _ rfl _ rfl _ _ _ H7.out.2.1 ?_)
          | ((with_reducible show wpList _ _ _ (Oper.mk _ (Op.store 82 _ _) _ _ _ _ :: _) _ _); refine wpList_store_lab rfl _ _ rfl _ _ _ _ rfl rfl H7.out.2.2.1 ?_))
        exact bodyPost_ret (results_lab rfl _ _ (N + 3) v x q rfl H7.out.2.2.2.1) rfl ⟨rfl, H7.out.2.2.2.2⟩
end Go.Proofs.Ytchkgccnipejhaa
