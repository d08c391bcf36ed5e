/-
  Texts joined into one: SecF, SecG, SecH, SecI, SecJ.
-/
import Derived.Test.YtchkgccnipejhaaJC
import Derived.Test.YtchkgccnipejhaaJD
import Derived.Great.BuildSlice
import Derived.Laws.StructEq

/-
  Receivers; lists of labels; secrets in memory.
-/
namespace Go.Proofs.Ytchkgccnipejhaa
open Go.RowKit TR L2 L2.SP
set_option linter.unusedVariables false
set_option linter.unusedSimpArgs false

/-- Whether a number is a receiver. -/
def isr (D u : Int) : Bool := decide (0 ≤ u ∧ u < ((2 ^ D.toNat : Nat) : Int))

set_option maxRecDepth 100000 in
set_option maxHeartbeats 800000 in
theorem isReceiver_any (K D E u : Int) (P Q G : Nat) (w : World) (d1 : 0 ≤ D) (d2 : D ≤ 6) :
    Calls Try.prog 78 #[.agg #[.int .u8 K, .int .i64 D, .int .i64 E, .int .u64 (P : Int), .int .u64 (Q : Int), .int .u64 (G : Int)], .int .i64 u] w fun e w' => e = .returned (.bool (isr D u)) ∧ Below w.heap.size w w' := by
  by_cases hu : 0 ≤ u ∧ u < ((2 ^ D.toNat : Nat) : Int)
  · have H : Hid (isr D u = true) := Lib.hid (decide_eq_true hu)
    obtain ⟨u1, u2⟩ := hu
    rcases (by omega : D = 0 ∨ D = 1 ∨ D = 2 ∨ D = 3 ∨ D = 4 ∨ D = 5 ∨ D = 6) with rfl | rfl | rfl | rfl | rfl | rfl | rfl
    all_goals
      (simp only [Int.reduceToNat, Nat.reducePow, Int.cast_ofNat_Int] at u2)
      go_enter Try.func78, Try.ntmps78
      go_wp2
      go_ret
      exact ⟨by rw [H.out]; first | rfl | (simp; done) | (simp; omega), by first | exact (Below.refl _ _).alloc (Nat.le_refl _) _ | exact Below.refl _ _⟩
  · have H : Hid (isr D u = false) := Lib.hid (decide_eq_false hu)
    rcases (by omega : u < 0 ∨ (0 ≤ u ∧ ((2 ^ D.toNat : Nat) : Int) ≤ u)) with u1 | ⟨u1, u2⟩
    · clear hu
      go_enter Try.func78, Try.ntmps78
      go_wp2
      go_ret
      exact ⟨by rw [H.out]; first | rfl | (simp; done) | (simp; omega), by first | exact (Below.refl _ _).alloc (Nat.le_refl _) _ | exact Below.refl _ _⟩
    · clear hu
      rcases (by omega : D = 0 ∨ D = 1 ∨ D = 2 ∨ D = 3 ∨ D = 4 ∨ D = 5 ∨ D = 6) with rfl | rfl | rfl | rfl | rfl | rfl | rfl
      all_goals
        (simp only [Int.reduceToNat, Nat.reducePow, Int.cast_ofNat_Int] at u2)
        go_enter Try.func78, Try.ntmps78
        go_wp2
        go_ret
        exact ⟨by rw [H.out]; first | rfl | (simp; done) | (simp; omega), by first | exact (Below.refl _ _).alloc (Nat.le_refl _) _ | exact Below.refl _ _⟩

/-- The cells of a list of labels. -/
def lbs (K : Int) (p : Nat × Nat) (ps : List (Nat × Nat)) : List Value := ps.flatMap fun t => lbl (t.1 : Int) (t.2 : Int) (sky K p t.1 t.2)
theorem lbs_snoc (K : Int) (p : Nat × Nat) (ps : List (Nat × Nat)) (t : Nat × Nat) : lbs K p (ps ++ [t]) = lbs K p ps ++ lbl (t.1 : Int) (t.2 : Int) (sky K p t.1 t.2) := by unfold lbs; rw [List.flatMap_append]; simp
theorem isb_facts {K : Int} {d a b : Nat} (h : isb K d (a : Int) (b : Int) = true) (hK : K ≠ 1) (hb : b ≠ 0) : abv a b = true := by
  have hb1 : ¬ ((b : Int) = 0) := by omega
  unfold isb at h
  rw [if_neg hK, if_neg hb1] at h
  simp only [Bool.and_eq_true, Int.toNat_natCast] at h
  exact h.2.2.2.1
/-- A pair of nodes that a label may have. -/
def PrOk (K : Int) (t : Nat × Nat) : Prop := 1 ≤ t.1 ∧ t.1 < 256 ∧ t.2 < 256 ∧ (K ≠ 1 → t.2 ≠ 0 → abv t.1 t.2 = true)
theorem plc_ok (K : Int) (d r : Nat) (hd : d < 7) (hr : r < 2 ^ d) : ∀ t ∈ plc K d (2 ^ d + r), PrOk K t := by
  have h64 := p64 hd
  have hl := leaf_lv hd hr
  have hno : ∀ l, l ≤ d → 1 ≤ nat_ (2 ^ d + r) l ∧ nat_ (2 ^ d + r) l < 128 := fun l h => by
    have h1 := nat_ok (2 ^ d + r) l (by omega) (by omega) (by rw [hl]; exact h)
    omega
  intro t ht
  unfold plc plf at ht
  rw [hl] at ht
  rcases List.mem_append.1 ht with h | h
  · unfold pre0 at h
    split at h
    · simp at h
    · simp at h; subst h; exact ⟨by simp, by simp, by simp, fun _ h => absurd rfl h⟩
  · obtain ⟨l, hl1, hl2⟩ := List.mem_flatMap.1 h
    have hld : l ≤ d := by have := List.mem_range.1 hl1; omega
    unfold rowl at hl2
    split at hl2
    · simp at hl2; subst hl2
      exact ⟨(hno l hld).1, by have := (hno l hld).2; omega, by simp, fun _ h => absurd rfl h⟩
    · unfold rin at hl2
      obtain ⟨h1, h2⟩ := List.mem_filter.1 hl2
      obtain ⟨i, hi, rfl⟩ := List.mem_map.1 h1
      have hi1 := List.mem_range.1 hi
      rw [hl] at hi1
      have hx := (hno (l + 1 + i) (by omega)).2
      have hx2 : nat_ (2 ^ d + r) (l + 1 + i) ^^^ 1 < 128 := Nat.xor_lt_two_pow (n := 7) hx (by decide)
      exact ⟨(hno l hld).1, by have := (hno l hld).2; show _ < 256; omega, by show _ < 256; omega, fun hK hb => isb_facts h2 hK hb⟩
theorem plc_len (K : Int) (d r : Nat) (hd : d < 7) (hr : r < 2 ^ d) : (plc K d (2 ^ d + r)).length ≤ 64 := by
  have hl := leaf_lv hd hr
  have h := plf_len K d (2 ^ d + r) (by omega) (List.range (lv (2 ^ d + r) + 1))
  unfold plc
  rw [List.length_range, hl] at h
  rw [hl]
  omega
/-- The cells of a secret. -/
abbrev sc4 (r : Int) (v : Value) : Array Value := #[.int .i64 r, v, .int .u64 0, .int .u64 0]
theorem sizeSec : (Try.prog.info? 72).map (·.size) = some 4 := by kernel_rfl
theorem infoLabs : (Try.prog.info? 82).map (fun i => (i.zero, i.size, i.bytes)) = some (some (.agg lz18), 18, 32) := infoLab
/-- What stands behind 'c.Labels = append(c.Labels, ..)' where c lies in a block. -/
theorem app_sec {W w1 : World} {N sb n m : Nat} {r : Int} {v v2 : Value} {xs ys : List Value} (hv : Blk W sb (sc4 r v) 72) (hrow : W.ownsRow N 82 18 v n xs) (hg : W.grownBy w1 v.ownBlock)
    (ho : w1.ownsRow N 82 18 v2 m ys) (hN : N ≤ W.heap.size) (hlb : N ≤ sb) :
    Blk (w1.setCell ⟨sb, 1, none⟩ v2) sb (sc4 r v2) 72 ∧ (w1.setCell ⟨sb, 1, none⟩ v2).ownsRow N 82 18 v2 m ys ∧ Below N W (w1.setCell ⟨sb, 1, none⟩ v2) ∧
      (∀ b cs t, b ≠ sb → 82 ≠ t → Blk W b cs t → Blk (w1.setCell ⟨sb, 1, none⟩ v2) b cs t) := by
  have hv1 : Blk w1 sb (sc4 r v) 72 := hv.grown hg (hv.apart hrow (by decide))
  refine ⟨?_, ownsRow_setCell_other ho (Ne.symm (hv1.apart ho (by decide))) _, ((Below.refl N W).grown hg hN (fun b hb => own_block hrow hb.symm)).setCell (p := ⟨sb, 1, none⟩) hlb _, fun b cs t h1 h2 h3 => (h3.grown hg (h3.apart hrow h2)).other (fun e => h1 e.symm) _⟩
  have h := Blk.set1 hv1 1 v2
  exact h
/-- The error of Secret. -/
def secc (K D E : Int) (P Q G : Nat) (u : Int) : Int := if scb K D E P Q G then (if isr D u then 0 else 2) else 30
end Go.Proofs.Ytchkgccnipejhaa

/-
  Secret, the program's.
-/
namespace Go.Proofs.Ytchkgccnipejhaa
open Go.RowKit TR L2 L2.SP
set_option linter.unusedVariables false
set_option linter.unusedSimpArgs false

theorem wpList_store_sec {ops : Array Oper} {rest : List Oper} {op : Oper} {a : Act} {w : World} {Q : Exit → Act → World → Prop} (hgd : op.guard = none) (x y : Operand) (ho : op.op = .store 72 x y)
    (b : Nat) (r : Int) (v : Value) (hx : a.eval x = .pointer (some ⟨b, 0, none⟩)) (hy : a.eval y = .agg (sc4 r v)) (hv : v.oneCell' = true) (ht : w.there b 0 4)
    (h : wpList Try.prog ops Q rest (a.put op.dst undef) (w.setCells b 0 (sc4 r v).toList)) : wpList Try.prog ops Q (op :: rest) a w :=
  wpList_store_mid hgd 72 x y ho b 0 (sc4 r v) hx hy ht sizeSec (by simp [hv]; exact ⟨rfl, rfl⟩) h
theorem wpList_load_sec {ops : Array Oper} {rest : List Oper} {op : Oper} {a : Act} {w : World} {Q : Exit → Act → World → Prop} (hgd : op.guard = none) (x : Operand) (ho : op.op = .load 72 x)
    (b : Nat) (hx : a.eval x = .pointer (some ⟨b, 0, none⟩)) (r : Int) (v : Value) (hc : Blk w b (sc4 r v) 72)
    (h : wpList Try.prog ops Q rest (a.put op.dst (.agg (sc4 r v))) w) : wpList Try.prog ops Q (op :: rest) a w :=
  wpList_load_mid hgd 72 x ho b 0 hx (sc4 r v).toList _ hc.range Try.underlying72 rfl sizeSec (by simpa using h)
theorem results_sec {fn : Func} {r s : Tmp} (h : fn.results = #[.cell r 72, .tmp s]) (tmps : Array Value) (w : World) (b : Nat) (u : Int) (v e : Value)
    (hp : tmps.getD r undef = .pointer (some ⟨b, 0, none⟩)) (hs : tmps.getD s undef = e) (hc : Blk w b (sc4 u v) 72) : (results fn tmps).run Try.prog w = .ok (.tuple #[.agg (sc4 u v), e]) w := by
  have hp' : tmps[r]?.getD undef = .pointer (some ⟨b, 0, none⟩) := by simpa using hp
  have hs' : tmps[s]?.getD undef = e := by simpa using hs
  simp [results, h, hp', hs', asAddr, run_loadVar_mid w b 0 72 (sc4 u v).toList _ hc.range Try.underlying72 rfl sizeSec]
theorem results_sec1 {fn : Func} {r : Tmp} (h : fn.results = #[.cell r 72]) (tmps : Array Value) (w : World) (b : Nat) (u : Int) (v : Value)
    (hp : tmps.getD r undef = .pointer (some ⟨b, 0, none⟩)) (hc : Blk w b (sc4 u v) 72) : (results fn tmps).run Try.prog w = .ok (.agg (sc4 u v)) w := by
  have hp' : tmps[r]?.getD undef = .pointer (some ⟨b, 0, none⟩) := by simpa using hp
  simp [results, h, hp', asAddr, run_loadVar_mid w b 0 72 (sc4 u v).toList _ hc.range Try.underlying72 rfl sizeSec]
theorem own_blk {w : World} {B e s n : Nat} {v : Value} {xs : List Value} (h : w.ownsRow B e s v n xs) (hn : 0 < n) : ∃ g c cur, v = .slice (some ⟨g, 0, none⟩) n c ∧ B ≤ g ∧ n ≤ c ∧ c ≤ maxLen ∧ Blk w g cur e ∧ ∀ (i : Nat) (x : Value), xs[i]? = some x → cur[i]? = some x := by
  rcases h.2 with ⟨_, h0⟩ | ⟨g, cap, cur, hv, hb, hg, hnc, hcm, hcs, ht⟩
  · omega
  · refine ⟨g, cap, cur, hv, hb, hnc, hcm, hg, fun i x hx => ?_⟩
    have hl := h.1
    rw [← ht] at hx
    have hi : i < n * s := by
      have := (List.getElem?_eq_some_iff.1 hx).1
      simp at this; omega
    rw [List.getElem?_take, if_pos hi] at hx
    simpa using hx
theorem own_setCells {B e s n b : Nat} {v : Value} {xs : List Value} : ∀ (vs : List Value) (o : Nat) {w : World}, w.ownsRow B e s v n xs → some b ≠ v.ownBlock → (w.setCells b o vs).ownsRow B e s v n xs
  | [], _, _, h, _ => h
  | u :: r, o, w, h, hne => by rw [World.setCells]; exact own_setCells r (o + 1) (ownsRow_setCell_other h (Ne.symm hne) u) hne
theorem fillLab (v z : Int) (p : Nat × Nat) : Instr.fill (fun i => some (i * 18, 18)) ((Array.range (1 * 18)).map ((Value.agg lz18).cells[· % (Value.agg lz18).cells.size]!)) [(0, .agg (lbl v z p).toArray)] = some (lbl v z p).toArray := by kernel_rfl
theorem wp_buildSlice1 {op : Oper} {a : Act} {w : World} {K : Act → World → Prop} {Q : Exit → Act → World → Prop} (x : Operand) {v z : Int} {p : Nat × Nat} (ho : op.op = .buildSlice 68 1 #[(0, x)]) (hx : a.eval x = .agg (lbl v z p).toArray)
    (h : K (a.put op.dst (.slice (some ⟨w.heap.size, 0, none⟩) 1 1)) (w.alloc (.cells (lbl v z p).toArray 82))) : op.wp Try.prog a w K Q := by
  obtain ⟨i0, hi, hz0, hz1, hz2⟩ := info_parts infoLab
  exact wp_buildSlice 68 82 1 #[(0, x)] ho (lbl v z p).toArray i0 _ Try.underlying68 hi hz0 (by rw [hz1]; decide) (by rw [hz1]; decide) (by rw [hz1]; simp only [List.map_toArray, List.map_cons, List.map_nil, hx]; exact fillLab v z p) h
theorem plc_pos (K : Int) (d y : Nat) : 0 < (plc K d y).length := by
  unfold plc plf
  rw [List.length_append]
  by_cases h : K = 1
  · rw [List.range_succ, List.flatMap_append, List.length_append]
    have : (rowl K d y (lv y)).length = 1 := by unfold rowl; rw [if_pos h]; rfl
    simp only [List.flatMap_cons, List.flatMap_nil, List.append_nil]
    omega
  · unfold pre0; rw [if_neg h, List.length_cons]; omega
theorem sec_one (w : World) (A : Option Addr) (m c : Nat) : (Value.slice A m c).oneCell' = true := rfl

set_option maxRecDepth 100000 in
set_option maxHeartbeats 800000 in
theorem secret_any (p : Nat × Nat) (K D E u : Int) (P Q G : Nat) (w : World) (hp : Ok p) (hK0 : 0 ≤ K) (hK1 : K ≤ 255) :
    Calls Try.prog 32 #[.agg (kl p.1 p.2).toArray, .agg #[.int .u8 K, .int .i64 D, .int .i64 E, .int .u64 (P : Int), .int .u64 (Q : Int), .int .u64 (G : Int)], .int .i64 u] w fun e w' => (∃ (rr : Int) (v : Value), e = .returned (.tuple #[.agg (sc4 rr v), .int .i64 (secc K D E P Q G u)]) ∧ (secc K D E P Q G u ≠ 0 → rr = 0 ∧ v = .slice none 0 0) ∧ (secc K D E P Q G u = 0 → rr = u ∧ w'.ownsRow w.heap.size 82 18 v (plc K D.toNat (2 ^ D.toNat + u.toNat)).length (lbs K p (plc K D.toNat (2 ^ D.toNat + u.toNat))))) ∧ Below w.heap.size w w' := by
  obtain ⟨N, hN⟩ : ∃ N, N = w.heap.size := ⟨_, rfl⟩
  obtain ⟨W3, hW3⟩ : ∃ W3, W3 = ((w.alloc (.cells (kl p.1 p.2).toArray 26)).alloc (.cells #[.int .u8 K, .int .i64 D, .int .i64 E, .int .u64 (P : Int), .int .u64 (Q : Int), .int .u64 (G : Int)] 45)).alloc (.cells (sc4 0 (.slice none 0 0)) 72) := ⟨_, rfl⟩
  have s3 : W3.heap.size = N + 3 := by rw [hW3, hN]; simp
  have b3 : Below N w W3 := by rw [hW3, hN]; exact (below_alloc _ _).trans (((below_alloc _ _).mono (by simp)).trans ((below_alloc _ _).mono (by simp; omega)))
  have e1 : Kbx W3 N p := by rw [hW3, hN]; exact ((Blk.new w _ _).keep (below_alloc _ _)).keep (below_alloc _ _)
  have e2 : Blk W3 (N + 1) #[.int .u8 K, .int .i64 D, .int .i64 E, .int .u64 (P : Int), .int .u64 (Q : Int), .int .u64 (G : Int)] 45 := by
    have h := (Blk.new (w.alloc (.cells (kl p.1 p.2).toArray 26)) #[.int .u8 K, .int .i64 D, .int .i64 E, .int .u64 (P : Int), .int .u64 (Q : Int), .int .u64 (G : Int)] 45).keep (below_alloc _ (.cells (sc4 0 (.slice none 0 0)) 72))
    rw [World.size_alloc, ← hN] at h; rw [hW3]; exact h
  have e3 : Blk W3 (N + 2) (sc4 0 (.slice none 0 0)) 72 := by
    have h := Blk.new ((w.alloc (.cells (kl p.1 p.2).toArray 26)).alloc (.cells #[.int .u8 K, .int .i64 D, .int .i64 E, .int .u64 (P : Int), .int .u64 (Q : Int), .int .u64 (G : Int)] 45)) (sc4 0 (.slice none 0 0)) 72
    rw [World.size_alloc, World.size_alloc, ← hN] at h; rw [hW3]; exact h
  have HE := Lib.hid (And.intro s3 (And.intro b3 (And.intro e1 (And.intro e2 e3))))
  have HCk := Lib.hid (fun w => check_any K D E P Q G w hK0 hK1)
  have HN := Lib.hid hN
  have HW := Lib.hid hW3
  rw [← hN]
  have c0 : W3.cell? ⟨N + 1, 0, none⟩ = some (.int .u8 K) := e2.cell 0
  have c1 : W3.cell? ⟨N + 1, 1, none⟩ = some (.int .i64 D) := e2.cell 1
  have c2 : W3.cell? ⟨N + 1, 2, none⟩ = some (.int .i64 E) := e2.cell 2
  have c3 : W3.cell? ⟨N + 1, 3, none⟩ = some (.int .u64 (P : Int)) := e2.cell 3
  have c4 : W3.cell? ⟨N + 1, 4, none⟩ = some (.int .u64 (Q : Int)) := e2.cell 4
  have c5 : W3.cell? ⟨N + 1, 5, none⟩ = some (.int .u64 (G : Int)) := e2.cell 5
  rw [hW3, hN] at c0 c1 c2 c3 c4 c5
  clear hN hW3 s3 b3 e1 e2 e3 hK0 hK1
  go_enter Try.func32, Try.ntmps32
  go_wp2_with fail
  rw [← HW.out, ← HN.out]
  refine (HCk.out _).mono ?_
  rintro e w4 ⟨rfl, hb4⟩
  have HE4 : Hid (N + 3 ≤ w4.heap.size ∧ Below N w w4 ∧ Kbx w4 N p ∧ Blk w4 (N + 1) #[.int .u8 K, .int .i64 D, .int .i64 E, .int .u64 (P : Int), .int .u64 (Q : Int), .int .u64 (G : Int)] 45 ∧ Blk w4 (N + 2) (sc4 0 (.slice none 0 0)) 72) := Lib.hid ⟨by rw [← HE.out.1]; exact hb4.size, HE.out.2.1.trans (hb4.mono (by rw [HE.out.1]; omega)), HE.out.2.2.1.keep hb4, HE.out.2.2.2.1.keep hb4, HE.out.2.2.2.2.keep hb4⟩
  clear hb4 c0 c1 c2 c3 c4 c5
  by_cases h : ScOk K D E P Q G
  · have hs := scc_yes h
    rw [hs]
    have HSb := Lib.hid (scb_yes h)
    have hD := h.2.2.1
    have hD2 := h.2.2.2.1
    obtain ⟨d, rfl⟩ := Int.eq_ofNat_of_zero_le hD
    have hd : d < 7 := by omega
    have HD := Lib.hid hd
    have HIr := Lib.hid (fun w => isReceiver_any K (d : Int) E u P Q G w hD hD2)
    have H4 := HE4.out.2.2.2.1
    have c0 : w4.cell? ⟨N + 1, 0, none⟩ = some (.int .u8 K) := H4.cell 0
    have c1 : w4.cell? ⟨N + 1, 1, none⟩ = some (.int .i64 (d : Int)) := H4.cell 1
    have c2 : w4.cell? ⟨N + 1, 2, none⟩ = some (.int .i64 E) := H4.cell 2
    have c3 : w4.cell? ⟨N + 1, 3, none⟩ = some (.int .u64 (P : Int)) := H4.cell 3
    have c4 : w4.cell? ⟨N + 1, 4, none⟩ = some (.int .u64 (Q : Int)) := H4.cell 4
    have c5 : w4.cell? ⟨N + 1, 5, none⟩ = some (.int .u64 (G : Int)) := H4.cell 5
    clear hs h hD hD2 hd H4
    go_wp2_with fail
    refine (HIr.out _).mono ?_
    rintro e w5 ⟨rfl, hb5⟩
    have HE5 : Hid (N + 3 ≤ w5.heap.size ∧ Below N w w5 ∧ Kbx w5 N p ∧ Blk w5 (N + 1) #[.int .u8 K, .int .i64 (d : Int), .int .i64 E, .int .u64 (P : Int), .int .u64 (Q : Int), .int .u64 (G : Int)] 45 ∧ Blk w5 (N + 2) (sc4 0 (.slice none 0 0)) 72) := Lib.hid ⟨Nat.le_trans HE4.out.1 hb5.size, HE4.out.2.1.trans (hb5.mono (by have := HE4.out.1; omega)), HE4.out.2.2.1.keep hb5, HE4.out.2.2.2.1.keep hb5, HE4.out.2.2.2.2.keep hb5⟩
    clear hb5 c0 c1 c2 c3 c4 c5
    rcases hr : isr (d : Int) u with _ | _
    · have HC : Hid (secc K (d : Int) E P Q G u = 2) := Lib.hid (by unfold secc; rw [HSb.out, hr]; rfl)
      clear hr
      have hth : w5.there (N + 2) 0 4 := HE5.out.2.2.2.2.there
      have HF : Hid (Blk (w5.setCells (N + 2) 0 (sc4 0 (.slice none 0 0)).toList) (N + 2) (sc4 0 (.slice none 0 0)) 72 ∧ Below N w (w5.setCells (N + 2) 0 (sc4 0 (.slice none 0 0)).toList)) := Lib.hid ⟨Blk.setAll HE5.out.2.2.2.2 _ rfl, below_setCells _ _ _ _ HE5.out.2.1 (by omega)⟩
      go_wp2_with ((with_reducible show wpList _ _ _ (Oper.mk _ (Op.store 72 _ _) _ _ _ _ :: _) _ _); refine wpList_store_sec rfl _ _ rfl _ _ _ rfl rfl rfl hth ?_)
      exact bodyPost_ret (results_sec rfl _ _ (N + 2) 0 (.slice none 0 0) _ rfl rfl HF.out.1) rfl ⟨⟨0, .slice none 0 0, by rw [HC.out]; rfl, fun _ => ⟨rfl, rfl⟩, fun h => by rw [HC.out] at h; cases h⟩, HF.out.2⟩
    · have hu := of_decide_eq_true hr
      obtain ⟨r, rfl⟩ := Int.eq_ofNat_of_zero_le hu.1
      have hrd : r < 2 ^ d := by have h := hu.2; rw [Int.toNat_natCast] at h; omega
      have HC : Hid (secc K (d : Int) E P Q G (r : Int) = 0) := Lib.hid (by unfold secc; rw [HSb.out, hr]; rfl)
      have HPl := Lib.hid (fun w => places_any K E d r P Q G w HD.out hrd)
      have HOkp := Lib.hid (plc_ok K d r HD.out hrd)
      have hn64 := plc_len K d r HD.out hrd
      have hn0 := plc_pos K d (2 ^ d + r)
      obtain ⟨ps, hps⟩ : ∃ ps, ps = plc K d (2 ^ d + r) := ⟨_, rfl⟩
      rw [← hps] at HPl HOkp hn64 hn0
      have HPs : Hid (plc K d (2 ^ d + r) = ps) := Lib.hid hps.symm
      obtain ⟨n, hn⟩ : ∃ n, n = ps.length := ⟨_, rfl⟩
      rw [← hn] at HPl hn64 hn0
      have HN0 := Lib.hid hn
      have HLf := Lib.hid (fun (t : Nat × Nat) (w : World) (h : PrOk K t) => labelFor_any p K (d : Int) E P Q G t.1 t.2 w hp h.1 h.2.1 h.2.2.1 (fun h1 h2 => (abv_facts (h.2.2.2 h1 h2)).2.1))
      clear hu hr hps hn hp hrd
      have hA := Blk.new w5 (sc4 0 (.slice none 0 0)) 72
      have hth : (w5.alloc (.cells (sc4 0 (.slice none 0 0)) 72)).there w5.heap.size 0 4 := hA.there
      obtain ⟨W6, hW6⟩ : ∃ W6, W6 = (w5.alloc (.cells (sc4 0 (.slice none 0 0)) 72)).setCells w5.heap.size 0 (sc4 (r : Int) (.slice none 0 0)).toList := ⟨_, rfl⟩
      have b56 : Below w5.heap.size w5 W6 := by rw [hW6]; exact below_setCells _ _ _ _ (below_alloc _ _) (Nat.le_refl _)
      have hl6 : Blk W6 w5.heap.size (sc4 (r : Int) (.slice none 0 0)) 72 := by rw [hW6]; exact Blk.setAll hA _ rfl
      obtain ⟨sb, hsb⟩ : ∃ sb, sb = w5.heap.size := ⟨_, rfl⟩
      have HSB : Hid (sb = w5.heap.size ∧ N + 3 ≤ sb) := Lib.hid ⟨hsb, by rw [hsb]; exact HE5.out.1⟩
      have s6 : W6.heap.size = sb + 1 := by rw [hW6, size_setCells]; simp [hsb]
      have HE6 : Hid (W6.heap.size = sb + 1 ∧ Below N w W6 ∧ Kbx W6 N p ∧ Blk W6 (N + 1) #[.int .u8 K, .int .i64 (d : Int), .int .i64 E, .int .u64 (P : Int), .int .u64 (Q : Int), .int .u64 (G : Int)] 45 ∧ Blk W6 (N + 2) (sc4 0 (.slice none 0 0)) 72 ∧ Blk W6 sb (sc4 (r : Int) (.slice none 0 0)) 72) := Lib.hid ⟨s6, HE5.out.2.1.trans (b56.mono (by have := HE5.out.1; omega)), HE5.out.2.2.1.keep b56, HE5.out.2.2.2.1.keep b56, HE5.out.2.2.2.2.keep b56, by rw [hsb]; exact hl6⟩
      have H6 := HE6.out.2.2.2.1
      have c0 : W6.cell? ⟨N + 1, 0, none⟩ = some (.int .u8 K) := H6.cell 0
      have c1 : W6.cell? ⟨N + 1, 1, none⟩ = some (.int .i64 (d : Int)) := H6.cell 1
      have c2 : W6.cell? ⟨N + 1, 2, none⟩ = some (.int .i64 E) := H6.cell 2
      have c3 : W6.cell? ⟨N + 1, 3, none⟩ = some (.int .u64 (P : Int)) := H6.cell 3
      have c4 : W6.cell? ⟨N + 1, 4, none⟩ = some (.int .u64 (Q : Int)) := H6.cell 4
      have c5 : W6.cell? ⟨N + 1, 5, none⟩ = some (.int .u64 (G : Int)) := H6.cell 5
      rw [hW6] at c0 c1 c2 c3 c4 c5
      have HW6 := Lib.hid hW6
      have HTh := Lib.hid hth
      clear hW6 hth hA b56 hl6 s6 H6 hsb
      go_wp2_with ((with_reducible show wpList _ _ _ (Oper.mk _ (Op.store 72 _ _) _ _ _ _ :: _) _ _); refine wpList_store_sec rfl _ _ rfl _ _ _ rfl rfl rfl HTh.out ?_)
      rw [← HW6.out, ← HSB.out.1]
      refine (HPl.out _).mono ?_
      rintro e w7 ⟨⟨u7, rfl, ho7⟩, hb7⟩
      obtain ⟨g, cg, cur, rfl, hg1, hg2, hg3, hg4, hg5⟩ := own_blk ho7 hn0
      have HG : Hid (∀ j (t : Nat × Nat), ps[j]? = some t → cur[j * 2]? = some (.int .i64 (t.1 : Int)) ∧ cur[j * 2 + 1]? = some (.int .i64 (t.2 : Int))) := Lib.hid (fun j t h => by
        have h1 := prs_get ps j t h
        rw [Nat.mul_comm j 2]
        exact ⟨hg5 _ _ h1.1, hg5 _ _ h1.2⟩)
      have HE7 : Hid (sb + 1 ≤ w7.heap.size ∧ Below N w w7 ∧ Kbx w7 N p ∧ Blk w7 (N + 1) #[.int .u8 K, .int .i64 (d : Int), .int .i64 E, .int .u64 (P : Int), .int .u64 (Q : Int), .int .u64 (G : Int)] 45 ∧ Blk w7 (N + 2) (sc4 0 (.slice none 0 0)) 72 ∧ Blk w7 sb (sc4 (r : Int) (.slice none 0 0)) 72 ∧ Blk w7 g cur 56) := Lib.hid ⟨by rw [← HE6.out.1]; exact hb7.size, HE6.out.2.1.trans (hb7.mono (by rw [HE6.out.1]; have := HSB.out.2; omega)), HE6.out.2.2.1.keep hb7, HE6.out.2.2.2.1.keep hb7, HE6.out.2.2.2.2.1.keep hb7, HE6.out.2.2.2.2.2.keep hb7, hg4⟩
      have HG7 : Hid (g ≠ sb) := Lib.hid (fun e => by have h1 := HE7.out.2.2.2.2.2.1; have h2 := HE7.out.2.2.2.2.2.2; rw [← e] at h1; unfold Blk at h1 h2; rw [h1] at h2; injection h2 with h2; injection h2 with _ h3 _; cases h3)
      clear hb7 ho7 hg1 hg4 hg5 c0 c1 c2 c3 c4 c5
      go_wp2_with fail
      go_loopw [29] (fun i wr => ∃ (k : Nat) (v : Value), k ≤ n ∧ i = .int .i64 (k : Int) ∧ Hid (wr.ownsRow N 82 18 v k (lbs K p (ps.take k))) ∧ Hid (Kbx wr N p ∧ Blk wr (N + 1) #[.int .u8 K, .int .i64 (d : Int), .int .i64 E, .int .u64 (P : Int), .int .u64 (Q : Int), .int .u64 (G : Int)] 45 ∧ Blk wr (N + 2) (sc4 0 (.slice none 0 0)) 72 ∧ Blk wr sb (sc4 (r : Int) v) 72 ∧ Blk wr g cur 56) ∧ Hid (Below N w wr ∧ sb + 1 ≤ wr.heap.size)) (fun i _ => n + 1 - (intOf i).toNat)
      case atStart => exact ⟨0, .slice none 0 0, by omega, rfl, Lib.hid (World.ownsRow_nil _ _ _ _), Lib.hid HE7.out.2.2, Lib.hid ⟨HE7.out.2.1, HE7.out.1⟩⟩
      case round =>
        obtain ⟨k, v, hk, rfl, HO, HB, HS⟩ := hrel
        by_cases hlt : k < n
        · have hkl : k < ps.length := by rw [← HN0.out]; exact hlt
          obtain ⟨t, ht⟩ : ∃ t, t = ps[k] := ⟨_, rfl⟩
          have hgk := HG.out k t (by rw [List.getElem?_eq_getElem hkl, ht])
          have hok := HOkp.out t (by rw [ht]; exact List.getElem_mem hkl)
          have HSn : Hid (lbs K p (ps.take (k + 1)) = lbs K p (ps.take k) ++ lbl (t.1 : Int) (t.2 : Int) (sky K p t.1 t.2)) := Lib.hid (by rw [take_snoc ps k hkl, lbs_snoc, ← ht])
          have HLk := Lib.hid (fun w => HLf.out t w hok)
          obtain ⟨a, ha⟩ : ∃ a, a = t.1 := ⟨_, rfl⟩
          obtain ⟨b, hb⟩ : ∃ b, b = t.2 := ⟨_, rfl⟩
          obtain ⟨q, hq⟩ : ∃ q, q = sky K p t.1 t.2 := ⟨_, rfl⟩
          rw [← hq] at HSn HLk
          rw [← ha, ← hb] at HSn HLk hgk
          obtain ⟨xs, hxs⟩ : ∃ xs, xs = lbs K p (ps.take k) := ⟨_, rfl⟩
          rw [← hxs] at HSn HO
          have g0 : wr.cell? ⟨g, k * 2, none⟩ = some (.int .i64 (a : Int)) := (HB.out.2.2.2.2.cell (k * 2)).trans hgk.1
          have g1 : wr.cell? ⟨g, k * 2 + 1, none⟩ = some (.int .i64 (b : Int)) := (HB.out.2.2.2.2.cell (k * 2 + 1)).trans hgk.2
          have l1 : (0 : Int) ≤ (k : Int) := by omega
          have l2 : (k : Int) < (n : Int) := by omega
          have l3 : k ≤ 64 := by omega
          clear hkl ht hgk hok ha hb hq hxs hk
          go_wp2_with fail
          have hA8 := below_alloc wr (.cells #[.int .i64 (a : Int), .int .i64 (b : Int)] 56)
          obtain ⟨W8, hW8⟩ : ∃ W8, W8 = wr.alloc (.cells #[.int .i64 (a : Int), .int .i64 (b : Int)] 56) := ⟨_, rfl⟩
          rw [← hW8] at hA8
          rw [← hW8]
          have fX : Blk W8 wr.heap.size #[.int .i64 (a : Int), .int .i64 (b : Int)] 56 := by rw [hW8]; exact Blk.new wr _ _
          obtain ⟨xb, hxb⟩ : ∃ xb, xb = wr.heap.size := ⟨_, rfl⟩
          rw [← hxb] at fX
          rw [← hxb]
          have HO8 : Hid (W8.ownsRow N 82 18 v k xs) := Lib.hid (own_below HO.out hA8)
          have F8 : Hid (Kbx W8 N p ∧ Blk W8 (N + 1) #[.int .u8 K, .int .i64 (d : Int), .int .i64 E, .int .u64 (P : Int), .int .u64 (Q : Int), .int .u64 (G : Int)] 45 ∧ Blk W8 xb #[.int .i64 (a : Int), .int .i64 (b : Int)] 56 ∧ Blk W8 sb (sc4 (r : Int) v) 72 ∧ Blk W8 (N + 2) (sc4 0 (.slice none 0 0)) 72 ∧ Blk W8 g cur 56) := Lib.hid ⟨HB.out.1.keep hA8, HB.out.2.1.keep hA8, fX, HB.out.2.2.2.1.keep hA8, HB.out.2.2.1.keep hA8, HB.out.2.2.2.2.keep hA8⟩
          have HS8 : Hid (Below N w W8 ∧ sb + 1 ≤ W8.heap.size ∧ N ≤ W8.heap.size) := Lib.hid ⟨HS.out.1.trans (hA8.mono (by have := HS.out.2; have := HSB.out.2; omega)), Nat.le_trans HS.out.2 hA8.size, by have := HS.out.2; have := HSB.out.2; have := hA8.size; omega⟩
          have HIL : Hid (∀ i0 : TypeInfo, True) := Lib.hid (fun _ => trivial)
          clear hW8 hxb fX hA8 g0 g1
          obtain ⟨i0, hi, hz0, hz1, hz2⟩ := info_parts infoLab
          have HI := Lib.hid (And.intro hi (And.intro hz0 (And.intro hz1 hz2)))
          clear hi hz0 hz1 hz2
          refine wp_region_inv (by kernel_rfl) (by kernel_rfl) (fun l a' w' => ∃ (v2 : Value) (gb : Nat) (w1 : World), a' = { tmps := #[Value.agg (kl p.fst p.snd).toArray, Value.agg #[Value.int IntKind.u8 K, Value.int IntKind.i64 d, Value.int IntKind.i64 E, Value.int IntKind.u64 P, Value.int IntKind.u64 Q, Value.int IntKind.u64 G], Value.int .i64 (r : Int), Value.pointer (some ⟨N, 0, none⟩), Value.pointer (some ⟨N + 1, 0, none⟩), undef, Value.pointer (some ⟨N + 1 + 1, 0, none⟩), Value.int .i64 (0 : Int), Value.int .i64 (0 : Int), Value.pointer (some ⟨sb, 0, none⟩), undef, Value.pointer (some ⟨xb, 0, none⟩), Value.agg #[Value.int IntKind.u8 K, Value.int IntKind.i64 d, Value.int IntKind.i64 E, Value.int IntKind.u64 P, Value.int IntKind.u64 Q, Value.int IntKind.u64 G], Value.int .i64 (0 : Int), Value.int .i64 (0 : Int), Value.bool false, undef, undef, Value.agg #[Value.int IntKind.u8 K, Value.int IntKind.i64 d, Value.int IntKind.i64 E, Value.int IntKind.u64 P, Value.int IntKind.u64 Q, Value.int IntKind.u64 G], Value.int .i64 (r : Int), Value.bool true, Value.bool false, undef, Value.int .i64 (r : Int), Value.agg #[Value.int IntKind.i64 r, Value.slice none 0 0, Value.int IntKind.u64 0, Value.int IntKind.u64 0], Value.agg #[Value.int IntKind.u8 K, Value.int IntKind.i64 d, Value.int IntKind.i64 E, Value.int IntKind.u64 P, Value.int IntKind.u64 Q, Value.int IntKind.u64 G], Value.int .i64 (r : Int), Value.slice (some ⟨g, 0, none⟩) n cg, Value.int .i64 (n : Int), Value.int .i64 (k : Int), Value.bool true, Value.pointer (some ⟨g, k * 2, none⟩), Value.agg #[Value.int IntKind.i64 a, Value.int IntKind.i64 b], bif l 0 then Value.pointer (some ⟨sb, 1, none⟩) else u33, bif l 1 then v else u34, bif l 2 then Value.agg (kl p.1 p.2).toArray else u35, bif l 3 then Value.agg #[Value.int .u8 K, Value.int .i64 (d : Int), Value.int .i64 E, Value.int .u64 (P : Int), Value.int .u64 (Q : Int), Value.int .u64 (G : Int)] else u36, bif l 4 then Value.agg #[Value.int .i64 (a : Int), Value.int .i64 (b : Int)] else u37, bif l 5 then Value.agg (lbl (a : Int) (b : Int) q).toArray else u38, bif l 6 then Value.slice (some ⟨gb, 0, none⟩) 1 1 else u39, bif l 7 then v2 else u40, bif l 8 then Value.pointer (some ⟨sb, 1, none⟩) else u41, u42, undef], defers := [] } ∧ (W8.grownBy w1 v.ownBlock) ∧ (l 7 = false → w1.ownsRow N 82 18 v k xs) ∧ (l 6 = true → l 7 = false → Blk w1 gb (lbl (a : Int) (b : Int) q).toArray 82) ∧ (l 7 = true → w1.ownsRow N 82 18 v2 (k + 1) (xs ++ (lbl (a : Int) (b : Int) q))) ∧ w' = (bif l 9 then w1.setCell ⟨sb, 1, none⟩ v2 else w1) ∧ (l 9 = true → (l 0 && l 1 && l 2 && l 3 && l 4 && l 5 && l 6 && l 7 && l 8) = true)) ⟨v, 0, W8.drew, rfl, ⟨rfl, rfl, rfl, Nat.le_refl _, fun _ _ _ => rfl⟩, (fun _ => (HO8.out : W8.drew.ownsRow N 82 18 v k xs)), (fun h => by cases h), (fun h => by cases h), rfl, (fun h => by cases h)⟩ ?_ ?_
          · rintro l a' w' i ⟨v2, gb, w1, rfl, hG, cR, cS, cO, hw, oS⟩ hi' hli hpre
            have hi2 : i < 10 := hi'
            have hcase : i = 0 ∨ i = 1 ∨ i = 2 ∨ i = 3 ∨ i = 4 ∨ i = 5 ∨ i = 6 ∨ i = 7 ∨ i = 8 ∨ i = 9 := by omega
            clear hi' hi2
            rcases hcase with rfl | rfl | rfl | rfl | rfl | rfl | rfl | rfl | rfl | rfl
            · -- 0: Op.fieldAddr 63 (Operand.tmp 9) 1
              refine wpOp_step rfl (fun K' hK => ?_)
              have nS : l 9 = false := by
                cases h : l 9
                · rfl
                · have := oS h; simp [hli] at this
              rw [nS, cond_false] at hw
              subst hw
              clear hpre
              rw [if_pos (by rfl)]
              go_simp
              exact hK _ _ ⟨v2, gb, w', by simp [upd, Act.put], hG, (fun e0 => (cR (by simpa [upd] using e0))), (fun e0 e1 => (cS (by simpa [upd] using e0) (by simpa [upd] using e1))), (fun e0 => (cO (by simpa [upd] using e0))), by simp [upd, nS], (fun e => absurd e (by simp [upd, nS]))⟩
            · -- 1: Op.load 59 (Operand.tmp 33)
              have p0 : l 0 = true := hpre _ rfl ⟨0, .data⟩ (by simp) rfl
              refine wpOp_step rfl (fun K' hK => ?_)
              have nS : l 9 = false := by
                cases h : l 9
                · rfl
                · have := oS h; simp [hli] at this
              rw [nS, cond_false] at hw
              subst hw
              simp only [p0, cond_true, cond_false]
              clear hpre
              rw [if_pos (by rfl)]
              have z1 : w'.cell? ⟨sb, 1, none⟩ = some v := (Blk.grown F8.out.2.2.2.1 hG (Blk.apart F8.out.2.2.2.1 HO8.out (by decide))).cell 1
              go_simp
              exact hK _ _ ⟨v2, gb, w', by simp [upd, Act.put, p0], hG, (fun e0 => (cR (by simpa [upd] using e0))), (fun e0 e1 => (cS (by simpa [upd] using e0) (by simpa [upd] using e1))), (fun e0 => (cO (by simpa [upd] using e0))), by simp [upd, nS], (fun e => absurd e (by simp [upd, nS]))⟩
            · -- 2: Op.load 58 (Operand.tmp 3)
              refine wpOp_step rfl (fun K' hK => ?_)
              have nS : l 9 = false := by
                cases h : l 9
                · rfl
                · have := oS h; simp [hli] at this
              rw [nS, cond_false] at hw
              subst hw
              clear hpre
              rw [if_pos (by rfl)]
              refine wp_load_mid 26 _ rfl _ 0 rfl (kl p.1 p.2) _ (Kbx.at_ (Blk.grown F8.out.1 hG (Blk.apart F8.out.1 HO8.out (by decide)))) Try.underlying26 rfl (by rw [kl_len]; exact size23) ?_
              exact hK _ _ ⟨v2, gb, w', by simp [upd, Act.put], hG, (fun e0 => (cR (by simpa [upd] using e0))), (fun e0 e1 => (cS (by simpa [upd] using e0) (by simpa [upd] using e1))), (fun e0 => (cO (by simpa [upd] using e0))), by simp [upd, nS], (fun e => absurd e (by simp [upd, nS]))⟩
            · -- 3: Op.load 28 (Operand.tmp 4)
              refine wpOp_step rfl (fun K' hK => ?_)
              have nS : l 9 = false := by
                cases h : l 9
                · rfl
                · have := oS h; simp [hli] at this
              rw [nS, cond_false] at hw
              subst hw
              clear hpre
              rw [if_pos (by rfl)]
              refine wp_load_mid 45 _ rfl _ 0 rfl #[Value.int .u8 K, Value.int .i64 (d : Int), Value.int .i64 E, Value.int .u64 (P : Int), Value.int .u64 (Q : Int), Value.int .u64 (G : Int)].toList _ (Blk.grown F8.out.2.1 hG (Blk.apart F8.out.2.1 HO8.out (by decide))).range Try.underlying45 rfl sizeSch ?_
              exact hK _ _ ⟨v2, gb, w', by simp [upd, Act.put], hG, (fun e0 => (cR (by simpa [upd] using e0))), (fun e0 e1 => (cS (by simpa [upd] using e0) (by simpa [upd] using e1))), (fun e0 => (cO (by simpa [upd] using e0))), by simp [upd, nS], (fun e => absurd e (by simp [upd, nS]))⟩
            · -- 4: Op.load 35 (Operand.tmp 11)
              refine wpOp_step rfl (fun K' hK => ?_)
              have nS : l 9 = false := by
                cases h : l 9
                · rfl
                · have := oS h; simp [hli] at this
              rw [nS, cond_false] at hw
              subst hw
              clear hpre
              rw [if_pos (by rfl)]
              refine wp_load_mid 56 _ rfl _ 0 rfl #[Value.int .i64 (a : Int), Value.int .i64 (b : Int)].toList _ (Blk.grown F8.out.2.2.1 hG (Blk.apart F8.out.2.2.1 HO8.out (by decide))).range Try.underlying56 rfl sizeSub ?_
              exact hK _ _ ⟨v2, gb, w', by simp [upd, Act.put], hG, (fun e0 => (cR (by simpa [upd] using e0))), (fun e0 e1 => (cS (by simpa [upd] using e0) (by simpa [upd] using e1))), (fun e0 => (cO (by simpa [upd] using e0))), by simp [upd, nS], (fun e => absurd e (by simp [upd, nS]))⟩
            · -- 5: Op.call { callee := Callee.value (Operand.func 95), args := 
              have p2 : l 2 = true := hpre _ rfl ⟨2, .data⟩ (by simp) rfl
              have p3 : l 3 = true := hpre _ rfl ⟨3, .data⟩ (by simp) rfl
              have p4 : l 4 = true := hpre _ rfl ⟨4, .data⟩ (by simp) rfl
              refine wpOp_step rfl (fun K' hK => ?_)
              have nS : l 9 = false := by
                cases h : l 9
                · rfl
                · have := oS h; simp [hli] at this
              rw [nS, cond_false] at hw
              subst hw
              simp only [p2, p3, p4, cond_true, cond_false]
              clear hpre
              rw [if_pos (by rfl)]
              go_simp
              refine (HLk.out _).mono ?_
              rintro e w5 ⟨rfl, hb5⟩
              exact hK _ _ ⟨v2, gb, w5, by simp [upd, Act.put, p2, p3, p4], grownBy_below hG hb5, (fun e0 => own_below ((cR (by simpa [upd] using e0))) hb5), (fun e0 e1 => Blk.keep ((cS (by simpa [upd] using e0) (by simpa [upd] using e1))) hb5), (fun e0 => own_below ((cO (by simpa [upd] using e0))) hb5), by simp [upd, nS], (fun e => absurd e (by simp [upd, nS]))⟩
            · -- 6: Op.buildSlice 59 1 #[(0, Operand.tmp 38)]
              have p5 : l 5 = true := hpre _ rfl ⟨5, .data⟩ (by simp) rfl
              refine wpOp_step rfl (fun K' hK => ?_)
              have nS : l 9 = false := by
                cases h : l 9
                · rfl
                · have := oS h; simp [hli] at this
              rw [nS, cond_false] at hw
              subst hw
              simp only [p5, cond_true, cond_false]
              clear hpre
              rw [if_pos (by rfl)]
              refine wp_buildSlice1 _ rfl rfl ?_
              exact hK _ _ ⟨v2, w'.heap.size, w'.alloc (.cells (lbl (a : Int) (b : Int) q).toArray 82), by simp [upd, Act.put, p5], grownBy_below hG (below_alloc _ _), (fun e0 => own_below ((cR (by simpa [upd] using e0))) (below_alloc _ _)), (fun _ _ => Blk.new w' _ 82), (fun e0 => own_below ((cO (by simpa [upd] using e0))) (below_alloc _ _)), by simp [upd, nS], (fun e => absurd e (by simp [upd, nS]))⟩
            · -- 7: Op.call { callee := Callee.builtin Builtin.append, args := #
              have p1 : l 1 = true := hpre _ rfl ⟨1, .data⟩ (by simp) rfl
              have p6 : l 6 = true := hpre _ rfl ⟨6, .data⟩ (by simp) rfl
              have p5 : l 5 = true := hpre _ rfl ⟨5, .chain⟩ (by simp) rfl
              refine wpOp_step rfl (fun K' hK => ?_)
              have nS : l 9 = false := by
                cases h : l 9
                · rfl
                · have := oS h; simp [hli] at this
              rw [nS, cond_false] at hw
              subst hw
              have n7 : l 7 = false := hli
              have hBk := cS p6 n7
              simp only [p1, p6, p5, cond_true, cond_false]
              clear hpre
              rw [if_pos (by rfl)]
              refine wp_append_own _ _ _ 68 rfl N 82 i0 _ 18 32 Try.underlying68 HI.out.1 HI.out.2.1 HI.out.2.2.1 HI.out.2.2.2 rfl (by omega) v k xs rfl (cR n7) ⟨gb, 0, none⟩ 1 1 (lbl (a : Int) (b : Int) q) rfl (by rw [lbl_len]) (fun j u hu => by rw [Addr.add_mid, Nat.zero_add, hBk.cell j]; simpa using hu) (lbl_one _ _ _) (by unfold maxLen; omega) (by omega) (Nat.le_trans HS8.out.2.2 hG.size) ?_
              intro v1 w6 hown6 hg6 _
              exact hK _ _ ⟨v1, gb, w6, by simp [upd, Act.put, p1, p6, p5], grownBy_trans hG hg6, (fun e0 => absurd e0 (by simp [upd])), (fun e0 e1 => absurd e1 (by simp [upd])), (fun _ => hown6), by simp [upd, nS], (fun e => absurd e (by simp [upd, nS]))⟩
            · -- 8: Op.fieldAddr 63 (Operand.tmp 9) 1
              have p0 : l 0 = true := hpre _ rfl ⟨0, .phase⟩ (by simp) rfl
              have p1 : l 1 = true := hpre _ rfl ⟨1, .phase⟩ (by simp) rfl
              have p2 : l 2 = true := hpre _ rfl ⟨2, .phase⟩ (by simp) rfl
              have p3 : l 3 = true := hpre _ rfl ⟨3, .phase⟩ (by simp) rfl
              have p4 : l 4 = true := hpre _ rfl ⟨4, .phase⟩ (by simp) rfl
              have p5 : l 5 = true := hpre _ rfl ⟨5, .phase⟩ (by simp) rfl
              have p6 : l 6 = true := hpre _ rfl ⟨6, .phase⟩ (by simp) rfl
              have p7 : l 7 = true := hpre _ rfl ⟨7, .phase⟩ (by simp) rfl
              refine wpOp_step rfl (fun K' hK => ?_)
              have nS : l 9 = false := by
                cases h : l 9
                · rfl
                · have := oS h; simp [hli] at this
              rw [nS, cond_false] at hw
              subst hw
              simp only [p0, p1, p2, p3, p4, p5, p6, p7, cond_true, cond_false]
              clear hpre
              rw [if_pos (by rfl)]
              go_simp
              exact hK _ _ ⟨v2, gb, w', by simp [upd, Act.put, p0, p1, p2, p3, p4, p5, p6, p7], hG, (fun e0 => (cR (by simpa [upd] using e0))), (fun e0 e1 => (cS (by simpa [upd] using e0) (by simpa [upd] using e1))), (fun e0 => (cO (by simpa [upd] using e0))), by simp [upd, nS], (fun e => absurd e (by simp [upd, nS]))⟩
            · -- 9: Op.store 59 (Operand.tmp 41) (Operand.tmp 40)
              have p8 : l 8 = true := hpre _ rfl ⟨8, .data⟩ (by simp) rfl
              have p7 : l 7 = true := hpre _ rfl ⟨7, .data⟩ (by simp) rfl
              have p0 : l 0 = true := hpre _ rfl ⟨0, .phase⟩ (by simp) rfl
              have p1 : l 1 = true := hpre _ rfl ⟨1, .phase⟩ (by simp) rfl
              have p2 : l 2 = true := hpre _ rfl ⟨2, .phase⟩ (by simp) rfl
              have p3 : l 3 = true := hpre _ rfl ⟨3, .phase⟩ (by simp) rfl
              have p4 : l 4 = true := hpre _ rfl ⟨4, .phase⟩ (by simp) rfl
              have p5 : l 5 = true := hpre _ rfl ⟨5, .phase⟩ (by simp) rfl
              have p6 : l 6 = true := hpre _ rfl ⟨6, .phase⟩ (by simp) rfl
              refine wpOp_step rfl (fun K' hK => ?_)
              have nS : l 9 = false := hli
              rw [nS, cond_false] at hw
              subst hw
              simp only [p8, p7, p0, p1, p2, p3, p4, p5, p6, cond_true, cond_false]
              clear hpre
              rw [if_pos (by rfl)]
              have hS3 := (Blk.grown F8.out.2.2.2.1 hG (Blk.apart F8.out.2.2.2.1 HO8.out (by decide)))
              have z1 : w'.cell? ⟨sb, 1, none⟩ = some v := hS3.cell 1
              have z2 := hS3.fr 1
              have c6 := cO p7
              obtain ⟨A6, d6, hv6⟩ := own_val c6
              subst hv6
              go_simp
              exact hK _ _ ⟨_, gb, w', by simp [upd, Act.put, p8, p7, p0, p1, p2, p3, p4, p5, p6], hG, (fun e0 => (cR (by simpa [upd] using e0))), (fun e0 e1 => (cS (by simpa [upd] using e0) (by simpa [upd] using e1))), (fun _ => c6), by simp [upd], (fun _ => by simp [upd, p8, p7, p0, p1, p2, p3, p4, p5, p6])⟩
          · rintro l a' w9 hall ⟨v2, gb, w1, rfl, hG, cR, cS, cO, hw, oS⟩
            rw [hall 9 (by decide), cond_true] at hw
            subst hw
            clear cR
            clear cS
            replace cO := cO (hall 7 (by decide))
            simp only [hall 0 (by decide), hall 1 (by decide), hall 2 (by decide), hall 3 (by decide), hall 4 (by decide), hall 5 (by decide), hall 6 (by decide), hall 7 (by decide), hall 8 (by decide), cond_true]
            clear hall oS
            have H9 := Lib.hid (app_sec F8.out.2.2.2.1 HO8.out hG cO HS8.out.2.2 (by have := HSB.out.2; omega))
            obtain ⟨W9, hW9⟩ : ∃ W9, W9 = w1.setCell ⟨sb, 1, none⟩ v2 := ⟨_, rfl⟩
            rw [← hW9] at H9
            rw [← hW9]
            clear hW9 hG cO
            go_wp2_with fail
            go_roundw
            case rel =>
              obtain ⟨k1, k2, k4, k5⟩ := H9.out
              have q1 := HSB.out.2
              have q2 := HG7.out
              exact ⟨k + 1, v2, by omega, by go_num, Lib.hid (by rw [HSn.out]; exact k2), Lib.hid ⟨k5 _ _ _ (by omega) (by decide) F8.out.1, k5 _ _ _ (by omega) (by decide) F8.out.2.1, k5 _ _ _ (by omega) (by decide) F8.out.2.2.2.2.1, k1, k5 _ _ _ (by omega) (by decide) F8.out.2.2.2.2.2⟩, Lib.hid ⟨HS8.out.1.trans k4, Nat.le_trans HS8.out.2.1 k4.size⟩⟩
            case measure => simp [intOf]; omega
        · obtain rfl : k = n := by omega
          have hR : lbs K p (ps.take k) = lbs K p ps := by rw [List.take_of_length_le (by rw [← HN0.out]; exact Nat.le_refl _)]
          have HFin : Hid (wr.ownsRow N 82 18 v k (lbs K p ps)) := Lib.hid (by rw [← hR]; exact HO.out)
          obtain ⟨A2, k2, hv2⟩ := own_val HO.out
          subst hv2
          have hth : wr.there (N + 2) 0 4 := HB.out.2.2.1.there
          have hne : N + 2 ≠ sb := by have := HSB.out.2; omega
          have HF : Hid (Blk (wr.setCells (N + 2) 0 (sc4 (r : Int) (.slice A2 k k2)).toList) (N + 2) (sc4 (r : Int) (.slice A2 k k2)) 72 ∧ Below N w (wr.setCells (N + 2) 0 (sc4 (r : Int) (.slice A2 k k2)).toList) ∧ (wr.setCells (N + 2) 0 (sc4 (r : Int) (.slice A2 k k2)).toList).ownsRow N 82 18 (.slice A2 k k2) k (lbs K p ps)) := Lib.hid ⟨Blk.setAll HB.out.2.2.1 _ rfl, below_setCells _ _ _ _ HS.out.1 (by omega), own_setCells _ _ HFin.out (HB.out.2.2.1.apart HFin.out (by decide))⟩
          have l3 : ¬ ((k : Int) < (k : Int)) := by omega
          clear hR hne
          go_wp2_with (first
            | ((with_reducible show wpList _ _ _ (Oper.mk _ (Op.load 72 _) _ _ _ _ :: _) _ _); refine wpList_load_sec rfl _ rfl _ rfl _ _ HB.out.2.2.2.1 ?_)
            | ((with_reducible show wpList _ _ _ (Oper.mk _ (Op.store 72 _ _) _ _ _ _ :: _) _ _); refine wpList_store_sec rfl _ _ rfl _ _ _ rfl rfl rfl hth ?_))
          refine bodyPost_ret (results_sec rfl _ _ (N + 2) (r : Int) (.slice A2 k k2) _ rfl rfl HF.out.1) rfl ⟨⟨(r : Int), .slice A2 k k2, by rw [HC.out]; rfl, fun h => absurd HC.out h, fun _ => ⟨rfl, ?_⟩⟩, HF.out.2.1⟩
          (try simp only [Int.toNat_natCast])
          rw [HPs.out, ← HN0.out]
          exact HF.out.2.2
  · have hs := scc_no h
    rw [hs]
    have HC : Hid (secc K D E P Q G u = 30) := Lib.hid (by unfold secc; rw [scb_no h]; rfl)
    clear h hs
    have hth : w4.there (N + 2) 0 4 := HE4.out.2.2.2.2.there
    have HF : Hid (Blk (w4.setCells (N + 2) 0 (sc4 0 (.slice none 0 0)).toList) (N + 2) (sc4 0 (.slice none 0 0)) 72 ∧ Below N w (w4.setCells (N + 2) 0 (sc4 0 (.slice none 0 0)).toList)) := Lib.hid ⟨Blk.setAll HE4.out.2.2.2.2 _ rfl, below_setCells _ _ _ _ HE4.out.2.1 (by omega)⟩
    go_wp2_with ((with_reducible show wpList _ _ _ (Oper.mk _ (Op.store 72 _ _) _ _ _ _ :: _) _ _); refine wpList_store_sec rfl _ _ rfl _ _ _ rfl rfl rfl hth ?_)
    exact bodyPost_ret (results_sec rfl _ _ (N + 2) 0 (.slice none 0 0) _ rfl rfl HF.out.1) rfl ⟨⟨0, .slice none 0 0, by rw [HC.out]; rfl, fun _ => ⟨rfl, rfl⟩, fun h => by rw [HC.out] at h; cases h⟩, HF.out.2⟩
end Go.Proofs.Ytchkgccnipejhaa

/-
  SecretOf, the specification's.
-/
namespace Go.Proofs.Ytchkgccnipejhaa
open Go.RowKit TR L2 L2.SP
set_option linter.unusedVariables false
set_option linter.unusedSimpArgs false

theorem plc_k1 (d y : Nat) : ∀ t ∈ plc 1 d y, t.2 = 0 := by
  intro t ht
  unfold plc plf at ht
  rcases List.mem_append.1 ht with h | h
  · unfold pre0 at h; simp at h
  · obtain ⟨l, _, hl2⟩ := List.mem_flatMap.1 h
    unfold rowl at hl2
    rw [if_pos rfl] at hl2
    simp at hl2; subst hl2; rfl

end Go.Proofs.Ytchkgccnipejhaa

/-
  Secret, the specification's.
-/
namespace Go.Proofs.Ytchkgccnipejhaa
open Go.RowKit TR L2 L2.SP
set_option linter.unusedVariables false
set_option linter.unusedSimpArgs false

end Go.Proofs.Ytchkgccnipejhaa

/-
  Equal secrets.
-/
namespace Go.Proofs.Ytchkgccnipejhaa
open Go.RowKit TR L2 L2.SP
set_option linter.unusedVariables false
set_option linter.unusedSimpArgs false

theorem eqkey_self (d : Nat) (p : Nat × Nat) (w : World) : (Op.equalIn (d + 2) 26 (.agg (kl p.1 p.2).toArray) (.agg (kl p.1 p.2).toArray)).run Try.prog w = .ok true w := by
  obtain ⟨i, hi⟩ := info5'
  rw [show d + 2 = (d + 1) + 1 from rfl, run_equalIn_array w (d + 1) _ _ Try.underlying26 hi, cells5, eqItems_key d p.1 p.2 p.1 p.2 w _ (fun j hj => by simpa using hj)]
  simp
theorem lbl_take (v x : Int) (p : Nat × Nat) : List.take 16 (List.drop 2 (lbl v x p)) = kl p.1 p.2 := by
  unfold lbl
  exact List.take_of_length_le (by simp [kl_len])
theorem partLab0 (v x : Int) (p : Nat × Nat) (w : World) : (part 3 (lbl v x p).toArray 0).run Try.prog w = .ok (.int .i64 v) w := by
  simp [part, isAgg, Sem.run_bind, run_underlying Try.underlying3 w, lbl, go_sem]
theorem partLab1 (v x : Int) (p : Nat × Nat) (w : World) : (part 3 (lbl v x p).toArray 1).run Try.prog w = .ok (.int .i64 x) w := by
  simp [part, isAgg, Sem.run_bind, run_underlying Try.underlying3 w, lbl, go_sem]
theorem infoKey : ∃ i, Try.prog.info? 26 = some i ∧ i.size = 16 := by
  have h := size23
  cases h1 : Try.prog.info? 26 with
  | none => rw [h1] at h; cases h
  | some i => rw [h1] at h; exact ⟨i, rfl, by simpa using h⟩
theorem partLab2 (v x : Int) (p : Nat × Nat) (w : World) : (part 26 (lbl v x p).toArray 2).run Try.prog w = .ok (.agg (kl p.1 p.2).toArray) w := by
  obtain ⟨i, hi, hs⟩ := infoKey
  simp [part, isAgg, Sem.run_bind, run_underlying Try.underlying26 w, sizeOf, typeInfo, hi, hs]
  exact lbl_take v x p
theorem labFields : (Try.prog.fieldsOf 82).toList.map (fun f => (decide (f.name ≠ "_"), f.type, f.offset)) = [(true, 3, 0), (true, 3, 1), (true, 26, 2)] := by kernel_rfl
theorem eqlab_self (v x : Int) (p : Nat × Nat) (w : World) : (Op.equalIn 10000 82 (.agg (lbl v x p).toArray) (.agg (lbl v x p).toArray)).run Try.prog w = .ok true w := by
  have hf := labFields
  rw [show (10000 : Nat) = 9999 + 1 from rfl, run_equalIn_struct w 9999 82 _ _ (by kernel_rfl) (by kernel_rfl)]
  generalize (Try.prog.fieldsOf 82).toList = fs at hf
  obtain ⟨f0, f1, f2, rfl⟩ : ∃ f0 f1 f2, fs = [f0, f1, f2] := by
    have hl : fs.length = 3 := by have h := congrArg List.length hf; simpa using h
    match fs, hl with
    | [f0, f1, f2], _ => exact ⟨f0, f1, f2, rfl⟩
  simp only [List.map_cons, List.map_nil, List.cons.injEq, Prod.mk.injEq, decide_eq_true_eq, and_true] at hf
  obtain ⟨⟨n0, t0, o0⟩, ⟨n1, t1, o1⟩, n2, t2, o2⟩ := hf
  have hk : (Op.equalIn 9999 26 (.agg (kl p.1 p.2).toArray) (.agg (kl p.1 p.2).toArray)).run Try.prog w = .ok true w := eqkey_self 9997 p w
  have hi1 : ∀ a : Int, (Op.equalIn 9999 3 (.int .i64 a) (.int .i64 a)).run Try.prog w = .ok true w := fun a => by
    have h := run_equalIn_int (P := Try.prog) w 9998 3 .i64 .i64 a a Try.underlying3
    simpa using h
  simp [Op.eqFields, n0, n1, n2, t0, t1, t2, o0, o1, o2, partLab0, partLab1, partLab2, hi1, hk]
theorem run_neq_lab (v z : Int) (p : Nat × Nat) (w : World) : (binOp .neq 82 (.agg (lbl v z p).toArray) (.agg (lbl v z p).toArray)).run Try.prog w = .ok (.bool false) w := by
  have h := eqlab_self v z p w
  simp only [binOp, Op.equal, Op.maxDepth, Sem.run_bind, h, Result.andThen_ok, Sem.run_pure, Bool.not_true]
theorem wp_neq_lab {op : Oper} {a : Act} {w : World} {K : Act → World → Prop} {Q : Exit → Act → World → Prop} (x y : Operand) (ho : op.op = .binOp .neq 82 x y 82) (v z : Int) (p : Nat × Nat) (hx : a.eval x = .agg (lbl v z p).toArray) (hy : a.eval y = .agg (lbl v z p).toArray)
    (h : K (a.put op.dst (.bool false)) w) : op.wp Try.prog a w K Q := by
  have hg : (eqGuard .neq 82 x y (.agg (lbl v z p).toArray) (.agg (lbl v z p).toArray)).run Try.prog w = .ok () w := run_eqGuard_agg (P := Try.prog) w .neq 82 x y _ _ (by kernel_rfl)
  unfold Oper.wp execOp
  simp only [ho, hx, hy, Sem.run_bind, hg, run_neq_lab, Result.andThen_ok]
  exact h
theorem eqpt_self (w : World) : (Op.equalIn 10000 70 (.agg #[.int .u64 0, .int .u64 0]) (.agg #[.int .u64 0, .int .u64 0])).run Try.prog w = .ok true w := by kernel_rfl

end Go.Proofs.Ytchkgccnipejhaa
