/-
  Texts joined into one: SmlA, DelA, DelB, MemA, MemB, MemC, SmI, CutA, PlcA.
-/
import Derived.Test.YtelalpikdidpeaaJA
import Derived.Test.YtelalpikdidpeaaCheB
import Derived.Lib.SliceRun
import Derived.Laws.IdiomCopy
import Derived.Laws.OwnMore
import Derived.Test.YtelalpikdidpeaaReg
import Derived.Test.YtelalpikdidpeaaPthC

/-
  Children, siblings, leaves, subsets, the program's.
-/
namespace Go.Proofs.Ytelalpikdidpeaa
open Go.RowKit TR
set_option linter.unusedVariables false
set_option linter.unusedSimpArgs false

set_option maxRecDepth 100000 in
set_option maxHeartbeats 400000 in
theorem left_any (v : Nat) (w : World) (hv : v < 256) :
    Calls Try.prog 116 #[.int .i64 (v : Int)] w fun e w' => e = .returned (.int .i64 ((2 * v : Nat) : Int)) ∧ w = w' := by
  go_enter Try.func116, Try.ntmps116
  go_wp2_with fail
  go_ret
  exact ⟨ret_int (by simp), rfl⟩

set_option maxRecDepth 100000 in
set_option maxHeartbeats 400000 in
theorem right_any (v : Nat) (w : World) (hv : v < 256) :
    Calls Try.prog 117 #[.int .i64 (v : Int)] w fun e w' => e = .returned (.int .i64 ((2 * v + 1 : Nat) : Int)) ∧ w = w' := by
  go_enter Try.func117, Try.ntmps117
  go_wp2_with fail
  go_ret
  exact ⟨ret_int (by simp), rfl⟩

theorem infoS : (Try.prog.info? 35).map (·.size) = some 2 := by kernel_rfl
theorem results_sub {fn : Func} {p : Tmp} (h : fn.results = #[.cell p 35]) (tmps : Array Value) (w : World) (b : Nat) (x y : Value)
    (hp : tmps.getD p undef = .pointer (some ⟨b, 0, none⟩)) (h0 : w.cell? ⟨b, 0, none⟩ = some x) (h1 : w.cell? ⟨b, 1, none⟩ = some y) : (results fn tmps).run Try.prog w = .ok (.agg #[x, y]) w := by
  have hp' : tmps[p]?.getD undef = .pointer (some ⟨b, 0, none⟩) := by simpa using hp
  have hc : w.rangeAt b 0 [x, y] := fun j v hv => by
    rw [Nat.zero_add]
    rcases j with _ | _ | j
    · simp at hv; subst hv; exact h0
    · simp at hv; subst hv; exact h1
    · simp at hv
  simp [results, h, hp', asAddr, run_loadVar_mid w b 0 35 [x, y] _ hc Try.underlying35 rfl infoS]
theorem bodyPost_sub {Q : Ending → World → Prop} {fn : Func} {p : Tmp} (h : fn.results = #[.cell p 35]) {a : Act} {w : World} (b : Nat) (x y : Value)
    (hp : a.tmps.getD p undef = .pointer (some ⟨b, 0, none⟩)) (h0 : w.cell? ⟨b, 0, none⟩ = some x) (h1 : w.cell? ⟨b, 1, none⟩ = some y) (hd : a.defers = []) (hq : Q (.returned (.agg #[x, y])) w) : bodyPost Try.prog fn Q .ret a w :=
  bodyPost_ret (results_sub h a.tmps w b x y hp h0 h1) hd hq

set_option maxRecDepth 100000 in
set_option maxHeartbeats 400000 in
theorem subset_any (a b : Int) (w : World) :
    Calls Try.prog 72 #[.int .i64 a, .int .i64 b] w fun e w' => e = .returned (.agg #[.int .i64 a, .int .i64 b]) ∧ Below w.heap.size w w' := by
  go_enter Try.func72, Try.ntmps72
  go_wp2
  exact bodyPost_sub rfl w.heap.size _ _ rfl (by simp) (by simp) rfl ⟨rfl, (Below.refl _ _).alloc (Nat.le_refl _) _⟩

set_option maxRecDepth 100000 in
set_option maxHeartbeats 1000000 in
theorem leaf_any (K E : Int) (d u P Q G : Nat) (w : World) (hd : d < 7) (hu : u < 256) :
    Calls Try.prog 95 #[.agg #[.int .u8 K, .int .i64 (d : Int), .int .i64 E, .int .u64 (P : Int), .int .u64 (Q : Int), .int .u64 (G : Int)], .int .i64 (u : Int)] w fun e w' => e = .returned (.int .i64 ((2 ^ d + u : Nat) : Int)) ∧ Below w.heap.size w w' := by
  have HB : Hid (Below w.heap.size w (w.alloc (.cells #[.int .u8 K, .int .i64 (d : Int), .int .i64 E, .int .u64 (P : Int), .int .u64 (Q : Int), .int .u64 (G : Int)] 28))) := Lib.hid ((Below.refl _ _).alloc (Nat.le_refl _) _)
  rcases (by omega : d = 0 ∨ d = 1 ∨ d = 2 ∨ d = 3 ∨ d = 4 ∨ d = 5 ∨ d = 6) with rfl | rfl | rfl | rfl | rfl | rfl | rfl
  all_goals
    go_enter Try.func95, Try.ntmps95
    go_wp2_with fail
    go_ret
    exact ⟨ret_int (by first | rfl | (simp; done) | (simp; omega)), HB.out⟩

theorem chk_xor : ((List.range 256).all fun x => bits BinOp.xor IntKind.i64 (x : Int) 1 == ((x ^^^ 1 : Nat) : Int)) = true := by decide +kernel
theorem xor_one (x : Nat) (hx : x < 256) : bits BinOp.xor IntKind.i64 (x : Int) 1 = ((x ^^^ 1 : Nat) : Int) := by
  have h := chk_xor
  simp only [List.all_eq_true, List.mem_range] at h
  simpa using h x hx
set_option maxRecDepth 100000 in
set_option maxHeartbeats 400000 in
theorem sibling_any (v : Nat) (w : World) (hv : v < 256) :
    Calls Try.prog 98 #[.int .i64 (v : Int)] w fun e w' => e = .returned (.int .i64 ((v ^^^ 1 : Nat) : Int)) ∧ w = w' := by
  go_enter Try.func98, Try.ntmps98
  go_wp2_with fail
  go_ret
  exact ⟨ret_int (xor_one v hv), rfl⟩
end Go.Proofs.Ytelalpikdidpeaa

/-
  slices.IndexFunc at the method value of isAbove.
-/
namespace Go.Proofs.Ytelalpikdidpeaa
open Go.RowKit TR
set_option linter.unusedVariables false
set_option linter.unusedSimpArgs false

/-- A row of n nodes that may be written. -/
structure RowI (w : World) (b n : Nat) (f : Nat → Nat) : Prop where
  cell : ∀ j, j < n → w.cell? ⟨b, j, none⟩ = some (.int .i64 (f j : Int))
  fr : ∀ j, j < n → w.frozen? ⟨b, j, none⟩ = false
theorem RowI.set {w : World} {b n : Nat} {f : Nat → Nat} (h : RowI w b n f) (j v : Nat) (hj : j < n) : RowI (w.setCell ⟨b, j, none⟩ (.int .i64 (v : Int))) b n (fun i => if i = j then v else f i) where
  cell i hi := by
    by_cases e : i = j
    · subst e
      rw [if_pos rfl, World.cell?_setCell_same _ _ _ (h.cell i hi)]
    · rw [if_neg e, World.cell?_setCell_other _ _ _ _ (fun hh => e (by injection hh with _ h2 _; exact h2.symm))]
      exact h.cell i hi
  fr i hi := by rw [World.frozen?_setCell]; exact h.fr i hi
theorem RowI.below {w w' : World} {m b n : Nat} {f : Nat → Nat} (h : RowI w b n f) (hb : Below m w w') (hn : b < m) : RowI w' b n f where
  cell i hi := by rw [hb.cell (p := ⟨b, i, none⟩) hn]; exact h.cell i hi
  fr i hi := by rw [hb.frozen (p := ⟨b, i, none⟩) hn]; exact h.fr i hi
theorem RowI.ext {w : World} {b n : Nat} {f g : Nat → Nat} (h : RowI w b n f) (e : ∀ i, i < n → f i = g i) : RowI w b n g :=
  ⟨fun i hi => by rw [← e i hi]; exact h.cell i hi, h.fr⟩
theorem own_rowi {w : World} {B n : Nat} {v : Value} {g : Nat → Nat} {t : TypeId} (h : w.ownsRow B t 1 v n (ivs ((List.range n).map g))) (hn : 0 < n) : ∃ b c, v = .slice (some ⟨b, 0, none⟩) n c ∧ B ≤ b ∧ b < w.heap.size ∧ n ≤ c ∧ c ≤ maxLen ∧ RowI w b n g := by
  rcases h.2 with ⟨_, h0⟩ | ⟨b, cap, cur, hv, hb, hg, hnc, hcm, hcs, ht⟩
  · omega
  · refine ⟨b, cap, hv, hb, (Array.getElem?_eq_some_iff.1 hg).1, hnc, hcm, fun i hi => ?_, fun i hi => ?_⟩
    · have hx : (ivs ((List.range n).map g))[i]? = some (.int .i64 (g i : Int)) := by unfold ivs; simp [List.getElem?_map, List.getElem?_range hi]
      rw [cell_of_row _ _ i _ _ _ hg]
      rw [← ht, List.getElem?_take, if_pos (by omega)] at hx
      simpa using hx
    · unfold World.frozen?
      rw [hg]
      simp

/-- The first place at which b is above, or -1. -/
def FirstAt (b n : Nat) (g : Nat → Nat) (k : Int) : Prop := (k = -1 ∧ ∀ j, j < n → abv b (g j) = false) ∨ ∃ m : Nat, k = (m : Int) ∧ m < n ∧ abv b (g m) = true ∧ ∀ j, j < m → abv b (g j) = false

end Go.Proofs.Ytelalpikdidpeaa

/-
  slices.DeleteFunc at the method value of isAbove.
-/
namespace Go.Proofs.Ytelalpikdidpeaa
open Go.RowKit TR
set_option linter.unusedVariables false
set_option linter.unusedSimpArgs false

/-- Of the first m places' nodes those that b is not above. -/
def kpl (b : Nat) (g : Nat → Nat) (m : Nat) : List Nat := ((List.range m).map g).filter (fun x => !abv b x)
theorem kpl_yes {b m : Nat} {g : Nat → Nat} (h : abv b (g m) = false) : kpl b g (m + 1) = kpl b g m ++ [g m] := by
  unfold kpl; rw [List.range_succ, List.map_append, List.filter_append]; simp [h]
theorem kpl_no {b m : Nat} {g : Nat → Nat} (h : abv b (g m) = true) : kpl b g (m + 1) = kpl b g m := by
  unfold kpl; rw [List.range_succ, List.map_append, List.filter_append]; simp [h]
theorem kpl_all {b : Nat} {g : Nat → Nat} : ∀ m : Nat, (∀ j, j < m → abv b (g j) = false) → kpl b g m = (List.range m).map g
  | 0, _ => rfl
  | m + 1, h => by rw [kpl_yes (h m (by omega)), kpl_all m (fun j hj => h j (by omega)), List.range_succ, List.map_append]; rfl
theorem below_setCells {n : Nat} {w : World} (b : Nat) : ∀ (vs : List Value) (o : Nat) (w' : World), Below n w w' → n ≤ b → Below n w (w'.setCells b o vs)
  | [], _, _, h, _ => h
  | v :: r, o, w', h, hb => by
    rw [World.setCells]
    exact below_setCells b r (o + 1) _ (h.setCell (p := ⟨b, o, none⟩) hb _) hb

/-- m places have been looked at: i nodes are kept. -/
structure Kpt (b n : Nat) (g : Nat → Nat) (i m : Nat) (F : Nat → Nat) : Prop where
  lt : i < m
  le : m ≤ n
  len : (kpl b g m).length = i
  low : ∀ t, t < i → (kpl b g m)[t]? = some (F t)
  high : ∀ t, m ≤ t → t < n → F t = g t
theorem Kpt.start {b n m : Nat} {g : Nat → Nat} (h : ∀ j, j < m → abv b (g j) = false) (hm : m < n) (ht : abv b (g m) = true) : Kpt b n g m (m + 1) g where
  lt := by omega
  le := by omega
  len := by rw [kpl_no ht, kpl_all m h]; simp
  low t h2 := by rw [kpl_no ht, kpl_all m h]; simp [List.getElem?_map, List.getElem?_range h2]
  high t _ _ := rfl
theorem Kpt.keep {b n i m : Nat} {g F : Nat → Nat} (h : Kpt b n g i m F) (hm : m < n) (ht : abv b (g m) = false) : Kpt b n g (i + 1) (m + 1) (fun t => if t = i then g m else F t) where
  lt := by have := h.lt; omega
  le := by omega
  len := by rw [kpl_yes ht]; simp [h.len]
  low t h2 := by
    rw [kpl_yes ht]
    by_cases e : t = i
    · subst e
      rw [List.getElem?_append_right (by rw [h.len]; exact Nat.le_refl _), h.len, Nat.sub_self]; simp
    · rw [List.getElem?_append_left (by rw [h.len]; omega), h.low t (by omega)]; simp [e]
  high t h1 h2 := by
    have := h.lt
    show (if t = i then g m else F t) = g t
    rw [if_neg (by omega)]; exact h.high t (by omega) h2
theorem Kpt.skip {b n i m : Nat} {g F : Nat → Nat} (h : Kpt b n g i m F) (hm : m < n) (ht : abv b (g m) = true) : Kpt b n g i (m + 1) F where
  lt := by have := h.lt; omega
  le := by omega
  len := by rw [kpl_no ht]; exact h.len
  low t h2 := by rw [kpl_no ht]; exact h.low t h2
  high t h1 h2 := h.high t (by omega) h2

/-- What a slice of nodes reads. -/
def NodesAt (w : World) (B : Nat) (l : List Nat) : Prop := ∀ (t x : Nat), l[t]? = some x → w.cell? ⟨B, t, none⟩ = some (.int .i64 (x : Int))

end Go.Proofs.Ytelalpikdidpeaa

/-
  Members: what the program leaves is what the specification says.
-/
namespace Go.Proofs.Ytelalpikdidpeaa
open Go.RowKit TR
set_option linter.unusedVariables false

/-- The leaf of a place below v. -/
def lfa (d v i : Nat) : Nat := v * 2 ^ (d - lv v) + i
theorem lvs_lfa (d v : Nat) : lvs d v = (List.range (2 ^ (d - lv v))).map (lfa d v) := rfl
theorem mem_kpl (d v b : Nat) (hd : d < 7) (hv : v < 2 ^ (d + 1)) (h1 : 1 ≤ v) : mem_ d v b = (kpl b (lfa d v) (2 ^ (d - lv v))).map (fun l => l - 2 ^ d) := by
  obtain ⟨e, hl⟩ := mem_lvs d v hd hv h1
  have e1 : mem_ d v b = ((List.range (2 ^ d)).filter fun u => abv v (2 ^ d + u)).filter fun u => !(abv b (2 ^ d + u)) := by
    unfold mem_
    rw [List.filter_filter]
    congr 1
    funext u
    exact Bool.and_comm _ _
  rw [e1, e, List.filter_map]
  unfold kpl
  rw [← lvs_lfa]
  congr 1
  refine List.filter_congr fun l h => ?_
  show (!abv b (2 ^ d + (l - 2 ^ d))) = !abv b l
  rw [show 2 ^ d + (l - 2 ^ d) = l by have := hl l h; omega]
theorem kpl_len (b m : Nat) (g : Nat → Nat) : (kpl b g m).length ≤ m := by
  unfold kpl; have := List.length_filter_le (fun x => !abv b x) ((List.range m).map g); simpa using this
theorem kpl_leaf (d v b : Nat) (hd : d < 7) (hv : v < 2 ^ (d + 1)) (h1 : 1 ≤ v) : ∀ l ∈ kpl b (lfa d v) (2 ^ (d - lv v)), 2 ^ d ≤ l := fun l h => by
  unfold kpl at h
  rw [← lvs_lfa] at h
  exact (mem_lvs d v hd hv h1).2 l (List.mem_filter.1 h).1
theorem chk_lfa : ((List.range 7).all fun d => (List.range (2 ^ (d + 1))).all fun v => v == 0 || (List.range (2 ^ (d - lv v))).all fun i => decide (1 ≤ lfa d v i ∧ lfa d v i < 128)) = true := by decide +kernel
theorem lfa_lt (d v i : Nat) (hd : d < 7) (hv : v < 2 ^ (d + 1)) (h1 : 1 ≤ v) (hi : i < 2 ^ (d - lv v)) : 1 ≤ lfa d v i ∧ lfa d v i < 128 := by
  have h := chk_lfa
  simp only [List.all_eq_true, List.mem_range] at h
  have := h d hd v hv
  simp only [Bool.or_eq_true, beq_iff_eq, List.all_eq_true, List.mem_range, decide_eq_true_eq] at this
  rcases this with h0 | h2
  · omega
  · exact h2 i hi
theorem chk_ht : ((List.range 7).all fun d => (List.range (2 ^ (d + 1))).all fun v => v == 0 || decide (lv v ≤ d ∧ 1 ≤ 2 ^ (d - lv v) ∧ 2 ^ (d - lv v) ≤ 64)) = true := by decide +kernel
theorem ht_le (d v : Nat) (hd : d < 7) (hv : v < 2 ^ (d + 1)) (h1 : 1 ≤ v) : lv v ≤ d ∧ 1 ≤ 2 ^ (d - lv v) ∧ 2 ^ (d - lv v) ≤ 64 := by
  have h := chk_ht
  simp only [List.all_eq_true, List.mem_range] at h
  have := h d hd v hv
  simp only [Bool.or_eq_true, beq_iff_eq, decide_eq_true_eq] at this
  rcases this with h0 | h2
  · omega
  · exact h2
end Go.Proofs.Ytelalpikdidpeaa

/-
  Members, the program's.
-/
namespace Go.Proofs.Ytelalpikdidpeaa
open Go.RowKit TR
set_option linter.unusedVariables false
set_option linter.unusedSimpArgs false

theorem sbc_zero {K D E a b : Int} {P Q G : Nat} (h : sbc K D E P Q G a b = 0) : ScOk K D E P Q G ∧ ∃ d v x : Nat, D = (d : Int) ∧ a = (v : Int) ∧ b = (x : Int) ∧ d < 7 ∧ 1 ≤ v ∧ v < 2 ^ (d + 1) ∧ v < 128 ∧ x < 128 := by
  unfold sbc at h
  by_cases hs : ScOk K D E P Q G
  · rw [scb_yes hs] at h
    have hd0 := hs.2.2.1
    have hd6 := hs.2.2.2.1
    obtain ⟨d, rfl⟩ := Int.eq_ofNat_of_zero_le hd0
    simp only [Int.toNat_natCast, if_true] at h
    cases hi : isb K d a b with
    | false => simp [hi] at h
    | true =>
      unfold isb at hi
      rw [Bool.and_eq_true] at hi
      obtain ⟨h1, h2⟩ := hi
      obtain ⟨v, rfl, v1, v2, v3⟩ := hsn_nat (by omega) h1
      have hb : b = 0 ∨ hsn d b = true := by
        by_cases k1 : K = 1
        · rw [if_pos k1] at h2; exact .inl (of_decide_eq_true h2)
        · rw [if_neg k1] at h2
          by_cases b0 : b = 0
          · exact .inl b0
          · rw [if_neg b0, Bool.and_eq_true] at h2; exact .inr h2.1
      rcases hb with rfl | hb
      · exact ⟨hs, d, v, 0, rfl, rfl, rfl, by omega, v1, v2, v3, by omega⟩
      · obtain ⟨x, rfl, _, _, x3⟩ := hsn_nat (by omega) hb
        exact ⟨hs, d, v, x, rfl, rfl, rfl, by omega, v1, v2, v3, x3⟩
  · rw [scb_no hs] at h; simp at h

theorem kpl_lt {b m : Nat} {g : Nat → Nat} (h : ∀ i, i < m → g i < 128) : ∀ l ∈ kpl b g m, l < 128 := fun l hl => by
  unfold kpl at hl
  obtain ⟨i, hi, rfl⟩ := List.mem_map.1 (List.mem_filter.1 hl).1
  exact h i (List.mem_range.1 hi)
theorem ivs_ext {m : Nat} {xs : List Value} {l : List Nat} (hl : l.length = m) (hx : xs.length = m) (h : ∀ t y, t < m → l[t]? = some y → xs[t]? = some (.int .i64 (y : Int))) : xs = ivs l := by
  apply List.ext_getElem?
  intro t
  by_cases ht : t < m
  · have e : l[t]? = some l[t] := List.getElem?_eq_getElem (by omega)
    rw [h t _ ht e]; unfold ivs; rw [List.getElem?_map, e]; rfl
  · rw [List.getElem?_eq_none (by omega), List.getElem?_eq_none (by unfold ivs; rw [List.length_map]; omega)]

end Go.Proofs.Ytelalpikdidpeaa

/-
  Check and Members, the specification's.
-/
namespace Go.Proofs.Ytelalpikdidpeaa
open Go.RowKit TR
set_option linter.unusedVariables false
set_option linter.unusedSimpArgs false

theorem own_mono {w : World} {B B' e s n : Nat} {v : Value} {xs : List Value} (h : w.ownsRow B e s v n xs) (hb : B' ≤ B) : w.ownsRow B' e s v n xs :=
  ⟨h.1, h.2.imp id fun ⟨g, cap, cur, h1, h2, r⟩ => ⟨g, cap, cur, h1, Nat.le_trans hb h2, r⟩⟩

end Go.Proofs.Ytelalpikdidpeaa

/-
  Equal slices of ints.
-/
namespace Go.Proofs.Ytelalpikdidpeaa
open Go.RowKit TR
set_option linter.unusedVariables false
set_option linter.unusedSimpArgs false

set_option maxRecDepth 100000 in
set_option maxHeartbeats 1000000 in
theorem sameInts_eq (aa ab : Option Addr) (ga ob gb n ca cb : Nat) (F : Nat → Int) (w : World) (hca : n ≤ ca) (hcb : n ≤ cb) (hca2 : ca ≤ maxLen) (hcb2 : cb ≤ maxLen) (had : n = 0 ∨ (aa = some ⟨ga, 0, none⟩ ∧ ab = some ⟨gb, ob, none⟩))
    (hc1 : ∀ i, i < n → w.cell? ⟨ga, i, none⟩ = some (.int .i64 (F i)) ∧ w.cell? ⟨gb, ob + i, none⟩ = some (.int .i64 (F i))) :
    Calls Try.prog 31 #[.slice aa n ca, .slice ab n cb] w fun e w' => e = .returned (.bool true) ∧ Below w.heap.size w w' := by
  obtain ⟨N, hN⟩ : ∃ N, N = w.heap.size := ⟨_, rfl⟩
  have HC : Hid (∀ w1, Below N w w1 → ∀ i, i < n → w1.cell? ⟨ga, i, none⟩ = some (.int .i64 (F i)) ∧ w1.cell? ⟨gb, ob + i, none⟩ = some (.int .i64 (F i))) := Lib.hid (fun w1 hb i hi => by
    have k : ∀ (p : Addr) v, w.cell? p = some v → w1.cell? p = some v := fun p v hv => (hb.cell (p := p) (by rw [hN]; exact World.block_lt_of_cell? w _ hv)).trans hv
    exact ⟨k _ _ (hc1 i hi).1, k _ _ (hc1 i hi).2⟩)
  have hm : n ≤ 9223372036854775807 := by unfold maxLen at hca2; omega
  have HAD := Lib.hid had
  have HN := Lib.hid hN
  rw [← hN]
  clear hN hc1 had hca2 hcb2
  go_enter Try.func31, Try.ntmps31
  go_wp2_with fail
  go_loopw [5] (fun i wr => ∃ (k : Nat), k ≤ n ∧ i = .int .i64 (k : Int) ∧ Hid (Below N w wr)) (fun i _ => n - (intOf i).toNat)
  case atStart => exact ⟨0, by omega, rfl, Lib.hid (Below.refl _ _)⟩
  case round =>
    obtain ⟨k, hk, rfl, HBr⟩ := hrel
    by_cases hlt : k < n
    · rcases HAD.out with h0 | ⟨rfl, rfl⟩
      · omega
      have l1 : (0 : Int) ≤ (k : Int) := by omega
      have l2 : (k : Int) < (n : Int) := by omega
      have HBd : Hid (Below N w wr.drew) := Lib.hid HBr.out.drew
      have HCk := Lib.hid (HC.out _ HBd.out k hlt)
      obtain ⟨x, hx⟩ : ∃ x, x = F k := ⟨_, rfl⟩
      rw [← hx] at HCk
      clear hx
      go_wp2_with fail
      refine wp_region_inv (by kernel_rfl) (by kernel_rfl) (fun l a' w' => a' = { tmps := #[Value.slice (some ⟨ga, 0, none⟩) n ca, Value.slice (some ⟨gb, ob, none⟩) n cb, undef, undef, u4, Value.int .i64 (k : Int), Value.slice (some ⟨ga, 0, none⟩) n ca, Value.int .i64 (n : Int), Value.slice (some ⟨gb, ob, none⟩) n cb, Value.int .i64 (n : Int), Value.bool false, Value.int .i64 (k : Int), Value.slice (some ⟨ga, 0, none⟩) n ca, Value.int .i64 (n : Int), Value.bool true, u15, u16, bif l 0 then Value.slice (some ⟨ga, 0, none⟩) n ca else u17, bif l 1 then Value.int .i64 (k : Int) else u18, bif l 2 then Value.pointer (some ⟨ga, k, none⟩) else u19, bif l 3 then Value.int .i64 x else u20, bif l 4 then Value.slice (some ⟨gb, ob, none⟩) n cb else u21, bif l 5 then Value.int .i64 (k : Int) else u22, bif l 6 then Value.pointer (some ⟨gb, ob + k, none⟩) else u23, bif l 7 then Value.int .i64 x else u24, bif l 8 then Value.bool false else u25], defers := [] } ∧ w' = wr.drew) ⟨rfl, rfl⟩ ?_ ?_
      · rintro l a' w' i ⟨rfl, rfl⟩ hi hli hpre
        have hi2 : i < 9 := hi
        have hcase : i = 0 ∨ i = 1 ∨ i = 2 ∨ i = 3 ∨ i = 4 ∨ i = 5 ∨ i = 6 ∨ i = 7 ∨ i = 8 := by omega
        clear hi hi2
        rcases hcase with rfl | rfl | rfl | rfl | rfl | rfl | rfl | rfl | rfl
        · -- 0: Op.move (Operand.tmp 0)
          refine wpOp_step rfl (fun K' hK => ?_)
          clear hpre
          rw [if_pos (by rfl)]
          go_simp
          exact hK _ _ ⟨by simp [upd, Act.put], rfl⟩
        · -- 1: Op.move (Operand.tmp 5)
          refine wpOp_step rfl (fun K' hK => ?_)
          clear hpre
          rw [if_pos (by rfl)]
          go_simp
          exact hK _ _ ⟨by simp [upd, Act.put], rfl⟩
        · -- 2: Op.indexAddr 57 (Operand.tmp 17) (Operand.tmp 18)
          have p0 : l 0 = true := hpre _ rfl ⟨0, .data⟩ (by simp) rfl
          have p1 : l 1 = true := hpre _ rfl ⟨1, .data⟩ (by simp) rfl
          refine wpOp_step rfl (fun K' hK => ?_)
          simp only [p0, p1, cond_true, cond_false]
          clear hpre
          rw [if_pos (by rfl)]
          have l1 : (0 : Int) ≤ (k : Int) := by omega
          have l2 : (k : Int) < (n : Int) := by omega
          go_simp
          exact hK _ _ ⟨by simp [upd, Act.put, p0, p1], rfl⟩
        · -- 3: Op.load 3 (Operand.tmp 19)
          have p2 : l 2 = true := hpre _ rfl ⟨2, .data⟩ (by simp) rfl
          refine wpOp_step rfl (fun K' hK => ?_)
          simp only [p2, cond_true, cond_false]
          clear hpre
          rw [if_pos (by rfl)]
          have z := HCk.out.1
          go_simp
          exact hK _ _ ⟨by simp [upd, Act.put, p2], rfl⟩
        · -- 4: Op.move (Operand.tmp 1)
          refine wpOp_step rfl (fun K' hK => ?_)
          clear hpre
          rw [if_pos (by rfl)]
          go_simp
          exact hK _ _ ⟨by simp [upd, Act.put], rfl⟩
        · -- 5: Op.move (Operand.tmp 5)
          refine wpOp_step rfl (fun K' hK => ?_)
          clear hpre
          rw [if_pos (by rfl)]
          go_simp
          exact hK _ _ ⟨by simp [upd, Act.put], rfl⟩
        · -- 6: Op.indexAddr 57 (Operand.tmp 21) (Operand.tmp 22)
          have p4 : l 4 = true := hpre _ rfl ⟨4, .data⟩ (by simp) rfl
          have p5 : l 5 = true := hpre _ rfl ⟨5, .data⟩ (by simp) rfl
          refine wpOp_step rfl (fun K' hK => ?_)
          simp only [p4, p5, cond_true, cond_false]
          clear hpre
          rw [if_pos (by rfl)]
          have l1 : (0 : Int) ≤ (k : Int) := by omega
          have l2 : (k : Int) < (n : Int) := by omega
          go_simp
          exact hK _ _ ⟨by simp [upd, Act.put, p4, p5], rfl⟩
        · -- 7: Op.load 3 (Operand.tmp 23)
          have p6 : l 6 = true := hpre _ rfl ⟨6, .data⟩ (by simp) rfl
          refine wpOp_step rfl (fun K' hK => ?_)
          simp only [p6, cond_true, cond_false]
          clear hpre
          rw [if_pos (by rfl)]
          have z := HCk.out.2
          go_simp
          exact hK _ _ ⟨by simp [upd, Act.put, p6], rfl⟩
        · -- 8: Op.binOp BinOp.neq 3 (Operand.tmp 20) (Operand.tmp 24) 3
          have p3 : l 3 = true := hpre _ rfl ⟨3, .data⟩ (by simp) rfl
          have p7 : l 7 = true := hpre _ rfl ⟨7, .data⟩ (by simp) rfl
          refine wpOp_step rfl (fun K' hK => ?_)
          simp only [p3, p7, cond_true, cond_false]
          clear hpre
          rw [if_pos (by rfl)]
          go_simp
          exact hK _ _ ⟨by simp [upd, Act.put, p3, p7], rfl⟩
      · rintro l a' w9 hall ⟨rfl, rfl⟩
        simp only [hall 0 (by decide), hall 1 (by decide), hall 2 (by decide), hall 3 (by decide), hall 4 (by decide), hall 5 (by decide), hall 6 (by decide), hall 7 (by decide), hall 8 (by decide), cond_true]
        clear hall
        go_wp2_with fail
        go_roundw
        case rel => exact ⟨k + 1, by omega, by go_num, HBd⟩
        case measure => simp [intOf]; omega
    · obtain rfl : n = k := by omega
      go_wp2_with fail
      go_ret
      exact ⟨rfl, HBr.out⟩
end Go.Proofs.Ytelalpikdidpeaa

/-
  Slices of two subsets, the program's.
-/
namespace Go.Proofs.Ytelalpikdidpeaa
open Go.RowKit TR
set_option linter.unusedVariables false
set_option linter.unusedSimpArgs false

/-- The cells of two subsets. -/
def two (a b c d : Int) : List Value := [.int .i64 a, .int .i64 b, .int .i64 c, .int .i64 d]
theorem own_two (w : World) (a b c d : Int) (N : Nat) (hN : N ≤ w.heap.size) : (w.alloc (.cells #[.int .i64 a, .int .i64 b, .int .i64 c, .int .i64 d] 35)).ownsRow N 35 2 (.slice (some ⟨w.heap.size, 0, none⟩) 2 2) 2 (two a b c d) :=
  ⟨rfl, .inr ⟨w.heap.size, 2, #[.int .i64 a, .int .i64 b, .int .i64 c, .int .i64 d], rfl, hN, heap_alloc_new w _, Nat.le_refl _, by unfold maxLen; omega, rfl, rfl⟩⟩

set_option maxRecDepth 100000 in
set_option maxHeartbeats 1000000 in
theorem cut_any (a b c : Int) (w : World) :
    Calls Try.prog 119 #[.int .i64 a, .int .i64 b, .int .i64 c] w fun e w' => (∃ u, e = .returned u ∧ w'.ownsRow w.heap.size 35 2 u 2 (two a b b c)) ∧ Below w.heap.size w w' := by
  obtain ⟨N, hN⟩ : ∃ N, N = w.heap.size := ⟨_, rfl⟩
  have HN := Lib.hid hN
  have HS := Lib.hid (fun a b w => subset_any a b w)
  rw [← hN]
  clear hN
  go_enter Try.func119, Try.ntmps119
  go_wp2_with fail
  refine (HS.out _ _ _).mono ?_
  rintro e w1 ⟨rfl, hb1⟩
  have HB1 : Hid (Below N w w1 ∧ N ≤ w1.heap.size) := Lib.hid ⟨by rw [HN.out]; exact hb1, by rw [HN.out]; exact hb1.size⟩
  clear hb1
  go_wp2_with fail
  refine (HS.out _ _ _).mono ?_
  rintro e w2 ⟨rfl, hb2⟩
  have HB2 : Hid (Below N w w2 ∧ N ≤ w2.heap.size) := Lib.hid ⟨HB1.out.1.trans (hb2.mono HB1.out.2), Nat.le_trans HB1.out.2 hb2.size⟩
  clear hb2
  have HO : Hid ((w2.alloc (.cells #[.int .i64 a, .int .i64 b, .int .i64 b, .int .i64 c] 35)).ownsRow N 35 2 (.slice (some ⟨w2.heap.size, 0, none⟩) 2 2) 2 (two a b b c) ∧ Below N w (w2.alloc (.cells #[.int .i64 a, .int .i64 b, .int .i64 b, .int .i64 c] 35))) := Lib.hid ⟨own_two w2 a b b c N HB2.out.2, HB2.out.1.alloc HB2.out.2 _⟩
  go_wp2_with fail
  go_ret
  exact ⟨⟨_, rfl, HO.out.1⟩, HO.out.2⟩

end Go.Proofs.Ytelalpikdidpeaa

/-
  The nodes of a receiver's labels: the list of them.
-/
namespace Go.Proofs.Ytelalpikdidpeaa
open Go.RowKit TR
set_option linter.unusedVariables false

/-- The first k labels beside the path to y, of those of the node of level l. -/
def rin (K : Int) (d y l k : Nat) : List (Nat × Nat) := ((List.range k).map fun i => (nat_ y l, nat_ y (l + 1 + i) ^^^ 1)).filter fun p => isb K d (p.1 : Int) (p.2 : Int)
theorem rin_snoc (K : Int) (d y l k : Nat) : rin K d y l (k + 1) = rin K d y l k ++ (if isb K d (nat_ y l : Nat) ((nat_ y (l + 1 + k) ^^^ 1 : Nat) : Int) = true then [(nat_ y l, nat_ y (l + 1 + k) ^^^ 1)] else []) := by
  unfold rin
  rw [List.range_succ, List.map_append, List.filter_append]
  congr 1
  simp only [List.map_cons, List.map_nil, List.filter_cons, List.filter_nil]
theorem rin_len (K : Int) (d y l k : Nat) : (rin K d y l k).length ≤ k := by
  unfold rin; have := List.length_filter_le (fun p : Nat × Nat => isb K d (p.1 : Int) (p.2 : Int)) ((List.range k).map fun i => (nat_ y l, nat_ y (l + 1 + i) ^^^ 1)); simpa using this
/-- The same, of some levels. -/
def rls (K : Int) (d y l : Nat) (ls : List Nat) : List (Nat × Nat) := (ls.map fun m => (nat_ y l, nat_ y m ^^^ 1)).filter fun p => isb K d (p.1 : Int) (p.2 : Int)
theorem rls_snoc (K : Int) (d y l : Nat) (ls : List Nat) (m : Nat) : rls K d y l (ls ++ [m]) = rls K d y l ls ++ (if isb K d (nat_ y l : Nat) ((nat_ y m ^^^ 1 : Nat) : Int) = true then [(nat_ y l, nat_ y m ^^^ 1)] else []) := by
  unfold rls
  rw [List.map_append, List.filter_append]
  congr 1
  simp only [List.map_cons, List.map_nil, List.filter_cons, List.filter_nil]
theorem rls_len (K : Int) (d y l : Nat) (ls : List Nat) : (rls K d y l ls).length ≤ ls.length := by
  unfold rls; have := List.length_filter_le (fun p : Nat × Nat => isb K d (p.1 : Int) (p.2 : Int)) (ls.map fun m => (nat_ y l, nat_ y m ^^^ 1)); simpa using this
theorem rls_rin (K : Int) (d y l k : Nat) : rls K d y l (lvl (l + 1) k) = rin K d y l k := by
  unfold rls rin lvl; rw [List.map_map]; rfl
/-- The labels of the node of level l. -/
def rowl (K : Int) (d y l : Nat) : List (Nat × Nat) := if K = 1 then [(nat_ y l, 0)] else rin K d y l (lv y - l)
theorem rowl_len (K : Int) (d y l : Nat) (h : lv y ≤ 7) : (rowl K d y l).length ≤ 7 := by
  unfold rowl
  split
  · simp
  · have := rin_len K d y l (lv y - l); omega
def pre0 (K : Int) : List (Nat × Nat) := if K = 1 then [] else [(1, 0)]
/-- The labels of some levels' nodes. -/
def plf (K : Int) (d y : Nat) (ls : List Nat) : List (Nat × Nat) := pre0 K ++ ls.flatMap (rowl K d y)
theorem plf_snoc (K : Int) (d y : Nat) (ls : List Nat) (l : Nat) : plf K d y (ls ++ [l]) = plf K d y ls ++ rowl K d y l := by
  unfold plf; rw [List.flatMap_append, List.append_assoc]; simp
theorem plf_len (K : Int) (d y : Nat) (h : lv y ≤ 7) : ∀ ls : List Nat, (plf K d y ls).length ≤ 1 + 7 * ls.length := by
  intro ls
  have h1 : (pre0 K).length ≤ 1 := by unfold pre0; split <;> simp
  have h2 : (ls.flatMap (rowl K d y)).length ≤ 7 * ls.length := by
    induction ls with
    | nil => simp
    | cons a r ih => rw [List.flatMap_cons, List.length_append, List.length_cons]; have := rowl_len K d y a h; omega
  unfold plf
  rw [List.length_append]; omega
/-- All of them. -/
def plc (K : Int) (d y : Nat) : List (Nat × Nat) := plf K d y (List.range (lv y + 1))
/-- The cells of pairs. -/
def prs (xs : List (Nat × Nat)) : List Value := xs.flatMap fun p => [Value.int .i64 (p.1 : Int), Value.int .i64 (p.2 : Int)]
theorem prs_append (xs ys : List (Nat × Nat)) : prs (xs ++ ys) = prs xs ++ prs ys := by unfold prs; rw [List.flatMap_append]
theorem prs_len (xs : List (Nat × Nat)) : (prs xs).length = xs.length * 2 := by
  unfold prs
  induction xs with
  | nil => rfl
  | cons a r ih => rw [List.flatMap_cons, List.length_append, ih, List.length_cons]; simp; omega
theorem prs_get (xs : List (Nat × Nat)) (i : Nat) (p : Nat × Nat) (h : xs[i]? = some p) : (prs xs)[2 * i]? = some (.int .i64 (p.1 : Int)) ∧ (prs xs)[2 * i + 1]? = some (.int .i64 (p.2 : Int)) := by
  induction xs generalizing i with
  | nil => simp at h
  | cons a r ih =>
    cases i with
    | zero => simp at h; subst h; exact ⟨rfl, rfl⟩
    | succ i =>
      have h1 := ih i (by simpa using h)
      unfold prs at h1 ⊢
      rw [List.flatMap_cons, show 2 * (i + 1) = 2 * i + 1 + 1 by omega]
      exact h1
theorem lvl_zero (k : Nat) : lvl 0 k = List.range k := by unfold lvl; simp
end Go.Proofs.Ytelalpikdidpeaa
