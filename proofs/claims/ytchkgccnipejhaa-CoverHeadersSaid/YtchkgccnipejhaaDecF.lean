/-
  A header read, the program's.
-/
import Derived.Test.YtchkgccnipejhaaJT
import Derived.Test.YtchkgccnipejhaaJS
namespace Go.Proofs.Ytchkgccnipejhaa
open Go.RowKit TR L2 L2.SP
set_option linter.unusedVariables false
set_option linter.unusedSimpArgs false

/-- What is read of a header's bytes: how many items, how many points, a key, an item, a number of the bytes that are left. -/
def hn0 (L : Nat) (f : Nat → Nat) : Nat := flz L f 0
def hnp (L : Nat) (f : Nat → Nat) : Nat := flz L f (9 + 18 * hn0 L f)
def kyF (L : Nat) (f : Nat → Nat) (p : Nat) : Nat × Nat := (kwX fun i => flz L f (p + i), kwY fun i => flz L f (p + i))
def dF (L : Nat) (f : Nat → Nat) (i : Nat) : Int × Int × (Nat × Nat) := (((flz L f (1 + 18 * i) : Nat) : Int), ((flz L f (1 + 18 * i + 1) : Nat) : Int), kyF L f (1 + 18 * i + 2))
def nbP (L : Nat) (f : Nat → Nat) (p : Nat) : Nat := wd (fun i => f (p + i)) (min 8 (L - p))
def pF (L : Nat) (f : Nat → Nat) (q i : Nat) : Int × Int := (((nbP L f (q + 16 * i) : Nat) : Int), ((nbP L f (q + 16 * i + 8) : Nat) : Int))

theorem gx_of_below {w w1 : World} {row : Option Nat} (h : Below w.heap.size w w1) : w.grownBy w1 row := ⟨h.os, h.tape, h.output, h.size, fun k hk _ => h.block k hk⟩
theorem gx_drew {w w1 : World} {row : Option Nat} (h : w.grownBy w1 row) : w.grownBy w1.drew row := grownBy_trans h ⟨rfl, rfl, rfl, Nat.le_refl _, fun _ _ _ => rfl⟩
theorem gx_grown {w w1 w2 : World} {r : Nat} {row : Option Nat} (h : w.grownBy w1 (some r)) (hg : w1.grownBy w2 row) (hrow : ∀ b, some b = row → w.heap.size ≤ b) : w.grownBy w2 (some r) :=
  ⟨hg.os.trans h.os, hg.tape.trans h.tape, hg.output.trans h.output, Nat.le_trans h.size hg.size, fun k hk hne => (hg.block k (Nat.lt_of_lt_of_le hk h.size) (fun e => by have := hrow k e; omega)).trans (h.block k hk hne)⟩
theorem gx_set {w w1 : World} {r : Nat} (h : w.grownBy w1 (some r)) (b j : Nat) (hb : w.heap.size ≤ b) (v : Value) : w.grownBy (w1.setCell ⟨b, j, none⟩ v) (some r) :=
  gx_grown h (row := some b) ⟨rfl, rfl, rfl, (KeepsWalks.setCell w1 _ v).size, fun k _ hk => Below.heap_setCell _ _ _ k (fun e => hk (by rw [e]))⟩ (fun b' e => by injection e with e; omega)
theorem gx_setCells {w : World} {r b : Nat} (hb : w.heap.size ≤ b) : ∀ (vs : List Value) (o : Nat) {w1 : World}, w.grownBy w1 (some r) → w.grownBy (w1.setCells b o vs) (some r)
  | [], _, _, h => h
  | u :: vs, o, w1, h => by rw [World.setCells]; exact gx_setCells hb vs (o + 1) (gx_set h b o hb u)
section
variable {w w' : World} {r g o L p : Nat}
theorem Rdr.apart {B e s n : Nat} {v : Value} {xs : List Value} (h : Rdr w r g o L p) (ho : w.ownsRow B e s v n xs) (hne : e ≠ 106) : some r ≠ v.ownBlock := by
  obtain ⟨A, c, hb, _⟩ := h; exact hb.ty.apart ho hne
theorem Rdr.grown {row : Option Nat} (h : Rdr w r g o L p) (hg : w.grownBy w' row) (hn : some r ≠ row) : Rdr w' r g o L p := by
  obtain ⟨A, c, hb, h2⟩ := h; exact ⟨A, c, hb.grown hg hn, h2⟩
theorem Rdr.keep (h : Rdr w r g o L p) (hb : Below w.heap.size w w') : Rdr w' r g o L p := h.below hb h.lt
theorem Rdr.other (h : Rdr w r g o L p) {a : Addr} (ha : a.block ≠ r) (u : Value) : Rdr (w.setCell a u) r g o L p := by
  obtain ⟨A, c, hb, h2⟩ := h; exact ⟨A, c, hb.other ha u, h2⟩
theorem Rdr.otherN {b : Nat} (hb : b ≠ r) : ∀ (vs : List Value) (j : Nat) {w : World}, Rdr w r g o L p → Rdr (w.setCells b j vs) r g o L p
  | [], _, _, h => h
  | u :: vs, j, w, h => by rw [World.setCells]; exact Rdr.otherN hb vs (j + 1) (h.other (a := ⟨b, j, none⟩) hb u)
theorem Rdr.ne {b : Nat} {cs : Array Value} {t : TypeId} (h : Rdr w r g o L p) (hb : Blk w b cs t) (hne : t ≠ 106) : some b ≠ some r := by
  obtain ⟨A, c, h1, _⟩ := h
  intro e
  injection e with e
  exact Blk.ne hb h1.blk hne e
end
theorem own_kept {w w' : World} {B e s n : Nat} {v : Value} {xs : List Value} {row : Option Nat} (h : w.ownsRow B e s v n xs) (hg : w.grownBy w' row) (hne : row ≠ v.ownBlock) : w'.ownsRow B e s v n xs := h.kept hg (.inr (Ne.symm hne))
theorem own_apart {w : World} {B B' e e' s s' n n' : Nat} {v v' : Value} {xs xs' : List Value} (h1 : w.ownsRow B e s v n xs) (h2 : w.ownsRow B' e' s' v' n' xs') (hne : e' ≠ e) : v.ownBlock = none ∨ v.ownBlock ≠ v'.ownBlock := by
  rcases h1.2 with ⟨rfl, _⟩ | ⟨g, cap, cur, rfl, _, hg, _⟩
  · exact .inl rfl
  · exact .inr (Ty.apart (t := e) ⟨_, _, hg⟩ h2 hne)
theorem Hdx.setBase {w : World} {b : Nat} {iv pv : Value} {B : Int} {x y : Nat × Nat} (h : Hdx w b iv pv B x y) (B' : Int) : Hdx (w.setCell ⟨b, 1, none⟩ (.int .u64 B')) b iv pv B' x y := by
  have h1 := h.set1 1 (.int .u64 B')
  have e : (hdi iv pv B x y).toArray.setIfInBounds 1 (.int .u64 B') = (hdi iv pv B' x y).toArray := by simp [hdi]
  rw [e] at h1; exact h1
theorem hdi_get3 (iv pv : Value) (B : Int) (x y : Nat × Nat) (j : Nat) : (hdi iv pv B x y).toArray[j + 3]? = (kl x.1 x.2 ++ kl y.1 y.2)[j]? := by
  rw [List.getElem?_toArray]; rfl
theorem Hdx.setBox {w : World} {b : Nat} {iv pv : Value} {B : Int} {x y : Nat × Nat} (h : Hdx w b iv pv B x y) (q : Nat × Nat) : Hdx (w.setCells b 3 (kl q.1 q.2)) b iv pv B q y := by
  obtain ⟨cs, h1, h2, h3⟩ := Blk.setn (kl q.1 q.2) 3 h
  have hs : cs.size = 35 := by rw [h2]; simp [hdi_len]
  have e : cs = (hdi iv pv B q y).toArray := by
    apply Array.ext_getElem?
    intro i
    by_cases hi : i < 35
    · rw [h3 i (by simp [hdi_len]; exact hi), kl_len]
      by_cases h4 : i < 3
      · rw [if_neg (by omega)]
        obtain rfl | rfl | rfl : i = 0 ∨ i = 1 ∨ i = 2 := by omega
        all_goals (simp [hdi])
      · obtain ⟨j, rfl⟩ : ∃ j, i = j + 3 := ⟨i - 3, by omega⟩
        by_cases h5 : j < 16
        · rw [if_pos (by omega), hdi_get3, List.getElem?_append_left (by rw [kl_len]; exact h5), Nat.add_sub_cancel]
        · rw [if_neg (by omega), hdi_get3, hdi_get3, List.getElem?_append_right (by rw [kl_len]; omega), List.getElem?_append_right (by rw [kl_len]; omega), kl_len, kl_len]
    · rw [Array.getElem?_eq_none (by omega), Array.getElem?_eq_none (by simp [hdi_len]; omega)]
  rw [e] at h1; exact h1
theorem Hdx.setChk {w : World} {b : Nat} {iv pv : Value} {B : Int} {x y : Nat × Nat} (h : Hdx w b iv pv B x y) (q : Nat × Nat) : Hdx (w.setCells b 19 (kl q.1 q.2)) b iv pv B x q := by
  obtain ⟨cs, h1, h2, h3⟩ := Blk.setn (kl q.1 q.2) 19 h
  have hs : cs.size = 35 := by rw [h2]; simp [hdi_len]
  have e : cs = (hdi iv pv B x q).toArray := by
    apply Array.ext_getElem?
    intro i
    by_cases hi : i < 35
    · rw [h3 i (by simp [hdi_len]; exact hi), kl_len]
      by_cases h4 : i < 3
      · rw [if_neg (by omega)]
        obtain rfl | rfl | rfl : i = 0 ∨ i = 1 ∨ i = 2 := by omega
        all_goals (simp [hdi])
      · obtain ⟨j, rfl⟩ : ∃ j, i = j + 3 := ⟨i - 3, by omega⟩
        by_cases h5 : j < 16
        · rw [if_neg (by omega), hdi_get3, hdi_get3, List.getElem?_append_left (by rw [kl_len]; exact h5), List.getElem?_append_left (by rw [kl_len]; exact h5)]
        · rw [if_pos (by omega), hdi_get3, List.getElem?_append_right (by rw [kl_len]; omega), kl_len, show j + 3 - 19 = j - 16 by omega]
    · rw [Array.getElem?_eq_none (by omega), Array.getElem?_eq_none (by simp [hdi_len]; omega)]
  rw [e] at h1; exact h1
theorem Hdx.there_at {w : World} {b : Nat} {iv pv : Value} {B : Int} {x y : Nat × Nat} (h : Hdx w b iv pv B x y) (o : Nat) (ho : o ≤ 19) : w.there b o 16 := fun j hj => by
  have h1 := Hdx.there h (o + j) (by omega)
  rwa [Nat.zero_add] at h1
theorem wpList_store_keya {ops : Array Oper} {rest : List Oper} {op : Oper} {a : Act} {w : World} {Q : Exit → Act → World → Prop} (hgd : op.guard = none) (x y : Operand) (ho : op.op = .store 26 x y)
    (b o : Nat) (q : Nat × Nat) (hx : a.eval x = .pointer (some ⟨b, o, none⟩)) (hy : a.eval y = .agg (kl q.1 q.2).toArray) (ht : w.there b o 16)
    (h : wpList Try.prog ops Q rest (a.put op.dst undef) (w.setCells b o (kl q.1 q.2))) : wpList Try.prog ops Q (op :: rest) a w := by
  refine wpList_store_mid hgd 26 x y ho b o (kl q.1 q.2).toArray hx hy ?_ ?_ (all_oneCell_toArray (kl_one _ _)) ?_
  · simpa [kl_len] using ht
  · simp [kl_len, size23]
  · simpa using h
theorem buildPnt (a b : Int) (w : World) : (Instr.build 70 #[(0, .int .u64 a), (1, .int .u64 b)]).run Try.prog w = .ok (.agg #[.int .u64 a, .int .u64 b]) w := run_build w 70 _ _ (by kernel_rfl)
theorem wp_buildPnt {op : Oper} {a : Act} {w : World} {K : Act → World → Prop} {Q : Exit → Act → World → Prop} (x y : Operand) (ho : op.op = .build 70 #[(0, x), (1, y)]) (u v : Int) (hx : a.eval x = .int .u64 u) (hy : a.eval y = .int .u64 v)
    (h : K (a.put op.dst (.agg #[.int .u64 u, .int .u64 v])) w) : op.wp Try.prog a w K Q := by
  unfold Oper.wp execOp
  simp only [ho, List.map_toArray, List.map_cons, List.map_nil, hx, hy, Sem.run_bind, buildPnt, Result.andThen_ok]
  exact h
theorem fillPnt (u v : Int) : Instr.fill (fun i => some (i * 2, 2)) ((Array.range (1 * 2)).map ((Value.agg #[.int .u64 0, .int .u64 0]).cells[· % (Value.agg #[.int .u64 0, .int .u64 0]).cells.size]!)) [(0, .agg #[.int .u64 u, .int .u64 v])] = some #[.int .u64 u, .int .u64 v] := by kernel_rfl
theorem wp_buildSliceP {op : Oper} {a : Act} {w : World} {K : Act → World → Prop} {Q : Exit → Act → World → Prop} (x : Operand) {u v : Int} (ho : op.op = .buildSlice 24 1 #[(0, x)]) (hx : a.eval x = .agg #[.int .u64 u, .int .u64 v])
    (h : K (a.put op.dst (.slice (some ⟨w.heap.size, 0, none⟩) 1 1)) (w.alloc (.cells #[.int .u64 u, .int .u64 v] 70))) : op.wp Try.prog a w K Q := by
  obtain ⟨i0, hi, hz0, hz1, hz2⟩ := info_parts infoPnt
  exact wp_buildSlice 24 70 1 #[(0, x)] ho #[.int .u64 u, .int .u64 v] i0 _ Try.underlying24 hi hz0 (by rw [hz1]; decide) (by rw [hz1]; decide) (by rw [hz1]; simp only [List.map_toArray, List.map_cons, List.map_nil, hx]; exact fillPnt u v) h

set_option maxRecDepth 100000 in
set_option maxHeartbeats 400000 in
theorem header_any (r g o L : Nat) (f : Nat → Nat) (w : World) (hr : Rdr w r g o L 0) (hg : g ≠ r) (hf : ∀ i, f i < 256) (hc : ∀ i, i < L → w.cell? ⟨g, o + i, none⟩ = some (.int .u8 (f i : Int))) :
    Calls Try.prog 50 #[.pointer (some ⟨r, 0, none⟩)] w fun e w' => (∃ v pv, e = .returned (.agg (hdi v pv ((nbP L f (1 + 18 * hn0 L f) : Nat) : Int) (kyF L f (10 + 18 * hn0 L f + 16 * hnp L f)) (kyF L f (26 + 18 * hn0 L f + 16 * hnp L f))).toArray) ∧ w'.ownsRow w.heap.size 90 18 v (hn0 L f) (lbF (dF L f) (hn0 L f)) ∧ w'.ownsRow w.heap.size 70 2 pv (hnp L f) (ptF (pF L f (10 + 18 * hn0 L f)) (hnp L f))) ∧ w.grownBy w' (some r) := by
  have hn255 : hn0 L f < 256 := flz_lt L f hf 0
  have hp255 : hnp L f < 256 := flz_lt L f hf _
  have HNP : Hid (flz L f (9 + 18 * hn0 L f) = hnp L f) := Lib.hid rfl
  have HN0 : Hid (flz L f 0 = hn0 L f) := Lib.hid rfl
  obtain ⟨n, hn⟩ : ∃ n, n = hn0 L f := ⟨_, rfl⟩
  obtain ⟨np, hnpe⟩ : ∃ np, np = hnp L f := ⟨_, rfl⟩
  rw [← hn] at hn255 HNP HN0 ⊢
  rw [← hnpe] at hp255 HNP ⊢
  obtain ⟨N, hN⟩ : ∃ N, N = w.heap.size := ⟨_, rfl⟩
  obtain ⟨W2, hW2⟩ : ∃ W2, W2 = (w.alloc (.cells z35 28)).alloc (.cells z35 28) := ⟨_, rfl⟩
  have s2 : W2.heap.size = N + 2 := by rw [hW2, hN]; simp
  have b2 : Below N w W2 := by rw [hW2, hN]; exact (below_alloc _ _).trans ((below_alloc _ _).mono (by simp))
  have hrN : r < N := by rw [hN]; exact hr.lt
  have r2 : Rdr W2 r g o L 0 := hr.below b2 hrN
  have e0 : Hdx W2 N (.slice none 0 0) (.slice none 0 0) 0 (0, 0) (0, 0) := by
    have h := (Blk.new w z35 28).keep (below_alloc _ (.cells z35 28))
    rw [← hN] at h; rw [hW2]; rw [z35_hdi] at h ⊢; exact h
  have e1 : Hdx W2 (N + 1) (.slice none 0 0) (.slice none 0 0) 0 (0, 0) (0, 0) := by
    have h := Blk.new (w.alloc (.cells z35 28)) z35 28
    rw [World.size_alloc, ← hN] at h; rw [hW2]; rw [z35_hdi] at h ⊢; exact h
  have g2 : w.grownBy W2 (some r) := gx_of_below (by rw [← hN]; exact b2)
  have HE : Hid (W2.heap.size = N + 2 ∧ w.grownBy W2 (some r) ∧ Rdr W2 r g o L 0 ∧ Hdx W2 N (.slice none 0 0) (.slice none 0 0) 0 (0, 0) (0, 0) ∧ Hdx W2 (N + 1) (.slice none 0 0) (.slice none 0 0) 0 (0, 0) (0, 0)) := Lib.hid ⟨s2, g2, r2, e0, e1⟩
  have HC : Hid (∀ w1, w.grownBy w1 (some r) → ∀ i, i < L → w1.cell? ⟨g, o + i, none⟩ = some (.int .u8 (f i : Int))) := Lib.hid (fun w1 h i hi => h.cell (hc i hi) (by intro e; injection e with e; exact hg e))
  have HSm : Hid (∀ p w1, Rdr w1 r g o L p → w.grownBy w1 (some r) → Calls Try.prog 104 #[.pointer (some ⟨r, 0, none⟩)] w1 fun e w' => e = .returned (.int .i64 (flz L f p : Nat)) ∧ Rdr w' r g o L (p + 1) ∧ w1.grownBy w' (some r) ∧ w'.heap.size = w1.heap.size) := Lib.hid (fun p w1 h1 h2 => small_any r g o L p f w1 h1 hg hf (HC.out w1 h2))
  have HNu : Hid (∀ p w1, Rdr w1 r g o L p → w.grownBy w1 (some r) → Calls Try.prog 106 #[.pointer (some ⟨r, 0, none⟩), .int .i64 8] w1 fun e w' => e = .returned (.int .u64 ((nbP L f p : Nat) : Int)) ∧ Rdr w' r g o L (p + 8) ∧ w1.grownBy w' (some r) ∧ w'.heap.size = w1.heap.size) := Lib.hid (fun p w1 h1 h2 => number_any' r 8 g o L p f w1 h1 (by omega) hg hf (HC.out w1 h2))
  have HBk : Hid (∀ p w1, Rdr w1 r g o L p → w.grownBy w1 (some r) → Calls Try.prog 105 #[.pointer (some ⟨r, 0, none⟩)] w1 fun e w' => e = .returned (.agg (kl (kyF L f p).1 (kyF L f p).2).toArray) ∧ Rdr w' r g o L (p + 16) ∧ w1.grownBy w' (some r)) := Lib.hid (fun p w1 h1 h2 => block_any r g o L p f w1 h1 hg hf (HC.out w1 h2))
  have HRN := Lib.hid hrN
  have HN := Lib.hid hN
  have HW := Lib.hid hW2
  rw [← hN]
  clear hn hnpe hN hW2 s2 b2 r2 e0 e1 g2 hr hg hf hc hrN
  go_enter Try.func50, Try.ntmps50
  go_wp2_with fail
  rw [← HW.out, ← HN.out]
  refine (HSm.out 0 W2 HE.out.2.2.1 HE.out.2.1).mono ?_
  rintro e w3 ⟨rfl, hr3, hg3, hs3⟩
  rw [HN0.out]
  have H3 : Hid (w.grownBy w3 (some r) ∧ Rdr w3 r g o L 1 ∧ N + 2 ≤ w3.heap.size ∧ Hdx w3 N (.slice none 0 0) (.slice none 0 0) 0 (0, 0) (0, 0) ∧ Hdx w3 (N + 1) (.slice none 0 0) (.slice none 0 0) 0 (0, 0) (0, 0)) := Lib.hid ⟨grownBy_trans HE.out.2.1 hg3, hr3, by rw [hs3, HE.out.1]; exact Nat.le_refl _, Blk.grown HE.out.2.2.2.1 hg3 (HE.out.2.2.1.ne HE.out.2.2.2.1 (by decide)), Blk.grown HE.out.2.2.2.2 hg3 (HE.out.2.2.1.ne HE.out.2.2.2.2 (by decide))⟩
  clear hr3 hg3 hs3
  go_wp2_with fail
  go_loopw [7] (fun i wr => ∃ (k : Nat) (v : Value), k ≤ n ∧ i = .int .i64 (k : Int) ∧ Hid (wr.ownsRow N 90 18 v k (lbF (dF L f) k)) ∧ Hid (Hdx wr (N + 1) v (.slice none 0 0) 0 (0, 0) (0, 0) ∧ Hdx wr N (.slice none 0 0) (.slice none 0 0) 0 (0, 0) (0, 0)) ∧ Hid (w.grownBy wr (some r) ∧ Rdr wr r g o L (1 + 18 * k) ∧ N + 2 ≤ wr.heap.size)) (fun i _ => n - (intOf i).toNat)
  case atStart => exact ⟨0, .slice none 0 0, by omega, rfl, Lib.hid (World.ownsRow_nil _ _ _ _), Lib.hid ⟨H3.out.2.2.2.2, H3.out.2.2.2.1⟩, Lib.hid ⟨H3.out.1, H3.out.2.1, H3.out.2.2.1⟩⟩
  case round =>
    obtain ⟨k, v, hk, rfl, HO, HB, HS⟩ := hrel
    by_cases hlt : k < n
    · have l2 : (k : Int) < (n : Int) := by omega
      have HSn : Hid (lbF (dF L f) (k + 1) = lbF (dF L f) k ++ lbl ((flz L f (1 + 18 * k) : Nat) : Int) ((flz L f (1 + 18 * k + 1) : Nat) : Int) (kyF L f (1 + 18 * k + 2))) := Lib.hid (lbF_succ _ _)
      have HA := Lib.hid (HSm.out (1 + 18 * k))
      have HBb := Lib.hid (HSm.out (1 + 18 * k + 1))
      have HQ := Lib.hid (HBk.out (1 + 18 * k + 2))
      obtain ⟨a, ha⟩ : ∃ a : Int, a = ((flz L f (1 + 18 * k) : Nat) : Int) := ⟨_, rfl⟩
      obtain ⟨b, hb⟩ : ∃ b : Int, b = ((flz L f (1 + 18 * k + 1) : Nat) : Int) := ⟨_, rfl⟩
      obtain ⟨q, hq⟩ : ∃ q, q = kyF L f (1 + 18 * k + 2) := ⟨_, rfl⟩
      obtain ⟨xs, hxs⟩ : ∃ xs, xs = lbF (dF L f) k := ⟨_, rfl⟩
      rw [← ha] at HSn HA
      rw [← hb] at HSn HBb
      rw [← hq] at HSn HQ
      rw [← hxs] at HSn HO
      have HPP : Hid (1 + 18 * k + 2 + 16 = 1 + 18 * (k + 1)) := Lib.hid (by omega)
      obtain ⟨P, hP⟩ : ∃ P, P = 1 + 18 * k + 2 := ⟨_, rfl⟩
      rw [← hP] at HPP HQ
      have HP1 := Lib.hid hP
      have l3 : k ≤ 255 := by omega
      clear ha hb hq hxs hP hk hlt
      go_wp2_with fail
      refine (HA.out wr HS.out.2.1 HS.out.1).mono ?_
      rintro e w4 ⟨rfl, hr4, hg4, hs4⟩
      have H4 : Hid (w.grownBy w4 (some r) ∧ Rdr w4 r g o L (1 + 18 * k + 1) ∧ N + 2 ≤ w4.heap.size ∧ Hdx w4 (N + 1) v (.slice none 0 0) 0 (0, 0) (0, 0) ∧ Hdx w4 N (.slice none 0 0) (.slice none 0 0) 0 (0, 0) (0, 0) ∧ w4.ownsRow N 90 18 v k xs) := Lib.hid ⟨grownBy_trans HS.out.1 hg4, hr4, by rw [hs4]; exact HS.out.2.2, Blk.grown HB.out.1 hg4 (HS.out.2.1.ne HB.out.1 (by decide)), Blk.grown HB.out.2 hg4 (HS.out.2.1.ne HB.out.2 (by decide)), own_kept HO.out hg4 (HS.out.2.1.apart HO.out (by decide))⟩
      clear hr4 hg4 hs4
      go_wp2_with fail
      refine (HBb.out w4 H4.out.2.1 H4.out.1).mono ?_
      rintro e w5 ⟨rfl, hr5, hg5, hs5⟩
      replace hr5 : Rdr w5 r g o L P := by rw [HP1.out]; exact hr5
      obtain ⟨W10, hW10⟩ : ∃ W10, W10 = w5.alloc (.cells #[.int .i64 a, .int .i64 b] 56) := ⟨_, rfl⟩
      obtain ⟨xb, hxb⟩ : ∃ xb, xb = w5.heap.size := ⟨_, rfl⟩
      have b10 : Below w5.heap.size w5 W10 := by rw [hW10]; exact below_alloc _ _
      have h5 : Hdx w5 (N + 1) v (.slice none 0 0) 0 (0, 0) (0, 0) := Blk.grown H4.out.2.2.2.1 hg5 (H4.out.2.1.ne H4.out.2.2.2.1 (by decide))
      have h5' : Hdx w5 N (.slice none 0 0) (.slice none 0 0) 0 (0, 0) (0, 0) := Blk.grown H4.out.2.2.2.2.1 hg5 (H4.out.2.1.ne H4.out.2.2.2.2.1 (by decide))
      have o5 : w5.ownsRow N 90 18 v k xs := own_kept H4.out.2.2.2.2.2 hg5 (H4.out.2.1.apart H4.out.2.2.2.2.2 (by decide))
      have HB10 : Hid (Hdx W10 (N + 1) v (.slice none 0 0) 0 (0, 0) (0, 0) ∧ Hdx W10 N (.slice none 0 0) (.slice none 0 0) 0 (0, 0) (0, 0) ∧ Blk W10 xb #[.int .i64 a, .int .i64 b] 56) := Lib.hid ⟨Blk.keep h5 b10, Blk.keep h5' b10, by rw [hW10, hxb]; exact Blk.new w5 _ _⟩
      have HO10 : Hid (W10.ownsRow N 90 18 v k xs) := Lib.hid (own_below o5 b10)
      have HS10 : Hid (w.grownBy W10 (some r) ∧ Rdr W10 r g o L P ∧ N + 2 ≤ W10.heap.size ∧ N + 2 ≤ xb) := Lib.hid ⟨grownBy_below (grownBy_trans H4.out.1 hg5) b10, hr5.keep b10, Nat.le_trans (by rw [hs5]; exact H4.out.2.2.1) b10.size, by rw [hxb, hs5]; exact H4.out.2.2.1⟩
      have HW10 := Lib.hid (And.intro hW10 hxb)
      have HX := Lib.hid (And.intro (show N + 1 ≠ r by have := HRN.out; omega) (And.intro (show N ≠ r by have := HRN.out; omega) (show xb ≠ r by have := HRN.out; have := HS10.out.2.2.2; omega)))
      clear hr5 hg5 hs5 hW10 hxb b10 h5 h5' o5 H4
      go_wp2_with fail
      rw [← HW10.out.1, ← HW10.out.2]
      obtain ⟨i0, hi, hz0, hz1, hz2⟩ := info_parts infoItm
      have HI := Lib.hid (And.intro hi (And.intro hz0 (And.intro hz1 hz2)))
      clear hi hz0 hz1 hz2
      refine wp_region_inv (by kernel_rfl) (by kernel_rfl) (fun l a' w' => ∃ (v2 : Value) (gb : Nat) (w1 : World), a' = { tmps := #[Value.pointer (some ⟨r, 0, none⟩), undef, Value.pointer (some ⟨N, 0, none⟩), Value.pointer (some ⟨N + 1, 0, none⟩), Value.pointer (some ⟨xb, 0, none⟩), Value.pointer (some ⟨r, 0, none⟩), Value.int .i64 (n : Int), Value.int .i64 (k : Int), Value.bool true, Value.pointer (some ⟨r, 0, none⟩), Value.int .i64 (a : Int), Value.pointer (some ⟨r, 0, none⟩), Value.int .i64 (b : Int), Value.agg #[Value.int IntKind.i64 a, Value.int IntKind.i64 b], bif l 0 then Value.pointer (some ⟨N + 1, 0, none⟩) else u14, bif l 1 then v else u15, bif l 2 then Value.agg #[Value.int .i64 a, Value.int .i64 b] else u16, bif l 3 then Value.pointer (some ⟨r, 0, none⟩) else u17, bif l 4 then Value.agg (kl q.1 q.2).toArray else u18, bif l 5 then Value.agg (lbl a b q).toArray else u19, bif l 6 then Value.slice (some ⟨gb, 0, none⟩) 1 1 else u20, bif l 7 then v2 else u21, bif l 8 then Value.pointer (some ⟨N + 1, 0, none⟩) else u22, u23, undef, undef, undef, undef, undef, undef, undef, undef, undef, undef, undef, undef, undef, undef, undef, undef, undef, undef, undef, undef, undef, undef, undef, undef, undef], defers := [] } ∧ (w.grownBy w1 (some r)) ∧ (∀ b' cs t, t ≠ 106 → 90 ≠ t → Blk W10 b' cs t → Blk w1 b' cs t) ∧ (l 7 = false → w1.ownsRow N 90 18 v k xs) ∧ (l 4 = false → Rdr w1 r g o L P) ∧ (l 4 = true → Rdr w1 r g o L (P + 16)) ∧ (l 6 = true → l 7 = false → Blk w1 gb (lbl a b q).toArray 90) ∧ (l 7 = true → w1.ownsRow N 90 18 v2 (k + 1) (xs ++ (lbl a b q))) ∧ w' = (bif l 9 then w1.setCell ⟨N + 1, 0, none⟩ v2 else w1) ∧ (l 9 = true → (l 0 && l 1 && l 2 && l 3 && l 4 && l 5 && l 6 && l 7 && l 8) = true)) ⟨v, 0, W10.drew, rfl, gx_drew HS10.out.1, (fun _ _ _ _ _ h => h), (fun _ => (HO10.out : W10.drew.ownsRow N 90 18 v k xs)), (fun _ => (HS10.out.2.1 : Rdr W10.drew r g o L P)), (fun h => by cases h), (fun h => by cases h), (fun h => by cases h), rfl, (fun h => by cases h)⟩ ?_ ?_
      · rintro l a' w' i ⟨v2, gb, w1, rfl, hX, cK, cR, cP0, cP1, cS, cO, hw, oS⟩ hi' hli hpre
        have hi2 : i < 10 := hi'
        have hcase : i = 0 ∨ i = 1 ∨ i = 2 ∨ i = 3 ∨ i = 4 ∨ i = 5 ∨ i = 6 ∨ i = 7 ∨ i = 8 ∨ i = 9 := by omega
        clear hi' hi2
        rcases hcase with rfl | rfl | rfl | rfl | rfl | rfl | rfl | rfl | rfl | rfl
        · -- 0: Op.fieldAddr 28 (Operand.tmp 3) 0
          refine wpOp_step rfl (fun K' hK => ?_)
          have nS : l 9 = false := by
            cases h : l 9
            · rfl
            · have := oS h; simp [hli] at this
          rw [nS, cond_false] at hw
          subst hw
          clear hpre
          rw [if_pos (by rfl)]
          go_simp
          exact hK _ _ ⟨v2, gb, w', by simp [upd, Act.put], hX, cK, (fun e0 => (cR (by simpa [upd] using e0))), (fun e0 => (cP0 (by simpa [upd] using e0))), (fun e0 => (cP1 (by simpa [upd] using e0))), (fun e0 e1 => (cS (by simpa [upd] using e0) (by simpa [upd] using e1))), (fun e0 => (cO (by simpa [upd] using e0))), by simp [upd, nS], (fun e => absurd e (by simp [upd, nS]))⟩
        · -- 1: Op.load 22 (Operand.tmp 14)
          have p0 : l 0 = true := hpre _ rfl ⟨0, .data⟩ (by simp) rfl
          refine wpOp_step rfl (fun K' hK => ?_)
          have nS : l 9 = false := by
            cases h : l 9
            · rfl
            · have := oS h; simp [hli] at this
          rw [nS, cond_false] at hw
          subst hw
          simp only [p0, cond_true, cond_false]
          clear hpre
          rw [if_pos (by rfl)]
          have z1 : w'.cell? ⟨N + 1, 0, none⟩ = some v := Hdx.c0 (cK _ _ _ (by decide) (by decide) HB10.out.1)
          go_simp
          exact hK _ _ ⟨v2, gb, w', by simp [upd, Act.put, p0], hX, cK, (fun e0 => (cR (by simpa [upd] using e0))), (fun e0 => (cP0 (by simpa [upd] using e0))), (fun e0 => (cP1 (by simpa [upd] using e0))), (fun e0 e1 => (cS (by simpa [upd] using e0) (by simpa [upd] using e1))), (fun e0 => (cO (by simpa [upd] using e0))), by simp [upd, nS], (fun e => absurd e (by simp [upd, nS]))⟩
        · -- 2: Op.load 56 (Operand.tmp 4)
          refine wpOp_step rfl (fun K' hK => ?_)
          have nS : l 9 = false := by
            cases h : l 9
            · rfl
            · have := oS h; simp [hli] at this
          rw [nS, cond_false] at hw
          subst hw
          clear hpre
          rw [if_pos (by rfl)]
          refine wp_load_mid 56 _ rfl _ 0 rfl #[Value.int .i64 a, Value.int .i64 b].toList _ (Blk.range (cK _ _ _ (by decide) (by decide) HB10.out.2.2)) Try.underlying56 rfl sizeSub ?_
          exact hK _ _ ⟨v2, gb, w', by simp [upd, Act.put], hX, cK, (fun e0 => (cR (by simpa [upd] using e0))), (fun e0 => (cP0 (by simpa [upd] using e0))), (fun e0 => (cP1 (by simpa [upd] using e0))), (fun e0 e1 => (cS (by simpa [upd] using e0) (by simpa [upd] using e1))), (fun e0 => (cO (by simpa [upd] using e0))), by simp [upd, nS], (fun e => absurd e (by simp [upd, nS]))⟩
        · -- 3: Op.move (Operand.tmp 0)
          refine wpOp_step rfl (fun K' hK => ?_)
          have nS : l 9 = false := by
            cases h : l 9
            · rfl
            · have := oS h; simp [hli] at this
          rw [nS, cond_false] at hw
          subst hw
          clear hpre
          rw [if_pos (by rfl)]
          go_simp
          exact hK _ _ ⟨v2, gb, w', by simp [upd, Act.put], hX, cK, (fun e0 => (cR (by simpa [upd] using e0))), (fun e0 => (cP0 (by simpa [upd] using e0))), (fun e0 => (cP1 (by simpa [upd] using e0))), (fun e0 e1 => (cS (by simpa [upd] using e0) (by simpa [upd] using e1))), (fun e0 => (cO (by simpa [upd] using e0))), by simp [upd, nS], (fun e => absurd e (by simp [upd, nS]))⟩
        · -- 4: Op.call { callee := Callee.value (Operand.func 105), args :=
          have p3 : l 3 = true := hpre _ rfl ⟨3, .data⟩ (by simp) rfl
          refine wpOp_step rfl (fun K' hK => ?_)
          have nS : l 9 = false := by
            cases h : l 9
            · rfl
            · have := oS h; simp [hli] at this
          rw [nS, cond_false] at hw
          subst hw
          have n4 : l 4 = false := hli
          have hRx := cP0 n4
          simp only [p3, cond_true, cond_false]
          clear hpre
          rw [if_pos (by rfl)]
          go_simp
          refine (HQ.out _ hRx hX).mono ?_
          rintro e w5 ⟨rfl, hr5, hb5⟩
          exact hK _ _ ⟨v2, gb, w5, by simp [upd, Act.put, p3], grownBy_trans hX hb5, (fun b' cs t h1 h2 h3 => Blk.grown (cK b' cs t h1 h2 h3) hb5 (hRx.ne (cK b' cs t h1 h2 h3) h1)), (fun e0 => own_kept ((cR (by simpa [upd] using e0))) hb5 (hRx.apart ((cR (by simpa [upd] using e0))) (by decide))), (fun e0 => absurd e0 (by simp [upd])), (fun _ => hr5), (fun e0 e1 => Blk.grown ((cS (by simpa [upd] using e0) (by simpa [upd] using e1))) hb5 (hRx.ne ((cS (by simpa [upd] using e0) (by simpa [upd] using e1))) (by decide))), (fun e0 => own_kept ((cO (by simpa [upd] using e0))) hb5 (hRx.apart ((cO (by simpa [upd] using e0))) (by decide))), by simp [upd, nS], (fun e => absurd e (by simp [upd, nS]))⟩
        · -- 5: Op.build 90 #[(0, Operand.tmp 16), (1, Operand.tmp 18)]
          have p2 : l 2 = true := hpre _ rfl ⟨2, .data⟩ (by simp) rfl
          have p4 : l 4 = true := hpre _ rfl ⟨4, .data⟩ (by simp) rfl
          refine wpOp_step rfl (fun K' hK => ?_)
          have nS : l 9 = false := by
            cases h : l 9
            · rfl
            · have := oS h; simp [hli] at this
          rw [nS, cond_false] at hw
          subst hw
          simp only [p2, p4, cond_true, cond_false]
          clear hpre
          rw [if_pos (by rfl)]
          refine wp_buildItm _ _ rfl a b q rfl rfl ?_
          exact hK _ _ ⟨v2, gb, w', by simp [upd, Act.put, p2, p4], hX, cK, (fun e0 => (cR (by simpa [upd] using e0))), (fun e0 => (cP0 (by simpa [upd] using e0))), (fun e0 => (cP1 (by simpa [upd] using e0))), (fun e0 e1 => (cS (by simpa [upd] using e0) (by simpa [upd] using e1))), (fun e0 => (cO (by simpa [upd] using e0))), by simp [upd, nS], (fun e => absurd e (by simp [upd, nS]))⟩
        · -- 6: Op.buildSlice 22 1 #[(0, Operand.tmp 19)]
          have p5 : l 5 = true := hpre _ rfl ⟨5, .data⟩ (by simp) rfl
          refine wpOp_step rfl (fun K' hK => ?_)
          have nS : l 9 = false := by
            cases h : l 9
            · rfl
            · have := oS h; simp [hli] at this
          rw [nS, cond_false] at hw
          subst hw
          simp only [p5, cond_true, cond_false]
          clear hpre
          rw [if_pos (by rfl)]
          refine wp_buildSliceI _ rfl rfl ?_
          exact hK _ _ ⟨v2, w'.heap.size, w'.alloc (.cells (lbl a b q).toArray 90), by simp [upd, Act.put, p5], grownBy_below hX (below_alloc _ _), (fun b' cs t h1 h2 h3 => Blk.keep (cK b' cs t h1 h2 h3) (below_alloc _ _)), (fun e0 => own_below ((cR (by simpa [upd] using e0))) (below_alloc _ _)), (fun e0 => Rdr.keep ((cP0 (by simpa [upd] using e0))) (below_alloc _ _)), (fun e0 => Rdr.keep ((cP1 (by simpa [upd] using e0))) (below_alloc _ _)), (fun _ _ => Blk.new w' _ 90), (fun e0 => own_below ((cO (by simpa [upd] using e0))) (below_alloc _ _)), by simp [upd, nS], (fun e => absurd e (by simp [upd, nS]))⟩
        · -- 7: Op.call { callee := Callee.builtin Builtin.append, args := #
          have p1 : l 1 = true := hpre _ rfl ⟨1, .data⟩ (by simp) rfl
          have p6 : l 6 = true := hpre _ rfl ⟨6, .data⟩ (by simp) rfl
          have p4 : l 4 = true := hpre _ rfl ⟨4, .chain⟩ (by simp) rfl
          refine wpOp_step rfl (fun K' hK => ?_)
          have nS : l 9 = false := by
            cases h : l 9
            · rfl
            · have := oS h; simp [hli] at this
          rw [nS, cond_false] at hw
          subst hw
          have n7 : l 7 = false := hli
          have hBk := cS p6 n7
          have hRw := cR n7
          have hRx := cP1 p4
          simp only [p1, p6, p4, cond_true, cond_false]
          clear hpre
          rw [if_pos (by rfl)]
          refine wp_append_own _ _ _ 22 rfl N 90 i0 _ 18 32 Try.underlying22 HI.out.1 HI.out.2.1 HI.out.2.2.1 HI.out.2.2.2 rfl (by omega) v k xs rfl hRw ⟨gb, 0, none⟩ 1 1 (lbl a b q) rfl (by rw [lbl_len]) (fun j u hu => by rw [Addr.add_mid, Nat.zero_add, hBk.cell j]; simpa using hu) (lbl_one _ _ _) (by unfold maxLen; omega) (by omega) (by have h1 := hX.size; rw [← HN.out] at h1; exact h1) ?_
          intro v1 w6 hown6 hg6 _
          exact hK _ _ ⟨v1, gb, w6, by simp [upd, Act.put, p1, p6, p4], gx_grown hX hg6 (fun b' e => by rw [← HN.out]; exact own_block hRw e), (fun b' cs t h1 h2 h3 => Blk.grown (cK b' cs t h1 h2 h3) hg6 (Blk.apart (cK b' cs t h1 h2 h3) hRw h2)), (fun e0 => absurd e0 (by simp [upd])), (fun e0 => absurd e0 (by simp [upd, p4])), (fun _ => hRx.grown hg6 (hRx.apart hRw (by decide))), (fun e0 e1 => absurd e1 (by simp [upd])), (fun _ => hown6), by simp [upd, nS], (fun e => absurd e (by simp [upd, nS]))⟩
        · -- 8: Op.fieldAddr 28 (Operand.tmp 3) 0
          have p0 : l 0 = true := hpre _ rfl ⟨0, .phase⟩ (by simp) rfl
          have p1 : l 1 = true := hpre _ rfl ⟨1, .phase⟩ (by simp) rfl
          have p2 : l 2 = true := hpre _ rfl ⟨2, .phase⟩ (by simp) rfl
          have p3 : l 3 = true := hpre _ rfl ⟨3, .phase⟩ (by simp) rfl
          have p4 : l 4 = true := hpre _ rfl ⟨4, .phase⟩ (by simp) rfl
          have p5 : l 5 = true := hpre _ rfl ⟨5, .phase⟩ (by simp) rfl
          have p6 : l 6 = true := hpre _ rfl ⟨6, .phase⟩ (by simp) rfl
          have p7 : l 7 = true := hpre _ rfl ⟨7, .phase⟩ (by simp) rfl
          refine wpOp_step rfl (fun K' hK => ?_)
          have nS : l 9 = false := by
            cases h : l 9
            · rfl
            · have := oS h; simp [hli] at this
          rw [nS, cond_false] at hw
          subst hw
          simp only [p0, p1, p2, p3, p4, p5, p6, p7, cond_true, cond_false]
          clear hpre
          rw [if_pos (by rfl)]
          go_simp
          exact hK _ _ ⟨v2, gb, w', by simp [upd, Act.put, p0, p1, p2, p3, p4, p5, p6, p7], hX, cK, (fun e0 => (cR (by simpa [upd] using e0))), (fun e0 => (cP0 (by simpa [upd] using e0))), (fun e0 => (cP1 (by simpa [upd] using e0))), (fun e0 e1 => (cS (by simpa [upd] using e0) (by simpa [upd] using e1))), (fun e0 => (cO (by simpa [upd] using e0))), by simp [upd, nS], (fun e => absurd e (by simp [upd, nS]))⟩
        · -- 9: Op.store 22 (Operand.tmp 22) (Operand.tmp 21)
          have p8 : l 8 = true := hpre _ rfl ⟨8, .data⟩ (by simp) rfl
          have p7 : l 7 = true := hpre _ rfl ⟨7, .data⟩ (by simp) rfl
          have p0 : l 0 = true := hpre _ rfl ⟨0, .phase⟩ (by simp) rfl
          have p1 : l 1 = true := hpre _ rfl ⟨1, .phase⟩ (by simp) rfl
          have p2 : l 2 = true := hpre _ rfl ⟨2, .phase⟩ (by simp) rfl
          have p3 : l 3 = true := hpre _ rfl ⟨3, .phase⟩ (by simp) rfl
          have p4 : l 4 = true := hpre _ rfl ⟨4, .phase⟩ (by simp) rfl
          have p5 : l 5 = true := hpre _ rfl ⟨5, .phase⟩ (by simp) rfl
          have p6 : l 6 = true := hpre _ rfl ⟨6, .phase⟩ (by simp) rfl
          refine wpOp_step rfl (fun K' hK => ?_)
          have nS : l 9 = false := hli
          rw [nS, cond_false] at hw
          subst hw
          simp only [p8, p7, p0, p1, p2, p3, p4, p5, p6, cond_true, cond_false]
          clear hpre
          rw [if_pos (by rfl)]
          have hS3 := cK _ _ _ (by decide) (by decide) HB10.out.1
          have z1 := Hdx.c0 hS3
          have z2 := hS3.fr 0
          have c6 := cO p7
          obtain ⟨A6, d6, hv6⟩ := own_val c6
          subst hv6
          go_simp
          exact hK _ _ ⟨_, gb, w', by simp [upd, Act.put, p8, p7, p0, p1, p2, p3, p4, p5, p6], hX, cK, (fun e0 => (cR (by simpa [upd] using e0))), (fun e0 => (cP0 (by simpa [upd] using e0))), (fun e0 => (cP1 (by simpa [upd] using e0))), (fun e0 e1 => (cS (by simpa [upd] using e0) (by simpa [upd] using e1))), (fun _ => c6), by simp [upd], (fun _ => by simp [upd, p8, p7, p0, p1, p2, p3, p4, p5, p6])⟩
      · rintro l a' w9 hall ⟨v2, gb, w1, rfl, hX, cK, cR, cP0, cP1, cS, cO, hw, oS⟩
        rw [hall 9 (by decide), cond_true] at hw
        subst hw
        clear cR
        clear cP0
        replace cP1 := cP1 (hall 4 (by decide))
        clear cS
        replace cO := cO (hall 7 (by decide))
        simp only [hall 0 (by decide), hall 1 (by decide), hall 2 (by decide), hall 3 (by decide), hall 4 (by decide), hall 5 (by decide), hall 6 (by decide), hall 7 (by decide), hall 8 (by decide), cond_true]
        clear hall oS
        have hS3 := cK _ _ _ (by decide) (by decide) HB10.out.1
        have H9 : Hid ((w1.setCell ⟨N + 1, 0, none⟩ v2).ownsRow N 90 18 v2 (k + 1) (lbF (dF L f) (k + 1)) ∧ (Hdx (w1.setCell ⟨N + 1, 0, none⟩ v2) (N + 1) v2 (.slice none 0 0) 0 (0, 0) (0, 0) ∧ Hdx (w1.setCell ⟨N + 1, 0, none⟩ v2) N (.slice none 0 0) (.slice none 0 0) 0 (0, 0) (0, 0)) ∧ (w.grownBy (w1.setCell ⟨N + 1, 0, none⟩ v2) (some r) ∧ Rdr (w1.setCell ⟨N + 1, 0, none⟩ v2) r g o L (1 + 18 * (k + 1)) ∧ N + 2 ≤ (w1.setCell ⟨N + 1, 0, none⟩ v2).heap.size)) := Lib.hid ⟨by rw [HSn.out]; exact ownsRow_setCell_other cO (Ne.symm (Blk.apart hS3 cO (by decide))) _, ⟨Hdx.setItems hS3 v2, (cK _ _ _ (by decide) (by decide) HB10.out.2.1).other (by simp) _⟩, gx_set hX _ _ (by rw [← HN.out]; omega) _, by rw [← HPP.out]; exact cP1.other HX.out.1 _, by
          have h1 := Blk.lt hS3
          have h2 : (w1.setCell ⟨N + 1, 0, none⟩ v2).heap.size = w1.heap.size := by simp
          omega⟩
        obtain ⟨W9, hW9⟩ : ∃ W9, W9 = w1.setCell ⟨N + 1, 0, none⟩ v2 := ⟨_, rfl⟩
        rw [← hW9] at H9
        rw [← hW9]
        clear hW9 hX cO cK cP1 hS3
        go_wp2_with fail
        go_roundw
        case rel => exact ⟨k + 1, v2, by omega, by go_num, Lib.hid H9.out.1, Lib.hid H9.out.2.1, Lib.hid H9.out.2.2⟩
        case measure => simp [intOf]; omega
    · obtain rfl : k = n := by omega
      have l3 : ¬ ((k : Int) < (k : Int)) := by omega
      have HB0 := Lib.hid (HNu.out (1 + 18 * k))
      have HXx := Lib.hid (HBk.out (10 + 18 * k + 16 * np))
      have HYy := Lib.hid (HBk.out (26 + 18 * k + 16 * np))
      obtain ⟨b0, hb0⟩ : ∃ b0 : Int, b0 = ((nbP L f (1 + 18 * k) : Nat) : Int) := ⟨_, rfl⟩
      obtain ⟨x, hx⟩ : ∃ x, x = kyF L f (10 + 18 * k + 16 * np) := ⟨_, rfl⟩
      obtain ⟨y, hy⟩ : ∃ y, y = kyF L f (26 + 18 * k + 16 * np) := ⟨_, rfl⟩
      obtain ⟨xs, hxs⟩ : ∃ xs, xs = lbF (dF L f) k := ⟨_, rfl⟩
      rw [← hb0] at HB0
      rw [← hx] at HXx
      rw [← hy] at HYy
      rw [← hxs] at HO
      have HEq := Lib.hid (And.intro hb0 (And.intro hx (And.intro hy hxs)))
      have HX := Lib.hid (And.intro (show N + 1 ≠ r by have := HRN.out; omega) (show N ≠ r by have := HRN.out; omega))
      clear hb0 hx hy hxs hk hlt H3
      go_wp2_with fail
      refine (HB0.out wr HS.out.2.1 HS.out.1).mono ?_
      rintro e w4 ⟨rfl, hr4, hg4, hs4⟩
      rw [show 1 + 18 * k + 8 = 9 + 18 * k by omega] at hr4
      have h4 : Hdx w4 (N + 1) v (.slice none 0 0) 0 (0, 0) (0, 0) := Blk.grown HB.out.1 hg4 (HS.out.2.1.ne HB.out.1 (by decide))
      have h4' : Hdx w4 N (.slice none 0 0) (.slice none 0 0) 0 (0, 0) (0, 0) := Blk.grown HB.out.2 hg4 (HS.out.2.1.ne HB.out.2 (by decide))
      have o4 : w4.ownsRow N 90 18 v k xs := own_kept HO.out hg4 (HS.out.2.1.apart HO.out (by decide))
      obtain ⟨W5, hW5⟩ : ∃ W5, W5 = w4.setCell ⟨N + 1, 1, none⟩ (.int .u64 b0) := ⟨_, rfl⟩
      have H5 : Hid (w.grownBy W5 (some r) ∧ Rdr W5 r g o L (9 + 18 * k) ∧ N + 2 ≤ W5.heap.size ∧ Hdx W5 (N + 1) v (.slice none 0 0) b0 (0, 0) (0, 0) ∧ Hdx W5 N (.slice none 0 0) (.slice none 0 0) 0 (0, 0) (0, 0) ∧ W5.ownsRow N 90 18 v k xs) := Lib.hid (by
        rw [hW5]
        exact ⟨gx_set (grownBy_trans HS.out.1 hg4) _ _ (by rw [← HN.out]; omega) _, hr4.other HX.out.1 _, by simp; rw [hs4]; exact HS.out.2.2, Hdx.setBase h4 _, h4'.other (by simp) _, ownsRow_setCell_other o4 (Ne.symm (Blk.apart h4 o4 (by decide))) _⟩)
      have z1 := Hdx.c1 h4
      have z2 := Blk.fr h4 1
      have HW5 := Lib.hid hW5
      clear hr4 hg4 hs4 h4 h4' o4 hW5
      go_wp2_with fail
      rw [← HW5.out]
      refine (HSm.out (9 + 18 * k) W5 H5.out.2.1 H5.out.1).mono ?_
      rintro e w6 ⟨rfl, hr6, hg6, hs6⟩
      rw [HNP.out]
      rw [show 9 + 18 * k + 1 = 10 + 18 * k by omega] at hr6
      have H6 : Hid (w.grownBy w6 (some r) ∧ Rdr w6 r g o L (10 + 18 * k) ∧ N + 2 ≤ w6.heap.size ∧ Hdx w6 (N + 1) v (.slice none 0 0) b0 (0, 0) (0, 0) ∧ Hdx w6 N (.slice none 0 0) (.slice none 0 0) 0 (0, 0) (0, 0) ∧ w6.ownsRow N 90 18 v k xs) := Lib.hid ⟨grownBy_trans H5.out.1 hg6, hr6, by rw [hs6]; exact H5.out.2.2.1, Blk.grown H5.out.2.2.2.1 hg6 (H5.out.2.1.ne H5.out.2.2.2.1 (by decide)), Blk.grown H5.out.2.2.2.2.1 hg6 (H5.out.2.1.ne H5.out.2.2.2.2.1 (by decide)), own_kept H5.out.2.2.2.2.2 hg6 (H5.out.2.1.apart H5.out.2.2.2.2.2 (by decide))⟩
      clear hr6 hg6 hs6 z1 z2 H5 HW5 HB HO HS l3
      go_wp2_with fail
      go_loopw [29] (fun i wr => ∃ (j : Nat) (pv : Value), j ≤ np ∧ i = .int .i64 (j : Int) ∧ Hid (wr.ownsRow N 90 18 v k xs ∧ wr.ownsRow N 70 2 pv j (ptF (pF L f (10 + 18 * k)) j)) ∧ Hid (Hdx wr (N + 1) v pv b0 (0, 0) (0, 0) ∧ Hdx wr N (.slice none 0 0) (.slice none 0 0) 0 (0, 0) (0, 0)) ∧ Hid (w.grownBy wr (some r) ∧ Rdr wr r g o L (10 + 18 * k + 16 * j) ∧ N + 2 ≤ wr.heap.size)) (fun i _ => np - (intOf i).toNat)
      case atStart => exact ⟨0, .slice none 0 0, by omega, rfl, Lib.hid ⟨H6.out.2.2.2.2.2, World.ownsRow_nil _ _ _ _⟩, Lib.hid ⟨H6.out.2.2.2.1, H6.out.2.2.2.2.1⟩, Lib.hid ⟨H6.out.1, H6.out.2.1, H6.out.2.2.1⟩⟩
      case round =>
        obtain ⟨j, pv, hj, rfl, HO, HB, HS⟩ := hrel
        by_cases hlt : j < np
        · have l2 : (j : Int) < (np : Int) := by omega
          have HSn : Hid (ptF (pF L f (10 + 18 * k)) (j + 1) = ptF (pF L f (10 + 18 * k)) j ++ [.int .u64 ((nbP L f (10 + 18 * k + 16 * j) : Nat) : Int), .int .u64 ((nbP L f (10 + 18 * k + 16 * j + 8) : Nat) : Int)]) := Lib.hid (ptF_succ _ _)
          have HA := Lib.hid (HNu.out (10 + 18 * k + 16 * j))
          have HBb := Lib.hid (HNu.out (10 + 18 * k + 16 * j + 8))
          obtain ⟨a, ha⟩ : ∃ a : Int, a = ((nbP L f (10 + 18 * k + 16 * j) : Nat) : Int) := ⟨_, rfl⟩
          obtain ⟨b, hb⟩ : ∃ b : Int, b = ((nbP L f (10 + 18 * k + 16 * j + 8) : Nat) : Int) := ⟨_, rfl⟩
          obtain ⟨ys, hys⟩ : ∃ ys, ys = ptF (pF L f (10 + 18 * k)) j := ⟨_, rfl⟩
          rw [← ha] at HSn HA
          rw [← hb] at HSn HBb
          rw [← hys] at HSn HO
          have HPP : Hid (10 + 18 * k + 16 * j + 8 + 8 = 10 + 18 * k + 16 * (j + 1)) := Lib.hid (by omega)
          obtain ⟨P, hP⟩ : ∃ P, P = 10 + 18 * k + 16 * j := ⟨_, rfl⟩
          rw [← hP] at HPP HA HBb HS
          have l3 : j ≤ 255 := by omega
          clear ha hb hys hP hj hlt
          go_wp2_with fail
          obtain ⟨i0, hi, hz0, hz1, hz2⟩ := info_parts infoPnt
          have HI := Lib.hid (And.intro hi (And.intro hz0 (And.intro hz1 hz2)))
          clear hi hz0 hz1 hz2
          refine wp_region_inv (by kernel_rfl) (by kernel_rfl) (fun l a' w' => ∃ (v2 : Value) (gb : Nat) (w1 : World), a' = { tmps := #[Value.pointer (some ⟨r, 0, none⟩), undef, Value.pointer (some ⟨N, 0, none⟩), Value.pointer (some ⟨N + 1, 0, none⟩), u4, Value.pointer (some ⟨r, 0, none⟩), Value.int .i64 (k : Int), Value.int .i64 (k : Int), Value.bool false, u9, u10, u11, u12, u13, u14, u15, u16, u17, u18, u19, u20, u21, u22, u23, Value.pointer (some ⟨r, 0, none⟩), Value.int .u64 (b0 : Int), Value.pointer (some ⟨N + 1, 1, none⟩), Value.pointer (some ⟨r, 0, none⟩), Value.int .i64 (np : Int), Value.int .i64 (j : Int), Value.bool true, bif l 0 then Value.pointer (some ⟨N + 1, 2, none⟩) else u31, bif l 1 then pv else u32, bif l 2 then Value.pointer (some ⟨r, 0, none⟩) else u33, bif l 3 then Value.int .u64 a else u34, bif l 4 then Value.pointer (some ⟨r, 0, none⟩) else u35, bif l 5 then Value.int .u64 b else u36, bif l 6 then Value.agg [Value.int .u64 a, Value.int .u64 b].toArray else u37, bif l 7 then Value.slice (some ⟨gb, 0, none⟩) 1 1 else u38, bif l 8 then v2 else u39, bif l 9 then Value.pointer (some ⟨N + 1, 2, none⟩) else u40, u41, undef, undef, undef, undef, undef, undef, undef], defers := [] } ∧ (w.grownBy w1 (some r)) ∧ (∀ b' cs t, t ≠ 106 → 70 ≠ t → Blk wr b' cs t → Blk w1 b' cs t) ∧ (w1.ownsRow N 90 18 v k xs) ∧ (l 8 = false → w1.ownsRow N 70 2 pv j ys) ∧ (l 3 = false → Rdr w1 r g o L P) ∧ (l 3 = true → l 5 = false → Rdr w1 r g o L (P + 8)) ∧ (l 5 = true → Rdr w1 r g o L (P + 8 + 8)) ∧ (l 7 = true → l 8 = false → Blk w1 gb [Value.int .u64 a, Value.int .u64 b].toArray 70) ∧ (l 8 = true → w1.ownsRow N 70 2 v2 (j + 1) (ys ++ [Value.int .u64 a, Value.int .u64 b])) ∧ (l 5 = true → l 3 = true) ∧ w' = (bif l 10 then w1.setCell ⟨N + 1, 2, none⟩ v2 else w1) ∧ (l 10 = true → (l 0 && l 1 && l 2 && l 3 && l 4 && l 5 && l 6 && l 7 && l 8 && l 9) = true)) ⟨pv, 0, wr.drew, rfl, gx_drew HS.out.1, (fun _ _ _ _ _ h => h), (HO.out.1 : wr.drew.ownsRow N 90 18 v k xs), (fun _ => (HO.out.2 : wr.drew.ownsRow N 70 2 pv j ys)), (fun _ => (HS.out.2.1 : Rdr wr.drew r g o L P)), (fun h => by cases h), (fun h => by cases h), (fun h => by cases h), (fun h => by cases h), (fun h => by cases h), rfl, (fun h => by cases h)⟩ ?_ ?_
          · rintro l a' w' i ⟨v2, gb, w1, rfl, hX, cK, cI, cR, cP0, cP1, cP2, cS, cO, o53, hw, oS⟩ hi' hli hpre
            have hi2 : i < 11 := hi'
            have hcase : i = 0 ∨ i = 1 ∨ i = 2 ∨ i = 3 ∨ i = 4 ∨ i = 5 ∨ i = 6 ∨ i = 7 ∨ i = 8 ∨ i = 9 ∨ i = 10 := by omega
            clear hi' hi2
            rcases hcase with rfl | rfl | rfl | rfl | rfl | rfl | rfl | rfl | rfl | rfl | rfl
            · -- 0: Op.fieldAddr 28 (Operand.tmp 3) 2
              refine wpOp_step rfl (fun K' hK => ?_)
              have nS : l 10 = false := by
                cases h : l 10
                · rfl
                · have := oS h; simp [hli] at this
              rw [nS, cond_false] at hw
              subst hw
              clear hpre
              rw [if_pos (by rfl)]
              go_simp
              exact hK _ _ ⟨v2, gb, w', by simp [upd, Act.put], hX, cK, cI, (fun e0 => (cR (by simpa [upd] using e0))), (fun e0 => (cP0 (by simpa [upd] using e0))), (fun e0 e1 => (cP1 (by simpa [upd] using e0) (by simpa [upd] using e1))), (fun e0 => (cP2 (by simpa [upd] using e0))), (fun e0 e1 => (cS (by simpa [upd] using e0) (by simpa [upd] using e1))), (fun e0 => (cO (by simpa [upd] using e0))), (fun e0 => (by first | (simp [upd]; done) | simpa [upd] using (o53 (by simpa [upd] using e0)))), by simp [upd, nS], (fun e => absurd e (by simp [upd, nS]))⟩
            · -- 1: Op.load 24 (Operand.tmp 31)
              have p0 : l 0 = true := hpre _ rfl ⟨0, .data⟩ (by simp) rfl
              refine wpOp_step rfl (fun K' hK => ?_)
              have nS : l 10 = false := by
                cases h : l 10
                · rfl
                · have := oS h; simp [hli] at this
              rw [nS, cond_false] at hw
              subst hw
              simp only [p0, cond_true, cond_false]
              clear hpre
              rw [if_pos (by rfl)]
              have z1 : w'.cell? ⟨N + 1, 2, none⟩ = some pv := Hdx.c2 (cK _ _ _ (by decide) (by decide) HB.out.1)
              go_simp
              exact hK _ _ ⟨v2, gb, w', by simp [upd, Act.put, p0], hX, cK, cI, (fun e0 => (cR (by simpa [upd] using e0))), (fun e0 => (cP0 (by simpa [upd] using e0))), (fun e0 e1 => (cP1 (by simpa [upd] using e0) (by simpa [upd] using e1))), (fun e0 => (cP2 (by simpa [upd] using e0))), (fun e0 e1 => (cS (by simpa [upd] using e0) (by simpa [upd] using e1))), (fun e0 => (cO (by simpa [upd] using e0))), (fun e0 => (by first | (simp [upd]; done) | simpa [upd] using (o53 (by simpa [upd] using e0)))), by simp [upd, nS], (fun e => absurd e (by simp [upd, nS]))⟩
            · -- 2: Op.move (Operand.tmp 0)
              refine wpOp_step rfl (fun K' hK => ?_)
              have nS : l 10 = false := by
                cases h : l 10
                · rfl
                · have := oS h; simp [hli] at this
              rw [nS, cond_false] at hw
              subst hw
              clear hpre
              rw [if_pos (by rfl)]
              go_simp
              exact hK _ _ ⟨v2, gb, w', by simp [upd, Act.put], hX, cK, cI, (fun e0 => (cR (by simpa [upd] using e0))), (fun e0 => (cP0 (by simpa [upd] using e0))), (fun e0 e1 => (cP1 (by simpa [upd] using e0) (by simpa [upd] using e1))), (fun e0 => (cP2 (by simpa [upd] using e0))), (fun e0 e1 => (cS (by simpa [upd] using e0) (by simpa [upd] using e1))), (fun e0 => (cO (by simpa [upd] using e0))), (fun e0 => (by first | (simp [upd]; done) | simpa [upd] using (o53 (by simpa [upd] using e0)))), by simp [upd, nS], (fun e => absurd e (by simp [upd, nS]))⟩
            · -- 3: Op.call { callee := Callee.value (Operand.func 106), args :=
              have p2 : l 2 = true := hpre _ rfl ⟨2, .data⟩ (by simp) rfl
              refine wpOp_step rfl (fun K' hK => ?_)
              have nS : l 10 = false := by
                cases h : l 10
                · rfl
                · have := oS h; simp [hli] at this
              rw [nS, cond_false] at hw
              subst hw
              have n3 : l 3 = false := hli
              have hRx := cP0 n3
              have n5 : l 5 = false := by
                cases h : l 5
                · rfl
                · exact absurd (o53 h) (by rw [hli]; decide)
              simp only [p2, n5, cond_true, cond_false]
              clear hpre
              rw [if_pos (by rfl)]
              go_simp
              refine (HA.out _ hRx hX).mono ?_
              rintro e w5 ⟨rfl, hr5, hb5, _⟩
              exact hK _ _ ⟨v2, gb, w5, by simp [upd, Act.put, p2, n5], grownBy_trans hX hb5, (fun b' cs t h1 h2 h3 => Blk.grown (cK b' cs t h1 h2 h3) hb5 (hRx.ne (cK b' cs t h1 h2 h3) h1)), own_kept (cI) hb5 (hRx.apart (cI) (by decide)), (fun e0 => own_kept ((cR (by simpa [upd] using e0))) hb5 (hRx.apart ((cR (by simpa [upd] using e0))) (by decide))), (fun e0 => absurd e0 (by simp [upd])), (fun _ _ => hr5), (fun e0 => absurd e0 (by simp [upd, n5])), (fun e0 e1 => Blk.grown ((cS (by simpa [upd] using e0) (by simpa [upd] using e1))) hb5 (hRx.ne ((cS (by simpa [upd] using e0) (by simpa [upd] using e1))) (by decide))), (fun e0 => own_kept ((cO (by simpa [upd] using e0))) hb5 (hRx.apart ((cO (by simpa [upd] using e0))) (by decide))), (fun e0 => (by first | (simp [upd]; done) | simpa [upd] using (o53 (by simpa [upd] using e0)))), by simp [upd, nS], (fun e => absurd e (by simp [upd, nS]))⟩
            · -- 4: Op.move (Operand.tmp 0)
              refine wpOp_step rfl (fun K' hK => ?_)
              have nS : l 10 = false := by
                cases h : l 10
                · rfl
                · have := oS h; simp [hli] at this
              rw [nS, cond_false] at hw
              subst hw
              clear hpre
              rw [if_pos (by rfl)]
              go_simp
              exact hK _ _ ⟨v2, gb, w', by simp [upd, Act.put], hX, cK, cI, (fun e0 => (cR (by simpa [upd] using e0))), (fun e0 => (cP0 (by simpa [upd] using e0))), (fun e0 e1 => (cP1 (by simpa [upd] using e0) (by simpa [upd] using e1))), (fun e0 => (cP2 (by simpa [upd] using e0))), (fun e0 e1 => (cS (by simpa [upd] using e0) (by simpa [upd] using e1))), (fun e0 => (cO (by simpa [upd] using e0))), (fun e0 => (by first | (simp [upd]; done) | simpa [upd] using (o53 (by simpa [upd] using e0)))), by simp [upd, nS], (fun e => absurd e (by simp [upd, nS]))⟩
            · -- 5: Op.call { callee := Callee.value (Operand.func 106), args :=
              have p4 : l 4 = true := hpre _ rfl ⟨4, .data⟩ (by simp) rfl
              have p3 : l 3 = true := hpre _ rfl ⟨3, .chain⟩ (by simp) rfl
              refine wpOp_step rfl (fun K' hK => ?_)
              have nS : l 10 = false := by
                cases h : l 10
                · rfl
                · have := oS h; simp [hli] at this
              rw [nS, cond_false] at hw
              subst hw
              have n5 : l 5 = false := hli
              have hRx := cP1 p3 n5
              simp only [p4, p3, cond_true, cond_false]
              clear hpre
              rw [if_pos (by rfl)]
              go_simp
              refine (HBb.out _ hRx hX).mono ?_
              rintro e w5 ⟨rfl, hr5, hb5, _⟩
              exact hK _ _ ⟨v2, gb, w5, by simp [upd, Act.put, p4, p3], grownBy_trans hX hb5, (fun b' cs t h1 h2 h3 => Blk.grown (cK b' cs t h1 h2 h3) hb5 (hRx.ne (cK b' cs t h1 h2 h3) h1)), own_kept (cI) hb5 (hRx.apart (cI) (by decide)), (fun e0 => own_kept ((cR (by simpa [upd] using e0))) hb5 (hRx.apart ((cR (by simpa [upd] using e0))) (by decide))), (fun e0 => absurd e0 (by simp [upd, p3])), (fun e0 e1 => absurd e1 (by simp [upd])), (fun _ => hr5), (fun e0 e1 => Blk.grown ((cS (by simpa [upd] using e0) (by simpa [upd] using e1))) hb5 (hRx.ne ((cS (by simpa [upd] using e0) (by simpa [upd] using e1))) (by decide))), (fun e0 => own_kept ((cO (by simpa [upd] using e0))) hb5 (hRx.apart ((cO (by simpa [upd] using e0))) (by decide))), (fun _ => by simp [upd, p3]), by simp [upd, nS], (fun e => absurd e (by simp [upd, nS]))⟩
            · -- 6: Op.build 70 #[(0, Operand.tmp 34), (1, Operand.tmp 36)]
              have p3 : l 3 = true := hpre _ rfl ⟨3, .data⟩ (by simp) rfl
              have p5 : l 5 = true := hpre _ rfl ⟨5, .data⟩ (by simp) rfl
              refine wpOp_step rfl (fun K' hK => ?_)
              have nS : l 10 = false := by
                cases h : l 10
                · rfl
                · have := oS h; simp [hli] at this
              rw [nS, cond_false] at hw
              subst hw
              simp only [p3, p5, cond_true, cond_false]
              clear hpre
              rw [if_pos (by rfl)]
              refine wp_buildPnt _ _ rfl a b rfl rfl ?_
              exact hK _ _ ⟨v2, gb, w', by simp [upd, Act.put, p3, p5], hX, cK, cI, (fun e0 => (cR (by simpa [upd] using e0))), (fun e0 => (cP0 (by simpa [upd] using e0))), (fun e0 e1 => (cP1 (by simpa [upd] using e0) (by simpa [upd] using e1))), (fun e0 => (cP2 (by simpa [upd] using e0))), (fun e0 e1 => (cS (by simpa [upd] using e0) (by simpa [upd] using e1))), (fun e0 => (cO (by simpa [upd] using e0))), (fun e0 => (by first | (simp [upd]; done) | simpa [upd] using (o53 (by simpa [upd] using e0)))), by simp [upd, nS], (fun e => absurd e (by simp [upd, nS]))⟩
            · -- 7: Op.buildSlice 24 1 #[(0, Operand.tmp 37)]
              have p6 : l 6 = true := hpre _ rfl ⟨6, .data⟩ (by simp) rfl
              refine wpOp_step rfl (fun K' hK => ?_)
              have nS : l 10 = false := by
                cases h : l 10
                · rfl
                · have := oS h; simp [hli] at this
              rw [nS, cond_false] at hw
              subst hw
              simp only [p6, cond_true, cond_false]
              clear hpre
              rw [if_pos (by rfl)]
              refine wp_buildSliceP _ rfl rfl ?_
              exact hK _ _ ⟨v2, w'.heap.size, w'.alloc (.cells [Value.int .u64 a, Value.int .u64 b].toArray 70), by simp [upd, Act.put, p6], grownBy_below hX (below_alloc _ _), (fun b' cs t h1 h2 h3 => Blk.keep (cK b' cs t h1 h2 h3) (below_alloc _ _)), own_below (cI) (below_alloc _ _), (fun e0 => own_below ((cR (by simpa [upd] using e0))) (below_alloc _ _)), (fun e0 => Rdr.keep ((cP0 (by simpa [upd] using e0))) (below_alloc _ _)), (fun e0 e1 => Rdr.keep ((cP1 (by simpa [upd] using e0) (by simpa [upd] using e1))) (below_alloc _ _)), (fun e0 => Rdr.keep ((cP2 (by simpa [upd] using e0))) (below_alloc _ _)), (fun _ _ => Blk.new w' _ 70), (fun e0 => own_below ((cO (by simpa [upd] using e0))) (below_alloc _ _)), (fun e0 => (by first | (simp [upd]; done) | simpa [upd] using (o53 (by simpa [upd] using e0)))), by simp [upd, nS], (fun e => absurd e (by simp [upd, nS]))⟩
            · -- 8: Op.call { callee := Callee.builtin Builtin.append, args := #
              have p1 : l 1 = true := hpre _ rfl ⟨1, .data⟩ (by simp) rfl
              have p7 : l 7 = true := hpre _ rfl ⟨7, .data⟩ (by simp) rfl
              have p5 : l 5 = true := hpre _ rfl ⟨5, .chain⟩ (by simp) rfl
              refine wpOp_step rfl (fun K' hK => ?_)
              have nS : l 10 = false := by
                cases h : l 10
                · rfl
                · have := oS h; simp [hli] at this
              rw [nS, cond_false] at hw
              subst hw
              have n8 : l 8 = false := hli
              have hBk := cS p7 n8
              have hRw := cR n8
              have hRx := cP2 p5
              simp only [p1, p7, p5, cond_true, cond_false]
              clear hpre
              rw [if_pos (by rfl)]
              refine wp_append_own _ _ _ 24 rfl N 70 i0 _ 2 16 Try.underlying24 HI.out.1 HI.out.2.1 HI.out.2.2.1 HI.out.2.2.2 rfl (by omega) pv j ys rfl hRw ⟨gb, 0, none⟩ 1 1 [Value.int .u64 a, Value.int .u64 b] rfl rfl (fun j u hu => by rw [Addr.add_mid, Nat.zero_add, hBk.cell j]; simpa using hu) (by intro u hu; simp at hu; rcases hu with rfl | rfl <;> rfl) (by unfold maxLen; omega) (by omega) (by have h1 := hX.size; rw [← HN.out] at h1; exact h1) ?_
              intro v1 w6 hown6 hg6 _
              exact hK _ _ ⟨v1, gb, w6, by simp [upd, Act.put, p1, p7, p5], gx_grown hX hg6 (fun b' e => by rw [← HN.out]; exact own_block hRw e), (fun b' cs t h1 h2 h3 => Blk.grown (cK b' cs t h1 h2 h3) hg6 (Blk.apart (cK b' cs t h1 h2 h3) hRw h2)), cI.kept hg6 (own_apart cI hRw (by decide)), (fun e0 => absurd e0 (by simp [upd])), (fun e0 => absurd (o53 p5) (by have h3 : l 3 = false := (by simpa [upd] using e0); rw [h3]; decide)), (fun e0 e1 => absurd e1 (by simp [upd, p5])), (fun _ => hRx.grown hg6 (hRx.apart hRw (by decide))), (fun e0 e1 => absurd e1 (by simp [upd])), (fun _ => hown6), (fun e0 => (by first | (simp [upd]; done) | simpa [upd] using (o53 (by simpa [upd] using e0)))), by simp [upd, nS], (fun e => absurd e (by simp [upd, nS]))⟩
            · -- 9: Op.fieldAddr 28 (Operand.tmp 3) 2
              have p0 : l 0 = true := hpre _ rfl ⟨0, .phase⟩ (by simp) rfl
              have p1 : l 1 = true := hpre _ rfl ⟨1, .phase⟩ (by simp) rfl
              have p2 : l 2 = true := hpre _ rfl ⟨2, .phase⟩ (by simp) rfl
              have p3 : l 3 = true := hpre _ rfl ⟨3, .phase⟩ (by simp) rfl
              have p4 : l 4 = true := hpre _ rfl ⟨4, .phase⟩ (by simp) rfl
              have p5 : l 5 = true := hpre _ rfl ⟨5, .phase⟩ (by simp) rfl
              have p6 : l 6 = true := hpre _ rfl ⟨6, .phase⟩ (by simp) rfl
              have p7 : l 7 = true := hpre _ rfl ⟨7, .phase⟩ (by simp) rfl
              have p8 : l 8 = true := hpre _ rfl ⟨8, .phase⟩ (by simp) rfl
              refine wpOp_step rfl (fun K' hK => ?_)
              have nS : l 10 = false := by
                cases h : l 10
                · rfl
                · have := oS h; simp [hli] at this
              rw [nS, cond_false] at hw
              subst hw
              simp only [p0, p1, p2, p3, p4, p5, p6, p7, p8, cond_true, cond_false]
              clear hpre
              rw [if_pos (by rfl)]
              go_simp
              exact hK _ _ ⟨v2, gb, w', by simp [upd, Act.put, p0, p1, p2, p3, p4, p5, p6, p7, p8], hX, cK, cI, (fun e0 => (cR (by simpa [upd] using e0))), (fun e0 => (cP0 (by simpa [upd] using e0))), (fun e0 e1 => (cP1 (by simpa [upd] using e0) (by simpa [upd] using e1))), (fun e0 => (cP2 (by simpa [upd] using e0))), (fun e0 e1 => (cS (by simpa [upd] using e0) (by simpa [upd] using e1))), (fun e0 => (cO (by simpa [upd] using e0))), (fun e0 => (by first | (simp [upd]; done) | simpa [upd] using (o53 (by simpa [upd] using e0)))), by simp [upd, nS], (fun e => absurd e (by simp [upd, nS]))⟩
            · -- 10: Op.store 24 (Operand.tmp 40) (Operand.tmp 39)
              have p9 : l 9 = true := hpre _ rfl ⟨9, .data⟩ (by simp) rfl
              have p8 : l 8 = true := hpre _ rfl ⟨8, .data⟩ (by simp) rfl
              have p0 : l 0 = true := hpre _ rfl ⟨0, .phase⟩ (by simp) rfl
              have p1 : l 1 = true := hpre _ rfl ⟨1, .phase⟩ (by simp) rfl
              have p2 : l 2 = true := hpre _ rfl ⟨2, .phase⟩ (by simp) rfl
              have p3 : l 3 = true := hpre _ rfl ⟨3, .phase⟩ (by simp) rfl
              have p4 : l 4 = true := hpre _ rfl ⟨4, .phase⟩ (by simp) rfl
              have p5 : l 5 = true := hpre _ rfl ⟨5, .phase⟩ (by simp) rfl
              have p6 : l 6 = true := hpre _ rfl ⟨6, .phase⟩ (by simp) rfl
              have p7 : l 7 = true := hpre _ rfl ⟨7, .phase⟩ (by simp) rfl
              refine wpOp_step rfl (fun K' hK => ?_)
              have nS : l 10 = false := hli
              rw [nS, cond_false] at hw
              subst hw
              simp only [p9, p8, p0, p1, p2, p3, p4, p5, p6, p7, cond_true, cond_false]
              clear hpre
              rw [if_pos (by rfl)]
              have hS3 := cK _ _ _ (by decide) (by decide) HB.out.1
              have z1 := Hdx.c2 hS3
              have z2 := hS3.fr 2
              have c6 := cO p8
              obtain ⟨A6, d6, hv6⟩ := own_val c6
              subst hv6
              go_simp
              exact hK _ _ ⟨_, gb, w', by simp [upd, Act.put, p9, p8, p0, p1, p2, p3, p4, p5, p6, p7], hX, cK, cI, (fun e0 => (cR (by simpa [upd] using e0))), (fun e0 => (cP0 (by simpa [upd] using e0))), (fun e0 e1 => (cP1 (by simpa [upd] using e0) (by simpa [upd] using e1))), (fun e0 => (cP2 (by simpa [upd] using e0))), (fun e0 e1 => (cS (by simpa [upd] using e0) (by simpa [upd] using e1))), (fun _ => c6), (fun e0 => (by first | (simp [upd]; done) | simpa [upd] using (o53 (by simpa [upd] using e0)))), by simp [upd], (fun _ => by simp [upd, p9, p8, p0, p1, p2, p3, p4, p5, p6, p7])⟩
          · rintro l a' w9 hall ⟨v2, gb, w1, rfl, hX, cK, cI, cR, cP0, cP1, cP2, cS, cO, o53, hw, oS⟩
            rw [hall 10 (by decide), cond_true] at hw
            subst hw
            clear cR
            clear cP0
            clear cP1
            replace cP2 := cP2 (hall 5 (by decide))
            clear cS
            replace cO := cO (hall 8 (by decide))
            replace o53 := o53 (hall 5 (by decide))
            simp only [hall 0 (by decide), hall 1 (by decide), hall 2 (by decide), hall 3 (by decide), hall 4 (by decide), hall 5 (by decide), hall 6 (by decide), hall 7 (by decide), hall 8 (by decide), hall 9 (by decide), cond_true]
            clear hall oS
            have hS3 := cK _ _ _ (by decide) (by decide) HB.out.1
            have H9 : Hid (((w1.setCell ⟨N + 1, 2, none⟩ v2).ownsRow N 90 18 v k xs ∧ (w1.setCell ⟨N + 1, 2, none⟩ v2).ownsRow N 70 2 v2 (j + 1) (ptF (pF L f (10 + 18 * k)) (j + 1))) ∧ (Hdx (w1.setCell ⟨N + 1, 2, none⟩ v2) (N + 1) v v2 b0 (0, 0) (0, 0) ∧ Hdx (w1.setCell ⟨N + 1, 2, none⟩ v2) N (.slice none 0 0) (.slice none 0 0) 0 (0, 0) (0, 0)) ∧ (w.grownBy (w1.setCell ⟨N + 1, 2, none⟩ v2) (some r) ∧ Rdr (w1.setCell ⟨N + 1, 2, none⟩ v2) r g o L (10 + 18 * k + 16 * (j + 1)) ∧ N + 2 ≤ (w1.setCell ⟨N + 1, 2, none⟩ v2).heap.size)) := Lib.hid ⟨⟨ownsRow_setCell_other cI (Ne.symm (Blk.apart hS3 cI (by decide))) _, by rw [HSn.out]; exact ownsRow_setCell_other cO (Ne.symm (Blk.apart hS3 cO (by decide))) _⟩, ⟨Hdx.setPoints hS3 v2, (cK _ _ _ (by decide) (by decide) HB.out.2).other (by simp) _⟩, gx_set hX _ _ (by rw [← HN.out]; omega) _, by rw [← HPP.out]; exact cP2.other HX.out.1 _, by
              have h1 := Blk.lt hS3
              have h2 : (w1.setCell ⟨N + 1, 2, none⟩ v2).heap.size = w1.heap.size := by simp
              omega⟩
            obtain ⟨W9, hW9⟩ : ∃ W9, W9 = w1.setCell ⟨N + 1, 2, none⟩ v2 := ⟨_, rfl⟩
            rw [← hW9] at H9
            rw [← hW9]
            clear hW9 hX cO cK cP2 cI hS3
            go_wp2_with fail
            go_roundw
            case rel => exact ⟨j + 1, v2, by omega, by go_num, Lib.hid H9.out.1, Lib.hid H9.out.2.1, Lib.hid H9.out.2.2⟩
            case measure => simp [intOf]; omega
        · obtain rfl : j = np := by omega
          have l4 : ¬ ((j : Int) < (j : Int)) := by omega
          clear hj hlt H6
          go_wp2_with fail
          refine (HXx.out wr HS.out.2.1 HS.out.1).mono ?_
          rintro e w7 ⟨rfl, hr7, hg7⟩
          rw [show 10 + 18 * k + 16 * j + 16 = 26 + 18 * k + 16 * j by omega] at hr7
          have h7 : Hdx w7 (N + 1) v pv b0 (0, 0) (0, 0) := Blk.grown HB.out.1 hg7 (HS.out.2.1.ne HB.out.1 (by decide))
          have h7' : Hdx w7 N (.slice none 0 0) (.slice none 0 0) 0 (0, 0) (0, 0) := Blk.grown HB.out.2 hg7 (HS.out.2.1.ne HB.out.2 (by decide))
          have o7 : w7.ownsRow N 90 18 v k xs := own_kept HO.out.1 hg7 (HS.out.2.1.apart HO.out.1 (by decide))
          have o7' : w7.ownsRow N 70 2 pv j (ptF (pF L f (10 + 18 * k)) j) := own_kept HO.out.2 hg7 (HS.out.2.1.apart HO.out.2 (by decide))
          obtain ⟨W8, hW8⟩ : ∃ W8, W8 = w7.setCells (N + 1) 3 (kl x.1 x.2) := ⟨_, rfl⟩
          have H8 : Hid (w.grownBy W8 (some r) ∧ Rdr W8 r g o L (26 + 18 * k + 16 * j) ∧ N + 2 ≤ W8.heap.size ∧ Hdx W8 (N + 1) v pv b0 x (0, 0) ∧ Hdx W8 N (.slice none 0 0) (.slice none 0 0) 0 (0, 0) (0, 0) ∧ W8.ownsRow N 90 18 v k xs ∧ W8.ownsRow N 70 2 pv j (ptF (pF L f (10 + 18 * k)) j)) := Lib.hid (by
            rw [hW8]
            exact ⟨gx_setCells (by rw [← HN.out]; omega) _ _ (grownBy_trans HS.out.1 hg7), Rdr.otherN HX.out.1 _ _ hr7, by rw [size_setCells]; exact Nat.le_trans HS.out.2.2 hg7.size, Hdx.setBox h7 _, Blk.otherN _ _ h7' (by omega), own_setCells _ _ o7 (Blk.apart h7 o7 (by decide)), own_setCells _ _ o7' (Blk.apart h7 o7' (by decide))⟩)
          have HT7 := Lib.hid (Hdx.there_at h7 3 (by omega))
          have HW8 := Lib.hid hW8
          clear hr7 hg7 h7 h7' o7 o7' hW8
          go_wp2_with ((with_reducible show wpList _ _ _ (Oper.mk _ (Op.store 26 _ _) _ _ _ _ :: _) _ _); refine wpList_store_keya rfl _ _ rfl _ 3 _ rfl rfl HT7.out ?_)
          rw [← HW8.out]
          refine (HYy.out W8 H8.out.2.1 H8.out.1).mono ?_
          rintro e w9 ⟨rfl, hr9, hg9⟩
          have h9 : Hdx w9 (N + 1) v pv b0 x (0, 0) := Blk.grown H8.out.2.2.2.1 hg9 (H8.out.2.1.ne H8.out.2.2.2.1 (by decide))
          have h9' : Hdx w9 N (.slice none 0 0) (.slice none 0 0) 0 (0, 0) (0, 0) := Blk.grown H8.out.2.2.2.2.1 hg9 (H8.out.2.1.ne H8.out.2.2.2.2.1 (by decide))
          have o9 : w9.ownsRow N 90 18 v k xs := own_kept H8.out.2.2.2.2.2.1 hg9 (H8.out.2.1.apart H8.out.2.2.2.2.2.1 (by decide))
          have o9' : w9.ownsRow N 70 2 pv j (ptF (pF L f (10 + 18 * k)) j) := own_kept H8.out.2.2.2.2.2.2 hg9 (H8.out.2.1.apart H8.out.2.2.2.2.2.2 (by decide))
          obtain ⟨W10, hW10⟩ : ∃ W10, W10 = w9.setCells (N + 1) 19 (kl y.1 y.2) := ⟨_, rfl⟩
          have hX : Hdx W10 (N + 1) v pv b0 x y := by rw [hW10]; exact Hdx.setChk h9 _
          have hX' : Hdx W10 N (.slice none 0 0) (.slice none 0 0) 0 (0, 0) (0, 0) := by rw [hW10]; exact Blk.otherN _ _ h9' (by omega)
          have oX : W10.ownsRow N 90 18 v k xs := by rw [hW10]; exact own_setCells _ _ o9 (Blk.apart h9 o9 (by decide))
          have oX' : W10.ownsRow N 70 2 pv j (ptF (pF L f (10 + 18 * k)) j) := by rw [hW10]; exact own_setCells _ _ o9' (Blk.apart h9 o9' (by decide))
          have gX : w.grownBy W10 (some r) := by rw [hW10]; exact gx_setCells (by rw [← HN.out]; omega) _ _ (grownBy_trans H8.out.1 hg9)
          obtain ⟨A1, d1, hv1⟩ := own_val oX
          obtain ⟨A2, d2, hv2⟩ := own_val oX'
          subst hv1
          subst hv2
          have HF : Hid (Hdx (W10.setCells N 0 (hdi (.slice A1 k d1) (.slice A2 j d2) b0 x y)) N (.slice A1 k d1) (.slice A2 j d2) b0 x y ∧ (W10.setCells N 0 (hdi (.slice A1 k d1) (.slice A2 j d2) b0 x y)).ownsRow N 90 18 (.slice A1 k d1) k xs ∧ (W10.setCells N 0 (hdi (.slice A1 k d1) (.slice A2 j d2) b0 x y)).ownsRow N 70 2 (.slice A2 j d2) j (ptF (pF L f (10 + 18 * k)) j) ∧ w.grownBy (W10.setCells N 0 (hdi (.slice A1 k d1) (.slice A2 j d2) b0 x y)) (some r)) := Lib.hid ⟨Hdx.stored hX' Hdx.size _ _ _ _ _, own_setCells _ _ oX (Blk.apart hX' oX (by decide)), own_setCells _ _ oX' (Blk.apart hX' oX' (by decide)), gx_setCells (by rw [← HN.out]; omega) _ _ gX⟩
          have HT9 := Lib.hid (Hdx.there_at h9 19 (by omega))
          have HTN := Lib.hid (Hdx.there hX')
          have HLX := Lib.hid hX
          have HWX := Lib.hid hW10
          clear hr9 hg9 h9 h9' o9 o9' hW10 hX hX' oX oX' gX
          go_wp2_with (first
            | ((with_reducible show wpList _ _ _ (Oper.mk _ (Op.store 26 _ _) _ _ _ _ :: _) _ _); refine wpList_store_keya rfl _ _ rfl _ 19 _ rfl rfl HT9.out ?_; rw [← HWX.out])
            | ((with_reducible show wpList _ _ _ (Oper.mk _ (Op.load 28 _) _ _ _ _ :: _) _ _); refine wpList_load_hdi rfl _ rfl _ rfl _ _ _ _ _ HLX.out ?_)
            | ((with_reducible show wpList _ _ _ (Oper.mk _ (Op.store 28 _ _) _ _ _ _ :: _) _ _); refine wpList_store_hdi rfl _ _ rfl _ _ _ _ _ _ rfl rfl rfl rfl HTN.out ?_))
          exact bodyPost_ret (results_hdi1 rfl _ _ N _ _ _ _ _ rfl HF.out.1) rfl ⟨⟨_, _, by rw [← HEq.out.1, ← HEq.out.2.1, ← HEq.out.2.2.1], by rw [← HEq.out.2.2.2]; exact HF.out.2.1, HF.out.2.2.1⟩, HF.out.2.2.2⟩
end Go.Proofs.Ytchkgccnipejhaa
