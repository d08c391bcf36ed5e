/-
  A twin of a header: the same items and points in memory of its own.
-/
import Derived.Test.YtelalpikdidpeaaOpnA
namespace Go.Proofs.Ytelalpikdidpeaa
open Go.RowKit TR L2 L2.SP
set_option linter.unusedVariables false
set_option linter.unusedSimpArgs false

/-- The cells of some points. -/
def ptF (f : Nat → Int × Int) (n : Nat) : List Value := (List.range n).flatMap fun i => [.int .u64 (f i).1, .int .u64 (f i).2]
theorem ptF_succ (f : Nat → Int × Int) (n : Nat) : ptF f (n + 1) = ptF f n ++ [.int .u64 (f n).1, .int .u64 (f n).2] := by
  unfold ptF; rw [List.range_succ, List.flatMap_append]; simp
theorem ptF_len (f : Nat → Int × Int) : ∀ n, (ptF f n).length = n * 2
  | 0 => rfl
  | n + 1 => by rw [ptF_succ, List.length_append, ptF_len f n]; simp; omega
theorem ptF_one (f : Nat → Int × Int) (n : Nat) : ∀ u ∈ ptF f n, u.oneCell' = true := by
  intro u hu
  unfold ptF at hu
  rw [List.mem_flatMap] at hu
  obtain ⟨i, _, h⟩ := hu
  simp at h
  rcases h with rfl | rfl <;> rfl
theorem ptF_get (f : Nat → Int × Int) : ∀ (n i j : Nat), i < n → j < 2 → (ptF f n)[i * 2 + j]? = [Value.int .u64 (f i).1, Value.int .u64 (f i).2][j]?
  | 0, i, j, h, _ => absurd h (by omega)
  | n + 1, i, j, h, hj => by
    rw [ptF_succ]
    rcases Nat.lt_or_ge i n with h1 | h1
    · rw [List.getElem?_append_left (by rw [ptF_len]; omega), ptF_get f n i j h1 hj]
    · obtain rfl : i = n := by omega
      rw [List.getElem?_append_right (by rw [ptF_len]; omega), ptF_len]
      congr 1; omega
theorem infoPnt : (Try.prog.info? 31).map (fun i => (i.zero, i.size, i.bytes)) = some (some (.agg #[.int .u64 0, .int .u64 0]), 2, 16) := by kernel_rfl
/-- A row of points of one's own. -/
theorem own_points {w : World} {B e n : Nat} {v : Value} {F : Nat → Int × Int} (h : w.ownsRow B e 2 v n (ptF F n)) : ∃ A c, v = .slice A n c ∧ n ≤ c ∧ (n = 0 ∨ ∃ g, A = some ⟨g, 0, none⟩ ∧ B ≤ g ∧ ∀ i, i < n → w.rangeAt g (i * 2) [.int .u64 (F i).1, .int .u64 (F i).2]) := by
  obtain ⟨A, c, rfl, hc, hk⟩ := own_cap h
  refine ⟨A, c, rfl, hc, ?_⟩
  rcases hk with h0 | ⟨g, h1, h2, h3, h4, _⟩
  · exact .inl h0
  · refine .inr ⟨g, h1, h2, fun i hi j u hu => ?_⟩
    have hj : j < 2 := by have := (List.getElem?_eq_some_iff.1 hu).1; simpa using this
    exact h4 (i * 2 + j) u (by rw [ptF_get F n i j hi hj]; exact hu)
theorem results_hdi1 {fn : Func} {p : Tmp} (h : fn.results = #[.cell p 59]) (tmps : Array Value) (w : World) (b : Nat) (iv pv : Value) (B : Int) (x y : Nat × Nat)
    (hp : tmps.getD p undef = .pointer (some ⟨b, 0, none⟩)) (hc : Hdx w b iv pv B x y) : (results fn tmps).run Try.prog w = .ok (.agg (hdi iv pv B x y).toArray) w := by
  have hp' : tmps[p]?.getD undef = .pointer (some ⟨b, 0, none⟩) := by simpa using hp
  simp [results, h, hp', asAddr, run_loadVar_mid w b 0 59 (hdi iv pv B x y) _ hc.range Try.underlying59 rfl (by rw [hdi_len]; exact sizeHdr)]
theorem Hdx.setPoints {w : World} {b : Nat} {iv pv : Value} {B : Int} {x y : Nat × Nat} (h : Hdx w b iv pv B x y) (pv' : Value) : Hdx (w.setCell ⟨b, 2, none⟩ pv') b iv pv' B x y := by
  have h1 := h.set1 2 pv'
  have e : (hdi iv pv B x y).toArray.setIfInBounds 2 pv' = (hdi iv pv' B x y).toArray := by simp [hdi]
  rw [e] at h1; exact h1

/-- What comes in as a header, or stands somewhere: its items and its points. -/
structure HdIn (w : World) (A Ap : Option Addr) (g o n m h r np kp : Nat) (F : Nat → Int × Int × (Nat × Nat)) (H : Nat → Int × Int) : Prop where
  had : n = 0 ∨ A = some ⟨g, o, none⟩
  itm : ∀ i, i < n → w.rangeAt g (o + i * 18) (lbl (F i).1 (F i).2.1 (F i).2.2)
  hpd : np = 0 ∨ Ap = some ⟨h, r, none⟩
  pnt : ∀ i, i < np → w.rangeAt h (r + i * 2) [.int .u64 (H i).1, .int .u64 (H i).2]
theorem HdIn.keep {w w' : World} {A Ap : Option Addr} {g o n m h r np kp : Nat} {F : Nat → Int × Int × (Nat × Nat)} {H : Nat → Int × Int} (k : HdIn w A Ap g o n m h r np kp F H) (hb : Below w.heap.size w w') : HdIn w' A Ap g o n m h r np kp F H :=
  ⟨k.had, fun i hi j u hu => (hb.cell (p := ⟨g, o + i * 18 + j, none⟩) (World.block_lt_of_cell? w _ (k.itm i hi j u hu))).trans (k.itm i hi j u hu), k.hpd, fun i hi j u hu => (hb.cell (p := ⟨h, r + i * 2 + j, none⟩) (World.block_lt_of_cell? w _ (k.pnt i hi j u hu))).trans (k.pnt i hi j u hu)⟩

set_option maxRecDepth 100000 in
set_option maxHeartbeats 400000 in
theorem twinHeader_any (B : Int) (x y : Nat × Nat) (A Ap : Option Addr) (g o n m h r np kp : Nat) (F : Nat → Int × Int × (Nat × Nat)) (H : Nat → Int × Int) (w : World) (hn : n ≤ 4398046511104) (hnp : np ≤ 8796093022208) (hin : HdIn w A Ap g o n m h r np kp F H) :
    Calls Try.prog 22 #[.agg (hdi (.slice A n m) (.slice Ap np kp) B x y).toArray] w fun e w' => (∃ A1 m1 A2 k2, e = .returned (.agg (hdi (.slice A1 n m1) (.slice A2 np k2) B x y).toArray) ∧ w'.ownsRow w.heap.size 112 18 (.slice A1 n m1) n (lbF F n) ∧ w'.ownsRow w.heap.size 31 2 (.slice A2 np k2) np (ptF H np)) ∧ Below w.heap.size w w' := by
  obtain ⟨N, hN⟩ : ∃ N, N = w.heap.size := ⟨_, rfl⟩
  obtain ⟨W2, hW2⟩ : ∃ W2, W2 = (w.alloc (.cells (hdi (.slice A n m) (.slice Ap np kp) B x y).toArray 59)).alloc (.cells z35 59) := ⟨_, rfl⟩
  have s2 : W2.heap.size = N + 2 := by rw [hW2, hN]; simp
  have b2 : Below N w W2 := by rw [hW2, hN]; exact (below_alloc _ _).trans ((below_alloc _ _).mono (by simp))
  have e1 : Hdx W2 N (.slice A n m) (.slice Ap np kp) B x y := by rw [hW2, hN]; exact Blk.keep (Blk.new w _ _) (below_alloc _ _)
  have e2 : Blk W2 (N + 1) z35 59 := by
    have h := Blk.new (w.alloc (.cells (hdi (.slice A n m) (.slice Ap np kp) B x y).toArray 59)) z35 59
    rw [World.size_alloc, ← hN] at h; rw [hW2]; exact h
  have hin2 := hin.keep (w' := W2) (by rw [← hN]; exact b2)
  obtain ⟨i0, hi, hz0, hz1, hz2⟩ := info_parts infoItm
  obtain ⟨v1, w6, hap1, ho1, hg1⟩ := append_run (T := 56) (e := 112) (i0 := i0) (z := .agg lz18) (size := 18) (bytes := 32) Try.underlying56 hi hz0 hz1 hz2 rfl (by omega) 56 W2 (N + 2) 0 n m (.slice none 0 0) [] (lbF F n) A (World.ownsRow_nil _ _ _ _)
    (fun h => by rcases hin.had with h0 | h0; exact h0; rw [h] at h0; cases h0)
    (fun ad hA j u hu => by
      have hj : j < n * 18 := by have := (List.getElem?_eq_some_iff.1 hu).1; rwa [lbF_len] at this
      have h1 : j / 18 < n := by omega
      obtain rfl : ad = ⟨g, o, none⟩ := by
        rcases hin.had with h0 | h0
        · omega
        · rw [h0] at hA; injection hA with hA; exact hA.symm
      have h2 := lbF_get F n (j / 18) (j % 18) h1 (by omega)
      rw [show j / 18 * 18 + j % 18 = j by omega, hu] at h2
      rw [Addr.add_mid, show o + j = o + j / 18 * 18 + j % 18 by omega]
      exact hin2.itm (j / 18) h1 (j % 18) u h2.symm)
    (lbF_len F n) (lbF_one F n) (by unfold maxLen; omega) (by omega) (by rw [s2]; exact Nat.le_refl _)
  rw [Nat.zero_add] at ho1
  have b26 : Below (N + 2) W2 w6 := (Below.refl _ _).grown hg1 (by rw [s2]; exact Nat.le_refl _) (fun b hb => by cases hb)
  obtain ⟨A1, m1, rfl⟩ := own_val ho1
  have k1 : Hdx w6 N (.slice A n m) (.slice Ap np kp) B x y := Blk.below e1 b26 (by omega)
  have k1' : Blk w6 (N + 1) z35 59 := e2.below b26 (by omega)
  have k2 : Hdx (w6.setCell ⟨N, 0, none⟩ (.slice A1 n m1)) N (.slice A1 n m1) (.slice Ap np kp) B x y := Hdx.setItems k1 _
  have k2' : Blk (w6.setCell ⟨N, 0, none⟩ (.slice A1 n m1)) (N + 1) z35 59 := k1'.other (by simp) _
  have ho2 := ownsRow_setCell_other (a := ⟨N, 0, none⟩) ho1 (Ne.symm (Blk.apart k1 ho1 (by decide))) (.slice A1 n m1)
  have b27 : Below N w (w6.setCell ⟨N, 0, none⟩ (.slice A1 n m1)) := (b2.trans (b26.mono (by omega))).setCell (p := ⟨N, 0, none⟩) (Nat.le_refl _) _
  have s7 : N + 2 ≤ (w6.setCell ⟨N, 0, none⟩ (.slice A1 n m1)).heap.size := by rw [World.size_setCell]; have := hg1.size; omega
  have hin7 := hin.keep (w' := w6.setCell ⟨N, 0, none⟩ (.slice A1 n m1)) (by rw [← hN]; exact b27)
  obtain ⟨W7, hW7⟩ : ∃ W7, W7 = w6.setCell ⟨N, 0, none⟩ (.slice A1 n m1) := ⟨_, rfl⟩
  rw [← hW7] at k2 k2' ho2 b27 s7 hin7
  obtain ⟨j0, hj, hy0, hy1, hy2⟩ := info_parts infoPnt
  obtain ⟨v2, w8, hap2, ho3, hg3⟩ := append_run (T := 57) (e := 31) (i0 := j0) (z := .agg #[.int .u64 0, .int .u64 0]) (size := 2) (bytes := 16) Try.underlying57 hj hy0 hy1 hy2 rfl (by omega) 57 W7 (N + 2) 0 np kp (.slice none 0 0) [] (ptF H np) Ap (World.ownsRow_nil _ _ _ _)
    (fun h => by rcases hin.hpd with h0 | h0; exact h0; rw [h] at h0; cases h0)
    (fun ad hA j u hu => by
      have hj : j < np * 2 := by have := (List.getElem?_eq_some_iff.1 hu).1; rwa [ptF_len] at this
      have h1 : j / 2 < np := by omega
      obtain rfl : ad = ⟨h, r, none⟩ := by
        rcases hin.hpd with h0 | h0
        · omega
        · rw [h0] at hA; injection hA with hA; exact hA.symm
      have h2 := ptF_get H np (j / 2) (j % 2) h1 (by omega)
      rw [show j / 2 * 2 + j % 2 = j by omega, hu] at h2
      rw [Addr.add_mid, show r + j = r + j / 2 * 2 + j % 2 by omega]
      exact hin7.pnt (j / 2) h1 (j % 2) u h2.symm)
    (ptF_len H np) (ptF_one H np) (by unfold maxLen; omega) (by omega) s7
  rw [Nat.zero_add] at ho3
  have b78 : Below W7.heap.size W7 w8 := (Below.refl _ _).grown hg3 (Nat.le_refl _) (fun b hb => by cases hb)
  obtain ⟨A2, k2n, rfl⟩ := own_val ho3
  have k3 : Hdx w8 N (.slice A1 n m1) (.slice Ap np kp) B x y := Blk.keep k2 b78
  have k3' : Blk w8 (N + 1) z35 59 := k2'.keep b78
  have k4 : Hdx (w8.setCell ⟨N, 2, none⟩ (.slice A2 np k2n)) N (.slice A1 n m1) (.slice A2 np k2n) B x y := Hdx.setPoints k3 _
  have k4' : Blk (w8.setCell ⟨N, 2, none⟩ (.slice A2 np k2n)) (N + 1) z35 59 := k3'.other (by simp) _
  have ho4 := ownsRow_setCell_other (a := ⟨N, 2, none⟩) (own_below ho2 b78) (Ne.symm (Blk.apart k3 (own_below ho2 b78) (by decide))) (.slice A2 np k2n)
  have ho5 := ownsRow_setCell_other (a := ⟨N, 2, none⟩) ho3 (Ne.symm (Blk.apart k3 ho3 (by decide))) (.slice A2 np k2n)
  have ho6 := own_setCells (hdi (.slice A1 n m1) (.slice A2 np k2n) B x y) 0 ho4 (k4'.apart ho4 (by decide))
  have ho7 := own_setCells (hdi (.slice A1 n m1) (.slice A2 np k2n) B x y) 0 ho5 (k4'.apart ho5 (by decide))
  have b8 : Below N w ((w8.setCell ⟨N, 2, none⟩ (.slice A2 np k2n)).setCells (N + 1) 0 (hdi (.slice A1 n m1) (.slice A2 np k2n) B x y)) := below_setCells _ _ _ _ ((b27.trans (b78.mono (by omega))).setCell (p := ⟨N, 2, none⟩) (Nat.le_refl _) _) (by omega)
  have k5 : Hdx ((w8.setCell ⟨N, 2, none⟩ (.slice A2 np k2n)).setCells (N + 1) 0 (hdi (.slice A1 n m1) (.slice A2 np k2n) B x y)) (N + 1) (.slice A1 n m1) (.slice A2 np k2n) B x y := Hdx.stored k4' z35_size _ _ _ _ _
  have HRES := Lib.hid (And.intro (own_lower (B := N) (by omega) ho6) (own_lower (B := N) (by omega) ho7))
  have HN := Lib.hid hN
  have HW := Lib.hid hW2
  have HW7 := Lib.hid hW7
  rw [← hN]
  have c0 := Hdx.c0 e1
  rw [hW2, hN] at c0
  have d0 := Hdx.c0 k1
  have f0 := Blk.fr k1 0
  have d2 := Hdx.c2 k2
  have d3 := Hdx.c2 k3
  have f3 := Blk.fr k3 2
  have hth : (w8.setCell ⟨N, 2, none⟩ (.slice A2 np k2n)).there (N + 1) 0 35 := k4'.there
  have HB8 := Lib.hid b8
  have HK4 := Lib.hid k4
  have HK5 := Lib.hid k5
  rw [hW7] at d2
  clear hN hW2 hW7 s2 b2 e1 e2 hin2 hi hz0 hz1 hz2 ho1 hg1 b26 k1 k1' k2 k2' ho2 b27 s7 hin7 hj hy0 hy1 hy2 ho3 hg3 b78 k3 k3' k4 k4' ho4 ho5 ho6 ho7 b8 k5 hin hn hnp
  go_enter Try.func22, Try.ntmps22
  go_wp2_with (first
    | (at_builtin; rw [← HW.out, ← HN.out]; refine Lib.wpList_append_run _ rfl _ _ _ _ rfl _ _ rfl rfl _ _ hap1 ?_)
    | (at_builtin; rw [← HW7.out]; refine Lib.wpList_append_run _ rfl _ _ _ _ rfl _ _ rfl rfl _ _ hap2 ?_)
    | ((with_reducible show wpList _ _ _ (Oper.mk _ (Op.load 59 _) _ _ _ _ :: _) _ _); refine wpList_load_hdi rfl _ rfl _ rfl _ _ _ _ _ HK4.out ?_)
    | ((with_reducible show wpList _ _ _ (Oper.mk _ (Op.store 59 _ _) _ _ _ _ :: _) _ _); refine wpList_store_hdi rfl _ _ rfl _ _ _ _ _ _ rfl rfl rfl rfl hth ?_))
  exact bodyPost_ret (results_hdi1 rfl _ _ (N + 1) _ _ _ _ _ rfl HK5.out) rfl ⟨⟨A1, m1, A2, k2n, rfl, HRES.out.1, HRES.out.2⟩, HB8.out⟩

set_option maxRecDepth 100000 in
set_option maxHeartbeats 400000 in
theorem twinSecret_own (r s t : Int) (A : Option Addr) (g o n m : Nat) (F : Nat → Int × Int × (Nat × Nat)) (w : World) (hn : n ≤ 4398046511104) (had : n = 0 ∨ A = some ⟨g, o, none⟩)
    (hF : ∀ i, i < n → w.rangeAt g (o + i * 18) (lbl (F i).1 (F i).2.1 (F i).2.2)) :
    Calls Try.prog 8 #[.agg (sg r (.slice A n m) s t)] w fun e w' => (∃ A1 m1, e = .returned (.agg (sg r (.slice A1 n m1) s t)) ∧ w'.ownsRow w.heap.size 88 18 (.slice A1 n m1) n (lbF F n)) ∧ Below w.heap.size w w' := by
  obtain ⟨N, hN⟩ : ∃ N, N = w.heap.size := ⟨_, rfl⟩
  obtain ⟨W2, hW2⟩ : ∃ W2, W2 = (w.alloc (.cells (sg r (.slice A n m) s t) 33)).alloc (.cells (sg 0 (.slice none 0 0) 0 0) 33) := ⟨_, rfl⟩
  have s2 : W2.heap.size = N + 2 := by rw [hW2, hN]; simp
  have b2 : Below N w W2 := by rw [hW2, hN]; exact (below_alloc _ _).trans ((below_alloc _ _).mono (by simp))
  have e1 : Blk W2 N (sg r (.slice A n m) s t) 33 := by rw [hW2, hN]; exact (Blk.new w _ _).keep (below_alloc _ _)
  have e2 : Blk W2 (N + 1) (sg 0 (.slice none 0 0) 0 0) 33 := by
    have h := Blk.new (w.alloc (.cells (sg r (.slice A n m) s t) 33)) (sg 0 (.slice none 0 0) 0 0) 33
    rw [World.size_alloc, ← hN] at h; rw [hW2]; exact h
  have hF2 : ∀ i, i < n → W2.rangeAt g (o + i * 18) (lbl (F i).1 (F i).2.1 (F i).2.2) := fun i hi j u hu => (b2.cell (p := ⟨g, o + i * 18 + j, none⟩) (by rw [hN]; exact World.block_lt_of_cell? w _ (hF i hi j u hu))).trans (hF i hi j u hu)
  obtain ⟨i0, hi, hz0, hz1, hz2⟩ := info_parts infoLab
  obtain ⟨v1, w6, hap1, ho1, hg1⟩ := append_run (T := 29) (e := 88) (i0 := i0) (z := .agg lz18) (size := 18) (bytes := 32) Try.underlying29 hi hz0 hz1 hz2 rfl (by omega) 29 W2 (N + 2) 0 n m (.slice none 0 0) [] (lbF F n) A (World.ownsRow_nil _ _ _ _)
    (fun h => by rcases had with h0 | h0; exact h0; rw [h] at h0; cases h0)
    (fun ad hA j u hu => by
      have hj : j < n * 18 := by have := (List.getElem?_eq_some_iff.1 hu).1; rwa [lbF_len] at this
      have h1 : j / 18 < n := by omega
      obtain rfl : ad = ⟨g, o, none⟩ := by
        rcases had with h0 | h0
        · omega
        · rw [h0] at hA; injection hA with hA; exact hA.symm
      have h2 := lbF_get F n (j / 18) (j % 18) h1 (by omega)
      rw [show j / 18 * 18 + j % 18 = j by omega, hu] at h2
      rw [Addr.add_mid, show o + j = o + j / 18 * 18 + j % 18 by omega]
      exact hF2 (j / 18) h1 (j % 18) u h2.symm)
    (lbF_len F n) (lbF_one F n) (by unfold maxLen; omega) (by omega) (by rw [s2]; exact Nat.le_refl _)
  rw [Nat.zero_add] at ho1
  have b26 : Below (N + 2) W2 w6 := (Below.refl _ _).grown hg1 (by rw [s2]; exact Nat.le_refl _) (fun b hb => by cases hb)
  obtain ⟨A1, m1, rfl⟩ := own_val ho1
  have k1 := e1.below b26 (by omega)
  have k1' := e2.below b26 (by omega)
  have k2 : Blk (w6.setCell ⟨N, 1, none⟩ (.slice A1 n m1)) N (sg r (.slice A1 n m1) s t) 33 := k1.set1 1 (.slice A1 n m1)
  have k2' : Blk (w6.setCell ⟨N, 1, none⟩ (.slice A1 n m1)) (N + 1) (sg 0 (.slice none 0 0) 0 0) 33 := k1'.other (by simp) _
  have ho2 := ownsRow_setCell_other (a := ⟨N, 1, none⟩) ho1 (Ne.symm (k1.apart ho1 (by decide))) (.slice A1 n m1)
  have ho3 := own_setCells (sg r (.slice A1 n m1) s t).toList 0 ho2 (k2'.apart ho2 (by decide))
  have b8 : Below N w ((w6.setCell ⟨N, 1, none⟩ (.slice A1 n m1)).setCells (N + 1) 0 (sg r (.slice A1 n m1) s t).toList) := below_setCells _ _ _ _ ((b2.trans (b26.mono (by omega))).setCell (p := ⟨N, 1, none⟩) (Nat.le_refl _) _) (by omega)
  have HRES := Lib.hid (own_lower (B := N) (by omega) ho3)
  have HK5 : Hid (Blk ((w6.setCell ⟨N, 1, none⟩ (.slice A1 n m1)).setCells (N + 1) 0 (sg r (.slice A1 n m1) s t).toList) (N + 1) (sg r (.slice A1 n m1) s t) 33) := Lib.hid (Blk.setAll k2' _ rfl)
  have HB8 := Lib.hid b8
  have HK2 := Lib.hid k2
  have hth := k2'.there
  have HN := Lib.hid hN
  have HW := Lib.hid hW2
  rw [← hN]
  have c1 : W2.cell? ⟨N, 1, none⟩ = some (.slice A n m) := e1.cell 1
  rw [hW2, hN] at c1
  have f1 := k1.cell 1
  have f2 := k1.fr 1
  clear hN hW2 s2 b2 e1 e2 hF hF2 hi hz0 hz1 hz2 ho1 hg1 b26 k1 k1' k2 k2' ho2 ho3 b8 hn had
  go_enter Try.func8, Try.ntmps8
  go_wp2_with (first
    | (at_builtin; rw [← HW.out, ← HN.out]; refine Lib.wpList_append_run _ rfl _ _ _ _ rfl _ _ rfl rfl _ _ hap1 ?_)
    | ((with_reducible show wpList _ _ _ (Oper.mk _ (Op.load 33 _) _ _ _ _ :: _) _ _); refine wpList_load_sg rfl _ rfl _ rfl _ _ _ _ HK2.out ?_)
    | ((with_reducible show wpList _ _ _ (Oper.mk _ (Op.store 33 _ _) _ _ _ _ :: _) _ _); refine wpList_store_sg rfl _ _ rfl _ _ _ _ _ rfl rfl rfl hth ?_))
  exact bodyPost_ret (results_sg1 rfl _ _ (N + 1) _ _ _ _ rfl HK5.out) rfl ⟨⟨A1, m1, rfl, HRES.out⟩, HB8.out⟩
end Go.Proofs.Ytelalpikdidpeaa
