/-
  Labels in memory; KeyOf, the specification's.
-/
import Derived.Test.YtnbkoffhplknbaaSecC
import Derived.Laws.Tables
namespace Go.Proofs.Ytnbkoffhplknbaa
open Go.RowKit TR L2 L2.SP
set_option linter.unusedVariables false
set_option linter.unusedSimpArgs false

/-- The cells of a label. -/
def lbl (v x : Int) (p : Nat × Nat) : List Value := [.int .i64 v, .int .i64 x] ++ kl p.1 p.2
abbrev lz18 : Array Value := #[.int .i64 0, .int .i64 0, .int .u8 0, .int .u8 0, .int .u8 0, .int .u8 0, .int .u8 0, .int .u8 0, .int .u8 0, .int .u8 0, .int .u8 0, .int .u8 0, .int .u8 0, .int .u8 0, .int .u8 0, .int .u8 0, .int .u8 0, .int .u8 0]
theorem lbl_len (v x : Int) (p : Nat × Nat) : (lbl v x p).length = 18 := by simp [lbl, kl_len]
theorem lbl_zero : (lbl 0 0 (0, 0)).toArray = lz18 := by kernel_rfl
theorem lbl_one (v x : Int) (p : Nat × Nat) : ∀ u ∈ lbl v x p, u.oneCell' = true := by
  intro u hu
  unfold lbl at hu
  rcases List.mem_append.1 hu with h | h
  · simp at h; rcases h with rfl | rfl <;> rfl
  · exact kl_one p.1 p.2 u h
theorem lbl_arr (v x : Int) (p : Nat × Nat) : (lbl v x p).toArray.all (·.oneCell') = true := all_oneCell_toArray (lbl_one v x p)
theorem sizeLab : (Try.prog.info? 70).map (·.size) = some 18 := by kernel_rfl
theorem infoLab : (Try.prog.info? 70).map (fun i => (i.zero, i.size, i.bytes)) = some (some (.agg lz18), 18, 32) := by kernel_rfl
theorem buildLab (v x : Int) (w : World) : (Instr.build 70 #[(0, .int .i64 v), (1, .int .i64 x)]).run Try.prog w = .ok (.agg (lbl v x (0, 0)).toArray) w := run_build w 70 _ _ (by kernel_rfl)
theorem buildLabK (v x : Int) (p : Nat × Nat) (w : World) : (Instr.build 70 #[(0, .int .i64 v), (1, .int .i64 x), (2, .agg (kl p.1 p.2).toArray)]).run Try.prog w = .ok (.agg (lbl v x p).toArray) w := run_build w 70 _ _ (by kernel_rfl)
theorem wp_buildLab {op : Oper} {a : Act} {w : World} {K : Act → World → Prop} {Q : Exit → Act → World → Prop} (p q : Operand) (ho : op.op = .build 70 #[(0, p), (1, q)]) (v x : Int) (hx : a.eval p = .int .i64 v) (hy : a.eval q = .int .i64 x)
    (h : K (a.put op.dst (.agg (lbl v x (0, 0)).toArray)) w) : op.wp Try.prog a w K Q := by
  unfold Oper.wp execOp
  simp only [ho, List.map_toArray, List.map_cons, List.map_nil, hx, hy, Sem.run_bind, buildLab, Result.andThen_ok]
  exact h
theorem wp_buildLabK {op : Oper} {a : Act} {w : World} {K : Act → World → Prop} {Q : Exit → Act → World → Prop} (p q r : Operand) (ho : op.op = .build 70 #[(0, p), (1, q), (2, r)]) (v x : Int) (k : Nat × Nat) (hx : a.eval p = .int .i64 v) (hy : a.eval q = .int .i64 x) (hk : a.eval r = .agg (kl k.1 k.2).toArray)
    (h : K (a.put op.dst (.agg (lbl v x k).toArray)) w) : op.wp Try.prog a w K Q := by
  unfold Oper.wp execOp
  simp only [ho, List.map_toArray, List.map_cons, List.map_nil, hx, hy, hk, Sem.run_bind, buildLabK, Result.andThen_ok]
  exact h
theorem wpList_buildLab {ops : Array Oper} {rest : List Oper} {op : Oper} {a : Act} {w : World} {Q : Exit → Act → World → Prop} (hgd : op.guard = none) (p q : Operand) (ho : op.op = .build 70 #[(0, p), (1, q)]) (v x : Int) (hx : a.eval p = .int .i64 v) (hy : a.eval q = .int .i64 x)
    (h : wpList Try.prog ops Q rest (a.put op.dst (.agg (lbl v x (0, 0)).toArray)) w) : wpList Try.prog ops Q (op :: rest) a w :=
  wpList_plain hgd fun _ hK => wp_buildLab p q ho v x hx hy (hK _ _ h)
theorem wpList_store_lab {ops : Array Oper} {rest : List Oper} {op : Oper} {a : Act} {w : World} {Q : Exit → Act → World → Prop} (hgd : op.guard = none) (x y : Operand) (ho : op.op = .store 70 x y)
    (b : Nat) (v z : Int) (p : Nat × Nat) (hx : a.eval x = .pointer (some ⟨b, 0, none⟩)) (hy : a.eval y = .agg (lbl v z p).toArray) (ht : w.there b 0 18)
    (h : wpList Try.prog ops Q rest (a.put op.dst undef) (w.setCells b 0 (lbl v z p))) : wpList Try.prog ops Q (op :: rest) a w :=
  wpList_store_mid hgd 70 x y ho b 0 (lbl v z p).toArray hx hy (by simpa [lbl_len] using ht) (by simp [lbl_len, sizeLab]) (lbl_arr v z p) (by simpa using h)
theorem wpList_load_lab {ops : Array Oper} {rest : List Oper} {op : Oper} {a : Act} {w : World} {Q : Exit → Act → World → Prop} (hgd : op.guard = none) (x : Operand) (ho : op.op = .load 70 x)
    (b : Nat) (hx : a.eval x = .pointer (some ⟨b, 0, none⟩)) (v z : Int) (p : Nat × Nat) (hc : w.rangeAt b 0 (lbl v z p))
    (h : wpList Try.prog ops Q rest (a.put op.dst (.agg (lbl v z p).toArray)) w) : wpList Try.prog ops Q (op :: rest) a w :=
  wpList_load_mid hgd 70 x ho b 0 hx (lbl v z p) _ hc Try.underlying70 rfl (by rw [lbl_len]; exact sizeLab) h
theorem wpList_store_keyo {ops : Array Oper} {rest : List Oper} {op : Oper} {a : Act} {w : World} {Q : Exit → Act → World → Prop} (hgd : op.guard = none) (x y : Operand) (ho : op.op = .store 58 x y)
    (b o : Nat) (p : Nat × Nat) (hx : a.eval x = .pointer (some ⟨b, o, none⟩)) (hy : a.eval y = .agg (kl p.1 p.2).toArray) (ht : w.there b o 16)
    (h : wpList Try.prog ops Q rest (a.put op.dst undef) (w.setCells b o (kl p.1 p.2))) : wpList Try.prog ops Q (op :: rest) a w :=
  wpList_store_mid hgd 58 x y ho b o (kl p.1 p.2).toArray hx hy (by simpa [kl_len] using ht) (by simp [kl_len, size23]) (kl_arr p.1 p.2) (by simpa using h)
theorem results_lab {fn : Func} {r : Tmp} (h : fn.results = #[.cell r 70]) (tmps : Array Value) (w : World) (b : Nat) (v x : Int) (p : Nat × Nat)
    (hp : tmps.getD r undef = .pointer (some ⟨b, 0, none⟩)) (hc : w.rangeAt b 0 (lbl v x p)) : (results fn tmps).run Try.prog w = .ok (.agg (lbl v x p).toArray) w := by
  have hp' : tmps[r]?.getD undef = .pointer (some ⟨b, 0, none⟩) := by simpa using hp
  simp [results, h, hp', asAddr, run_loadVar_mid w b 0 70 (lbl v x p) _ hc Try.underlying70 rfl (by rw [lbl_len]; exact sizeLab)]
/-- A block that holds a label. -/
abbrev Lbx (w : World) (b : Nat) (v x : Int) (p : Nat × Nat) : Prop := Blk w b (lbl v x p).toArray 70
theorem Lbx.stored {w : World} {b : Nat} {cs : Array Value} (h : Blk w b cs 70) (hs : cs.size = 18) (v x : Int) (p : Nat × Nat) : Lbx (w.setCells b 0 (lbl v x p)) b v x p := Blk.setAll h _ (by rw [lbl_len, hs])
theorem Lbx.key {w : World} {b : Nat} {v x : Int} {p : Nat × Nat} (h : Lbx w b v x p) (q : Nat × Nat) : Lbx (w.setCells b 2 (kl q.1 q.2)) b v x q := by
  obtain ⟨cs', h1, h2, h3⟩ := Blk.setn (kl q.1 q.2) 2 h
  have e : cs' = (lbl v x q).toArray := by
    apply Array.ext
    · simp [h2, lbl_len]
    · intro i hi1 hi2
      have h4 := h3 i (by omega)
      rw [Array.getElem?_eq_getElem hi1] at h4
      simp only [List.size_toArray, lbl_len] at hi2
      rw [kl_len] at h4
      have h5 : (lbl v x q)[i]? = if 2 ≤ i ∧ i < 2 + 16 then (kl q.1 q.2)[i - 2]? else (lbl v x p).toArray[i]? := by
        rcases i with _ | _ | i
        · rfl
        · rfl
        · rw [if_pos (by omega)]; rfl
      rw [← h5, List.getElem?_eq_getElem (by rw [lbl_len]; exact hi2)] at h4
      simpa using h4
  rw [e] at h1; exact h1
theorem Lbx.range {w : World} {b : Nat} {v x : Int} {p : Nat × Nat} (h : Lbx w b v x p) : w.rangeAt b 0 (lbl v x p) := by
  have h1 := Blk.range h; simpa using h1
theorem Lbx.there_ {w : World} {b : Nat} {v x : Int} {p : Nat × Nat} (h : Lbx w b v x p) : w.there b 0 18 := by
  have h1 := Blk.there h; simpa [lbl_len] using h1
theorem Lbx.there2 {w : World} {b : Nat} {v x : Int} {p : Nat × Nat} (h : Lbx w b v x p) : w.there b 2 16 := fun j hj => by
  have h1 := h.there_ (2 + j) (by omega)
  rwa [Nat.zero_add] at h1

/-- The key of (v, x). -/
def kof (K : Int) (p : Nat × Nat) (v x : Nat) : Nat × Nat := if K = 1 then ndk p v else if x = 0 then drv p.1 p.2 34 0 else drv (lbk p v x).1 (lbk p v x).2 33 0
theorem kof_ok (K : Int) {p : Nat × Nat} (h : Ok p) (v x : Nat) (hv : v < 256) : Ok (kof K p v x) := by
  unfold kof
  split
  · exact ndk_ok h v hv
  · split
    · exact drv_ok h.1 h.2 (by omega) (by unfold M; omega)
    · have h1 := lbk_ok h v x hv
      exact drv_ok h1.1 h1.2 (by omega) (by unfold M; omega)

set_option maxRecDepth 100000 in
set_option maxHeartbeats 800000 in
theorem refKeyOf_any (p : Nat × Nat) (K D E : Int) (P Q G v x : Nat) (w : World) (hp : Ok p) (hv : v < 256) (hx : x < 256) (hab : K ≠ 1 → x ≠ 0 → abv v x = true) :
    Calls Try.prog 99 #[.agg (kl p.1 p.2).toArray, .agg #[.int .u8 K, .int .i64 D, .int .i64 E, .int .u64 (P : Int), .int .u64 (Q : Int), .int .u64 (G : Int)], .agg #[.int .i64 (v : Int), .int .i64 (x : Int)]] w fun e w' => e = .returned (.agg (kl (kof K p v x).1 (kof K p v x).2).toArray) ∧ Below w.heap.size w w' := by
  obtain ⟨N, hN⟩ : ∃ N, N = w.heap.size := ⟨_, rfl⟩
  obtain ⟨W4, hW4⟩ : ∃ W4, W4 = (((w.alloc (.cells (kl p.1 p.2).toArray 58)).alloc (.cells #[.int .u8 K, .int .i64 D, .int .i64 E, .int .u64 (P : Int), .int .u64 (Q : Int), .int .u64 (G : Int)] 28)).alloc (.cells #[.int .i64 (v : Int), .int .i64 (x : Int)] 35)).alloc (.cells z16 58) := ⟨_, rfl⟩
  have s4 : W4.heap.size = N + 4 := by rw [hW4, hN]; simp
  have b4 : Below N w W4 := by rw [hW4, hN]; exact (below_alloc _ _).trans (((below_alloc _ _).mono (by simp)).trans (((below_alloc _ _).mono (by simp; omega)).trans ((below_alloc _ _).mono (by simp; omega))))
  have e1 : Kbx W4 N p := by rw [hW4, hN]; exact (((Blk.new w _ _).keep (below_alloc _ _)).keep (below_alloc _ _)).keep (below_alloc _ _)
  have e2 : Blk W4 (N + 1) #[.int .u8 K, .int .i64 D, .int .i64 E, .int .u64 (P : Int), .int .u64 (Q : Int), .int .u64 (G : Int)] 28 := by
    have h := ((Blk.new (w.alloc (.cells (kl p.1 p.2).toArray 58)) #[.int .u8 K, .int .i64 D, .int .i64 E, .int .u64 (P : Int), .int .u64 (Q : Int), .int .u64 (G : Int)] 28).keep (below_alloc _ (.cells #[.int .i64 (v : Int), .int .i64 (x : Int)] 35))).keep (below_alloc _ (.cells z16 58))
    rw [World.size_alloc, ← hN] at h; rw [hW4]; exact h
  have e3 : Blk W4 (N + 2) #[.int .i64 (v : Int), .int .i64 (x : Int)] 35 := by
    have h := (Blk.new ((w.alloc (.cells (kl p.1 p.2).toArray 58)).alloc (.cells #[.int .u8 K, .int .i64 D, .int .i64 E, .int .u64 (P : Int), .int .u64 (Q : Int), .int .u64 (G : Int)] 28)) #[.int .i64 (v : Int), .int .i64 (x : Int)] 35).keep (below_alloc _ (.cells z16 58))
    rw [World.size_alloc, World.size_alloc, ← hN] at h; rw [hW4]; exact h
  have e4 : Blk W4 (N + 3) z16 58 := by
    have h := Blk.new (((w.alloc (.cells (kl p.1 p.2).toArray 58)).alloc (.cells #[.int .u8 K, .int .i64 D, .int .i64 E, .int .u64 (P : Int), .int .u64 (Q : Int), .int .u64 (G : Int)] 28)).alloc (.cells #[.int .i64 (v : Int), .int .i64 (x : Int)] 35)) z16 58
    rw [World.size_alloc, World.size_alloc, World.size_alloc, ← hN] at h; rw [hW4]; exact h
  have HE := Lib.hid (And.intro s4 (And.intro b4 (And.intro e1 (And.intro e2 (And.intro e3 e4)))))
  have HN := Lib.hid hN
  have HW := Lib.hid hW4
  rw [← hN]
  have c0 : W4.cell? ⟨N + 1, 0, none⟩ = some (.int .u8 K) := e2.cell 0
  have z0 : W4.cell? ⟨N + 2, 0, none⟩ = some (.int .i64 (v : Int)) := e3.cell 0
  have z1 : W4.cell? ⟨N + 2, 1, none⟩ = some (.int .i64 (x : Int)) := e3.cell 1
  rw [hW4, hN] at c0 z0 z1
  obtain ⟨q, hq⟩ : ∃ q, q = kof K p v x := ⟨_, rfl⟩
  have HQ := Lib.hid hq
  rw [← hq]
  clear hN hW4 s4 b4 e1 e2 e3 e4 hq
  have END : ∀ (w3 : World), Below W4.heap.size W4 w3 → w3.there (N + 3) 0 16 ∧ Below N w w3 := fun w3 hb => ⟨by have h := (HE.out.2.2.2.2.2.keep hb).there; simpa using h, HE.out.2.1.trans (hb.mono (by rw [HE.out.1]; omega))⟩
  have HEND := Lib.hid END
  clear END
  by_cases hK : K = 1
  · subst hK
    have HD : Hid (∀ w, Calls Try.prog 110 #[.agg (kl p.1 p.2).toArray, .int .u8 30, .int .u64 (v : Int)] w fun e w' => e = .returned (.agg (kl q.1 q.2).toArray) ∧ Below w.heap.size w w') := Lib.hid (fun w => by
      have h := refDerive_any p.1 p.2 30 v w hp.1 hp.2 (by omega) (by unfold M; omega)
      have e : q = drv p.1 p.2 30 v := by rw [HQ.out]; rfl
      rw [e]; exact h)
    clear hp hab hx
    go_enter Try.func99, Try.ntmps99
    go_wp2_with (first | (refine wpList_load_key rfl _ rfl _ rfl p.1 p.2 (by rw [← HW.out, ← HN.out]; exact HE.out.2.2.1.at_) ?_))
    rw [← HW.out, ← HN.out]
    refine (HD.out _).mono ?_
    rintro e w3 ⟨rfl, hb3⟩
    have H3 := Lib.hid (HEND.out w3 hb3)
    clear hb3 c0 z0 z1
    go_wp2_with (refine wpList_store_key rfl _ _ rfl (N + 3) _ _ rfl rfl H3.out.1 ?_)
    exact ends_key rfl (N + 3) _ _ H3.out.1 rfl rfl ⟨rfl, below_setCells _ _ _ _ H3.out.2 (by omega)⟩
  · have hKn : (K == 1) = false := beq_eq_false_iff_ne.2 hK
    by_cases hx0 : x = 0
    · have HD : Hid (∀ w, Calls Try.prog 110 #[.agg (kl p.1 p.2).toArray, .int .u8 34, .int .u64 0] w fun e w' => e = .returned (.agg (kl q.1 q.2).toArray) ∧ Below w.heap.size w w') := Lib.hid (fun w => by
        have h := refDerive_any p.1 p.2 34 0 w hp.1 hp.2 (by omega) (by unfold M; omega)
        have e : q = drv p.1 p.2 34 0 := by rw [HQ.out]; unfold kof; rw [if_neg hK, if_pos hx0]
        rw [e]; exact h)
      have hxi : ((x : Int) == 0) = true := beq_iff_eq.2 (by omega)
      clear hp hab hx hx0
      go_enter Try.func99, Try.ntmps99
      go_wp2_with (first | (refine wpList_load_key rfl _ rfl _ rfl p.1 p.2 (by rw [← HW.out, ← HN.out]; exact HE.out.2.2.1.at_) ?_))
      rw [← HW.out, ← HN.out]
      refine (HD.out _).mono ?_
      rintro e w3 ⟨rfl, hb3⟩
      have H3 := Lib.hid (HEND.out w3 hb3)
      clear hb3 c0 z0 z1
      go_wp2_with (refine wpList_store_key rfl _ _ rfl (N + 3) _ _ rfl rfl H3.out.1 ?_)
      exact ends_key rfl (N + 3) _ _ H3.out.1 rfl rfl ⟨rfl, below_setCells _ _ _ _ H3.out.2 (by omega)⟩
    · have hxn : ((x : Int) == 0) = false := beq_eq_false_iff_ne.2 (by omega)
      have HLb := Lib.hid (fun w => refLabel_any p v x w hp hv hx (hab hK hx0))
      have HOk := Lib.hid (lbk_ok hp v x hv)
      have he : q = drv (lbk p v x).1 (lbk p v x).2 33 0 := by rw [HQ.out]; unfold kof; rw [if_neg hK, if_neg hx0]
      obtain ⟨n, hn⟩ : ∃ n, n = lbk p v x := ⟨_, rfl⟩
      rw [← hn] at HLb HOk he
      have HD : Hid (∀ w, Calls Try.prog 110 #[.agg (kl n.1 n.2).toArray, .int .u8 33, .int .u64 0] w fun e w' => e = .returned (.agg (kl q.1 q.2).toArray) ∧ Below w.heap.size w w') := Lib.hid (fun w => by
        have h := refDerive_any n.1 n.2 33 0 w HOk.out.1 HOk.out.2 (by omega) (by unfold M; omega)
        rw [he]; exact h)
      clear hp hab hx hx0 hn he hK
      go_enter Try.func99, Try.ntmps99
      go_wp2_with (first | (refine wpList_load_key rfl _ rfl _ rfl p.1 p.2 (by rw [← HW.out, ← HN.out]; exact HE.out.2.2.1.at_) ?_))
      rw [← HW.out, ← HN.out]
      refine (HLb.out _).mono ?_
      rintro e w3 ⟨rfl, hb3⟩
      have HB3 := Lib.hid hb3
      clear hb3 c0 z0 z1
      go_wp2_with fail
      refine (HD.out _).mono ?_
      rintro e w4 ⟨rfl, hb4⟩
      have H3 := Lib.hid (HEND.out w4 (HB3.out.trans (hb4.mono HB3.out.size)))
      clear hb4
      go_wp2_with (refine wpList_store_key rfl _ _ rfl (N + 3) _ _ rfl rfl H3.out.1 ?_)
      exact ends_key rfl (N + 3) _ _ H3.out.1 rfl rfl ⟨rfl, below_setCells _ _ _ _ H3.out.2 (by omega)⟩
end Go.Proofs.Ytnbkoffhplknbaa
