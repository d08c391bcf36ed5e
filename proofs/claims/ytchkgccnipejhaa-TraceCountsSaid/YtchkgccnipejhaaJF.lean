/-
  Texts joined into one: FndA, FndB, FndC, FndD, FndE, FndF.
-/
import Derived.Test.YtchkgccnipejhaaJE
import Derived.Test.YtchkgccnipejhaaJB
import Derived.Test.YtchkgccnipejhaaJN

/-
  The key to which a label leads: reach, the program's.
-/
namespace Go.Proofs.Ytchkgccnipejhaa
open Go.RowKit TR L2 L2.SP
set_option linter.unusedVariables false
set_option linter.unusedSimpArgs false

/-- The key that is derived from a label with the key q below node m, for node x (0: the key itself). -/
def rch (q : Nat × Nat) (m x : Nat) : Nat × Nat := if x = 0 then q else drv (dwk q (pnd m x)).1 (dwk q (pnd m x)).2 33 0
theorem rch_ok {q : Nat × Nat} (h : Ok q) (m x : Nat) : Ok (rch q m x) := by
  unfold rch
  split
  · exact h
  · have h1 := dwk_ok (pnd m x) h
    exact drv_ok h1.1 h1.2 (by omega) (by unfold M; omega)
theorem rch_self (K : Int) (p : Nat × Nat) (v x : Nat) (hK : K = 1 → x = 0) : rch (sky K p v x) x x = kof K p v x := by
  unfold rch kof sky
  by_cases h : K = 1
  · rw [if_pos h, if_pos h, if_pos (hK h)]
  · rw [if_neg h, if_neg h]
    by_cases hx : x = 0
    · rw [if_pos hx, if_pos hx, if_pos hx]
    · rw [if_neg hx, if_neg hx, if_neg hx]
      have h0 : pnd x x = [] := by unfold pnd; rw [Nat.sub_self]; rfl
      rw [h0]; rfl
theorem Lbx.krange {w : World} {b : Nat} {v x : Int} {p : Nat × Nat} (h : Lbx w b v x p) : w.rangeAt b 2 (kl p.1 p.2) := fun j u hu => (Blk.cell h (2 + j)).trans (by
  rw [List.getElem?_toArray]
  unfold lbl
  rw [List.getElem?_append_right (by simp; try omega)]
  simpa using hu)
theorem wpList_load_keyo {ops : Array Oper} {rest : List Oper} {op : Oper} {a : Act} {w : World} {Q : Exit → Act → World → Prop} (hgd : op.guard = none) (x : Operand) (ho : op.op = .load 26 x)
    (b o : Nat) (hx : a.eval x = .pointer (some ⟨b, o, none⟩)) (p : Nat × Nat) (hc : w.rangeAt b o (kl p.1 p.2))
    (h : wpList Try.prog ops Q rest (a.put op.dst (.agg (kl p.1 p.2).toArray)) w) : wpList Try.prog ops Q (op :: rest) a w :=
  wpList_load_mid hgd 26 x ho b o hx (kl p.1 p.2) _ hc Try.underlying26 rfl (by rw [kl_len]; exact size23) h

set_option maxRecDepth 100000 in
set_option maxHeartbeats 400000 in
theorem reach_any (q : Nat × Nat) (a b y : Int) (m x : Nat) (w : World) (hq : Ok q) (hx : x < 256) (hm : x ≠ 0 → b = (m : Int) ∧ 1 ≤ m ∧ m < 256 ∧ lv m ≤ lv x) :
    Calls Try.prog 115 #[.agg (lbl a b q).toArray, .agg #[.int .i64 y, .int .i64 (x : Int)]] w fun e w' => e = .returned (.agg (kl (rch q m x).1 (rch q m x).2).toArray) ∧ Below w.heap.size w w' := by
  obtain ⟨N, hN⟩ : ∃ N, N = w.heap.size := ⟨_, rfl⟩
  obtain ⟨W3, hW3⟩ : ∃ W3, W3 = ((w.alloc (.cells (lbl a b q).toArray 82)).alloc (.cells #[.int .i64 y, .int .i64 (x : Int)] 56)).alloc (.cells z16 26) := ⟨_, rfl⟩
  have s3 : W3.heap.size = N + 3 := by rw [hW3, hN]; simp
  have b3 : Below N w W3 := by rw [hW3, hN]; exact (below_alloc _ _).trans (((below_alloc _ _).mono (by simp)).trans ((below_alloc _ _).mono (by simp; omega)))
  have e1 : Lbx W3 N a b q := by rw [hW3, hN]; exact ((Blk.new w _ _).keep (below_alloc _ _)).keep (below_alloc _ _)
  have e2 : Blk W3 (N + 1) #[.int .i64 y, .int .i64 (x : Int)] 56 := by
    have h := (Blk.new (w.alloc (.cells (lbl a b q).toArray 82)) #[.int .i64 y, .int .i64 (x : Int)] 56).keep (below_alloc _ (.cells z16 26))
    rw [World.size_alloc, ← hN] at h; rw [hW3]; exact h
  have e3 : Blk W3 (N + 2) z16 26 := by
    have h := Blk.new ((w.alloc (.cells (lbl a b q).toArray 82)).alloc (.cells #[.int .i64 y, .int .i64 (x : Int)] 56)) z16 26
    rw [World.size_alloc, World.size_alloc, ← hN] at h; rw [hW3]; exact h
  have HE := Lib.hid (And.intro s3 (And.intro b3 (And.intro e1 (And.intro e2 e3))))
  have HN := Lib.hid hN
  have HW := Lib.hid hW3
  rw [← hN]
  have HEND := Lib.hid (fun (w5 : World) (hb : Below W3.heap.size W3 w5) => (⟨by have h := (HE.out.2.2.2.2.keep hb).there; simpa using h, HE.out.2.1.trans (hb.mono (by rw [HE.out.1]; omega))⟩ : w5.there (N + 2) 0 16 ∧ Below N w w5))
  have z1 : W3.cell? ⟨N + 1, 1, none⟩ = some (.int .i64 (x : Int)) := e2.cell 1
  have zb : W3.cell? ⟨N, 1, none⟩ = some (.int .i64 b) := e1.cell 1
  rw [hW3, hN] at z1 zb
  clear hN hW3 s3 b3 e1 e2 e3
  by_cases hx0 : x = 0
  · have hr : rch q m x = q := by unfold rch; rw [if_pos hx0]
    rw [hr]
    have hxi : ((x : Int) == 0) = true := beq_iff_eq.2 (by omega)
    have H3 := Lib.hid (HEND.out W3 (Below.refl _ _))
    clear hr hq hx hm hx0
    go_enter Try.func115, Try.ntmps115
    go_wp2_with (first
      | ((with_reducible show wpList _ _ _ (Oper.mk _ (Op.load 26 _) _ _ _ _ :: _) _ _); refine wpList_load_keyo rfl _ rfl _ _ rfl q (by rw [← HW.out, ← HN.out]; exact Lbx.krange HE.out.2.2.1) ?_)
      | ((with_reducible show wpList _ _ _ (Oper.mk _ (Op.store 26 _ _) _ _ _ _ :: _) _ _); refine wpList_store_key rfl _ _ rfl (N + 2) _ _ (by rw [HN.out]; rfl) rfl (by rw [← HW.out]; exact H3.out.1) ?_))
    rw [← HW.out]
    exact ends_key rfl (N + 2) _ _ H3.out.1 (by rw [HN.out]; rfl) rfl ⟨rfl, below_setCells _ _ _ _ H3.out.2 (by omega)⟩
  · obtain ⟨rfl, hm1, hm2, hle⟩ := hm hx0
    have hxn : ((x : Int) == 0) = false := beq_eq_false_iff_ne.2 (by omega)
    have HL := Lib.hid (fun w => lower_any q m x w hq hm1 hm2 (by omega) hx hle)
    have HOk := Lib.hid (dwk_ok (pnd m x) hq)
    have he : rch q m x = drv (dwk q (pnd m x)).1 (dwk q (pnd m x)).2 33 0 := by unfold rch; rw [if_neg hx0]
    obtain ⟨n, hn⟩ : ∃ n, n = dwk q (pnd m x) := ⟨_, rfl⟩
    obtain ⟨r, hr⟩ : ∃ r, r = rch q m x := ⟨_, rfl⟩
    rw [← hn] at HL HOk he
    rw [← hr] at he ⊢
    have HD : Hid (∀ w, Calls Try.prog 67 #[.agg (kl n.1 n.2).toArray, .int .u8 33, .int .u64 0] w fun e w' => e = .returned (.agg (kl r.1 r.2).toArray) ∧ Below w.heap.size w w') := Lib.hid (fun w => by
      have h := derive_any n.1 n.2 33 0 w HOk.out.1 HOk.out.2 (by omega) (by unfold M; omega)
      rw [he]; exact h)
    clear hq hx hm hx0 hm1 hm2 hle hn he hr
    go_enter Try.func115, Try.ntmps115
    go_wp2_with ((with_reducible show wpList _ _ _ (Oper.mk _ (Op.load 26 _) _ _ _ _ :: _) _ _); refine wpList_load_keyo rfl _ rfl _ _ rfl q (by rw [← HW.out, ← HN.out]; exact Lbx.krange HE.out.2.2.1) ?_)
    rw [← HW.out]
    refine (HL.out _).mono ?_
    rintro e w4 ⟨rfl, hb4⟩
    have hA := Blk.new w4 z16 26
    have hth : (w4.alloc (.cells z16 26)).there w4.heap.size 0 16 := by have h := hA.there; simpa using h
    obtain ⟨W5, hW5⟩ : ∃ W5, W5 = (w4.alloc (.cells z16 26)).setCells w4.heap.size 0 (kl n.1 n.2) := ⟨_, rfl⟩
    have b45 : Below w4.heap.size w4 W5 := by rw [hW5]; exact below_setCells _ _ _ _ (below_alloc _ _) (Nat.le_refl _)
    have hk5 : Kbx W5 w4.heap.size n := by rw [hW5]; exact Kbx.stored hA rfl n
    have H5 := Lib.hid (hb4.trans (b45.mono hb4.size))
    have HK5 := Lib.hid (Kbx.at_ hk5)
    have HW5 := Lib.hid hW5
    have HTh := Lib.hid hth
    clear hb4 hA hth hW5 b45 hk5 z1 zb
    go_wp2_with (first
      | ((with_reducible show wpList _ _ _ (Oper.mk _ (Op.store 26 _ _) _ _ _ _ :: _) _ _); refine wpList_store_key rfl _ _ rfl _ _ _ rfl rfl HTh.out ?_)
      | ((with_reducible show wpList _ _ _ (Oper.mk _ (Op.load 26 _) _ _ _ _ :: _) _ _); refine wpList_load_key rfl _ rfl _ rfl _ _ (by rw [← HW5.out]; exact HK5.out) ?_))
    rw [← HW5.out]
    refine (HD.out _).mono ?_
    rintro e w6 ⟨rfl, hb6⟩
    have H3 := Lib.hid (HEND.out w6 (H5.out.trans (hb6.mono H5.out.size)))
    clear hb6
    go_wp2_with ((with_reducible show wpList _ _ _ (Oper.mk _ (Op.store 26 _ _) _ _ _ _ :: _) _ _); refine wpList_store_key rfl _ _ rfl (N + 2) _ _ (by rw [HN.out]; rfl) rfl H3.out.1 ?_)
    exact ends_key rfl (N + 2) _ _ H3.out.1 (by rw [HN.out]; rfl) rfl ⟨rfl, below_setCells _ _ _ _ H3.out.2 (by omega)⟩
end Go.Proofs.Ytchkgccnipejhaa

/-
  The key of a subset: SubsetKey, the program's and the specification's.
-/
namespace Go.Proofs.Ytchkgccnipejhaa
open Go.RowKit TR L2 L2.SP
set_option linter.unusedVariables false
set_option linter.unusedSimpArgs false

/-- The key of a subset, zero where there is an error. -/
def skk (p : Nat × Nat) (K D E : Int) (P Q G : Nat) (a b : Int) : Nat × Nat := if sbc K D E P Q G a b = 0 then kof K p a.toNat b.toNat else (0, 0)
theorem buildKey0 (w : World) : (Instr.build 26 #[]).run Try.prog w = .ok (.agg (kl 0 0).toArray) w := run_build w 26 _ _ (by kernel_rfl)
theorem wp_buildKey0 {op : Oper} {a : Act} {w : World} {K : Act → World → Prop} {Q : Exit → Act → World → Prop} (ho : op.op = .build 26 #[])
    (h : K (a.put op.dst (.agg (kl 0 0).toArray)) w) : op.wp Try.prog a w K Q := by
  unfold Oper.wp execOp
  simp only [ho, List.map_toArray, List.map_nil, Sem.run_bind, buildKey0, Result.andThen_ok]
  exact h
theorem wpList_buildKey0 {ops : Array Oper} {rest : List Oper} {op : Oper} {a : Act} {w : World} {Q : Exit → Act → World → Prop} (hgd : op.guard = none) (ho : op.op = .build 26 #[])
    (h : wpList Try.prog ops Q rest (a.put op.dst (.agg (kl 0 0).toArray)) w) : wpList Try.prog ops Q (op :: rest) a w :=
  wpList_plain hgd fun _ hK => wp_buildKey0 ho (hK _ _ h)
theorem results_keye {fn : Func} {r s : Tmp} (h : fn.results = #[.cell r 26, .tmp s]) (tmps : Array Value) (w : World) (b : Nat) (q : Nat × Nat) (e : Value)
    (hp : tmps.getD r undef = .pointer (some ⟨b, 0, none⟩)) (hs : tmps.getD s undef = e) (hc : KeyAt w b q.1 q.2) : (results fn tmps).run Try.prog w = .ok (.tuple #[.agg (kl q.1 q.2).toArray, e]) w := by
  have hp' : tmps[r]?.getD undef = .pointer (some ⟨b, 0, none⟩) := by simpa using hp
  have hs' : tmps[s]?.getD undef = e := by simpa using hs
  simp [results, h, hp', hs', asAddr, run_loadVar_mid w b 0 26 (kl q.1 q.2) _ hc Try.underlying26 rfl (by rw [kl_len]; exact size23)]
/-- What a subset of a scheme is. -/
theorem sbc_nat {K D E a b : Int} {P Q G : Nat} (h : sbc K D E P Q G a b = 0) : ScOk K D E P Q G ∧ ∃ d v x : Nat, D = (d : Int) ∧ a = (v : Int) ∧ b = (x : Int) ∧ d < 7 ∧ 1 ≤ v ∧ v < 128 ∧ x < 128 ∧ (K ≠ 1 → x ≠ 0 → 1 ≤ x ∧ abv v x = true) ∧ (K = 1 → x = 0) ∧ isb K d (v : Int) (x : Int) = true := by
  obtain ⟨hs, d, v, x, rfl, rfl, rfl, hd, v1, v2, v3, hx⟩ := sbc_zero h
  have hi : isb K d (v : Int) (x : Int) = true := by
    unfold sbc at h
    rw [scb_yes hs] at h
    simp only [Int.toNat_natCast, if_true] at h
    cases hi : isb K d (v : Int) (x : Int) with
    | true => rfl
    | false => simp [hi] at h
  refine ⟨hs, d, v, x, rfl, rfl, rfl, hd, v1, v3, hx, fun h1 h2 => ⟨by omega, isb_facts hi h1 h2⟩, fun h1 => ?_, hi⟩
  have h2 := hi
  unfold isb at h2
  rw [if_pos h1] at h2
  simp only [Bool.and_eq_true, decide_eq_true_eq] at h2
  omega

set_option maxRecDepth 100000 in
set_option maxHeartbeats 400000 in
theorem subsetKey_any (p : Nat × Nat) (K D E a b : Int) (P Q G : Nat) (w : World) (hp : Ok p) (hK0 : 0 ≤ K) (hK1 : K ≤ 255) :
    Calls Try.prog 65 #[.agg (kl p.1 p.2).toArray, .agg #[.int .u8 K, .int .i64 D, .int .i64 E, .int .u64 (P : Int), .int .u64 (Q : Int), .int .u64 (G : Int)], .agg #[.int .i64 a, .int .i64 b]] w fun e w' => e = .returned (.tuple #[.agg (kl (skk p K D E P Q G a b).1 (skk p K D E P Q G a b).2).toArray, .int .i64 (sbc K D E P Q G a b)]) ∧ Below w.heap.size w w' := by
  obtain ⟨N, hN⟩ : ∃ N, N = w.heap.size := ⟨_, rfl⟩
  obtain ⟨W4, hW4⟩ : ∃ W4, W4 = (((w.alloc (.cells (kl p.1 p.2).toArray 26)).alloc (.cells #[.int .u8 K, .int .i64 D, .int .i64 E, .int .u64 (P : Int), .int .u64 (Q : Int), .int .u64 (G : Int)] 45)).alloc (.cells #[.int .i64 a, .int .i64 b] 56)).alloc (.cells z16 26) := ⟨_, rfl⟩
  have s4 : W4.heap.size = N + 4 := by rw [hW4, hN]; simp
  have b4 : Below N w W4 := by rw [hW4, hN]; exact (below_alloc _ _).trans (((below_alloc _ _).mono (by simp)).trans (((below_alloc _ _).mono (by simp; omega)).trans ((below_alloc _ _).mono (by simp; omega))))
  have e1 : Kbx W4 N p := by rw [hW4, hN]; exact (((Blk.new w _ _).keep (below_alloc _ _)).keep (below_alloc _ _)).keep (below_alloc _ _)
  have e2 : Blk W4 (N + 1) #[.int .u8 K, .int .i64 D, .int .i64 E, .int .u64 (P : Int), .int .u64 (Q : Int), .int .u64 (G : Int)] 45 := by
    have h := ((Blk.new (w.alloc (.cells (kl p.1 p.2).toArray 26)) #[.int .u8 K, .int .i64 D, .int .i64 E, .int .u64 (P : Int), .int .u64 (Q : Int), .int .u64 (G : Int)] 45).keep (below_alloc _ (.cells #[.int .i64 a, .int .i64 b] 56))).keep (below_alloc _ (.cells z16 26))
    rw [World.size_alloc, ← hN] at h; rw [hW4]; exact h
  have e3 : Blk W4 (N + 2) #[.int .i64 a, .int .i64 b] 56 := by
    have h := (Blk.new ((w.alloc (.cells (kl p.1 p.2).toArray 26)).alloc (.cells #[.int .u8 K, .int .i64 D, .int .i64 E, .int .u64 (P : Int), .int .u64 (Q : Int), .int .u64 (G : Int)] 45)) #[.int .i64 a, .int .i64 b] 56).keep (below_alloc _ (.cells z16 26))
    rw [World.size_alloc, World.size_alloc, ← hN] at h; rw [hW4]; exact h
  have e4 : Blk W4 (N + 3) z16 26 := by
    have h := Blk.new (((w.alloc (.cells (kl p.1 p.2).toArray 26)).alloc (.cells #[.int .u8 K, .int .i64 D, .int .i64 E, .int .u64 (P : Int), .int .u64 (Q : Int), .int .u64 (G : Int)] 45)).alloc (.cells #[.int .i64 a, .int .i64 b] 56)) z16 26
    rw [World.size_alloc, World.size_alloc, World.size_alloc, ← hN] at h; rw [hW4]; exact h
  have HE := Lib.hid (And.intro s4 (And.intro b4 (And.intro e1 (And.intro e2 (And.intro e3 e4)))))
  have HN := Lib.hid hN
  have HW := Lib.hid hW4
  rw [← hN]
  have c0 : W4.cell? ⟨N + 1, 0, none⟩ = some (.int .u8 K) := e2.cell 0
  have z0 : W4.cell? ⟨N + 2, 0, none⟩ = some (.int .i64 a) := e3.cell 0
  have z1 : W4.cell? ⟨N + 2, 1, none⟩ = some (.int .i64 b) := e3.cell 1
  rw [hW4, hN] at c0 z0 z1
  obtain ⟨q, hq⟩ : ∃ q, q = skk p K D E P Q G a b := ⟨_, rfl⟩
  have HQ := Lib.hid hq
  rw [← hq]
  clear hN hW4 s4 b4 e1 e2 e3 e4 hq
  have c1 : W4.cell? ⟨N + 1, 1, none⟩ = some (.int .i64 D) := HE.out.2.2.2.1.cell 1
  have c2 : W4.cell? ⟨N + 1, 2, none⟩ = some (.int .i64 E) := HE.out.2.2.2.1.cell 2
  have c3 : W4.cell? ⟨N + 1, 3, none⟩ = some (.int .u64 (P : Int)) := HE.out.2.2.2.1.cell 3
  have c4 : W4.cell? ⟨N + 1, 4, none⟩ = some (.int .u64 (Q : Int)) := HE.out.2.2.2.1.cell 4
  have c5 : W4.cell? ⟨N + 1, 5, none⟩ = some (.int .u64 (G : Int)) := HE.out.2.2.2.1.cell 5
  rw [HW.out, HN.out] at c1 c2 c3 c4 c5
  have HEND := Lib.hid (fun (r : Nat × Nat) (w3 : World) (hb : Below W4.heap.size W4 w3) => (⟨by have h := (HE.out.2.2.2.2.2.keep hb).there; simpa using h, Kbx.at_ (Kbx.stored (HE.out.2.2.2.2.2.keep hb) rfl r), below_setCells _ _ _ _ (HE.out.2.1.trans (hb.mono (by rw [HE.out.1]; omega))) (by omega)⟩ : w3.there (N + 3) 0 16 ∧ KeyAt (w3.setCells (N + 3) 0 (kl r.1 r.2)) (N + 3) r.1 r.2 ∧ Below N w (w3.setCells (N + 3) 0 (kl r.1 r.2))))
  have HC := Lib.hid (fun w => checkSubset_any K D E a b P Q G w hK0 hK1)
  have HZ := Lib.hid (fun h => sbc_nat (K := K) (D := D) (E := E) (a := a) (b := b) (P := P) (Q := Q) (G := G) h)
  obtain ⟨c, hc⟩ : ∃ c, c = sbc K D E P Q G a b := ⟨_, rfl⟩
  have HCc := Lib.hid hc
  rw [← hc] at HC HZ ⊢
  clear hK0 hK1 hc
  have HP := Lib.hid hp
  clear hp
  go_enter Try.func65, Try.ntmps65
  go_wp2_with fail
  rw [← HW.out, ← HN.out]
  refine (HC.out _).mono ?_
  rintro e w5 ⟨rfl, hb5⟩
  have HB5 := Lib.hid hb5
  clear hb5 c0 c1 c2 c3 c4 c5 z0 z1
  by_cases h : c = 0
  · obtain ⟨_, d, v, x, rfl, rfl, rfl, hd, v1, v3, hx, hab, hk1, _⟩ := HZ.out h
    have hqk : q = kof K p v x := by rw [HQ.out]; unfold skk; rw [if_pos (by rw [← HCc.out]; exact h)]; rfl
    have HLf := Lib.hid (fun w => labelFor_any p K (d : Int) E P Q G v x w HP.out v1 (by omega) (by omega) (fun h1 h2 => (abv_facts (hab h1 h2).2).2.1))
    have HRc : Hid (∀ w, Calls Try.prog 115 #[.agg (lbl (v : Int) (x : Int) (sky K p v x)).toArray, .agg #[.int .i64 (v : Int), .int .i64 (x : Int)]] w fun e w' => e = .returned (.agg (kl q.1 q.2).toArray) ∧ Below w.heap.size w w') := Lib.hid (fun w => by
      have h1 := reach_any (sky K p v x) (v : Int) (x : Int) (v : Int) x x w (sky_ok K HP.out v x (by omega)) (by omega) (fun h => ⟨rfl, by omega, by omega, Nat.le_refl _⟩)
      rw [rch_self K p v x hk1, ← hqk] at h1
      exact h1)
    obtain ⟨r, hr⟩ : ∃ r, r = sky K p v x := ⟨_, rfl⟩
    rw [← hr] at HLf HRc
    subst h
    have b0 : Below w5.heap.size w5 w5 := Below.refl _ _
    clear hr hqk hd v1 v3 hx hab hk1 b0
    go_wp2_with fail
    refine wp_region_inv (by kernel_rfl) (by kernel_rfl) (fun l a' w' => ∃  (w1 : World), a' = { tmps := #[Value.agg (kl p.fst p.snd).toArray, Value.agg #[Value.int IntKind.u8 K, Value.int IntKind.i64 d, Value.int IntKind.i64 E, Value.int IntKind.u64 P, Value.int IntKind.u64 Q, Value.int IntKind.u64 G], Value.agg #[Value.int IntKind.i64 v, Value.int IntKind.i64 x], Value.pointer (some ⟨N, 0, none⟩), Value.pointer (some ⟨N + 1, 0, none⟩), Value.pointer (some ⟨N + 1 + 1, 0, none⟩), Value.pointer (some ⟨N + 1 + 1 + 1, 0, none⟩), bif l 7 then Value.int IntKind.i64 0 else Value.int .i64 (0 : Int), Value.int .i64 (0 : Int), Value.agg #[Value.int IntKind.u8 K, Value.int IntKind.i64 d, Value.int IntKind.i64 E, Value.int IntKind.u64 P, Value.int IntKind.u64 Q, Value.int IntKind.u64 G], Value.agg #[Value.int IntKind.i64 v, Value.int IntKind.i64 x], Value.int .i64 (0 : Int), Value.int .i64 (0 : Int), Value.bool false, undef, undef, bif l 0 then Value.agg (kl p.1 p.2).toArray else undef, bif l 1 then Value.agg #[Value.int .u8 K, Value.int .i64 (d : Int), Value.int .i64 E, Value.int .u64 (P : Int), Value.int .u64 (Q : Int), Value.int .u64 (G : Int)] else undef, bif l 2 then Value.agg #[Value.int .i64 (v : Int), Value.int .i64 (x : Int)] else undef, bif l 3 then Value.agg (lbl (v : Int) (x : Int) r).toArray else undef, bif l 4 then Value.agg #[Value.int .i64 (v : Int), Value.int .i64 (x : Int)] else undef, bif l 5 then Value.agg (kl q.1 q.2).toArray else undef], defers := [] } ∧ (Below w5.heap.size w5 w1) ∧ w' = (bif l 6 then w1.setCells (N + 3) 0 (kl q.1 q.2) else w1) ∧ (l 6 = true → (l 0 && l 1 && l 2 && l 3 && l 4 && l 5) = true)) ⟨_, rfl, (Below.refl _ _).drew, rfl, (fun h => by cases h)⟩ ?_ ?_
    · rintro l a' w' i ⟨w1, rfl, hB, hw, oS⟩ hi' hli hpre
      have hi2 : i < 8 := hi'
      have hcase : i = 0 ∨ i = 1 ∨ i = 2 ∨ i = 3 ∨ i = 4 ∨ i = 5 ∨ i = 6 ∨ i = 7 := by omega
      clear hi' hi2
      rcases hcase with rfl | rfl | rfl | rfl | rfl | rfl | rfl | rfl
      · -- 0: Op.load 58 (Operand.tmp 3)
        refine wpOp_step rfl (fun K' hK => ?_)
        have nS : l 6 = false := by
          cases h : l 6
          · rfl
          · have := oS h; simp [hli] at this
        rw [nS, cond_false] at hw
        subst hw
        clear hpre
        rw [if_pos (by rfl)]
        refine wp_load_mid 26 _ rfl _ 0 rfl (kl p.1 p.2) _ (Kbx.at_ (HE.out.2.2.1.keep (HB5.out.trans (hB.mono HB5.out.size)))) Try.underlying26 rfl (by rw [kl_len]; exact size23) ?_
        exact hK _ _ ⟨w', by simp [upd, Act.put], hB, by simp [upd, nS], (fun e => absurd e (by simp [upd, nS]))⟩
      · -- 1: Op.load 28 (Operand.tmp 4)
        refine wpOp_step rfl (fun K' hK => ?_)
        have nS : l 6 = false := by
          cases h : l 6
          · rfl
          · have := oS h; simp [hli] at this
        rw [nS, cond_false] at hw
        subst hw
        clear hpre
        rw [if_pos (by rfl)]
        refine wp_load_mid 45 _ rfl _ 0 rfl #[Value.int .u8 K, Value.int .i64 (d : Int), Value.int .i64 E, Value.int .u64 (P : Int), Value.int .u64 (Q : Int), Value.int .u64 (G : Int)].toList _ (HE.out.2.2.2.1.keep (HB5.out.trans (hB.mono HB5.out.size))).range Try.underlying45 rfl sizeSch ?_
        exact hK _ _ ⟨w', by simp [upd, Act.put], hB, by simp [upd, nS], (fun e => absurd e (by simp [upd, nS]))⟩
      · -- 2: Op.load 35 (Operand.tmp 5)
        refine wpOp_step rfl (fun K' hK => ?_)
        have nS : l 6 = false := by
          cases h : l 6
          · rfl
          · have := oS h; simp [hli] at this
        rw [nS, cond_false] at hw
        subst hw
        clear hpre
        rw [if_pos (by rfl)]
        refine wp_load_mid 56 _ rfl _ 0 rfl #[Value.int .i64 (v : Int), Value.int .i64 (x : Int)].toList _ (HE.out.2.2.2.2.1.keep (HB5.out.trans (hB.mono HB5.out.size))).range Try.underlying56 rfl sizeSub ?_
        exact hK _ _ ⟨w', by simp [upd, Act.put], hB, by simp [upd, nS], (fun e => absurd e (by simp [upd, nS]))⟩
      · -- 3: Op.call { callee := Callee.value (Operand.func 95), args := 
        have p0 : l 0 = true := hpre _ rfl ⟨0, .data⟩ (by simp) rfl
        have p1 : l 1 = true := hpre _ rfl ⟨1, .data⟩ (by simp) rfl
        have p2 : l 2 = true := hpre _ rfl ⟨2, .data⟩ (by simp) rfl
        refine wpOp_step rfl (fun K' hK => ?_)
        have nS : l 6 = false := by
          cases h : l 6
          · rfl
          · have := oS h; simp [hli] at this
        rw [nS, cond_false] at hw
        subst hw
        simp only [p0, p1, p2, cond_true, cond_false]
        clear hpre
        rw [if_pos (by rfl)]
        go_simp
        refine (HLf.out _).mono ?_
        rintro e w6 ⟨rfl, hb5⟩
        exact hK _ _ ⟨w6, by simp [upd, Act.put, p0, p1, p2], (hB).trans (hb5.mono (hB).size), by simp [upd, nS], (fun e => absurd e (by simp [upd, nS]))⟩
      · -- 4: Op.load 35 (Operand.tmp 5)
        refine wpOp_step rfl (fun K' hK => ?_)
        have nS : l 6 = false := by
          cases h : l 6
          · rfl
          · have := oS h; simp [hli] at this
        rw [nS, cond_false] at hw
        subst hw
        clear hpre
        rw [if_pos (by rfl)]
        refine wp_load_mid 56 _ rfl _ 0 rfl #[Value.int .i64 (v : Int), Value.int .i64 (x : Int)].toList _ (HE.out.2.2.2.2.1.keep (HB5.out.trans (hB.mono HB5.out.size))).range Try.underlying56 rfl sizeSub ?_
        exact hK _ _ ⟨w', by simp [upd, Act.put], hB, by simp [upd, nS], (fun e => absurd e (by simp [upd, nS]))⟩
      · -- 5: Op.call { callee := Callee.value (Operand.func 98), args := 
        have p3 : l 3 = true := hpre _ rfl ⟨3, .data⟩ (by simp) rfl
        have p4 : l 4 = true := hpre _ rfl ⟨4, .data⟩ (by simp) rfl
        refine wpOp_step rfl (fun K' hK => ?_)
        have nS : l 6 = false := by
          cases h : l 6
          · rfl
          · have := oS h; simp [hli] at this
        rw [nS, cond_false] at hw
        subst hw
        simp only [p3, p4, cond_true, cond_false]
        clear hpre
        rw [if_pos (by rfl)]
        go_simp
        refine (HRc.out _).mono ?_
        rintro e w6 ⟨rfl, hb5⟩
        exact hK _ _ ⟨w6, by simp [upd, Act.put, p3, p4], (hB).trans (hb5.mono (hB).size), by simp [upd, nS], (fun e => absurd e (by simp [upd, nS]))⟩
      · -- 6: Op.store 58 (Operand.tmp 6) (Operand.tmp 21)
        have p5 : l 5 = true := hpre _ rfl ⟨5, .data⟩ (by simp) rfl
        have p0 : l 0 = true := hpre _ rfl ⟨0, .phase⟩ (by simp) rfl
        have p1 : l 1 = true := hpre _ rfl ⟨1, .phase⟩ (by simp) rfl
        have p2 : l 2 = true := hpre _ rfl ⟨2, .phase⟩ (by simp) rfl
        have p3 : l 3 = true := hpre _ rfl ⟨3, .phase⟩ (by simp) rfl
        have p4 : l 4 = true := hpre _ rfl ⟨4, .phase⟩ (by simp) rfl
        refine wpOp_step rfl (fun K' hK => ?_)
        have nS : l 6 = false := hli
        rw [nS, cond_false] at hw
        subst hw
        simp only [p5, p0, p1, p2, p3, p4, cond_true, cond_false]
        clear hpre
        rw [if_pos (by rfl)]
        refine wp_store_mid 26 _ _ rfl (N + 3) 0 (kl q.1 q.2).toArray rfl rfl (by have h := (HEND.out q _ (HB5.out.trans (hB.mono HB5.out.size))).1; simpa [kl_len] using h) (by simp [kl_len, size23]) (kl_arr _ _) ?_
        rw [List.toList_toArray]
        exact hK _ _ ⟨w', by simp [upd, Act.put, p5, p0, p1, p2, p3, p4], hB, by simp [upd], (fun _ => by simp [upd, p5, p0, p1, p2, p3, p4])⟩
      · -- 7: Op.assign (Operand.const (Value.int IntKind.i64 0))
        have p6 : l 6 = true := hpre _ rfl ⟨6, .chain⟩ (by simp) rfl
        have p0 : l 0 = true := hpre _ rfl ⟨0, .phase⟩ (by simp) rfl
        have p1 : l 1 = true := hpre _ rfl ⟨1, .phase⟩ (by simp) rfl
        have p2 : l 2 = true := hpre _ rfl ⟨2, .phase⟩ (by simp) rfl
        have p3 : l 3 = true := hpre _ rfl ⟨3, .phase⟩ (by simp) rfl
        have p4 : l 4 = true := hpre _ rfl ⟨4, .phase⟩ (by simp) rfl
        have p5 : l 5 = true := hpre _ rfl ⟨5, .phase⟩ (by simp) rfl
        refine wpOp_step rfl (fun K' hK => ?_)
        simp only [p6, p0, p1, p2, p3, p4, p5, cond_true, cond_false]
        clear hpre
        rw [if_pos (by rfl)]
        have Hhw := Lib.hid hw
        clear hw
        go_simp
        exact hK _ _ ⟨w1, by simp [upd, Act.put, p6, p0, p1, p2, p3, p4, p5], hB, Hhw.out, (fun e => oS e)⟩
    · rintro l a' w9 hall ⟨w1, rfl, hB, hw, oS⟩
      rw [hall 6 (by decide), cond_true] at hw
      subst hw
      simp only [hall 0 (by decide), hall 1 (by decide), hall 2 (by decide), hall 3 (by decide), hall 4 (by decide), hall 5 (by decide), hall 7 (by decide), cond_true]
      clear hall oS
      have H3 := Lib.hid (HEND.out q w1 (HB5.out.trans (hB.mono HB5.out.size)))
      clear hB
      go_wp2_with fail
      exact bodyPost_ret (results_keye rfl _ _ (N + 3) q _ rfl rfl H3.out.2.1) rfl ⟨rfl, H3.out.2.2⟩
  · have hcn : (c == 0) = false := beq_eq_false_iff_ne.2 h
    have hq0 : q = (0, 0) := by rw [HQ.out]; unfold skk; rw [if_neg (by rw [← HCc.out]; exact h)]
    subst hq0
    have H3 := Lib.hid (HEND.out (0, 0) w5 HB5.out)
    go_wp2_with (first
      | ((with_reducible show wpList _ _ _ (Oper.mk _ (Op.build 26 _) _ _ _ _ :: _) _ _); refine wpList_buildKey0 rfl rfl ?_)
      | ((with_reducible show wpList _ _ _ (Oper.mk _ (Op.store 26 _ _) _ _ _ _ :: _) _ _); refine wpList_store_key rfl _ _ rfl (N + 3) _ _ rfl rfl H3.out.1 ?_))
    exact bodyPost_ret (results_keye rfl _ _ (N + 3) (0, 0) _ rfl rfl H3.out.2.1) rfl ⟨rfl, H3.out.2.2⟩

end Go.Proofs.Ytchkgccnipejhaa

/-
  Whether a label leads to the key of a subset.
-/
namespace Go.Proofs.Ytchkgccnipejhaa
open Go.RowKit TR L2 L2.SP
set_option linter.unusedVariables false
set_option linter.unusedSimpArgs false

/-- Whether a label of the nodes a, b leads to the key of (v, x). -/
def ldb (d : Nat) (a b : Int) (v x : Nat) : Bool := decide (a = (v : Int)) && (if x = 0 then decide (b = 0) else (hsn d b && (abv v b.toNat && abv b.toNat x)))

set_option maxRecDepth 100000 in
set_option maxHeartbeats 200000 in
theorem refBelow_lt (x : Nat) (b : Int) (w : World) (hb : (x : Int) < b) :
    Calls Try.prog 36 #[.int .i64 (x : Int), .int .i64 b] w fun e w' => e = .returned (.bool false) ∧ w = w' := by
  have l1 : ¬ (b < (x : Int)) := by omega
  have l2 : ((x : Int) == b) = false := beq_eq_false_iff_ne.2 (by omega)
  have l3 : ¬ ((x : Int) = b) := by omega
  go_enter Try.func36, Try.ntmps36
  go_wp2_with fail
  refine wp_loop_rounds 1 ?_
  rw [rounds_succ]
  go_wp2
  go_ret
  exact ⟨rfl, rfl⟩

set_option maxRecDepth 100000 in
set_option maxHeartbeats 200000 in
theorem refBelow_bool (n v : Nat) (w : World) (hv : 1 ≤ v) (hn : n < 9223372036854775808) :
    Calls Try.prog 36 #[.int .i64 (n : Int), .int .i64 (v : Int)] w fun e w' => (∃ r : Bool, e = .returned (.bool r)) ∧ w = w' := by
  go_enter Try.func36, Try.ntmps36
  go_wp2_with fail
  go_loop [0] (fun y => ∃ (a : Nat), a ≤ n ∧ y = .int .i64 (a : Int)) (fun y => (intOf y).toNat)
  case atStart => exact ⟨n, Nat.le_refl _, rfl⟩
  case round =>
    obtain ⟨a, ha, rfl⟩ := hrel
    by_cases h : v < a
    · go_wp2_with fail
      go_roundw
      case rel => exact ⟨a / 2, by omega, by go_num⟩
      case measure => simp [intOf]; omega
    · go_wp2_with fail
      go_ret
      refine ⟨?_, rfl⟩
      cases hh : ((a : Int) == (v : Int))
      · exact .inl rfl
      · exact .inr rfl

theorem abv_le {v x : Nat} (h : abv v x = true) : v ≤ x := by
  have h1 := (abv_facts h).2.2
  rw [← h1]; exact Nat.shiftRight_le _ _
theorem ldb_ne {d v x : Nat} {a b : Int} (h : a ≠ (v : Int)) : ldb d a b v x = false := by unfold ldb; rw [decide_eq_false h]; rfl
theorem ldb_zero (d v : Nat) (b : Int) : ldb d (v : Int) b v 0 = decide (b = 0) := by unfold ldb; simp
theorem ldb_neg {d v x : Nat} {b : Int} (hx : x ≠ 0) (h : ¬ 1 ≤ b) : ldb d (v : Int) b v x = false := by
  have h1 : hsn d b = false := decide_eq_false (by omega)
  unfold ldb; rw [if_neg hx, h1]; simp
theorem ldb_low {d v x n : Nat} (hx : x ≠ 0) (hx2 : x < 2 ^ (d + 1)) (h1 : 1 ≤ n) : ldb d (v : Int) (n : Int) v x = (abv v n && abv n x) := by
  unfold ldb
  rw [if_neg hx, Int.toNat_natCast]
  cases h2 : abv n x with
  | false => simp
  | true =>
    have h3 : hsn d (n : Int) = true := decide_eq_true ⟨by omega, by have := abv_le h2; omega⟩
    rw [h3]; simp
theorem ldb_high {d v x n : Nat} (hx : x ≠ 0) (hd : d < 7) (h1 : 128 ≤ n) : ldb d (v : Int) (n : Int) v x = false := by
  have h2 : 2 ^ (d + 1) ≤ 128 := by rcases (by omega : d = 0 ∨ d = 1 ∨ d = 2 ∨ d = 3 ∨ d = 4 ∨ d = 5 ∨ d = 6) with rfl | rfl | rfl | rfl | rfl | rfl | rfl <;> decide
  have h3 : hsn d (n : Int) = false := decide_eq_false (by omega)
  unfold ldb; rw [if_neg hx, h3]; simp

set_option maxRecDepth 100000 in
set_option maxHeartbeats 400000 in
theorem leads_any (K E a b : Int) (d P Q G v x : Nat) (w : World) (hd : d < 7) (hv1 : 1 ≤ v) (hv : v < 128) (hx : x < 128) (hx1 : x ≠ 0 → 1 ≤ x) :
    Calls Try.prog 96 #[.agg #[.int .u8 K, .int .i64 (d : Int), .int .i64 E, .int .u64 (P : Int), .int .u64 (Q : Int), .int .u64 (G : Int)], .agg #[.int .i64 a, .int .i64 b], .agg #[.int .i64 (v : Int), .int .i64 (x : Int)]] w fun e w' => e = .returned (.bool (ldb d a b v x)) ∧ Below w.heap.size w w' := by
  obtain ⟨N, hN⟩ : ∃ N, N = w.heap.size := ⟨_, rfl⟩
  obtain ⟨W3, hW3⟩ : ∃ W3, W3 = ((w.alloc (.cells #[.int .u8 K, .int .i64 (d : Int), .int .i64 E, .int .u64 (P : Int), .int .u64 (Q : Int), .int .u64 (G : Int)] 45)).alloc (.cells #[.int .i64 a, .int .i64 b] 56)).alloc (.cells #[.int .i64 (v : Int), .int .i64 (x : Int)] 56) := ⟨_, rfl⟩
  have s3 : W3.heap.size = N + 3 := by rw [hW3, hN]; simp
  have b3 : Below N w W3 := by rw [hW3, hN]; exact (below_alloc _ _).trans (((below_alloc _ _).mono (by simp)).trans ((below_alloc _ _).mono (by simp; omega)))
  have e1 : Blk W3 N #[.int .u8 K, .int .i64 (d : Int), .int .i64 E, .int .u64 (P : Int), .int .u64 (Q : Int), .int .u64 (G : Int)] 45 := by rw [hW3, hN]; exact ((Blk.new w _ _).keep (below_alloc _ _)).keep (below_alloc _ _)
  have e2 : Blk W3 (N + 1) #[.int .i64 a, .int .i64 b] 56 := by
    have h := (Blk.new (w.alloc (.cells #[.int .u8 K, .int .i64 (d : Int), .int .i64 E, .int .u64 (P : Int), .int .u64 (Q : Int), .int .u64 (G : Int)] 45)) #[.int .i64 a, .int .i64 b] 56).keep (below_alloc _ (.cells #[.int .i64 (v : Int), .int .i64 (x : Int)] 56))
    rw [World.size_alloc, ← hN] at h; rw [hW3]; exact h
  have e3 : Blk W3 (N + 2) #[.int .i64 (v : Int), .int .i64 (x : Int)] 56 := by
    have h := Blk.new ((w.alloc (.cells #[.int .u8 K, .int .i64 (d : Int), .int .i64 E, .int .u64 (P : Int), .int .u64 (Q : Int), .int .u64 (G : Int)] 45)).alloc (.cells #[.int .i64 a, .int .i64 b] 56)) #[.int .i64 (v : Int), .int .i64 (x : Int)] 56
    rw [World.size_alloc, World.size_alloc, ← hN] at h; rw [hW3]; exact h
  have HE : Hid (W3.heap.size = N + 3 ∧ Below N w W3 ∧ Blk W3 N #[.int .u8 K, .int .i64 (d : Int), .int .i64 E, .int .u64 (P : Int), .int .u64 (Q : Int), .int .u64 (G : Int)] 45 ∧ Blk W3 (N + 1) #[.int .i64 a, .int .i64 b] 56 ∧ Blk W3 (N + 2) #[.int .i64 (v : Int), .int .i64 (x : Int)] 56) := Lib.hid ⟨s3, b3, e1, e2, e3⟩
  have HN := Lib.hid hN
  have HW := Lib.hid hW3
  rw [← hN]
  have c0 : W3.cell? ⟨N, 0, none⟩ = some (.int .u8 K) := e1.cell 0
  have c1 : W3.cell? ⟨N, 1, none⟩ = some (.int .i64 (d : Int)) := e1.cell 1
  have c2 : W3.cell? ⟨N, 2, none⟩ = some (.int .i64 E) := e1.cell 2
  have c3 : W3.cell? ⟨N, 3, none⟩ = some (.int .u64 (P : Int)) := e1.cell 3
  have c4 : W3.cell? ⟨N, 4, none⟩ = some (.int .u64 (Q : Int)) := e1.cell 4
  have c5 : W3.cell? ⟨N, 5, none⟩ = some (.int .u64 (G : Int)) := e1.cell 5
  have y0 : W3.cell? ⟨N + 1, 0, none⟩ = some (.int .i64 a) := e2.cell 0
  have y1 : W3.cell? ⟨N + 1, 1, none⟩ = some (.int .i64 b) := e2.cell 1
  have z0 : W3.cell? ⟨N + 2, 0, none⟩ = some (.int .i64 (v : Int)) := e3.cell 0
  have z1 : W3.cell? ⟨N + 2, 1, none⟩ = some (.int .i64 (x : Int)) := e3.cell 1
  rw [hW3, hN] at c0 c1 c2 c3 c4 c5 y0 y1 z0 z1
  clear hN hW3 s3 b3 e1 e2 e3
  obtain ⟨r, hr⟩ : ∃ r, r = ldb d a b v x := ⟨_, rfl⟩
  have HR := Lib.hid hr
  rw [← hr]
  clear hr
  by_cases hx0 : x = 0
  · have hxi : ((x : Int) == 0) = true := beq_iff_eq.2 (by omega)
    have HF : Hid (Below N w (((w.alloc (.cells #[.int .u8 K, .int .i64 (d : Int), .int .i64 E, .int .u64 (P : Int), .int .u64 (Q : Int), .int .u64 (G : Int)] 45)).alloc (.cells #[.int .i64 a, .int .i64 b] 56)).alloc (.cells #[.int .i64 (v : Int), .int .i64 (x : Int)] 56))) := Lib.hid (by rw [← HW.out]; exact HE.out.2.1)
    have HRb : Hid (r = ((a == (v : Int)) && (b == (x : Int)))) := Lib.hid (by
      rw [HR.out]; unfold ldb; rw [if_pos hx0, hx0]
      by_cases h0 : a = (v : Int) <;> by_cases h1 : b = 0 <;> simp [h0, h1])
    clear hx0 hx hx1 hv hv1 hd
    by_cases h0 : a = (v : Int)
    · subst h0
      by_cases h1 : b = (x : Int)
      · subst h1
        go_enter Try.func96, Try.ntmps96
        go_wp2_with fail
        go_ret
        exact ⟨by rw [HRb.out]; simp, HF.out⟩
      · have e1 : (b == (x : Int)) = false := beq_eq_false_iff_ne.2 h1
        go_enter Try.func96, Try.ntmps96
        go_wp2_with fail
        go_ret
        exact ⟨by rw [HRb.out, e1]; simp, HF.out⟩
    · have e0 : (a == (v : Int)) = false := beq_eq_false_iff_ne.2 h0
      go_enter Try.func96, Try.ntmps96
      go_wp2_with fail
      go_ret
      exact ⟨by rw [HRb.out, e0]; simp, HF.out⟩
  · have hxn : ((x : Int) == 0) = false := beq_eq_false_iff_ne.2 (by omega)
    by_cases ha : a = (v : Int)
    · subst ha
      have ha1 : (((v : Nat) : Int) == (v : Int)) = true := beq_self_eq_true _
      have HH := Lib.hid (fun w => hasNode_any K E b d P Q G w hd)
      by_cases hh : hsn d b = true
      · obtain ⟨n, rfl, n1, n2, n3⟩ := hsn_nat hd hh
        have HB1 := Lib.hid (fun w => isAbove_any v n w (by omega) n1 (by omega))
        have HB2 := Lib.hid (fun w => isAbove_any n x w (by omega) (hx1 hx0) (by omega))
        have HRb : Hid (r = (abv v n && abv n x)) := Lib.hid (by rw [HR.out]; unfold ldb; rw [if_neg hx0, hh, Int.toNat_natCast]; simp)
        rw [hh] at HH
        clear hx0 hx hx1 hv hv1 hd hh n1 n2 n3
        go_enter Try.func96, Try.ntmps96
        go_wp2_with fail
        rw [← HW.out, ← HN.out]
        refine (HH.out _).mono ?_
        rintro e w4 ⟨rfl, hb4⟩
        have HF : Hid (Below N w w4) := Lib.hid (HE.out.2.1.trans (hb4.mono (by rw [HE.out.1]; omega)))
        have z0 : w4.cell? ⟨N + 2, 0, none⟩ = some (.int .i64 (v : Int)) := (HE.out.2.2.2.2.keep hb4).cell 0
        have z1 : w4.cell? ⟨N + 2, 1, none⟩ = some (.int .i64 (x : Int)) := (HE.out.2.2.2.2.keep hb4).cell 1
        clear c0 c1 c2 c3 c4 c5 y0 y1 hb4
        cases hA : abv v n with
        | false =>
          rw [hA] at HB1 HRb
          go_wp2_with fail
          refine (HB1.out _).mono ?_
          rintro e w3 ⟨rfl, rfl⟩
          go_wp2_with fail
          go_ret
          exact ⟨by rw [HRb.out]; rfl, HF.out⟩
        | true =>
          rw [hA] at HB1 HRb
          go_wp2_with fail
          refine (HB1.out _).mono ?_
          rintro e w3 ⟨rfl, rfl⟩
          go_wp2_with fail
          refine (HB2.out _).mono ?_
          rintro e w3 ⟨rfl, rfl⟩
          go_wp2_with fail
          go_ret
          exact ⟨by rw [HRb.out]; rfl, HF.out⟩
      · have hh : hsn d b = false := by simpa using hh
        have HRb : Hid (r = false) := Lib.hid (by rw [HR.out]; unfold ldb; rw [if_neg hx0, hh]; simp)
        rw [hh] at HH
        clear hx0 hx hx1 hv hv1 hd hh
        go_enter Try.func96, Try.ntmps96
        go_wp2_with fail
        rw [← HW.out, ← HN.out]
        refine (HH.out _).mono ?_
        rintro e w4 ⟨rfl, hb4⟩
        have HF : Hid (Below N w w4) := Lib.hid (HE.out.2.1.trans (hb4.mono (by rw [HE.out.1]; omega)))
        clear c0 c1 c2 c3 c4 c5 y0 y1 z0 z1 hb4
        go_wp2_with fail
        go_ret
        exact ⟨by rw [HRb.out]; rfl, HF.out⟩
    · have ha1 : (a == (v : Int)) = false := beq_eq_false_iff_ne.2 ha
      have HRb : Hid (r = false) := Lib.hid (by rw [HR.out]; exact ldb_ne ha)
      have HF : Hid (Below N w (((w.alloc (.cells #[.int .u8 K, .int .i64 (d : Int), .int .i64 E, .int .u64 (P : Int), .int .u64 (Q : Int), .int .u64 (G : Int)] 45)).alloc (.cells #[.int .i64 a, .int .i64 b] 56)).alloc (.cells #[.int .i64 (v : Int), .int .i64 (x : Int)] 56))) := Lib.hid (by rw [← HW.out]; exact HE.out.2.1)
      clear hx0 ha hx hx1 hv1 hv hd
      go_enter Try.func96, Try.ntmps96
      go_wp2_with fail
      go_ret
      exact ⟨by rw [HRb.out]; rfl, HF.out⟩
end Go.Proofs.Ytchkgccnipejhaa

/-
  The key to which a secret leads, the specification's.
-/
namespace Go.Proofs.Ytchkgccnipejhaa
open Go.RowKit TR L2 L2.SP
set_option linter.unusedVariables false
set_option linter.unusedSimpArgs false

/-- A secret in four cells, with a share. -/
abbrev sg (r : Int) (v : Value) (s t : Int) : Array Value := #[.int .i64 r, v, .int .u64 s, .int .u64 t]
/-- What the search of the labels F finds: the first that leads to the key of (v, x). -/
def FndR (d : Nat) (F : Nat → Int × Int × (Nat × Nat)) (v x n : Nat) (f : Bool) (q : Nat × Nat) : Prop :=
  (∃ k, k < n ∧ ldb d (F k).1 (F k).2.1 v x = true ∧ (∀ i, i < k → ldb d (F i).1 (F i).2.1 v x = false) ∧ f = true ∧ q = rch (F k).2.2 (F k).2.1.toNat x) ∨ ((∀ i, i < n → ldb d (F i).1 (F i).2.1 v x = false) ∧ f = false ∧ q = (0, 0))
/-- The answer of that search. -/
def LdsE (d : Nat) (F : Nat → Int × Int × (Nat × Nat)) (v x n : Nat) (e : Ending) : Prop := ∃ f q, e = .returned (.tuple #[.agg (kl q.1 q.2).toArray, .bool f]) ∧ FndR d F v x n f q
theorem LdsE.mk' {d : Nat} {F : Nat → Int × Int × (Nat × Nat)} {v x n : Nat} {e : Ending} (f : Bool) (q : Nat × Nat) (h : e = .returned (.tuple #[.agg (kl q.1 q.2).toArray, .bool f])) (h2 : FndR d F v x n f q) : LdsE d F v x n e := ⟨f, q, h, h2⟩
theorem FndR.same {d : Nat} {F : Nat → Int × Int × (Nat × Nat)} {v x n : Nat} {f1 f2 : Bool} {q1 q2 : Nat × Nat} (h1 : FndR d F v x n f1 q1) (h2 : FndR d F v x n f2 q2) : f1 = f2 ∧ q1 = q2 := by
  rcases h1 with ⟨k, hk, a1, a2, rfl, rfl⟩ | ⟨a, rfl, rfl⟩ <;> rcases h2 with ⟨k2, hk2, b1, b2, rfl, rfl⟩ | ⟨b, rfl, rfl⟩
  · rcases Nat.lt_trichotomy k k2 with h | rfl | h
    · rw [b2 k h] at a1; cases a1
    · exact ⟨rfl, rfl⟩
    · rw [a2 k2 h] at b1; cases b1
  · rw [b k hk] at a1; cases a1
  · rw [a k2 hk2] at b1; cases b1
  · exact ⟨rfl, rfl⟩
theorem ldb_facts {d v x : Nat} {a b : Int} (hd : d < 7) (h : ldb d a b v x = true) (hx : x ≠ 0) : ∃ m : Nat, b = (m : Int) ∧ 1 ≤ m ∧ m < 128 ∧ abv m x = true := by
  unfold ldb at h
  rw [if_neg hx] at h
  simp only [Bool.and_eq_true] at h
  obtain ⟨n, rfl, n1, n2, n3⟩ := hsn_nat hd h.2.1
  exact ⟨n, rfl, n1, n3, by have := h.2.2.2; rwa [Int.toNat_natCast] at this⟩
theorem wpList_load_labo {ops : Array Oper} {rest : List Oper} {op : Oper} {a : Act} {w : World} {Q : Exit → Act → World → Prop} (hgd : op.guard = none) (x : Operand) (ho : op.op = .load 82 x)
    (b o : Nat) (hx : a.eval x = .pointer (some ⟨b, o, none⟩)) (v z : Int) (p : Nat × Nat) (hc : w.rangeAt b o (lbl v z p))
    (h : wpList Try.prog ops Q rest (a.put op.dst (.agg (lbl v z p).toArray)) w) : wpList Try.prog ops Q (op :: rest) a w :=
  wpList_load_mid hgd 82 x ho b o hx (lbl v z p) _ hc Try.underlying82 rfl (by rw [lbl_len]; exact sizeLab) h

end Go.Proofs.Ytchkgccnipejhaa

/-
  Find, the specification's.
-/
namespace Go.Proofs.Ytchkgccnipejhaa
open Go.RowKit TR L2 L2.SP
set_option linter.unusedVariables false
set_option linter.unusedSimpArgs false

/-- What Find answers. -/
def FdE (K D E a b : Int) (P Q G : Nat) (F : Nat → Int × Int × (Nat × Nat)) (n : Nat) (e : Ending) : Prop :=
  (sbc K D E P Q G a b ≠ 0 ∧ e = .returned (.tuple #[.agg (kl 0 0).toArray, .int .i64 (sbc K D E P Q G a b)])) ∨
  (sbc K D E P Q G a b = 0 ∧ ∃ f q, FndR D.toNat F a.toNat b.toNat n f q ∧ e = .returned (.tuple #[.agg (kl q.1 q.2).toArray, .int .i64 (if f then 0 else 6)]))
theorem FdE.bad {K D E a b : Int} {P Q G : Nat} {F : Nat → Int × Int × (Nat × Nat)} {n : Nat} {e : Ending} (c : Int) (h : sbc K D E P Q G a b = c) (h0 : c ≠ 0) (he : e = .returned (.tuple #[.agg (kl 0 0).toArray, .int .i64 c])) : FdE K D E a b P Q G F n e := .inl ⟨by rw [h]; exact h0, by rw [h]; exact he⟩
theorem FdE.good {K E : Int} {d v x P Q G : Nat} {F : Nat → Int × Int × (Nat × Nat)} {n : Nat} {e : Ending} (f : Bool) (q : Nat × Nat) (h : sbc K (d : Int) E P Q G (v : Int) (x : Int) = 0) (hr : FndR d F v x n f q) (he : e = .returned (.tuple #[.agg (kl q.1 q.2).toArray, .int .i64 (if f then 0 else 6)])) : FdE K (d : Int) E (v : Int) (x : Int) P Q G F n e := .inr ⟨h, f, q, hr, he⟩
theorem wpList_load_sg {ops : Array Oper} {rest : List Oper} {op : Oper} {a : Act} {w : World} {Q : Exit → Act → World → Prop} (hgd : op.guard = none) (x : Operand) (ho : op.op = .load 72 x)
    (b : Nat) (hx : a.eval x = .pointer (some ⟨b, 0, none⟩)) (r s t : Int) (v : Value) (hc : Blk w b (sg r v s t) 72)
    (h : wpList Try.prog ops Q rest (a.put op.dst (.agg (sg r v s t))) w) : wpList Try.prog ops Q (op :: rest) a w :=
  wpList_load_mid hgd 72 x ho b 0 hx (sg r v s t).toList _ hc.range Try.underlying72 rfl sizeSec (by simpa using h)

end Go.Proofs.Ytchkgccnipejhaa

/-
  Find, the program's.
-/
namespace Go.Proofs.Ytchkgccnipejhaa
open Go.RowKit TR L2 L2.SP
set_option linter.unusedVariables false
set_option linter.unusedSimpArgs false

set_option maxRecDepth 100000 in
set_option maxHeartbeats 200000 in
theorem place_any (a b : Int) (q : Nat × Nat) (w : World) :
    Calls Try.prog 116 #[.agg (lbl a b q).toArray] w fun e w' => e = .returned (.agg #[.int .i64 a, .int .i64 b]) ∧ Below w.heap.size w w' := by
  obtain ⟨W2, hW2⟩ : ∃ W2, W2 = (w.alloc (.cells (lbl a b q).toArray 82)).alloc (.cells #[.int .i64 0, .int .i64 0] 56) := ⟨_, rfl⟩
  have e1 : Lbx W2 w.heap.size a b q := by rw [hW2]; exact (Blk.new w _ _).keep (below_alloc _ _)
  have l0 : W2.cell? ⟨w.heap.size, 0, none⟩ = some (.int .i64 a) := e1.cell 0
  have l1 : W2.cell? ⟨w.heap.size, 1, none⟩ = some (.int .i64 b) := e1.cell 1
  have hb : Below w.heap.size w W2 := by rw [hW2]; exact (below_alloc _ _).trans ((below_alloc _ _).mono (by simp))
  rw [hW2] at l0 l1 hb
  have HB := Lib.hid hb
  clear hW2 e1 hb
  go_enter Try.func116, Try.ntmps116
  go_wp2_with fail
  exact bodyPost_sub rfl (w.heap.size + 1) _ _ rfl (by simp) (by simp) rfl ⟨rfl, (below_alloc _ _).trans ((below_alloc _ _).mono (by simp))⟩

set_option maxRecDepth 100000 in
set_option maxHeartbeats 400000 in
theorem find_any (K D E a b r s t : Int) (P Q G : Nat) (A : Option Addr) (g o n m : Nat) (F : Nat → Int × Int × (Nat × Nat)) (w : World) (hK0 : 0 ≤ K) (hK1 : K ≤ 255)
    (hn : n ≤ 9223372036854775807) (hnm : n ≤ m) (had : n = 0 ∨ A = some ⟨g, o, none⟩) (hF : ∀ i, i < n → w.rangeAt g (o + i * 18) (lbl (F i).1 (F i).2.1 (F i).2.2) ∧ (F i).2.1 < 9223372036854775808 ∧ Ok (F i).2.2) :
    Calls Try.prog 66 #[.agg #[.int .u8 K, .int .i64 D, .int .i64 E, .int .u64 (P : Int), .int .u64 (Q : Int), .int .u64 (G : Int)], .agg (sg r (.slice A n m) s t), .agg #[.int .i64 a, .int .i64 b]] w fun e w' => FdE K D E a b P Q G F n e ∧ Below w.heap.size w w' := by
  obtain ⟨N, hN⟩ : ∃ N, N = w.heap.size := ⟨_, rfl⟩
  obtain ⟨W4, hW4⟩ : ∃ W4, W4 = (((w.alloc (.cells #[.int .u8 K, .int .i64 D, .int .i64 E, .int .u64 (P : Int), .int .u64 (Q : Int), .int .u64 (G : Int)] 45)).alloc (.cells (sg r (.slice A n m) s t) 72)).alloc (.cells #[.int .i64 a, .int .i64 b] 56)).alloc (.cells z16 26) := ⟨_, rfl⟩
  have s4 : W4.heap.size = N + 4 := by rw [hW4, hN]; simp
  have b4 : Below N w W4 := by rw [hW4, hN]; exact (below_alloc _ _).trans (((below_alloc _ _).mono (by simp)).trans (((below_alloc _ _).mono (by simp; omega)).trans ((below_alloc _ _).mono (by simp; omega))))
  have e1 : Blk W4 N #[.int .u8 K, .int .i64 D, .int .i64 E, .int .u64 (P : Int), .int .u64 (Q : Int), .int .u64 (G : Int)] 45 := by rw [hW4, hN]; exact (((Blk.new w _ _).keep (below_alloc _ _)).keep (below_alloc _ _)).keep (below_alloc _ _)
  have e2 : Blk W4 (N + 1) (sg r (.slice A n m) s t) 72 := by
    have h := ((Blk.new (w.alloc (.cells #[.int .u8 K, .int .i64 D, .int .i64 E, .int .u64 (P : Int), .int .u64 (Q : Int), .int .u64 (G : Int)] 45)) (sg r (.slice A n m) s t) 72).keep (below_alloc _ (.cells #[.int .i64 a, .int .i64 b] 56))).keep (below_alloc _ (.cells z16 26))
    rw [World.size_alloc, ← hN] at h; rw [hW4]; exact h
  have e3 : Blk W4 (N + 2) #[.int .i64 a, .int .i64 b] 56 := by
    have h := (Blk.new ((w.alloc (.cells #[.int .u8 K, .int .i64 D, .int .i64 E, .int .u64 (P : Int), .int .u64 (Q : Int), .int .u64 (G : Int)] 45)).alloc (.cells (sg r (.slice A n m) s t) 72)) #[.int .i64 a, .int .i64 b] 56).keep (below_alloc _ (.cells z16 26))
    rw [World.size_alloc, World.size_alloc, ← hN] at h; rw [hW4]; exact h
  have e4 : Blk W4 (N + 3) z16 26 := by
    have h := Blk.new (((w.alloc (.cells #[.int .u8 K, .int .i64 D, .int .i64 E, .int .u64 (P : Int), .int .u64 (Q : Int), .int .u64 (G : Int)] 45)).alloc (.cells (sg r (.slice A n m) s t) 72)).alloc (.cells #[.int .i64 a, .int .i64 b] 56)) z16 26
    rw [World.size_alloc, World.size_alloc, World.size_alloc, ← hN] at h; rw [hW4]; exact h
  have HE : Hid (W4.heap.size = N + 4 ∧ Below N w W4 ∧ Blk W4 N #[.int .u8 K, .int .i64 D, .int .i64 E, .int .u64 (P : Int), .int .u64 (Q : Int), .int .u64 (G : Int)] 45 ∧ Blk W4 (N + 1) (sg r (.slice A n m) s t) 72 ∧ Blk W4 (N + 2) #[.int .i64 a, .int .i64 b] 56 ∧ Blk W4 (N + 3) z16 26) := Lib.hid ⟨s4, b4, e1, e2, e3, e4⟩
  have HFr : Hid (∀ w1, Below N w w1 → ∀ i, i < n → w1.rangeAt g (o + i * 18) (lbl (F i).1 (F i).2.1 (F i).2.2) ∧ (F i).2.1 < 9223372036854775808 ∧ Ok (F i).2.2) := Lib.hid (fun w1 hb i hi => by
    have hl : g < N := by rw [hN]; exact World.block_lt_of_cell? w _ ((hF i hi).1 0 _ rfl)
    exact ⟨fun j u hu => (hb.cell (p := ⟨g, o + i * 18 + j, none⟩) hl).trans ((hF i hi).1 j u hu), (hF i hi).2⟩)
  have HEND := Lib.hid (fun (q : Nat × Nat) (w3 : World) (hb : Below W4.heap.size W4 w3) => (⟨by have h := (HE.out.2.2.2.2.2.keep hb).there; simpa using h, Kbx.at_ (Kbx.stored (HE.out.2.2.2.2.2.keep hb) rfl q), below_setCells _ _ _ _ (HE.out.2.1.trans (hb.mono (by rw [HE.out.1]; omega))) (by omega)⟩ : w3.there (N + 3) 0 16 ∧ KeyAt (w3.setCells (N + 3) 0 (kl q.1 q.2)) (N + 3) q.1 q.2 ∧ Below N w (w3.setCells (N + 3) 0 (kl q.1 q.2))))
  have HC := Lib.hid (fun w => checkSubset_any K D E a b P Q G w hK0 hK1)
  have HZ := Lib.hid (fun h => sbc_nat (K := K) (D := D) (E := E) (a := a) (b := b) (P := P) (Q := Q) (G := G) h)
  have HAD := Lib.hid had
  have HN := Lib.hid hN
  have HW := Lib.hid hW4
  rw [← hN]
  have c0 : W4.cell? ⟨N, 0, none⟩ = some (.int .u8 K) := HE.out.2.2.1.cell 0
  have c1 : W4.cell? ⟨N, 1, none⟩ = some (.int .i64 D) := HE.out.2.2.1.cell 1
  have c2 : W4.cell? ⟨N, 2, none⟩ = some (.int .i64 E) := HE.out.2.2.1.cell 2
  have c3 : W4.cell? ⟨N, 3, none⟩ = some (.int .u64 (P : Int)) := HE.out.2.2.1.cell 3
  have c4 : W4.cell? ⟨N, 4, none⟩ = some (.int .u64 (Q : Int)) := HE.out.2.2.1.cell 4
  have c5 : W4.cell? ⟨N, 5, none⟩ = some (.int .u64 (G : Int)) := HE.out.2.2.1.cell 5
  have z0 : W4.cell? ⟨N + 2, 0, none⟩ = some (.int .i64 a) := HE.out.2.2.2.2.1.cell 0
  have z1 : W4.cell? ⟨N + 2, 1, none⟩ = some (.int .i64 b) := HE.out.2.2.2.2.1.cell 1
  rw [hW4, hN] at c0 c1 c2 c3 c4 c5 z0 z1
  obtain ⟨c, hc⟩ : ∃ c, c = sbc K D E P Q G a b := ⟨_, rfl⟩
  have HCc := Lib.hid hc
  rw [← hc] at HC HZ
  clear hN hW4 s4 b4 e1 e2 e3 e4 hF had hK0 hK1 hc
  go_enter Try.func66, Try.ntmps66
  go_wp2_with fail
  rw [← HW.out, ← HN.out]
  refine (HC.out _).mono ?_
  rintro e w5 ⟨rfl, hb5⟩
  have HB5 := Lib.hid hb5
  clear hb5 c0 c1 c2 c3 c4 c5 z0 z1
  by_cases h : c = 0
  · obtain ⟨_, d, v, x, rfl, rfl, rfl, hd, v1, v3, hx, hab, hk1, _⟩ := HZ.out h
    have HLd := Lib.hid (fun a b w => leads_any K E a b d P Q G v x w hd v1 v3 hx (fun h => by omega))
    have HRc := Lib.hid (fun (q : Nat × Nat) (a b : Int) (m : Nat) w hq hm => reach_any q a b (v : Int) m x w hq (by omega) hm)
    have HD7 := Lib.hid hd
    have HZz := Lib.hid (HCc.out.symm.trans h)
    subst h
    clear hd v1 v3 hx hab hk1
    have ca : w5.cell? ⟨N + 1, 1, none⟩ = some (.slice A n m) := (HE.out.2.2.2.1.keep HB5.out).cell 1
    go_wp2_with fail
    clear ca
    go_loopw [21] (fun i wr => ∃ (k : Nat), k ≤ n ∧ i = .int .i64 (k : Int) ∧ Hid (Below W4.heap.size W4 wr) ∧ Hid (∀ i, i < k → ldb d (F i).1 (F i).2.1 v x = false)) (fun i _ => n - (intOf i).toNat)
    case atStart => exact ⟨0, by omega, rfl, HB5, Lib.hid (fun i h => absurd h (by omega))⟩
    case round =>
      obtain ⟨k, hk, rfl, HBr, HNo⟩ := hrel
      by_cases hlt : k < n
      · rcases HAD.out with h0 | rfl
        · omega
        have l1 : (0 : Int) ≤ (k : Int) := by omega
        have l2 : (k : Int) < (n : Int) := by omega
        obtain ⟨hrk, hbk, hok⟩ := HFr.out wr (HE.out.2.1.trans (HBr.out.mono (by rw [HE.out.1]; omega))) k hlt
        have HNx : Hid (ldb d (F k).1 (F k).2.1 v x = false → ∀ i, i < k + 1 → ldb d (F i).1 (F i).2.1 v x = false) := Lib.hid (fun h i hi => by
          rcases Nat.lt_or_ge i k with h1 | h1
          · exact HNo.out i h1
          · obtain rfl : i = k := by omega
            exact h)
        have HYs : Hid (ldb d (F k).1 (F k).2.1 v x = true → FndR d F v x n true (rch (F k).2.2 (F k).2.1.toNat x)) := Lib.hid (fun h => .inl ⟨k, hlt, h, HNo.out, rfl, rfl⟩)
        obtain ⟨a, ha⟩ : ∃ a, a = (F k).1 := ⟨_, rfl⟩
        obtain ⟨b, hb⟩ : ∃ b, b = (F k).2.1 := ⟨_, rfl⟩
        obtain ⟨q, hq⟩ : ∃ q, q = (F k).2.2 := ⟨_, rfl⟩
        rw [← ha, ← hb] at HNx
        rw [← ha, ← hb, ← hq] at hrk HYs
        rw [← hq] at hok
        have HRk := Lib.hid hrk
        have HCl := Lib.hid (fun w => HLd.out a b w)
        have HOq := Lib.hid hok
        have HPl := Lib.hid (fun w => place_any a b q w)
        have hA := Blk.new wr lz18 82
        have hth : (wr.alloc (.cells lz18 82)).there wr.heap.size 0 18 := by have h := hA.there; simpa using h
        obtain ⟨W6, hW6⟩ : ∃ W6, W6 = (wr.alloc (.cells lz18 82)).setCells wr.heap.size 0 (lbl a b q) := ⟨_, rfl⟩
        have b6 : Below wr.heap.size wr W6 := by rw [hW6]; exact below_setCells _ _ _ _ (below_alloc _ _) (Nat.le_refl _)
        have hl6 : Lbx W6 wr.heap.size a b q := by rw [hW6]; exact Lbx.stored hA rfl _ _ _
        have H6 : Hid (Below W4.heap.size W4 W6 ∧ Lbx W6 wr.heap.size a b q) := Lib.hid ⟨HBr.out.trans (b6.mono HBr.out.size), hl6⟩
        have HW6 := Lib.hid hW6
        have HTh := Lib.hid hth
        clear ha hb hq hA hth hW6 b6 hl6 hbk hok hk hrk
        go_wp2_with (first
          | ((with_reducible show wpList _ _ _ (Oper.mk _ (Op.load 82 _) _ _ _ _ :: _) _ _); refine wpList_load_labo rfl _ rfl _ _ rfl _ _ _ HRk.out ?_)
          | ((with_reducible show wpList _ _ _ (Oper.mk _ (Op.store 82 _ _) _ _ _ _ :: _) _ _); refine wpList_store_lab rfl _ _ rfl _ _ _ _ rfl rfl HTh.out ?_))
        rw [← HW6.out]
        obtain ⟨lb, hlb⟩ : ∃ lb, lb = wr.heap.size := ⟨_, rfl⟩
        rw [← hlb] at H6 ⊢
        clear hlb
        refine wp_region_inv (by kernel_rfl) (by kernel_rfl) (fun l a' w' => a' = { tmps := #[Value.agg #[Value.int IntKind.u8 K, Value.int IntKind.i64 d, Value.int IntKind.i64 E, Value.int IntKind.u64 P, Value.int IntKind.u64 Q, Value.int IntKind.u64 G], Value.agg (sg r (Value.slice (some ⟨g, o, none⟩) n m) s t), Value.agg #[Value.int IntKind.i64 v, Value.int IntKind.i64 x], Value.pointer (some ⟨N, 0, none⟩), Value.pointer (some ⟨N + 1, 0, none⟩), Value.pointer (some ⟨N + 1 + 1, 0, none⟩), Value.pointer (some ⟨N + 1 + 1 + 1, 0, none⟩), u7, Value.int .i64 (0 : Int), undef, Value.pointer (some ⟨lb, 0, none⟩), Value.agg #[Value.int IntKind.u8 K, Value.int IntKind.i64 d, Value.int IntKind.i64 E, Value.int IntKind.u64 P, Value.int IntKind.u64 Q, Value.int IntKind.u64 G], Value.agg #[Value.int IntKind.i64 v, Value.int IntKind.i64 x], Value.int .i64 (0 : Int), Value.int .i64 (0 : Int), Value.bool false, undef, undef, Value.pointer (some ⟨N + 1, 1, none⟩), Value.slice (some ⟨g, o, none⟩) n m, Value.int .i64 (n : Int), Value.int .i64 (k : Int), Value.bool true, Value.pointer (some ⟨g, o + k * 18, none⟩), Value.agg (lbl a b q).toArray, bif l 0 then Value.agg #[Value.int .u8 K, Value.int .i64 (d : Int), Value.int .i64 E, Value.int .u64 (P : Int), Value.int .u64 (Q : Int), Value.int .u64 (G : Int)] else u25, bif l 1 then Value.agg (lbl a b q).toArray else u26, bif l 2 then Value.agg #[Value.int .i64 a, Value.int .i64 b] else u27, bif l 3 then Value.agg #[Value.int .i64 (v : Int), Value.int .i64 (x : Int)] else u28, bif l 4 then Value.bool (ldb d a b v x) else u29, u30, u31, u32, u33, undef], defers := [] } ∧ (Below W6.heap.size W6 w')) ⟨rfl, (Below.refl _ _).drew⟩ ?_ ?_
        · rintro l a' w' i ⟨rfl, hB⟩ hi' hli hpre
          have hi2 : i < 5 := hi'
          have hcase : i = 0 ∨ i = 1 ∨ i = 2 ∨ i = 3 ∨ i = 4 := by omega
          clear hi' hi2
          rcases hcase with rfl | rfl | rfl | rfl | rfl
          · -- 0: Op.load 28 (Operand.tmp 3)
            refine wpOp_step rfl (fun K' hK => ?_)
            clear hpre
            rw [if_pos (by rfl)]
            refine wp_load_mid 45 _ rfl _ 0 rfl #[Value.int .u8 K, Value.int .i64 (d : Int), Value.int .i64 E, Value.int .u64 (P : Int), Value.int .u64 (Q : Int), Value.int .u64 (G : Int)].toList _ (HE.out.2.2.1.keep (H6.out.1.trans (hB.mono H6.out.1.size))).range Try.underlying45 rfl sizeSch ?_
            exact hK _ _ ⟨by simp [upd, Act.put], hB⟩
          · -- 1: Op.load 70 (Operand.tmp 10)
            refine wpOp_step rfl (fun K' hK => ?_)
            clear hpre
            rw [if_pos (by rfl)]
            refine wp_load_mid 82 _ rfl _ 0 rfl (lbl a b q) _ (Lbx.range (Blk.keep H6.out.2 hB)) Try.underlying82 rfl (by rw [lbl_len]; exact sizeLab) ?_
            exact hK _ _ ⟨by simp [upd, Act.put], hB⟩
          · -- 2: Op.call { callee := Callee.value (Operand.func 100), args :=
            have p1 : l 1 = true := hpre _ rfl ⟨1, .data⟩ (by simp) rfl
            refine wpOp_step rfl (fun K' hK => ?_)
            simp only [p1, cond_true, cond_false]
            clear hpre
            rw [if_pos (by rfl)]
            go_simp
            refine (HPl.out _).mono ?_
            rintro e w6 ⟨rfl, hb5⟩
            exact hK _ _ ⟨by simp [upd, Act.put, p1], (hB).trans (hb5.mono (hB).size)⟩
          · -- 3: Op.load 35 (Operand.tmp 5)
            refine wpOp_step rfl (fun K' hK => ?_)
            clear hpre
            rw [if_pos (by rfl)]
            refine wp_load_mid 56 _ rfl _ 0 rfl #[Value.int .i64 (v : Int), Value.int .i64 (x : Int)].toList _ (HE.out.2.2.2.2.1.keep (H6.out.1.trans (hB.mono H6.out.1.size))).range Try.underlying56 rfl sizeSub ?_
            exact hK _ _ ⟨by simp [upd, Act.put], hB⟩
          · -- 4: Op.call { callee := Callee.value (Operand.func 81), args := 
            have p0 : l 0 = true := hpre _ rfl ⟨0, .data⟩ (by simp) rfl
            have p2 : l 2 = true := hpre _ rfl ⟨2, .data⟩ (by simp) rfl
            have p3 : l 3 = true := hpre _ rfl ⟨3, .data⟩ (by simp) rfl
            refine wpOp_step rfl (fun K' hK => ?_)
            simp only [p0, p2, p3, cond_true, cond_false]
            clear hpre
            rw [if_pos (by rfl)]
            go_simp
            refine (HCl.out _).mono ?_
            rintro e w6 ⟨rfl, hb5⟩
            exact hK _ _ ⟨by simp [upd, Act.put, p0, p2, p3], (hB).trans (hb5.mono (hB).size)⟩
        · rintro l a' w9 hall ⟨rfl, hB⟩
          simp only [hall 0 (by decide), hall 1 (by decide), hall 2 (by decide), hall 3 (by decide), hall 4 (by decide), cond_true]
          clear hall
          have H7 : Hid (Below W4.heap.size W4 w9 ∧ Lbx w9 lb a b q) := Lib.hid ⟨(H6.out.1.trans (hB.mono H6.out.1.size)), Blk.keep H6.out.2 hB⟩
          clear hB
          cases hL : ldb d a b v x with
          | false =>
            have HNy := Lib.hid (HNx.out hL)
            clear hL
            go_wp2_with fail
            go_roundw
            case rel => exact ⟨k + 1, by omega, by go_num, Lib.hid H7.out.1, HNy⟩
            case measure => simp [intOf]; omega
          | true =>
            have hYy := HYs.out hL
            have HLm : Hid (x ≠ 0 → b = (b.toNat : Int) ∧ 1 ≤ b.toNat ∧ b.toNat < 256 ∧ lv b.toNat ≤ lv x) := Lib.hid (fun h => by
              obtain ⟨y, rfl, y1, y2, y3⟩ := ldb_facts HD7.out hL h
              rw [Int.toNat_natCast]
              exact ⟨rfl, y1, by omega, (abv_facts y3).2.1⟩)
            have HRr := Lib.hid (fun w => HRc.out q a b b.toNat w HOq.out HLm.out)
            obtain ⟨z, hz⟩ : ∃ z, z = rch q b.toNat x := ⟨_, rfl⟩
            rw [← hz] at hYy HRr
            have HYy := Lib.hid hYy
            clear hL hYy hz
            have z0 : w9.cell? ⟨N + 2, 0, none⟩ = some (.int .i64 (v : Int)) := (HE.out.2.2.2.2.1.keep H7.out.1).cell 0
            have z1 : w9.cell? ⟨N + 2, 1, none⟩ = some (.int .i64 (x : Int)) := (HE.out.2.2.2.2.1.keep H7.out.1).cell 1
            go_wp2_with ((with_reducible show wpList _ _ _ (Oper.mk _ (Op.load 82 _) _ _ _ _ :: _) _ _); refine wpList_load_lab rfl _ rfl _ rfl _ _ _ (Lbx.range H7.out.2) ?_)
            refine (HRr.out _).mono ?_
            rintro e w10 ⟨rfl, hb10⟩
            have H3 := Lib.hid (HEND.out z w10 (H7.out.1.trans (hb10.mono H7.out.1.size)))
            clear hb10 z0 z1
            go_wp2_with ((with_reducible show wpList _ _ _ (Oper.mk _ (Op.store 26 _ _) _ _ _ _ :: _) _ _); refine wpList_store_key rfl _ _ rfl (N + 3) _ _ rfl rfl H3.out.1 ?_)
            exact bodyPost_ret (results_keye rfl _ _ (N + 3) z _ rfl rfl H3.out.2.1) rfl ⟨FdE.good true z HZz.out HYy.out rfl, H3.out.2.2⟩
      · have l3 : ¬ ((k : Int) < (n : Int)) := by omega
        have HF2 : Hid (FndR d F v x n false (0, 0)) := Lib.hid (.inr ⟨fun i hi => HNo.out i (by omega), rfl, rfl⟩)
        have H3 := Lib.hid (HEND.out (0, 0) wr HBr.out)
        go_wp2_with (first
          | ((with_reducible show wpList _ _ _ (Oper.mk _ (Op.build 26 _) _ _ _ _ :: _) _ _); refine wpList_buildKey0 rfl rfl ?_)
          | ((with_reducible show wpList _ _ _ (Oper.mk _ (Op.store 26 _ _) _ _ _ _ :: _) _ _); refine wpList_store_key rfl _ _ rfl (N + 3) _ _ rfl rfl H3.out.1 ?_))
        exact bodyPost_ret (results_keye rfl _ _ (N + 3) (0, 0) _ rfl rfl H3.out.2.1) rfl ⟨FdE.good false (0, 0) HZz.out HF2.out rfl, H3.out.2.2⟩
  · have hcn : (c == 0) = false := beq_eq_false_iff_ne.2 h
    have H3 := Lib.hid (HEND.out (0, 0) w5 HB5.out)
    go_wp2_with (first
      | ((with_reducible show wpList _ _ _ (Oper.mk _ (Op.build 26 _) _ _ _ _ :: _) _ _); refine wpList_buildKey0 rfl rfl ?_)
      | ((with_reducible show wpList _ _ _ (Oper.mk _ (Op.store 26 _ _) _ _ _ _ :: _) _ _); refine wpList_store_key rfl _ _ rfl (N + 3) _ _ rfl rfl H3.out.1 ?_))
    exact bodyPost_ret (results_keye rfl _ _ (N + 3) (0, 0) _ rfl rfl H3.out.2.1) rfl ⟨FdE.bad c HCc.out.symm h rfl, H3.out.2.2⟩
end Go.Proofs.Ytchkgccnipejhaa
