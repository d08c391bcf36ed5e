/-
  The walk through the law of keys.
-/
import Derived.Test.YtelalpikdidpeaaKnwC
import Derived.Test.YtelalpikdidpeaaJG
namespace Go.Proofs.Ytelalpikdidpeaa
open Go.RowKit TR L2 L2.SP
set_option linter.unusedVariables false
set_option linter.unusedSimpArgs false

theorem skk_ok {p : Nat × Nat} (hp : Ok p) (K D E : Int) (P Q G : Nat) (a b : Int) : Ok (skk p K D E P Q G a b) := by
  unfold skk
  split
  · rename_i h
    obtain ⟨_, d, v, x, _, rfl, rfl, _, _, h1, _⟩ := sbc_nat h
    exact kof_ok K hp _ _ (by simp; omega)
  · exact ⟨by decide, by decide⟩
theorem FdE.key {K D E a b : Int} {P Q G : Nat} {F : Nat → Int × Int × (Nat × Nat)} {n : Nat} {e : Ending} (h : FdE K D E a b P Q G F n e) (hF : ∀ i, i < n → Ok (F i).2.2) : ∃ (q : Nat × Nat) (c : Int), Ok q ∧ e = .returned (.tuple #[.agg (kl q.1 q.2).toArray, .int .i64 c]) := by
  rcases h with ⟨_, rfl⟩ | ⟨_, f, q, hr, rfl⟩
  · exact ⟨(0, 0), _, ⟨by decide, by decide⟩, rfl⟩
  · refine ⟨q, _, ?_, rfl⟩
    rcases hr with ⟨k, hk, _, _, _, rfl⟩ | ⟨_, _, rfl⟩
    · exact rch_ok (hF k hk) _ _
    · exact ⟨by decide, by decide⟩
theorem key_self {q : Nat × Nat} (h : Ok q) (w : World) : (Op.equalIn 10000 23 (.agg (kl q.1 q.2).toArray) (.agg (kl q.1 q.2).toArray)).run Try.prog w = .ok true w := by
  rw [run_equal_key h.1 h.2 h.1 h.2 w]; simp [same]

theorem wpList_load_sgo {ops : Array Oper} {rest : List Oper} {op : Oper} {a : Act} {w : World} {Q : Exit → Act → World → Prop} (hw : Region.wanted op (yielded ops a.tmps) = true) (x : Operand) (ho : op.op = .load 33 x)
    (b : Nat) (hx : a.eval x = .pointer (some ⟨b, 0, none⟩)) (r s t : Int) (v : Value) (hc : Blk w b (sg r v s t) 33)
    (h : wpList Try.prog ops Q rest (a.put op.dst (.agg (sg r v s t))) w) : wpList Try.prog ops Q (op :: rest) a w :=
  wpList_step fun K hK => by rw [if_pos hw]; exact wp_load_mid 33 x ho b 0 hx (sg r v s t).toList _ hc.range Try.underlying33 rfl sizeSec (by simpa using hK _ _ h)
/-- What stays where it is throughout the law. -/
structure KyE (w : World) (N S1 : Nat) (p : Nat × Nat) (K D E : Int) (P Q G : Nat) (a b r s t : Int) (A A' : Option Addr) (n m m' : Nat) : Prop where
  key : Kbx w N p
  sch : Blk w (N + 1) #[.int .u8 K, .int .i64 D, .int .i64 E, .int .u64 (P : Int), .int .u64 (Q : Int), .int .u64 (G : Int)] 28
  sec : Blk w (N + 2) (sg r (.slice A n m) s t) 33
  sub : Blk w (N + 3) #[.int .i64 a, .int .i64 b] 35
  own : Blk w S1 (sg r (.slice A' n m') s t) 33
theorem KyE.keep {w w' : World} {N S1 : Nat} {p : Nat × Nat} {K D E : Int} {P Q G : Nat} {a b r s t : Int} {A A' : Option Addr} {n m m' : Nat} (h : KyE w N S1 p K D E P Q G a b r s t A A' n m m') (hb : Below w.heap.size w w') : KyE w' N S1 p K D E P Q G a b r s t A A' n m m' :=
  ⟨Blk.keep h.key hb, h.sch.keep hb, h.sec.keep hb, h.sub.keep hb, h.own.keep hb⟩
theorem Blk.otherN {b b' : Nat} {cs : Array Value} {t : TypeId} : ∀ (vs : List Value) (o : Nat) {w : World}, Blk w b cs t → b' ≠ b → Blk (w.setCells b' o vs) b cs t
  | [], _, _, h, _ => h
  | v :: r, o, w, h, hne => by rw [World.setCells]; exact Blk.otherN r (o + 1) (h.other hne v) hne
/-- A key stored in a new block. -/
theorem keybox (w : World) (q : Nat × Nat) : (w.alloc (.cells z16 23)).there w.heap.size 0 16 ∧ Kbx ((w.alloc (.cells z16 23)).setCells w.heap.size 0 (kl q.1 q.2)) w.heap.size q ∧ Below w.heap.size w ((w.alloc (.cells z16 23)).setCells w.heap.size 0 (kl q.1 q.2)) ∧ ((w.alloc (.cells z16 23)).setCells w.heap.size 0 (kl q.1 q.2)).heap.size = w.heap.size + 1 := by
  have hA := Blk.new w z16 23
  exact ⟨by have h := hA.there; simpa using h, Kbx.stored hA rfl q, below_setCells _ _ _ _ (below_alloc _ _) (Nat.le_refl _), by rw [size_setCells]; simp⟩

set_option maxRecDepth 100000 in
set_option maxHeartbeats 400000 in
theorem keys_walk (p : Nat × Nat) (K D E a b u r s t : Int) (P Q G : Nat) (A : Option Addr) (g o n m : Nat) (F : Nat → Int × Int × (Nat × Nat)) (A2 : Option Addr) (lb off n2 c2 : Nat) (f2 : Nat → Int) (w : World) (hp : Ok p) (hK0 : 0 ≤ K) (hK1 : K ≤ 255)
    (hn : n ≤ 4398046511104) (hnm : n ≤ m) (had : n = 0 ∨ A = some ⟨g, o, none⟩) (hF : ∀ i, i < n → w.rangeAt g (o + i * 18) (lbl (F i).1 (F i).2.1 (F i).2.2) ∧ (F i).2.1 < 9223372036854775808 ∧ Ok (F i).2.2)
    (hn2 : n2 ≤ c2) (hc2 : c2 ≤ maxLen) (had2 : n2 = 0 ∨ A2 = some ⟨lb, off, none⟩) (hcl2 : ∀ i, i < n2 → w.cell? ⟨lb, off + i, none⟩ = some (.int .i64 (f2 i))) :
    Calls Try.prog 3 #[.agg (kl p.1 p.2).toArray, .agg #[.int .u8 K, .int .i64 D, .int .i64 E, .int .u64 (P : Int), .int .u64 (Q : Int), .int .u64 (G : Int)], .agg (sg r (.slice A n m) s t), .agg #[.int .i64 a, .int .i64 b], .int .i64 u, .slice A2 n2 c2] w fun e w' => e = .returned (.bool true) ∧ Below w.heap.size w w' := by
  obtain ⟨N, hN⟩ : ∃ N, N = w.heap.size := ⟨_, rfl⟩
  obtain ⟨W4, hW4⟩ : ∃ W4, W4 = (((w.alloc (.cells (kl p.1 p.2).toArray 23)).alloc (.cells #[.int .u8 K, .int .i64 D, .int .i64 E, .int .u64 (P : Int), .int .u64 (Q : Int), .int .u64 (G : Int)] 28)).alloc (.cells (sg r (.slice A n m) s t) 33)).alloc (.cells #[.int .i64 a, .int .i64 b] 35) := ⟨_, rfl⟩
  have s4 : W4.heap.size = N + 4 := by rw [hW4, hN]; simp
  have b4 : Below N w W4 := by rw [hW4, hN]; exact (below_alloc _ _).trans (((below_alloc _ _).mono (by simp)).trans (((below_alloc _ _).mono (by simp; omega)).trans ((below_alloc _ _).mono (by simp; omega))))
  have e1 : Kbx W4 N p := by rw [hW4, hN]; exact ((Blk.keep (Blk.new w _ _) (below_alloc _ _)).keep (below_alloc _ _)).keep (below_alloc _ _)
  have e2 : Blk W4 (N + 1) #[.int .u8 K, .int .i64 D, .int .i64 E, .int .u64 (P : Int), .int .u64 (Q : Int), .int .u64 (G : Int)] 28 := by
    have h := ((Blk.new (w.alloc (.cells (kl p.1 p.2).toArray 23)) #[.int .u8 K, .int .i64 D, .int .i64 E, .int .u64 (P : Int), .int .u64 (Q : Int), .int .u64 (G : Int)] 28).keep (below_alloc _ (.cells (sg r (.slice A n m) s t) 33))).keep (below_alloc _ (.cells #[.int .i64 a, .int .i64 b] 35))
    rw [World.size_alloc, ← hN] at h; rw [hW4]; exact h
  have e3 : Blk W4 (N + 2) (sg r (.slice A n m) s t) 33 := by
    have h := (Blk.new ((w.alloc (.cells (kl p.1 p.2).toArray 23)).alloc (.cells #[.int .u8 K, .int .i64 D, .int .i64 E, .int .u64 (P : Int), .int .u64 (Q : Int), .int .u64 (G : Int)] 28)) (sg r (.slice A n m) s t) 33).keep (below_alloc _ (.cells #[.int .i64 a, .int .i64 b] 35))
    rw [World.size_alloc, World.size_alloc, ← hN] at h; rw [hW4]; exact h
  have e4 : Blk W4 (N + 3) #[.int .i64 a, .int .i64 b] 35 := by
    have h := Blk.new (((w.alloc (.cells (kl p.1 p.2).toArray 23)).alloc (.cells #[.int .u8 K, .int .i64 D, .int .i64 E, .int .u64 (P : Int), .int .u64 (Q : Int), .int .u64 (G : Int)] 28)).alloc (.cells (sg r (.slice A n m) s t) 33)) #[.int .i64 a, .int .i64 b] 35
    rw [World.size_alloc, World.size_alloc, World.size_alloc, ← hN] at h; rw [hW4]; exact h
  have HE : Hid (W4.heap.size = N + 4 ∧ Below N w W4 ∧ Kbx W4 N p ∧ Blk W4 (N + 1) #[.int .u8 K, .int .i64 D, .int .i64 E, .int .u64 (P : Int), .int .u64 (Q : Int), .int .u64 (G : Int)] 28 ∧ Blk W4 (N + 2) (sg r (.slice A n m) s t) 33 ∧ Blk W4 (N + 3) #[.int .i64 a, .int .i64 b] 35) := Lib.hid ⟨s4, b4, e1, e2, e3, e4⟩
  have HSK := Lib.hid (fun w => subsetKey_any p K D E a b P Q G w hp hK0 hK1)
  have HRS := Lib.hid (fun w => refSubsetKey_any p K D E a b P Q G w hp hK0 hK1)
  have HFr : Hid (∀ w1, Below N w w1 → ∀ i, i < n → w1.rangeAt g (o + i * 18) (lbl (F i).1 (F i).2.1 (F i).2.2) ∧ (F i).2.1 < 9223372036854775808 ∧ Ok (F i).2.2) := Lib.hid (fun w1 hb i hi => ⟨fun j v hv => (hb.cell (p := ⟨g, o + i * 18 + j, none⟩) (by rw [hN]; exact World.block_lt_of_cell? w _ ((hF i hi).1 j v hv))).trans ((hF i hi).1 j v hv), (hF i hi).2⟩)
  have HL2 : Hid (∀ w1, Below N w w1 → ∀ i, i < n2 → w1.cell? ⟨lb, off + i, none⟩ = some (.int .i64 (f2 i))) := Lib.hid (fun w1 hb i hi => (hb.cell (p := ⟨lb, off + i, none⟩) (by rw [hN]; exact World.block_lt_of_cell? w _ (hcl2 i hi))).trans (hcl2 i hi))
  have HTw := Lib.hid (twinSecret_any r s t A g o n m F W4 hn had (fun i hi => (HFr.out W4 b4 i hi).1))
  have HFi := Lib.hid (fun (A' : Option Addr) (g' m' : Nat) w1 (hnm' : n ≤ m') (had' : n = 0 ∨ A' = some ⟨g', 0, none⟩) hF' => find_any K D E a b r s t P Q G A' g' 0 n m' F w1 hK0 hK1 (by omega) hnm' had' hF')
  have HRF := Lib.hid (fun w1 (hb : Below N w w1) => refFind_any K D E a b r s t P Q G A g o n m F w1 hK0 hK1 (by omega) hnm had (HFr.out w1 hb))
  have HSm := Lib.hid (fun (A' : Option Addr) (g' m' : Nat) w1 (hb : Below N w w1) (hnm' : n ≤ m') (had' : n = 0 ∨ A' = some ⟨g', 0, none⟩) (hF' : ∀ i, i < n → w1.rangeAt g' (i * 18) (lbl (F i).1 (F i).2.1 (F i).2.2)) => sameSecret_sg r s t A' A g' g o n m' m F w1 hn hnm' hnm (by
    rcases had with h | h
    · exact .inl h
    · rcases had' with h' | h'
      · exact .inl h'
      · exact .inr ⟨h', h⟩) (fun i hi => ⟨hF' i hi, (HFr.out w1 hb i hi).1⟩))
  have HWk := Lib.hid (fun w1 => work_any K D E u a b P Q G w1 hK0 hK1)
  have HRW := Lib.hid (fun w1 => refWork_any K D E u a b P Q G w1 hK0 hK1)
  have HKn := Lib.hid (fun w1 (hb : Below N w w1) => knows_any K D E a b P Q G lb off n2 c2 A2 f2 w1 hK0 hK1 hn2 hc2 had2 (HL2.out w1 hb))
  have HRK := Lib.hid (fun w1 (hb : Below N w w1) => refKnows_any K D E a b P Q G lb off n2 c2 A2 f2 w1 hK0 hK1 hn2 hc2 had2 (HL2.out w1 hb))
  have hk0 := skk_ok hp K D E P Q G a b
  obtain ⟨q0, hq0⟩ : ∃ q0, q0 = skk p K D E P Q G a b := ⟨_, rfl⟩
  rw [← hq0] at HSK HRS hk0
  have HQ0 := Lib.hid (fun w => key_self hk0 w)
  obtain ⟨cd, hcd⟩ : ∃ cd, cd = sbc K D E P Q G a b := ⟨_, rfl⟩
  rw [← hcd] at HSK HRS
  have HOk := Lib.hid (fun i (hi : i < n) => (hF i hi).2.2)
  have HFo := Lib.hid (fun i (hi : i < n) => (hF i hi).2)
  have HN := Lib.hid hN
  have HW := Lib.hid hW4
  rw [← hN]
  have cs0 := e3
  rw [hW4, hN] at cs0
  clear hN hW4 s4 b4 e1 e2 e3 e4 hp hK0 hK1 hn hnm had hF hn2 hc2 had2 hcl2 hq0 hcd hk0
  go_enter Try.func3, Try.ntmps3
  go_wp2_with ((with_reducible show wpList _ _ _ (Oper.mk _ (Op.load 33 _) _ _ _ _ :: _) _ _); refine wpList_load_sg rfl _ rfl _ rfl _ _ _ _ cs0 ?_)
  rw [← HW.out, ← HN.out]
  refine (HTw.out).mono ?_
  rintro e w5 ⟨⟨A', m', rfl, hm5, hk5⟩, hb5⟩
  obtain ⟨g', hg5⟩ : ∃ g', (n = 0 ∨ A' = some ⟨g', 0, none⟩) ∧ ∀ i, i < n → w5.rangeAt g' (i * 18) (lbl (F i).1 (F i).2.1 (F i).2.2) := by
    rcases hk5 with h0 | ⟨g', h1, _, h2⟩
    · exact ⟨0, .inl h0, fun i hi => by omega⟩
    · exact ⟨g', .inr h1, h2⟩
  have hA := Blk.new w5 (sg 0 (.slice none 0 0) 0 0) 33
  have hth : (w5.alloc (.cells (sg 0 (.slice none 0 0) 0 0) 33)).there w5.heap.size 0 4 := hA.there
  obtain ⟨W6, hW6⟩ : ∃ W6, W6 = (w5.alloc (.cells (sg 0 (.slice none 0 0) 0 0) 33)).setCells w5.heap.size 0 (sg r (.slice A' n m') s t).toList := ⟨_, rfl⟩
  have b56 : Below w5.heap.size w5 W6 := by rw [hW6]; exact below_setCells _ _ _ _ (below_alloc _ _) (Nat.le_refl _)
  have hl6 : Blk W6 w5.heap.size (sg r (.slice A' n m') s t) 33 := by rw [hW6]; exact Blk.setAll hA _ rfl
  have b46 : Below W4.heap.size W4 W6 := hb5.trans (b56.mono hb5.size)
  obtain ⟨S1, hS1⟩ : ∃ S1, S1 = w5.heap.size := ⟨_, rfl⟩
  have HE6 : Hid (Below N w W6 ∧ KyE W6 N S1 p K D E P Q G a b r s t A A' n m m' ∧ N ≤ W6.heap.size) := Lib.hid ⟨HE.out.2.1.trans (b46.mono (by rw [HE.out.1]; omega)), ⟨Blk.keep HE.out.2.2.1 b46, HE.out.2.2.2.1.keep b46, HE.out.2.2.2.2.1.keep b46, HE.out.2.2.2.2.2.keep b46, by rw [hS1]; exact hl6⟩, by have := b46.size; rw [HE.out.1] at this; omega⟩
  have HR6 : Hid (∀ w1, Below W6.heap.size W6 w1 → ∀ i, i < n → w1.rangeAt g' (i * 18) (lbl (F i).1 (F i).2.1 (F i).2.2)) := Lib.hid (fun w1 hb i hi j v hv => by
    have h1 := hg5.2 i hi j v hv
    have h2 := (b56.cell (p := ⟨g', i * 18 + j, none⟩) (World.block_lt_of_cell? w5 _ h1)).trans h1
    exact (hb.cell (p := ⟨g', i * 18 + j, none⟩) (World.block_lt_of_cell? W6 _ h2)).trans h2)
  have HM5 := Lib.hid (And.intro hm5 hg5.1)
  have HW6 := Lib.hid hW6
  have HS1 := Lib.hid hS1
  have HTh := Lib.hid hth
  have c0 : W6.cell? ⟨N + 1, 0, none⟩ = some (.int .u8 K) := (HE6.out.2.1).sch.cell 0
  have c1 : W6.cell? ⟨N + 1, 1, none⟩ = some (.int .i64 D) := (HE6.out.2.1).sch.cell 1
  have c2 : W6.cell? ⟨N + 1, 2, none⟩ = some (.int .i64 E) := (HE6.out.2.1).sch.cell 2
  have c3 : W6.cell? ⟨N + 1, 3, none⟩ = some (.int .u64 (P : Int)) := (HE6.out.2.1).sch.cell 3
  have c4 : W6.cell? ⟨N + 1, 4, none⟩ = some (.int .u64 (Q : Int)) := (HE6.out.2.1).sch.cell 4
  have c5 : W6.cell? ⟨N + 1, 5, none⟩ = some (.int .u64 (G : Int)) := (HE6.out.2.1).sch.cell 5
  have z0 : W6.cell? ⟨N + 3, 0, none⟩ = some (.int .i64 a) := (HE6.out.2.1).sub.cell 0
  have z1 : W6.cell? ⟨N + 3, 1, none⟩ = some (.int .i64 b) := (HE6.out.2.1).sub.cell 1
  rw [hW6] at c0 c1 c2 c3 c4 c5 z0 z1
  clear hA hth hW6 b56 hl6 b46 hS1 hm5 hk5 hg5 hb5 cs0
  go_wp2_with (first
    | ((with_reducible show wpList _ _ _ (Oper.mk _ (Op.store 33 _ _) _ _ _ _ :: _) _ _); refine wpList_store_sg rfl _ _ rfl _ _ _ _ _ rfl rfl rfl HTh.out ?_)
    | ((with_reducible show wpList _ _ _ (Oper.mk _ (Op.load 23 _) _ _ _ _ :: _) _ _); refine wpList_load_key rfl _ rfl _ rfl _ _ (by rw [← HW6.out]; exact Kbx.at_ HE6.out.2.1.key) ?_))
  rw [← HW6.out, ← HS1.out]
  -- SubsetKey, the program's
  refine (HSK.out _).mono ?_
  rintro e w7 ⟨rfl, hb7⟩
  have HB7 := Lib.hid hb7
  clear hb7 c0 c1 c2 c3 c4 c5 z0 z1
  obtain ⟨k1, k2, k3, k4⟩ := keybox w7 q0
  obtain ⟨W8, hW8⟩ : ∃ W8, W8 = (w7.alloc (.cells z16 23)).setCells w7.heap.size 0 (kl q0.1 q0.2) := ⟨_, rfl⟩
  rw [← hW8] at k2 k3 k4
  obtain ⟨ka, hka⟩ : ∃ ka, ka = w7.heap.size := ⟨_, rfl⟩
  have HTk1 := Lib.hid k1
  have HW8 := Lib.hid (And.intro hW8 hka)
  rw [← hka] at k2 k4
  have HE8 : Hid (Below W6.heap.size W6 W8 ∧ Kbx W8 ka q0 ∧ W6.heap.size ≤ ka) := Lib.hid ⟨HB7.out.trans (k3.mono HB7.out.size), k2, by rw [hka]; exact HB7.out.size⟩
  have c0 : W8.cell? ⟨N + 1, 0, none⟩ = some (.int .u8 K) := (HE6.out.2.1.keep HE8.out.1).sch.cell 0
  have c1 : W8.cell? ⟨N + 1, 1, none⟩ = some (.int .i64 D) := (HE6.out.2.1.keep HE8.out.1).sch.cell 1
  have c2 : W8.cell? ⟨N + 1, 2, none⟩ = some (.int .i64 E) := (HE6.out.2.1.keep HE8.out.1).sch.cell 2
  have c3 : W8.cell? ⟨N + 1, 3, none⟩ = some (.int .u64 (P : Int)) := (HE6.out.2.1.keep HE8.out.1).sch.cell 3
  have c4 : W8.cell? ⟨N + 1, 4, none⟩ = some (.int .u64 (Q : Int)) := (HE6.out.2.1.keep HE8.out.1).sch.cell 4
  have c5 : W8.cell? ⟨N + 1, 5, none⟩ = some (.int .u64 (G : Int)) := (HE6.out.2.1.keep HE8.out.1).sch.cell 5
  have z0 : W8.cell? ⟨N + 3, 0, none⟩ = some (.int .i64 a) := (HE6.out.2.1.keep HE8.out.1).sub.cell 0
  have z1 : W8.cell? ⟨N + 3, 1, none⟩ = some (.int .i64 b) := (HE6.out.2.1.keep HE8.out.1).sub.cell 1
  rw [hW8] at c0 c1 c2 c3 c4 c5 z0 z1
  clear k1 k2 k3 k4 hW8 hka
  go_wp2_with (first
    | ((with_reducible show wpList _ _ _ (Oper.mk _ (Op.store 23 _ _) _ _ _ _ :: _) _ _); refine wpList_store_key rfl _ _ rfl _ _ _ rfl rfl HTk1.out ?_)
    | ((with_reducible show wpList _ _ _ (Oper.mk _ (Op.load 23 _) _ _ _ _ :: _) _ _); refine wpList_load_key rfl _ rfl _ rfl _ _ (by rw [← HW8.out.1]; exact Kbx.at_ (HE6.out.2.1.keep HE8.out.1).key) ?_))
  rw [← HW8.out.1, ← HW8.out.2]
  -- SubsetKey, the specification's
  refine (HRS.out _).mono ?_
  rintro e w9 ⟨rfl, hb9⟩
  have HB9 : Hid (Below W6.heap.size W6 w9 ∧ Kbx w9 ka q0) := Lib.hid ⟨HE8.out.1.trans (hb9.mono HE8.out.1.size), Blk.keep HE8.out.2.1 hb9⟩
  clear hb9 c0 c1 c2 c3 c4 c5 z0 z1
  obtain ⟨k1, k2, k3, k4⟩ := keybox w9 q0
  obtain ⟨W10, hW10⟩ : ∃ W10, W10 = (w9.alloc (.cells z16 23)).setCells w9.heap.size 0 (kl q0.1 q0.2) := ⟨_, rfl⟩
  rw [← hW10] at k2 k3 k4
  obtain ⟨kb, hkb⟩ : ∃ kb, kb = w9.heap.size := ⟨_, rfl⟩
  have HTk2 := Lib.hid k1
  have HW10 := Lib.hid (And.intro hW10 hkb)
  rw [← hkb] at k2 k4
  have HE10 : Hid (Below W6.heap.size W6 W10 ∧ Kbx W10 ka q0 ∧ Kbx W10 kb q0 ∧ W6.heap.size ≤ kb ∧ ka < kb) := Lib.hid ⟨HB9.out.1.trans (k3.mono HB9.out.1.size), Blk.keep HB9.out.2 k3, k2, by rw [hkb]; exact HB9.out.1.size, by rw [hkb]; exact Blk.lt HB9.out.2⟩
  have Q0 := HQ0.out
  have c0 : W10.cell? ⟨N + 1, 0, none⟩ = some (.int .u8 K) := (HE6.out.2.1.keep HE10.out.1).sch.cell 0
  have c1 : W10.cell? ⟨N + 1, 1, none⟩ = some (.int .i64 D) := (HE6.out.2.1.keep HE10.out.1).sch.cell 1
  have c2 : W10.cell? ⟨N + 1, 2, none⟩ = some (.int .i64 E) := (HE6.out.2.1.keep HE10.out.1).sch.cell 2
  have c3 : W10.cell? ⟨N + 1, 3, none⟩ = some (.int .u64 (P : Int)) := (HE6.out.2.1.keep HE10.out.1).sch.cell 3
  have c4 : W10.cell? ⟨N + 1, 4, none⟩ = some (.int .u64 (Q : Int)) := (HE6.out.2.1.keep HE10.out.1).sch.cell 4
  have c5 : W10.cell? ⟨N + 1, 5, none⟩ = some (.int .u64 (G : Int)) := (HE6.out.2.1.keep HE10.out.1).sch.cell 5
  have z0 : W10.cell? ⟨N + 3, 0, none⟩ = some (.int .i64 a) := (HE6.out.2.1.keep HE10.out.1).sub.cell 0
  have z1 : W10.cell? ⟨N + 3, 1, none⟩ = some (.int .i64 b) := (HE6.out.2.1.keep HE10.out.1).sub.cell 1
  rw [hW10] at c0 c1 c2 c3 c4 c5 z0 z1
  clear k1 k2 k3 k4 hW10 hkb
  go_wp2_with (first
    | ((with_reducible show wpList _ _ _ (Oper.mk _ (Op.store 23 _ _) _ _ _ _ :: _) _ _); refine wpList_store_key rfl _ _ rfl _ _ _ rfl rfl HTk2.out ?_)
    | ((with_reducible show wpList _ _ _ (Oper.mk _ (Op.load 23 _) _ _ _ _ :: _) _ _); refine wpList_load_key rfl _ rfl _ rfl _ _ (by rw [← HW10.out.1]; exact Kbx.at_ HE10.out.2.1) ?_)
    | ((with_reducible show wpList _ _ _ (Oper.mk _ (Op.load 23 _) _ _ _ _ :: _) _ _); refine wpList_load_key rfl _ rfl _ rfl _ _ (by rw [← HW10.out.1, ← HW10.out.2]; exact Kbx.at_ HE10.out.2.2.1) ?_)
    | ((with_reducible show wpList _ _ _ (Oper.mk _ (Op.load 33 _) _ _ _ _ :: _) _ _); refine wpList_load_sg rfl _ rfl _ rfl _ _ _ _ (by rw [← HW10.out.1]; exact (HE6.out.2.1.keep HE10.out.1).own) ?_))
  rw [← HW10.out.1, ← HW10.out.2]
  -- Find, the program's
  refine (HFi.out A' g' m' W10 HM5.out.1 HM5.out.2 (fun i hi => ⟨by rw [Nat.zero_add]; exact HR6.out W10 HE10.out.1 i hi, HFo.out i hi⟩)).mono ?_
  rintro e w11 ⟨hf11, hb11⟩
  obtain ⟨q1, cf, hq1, rfl⟩ := hf11.key HOk.out
  have HF11 := Lib.hid hf11
  have HQ1 := Lib.hid (fun w => key_self hq1 w)
  have HB11 : Hid (Below W6.heap.size W6 w11 ∧ Kbx w11 ka q0 ∧ Kbx w11 kb q0) := Lib.hid ⟨HE10.out.1.trans (hb11.mono HE10.out.1.size), Blk.keep HE10.out.2.1 hb11, Blk.keep HE10.out.2.2.1 hb11⟩
  clear hb11 hf11 hq1 Q0 c0 c1 c2 c3 c4 c5 z0 z1
  obtain ⟨W12, hW12⟩ : ∃ W12, W12 = w11.setCells ka 0 (kl q1.1 q1.2) := ⟨_, rfl⟩
  have HE12 : Hid (Below W6.heap.size W6 W12 ∧ Kbx W12 ka q1 ∧ Kbx W12 kb q0) := Lib.hid (by
    have h1 : Kbx W12 ka q1 := by rw [hW12]; exact Kbx.stored HB11.out.2.1 (by simp [kl_len]) q1
    have h2 : Kbx W12 kb q0 := by rw [hW12]; exact Blk.otherN _ _ HB11.out.2.2 (by have := HE10.out.2.2.2.2; omega)
    exact ⟨by rw [hW12]; exact below_setCells _ _ _ _ HB11.out.1 HE8.out.2.2, h1, h2⟩)
  have HTk3 : Hid (w11.there ka 0 16) := Lib.hid (Kbx.there_ HB11.out.2.1)
  have HW12 := Lib.hid hW12
  have c0 : W12.cell? ⟨N + 1, 0, none⟩ = some (.int .u8 K) := (HE6.out.2.1.keep HE12.out.1).sch.cell 0
  have c1 : W12.cell? ⟨N + 1, 1, none⟩ = some (.int .i64 D) := (HE6.out.2.1.keep HE12.out.1).sch.cell 1
  have c2 : W12.cell? ⟨N + 1, 2, none⟩ = some (.int .i64 E) := (HE6.out.2.1.keep HE12.out.1).sch.cell 2
  have c3 : W12.cell? ⟨N + 1, 3, none⟩ = some (.int .u64 (P : Int)) := (HE6.out.2.1.keep HE12.out.1).sch.cell 3
  have c4 : W12.cell? ⟨N + 1, 4, none⟩ = some (.int .u64 (Q : Int)) := (HE6.out.2.1.keep HE12.out.1).sch.cell 4
  have c5 : W12.cell? ⟨N + 1, 5, none⟩ = some (.int .u64 (G : Int)) := (HE6.out.2.1.keep HE12.out.1).sch.cell 5
  have z0 : W12.cell? ⟨N + 3, 0, none⟩ = some (.int .i64 a) := (HE6.out.2.1.keep HE12.out.1).sub.cell 0
  have z1 : W12.cell? ⟨N + 3, 1, none⟩ = some (.int .i64 b) := (HE6.out.2.1.keep HE12.out.1).sub.cell 1
  rw [hW12] at c0 c1 c2 c3 c4 c5 z0 z1
  clear hW12
  go_wp2_with (first
    | ((with_reducible show wpList _ _ _ (Oper.mk _ (Op.store 23 _ _) _ _ _ _ :: _) _ _); refine wpList_store_key rfl _ _ rfl _ _ _ rfl rfl HTk3.out ?_)
    | ((with_reducible show wpList _ _ _ (Oper.mk _ (Op.load 33 _) _ _ _ _ :: _) _ _); refine wpList_load_sg rfl _ rfl _ rfl _ _ _ _ (by rw [← HW12.out]; exact (HE6.out.2.1.keep HE12.out.1).sec) ?_))
  rw [← HW12.out]
  -- Find, the specification's
  refine (HRF.out W12 (HE6.out.1.trans (HE12.out.1.mono HE6.out.2.2))).mono ?_
  rintro e w13 ⟨hf13, hb13⟩
  obtain rfl := hf13.same HF11.out
  have HB13 : Hid (Below W6.heap.size W6 w13 ∧ Kbx w13 ka q1 ∧ Kbx w13 kb q0) := Lib.hid ⟨HE12.out.1.trans (hb13.mono HE12.out.1.size), Blk.keep HE12.out.2.1 hb13, Blk.keep HE12.out.2.2 hb13⟩
  clear hb13 hf13 c0 c1 c2 c3 c4 c5 z0 z1
  obtain ⟨W14, hW14⟩ : ∃ W14, W14 = w13.setCells kb 0 (kl q1.1 q1.2) := ⟨_, rfl⟩
  have HE14 : Hid (Below W6.heap.size W6 W14 ∧ Kbx W14 ka q1 ∧ Kbx W14 kb q1) := Lib.hid (by
    have h1 : Kbx W14 kb q1 := by rw [hW14]; exact Kbx.stored HB13.out.2.2 (by simp [kl_len]) q1
    have h2 : Kbx W14 ka q1 := by rw [hW14]; exact Blk.otherN _ _ HB13.out.2.1 (by have := HE10.out.2.2.2.2; omega)
    exact ⟨by rw [hW14]; exact below_setCells _ _ _ _ HB13.out.1 HE10.out.2.2.2.1, h2, h1⟩)
  have HTk4 : Hid (w13.there kb 0 16) := Lib.hid (Kbx.there_ HB13.out.2.2)
  have HW14 := Lib.hid hW14
  have Q1 := HQ1.out
  clear hW14
  go_wp2_with (first
    | ((with_reducible show wpList _ _ _ (Oper.mk _ (Op.store 23 _ _) _ _ _ _ :: _) _ _); refine wpList_store_key rfl _ _ rfl _ _ _ rfl rfl HTk4.out ?_)
    | ((with_reducible show wpList _ _ _ (Oper.mk _ (Op.load 23 _) _ _ _ _ :: _) _ _); refine wpList_load_key rfl _ rfl _ rfl _ _ (by rw [← HW14.out]; exact Kbx.at_ HE14.out.2.1) ?_)
    | ((with_reducible show wpList _ _ _ (Oper.mk _ (Op.load 23 _) _ _ _ _ :: _) _ _); refine wpList_load_key rfl _ rfl _ rfl _ _ (by rw [← HW14.out]; exact Kbx.at_ HE14.out.2.2) ?_)
    | ((with_reducible show wpList _ _ _ (Oper.mk _ (Op.load 33 _) _ _ _ _ :: _) _ _); refine wpList_load_sgo (by rfl) _ rfl _ rfl _ _ _ _ (by rw [← HW14.out]; exact (HE6.out.2.1.keep HE14.out.1).own) ?_)
    | ((with_reducible show wpList _ _ _ (Oper.mk _ (Op.load 33 _) _ _ _ _ :: _) _ _); refine wpList_load_sgo (by rfl) _ rfl _ rfl _ _ _ _ (by rw [← HW14.out]; exact (HE6.out.2.1.keep HE14.out.1).sec) ?_))
  rw [← HW14.out]
  refine (HSm.out A' g' m' W14 (HE6.out.1.trans (HE14.out.1.mono HE6.out.2.2)) HM5.out.1 HM5.out.2 (HR6.out W14 HE14.out.1)).mono ?_
  rintro e w15 ⟨rfl, hb15⟩
  have HB15 := Lib.hid (HE14.out.1.trans (hb15.mono HE14.out.1.size))
  clear hb15 Q1
  have c0 : w15.cell? ⟨N + 1, 0, none⟩ = some (.int .u8 K) := (HE6.out.2.1.keep HB15.out).sch.cell 0
  have c1 : w15.cell? ⟨N + 1, 1, none⟩ = some (.int .i64 D) := (HE6.out.2.1.keep HB15.out).sch.cell 1
  have c2 : w15.cell? ⟨N + 1, 2, none⟩ = some (.int .i64 E) := (HE6.out.2.1.keep HB15.out).sch.cell 2
  have c3 : w15.cell? ⟨N + 1, 3, none⟩ = some (.int .u64 (P : Int)) := (HE6.out.2.1.keep HB15.out).sch.cell 3
  have c4 : w15.cell? ⟨N + 1, 4, none⟩ = some (.int .u64 (Q : Int)) := (HE6.out.2.1.keep HB15.out).sch.cell 4
  have c5 : w15.cell? ⟨N + 1, 5, none⟩ = some (.int .u64 (G : Int)) := (HE6.out.2.1.keep HB15.out).sch.cell 5
  have z0 : w15.cell? ⟨N + 3, 0, none⟩ = some (.int .i64 a) := (HE6.out.2.1.keep HB15.out).sub.cell 0
  have z1 : w15.cell? ⟨N + 3, 1, none⟩ = some (.int .i64 b) := (HE6.out.2.1.keep HB15.out).sub.cell 1
  go_wp2_with fail
  -- Work
  refine (HWk.out _).mono ?_
  rintro e w16 ⟨hk16, hb16⟩
  obtain ⟨nw, cw, rfl⟩ := hk16.val
  have HK16 := Lib.hid hk16
  have HB16 := Lib.hid (HB15.out.trans (hb16.mono HB15.out.size))
  clear hk16 hb16 c0 c1 c2 c3 c4 c5 z0 z1
  have c0 : w16.cell? ⟨N + 1, 0, none⟩ = some (.int .u8 K) := (HE6.out.2.1.keep HB16.out).sch.cell 0
  have c1 : w16.cell? ⟨N + 1, 1, none⟩ = some (.int .i64 D) := (HE6.out.2.1.keep HB16.out).sch.cell 1
  have c2 : w16.cell? ⟨N + 1, 2, none⟩ = some (.int .i64 E) := (HE6.out.2.1.keep HB16.out).sch.cell 2
  have c3 : w16.cell? ⟨N + 1, 3, none⟩ = some (.int .u64 (P : Int)) := (HE6.out.2.1.keep HB16.out).sch.cell 3
  have c4 : w16.cell? ⟨N + 1, 4, none⟩ = some (.int .u64 (Q : Int)) := (HE6.out.2.1.keep HB16.out).sch.cell 4
  have c5 : w16.cell? ⟨N + 1, 5, none⟩ = some (.int .u64 (G : Int)) := (HE6.out.2.1.keep HB16.out).sch.cell 5
  have z0 : w16.cell? ⟨N + 3, 0, none⟩ = some (.int .i64 a) := (HE6.out.2.1.keep HB16.out).sub.cell 0
  have z1 : w16.cell? ⟨N + 3, 1, none⟩ = some (.int .i64 b) := (HE6.out.2.1.keep HB16.out).sub.cell 1
  go_wp2_with fail
  refine (HRW.out _).mono ?_
  rintro e w17 ⟨hk17, hb17⟩
  obtain rfl := hk17.same HK16.out
  have HB17 := Lib.hid (HB16.out.trans (hb17.mono HB16.out.size))
  clear hk17 hb17 c0 c1 c2 c3 c4 c5 z0 z1
  have c0 : w17.cell? ⟨N + 1, 0, none⟩ = some (.int .u8 K) := (HE6.out.2.1.keep HB17.out).sch.cell 0
  have c1 : w17.cell? ⟨N + 1, 1, none⟩ = some (.int .i64 D) := (HE6.out.2.1.keep HB17.out).sch.cell 1
  have c2 : w17.cell? ⟨N + 1, 2, none⟩ = some (.int .i64 E) := (HE6.out.2.1.keep HB17.out).sch.cell 2
  have c3 : w17.cell? ⟨N + 1, 3, none⟩ = some (.int .u64 (P : Int)) := (HE6.out.2.1.keep HB17.out).sch.cell 3
  have c4 : w17.cell? ⟨N + 1, 4, none⟩ = some (.int .u64 (Q : Int)) := (HE6.out.2.1.keep HB17.out).sch.cell 4
  have c5 : w17.cell? ⟨N + 1, 5, none⟩ = some (.int .u64 (G : Int)) := (HE6.out.2.1.keep HB17.out).sch.cell 5
  have z0 : w17.cell? ⟨N + 3, 0, none⟩ = some (.int .i64 a) := (HE6.out.2.1.keep HB17.out).sub.cell 0
  have z1 : w17.cell? ⟨N + 3, 1, none⟩ = some (.int .i64 b) := (HE6.out.2.1.keep HB17.out).sub.cell 1
  go_wp2_with fail
  -- Knows
  refine (HKn.out _ (HE6.out.1.trans (HB17.out.mono HE6.out.2.2))).mono ?_
  rintro e w18 ⟨hk18, hb18⟩
  obtain ⟨zk, ck, rfl⟩ := hk18.val
  have HK18 := Lib.hid hk18
  have HB18 := Lib.hid (HB17.out.trans (hb18.mono HB17.out.size))
  clear hk18 hb18 c0 c1 c2 c3 c4 c5 z0 z1
  have c0 : w18.cell? ⟨N + 1, 0, none⟩ = some (.int .u8 K) := (HE6.out.2.1.keep HB18.out).sch.cell 0
  have c1 : w18.cell? ⟨N + 1, 1, none⟩ = some (.int .i64 D) := (HE6.out.2.1.keep HB18.out).sch.cell 1
  have c2 : w18.cell? ⟨N + 1, 2, none⟩ = some (.int .i64 E) := (HE6.out.2.1.keep HB18.out).sch.cell 2
  have c3 : w18.cell? ⟨N + 1, 3, none⟩ = some (.int .u64 (P : Int)) := (HE6.out.2.1.keep HB18.out).sch.cell 3
  have c4 : w18.cell? ⟨N + 1, 4, none⟩ = some (.int .u64 (Q : Int)) := (HE6.out.2.1.keep HB18.out).sch.cell 4
  have c5 : w18.cell? ⟨N + 1, 5, none⟩ = some (.int .u64 (G : Int)) := (HE6.out.2.1.keep HB18.out).sch.cell 5
  have z0 : w18.cell? ⟨N + 3, 0, none⟩ = some (.int .i64 a) := (HE6.out.2.1.keep HB18.out).sub.cell 0
  have z1 : w18.cell? ⟨N + 3, 1, none⟩ = some (.int .i64 b) := (HE6.out.2.1.keep HB18.out).sub.cell 1
  go_wp2_with fail
  refine (HRK.out _ (HE6.out.1.trans (HB18.out.mono HE6.out.2.2))).mono ?_
  rintro e w19 ⟨hk19, hb19⟩
  obtain rfl := hk19.same HK18.out
  have HF : Hid (Below N w w19) := Lib.hid (HE6.out.1.trans ((HB18.out.trans (hb19.mono HB18.out.size)).mono HE6.out.2.2))
  clear hk19 hb19 c0 c1 c2 c3 c4 c5 z0 z1
  go_wp2_with fail
  go_ret
  exact ⟨by simp, HF.out⟩
end Go.Proofs.Ytelalpikdidpeaa
