/-
  The index of the label that leads, the specification's; and how many derivations a label needs.
-/
import Derived.Test.YtelalpikdidpeaaJF
import Derived.Test.YtelalpikdidpeaaMathK
namespace Go.Proofs.Ytelalpikdidpeaa
open Go.RowKit TR L2 L2.SP
set_option linter.unusedVariables false
set_option linter.unusedSimpArgs false

/-- What the search of the pairs L finds: the index of the first that leads to the key of (v, x), or -1. -/
def Kno (d : Nat) (L : List (Nat × Nat)) (v x : Nat) (i : Int) : Prop :=
  (i = -1 ∧ ∀ (j : Nat) (p : Nat × Nat), L[j]? = some p → ldb d (p.1 : Int) (p.2 : Int) v x = false) ∨
  (∃ (k : Nat) (p : Nat × Nat), i = (k : Int) ∧ L[k]? = some p ∧ ldb d (p.1 : Int) (p.2 : Int) v x = true ∧ ∀ (j : Nat) (q : Nat × Nat), j < k → L[j]? = some q → ldb d (q.1 : Int) (q.2 : Int) v x = false)
theorem Kno.same {d : Nat} {L : List (Nat × Nat)} {v x : Nat} {i j : Int} (h : Kno d L v x i) (h2 : Kno d L v x j) : i = j := by
  rcases h with ⟨rfl, a⟩ | ⟨k, p, rfl, a1, a2, a3⟩ <;> rcases h2 with ⟨rfl, b⟩ | ⟨k2, p2, rfl, b1, b2, b3⟩
  · rfl
  · have := a k2 p2 b1; rw [b2] at this; cases this
  · have := b k p a1; rw [a2] at this; cases this
  · rcases Nat.lt_trichotomy k k2 with h | rfl | h
    · have := b3 k p h a1; rw [a2] at this; cases this
    · rfl
    · have := a3 k2 p2 h b1; rw [b2] at this; cases this
theorem Kno.none_iff {d : Nat} {L : List (Nat × Nat)} {v x : Nat} {i : Int} (h : Kno d L v x i) : 0 ≤ i ↔ ∃ p ∈ L, ldb d (p.1 : Int) (p.2 : Int) v x = true := by
  rcases h with ⟨rfl, a⟩ | ⟨k, p, rfl, a1, a2, a3⟩
  · constructor
    · intro h; omega
    · rintro ⟨p, hp, hq⟩
      obtain ⟨j, hj⟩ := List.mem_iff_getElem?.1 hp
      rw [a j p hj] at hq; cases hq
  · exact ⟨fun _ => ⟨p, List.mem_iff_getElem?.2 ⟨k, a1⟩, a2⟩, fun _ => Int.natCast_nonneg k⟩

set_option maxRecDepth 100000 in
set_option maxHeartbeats 400000 in
theorem refKnown_any (K E : Int) (d r P Q G v x : Nat) (w : World) (hd : d < 7) (hr : r < 2 ^ d) (hk1 : K = 1 → x = 0) (hv1 : 1 ≤ v) (hv : v < 128) (hx2 : x < 2 ^ (d + 1)) (hx : x < 128) :
    Calls Try.prog 49 #[.agg #[.int .u8 K, .int .i64 (d : Int), .int .i64 E, .int .u64 (P : Int), .int .u64 (Q : Int), .int .u64 (G : Int)], .int .i64 (r : Int), .agg #[.int .i64 (v : Int), .int .i64 (x : Int)]] w fun e w' => (∃ i : Int, e = .returned (.int .i64 i) ∧ Kno d (plc K d (2 ^ d + r)) v x i) ∧ Below w.heap.size w w' := by
  obtain ⟨N, hN⟩ : ∃ N, N = w.heap.size := ⟨_, rfl⟩
  obtain ⟨W2, hW2⟩ : ∃ W2, W2 = (w.alloc (.cells #[.int .u8 K, .int .i64 (d : Int), .int .i64 E, .int .u64 (P : Int), .int .u64 (Q : Int), .int .u64 (G : Int)] 28)).alloc (.cells #[.int .i64 (v : Int), .int .i64 (x : Int)] 35) := ⟨_, rfl⟩
  have s2 : W2.heap.size = N + 2 := by rw [hW2, hN]; simp
  have b2 : Below N w W2 := by rw [hW2, hN]; exact (below_alloc _ _).trans ((below_alloc _ _).mono (by simp))
  have e1 : Blk W2 N #[.int .u8 K, .int .i64 (d : Int), .int .i64 E, .int .u64 (P : Int), .int .u64 (Q : Int), .int .u64 (G : Int)] 28 := by rw [hW2, hN]; exact (Blk.new w _ _).keep (below_alloc _ _)
  have e2 : Blk W2 (N + 1) #[.int .i64 (v : Int), .int .i64 (x : Int)] 35 := by
    have h := Blk.new (w.alloc (.cells #[.int .u8 K, .int .i64 (d : Int), .int .i64 E, .int .u64 (P : Int), .int .u64 (Q : Int), .int .u64 (G : Int)] 28)) #[.int .i64 (v : Int), .int .i64 (x : Int)] 35
    rw [World.size_alloc, ← hN] at h; rw [hW2]; exact h
  have HE : Hid (W2.heap.size = N + 2 ∧ Below N w W2 ∧ Blk W2 N #[.int .u8 K, .int .i64 (d : Int), .int .i64 E, .int .u64 (P : Int), .int .u64 (Q : Int), .int .u64 (G : Int)] 28 ∧ Blk W2 (N + 1) #[.int .i64 (v : Int), .int .i64 (x : Int)] 35) := Lib.hid ⟨s2, b2, e1, e2⟩
  have HLd := Lib.hid (fun (a b : Nat) w (hb : (b : Int) < 9223372036854775808) => refLeads_any K E (a : Int) (b : Int) d P Q G v x w hd hk1 hv1 hv hx2 hx hb)
  have HPl := Lib.hid (fun w => refLabels_any K E d r P Q G w hd hr)
  have HOkp := Lib.hid (plc_ok K d r hd hr)
  have hn64 := plc_len K d r hd hr
  have hn0 := plc_pos K d (2 ^ d + r)
  obtain ⟨ps, hps⟩ : ∃ ps, ps = plc K d (2 ^ d + r) := ⟨_, rfl⟩
  rw [← hps] at HPl HOkp hn64 hn0 ⊢
  obtain ⟨n, hn⟩ : ∃ n, n = ps.length := ⟨_, rfl⟩
  rw [← hn] at HPl hn64 hn0
  have HN0 := Lib.hid hn
  have HN := Lib.hid hN
  have HW := Lib.hid hW2
  rw [← hN]
  have c0 : W2.cell? ⟨N, 0, none⟩ = some (.int .u8 K) := e1.cell 0
  have c1 : W2.cell? ⟨N, 1, none⟩ = some (.int .i64 (d : Int)) := e1.cell 1
  have c2 : W2.cell? ⟨N, 2, none⟩ = some (.int .i64 E) := e1.cell 2
  have c3 : W2.cell? ⟨N, 3, none⟩ = some (.int .u64 (P : Int)) := e1.cell 3
  have c4 : W2.cell? ⟨N, 4, none⟩ = some (.int .u64 (Q : Int)) := e1.cell 4
  have c5 : W2.cell? ⟨N, 5, none⟩ = some (.int .u64 (G : Int)) := e1.cell 5
  rw [hW2, hN] at c0 c1 c2 c3 c4 c5
  clear hN hW2 s2 b2 e1 e2 hps hn hk1 hv1 hv hx2 hx hd hr
  go_enter Try.func49, Try.ntmps49
  go_wp2_with fail
  rw [← HW.out, ← HN.out]
  refine (HPl.out _).mono ?_
  rintro e w3 ⟨⟨u3, rfl, ho3⟩, hb3⟩
  obtain ⟨g, cg, cur, rfl, hg1, hg2, hg3, hg4, hg5⟩ := own_blk ho3 hn0
  have HG : Hid (∀ j (t : Nat × Nat), ps[j]? = some t → cur[j * 2]? = some (.int .i64 (t.1 : Int)) ∧ cur[j * 2 + 1]? = some (.int .i64 (t.2 : Int))) := Lib.hid (fun j t h => by
    have h1 := prs_get ps j t h
    rw [Nat.mul_comm j 2]
    exact ⟨hg5 _ _ h1.1, hg5 _ _ h1.2⟩)
  have HE3 : Hid (N + 2 ≤ w3.heap.size ∧ Below N w w3 ∧ Blk w3 N #[.int .u8 K, .int .i64 (d : Int), .int .i64 E, .int .u64 (P : Int), .int .u64 (Q : Int), .int .u64 (G : Int)] 28 ∧ Blk w3 (N + 1) #[.int .i64 (v : Int), .int .i64 (x : Int)] 35 ∧ Blk w3 g cur 35) := Lib.hid ⟨by rw [← HE.out.1]; exact hb3.size, HE.out.2.1.trans (hb3.mono (by rw [HE.out.1]; omega)), HE.out.2.2.1.keep hb3, HE.out.2.2.2.keep hb3, hg4⟩
  clear hb3 ho3 hg1 hg4 hg5 c0 c1 c2 c3 c4 c5
  go_wp2_with fail
  go_loopw [8] (fun i wr => ∃ (k : Nat), k ≤ n ∧ i = .int .i64 (k : Int) ∧ Hid (Below w3.heap.size w3 wr) ∧ Hid (∀ (j : Nat) (q : Nat × Nat), j < k → ps[j]? = some q → ldb d (q.1 : Int) (q.2 : Int) v x = false)) (fun i _ => n - (intOf i).toNat)
  case atStart => exact ⟨0, by omega, rfl, Lib.hid (Below.refl _ _), Lib.hid (fun j q h => absurd h (by omega))⟩
  case round =>
    obtain ⟨k, hk, rfl, HBr, HNo⟩ := hrel
    by_cases hlt : k < n
    · have hkl : k < ps.length := by rw [← HN0.out]; exact hlt
      obtain ⟨t, ht⟩ : ∃ t, t = ps[k] := ⟨_, rfl⟩
      have hgk0 : ps[k]? = some t := by rw [List.getElem?_eq_getElem hkl, ht]
      have hgk := HG.out k t hgk0
      have hok := HOkp.out t (by rw [ht]; exact List.getElem_mem hkl)
      have l1 : (0 : Int) ≤ (k : Int) := by omega
      have l2 : (k : Int) < (n : Int) := by omega
      have HNx : Hid (ldb d (t.1 : Int) (t.2 : Int) v x = false → ∀ (j : Nat) (q : Nat × Nat), j < k + 1 → ps[j]? = some q → ldb d (q.1 : Int) (q.2 : Int) v x = false) := Lib.hid (fun h j q hj hq => by
        rcases Nat.lt_or_ge j k with h1 | h1
        · exact HNo.out j q h1 hq
        · obtain rfl : j = k := by omega
          rw [hgk0] at hq; injection hq with hq; rw [← hq]; exact h)
      have HYs : Hid (ldb d (t.1 : Int) (t.2 : Int) v x = true → Kno d ps v x (k : Int)) := Lib.hid (fun h => .inr ⟨k, t, rfl, hgk0, h, HNo.out⟩)
      have hb2 : ((t.2 : Nat) : Int) < 9223372036854775808 := by have := hok.2.2.1; omega
      have HCl := Lib.hid (fun w => HLd.out t.1 t.2 w hb2)
      obtain ⟨a, ha⟩ : ∃ a, a = t.1 := ⟨_, rfl⟩
      obtain ⟨b, hb⟩ : ∃ b, b = t.2 := ⟨_, rfl⟩
      rw [← ha, ← hb] at HNx HYs HCl hgk
      have g0 : wr.cell? ⟨g, k * 2, none⟩ = some (.int .i64 (a : Int)) := (Blk.cell (HE3.out.2.2.2.2.keep HBr.out) (k * 2)).trans hgk.1
      have g1 : wr.cell? ⟨g, k * 2 + 1, none⟩ = some (.int .i64 (b : Int)) := (Blk.cell (HE3.out.2.2.2.2.keep HBr.out) (k * 2 + 1)).trans hgk.2
      have HG01 := Lib.hid (And.intro hgk.1 hgk.2)
      have hk2 : k < 2 ^ 40 := by omega
      clear ha hb hb2 hok hgk hgk0 ht hkl hk
      go_wp2_with fail
      clear g0 g1
      refine wp_region_inv (by kernel_rfl) (by kernel_rfl) (fun l a' w' => a' = { tmps := #[Value.agg #[Value.int IntKind.u8 K, Value.int IntKind.i64 d, Value.int IntKind.i64 E, Value.int IntKind.u64 P, Value.int IntKind.u64 Q, Value.int IntKind.u64 G], Value.int .i64 (r : Int), Value.agg #[Value.int IntKind.i64 v, Value.int IntKind.i64 x], Value.pointer (some ⟨N, 0, none⟩), undef, Value.pointer (some ⟨N + 1, 0, none⟩), u6, Value.slice (some ⟨g, 0, none⟩) n cg, Value.int .i64 (k : Int), Value.agg #[Value.int IntKind.u8 K, Value.int IntKind.i64 d, Value.int IntKind.i64 E, Value.int IntKind.u64 P, Value.int IntKind.u64 Q, Value.int IntKind.u64 G], Value.int .i64 (r : Int), Value.slice (some ⟨g, 0, none⟩) n cg, Value.int .i64 (k : Int), Value.slice (some ⟨g, 0, none⟩) n cg, Value.int .i64 (n : Int), Value.bool true, u16, u17, bif l 0 then Value.agg #[Value.int .u8 K, Value.int .i64 (d : Int), Value.int .i64 E, Value.int .u64 (P : Int), Value.int .u64 (Q : Int), Value.int .u64 (G : Int)] else u18, bif l 1 then Value.slice (some ⟨g, 0, none⟩) n cg else u19, bif l 2 then Value.int .i64 (k : Int) else u20, bif l 3 then Value.pointer (some ⟨g, k * 2, none⟩) else u21, bif l 4 then Value.pointer (some ⟨g, k * 2, none⟩) else u22, bif l 5 then Value.int .i64 (a : Int) else u23, bif l 6 then Value.slice (some ⟨g, 0, none⟩) n cg else u24, bif l 7 then Value.int .i64 (k : Int) else u25, bif l 8 then Value.pointer (some ⟨g, k * 2, none⟩) else u26, bif l 9 then Value.pointer (some ⟨g, k * 2 + 1, none⟩) else u27, bif l 10 then Value.int .i64 (b : Int) else u28, bif l 11 then Value.agg #[Value.int .i64 (v : Int), Value.int .i64 (x : Int)] else u29, bif l 12 then Value.bool (ldb d (a : Int) (b : Int) v x) else u30, u31], defers := [] } ∧ (Below w3.heap.size w3 w')) ⟨rfl, (HBr.out).drew⟩ ?_ ?_
      · rintro l a' w' i ⟨rfl, hB⟩ hi' hli hpre
        have hi2 : i < 13 := hi'
        have hcase : i = 0 ∨ i = 1 ∨ i = 2 ∨ i = 3 ∨ i = 4 ∨ i = 5 ∨ i = 6 ∨ i = 7 ∨ i = 8 ∨ i = 9 ∨ i = 10 ∨ i = 11 ∨ i = 12 := by omega
        clear hi' hi2
        rcases hcase with rfl | rfl | rfl | rfl | rfl | rfl | rfl | rfl | rfl | rfl | rfl | rfl | rfl
        · -- 0: Op.load 28 (Operand.tmp 3)
          refine wpOp_step rfl (fun K' hK => ?_)
          clear hpre
          rw [if_pos (by rfl)]
          refine wp_load_mid 28 _ rfl _ 0 rfl #[Value.int .u8 K, Value.int .i64 (d : Int), Value.int .i64 E, Value.int .u64 (P : Int), Value.int .u64 (Q : Int), Value.int .u64 (G : Int)].toList _ (Blk.range (HE3.out.2.2.1.below hB (by have := HE3.out.1; omega))) Try.underlying28 rfl sizeSch ?_
          exact hK _ _ ⟨by simp [upd, Act.put], hB⟩
        · -- 1: Op.move (Operand.tmp 7)
          refine wpOp_step rfl (fun K' hK => ?_)
          clear hpre
          rw [if_pos (by rfl)]
          go_simp
          exact hK _ _ ⟨by simp [upd, Act.put], hB⟩
        · -- 2: Op.move (Operand.tmp 8)
          refine wpOp_step rfl (fun K' hK => ?_)
          clear hpre
          rw [if_pos (by rfl)]
          go_simp
          exact hK _ _ ⟨by simp [upd, Act.put], hB⟩
        · -- 3: Op.indexAddr 55 (Operand.tmp 19) (Operand.tmp 20)
          have p1 : l 1 = true := hpre _ rfl ⟨1, .data⟩ (by simp) rfl
          have p2 : l 2 = true := hpre _ rfl ⟨2, .data⟩ (by simp) rfl
          refine wpOp_step rfl (fun K' hK => ?_)
          simp only [p1, p2, cond_true, cond_false]
          clear hpre
          rw [if_pos (by rfl)]
          go_simp
          exact hK _ _ ⟨by simp [upd, Act.put, p1, p2], hB⟩
        · -- 4: Op.fieldAddr 35 (Operand.tmp 21) 0
          have p3 : l 3 = true := hpre _ rfl ⟨3, .data⟩ (by simp) rfl
          refine wpOp_step rfl (fun K' hK => ?_)
          simp only [p3, cond_true, cond_false]
          clear hpre
          rw [if_pos (by rfl)]
          go_simp
          exact hK _ _ ⟨by simp [upd, Act.put, p3], hB⟩
        · -- 5: Op.load 3 (Operand.tmp 22)
          have p4 : l 4 = true := hpre _ rfl ⟨4, .data⟩ (by simp) rfl
          refine wpOp_step rfl (fun K' hK => ?_)
          simp only [p4, cond_true, cond_false]
          clear hpre
          rw [if_pos (by rfl)]
          have g0 : w'.cell? ⟨g, k * 2, none⟩ = some (.int .i64 (a : Int)) := (Blk.cell (HE3.out.2.2.2.2.keep hB) (k * 2)).trans HG01.out.1
          go_simp
          exact hK _ _ ⟨by simp [upd, Act.put, p4], hB⟩
        · -- 6: Op.move (Operand.tmp 7)
          refine wpOp_step rfl (fun K' hK => ?_)
          clear hpre
          rw [if_pos (by rfl)]
          go_simp
          exact hK _ _ ⟨by simp [upd, Act.put], hB⟩
        · -- 7: Op.move (Operand.tmp 8)
          refine wpOp_step rfl (fun K' hK => ?_)
          clear hpre
          rw [if_pos (by rfl)]
          go_simp
          exact hK _ _ ⟨by simp [upd, Act.put], hB⟩
        · -- 8: Op.indexAddr 55 (Operand.tmp 24) (Operand.tmp 25)
          have p6 : l 6 = true := hpre _ rfl ⟨6, .data⟩ (by simp) rfl
          have p7 : l 7 = true := hpre _ rfl ⟨7, .data⟩ (by simp) rfl
          refine wpOp_step rfl (fun K' hK => ?_)
          simp only [p6, p7, cond_true, cond_false]
          clear hpre
          rw [if_pos (by rfl)]
          go_simp
          exact hK _ _ ⟨by simp [upd, Act.put, p6, p7], hB⟩
        · -- 9: Op.fieldAddr 35 (Operand.tmp 26) 1
          have p8 : l 8 = true := hpre _ rfl ⟨8, .data⟩ (by simp) rfl
          refine wpOp_step rfl (fun K' hK => ?_)
          simp only [p8, cond_true, cond_false]
          clear hpre
          rw [if_pos (by rfl)]
          go_simp
          exact hK _ _ ⟨by simp [upd, Act.put, p8], hB⟩
        · -- 10: Op.load 3 (Operand.tmp 27)
          have p9 : l 9 = true := hpre _ rfl ⟨9, .data⟩ (by simp) rfl
          refine wpOp_step rfl (fun K' hK => ?_)
          simp only [p9, cond_true, cond_false]
          clear hpre
          rw [if_pos (by rfl)]
          have g1 : w'.cell? ⟨g, k * 2 + 1, none⟩ = some (.int .i64 (b : Int)) := (Blk.cell (HE3.out.2.2.2.2.keep hB) (k * 2 + 1)).trans HG01.out.2
          go_simp
          exact hK _ _ ⟨by simp [upd, Act.put, p9], hB⟩
        · -- 11: Op.load 35 (Operand.tmp 5)
          refine wpOp_step rfl (fun K' hK => ?_)
          clear hpre
          rw [if_pos (by rfl)]
          refine wp_load_mid 35 _ rfl _ 0 rfl #[Value.int .i64 (v : Int), Value.int .i64 (x : Int)].toList _ (Blk.range (HE3.out.2.2.2.1.below hB (by have := HE3.out.1; omega))) Try.underlying35 rfl sizeSub ?_
          exact hK _ _ ⟨by simp [upd, Act.put], hB⟩
        · -- 12: Op.call { callee := Callee.value (Operand.func 91), args := 
          have p0 : l 0 = true := hpre _ rfl ⟨0, .data⟩ (by simp) rfl
          have p5 : l 5 = true := hpre _ rfl ⟨5, .data⟩ (by simp) rfl
          have p10 : l 10 = true := hpre _ rfl ⟨10, .data⟩ (by simp) rfl
          have p11 : l 11 = true := hpre _ rfl ⟨11, .data⟩ (by simp) rfl
          refine wpOp_step rfl (fun K' hK => ?_)
          simp only [p0, p5, p10, p11, cond_true, cond_false]
          clear hpre
          rw [if_pos (by rfl)]
          go_simp
          refine (HCl.out _).mono ?_
          rintro e w6 ⟨rfl, hb5⟩
          exact hK _ _ ⟨by simp [upd, Act.put, p0, p5, p10, p11], (hB).trans (hb5.mono (hB).size)⟩
      · rintro l a' w9 hall ⟨rfl, hB⟩
        simp only [hall 0 (by decide), hall 1 (by decide), hall 2 (by decide), hall 3 (by decide), hall 4 (by decide), hall 5 (by decide), hall 6 (by decide), hall 7 (by decide), hall 8 (by decide), hall 9 (by decide), hall 10 (by decide), hall 11 (by decide), hall 12 (by decide), cond_true]
        clear hall
        have H6 := Lib.hid hB
        clear hB
        cases hL : ldb d (a : Int) (b : Int) v x with
        | false =>
          have HNy := Lib.hid (HNx.out hL)
          clear hL
          go_wp2_with fail
          go_roundw
          case rel => exact ⟨k + 1, by omega, by go_num, H6, HNy⟩
          case measure => simp [intOf]; omega
        | true =>
          have HYy := Lib.hid (HYs.out hL)
          have H3 : Hid (Below N w w9) := Lib.hid (HE3.out.2.1.trans (H6.out.mono (by have := HE3.out.1; omega)))
          clear hL
          go_wp2_with fail
          go_ret
          exact ⟨⟨(k : Int), rfl, HYy.out⟩, H3.out⟩
    · have l3 : ¬ ((k : Int) < (n : Int)) := by omega
      have HF2 : Hid (Kno d ps v x (-1)) := Lib.hid (.inl ⟨rfl, fun j p hj => HNo.out j p (by have h1 := (List.getElem?_eq_some_iff.1 hj).1; have h2 := HN0.out; omega) hj⟩)
      have H3 : Hid (Below N w wr) := Lib.hid (HE3.out.2.1.trans (HBr.out.mono (by have := HE3.out.1; omega)))
      go_wp2_with fail
      go_ret
      exact ⟨⟨-1, rfl, HF2.out⟩, H3.out⟩

set_option maxRecDepth 100000 in
set_option maxHeartbeats 400000 in
theorem derivations_any (a b m x : Nat) (v : Nat) (w : World) (hx : x < 256) (hm : x ≠ 0 → 1 ≤ m ∧ m < 256 ∧ lv m ≤ lv x) :
    Calls Try.prog 45 #[.agg #[.int .i64 (a : Int), .int .i64 (m : Int)], .agg #[.int .i64 (v : Int), .int .i64 (x : Int)]] w fun e w' => e = .returned (.int .i64 (if x = 0 then 0 else ((lv x - lv m + 1 : Nat) : Int))) ∧ Below w.heap.size w w' := by
  obtain ⟨W2, hW2⟩ : ∃ W2, W2 = (w.alloc (.cells #[.int .i64 (a : Int), .int .i64 (m : Int)] 35)).alloc (.cells #[.int .i64 (v : Int), .int .i64 (x : Int)] 35) := ⟨_, rfl⟩
  have s2 : W2.heap.size = w.heap.size + 2 := by rw [hW2]; simp
  have e1 : Blk W2 w.heap.size #[.int .i64 (a : Int), .int .i64 (m : Int)] 35 := by rw [hW2]; exact (Blk.new w _ _).keep (below_alloc _ _)
  have e2 : Blk W2 (w.heap.size + 1) #[.int .i64 (v : Int), .int .i64 (x : Int)] 35 := by
    have h := Blk.new (w.alloc (.cells #[.int .i64 (a : Int), .int .i64 (m : Int)] 35)) #[.int .i64 (v : Int), .int .i64 (x : Int)] 35
    rw [World.size_alloc] at h; rw [hW2]; exact h
  have l0 : W2.cell? ⟨w.heap.size, 1, none⟩ = some (.int .i64 (m : Int)) := e1.cell 1
  have l1 : W2.cell? ⟨w.heap.size + 1, 1, none⟩ = some (.int .i64 (x : Int)) := e2.cell 1
  have hb : Below w.heap.size w W2 := by rw [hW2]; exact (below_alloc _ _).trans ((below_alloc _ _).mono (by simp))
  have HB := Lib.hid hb
  have HE : Hid (W2.heap.size = w.heap.size + 2 ∧ Blk W2 w.heap.size #[.int .i64 (a : Int), .int .i64 (m : Int)] 35 ∧ Blk W2 (w.heap.size + 1) #[.int .i64 (v : Int), .int .i64 (x : Int)] 35) := Lib.hid ⟨s2, e1, e2⟩
  rw [hW2] at l0 l1
  have HW := Lib.hid hW2
  clear e1 e2 hb s2 hW2
  by_cases h0 : x = 0
  · subst h0
    have HR : Hid ((if (0 : Nat) = 0 then (0 : Int) else ((lv 0 - lv m + 1 : Nat) : Int)) = 0) := Lib.hid (by simp)
    rw [HR.out]
    have HB0 := Lib.hid (by have h := HB.out; rw [HW.out] at h; exact h)
    clear hm
    go_enter Try.func45, Try.ntmps45
    go_wp2_with fail
    go_ret
    exact ⟨rfl, by simpa using HB0.out⟩
  · obtain ⟨m1, m2, m3⟩ := hm h0
    have hz : (x : Int) ≠ 0 := by omega
    have hne : ((x : Int) == 0) = false := beq_eq_false_iff_ne.2 hz
    have HR : Hid ((if x = 0 then (0 : Int) else ((lv x - lv m + 1 : Nat) : Int)) = (lv x : Int) - (lv m : Int) + 1) := Lib.hid (by rw [if_neg h0]; omega)
    rw [HR.out]
    have HL := Lib.hid (fun (n : Nat) (h1 : n < 256) (h2 : 1 ≤ n) w => level_any n w h2 h1)
    have x1 : 1 ≤ x := by omega
    have HX := Lib.hid (And.intro x1 (And.intro hx (And.intro m1 m2)))
    have HLl := Lib.hid (And.intro (lv_lt x hx) (lv_lt m m2))
    clear hm m1 m2 hz h0 x1 hx
    go_enter Try.func45, Try.ntmps45
    go_wp2_with fail
    rw [← HW.out]
    clear l0 l1
    refine wp_region_inv (by kernel_rfl) (by kernel_rfl) (fun l a' w' => a' = { tmps := #[Value.agg #[Value.int IntKind.i64 a, Value.int IntKind.i64 m], Value.agg #[Value.int IntKind.i64 v, Value.int IntKind.i64 x], Value.pointer (some ⟨w.heap.size, 0, none⟩), Value.pointer (some ⟨w.heap.size + 1, 0, none⟩), bif l 8 then Value.int .i64 ((lv x : Int) - (lv m : Int) + 1) else Value.int .i64 (0 : Int), Value.pointer (some ⟨w.heap.size + 1, 1, none⟩), Value.int .i64 (x : Int), Value.bool false, bif l 0 then Value.pointer (some ⟨w.heap.size + 1, 1, none⟩) else undef, bif l 1 then Value.int .i64 (x : Int) else undef, bif l 2 then Value.int .i64 (lv x : Int) else undef, bif l 3 then Value.pointer (some ⟨w.heap.size, 1, none⟩) else undef, bif l 4 then Value.int .i64 (m : Int) else undef, bif l 5 then Value.int .i64 (lv m : Int) else undef, bif l 6 then Value.int .i64 ((lv x : Int) - (lv m : Int)) else undef, bif l 7 then Value.int .i64 ((lv x : Int) - (lv m : Int) + 1) else undef], defers := [] } ∧ (Below W2.heap.size W2 w')) ⟨rfl, (Below.refl _ _).drew⟩ ?_ ?_
    · rintro l a' w' i ⟨rfl, hB⟩ hi' hli hpre
      have hi2 : i < 9 := hi'
      have hcase : i = 0 ∨ i = 1 ∨ i = 2 ∨ i = 3 ∨ i = 4 ∨ i = 5 ∨ i = 6 ∨ i = 7 ∨ i = 8 := by omega
      clear hi' hi2
      rcases hcase with rfl | rfl | rfl | rfl | rfl | rfl | rfl | rfl | rfl
      · -- 0: Op.fieldAddr 35 (Operand.tmp 3) 1
        refine wpOp_step rfl (fun K' hK => ?_)
        clear hpre
        rw [if_pos (by rfl)]
        go_simp
        exact hK _ _ ⟨by simp [upd, Act.put], hB⟩
      · -- 1: Op.load 3 (Operand.tmp 8)
        have p0 : l 0 = true := hpre _ rfl ⟨0, .data⟩ (by simp) rfl
        refine wpOp_step rfl (fun K' hK => ?_)
        simp only [p0, cond_true, cond_false]
        clear hpre
        rw [if_pos (by rfl)]
        have l1 : w'.cell? ⟨w.heap.size + 1, 1, none⟩ = some (.int .i64 (x : Int)) := (HE.out.2.2.keep hB).cell 1
        go_simp
        exact hK _ _ ⟨by simp [upd, Act.put, p0], hB⟩
      · -- 2: Op.call { callee := Callee.value (Operand.func 97), args := 
        have p1 : l 1 = true := hpre _ rfl ⟨1, .data⟩ (by simp) rfl
        refine wpOp_step rfl (fun K' hK => ?_)
        simp only [p1, cond_true, cond_false]
        clear hpre
        rw [if_pos (by rfl)]
        go_simp
        refine (HL.out x HX.out.2.1 HX.out.1 _).mono ?_
        rintro e w6 ⟨rfl, rfl⟩
        exact hK _ _ ⟨by simp [upd, Act.put, p1], hB⟩
      · -- 3: Op.fieldAddr 35 (Operand.tmp 2) 1
        refine wpOp_step rfl (fun K' hK => ?_)
        clear hpre
        rw [if_pos (by rfl)]
        go_simp
        exact hK _ _ ⟨by simp [upd, Act.put], hB⟩
      · -- 4: Op.load 3 (Operand.tmp 11)
        have p3 : l 3 = true := hpre _ rfl ⟨3, .data⟩ (by simp) rfl
        refine wpOp_step rfl (fun K' hK => ?_)
        simp only [p3, cond_true, cond_false]
        clear hpre
        rw [if_pos (by rfl)]
        have l0 : w'.cell? ⟨w.heap.size, 1, none⟩ = some (.int .i64 (m : Int)) := (HE.out.2.1.keep hB).cell 1
        go_simp
        exact hK _ _ ⟨by simp [upd, Act.put, p3], hB⟩
      · -- 5: Op.call { callee := Callee.value (Operand.func 97), args := 
        have p4 : l 4 = true := hpre _ rfl ⟨4, .data⟩ (by simp) rfl
        have p2 : l 2 = true := hpre _ rfl ⟨2, .chain⟩ (by simp) rfl
        refine wpOp_step rfl (fun K' hK => ?_)
        simp only [p4, p2, cond_true, cond_false]
        clear hpre
        rw [if_pos (by rfl)]
        go_simp
        refine (HL.out m HX.out.2.2.2 HX.out.2.2.1 _).mono ?_
        rintro e w6 ⟨rfl, rfl⟩
        exact hK _ _ ⟨by simp [upd, Act.put, p4, p2], hB⟩
      · -- 6: Op.binOp BinOp.sub 3 (Operand.tmp 10) (Operand.tmp 13) 3
        have p2 : l 2 = true := hpre _ rfl ⟨2, .data⟩ (by simp) rfl
        have p5 : l 5 = true := hpre _ rfl ⟨5, .data⟩ (by simp) rfl
        refine wpOp_step rfl (fun K' hK => ?_)
        have hq := HLl.out
        obtain ⟨q1, q2⟩ := hq
        have hj6 : IntKind.i64.wrap ((lv x : Int) - (lv m : Int)) = (lv x : Int) - (lv m : Int) := IntWalk.i64_in _ (by omega)
        simp only [p2, p5, hj6, cond_true, cond_false]
        clear hpre
        rw [if_pos (by rfl)]
        go_simp
        exact hK _ _ ⟨by simp [upd, Act.put, p2, p5, hj6], hB⟩
      · -- 7: Op.binOp BinOp.add 3 (Operand.tmp 14) (Operand.const (Value.
        have p6 : l 6 = true := hpre _ rfl ⟨6, .data⟩ (by simp) rfl
        refine wpOp_step rfl (fun K' hK => ?_)
        have hq := HLl.out
        obtain ⟨q1, q2⟩ := hq
        have hj7 : IntKind.i64.wrap ((lv x : Int) - (lv m : Int) + 1) = (lv x : Int) - (lv m : Int) + 1 := IntWalk.i64_in _ (by omega)
        simp only [p6, hj7, cond_true, cond_false]
        clear hpre
        rw [if_pos (by rfl)]
        go_simp
        exact hK _ _ ⟨by simp [upd, Act.put, p6, hj7], hB⟩
      · -- 8: Op.assign (Operand.tmp 15)
        have p7 : l 7 = true := hpre _ rfl ⟨7, .data⟩ (by simp) rfl
        have p5 : l 5 = true := hpre _ rfl ⟨5, .chain⟩ (by simp) rfl
        have p0 : l 0 = true := hpre _ rfl ⟨0, .phase⟩ (by simp) rfl
        have p1 : l 1 = true := hpre _ rfl ⟨1, .phase⟩ (by simp) rfl
        have p2 : l 2 = true := hpre _ rfl ⟨2, .phase⟩ (by simp) rfl
        have p3 : l 3 = true := hpre _ rfl ⟨3, .phase⟩ (by simp) rfl
        have p4 : l 4 = true := hpre _ rfl ⟨4, .phase⟩ (by simp) rfl
        have p6 : l 6 = true := hpre _ rfl ⟨6, .phase⟩ (by simp) rfl
        refine wpOp_step rfl (fun K' hK => ?_)
        simp only [p7, p5, p0, p1, p2, p3, p4, p6, cond_true, cond_false]
        clear hpre
        rw [if_pos (by rfl)]
        go_simp
        exact hK _ _ ⟨by simp [upd, Act.put, p7, p5, p0, p1, p2, p3, p4, p6], hB⟩
    · rintro l a' w9 hall ⟨rfl, hB⟩
      simp only [hall 0 (by decide), hall 1 (by decide), hall 2 (by decide), hall 3 (by decide), hall 4 (by decide), hall 5 (by decide), hall 6 (by decide), hall 7 (by decide), hall 8 (by decide), cond_true]
      clear hall
      have H3 : Hid (Below w.heap.size w w9) := Lib.hid (HB.out.trans (hB.mono (by rw [HE.out.1]; omega)))
      clear hB
      go_wp2_with fail
      go_ret
      exact ⟨rfl, H3.out⟩
end Go.Proofs.Ytelalpikdidpeaa
