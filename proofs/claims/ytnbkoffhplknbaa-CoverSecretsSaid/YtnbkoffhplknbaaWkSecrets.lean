/-
  The walk of the law CoverSecrets.
-/
import Derived.Test.YtnbkoffhplknbaaSecJ
namespace Go.Proofs.Ytnbkoffhplknbaa
open Go.RowKit TR L2 L2.SP
set_option linter.unusedVariables false
set_option linter.unusedSimpArgs false

/-- The pairs of a secret, none where there is an error. -/
def pls (K D E : Int) (P Q G : Nat) (u : Int) : List (Nat × Nat) := if secc K D E P Q G u = 0 then plc K D.toNat (2 ^ D.toNat + u.toNat) else []
def rcv (K D E : Int) (P Q G : Nat) (u : Int) : Int := if secc K D E P Q G u = 0 then u else 0
theorem own_cap {w : World} {B e s n : Nat} {v : Value} {xs : List Value} (h : w.ownsRow B e s v n xs) : ∃ A c, v = .slice A n c ∧ n ≤ c ∧ (n = 0 ∨ ∃ g, A = some ⟨g, 0, none⟩ ∧ B ≤ g ∧ g < w.heap.size ∧ (∀ i x, xs[i]? = some x → w.cell? ⟨g, i, none⟩ = some x) ∧ ∃ cur, Blk w g cur e ∧ ∀ (i : Nat) (x : Value), xs[i]? = some x → cur[i]? = some x) := by
  rcases Nat.eq_zero_or_pos n with h0 | h0
  · rcases h.2 with ⟨h1, _⟩ | ⟨g, cap, cur, hv, hb, hg, hnc, hcm, hcs, ht⟩
    · exact ⟨none, 0, by rw [h1, h0], by omega, .inl h0⟩
    · exact ⟨_, _, hv, hnc, .inl h0⟩
  · obtain ⟨g, c, cur, e1, e2, e3, e4, e5, e6⟩ := own_blk h h0
    exact ⟨_, _, e1, e3, .inr ⟨g, rfl, e2, e5.lt, fun i x hx => (e5.cell i).trans (e6 i x hx), cur, e5, e6⟩⟩
theorem own_lower {w : World} {B B' e s n : Nat} {v : Value} {xs : List Value} (hB : B ≤ B') (h : w.ownsRow B' e s v n xs) : w.ownsRow B e s v n xs := by
  refine ⟨h.1, ?_⟩
  rcases h.2 with h2 | ⟨g, cap, cur, hv, hb, r⟩
  · exact .inl h2
  · exact .inr ⟨g, cap, cur, hv, Nat.le_trans hB hb, r⟩
theorem lbs_get (K : Int) (p : Nat × Nat) : ∀ (ps : List (Nat × Nat)) (i : Nat) (t : Nat × Nat) (j : Nat), ps[i]? = some t → j < 18 → (lbs K p ps)[i * 18 + j]? = (lbl (t.1 : Int) (t.2 : Int) (sky K p t.1 t.2))[j]?
  | [], i, t, j, h, _ => by simp at h
  | s :: r, 0, t, j, h, hj => by
    simp at h; subst h
    unfold lbs
    rw [List.flatMap_cons, Nat.zero_mul, Nat.zero_add, List.getElem?_append_left (by rw [lbl_len]; exact hj)]
  | s :: r, i + 1, t, j, h, hj => by
    have ih := lbs_get K p r i t j (by simpa using h) hj
    unfold lbs at ih ⊢
    rw [List.flatMap_cons, List.getElem?_append_right (by rw [lbl_len]; omega), lbl_len, show (i + 1) * 18 + j - 18 = i * 18 + j by omega]
    exact ih
theorem lbs_len (K : Int) (p : Nat × Nat) (ps : List (Nat × Nat)) : (lbs K p ps).length = ps.length * 18 := by
  unfold lbs
  induction ps with
  | nil => rfl
  | cons a r ih => rw [List.flatMap_cons, List.length_append, lbl_len, ih, List.length_cons]; omega
/-- What a secret is, in one word. -/
theorem secret_u (p : Nat × Nat) (K D E u : Int) (P Q G : Nat) (w : World) (hp : Ok p) (hK0 : 0 ≤ K) (hK1 : K ≤ 255) :
    Calls Try.prog 37 #[.agg (kl p.1 p.2).toArray, .agg #[.int .u8 K, .int .i64 D, .int .i64 E, .int .u64 (P : Int), .int .u64 (Q : Int), .int .u64 (G : Int)], .int .i64 u] w fun e w' => (∃ v, e = .returned (.tuple #[.agg (sc4 (rcv K D E P Q G u) v), .int .i64 (secc K D E P Q G u)]) ∧ w'.ownsRow w.heap.size 70 18 v (pls K D E P Q G u).length (lbs K p (pls K D E P Q G u))) ∧ Below w.heap.size w w' := by
  refine (secret_any p K D E u P Q G w hp hK0 hK1).mono ?_
  rintro e w' ⟨⟨rr, v, rfl, h1, h2⟩, hb⟩
  unfold rcv pls
  by_cases h : secc K D E P Q G u = 0
  · obtain ⟨rfl, ho⟩ := h2 h
    rw [if_pos h, if_pos h]; exact ⟨⟨v, rfl, ho⟩, hb⟩
  · obtain ⟨rfl, rfl⟩ := h1 h
    rw [if_neg h, if_neg h]; exact ⟨⟨_, rfl, World.ownsRow_nil _ _ _ _⟩, hb⟩
theorem refSecret_u (p : Nat × Nat) (K D E u : Int) (P Q G : Nat) (w : World) (hp : Ok p) (hK0 : 0 ≤ K) (hK1 : K ≤ 255) :
    Calls Try.prog 38 #[.agg (kl p.1 p.2).toArray, .agg #[.int .u8 K, .int .i64 D, .int .i64 E, .int .u64 (P : Int), .int .u64 (Q : Int), .int .u64 (G : Int)], .int .i64 u] w fun e w' => (∃ v, e = .returned (.tuple #[.agg (sc4 (rcv K D E P Q G u) v), .int .i64 (secc K D E P Q G u)]) ∧ w'.ownsRow w.heap.size 70 18 v (pls K D E P Q G u).length (lbs K p (pls K D E P Q G u))) ∧ Below w.heap.size w w' := by
  refine (refSecret_any p K D E u P Q G w hp hK0 hK1).mono ?_
  rintro e w' ⟨⟨rr, v, rfl, h1, h2⟩, hb⟩
  unfold rcv pls
  by_cases h : secc K D E P Q G u = 0
  · obtain ⟨rfl, ho⟩ := h2 h
    rw [if_pos h, if_pos h]; exact ⟨⟨v, rfl, ho⟩, hb⟩
  · obtain ⟨rfl, rfl⟩ := h1 h
    rw [if_neg h, if_neg h]; exact ⟨⟨_, rfl, World.ownsRow_nil _ _ _ _⟩, hb⟩
theorem pls_ok (K D E : Int) (P Q G : Nat) (u : Int) : (pls K D E P Q G u).length ≤ 64 ∧ ∀ t ∈ pls K D E P Q G u, t.1 < 256 := by
  unfold pls
  split
  · rename_i h
    unfold secc at h
    split at h
    · rename_i hs
      split at h
      · rename_i hr
        have h1 : ScOk K D E P Q G := of_decide_eq_true hs
        have h2 := of_decide_eq_true hr
        obtain ⟨d, rfl⟩ := Int.eq_ofNat_of_zero_le h1.2.2.1
        obtain ⟨r, rfl⟩ := Int.eq_ofNat_of_zero_le h2.1
        simp only [Int.toNat_natCast] at h2 ⊢
        have hd : d < 7 := by have := h1.2.2.2.1; omega
        have hrd : r < 2 ^ d := by omega
        exact ⟨plc_len K d r hd hrd, fun t ht => (plc_ok K d r hd hrd t ht).2.1⟩
      · cases h
    · cases h
  · simp
/-- Two rows of the same labels are equal secrets. -/
theorem same_rows (K : Int) (p : Nat × Nat) (ps : List (Nat × Nat)) (r : Int) (B1 B2 : Nat) (v1 v2 : Value) (w : World) (hn : ps.length ≤ 64) (h1 : w.ownsRow B1 70 18 v1 ps.length (lbs K p ps)) (h2 : w.ownsRow B2 70 18 v2 ps.length (lbs K p ps)) :
    Calls Try.prog 39 #[.agg (sc4 r v1), .agg (sc4 r v2)] w fun e w' => e = .returned (.bool true) ∧ Below w.heap.size w w' := by
  obtain ⟨A1, c1, rfl, hc1, k1⟩ := own_cap h1
  obtain ⟨A2, c2, rfl, hc2, k2⟩ := own_cap h2
  rcases k1 with h0 | ⟨g1, rfl, _, _, q1, _⟩
  · exact sameSecret_eq r A1 A2 0 0 ps.length c1 c2 (fun _ => (0, 0, (0, 0))) w (by omega) hc1 hc2 (.inl h0) (fun i hi => by omega)
  · rcases k2 with h0 | ⟨g2, rfl, _, _, q2, _⟩
    · exact sameSecret_eq r _ A2 0 0 ps.length c1 c2 (fun _ => (0, 0, (0, 0))) w (by omega) hc1 hc2 (.inl h0) (fun i hi => by omega)
    · refine sameSecret_eq r _ _ g1 g2 ps.length c1 c2 (fun i => (((ps.getD i (0, 0)).1 : Int), ((ps.getD i (0, 0)).2 : Int), sky K p (ps.getD i (0, 0)).1 (ps.getD i (0, 0)).2)) w (by omega) hc1 hc2 (.inr ⟨rfl, rfl⟩) (fun i hi => ?_)
      have hg : ps[i]? = some (ps.getD i (0, 0)) := by rw [List.getElem?_eq_getElem hi]; simp [List.getD, hi]
      refine ⟨fun j x hx => q1 _ _ ?_, fun j x hx => q2 _ _ ?_⟩
      all_goals
        have hj : j < 18 := by rw [← lbl_len ((ps.getD i (0, 0)).1 : Int) ((ps.getD i (0, 0)).2 : Int) (sky K p (ps.getD i (0, 0)).1 (ps.getD i (0, 0)).2)]; exact (List.getElem?_eq_some_iff.1 hx).1
        rw [lbs_get K p ps i _ j hg hj]; exact hx

set_option maxRecDepth 100000 in
set_option maxHeartbeats 400000 in
theorem secrets_walk (p : Nat × Nat) (K D E u : Int) (P Q G : Nat) (w : World) (hp : Ok p) (hK0 : 0 ≤ K) (hK1 : K ≤ 255) :
    Calls Try.prog 7 #[.agg (kl p.1 p.2).toArray, .agg #[.int .u8 K, .int .i64 D, .int .i64 E, .int .u64 (P : Int), .int .u64 (Q : Int), .int .u64 (G : Int)], .int .i64 u] w fun e w' => e = .returned (.bool true) ∧ Below w.heap.size w w' := by
  obtain ⟨N, hN⟩ : ∃ N, N = w.heap.size := ⟨_, rfl⟩
  obtain ⟨W2, hW2⟩ : ∃ W2, W2 = (w.alloc (.cells (kl p.1 p.2).toArray 58)).alloc (.cells #[.int .u8 K, .int .i64 D, .int .i64 E, .int .u64 (P : Int), .int .u64 (Q : Int), .int .u64 (G : Int)] 28) := ⟨_, rfl⟩
  have s2 : W2.heap.size = N + 2 := by rw [hW2, hN]; simp
  have b2 : Below N w W2 := by rw [hW2, hN]; exact (below_alloc _ _).trans ((below_alloc _ _).mono (by simp))
  have e1 : Kbx W2 N p := by rw [hW2, hN]; exact (Blk.new w _ _).keep (below_alloc _ _)
  have e2 : Blk W2 (N + 1) #[.int .u8 K, .int .i64 D, .int .i64 E, .int .u64 (P : Int), .int .u64 (Q : Int), .int .u64 (G : Int)] 28 := by
    have h := Blk.new (w.alloc (.cells (kl p.1 p.2).toArray 58)) #[.int .u8 K, .int .i64 D, .int .i64 E, .int .u64 (P : Int), .int .u64 (Q : Int), .int .u64 (G : Int)] 28
    rw [World.size_alloc, ← hN] at h; rw [hW2]; exact h
  have HE : Hid (W2.heap.size = N + 2 ∧ Below N w W2 ∧ Kbx W2 N p ∧ Blk W2 (N + 1) #[.int .u8 K, .int .i64 D, .int .i64 E, .int .u64 (P : Int), .int .u64 (Q : Int), .int .u64 (G : Int)] 28) := Lib.hid ⟨s2, b2, e1, e2⟩
  have HA := Lib.hid (fun w => secret_u p K D E u P Q G w hp hK0 hK1)
  have HB := Lib.hid (fun w => refSecret_u p K D E u P Q G w hp hK0 hK1)
  have hpl := pls_ok K D E P Q G u
  obtain ⟨ps, hps⟩ : ∃ ps, ps = pls K D E P Q G u := ⟨_, rfl⟩
  obtain ⟨rr, hrr⟩ : ∃ rr, rr = rcv K D E P Q G u := ⟨_, rfl⟩
  obtain ⟨cd, hcd⟩ : ∃ cd, cd = secc K D E P Q G u := ⟨_, rfl⟩
  rw [← hps, ← hrr, ← hcd] at HA HB
  rw [← hps] at hpl
  have HSm := Lib.hid (fun (B1 B2 : Nat) (v1 v2 : Value) (w : World) h1 h2 => same_rows K p ps rr B1 B2 v1 v2 w hpl.1 h1 h2)
  have HGt : Hid (∀ i, i < ps.length → ∃ z : Nat, z < 256 ∧ (lbs K p ps)[i * 18]? = some (.int .i64 (z : Int))) := Lib.hid (fun i hi => by
    have hg : ps[i]? = some ps[i] := List.getElem?_eq_getElem hi
    exact ⟨ps[i].1, hpl.2 _ (List.getElem_mem hi), by have h := lbs_get K p ps i ps[i] 0 hg (by omega); rw [Nat.add_zero] at h; rw [h]; rfl⟩)
  have hn64 := hpl.1
  obtain ⟨xs, hxs⟩ : ∃ xs, xs = lbs K p ps := ⟨_, rfl⟩
  obtain ⟨n, hn⟩ : ∃ n, n = ps.length := ⟨_, rfl⟩
  rw [← hxs, ← hn] at HA HB HSm
  rw [← hxs, ← hn] at HGt
  rw [← hn] at hn64
  have HN := Lib.hid hN
  have HW := Lib.hid hW2
  rw [← hN]
  have c0 : W2.cell? ⟨N + 1, 0, none⟩ = some (.int .u8 K) := e2.cell 0
  have c1 : W2.cell? ⟨N + 1, 1, none⟩ = some (.int .i64 D) := e2.cell 1
  have c2 : W2.cell? ⟨N + 1, 2, none⟩ = some (.int .i64 E) := e2.cell 2
  have c3 : W2.cell? ⟨N + 1, 3, none⟩ = some (.int .u64 (P : Int)) := e2.cell 3
  have c4 : W2.cell? ⟨N + 1, 4, none⟩ = some (.int .u64 (Q : Int)) := e2.cell 4
  have c5 : W2.cell? ⟨N + 1, 5, none⟩ = some (.int .u64 (G : Int)) := e2.cell 5
  rw [hW2, hN] at c0 c1 c2 c3 c4 c5
  clear hN hW2 s2 b2 e1 e2 hK0 hK1 hp hpl hps hrr hcd hxs hn
  go_enter Try.func7, Try.ntmps7
  go_wp2_with ((with_reducible show wpList _ _ _ (Oper.mk _ (Op.load 58 _) _ _ _ _ :: _) _ _); refine wpList_load_key rfl _ rfl _ rfl _ _ (by rw [← HW.out, ← HN.out]; exact Kbx.at_ HE.out.2.2.1) ?_)
  rw [← HW.out, ← HN.out]
  refine (HA.out _).mono ?_
  rintro e w3 ⟨⟨v3, rfl, ho3⟩, hb3⟩
  obtain ⟨A3, m3, rfl, hm3, kk3⟩ := own_cap ho3
  have HO3 := Lib.hid ho3
  have HK3 := Lib.hid kk3
  have HE3 : Hid (N + 2 ≤ w3.heap.size ∧ Below N w w3 ∧ Kbx w3 N p ∧ Blk w3 (N + 1) #[.int .u8 K, .int .i64 D, .int .i64 E, .int .u64 (P : Int), .int .u64 (Q : Int), .int .u64 (G : Int)] 28) := Lib.hid ⟨by rw [← HE.out.1]; exact hb3.size, HE.out.2.1.trans (hb3.mono (by rw [HE.out.1]; omega)), HE.out.2.2.1.keep hb3, HE.out.2.2.2.keep hb3⟩
  clear hb3 ho3 kk3 c0 c1 c2 c3 c4 c5
  have hA := Blk.new w3 (sc4 0 (.slice none 0 0)) 63
  have hth : (w3.alloc (.cells (sc4 0 (.slice none 0 0)) 63)).there w3.heap.size 0 4 := hA.there
  obtain ⟨W4, hW4⟩ : ∃ W4, W4 = (w3.alloc (.cells (sc4 0 (.slice none 0 0)) 63)).setCells w3.heap.size 0 (sc4 rr (.slice A3 n m3)).toList := ⟨_, rfl⟩
  have b34 : Below w3.heap.size w3 W4 := by rw [hW4]; exact below_setCells _ _ _ _ (below_alloc _ _) (Nat.le_refl _)
  have hl4 : Blk W4 w3.heap.size (sc4 rr (.slice A3 n m3)) 63 := by rw [hW4]; exact Blk.setAll hA _ rfl
  obtain ⟨sa, hsa⟩ : ∃ sa, sa = w3.heap.size := ⟨_, rfl⟩
  have s4 : W4.heap.size = sa + 1 := by rw [hW4, size_setCells]; simp [hsa]
  have HSA : Hid (sa = w3.heap.size ∧ N + 2 ≤ sa ∧ W4.heap.size = sa + 1) := Lib.hid ⟨hsa, by rw [hsa]; exact HE3.out.1, s4⟩
  have HE4 : Hid (Below N w W4 ∧ Kbx W4 N p ∧ Blk W4 (N + 1) #[.int .u8 K, .int .i64 D, .int .i64 E, .int .u64 (P : Int), .int .u64 (Q : Int), .int .u64 (G : Int)] 28 ∧ Blk W4 sa (sc4 rr (.slice A3 n m3)) 63 ∧ W4.ownsRow (N + 2) 70 18 (.slice A3 n m3) n xs) := Lib.hid ⟨HE3.out.2.1.trans (b34.mono (by have := HE3.out.1; omega)), HE3.out.2.2.1.keep b34, HE3.out.2.2.2.keep b34, by rw [hsa]; exact hl4, by have h := own_below HO3.out b34; rw [HE.out.1] at h; exact h⟩
  have H4 := HE4.out.2.2.1
  have c0 : W4.cell? ⟨N + 1, 0, none⟩ = some (.int .u8 K) := H4.cell 0
  have c1 : W4.cell? ⟨N + 1, 1, none⟩ = some (.int .i64 D) := H4.cell 1
  have c2 : W4.cell? ⟨N + 1, 2, none⟩ = some (.int .i64 E) := H4.cell 2
  have c3 : W4.cell? ⟨N + 1, 3, none⟩ = some (.int .u64 (P : Int)) := H4.cell 3
  have c4 : W4.cell? ⟨N + 1, 4, none⟩ = some (.int .u64 (Q : Int)) := H4.cell 4
  have c5 : W4.cell? ⟨N + 1, 5, none⟩ = some (.int .u64 (G : Int)) := H4.cell 5
  rw [hW4] at c0 c1 c2 c3 c4 c5
  have HW4 := Lib.hid hW4
  have HTh := Lib.hid hth
  have HB34 := Lib.hid b34
  clear hW4 hth hA b34 hl4 s4 H4 hsa
  go_wp2_with (first
    | ((with_reducible show wpList _ _ _ (Oper.mk _ (Op.store 63 _ _) _ _ _ _ :: _) _ _); refine wpList_store_sec rfl _ _ rfl _ _ _ rfl rfl rfl HTh.out ?_)
    | ((with_reducible show wpList _ _ _ (Oper.mk _ (Op.load 58 _) _ _ _ _ :: _) _ _); refine wpList_load_key rfl _ rfl _ rfl _ _ (by rw [← HW4.out]; exact Kbx.at_ HE4.out.2.1) ?_))
  rw [← HW4.out, ← HSA.out.1]
  refine (HB.out _).mono ?_
  rintro e w5 ⟨⟨v5, rfl, ho5⟩, hb5⟩
  obtain ⟨A5, m5, rfl, hm5, kk5⟩ := own_cap ho5
  have HO5 : Hid (w5.ownsRow (sa + 1) 70 18 (.slice A5 n m5) n xs) := Lib.hid (by rw [← HSA.out.2.2]; exact ho5)
  have HE5 : Hid (sa + 1 ≤ w5.heap.size ∧ Below N w w5 ∧ Kbx w5 N p ∧ Blk w5 (N + 1) #[.int .u8 K, .int .i64 D, .int .i64 E, .int .u64 (P : Int), .int .u64 (Q : Int), .int .u64 (G : Int)] 28 ∧ Blk w5 sa (sc4 rr (.slice A3 n m3)) 63 ∧ w5.ownsRow (N + 2) 70 18 (.slice A3 n m3) n xs) := Lib.hid ⟨by rw [← HSA.out.2.2]; exact hb5.size, HE4.out.1.trans (hb5.mono (by rw [HSA.out.2.2]; have := HSA.out.2.1; omega)), HE4.out.2.1.keep hb5, HE4.out.2.2.1.keep hb5, HE4.out.2.2.2.1.keep hb5, own_below HE4.out.2.2.2.2 hb5⟩
  have HB35 : Hid (Below w3.heap.size w3 w5) := Lib.hid (HB34.out.trans (hb5.mono (by rw [HSA.out.2.2, ← HSA.out.1]; omega)))
  clear hb5 ho5 kk5 c0 c1 c2 c3 c4 c5
  have hA := Blk.new w5 (sc4 0 (.slice none 0 0)) 63
  have hth : (w5.alloc (.cells (sc4 0 (.slice none 0 0)) 63)).there w5.heap.size 0 4 := hA.there
  obtain ⟨W6, hW6⟩ : ∃ W6, W6 = (w5.alloc (.cells (sc4 0 (.slice none 0 0)) 63)).setCells w5.heap.size 0 (sc4 rr (.slice A5 n m5)).toList := ⟨_, rfl⟩
  have b56 : Below w5.heap.size w5 W6 := by rw [hW6]; exact below_setCells _ _ _ _ (below_alloc _ _) (Nat.le_refl _)
  have hl6 : Blk W6 w5.heap.size (sc4 rr (.slice A5 n m5)) 63 := by rw [hW6]; exact Blk.setAll hA _ rfl
  obtain ⟨sb, hsb⟩ : ∃ sb, sb = w5.heap.size := ⟨_, rfl⟩
  have HSB : Hid (sb = w5.heap.size ∧ sa + 1 ≤ sb ∧ W6.heap.size = sb + 1) := Lib.hid ⟨hsb, by rw [hsb]; exact HE5.out.1, by rw [hW6, size_setCells]; simp [hsb]⟩
  have HE6 : Hid (Below N w W6 ∧ Kbx W6 N p ∧ Blk W6 (N + 1) #[.int .u8 K, .int .i64 D, .int .i64 E, .int .u64 (P : Int), .int .u64 (Q : Int), .int .u64 (G : Int)] 28 ∧ Blk W6 sa (sc4 rr (.slice A3 n m3)) 63 ∧ Blk W6 sb (sc4 rr (.slice A5 n m5)) 63 ∧ W6.ownsRow (N + 2) 70 18 (.slice A3 n m3) n xs ∧ W6.ownsRow (sa + 1) 70 18 (.slice A5 n m5) n xs) := Lib.hid ⟨HE5.out.2.1.trans (b56.mono (by have := HE5.out.1; have := HSA.out.2.1; omega)), HE5.out.2.2.1.keep b56, HE5.out.2.2.2.1.keep b56, HE5.out.2.2.2.2.1.keep b56, by rw [hsb]; exact hl6, own_below HE5.out.2.2.2.2.2 b56, own_below HO5.out b56⟩
  have HW6 := Lib.hid hW6
  have HTh2 := Lib.hid hth
  have HS6 := Lib.hid (HSm.out (N + 2) (sa + 1) (.slice A3 n m3) (.slice A5 n m5) W6 HE6.out.2.2.2.2.2.1 HE6.out.2.2.2.2.2.2)
  have HSA2 : Hid (Below w3.heap.size w3 W6) := Lib.hid (HB35.out.trans (b56.mono (by rw [← HSA.out.1]; have := HE5.out.1; omega)))
  clear hW6 hth hA b56 hl6 hsb
  go_wp2_with (first
    | ((with_reducible show wpList _ _ _ (Oper.mk _ (Op.store 63 _ _) _ _ _ _ :: _) _ _); refine wpList_store_sec rfl _ _ rfl _ _ _ rfl rfl rfl HTh2.out ?_)
    | ((with_reducible show wpList _ _ _ (Oper.mk _ (Op.load 63 _) _ _ _ _ :: _) _ _); refine wpList_load_sec rfl _ rfl _ rfl _ _ (by rw [← HW6.out]; exact HE6.out.2.2.2.1) ?_)
    | ((with_reducible show wpList _ _ _ (Oper.mk _ (Op.load 63 _) _ _ _ _ :: _) _ _); refine wpList_load_sec rfl _ rfl _ rfl _ _ (by rw [← HW6.out, ← HSB.out.1]; exact HE6.out.2.2.2.2.1) ?_))
  rw [← HW6.out]
  refine HS6.out.mono ?_
  rintro e w7 ⟨rfl, hb7⟩
  have HE7 : Hid (sb + 1 ≤ w7.heap.size ∧ Below N w w7 ∧ Kbx w7 N p ∧ Blk w7 (N + 1) #[.int .u8 K, .int .i64 D, .int .i64 E, .int .u64 (P : Int), .int .u64 (Q : Int), .int .u64 (G : Int)] 28 ∧ Blk w7 sa (sc4 rr (.slice A3 n m3)) 63 ∧ Blk w7 sb (sc4 rr (.slice A5 n m5)) 63 ∧ w7.ownsRow (sa + 1) 70 18 (.slice A5 n m5) n xs) := Lib.hid ⟨by rw [← HSB.out.2.2]; exact hb7.size, HE6.out.1.trans (hb7.mono (by rw [HSB.out.2.2]; have := HSB.out.2.1; have := HSA.out.2.1; omega)), HE6.out.2.1.keep hb7, HE6.out.2.2.1.keep hb7, HE6.out.2.2.2.1.keep hb7, HE6.out.2.2.2.2.1.keep hb7, own_below HE6.out.2.2.2.2.2.2 hb7⟩
  have HR7 : Hid (n = 0 ∨ ∃ g cur, A3 = some ⟨g, 0, none⟩ ∧ N + 2 ≤ g ∧ g < sa ∧ Blk w7 g cur 70 ∧ ∀ i, i < n → ∃ z : Nat, z < 256 ∧ cur[i * 18]? = some (.int .i64 (z : Int))) := Lib.hid (by
    rcases HK3.out with h0 | ⟨g, h1, h2, h3, h4, cur, h5, h6⟩
    · exact .inl h0
    · rw [HE.out.1] at h2
      rw [← HSA.out.1] at h3
      have b37 : Below w3.heap.size w3 w7 := HSA2.out.trans (hb7.mono (by rw [HSB.out.2.2]; have := HSB.out.2.1; rw [← HSA.out.1]; omega))
      refine .inr ⟨g, cur, h1, h2, h3, h5.keep b37, fun i hi => ?_⟩
      obtain ⟨z, hz, hx⟩ := HGt.out i hi
      exact ⟨z, hz, h6 _ _ hx⟩)
  clear hb7
  go_wp2_with fail
  go_loopw [11] (fun i wr => ∃ (k : Nat), k ≤ n ∧ i = .int .i64 (k : Int) ∧ Hid (sa + 1 ≤ wr.heap.size ∧ Below N w wr ∧ Kbx wr N p ∧ Blk wr (N + 1) #[.int .u8 K, .int .i64 D, .int .i64 E, .int .u64 (P : Int), .int .u64 (Q : Int), .int .u64 (G : Int)] 28 ∧ Blk wr sa (sc4 rr (.slice A3 n m3)) 63 ∧ Blk wr sb (sc4 rr (.slice A5 n m5)) 63 ∧ wr.ownsRow (sa + 1) 70 18 (.slice A5 n m5) n xs ∧ (n = 0 ∨ ∃ g cur, A3 = some ⟨g, 0, none⟩ ∧ N + 2 ≤ g ∧ g < sa ∧ Blk wr g cur 70 ∧ ∀ i, k ≤ i → i < n → ∃ z : Nat, z < 256 ∧ cur[i * 18]? = some (.int .i64 (z : Int))))) (fun i _ => n - (intOf i).toNat)
  case atStart => exact ⟨0, by omega, rfl, Lib.hid ⟨by have := HE7.out.1; have := HSB.out.2.1; omega, HE7.out.2.1, HE7.out.2.2.1, HE7.out.2.2.2.1, HE7.out.2.2.2.2.1, HE7.out.2.2.2.2.2.1, HE7.out.2.2.2.2.2.2, by
    rcases HR7.out with h0 | ⟨g, cur, h1, h2, h3, h4, h5⟩
    · exact .inl h0
    · exact .inr ⟨g, cur, h1, h2, h3, h4, fun i _ hi => h5 i hi⟩⟩⟩
  case round =>
    obtain ⟨k, hk, rfl, HBr⟩ := hrel
    have ca : wr.cell? ⟨sa, 1, none⟩ = some (.slice A3 n m3) := HBr.out.2.2.2.2.1.cell 1
    by_cases hlt : k < n
    · rcases HBr.out.2.2.2.2.2.2.2 with h0 | ⟨g, cur, rfl, hg1, hg2, hg3, hg4⟩
      · omega
      obtain ⟨z, hz, hzc⟩ := hg4 k (by omega) hlt
      have l1 : (0 : Int) ≤ (k : Int) := by omega
      have l2 : (k : Int) < (n : Int) := by omega
      have ck : wr.cell? ⟨g, k * 18, none⟩ = some (.int .i64 (z : Int)) := (hg3.cell _).trans hzc
      have cf : wr.frozen? ⟨g, k * 18, none⟩ = false := hg3.fr _
      have HG := Lib.hid (And.intro hg1 hg2)
      have HG3 := Lib.hid hg3
      have HG4 := Lib.hid hg4
      clear hg1 hg2 hg3 hg4 hzc hk
      go_wp2_with fail
      go_roundw
      case rel =>
        obtain ⟨r1, r2, r3, r4, r5, r6, r7, _⟩ := HBr.out
        have hN := HSA.out.2.1
        have hsb := HSB.out.2.1
        have hg := HG.out
        refine ⟨k + 1, by omega, by go_num, Lib.hid ⟨by rw [World.size_setCell]; exact r1, r2.setCell (p := ⟨g, k * 18, none⟩) (by show N ≤ g; omega) _, Blk.other r3 (by show g ≠ N; omega) _, r4.other (by show g ≠ N + 1; omega) _, r5.other (by show g ≠ sa; omega) _, r6.other (by show g ≠ sb; omega) _, ?_, .inr ⟨g, _, rfl, hg.1, hg.2, HG3.out.set1 _ _, fun i hi1 hi2 => ?_⟩⟩⟩
        · refine ownsRow_setCell_other r7 (fun e => ?_) _
          have : sa + 1 ≤ g := own_block r7 e.symm
          omega
        · obtain ⟨z2, hz2, hx2⟩ := HG4.out i (by omega) hi2
          refine ⟨z2, hz2, ?_⟩
          rw [Array.getElem?_setIfInBounds_ne (by omega)]
          exact hx2
      case measure => simp [intOf]; omega
    · have l3 : ¬ ((k : Int) < (n : Int)) := by omega
      have H4 := HBr.out.2.2.2.1
      have c0 : wr.cell? ⟨N + 1, 0, none⟩ = some (.int .u8 K) := H4.cell 0
      have c1 : wr.cell? ⟨N + 1, 1, none⟩ = some (.int .i64 D) := H4.cell 1
      have c2 : wr.cell? ⟨N + 1, 2, none⟩ = some (.int .i64 E) := H4.cell 2
      have c3 : wr.cell? ⟨N + 1, 3, none⟩ = some (.int .u64 (P : Int)) := H4.cell 3
      have c4 : wr.cell? ⟨N + 1, 4, none⟩ = some (.int .u64 (Q : Int)) := H4.cell 4
      have c5 : wr.cell? ⟨N + 1, 5, none⟩ = some (.int .u64 (G : Int)) := H4.cell 5
      clear H4
      go_wp2_with ((with_reducible show wpList _ _ _ (Oper.mk _ (Op.load 58 _) _ _ _ _ :: _) _ _); refine wpList_load_key rfl _ rfl _ rfl _ _ (Kbx.at_ HBr.out.2.2.1) ?_)
      refine (HA.out _).mono ?_
      rintro e w8 ⟨⟨v8, rfl, ho8⟩, hb8⟩
      obtain ⟨A8, m8, rfl, hm8, _⟩ := own_cap ho8
      have HO8 : Hid (w8.ownsRow (sa + 1) 70 18 (.slice A8 n m8) n xs ∧ w8.ownsRow (sa + 1) 70 18 (.slice A5 n m5) n xs) := Lib.hid ⟨own_lower HBr.out.1 ho8, own_below HBr.out.2.2.2.2.2.2.1 hb8⟩
      have HE8 : Hid (N ≤ w8.heap.size ∧ Below N w w8 ∧ Blk w8 sb (sc4 rr (.slice A5 n m5)) 63) := Lib.hid ⟨by have := hb8.size; have := HBr.out.1; have := HSA.out.2.1; omega, HBr.out.2.1.trans (hb8.mono (by have := HBr.out.1; have := HSA.out.2.1; omega)), HBr.out.2.2.2.2.2.1.keep hb8⟩
      clear hb8 ho8 c0 c1 c2 c3 c4 c5
      have hA := Blk.new w8 (sc4 0 (.slice none 0 0)) 63
      have hth : (w8.alloc (.cells (sc4 0 (.slice none 0 0)) 63)).there w8.heap.size 0 4 := hA.there
      obtain ⟨W9, hW9⟩ : ∃ W9, W9 = (w8.alloc (.cells (sc4 0 (.slice none 0 0)) 63)).setCells w8.heap.size 0 (sc4 rr (.slice A8 n m8)).toList := ⟨_, rfl⟩
      have b89 : Below w8.heap.size w8 W9 := by rw [hW9]; exact below_setCells _ _ _ _ (below_alloc _ _) (Nat.le_refl _)
      have hl9 : Blk W9 w8.heap.size (sc4 rr (.slice A8 n m8)) 63 := by rw [hW9]; exact Blk.setAll hA _ rfl
      have s9 : W9.heap.size = w8.heap.size + 1 := by rw [hW9, size_setCells]; simp
      have HE9 : Hid (Below N w W9 ∧ Blk W9 sb (sc4 rr (.slice A5 n m5)) 63 ∧ Blk W9 w8.heap.size (sc4 rr (.slice A8 n m8)) 63) := Lib.hid ⟨HE8.out.2.1.trans (b89.mono HE8.out.1), HE8.out.2.2.keep b89, hl9⟩
      have HS9 := Lib.hid (HSm.out (sa + 1) (sa + 1) (.slice A8 n m8) (.slice A5 n m5) W9 (own_below HO8.out.1 b89) (own_below HO8.out.2 b89))
      have HZ9 : Hid (N ≤ W9.heap.size) := Lib.hid (by rw [s9]; have := HE8.out.1; omega)
      have HW9 := Lib.hid hW9
      have HTh9 := Lib.hid hth
      clear hW9 hth hA b89 hl9 s9
      go_wp2_with (first
        | ((with_reducible show wpList _ _ _ (Oper.mk _ (Op.store 63 _ _) _ _ _ _ :: _) _ _); refine wpList_store_sec rfl _ _ rfl _ _ _ rfl rfl rfl HTh9.out ?_)
        | ((with_reducible show wpList _ _ _ (Oper.mk _ (Op.load 63 _) _ _ _ _ :: _) _ _); refine wpList_load_sec rfl _ rfl _ rfl _ _ (by rw [← HW9.out]; exact HE9.out.2.2) ?_)
        | ((with_reducible show wpList _ _ _ (Oper.mk _ (Op.load 63 _) _ _ _ _ :: _) _ _); refine wpList_load_sec rfl _ rfl _ rfl _ _ (by rw [← HW9.out, ← HSB.out.1]; exact HE9.out.2.1) ?_))
      rw [← HW9.out]
      refine HS9.out.mono ?_
      rintro e w10 ⟨rfl, hb10⟩
      have HF : Hid (Below N w w10) := Lib.hid (HE9.out.1.trans (hb10.mono HZ9.out))
      clear hb10
      go_wp2_with fail
      go_ret
      exact ⟨rfl, HF.out⟩
end Go.Proofs.Ytnbkoffhplknbaa
