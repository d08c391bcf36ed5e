/-
  Work, the specification's.
-/
import Derived.Test.YtelalpikdidpeaaWrkA
namespace Go.Proofs.Ytelalpikdidpeaa
open Go.RowKit TR L2 L2.SP
set_option linter.unusedVariables false
set_option linter.unusedSimpArgs false

/-- There is a first one that leads, or none. -/
theorem Kno.ex (d : Nat) (L : List (Nat × Nat)) (v x : Nat) : ∃ i, Kno d L v x i := by
  have key : ∀ n, (∃ i, 0 ≤ i ∧ Kno d L v x i) ∨ ∀ (j : Nat) (q : Nat × Nat), j < n → L[j]? = some q → ldb d (q.1 : Int) (q.2 : Int) v x = false := by
    intro n
    induction n with
    | zero => exact .inr (fun j q h => absurd h (by omega))
    | succ n ih =>
      rcases ih with h | h
      · exact .inl h
      · rcases hn : L[n]? with _ | p
        · refine .inr (fun j q hj hq => ?_)
          rcases Nat.lt_or_ge j n with h1 | h1
          · exact h j q h1 hq
          · obtain rfl : j = n := by omega
            rw [hn] at hq; cases hq
        · rcases hl : ldb d (p.1 : Int) (p.2 : Int) v x with _ | _
          · refine .inr (fun j q hj hq => ?_)
            rcases Nat.lt_or_ge j n with h1 | h1
            · exact h j q h1 hq
            · obtain rfl : j = n := by omega
              rw [hn] at hq; injection hq with hq; rw [← hq]; exact hl
          · exact .inl ⟨(n : Int), Int.natCast_nonneg n, .inr ⟨n, p, rfl, hn, hl, h⟩⟩
  rcases key L.length with ⟨i, _, h⟩ | h
  · exact ⟨i, h⟩
  · exact ⟨-1, .inl ⟨rfl, fun j p hj => h j p (List.getElem?_eq_some_iff.1 hj).1 hj⟩⟩

set_option maxRecDepth 100000 in
set_option maxHeartbeats 400000 in
theorem refWork_any (K D E u a b : Int) (P Q G : Nat) (w : World) (hK0 : 0 ≤ K) (hK1 : K ≤ 255) :
    Calls Try.prog 15 #[.agg #[.int .u8 K, .int .i64 D, .int .i64 E, .int .u64 (P : Int), .int .u64 (Q : Int), .int .u64 (G : Int)], .int .i64 u, .agg #[.int .i64 a, .int .i64 b]] w fun e w' => WkE K D E u a b P Q G e ∧ Below w.heap.size w w' := by
  obtain ⟨N, hN⟩ : ∃ N, N = w.heap.size := ⟨_, rfl⟩
  obtain ⟨W2, hW2⟩ : ∃ W2, W2 = (w.alloc (.cells #[.int .u8 K, .int .i64 D, .int .i64 E, .int .u64 (P : Int), .int .u64 (Q : Int), .int .u64 (G : Int)] 28)).alloc (.cells #[.int .i64 a, .int .i64 b] 35) := ⟨_, rfl⟩
  have s2 : W2.heap.size = N + 2 := by rw [hW2, hN]; simp
  have b2 : Below N w W2 := by rw [hW2, hN]; exact (below_alloc _ _).trans ((below_alloc _ _).mono (by simp))
  have e1 : Blk W2 N #[.int .u8 K, .int .i64 D, .int .i64 E, .int .u64 (P : Int), .int .u64 (Q : Int), .int .u64 (G : Int)] 28 := by rw [hW2, hN]; exact (Blk.new w _ _).keep (below_alloc _ _)
  have e2 : Blk W2 (N + 1) #[.int .i64 a, .int .i64 b] 35 := by
    have h := Blk.new (w.alloc (.cells #[.int .u8 K, .int .i64 D, .int .i64 E, .int .u64 (P : Int), .int .u64 (Q : Int), .int .u64 (G : Int)] 28)) #[.int .i64 a, .int .i64 b] 35
    rw [World.size_alloc, ← hN] at h; rw [hW2]; exact h
  have HE : Hid (W2.heap.size = N + 2 ∧ Below N w W2 ∧ Blk W2 N #[.int .u8 K, .int .i64 D, .int .i64 E, .int .u64 (P : Int), .int .u64 (Q : Int), .int .u64 (G : Int)] 28 ∧ Blk W2 (N + 1) #[.int .i64 a, .int .i64 b] 35) := Lib.hid ⟨s2, b2, e1, e2⟩
  have HEND := Lib.hid (fun (w3 : World) (hb : Below W2.heap.size W2 w3) => (HE.out.2.1.trans (hb.mono (by rw [HE.out.1]; omega)) : Below N w w3))
  have HCk := Lib.hid (fun w => refValid_any K D E P Q G w hK0 hK1)
  have HN := Lib.hid hN
  have HW := Lib.hid hW2
  rw [← hN]
  have c0 : W2.cell? ⟨N, 0, none⟩ = some (.int .u8 K) := (e1).cell 0
  have c1 : W2.cell? ⟨N, 1, none⟩ = some (.int .i64 D) := (e1).cell 1
  have c2 : W2.cell? ⟨N, 2, none⟩ = some (.int .i64 E) := (e1).cell 2
  have c3 : W2.cell? ⟨N, 3, none⟩ = some (.int .u64 (P : Int)) := (e1).cell 3
  have c4 : W2.cell? ⟨N, 4, none⟩ = some (.int .u64 (Q : Int)) := (e1).cell 4
  have c5 : W2.cell? ⟨N, 5, none⟩ = some (.int .u64 (G : Int)) := (e1).cell 5
  have z0 : W2.cell? ⟨N + 1, 0, none⟩ = some (.int .i64 a) := (e2).cell 0
  have z1 : W2.cell? ⟨N + 1, 1, none⟩ = some (.int .i64 b) := (e2).cell 1
  rw [hW2, hN] at c0 c1 c2 c3 c4 c5 z0 z1
  clear hN hW2 s2 b2 e1 e2 hK0 hK1
  go_enter Try.func15, Try.ntmps15
  go_wp2_with fail
  rw [← HW.out, ← HN.out]
  refine (HCk.out _).mono ?_
  rintro e w3 ⟨rfl, hb3⟩
  have HB3 := Lib.hid hb3
  clear hb3 c0 c1 c2 c3 c4 c5 z0 z1
  by_cases h : ScOk K D E P Q G
  · have hs := scb_yes h
    rw [hs]
    have HSb := Lib.hid (scb_yes h)
    have HK123 : Hid (K = 1 ∨ K = 2 ∨ K = 3) := Lib.hid (by have h1 := h.1; have h2 := h.2.1; omega)
    have hD := h.2.2.1
    have hD2 := h.2.2.2.1
    obtain ⟨d, rfl⟩ := Int.eq_ofNat_of_zero_le hD
    have hd : d < 7 := by omega
    have HD := Lib.hid hd
    have HIr := Lib.hid (fun w => refReceiver_any d u w hd)
    have HIs := Lib.hid (fun w => refIsSubset_any K E a b d P Q G w hd)
    have c0 : w3.cell? ⟨N, 0, none⟩ = some (.int .u8 K) := (HE.out.2.2.1.keep HB3.out).cell 0
    have c1 : w3.cell? ⟨N, 1, none⟩ = some (.int .i64 (d : Int)) := (HE.out.2.2.1.keep HB3.out).cell 1
    have c2 : w3.cell? ⟨N, 2, none⟩ = some (.int .i64 E) := (HE.out.2.2.1.keep HB3.out).cell 2
    have c3 : w3.cell? ⟨N, 3, none⟩ = some (.int .u64 (P : Int)) := (HE.out.2.2.1.keep HB3.out).cell 3
    have c4 : w3.cell? ⟨N, 4, none⟩ = some (.int .u64 (Q : Int)) := (HE.out.2.2.1.keep HB3.out).cell 4
    have c5 : w3.cell? ⟨N, 5, none⟩ = some (.int .u64 (G : Int)) := (HE.out.2.2.1.keep HB3.out).cell 5
    clear hs h hD hD2 hd
    go_wp2_with fail
    refine (HIr.out _).mono ?_
    rintro e w4 ⟨rfl, hb4⟩
    have HB4 := Lib.hid (HB3.out.trans (hb4.mono HB3.out.size))
    clear hb4 c0 c1 c2 c3 c4 c5
    rcases hr : isr (d : Int) u with _ | _
    · have H3 := Lib.hid (HEND.out w4 HB4.out)
      have HC : Hid (WkE K (d : Int) E u a b P Q G (.returned (.tuple #[.int .i64 0, .int .i64 2]))) := Lib.hid (.inr (.inl ⟨HSb.out, hr, rfl⟩))
      clear hr
      go_wp2_with fail
      go_ret2
      exact ⟨HC.out, H3.out⟩
    · have hu := of_decide_eq_true hr
      obtain ⟨r, rfl⟩ := Int.eq_ofNat_of_zero_le hu.1
      have hrd : r < 2 ^ d := by have h := hu.2; rw [Int.toNat_natCast] at h; omega
      have HRr := Lib.hid hr
      have HRd := Lib.hid hrd
      clear hu hr hrd
      have c0 : w4.cell? ⟨N, 0, none⟩ = some (.int .u8 K) := (HE.out.2.2.1.keep HB4.out).cell 0
      have c1 : w4.cell? ⟨N, 1, none⟩ = some (.int .i64 (d : Int)) := (HE.out.2.2.1.keep HB4.out).cell 1
      have c2 : w4.cell? ⟨N, 2, none⟩ = some (.int .i64 E) := (HE.out.2.2.1.keep HB4.out).cell 2
      have c3 : w4.cell? ⟨N, 3, none⟩ = some (.int .u64 (P : Int)) := (HE.out.2.2.1.keep HB4.out).cell 3
      have c4 : w4.cell? ⟨N, 4, none⟩ = some (.int .u64 (Q : Int)) := (HE.out.2.2.1.keep HB4.out).cell 4
      have c5 : w4.cell? ⟨N, 5, none⟩ = some (.int .u64 (G : Int)) := (HE.out.2.2.1.keep HB4.out).cell 5
      have z0 : w4.cell? ⟨N + 1, 0, none⟩ = some (.int .i64 a) := (HE.out.2.2.2.keep HB4.out).cell 0
      have z1 : w4.cell? ⟨N + 1, 1, none⟩ = some (.int .i64 b) := (HE.out.2.2.2.keep HB4.out).cell 1
      go_wp2_with fail
      refine (HIs.out _).mono ?_
      rintro e w5 ⟨rfl, hb5⟩
      have HB5 := Lib.hid (HB4.out.trans (hb5.mono HB4.out.size))
      clear hb5 c0 c1 c2 c3 c4 c5 z0 z1
      rcases hi : isb K d a b with _ | _
      · have H3 := Lib.hid (HEND.out w5 HB5.out)
        have HC : Hid (WkE K (d : Int) E (r : Int) a b P Q G (.returned (.tuple #[.int .i64 0, .int .i64 31]))) := Lib.hid (.inr (.inr (.inl ⟨HSb.out, HRr.out, by rw [Int.toNat_natCast]; exact hi, rfl⟩)))
        clear hi
        go_wp2_with fail
        go_ret2
        exact ⟨HC.out, H3.out⟩
      · obtain ⟨v, x, rfl, rfl, v1, v3, v2, hx, x2, hk1⟩ := isb_nat HD.out hi
        have HC : Hid (∀ e, (∃ i, Kno d (plc K d (2 ^ d + r)) v x i ∧ ((i < 0 ∧ e = .returned (.tuple #[.int .i64 0, .int .i64 6])) ∨ (0 ≤ i ∧ e = .returned (.tuple #[.int .i64 (wkv (plc K d (2 ^ d + r)) x i), .int .i64 0])))) → WkE K (d : Int) E (r : Int) (v : Int) (x : Int) P Q G e) := Lib.hid (fun e he => .inr (.inr (.inr ⟨HSb.out, HRr.out, by rw [Int.toNat_natCast]; exact hi, by simp only [Int.toNat_natCast]; exact he⟩)))
        have HPl := Lib.hid (fun w => refLabels_any K E d r P Q G w HD.out HRd.out)
        have HKn := Lib.hid (fun w => refKnown_any K E d r P Q G v x w HD.out HRd.out hk1 v1 v3 x2 hx)
        have HHs := Lib.hid (fun w => refHas_any K E d v x r P Q G w HD.out v1 v3 hx HRd.out)
        have HIf := Lib.hid (lds_some HK123.out HD.out HRd.out v1 v3 x2 hi)
        obtain ⟨i0, hi0⟩ := Kno.ex d (plc K d (2 ^ d + r)) v x
        have HI0 := Lib.hid hi0
        have HI1 := Lib.hid hi0.none_iff
        have hn64 := plc_len K d r HD.out HRd.out
        have hn0 := plc_pos K d (2 ^ d + r)
        obtain ⟨ps, hps⟩ : ∃ ps, ps = plc K d (2 ^ d + r) := ⟨_, rfl⟩
        rw [← hps] at HPl HKn hn64 hn0 HC HIf HI0 HI1
        obtain ⟨n, hn⟩ : ∃ n, n = ps.length := ⟨_, rfl⟩
        rw [← hn] at HPl hn64 hn0
        have HN0 := Lib.hid hn
        have HX := Lib.hid hx
        have HK1 := Lib.hid hk1
        clear hps hn hi v1 v3 v2 hx x2 hk1 hi0
        have c0 : w5.cell? ⟨N, 0, none⟩ = some (.int .u8 K) := (HE.out.2.2.1.keep HB5.out).cell 0
        have c1 : w5.cell? ⟨N, 1, none⟩ = some (.int .i64 (d : Int)) := (HE.out.2.2.1.keep HB5.out).cell 1
        have c2 : w5.cell? ⟨N, 2, none⟩ = some (.int .i64 E) := (HE.out.2.2.1.keep HB5.out).cell 2
        have c3 : w5.cell? ⟨N, 3, none⟩ = some (.int .u64 (P : Int)) := (HE.out.2.2.1.keep HB5.out).cell 3
        have c4 : w5.cell? ⟨N, 4, none⟩ = some (.int .u64 (Q : Int)) := (HE.out.2.2.1.keep HB5.out).cell 4
        have c5 : w5.cell? ⟨N, 5, none⟩ = some (.int .u64 (G : Int)) := (HE.out.2.2.1.keep HB5.out).cell 5
        have z0 : w5.cell? ⟨N + 1, 0, none⟩ = some (.int .i64 (v : Int)) := (HE.out.2.2.2.keep HB5.out).cell 0
        have z1 : w5.cell? ⟨N + 1, 1, none⟩ = some (.int .i64 (x : Int)) := (HE.out.2.2.2.keep HB5.out).cell 1
        go_wp2_with fail
        refine (HHs.out _).mono ?_
        rintro e w6 ⟨rfl, hb6⟩
        have HB6 := Lib.hid (HB5.out.trans (hb6.mono HB5.out.size))
        clear hb6 c0 c1 c2 c3 c4 c5 z0 z1
        obtain ⟨mm, hmm⟩ : ∃ mm, mm = (abv v (2 ^ d + r) && !(abv x (2 ^ d + r))) := ⟨_, rfl⟩
        rw [← hmm] at HIf ⊢
        clear hmm
        rcases mm with _ | _
        · have HF2 : Hid (i0 < 0) := Lib.hid (by
            have h1 : ¬ (0 ≤ i0) := fun h => by have := HIf.out.1 (HI1.out.1 h); cases this
            omega)
          have H3 := Lib.hid (HEND.out w6 HB6.out)
          go_wp2_with fail
          go_ret2
          exact ⟨HC.out _ ⟨i0, HI0.out, .inl ⟨HF2.out, rfl⟩⟩, H3.out⟩
        · have hi1 : 0 ≤ i0 := HI1.out.2 (HIf.out.2 rfl)
          obtain ⟨k, rfl⟩ := Int.eq_ofNat_of_zero_le hi1
          have HP0 : Hid (∃ p : Nat × Nat, ps[k]? = some p ∧ ldb d (p.1 : Int) (p.2 : Int) v x = true) := Lib.hid (by
            rcases HI0.out with ⟨h, _⟩ | ⟨k2, p, h, h1, h2, _⟩
            · omega
            · obtain rfl : k = k2 := by omega
              exact ⟨p, h1, h2⟩)
          clear hi1 HIf HI1
          have c0 : w6.cell? ⟨N, 0, none⟩ = some (.int .u8 K) := (HE.out.2.2.1.keep HB6.out).cell 0
          have c1 : w6.cell? ⟨N, 1, none⟩ = some (.int .i64 (d : Int)) := (HE.out.2.2.1.keep HB6.out).cell 1
          have c2 : w6.cell? ⟨N, 2, none⟩ = some (.int .i64 E) := (HE.out.2.2.1.keep HB6.out).cell 2
          have c3 : w6.cell? ⟨N, 3, none⟩ = some (.int .u64 (P : Int)) := (HE.out.2.2.1.keep HB6.out).cell 3
          have c4 : w6.cell? ⟨N, 4, none⟩ = some (.int .u64 (Q : Int)) := (HE.out.2.2.1.keep HB6.out).cell 4
          have c5 : w6.cell? ⟨N, 5, none⟩ = some (.int .u64 (G : Int)) := (HE.out.2.2.1.keep HB6.out).cell 5
          have z0 : w6.cell? ⟨N + 1, 0, none⟩ = some (.int .i64 (v : Int)) := (HE.out.2.2.2.keep HB6.out).cell 0
          have z1 : w6.cell? ⟨N + 1, 1, none⟩ = some (.int .i64 (x : Int)) := (HE.out.2.2.2.keep HB6.out).cell 1
          by_cases h0 : x = 0
          · have H3 := Lib.hid (HEND.out w6 HB6.out)
            have HV0 : Hid (wkv ps x (k : Int) = 0) := Lib.hid (by unfold wkv; rw [if_pos h0])
            have hxz : ((x : Int) == 0) = true := by rw [h0]; rfl
            clear h0
            rcases hkb : (K == 1) with _ | _
            · go_wp2_with fail
              go_ret2
              exact ⟨HC.out _ ⟨(k : Int), HI0.out, .inr ⟨by omega, by first | (rw [HV0.out]; done) | (rw [HV0.out]; rfl)⟩⟩, H3.out⟩
            · go_wp2_with fail
              go_ret2
              exact ⟨HC.out _ ⟨(k : Int), HI0.out, .inr ⟨by omega, by first | (rw [HV0.out]; done) | (rw [HV0.out]; rfl)⟩⟩, H3.out⟩
          · have hkb : (K == 1) = false := beq_eq_false_iff_ne.2 (fun h => h0 (HK1.out h))
            have hxz : ((x : Int) == 0) = false := beq_eq_false_iff_ne.2 (by omega)
            obtain ⟨p, hp1, hp2⟩ := HP0.out
            have hkl : k < n := by rw [HN0.out]; exact (List.getElem?_eq_some_iff.1 hp1).1
            obtain ⟨m, hm, m1, m2, m3⟩ := ldb_facts HD.out hp2 h0
            obtain ⟨a, b⟩ := p
            obtain rfl : b = m := Int.ofNat.inj hm
            have HYv : Hid (wkv ps x (k : Int) = ((lv x - lv b + 1 : Nat) : Int)) := Lib.hid (by unfold wkv; rw [if_neg h0, Int.toNat_natCast, List.getD_eq_getElem?_getD, hp1]; rfl)
            have HPt := Lib.hid (fun w => refPath_any b x w (by have := HX.out; omega) m3)
            have HG : Hid (∀ cur : Array Value, (∀ (i : Nat) (u : Value), (prs ps)[i]? = some u → cur[i]? = some u) → cur[k * 2]? = some (.int .i64 (a : Int)) ∧ cur[k * 2 + 1]? = some (.int .i64 (b : Int))) := Lib.hid (fun cur h => by
              have h1 := prs_get ps k (a, b) hp1
              rw [Nat.mul_comm k 2]
              exact ⟨h _ _ h1.1, h _ _ h1.2⟩)
            have HNn := Lib.hid hn0
            have hk2 : k < 2 ^ 40 := by omega
            have hk3 : (0 : Int) ≤ (k : Int) := by omega
            have hk4 : (k : Int) < (n : Int) := by omega
            have HKs : Hid (∀ i, Kno d ps v x i → i = (k : Int)) := Lib.hid (fun i h => h.same HI0.out)
            clear h0 hp1 hp2 hm m1 m2 m3 HP0
            go_wp2_with fail
            refine wp_region_inv (by kernel_rfl) (by kernel_rfl) (fun l a' w' => ∃ (g cg xb : Nat) (cur : Array Value) (w1 : World), a' = { tmps := #[Value.agg #[Value.int IntKind.u8 K, Value.int IntKind.i64 d, Value.int IntKind.i64 E, Value.int IntKind.u64 P, Value.int IntKind.u64 Q, Value.int IntKind.u64 G], Value.int .i64 (r : Int), Value.agg #[Value.int IntKind.i64 v, Value.int IntKind.i64 x], Value.pointer (some ⟨N, 0, none⟩), undef, Value.pointer (some ⟨N + 1, 0, none⟩), Value.int .i64 (0 : Int), Value.int .i64 (0 : Int), bif l 9 then Value.pointer (some ⟨xb, 0, none⟩) else undef, Value.agg #[Value.int IntKind.u8 K, Value.int IntKind.i64 d, Value.int IntKind.i64 E, Value.int IntKind.u64 P, Value.int IntKind.u64 Q, Value.int IntKind.u64 G], Value.bool true, Value.bool false, Value.pointer (some ⟨N, 1, none⟩), Value.int .i64 (d : Int), Value.int .i64 (r : Int), Value.bool true, Value.bool false, Value.agg #[Value.int IntKind.u8 K, Value.int IntKind.i64 d, Value.int IntKind.i64 E, Value.int IntKind.u64 P, Value.int IntKind.u64 Q, Value.int IntKind.u64 G], Value.agg #[Value.int IntKind.i64 v, Value.int IntKind.i64 x], Value.bool true, Value.bool false, Value.agg #[Value.int IntKind.u8 K, Value.int IntKind.i64 d, Value.int IntKind.i64 E, Value.int IntKind.u64 P, Value.int IntKind.u64 Q, Value.int IntKind.u64 G], Value.agg #[Value.int IntKind.i64 v, Value.int IntKind.i64 x], Value.int .i64 (r : Int), Value.bool true, Value.bool false, Value.pointer (some ⟨N, 0, none⟩), Value.int .u8 (K : Int), Value.bool false, Value.bool false, Value.pointer (some ⟨N + 1, 1, none⟩), Value.int .i64 (x : Int), Value.bool false, Value.bool false, bif l 0 then Value.agg #[Value.int .u8 K, Value.int .i64 (d : Int), Value.int .i64 E, Value.int .u64 (P : Int), Value.int .u64 (Q : Int), Value.int .u64 (G : Int)] else undef, bif l 1 then Value.int .i64 (r : Int) else undef, bif l 2 then Value.slice (some ⟨g, 0, none⟩) n cg else undef, bif l 3 then Value.agg #[Value.int .u8 K, Value.int .i64 (d : Int), Value.int .i64 E, Value.int .u64 (P : Int), Value.int .u64 (Q : Int), Value.int .u64 (G : Int)] else undef, bif l 4 then Value.int .i64 (r : Int) else undef, bif l 5 then Value.agg #[Value.int .i64 (v : Int), Value.int .i64 (x : Int)] else undef, bif l 6 then Value.int .i64 (k : Int) else undef, bif l 7 then Value.pointer (some ⟨g, k * 2, none⟩) else undef, bif l 8 then Value.agg #[Value.int .i64 (a : Int), Value.int .i64 (b : Int)] else undef, undef, undef, undef, undef, undef, undef], defers := [] } ∧ (Below W2.heap.size W2 w1) ∧ (l 2 = true → Blk w1 g cur 35 ∧ cur[k * 2]? = some (.int .i64 (a : Int)) ∧ cur[k * 2 + 1]? = some (.int .i64 (b : Int))) ∧ (l 7 = true → l 2 = true) ∧ (l 9 = true → Blk w1 xb #[Value.int .i64 0, Value.int .i64 0] 35 ∧ W2.heap.size ≤ xb) ∧ w' = (bif l 10 then w1.setCells xb 0 #[Value.int .i64 (a : Int), Value.int .i64 (b : Int)].toList else w1) ∧ (l 10 = true → (l 0 && l 1 && l 2 && l 3 && l 4 && l 5 && l 6 && l 7 && l 8 && l 9) = true)) ⟨0, 0, 0, #[], _, rfl, (HB6.out).drew, (fun h => by cases h), (fun h => by cases h), (fun h => by cases h), rfl, (fun h => by cases h)⟩ ?_ ?_
            · rintro l a' w' i ⟨g, cg, xb, cur, w1, rfl, hB, cO, o7, cX, hw, oS⟩ hi' hli hpre
              have hi2 : i < 11 := hi'
              have hcase : i = 0 ∨ i = 1 ∨ i = 2 ∨ i = 3 ∨ i = 4 ∨ i = 5 ∨ i = 6 ∨ i = 7 ∨ i = 8 ∨ i = 9 ∨ i = 10 := by omega
              clear hi' hi2
              rcases hcase with rfl | rfl | rfl | rfl | rfl | rfl | rfl | rfl | rfl | rfl | rfl
              · -- 0: Op.load 28 (Operand.tmp 3)
                refine wpOp_step rfl (fun K' hK => ?_)
                have nS : l 10 = false := by
                  cases h : l 10
                  · rfl
                  · have := oS h; simp [hli] at this
                rw [nS, cond_false] at hw
                subst hw
                clear hpre
                rw [if_pos (by rfl)]
                refine wp_load_mid 28 _ rfl _ 0 rfl #[Value.int .u8 K, Value.int .i64 (d : Int), Value.int .i64 E, Value.int .u64 (P : Int), Value.int .u64 (Q : Int), Value.int .u64 (G : Int)].toList _ (HE.out.2.2.1.keep hB).range Try.underlying28 rfl sizeSch ?_
                exact hK _ _ ⟨g, cg, xb, cur, w', by simp [upd, Act.put], hB, (fun e0 => (cO (by simpa [upd] using e0))), (fun e0 => (by first | (simp [upd]; done) | simpa [upd] using (o7 (by simpa [upd] using e0)))), (fun e0 => (cX (by simpa [upd] using e0))), by simp [upd, nS], (fun e => absurd e (by simp [upd, nS]))⟩
              · -- 1: Op.move (Operand.tmp 1)
                refine wpOp_step rfl (fun K' hK => ?_)
                have nS : l 10 = false := by
                  cases h : l 10
                  · rfl
                  · have := oS h; simp [hli] at this
                rw [nS, cond_false] at hw
                subst hw
                clear hpre
                rw [if_pos (by rfl)]
                go_simp
                exact hK _ _ ⟨g, cg, xb, cur, w', by simp [upd, Act.put], hB, (fun e0 => (cO (by simpa [upd] using e0))), (fun e0 => (by first | (simp [upd]; done) | simpa [upd] using (o7 (by simpa [upd] using e0)))), (fun e0 => (cX (by simpa [upd] using e0))), by simp [upd, nS], (fun e => absurd e (by simp [upd, nS]))⟩
              · -- 2: Op.call { callee := Callee.value (Operand.func 48), args := 
                have p0 : l 0 = true := hpre _ rfl ⟨0, .data⟩ (by simp) rfl
                have p1 : l 1 = true := hpre _ rfl ⟨1, .data⟩ (by simp) rfl
                refine wpOp_step rfl (fun K' hK => ?_)
                have nS : l 10 = false := by
                  cases h : l 10
                  · rfl
                  · have := oS h; simp [hli] at this
                rw [nS, cond_false] at hw
                subst hw
                have n7 : l 7 = false := by
                  cases h : l 7
                  · rfl
                  · exact absurd (o7 h) (by rw [hli]; decide)
                simp only [p0, p1, n7, cond_true, cond_false]
                clear hpre
                rw [if_pos (by rfl)]
                go_simp
                refine (HPl.out _).mono ?_
                rintro e w7 ⟨⟨u7, rfl, ho7⟩, hb5⟩
                obtain ⟨g9, cg9, cur9, rfl, hg1, hg2, hg3, hg4, hg5⟩ := own_blk ho7 HNn.out
                exact hK _ _ ⟨g9, cg9, xb, cur9, w7, by simp [upd, Act.put, p0, p1, n7], (hB).trans (hb5.mono (hB).size), (fun _ => ⟨hg4, HG.out _ hg5⟩), (fun e0 => (by first | (simp [upd]; done) | simpa [upd] using (o7 (by simpa [upd] using e0)))), (fun e0 => ⟨((cX (by simpa [upd] using e0))).1.keep hb5, ((cX (by simpa [upd] using e0))).2⟩), by simp [upd, nS], (fun e => absurd e (by simp [upd, nS]))⟩
              · -- 3: Op.load 28 (Operand.tmp 3)
                refine wpOp_step rfl (fun K' hK => ?_)
                have nS : l 10 = false := by
                  cases h : l 10
                  · rfl
                  · have := oS h; simp [hli] at this
                rw [nS, cond_false] at hw
                subst hw
                clear hpre
                rw [if_pos (by rfl)]
                refine wp_load_mid 28 _ rfl _ 0 rfl #[Value.int .u8 K, Value.int .i64 (d : Int), Value.int .i64 E, Value.int .u64 (P : Int), Value.int .u64 (Q : Int), Value.int .u64 (G : Int)].toList _ (HE.out.2.2.1.keep hB).range Try.underlying28 rfl sizeSch ?_
                exact hK _ _ ⟨g, cg, xb, cur, w', by simp [upd, Act.put], hB, (fun e0 => (cO (by simpa [upd] using e0))), (fun e0 => (by first | (simp [upd]; done) | simpa [upd] using (o7 (by simpa [upd] using e0)))), (fun e0 => (cX (by simpa [upd] using e0))), by simp [upd, nS], (fun e => absurd e (by simp [upd, nS]))⟩
              · -- 4: Op.move (Operand.tmp 1)
                refine wpOp_step rfl (fun K' hK => ?_)
                have nS : l 10 = false := by
                  cases h : l 10
                  · rfl
                  · have := oS h; simp [hli] at this
                rw [nS, cond_false] at hw
                subst hw
                clear hpre
                rw [if_pos (by rfl)]
                go_simp
                exact hK _ _ ⟨g, cg, xb, cur, w', by simp [upd, Act.put], hB, (fun e0 => (cO (by simpa [upd] using e0))), (fun e0 => (by first | (simp [upd]; done) | simpa [upd] using (o7 (by simpa [upd] using e0)))), (fun e0 => (cX (by simpa [upd] using e0))), by simp [upd, nS], (fun e => absurd e (by simp [upd, nS]))⟩
              · -- 5: Op.load 35 (Operand.tmp 5)
                refine wpOp_step rfl (fun K' hK => ?_)
                have nS : l 10 = false := by
                  cases h : l 10
                  · rfl
                  · have := oS h; simp [hli] at this
                rw [nS, cond_false] at hw
                subst hw
                clear hpre
                rw [if_pos (by rfl)]
                refine wp_load_mid 35 _ rfl _ 0 rfl #[Value.int .i64 (v : Int), Value.int .i64 (x : Int)].toList _ (HE.out.2.2.2.keep hB).range Try.underlying35 rfl sizeSub ?_
                exact hK _ _ ⟨g, cg, xb, cur, w', by simp [upd, Act.put], hB, (fun e0 => (cO (by simpa [upd] using e0))), (fun e0 => (by first | (simp [upd]; done) | simpa [upd] using (o7 (by simpa [upd] using e0)))), (fun e0 => (cX (by simpa [upd] using e0))), by simp [upd, nS], (fun e => absurd e (by simp [upd, nS]))⟩
              · -- 6: Op.call { callee := Callee.value (Operand.func 49), args := 
                have p3 : l 3 = true := hpre _ rfl ⟨3, .data⟩ (by simp) rfl
                have p4 : l 4 = true := hpre _ rfl ⟨4, .data⟩ (by simp) rfl
                have p5 : l 5 = true := hpre _ rfl ⟨5, .data⟩ (by simp) rfl
                have p2 : l 2 = true := hpre _ rfl ⟨2, .chain⟩ (by simp) rfl
                refine wpOp_step rfl (fun K' hK => ?_)
                have nS : l 10 = false := by
                  cases h : l 10
                  · rfl
                  · have := oS h; simp [hli] at this
                rw [nS, cond_false] at hw
                subst hw
                simp only [p3, p4, p5, p2, cond_true, cond_false]
                clear hpre
                rw [if_pos (by rfl)]
                go_simp
                refine (HKn.out _).mono ?_
                rintro e w7 ⟨⟨i7, rfl, hi7⟩, hb5⟩
                obtain rfl := HKs.out _ hi7
                exact hK _ _ ⟨g, cg, xb, cur, w7, by simp [upd, Act.put, p3, p4, p5, p2], (hB).trans (hb5.mono (hB).size), (fun e0 => ⟨((cO (by simpa [upd] using e0))).1.keep hb5, ((cO (by simpa [upd] using e0))).2⟩), (fun e0 => (by first | (simp [upd]; done) | simpa [upd] using (o7 (by simpa [upd] using e0)))), (fun e0 => ⟨((cX (by simpa [upd] using e0))).1.keep hb5, ((cX (by simpa [upd] using e0))).2⟩), by simp [upd, nS], (fun e => absurd e (by simp [upd, nS]))⟩
              · -- 7: Op.indexAddr 55 (Operand.tmp 36) (Operand.tmp 40)
                have p2 : l 2 = true := hpre _ rfl ⟨2, .data⟩ (by simp) rfl
                have p6 : l 6 = true := hpre _ rfl ⟨6, .data⟩ (by simp) rfl
                refine wpOp_step rfl (fun K' hK => ?_)
                have nS : l 10 = false := by
                  cases h : l 10
                  · rfl
                  · have := oS h; simp [hli] at this
                rw [nS, cond_false] at hw
                subst hw
                simp only [p2, p6, cond_true, cond_false]
                clear hpre
                rw [if_pos (by rfl)]
                go_simp
                exact hK _ _ ⟨g, cg, xb, cur, w', by simp [upd, Act.put, p2, p6], hB, (fun e0 => (cO (by simpa [upd] using e0))), (fun _ => by simp [upd, p2]), (fun e0 => (cX (by simpa [upd] using e0))), by simp [upd, nS], (fun e => absurd e (by simp [upd, nS]))⟩
              · -- 8: Op.load 35 (Operand.tmp 41)
                have p7 : l 7 = true := hpre _ rfl ⟨7, .data⟩ (by simp) rfl
                refine wpOp_step rfl (fun K' hK => ?_)
                have nS : l 10 = false := by
                  cases h : l 10
                  · rfl
                  · have := oS h; simp [hli] at this
                rw [nS, cond_false] at hw
                subst hw
                have p2 := o7 p7
                simp only [p7, p2, cond_true, cond_false]
                clear hpre
                rw [if_pos (by rfl)]
                have gO := cO p2
                have g0 := (gO.1.cell (k * 2)).trans gO.2.1
                have g1 := (gO.1.cell (k * 2 + 1)).trans gO.2.2
                go_simp
                exact hK _ _ ⟨g, cg, xb, cur, w', by simp [upd, Act.put, p7, p2], hB, (fun e0 => (cO (by simpa [upd] using e0))), (fun e0 => (by first | (simp [upd]; done) | simpa [upd] using (o7 (by simpa [upd] using e0)))), (fun e0 => (cX (by simpa [upd] using e0))), by simp [upd, nS], (fun e => absurd e (by simp [upd, nS]))⟩
              · -- 9: Op.alloc 35
                refine wpOp_step rfl (fun K' hK => ?_)
                have nS : l 10 = false := by
                  cases h : l 10
                  · rfl
                  · have := oS h; simp [hli] at this
                rw [nS, cond_false] at hw
                subst hw
                clear hpre
                rw [if_pos (by rfl)]
                go_simp
                exact hK _ _ ⟨g, cg, w'.heap.size, cur, w'.alloc (.cells #[.int .i64 0, .int .i64 0] 35), by simp [upd, Act.put], (hB).trans ((below_alloc _ _).mono (hB).size), (fun e0 => ⟨((cO (by simpa [upd] using e0))).1.keep (below_alloc _ _), ((cO (by simpa [upd] using e0))).2⟩), (fun e0 => (by first | (simp [upd]; done) | simpa [upd] using (o7 (by simpa [upd] using e0)))), (fun _ => ⟨Blk.new _ _ _, hB.size⟩), by simp [upd, nS], (fun e => absurd e (by simp [upd, nS]))⟩
              · -- 10: Op.store 35 (Operand.tmp 8) (Operand.tmp 42)
                have p9 : l 9 = true := hpre _ rfl ⟨9, .data⟩ (by simp) rfl
                have p8 : l 8 = true := hpre _ rfl ⟨8, .data⟩ (by simp) rfl
                have p6 : l 6 = true := hpre _ rfl ⟨6, .chain⟩ (by simp) rfl
                have p0 : l 0 = true := hpre _ rfl ⟨0, .phase⟩ (by simp) rfl
                have p1 : l 1 = true := hpre _ rfl ⟨1, .phase⟩ (by simp) rfl
                have p2 : l 2 = true := hpre _ rfl ⟨2, .phase⟩ (by simp) rfl
                have p3 : l 3 = true := hpre _ rfl ⟨3, .phase⟩ (by simp) rfl
                have p4 : l 4 = true := hpre _ rfl ⟨4, .phase⟩ (by simp) rfl
                have p5 : l 5 = true := hpre _ rfl ⟨5, .phase⟩ (by simp) rfl
                have p7 : l 7 = true := hpre _ rfl ⟨7, .phase⟩ (by simp) rfl
                refine wpOp_step rfl (fun K' hK => ?_)
                have nS : l 10 = false := hli
                rw [nS, cond_false] at hw
                subst hw
                simp only [p9, p8, p6, p0, p1, p2, p3, p4, p5, p7, cond_true, cond_false]
                clear hpre
                rw [if_pos (by rfl)]
                have gX := cX p9
                refine wp_store_mid 35 _ _ rfl xb 0 #[Value.int .i64 (a : Int), Value.int .i64 (b : Int)] rfl rfl gX.1.there sizeSub (all_oneCell_toArray (by intro v hv; simp at hv; rcases hv with rfl | rfl <;> rfl)) ?_
                exact hK _ _ ⟨g, cg, xb, cur, w', by simp [upd, Act.put, p9, p8, p6, p0, p1, p2, p3, p4, p5, p7], hB, (fun e0 => (cO (by simpa [upd] using e0))), (fun e0 => (by first | (simp [upd]; done) | simpa [upd] using (o7 (by simpa [upd] using e0)))), (fun e0 => (cX (by simpa [upd] using e0))), by simp [upd], (fun _ => by simp [upd, p9, p8, p6, p0, p1, p2, p3, p4, p5, p7])⟩
            · rintro l a' w9 hall ⟨g, cg, xb, cur, w1, rfl, hB, cO, o7, cX, hw, oS⟩
              rw [hall 10 (by decide), cond_true] at hw
              subst hw
              replace cO := cO (hall 2 (by decide))
              replace o7 := o7 (hall 7 (by decide))
              replace cX := cX (hall 9 (by decide))
              simp only [hall 0 (by decide), hall 1 (by decide), hall 2 (by decide), hall 3 (by decide), hall 4 (by decide), hall 5 (by decide), hall 6 (by decide), hall 7 (by decide), hall 8 (by decide), hall 9 (by decide), cond_true]
              clear hall oS
              have H9 : Hid (Below W2.heap.size W2 (w1.setCells xb 0 #[Value.int .i64 (a : Int), Value.int .i64 (b : Int)].toList) ∧ Blk (w1.setCells xb 0 #[Value.int .i64 (a : Int), Value.int .i64 (b : Int)].toList) xb #[Value.int .i64 (a : Int), Value.int .i64 (b : Int)] 35) := Lib.hid ⟨below_setCells _ _ _ _ hB cX.2, Blk.setAll cX.1 _ rfl⟩
              obtain ⟨W9, hW9⟩ : ∃ W9, W9 = w1.setCells xb 0 #[Value.int .i64 (a : Int), Value.int .i64 (b : Int)].toList := ⟨_, rfl⟩
              rw [← hW9] at H9
              rw [← hW9]
              clear hW9 hB cO cX c0 c1 c2 c3 c4 c5 z0 z1
              have y1 : W9.cell? ⟨xb, 1, none⟩ = some (.int .i64 (b : Int)) := H9.out.2.cell 1
              have z1 : W9.cell? ⟨N + 1, 1, none⟩ = some (.int .i64 (x : Int)) := (HE.out.2.2.2.keep H9.out.1).cell 1
              go_wp2_with fail
              refine (HPt.out _).mono ?_
              rintro e w10 ⟨⟨g8, c8, rfl, q1, q2, q3, _⟩, hb10⟩
              have H3 := Lib.hid (HEND.out w10 (H9.out.1.trans (hb10.mono H9.out.1.size)))
              clear hb10 y1 z1
              go_wp2_with fail
              go_ret2
              exact ⟨HC.out _ ⟨(k : Int), HI0.out, .inr ⟨by omega, by first | (rw [HYv.out]; done) | (rw [HYv.out]; rfl)⟩⟩, H3.out⟩
  · have hs := scb_no h
    rw [hs]
    have H3 := Lib.hid (HEND.out w3 HB3.out)
    have HC : Hid (WkE K D E u a b P Q G (.returned (.tuple #[.int .i64 0, .int .i64 30]))) := Lib.hid (.inl ⟨scb_no h, rfl⟩)
    clear h hs
    go_wp2_with fail
    go_ret2
    exact ⟨HC.out, H3.out⟩
end Go.Proofs.Ytelalpikdidpeaa
