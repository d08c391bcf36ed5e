/-
  Work, the program's: how many derivations a receiver needs.
-/
import Derived.Test.YtelalpikdidpeaaKnwA
namespace Go.Proofs.Ytelalpikdidpeaa
open Go.RowKit TR L2 L2.SP
set_option linter.unusedVariables false
set_option linter.unusedSimpArgs false

/-- How many derivations the label with the index i needs. -/
def wkv (L : List (Nat × Nat)) (x : Nat) (i : Int) : Int := if x = 0 then 0 else ((lv x - lv (L.getD i.toNat (0, 0)).2 + 1 : Nat) : Int)
/-- The answer of Work. -/
def WkE (K D E u a b : Int) (P Q G : Nat) (e : Ending) : Prop :=
  (scb K D E P Q G = false ∧ e = .returned (.tuple #[.int .i64 0, .int .i64 30])) ∨
  (scb K D E P Q G = true ∧ isr D u = false ∧ e = .returned (.tuple #[.int .i64 0, .int .i64 2])) ∨
  (scb K D E P Q G = true ∧ isr D u = true ∧ isb K D.toNat a b = false ∧ e = .returned (.tuple #[.int .i64 0, .int .i64 31])) ∨
  (scb K D E P Q G = true ∧ isr D u = true ∧ isb K D.toNat a b = true ∧ ∃ i, Kno D.toNat (plc K D.toNat (2 ^ D.toNat + u.toNat)) a.toNat b.toNat i ∧ ((i < 0 ∧ e = .returned (.tuple #[.int .i64 0, .int .i64 6])) ∨ (0 ≤ i ∧ e = .returned (.tuple #[.int .i64 (wkv (plc K D.toNat (2 ^ D.toNat + u.toNat)) b.toNat i), .int .i64 0]))))
theorem WkE.same {K D E u a b : Int} {P Q G : Nat} {e1 e2 : Ending} (h1 : WkE K D E u a b P Q G e1) (h2 : WkE K D E u a b P Q G e2) : e1 = e2 := by
  rcases h1 with ⟨a1, rfl⟩ | ⟨a1, a2, rfl⟩ | ⟨a1, a2, a3, rfl⟩ | ⟨a1, a2, a3, i, a4, a5⟩ <;> rcases h2 with ⟨b1, rfl⟩ | ⟨b1, b2, rfl⟩ | ⟨b1, b2, b3, rfl⟩ | ⟨b1, b2, b3, j, b4, b5⟩
  all_goals first
    | rfl
    | exact absurd (a1.symm.trans b1) (by decide)
    | exact absurd (a2.symm.trans b2) (by decide)
    | exact absurd (a3.symm.trans b3) (by decide)
    | skip
  obtain rfl := Kno.same a4 b4
  rcases a5 with ⟨c, rfl⟩ | ⟨c, rfl⟩ <;> rcases b5 with ⟨d, rfl⟩ | ⟨d, rfl⟩
  all_goals first
    | rfl
    | (exfalso; omega)
theorem WkE.val {K D E u a b : Int} {P Q G : Nat} {e : Ending} (h : WkE K D E u a b P Q G e) : ∃ n c : Int, e = .returned (.tuple #[.int .i64 n, .int .i64 c]) := by
  rcases h with ⟨_, rfl⟩ | ⟨_, _, rfl⟩ | ⟨_, _, _, rfl⟩ | ⟨_, _, _, _, _, ⟨_, rfl⟩ | ⟨_, rfl⟩⟩
  all_goals exact ⟨_, _, rfl⟩
/-- A subset of a valid scheme, in nodes. -/
theorem isb_nat {K a b : Int} {d : Nat} (hd : d < 7) (h : isb K d a b = true) : ∃ v x : Nat, a = (v : Int) ∧ b = (x : Int) ∧ 1 ≤ v ∧ v < 128 ∧ v < 2 ^ (d + 1) ∧ x < 128 ∧ x < 2 ^ (d + 1) ∧ (K = 1 → x = 0) := by
  have h0 := h
  unfold isb at h
  rw [Bool.and_eq_true] at h
  obtain ⟨v, rfl, v1, v2, v3⟩ := hsn_nat hd h.1
  have hp : 1 ≤ 2 ^ (d + 1) := Nat.one_le_two_pow
  have h2 := h.2
  by_cases hK : K = 1
  · rw [if_pos hK] at h2
    have := of_decide_eq_true h2
    exact ⟨v, 0, rfl, by omega, v1, v3, v2, by omega, by omega, fun _ => rfl⟩
  · rw [if_neg hK] at h2
    by_cases hb : b = 0
    · exact ⟨v, 0, rfl, by omega, v1, v3, v2, by omega, by omega, fun _ => rfl⟩
    · rw [if_neg hb, Bool.and_eq_true] at h2
      obtain ⟨x, rfl, x1, x2, x3⟩ := hsn_nat hd h2.1
      exact ⟨v, x, rfl, rfl, v1, v3, v2, x3, x2, fun h => absurd h hK⟩

set_option maxRecDepth 100000 in
set_option maxHeartbeats 400000 in
theorem work_any (K D E u a b : Int) (P Q G : Nat) (w : World) (hK0 : 0 ≤ K) (hK1 : K ≤ 255) :
    Calls Try.prog 14 #[.agg #[.int .u8 K, .int .i64 D, .int .i64 E, .int .u64 (P : Int), .int .u64 (Q : Int), .int .u64 (G : Int)], .int .i64 u, .agg #[.int .i64 a, .int .i64 b]] w fun e w' => WkE K D E u a b P Q G e ∧ Below w.heap.size w w' := by
  obtain ⟨N, hN⟩ : ∃ N, N = w.heap.size := ⟨_, rfl⟩
  obtain ⟨W2, hW2⟩ : ∃ W2, W2 = (w.alloc (.cells #[.int .u8 K, .int .i64 D, .int .i64 E, .int .u64 (P : Int), .int .u64 (Q : Int), .int .u64 (G : Int)] 28)).alloc (.cells #[.int .i64 a, .int .i64 b] 35) := ⟨_, rfl⟩
  have s2 : W2.heap.size = N + 2 := by rw [hW2, hN]; simp
  have b2 : Below N w W2 := by rw [hW2, hN]; exact (below_alloc _ _).trans ((below_alloc _ _).mono (by simp))
  have e1 : Blk W2 N #[.int .u8 K, .int .i64 D, .int .i64 E, .int .u64 (P : Int), .int .u64 (Q : Int), .int .u64 (G : Int)] 28 := by rw [hW2, hN]; exact (Blk.new w _ _).keep (below_alloc _ _)
  have e2 : Blk W2 (N + 1) #[.int .i64 a, .int .i64 b] 35 := by
    have h := Blk.new (w.alloc (.cells #[.int .u8 K, .int .i64 D, .int .i64 E, .int .u64 (P : Int), .int .u64 (Q : Int), .int .u64 (G : Int)] 28)) #[.int .i64 a, .int .i64 b] 35
    rw [World.size_alloc, ← hN] at h; rw [hW2]; exact h
  have HE : Hid (W2.heap.size = N + 2 ∧ Below N w W2 ∧ Blk W2 N #[.int .u8 K, .int .i64 D, .int .i64 E, .int .u64 (P : Int), .int .u64 (Q : Int), .int .u64 (G : Int)] 28 ∧ Blk W2 (N + 1) #[.int .i64 a, .int .i64 b] 35) := Lib.hid ⟨s2, b2, e1, e2⟩
  have HEND := Lib.hid (fun (w3 : World) (hb : Below W2.heap.size W2 w3) => (HE.out.2.1.trans (hb.mono (by rw [HE.out.1]; omega)) : Below N w w3))
  have HCk := Lib.hid (fun w => check_any K D E P Q G w hK0 hK1)
  have HN := Lib.hid hN
  have HW := Lib.hid hW2
  rw [← hN]
  have c0 : W2.cell? ⟨N, 0, none⟩ = some (.int .u8 K) := (e1).cell 0
  have c1 : W2.cell? ⟨N, 1, none⟩ = some (.int .i64 D) := (e1).cell 1
  have c2 : W2.cell? ⟨N, 2, none⟩ = some (.int .i64 E) := (e1).cell 2
  have c3 : W2.cell? ⟨N, 3, none⟩ = some (.int .u64 (P : Int)) := (e1).cell 3
  have c4 : W2.cell? ⟨N, 4, none⟩ = some (.int .u64 (Q : Int)) := (e1).cell 4
  have c5 : W2.cell? ⟨N, 5, none⟩ = some (.int .u64 (G : Int)) := (e1).cell 5
  have z0 : W2.cell? ⟨N + 1, 0, none⟩ = some (.int .i64 a) := (e2).cell 0
  have z1 : W2.cell? ⟨N + 1, 1, none⟩ = some (.int .i64 b) := (e2).cell 1
  rw [hW2, hN] at c0 c1 c2 c3 c4 c5 z0 z1
  clear hN hW2 s2 b2 e1 e2 hK0 hK1
  go_enter Try.func14, Try.ntmps14
  go_wp2_with fail
  rw [← HW.out, ← HN.out]
  refine (HCk.out _).mono ?_
  rintro e w3 ⟨rfl, hb3⟩
  have HB3 := Lib.hid hb3
  clear hb3 c0 c1 c2 c3 c4 c5 z0 z1
  by_cases h : ScOk K D E P Q G
  · have hs := scc_yes h
    rw [hs]
    have HSb := Lib.hid (scb_yes h)
    have HK123 : Hid (K = 1 ∨ K = 2 ∨ K = 3) := Lib.hid (by have h1 := h.1; have h2 := h.2.1; omega)
    have hD := h.2.2.1
    have hD2 := h.2.2.2.1
    obtain ⟨d, rfl⟩ := Int.eq_ofNat_of_zero_le hD
    have hd : d < 7 := by omega
    have HD := Lib.hid hd
    have HIr := Lib.hid (fun w => isReceiver_any K (d : Int) E u P Q G w hD hD2)
    have HIs := Lib.hid (fun w => isSubset_any K E a b d P Q G w hd)
    have c0 : w3.cell? ⟨N, 0, none⟩ = some (.int .u8 K) := (HE.out.2.2.1.keep HB3.out).cell 0
    have c1 : w3.cell? ⟨N, 1, none⟩ = some (.int .i64 (d : Int)) := (HE.out.2.2.1.keep HB3.out).cell 1
    have c2 : w3.cell? ⟨N, 2, none⟩ = some (.int .i64 E) := (HE.out.2.2.1.keep HB3.out).cell 2
    have c3 : w3.cell? ⟨N, 3, none⟩ = some (.int .u64 (P : Int)) := (HE.out.2.2.1.keep HB3.out).cell 3
    have c4 : w3.cell? ⟨N, 4, none⟩ = some (.int .u64 (Q : Int)) := (HE.out.2.2.1.keep HB3.out).cell 4
    have c5 : w3.cell? ⟨N, 5, none⟩ = some (.int .u64 (G : Int)) := (HE.out.2.2.1.keep HB3.out).cell 5
    clear hs h hD hD2 hd
    go_wp2_with fail
    refine (HIr.out _).mono ?_
    rintro e w4 ⟨rfl, hb4⟩
    have HB4 := Lib.hid (HB3.out.trans (hb4.mono HB3.out.size))
    clear hb4 c0 c1 c2 c3 c4 c5
    rcases hr : isr (d : Int) u with _ | _
    · have H3 := Lib.hid (HEND.out w4 HB4.out)
      have HC : Hid (WkE K (d : Int) E u a b P Q G (.returned (.tuple #[.int .i64 0, .int .i64 2]))) := Lib.hid (.inr (.inl ⟨HSb.out, hr, rfl⟩))
      clear hr
      go_wp2_with fail
      go_ret2
      exact ⟨HC.out, H3.out⟩
    · have hu := of_decide_eq_true hr
      obtain ⟨r, rfl⟩ := Int.eq_ofNat_of_zero_le hu.1
      have hrd : r < 2 ^ d := by have h := hu.2; rw [Int.toNat_natCast] at h; omega
      have HRr := Lib.hid hr
      have HRd := Lib.hid hrd
      clear hu hr hrd
      have c0 : w4.cell? ⟨N, 0, none⟩ = some (.int .u8 K) := (HE.out.2.2.1.keep HB4.out).cell 0
      have c1 : w4.cell? ⟨N, 1, none⟩ = some (.int .i64 (d : Int)) := (HE.out.2.2.1.keep HB4.out).cell 1
      have c2 : w4.cell? ⟨N, 2, none⟩ = some (.int .i64 E) := (HE.out.2.2.1.keep HB4.out).cell 2
      have c3 : w4.cell? ⟨N, 3, none⟩ = some (.int .u64 (P : Int)) := (HE.out.2.2.1.keep HB4.out).cell 3
      have c4 : w4.cell? ⟨N, 4, none⟩ = some (.int .u64 (Q : Int)) := (HE.out.2.2.1.keep HB4.out).cell 4
      have c5 : w4.cell? ⟨N, 5, none⟩ = some (.int .u64 (G : Int)) := (HE.out.2.2.1.keep HB4.out).cell 5
      have z0 : w4.cell? ⟨N + 1, 0, none⟩ = some (.int .i64 a) := (HE.out.2.2.2.keep HB4.out).cell 0
      have z1 : w4.cell? ⟨N + 1, 1, none⟩ = some (.int .i64 b) := (HE.out.2.2.2.keep HB4.out).cell 1
      go_wp2_with fail
      refine (HIs.out _).mono ?_
      rintro e w5 ⟨rfl, hb5⟩
      have HB5 := Lib.hid (HB4.out.trans (hb5.mono HB4.out.size))
      clear hb5 c0 c1 c2 c3 c4 c5 z0 z1
      rcases hi : isb K d a b with _ | _
      · have H3 := Lib.hid (HEND.out w5 HB5.out)
        have HC : Hid (WkE K (d : Int) E (r : Int) a b P Q G (.returned (.tuple #[.int .i64 0, .int .i64 31]))) := Lib.hid (.inr (.inr (.inl ⟨HSb.out, HRr.out, by rw [Int.toNat_natCast]; exact hi, rfl⟩)))
        clear hi
        go_wp2_with fail
        go_ret2
        exact ⟨HC.out, H3.out⟩
      · obtain ⟨v, x, rfl, rfl, v1, v3, v2, hx, x2, hk1⟩ := isb_nat HD.out hi
        have HC : Hid (∀ e, (∃ i, Kno d (plc K d (2 ^ d + r)) v x i ∧ ((i < 0 ∧ e = .returned (.tuple #[.int .i64 0, .int .i64 6])) ∨ (0 ≤ i ∧ e = .returned (.tuple #[.int .i64 (wkv (plc K d (2 ^ d + r)) x i), .int .i64 0])))) → WkE K (d : Int) E (r : Int) (v : Int) (x : Int) P Q G e) := Lib.hid (fun e he => .inr (.inr (.inr ⟨HSb.out, HRr.out, by rw [Int.toNat_natCast]; exact hi, by simp only [Int.toNat_natCast]; exact he⟩)))
        have HPl := Lib.hid (fun w => places_any K E d r P Q G w HD.out HRd.out)
        have HOkp := Lib.hid (plc_ok K d r HD.out HRd.out)
        have hn64 := plc_len K d r HD.out HRd.out
        have hn0 := plc_pos K d (2 ^ d + r)
        have HLd := Lib.hid (fun (a b : Nat) w => leads_any K E (a : Int) (b : Int) d P Q G v x w HD.out v1 v3 hx (fun h => by omega))
        obtain ⟨ps, hps⟩ : ∃ ps, ps = plc K d (2 ^ d + r) := ⟨_, rfl⟩
        rw [← hps] at HPl HOkp hn64 hn0 HC
        obtain ⟨n, hn⟩ : ∃ n, n = ps.length := ⟨_, rfl⟩
        rw [← hn] at HPl hn64 hn0
        have HN0 := Lib.hid hn
        have HX := Lib.hid hx
        clear hps hn hi v1 v3 v2 hx x2 hk1
        have c0 : w5.cell? ⟨N, 0, none⟩ = some (.int .u8 K) := (HE.out.2.2.1.keep HB5.out).cell 0
        have c1 : w5.cell? ⟨N, 1, none⟩ = some (.int .i64 (d : Int)) := (HE.out.2.2.1.keep HB5.out).cell 1
        have c2 : w5.cell? ⟨N, 2, none⟩ = some (.int .i64 E) := (HE.out.2.2.1.keep HB5.out).cell 2
        have c3 : w5.cell? ⟨N, 3, none⟩ = some (.int .u64 (P : Int)) := (HE.out.2.2.1.keep HB5.out).cell 3
        have c4 : w5.cell? ⟨N, 4, none⟩ = some (.int .u64 (Q : Int)) := (HE.out.2.2.1.keep HB5.out).cell 4
        have c5 : w5.cell? ⟨N, 5, none⟩ = some (.int .u64 (G : Int)) := (HE.out.2.2.1.keep HB5.out).cell 5
        go_wp2_with fail
        refine (HPl.out _).mono ?_
        rintro e w6 ⟨⟨u6, rfl, ho6⟩, hb6⟩
        obtain ⟨g, cg, cur, rfl, hg1, hg2, hg3, hg4, hg5⟩ := own_blk ho6 hn0
        have HG : Hid (∀ j (t : Nat × Nat), ps[j]? = some t → cur[j * 2]? = some (.int .i64 (t.1 : Int)) ∧ cur[j * 2 + 1]? = some (.int .i64 (t.2 : Int))) := Lib.hid (fun j t h => by
          have h1 := prs_get ps j t h
          rw [Nat.mul_comm j 2]
          exact ⟨hg5 _ _ h1.1, hg5 _ _ h1.2⟩)
        have HE6 : Hid (Below W2.heap.size W2 w6 ∧ Blk w6 g cur 35) := Lib.hid ⟨HB5.out.trans (hb6.mono HB5.out.size), hg4⟩
        clear hb6 ho6 hg1 hg4 hg5 c0 c1 c2 c3 c4 c5
        go_wp2_with fail
        go_loopw [28] (fun i wr => ∃ (k : Nat), k ≤ n ∧ i = .int .i64 (k : Int) ∧ Hid (Below w6.heap.size w6 wr) ∧ Hid (∀ (j : Nat) (q : Nat × Nat), j < k → ps[j]? = some q → ldb d (q.1 : Int) (q.2 : Int) v x = false)) (fun i _ => n + 1 - (intOf i).toNat)
        case atStart => exact ⟨0, by omega, rfl, Lib.hid (Below.refl _ _), Lib.hid (fun j q h => absurd h (by omega))⟩
        case round =>
          obtain ⟨k, hk, rfl, HBr, HNo⟩ := hrel
          have HBx : Hid (Below W2.heap.size W2 wr) := Lib.hid (HE6.out.1.trans (HBr.out.mono HE6.out.1.size))
          by_cases hlt : k < n
          · have hkl : k < ps.length := by rw [← HN0.out]; exact hlt
            obtain ⟨t, ht⟩ : ∃ t, t = ps[k] := ⟨_, rfl⟩
            have hgk0 : ps[k]? = some t := by rw [List.getElem?_eq_getElem hkl, ht]
            have hgk := HG.out k t hgk0
            have hok := HOkp.out t (by rw [ht]; exact List.getElem_mem hkl)
            have l1 : (0 : Int) ≤ (k : Int) := by omega
            have l2 : (k : Int) < (n : Int) := by omega
            have HNx : Hid (ldb d (t.1 : Int) (t.2 : Int) v x = false → ∀ (j : Nat) (q : Nat × Nat), j < k + 1 → ps[j]? = some q → ldb d (q.1 : Int) (q.2 : Int) v x = false) := Lib.hid (fun h j q hj hq => by
              rcases Nat.lt_or_ge j k with h1 | h1
              · exact HNo.out j q h1 hq
              · obtain rfl : j = k := by omega
                rw [hgk0] at hq; injection hq with hq; rw [← hq]; exact h)
            have HYs : Hid (ldb d (t.1 : Int) (t.2 : Int) v x = true → Kno d ps v x (k : Int)) := Lib.hid (fun h => .inr ⟨k, t, rfl, hgk0, h, HNo.out⟩)
            have HYv : Hid (wkv ps x (k : Int) = if x = 0 then 0 else ((lv x - lv t.2 + 1 : Nat) : Int)) := Lib.hid (by unfold wkv; rw [Int.toNat_natCast, List.getD_eq_getElem?_getD, hgk0]; rfl)
            have HCl := Lib.hid (fun w => HLd.out t.1 t.2 w)
            have HDf := Lib.hid (fun h0 w => derivations_any t.1 v t.2 x v w (by have := HX.out; omega) (h0 : x ≠ 0 → 1 ≤ t.2 ∧ t.2 < 256 ∧ lv t.2 ≤ lv x))
            obtain ⟨a, ha⟩ : ∃ a, a = t.1 := ⟨_, rfl⟩
            obtain ⟨b, hb⟩ : ∃ b, b = t.2 := ⟨_, rfl⟩
            rw [← ha, ← hb] at HNx HYs HCl hgk HDf
            rw [← hb] at HYv
            have g0 : wr.cell? ⟨g, k * 2, none⟩ = some (.int .i64 (a : Int)) := (Blk.cell (HE6.out.2.keep HBr.out) (k * 2)).trans hgk.1
            have g1 : wr.cell? ⟨g, k * 2 + 1, none⟩ = some (.int .i64 (b : Int)) := (Blk.cell (HE6.out.2.keep HBr.out) (k * 2 + 1)).trans hgk.2
            have hk2 : k < 2 ^ 40 := by omega
            obtain ⟨W8, hW8⟩ : ∃ W8, W8 = wr.alloc (.cells #[.int .i64 (a : Int), .int .i64 (b : Int)] 35) := ⟨_, rfl⟩
            obtain ⟨xb, hxb⟩ : ∃ xb, xb = wr.heap.size := ⟨_, rfl⟩
            have fX : Blk W8 xb #[.int .i64 (a : Int), .int .i64 (b : Int)] 35 := by rw [hW8, hxb]; exact Blk.new wr _ _
            have b8 : Below wr.heap.size wr W8 := by rw [hW8]; exact below_alloc _ _
            have HB8 : Hid (Below W2.heap.size W2 W8 ∧ Below w6.heap.size w6 W8 ∧ Blk W8 xb #[.int .i64 (a : Int), .int .i64 (b : Int)] 35) := Lib.hid ⟨HBx.out.trans (b8.mono HBx.out.size), HBr.out.trans (b8.mono HBr.out.size), fX⟩
            have y0 : W8.cell? ⟨xb, 0, none⟩ = some (.int .i64 (a : Int)) := fX.cell 0
            have y1 : W8.cell? ⟨xb, 1, none⟩ = some (.int .i64 (b : Int)) := fX.cell 1
            have c0 : W8.cell? ⟨N, 0, none⟩ = some (.int .u8 K) := (HE.out.2.2.1.keep HB8.out.1).cell 0
            have c1 : W8.cell? ⟨N, 1, none⟩ = some (.int .i64 (d : Int)) := (HE.out.2.2.1.keep HB8.out.1).cell 1
            have c2 : W8.cell? ⟨N, 2, none⟩ = some (.int .i64 E) := (HE.out.2.2.1.keep HB8.out.1).cell 2
            have c3 : W8.cell? ⟨N, 3, none⟩ = some (.int .u64 (P : Int)) := (HE.out.2.2.1.keep HB8.out.1).cell 3
            have c4 : W8.cell? ⟨N, 4, none⟩ = some (.int .u64 (Q : Int)) := (HE.out.2.2.1.keep HB8.out.1).cell 4
            have c5 : W8.cell? ⟨N, 5, none⟩ = some (.int .u64 (G : Int)) := (HE.out.2.2.1.keep HB8.out.1).cell 5
            have z0 : W8.cell? ⟨N + 1, 0, none⟩ = some (.int .i64 (v : Int)) := (HE.out.2.2.2.keep HB8.out.1).cell 0
            have z1 : W8.cell? ⟨N + 1, 1, none⟩ = some (.int .i64 (x : Int)) := (HE.out.2.2.2.keep HB8.out.1).cell 1
            rw [hW8] at c0 c1 c2 c3 c4 c5 z0 z1
            rw [hW8, hxb] at y0 y1
            have HW8 := Lib.hid (And.intro hW8 hxb)
            clear ha hb hok hgk hgk0 ht hkl hk hW8 hxb fX b8
            go_wp2_with fail
            rw [← HW8.out.1, ← HW8.out.2]
            refine (HCl.out _).mono ?_
            rintro e w9 ⟨rfl, hb9⟩
            have HB9 : Hid (Below W2.heap.size W2 w9 ∧ Below w6.heap.size w6 w9) := Lib.hid ⟨HB8.out.1.trans (hb9.mono HB8.out.1.size), HB8.out.2.1.trans (hb9.mono HB8.out.2.1.size)⟩
            have HX9 := Lib.hid (HB8.out.2.2.keep hb9)
            clear hb9 c0 c1 c2 c3 c4 c5 z0 z1 y0 y1 g0 g1
            cases hL : ldb d (a : Int) (b : Int) v x with
            | false =>
              have HNy := Lib.hid (HNx.out hL)
              clear hL
              go_wp2_with fail
              go_roundw
              case rel => exact ⟨k + 1, by omega, by go_num, Lib.hid HB9.out.2, HNy⟩
              case measure => simp [intOf]; omega
            | true =>
              have HYy := Lib.hid (HYs.out hL)
              have HDg := Lib.hid (HDf.out (fun h => by
                obtain ⟨m, hm, m1, m2, m3⟩ := ldb_facts HD.out hL h
                obtain rfl : b = m := Int.ofNat.inj hm
                exact ⟨m1, by omega, (abv_facts m3).2.1⟩))
              rw [← HYv.out] at HDg
              clear hL
              have y0 : w9.cell? ⟨xb, 0, none⟩ = some (.int .i64 (a : Int)) := HX9.out.cell 0
              have y1 : w9.cell? ⟨xb, 1, none⟩ = some (.int .i64 (b : Int)) := HX9.out.cell 1
              have z0 : w9.cell? ⟨N + 1, 0, none⟩ = some (.int .i64 (v : Int)) := (HE.out.2.2.2.keep HB9.out.1).cell 0
              have z1 : w9.cell? ⟨N + 1, 1, none⟩ = some (.int .i64 (x : Int)) := (HE.out.2.2.2.keep HB9.out.1).cell 1
              go_wp2_with fail
              refine (HDg.out _).mono ?_
              rintro e w10 ⟨rfl, hb10⟩
              have H3 := Lib.hid (HEND.out w10 (HB9.out.1.trans (hb10.mono HB9.out.1.size)))
              clear hb10 y0 y1 z0 z1
              go_wp2_with fail
              go_ret2
              exact ⟨HC.out _ ⟨(k : Int), HYy.out, .inr ⟨by omega, rfl⟩⟩, H3.out⟩
          · have l3 : ¬ ((k : Int) < (n : Int)) := by omega
            have HF2 : Hid (Kno d ps v x (-1)) := Lib.hid (.inl ⟨rfl, fun j p hj => HNo.out j p (by have h1 := (List.getElem?_eq_some_iff.1 hj).1; have h2 := HN0.out; omega) hj⟩)
            have H3 := Lib.hid (HEND.out wr HBx.out)
            go_wp2_with fail
            go_ret2
            exact ⟨HC.out _ ⟨-1, HF2.out, .inl ⟨by decide, rfl⟩⟩, H3.out⟩
  · have hs := scc_no h
    rw [hs]
    have H3 := Lib.hid (HEND.out w3 HB3.out)
    have HC : Hid (WkE K D E u a b P Q G (.returned (.tuple #[.int .i64 0, .int .i64 30]))) := Lib.hid (.inl ⟨scb_no h, rfl⟩)
    clear h hs
    go_wp2_with fail
    go_ret2
    exact ⟨HC.out, H3.out⟩
end Go.Proofs.Ytelalpikdidpeaa
