/- The walk over CipherPortion. -/
import Derived.Test.YtphhppdokdageaaPorB
import Derived.Test.YtphhppdokdageaaAlv
import Derived.Test.YtphhppdokdageaaLawB
import Derived.MapKept
import Derived.Laws.StructEq
namespace Go.Proofs.Ytphhppdokdageaa.cipherPortion
open Go.RowKit SP
set_option linter.unusedVariables false
set_option linter.unusedSimpArgs false

set_option maxRecDepth 100000 in
set_option maxHeartbeats 1000000 in
theorem walk_big (X Y C D : Nat) (A : Option Addr) (n c : Nat) (at_ : Int) (w : World) (hn : 16384 < n) :
    Calls Try.prog 17 #[.agg (kl X Y).toArray, .slice A n c, .int .i64 at_, .agg (kl C D).toArray] w fun e w' => e = .returned (.bool true) ∧ Below w.heap.size w w' := by
  have HAl := Lib.hid (fun w => alive_any w)
  obtain ⟨N, hN⟩ : ∃ N, N = w.heap.size := ⟨_, rfl⟩
  obtain ⟨W1, hW1⟩ : ∃ W1, W1 = (w.alloc (.cells (kl X Y).toArray 23)).alloc (.cells (kl C D).toArray 23) := ⟨_, rfl⟩
  have HB : Hid (Below N w W1) := Lib.hid (by rw [hW1, hN]; exact ((Below.refl _ _).alloc (Nat.le_refl _) _).alloc (by simp) _)
  have HL : Hid (W1.heap.size = N + 2) := Lib.hid (by rw [hW1, hN]; simp)
  have HK : Hid (KeyAt W1 N X Y) := Lib.hid (by rw [hW1, hN]; exact (KeyAt.new w X Y 23).alloc _)
  have HJ : Hid (KeyAt W1 (N + 1) C D) := Lib.hid (by
    have h := KeyAt.new (w.alloc (.cells (kl X Y).toArray 23)) C D 23
    rw [World.size_alloc] at h
    rw [hW1, hN]; exact h)
  have HW := Lib.hid hW1
  have HN := Lib.hid hN
  clear hW1 hN
  have d1 : decide ((16384 : Int) < (n : Int)) = true := decide_eq_true (by omega)
  have d2 : ((16384 : Int) < (n : Int)) := by omega
  go_enter Try.func17, Try.ntmps17
  go_wp2_with fail
  rw [← HW.out]
  refine (HAl.out _).mono ?_
  rintro e w1 ⟨rfl, hb1⟩
  have B1 := Lib.hid (HB.out.trans (hb1.mono (by rw [HL.out]; omega)))
  clear hb1
  go_wp2_with fail
  go_ret
  exact ⟨rfl, by rw [← HN.out]; exact B1.out⟩

set_option maxRecDepth 100000 in
set_option maxHeartbeats 1000000 in
theorem walk_neg (X Y C D : Nat) (A : Option Addr) (n c : Nat) (at_ : Int) (w : World) (hn : n ≤ 16384) (ha : at_ < 0) :
    Calls Try.prog 17 #[.agg (kl X Y).toArray, .slice A n c, .int .i64 at_, .agg (kl C D).toArray] w fun e w' => e = .returned (.bool true) ∧ Below w.heap.size w w' := by
  have HAl := Lib.hid (fun w => alive_any w)
  obtain ⟨N, hN⟩ : ∃ N, N = w.heap.size := ⟨_, rfl⟩
  obtain ⟨W1, hW1⟩ : ∃ W1, W1 = (w.alloc (.cells (kl X Y).toArray 23)).alloc (.cells (kl C D).toArray 23) := ⟨_, rfl⟩
  have HB : Hid (Below N w W1) := Lib.hid (by rw [hW1, hN]; exact ((Below.refl _ _).alloc (Nat.le_refl _) _).alloc (by simp) _)
  have HL : Hid (W1.heap.size = N + 2) := Lib.hid (by rw [hW1, hN]; simp)
  have HK : Hid (KeyAt W1 N X Y) := Lib.hid (by rw [hW1, hN]; exact (KeyAt.new w X Y 23).alloc _)
  have HJ : Hid (KeyAt W1 (N + 1) C D) := Lib.hid (by
    have h := KeyAt.new (w.alloc (.cells (kl X Y).toArray 23)) C D 23
    rw [World.size_alloc] at h
    rw [hW1, hN]; exact h)
  have HW := Lib.hid hW1
  have HN := Lib.hid hN
  clear hW1 hN
  have d1 : decide ((16384 : Int) < (n : Int)) = false := decide_eq_false (by omega)
  have d2 : decide (at_ < 0) = true := decide_eq_true ha
  have d3 : ¬ ((16384 : Int) < (n : Int)) := by omega
  go_enter Try.func17, Try.ntmps17
  go_wp2_with fail
  rw [← HW.out]
  refine (HAl.out _).mono ?_
  rintro e w1 ⟨rfl, hb1⟩
  have B1 := Lib.hid (HB.out.trans (hb1.mono (by rw [HL.out]; omega)))
  clear hb1
  go_wp2_with fail
  go_ret
  exact ⟨rfl, by rw [← HN.out]; exact B1.out⟩

set_option maxRecDepth 100000 in
set_option maxHeartbeats 1000000 in
theorem walk_far (X Y C D : Nat) (A : Option Addr) (n c : Nat) (at_ : Int) (w : World) (hn : n ≤ 16384) (ha : 0 ≤ at_) (hq : ((cnt n : Nat) : Int) ≤ at_) :
    Calls Try.prog 17 #[.agg (kl X Y).toArray, .slice A n c, .int .i64 at_, .agg (kl C D).toArray] w fun e w' => e = .returned (.bool true) ∧ Below w.heap.size w w' := by
  have HAl := Lib.hid (fun w => alive_any w)
  obtain ⟨N, hN⟩ : ∃ N, N = w.heap.size := ⟨_, rfl⟩
  obtain ⟨W1, hW1⟩ : ∃ W1, W1 = (w.alloc (.cells (kl X Y).toArray 23)).alloc (.cells (kl C D).toArray 23) := ⟨_, rfl⟩
  have HB : Hid (Below N w W1) := Lib.hid (by rw [hW1, hN]; exact ((Below.refl _ _).alloc (Nat.le_refl _) _).alloc (by simp) _)
  have HL : Hid (W1.heap.size = N + 2) := Lib.hid (by rw [hW1, hN]; simp)
  have HK : Hid (KeyAt W1 N X Y) := Lib.hid (by rw [hW1, hN]; exact (KeyAt.new w X Y 23).alloc _)
  have HJ : Hid (KeyAt W1 (N + 1) C D) := Lib.hid (by
    have h := KeyAt.new (w.alloc (.cells (kl X Y).toArray 23)) C D 23
    rw [World.size_alloc] at h
    rw [hW1, hN]; exact h)
  have HW := Lib.hid hW1
  have HN := Lib.hid hN
  clear hW1 hN
  have d1 : decide ((16384 : Int) < (n : Int)) = false := decide_eq_false (by omega)
  have d2 : decide (at_ < 0) = false := decide_eq_false (by omega)
  have d3 : ¬ ((16384 : Int) < (n : Int)) := by omega
  have e1 : ((n : Int) + 15) / 16 = ((cnt n : Nat) : Int) := by unfold cnt; omega
  have e2 : ((n : Int) + 15).tdiv 16 = ((cnt n : Nat) : Int) := by rw [Int.tdiv_eq_ediv_of_nonneg (by omega)]; exact e1
  have d4 : decide (((cnt n : Nat) : Int) ≤ at_) = true := decide_eq_true hq
  go_enter Try.func17, Try.ntmps17
  go_wp2_with fail
  rw [← HW.out]
  refine (HAl.out _).mono ?_
  rintro e w1 ⟨rfl, hb1⟩
  have B1 := Lib.hid (HB.out.trans (hb1.mono (by rw [HL.out]; omega)))
  clear hb1
  go_wp2_with fail
  go_ret
  exact ⟨rfl, by rw [← HN.out]; exact B1.out⟩

set_option maxRecDepth 100000 in
set_option maxHeartbeats 4000000 in
theorem walk_in (X Y C D : Nat) (hX : X < M) (hY : Y < M) (ad : Addr) (n c q : Nat) (g : Nat → Nat) (w : World) (hb : Byt w (some ad) n c g) (hn : n ≤ 16384) (hq : q < cnt n) :
    Calls Try.prog 17 #[.agg (kl X Y).toArray, .slice (some ad) n c, .int .i64 (q : Int), .agg (kl C D).toArray] w fun e w' => e = .returned (.bool true) ∧ Below w.heap.size w w' := by
  obtain ⟨A, hA⟩ : ∃ A : Option Addr, A = (some ad) := ⟨_, rfl⟩
  rw [← hA] at hb
  obtain ⟨i0, hi, hz0, hz1, hz2⟩ := info_parts info5
  have hnM : n < M := by unfold M; omega
  obtain ⟨hF, hF0⟩ : ∃ hF : Nat → Nat, hF = fun i => if 16 * q ≤ i ∧ i < 16 * q + 16 then kby C D (i - 16 * q) else g i := ⟨_, rfl⟩
  have hFl : ∀ i, hF i < 256 := fun i => by rw [hF0]; dsimp only; split; exact kby_lt _ _ _; exact hb.lt i
  have hmp := mac_portion hX hY hb.lt hFl hnM hq (fun i hi => by rw [hF0]; dsimp only; rw [if_neg (by omega)])
  have hst := bst_inj (n := n) hb.lt hFl
  have oP := macV_ok hX hY hb.lt hnM
  have oR := macV_ok hX hY hFl hnM
  have C1 := Lib.hid (fun (w : World) (h : Byt w A n c g) => mac_yes X Y A n c g w hX hY h hn)
  have C2 := Lib.hid (fun (A : Option Addr) (c : Nat) (w : World) (h : Byt w A n c hF) => mac_yes X Y A n c hF w hX hY h hn)
  obtain ⟨P, hP⟩ : ∃ P, P = (macV X Y g n).1 := ⟨_, rfl⟩
  obtain ⟨Q, hQ⟩ : ∃ Q, Q = (macV X Y g n).2 := ⟨_, rfl⟩
  obtain ⟨R, hR⟩ : ∃ R, R = (macV X Y hF n).1 := ⟨_, rfl⟩
  obtain ⟨S, hS⟩ : ∃ S, S = (macV X Y hF n).2 := ⟨_, rfl⟩
  have e1 : macV X Y g n = (P, Q) := by rw [hP, hQ]
  have e2 : macV X Y hF n = (R, S) := by rw [hR, hS]
  unfold Ok at oP oR
  rw [e1, e2] at hmp
  rw [← hP, ← hQ] at C1 oP
  rw [← hR, ← hS] at C2 oR
  obtain ⟨st, hst1⟩ : ∃ st, st = bst n g := ⟨_, rfl⟩
  obtain ⟨su, hst2⟩ : ∃ su, su = bst n hF := ⟨_, rfl⟩
  have V1 := Lib.hid (fun (w : World) (h : Byt w A n c g) => conv_byt h)
  have V2 := Lib.hid (fun (A : Option Addr) (c : Nat) (w : World) (h : Byt w A n c hF) => conv_byt h)
  rw [← hst1] at V1 hst
  rw [← hst2] at V2 hst
  have hsame : Hid (∃ r : Bool, (st == su) = r ∧ same P Q R S = r) := Lib.hid (by
    refine ⟨decide (∀ i, i < n → g i = hF i), ?_, ?_⟩
    · rw [Bool.eq_iff_iff]; simp only [decide_eq_true_eq]; exact (Go.MapKept.bytes_beq st su).trans hst
    · unfold same; rw [Bool.eq_iff_iff]; simp only [decide_eq_true_eq]; rw [← hmp]; simp)
  obtain ⟨r, hr1, hr2⟩ := hsame.out
  have HQ : Hid (∀ w, (Op.equalIn 10000 23 (.agg (kl P Q).toArray) (.agg (kl R S).toArray)).run Try.prog w = .ok r w) := Lib.hid (fun w => by rw [run_equal_key oP.1 oP.2 oR.1 oR.2 w, hr2])
  have HR := Lib.hid ((beq_toListBytes st su).symm.trans hr1)
  have HFG : Hid (∀ i, i < n → hF i = if 16 * q ≤ i ∧ i < 16 * q + 16 then kby C D (i - 16 * q) else g i) := Lib.hid (fun i _ => by rw [hF0])
  have HG := Lib.hid hb.lt
  have HFl := Lib.hid hFl
  clear hr1 hr2 hsame hst hst1 hst2 hmp oP oR e1 e2 hP hQ hR hS hF0 hFl
  have hpos : 0 < n := by unfold cnt at hq; omega
  have HAl := Lib.hid (fun w => alive_any w)
  obtain ⟨N, hN⟩ : ∃ N, N = w.heap.size := ⟨_, rfl⟩
  obtain ⟨W1, hW1⟩ : ∃ W1, W1 = (w.alloc (.cells (kl X Y).toArray 23)).alloc (.cells (kl C D).toArray 23) := ⟨_, rfl⟩
  have HB : Hid (Below N w W1) := Lib.hid (by rw [hW1, hN]; exact ((Below.refl _ _).alloc (Nat.le_refl _) _).alloc (by simp) _)
  have HL : Hid (W1.heap.size = N + 2) := Lib.hid (by rw [hW1, hN]; simp)
  have HK : Hid (KeyAt W1 N X Y) := Lib.hid (by rw [hW1, hN]; exact (KeyAt.new w X Y 23).alloc _)
  have HJ : Hid (KeyAt W1 (N + 1) C D) := Lib.hid (by
    have h := KeyAt.new (w.alloc (.cells (kl X Y).toArray 23)) C D 23
    rw [World.size_alloc] at h
    rw [hW1, hN]; exact h)
  have HW := Lib.hid hW1
  have HN := Lib.hid hN
  have HYw := Lib.hid hb
  have HA := Lib.hid hA
  clear hW1 hN hX hY hnM hb hA
  have d1 : decide ((16384 : Int) < (n : Int)) = false := decide_eq_false (by omega)
  have d2 : decide ((q : Int) < 0) = false := decide_eq_false (by omega)
  have d3 : ¬ ((16384 : Int) < (n : Int)) := by omega
  have e1 : ((n : Int) + 15) / 16 = ((cnt n : Nat) : Int) := by unfold cnt; omega
  have e2 : ((n : Int) + 15).tdiv 16 = ((cnt n : Nat) : Int) := by rw [Int.tdiv_eq_ediv_of_nonneg (by omega)]; exact e1
  have d4 : decide (((cnt n : Nat) : Int) ≤ (q : Int)) = false := decide_eq_false (by omega)
  have d5 : ¬ (((cnt n : Nat) : Int) ≤ (q : Int)) := by omega
  have d6 : decide (cnt n ≤ q) = false := decide_eq_false (by omega)
  rw [← HA.out]
  go_enter Try.func17, Try.ntmps17
  go_wp2_with fail
  rw [← HW.out, ← HN.out]
  refine (HAl.out _).mono ?_
  rintro e w3 ⟨rfl, hb3⟩
  obtain ⟨m3, hm3⟩ : ∃ m3, m3 = w3.heap.size := ⟨_, rfl⟩
  have S3 : Hid (N + 2 ≤ m3) := Lib.hid (by rw [hm3, ← HL.out]; exact hb3.size)
  obtain ⟨W4, hW4⟩ : ∃ W4, W4 = w3.alloc (.cells #[] 5) := ⟨_, rfl⟩
  have b34 : Below m3 w3 W4 := by rw [hW4, hm3]; exact (Below.refl _ _).alloc (Nat.le_refl _) _
  have b14 : Below (N + 2) W1 W4 := (hb3.mono (by rw [HL.out]; omega)).trans (b34.mono S3.out)
  have B14 := Lib.hid b14
  have B4 := Lib.hid (HB.out.trans (b14.mono (by omega)))
  have S4 : Hid (W4.heap.size = m3 + 1) := Lib.hid (by rw [hW4, hm3]; simp)
  have HO4 : Hid (W4.ownsRow m3 5 1 (.slice (some ⟨m3, 0, none⟩) 0 0) 0 []) := Lib.hid (by
    rw [hW4, hm3]
    exact ⟨rfl, .inr ⟨w3.heap.size, 0, #[], rfl, Nat.le_refl _, heap_alloc_new w3 (.cells #[] 5), Nat.le_refl _, by simp [maxLen], rfl, rfl⟩⟩)
  have HY4 : Hid (Byt W4 A n c g) := Lib.hid ((HYw.out.keep (by rw [← HN.out]; exact B4.out)))
  have HW4 := Lib.hid hW4
  have HM3 := Lib.hid hm3
  clear hb3 hW4 b34 b14 hm3
  have hnw : ∀ j u, (bl ((List.range n).map g))[j]? = some u → W4.cell? (ad.add j) = some u := by
    intro j u hu
    have hj : j < n := by have := (List.getElem?_eq_some_iff.1 hu).1; simp [bl] at this; exact this
    obtain ⟨b, off, e, hc⟩ := HY4.out.at_ (by omega)
    rw [HA.out] at e
    injection e with e
    subst e
    rw [Addr.add_lit, hc j hj, ← hu]
    exact (bl_get _ j (g j) (by simp [List.getElem?_map, List.getElem?_range hj])).symm
  have hlen : (bl ((List.range n).map g)).length = n * 1 := by simp [bl]
  have hml : 0 + n ≤ maxLen := by unfold maxLen; omega
  have h47 : (0 + n) * 1 ≤ 140737488355328 := by omega
  have hbs : m3 ≤ W4.heap.size := by rw [S4.out]; omega
  have ho := HO4.out
  go_wp2_with (at_builtin; rw [← HW4.out, ← HM3.out]; refine wpList_append_own _ rfl _ _ 26 rfl m3 5 i0 _ 1 1 Try.underlying26 hi hz0 hz1 hz2 rfl (by omega) _ 0 [] rfl ho ad n c (bl ((List.range n).map g)) (by rw [HA.out]; rfl) hlen hnw (bl_one _) hml h47 hbs ?_; intro v5 W6 hown6 hg6 _; obtain ⟨gb, c1, hv5, hgb, hgl, hnc, hcm, hrow⟩ := own_rown (show W6.ownsRow m3 5 1 v5 n (bl ((List.range n).map g)) by rw [Nat.zero_add, List.nil_append] at hown6; exact hown6) hpos; subst hv5; have HRow := Lib.hid hrow; have HGb := Lib.hid hgb; have HGl := Lib.hid hgl; have HNc := Lib.hid hnc; have HCm := Lib.hid hcm; have b6 : Below m3 W4 W6 := (Below.refl _ _).grown hg6 hbs (fun b hb => own_block ho hb.symm); have B6 := Lib.hid b6; clear hgb hgl hnc hcm hrow b6 hg6 hown6)
  clear ho hnw hlen hml h47
  go_loopw [11] (fun i wr => ∃ (k : Nat) (f : Nat → Nat), k ≤ 16 ∧ i = .int .i64 (k : Int) ∧ Hid (Below m3 W4 wr) ∧ Hid (gb < wr.heap.size) ∧ Hid (RowN wr gb n f ∧ ∀ i, i < n → f i = if 16 * q ≤ i ∧ i < 16 * q + k then kby C D (i - 16 * q) else g i)) (fun i _ => 16 - (intOf i).toNat)
  case atStart => exact ⟨0, g, by omega, rfl, B6, HGl, Lib.hid ⟨HRow.out, fun i _ => by rw [if_neg (by omega)]⟩⟩
  case round =>
    obtain ⟨k, f, hk, rfl, HB7, HL7, HI⟩ := hrel
    have hq7 : q < 70000 := by unfold cnt at hq; omega
    have lk : (0 : Int) ≤ (k : Int) := by omega
    have lq : (0 : Int) ≤ (q : Int) := by omega
    by_cases hlt : k < 16 ∧ 16 * q + k < n
    · obtain ⟨h1, h2⟩ := hlt
      have t1 : decide ((k : Int) < 16) = true := decide_eq_true (by omega)
      have t2 : decide (16 * (q : Int) + (k : Int) < (n : Int)) = true := decide_eq_true (by omega)
      have t3 : decide (k < 16) = true := decide_eq_true h1
      have KC : Hid (KeyAt wr (N + 1) C D) := Lib.hid ((HJ.out.below B14.out (by omega)).below HB7.out (by have := S3.out; omega))
      have c1 := KC.out.cell k h1
      have c2 := HI.out.1.cell (16 * q + k) h2
      have f2 := HI.out.1.fr (16 * q + k) h2
      have l1 : (0 : Int) ≤ 16 * (q : Int) + (k : Int) := by omega
      have l2 : 16 * (q : Int) + (k : Int) < (n : Int) := by omega
      have l3 : (k : Int) < 16 := by omega
      go_wp2
      go_roundw
      case rel =>
        refine ⟨k + 1, _, by omega, by go_num, Lib.hid ((HB7.out).setCell (p := ⟨gb, 16 * q + k, none⟩) HGb.out _), Lib.hid (by simpa using HL7.out), Lib.hid ⟨HI.out.1.set (16 * q + k) (kby C D k) h2, fun i hi => ?_⟩⟩
        by_cases e : i = 16 * q + k
        · subst e; rw [if_pos rfl, if_pos (by omega), show 16 * q + k - 16 * q = k by omega]
        · rw [if_neg e, HI.out.2 i hi]
          by_cases e2 : 16 * q ≤ i ∧ i < 16 * q + k
          · rw [if_pos e2, if_pos (by omega)]
          · rw [if_neg e2, if_neg (by omega)]
      case measure => simp [intOf]; omega
    · by_cases h1 : k < 16
      · have h2 : ¬ 16 * q + k < n := fun h => hlt ⟨h1, h⟩
        have t1 : decide ((k : Int) < 16) = true := decide_eq_true (by omega)
        have t2 : decide (16 * (q : Int) + (k : Int) < (n : Int)) = false := decide_eq_false (by omega)
        have t3 : decide (k < 16) = true := decide_eq_true h1
        have t4 : decide (16 * q + k < n) = false := decide_eq_false h2
        clear hlt
        have HRF : Hid (RowN wr gb n hF) := Lib.hid (HI.out.1.ext fun i hi => by
          have h : (16 * q ≤ i ∧ i < 16 * q + k) ↔ (16 * q ≤ i ∧ i < 16 * q + 16) := by omega
          rw [HI.out.2 i hi, HFG.out i hi]; simp only [h])
        have Kr : Hid (KeyAt wr N X Y) := Lib.hid ((HK.out.below B14.out (by omega)).below HB7.out (by have := S3.out; omega))
        have Br : Hid (Below N w wr) := Lib.hid (B4.out.trans (HB7.out.mono (by have := S3.out; omega)))
        have HYr : Hid (Byt wr A n c g) := Lib.hid (HYw.out.keep (by rw [← HN.out]; exact Br.out))
        have HZr : Hid (Byt wr (some ⟨gb, 0, none⟩) n c1 hF) := Lib.hid (HRF.out.byt HFl.out HNc.out HCm.out)
        have Sr : Hid (N + 2 ≤ wr.heap.size) := Lib.hid (by have := S3.out; have := HGb.out; have := HL7.out; omega)
        clear HI HB7 HRow HGl HL7 B6 HO4 HY4 hbs
        go_wp2_with (refine wpList_load_key rfl _ rfl N rfl X Y Kr.out ?_)
        refine (C1.out wr HYr.out).mono ?_
        rintro e w7 ⟨rfl, hb7⟩
        obtain ⟨W8, hW8⟩ : ∃ W8, W8 = (w7.alloc (.cells z16 23)).setCells w7.heap.size 0 (kl P Q) := ⟨_, rfl⟩
        have T7 := Lib.hid (Row.zeros w7 23).there
        have B78 : Below w7.heap.size w7 W8 := by rw [hW8]; exact below_setCells _ _ _ _ ((Below.refl _ _).alloc (Nat.le_refl _) _) (Nat.le_refl _)
        have B8 := hb7.trans (B78.mono hb7.size)
        have K8 : Hid (KeyAt W8 w7.heap.size P Q) := Lib.hid (by rw [hW8]; exact KeyAt.stored (Row.zeros w7 23).there P Q)
        have Y8 : Hid (Byt W8 A n c g) := Lib.hid (HYr.out.keep B8)
        have Z8 : Hid (Byt W8 (some ⟨gb, 0, none⟩) n c1 hF) := Lib.hid (HZr.out.keep B8)
        have KN8 : Hid (KeyAt W8 N X Y) := Lib.hid (Kr.out.keep B8)
        have C8 : Hid (Below N w W8) := Lib.hid (Br.out.trans (B8.mono (by have := Sr.out; omega)))
        have S8 : Hid (N + 2 ≤ W8.heap.size) := Lib.hid (Nat.le_trans Sr.out B8.size)
        have HW8 := Lib.hid hW8
        clear hW8 hb7 B78 B8
        obtain ⟨m7, hm7⟩ : ∃ m7, m7 = w7.heap.size := ⟨_, rfl⟩
        go_wp2_with (first
          | ((refine wpList_store_key rfl _ _ rfl w7.heap.size P Q rfl rfl T7.out ?_); rw [← HW8.out])
          | (refine wpList_load_key rfl _ rfl N rfl X Y KN8.out ?_))
        rw [← hm7] at K8 HW8 T7 ⊢
        clear T7 HW8 hm7
        refine (C2.out _ c1 W8 Z8.out).mono ?_
        rintro e w9 ⟨rfl, hb9⟩
        obtain ⟨W10, hW10⟩ : ∃ W10, W10 = (w9.alloc (.cells z16 23)).setCells w9.heap.size 0 (kl R S) := ⟨_, rfl⟩
        have T9 := Lib.hid (Row.zeros w9 23).there
        have B910 : Below w9.heap.size w9 W10 := by rw [hW10]; exact below_setCells _ _ _ _ ((Below.refl _ _).alloc (Nat.le_refl _) _) (Nat.le_refl _)
        have B810 := hb9.trans (B910.mono hb9.size)
        have K10 : Hid (KeyAt W10 w9.heap.size R S) := Lib.hid (by rw [hW10]; exact KeyAt.stored (Row.zeros w9 23).there R S)
        have L10 : Hid (KeyAt W10 m7 P Q) := Lib.hid (K8.out.keep B810)
        have Y10 : Hid (Byt W10 A n c g) := Lib.hid (Y8.out.keep B810)
        have Z10 : Hid (Byt W10 (some ⟨gb, 0, none⟩) n c1 hF) := Lib.hid (Z8.out.keep B810)
        have C10 : Hid (Below N w W10) := Lib.hid (C8.out.trans (B810.mono (by have := S8.out; omega)))
        have S10 : Hid (N ≤ W10.heap.size) := Lib.hid (by have := S8.out; have := B810.size; omega)
        have HW10 := Lib.hid hW10
        obtain ⟨m9, hm9⟩ : ∃ m9, m9 = w9.heap.size := ⟨_, rfl⟩
        clear hW10 hb9 B910 B810
        go_wp2_with (refine wpList_store_key rfl _ _ rfl w9.heap.size R S rfl rfl T9.out ?_; rw [← HW10.out])
        rw [← hm9] at K10 HW10 T9 ⊢
        clear T9 HW10 hm9
        refine wp_region_inv (by kernel_rfl) (by kernel_rfl) (fun l a w' => a = { tmps := #[Value.agg (kl X Y).toArray, Value.slice A n c, Value.int .i64 (q : Int), Value.agg (kl C D).toArray, Value.pointer (some ⟨N, 0, none⟩), undef, undef, Value.pointer (some ⟨N + 1, 0, none⟩), bif l 20 then Value.bool true else Value.bool false, Value.bool true, Value.slice (some ⟨gb, 0, none⟩) n c1, Value.int .i64 (k : Int), Value.pointer (some ⟨m7, 0, none⟩), Value.int .i64 (0 : Int), Value.pointer (some ⟨m9, 0, none⟩), Value.int .i64 (0 : Int), Value.bool true, Value.slice A n c, Value.int .i64 (n : Int), Value.bool false, Value.bool false, Value.int .i64 (q : Int), Value.bool false, Value.bool false, Value.bool false, Value.int .i64 (q : Int), Value.slice A n c, Value.int .i64 (n : Int), Value.int .i64 (n + 15 : Int), Value.int .i64 (cnt n : Int), Value.bool false, Value.bool false, undef, Value.slice (some ⟨m3, 0, none⟩) 0 0, Value.slice A n c, Value.slice (some ⟨gb, 0, none⟩) n c1, Value.int .i64 (k : Int), Value.bool true, Value.bool true, Value.int .i64 (q : Int), Value.int .i64 (16 * q : Int), Value.int .i64 (k : Int), Value.int .i64 (16 * q + k : Int), Value.slice (some ⟨gb, 0, none⟩) n c1, Value.int .i64 (n : Int), Value.bool false, Value.bool false, u47, u48, u49, u50, u51, u52, u53, u54, u55, u56, u57, Value.tuple #[Value.agg (kl P Q).toArray, Value.int IntKind.i64 0], Value.agg (kl X Y).toArray, Value.slice A n c, Value.tuple #[Value.agg (kl P Q).toArray, Value.int IntKind.i64 0], Value.agg (kl P Q).toArray, Value.int .i64 (0 : Int), Value.tuple #[Value.agg (kl R S).toArray, Value.int IntKind.i64 0], Value.agg (kl X Y).toArray, Value.slice (some ⟨gb, 0, none⟩) n c1, Value.tuple #[Value.agg (kl R S).toArray, Value.int IntKind.i64 0], Value.agg (kl R S).toArray, Value.int .i64 (0 : Int), bif l 0 then Value.bool true else undef, bif l 1 then Value.bool true else undef, bif l 2 then Value.int .i64 (0 : Int) else undef, bif l 3 then Value.bool true else undef, bif l 4 then Value.bool true else undef, bif l 5 then Value.bool true else undef, bif l 6 then Value.int .i64 (0 : Int) else undef, bif l 7 then Value.bool true else undef, bif l 8 then Value.bool true else undef, bif l 9 then Value.bool true else undef, bif l 10 then Value.agg (kl P Q).toArray else undef, bif l 11 then Value.agg (kl R S).toArray else undef, bif l 12 then Value.bool r else undef, bif l 13 then Value.slice A n c else undef, bif l 14 then Value.string st else undef, bif l 15 then Value.slice (some ⟨gb, 0, none⟩) n c1 else undef, bif l 16 then Value.string su else undef, bif l 17 then Value.bool r else undef, bif l 18 then Value.bool true else undef, bif l 19 then Value.bool true else undef], defers := [] } ∧ Below W10.heap.size W10 w') ⟨rfl, (Below.refl _ _).drew⟩ ?_ ?_
        · rintro l a w' i ⟨rfl, hB⟩ hi hli hpre
          have hi2 : i < 21 := hi
          have hcase : i = 0 ∨ i = 1 ∨ i = 2 ∨ i = 3 ∨ i = 4 ∨ i = 5 ∨ i = 6 ∨ i = 7 ∨ i = 8 ∨ i = 9 ∨ i = 10 ∨ i = 11 ∨ i = 12 ∨ i = 13 ∨ i = 14 ∨ i = 15 ∨ i = 16 ∨ i = 17 ∨ i = 18 ∨ i = 19 ∨ i = 20 := by omega
          clear hi hi2
          rcases hcase with rfl | rfl | rfl | rfl | rfl | rfl | rfl | rfl | rfl | rfl | rfl | rfl | rfl | rfl | rfl | rfl | rfl | rfl | rfl | rfl | rfl
          · -- 0: Op.move (Operand.tmp 9)
            refine wpOp_step rfl (fun K hK => ?_)
            clear hpre
            rw [if_pos (by rfl)]
            go_simp
            exact hK _ _ ⟨by simp [upd, Act.put], hB⟩
          · -- 1: Op.move (Operand.tmp 70)
            have p0 : l 0 = true := hpre _ rfl ⟨0, .data⟩ (by simp) rfl
            refine wpOp_step rfl (fun K hK => ?_)
            simp only [p0, cond_true]
            clear hpre
            rw [if_pos (by rfl)]
            go_simp
            exact hK _ _ ⟨by simp [upd, Act.put, p0], hB⟩
          · -- 2: Op.move (Operand.tmp 13)
            have p1 : l 1 = true := hpre _ rfl ⟨1, .guard⟩ (by simp) rfl
            refine wpOp_step rfl (fun K hK => ?_)
            simp only [p1, cond_true]
            clear hpre
            rw [if_pos (by rfl)]
            go_simp
            exact hK _ _ ⟨by simp [upd, Act.put, p1], hB⟩
          · -- 3: Op.binOp BinOp.eql 27 (Operand.tmp 72) (Operand.const (Value
            have p2 : l 2 = true := hpre _ rfl ⟨2, .data⟩ (by simp) rfl
            have p1 : l 1 = true := hpre _ rfl ⟨1, .guard⟩ (by simp) rfl
            refine wpOp_step rfl (fun K hK => ?_)
            simp only [p2, p1, cond_true]
            clear hpre
            rw [if_pos (by rfl)]
            go_simp
            exact hK _ _ ⟨by simp [upd, Act.put, p2, p1], hB⟩
          · -- 4: Op.pick (Operand.tmp 71) (Operand.tmp 73) (Operand.const (Va
            have p1 : l 1 = true := hpre _ rfl ⟨1, .data⟩ (by simp) rfl
            have p3 : l 3 = true := hpre _ rfl ⟨3, .data⟩ (by simp) rfl
            refine wpOp_step rfl (fun K hK => ?_)
            simp only [p1, p3, cond_true]
            clear hpre
            rw [if_pos (by rfl)]
            go_simp
            exact hK _ _ ⟨by simp [upd, Act.put, p1, p3], hB⟩
          · -- 5: Op.move (Operand.tmp 74)
            have p4 : l 4 = true := hpre _ rfl ⟨4, .data⟩ (by simp) rfl
            have p1 : l 1 = true := hpre _ rfl ⟨1, .chain⟩ (by simp) rfl
            refine wpOp_step rfl (fun K hK => ?_)
            simp only [p4, p1, cond_true]
            clear hpre
            rw [if_pos (by rfl)]
            go_simp
            exact hK _ _ ⟨by simp [upd, Act.put, p4, p1], hB⟩
          · -- 6: Op.move (Operand.tmp 15)
            have p5 : l 5 = true := hpre _ rfl ⟨5, .guard⟩ (by simp) rfl
            refine wpOp_step rfl (fun K hK => ?_)
            simp only [p5, cond_true]
            clear hpre
            rw [if_pos (by rfl)]
            go_simp
            exact hK _ _ ⟨by simp [upd, Act.put, p5], hB⟩
          · -- 7: Op.binOp BinOp.eql 27 (Operand.tmp 76) (Operand.const (Value
            have p6 : l 6 = true := hpre _ rfl ⟨6, .data⟩ (by simp) rfl
            have p5 : l 5 = true := hpre _ rfl ⟨5, .guard⟩ (by simp) rfl
            refine wpOp_step rfl (fun K hK => ?_)
            simp only [p6, p5, cond_true]
            clear hpre
            rw [if_pos (by rfl)]
            go_simp
            exact hK _ _ ⟨by simp [upd, Act.put, p6, p5], hB⟩
          · -- 8: Op.pick (Operand.tmp 75) (Operand.tmp 77) (Operand.const (Va
            have p5 : l 5 = true := hpre _ rfl ⟨5, .data⟩ (by simp) rfl
            have p7 : l 7 = true := hpre _ rfl ⟨7, .data⟩ (by simp) rfl
            refine wpOp_step rfl (fun K hK => ?_)
            simp only [p5, p7, cond_true]
            clear hpre
            rw [if_pos (by rfl)]
            go_simp
            exact hK _ _ ⟨by simp [upd, Act.put, p5, p7], hB⟩
          · -- 9: Op.move (Operand.tmp 78)
            have p8 : l 8 = true := hpre _ rfl ⟨8, .data⟩ (by simp) rfl
            have p5 : l 5 = true := hpre _ rfl ⟨5, .chain⟩ (by simp) rfl
            refine wpOp_step rfl (fun K hK => ?_)
            simp only [p8, p5, cond_true]
            clear hpre
            rw [if_pos (by rfl)]
            go_simp
            exact hK _ _ ⟨by simp [upd, Act.put, p8, p5], hB⟩
          · -- 10: Op.load 23 (Operand.tmp 12)
            have p9 : l 9 = true := hpre _ rfl ⟨9, .guard⟩ (by simp) rfl
            refine wpOp_step rfl (fun K hK => ?_)
            simp only [p9, cond_true]
            clear hpre
            rw [if_pos (by rfl)]
            refine wp_load_mid 23 _ rfl _ 0 rfl (kl P Q) _ ((L10.out).below hB (L10.out).lt) Try.underlying23 rfl (by rw [kl_len]; exact size23) ?_
            exact hK _ _ ⟨by simp [upd, Act.put, p9], hB⟩
          · -- 11: Op.load 23 (Operand.tmp 14)
            have p9 : l 9 = true := hpre _ rfl ⟨9, .guard⟩ (by simp) rfl
            refine wpOp_step rfl (fun K hK => ?_)
            simp only [p9, cond_true]
            clear hpre
            rw [if_pos (by rfl)]
            refine wp_load_mid 23 _ rfl _ 0 rfl (kl R S) _ ((K10.out).below hB (K10.out).lt) Try.underlying23 rfl (by rw [kl_len]; exact size23) ?_
            exact hK _ _ ⟨by simp [upd, Act.put, p9], hB⟩
          · -- 12: Op.binOp BinOp.eql 23 (Operand.tmp 80) (Operand.tmp 81) 23
            have p10 : l 10 = true := hpre _ rfl ⟨10, .data⟩ (by simp) rfl
            have p11 : l 11 = true := hpre _ rfl ⟨11, .data⟩ (by simp) rfl
            have p9 : l 9 = true := hpre _ rfl ⟨9, .guard⟩ (by simp) rfl
            refine wpOp_step rfl (fun K hK => ?_)
            simp only [p10, p11, p9, cond_true]
            clear hpre
            rw [if_pos (by rfl)]
            have q1 := HQ.out
            go_simp
            exact hK _ _ ⟨by simp [upd, Act.put, p10, p11, p9], hB⟩
          · -- 13: Op.move (Operand.tmp 1)
            have p9 : l 9 = true := hpre _ rfl ⟨9, .guard⟩ (by simp) rfl
            refine wpOp_step rfl (fun K hK => ?_)
            simp only [p9, cond_true]
            clear hpre
            rw [if_pos (by rfl)]
            go_simp
            exact hK _ _ ⟨by simp [upd, Act.put, p9], hB⟩
          · -- 14: Op.convert 26 9 (Operand.tmp 83)
            have p13 : l 13 = true := hpre _ rfl ⟨13, .data⟩ (by simp) rfl
            have p9 : l 9 = true := hpre _ rfl ⟨9, .guard⟩ (by simp) rfl
            refine wpOp_step rfl (fun K hK => ?_)
            simp only [p13, p9, cond_true]
            clear hpre
            rw [if_pos (by rfl)]
            have v1 := V1.out w' (Y10.out.keep hB)
            go_simp
            exact hK _ _ ⟨by simp [upd, Act.put, p13, p9], hB⟩
          · -- 15: Op.move (Operand.tmp 10)
            have p9 : l 9 = true := hpre _ rfl ⟨9, .guard⟩ (by simp) rfl
            refine wpOp_step rfl (fun K hK => ?_)
            simp only [p9, cond_true]
            clear hpre
            rw [if_pos (by rfl)]
            go_simp
            exact hK _ _ ⟨by simp [upd, Act.put, p9], hB⟩
          · -- 16: Op.convert 26 9 (Operand.tmp 85)
            have p15 : l 15 = true := hpre _ rfl ⟨15, .data⟩ (by simp) rfl
            have p9 : l 9 = true := hpre _ rfl ⟨9, .guard⟩ (by simp) rfl
            refine wpOp_step rfl (fun K hK => ?_)
            simp only [p15, p9, cond_true]
            clear hpre
            rw [if_pos (by rfl)]
            have v2 := V2.out _ c1 w' (Z10.out.keep hB)
            go_simp
            exact hK _ _ ⟨by simp [upd, Act.put, p15, p9], hB⟩
          · -- 17: Op.binOp BinOp.eql 9 (Operand.tmp 84) (Operand.tmp 86) 9
            have p14 : l 14 = true := hpre _ rfl ⟨14, .data⟩ (by simp) rfl
            have p16 : l 16 = true := hpre _ rfl ⟨16, .data⟩ (by simp) rfl
            have p9 : l 9 = true := hpre _ rfl ⟨9, .guard⟩ (by simp) rfl
            refine wpOp_step rfl (fun K hK => ?_)
            simp only [p14, p16, p9, cond_true]
            clear hpre
            rw [if_pos (by rfl)]
            have v3 := HR.out
            go_simp
            exact hK _ _ ⟨by simp [upd, Act.put, p14, p16, p9], hB⟩
          · -- 18: Op.binOp BinOp.eql 4 (Operand.tmp 82) (Operand.tmp 87) 4
            have p12 : l 12 = true := hpre _ rfl ⟨12, .data⟩ (by simp) rfl
            have p17 : l 17 = true := hpre _ rfl ⟨17, .data⟩ (by simp) rfl
            have p9 : l 9 = true := hpre _ rfl ⟨9, .guard⟩ (by simp) rfl
            refine wpOp_step rfl (fun K hK => ?_)
            simp only [p12, p17, p9, cond_true]
            clear hpre
            rw [if_pos (by rfl)]
            go_simp
            exact hK _ _ ⟨by simp [upd, Act.put, p12, p17, p9], hB⟩
          · -- 19: Op.pick (Operand.tmp 79) (Operand.tmp 88) (Operand.const (Va
            have p9 : l 9 = true := hpre _ rfl ⟨9, .data⟩ (by simp) rfl
            have p18 : l 18 = true := hpre _ rfl ⟨18, .data⟩ (by simp) rfl
            refine wpOp_step rfl (fun K hK => ?_)
            simp only [p9, p18, cond_true]
            clear hpre
            rw [if_pos (by rfl)]
            go_simp
            exact hK _ _ ⟨by simp [upd, Act.put, p9, p18], hB⟩
          · -- 20: Op.assign (Operand.tmp 89)
            have p19 : l 19 = true := hpre _ rfl ⟨19, .data⟩ (by simp) rfl
            have p9 : l 9 = true := hpre _ rfl ⟨9, .chain⟩ (by simp) rfl
            have p0 : l 0 = true := hpre _ rfl ⟨0, .phase⟩ (by simp) rfl
            have p1 : l 1 = true := hpre _ rfl ⟨1, .phase⟩ (by simp) rfl
            have p2 : l 2 = true := hpre _ rfl ⟨2, .phase⟩ (by simp) rfl
            have p3 : l 3 = true := hpre _ rfl ⟨3, .phase⟩ (by simp) rfl
            have p4 : l 4 = true := hpre _ rfl ⟨4, .phase⟩ (by simp) rfl
            have p5 : l 5 = true := hpre _ rfl ⟨5, .phase⟩ (by simp) rfl
            have p6 : l 6 = true := hpre _ rfl ⟨6, .phase⟩ (by simp) rfl
            have p7 : l 7 = true := hpre _ rfl ⟨7, .phase⟩ (by simp) rfl
            have p8 : l 8 = true := hpre _ rfl ⟨8, .phase⟩ (by simp) rfl
            have p10 : l 10 = true := hpre _ rfl ⟨10, .phase⟩ (by simp) rfl
            have p11 : l 11 = true := hpre _ rfl ⟨11, .phase⟩ (by simp) rfl
            have p12 : l 12 = true := hpre _ rfl ⟨12, .phase⟩ (by simp) rfl
            have p13 : l 13 = true := hpre _ rfl ⟨13, .phase⟩ (by simp) rfl
            have p14 : l 14 = true := hpre _ rfl ⟨14, .phase⟩ (by simp) rfl
            have p15 : l 15 = true := hpre _ rfl ⟨15, .phase⟩ (by simp) rfl
            have p16 : l 16 = true := hpre _ rfl ⟨16, .phase⟩ (by simp) rfl
            have p17 : l 17 = true := hpre _ rfl ⟨17, .phase⟩ (by simp) rfl
            have p18 : l 18 = true := hpre _ rfl ⟨18, .phase⟩ (by simp) rfl
            refine wpOp_step rfl (fun K hK => ?_)
            simp only [p19, p9, p0, p1, p2, p3, p4, p5, p6, p7, p8, p10, p11, p12, p13, p14, p15, p16, p17, p18, cond_true]
            clear hpre
            rw [if_pos (by rfl)]
            go_simp
            exact hK _ _ ⟨by simp [upd, Act.put, p19, p9, p0, p1, p2, p3, p4, p5, p6, p7, p8, p10, p11, p12, p13, p14, p15, p16, p17, p18], hB⟩
        · rintro l a W10' hall ⟨rfl, hBz⟩
          simp only [hall 0 (by decide), hall 1 (by decide), hall 2 (by decide), hall 3 (by decide), hall 4 (by decide), hall 5 (by decide), hall 6 (by decide), hall 7 (by decide), hall 8 (by decide), hall 9 (by decide), hall 10 (by decide), hall 11 (by decide), hall 12 (by decide), hall 13 (by decide), hall 14 (by decide), hall 15 (by decide), hall 16 (by decide), hall 17 (by decide), hall 18 (by decide), hall 19 (by decide), hall 20 (by decide), cond_true]
          clear hall
          go_wp2_with fail
          go_ret
          exact ⟨rfl, by rw [← HN.out]; exact C10.out.trans (hBz.mono S10.out)⟩
      · have hk16 : k = 16 := by omega
        have t1 : decide ((k : Int) < 16) = false := decide_eq_false (by omega)
        have t3 : decide (k < 16) = false := decide_eq_false h1
        clear hlt
        have HRF : Hid (RowN wr gb n hF) := Lib.hid (HI.out.1.ext fun i hi => by
          have h : (16 * q ≤ i ∧ i < 16 * q + k) ↔ (16 * q ≤ i ∧ i < 16 * q + 16) := by omega
          rw [HI.out.2 i hi, HFG.out i hi]; simp only [h])
        have Kr : Hid (KeyAt wr N X Y) := Lib.hid ((HK.out.below B14.out (by omega)).below HB7.out (by have := S3.out; omega))
        have Br : Hid (Below N w wr) := Lib.hid (B4.out.trans (HB7.out.mono (by have := S3.out; omega)))
        have HYr : Hid (Byt wr A n c g) := Lib.hid (HYw.out.keep (by rw [← HN.out]; exact Br.out))
        have HZr : Hid (Byt wr (some ⟨gb, 0, none⟩) n c1 hF) := Lib.hid (HRF.out.byt HFl.out HNc.out HCm.out)
        have Sr : Hid (N + 2 ≤ wr.heap.size) := Lib.hid (by have := S3.out; have := HGb.out; have := HL7.out; omega)
        clear HI HB7 HRow HGl HL7 B6 HO4 HY4 hbs
        go_wp2_with (refine wpList_load_key rfl _ rfl N rfl X Y Kr.out ?_)
        refine (C1.out wr HYr.out).mono ?_
        rintro e w7 ⟨rfl, hb7⟩
        obtain ⟨W8, hW8⟩ : ∃ W8, W8 = (w7.alloc (.cells z16 23)).setCells w7.heap.size 0 (kl P Q) := ⟨_, rfl⟩
        have T7 := Lib.hid (Row.zeros w7 23).there
        have B78 : Below w7.heap.size w7 W8 := by rw [hW8]; exact below_setCells _ _ _ _ ((Below.refl _ _).alloc (Nat.le_refl _) _) (Nat.le_refl _)
        have B8 := hb7.trans (B78.mono hb7.size)
        have K8 : Hid (KeyAt W8 w7.heap.size P Q) := Lib.hid (by rw [hW8]; exact KeyAt.stored (Row.zeros w7 23).there P Q)
        have Y8 : Hid (Byt W8 A n c g) := Lib.hid (HYr.out.keep B8)
        have Z8 : Hid (Byt W8 (some ⟨gb, 0, none⟩) n c1 hF) := Lib.hid (HZr.out.keep B8)
        have KN8 : Hid (KeyAt W8 N X Y) := Lib.hid (Kr.out.keep B8)
        have C8 : Hid (Below N w W8) := Lib.hid (Br.out.trans (B8.mono (by have := Sr.out; omega)))
        have S8 : Hid (N + 2 ≤ W8.heap.size) := Lib.hid (Nat.le_trans Sr.out B8.size)
        have HW8 := Lib.hid hW8
        clear hW8 hb7 B78 B8
        obtain ⟨m7, hm7⟩ : ∃ m7, m7 = w7.heap.size := ⟨_, rfl⟩
        go_wp2_with (first
          | ((refine wpList_store_key rfl _ _ rfl w7.heap.size P Q rfl rfl T7.out ?_); rw [← HW8.out])
          | (refine wpList_load_key rfl _ rfl N rfl X Y KN8.out ?_))
        rw [← hm7] at K8 HW8 T7 ⊢
        clear T7 HW8 hm7
        refine (C2.out _ c1 W8 Z8.out).mono ?_
        rintro e w9 ⟨rfl, hb9⟩
        obtain ⟨W10, hW10⟩ : ∃ W10, W10 = (w9.alloc (.cells z16 23)).setCells w9.heap.size 0 (kl R S) := ⟨_, rfl⟩
        have T9 := Lib.hid (Row.zeros w9 23).there
        have B910 : Below w9.heap.size w9 W10 := by rw [hW10]; exact below_setCells _ _ _ _ ((Below.refl _ _).alloc (Nat.le_refl _) _) (Nat.le_refl _)
        have B810 := hb9.trans (B910.mono hb9.size)
        have K10 : Hid (KeyAt W10 w9.heap.size R S) := Lib.hid (by rw [hW10]; exact KeyAt.stored (Row.zeros w9 23).there R S)
        have L10 : Hid (KeyAt W10 m7 P Q) := Lib.hid (K8.out.keep B810)
        have Y10 : Hid (Byt W10 A n c g) := Lib.hid (Y8.out.keep B810)
        have Z10 : Hid (Byt W10 (some ⟨gb, 0, none⟩) n c1 hF) := Lib.hid (Z8.out.keep B810)
        have C10 : Hid (Below N w W10) := Lib.hid (C8.out.trans (B810.mono (by have := S8.out; omega)))
        have S10 : Hid (N ≤ W10.heap.size) := Lib.hid (by have := S8.out; have := B810.size; omega)
        have HW10 := Lib.hid hW10
        obtain ⟨m9, hm9⟩ : ∃ m9, m9 = w9.heap.size := ⟨_, rfl⟩
        clear hW10 hb9 B910 B810
        go_wp2_with (refine wpList_store_key rfl _ _ rfl w9.heap.size R S rfl rfl T9.out ?_; rw [← HW10.out])
        rw [← hm9] at K10 HW10 T9 ⊢
        clear T9 HW10 hm9
        refine wp_region_inv (by kernel_rfl) (by kernel_rfl) (fun l a w' => a = { tmps := #[Value.agg (kl X Y).toArray, Value.slice A n c, Value.int .i64 (q : Int), Value.agg (kl C D).toArray, Value.pointer (some ⟨N, 0, none⟩), undef, undef, Value.pointer (some ⟨N + 1, 0, none⟩), bif l 20 then Value.bool true else Value.bool false, Value.bool true, Value.slice (some ⟨gb, 0, none⟩) n c1, Value.int .i64 (16 : Int), Value.pointer (some ⟨m7, 0, none⟩), Value.int .i64 (0 : Int), Value.pointer (some ⟨m9, 0, none⟩), Value.int .i64 (0 : Int), Value.bool true, Value.slice A n c, Value.int .i64 (n : Int), Value.bool false, Value.bool false, Value.int .i64 (q : Int), Value.bool false, Value.bool false, Value.bool false, Value.int .i64 (q : Int), Value.slice A n c, Value.int .i64 (n : Int), Value.int .i64 (n + 15 : Int), Value.int .i64 (cnt n : Int), Value.bool false, Value.bool false, undef, Value.slice (some ⟨m3, 0, none⟩) 0 0, Value.slice A n c, Value.slice (some ⟨gb, 0, none⟩) n c1, Value.int .i64 (16 : Int), Value.bool false, Value.bool false, undef, undef, undef, undef, undef, undef, undef, Value.bool false, u47, u48, u49, u50, u51, u52, u53, u54, u55, u56, u57, Value.tuple #[Value.agg (kl P Q).toArray, Value.int IntKind.i64 0], Value.agg (kl X Y).toArray, Value.slice A n c, Value.tuple #[Value.agg (kl P Q).toArray, Value.int IntKind.i64 0], Value.agg (kl P Q).toArray, Value.int .i64 (0 : Int), Value.tuple #[Value.agg (kl R S).toArray, Value.int IntKind.i64 0], Value.agg (kl X Y).toArray, Value.slice (some ⟨gb, 0, none⟩) n c1, Value.tuple #[Value.agg (kl R S).toArray, Value.int IntKind.i64 0], Value.agg (kl R S).toArray, Value.int .i64 (0 : Int), bif l 0 then Value.bool true else undef, bif l 1 then Value.bool true else undef, bif l 2 then Value.int .i64 (0 : Int) else undef, bif l 3 then Value.bool true else undef, bif l 4 then Value.bool true else undef, bif l 5 then Value.bool true else undef, bif l 6 then Value.int .i64 (0 : Int) else undef, bif l 7 then Value.bool true else undef, bif l 8 then Value.bool true else undef, bif l 9 then Value.bool true else undef, bif l 10 then Value.agg (kl P Q).toArray else undef, bif l 11 then Value.agg (kl R S).toArray else undef, bif l 12 then Value.bool r else undef, bif l 13 then Value.slice A n c else undef, bif l 14 then Value.string st else undef, bif l 15 then Value.slice (some ⟨gb, 0, none⟩) n c1 else undef, bif l 16 then Value.string su else undef, bif l 17 then Value.bool r else undef, bif l 18 then Value.bool true else undef, bif l 19 then Value.bool true else undef], defers := [] } ∧ Below W10.heap.size W10 w') ⟨rfl, (Below.refl _ _).drew⟩ ?_ ?_
        · rintro l a w' i ⟨rfl, hB⟩ hi hli hpre
          have hi2 : i < 21 := hi
          have hcase : i = 0 ∨ i = 1 ∨ i = 2 ∨ i = 3 ∨ i = 4 ∨ i = 5 ∨ i = 6 ∨ i = 7 ∨ i = 8 ∨ i = 9 ∨ i = 10 ∨ i = 11 ∨ i = 12 ∨ i = 13 ∨ i = 14 ∨ i = 15 ∨ i = 16 ∨ i = 17 ∨ i = 18 ∨ i = 19 ∨ i = 20 := by omega
          clear hi hi2
          rcases hcase with rfl | rfl | rfl | rfl | rfl | rfl | rfl | rfl | rfl | rfl | rfl | rfl | rfl | rfl | rfl | rfl | rfl | rfl | rfl | rfl | rfl
          · -- 0: Op.move (Operand.tmp 9)
            refine wpOp_step rfl (fun K hK => ?_)
            clear hpre
            rw [if_pos (by rfl)]
            go_simp
            exact hK _ _ ⟨by simp [upd, Act.put], hB⟩
          · -- 1: Op.move (Operand.tmp 70)
            have p0 : l 0 = true := hpre _ rfl ⟨0, .data⟩ (by simp) rfl
            refine wpOp_step rfl (fun K hK => ?_)
            simp only [p0, cond_true]
            clear hpre
            rw [if_pos (by rfl)]
            go_simp
            exact hK _ _ ⟨by simp [upd, Act.put, p0], hB⟩
          · -- 2: Op.move (Operand.tmp 13)
            have p1 : l 1 = true := hpre _ rfl ⟨1, .guard⟩ (by simp) rfl
            refine wpOp_step rfl (fun K hK => ?_)
            simp only [p1, cond_true]
            clear hpre
            rw [if_pos (by rfl)]
            go_simp
            exact hK _ _ ⟨by simp [upd, Act.put, p1], hB⟩
          · -- 3: Op.binOp BinOp.eql 27 (Operand.tmp 72) (Operand.const (Value
            have p2 : l 2 = true := hpre _ rfl ⟨2, .data⟩ (by simp) rfl
            have p1 : l 1 = true := hpre _ rfl ⟨1, .guard⟩ (by simp) rfl
            refine wpOp_step rfl (fun K hK => ?_)
            simp only [p2, p1, cond_true]
            clear hpre
            rw [if_pos (by rfl)]
            go_simp
            exact hK _ _ ⟨by simp [upd, Act.put, p2, p1], hB⟩
          · -- 4: Op.pick (Operand.tmp 71) (Operand.tmp 73) (Operand.const (Va
            have p1 : l 1 = true := hpre _ rfl ⟨1, .data⟩ (by simp) rfl
            have p3 : l 3 = true := hpre _ rfl ⟨3, .data⟩ (by simp) rfl
            refine wpOp_step rfl (fun K hK => ?_)
            simp only [p1, p3, cond_true]
            clear hpre
            rw [if_pos (by rfl)]
            go_simp
            exact hK _ _ ⟨by simp [upd, Act.put, p1, p3], hB⟩
          · -- 5: Op.move (Operand.tmp 74)
            have p4 : l 4 = true := hpre _ rfl ⟨4, .data⟩ (by simp) rfl
            have p1 : l 1 = true := hpre _ rfl ⟨1, .chain⟩ (by simp) rfl
            refine wpOp_step rfl (fun K hK => ?_)
            simp only [p4, p1, cond_true]
            clear hpre
            rw [if_pos (by rfl)]
            go_simp
            exact hK _ _ ⟨by simp [upd, Act.put, p4, p1], hB⟩
          · -- 6: Op.move (Operand.tmp 15)
            have p5 : l 5 = true := hpre _ rfl ⟨5, .guard⟩ (by simp) rfl
            refine wpOp_step rfl (fun K hK => ?_)
            simp only [p5, cond_true]
            clear hpre
            rw [if_pos (by rfl)]
            go_simp
            exact hK _ _ ⟨by simp [upd, Act.put, p5], hB⟩
          · -- 7: Op.binOp BinOp.eql 27 (Operand.tmp 76) (Operand.const (Value
            have p6 : l 6 = true := hpre _ rfl ⟨6, .data⟩ (by simp) rfl
            have p5 : l 5 = true := hpre _ rfl ⟨5, .guard⟩ (by simp) rfl
            refine wpOp_step rfl (fun K hK => ?_)
            simp only [p6, p5, cond_true]
            clear hpre
            rw [if_pos (by rfl)]
            go_simp
            exact hK _ _ ⟨by simp [upd, Act.put, p6, p5], hB⟩
          · -- 8: Op.pick (Operand.tmp 75) (Operand.tmp 77) (Operand.const (Va
            have p5 : l 5 = true := hpre _ rfl ⟨5, .data⟩ (by simp) rfl
            have p7 : l 7 = true := hpre _ rfl ⟨7, .data⟩ (by simp) rfl
            refine wpOp_step rfl (fun K hK => ?_)
            simp only [p5, p7, cond_true]
            clear hpre
            rw [if_pos (by rfl)]
            go_simp
            exact hK _ _ ⟨by simp [upd, Act.put, p5, p7], hB⟩
          · -- 9: Op.move (Operand.tmp 78)
            have p8 : l 8 = true := hpre _ rfl ⟨8, .data⟩ (by simp) rfl
            have p5 : l 5 = true := hpre _ rfl ⟨5, .chain⟩ (by simp) rfl
            refine wpOp_step rfl (fun K hK => ?_)
            simp only [p8, p5, cond_true]
            clear hpre
            rw [if_pos (by rfl)]
            go_simp
            exact hK _ _ ⟨by simp [upd, Act.put, p8, p5], hB⟩
          · -- 10: Op.load 23 (Operand.tmp 12)
            have p9 : l 9 = true := hpre _ rfl ⟨9, .guard⟩ (by simp) rfl
            refine wpOp_step rfl (fun K hK => ?_)
            simp only [p9, cond_true]
            clear hpre
            rw [if_pos (by rfl)]
            refine wp_load_mid 23 _ rfl _ 0 rfl (kl P Q) _ ((L10.out).below hB (L10.out).lt) Try.underlying23 rfl (by rw [kl_len]; exact size23) ?_
            exact hK _ _ ⟨by simp [upd, Act.put, p9], hB⟩
          · -- 11: Op.load 23 (Operand.tmp 14)
            have p9 : l 9 = true := hpre _ rfl ⟨9, .guard⟩ (by simp) rfl
            refine wpOp_step rfl (fun K hK => ?_)
            simp only [p9, cond_true]
            clear hpre
            rw [if_pos (by rfl)]
            refine wp_load_mid 23 _ rfl _ 0 rfl (kl R S) _ ((K10.out).below hB (K10.out).lt) Try.underlying23 rfl (by rw [kl_len]; exact size23) ?_
            exact hK _ _ ⟨by simp [upd, Act.put, p9], hB⟩
          · -- 12: Op.binOp BinOp.eql 23 (Operand.tmp 80) (Operand.tmp 81) 23
            have p10 : l 10 = true := hpre _ rfl ⟨10, .data⟩ (by simp) rfl
            have p11 : l 11 = true := hpre _ rfl ⟨11, .data⟩ (by simp) rfl
            have p9 : l 9 = true := hpre _ rfl ⟨9, .guard⟩ (by simp) rfl
            refine wpOp_step rfl (fun K hK => ?_)
            simp only [p10, p11, p9, cond_true]
            clear hpre
            rw [if_pos (by rfl)]
            have q1 := HQ.out
            go_simp
            exact hK _ _ ⟨by simp [upd, Act.put, p10, p11, p9], hB⟩
          · -- 13: Op.move (Operand.tmp 1)
            have p9 : l 9 = true := hpre _ rfl ⟨9, .guard⟩ (by simp) rfl
            refine wpOp_step rfl (fun K hK => ?_)
            simp only [p9, cond_true]
            clear hpre
            rw [if_pos (by rfl)]
            go_simp
            exact hK _ _ ⟨by simp [upd, Act.put, p9], hB⟩
          · -- 14: Op.convert 26 9 (Operand.tmp 83)
            have p13 : l 13 = true := hpre _ rfl ⟨13, .data⟩ (by simp) rfl
            have p9 : l 9 = true := hpre _ rfl ⟨9, .guard⟩ (by simp) rfl
            refine wpOp_step rfl (fun K hK => ?_)
            simp only [p13, p9, cond_true]
            clear hpre
            rw [if_pos (by rfl)]
            have v1 := V1.out w' (Y10.out.keep hB)
            go_simp
            exact hK _ _ ⟨by simp [upd, Act.put, p13, p9], hB⟩
          · -- 15: Op.move (Operand.tmp 10)
            have p9 : l 9 = true := hpre _ rfl ⟨9, .guard⟩ (by simp) rfl
            refine wpOp_step rfl (fun K hK => ?_)
            simp only [p9, cond_true]
            clear hpre
            rw [if_pos (by rfl)]
            go_simp
            exact hK _ _ ⟨by simp [upd, Act.put, p9], hB⟩
          · -- 16: Op.convert 26 9 (Operand.tmp 85)
            have p15 : l 15 = true := hpre _ rfl ⟨15, .data⟩ (by simp) rfl
            have p9 : l 9 = true := hpre _ rfl ⟨9, .guard⟩ (by simp) rfl
            refine wpOp_step rfl (fun K hK => ?_)
            simp only [p15, p9, cond_true]
            clear hpre
            rw [if_pos (by rfl)]
            have v2 := V2.out _ c1 w' (Z10.out.keep hB)
            go_simp
            exact hK _ _ ⟨by simp [upd, Act.put, p15, p9], hB⟩
          · -- 17: Op.binOp BinOp.eql 9 (Operand.tmp 84) (Operand.tmp 86) 9
            have p14 : l 14 = true := hpre _ rfl ⟨14, .data⟩ (by simp) rfl
            have p16 : l 16 = true := hpre _ rfl ⟨16, .data⟩ (by simp) rfl
            have p9 : l 9 = true := hpre _ rfl ⟨9, .guard⟩ (by simp) rfl
            refine wpOp_step rfl (fun K hK => ?_)
            simp only [p14, p16, p9, cond_true]
            clear hpre
            rw [if_pos (by rfl)]
            have v3 := HR.out
            go_simp
            exact hK _ _ ⟨by simp [upd, Act.put, p14, p16, p9], hB⟩
          · -- 18: Op.binOp BinOp.eql 4 (Operand.tmp 82) (Operand.tmp 87) 4
            have p12 : l 12 = true := hpre _ rfl ⟨12, .data⟩ (by simp) rfl
            have p17 : l 17 = true := hpre _ rfl ⟨17, .data⟩ (by simp) rfl
            have p9 : l 9 = true := hpre _ rfl ⟨9, .guard⟩ (by simp) rfl
            refine wpOp_step rfl (fun K hK => ?_)
            simp only [p12, p17, p9, cond_true]
            clear hpre
            rw [if_pos (by rfl)]
            go_simp
            exact hK _ _ ⟨by simp [upd, Act.put, p12, p17, p9], hB⟩
          · -- 19: Op.pick (Operand.tmp 79) (Operand.tmp 88) (Operand.const (Va
            have p9 : l 9 = true := hpre _ rfl ⟨9, .data⟩ (by simp) rfl
            have p18 : l 18 = true := hpre _ rfl ⟨18, .data⟩ (by simp) rfl
            refine wpOp_step rfl (fun K hK => ?_)
            simp only [p9, p18, cond_true]
            clear hpre
            rw [if_pos (by rfl)]
            go_simp
            exact hK _ _ ⟨by simp [upd, Act.put, p9, p18], hB⟩
          · -- 20: Op.assign (Operand.tmp 89)
            have p19 : l 19 = true := hpre _ rfl ⟨19, .data⟩ (by simp) rfl
            have p9 : l 9 = true := hpre _ rfl ⟨9, .chain⟩ (by simp) rfl
            have p0 : l 0 = true := hpre _ rfl ⟨0, .phase⟩ (by simp) rfl
            have p1 : l 1 = true := hpre _ rfl ⟨1, .phase⟩ (by simp) rfl
            have p2 : l 2 = true := hpre _ rfl ⟨2, .phase⟩ (by simp) rfl
            have p3 : l 3 = true := hpre _ rfl ⟨3, .phase⟩ (by simp) rfl
            have p4 : l 4 = true := hpre _ rfl ⟨4, .phase⟩ (by simp) rfl
            have p5 : l 5 = true := hpre _ rfl ⟨5, .phase⟩ (by simp) rfl
            have p6 : l 6 = true := hpre _ rfl ⟨6, .phase⟩ (by simp) rfl
            have p7 : l 7 = true := hpre _ rfl ⟨7, .phase⟩ (by simp) rfl
            have p8 : l 8 = true := hpre _ rfl ⟨8, .phase⟩ (by simp) rfl
            have p10 : l 10 = true := hpre _ rfl ⟨10, .phase⟩ (by simp) rfl
            have p11 : l 11 = true := hpre _ rfl ⟨11, .phase⟩ (by simp) rfl
            have p12 : l 12 = true := hpre _ rfl ⟨12, .phase⟩ (by simp) rfl
            have p13 : l 13 = true := hpre _ rfl ⟨13, .phase⟩ (by simp) rfl
            have p14 : l 14 = true := hpre _ rfl ⟨14, .phase⟩ (by simp) rfl
            have p15 : l 15 = true := hpre _ rfl ⟨15, .phase⟩ (by simp) rfl
            have p16 : l 16 = true := hpre _ rfl ⟨16, .phase⟩ (by simp) rfl
            have p17 : l 17 = true := hpre _ rfl ⟨17, .phase⟩ (by simp) rfl
            have p18 : l 18 = true := hpre _ rfl ⟨18, .phase⟩ (by simp) rfl
            refine wpOp_step rfl (fun K hK => ?_)
            simp only [p19, p9, p0, p1, p2, p3, p4, p5, p6, p7, p8, p10, p11, p12, p13, p14, p15, p16, p17, p18, cond_true]
            clear hpre
            rw [if_pos (by rfl)]
            go_simp
            exact hK _ _ ⟨by simp [upd, Act.put, p19, p9, p0, p1, p2, p3, p4, p5, p6, p7, p8, p10, p11, p12, p13, p14, p15, p16, p17, p18], hB⟩
        · rintro l a W10' hall ⟨rfl, hBz⟩
          simp only [hall 0 (by decide), hall 1 (by decide), hall 2 (by decide), hall 3 (by decide), hall 4 (by decide), hall 5 (by decide), hall 6 (by decide), hall 7 (by decide), hall 8 (by decide), hall 9 (by decide), hall 10 (by decide), hall 11 (by decide), hall 12 (by decide), hall 13 (by decide), hall 14 (by decide), hall 15 (by decide), hall 16 (by decide), hall 17 (by decide), hall 18 (by decide), hall 19 (by decide), hall 20 (by decide), cond_true]
          clear hall
          go_wp2_with fail
          go_ret
          exact ⟨rfl, by rw [← HN.out]; exact C10.out.trans (hBz.mono S10.out)⟩

theorem walk (X Y : Nat) (hX : X < M) (hY : Y < M) (A : Option Addr) (n c : Nat) (g : Nat → Nat) (w0 : World) (hb : Byt w0 A n c g) (a : Int) (hw : (Lit.int .i64 a).wf = true) (C D : Nat) (hC : C < M) (hD : D < M) :
    Calls Try.prog 17 #[.agg (kl X Y).toArray, .slice A n c, .int .i64 a, .agg (kl C D).toArray] w0 fun e w' => e = .returned (.bool true) ∧ Below w0.heap.size w0 w' := by
  by_cases h1 : 16384 < n
  · exact walk_big X Y C D A n c a w0 h1
  by_cases h2 : a < 0
  · exact walk_neg X Y C D A n c a w0 (by omega) h2
  by_cases h3 : ((cnt n : Nat) : Int) ≤ a
  · exact walk_far X Y C D A n c a w0 (by omega) (by omega) h3
  obtain ⟨q, rfl⟩ : ∃ q : Nat, a = (q : Int) := ⟨a.toNat, by omega⟩
  have hq : q < cnt n := by omega
  obtain ⟨b, off, rfl, _⟩ := hb.at_ (by unfold cnt at hq; omega)
  exact walk_in X Y C D hX hY _ n c q g w0 hb (by omega) hq
end Go.Proofs.Ytphhppdokdageaa.cipherPortion
