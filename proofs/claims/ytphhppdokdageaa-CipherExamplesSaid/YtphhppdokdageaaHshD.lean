/-
  Hash: its contract.
-/
import Derived.Test.YtphhppdokdageaaHshC
import Derived.Test.YtphhppdokdageaaFldD
namespace Go.Proofs.Ytphhppdokdageaa
open Go.RowKit SP
set_option linter.unusedVariables false
set_option linter.unusedSimpArgs false

/-- The word of the first state. -/
abbrev S5a : Nat := 6510615555426900570
theorem kby_5a (j : Nat) (hj : j < 16) : kby S5a S5a j = 90 := by
  have h16 : j = 0 ∨ j = 1 ∨ j = 2 ∨ j = 3 ∨ j = 4 ∨ j = 5 ∨ j = 6 ∨ j = 7 ∨ j = 8 ∨ j = 9 ∨ j = 10 ∨ j = 11 ∨ j = 12 ∨ j = 13 ∨ j = 14 ∨ j = 15 := by omega
  rcases h16 with rfl | rfl | rfl | rfl | rfl | rfl | rfl | rfl | rfl | rfl | rfl | rfl | rfl | rfl | rfl | rfl <;> decide
theorem S5a_lt : S5a < M := by decide
/-- The digest of n bytes g. -/
def hshV (g : Nat → Nat) (n : Nat) : Nat × Nat := fld hshS (S5a, S5a) (pdb g n) (pdl n) (cnt (pdl n))
theorem hshV_ok {g : Nat → Nat} (hg : ∀ i, g i < 256) (n : Nat) : Ok (hshV g n) := fld_ok (fun _ _ hs hp => hshS_ok hs hp) ⟨S5a_lt, S5a_lt⟩ (pdb_lt hg n) _ _
theorem padded_byt (A : Option Addr) (n c : Nat) (g : Nat → Nat) (w : World) (hb : Byt w A n c g) (hn : n ≤ 16384) :
    Calls Try.prog 44 #[.slice A n c] w fun e w' => ∃ A' c', e = .returned (.slice A' (pdl n) c') ∧ Below w.heap.size w w' ∧ Byt w' A' (pdl n) c' (pdb g n) :=
  (padded_any A n c g w hb hn).mono fun e w' ⟨v, he, hbl, ho⟩ => by
    obtain ⟨A', c', hv, hy⟩ := own_byt ho (pdb_lt hb.lt n)
    exact ⟨A', c', by rw [he, hv], hbl, hy⟩
theorem hashFold (A : Option Addr) (c n : Nat) (g : Nat → Nat) (w : World) (hn : n ≤ 16384) (hb : Byt w A (pdl n) c (pdb g n)) :
    Calls Try.prog 43 #[.agg (kl S5a S5a).toArray, .slice A (pdl n) c, .func (.func 45) #[] #[]] w fun e w' => e = .returned (.agg (kl (hshV g n).1 (hshV g n).2).toArray) ∧ Below w.heap.size w w' := by
  have hpl : pdl n ≤ 20000 := by unfold pdl zz; omega
  have hpl0 : 0 < pdl n := by unfold pdl; omega
  obtain ⟨b, off, rfl, hc⟩ := hb.at_ hpl0
  exact fold_pos 45 #[] hshS S5a S5a b off (pdl n) c (pdb g n) w (fun _ => True) S5a_lt S5a_lt hb.lt hpl0 (by omega) hb.le hb.cap hc (enters_of Try.func45 (by kernel_rfl) rfl) (fun _ _ => trivial)
    (fun _ _ hs hp => hshS_ok hs hp) (fun W s p _ hs hp => hashStep_any s.1 s.2 p.1 p.2 W hs.1 hs.2 hp.1 hp.2)

set_option maxRecDepth 100000 in
set_option maxHeartbeats 1000000 in
theorem hash_no (A : Option Addr) (n c : Nat) (w : World) (hn : 16384 < n) :
    Calls Try.prog 21 #[.slice A n c] w fun e w' => e = .returned (.tuple #[.agg (kl 0 0).toArray, .int .i64 4]) ∧ Below w.heap.size w w' := by
  obtain ⟨W2, hW2⟩ : ∃ W2, W2 = w.alloc (.cells z16 23) := ⟨_, rfl⟩
  have HB : Hid (Below w.heap.size w W2) := Lib.hid (by rw [hW2]; exact (Below.refl _ _).alloc (Nat.le_refl _) _)
  have HT : Hid (W2.there w.heap.size 0 16) := Lib.hid (by rw [hW2]; exact (Row.zeros w 23).there)
  have HW := Lib.hid hW2
  clear hW2
  go_enter Try.func21, Try.ntmps21
  go_wp2_with (refine wpList_store_key rfl _ _ rfl w.heap.size 0 0 rfl (by rw [kl_zero]; rfl) (by rw [← HW.out]; exact HT.out) ?_)
  rw [← HW.out]
  exact bodyPost_key2 rfl w.heap.size 0 0 rfl (KeyAt.stored HT.out 0 0) rfl ⟨rfl, below_setCells _ _ _ _ HB.out (Nat.le_refl _)⟩

set_option maxRecDepth 100000 in
set_option pp.deepTerms true in
set_option pp.maxSteps 10000000 in
set_option maxHeartbeats 1000000 in
theorem hash_yes (A : Option Addr) (n c : Nat) (g : Nat → Nat) (w : World) (hb : Byt w A n c g) (hn : n ≤ 16384) :
    Calls Try.prog 21 #[.slice A n c] w fun e w' => e = .returned (.tuple #[.agg (kl (hshV g n).1 (hshV g n).2).toArray, .int .i64 0]) ∧ Below w.heap.size w w' := by
  have HPa := Lib.hid (fun (w : World) (h : Byt w A n c g) => padded_byt A n c g w h hn)
  have HFo := Lib.hid (fun (A : Option Addr) (c : Nat) (w : World) (h : Byt w A (pdl n) c (pdb g n)) => hashFold A c n g w hn h)
  obtain ⟨P, hP⟩ : ∃ P, P = (hshV g n).1 := ⟨_, rfl⟩
  obtain ⟨Q, hQ⟩ : ∃ Q, Q = (hshV g n).2 := ⟨_, rfl⟩
  rw [← hP, ← hQ] at HFo ⊢
  obtain ⟨N, hN⟩ : ∃ N, N = w.heap.size := ⟨_, rfl⟩
  obtain ⟨W2, hW2⟩ : ∃ W2, W2 = (w.alloc (.cells z16 23)).alloc (.cells z16 23) := ⟨_, rfl⟩
  have HB : Hid (Below N w W2) := Lib.hid (by rw [hW2, hN]; exact ((Below.refl _ _).alloc (Nat.le_refl _) _).alloc (by simp) _)
  have HL : Hid (W2.heap.size = N + 2) := Lib.hid (by rw [hW2, hN]; simp)
  have HT : Hid (W2.there N 0 16) := Lib.hid (by
    have h := ((Row.zeros w 23).keep ((Below.refl _ _).alloc (Nat.le_refl _) (.cells z16 23))).there
    rw [hW2, hN]; exact h)
  have HR : Hid (Row W2 (N + 1) (fun _ => 0)) := Lib.hid (by
    have h := Row.zeros (w.alloc (.cells z16 23)) 23
    rw [World.size_alloc] at h
    rw [hW2, hN]; exact h)
  have HW := Lib.hid hW2
  have HN := Lib.hid hN
  have HY := Lib.hid hb
  rw [← hN]
  have d1 : decide ((16384 : Int) < (n : Int)) = false := decide_eq_false (by omega)
  have d2 : ¬ ((16384 : Int) < (n : Int)) := by omega
  clear hW2 hN hP hQ hb
  go_enter Try.func21, Try.ntmps21
  go_wp2_with fail
  rw [← HW.out, ← HN.out]
  go_loopw [10] (fun i wr => ∃ (k : Nat) (f : Nat → Nat), k ≤ 16 ∧ i = .int .i64 (k : Int) ∧ Hid (Below (N + 1) W2 wr) ∧ Hid (Row wr (N + 1) f ∧ ∀ j, j < k → f j = 90)) (fun i _ => 16 - (intOf i).toNat)
  case atStart => exact ⟨0, _, by omega, rfl, Lib.hid (Below.refl _ _), Lib.hid ⟨HR.out, fun j hj => by omega⟩⟩
  case round =>
    obtain ⟨k, f, hk, rfl, HBr, HI⟩ := hrel
    by_cases hlt : k < 16
    · have t1 : decide ((k : Int) < 16) = true := decide_eq_true (by omega)
      have t2 : decide (k < 16) = true := decide_eq_true hlt
      have c1 := HI.out.1.cell k hlt
      have f1 := HI.out.1.fr k hlt
      have l1 : (0 : Int) ≤ (k : Int) := by omega
      have l2 : (k : Int) < 16 := by omega
      go_wp2_with fail
      go_roundw
      case rel =>
        refine ⟨k + 1, _, by omega, by go_num, Lib.hid (HBr.out.setCell (p := ⟨N + 1, k, none⟩) (Nat.le_refl _) _), Lib.hid ⟨HI.out.1.set k 90 hlt, fun j hj => ?_⟩⟩
        by_cases e : j = k
        · rw [if_pos e]
        · rw [if_neg e]; exact HI.out.2 j (by omega)
      case measure => simp [intOf]; omega
    · obtain rfl : k = 16 := by omega
      have t1 : decide (((16 : Nat) : Int) < 16) = false := by decide
      have KS : Hid (KeyAt wr (N + 1) S5a S5a) := Lib.hid (HI.out.1.key fun j hj => by rw [HI.out.2 j hj, kby_5a j hj])
      have Tr : Hid (wr.there N 0 16) := Lib.hid (there_below HT.out HBr.out (by omega))
      have Br : Hid (Below N w wr) := Lib.hid (HB.out.trans (HBr.out.mono (by omega)))
      have Yr : Hid (Byt wr A n c g) := Lib.hid (HY.out.keep (by rw [← HN.out]; exact Br.out))
      have Sr : Hid (N + 2 ≤ wr.heap.size) := Lib.hid (by rw [← HL.out]; exact HBr.out.size)
      clear HI HBr hlt
      go_wp2_with fail
      refine wp_region_inv (by kernel_rfl) (by kernel_rfl) (fun l a w' => ∃ (A3 : Option Addr) (c3 : Nat), a = { tmps := #[Value.slice A n c, undef, Value.pointer (some ⟨N, 0, none⟩), bif l 5 then Value.int .i64 0 else Value.int .i64 (0 : Int), Value.pointer (some ⟨N + 1, 0, none⟩), u5, Value.slice A n c, Value.int .i64 (n : Int), Value.bool false, undef, Value.int .i64 (16 : Int), Value.bool false, u12, u13, u14, u15, bif l 0 then Value.agg (kl S5a S5a).toArray else undef, bif l 1 then Value.slice A n c else undef, bif l 2 then Value.slice A3 (pdl n) c3 else undef, bif l 3 then Value.agg (kl P Q).toArray else undef], defers := [] } ∧ Below N wr w' ∧ wr.heap.size ≤ w'.heap.size ∧ w'.there N 0 16 ∧ (l 4 = false → Below wr.heap.size wr w') ∧ (l 4 = true → KeyAt w' N P Q) ∧ (l 2 = true → l 3 = false → Byt w' A3 (pdl n) c3 (pdb g n)) ∧ (l 3 = true → l 2 = true) ∧ (l 4 = true → l 3 = true) ∧ (l 4 = true → l 0 = true)) ⟨none, 0, rfl, (Below.refl _ _).drew, Nat.le_refl _, Tr.out, (fun _ => (Below.refl _ _).drew), (fun h => by cases h), (fun h => by cases h), (fun h => by cases h), (fun h => by cases h), (fun h => by cases h)⟩ ?_ ?_
      · rintro l a w' i ⟨A3, c3, rfl, hB, hZ, hT, g4, f4, f2, o0, o1, o2⟩ hi hli hpre
        have hi2 : i < 6 := hi
        have hcase : i = 0 ∨ i = 1 ∨ i = 2 ∨ i = 3 ∨ i = 4 ∨ i = 5 := by omega
        clear hi hi2
        rcases hcase with rfl | rfl | rfl | rfl | rfl | rfl
        · -- 0: Op.load 23 (Operand.tmp 4)
          refine wpOp_step rfl (fun K hK => ?_)
          have n4 : l 4 = false := by cases h : l 4; rfl; exact absurd (o2 h) (by rw [hli]; decide)
          simp only [n4, cond_true, cond_false]
          clear hpre
          rw [if_pos (by rfl)]
          refine wp_load_mid 23 _ rfl _ 0 rfl (kl S5a S5a) _ (KS.out.below (g4 n4) KS.out.lt) Try.underlying23 rfl (by rw [kl_len]; exact size23) ?_
          exact hK _ _ ⟨A3, c3, by simp [upd, Act.put, n4], hB, hZ, hT, (fun e => g4 (by simpa [upd] using e)), (fun e => f4 (by simpa [upd] using e)), (fun e1 e2 => f2 (by simpa [upd] using e1) (by simpa [upd] using e2)), (by first | (simp [upd, n4]; done) | simpa [upd, n4] using o0), (by first | (simp [upd, n4]; done) | simpa [upd, n4] using o1), (by first | (simp [upd, n4]; done) | simpa [upd, n4] using o2)⟩
        · -- 1: Op.move (Operand.tmp 0)
          refine wpOp_step rfl (fun K hK => ?_)
          clear hpre
          rw [if_pos (by rfl)]
          go_simp
          exact hK _ _ ⟨A3, c3, by simp [upd, Act.put], hB, hZ, hT, (fun e => g4 (by simpa [upd] using e)), (fun e => f4 (by simpa [upd] using e)), (fun e1 e2 => f2 (by simpa [upd] using e1) (by simpa [upd] using e2)), (by first | (simp [upd]; done) | simpa [upd] using o0), (by first | (simp [upd]; done) | simpa [upd] using o1), (by first | (simp [upd]; done) | simpa [upd] using o2)⟩
        · -- 2: Op.call { callee := Callee.value (Operand.func 44)
          have p1 : l 1 = true := hpre _ rfl ⟨1, .data⟩ (by simp) rfl
          refine wpOp_step rfl (fun K hK => ?_)
          have n3 : l 3 = false := by cases h : l 3; rfl; exact absurd (o0 h) (by rw [hli]; decide)
          have n4 : l 4 = false := by cases h : l 4; rfl; exact absurd (o1 h) (by rw [n3]; decide)
          simp only [p1, n3, n4, cond_true, cond_false]
          clear hpre
          rw [if_pos (by rfl)]
          go_simp
          refine (HPa.out w' (Yr.out.keep (g4 n4))).mono ?_
          rintro e w5 ⟨A5, c5, rfl, hb5, hy5⟩
          exact hK _ _ ⟨A5, c5, by simp [upd, Act.put, p1, n3, n4], hB.trans (hb5.mono (by have := Sr.out; omega)), Nat.le_trans hZ hb5.size, there_below hT hb5 (there_lt hT (by omega)), (fun _ => (g4 n4).trans (hb5.mono hZ)), (fun e => absurd e (by simp [upd, n4])), (fun _ _ => hy5), (by first | (simp [upd, p1, n3, n4]; done) | simpa [upd, p1, n3, n4] using o0), (by first | (simp [upd, p1, n3, n4]; done) | simpa [upd, p1, n3, n4] using o1), (by first | (simp [upd, p1, n3, n4]; done) | simpa [upd, p1, n3, n4] using o2)⟩
        · -- 3: Op.call { callee := Callee.value (Operand.func 43)
          have p0 : l 0 = true := hpre _ rfl ⟨0, .data⟩ (by simp) rfl
          have p2 : l 2 = true := hpre _ rfl ⟨2, .data⟩ (by simp) rfl
          refine wpOp_step rfl (fun K hK => ?_)
          have n4 : l 4 = false := by cases h : l 4; rfl; exact absurd (o1 h) (by rw [hli]; decide)
          simp only [p0, p2, n4, cond_true, cond_false]
          clear hpre
          rw [if_pos (by rfl)]
          go_simp
          refine (HFo.out A3 c3 w' (f2 p2 hli)).mono ?_
          rintro e w5 ⟨rfl, hb5⟩
          exact hK _ _ ⟨A3, c3, by simp [upd, Act.put, p0, p2, n4], hB.trans (hb5.mono (by have := Sr.out; omega)), Nat.le_trans hZ hb5.size, there_below hT hb5 (there_lt hT (by omega)), (fun _ => (g4 n4).trans (hb5.mono hZ)), (fun e => absurd e (by simp [upd, n4])), (fun _ e => absurd e (by simp [upd])), (by first | (simp [upd, p0, p2, n4]; done) | simpa [upd, p0, p2, n4] using o0), (by first | (simp [upd, p0, p2, n4]; done) | simpa [upd, p0, p2, n4] using o1), (by first | (simp [upd, p0, p2, n4]; done) | simpa [upd, p0, p2, n4] using o2)⟩
        · -- 4: Op.store 23 (Operand.tmp 2) (Operand.tmp 19)
          have p3 : l 3 = true := hpre _ rfl ⟨3, .data⟩ (by simp) rfl
          have p0 : l 0 = true := hpre _ rfl ⟨0, .phase⟩ (by simp) rfl
          have p1 : l 1 = true := hpre _ rfl ⟨1, .phase⟩ (by simp) rfl
          have p2 : l 2 = true := hpre _ rfl ⟨2, .phase⟩ (by simp) rfl
          refine wpOp_step rfl (fun K hK => ?_)
          simp only [p3, p0, p1, p2, cond_true, cond_false]
          clear hpre
          rw [if_pos (by rfl)]
          refine wp_store_mid 23 _ _ rfl N 0 (kl P Q).toArray rfl rfl (by simpa [kl_len] using hT) (by simp [kl_len, size23]) (kl_arr P Q) ?_
          rw [List.toList_toArray]
          exact hK _ _ ⟨A3, c3, by simp [upd, Act.put, p3, p0, p1, p2], below_setCells _ _ _ _ hB (Nat.le_refl _), by rw [size_setCells]; exact hZ, World.there_setCells hT _ _ _, (fun e => absurd e (by simp [upd])), (fun _ => KeyAt.stored hT P Q), (fun _ e => absurd e (by simp [upd, p3, p0, p1, p2])), (by first | (simp [upd, p3, p0, p1, p2]; done) | simpa [upd, p3, p0, p1, p2] using o0), (by first | (simp [upd, p3, p0, p1, p2]; done) | simpa [upd, p3, p0, p1, p2] using o1), (by first | (simp [upd, p3, p0, p1, p2]; done) | simpa [upd, p3, p0, p1, p2] using o2)⟩
        · -- 5: Op.assign (Operand.const (Value.int IntKind.i64 0)
          have p4 : l 4 = true := hpre _ rfl ⟨4, .chain⟩ (by simp) rfl
          have p0 : l 0 = true := hpre _ rfl ⟨0, .phase⟩ (by simp) rfl
          have p1 : l 1 = true := hpre _ rfl ⟨1, .phase⟩ (by simp) rfl
          have p2 : l 2 = true := hpre _ rfl ⟨2, .phase⟩ (by simp) rfl
          have p3 : l 3 = true := hpre _ rfl ⟨3, .phase⟩ (by simp) rfl
          refine wpOp_step rfl (fun K hK => ?_)
          simp only [p4, p0, p1, p2, p3, cond_true, cond_false]
          clear hpre
          rw [if_pos (by rfl)]
          go_simp
          exact hK _ _ ⟨A3, c3, by simp [upd, Act.put, p4, p0, p1, p2, p3], hB, hZ, hT, (fun e => g4 (by simpa [upd] using e)), (fun e => f4 (by simpa [upd] using e)), (fun e1 e2 => f2 (by simpa [upd] using e1) (by simpa [upd] using e2)), (by first | (simp [upd, p4, p0, p1, p2, p3]; done) | simpa [upd, p4, p0, p1, p2, p3] using o0), (by first | (simp [upd, p4, p0, p1, p2, p3]; done) | simpa [upd, p4, p0, p1, p2, p3] using o1), (by first | (simp [upd, p4, p0, p1, p2, p3]; done) | simpa [upd, p4, p0, p1, p2, p3] using o2)⟩
      · rintro l a w9 hall ⟨A3, c3, rfl, hBz, _, _, _, f4, _, _, _, _⟩
        simp only [hall 0 (by decide), hall 1 (by decide), hall 2 (by decide), hall 3 (by decide), hall 5 (by decide), cond_true]
        have hKz := f4 (hall 4 (by decide))
        clear hall f4
        go_wp2_with fail
        exact bodyPost_key2 rfl N P Q rfl hKz rfl ⟨rfl, Br.out.trans hBz⟩
end Go.Proofs.Ytphhppdokdageaa
