/- The walk over CipherDerives. -/
import Derived.Test.YtphhppdokdageaaRfJ
import Derived.Test.YtphhppdokdageaaLawB
namespace Go.Proofs.Ytphhppdokdageaa.cipherDerives
open Go.RowKit SP
set_option linter.unusedVariables false
set_option linter.unusedSimpArgs false

set_option maxRecDepth 100000 in
set_option maxHeartbeats 4000000 in
theorem walkN (X Y : Nat) (hX : X < M) (hY : Y < M) (t : Nat) (ht : t < 256) (n : Nat) (hn : n < M) (m : Nat) (w : World) :
    Calls Try.prog 5 #[.agg (kl X Y).toArray, .int .u8 (t : Int), .int .u64 (n : Int), .int .u64 (m : Int)] w fun e w' => e = .returned (.bool true) ∧ Below w.heap.size w w' := by
  have E1 := Lib.hid (fun w => derive_any X Y t n w hX hY ht hn)
  have E2 := Lib.hid (fun w => refDerive_any X Y t n w hX hY ht hn)
  have D1 := Lib.hid (fun w => number_any X Y n m w hX hY hn)
  have D2 := Lib.hid (fun w => refNumber_any X Y n m w hX hY hn)
  have o1 := drv_ok hX hY ht hn
  obtain ⟨P, hP⟩ : ∃ P, P = (drv X Y t n).1 := ⟨_, rfl⟩
  obtain ⟨Q, hQ⟩ : ∃ Q, Q = (drv X Y t n).2 := ⟨_, rfl⟩
  obtain ⟨v, hv⟩ : ∃ v, v = numb X Y n m := ⟨_, rfl⟩
  unfold Ok at o1
  rw [← hP, ← hQ] at E1 E2 o1
  rw [← hv] at D1 D2
  have Q1 : Hid (∀ w, (Op.equalIn 10000 23 (.agg (kl P Q).toArray) (.agg (kl P Q).toArray)).run Try.prog w = .ok true w) := Lib.hid (fun w => by rw [run_equal_key o1.1 o1.2 o1.1 o1.2 w]; simp [same])
  obtain ⟨N, hN⟩ : ∃ N, N = w.heap.size := ⟨_, rfl⟩
  obtain ⟨W3, hW3⟩ : ∃ W3, W3 = w.alloc (.cells (kl X Y).toArray 23) := ⟨_, rfl⟩
  have HB3 : Hid (Below N w W3) := Lib.hid (by rw [hW3, hN]; exact (Below.refl _ _).alloc (Nat.le_refl _) _)
  have HS3 : Hid (N ≤ W3.heap.size) := Lib.hid (by rw [hW3, hN]; simp)
  have K0 : Hid (KeyAt W3 N X Y) := Lib.hid (by rw [hW3, hN]; exact KeyAt.new w X Y 23)
  have HW := Lib.hid hW3
  have HN := Lib.hid hN
  clear hW3 hN hX hY ht hn o1 hP hQ hv
  go_enter Try.func5, Try.ntmps5
  go_wp2_with fail
  rw [← HW.out, ← HN.out]
  refine wp_region_inv (by kernel_rfl) (by kernel_rfl) (fun l a w' => a = { tmps := #[Value.agg (kl X Y).toArray, .int .u8 (t : Int), .int .u64 (n : Int), .int .u64 (m : Int), .pointer (some ⟨N, 0, none⟩), undef, undef, undef, bif l 20 then Value.bool true else .bool false, bif l 0 then Value.agg (kl X Y).toArray else undef, bif l 1 then .int .u8 (t : Int) else undef, bif l 2 then .int .u64 (n : Int) else undef, bif l 3 then Value.agg (kl P Q).toArray else undef, bif l 4 then Value.agg (kl X Y).toArray else undef, bif l 5 then .int .u8 (t : Int) else undef, bif l 6 then .int .u64 (n : Int) else undef, bif l 7 then Value.agg (kl P Q).toArray else undef, bif l 8 then Value.bool true else undef, bif l 9 then Value.bool true else undef, bif l 10 then Value.agg (kl X Y).toArray else undef, bif l 11 then .int .u64 (n : Int) else undef, bif l 12 then .int .u64 (m : Int) else undef, bif l 13 then Value.int .u64 (v : Int) else undef, bif l 14 then Value.agg (kl X Y).toArray else undef, bif l 15 then .int .u64 (n : Int) else undef, bif l 16 then .int .u64 (m : Int) else undef, bif l 17 then Value.int .u64 (v : Int) else undef, bif l 18 then Value.bool true else undef, bif l 19 then Value.bool true else undef], defers := [] } ∧ Below W3.heap.size W3 w') ⟨rfl, (Below.refl _ _).drew⟩ ?_ ?_
  · rintro l a w' i ⟨rfl, hB⟩ hi hli hpre
    have hi2 : i < 21 := hi
    have hcase : i = 0 ∨ i = 1 ∨ i = 2 ∨ i = 3 ∨ i = 4 ∨ i = 5 ∨ i = 6 ∨ i = 7 ∨ i = 8 ∨ i = 9 ∨ i = 10 ∨ i = 11 ∨ i = 12 ∨ i = 13 ∨ i = 14 ∨ i = 15 ∨ i = 16 ∨ i = 17 ∨ i = 18 ∨ i = 19 ∨ i = 20 := by omega
    clear hi hi2
    rcases hcase with rfl | rfl | rfl | rfl | rfl | rfl | rfl | rfl | rfl | rfl | rfl | rfl | rfl | rfl | rfl | rfl | rfl | rfl | rfl | rfl | rfl
    · -- 0: Op.load 23 (Operand.tmp 4)
      refine wpOp_step rfl (fun K hK => ?_)
      clear hpre
      rw [if_pos (by rfl)]
      refine wp_load_mid 23 _ rfl _ 0 rfl (kl X Y) _ ((K0.out).below hB (K0.out).lt) Try.underlying23 rfl (by rw [kl_len]; exact size23) ?_
      exact hK _ _ ⟨by simp [upd, Act.put], hB⟩
    · -- 1: Op.move (Operand.tmp 1)
      refine wpOp_step rfl (fun K hK => ?_)
      clear hpre
      rw [if_pos (by rfl)]
      go_simp
      exact hK _ _ ⟨by simp [upd, Act.put], hB⟩
    · -- 2: Op.move (Operand.tmp 2)
      refine wpOp_step rfl (fun K hK => ?_)
      clear hpre
      rw [if_pos (by rfl)]
      go_simp
      exact hK _ _ ⟨by simp [upd, Act.put], hB⟩
    · -- 3: Op.call { callee := Callee.value (Operand.func 31), args := 
      have p0 : l 0 = true := hpre _ rfl ⟨0, .data⟩ (by simp) rfl
      have p1 : l 1 = true := hpre _ rfl ⟨1, .data⟩ (by simp) rfl
      have p2 : l 2 = true := hpre _ rfl ⟨2, .data⟩ (by simp) rfl
      refine wpOp_step rfl (fun K hK => ?_)
      simp only [p0, p1, p2, cond_true]
      clear hpre
      rw [if_pos (by rfl)]
      go_simp
      refine (E1.out _).mono ?_
      rintro e w5 ⟨rfl, hb5⟩
      exact hK _ _ ⟨by simp [upd, Act.put, p0, p1, p2], hB.trans (hb5.mono hB.size)⟩
    · -- 4: Op.load 23 (Operand.tmp 4)
      refine wpOp_step rfl (fun K hK => ?_)
      clear hpre
      rw [if_pos (by rfl)]
      refine wp_load_mid 23 _ rfl _ 0 rfl (kl X Y) _ ((K0.out).below hB (K0.out).lt) Try.underlying23 rfl (by rw [kl_len]; exact size23) ?_
      exact hK _ _ ⟨by simp [upd, Act.put], hB⟩
    · -- 5: Op.move (Operand.tmp 1)
      refine wpOp_step rfl (fun K hK => ?_)
      clear hpre
      rw [if_pos (by rfl)]
      go_simp
      exact hK _ _ ⟨by simp [upd, Act.put], hB⟩
    · -- 6: Op.move (Operand.tmp 2)
      refine wpOp_step rfl (fun K hK => ?_)
      clear hpre
      rw [if_pos (by rfl)]
      go_simp
      exact hK _ _ ⟨by simp [upd, Act.put], hB⟩
    · -- 7: Op.call { callee := Callee.value (Operand.func 32), args := 
      have p4 : l 4 = true := hpre _ rfl ⟨4, .data⟩ (by simp) rfl
      have p5 : l 5 = true := hpre _ rfl ⟨5, .data⟩ (by simp) rfl
      have p6 : l 6 = true := hpre _ rfl ⟨6, .data⟩ (by simp) rfl
      have p3 : l 3 = true := hpre _ rfl ⟨3, .chain⟩ (by simp) rfl
      refine wpOp_step rfl (fun K hK => ?_)
      simp only [p4, p5, p6, p3, cond_true]
      clear hpre
      rw [if_pos (by rfl)]
      go_simp
      refine (E2.out _).mono ?_
      rintro e w5 ⟨rfl, hb5⟩
      exact hK _ _ ⟨by simp [upd, Act.put, p4, p5, p6, p3], hB.trans (hb5.mono hB.size)⟩
    · -- 8: Op.binOp BinOp.eql 23 (Operand.tmp 12) (Operand.tmp 16) 23
      have p3 : l 3 = true := hpre _ rfl ⟨3, .data⟩ (by simp) rfl
      have p7 : l 7 = true := hpre _ rfl ⟨7, .data⟩ (by simp) rfl
      refine wpOp_step rfl (fun K hK => ?_)
      simp only [p3, p7, cond_true]
      clear hpre
      rw [if_pos (by rfl)]
      have q1 := Q1.out
      go_simp
      exact hK _ _ ⟨by simp [upd, Act.put, p3, p7], hB⟩
    · -- 9: Op.move (Operand.tmp 17)
      have p8 : l 8 = true := hpre _ rfl ⟨8, .data⟩ (by simp) rfl
      have p7 : l 7 = true := hpre _ rfl ⟨7, .chain⟩ (by simp) rfl
      refine wpOp_step rfl (fun K hK => ?_)
      simp only [p8, p7, cond_true]
      clear hpre
      rw [if_pos (by rfl)]
      go_simp
      exact hK _ _ ⟨by simp [upd, Act.put, p8, p7], hB⟩
    · -- 10: Op.load 23 (Operand.tmp 4)
      have p9 : l 9 = true := hpre _ rfl ⟨9, .guard⟩ (by simp) rfl
      refine wpOp_step rfl (fun K hK => ?_)
      simp only [p9, cond_true]
      clear hpre
      rw [if_pos (by rfl)]
      refine wp_load_mid 23 _ rfl _ 0 rfl (kl X Y) _ ((K0.out).below hB (K0.out).lt) Try.underlying23 rfl (by rw [kl_len]; exact size23) ?_
      exact hK _ _ ⟨by simp [upd, Act.put, p9], hB⟩
    · -- 11: Op.move (Operand.tmp 2)
      have p9 : l 9 = true := hpre _ rfl ⟨9, .guard⟩ (by simp) rfl
      refine wpOp_step rfl (fun K hK => ?_)
      simp only [p9, cond_true]
      clear hpre
      rw [if_pos (by rfl)]
      go_simp
      exact hK _ _ ⟨by simp [upd, Act.put, p9], hB⟩
    · -- 12: Op.move (Operand.tmp 3)
      have p9 : l 9 = true := hpre _ rfl ⟨9, .guard⟩ (by simp) rfl
      refine wpOp_step rfl (fun K hK => ?_)
      simp only [p9, cond_true]
      clear hpre
      rw [if_pos (by rfl)]
      go_simp
      exact hK _ _ ⟨by simp [upd, Act.put, p9], hB⟩
    · -- 13: Op.call { callee := Callee.value (Operand.func 25), args := 
      have p10 : l 10 = true := hpre _ rfl ⟨10, .data⟩ (by simp) rfl
      have p11 : l 11 = true := hpre _ rfl ⟨11, .data⟩ (by simp) rfl
      have p12 : l 12 = true := hpre _ rfl ⟨12, .data⟩ (by simp) rfl
      have p9 : l 9 = true := hpre _ rfl ⟨9, .chain⟩ (by simp) rfl
      refine wpOp_step rfl (fun K hK => ?_)
      simp only [p10, p11, p12, p9, cond_true]
      clear hpre
      rw [if_pos (by rfl)]
      go_simp
      refine (D1.out _).mono ?_
      rintro e w5 ⟨rfl, hb5⟩
      exact hK _ _ ⟨by simp [upd, Act.put, p10, p11, p12, p9], hB.trans (hb5.mono hB.size)⟩
    · -- 14: Op.load 23 (Operand.tmp 4)
      have p9 : l 9 = true := hpre _ rfl ⟨9, .guard⟩ (by simp) rfl
      refine wpOp_step rfl (fun K hK => ?_)
      simp only [p9, cond_true]
      clear hpre
      rw [if_pos (by rfl)]
      refine wp_load_mid 23 _ rfl _ 0 rfl (kl X Y) _ ((K0.out).below hB (K0.out).lt) Try.underlying23 rfl (by rw [kl_len]; exact size23) ?_
      exact hK _ _ ⟨by simp [upd, Act.put, p9], hB⟩
    · -- 15: Op.move (Operand.tmp 2)
      have p9 : l 9 = true := hpre _ rfl ⟨9, .guard⟩ (by simp) rfl
      refine wpOp_step rfl (fun K hK => ?_)
      simp only [p9, cond_true]
      clear hpre
      rw [if_pos (by rfl)]
      go_simp
      exact hK _ _ ⟨by simp [upd, Act.put, p9], hB⟩
    · -- 16: Op.move (Operand.tmp 3)
      have p9 : l 9 = true := hpre _ rfl ⟨9, .guard⟩ (by simp) rfl
      refine wpOp_step rfl (fun K hK => ?_)
      simp only [p9, cond_true]
      clear hpre
      rw [if_pos (by rfl)]
      go_simp
      exact hK _ _ ⟨by simp [upd, Act.put, p9], hB⟩
    · -- 17: Op.call { callee := Callee.value (Operand.func 33), args := 
      have p14 : l 14 = true := hpre _ rfl ⟨14, .data⟩ (by simp) rfl
      have p15 : l 15 = true := hpre _ rfl ⟨15, .data⟩ (by simp) rfl
      have p16 : l 16 = true := hpre _ rfl ⟨16, .data⟩ (by simp) rfl
      have p13 : l 13 = true := hpre _ rfl ⟨13, .chain⟩ (by simp) rfl
      have p9 : l 9 = true := hpre _ rfl ⟨9, .guard⟩ (by simp) rfl
      refine wpOp_step rfl (fun K hK => ?_)
      simp only [p14, p15, p16, p13, p9, cond_true]
      clear hpre
      rw [if_pos (by rfl)]
      go_simp
      refine (D2.out _).mono ?_
      rintro e w5 ⟨rfl, hb5⟩
      exact hK _ _ ⟨by simp [upd, Act.put, p14, p15, p16, p13, p9], hB.trans (hb5.mono hB.size)⟩
    · -- 18: Op.binOp BinOp.eql 30 (Operand.tmp 22) (Operand.tmp 26) 30
      have p13 : l 13 = true := hpre _ rfl ⟨13, .data⟩ (by simp) rfl
      have p17 : l 17 = true := hpre _ rfl ⟨17, .data⟩ (by simp) rfl
      have p9 : l 9 = true := hpre _ rfl ⟨9, .guard⟩ (by simp) rfl
      refine wpOp_step rfl (fun K hK => ?_)
      simp only [p13, p17, p9, cond_true]
      clear hpre
      rw [if_pos (by rfl)]
      go_simp
      exact hK _ _ ⟨by simp [upd, Act.put, p13, p17, p9], hB⟩
    · -- 19: Op.pick (Operand.tmp 18) (Operand.tmp 27) (Operand.const (Va
      have p9 : l 9 = true := hpre _ rfl ⟨9, .data⟩ (by simp) rfl
      have p18 : l 18 = true := hpre _ rfl ⟨18, .data⟩ (by simp) rfl
      refine wpOp_step rfl (fun K hK => ?_)
      simp only [p9, p18, cond_true]
      clear hpre
      rw [if_pos (by rfl)]
      go_simp
      exact hK _ _ ⟨by simp [upd, Act.put, p9, p18], hB⟩
    · -- 20: Op.assign (Operand.tmp 28)
      have p19 : l 19 = true := hpre _ rfl ⟨19, .data⟩ (by simp) rfl
      have p17 : l 17 = true := hpre _ rfl ⟨17, .chain⟩ (by simp) rfl
      have p0 : l 0 = true := hpre _ rfl ⟨0, .phase⟩ (by simp) rfl
      have p1 : l 1 = true := hpre _ rfl ⟨1, .phase⟩ (by simp) rfl
      have p2 : l 2 = true := hpre _ rfl ⟨2, .phase⟩ (by simp) rfl
      have p3 : l 3 = true := hpre _ rfl ⟨3, .phase⟩ (by simp) rfl
      have p4 : l 4 = true := hpre _ rfl ⟨4, .phase⟩ (by simp) rfl
      have p5 : l 5 = true := hpre _ rfl ⟨5, .phase⟩ (by simp) rfl
      have p6 : l 6 = true := hpre _ rfl ⟨6, .phase⟩ (by simp) rfl
      have p7 : l 7 = true := hpre _ rfl ⟨7, .phase⟩ (by simp) rfl
      have p8 : l 8 = true := hpre _ rfl ⟨8, .phase⟩ (by simp) rfl
      have p9 : l 9 = true := hpre _ rfl ⟨9, .phase⟩ (by simp) rfl
      have p10 : l 10 = true := hpre _ rfl ⟨10, .phase⟩ (by simp) rfl
      have p11 : l 11 = true := hpre _ rfl ⟨11, .phase⟩ (by simp) rfl
      have p12 : l 12 = true := hpre _ rfl ⟨12, .phase⟩ (by simp) rfl
      have p13 : l 13 = true := hpre _ rfl ⟨13, .phase⟩ (by simp) rfl
      have p14 : l 14 = true := hpre _ rfl ⟨14, .phase⟩ (by simp) rfl
      have p15 : l 15 = true := hpre _ rfl ⟨15, .phase⟩ (by simp) rfl
      have p16 : l 16 = true := hpre _ rfl ⟨16, .phase⟩ (by simp) rfl
      have p18 : l 18 = true := hpre _ rfl ⟨18, .phase⟩ (by simp) rfl
      refine wpOp_step rfl (fun K hK => ?_)
      simp only [p19, p17, p0, p1, p2, p3, p4, p5, p6, p7, p8, p9, p10, p11, p12, p13, p14, p15, p16, p18, cond_true]
      clear hpre
      rw [if_pos (by rfl)]
      go_simp
      exact hK _ _ ⟨by simp [upd, Act.put, p19, p17, p0, p1, p2, p3, p4, p5, p6, p7, p8, p9, p10, p11, p12, p13, p14, p15, p16, p18], hB⟩
  · rintro l a W3' hall ⟨rfl, hBz⟩
    simp only [hall 0 (by decide), hall 1 (by decide), hall 2 (by decide), hall 3 (by decide), hall 4 (by decide), hall 5 (by decide), hall 6 (by decide), hall 7 (by decide), hall 8 (by decide), hall 9 (by decide), hall 10 (by decide), hall 11 (by decide), hall 12 (by decide), hall 13 (by decide), hall 14 (by decide), hall 15 (by decide), hall 16 (by decide), hall 17 (by decide), hall 18 (by decide), hall 19 (by decide), hall 20 (by decide), cond_true]
    clear hall
    go_wp2_with fail
    go_ret
    exact ⟨rfl, by rw [← HN.out]; exact HB3.out.trans (hBz.mono HS3.out)⟩

theorem walk (X Y : Nat) (hX : X < M) (hY : Y < M) (a1 : Int) (w1 : (Lit.int .u8 a1).wf = true) (a2 : Int) (w2 : (Lit.int .u64 a2).wf = true) (a3 : Int) (w3 : (Lit.int .u64 a3).wf = true) (w : World) :
    Calls Try.prog 5 #[.agg (kl X Y).toArray, .int .u8 a1, .int .u64 a2, .int .u64 a3] w fun e w' => e = .returned (.bool true) ∧ Below w.heap.size w w' := by
  have b1 := bounds_u8 w1
  have b2 := bounds_u64 w2
  have b3 := bounds_u64 w3
  obtain ⟨t, rfl⟩ : ∃ t : Nat, a1 = (t : Int) := ⟨a1.toNat, by omega⟩
  obtain ⟨n, rfl⟩ : ∃ n : Nat, a2 = (n : Int) := ⟨a2.toNat, by omega⟩
  obtain ⟨m, rfl⟩ : ∃ m : Nat, a3 = (m : Int) := ⟨a3.toNat, by omega⟩
  exact walkN X Y hX hY t (by omega) n (by unfold M; omega) m w
end Go.Proofs.Ytphhppdokdageaa.cipherDerives
