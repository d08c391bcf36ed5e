/- The walk over CipherApart. -/
import Derived.Test.YtphhppdokdageaaAlv
import Derived.Test.YtphhppdokdageaaLawB
namespace Go.Proofs.Ytphhppdokdageaa.cipherApart
open Go.RowKit SP
set_option linter.unusedVariables false
set_option linter.unusedSimpArgs false

theorem apart (X Y t n o m : Nat) (hX : X < M) (hY : Y < M) (ht : t < 256) (hn : n < M) (ho : o < 256) (hm : m < M) : same (drv X Y t n).1 (drv X Y t n).2 (drv X Y o m).1 (drv X Y o m).2 = decide (t = o ∧ n = m) := by
  unfold same
  congr 1
  apply propext
  constructor
  · rintro ⟨h1, h2⟩
    have h3 : enc X Y (t * 72057594037927936) n = enc X Y (o * 72057594037927936) m := Prod.ext h1 h2
    have h4 := enc_inj hX hY (by unfold M; omega) hn (by unfold M; omega) hm h3
    exact ⟨by omega, h4.2⟩
  · rintro ⟨rfl, rfl⟩; exact ⟨rfl, rfl⟩

set_option maxRecDepth 100000 in
set_option maxHeartbeats 4000000 in
theorem walkN (X Y t n o m : Nat) (hX : X < M) (hY : Y < M) (ht' : t < 256) (hn' : n < M) (ho' : o < 256) (hm' : m < M) (w : World) :
    Calls Try.prog 11 #[.agg (kl X Y).toArray, .int .u8 (t : Int), .int .u64 (n : Int), .int .u8 (o : Int), .int .u64 (m : Int)] w fun e w' => e = .returned (.bool true) ∧ Below w.heap.size w w' := by
  have HAl := Lib.hid (fun w => alive_any w)
  have H1 := Lib.hid (fun w => derive_any X Y t n w hX hY ht' hn')
  have H2 := Lib.hid (fun w => derive_any X Y o m w hX hY ho' hm')
  have hPQ := drv_ok hX hY ht' hn'
  have hRS := drv_ok hX hY ho' hm'
  have hsame := apart X Y t n o m hX hY ht' hn' ho' hm'
  obtain ⟨P, hP⟩ : ∃ P, P = (drv X Y t n).1 := ⟨_, rfl⟩
  obtain ⟨Q, hQ⟩ : ∃ Q, Q = (drv X Y t n).2 := ⟨_, rfl⟩
  obtain ⟨R, hR⟩ : ∃ R, R = (drv X Y o m).1 := ⟨_, rfl⟩
  obtain ⟨S, hS⟩ : ∃ S, S = (drv X Y o m).2 := ⟨_, rfl⟩
  unfold Ok at hPQ hRS
  rw [← hP, ← hQ] at H1 hPQ hsame
  rw [← hR, ← hS] at H2 hRS hsame
  obtain ⟨W1, hW1⟩ : ∃ W1, W1 = w.alloc (.cells (kl X Y).toArray 23) := ⟨_, rfl⟩
  have HB : Hid (Below w.heap.size w W1) := Lib.hid (by rw [hW1]; exact (Below.refl _ _).alloc (Nat.le_refl _) _)
  have HK : Hid (KeyAt W1 w.heap.size X Y) := Lib.hid (by rw [hW1]; exact KeyAt.new w X Y 23)
  have HW := Lib.hid hW1
  clear hW1 hP hQ hR hS hX hY
  by_cases ht : t = o
  · by_cases hn : n = m
    · have HQ : Hid (∀ w, (Op.equalIn 10000 23 (.agg (kl P Q).toArray) (.agg (kl R S).toArray)).run Try.prog w = .ok true w) := Lib.hid (fun w => by rw [run_equal_key hPQ.1 hPQ.2 hRS.1 hRS.2 w, hsame]; simp [ht, hn])
      have HT : Hid (((t : Int) == (o : Int)) = true) := Lib.hid (by simp; omega)
      have HN : Hid (((n : Int) == (m : Int)) = true) := Lib.hid (by simp; omega)
      clear hsame hPQ hRS ht hn
      go_enter Try.func11, Try.ntmps11
      go_wp2_with fail
      rw [← HW.out]
      refine wp_region_inv (by kernel_rfl) (by kernel_rfl) (fun l a w' => a = { tmps := #[Value.agg (kl X Y).toArray, .int .u8 (t : Int), .int .u64 (n : Int), .int .u8 (o : Int), .int .u64 (m : Int), .pointer (some ⟨w.heap.size, 0, none⟩), undef, undef, undef, undef, bif l 21 then Value.bool true else .bool false, bif l 0 then Value.bool true else undef, bif l 1 then Value.bool true else undef, bif l 2 then Value.agg (kl X Y).toArray else undef, bif l 3 then .int .u8 (t : Int) else undef, bif l 4 then .int .u64 (n : Int) else undef, bif l 5 then Value.agg (kl P Q).toArray else undef, bif l 6 then Value.agg (kl X Y).toArray else undef, bif l 7 then .int .u8 (o : Int) else undef, bif l 8 then .int .u64 (m : Int) else undef, bif l 9 then Value.agg (kl R S).toArray else undef, bif l 10 then Value.bool true else undef, bif l 11 then .int .u8 (t : Int) else undef, bif l 12 then .int .u8 (o : Int) else undef, bif l 13 then Value.bool true else undef, bif l 14 then Value.bool true else undef, bif l 15 then .int .u64 (n : Int) else undef, bif l 16 then .int .u64 (m : Int) else undef, bif l 17 then Value.bool true else undef, bif l 18 then Value.bool true else undef, bif l 19 then Value.bool true else undef, bif l 20 then Value.bool true else undef], defers := [] } ∧ Below W1.heap.size W1 w') ⟨rfl, (Below.refl _ _).drew⟩ ?_ ?_
      · rintro l a w' i ⟨rfl, hB⟩ hi hli hpre
        have hi2 : i < 22 := hi
        have hcase : i = 0 ∨ i = 1 ∨ i = 2 ∨ i = 3 ∨ i = 4 ∨ i = 5 ∨ i = 6 ∨ i = 7 ∨ i = 8 ∨ i = 9 ∨ i = 10 ∨ i = 11 ∨ i = 12 ∨ i = 13 ∨ i = 14 ∨ i = 15 ∨ i = 16 ∨ i = 17 ∨ i = 18 ∨ i = 19 ∨ i = 20 ∨ i = 21 := by omega
        clear hi hi2
        rcases hcase with rfl | rfl | rfl | rfl | rfl | rfl | rfl | rfl | rfl | rfl | rfl | rfl | rfl | rfl | rfl | rfl | rfl | rfl | rfl | rfl | rfl | rfl
        · -- 0: Op.call { callee := Callee.value (Operand.func 23), args := 
          refine wpOp_step rfl (fun K hK => ?_)
          clear hpre
          rw [if_pos (by rfl)]
          go_simp
          refine (HAl.out _).mono ?_
          rintro e w5 ⟨rfl, hb5⟩
          exact hK _ _ ⟨by simp [upd, Act.put], hB.trans (hb5.mono hB.size)⟩
        · -- 1: Op.move (Operand.tmp 11)
          have p0 : l 0 = true := hpre _ rfl ⟨0, .data⟩ (by simp) rfl
          refine wpOp_step rfl (fun K hK => ?_)
          simp only [p0, cond_true]
          clear hpre
          rw [if_pos (by rfl)]
          go_simp
          exact hK _ _ ⟨by simp [upd, Act.put, p0], hB⟩
        · -- 2: Op.load 23 (Operand.tmp 5)
          have p1 : l 1 = true := hpre _ rfl ⟨1, .guard⟩ (by simp) rfl
          refine wpOp_step rfl (fun K hK => ?_)
          simp only [p1, cond_true]
          clear hpre
          rw [if_pos (by rfl)]
          refine wp_load_mid 23 _ rfl _ 0 rfl (kl X Y) _ ((HK.out).below hB (HK.out).lt) Try.underlying23 rfl (by rw [kl_len]; exact size23) ?_
          exact hK _ _ ⟨by simp [upd, Act.put, p1], hB⟩
        · -- 3: Op.move (Operand.tmp 1)
          have p1 : l 1 = true := hpre _ rfl ⟨1, .guard⟩ (by simp) rfl
          refine wpOp_step rfl (fun K hK => ?_)
          simp only [p1, cond_true]
          clear hpre
          rw [if_pos (by rfl)]
          go_simp
          exact hK _ _ ⟨by simp [upd, Act.put, p1], hB⟩
        · -- 4: Op.move (Operand.tmp 2)
          have p1 : l 1 = true := hpre _ rfl ⟨1, .guard⟩ (by simp) rfl
          refine wpOp_step rfl (fun K hK => ?_)
          simp only [p1, cond_true]
          clear hpre
          rw [if_pos (by rfl)]
          go_simp
          exact hK _ _ ⟨by simp [upd, Act.put, p1], hB⟩
        · -- 5: Op.call { callee := Callee.value (Operand.func 31), args := 
          have p2 : l 2 = true := hpre _ rfl ⟨2, .data⟩ (by simp) rfl
          have p3 : l 3 = true := hpre _ rfl ⟨3, .data⟩ (by simp) rfl
          have p4 : l 4 = true := hpre _ rfl ⟨4, .data⟩ (by simp) rfl
          have p1 : l 1 = true := hpre _ rfl ⟨1, .chain⟩ (by simp) rfl
          refine wpOp_step rfl (fun K hK => ?_)
          simp only [p2, p3, p4, p1, cond_true]
          clear hpre
          rw [if_pos (by rfl)]
          go_simp
          refine (H1.out _).mono ?_
          rintro e w5 ⟨rfl, hb5⟩
          exact hK _ _ ⟨by simp [upd, Act.put, p2, p3, p4, p1], hB.trans (hb5.mono hB.size)⟩
        · -- 6: Op.load 23 (Operand.tmp 5)
          have p1 : l 1 = true := hpre _ rfl ⟨1, .guard⟩ (by simp) rfl
          refine wpOp_step rfl (fun K hK => ?_)
          simp only [p1, cond_true]
          clear hpre
          rw [if_pos (by rfl)]
          refine wp_load_mid 23 _ rfl _ 0 rfl (kl X Y) _ ((HK.out).below hB (HK.out).lt) Try.underlying23 rfl (by rw [kl_len]; exact size23) ?_
          exact hK _ _ ⟨by simp [upd, Act.put, p1], hB⟩
        · -- 7: Op.move (Operand.tmp 3)
          have p1 : l 1 = true := hpre _ rfl ⟨1, .guard⟩ (by simp) rfl
          refine wpOp_step rfl (fun K hK => ?_)
          simp only [p1, cond_true]
          clear hpre
          rw [if_pos (by rfl)]
          go_simp
          exact hK _ _ ⟨by simp [upd, Act.put, p1], hB⟩
        · -- 8: Op.move (Operand.tmp 4)
          have p1 : l 1 = true := hpre _ rfl ⟨1, .guard⟩ (by simp) rfl
          refine wpOp_step rfl (fun K hK => ?_)
          simp only [p1, cond_true]
          clear hpre
          rw [if_pos (by rfl)]
          go_simp
          exact hK _ _ ⟨by simp [upd, Act.put, p1], hB⟩
        · -- 9: Op.call { callee := Callee.value (Operand.func 31), args := 
          have p6 : l 6 = true := hpre _ rfl ⟨6, .data⟩ (by simp) rfl
          have p7 : l 7 = true := hpre _ rfl ⟨7, .data⟩ (by simp) rfl
          have p8 : l 8 = true := hpre _ rfl ⟨8, .data⟩ (by simp) rfl
          have p5 : l 5 = true := hpre _ rfl ⟨5, .chain⟩ (by simp) rfl
          have p1 : l 1 = true := hpre _ rfl ⟨1, .guard⟩ (by simp) rfl
          refine wpOp_step rfl (fun K hK => ?_)
          simp only [p6, p7, p8, p5, p1, cond_true]
          clear hpre
          rw [if_pos (by rfl)]
          go_simp
          refine (H2.out _).mono ?_
          rintro e w5 ⟨rfl, hb5⟩
          exact hK _ _ ⟨by simp [upd, Act.put, p6, p7, p8, p5, p1], hB.trans (hb5.mono hB.size)⟩
        · -- 10: Op.binOp BinOp.eql 23 (Operand.tmp 16) (Operand.tmp 20) 23
          have p5 : l 5 = true := hpre _ rfl ⟨5, .data⟩ (by simp) rfl
          have p9 : l 9 = true := hpre _ rfl ⟨9, .data⟩ (by simp) rfl
          have p1 : l 1 = true := hpre _ rfl ⟨1, .guard⟩ (by simp) rfl
          refine wpOp_step rfl (fun K hK => ?_)
          simp only [p5, p9, p1, cond_true]
          clear hpre
          rw [if_pos (by rfl)]
          have q1 := HQ.out
          go_simp
          exact hK _ _ ⟨by simp [upd, Act.put, p5, p9, p1], hB⟩
        · -- 11: Op.move (Operand.tmp 1)
          have p1 : l 1 = true := hpre _ rfl ⟨1, .guard⟩ (by simp) rfl
          refine wpOp_step rfl (fun K hK => ?_)
          simp only [p1, cond_true]
          clear hpre
          rw [if_pos (by rfl)]
          go_simp
          exact hK _ _ ⟨by simp [upd, Act.put, p1], hB⟩
        · -- 12: Op.move (Operand.tmp 3)
          have p1 : l 1 = true := hpre _ rfl ⟨1, .guard⟩ (by simp) rfl
          refine wpOp_step rfl (fun K hK => ?_)
          simp only [p1, cond_true]
          clear hpre
          rw [if_pos (by rfl)]
          go_simp
          exact hK _ _ ⟨by simp [upd, Act.put, p1], hB⟩
        · -- 13: Op.binOp BinOp.eql 5 (Operand.tmp 22) (Operand.tmp 23) 5
          have p11 : l 11 = true := hpre _ rfl ⟨11, .data⟩ (by simp) rfl
          have p12 : l 12 = true := hpre _ rfl ⟨12, .data⟩ (by simp) rfl
          have p1 : l 1 = true := hpre _ rfl ⟨1, .guard⟩ (by simp) rfl
          refine wpOp_step rfl (fun K hK => ?_)
          simp only [p11, p12, p1, cond_true]
          clear hpre
          rw [if_pos (by rfl)]
          have z1 := HT.out
          go_simp
          exact hK _ _ ⟨by simp [upd, Act.put, p11, p12, p1], hB⟩
        · -- 14: Op.move (Operand.tmp 24)
          have p13 : l 13 = true := hpre _ rfl ⟨13, .data⟩ (by simp) rfl
          have p9 : l 9 = true := hpre _ rfl ⟨9, .chain⟩ (by simp) rfl
          have p1 : l 1 = true := hpre _ rfl ⟨1, .guard⟩ (by simp) rfl
          refine wpOp_step rfl (fun K hK => ?_)
          simp only [p13, p9, p1, cond_true]
          clear hpre
          rw [if_pos (by rfl)]
          go_simp
          exact hK _ _ ⟨by simp [upd, Act.put, p13, p9, p1], hB⟩
        · -- 15: Op.move (Operand.tmp 2)
          have p14 : l 14 = true := hpre _ rfl ⟨14, .guard⟩ (by simp) rfl
          refine wpOp_step rfl (fun K hK => ?_)
          simp only [p14, cond_true]
          clear hpre
          rw [if_pos (by rfl)]
          go_simp
          exact hK _ _ ⟨by simp [upd, Act.put, p14], hB⟩
        · -- 16: Op.move (Operand.tmp 4)
          have p14 : l 14 = true := hpre _ rfl ⟨14, .guard⟩ (by simp) rfl
          refine wpOp_step rfl (fun K hK => ?_)
          simp only [p14, cond_true]
          clear hpre
          rw [if_pos (by rfl)]
          go_simp
          exact hK _ _ ⟨by simp [upd, Act.put, p14], hB⟩
        · -- 17: Op.binOp BinOp.eql 30 (Operand.tmp 26) (Operand.tmp 27) 30
          have p15 : l 15 = true := hpre _ rfl ⟨15, .data⟩ (by simp) rfl
          have p16 : l 16 = true := hpre _ rfl ⟨16, .data⟩ (by simp) rfl
          have p14 : l 14 = true := hpre _ rfl ⟨14, .guard⟩ (by simp) rfl
          refine wpOp_step rfl (fun K hK => ?_)
          simp only [p15, p16, p14, cond_true]
          clear hpre
          rw [if_pos (by rfl)]
          have z2 := HN.out
          go_simp
          exact hK _ _ ⟨by simp [upd, Act.put, p15, p16, p14], hB⟩
        · -- 18: Op.pick (Operand.tmp 25) (Operand.tmp 28) (Operand.const (Va
          have p14 : l 14 = true := hpre _ rfl ⟨14, .data⟩ (by simp) rfl
          have p17 : l 17 = true := hpre _ rfl ⟨17, .data⟩ (by simp) rfl
          have p1 : l 1 = true := hpre _ rfl ⟨1, .guard⟩ (by simp) rfl
          refine wpOp_step rfl (fun K hK => ?_)
          simp only [p14, p17, p1, cond_true]
          clear hpre
          rw [if_pos (by rfl)]
          go_simp
          exact hK _ _ ⟨by simp [upd, Act.put, p14, p17, p1], hB⟩
        · -- 19: Op.binOp BinOp.eql 4 (Operand.tmp 21) (Operand.tmp 29) 4
          have p10 : l 10 = true := hpre _ rfl ⟨10, .data⟩ (by simp) rfl
          have p18 : l 18 = true := hpre _ rfl ⟨18, .data⟩ (by simp) rfl
          have p1 : l 1 = true := hpre _ rfl ⟨1, .guard⟩ (by simp) rfl
          refine wpOp_step rfl (fun K hK => ?_)
          simp only [p10, p18, p1, cond_true]
          clear hpre
          rw [if_pos (by rfl)]
          go_simp
          exact hK _ _ ⟨by simp [upd, Act.put, p10, p18, p1], hB⟩
        · -- 20: Op.pick (Operand.tmp 12) (Operand.tmp 30) (Operand.const (Va
          have p1 : l 1 = true := hpre _ rfl ⟨1, .data⟩ (by simp) rfl
          have p19 : l 19 = true := hpre _ rfl ⟨19, .data⟩ (by simp) rfl
          refine wpOp_step rfl (fun K hK => ?_)
          simp only [p1, p19, cond_true]
          clear hpre
          rw [if_pos (by rfl)]
          go_simp
          exact hK _ _ ⟨by simp [upd, Act.put, p1, p19], hB⟩
        · -- 21: Op.assign (Operand.tmp 31)
          have p20 : l 20 = true := hpre _ rfl ⟨20, .data⟩ (by simp) rfl
          have p14 : l 14 = true := hpre _ rfl ⟨14, .chain⟩ (by simp) rfl
          have p0 : l 0 = true := hpre _ rfl ⟨0, .phase⟩ (by simp) rfl
          have p1 : l 1 = true := hpre _ rfl ⟨1, .phase⟩ (by simp) rfl
          have p2 : l 2 = true := hpre _ rfl ⟨2, .phase⟩ (by simp) rfl
          have p3 : l 3 = true := hpre _ rfl ⟨3, .phase⟩ (by simp) rfl
          have p4 : l 4 = true := hpre _ rfl ⟨4, .phase⟩ (by simp) rfl
          have p5 : l 5 = true := hpre _ rfl ⟨5, .phase⟩ (by simp) rfl
          have p6 : l 6 = true := hpre _ rfl ⟨6, .phase⟩ (by simp) rfl
          have p7 : l 7 = true := hpre _ rfl ⟨7, .phase⟩ (by simp) rfl
          have p8 : l 8 = true := hpre _ rfl ⟨8, .phase⟩ (by simp) rfl
          have p9 : l 9 = true := hpre _ rfl ⟨9, .phase⟩ (by simp) rfl
          have p10 : l 10 = true := hpre _ rfl ⟨10, .phase⟩ (by simp) rfl
          have p11 : l 11 = true := hpre _ rfl ⟨11, .phase⟩ (by simp) rfl
          have p12 : l 12 = true := hpre _ rfl ⟨12, .phase⟩ (by simp) rfl
          have p13 : l 13 = true := hpre _ rfl ⟨13, .phase⟩ (by simp) rfl
          have p15 : l 15 = true := hpre _ rfl ⟨15, .phase⟩ (by simp) rfl
          have p16 : l 16 = true := hpre _ rfl ⟨16, .phase⟩ (by simp) rfl
          have p17 : l 17 = true := hpre _ rfl ⟨17, .phase⟩ (by simp) rfl
          have p18 : l 18 = true := hpre _ rfl ⟨18, .phase⟩ (by simp) rfl
          have p19 : l 19 = true := hpre _ rfl ⟨19, .phase⟩ (by simp) rfl
          refine wpOp_step rfl (fun K hK => ?_)
          simp only [p20, p14, p0, p1, p2, p3, p4, p5, p6, p7, p8, p9, p10, p11, p12, p13, p15, p16, p17, p18, p19, cond_true]
          clear hpre
          rw [if_pos (by rfl)]
          go_simp
          exact hK _ _ ⟨by simp [upd, Act.put, p20, p14, p0, p1, p2, p3, p4, p5, p6, p7, p8, p9, p10, p11, p12, p13, p15, p16, p17, p18, p19], hB⟩
      · rintro l a W1' hall ⟨rfl, hBz⟩
        simp only [hall 0 (by decide), hall 1 (by decide), hall 2 (by decide), hall 3 (by decide), hall 4 (by decide), hall 5 (by decide), hall 6 (by decide), hall 7 (by decide), hall 8 (by decide), hall 9 (by decide), hall 10 (by decide), hall 11 (by decide), hall 12 (by decide), hall 13 (by decide), hall 14 (by decide), hall 15 (by decide), hall 16 (by decide), hall 17 (by decide), hall 18 (by decide), hall 19 (by decide), hall 20 (by decide), hall 21 (by decide), cond_true]
        clear hall
        go_wp2_with fail
        go_ret
        exact ⟨rfl, HB.out.trans (hBz.mono HB.out.size)⟩
    · have HQ : Hid (∀ w, (Op.equalIn 10000 23 (.agg (kl P Q).toArray) (.agg (kl R S).toArray)).run Try.prog w = .ok false w) := Lib.hid (fun w => by rw [run_equal_key hPQ.1 hPQ.2 hRS.1 hRS.2 w, hsame]; simp [ht, hn])
      have HT : Hid (((t : Int) == (o : Int)) = true) := Lib.hid (by simp; omega)
      have HN : Hid (((n : Int) == (m : Int)) = false) := Lib.hid (by simp; omega)
      clear hsame hPQ hRS ht hn
      go_enter Try.func11, Try.ntmps11
      go_wp2_with fail
      rw [← HW.out]
      refine wp_region_inv (by kernel_rfl) (by kernel_rfl) (fun l a w' => a = { tmps := #[Value.agg (kl X Y).toArray, .int .u8 (t : Int), .int .u64 (n : Int), .int .u8 (o : Int), .int .u64 (m : Int), .pointer (some ⟨w.heap.size, 0, none⟩), undef, undef, undef, undef, bif l 21 then Value.bool true else .bool false, bif l 0 then Value.bool true else undef, bif l 1 then Value.bool true else undef, bif l 2 then Value.agg (kl X Y).toArray else undef, bif l 3 then .int .u8 (t : Int) else undef, bif l 4 then .int .u64 (n : Int) else undef, bif l 5 then Value.agg (kl P Q).toArray else undef, bif l 6 then Value.agg (kl X Y).toArray else undef, bif l 7 then .int .u8 (o : Int) else undef, bif l 8 then .int .u64 (m : Int) else undef, bif l 9 then Value.agg (kl R S).toArray else undef, bif l 10 then Value.bool false else undef, bif l 11 then .int .u8 (t : Int) else undef, bif l 12 then .int .u8 (o : Int) else undef, bif l 13 then Value.bool true else undef, bif l 14 then Value.bool true else undef, bif l 15 then .int .u64 (n : Int) else undef, bif l 16 then .int .u64 (m : Int) else undef, bif l 17 then Value.bool false else undef, bif l 18 then Value.bool false else undef, bif l 19 then Value.bool true else undef, bif l 20 then Value.bool true else undef], defers := [] } ∧ Below W1.heap.size W1 w') ⟨rfl, (Below.refl _ _).drew⟩ ?_ ?_
      · rintro l a w' i ⟨rfl, hB⟩ hi hli hpre
        have hi2 : i < 22 := hi
        have hcase : i = 0 ∨ i = 1 ∨ i = 2 ∨ i = 3 ∨ i = 4 ∨ i = 5 ∨ i = 6 ∨ i = 7 ∨ i = 8 ∨ i = 9 ∨ i = 10 ∨ i = 11 ∨ i = 12 ∨ i = 13 ∨ i = 14 ∨ i = 15 ∨ i = 16 ∨ i = 17 ∨ i = 18 ∨ i = 19 ∨ i = 20 ∨ i = 21 := by omega
        clear hi hi2
        rcases hcase with rfl | rfl | rfl | rfl | rfl | rfl | rfl | rfl | rfl | rfl | rfl | rfl | rfl | rfl | rfl | rfl | rfl | rfl | rfl | rfl | rfl | rfl
        · -- 0: Op.call { callee := Callee.value (Operand.func 23), args := 
          refine wpOp_step rfl (fun K hK => ?_)
          clear hpre
          rw [if_pos (by rfl)]
          go_simp
          refine (HAl.out _).mono ?_
          rintro e w5 ⟨rfl, hb5⟩
          exact hK _ _ ⟨by simp [upd, Act.put], hB.trans (hb5.mono hB.size)⟩
        · -- 1: Op.move (Operand.tmp 11)
          have p0 : l 0 = true := hpre _ rfl ⟨0, .data⟩ (by simp) rfl
          refine wpOp_step rfl (fun K hK => ?_)
          simp only [p0, cond_true]
          clear hpre
          rw [if_pos (by rfl)]
          go_simp
          exact hK _ _ ⟨by simp [upd, Act.put, p0], hB⟩
        · -- 2: Op.load 23 (Operand.tmp 5)
          have p1 : l 1 = true := hpre _ rfl ⟨1, .guard⟩ (by simp) rfl
          refine wpOp_step rfl (fun K hK => ?_)
          simp only [p1, cond_true]
          clear hpre
          rw [if_pos (by rfl)]
          refine wp_load_mid 23 _ rfl _ 0 rfl (kl X Y) _ ((HK.out).below hB (HK.out).lt) Try.underlying23 rfl (by rw [kl_len]; exact size23) ?_
          exact hK _ _ ⟨by simp [upd, Act.put, p1], hB⟩
        · -- 3: Op.move (Operand.tmp 1)
          have p1 : l 1 = true := hpre _ rfl ⟨1, .guard⟩ (by simp) rfl
          refine wpOp_step rfl (fun K hK => ?_)
          simp only [p1, cond_true]
          clear hpre
          rw [if_pos (by rfl)]
          go_simp
          exact hK _ _ ⟨by simp [upd, Act.put, p1], hB⟩
        · -- 4: Op.move (Operand.tmp 2)
          have p1 : l 1 = true := hpre _ rfl ⟨1, .guard⟩ (by simp) rfl
          refine wpOp_step rfl (fun K hK => ?_)
          simp only [p1, cond_true]
          clear hpre
          rw [if_pos (by rfl)]
          go_simp
          exact hK _ _ ⟨by simp [upd, Act.put, p1], hB⟩
        · -- 5: Op.call { callee := Callee.value (Operand.func 31), args := 
          have p2 : l 2 = true := hpre _ rfl ⟨2, .data⟩ (by simp) rfl
          have p3 : l 3 = true := hpre _ rfl ⟨3, .data⟩ (by simp) rfl
          have p4 : l 4 = true := hpre _ rfl ⟨4, .data⟩ (by simp) rfl
          have p1 : l 1 = true := hpre _ rfl ⟨1, .chain⟩ (by simp) rfl
          refine wpOp_step rfl (fun K hK => ?_)
          simp only [p2, p3, p4, p1, cond_true]
          clear hpre
          rw [if_pos (by rfl)]
          go_simp
          refine (H1.out _).mono ?_
          rintro e w5 ⟨rfl, hb5⟩
          exact hK _ _ ⟨by simp [upd, Act.put, p2, p3, p4, p1], hB.trans (hb5.mono hB.size)⟩
        · -- 6: Op.load 23 (Operand.tmp 5)
          have p1 : l 1 = true := hpre _ rfl ⟨1, .guard⟩ (by simp) rfl
          refine wpOp_step rfl (fun K hK => ?_)
          simp only [p1, cond_true]
          clear hpre
          rw [if_pos (by rfl)]
          refine wp_load_mid 23 _ rfl _ 0 rfl (kl X Y) _ ((HK.out).below hB (HK.out).lt) Try.underlying23 rfl (by rw [kl_len]; exact size23) ?_
          exact hK _ _ ⟨by simp [upd, Act.put, p1], hB⟩
        · -- 7: Op.move (Operand.tmp 3)
          have p1 : l 1 = true := hpre _ rfl ⟨1, .guard⟩ (by simp) rfl
          refine wpOp_step rfl (fun K hK => ?_)
          simp only [p1, cond_true]
          clear hpre
          rw [if_pos (by rfl)]
          go_simp
          exact hK _ _ ⟨by simp [upd, Act.put, p1], hB⟩
        · -- 8: Op.move (Operand.tmp 4)
          have p1 : l 1 = true := hpre _ rfl ⟨1, .guard⟩ (by simp) rfl
          refine wpOp_step rfl (fun K hK => ?_)
          simp only [p1, cond_true]
          clear hpre
          rw [if_pos (by rfl)]
          go_simp
          exact hK _ _ ⟨by simp [upd, Act.put, p1], hB⟩
        · -- 9: Op.call { callee := Callee.value (Operand.func 31), args := 
          have p6 : l 6 = true := hpre _ rfl ⟨6, .data⟩ (by simp) rfl
          have p7 : l 7 = true := hpre _ rfl ⟨7, .data⟩ (by simp) rfl
          have p8 : l 8 = true := hpre _ rfl ⟨8, .data⟩ (by simp) rfl
          have p5 : l 5 = true := hpre _ rfl ⟨5, .chain⟩ (by simp) rfl
          have p1 : l 1 = true := hpre _ rfl ⟨1, .guard⟩ (by simp) rfl
          refine wpOp_step rfl (fun K hK => ?_)
          simp only [p6, p7, p8, p5, p1, cond_true]
          clear hpre
          rw [if_pos (by rfl)]
          go_simp
          refine (H2.out _).mono ?_
          rintro e w5 ⟨rfl, hb5⟩
          exact hK _ _ ⟨by simp [upd, Act.put, p6, p7, p8, p5, p1], hB.trans (hb5.mono hB.size)⟩
        · -- 10: Op.binOp BinOp.eql 23 (Operand.tmp 16) (Operand.tmp 20) 23
          have p5 : l 5 = true := hpre _ rfl ⟨5, .data⟩ (by simp) rfl
          have p9 : l 9 = true := hpre _ rfl ⟨9, .data⟩ (by simp) rfl
          have p1 : l 1 = true := hpre _ rfl ⟨1, .guard⟩ (by simp) rfl
          refine wpOp_step rfl (fun K hK => ?_)
          simp only [p5, p9, p1, cond_true]
          clear hpre
          rw [if_pos (by rfl)]
          have q1 := HQ.out
          go_simp
          exact hK _ _ ⟨by simp [upd, Act.put, p5, p9, p1], hB⟩
        · -- 11: Op.move (Operand.tmp 1)
          have p1 : l 1 = true := hpre _ rfl ⟨1, .guard⟩ (by simp) rfl
          refine wpOp_step rfl (fun K hK => ?_)
          simp only [p1, cond_true]
          clear hpre
          rw [if_pos (by rfl)]
          go_simp
          exact hK _ _ ⟨by simp [upd, Act.put, p1], hB⟩
        · -- 12: Op.move (Operand.tmp 3)
          have p1 : l 1 = true := hpre _ rfl ⟨1, .guard⟩ (by simp) rfl
          refine wpOp_step rfl (fun K hK => ?_)
          simp only [p1, cond_true]
          clear hpre
          rw [if_pos (by rfl)]
          go_simp
          exact hK _ _ ⟨by simp [upd, Act.put, p1], hB⟩
        · -- 13: Op.binOp BinOp.eql 5 (Operand.tmp 22) (Operand.tmp 23) 5
          have p11 : l 11 = true := hpre _ rfl ⟨11, .data⟩ (by simp) rfl
          have p12 : l 12 = true := hpre _ rfl ⟨12, .data⟩ (by simp) rfl
          have p1 : l 1 = true := hpre _ rfl ⟨1, .guard⟩ (by simp) rfl
          refine wpOp_step rfl (fun K hK => ?_)
          simp only [p11, p12, p1, cond_true]
          clear hpre
          rw [if_pos (by rfl)]
          have z1 := HT.out
          go_simp
          exact hK _ _ ⟨by simp [upd, Act.put, p11, p12, p1], hB⟩
        · -- 14: Op.move (Operand.tmp 24)
          have p13 : l 13 = true := hpre _ rfl ⟨13, .data⟩ (by simp) rfl
          have p9 : l 9 = true := hpre _ rfl ⟨9, .chain⟩ (by simp) rfl
          have p1 : l 1 = true := hpre _ rfl ⟨1, .guard⟩ (by simp) rfl
          refine wpOp_step rfl (fun K hK => ?_)
          simp only [p13, p9, p1, cond_true]
          clear hpre
          rw [if_pos (by rfl)]
          go_simp
          exact hK _ _ ⟨by simp [upd, Act.put, p13, p9, p1], hB⟩
        · -- 15: Op.move (Operand.tmp 2)
          have p14 : l 14 = true := hpre _ rfl ⟨14, .guard⟩ (by simp) rfl
          refine wpOp_step rfl (fun K hK => ?_)
          simp only [p14, cond_true]
          clear hpre
          rw [if_pos (by rfl)]
          go_simp
          exact hK _ _ ⟨by simp [upd, Act.put, p14], hB⟩
        · -- 16: Op.move (Operand.tmp 4)
          have p14 : l 14 = true := hpre _ rfl ⟨14, .guard⟩ (by simp) rfl
          refine wpOp_step rfl (fun K hK => ?_)
          simp only [p14, cond_true]
          clear hpre
          rw [if_pos (by rfl)]
          go_simp
          exact hK _ _ ⟨by simp [upd, Act.put, p14], hB⟩
        · -- 17: Op.binOp BinOp.eql 30 (Operand.tmp 26) (Operand.tmp 27) 30
          have p15 : l 15 = true := hpre _ rfl ⟨15, .data⟩ (by simp) rfl
          have p16 : l 16 = true := hpre _ rfl ⟨16, .data⟩ (by simp) rfl
          have p14 : l 14 = true := hpre _ rfl ⟨14, .guard⟩ (by simp) rfl
          refine wpOp_step rfl (fun K hK => ?_)
          simp only [p15, p16, p14, cond_true]
          clear hpre
          rw [if_pos (by rfl)]
          have z2 := HN.out
          go_simp
          exact hK _ _ ⟨by simp [upd, Act.put, p15, p16, p14], hB⟩
        · -- 18: Op.pick (Operand.tmp 25) (Operand.tmp 28) (Operand.const (Va
          have p14 : l 14 = true := hpre _ rfl ⟨14, .data⟩ (by simp) rfl
          have p17 : l 17 = true := hpre _ rfl ⟨17, .data⟩ (by simp) rfl
          have p1 : l 1 = true := hpre _ rfl ⟨1, .guard⟩ (by simp) rfl
          refine wpOp_step rfl (fun K hK => ?_)
          simp only [p14, p17, p1, cond_true]
          clear hpre
          rw [if_pos (by rfl)]
          go_simp
          exact hK _ _ ⟨by simp [upd, Act.put, p14, p17, p1], hB⟩
        · -- 19: Op.binOp BinOp.eql 4 (Operand.tmp 21) (Operand.tmp 29) 4
          have p10 : l 10 = true := hpre _ rfl ⟨10, .data⟩ (by simp) rfl
          have p18 : l 18 = true := hpre _ rfl ⟨18, .data⟩ (by simp) rfl
          have p1 : l 1 = true := hpre _ rfl ⟨1, .guard⟩ (by simp) rfl
          refine wpOp_step rfl (fun K hK => ?_)
          simp only [p10, p18, p1, cond_true]
          clear hpre
          rw [if_pos (by rfl)]
          go_simp
          exact hK _ _ ⟨by simp [upd, Act.put, p10, p18, p1], hB⟩
        · -- 20: Op.pick (Operand.tmp 12) (Operand.tmp 30) (Operand.const (Va
          have p1 : l 1 = true := hpre _ rfl ⟨1, .data⟩ (by simp) rfl
          have p19 : l 19 = true := hpre _ rfl ⟨19, .data⟩ (by simp) rfl
          refine wpOp_step rfl (fun K hK => ?_)
          simp only [p1, p19, cond_true]
          clear hpre
          rw [if_pos (by rfl)]
          go_simp
          exact hK _ _ ⟨by simp [upd, Act.put, p1, p19], hB⟩
        · -- 21: Op.assign (Operand.tmp 31)
          have p20 : l 20 = true := hpre _ rfl ⟨20, .data⟩ (by simp) rfl
          have p14 : l 14 = true := hpre _ rfl ⟨14, .chain⟩ (by simp) rfl
          have p0 : l 0 = true := hpre _ rfl ⟨0, .phase⟩ (by simp) rfl
          have p1 : l 1 = true := hpre _ rfl ⟨1, .phase⟩ (by simp) rfl
          have p2 : l 2 = true := hpre _ rfl ⟨2, .phase⟩ (by simp) rfl
          have p3 : l 3 = true := hpre _ rfl ⟨3, .phase⟩ (by simp) rfl
          have p4 : l 4 = true := hpre _ rfl ⟨4, .phase⟩ (by simp) rfl
          have p5 : l 5 = true := hpre _ rfl ⟨5, .phase⟩ (by simp) rfl
          have p6 : l 6 = true := hpre _ rfl ⟨6, .phase⟩ (by simp) rfl
          have p7 : l 7 = true := hpre _ rfl ⟨7, .phase⟩ (by simp) rfl
          have p8 : l 8 = true := hpre _ rfl ⟨8, .phase⟩ (by simp) rfl
          have p9 : l 9 = true := hpre _ rfl ⟨9, .phase⟩ (by simp) rfl
          have p10 : l 10 = true := hpre _ rfl ⟨10, .phase⟩ (by simp) rfl
          have p11 : l 11 = true := hpre _ rfl ⟨11, .phase⟩ (by simp) rfl
          have p12 : l 12 = true := hpre _ rfl ⟨12, .phase⟩ (by simp) rfl
          have p13 : l 13 = true := hpre _ rfl ⟨13, .phase⟩ (by simp) rfl
          have p15 : l 15 = true := hpre _ rfl ⟨15, .phase⟩ (by simp) rfl
          have p16 : l 16 = true := hpre _ rfl ⟨16, .phase⟩ (by simp) rfl
          have p17 : l 17 = true := hpre _ rfl ⟨17, .phase⟩ (by simp) rfl
          have p18 : l 18 = true := hpre _ rfl ⟨18, .phase⟩ (by simp) rfl
          have p19 : l 19 = true := hpre _ rfl ⟨19, .phase⟩ (by simp) rfl
          refine wpOp_step rfl (fun K hK => ?_)
          simp only [p20, p14, p0, p1, p2, p3, p4, p5, p6, p7, p8, p9, p10, p11, p12, p13, p15, p16, p17, p18, p19, cond_true]
          clear hpre
          rw [if_pos (by rfl)]
          go_simp
          exact hK _ _ ⟨by simp [upd, Act.put, p20, p14, p0, p1, p2, p3, p4, p5, p6, p7, p8, p9, p10, p11, p12, p13, p15, p16, p17, p18, p19], hB⟩
      · rintro l a W1' hall ⟨rfl, hBz⟩
        simp only [hall 0 (by decide), hall 1 (by decide), hall 2 (by decide), hall 3 (by decide), hall 4 (by decide), hall 5 (by decide), hall 6 (by decide), hall 7 (by decide), hall 8 (by decide), hall 9 (by decide), hall 10 (by decide), hall 11 (by decide), hall 12 (by decide), hall 13 (by decide), hall 14 (by decide), hall 15 (by decide), hall 16 (by decide), hall 17 (by decide), hall 18 (by decide), hall 19 (by decide), hall 20 (by decide), hall 21 (by decide), cond_true]
        clear hall
        go_wp2_with fail
        go_ret
        exact ⟨rfl, HB.out.trans (hBz.mono HB.out.size)⟩
  · have HQ : Hid (∀ w, (Op.equalIn 10000 23 (.agg (kl P Q).toArray) (.agg (kl R S).toArray)).run Try.prog w = .ok false w) := Lib.hid (fun w => by rw [run_equal_key hPQ.1 hPQ.2 hRS.1 hRS.2 w, hsame]; simp [ht])
    have HT : Hid (((t : Int) == (o : Int)) = false) := Lib.hid (by simp; omega)
    clear hsame hPQ hRS ht
    go_enter Try.func11, Try.ntmps11
    go_wp2_with fail
    rw [← HW.out]
    refine wp_region_inv (by kernel_rfl) (by kernel_rfl) (fun l a w' => a = { tmps := #[Value.agg (kl X Y).toArray, .int .u8 (t : Int), .int .u64 (n : Int), .int .u8 (o : Int), .int .u64 (m : Int), .pointer (some ⟨w.heap.size, 0, none⟩), undef, undef, undef, undef, bif l 21 then Value.bool true else .bool false, bif l 0 then Value.bool true else undef, bif l 1 then Value.bool true else undef, bif l 2 then Value.agg (kl X Y).toArray else undef, bif l 3 then .int .u8 (t : Int) else undef, bif l 4 then .int .u64 (n : Int) else undef, bif l 5 then Value.agg (kl P Q).toArray else undef, bif l 6 then Value.agg (kl X Y).toArray else undef, bif l 7 then .int .u8 (o : Int) else undef, bif l 8 then .int .u64 (m : Int) else undef, bif l 9 then Value.agg (kl R S).toArray else undef, bif l 10 then Value.bool false else undef, bif l 11 then .int .u8 (t : Int) else undef, bif l 12 then .int .u8 (o : Int) else undef, bif l 13 then Value.bool false else undef, bif l 14 then Value.bool false else undef, bif l 15 then undef else undef, bif l 16 then undef else undef, bif l 17 then undef else undef, bif l 18 then Value.bool false else undef, bif l 19 then Value.bool true else undef, bif l 20 then Value.bool true else undef], defers := [] } ∧ Below W1.heap.size W1 w') ⟨rfl, (Below.refl _ _).drew⟩ ?_ ?_
    · rintro l a w' i ⟨rfl, hB⟩ hi hli hpre
      have hi2 : i < 22 := hi
      have hcase : i = 0 ∨ i = 1 ∨ i = 2 ∨ i = 3 ∨ i = 4 ∨ i = 5 ∨ i = 6 ∨ i = 7 ∨ i = 8 ∨ i = 9 ∨ i = 10 ∨ i = 11 ∨ i = 12 ∨ i = 13 ∨ i = 14 ∨ i = 15 ∨ i = 16 ∨ i = 17 ∨ i = 18 ∨ i = 19 ∨ i = 20 ∨ i = 21 := by omega
      clear hi hi2
      rcases hcase with rfl | rfl | rfl | rfl | rfl | rfl | rfl | rfl | rfl | rfl | rfl | rfl | rfl | rfl | rfl | rfl | rfl | rfl | rfl | rfl | rfl | rfl
      · -- 0: Op.call { callee := Callee.value (Operand.func 23), args := 
        refine wpOp_step rfl (fun K hK => ?_)
        clear hpre
        rw [if_pos (by rfl)]
        go_simp
        refine (HAl.out _).mono ?_
        rintro e w5 ⟨rfl, hb5⟩
        exact hK _ _ ⟨by simp [upd, Act.put], hB.trans (hb5.mono hB.size)⟩
      · -- 1: Op.move (Operand.tmp 11)
        have p0 : l 0 = true := hpre _ rfl ⟨0, .data⟩ (by simp) rfl
        refine wpOp_step rfl (fun K hK => ?_)
        simp only [p0, cond_true]
        clear hpre
        rw [if_pos (by rfl)]
        go_simp
        exact hK _ _ ⟨by simp [upd, Act.put, p0], hB⟩
      · -- 2: Op.load 23 (Operand.tmp 5)
        have p1 : l 1 = true := hpre _ rfl ⟨1, .guard⟩ (by simp) rfl
        refine wpOp_step rfl (fun K hK => ?_)
        simp only [p1, cond_true]
        clear hpre
        rw [if_pos (by rfl)]
        refine wp_load_mid 23 _ rfl _ 0 rfl (kl X Y) _ ((HK.out).below hB (HK.out).lt) Try.underlying23 rfl (by rw [kl_len]; exact size23) ?_
        exact hK _ _ ⟨by simp [upd, Act.put, p1], hB⟩
      · -- 3: Op.move (Operand.tmp 1)
        have p1 : l 1 = true := hpre _ rfl ⟨1, .guard⟩ (by simp) rfl
        refine wpOp_step rfl (fun K hK => ?_)
        simp only [p1, cond_true]
        clear hpre
        rw [if_pos (by rfl)]
        go_simp
        exact hK _ _ ⟨by simp [upd, Act.put, p1], hB⟩
      · -- 4: Op.move (Operand.tmp 2)
        have p1 : l 1 = true := hpre _ rfl ⟨1, .guard⟩ (by simp) rfl
        refine wpOp_step rfl (fun K hK => ?_)
        simp only [p1, cond_true]
        clear hpre
        rw [if_pos (by rfl)]
        go_simp
        exact hK _ _ ⟨by simp [upd, Act.put, p1], hB⟩
      · -- 5: Op.call { callee := Callee.value (Operand.func 31), args := 
        have p2 : l 2 = true := hpre _ rfl ⟨2, .data⟩ (by simp) rfl
        have p3 : l 3 = true := hpre _ rfl ⟨3, .data⟩ (by simp) rfl
        have p4 : l 4 = true := hpre _ rfl ⟨4, .data⟩ (by simp) rfl
        have p1 : l 1 = true := hpre _ rfl ⟨1, .chain⟩ (by simp) rfl
        refine wpOp_step rfl (fun K hK => ?_)
        simp only [p2, p3, p4, p1, cond_true]
        clear hpre
        rw [if_pos (by rfl)]
        go_simp
        refine (H1.out _).mono ?_
        rintro e w5 ⟨rfl, hb5⟩
        exact hK _ _ ⟨by simp [upd, Act.put, p2, p3, p4, p1], hB.trans (hb5.mono hB.size)⟩
      · -- 6: Op.load 23 (Operand.tmp 5)
        have p1 : l 1 = true := hpre _ rfl ⟨1, .guard⟩ (by simp) rfl
        refine wpOp_step rfl (fun K hK => ?_)
        simp only [p1, cond_true]
        clear hpre
        rw [if_pos (by rfl)]
        refine wp_load_mid 23 _ rfl _ 0 rfl (kl X Y) _ ((HK.out).below hB (HK.out).lt) Try.underlying23 rfl (by rw [kl_len]; exact size23) ?_
        exact hK _ _ ⟨by simp [upd, Act.put, p1], hB⟩
      · -- 7: Op.move (Operand.tmp 3)
        have p1 : l 1 = true := hpre _ rfl ⟨1, .guard⟩ (by simp) rfl
        refine wpOp_step rfl (fun K hK => ?_)
        simp only [p1, cond_true]
        clear hpre
        rw [if_pos (by rfl)]
        go_simp
        exact hK _ _ ⟨by simp [upd, Act.put, p1], hB⟩
      · -- 8: Op.move (Operand.tmp 4)
        have p1 : l 1 = true := hpre _ rfl ⟨1, .guard⟩ (by simp) rfl
        refine wpOp_step rfl (fun K hK => ?_)
        simp only [p1, cond_true]
        clear hpre
        rw [if_pos (by rfl)]
        go_simp
        exact hK _ _ ⟨by simp [upd, Act.put, p1], hB⟩
      · -- 9: Op.call { callee := Callee.value (Operand.func 31), args := 
        have p6 : l 6 = true := hpre _ rfl ⟨6, .data⟩ (by simp) rfl
        have p7 : l 7 = true := hpre _ rfl ⟨7, .data⟩ (by simp) rfl
        have p8 : l 8 = true := hpre _ rfl ⟨8, .data⟩ (by simp) rfl
        have p5 : l 5 = true := hpre _ rfl ⟨5, .chain⟩ (by simp) rfl
        have p1 : l 1 = true := hpre _ rfl ⟨1, .guard⟩ (by simp) rfl
        refine wpOp_step rfl (fun K hK => ?_)
        simp only [p6, p7, p8, p5, p1, cond_true]
        clear hpre
        rw [if_pos (by rfl)]
        go_simp
        refine (H2.out _).mono ?_
        rintro e w5 ⟨rfl, hb5⟩
        exact hK _ _ ⟨by simp [upd, Act.put, p6, p7, p8, p5, p1], hB.trans (hb5.mono hB.size)⟩
      · -- 10: Op.binOp BinOp.eql 23 (Operand.tmp 16) (Operand.tmp 20) 23
        have p5 : l 5 = true := hpre _ rfl ⟨5, .data⟩ (by simp) rfl
        have p9 : l 9 = true := hpre _ rfl ⟨9, .data⟩ (by simp) rfl
        have p1 : l 1 = true := hpre _ rfl ⟨1, .guard⟩ (by simp) rfl
        refine wpOp_step rfl (fun K hK => ?_)
        simp only [p5, p9, p1, cond_true]
        clear hpre
        rw [if_pos (by rfl)]
        have q1 := HQ.out
        go_simp
        exact hK _ _ ⟨by simp [upd, Act.put, p5, p9, p1], hB⟩
      · -- 11: Op.move (Operand.tmp 1)
        have p1 : l 1 = true := hpre _ rfl ⟨1, .guard⟩ (by simp) rfl
        refine wpOp_step rfl (fun K hK => ?_)
        simp only [p1, cond_true]
        clear hpre
        rw [if_pos (by rfl)]
        go_simp
        exact hK _ _ ⟨by simp [upd, Act.put, p1], hB⟩
      · -- 12: Op.move (Operand.tmp 3)
        have p1 : l 1 = true := hpre _ rfl ⟨1, .guard⟩ (by simp) rfl
        refine wpOp_step rfl (fun K hK => ?_)
        simp only [p1, cond_true]
        clear hpre
        rw [if_pos (by rfl)]
        go_simp
        exact hK _ _ ⟨by simp [upd, Act.put, p1], hB⟩
      · -- 13: Op.binOp BinOp.eql 5 (Operand.tmp 22) (Operand.tmp 23) 5
        have p11 : l 11 = true := hpre _ rfl ⟨11, .data⟩ (by simp) rfl
        have p12 : l 12 = true := hpre _ rfl ⟨12, .data⟩ (by simp) rfl
        have p1 : l 1 = true := hpre _ rfl ⟨1, .guard⟩ (by simp) rfl
        refine wpOp_step rfl (fun K hK => ?_)
        simp only [p11, p12, p1, cond_true]
        clear hpre
        rw [if_pos (by rfl)]
        have z1 := HT.out
        go_simp
        exact hK _ _ ⟨by simp [upd, Act.put, p11, p12, p1], hB⟩
      · -- 14: Op.move (Operand.tmp 24)
        have p13 : l 13 = true := hpre _ rfl ⟨13, .data⟩ (by simp) rfl
        have p9 : l 9 = true := hpre _ rfl ⟨9, .chain⟩ (by simp) rfl
        have p1 : l 1 = true := hpre _ rfl ⟨1, .guard⟩ (by simp) rfl
        refine wpOp_step rfl (fun K hK => ?_)
        simp only [p13, p9, p1, cond_true]
        clear hpre
        rw [if_pos (by rfl)]
        go_simp
        exact hK _ _ ⟨by simp [upd, Act.put, p13, p9, p1], hB⟩
      · -- 15: Op.move (Operand.tmp 2)
        have p14 : l 14 = true := hpre _ rfl ⟨14, .guard⟩ (by simp) rfl
        refine wpOp_step rfl (fun K hK => ?_)
        simp only [p14, cond_true]
        clear hpre
        rw [if_neg (by exact Bool.false_ne_true)]
        exact hK _ _ ⟨by simp [upd, Act.put, p14], hB⟩
      · -- 16: Op.move (Operand.tmp 4)
        have p14 : l 14 = true := hpre _ rfl ⟨14, .guard⟩ (by simp) rfl
        refine wpOp_step rfl (fun K hK => ?_)
        simp only [p14, cond_true]
        clear hpre
        rw [if_neg (by exact Bool.false_ne_true)]
        exact hK _ _ ⟨by simp [upd, Act.put, p14], hB⟩
      · -- 17: Op.binOp BinOp.eql 30 (Operand.tmp 26) (Operand.tmp 27) 30
        have p15 : l 15 = true := hpre _ rfl ⟨15, .data⟩ (by simp) rfl
        have p16 : l 16 = true := hpre _ rfl ⟨16, .data⟩ (by simp) rfl
        have p14 : l 14 = true := hpre _ rfl ⟨14, .guard⟩ (by simp) rfl
        refine wpOp_step rfl (fun K hK => ?_)
        simp only [p15, p16, p14, cond_true]
        clear hpre
        rw [if_neg (by exact Bool.false_ne_true)]
        exact hK _ _ ⟨by simp [upd, Act.put, p15, p16, p14], hB⟩
      · -- 18: Op.pick (Operand.tmp 25) (Operand.tmp 28) (Operand.const (Va
        have p14 : l 14 = true := hpre _ rfl ⟨14, .data⟩ (by simp) rfl
        have p17 : l 17 = true := hpre _ rfl ⟨17, .data⟩ (by simp) rfl
        have p1 : l 1 = true := hpre _ rfl ⟨1, .guard⟩ (by simp) rfl
        refine wpOp_step rfl (fun K hK => ?_)
        simp only [p14, p17, p1, cond_true]
        clear hpre
        rw [if_pos (by rfl)]
        go_simp
        exact hK _ _ ⟨by simp [upd, Act.put, p14, p17, p1], hB⟩
      · -- 19: Op.binOp BinOp.eql 4 (Operand.tmp 21) (Operand.tmp 29) 4
        have p10 : l 10 = true := hpre _ rfl ⟨10, .data⟩ (by simp) rfl
        have p18 : l 18 = true := hpre _ rfl ⟨18, .data⟩ (by simp) rfl
        have p1 : l 1 = true := hpre _ rfl ⟨1, .guard⟩ (by simp) rfl
        refine wpOp_step rfl (fun K hK => ?_)
        simp only [p10, p18, p1, cond_true]
        clear hpre
        rw [if_pos (by rfl)]
        go_simp
        exact hK _ _ ⟨by simp [upd, Act.put, p10, p18, p1], hB⟩
      · -- 20: Op.pick (Operand.tmp 12) (Operand.tmp 30) (Operand.const (Va
        have p1 : l 1 = true := hpre _ rfl ⟨1, .data⟩ (by simp) rfl
        have p19 : l 19 = true := hpre _ rfl ⟨19, .data⟩ (by simp) rfl
        refine wpOp_step rfl (fun K hK => ?_)
        simp only [p1, p19, cond_true]
        clear hpre
        rw [if_pos (by rfl)]
        go_simp
        exact hK _ _ ⟨by simp [upd, Act.put, p1, p19], hB⟩
      · -- 21: Op.assign (Operand.tmp 31)
        have p20 : l 20 = true := hpre _ rfl ⟨20, .data⟩ (by simp) rfl
        have p14 : l 14 = true := hpre _ rfl ⟨14, .chain⟩ (by simp) rfl
        have p0 : l 0 = true := hpre _ rfl ⟨0, .phase⟩ (by simp) rfl
        have p1 : l 1 = true := hpre _ rfl ⟨1, .phase⟩ (by simp) rfl
        have p2 : l 2 = true := hpre _ rfl ⟨2, .phase⟩ (by simp) rfl
        have p3 : l 3 = true := hpre _ rfl ⟨3, .phase⟩ (by simp) rfl
        have p4 : l 4 = true := hpre _ rfl ⟨4, .phase⟩ (by simp) rfl
        have p5 : l 5 = true := hpre _ rfl ⟨5, .phase⟩ (by simp) rfl
        have p6 : l 6 = true := hpre _ rfl ⟨6, .phase⟩ (by simp) rfl
        have p7 : l 7 = true := hpre _ rfl ⟨7, .phase⟩ (by simp) rfl
        have p8 : l 8 = true := hpre _ rfl ⟨8, .phase⟩ (by simp) rfl
        have p9 : l 9 = true := hpre _ rfl ⟨9, .phase⟩ (by simp) rfl
        have p10 : l 10 = true := hpre _ rfl ⟨10, .phase⟩ (by simp) rfl
        have p11 : l 11 = true := hpre _ rfl ⟨11, .phase⟩ (by simp) rfl
        have p12 : l 12 = true := hpre _ rfl ⟨12, .phase⟩ (by simp) rfl
        have p13 : l 13 = true := hpre _ rfl ⟨13, .phase⟩ (by simp) rfl
        have p15 : l 15 = true := hpre _ rfl ⟨15, .phase⟩ (by simp) rfl
        have p16 : l 16 = true := hpre _ rfl ⟨16, .phase⟩ (by simp) rfl
        have p17 : l 17 = true := hpre _ rfl ⟨17, .phase⟩ (by simp) rfl
        have p18 : l 18 = true := hpre _ rfl ⟨18, .phase⟩ (by simp) rfl
        have p19 : l 19 = true := hpre _ rfl ⟨19, .phase⟩ (by simp) rfl
        refine wpOp_step rfl (fun K hK => ?_)
        simp only [p20, p14, p0, p1, p2, p3, p4, p5, p6, p7, p8, p9, p10, p11, p12, p13, p15, p16, p17, p18, p19, cond_true]
        clear hpre
        rw [if_pos (by rfl)]
        go_simp
        exact hK _ _ ⟨by simp [upd, Act.put, p20, p14, p0, p1, p2, p3, p4, p5, p6, p7, p8, p9, p10, p11, p12, p13, p15, p16, p17, p18, p19], hB⟩
    · rintro l a W1' hall ⟨rfl, hBz⟩
      simp only [hall 0 (by decide), hall 1 (by decide), hall 2 (by decide), hall 3 (by decide), hall 4 (by decide), hall 5 (by decide), hall 6 (by decide), hall 7 (by decide), hall 8 (by decide), hall 9 (by decide), hall 10 (by decide), hall 11 (by decide), hall 12 (by decide), hall 13 (by decide), hall 14 (by decide), hall 15 (by decide), hall 16 (by decide), hall 17 (by decide), hall 18 (by decide), hall 19 (by decide), hall 20 (by decide), hall 21 (by decide), cond_true]
      clear hall
      go_wp2_with fail
      go_ret
      exact ⟨rfl, HB.out.trans (hBz.mono HB.out.size)⟩

theorem walk (X Y : Nat) (hX : X < M) (hY : Y < M) (a1 : Int) (w1 : (Lit.int .u8 a1).wf = true) (a2 : Int) (w2 : (Lit.int .u64 a2).wf = true) (a3 : Int) (w3 : (Lit.int .u8 a3).wf = true) (a4 : Int) (w4 : (Lit.int .u64 a4).wf = true) (w : World) :
    Calls Try.prog 11 #[.agg (kl X Y).toArray, .int .u8 a1, .int .u64 a2, .int .u8 a3, .int .u64 a4] w fun e w' => e = .returned (.bool true) ∧ Below w.heap.size w w' := by
  have b1 := bounds_u8 w1
  have b2 := bounds_u64 w2
  have b3 := bounds_u8 w3
  have b4 := bounds_u64 w4
  obtain ⟨t, rfl⟩ := Int.eq_ofNat_of_zero_le b1.1
  obtain ⟨n, rfl⟩ := Int.eq_ofNat_of_zero_le b2.1
  obtain ⟨o, rfl⟩ := Int.eq_ofNat_of_zero_le b3.1
  obtain ⟨m, rfl⟩ := Int.eq_ofNat_of_zero_le b4.1
  exact walkN X Y t n o m hX hY (by omega) (by unfold M; omega) (by omega) (by unfold M; omega) w
end Go.Proofs.Ytphhppdokdageaa.cipherApart
