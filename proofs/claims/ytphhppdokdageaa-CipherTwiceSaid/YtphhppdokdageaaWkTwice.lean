/- The walk over CipherTwice. -/
import Derived.Test.YtphhppdokdageaaStrC
import Derived.Test.YtphhppdokdageaaPorA
import Derived.Test.YtphhppdokdageaaAlv
import Derived.Test.YtphhppdokdageaaTxtE
import Derived.Test.YtphhppdokdageaaLawB
namespace Go.Proofs.Ytphhppdokdageaa.cipherTwice
open Go.RowKit SP
set_option linter.unusedVariables false
set_option linter.unusedSimpArgs false

theorem smb_twice (X Y t : Nat) (g : Nat → Nat) : smb X Y t (smb X Y t g) = g := by
  funext i; unfold smb; exact xor_back _ _
theorem byt_take {w : World} {A : Option Addr} {n c m : Nat} {g : Nat → Nat} (h : Byt w A n c g) (hm : m ≤ n) : Byt w A m c g :=
  ⟨Nat.le_trans hm h.le, h.cap, h.lt, fun h0 => by
    obtain ⟨b, off, e, hc⟩ := h.at_ (by omega)
    exact ⟨b, off, e, fun i hi => hc i (by omega)⟩⟩

theorem add_zero_addr (A : Option Addr) (s : Nat) : A.map (·.add (0 * s)) = A := by
  cases A with
  | none => rfl
  | some a => simp [Addr.add]
theorem slice_head (A : Option Addr) (n c q : Nat) (w : World) (hq : q ≤ c) : (Instr.slice 26 (.slice A n c) none (some (.int .i64 (q : Int))) none).run Try.prog w = .ok (.slice A q c) w := by
  rw [run_slice_h w 26 A n c (by kernel_rfl) .i64 (q : Int) (by omega) (by omega)]
  have e : (sizeOf (Try.prog.elem 26)).run Try.prog w = .ok 1 w := by kernel_rfl
  rw [e]
  simp only [Result.andThen, sliced, Int.toNat_natCast, Nat.sub_zero]
  split
  · rfl
  · rw [add_zero_addr]

set_option maxRecDepth 100000 in
set_option maxHeartbeats 1000000 in
theorem walk_big (X Y t : Nat) (A : Option Addr) (n c : Nat) (m : Int) (w : World) (hn : 16384 < n) :
    Calls Try.prog 13 #[.agg (kl X Y).toArray, .int .u64 (t : Int), .slice A n c, .int .i64 m] w fun e w' => e = .returned (.bool true) ∧ Below w.heap.size w w' := by
  have HM := Lib.hid (fun w => stream_no X Y t A n c w hn)
  have HAl := Lib.hid (fun w => alive_any w)
  obtain ⟨N, hN⟩ : ∃ N, N = w.heap.size := ⟨_, rfl⟩
  obtain ⟨W1, hW1⟩ : ∃ W1, W1 = w.alloc (.cells (kl X Y).toArray 23) := ⟨_, rfl⟩
  have HB : Hid (Below N w W1) := Lib.hid (by rw [hW1, hN]; exact (Below.refl _ _).alloc (Nat.le_refl _) _)
  have HL : Hid (W1.heap.size = N + 1) := Lib.hid (by rw [hW1, hN]; simp)
  have HK : Hid (KeyAt W1 N X Y) := Lib.hid (by rw [hW1, hN]; exact KeyAt.new w X Y 23)
  have HW := Lib.hid hW1
  have HN := Lib.hid hN
  clear hW1 hN
  have d1 : decide ((16384 : Int) < (n : Int)) = true := decide_eq_true (by omega)
  have d2 : ((16384 : Int) < (n : Int)) := by omega
  go_enter Try.func13, Try.ntmps13
  go_wp2_with fail
  rw [← HW.out, ← HN.out]
  refine (HAl.out _).mono ?_
  rintro e w1 ⟨rfl, hb1⟩
  have K1 := Lib.hid (HK.out.keep hb1)
  have B1 := Lib.hid (HB.out.trans (hb1.mono (by rw [HL.out]; omega)))
  have S1 : Hid (N + 1 ≤ w1.heap.size) := Lib.hid (by rw [← HL.out]; exact hb1.size)
  clear hb1
  go_wp2_with (refine wpList_load_key rfl _ rfl N rfl X Y K1.out ?_)
  refine (HM.out _).mono ?_
  rintro e w3 ⟨rfl, hb3⟩
  have B3 := Lib.hid (B1.out.trans (hb3.mono (by have := S1.out; omega)))
  clear hb3
  go_wp2_with fail
  go_ret
  exact ⟨rfl, by rw [← HN.out]; exact B3.out⟩

set_option maxRecDepth 100000 in
set_option maxHeartbeats 4000000 in
theorem walk_yes (X Y t : Nat) (hX : X < M) (hY : Y < M) (ht : t < M) (A : Option Addr) (n c : Nat) (g : Nat → Nat) (m : Int) (w : World) (hb : Byt w A n c g) (hn : n ≤ 16384) :
    Calls Try.prog 13 #[.agg (kl X Y).toArray, .int .u64 (t : Int), .slice A n c, .int .i64 m] w fun e w' => e = .returned (.bool true) ∧ Below w.heap.size w w' := by
  obtain ⟨s, hs⟩ : ∃ s, s = smb X Y t g := ⟨_, rfl⟩
  have hsg : smb X Y t s = g := by rw [hs]; exact smb_twice X Y t g
  have C1 := Lib.hid (fun (A : Option Addr) (c : Nat) (w : World) (h : Byt w A n c g) => stream_byt X Y t A n c g w hX hY ht h hn)
  have C2 := Lib.hid (fun (A : Option Addr) (c : Nat) (w : World) (h : Byt w A n c s) => stream_byt X Y t A n c s w hX hY ht h hn)
  have C3 := Lib.hid (fun (A : Option Addr) (m c : Nat) (w : World) (h : Byt w A m c g) (hm : m ≤ n) => stream_byt X Y t A m c g w hX hY ht h (by omega))
  rw [← hs] at C1 C3
  rw [hsg] at C2
  have HAl := Lib.hid (fun w => alive_any w)
  obtain ⟨N, hN⟩ : ∃ N, N = w.heap.size := ⟨_, rfl⟩
  obtain ⟨W1, hW1⟩ : ∃ W1, W1 = w.alloc (.cells (kl X Y).toArray 23) := ⟨_, rfl⟩
  have HB : Hid (Below N w W1) := Lib.hid (by rw [hW1, hN]; exact (Below.refl _ _).alloc (Nat.le_refl _) _)
  have HL : Hid (W1.heap.size = N + 1) := Lib.hid (by rw [hW1, hN]; simp)
  have HK : Hid (KeyAt W1 N X Y) := Lib.hid (by rw [hW1, hN]; exact KeyAt.new w X Y 23)
  have HW := Lib.hid hW1
  have HN := Lib.hid hN
  have HYw := Lib.hid hb
  clear hW1 hN hX hY ht hs hsg hb
  have d1 : decide ((16384 : Int) < (n : Int)) = false := decide_eq_false (by omega)
  have d2 : ¬ ((16384 : Int) < (n : Int)) := by omega
  go_enter Try.func13, Try.ntmps13
  go_wp2_with fail
  rw [← HW.out, ← HN.out]
  refine (HAl.out _).mono ?_
  rintro e w1 ⟨rfl, hb1⟩
  have K1 := Lib.hid (HK.out.keep hb1)
  have B1 := Lib.hid (HB.out.trans (hb1.mono (by rw [HL.out]; omega)))
  have S1 : Hid (N + 1 ≤ w1.heap.size) := Lib.hid (by rw [← HL.out]; exact hb1.size)
  clear hb1
  go_wp2_with (refine wpList_load_key rfl _ rfl N rfl X Y K1.out ?_)
  have Y1 : Hid (Byt w1 A n c g) := Lib.hid (HYw.out.keep (by rw [← HN.out]; exact B1.out))
  refine (C1.out A c w1 Y1.out).mono ?_
  rintro e w3 ⟨A3, c3, rfl, hb3, hy3⟩
  have B3 := Lib.hid (B1.out.trans (hb3.mono (by have := S1.out; omega)))
  have K3 := Lib.hid (K1.out.keep hb3)
  have S3 : Hid (N + 1 ≤ w3.heap.size) := Lib.hid (Nat.le_trans S1.out hb3.size)
  have Y3 := Lib.hid hy3
  clear hb3 hy3
  go_wp2_with (refine wpList_load_key rfl _ rfl N rfl X Y K3.out ?_)
  refine (C2.out A3 c3 w3 Y3.out).mono ?_
  rintro e w5 ⟨A5, c5, rfl, hb5, hy5⟩
  have B5 := Lib.hid (B3.out.trans (hb5.mono (by have := S3.out; omega)))
  have K5 := Lib.hid (K3.out.keep hb5)
  have S5 : Hid (N + 1 ≤ w5.heap.size) := Lib.hid (Nat.le_trans S3.out hb5.size)
  have Y5 := Lib.hid (Y3.out.keep hb5)
  have Z5 : Hid (Byt w5 A n c g) := Lib.hid (HYw.out.keep (by rw [← HN.out]; exact B5.out))
  have V1 := conv_byt hy5
  have V2 := conv_byt Z5.out
  obtain ⟨st, hst⟩ : ∃ st, st = bst n g := ⟨_, rfl⟩
  rw [← hst] at V1 V2
  clear hst hb5 hy5 B3 K3 S3 Y3 K1 B1 S1 Y1
  by_cases h1 : m < 0
  · have e1 : decide (m < 0) = true := decide_eq_true h1
    go_wp2_with fail
    go_ret
    exact ⟨rfl, by rw [← HN.out]; exact B5.out⟩
  have e1 : decide (m < 0) = false := decide_eq_false h1
  by_cases h2 : (n : Int) < m
  · have e2 : decide ((n : Int) < m) = true := decide_eq_true h2
    go_wp2_with fail
    go_ret
    exact ⟨rfl, by rw [← HN.out]; exact B5.out⟩
  obtain ⟨q, rfl⟩ : ∃ q : Nat, m = (q : Int) := ⟨m.toNat, by omega⟩
  have hq : q ≤ n := by omega
  have e2 : decide ((n : Int) < (q : Int)) = false := decide_eq_false h2
  have e3 : decide (n < q) = false := decide_eq_false (by omega)
  have HQ := Lib.hid hq
  go_wp2_with fail
  refine wp_region_inv (by kernel_rfl) (by kernel_rfl) (fun l a w' => ∃ A7 : Option Addr, ∃ c7 : Nat, a = { tmps := #[Value.agg (kl X Y).toArray, Value.int .u64 (t : Int), Value.slice A n c, Value.int .i64 (q : Int), Value.pointer (some ⟨N, 0, none⟩), undef, undef, undef, Value.bool false, Value.bool true, Value.slice A3 n c3, Value.int .i64 (0 : Int), Value.slice A5 n c5, Value.int .i64 (0 : Int), bif l 9 then Value.slice A7 q c7 else undef, bif l 10 then Value.int .i64 0 else undef, Value.bool true, Value.tuple #[Value.slice A3 n c3, Value.int IntKind.i64 0], Value.agg (kl X Y).toArray, Value.int .u64 (t : Int), Value.slice A n c, Value.tuple #[Value.slice A3 n c3, Value.int IntKind.i64 0], Value.slice A3 n c3, Value.int .i64 (0 : Int), Value.slice A n c, Value.int .i64 (n : Int), Value.bool false, undef, undef, undef, undef, undef, Value.tuple #[Value.slice A5 n c5, Value.int IntKind.i64 0], Value.agg (kl X Y).toArray, Value.int .u64 (t : Int), Value.slice A3 n c3, Value.tuple #[Value.slice A5 n c5, Value.int IntKind.i64 0], Value.slice A5 n c5, Value.int .i64 (0 : Int), Value.int .i64 (0 : Int), Value.bool false, Value.bool false, Value.int .i64 (0 : Int), Value.bool false, Value.bool false, Value.bool false, Value.slice A3 n c3, Value.int .i64 (n : Int), Value.slice A n c, Value.int .i64 (n : Int), Value.bool false, Value.bool false, Value.bool false, Value.slice A5 n c5, Value.string st, Value.slice A n c, Value.string st, Value.bool false, Value.bool false, Value.int .i64 (q : Int), Value.bool false, Value.bool false, Value.int .i64 (q : Int), Value.slice A n c, Value.int .i64 (n : Int), Value.bool false, Value.bool false, undef, bif l 6 then Value.tuple #[Value.slice A7 q c7, Value.int .i64 0] else undef, bif l 0 then Value.agg (kl X Y).toArray else undef, bif l 1 then Value.int .u64 (t : Int) else undef, bif l 2 then Value.slice A n c else undef, bif l 3 then Value.int .i64 (q : Int) else undef, bif l 4 then Value.slice A q c else undef, bif l 5 then Value.tuple #[Value.slice A7 q c7, Value.int .i64 0] else undef, bif l 7 then Value.slice A7 q c7 else undef, bif l 8 then Value.int .i64 0 else undef, undef, undef, undef, undef, undef, undef, undef, undef, undef, undef, undef, undef, undef, undef], defers := [] } ∧ Below w5.heap.size w5 w' ∧ (l 5 = true → Byt w' A7 q c7 s) ∧ (l 6 = true → l 5 = true) ∧ (l 7 = true → l 6 = true) ∧ (l 9 = true → l 7 = true)) ⟨none, 0, rfl, (Below.refl _ _).drew, (fun h => by cases h), (fun h => by cases h), (fun h => by cases h), (fun h => by cases h)⟩ ?_ ?_
  · rintro l a w' i ⟨A7, c7, rfl, hB, hf0, ho0, ho1, ho2⟩ hi hli hpre
    have hi2 : i < 11 := hi
    have hcase : i = 0 ∨ i = 1 ∨ i = 2 ∨ i = 3 ∨ i = 4 ∨ i = 5 ∨ i = 6 ∨ i = 7 ∨ i = 8 ∨ i = 9 ∨ i = 10 := by omega
    clear hi hi2
    rcases hcase with rfl | rfl | rfl | rfl | rfl | rfl | rfl | rfl | rfl | rfl | rfl
    · -- 0: Op.load 23 (Operand.tmp 4)
      refine wpOp_step rfl (fun K hK => ?_)
      clear hpre
      rw [if_pos (by rfl)]
      refine wp_load_mid 23 _ rfl _ 0 rfl (kl X Y) _ ((K5.out).below hB (K5.out).lt) Try.underlying23 rfl (by rw [kl_len]; exact size23) ?_
      exact hK _ _ ⟨A7, c7, by simp [upd, Act.put], hB, (fun e => hf0 (by simpa [upd] using e)), (by first | (simp [upd]; done) | simpa [upd] using ho0), (by first | (simp [upd]; done) | simpa [upd] using ho1), (by first | (simp [upd]; done) | simpa [upd] using ho2)⟩
    · -- 1: Op.move (Operand.tmp 1)
      refine wpOp_step rfl (fun K hK => ?_)
      clear hpre
      rw [if_pos (by rfl)]
      go_simp
      exact hK _ _ ⟨A7, c7, by simp [upd, Act.put], hB, (fun e => hf0 (by simpa [upd] using e)), (by first | (simp [upd]; done) | simpa [upd] using ho0), (by first | (simp [upd]; done) | simpa [upd] using ho1), (by first | (simp [upd]; done) | simpa [upd] using ho2)⟩
    · -- 2: Op.move (Operand.tmp 2)
      refine wpOp_step rfl (fun K hK => ?_)
      clear hpre
      rw [if_pos (by rfl)]
      go_simp
      exact hK _ _ ⟨A7, c7, by simp [upd, Act.put], hB, (fun e => hf0 (by simpa [upd] using e)), (by first | (simp [upd]; done) | simpa [upd] using ho0), (by first | (simp [upd]; done) | simpa [upd] using ho1), (by first | (simp [upd]; done) | simpa [upd] using ho2)⟩
    · -- 3: Op.move (Operand.tmp 3)
      refine wpOp_step rfl (fun K hK => ?_)
      clear hpre
      rw [if_pos (by rfl)]
      go_simp
      exact hK _ _ ⟨A7, c7, by simp [upd, Act.put], hB, (fun e => hf0 (by simpa [upd] using e)), (by first | (simp [upd]; done) | simpa [upd] using ho0), (by first | (simp [upd]; done) | simpa [upd] using ho1), (by first | (simp [upd]; done) | simpa [upd] using ho2)⟩
    · -- 4: Op.slice 26 (Operand.tmp 71) none (some (Operand.tmp 72)) no
      have p2 : l 2 = true := hpre _ rfl ⟨2, .data⟩ (by simp) rfl
      have p3 : l 3 = true := hpre _ rfl ⟨3, .data⟩ (by simp) rfl
      refine wpOp_step rfl (fun K hK => ?_)
      simp only [p2, p3, cond_true, cond_false]
      clear hpre
      rw [if_pos (by rfl)]
      have l1 : (0 : Int) ≤ (q : Int) := by omega
      have l2 : (q : Int) ≤ (n : Int) := by have := HQ.out; omega
      have l3 : (q : Int) ≤ (c : Int) := by have := HQ.out; have := Z5.out.le; omega
      have l4 := slice_head A n c q w' (by omega)
      go_simp
      exact hK _ _ ⟨A7, c7, by simp [upd, Act.put, p2, p3], hB, (fun e => hf0 (by simpa [upd] using e)), (by first | (simp [upd, p2, p3]; done) | simpa [upd, p2, p3] using ho0), (by first | (simp [upd, p2, p3]; done) | simpa [upd, p2, p3] using ho1), (by first | (simp [upd, p2, p3]; done) | simpa [upd, p2, p3] using ho2)⟩
    · -- 5: Op.call { callee := Callee.value (Operand.func 20), args := 
      have p0 : l 0 = true := hpre _ rfl ⟨0, .data⟩ (by simp) rfl
      have p1 : l 1 = true := hpre _ rfl ⟨1, .data⟩ (by simp) rfl
      have p4 : l 4 = true := hpre _ rfl ⟨4, .data⟩ (by simp) rfl
      refine wpOp_step rfl (fun K hK => ?_)
      have n6 : l 6 = false := by cases h : l 6; rfl; exact absurd (ho0 h) (by rw [hli]; decide)
      have n7 : l 7 = false := by cases h : l 7; rfl; exact absurd (ho1 h) (by rw [n6]; decide)
      have n9 : l 9 = false := by cases h : l 9; rfl; exact absurd (ho2 h) (by rw [n7]; decide)
      simp only [p0, p1, p4, n6, n7, n9, cond_true, cond_false]
      clear hpre
      rw [if_pos (by rfl)]
      go_simp
      refine (C3.out A q c _ (byt_take (Z5.out.keep hB) HQ.out) HQ.out).mono ?_
      rintro e w5 ⟨A7, c7, rfl, hb5, hy5⟩
      exact hK _ _ ⟨A7, c7, by simp [upd, Act.put, p0, p1, p4, n6, n7, n9], hB.trans (hb5.mono hB.size), (fun _ => hy5), (by first | (simp [upd, p0, p1, p4, n6, n7, n9]; done) | simpa [upd, p0, p1, p4, n6, n7, n9] using ho0), (by first | (simp [upd, p0, p1, p4, n6, n7, n9]; done) | simpa [upd, p0, p1, p4, n6, n7, n9] using ho1), (by first | (simp [upd, p0, p1, p4, n6, n7, n9]; done) | simpa [upd, p0, p1, p4, n6, n7, n9] using ho2)⟩
    · -- 6: Op.move (Operand.tmp 74)
      have p5 : l 5 = true := hpre _ rfl ⟨5, .data⟩ (by simp) rfl
      refine wpOp_step rfl (fun K hK => ?_)
      simp only [p5, cond_true, cond_false]
      clear hpre
      rw [if_pos (by rfl)]
      go_simp
      exact hK _ _ ⟨A7, c7, by simp [upd, Act.put, p5], hB, (fun e => hf0 (by simpa [upd] using e)), (by first | (simp [upd, p5]; done) | simpa [upd, p5] using ho0), (by first | (simp [upd, p5]; done) | simpa [upd, p5] using ho1), (by first | (simp [upd, p5]; done) | simpa [upd, p5] using ho2)⟩
    · -- 7: Op.extract (Operand.tmp 68) 0
      have p6 : l 6 = true := hpre _ rfl ⟨6, .data⟩ (by simp) rfl
      have p5 : l 5 = true := ho0 p6
      refine wpOp_step rfl (fun K hK => ?_)
      simp only [p6, p5, cond_true, cond_false]
      clear hpre
      rw [if_pos (by rfl)]
      go_simp
      exact hK _ _ ⟨A7, c7, by simp [upd, Act.put, p6, p5], hB, (fun e => hf0 (by simpa [upd] using e)), (by first | (simp [upd, p6, p5]; done) | simpa [upd, p6, p5] using ho0), (by first | (simp [upd, p6, p5]; done) | simpa [upd, p6, p5] using ho1), (by first | (simp [upd, p6, p5]; done) | simpa [upd, p6, p5] using ho2)⟩
    · -- 8: Op.extract (Operand.tmp 68) 1
      have p6 : l 6 = true := hpre _ rfl ⟨6, .data⟩ (by simp) rfl
      have p5 : l 5 = true := ho0 p6
      refine wpOp_step rfl (fun K hK => ?_)
      simp only [p6, p5, cond_true, cond_false]
      clear hpre
      rw [if_pos (by rfl)]
      go_simp
      exact hK _ _ ⟨A7, c7, by simp [upd, Act.put, p6, p5], hB, (fun e => hf0 (by simpa [upd] using e)), (by first | (simp [upd, p6, p5]; done) | simpa [upd, p6, p5] using ho0), (by first | (simp [upd, p6, p5]; done) | simpa [upd, p6, p5] using ho1), (by first | (simp [upd, p6, p5]; done) | simpa [upd, p6, p5] using ho2)⟩
    · -- 9: Op.assign (Operand.tmp 75)
      have p7 : l 7 = true := hpre _ rfl ⟨7, .data⟩ (by simp) rfl
      have p5 : l 5 = true := hpre _ rfl ⟨5, .chain⟩ (by simp) rfl
      have p0 : l 0 = true := hpre _ rfl ⟨0, .phase⟩ (by simp) rfl
      have p1 : l 1 = true := hpre _ rfl ⟨1, .phase⟩ (by simp) rfl
      have p2 : l 2 = true := hpre _ rfl ⟨2, .phase⟩ (by simp) rfl
      have p3 : l 3 = true := hpre _ rfl ⟨3, .phase⟩ (by simp) rfl
      have p4 : l 4 = true := hpre _ rfl ⟨4, .phase⟩ (by simp) rfl
      have p6 : l 6 = true := hpre _ rfl ⟨6, .phase⟩ (by simp) rfl
      refine wpOp_step rfl (fun K hK => ?_)
      simp only [p7, p5, p0, p1, p2, p3, p4, p6, cond_true, cond_false]
      clear hpre
      rw [if_pos (by rfl)]
      go_simp
      exact hK _ _ ⟨A7, c7, by simp [upd, Act.put, p7, p5, p0, p1, p2, p3, p4, p6], hB, (fun e => hf0 (by simpa [upd] using e)), (by first | (simp [upd, p7, p5, p0, p1, p2, p3, p4, p6]; done) | simpa [upd, p7, p5, p0, p1, p2, p3, p4, p6] using ho0), (by first | (simp [upd, p7, p5, p0, p1, p2, p3, p4, p6]; done) | simpa [upd, p7, p5, p0, p1, p2, p3, p4, p6] using ho1), (by first | (simp [upd, p7, p5, p0, p1, p2, p3, p4, p6]; done) | simpa [upd, p7, p5, p0, p1, p2, p3, p4, p6] using ho2)⟩
    · -- 10: Op.assign (Operand.tmp 76)
      have p8 : l 8 = true := hpre _ rfl ⟨8, .data⟩ (by simp) rfl
      have p9 : l 9 = true := hpre _ rfl ⟨9, .chain⟩ (by simp) rfl
      have p0 : l 0 = true := hpre _ rfl ⟨0, .phase⟩ (by simp) rfl
      have p1 : l 1 = true := hpre _ rfl ⟨1, .phase⟩ (by simp) rfl
      have p2 : l 2 = true := hpre _ rfl ⟨2, .phase⟩ (by simp) rfl
      have p3 : l 3 = true := hpre _ rfl ⟨3, .phase⟩ (by simp) rfl
      have p4 : l 4 = true := hpre _ rfl ⟨4, .phase⟩ (by simp) rfl
      have p5 : l 5 = true := hpre _ rfl ⟨5, .phase⟩ (by simp) rfl
      have p6 : l 6 = true := hpre _ rfl ⟨6, .phase⟩ (by simp) rfl
      have p7 : l 7 = true := hpre _ rfl ⟨7, .phase⟩ (by simp) rfl
      refine wpOp_step rfl (fun K hK => ?_)
      simp only [p8, p9, p0, p1, p2, p3, p4, p5, p6, p7, cond_true, cond_false]
      clear hpre
      rw [if_pos (by rfl)]
      go_simp
      exact hK _ _ ⟨A7, c7, by simp [upd, Act.put, p8, p9, p0, p1, p2, p3, p4, p5, p6, p7], hB, (fun e => hf0 (by simpa [upd] using e)), (by first | (simp [upd, p8, p9, p0, p1, p2, p3, p4, p5, p6, p7]; done) | simpa [upd, p8, p9, p0, p1, p2, p3, p4, p5, p6, p7] using ho0), (by first | (simp [upd, p8, p9, p0, p1, p2, p3, p4, p5, p6, p7]; done) | simpa [upd, p8, p9, p0, p1, p2, p3, p4, p5, p6, p7] using ho1), (by first | (simp [upd, p8, p9, p0, p1, p2, p3, p4, p5, p6, p7]; done) | simpa [upd, p8, p9, p0, p1, p2, p3, p4, p5, p6, p7] using ho2)⟩
  · rintro l a w9 hall ⟨A7, c7, rfl, hBz, hf0, _, _, _⟩
    simp only [hall 0 (by decide), hall 1 (by decide), hall 2 (by decide), hall 3 (by decide), hall 4 (by decide), hall 5 (by decide), hall 6 (by decide), hall 7 (by decide), hall 8 (by decide), hall 9 (by decide), hall 10 (by decide), cond_true]
    replace hf0 := hf0 (hall 5 (by decide))
    clear hall
    have B9 := Lib.hid (B5.out.trans (hBz.mono (by have := S5.out; omega)))
    have Y9 : Hid (Byt w9 A3 n c3 s) := Lib.hid (Y5.out.keep hBz)
    have Z9 := Lib.hid hf0
    have S9 : Hid (N ≤ w9.heap.size) := Lib.hid (by have := S5.out; have := hBz.size; omega)
    have U1 : Hid (∀ w', Below w9.heap.size w9 w' → (convert 26 9 (.slice A7 q c7)).run Try.prog w' = .ok (.string (bst q s)) w') := Lib.hid (fun w' h => conv_byt (hf0.keep h))
    have U2 : Hid (∀ w', Below w9.heap.size w9 w' → (convert 26 9 (.slice A3 q c3)).run Try.prog w' = .ok (.string (bst q s)) w') := Lib.hid (fun w' h => conv_byt (byt_take (Y9.out.keep h) HQ.out))
    obtain ⟨su, hsu⟩ : ∃ su, su = bst q s := ⟨_, rfl⟩
    rw [← hsu] at U1 U2
    clear hsu hBz hf0
    go_wp2_with fail
    refine wp_region_inv (by kernel_rfl) (by kernel_rfl) (fun l a w' => a = { tmps := #[Value.agg (kl X Y).toArray, Value.int .u64 (t : Int), Value.slice A n c, Value.int .i64 (q : Int), Value.pointer (some ⟨N, 0, none⟩), undef, undef, undef, bif l 14 then Value.bool true else Value.bool false, Value.bool true, Value.slice A3 n c3, Value.int .i64 (0 : Int), Value.slice A5 n c5, Value.int .i64 (0 : Int), Value.slice A7 q c7, Value.int .i64 (0 : Int), Value.bool true, Value.tuple #[Value.slice A3 n c3, Value.int IntKind.i64 0], Value.agg (kl X Y).toArray, Value.int .u64 (t : Int), Value.slice A n c, Value.tuple #[Value.slice A3 n c3, Value.int IntKind.i64 0], Value.slice A3 n c3, Value.int .i64 (0 : Int), Value.slice A n c, Value.int .i64 (n : Int), Value.bool false, undef, undef, undef, undef, undef, Value.tuple #[Value.slice A5 n c5, Value.int IntKind.i64 0], Value.agg (kl X Y).toArray, Value.int .u64 (t : Int), Value.slice A3 n c3, Value.tuple #[Value.slice A5 n c5, Value.int IntKind.i64 0], Value.slice A5 n c5, Value.int .i64 (0 : Int), Value.int .i64 (0 : Int), Value.bool false, Value.bool false, Value.int .i64 (0 : Int), Value.bool false, Value.bool false, Value.bool false, Value.slice A3 n c3, Value.int .i64 (n : Int), Value.slice A n c, Value.int .i64 (n : Int), Value.bool false, Value.bool false, Value.bool false, Value.slice A5 n c5, Value.string st, Value.slice A n c, Value.string st, Value.bool false, Value.bool false, Value.int .i64 (q : Int), Value.bool false, Value.bool false, Value.int .i64 (q : Int), Value.slice A n c, Value.int .i64 (n : Int), Value.bool false, Value.bool false, undef, Value.tuple #[Value.slice A7 q c7, Value.int IntKind.i64 0], Value.agg (kl X Y).toArray, Value.int .u64 (t : Int), Value.slice A n c, Value.int .i64 (q : Int), Value.slice A q c, Value.tuple #[Value.slice A7 q c7, Value.int IntKind.i64 0], Value.slice A7 q c7, Value.int .i64 (0 : Int), bif l 0 then Value.bool true else undef, bif l 1 then Value.bool true else undef, bif l 2 then Value.int .i64 (0 : Int) else undef, bif l 3 then Value.bool true else undef, bif l 4 then Value.bool true else undef, bif l 5 then Value.bool true else undef, bif l 6 then Value.slice A7 q c7 else undef, bif l 7 then Value.string su else undef, bif l 8 then Value.slice A3 n c3 else undef, bif l 9 then Value.int .i64 (q : Int) else undef, bif l 10 then Value.slice A3 q c3 else undef, bif l 11 then Value.string su else undef, bif l 12 then Value.bool true else undef, bif l 13 then Value.bool true else undef], defers := [] } ∧ Below w9.heap.size w9 w') ⟨rfl, (Below.refl _ _).drew⟩ ?_ ?_
    · rintro l a w' i ⟨rfl, hB⟩ hi hli hpre
      have hi2 : i < 15 := hi
      have hcase : i = 0 ∨ i = 1 ∨ i = 2 ∨ i = 3 ∨ i = 4 ∨ i = 5 ∨ i = 6 ∨ i = 7 ∨ i = 8 ∨ i = 9 ∨ i = 10 ∨ i = 11 ∨ i = 12 ∨ i = 13 ∨ i = 14 := by omega
      clear hi hi2
      rcases hcase with rfl | rfl | rfl | rfl | rfl | rfl | rfl | rfl | rfl | rfl | rfl | rfl | rfl | rfl | rfl
      · -- 0: Op.move (Operand.tmp 9)
        refine wpOp_step rfl (fun K hK => ?_)
        clear hpre
        rw [if_pos (by rfl)]
        go_simp
        exact hK _ _ ⟨by simp [upd, Act.put], hB⟩
      · -- 1: Op.move (Operand.tmp 77)
        have p0 : l 0 = true := hpre _ rfl ⟨0, .data⟩ (by simp) rfl
        refine wpOp_step rfl (fun K hK => ?_)
        simp only [p0, cond_true]
        clear hpre
        rw [if_pos (by rfl)]
        go_simp
        exact hK _ _ ⟨by simp [upd, Act.put, p0], hB⟩
      · -- 2: Op.move (Operand.tmp 15)
        have p1 : l 1 = true := hpre _ rfl ⟨1, .guard⟩ (by simp) rfl
        refine wpOp_step rfl (fun K hK => ?_)
        simp only [p1, cond_true]
        clear hpre
        rw [if_pos (by rfl)]
        go_simp
        exact hK _ _ ⟨by simp [upd, Act.put, p1], hB⟩
      · -- 3: Op.binOp BinOp.eql 27 (Operand.tmp 79) (Operand.const (Value
        have p2 : l 2 = true := hpre _ rfl ⟨2, .data⟩ (by simp) rfl
        have p1 : l 1 = true := hpre _ rfl ⟨1, .guard⟩ (by simp) rfl
        refine wpOp_step rfl (fun K hK => ?_)
        simp only [p2, p1, cond_true]
        clear hpre
        rw [if_pos (by rfl)]
        go_simp
        exact hK _ _ ⟨by simp [upd, Act.put, p2, p1], hB⟩
      · -- 4: Op.pick (Operand.tmp 78) (Operand.tmp 80) (Operand.const (Va
        have p1 : l 1 = true := hpre _ rfl ⟨1, .data⟩ (by simp) rfl
        have p3 : l 3 = true := hpre _ rfl ⟨3, .data⟩ (by simp) rfl
        refine wpOp_step rfl (fun K hK => ?_)
        simp only [p1, p3, cond_true]
        clear hpre
        rw [if_pos (by rfl)]
        go_simp
        exact hK _ _ ⟨by simp [upd, Act.put, p1, p3], hB⟩
      · -- 5: Op.move (Operand.tmp 81)
        have p4 : l 4 = true := hpre _ rfl ⟨4, .data⟩ (by simp) rfl
        have p1 : l 1 = true := hpre _ rfl ⟨1, .chain⟩ (by simp) rfl
        refine wpOp_step rfl (fun K hK => ?_)
        simp only [p4, p1, cond_true]
        clear hpre
        rw [if_pos (by rfl)]
        go_simp
        exact hK _ _ ⟨by simp [upd, Act.put, p4, p1], hB⟩
      · -- 6: Op.move (Operand.tmp 14)
        have p5 : l 5 = true := hpre _ rfl ⟨5, .guard⟩ (by simp) rfl
        refine wpOp_step rfl (fun K hK => ?_)
        simp only [p5, cond_true]
        clear hpre
        rw [if_pos (by rfl)]
        go_simp
        exact hK _ _ ⟨by simp [upd, Act.put, p5], hB⟩
      · -- 7: Op.convert 26 9 (Operand.tmp 83)
        have p6 : l 6 = true := hpre _ rfl ⟨6, .data⟩ (by simp) rfl
        have p5 : l 5 = true := hpre _ rfl ⟨5, .guard⟩ (by simp) rfl
        refine wpOp_step rfl (fun K hK => ?_)
        simp only [p6, p5, cond_true]
        clear hpre
        rw [if_pos (by rfl)]
        have u1 := U1.out w' hB
        go_simp
        exact hK _ _ ⟨by simp [upd, Act.put, p6, p5], hB⟩
      · -- 8: Op.move (Operand.tmp 10)
        have p5 : l 5 = true := hpre _ rfl ⟨5, .guard⟩ (by simp) rfl
        refine wpOp_step rfl (fun K hK => ?_)
        simp only [p5, cond_true]
        clear hpre
        rw [if_pos (by rfl)]
        go_simp
        exact hK _ _ ⟨by simp [upd, Act.put, p5], hB⟩
      · -- 9: Op.move (Operand.tmp 3)
        have p5 : l 5 = true := hpre _ rfl ⟨5, .guard⟩ (by simp) rfl
        refine wpOp_step rfl (fun K hK => ?_)
        simp only [p5, cond_true]
        clear hpre
        rw [if_pos (by rfl)]
        go_simp
        exact hK _ _ ⟨by simp [upd, Act.put, p5], hB⟩
      · -- 10: Op.slice 26 (Operand.tmp 85) none (some (Operand.tmp 86)) no
        have p8 : l 8 = true := hpre _ rfl ⟨8, .data⟩ (by simp) rfl
        have p9 : l 9 = true := hpre _ rfl ⟨9, .data⟩ (by simp) rfl
        have p5 : l 5 = true := hpre _ rfl ⟨5, .guard⟩ (by simp) rfl
        refine wpOp_step rfl (fun K hK => ?_)
        simp only [p8, p9, p5, cond_true]
        clear hpre
        rw [if_pos (by rfl)]
        have l1 : (0 : Int) ≤ (q : Int) := by omega
        have l2 : (q : Int) ≤ (n : Int) := by have := HQ.out; omega
        have l3 : (q : Int) ≤ (c3 : Int) := by have := HQ.out; have := Y9.out.le; omega
        have l4 := slice_head A3 n c3 q w' (by omega)
        go_simp
        exact hK _ _ ⟨by simp [upd, Act.put, p8, p9, p5], hB⟩
      · -- 11: Op.convert 26 9 (Operand.tmp 87)
        have p10 : l 10 = true := hpre _ rfl ⟨10, .data⟩ (by simp) rfl
        have p5 : l 5 = true := hpre _ rfl ⟨5, .guard⟩ (by simp) rfl
        refine wpOp_step rfl (fun K hK => ?_)
        simp only [p10, p5, cond_true]
        clear hpre
        rw [if_pos (by rfl)]
        have u2 := U2.out w' hB
        go_simp
        exact hK _ _ ⟨by simp [upd, Act.put, p10, p5], hB⟩
      · -- 12: Op.binOp BinOp.eql 9 (Operand.tmp 84) (Operand.tmp 88) 9
        have p7 : l 7 = true := hpre _ rfl ⟨7, .data⟩ (by simp) rfl
        have p11 : l 11 = true := hpre _ rfl ⟨11, .data⟩ (by simp) rfl
        have p5 : l 5 = true := hpre _ rfl ⟨5, .guard⟩ (by simp) rfl
        refine wpOp_step rfl (fun K hK => ?_)
        simp only [p7, p11, p5, cond_true]
        clear hpre
        rw [if_pos (by rfl)]
        go_simp
        exact hK _ _ ⟨by simp [upd, Act.put, p7, p11, p5], hB⟩
      · -- 13: Op.pick (Operand.tmp 82) (Operand.tmp 89) (Operand.const (Va
        have p5 : l 5 = true := hpre _ rfl ⟨5, .data⟩ (by simp) rfl
        have p12 : l 12 = true := hpre _ rfl ⟨12, .data⟩ (by simp) rfl
        refine wpOp_step rfl (fun K hK => ?_)
        simp only [p5, p12, cond_true]
        clear hpre
        rw [if_pos (by rfl)]
        go_simp
        exact hK _ _ ⟨by simp [upd, Act.put, p5, p12], hB⟩
      · -- 14: Op.assign (Operand.tmp 90)
        have p13 : l 13 = true := hpre _ rfl ⟨13, .data⟩ (by simp) rfl
        have p5 : l 5 = true := hpre _ rfl ⟨5, .chain⟩ (by simp) rfl
        have p0 : l 0 = true := hpre _ rfl ⟨0, .phase⟩ (by simp) rfl
        have p1 : l 1 = true := hpre _ rfl ⟨1, .phase⟩ (by simp) rfl
        have p2 : l 2 = true := hpre _ rfl ⟨2, .phase⟩ (by simp) rfl
        have p3 : l 3 = true := hpre _ rfl ⟨3, .phase⟩ (by simp) rfl
        have p4 : l 4 = true := hpre _ rfl ⟨4, .phase⟩ (by simp) rfl
        have p6 : l 6 = true := hpre _ rfl ⟨6, .phase⟩ (by simp) rfl
        have p7 : l 7 = true := hpre _ rfl ⟨7, .phase⟩ (by simp) rfl
        have p8 : l 8 = true := hpre _ rfl ⟨8, .phase⟩ (by simp) rfl
        have p9 : l 9 = true := hpre _ rfl ⟨9, .phase⟩ (by simp) rfl
        have p10 : l 10 = true := hpre _ rfl ⟨10, .phase⟩ (by simp) rfl
        have p11 : l 11 = true := hpre _ rfl ⟨11, .phase⟩ (by simp) rfl
        have p12 : l 12 = true := hpre _ rfl ⟨12, .phase⟩ (by simp) rfl
        refine wpOp_step rfl (fun K hK => ?_)
        simp only [p13, p5, p0, p1, p2, p3, p4, p6, p7, p8, p9, p10, p11, p12, cond_true]
        clear hpre
        rw [if_pos (by rfl)]
        go_simp
        exact hK _ _ ⟨by simp [upd, Act.put, p13, p5, p0, p1, p2, p3, p4, p6, p7, p8, p9, p10, p11, p12], hB⟩
    · rintro l a w9' hall ⟨rfl, hBz⟩
      simp only [hall 0 (by decide), hall 1 (by decide), hall 2 (by decide), hall 3 (by decide), hall 4 (by decide), hall 5 (by decide), hall 6 (by decide), hall 7 (by decide), hall 8 (by decide), hall 9 (by decide), hall 10 (by decide), hall 11 (by decide), hall 12 (by decide), hall 13 (by decide), hall 14 (by decide), cond_true]
      clear hall
      go_wp2_with fail
      go_ret
      exact ⟨rfl, by rw [← HN.out]; exact B9.out.trans (hBz.mono S9.out)⟩

theorem walk (X Y : Nat) (hX : X < M) (hY : Y < M) (a : Int) (wa : (Lit.int .u64 a).wf = true) (A : Option Addr) (n c : Nat) (g : Nat → Nat) (w0 : World) (hb : Byt w0 A n c g) (m : Int) (wm : (Lit.int .i64 m).wf = true) :
    Calls Try.prog 13 #[.agg (kl X Y).toArray, .int .u64 a, .slice A n c, .int .i64 m] w0 fun e w' => e = .returned (.bool true) ∧ Below w0.heap.size w0 w' := by
  have ba := bounds_u64 wa
  obtain ⟨t, rfl⟩ := Int.eq_ofNat_of_zero_le ba.1
  have ht : t < M := by unfold M; omega
  by_cases h1 : 16384 < n
  · exact walk_big X Y t A n c m w0 h1
  · exact walk_yes X Y t hX hY ht A n c g m w0 hb (by omega)
end Go.Proofs.Ytphhppdokdageaa.cipherTwice
