/- The walk over CipherMask. -/
import Derived.Test.YtphhppdokdageaaStrC
import Derived.Test.YtphhppdokdageaaAlv
import Derived.Test.YtphhppdokdageaaTxtE
import Derived.Test.YtphhppdokdageaaLawB
namespace Go.Proofs.Ytphhppdokdageaa.cipherMask
open Go.RowKit SP
set_option linter.unusedVariables false
set_option linter.unusedSimpArgs false

theorem xor4 (a b m : Nat) : (a ^^^ m) ^^^ (b ^^^ m) = a ^^^ b := by
  rw [Nat.xor_comm b m, Nat.xor_assoc, ← Nat.xor_assoc m m b, Nat.xor_self, Nat.zero_xor]
theorem xor3 (a m : Nat) : (a ^^^ m) ^^^ a = m := by rw [Nat.xor_comm a m, Nat.xor_assoc, Nat.xor_self, Nat.xor_zero]
/-- The bytes of the block of a counter and a number, as far as they are stored. -/
def dby (c t i j : Nat) : Nat := if j = 0 then 1 else if 8 - min i 4 ≤ j ∧ j < 8 then c / 256 ^ (7 - j) % 256 else if 16 - (i - 4) ≤ j then t / 256 ^ (15 - j) % 256 else 0
theorem dby_all (c t : Nat) (hc : c < 4294967296) (j : Nat) (hj : j < 16) : dby c t 12 j = kby (72057594037927936 + c) t j := by
  unfold dby kby
  have h16 : j = 0 ∨ j = 1 ∨ j = 2 ∨ j = 3 ∨ j = 4 ∨ j = 5 ∨ j = 6 ∨ j = 7 ∨ j = 8 ∨ j = 9 ∨ j = 10 ∨ j = 11 ∨ j = 12 ∨ j = 13 ∨ j = 14 ∨ j = 15 := by omega
  rcases h16 with rfl | rfl | rfl | rfl | rfl | rfl | rfl | rfl | rfl | rfl | rfl | rfl | rfl | rfl | rfl | rfl <;> simp <;> omega

theorem d1_key : (kl 72057594037927936 0).toArray = #[Value.int .u8 1, Value.int .u8 0, Value.int .u8 0, Value.int .u8 0, Value.int .u8 0, Value.int .u8 0, Value.int .u8 0, Value.int .u8 0, Value.int .u8 0, Value.int .u8 0, Value.int .u8 0, Value.int .u8 0, Value.int .u8 0, Value.int .u8 0, Value.int .u8 0, Value.int .u8 0] := by kernel_rfl
theorem dby_start (p t j : Nat) (hj : j < 16) : kby 72057594037927936 0 j = dby p t (0 + 0) j := by
  unfold dby kby
  have h16 : j = 0 ∨ j = 1 ∨ j = 2 ∨ j = 3 ∨ j = 4 ∨ j = 5 ∨ j = 6 ∨ j = 7 ∨ j = 8 ∨ j = 9 ∨ j = 10 ∨ j = 11 ∨ j = 12 ∨ j = 13 ∨ j = 14 ∨ j = 15 := by omega
  rcases h16 with rfl | rfl | rfl | rfl | rfl | rfl | rfl | rfl | rfl | rfl | rfl | rfl | rfl | rfl | rfl | rfl <;> simp

theorem row_val {w : World} {a : Addr} {b : Nat} {f : Nat → Nat} {v v' : Int} (e : v = v') (h : Row (w.setCell a (.int .u8 v)) b f) : Row (w.setCell a (.int .u8 v')) b f := by rw [← e]; exact h

theorem agg_index (P Q r : Nat) (hr : r < 16) (w : World) : (Instr.index 23 (.agg (kl P Q).toArray) (.int .i64 (r : Int))).run Try.prog w = .ok (.int .u8 (kby P Q r : Int)) w := by
  have hg := kl_get P Q r hr
  have hs : (kl P Q).toArray.size = 16 := by simp [kl_len]
  simp only [Instr.index, asIntOf, Sem.run_bind, Sem.run_pure, run_underlying Try.underlying23 w, Result.andThen_ok]
  rw [if_pos ⟨Int.natCast_nonneg r, by omega⟩]
  have e : (sizeOf 5).run Try.prog w = .ok 1 w := by kernel_rfl
  simp only [Sem.run_bind, e, Result.andThen_ok, Int.toNat_natCast, Nat.mul_one]
  exact run_part_plain w (by kernel_rfl) (by simpa using hg)

set_option maxRecDepth 100000 in
set_option maxHeartbeats 1000000 in
theorem walk_big (X Y t : Nat) (A B : Option Addr) (n c n2 c2 : Nat) (m : Int) (w : World) (hn : 16384 < n) :
    Calls Try.prog 14 #[.agg (kl X Y).toArray, .int .u64 (t : Int), .slice A n c, .slice B n2 c2, .int .i64 m] w fun e w' => e = .returned (.bool true) ∧ Below w.heap.size w w' := by
  have HAl := Lib.hid (fun w => alive_any w)
  obtain ⟨N, hN⟩ : ∃ N, N = w.heap.size := ⟨_, rfl⟩
  obtain ⟨W1, hW1⟩ : ∃ W1, W1 = w.alloc (.cells (kl X Y).toArray 23) := ⟨_, rfl⟩
  have HB : Hid (Below N w W1) := Lib.hid (by rw [hW1, hN]; exact (Below.refl _ _).alloc (Nat.le_refl _) _)
  have HL : Hid (W1.heap.size = N + 1) := Lib.hid (by rw [hW1, hN]; simp)
  have HK : Hid (KeyAt W1 N X Y) := Lib.hid (by rw [hW1, hN]; exact KeyAt.new w X Y 23)
  have HW := Lib.hid hW1
  have HN := Lib.hid hN
  clear hW1 hN
  have d1 : decide ((16384 : Int) < (n : Int)) = true := decide_eq_true (by omega)
  have d2 : ((16384 : Int) < (n : Int)) := by omega
  go_enter Try.func14, Try.ntmps14
  go_wp2_with fail
  rw [← HW.out, ← HN.out]
  refine (HAl.out _).mono ?_
  rintro e w1 ⟨rfl, hb1⟩
  have K1 := Lib.hid (HK.out.keep hb1)
  have B1 := Lib.hid (HB.out.trans (hb1.mono (by rw [HL.out]; omega)))
  have S1 : Hid (N + 1 ≤ w1.heap.size) := Lib.hid (by rw [← HL.out]; exact hb1.size)
  clear hb1
  go_wp2_with fail
  go_ret
  exact ⟨rfl, by rw [← HN.out]; exact B1.out⟩

set_option maxRecDepth 100000 in
set_option maxHeartbeats 1000000 in
theorem walk_ne (X Y t : Nat) (A B : Option Addr) (n c n2 c2 : Nat) (m : Int) (w : World) (hn : n ≤ 16384) (hne : n2 ≠ n) :
    Calls Try.prog 14 #[.agg (kl X Y).toArray, .int .u64 (t : Int), .slice A n c, .slice B n2 c2, .int .i64 m] w fun e w' => e = .returned (.bool true) ∧ Below w.heap.size w w' := by
  have HAl := Lib.hid (fun w => alive_any w)
  obtain ⟨N, hN⟩ : ∃ N, N = w.heap.size := ⟨_, rfl⟩
  obtain ⟨W1, hW1⟩ : ∃ W1, W1 = w.alloc (.cells (kl X Y).toArray 23) := ⟨_, rfl⟩
  have HB : Hid (Below N w W1) := Lib.hid (by rw [hW1, hN]; exact (Below.refl _ _).alloc (Nat.le_refl _) _)
  have HL : Hid (W1.heap.size = N + 1) := Lib.hid (by rw [hW1, hN]; simp)
  have HK : Hid (KeyAt W1 N X Y) := Lib.hid (by rw [hW1, hN]; exact KeyAt.new w X Y 23)
  have HW := Lib.hid hW1
  have HN := Lib.hid hN
  clear hW1 hN
  have d1 : decide ((16384 : Int) < (n : Int)) = false := decide_eq_false (by omega)
  have d2 : ¬ ((16384 : Int) < (n : Int)) := by omega
  have d3 : ((n2 : Int) == (n : Int)) = false := by simp; omega
  have d4 : ((n2 : Int) != (n : Int)) = true := by simp; omega
  have d5 : ¬ ((n2 : Int) = (n : Int)) := by omega
  go_enter Try.func14, Try.ntmps14
  go_wp2_with fail
  rw [← HW.out, ← HN.out]
  refine (HAl.out _).mono ?_
  rintro e w1 ⟨rfl, hb1⟩
  have K1 := Lib.hid (HK.out.keep hb1)
  have B1 := Lib.hid (HB.out.trans (hb1.mono (by rw [HL.out]; omega)))
  have S1 : Hid (N + 1 ≤ w1.heap.size) := Lib.hid (by rw [← HL.out]; exact hb1.size)
  clear hb1
  go_wp2_with fail
  go_ret
  exact ⟨rfl, by rw [← HN.out]; exact B1.out⟩

set_option maxRecDepth 100000 in
set_option maxHeartbeats 1000000 in
theorem walk_neg (X Y t : Nat) (A B : Option Addr) (n c n2 c2 : Nat) (m : Int) (w : World) (hn : n ≤ 16384) (hne : n2 = n) (hm : m < 0) :
    Calls Try.prog 14 #[.agg (kl X Y).toArray, .int .u64 (t : Int), .slice A n c, .slice B n2 c2, .int .i64 m] w fun e w' => e = .returned (.bool true) ∧ Below w.heap.size w w' := by
  have HAl := Lib.hid (fun w => alive_any w)
  obtain ⟨N, hN⟩ : ∃ N, N = w.heap.size := ⟨_, rfl⟩
  obtain ⟨W1, hW1⟩ : ∃ W1, W1 = w.alloc (.cells (kl X Y).toArray 23) := ⟨_, rfl⟩
  have HB : Hid (Below N w W1) := Lib.hid (by rw [hW1, hN]; exact (Below.refl _ _).alloc (Nat.le_refl _) _)
  have HL : Hid (W1.heap.size = N + 1) := Lib.hid (by rw [hW1, hN]; simp)
  have HK : Hid (KeyAt W1 N X Y) := Lib.hid (by rw [hW1, hN]; exact KeyAt.new w X Y 23)
  have HW := Lib.hid hW1
  have HN := Lib.hid hN
  clear hW1 hN
  have d1 : decide ((16384 : Int) < (n : Int)) = false := decide_eq_false (by omega)
  have d2 : ¬ ((16384 : Int) < (n : Int)) := by omega
  subst hne
  have d3 : decide (m < 0) = true := decide_eq_true hm
  go_enter Try.func14, Try.ntmps14
  go_wp2_with fail
  rw [← HW.out, ← HN.out]
  refine (HAl.out _).mono ?_
  rintro e w1 ⟨rfl, hb1⟩
  have K1 := Lib.hid (HK.out.keep hb1)
  have B1 := Lib.hid (HB.out.trans (hb1.mono (by rw [HL.out]; omega)))
  have S1 : Hid (N + 1 ≤ w1.heap.size) := Lib.hid (by rw [← HL.out]; exact hb1.size)
  clear hb1
  go_wp2_with fail
  go_ret
  exact ⟨rfl, by rw [← HN.out]; exact B1.out⟩

set_option maxRecDepth 100000 in
set_option maxHeartbeats 1000000 in
theorem walk_far (X Y t : Nat) (A B : Option Addr) (n c n2 c2 : Nat) (m : Int) (w : World) (hn : n ≤ 16384) (hne : n2 = n) (hm : ¬ m < 0) (hf : (n : Int) ≤ m) :
    Calls Try.prog 14 #[.agg (kl X Y).toArray, .int .u64 (t : Int), .slice A n c, .slice B n2 c2, .int .i64 m] w fun e w' => e = .returned (.bool true) ∧ Below w.heap.size w w' := by
  have HAl := Lib.hid (fun w => alive_any w)
  obtain ⟨N, hN⟩ : ∃ N, N = w.heap.size := ⟨_, rfl⟩
  obtain ⟨W1, hW1⟩ : ∃ W1, W1 = w.alloc (.cells (kl X Y).toArray 23) := ⟨_, rfl⟩
  have HB : Hid (Below N w W1) := Lib.hid (by rw [hW1, hN]; exact (Below.refl _ _).alloc (Nat.le_refl _) _)
  have HL : Hid (W1.heap.size = N + 1) := Lib.hid (by rw [hW1, hN]; simp)
  have HK : Hid (KeyAt W1 N X Y) := Lib.hid (by rw [hW1, hN]; exact KeyAt.new w X Y 23)
  have HW := Lib.hid hW1
  have HN := Lib.hid hN
  clear hW1 hN
  have d1 : decide ((16384 : Int) < (n : Int)) = false := decide_eq_false (by omega)
  have d2 : ¬ ((16384 : Int) < (n : Int)) := by omega
  subst hne
  have d3 : decide (m < 0) = false := decide_eq_false hm
  have d4 : decide ((n2 : Int) ≤ m) = true := decide_eq_true hf
  go_enter Try.func14, Try.ntmps14
  go_wp2_with fail
  rw [← HW.out, ← HN.out]
  refine (HAl.out _).mono ?_
  rintro e w1 ⟨rfl, hb1⟩
  have K1 := Lib.hid (HK.out.keep hb1)
  have B1 := Lib.hid (HB.out.trans (hb1.mono (by rw [HL.out]; omega)))
  have S1 : Hid (N + 1 ≤ w1.heap.size) := Lib.hid (by rw [← HL.out]; exact hb1.size)
  clear hb1
  go_wp2_with fail
  go_ret
  exact ⟨rfl, by rw [← HN.out]; exact B1.out⟩

set_option maxRecDepth 100000 in
set_option maxHeartbeats 8000000 in
theorem walk_in (X Y t : Nat) (hX : X < M) (hY : Y < M) (ht : t < M) (b1 o1 b2 o2 n c c2 q : Nat) (g h : Nat → Nat) (w : World) (hb : Byt w (some ⟨b1, o1, none⟩) n c g) (hb2 : Byt w (some ⟨b2, o2, none⟩) n c2 h) (hn : n ≤ 16384) (hq : q < n) :
    Calls Try.prog 14 #[.agg (kl X Y).toArray, .int .u64 (t : Int), .slice (some ⟨b1, o1, none⟩) n c, .slice (some ⟨b2, o2, none⟩) n c2, .int .i64 (q : Int)] w fun e w' => e = .returned (.bool true) ∧ Below w.heap.size w w' := by
  have hcell : ∀ (W : World) (b o c : Nat) (f : Nat → Nat), Byt W (some ⟨b, o, none⟩) n c f → W.cell? ⟨b, o + q, none⟩ = some (.int .u8 (f q : Int)) := fun W b o c f hB => by
    obtain ⟨b', o', e, hc⟩ := hB.at_ (by omega)
    injection e with e
    injection e with e1 e2
    subst e1; subst e2
    exact hc q hq
  have C1 := Lib.hid (fun (w : World) (h : Byt w (some ⟨b1, o1, none⟩) n c g) => stream_byt X Y t _ n c g w hX hY ht h hn)
  have C2 := Lib.hid (fun (w : World) (h' : Byt w (some ⟨b2, o2, none⟩) n c2 h) => stream_byt X Y t _ n c2 h w hX hY ht h' hn)
  obtain ⟨p, hp⟩ : ∃ p, p = q / 16 := ⟨_, rfl⟩
  obtain ⟨r, hr⟩ : ∃ r, r = q % 16 := ⟨_, rfl⟩
  have hr16 : r < 16 := by omega
  have hp7 : p < 70000 := by omega
  have E1 : Hid ((q : Int) / 16 = (p : Int) ∧ (q : Int).tdiv 16 = (p : Int) ∧ (q : Int) % 16 = (r : Int) ∧ (q : Int).tmod 16 = (r : Int)) := Lib.hid ⟨by omega, by rw [Int.tdiv_eq_ediv_of_nonneg (by omega)]; omega, by omega, by rw [Int.tmod_eq_emod_of_nonneg (by omega)]; omega⟩
  have HE := Lib.hid (fun w => encrypt_any X Y (72057594037927936 + p) t w hX hY (by unfold M; omega) ht)
  have hmk : enc X Y (72057594037927936 + p) t = msk X Y t p := rfl
  obtain ⟨P, hP⟩ : ∃ P, P = (enc X Y (72057594037927936 + p) t).1 := ⟨_, rfl⟩
  obtain ⟨Q, hQ⟩ : ∃ Q, Q = (enc X Y (72057594037927936 + p) t).2 := ⟨_, rfl⟩
  rw [← hP, ← hQ] at HE
  have hix : ∀ w : World, (Instr.index 23 (.agg (kl P Q).toArray) (.int .i64 (r : Int))).run Try.prog w = .ok (.int .u8 (kby P Q r : Int)) w := fun w => agg_index P Q r hr16 w
  obtain ⟨mq, hmq⟩ : ∃ mq, mq = kby P Q r := ⟨_, rfl⟩
  have hms : mq = kby (msk X Y t (q / 16)).1 (msk X Y t (q / 16)).2 (q % 16) := by rw [hmq, hP, hQ, hmk, ← hp, ← hr]
  obtain ⟨gq, hgq⟩ : ∃ gq, gq = g q := ⟨_, rfl⟩
  obtain ⟨hq', hhq⟩ : ∃ hq', hq' = h q := ⟨_, rfl⟩
  obtain ⟨xq, hxq⟩ : ∃ xq, xq = smb X Y t g q := ⟨_, rfl⟩
  obtain ⟨yq, hyq⟩ : ∃ yq, yq = smb X Y t h q := ⟨_, rfl⟩
  have ex : xq = gq ^^^ mq := by rw [hxq, hgq, hms]; rfl
  have ey : yq = hq' ^^^ mq := by rw [hyq, hhq, hms]; rfl
  have lg : gq < 256 := by rw [hgq]; exact hb.lt q
  have lh : hq' < 256 := by rw [hhq]; exact hb2.lt q
  have lm : mq < 256 := by rw [hmq]; exact kby_lt _ _ _
  have lx : xq < 256 := by rw [ex]; exact xor_byte lg lm
  have ly : yq < 256 := by rw [ey]; exact xor_byte lh lm
  obtain ⟨u, hu⟩ : ∃ u, u = gq ^^^ hq' := ⟨_, rfl⟩
  have X1 : Hid (bits .xor .u8 (xq : Int) (yq : Int) = (u : Int)) := Lib.hid (by rw [xor8_int xq yq lx ly, ex, ey, xor4, hu])
  have X2 : Hid (bits .xor .u8 (gq : Int) (hq' : Int) = (u : Int)) := Lib.hid (by rw [xor8_int gq hq' lg lh, hu])
  have X3 : Hid (bits .xor .u8 (xq : Int) (gq : Int) = (mq : Int)) := Lib.hid (by rw [xor8_int xq gq lx lg, ex, xor3])
  have G1 := Lib.hid (fun (w : World) (h : Byt w (some ⟨b1, o1, none⟩) n c g) => hcell w b1 o1 c g h)
  have G2 := Lib.hid (fun (w : World) (h' : Byt w (some ⟨b2, o2, none⟩) n c2 h) => hcell w b2 o2 c2 h h')
  have G3 := Lib.hid (fun (w : World) (b o c : Nat) (h : Byt w (some ⟨b, o, none⟩) n c (smb X Y t g)) => hcell w b o c _ h)
  have G4 := Lib.hid (fun (w : World) (b o c : Nat) (h' : Byt w (some ⟨b, o, none⟩) n c (smb X Y t h)) => hcell w b o c _ h')
  rw [← hgq] at G1
  rw [← hhq] at G2
  rw [← hxq] at G3
  rw [← hyq] at G4
  rw [← hmq] at hix
  have HIx := Lib.hid hix
  have HTt := Lib.hid ht
  have HAl := Lib.hid (fun w => alive_any w)
  obtain ⟨N, hN⟩ : ∃ N, N = w.heap.size := ⟨_, rfl⟩
  obtain ⟨W1, hW1⟩ : ∃ W1, W1 = w.alloc (.cells (kl X Y).toArray 23) := ⟨_, rfl⟩
  have HB : Hid (Below N w W1) := Lib.hid (by rw [hW1, hN]; exact (Below.refl _ _).alloc (Nat.le_refl _) _)
  have HL : Hid (W1.heap.size = N + 1) := Lib.hid (by rw [hW1, hN]; simp)
  have HK : Hid (KeyAt W1 N X Y) := Lib.hid (by rw [hW1, hN]; exact KeyAt.new w X Y 23)
  have HW := Lib.hid hW1
  have HN := Lib.hid hN
  have HYw := Lib.hid hb
  have HZw := Lib.hid hb2
  have HQn := Lib.hid hq
  have hpos : 0 < n := by omega
  clear hW1 hN hX hY hb hb2 hp hr hmk hP hQ hix hmq hms hgq hhq hxq hyq ex ey lg lh lm lx ly hu hcell
  have d1 : decide ((16384 : Int) < (n : Int)) = false := decide_eq_false (by omega)
  have d2 : ¬ ((16384 : Int) < (n : Int)) := by omega
  have d3 : decide ((q : Int) < 0) = false := decide_eq_false (by omega)
  have d4 : decide ((n : Int) ≤ (q : Int)) = false := decide_eq_false (by omega)
  have d5 : decide (n ≤ q) = false := decide_eq_false (by omega)
  go_enter Try.func14, Try.ntmps14
  go_wp2_with fail
  rw [← HW.out, ← HN.out]
  refine (HAl.out _).mono ?_
  rintro e w1 ⟨rfl, hb1⟩
  have K1 := Lib.hid (HK.out.keep hb1)
  have B1 := Lib.hid (HB.out.trans (hb1.mono (by rw [HL.out]; omega)))
  have S1 : Hid (N + 1 ≤ w1.heap.size) := Lib.hid (by rw [← HL.out]; exact hb1.size)
  clear hb1
  have Y1 : Hid (Byt w1 (some ⟨b1, o1, none⟩) n c g) := Lib.hid (HYw.out.keep (by rw [← HN.out]; exact B1.out))
  go_wp2_with (refine wpList_load_key rfl _ rfl N rfl X Y K1.out ?_)
  refine (C1.out w1 Y1.out).mono ?_
  rintro e w3 ⟨A3, c3, rfl, hb3, hy3⟩
  obtain ⟨b3, o3, rfl, _⟩ := hy3.at_ hpos
  have B3 := Lib.hid (B1.out.trans (hb3.mono (by have := S1.out; omega)))
  have K3 := Lib.hid (K1.out.keep hb3)
  have S3 : Hid (N + 1 ≤ w3.heap.size) := Lib.hid (Nat.le_trans S1.out hb3.size)
  have Y3 := Lib.hid hy3
  have Z3 : Hid (Byt w3 (some ⟨b2, o2, none⟩) n c2 h) := Lib.hid (HZw.out.keep (by rw [← HN.out]; exact B3.out))
  clear hb3 hy3
  go_wp2_with (refine wpList_load_key rfl _ rfl N rfl X Y K3.out ?_)
  refine (C2.out w3 Z3.out).mono ?_
  rintro e w5 ⟨A5, c5, rfl, hb5, hy5⟩
  obtain ⟨b5, o5, rfl, _⟩ := hy5.at_ hpos
  have B5 := Lib.hid (B3.out.trans (hb5.mono (by have := S3.out; omega)))
  have K5 := Lib.hid (K3.out.keep hb5)
  have S5 : Hid (N + 1 ≤ w5.heap.size) := Lib.hid (Nat.le_trans S3.out hb5.size)
  have Y5 : Hid (Byt w5 (some ⟨b3, o3, none⟩) n c3 (smb X Y t g)) := Lib.hid (Y3.out.keep hb5)
  have Z5 := Lib.hid hy5
  have U5 : Hid (Byt w5 (some ⟨b1, o1, none⟩) n c g) := Lib.hid (HYw.out.keep (by rw [← HN.out]; exact B5.out))
  have V5 : Hid (Byt w5 (some ⟨b2, o2, none⟩) n c2 h) := Lib.hid (HZw.out.keep (by rw [← HN.out]; exact B5.out))
  clear hb5 hy5 B3 K3 S3 Y3 Z3 K1 B1 S1 Y1
  go_wp2_with fail
  refine wp_region_inv (by kernel_rfl) (by kernel_rfl) (fun l a w' => a = { tmps := #[Value.agg (kl X Y).toArray, Value.int .u64 (t : Int), Value.slice (some ⟨b1, o1, none⟩) n c, Value.slice (some ⟨b2, o2, none⟩) n c2, Value.int .i64 (q : Int), Value.pointer (some ⟨N, 0, none⟩), undef, undef, undef, undef, Value.bool false, Value.bool true, Value.slice (some ⟨b3, o3, none⟩) n c3, Value.int .i64 (0 : Int), Value.slice (some ⟨b5, o5, none⟩) n c5, Value.int .i64 (0 : Int), undef, undef, undef, Value.bool true, Value.slice (some ⟨b1, o1, none⟩) n c, Value.int .i64 (n : Int), Value.bool false, Value.bool false, Value.slice (some ⟨b2, o2, none⟩) n c2, Value.int .i64 (n : Int), Value.slice (some ⟨b1, o1, none⟩) n c, Value.int .i64 (n : Int), Value.bool false, Value.bool false, Value.bool false, Value.int .i64 (q : Int), Value.bool false, Value.bool false, Value.bool false, Value.int .i64 (q : Int), Value.slice (some ⟨b1, o1, none⟩) n c, Value.int .i64 (n : Int), Value.bool false, Value.bool false, undef, Value.tuple #[Value.slice (some ⟨b3, o3, none⟩) n c3, Value.int IntKind.i64 0], Value.agg (kl X Y).toArray, Value.int .u64 (t : Int), Value.slice (some ⟨b1, o1, none⟩) n c, Value.tuple #[Value.slice (some ⟨b3, o3, none⟩) n c3, Value.int IntKind.i64 0], Value.slice (some ⟨b3, o3, none⟩) n c3, Value.int .i64 (0 : Int), Value.tuple #[Value.slice (some ⟨b5, o5, none⟩) n c5, Value.int IntKind.i64 0], Value.agg (kl X Y).toArray, Value.int .u64 (t : Int), Value.slice (some ⟨b2, o2, none⟩) n c2, Value.tuple #[Value.slice (some ⟨b5, o5, none⟩) n c5, Value.int IntKind.i64 0], Value.slice (some ⟨b5, o5, none⟩) n c5, Value.int .i64 (0 : Int), bif l 0 then Value.int .i64 (0 : Int) else undef, bif l 1 then Value.bool false else undef, bif l 2 then Value.bool false else undef, bif l 3 then Value.int .i64 (0 : Int) else undef, bif l 4 then Value.bool false else undef, bif l 5 then Value.bool false else undef, bif l 6 then Value.bool false else undef, bif l 7 then Value.slice (some ⟨b3, o3, none⟩) n c3 else undef, bif l 8 then Value.int .i64 (n : Int) else undef, bif l 9 then Value.slice (some ⟨b1, o1, none⟩) n c else undef, bif l 10 then Value.int .i64 (n : Int) else undef, bif l 11 then Value.bool false else undef, bif l 12 then Value.bool false else undef, bif l 13 then Value.bool false else undef, bif l 14 then Value.slice (some ⟨b5, o5, none⟩) n c5 else undef, bif l 15 then Value.int .i64 (n : Int) else undef, bif l 16 then Value.slice (some ⟨b1, o1, none⟩) n c else undef, bif l 17 then Value.int .i64 (n : Int) else undef, bif l 18 then Value.bool false else undef, bif l 19 then Value.bool false else undef, bif l 20 then Value.bool false else undef, bif l 21 then Value.slice (some ⟨b3, o3, none⟩) n c3 else undef, bif l 22 then Value.int .i64 (q : Int) else undef, bif l 23 then Value.pointer (some ⟨b3, o3 + q, none⟩) else undef, bif l 24 then Value.int .u8 (xq : Int) else undef, bif l 25 then Value.slice (some ⟨b5, o5, none⟩) n c5 else undef, bif l 26 then Value.int .i64 (q : Int) else undef, bif l 27 then Value.pointer (some ⟨b5, o5 + q, none⟩) else undef, bif l 28 then Value.int .u8 (yq : Int) else undef, bif l 29 then Value.int .u8 (u : Int) else undef, bif l 30 then Value.slice (some ⟨b1, o1, none⟩) n c else undef, bif l 31 then Value.int .i64 (q : Int) else undef, bif l 32 then Value.pointer (some ⟨b1, o1 + q, none⟩) else undef, bif l 33 then Value.int .u8 (gq : Int) else undef, bif l 34 then Value.slice (some ⟨b2, o2, none⟩) n c2 else undef, bif l 35 then Value.int .i64 (q : Int) else undef, bif l 36 then Value.pointer (some ⟨b2, o2 + q, none⟩) else undef, bif l 37 then Value.int .u8 (hq' : Int) else undef, bif l 38 then Value.int .u8 (u : Int) else undef, bif l 39 then Value.bool false else undef, bif l 40 then Value.bool false else undef, undef, undef, undef, undef, undef, undef, undef, undef, undef, undef, undef, undef, undef, undef, undef, undef, undef, undef, undef, undef, undef, undef, undef, undef, undef, undef, undef, undef, undef, undef, undef, undef, undef, undef, undef, undef, undef, undef, undef, undef, undef, undef, undef, undef, undef], defers := [] } ∧ Below w5.heap.size w5 w') ⟨rfl, (Below.refl _ _).drew⟩ ?_ ?_
  · rintro l a w' i ⟨rfl, hB⟩ hi hli hpre
    have hi2 : i < 41 := hi
    have hcase : i = 0 ∨ i = 1 ∨ i = 2 ∨ i = 3 ∨ i = 4 ∨ i = 5 ∨ i = 6 ∨ i = 7 ∨ i = 8 ∨ i = 9 ∨ i = 10 ∨ i = 11 ∨ i = 12 ∨ i = 13 ∨ i = 14 ∨ i = 15 ∨ i = 16 ∨ i = 17 ∨ i = 18 ∨ i = 19 ∨ i = 20 ∨ i = 21 ∨ i = 22 ∨ i = 23 ∨ i = 24 ∨ i = 25 ∨ i = 26 ∨ i = 27 ∨ i = 28 ∨ i = 29 ∨ i = 30 ∨ i = 31 ∨ i = 32 ∨ i = 33 ∨ i = 34 ∨ i = 35 ∨ i = 36 ∨ i = 37 ∨ i = 38 ∨ i = 39 ∨ i = 40 := by omega
    clear hi hi2
    rcases hcase with rfl | rfl | rfl | rfl | rfl | rfl | rfl | rfl | rfl | rfl | rfl | rfl | rfl | rfl | rfl | rfl | rfl | rfl | rfl | rfl | rfl | rfl | rfl | rfl | rfl | rfl | rfl | rfl | rfl | rfl | rfl | rfl | rfl | rfl | rfl | rfl | rfl | rfl | rfl | rfl | rfl
    · -- 0: Op.move (Operand.tmp 13)
      refine wpOp_step rfl (fun K hK => ?_)
      clear hpre
      rw [if_pos (by rfl)]
      go_simp
      exact hK _ _ ⟨by simp [upd, Act.put], hB⟩
    · -- 1: Op.binOp BinOp.neq 27 (Operand.tmp 55) (Operand.const (Value
      have p0 : l 0 = true := hpre _ rfl ⟨0, .data⟩ (by simp) rfl
      refine wpOp_step rfl (fun K hK => ?_)
      simp only [p0, cond_true]
      clear hpre
      rw [if_pos (by rfl)]
      go_simp
      exact hK _ _ ⟨by simp [upd, Act.put, p0], hB⟩
    · -- 2: Op.move (Operand.tmp 56)
      have p1 : l 1 = true := hpre _ rfl ⟨1, .data⟩ (by simp) rfl
      refine wpOp_step rfl (fun K hK => ?_)
      simp only [p1, cond_true]
      clear hpre
      rw [if_pos (by rfl)]
      go_simp
      exact hK _ _ ⟨by simp [upd, Act.put, p1], hB⟩
    · -- 3: Op.move (Operand.tmp 15)
      have p2 : l 2 = true := hpre _ rfl ⟨2, .guard⟩ (by simp) rfl
      refine wpOp_step rfl (fun K hK => ?_)
      simp only [p2, cond_true]
      clear hpre
      rw [if_pos (by rfl)]
      go_simp
      exact hK _ _ ⟨by simp [upd, Act.put, p2], hB⟩
    · -- 4: Op.binOp BinOp.neq 27 (Operand.tmp 58) (Operand.const (Value
      have p3 : l 3 = true := hpre _ rfl ⟨3, .data⟩ (by simp) rfl
      have p2 : l 2 = true := hpre _ rfl ⟨2, .guard⟩ (by simp) rfl
      refine wpOp_step rfl (fun K hK => ?_)
      simp only [p3, p2, cond_true]
      clear hpre
      rw [if_pos (by rfl)]
      go_simp
      exact hK _ _ ⟨by simp [upd, Act.put, p3, p2], hB⟩
    · -- 5: Op.pick (Operand.tmp 57) (Operand.const (Value.bool true)) (
      have p2 : l 2 = true := hpre _ rfl ⟨2, .data⟩ (by simp) rfl
      have p4 : l 4 = true := hpre _ rfl ⟨4, .data⟩ (by simp) rfl
      refine wpOp_step rfl (fun K hK => ?_)
      simp only [p2, p4, cond_true]
      clear hpre
      rw [if_pos (by rfl)]
      go_simp
      exact hK _ _ ⟨by simp [upd, Act.put, p2, p4], hB⟩
    · -- 6: Op.move (Operand.tmp 60)
      have p5 : l 5 = true := hpre _ rfl ⟨5, .data⟩ (by simp) rfl
      have p2 : l 2 = true := hpre _ rfl ⟨2, .chain⟩ (by simp) rfl
      refine wpOp_step rfl (fun K hK => ?_)
      simp only [p5, p2, cond_true]
      clear hpre
      rw [if_pos (by rfl)]
      go_simp
      exact hK _ _ ⟨by simp [upd, Act.put, p5, p2], hB⟩
    · -- 7: Op.move (Operand.tmp 12)
      have p6 : l 6 = true := hpre _ rfl ⟨6, .guard⟩ (by simp) rfl
      refine wpOp_step rfl (fun K hK => ?_)
      simp only [p6, cond_true]
      clear hpre
      rw [if_pos (by rfl)]
      go_simp
      exact hK _ _ ⟨by simp [upd, Act.put, p6], hB⟩
    · -- 8: Op.call { callee := Callee.builtin Builtin.len, args := #[Op
      have p7 : l 7 = true := hpre _ rfl ⟨7, .data⟩ (by simp) rfl
      have p6 : l 6 = true := hpre _ rfl ⟨6, .guard⟩ (by simp) rfl
      refine wpOp_step rfl (fun K hK => ?_)
      simp only [p7, p6, cond_true]
      clear hpre
      rw [if_pos (by rfl)]
      go_simp
      exact hK _ _ ⟨by simp [upd, Act.put, p7, p6], hB⟩
    · -- 9: Op.move (Operand.tmp 2)
      have p6 : l 6 = true := hpre _ rfl ⟨6, .guard⟩ (by simp) rfl
      refine wpOp_step rfl (fun K hK => ?_)
      simp only [p6, cond_true]
      clear hpre
      rw [if_pos (by rfl)]
      go_simp
      exact hK _ _ ⟨by simp [upd, Act.put, p6], hB⟩
    · -- 10: Op.call { callee := Callee.builtin Builtin.len, args := #[Op
      have p9 : l 9 = true := hpre _ rfl ⟨9, .data⟩ (by simp) rfl
      have p6 : l 6 = true := hpre _ rfl ⟨6, .guard⟩ (by simp) rfl
      refine wpOp_step rfl (fun K hK => ?_)
      simp only [p9, p6, cond_true]
      clear hpre
      rw [if_pos (by rfl)]
      go_simp
      exact hK _ _ ⟨by simp [upd, Act.put, p9, p6], hB⟩
    · -- 11: Op.binOp BinOp.neq 3 (Operand.tmp 63) (Operand.tmp 65) 3
      have p8 : l 8 = true := hpre _ rfl ⟨8, .data⟩ (by simp) rfl
      have p10 : l 10 = true := hpre _ rfl ⟨10, .data⟩ (by simp) rfl
      have p6 : l 6 = true := hpre _ rfl ⟨6, .guard⟩ (by simp) rfl
      refine wpOp_step rfl (fun K hK => ?_)
      simp only [p8, p10, p6, cond_true]
      clear hpre
      rw [if_pos (by rfl)]
      go_simp
      exact hK _ _ ⟨by simp [upd, Act.put, p8, p10, p6], hB⟩
    · -- 12: Op.pick (Operand.tmp 61) (Operand.const (Value.bool true)) (
      have p6 : l 6 = true := hpre _ rfl ⟨6, .data⟩ (by simp) rfl
      have p11 : l 11 = true := hpre _ rfl ⟨11, .data⟩ (by simp) rfl
      refine wpOp_step rfl (fun K hK => ?_)
      simp only [p6, p11, cond_true]
      clear hpre
      rw [if_pos (by rfl)]
      go_simp
      exact hK _ _ ⟨by simp [upd, Act.put, p6, p11], hB⟩
    · -- 13: Op.move (Operand.tmp 67)
      have p12 : l 12 = true := hpre _ rfl ⟨12, .data⟩ (by simp) rfl
      have p6 : l 6 = true := hpre _ rfl ⟨6, .chain⟩ (by simp) rfl
      refine wpOp_step rfl (fun K hK => ?_)
      simp only [p12, p6, cond_true]
      clear hpre
      rw [if_pos (by rfl)]
      go_simp
      exact hK _ _ ⟨by simp [upd, Act.put, p12, p6], hB⟩
    · -- 14: Op.move (Operand.tmp 14)
      have p13 : l 13 = true := hpre _ rfl ⟨13, .guard⟩ (by simp) rfl
      refine wpOp_step rfl (fun K hK => ?_)
      simp only [p13, cond_true]
      clear hpre
      rw [if_pos (by rfl)]
      go_simp
      exact hK _ _ ⟨by simp [upd, Act.put, p13], hB⟩
    · -- 15: Op.call { callee := Callee.builtin Builtin.len, args := #[Op
      have p14 : l 14 = true := hpre _ rfl ⟨14, .data⟩ (by simp) rfl
      have p13 : l 13 = true := hpre _ rfl ⟨13, .guard⟩ (by simp) rfl
      refine wpOp_step rfl (fun K hK => ?_)
      simp only [p14, p13, cond_true]
      clear hpre
      rw [if_pos (by rfl)]
      go_simp
      exact hK _ _ ⟨by simp [upd, Act.put, p14, p13], hB⟩
    · -- 16: Op.move (Operand.tmp 2)
      have p13 : l 13 = true := hpre _ rfl ⟨13, .guard⟩ (by simp) rfl
      refine wpOp_step rfl (fun K hK => ?_)
      simp only [p13, cond_true]
      clear hpre
      rw [if_pos (by rfl)]
      go_simp
      exact hK _ _ ⟨by simp [upd, Act.put, p13], hB⟩
    · -- 17: Op.call { callee := Callee.builtin Builtin.len, args := #[Op
      have p16 : l 16 = true := hpre _ rfl ⟨16, .data⟩ (by simp) rfl
      have p13 : l 13 = true := hpre _ rfl ⟨13, .guard⟩ (by simp) rfl
      refine wpOp_step rfl (fun K hK => ?_)
      simp only [p16, p13, cond_true]
      clear hpre
      rw [if_pos (by rfl)]
      go_simp
      exact hK _ _ ⟨by simp [upd, Act.put, p16, p13], hB⟩
    · -- 18: Op.binOp BinOp.neq 3 (Operand.tmp 70) (Operand.tmp 72) 3
      have p15 : l 15 = true := hpre _ rfl ⟨15, .data⟩ (by simp) rfl
      have p17 : l 17 = true := hpre _ rfl ⟨17, .data⟩ (by simp) rfl
      have p13 : l 13 = true := hpre _ rfl ⟨13, .guard⟩ (by simp) rfl
      refine wpOp_step rfl (fun K hK => ?_)
      simp only [p15, p17, p13, cond_true]
      clear hpre
      rw [if_pos (by rfl)]
      go_simp
      exact hK _ _ ⟨by simp [upd, Act.put, p15, p17, p13], hB⟩
    · -- 19: Op.pick (Operand.tmp 68) (Operand.const (Value.bool true)) (
      have p13 : l 13 = true := hpre _ rfl ⟨13, .data⟩ (by simp) rfl
      have p18 : l 18 = true := hpre _ rfl ⟨18, .data⟩ (by simp) rfl
      refine wpOp_step rfl (fun K hK => ?_)
      simp only [p13, p18, cond_true]
      clear hpre
      rw [if_pos (by rfl)]
      go_simp
      exact hK _ _ ⟨by simp [upd, Act.put, p13, p18], hB⟩
    · -- 20: Op.move (Operand.tmp 74)
      have p19 : l 19 = true := hpre _ rfl ⟨19, .data⟩ (by simp) rfl
      have p13 : l 13 = true := hpre _ rfl ⟨13, .chain⟩ (by simp) rfl
      refine wpOp_step rfl (fun K hK => ?_)
      simp only [p19, p13, cond_true]
      clear hpre
      rw [if_pos (by rfl)]
      go_simp
      exact hK _ _ ⟨by simp [upd, Act.put, p19, p13], hB⟩
    · -- 21: Op.move (Operand.tmp 12)
      have p20 : l 20 = true := hpre _ rfl ⟨20, .guard⟩ (by simp) rfl
      refine wpOp_step rfl (fun K hK => ?_)
      simp only [p20, cond_true]
      clear hpre
      rw [if_pos (by rfl)]
      go_simp
      exact hK _ _ ⟨by simp [upd, Act.put, p20], hB⟩
    · -- 22: Op.move (Operand.tmp 4)
      have p20 : l 20 = true := hpre _ rfl ⟨20, .guard⟩ (by simp) rfl
      refine wpOp_step rfl (fun K hK => ?_)
      simp only [p20, cond_true]
      clear hpre
      rw [if_pos (by rfl)]
      go_simp
      exact hK _ _ ⟨by simp [upd, Act.put, p20], hB⟩
    · -- 23: Op.indexAddr 26 (Operand.tmp 76) (Operand.tmp 77)
      have p21 : l 21 = true := hpre _ rfl ⟨21, .data⟩ (by simp) rfl
      have p22 : l 22 = true := hpre _ rfl ⟨22, .data⟩ (by simp) rfl
      have p20 : l 20 = true := hpre _ rfl ⟨20, .guard⟩ (by simp) rfl
      refine wpOp_step rfl (fun K hK => ?_)
      simp only [p21, p22, p20, cond_true]
      clear hpre
      rw [if_pos (by rfl)]
      have l1 : (0 : Int) ≤ (q : Int) := by omega
      have l2 : (q : Int) < (n : Int) := by have := HQn.out; omega
      go_simp
      exact hK _ _ ⟨by simp [upd, Act.put, p21, p22, p20], hB⟩
    · -- 24: Op.load 5 (Operand.tmp 78)
      have p23 : l 23 = true := hpre _ rfl ⟨23, .data⟩ (by simp) rfl
      have p20 : l 20 = true := hpre _ rfl ⟨20, .guard⟩ (by simp) rfl
      refine wpOp_step rfl (fun K hK => ?_)
      simp only [p23, p20, cond_true]
      clear hpre
      rw [if_pos (by rfl)]
      have z := G3.out w' b3 o3 c3 (Y5.out.keep hB)
      go_simp
      exact hK _ _ ⟨by simp [upd, Act.put, p23, p20], hB⟩
    · -- 25: Op.move (Operand.tmp 14)
      have p20 : l 20 = true := hpre _ rfl ⟨20, .guard⟩ (by simp) rfl
      refine wpOp_step rfl (fun K hK => ?_)
      simp only [p20, cond_true]
      clear hpre
      rw [if_pos (by rfl)]
      go_simp
      exact hK _ _ ⟨by simp [upd, Act.put, p20], hB⟩
    · -- 26: Op.move (Operand.tmp 4)
      have p20 : l 20 = true := hpre _ rfl ⟨20, .guard⟩ (by simp) rfl
      refine wpOp_step rfl (fun K hK => ?_)
      simp only [p20, cond_true]
      clear hpre
      rw [if_pos (by rfl)]
      go_simp
      exact hK _ _ ⟨by simp [upd, Act.put, p20], hB⟩
    · -- 27: Op.indexAddr 26 (Operand.tmp 80) (Operand.tmp 81)
      have p25 : l 25 = true := hpre _ rfl ⟨25, .data⟩ (by simp) rfl
      have p26 : l 26 = true := hpre _ rfl ⟨26, .data⟩ (by simp) rfl
      have p20 : l 20 = true := hpre _ rfl ⟨20, .guard⟩ (by simp) rfl
      refine wpOp_step rfl (fun K hK => ?_)
      simp only [p25, p26, p20, cond_true]
      clear hpre
      rw [if_pos (by rfl)]
      have l1 : (0 : Int) ≤ (q : Int) := by omega
      have l2 : (q : Int) < (n : Int) := by have := HQn.out; omega
      go_simp
      exact hK _ _ ⟨by simp [upd, Act.put, p25, p26, p20], hB⟩
    · -- 28: Op.load 5 (Operand.tmp 82)
      have p27 : l 27 = true := hpre _ rfl ⟨27, .data⟩ (by simp) rfl
      have p20 : l 20 = true := hpre _ rfl ⟨20, .guard⟩ (by simp) rfl
      refine wpOp_step rfl (fun K hK => ?_)
      simp only [p27, p20, cond_true]
      clear hpre
      rw [if_pos (by rfl)]
      have z := G4.out w' b5 o5 c5 (Z5.out.keep hB)
      go_simp
      exact hK _ _ ⟨by simp [upd, Act.put, p27, p20], hB⟩
    · -- 29: Op.binOp BinOp.xor 5 (Operand.tmp 79) (Operand.tmp 83) 5
      have p24 : l 24 = true := hpre _ rfl ⟨24, .data⟩ (by simp) rfl
      have p28 : l 28 = true := hpre _ rfl ⟨28, .data⟩ (by simp) rfl
      have p20 : l 20 = true := hpre _ rfl ⟨20, .guard⟩ (by simp) rfl
      refine wpOp_step rfl (fun K hK => ?_)
      simp only [p24, p28, p20, cond_true]
      clear hpre
      rw [if_pos (by rfl)]
      have z := X1.out
      go_simp
      exact hK _ _ ⟨by simp [upd, Act.put, p24, p28, p20], hB⟩
    · -- 30: Op.move (Operand.tmp 2)
      have p20 : l 20 = true := hpre _ rfl ⟨20, .guard⟩ (by simp) rfl
      refine wpOp_step rfl (fun K hK => ?_)
      simp only [p20, cond_true]
      clear hpre
      rw [if_pos (by rfl)]
      go_simp
      exact hK _ _ ⟨by simp [upd, Act.put, p20], hB⟩
    · -- 31: Op.move (Operand.tmp 4)
      have p20 : l 20 = true := hpre _ rfl ⟨20, .guard⟩ (by simp) rfl
      refine wpOp_step rfl (fun K hK => ?_)
      simp only [p20, cond_true]
      clear hpre
      rw [if_pos (by rfl)]
      go_simp
      exact hK _ _ ⟨by simp [upd, Act.put, p20], hB⟩
    · -- 32: Op.indexAddr 26 (Operand.tmp 85) (Operand.tmp 86)
      have p30 : l 30 = true := hpre _ rfl ⟨30, .data⟩ (by simp) rfl
      have p31 : l 31 = true := hpre _ rfl ⟨31, .data⟩ (by simp) rfl
      have p20 : l 20 = true := hpre _ rfl ⟨20, .guard⟩ (by simp) rfl
      refine wpOp_step rfl (fun K hK => ?_)
      simp only [p30, p31, p20, cond_true]
      clear hpre
      rw [if_pos (by rfl)]
      have l1 : (0 : Int) ≤ (q : Int) := by omega
      have l2 : (q : Int) < (n : Int) := by have := HQn.out; omega
      go_simp
      exact hK _ _ ⟨by simp [upd, Act.put, p30, p31, p20], hB⟩
    · -- 33: Op.load 5 (Operand.tmp 87)
      have p32 : l 32 = true := hpre _ rfl ⟨32, .data⟩ (by simp) rfl
      have p20 : l 20 = true := hpre _ rfl ⟨20, .guard⟩ (by simp) rfl
      refine wpOp_step rfl (fun K hK => ?_)
      simp only [p32, p20, cond_true]
      clear hpre
      rw [if_pos (by rfl)]
      have z := G1.out w' (U5.out.keep hB)
      go_simp
      exact hK _ _ ⟨by simp [upd, Act.put, p32, p20], hB⟩
    · -- 34: Op.move (Operand.tmp 3)
      have p20 : l 20 = true := hpre _ rfl ⟨20, .guard⟩ (by simp) rfl
      refine wpOp_step rfl (fun K hK => ?_)
      simp only [p20, cond_true]
      clear hpre
      rw [if_pos (by rfl)]
      go_simp
      exact hK _ _ ⟨by simp [upd, Act.put, p20], hB⟩
    · -- 35: Op.move (Operand.tmp 4)
      have p20 : l 20 = true := hpre _ rfl ⟨20, .guard⟩ (by simp) rfl
      refine wpOp_step rfl (fun K hK => ?_)
      simp only [p20, cond_true]
      clear hpre
      rw [if_pos (by rfl)]
      go_simp
      exact hK _ _ ⟨by simp [upd, Act.put, p20], hB⟩
    · -- 36: Op.indexAddr 26 (Operand.tmp 89) (Operand.tmp 90)
      have p34 : l 34 = true := hpre _ rfl ⟨34, .data⟩ (by simp) rfl
      have p35 : l 35 = true := hpre _ rfl ⟨35, .data⟩ (by simp) rfl
      have p20 : l 20 = true := hpre _ rfl ⟨20, .guard⟩ (by simp) rfl
      refine wpOp_step rfl (fun K hK => ?_)
      simp only [p34, p35, p20, cond_true]
      clear hpre
      rw [if_pos (by rfl)]
      have l1 : (0 : Int) ≤ (q : Int) := by omega
      have l2 : (q : Int) < (n : Int) := by have := HQn.out; omega
      go_simp
      exact hK _ _ ⟨by simp [upd, Act.put, p34, p35, p20], hB⟩
    · -- 37: Op.load 5 (Operand.tmp 91)
      have p36 : l 36 = true := hpre _ rfl ⟨36, .data⟩ (by simp) rfl
      have p20 : l 20 = true := hpre _ rfl ⟨20, .guard⟩ (by simp) rfl
      refine wpOp_step rfl (fun K hK => ?_)
      simp only [p36, p20, cond_true]
      clear hpre
      rw [if_pos (by rfl)]
      have z := G2.out w' (V5.out.keep hB)
      go_simp
      exact hK _ _ ⟨by simp [upd, Act.put, p36, p20], hB⟩
    · -- 38: Op.binOp BinOp.xor 5 (Operand.tmp 88) (Operand.tmp 92) 5
      have p33 : l 33 = true := hpre _ rfl ⟨33, .data⟩ (by simp) rfl
      have p37 : l 37 = true := hpre _ rfl ⟨37, .data⟩ (by simp) rfl
      have p20 : l 20 = true := hpre _ rfl ⟨20, .guard⟩ (by simp) rfl
      refine wpOp_step rfl (fun K hK => ?_)
      simp only [p33, p37, p20, cond_true]
      clear hpre
      rw [if_pos (by rfl)]
      have z := X2.out
      go_simp
      exact hK _ _ ⟨by simp [upd, Act.put, p33, p37, p20], hB⟩
    · -- 39: Op.binOp BinOp.neq 5 (Operand.tmp 84) (Operand.tmp 93) 5
      have p29 : l 29 = true := hpre _ rfl ⟨29, .data⟩ (by simp) rfl
      have p38 : l 38 = true := hpre _ rfl ⟨38, .data⟩ (by simp) rfl
      have p20 : l 20 = true := hpre _ rfl ⟨20, .guard⟩ (by simp) rfl
      refine wpOp_step rfl (fun K hK => ?_)
      simp only [p29, p38, p20, cond_true]
      clear hpre
      rw [if_pos (by rfl)]
      go_simp
      exact hK _ _ ⟨by simp [upd, Act.put, p29, p38, p20], hB⟩
    · -- 40: Op.pick (Operand.tmp 75) (Operand.const (Value.bool true)) (
      have p20 : l 20 = true := hpre _ rfl ⟨20, .data⟩ (by simp) rfl
      have p39 : l 39 = true := hpre _ rfl ⟨39, .data⟩ (by simp) rfl
      refine wpOp_step rfl (fun K hK => ?_)
      simp only [p20, p39, cond_true]
      clear hpre
      rw [if_pos (by rfl)]
      go_simp
      exact hK _ _ ⟨by simp [upd, Act.put, p20, p39], hB⟩
  · rintro l a w5' hall ⟨rfl, hBz⟩
    simp only [hall 0 (by decide), hall 1 (by decide), hall 2 (by decide), hall 3 (by decide), hall 4 (by decide), hall 5 (by decide), hall 6 (by decide), hall 7 (by decide), hall 8 (by decide), hall 9 (by decide), hall 10 (by decide), hall 11 (by decide), hall 12 (by decide), hall 13 (by decide), hall 14 (by decide), hall 15 (by decide), hall 16 (by decide), hall 17 (by decide), hall 18 (by decide), hall 19 (by decide), hall 20 (by decide), hall 21 (by decide), hall 22 (by decide), hall 23 (by decide), hall 24 (by decide), hall 25 (by decide), hall 26 (by decide), hall 27 (by decide), hall 28 (by decide), hall 29 (by decide), hall 30 (by decide), hall 31 (by decide), hall 32 (by decide), hall 33 (by decide), hall 34 (by decide), hall 35 (by decide), hall 36 (by decide), hall 37 (by decide), hall 38 (by decide), hall 39 (by decide), hall 40 (by decide), cond_true]
    clear hall
    have B9 := Lib.hid (B5.out.trans (hBz.mono (by have := S5.out; omega)))
    have S9 : Hid (N + 1 ≤ w5'.heap.size) := Lib.hid (Nat.le_trans S5.out hBz.size)
    have K9 := Lib.hid (K5.out.keep hBz)
    have Y9 := Lib.hid (Y5.out.keep hBz)
    have U9 := Lib.hid (U5.out.keep hBz)
    have hA : Below w5'.heap.size w5' (w5'.alloc (.cells z16 23)) := (Below.refl _ _).alloc (Nat.le_refl _) _
    have R10 : Row (w5'.alloc (.cells z16 23)) w5'.heap.size (fun _ => 0) := Row.zeros w5' 23
    have c0 := R10.cell 0 (by omega)
    have f0 := R10.fr 0 (by omega)
    have HR10 := Lib.hid R10
    have HA10 := Lib.hid hA
    clear hBz B5 S5 K5 Y5 Z5 U5 V5 hA R10
    go_wp2_with fail
    go_loopw [17] (fun i wr => ∃ (k : Nat) (f : Nat → Nat), k ≤ 4 ∧ i = .int .i64 (k : Int) ∧ Hid (Below w5'.heap.size w5' wr) ∧ Hid (Row wr w5'.heap.size f ∧ ∀ j, j < 16 → f j = dby p t (0 + k) j)) (fun i _ => 4 - (intOf i).toNat)
    case atStart => exact ⟨0, kby 72057594037927936 0, by omega, rfl, Lib.hid ((Below.refl _ _).alloc (Nat.le_refl _) _), Lib.hid ⟨by have h := Row.keyNew w5' 72057594037927936 0 23; rw [d1_key] at h; exact h, fun j hj => dby_start p t j hj⟩⟩
    case round =>
      obtain ⟨k, f, hk, rfl, HBr, HI⟩ := hrel
      by_cases hlt : k < 4
      · have hstep : ∀ j, j < 16 → (if j = 7 - k then p / 256 ^ k % 256 else f j) = dby p t (0 + (k + 1)) j := fun j hj => by
          rw [HI.out.2 j hj]
          have hk' : k = 0 ∨ k = 1 ∨ k = 2 ∨ k = 3 := by omega
          have h16 : j = 0 ∨ j = 1 ∨ j = 2 ∨ j = 3 ∨ j = 4 ∨ j = 5 ∨ j = 6 ∨ j = 7 ∨ j = 8 ∨ j = 9 ∨ j = 10 ∨ j = 11 ∨ j = 12 ∨ j = 13 ∨ j = 14 ∨ j = 15 := by omega
          unfold dby
          rcases hk' with rfl | rfl | rfl | rfl <;> rcases h16 with rfl | rfl | rfl | rfl | rfl | rfl | rfl | rfl | rfl | rfl | rfl | rfl | rfl | rfl | rfl | rfl <;> simp
        have HSt := Lib.hid hstep
        have c1 := HI.out.1.cell (7 - k) (by omega)
        have f1 := HI.out.1.fr (7 - k) (by omega)
        have hr7 := HI.out.1.set (7 - k) (p / 256 ^ k % 256) (by omega)
        have HR7 := Lib.hid hr7
        have hd : decide ((k : Int) < 4) = true := decide_eq_true (by omega)
        have e1 := E1.out.1
        have e2 := E1.out.2.1
        clear hstep hr7 HI
        have hk' : k = 0 ∨ k = 1 ∨ k = 2 ∨ k = 3 := by omega
        rcases hk' with rfl | rfl | rfl | rfl
        · simp only [Nat.reduceSub, Nat.reducePow, Nat.div_one, Nat.pow_zero] at c1 f1 HR7 HSt
          go_wp2_with fail
          have ht' : t < 18446744073709551616 := HTt.out
          exact ⟨⟨1, _, by omega, rfl, Lib.hid (HBr.out.setCell (Nat.le_refl _) _), Lib.hid ⟨row_val (by omega) HR7.out, HSt.out⟩⟩, by simp [intOf]⟩
        · simp only [Nat.reduceSub, Nat.reducePow, Nat.div_one, Nat.pow_zero] at c1 f1 HR7 HSt
          go_wp2_with fail
          have ht' : t < 18446744073709551616 := HTt.out
          exact ⟨⟨2, _, by omega, rfl, Lib.hid (HBr.out.setCell (Nat.le_refl _) _), Lib.hid ⟨row_val (by omega) HR7.out, HSt.out⟩⟩, by simp [intOf]⟩
        · simp only [Nat.reduceSub, Nat.reducePow, Nat.div_one, Nat.pow_zero] at c1 f1 HR7 HSt
          go_wp2_with fail
          have ht' : t < 18446744073709551616 := HTt.out
          exact ⟨⟨3, _, by omega, rfl, Lib.hid (HBr.out.setCell (Nat.le_refl _) _), Lib.hid ⟨row_val (by omega) HR7.out, HSt.out⟩⟩, by simp [intOf]⟩
        · simp only [Nat.reduceSub, Nat.reducePow, Nat.div_one, Nat.pow_zero] at c1 f1 HR7 HSt
          go_wp2_with fail
          have ht' : t < 18446744073709551616 := HTt.out
          exact ⟨⟨4, _, by omega, rfl, Lib.hid (HBr.out.setCell (Nat.le_refl _) _), Lib.hid ⟨row_val (by omega) HR7.out, HSt.out⟩⟩, by simp [intOf]⟩
      · obtain rfl : k = 4 := by omega
        have hd : decide (((4 : Nat) : Int) < 4) = false := by decide
        go_wp2_with fail
        go_loopw [18] (fun i wr => ∃ (k : Nat) (f : Nat → Nat), k ≤ 8 ∧ i = .int .i64 (k : Int) ∧ Hid (Below w5'.heap.size w5' wr) ∧ Hid (Row wr w5'.heap.size f ∧ ∀ j, j < 16 → f j = dby p t (4 + k) j)) (fun i _ => 8 - (intOf i).toNat)
        case atStart => exact ⟨0, f, by omega, rfl, HBr, Lib.hid ⟨HI.out.1, fun j hj => HI.out.2 j hj⟩⟩
        case round =>
          obtain ⟨k, f2, hk, rfl, HBr2, HI2⟩ := hrel
          by_cases hlt2 : k < 8
          · have hstep : ∀ j, j < 16 → (if j = 15 - k then t / 256 ^ k % 256 else f2 j) = dby p t (4 + (k + 1)) j := fun j hj => by
              rw [HI2.out.2 j hj]
              have hk2' : k = 0 ∨ k = 1 ∨ k = 2 ∨ k = 3 ∨ k = 4 ∨ k = 5 ∨ k = 6 ∨ k = 7 := by omega
              have h16 : j = 0 ∨ j = 1 ∨ j = 2 ∨ j = 3 ∨ j = 4 ∨ j = 5 ∨ j = 6 ∨ j = 7 ∨ j = 8 ∨ j = 9 ∨ j = 10 ∨ j = 11 ∨ j = 12 ∨ j = 13 ∨ j = 14 ∨ j = 15 := by omega
              unfold dby
              rcases hk2' with rfl | rfl | rfl | rfl | rfl | rfl | rfl | rfl <;> rcases h16 with rfl | rfl | rfl | rfl | rfl | rfl | rfl | rfl | rfl | rfl | rfl | rfl | rfl | rfl | rfl | rfl <;> simp
            have HSt := Lib.hid hstep
            have c1 := HI2.out.1.cell (15 - k) (by omega)
            have f1 := HI2.out.1.fr (15 - k) (by omega)
            have hr7 := HI2.out.1.set (15 - k) (t / 256 ^ k % 256) (by omega)
            have HR7 := Lib.hid hr7
            have hd : decide ((k : Int) < 8) = true := decide_eq_true (by omega)
            have e1 := E1.out.1
            have e2 := E1.out.2.1
            clear hstep hr7 HI2
            have hk2' : k = 0 ∨ k = 1 ∨ k = 2 ∨ k = 3 ∨ k = 4 ∨ k = 5 ∨ k = 6 ∨ k = 7 := by omega
            rcases hk2' with rfl | rfl | rfl | rfl | rfl | rfl | rfl | rfl
            · simp only [Nat.reduceSub, Nat.reducePow, Nat.div_one, Nat.pow_zero] at c1 f1 HR7 HSt
              go_wp2_with fail
              have ht' : t < 18446744073709551616 := HTt.out
              exact ⟨⟨1, _, by omega, rfl, Lib.hid (HBr2.out.setCell (Nat.le_refl _) _), Lib.hid ⟨row_val (by omega) HR7.out, HSt.out⟩⟩, by simp [intOf]⟩
            · simp only [Nat.reduceSub, Nat.reducePow, Nat.div_one, Nat.pow_zero] at c1 f1 HR7 HSt
              go_wp2_with fail
              have ht' : t < 18446744073709551616 := HTt.out
              exact ⟨⟨2, _, by omega, rfl, Lib.hid (HBr2.out.setCell (Nat.le_refl _) _), Lib.hid ⟨row_val (by omega) HR7.out, HSt.out⟩⟩, by simp [intOf]⟩
            · simp only [Nat.reduceSub, Nat.reducePow, Nat.div_one, Nat.pow_zero] at c1 f1 HR7 HSt
              go_wp2_with fail
              have ht' : t < 18446744073709551616 := HTt.out
              exact ⟨⟨3, _, by omega, rfl, Lib.hid (HBr2.out.setCell (Nat.le_refl _) _), Lib.hid ⟨row_val (by omega) HR7.out, HSt.out⟩⟩, by simp [intOf]⟩
            · simp only [Nat.reduceSub, Nat.reducePow, Nat.div_one, Nat.pow_zero] at c1 f1 HR7 HSt
              go_wp2_with fail
              have ht' : t < 18446744073709551616 := HTt.out
              exact ⟨⟨4, _, by omega, rfl, Lib.hid (HBr2.out.setCell (Nat.le_refl _) _), Lib.hid ⟨row_val (by omega) HR7.out, HSt.out⟩⟩, by simp [intOf]⟩
            · simp only [Nat.reduceSub, Nat.reducePow, Nat.div_one, Nat.pow_zero] at c1 f1 HR7 HSt
              go_wp2_with fail
              have ht' : t < 18446744073709551616 := HTt.out
              exact ⟨⟨5, _, by omega, rfl, Lib.hid (HBr2.out.setCell (Nat.le_refl _) _), Lib.hid ⟨row_val (by omega) HR7.out, HSt.out⟩⟩, by simp [intOf]⟩
            · simp only [Nat.reduceSub, Nat.reducePow, Nat.div_one, Nat.pow_zero] at c1 f1 HR7 HSt
              go_wp2_with fail
              have ht' : t < 18446744073709551616 := HTt.out
              exact ⟨⟨6, _, by omega, rfl, Lib.hid (HBr2.out.setCell (Nat.le_refl _) _), Lib.hid ⟨row_val (by omega) HR7.out, HSt.out⟩⟩, by simp [intOf]⟩
            · simp only [Nat.reduceSub, Nat.reducePow, Nat.div_one, Nat.pow_zero] at c1 f1 HR7 HSt
              go_wp2_with fail
              have ht' : t < 18446744073709551616 := HTt.out
              exact ⟨⟨7, _, by omega, rfl, Lib.hid (HBr2.out.setCell (Nat.le_refl _) _), Lib.hid ⟨row_val (by omega) HR7.out, HSt.out⟩⟩, by simp [intOf]⟩
            · simp only [Nat.reduceSub, Nat.reducePow, Nat.div_one, Nat.pow_zero] at c1 f1 HR7 HSt
              go_wp2_with fail
              have ht' : t < 18446744073709551616 := HTt.out
              exact ⟨⟨8, _, by omega, rfl, Lib.hid (HBr2.out.setCell (Nat.le_refl _) _), Lib.hid ⟨row_val (by omega) HR7.out, HSt.out⟩⟩, by simp [intOf]⟩
          · obtain rfl : k = 8 := by omega
            have hd : decide (((8 : Nat) : Int) < 8) = false := by decide
            go_wp2_with fail
            have KD : Hid (KeyAt wr w5'.heap.size (72057594037927936 + p) t) := Lib.hid (HI2.out.1.key fun j hj => (HI2.out.2 j hj).trans (dby_all p t (by omega) j hj))
            have KN : Hid (KeyAt wr N X Y) := Lib.hid (K9.out.below HBr2.out (by have := S9.out; omega))
            have YR : Hid (Byt wr (some ⟨b3, o3, none⟩) n c3 (smb X Y t g)) := Lib.hid (Y9.out.keep HBr2.out)
            have UR : Hid (Byt wr (some ⟨b1, o1, none⟩) n c g) := Lib.hid (U9.out.keep HBr2.out)
            have BR : Hid (Below N w wr) := Lib.hid (B9.out.trans (HBr2.out.mono (by have := S9.out; omega)))
            have SR : Hid (N ≤ wr.heap.size) := Lib.hid (by have := HBr2.out.size; have := S9.out; omega)
            clear HI2 HBr2 HI HBr hlt hlt2
            refine wp_region_inv (by kernel_rfl) (by kernel_rfl) (fun l a w' => a = { tmps := #[Value.agg (kl X Y).toArray, Value.int .u64 (t : Int), Value.slice (some ⟨b1, o1, none⟩) n c, Value.slice (some ⟨b2, o2, none⟩) n c2, Value.int .i64 (q : Int), Value.pointer (some ⟨N, 0, none⟩), undef, undef, undef, undef, bif l 19 then Value.bool true else Value.bool false, Value.bool true, Value.slice (some ⟨b3, o3, none⟩) n c3, Value.int .i64 (0 : Int), Value.slice (some ⟨b5, o5, none⟩) n c5, Value.int .i64 (0 : Int), Value.pointer (some ⟨w5'.heap.size, 0, none⟩), Value.int .i64 (4 : Int), Value.int .i64 (8 : Int), Value.bool true, Value.slice (some ⟨b1, o1, none⟩) n c, Value.int .i64 (n : Int), Value.bool false, Value.bool false, Value.slice (some ⟨b2, o2, none⟩) n c2, Value.int .i64 (n : Int), Value.slice (some ⟨b1, o1, none⟩) n c, Value.int .i64 (n : Int), Value.bool false, Value.bool false, Value.bool false, Value.int .i64 (q : Int), Value.bool false, Value.bool false, Value.bool false, Value.int .i64 (q : Int), Value.slice (some ⟨b1, o1, none⟩) n c, Value.int .i64 (n : Int), Value.bool false, Value.bool false, undef, Value.tuple #[Value.slice (some ⟨b3, o3, none⟩) n c3, Value.int IntKind.i64 0], Value.agg (kl X Y).toArray, Value.int .u64 (t : Int), Value.slice (some ⟨b1, o1, none⟩) n c, Value.tuple #[Value.slice (some ⟨b3, o3, none⟩) n c3, Value.int IntKind.i64 0], Value.slice (some ⟨b3, o3, none⟩) n c3, Value.int .i64 (0 : Int), Value.tuple #[Value.slice (some ⟨b5, o5, none⟩) n c5, Value.int IntKind.i64 0], Value.agg (kl X Y).toArray, Value.int .u64 (t : Int), Value.slice (some ⟨b2, o2, none⟩) n c2, Value.tuple #[Value.slice (some ⟨b5, o5, none⟩) n c5, Value.int IntKind.i64 0], Value.slice (some ⟨b5, o5, none⟩) n c5, Value.int .i64 (0 : Int), Value.int .i64 (0 : Int), Value.bool false, Value.bool false, Value.int .i64 (0 : Int), Value.bool false, Value.bool false, Value.bool false, Value.slice (some ⟨b3, o3, none⟩) n c3, Value.int .i64 (n : Int), Value.slice (some ⟨b1, o1, none⟩) n c, Value.int .i64 (n : Int), Value.bool false, Value.bool false, Value.bool false, Value.slice (some ⟨b5, o5, none⟩) n c5, Value.int .i64 (n : Int), Value.slice (some ⟨b1, o1, none⟩) n c, Value.int .i64 (n : Int), Value.bool false, Value.bool false, Value.bool false, Value.slice (some ⟨b3, o3, none⟩) n c3, Value.int .i64 (q : Int), Value.pointer (some ⟨b3, o3 + q, none⟩), Value.int .u8 (xq : Int), Value.slice (some ⟨b5, o5, none⟩) n c5, Value.int .i64 (q : Int), Value.pointer (some ⟨b5, o5 + q, none⟩), Value.int .u8 (yq : Int), Value.int .u8 (u : Int), Value.slice (some ⟨b1, o1, none⟩) n c, Value.int .i64 (q : Int), Value.pointer (some ⟨b1, o1 + q, none⟩), Value.int .u8 (gq : Int), Value.slice (some ⟨b2, o2, none⟩) n c2, Value.int .i64 (q : Int), Value.pointer (some ⟨b2, o2 + q, none⟩), Value.int IntKind.u8 hq', Value.int .u8 (u : Int), Value.bool false, Value.bool false, Value.pointer (some ⟨w5'.heap.size, 0, none⟩), Value.int .i64 (4 : Int), Value.bool false, u99, u100, u101, u102, u103, u104, u105, u106, u107, u108, u109, Value.int .i64 (8 : Int), Value.bool false, u112, u113, u114, u115, u116, u117, u118, u119, u120, u121, bif l 0 then Value.bool true else undef, bif l 1 then Value.bool true else undef, bif l 2 then Value.slice (some ⟨b3, o3, none⟩) n c3 else undef, bif l 3 then Value.int .i64 (q : Int) else undef, bif l 4 then Value.pointer (some ⟨b3, o3 + q, none⟩) else undef, bif l 5 then Value.int .u8 (xq : Int) else undef, bif l 6 then Value.slice (some ⟨b1, o1, none⟩) n c else undef, bif l 7 then Value.int .i64 (q : Int) else undef, bif l 8 then Value.pointer (some ⟨b1, o1 + q, none⟩) else undef, bif l 9 then Value.int .u8 (gq : Int) else undef, bif l 10 then Value.int .u8 (mq : Int) else undef, bif l 11 then Value.agg (kl X Y).toArray else undef, bif l 12 then Value.agg (kl (72057594037927936 + p) t).toArray else undef, bif l 13 then Value.agg (kl P Q).toArray else undef, bif l 14 then Value.int .i64 (q : Int) else undef, bif l 15 then Value.int .i64 (r : Int) else undef, bif l 16 then Value.int .u8 (mq : Int) else undef, bif l 17 then Value.bool true else undef, bif l 18 then Value.bool true else undef], defers := [] } ∧ Below wr.heap.size wr w') ⟨rfl, (Below.refl _ _).drew⟩ ?_ ?_
            · rintro l a w' i ⟨rfl, hB⟩ hi hli hpre
              have hi2 : i < 20 := hi
              have hcase : i = 0 ∨ i = 1 ∨ i = 2 ∨ i = 3 ∨ i = 4 ∨ i = 5 ∨ i = 6 ∨ i = 7 ∨ i = 8 ∨ i = 9 ∨ i = 10 ∨ i = 11 ∨ i = 12 ∨ i = 13 ∨ i = 14 ∨ i = 15 ∨ i = 16 ∨ i = 17 ∨ i = 18 ∨ i = 19 := by omega
              clear hi hi2
              rcases hcase with rfl | rfl | rfl | rfl | rfl | rfl | rfl | rfl | rfl | rfl | rfl | rfl | rfl | rfl | rfl | rfl | rfl | rfl | rfl | rfl
              · -- 0: Op.move (Operand.tmp 11)
                refine wpOp_step rfl (fun K hK => ?_)
                clear hpre
                rw [if_pos (by rfl)]
                go_simp
                exact hK _ _ ⟨by simp [upd, Act.put], hB⟩
              · -- 1: Op.move (Operand.tmp 122)
                have p0 : l 0 = true := hpre _ rfl ⟨0, .data⟩ (by simp) rfl
                refine wpOp_step rfl (fun K hK => ?_)
                simp only [p0, cond_true]
                clear hpre
                rw [if_pos (by rfl)]
                go_simp
                exact hK _ _ ⟨by simp [upd, Act.put, p0], hB⟩
              · -- 2: Op.move (Operand.tmp 12)
                have p1 : l 1 = true := hpre _ rfl ⟨1, .guard⟩ (by simp) rfl
                refine wpOp_step rfl (fun K hK => ?_)
                simp only [p1, cond_true]
                clear hpre
                rw [if_pos (by rfl)]
                go_simp
                exact hK _ _ ⟨by simp [upd, Act.put, p1], hB⟩
              · -- 3: Op.move (Operand.tmp 4)
                have p1 : l 1 = true := hpre _ rfl ⟨1, .guard⟩ (by simp) rfl
                refine wpOp_step rfl (fun K hK => ?_)
                simp only [p1, cond_true]
                clear hpre
                rw [if_pos (by rfl)]
                go_simp
                exact hK _ _ ⟨by simp [upd, Act.put, p1], hB⟩
              · -- 4: Op.indexAddr 26 (Operand.tmp 124) (Operand.tmp 125)
                have p2 : l 2 = true := hpre _ rfl ⟨2, .data⟩ (by simp) rfl
                have p3 : l 3 = true := hpre _ rfl ⟨3, .data⟩ (by simp) rfl
                have p1 : l 1 = true := hpre _ rfl ⟨1, .guard⟩ (by simp) rfl
                refine wpOp_step rfl (fun K hK => ?_)
                simp only [p2, p3, p1, cond_true]
                clear hpre
                rw [if_pos (by rfl)]
                have l1 : (0 : Int) ≤ (q : Int) := by omega
                have l2 : (q : Int) < (n : Int) := by have := HQn.out; omega
                go_simp
                exact hK _ _ ⟨by simp [upd, Act.put, p2, p3, p1], hB⟩
              · -- 5: Op.load 5 (Operand.tmp 126)
                have p4 : l 4 = true := hpre _ rfl ⟨4, .data⟩ (by simp) rfl
                have p1 : l 1 = true := hpre _ rfl ⟨1, .guard⟩ (by simp) rfl
                refine wpOp_step rfl (fun K hK => ?_)
                simp only [p4, p1, cond_true]
                clear hpre
                rw [if_pos (by rfl)]
                have z := G3.out w' b3 o3 c3 (YR.out.keep hB)
                go_simp
                exact hK _ _ ⟨by simp [upd, Act.put, p4, p1], hB⟩
              · -- 6: Op.move (Operand.tmp 2)
                have p1 : l 1 = true := hpre _ rfl ⟨1, .guard⟩ (by simp) rfl
                refine wpOp_step rfl (fun K hK => ?_)
                simp only [p1, cond_true]
                clear hpre
                rw [if_pos (by rfl)]
                go_simp
                exact hK _ _ ⟨by simp [upd, Act.put, p1], hB⟩
              · -- 7: Op.move (Operand.tmp 4)
                have p1 : l 1 = true := hpre _ rfl ⟨1, .guard⟩ (by simp) rfl
                refine wpOp_step rfl (fun K hK => ?_)
                simp only [p1, cond_true]
                clear hpre
                rw [if_pos (by rfl)]
                go_simp
                exact hK _ _ ⟨by simp [upd, Act.put, p1], hB⟩
              · -- 8: Op.indexAddr 26 (Operand.tmp 128) (Operand.tmp 129)
                have p6 : l 6 = true := hpre _ rfl ⟨6, .data⟩ (by simp) rfl
                have p7 : l 7 = true := hpre _ rfl ⟨7, .data⟩ (by simp) rfl
                have p1 : l 1 = true := hpre _ rfl ⟨1, .guard⟩ (by simp) rfl
                refine wpOp_step rfl (fun K hK => ?_)
                simp only [p6, p7, p1, cond_true]
                clear hpre
                rw [if_pos (by rfl)]
                have l1 : (0 : Int) ≤ (q : Int) := by omega
                have l2 : (q : Int) < (n : Int) := by have := HQn.out; omega
                go_simp
                exact hK _ _ ⟨by simp [upd, Act.put, p6, p7, p1], hB⟩
              · -- 9: Op.load 5 (Operand.tmp 130)
                have p8 : l 8 = true := hpre _ rfl ⟨8, .data⟩ (by simp) rfl
                have p1 : l 1 = true := hpre _ rfl ⟨1, .guard⟩ (by simp) rfl
                refine wpOp_step rfl (fun K hK => ?_)
                simp only [p8, p1, cond_true]
                clear hpre
                rw [if_pos (by rfl)]
                have z := G1.out w' (UR.out.keep hB)
                go_simp
                exact hK _ _ ⟨by simp [upd, Act.put, p8, p1], hB⟩
              · -- 10: Op.binOp BinOp.xor 5 (Operand.tmp 127) (Operand.tmp 131) 5
                have p5 : l 5 = true := hpre _ rfl ⟨5, .data⟩ (by simp) rfl
                have p9 : l 9 = true := hpre _ rfl ⟨9, .data⟩ (by simp) rfl
                have p1 : l 1 = true := hpre _ rfl ⟨1, .guard⟩ (by simp) rfl
                refine wpOp_step rfl (fun K hK => ?_)
                simp only [p5, p9, p1, cond_true]
                clear hpre
                rw [if_pos (by rfl)]
                have z := X3.out
                go_simp
                exact hK _ _ ⟨by simp [upd, Act.put, p5, p9, p1], hB⟩
              · -- 11: Op.load 23 (Operand.tmp 5)
                have p1 : l 1 = true := hpre _ rfl ⟨1, .guard⟩ (by simp) rfl
                refine wpOp_step rfl (fun K hK => ?_)
                simp only [p1, cond_true]
                clear hpre
                rw [if_pos (by rfl)]
                refine wp_load_mid 23 _ rfl _ 0 rfl (kl X Y) _ ((KN.out).below hB (KN.out).lt) Try.underlying23 rfl (by rw [kl_len]; exact size23) ?_
                exact hK _ _ ⟨by simp [upd, Act.put, p1], hB⟩
              · -- 12: Op.load 23 (Operand.tmp 16)
                have p1 : l 1 = true := hpre _ rfl ⟨1, .guard⟩ (by simp) rfl
                refine wpOp_step rfl (fun K hK => ?_)
                simp only [p1, cond_true]
                clear hpre
                rw [if_pos (by rfl)]
                refine wp_load_mid 23 _ rfl _ 0 rfl (kl (72057594037927936 + p) t) _ ((KD.out).below hB (KD.out).lt) Try.underlying23 rfl (by rw [kl_len]; exact size23) ?_
                exact hK _ _ ⟨by simp [upd, Act.put, p1], hB⟩
              · -- 13: Op.call { callee := Callee.value (Operand.func 27), args := 
                have p11 : l 11 = true := hpre _ rfl ⟨11, .data⟩ (by simp) rfl
                have p12 : l 12 = true := hpre _ rfl ⟨12, .data⟩ (by simp) rfl
                have p1 : l 1 = true := hpre _ rfl ⟨1, .chain⟩ (by simp) rfl
                refine wpOp_step rfl (fun K hK => ?_)
                simp only [p11, p12, p1, cond_true]
                clear hpre
                rw [if_pos (by rfl)]
                go_simp
                refine (HE.out _).mono ?_
                rintro e w5 ⟨rfl, hb5⟩
                exact hK _ _ ⟨by simp [upd, Act.put, p11, p12, p1], hB.trans (hb5.mono hB.size)⟩
              · -- 14: Op.move (Operand.tmp 4)
                have p1 : l 1 = true := hpre _ rfl ⟨1, .guard⟩ (by simp) rfl
                refine wpOp_step rfl (fun K hK => ?_)
                simp only [p1, cond_true]
                clear hpre
                rw [if_pos (by rfl)]
                go_simp
                exact hK _ _ ⟨by simp [upd, Act.put, p1], hB⟩
              · -- 15: Op.binOp BinOp.rem 3 (Operand.tmp 136) (Operand.const (Value
                have p14 : l 14 = true := hpre _ rfl ⟨14, .data⟩ (by simp) rfl
                have p1 : l 1 = true := hpre _ rfl ⟨1, .guard⟩ (by simp) rfl
                refine wpOp_step rfl (fun K hK => ?_)
                simp only [p14, p1, cond_true]
                clear hpre
                rw [if_pos (by rfl)]
                have z1 := E1.out.2.2.1
                have z2 := E1.out.2.2.2
                go_simp
                exact hK _ _ ⟨by simp [upd, Act.put, p14, p1], hB⟩
              · -- 16: Op.index 23 (Operand.tmp 135) (Operand.tmp 137)
                have p13 : l 13 = true := hpre _ rfl ⟨13, .data⟩ (by simp) rfl
                have p15 : l 15 = true := hpre _ rfl ⟨15, .data⟩ (by simp) rfl
                have p1 : l 1 = true := hpre _ rfl ⟨1, .guard⟩ (by simp) rfl
                refine wpOp_step rfl (fun K hK => ?_)
                simp only [p13, p15, p1, cond_true]
                clear hpre
                rw [if_pos (by rfl)]
                have z := HIx.out w'
                go_simp
                exact hK _ _ ⟨by simp [upd, Act.put, p13, p15, p1], hB⟩
              · -- 17: Op.binOp BinOp.eql 5 (Operand.tmp 132) (Operand.tmp 138) 5
                have p10 : l 10 = true := hpre _ rfl ⟨10, .data⟩ (by simp) rfl
                have p16 : l 16 = true := hpre _ rfl ⟨16, .data⟩ (by simp) rfl
                have p1 : l 1 = true := hpre _ rfl ⟨1, .guard⟩ (by simp) rfl
                refine wpOp_step rfl (fun K hK => ?_)
                simp only [p10, p16, p1, cond_true]
                clear hpre
                rw [if_pos (by rfl)]
                go_simp
                exact hK _ _ ⟨by simp [upd, Act.put, p10, p16, p1], hB⟩
              · -- 18: Op.pick (Operand.tmp 123) (Operand.tmp 139) (Operand.const (
                have p1 : l 1 = true := hpre _ rfl ⟨1, .data⟩ (by simp) rfl
                have p17 : l 17 = true := hpre _ rfl ⟨17, .data⟩ (by simp) rfl
                refine wpOp_step rfl (fun K hK => ?_)
                simp only [p1, p17, cond_true]
                clear hpre
                rw [if_pos (by rfl)]
                go_simp
                exact hK _ _ ⟨by simp [upd, Act.put, p1, p17], hB⟩
              · -- 19: Op.assign (Operand.tmp 140)
                have p18 : l 18 = true := hpre _ rfl ⟨18, .data⟩ (by simp) rfl
                have p13 : l 13 = true := hpre _ rfl ⟨13, .chain⟩ (by simp) rfl
                have p0 : l 0 = true := hpre _ rfl ⟨0, .phase⟩ (by simp) rfl
                have p1 : l 1 = true := hpre _ rfl ⟨1, .phase⟩ (by simp) rfl
                have p2 : l 2 = true := hpre _ rfl ⟨2, .phase⟩ (by simp) rfl
                have p3 : l 3 = true := hpre _ rfl ⟨3, .phase⟩ (by simp) rfl
                have p4 : l 4 = true := hpre _ rfl ⟨4, .phase⟩ (by simp) rfl
                have p5 : l 5 = true := hpre _ rfl ⟨5, .phase⟩ (by simp) rfl
                have p6 : l 6 = true := hpre _ rfl ⟨6, .phase⟩ (by simp) rfl
                have p7 : l 7 = true := hpre _ rfl ⟨7, .phase⟩ (by simp) rfl
                have p8 : l 8 = true := hpre _ rfl ⟨8, .phase⟩ (by simp) rfl
                have p9 : l 9 = true := hpre _ rfl ⟨9, .phase⟩ (by simp) rfl
                have p10 : l 10 = true := hpre _ rfl ⟨10, .phase⟩ (by simp) rfl
                have p11 : l 11 = true := hpre _ rfl ⟨11, .phase⟩ (by simp) rfl
                have p12 : l 12 = true := hpre _ rfl ⟨12, .phase⟩ (by simp) rfl
                have p14 : l 14 = true := hpre _ rfl ⟨14, .phase⟩ (by simp) rfl
                have p15 : l 15 = true := hpre _ rfl ⟨15, .phase⟩ (by simp) rfl
                have p16 : l 16 = true := hpre _ rfl ⟨16, .phase⟩ (by simp) rfl
                have p17 : l 17 = true := hpre _ rfl ⟨17, .phase⟩ (by simp) rfl
                refine wpOp_step rfl (fun K hK => ?_)
                simp only [p18, p13, p0, p1, p2, p3, p4, p5, p6, p7, p8, p9, p10, p11, p12, p14, p15, p16, p17, cond_true]
                clear hpre
                rw [if_pos (by rfl)]
                go_simp
                exact hK _ _ ⟨by simp [upd, Act.put, p18, p13, p0, p1, p2, p3, p4, p5, p6, p7, p8, p9, p10, p11, p12, p14, p15, p16, p17], hB⟩
            · rintro l a wr' hall ⟨rfl, hBz⟩
              simp only [hall 0 (by decide), hall 1 (by decide), hall 2 (by decide), hall 3 (by decide), hall 4 (by decide), hall 5 (by decide), hall 6 (by decide), hall 7 (by decide), hall 8 (by decide), hall 9 (by decide), hall 10 (by decide), hall 11 (by decide), hall 12 (by decide), hall 13 (by decide), hall 14 (by decide), hall 15 (by decide), hall 16 (by decide), hall 17 (by decide), hall 18 (by decide), hall 19 (by decide), cond_true]
              clear hall
              go_wp2_with fail
              go_ret
              exact ⟨rfl, by rw [← HN.out]; exact BR.out.trans (hBz.mono SR.out)⟩

theorem walk (X Y : Nat) (hX : X < M) (hY : Y < M) (a : Int) (wa : (Lit.int .u64 a).wf = true) (A : Option Addr) (n c : Nat) (g : Nat → Nat) (B : Option Addr) (n2 c2 : Nat) (h : Nat → Nat) (w0 : World) (hb : Byt w0 A n c g) (hb2 : Byt w0 B n2 c2 h) (m : Int) (wm : (Lit.int .i64 m).wf = true) :
    Calls Try.prog 14 #[.agg (kl X Y).toArray, .int .u64 a, .slice A n c, .slice B n2 c2, .int .i64 m] w0 fun e w' => e = .returned (.bool true) ∧ Below w0.heap.size w0 w' := by
  have ba := bounds_u64 wa
  obtain ⟨t, rfl⟩ := Int.eq_ofNat_of_zero_le ba.1
  have ht : t < M := by unfold M; omega
  by_cases h1 : 16384 < n
  · exact walk_big X Y t A B n c n2 c2 m w0 h1
  by_cases h2 : n2 ≠ n
  · exact walk_ne X Y t A B n c n2 c2 m w0 (by omega) h2
  have h2 : n2 = n := by omega
  by_cases h3 : m < 0
  · exact walk_neg X Y t A B n c n2 c2 m w0 (by omega) h2 h3
  by_cases h4 : (n : Int) ≤ m
  · exact walk_far X Y t A B n c n2 c2 m w0 (by omega) h2 h3 h4
  subst h2
  obtain ⟨q, rfl⟩ : ∃ q : Nat, m = (q : Int) := ⟨m.toNat, by omega⟩
  obtain ⟨b1, o1, rfl, _⟩ := hb.at_ (by omega)
  obtain ⟨b2, o2, rfl, _⟩ := hb2.at_ (by omega)
  exact walk_in X Y t hX hY ht b1 o1 b2 o2 n2 c c2 q g h w0 hb hb2 (by omega) (by omega)
end Go.Proofs.Ytphhppdokdageaa.cipherMask
