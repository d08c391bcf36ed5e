/- The walk over CipherChain. -/
import Derived.Test.YtphhppdokdageaaChnB
import Derived.Test.YtphhppdokdageaaAlv
import Derived.Test.YtphhppdokdageaaTxtE
import Derived.Test.YtphhppdokdageaaLawB
namespace Go.Proofs.Ytphhppdokdageaa.cipherChain
open Go.RowKit SP
set_option linter.unusedVariables false
set_option linter.unusedSimpArgs false

set_option maxRecDepth 100000 in
set_option maxHeartbeats 1000000 in
theorem walk_big (X Y : Nat) (A : Option Addr) (n c : Nat) (w : World) (hn : 16384 < n) :
    Calls Try.prog 16 #[.agg (kl X Y).toArray, .slice A n c] w fun e w' => e = .returned (.bool true) ∧ Below w.heap.size w w' := by
  have HM := Lib.hid (fun w => mac_no X Y A n c w hn)
  have HAl := Lib.hid (fun w => alive_any w)
  obtain ⟨N, hN⟩ : ∃ N, N = w.heap.size := ⟨_, rfl⟩
  obtain ⟨W1, hW1⟩ : ∃ W1, W1 = w.alloc (.cells (kl X Y).toArray 23) := ⟨_, rfl⟩
  have HB : Hid (Below N w W1) := Lib.hid (by rw [hW1, hN]; exact (Below.refl _ _).alloc (Nat.le_refl _) _)
  have HL : Hid (W1.heap.size = N + 1) := Lib.hid (by rw [hW1, hN]; simp)
  have HK : Hid (KeyAt W1 N X Y) := Lib.hid (by rw [hW1, hN]; exact KeyAt.new w X Y 23)
  have HW := Lib.hid hW1
  have HN := Lib.hid hN
  clear hW1 hN
  have d1 : decide ((16384 : Int) < (n : Int)) = true := decide_eq_true (by omega)
  have d2 : ((16384 : Int) < (n : Int)) := by omega
  go_enter Try.func16, Try.ntmps16
  go_wp2_with fail
  rw [← HW.out, ← HN.out]
  refine (HAl.out _).mono ?_
  rintro e w1 ⟨rfl, hb1⟩
  have K1 := Lib.hid (HK.out.keep hb1)
  have B1 := Lib.hid (HB.out.trans (hb1.mono (by rw [HL.out]; omega)))
  have D1 := Lib.hid (hb1.mono (show N + 1 ≤ W1.heap.size by rw [HL.out]; omega))
  have S1 : Hid (N + 1 ≤ w1.heap.size) := Lib.hid (by rw [← HL.out]; exact hb1.size)
  clear hb1
  go_wp2_with (refine wpList_load_key rfl _ rfl N rfl X Y K1.out ?_)
  refine (HM.out w1).mono ?_
  rintro e w7 ⟨rfl, hb7⟩
  obtain ⟨m7, hm7⟩ : ∃ m7, m7 = w7.heap.size := ⟨_, rfl⟩
  obtain ⟨W8, hW8⟩ : ∃ W8, W8 = (w7.alloc (.cells z16 23)).setCells m7 0 (kl 0 0) := ⟨_, rfl⟩
  have T7 : Hid ((w7.alloc (.cells z16 23)).there m7 0 16) := Lib.hid (by rw [hm7]; exact (Row.zeros w7 23).there)
  have B78 : Below w7.heap.size w7 W8 := by rw [hW8, hm7]; exact below_setCells _ _ _ _ ((Below.refl _ _).alloc (Nat.le_refl _) _) (Nat.le_refl _)
  have B8 := hb7.trans (B78.mono hb7.size)
  have K8 : Hid (KeyAt W8 m7 0 0) := Lib.hid (by rw [hW8]; exact KeyAt.stored T7.out 0 0)
  have N8 : Hid (KeyAt W8 N X Y) := Lib.hid (K1.out.keep B8)
  have C8 : Hid (Below N w W8) := Lib.hid (B1.out.trans (B8.mono (by have := S1.out; omega)))
  have D8 : Hid (Below (N + 1) W1 W8) := Lib.hid (D1.out.trans (B8.mono S1.out))
  have S8 : Hid (m7 < W8.heap.size ∧ N < m7) := Lib.hid ⟨by rw [hW8, size_setCells, hm7]; simp, by have := hb7.size; have := S1.out; omega⟩
  have HW8 := Lib.hid hW8
  have HM7 := Lib.hid hm7
  clear hW8 hb7 B78 B8 hm7
  go_wp2_with (refine wpList_store_key rfl _ _ rfl w7.heap.size 0 0 rfl rfl (by rw [← HM7.out]; exact T7.out) ?_; rw [← HM7.out, ← HW8.out])
  go_ret
  exact ⟨rfl, by rw [← HN.out]; exact C8.out⟩

set_option maxRecDepth 100000 in
set_option maxHeartbeats 4000000 in
theorem walk_yes (X Y : Nat) (hX : X < M) (hY : Y < M) (A : Option Addr) (n c : Nat) (g : Nat → Nat) (w : World) (hb : Byt w A n c g) (hn : n ≤ 16384) :
    Calls Try.prog 16 #[.agg (kl X Y).toArray, .slice A n c] w fun e w' => e = .returned (.bool true) ∧ Below w.heap.size w w' := by
  have hnM : n < M := by unfold M; omega
  have hC := fun (w : World) (h : Byt w A n c g) => mac_yes X Y A n c g w hX hY h hn
  have hPt := fun (w : World) (h : Byt w A n c g) => portions_any A n c g w h (by omega)
  have hD := fun w => derive_any X Y 2 n w hX hY (by decide) hnM
  have hdo := drv_ok (t := 2) hX hY (by decide) hnM
  have hcv : IntKind.u64.wrap (n : Int) = (n : Int) := by simp [IntKind.wrap, IntKind.bits, IntKind.signed]; unfold M at hnM; omega
  obtain ⟨S0, hS⟩ : ∃ S0, S0 = (drv X Y 2 n).1 := ⟨_, rfl⟩
  obtain ⟨T0, hT⟩ : ∃ T0, T0 = (drv X Y 2 n).2 := ⟨_, rfl⟩
  have hST : drv X Y 2 n = (S0, T0) := by rw [hS, hT]
  rw [← hS, ← hT] at hD
  have HMq : Hid (macV X Y g n = fld (macS X Y) (S0, T0) g n (cnt n)) := Lib.hid (by unfold macV; rw [hST])
  have HOk : Hid (∀ k, Ok (fld (macS X Y) (S0, T0) g n k)) := Lib.hid (fun k => fld_ok (fun _ _ hs hp => macS_ok hX hY hs hp) (by rw [← hST]; exact hdo) hb.lt n k)
  have HPok : Hid (∀ k, Ok (pw g n k)) := Lib.hid (fun k => pw_ok hb.lt n k)
  have HE := Lib.hid (fun (a b : Nat) (w : World) (ha : a < M) (hb : b < M) => encrypt_any X Y a b w hX hY ha hb)
  have oP := macV_ok hX hY hb.lt hnM
  obtain ⟨P, hP⟩ : ∃ P, P = (macV X Y g n).1 := ⟨_, rfl⟩
  obtain ⟨Q, hQ⟩ : ∃ Q, Q = (macV X Y g n).2 := ⟨_, rfl⟩
  unfold Ok at oP
  rw [← hP, ← hQ] at hC oP
  have HQ : Hid (∀ w, (Op.equalIn 10000 23 (.agg (kl P Q).toArray) (.agg (kl P Q).toArray)).run Try.prog w = .ok true w) := Lib.hid (fun w => by rw [run_equal_key oP.1 oP.2 oP.1 oP.2 w]; simp [same])
  have HPQ := Lib.hid (And.intro hP hQ)
  have HC := Lib.hid hC
  have HPt := Lib.hid hPt
  have HD := Lib.hid hD
  have HG := Lib.hid hb.lt
  have HNn := Lib.hid hn
  clear hC hPt hD hdo hS hT hST oP hP hQ hnM
  have HAl := Lib.hid (fun w => alive_any w)
  obtain ⟨N, hN⟩ : ∃ N, N = w.heap.size := ⟨_, rfl⟩
  obtain ⟨W1, hW1⟩ : ∃ W1, W1 = w.alloc (.cells (kl X Y).toArray 23) := ⟨_, rfl⟩
  have HB : Hid (Below N w W1) := Lib.hid (by rw [hW1, hN]; exact (Below.refl _ _).alloc (Nat.le_refl _) _)
  have HL : Hid (W1.heap.size = N + 1) := Lib.hid (by rw [hW1, hN]; simp)
  have HK : Hid (KeyAt W1 N X Y) := Lib.hid (by rw [hW1, hN]; exact KeyAt.new w X Y 23)
  have HW := Lib.hid hW1
  have HN := Lib.hid hN
  have HYw := Lib.hid hb
  clear hW1 hN hX hY hb
  have d1 : decide ((16384 : Int) < (n : Int)) = false := decide_eq_false (by omega)
  have d3 : ¬ ((16384 : Int) < (n : Int)) := by omega
  go_enter Try.func16, Try.ntmps16
  go_wp2_with fail
  rw [← HW.out, ← HN.out]
  refine (HAl.out _).mono ?_
  rintro e w1 ⟨rfl, hb1⟩
  have K1 := Lib.hid (HK.out.keep hb1)
  have B1 := Lib.hid (HB.out.trans (hb1.mono (by rw [HL.out]; omega)))
  have D1 := Lib.hid (hb1.mono (show N + 1 ≤ W1.heap.size by rw [HL.out]; omega))
  have S1 : Hid (N + 1 ≤ w1.heap.size) := Lib.hid (by rw [← HL.out]; exact hb1.size)
  clear hb1
  go_wp2_with (refine wpList_load_key rfl _ rfl N rfl X Y K1.out ?_)
  have Y1 : Hid (Byt w1 A n c g) := Lib.hid (HYw.out.keep (by rw [← HN.out]; exact B1.out))
  refine (HC.out w1 Y1.out).mono ?_
  rintro e w7 ⟨rfl, hb7⟩
  obtain ⟨m7, hm7⟩ : ∃ m7, m7 = w7.heap.size := ⟨_, rfl⟩
  obtain ⟨W8, hW8⟩ : ∃ W8, W8 = (w7.alloc (.cells z16 23)).setCells m7 0 (kl P Q) := ⟨_, rfl⟩
  have T7 : Hid ((w7.alloc (.cells z16 23)).there m7 0 16) := Lib.hid (by rw [hm7]; exact (Row.zeros w7 23).there)
  have B78 : Below w7.heap.size w7 W8 := by rw [hW8, hm7]; exact below_setCells _ _ _ _ ((Below.refl _ _).alloc (Nat.le_refl _) _) (Nat.le_refl _)
  have B8 := hb7.trans (B78.mono hb7.size)
  have K8 : Hid (KeyAt W8 m7 P Q) := Lib.hid (by rw [hW8]; exact KeyAt.stored T7.out P Q)
  have N8 : Hid (KeyAt W8 N X Y) := Lib.hid (K1.out.keep B8)
  have C8 : Hid (Below N w W8) := Lib.hid (B1.out.trans (B8.mono (by have := S1.out; omega)))
  have D8 : Hid (Below (N + 1) W1 W8) := Lib.hid (D1.out.trans (B8.mono S1.out))
  have S8 : Hid (m7 < W8.heap.size ∧ N < m7) := Lib.hid ⟨by rw [hW8, size_setCells, hm7]; simp, by have := hb7.size; have := S1.out; omega⟩
  have HW8 := Lib.hid hW8
  have HM7 := Lib.hid hm7
  clear hW8 hb7 B78 B8 hm7
  have Y8 : Hid (Byt W8 A n c g) := Lib.hid (HYw.out.keep (by rw [← HN.out]; exact C8.out))
  go_wp2_with (first
    | ((refine wpList_store_key rfl _ _ rfl w7.heap.size P Q rfl rfl (by rw [← HM7.out]; exact T7.out) ?_); rw [← HM7.out, ← HW8.out])
    | (refine wpList_load_key rfl _ rfl N rfl X Y N8.out ?_))
  refine (HD.out W8).mono ?_
  rintro e w9 ⟨rfl, hb9⟩
  obtain ⟨sb, hsb⟩ : ∃ sb, sb = w9.heap.size := ⟨_, rfl⟩
  obtain ⟨W10, hW10⟩ : ∃ W10, W10 = (w9.alloc (.cells z16 23)).setCells sb 0 (kl S0 T0) := ⟨_, rfl⟩
  have T9 : Hid ((w9.alloc (.cells z16 23)).there sb 0 16) := Lib.hid (by rw [hsb]; exact (Row.zeros w9 23).there)
  have B910 : Below w9.heap.size w9 W10 := by rw [hW10, hsb]; exact below_setCells _ _ _ _ ((Below.refl _ _).alloc (Nat.le_refl _) _) (Nat.le_refl _)
  have B10 := hb9.trans (B910.mono hb9.size)
  have G10 : Hid (KeyAt W10 sb S0 T0) := Lib.hid (by rw [hW10]; exact KeyAt.stored T9.out S0 T0)
  have T10 : Hid (W10.there sb 0 16) := Lib.hid (by rw [hW10]; exact World.there_setCells T9.out _ _ _)
  have K10 : Hid (KeyAt W10 m7 P Q) := Lib.hid (K8.out.keep B10)
  have N10 : Hid (KeyAt W10 N X Y) := Lib.hid (N8.out.keep B10)
  have C10 : Hid (Below N w W10) := Lib.hid (C8.out.trans (B10.mono (by have := S8.out; omega)))
  have S10 : Hid (sb < W10.heap.size ∧ m7 < sb) := Lib.hid ⟨by rw [hW10, size_setCells, hsb]; simp, by have := hb9.size; have := S8.out; omega⟩
  have Y10 : Hid (Byt W10 A n c g) := Lib.hid (HYw.out.keep (by rw [← HN.out]; exact C10.out))
  have HW10 := Lib.hid hW10
  have HSB := Lib.hid hsb
  clear hW10 hb9 B910 B10 hsb
  go_wp2_with (refine wpList_store_key rfl _ _ rfl w9.heap.size S0 T0 rfl rfl (by rw [← HSB.out]; exact T9.out) ?_; rw [← HSB.out, ← HW10.out])
  refine (HPt.out W10 Y10.out).mono ?_
  rintro e w11 ⟨rfl, hb11, hr11⟩
  obtain ⟨pb, hpb⟩ : ∃ pb, pb = W10.heap.size := ⟨_, rfl⟩
  rw [← hpb] at hr11 ⊢
  have G11 : Hid (KeyAt w11 sb S0 T0) := Lib.hid (G10.out.keep hb11)
  have T11 : Hid (w11.there sb 0 16) := Lib.hid (there_below T10.out hb11 (there_lt T10.out (by omega)))
  have K11 : Hid (KeyAt w11 m7 P Q) := Lib.hid (K10.out.keep hb11)
  have N11 : Hid (KeyAt w11 N X Y) := Lib.hid (N10.out.keep hb11)
  have C11 : Hid (Below N w w11) := Lib.hid (C10.out.trans (hb11.mono (by have := S10.out; have := S8.out; omega)))
  have S11 : Hid (N + 1 ≤ w11.heap.size) := Lib.hid (by have := hb11.size; have := S10.out; have := S8.out; omega)
  have O : Hid (N < m7 ∧ m7 < sb ∧ sb < pb) := Lib.hid ⟨S8.out.2, S10.out.2, by rw [hpb]; exact S10.out.1⟩
  have HR := Lib.hid hr11
  clear hb11 hr11 hpb T10 G10 K10 N10 C10 S10 Y10 HW10 HSB T9 K8 N8 C8 D8 S8 HW8 HM7 T7 Y8 Y1 K1 B1 D1 S1
  go_wp2_with fail
  go_loopw [10] (fun i wr => ∃ k : Nat, k ≤ cnt n ∧ i = .int .i64 (k : Int) ∧ Hid (Below N w11 wr) ∧ Hid (KeyAt wr N X Y ∧ KeyAt wr m7 P Q ∧ RowN wr pb (16 * cnt n) (fun i => if i < n then g i else 0)) ∧ Hid (wr.there sb 0 16 ∧ KeyAt wr sb (fld (macS X Y) (S0, T0) g n k).1 (fld (macS X Y) (S0, T0) g n k).2)) (fun i _ => cnt n - (intOf i).toNat)
  case atStart => exact ⟨0, by omega, rfl, Lib.hid (Below.refl _ _), Lib.hid ⟨N11.out, K11.out, HR.out⟩, Lib.hid ⟨T11.out, G11.out⟩⟩
  case round =>
    obtain ⟨k, hk, rfl, HRr, HKs, HI⟩ := hrel
    have HRs : Hid (N ≤ wr.heap.size) := Lib.hid (by have := HRr.out.size; have := S11.out; omega)
    by_cases hlt : k < cnt n
    · have hk7 : k < 70000 := by have := HNn.out; unfold cnt at hlt; omega
      have hd : decide ((k : Int) < ((cnt n : Nat) : Int)) = true := decide_eq_true (by omega)
      have hd2 : decide (k < cnt n) = true := decide_eq_true hlt
      have hsk := HOk.out k
      have hpk := HPok.out k
      have hfs : fld (macS X Y) (S0, T0) g n (k + 1) = enc X Y ((fld (macS X Y) (S0, T0) g n k).1 ^^^ (pw g n k).1) ((fld (macS X Y) (S0, T0) g n k).2 ^^^ (pw g n k).2) := rfl
      have hat := fun (w' : World) (h : RowN w' pb (16 * cnt n) (fun i => if i < n then g i else 0)) => h.key_at HG.out hlt
      obtain ⟨S, hS⟩ : ∃ S, S = (fld (macS X Y) (S0, T0) g n k).1 := ⟨_, rfl⟩
      obtain ⟨T, hT⟩ : ∃ T, T = (fld (macS X Y) (S0, T0) g n k).2 := ⟨_, rfl⟩
      obtain ⟨C, hC⟩ : ∃ C, C = (pw g n k).1 := ⟨_, rfl⟩
      obtain ⟨D, hD⟩ : ∃ D, D = (pw g n k).2 := ⟨_, rfl⟩
      unfold Ok at hsk hpk
      rw [← hS, ← hT] at hsk hfs
      rw [← hC, ← hD] at hpk hfs hat
      have HI2 : Hid (KeyAt wr sb S T) := Lib.hid (by rw [hS, hT]; exact HI.out.2)
      have HI1 := Lib.hid HI.out.1
      have he1 := fun w => HE.out (S ^^^ C) (T ^^^ D) w (xor_lt hsk.1 hpk.1) (xor_lt hsk.2 hpk.2)
      obtain ⟨U, hU⟩ : ∃ U, U = (enc X Y (S ^^^ C) (T ^^^ D)).1 := ⟨_, rfl⟩
      obtain ⟨V, hV⟩ : ∃ V, V = (enc X Y (S ^^^ C) (T ^^^ D)).2 := ⟨_, rfl⟩
      rw [← hU, ← hV] at he1
      have HF : Hid ((fld (macS X Y) (S0, T0) g n (k + 1)).1 = U ∧ (fld (macS X Y) (S0, T0) g n (k + 1)).2 = V) := Lib.hid (by rw [hfs, hU, hV]; exact ⟨rfl, rfl⟩)
      have HE1 := Lib.hid he1
      have HX := Lib.hid (fun w => lawXor_any S T C D w)
      have HAt := Lib.hid hat
      clear he1 hat hfs hS hT hC hD hU hV hsk hpk HI
      go_wp2_with fail
      have O1 := O.out
      refine wp_region_inv (by kernel_rfl) (by kernel_rfl) (fun l a w' => a = { tmps := #[Value.agg (kl X Y).toArray, Value.slice A n c, Value.pointer (some ⟨N, 0, none⟩), undef, Value.bool false, Value.bool true, Value.pointer (some ⟨m7, 0, none⟩), Value.int .i64 (0 : Int), Value.pointer (some ⟨sb, 0, none⟩), Value.slice (some ⟨pb, 0, none⟩) (cnt n) (cnt n), Value.int .i64 (k : Int), Value.bool true, Value.tuple #[Value.agg (kl P Q).toArray, Value.int IntKind.i64 0], Value.agg (kl X Y).toArray, Value.slice A n c, Value.tuple #[Value.agg (kl P Q).toArray, Value.int IntKind.i64 0], Value.agg (kl P Q).toArray, Value.int .i64 (0 : Int), Value.slice A n c, Value.int .i64 (n : Int), Value.bool false, undef, undef, undef, undef, undef, Value.agg (kl X Y).toArray, Value.slice A n c, Value.int .i64 (n : Int), Value.int .u64 (n : Int), Value.agg (kl S0 T0).toArray, Value.slice A n c, Value.slice (some ⟨pb, 0, none⟩) (cnt n) (cnt n), Value.int .i64 (k : Int), Value.slice (some ⟨pb, 0, none⟩) (cnt n) (cnt n), Value.int .i64 (cnt n : Int), Value.bool true, u37, u38, bif l 0 then Value.agg (kl X Y).toArray else u39, bif l 1 then Value.agg (kl S T).toArray else u40, bif l 2 then Value.slice (some ⟨pb, 0, none⟩) (cnt n) (cnt n) else u41, bif l 3 then Value.int .i64 (k : Int) else u42, bif l 4 then Value.pointer (some ⟨pb, k * 16, none⟩) else u43, bif l 5 then Value.agg (kl C D).toArray else u44, bif l 6 then Value.agg (kl (S ^^^ C) (T ^^^ D)).toArray else u45, bif l 7 then Value.agg (kl U V).toArray else u46, undef, undef, undef, undef, undef, undef, undef, undef, undef, undef], defers := [] } ∧ Below (N) wr w' ∧ KeyAt w' N X Y ∧ KeyAt w' m7 P Q ∧ RowN w' pb (16 * cnt n) (fun i => if i < n then g i else 0) ∧ w'.there (sb) 0 16 ∧ (l 8 = true → KeyAt w' (sb) U V) ∧ (l 8 = false → KeyAt w' (sb) S T) ∧ (l 8 = true → l 1 = true)) ⟨rfl, (Below.refl _ _).drew, HKs.out.1, HKs.out.2.1, HKs.out.2.2.drew, HI1.out, (fun h => by cases h), (fun _ => HI2.out), (fun h => by cases h)⟩ ?_ ?_
      · rintro l a w' i ⟨rfl, hB, K0, K1, K2, hT, hS, hP, ho⟩ hi hli hpre
        have hi2 : i < 9 := hi
        have hcase : i = 0 ∨ i = 1 ∨ i = 2 ∨ i = 3 ∨ i = 4 ∨ i = 5 ∨ i = 6 ∨ i = 7 ∨ i = 8 := by omega
        clear hi hi2
        rcases hcase with rfl | rfl | rfl | rfl | rfl | rfl | rfl | rfl | rfl
        · -- 0: Op.load 23 (Operand.tmp 2)
          refine wpOp_step rfl (fun K hK => ?_)
          clear hpre
          rw [if_pos (by rfl)]
          refine wp_load_mid 23 _ rfl _ (0) rfl (kl X Y) _ (K0) Try.underlying23 rfl (by rw [kl_len]; exact size23) ?_
          exact hK _ _ ⟨by simp [upd, Act.put], hB, K0, K1, K2, hT, (fun e => hS (by simpa [upd] using e)), (fun e => hP (by simpa [upd] using e)), (by first | (simp [upd]; done) | simpa [upd] using ho)⟩
        · -- 1: Op.load 23 (Operand.tmp 8)
          refine wpOp_step rfl (fun K hK => ?_)
          clear hpre
          rw [if_pos (by rfl)]
          have n7 : l 8 = false := by cases h : l 8; rfl; exact absurd (ho h) (by rw [hli]; decide)
          refine wp_load_mid 23 _ rfl _ 0 rfl (kl S T) _ (hP n7) Try.underlying23 rfl (by rw [kl_len]; exact size23) ?_
          exact hK _ _ ⟨by simp [upd, Act.put], hB, K0, K1, K2, hT, (fun e => hS (by simpa [upd] using e)), (fun e => hP (by simpa [upd] using e)), (by first | (simp [upd]; done) | simpa [upd] using ho)⟩
        · -- 2: Op.move (Operand.tmp 9)
          refine wpOp_step rfl (fun K hK => ?_)
          clear hpre
          rw [if_pos (by rfl)]
          go_simp
          exact hK _ _ ⟨by simp [upd, Act.put], hB, K0, K1, K2, hT, (fun e => hS (by simpa [upd] using e)), (fun e => hP (by simpa [upd] using e)), (by first | (simp [upd]; done) | simpa [upd] using ho)⟩
        · -- 3: Op.move (Operand.tmp 10)
          refine wpOp_step rfl (fun K hK => ?_)
          clear hpre
          rw [if_pos (by rfl)]
          go_simp
          exact hK _ _ ⟨by simp [upd, Act.put], hB, K0, K1, K2, hT, (fun e => hS (by simpa [upd] using e)), (fun e => hP (by simpa [upd] using e)), (by first | (simp [upd]; done) | simpa [upd] using ho)⟩
        · -- 4: Op.indexAddr 58 (Operand.tmp 41) (Operand.tmp 42)
          have p2 : l 2 = true := hpre _ rfl ⟨2, .data⟩ (by simp) rfl
          have p3 : l 3 = true := hpre _ rfl ⟨3, .data⟩ (by simp) rfl
          refine wpOp_step rfl (fun K hK => ?_)
          simp only [p2, p3, cond_true]
          clear hpre
          rw [if_pos (by rfl)]
          have l1 : (0 : Int) ≤ (k : Int) := by omega
          have l2 : (k : Int) < ((cnt n : Nat) : Int) := by omega
          go_simp
          exact hK _ _ ⟨by simp [upd, Act.put, p2, p3], hB, K0, K1, K2, hT, (fun e => hS (by simpa [upd] using e)), (fun e => hP (by simpa [upd] using e)), (by first | (simp [upd, p2, p3]; done) | simpa [upd, p2, p3] using ho)⟩
        · -- 5: Op.load 23 (Operand.tmp 43)
          have p4 : l 4 = true := hpre _ rfl ⟨4, .data⟩ (by simp) rfl
          refine wpOp_step rfl (fun K hK => ?_)
          simp only [p4, cond_true]
          clear hpre
          rw [if_pos (by rfl)]
          refine wp_load_mid 23 _ rfl _ (k * 16) rfl (kl C D) _ (HAt.out _ K2) Try.underlying23 rfl (by rw [kl_len]; exact size23) ?_
          exact hK _ _ ⟨by simp [upd, Act.put, p4], hB, K0, K1, K2, hT, (fun e => hS (by simpa [upd] using e)), (fun e => hP (by simpa [upd] using e)), (by first | (simp [upd, p4]; done) | simpa [upd, p4] using ho)⟩
        · -- 6: Op.call { callee := Callee.value (Operand.func 26), args := 
          have p1 : l 1 = true := hpre _ rfl ⟨1, .data⟩ (by simp) rfl
          have p5 : l 5 = true := hpre _ rfl ⟨5, .data⟩ (by simp) rfl
          refine wpOp_step rfl (fun K hK => ?_)
          simp only [p1, p5, cond_true]
          clear hpre
          rw [if_pos (by rfl)]
          go_simp
          refine (HX.out _).mono ?_
          rintro e w5 ⟨rfl, hb5⟩
          exact hK _ _ ⟨by simp [upd, Act.put, p1, p5], hB.trans (hb5.mono (Nat.le_trans (HRs.out) hB.size)), K0.keep hb5, K1.keep hb5, K2.keep hb5, there_below hT hb5 (there_lt hT (by omega)), (fun e => (hS (by simpa [upd] using e)).keep hb5), (fun e => (hP (by simpa [upd] using e)).keep hb5), (by first | (simp [upd, p1, p5]; done) | simpa [upd, p1, p5] using ho)⟩
        · -- 7: Op.call { callee := Callee.value (Operand.func 27), args := 
          have p0 : l 0 = true := hpre _ rfl ⟨0, .data⟩ (by simp) rfl
          have p6 : l 6 = true := hpre _ rfl ⟨6, .data⟩ (by simp) rfl
          refine wpOp_step rfl (fun K hK => ?_)
          simp only [p0, p6, cond_true]
          clear hpre
          rw [if_pos (by rfl)]
          go_simp
          refine (HE1.out _).mono ?_
          rintro e w5 ⟨rfl, hb5⟩
          exact hK _ _ ⟨by simp [upd, Act.put, p0, p6], hB.trans (hb5.mono (Nat.le_trans (HRs.out) hB.size)), K0.keep hb5, K1.keep hb5, K2.keep hb5, there_below hT hb5 (there_lt hT (by omega)), (fun e => (hS (by simpa [upd] using e)).keep hb5), (fun e => (hP (by simpa [upd] using e)).keep hb5), (by first | (simp [upd, p0, p6]; done) | simpa [upd, p0, p6] using ho)⟩
        · -- 8: Op.store 23 (Operand.tmp 8) (Operand.tmp 46)
          have p7 : l 7 = true := hpre _ rfl ⟨7, .data⟩ (by simp) rfl
          have p0 : l 0 = true := hpre _ rfl ⟨0, .phase⟩ (by simp) rfl
          have p1 : l 1 = true := hpre _ rfl ⟨1, .phase⟩ (by simp) rfl
          have p2 : l 2 = true := hpre _ rfl ⟨2, .phase⟩ (by simp) rfl
          have p3 : l 3 = true := hpre _ rfl ⟨3, .phase⟩ (by simp) rfl
          have p4 : l 4 = true := hpre _ rfl ⟨4, .phase⟩ (by simp) rfl
          have p5 : l 5 = true := hpre _ rfl ⟨5, .phase⟩ (by simp) rfl
          have p6 : l 6 = true := hpre _ rfl ⟨6, .phase⟩ (by simp) rfl
          refine wpOp_step rfl (fun K hK => ?_)
          simp only [p7, p0, p1, p2, p3, p4, p5, p6, cond_true]
          clear hpre
          rw [if_pos (by rfl)]
          refine wp_store_mid 23 _ _ rfl (sb) 0 (kl U V).toArray rfl rfl (by simpa [kl_len] using hT) (by simp [kl_len, size23]) (kl_arr U V) ?_
          rw [List.toList_toArray]
          exact hK _ _ ⟨by simp [upd, Act.put, p7, p0, p1, p2, p3, p4, p5, p6], below_setCells _ _ _ _ hB (by omega), K0.setCells _ _ (by omega), K1.setCells _ _ (by omega), K2.setCells _ _ (by omega), World.there_setCells hT _ _ _, (fun _ => KeyAt.stored hT U V), (fun e => absurd e (by simp [upd])), (by simp [upd, p7, p0, p1, p2, p3, p4, p5, p6])⟩
      · rintro l a w9 hall ⟨rfl, hBz, K0, K1, K2, hT, hS, hP, ho⟩
        simp only [hall 0 (by decide), hall 1 (by decide), hall 2 (by decide), hall 3 (by decide), hall 4 (by decide), hall 5 (by decide), hall 6 (by decide), hall 7 (by decide), cond_true]
        replace hS := hS (hall 8 (by decide))
        clear hall
        go_wp2
        go_roundw
        case rel => exact ⟨k + 1, by omega, by go_num, Lib.hid (HRr.out.trans (hBz.mono (Nat.le_refl _))), Lib.hid ⟨K0, K1, K2⟩, Lib.hid ⟨hT, by rw [HF.out.1, HF.out.2]; exact hS⟩⟩
        case measure => simp [intOf]; omega
    · have hkn : k = cnt n := by omega
      have hd : decide ((k : Int) < ((cnt n : Nat) : Int)) = false := decide_eq_false (by omega)
      have hd2 : decide (k < cnt n) = false := decide_eq_false hlt
      have HKf : Hid (KeyAt wr sb P Q) := Lib.hid (by have h := HI.out.2; rw [hkn, ← HMq.out, ← HPQ.out.1, ← HPQ.out.2] at h; exact h)
      have HKm := Lib.hid HKs.out.2.1
      have HCf : Hid (Below N w wr) := Lib.hid (C11.out.trans HRr.out)
      have q1 := HQ.out
      clear HI HKs hlt
      go_wp2_with (first
        | (refine wpList_load_key_w rfl _ rfl m7 rfl P Q HKm.out ?_)
        | (refine wpList_load_key_w rfl _ rfl sb rfl P Q HKf.out ?_))
      go_ret
      exact ⟨rfl, by rw [← HN.out]; exact HCf.out⟩

theorem walk (X Y : Nat) (hX : X < M) (hY : Y < M) (A : Option Addr) (n c : Nat) (g : Nat → Nat) (w0 : World) (hb : Byt w0 A n c g) :
    Calls Try.prog 16 #[.agg (kl X Y).toArray, .slice A n c] w0 fun e w' => e = .returned (.bool true) ∧ Below w0.heap.size w0 w' := by
  by_cases h1 : 16384 < n
  · exact walk_big X Y A n c w0 h1
  · exact walk_yes X Y hX hY A n c g w0 hb (by omega)
end Go.Proofs.Ytphhppdokdageaa.cipherChain
