/-
  The walk through the law of encodings.
-/
import Derived.Test.YtchkgccnipejhaaDecH
import Derived.Test.YtchkgccnipejhaaJU
namespace Go.Proofs.Ytchkgccnipejhaa
open Go.RowKit TR L2 L2.SP
set_option linter.unusedVariables false
set_option linter.unusedSimpArgs false

theorem own_addr {w : World} {B e s n c : Nat} {A : Option Addr} {xs : List Value} (h : w.ownsRow B e s (.slice A n c) n xs) : (A = none → c = 0) ∧ ∀ a, A = some a → a.spot = none := by
  rcases h.2 with ⟨hv, _⟩ | ⟨g, cap, cur, hv, _⟩
  · injection hv with e1 e2 e3
    exact ⟨fun _ => e3, fun a ha => (by rw [e1] at ha; cases ha)⟩
  · injection hv with e1 e2 e3
    exact ⟨fun ha => (by rw [e1] at ha; cases ha), fun a ha => (by rw [e1] at ha; cases ha; rfl)⟩
theorem byt_nil (w : World) : Byt w none 0 0 (fun _ => 0) := ⟨Nat.le_refl _, by simp [maxLen], fun _ => (by decide : 0 < 256), fun h => absurd h (by omega)⟩
/-- What Encode answers, as bytes and an error. -/
theorem enc_form (b n np : Nat) (x y : Nat × Nat) (F : Nat → Int × Int × (Nat × Nat)) (K : Nat → Nat × Nat) : ∃ (k : Nat) (f : Nat → Nat), (∀ i, f i < 256) ∧ ∀ (B : Nat) (e : Ending) (w' : World), ((ckn n np F ≠ 0 ∧ e = .returned (.tuple #[.slice none 0 0, .int .i64 (ckn n np F)])) ∨ (ckn n np F = 0 ∧ ∃ v, e = .returned (.tuple #[v, .int .i64 0]) ∧ w'.ownsRow B 5 1 v (hln n np) (hbs n b np F K x y))) → ∃ A c, e = .returned (.tuple #[.slice A k c, .int .i64 (ckn n np F)]) ∧ Byt w' A k c f := by
  by_cases hk : ckn n np F = 0
  · obtain ⟨h64, h8, hby⟩ := ckn_zero hk
    obtain ⟨f, hf, hfe⟩ := hbs_byr n b np F K x y h64 h8 hby
    refine ⟨hln n np, f, hf, fun B e w' h => ?_⟩
    rcases h with ⟨h, _⟩ | ⟨_, v, rfl, ho⟩
    · exact absurd hk h
    · rw [hfe] at ho
      obtain ⟨A, c, rfl, hb⟩ := own_byt ho hf
      exact ⟨A, c, by rw [hk], hb⟩
  · refine ⟨0, fun _ => 0, fun _ => (by decide : 0 < 256), fun B e w' h => ?_⟩
    rcases h with ⟨_, rfl⟩ | ⟨h, _⟩
    · exact ⟨none, 0, rfl, byt_nil w'⟩
    · exact absurd h hk
/-- What Decode answers, as a header and an error. -/
theorem dec_form (L : Nat) (f : Nat → Nat) (hf : ∀ i, f i < 256) : ∃ (n np : Nat) (B0 : Int) (x y : Nat × Nat) (F : Nat → Int × Int × (Nat × Nat)) (G : Nat → Int × Int) (z : Int), n ≤ 256 ∧ np ≤ 256 ∧ ∀ (B : Nat) (e : Ending) (w' : World), DcE L f B e w' → ∃ v pv, e = .returned (.tuple #[.agg (hdi v pv B0 x y).toArray, .int .i64 z]) ∧ w'.ownsRow B 90 18 v n (lbF F n) ∧ w'.ownsRow B 70 2 pv np (ptF G np) := by
  by_cases h : DckP L f
  · refine ⟨hn0 L f, hnp L f, ((nbS L f (1 + 18 * hn0 L f) : Nat) : Int), kyF L f (10 + 18 * hn0 L f + 16 * hnp L f), kyF L f (26 + 18 * hn0 L f + 16 * hnp L f), dF L f, pI (pS L f (10 + 18 * hn0 L f)), 0, Nat.le_of_lt (flz_lt L f hf _), Nat.le_of_lt (flz_lt L f hf _), fun B e w' hd => ?_⟩
    rcases hd with ⟨_, v, pv, rfl, h1, h2⟩ | ⟨h1, _⟩
    · exact ⟨v, pv, rfl, h1, h2⟩
    · exact absurd h h1
  · refine ⟨0, 0, 0, (0, 0), (0, 0), fun _ => (0, 0, (0, 0)), fun _ => (0, 0), 12, by omega, by omega, fun B e w' hd => ?_⟩
    rcases hd with ⟨h1, _⟩ | ⟨_, rfl⟩
    · exact absurd h1 h
    · exact ⟨.slice none 0 0, .slice none 0 0, rfl, World.ownsRow_nil _ _ _ _, World.ownsRow_nil _ _ _ _⟩
/-- Items and points of one's own, where they stand. -/
theorem hdr_rows {w : World} {B1 B2 n np : Nat} {v pv : Value} {F : Nat → Int × Int × (Nat × Nat)} {H : Nat → Int × Int} (h1 : w.ownsRow B1 90 18 v n (lbF F n)) (h2 : w.ownsRow B2 70 2 pv np (ptF H np)) :
    ∃ Ai Ap mi mp g1 p1, v = .slice Ai n mi ∧ pv = .slice Ap np mp ∧ n ≤ mi ∧ np ≤ mp ∧ HdIn w Ai Ap g1 0 n mi p1 0 np mp F H := by
  obtain ⟨Ai, mi, rfl, hc1, q1⟩ := own_items h1
  obtain ⟨Ap, mp, rfl, hc2, q2⟩ := own_points h2
  have r1 : ∃ g1, (n = 0 ∨ Ai = some ⟨g1, 0, none⟩) ∧ ∀ i, i < n → w.rangeAt g1 (0 + i * 18) (lbl (F i).1 (F i).2.1 (F i).2.2) := by
    rcases q1 with h0 | ⟨g1, h1, _, h2⟩
    · exact ⟨0, .inl h0, fun i hi => by omega⟩
    · exact ⟨g1, .inr h1, fun i hi => by rw [Nat.zero_add]; exact h2 i hi⟩
  have r2 : ∃ h2, (np = 0 ∨ Ap = some ⟨h2, 0, none⟩) ∧ ∀ i, i < np → w.rangeAt h2 (0 + i * 2) [.int .u64 (H i).1, .int .u64 (H i).2] := by
    rcases q2 with h0 | ⟨g1, h1, _, h2⟩
    · exact ⟨0, .inl h0, fun i hi => by omega⟩
    · exact ⟨g1, .inr h1, fun i hi => by rw [Nat.zero_add]; exact h2 i hi⟩
  obtain ⟨g1, u1, u2⟩ := r1
  obtain ⟨p1, u3, u4⟩ := r2
  exact ⟨Ai, Ap, mi, mp, g1, p1, rfl, rfl, hc1, hc2, ⟨u1, u2, u3, u4⟩⟩
/-- Two headers of one form. -/
theorem sameHeader_in (a1 a2 p1 p2 : Option Addr) (g1 g2 o2 n m1 m2 h1 h2 r2 np k1 k2 : Nat) (B : Int) (x y : Nat × Nat) (F : Nat → Int × Int × (Nat × Nat)) (G : Nat → Int × Int) (w : World) (hn : n ≤ 4398046511104) (hnp : np ≤ 8796093022208) (hm1 : n ≤ m1) (hm2 : n ≤ m2) (hk1 : np ≤ k1) (hk2 : np ≤ k2) (i1 : HdIn w a1 p1 g1 0 n m1 h1 0 np k1 F G) (i2 : HdIn w a2 p2 g2 o2 n m2 h2 r2 np k2 F G) :
    Calls Try.prog 18 #[.agg (hdi (.slice a1 n m1) (.slice p1 np k1) B x y).toArray, .agg (hdi (.slice a2 n m2) (.slice p2 np k2) B x y).toArray] w fun e w' => e = .returned (.bool true) ∧ Below w.heap.size w w' :=
  sameHeader_gen a1 a2 p1 p2 g1 g2 o2 n m1 m2 h1 h2 r2 np k1 k2 B x y F G w hn hm1 hm2 (by
    rcases i1.had with h | h
    · exact .inl h
    · rcases i2.had with h' | h'
      · exact .inl h'
      · exact .inr ⟨h, h'⟩) (fun i hi => ⟨by have h := i1.itm i hi; rwa [Nat.zero_add] at h, i2.itm i hi⟩) hnp hk1 hk2 (by
    rcases i1.hpd with h | h
    · exact .inl h
    · rcases i2.hpd with h' | h'
      · exact .inl h'
      · exact .inr ⟨h, h'⟩) (fun i hi => ⟨by have h := i1.pnt i hi; rwa [Nat.zero_add] at h, i2.pnt i hi⟩)

set_option maxRecDepth 100000 in
set_option maxHeartbeats 800000 in
theorem headers_walk (b0 g o n m hb r np kp gl ol L cl : Nat) (A Ap AL : Option Addr) (x y : Nat × Nat) (F : Nat → Int × Int × (Nat × Nat)) (K : Nat → Nat × Nat) (f : Nat → Nat) (w : World) (hb0 : b0 < M) (hn : n ≤ 4398046511104) (hnp : np ≤ 8796093022208) (hnm : n ≤ m) (hkp : np ≤ kp)
    (hin : HdIn w A Ap g o n m hb r np kp F (pI K)) (hKo : ∀ i, i < np → Ok (K i))
    (hL : L ≤ 140737488351232) (hLc : L ≤ cl) (hcm : cl ≤ maxLen) (hf : ∀ i, f i < 256) (hAL : AL = none → L = 0) (had : L = 0 ∨ AL = some ⟨gl, ol, none⟩) (hcb : ∀ i, i < L → w.cell? ⟨gl, ol + i, none⟩ = some (.int .u8 (f i : Int))) :
    Calls Try.prog 3 #[.agg (hdi (.slice A n m) (.slice Ap np kp) (b0 : Int) x y).toArray, .slice AL L cl] w fun e w' => e = .returned (.bool true) ∧ Below w.heap.size w w' := by
  obtain ⟨i0, hi, hz0, hz1, hz2⟩ := info_parts info5
  obtain ⟨N, hN⟩ : ∃ N, N = w.heap.size := ⟨_, rfl⟩
  obtain ⟨W1, hW1⟩ : ∃ W1, W1 = w.alloc (.cells (hdi (.slice A n m) (.slice Ap np kp) (b0 : Int) x y).toArray 28) := ⟨_, rfl⟩
  have b1 : Below N w W1 := by rw [hW1, hN]; exact below_alloc _ _
  have e1 : Hdx W1 N (.slice A n m) (.slice Ap np kp) (b0 : Int) x y := by rw [hW1, hN]; exact Blk.new w _ _
  have s1 : W1.heap.size = N + 1 := by rw [hW1, hN]; simp
  have HIN := Lib.hid (fun (w1 : World) (hbw : Below N w w1) => hin.keep (by rw [← hN]; exact hbw))
  have HBL : Hid (∀ w1, Below N w w1 → ∀ i, i < L → w1.cell? ⟨gl, ol + i, none⟩ = some (.int .u8 (f i : Int))) := Lib.hid (fun w1 h i hi => (h.cell (p := ⟨gl, ol + i, none⟩) (by rw [hN]; exact World.block_lt_of_cell? w _ (hcb i hi))).trans (hcb i hi))
  have HBy : Hid (∀ w1, Below N w w1 → Byt w1 AL L cl f) := Lib.hid (fun w1 h => ⟨hLc, hcm, hf, fun h0 => by
    rcases had with h1 | h1
    · omega
    · exact ⟨gl, ol, h1, HBL.out w1 h⟩⟩)
  have HTw := Lib.hid (fun (w1 : World) (hbw : Below N w w1) => twinHeader_any (b0 : Int) x y A Ap g o n m hb r np kp F (pI K) w1 hn hnp (HIN.out w1 hbw))
  have HE1 := Lib.hid (fun (Ai Ap2 : Option Addr) (mi mp g1 p1 : Nat) (w1 : World) (h1 : n ≤ mi) (h3 : np ≤ mp) (k : HdIn w1 Ai Ap2 g1 0 n mi p1 0 np mp F (pI K)) => encode_any b0 g1 0 n mi p1 0 np mp Ai Ap2 x y F K w1 hb0 hn hnp h1 h3 k.had k.hpd k.itm (fun i hi => ⟨k.pnt i hi, hKo i hi⟩))
  have HE2 := Lib.hid (fun (w1 : World) (hbw : Below N w w1) => refEncode_any b0 g o n m hb r np kp A Ap x y F K w1 hb0 hn hnp hnm hkp (HIN.out w1 hbw).had (HIN.out w1 hbw).hpd (HIN.out w1 hbw).itm (fun i hi => ⟨(HIN.out w1 hbw).pnt i hi, hKo i hi⟩))
  have HSH := Lib.hid (fun (Ai Ap2 : Option Addr) (mi mp g1 p1 : Nat) (w1 : World) (h1 : n ≤ mi) (h3 : np ≤ mp) (k : HdIn w1 Ai Ap2 g1 0 n mi p1 0 np mp F (pI K)) (hbw : Below N w w1) => sameHeader_in Ai A Ap2 Ap g1 g o n mi m p1 hb r np mp kp (b0 : Int) x y F (pI K) w1 hn hnp h1 hnm h3 hkp k (HIN.out w1 hbw))
  have HD2 := Lib.hid (fun (w1 : World) (hb : Below N w w1) => refDecode_any AL gl ol L cl f w1 hf (by omega) hLc hcm had (HBL.out w1 hb))
  obtain ⟨k, f2, hf2, hEF⟩ := enc_form b0 n np x y F K
  obtain ⟨n2, np2, B2, x2, y2, F2, G2, z2, hn2, hnp2, hDF⟩ := dec_form L f hf
  have HDF := Lib.hid hDF
  obtain ⟨z, hz⟩ : ∃ z, z = ckn n np F := ⟨_, rfl⟩
  have HEF := Lib.hid (fun (B : Nat) (e : Ending) (w' : World) h => (by rw [hz]; exact hEF B e w' h : ∃ A c, e = .returned (.tuple #[.slice A k c, .int .i64 z]) ∧ Byt w' A k c f2))
  have HN := Lib.hid hN
  have HW := Lib.hid hW1
  have HNn := Lib.hid (And.intro hn2 hnp2)
  rw [← hN]
  clear hEF hDF hz hN hW1
  go_enter Try.func3, Try.ntmps3
  go_wp2_with ((with_reducible show wpList _ _ _ (Oper.mk _ (Op.load 28 _) _ _ _ _ :: _) _ _); refine wpList_load_hdi rfl _ rfl _ rfl _ _ _ _ _ (by rw [HW.out, HN.out] at e1; exact e1) ?_)
  rw [← HW.out]
  refine (HTw.out W1 b1).mono ?_
  rintro e w2 ⟨⟨A1, m1, A2, k2, rfl, ho1, ho2⟩, hb2⟩
  -- the bytes' own row
  have hO : (w2.alloc (.cells #[] 5)).ownsRow w2.heap.size 5 1 (.slice (some ⟨w2.heap.size, 0, none⟩) 0 0) 0 [] :=
    ⟨rfl, .inr ⟨w2.heap.size, 0, #[], rfl, Nat.le_refl _, heap_alloc_new w2 _, Nat.le_refl _, by simp [maxLen], rfl, rfl⟩⟩
  have b12 : Below N w w2 := b1.trans (hb2.mono (by omega))
  have b3 : Below w2.heap.size w2 (w2.alloc (.cells #[] 5)) := below_alloc _ _
  have s2 : N + 1 ≤ w2.heap.size := by rw [← s1]; exact hb2.size
  obtain ⟨v5, w5, hap, ho5, hg5⟩ := append_run (T := 29) (e := 5) (i0 := i0) (z := .int .u8 0) (size := 1) (bytes := 1) Try.underlying29 hi hz0 hz1 hz2 rfl (by omega) 29 (w2.alloc (.cells #[] 5)) w2.heap.size 0 L cl (.slice (some ⟨w2.heap.size, 0, none⟩) 0 0) [] (byr f L) AL hO hAL
    (fun ad hA j u hu => by
      have hj : j < L := by have := (List.getElem?_eq_some_iff.1 hu).1; rwa [byr_len] at this
      obtain rfl : ad = ⟨gl, ol, none⟩ := by
        rcases had with h0 | h0
        · omega
        · rw [h0] at hA; injection hA with hA; exact hA.symm
      rw [byr_get _ _ _ hj] at hu
      rw [Addr.add_mid, ← hu]
      exact HBL.out _ (b12.trans (b3.mono (by omega))) j hj)
    (by rw [byr_len, Nat.mul_one]) (byr_one _ _) (by unfold maxLen; omega) (by omega) (by simp)
  rw [Nat.zero_add, List.nil_append] at ho5
  have b25 : Below w2.heap.size w2 w5 := b3.grown hg5 (by simp) (fun b hb => own_block hO hb.symm)
  obtain ⟨A5, c5, hv5, hy5⟩ := own_byt ho5 hf
  subst hv5
  have had5 := own_addr ho5
  obtain ⟨Ai, Ap2, mi, mp, g1, p1, hv1, hv2, hmi, hmp, hti⟩ := hdr_rows ho1 ho2
  injection hv1 with q1 _ q2
  injection hv2 with q3 _ q4
  subst q1 q2 q3 q4
  obtain ⟨t6, h6, b56, -⟩ := hdrbox w5 (.slice A1 n m1) (.slice A2 np k2) (b0 : Int) x y
  obtain ⟨W6, hW6⟩ : ∃ W6, W6 = (w5.alloc (.cells z35 28)).setCells w5.heap.size 0 (hdi (.slice A1 n m1) (.slice A2 np k2) (b0 : Int) x y) := ⟨_, rfl⟩
  rw [← hW6] at h6 b56
  have b26 : Below w2.heap.size w2 W6 := b25.trans (b56.mono b25.size)
  obtain ⟨h5, hh5⟩ : ∃ h5, h5 = w5.heap.size := ⟨_, rfl⟩
  have H6 : Hid (Below N w W6 ∧ N ≤ W6.heap.size ∧ Hdx W6 N (.slice A n m) (.slice Ap np kp) (b0 : Int) x y ∧ Hdx W6 h5 (.slice A1 n m1) (.slice A2 np k2) (b0 : Int) x y ∧ HdIn W6 A1 A2 g1 0 n m1 p1 0 np k2 F (pI K) ∧ Byt W6 A5 L c5 f) := Lib.hid ⟨b12.trans (b26.mono (by omega)), by have := b26.size; omega, Blk.keep (Blk.keep e1 hb2) b26, by rw [hh5]; exact h6, hti.keep b26, hy5.keep b56⟩
  have HW6 := Lib.hid (And.intro hW6 hh5)
  have HT6 := Lib.hid t6
  have HM := Lib.hid (And.intro hmi (And.intro hmp had5))
  clear hO b12 b3 s2 ho5 hg5 b25 hy5 had5 ho1 ho2 hb2 hti t6 h6 b56 b26 hW6 hh5 b1 s1 e1 hmi hmp hin hKo hcb hAL had hLc hcm hf hb0 hn hnp hnm hkp hL hf2 hn2 hnp2 hi hz0 hz1 hz2
  go_wp2_with (first
    | (at_builtin; refine Lib.wpList_append_run _ rfl _ _ _ _ rfl _ _ rfl rfl _ _ hap ?_)
    | ((with_reducible show wpList _ _ _ (Oper.mk _ (Op.store 28 _ _) _ _ _ _ :: _) _ _); refine wpList_store_hdi rfl _ _ rfl _ _ _ _ _ _ rfl rfl rfl rfl HT6.out ?_; rw [← HW6.out.1, ← HW6.out.2])
    | ((with_reducible show wpList _ _ _ (Oper.mk _ (Op.load 28 _) _ _ _ _ :: _) _ _); refine wpList_load_hdi rfl _ rfl _ rfl _ _ _ _ _ H6.out.2.2.2.1 ?_))
  refine (HE1.out A1 A2 m1 k2 g1 p1 W6 HM.out.1 HM.out.2.1 H6.out.2.2.2.2.1).mono ?_
  rintro e w7 ⟨hE, hb7⟩
  obtain ⟨A7, c7, rfl, hy7⟩ := HEF.out _ _ _ hE
  have H7 : Hid (Below N w w7 ∧ N ≤ w7.heap.size ∧ Hdx w7 N (.slice A n m) (.slice Ap np kp) (b0 : Int) x y ∧ Hdx w7 h5 (.slice A1 n m1) (.slice A2 np k2) (b0 : Int) x y ∧ HdIn w7 A1 A2 g1 0 n m1 p1 0 np k2 F (pI K) ∧ Byt w7 A5 L c5 f ∧ Byt w7 A7 k c7 f2) := Lib.hid ⟨H6.out.1.trans (hb7.mono H6.out.2.1), Nat.le_trans H6.out.2.1 hb7.size, Blk.keep H6.out.2.2.1 hb7, Blk.keep H6.out.2.2.2.1 hb7, H6.out.2.2.2.2.1.keep hb7, H6.out.2.2.2.2.2.keep hb7, hy7⟩
  clear hE hb7 hy7 hap H6 HE1 HTw
  go_wp2_with ((with_reducible show wpList _ _ _ (Oper.mk _ (Op.load 28 _) _ _ _ _ :: _) _ _); refine wpList_load_hdi rfl _ rfl _ rfl _ _ _ _ _ (by rw [← HN.out]; exact H7.out.2.2.1) ?_)
  refine (HE2.out w7 H7.out.1).mono ?_
  rintro e w8 ⟨hE, hb8⟩
  obtain ⟨A8, c8, rfl, hy8⟩ := HEF.out _ _ _ hE
  have H8 : Hid (Below N w w8 ∧ N ≤ w8.heap.size ∧ Hdx w8 N (.slice A n m) (.slice Ap np kp) (b0 : Int) x y ∧ Hdx w8 h5 (.slice A1 n m1) (.slice A2 np k2) (b0 : Int) x y ∧ HdIn w8 A1 A2 g1 0 n m1 p1 0 np k2 F (pI K) ∧ Byt w8 A5 L c5 f) := Lib.hid ⟨H7.out.1.trans (hb8.mono H7.out.2.1), Nat.le_trans H7.out.2.1 hb8.size, Blk.keep H7.out.2.2.1 hb8, Blk.keep H7.out.2.2.2.1 hb8, H7.out.2.2.2.2.1.keep hb8, H7.out.2.2.2.2.2.1.keep hb8⟩
  have V1 := conv_byt (H7.out.2.2.2.2.2.2.keep hb8)
  have V2 := conv_byt hy8
  obtain ⟨s, hs⟩ : ∃ s, s = bst k f2 := ⟨_, rfl⟩
  rw [← hs] at V1 V2
  have hss : (s.toList != s.toList) = false := by simp
  clear hE hb8 hy8 hs H7 HE2 HEF
  go_wp2_with (first
    | ((with_reducible show wpList _ _ _ (Oper.mk _ (Op.load 28 _) _ _ _ _ :: _) _ _); refine wpList_load_hdo (by rfl) _ rfl _ rfl _ _ _ _ _ H8.out.2.2.2.1 ?_)
    | ((with_reducible show wpList _ _ _ (Oper.mk _ (Op.load 28 _) _ _ _ _ :: _) _ _); refine wpList_load_hdo (by rfl) _ rfl _ rfl _ _ _ _ _ (by rw [← HN.out]; exact H8.out.2.2.1) ?_))
  refine (HSH.out A1 A2 m1 k2 g1 p1 w8 HM.out.1 HM.out.2.1 H8.out.2.2.2.2.1 H8.out.1).mono ?_
  rintro e w9 ⟨rfl, hb9⟩
  have H9 : Hid (Below N w w9 ∧ N ≤ w9.heap.size ∧ Byt w9 A5 L c5 f) := Lib.hid ⟨H8.out.1.trans (hb9.mono H8.out.2.1), Nat.le_trans H8.out.2.1 hb9.size, H8.out.2.2.2.2.2.keep hb9⟩
  clear hb9 V1 V2 hss H8 HSH
  go_wp2_with fail
  refine (decode_any A5 L c5 f w9 H9.out.2.2 HM.out.2.2.1 HM.out.2.2.2).mono ?_
  rintro e w10 ⟨hD, hb10⟩
  obtain ⟨v, pv, rfl, ho1, ho2⟩ := HDF.out _ _ _ hD
  obtain ⟨Ai, Ap2, mi, mp, g2, p2, rfl, rfl, hmi, hmp, hti⟩ := hdr_rows ho1 ho2
  obtain ⟨t11, h11, b11, -⟩ := hdrbox w10 (.slice Ai n2 mi) (.slice Ap2 np2 mp) B2 x2 y2
  obtain ⟨W11, hW11⟩ : ∃ W11, W11 = (w10.alloc (.cells z35 28)).setCells w10.heap.size 0 (hdi (.slice Ai n2 mi) (.slice Ap2 np2 mp) B2 x2 y2) := ⟨_, rfl⟩
  rw [← hW11] at h11 b11
  have b9 : Below w9.heap.size w9 W11 := hb10.trans (b11.mono hb10.size)
  obtain ⟨h10, hh10⟩ : ∃ h, h = w10.heap.size := ⟨_, rfl⟩
  have H11 : Hid (Below N w W11 ∧ N ≤ W11.heap.size ∧ Byt W11 A5 L c5 f ∧ Hdx W11 h10 (.slice Ai n2 mi) (.slice Ap2 np2 mp) B2 x2 y2 ∧ HdIn W11 Ai Ap2 g2 0 n2 mi p2 0 np2 mp F2 G2) := Lib.hid ⟨H9.out.1.trans (b9.mono H9.out.2.1), Nat.le_trans H9.out.2.1 b9.size, H9.out.2.2.keep b9, by rw [hh10]; exact h11, hti.keep b11⟩
  have HW11 := Lib.hid (And.intro hW11 hh10)
  have HT11 := Lib.hid t11
  have HM1 := Lib.hid (And.intro hmi hmp)
  clear hD hb10 ho1 ho2 hti t11 h11 b11 hW11 b9 hh10 hmi hmp H9
  go_wp2_with ((with_reducible show wpList _ _ _ (Oper.mk _ (Op.store 28 _ _) _ _ _ _ :: _) _ _); refine wpList_store_hdi rfl _ _ rfl _ _ _ _ _ _ rfl rfl rfl rfl HT11.out ?_; rw [← HW11.out.1, ← HW11.out.2])
  refine (HD2.out W11 H11.out.1).mono ?_
  rintro e w12 ⟨hD, hb12⟩
  obtain ⟨v, pv, rfl, ho1, ho2⟩ := HDF.out _ _ _ hD
  obtain ⟨Aj, Aq, mj, mq, g3, p3, rfl, rfl, hmi, hmp, hti⟩ := hdr_rows ho1 ho2
  obtain ⟨t13, h13, b13, -⟩ := hdrbox w12 (.slice Aj n2 mj) (.slice Aq np2 mq) B2 x2 y2
  obtain ⟨W13, hW13⟩ : ∃ W13, W13 = (w12.alloc (.cells z35 28)).setCells w12.heap.size 0 (hdi (.slice Aj n2 mj) (.slice Aq np2 mq) B2 x2 y2) := ⟨_, rfl⟩
  rw [← hW13] at h13 b13
  have b11 : Below W11.heap.size W11 W13 := hb12.trans (b13.mono hb12.size)
  obtain ⟨h12, hh12⟩ : ∃ h, h = w12.heap.size := ⟨_, rfl⟩
  have H13 : Hid (Below N w W13 ∧ N ≤ W13.heap.size ∧ Byt W13 A5 L c5 f ∧ Hdx W13 h10 (.slice Ai n2 mi) (.slice Ap2 np2 mp) B2 x2 y2 ∧ HdIn W13 Ai Ap2 g2 0 n2 mi p2 0 np2 mp F2 G2 ∧ Hdx W13 h12 (.slice Aj n2 mj) (.slice Aq np2 mq) B2 x2 y2 ∧ HdIn W13 Aj Aq g3 0 n2 mj p3 0 np2 mq F2 G2) := Lib.hid ⟨H11.out.1.trans (b11.mono H11.out.2.1), Nat.le_trans H11.out.2.1 b11.size, H11.out.2.2.1.keep b11, Blk.keep H11.out.2.2.2.1 b11, H11.out.2.2.2.2.keep b11, by rw [hh12]; exact h13, hti.keep b13⟩
  have HW13 := Lib.hid (And.intro hW13 hh12)
  have HT13 := Lib.hid t13
  have HM2 := Lib.hid (And.intro hmi hmp)
  clear hD hb12 ho1 ho2 hti t13 h13 b13 hW13 b11 hh12 hmi hmp H11
  go_wp2_with (first
    | ((with_reducible show wpList _ _ _ (Oper.mk _ (Op.store 28 _ _) _ _ _ _ :: _) _ _); refine wpList_store_hdi rfl _ _ rfl _ _ _ _ _ _ rfl rfl rfl rfl HT13.out ?_; rw [← HW13.out.1, ← HW13.out.2])
    | ((with_reducible show wpList _ _ _ (Oper.mk _ (Op.load 28 _) _ _ _ _ :: _) _ _); refine wpList_load_hdi rfl _ rfl _ rfl _ _ _ _ _ H13.out.2.2.2.1 ?_)
    | ((with_reducible show wpList _ _ _ (Oper.mk _ (Op.load 28 _) _ _ _ _ :: _) _ _); refine wpList_load_hdi rfl _ rfl _ rfl _ _ _ _ _ H13.out.2.2.2.2.2.1 ?_))
  refine (sameHeader_in Ai Aj Ap2 Aq g2 g3 0 n2 mi mj p2 p3 0 np2 mp mq B2 x2 y2 F2 G2 W13 (by have := HNn.out.1; omega) (by have := HNn.out.2; omega) HM1.out.1 HM2.out.1 HM1.out.2 HM2.out.2 H13.out.2.2.2.2.1 H13.out.2.2.2.2.2.2).mono ?_
  rintro e w14 ⟨rfl, hb14⟩
  have V1 := conv_byt (H13.out.2.2.1.keep hb14)
  have HF := Lib.hid (H13.out.1.trans (hb14.mono H13.out.2.1))
  have V2 := conv_byt (HBy.out w14 HF.out)
  obtain ⟨s, hs⟩ : ∃ s, s = bst L f := ⟨_, rfl⟩
  rw [← hs] at V1 V2
  have hss : (s.toList == s.toList) = true := by simp
  clear hb14 hs H13
  go_wp2_with fail
  go_ret
  exact ⟨by first | rfl | simp, HF.out⟩
end Go.Proofs.Ytchkgccnipejhaa
