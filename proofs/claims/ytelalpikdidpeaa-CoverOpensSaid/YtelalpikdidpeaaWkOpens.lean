/-
  The walk through the law of opening.
-/
import Derived.Test.YtelalpikdidpeaaOpnC
import Derived.Test.YtelalpikdidpeaaTwh
import Derived.Test.YtelalpikdidpeaaWkSeals
namespace Go.Proofs.Ytelalpikdidpeaa
open Go.RowKit TR L2 L2.SP
set_option linter.unusedVariables false
set_option linter.unusedSimpArgs false

theorem hdi_arrsize (iv pv : Value) (B : Int) (x y : Nat × Nat) : (hdi iv pv B x y).toArray.size = (z35 : Array Value).size := by simp [hdi_len]
theorem Blk.ne {w : World} {a b : Nat} {cs cs' : Array Value} {t t' : TypeId} (h : Blk w a cs t) (h' : Blk w b cs' t') (hne : t ≠ t') : a ≠ b := fun e => by
  subst e
  unfold Blk at h h'
  rw [h] at h'
  injection h' with h'
  injection h' with _ h3 _
  exact hne h3
theorem wpList_load_hdo {ops : Array Oper} {rest : List Oper} {op : Oper} {a : Act} {w : World} {Q : Exit → Act → World → Prop} (hw : Region.wanted op (yielded ops a.tmps) = true) (x : Operand) (ho : op.op = .load 59 x)
    (b : Nat) (hx : a.eval x = .pointer (some ⟨b, 0, none⟩)) (iv pv : Value) (B : Int) (p q : Nat × Nat) (hc : Hdx w b iv pv B p q)
    (h : wpList Try.prog ops Q rest (a.put op.dst (.agg (hdi iv pv B p q).toArray)) w) : wpList Try.prog ops Q (op :: rest) a w :=
  wpList_load_on hw 59 x ho b 0 hx (hdi iv pv B p q) _ hc.range Try.underlying59 rfl (by rw [hdi_len]; exact sizeHdr) h
/-- A twin's rows, where they stand. -/
theorem twin_rows {w : World} {B1 B2 B3 n np nl mi mp ml : Nat} {Ai Ap Al : Option Addr} {F L : Nat → Int × Int × (Nat × Nat)} {H : Nat → Int × Int} (h1 : w.ownsRow B1 112 18 (.slice Ai n mi) n (lbF F n)) (h2 : w.ownsRow B2 31 2 (.slice Ap np mp) np (ptF H np)) (h3 : w.ownsRow B3 88 18 (.slice Al nl ml) nl (lbF L nl)) :
    n ≤ mi ∧ np ≤ mp ∧ nl ≤ ml ∧ ∃ g1 p1 l1, HdIn w Ai Ap g1 0 n mi p1 0 np mp F H ∧ (nl = 0 ∨ Al = some ⟨l1, 0, none⟩) ∧ ∀ i, i < nl → w.rangeAt l1 (i * 18) (lbl (L i).1 (L i).2.1 (L i).2.2) := by
  obtain ⟨_, _, hv1, hc1, q1⟩ := own_items h1
  injection hv1 with e1 _ e2
  subst e1; subst e2
  obtain ⟨_, _, hv2, hc2, q2⟩ := own_points h2
  injection hv2 with e1 _ e2
  subst e1; subst e2
  obtain ⟨_, _, hv3, hc3, q3⟩ := own_items h3
  injection hv3 with e1 _ e2
  subst e1; subst e2
  refine ⟨hc1, hc2, hc3, ?_⟩
  have p1 : ∃ g1, (n = 0 ∨ Ai = some ⟨g1, 0, none⟩) ∧ ∀ i, i < n → w.rangeAt g1 (0 + i * 18) (lbl (F i).1 (F i).2.1 (F i).2.2) := by
    rcases q1 with h0 | ⟨g1, h1, _, h2⟩
    · exact ⟨0, .inl h0, fun i hi => by omega⟩
    · exact ⟨g1, .inr h1, fun i hi => by rw [Nat.zero_add]; exact h2 i hi⟩
  have p2 : ∃ h2, (np = 0 ∨ Ap = some ⟨h2, 0, none⟩) ∧ ∀ i, i < np → w.rangeAt h2 (0 + i * 2) [.int .u64 (H i).1, .int .u64 (H i).2] := by
    rcases q2 with h0 | ⟨g1, h1, _, h2⟩
    · exact ⟨0, .inl h0, fun i hi => by omega⟩
    · exact ⟨g1, .inr h1, fun i hi => by rw [Nat.zero_add]; exact h2 i hi⟩
  have p3 : ∃ l1, (nl = 0 ∨ Al = some ⟨l1, 0, none⟩) ∧ ∀ i, i < nl → w.rangeAt l1 (i * 18) (lbl (L i).1 (L i).2.1 (L i).2.2) := by
    rcases q3 with h0 | ⟨g1, h1, _, h2⟩
    · exact ⟨0, .inl h0, fun i hi => by omega⟩
    · exact ⟨g1, .inr h1, h2⟩
  obtain ⟨g1, u1, u2⟩ := p1
  obtain ⟨p1, u3, u4⟩ := p2
  obtain ⟨l1, u5, u6⟩ := p3
  exact ⟨g1, p1, l1, ⟨u1, u2, u3, u4⟩, u5, u6⟩

set_option maxRecDepth 100000 in
set_option maxHeartbeats 400000 in
theorem opens_walk (K D E B rr ss tt : Int) (P Q G g o n m h r gl ol nl ml np kp : Nat) (A AL Ap : Option Addr) (x y : Nat × Nat) (L F : Nat → Int × Int × (Nat × Nat)) (H : Nat → Int × Int) (w : World) (hK0 : 0 ≤ K) (hK1 : K ≤ 255) (hx : Ok x) (hy : Ok y) (hn : n ≤ 4398046511104) (hnp : np ≤ 8796093022208) (hnm : n ≤ m) (hkp : np ≤ kp)
    (hin : HdIn w A Ap g o n m h r np kp F H) (hFo : ∀ i, i < n → Ok (F i).2.2)
    (hnl : nl ≤ 4398046511104) (hnlm : nl ≤ ml) (hal : nl = 0 ∨ AL = some ⟨gl, ol, none⟩) (hL : ∀ i, i < nl → w.rangeAt gl (ol + i * 18) (lbl (L i).1 (L i).2.1 (L i).2.2) ∧ (L i).2.1 < 9223372036854775808 ∧ Ok (L i).2.2) :
    Calls Try.prog 5 #[.agg #[.int .u8 K, .int .i64 D, .int .i64 E, .int .u64 (P : Int), .int .u64 (Q : Int), .int .u64 (G : Int)], .agg (sg rr (.slice AL nl ml) ss tt), .agg (hdi (.slice A n m) (.slice Ap np kp) B x y).toArray] w fun e w' => e = .returned (.bool true) ∧ Below w.heap.size w w' := by
  obtain ⟨N, hN⟩ : ∃ N, N = w.heap.size := ⟨_, rfl⟩
  obtain ⟨W3, hW3⟩ : ∃ W3, W3 = ((w.alloc (.cells #[.int .u8 K, .int .i64 D, .int .i64 E, .int .u64 (P : Int), .int .u64 (Q : Int), .int .u64 (G : Int)] 28)).alloc (.cells (sg rr (.slice AL nl ml) ss tt) 33)).alloc (.cells (hdi (.slice A n m) (.slice Ap np kp) B x y).toArray 59) := ⟨_, rfl⟩
  have s3 : W3.heap.size = N + 3 := by rw [hW3, hN]; simp
  have b3 : Below N w W3 := by rw [hW3, hN]; exact (below_alloc _ _).trans (((below_alloc _ _).mono (by simp)).trans ((below_alloc _ _).mono (by simp; omega)))
  have e1 : Blk W3 N #[.int .u8 K, .int .i64 D, .int .i64 E, .int .u64 (P : Int), .int .u64 (Q : Int), .int .u64 (G : Int)] 28 := by rw [hW3, hN]; exact ((Blk.new w _ _).keep (below_alloc _ _)).keep (below_alloc _ _)
  have e2 : Blk W3 (N + 1) (sg rr (.slice AL nl ml) ss tt) 33 := by
    have h := (Blk.new (w.alloc (.cells #[.int .u8 K, .int .i64 D, .int .i64 E, .int .u64 (P : Int), .int .u64 (Q : Int), .int .u64 (G : Int)] 28)) (sg rr (.slice AL nl ml) ss tt) 33).keep (below_alloc _ (.cells (hdi (.slice A n m) (.slice Ap np kp) B x y).toArray 59))
    rw [World.size_alloc, ← hN] at h; rw [hW3]; exact h
  have e3 : Hdx W3 (N + 2) (.slice A n m) (.slice Ap np kp) B x y := by
    have h := Blk.new ((w.alloc (.cells #[.int .u8 K, .int .i64 D, .int .i64 E, .int .u64 (P : Int), .int .u64 (Q : Int), .int .u64 (G : Int)] 28)).alloc (.cells (sg rr (.slice AL nl ml) ss tt) 33)) (hdi (.slice A n m) (.slice Ap np kp) B x y).toArray 59
    rw [World.size_alloc, World.size_alloc, ← hN] at h; rw [hW3]; exact h
  have HE : Hid (W3.heap.size = N + 3 ∧ Below N w W3 ∧ Blk W3 N #[.int .u8 K, .int .i64 D, .int .i64 E, .int .u64 (P : Int), .int .u64 (Q : Int), .int .u64 (G : Int)] 28 ∧ Blk W3 (N + 1) (sg rr (.slice AL nl ml) ss tt) 33 ∧ Hdx W3 (N + 2) (.slice A n m) (.slice Ap np kp) B x y) := Lib.hid ⟨s3, b3, e1, e2, e3⟩
  have HBN := Lib.hid (fun (w1 : World) (hb : Below W3.heap.size W3 w1) => (HE.out.2.1.trans (hb.mono (by rw [HE.out.1]; omega)) : Below N w w1))
  have HIN := Lib.hid (fun (w1 : World) (hb : Below N w w1) => hin.keep (by rw [← hN]; exact hb))
  have HLb : Hid (∀ w1, Below N w w1 → ∀ i, i < nl → w1.rangeAt gl (ol + i * 18) (lbl (L i).1 (L i).2.1 (L i).2.2) ∧ (L i).2.1 < 9223372036854775808 ∧ Ok (L i).2.2) := Lib.hid (fun w1 hb i hi => ⟨fun j u hu => (hb.cell (p := ⟨gl, ol + i * 18 + j, none⟩) (by rw [hN]; exact World.block_lt_of_cell? w _ ((hL i hi).1 j u hu))).trans ((hL i hi).1 j u hu), (hL i hi).2⟩)
  have HTS := Lib.hid (fun (w1 : World) (hb : Below N w w1) => twinSecret_own rr ss tt AL gl ol nl ml L w1 hnl hal (fun i hi => (HLb.out w1 hb i hi).1))
  have HTH := Lib.hid (fun (w1 : World) (hb : Below N w w1) => twinHeader_any B x y A Ap g o n m h r np kp F H w1 hn hnp (HIN.out w1 hb))
  have HFo := Lib.hid hFo
  have HLo := Lib.hid (fun i (hi : i < nl) => (hL i hi).2)
  have HO1 := Lib.hid (fun (Ai Al Ap2 : Option Addr) (mi ml2 mp g1 p1 l1 : Nat) (w1 : World) (h1 : n ≤ mi) (h2 : nl ≤ ml2) (k : HdIn w1 Ai Ap2 g1 0 n mi p1 0 np mp F H) (hl : nl = 0 ∨ Al = some ⟨l1, 0, none⟩) (hr : ∀ i, i < nl → w1.rangeAt l1 (i * 18) (lbl (L i).1 (L i).2.1 (L i).2.2)) => open_any K D E B rr ss tt P Q G g1 0 n mi l1 0 nl ml2 np mp Ai Al Ap2 x y L F w1 hK0 hK1 hx hy hn hnp h1 k.had (fun i hi => ⟨k.itm i hi, HFo.out i hi⟩) hnl h2 hl (fun i hi => ⟨by rw [Nat.zero_add]; exact hr i hi, HLo.out i hi⟩))
  have HO2 := Lib.hid (fun (w1 : World) (hb : Below N w w1) => refOpen_any K D E B rr ss tt P Q G g o n m gl ol nl ml np kp A AL Ap x y L F w1 hK0 hK1 hx hy hn hnp hnm (HIN.out w1 hb).had (fun i hi => ⟨(HIN.out w1 hb).itm i hi, HFo.out i hi⟩) hnl hnlm hal (HLb.out w1 hb))
  have HSS := Lib.hid (fun (Al : Option Addr) (ml2 l1 : Nat) (w1 : World) (h2 : nl ≤ ml2) (hl : nl = 0 ∨ Al = some ⟨l1, 0, none⟩) (hr : ∀ i, i < nl → w1.rangeAt l1 (i * 18) (lbl (L i).1 (L i).2.1 (L i).2.2)) (hb : Below N w w1) => sameSecret_sg rr ss tt Al AL l1 gl ol nl ml2 ml L w1 hnl h2 hnlm (by
    rcases hal with h | h
    · exact .inl h
    · rcases hl with h' | h'
      · exact .inl h'
      · exact .inr ⟨h', h⟩) (fun i hi => ⟨hr i hi, (HLb.out w1 hb i hi).1⟩))
  have HSH := Lib.hid (fun (Ai Ap2 : Option Addr) (mi mp g1 p1 : Nat) (w1 : World) (h1 : n ≤ mi) (h3 : np ≤ mp) (k : HdIn w1 Ai Ap2 g1 0 n mi p1 0 np mp F H) (hb : Below N w w1) => sameHeader_gen Ai A Ap2 Ap g1 g o n mi m p1 h r np mp kp B x y F H w1 hn h1 hnm (by
    rcases (HIN.out w1 hb).had with h | h
    · exact .inl h
    · rcases k.had with h' | h'
      · exact .inl h'
      · exact .inr ⟨h', h⟩) (fun i hi => ⟨by have h := k.itm i hi; rwa [Nat.zero_add] at h, (HIN.out w1 hb).itm i hi⟩) hnp h3 hkp (by
    rcases (HIN.out w1 hb).hpd with h | h
    · exact .inl h
    · rcases k.hpd with h' | h'
      · exact .inl h'
      · exact .inr ⟨h', h⟩) (fun i hi => ⟨by have h := k.pnt i hi; rwa [Nat.zero_add] at h, (HIN.out w1 hb).pnt i hi⟩))
  have HN := Lib.hid hN
  have HW := Lib.hid hW3
  rw [← hN]
  clear hN hW3 s3 b3 e1 e2 e3 hK0 hK1 hx hy hn hnp hnm hkp hin hFo hnl hnlm hal hL
  go_enter Try.func5, Try.ntmps5
  go_wp2_with fail
  rw [← HW.out, ← HN.out]
  refine wp_region_inv (by kernel_rfl) (by kernel_rfl) (fun l a' w' => ∃ (Al Ai Ap2 : Option Addr) (ml2 mi mp sb hb : Nat), a' = { tmps := #[Value.agg #[Value.int IntKind.u8 K, Value.int IntKind.i64 D, Value.int IntKind.i64 E, Value.int IntKind.u64 P, Value.int IntKind.u64 Q, Value.int IntKind.u64 G], Value.agg (sg rr (Value.slice AL nl ml) ss tt), Value.agg (hdi (Value.slice A n m) (Value.slice Ap np kp) B x y).toArray, Value.pointer (some ⟨N, 0, none⟩), Value.pointer (some ⟨N + 1, 0, none⟩), Value.pointer (some ⟨N + 1 + 1, 0, none⟩), Value.bool false, bif l 4 then Value.pointer (some ⟨sb, 0, none⟩) else undef, bif l 5 then Value.pointer (some ⟨hb, 0, none⟩) else undef, undef, undef, undef, undef, bif l 0 then Value.agg (sg rr (Value.slice AL nl ml) ss tt) else undef, bif l 1 then Value.agg (sg rr (Value.slice Al nl ml2) ss tt) else undef, bif l 2 then Value.agg (hdi (Value.slice A n m) (Value.slice Ap np kp) B x y).toArray else undef, bif l 3 then Value.agg (hdi (Value.slice Ai n mi) (Value.slice Ap2 np mp) B x y).toArray else undef, undef, undef, undef, undef, undef, undef, undef, undef, undef, undef, undef, undef, undef, undef, undef, undef, undef, undef, undef, undef, undef, undef, undef, undef, undef, undef, undef, undef, undef, undef, undef, undef], defers := [] } ∧ (Below W3.heap.size W3 w') ∧ (l 1 = true → w'.ownsRow W3.heap.size 88 18 (.slice Al nl ml2) nl (lbF L nl)) ∧ (l 3 = true → w'.ownsRow W3.heap.size 112 18 (.slice Ai n mi) n (lbF F n) ∧ w'.ownsRow W3.heap.size 31 2 (.slice Ap2 np mp) np (ptF H np)) ∧ (l 4 = true → l 6 = false → Blk w' sb (sg 0 (.slice none 0 0) 0 0) 33 ∧ W3.heap.size ≤ sb) ∧ (l 5 = true → l 7 = false → Blk w' hb z35 59 ∧ W3.heap.size ≤ hb) ∧ (l 6 = true → Blk w' sb (sg rr (.slice Al nl ml2) ss tt) 33 ∧ W3.heap.size ≤ sb) ∧ (l 7 = true → Hdx w' hb (.slice Ai n mi) (.slice Ap2 np mp) B x y ∧ W3.heap.size ≤ hb) ∧ (l 6 = true → l 1 = true) ∧ (l 6 = true → l 4 = true) ∧ (l 7 = true → l 3 = true) ∧ (l 7 = true → l 5 = true)) ⟨none, none, none, 0, 0, 0, 0, 0, rfl, (Below.refl _ _).drew, (fun h => by cases h), (fun h => by cases h), (fun h => by cases h), (fun h => by cases h), (fun h => by cases h), (fun h => by cases h), (fun h => by cases h), (fun h => by cases h), (fun h => by cases h), (fun h => by cases h)⟩ ?_ ?_
  · rintro l a' w' i ⟨Al, Ai, Ap2, ml2, mi, mp, sb, hb, rfl, hB, cL, cI, cS0, cH0, cS1, cH1, o6, o6b, o7, o7b⟩ hi' hli hpre
    have hi2 : i < 8 := hi'
    have hcase : i = 0 ∨ i = 1 ∨ i = 2 ∨ i = 3 ∨ i = 4 ∨ i = 5 ∨ i = 6 ∨ i = 7 := by omega
    clear hi' hi2
    rcases hcase with rfl | rfl | rfl | rfl | rfl | rfl | rfl | rfl
    · -- 0: Op.load 33 (Operand.tmp 4)
      refine wpOp_step rfl (fun K' hK => ?_)
      clear hpre
      rw [if_pos (by rfl)]
      refine wp_load_mid 33 _ rfl _ 0 rfl (sg rr (.slice AL nl ml) ss tt).toList _ (HE.out.2.2.2.1.keep hB).range Try.underlying33 rfl sizeSec ?_
      exact hK _ _ ⟨Al, Ai, Ap2, ml2, mi, mp, sb, hb, by simp [upd, Act.put], hB, (fun e0 => (cL (by simpa [upd] using e0))), (fun e0 => (cI (by simpa [upd] using e0))), (fun e0 e1 => (cS0 (by simpa [upd] using e0) (by simpa [upd] using e1))), (fun e0 e1 => (cH0 (by simpa [upd] using e0) (by simpa [upd] using e1))), (fun e0 => (cS1 (by simpa [upd] using e0))), (fun e0 => (cH1 (by simpa [upd] using e0))), (fun e0 => (by first | (simp [upd]; done) | simpa [upd] using (o6 (by simpa [upd] using e0)))), (fun e0 => (by first | (simp [upd]; done) | simpa [upd] using (o6b (by simpa [upd] using e0)))), (fun e0 => (by first | (simp [upd]; done) | simpa [upd] using (o7 (by simpa [upd] using e0)))), (fun e0 => (by first | (simp [upd]; done) | simpa [upd] using (o7b (by simpa [upd] using e0))))⟩
    · -- 1: Op.call { callee := Callee.value (Operand.func 8), args := #
      have p0 : l 0 = true := hpre _ rfl ⟨0, .data⟩ (by simp) rfl
      refine wpOp_step rfl (fun K' hK => ?_)
      have n6 : l 6 = false := by
        cases h : l 6
        · rfl
        · exact absurd (o6 h) (by rw [hli]; decide)
      simp only [p0, n6, cond_true, cond_false]
      clear hpre
      rw [if_pos (by rfl)]
      go_simp
      refine (HTS.out _ (HBN.out _ hB)).mono ?_
      rintro e w7 ⟨⟨Al9, ml9, rfl, ho9⟩, hb5⟩
      exact hK _ _ ⟨Al9, Ai, Ap2, ml9, mi, mp, sb, hb, by simp [upd, Act.put, p0, n6], (hB).trans (hb5.mono (hB).size), (fun _ => own_lower hB.size ho9), (fun e0 => ⟨own_below (((cI (by simpa [upd] using e0))).1) hb5, own_below (((cI (by simpa [upd] using e0))).2) hb5⟩), (fun e0 e1 => ⟨Blk.keep ((cS0 (by simpa [upd] using e0) (by simpa [upd] using e1))).1 hb5, ((cS0 (by simpa [upd] using e0) (by simpa [upd] using e1))).2⟩), (fun e0 e1 => ⟨Blk.keep ((cH0 (by simpa [upd] using e0) (by simpa [upd] using e1))).1 hb5, ((cH0 (by simpa [upd] using e0) (by simpa [upd] using e1))).2⟩), (fun e0 => absurd e0 (by simp [upd, n6])), (fun e0 => ⟨Blk.keep ((cH1 (by simpa [upd] using e0))).1 hb5, ((cH1 (by simpa [upd] using e0))).2⟩), (fun e0 => (by first | (simp [upd]; done) | simpa [upd] using (o6 (by simpa [upd] using e0)))), (fun e0 => (by first | (simp [upd]; done) | simpa [upd] using (o6b (by simpa [upd] using e0)))), (fun e0 => (by first | (simp [upd]; done) | simpa [upd] using (o7 (by simpa [upd] using e0)))), (fun e0 => (by first | (simp [upd]; done) | simpa [upd] using (o7b (by simpa [upd] using e0))))⟩
    · -- 2: Op.load 59 (Operand.tmp 5)
      refine wpOp_step rfl (fun K' hK => ?_)
      clear hpre
      rw [if_pos (by rfl)]
      refine wp_load_mid 59 _ rfl _ 0 rfl (hdi (.slice A n m) (.slice Ap np kp) B x y) _ (Hdx.range (Blk.keep HE.out.2.2.2.2 hB)) Try.underlying59 rfl (by rw [hdi_len]; exact sizeHdr) ?_
      exact hK _ _ ⟨Al, Ai, Ap2, ml2, mi, mp, sb, hb, by simp [upd, Act.put], hB, (fun e0 => (cL (by simpa [upd] using e0))), (fun e0 => (cI (by simpa [upd] using e0))), (fun e0 e1 => (cS0 (by simpa [upd] using e0) (by simpa [upd] using e1))), (fun e0 e1 => (cH0 (by simpa [upd] using e0) (by simpa [upd] using e1))), (fun e0 => (cS1 (by simpa [upd] using e0))), (fun e0 => (cH1 (by simpa [upd] using e0))), (fun e0 => (by first | (simp [upd]; done) | simpa [upd] using (o6 (by simpa [upd] using e0)))), (fun e0 => (by first | (simp [upd]; done) | simpa [upd] using (o6b (by simpa [upd] using e0)))), (fun e0 => (by first | (simp [upd]; done) | simpa [upd] using (o7 (by simpa [upd] using e0)))), (fun e0 => (by first | (simp [upd]; done) | simpa [upd] using (o7b (by simpa [upd] using e0))))⟩
    · -- 3: Op.call { callee := Callee.value (Operand.func 22), args := 
      have p2 : l 2 = true := hpre _ rfl ⟨2, .data⟩ (by simp) rfl
      have p1 : l 1 = true := hpre _ rfl ⟨1, .chain⟩ (by simp) rfl
      refine wpOp_step rfl (fun K' hK => ?_)
      have n7 : l 7 = false := by
        cases h : l 7
        · rfl
        · exact absurd (o7 h) (by rw [hli]; decide)
      simp only [p2, p1, n7, cond_true, cond_false]
      clear hpre
      rw [if_pos (by rfl)]
      go_simp
      refine (HTH.out _ (HBN.out _ hB)).mono ?_
      rintro e w7 ⟨⟨Ai9, mi9, Ap9, mp9, rfl, ho9, ho8⟩, hb5⟩
      exact hK _ _ ⟨Al, Ai9, Ap9, ml2, mi9, mp9, sb, hb, by simp [upd, Act.put, p2, p1, n7], (hB).trans (hb5.mono (hB).size), (fun e0 => own_below ((cL (by simpa [upd] using e0))) hb5), (fun _ => ⟨own_lower hB.size ho9, own_lower hB.size ho8⟩), (fun e0 e1 => ⟨Blk.keep ((cS0 (by simpa [upd] using e0) (by simpa [upd] using e1))).1 hb5, ((cS0 (by simpa [upd] using e0) (by simpa [upd] using e1))).2⟩), (fun e0 e1 => ⟨Blk.keep ((cH0 (by simpa [upd] using e0) (by simpa [upd] using e1))).1 hb5, ((cH0 (by simpa [upd] using e0) (by simpa [upd] using e1))).2⟩), (fun e0 => ⟨Blk.keep ((cS1 (by simpa [upd] using e0))).1 hb5, ((cS1 (by simpa [upd] using e0))).2⟩), (fun e0 => absurd e0 (by simp [upd, n7])), (fun e0 => (by first | (simp [upd]; done) | simpa [upd] using (o6 (by simpa [upd] using e0)))), (fun e0 => (by first | (simp [upd]; done) | simpa [upd] using (o6b (by simpa [upd] using e0)))), (fun e0 => (by first | (simp [upd]; done) | simpa [upd] using (o7 (by simpa [upd] using e0)))), (fun e0 => (by first | (simp [upd]; done) | simpa [upd] using (o7b (by simpa [upd] using e0))))⟩
    · -- 4: Op.alloc 33
      refine wpOp_step rfl (fun K' hK => ?_)
      have n6 : l 6 = false := by
        cases h : l 6
        · rfl
        · exact absurd (o6b h) (by rw [hli]; decide)
      simp only [n6, cond_true, cond_false]
      clear hpre
      rw [if_pos (by rfl)]
      go_simp
      exact hK _ _ ⟨Al, Ai, Ap2, ml2, mi, mp, w'.heap.size, hb, by simp [upd, Act.put, n6], (hB).trans ((below_alloc _ _).mono (hB).size), (fun e0 => own_below ((cL (by simpa [upd] using e0))) (below_alloc _ _)), (fun e0 => ⟨own_below (((cI (by simpa [upd] using e0))).1) (below_alloc _ _), own_below (((cI (by simpa [upd] using e0))).2) (below_alloc _ _)⟩), (fun _ _ => ⟨Blk.new _ _ _, hB.size⟩), (fun e0 e1 => ⟨Blk.keep ((cH0 (by simpa [upd] using e0) (by simpa [upd] using e1))).1 (below_alloc _ _), ((cH0 (by simpa [upd] using e0) (by simpa [upd] using e1))).2⟩), (fun e0 => absurd e0 (by simp [upd, n6])), (fun e0 => ⟨Blk.keep ((cH1 (by simpa [upd] using e0))).1 (below_alloc _ _), ((cH1 (by simpa [upd] using e0))).2⟩), (fun e0 => (by first | (simp [upd]; done) | simpa [upd] using (o6 (by simpa [upd] using e0)))), (fun e0 => (by first | (simp [upd]; done) | simpa [upd] using (o6b (by simpa [upd] using e0)))), (fun e0 => (by first | (simp [upd]; done) | simpa [upd] using (o7 (by simpa [upd] using e0)))), (fun e0 => (by first | (simp [upd]; done) | simpa [upd] using (o7b (by simpa [upd] using e0))))⟩
    · -- 5: Op.alloc 59
      refine wpOp_step rfl (fun K' hK => ?_)
      have n7 : l 7 = false := by
        cases h : l 7
        · rfl
        · exact absurd (o7b h) (by rw [hli]; decide)
      simp only [n7, cond_true, cond_false]
      clear hpre
      rw [if_pos (by rfl)]
      go_simp
      exact hK _ _ ⟨Al, Ai, Ap2, ml2, mi, mp, sb, w'.heap.size, by simp [upd, Act.put, n7], (hB).trans ((below_alloc _ _).mono (hB).size), (fun e0 => own_below ((cL (by simpa [upd] using e0))) (below_alloc _ _)), (fun e0 => ⟨own_below (((cI (by simpa [upd] using e0))).1) (below_alloc _ _), own_below (((cI (by simpa [upd] using e0))).2) (below_alloc _ _)⟩), (fun e0 e1 => ⟨Blk.keep ((cS0 (by simpa [upd] using e0) (by simpa [upd] using e1))).1 (below_alloc _ _), ((cS0 (by simpa [upd] using e0) (by simpa [upd] using e1))).2⟩), (fun _ _ => ⟨Blk.new _ _ _, hB.size⟩), (fun e0 => ⟨Blk.keep ((cS1 (by simpa [upd] using e0))).1 (below_alloc _ _), ((cS1 (by simpa [upd] using e0))).2⟩), (fun e0 => absurd e0 (by simp [upd, n7])), (fun e0 => (by first | (simp [upd]; done) | simpa [upd] using (o6 (by simpa [upd] using e0)))), (fun e0 => (by first | (simp [upd]; done) | simpa [upd] using (o6b (by simpa [upd] using e0)))), (fun e0 => (by first | (simp [upd]; done) | simpa [upd] using (o7 (by simpa [upd] using e0)))), (fun e0 => (by first | (simp [upd]; done) | simpa [upd] using (o7b (by simpa [upd] using e0))))⟩
    · -- 6: Op.store 33 (Operand.tmp 7) (Operand.tmp 14)
      have p4 : l 4 = true := hpre _ rfl ⟨4, .data⟩ (by simp) rfl
      have p1 : l 1 = true := hpre _ rfl ⟨1, .data⟩ (by simp) rfl
      have p3 : l 3 = true := hpre _ rfl ⟨3, .chain⟩ (by simp) rfl
      have p0 : l 0 = true := hpre _ rfl ⟨0, .phase⟩ (by simp) rfl
      have p5 : l 5 = true := hpre _ rfl ⟨5, .phase⟩ (by simp) rfl
      refine wpOp_step rfl (fun K' hK => ?_)
      have gS := cS0 p4 hli
      simp only [p4, p1, p3, p0, p5, cond_true, cond_false]
      clear hpre
      rw [if_pos (by rfl)]
      refine wp_store_mid 33 _ _ rfl sb 0 (sg rr (.slice Al nl ml2) ss tt) rfl rfl gS.1.there sizeSec (by simp; exact ⟨rfl, rfl, rfl, rfl⟩) ?_
      exact hK _ _ ⟨Al, Ai, Ap2, ml2, mi, mp, sb, hb, by simp [upd, Act.put, p4, p1, p3, p0, p5], below_setCells _ _ _ _ (hB) gS.2, (fun e0 => own_setCells _ _ ((cL (by simpa [upd] using e0))) (gS.1.apart ((cL (by simpa [upd] using e0))) (by decide))), (fun e0 => ⟨own_setCells _ _ (((cI (by simpa [upd] using e0))).1) (gS.1.apart (((cI (by simpa [upd] using e0))).1) (by decide)), own_setCells _ _ (((cI (by simpa [upd] using e0))).2) (gS.1.apart (((cI (by simpa [upd] using e0))).2) (by decide))⟩), (fun _ e0 => absurd e0 (by simp [upd])), (fun e0 e1 => ⟨Blk.otherN _ _ ((cH0 (by simpa [upd] using e0) (by simpa [upd] using e1))).1 (Blk.ne gS.1 ((cH0 (by simpa [upd] using e0) (by simpa [upd] using e1))).1 (by decide)), ((cH0 (by simpa [upd] using e0) (by simpa [upd] using e1))).2⟩), (fun _ => ⟨Blk.setAll gS.1 _ rfl, gS.2⟩), (fun e0 => ⟨Blk.otherN _ _ ((cH1 (by simpa [upd] using e0))).1 (Blk.ne gS.1 ((cH1 (by simpa [upd] using e0))).1 (by decide)), ((cH1 (by simpa [upd] using e0))).2⟩), (fun _ => by simp [upd, p1]), (fun _ => by simp [upd, p4]), (fun e0 => (by first | (simp [upd]; done) | simpa [upd] using (o7 (by simpa [upd] using e0)))), (fun e0 => (by first | (simp [upd]; done) | simpa [upd] using (o7b (by simpa [upd] using e0))))⟩
    · -- 7: Op.store 59 (Operand.tmp 8) (Operand.tmp 16)
      have p5 : l 5 = true := hpre _ rfl ⟨5, .data⟩ (by simp) rfl
      have p3 : l 3 = true := hpre _ rfl ⟨3, .data⟩ (by simp) rfl
      have p6 : l 6 = true := hpre _ rfl ⟨6, .chain⟩ (by simp) rfl
      have p0 : l 0 = true := hpre _ rfl ⟨0, .phase⟩ (by simp) rfl
      have p1 : l 1 = true := hpre _ rfl ⟨1, .phase⟩ (by simp) rfl
      have p2 : l 2 = true := hpre _ rfl ⟨2, .phase⟩ (by simp) rfl
      have p4 : l 4 = true := hpre _ rfl ⟨4, .phase⟩ (by simp) rfl
      refine wpOp_step rfl (fun K' hK => ?_)
      have gH := cH0 p5 hli
      simp only [p5, p3, p6, p0, p1, p2, p4, cond_true, cond_false]
      clear hpre
      rw [if_pos (by rfl)]
      refine wp_store_mid 59 _ _ rfl hb 0 (hdi (.slice Ai n mi) (.slice Ap2 np mp) B x y).toArray rfl rfl (by rw [hdi_arrsize]; exact gH.1.there) (by simp [hdi_len, sizeHdr]) (hdi_arr _ _ _ _ _ rfl rfl) ?_
      rw [List.toList_toArray]
      exact hK _ _ ⟨Al, Ai, Ap2, ml2, mi, mp, sb, hb, by simp [upd, Act.put, p5, p3, p6, p0, p1, p2, p4], below_setCells _ _ _ _ (hB) gH.2, (fun e0 => own_setCells _ _ ((cL (by simpa [upd] using e0))) (gH.1.apart ((cL (by simpa [upd] using e0))) (by decide))), (fun e0 => ⟨own_setCells _ _ (((cI (by simpa [upd] using e0))).1) (gH.1.apart (((cI (by simpa [upd] using e0))).1) (by decide)), own_setCells _ _ (((cI (by simpa [upd] using e0))).2) (gH.1.apart (((cI (by simpa [upd] using e0))).2) (by decide))⟩), (fun e0 e1 => ⟨Blk.otherN _ _ ((cS0 (by simpa [upd] using e0) (by simpa [upd] using e1))).1 (Blk.ne gH.1 ((cS0 (by simpa [upd] using e0) (by simpa [upd] using e1))).1 (by decide)), ((cS0 (by simpa [upd] using e0) (by simpa [upd] using e1))).2⟩), (fun _ e0 => absurd e0 (by simp [upd])), (fun e0 => ⟨Blk.otherN _ _ ((cS1 (by simpa [upd] using e0))).1 (Blk.ne gH.1 ((cS1 (by simpa [upd] using e0))).1 (by decide)), ((cS1 (by simpa [upd] using e0))).2⟩), (fun _ => ⟨Hdx.stored gH.1 z35_size _ _ _ _ _, gH.2⟩), (fun e0 => (by first | (simp [upd]; done) | simpa [upd] using (o6 (by simpa [upd] using e0)))), (fun e0 => (by first | (simp [upd]; done) | simpa [upd] using (o6b (by simpa [upd] using e0)))), (fun _ => by simp [upd, p3]), (fun _ => by simp [upd, p5])⟩
  · rintro l a' w9 hall ⟨Al, Ai, Ap2, ml2, mi, mp, sb, hb, rfl, hB, cL, cI, cS0, cH0, cS1, cH1, o6, o6b, o7, o7b⟩
    replace cL := cL (hall 1 (by decide))
    replace cI := cI (hall 3 (by decide))
    clear cS0
    clear cH0
    replace cS1 := cS1 (hall 6 (by decide))
    replace cH1 := cH1 (hall 7 (by decide))
    replace o6 := o6 (hall 6 (by decide))
    replace o6b := o6b (hall 6 (by decide))
    replace o7 := o7 (hall 7 (by decide))
    replace o7b := o7b (hall 7 (by decide))
    simp only [hall 0 (by decide), hall 1 (by decide), hall 2 (by decide), hall 3 (by decide), hall 4 (by decide), hall 5 (by decide), cond_true]
    clear hall
    have hrows := twin_rows cI.1 cI.2 cL
    obtain ⟨hmi, hmp, hml, g1, p1, l1, kin, kal, kl1⟩ := hrows
    have H9 : Hid (Below N w w9 ∧ N ≤ w9.heap.size ∧ Blk w9 N #[.int .u8 K, .int .i64 D, .int .i64 E, .int .u64 (P : Int), .int .u64 (Q : Int), .int .u64 (G : Int)] 28 ∧ Blk w9 (N + 1) (sg rr (.slice AL nl ml) ss tt) 33 ∧ Hdx w9 (N + 2) (.slice A n m) (.slice Ap np kp) B x y ∧ Blk w9 sb (sg rr (.slice Al nl ml2) ss tt) 33 ∧ Hdx w9 hb (.slice Ai n mi) (.slice Ap2 np mp) B x y) := Lib.hid ⟨HBN.out _ hB, by have := hB.size; rw [HE.out.1] at this; omega, HE.out.2.2.1.keep hB, HE.out.2.2.2.1.keep hB, Blk.keep HE.out.2.2.2.2 hB, cS1.1, cH1.1⟩
    have HKi : Hid (∀ w1, Below w9.heap.size w9 w1 → HdIn w1 Ai Ap2 g1 0 n mi p1 0 np mp F H) := Lib.hid (fun w1 hb => kin.keep hb)
    have HKl : Hid (∀ w1, Below w9.heap.size w9 w1 → ∀ i, i < nl → w1.rangeAt l1 (i * 18) (lbl (L i).1 (L i).2.1 (L i).2.2)) := Lib.hid (fun w1 hb i hi j u hu => (hb.cell (p := ⟨l1, i * 18 + j, none⟩) (World.block_lt_of_cell? w9 _ (kl1 i hi j u hu))).trans (kl1 i hi j u hu))
    have HMm := Lib.hid (And.intro hmi (And.intro hmp (And.intro hml kal)))
    clear hB cL cI cS1 cH1 o6 o6b o7 o7b hmi hmp hml kin kal kl1
    have c0 : w9.cell? ⟨N, 0, none⟩ = some (.int .u8 K) := (H9.out.2.2.1).cell 0
    have c1 : w9.cell? ⟨N, 1, none⟩ = some (.int .i64 D) := (H9.out.2.2.1).cell 1
    have c2 : w9.cell? ⟨N, 2, none⟩ = some (.int .i64 E) := (H9.out.2.2.1).cell 2
    have c3 : w9.cell? ⟨N, 3, none⟩ = some (.int .u64 (P : Int)) := (H9.out.2.2.1).cell 3
    have c4 : w9.cell? ⟨N, 4, none⟩ = some (.int .u64 (Q : Int)) := (H9.out.2.2.1).cell 4
    have c5 : w9.cell? ⟨N, 5, none⟩ = some (.int .u64 (G : Int)) := (H9.out.2.2.1).cell 5
    go_wp2_with (first
      | ((with_reducible show wpList _ _ _ (Oper.mk _ (Op.load 33 _) _ _ _ _ :: _) _ _); refine wpList_load_sg rfl _ rfl _ rfl _ _ _ _ H9.out.2.2.2.2.2.1 ?_)
      | ((with_reducible show wpList _ _ _ (Oper.mk _ (Op.load 59 _) _ _ _ _ :: _) _ _); refine wpList_load_hdi rfl _ rfl _ rfl _ _ _ _ _ H9.out.2.2.2.2.2.2 ?_))
    refine (HO1.out Ai Al Ap2 mi ml2 mp g1 p1 l1 w9 HMm.out.1 HMm.out.2.2.1 (HKi.out w9 (Below.refl _ _)) HMm.out.2.2.2 (HKl.out w9 (Below.refl _ _))).mono ?_
    rintro e w10 ⟨hop, hb10⟩
    obtain ⟨q1, cf, hq1, rfl⟩ := hop.key HFo.out
    have HOP := Lib.hid hop
    have HQ1 := Lib.hid (fun w => key_self hq1 w)
    obtain ⟨k1, k2, k3, k4⟩ := keybox w10 q1
    obtain ⟨W11, hW11⟩ : ∃ W11, W11 = (w10.alloc (.cells z16 23)).setCells w10.heap.size 0 (kl q1.1 q1.2) := ⟨_, rfl⟩
    rw [← hW11] at k2 k3 k4
    obtain ⟨ka, hka⟩ : ∃ ka, ka = w10.heap.size := ⟨_, rfl⟩
    have HTk1 := Lib.hid k1
    have HW11 := Lib.hid (And.intro hW11 hka)
    rw [← hka] at k2 k4
    have HB11 : Hid (Below w9.heap.size w9 W11 ∧ Kbx W11 ka q1) := Lib.hid ⟨hb10.trans (k3.mono hb10.size), k2⟩
    have HN11 : Hid (Below N w W11) := Lib.hid (H9.out.1.trans (HB11.out.1.mono H9.out.2.1))
    clear c0 c1 c2 c3 c4 c5
    have c0 : W11.cell? ⟨N, 0, none⟩ = some (.int .u8 K) := (H9.out.2.2.1.keep HB11.out.1).cell 0
    have c1 : W11.cell? ⟨N, 1, none⟩ = some (.int .i64 D) := (H9.out.2.2.1.keep HB11.out.1).cell 1
    have c2 : W11.cell? ⟨N, 2, none⟩ = some (.int .i64 E) := (H9.out.2.2.1.keep HB11.out.1).cell 2
    have c3 : W11.cell? ⟨N, 3, none⟩ = some (.int .u64 (P : Int)) := (H9.out.2.2.1.keep HB11.out.1).cell 3
    have c4 : W11.cell? ⟨N, 4, none⟩ = some (.int .u64 (Q : Int)) := (H9.out.2.2.1.keep HB11.out.1).cell 4
    have c5 : W11.cell? ⟨N, 5, none⟩ = some (.int .u64 (G : Int)) := (H9.out.2.2.1.keep HB11.out.1).cell 5
    rw [hW11] at c0 c1 c2 c3 c4 c5
    clear k1 k2 k3 k4 hW11 hka hb10 hop hq1
    go_wp2_with (first
      | ((with_reducible show wpList _ _ _ (Oper.mk _ (Op.store 23 _ _) _ _ _ _ :: _) _ _); refine wpList_store_key rfl _ _ rfl _ _ _ rfl rfl HTk1.out ?_)
      | ((with_reducible show wpList _ _ _ (Oper.mk _ (Op.load 33 _) _ _ _ _ :: _) _ _); refine wpList_load_sg rfl _ rfl _ rfl _ _ _ _ (by rw [← HW11.out.1]; exact H9.out.2.2.2.1.keep HB11.out.1) ?_)
      | ((with_reducible show wpList _ _ _ (Oper.mk _ (Op.load 59 _) _ _ _ _ :: _) _ _); refine wpList_load_hdi rfl _ rfl _ rfl _ _ _ _ _ (by rw [← HW11.out.1]; exact Blk.keep H9.out.2.2.2.2.1 HB11.out.1) ?_))
    rw [← HW11.out.1, ← HW11.out.2]
    refine (HO2.out W11 HN11.out).mono ?_
    rintro e w12 ⟨hop2, hb12⟩
    obtain rfl := hop2.same HOP.out
    obtain ⟨k1, k2, k3, k4⟩ := keybox w12 q1
    obtain ⟨W13, hW13⟩ : ∃ W13, W13 = (w12.alloc (.cells z16 23)).setCells w12.heap.size 0 (kl q1.1 q1.2) := ⟨_, rfl⟩
    rw [← hW13] at k2 k3 k4
    obtain ⟨kb, hkb⟩ : ∃ kb, kb = w12.heap.size := ⟨_, rfl⟩
    have HTk2 := Lib.hid k1
    have HW13 := Lib.hid (And.intro hW13 hkb)
    rw [← hkb] at k2 k4
    have HB13 : Hid (Below w9.heap.size w9 W13 ∧ Kbx W13 ka q1 ∧ Kbx W13 kb q1) := Lib.hid ⟨HB11.out.1.trans ((hb12.trans (k3.mono hb12.size)).mono HB11.out.1.size), Blk.keep (Blk.keep HB11.out.2 hb12) k3, k2⟩
    have HN13 : Hid (Below N w W13) := Lib.hid (H9.out.1.trans (HB13.out.1.mono H9.out.2.1))
    have Q1 := HQ1.out
    clear k1 k2 k3 k4 hW13 hkb hb12 hop2 c0 c1 c2 c3 c4 c5
    go_wp2_with (first
      | ((with_reducible show wpList _ _ _ (Oper.mk _ (Op.store 23 _ _) _ _ _ _ :: _) _ _); refine wpList_store_key rfl _ _ rfl _ _ _ rfl rfl HTk2.out ?_)
      | ((with_reducible show wpList _ _ _ (Oper.mk _ (Op.load 23 _) _ _ _ _ :: _) _ _); refine wpList_load_key rfl _ rfl _ rfl _ _ (by rw [← HW13.out.1]; exact Kbx.at_ HB13.out.2.1) ?_)
      | ((with_reducible show wpList _ _ _ (Oper.mk _ (Op.load 23 _) _ _ _ _ :: _) _ _); refine wpList_load_key rfl _ rfl _ rfl _ _ (by rw [← HW13.out.1, ← HW13.out.2]; exact Kbx.at_ HB13.out.2.2) ?_)
      | ((with_reducible show wpList _ _ _ (Oper.mk _ (Op.load 33 _) _ _ _ _ :: _) _ _); refine wpList_load_sgo (by rfl) _ rfl _ rfl _ _ _ _ (by rw [← HW13.out.1]; exact H9.out.2.2.2.2.2.1.keep HB13.out.1) ?_)
      | ((with_reducible show wpList _ _ _ (Oper.mk _ (Op.load 33 _) _ _ _ _ :: _) _ _); refine wpList_load_sgo (by rfl) _ rfl _ rfl _ _ _ _ (by rw [← HW13.out.1]; exact H9.out.2.2.2.1.keep HB13.out.1) ?_))
    rw [← HW13.out.1]
    refine (HSS.out Al ml2 l1 W13 HMm.out.2.2.1 HMm.out.2.2.2 (HKl.out W13 HB13.out.1) HN13.out).mono ?_
    rintro e w14 ⟨rfl, hb14⟩
    have HB14 : Hid (Below w9.heap.size w9 w14) := Lib.hid (HB13.out.1.trans (hb14.mono HB13.out.1.size))
    have HN14 : Hid (Below N w w14 ∧ N ≤ w14.heap.size) := Lib.hid ⟨H9.out.1.trans (HB14.out.mono H9.out.2.1), Nat.le_trans H9.out.2.1 HB14.out.size⟩
    clear hb14 Q1
    go_wp2_with (first
      | ((with_reducible show wpList _ _ _ (Oper.mk _ (Op.load 59 _) _ _ _ _ :: _) _ _); refine wpList_load_hdo (by rfl) _ rfl _ rfl _ _ _ _ _ (Blk.keep H9.out.2.2.2.2.2.2 HB14.out) ?_)
      | ((with_reducible show wpList _ _ _ (Oper.mk _ (Op.load 59 _) _ _ _ _ :: _) _ _); refine wpList_load_hdo (by rfl) _ rfl _ rfl _ _ _ _ _ (Blk.keep H9.out.2.2.2.2.1 HB14.out) ?_))
    refine (HSH.out Ai Ap2 mi mp g1 p1 w14 HMm.out.1 HMm.out.2.1 (HKi.out w14 HB14.out) HN14.out.1).mono ?_
    rintro e w15 ⟨rfl, hb15⟩
    have HF : Hid (Below N w w15) := Lib.hid (HN14.out.1.trans (hb15.mono HN14.out.2))
    clear hb15
    go_wp2_with fail
    go_ret
    exact ⟨by first | rfl | simp, HF.out⟩
end Go.Proofs.Ytelalpikdidpeaa
