/-
  Texts joined into one: AlvA, AlvB, AlvC, LawBase, LawNum, TxtG, FraR.
-/
import Derived.Test.YthplhlcdlnedfaaFraC
import Derived.Test.YthplhlcdlnedfaaTxtF
import Derived.Test.YthplhlcdlnedfaaGrpC
import Derived.Deep.RegionHeld3
import Derived.Deep.CutRange
import Derived.OpenShut

/-
  The chapter's examples, part A: the calls at small numbers.
-/
namespace Go.Proofs.Ythplhlcdlnedfaa
open Go.RowKit MN

theorem sm_vd {N : Nat} (h : N < 4294967296 ^ 16) : Vd (digs 4294967296 N) := ⟨digs_len (by omega) _ _ h, digs_top _ _ (by omega)⟩
theorem sm_big {N : Nat} (h : N < 4294967296 ^ 16) : ¬ Big N := by
  unfold Big
  have := digs_len (B := 4294967296) (by omega) _ _ h
  omega
theorem sm_fitC {N : Nat} (h : N < 4294967296 ^ 16) : fitC N = 0 := if_neg (sm_big h)
theorem sm_fitN {N : Nat} (h : N < 4294967296 ^ 16) : fitN N = N := if_neg (sm_big h)
theorem nv_digs (N : Nat) : nv (digs 4294967296 N) = N := digs_val _ _ (by omega)

/-- A value that is a number's slice, and an error. -/
def Val1 (w : World) (N : Nat) (e : Ending) (w' : World) : Prop := ∃ v, e = .returned (.tuple #[v, .int .i64 0]) ∧ Own w.heap.size w' v N ∧ Below w.heap.size w w'

theorem val1_of {w : World} {N : Nat} {e : Ending} {w' : World} (h : Res w 0 N e w') : Val1 w N e w' := by
  obtain ⟨A, m, c, rfl, ho, hb⟩ := h
  exact ⟨_, rfl, ⟨A, m, c, rfl, ho⟩, hb⟩

theorem Own.arg {B : Nat} {w : World} {v : Value} {N : Nat} (h : Own B w v N) : ∃ A n c, v = .slice A n c ∧ Arg w A n c (digs 4294967296 N) := by
  obtain ⟨A, n, c, rfl, h⟩ := h
  exact ⟨A, n, c, rfl, (own_num h).1⟩

theorem add_n {B : Nat} {w : World} {v1 v2 : Value} {X Y : Nat} (h : Own B w v1 X) (k : Own B w v2 Y) (hX : X < 4294967296 ^ 16) (hY : Y < 4294967296 ^ 16) (hZ : X + Y < 4294967296 ^ 16) :
    Calls Try.prog 21 #[v1, v2] w (Val1 w (X + Y)) := by
  obtain ⟨A1, n1, c1, rfl, a1⟩ := h.arg
  obtain ⟨A2, n2, c2, rfl, a2⟩ := k.arg
  have H := add_any A1 n1 c1 _ A2 n2 c2 _ w a1 a2
  rw [okC_yes (sm_vd hX) (sm_vd hY), okN_yes (sm_vd hX) (sm_vd hY), nv_digs, nv_digs, sm_fitC hZ, sm_fitN hZ] at H
  exact H.mono fun _ _ => val1_of

theorem mul_n {B : Nat} {w : World} {v1 v2 : Value} {X Y : Nat} (h : Own B w v1 X) (k : Own B w v2 Y) (hX : X < 4294967296 ^ 16) (hY : Y < 4294967296 ^ 16) (hZ : X * Y < 4294967296 ^ 16) :
    Calls Try.prog 23 #[v1, v2] w (Val1 w (X * Y)) := by
  obtain ⟨A1, n1, c1, rfl, a1⟩ := h.arg
  obtain ⟨A2, n2, c2, rfl, a2⟩ := k.arg
  have H := mul_any A1 n1 c1 _ A2 n2 c2 _ w a1 a2
  rw [okC_yes (sm_vd hX) (sm_vd hY), okN_yes (sm_vd hX) (sm_vd hY), nv_digs, nv_digs, sm_fitC hZ, sm_fitN hZ] at H
  exact H.mono fun _ _ => val1_of

theorem gcd_n {B : Nat} {w : World} {v1 v2 : Value} {X Y : Nat} (h : Own B w v1 X) (k : Own B w v2 Y) (hX : X < 4294967296 ^ 16) (hY : Y < 4294967296 ^ 16) :
    Calls Try.prog 29 #[v1, v2] w (Val1 w (Nat.gcd X Y)) := by
  obtain ⟨A1, n1, c1, rfl, a1⟩ := h.arg
  obtain ⟨A2, n2, c2, rfl, a2⟩ := k.arg
  have H := gcd_any A1 n1 c1 _ A2 n2 c2 _ w a1 a2
  rw [okC_yes (sm_vd hX) (sm_vd hY), okN_yes (sm_vd hX) (sm_vd hY), nv_digs, nv_digs] at H
  exact H.mono fun _ _ => val1_of

/-- Two values and an error. -/
def Val2 (w : World) (N M : Nat) (e : Ending) (w' : World) : Prop := ∃ v1 v2, e = .returned (.tuple #[v1, v2, .int .i64 0]) ∧ Own w.heap.size w' v1 N ∧ Own w.heap.size w' v2 M ∧ Below w.heap.size w w'

theorem div_n {B : Nat} {w : World} {v1 v2 : Value} {X Y : Nat} (h : Own B w v1 X) (k : Own B w v2 Y) (hX : X < 4294967296 ^ 16) (hY : Y < 4294967296 ^ 16) (hZ : Y ≠ 0) :
    Calls Try.prog 28 #[v1, v2] w (Val2 w (X / Y) (X % Y)) := by
  obtain ⟨A1, n1, c1, rfl, a1⟩ := h.arg
  obtain ⟨A2, n2, c2, rfl, a2⟩ := k.arg
  have H := div_any A1 n1 c1 _ A2 n2 c2 _ w a1 a2
  rw [okC_yes (sm_vd hX) (sm_vd hY), okN_yes (sm_vd hX) (sm_vd hY), okN_yes (sm_vd hX) (sm_vd hY), nv_digs, nv_digs, show divC Y = 0 from if_neg hZ, if_neg hZ, if_neg hZ] at H
  refine H.mono fun e w' => ?_
  rintro ⟨A, m, c, A', m', c', rfl, o1, o2, hb⟩
  exact ⟨_, _, rfl, ⟨A, m, c, rfl, o1⟩, ⟨A', m', c', rfl, o2⟩, hb⟩

theorem n_val (N : Nat) (z : Int) (w : World) (hz : z = (N : Int)) (h1 : N ≤ 18446744073709551615) : Calls Try.prog 20 #[.int .u64 z] w fun e w' => ∃ v, e = .returned v ∧ Own w.heap.size w' v N ∧ Below w.heap.size w w' := by
  subst hz
  refine (n_any N w h1).mono fun e w' => ?_
  rintro ⟨A, m, c, rfl, ho, hb⟩
  exact ⟨_, rfl, ⟨A, m, c, rfl, ho⟩, hb⟩

theorem of_val (N : Nat) (z : Int) (w : World) (hz : z = (N : Int)) (h1 : N ≤ 18446744073709551615) : Calls Try.prog 27 #[.int .u64 z] w fun e w' => ∃ v, e = .returned v ∧ Own w.heap.size w' v N ∧ Below w.heap.size w w' := by
  subst hz
  refine (of_any (N : Int) w (by omega) (by omega)).mono fun e w' => ?_
  rintro ⟨A, m, c, rfl, ho, hb⟩
  exact ⟨_, rfl, ⟨A, m, c, rfl, ho⟩, hb⟩

theorem ratio_n {B : Nat} {w : World} {v1 v2 : Value} {X Y : Nat} (h : Own B w v1 X) (k : Own B w v2 Y) (hX : X < 4294967296 ^ 16) (hY : Y < 4294967296 ^ 16) (hZ : Y ≠ 0) :
    Calls Try.prog 31 #[v1, v2] w fun e w' => ∃ u1 u2, e = .returned (.tuple #[.agg #[u1, u2], .int .i64 0]) ∧ Own w.heap.size w' u1 (X / Nat.gcd X Y) ∧ Own w.heap.size w' u2 (Y / Nat.gcd X Y) ∧ Below w.heap.size w w' := by
  obtain ⟨A1, n1, c1, rfl, a1⟩ := h.arg
  obtain ⟨A2, n2, c2, rfl, a2⟩ := k.arg
  have H := ratio_any A1 n1 c1 _ A2 n2 c2 _ w a1 a2
  have hr : ¬ redBig X Y := fun e => e.elim (fun e => sm_big (Nat.lt_of_le_of_lt (Nat.div_le_self _ _) hX) e) (fun e => sm_big (Nat.lt_of_le_of_lt (Nat.div_le_self _ _) hY) e)
  rw [okC_yes (sm_vd hX) (sm_vd hY), okN_yes (sm_vd hX) (sm_vd hY), okN_yes (sm_vd hX) (sm_vd hY), nv_digs, nv_digs, show ratC X Y = redC X Y from if_neg hZ, show ratN X Y = redN X Y from if_neg hZ, show ratD X Y = redD X Y from if_neg hZ, show redC X Y = 0 from if_neg hr, show redN X Y = X / Nat.gcd X Y from if_neg hr, show redD X Y = Y / Nat.gcd X Y from if_neg hr] at H
  refine H.mono fun e w' => ?_
  rintro ⟨u1, u2, rfl, P⟩
  exact ⟨_, _, rfl, P.one, P.two, P.below⟩

theorem fraction_val (X Y : Nat) (z1 z2 : Int) (w : World) (h1 : z1 = (X : Int)) (h2 : z2 = (Y : Int)) (hX : X ≤ 18446744073709551615) (hY : Y ≤ 18446744073709551615) :
    Calls Try.prog 33 #[.int .u64 z1, .int .u64 z2] w fun e w' => ∃ u1 u2, e = .returned (.agg #[u1, u2]) ∧ Own w.heap.size w' u1 X ∧ Own w.heap.size w' u2 Y ∧ Below w.heap.size w w' := by
  subst h1 h2
  refine (fraction_any X Y w hX hY).mono fun e w' => ?_
  rintro ⟨u1, u2, rfl, P⟩
  exact ⟨_, _, rfl, P.one, P.two, P.below⟩

theorem same_n {B1 B2 : Nat} {w : World} {v1 v2 v3 v4 : Value} {X Y Z U : Nat} (h1 : Own B1 w v1 X) (h2 : Own B1 w v2 Y) (h3 : Own B2 w v3 Z) (h4 : Own B2 w v4 U) :
    Calls Try.prog 36 #[.agg #[v1, v2], .agg #[v3, v4]] w fun e w' => e = .returned (.bool (sB (digs 4294967296 X) (digs 4294967296 Z) && sB (digs 4294967296 Y) (digs 4294967296 U))) ∧ Below w.heap.size w w' := by
  obtain ⟨A1, n1, c1, rfl, a1⟩ := h1.arg
  obtain ⟨A2, n2, c2, rfl, a2⟩ := h2.arg
  obtain ⟨A3, n3, c3, rfl, a3⟩ := h3.arg
  obtain ⟨A4, n4, c4, rfl, a4⟩ := h4.arg
  exact sameFraction_any A1 A2 A3 A4 n1 c1 n2 c2 n3 c3 n4 c4 _ _ _ _ w a1.rd a2.rd a3.rd a4.rd

/-- is, of a number and digits that are written out. -/
theorem is_n {B : Nat} {w : World} {v : Value} {N : Nat} (h : Own B w v N) (code : Int) (ds : List Nat) (ar : Array Value) (har : ar = (vs32 ds).toArray) (k : Nat) (hk : ds.length = k) (hk2 : k ≤ 16) :
    Calls Try.prog 25 #[v, .int .i64 code, .slice (some ⟨w.heap.size, 0, none⟩) k k] (w.alloc (.cells ar 24)) fun e w' => e = .returned (.bool (isB code (digs 4294967296 N) ds)) ∧ Below w.heap.size w w' := by
  subst har
  obtain ⟨A, n, c, rfl, a⟩ := h.arg
  have hb := below_alloc w (.cells (vs32 ds).toArray 24)
  have hr : Rd .u32 (w.alloc (.cells (vs32 ds).toArray 24)) (some ⟨w.heap.size, 0, none⟩) k k ds := ⟨hk, Nat.le_refl _, by simp [maxLen]; omega, fun _ => ⟨w.heap.size, 0, rfl, fun i hi => by
    rw [World.cell?_alloc_at (hn := by simp), dg_get ds i (by omega)]
    simp [vs32, List.getElem?_eq_getElem (show i < ds.length by omega)]⟩⟩
  refine (is_any A _ n c k k code _ ds _ (a.rd.keep hb) hr).mono fun e w' => ?_
  rintro ⟨rfl, hd⟩
  exact ⟨rfl, hb.trans (hd.below.mono (by simp))⟩

theorem text_n {B : Nat} {w : World} {v : Value} {N : Nat} (h : Own B w v N) (hN : N < 4294967296 ^ 16) :
    Calls Try.prog 52 #[v] w fun e w' => e = .returned (.tuple #[.string (txtS N), .int .i64 0]) ∧ Below w.heap.size w w' := by
  obtain ⟨A, n, c, rfl, a⟩ := h.arg
  have H := text_any A n c _ w a
  rw [ck_yes (sm_vd hN), show texS (digs 4294967296 N) = txtS (nv (digs 4294967296 N)) from if_pos (sm_vd hN), nv_digs] at H
  exact H

theorem parse_n (s : ByteArray) (w : World) (N : Nat) (hs : s.size ≤ maxLen) (hd : IsDec (bs s)) (hv : dvk (bs s) s.size = N) (hN : N < 4294967296 ^ 16) :
    Calls Try.prog 30 #[.string s] w (Val1 w N) := by
  have H := parse_any s w hs
  rw [show parC s = fitC N by unfold parC; rw [if_pos (decB_yes hd), hv], show parN s = fitN N by unfold parN; rw [if_pos (decB_yes hd), hv], sm_fitC hN, sm_fitN hN] at H
  exact H.mono fun _ _ => val1_of
end Go.Proofs.Ythplhlcdlnedfaa

/-
  The chapter's examples, part B: what comes out, reckoned.
-/
namespace Go.Proofs.Ythplhlcdlnedfaa
open Go.RowKit MN

theorem ex_digs (N : Nat) (xs : List Nat) (h1 : Low 4294967296 xs) (h2 : Top xs) (h3 : nv xs = N) : digs 4294967296 N = xs := by
  refine val_inj (B := 4294967296) (by omega) _ _ (digs_low _ _ (by omega)) h1 (digs_top _ _ (by omega)) h2 ?_
  rw [digs_val _ _ (by omega)]; exact h3.symm
theorem ex_is (N : Nat) (xs : List Nat) (h1 : Low 4294967296 xs) (h2 : Top xs) (h3 : nv xs = N) : isB 0 (digs 4294967296 N) xs = true := by
  rw [ex_digs N xs h1 h2 h3]; show (true && sB xs xs) = true; rw [sB_yes rfl]; rfl

theorem ex_add : isB 0 (digs 4294967296 (4294967295 + 1)) [0, 1] = true := ex_is _ _ (by unfold Low; decide) (by unfold Top; decide) (by decide)
theorem ex_mul : isB 0 (digs 4294967296 (4294967296 * 4294967296)) [0, 0, 1] = true := ex_is _ _ (by unfold Low; decide) (by unfold Top; decide) (by decide)
theorem ex_div : isB 0 (digs 4294967296 (100 / 7)) [14] = true := ex_is _ _ (by unfold Low; decide) (by unfold Top; decide) (by decide)
theorem ex_mod : isB 0 (digs 4294967296 (100 % 7)) [2] = true := ex_is _ _ (by unfold Low; decide) (by unfold Top; decide) (by decide)
theorem ex_gcd : isB 0 (digs 4294967296 (Nat.gcd 12 18)) [6] = true := ex_is _ _ (by unfold Low; decide) (by unfold Top; decide) (by decide)
theorem ex_of : isB 0 (digs 4294967296 4294967301) [5, 1] = true := ex_is _ _ (by unfold Low; decide) (by unfold Top; decide) (by decide)
theorem ex_parse : isB 0 (digs 4294967296 18446744073709551616) [0, 0, 1] = true := ex_is _ _ (by unfold Low; decide) (by unfold Top; decide) (by decide)

abbrev big64 : ByteArray := { data := #[49, 56, 52, 52, 54, 55, 52, 52, 48, 55, 51, 55, 48, 57, 53, 53, 49, 54, 49, 54] }
theorem ex_txtL : txtL (4294967296 * 4294967296) = [49, 56, 52, 52, 54, 55, 52, 52, 48, 55, 51, 55, 48, 57, 53, 53, 49, 54, 49, 54] := by
  have h : digs 10 (4294967296 * 4294967296) = [6, 1, 6, 1, 5, 5, 9, 0, 7, 3, 7, 0, 4, 4, 7, 6, 4, 4, 8, 1] :=
    val_inj (B := 10) (by omega) _ _ (digs_low _ _ (by omega)) (by unfold Low; decide) (digs_top _ _ (by omega)) (by unfold Top; decide) (by rw [digs_val _ _ (by omega)]; decide)
  unfold txtL
  rw [if_neg (by decide), h]; rfl
theorem ex_text : txtS (4294967296 * 4294967296) = { data := #[49, 56, 52, 52, 54, 55, 52, 52, 48, 55, 51, 55, 48, 57, 53, 53, 49, 54, 49, 54] } := by
  unfold txtS; rw [ex_txtL]; rfl
theorem ex_size : big64.size ≤ maxLen := by show 20 ≤ 2 ^ 63 - 1; decide
theorem ex_dec : IsDec (bs big64) := by
  show IsDec [49, 56, 52, 52, 54, 55, 52, 52, 48, 55, 51, 55, 48, 57, 53, 53, 49, 54, 49, 54]
  unfold IsDec; decide
theorem ex_dvk : dvk (bs big64) big64.size = 18446744073709551616 := by
  show dvk [49, 56, 52, 52, 54, 55, 52, 52, 48, 55, 51, 55, 48, 57, 53, 53, 49, 54, 49, 54] 20 = _
  decide
theorem ex_pow : pmv 3 4 7 = 4 := by rw [pmv, if_pos (by omega)]; decide
theorem ex_powc : pmc 7 = 0 := by rw [pmc, if_pos (by omega)]
theorem ex_inv : ivv 3 7 = 5 := ivv_of 3 7 5 (by omega) (by omega) (by unfold MA.IsInv; decide)
theorem ex_invc : ivc 3 7 = 0 := by rw [ivc, if_pos (by omega), if_pos (by decide)]
theorem isPr_small (n : Nat) (h2 : 2 ≤ n) (hn : n < 1000) (h : ∀ d, d < 32 → 2 ≤ d → d * d ≤ n → n % d ≠ 0) : MA.IsPr n :=
  ⟨h2, fun d hd hdd => h d (by
    rcases Nat.lt_or_ge d 32 with k | k
    · exact k
    · have := Nat.mul_le_mul k k
      omega) hd hdd⟩
theorem ex_pr2 : MA.IsPr 2 := isPr_small 2 (by omega) (by omega) (by decide)
theorem ex_pr11 : MA.IsPr 11 := isPr_small 11 (by omega) (by omega) (by decide)
theorem ex_pr23 : MA.IsPr 23 := isPr_small 23 (by omega) (by omega) (by decide)
theorem ex_prime : prb 2 = true := by rw [prb, if_neg (by omega)]; exact prv_yes 2 ex_pr2
theorem ex_primec : prc 2 = 0 := by rw [prc, if_neg (by omega)]
theorem ex_grp : grc 23 11 2 = 0 := grc_yes 23 11 2 ⟨by omega, ex_pr23, by omega, ex_pr11, by decide, by omega, by omega, by decide⟩
theorem ex_grp5 : grc 23 11 5 = 13 := grc_no 23 11 5 (fun h => by
  have := h.2.2.2.2.2.2.2
  revert this; decide)
theorem ex_same : (sB (digs 4294967296 (6 / Nat.gcd 6 4)) (digs 4294967296 3) && sB (digs 4294967296 (4 / Nat.gcd 6 4)) (digs 4294967296 2)) = true := by
  rw [show 6 / Nat.gcd 6 4 = 3 by decide, show 4 / Nat.gcd 6 4 = 2 by decide, sB_yes rfl, sB_yes rfl]; rfl
theorem below_drewN {B : Nat} {a w : World} (h : Below B a w) (n : Nat) : Below B a (w.drewN n) := h.trans ⟨rfl, rfl, rfl, Nat.le_refl _, fun _ _ => rfl⟩
theorem Below.frame' (w : World) (o : Obj) (n : Nat) : Below w.heap.size w ((w.alloc o).drewN n) := below_drewN (below_alloc w o) n
theorem Var2.drewN {w : World} {B : Nat} {u v : Value} (h : Var2 w B u v) (n : Nat) : Var2 (w.drewN n) B u v := ⟨h.c0, h.c1, h.f0, h.f1⟩
theorem lt_drewN (w : World) (o : Obj) (n : Nat) : w.heap.size < ((w.alloc o).drewN n).heap.size := by
  show w.heap.size < (w.alloc o).heap.size
  simp
end Go.Proofs.Ythplhlcdlnedfaa

/-
  The chapter's examples, part C: alive.
-/
namespace Go.Proofs.Ythplhlcdlnedfaa
open Go.RowKit MN

set_option maxRecDepth 100000 in
set_option maxHeartbeats 1000000 in
theorem alive_any (w0 : World) : Calls Try.prog 24 #[] w0 fun e w' => e = .returned (.bool true) ∧ Below w0.heap.size w0 w' := by
  have hb0 := Below.refl w0.heap.size w0
  go_enter Try.func24, Try.ntmps24
  go_wp2_with fail
  refine (n_val 4294967295 _ w0 rfl (by decide)).mono ?_
  rintro e w1 ⟨vp, rfl, xp, hx1⟩
  have hb1 := hb0.trans (hx1.mono hb0.size)
  have op := xp.low hb0.size
  clear hb0 hx1 xp
  go_wp2_with fail
  refine (n_val 1 _ w1 rfl (by decide)).mono ?_
  rintro e w2 ⟨vq, rfl, xq, hx2⟩
  have hb2 := hb1.trans (hx2.mono hb1.size)
  have oq := xq.low hb1.size
  replace op := op.keep hx2
  clear hb1 hx2 xq
  go_wp2_with fail
  refine (add_n op oq (by decide) (by decide) (by decide)).mono ?_
  rintro e w3 ⟨va, rfl, xa, hx3⟩
  have hb3 := hb2.trans (hx3.mono hb2.size)
  have oa := xa.low hb2.size
  clear op
  clear oq
  clear hb2 hx3 xa
  go_wp2_with fail
  refine (n_val 4294967296 _ w3 rfl (by decide)).mono ?_
  rintro e w4 ⟨vp, rfl, xp, hx4⟩
  have hb4 := hb3.trans (hx4.mono hb3.size)
  have op := xp.low hb3.size
  replace oa := oa.keep hx4
  clear hb3 hx4 xp
  go_wp2_with fail
  refine (n_val 4294967296 _ w4 rfl (by decide)).mono ?_
  rintro e w5 ⟨vq, rfl, xq, hx5⟩
  have hb5 := hb4.trans (hx5.mono hb4.size)
  have oq := xq.low hb4.size
  replace oa := oa.keep hx5
  replace op := op.keep hx5
  clear hb4 hx5 xq
  go_wp2_with fail
  refine (mul_n op oq (by decide) (by decide) (by decide)).mono ?_
  rintro e w6 ⟨vb, rfl, xb, hx6⟩
  have hb6 := hb5.trans (hx6.mono hb5.size)
  have ob := xb.low hb5.size
  clear op
  clear oq
  replace oa := oa.keep hx6
  clear hb5 hx6 xb
  go_wp2_with fail
  refine (n_val 100 _ w6 rfl (by decide)).mono ?_
  rintro e w7 ⟨vp, rfl, xp, hx7⟩
  have hb7 := hb6.trans (hx7.mono hb6.size)
  have op := xp.low hb6.size
  replace oa := oa.keep hx7
  replace ob := ob.keep hx7
  clear hb6 hx7 xp
  go_wp2_with fail
  refine (n_val 7 _ w7 rfl (by decide)).mono ?_
  rintro e w8 ⟨vq, rfl, xq, hx8⟩
  have hb8 := hb7.trans (hx8.mono hb7.size)
  have oq := xq.low hb7.size
  replace oa := oa.keep hx8
  replace ob := ob.keep hx8
  replace op := op.keep hx8
  clear hb7 hx8 xq
  go_wp2_with fail
  refine (div_n op oq (by decide) (by decide) (by decide)).mono ?_
  rintro e w9 ⟨vc, vr, rfl, xc, xr, hx9⟩
  have hb9 := hb8.trans (hx9.mono hb8.size)
  have oc := xc.low hb8.size
  have or := xr.low hb8.size
  clear op
  clear oq
  replace oa := oa.keep hx9
  replace ob := ob.keep hx9
  clear hb8 hx9 xc xr
  go_wp2_with fail
  refine (n_val 12 _ w9 rfl (by decide)).mono ?_
  rintro e w10 ⟨vp, rfl, xp, hx10⟩
  have hb10 := hb9.trans (hx10.mono hb9.size)
  have op := xp.low hb9.size
  replace oa := oa.keep hx10
  replace ob := ob.keep hx10
  replace oc := oc.keep hx10
  replace or := or.keep hx10
  clear hb9 hx10 xp
  go_wp2_with fail
  refine (n_val 18 _ w10 rfl (by decide)).mono ?_
  rintro e w11 ⟨vq, rfl, xq, hx11⟩
  have hb11 := hb10.trans (hx11.mono hb10.size)
  have oq := xq.low hb10.size
  replace oa := oa.keep hx11
  replace ob := ob.keep hx11
  replace oc := oc.keep hx11
  replace or := or.keep hx11
  replace op := op.keep hx11
  clear hb10 hx11 xq
  go_wp2_with fail
  refine (gcd_n op oq (by decide) (by decide)).mono ?_
  rintro e w12 ⟨vd, rfl, xd, hx12⟩
  have hb12 := hb11.trans (hx12.mono hb11.size)
  have od := xd.low hb11.size
  clear op
  clear oq
  replace oa := oa.keep hx12
  replace ob := ob.keep hx12
  replace oc := oc.keep hx12
  replace or := or.keep hx12
  clear hb11 hx12 xd
  go_wp2_with fail
  refine (is_n oa 0 [0, 1] _ rfl 2 rfl (by decide)).mono ?_
  rintro e w13 ⟨rfl, hx13⟩
  rw [ex_add]
  have hb13 := hb12.trans (hx13.mono hb12.size)
  clear oa
  replace ob := ob.keep hx13
  replace oc := oc.keep hx13
  replace or := or.keep hx13
  replace od := od.keep hx13
  clear hb12 hx13
  go_wp2_with fail
  refine (is_n ob 0 [0, 0, 1] _ rfl 3 rfl (by decide)).mono ?_
  rintro e w14 ⟨rfl, hx14⟩
  rw [ex_mul]
  have hb14 := hb13.trans (hx14.mono hb13.size)
  replace ob := ob.keep hx14
  replace oc := oc.keep hx14
  replace or := or.keep hx14
  replace od := od.keep hx14
  clear hb13 hx14
  go_wp2_with fail
  refine (is_n oc 0 [14] _ rfl 1 rfl (by decide)).mono ?_
  rintro e w15 ⟨rfl, hx15⟩
  rw [ex_div]
  have hb15 := hb14.trans (hx15.mono hb14.size)
  clear oc
  replace ob := ob.keep hx15
  replace or := or.keep hx15
  replace od := od.keep hx15
  clear hb14 hx15
  go_wp2_with fail
  refine (is_n or 0 [2] _ rfl 1 rfl (by decide)).mono ?_
  rintro e w16 ⟨rfl, hx16⟩
  rw [ex_mod]
  have hb16 := hb15.trans (hx16.mono hb15.size)
  clear or
  replace ob := ob.keep hx16
  replace od := od.keep hx16
  clear hb15 hx16
  go_wp2_with fail
  refine (is_n od 0 [6] _ rfl 1 rfl (by decide)).mono ?_
  rintro e w17 ⟨rfl, hx17⟩
  rw [ex_gcd]
  have hb17 := hb16.trans (hx17.mono hb16.size)
  clear od
  replace ob := ob.keep hx17
  clear hb16 hx17
  go_wp2_with fail
  refine (of_val 4294967301 _ w17 rfl (by decide)).mono ?_
  rintro e w18 ⟨vo, rfl, xo, hx18⟩
  have hb18 := hb17.trans (hx18.mono hb17.size)
  have oo := xo.low hb17.size
  replace ob := ob.keep hx18
  clear hb17 hx18 xo
  go_wp2_with fail
  refine (is_n oo 0 [5, 1] _ rfl 2 rfl (by decide)).mono ?_
  rintro e w19 ⟨rfl, hx19⟩
  rw [ex_of]
  have hb19 := hb18.trans (hx19.mono hb18.size)
  clear oo
  replace ob := ob.keep hx19
  clear hb18 hx19
  go_wp2_with fail
  refine (text_n ob (by decide)).mono ?_
  rintro e w20 ⟨rfl, hx20⟩
  rw [ex_text]
  have hb20 := hb19.trans (hx20.mono hb19.size)
  clear hb19 ob hx20
  go_wp2_with fail
  refine (parse_n _ w20 18446744073709551616 ex_size ex_dec ex_dvk (by decide)).mono ?_
  rintro e w21 ⟨vt, rfl, xt, hx21⟩
  have hb21 := hb20.trans (hx21.mono hb20.size)
  have ot := xt.low hb20.size
  clear hb20 hx21 xt
  go_wp2_with fail
  refine (n_val 6 _ w21 rfl (by decide)).mono ?_
  rintro e w22 ⟨vp, rfl, xp, hx22⟩
  have hb22 := hb21.trans (hx22.mono hb21.size)
  have op := xp.low hb21.size
  replace ot := ot.keep hx22
  clear hb21 hx22 xp
  go_wp2_with fail
  refine (n_val 4 _ w22 rfl (by decide)).mono ?_
  rintro e w23 ⟨vq, rfl, xq, hx23⟩
  have hb23 := hb22.trans (hx23.mono hb22.size)
  have oq := xq.low hb22.size
  replace ot := ot.keep hx23
  replace op := op.keep hx23
  clear hb22 hx23 xq
  go_wp2_with fail
  refine (ratio_n op oq (by decide) (by decide) (by decide)).mono ?_
  rintro e w24 ⟨u1, u2, rfl, xu1, xu2, hx24⟩
  have hb24 := hb23.trans (hx24.mono hb23.size)
  have ou1 := xu1.low hb23.size
  have ou2 := xu2.low hb23.size
  clear op
  clear oq
  replace ot := ot.keep hx24
  clear hb23 hx24 xu1 xu2
  -- COUNT 24 ['t', 'u1', 'u2']
  obtain ⟨A1, m1, c1, rfl, o1⟩ := ou1
  obtain ⟨A2, m2, c2, rfl, o2⟩ := ou2
  go_wp2_with fail
  refine (powMod_any 3 4 7 _ (by omega) (by omega) (by omega)).mono ?_
  rintro e w25 ⟨rfl, rfl⟩
  rw [ex_pow, ex_powc]
  go_wp2_with fail
  refine (invMod_all 3 7 _ (by omega)).mono ?_
  rintro e w25 ⟨rfl, n, rfl⟩
  rw [ex_inv, ex_invc]
  have hx26 : Below w24.heap.size w24 ((w24.alloc (Obj.cells #[Value.slice A1 m1 c1, Value.slice A2 m2 c2] 38)).drewN n) := Below.frame' w24 _ n
  have hv26 := (var2_new w24 (Value.slice A1 m1 c1) (Value.slice A2 m2 c2) 38).drewN n
  have hs26 : w24.heap.size < ((w24.alloc (Obj.cells #[Value.slice A1 m1 c1, Value.slice A2 m2 c2] 38)).drewN n).heap.size := lt_drewN w24 _ n
  go_wp2_with fail
  generalize (w24.alloc (Obj.cells #[Value.slice A1 m1 c1, Value.slice A2 m2 c2] 38)).drewN n = w26 at hx26 hv26 hs26 ⊢
  have hb26 := hb24.trans (hx26.mono hb24.size)
  replace ot := ot.keep hx26
  have oa1 := (⟨A1, m1, c1, rfl, own_keep o1 hx26⟩ : Own w0.heap.size w26 (.slice A1 m1 c1) (6 / Nat.gcd 6 4))
  have oa2 := (⟨A2, m2, c2, rfl, own_keep o2 hx26⟩ : Own w0.heap.size w26 (.slice A2 m2 c2) (4 / Nat.gcd 6 4))
  obtain ⟨k0, k1, _, _⟩ := hv26
  have HI : Hid (∀ wx, Below w26.heap.size w26 wx → Calls Try.prog 25 #[vt, .int .i64 0, .slice (some ⟨wx.heap.size, 0, none⟩) 3 3] (wx.alloc (.cells #[.int .u32 0, .int .u32 0, .int .u32 1] 24)) fun e w' => e = .returned (.bool true) ∧ Below w26.heap.size w26 w') :=
    Lib.hid (fun wx hx => (is_n (ot.keep hx) 0 [0, 0, 1] _ rfl 3 rfl (by decide)).mono fun e w' ⟨he, hb⟩ => ⟨by rw [he, ex_parse], hx.trans (hb.mono hx.size)⟩)
  have HK : Hid (∀ wx, Below w26.heap.size w26 wx → wx.cell? ⟨w24.heap.size, 0, none⟩ = some (.slice A1 m1 c1) ∧ wx.cell? ⟨w24.heap.size, 1, none⟩ = some (.slice A2 m2 c2) ∧ Below w26.heap.size w26 wx) :=
    Lib.hid (fun wx hx => ⟨(hx.cell (p := ⟨w24.heap.size, 0, none⟩) hs26).trans k0, (hx.cell (p := ⟨w24.heap.size, 1, none⟩) hs26).trans k1, hx⟩)
  have HF : Hid (∀ wx, Below w26.heap.size w26 wx → Calls Try.prog 33 #[.int .u64 3, .int .u64 2] wx fun e w' => ∃ u1 u2, e = .returned (.agg #[u1, u2]) ∧ Own w26.heap.size w' u1 3 ∧ Own w26.heap.size w' u2 2 ∧ Below w26.heap.size w26 w') :=
    Lib.hid (fun wx hx => (fraction_val 3 2 3 2 wx rfl rfl (by decide) (by decide)).mono fun e w' ⟨u1, u2, he, p1, p2, hb⟩ => ⟨u1, u2, he, p1.low hx.size, p2.low hx.size, hx.trans (hb.mono hx.size)⟩)
  have HS : Hid (∀ wx u1 u2, Below w26.heap.size w26 wx → Own w26.heap.size wx u1 3 → Own w26.heap.size wx u2 2 → Calls Try.prog 36 #[.agg #[.slice A1 m1 c1, .slice A2 m2 c2], .agg #[u1, u2]] wx fun e w' => e = .returned (.bool true) ∧ Below w26.heap.size w26 w') :=
    Lib.hid (fun wx u1 u2 hx p1 p2 => (same_n (Own.keep oa1 hx) (Own.keep oa2 hx) p1 p2).mono fun e w' ⟨he, hb⟩ => ⟨by rw [he, ex_same], hx.trans (hb.mono hx.size)⟩)
  have hx0 : Below w26.heap.size w26 w26.drew := (Below.refl _ _).drew
  have hb0 := hb26
  clear o1 o2 ot oa1 oa2 hb24 hx26 k0 k1
  go_cut [142] from 104 to 142 (fun s142 wx => s142 = .bool false ∧ Below w26.heap.size w26 wx)
  case first =>
    go_region_held3 (fun w' => w'.cell? ⟨w24.heap.size, 0, none⟩ = some (.slice A1 m1 c1) ∧ w'.cell? ⟨w24.heap.size, 1, none⟩ = some (.slice A2 m2 c2) ∧ Below w26.heap.size w26 w')
      (first
        | exact HK.out _ hx0
        | exact HK.out _ (Below.alloc hx0 (Nat.le_refl _) _)
        | exact HK.out _ hxA
        | exact HK.out _ hxB
        | exact HK.out _ hxC)
      (first
      | (go_at_call 25; refine (HI.out _ hx0).mono ?_; rintro e wA ⟨rfl, hxA⟩)
      | (go_at_call 33; refine (HF.out _ hxA).mono ?_; rintro e wB ⟨u1, u2, rfl, p1, p2, hxB⟩)
      | (go_at_call 36; refine (HS.out _ _ _ hxB p1 p2).mono ?_; rintro e wC ⟨rfl, hxC⟩))
    go_wp2_with fail
    go_meet
    case rel => exact ⟨rfl, hxC⟩
  case rest =>
    obtain ⟨rfl, hxc⟩ := hcut
    have hbc := hb26.trans (hxc.mono hb26.size)
    clear HI HF HS HK hx0 hb26 hxc hs26 hb0
    go_wp2_with fail
    refine (prime_any 2 _ (by omega)).mono ?_
    rintro e w30 ⟨rfl, rfl⟩
    rw [ex_prime, ex_primec]
    go_wp2_with fail
    refine (checkGroup_any 23 11 2 _ (by omega) (by omega) (by omega) (by omega)).mono ?_
    rintro e w31 ⟨rfl, hx31⟩
    rw [ex_grp]
    have hb31 := hbc.trans (hx31.mono hbc.size)
    go_wp2_with fail
    refine (checkGroup_any 23 11 5 _ (by omega) (by omega) (by omega) (by omega)).mono ?_
    rintro e w32 ⟨rfl, hx32⟩
    rw [ex_grp5]
    have hb32 := hb31.trans (hx32.mono hb31.size)
    go_wp2
    go_ret
    exact ⟨rfl, hb32⟩
end Go.Proofs.Ythplhlcdlnedfaa

/-
  What the laws' walks share.
-/
namespace Go.Proofs.Ythplhlcdlnedfaa
open Go.RowKit MN

theorem below_drew {w w' : World} (h : Below w.heap.size w w') (n : Nat) : Below w.heap.size w (w'.drewN n) := below_drewN h n

theorem pmv_nat (b n m : Nat) (h1 : 1 ≤ m) (h2 : m ≤ 4294967295) : pmv b n m = ((b ^ n % m : Nat) : Int) := by rw [pmv, if_pos (by omega), pwr_nat]
theorem pmc_yes (m : Nat) (h1 : 1 ≤ m) (h2 : m ≤ 4294967295) : pmc m = 0 := by rw [pmc, if_pos (by omega)]
theorem pmc_no (m : Nat) (h : ¬ (1 ≤ m ∧ m ≤ 4294967295)) : pmc m = 2 := by rw [pmc, if_neg (by omega)]
end Go.Proofs.Ythplhlcdlnedfaa

/-
  What the laws over numbers share: the numbers that came in, the calls at them.
-/
namespace Go.Proofs.Ythplhlcdlnedfaa
open Go.RowKit MN

/-- What a law is told of a slice of integers that came in: nil, or a row of cells. -/
def IsRow (k : IntKind) (w : World) (a : Option Addr) (len cap : Nat) (zs : List Int) : Prop :=
  (a = none ∧ len = 0 ∧ cap = 0 ∧ zs = []) ∨
  ∃ x, a = some x ∧ len ≤ cap ∧ cap ≤ maxLen ∧ zs.length = cap ∧ (∀ i, i < zs.length → w.cell? (x.add i) = some (.int k (zs.getD i 0))) ∧ ∀ n ∈ zs, (Lit.int k n).wf = true

theorem spot_none {w : World} {a : Addr} {v : Value} (h : w.cell? a = some v) : a.spot = none := by
  unfold World.cell? at h
  split at h
  · split at h
    · cases h
    · rename_i hs; simpa using hs
  · cases h

theorem arg_of {w : World} {a : Option Addr} {n c : Nat} {zs : List Int} (h : IsRow .u32 w a n c zs) : ∃ xs, Arg w a n c xs := by
  rcases h with ⟨rfl, rfl, rfl, rfl⟩ | ⟨x, rfl, hl, hm, hz, hc, hw⟩
  · exact ⟨[], Rd.nil _ _, low_nil _⟩
  · have hb : ∀ z ∈ zs, 0 ≤ z ∧ z ≤ 4294967295 := fun z hz => bounds_u32 (hw z hz)
    refine ⟨(zs.take n).map Int.toNat, ⟨by simp; omega, hl, hm, fun hn => ?_⟩, ?_⟩
    · have h0 := hc 0 (by omega)
      have hs : x.spot = none := by simpa [Addr.add] using spot_none h0
      refine ⟨x.block, x.off, by cases x; simp_all, fun i hi => ?_⟩
      have h1 := hc i (by omega)
      have e1 : x.add i = ⟨x.block, x.off + i, none⟩ := by
        cases x; cases i <;> simp_all [Addr.add]
      rw [e1] at h1
      rw [h1, dg_get _ i (by simp; omega)]
      have hi' : i < zs.length := by omega
      have hnn := (hb (zs[i]) (List.getElem_mem hi')).1
      simp [List.getD_eq_getElem?_getD, List.getElem?_eq_getElem hi']
      omega
    · intro d hd
      simp only [List.mem_map] at hd
      obtain ⟨z, hz, rfl⟩ := hd
      have := hb z (List.mem_of_mem_take hz)
      omega

/-- A slice that holds a valid number. -/
def Nm (w : World) (v : Value) (N : Nat) : Prop := (∃ A n c, v = .slice A n c ∧ Arg w A n c (digs 4294967296 N)) ∧ N < 4294967296 ^ 16

theorem Nm.keep {w w' : World} {v : Value} {N : Nat} (h : Nm w v N) (hb : Below w.heap.size w w') : Nm w' v N := by
  obtain ⟨⟨A, n, c, rfl, a⟩, hN⟩ := h
  exact ⟨⟨A, n, c, rfl, a.keep hb⟩, hN⟩
theorem Own.nm {B : Nat} {w : World} {v : Value} {N : Nat} (h : Own B w v N) (hN : N < 4294967296 ^ 16) : Nm w v N := ⟨h.arg, hN⟩

theorem vd_lt {xs : List Nat} (h : Vd xs) (hl : Low 4294967296 xs) : nv xs < 4294967296 ^ 16 :=
  Nat.lt_of_lt_of_le (val_lt xs hl) (Nat.pow_le_pow_right (by omega) h.1)
theorem vd_digs {xs : List Nat} (h : Vd xs) (hl : Low 4294967296 xs) : digs 4294967296 (nv xs) = xs := ex_digs _ xs hl h.2 rfl
theorem Arg.nm {w : World} {A : Option Addr} {n c : Nat} {xs : List Nat} (h : Arg w A n c xs) (hv : Vd xs) : Nm w (.slice A n c) (nv xs) :=
  ⟨⟨A, n, c, rfl, by rw [vd_digs hv h.low]; exact h⟩, vd_lt hv h.low⟩

theorem big_ge {N : Nat} (h : 4294967296 ^ 16 ≤ N) : Big N := by
  unfold Big
  rcases Nat.lt_or_ge 16 (digs 4294967296 N).length with k | k
  · exact k
  · exfalso
    have h1 := val_lt (digs 4294967296 N) (digs_low _ _ (by omega))
    rw [digs_val _ _ (by omega)] at h1
    have h2 := Nat.pow_le_pow_right (n := 4294967296) (by omega) k
    omega
theorem fit_yes {N : Nat} (h : N < 4294967296 ^ 16) : fitC N = 0 ∧ fitN N = N := ⟨sm_fitC h, sm_fitN h⟩
theorem fit_no {N : Nat} (h : ¬ N < 4294967296 ^ 16) : fitC N = 4 ∧ fitN N = 0 := ⟨if_pos (big_ge (by omega)), if_pos (big_ge (by omega))⟩
theorem fitN_lt (N : Nat) : fitN N < 4294967296 ^ 16 := by
  by_cases h : N < 4294967296 ^ 16
  · rw [(fit_yes h).2]; exact h
  · rw [(fit_no h).2]; decide

/-- A number and an error are returned, the number in new memory. -/
def Ret1 (w : World) (code : Int) (N : Nat) (e : Ending) (w' : World) : Prop := ∃ v, e = .returned (.tuple #[v, .int .i64 code]) ∧ Nm w' v N ∧ Below w.heap.size w w'

theorem ret1_of {w : World} {N : Nat} {code : Int} {e : Ending} {w' : World} (h : Res w code N e w') (hN : N < 4294967296 ^ 16) : Ret1 w code N e w' := by
  obtain ⟨A, m, c, rfl, ho, hb⟩ := h
  exact ⟨_, rfl, ⟨⟨A, m, c, rfl, (own_num ho).1⟩, hN⟩, hb⟩

theorem add_v {w : World} {v1 v2 : Value} {X Y : Nat} (h : Nm w v1 X) (k : Nm w v2 Y) : Calls Try.prog 21 #[v1, v2] w (Ret1 w (fitC (X + Y)) (fitN (X + Y))) := by
  obtain ⟨⟨A1, n1, c1, rfl, a1⟩, hX⟩ := h
  obtain ⟨⟨A2, n2, c2, rfl, a2⟩, hY⟩ := k
  have H := add_any A1 n1 c1 _ A2 n2 c2 _ w a1 a2
  rw [okC_yes (sm_vd hX) (sm_vd hY), okN_yes (sm_vd hX) (sm_vd hY), nv_digs, nv_digs] at H
  exact H.mono fun _ _ h => ret1_of h (fitN_lt _)
theorem mul_v {w : World} {v1 v2 : Value} {X Y : Nat} (h : Nm w v1 X) (k : Nm w v2 Y) : Calls Try.prog 23 #[v1, v2] w (Ret1 w (fitC (X * Y)) (fitN (X * Y))) := by
  obtain ⟨⟨A1, n1, c1, rfl, a1⟩, hX⟩ := h
  obtain ⟨⟨A2, n2, c2, rfl, a2⟩, hY⟩ := k
  have H := mul_any A1 n1 c1 _ A2 n2 c2 _ w a1 a2
  rw [okC_yes (sm_vd hX) (sm_vd hY), okN_yes (sm_vd hX) (sm_vd hY), nv_digs, nv_digs] at H
  exact H.mono fun _ _ h => ret1_of h (fitN_lt _)
theorem sub_v {w : World} {v1 v2 : Value} {X Y : Nat} (h : Nm w v1 X) (k : Nm w v2 Y) : Calls Try.prog 19 #[v1, v2] w (Ret1 w (subC X Y) (X - Y)) := by
  obtain ⟨⟨A1, n1, c1, rfl, a1⟩, hX⟩ := h
  obtain ⟨⟨A2, n2, c2, rfl, a2⟩, hY⟩ := k
  have H := sub_any A1 n1 c1 _ A2 n2 c2 _ w a1 a2
  rw [okC_yes (sm_vd hX) (sm_vd hY), okN_yes (sm_vd hX) (sm_vd hY), nv_digs, nv_digs] at H
  exact H.mono fun _ _ h => ret1_of h (Nat.lt_of_le_of_lt (Nat.sub_le _ _) hX)
theorem gcd_v {w : World} {v1 v2 : Value} {X Y : Nat} (h : Nm w v1 X) (k : Nm w v2 Y) : Calls Try.prog 29 #[v1, v2] w (Ret1 w 0 (Nat.gcd X Y)) := by
  obtain ⟨⟨A1, n1, c1, rfl, a1⟩, hX⟩ := h
  obtain ⟨⟨A2, n2, c2, rfl, a2⟩, hY⟩ := k
  have H := gcd_any A1 n1 c1 _ A2 n2 c2 _ w a1 a2
  rw [okC_yes (sm_vd hX) (sm_vd hY), okN_yes (sm_vd hX) (sm_vd hY), nv_digs, nv_digs] at H
  refine H.mono fun _ _ h => ret1_of h ?_
  rcases Nat.eq_zero_or_pos X with rfl | hx
  · rw [Nat.gcd_zero_left]; exact hY
  · exact Nat.lt_of_le_of_lt (Nat.gcd_le_left _ hx) hX
theorem compare_v {w : World} {v1 v2 : Value} {X Y : Nat} (h : Nm w v1 X) (k : Nm w v2 Y) : Calls Try.prog 42 #[v1, v2] w fun e w' => e = .returned (.tuple #[.int .i64 (ordv X Y), .int .i64 0]) ∧ Below w.heap.size w w' := by
  obtain ⟨⟨A1, n1, c1, rfl, a1⟩, hX⟩ := h
  obtain ⟨⟨A2, n2, c2, rfl, a2⟩, hY⟩ := k
  have H := compare_any A1 n1 c1 _ A2 n2 c2 _ w a1 a2
  rw [okC_yes (sm_vd hX) (sm_vd hY), okI_yes (sm_vd hX) (sm_vd hY), nv_digs, nv_digs] at H
  exact H

/-- Two numbers and an error are returned. -/
def Ret2 (w : World) (code : Int) (N M : Nat) (e : Ending) (w' : World) : Prop := ∃ v1 v2, e = .returned (.tuple #[v1, v2, .int .i64 code]) ∧ Nm w' v1 N ∧ Nm w' v2 M ∧ Below w.heap.size w w'
theorem div_v {w : World} {v1 v2 : Value} {X Y : Nat} (h : Nm w v1 X) (k : Nm w v2 Y) (hZ : Y ≠ 0) : Calls Try.prog 28 #[v1, v2] w (Ret2 w 0 (X / Y) (X % Y)) := by
  obtain ⟨⟨A1, n1, c1, rfl, a1⟩, hX⟩ := h
  obtain ⟨⟨A2, n2, c2, rfl, a2⟩, hY⟩ := k
  have H := div_any A1 n1 c1 _ A2 n2 c2 _ w a1 a2
  rw [okC_yes (sm_vd hX) (sm_vd hY), okN_yes (sm_vd hX) (sm_vd hY), okN_yes (sm_vd hX) (sm_vd hY), nv_digs, nv_digs, show divC Y = 0 from if_neg hZ, if_neg hZ, if_neg hZ] at H
  refine H.mono fun e w' => ?_
  rintro ⟨A, m, c, A', m', c', rfl, o1, o2, hb⟩
  exact ⟨_, _, rfl, ⟨⟨A, m, c, rfl, (own_num o1).1⟩, Nat.lt_of_le_of_lt (Nat.div_le_self _ _) hX⟩, ⟨⟨A', m', c', rfl, (own_num o2).1⟩, Nat.lt_of_le_of_lt (Nat.mod_le _ _) hX⟩, hb⟩
theorem div_z {w : World} {v1 v2 : Value} {X Y : Nat} (h : Nm w v1 X) (k : Nm w v2 Y) (hZ : Y = 0) : Calls Try.prog 28 #[v1, v2] w (Ret2 w 10 0 0) := by
  obtain ⟨⟨A1, n1, c1, rfl, a1⟩, hX⟩ := h
  obtain ⟨⟨A2, n2, c2, rfl, a2⟩, hY⟩ := k
  have H := div_any A1 n1 c1 _ A2 n2 c2 _ w a1 a2
  rw [okC_yes (sm_vd hX) (sm_vd hY), okN_yes (sm_vd hX) (sm_vd hY), okN_yes (sm_vd hX) (sm_vd hY), nv_digs, nv_digs, show divC Y = 10 from if_pos hZ, if_pos hZ, if_pos hZ] at H
  refine H.mono fun e w' => ?_
  rintro ⟨A, m, c, A', m', c', rfl, o1, o2, hb⟩
  exact ⟨_, _, rfl, ⟨⟨A, m, c, rfl, (own_num o1).1⟩, by decide⟩, ⟨⟨A', m', c', rfl, (own_num o2).1⟩, by decide⟩, hb⟩

theorem sB_nm {X Y : Nat} : sB (digs 4294967296 X) (digs 4294967296 Y) = decide (X = Y) := by
  by_cases h : X = Y
  · subst h; rw [sB_yes rfl]; simp
  · rw [sB_no]
    · simp [h]
    · intro e
      have h1 := nv_digs X
      rw [e, nv_digs] at h1
      exact h h1.symm
theorem same_v {w : World} {v1 v2 : Value} {X Y : Nat} (h : Nm w v1 X) (k : Nm w v2 Y) : Calls Try.prog 46 #[v1, v2] w fun e w' => e = .returned (.bool (decide (X = Y))) ∧ Below w.heap.size w w' := by
  obtain ⟨⟨A1, n1, c1, rfl, a1⟩, hX⟩ := h
  obtain ⟨⟨A2, n2, c2, rfl, a2⟩, hY⟩ := k
  have H := same_any A1 A2 n1 c1 n2 c2 _ _ w a1.rd a2.rd
  rw [sB_nm] at H
  exact H.mono fun _ _ ⟨h1, h2⟩ => ⟨h1, h2.below⟩
theorem same_yes {w : World} {v1 v2 : Value} {X Y : Nat} (h : Nm w v1 X) (k : Nm w v2 Y) (e : X = Y) : Calls Try.prog 46 #[v1, v2] w fun e w' => e = .returned (.bool true) ∧ Below w.heap.size w w' := by
  have H := same_v h k
  rw [decide_eq_true e] at H
  exact H
theorem same_not {w : World} {v1 v2 : Value} {X Y : Nat} (h : Nm w v1 X) (k : Nm w v2 Y) (e : ¬ X = Y) : Calls Try.prog 46 #[v1, v2] w fun e w' => e = .returned (.bool false) ∧ Below w.heap.size w w' := by
  have H := same_v h k
  rw [decide_eq_false e] at H
  exact H

/-- Valid, of what came in. -/
theorem valid_v {w : World} {A : Option Addr} {n c : Nat} {xs : List Nat} (h : Arg w A n c xs) (b : Bool) (hb : vB xs = b) : Calls Try.prog 66 #[.slice A n c] w fun e w' => e = .returned (.bool b) ∧ w = w' := by
  subst hb; exact validRef_any A n c xs w h
theorem vB_yes {xs : List Nat} (h : vB xs = true) : Vd xs := of_decide_eq_true h

theorem len_zero {w : World} {A : Option Addr} {n c : Nat} {xs : List Nat} (h : Arg w A n c xs) (hv : Vd xs) : n = 0 ↔ nv xs = 0 := by
  constructor
  · intro e
    have := h.rd.len
    rw [e] at this
    rw [List.eq_nil_of_length_eq_zero this]; rfl
  · intro e
    rw [← h.rd.len, vd_zero hv e]; rfl
end Go.Proofs.Ythplhlcdlnedfaa

/-
  Texts, part G: a number's text reads as the number, and a text that reads as a number is that number's text.
-/
namespace Go.Proofs.Ythplhlcdlnedfaa
open Go.RowKit MN

/-- The digits of a text, the lowest first. -/
def rdg (l : List Nat) : List Nat := (l.map (· - 48)).reverse

theorem rdg_snoc (xs : List Nat) (d : Nat) : rdg (xs ++ [d]) = (d - 48) :: rdg xs := by simp [rdg]
theorem dvk_val (l : List Nat) : ∀ k, k ≤ l.length → dvk l k = val 10 (rdg (l.take k))
  | 0, _ => by simp [dvk, rdg, val]
  | k + 1, hk => by
    rw [dvk, dvk_val l k (by omega), List.take_succ_eq_append_getElem (by omega), rdg_snoc, val, dg_get l k (by omega)]
    omega
theorem dvk_all (l : List Nat) : dvk l l.length = val 10 (rdg l) := by
  rw [dvk_val l _ (Nat.le_refl _), List.take_length]

theorem map48 (xs : List Nat) : (xs.map (48 + ·)).map (· - 48) = xs := by
  rw [List.map_map]
  conv => rhs; rw [← List.map_id xs]
  congr 1
  funext x
  simp
theorem rdg_txt (N : Nat) (h : N ≠ 0) : rdg (txtL N) = digs 10 N := by
  unfold rdg txtL
  rw [if_neg h, map48, List.reverse_reverse]

theorem dvk_txt (N : Nat) : dvk (txtL N) (txtL N).length = N := by
  rw [dvk_all]
  by_cases h : N = 0
  · subst h; rfl
  · rw [rdg_txt N h, digs_val _ _ (by omega)]

theorem txt_low (N : Nat) (d : Nat) (h : d ∈ txtL N) : 48 ≤ d ∧ d ≤ 57 := by
  unfold txtL at h
  split at h
  · simp at h; omega
  · simp only [List.mem_map, List.mem_reverse] at h
    obtain ⟨x, hx, rfl⟩ := h
    have := digs_low 10 N (by omega) x hx
    omega

theorem isDec_txt (N : Nat) : IsDec (txtL N) := by
  refine ⟨fun j hj => ?_, ?_⟩
  · rw [dg_get _ j hj]; exact txt_low N _ (List.getElem_mem hj)
  · by_cases h : N = 0
    · exact .inl (by unfold txtL; rw [if_pos h])
    · refine .inr ?_
      have hne : digs 10 N ≠ [] := digs_pos (by omega) (Nat.pos_of_ne_zero h)
      have hlen : (txtL N).length = (digs 10 N).length := by unfold txtL; rw [if_neg h]; simp
      have hp : 0 < (digs 10 N).length := List.length_pos_iff.2 hne
      refine ⟨fun e => by rw [e] at hlen; simp at hlen; omega, ?_⟩
      rw [dg_txt N _ 0 h rfl hp, Nat.sub_zero]
      rcases digs_top 10 N (by omega) with e | e
      · exact absurd e hne
      · omega

theorem txt_of_dec (l : List Nat) (h : IsDec l) : txtL (dvk l l.length) = l := by
  rcases h.2 with rfl | ⟨hne, h0⟩
  · decide
  · have hdig : ∀ d ∈ l, 48 ≤ d ∧ d ≤ 57 := fun d hd => by
      obtain ⟨j, hj, rfl⟩ := List.getElem_of_mem hd
      rw [← dg_get l j hj]; exact h.1 j hj
    have hlow : Low 10 (rdg l) := by
      intro d hd
      simp only [rdg, List.mem_reverse, List.mem_map] at hd
      obtain ⟨x, hx, rfl⟩ := hd
      have := hdig x hx
      omega
    have hlen : (rdg l).length = l.length := by simp [rdg]
    have hp : 0 < l.length := List.length_pos_iff.2 hne
    have hrne : rdg l ≠ [] := fun e => by rw [e] at hlen; simp at hlen; omega
    have htop : Top (rdg l) := by
      refine .inr ?_
      rw [hlen, dg_get _ _ (by omega)]
      have e1 : (rdg l)[l.length - 1]'(by omega) = l[0] - 48 := by
        simp [rdg, List.getElem_reverse]
      rw [e1]
      have h1 := hdig _ (List.getElem_mem hp)
      rw [dg_get l 0 hp] at h0
      omega
    have hv := val_pos_of_top (B := 10) (by omega) (rdg l) htop hrne
    rw [dvk_all]
    unfold txtL
    rw [if_neg (by omega), val_inj (B := 10) (by omega) _ (rdg l) (digs_low _ _ (by omega)) hlow (digs_top _ _ (by omega)) htop (digs_val _ _ (by omega)), rdg, List.reverse_reverse, List.map_map]
    conv => rhs; rw [← List.map_id l]
    refine List.map_congr_left fun d hd => ?_
    have := hdig d hd
    simp; omega

theorem bs_txt (N : Nat) : bs (txtS N) = txtL N := by
  unfold bs txtS
  rw [strOfNums_data, List.map_map, List.map_map]
  conv => rhs; rw [← List.map_id (txtL N)]
  refine List.map_congr_left fun d hd => ?_
  have := txt_low N d hd
  simp; omega

theorem str_bs (s : ByteArray) : strOfNums ((bs s).map fun (d : Nat) => (d : Int)) = s := by
  have : (strOfNums ((bs s).map fun (d : Nat) => (d : Int))).data = s.data := by
    apply Array.toList_inj.1
    rw [strOfNums_data, List.map_map]
    unfold bs
    rw [List.map_map]
    conv => rhs; rw [← List.map_id s.data.toList]
    refine List.map_congr_left fun d hd => ?_
    simp
  cases s; cases hq : strOfNums _ with | mk d => rw [hq] at this; simp_all

theorem txtS_of_dec (s : ByteArray) (h : IsDec (bs s)) : txtS (dvk (bs s) s.size) = s := by
  have e : txtL (dvk (bs s) s.size) = bs s := by rw [← bs_len s]; exact txt_of_dec _ h
  unfold txtS
  rw [e, str_bs]

theorem txt_size (N : Nat) (h : N < 4294967296 ^ 16) : (txtS N).size ≤ 160 := by
  rw [txtS, strOfNums_size, List.length_map]
  unfold txtL
  split
  · simp
  · simp only [List.length_map, List.length_reverse]
    exact digs_len (by omega) _ _ (Nat.lt_of_lt_of_le h pow_bound)
theorem parse_txt (N : Nat) (h : N < 4294967296 ^ 16) (w : World) : Calls Try.prog 30 #[.string (txtS N)] w (Val1 w N) := by
  refine parse_n (txtS N) w N (Nat.le_trans (txt_size N h) (by simp [maxLen])) (by rw [bs_txt]; exact isDec_txt N) ?_ h
  rw [← bs_len, bs_txt]; exact dvk_txt N
end Go.Proofs.Ythplhlcdlnedfaa

/-
  Fractions, the rest: CheckFraction; the function literals of MulFractions, CompareFractions, AddFractions; operate; the three themselves; rational arithmetic; the calls at valid fractions.
-/
namespace Go.Proofs.Ythplhlcdlnedfaa
open Go.RowKit MN

/-- A valid fraction. -/
def FrOk (xs ys : List Nat) : Prop := (Vd xs ∧ Vd ys) ∧ Nat.gcd (nv xs) (nv ys) = 1 ∧ nv ys ≠ 0
instance (xs ys : List Nat) : Decidable (FrOk xs ys) := by unfold FrOk; infer_instance
def frC (xs ys : List Nat) : Int := if FrOk xs ys then 0 else 8

set_option maxRecDepth 100000 in
set_option maxHeartbeats 2000000 in
theorem checkFraction_any (A1 : Option Addr) (n1 c1 : Nat) (xs : List Nat) (A2 : Option Addr) (n2 c2 : Nat) (ys : List Nat) (w : World) (h : Arg w A1 n1 c1 xs) (k : Arg w A2 n2 c2 ys) :
    Calls Try.prog 57 #[.agg #[.slice A1 n1 c1, .slice A2 n2 c2]] w fun e w' => e = .returned (.int .i64 (frC xs ys)) ∧ Below w.heap.size w w' := by
  obtain ⟨w0, hw0⟩ : ∃ w0, w0 = w.alloc (.cells #[.slice A1 n1 c1, .slice A2 n2 c2] 38) := ⟨_, rfl⟩
  have hb0 := below_alloc w (.cells #[.slice A1 n1 c1, .slice A2 n2 c2] 38)
  have hs0 : w0.heap.size = w.heap.size + 1 := by rw [hw0]; simp
  have hv0 := var2_new w (.slice A1 n1 c1) (.slice A2 n2 c2) 38
  rw [← hw0] at hb0 hv0
  have HW := Lib.hid hw0
  have h0 := h.keep hb0
  have k0 := k.keep hb0
  have H' := check2_call h0 k0
  rw [hs0] at H'
  have H := Lib.hid H'
  clear H'
  obtain ⟨w1, hw1⟩ : ∃ w1, w1 = w0.alloc (.cells #[.slice A1 n1 c1, .slice A2 n2 c2] 23) := ⟨_, rfl⟩
  have hb1 := below_alloc w0 (.cells #[.slice A1 n1 c1, .slice A2 n2 c2] 23)
  rw [← hw1] at hb1
  rw [← hw1] at H
  have HW1 := Lib.hid hw1
  have hs1 := hb1.size
  have hv1 := hv0.keep hb1 (by omega)
  have hbw := hb0.trans (hb1.mono (by omega))
  obtain ⟨d0, d1, _, _⟩ := hv0
  clear hw0 hw1
  by_cases hv : Vd xs ∧ Vd ys
  · have hck : (ck2 xs ys != 0) = false := by rw [ck2_yes hv.1 hv.2]; rfl
    have hn1 := h.len hv.1
    have hn2 := k.len hv.2
    have hlz := len_zero k hv.2
    obtain ⟨G, hG⟩ : ∃ G, G = Nat.gcd (nv xs) (nv ys) := ⟨_, rfl⟩
    have C := common_any A1 A2 n1 c1 n2 c2 xs ys w1 (h0.keep hb1) (k0.keep hb1) (by omega) (by omega)
    rw [show Nat.gcd (val 4294967296 xs) (val 4294967296 ys) = G from hG.symm] at C
    have HC := Lib.hid C
    have key : (((ordv G 1 != 0) = true) ∧ frC xs ys = 8) ∨ (((ordv G 1 != 0) = false) ∧ n2 = 0 ∧ frC xs ys = 8) ∨ (((ordv G 1 != 0) = false) ∧ ((n2 : Int) == 0) = false ∧ frC xs ys = 0) := by
      rcases Nat.lt_trichotomy G 1 with g | g | g
      · exact .inl ⟨by rw [ordv_lt g]; rfl, if_neg (fun f => by have := f.2.1; omega)⟩
      · by_cases hz : n2 = 0
        · exact .inr (.inl ⟨by rw [ordv_eq g]; rfl, hz, if_neg (fun f => f.2.2 (hlz.1 hz))⟩)
        · exact .inr (.inr ⟨by rw [ordv_eq g]; rfl, by rw [beq_eq_false_iff_ne]; omega, if_pos ⟨hv, by rw [← hG]; exact g, fun e => hz (hlz.2 e)⟩⟩)
      · exact .inl ⟨by rw [ordv_gt g]; rfl, if_neg (fun f => by have := f.2.1; omega)⟩
    clear h k h0 k0 hv hlz hG C
    rcases key with ⟨g1, g2⟩ | ⟨g1, rfl, g2⟩ | ⟨g1, g3, g2⟩
    all_goals
      have RC := Lib.hid g2
      clear g2
      go_enter Try.func57, Try.ntmps57
      go_wp2_with fail
      rw [← HW.out, ← HW1.out]
      refine H.out.mono ?_
      rintro e w' ⟨rfl, rfl⟩
      obtain ⟨e0, e1, _, _⟩ := hv1
      go_wp2_with fail
      refine HC.out.mono ?_
      rintro e w2 ⟨A3, m3, c3, rfl, o3, hb2⟩
      go_wp2_with fail
      refine (of_any 1 w2 (by omega) (by omega)).mono ?_
      rintro e w3 ⟨A4, m4, c4, rfl, o4, hb3⟩
      have a3 := ((own_num o3).1).keep hb3
      have a4 := (own_num o4).1
      have hbb := hb1.trans (hb2.mono hs1)
      have hb3' := hbb.trans (hb3.mono hbb.size)
      have q0 := (hb3'.cell (p := ⟨w.heap.size, 0, none⟩) (by show w.heap.size < _; omega)).trans d0
      have q1 := (hb3'.cell (p := ⟨w.heap.size, 1, none⟩) (by show w.heap.size < _; omega)).trans d1
      have hO := order_any A3 A4 m3 c3 m4 c4 _ _ w3 a3.rd a4.rd a3.low a4.low (digs_top _ _ (by omega)) (digs_top _ _ (by omega))
      rw [digs_val _ _ (by omega), digs_val _ _ (by omega)] at hO
      have HO := Lib.hid hO
      have hfin := hb0.trans (hb3'.mono (by omega))
      clear hO a3 a4 o3 o4 e0 e1
      go_wp2_with fail
      refine HO.out.mono ?_
      rintro e w4 ⟨rfl, hd⟩
      have q1' := (hd.cell ⟨w.heap.size, 1, none⟩).trans q1
      have hfin2 := hfin.trans (hd.below.mono hfin.size)
      go_wp2
      go_ret
      exact ⟨by rw [RC.out]; rfl, hfin2⟩
  · have hck : (ck2 xs ys != 0) = true := by rw [ck2_no hv]; rfl
    have h3 := Lib.hid (ck2_no hv)
    have RC : Hid (frC xs ys = 8) := Lib.hid (if_neg (fun f => hv f.1))
    clear h k h0 k0 hv
    go_enter Try.func57, Try.ntmps57
    go_wp2_with fail
    rw [← HW.out, ← HW1.out]
    refine H.out.mono ?_
    rintro e w' ⟨rfl, rfl⟩
    go_wp2
    go_ret
    exact ⟨by rw [RC.out, h3.out]; rfl, hbw⟩
end Go.Proofs.Ythplhlcdlnedfaa

namespace Go.Proofs.Ythplhlcdlnedfaa
open Go.RowKit MN

theorem product_v {w : World} {v1 v2 : Value} {X Y : Nat} (h : Nm w v1 X) (k : Nm w v2 Y) : Calls Try.prog 73 #[v1, v2] w fun e w' => ∃ v, e = .returned v ∧ Own w.heap.size w' v (X * Y) ∧ Below w.heap.size w w' := by
  obtain ⟨⟨A1, n1, c1, rfl, a1⟩, hX⟩ := h
  obtain ⟨⟨A2, n2, c2, rfl, a2⟩, hY⟩ := k
  have H := product_any A1 A2 n1 c1 n2 c2 _ _ w a1.rd a2.rd a1.low a2.low (by rw [← a1.rd.len]; have := digs_len (B := 4294967296) (by omega) _ _ hX; omega) (by rw [← a2.rd.len]; have := digs_len (B := 4294967296) (by omega) _ _ hY; omega)
  rw [digs_val _ _ (by omega), digs_val _ _ (by omega)] at H
  refine H.mono fun e w' => ?_
  rintro ⟨A, m, c, rfl, ho, hb⟩
  exact ⟨_, rfl, ⟨A, m, c, rfl, ho⟩, hb⟩

/-- reduce, of two numbers in new memory that are no more than a product of valid numbers. -/
theorem reduce_v {B : Nat} {w : World} {v1 v2 : Value} {X Y : Nat} (h : Own B w v1 X) (k : Own B w v2 Y) (hX : X < 4294967296 ^ 900) (hY : Y < 4294967296 ^ 900) (h0 : Y ≠ 0) :
    Calls Try.prog 80 #[v1, v2] w (FrRes w (redC X Y) (redN X Y) (redD X Y)) := by
  obtain ⟨A1, n1, c1, rfl, a1⟩ := h.arg
  obtain ⟨A2, n2, c2, rfl, a2⟩ := k.arg
  have H := reduce_any A1 n1 c1 _ A2 n2 c2 _ w a1 a2 (by rw [← a1.rd.len]; exact digs_len (by omega) _ _ hX) (by rw [← a2.rd.len]; exact digs_len (by omega) _ _ hY) (by rw [nv_digs]; exact h0)
  rw [nv_digs, nv_digs] at H
  exact H
end Go.Proofs.Ythplhlcdlnedfaa

namespace Go.Proofs.Ythplhlcdlnedfaa
open Go.RowKit MN

set_option linter.unusedSimpArgs false in
set_option maxRecDepth 100000 in
set_option maxHeartbeats 1000000 in
theorem mulOp_any (w : World) (base R : Nat) (A1 A2 A3 A4 : Option Addr) (n1 n2 n3 n4 c1 c2 c3 c4 N1 D1 N2 D2 : Nat) (h1 : Nm w (.slice A1 n1 c1) N1) (h2 : Nm w (.slice A2 n2 c2) D1) (h3 : Nm w (.slice A3 n3 c3) N2) (h4 : Nm w (.slice A4 n4 c4) D2)
    (hD1 : D1 ≠ 0) (hD2 : D2 ≠ 0) (u v : Value) (hR : Var2 w R u v) (hbase : base ≤ R) (hlt : R < w.heap.size) :
    Calls Try.prog 83 #[.agg #[.slice A1 n1 c1, .slice A2 n2 c2], .agg #[.slice A3 n3 c3, .slice A4 n4 c4], .pointer (some ⟨R, 0, none⟩)] w fun e w' =>
      ∃ v1 v2, e = .returned (.int .i64 (redC (N1 * N2) (D1 * D2))) ∧ Own w.heap.size w' v1 (redN (N1 * N2) (D1 * D2)) ∧ Own w.heap.size w' v2 (redD (N1 * N2) (D1 * D2)) ∧ Var2 w' R v1 v2 ∧ Below base w w' := by
  obtain ⟨w1, hw1⟩ : ∃ w1, w1 = (w.alloc (.cells #[.slice A1 n1 c1, .slice A2 n2 c2] 38)).alloc (.cells #[.slice A3 n3 c3, .slice A4 n4 c4] 38) := ⟨_, rfl⟩
  have hb1 : Below w.heap.size w w1 := by rw [hw1]; exact ((Below.refl _ _).alloc (Nat.le_refl _) _).alloc (by simp) _
  have hs1 : w1.heap.size = w.heap.size + 2 := by rw [hw1]; simp
  have hv2 : Var2 w1 (w.heap.size + 1) (.slice A3 n3 c3) (.slice A4 n4 c4) := by
    rw [hw1]
    have := var2_new (w.alloc (.cells #[.slice A1 n1 c1, .slice A2 n2 c2] 38)) (.slice A3 n3 c3) (.slice A4 n4 c4) 38
    simpa using this
  have hv1 : Var2 w1 w.heap.size (.slice A1 n1 c1) (.slice A2 n2 c2) := by
    rw [hw1]
    exact (var2_new w (.slice A1 n1 c1) (.slice A2 n2 c2) 38).keep (below_alloc _ _) (by simp)
  have hR1 := hR.keep hb1 hlt
  have HW := Lib.hid hw1
  clear hw1
  have HK : Hid (∀ wx, Below w1.heap.size w1 wx → wx.cell? ⟨w.heap.size, 0, none⟩ = some (.slice A1 n1 c1) ∧ wx.cell? ⟨w.heap.size, 1, none⟩ = some (.slice A2 n2 c2) ∧ wx.cell? ⟨w.heap.size + 1, 0, none⟩ = some (.slice A3 n3 c3) ∧ wx.cell? ⟨w.heap.size + 1, 1, none⟩ = some (.slice A4 n4 c4)) :=
    Lib.hid (fun wx hx => ⟨(hv1.keep hx (by omega)).c0, (hv1.keep hx (by omega)).c1, (hv2.keep hx (by omega)).c0, (hv2.keep hx (by omega)).c1⟩)
  have HS : Hid (∀ wx x y, Below w1.heap.size w1 wx → ((wx.setCell ⟨R, 0, none⟩ x).setCell ⟨R, 1, none⟩ y).cell? ⟨w.heap.size, 0, none⟩ = some (.slice A1 n1 c1) ∧ ((wx.setCell ⟨R, 0, none⟩ x).setCell ⟨R, 1, none⟩ y).cell? ⟨w.heap.size, 1, none⟩ = some (.slice A2 n2 c2) ∧ ((wx.setCell ⟨R, 0, none⟩ x).setCell ⟨R, 1, none⟩ y).cell? ⟨w.heap.size + 1, 0, none⟩ = some (.slice A3 n3 c3) ∧ ((wx.setCell ⟨R, 0, none⟩ x).setCell ⟨R, 1, none⟩ y).cell? ⟨w.heap.size + 1, 1, none⟩ = some (.slice A4 n4 c4)) :=
    Lib.hid (fun wx x y hx => by
      have hn : R ≠ w.heap.size := by omega
      have hn1 : R ≠ w.heap.size + 1 := by omega
      rw [World.cell?_setCell_other (h := by simp [hn]), World.cell?_setCell_other (h := by simp [hn]), World.cell?_setCell_other (h := by simp [hn]), World.cell?_setCell_other (h := by simp [hn]),
        World.cell?_setCell_other (h := by simp [hn1]), World.cell?_setCell_other (h := by simp [hn1]), World.cell?_setCell_other (h := by simp [hn1]), World.cell?_setCell_other (h := by simp [hn1])]
      exact HK.out wx hx)
  have HR1 : Hid (∀ wx, Below w1.heap.size w1 wx → Var2 wx R u v) := Lib.hid (fun wx hx => hR1.keep hx (by omega))
  have HP1 : Hid (∀ wx, Below w1.heap.size w1 wx → Calls Try.prog 73 #[.slice A1 n1 c1, .slice A3 n3 c3] wx fun e w' => ∃ v, e = .returned v ∧ Own w1.heap.size w' v (N1 * N2) ∧ Below wx.heap.size wx w' ∧ Below w1.heap.size w1 w') :=
    Lib.hid (fun wx hx => (product_v ((h1.keep hb1).keep hx) ((h3.keep hb1).keep hx)).mono fun e w' ⟨v, he, ho, hb⟩ => ⟨v, he, ho.low hx.size, hb, hx.trans (hb.mono hx.size)⟩)
  have HP2 : Hid (∀ wx, Below w1.heap.size w1 wx → Calls Try.prog 73 #[.slice A2 n2 c2, .slice A4 n4 c4] wx fun e w' => ∃ v, e = .returned v ∧ Own w1.heap.size w' v (D1 * D2) ∧ Below wx.heap.size wx w' ∧ Below w1.heap.size w1 w') :=
    Lib.hid (fun wx hx => (product_v ((h2.keep hb1).keep hx) ((h4.keep hb1).keep hx)).mono fun e w' ⟨v, he, ho, hb⟩ => ⟨v, he, ho.low hx.size, hb, hx.trans (hb.mono hx.size)⟩)
  have lt900 : ∀ a b : Nat, a < 4294967296 ^ 16 → b < 4294967296 ^ 16 → a * b < 4294967296 ^ 900 := fun a b ha hb => by
    obtain ⟨K, hK⟩ : ∃ K, K = 900 := ⟨_, rfl⟩
    rw [← hK]
    have e1 : a * b < 4294967296 ^ 16 * 4294967296 ^ 16 := Nat.mul_lt_mul'' ha hb
    rw [← Nat.pow_add] at e1
    exact Nat.lt_of_lt_of_le e1 (Nat.pow_le_pow_right (by omega) (by omega))
  have LA := lt900 N1 N2 h1.2 h3.2
  have LB := lt900 D1 D2 h2.2 h4.2
  have HD : D1 * D2 ≠ 0 := Nat.mul_ne_zero hD1 hD2
  have HRD : Hid (∀ wx v1 v2, Below w1.heap.size w1 wx → Own w1.heap.size wx v1 (N1 * N2) → Own w1.heap.size wx v2 (D1 * D2) → Calls Try.prog 80 #[v1, v2] wx fun e w' =>
      ∃ B1 m1 k1 B2 m2 k2, e = .returned (.tuple #[.agg #[.slice B1 m1 k1, .slice B2 m2 k2], .int .i64 (redC (N1 * N2) (D1 * D2))]) ∧ Own w1.heap.size w' (.slice B1 m1 k1) (redN (N1 * N2) (D1 * D2)) ∧ Own w1.heap.size w' (.slice B2 m2 k2) (redD (N1 * N2) (D1 * D2)) ∧ Below w1.heap.size w1 w') :=
    Lib.hid (fun wx v1 v2 hx p1 p2 => (reduce_v p1 p2 LA LB HD).mono fun e w' ⟨u1, u2, he, hP⟩ => by
      obtain ⟨B1, m1, k1, rfl, q1⟩ := hP.one
      obtain ⟨B2, m2, k2, rfl, q2⟩ := hP.two
      exact ⟨B1, m1, k1, B2, m2, k2, he, (⟨B1, m1, k1, rfl, own_low q1 hx.size⟩ : Own _ _ _ _), (⟨B2, m2, k2, rfl, own_low q2 hx.size⟩ : Own _ _ _ _), hx.trans (hP.below.mono hx.size)⟩)
  have hx0 : Below w1.heap.size w1 w1.drew := (Below.refl _ _).drew
  clear hv1 hv2 hR hR1 h1 h2 h3 h4 hD1 hD2 lt900 LA LB HD
  go_enter Try.func83, Try.ntmps83
  go_wp2_with fail
  rw [← HW.out]
  clear HW
  go_region_held3 (fun w' => w'.cell? ⟨w.heap.size, 0, none⟩ = some (.slice A1 n1 c1) ∧ w'.cell? ⟨w.heap.size, 1, none⟩ = some (.slice A2 n2 c2) ∧ w'.cell? ⟨w.heap.size + 1, 0, none⟩ = some (.slice A3 n3 c3) ∧ w'.cell? ⟨w.heap.size + 1, 1, none⟩ = some (.slice A4 n4 c4))
    (first
      | exact HS.out _ _ _ hxC
      | exact HK.out _ hxC
      | exact HK.out _ hxA
      | exact HK.out _ hxB
      | exact HK.out _ hx0)
    (first
      | (go_at_call 73; with_reducible refine (HP1.out _ hxB).mono ?_; rintro e wA ⟨v1, rfl, o1, hA, hxA⟩; replace o2 := Own.keep o2 hA)
      | (go_at_call 73; with_reducible refine (HP2.out _ hxA).mono ?_; rintro e wB ⟨v2, rfl, o2, hB, hxB⟩; replace o1 := Own.keep o1 hB)
      | (go_at_call 73; with_reducible refine (HP1.out _ hx0).mono ?_; rintro e wA ⟨v1, rfl, o1, hA, hxA⟩)
      | (go_at_call 73; with_reducible refine (HP2.out _ hx0).mono ?_; rintro e wB ⟨v2, rfl, o2, hB, hxB⟩)
      | (go_at_call 80; with_reducible refine (HRD.out _ _ _ hxB o1 o2).mono ?_; rintro e wC ⟨B1, m1, k1, B2, m2, k2, rfl, q1, q2, hxC⟩; obtain ⟨r0, r1, f0, f1⟩ := HR1.out _ hxC)
      | (go_at_call 80; with_reducible refine (HRD.out _ _ _ hxA o1 o2).mono ?_; rintro e wC ⟨B1, m1, k1, B2, m2, k2, rfl, q1, q2, hxC⟩; obtain ⟨r0, r1, f0, f1⟩ := HR1.out _ hxC))
  all_goals
    have hRl : R < w1.heap.size := by omega
    have hfin : Below base w wC := (hb1.mono (by omega)).trans (hxC.mono (by omega))
    go_wp2
    go_ret
    exact ⟨_, _, rfl, (Own.set (Own.set q1 (a := ⟨R, 0, none⟩) hRl _) (a := ⟨R, 1, none⟩) hRl _).low (by omega), (Own.set (Own.set q2 (a := ⟨R, 0, none⟩) hRl _) (a := ⟨R, 1, none⟩) hRl _).low (by omega), (HR1.out _ hxC).stored _ _, (hfin.setCell (p := ⟨R, 0, none⟩) hbase _).setCell (p := ⟨R, 1, none⟩) hbase _⟩
end Go.Proofs.Ythplhlcdlnedfaa

namespace Go.Proofs.Ythplhlcdlnedfaa
open Go.RowKit MN

set_option linter.unusedSimpArgs false in
set_option maxRecDepth 100000 in
set_option maxHeartbeats 1000000 in
theorem cmpOp_any (w : World) (base R : Nat) (A1 A2 A3 A4 : Option Addr) (n1 n2 n3 n4 c1 c2 c3 c4 N1 D1 N2 D2 : Nat) (h1 : Nm w (.slice A1 n1 c1) N1) (h2 : Nm w (.slice A2 n2 c2) D1) (h3 : Nm w (.slice A3 n3 c3) N2) (h4 : Nm w (.slice A4 n4 c4) D2)
    (u : Value) (hR0 : w.cell? ⟨R, 0, none⟩ = some u) (hRf : w.frozen? ⟨R, 0, none⟩ = false) (hbase : base ≤ R) (hlt : R < w.heap.size) :
    Calls Try.prog 84 #[.agg #[.slice A1 n1 c1, .slice A2 n2 c2], .agg #[.slice A3 n3 c3, .slice A4 n4 c4], .pointer (some ⟨R, 0, none⟩)] w fun e w' =>
      e = .returned (.int .i64 0) ∧ w'.cell? ⟨R, 0, none⟩ = some (.int .i64 (ordv (N1 * D2) (N2 * D1))) ∧ Below base w w' := by
  obtain ⟨w1, hw1⟩ : ∃ w1, w1 = (w.alloc (.cells #[.slice A1 n1 c1, .slice A2 n2 c2] 38)).alloc (.cells #[.slice A3 n3 c3, .slice A4 n4 c4] 38) := ⟨_, rfl⟩
  have hb1 : Below w.heap.size w w1 := by rw [hw1]; exact ((Below.refl _ _).alloc (Nat.le_refl _) _).alloc (by simp) _
  have hs1 : w1.heap.size = w.heap.size + 2 := by rw [hw1]; simp
  have hv2 : Var2 w1 (w.heap.size + 1) (.slice A3 n3 c3) (.slice A4 n4 c4) := by
    rw [hw1]
    have := var2_new (w.alloc (.cells #[.slice A1 n1 c1, .slice A2 n2 c2] 38)) (.slice A3 n3 c3) (.slice A4 n4 c4) 38
    simpa using this
  have hv1 : Var2 w1 w.heap.size (.slice A1 n1 c1) (.slice A2 n2 c2) := by
    rw [hw1]
    exact (var2_new w (.slice A1 n1 c1) (.slice A2 n2 c2) 38).keep (below_alloc _ _) (by simp)
  have hR1 : w1.cell? ⟨R, 0, none⟩ = some u := (hb1.cell (p := ⟨R, 0, none⟩) hlt).trans hR0
  have hR2 : w1.frozen? ⟨R, 0, none⟩ = false := (hb1.frozen (p := ⟨R, 0, none⟩) hlt).trans hRf
  have HW := Lib.hid hw1
  clear hw1
  have HK : Hid (∀ wx, Below w1.heap.size w1 wx → wx.cell? ⟨w.heap.size, 0, none⟩ = some (.slice A1 n1 c1) ∧ wx.cell? ⟨w.heap.size, 1, none⟩ = some (.slice A2 n2 c2) ∧ wx.cell? ⟨w.heap.size + 1, 0, none⟩ = some (.slice A3 n3 c3) ∧ wx.cell? ⟨w.heap.size + 1, 1, none⟩ = some (.slice A4 n4 c4)) :=
    Lib.hid (fun wx hx => ⟨(hv1.keep hx (by omega)).c0, (hv1.keep hx (by omega)).c1, (hv2.keep hx (by omega)).c0, (hv2.keep hx (by omega)).c1⟩)
  have HS : Hid (∀ wx x, Below w1.heap.size w1 wx → (wx.setCell ⟨R, 0, none⟩ x).cell? ⟨w.heap.size, 0, none⟩ = some (.slice A1 n1 c1) ∧ (wx.setCell ⟨R, 0, none⟩ x).cell? ⟨w.heap.size, 1, none⟩ = some (.slice A2 n2 c2) ∧ (wx.setCell ⟨R, 0, none⟩ x).cell? ⟨w.heap.size + 1, 0, none⟩ = some (.slice A3 n3 c3) ∧ (wx.setCell ⟨R, 0, none⟩ x).cell? ⟨w.heap.size + 1, 1, none⟩ = some (.slice A4 n4 c4)) :=
    Lib.hid (fun wx x hx => by
      have hn : R ≠ w.heap.size := by omega
      have hn1 : R ≠ w.heap.size + 1 := by omega
      rw [World.cell?_setCell_other (h := by simp [hn]), World.cell?_setCell_other (h := by simp [hn]), World.cell?_setCell_other (h := by simp [hn1]), World.cell?_setCell_other (h := by simp [hn1])]
      exact HK.out wx hx)
  have HR1 : Hid (∀ wx, Below w1.heap.size w1 wx → wx.cell? ⟨R, 0, none⟩ = some u ∧ wx.frozen? ⟨R, 0, none⟩ = false) := Lib.hid (fun wx hx => ⟨(hx.cell (p := ⟨R, 0, none⟩) (by show R < _; omega)).trans hR1, (hx.frozen (p := ⟨R, 0, none⟩) (by show R < _; omega)).trans hR2⟩)
  have HP1 : Hid (∀ wx, Below w1.heap.size w1 wx → Calls Try.prog 73 #[.slice A1 n1 c1, .slice A4 n4 c4] wx fun e w' => ∃ v, e = .returned v ∧ Own w1.heap.size w' v (N1 * D2) ∧ Below wx.heap.size wx w' ∧ Below w1.heap.size w1 w') :=
    Lib.hid (fun wx hx => (product_v ((h1.keep hb1).keep hx) ((h4.keep hb1).keep hx)).mono fun e w' ⟨v, he, ho, hb⟩ => ⟨v, he, ho.low hx.size, hb, hx.trans (hb.mono hx.size)⟩)
  have HP2 : Hid (∀ wx, Below w1.heap.size w1 wx → Calls Try.prog 73 #[.slice A3 n3 c3, .slice A2 n2 c2] wx fun e w' => ∃ v, e = .returned v ∧ Own w1.heap.size w' v (N2 * D1) ∧ Below wx.heap.size wx w' ∧ Below w1.heap.size w1 w') :=
    Lib.hid (fun wx hx => (product_v ((h3.keep hb1).keep hx) ((h2.keep hb1).keep hx)).mono fun e w' ⟨v, he, ho, hb⟩ => ⟨v, he, ho.low hx.size, hb, hx.trans (hb.mono hx.size)⟩)
  have HRD : Hid (∀ wx v1 v2, Below w1.heap.size w1 wx → Own w1.heap.size wx v1 (N1 * D2) → Own w1.heap.size wx v2 (N2 * D1) → Calls Try.prog 69 #[v1, v2] wx fun e w' => e = .returned (.int .i64 (ordv (N1 * D2) (N2 * D1))) ∧ Below w1.heap.size w1 w') :=
    Lib.hid (fun wx v1 v2 hx p1 p2 => by
      obtain ⟨B1, m1, k1, rfl, a1⟩ := p1.arg
      obtain ⟨B2, m2, k2, rfl, a2⟩ := p2.arg
      have H := order_any B1 B2 m1 k1 m2 k2 _ _ wx a1.rd a2.rd a1.low a2.low (digs_top _ _ (by omega)) (digs_top _ _ (by omega))
      rw [digs_val _ _ (by omega), digs_val _ _ (by omega)] at H
      exact H.mono fun e w' ⟨he, hd⟩ => ⟨he, hx.trans (hd.below.mono hx.size)⟩)
  have hx0 : Below w1.heap.size w1 w1.drew := (Below.refl _ _).drew
  clear hv1 hv2 hR0 hRf hR1 hR2 h1 h2 h3 h4
  go_enter Try.func84, Try.ntmps84
  go_wp2_with fail
  rw [← HW.out]
  clear HW
  go_region_held3 (fun w' => w'.cell? ⟨w.heap.size, 0, none⟩ = some (.slice A1 n1 c1) ∧ w'.cell? ⟨w.heap.size, 1, none⟩ = some (.slice A2 n2 c2) ∧ w'.cell? ⟨w.heap.size + 1, 0, none⟩ = some (.slice A3 n3 c3) ∧ w'.cell? ⟨w.heap.size + 1, 1, none⟩ = some (.slice A4 n4 c4))
    (first
      | exact HS.out _ _ hxC
      | exact HK.out _ hxC
      | exact HK.out _ hxA
      | exact HK.out _ hxB
      | exact HK.out _ hx0)
    (first
      | (go_at_call 73; with_reducible refine (HP1.out _ hxB).mono ?_; rintro e wA ⟨v1, rfl, o1, hA, hxA⟩; replace o2 := Own.keep o2 hA)
      | (go_at_call 73; with_reducible refine (HP2.out _ hxA).mono ?_; rintro e wB ⟨v2, rfl, o2, hB, hxB⟩; replace o1 := Own.keep o1 hB)
      | (go_at_call 73; with_reducible refine (HP1.out _ hx0).mono ?_; rintro e wA ⟨v1, rfl, o1, hA, hxA⟩)
      | (go_at_call 73; with_reducible refine (HP2.out _ hx0).mono ?_; rintro e wB ⟨v2, rfl, o2, hB, hxB⟩)
      | (go_at_call 69; with_reducible refine (HRD.out _ _ _ hxB o1 o2).mono ?_; rintro e wC ⟨rfl, hxC⟩; obtain ⟨r0, f0⟩ := HR1.out _ hxC)
      | (go_at_call 69; with_reducible refine (HRD.out _ _ _ hxA o1 o2).mono ?_; rintro e wC ⟨rfl, hxC⟩; obtain ⟨r0, f0⟩ := HR1.out _ hxC))
  all_goals
    have hRl : R < w1.heap.size := by omega
    have hfin : Below base w wC := (hb1.mono (by omega)).trans (hxC.mono (by omega))
    go_wp2
    go_ret
    exact ⟨rfl, World.cell?_setCell_same _ _ _ (HR1.out _ hxC).1, hfin.setCell (p := ⟨R, 0, none⟩) hbase _⟩
end Go.Proofs.Ythplhlcdlnedfaa

namespace Go.Proofs.Ythplhlcdlnedfaa
open Go.RowKit MN

set_option linter.unusedSimpArgs false in
set_option maxRecDepth 100000 in
set_option maxHeartbeats 1000000 in
theorem addOp_any (w : World) (base R : Nat) (A1 A2 A3 A4 : Option Addr) (n1 n2 n3 n4 c1 c2 c3 c4 N1 D1 N2 D2 : Nat) (h1 : Nm w (.slice A1 n1 c1) N1) (h2 : Nm w (.slice A2 n2 c2) D1) (h3 : Nm w (.slice A3 n3 c3) N2) (h4 : Nm w (.slice A4 n4 c4) D2)
    (hD1 : D1 ≠ 0) (hD2 : D2 ≠ 0) (u v : Value) (hR : Var2 w R u v) (hbase : base ≤ R) (hlt : R < w.heap.size) :
    Calls Try.prog 82 #[.agg #[.slice A1 n1 c1, .slice A2 n2 c2], .agg #[.slice A3 n3 c3, .slice A4 n4 c4], .pointer (some ⟨R, 0, none⟩)] w fun e w' =>
      ∃ v1 v2, e = .returned (.int .i64 (redC (N1 * D2 + N2 * D1) (D1 * D2))) ∧ Own w.heap.size w' v1 (redN (N1 * D2 + N2 * D1) (D1 * D2)) ∧ Own w.heap.size w' v2 (redD (N1 * D2 + N2 * D1) (D1 * D2)) ∧ Var2 w' R v1 v2 ∧ Below base w w' := by
  obtain ⟨w1, hw1⟩ : ∃ w1, w1 = (w.alloc (.cells #[.slice A1 n1 c1, .slice A2 n2 c2] 38)).alloc (.cells #[.slice A3 n3 c3, .slice A4 n4 c4] 38) := ⟨_, rfl⟩
  have hb1 : Below w.heap.size w w1 := by rw [hw1]; exact ((Below.refl _ _).alloc (Nat.le_refl _) _).alloc (by simp) _
  have hs1 : w1.heap.size = w.heap.size + 2 := by rw [hw1]; simp
  have hv2 : Var2 w1 (w.heap.size + 1) (.slice A3 n3 c3) (.slice A4 n4 c4) := by
    rw [hw1]
    have := var2_new (w.alloc (.cells #[.slice A1 n1 c1, .slice A2 n2 c2] 38)) (.slice A3 n3 c3) (.slice A4 n4 c4) 38
    simpa using this
  have hv1 : Var2 w1 w.heap.size (.slice A1 n1 c1) (.slice A2 n2 c2) := by
    rw [hw1]
    exact (var2_new w (.slice A1 n1 c1) (.slice A2 n2 c2) 38).keep (below_alloc _ _) (by simp)
  have hR1 := hR.keep hb1 hlt
  have HW := Lib.hid hw1
  clear hw1
  have HK : Hid (∀ wx, Below w1.heap.size w1 wx → wx.cell? ⟨w.heap.size, 0, none⟩ = some (.slice A1 n1 c1) ∧ wx.cell? ⟨w.heap.size, 1, none⟩ = some (.slice A2 n2 c2) ∧ wx.cell? ⟨w.heap.size + 1, 0, none⟩ = some (.slice A3 n3 c3) ∧ wx.cell? ⟨w.heap.size + 1, 1, none⟩ = some (.slice A4 n4 c4)) :=
    Lib.hid (fun wx hx => ⟨(hv1.keep hx (by omega)).c0, (hv1.keep hx (by omega)).c1, (hv2.keep hx (by omega)).c0, (hv2.keep hx (by omega)).c1⟩)
  have HR1 : Hid (∀ wx, Below w1.heap.size w1 wx → Var2 wx R u v) := Lib.hid (fun wx hx => hR1.keep hx (by omega))
  have HP1 : Hid (∀ wx, Below w1.heap.size w1 wx → Calls Try.prog 73 #[.slice A1 n1 c1, .slice A4 n4 c4] wx fun e w' => ∃ v, e = .returned v ∧ Own w1.heap.size w' v (N1 * D2) ∧ Below wx.heap.size wx w' ∧ Below w1.heap.size w1 w') :=
    Lib.hid (fun wx hx => (product_v ((h1.keep hb1).keep hx) ((h4.keep hb1).keep hx)).mono fun e w' ⟨v, he, ho, hb⟩ => ⟨v, he, ho.low hx.size, hb, hx.trans (hb.mono hx.size)⟩)
  have HP2 : Hid (∀ wx, Below w1.heap.size w1 wx → Calls Try.prog 73 #[.slice A3 n3 c3, .slice A2 n2 c2] wx fun e w' => ∃ v, e = .returned v ∧ Own w1.heap.size w' v (N2 * D1) ∧ Below wx.heap.size wx w' ∧ Below w1.heap.size w1 w') :=
    Lib.hid (fun wx hx => (product_v ((h3.keep hb1).keep hx) ((h2.keep hb1).keep hx)).mono fun e w' ⟨v, he, ho, hb⟩ => ⟨v, he, ho.low hx.size, hb, hx.trans (hb.mono hx.size)⟩)
  have HP3 : Hid (∀ wx, Below w1.heap.size w1 wx → Calls Try.prog 73 #[.slice A2 n2 c2, .slice A4 n4 c4] wx fun e w' => ∃ v, e = .returned v ∧ Own w1.heap.size w' v (D1 * D2) ∧ Below wx.heap.size wx w' ∧ Below w1.heap.size w1 w') :=
    Lib.hid (fun wx hx => (product_v ((h2.keep hb1).keep hx) ((h4.keep hb1).keep hx)).mono fun e w' ⟨v, he, ho, hb⟩ => ⟨v, he, ho.low hx.size, hb, hx.trans (hb.mono hx.size)⟩)
  have HSM : Hid (∀ wx v1 v2, Below w1.heap.size w1 wx → Own w1.heap.size wx v1 (N1 * D2) → Own w1.heap.size wx v2 (N2 * D1) → Calls Try.prog 72 #[v1, v2] wx fun e w' => ∃ A m c, e = .returned (.slice A m c) ∧ Own w1.heap.size w' (.slice A m c) (N1 * D2 + N2 * D1) ∧ Below w1.heap.size w1 w') :=
    Lib.hid (fun wx v1 v2 hx p1 p2 => by
      have l1 : N1 * D2 < 4294967296 ^ 32 := by
        have e1 : N1 * D2 < 4294967296 ^ 16 * 4294967296 ^ 16 := Nat.mul_lt_mul'' h1.2 h4.2
        rw [← Nat.pow_add] at e1; exact e1
      have l2 : N2 * D1 < 4294967296 ^ 32 := by
        have e1 : N2 * D1 < 4294967296 ^ 16 * 4294967296 ^ 16 := Nat.mul_lt_mul'' h3.2 h2.2
        rw [← Nat.pow_add] at e1; exact e1
      obtain ⟨B1, m1, k1, rfl, a1⟩ := p1.arg
      obtain ⟨B2, m2, k2, rfl, a2⟩ := p2.arg
      have H := sum_any B1 B2 m1 k1 m2 k2 _ _ wx a1.rd a2.rd a1.low a2.low (by rw [← a1.rd.len]; have := digs_len (B := 4294967296) (by omega) _ _ l1; omega) (by rw [← a2.rd.len]; have := digs_len (B := 4294967296) (by omega) _ _ l2; omega)
      rw [digs_val _ _ (by omega), digs_val _ _ (by omega)] at H
      refine H.mono fun e w' => ?_
      rintro ⟨A, m, c, rfl, ho, hb⟩
      exact ⟨A, m, c, rfl, (⟨A, m, c, rfl, own_low ho hx.size⟩ : Own _ _ _ _), hx.trans (hb.mono hx.size)⟩)
  have lt900 : ∀ a b : Nat, a < 4294967296 ^ 16 → b < 4294967296 ^ 16 → a * b < 4294967296 ^ 32 := fun a b ha hb => by
    have e1 : a * b < 4294967296 ^ 16 * 4294967296 ^ 16 := Nat.mul_lt_mul'' ha hb
    rw [← Nat.pow_add] at e1; exact e1
  have up : ∀ a : Nat, a < 4294967296 ^ 33 → a < 4294967296 ^ 900 := fun a ha => by
    obtain ⟨K, hK⟩ : ∃ K, K = 900 := ⟨_, rfl⟩
    rw [← hK]
    exact Nat.lt_of_lt_of_le ha (Nat.pow_le_pow_right (by omega) (by omega))
  have LA : N1 * D2 + N2 * D1 < 4294967296 ^ 900 := up _ (by
    have e1 := lt900 N1 D2 h1.2 h4.2
    have e2 := lt900 N2 D1 h3.2 h2.2
    have e3 : 4294967296 ^ 33 = 4294967296 ^ 32 * 4294967296 := Nat.pow_succ _ 32
    omega)
  have LB := up _ (Nat.lt_trans (lt900 D1 D2 h2.2 h4.2) (Nat.pow_lt_pow_right (by omega) (by omega)))
  have HD : D1 * D2 ≠ 0 := Nat.mul_ne_zero hD1 hD2
  have HRD : Hid (∀ wx v1 v2, Below w1.heap.size w1 wx → Own w1.heap.size wx v1 (N1 * D2 + N2 * D1) → Own w1.heap.size wx v2 (D1 * D2) → Calls Try.prog 80 #[v1, v2] wx fun e w' =>
      ∃ B1 m1 k1 B2 m2 k2, e = .returned (.tuple #[.agg #[.slice B1 m1 k1, .slice B2 m2 k2], .int .i64 (redC (N1 * D2 + N2 * D1) (D1 * D2))]) ∧ Own w1.heap.size w' (.slice B1 m1 k1) (redN (N1 * D2 + N2 * D1) (D1 * D2)) ∧ Own w1.heap.size w' (.slice B2 m2 k2) (redD (N1 * D2 + N2 * D1) (D1 * D2)) ∧ Below w1.heap.size w1 w') :=
    Lib.hid (fun wx v1 v2 hx p1 p2 => (reduce_v p1 p2 LA LB HD).mono fun e w' ⟨u1, u2, he, hP⟩ => by
      obtain ⟨B1, m1, k1, rfl, q1⟩ := hP.one
      obtain ⟨B2, m2, k2, rfl, q2⟩ := hP.two
      exact ⟨B1, m1, k1, B2, m2, k2, he, (⟨B1, m1, k1, rfl, own_low q1 hx.size⟩ : Own _ _ _ _), (⟨B2, m2, k2, rfl, own_low q2 hx.size⟩ : Own _ _ _ _), hx.trans (hP.below.mono hx.size)⟩)
  have hx0 : Below w1.heap.size w1 w1.drew := (Below.refl _ _).drew
  clear hv1 hv2 hR hR1 h1 h2 h3 h4 hD1 hD2 lt900 up LA LB HD
  go_enter Try.func82, Try.ntmps82
  go_wp2_with fail
  rw [← HW.out]
  clear HW
  go_region_held3 (fun w' => w'.cell? ⟨w.heap.size, 0, none⟩ = some (.slice A1 n1 c1) ∧ w'.cell? ⟨w.heap.size, 1, none⟩ = some (.slice A2 n2 c2) ∧ w'.cell? ⟨w.heap.size + 1, 0, none⟩ = some (.slice A3 n3 c3) ∧ w'.cell? ⟨w.heap.size + 1, 1, none⟩ = some (.slice A4 n4 c4))
    (first
      | exact HK.out _ hxC
      | exact HK.out _ hxA
      | exact HK.out _ hxB
      | exact HK.out _ hx0)
    (first
      | (go_at_call 73; with_reducible refine (HP1.out _ hxB).mono ?_; rintro e wA ⟨v1, rfl, o1, hA, hxA⟩; replace o2 := Own.keep o2 hA)
      | (go_at_call 73; with_reducible refine (HP2.out _ hxA).mono ?_; rintro e wB ⟨v2, rfl, o2, hB, hxB⟩; replace o1 := Own.keep o1 hB)
      | (go_at_call 73; with_reducible refine (HP1.out _ hx0).mono ?_; rintro e wA ⟨v1, rfl, o1, hA, hxA⟩)
      | (go_at_call 73; with_reducible refine (HP2.out _ hx0).mono ?_; rintro e wB ⟨v2, rfl, o2, hB, hxB⟩)
      | (go_at_call 72; with_reducible refine (HSM.out _ _ _ hxB o1 o2).mono ?_; rintro e wC ⟨AS, mS, cS, rfl, oS, hxC⟩)
      | (go_at_call 72; with_reducible refine (HSM.out _ _ _ hxA o1 o2).mono ?_; rintro e wC ⟨AS, mS, cS, rfl, oS, hxC⟩))
  all_goals
    have hRl : R < w1.heap.size := by omega
    clear o1 o2
    go_wp2_with fail
    with_reducible refine (HP3.out _ hxC).mono ?_
    rintro e wD ⟨v4, rfl, o4, hD, hxD⟩
    replace oS := Own.keep oS hD
    go_wp2_with fail
    with_reducible refine (HRD.out _ _ _ hxD oS o4).mono ?_
    rintro e wE ⟨B1, m1, k1, B2, m2, k2, rfl, q1, q2, hxE⟩
    obtain ⟨r0, r1, f0, f1⟩ := HR1.out _ hxE
    have hfin : Below base w wE := (hb1.mono (by omega)).trans (hxE.mono (by omega))
    go_wp2
    go_ret
    exact ⟨_, _, rfl, (Own.set (Own.set q1 (a := ⟨R, 0, none⟩) hRl _) (a := ⟨R, 1, none⟩) hRl _).low (by omega), (Own.set (Own.set q2 (a := ⟨R, 0, none⟩) hRl _) (a := ⟨R, 1, none⟩) hRl _).low (by omega), (HR1.out _ hxE).stored _ _, (hfin.setCell (p := ⟨R, 0, none⟩) hbase _).setCell (p := ⟨R, 1, none⟩) hbase _⟩
end Go.Proofs.Ythplhlcdlnedfaa

namespace Go.Proofs.Ythplhlcdlnedfaa
open Go.RowKit MN

set_option maxRecDepth 100000 in
set_option maxHeartbeats 1000000 in
theorem operate_83 (w : World) (A1 A2 A3 A4 : Option Addr) (n1 n2 n3 n4 c1 c2 c3 c4 : Nat) (xs ys zs us : List Nat) (h1 : Arg w A1 n1 c1 xs) (h2 : Arg w A2 n2 c2 ys) (h3 : Arg w A3 n3 c3 zs) (h4 : Arg w A4 n4 c4 us)
    (f1 : FrOk xs ys) (f2 : FrOk zs us) (p : Value) (code : Int) (RR : World → Prop)
    (hcall : ∀ wx, Below w.heap.size w wx → Calls Try.prog 83 #[.agg #[.slice A1 n1 c1, .slice A2 n2 c2], .agg #[.slice A3 n3 c3, .slice A4 n4 c4], p] wx fun e w' => e = .returned (.int .i64 code) ∧ RR w') :
    Calls Try.prog 81 #[.agg #[.slice A1 n1 c1, .slice A2 n2 c2, .slice A3 n3 c3, .slice A4 n4 c4], .func (Fn.func 83) #[] #[p]] w fun e w' => e = .returned (.int .i64 code) ∧ RR w' := by
  obtain ⟨wl, hwl⟩ : ∃ wl, wl = (w.alloc (.cells #[.slice A1 n1 c1, .slice A2 n2 c2, .slice A3 n3 c3, .slice A4 n4 c4] 105)).alloc (.cells #[.slice A1 n1 c1, .slice A2 n2 c2, .slice A3 n3 c3, .slice A4 n4 c4] 38) := ⟨_, rfl⟩
  have hbl : Below w.heap.size w wl := by rw [hwl]; exact ((Below.refl _ _).alloc (Nat.le_refl _) _).alloc (by simp) _
  have hsl : wl.heap.size = w.heap.size + 2 := by rw [hwl]; simp
  have e0 : ∀ i v, #[Value.slice A1 n1 c1, .slice A2 n2 c2, .slice A3 n3 c3, .slice A4 n4 c4][i]? = some v → wl.cell? ⟨w.heap.size, i, none⟩ = some v ∧ wl.cell? ⟨w.heap.size + 1, i, none⟩ = some v := fun i v hv => by
    constructor
    · rw [hwl]
      refine ((below_alloc _ _).cell (p := ⟨w.heap.size, i, none⟩) (by simp)).trans ?_
      rw [World.cell?_alloc_at (hn := by simp)]; exact hv
    · rw [hwl, World.cell?_alloc_at (hn := by simp)]; exact hv
  have HK : Hid (∀ wx, Below wl.heap.size wl wx → ∀ i v, #[Value.slice A1 n1 c1, .slice A2 n2 c2, .slice A3 n3 c3, .slice A4 n4 c4][i]? = some v → wx.cell? ⟨w.heap.size, i, none⟩ = some v ∧ wx.cell? ⟨w.heap.size + 1, i, none⟩ = some v) :=
    Lib.hid (fun wx hx i v hv => ⟨(hx.cell (p := ⟨w.heap.size, i, none⟩) (by show w.heap.size < _; omega)).trans (e0 i v hv).1, (hx.cell (p := ⟨w.heap.size + 1, i, none⟩) (by show w.heap.size + 1 < _; omega)).trans (e0 i v hv).2⟩)
  have C1 : Hid (∀ wx, Below wl.heap.size wl wx → Calls Try.prog 57 #[.agg #[.slice A1 n1 c1, .slice A2 n2 c2]] wx fun e w' => e = .returned (.int .i64 0) ∧ Below wl.heap.size wl w') :=
    Lib.hid (fun wx hx => (checkFraction_any A1 n1 c1 xs A2 n2 c2 ys wx ((h1.keep hbl).keep hx) ((h2.keep hbl).keep hx)).mono fun e w' ⟨he, hb⟩ => ⟨by rw [he, show frC xs ys = 0 from if_pos f1], hx.trans (hb.mono hx.size)⟩)
  have C2 : Hid (∀ wx, Below wl.heap.size wl wx → Calls Try.prog 57 #[.agg #[.slice A3 n3 c3, .slice A4 n4 c4]] wx fun e w' => e = .returned (.int .i64 0) ∧ Below wl.heap.size wl w') :=
    Lib.hid (fun wx hx => (checkFraction_any A3 n3 c3 zs A4 n4 c4 us wx ((h3.keep hbl).keep hx) ((h4.keep hbl).keep hx)).mono fun e w' ⟨he, hb⟩ => ⟨by rw [he, show frC zs us = 0 from if_pos f2], hx.trans (hb.mono hx.size)⟩)
  have HC := Lib.hid hcall
  have HW := Lib.hid hwl
  obtain ⟨x0, y0⟩ := e0 0 _ rfl
  obtain ⟨x1, y1⟩ := e0 1 _ rfl
  clear hwl h1 h2 h3 h4 f1 f2 hcall e0
  go_enter Try.func81, Try.ntmps81
  go_wp2
  rw [← HW.out]
  refine wp_loop_rounds 3 ?_
  rw [rounds_succ]
  go_wp2_with fail
  refine (C1.out _ (below_alloc wl _)).mono ?_
  rintro e w2 ⟨rfl, hx2⟩
  obtain ⟨_, z2⟩ := HK.out _ hx2 2 _ rfl
  obtain ⟨_, z3⟩ := HK.out _ hx2 3 _ rfl
  clear x0 y0 x1 y1
  go_wp2
  rw [rounds_succ]
  go_wp2_with fail
  refine (C2.out _ (Below.alloc hx2 hx2.size _)).mono ?_
  rintro e w3 ⟨rfl, hx3⟩
  obtain ⟨q0, _⟩ := HK.out _ hx3 0 _ rfl
  obtain ⟨q1, _⟩ := HK.out _ hx3 1 _ rfl
  obtain ⟨q2, _⟩ := HK.out _ hx3 2 _ rfl
  obtain ⟨q3, _⟩ := HK.out _ hx3 3 _ rfl
  clear z2 z3
  have hfin := hbl.trans (hx3.mono (by omega))
  go_wp2
  rw [rounds_succ]
  go_wp2_with fail
  refine (HC.out _ hfin).mono ?_
  rintro e w4 ⟨rfl, hr⟩
  go_wp2
  go_ret
  exact ⟨rfl, hr⟩
set_option maxRecDepth 100000 in
set_option maxHeartbeats 1000000 in
theorem operate_82 (w : World) (A1 A2 A3 A4 : Option Addr) (n1 n2 n3 n4 c1 c2 c3 c4 : Nat) (xs ys zs us : List Nat) (h1 : Arg w A1 n1 c1 xs) (h2 : Arg w A2 n2 c2 ys) (h3 : Arg w A3 n3 c3 zs) (h4 : Arg w A4 n4 c4 us)
    (f1 : FrOk xs ys) (f2 : FrOk zs us) (p : Value) (code : Int) (RR : World → Prop)
    (hcall : ∀ wx, Below w.heap.size w wx → Calls Try.prog 82 #[.agg #[.slice A1 n1 c1, .slice A2 n2 c2], .agg #[.slice A3 n3 c3, .slice A4 n4 c4], p] wx fun e w' => e = .returned (.int .i64 code) ∧ RR w') :
    Calls Try.prog 81 #[.agg #[.slice A1 n1 c1, .slice A2 n2 c2, .slice A3 n3 c3, .slice A4 n4 c4], .func (Fn.func 82) #[] #[p]] w fun e w' => e = .returned (.int .i64 code) ∧ RR w' := by
  obtain ⟨wl, hwl⟩ : ∃ wl, wl = (w.alloc (.cells #[.slice A1 n1 c1, .slice A2 n2 c2, .slice A3 n3 c3, .slice A4 n4 c4] 105)).alloc (.cells #[.slice A1 n1 c1, .slice A2 n2 c2, .slice A3 n3 c3, .slice A4 n4 c4] 38) := ⟨_, rfl⟩
  have hbl : Below w.heap.size w wl := by rw [hwl]; exact ((Below.refl _ _).alloc (Nat.le_refl _) _).alloc (by simp) _
  have hsl : wl.heap.size = w.heap.size + 2 := by rw [hwl]; simp
  have e0 : ∀ i v, #[Value.slice A1 n1 c1, .slice A2 n2 c2, .slice A3 n3 c3, .slice A4 n4 c4][i]? = some v → wl.cell? ⟨w.heap.size, i, none⟩ = some v ∧ wl.cell? ⟨w.heap.size + 1, i, none⟩ = some v := fun i v hv => by
    constructor
    · rw [hwl]
      refine ((below_alloc _ _).cell (p := ⟨w.heap.size, i, none⟩) (by simp)).trans ?_
      rw [World.cell?_alloc_at (hn := by simp)]; exact hv
    · rw [hwl, World.cell?_alloc_at (hn := by simp)]; exact hv
  have HK : Hid (∀ wx, Below wl.heap.size wl wx → ∀ i v, #[Value.slice A1 n1 c1, .slice A2 n2 c2, .slice A3 n3 c3, .slice A4 n4 c4][i]? = some v → wx.cell? ⟨w.heap.size, i, none⟩ = some v ∧ wx.cell? ⟨w.heap.size + 1, i, none⟩ = some v) :=
    Lib.hid (fun wx hx i v hv => ⟨(hx.cell (p := ⟨w.heap.size, i, none⟩) (by show w.heap.size < _; omega)).trans (e0 i v hv).1, (hx.cell (p := ⟨w.heap.size + 1, i, none⟩) (by show w.heap.size + 1 < _; omega)).trans (e0 i v hv).2⟩)
  have C1 : Hid (∀ wx, Below wl.heap.size wl wx → Calls Try.prog 57 #[.agg #[.slice A1 n1 c1, .slice A2 n2 c2]] wx fun e w' => e = .returned (.int .i64 0) ∧ Below wl.heap.size wl w') :=
    Lib.hid (fun wx hx => (checkFraction_any A1 n1 c1 xs A2 n2 c2 ys wx ((h1.keep hbl).keep hx) ((h2.keep hbl).keep hx)).mono fun e w' ⟨he, hb⟩ => ⟨by rw [he, show frC xs ys = 0 from if_pos f1], hx.trans (hb.mono hx.size)⟩)
  have C2 : Hid (∀ wx, Below wl.heap.size wl wx → Calls Try.prog 57 #[.agg #[.slice A3 n3 c3, .slice A4 n4 c4]] wx fun e w' => e = .returned (.int .i64 0) ∧ Below wl.heap.size wl w') :=
    Lib.hid (fun wx hx => (checkFraction_any A3 n3 c3 zs A4 n4 c4 us wx ((h3.keep hbl).keep hx) ((h4.keep hbl).keep hx)).mono fun e w' ⟨he, hb⟩ => ⟨by rw [he, show frC zs us = 0 from if_pos f2], hx.trans (hb.mono hx.size)⟩)
  have HC := Lib.hid hcall
  have HW := Lib.hid hwl
  obtain ⟨x0, y0⟩ := e0 0 _ rfl
  obtain ⟨x1, y1⟩ := e0 1 _ rfl
  clear hwl h1 h2 h3 h4 f1 f2 hcall e0
  go_enter Try.func81, Try.ntmps81
  go_wp2
  rw [← HW.out]
  refine wp_loop_rounds 3 ?_
  rw [rounds_succ]
  go_wp2_with fail
  refine (C1.out _ (below_alloc wl _)).mono ?_
  rintro e w2 ⟨rfl, hx2⟩
  obtain ⟨_, z2⟩ := HK.out _ hx2 2 _ rfl
  obtain ⟨_, z3⟩ := HK.out _ hx2 3 _ rfl
  clear x0 y0 x1 y1
  go_wp2
  rw [rounds_succ]
  go_wp2_with fail
  refine (C2.out _ (Below.alloc hx2 hx2.size _)).mono ?_
  rintro e w3 ⟨rfl, hx3⟩
  obtain ⟨q0, _⟩ := HK.out _ hx3 0 _ rfl
  obtain ⟨q1, _⟩ := HK.out _ hx3 1 _ rfl
  obtain ⟨q2, _⟩ := HK.out _ hx3 2 _ rfl
  obtain ⟨q3, _⟩ := HK.out _ hx3 3 _ rfl
  clear z2 z3
  have hfin := hbl.trans (hx3.mono (by omega))
  go_wp2
  rw [rounds_succ]
  go_wp2_with fail
  refine (HC.out _ hfin).mono ?_
  rintro e w4 ⟨rfl, hr⟩
  go_wp2
  go_ret
  exact ⟨rfl, hr⟩

set_option maxRecDepth 100000 in
set_option maxHeartbeats 1000000 in
theorem operate_84 (w : World) (A1 A2 A3 A4 : Option Addr) (n1 n2 n3 n4 c1 c2 c3 c4 : Nat) (xs ys zs us : List Nat) (h1 : Arg w A1 n1 c1 xs) (h2 : Arg w A2 n2 c2 ys) (h3 : Arg w A3 n3 c3 zs) (h4 : Arg w A4 n4 c4 us)
    (f1 : FrOk xs ys) (f2 : FrOk zs us) (p : Value) (code : Int) (RR : World → Prop)
    (hcall : ∀ wx, Below w.heap.size w wx → Calls Try.prog 84 #[.agg #[.slice A1 n1 c1, .slice A2 n2 c2], .agg #[.slice A3 n3 c3, .slice A4 n4 c4], p] wx fun e w' => e = .returned (.int .i64 code) ∧ RR w') :
    Calls Try.prog 81 #[.agg #[.slice A1 n1 c1, .slice A2 n2 c2, .slice A3 n3 c3, .slice A4 n4 c4], .func (Fn.func 84) #[] #[p]] w fun e w' => e = .returned (.int .i64 code) ∧ RR w' := by
  obtain ⟨wl, hwl⟩ : ∃ wl, wl = (w.alloc (.cells #[.slice A1 n1 c1, .slice A2 n2 c2, .slice A3 n3 c3, .slice A4 n4 c4] 105)).alloc (.cells #[.slice A1 n1 c1, .slice A2 n2 c2, .slice A3 n3 c3, .slice A4 n4 c4] 38) := ⟨_, rfl⟩
  have hbl : Below w.heap.size w wl := by rw [hwl]; exact ((Below.refl _ _).alloc (Nat.le_refl _) _).alloc (by simp) _
  have hsl : wl.heap.size = w.heap.size + 2 := by rw [hwl]; simp
  have e0 : ∀ i v, #[Value.slice A1 n1 c1, .slice A2 n2 c2, .slice A3 n3 c3, .slice A4 n4 c4][i]? = some v → wl.cell? ⟨w.heap.size, i, none⟩ = some v ∧ wl.cell? ⟨w.heap.size + 1, i, none⟩ = some v := fun i v hv => by
    constructor
    · rw [hwl]
      refine ((below_alloc _ _).cell (p := ⟨w.heap.size, i, none⟩) (by simp)).trans ?_
      rw [World.cell?_alloc_at (hn := by simp)]; exact hv
    · rw [hwl, World.cell?_alloc_at (hn := by simp)]; exact hv
  have HK : Hid (∀ wx, Below wl.heap.size wl wx → ∀ i v, #[Value.slice A1 n1 c1, .slice A2 n2 c2, .slice A3 n3 c3, .slice A4 n4 c4][i]? = some v → wx.cell? ⟨w.heap.size, i, none⟩ = some v ∧ wx.cell? ⟨w.heap.size + 1, i, none⟩ = some v) :=
    Lib.hid (fun wx hx i v hv => ⟨(hx.cell (p := ⟨w.heap.size, i, none⟩) (by show w.heap.size < _; omega)).trans (e0 i v hv).1, (hx.cell (p := ⟨w.heap.size + 1, i, none⟩) (by show w.heap.size + 1 < _; omega)).trans (e0 i v hv).2⟩)
  have C1 : Hid (∀ wx, Below wl.heap.size wl wx → Calls Try.prog 57 #[.agg #[.slice A1 n1 c1, .slice A2 n2 c2]] wx fun e w' => e = .returned (.int .i64 0) ∧ Below wl.heap.size wl w') :=
    Lib.hid (fun wx hx => (checkFraction_any A1 n1 c1 xs A2 n2 c2 ys wx ((h1.keep hbl).keep hx) ((h2.keep hbl).keep hx)).mono fun e w' ⟨he, hb⟩ => ⟨by rw [he, show frC xs ys = 0 from if_pos f1], hx.trans (hb.mono hx.size)⟩)
  have C2 : Hid (∀ wx, Below wl.heap.size wl wx → Calls Try.prog 57 #[.agg #[.slice A3 n3 c3, .slice A4 n4 c4]] wx fun e w' => e = .returned (.int .i64 0) ∧ Below wl.heap.size wl w') :=
    Lib.hid (fun wx hx => (checkFraction_any A3 n3 c3 zs A4 n4 c4 us wx ((h3.keep hbl).keep hx) ((h4.keep hbl).keep hx)).mono fun e w' ⟨he, hb⟩ => ⟨by rw [he, show frC zs us = 0 from if_pos f2], hx.trans (hb.mono hx.size)⟩)
  have HC := Lib.hid hcall
  have HW := Lib.hid hwl
  obtain ⟨x0, y0⟩ := e0 0 _ rfl
  obtain ⟨x1, y1⟩ := e0 1 _ rfl
  clear hwl h1 h2 h3 h4 f1 f2 hcall e0
  go_enter Try.func81, Try.ntmps81
  go_wp2
  rw [← HW.out]
  refine wp_loop_rounds 3 ?_
  rw [rounds_succ]
  go_wp2_with fail
  refine (C1.out _ (below_alloc wl _)).mono ?_
  rintro e w2 ⟨rfl, hx2⟩
  obtain ⟨_, z2⟩ := HK.out _ hx2 2 _ rfl
  obtain ⟨_, z3⟩ := HK.out _ hx2 3 _ rfl
  clear x0 y0 x1 y1
  go_wp2
  rw [rounds_succ]
  go_wp2_with fail
  refine (C2.out _ (Below.alloc hx2 hx2.size _)).mono ?_
  rintro e w3 ⟨rfl, hx3⟩
  obtain ⟨q0, _⟩ := HK.out _ hx3 0 _ rfl
  obtain ⟨q1, _⟩ := HK.out _ hx3 1 _ rfl
  obtain ⟨q2, _⟩ := HK.out _ hx3 2 _ rfl
  obtain ⟨q3, _⟩ := HK.out _ hx3 3 _ rfl
  clear z2 z3
  have hfin := hbl.trans (hx3.mono (by omega))
  go_wp2
  rw [rounds_succ]
  go_wp2_with fail
  refine (HC.out _ hfin).mono ?_
  rintro e w4 ⟨rfl, hr⟩
  go_wp2
  go_ret
  exact ⟨rfl, hr⟩
end Go.Proofs.Ythplhlcdlnedfaa

namespace Go.Proofs.Ythplhlcdlnedfaa
open Go.RowKit MN

/-- A valid fraction's value: two slices of numbers without a common divisor, the second not 0. -/
structure Fr (w : World) (v1 v2 : Value) (N D : Nat) : Prop where
  num : Nm w v1 N
  den : Nm w v2 D
  co : Nat.gcd N D = 1
  pos : D ≠ 0
theorem Fr.keep {w w' : World} {v1 v2 : Value} {N D : Nat} (h : Fr w v1 v2 N D) (hb : Below w.heap.size w w') : Fr w' v1 v2 N D := ⟨h.num.keep hb, h.den.keep hb, h.co, h.pos⟩
theorem frOk_digs {N D : Nat} (hN : N < 4294967296 ^ 16) (hD : D < 4294967296 ^ 16) (h : Nat.gcd N D = 1) (h0 : D ≠ 0) : FrOk (digs 4294967296 N) (digs 4294967296 D) :=
  ⟨⟨sm_vd hN, sm_vd hD⟩, by rw [nv_digs, nv_digs]; exact h, by rw [nv_digs]; exact h0⟩

set_option maxRecDepth 100000 in
set_option maxHeartbeats 1000000 in
theorem mulFr_v (w : World) (s1 s2 s3 s4 : Value) (N1 D1 N2 D2 : Nat) (h : Fr w s1 s2 N1 D1) (k : Fr w s3 s4 N2 D2) :
    Calls Try.prog 34 #[.agg #[s1, s2], .agg #[s3, s4]] w (FrRes w (redC (N1 * N2) (D1 * D2)) (redN (N1 * N2) (D1 * D2)) (redD (N1 * N2) (D1 * D2))) := by
  obtain ⟨⟨⟨A1, n1, c1, rfl, a1⟩, l1⟩, ⟨⟨A2, n2, c2, rfl, a2⟩, l2⟩, g1, p1⟩ := h
  obtain ⟨⟨⟨A3, n3, c3, rfl, a3⟩, l3⟩, ⟨⟨A4, n4, c4, rfl, a4⟩, l4⟩, g2, p2⟩ := k
  have F1 := frOk_digs l1 l2 g1 p1
  have F2 := frOk_digs l3 l4 g2 p2
  obtain ⟨w2, hw2⟩ : ∃ w2, w2 = (w.alloc (.cells #[.slice A1 n1 c1, .slice A2 n2 c2] 38)).alloc (.cells #[.slice A3 n3 c3, .slice A4 n4 c4] 38) := ⟨_, rfl⟩
  have hb2 : Below w.heap.size w w2 := by rw [hw2]; exact ((Below.refl _ _).alloc (Nat.le_refl _) _).alloc (by simp) _
  have hs2 : w2.heap.size = w.heap.size + 2 := by rw [hw2]; simp
  obtain ⟨w3, hw3⟩ : ∃ w3, w3 = w2.alloc (.cells #[.slice none 0 0, .slice none 0 0] 38) := ⟨_, rfl⟩
  have hb3 : Below w2.heap.size w2 w3 := by rw [hw3]; exact below_alloc _ _
  have hs3 : w3.heap.size = w.heap.size + 3 := by rw [hw3]; simp [hs2]
  have hv3 : Var2 w3 w2.heap.size (.slice none 0 0) (.slice none 0 0) := by rw [hw3]; exact var2_new _ _ _ _
  obtain ⟨w4, hw4⟩ : ∃ w4, w4 = w3.alloc (.cells #[.slice none 0 0, .slice none 0 0] 38) := ⟨_, rfl⟩
  have hb4 : Below w3.heap.size w3 w4 := by rw [hw4]; exact below_alloc _ _
  have hs4 : w4.heap.size = w.heap.size + 4 := by rw [hw4]; simp [hs3]
  have hv4 : Var2 w4 w3.heap.size (.slice none 0 0) (.slice none 0 0) := by rw [hw4]; exact var2_new _ _ _ _
  have hB : Below w.heap.size w w4 := hb2.trans ((hb3.mono (by omega)).trans (hb4.mono (by omega)))
  have HO := operate_83 w4 A1 A2 A3 A4 n1 n2 n3 n4 c1 c2 c3 c4 _ _ _ _ (a1.keep hB) (a2.keep hB) (a3.keep hB) (a4.keep hB) F1 F2 (.pointer (some ⟨w3.heap.size, 0, none⟩)) (redC (N1 * N2) (D1 * D2))
    (fun w' => ∃ v1 v2, Own w4.heap.size w' v1 (redN (N1 * N2) (D1 * D2)) ∧ Own w4.heap.size w' v2 (redD (N1 * N2) (D1 * D2)) ∧ Var2 w' w3.heap.size v1 v2 ∧ Below w3.heap.size w4 w')
    (fun wx hx => (mulOp_any wx w3.heap.size w3.heap.size A1 A2 A3 A4 n1 n2 n3 n4 c1 c2 c3 c4 N1 D1 N2 D2 ⟨⟨_, _, _, rfl, (a1.keep hB).keep hx⟩, l1⟩ ⟨⟨_, _, _, rfl, (a2.keep hB).keep hx⟩, l2⟩ ⟨⟨_, _, _, rfl, (a3.keep hB).keep hx⟩, l3⟩ ⟨⟨_, _, _, rfl, (a4.keep hB).keep hx⟩, l4⟩ p1 p2 _ _ (hv4.keep hx (by omega)) (Nat.le_refl _) (by have := hx.size; omega)).mono
      fun e w' ⟨v1, v2, he, o1, o2, hv, hb⟩ => ⟨he, v1, v2, o1.low hx.size, o2.low hx.size, hv, (hx.mono (by omega)).trans hb⟩)
  have hs3' : w3.heap.size = w.heap.size + 1 + 1 + 1 := hs3
  have hs2' : w2.heap.size = w.heap.size + 1 + 1 := hs2
  rw [hs3'] at HO
  rw [hs2'] at hv3
  have hv3' := hv3.keep hb4 (by omega)
  have HH := Lib.hid HO
  have H2 := Lib.hid hw2
  have H3 := Lib.hid hw3
  have H4 := Lib.hid hw4
  clear HO hw2 hw3 hw4 a1 a2 a3 a4 F1 F2 g1 g2 p1 p2 l1 l2 l3 l4
  go_enter Try.func34, Try.ntmps34
  go_wp2_with fail
  rw [← H2.out, ← H3.out, ← H4.out]
  refine HH.out.mono ?_
  rintro e w5 ⟨rfl, v1, v2, o1, o2, hv, hb⟩
  obtain ⟨B1, m1, k1, rfl, o1⟩ := o1
  obtain ⟨B2, m2, k2, rfl, o2⟩ := o2
  have hv5 := hv3'.keep hb (by omega)
  have hbw : Below w.heap.size w w5 := hB.trans (hb.mono (by omega))
  have hlt : w.heap.size + 1 + 1 < w4.heap.size := by omega
  have q1 := (⟨B1, m1, k1, rfl, o1⟩ : Own w4.heap.size w5 (.slice B1 m1 k1) _)
  have q2 := (⟨B2, m2, k2, rfl, o2⟩ : Own w4.heap.size w5 (.slice B2 m2 k2) _)
  have P1 := ((Own.set (Own.set q1 (a := ⟨w.heap.size + 1 + 1, 0, none⟩) hlt (.slice B1 m1 k1)) (a := ⟨w.heap.size + 1 + 1, 1, none⟩) hlt (.slice B2 m2 k2)).low (B' := w.heap.size) (by omega))
  have P2 := ((Own.set (Own.set q2 (a := ⟨w.heap.size + 1 + 1, 0, none⟩) hlt (.slice B1 m1 k1)) (a := ⟨w.heap.size + 1 + 1, 1, none⟩) hlt (.slice B2 m2 k2)).low (B' := w.heap.size) (by omega))
  have P3 := (hbw.setCell (p := ⟨w.heap.size + 1 + 1, 0, none⟩) (by show w.heap.size ≤ w.heap.size + 1 + 1; omega) (.slice B1 m1 k1)).setCell (p := ⟨w.heap.size + 1 + 1, 1, none⟩) (by show w.heap.size ≤ w.heap.size + 1 + 1; omega) (.slice B2 m2 k2)
  have V1 := hv5.stored (.slice B1 m1 k1) (.slice B2 m2 k2)
  obtain ⟨r0, r1, _, _⟩ := hv
  obtain ⟨t0, t1, f0, f1⟩ := hv5
  obtain ⟨wf, hwf⟩ : ∃ wf, wf = (w5.setCell ⟨w.heap.size + 1 + 1, 0, none⟩ (.slice B1 m1 k1)).setCell ⟨w.heap.size + 1 + 1, 1, none⟩ (.slice B2 m2 k2) := ⟨_, rfl⟩
  rw [← hwf] at P1 P2 P3 V1
  have HF := Lib.hid hwf
  have HV := Lib.hid V1
  have HP : Hid (Pair w wf (.slice B1 m1 k1) (.slice B2 m2 k2) _ _) := Lib.hid ⟨P1, P2, P3⟩
  clear hwf V1 P1 P2 P3 q1 q2 o1 o2
  go_wp2
  rw [← HF.out]
  obtain ⟨q0, q1, _, _⟩ := HV.out
  refine bodyPost_ret (by simp [results, Try.results34, q0, q1, go_sem]; rfl) rfl ?_
  exact ⟨_, _, rfl, HP.out⟩
set_option maxRecDepth 100000 in
set_option maxHeartbeats 1000000 in
theorem addFr_v (w : World) (s1 s2 s3 s4 : Value) (N1 D1 N2 D2 : Nat) (h : Fr w s1 s2 N1 D1) (k : Fr w s3 s4 N2 D2) :
    Calls Try.prog 32 #[.agg #[s1, s2], .agg #[s3, s4]] w (FrRes w (redC (N1 * D2 + N2 * D1) (D1 * D2)) (redN (N1 * D2 + N2 * D1) (D1 * D2)) (redD (N1 * D2 + N2 * D1) (D1 * D2))) := by
  obtain ⟨⟨⟨A1, n1, c1, rfl, a1⟩, l1⟩, ⟨⟨A2, n2, c2, rfl, a2⟩, l2⟩, g1, p1⟩ := h
  obtain ⟨⟨⟨A3, n3, c3, rfl, a3⟩, l3⟩, ⟨⟨A4, n4, c4, rfl, a4⟩, l4⟩, g2, p2⟩ := k
  have F1 := frOk_digs l1 l2 g1 p1
  have F2 := frOk_digs l3 l4 g2 p2
  obtain ⟨w2, hw2⟩ : ∃ w2, w2 = (w.alloc (.cells #[.slice A1 n1 c1, .slice A2 n2 c2] 38)).alloc (.cells #[.slice A3 n3 c3, .slice A4 n4 c4] 38) := ⟨_, rfl⟩
  have hb2 : Below w.heap.size w w2 := by rw [hw2]; exact ((Below.refl _ _).alloc (Nat.le_refl _) _).alloc (by simp) _
  have hs2 : w2.heap.size = w.heap.size + 2 := by rw [hw2]; simp
  obtain ⟨w3, hw3⟩ : ∃ w3, w3 = w2.alloc (.cells #[.slice none 0 0, .slice none 0 0] 38) := ⟨_, rfl⟩
  have hb3 : Below w2.heap.size w2 w3 := by rw [hw3]; exact below_alloc _ _
  have hs3 : w3.heap.size = w.heap.size + 3 := by rw [hw3]; simp [hs2]
  have hv3 : Var2 w3 w2.heap.size (.slice none 0 0) (.slice none 0 0) := by rw [hw3]; exact var2_new _ _ _ _
  obtain ⟨w4, hw4⟩ : ∃ w4, w4 = w3.alloc (.cells #[.slice none 0 0, .slice none 0 0] 38) := ⟨_, rfl⟩
  have hb4 : Below w3.heap.size w3 w4 := by rw [hw4]; exact below_alloc _ _
  have hs4 : w4.heap.size = w.heap.size + 4 := by rw [hw4]; simp [hs3]
  have hv4 : Var2 w4 w3.heap.size (.slice none 0 0) (.slice none 0 0) := by rw [hw4]; exact var2_new _ _ _ _
  have hB : Below w.heap.size w w4 := hb2.trans ((hb3.mono (by omega)).trans (hb4.mono (by omega)))
  have HO := operate_82 w4 A1 A2 A3 A4 n1 n2 n3 n4 c1 c2 c3 c4 _ _ _ _ (a1.keep hB) (a2.keep hB) (a3.keep hB) (a4.keep hB) F1 F2 (.pointer (some ⟨w3.heap.size, 0, none⟩)) (redC (N1 * D2 + N2 * D1) (D1 * D2))
    (fun w' => ∃ v1 v2, Own w4.heap.size w' v1 (redN (N1 * D2 + N2 * D1) (D1 * D2)) ∧ Own w4.heap.size w' v2 (redD (N1 * D2 + N2 * D1) (D1 * D2)) ∧ Var2 w' w3.heap.size v1 v2 ∧ Below w3.heap.size w4 w')
    (fun wx hx => (addOp_any wx w3.heap.size w3.heap.size A1 A2 A3 A4 n1 n2 n3 n4 c1 c2 c3 c4 N1 D1 N2 D2 ⟨⟨_, _, _, rfl, (a1.keep hB).keep hx⟩, l1⟩ ⟨⟨_, _, _, rfl, (a2.keep hB).keep hx⟩, l2⟩ ⟨⟨_, _, _, rfl, (a3.keep hB).keep hx⟩, l3⟩ ⟨⟨_, _, _, rfl, (a4.keep hB).keep hx⟩, l4⟩ p1 p2 _ _ (hv4.keep hx (by omega)) (Nat.le_refl _) (by have := hx.size; omega)).mono
      fun e w' ⟨v1, v2, he, o1, o2, hv, hb⟩ => ⟨he, v1, v2, o1.low hx.size, o2.low hx.size, hv, (hx.mono (by omega)).trans hb⟩)
  have hs3' : w3.heap.size = w.heap.size + 1 + 1 + 1 := hs3
  have hs2' : w2.heap.size = w.heap.size + 1 + 1 := hs2
  rw [hs3'] at HO
  rw [hs2'] at hv3
  have hv3' := hv3.keep hb4 (by omega)
  have HH := Lib.hid HO
  have H2 := Lib.hid hw2
  have H3 := Lib.hid hw3
  have H4 := Lib.hid hw4
  clear HO hw2 hw3 hw4 a1 a2 a3 a4 F1 F2 g1 g2 p1 p2 l1 l2 l3 l4
  go_enter Try.func32, Try.ntmps32
  go_wp2_with fail
  rw [← H2.out, ← H3.out, ← H4.out]
  refine HH.out.mono ?_
  rintro e w5 ⟨rfl, v1, v2, o1, o2, hv, hb⟩
  obtain ⟨B1, m1, k1, rfl, o1⟩ := o1
  obtain ⟨B2, m2, k2, rfl, o2⟩ := o2
  have hv5 := hv3'.keep hb (by omega)
  have hbw : Below w.heap.size w w5 := hB.trans (hb.mono (by omega))
  have hlt : w.heap.size + 1 + 1 < w4.heap.size := by omega
  have q1 := (⟨B1, m1, k1, rfl, o1⟩ : Own w4.heap.size w5 (.slice B1 m1 k1) _)
  have q2 := (⟨B2, m2, k2, rfl, o2⟩ : Own w4.heap.size w5 (.slice B2 m2 k2) _)
  have P1 := ((Own.set (Own.set q1 (a := ⟨w.heap.size + 1 + 1, 0, none⟩) hlt (.slice B1 m1 k1)) (a := ⟨w.heap.size + 1 + 1, 1, none⟩) hlt (.slice B2 m2 k2)).low (B' := w.heap.size) (by omega))
  have P2 := ((Own.set (Own.set q2 (a := ⟨w.heap.size + 1 + 1, 0, none⟩) hlt (.slice B1 m1 k1)) (a := ⟨w.heap.size + 1 + 1, 1, none⟩) hlt (.slice B2 m2 k2)).low (B' := w.heap.size) (by omega))
  have P3 := (hbw.setCell (p := ⟨w.heap.size + 1 + 1, 0, none⟩) (by show w.heap.size ≤ w.heap.size + 1 + 1; omega) (.slice B1 m1 k1)).setCell (p := ⟨w.heap.size + 1 + 1, 1, none⟩) (by show w.heap.size ≤ w.heap.size + 1 + 1; omega) (.slice B2 m2 k2)
  have V1 := hv5.stored (.slice B1 m1 k1) (.slice B2 m2 k2)
  obtain ⟨r0, r1, _, _⟩ := hv
  obtain ⟨t0, t1, f0, f1⟩ := hv5
  obtain ⟨wf, hwf⟩ : ∃ wf, wf = (w5.setCell ⟨w.heap.size + 1 + 1, 0, none⟩ (.slice B1 m1 k1)).setCell ⟨w.heap.size + 1 + 1, 1, none⟩ (.slice B2 m2 k2) := ⟨_, rfl⟩
  rw [← hwf] at P1 P2 P3 V1
  have HF := Lib.hid hwf
  have HV := Lib.hid V1
  have HP : Hid (Pair w wf (.slice B1 m1 k1) (.slice B2 m2 k2) _ _) := Lib.hid ⟨P1, P2, P3⟩
  clear hwf V1 P1 P2 P3 q1 q2 o1 o2
  go_wp2
  rw [← HF.out]
  obtain ⟨q0, q1, _, _⟩ := HV.out
  refine bodyPost_ret (by simp [results, Try.results32, q0, q1, go_sem]; rfl) rfl ?_
  exact ⟨_, _, rfl, HP.out⟩

set_option maxRecDepth 100000 in
set_option maxHeartbeats 1000000 in
theorem cmpFr_v (w : World) (s1 s2 s3 s4 : Value) (N1 D1 N2 D2 : Nat) (h : Fr w s1 s2 N1 D1) (k : Fr w s3 s4 N2 D2) :
    Calls Try.prog 35 #[.agg #[s1, s2], .agg #[s3, s4]] w fun e w' => e = .returned (.tuple #[.int .i64 (ordv (N1 * D2) (N2 * D1)), .int .i64 0]) ∧ Below w.heap.size w w' := by
  obtain ⟨⟨⟨A1, n1, c1, rfl, a1⟩, l1⟩, ⟨⟨A2, n2, c2, rfl, a2⟩, l2⟩, g1, p1⟩ := h
  obtain ⟨⟨⟨A3, n3, c3, rfl, a3⟩, l3⟩, ⟨⟨A4, n4, c4, rfl, a4⟩, l4⟩, g2, p2⟩ := k
  have F1 := frOk_digs l1 l2 g1 p1
  have F2 := frOk_digs l3 l4 g2 p2
  obtain ⟨w2, hw2⟩ : ∃ w2, w2 = (w.alloc (.cells #[.slice A1 n1 c1, .slice A2 n2 c2] 38)).alloc (.cells #[.slice A3 n3 c3, .slice A4 n4 c4] 38) := ⟨_, rfl⟩
  have hb2 : Below w.heap.size w w2 := by rw [hw2]; exact ((Below.refl _ _).alloc (Nat.le_refl _) _).alloc (by simp) _
  have hs2 : w2.heap.size = w.heap.size + 2 := by rw [hw2]; simp
  obtain ⟨w4, hw4⟩ : ∃ w4, w4 = w2.alloc (.cells #[.int .i64 0] 3) := ⟨_, rfl⟩
  have hb4 : Below w2.heap.size w2 w4 := by rw [hw4]; exact below_alloc _ _
  have hs4 : w4.heap.size = w.heap.size + 3 := by rw [hw4]; simp [hs2]
  have hc4 : w4.cell? ⟨w2.heap.size, 0, none⟩ = some (.int .i64 0) := by rw [hw4, World.cell?_alloc_at (hn := by simp)]; rfl
  have hf4 : w4.frozen? ⟨w2.heap.size, 0, none⟩ = false := by rw [hw4]; exact World.frozen?_alloc_new ..
  have hB : Below w.heap.size w w4 := hb2.trans (hb4.mono (by omega))
  have HO := operate_84 w4 A1 A2 A3 A4 n1 n2 n3 n4 c1 c2 c3 c4 _ _ _ _ (a1.keep hB) (a2.keep hB) (a3.keep hB) (a4.keep hB) F1 F2 (.pointer (some ⟨w2.heap.size, 0, none⟩)) 0
    (fun w' => w'.cell? ⟨w2.heap.size, 0, none⟩ = some (.int .i64 (ordv (N1 * D2) (N2 * D1))) ∧ Below w2.heap.size w4 w')
    (fun wx hx => (cmpOp_any wx w2.heap.size w2.heap.size A1 A2 A3 A4 n1 n2 n3 n4 c1 c2 c3 c4 N1 D1 N2 D2 ⟨⟨_, _, _, rfl, (a1.keep hB).keep hx⟩, l1⟩ ⟨⟨_, _, _, rfl, (a2.keep hB).keep hx⟩, l2⟩ ⟨⟨_, _, _, rfl, (a3.keep hB).keep hx⟩, l3⟩ ⟨⟨_, _, _, rfl, (a4.keep hB).keep hx⟩, l4⟩ _ ((hx.cell (p := ⟨w2.heap.size, 0, none⟩) (by show w2.heap.size < _; omega)).trans hc4) ((hx.frozen (p := ⟨w2.heap.size, 0, none⟩) (by show w2.heap.size < _; omega)).trans hf4) (Nat.le_refl _) (by have := hx.size; omega)).mono
      fun e w' ⟨he, hc, hb⟩ => ⟨he, hc, (hx.mono (by omega)).trans hb⟩)
  have hs2' : w2.heap.size = w.heap.size + 1 + 1 := hs2
  rw [hs2'] at HO
  have HH := Lib.hid HO
  have H2 := Lib.hid hw2
  have H4 := Lib.hid hw4
  clear HO hw2 hw4 a1 a2 a3 a4 F1 F2 g1 g2 p1 p2 l1 l2 l3 l4 hc4 hf4
  go_enter Try.func35, Try.ntmps35
  go_wp2_with fail
  rw [← H2.out, ← H4.out]
  refine HH.out.mono ?_
  rintro e w5 ⟨rfl, hc, hb⟩
  have hbw : Below w.heap.size w w5 := hB.trans (hb.mono (by omega))
  go_wp2
  go_ret2
  exact ⟨rfl, hbw⟩

end Go.Proofs.Ythplhlcdlnedfaa

namespace Go.Proofs.Ythplhlcdlnedfaa
open MN

theorem co_of (a b : Nat) (hb : b ≠ 0) : Nat.gcd (a / Nat.gcd a b) (b / Nat.gcd a b) = 1 ∧ b / Nat.gcd a b ≠ 0 ∧ a = Nat.gcd a b * (a / Nat.gcd a b) ∧ b = Nat.gcd a b * (b / Nat.gcd a b) ∧ Nat.gcd a b ≠ 0 := by
  have hg : Nat.gcd a b ≠ 0 := fun e => hb (Nat.eq_zero_of_gcd_eq_zero_right e)
  have d1 := Nat.gcd_dvd_left a b
  have d2 := Nat.gcd_dvd_right a b
  have h := Nat.gcd_mul_left (Nat.gcd a b) (a / Nat.gcd a b) (b / Nat.gcd a b)
  rw [Nat.mul_div_cancel' d1, Nat.mul_div_cancel' d2] at h
  refine ⟨Nat.eq_of_mul_eq_mul_left (Nat.pos_of_ne_zero hg) (by rw [Nat.mul_one]; exact h.symm), fun e => ?_, (Nat.mul_div_cancel' d1).symm, (Nat.mul_div_cancel' d2).symm, hg⟩
  have := Nat.mul_div_cancel' d2
  rw [e] at this
  exact hb (by omega)

/-- Reducing does not depend on a common factor. -/
theorem red_scale (k a b : Nat) (hk : k ≠ 0) : k * a / Nat.gcd (k * a) (k * b) = a / Nat.gcd a b ∧ k * b / Nat.gcd (k * a) (k * b) = b / Nat.gcd a b := by
  rw [Nat.gcd_mul_left]
  exact ⟨Nat.mul_div_mul_left _ _ (Nat.pos_of_ne_zero hk), Nat.mul_div_mul_left _ _ (Nat.pos_of_ne_zero hk)⟩

theorem ordv_scale (k a b : Nat) (hk : k ≠ 0) : ordv (k * a) (k * b) = ordv a b := by
  have hp := Nat.pos_of_ne_zero hk
  unfold ordv
  have e1 : k * a < k * b ↔ a < b := Nat.mul_lt_mul_left hp
  have e2 : k * b < k * a ↔ b < a := Nat.mul_lt_mul_left hp
  by_cases h1 : a < b
  · rw [if_pos h1, if_pos (e1.2 h1)]
  · rw [if_neg h1, if_neg (fun e => h1 (e1.1 e))]
    by_cases h2 : b < a
    · rw [if_pos h2, if_pos (e2.2 h2)]
    · rw [if_neg h2, if_neg (fun e => h2 (e2.1 e))]

/-- Fractions without common divisors are the same exactly if their cross products are. -/
theorem fr_eq (n1 d1 n2 d2 : Nat) (g1 : Nat.gcd n1 d1 = 1) (g2 : Nat.gcd n2 d2 = 1) (h1 : d1 ≠ 0) (_h2 : d2 ≠ 0) : n1 * d2 = n2 * d1 ↔ n1 = n2 ∧ d1 = d2 := by
  constructor
  · intro e
    have c1 : d1 ∣ n1 * d2 := ⟨n2, by rw [e, Nat.mul_comm]⟩
    have c2 : d2 ∣ n2 * d1 := ⟨n1, by rw [← e, Nat.mul_comm]⟩
    have k1 : d1 ∣ d2 := Nat.Coprime.dvd_of_dvd_mul_left (by rw [Nat.Coprime, Nat.gcd_comm]; exact g1) c1
    have k2 : d2 ∣ d1 := Nat.Coprime.dvd_of_dvd_mul_left (by rw [Nat.Coprime, Nat.gcd_comm]; exact g2) c2
    have hd : d1 = d2 := Nat.dvd_antisymm k1 k2
    subst hd
    exact ⟨Nat.eq_of_mul_eq_mul_right (Nat.pos_of_ne_zero h1) e, rfl⟩
  · rintro ⟨rfl, rfl⟩; rfl

theorem ordv_zero (a b : Nat) : ordv a b = 0 ↔ a = b := by
  unfold ordv
  by_cases h1 : a < b
  · rw [if_pos h1]; constructor <;> intro h <;> omega
  · rw [if_neg h1]
    by_cases h2 : b < a
    · rw [if_pos h2]; constructor <;> intro h <;> omega
    · rw [if_neg h2]; constructor <;> intro h <;> omega
end Go.Proofs.Ythplhlcdlnedfaa

namespace Go.Proofs.Ythplhlcdlnedfaa
open Go.RowKit MN

/-- A fraction of two numbers in slices, and an error 0. -/
def RetF (w : World) (N D : Nat) (e : Ending) (w' : World) : Prop := ∃ A1 n1 c1 A2 n2 c2, e = .returned (.tuple #[.agg #[.slice A1 n1 c1, .slice A2 n2 c2], .int .i64 0]) ∧ Nm w' (.slice A1 n1 c1) N ∧ Nm w' (.slice A2 n2 c2) D ∧ Below w.heap.size w w'

theorem retF_of {w w' : World} {e : Ending} {X Y : Nat} (hX : X < 4294967296 ^ 16) (hY : Y < 4294967296 ^ 16) (h : FrRes w (redC X Y) (redN X Y) (redD X Y) e w') : RetF w (X / Nat.gcd X Y) (Y / Nat.gcd X Y) e w' := by
  have hr : ¬ redBig X Y := fun e => e.elim (fun e => sm_big (Nat.lt_of_le_of_lt (Nat.div_le_self _ _) hX) e) (fun e => sm_big (Nat.lt_of_le_of_lt (Nat.div_le_self _ _) hY) e)
  rw [show redC X Y = 0 from if_neg hr, show redN X Y = X / Nat.gcd X Y from if_neg hr, show redD X Y = Y / Nat.gcd X Y from if_neg hr] at h
  obtain ⟨v1, v2, rfl, P1, P2, hb⟩ := h
  have m1 := P1.nm (Nat.lt_of_le_of_lt (Nat.div_le_self _ _) hX)
  have m2 := P2.nm (Nat.lt_of_le_of_lt (Nat.div_le_self _ _) hY)
  obtain ⟨A1, n1, c1, rfl, _⟩ := P1
  obtain ⟨A2, n2, c2, rfl, _⟩ := P2
  exact ⟨A1, n1, c1, A2, n2, c2, rfl, m1, m2, hb⟩

theorem ratio_v {w : World} {v1 v2 : Value} {X Y : Nat} (h : Nm w v1 X) (k : Nm w v2 Y) (hY : Y ≠ 0) : Calls Try.prog 31 #[v1, v2] w (RetF w (X / Nat.gcd X Y) (Y / Nat.gcd X Y)) := by
  have l1 := h.2
  have l2 := k.2
  obtain ⟨⟨A1, n1, c1, rfl, a1⟩, hX⟩ := h
  obtain ⟨⟨A2, n2, c2, rfl, a2⟩, hY'⟩ := k
  have H := ratio_any A1 n1 c1 _ A2 n2 c2 _ w a1 a2
  rw [okC_yes (sm_vd hX) (sm_vd hY'), okN_yes (sm_vd hX) (sm_vd hY'), okN_yes (sm_vd hX) (sm_vd hY'), nv_digs, nv_digs, show ratC X Y = redC X Y from if_neg hY, show ratN X Y = redN X Y from if_neg hY, show ratD X Y = redD X Y from if_neg hY] at H
  exact H.mono fun _ _ => retF_of l1 l2

theorem checkFr_v {w : World} {v1 v2 : Value} {N D : Nat} (h : Fr w v1 v2 N D) : Calls Try.prog 57 #[.agg #[v1, v2]] w fun e w' => e = .returned (.int .i64 0) ∧ Below w.heap.size w w' := by
  obtain ⟨⟨⟨A1, n1, c1, rfl, a1⟩, l1⟩, ⟨⟨A2, n2, c2, rfl, a2⟩, l2⟩, g1, p1⟩ := h
  have H := checkFraction_any A1 n1 c1 _ A2 n2 c2 _ w a1 a2
  rw [show frC _ _ = 0 from if_pos (frOk_digs l1 l2 g1 p1)] at H
  exact H

theorem addFr_w {w : World} {s1 s2 s3 s4 : Value} {N1 D1 N2 D2 : Nat} (h : Fr w s1 s2 N1 D1) (k : Fr w s3 s4 N2 D2) (hX : N1 * D2 + N2 * D1 < 4294967296 ^ 16) (hY : D1 * D2 < 4294967296 ^ 16) :
    Calls Try.prog 32 #[.agg #[s1, s2], .agg #[s3, s4]] w (RetF w ((N1 * D2 + N2 * D1) / Nat.gcd (N1 * D2 + N2 * D1) (D1 * D2)) (D1 * D2 / Nat.gcd (N1 * D2 + N2 * D1) (D1 * D2))) :=
  (addFr_v w s1 s2 s3 s4 N1 D1 N2 D2 h k).mono fun _ _ => retF_of hX hY
theorem mulFr_w {w : World} {s1 s2 s3 s4 : Value} {N1 D1 N2 D2 : Nat} (h : Fr w s1 s2 N1 D1) (k : Fr w s3 s4 N2 D2) (hX : N1 * N2 < 4294967296 ^ 16) (hY : D1 * D2 < 4294967296 ^ 16) :
    Calls Try.prog 34 #[.agg #[s1, s2], .agg #[s3, s4]] w (RetF w (N1 * N2 / Nat.gcd (N1 * N2) (D1 * D2)) (D1 * D2 / Nat.gcd (N1 * N2) (D1 * D2))) :=
  (mulFr_v w s1 s2 s3 s4 N1 D1 N2 D2 h k).mono fun _ _ => retF_of hX hY

theorem sameFr_yes {w : World} {v1 v2 v3 v4 : Value} {X Y Z U : Nat} (h1 : Nm w v1 X) (h2 : Nm w v2 Y) (h3 : Nm w v3 Z) (h4 : Nm w v4 U) (e1 : X = Z) (e2 : Y = U) :
    Calls Try.prog 36 #[.agg #[v1, v2], .agg #[v3, v4]] w fun e w' => e = .returned (.bool true) ∧ Below w.heap.size w w' := by
  subst e1 e2
  obtain ⟨⟨A1, n1, c1, rfl, a1⟩, l1⟩ := h1
  obtain ⟨⟨A2, n2, c2, rfl, a2⟩, l2⟩ := h2
  obtain ⟨⟨A3, n3, c3, rfl, a3⟩, l3⟩ := h3
  obtain ⟨⟨A4, n4, c4, rfl, a4⟩, l4⟩ := h4
  have H := sameFraction_any A1 A2 A3 A4 n1 c1 n2 c2 n3 c3 n4 c4 _ _ _ _ w a1.rd a2.rd a3.rd a4.rd
  rw [sB_yes rfl, sB_yes rfl] at H
  exact H
theorem sameFr_not {w : World} {v1 v2 v3 v4 : Value} {X Y Z U : Nat} (h1 : Nm w v1 X) (h2 : Nm w v2 Y) (h3 : Nm w v3 Z) (h4 : Nm w v4 U) (e : ¬ (X = Z ∧ Y = U)) :
    Calls Try.prog 36 #[.agg #[v1, v2], .agg #[v3, v4]] w fun e w' => e = .returned (.bool false) ∧ Below w.heap.size w w' := by
  obtain ⟨⟨A1, n1, c1, rfl, a1⟩, l1⟩ := h1
  obtain ⟨⟨A2, n2, c2, rfl, a2⟩, l2⟩ := h2
  obtain ⟨⟨A3, n3, c3, rfl, a3⟩, l3⟩ := h3
  obtain ⟨⟨A4, n4, c4, rfl, a4⟩, l4⟩ := h4
  have H := sameFraction_any A1 A2 A3 A4 n1 c1 n2 c2 n3 c3 n4 c4 _ _ _ _ w a1.rd a2.rd a3.rd a4.rd
  rw [sB_nm, sB_nm, show (decide (X = Z) && decide (Y = U)) = false by
    by_cases k : X = Z
    · have : ¬ Y = U := fun k2 => e ⟨k, k2⟩
      simp [this]
    · simp [k]] at H
  exact H

/-- A variable of two cells in a world, and that it is there. -/
def VarAt (w : World) (B : Nat) (u v : Value) : Prop := Var2 w B u v ∧ B < w.heap.size
theorem VarAt.keep {w w' : World} {B : Nat} {u v : Value} (h : VarAt w B u v) (hb : Below w.heap.size w w') : VarAt w' B u v := ⟨h.1.keep hb h.2, Nat.lt_of_lt_of_le h.2 hb.size⟩
theorem varAt_new (w : World) (u v : Value) : VarAt (w.alloc (.cells #[u, v] 38)) w.heap.size u v := ⟨var2_new _ _ _ _, by simp⟩
end Go.Proofs.Ythplhlcdlnedfaa
