/-
  The chapter's examples, part A: the calls at small numbers.
-/
import Derived.Test.YthplhlcdlnedfaaFraC
import Derived.Test.YthplhlcdlnedfaaTxtF
import Derived.Test.YthplhlcdlnedfaaGrpC
namespace Go.Proofs.Ythplhlcdlnedfaa
open Go.RowKit MN

theorem sm_vd {N : Nat} (h : N < 4294967296 ^ 16) : Vd (digs 4294967296 N) := ⟨digs_len (by omega) _ _ h, digs_top _ _ (by omega)⟩
theorem sm_big {N : Nat} (h : N < 4294967296 ^ 16) : ¬ Big N := by
  unfold Big
  have := digs_len (B := 4294967296) (by omega) _ _ h
  omega
theorem sm_fitC {N : Nat} (h : N < 4294967296 ^ 16) : fitC N = 0 := if_neg (sm_big h)
theorem sm_fitN {N : Nat} (h : N < 4294967296 ^ 16) : fitN N = N := if_neg (sm_big h)
theorem nv_digs (N : Nat) : nv (digs 4294967296 N) = N := digs_val _ _ (by omega)

/-- A value that is a number's slice, and an error. -/
def Val1 (w : World) (N : Nat) (e : Ending) (w' : World) : Prop := ∃ v, e = .returned (.tuple #[v, .int .i64 0]) ∧ Own w.heap.size w' v N ∧ Below w.heap.size w w'

theorem val1_of {w : World} {N : Nat} {e : Ending} {w' : World} (h : Res w 0 N e w') : Val1 w N e w' := by
  obtain ⟨A, m, c, rfl, ho, hb⟩ := h
  exact ⟨_, rfl, ⟨A, m, c, rfl, ho⟩, hb⟩

theorem Own.arg {B : Nat} {w : World} {v : Value} {N : Nat} (h : Own B w v N) : ∃ A n c, v = .slice A n c ∧ Arg w A n c (digs 4294967296 N) := by
  obtain ⟨A, n, c, rfl, h⟩ := h
  exact ⟨A, n, c, rfl, (own_num h).1⟩

theorem add_n {B : Nat} {w : World} {v1 v2 : Value} {X Y : Nat} (h : Own B w v1 X) (k : Own B w v2 Y) (hX : X < 4294967296 ^ 16) (hY : Y < 4294967296 ^ 16) (hZ : X + Y < 4294967296 ^ 16) :
    Calls Try.prog 21 #[v1, v2] w (Val1 w (X + Y)) := by
  obtain ⟨A1, n1, c1, rfl, a1⟩ := h.arg
  obtain ⟨A2, n2, c2, rfl, a2⟩ := k.arg
  have H := add_any A1 n1 c1 _ A2 n2 c2 _ w a1 a2
  rw [okC_yes (sm_vd hX) (sm_vd hY), okN_yes (sm_vd hX) (sm_vd hY), nv_digs, nv_digs, sm_fitC hZ, sm_fitN hZ] at H
  exact H.mono fun _ _ => val1_of

theorem mul_n {B : Nat} {w : World} {v1 v2 : Value} {X Y : Nat} (h : Own B w v1 X) (k : Own B w v2 Y) (hX : X < 4294967296 ^ 16) (hY : Y < 4294967296 ^ 16) (hZ : X * Y < 4294967296 ^ 16) :
    Calls Try.prog 23 #[v1, v2] w (Val1 w (X * Y)) := by
  obtain ⟨A1, n1, c1, rfl, a1⟩ := h.arg
  obtain ⟨A2, n2, c2, rfl, a2⟩ := k.arg
  have H := mul_any A1 n1 c1 _ A2 n2 c2 _ w a1 a2
  rw [okC_yes (sm_vd hX) (sm_vd hY), okN_yes (sm_vd hX) (sm_vd hY), nv_digs, nv_digs, sm_fitC hZ, sm_fitN hZ] at H
  exact H.mono fun _ _ => val1_of

theorem gcd_n {B : Nat} {w : World} {v1 v2 : Value} {X Y : Nat} (h : Own B w v1 X) (k : Own B w v2 Y) (hX : X < 4294967296 ^ 16) (hY : Y < 4294967296 ^ 16) :
    Calls Try.prog 29 #[v1, v2] w (Val1 w (Nat.gcd X Y)) := by
  obtain ⟨A1, n1, c1, rfl, a1⟩ := h.arg
  obtain ⟨A2, n2, c2, rfl, a2⟩ := k.arg
  have H := gcd_any A1 n1 c1 _ A2 n2 c2 _ w a1 a2
  rw [okC_yes (sm_vd hX) (sm_vd hY), okN_yes (sm_vd hX) (sm_vd hY), nv_digs, nv_digs] at H
  exact H.mono fun _ _ => val1_of

/-- Two values and an error. -/
def Val2 (w : World) (N M : Nat) (e : Ending) (w' : World) : Prop := ∃ v1 v2, e = .returned (.tuple #[v1, v2, .int .i64 0]) ∧ Own w.heap.size w' v1 N ∧ Own w.heap.size w' v2 M ∧ Below w.heap.size w w'

theorem div_n {B : Nat} {w : World} {v1 v2 : Value} {X Y : Nat} (h : Own B w v1 X) (k : Own B w v2 Y) (hX : X < 4294967296 ^ 16) (hY : Y < 4294967296 ^ 16) (hZ : Y ≠ 0) :
    Calls Try.prog 28 #[v1, v2] w (Val2 w (X / Y) (X % Y)) := by
  obtain ⟨A1, n1, c1, rfl, a1⟩ := h.arg
  obtain ⟨A2, n2, c2, rfl, a2⟩ := k.arg
  have H := div_any A1 n1 c1 _ A2 n2 c2 _ w a1 a2
  rw [okC_yes (sm_vd hX) (sm_vd hY), okN_yes (sm_vd hX) (sm_vd hY), okN_yes (sm_vd hX) (sm_vd hY), nv_digs, nv_digs, show divC Y = 0 from if_neg hZ, if_neg hZ, if_neg hZ] at H
  refine H.mono fun e w' => ?_
  rintro ⟨A, m, c, A', m', c', rfl, o1, o2, hb⟩
  exact ⟨_, _, rfl, ⟨A, m, c, rfl, o1⟩, ⟨A', m', c', rfl, o2⟩, hb⟩

theorem n_val (N : Nat) (z : Int) (w : World) (hz : z = (N : Int)) (h1 : N ≤ 18446744073709551615) : Calls Try.prog 20 #[.int .u64 z] w fun e w' => ∃ v, e = .returned v ∧ Own w.heap.size w' v N ∧ Below w.heap.size w w' := by
  subst hz
  refine (n_any N w h1).mono fun e w' => ?_
  rintro ⟨A, m, c, rfl, ho, hb⟩
  exact ⟨_, rfl, ⟨A, m, c, rfl, ho⟩, hb⟩

theorem of_val (N : Nat) (z : Int) (w : World) (hz : z = (N : Int)) (h1 : N ≤ 18446744073709551615) : Calls Try.prog 27 #[.int .u64 z] w fun e w' => ∃ v, e = .returned v ∧ Own w.heap.size w' v N ∧ Below w.heap.size w w' := by
  subst hz
  refine (of_any (N : Int) w (by omega) (by omega)).mono fun e w' => ?_
  rintro ⟨A, m, c, rfl, ho, hb⟩
  exact ⟨_, rfl, ⟨A, m, c, rfl, ho⟩, hb⟩

theorem ratio_n {B : Nat} {w : World} {v1 v2 : Value} {X Y : Nat} (h : Own B w v1 X) (k : Own B w v2 Y) (hX : X < 4294967296 ^ 16) (hY : Y < 4294967296 ^ 16) (hZ : Y ≠ 0) :
    Calls Try.prog 31 #[v1, v2] w fun e w' => ∃ u1 u2, e = .returned (.tuple #[.agg #[u1, u2], .int .i64 0]) ∧ Own w.heap.size w' u1 (X / Nat.gcd X Y) ∧ Own w.heap.size w' u2 (Y / Nat.gcd X Y) ∧ Below w.heap.size w w' := by
  obtain ⟨A1, n1, c1, rfl, a1⟩ := h.arg
  obtain ⟨A2, n2, c2, rfl, a2⟩ := k.arg
  have H := ratio_any A1 n1 c1 _ A2 n2 c2 _ w a1 a2
  have hr : ¬ redBig X Y := fun e => e.elim (fun e => sm_big (Nat.lt_of_le_of_lt (Nat.div_le_self _ _) hX) e) (fun e => sm_big (Nat.lt_of_le_of_lt (Nat.div_le_self _ _) hY) e)
  rw [okC_yes (sm_vd hX) (sm_vd hY), okN_yes (sm_vd hX) (sm_vd hY), okN_yes (sm_vd hX) (sm_vd hY), nv_digs, nv_digs, show ratC X Y = redC X Y from if_neg hZ, show ratN X Y = redN X Y from if_neg hZ, show ratD X Y = redD X Y from if_neg hZ, show redC X Y = 0 from if_neg hr, show redN X Y = X / Nat.gcd X Y from if_neg hr, show redD X Y = Y / Nat.gcd X Y from if_neg hr] at H
  refine H.mono fun e w' => ?_
  rintro ⟨u1, u2, rfl, P⟩
  exact ⟨_, _, rfl, P.one, P.two, P.below⟩

theorem fraction_val (X Y : Nat) (z1 z2 : Int) (w : World) (h1 : z1 = (X : Int)) (h2 : z2 = (Y : Int)) (hX : X ≤ 18446744073709551615) (hY : Y ≤ 18446744073709551615) :
    Calls Try.prog 33 #[.int .u64 z1, .int .u64 z2] w fun e w' => ∃ u1 u2, e = .returned (.agg #[u1, u2]) ∧ Own w.heap.size w' u1 X ∧ Own w.heap.size w' u2 Y ∧ Below w.heap.size w w' := by
  subst h1 h2
  refine (fraction_any X Y w hX hY).mono fun e w' => ?_
  rintro ⟨u1, u2, rfl, P⟩
  exact ⟨_, _, rfl, P.one, P.two, P.below⟩

theorem same_n {B1 B2 : Nat} {w : World} {v1 v2 v3 v4 : Value} {X Y Z U : Nat} (h1 : Own B1 w v1 X) (h2 : Own B1 w v2 Y) (h3 : Own B2 w v3 Z) (h4 : Own B2 w v4 U) :
    Calls Try.prog 36 #[.agg #[v1, v2], .agg #[v3, v4]] w fun e w' => e = .returned (.bool (sB (digs 4294967296 X) (digs 4294967296 Z) && sB (digs 4294967296 Y) (digs 4294967296 U))) ∧ Below w.heap.size w w' := by
  obtain ⟨A1, n1, c1, rfl, a1⟩ := h1.arg
  obtain ⟨A2, n2, c2, rfl, a2⟩ := h2.arg
  obtain ⟨A3, n3, c3, rfl, a3⟩ := h3.arg
  obtain ⟨A4, n4, c4, rfl, a4⟩ := h4.arg
  exact sameFraction_any A1 A2 A3 A4 n1 c1 n2 c2 n3 c3 n4 c4 _ _ _ _ w a1.rd a2.rd a3.rd a4.rd

/-- is, of a number and digits that are written out. -/
theorem is_n {B : Nat} {w : World} {v : Value} {N : Nat} (h : Own B w v N) (code : Int) (ds : List Nat) (ar : Array Value) (har : ar = (vs32 ds).toArray) (k : Nat) (hk : ds.length = k) (hk2 : k ≤ 16) :
    Calls Try.prog 25 #[v, .int .i64 code, .slice (some ⟨w.heap.size, 0, none⟩) k k] (w.alloc (.cells ar 24)) fun e w' => e = .returned (.bool (isB code (digs 4294967296 N) ds)) ∧ Below w.heap.size w w' := by
  subst har
  obtain ⟨A, n, c, rfl, a⟩ := h.arg
  have hb := below_alloc w (.cells (vs32 ds).toArray 24)
  have hr : Rd .u32 (w.alloc (.cells (vs32 ds).toArray 24)) (some ⟨w.heap.size, 0, none⟩) k k ds := ⟨hk, Nat.le_refl _, by simp [maxLen]; omega, fun _ => ⟨w.heap.size, 0, rfl, fun i hi => by
    rw [World.cell?_alloc_at (hn := by simp), dg_get ds i (by omega)]
    simp [vs32, List.getElem?_eq_getElem (show i < ds.length by omega)]⟩⟩
  refine (is_any A _ n c k k code _ ds _ (a.rd.keep hb) hr).mono fun e w' => ?_
  rintro ⟨rfl, hd⟩
  exact ⟨rfl, hb.trans (hd.below.mono (by simp))⟩

theorem text_n {B : Nat} {w : World} {v : Value} {N : Nat} (h : Own B w v N) (hN : N < 4294967296 ^ 16) :
    Calls Try.prog 52 #[v] w fun e w' => e = .returned (.tuple #[.string (txtS N), .int .i64 0]) ∧ Below w.heap.size w w' := by
  obtain ⟨A, n, c, rfl, a⟩ := h.arg
  have H := text_any A n c _ w a
  rw [ck_yes (sm_vd hN), show texS (digs 4294967296 N) = txtS (nv (digs 4294967296 N)) from if_pos (sm_vd hN), nv_digs] at H
  exact H

theorem parse_n (s : ByteArray) (w : World) (N : Nat) (hs : s.size ≤ maxLen) (hd : IsDec (bs s)) (hv : dvk (bs s) s.size = N) (hN : N < 4294967296 ^ 16) :
    Calls Try.prog 30 #[.string s] w (Val1 w N) := by
  have H := parse_any s w hs
  rw [show parC s = fitC N by unfold parC; rw [if_pos (decB_yes hd), hv], show parN s = fitN N by unfold parN; rw [if_pos (decB_yes hd), hv], sm_fitC hN, sm_fitN hN] at H
  exact H.mono fun _ _ => val1_of
end Go.Proofs.Ythplhlcdlnedfaa
