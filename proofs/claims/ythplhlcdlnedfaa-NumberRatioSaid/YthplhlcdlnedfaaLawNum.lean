/-
  What the laws over numbers share: the numbers that came in, the calls at them.
-/
import Derived.Test.YthplhlcdlnedfaaLawBase
import Derived.OpenShut
namespace Go.Proofs.Ythplhlcdlnedfaa
open Go.RowKit MN

/-- What a law is told of a slice of integers that came in: nil, or a row of cells. -/
def IsRow (k : IntKind) (w : World) (a : Option Addr) (len cap : Nat) (zs : List Int) : Prop :=
  (a = none ∧ len = 0 ∧ cap = 0 ∧ zs = []) ∨
  ∃ x, a = some x ∧ len ≤ cap ∧ cap ≤ maxLen ∧ zs.length = cap ∧ (∀ i, i < zs.length → w.cell? (x.add i) = some (.int k (zs.getD i 0))) ∧ ∀ n ∈ zs, (Lit.int k n).wf = true

theorem spot_none {w : World} {a : Addr} {v : Value} (h : w.cell? a = some v) : a.spot = none := by
  unfold World.cell? at h
  split at h
  · split at h
    · cases h
    · rename_i hs; simpa using hs
  · cases h

theorem arg_of {w : World} {a : Option Addr} {n c : Nat} {zs : List Int} (h : IsRow .u32 w a n c zs) : ∃ xs, Arg w a n c xs := by
  rcases h with ⟨rfl, rfl, rfl, rfl⟩ | ⟨x, rfl, hl, hm, hz, hc, hw⟩
  · exact ⟨[], Rd.nil _ _, low_nil _⟩
  · have hb : ∀ z ∈ zs, 0 ≤ z ∧ z ≤ 4294967295 := fun z hz => bounds_u32 (hw z hz)
    refine ⟨(zs.take n).map Int.toNat, ⟨by simp; omega, hl, hm, fun hn => ?_⟩, ?_⟩
    · have h0 := hc 0 (by omega)
      have hs : x.spot = none := by simpa [Addr.add] using spot_none h0
      refine ⟨x.block, x.off, by cases x; simp_all, fun i hi => ?_⟩
      have h1 := hc i (by omega)
      have e1 : x.add i = ⟨x.block, x.off + i, none⟩ := by
        cases x; cases i <;> simp_all [Addr.add]
      rw [e1] at h1
      rw [h1, dg_get _ i (by simp; omega)]
      have hi' : i < zs.length := by omega
      have hnn := (hb (zs[i]) (List.getElem_mem hi')).1
      simp [List.getD_eq_getElem?_getD, List.getElem?_eq_getElem hi']
      omega
    · intro d hd
      simp only [List.mem_map] at hd
      obtain ⟨z, hz, rfl⟩ := hd
      have := hb z (List.mem_of_mem_take hz)
      omega

/-- A slice that holds a valid number. -/
def Nm (w : World) (v : Value) (N : Nat) : Prop := (∃ A n c, v = .slice A n c ∧ Arg w A n c (digs 4294967296 N)) ∧ N < 4294967296 ^ 16

theorem Nm.keep {w w' : World} {v : Value} {N : Nat} (h : Nm w v N) (hb : Below w.heap.size w w') : Nm w' v N := by
  obtain ⟨⟨A, n, c, rfl, a⟩, hN⟩ := h
  exact ⟨⟨A, n, c, rfl, a.keep hb⟩, hN⟩
theorem Own.nm {B : Nat} {w : World} {v : Value} {N : Nat} (h : Own B w v N) (hN : N < 4294967296 ^ 16) : Nm w v N := ⟨h.arg, hN⟩

theorem vd_lt {xs : List Nat} (h : Vd xs) (hl : Low 4294967296 xs) : nv xs < 4294967296 ^ 16 :=
  Nat.lt_of_lt_of_le (val_lt xs hl) (Nat.pow_le_pow_right (by omega) h.1)
theorem vd_digs {xs : List Nat} (h : Vd xs) (hl : Low 4294967296 xs) : digs 4294967296 (nv xs) = xs := ex_digs _ xs hl h.2 rfl
theorem Arg.nm {w : World} {A : Option Addr} {n c : Nat} {xs : List Nat} (h : Arg w A n c xs) (hv : Vd xs) : Nm w (.slice A n c) (nv xs) :=
  ⟨⟨A, n, c, rfl, by rw [vd_digs hv h.low]; exact h⟩, vd_lt hv h.low⟩

theorem big_ge {N : Nat} (h : 4294967296 ^ 16 ≤ N) : Big N := by
  unfold Big
  rcases Nat.lt_or_ge 16 (digs 4294967296 N).length with k | k
  · exact k
  · exfalso
    have h1 := val_lt (digs 4294967296 N) (digs_low _ _ (by omega))
    rw [digs_val _ _ (by omega)] at h1
    have h2 := Nat.pow_le_pow_right (n := 4294967296) (by omega) k
    omega
theorem fit_yes {N : Nat} (h : N < 4294967296 ^ 16) : fitC N = 0 ∧ fitN N = N := ⟨sm_fitC h, sm_fitN h⟩
theorem fit_no {N : Nat} (h : ¬ N < 4294967296 ^ 16) : fitC N = 4 ∧ fitN N = 0 := ⟨if_pos (big_ge (by omega)), if_pos (big_ge (by omega))⟩
theorem fitN_lt (N : Nat) : fitN N < 4294967296 ^ 16 := by
  by_cases h : N < 4294967296 ^ 16
  · rw [(fit_yes h).2]; exact h
  · rw [(fit_no h).2]; decide

/-- A number and an error are returned, the number in new memory. -/
def Ret1 (w : World) (code : Int) (N : Nat) (e : Ending) (w' : World) : Prop := ∃ v, e = .returned (.tuple #[v, .int .i64 code]) ∧ Nm w' v N ∧ Below w.heap.size w w'

theorem ret1_of {w : World} {N : Nat} {code : Int} {e : Ending} {w' : World} (h : Res w code N e w') (hN : N < 4294967296 ^ 16) : Ret1 w code N e w' := by
  obtain ⟨A, m, c, rfl, ho, hb⟩ := h
  exact ⟨_, rfl, ⟨⟨A, m, c, rfl, (own_num ho).1⟩, hN⟩, hb⟩

theorem add_v {w : World} {v1 v2 : Value} {X Y : Nat} (h : Nm w v1 X) (k : Nm w v2 Y) : Calls Try.prog 21 #[v1, v2] w (Ret1 w (fitC (X + Y)) (fitN (X + Y))) := by
  obtain ⟨⟨A1, n1, c1, rfl, a1⟩, hX⟩ := h
  obtain ⟨⟨A2, n2, c2, rfl, a2⟩, hY⟩ := k
  have H := add_any A1 n1 c1 _ A2 n2 c2 _ w a1 a2
  rw [okC_yes (sm_vd hX) (sm_vd hY), okN_yes (sm_vd hX) (sm_vd hY), nv_digs, nv_digs] at H
  exact H.mono fun _ _ h => ret1_of h (fitN_lt _)
theorem mul_v {w : World} {v1 v2 : Value} {X Y : Nat} (h : Nm w v1 X) (k : Nm w v2 Y) : Calls Try.prog 23 #[v1, v2] w (Ret1 w (fitC (X * Y)) (fitN (X * Y))) := by
  obtain ⟨⟨A1, n1, c1, rfl, a1⟩, hX⟩ := h
  obtain ⟨⟨A2, n2, c2, rfl, a2⟩, hY⟩ := k
  have H := mul_any A1 n1 c1 _ A2 n2 c2 _ w a1 a2
  rw [okC_yes (sm_vd hX) (sm_vd hY), okN_yes (sm_vd hX) (sm_vd hY), nv_digs, nv_digs] at H
  exact H.mono fun _ _ h => ret1_of h (fitN_lt _)
theorem sub_v {w : World} {v1 v2 : Value} {X Y : Nat} (h : Nm w v1 X) (k : Nm w v2 Y) : Calls Try.prog 19 #[v1, v2] w (Ret1 w (subC X Y) (X - Y)) := by
  obtain ⟨⟨A1, n1, c1, rfl, a1⟩, hX⟩ := h
  obtain ⟨⟨A2, n2, c2, rfl, a2⟩, hY⟩ := k
  have H := sub_any A1 n1 c1 _ A2 n2 c2 _ w a1 a2
  rw [okC_yes (sm_vd hX) (sm_vd hY), okN_yes (sm_vd hX) (sm_vd hY), nv_digs, nv_digs] at H
  exact H.mono fun _ _ h => ret1_of h (Nat.lt_of_le_of_lt (Nat.sub_le _ _) hX)
theorem gcd_v {w : World} {v1 v2 : Value} {X Y : Nat} (h : Nm w v1 X) (k : Nm w v2 Y) : Calls Try.prog 29 #[v1, v2] w (Ret1 w 0 (Nat.gcd X Y)) := by
  obtain ⟨⟨A1, n1, c1, rfl, a1⟩, hX⟩ := h
  obtain ⟨⟨A2, n2, c2, rfl, a2⟩, hY⟩ := k
  have H := gcd_any A1 n1 c1 _ A2 n2 c2 _ w a1 a2
  rw [okC_yes (sm_vd hX) (sm_vd hY), okN_yes (sm_vd hX) (sm_vd hY), nv_digs, nv_digs] at H
  refine H.mono fun _ _ h => ret1_of h ?_
  rcases Nat.eq_zero_or_pos X with rfl | hx
  · rw [Nat.gcd_zero_left]; exact hY
  · exact Nat.lt_of_le_of_lt (Nat.gcd_le_left _ hx) hX
theorem compare_v {w : World} {v1 v2 : Value} {X Y : Nat} (h : Nm w v1 X) (k : Nm w v2 Y) : Calls Try.prog 42 #[v1, v2] w fun e w' => e = .returned (.tuple #[.int .i64 (ordv X Y), .int .i64 0]) ∧ Below w.heap.size w w' := by
  obtain ⟨⟨A1, n1, c1, rfl, a1⟩, hX⟩ := h
  obtain ⟨⟨A2, n2, c2, rfl, a2⟩, hY⟩ := k
  have H := compare_any A1 n1 c1 _ A2 n2 c2 _ w a1 a2
  rw [okC_yes (sm_vd hX) (sm_vd hY), okI_yes (sm_vd hX) (sm_vd hY), nv_digs, nv_digs] at H
  exact H

/-- Two numbers and an error are returned. -/
def Ret2 (w : World) (code : Int) (N M : Nat) (e : Ending) (w' : World) : Prop := ∃ v1 v2, e = .returned (.tuple #[v1, v2, .int .i64 code]) ∧ Nm w' v1 N ∧ Nm w' v2 M ∧ Below w.heap.size w w'
theorem div_v {w : World} {v1 v2 : Value} {X Y : Nat} (h : Nm w v1 X) (k : Nm w v2 Y) (hZ : Y ≠ 0) : Calls Try.prog 28 #[v1, v2] w (Ret2 w 0 (X / Y) (X % Y)) := by
  obtain ⟨⟨A1, n1, c1, rfl, a1⟩, hX⟩ := h
  obtain ⟨⟨A2, n2, c2, rfl, a2⟩, hY⟩ := k
  have H := div_any A1 n1 c1 _ A2 n2 c2 _ w a1 a2
  rw [okC_yes (sm_vd hX) (sm_vd hY), okN_yes (sm_vd hX) (sm_vd hY), okN_yes (sm_vd hX) (sm_vd hY), nv_digs, nv_digs, show divC Y = 0 from if_neg hZ, if_neg hZ, if_neg hZ] at H
  refine H.mono fun e w' => ?_
  rintro ⟨A, m, c, A', m', c', rfl, o1, o2, hb⟩
  exact ⟨_, _, rfl, ⟨⟨A, m, c, rfl, (own_num o1).1⟩, Nat.lt_of_le_of_lt (Nat.div_le_self _ _) hX⟩, ⟨⟨A', m', c', rfl, (own_num o2).1⟩, Nat.lt_of_le_of_lt (Nat.mod_le _ _) hX⟩, hb⟩
theorem div_z {w : World} {v1 v2 : Value} {X Y : Nat} (h : Nm w v1 X) (k : Nm w v2 Y) (hZ : Y = 0) : Calls Try.prog 28 #[v1, v2] w (Ret2 w 10 0 0) := by
  obtain ⟨⟨A1, n1, c1, rfl, a1⟩, hX⟩ := h
  obtain ⟨⟨A2, n2, c2, rfl, a2⟩, hY⟩ := k
  have H := div_any A1 n1 c1 _ A2 n2 c2 _ w a1 a2
  rw [okC_yes (sm_vd hX) (sm_vd hY), okN_yes (sm_vd hX) (sm_vd hY), okN_yes (sm_vd hX) (sm_vd hY), nv_digs, nv_digs, show divC Y = 10 from if_pos hZ, if_pos hZ, if_pos hZ] at H
  refine H.mono fun e w' => ?_
  rintro ⟨A, m, c, A', m', c', rfl, o1, o2, hb⟩
  exact ⟨_, _, rfl, ⟨⟨A, m, c, rfl, (own_num o1).1⟩, by decide⟩, ⟨⟨A', m', c', rfl, (own_num o2).1⟩, by decide⟩, hb⟩

theorem sB_nm {X Y : Nat} : sB (digs 4294967296 X) (digs 4294967296 Y) = decide (X = Y) := by
  by_cases h : X = Y
  · subst h; rw [sB_yes rfl]; simp
  · rw [sB_no]
    · simp [h]
    · intro e
      have h1 := nv_digs X
      rw [e, nv_digs] at h1
      exact h h1.symm
theorem same_v {w : World} {v1 v2 : Value} {X Y : Nat} (h : Nm w v1 X) (k : Nm w v2 Y) : Calls Try.prog 46 #[v1, v2] w fun e w' => e = .returned (.bool (decide (X = Y))) ∧ Below w.heap.size w w' := by
  obtain ⟨⟨A1, n1, c1, rfl, a1⟩, hX⟩ := h
  obtain ⟨⟨A2, n2, c2, rfl, a2⟩, hY⟩ := k
  have H := same_any A1 A2 n1 c1 n2 c2 _ _ w a1.rd a2.rd
  rw [sB_nm] at H
  exact H.mono fun _ _ ⟨h1, h2⟩ => ⟨h1, h2.below⟩
theorem same_yes {w : World} {v1 v2 : Value} {X Y : Nat} (h : Nm w v1 X) (k : Nm w v2 Y) (e : X = Y) : Calls Try.prog 46 #[v1, v2] w fun e w' => e = .returned (.bool true) ∧ Below w.heap.size w w' := by
  have H := same_v h k
  rw [decide_eq_true e] at H
  exact H
theorem same_not {w : World} {v1 v2 : Value} {X Y : Nat} (h : Nm w v1 X) (k : Nm w v2 Y) (e : ¬ X = Y) : Calls Try.prog 46 #[v1, v2] w fun e w' => e = .returned (.bool false) ∧ Below w.heap.size w w' := by
  have H := same_v h k
  rw [decide_eq_false e] at H
  exact H

/-- Valid, of what came in. -/
theorem valid_v {w : World} {A : Option Addr} {n c : Nat} {xs : List Nat} (h : Arg w A n c xs) (b : Bool) (hb : vB xs = b) : Calls Try.prog 66 #[.slice A n c] w fun e w' => e = .returned (.bool b) ∧ w = w' := by
  subst hb; exact validRef_any A n c xs w h
theorem vB_yes {xs : List Nat} (h : vB xs = true) : Vd xs := of_decide_eq_true h

theorem len_zero {w : World} {A : Option Addr} {n c : Nat} {xs : List Nat} (h : Arg w A n c xs) (hv : Vd xs) : n = 0 ↔ nv xs = 0 := by
  constructor
  · intro e
    have := h.rd.len
    rw [e] at this
    rw [List.eq_nil_of_length_eq_zero this]; rfl
  · intro e
    rw [← h.rd.len, vd_zero hv e]; rfl
end Go.Proofs.Ythplhlcdlnedfaa
