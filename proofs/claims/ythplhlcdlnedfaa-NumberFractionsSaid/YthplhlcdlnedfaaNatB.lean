/-
  carry, at digits of 32 bits.
-/
import Derived.Test.YthplhlcdlnedfaaNatA
import Derived.Maps.AppendAt
namespace Go.Proofs.Ythplhlcdlnedfaa
open Go.RowKit MN

theorem info24 : (Try.prog.info? 24).map (fun i => (i.zero, i.size, i.bytes)) = some (some (.int .u32 0), 1, 4) := by kernel_rfl
theorem info29 : (Try.prog.info? 29).map (fun i => (i.zero, i.size, i.bytes)) = some (some (.int .u64 0), 1, 8) := by kernel_rfl

/-- The digits of a row. -/
def vs32 (xs : List Nat) : List Value := xs.map fun (d : Nat) => Value.int .u32 (d : Int)
def vs64 (xs : List Nat) : List Value := xs.map fun (d : Nat) => Value.int .u64 (d : Int)
theorem vs32_snoc (xs : List Nat) (d : Nat) (z : Int) (h : z = (d : Int)) : vs32 xs ++ [Value.int .u32 z] = vs32 (xs ++ [d]) := by subst h; simp [vs32]

/-- The digits that are owned, after some columns of the value V; M is carried on. -/
structure Carried (base : Nat) (w wr : World) (v : Value) (ds : List Nat) (k M V : Nat) : Prop where
  len : ds.length = k
  low : Low 4294967296 ds
  own : wr.ownsRow base 24 1 v k (vs32 ds)
  below : Below base w wr
  big : base ≤ wr.heap.size
  sum : val 4294967296 ds + 4294967296 ^ k * M = V

theorem Carried.push {base k M V M' V' : Nat} {w wr w1 : World} {v v' : Value} {ds : List Nat} {o : Obj} {d : Nat} {z : Int} (h : Carried base w wr v ds k M V) (hd : d < 4294967296) (hz : z = (d : Int))
    (hown : w1.ownsRow base 24 1 v' (k + 1) (vs32 ds ++ [Value.int .u32 z])) (hg : (wr.alloc o).grownBy w1 v.ownBlock) (hs : val 4294967296 (ds ++ [d]) + 4294967296 ^ (k + 1) * M' = V') : Carried base w w1 v' (ds ++ [d]) (k + 1) M' V' := by
  have hB : Below base w (wr.alloc o) := h.below.alloc h.big o
  have hsz : base ≤ (wr.alloc o).heap.size := by simp; have := h.big; omega
  exact ⟨by simp [h.len], low_append h.low (by intro x hx; simp at hx; omega), by rw [← vs32_snoc ds d z hz]; exact hown,
    hB.grown hg hsz (fun g hg' => (h.own.lt g hg').1), by have := hg.size; omega, hs⟩

theorem own_form {base k : Nat} {wr : World} {v : Value} {xs : List Nat} (h : wr.ownsRow base 24 1 v k (vs32 xs)) : ∃ A c, v = .slice A k c ∧ Rd .u32 wr A k c xs := by
  rcases h.2 with ⟨rfl, rfl⟩ | ⟨g, cap, cur, rfl, _⟩
  · exact ⟨none, 0, rfl, Rd.of_own h⟩
  · exact ⟨_, cap, rfl, Rd.of_own h⟩

theorem carry_done {base k m V c : Nat} {w wr : World} {A : Option Addr} {ds : List Nat} (h : Carried base w wr (.slice A k c) ds k 0 V) (hm : m ≤ k) (ht : ds.take m = digs 4294967296 (val 4294967296 ds)) :
    wr.ownsRow base 24 1 (.slice A m c) m (vs32 (digs 4294967296 V)) := by
  have h2 := h.sum
  rw [Nat.mul_zero, Nat.add_zero] at h2
  rw [← h2, ← ht]
  exact own_take h.own hm

set_option maxRecDepth 100000 in
set_option maxHeartbeats 1000000 in
theorem carry32_any (A : Option Addr) (n c : Nat) (cs : List Nat) (w : World) (h : Rd .u64 w A n c cs) (hn : n ≤ 65536)
    (h0 : dg cs 0 ≤ 18446744073709551615) (h1 : ∀ i, 0 < i → dg cs i ≤ 9223372036854775807) :
    Calls Try.prog 74 #[.slice A n c, .int .u64 4294967296] w fun e w' => ∃ A' m c', e = .returned (.slice A' m c') ∧ w'.ownsRow w.heap.size 24 1 (.slice A' m c') m (vs32 (digs 4294967296 (val 4294967296 cs))) ∧ Below w.heap.size w w' := by
  obtain ⟨i0, hi, hz0, hz1, hz2⟩ := info_parts info24
  have hlen := Lib.hid h.len
  have hat := Lib.hid h.at_
  have HB : Hid (∀ i M, (i = 0 → M = 0) → M ≤ 4294967295 → M + dg cs i ≤ 18446744073709551615) := Lib.hid (fun i M hM hM2 => by
    rcases Nat.eq_zero_or_pos i with rfl | hi
    · rw [hM rfl]; omega
    · have := h1 i hi; omega)
  clear h h0 h1
  go_enter Try.func74, Try.ntmps74
  go_wp2_with (first
    | (at_make; refine wpList_make_own _ rfl _ _ 22 rfl w.heap.size 24 i0 _ 1 Try.underlying22 hi hz0 hz1 .i64 .i64 _ (n + 1) rfl rfl (by omega) (by rw [hz2]; omega) (by unfold maxLen; omega) (Nat.le_refl _) ?_; intro w1 hown1 hg1))
  go_loopw [5, 6, 15] (fun v m i wr => ∃ (k M : Nat) (ds : List Nat), k ≤ n ∧ i = .int .i64 k ∧ m = .int .u64 M ∧ M ≤ 4294967295 ∧ Hid (k = 0 → M = 0) ∧ Carried w.heap.size w wr v ds k M (val 4294967296 (cs.take k))) (fun _ _ i _ => n - (intOf i).toNat)
  case atStart =>
    exact ⟨0, 0, [], by omega, rfl, rfl, by omega, Lib.hid (fun _ => rfl), ⟨rfl, low_nil _, hown1, (Below.refl _ _).grown hg1 (Nat.le_refl _) (by simp), hg1.size, by simp [val]⟩⟩
  case round =>
    obtain ⟨k, M, ds, hk, rfl, rfl, hM, HM, HC⟩ := hrel
    by_cases hlt : k < n
    · obtain ⟨b, off, rfl, hc⟩ := hat.out (by omega)
      have hcell := (HC.below.cell (p := ⟨b, off + k, none⟩) (World.block_lt_of_cell? w _ (hc k hlt))).trans (hc k hlt)
      clear hc
      have hsum := HB.out k M HM.out hM
      have HV := Lib.hid (val_take_succ 4294967296 cs k (by rw [hlen.out]; exact hlt))
      obtain ⟨C, hC⟩ : ∃ C, C = dg cs k := ⟨_, rfl⟩
      rw [← hC] at hcell hsum HV
      have HCC := Lib.hid hC
      clear hC
      have hown := HC.own
      go_wp2_with (first
        | (at_builtin; refine wpList_append_own _ rfl _ _ 22 rfl w.heap.size 24 i0 _ 1 4 Try.underlying22 hi hz0 hz1 hz2 rfl (by omega) _ _ _ rfl (hown.alloc _) ⟨wr.heap.size, 0, none⟩ 1 1 [.int .u32 (((M : Int) + (C : Int)) % 4294967296)] rfl rfl (cell_one_new _ _ _) (by intro u hu; simp at hu; subst hu; rfl) (by unfold maxLen; omega) (by omega) (by simp; have := HC.big; omega) ?_; intro v1 w2 hown2 hg2 _))
      have HP := HC.push (d := (M + C) % 4294967296) (M' := (M + C) / 4294967296) (V' := val 4294967296 (cs.take (k + 1))) (Nat.mod_lt _ (by omega)) (by omega) hown2 hg2
        (by rw [HV.out]; exact carry_step _ ds M C k _ HC.len HC.sum)
      clear hown2 hg2 hown HC HV HCC
      go_wp2
      go_roundw
      case rel => exact ⟨k + 1, (M + C) / 4294967296, _, by omega, by go_num, by go_num, by omega, Lib.hid (by omega), HP⟩
      case measure => simp [intOf]; omega
    · obtain rfl : k = n := by omega
      have HC' := HC
      rw [List.take_of_length_le (by rw [hlen.out]; exact Nat.le_refl _)] at HC'
      clear HC HB HM hown1 hg1 hat
      rcases Nat.eq_zero_or_pos M with rfl | hpos
      · obtain ⟨A', c', rfl, hv⟩ := own_form HC'.own
        go_wp2
        refine wp_loop_rounds 1 ?_
        rw [rounds_succ]
        go_wp2_with (go_at_call 106; refine (trim32_any A' k c' ds _ hv HC'.low).mono ?_; rintro e w' ⟨⟨m, hm, rfl, ht⟩, rfl⟩)
        go_ret
        exact ⟨A', m, c', rfl, carry_done HC' hm ht, HC'.below⟩
      · have hown := HC'.own
        go_wp2
        refine wp_loop_rounds 2 ?_
        rw [rounds_succ]
        go_wp2_with (first
          | (at_builtin; refine wpList_append_own _ rfl _ _ 22 rfl w.heap.size 24 i0 _ 1 4 Try.underlying22 hi hz0 hz1 hz2 rfl (by omega) _ _ _ rfl (hown.alloc _) ⟨wr.heap.size, 0, none⟩ 1 1 [.int .u32 ((M : Int) % 4294967296)] rfl rfl (cell_one_new _ _ _) (by intro u hu; simp at hu; subst hu; rfl) (by unfold maxLen; omega) (by omega) (by simp; have := HC'.big; omega) ?_; intro v1 w2 hown2 hg2 _))
        have HP := HC'.push (d := M % 4294967296) (M' := 0) (V' := val 4294967296 cs) (Nat.mod_lt _ (by omega)) (by omega) hown2 hg2
          (by rw [← carry_more _ ds M k _ HC'.len HC'.sum, Nat.div_eq_of_lt (show M < 4294967296 by omega)])
        clear hown2 hg2 hown HC'
        obtain ⟨A', c', rfl, hv⟩ := own_form HP.own
        rw [rounds_succ]
        go_wp2_with (go_at_call 106; refine (trim32_any A' (k + 1) c' _ _ hv HP.low).mono ?_; rintro e w' ⟨⟨m, hm, rfl, ht⟩, rfl⟩)
        go_ret
        exact ⟨A', m, c', rfl, carry_done HP hm ht, HP.below⟩
end Go.Proofs.Ythplhlcdlnedfaa
