/-
  Rows that a call makes and writes by index; sum.
-/
import Derived.Test.YthplhlcdlnedfaaNatB
namespace Go.Proofs.Ythplhlcdlnedfaa
open Go.RowKit MN

/-- A row of N places that the call has made, in block g. -/
structure Cols (k : IntKind) (e : TypeId) (base : Nat) (w wr : World) (g N : Nat) (xs : List Nat) : Prop where
  own : wr.ownsRow base e 1 (.slice (some ⟨g, 0, none⟩) N N) N (xs.map fun (d : Nat) => Value.int k (d : Int))
  below : Below base w wr
  big : base ≤ wr.heap.size

theorem Cols.len {k : IntKind} {e : TypeId} {base : Nat} {w wr : World} {g N : Nat} {xs : List Nat} (h : Cols k e base w wr g N xs) : xs.length = N := by
  have := h.own.1; simpa using this
theorem Cols.ge {k : IntKind} {e : TypeId} {base : Nat} {w wr : World} {g N : Nat} {xs : List Nat} (h : Cols k e base w wr g N xs) : base ≤ g := (h.own.lt g rfl).1
theorem Cols.lt {k : IntKind} {e : TypeId} {base : Nat} {w wr : World} {g N : Nat} {xs : List Nat} (h : Cols k e base w wr g N xs) : g < wr.heap.size := (h.own.lt g rfl).2
theorem Cols.cell {k : IntKind} {e : TypeId} {base : Nat} {w wr : World} {g N : Nat} {xs : List Nat} (h : Cols k e base w wr g N xs) (j : Nat) (hj : j < N) : wr.cell? ⟨g, j, none⟩ = some (.int k (dg xs j : Int)) := by
  have hlen := h.len
  rw [h.own.cellAt j (by omega), dg_get xs j (by omega)]
  simp [List.getElem?_map, List.getElem?_eq_getElem (show j < xs.length by omega)]
theorem Cols.frozen {k : IntKind} {e : TypeId} {base : Nat} {w wr : World} {g N : Nat} {xs : List Nat} (h : Cols k e base w wr g N xs) (j : Nat) : wr.frozen? ⟨g, j, none⟩ = false := h.own.frozenAt j
theorem Cols.set {k : IntKind} {e : TypeId} {base : Nat} {w wr : World} {g N : Nat} {xs : List Nat} (h : Cols k e base w wr g N xs) (j d : Nat) (z : Int) (hz : z = (d : Int)) :
    Cols k e base w (wr.setCell ⟨g, j, none⟩ (.int k z)) g N (xs.set j d) := by
  subst hz
  refine ⟨?_, h.below.setCell (by exact h.ge) _, by simpa [World.setCell] using h.big⟩
  have := (h.own.stored j (.int k (d : Int))).1
  rw [List.map_set]; exact this
theorem Cols.drew {k : IntKind} {e : TypeId} {base : Nat} {w wr : World} {g N : Nat} {xs : List Nat} (h : Cols k e base w wr g N xs) : Cols k e base w wr.drew g N xs := ⟨h.own.drew, h.below.drew, h.big⟩
theorem Cols.made {k : IntKind} {e : TypeId} {base : Nat} {w w0 w1 : World} {g N : Nat} (hown : w1.ownsRow base e 1 (.slice (some ⟨g, 0, none⟩) N N) N (madeCells (Value.cells (.int k 0)) (N * 1)).toList) (hg : w0.grownBy w1 none) (hb : Below base w w0) (hbig : base ≤ w0.heap.size) :
    Cols k e base w w1 g N (List.replicate N 0) := by
  refine ⟨?_, hb.grown hg hbig (by simp), Nat.le_trans hbig hg.size⟩
  have e1 : (madeCells (Value.cells (.int k 0)) (N * 1)).toList = List.replicate N (.int k 0) := by
    rw [Nat.mul_one]; exact toList_madeCells_one (.int k 0) N
  rw [e1] at hown
  simpa using hown
theorem Cols.rd {k : IntKind} {e : TypeId} {base : Nat} {w wr : World} {g N : Nat} {xs : List Nat} (h : Cols k e base w wr g N xs) : Rd k wr (some ⟨g, 0, none⟩) N N xs := Rd.of_own h.own

/-- What is returned is new memory that holds the number N. -/
def New (w : World) (N : Nat) (e : Ending) (w' : World) : Prop :=
  ∃ A m c, e = .returned (.slice A m c) ∧ w'.ownsRow w.heap.size 24 1 (.slice A m c) m (vs32 (digs 4294967296 N)) ∧ Below w.heap.size w w'

theorem own_low {B B' : Nat} {e : TypeId} {size n : Nat} {v : Value} {xs : List Value} {w : World} (h : w.ownsRow B e size v n xs) (hB : B' ≤ B) : w.ownsRow B' e size v n xs := by
  refine ⟨h.1, ?_⟩
  rcases h.2 with h | ⟨g, cap, cur, hv, hb, r⟩
  · exact .inl h
  · exact .inr ⟨g, cap, cur, hv, by omega, r⟩

set_option maxRecDepth 100000 in
set_option maxHeartbeats 1000000 in
theorem sum_any (A1 A2 : Option Addr) (n1 c1 n2 c2 : Nat) (ys zs : List Nat) (w : World) (ha : Rd .u32 w A1 n1 c1 ys) (hb : Rd .u32 w A2 n2 c2 zs) (hla : Low 4294967296 ys) (hlb : Low 4294967296 zs) (hn1 : n1 ≤ 65536) (hn2 : n2 ≤ 65536) :
    Calls Try.prog 72 #[.slice A1 n1 c1, .slice A2 n2 c2] w (New w (val 4294967296 ys + val 4294967296 zs)) := by
  obtain ⟨i0, hi, hz0, hz1, hz2⟩ := info_parts info29
  have hlena := Lib.hid ha.len
  have hlenb := Lib.hid hb.len
  have hata := Lib.hid ha.at_
  have hatb := Lib.hid hb.at_
  clear ha hb
  obtain ⟨N, hN1, hN2, hN3, HN⟩ : ∃ N, n1 ≤ N ∧ n2 ≤ N ∧ N ≤ 65536 ∧ Hid ((n1 < n2 ∧ N = n2) ∨ (n2 ≤ n1 ∧ N = n1)) := by
    rcases Nat.lt_or_ge n1 n2 with h | h
    · exact ⟨n2, by omega, by omega, by omega, Lib.hid (.inl ⟨h, rfl⟩)⟩
    · exact ⟨n1, by omega, by omega, by omega, Lib.hid (.inr ⟨h, rfl⟩)⟩
  have hmax : (Builtin.max_ #[3, 3] 3 #[.int .i64 (n1 : Int), .int .i64 (n2 : Int)]).run Try.prog w = .ok (.int .i64 (N : Int)) w := by
    rw [run_max_int2]
    rcases HN.out with ⟨hlt, h⟩ | ⟨hlt, h⟩
    · rw [if_pos (by omega), h]
    · rw [if_neg (by omega), h]
  go_enter Try.func72, Try.ntmps72
  go_wp2_with (first
      | (at_make; refine wpList_make_full _ rfl _ _ 99 rfl w.heap.size 29 i0 _ 1 Try.underlying99 hi hz0 hz1 .i64 .i64 _ _ N rfl rfl rfl rfl (by rw [hz2]; omega) (by unfold maxLen; omega) (Nat.le_refl _) ?_; intro w1 hown1 hg1))
  have HC1 := Cols.made hown1 hg1 (Below.refl _ _) (Nat.le_refl _)
  clear hown1 hg1 hmax HN
  go_loopw [18] (fun i wr => ∃ (k : Nat) (xs : List Nat), k ≤ n1 ∧ i = .int .i64 k ∧ Cols .u64 29 w.heap.size w wr w.heap.size N xs ∧ Hid (∀ j, dg xs j = if j < k then dg ys j else 0)) (fun i _ => n1 - (intOf i).toNat)
  case atStart => exact ⟨0, _, Nat.zero_le _, rfl, HC1, Lib.hid (fun j => by rw [dg_replicate, if_neg (by omega)])⟩
  case round =>
    obtain ⟨k, xs, hk, rfl, HC, HX⟩ := hrel
    by_cases hlt : k < n1
    · obtain ⟨b, off, rfl, hc⟩ := hata.out (by omega)
      have hcell := (HC.below.cell (p := ⟨b, off + k, none⟩) (World.block_lt_of_cell? w _ (hc k hlt))).trans (hc k hlt)
      clear hc
      obtain ⟨D, hD⟩ : ∃ D, D = dg ys k := ⟨_, rfl⟩
      have hDl : D < 4294967296 := by rw [hD]; exact low_dg hla (by omega) k
      rw [← hD] at hcell
      have HD := Lib.hid hD
      clear hD
      have hk2 := HC.cell k (by omega)
      have hfr := HC.frozen k
      have HS := HC.set k D (D : Int) rfl
      have HX' : Hid (∀ j, dg (xs.set k D) j = if j < k + 1 then dg ys j else 0) := Lib.hid (fun j => by
        rw [dg_set _ _ _ _ (by rw [HC.len]; omega), HX.out j]
        by_cases e : j = k
        · subst e; rw [if_pos rfl, if_pos (by omega), HD.out]
        · rw [if_neg e]
          by_cases e2 : j < k
          · rw [if_pos e2, if_pos (by omega)]
          · rw [if_neg e2, if_neg (by omega)])
      clear HX HC
      go_wp2
      go_roundw
      case rel => exact ⟨k + 1, _, by omega, by go_num, HS, HX'⟩
      case measure => simp [intOf]; omega
    · obtain rfl : k = n1 := by omega
      go_wp2
      go_loopw [31] (fun i wr => ∃ (k : Nat) (xs : List Nat), k ≤ n2 ∧ i = .int .i64 k ∧ Cols .u64 29 w.heap.size w wr w.heap.size N xs ∧ Hid (∀ j, dg xs j = dg ys j + if j < k then dg zs j else 0)) (fun i _ => n2 - (intOf i).toNat)
      case atStart =>
        exact ⟨0, xs, Nat.zero_le _, rfl, HC, Lib.hid (fun j => by
          rw [HX.out j, if_neg (by omega : ¬ j < 0), Nat.add_zero]
          by_cases e : j < k
          · rw [if_pos e]
          · rw [if_neg e, dg_past ys j (by rw [hlena.out]; omega)])⟩
      case round =>
        obtain ⟨m, xs2, hm, rfl, HC2, HX2⟩ := hrel
        by_cases hlt2 : m < n2
        · obtain ⟨b, off, rfl, hc⟩ := hatb.out (by omega)
          have hcell := (HC2.below.cell (p := ⟨b, off + m, none⟩) (World.block_lt_of_cell? w _ (hc m hlt2))).trans (hc m hlt2)
          clear hc
          obtain ⟨D, hD⟩ : ∃ D, D = dg zs m := ⟨_, rfl⟩
          have hDl : D < 4294967296 := by rw [hD]; exact low_dg hlb (by omega) m
          rw [← hD] at hcell
          have HD := Lib.hid hD
          clear hD
          have hk2 := HC2.cell m (by omega)
          have hfr := HC2.frozen m
          obtain ⟨E, hE⟩ : ∃ E, E = dg xs2 m := ⟨_, rfl⟩
          have hEy : E = dg ys m := by rw [hE, HX2.out m, if_neg (by omega), Nat.add_zero]
          have hEl : E < 4294967296 := by rw [hEy]; exact low_dg hla (by omega) m
          rw [← hE] at hk2
          have HE := Lib.hid hEy
          clear hE hEy
          have HS := HC2.set m (E + D) ((E : Int) + (D : Int)) (by omega)
          have HX' : Hid (∀ j, dg (xs2.set m (E + D)) j = dg ys j + if j < m + 1 then dg zs j else 0) := Lib.hid (fun j => by
            rw [dg_set _ _ _ _ (by rw [HC2.len]; omega), HX2.out j]
            by_cases e : j = m
            · subst e; rw [if_pos rfl, if_pos (by omega), HD.out, HE.out]
            · rw [if_neg e]
              by_cases e2 : j < m
              · rw [if_pos e2, if_pos (by omega)]
              · rw [if_neg e2, if_neg (by omega)])
          clear HX2 HC2 HX HC
          go_wp2
          go_roundw
          case rel => exact ⟨m + 1, _, by omega, by go_num, HS, HX'⟩
          case measure => simp [intOf]; omega
        · obtain rfl : m = n2 := by omega
          have hval : val 4294967296 xs2 = val 4294967296 ys + val 4294967296 zs :=
            val_add_of _ xs2 ys zs N (by rw [HC2.len]; exact Nat.le_refl _) (by rw [hlena.out]; omega) (by rw [hlenb.out]; omega) (fun j _ => by
              rw [HX2.out j]
              by_cases e : j < m
              · rw [if_pos e]
              · rw [if_neg e, dg_past zs j (by rw [hlenb.out]; omega)])
          have hbig : ∀ j, dg xs2 j ≤ 9223372036854775807 := fun j => by
            rw [HX2.out j]
            have h1 := low_dg hla (by omega) j
            have h2 := low_dg hlb (by omega) j
            split <;> omega
          have HF := Lib.hid hbig
          have HV := Lib.hid hval
          clear hval hbig HX2 HX HC
          have hrd := HC2.rd
          go_wp2_with (go_at_call 74; refine (carry32_any _ _ _ xs2 _ hrd (by omega) (by have := HF.out 0; omega) (fun i _ => HF.out i)).mono ?_; rintro e w9 ⟨A', m', c', rfl, hown9, hb9⟩)
          go_ret
          rw [HV.out] at hown9
          exact ⟨A', m', c', rfl, own_low hown9 HC2.big, HC2.below.trans (hb9.mono HC2.big)⟩
end Go.Proofs.Ythplhlcdlnedfaa
