/-
  The functions of the laws themselves, part A: trim, Of, n, Valid.
-/
import Derived.Test.YthplhlcdlnedfaaApiE
namespace Go.Proofs.Ythplhlcdlnedfaa
open Go.RowKit MN

theorem vs32_take (xs : List Nat) (n k : Nat) (h : xs.length = n) (hk : k ≤ n) (j : Nat) (u : Value) (hj : (vs32 (xs.take k))[j]? = some u) : j < k ∧ u = .int .u32 (dg xs j : Int) := by
  have h1 : j < (vs32 (xs.take k)).length := by
    rcases Nat.lt_or_ge j (vs32 (xs.take k)).length with h2 | h2
    · exact h2
    · rw [List.getElem?_eq_none h2] at hj; cases hj
  have h3 : j < k := by simp [vs32] at h1; omega
  refine ⟨h3, ?_⟩
  rw [dg_get xs j (by omega)]
  simp [vs32, h3, List.getElem?_eq_getElem (show j < xs.length by omega)] at hj
  exact hj.symm

set_option maxRecDepth 100000 in
set_option maxHeartbeats 1000000 in
theorem trimRef_any (b off n c : Nat) (xs : List Nat) (w : World) (h : Rd .u32 w (some ⟨b, off, none⟩) n c xs) (hl : Low 4294967296 xs) (hn : n ≤ 65536) :
    Calls Try.prog 96 #[.slice (some ⟨b, off, none⟩) n c] w (New w (val 4294967296 xs)) := by
  obtain ⟨i0, hi, hz0, hz1, hz2⟩ := info_parts info24
  have hlen := Lib.hid h.len
  have hle := h.le
  have hcap := h.cap
  unfold maxLen at hcap
  have hcl := Lib.hid (show ∀ i, i < n → w.cell? ⟨b, off + i, none⟩ = some (.int .u32 (dg xs i : Int)) from fun i hi => by
    obtain ⟨b', off', e, hc⟩ := h.at_ (by omega)
    cases e
    exact hc i hi)
  clear h
  go_enter Try.func96, Try.ntmps96
  go_wp2
  go_loopw [3] (fun i wr => ∃ k : Nat, k ≤ n ∧ i = .int .i64 (k : Int) ∧ Hid (∀ j, k ≤ j → dg xs j = 0) ∧ w = wr) (fun i _ => (intOf i).toNat)
  case atStart => exact ⟨n, Nat.le_refl _, rfl, Lib.hid (fun j hj => dg_past xs j (by rw [hlen.out]; exact hj)), rfl⟩
  case round =>
    obtain ⟨k, hk, rfl, HZ, rfl⟩ := hrel
    have key : ∀ (hz : k = 0 ∨ dg xs (k - 1) ≠ 0), xs.take k = digs 4294967296 (val 4294967296 xs) := fun hz => trim_end (by omega) xs k (by rw [hlen.out]; exact hk) hl HZ.out hz
    have fin : ∀ (hz : k = 0 ∨ dg xs (k - 1) ≠ 0) (v : Value) (w2 : World), w2.ownsRow w.heap.size 24 1 v (0 + k) ([] ++ vs32 (xs.take k)) → w.grownBy w2 (Value.slice none 0 0).ownBlock → New w (val 4294967296 xs) (.returned v) w2 := fun hz v w2 ho hg => by
      rw [Nat.zero_add, List.nil_append, key hz] at ho
      obtain ⟨A, c, rfl, _⟩ := own_form ho
      exact ⟨A, k, c, rfl, ho, (Below.refl _ _).grown hg (Nat.le_refl _) (fun g hg => by cases hg)⟩
    have side : ∀ j u, (vs32 (xs.take k))[j]? = some u → w.cell? ((⟨b, off, none⟩ : Addr).add j) = some u := fun j u hj => by
      obtain ⟨h1, h2⟩ := vs32_take xs n k hlen.out hk j u hj
      rw [h2, show (⟨b, off, none⟩ : Addr).add j = ⟨b, off + j, none⟩ by cases j <;> simp [Addr.add]]; exact hcl.out j (by omega)
    have hvl : (vs32 (xs.take k)).length = k * 1 := by have := hlen.out; simp [vs32]; omega
    have h1c : ∀ u ∈ vs32 (xs.take k), u.oneCell' = true := by
      intro u hu; simp only [vs32, List.mem_map] at hu; obtain ⟨d, _, rfl⟩ := hu; rfl
    have hnil := World.ownsRow_nil w w.heap.size 24 1
    have KEY := Lib.hid fin
    have SIDE := Lib.hid side
    have HVL := Lib.hid hvl
    have H1C := Lib.hid h1c
    have HNIL := Lib.hid hnil
    clear key fin side hvl h1c hnil
    rcases Nat.eq_zero_or_pos k with rfl | hpos
    · go_wp2_with (first
        | (at_builtin; refine wpList_append_own _ rfl _ _ 23 rfl w.heap.size 24 i0 _ 1 4 Try.underlying23 hi hz0 hz1 hz2 rfl (by omega) _ _ _ rfl HNIL.out ⟨b, off, none⟩ 0 c _ rfl HVL.out SIDE.out H1C.out (by unfold maxLen; omega) (by omega) (Nat.le_refl _) ?_; intro v1 w2 hown2 hg2 _))
      go_ret
      exact KEY.out (.inl trivial) _ _ hown2 hg2
    · have hcell := hcl.out (k - 1) (by omega)
      obtain ⟨D, hD⟩ : ∃ D, D = dg xs (k - 1) := ⟨_, rfl⟩
      have HD := Lib.hid hD
      rw [← hD] at hcell
      clear hD
      by_cases h0 : D = 0
      · subst h0
        have HZ' : Hid (∀ j, k - 1 ≤ j → dg xs j = 0) := Lib.hid (fun j hj => by
          rcases Nat.lt_or_ge j k with h1 | h1
          · obtain rfl : j = k - 1 := by omega
            exact HD.out.symm
          · exact HZ.out j h1)
        clear HZ KEY SIDE
        go_wp2
        go_roundw
        case rel => exact ⟨k - 1, by omega, by go_num, HZ', trivial⟩
        case measure => simp [intOf]; omega
      · have hb : ((D : Int) == 0) = false := by rw [beq_eq_false_iff_ne]; omega
        go_wp2_with (first
          | (at_builtin; refine wpList_append_own _ rfl _ _ 23 rfl w.heap.size 24 i0 _ 1 4 Try.underlying23 hi hz0 hz1 hz2 rfl (by omega) _ _ _ rfl HNIL.out ⟨b, off, none⟩ k c _ rfl HVL.out SIDE.out H1C.out (by unfold maxLen; omega) (by omega) (Nat.le_refl _) ?_; intro v1 w2 hown2 hg2 _))
        go_ret
        exact KEY.out (.inr (by rw [← HD.out]; exact h0)) _ _ hown2 hg2
end Go.Proofs.Ythplhlcdlnedfaa
