/-
  The X of a header's points, the program's: its contract.
-/
import Derived.Test.YtcbanemkjebdcaaPolO
import Derived.Test.YtcbanemkjebdcaaPolC
import Derived.Test.YtcbanemkjebdcaaRfC
import Derived.Laws.AppendOwn
namespace Go.Proofs.Ytcbanemkjebdcaa
open Go.RowKit SP
set_option linter.unusedVariables false
set_option linter.unusedSimpArgs false

/-- X of point i: a revoked receiver's, or one of none. -/
def px (T n : Nat) (f : Nat → Nat) (i : Nat) : Nat := if i < n then f i + 1 else T + 1 + (i - n)
def pxl (T n : Nat) (f : Nat → Nat) (k : Nat) : List Value := (List.range k).map fun i => .int .u64 (px T n f i : Int)
theorem pxl_snoc (T n : Nat) (f : Nat → Nat) (k : Nat) : pxl T n f (k + 1) = pxl T n f k ++ [.int .u64 (px T n f k : Int)] := by unfold pxl; rw [List.range_succ, List.map_append]; rfl

theorem own_val {w : World} {base e size n : Nat} {v : Value} {xs : List Value} (ho : w.ownsRow base e size v n xs) : ∃ A c, v = .slice A n c := by
  rcases ho.2 with ⟨h, h0⟩ | ⟨g, cap, _, h, _⟩
  · exact ⟨_, _, by rw [h0]; exact h⟩
  · exact ⟨_, _, h⟩

set_option maxRecDepth 100000 in
set_option maxHeartbeats 2000000 in
theorem pointsX_any (K D : Int) (E P Q G b off n c : Nat) (f : Nat → Nat) (w : World) (d1 : 0 ≤ D) (d2 : D ≤ 6) (he1 : 1 ≤ E) (he2 : E ≤ 8) (hnE : n ≤ E) (hn : n ≤ c) (hc : c ≤ maxLen) (hf : ∀ i, i < n → f i < 1000) (hcl : ∀ i, i < n → w.cell? ⟨b, off + i, none⟩ = some (.int .i64 (f i : Int))) :
    Calls Try.prog 57 #[.agg #[.int .u8 K, .int .i64 D, .int .i64 (E : Int), .int .u64 (P : Int), .int .u64 (Q : Int), .int .u64 (G : Int)], .slice (some ⟨b, off, none⟩) n c] w fun r w' => (∃ g c', r = .returned (.slice (some ⟨g, 0, none⟩) E c') ∧ w.heap.size ≤ g ∧ E ≤ c' ∧ c' ≤ maxLen ∧ ∀ i, i < E → w'.cell? ⟨g, i, none⟩ = some (.int .u64 (px (2 ^ D.toNat) n f i : Int))) ∧ Below w.heap.size w w' := by
  obtain ⟨i0, hi, hz0, hz1, hz2⟩ := info_parts info30
  obtain ⟨N, hN⟩ : ∃ N, N = w.heap.size := ⟨_, rfl⟩
  obtain ⟨W1, hW1⟩ : ∃ W1, W1 = w.alloc (.cells #[.int .u8 K, .int .i64 D, .int .i64 (E : Int), .int .u64 (P : Int), .int .u64 (Q : Int), .int .u64 (G : Int)] 28) := ⟨_, rfl⟩
  have HB1 : Hid (Below N w W1) := Lib.hid (by rw [hW1, hN]; exact (Below.refl _ _).alloc (Nat.le_refl _) _)
  have HS1 : Hid (W1.heap.size = N + 1) := Lib.hid (by rw [hW1, hN]; simp)
  have HEnv : Hid (∀ w1, Below (N + 1) W1 w1 → SchAt w1 N K D (E : Int) P Q G ∧ Below N w w1 ∧ ∀ i, i < n → w1.cell? ⟨b, off + i, none⟩ = some (.int .i64 (f i : Int))) := Lib.hid (fun w1 h => by
    have s : SchAt W1 N K D (E : Int) P Q G := by rw [hW1, hN]; exact SchAt.new w K D (E : Int) P Q G
    have hb : Below N w w1 := HB1.out.trans (h.mono (by omega))
    exact ⟨s.below h (by omega), hb, fun i hi => (hb.cell (p := ⟨b, off + i, none⟩) (by rw [hN]; exact World.block_lt_of_cell? w _ (hcl i hi))).trans (hcl i hi)⟩)
  obtain ⟨T, hT⟩ : ∃ T, T = 2 ^ D.toNat := ⟨_, rfl⟩
  have HT64 : Hid (1 ≤ T ∧ T ≤ 64) := Lib.hid (by rw [hT]; exact pw6 D d1 d2)
  have HWr : Hid (RowKit.wrap64 ((2 : Int) ^ D.toNat) = (T : Int)) := Lib.hid (by
    have h : ((2 : Int) ^ D.toNat) = ((2 ^ D.toNat : Nat) : Int) := by simp
    rw [h, ← hT, ← IntWalk.i64_left]
    exact IntWalk.i64_in _ (by have := HT64.out; omega))
  have HX := Lib.hid (fun (i : Nat) (w : World) (hi : i < n) => shareX_any (f i) w (hf i hi))
  have HXT := Lib.hid (fun (w : World) => shareX_any T w (by have := HT64.out; omega))
  rw [← hT]
  have hm : n ≤ 8 := by omega
  have HN := Lib.hid hN
  have HW := Lib.hid hW1
  rw [← hN]
  clear hN hW1 hcl hc hT hf
  go_enter Try.func57, Try.ntmps57
  go_wp2_with fail
  rw [← HW.out, ← HN.out]
  go_loopw [5, 11] (fun v i wr => ∃ (k : Nat), k ≤ n ∧ i = .int .i64 (k : Int) ∧ Hid (wr.ownsRow (N + 1) 24 1 v k (pxl T n f k)) ∧ Hid (Below (N + 1) W1 wr ∧ N + 1 ≤ wr.heap.size)) (fun _ i _ => n - (intOf i).toNat)
  case atStart => exact ⟨0, by omega, rfl, Lib.hid (World.ownsRow_nil _ _ _ _), Lib.hid ⟨Below.refl _ _, by rw [HS1.out]; omega⟩⟩
  case round =>
    obtain ⟨k, hk, rfl, HO, HBr⟩ := hrel
    by_cases hlt : k < n
    · have g1 := (HEnv.out wr HBr.out.1).2.2 k hlt
      have HXk := Lib.hid (fun w => HX.out k w hlt)
      have HSn : Hid (pxl T n f (k + 1) = pxl T n f k ++ [.int .u64 ((f k + 1 : Nat) : Int)]) := Lib.hid (by rw [pxl_snoc]; unfold px; rw [if_pos hlt])
      obtain ⟨u, hu⟩ : ∃ u, u = f k := ⟨_, rfl⟩
      rw [← hu] at g1 HXk HSn
      clear hu
      have l1 : (0 : Int) ≤ (k : Int) := by omega
      have l2 : (k : Int) < (n : Int) := by omega
      go_wp2_with fail
      refine (HXk.out _).mono ?_
      rintro e w5 ⟨rfl, rfl⟩
      clear g1
      have O5 := HO.out
      go_wp2_with (first
        | (at_builtin; refine wpList_append_own _ rfl _ _ 29 rfl (N + 1) 24 i0 _ 1 8 Try.underlying29 hi hz0 hz1 hz2 rfl (by omega) _ _ _ rfl (O5.alloc _) ⟨wr.heap.size, 0, none⟩ 1 1 [.int .u64 ((u + 1 : Nat) : Int)] rfl rfl (cell_one_new _ _ _) (by intro u hu; simp at hu; subst hu; rfl) (by unfold maxLen; omega) (by omega) (by have := HBr.out.2; simp; omega) ?_; intro v1 w6 hown6 hg6 _))
      go_roundw
      case rel => exact ⟨k + 1, by omega, by go_num, Lib.hid (by rw [HSn.out]; exact hown6), Lib.hid ⟨(HBr.out.1.alloc HBr.out.2 _).grown hg6 (by have := HBr.out.2; simp; omega) (fun b hb => own_block O5 hb.symm), Nat.le_trans (by have := HBr.out.2; simp; omega) hg6.size⟩⟩
      case measure => simp [intOf]; omega
    · obtain rfl : k = n := by omega
      obtain ⟨c0, c1, c2, c3, c4, c5⟩ := (HEnv.out wr HBr.out.1).1
      have HBr1 := Lib.hid HBr.out
      have HO1 := Lib.hid HO.out
      clear HX hlt HBr HO
      go_wp2_with fail
      rw [HWr.out]
      refine (HXT.out _).mono ?_
      rintro e w5 ⟨rfl, rfl⟩
      clear c0 c1 c2 c3 c4 c5
      go_wp2_with fail
      go_loopw [5, 8] (fun v x wr => ∃ (j : Nat), k ≤ j ∧ j ≤ E ∧ x = .int .u64 ((T + 1 + (j - k) : Nat) : Int) ∧ Hid (wr.ownsRow (N + 1) 24 1 v j (pxl T k f j)) ∧ Hid (Below (N + 1) W1 wr ∧ N + 1 ≤ wr.heap.size)) (fun _ x _ => E + T + 1 - ((intOf x).toNat + k))
      case atStart => exact ⟨k, by omega, by omega, by rw [Nat.sub_self]; rfl, HO1, HBr1⟩
      case round =>
        obtain ⟨j, hkj, hj, rfl, HO, HBr⟩ := hrel
        obtain ⟨A, cv, hv⟩ := own_val HO.out
        subst hv
        obtain ⟨c0, c1, c2, c3, c4, c5⟩ := (HEnv.out wr HBr.out.1).1
        by_cases hlt : j < E
        · have hlt' : (j : Int) < (E : Int) := by omega
          have HSn : Hid (pxl T k f (j + 1) = pxl T k f j ++ [.int .u64 ((T + 1 + (j - k) : Nat) : Int)]) := Lib.hid (by rw [pxl_snoc]; unfold px; rw [if_neg (by omega)])
          obtain ⟨x, hx⟩ : ∃ x, x = T + 1 + (j - k) := ⟨_, rfl⟩
          have HXE := Lib.hid hx
          have hx2 : x ≤ 100 := by have := HT64.out; omega
          rw [← hx] at HSn ⊢
          clear hx
          have O5 := HO.out
          go_wp2_with (first
            | (at_builtin; refine wpList_append_own _ rfl _ _ 29 rfl (N + 1) 24 i0 _ 1 8 Try.underlying29 hi hz0 hz1 hz2 rfl (by omega) _ _ _ rfl (O5.alloc _) ⟨wr.heap.size, 0, none⟩ 1 1 [.int .u64 (x : Int)] rfl rfl (cell_one_new _ _ _) (by intro u hu; simp at hu; subst hu; rfl) (by unfold maxLen; omega) (by omega) (by have := HBr.out.2; simp; omega) ?_; intro v1 w6 hown6 hg6 _))
          go_roundw
          case rel => exact ⟨j + 1, by omega, by omega, by have := HXE.out; go_num, Lib.hid (by rw [HSn.out]; exact hown6), Lib.hid ⟨(HBr.out.1.alloc HBr.out.2 _).grown hg6 (by have := HBr.out.2; simp; omega) (fun b hb => own_block O5 hb.symm), Nat.le_trans (by have := HBr.out.2; simp; omega) hg6.size⟩⟩
          case measure => have := HXE.out; simp [intOf]; omega
        · obtain rfl : j = E := by omega
          obtain ⟨g, c', hv, q1, q2, q3, q4⟩ := own_slice HO.out (by omega)
          cases hv
          go_wp2_with fail
          go_ret
          exact ⟨⟨g, cv, rfl, by omega, q2, q3, fun i hi => q4 i _ (by simp [pxl, List.getElem?_map, List.getElem?_range hi])⟩, (HEnv.out wr HBr.out.1).2.1⟩
end Go.Proofs.Ytcbanemkjebdcaa
