/-
  The specification's Pad.
-/
import Derived.Test.YtphhppdokdageaaHshC
import Derived.Test.YtphhppdokdageaaRfI
import Derived.WalkSmall
namespace Go.Proofs.Ytphhppdokdageaa
open Go.RowKit SP
set_option linter.unusedVariables false
set_option linter.unusedSimpArgs false

/-- What is laid behind n bytes: its first m bytes. -/
def plt (n m : Nat) : List Value := bl ((List.range m).map fun j => pdb (fun _ => 0) n (n + j))
theorem plt_one (n : Nat) : plt n 1 = [Value.int .u8 128] := by
  have e1 : pdb (fun _ => 0) n (n + 0) = 128 := by unfold pdb; rw [if_neg (by omega), if_pos (by omega)]
  unfold plt
  rw [show List.range 1 = [0] from rfl, List.map_cons, List.map_nil, e1]
  rfl
theorem plt_zero (n k : Nat) (hk : k < zz n) : plt n (1 + k + 1) = plt n (1 + k) ++ [Value.int .u8 0] := by
  have e1 : pdb (fun _ => 0) n (n + (1 + k)) = 0 := by unfold pdb; rw [if_neg (by omega), if_neg (by omega), if_pos (by omega)]
  unfold plt
  rw [List.range_succ, List.map_append, List.map_cons, List.map_nil, e1]
  simp [bl, u8]
theorem lowb_map (n : Nat) : lowb n 8 = (List.range 8).map fun j => kby 0 n (8 + j) := by
  apply List.ext_getElem?
  intro j
  by_cases hj : j < 8
  · rw [lowb_get n 8 j hj, List.getElem?_map, List.getElem?_range hj, Option.map_some, kby_lo _ _ _ hj]
  · rw [List.getElem?_eq_none (by rw [lowb_len]; omega), List.getElem?_eq_none (by simp; omega)]
theorem plt_last (n : Nat) : plt n (1 + zz n + 8) = plt n (1 + zz n) ++ bl (lowb n 8) := by
  unfold plt
  rw [map_range_add, lowb_map]
  have e : (List.range 8).map (fun j => pdb (fun _ => 0) n (n + (1 + zz n + j))) = (List.range 8).map (fun j => kby 0 n (8 + j)) := List.map_congr_left fun j hj => by
    unfold pdb; rw [if_neg (by omega), if_neg (by omega), if_neg (by omega), show n + (1 + zz n + j) - (n + 1 + zz n) = j by omega]
  rw [e]
  simp [bl]
theorem plt_all (g : Nat → Nat) (n : Nat) : bl ((List.range (pdl n)).map (pdb g n)) = bl ((List.range n).map g) ++ plt n (1 + zz n + 8) := by
  have e0 : (List.range n).map (pdb g n) = (List.range n).map g := List.map_congr_left fun j hj => by
    have := List.mem_range.1 hj; unfold pdb; rw [if_pos this]
  have e1 : ∀ j, pdb g n (n + j) = pdb (fun _ => 0) n (n + j) := fun j => by simp only [pdb, show ¬ (n + j < n) by omega, if_false]
  rw [show pdl n = n + (1 + zz n + 8) by unfold pdl; omega, map_range_add, e0]
  unfold plt
  simp only [e1]
  simp [bl]

set_option maxRecDepth 100000 in
set_option maxHeartbeats 1000000 in
theorem refPad_any (n : Nat) (w : World) (hn : n ≤ 16384) :
    Calls Try.prog 74 #[.int .i64 (n : Int)] w fun e w' => ∃ v, e = .returned v ∧ Below w.heap.size w w' ∧ w'.ownsRow w.heap.size 5 1 v (1 + zz n + 8) (plt n (1 + zz n + 8)) := by
  obtain ⟨i0, hi, hz0, hz1, hz2⟩ := info_parts info5
  obtain ⟨N, hN⟩ : ∃ N, N = w.heap.size := ⟨_, rfl⟩
  obtain ⟨W1, hW1⟩ : ∃ W1, W1 = w.alloc (.cells #[.int .u8 128] 5) := ⟨_, rfl⟩
  have HO1 : Hid (W1.ownsRow N 5 1 (.slice (some ⟨N, 0, none⟩) 1 1) 1 (plt n 1)) := Lib.hid (by rw [hW1, hN, plt_one]; exact own_new w 5 _ _ (Nat.le_refl _))
  have B1 : Hid (Below N w W1) := Lib.hid (by rw [hW1, hN]; exact (Below.refl _ _).alloc (Nat.le_refl _) _)
  have S1 : Hid (N ≤ W1.heap.size) := Lib.hid (by rw [hW1, hN]; simp)
  have HBy := Lib.hid (fun w => refBytes_any n 8 w (by unfold M; omega) (by omega))
  have hcv : IntKind.u64.wrap (n : Int) = (n : Int) := by simp [IntKind.wrap, IntKind.bits, IntKind.signed]; omega
  have HW := Lib.hid hW1
  have HN := Lib.hid hN
  rw [← hN]
  clear hW1 hN
  go_enter Try.func74, Try.ntmps74
  go_wp2_with fail
  rw [← HW.out, ← HN.out]
  go_loopw [3] (fun v wr => ∃ k : Nat, k ≤ zz n ∧ Hid (wr.ownsRow N 5 1 v (1 + k) (plt n (1 + k))) ∧ Hid (Below N w wr) ∧ Hid (N ≤ wr.heap.size)) (fun v _ => 1 + zz n - (match v with | .slice _ m _ => m | _ => 0))
  case atStart => exact ⟨0, by omega, HO1, B1, S1⟩
  case round =>
    obtain ⟨k, hk, HO, HB, HS⟩ := hrel
    clear HO1 B1 S1
    obtain ⟨A6, c6, hv6⟩ : ∃ A c, u3 = .slice A (1 + k) c := by
      rcases HO.out.2 with ⟨h, h0⟩ | ⟨g, cap, cur, h, _⟩
      · exact absurd h0 (by omega)
      · exact ⟨_, _, h⟩
    obtain ⟨v6, hv6'⟩ : ∃ v6, v6 = u3 := ⟨_, rfl⟩
    rw [← hv6'] at HO hv6 ⊢
    subst hv6
    clear hv6'
    have hzz : zz n ≤ 16 := by unfold zz; omega
    obtain ⟨mm, hmm⟩ : ∃ mm, mm = 1 + k := ⟨_, rfl⟩
    have hm7 : mm < 70000 := by omega
    obtain ⟨r, hr⟩ : ∃ r, r = (n + mm + 8) % 16 := ⟨_, rfl⟩
    have e1 : ((n : Int) + (mm : Int) + 8) % 16 = (r : Int) := by omega
    have e2 : ((n : Int) + (mm : Int) + 8).tmod 16 = (r : Int) := by rw [Int.tmod_eq_emod_of_nonneg (by omega)]; exact e1
    by_cases hlt : k < zz n
    · have hr8 : r ≠ 0 := by rw [hr, hmm]; unfold zz at hlt; omega
      have t1 : ((r : Int) == 0) = false := by simp; omega
      have t2 : ((r : Int) != 0) = true := by simp; omega
      have t3 : ¬ ((r : Int) = 0) := by omega
      have hsn := plt_zero n k hlt
      obtain ⟨xs, hxs⟩ : ∃ xs, xs = plt n (1 + k) := ⟨_, rfl⟩
      rw [← hxs] at hsn HO
      rw [← hmm] at HO hsn ⊢
      have HSN := Lib.hid hsn
      have HM := Lib.hid hmm
      have ho := HO.out
      clear hsn hxs hr hmm
      go_wp2_with (at_builtin; refine wpList_append_own _ rfl _ _ 26 rfl N 5 i0 _ 1 1 Try.underlying26 hi hz0 hz1 hz2 rfl (by omega) (Value.slice A6 mm c6) mm xs rfl (ho.alloc _) ⟨wr.heap.size, 0, none⟩ 1 1 [.int .u8 0] rfl rfl (cell_one_new _ _ _) (by intro u hu; simp at hu; subst hu; rfl) (by unfold maxLen; omega) (by omega) (by have := HS.out; simp; omega) ?_; intro v1 w6 hown6 hg6 _)
      go_roundw
      case rel => exact ⟨k + 1, by omega, Lib.hid (by rw [← Nat.add_assoc, ← HM.out, HSN.out]; exact hown6), Lib.hid ((HB.out.alloc HS.out _).grown hg6 (by have := HS.out; simp; omega) (fun b hb => own_block HO.out hb.symm)), Lib.hid (Nat.le_trans (by have := HS.out; simp; omega) hg6.size)⟩
      case measure =>
        obtain ⟨A8, c8, hv8⟩ : ∃ A c, v1 = .slice A (mm + 1) c := by
          rcases hown6.2 with ⟨h, h0⟩ | ⟨g, cap, cur, h, _⟩
          · exact absurd h0 (by omega)
          · exact ⟨_, _, h⟩
        have := HM.out
        rw [hv8]
        simp only []
        omega
    · have hkz : k = zz n := by omega
      have hr8 : r = 0 := by rw [hr, hmm, hkz]; unfold zz; omega
      have e1' : ((n : Int) + (mm : Int) + 8) % 16 = 0 := by omega
      have e2' : ((n : Int) + (mm : Int) + 8).tmod 16 = 0 := by rw [Int.tmod_eq_emod_of_nonneg (by omega)]; exact e1'
      have hla := plt_last n
      have hmz : mm = 1 + zz n := by rw [hmm, hkz]
      rw [← hmm] at HO ⊢
      rw [← hmz] at hla ⊢
      have HLa := Lib.hid hla
      have HMz := Lib.hid hmz
      obtain ⟨xs, hxs⟩ : ∃ xs, xs = plt n mm := ⟨_, rfl⟩
      rw [← hxs] at HO HLa
      clear e1 e2 hr hr8 hla hxs hkz hmm hmz hlt
      go_wp2_with fail
      refine (HBy.out wr).mono ?_
      rintro e w7 ⟨v7, rfl, ho7, hb7⟩
      obtain ⟨g7, c7, hv7, hB7, hnc7, hcm7, hcell7⟩ := own_slice ho7 (by omega)
      subst hv7
      have hO7 := own_below HO.out hb7
      have HB7 := Lib.hid (HB.out.trans (hb7.mono HS.out))
      have HS7 := Lib.hid (Nat.le_trans HS.out hb7.size)
      have hs7 := HS7.out
      clear hb7 ho7
      go_wp2_with (at_builtin; refine wpList_append_own _ rfl _ _ 26 rfl N 5 i0 _ 1 1 Try.underlying26 hi hz0 hz1 hz2 rfl (by omega) (Value.slice A6 mm c6) mm xs rfl hO7 ⟨g7, 0, none⟩ 8 c7 (bl (lowb n 8)) rfl (by simp [bl, lowb_len]) (fun j u hu => by rw [Addr.add_lit, Nat.zero_add]; exact hcell7 j u hu) (bl_one _) (by unfold maxLen; omega) (by omega) hs7 ?_; intro v9 w9 hown9 hg9 _)
      go_ret
      exact ⟨v9, rfl, HB7.out.grown hg9 hs7 (fun b hb => own_block hO7 hb.symm), by rw [← HMz.out, HLa.out]; exact hown9⟩
end Go.Proofs.Ytphhppdokdageaa
