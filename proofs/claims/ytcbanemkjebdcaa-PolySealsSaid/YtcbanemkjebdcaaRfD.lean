/-
  The specification's Bytes, key, block.
-/
import Derived.Test.YtcbanemkjebdcaaRfC
import Derived.Deep.AppendSrc
namespace Go.Proofs.Ytcbanemkjebdcaa
open Go.RowKit SP
set_option linter.unusedVariables false
set_option linter.unusedSimpArgs false

/-- The low k bytes of a number, the highest first. -/
def lowb (x : Nat) : Nat → List Nat
  | 0 => []
  | k + 1 => (x / 256 ^ k % 256) :: lowb x k
theorem lowb_len (x : Nat) : ∀ k, (lowb x k).length = k
  | 0 => rfl
  | k + 1 => by rw [lowb, List.length_cons, lowb_len x k]
theorem lowb_get (x : Nat) : ∀ k j, j < k → (lowb x k)[j]? = some (x / 256 ^ (k - 1 - j) % 256)
  | 0, j, h => by omega
  | k + 1, 0, _ => by rw [lowb]; simp
  | k + 1, j + 1, h => by rw [lowb, List.getElem?_cons_succ, lowb_get x k j (by omega), show k + 1 - 1 - (j + 1) = k - 1 - j by omega]

theorem bl_get (bs : List Nat) (j d : Nat) (h : bs[j]? = some d) : (bl bs)[j]? = some (.int .u8 (d : Int)) := by simp [bl, u8, List.getElem?_map, h]
theorem bl_one (bs : List Nat) : ∀ v ∈ bl bs, v.oneCell' = true := by
  intro v hv; obtain ⟨d, _, rfl⟩ := List.mem_map.1 hv; rfl

set_option maxRecDepth 100000 in
set_option maxHeartbeats 2000000 in
theorem refBytes_any (x m : Nat) (w : World) (hx : x < M) (hm : m ≤ 8) :
    Calls Try.prog 146 #[.int .u64 (x : Int), .int .i64 (m : Int)] w fun e w' => ∃ v, e = .returned v ∧ w'.ownsRow w.heap.size 5 1 v m (bl (lowb x m)) ∧ Below w.heap.size w w' := by
  obtain ⟨i0, hi, hz0, hz1, hz2⟩ := info_parts info5
  obtain ⟨N, hN⟩ : ∃ N, N = w.heap.size := ⟨_, rfl⟩
  have HN := Lib.hid hN
  rw [← hN]
  have hN' : N ≤ w.heap.size := by omega
  clear hN
  go_enter Try.func146, Try.ntmps146
  go_wp2
  go_loopw [0, 5, 6] (fun y v i wr => ∃ k a : Nat, k ≤ m ∧ i = .int .i64 (k : Int) ∧ y = .int .u64 (a : Int) ∧ a ≤ 18446744073709551615 ∧ Hid (a = x / 256 ^ k) ∧ Hid (wr.ownsRow N 5 1 v k (bl (lowb x k)) ∧ Below N w wr ∧ N ≤ wr.heap.size) ∧ Hid (k = 0 → v = .slice none 0 0)) (fun _ _ i _ => m - (intOf i).toNat)
  case atStart => exact ⟨0, x, by omega, rfl, rfl, by unfold M at hx; omega, Lib.hid (by simp), Lib.hid ⟨World.ownsRow_nil _ _ _ _, Below.refl _ _, hN'⟩, Lib.hid (fun _ => rfl)⟩
  case round =>
    obtain ⟨k, a, hk, rfl, rfl, ha, HI, HO, HV⟩ := hrel
    by_cases hlt : k < m
    · obtain ⟨d, hd⟩ : ∃ d, d = a % 256 := ⟨_, rfl⟩
      have hd1 : (a : Int) % 256 = (d : Int) := by omega
      have hd2 : d < 256 := by omega
      have HL : Hid (bl (lowb x (k + 1)) = [.int .u8 (d : Int)] ++ bl (lowb x k)) := Lib.hid (by rw [lowb, hd, HI.out]; rfl)
      have HA : Hid (a / 256 = x / 256 ^ (k + 1)) := Lib.hid (by rw [HI.out, Nat.div_div_eq_div_mul, ← Nat.pow_succ])
      clear hd HI
      have hown1 := own_new wr 5 (.int .u8 (d : Int)) N HO.out.2.2
      rcases Nat.eq_zero_or_pos k with rfl | hpos
      · have hv : u5 = .slice none 0 0 := HV.out rfl
        subst hv
        have hap := fun ty => run_append_room_src (P := Try.prog) (w := wr.alloc (.cells #[.int .u8 (d : Int)] 5)) 189 189 ty 5 i0 Try.underlying189 hi wr.heap.size 0 1 1 (.slice none 0 0) 0 [] (Src.ofNil _ Try.underlying189 0) (by omega) (fun j hj => by simp at hj) (fun j hj => by simp at hj)
        simp only [World.setCells] at hap
        go_wp2
        go_roundw
        case rel => exact ⟨1, a / 256, by omega, by go_num, by go_num, by omega, HA, Lib.hid ⟨by rw [HL.out]; exact hown1, HO.out.2.1.alloc HO.out.2.2 _, by simp; have := HO.out.2.2; omega⟩, Lib.hid (fun h => by omega)⟩
        case measure => simp [intOf]; omega
      · obtain ⟨g, c2, hv, h1, h2, h3, h4⟩ := own_slice HO.out.1 hpos
        subst hv
        have H4 := Lib.hid h4
        have hgl : g < wr.heap.size := by
          exact block_lt_of_cell (H4.out 0 _ (bl_get _ 0 _ (lowb_get x k 0 hpos)))
        have hnw : ∀ j u, (bl (lowb x k))[j]? = some u → (wr.alloc (.cells #[.int .u8 (d : Int)] 5)).cell? ((⟨g, 0, none⟩ : Addr).add j) = some u := by
          intro j u hu
          have h6 := H4.out j u hu
          rw [Addr.add_lit, Nat.zero_add, World.cell?_alloc_some _ _ _ (by rw [h6]; rfl)]
          exact h6
        clear h4
        go_wp2_with (first
          | (at_builtin; refine wpList_append_own _ rfl _ _ 189 rfl N 5 i0 _ 1 1 Try.underlying189 hi hz0 hz1 hz2 rfl (by omega) _ 1 [.int .u8 (d : Int)] rfl hown1 ⟨g, 0, none⟩ k c2 (bl (lowb x k)) rfl (by simp [bl, lowb_len]) hnw (bl_one _) (by unfold maxLen; omega) (by omega) (by simp; have := HO.out.2.2; omega) ?_; rotate_left; intro v1 w6 hown6 hg6 _))
        go_roundw
        case rel => exact ⟨k + 1, a / 256, by omega, by go_num, by go_num, by omega, HA, Lib.hid ⟨by rw [HL.out, Nat.add_comm]; exact hown6, (HO.out.2.1.alloc HO.out.2.2 _).grown hg6 (by simp; have := HO.out.2.2; omega) (fun b hb => own_block hown1 hb.symm), Nat.le_trans (by simp; have := HO.out.2.2; omega) hg6.size⟩, Lib.hid (fun h => by omega)⟩
        case measure => simp [intOf]; omega
    · obtain rfl : k = m := by omega
      go_wp2
      go_ret
      exact ⟨_, rfl, HO.out.1, HO.out.2.1⟩
end Go.Proofs.Ytcbanemkjebdcaa
