/-
  The law's portions: a row of blocks.
-/
import Derived.Test.YtphhppdokdageaaPorB
import Derived.Laws.MakeOwn
namespace Go.Proofs.Ytphhppdokdageaa
open Go.RowKit SP
set_option linter.unusedVariables false
set_option linter.unusedSimpArgs false

theorem info23 : (Try.prog.info? 23).map (fun i => (i.zero, i.size, i.bytes)) = some (some (.agg z16), 16, 16) := by kernel_rfl
theorem made_get (m i : Nat) (h : i < m) : (madeCells (Value.agg z16).cells m)[i]? = some (.int .u8 0) := by
  have hz : (Value.agg z16).cells = z16 := by kernel_rfl
  have hj : i % 16 < 16 := Nat.mod_lt _ (by decide)
  rw [hz]
  unfold madeCells
  simp only [Array.getElem?_map]
  rw [show (Array.range m)[i]? = some i by simp [h]]
  have := z16_get (i % 16) hj
  simp only [Option.map_some]
  rw [show z16.size = 16 from rfl, getElem!_def, this]
theorem rown_made (w : World) (m : Nat) : RowN (w.alloc (.cells (madeCells (Value.agg z16).cells m) 23)) w.heap.size m (fun _ => 0) where
  cell i hi := by rw [cell_of_row _ _ i _ 23 _ (heap_alloc_new w _), made_get m i hi]; rfl
  fr i hi := by unfold World.frozen?; rw [heap_alloc_new]; simp

set_option maxRecDepth 100000 in
set_option maxHeartbeats 1000000 in
theorem portions_any (A : Option Addr) (n c : Nat) (g : Nat → Nat) (w : World) (hb : Byt w A n c g) (hn : n ≤ 1000000) :
    Calls Try.prog 40 #[.slice A n c] w fun e w' => e = .returned (.slice (some ⟨w.heap.size, 0, none⟩) (cnt n) (cnt n)) ∧ Below w.heap.size w w' ∧ RowN w' w.heap.size (16 * cnt n) (fun i => if i < n then g i else 0) := by
  obtain ⟨i0, hi, hz0, hz1, hz2⟩ := info_parts info23
  have h1 : ((n : Int) + 15) / 16 = ((cnt n : Nat) : Int) := by unfold cnt; omega
  have h2 : ((n : Int) + 15).tdiv 16 = ((cnt n : Nat) : Int) := by rw [Int.tdiv_eq_ediv_of_nonneg (by omega)]; exact h1
  have hcn : cnt n ≤ 70000 := by unfold cnt; omega
  obtain ⟨N, hN⟩ : ∃ N, N = w.heap.size := ⟨_, rfl⟩
  obtain ⟨W1, hW1⟩ : ∃ W1, W1 = w.alloc (.cells (madeCells (Value.agg z16).cells (cnt n * 16)) 23) := ⟨_, rfl⟩
  have hmk : (Instr.makeSlice 58 (.int .i64 ((cnt n : Nat) : Int)) (.int .i64 ((cnt n : Nat) : Int))).run Try.prog w = .ok (.slice (some ⟨N, 0, none⟩) (cnt n) (cnt n)) W1 := by
    have h := run_make (P := Try.prog) w 58 23 i0 _ Try.underlying58 hi hz0 .i64 .i64 ((cnt n : Nat) : Int) ((cnt n : Nat) : Int) (by omega) (by omega) (by rw [hz2]; omega) (by omega)
    rw [hz1] at h
    rw [hW1, hN]
    exact h
  have HB : Hid (Below N w W1) := Lib.hid (by rw [hW1, hN]; exact (Below.refl _ _).alloc (Nat.le_refl _) _)
  have HR : Hid (RowN W1 N (16 * cnt n) (fun _ => 0)) := Lib.hid (by rw [hW1, hN, Nat.mul_comm 16]; exact rown_made w _)
  have HN := Lib.hid hN
  have HY := Lib.hid hb
  have HC := Lib.hid (show n ≤ 16 * cnt n by unfold cnt; omega)
  rw [← hN]
  clear hW1 hN hb hi hz0 hz1 hz2
  go_enter Try.func40, Try.ntmps40
  go_wp2
  go_loopw [4] (fun i wr => ∃ (k : Nat) (f : Nat → Nat), k ≤ n ∧ i = .int .i64 (k : Int) ∧ Hid (Below N w wr) ∧ Hid (RowN wr N (16 * cnt n) f ∧ ∀ i, f i = if i < k then g i else 0)) (fun i _ => n - (intOf i).toNat)
  case atStart => exact ⟨0, _, by omega, rfl, HB, Lib.hid ⟨HR.out, fun i => by rw [if_neg (by omega)]⟩⟩
  case round =>
    obtain ⟨k, f, hk, rfl, HB7, HI⟩ := hrel
    have lk : (0 : Int) ≤ (k : Int) := by omega
    by_cases hlt : k < n
    · have hYr := HY.out.keep (by rw [← HN.out]; exact HB7.out)
      obtain ⟨b, off, rfl, hc⟩ := hYr.at_ (by omega)
      have hbN : b < N := by
        obtain ⟨b2, off2, e, hc2⟩ := HY.out.at_ (by omega)
        injection e with e
        injection e with e1 e2
        subst e1
        rw [HN.out]; exact block_lt_of_cell (hc2 k hlt)
      have t1 : decide ((k : Int) < (n : Int)) = true := decide_eq_true (by omega)
      have t2 : decide (k < n) = true := decide_eq_true hlt
      have c1 := hc k hlt
      obtain ⟨p, hp⟩ : ∃ p, p = k / 16 := ⟨_, rfl⟩
      obtain ⟨q, hq⟩ : ∃ q, q = k % 16 := ⟨_, rfl⟩
      have e1 : (k : Int) / 16 = (p : Int) := by omega
      have e2 : (k : Int).tdiv 16 = (p : Int) := by rw [Int.tdiv_eq_ediv_of_nonneg (by omega)]; omega
      have e3 : (k : Int) % 16 = (q : Int) := by omega
      have e4 : (k : Int).tmod 16 = (q : Int) := by rw [Int.tmod_eq_emod_of_nonneg (by omega)]; omega
      have ek : p * 16 + q = k := by omega
      have hkc : k < 16 * cnt n := by have := HC.out; omega
      have c2 := HI.out.1.cell k hkc
      have f2 := HI.out.1.fr k hkc
      rw [← ek] at c2 f2
      have c2' : wr.drew.cell? ⟨N, p * 16 + q, none⟩ = _ := c2
      have f2' : wr.drew.frozen? ⟨N, p * 16 + q, none⟩ = _ := f2
      have c1' : wr.drew.cell? ⟨b, off + k, none⟩ = _ := c1
      clear c1 c2 f2
      have l1 : (0 : Int) ≤ (p : Int) := by omega
      have l2 : (p : Int) < ((cnt n : Nat) : Int) := by omega
      have l3 : (0 : Int) ≤ (q : Int) := by omega
      have l4 : (q : Int) < 16 := by omega
      have l5 : (k : Int) < (n : Int) := by omega
      have HEK := Lib.hid ek
      clear hp hq hYr hc ek hkc
      go_wp2
      go_region
      all_goals go_wp2
      all_goals go_roundw
      case rel =>
        refine ⟨k + 1, _, by omega, by go_num, Lib.hid ((HB7.out.drew).setCell (p := ⟨N, p * 16 + q, none⟩) (Nat.le_refl _) _), Lib.hid ⟨(HI.out.1.drew).set (p * 16 + q) (g k) (by have := HEK.out; have := HC.out; omega), fun i => ?_⟩⟩
        rw [HEK.out]
        by_cases e : i = k
        · subst e; rw [if_pos rfl, if_pos (by omega)]
        · rw [if_neg e, HI.out.2 i]
          by_cases e2 : i < k
          · rw [if_pos e2, if_pos (by omega)]
          · rw [if_neg e2, if_neg (by omega)]
      case measure => simp [intOf]; omega
    · obtain rfl : k = n := by omega
      have t1 : decide ((k : Int) < (k : Int)) = false := decide_eq_false (by omega)
      go_wp2
      go_ret
      exact ⟨rfl, HB7.out, HI.out.1.ext fun i _ => HI.out.2 i⟩
end Go.Proofs.Ytphhppdokdageaa
