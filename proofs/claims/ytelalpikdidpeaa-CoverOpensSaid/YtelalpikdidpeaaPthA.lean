/-
  The path to a node, the program's: its contract.
-/
import Derived.Test.YtelalpikdidpeaaLevB
import Derived.RangeFuncNested
import Derived.RangeFuncBound
import Derived.RangeFuncCalls
import Derived.RangeFuncLeaves
import Derived.Shelf.Abstract
import Derived.Shelf.RegionOpen
import Derived.OwnWalkIn
import Derived.TacticsInMore
import Derived.LoopNIn
import Derived.LoopIn
namespace Go.Proofs.Ytelalpikdidpeaa
open Go.RowKit Go.Shelf TR
set_option linter.unusedVariables false
set_option linter.unusedSimpArgs false
attribute [local go_sem] Oper.semAt_some

/-- A node. -/
abbrev Nd := { x : Nat // 1 ≤ x ∧ x < 256 }
def nenc (x : Nd) : Array Value := #[.int .i64 (x.1 : Int)]
/-- The first k nodes from level l on, on the path to v. -/
def pl (v l k : Nat) : List Nat := (List.range k).map fun i => nat_ v (l + i)
theorem pl_snoc (v l k : Nat) : pl v l (k + 1) = pl v l k ++ [nat_ v (l + k)] := by unfold pl; rw [List.range_succ, List.map_append]; rfl
theorem chk_nat : ((List.range 256).all fun v => (List.range 8).all fun l => v == 0 || decide (lv v < l) || (decide (1 ≤ nat_ v l) && decide (nat_ v l ≤ v) && decide (lv (nat_ v l) = l))) = true := by decide +kernel
theorem nat_ok (v l : Nat) (h1 : 1 ≤ v) (hv : v < 256) (hl : l ≤ lv v) : 1 ≤ nat_ v l ∧ nat_ v l ≤ v ∧ lv (nat_ v l) = l := by
  have h := chk_nat
  simp only [List.all_eq_true, List.mem_range] at h
  have h3 := h v hv l (by have := lv_lt v hv; omega)
  simp [show v ≠ 0 by omega, show ¬ lv v < l by omega] at h3
  exact ⟨h3.1.1, h3.1.2, h3.2⟩

theorem path_any (v l : Int) (w : World) :
    Calls Try.prog 96 #[.int .i64 v, .int .i64 l] w fun e w' => e = .returned (.func (.func 133) #[] #[.pointer (some ⟨w.heap.size + 1, 0, none⟩), .pointer (some ⟨w.heap.size, 0, none⟩)]) ∧ w' = (w.alloc (.cells #[.int .i64 v] 125)).alloc (.cells #[.int .i64 l] 3) := by
  have hmf : ∀ (fn : Fn) (first cap : Array Value) (w : World), (Instr.makeFunc fn first cap).run Try.prog w = .ok (.func fn first cap) w := fun _ _ _ _ => rfl
  go_enter Try.func96, Try.ntmps96
  go_wp2
  go_ret
  exact ⟨rfl, rfl⟩

/-- What a round of the loop keeps: the two boxes of the iterator. -/
def Kp2 (B b : Nat) (W W' : World) : Prop := W'.heap[B]? = W.heap[B]? ∧ W'.heap[b]? = W.heap[b]?

set_option maxRecDepth 100000 in
set_option maxHeartbeats 2000000 in
theorem path_stops (m : Nat) (hm : 1 ≤ m) (bl bv v l : Nat) (w : World) (h1 : 1 ≤ v) (hv : v < 256) (hl : l ≤ lv v + 1) (hB1 : w.cell? ⟨bv, 0, none⟩ = some (.int .i64 (v : Int))) (hB2 : w.cell? ⟨bl, 0, none⟩ = some (.int .i64 (l : Int))) :
    SeqStopsK Fence.wide m Try.prog 133 #[.pointer (some ⟨bl, 0, none⟩), .pointer (some ⟨bv, 0, none⟩)] nenc (Kp2 bl bv) (fun xs => xs.map (·.1) = pl v l (lv v + 1 - l)) (fun pre => ∃ k, k ≤ lv v + 1 - l ∧ pre.map (·.1) = pl v l k) 9 w := fun l' J Jx W hW hJ hJx hYd h0 => by
  have H1 := Lib.hid ((hW.cell (p := ⟨bv, 0, none⟩) (World.block_lt_of_cell? w _ hB1)).trans hB1)
  have H2 := Lib.hid ((hW.cell (p := ⟨bl, 0, none⟩) (World.block_lt_of_cell? w _ hB2)).trans hB2)
  have HLv := Lib.hid (fun w => level_any v w h1 hv)
  have HAt := Lib.hid (fun (i : Nat) (w : World) (hi : i ≤ lv v) => at_any v i w h1 hv hi)
  have HNo := Lib.hid (fun (i : Nat) (hi : i ≤ lv v) => nat_ok v i h1 hv hi)
  have HV := Lib.hid hv
  have hl8 := lv_lt v hv
  obtain ⟨q, hq⟩ : ∃ q, q = lv v := ⟨_, rfl⟩
  rw [← hq] at HLv HAt HNo hl8 hl ⊢
  have g0 := H1.out
  have g1 := H2.out
  clear hB1 hB2 hq h1 hv
  refine callsIn_of_wp Try.func133 rfl trivial ?_ rfl
  simp only [Try.ntmps133, List.size_toArray, List.length_cons, List.length_nil, Nat.reduceAdd, Nat.reduceSub, Array.replicate_succ, Array.replicate_zero, List.push_toArray, List.append_toArray, List.nil_append, List.cons_append]
  gi_wp2_with fail
  gi_loopw [4] (fun i wr => ∃ (k : Nat) (pre : List Nd), k ≤ q + 1 - l ∧ i = .int .i64 ((l + k : Nat) : Int) ∧ Hid (pre.map (·.1) = pl v l k) ∧ Hid (J pre wr) ∧ Hid (wr.cell? ⟨bv, 0, none⟩ = some (.int .i64 (v : Int)) ∧ wr.cell? ⟨bl, 0, none⟩ = some (.int .i64 (l : Int)))) (fun i _ => q + 1 - (intOf i).toNat)
  case atStart => exact ⟨0, [], by omega, rfl, Lib.hid rfl, Lib.hid h0, Lib.hid ⟨H1.out, H2.out⟩⟩
  case round =>
    obtain ⟨k, pre, hk, rfl, HP, HJs, HC⟩ := hrel
    clear g0 g1
    have g0 := HC.out.1
    obtain ⟨i, hi⟩ : ∃ i, i = l + k := ⟨_, rfl⟩
    have HI := Lib.hid hi
    rw [← hi]
    by_cases hlt : i ≤ q
    · have hlen : pre.length < 9 := by have := congrArg List.length HP.out; simp [pl] at this; omega
      have hno := HNo.out i hlt
      have HAi := Lib.hid (fun w => HAt.out i w hlt)
      have HSn : Hid (pl v l (k + 1) = pl v l k ++ [nat_ v i]) := Lib.hid (by rw [hi]; exact pl_snoc v l k)
      obtain ⟨y, hy0⟩ : ∃ y, y = nat_ v i := ⟨_, rfl⟩
      rw [← hy0] at hno HAi HSn
      obtain ⟨x, hx⟩ : ∃ x : Nd, x.1 = y := ⟨⟨y, hno.1, by have := HV.out; omega⟩, rfl⟩
      obtain ⟨fn, tmps, assign, body, hy, hR⟩ := hYd pre x wr HJs.out hlen
      have HR := Lib.hid hR
      dsimp only [nenc] at hy
      rw [hx] at hy
      have HX := Lib.hid hx
      have hle' : (i : Int) ≤ (q : Int) := by omega
      clear hx hy0 hR hlen hno hi
      gi_wp2_with fail
      refine ⟨trivial, (callsIn_wide.2 (HLv.out _)).mono ?_⟩
      rintro e w' ⟨rfl, rfl⟩
      gi_wp2_with fail
      refine ⟨trivial, (callsIn_wide.2 (HAi.out _)).mono ?_⟩
      rintro e w' ⟨rfl, rfl⟩
      gi_wp2_with fail
      refine HR.out.mono ?_
      rintro e W3 (⟨rfl, hJ3, hKp⟩ | ⟨rfl, hJx3⟩)
      · have HC3 : Hid (W3.cell? ⟨bv, 0, none⟩ = some (.int .i64 (v : Int)) ∧ W3.cell? ⟨bl, 0, none⟩ = some (.int .i64 (l : Int))) := Lib.hid ⟨(World.cell?_of_block (a := ⟨bv, 0, none⟩) hKp.2).trans HC.out.1, (World.cell?_of_block (a := ⟨bl, 0, none⟩) hKp.1).trans HC.out.2⟩
        clear g0 hKp
        gi_wp2_with fail
        go_roundw
        case rel => exact ⟨k + 1, pre ++ [x], by have := HI.out; omega, by have := HI.out; go_num, Lib.hid (by rw [List.map_append, HP.out, HSn.out]; simp [HX.out]), Lib.hid hJ3, HC3⟩
        case measure => simp [intOf]; omega
      · gi_wp2_with fail
        refine bodyPost_ret (results_none rfl _ _ _) rfl ?_
        exact ⟨⟨_, rfl⟩, .inr ⟨_, ⟨k + 1, by have := HI.out; omega, by rw [List.map_append, HP.out, HSn.out]; simp [HX.out]⟩, hJx3⟩⟩
    · have hle' : (q : Int) < (i : Int) := by omega
      have HK : Hid (k = q + 1 - l) := Lib.hid (by omega)
      clear hi
      gi_wp2_with fail
      refine ⟨trivial, (callsIn_wide.2 (HLv.out _)).mono ?_⟩
      rintro e w' ⟨rfl, rfl⟩
      gi_wp2_with fail
      go_end0
      exact ⟨⟨_, rfl⟩, .inl ⟨pre, by rw [HP.out, HK.out], HJs.out⟩⟩
end Go.Proofs.Ytelalpikdidpeaa
