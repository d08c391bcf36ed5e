/-
  The iterator over the round keys: its contract.
-/
import Derived.Test.YtcbanemkjebdcaaKeyC
import Derived.RangeFuncNested
import Derived.RangeFuncBound
import Derived.RangeFuncCalls
import Derived.RangeFuncLeaves
import Derived.Shelf.Abstract
import Derived.Shelf.RegionOpen
import Derived.OwnWalkIn
import Derived.TacticsInMore
import Derived.LoopNIn
import Derived.LoopIn
namespace Go.Proofs.Ytcbanemkjebdcaa
open Go.RowKit Go.Shelf SP
attribute [local go_sem] Oper.semAt_some

/-- A word. -/
abbrev W64 := { x : Nat // x < M }
def encs (x : W64) : Array Value := #[.int .u64 (x.1 : Int)]

theorem grownBy_of_below {w w' : World} (h : Below w.heap.size w w') : w.grownBy w' none :=
  ⟨h.os, h.tape, h.output, h.size, fun k hk _ => h.block k hk⟩

theorem roundKeys_any (X Y : Nat) (w : World) :
    Calls Try.prog 110 #[.agg (kl X Y).toArray] w fun e w' => e = .returned (.func (.func 142) #[] #[.pointer (some ⟨w.heap.size, 0, none⟩)]) ∧ w' = w.alloc (.cells (kl X Y).toArray 23) := by
  have hmf : ∀ (fn : Fn) (first cap : Array Value) (w : World), (Instr.makeFunc fn first cap).run Try.prog w = .ok (.func fn first cap) w := fun _ _ _ _ => rfl
  go_enter Try.func110, Try.ntmps110
  go_wp2
  go_ret
  exact ⟨rfl, rfl⟩

set_option maxRecDepth 100000 in
set_option maxHeartbeats 2000000 in
theorem keys_stops (n : Nat) (hn : 1 ≤ n) (X Y b : Nat) (w : World) (hX : X < M) (hY : Y < M) (hK : KeyAt w b X Y) :
    SeqStopsK Fence.wide n Try.prog 142 #[.pointer (some ⟨b, 0, none⟩)] encs (fun _ _ => True) (fun xs => xs.map (·.1) = (List.range 32).map (rk X Y)) (fun _ => True) 32 w := fun l J Jx W hW hJ hJx hYd h0 => by
  have HK := Lib.hid (hK.keep hW)
  have HX := Lib.hid hX
  have HY := Lib.hid hY
  clear hK hX hY
  refine callsIn_of_wp Try.func142 rfl trivial ?_ rfl
  simp only [Try.ntmps142, List.size_toArray, List.length_cons, List.length_nil, Nat.reduceAdd, Nat.reduceSub, Array.replicate_succ, Array.replicate_zero, List.push_toArray, List.append_toArray, List.nil_append, List.cons_append]
  refine wpIn_wide.2 ?_
  go_wp2_with (refine wpList_load_key rfl _ rfl _ rfl X Y HK.out ?_)
  refine (split_any X Y W HX.out HY.out).mono ?_
  rintro e w1 ⟨rfl, hb1⟩
  have HJ1 := Lib.hid (hJ [] W w1 none h0 (grownBy_of_below hb1) (fun r e => by cases e))
  go_wp2_with fail
  refine (wpIn_wide (n := n)).1 ?_
  gi_loopw [3, 4, 11] (fun x y i wr => ∃ (k a c : Nat) (pre : List W64), k ≤ 32 ∧ i = .int .u64 (k : Int) ∧ x = .int .u64 (a : Int) ∧ y = .int .u64 (c : Int) ∧ Hid (a = (kst X Y k).1 ∧ c = (kst X Y k).2) ∧ Hid (pre.map (·.1) = (List.range k).map (rk X Y)) ∧ Hid (J pre wr)) (fun _ _ i _ => 32 - (intOf i).toNat)
  case atStart => exact ⟨0, X, Y, [], by omega, rfl, rfl, rfl, Lib.hid ⟨rfl, rfl⟩, Lib.hid rfl, HJ1⟩
  case round =>
    obtain ⟨k, a, c, pre, hk, rfl, rfl, rfl, HI, HP, HJs⟩ := hrel
    by_cases hlt : k < 32
    · have ha : a < M := by rw [HI.out.1]; exact (kst_ok HX.out HY.out k (by omega)).1
      have hc : c < M := by rw [HI.out.2]; exact (kst_ok HX.out HY.out k (by omega)).2
      have hlen : pre.length < 32 := by have := congrArg List.length HP.out; simp at this; omega
      obtain ⟨fn, tmps, assign, body, hy, hR⟩ := hYd pre ⟨c, hc⟩ wr HJs.out hlen
      have HR := Lib.hid hR
      clear hR hlen
      dsimp only [encs] at hy
      have hrnd := Lib.hid (fun w => round_any a c k w ha hc (by unfold M; omega))
      clear ha
      gi_wp2_with fail
      refine HR.out.mono ?_
      rintro e W3 (⟨rfl, hJ3, _⟩ | ⟨rfl, hJx3⟩)
      · gi_wp2_with fail
        refine ⟨trivial, (callsIn_wide.2 (hrnd.out _)).mono ?_⟩
        rintro e w' ⟨rfl, rfl⟩
        gi_wp2_with fail
        go_roundw
        case rel => exact ⟨k + 1, _, _, pre ++ [⟨c, hc⟩], by omega, by go_num, rfl, rfl, Lib.hid ⟨by rw [kst, HI.out.1, HI.out.2]; rfl, by rw [kst, HI.out.1, HI.out.2]; rfl⟩, Lib.hid (by rw [List.map_append, HP.out, List.range_succ, List.map_append]; simp [rk, HI.out.2]), Lib.hid hJ3⟩
        case measure => simp [intOf]; omega
      · gi_wp2_with fail
        refine bodyPost_ret (results_none rfl _ _ _) rfl ?_
        exact ⟨⟨_, rfl⟩, .inr ⟨_, trivial, hJx3⟩⟩
    · obtain rfl : k = 32 := by omega
      gi_wp2_with fail
      go_end0
      exact ⟨⟨_, rfl⟩, .inl ⟨pre, HP.out, HJs.out⟩⟩

end Go.Proofs.Ytcbanemkjebdcaa
