/-
  slices.Backward over numbers: its contract.
-/
import Derived.Test.YtcbanemkjebdcaaRnd
import Derived.Test.YtcbanemkjebdcaaKeyE
import Derived.WalkLawsBesides
import Derived.Deep.RegionHeld3
namespace Go.Proofs.Ytcbanemkjebdcaa
open Go.RowKit Go.Shelf SP
attribute [local go_sem] Oper.semAt_some

abbrev Idx (n : Nat) := { k : Nat // k < n }
def iencs (f : Nat → Nat) (n : Nat) (x : Idx n) : Array Value := #[.int .i64 (x.1 : Int), .int .u64 (f x.1 : Int)]

theorem backward_any (A : Option Addr) (n c : Nat) (w : World) :
    Calls Try.prog 99 #[.slice A n c] w fun e w' => e = .returned (.func (.func 137) #[] #[.pointer (some ⟨w.heap.size, 0, none⟩)]) ∧ w' = w.alloc (.cells #[.slice A n c] 29) := by
  have hmf : ∀ (fn : Fn) (first cap : Array Value) (w : World), (Instr.makeFunc fn first cap).run Try.prog w = .ok (.func fn first cap) w := fun _ _ _ _ => rfl
  go_enter Try.func99, Try.ntmps99
  go_wp2
  go_ret
  exact ⟨rfl, rfl⟩

/-- What a round of the loop keeps: the iterator's box, and the numbers. -/
def Kp2 (B b : Nat) (W W' : World) : Prop := W'.heap[B]? = W.heap[B]? ∧ W'.heap[b]? = W.heap[b]?

set_option maxRecDepth 100000 in
set_option maxHeartbeats 2000000 in
theorem back_stops (m : Nat) (hm : 1 ≤ m) (b n c B : Nat) (f : Nat → Nat) (w : World) (hn0 : 0 < n) (hn : n ≤ c) (hc : c ≤ maxLen) (hB1 : w.cell? ⟨B, 0, none⟩ = some (.slice (some ⟨b, 0, none⟩) n c)) (hcl : ∀ i, i < n → w.cell? ⟨b, i, none⟩ = some (.int .u64 (f i : Int))) :
    SeqStopsK Fence.wide m Try.prog 137 #[.pointer (some ⟨B, 0, none⟩)] (iencs f n) (Kp2 B b) (fun xs => xs.map (·.1) = (List.range n).map fun i => n - 1 - i) (fun _ => True) n w := fun l J Jx W hW hJ hJx hYd h0 => by
  have H1 := Lib.hid ((hW.cell (p := ⟨B, 0, none⟩) (World.block_lt_of_cell? w _ hB1)).trans hB1)
  have H2 : Hid (∀ i, i < n → W.cell? ⟨b, i, none⟩ = some (.int .u64 (f i : Int))) := Lib.hid (fun i hi => (hW.cell (p := ⟨b, i, none⟩) (World.block_lt_of_cell? w _ (hcl i hi))).trans (hcl i hi))
  have hcap : n ≤ 9223372036854775807 := by unfold maxLen at hc; omega
  have g0 := H1.out
  clear hB1 hcl hc
  refine callsIn_of_wp Try.func137 rfl trivial ?_ rfl
  simp only [Try.ntmps137, List.size_toArray, List.length_cons, List.length_nil, Nat.reduceAdd, Nat.reduceSub, Array.replicate_succ, Array.replicate_zero, List.push_toArray, List.append_toArray, List.nil_append, List.cons_append]
  gi_wp2_with fail
  gi_loopw [3] (fun i wr => ∃ (k : Nat) (pre : List (Idx n)), k ≤ n ∧ i = .int .i64 ((n : Int) - 1 - (k : Int)) ∧ Hid (pre.map (·.1) = (List.range k).map fun i => n - 1 - i) ∧ Hid (J pre wr) ∧ Hid (wr.cell? ⟨B, 0, none⟩ = some (.slice (some ⟨b, 0, none⟩) n c) ∧ ∀ i, i < n → wr.cell? ⟨b, i, none⟩ = some (.int .u64 (f i : Int)))) (fun i _ => (intOf i + 1).toNat)
  case atStart => exact ⟨0, [], by omega, by simp, Lib.hid rfl, Lib.hid h0, Lib.hid ⟨H1.out, H2.out⟩⟩
  case round =>
    obtain ⟨k, pre, hk, rfl, HP, HJs, HC⟩ := hrel
    by_cases hlt : k < n
    · have hlen : pre.length < n := by have := congrArg List.length HP.out; simp at this; omega
      obtain ⟨q, hq⟩ : ∃ q, q = n - 1 - k := ⟨_, rfl⟩
      have hqi : (n : Int) - 1 - (k : Int) = (q : Int) := by omega
      rw [hqi]
      have hqn : q < n := by omega
      obtain ⟨x, hx⟩ : ∃ x : Idx n, x.1 = q := ⟨⟨q, hqn⟩, rfl⟩
      obtain ⟨fn, tmps, assign, body, hy, hR⟩ := hYd pre x wr HJs.out hlen
      have HR := Lib.hid hR
      dsimp only [iencs] at hy
      rw [hx] at hy
      have HX := Lib.hid hx
      have HQ := Lib.hid hq
      have g1 := HC.out.1
      have g2 := HC.out.2 q hqn
      obtain ⟨p, hp⟩ : ∃ p, p = f q := ⟨_, rfl⟩
      rw [← hp] at hy g2
      have l1 : (0 : Int) ≤ (q : Int) := by omega
      have l2 : (q : Int) < (n : Int) := by omega
      have HL := Lib.hid hlt
      clear hx hq hqi hp hR hlen hlt
      gi_wp2_with fail
      refine HR.out.mono ?_
      rintro e W3 (⟨rfl, hJ3, hKp⟩ | ⟨rfl, hJx3⟩)
      · have HC3 : Hid (W3.cell? ⟨B, 0, none⟩ = some (.slice (some ⟨b, 0, none⟩) n c) ∧ ∀ i, i < n → W3.cell? ⟨b, i, none⟩ = some (.int .u64 (f i : Int))) := Lib.hid ⟨(World.cell?_of_block (a := ⟨B, 0, none⟩) hKp.1).trans g1, fun i hi => (World.cell?_of_block (a := ⟨b, i, none⟩) hKp.2).trans (HC.out.2 i hi)⟩
        clear g1 g2 hKp
        gi_wp2_with fail
        go_roundw
        case rel => exact ⟨k + 1, pre ++ [x], by have := HL.out; omega, by have := HQ.out; have := HL.out; simp; omega, Lib.hid (by rw [List.map_append, HP.out, List.range_succ]; simp [HX.out, HQ.out]), Lib.hid hJ3, HC3⟩
        case measure => have := HQ.out; simp [intOf]
      · gi_wp2_with fail
        refine bodyPost_ret (results_none rfl _ _ _) rfl ?_
        exact ⟨⟨_, rfl⟩, .inr ⟨_, trivial, hJx3⟩⟩
    · obtain rfl : k = n := by omega
      rw [show (k : Int) - 1 - (k : Int) = -1 by omega]
      gi_wp2_with fail
      go_end0
      exact ⟨⟨_, rfl⟩, .inl ⟨pre, HP.out, HJs.out⟩⟩
end Go.Proofs.Ytcbanemkjebdcaa
