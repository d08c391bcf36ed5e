/-
  slices.Chunk at portions of 16 bytes: its contract.
-/
import Derived.Test.YtphhppdokdageaaRnd
import Derived.Test.YtphhppdokdageaaKeyE
import Derived.WalkLawsBesides
import Derived.Deep.RegionHeld3
namespace Go.Proofs.Ytphhppdokdageaa
open Go.RowKit Go.Shelf SP
attribute [local go_sem] Oper.semAt_some

/-- Where a slice begins. -/
def adr : Option Addr → Nat × Nat
  | some ⟨b, off, _⟩ => (b, off)
  | none => (0, 0)
/-- The length of a portion. -/
def pln (n k : Nat) : Nat := min 16 (n - 16 * k)
/-- The index of a portion of n bytes. -/
abbrev Part (n : Nat) := { k : Nat // 16 * k < n }
def pencs (b off n : Nat) (x : Part n) : Array Value := #[.slice (some ⟨b, off + 16 * x.1, none⟩) (pln n x.1) (pln n x.1)]
/-- How many portions there are. -/
def cnt (n : Nat) : Nat := (n + 15) / 16

theorem chunk_any (A : Option Addr) (n c : Nat) (w : World) :
    Calls Try.prog 41 #[.slice A n c, .int .i64 16] w fun e w' => e = .returned (.func (.func 68) #[] #[.pointer (some ⟨w.heap.size, 0, none⟩), .pointer (some ⟨w.heap.size + 1, 0, none⟩)]) ∧ w' = (w.alloc (.cells #[.slice A n c] 26)).alloc (.cells #[.int .i64 16] 3) := by
  have hmf : ∀ (fn : Fn) (first cap : Array Value) (w : World), (Instr.makeFunc fn first cap).run Try.prog w = .ok (.func fn first cap) w := fun _ _ _ _ => rfl
  go_enter Try.func41, Try.ntmps41
  go_wp2
  go_ret
  exact ⟨rfl, rfl⟩

/-- What a round of the loop keeps: the iterator's two boxes. -/
def KpB (B : Nat) (W W' : World) : Prop := W'.heap[B]? = W.heap[B]? ∧ W'.heap[B + 1]? = W.heap[B + 1]?

set_option maxRecDepth 100000 in
set_option maxHeartbeats 2000000 in
theorem chunk_stops (m : Nat) (hm : 1 ≤ m) (b off n c B : Nat) (w : World) (hn2 : n ≤ 1000000) (hn : n ≤ c) (hc : c ≤ maxLen) (hB1 : w.cell? ⟨B, 0, none⟩ = some (.slice (some ⟨b, off, none⟩) n c)) (hB2 : w.cell? ⟨B + 1, 0, none⟩ = some (.int .i64 16)) :
    SeqStopsK Fence.wide m Try.prog 68 #[.pointer (some ⟨B, 0, none⟩), .pointer (some ⟨B + 1, 0, none⟩)] (pencs b off n) (KpB B) (fun xs => xs.map (·.1) = List.range (cnt n)) (fun _ => True) (cnt n) w := fun l J Jx W hW hJ hJx hYd h0 => by
  have H1 := Lib.hid ((hW.cell (p := ⟨B, 0, none⟩) (World.block_lt_of_cell? w _ hB1)).trans hB1)
  have H2 := Lib.hid ((hW.cell (p := ⟨B + 1, 0, none⟩) (World.block_lt_of_cell? w _ hB2)).trans hB2)
  have hcap := hc
  unfold maxLen at hcap
  have hJd : ∀ pre W1, J pre W1 → J pre W1.drew := fun pre W1 h => hJ pre W1 W1.drew none h (grownBy_of_below ((Below.refl _ _).drew)) (fun r e => by cases e)
  clear hB1 hB2 hc
  refine callsIn_of_wp Try.func68 rfl trivial ?_ rfl
  simp only [Try.ntmps68, List.size_toArray, List.length_cons, List.length_nil, Nat.reduceAdd, Nat.reduceSub, Array.replicate_succ, Array.replicate_zero, List.push_toArray, List.append_toArray, List.nil_append, List.cons_append]
  gi_wp2_with fail
  gi_loopw [4] (fun i wr => ∃ (k : Nat) (pre : List (Part n)), k ≤ cnt n ∧ i = .int .i64 ((16 * k : Nat) : Int) ∧ Hid (pre.map (·.1) = List.range k) ∧ Hid (J pre wr) ∧ Hid (wr.cell? ⟨B, 0, none⟩ = some (.slice (some ⟨b, off, none⟩) n c) ∧ wr.cell? ⟨B + 1, 0, none⟩ = some (.int .i64 16))) (fun i _ => 16 * cnt n - (intOf i).toNat)
  case atStart => exact ⟨0, [], by omega, rfl, Lib.hid rfl, Lib.hid h0, Lib.hid ⟨H1.out, H2.out⟩⟩
  case round =>
    obtain ⟨k, pre, hk, rfl, HP, HJs, HC⟩ := hrel
    have g1 := HC.out.1
    have g2 := HC.out.2
    by_cases hlt : 16 * k < n
    · have hlen : pre.length < cnt n := by have := congrArg List.length HP.out; simp at this; unfold cnt; omega
      obtain ⟨x, hx⟩ : ∃ x : Part n, x.1 = k := ⟨⟨k, hlt⟩, rfl⟩
      obtain ⟨fn, tmps, assign, body, hy, hR⟩ := hYd pre x wr.drew (hJd _ _ HJs.out) hlen
      have HR := Lib.hid hR
      dsimp only [pencs] at hy
      rw [hx] at hy
      have HX := Lib.hid hx
      clear hx
      clear hR hlen
      obtain ⟨q, hq⟩ : ∃ q, q = 16 * k := ⟨_, rfl⟩
      obtain ⟨p, hp⟩ : ∃ p, p = pln n k := ⟨_, rfl⟩
      have hpm : min 16 (n - q) = p := by rw [hp, hq]; rfl
      have hp2 : q + p ≤ n := by rw [← hpm]; omega
      have hqn0 : q < n := by rw [hq]; exact hlt
      have hp0 : 0 < p := by rw [← hpm]; omega
      have hp0' : p ≠ 0 := by omega
      have hqn : q < n := by rw [hq]; exact hlt
      rw [← hq] at hy ⊢
      rw [← hp] at hy
      have HQ := Lib.hid hq
      have l1 : (0 : Int) ≤ (q : Int) := by omega
      have l2 : (q : Int) ≤ (n : Int) := by omega
      have l3 : (q : Int) ≤ (c : Int) := by omega
      have HPM := Lib.hid hpm
      have HPp := Lib.hid hp
      clear hq hp hpm hlt
      gi_wp2_with fail
      refine (wpIn_wide (n := m)).2 ?_
      go_region_held3 (fun w' => w'.cell? ⟨B, 0, none⟩ = some (.slice (some ⟨b, off, none⟩) n c) ∧ w'.cell? ⟨B + 1, 0, none⟩ = some (.int .i64 16)) (go_keep) (fail)
      have hmin : (if ((n - q : Nat) : Int) < 16 then ((n - q : Nat) : Int) else 16) = (p : Int) := by
        have := HPM.out
        split <;> omega
      rw [hmin]
      have l4 : (q : Int) + (p : Int) ≤ (n : Int) := by omega
      have l5 : (q : Int) + (p : Int) ≤ (c : Int) := by omega
      have l6 : (0 : Int) ≤ (q : Int) + (p : Int) := by omega
      have g1' : wr.drew.cell? ⟨B, 0, none⟩ = some (.slice (some ⟨b, off, none⟩) n c) := g1
      have g2' : wr.drew.cell? ⟨B + 1, 0, none⟩ = some (.int .i64 16) := g2
      clear hmin g1 g2
      gi_wp2_with fail
      refine HR.out.mono ?_
      rintro e W3 (⟨rfl, hJ3, hKp⟩ | ⟨rfl, hJx3⟩)
      · have c1 : W3.cell? ⟨B, 0, none⟩ = some (.slice (some ⟨b, off, none⟩) n c) := (World.cell?_of_block (a := ⟨B, 0, none⟩) hKp.1).trans g1'
        have c2 : W3.cell? ⟨B + 1, 0, none⟩ = some (.int .i64 16) := (World.cell?_of_block (a := ⟨B + 1, 0, none⟩) hKp.2).trans g2'
        clear g1' g2' hKp
        gi_wp2_with fail
        go_roundw
        case rel => exact ⟨k + 1, pre ++ [x], by have := HQ.out; unfold cnt; omega, by have := HQ.out; simp; omega, Lib.hid (by rw [List.map_append, HP.out, List.range_succ]; simp [HX.out]), Lib.hid hJ3, Lib.hid ⟨c1, c2⟩⟩
        case measure => have := HQ.out; simp [intOf]; unfold cnt; omega
      · gi_wp2_with fail
        refine bodyPost_ret (results_none rfl _ _ _) rfl ?_
        exact ⟨⟨_, rfl⟩, .inr ⟨_, trivial, hJx3⟩⟩
    · have hkc : k = cnt n := by unfold cnt at hk ⊢; omega
      have hge : n ≤ 16 * k := by omega
      have HKC := Lib.hid hkc
      clear hkc
      gi_wp2_with fail
      go_end0
      exact ⟨⟨_, rfl⟩, .inl ⟨pre, by rw [HP.out, HKC.out], HJs.out⟩⟩

end Go.Proofs.Ytphhppdokdageaa
