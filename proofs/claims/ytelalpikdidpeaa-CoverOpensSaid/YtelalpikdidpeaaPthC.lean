/-
  The path to a node, by levels.
-/
import Derived.Test.YtelalpikdidpeaaBox
namespace Go.Proofs.Ytelalpikdidpeaa
open Go.RowKit Go.Shelf TR
set_option linter.unusedVariables false
set_option linter.unusedSimpArgs false
attribute [local go_sem] Oper.semAt_some

/-- A level of a node's path. -/
abbrev Lev (q : Nat) := { j : Nat // j ≤ q }
def lenc (v q : Nat) (j : Lev q) : Array Value := #[.int .i64 (nat_ v j.1 : Int)]
/-- k levels from l on. -/
def lvl (l k : Nat) : List Nat := (List.range k).map fun i => l + i
theorem lvl_snoc (l k : Nat) : lvl l (k + 1) = lvl l k ++ [l + k] := by unfold lvl; rw [List.range_succ, List.map_append]; rfl

set_option maxRecDepth 100000 in
set_option maxHeartbeats 2000000 in
theorem path_lev (m : Nat) (hm : 1 ≤ m) (bl bv v q l : Nat) (w : World) (h1 : 1 ≤ v) (hv : v < 256) (hq : q = lv v) (hl : l ≤ q + 1) (hB1 : w.cell? ⟨bv, 0, none⟩ = some (.int .i64 (v : Int))) (hB2 : w.cell? ⟨bl, 0, none⟩ = some (.int .i64 (l : Int))) :
    SeqStopsK Fence.wide m Try.prog 133 #[.pointer (some ⟨bl, 0, none⟩), .pointer (some ⟨bv, 0, none⟩)] (lenc v q) (Kp2 bl bv) (fun xs => xs.map (·.1) = lvl l (q + 1 - l)) (fun pre => ∃ k, k ≤ q + 1 - l ∧ pre.map (·.1) = lvl l k) 9 w := fun l' J Jx W hW hJ hJx hYd h0 => by
  have H1 := Lib.hid ((hW.cell (p := ⟨bv, 0, none⟩) (World.block_lt_of_cell? w _ hB1)).trans hB1)
  have H2 := Lib.hid ((hW.cell (p := ⟨bl, 0, none⟩) (World.block_lt_of_cell? w _ hB2)).trans hB2)
  have HLv := Lib.hid (fun w => level_any v w h1 hv)
  have HAt := Lib.hid (fun (i : Nat) (w : World) (hi : i ≤ lv v) => at_any v i w h1 hv hi)
  have HNo := Lib.hid (fun (i : Nat) (hi : i ≤ lv v) => nat_ok v i h1 hv hi)
  have HV := Lib.hid hv
  have hl8 := lv_lt v hv
  rw [← hq] at HLv HAt HNo hl8
  have g0 := H1.out
  have g1 := H2.out
  clear hB1 hB2 hq h1 hv
  refine callsIn_of_wp Try.func133 rfl trivial ?_ rfl
  simp only [Try.ntmps133, List.size_toArray, List.length_cons, List.length_nil, Nat.reduceAdd, Nat.reduceSub, Array.replicate_succ, Array.replicate_zero, List.push_toArray, List.append_toArray, List.nil_append, List.cons_append]
  gi_wp2_with fail
  gi_loopw [4] (fun i wr => ∃ (k : Nat) (pre : List (Lev q)), k ≤ q + 1 - l ∧ i = .int .i64 ((l + k : Nat) : Int) ∧ Hid (pre.map (·.1) = lvl l k) ∧ Hid (J pre wr) ∧ Hid (wr.cell? ⟨bv, 0, none⟩ = some (.int .i64 (v : Int)) ∧ wr.cell? ⟨bl, 0, none⟩ = some (.int .i64 (l : Int)))) (fun i _ => q + 1 - (intOf i).toNat)
  case atStart => exact ⟨0, [], by omega, rfl, Lib.hid rfl, Lib.hid h0, Lib.hid ⟨H1.out, H2.out⟩⟩
  case round =>
    obtain ⟨k, pre, hk, rfl, HP, HJs, HC⟩ := hrel
    clear g0 g1
    have g0 := HC.out.1
    obtain ⟨i, hi⟩ : ∃ i, i = l + k := ⟨_, rfl⟩
    have HI := Lib.hid hi
    rw [← hi]
    by_cases hlt : i ≤ q
    · have hlen : pre.length < 9 := by have := congrArg List.length HP.out; simp [lvl] at this; omega
      have hno := HNo.out i hlt
      have HAi := Lib.hid (fun w => HAt.out i w hlt)
      have HSn : Hid (lvl l (k + 1) = lvl l k ++ [i]) := Lib.hid (by rw [hi]; exact lvl_snoc l k)
      obtain ⟨y, hy0⟩ : ∃ y, y = nat_ v i := ⟨_, rfl⟩
      rw [← hy0] at hno HAi
      obtain ⟨x, hx⟩ : ∃ x : Lev q, x.1 = i := ⟨⟨i, hlt⟩, rfl⟩
      obtain ⟨fn, tmps, assign, body, hy, hR⟩ := hYd pre x wr HJs.out hlen
      have HR := Lib.hid hR
      dsimp only [lenc] at hy
      rw [hx, ← hy0] at hy
      have HX := Lib.hid hx
      have hle' : (i : Int) ≤ (q : Int) := by omega
      clear hx hy0 hR hlen hno hi
      gi_wp2_with fail
      refine ⟨trivial, (callsIn_wide.2 (HLv.out _)).mono ?_⟩
      rintro e w' ⟨rfl, rfl⟩
      gi_wp2_with fail
      refine ⟨trivial, (callsIn_wide.2 (HAi.out _)).mono ?_⟩
      rintro e w' ⟨rfl, rfl⟩
      gi_wp2_with fail
      refine HR.out.mono ?_
      rintro e W3 (⟨rfl, hJ3, hKp⟩ | ⟨rfl, hJx3⟩)
      · have HC3 : Hid (W3.cell? ⟨bv, 0, none⟩ = some (.int .i64 (v : Int)) ∧ W3.cell? ⟨bl, 0, none⟩ = some (.int .i64 (l : Int))) := Lib.hid ⟨(World.cell?_of_block (a := ⟨bv, 0, none⟩) hKp.2).trans HC.out.1, (World.cell?_of_block (a := ⟨bl, 0, none⟩) hKp.1).trans HC.out.2⟩
        clear g0 hKp
        gi_wp2_with fail
        go_roundw
        case rel => exact ⟨k + 1, pre ++ [x], by have := HI.out; omega, by have := HI.out; go_num, Lib.hid (by rw [List.map_append, HP.out, HSn.out]; simp [HX.out]), Lib.hid hJ3, HC3⟩
        case measure => simp [intOf]; omega
      · gi_wp2_with fail
        refine bodyPost_ret (results_none rfl _ _ _) rfl ?_
        exact ⟨⟨_, rfl⟩, .inr ⟨_, ⟨k + 1, by have := HI.out; omega, by rw [List.map_append, HP.out, HSn.out]; simp [HX.out]⟩, hJx3⟩⟩
    · have hle' : (q : Int) < (i : Int) := by omega
      have HK : Hid (k = q + 1 - l) := Lib.hid (by omega)
      clear hi
      gi_wp2_with fail
      refine ⟨trivial, (callsIn_wide.2 (HLv.out _)).mono ?_⟩
      rintro e w' ⟨rfl, rfl⟩
      gi_wp2_with fail
      go_end0
      exact ⟨⟨_, rfl⟩, .inl ⟨pre, by rw [HP.out, HK.out], HJs.out⟩⟩
end Go.Proofs.Ytelalpikdidpeaa
