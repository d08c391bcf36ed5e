/-
  Texts joined into one: SpeA, She, LevA, LevB, CheA, PthA, PthB, Reg, SubA, Own, SpeB, SpeC, SubB, SpeD, LvsA, CheB.
-/
import Derived.Test.YtchkgccnipejhaaProg
import Derived.Test.YtchkgccnipejhaaMathT
import Derived.WalkKit
import Derived.Lib.Hide
import Derived.Deep.QuietTactic
import Derived.BigQuiet
import Derived.Shelf.Small.Bits
import Derived.Below
import Derived.RegionTactic
import Derived.RangeFuncNested
import Derived.RangeFuncBound
import Derived.RangeFuncCalls
import Derived.RangeFuncLeaves
import Derived.Shelf.Abstract
import Derived.Shelf.RegionOpen
import Derived.OwnWalkIn
import Derived.TacticsInMore
import Derived.LoopNIn
import Derived.LoopIn
import Derived.Lib.ConvBytes
import Derived.Laws.AppendOwn
import Derived.Deep.AppendSrc
import Derived.OwnWalk
import Derived.Deep.MidRow
import Derived.Maps.AppendAt

/-
  The specification's tree: levels, what is below what, strides, nodes.
-/
namespace Go.Proofs.Ytchkgccnipejhaa
open Go.RowKit TR
set_option linter.unusedVariables false
set_option linter.unusedSimpArgs false

theorem ret_int {k : IntKind} {a b : Int} (h : a = b) : Ending.returned (.int k a) = .returned (.int k b) := by rw [h]
theorem ret_bool {a b : Bool} (h : a = b) : Ending.returned (.bool a) = .returned (.bool b) := by rw [h]

set_option maxRecDepth 100000 in
set_option maxHeartbeats 400000 in
theorem refLevel_any (v : Nat) (w : World) (hv : v < 1000) :
    Calls Try.prog 120 #[.int .i64 (v : Int)] w fun e w' => e = .returned (.int .i64 (lv v : Int)) ∧ w = w' := by
  go_enter Try.func120, Try.ntmps120
  go_wp2_with fail
  go_loop [0, 3] (fun x n => ∃ (a k : Nat), a ≤ v ∧ x = .int .i64 (a : Int) ∧ n = .int .i64 (k : Int) ∧ Hid (lv a + k = lv v) ∧ k ≤ v) (fun x _ => (intOf x).toNat)
  case atStart => exact ⟨v, 0, Nat.le_refl _, rfl, rfl, Lib.hid rfl, Nat.zero_le _⟩
  case round =>
    obtain ⟨a, k, ha, rfl, rfl, HL, hk⟩ := hrel
    by_cases h : 1 < a
    · have h1 := lv_half a h
      have HL1 : Hid (lv (a / 2) + (k + 1) = lv v) := Lib.hid (by have := HL.out; omega)
      have hk1 : k + 1 ≤ v := by have := HL1.out; have := lv_le v; omega
      clear h1
      go_wp2_with fail
      go_roundw
      case rel => exact ⟨a / 2, k + 1, by omega, by go_num, by go_num, HL1, hk1⟩
      case measure => simp [intOf]; omega
    · have h0 : lv a = 0 := lv_low a (by omega)
      have HF : Hid ((k : Int) = (lv v : Int)) := Lib.hid (by have := HL.out; omega)
      go_wp2_with fail
      go_ret
      exact ⟨by rw [HF.out]; rfl, rfl⟩

set_option maxRecDepth 100000 in
set_option maxHeartbeats 400000 in
theorem refBelow_any (x v : Nat) (w : World) (hx : x < 128) (hv : v < 1000) :
    Calls Try.prog 36 #[.int .i64 (x : Int), .int .i64 (v : Int)] w fun e w' => e = .returned (.bool (blw 7 x v)) ∧ w = w' := by
  go_enter Try.func36, Try.ntmps36
  go_wp2_with fail
  go_loop [0] (fun y => ∃ (a k : Nat), a ≤ x ∧ y = .int .i64 (a : Int) ∧ a < 2 ^ k ∧ Hid (blw k a v = blw 7 x v)) (fun y => (intOf y).toNat)
  case atStart => exact ⟨x, 7, Nat.le_refl _, rfl, hx, Lib.hid rfl⟩
  case round =>
    obtain ⟨a, k, ha, rfl, hk, HL⟩ := hrel
    by_cases h : v < a
    · obtain ⟨j, rfl⟩ : ∃ j, k = j + 1 := ⟨k - 1, by rcases k with _ | k; simp at hk; omega; rfl⟩
      have HL1 : Hid (blw j (a / 2) v = blw 7 x v) := Lib.hid (by rw [← HL.out, blw, if_pos h])
      have hj : a / 2 < 2 ^ j := by rw [Nat.pow_succ] at hk; omega
      go_wp2_with fail
      go_roundw
      case rel => exact ⟨a / 2, j, by omega, by go_num, hj, HL1⟩
      case measure => simp [intOf]; omega
    · have HF : Hid (decide ((a : Int) = (v : Int)) = blw 7 x v) := Lib.hid (by
        rw [← HL.out]
        have e : blw k a v = (a == v) := by rcases k with _ | k; rfl; rw [blw, if_neg h]
        rw [e]
        by_cases hav : a = v
        · subst hav; simp
        · have h2 : (a : Int) ≠ (v : Int) := by omega
          simp [hav, h2])
      go_wp2_with fail
      go_ret
      exact ⟨by rw [← HF.out]; first | rfl | (simp; done), rfl⟩

set_option maxRecDepth 100000 in
set_option maxHeartbeats 400000 in
theorem refStride_any (d : Nat) (w : World) (hd : d < 7) :
    Calls Try.prog 121 #[.int .i64 (d : Int)] w fun e w' => e = .returned (.int .i64 (strd d : Int)) ∧ w = w' := by
  rcases (by omega : d = 0 ∨ d = 1 ∨ d = 2 ∨ d = 3 ∨ d = 4 ∨ d = 5 ∨ d = 6) with rfl | rfl | rfl | rfl | rfl | rfl | rfl
  all_goals
    go_enter Try.func121, Try.ntmps121
    go_wp2
    refine wp_loop_rounds 3 ?_
    repeat (rw [rounds_succ]; go_wp2)
    go_ret
    exact ⟨rfl, rfl⟩

set_option maxRecDepth 100000 in
set_option maxHeartbeats 400000 in
theorem receivers_any (d : Nat) (w : World) (hd : d < 7) :
    Calls Try.prog 72 #[.int .i64 (d : Int)] w fun e w' => e = .returned (.int .i64 ((2 ^ d : Nat) : Int)) ∧ w = w' := by
  rcases (by omega : d = 0 ∨ d = 1 ∨ d = 2 ∨ d = 3 ∨ d = 4 ∨ d = 5 ∨ d = 6) with rfl | rfl | rfl | rfl | rfl | rfl | rfl
  all_goals
    go_enter Try.func72, Try.ntmps72
    go_wp2
    refine wp_loop_rounds 7 ?_
    repeat (rw [rounds_succ]; go_wp2)
    go_ret
    exact ⟨rfl, rfl⟩
end Go.Proofs.Ytchkgccnipejhaa

/-
  The contract of math/bits.Len, laid at this seat's numbers out of the library's own contract.
-/
namespace Go.Proofs.Ytchkgccnipejhaa
open Go.Shelf
def lays125_ren : Go.Shelf.Ren := ⟨fun | 125 => 99 | 128 => 132 | 129 => 133 | n => n, fun | 46 => 153 | 3 => 3 | 51 => 185 | 53 => 23 | 4 => 4 | 5 => 5 | 9 => 9 | n => n, fun | n => n⟩
theorem lays125 : Go.Proofs.Lays.n125 Try.prog lays125_ren := {
  mixed := by kernel_rfl
  f125 := Try.func99.trans (congrArg some (by kernel_rfl))
  f128 := Try.func132.trans (congrArg some (by kernel_rfl))
  f129 := Try.func133.trans (congrArg some (by kernel_rfl))
  t3 := Try.underlying3
  a3 := Try.isAgg3
  z3 := Try.sizeOf3
  v3 := Try.zeroValue3
  t4 := Try.underlying4
  a4 := Try.isAgg4
  z4 := Try.sizeOf4
  v4 := Try.zeroValue4
  t5 := Try.underlying5
  a5 := Try.isAgg5
  z5 := Try.sizeOf5
  v5 := Try.zeroValue5
  t9 := Try.underlying9
  a9 := Try.isAgg9
  z9 := Try.sizeOf9
  v9 := Try.zeroValue9
  t46 := Try.underlying153
  a46 := Try.isAgg153
  z46 := Try.sizeOf153
  v46 := Try.zeroValue153
  t51 := Try.underlying185
  a51 := Try.isAgg185
  z51 := Try.sizeOf185
  v51 := Try.zeroValue185
  t53 := Try.underlying23
  a53 := Try.isAgg23
  z53 := Try.sizeOf23
  v53 := Try.zeroValue23 }
theorem bits_Len (x : Int) (w : World) (h0 : 0 ≤ x) (h1 : x ≤ 18446744073709551615) :
    Calls Try.prog 99 #[.int .u64 x] w fun e w' => e = .returned (.int .i64 (Lib.bitLen x.toNat)) ∧ w' = w := Any.bits_Len lays125 x w h0 h1
end Go.Proofs.Ytchkgccnipejhaa

/-
  Levels, the program's.
-/
namespace Go.Proofs.Ytchkgccnipejhaa
open Go.RowKit TR
set_option linter.unusedVariables false
set_option linter.unusedSimpArgs false

theorem chk_bit : ((List.range 256).all fun x => Lib.bitLen x == lenv x) = true := by decide +kernel
theorem bit_lenv (x : Nat) (hx : x < 256) : Lib.bitLen x = lenv x := by
  have h := chk_bit
  simp only [List.all_eq_true, List.mem_range] at h
  simpa using h x hx

set_option maxRecDepth 100000 in
set_option maxHeartbeats 400000 in
theorem level_any (v : Nat) (w : World) (h1 : 1 ≤ v) (hv : v < 256) :
    Calls Try.prog 92 #[.int .i64 (v : Int)] w fun e w' => e = .returned (.int .i64 (lv v : Int)) ∧ w = w' := by
  have HL : Hid (∀ w, Calls Try.prog 99 #[.int .u64 (v : Int)] w fun e w' => e = .returned (.int .i64 ((lv v + 1 : Nat) : Int)) ∧ w = w') := Lib.hid (fun w => by
    refine (bits_Len (v : Int) w (by omega) (by omega)).mono ?_
    rintro e w' ⟨rfl, rfl⟩
    refine ⟨?_, rfl⟩
    rw [Int.toNat_natCast, bit_lenv v hv]
    unfold lenv
    rw [if_neg (by omega)])
  have hl := lv_lt v hv
  obtain ⟨m, hm⟩ : ∃ m, m = lv v := ⟨_, rfl⟩
  rw [← hm] at HL hl ⊢
  clear hm
  go_enter Try.func92, Try.ntmps92
  go_wp2_with fail
  refine (HL.out _).mono ?_
  rintro e w' ⟨rfl, rfl⟩
  go_wp2_with fail
  go_ret
  exact ⟨ret_int (by omega), rfl⟩

set_option maxRecDepth 100000 in
set_option maxHeartbeats 400000 in
theorem at_any (v l : Nat) (w : World) (h1 : 1 ≤ v) (hv : v < 256) (hl : l ≤ lv v) :
    Calls Try.prog 91 #[.int .i64 (v : Int), .int .i64 (l : Int)] w fun e w' => e = .returned (.int .i64 (nat_ v l : Int)) ∧ w = w' := by
  have HL := Lib.hid (fun w => level_any v w h1 hv)
  have hl8 := lv_lt v hv
  have HN : Hid ((nat_ v l : Int) = ((v >>> (lv v - l) : Nat) : Int)) := Lib.hid rfl
  obtain ⟨m, hm⟩ : ∃ m, m = lv v := ⟨_, rfl⟩
  rw [← hm] at HL HN hl hl8
  clear hm
  obtain ⟨k, rfl⟩ : ∃ k, m = l + k := ⟨m - l, by omega⟩
  go_enter Try.func91, Try.ntmps91
  go_wp2_with fail
  refine (HL.out _).mono ?_
  rintro e w' ⟨rfl, rfl⟩
  go_wp2_with fail
  go_ret
  exact ⟨ret_int (by rw [HN.out, Nat.shiftRight_eq_div_pow]; simp), rfl⟩

set_option maxRecDepth 100000 in
set_option maxHeartbeats 400000 in
theorem isAbove_any (v x : Nat) (w : World) (hv : v < 256) (h1 : 1 ≤ x) (hx : x < 256) :
    Calls Try.prog 86 #[.int .i64 (v : Int), .int .i64 (x : Int)] w fun e w' => e = .returned (.bool (abv v x)) ∧ w = w' := by
  by_cases h0 : v = 0
  · have HF : Hid (abv v x = false) := Lib.hid (by rw [h0]; rfl)
    have h0i : (v : Int) = 0 := by omega
    rw [HF.out]
    clear HF h0
    go_enter Try.func86, Try.ntmps86
    go_wp2_with fail
    go_ret
    exact ⟨by first | rfl | (simp; done), rfl⟩
  · have HLv := Lib.hid (fun w => level_any v w (by omega) hv)
    have HLx := Lib.hid (fun w => level_any x w h1 hx)
    have h0i : ¬ ((v : Int) = 0) := by omega
    by_cases hle : lv v ≤ lv x
    · have HAt := Lib.hid (fun w => at_any x (lv v) w h1 hx hle)
      have HF : Hid (abv v x = decide ((nat_ x (lv v) : Int) = (v : Int))) := Lib.hid (by
        unfold abv nat_
        simp only [hle, decide_true, Bool.and_true]
        by_cases e : x >>> (lv x - lv v) = v
        · simp [e, h0]
        · have e2 : ¬ ((x >>> (lv x - lv v) : Nat) : Int) = (v : Int) := by omega
          simp only [e2, decide_false]
          simp [e])
      rw [HF.out]
      obtain ⟨a, ha⟩ : ∃ a, a = lv v := ⟨_, rfl⟩
      obtain ⟨b, hb⟩ : ∃ b, b = lv x := ⟨_, rfl⟩
      obtain ⟨y, hy⟩ : ∃ y, y = nat_ x (lv v) := ⟨_, rfl⟩
      rw [← hy] at HAt ⊢
      rw [← ha] at HLv HAt hle
      rw [← hb] at HLx hle
      clear ha hb hy HF h0
      have hle' : (a : Int) ≤ (b : Int) := by omega
      by_cases e : (y : Int) = (v : Int)
      all_goals
        go_enter Try.func86, Try.ntmps86
        go_wp2_with fail
        refine (HLv.out _).mono ?_
        rintro e1 w' ⟨rfl, rfl⟩
        go_wp2_with fail
        refine (HLx.out _).mono ?_
        rintro e1 w' ⟨rfl, rfl⟩
        go_wp2_with fail
        refine (HLv.out _).mono ?_
        rintro e1 w' ⟨rfl, rfl⟩
        go_wp2_with fail
        refine (HAt.out _).mono ?_
        rintro e1 w' ⟨rfl, rfl⟩
        go_wp2_with fail
        go_ret
        exact ⟨by first | rfl | (simp [e]; done) | (simp [e]; omega), rfl⟩
    · have HF : Hid (abv v x = false) := Lib.hid (by unfold abv; simp [hle])
      rw [HF.out]
      obtain ⟨a, ha⟩ : ∃ a, a = lv v := ⟨_, rfl⟩
      obtain ⟨b, hb⟩ : ∃ b, b = lv x := ⟨_, rfl⟩
      rw [← ha] at HLv hle
      rw [← hb] at HLx hle
      clear ha hb HF h0
      have hle' : (b : Int) < (a : Int) := by omega
      go_enter Try.func86, Try.ntmps86
      go_wp2_with fail
      refine (HLv.out _).mono ?_
      rintro e1 w' ⟨rfl, rfl⟩
      go_wp2_with fail
      refine (HLx.out _).mono ?_
      rintro e1 w' ⟨rfl, rfl⟩
      go_wp2_with fail
      go_ret
      exact ⟨by first | rfl | (simp; done), rfl⟩
end Go.Proofs.Ytchkgccnipejhaa

/-
  Nodes, special nodes and parents, the program's.
-/
namespace Go.Proofs.Ytchkgccnipejhaa
open Go.RowKit TR
set_option linter.unusedVariables false
set_option linter.unusedSimpArgs false

/-- A scheme in a block of its own. -/
structure SchAt (w : World) (b : Nat) (K D E : Int) (P Q G : Nat) : Prop where
  c0 : w.cell? ⟨b, 0, none⟩ = some (.int .u8 K)
  c1 : w.cell? ⟨b, 1, none⟩ = some (.int .i64 D)
  c2 : w.cell? ⟨b, 2, none⟩ = some (.int .i64 E)
  c3 : w.cell? ⟨b, 3, none⟩ = some (.int .u64 (P : Int))
  c4 : w.cell? ⟨b, 4, none⟩ = some (.int .u64 (Q : Int))
  c5 : w.cell? ⟨b, 5, none⟩ = some (.int .u64 (G : Int))
theorem SchAt.new (w : World) (K D E : Int) (P Q G : Nat) (t : TypeId) : SchAt (w.alloc (.cells #[.int .u8 K, .int .i64 D, .int .i64 E, .int .u64 (P : Int), .int .u64 (Q : Int), .int .u64 (G : Int)] t)) w.heap.size K D E P Q G := by
  constructor <;> (rw [cell_of_row _ _ _ _ t _ (heap_alloc_new w _)]; rfl)
theorem SchAt.below {w w' : World} {n b : Nat} {K D E : Int} {P Q G : Nat} (h : SchAt w b K D E P Q G) (hb : Below n w w') (hn : b < n) : SchAt w' b K D E P Q G :=
  ⟨(hb.cell (p := ⟨b, 0, none⟩) hn).trans h.c0, (hb.cell (p := ⟨b, 1, none⟩) hn).trans h.c1, (hb.cell (p := ⟨b, 2, none⟩) hn).trans h.c2, (hb.cell (p := ⟨b, 3, none⟩) hn).trans h.c3, (hb.cell (p := ⟨b, 4, none⟩) hn).trans h.c4, (hb.cell (p := ⟨b, 5, none⟩) hn).trans h.c5⟩

/-- Whether a number is a node. -/
def hsn (d : Nat) (x : Int) : Bool := decide (1 ≤ x ∧ x < ((2 ^ (d + 1) : Nat) : Int))

set_option maxRecDepth 100000 in
set_option maxHeartbeats 1000000 in
theorem hasNode_any (K E x : Int) (d P Q G : Nat) (w : World) (hd : d < 7) :
    Calls Try.prog 108 #[.agg #[.int .u8 K, .int .i64 (d : Int), .int .i64 E, .int .u64 (P : Int), .int .u64 (Q : Int), .int .u64 (G : Int)], .int .i64 x] w fun e w' => e = .returned (.bool (hsn d x)) ∧ Below w.heap.size w w' := by
  have HB : Hid (Below w.heap.size w (w.alloc (.cells #[.int .u8 K, .int .i64 (d : Int), .int .i64 E, .int .u64 (P : Int), .int .u64 (Q : Int), .int .u64 (G : Int)] 45))) := Lib.hid ((Below.refl _ _).alloc (Nat.le_refl _) _)
  by_cases h1 : 1 ≤ x
  · have HF : Hid (hsn d x = decide (x < ((2 ^ (d + 1) : Nat) : Int))) := Lib.hid (by unfold hsn; simp [h1])
    rw [HF.out]
    clear HF
    rcases (by omega : d = 0 ∨ d = 1 ∨ d = 2 ∨ d = 3 ∨ d = 4 ∨ d = 5 ∨ d = 6) with rfl | rfl | rfl | rfl | rfl | rfl | rfl
    all_goals
      go_enter Try.func108, Try.ntmps108
      go_wp2_with fail
      go_ret
      exact ⟨by first | rfl | (simp; done), HB.out⟩
  · have HF : Hid (hsn d x = false) := Lib.hid (by unfold hsn; simp [h1])
    rw [HF.out]
    have h2 : x < 1 := by omega
    clear h1 HF
    go_enter Try.func108, Try.ntmps108
    go_wp2_with fail
    go_ret
    exact ⟨by first | rfl | (simp; done), HB.out⟩

set_option maxRecDepth 100000 in
set_option maxHeartbeats 2000000 in
theorem isSpecial_any (K E : Int) (d v P Q G : Nat) (w : World) (hd : d < 7) (h1 : 1 ≤ v) (hv : v < 256) :
    Calls Try.prog 118 #[.agg #[.int .u8 K, .int .i64 (d : Int), .int .i64 E, .int .u64 (P : Int), .int .u64 (Q : Int), .int .u64 (G : Int)], .int .i64 (v : Int)] w fun e w' => e = .returned (.bool (spc d v)) ∧ Below w.heap.size w w' := by
  have HB : Hid (Below w.heap.size w (w.alloc (.cells #[.int .u8 K, .int .i64 (d : Int), .int .i64 E, .int .u64 (P : Int), .int .u64 (Q : Int), .int .u64 (G : Int)] 45))) := Lib.hid ((Below.refl _ _).alloc (Nat.le_refl _) _)
  have HL := Lib.hid (fun w => level_any v w h1 hv)
  have HF : Hid (spc d v = (lv v % strd d == 0)) := Lib.hid rfl
  have hl := lv_lt v hv
  rw [HF.out]
  obtain ⟨m, hm⟩ : ∃ m, m = lv v := ⟨_, rfl⟩
  rw [← hm] at HL hl ⊢
  clear hm HF hv h1
  rcases (by omega : d = 0 ∨ d = 1 ∨ d = 2 ∨ d = 3 ∨ d = 4 ∨ d = 5 ∨ d = 6) with rfl | rfl | rfl | rfl | rfl | rfl | rfl
  all_goals
    go_enter Try.func118, Try.ntmps118
    go_wp2_with fail
    refine wp_loop_rounds 3 ?_
    repeat (rw [rounds_succ]; go_wp2_with fail)
    refine (HL.out _).mono ?_
    rintro e1 w' ⟨rfl, rfl⟩
    rcases (by omega : m = 0 ∨ m = 1 ∨ m = 2 ∨ m = 3 ∨ m = 4 ∨ m = 5 ∨ m = 6 ∨ m = 7) with rfl | rfl | rfl | rfl | rfl | rfl | rfl | rfl
    all_goals
      go_wp2_with fail
      go_ret
      exact ⟨by first | rfl | (simp; done), HB.out⟩

set_option maxRecDepth 100000 in
set_option maxHeartbeats 400000 in
theorem parent_any (v : Nat) (w : World) (hv : v < 256) :
    Calls Try.prog 131 #[.int .i64 (v : Int)] w fun e w' => e = .returned (.int .i64 ((v / 2 : Nat) : Int)) ∧ w = w' := by
  go_enter Try.func131, Try.ntmps131
  go_wp2_with fail
  go_ret
  exact ⟨ret_int (by simp), rfl⟩
end Go.Proofs.Ytchkgccnipejhaa

/-
  Whether a scheme is valid: the program's answer and the specification's.
-/
namespace Go.Proofs.Ytchkgccnipejhaa
open Go.RowKit TR
set_option linter.unusedVariables false
set_option linter.unusedSimpArgs false

/-- A valid scheme. -/
def ScOk (K D E : Int) (P Q G : Nat) : Prop := 1 ≤ K ∧ K ≤ 3 ∧ 0 ≤ D ∧ D ≤ 6 ∧ E = 0 ∧ P = 0 ∧ Q = 0 ∧ G = 0
instance (K D E : Int) (P Q G : Nat) : Decidable (ScOk K D E P Q G) := by unfold ScOk; infer_instance
def scb (K D E : Int) (P Q G : Nat) : Bool := decide (ScOk K D E P Q G)
def scc (K D E : Int) (P Q G : Nat) : Int := if scb K D E P Q G then 0 else 30
theorem scb_yes {K D E : Int} {P Q G : Nat} (h : ScOk K D E P Q G) : scb K D E P Q G = true := decide_eq_true h
theorem scb_no {K D E : Int} {P Q G : Nat} (h : ¬ ScOk K D E P Q G) : scb K D E P Q G = false := decide_eq_false h
theorem scc_yes {K D E : Int} {P Q G : Nat} (h : ScOk K D E P Q G) : scc K D E P Q G = 0 := by unfold scc; rw [scb_yes h]; rfl
theorem scc_no {K D E : Int} {P Q G : Nat} (h : ¬ ScOk K D E P Q G) : scc K D E P Q G = 30 := by unfold scc; rw [scb_no h]; rfl

/-- The ways in which a scheme can fail, one after the other. -/
theorem sc_cases (K D E : Int) (P Q G : Nat) : (K < 1 ∧ (D < 0 ∨ 6 < D ∨ (0 ≤ D ∧ D ≤ 6))) ∨ (3 < K ∧ (D < 0 ∨ 6 < D ∨ (0 ≤ D ∧ D ≤ 6))) ∨ (1 ≤ K ∧ K ≤ 3 ∧ (D < 0 ∨ 6 < D)) ∨ (1 ≤ K ∧ K ≤ 3 ∧ 0 ≤ D ∧ D ≤ 6 ∧ (E < 0 ∨ 0 < E)) ∨ (1 ≤ K ∧ K ≤ 3 ∧ 0 ≤ D ∧ D ≤ 6 ∧ E = 0 ∧ (0 < P ∨ (P = 0 ∧ 0 < Q) ∨ (P = 0 ∧ Q = 0 ∧ 0 < G))) ∨ (1 ≤ K ∧ K ≤ 3 ∧ 0 ≤ D ∧ D ≤ 6 ∧ E = 0 ∧ P = 0 ∧ Q = 0 ∧ G = 0) := by omega

set_option maxRecDepth 100000 in
set_option maxHeartbeats 4000000 in
theorem check_any (K D E : Int) (P Q G : Nat) (w : World) (hK0 : 0 ≤ K) (hK1 : K ≤ 255) :
    Calls Try.prog 42 #[.agg #[.int .u8 K, .int .i64 D, .int .i64 E, .int .u64 (P : Int), .int .u64 (Q : Int), .int .u64 (G : Int)]] w fun e w' => e = .returned (.int .i64 (scc K D E P Q G)) ∧ Below w.heap.size w w' := by
  have HN : (¬ ScOk K D E P Q G) → scc K D E P Q G = 30 := fun h => scc_no h
  rcases sc_cases K D E P Q G with ⟨k, d | d | ⟨d1, d2⟩⟩ | ⟨k, d | d | ⟨d1, d2⟩⟩ | ⟨k1, k2, d | d⟩ | ⟨k1, k2, d1, d2, e | e⟩ | ⟨k1, k2, d1, d2, rfl, p | ⟨rfl, q⟩ | ⟨rfl, rfl, g⟩⟩ | h
  case inr.inr.inr.inr.inr =>
    have H := Lib.hid (scc_yes h)
    clear HN
    obtain ⟨k1, k2, d1, d2, rfl, rfl, rfl, rfl⟩ := h
    go_enter Try.func42, Try.ntmps42
    go_wp2
    go_ret
    exact ⟨by rw [H.out]; first | rfl | (simp; done), by first | exact (Below.refl _ _).alloc (Nat.le_refl _) _ | exact Below.refl _ _⟩
  all_goals
    have H := Lib.hid (HN (fun h => by obtain ⟨h1, h2, h3, h4, h5, h6, h7, h8⟩ := h; omega))
    clear HN
    go_enter Try.func42, Try.ntmps42
    go_wp2
    go_ret
    exact ⟨by rw [H.out]; first | rfl | (simp; done), by first | exact (Below.refl _ _).alloc (Nat.le_refl _) _ | exact Below.refl _ _⟩
end Go.Proofs.Ytchkgccnipejhaa

/-
  The path to a node, the program's: its contract.
-/
namespace Go.Proofs.Ytchkgccnipejhaa
open Go.RowKit Go.Shelf TR
set_option linter.unusedVariables false
set_option linter.unusedSimpArgs false
attribute [local go_sem] Oper.semAt_some

/-- A node. -/
abbrev Nd := { x : Nat // 1 ≤ x ∧ x < 256 }
def nenc (x : Nd) : Array Value := #[.int .i64 (x.1 : Int)]
/-- The first k nodes from level l on, on the path to v. -/
def pl (v l k : Nat) : List Nat := (List.range k).map fun i => nat_ v (l + i)
theorem pl_snoc (v l k : Nat) : pl v l (k + 1) = pl v l k ++ [nat_ v (l + k)] := by unfold pl; rw [List.range_succ, List.map_append]; rfl
theorem chk_nat : ((List.range 256).all fun v => (List.range 8).all fun l => v == 0 || decide (lv v < l) || (decide (1 ≤ nat_ v l) && decide (nat_ v l ≤ v) && decide (lv (nat_ v l) = l))) = true := by decide +kernel
theorem nat_ok (v l : Nat) (h1 : 1 ≤ v) (hv : v < 256) (hl : l ≤ lv v) : 1 ≤ nat_ v l ∧ nat_ v l ≤ v ∧ lv (nat_ v l) = l := by
  have h := chk_nat
  simp only [List.all_eq_true, List.mem_range] at h
  have h3 := h v hv l (by have := lv_lt v hv; omega)
  simp [show v ≠ 0 by omega, show ¬ lv v < l by omega] at h3
  exact ⟨h3.1.1, h3.1.2, h3.2⟩

theorem path_any (v l : Int) (w : World) :
    Calls Try.prog 107 #[.int .i64 v, .int .i64 l] w fun e w' => e = .returned (.func (.func 135) #[] #[.pointer (some ⟨w.heap.size + 1, 0, none⟩), .pointer (some ⟨w.heap.size, 0, none⟩)]) ∧ w' = (w.alloc (.cells #[.int .i64 v] 113)).alloc (.cells #[.int .i64 l] 3) := by
  have hmf : ∀ (fn : Fn) (first cap : Array Value) (w : World), (Instr.makeFunc fn first cap).run Try.prog w = .ok (.func fn first cap) w := fun _ _ _ _ => rfl
  go_enter Try.func107, Try.ntmps107
  go_wp2
  go_ret
  exact ⟨rfl, rfl⟩

/-- What a round of the loop keeps: the two boxes of the iterator. -/
def Kp2 (B b : Nat) (W W' : World) : Prop := W'.heap[B]? = W.heap[B]? ∧ W'.heap[b]? = W.heap[b]?

set_option maxRecDepth 100000 in
set_option maxHeartbeats 2000000 in
theorem path_stops (m : Nat) (hm : 1 ≤ m) (bl bv v l : Nat) (w : World) (h1 : 1 ≤ v) (hv : v < 256) (hl : l ≤ lv v + 1) (hB1 : w.cell? ⟨bv, 0, none⟩ = some (.int .i64 (v : Int))) (hB2 : w.cell? ⟨bl, 0, none⟩ = some (.int .i64 (l : Int))) :
    SeqStopsK Fence.wide m Try.prog 135 #[.pointer (some ⟨bl, 0, none⟩), .pointer (some ⟨bv, 0, none⟩)] nenc (Kp2 bl bv) (fun xs => xs.map (·.1) = pl v l (lv v + 1 - l)) (fun pre => ∃ k, k ≤ lv v + 1 - l ∧ pre.map (·.1) = pl v l k) 9 w := fun l' J Jx W hW hJ hJx hYd h0 => by
  have H1 := Lib.hid ((hW.cell (p := ⟨bv, 0, none⟩) (World.block_lt_of_cell? w _ hB1)).trans hB1)
  have H2 := Lib.hid ((hW.cell (p := ⟨bl, 0, none⟩) (World.block_lt_of_cell? w _ hB2)).trans hB2)
  have HLv := Lib.hid (fun w => level_any v w h1 hv)
  have HAt := Lib.hid (fun (i : Nat) (w : World) (hi : i ≤ lv v) => at_any v i w h1 hv hi)
  have HNo := Lib.hid (fun (i : Nat) (hi : i ≤ lv v) => nat_ok v i h1 hv hi)
  have HV := Lib.hid hv
  have hl8 := lv_lt v hv
  obtain ⟨q, hq⟩ : ∃ q, q = lv v := ⟨_, rfl⟩
  rw [← hq] at HLv HAt HNo hl8 hl ⊢
  have g0 := H1.out
  have g1 := H2.out
  clear hB1 hB2 hq h1 hv
  refine callsIn_of_wp Try.func135 rfl trivial ?_ rfl
  simp only [Try.ntmps135, List.size_toArray, List.length_cons, List.length_nil, Nat.reduceAdd, Nat.reduceSub, Array.replicate_succ, Array.replicate_zero, List.push_toArray, List.append_toArray, List.nil_append, List.cons_append]
  gi_wp2_with fail
  gi_loopw [4] (fun i wr => ∃ (k : Nat) (pre : List Nd), k ≤ q + 1 - l ∧ i = .int .i64 ((l + k : Nat) : Int) ∧ Hid (pre.map (·.1) = pl v l k) ∧ Hid (J pre wr) ∧ Hid (wr.cell? ⟨bv, 0, none⟩ = some (.int .i64 (v : Int)) ∧ wr.cell? ⟨bl, 0, none⟩ = some (.int .i64 (l : Int)))) (fun i _ => q + 1 - (intOf i).toNat)
  case atStart => exact ⟨0, [], by omega, rfl, Lib.hid rfl, Lib.hid h0, Lib.hid ⟨H1.out, H2.out⟩⟩
  case round =>
    obtain ⟨k, pre, hk, rfl, HP, HJs, HC⟩ := hrel
    clear g0 g1
    have g0 := HC.out.1
    obtain ⟨i, hi⟩ : ∃ i, i = l + k := ⟨_, rfl⟩
    have HI := Lib.hid hi
    rw [← hi]
    by_cases hlt : i ≤ q
    · have hlen : pre.length < 9 := by have := congrArg List.length HP.out; simp [pl] at this; omega
      have hno := HNo.out i hlt
      have HAi := Lib.hid (fun w => HAt.out i w hlt)
      have HSn : Hid (pl v l (k + 1) = pl v l k ++ [nat_ v i]) := Lib.hid (by rw [hi]; exact pl_snoc v l k)
      obtain ⟨y, hy0⟩ : ∃ y, y = nat_ v i := ⟨_, rfl⟩
      rw [← hy0] at hno HAi HSn
      obtain ⟨x, hx⟩ : ∃ x : Nd, x.1 = y := ⟨⟨y, hno.1, by have := HV.out; omega⟩, rfl⟩
      obtain ⟨fn, tmps, assign, body, hy, hR⟩ := hYd pre x wr HJs.out hlen
      have HR := Lib.hid hR
      dsimp only [nenc] at hy
      rw [hx] at hy
      have HX := Lib.hid hx
      have hle' : (i : Int) ≤ (q : Int) := by omega
      clear hx hy0 hR hlen hno hi
      gi_wp2_with fail
      refine ⟨trivial, (callsIn_wide.2 (HLv.out _)).mono ?_⟩
      rintro e w' ⟨rfl, rfl⟩
      gi_wp2_with fail
      refine ⟨trivial, (callsIn_wide.2 (HAi.out _)).mono ?_⟩
      rintro e w' ⟨rfl, rfl⟩
      gi_wp2_with fail
      refine HR.out.mono ?_
      rintro e W3 (⟨rfl, hJ3, hKp⟩ | ⟨rfl, hJx3⟩)
      · have HC3 : Hid (W3.cell? ⟨bv, 0, none⟩ = some (.int .i64 (v : Int)) ∧ W3.cell? ⟨bl, 0, none⟩ = some (.int .i64 (l : Int))) := Lib.hid ⟨(World.cell?_of_block (a := ⟨bv, 0, none⟩) hKp.2).trans HC.out.1, (World.cell?_of_block (a := ⟨bl, 0, none⟩) hKp.1).trans HC.out.2⟩
        clear g0 hKp
        gi_wp2_with fail
        go_roundw
        case rel => exact ⟨k + 1, pre ++ [x], by have := HI.out; omega, by have := HI.out; go_num, Lib.hid (by rw [List.map_append, HP.out, HSn.out]; simp [HX.out]), Lib.hid hJ3, HC3⟩
        case measure => simp [intOf]; omega
      · gi_wp2_with fail
        refine bodyPost_ret (results_none rfl _ _ _) rfl ?_
        exact ⟨⟨_, rfl⟩, .inr ⟨_, ⟨k + 1, by have := HI.out; omega, by rw [List.map_append, HP.out, HSn.out]; simp [HX.out]⟩, hJx3⟩⟩
    · have hle' : (q : Int) < (i : Int) := by omega
      have HK : Hid (k = q + 1 - l) := Lib.hid (by omega)
      clear hi
      gi_wp2_with fail
      refine ⟨trivial, (callsIn_wide.2 (HLv.out _)).mono ?_⟩
      rintro e w' ⟨rfl, rfl⟩
      gi_wp2_with fail
      go_end0
      exact ⟨⟨_, rfl⟩, .inl ⟨pre, by rw [HP.out, HK.out], HJs.out⟩⟩
end Go.Proofs.Ytchkgccnipejhaa

/-
  The first special node between two, the program's.
-/
namespace Go.Proofs.Ytchkgccnipejhaa
open Go.RowKit Go.Shelf TR
set_option linter.unusedVariables false
set_option linter.unusedSimpArgs false
attribute [local go_sem] Oper.semAt_some

theorem keeps_below {W W' : World} (h : Below W.heap.size W W') : KeepsOthers W W' :=
  ⟨h.size, fun k o hk _ => (h.block k (Array.getElem?_eq_some_iff.1 hk).1).trans hk⟩
theorem box_new (W : World) (v : Value) (t : TypeId) : (W.alloc (.cells #[v] t)).cell? ⟨W.heap.size, 0, none⟩ = some v ∧ (W.alloc (.cells #[v] t)).frozen? ⟨W.heap.size, 0, none⟩ = false :=
  ⟨by rw [cell_of_row _ _ 0 _ t _ (heap_alloc_new W _)]; rfl, by unfold World.frozen?; rw [heap_alloc_new]; simp⟩
theorem fsl_none (d y : Nat) : ∀ (n l : Nat), (∀ i, i < n → spc d (nat_ y (l + i)) = false) → fsl d y n l = 0
  | 0, _, _ => rfl
  | n + 1, l, h => by
    have h0 := h 0 (by omega)
    rw [Nat.add_zero] at h0
    rw [fsl, if_neg (by rw [h0]; decide)]
    exact fsl_none d y n (l + 1) (fun i hi => by have := h (i + 1) (by omega); rwa [show l + (i + 1) = l + 1 + i by omega] at this)
theorem fsl_stop (d y : Nat) : ∀ (k n l : Nat), k < n → (∀ i, i < k → spc d (nat_ y (l + i)) = false) → spc d (nat_ y (l + k)) = true → fsl d y n l = nat_ y (l + k)
  | 0, n + 1, l, _, _, h2 => by rw [Nat.add_zero] at h2; rw [fsl, if_pos h2, Nat.add_zero]
  | k + 1, n + 1, l, hk, h1, h2 => by
    have h0 := h1 0 (by omega)
    rw [Nat.add_zero] at h0
    rw [fsl, if_neg (by rw [h0]; decide), fsl_stop d y k n (l + 1) (by omega) (fun i hi => by have := h1 (i + 1) (by omega); rwa [show l + (i + 1) = l + 1 + i by omega] at this) (by rwa [show l + 1 + k = l + (k + 1) by omega])]
    rw [show l + 1 + k = l + (k + 1) by omega]
theorem pl_none {d y l n : Nat} {xs : List Nd} (h : xs.map (·.1) = pl y l n) (h2 : ∀ z ∈ xs, spc d z.1 = false) : ∀ i, i < n → spc d (nat_ y (l + i)) = false := by
  intro i hi
  have h3 : nat_ y (l + i) ∈ xs.map (·.1) := by rw [h]; exact List.mem_map.2 ⟨i, List.mem_range.2 hi, rfl⟩
  obtain ⟨z, hz, e⟩ := List.mem_map.1 h3
  rw [← e]; exact h2 z hz
theorem pl_stop {d y l n k : Nat} {pre : List Nd} {z : Nd} (hk : k ≤ n) (h : (pre ++ [z]).map (·.1) = pl y l k) (h2 : ∀ z ∈ pre, spc d z.1 = false) (h3 : spc d z.1 = true) : fsl d y n l = z.1 := by
  rcases k with _ | k
  · simp [pl] at h
  · rw [pl_snoc, List.map_append] at h
    obtain ⟨e1, e2⟩ := List.append_inj' h rfl
    have e3 : z.1 = nat_ y (l + k) := by simpa using e2
    rw [e3] at h3 ⊢
    exact fsl_stop d y k n l (by omega) (pl_none e1 h2) h3

set_option maxRecDepth 100000 in
set_option maxHeartbeats 2000000 in
theorem firstSpecial_any (K E : Int) (d v x P Q G : Nat) (w : World) (hd : d < 7) (h1 : 1 ≤ v) (hv : v < 256) (h2 : 2 ≤ x) (hx : x < 256) (hle : lv v ≤ lv (x / 2)) :
    Calls Try.prog 95 #[.agg #[.int .u8 K, .int .i64 (d : Int), .int .i64 E, .int .u64 (P : Int), .int .u64 (Q : Int), .int .u64 (G : Int)], .int .i64 (v : Int), .int .i64 (x : Int)] w fun e w' => e = .returned (.int .i64 (fsp d v x : Int)) ∧ Below w.heap.size w w' := by
  have HPa := Lib.hid (fun w => parent_any x w hx)
  have HLv := Lib.hid (fun w => level_any v w h1 hv)
  have HSp := Lib.hid (fun (z : Nd) (w : World) => isSpecial_any K E d z.1 P Q G w hd z.2.1 z.2.2)
  have HF : Hid (fsp d v x = fsl d (x / 2) (lv (x / 2) + 1 - (lv v + 1)) (lv v + 1)) := Lib.hid (by unfold fsp; rw [Nat.add_sub_add_right])
  have hl8 := lv_lt v hv
  have hy1 : 1 ≤ x / 2 := by omega
  have hy2 : x / 2 < 256 := by omega
  obtain ⟨R, hR⟩ : ∃ R, R = fsp d v x := ⟨_, rfl⟩
  rw [← hR] at HF ⊢
  obtain ⟨m, hm⟩ : ∃ m, m = lv v := ⟨_, rfl⟩
  obtain ⟨y, hy⟩ : ∃ y, y = x / 2 := ⟨_, rfl⟩
  rw [← hm] at HLv HF hl8 hle
  rw [← hy] at HPa HF hle hy1 hy2
  clear hR hm hy h1 hv h2 hx hd
  obtain ⟨N, hN⟩ : ∃ N, N = w.heap.size := ⟨_, rfl⟩
  obtain ⟨W2, hW2⟩ : ∃ W2, W2 = (w.alloc (.cells #[.int .u8 K, .int .i64 (d : Int), .int .i64 E, .int .u64 (P : Int), .int .u64 (Q : Int), .int .u64 (G : Int)] 45)).alloc (.cells #[.int .i64 0] 113) := ⟨_, rfl⟩
  obtain ⟨W4, hW4⟩ : ∃ W4, W4 = (W2.alloc (.cells #[.int .i64 (y : Int)] 113)).alloc (.cells #[.int .i64 ((m : Int) + 1)] 3) := ⟨_, rfl⟩
  have s2 : W2.heap.size = N + 2 := by rw [hW2, hN]; simp
  have s4 : W4.heap.size = N + 4 := by rw [hW4]; simp [s2]
  have b24 : Below (N + 2) W2 W4 := by rw [hW4]; exact ((Below.refl _ _).alloc (by rw [s2]; omega) _).alloc (by simp [s2]) _
  have b02 : Below N w W2 := by rw [hW2, hN]; exact ((Below.refl _ _).alloc (Nat.le_refl _) _).alloc (by simp) _
  have HB0 : Hid (Below N w W4) := Lib.hid (b02.trans (b24.mono (by omega)))
  have sc : SchAt W2 N K (d : Int) E P Q G := by rw [hW2, hN]; exact (SchAt.new w K (d : Int) E P Q G _).below ((Below.refl _ _).alloc (Nat.le_refl _) _) (by simp)
  have HSc : Hid (SchAt W4 N K (d : Int) E P Q G) := Lib.hid (sc.below b24 (by omega))
  have e1 := box_new (w.alloc (.cells #[.int .u8 K, .int .i64 (d : Int), .int .i64 E, .int .u64 (P : Int), .int .u64 (Q : Int), .int .u64 (G : Int)] 45)) (.int .i64 0) 113
  rw [← hW2, World.size_alloc, ← hN] at e1
  have HBx : Hid (W4.cell? ⟨N + 1, 0, none⟩ = some (.int .i64 0) ∧ W4.frozen? ⟨N + 1, 0, none⟩ = false) := Lib.hid ⟨(b24.cell (p := ⟨N + 1, 0, none⟩) (by show N + 1 < N + 2; omega)).trans e1.1, (b24.frozen (p := ⟨N + 1, 0, none⟩) (by show N + 1 < N + 2; omega)).trans e1.2⟩
  have e3 := box_new W2 (.int .i64 (y : Int)) 113
  have e4 := box_new (W2.alloc (.cells #[.int .i64 (y : Int)] 113)) (.int .i64 ((m : Int) + 1)) 3
  rw [s2] at e3
  rw [← hW4, World.size_alloc, s2] at e4
  have e3' : W4.cell? ⟨N + 2, 0, none⟩ = some (.int .i64 (y : Int)) := by
    rw [hW4]
    exact (((Below.refl (N + 3) (W2.alloc (.cells #[.int .i64 (y : Int)] 113))).alloc (by simp [s2]) _).cell (p := ⟨N + 2, 0, none⟩) (by show N + 2 < N + 3; omega)).trans e3.1
  have HBS := Lib.hid (path_stops 3 (by omega) (N + 3) (N + 2) y (m + 1) W4 hy1 hy2 (by omega) e3' (by rw [show ((m + 1 : Nat) : Int) = (m : Int) + 1 by omega]; exact e4.1))
  have HE4 : Hid (W4 = (((w.alloc (.cells #[.int .u8 K, .int .i64 (d : Int), .int .i64 E, .int .u64 (P : Int), .int .u64 (Q : Int), .int .u64 (G : Int)] 45)).alloc (.cells #[.int .i64 0] 113)).alloc (.cells #[.int .i64 (y : Int)] 113)).alloc (.cells #[.int .i64 ((m : Int) + 1)] 3)) := Lib.hid (by rw [hW4, hW2])
  have HS4 := Lib.hid s4
  have HN := Lib.hid hN
  rw [← hN]
  clear hW2 hW4 s2 s4 b24 b02 sc e1 e3 e4 e3' hN hy1 hy2
  refine (callsIn_wide (n := 4)).1 (callsIn_of_wp_marks Try.func95 rfl trivial ?_ rfl)
  simp only [Try.ntmps95, List.size_toArray, List.length_cons, List.length_nil, Nat.reduceAdd, Nat.reduceSub, Array.replicate_succ, Array.replicate_zero, List.push_toArray, List.append_toArray, List.nil_append, List.cons_append]
  refine wpIn_wide.2 ?_
  go_wp2_with fail
  refine (HPa.out _).mono ?_
  rintro e w' ⟨rfl, rfl⟩
  go_wp2_with fail
  refine (HLv.out _).mono ?_
  rintro e w' ⟨rfl, rfl⟩
  go_wp2_with fail
  refine (path_any _ _ _).mono ?_
  rintro e w' ⟨rfl, rfl⟩
  go_wp2_with fail
  rw [← HE4.out, ← HN.out]
  simp only [Nat.add_assoc, Nat.reduceAdd]
  refine (wpIn_wide (n := 4)).1 ?_
  refine wpIn_rangeFunc_ownF rfl (n := 4) (by omega) (gf := 135) (lb := #[.pointer (some ⟨N + 3, 0, none⟩), .pointer (some ⟨N + 2, 0, none⟩)]) rfl trivial (enters_of Try.func135 (by kernel_rfl) rfl)
    HBS.out (fun h k => ⟨k.1.trans h.1, k.2.trans h.2⟩) (fun W l o o' hl _ _ _ => ⟨World.putObj_heap_other (by rw [HS4.out] at hl; omega), World.putObj_heap_other (by rw [HS4.out] at hl; omega)⟩) (Below.refl _ _) (fun _ => rfl)
    (fun pre W => ((∀ z ∈ pre, spc d z.1 = false) ∧ W.cell? ⟨N + 1, 0, none⟩ = some (.int .i64 0) ∧ W.frozen? ⟨N + 1, 0, none⟩ = false) ∧ Below (N + 1) W4 W)
    (fun c pre W => (c = .ret ∧ ∃ pre' z, pre = pre' ++ [z] ∧ (∀ z ∈ pre', spc d z.1 = false) ∧ spc d z.1 = true ∧ W.cell? ⟨N + 1, 0, none⟩ = some (.int .i64 (z.1 : Int))) ∧ Below (N + 1) W4 W)
    (OwnFrom.and (Own.from (fun s A B row hs hg hr => ⟨hs.1, cell_kept hs.2.1 hg hr, (frozen_kept hs.2.1 hg hr).trans hs.2.2⟩) _) (ownFrom_below (by rw [HS4.out]; omega) (by rw [HS4.out]; omega)))
    (fun c => OwnFrom.and (Own.from (fun s A B row hs hg hr => by obtain ⟨hc, pre', z, e, a1, a2, a3⟩ := hs; exact ⟨hc, pre', z, e, a1, a2, cell_kept a3 hg hr⟩) _) (ownFrom_below (by rw [HS4.out]; omega) (by rw [HS4.out]; omega)))
    ⟨⟨by simp, HBx.out.1, HBx.out.2⟩, Below.refl _ _⟩
    (fun z => { tmps := #[.agg #[.int .u8 K, .int .i64 (d : Int), .int .i64 E, .int .u64 (P : Int), .int .u64 (Q : Int), .int .u64 (G : Int)], .int .i64 (v : Int), .int .i64 (x : Int), .pointer (some ⟨N, 0, none⟩), undef, undef, .pointer (some ⟨N + 1, 0, none⟩), .int .i64 (z.1 : Int), .int .i64 (x : Int), .int .i64 (y : Int), .int .i64 (v : Int), .int .i64 (m : Int), .int .i64 ((m : Int) + 1), .func (.func 135) #[] #[.pointer (some ⟨N + 3, 0, none⟩), .pointer (some ⟨N + 2, 0, none⟩)], .int .i64 (z.1 : Int), undef, undef, undef, undef], defers := [] }) ?assign ?body ?done ?stop
  case assign =>
    intro l z W K hK
    unfold nenc
    gi_wp2
    exact hK
  case body =>
    rintro l pre z W ⟨⟨hp, hc1, hf1⟩, hB⟩ _
    obtain ⟨c0, c1, c2, c3, c4, c5⟩ := HSc.out.below hB (by omega)
    have HP := Lib.hid hp
    have HS := Lib.hid (HSp.out z)
    have HC1 := Lib.hid (And.intro hc1 hf1)
    have hs : N + 4 ≤ W.heap.size := by rw [← HS4.out]; exact hB.size
    have HBB := Lib.hid (And.intro hB hs)
    clear hp hc1 hf1 hB hs
    rcases hsp : spc d z.1 with _ | _
    · have HZ := Lib.hid hsp
      rw [hsp] at HS
      clear hsp
      gi_wp2_with fail
      refine ⟨trivial, (CallsIn.inRound l (callsIn_wide.2 (HS.out _))).mono ?_⟩
      rintro e w' ⟨rfl, hb⟩
      have HW : Hid (w'.cell? ⟨N + 1, 0, none⟩ = some (.int .i64 0) ∧ w'.frozen? ⟨N + 1, 0, none⟩ = false) := Lib.hid ⟨(hb.cell (p := ⟨N + 1, 0, none⟩) (by show N + 1 < W.heap.size; have := HBB.out.2; omega)).trans HC1.out.1, (hb.frozen (p := ⟨N + 1, 0, none⟩) (by show N + 1 < W.heap.size; have := HBB.out.2; omega)).trans HC1.out.2⟩
      have HBz := Lib.hid hb
      clear hb c0 c1 c2 c3 c4 c5
      gi_wp2_with fail
      refine ⟨keeps_below HBz.out, ⟨HBz.out.block _ (by have := HBB.out.2; omega), HBz.out.block _ (by have := HBB.out.2; omega)⟩, ⟨fun u hu => ?_, HW.out.1, HW.out.2⟩, HBB.out.1.trans (HBz.out.mono (by have := HBB.out.2; omega))⟩
      rcases List.mem_append.1 hu with h | h
      · exact HP.out u h
      · simp at h; subst h; exact HZ.out
    · have HZ := Lib.hid hsp
      rw [hsp] at HS
      clear hsp
      gi_wp2_with fail
      refine ⟨trivial, (CallsIn.inRound l (callsIn_wide.2 (HS.out _))).mono ?_⟩
      rintro e w' ⟨rfl, hb⟩
      have z1 : w'.cell? ⟨N + 1, 0, none⟩ = some (.int .i64 0) := (hb.cell (p := ⟨N + 1, 0, none⟩) (by show N + 1 < W.heap.size; have := HBB.out.2; omega)).trans HC1.out.1
      have z2 : w'.frozen? ⟨N + 1, 0, none⟩ = false := (hb.frozen (p := ⟨N + 1, 0, none⟩) (by show N + 1 < W.heap.size; have := HBB.out.2; omega)).trans HC1.out.2
      have HBz := Lib.hid hb
      clear hb c0 c1 c2 c3 c4 c5
      gi_wp2_with fail
      exact ⟨(keeps_below HBz.out).trans (KeepsOthers.setCell _ _ _), ⟨rfl, pre, z, rfl, HP.out, HZ.out, World.cell?_setCell_same _ _ _ z1⟩, (HBB.out.1.trans (HBz.out.mono (by have := HBB.out.2; omega))).setCell (p := ⟨N + 1, 0, none⟩) (Nat.le_refl _) _⟩
  case done =>
    rintro D xs W hD hys ⟨⟨hp, hc1, hf1⟩, hB⟩ hK
    have hR : R = 0 := by rw [HF.out]; exact fsl_none d y _ _ (pl_none hys hp)
    subst hR
    go_wp2_with fail
    have hK' := (KeepsOthers.setCell W ⟨N + 1, 0, none⟩ (.int .i64 0)).same D _ hK rfl
    have hne : D ≠ N + 1 := by rw [HS4.out] at hD; omega
    have hc5 := cell_kept (World.cell?_setCell_same W ⟨N + 1, 0, none⟩ (.int .i64 0) hc1) (grownBy_putObj' _ D (.deferred none)) (fun r e => by cases e; exact ⟨_, hK', rfl⟩)
    refine ⟨by simp, .inl ⟨_, _, rfl, run_takeDeferred hK', ?_⟩⟩
    refine ⟨.int .i64 0, by simp [results, Try.results95, go_sem, hc5], rfl, ?_⟩
    exact (HB0.out.trans ((hB.mono (by omega)).setCell (p := ⟨N + 1, 0, none⟩) (by show N ≤ N + 1; omega) _)).trans (belowK_b (w := w) (by rw [HN.out]; exact Nat.le_refl _) _ D _ _ (by rw [HS4.out] at hD; rw [← HN.out]; omega) hK' rfl rfl)
  case stop =>
    rintro D c pre W hD ⟨k, hk, hpl⟩ ⟨⟨rfl, pre', z, rfl, a1, a2, a3⟩, hB⟩ hK
    have hR : R = z.1 := by rw [HF.out]; exact pl_stop hk hpl a1 a2
    subst hR
    gi_wp2_with fail
    have hc5 := cell_kept a3 (grownBy_putObj' _ D (.deferred none)) (fun r e => by cases e; exact ⟨_, hK, rfl⟩)
    refine ⟨by simp, .inl ⟨_, _, rfl, run_takeDeferred hK, ?_⟩⟩
    refine ⟨.int .i64 (z.1 : Int), by simp [results, Try.results95, go_sem, hc5], rfl, ?_⟩
    exact (HB0.out.trans (hB.mono (by omega))).trans (belowK_b (w := w) (by rw [HN.out]; exact Nat.le_refl _) _ D _ _ (by rw [HS4.out] at hD; rw [← HN.out]; omega) hK rfl rfl)
end Go.Proofs.Ytchkgccnipejhaa

/-
  A region that goes in whatever order, by an invariant: what holds of the listed operations.
-/
namespace Go.Proofs.Ytchkgccnipejhaa
open Go.RowKit

/-- Each operation waits for earlier ones alone. -/
def ordered (md : Region.Mode) (ops : Array Oper) : Bool := (List.range ops.size).all fun i => ((ops[i]?).map fun o => o.after.all fun e => !Region.binds md e || decide (e.on < i)).getD true

theorem ordered_spec {md : Region.Mode} {ops : Array Oper} (h : ordered md ops = true) (i : Nat) (o : Oper) (ho : ops[i]? = some o) (e : Edge) (he : e ∈ o.after) (hb : Region.binds md e = true) : e.on < i := by
  have hi : i < ops.size := (Array.getElem?_eq_some_iff.1 ho).1
  have h1 := (List.all_eq_true.1 h) i (by simpa using hi)
  rw [ho] at h1
  simp only [Option.map_some, Option.getD_some] at h1
  have h2 := (Array.all_eq_true_iff_forall_mem.1 h1) e he
  rw [hb] at h2
  simpa using h2

theorem all_listed {md : Region.Mode} {ops : Array Oper} (ho : ordered md ops = true) {L : Array Bool} (hL : L.size = ops.size) (hr : Region.ready md ops L = []) : ∀ i, i < ops.size → L.getD i false = true := by
  intro i
  induction i using Nat.strongRecOn with
  | _ i ih =>
    intro hi
    rcases Bool.eq_false_or_eq_true (L.getD i false) with h | h
    · exact h
    · exfalso
      have hm : i ∈ Region.ready md ops L := by
        unfold Region.ready
        rw [List.mem_filter]
        refine ⟨by simpa using hi, ?_⟩
        have h1 : L.getD i true = false := by
          have hi' : i < L.size := by omega
          simp [Array.getD, hi'] at h ⊢; exact h
        rw [h1, Array.getElem?_eq_getElem hi]
        simp only [Bool.not_false, Option.map_some, Option.getD_some, Bool.true_and]
        refine Array.all_eq_true_iff_forall_mem.2 (fun e he => ?_)
        rcases Bool.eq_false_or_eq_true (Region.binds md e) with hb | hb
        · have hlt := ordered_spec ho i ops[i] (Array.getElem?_eq_getElem hi) e he hb
          rw [ih e.on hlt (by omega)]
          simp
        · rw [hb]; simp
  
      rw [hr] at hm
      cases hm

theorem ready_spec {md : Region.Mode} {ops : Array Oper} {L : Array Bool} {i : Nat} (h : i ∈ Region.ready md ops L) : i < ops.size ∧ L.getD i true = false ∧ ∀ o, ops[i]? = some o → ∀ e ∈ o.after, Region.binds md e = true → L.getD e.on false = true := by
  unfold Region.ready at h
  rw [List.mem_filter] at h
  obtain ⟨h1, h2⟩ := h
  have hi : i < ops.size := by simpa using h1
  rw [Bool.and_eq_true] at h2
  refine ⟨hi, by simpa using h2.1, fun o ho e he hb => ?_⟩
  have h3 := h2.2
  rw [ho] at h3
  simp only [Option.map_some, Option.getD_some] at h3
  have h4 := (Array.all_eq_true_iff_forall_mem.1 h3) e he
  rw [hb] at h4
  simpa using h4

/-- What is listed, as a function. -/
def lst (L : Array Bool) : Nat → Bool := fun j => L.getD j false
def upd (l : Nat → Bool) (i : Nat) : Nat → Bool := fun j => if j = i then true else l j
theorem lst_set {L : Array Bool} {i : Nat} (hi : i < L.size) : lst (L.setIfInBounds i true) = upd (lst L) i := by
  funext j
  unfold lst upd
  by_cases e : j = i
  · subst e; simp [Array.getD, hi]
  · rw [if_neg e]
    by_cases hj : j < L.size
    · simp [Array.getD, hj, Ne.symm e]
    · simp [Array.getD, hj]

/-- How many are not listed yet. -/
def unl : List Bool → Nat
  | [] => 0
  | b :: r => (if b then 0 else 1) + unl r
theorem unl_zero : ∀ (l : List Bool) (i : Nat), unl l = 0 → i < l.length → l.getD i false = true
  | [], _, _, h => by simp at h
  | b :: r, 0, h, _ => by cases b <;> simp [unl] at h ⊢
  | b :: r, i + 1, h, hi => by
    have h1 : unl r = 0 := by unfold unl at h; omega
    have := unl_zero r i h1 (by simpa using hi)
    simpa using this
theorem unl_set : ∀ (l : List Bool) (i : Nat), i < l.length → l.getD i true = false → unl (l.set i true) + 1 = unl l
  | [], _, h, _ => by simp at h
  | b :: r, 0, _, h => by simp at h; subst h; simp [unl]; omega
  | b :: r, i + 1, hi, h => by
    have := unl_set r i (by simpa using hi) (by simpa using h)
    simp only [List.set_cons_succ, unl]; omega

/-- **A region in whatever order, by an invariant of what is listed.** -/
theorem wpAny_inv {P : Program} {md : Region.Mode} {ops : Array Oper} {Q : Exit → Act → World → Prop} (ho : ordered md ops = true) (Inv : (Nat → Bool) → Act → World → Prop)
    (hstep : ∀ (l : Nat → Bool) (a : Act) (w : World) (i : Nat), Inv l a w → i < ops.size → l i = false → (∀ o, ops[i]? = some o → ∀ e ∈ o.after, Region.binds md e = true → l e.on = true) → wpOp P ops Q i (fun a' w' => Inv (upd l i) a' w') a w)
    (hdone : ∀ (l : Nat → Bool) (a : Act) (w : World), (∀ i, i < ops.size → l i = true) → Inv l a w → Q .normal a w) :
    ∀ (fuel : Nat) (L : Array Bool) (a : Act) (w : World), L.size = ops.size → unl L.toList ≤ fuel → Inv (lst L) a w → wpAny P md ops Q fuel L a w
  | 0, L, a, w, hL, hf, hI => by
    have hall : ∀ i, i < ops.size → lst L i = true := fun i hi => by
      have := unl_zero L.toList i (by omega) (by simp; omega)
      unfold lst
      simpa [Array.getD, List.getD, hL, hi] using this
    refine ⟨?_, hdone _ a w hall hI⟩
    rcases hr : Region.ready md ops L with _ | ⟨i, r⟩
    · rfl
    · exfalso
      have hs := ready_spec (md := md) (ops := ops) (L := L) (i := i) (by rw [hr]; simp)
      have h1 := hall i hs.1
      have h2 := hs.2.1
      have hi' : i < L.size := by omega
      unfold lst at h1
      simp [Array.getD, hi'] at h1 h2
      rw [h1] at h2; cases h2
  | fuel + 1, L, a, w, hL, hf, hI => by
    refine ⟨fun hr => hdone _ a w (all_listed ho hL hr) hI, fun i hi => ?_⟩
    have hs := ready_spec hi
    have hi' : i < L.size := by omega
    have hl : lst L i = false := by have := hs.2.1; unfold lst; simp [Array.getD, hi'] at this ⊢; exact this
    refine wpOp_mono (fun a' w' h => ?_) (hstep (lst L) a w i hI hs.1 hl hs.2.2)
    refine wpAny_inv ho Inv hstep hdone fuel (L.setIfInBounds i true) a' w' (by simpa using hL) ?_ (by rw [lst_set hi']; exact h)
    have h3 := unl_set L.toList i (by simpa using hi') (by have := hs.2.1; simpa [Array.getD, List.getD, hi'] using this)
    have h4 : (L.setIfInBounds i true).toList = L.toList.set i true := by simp
    rw [h4]; omega

theorem unl_replicate : ∀ n, unl (List.replicate n false) = n
  | 0 => rfl
  | n + 1 => by rw [List.replicate_succ, unl, unl_replicate n]; simp; omega

/-- **The region.** -/
theorem wp_region_inv {P : Program} {ops : Array Oper} {Q : Exit → Act → World → Prop} {id : Nat} {a : Act} {w : World} (hm : P.follows .mixedOrders = true) (ho : ordered .any ops = true) (Inv : (Nat → Bool) → Act → World → Prop)
    (h0 : Inv (fun _ => false) a w.drew)
    (hstep : ∀ (l : Nat → Bool) (a : Act) (w : World) (i : Nat), Inv l a w → i < ops.size → l i = false → (∀ o, ops[i]? = some o → ∀ e ∈ o.after, Region.binds .any e = true → l e.on = true) → wpOp P ops Q i (fun a' w' => Inv (upd l i) a' w') a w)
    (hdone : ∀ (l : Nat → Bool) (a : Act) (w : World), (∀ i, i < ops.size → l i = true) → Inv l a w → Q .normal a w) :
    (Code.region id ops true).wp P Q a w := by
  refine wp_region_any hm (wpAny_inv ho Inv hstep hdone ops.size _ a _ (by simp) ?_ ?_)
  · simp [unl_replicate]
  · have e : lst (Array.replicate ops.size false) = fun _ => false := by
      funext j; unfold lst; by_cases hj : j < ops.size <;> simp [Array.getD, hj]
    rw [e]; exact h0

end Go.Proofs.Ytchkgccnipejhaa

/-
  Whether two nodes are a subset, the program's.
-/
namespace Go.Proofs.Ytchkgccnipejhaa
open Go.RowKit TR
set_option linter.unusedVariables false
set_option linter.unusedSimpArgs false

/-- Whether two numbers are a subset of a scheme of kind K. -/
def isb (K : Int) (d : Nat) (a b : Int) : Bool :=
  hsn d a && (if K = 1 then decide (b = 0) else if b = 0 then decide (a = 1) else (hsn d b && (!(decide (b = a)) && (abv a.toNat b.toNat && (decide (K = 2) || spc d a.toNat || fsp d a.toNat b.toNat == 0)))))
theorem hsn_nat {d : Nat} {a : Int} (hd : d < 7) (h : hsn d a = true) : ∃ v : Nat, a = (v : Int) ∧ 1 ≤ v ∧ v < 2 ^ (d + 1) ∧ v < 128 := by
  have h1 := of_decide_eq_true h
  refine ⟨a.toNat, by omega, by omega, by omega, ?_⟩
  have h2 : 2 ^ (d + 1) ≤ 128 := by rcases (by omega : d = 0 ∨ d = 1 ∨ d = 2 ∨ d = 3 ∨ d = 4 ∨ d = 5 ∨ d = 6) with rfl | rfl | rfl | rfl | rfl | rfl | rfl <;> decide
  omega
theorem chk_half : ((List.range 128).all fun v => (List.range 128).all fun x => !(abv v x) || x == v || (decide (2 ≤ x) && decide (lv v ≤ lv (x / 2)))) = true := by decide +kernel
theorem half_ok {v x : Nat} (hv : v < 128) (hx : x < 128) (h : abv v x = true) (hne : x ≠ v) : 2 ≤ x ∧ lv v ≤ lv (x / 2) := by
  have h1 := chk_half
  simp only [List.all_eq_true, List.mem_range] at h1
  have h3 := h1 v hv x hx
  simp [h, hne] at h3
  exact h3

set_option maxRecDepth 100000 in
set_option maxHeartbeats 4000000 in
theorem isSubset_any (K E a b : Int) (d P Q G : Nat) (w : World) (hd : d < 7) :
    Calls Try.prog 68 #[.agg #[.int .u8 K, .int .i64 (d : Int), .int .i64 E, .int .u64 (P : Int), .int .u64 (Q : Int), .int .u64 (G : Int)], .agg #[.int .i64 a, .int .i64 b]] w fun e w' => e = .returned (.bool (isb K d a b)) ∧ Below w.heap.size w w' := by
  obtain ⟨N, hN⟩ : ∃ N, N = w.heap.size := ⟨_, rfl⟩
  obtain ⟨W2, hW2⟩ : ∃ W2, W2 = (w.alloc (.cells #[.int .u8 K, .int .i64 (d : Int), .int .i64 E, .int .u64 (P : Int), .int .u64 (Q : Int), .int .u64 (G : Int)] 45)).alloc (.cells #[.int .i64 a, .int .i64 b] 56) := ⟨_, rfl⟩
  have HB2 : Hid (Below N w W2) := Lib.hid (by rw [hW2, hN]; exact ((Below.refl _ _).alloc (Nat.le_refl _) _).alloc (by simp) _)
  have HS2 : Hid (W2.heap.size = N + 2) := Lib.hid (by rw [hW2, hN]; simp)
  have HEnv : Hid (∀ w1, Below (N + 2) W2 w1 → SchAt w1 N K (d : Int) E P Q G ∧ (w1.cell? ⟨N + 1, 0, none⟩ = some (.int .i64 a) ∧ w1.cell? ⟨N + 1, 1, none⟩ = some (.int .i64 b)) ∧ Below N w w1) := Lib.hid (fun w1 h => by
    have s : SchAt W2 N K (d : Int) E P Q G := by rw [hW2, hN]; exact (SchAt.new w K (d : Int) E P Q G _).below ((Below.refl _ _).alloc (Nat.le_refl _) _) (by simp)
    have c : ∀ j v, #[Value.int .i64 a, Value.int .i64 b][j]? = some v → W2.cell? ⟨N + 1, j, none⟩ = some v := fun j v hv => by
      have h := heap_alloc_new (w.alloc (.cells #[.int .u8 K, .int .i64 (d : Int), .int .i64 E, .int .u64 (P : Int), .int .u64 (Q : Int), .int .u64 (G : Int)] 45)) (.cells #[.int .i64 a, .int .i64 b] 56)
      rw [← hW2, World.size_alloc, ← hN] at h
      rw [cell_of_row _ _ j _ _ _ h]; exact hv
    exact ⟨s.below h (by omega), ⟨(h.cell (p := ⟨N + 1, 0, none⟩) (by show N + 1 < N + 2; omega)).trans (c 0 _ rfl), (h.cell (p := ⟨N + 1, 1, none⟩) (by show N + 1 < N + 2; omega)).trans (c 1 _ rfl)⟩, HB2.out.trans (h.mono (by omega))⟩)
  have HH := Lib.hid (fun (x : Int) (w : World) => hasNode_any K E x d P Q G w hd)
  have HD := Lib.hid hd
  have HN := Lib.hid hN
  have HW := Lib.hid hW2
  rw [← hN]
  clear hN hW2 hd
  go_enter Try.func68, Try.ntmps68
  go_wp2_with fail
  rw [← HW.out, ← HN.out]
  skip
  refine wp_region_inv (by kernel_rfl) (by kernel_rfl) (fun l a' w' => a' = { tmps := #[Value.agg #[.int .u8 K, .int .i64 (d : Int), .int .i64 E, .int .u64 (P : Int), .int .u64 (Q : Int), .int .u64 (G : Int)], Value.agg #[Value.int .i64 a, Value.int .i64 b], Value.pointer (some ⟨N, 0, none⟩), Value.pointer (some ⟨N + 1, 0, none⟩), Value.bool false, bif l 4 then Value.int .i64 a else undef, bif l 5 then Value.int .i64 b else undef, bif l 0 then Value.pointer (some ⟨N + 1, 0, none⟩) else undef, bif l 1 then Value.int .i64 a else undef, bif l 2 then Value.pointer (some ⟨N + 1, 1, none⟩) else undef, bif l 3 then Value.int .i64 b else undef, undef, undef, undef, undef, undef, undef, undef, undef, undef, undef, undef, undef, undef, undef, undef, undef, undef, undef, undef, undef, undef, undef, undef, undef, undef, undef, undef, undef, undef, undef, undef, undef, undef, undef, undef, undef, undef, undef, undef, undef, undef, undef, undef, undef, undef, undef, undef], defers := [] } ∧ w' = W2.drew) ⟨rfl, rfl⟩ ?_ ?_
  · rintro l a' w' i ⟨rfl, rfl⟩ hi hli hpre
    have hi2 : i < 6 := hi
    have hcase : i = 0 ∨ i = 1 ∨ i = 2 ∨ i = 3 ∨ i = 4 ∨ i = 5 := by omega
    clear hi hi2
    rcases hcase with rfl | rfl | rfl | rfl | rfl | rfl
    · -- 0: Op.fieldAddr 28 (Operand.tmp 3) 0
      refine wpOp_step rfl (fun K' hK => ?_)
      clear hpre
      rw [if_pos (by rfl)]
      go_simp
      exact hK _ _ ⟨by simp [upd, Act.put], rfl⟩
    · -- 1: Op.load 3 (Operand.tmp 7)
      have p0 : l 0 = true := hpre _ rfl ⟨0, .data⟩ (by simp) rfl
      refine wpOp_step rfl (fun K' hK => ?_)
      simp only [p0, cond_true, cond_false]
      clear hpre
      rw [if_pos (by rfl)]
      have z := (HEnv.out W2.drew ((Below.refl _ _).drew)).2.1
      have z1 := z.1
      go_simp
      exact hK _ _ ⟨by simp [upd, Act.put, p0], rfl⟩
    · -- 2: Op.fieldAddr 28 (Operand.tmp 3) 1
      refine wpOp_step rfl (fun K' hK => ?_)
      clear hpre
      rw [if_pos (by rfl)]
      go_simp
      exact hK _ _ ⟨by simp [upd, Act.put], rfl⟩
    · -- 3: Op.load 3 (Operand.tmp 9)
      have p2 : l 2 = true := hpre _ rfl ⟨2, .data⟩ (by simp) rfl
      refine wpOp_step rfl (fun K' hK => ?_)
      simp only [p2, cond_true, cond_false]
      clear hpre
      rw [if_pos (by rfl)]
      have z := (HEnv.out W2.drew ((Below.refl _ _).drew)).2.1
      have z1 := z.2
      go_simp
      exact hK _ _ ⟨by simp [upd, Act.put, p2], rfl⟩
    · -- 4: Op.assign (Operand.tmp 8)
      have p1 : l 1 = true := hpre _ rfl ⟨1, .data⟩ (by simp) rfl
      have p0 : l 0 = true := hpre _ rfl ⟨0, .phase⟩ (by simp) rfl
      refine wpOp_step rfl (fun K' hK => ?_)
      simp only [p1, p0, cond_true, cond_false]
      clear hpre
      rw [if_pos (by rfl)]
      go_simp
      exact hK _ _ ⟨by simp [upd, Act.put, p1, p0], rfl⟩
    · -- 5: Op.assign (Operand.tmp 10)
      have p3 : l 3 = true := hpre _ rfl ⟨3, .data⟩ (by simp) rfl
      have p4 : l 4 = true := hpre _ rfl ⟨4, .chain⟩ (by simp) rfl
      have p0 : l 0 = true := hpre _ rfl ⟨0, .phase⟩ (by simp) rfl
      have p1 : l 1 = true := hpre _ rfl ⟨1, .phase⟩ (by simp) rfl
      have p2 : l 2 = true := hpre _ rfl ⟨2, .phase⟩ (by simp) rfl
      refine wpOp_step rfl (fun K' hK => ?_)
      simp only [p3, p4, p0, p1, p2, cond_true, cond_false]
      clear hpre
      rw [if_pos (by rfl)]
      go_simp
      exact hK _ _ ⟨by simp [upd, Act.put, p3, p4, p0, p1, p2], rfl⟩
  · rintro l a' w9 hall ⟨rfl, rfl⟩
    simp only [hall 0 (by decide), hall 1 (by decide), hall 2 (by decide), hall 3 (by decide), hall 4 (by decide), hall 5 (by decide), cond_true]
    clear hall
    obtain ⟨Wq, hWq⟩ : ∃ Wq, Wq = W2.drew := ⟨_, rfl⟩
    have HBq : Hid (Below (N + 2) W2 Wq ∧ N + 2 ≤ Wq.heap.size) := Lib.hid (by rw [hWq]; exact ⟨(Below.refl _ _).drew, by show N + 2 ≤ W2.heap.size; rw [HS2.out]; exact Nat.le_refl _⟩)
    rw [← hWq]
    clear hWq
    obtain ⟨⟨c0, c1, c2, c3, c4, c5⟩, _, _⟩ := HEnv.out Wq HBq.out.1
    go_wp2_with fail
    refine (HH.out a _).mono ?_
    rintro e w3 ⟨rfl, hb3⟩
    have HB3 : Hid (Below (N + 2) W2 w3 ∧ N + 2 ≤ w3.heap.size) := Lib.hid ⟨HBq.out.1.trans (hb3.mono HBq.out.2), Nat.le_trans HBq.out.2 hb3.size⟩
    have HE3 : Hid (Below N w w3) := Lib.hid (HEnv.out w3 HB3.out.1).2.2
    clear hb3 c0 c1 c2 c3 c4 c5
    rcases hha : hsn d a with _ | _
    · have HF : Hid (isb K d a b = false) := Lib.hid (by unfold isb; rw [hha]; rfl)
      clear hha
      go_wp2_with fail
      go_ret
      exact ⟨by rw [HF.out]; rfl, HE3.out⟩
    obtain ⟨v, rfl, hv1, hv2, hv3⟩ := hsn_nat HD.out hha
    have HHa := Lib.hid hha
    have HV := Lib.hid (And.intro hv1 hv3)
    clear hha hv1 hv2 hv3
    obtain ⟨⟨c0, c1, c2, c3, c4, c5⟩, _, _⟩ := HEnv.out w3 HB3.out.1
    by_cases hK1 : K = 1
    · have HF : Hid (isb K d v b = decide (b = 0)) := Lib.hid (by unfold isb; rw [HHa.out, if_pos hK1]; rfl)
      by_cases hb0 : b = 0
      all_goals
        go_wp2_with fail
        go_ret
        exact ⟨by rw [HF.out]; first | rfl | (simp [hb0]; done), HE3.out⟩
    by_cases hb0 : b = 0
    · have HF : Hid (isb K d v b = decide ((v : Int) = 1)) := Lib.hid (by unfold isb; rw [HHa.out, if_neg hK1, if_pos hb0]; rfl)
      by_cases hv1 : (v : Int) = 1
      all_goals
        go_wp2_with fail
        go_ret
        exact ⟨by rw [HF.out]; first | rfl | (simp [hv1]; done) | (simp; omega), HE3.out⟩
    go_wp2_with fail
    refine (HH.out b _).mono ?_
    rintro e w4 ⟨rfl, hb4⟩
    have HB4 : Hid (Below (N + 2) W2 w4 ∧ N + 2 ≤ w4.heap.size) := Lib.hid ⟨HB3.out.1.trans (hb4.mono HB3.out.2), Nat.le_trans HB3.out.2 hb4.size⟩
    have HE4 : Hid (Below N w w4) := Lib.hid (HEnv.out w4 HB4.out.1).2.2
    clear hb4 c0 c1 c2 c3 c4 c5
    rcases hhb : hsn d b with _ | _
    · have HF : Hid (isb K d v b = false) := Lib.hid (by unfold isb; rw [HHa.out, if_neg hK1, if_neg hb0, hhb]; rfl)
      clear hhb
      go_wp2_with fail
      go_ret
      exact ⟨by rw [HF.out]; rfl, HE4.out⟩
    obtain ⟨x, rfl, hx1, hx2, hx3⟩ := hsn_nat HD.out hhb
    have HHb := Lib.hid hhb
    have HX := Lib.hid (And.intro hx1 hx3)
    have HI : Hid (isb K d v x = (!(decide ((x : Int) = (v : Int))) && (abv v x && (decide (K = 2) || spc d v || fsp d v x == 0)))) := Lib.hid (by unfold isb; rw [HHa.out, if_neg hK1, if_neg hb0, HHb.out]; simp only [Bool.true_and, Int.toNat_natCast])
    clear hhb hx1 hx2 hx3 hb0
    by_cases hxv : x = v
    · subst hxv
      go_wp2_with fail
      go_ret
      exact ⟨by rw [HI.out]; first | rfl | (simp; done), HE4.out⟩
    have hxv' : ¬ (x : Int) = (v : Int) := by omega
    have HNE := Lib.hid hxv
    have HA := Lib.hid (fun w => isAbove_any v x w (by have := HV.out.2; omega) HX.out.1 (by have := HX.out.2; omega))
    clear hxv
    go_wp2_with fail
    refine (HA.out _).mono ?_
    rintro e w' ⟨rfl, rfl⟩
    clear HA
    rcases hab : abv v x with _ | _
    · have HAb := Lib.hid hab
      clear hab
      go_wp2_with fail
      go_ret
      exact ⟨by rw [HI.out, HAb.out]; first | rfl | (simp; done), HE4.out⟩
    have HHL := Lib.hid (half_ok HV.out.2 HX.out.2 hab HNE.out)
    have HAb := Lib.hid hab
    clear hab
    obtain ⟨⟨c0, c1, c2, c3, c4, c5⟩, _, _⟩ := HEnv.out w4 HB4.out.1
    by_cases hK2 : K = 2
    · go_wp2_with fail
      go_ret
      exact ⟨by rw [HI.out, HAb.out]; first | rfl | (simp [hK2, hxv']; done), HE4.out⟩
    have HSp := Lib.hid (fun w => isSpecial_any K E d v P Q G w HD.out HV.out.1 (by have := HV.out.2; omega))
    have HFs := Lib.hid (fun w => firstSpecial_any K E d v x P Q G w HD.out HV.out.1 (by have := HV.out.2; omega) HHL.out.1 (by have := HX.out.2; omega) HHL.out.2)
    go_wp2_with fail
    refine (HSp.out _).mono ?_
    rintro e w5 ⟨rfl, hb5⟩
    have HB5 : Hid (Below (N + 2) W2 w5 ∧ N + 2 ≤ w5.heap.size) := Lib.hid ⟨HB4.out.1.trans (hb5.mono HB4.out.2), Nat.le_trans HB4.out.2 hb5.size⟩
    have HE5 : Hid (Below N w w5) := Lib.hid (HEnv.out w5 HB5.out.1).2.2
    clear hb5 c0 c1 c2 c3 c4 c5 HSp
    rcases hsp : spc d v with _ | _
    · have HSb := Lib.hid hsp
      clear hsp
      obtain ⟨⟨c0, c1, c2, c3, c4, c5⟩, _, _⟩ := HEnv.out w5 HB5.out.1
      go_wp2_with fail
      refine (HFs.out _).mono ?_
      rintro e w6 ⟨rfl, hb6⟩
      have HE6 : Hid (Below N w w6) := Lib.hid (HE5.out.trans (hb6.mono (by have := HB5.out.2; omega)))
      clear hb6 c0 c1 c2 c3 c4 c5 HFs
      obtain ⟨r, hr⟩ : ∃ r, r = fsp d v x := ⟨_, rfl⟩
      have HR := Lib.hid hr
      rw [← hr]
      clear hr
      by_cases hr : (r : Int) = 0
      · have hr0 : r = 0 := by omega
        go_wp2_with fail
        go_ret
        exact ⟨by rw [HI.out, ← HR.out, HAb.out, HSb.out]; first | rfl | (simp [hK2, hxv', hr0]; done), HE6.out⟩
      · have hr0 : ¬ r = 0 := by omega
        go_wp2_with fail
        go_ret
        exact ⟨by rw [HI.out, ← HR.out, HAb.out, HSb.out]; first | rfl | (simp [hK2, hxv', hr0]; done) | (simp only [show (K == 2) = false by simp [hK2], show ((r : Int) == 0) = false by simp [hr0], show (r == 0) = false by simp [hr0], show decide (K = 2) = false by simp [hK2], show decide ((x : Int) = (v : Int)) = false by simp; omega]; rfl), HE6.out⟩
    · have HSb := Lib.hid hsp
      clear hsp HFs
      go_wp2_with fail
      go_ret
      exact ⟨by rw [HI.out, HAb.out, HSb.out]; first | rfl | (simp [hK2, hxv']; done), HE5.out⟩
end Go.Proofs.Ytchkgccnipejhaa

/-
  Rows of one's own.
-/
namespace Go.Proofs.Ytchkgccnipejhaa
open Go.RowKit
set_option linter.unusedVariables false

theorem grownBy_of_below {w w' : World} (h : Below w.heap.size w w') : w.grownBy w' none :=
  ⟨h.os, h.tape, h.output, h.size, fun k hk _ => h.block k hk⟩
theorem own_below {w w' : World} {B e size n : Nat} {v : Value} {xs : List Value} (h : w.ownsRow B e size v n xs) (hb : Below w.heap.size w w') : w'.ownsRow B e size v n xs :=
  h.kept (grownBy_of_below hb) (by by_cases e : v.ownBlock = none; exact .inl e; exact .inr e)
theorem own_new (w : World) (e : TypeId) (x : Value) (base : Nat) (hb : base ≤ w.heap.size) : (w.alloc (.cells #[x] e)).ownsRow base e 1 (.slice (some ⟨w.heap.size, 0, none⟩) 1 1) 1 [x] :=
  ⟨rfl, .inr ⟨w.heap.size, 1, #[x], rfl, hb, heap_alloc_new w _, Nat.le_refl _, by simp [maxLen], rfl, rfl⟩⟩
theorem own_block {w : World} {B e size n : Nat} {v : Value} {xs : List Value} (h : w.ownsRow B e size v n xs) {b : Nat} (hb : some b = v.ownBlock) : B ≤ b := by
  rcases h.2 with ⟨rfl, _⟩ | ⟨g, cap, cur, rfl, h1, _⟩
  · cases hb
  · injection hb with hb; rw [hb]; exact h1
theorem own_val {w : World} {base e size n : Nat} {v : Value} {xs : List Value} (ho : w.ownsRow base e size v n xs) : ∃ A c, v = .slice A n c := by
  rcases ho.2 with ⟨h, h0⟩ | ⟨g, cap, _, h, _⟩
  · exact ⟨_, _, by rw [h0]; exact h⟩
  · exact ⟨_, _, h⟩
theorem own_slice2 {w : World} {B e s n : Nat} {v : Value} {xs : List Value} (h : w.ownsRow B e s v n xs) (hn : 0 < n) : ∃ g c, v = .slice (some ⟨g, 0, none⟩) n c ∧ B ≤ g ∧ n ≤ c ∧ c ≤ maxLen ∧ ∀ i x, xs[i]? = some x → w.cell? ⟨g, i, none⟩ = some x := by
  rcases h.2 with ⟨_, h0⟩ | ⟨g, cap, cur, hv, hb, hg, hnc, hcm, hcs, ht⟩
  · omega
  · refine ⟨g, cap, hv, hb, hnc, hcm, fun i x hx => ?_⟩
    rw [cell_of_row _ _ i _ _ _ hg]
    have hl := h.1
    rw [← ht] at hx
    have hi : i < n * s := by
      have := (List.getElem?_eq_some_iff.1 hx).1
      simp at this; omega
    rw [List.getElem?_take, if_pos hi] at hx
    simpa using hx
theorem cells_lt {w : World} {b n : Nat} {F : Nat → Value} (h : ∀ i, i < n → w.cell? ⟨b, i, none⟩ = some (F i)) (hn : 0 < n) : b < w.heap.size := World.block_lt_of_cell? w _ (h 0 hn)
theorem infoI : (Try.prog.info? 3).map (fun i => (i.zero, i.size, i.bytes)) = some (some (.int .i64 0), 1, 8) := by kernel_rfl
end Go.Proofs.Ytchkgccnipejhaa

/-
  The specification's nodes, special nodes and paths.
-/
namespace Go.Proofs.Ytchkgccnipejhaa
open Go.RowKit TR
set_option linter.unusedVariables false
set_option linter.unusedSimpArgs false

set_option maxRecDepth 100000 in
set_option maxHeartbeats 1000000 in
theorem refNode_any (x : Int) (d : Nat) (w : World) (hd : d < 7) :
    Calls Try.prog 73 #[.int .i64 (d : Int), .int .i64 x] w fun e w' => e = .returned (.bool (hsn d x)) ∧ w = w' := by
  have HR := Lib.hid (fun w => receivers_any d w hd)
  have HF : Hid (hsn d x = decide (1 ≤ x ∧ x < 2 * ((2 ^ d : Nat) : Int))) := Lib.hid (by unfold hsn; rw [Nat.pow_succ]; congr 1; simp only [eq_iff_iff]; omega)
  have h64 : 2 ^ d ≤ 64 := by rcases (by omega : d = 0 ∨ d = 1 ∨ d = 2 ∨ d = 3 ∨ d = 4 ∨ d = 5 ∨ d = 6) with rfl | rfl | rfl | rfl | rfl | rfl | rfl <;> decide
  generalize 2 ^ d = T at HR HF h64
  by_cases h1 : 1 ≤ x
  · by_cases h2 : x < 2 * (T : Int)
    all_goals
      go_enter Try.func73, Try.ntmps73
      go_wp2_with fail
      refine (HR.out _).mono ?_
      rintro e1 w' ⟨rfl, rfl⟩
      go_wp2_with fail
      go_ret
      exact ⟨by rw [HF.out]; first | rfl | (simp [h1, h2]; done) | (simp; omega), rfl⟩
  · have h2 : x < 1 := by omega
    go_enter Try.func73, Try.ntmps73
    go_wp2_with fail
    go_ret
    exact ⟨by rw [HF.out]; first | rfl | (simp [h1]; done) | (simp; omega), rfl⟩

set_option maxRecDepth 100000 in
set_option maxHeartbeats 2000000 in
theorem refSpecial_any (d v : Nat) (w : World) (hd : d < 7) (hv : v < 256) :
    Calls Try.prog 74 #[.int .i64 (d : Int), .int .i64 (v : Int)] w fun e w' => e = .returned (.bool (spc d v)) ∧ w = w' := by
  have HL := Lib.hid (fun w => refLevel_any v w (by omega))
  have HS := Lib.hid (fun w => refStride_any d w hd)
  have HF : Hid (spc d v = (lv v % strd d == 0)) := Lib.hid rfl
  have hl := lv_lt v hv
  have hs : strd d = 1 ∨ strd d = 2 ∨ strd d = 3 := by unfold strd; split; exact .inl rfl; split; exact .inr (.inl rfl); exact .inr (.inr rfl)
  rw [HF.out]
  obtain ⟨m, hm⟩ : ∃ m, m = lv v := ⟨_, rfl⟩
  obtain ⟨s, hs'⟩ : ∃ s, s = strd d := ⟨_, rfl⟩
  rw [← hm] at HL hl ⊢
  rw [← hs'] at HS hs ⊢
  clear hm hs' HF hv
  go_enter Try.func74, Try.ntmps74
  go_wp2_with fail
  refine (HL.out _).mono ?_
  rintro e1 w' ⟨rfl, rfl⟩
  go_wp2_with fail
  refine (HS.out _).mono ?_
  rintro e1 w' ⟨rfl, rfl⟩
  clear HL HS
  rcases hs with rfl | rfl | rfl <;> rcases (by omega : m = 0 ∨ m = 1 ∨ m = 2 ∨ m = 3 ∨ m = 4 ∨ m = 5 ∨ m = 6 ∨ m = 7) with rfl | rfl | rfl | rfl | rfl | rfl | rfl | rfl
  all_goals
    go_wp2_with fail
    go_ret
    exact ⟨by first | rfl | (simp; done), rfl⟩

/-- The nodes above x, of the last k levels. -/
def outl (x k : Nat) : List Value := (List.range k).map fun i => .int .i64 ((x >>> (k - 1 - i) : Nat) : Int)
theorem outl_cons (x k : Nat) : outl x (k + 1) = [.int .i64 ((x >>> k : Nat) : Int)] ++ outl x k := by
  unfold outl
  rw [List.range_succ_eq_map, List.map_cons, List.map_map]
  congr 1
  apply List.map_congr_left
  intro i hi
  simp only [Function.comp]
  rw [show k + 1 - 1 - (i + 1) = k - 1 - i by omega]
theorem outl_get (x k i : Nat) (h : i < k) : (outl x k)[i]? = some (.int .i64 ((x >>> (k - 1 - i) : Nat) : Int)) := by
  unfold outl; rw [List.getElem?_map, List.getElem?_range h]; rfl
theorem abv_facts {v x : Nat} (h : abv v x = true) : 1 ≤ v ∧ lv v ≤ lv x ∧ x >>> (lv x - lv v) = v := by
  unfold abv at h
  simp at h
  exact ⟨by omega, h.1.2, h.2⟩

set_option maxRecDepth 100000 in
set_option maxHeartbeats 2000000 in
theorem refPath_any (v x : Nat) (w : World) (hx : x < 256) (h : abv v x = true) :
    Calls Try.prog 122 #[.int .i64 (v : Int), .int .i64 (x : Int)] w fun e w' => (∃ g c, e = .returned (.slice (some ⟨g, 0, none⟩) (lv x - lv v + 1) c) ∧ w.heap.size ≤ g ∧ lv x - lv v + 1 ≤ c ∧ c ≤ maxLen ∧ ∀ i, i < lv x - lv v + 1 → w'.cell? ⟨g, i, none⟩ = some (.int .i64 ((x >>> (lv x - lv v - i) : Nat) : Int))) ∧ Below w.heap.size w w' := by
  obtain ⟨i0, hi, hz0, hz1, hz2⟩ := info_parts infoI
  obtain ⟨hv1, hle, hsh⟩ := abv_facts h
  have hl8 := lv_lt x hx
  have HNe : Hid (∀ k, k < lv x - lv v → x >>> k ≠ v) := Lib.hid (fun k hk e => by
    have h1 : 1 ≤ x := by
      rcases Nat.eq_zero_or_pos x with h0 | h0
      · subst h0; simp at e; omega
      · exact h0
    have h2 := nat_ok x (lv x - k) h1 hx (by omega)
    unfold nat_ at h2
    rw [show lv x - (lv x - k) = k by omega, e] at h2
    omega)
  have HSh := Lib.hid hsh
  have HLe : Hid (∀ k, x >>> k ≤ 255) := Lib.hid (fun k => by rw [Nat.shiftRight_eq_div_pow]; have := Nat.div_le_self x (2 ^ k); omega)
  obtain ⟨K, hK⟩ : ∃ K, K = lv x - lv v := ⟨_, rfl⟩
  rw [← hK] at HNe HSh ⊢
  have hK8 : K ≤ 8 := by omega
  obtain ⟨N, hN⟩ : ∃ N, N = w.heap.size := ⟨_, rfl⟩
  have HN := Lib.hid hN
  rw [← hN]
  clear hK hsh h hx hle hl8 hN
  go_enter Try.func122, Try.ntmps122
  go_wp2_with fail
  go_loopw [1, 5] (fun y u wr => ∃ (k : Nat), k ≤ K ∧ y = .int .i64 ((x >>> k : Nat) : Int) ∧ (k = 0 → u = .slice none 0 0) ∧ Hid (wr.ownsRow N 3 1 u k (outl x k)) ∧ Hid (Below N w wr ∧ N ≤ wr.heap.size)) (fun y _ _ => (intOf y).toNat)
  case atStart => exact ⟨0, by omega, by simp, fun _ => rfl, Lib.hid (World.ownsRow_nil _ _ _ _), Lib.hid ⟨Below.refl _ _, by rw [HN.out]; exact Nat.le_refl _⟩⟩
  case round =>
    obtain ⟨k, hk, rfl, hnil, HO, HBr⟩ := hrel
    obtain ⟨y, hy⟩ : ∃ y, y = x >>> k := ⟨_, rfl⟩
    have HY := Lib.hid hy
    have HSn : Hid (outl x (k + 1) = [.int .i64 (y : Int)] ++ outl x k) := Lib.hid (by rw [outl_cons, hy])
    have hy255 : y ≤ 255 := by rw [hy]; exact HLe.out k
    have hNw : N ≤ wr.heap.size := HBr.out.2
    by_cases hlt : k < K
    · have hne : ¬ ((y : Int) = (v : Int)) := by have := HNe.out k hlt; rw [← hy] at this; omega
      have HHf : Hid (x >>> (k + 1) = y / 2) := Lib.hid (by rw [Nat.shiftRight_succ, hy])
      have hy0 : 0 < y := by
        rcases Nat.eq_zero_or_pos y with h0 | h0
        · exfalso
          have h1 : x >>> K = 0 := by
            rw [show K = k + (K - k) by omega, Nat.shiftRight_add, ← hy, h0]; simp
          have := HSh.out; omega
        · exact h0
      rw [← hy]
      clear hy
      rcases Nat.eq_zero_or_pos k with hk0 | hk0
      · subst hk0
        have hu := hnil rfl
        subst hu
        have hap := fun ty => run_append_room_src (P := Try.prog) (w := wr.alloc (.cells #[.int .i64 (y : Int)] 3)) 46 46 ty 3 i0 Try.underlying46 hi wr.heap.size 0 1 1 (.slice none 0 0) 0 [] (Src.ofNil _ Try.underlying46 0) (by omega) (fun j hj => by simp at hj) (fun j hj => by simp at hj)
        simp only [World.setCells] at hap
        go_wp2_with fail
        go_roundw
        case rel => exact ⟨0 + 1, by omega, by rw [HHf.out]; go_num, fun h => by omega, Lib.hid (by rw [HSn.out]; exact own_new wr 3 (.int .i64 (y : Int)) N hNw), Lib.hid ⟨HBr.out.1.alloc hNw _, by simp; omega⟩⟩
        case measure => simp [intOf]; omega
      · obtain ⟨g, c, hu, q1, q2, q3, q4⟩ := own_slice2 HO.out hk0
        subst hu
        have hkI : (0 : Int) < (k : Int) := by omega
        have ho := own_new wr 3 (.int .i64 (y : Int)) N hNw
        have hlen : (outl x k).length = k * 1 := by simp [outl]
        have hnw : ∀ j u, (outl x k)[j]? = some u → (wr.alloc (.cells #[.int .i64 (y : Int)] 3)).cell? ((⟨g, 0, none⟩ : Addr).add j) = some u := fun j u hu => by
          rw [Addr.add_mid, Nat.zero_add]
          exact (((Below.refl wr.heap.size wr).alloc (Nat.le_refl _) _).cell (p := ⟨g, j, none⟩) (World.block_lt_of_cell? wr _ (q4 j u hu))).trans (q4 j u hu)
        have hone : ∀ u ∈ outl x k, u.oneCell' = true := by intro u hu; obtain ⟨i, _, rfl⟩ := List.mem_map.1 hu; rfl
        have h63 : 1 + k ≤ maxLen := by unfold maxLen; omega
        have hby : (1 + k) * 8 ≤ 140737488355328 := by omega
        have hbs : N ≤ (wr.alloc (.cells #[.int .i64 (y : Int)] 3)).heap.size := by simp; omega
        go_wp2_with (first
          | (at_builtin; refine wpList_append_own _ rfl _ _ 46 rfl N 3 i0 _ 1 8 Try.underlying46 hi hz0 hz1 hz2 rfl (by omega) _ _ _ rfl ho ⟨g, 0, none⟩ k c (outl x k) rfl hlen hnw hone h63 (by omega) hbs ?_; intro v1 w6 hown6 hg6 _))
        go_roundw
        case rel => exact ⟨k + 1, by omega, by rw [HHf.out]; go_num, fun h => by omega, Lib.hid (by rw [HSn.out, Nat.add_comm k 1]; exact hown6), Lib.hid ⟨(HBr.out.1.alloc hNw _).grown hg6 (by simp; omega) (fun b hb => own_block ho hb.symm), Nat.le_trans (by simp; omega) hg6.size⟩⟩
        case measure => simp [intOf]; omega
    · obtain rfl : K = k := by omega
      have hyv : y = v := by rw [hy]; exact HSh.out
      have HGet : Hid (∀ i, i < K + 1 → (outl x (K + 1))[i]? = some (.int .i64 ((x >>> (K - i) : Nat) : Int))) := Lib.hid (fun i hi => by rw [outl_get x (K + 1) i hi, Nat.add_sub_cancel])
      rw [← hy]
      clear hy
      subst hyv
      rcases Nat.eq_zero_or_pos K with hk0 | hk0
      · subst hk0
        have hu := hnil rfl
        subst hu
        have hap := fun ty => run_append_room_src (P := Try.prog) (w := wr.alloc (.cells #[.int .i64 (y : Int)] 3)) 46 46 ty 3 i0 Try.underlying46 hi wr.heap.size 0 1 1 (.slice none 0 0) 0 [] (Src.ofNil _ Try.underlying46 0) (by omega) (fun j hj => by simp at hj) (fun j hj => by simp at hj)
        simp only [World.setCells] at hap
        go_wp2_with fail
        go_ret
        have h1 := own_new wr 3 (.int .i64 (y : Int)) N hNw
        obtain ⟨g, c, hv, q1, q2, q3, q4⟩ := own_slice2 h1 (by omega)
        injection hv with e1 e2 e3
        injection e1 with e1
        injection e1 with e1
        subst e1
        have h2 := HGet.out 0 (by omega)
        rw [HSn.out] at h2
        have h3 := q4 0 _ h2
        exact ⟨⟨_, _, rfl, q1, by omega, by simp [maxLen], by simpa using h3⟩, HBr.out.1.alloc hNw _⟩
      · obtain ⟨g, c, hu, q1, q2, q3, q4⟩ := own_slice2 HO.out hk0
        subst hu
        have hkI : (0 : Int) < (K : Int) := by omega
        have ho := own_new wr 3 (.int .i64 (y : Int)) N hNw
        have hlen : (outl x K).length = K * 1 := by simp [outl]
        have hnw : ∀ j u, (outl x K)[j]? = some u → (wr.alloc (.cells #[.int .i64 (y : Int)] 3)).cell? ((⟨g, 0, none⟩ : Addr).add j) = some u := fun j u hu => by
          rw [Addr.add_mid, Nat.zero_add]
          exact (((Below.refl wr.heap.size wr).alloc (Nat.le_refl _) _).cell (p := ⟨g, j, none⟩) (World.block_lt_of_cell? wr _ (q4 j u hu))).trans (q4 j u hu)
        have hone : ∀ u ∈ outl x K, u.oneCell' = true := by intro u hu; obtain ⟨i, _, rfl⟩ := List.mem_map.1 hu; rfl
        have h63 : 1 + K ≤ maxLen := by unfold maxLen; omega
        have hby : (1 + K) * 8 ≤ 140737488355328 := by omega
        have hbs : N ≤ (wr.alloc (.cells #[.int .i64 (y : Int)] 3)).heap.size := by simp; omega
        go_wp2_with (first
          | (at_builtin; refine wpList_append_own _ rfl _ _ 46 rfl N 3 i0 _ 1 8 Try.underlying46 hi hz0 hz1 hz2 rfl (by omega) _ _ _ rfl ho ⟨g, 0, none⟩ K c (outl x K) rfl hlen hnw hone h63 (by omega) hbs ?_; intro v1 w6 hown6 hg6 _))
        obtain ⟨g6, c6, hv6, r1, r2, r3, r4⟩ := own_slice2 hown6 (by omega)
        subst hv6
        have HFin : Hid (N ≤ g6 ∧ 1 + K ≤ c6 ∧ c6 ≤ maxLen ∧ (∀ i, i < K + 1 → w6.cell? ⟨g6, i, none⟩ = some (.int .i64 ((x >>> (K - i) : Nat) : Int))) ∧ Below N w w6) := Lib.hid ⟨r1, r2, r3, fun i hi => r4 i _ (by have h2 := HGet.out i hi; rw [HSn.out] at h2; exact h2), (HBr.out.1.alloc hNw _).grown hg6 (by simp; omega) (fun b hb => own_block ho hb.symm)⟩
        clear r1 r2 r3 r4 hown6 hg6 ho hnw hone hlen h63 hby hbs q1 q2 q3 q4
        go_wp2_with fail
        go_ret
        exact ⟨⟨g6, c6, by rw [Nat.add_comm]; rfl, HFin.out.1, by have := HFin.out.2.1; omega, HFin.out.2.2.1, HFin.out.2.2.2.1⟩, HFin.out.2.2.2.2⟩
end Go.Proofs.Ytchkgccnipejhaa

/-
  The first special node between two, the specification's.
-/
namespace Go.Proofs.Ytchkgccnipejhaa
open Go.RowKit TR
set_option linter.unusedVariables false
set_option linter.unusedSimpArgs false

/-- The first special one of n nodes from the one with the index i on, on a path of K steps to x. -/
def btl (d x K : Nat) : Nat → Nat → Nat
  | 0, _ => 0
  | n + 1, i => if spc d (x >>> (K - i)) then x >>> (K - i) else btl d x K n (i + 1)
theorem chk_btl : ((List.range 7).all fun d => (List.range (2 ^ (d + 1))).all fun v => (List.range (2 ^ (d + 1))).all fun w => !(abv v w) || w == v || btl d w (lv w - lv v) (lv w - lv v - 1) 1 == fsp d v w) = true := by decide +kernel
theorem btl_fsp (d v w : Nat) (hd : d < 7) (hv : v < 2 ^ (d + 1)) (hw : w < 2 ^ (d + 1)) (h1 : abv v w = true) (h2 : w ≠ v) : btl d w (lv w - lv v) (lv w - lv v - 1) 1 = fsp d v w := by
  have h := chk_btl
  simp only [List.all_eq_true, List.mem_range] at h
  have h3 := h d hd v hv w hw
  simpa [h1, h2] using h3

set_option maxRecDepth 100000 in
set_option maxHeartbeats 1000000 in
theorem refBetween_any (d v x : Nat) (w : World) (hd : d < 7) (hv : v < 2 ^ (d + 1)) (hx : x < 2 ^ (d + 1)) (h : abv v x = true) (hne : x ≠ v) :
    Calls Try.prog 75 #[.int .i64 (d : Int), .int .i64 (v : Int), .int .i64 (x : Int)] w fun e w' => e = .returned (.int .i64 (fsp d v x : Int)) ∧ Below w.heap.size w w' := by
  have h2 : 2 ^ (d + 1) ≤ 128 := by rcases (by omega : d = 0 ∨ d = 1 ∨ d = 2 ∨ d = 3 ∨ d = 4 ∨ d = 5 ∨ d = 6) with rfl | rfl | rfl | rfl | rfl | rfl | rfl <;> decide
  have HR := Lib.hid (btl_fsp d v x hd hv hx h hne)
  have HPa := Lib.hid (fun w => refPath_any v x w (by omega) h)
  have HLe : Hid (∀ k, x >>> k < 256) := Lib.hid (fun k => by rw [Nat.shiftRight_eq_div_pow]; have := Nat.div_le_self x (2 ^ k); omega)
  have HSp := Lib.hid (fun k w => refSpecial_any d (x >>> k) w hd (HLe.out k))
  have hl8 := lv_lt x (by omega)
  obtain ⟨R, hR⟩ : ∃ R, R = fsp d v x := ⟨_, rfl⟩
  rw [← hR] at HR ⊢
  obtain ⟨K, hK⟩ : ∃ K, K = lv x - lv v := ⟨_, rfl⟩
  rw [← hK] at HR HPa
  have hK8 : K ≤ 8 := by omega
  obtain ⟨N, hN⟩ : ∃ N, N = w.heap.size := ⟨_, rfl⟩
  have HN := Lib.hid hN
  clear hR hK h hne hv hx h2 hl8 hd hN
  go_enter Try.func75, Try.ntmps75
  go_wp2_with fail
  refine (HPa.out _).mono ?_
  rintro e w2 ⟨⟨g, c, rfl, q1, q2, q3, q4⟩, hb2⟩
  have HCl := Lib.hid q4
  have HB2 := Lib.hid hb2
  have HS2 := Lib.hid q1
  clear q1 q4 hb2
  go_wp2_with fail
  go_loopw [8] (fun y wr => ∃ (i : Nat), 1 ≤ i ∧ i ≤ K + 1 ∧ y = .int .i64 (i : Int) ∧ Hid (btl d x K (K - i) i = R) ∧ Hid (Below w2.heap.size w2 wr)) (fun y _ => K + 2 - (intOf y).toNat)
  case atStart => exact ⟨1, Nat.le_refl _, by omega, rfl, HR, Lib.hid (Below.refl _ _)⟩
  case round =>
    obtain ⟨i, hi1, hi2, rfl, HL, HBr⟩ := hrel
    by_cases hlt : i < K
    · have g1 := (HBr.out.cell (p := ⟨g, i, none⟩) (World.block_lt_of_cell? w2 _ (HCl.out i (by omega)))).trans (HCl.out i (by omega))
      have HSi := Lib.hid (fun w => HSp.out (K - i) w)
      have HL1 : Hid (btl d x K (K - i - 1 + 1) i = R) := Lib.hid (by rw [show K - i - 1 + 1 = K - i by omega]; exact HL.out)
      obtain ⟨y, hy⟩ : ∃ y, y = x >>> (K - i) := ⟨_, rfl⟩
      have HY := Lib.hid hy
      rw [← hy] at g1 HSi
      have l1 : (0 : Int) ≤ (i : Int) := by omega
      have l2 : (i : Int) < ((K + 1 : Nat) : Int) := by omega
      have l3 : (i : Int) < (K : Int) := by omega
      clear hy
      rcases hsp : spc d y with _ | _
      · have HNx : Hid (btl d x K (K - (i + 1)) (i + 1) = R) := Lib.hid (by
          have h1 := HL1.out
          rw [btl, ← HY.out, hsp, if_neg (by decide)] at h1
          rw [show K - (i + 1) = K - i - 1 by omega]; exact h1)
        rw [hsp] at HSi
        clear hsp
        go_wp2_with fail
        refine (HSi.out _).mono ?_
        rintro e w' ⟨rfl, rfl⟩
        clear g1
        go_wp2_with fail
        go_roundw
        case rel => exact ⟨i + 1, by omega, by omega, by go_num, HNx, HBr⟩
        case measure => simp [intOf]; omega
      · have HF : Hid (R = y) := Lib.hid (by
          have h1 := HL1.out
          rw [btl, ← HY.out, hsp, if_pos rfl] at h1
          exact h1.symm)
        rw [hsp] at HSi
        clear hsp
        go_wp2_with fail
        refine (HSi.out _).mono ?_
        rintro e w' ⟨rfl, rfl⟩
        go_wp2_with fail
        go_ret
        exact ⟨by rw [HF.out]; rfl, HB2.out.trans (HBr.out.mono HB2.out.size)⟩
    · have HF : Hid (R = 0) := Lib.hid (by rw [← HL.out, show K - i = 0 by omega]; rfl)
      have l3 : (K : Int) ≤ (i : Int) := by omega
      go_wp2_with fail
      go_ret
      exact ⟨by rw [HF.out]; rfl, HB2.out.trans (HBr.out.mono HB2.out.size)⟩
end Go.Proofs.Ytchkgccnipejhaa

/-
  Whether two nodes are a subset, the specification's.
-/
namespace Go.Proofs.Ytchkgccnipejhaa
open Go.RowKit TR
set_option linter.unusedVariables false
set_option linter.unusedSimpArgs false

set_option maxRecDepth 100000 in
set_option maxHeartbeats 4000000 in
theorem refIsSubset_any (K E a b : Int) (d P Q G : Nat) (w : World) (hd : d < 7) :
    Calls Try.prog 29 #[.agg #[.int .u8 K, .int .i64 (d : Int), .int .i64 E, .int .u64 (P : Int), .int .u64 (Q : Int), .int .u64 (G : Int)], .agg #[.int .i64 a, .int .i64 b]] w fun e w' => e = .returned (.bool (isb K d a b)) ∧ Below w.heap.size w w' := by
  obtain ⟨N, hN⟩ : ∃ N, N = w.heap.size := ⟨_, rfl⟩
  obtain ⟨W2, hW2⟩ : ∃ W2, W2 = (w.alloc (.cells #[.int .u8 K, .int .i64 (d : Int), .int .i64 E, .int .u64 (P : Int), .int .u64 (Q : Int), .int .u64 (G : Int)] 45)).alloc (.cells #[.int .i64 a, .int .i64 b] 56) := ⟨_, rfl⟩
  have HB2 : Hid (Below N w W2) := Lib.hid (by rw [hW2, hN]; exact ((Below.refl _ _).alloc (Nat.le_refl _) _).alloc (by simp) _)
  have HS2 : Hid (W2.heap.size = N + 2) := Lib.hid (by rw [hW2, hN]; simp)
  have HEnv : Hid (∀ w1, Below (N + 2) W2 w1 → SchAt w1 N K (d : Int) E P Q G ∧ (w1.cell? ⟨N + 1, 0, none⟩ = some (.int .i64 a) ∧ w1.cell? ⟨N + 1, 1, none⟩ = some (.int .i64 b)) ∧ Below N w w1) := Lib.hid (fun w1 h => by
    have s : SchAt W2 N K (d : Int) E P Q G := by rw [hW2, hN]; exact (SchAt.new w K (d : Int) E P Q G _).below ((Below.refl _ _).alloc (Nat.le_refl _) _) (by simp)
    have c : ∀ j v, #[Value.int .i64 a, Value.int .i64 b][j]? = some v → W2.cell? ⟨N + 1, j, none⟩ = some v := fun j v hv => by
      have h := heap_alloc_new (w.alloc (.cells #[.int .u8 K, .int .i64 (d : Int), .int .i64 E, .int .u64 (P : Int), .int .u64 (Q : Int), .int .u64 (G : Int)] 45)) (.cells #[.int .i64 a, .int .i64 b] 56)
      rw [← hW2, World.size_alloc, ← hN] at h
      rw [cell_of_row _ _ j _ _ _ h]; exact hv
    exact ⟨s.below h (by omega), ⟨(h.cell (p := ⟨N + 1, 0, none⟩) (by show N + 1 < N + 2; omega)).trans (c 0 _ rfl), (h.cell (p := ⟨N + 1, 1, none⟩) (by show N + 1 < N + 2; omega)).trans (c 1 _ rfl)⟩, HB2.out.trans (h.mono (by omega))⟩)
  have HH := Lib.hid (fun (x : Int) (w : World) => refNode_any x d w hd)
  have HD := Lib.hid hd
  have HN := Lib.hid hN
  have HW := Lib.hid hW2
  rw [← hN]
  obtain ⟨⟨c0, c1, c2, c3, c4, c5⟩, ⟨z0, z1⟩, _⟩ := HEnv.out W2 (Below.refl _ _)
  rw [hW2, hN] at c0 c1 c2 c3 c4 c5 z0 z1
  clear hN hW2 hd
  go_enter Try.func29, Try.ntmps29
  go_wp2_with fail
  rw [← HW.out, ← HN.out]
  refine (HH.out a _).mono ?_
  rintro e w3 ⟨rfl, rfl⟩
  clear c0 c1 c2 c3 c4 c5 z0 z1
  obtain ⟨⟨c0, c1, c2, c3, c4, c5⟩, ⟨z0, z1⟩, hE3⟩ := HEnv.out W2 (Below.refl _ _)
  have HE3 := Lib.hid hE3
  clear hE3
  rcases hha : hsn d a with _ | _
  · have HF : Hid (isb K d a b = false) := Lib.hid (by unfold isb; rw [hha]; rfl)
    clear hha
    go_wp2_with fail
    go_ret
    exact ⟨by rw [HF.out]; rfl, HE3.out⟩
  obtain ⟨v, rfl, hv1, hv2, hv3⟩ := hsn_nat HD.out hha
  have HHa := Lib.hid hha
  have HV := Lib.hid (And.intro hv1 (And.intro hv2 hv3))
  clear hha hv1 hv2 hv3
  by_cases hK1 : K = 1
  · have HF : Hid (isb K d v b = decide (b = 0)) := Lib.hid (by unfold isb; rw [HHa.out, if_pos hK1]; rfl)
    by_cases hb0 : b = 0
    all_goals
      go_wp2_with fail
      go_ret
      exact ⟨by rw [HF.out]; first | rfl | (simp [hb0]; done), HE3.out⟩
  by_cases hb0 : b = 0
  · have HF : Hid (isb K d v b = decide ((v : Int) = 1)) := Lib.hid (by unfold isb; rw [HHa.out, if_neg hK1, if_pos hb0]; rfl)
    by_cases hv1 : (v : Int) = 1
    all_goals
      go_wp2_with fail
      go_ret
      exact ⟨by rw [HF.out]; first | rfl | (simp [hv1]; done) | (simp; omega), HE3.out⟩
  go_wp2_with fail
  refine (HH.out b _).mono ?_
  rintro e w4 ⟨rfl, rfl⟩
  rcases hhb : hsn d b with _ | _
  · have HF : Hid (isb K d v b = false) := Lib.hid (by unfold isb; rw [HHa.out, if_neg hK1, if_neg hb0, hhb]; rfl)
    clear hhb
    go_wp2_with fail
    go_ret
    exact ⟨by rw [HF.out]; rfl, HE3.out⟩
  obtain ⟨x, rfl, hx1, hx2, hx3⟩ := hsn_nat HD.out hhb
  have HHb := Lib.hid hhb
  have HX := Lib.hid (And.intro hx1 (And.intro hx2 hx3))
  have HI : Hid (isb K d v x = (!(decide ((x : Int) = (v : Int))) && (abv v x && (decide (K = 2) || spc d v || fsp d v x == 0)))) := Lib.hid (by unfold isb; rw [HHa.out, if_neg hK1, if_neg hb0, HHb.out]; simp only [Bool.true_and, Int.toNat_natCast])
  clear hhb hx1 hx2 hx3 hb0
  by_cases hxv : x = v
  · subst hxv
    go_wp2_with fail
    go_ret
    exact ⟨by rw [HI.out]; first | rfl | (simp; done), HE3.out⟩
  have hxv' : ¬ (x : Int) = (v : Int) := by omega
  have HNE := Lib.hid hxv
  have HA : Hid (∀ w, Calls Try.prog 36 #[.int .i64 (x : Int), .int .i64 (v : Int)] w fun e w' => e = .returned (.bool (abv v x)) ∧ w = w') := Lib.hid (fun w => by
    have h := refBelow_any x v w HX.out.2.2 (by have := HV.out.2.2; omega)
    rw [blw_abv v x HV.out.2.2 HX.out.2.2 HV.out.1 HX.out.1] at h
    exact h)
  clear hxv
  go_wp2_with fail
  refine (HA.out _).mono ?_
  rintro e w' ⟨rfl, rfl⟩
  clear HA
  rcases hab : abv v x with _ | _
  · have HAb := Lib.hid hab
    clear hab
    go_wp2_with fail
    go_ret
    exact ⟨by rw [HI.out, HAb.out]; first | rfl | (simp; done), HE3.out⟩
  have HAb := Lib.hid hab
  clear hab
  by_cases hK2 : K = 2
  · go_wp2_with fail
    go_ret
    exact ⟨by rw [HI.out, HAb.out]; first | rfl | (simp [hK2, hxv']; done), HE3.out⟩
  have HSp := Lib.hid (fun w => refSpecial_any d v w HD.out (by have := HV.out.2.2; omega))
  have HFs := Lib.hid (fun w => refBetween_any d v x w HD.out HV.out.2.1 HX.out.2.1 HAb.out HNE.out)
  go_wp2_with fail
  refine (HSp.out _).mono ?_
  rintro e w5 ⟨rfl, rfl⟩
  clear HSp
  rcases hsp : spc d v with _ | _
  · have HSb := Lib.hid hsp
    clear hsp
    go_wp2_with fail
    refine (HFs.out _).mono ?_
    rintro e w6 ⟨rfl, hb6⟩
    have HE6 : Hid (Below N w w6) := Lib.hid (HE3.out.trans (hb6.mono (by rw [HS2.out]; omega)))
    clear hb6 c0 c1 c2 c3 c4 c5 z0 z1 HFs
    obtain ⟨r, hr⟩ : ∃ r, r = fsp d v x := ⟨_, rfl⟩
    have HR := Lib.hid hr
    rw [← hr]
    clear hr
    by_cases hr : (r : Int) = 0
    · have hr0 : r = 0 := by omega
      go_wp2_with fail
      go_ret
      exact ⟨by rw [HI.out, ← HR.out, HAb.out, HSb.out]; first | rfl | (simp [hK2, hxv', hr0]; done), HE6.out⟩
    · have hr0 : ¬ r = 0 := by omega
      go_wp2_with fail
      go_ret
      exact ⟨by rw [HI.out, ← HR.out, HAb.out, HSb.out]; first | rfl | (simp [hK2, hxv', hr0]; done) | (simp only [show (K == 2) = false by simp [hK2], show ((r : Int) == 0) = false by simp [hr0], show (r == 0) = false by simp [hr0], show decide (K = 2) = false by simp [hK2], show decide ((x : Int) = (v : Int)) = false by simp; omega]; rfl), HE6.out⟩
  · have HSb := Lib.hid hsp
    clear hsp HFs
    go_wp2_with fail
    go_ret
    exact ⟨by rw [HI.out, HAb.out, HSb.out]; first | rfl | (simp [hK2, hxv']; done), HE3.out⟩
end Go.Proofs.Ytchkgccnipejhaa

/-
  Members, the specification's.
-/
namespace Go.Proofs.Ytchkgccnipejhaa
open Go.RowKit TR
set_option linter.unusedVariables false
set_option linter.unusedSimpArgs false

theorem p64 {d : Nat} (hd : d < 7) : 1 ≤ 2 ^ d ∧ 2 ^ d ≤ 64 := by
  rcases (by omega : d = 0 ∨ d = 1 ∨ d = 2 ∨ d = 3 ∨ d = 4 ∨ d = 5 ∨ d = 6) with rfl | rfl | rfl | rfl | rfl | rfl | rfl <;> decide
theorem abv_zero (y : Nat) : abv 0 y = false := rfl

/-- The members among the first k receivers, as values. -/
def mmv (d v x k : Nat) : List Nat := (List.range k).filter fun u => abv v (2 ^ d + u) && !(abv x (2 ^ d + u))
theorem mmv_snoc (d v x k : Nat) : mmv d v x (k + 1) = if (abv v (2 ^ d + k) && !(abv x (2 ^ d + k))) = true then mmv d v x k ++ [k] else mmv d v x k := by
  unfold mmv
  rw [List.range_succ, List.filter_append]
  by_cases h : (abv v (2 ^ d + k) && !(abv x (2 ^ d + k))) = true
  · rw [if_pos h]; simp only [List.filter_cons, h, if_true, List.filter_nil]
  · rw [if_neg h]; simp only [List.filter_cons, h, if_false, List.filter_nil, List.append_nil, Bool.false_eq_true]
theorem mmv_len (d v x k : Nat) : (mmv d v x k).length ≤ k := by
  unfold mmv; have := List.length_filter_le (fun u => abv v (2 ^ d + u) && !(abv x (2 ^ d + u))) (List.range k); simpa using this
def ivs (xs : List Nat) : List Value := xs.map fun (u : Nat) => Value.int .i64 (u : Int)

end Go.Proofs.Ytchkgccnipejhaa

/-
  Leaves, the program's.
-/
namespace Go.Proofs.Ytchkgccnipejhaa
open Go.RowKit TR
set_option linter.unusedVariables false
set_option linter.unusedSimpArgs false

theorem infoN : (Try.prog.info? 113).map (fun i => (i.zero, i.size, i.bytes)) = some (some (.int .i64 0), 1, 8) := by kernel_rfl
/-- The first k leaves below v. -/
def lvk (h v k : Nat) : List Nat := (List.range k).map fun i => v * 2 ^ h + i
theorem lvk_snoc (h v k : Nat) : lvk h v (k + 1) = lvk h v k ++ [v * 2 ^ h + k] := by unfold lvk; rw [List.range_succ, List.map_append]; rfl
theorem lvk_len (h v k : Nat) : (lvk h v k).length = k := by simp [lvk]

set_option maxRecDepth 100000 in
set_option maxHeartbeats 1000000 in
theorem leaves_any (v d : Nat) (w : World) (hd : d < 7) (h1 : 1 ≤ v) (hv : v < 2 ^ (d + 1)) (hle : lv v ≤ d) :
    Calls Try.prog 84 #[.int .i64 (v : Int), .int .i64 (d : Int)] w fun e w' => (∃ u, e = .returned u ∧ w'.ownsRow w.heap.size 113 1 u (2 ^ (d - lv v)) (ivs (lvs d v))) ∧ Below w.heap.size w w' := by
  obtain ⟨i0, hi, hz0, hz1, hz2⟩ := info_parts infoN
  have h128 : 2 ^ (d + 1) ≤ 128 := by rcases (by omega : d = 0 ∨ d = 1 ∨ d = 2 ∨ d = 3 ∨ d = 4 ∨ d = 5 ∨ d = 6) with rfl | rfl | rfl | rfl | rfl | rfl | rfl <;> decide
  have hv2 : v < 128 := by omega
  clear h128
  have HL := Lib.hid (fun w => level_any v w h1 (by omega))
  have HM : Hid (lvs d v = lvk (d - lv v) v (2 ^ (d - lv v))) := Lib.hid rfl
  obtain ⟨m, hm⟩ : ∃ m, m = lv v := ⟨_, rfl⟩
  rw [← hm] at HL HM hle ⊢
  obtain ⟨h, rfl⟩ : ∃ h, d = m + h := ⟨d - m, by omega⟩
  rw [show m + h - m = h by omega] at HM ⊢
  have hh : h < 7 := by omega
  have hT := p64 hh
  have HW1 : Hid (RowKit.wrap64 ((2 : Int) ^ h) = ((2 ^ h : Nat) : Int)) := Lib.hid (by
    have e : ((2 : Int) ^ h) = ((2 ^ h : Nat) : Int) := by simp
    rw [e, ← IntWalk.i64_left]; exact IntWalk.i64_in _ (by omega))
  have HW2 : Hid (RowKit.wrap64 ((v : Int) * (2 : Int) ^ h) = ((v * 2 ^ h : Nat) : Int)) := Lib.hid (by
    have e : ((v : Int) * (2 : Int) ^ h) = ((v * 2 ^ h : Nat) : Int) := by simp
    have hb : v * 2 ^ h ≤ 128 * 64 := Nat.mul_le_mul (by omega) hT.2
    rw [e, ← IntWalk.i64_left]; exact IntWalk.i64_in _ (by omega))
  have hb : v * 2 ^ h ≤ 128 * 64 := Nat.mul_le_mul (by omega) hT.2
  have HSn := Lib.hid (fun k => lvk_snoc h v k)
  have HLn := Lib.hid (fun k => lvk_len h v k)
  rw [HM.out]
  obtain ⟨B, hB⟩ : ∃ B, B = v * 2 ^ h := ⟨_, rfl⟩
  rw [← hB] at HW2 hb
  have HSn2 : Hid (∀ k, lvk h v (k + 1) = lvk h v k ++ [B + k]) := Lib.hid (fun k => by rw [hB]; exact HSn.out k)
  obtain ⟨T, hT2⟩ : ∃ T, T = 2 ^ h := ⟨_, rfl⟩
  rw [← hT2] at HW1 hT ⊢
  clear hB hT2 HSn
  obtain ⟨N, hN⟩ : ∃ N, N = w.heap.size := ⟨_, rfl⟩
  have HN := Lib.hid hN
  clear hm hN hd hv hle h1
  go_enter Try.func84, Try.ntmps84
  go_wp2_with fail
  refine (HL.out _).mono ?_
  rintro e w' ⟨rfl, rfl⟩
  go_wp2_with fail
  rw [show ((m : Int) + (h : Int) - (m : Int)) = (h : Int) by omega, show m + h - m = h by omega, HW1.out]
  have hw2 := HW2.out
  go_loopw [6, 14] (fun u y wr => ∃ (k : Nat), k ≤ T ∧ y = .int .i64 (k : Int) ∧ Hid (wr.ownsRow N 113 1 u k (ivs (lvk h v k))) ∧ Hid (Below N w wr ∧ N ≤ wr.heap.size)) (fun _ y _ => T - (intOf y).toNat)
  case atStart => exact ⟨0, by omega, rfl, Lib.hid (World.ownsRow_nil _ _ _ _), Lib.hid ⟨Below.refl _ _, by rw [HN.out]; exact Nat.le_refl _⟩⟩
  case round =>
    obtain ⟨k, hk, rfl, HO, HBr⟩ := hrel
    by_cases hlt : k < T
    · have HSk : Hid (ivs (lvk h v (k + 1)) = ivs (lvk h v k) ++ [.int .i64 ((B : Int) + (k : Int))]) := Lib.hid (by rw [HSn2.out]; unfold ivs; rw [List.map_append]; simp)
      have hlt' : (k : Int) < (T : Int) := by omega
      have hBk : (B : Int) ≤ 8192 := by omega
      have hkk : (k : Int) ≤ 64 := by omega
      have ho := HO.out
      have hNw := HBr.out.2
      have ho2 := ho.alloc (.cells #[.int .i64 ((B : Int) + (k : Int))] 113)
      have hone : ∀ u ∈ [Value.int .i64 ((B : Int) + (k : Int))], u.oneCell' = true := by intro u hu; simp at hu; subst hu; rfl
      have h63 : k + 1 ≤ maxLen := by unfold maxLen; omega
      have hby : (k + 1) * 8 ≤ 140737488355328 := by omega
      have hbs : N ≤ (wr.alloc (.cells #[.int .i64 ((B : Int) + (k : Int))] 113)).heap.size := by simp; omega
      go_wp2_with (first
        | (at_builtin; refine wpList_append_own _ rfl _ _ 139 rfl N 113 i0 _ 1 8 Try.underlying139 hi hz0 hz1 hz2 rfl (by omega) _ _ _ rfl ho2 ⟨wr.heap.size, 0, none⟩ 1 1 [.int .i64 ((B : Int) + (k : Int))] rfl rfl (cell_one_new _ _ _) hone h63 (by omega) hbs ?_; intro v1 w6 hown6 hg6 _))
      go_roundw
      case rel => exact ⟨k + 1, by omega, by go_num, Lib.hid (by rw [HSk.out]; exact hown6), Lib.hid ⟨(HBr.out.1.alloc hNw _).grown hg6 (by simp; omega) (fun b hb => own_block ho hb.symm), Nat.le_trans (by simp; omega) hg6.size⟩⟩
      case measure => simp [intOf]; omega
    · obtain rfl : T = k := by omega
      have HF := Lib.hid (And.intro HO.out HBr.out.1)
      go_wp2_with fail
      go_ret
      exact ⟨⟨_, rfl, by rw [← HN.out]; exact HF.out.1⟩, by rw [← HN.out]; exact HF.out.2⟩
end Go.Proofs.Ytchkgccnipejhaa

/-
  Whether a scheme is valid, the specification's answer; the program's check of a subset.
-/
namespace Go.Proofs.Ytchkgccnipejhaa
open Go.RowKit TR
set_option linter.unusedVariables false
set_option linter.unusedSimpArgs false

set_option maxRecDepth 100000 in
set_option maxHeartbeats 4000000 in
theorem refValid_any (K D E : Int) (P Q G : Nat) (w : World) (hK0 : 0 ≤ K) (hK1 : K ≤ 255) :
    Calls Try.prog 27 #[.agg #[.int .u8 K, .int .i64 D, .int .i64 E, .int .u64 (P : Int), .int .u64 (Q : Int), .int .u64 (G : Int)]] w fun e w' => e = .returned (.bool (scb K D E P Q G)) ∧ Below w.heap.size w w' := by
  have HN : (¬ ScOk K D E P Q G) → scb K D E P Q G = false := fun h => scb_no h
  rcases sc_cases K D E P Q G with ⟨k, d | d | ⟨d1, d2⟩⟩ | ⟨k, d | d | ⟨d1, d2⟩⟩ | ⟨k1, k2, d | d⟩ | ⟨k1, k2, d1, d2, e | e⟩ | ⟨k1, k2, d1, d2, rfl, p | ⟨rfl, q⟩ | ⟨rfl, rfl, g⟩⟩ | h
  case inr.inr.inr.inr.inr =>
    have H := Lib.hid (scb_yes h)
    clear HN
    obtain ⟨k1, k2, d1, d2, rfl, rfl, rfl, rfl⟩ := h
    go_enter Try.func27, Try.ntmps27
    go_wp2
    go_ret
    exact ⟨by rw [H.out]; first | rfl | (simp; done), by first | exact (Below.refl _ _).alloc (Nat.le_refl _) _ | exact Below.refl _ _⟩
  all_goals
    have H := Lib.hid (HN (fun h => by obtain ⟨h1, h2, h3, h4, h5, h6, h7, h8⟩ := h; omega))
    clear HN
    go_enter Try.func27, Try.ntmps27
    go_wp2
    go_ret
    exact ⟨by rw [H.out]; first | rfl | (simp; done) | (simp; omega), by first | exact (Below.refl _ _).alloc (Nat.le_refl _) _ | exact Below.refl _ _⟩

/-- The error of a scheme and a subset. -/
def sbc (K D E : Int) (P Q G : Nat) (a b : Int) : Int := if scb K D E P Q G then (if isb K D.toNat a b then 0 else 31) else 30

set_option maxRecDepth 100000 in
set_option maxHeartbeats 1000000 in
theorem checkSubset_any (K D E a b : Int) (P Q G : Nat) (w : World) (hK0 : 0 ≤ K) (hK1 : K ≤ 255) :
    Calls Try.prog 83 #[.agg #[.int .u8 K, .int .i64 D, .int .i64 E, .int .u64 (P : Int), .int .u64 (Q : Int), .int .u64 (G : Int)], .agg #[.int .i64 a, .int .i64 b]] w fun e w' => e = .returned (.int .i64 (sbc K D E P Q G a b)) ∧ Below w.heap.size w w' := by
  obtain ⟨N, hN⟩ : ∃ N, N = w.heap.size := ⟨_, rfl⟩
  obtain ⟨W2, hW2⟩ : ∃ W2, W2 = (w.alloc (.cells #[.int .u8 K, .int .i64 D, .int .i64 E, .int .u64 (P : Int), .int .u64 (Q : Int), .int .u64 (G : Int)] 45)).alloc (.cells #[.int .i64 a, .int .i64 b] 56) := ⟨_, rfl⟩
  have HB2 : Hid (Below N w W2) := Lib.hid (by rw [hW2, hN]; exact ((Below.refl _ _).alloc (Nat.le_refl _) _).alloc (by simp) _)
  have HS2 : Hid (W2.heap.size = N + 2) := Lib.hid (by rw [hW2, hN]; simp)
  have HEnv : Hid (∀ w1, Below (N + 2) W2 w1 → SchAt w1 N K D E P Q G ∧ (w1.cell? ⟨N + 1, 0, none⟩ = some (.int .i64 a) ∧ w1.cell? ⟨N + 1, 1, none⟩ = some (.int .i64 b)) ∧ Below N w w1) := Lib.hid (fun w1 h => by
    have s : SchAt W2 N K D E P Q G := by rw [hW2, hN]; exact (SchAt.new w K D E P Q G _).below ((Below.refl _ _).alloc (Nat.le_refl _) _) (by simp)
    have c : ∀ j v, #[Value.int .i64 a, Value.int .i64 b][j]? = some v → W2.cell? ⟨N + 1, j, none⟩ = some v := fun j v hv => by
      have h := heap_alloc_new (w.alloc (.cells #[.int .u8 K, .int .i64 D, .int .i64 E, .int .u64 (P : Int), .int .u64 (Q : Int), .int .u64 (G : Int)] 45)) (.cells #[.int .i64 a, .int .i64 b] 56)
      rw [← hW2, World.size_alloc, ← hN] at h
      rw [cell_of_row _ _ j _ _ _ h]; exact hv
    exact ⟨s.below h (by omega), ⟨(h.cell (p := ⟨N + 1, 0, none⟩) (by show N + 1 < N + 2; omega)).trans (c 0 _ rfl), (h.cell (p := ⟨N + 1, 1, none⟩) (by show N + 1 < N + 2; omega)).trans (c 1 _ rfl)⟩, HB2.out.trans (h.mono (by omega))⟩)
  have HC := Lib.hid (fun w => check_any K D E P Q G w hK0 hK1)
  have HN := Lib.hid hN
  have HW := Lib.hid hW2
  rw [← hN]
  obtain ⟨⟨c0, c1, c2, c3, c4, c5⟩, ⟨z0, z1⟩, _⟩ := HEnv.out W2 (Below.refl _ _)
  rw [hW2, hN] at c0 c1 c2 c3 c4 c5 z0 z1
  clear hN hW2 hK0 hK1
  go_enter Try.func83, Try.ntmps83
  go_wp2_with fail
  rw [← HW.out, ← HN.out]
  refine (HC.out _).mono ?_
  rintro e w3 ⟨rfl, hb3⟩
  have HB3 : Hid (Below (N + 2) W2 w3 ∧ N + 2 ≤ w3.heap.size) := Lib.hid ⟨hb3.mono (by rw [HS2.out]; exact Nat.le_refl _), by rw [← HS2.out]; exact hb3.size⟩
  have HE3 : Hid (Below N w w3) := Lib.hid (HEnv.out w3 HB3.out.1).2.2
  clear hb3 c0 c1 c2 c3 c4 c5 z0 z1
  by_cases h : ScOk K D E P Q G
  · have hs : scc K D E P Q G = 0 := scc_yes h
    rw [hs]
    have hd0 := h.2.2.1
    have hd6 := h.2.2.2.1
    have HSb : Hid (sbc K D E P Q G a b = if isb K D.toNat a b then 0 else 31) := Lib.hid (by unfold sbc; rw [scb_yes h]; rfl)
    obtain ⟨d, rfl⟩ := Int.eq_ofNat_of_zero_le hd0
    have HI := Lib.hid (fun w => isSubset_any K E a b d P Q G w (by omega))
    rw [Int.toNat_natCast] at HSb
    clear h hs hd0 hd6
    obtain ⟨⟨c0, c1, c2, c3, c4, c5⟩, ⟨z0, z1⟩, _⟩ := HEnv.out w3 HB3.out.1
    go_wp2_with fail
    refine (HI.out _).mono ?_
    rintro e w4 ⟨rfl, hb4⟩
    have HE4 : Hid (Below N w w4) := Lib.hid (HE3.out.trans (hb4.mono (by have := HB3.out.2; omega)))
    clear hb4 c0 c1 c2 c3 c4 c5 z0 z1 HI
    obtain ⟨q, hq⟩ : ∃ q, q = isb K d a b := ⟨_, rfl⟩
    rw [← hq] at HSb ⊢
    clear hq
    rcases q with _ | _
    all_goals
      go_wp2_with fail
      go_ret
      exact ⟨by rw [HSb.out]; rfl, HE4.out⟩
  · have hs : scc K D E P Q G = 30 := scc_no h
    rw [hs]
    have HSb : Hid (sbc K D E P Q G a b = 30) := Lib.hid (by unfold sbc; rw [scb_no h]; rfl)
    clear h hs
    go_wp2_with fail
    go_ret
    exact ⟨by rw [HSb.out]; rfl, HE3.out⟩
end Go.Proofs.Ytchkgccnipejhaa
