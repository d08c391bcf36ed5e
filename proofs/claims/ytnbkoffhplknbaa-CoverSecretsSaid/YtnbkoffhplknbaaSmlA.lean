/-
  Children, siblings, leaves, subsets, the program's.
-/
import Derived.Test.YtnbkoffhplknbaaLvsA
import Derived.Test.YtnbkoffhplknbaaCheB
namespace Go.Proofs.Ytnbkoffhplknbaa
open Go.RowKit TR
set_option linter.unusedVariables false
set_option linter.unusedSimpArgs false

set_option maxRecDepth 100000 in
set_option maxHeartbeats 400000 in
theorem left_any (v : Nat) (w : World) (hv : v < 256) :
    Calls Try.prog 71 #[.int .i64 (v : Int)] w fun e w' => e = .returned (.int .i64 ((2 * v : Nat) : Int)) ∧ w = w' := by
  go_enter Try.func71, Try.ntmps71
  go_wp2_with fail
  go_ret
  exact ⟨ret_int (by simp), rfl⟩

set_option maxRecDepth 100000 in
set_option maxHeartbeats 400000 in
theorem right_any (v : Nat) (w : World) (hv : v < 256) :
    Calls Try.prog 72 #[.int .i64 (v : Int)] w fun e w' => e = .returned (.int .i64 ((2 * v + 1 : Nat) : Int)) ∧ w = w' := by
  go_enter Try.func72, Try.ntmps72
  go_wp2_with fail
  go_ret
  exact ⟨ret_int (by simp), rfl⟩

theorem infoS : (Try.prog.info? 35).map (·.size) = some 2 := by kernel_rfl
theorem results_sub {fn : Func} {p : Tmp} (h : fn.results = #[.cell p 35]) (tmps : Array Value) (w : World) (b : Nat) (x y : Value)
    (hp : tmps.getD p undef = .pointer (some ⟨b, 0, none⟩)) (h0 : w.cell? ⟨b, 0, none⟩ = some x) (h1 : w.cell? ⟨b, 1, none⟩ = some y) : (results fn tmps).run Try.prog w = .ok (.agg #[x, y]) w := by
  have hp' : tmps[p]?.getD undef = .pointer (some ⟨b, 0, none⟩) := by simpa using hp
  have hc : w.rangeAt b 0 [x, y] := fun j v hv => by
    rw [Nat.zero_add]
    rcases j with _ | _ | j
    · simp at hv; subst hv; exact h0
    · simp at hv; subst hv; exact h1
    · simp at hv
  simp [results, h, hp', asAddr, run_loadVar_mid w b 0 35 [x, y] _ hc Try.underlying35 rfl infoS]
theorem bodyPost_sub {Q : Ending → World → Prop} {fn : Func} {p : Tmp} (h : fn.results = #[.cell p 35]) {a : Act} {w : World} (b : Nat) (x y : Value)
    (hp : a.tmps.getD p undef = .pointer (some ⟨b, 0, none⟩)) (h0 : w.cell? ⟨b, 0, none⟩ = some x) (h1 : w.cell? ⟨b, 1, none⟩ = some y) (hd : a.defers = []) (hq : Q (.returned (.agg #[x, y])) w) : bodyPost Try.prog fn Q .ret a w :=
  bodyPost_ret (results_sub h a.tmps w b x y hp h0 h1) hd hq

set_option maxRecDepth 100000 in
set_option maxHeartbeats 400000 in
theorem subset_any (a b : Int) (w : World) :
    Calls Try.prog 70 #[.int .i64 a, .int .i64 b] w fun e w' => e = .returned (.agg #[.int .i64 a, .int .i64 b]) ∧ Below w.heap.size w w' := by
  go_enter Try.func70, Try.ntmps70
  go_wp2
  exact bodyPost_sub rfl w.heap.size _ _ rfl (by simp) (by simp) rfl ⟨rfl, (Below.refl _ _).alloc (Nat.le_refl _) _⟩

set_option maxRecDepth 100000 in
set_option maxHeartbeats 1000000 in
theorem leaf_any (K E : Int) (d u P Q G : Nat) (w : World) (hd : d < 7) (hu : u < 256) :
    Calls Try.prog 68 #[.agg #[.int .u8 K, .int .i64 (d : Int), .int .i64 E, .int .u64 (P : Int), .int .u64 (Q : Int), .int .u64 (G : Int)], .int .i64 (u : Int)] w fun e w' => e = .returned (.int .i64 ((2 ^ d + u : Nat) : Int)) ∧ Below w.heap.size w w' := by
  have HB : Hid (Below w.heap.size w (w.alloc (.cells #[.int .u8 K, .int .i64 (d : Int), .int .i64 E, .int .u64 (P : Int), .int .u64 (Q : Int), .int .u64 (G : Int)] 28))) := Lib.hid ((Below.refl _ _).alloc (Nat.le_refl _) _)
  rcases (by omega : d = 0 ∨ d = 1 ∨ d = 2 ∨ d = 3 ∨ d = 4 ∨ d = 5 ∨ d = 6) with rfl | rfl | rfl | rfl | rfl | rfl | rfl
  all_goals
    go_enter Try.func68, Try.ntmps68
    go_wp2_with fail
    go_ret
    exact ⟨ret_int (by first | rfl | (simp; done) | (simp; omega)), HB.out⟩

theorem chk_xor : ((List.range 256).all fun x => bits BinOp.xor IntKind.i64 (x : Int) 1 == ((x ^^^ 1 : Nat) : Int)) = true := by decide +kernel
theorem xor_one (x : Nat) (hx : x < 256) : bits BinOp.xor IntKind.i64 (x : Int) 1 = ((x ^^^ 1 : Nat) : Int) := by
  have h := chk_xor
  simp only [List.all_eq_true, List.mem_range] at h
  simpa using h x hx
set_option maxRecDepth 100000 in
set_option maxHeartbeats 400000 in
theorem sibling_any (v : Nat) (w : World) (hv : v < 256) :
    Calls Try.prog 76 #[.int .i64 (v : Int)] w fun e w' => e = .returned (.int .i64 ((v ^^^ 1 : Nat) : Int)) ∧ w = w' := by
  go_enter Try.func76, Try.ntmps76
  go_wp2_with fail
  go_ret
  exact ⟨ret_int (xor_one v hv), rfl⟩
end Go.Proofs.Ytnbkoffhplknbaa
