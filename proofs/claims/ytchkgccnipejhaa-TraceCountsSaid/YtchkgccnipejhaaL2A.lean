/-
  Texts joined into one: KeyA, KeyB, KeyC, KeyD, KeyE, KeyF, KeyG.
-/
import Derived.Test.YtchkgccnipejhaaProg
import Derived.Test.YtchkgccnipejhaaMathA
import Derived.WalkKit
import Derived.Lib.Hide
import Derived.Deep.QuietTactic
import Derived.BigQuiet
import Derived.Laws.BitsAllLaws
import Derived.Deep.MidRow
import Derived.RangeFuncNested
import Derived.RangeFuncBound
import Derived.RangeFuncCalls
import Derived.RangeFuncLeaves
import Derived.Shelf.Abstract
import Derived.Shelf.RegionOpen
import Derived.OwnWalkIn
import Derived.TacticsInMore
import Derived.LoopNIn
import Derived.LoopIn
import Derived.Deep.Heap
import Derived.ChangeKeysEq
import Derived.Deep.RegionHeld3

/-
  Keys and blocks in memory: 16 cells that hold the bytes of two words. Contracts of RotateLeft64, round, unround.
-/
namespace Go.Proofs.Ytchkgccnipejhaa.L2
open Go.RowKit SP

def u64 (d : Nat) : Value := .int .u64 (d : Int)
def u8 (d : Nat) : Value := .int .u8 (d : Int)

/-- The cells of a list of bytes. -/
def bl (bs : List Nat) : List Value := bs.map u8
/-- The bytes of the block of two words. -/
def kb (X Y : Nat) : List Nat := (List.range 16).map (kby X Y)
/-- The cells of the block of two words. -/
def kl (X Y : Nat) : List Value := bl (kb X Y)
/-- The block of two words, as a value. -/
def KV (X Y : Nat) : Value := .agg (kl X Y).toArray

theorem kl_len (X Y : Nat) : (kl X Y).length = 16 := by simp [kl, bl, kb]
theorem kl_get (X Y i : Nat) (h : i < 16) : (kl X Y)[i]? = some (.int .u8 (kby X Y i : Int)) := by
  simp [kl, bl, kb, u8, List.getElem?_map, List.getElem?_range h]
theorem kl_one (X Y : Nat) : ∀ v ∈ kl X Y, v.oneCell' = true := by
  intro v hv
  obtain ⟨i, hi, hiv⟩ := List.getElem_of_mem hv
  have h := kl_get X Y i (by rw [← kl_len X Y]; exact hi)
  rw [List.getElem?_eq_getElem hi, hiv] at h
  injection h with h; rw [h]; rfl
theorem kl_arr (X Y : Nat) : (kl X Y).toArray.all (·.oneCell') = true := all_oneCell_toArray (kl_one X Y)

/-- Block b of the world w holds the block of the words X and Y. -/
def KeyAt (w : World) (b X Y : Nat) : Prop := w.rangeAt b 0 (kl X Y)

theorem KeyAt.cell {w : World} {b X Y : Nat} (h : KeyAt w b X Y) (i : Nat) (hi : i < 16) : w.cell? ⟨b, i, none⟩ = some (.int .u8 (kby X Y i : Int)) := by
  have := h i _ (kl_get X Y i hi)
  rwa [Nat.zero_add] at this
theorem KeyAt.of_cells {w : World} {b X Y : Nat} (h : ∀ i, i < 16 → w.cell? ⟨b, i, none⟩ = some (.int .u8 (kby X Y i : Int))) : KeyAt w b X Y := fun j v hv => by
  have hj : j < 16 := by rw [← kl_len X Y]; exact (List.getElem?_eq_some_iff.1 hv).1
  rw [kl_get X Y j hj] at hv
  injection hv with hv
  rw [Nat.zero_add, h j hj, hv]
theorem KeyAt.lt {w : World} {b X Y : Nat} (h : KeyAt w b X Y) : b < w.heap.size := World.block_lt_of_cell? w ⟨b, 0, none⟩ (h.cell 0 (by omega))
theorem KeyAt.below {w w' : World} {n b X Y : Nat} (h : KeyAt w b X Y) (hb : Below n w w') (hn : b < n) : KeyAt w' b X Y := fun j v hv => by
  rw [hb.cell (p := ⟨b, 0 + j, none⟩) hn]; exact h j v hv
theorem KeyAt.keep {w w' : World} {b X Y : Nat} (h : KeyAt w b X Y) (hb : Below w.heap.size w w') : KeyAt w' b X Y := h.below hb h.lt
theorem KeyAt.alloc {w : World} {b X Y : Nat} (h : KeyAt w b X Y) (o : Obj) : KeyAt (w.alloc o) b X Y :=
  h.keep ((Below.refl _ _).alloc (Nat.le_refl _) _)
theorem KeyAt.setCell {w : World} {b X Y : Nat} (h : KeyAt w b X Y) (p : Addr) (v : Value) (hp : p.block ≠ b) : KeyAt (w.setCell p v) b X Y := fun j v' hv => by
  rw [World.cell?_setCell_other _ _ _ _ (fun e => hp (by rw [e]))]; exact h j v' hv
theorem KeyAt.setCells {w : World} {b X Y : Nat} (h : KeyAt w b X Y) (b' : Nat) (vs : List Value) (hp : b ≠ b') : KeyAt (w.setCells b' 0 vs) b X Y :=
  World.rangeAt_setCells_apart h b' 0 vs (.inl hp)
theorem KeyAt.drew {w : World} {b X Y : Nat} (h : KeyAt w b X Y) : KeyAt w.drew b X Y := h
theorem KeyAt.new (w : World) (X Y : Nat) (t : TypeId) : KeyAt (w.alloc (.cells (kl X Y).toArray t)) w.heap.size X Y := fun j v hv => by
  rw [Nat.zero_add, cell_of_row _ _ j _ t _ (heap_alloc_new w _)]
  simpa using hv

/-- A block of 16 cells that may be written. -/
theorem there_new (w : World) (cs : Array Value) (t : TypeId) (n : Nat) (h : cs.size = n) : (w.alloc (.cells cs t)).there w.heap.size 0 n := fun j hj => by
  have hc : (w.alloc (.cells cs t)).cell? ⟨w.heap.size, 0 + j, none⟩ = cs[j]? := by
    rw [Nat.zero_add, cell_of_row _ _ j _ t _ (heap_alloc_new w _)]
  refine ⟨?_, ?_⟩
  · rw [hc, Array.getElem?_eq_getElem (by omega)]; rfl
  · unfold World.frozen?; rw [heap_alloc_new]; simp
theorem there_below {w w' : World} {m b n : Nat} (h : w.there b 0 n) (hb : Below m w w') (hn : b < m) : w'.there b 0 n := fun j hj => by
  rw [hb.cell (p := ⟨b, 0 + j, none⟩) hn, hb.frozen (p := ⟨b, 0 + j, none⟩) hn]; exact h j hj
theorem there_lt {w : World} {b n : Nat} (h : w.there b 0 n) (hn : 0 < n) : b < w.heap.size := by
  obtain ⟨u, hu⟩ := Option.isSome_iff_exists.1 (h 0 hn).1
  exact World.block_lt_of_cell? w _ hu

theorem size23 : (Try.prog.info? 26).map (·.size) = some 16 := by kernel_rfl

/-- The load of a block, as an arm of the walk. -/
theorem wpList_load_key {ops : Array Oper} {rest : List Oper} {op : Oper} {a : Act} {w : World} {Q : Exit → Act → World → Prop} (hgd : op.guard = none) (x : Operand) (ho : op.op = .load 26 x)
    (b : Nat) (hx : a.eval x = .pointer (some ⟨b, 0, none⟩)) (X Y : Nat) (hc : KeyAt w b X Y)
    (h : wpList Try.prog ops Q rest (a.put op.dst (.agg (kl X Y).toArray)) w) : wpList Try.prog ops Q (op :: rest) a w :=
  wpList_load_mid hgd 26 x ho b 0 hx (kl X Y) _ hc Try.underlying26 rfl (by rw [kl_len]; exact size23) h
/-- The store of a block. -/
theorem wpList_store_key {ops : Array Oper} {rest : List Oper} {op : Oper} {a : Act} {w : World} {Q : Exit → Act → World → Prop} (hgd : op.guard = none) (x y : Operand) (ho : op.op = .store 26 x y)
    (b : Nat) (X Y : Nat) (hx : a.eval x = .pointer (some ⟨b, 0, none⟩)) (hy : a.eval y = .agg (kl X Y).toArray) (ht : w.there b 0 16)
    (h : wpList Try.prog ops Q rest (a.put op.dst undef) (w.setCells b 0 (kl X Y))) : wpList Try.prog ops Q (op :: rest) a w := by
  refine wpList_store_mid hgd 26 x y ho b 0 (kl X Y).toArray hx hy ?_ ?_ (kl_arr X Y) ?_
  · simpa [kl_len] using ht
  · simp [kl_len, size23]
  · simpa using h
/-- What a function hands back whose result is a block in memory. -/
theorem results_key {fn : Func} {p : Tmp} (h : fn.results = #[.cell p 26]) (tmps : Array Value) (w : World) (b X Y : Nat)
    (hp : tmps.getD p undef = .pointer (some ⟨b, 0, none⟩)) (hc : KeyAt w b X Y) : (results fn tmps).run Try.prog w = .ok (.agg (kl X Y).toArray) w := by
  have hp' : tmps[p]?.getD undef = .pointer (some ⟨b, 0, none⟩) := by simpa using hp
  simp [results, h, hp', asAddr, run_loadVar_mid w b 0 26 (kl X Y) _ hc Try.underlying26 rfl (by rw [kl_len]; exact size23)]

/-! ### Rotations and rounds -/
theorem cnt3 : bits .and .u64 3 63 = 3 := by decide
theorem cnt8 : bits .and .u64 8 63 = 8 := by decide
theorem cntm3 : bits .and .u64 (IntKind.u64.wrap (-3)) 63 = 61 := by decide
theorem cntm8 : bits .and .u64 (IntKind.u64.wrap (-8)) 63 = 56 := by decide

theorem or_join (a b : Nat) (i : Nat) (ha : a < M) (h : a % 2 ^ i = 0) (hb : b < 2 ^ i) (hi : i ≤ 64) : bits .or .u64 (a : Int) (b : Int) = ((a + b : Nat) : Int) := by
  have hb2 : b < M := Nat.lt_of_lt_of_le hb (Nat.pow_le_pow_right (by decide) hi)
  rw [u64_or_nat a b ha hb2, nat_join i a b h hb]

theorem rot_gen (x m d i : Nat) (hi : i ≤ 64) (hm : m = 2 ^ i) (hd : x / d < 2 ^ i) : bits .or .u64 (IntKind.u64.wrap ((x : Int) * (m : Int))) ((x : Int) / (d : Int)) = ((x * m % M + x / d : Nat) : Int) := by
  have h1 : IntKind.u64.wrap ((x : Int) * (m : Int)) = ((x * m % M : Nat) : Int) := by
    simp [IntKind.wrap, IntKind.bits, IntKind.signed]
  have h2 : (x : Int) / (d : Int) = ((x / d : Nat) : Int) := by simp
  rw [h1, h2]
  refine or_join _ _ i (Nat.mod_lt _ (by decide)) ?_ hd hi
  have e : M = 2 ^ i * 2 ^ (64 - i) := by rw [← Nat.pow_add, show i + (64 - i) = 64 by omega]
  rw [hm, e, Nat.mod_mul_right_mod]
  exact Nat.mul_mod_left _ _

theorem rot3 (x : Nat) (hx : x < M) : bits .or .u64 (IntKind.u64.wrap ((x : Int) * 8)) ((x : Int) / 2305843009213693952) = ((rl3 x : Nat) : Int) := by
  have h := rot_gen x 8 2305843009213693952 3 (by decide) (by decide) (by unfold M at hx; omega)
  have e : x * 8 % M + x / 2305843009213693952 = rl3 x := by unfold rl3 M; omega
  rw [e] at h; exact h
theorem rot8 (x : Nat) (hx : x < M) : bits .or .u64 (IntKind.u64.wrap ((x : Int) * 256)) ((x : Int) / 72057594037927936) = ((rl8 x : Nat) : Int) := by
  have h := rot_gen x 256 72057594037927936 8 (by decide) (by decide) (by unfold M at hx; omega)
  have e : x * 256 % M + x / 72057594037927936 = rl8 x := by unfold rl8 M; omega
  rw [e] at h; exact h
theorem rotm3 (x : Nat) (hx : x < M) : bits .or .u64 (IntKind.u64.wrap ((x : Int) * 2305843009213693952)) ((x : Int) / 8) = ((rr3 x : Nat) : Int) := by
  have h := rot_gen x 2305843009213693952 8 61 (by decide) (by decide) (by unfold M at hx; omega)
  have e : x * 2305843009213693952 % M + x / 8 = rr3 x := by unfold rr3 M; omega
  rw [e] at h; exact h
theorem rotm8 (x : Nat) (hx : x < M) : bits .or .u64 (IntKind.u64.wrap ((x : Int) * 72057594037927936)) ((x : Int) / 256) = ((rr8 x : Nat) : Int) := by
  have h := rot_gen x 72057594037927936 256 56 (by decide) (by decide) (by unfold M at hx; omega)
  have e : x * 72057594037927936 % M + x / 256 = rr8 x := by unfold rr8 M; omega
  rw [e] at h; exact h

theorem ret_int {k : IntKind} {a b : Int} (h : a = b) : Ending.returned (.int k a) = .returned (.int k b) := by rw [h]

set_option maxRecDepth 100000 in
theorem rl3_any (x : Nat) (w : World) (hx : x < M) :
    Calls Try.prog 145 #[.int .u64 (x : Int), .int .i64 3] w fun e w' => e = .returned (.int .u64 (rl3 x : Nat)) ∧ w = w' := by
  have e1 := cnt3
  have HR := Lib.hid (rot3 x hx)
  clear hx
  go_enter Try.func145, Try.ntmps145
  go_wp2
  go_ret
  exact ⟨ret_int HR.out, rfl⟩
set_option maxRecDepth 100000 in
theorem rl8_any (x : Nat) (w : World) (hx : x < M) :
    Calls Try.prog 145 #[.int .u64 (x : Int), .int .i64 8] w fun e w' => e = .returned (.int .u64 (rl8 x : Nat)) ∧ w = w' := by
  have e1 := cnt8
  have HR := Lib.hid (rot8 x hx)
  clear hx
  go_enter Try.func145, Try.ntmps145
  go_wp2
  go_ret
  exact ⟨ret_int HR.out, rfl⟩
set_option maxRecDepth 100000 in
theorem rr3_any (x : Nat) (w : World) (hx : x < M) :
    Calls Try.prog 145 #[.int .u64 (x : Int), .int .i64 (-3)] w fun e w' => e = .returned (.int .u64 (rr3 x : Nat)) ∧ w = w' := by
  have e1 := cntm3
  have HR := Lib.hid (rotm3 x hx)
  clear hx
  go_enter Try.func145, Try.ntmps145
  go_wp2
  go_ret
  exact ⟨ret_int HR.out, rfl⟩
set_option maxRecDepth 100000 in
theorem rr8_any (x : Nat) (w : World) (hx : x < M) :
    Calls Try.prog 145 #[.int .u64 (x : Int), .int .i64 (-8)] w fun e w' => e = .returned (.int .u64 (rr8 x : Nat)) ∧ w = w' := by
  have e1 := cntm8
  have HR := Lib.hid (rotm8 x hx)
  clear hx
  go_enter Try.func145, Try.ntmps145
  go_wp2
  go_ret
  exact ⟨ret_int HR.out, rfl⟩

end Go.Proofs.Ytchkgccnipejhaa.L2

/-
  Contracts of round, unround, split, join.
-/
namespace Go.Proofs.Ytchkgccnipejhaa.L2
open Go.RowKit SP

theorem rdX_int (x y k : Nat) (hk : k < M) : bits .xor .u64 (IntKind.u64.wrap ((rr8 x : Int) + (y : Int))) (k : Int) = ((rdX x y k : Nat) : Int) := by
  have h1 : IntKind.u64.wrap ((rr8 x : Int) + (y : Int)) = (((rr8 x + y) % M : Nat) : Int) := by
    simp [IntKind.wrap, IntKind.bits, IntKind.signed]
  rw [h1, u64_xor_nat _ _ (Nat.mod_lt _ (by decide)) hk]; rfl
theorem rdY_int (x y k : Nat) (hy : y < M) (hk : k < M) : bits .xor .u64 (rl3 y : Int) (rdX x y k : Int) = ((rdY x y k : Nat) : Int) := by
  rw [u64_xor_nat _ _ (rl3_lt hy) (rdX_lt hk)]; rfl
theorem xor_int (x y : Nat) (hx : x < M) (hy : y < M) : bits .xor .u64 (x : Int) (y : Int) = ((x ^^^ y : Nat) : Int) := u64_xor_nat _ _ hx hy
theorem sub_int (x y : Nat) (hy : y < M) : IntKind.u64.wrap ((x : Int) - (y : Int)) = (((x + M - y) % M : Nat) : Int) := by
  simp only [IntKind.wrap, IntKind.bits, IntKind.signed]
  unfold M at *
  simp
  omega

set_option maxRecDepth 100000 in
theorem round_any (x y k : Nat) (w : World) (hx : x < M) (hy : y < M) (hk : k < M) :
    Calls Try.prog 125 #[.int .u64 (x : Int), .int .u64 (y : Int), .int .u64 (k : Int)] w fun e w' => e = .returned (.tuple #[.int .u64 (rdX x y k : Nat), .int .u64 (rdY x y k : Nat)]) ∧ w = w' := by
  have hX := rdX_int x y k hk
  have hY := rdY_int x y k hy hk
  have H1 := Lib.hid (fun w => rr8_any x w hx)
  have H2 := Lib.hid (fun w => rl3_any y w hy)
  clear hx hy hk
  go_enter Try.func125, Try.ntmps125
  go_wp2_with fail
  refine (H1.out _).mono ?_
  rintro e w' ⟨rfl, rfl⟩
  go_wp2_with fail
  refine (H2.out _).mono ?_
  rintro e w' ⟨rfl, rfl⟩
  go_wp2_with fail
  go_ret2
  exact ⟨rfl, rfl⟩

set_option maxRecDepth 100000 in
theorem unround_any (x y k : Nat) (w : World) (hx : x < M) (hy : y < M) (hk : k < M) :
    Calls Try.prog 129 #[.int .u64 (x : Int), .int .u64 (y : Int), .int .u64 (k : Int)] w fun e w' => e = .returned (.tuple #[.int .u64 (unX x y k : Nat), .int .u64 (unY x y : Nat)]) ∧ w = w' := by
  have hX := xor_int y x hy hx
  have hY := xor_int x k hx hk
  have hS := sub_int (x ^^^ k) (unY x y) (unY_lt hx hy)
  have H1 := Lib.hid (fun w => rr3_any (y ^^^ x) w (xor_lt hy hx))
  have H2 := Lib.hid (fun w => rl8_any (((x ^^^ k) + M - unY x y) % M) w (Nat.mod_lt _ (by decide)))
  clear hx hy hk
  go_enter Try.func129, Try.ntmps129
  go_wp2_with fail
  refine (H1.out _).mono ?_
  rintro e w' ⟨rfl, rfl⟩
  have e1 : rr3 (y ^^^ x) = unY x y := rfl
  rw [e1]
  clear e1
  go_wp2_with fail
  refine (H2.out _).mono ?_
  rintro e w' ⟨rfl, rfl⟩
  go_wp2_with fail
  go_ret2
  exact ⟨rfl, rfl⟩

theorem join_int (a b c : Nat) (ha : a < 72057594037927936) (hb : b < 256) (h : a * 256 + b = c) : bits .or .u64 (IntKind.u64.wrap ((a : Int) * 256)) (b : Int) = (c : Int) := by
  have h1 : IntKind.u64.wrap ((a : Int) * 256) = ((a * 256 : Nat) : Int) := by
    simp only [IntKind.wrap, IntKind.bits, IntKind.signed]
    simp
    omega
  rw [h1, or_join _ _ 8 (by unfold M; omega) (by omega) hb (by decide), h]

set_option maxRecDepth 100000 in
set_option maxHeartbeats 1000000 in
theorem split_any (X Y : Nat) (w : World) (hX : X < M) (hY : Y < M) :
    Calls Try.prog 123 #[.agg (kl X Y).toArray] w fun e w' => e = .returned (.tuple #[.int .u64 (X : Int), .int .u64 (Y : Int)]) ∧ Below w.heap.size w w' := by
  have HK := Lib.hid (KeyAt.new w X Y 26)
  have HB : Hid (Below w.heap.size w (w.alloc (.cells (kl X Y).toArray 26))) := Lib.hid ((Below.refl _ _).alloc (Nat.le_refl _) _)
  have HX := Lib.hid hX
  have HY := Lib.hid hY
  clear hX hY
  go_enter Try.func123, Try.ntmps123
  go_wp2
  obtain ⟨wo, hwo⟩ : ∃ wo, wo = w.alloc (.cells (kl X Y).toArray 26) := ⟨_, rfl⟩
  rw [← hwo] at HK HB ⊢
  clear hwo
  go_loop [2, 3, 4, 5] (fun x y j i => ∃ k a b : Nat, k ≤ 8 ∧ i = .int .i64 (k : Int) ∧ x = .int .u64 (a : Int) ∧ y = .int .u64 (b : Int) ∧ Hid (a = X / 256 ^ (8 - k) ∧ b = Y / 256 ^ (8 - k))) (fun _ _ _ i => 8 - (intOf i).toNat)
  case atStart => exact ⟨0, 0, 0, by omega, rfl, rfl, rfl, Lib.hid ⟨(word_lt HX.out).symm, (word_lt HY.out).symm⟩⟩
  case round =>
    obtain ⟨k, a, b, hk, rfl, rfl, rfl, HI⟩ := hrel
    by_cases hlt : k < 8
    · have c1 := HK.out.cell k (by omega)
      have c2 := HK.out.cell (8 + k) (by omega)
      rw [kby_hi _ _ _ hlt] at c1
      rw [kby_lo _ _ _ hlt] at c2
      obtain ⟨p, hp⟩ : ∃ p, p = X / 256 ^ (7 - k) % 256 := ⟨_, rfl⟩
      obtain ⟨q, hq⟩ : ∃ q, q = Y / 256 ^ (7 - k) % 256 := ⟨_, rfl⟩
      rw [← hp] at c1
      rw [← hq] at c2
      have lp : p < 256 := by rw [hp]; exact Nat.mod_lt _ (by decide)
      have lq : q < 256 := by rw [hq]; exact Nat.mod_lt _ (by decide)
      have j1 := join_int a p (X / 256 ^ (8 - (k + 1))) (by rw [HI.out.1]; exact word_small X k HX.out hlt) (by rw [hp]; exact Nat.mod_lt _ (by decide)) (by rw [HI.out.1, hp]; exact word_step X k hlt)
      have j2 := join_int b q (Y / 256 ^ (8 - (k + 1))) (by rw [HI.out.2]; exact word_small Y k HY.out hlt) (by rw [hq]; exact Nat.mod_lt _ (by decide)) (by rw [HI.out.2, hq]; exact word_step Y k hlt)
      obtain ⟨p1, HP1⟩ : ∃ p1, Hid (p1 = X / 256 ^ (8 - (k + 1))) := ⟨_, Lib.hid rfl⟩
      obtain ⟨q1, HQ1⟩ : ∃ q1, Hid (q1 = Y / 256 ^ (8 - (k + 1))) := ⟨_, Lib.hid rfl⟩
      rw [← HP1.out] at j1
      rw [← HQ1.out] at j2
      clear hp hq HI
      go_wp2
      go_round
      case rel => exact ⟨k + 1, p1, q1, by omega, by go_num, rfl, rfl, Lib.hid ⟨HP1.out, HQ1.out⟩⟩
      case measure => simp [intOf]; omega
    · obtain rfl : k = 8 := by omega
      have ha : a = X := by have := HI.out.1; simpa using this
      have hb : b = Y := by have := HI.out.2; simpa using this
      clear HI
      subst ha hb
      go_wp2
      go_ret2
      exact ⟨rfl, HB.out⟩

end Go.Proofs.Ytchkgccnipejhaa.L2

/-
  Blocks of 16 bytes that are written byte by byte. Contract of join.
-/
namespace Go.Proofs.Ytchkgccnipejhaa.L2
open Go.RowKit SP

/-- Block b holds 16 bytes f, and may be written. -/
structure Row (w : World) (b : Nat) (f : Nat → Nat) : Prop where
  cell : ∀ j, j < 16 → w.cell? ⟨b, j, none⟩ = some (.int .u8 (f j : Int))
  fr : ∀ j, j < 16 → w.frozen? ⟨b, j, none⟩ = false

theorem Row.lt {w : World} {b : Nat} {f : Nat → Nat} (h : Row w b f) : b < w.heap.size := World.block_lt_of_cell? w ⟨b, 0, none⟩ (h.cell 0 (by omega))
theorem Row.set {w : World} {b : Nat} {f : Nat → Nat} (h : Row w b f) (j v : Nat) (hj : j < 16) : Row (w.setCell ⟨b, j, none⟩ (.int .u8 (v : Int))) b (fun i => if i = j then v else f i) where
  cell i hi := by
    by_cases e : i = j
    · subst e
      rw [if_pos rfl, World.cell?_setCell_same _ _ _ (h.cell i hi)]
    · rw [if_neg e, World.cell?_setCell_other _ _ _ _ (fun hh => e (by injection hh with _ h2 _; exact h2.symm))]
      exact h.cell i hi
  fr i hi := by rw [World.frozen?_setCell]; exact h.fr i hi
theorem Row.other {w : World} {b b' : Nat} {f : Nat → Nat} (h : Row w b f) (j : Nat) (v : Value) (hb : b' ≠ b) : Row (w.setCell ⟨b', j, none⟩ v) b f where
  cell i hi := by
    rw [World.cell?_setCell_other _ _ _ _ (fun hh => hb (by injection hh with h1 _ _))]
    exact h.cell i hi
  fr i hi := by rw [World.frozen?_setCell]; exact h.fr i hi
theorem Row.below {w w' : World} {n b : Nat} {f : Nat → Nat} (h : Row w b f) (hb : Below n w w') (hn : b < n) : Row w' b f where
  cell i hi := by rw [hb.cell (p := ⟨b, i, none⟩) hn]; exact h.cell i hi
  fr i hi := by rw [hb.frozen (p := ⟨b, i, none⟩) hn]; exact h.fr i hi
theorem Row.keep {w w' : World} {b : Nat} {f : Nat → Nat} (h : Row w b f) (hb : Below w.heap.size w w') : Row w' b f := h.below hb h.lt
theorem Row.key {w : World} {b X Y : Nat} {f : Nat → Nat} (h : Row w b f) (hf : ∀ j, j < 16 → f j = kby X Y j) : KeyAt w b X Y :=
  KeyAt.of_cells fun i hi => by rw [h.cell i hi, hf i hi]
theorem Row.there {w : World} {b : Nat} {f : Nat → Nat} (h : Row w b f) : w.there b 0 16 := fun j hj => by
  rw [Nat.zero_add, h.cell j hj, h.fr j hj]; exact ⟨rfl, rfl⟩
theorem Row.ext {w : World} {b : Nat} {f g : Nat → Nat} (h : Row w b f) (hf : ∀ j, j < 16 → f j = g j) : Row w b g :=
  ⟨fun j hj => by rw [← hf j hj]; exact h.cell j hj, h.fr⟩

/-- Sixteen zero bytes. -/
abbrev z16 : Array Value := #[.int .u8 0, .int .u8 0, .int .u8 0, .int .u8 0, .int .u8 0, .int .u8 0, .int .u8 0, .int .u8 0, .int .u8 0, .int .u8 0, .int .u8 0, .int .u8 0, .int .u8 0, .int .u8 0, .int .u8 0, .int .u8 0]
theorem z16_get (j : Nat) (h : j < 16) : z16[j]? = some (.int .u8 0) := by
  have h16 : j = 0 ∨ j = 1 ∨ j = 2 ∨ j = 3 ∨ j = 4 ∨ j = 5 ∨ j = 6 ∨ j = 7 ∨ j = 8 ∨ j = 9 ∨ j = 10 ∨ j = 11 ∨ j = 12 ∨ j = 13 ∨ j = 14 ∨ j = 15 := by omega
  rcases h16 with rfl | rfl | rfl | rfl | rfl | rfl | rfl | rfl | rfl | rfl | rfl | rfl | rfl | rfl | rfl | rfl <;> rfl
theorem Row.zeros (w : World) (t : TypeId) : Row (w.alloc (.cells z16 t)) w.heap.size (fun _ => 0) where
  cell i hi := by rw [cell_of_row _ _ i _ t _ (heap_alloc_new w _), z16_get i hi]; rfl
  fr i hi := by unfold World.frozen?; rw [heap_alloc_new]; simp
theorem Row.keyNew (w : World) (X Y : Nat) (t : TypeId) : Row (w.alloc (.cells (kl X Y).toArray t)) w.heap.size (kby X Y) where
  cell i hi := (KeyAt.new w X Y t).cell i hi
  fr i hi := by unfold World.frozen?; rw [heap_alloc_new]; simp

theorem below_setCells {n : Nat} {w : World} (b : Nat) : ∀ (vs : List Value) (o : Nat) (w' : World), Below n w w' → n ≤ b → Below n w (w'.setCells b o vs)
  | [], _, _, h, _ => h
  | v :: r, o, w', h, hb => by
    rw [World.setCells]
    exact below_setCells b r (o + 1) _ (h.setCell (p := ⟨b, o, none⟩) hb _) hb
theorem size_setCells (b : Nat) : ∀ (vs : List Value) (o : Nat) (w : World), (w.setCells b o vs).heap.size = w.heap.size
  | [], _, _ => rfl
  | v :: r, o, w => by rw [World.setCells, size_setCells b r (o + 1)]; simp
theorem KeyAt.stored {w : World} {b : Nat} (h : w.there b 0 16) (X Y : Nat) : KeyAt (w.setCells b 0 (kl X Y)) b X Y :=
  World.rangeAt_setCells_same w b 0 (kl X Y) (by rw [kl_len]; exact h)
theorem Row.stored {w : World} {b : Nat} (h : w.there b 0 16) (X Y : Nat) : Row (w.setCells b 0 (kl X Y)) b (kby X Y) :=
  ⟨fun i hi => (KeyAt.stored h X Y).cell i hi, fun i hi => by rw [World.frozen?_setCells]; have := (h i hi).2; rwa [Nat.zero_add] at this⟩

theorem word_zero (X : Nat) : X / 256 ^ (8 - 8) = X := by simp
theorem word_next (X q : Nat) (h : q < 8) : X / 256 ^ (8 - (q + 1)) / 256 = X / 256 ^ (8 - q) := by
  rw [Nat.div_div_eq_div_mul, ← Nat.pow_succ, show (8 - (q + 1)).succ = 8 - q by omega]
theorem byte_int (a : Nat) : IntKind.u8.wrap (a : Int) = ((a % 256 : Nat) : Int) := by
  simp [IntKind.wrap, IntKind.bits, IntKind.signed]

theorem bodyPost_key {Q : Ending → World → Prop} {fn : Func} {p : Tmp} (h : fn.results = #[.cell p 26]) {a : Act} {w : World} (b X Y : Nat)
    (hp : a.tmps.getD p undef = .pointer (some ⟨b, 0, none⟩)) (hc : KeyAt w b X Y) (hd : a.defers = []) (hq : Q (.returned (.agg (kl X Y).toArray)) w) : bodyPost Try.prog fn Q .ret a w :=
  bodyPost_ret (results_key h a.tmps w b X Y hp hc) hd hq

set_option maxRecDepth 100000 in
set_option maxHeartbeats 1000000 in
theorem join_any (X Y : Nat) (w : World) :
    Calls Try.prog 126 #[.int .u64 (X : Int), .int .u64 (Y : Int)] w fun e w' => e = .returned (.agg (kl X Y).toArray) ∧ Below w.heap.size w w' := by
  have HR0 := Lib.hid (Row.zeros w 26)
  have HR1 := Lib.hid (Row.zeros (w.alloc (.cells z16 26)) 26)
  have HB : Hid (Below w.heap.size w ((w.alloc (.cells z16 26)).alloc (.cells z16 26))) := Lib.hid (((Below.refl _ _).alloc (Nat.le_refl _) _).alloc (by simp) _)
  have HS : Hid (((w.alloc (.cells z16 26)).alloc (.cells z16 26)).heap.size = w.heap.size + 2) := Lib.hid (by simp)
  have HR0' : Hid (Row ((w.alloc (.cells z16 26)).alloc (.cells z16 26)) w.heap.size (fun _ => 0)) := Lib.hid (HR0.out.keep ((Below.refl _ _).alloc (Nat.le_refl _) _))
  have e1 : (w.alloc (.cells z16 26)).heap.size = w.heap.size + 1 := by simp
  rw [e1] at HR1
  clear HR0 e1
  go_enter Try.func126, Try.ntmps126
  go_wp2
  obtain ⟨wo, hwo⟩ : ∃ wo, wo = (w.alloc (.cells z16 26)).alloc (.cells z16 26) := ⟨_, rfl⟩
  rw [← hwo] at HR0' HR1 HB HS ⊢
  clear hwo
  go_loopw [0, 1, 6] (fun x y i wr => ∃ (k a b : Nat) (f : Nat → Nat), k ≤ 8 ∧ i = .int .i64 ((k : Int) - 1) ∧ x = .int .u64 (a : Int) ∧ y = .int .u64 (b : Int) ∧ Hid (a = X / 256 ^ (8 - k) ∧ b = Y / 256 ^ (8 - k)) ∧
      Hid (Row wr (w.heap.size + 1) f ∧ Row wr w.heap.size (fun _ => 0) ∧ Below w.heap.size w wr ∧ ∀ j, k ≤ j → j < 8 → f j = kby X Y j ∧ f (8 + j) = kby X Y (8 + j))) (fun _ _ i _ => (intOf i + 1).toNat)
  case atStart => exact ⟨8, X, Y, _, by omega, by go_num, rfl, rfl, Lib.hid ⟨(word_zero X).symm, (word_zero Y).symm⟩, Lib.hid ⟨HR1.out, HR0'.out, HB.out, fun j h1 h2 => by omega⟩⟩
  case round =>
    obtain ⟨k, a, b, f, hk, rfl, rfl, rfl, HI, HW⟩ := hrel
    rcases Nat.eq_zero_or_pos k with rfl | hpos
    · have HK : Hid (KeyAt wr (w.heap.size + 1) X Y) := Lib.hid (HW.out.1.key fun j hj => by
        by_cases h8 : j < 8
        · exact (HW.out.2.2.2 j (by omega) h8).1
        · have := (HW.out.2.2.2 (j - 8) (by omega) (by omega)).2
          rwa [show 8 + (j - 8) = j by omega] at this)
      have HT := Lib.hid HW.out.2.1.there
      go_wp2_with (first
        | (refine wpList_load_key rfl _ rfl _ rfl X Y HK.out ?_)
        | (refine wpList_store_key rfl _ _ rfl _ X Y rfl rfl HT.out ?_))
      exact bodyPost_key rfl w.heap.size X Y rfl (KeyAt.stored HT.out X Y) rfl ⟨rfl, below_setCells _ _ _ _ HW.out.2.2.1 (Nat.le_refl _)⟩
    · obtain ⟨q, rfl⟩ : ∃ q, k = q + 1 := ⟨k - 1, by omega⟩
      have c1 := HW.out.1.cell q (by omega)
      have f1 := HW.out.1.fr q (by omega)
      have c2 := HW.out.1.cell (8 + q) (by omega)
      have f2 := HW.out.1.fr (8 + q) (by omega)
      have d1 := byte_int a
      have d2 := byte_int b
      have l0 : (0 : Int) ≤ (q : Int) := by omega
      have hq8 : q < 8 := by omega
      rw [show (((q + 1 : Nat) : Int) - 1) = (q : Int) by omega]
      go_wp2
      go_roundw
      case rel =>
        refine ⟨q, a / 256, b / 256, _, by omega, by go_num, by go_num, by go_num, Lib.hid ⟨by rw [HI.out.1, word_next X q hq8], by rw [HI.out.2, word_next Y q hq8]⟩,
          Lib.hid ⟨(HW.out.1.set q (a % 256) (by omega)).set (8 + q) (b % 256) (by omega), (HW.out.2.1.other _ _ (by omega)).other _ _ (by omega), (HW.out.2.2.1.setCell (p := ⟨w.heap.size + 1, q, none⟩) (by simp) _).setCell (p := ⟨w.heap.size + 1, 8 + q, none⟩) (by simp) _, fun j h1 h2 => ?_⟩⟩
        by_cases e : j = q
        · subst e
          refine ⟨?_, ?_⟩
          · rw [if_neg (by omega), if_pos rfl, HI.out.1, kby_hi _ _ _ h2, show 8 - (j + 1) = 7 - j by omega]
          · rw [if_pos rfl, HI.out.2, kby_lo _ _ _ h2, show 8 - (j + 1) = 7 - j by omega]
        · have := HW.out.2.2.2 j (by omega) h2
          rw [if_neg (by omega), if_neg e, if_neg (by omega), if_neg (by omega)]
          exact this
      case measure => simp [intOf]
end Go.Proofs.Ytchkgccnipejhaa.L2

/-
  The iterator over the round keys: its contract.
-/
namespace Go.Proofs.Ytchkgccnipejhaa.L2
open Go.RowKit Go.Shelf SP
attribute [local go_sem] Oper.semAt_some

/-- A word. -/
abbrev W64 := { x : Nat // x < M }
def encs (x : W64) : Array Value := #[.int .u64 (x.1 : Int)]

theorem grownBy_of_below {w w' : World} (h : Below w.heap.size w w') : w.grownBy w' none :=
  ⟨h.os, h.tape, h.output, h.size, fun k hk _ => h.block k hk⟩

theorem roundKeys_any (X Y : Nat) (w : World) :
    Calls Try.prog 124 #[.agg (kl X Y).toArray] w fun e w' => e = .returned (.func (.func 144) #[] #[.pointer (some ⟨w.heap.size, 0, none⟩)]) ∧ w' = w.alloc (.cells (kl X Y).toArray 26) := by
  have hmf : ∀ (fn : Fn) (first cap : Array Value) (w : World), (Instr.makeFunc fn first cap).run Try.prog w = .ok (.func fn first cap) w := fun _ _ _ _ => rfl
  go_enter Try.func124, Try.ntmps124
  go_wp2
  go_ret
  exact ⟨rfl, rfl⟩

set_option maxRecDepth 100000 in
set_option maxHeartbeats 2000000 in
theorem keys_stops (n : Nat) (hn : 1 ≤ n) (X Y b : Nat) (w : World) (hX : X < M) (hY : Y < M) (hK : KeyAt w b X Y) :
    SeqStopsK Fence.wide n Try.prog 144 #[.pointer (some ⟨b, 0, none⟩)] encs (fun _ _ => True) (fun xs => xs.map (·.1) = (List.range 32).map (rk X Y)) (fun _ => True) 32 w := fun l J Jx W hW hJ hJx hYd h0 => by
  have HK := Lib.hid (hK.keep hW)
  have HX := Lib.hid hX
  have HY := Lib.hid hY
  clear hK hX hY
  refine callsIn_of_wp Try.func144 rfl trivial ?_ rfl
  simp only [Try.ntmps144, List.size_toArray, List.length_cons, List.length_nil, Nat.reduceAdd, Nat.reduceSub, Array.replicate_succ, Array.replicate_zero, List.push_toArray, List.append_toArray, List.nil_append, List.cons_append]
  refine wpIn_wide.2 ?_
  go_wp2_with (refine wpList_load_key rfl _ rfl _ rfl X Y HK.out ?_)
  refine (split_any X Y W HX.out HY.out).mono ?_
  rintro e w1 ⟨rfl, hb1⟩
  have HJ1 := Lib.hid (hJ [] W w1 none h0 (grownBy_of_below hb1) (fun r e => by cases e))
  go_wp2_with fail
  refine (wpIn_wide (n := n)).1 ?_
  gi_loopw [3, 4, 11] (fun x y i wr => ∃ (k a c : Nat) (pre : List W64), k ≤ 32 ∧ i = .int .u64 (k : Int) ∧ x = .int .u64 (a : Int) ∧ y = .int .u64 (c : Int) ∧ Hid (a = (kst X Y k).1 ∧ c = (kst X Y k).2) ∧ Hid (pre.map (·.1) = (List.range k).map (rk X Y)) ∧ Hid (J pre wr)) (fun _ _ i _ => 32 - (intOf i).toNat)
  case atStart => exact ⟨0, X, Y, [], by omega, rfl, rfl, rfl, Lib.hid ⟨rfl, rfl⟩, Lib.hid rfl, HJ1⟩
  case round =>
    obtain ⟨k, a, c, pre, hk, rfl, rfl, rfl, HI, HP, HJs⟩ := hrel
    by_cases hlt : k < 32
    · have ha : a < M := by rw [HI.out.1]; exact (kst_ok HX.out HY.out k (by omega)).1
      have hc : c < M := by rw [HI.out.2]; exact (kst_ok HX.out HY.out k (by omega)).2
      have hlen : pre.length < 32 := by have := congrArg List.length HP.out; simp at this; omega
      obtain ⟨fn, tmps, assign, body, hy, hR⟩ := hYd pre ⟨c, hc⟩ wr HJs.out hlen
      have HR := Lib.hid hR
      clear hR hlen
      dsimp only [encs] at hy
      have hrnd := Lib.hid (fun w => round_any a c k w ha hc (by unfold M; omega))
      clear ha
      gi_wp2_with fail
      refine HR.out.mono ?_
      rintro e W3 (⟨rfl, hJ3, _⟩ | ⟨rfl, hJx3⟩)
      · gi_wp2_with fail
        refine ⟨trivial, (callsIn_wide.2 (hrnd.out _)).mono ?_⟩
        rintro e w' ⟨rfl, rfl⟩
        gi_wp2_with fail
        go_roundw
        case rel => exact ⟨k + 1, _, _, pre ++ [⟨c, hc⟩], by omega, by go_num, rfl, rfl, Lib.hid ⟨by rw [kst, HI.out.1, HI.out.2]; rfl, by rw [kst, HI.out.1, HI.out.2]; rfl⟩, Lib.hid (by rw [List.map_append, HP.out, List.range_succ, List.map_append]; simp [rk, HI.out.2]), Lib.hid hJ3⟩
        case measure => simp [intOf]; omega
      · gi_wp2_with fail
        refine bodyPost_ret (results_none rfl _ _ _) rfl ?_
        exact ⟨⟨_, rfl⟩, .inr ⟨_, trivial, hJx3⟩⟩
    · obtain rfl : k = 32 := by omega
      gi_wp2_with fail
      go_end0
      exact ⟨⟨_, rfl⟩, .inl ⟨pre, HP.out, HJs.out⟩⟩

end Go.Proofs.Ytchkgccnipejhaa.L2

/-
  Contract of Encrypt.
-/
namespace Go.Proofs.Ytchkgccnipejhaa.L2
open Go.RowKit Go.Shelf SP
attribute [local go_sem] Oper.semAt_some

theorem box_new (W : World) (v : Value) (t : TypeId) : (W.alloc (.cells #[v] t)).cell? ⟨W.heap.size, 0, none⟩ = some v ∧ (W.alloc (.cells #[v] t)).frozen? ⟨W.heap.size, 0, none⟩ = false :=
  ⟨by rw [cell_of_row _ _ 0 _ t _ (heap_alloc_new W _)]; rfl, by unfold World.frozen?; rw [heap_alloc_new]; simp⟩
theorem heap_setCells_ne : ∀ (vs : List Value) (b o : Nat) (w : World) (k : Nat), k ≠ b → (w.setCells b o vs).heap[k]? = w.heap[k]?
  | [], _, _, _, _, _ => rfl
  | v :: r, b, o, w, k, h => by
    rw [World.setCells, heap_setCells_ne r b (o + 1) _ k h]
    exact Go.Deep.blk_setCell_other w ⟨b, o, none⟩ v k h
theorem KeyAt.grown {w w' : World} {b X Y : Nat} {row : Option Nat} (h : KeyAt w b X Y) (hg : w.grownBy w' row) (hb : some b ≠ row) : KeyAt w' b X Y := fun j v hv => by
  rw [World.cell?_of_block (hg.block b h.lt hb)]; exact h j v hv
/-- The words after some rounds. -/
def stp (A B : Nat) (pre : List W64) : Nat × Nat := pre.foldl (fun s k => rd s k.1) (A, B)
theorem stp_snoc (A B : Nat) (pre : List W64) (x : W64) : stp A B (pre ++ [x]) = rd (stp A B pre) x.1 := by simp [stp]
theorem foldl_ok : ∀ (pre : List W64) (s : Nat × Nat), Ok s → Ok (pre.foldl (fun s k => rd s k.1) s)
  | [], _, h => h
  | k :: r, _, h => foldl_ok r _ (rd_ok h k.2)
theorem stp_ok {A B : Nat} (pre : List W64) (hA : A < M) (hB : B < M) : Ok (stp A B pre) := foldl_ok pre _ ⟨hA, hB⟩
theorem foldl_rk (X Y A B : Nat) : ∀ k, ((List.range k).map (rk X Y)).foldl rd (A, B) = est X Y A B k
  | 0 => rfl
  | k + 1 => by rw [List.range_succ, List.map_append, List.foldl_append, foldl_rk X Y A B k]; rfl
theorem stp_all (X Y A B : Nat) (xs : List W64) (h : xs.map (·.1) = (List.range 32).map (rk X Y)) : stp A B xs = enc X Y A B := by
  have h1 : stp A B xs = (xs.map (·.1)).foldl rd (A, B) := by unfold stp; rw [List.foldl_map]
  rw [h1, h, foldl_rk]; rfl

set_option maxRecDepth 100000 in
set_option maxHeartbeats 2000000 in
theorem encrypt_any (X Y A B : Nat) (w : World) (hX : X < M) (hY : Y < M) (hA : A < M) (hB : B < M) :
    Calls Try.prog 77 #[.agg (kl X Y).toArray, .agg (kl A B).toArray] w fun e w' => e = .returned (.agg (kl (enc X Y A B).1 (enc X Y A B).2).toArray) ∧ Below w.heap.size w w' := by
  have HX := Lib.hid hX
  have HY := Lib.hid hY
  have HA := Lib.hid hA
  have HB := Lib.hid hB
  clear hX hY hA hB
  obtain ⟨W3, HW3⟩ : ∃ W3, Hid (W3 = ((w.alloc (.cells (kl X Y).toArray 26)).alloc (.cells (kl A B).toArray 26)).alloc (.cells z16 26)) := ⟨_, Lib.hid rfl⟩
  have HBel : Hid (Below w.heap.size w W3) := Lib.hid (by rw [HW3.out]; exact (((Below.refl _ _).alloc (Nat.le_refl _) _).alloc (by simp) _).alloc (by simp; omega) _)
  have HS : Hid (W3.heap.size = w.heap.size + 3) := Lib.hid (by rw [HW3.out]; simp)
  have HK1 : Hid (KeyAt W3 w.heap.size X Y) := Lib.hid (by rw [HW3.out]; exact ((KeyAt.new w X Y 26).alloc _).alloc _)
  have HK2 : Hid (KeyAt W3 (w.heap.size + 1) A B) := Lib.hid (by
    have h := (KeyAt.new (w.alloc (.cells (kl X Y).toArray 26)) A B 26).alloc (.cells z16 26)
    rw [World.size_alloc] at h
    rw [HW3.out]; exact h)
  have HR : Hid (W3.there (w.heap.size + 2) 0 16) := Lib.hid (by
    have h := (Row.zeros ((w.alloc (.cells (kl X Y).toArray 26)).alloc (.cells (kl A B).toArray 26)) 26).there
    rw [World.size_alloc, World.size_alloc] at h
    rw [HW3.out]; exact h)
  refine (callsIn_wide (n := 4)).1 (callsIn_of_wp_marks Try.func77 rfl trivial ?_ rfl)
  simp only [Try.ntmps77, List.size_toArray, List.length_cons, List.length_nil, Nat.reduceAdd, Nat.reduceSub, Array.replicate_succ, Array.replicate_zero, List.push_toArray, List.append_toArray, List.nil_append, List.cons_append]
  refine wpIn_wide.2 ?_
  go_wp2_with (refine wpList_load_key rfl _ rfl _ rfl A B (by rw [← HW3.out]; exact HK2.out) ?_)
  rw [← HW3.out]
  refine (split_any A B W3 HA.out HB.out).mono ?_
  rintro e w1 ⟨rfl, hb1⟩
  have HK1' := Lib.hid (HK1.out.keep hb1)
  go_wp2_with (refine wpList_load_key rfl _ rfl _ rfl X Y ?_ ?_; exact ((HK1'.out.alloc _).alloc _))
  refine (roundKeys_any X Y _).mono ?_
  rintro e w' ⟨rfl, rfl⟩
  go_wp2_with fail
  obtain ⟨n1, hn1⟩ : ∃ n1, n1 = w1.heap.size := ⟨_, rfl⟩
  obtain ⟨W5, hW5⟩ : ∃ W5, W5 = ((w1.alloc (.cells #[.int .u64 (A : Int)] 23)).alloc (.cells #[.int .u64 (B : Int)] 23)).alloc (.cells (kl X Y).toArray 26) := ⟨_, rfl⟩
  have hB5 : Below n1 w1 W5 := by rw [hW5, hn1]; exact (((Below.refl _ _).alloc (Nat.le_refl _) _).alloc (by simp) _).alloc (by simp; omega) _
  have hS5 : W5.heap.size = n1 + 3 := by rw [hW5, hn1]; simp
  have b1 := box_new w1 (.int .u64 (A : Int)) 23
  have b2 := box_new (w1.alloc (.cells #[.int .u64 (A : Int)] 23)) (.int .u64 (B : Int)) 23
  have B1 : Below (n1 + 1) (w1.alloc (.cells #[.int .u64 (A : Int)] 23)) W5 := by rw [hW5, hn1]; exact ((Below.refl _ _).alloc (by simp) _).alloc (by simp) _
  have B2 : Below (n1 + 2) ((w1.alloc (.cells #[.int .u64 (A : Int)] 23)).alloc (.cells #[.int .u64 (B : Int)] 23)) W5 := by rw [hW5, hn1]; exact (Below.refl _ _).alloc (by simp) _
  rw [World.size_alloc] at b2
  rw [← hn1] at b1 b2
  have c1 := (B1.cell (p := ⟨n1, 0, none⟩) (by show n1 < n1 + 1; omega)).trans b1.1
  have f1 := (B1.frozen (p := ⟨n1, 0, none⟩) (by show n1 < n1 + 1; omega)).trans b1.2
  have c2 := (B2.cell (p := ⟨n1 + 1, 0, none⟩) (by show n1 + 1 < n1 + 2; omega)).trans b2.1
  have f2 := (B2.frozen (p := ⟨n1 + 1, 0, none⟩) (by show n1 + 1 < n1 + 2; omega)).trans b2.2
  have k5 : KeyAt W5 (n1 + 2) X Y := by
    have h := KeyAt.new ((w1.alloc (.cells #[.int .u64 (A : Int)] 23)).alloc (.cells #[.int .u64 (B : Int)] 23)) X Y 26
    rw [World.size_alloc, World.size_alloc] at h
    rw [hW5, hn1]; exact h
  rw [← hW5, ← hn1]
  have hn1' : w.heap.size + 3 ≤ n1 := by rw [hn1, ← HS.out]; exact hb1.size
  have hbw : Below w.heap.size w w1 := HBel.out.trans (hb1.mono (by rw [HS.out]; omega))
  have hth : w1.there (w.heap.size + 2) 0 16 := there_below HR.out hb1 (by rw [HS.out]; omega)
  have HN := Lib.hid hn1
  clear hW5 hn1 b1 b2 B1 B2
  refine (wpIn_wide (n := 4)).1 ?_
  refine wpIn_rangeFunc_ownF rfl (n := 4) (by omega) (gf := 144) (lb := #[.pointer (some ⟨n1 + 1 + 1, 0, none⟩)]) rfl trivial (enters_of Try.func144 (by kernel_rfl) rfl)
    (keys_stops 3 (by omega) X Y (n1 + 2) W5 HX.out HY.out k5) (fun _ _ => trivial) (fun _ _ _ _ _ _ _ _ => trivial) (Below.refl _ _) (fun _ => rfl)
    (fun pre W => (W.cell? ⟨n1, 0, none⟩ = some (.int .u64 ((stp A B pre).1 : Int)) ∧ W.frozen? ⟨n1, 0, none⟩ = false ∧ W.cell? ⟨n1 + 1, 0, none⟩ = some (.int .u64 ((stp A B pre).2 : Int)) ∧ W.frozen? ⟨n1 + 1, 0, none⟩ = false) ∧ Below n1 w1 W)
    (fun _ _ _ => False)
    (OwnFrom.and (Own.from (fun s A B row hs hg hr => ⟨cell_kept hs.1 hg hr, (frozen_kept hs.1 hg hr).trans hs.2.1, cell_kept hs.2.2.1 hg hr, (frozen_kept hs.2.2.1 hg hr).trans hs.2.2.2⟩) _) (ownFrom_below (by rw [HN.out]; exact Nat.le_refl _) (by rw [hS5]; omega)))
    (fun _ _ _ _ _ hs _ _ => hs)
    ⟨⟨c1, f1, c2, f2⟩, hB5⟩
    (fun x => { tmps := #[.agg (kl X Y).toArray, .agg (kl A B).toArray, .pointer (some ⟨w.heap.size, 0, none⟩), .pointer (some ⟨w.heap.size + 1, 0, none⟩), .pointer (some ⟨w.heap.size + 1 + 1, 0, none⟩), .pointer (some ⟨n1, 0, none⟩), .pointer (some ⟨n1 + 1, 0, none⟩), .int .u64 (x.1 : Int), .tuple #[.int .u64 (A : Int), .int .u64 (B : Int)], .agg (kl A B).toArray, .tuple #[.int .u64 (A : Int), .int .u64 (B : Int)], .int .u64 (A : Int), .int .u64 (B : Int), .agg (kl X Y).toArray, .func (.func 144) #[] #[.pointer (some ⟨n1 + 1 + 1, 0, none⟩)], .int .u64 (x.1 : Int), undef, undef, undef, undef, undef, undef, undef, undef, undef, undef], defers := [] }) ?assign ?body ?done ?stop
  case assign =>
    intro l x W K hK
    unfold encs
    gi_wp2
    exact hK
  case body =>
    rintro l pre x W ⟨⟨h1, h2, h3, h4⟩, hB⟩ _
    have hok := stp_ok pre HA.out HB.out
    have hsn := stp_snoc A B pre x
    obtain ⟨p, hp⟩ : ∃ p, p = (stp A B pre).1 := ⟨_, rfl⟩
    obtain ⟨q, hq⟩ : ∃ q, q = (stp A B pre).2 := ⟨_, rfl⟩
    rw [← hp] at h1
    rw [← hq] at h3
    have HRND := Lib.hid (fun w => round_any p q x.1 w (by rw [hp]; exact hok.1) (by rw [hq]; exact hok.2) x.2)
    have HSN : Hid (stp A B (pre ++ [x]) = (rdX p q x.1, rdY p q x.1)) := Lib.hid (by rw [hsn, hp, hq]; rfl)
    clear hp hq hok hsn
    have hne : n1 ≠ n1 + 1 := by omega
    gi_wp2_with fail
    refine ⟨trivial, (CallsIn.inRound l (callsIn_wide.2 (HRND.out _))).mono ?_⟩
    rintro e w' ⟨rfl, rfl⟩
    gi_wp2_with fail
    refine ⟨((KeepsOthers.setCell _ _ _).trans (KeepsOthers.setCell _ _ _)), trivial, ⟨?_, ?_, ?_, ?_⟩, (hB.setCell (p := ⟨n1, 0, none⟩) (Nat.le_refl _) _).setCell (p := ⟨n1 + 1, 0, none⟩) (by show n1 ≤ n1 + 1; omega) _⟩
    · rw [HSN.out, World.cell?_setCell_other _ _ _ _ (by intro h; injection h with h; omega), World.cell?_setCell_same _ _ _ h1]
    · rw [World.frozen?_setCell, World.frozen?_setCell]; exact h2
    · rw [HSN.out, World.cell?_setCell_same _ _ _ ((World.cell?_setCell_other _ _ _ _ (by intro h; injection h with h; omega)).trans h3)]
    · rw [World.frozen?_setCell, World.frozen?_setCell]; exact h4
  case done =>
    rintro D ys W hD hys ⟨⟨h1, h2, h3, h4⟩, hB⟩ hK
    have hst : stp A B ys = enc X Y A B := stp_all X Y A B ys hys
    rw [hst] at h1 h3
    have HJ := Lib.hid (fun w => join_any (enc X Y A B).1 (enc X Y A B).2 w)
    go_wp2_with fail
    refine (HJ.out _).mono ?_
    rintro e w2 ⟨rfl, hb2⟩
    have hDs : D < W.heap.size := (Array.getElem?_eq_some_iff.1 hK).1
    have HB2 : Hid (Below n1 w1 w2) := Lib.hid (hB.trans (hb2.mono (by omega)))
    have HT := Lib.hid (there_below hth HB2.out (by omega))
    have HK2 := Lib.hid ((hb2.block D hDs).trans hK)
    clear hK hb2 h1 h2 h3 h4 hst
    go_wp2_with (refine wpList_store_key rfl _ _ rfl (w.heap.size + 1 + 1) _ _ rfl rfl HT.out ?_)
    have hne : D ≠ w.heap.size + 1 + 1 := by rw [hS5] at hD; omega
    have hK3 : (w2.setCells (w.heap.size + 1 + 1) 0 (kl (enc X Y A B).1 (enc X Y A B).2)).heap[D]? = some (.deferred (some [])) := (heap_setCells_ne _ _ _ _ D hne).trans HK2.out
    refine ⟨by simp, .inl ⟨_, _, rfl, run_takeDeferred hK3, ?_⟩⟩
    refine ⟨_, results_key rfl _ _ (w.heap.size + 1 + 1) (enc X Y A B).1 (enc X Y A B).2 rfl ((KeyAt.stored HT.out _ _).grown (grownBy_putObj' _ D _) (by show some (w.heap.size + 1 + 1) ≠ some D; intro h; injection h with h; exact hne h.symm)), rfl, ?_⟩
    have hb3 : Below w.heap.size w (w2.setCells (w.heap.size + 1 + 1) 0 (kl (enc X Y A B).1 (enc X Y A B).2)) := below_setCells _ _ _ _ (hbw.trans (HB2.out.mono (by omega))) (by omega)
    refine hb3.trans (belowK_b (w := w) (Nat.le_refl _) _ D _ _ (by rw [hS5] at hD; omega) hK3 rfl rfl)
  case stop =>
    rintro D c pre W _ _ h _
    exact h.elim

end Go.Proofs.Ytchkgccnipejhaa.L2

/-
  Contract of Decrypt.
-/
namespace Go.Proofs.Ytchkgccnipejhaa.L2
open Go.RowKit Go.Shelf SP
attribute [local go_sem] Oper.semAt_some

/-- Block b holds 32 words f, and may be written. -/
structure Wrow (w : World) (b : Nat) (f : Nat → Nat) : Prop where
  cell : ∀ j, j < 32 → w.cell? ⟨b, j, none⟩ = some (.int .u64 (f j : Int))
  fr : ∀ j, j < 32 → w.frozen? ⟨b, j, none⟩ = false

theorem Wrow.lt {w : World} {b : Nat} {f : Nat → Nat} (h : Wrow w b f) : b < w.heap.size := World.block_lt_of_cell? w ⟨b, 0, none⟩ (h.cell 0 (by omega))
theorem Wrow.set {w : World} {b : Nat} {f : Nat → Nat} (h : Wrow w b f) (j v : Nat) (hj : j < 32) : Wrow (w.setCell ⟨b, j, none⟩ (.int .u64 (v : Int))) b (fun i => if i = j then v else f i) where
  cell i hi := by
    by_cases e : i = j
    · subst e
      rw [if_pos rfl, World.cell?_setCell_same _ _ _ (h.cell i hi)]
    · rw [if_neg e, World.cell?_setCell_other _ _ _ _ (fun hh => e (by injection hh with _ h2 _; exact h2.symm))]
      exact h.cell i hi
  fr i hi := by rw [World.frozen?_setCell]; exact h.fr i hi
theorem Wrow.other {w : World} {b b' : Nat} {f : Nat → Nat} (h : Wrow w b f) (j : Nat) (v : Value) (hb : b' ≠ b) : Wrow (w.setCell ⟨b', j, none⟩ v) b f where
  cell i hi := by
    rw [World.cell?_setCell_other _ _ _ _ (fun hh => hb (by injection hh with h1 _ _))]
    exact h.cell i hi
  fr i hi := by rw [World.frozen?_setCell]; exact h.fr i hi
theorem Wrow.below {w w' : World} {n b : Nat} {f : Nat → Nat} (h : Wrow w b f) (hb : Below n w w') (hn : b < n) : Wrow w' b f where
  cell i hi := by rw [hb.cell (p := ⟨b, i, none⟩) hn]; exact h.cell i hi
  fr i hi := by rw [hb.frozen (p := ⟨b, i, none⟩) hn]; exact h.fr i hi
theorem Wrow.ext {w : World} {b : Nat} {f g : Nat → Nat} (h : Wrow w b f) (hf : ∀ j, j < 32 → f j = g j) : Wrow w b g :=
  ⟨fun j hj => by rw [← hf j hj]; exact h.cell j hj, h.fr⟩
theorem Wrow.grown {w w' : World} {b : Nat} {f : Nat → Nat} {row : Option Nat} (h : Wrow w b f) (hg : w.grownBy w' row) (hr : ∀ r, row = some r → ∃ o : Obj, w.heap[r]? = some o ∧ o.isCells = false) : Wrow w' b f :=
  ⟨fun j hj => cell_kept (h.cell j hj) hg hr, fun j hj => (frozen_kept (h.cell j hj) hg hr).trans (h.fr j hj)⟩
abbrev z32 : Array Value := #[.int .u64 0, .int .u64 0, .int .u64 0, .int .u64 0, .int .u64 0, .int .u64 0, .int .u64 0, .int .u64 0, .int .u64 0, .int .u64 0, .int .u64 0, .int .u64 0, .int .u64 0, .int .u64 0, .int .u64 0, .int .u64 0, .int .u64 0, .int .u64 0, .int .u64 0, .int .u64 0, .int .u64 0, .int .u64 0, .int .u64 0, .int .u64 0, .int .u64 0, .int .u64 0, .int .u64 0, .int .u64 0, .int .u64 0, .int .u64 0, .int .u64 0, .int .u64 0]
theorem z32_get (j : Nat) (h : j < 32) : z32[j]? = some (.int .u64 0) := by
  have h32 : j = 0 ∨ j = 1 ∨ j = 2 ∨ j = 3 ∨ j = 4 ∨ j = 5 ∨ j = 6 ∨ j = 7 ∨ j = 8 ∨ j = 9 ∨ j = 10 ∨ j = 11 ∨ j = 12 ∨ j = 13 ∨ j = 14 ∨ j = 15 ∨ j = 16 ∨ j = 17 ∨ j = 18 ∨ j = 19 ∨ j = 20 ∨ j = 21 ∨ j = 22 ∨ j = 23 ∨ j = 24 ∨ j = 25 ∨ j = 26 ∨ j = 27 ∨ j = 28 ∨ j = 29 ∨ j = 30 ∨ j = 31 := by omega
  rcases h32 with rfl | rfl | rfl | rfl | rfl | rfl | rfl | rfl | rfl | rfl | rfl | rfl | rfl | rfl | rfl | rfl | rfl | rfl | rfl | rfl | rfl | rfl | rfl | rfl | rfl | rfl | rfl | rfl | rfl | rfl | rfl | rfl <;> rfl
theorem Wrow.zeros (w : World) (t : TypeId) : Wrow (w.alloc (.cells z32 t)) w.heap.size (fun _ => 0) where
  cell i hi := by rw [cell_of_row _ _ i _ t _ (heap_alloc_new w _), z32_get i hi]; rfl
  fr i hi := by unfold World.frozen?; rw [heap_alloc_new]; simp

/-- The cells of 32 words. -/
def wl (f : Nat → Nat) : List Value := (List.range 32).map fun j => .int .u64 (f j : Int)
theorem wl_len (f : Nat → Nat) : (wl f).length = 32 := by simp [wl]
theorem wl_get (f : Nat → Nat) (j : Nat) (h : j < 32) : (wl f)[j]? = some (.int .u64 (f j : Int)) := by simp [wl, List.getElem?_map, List.getElem?_range h]
theorem Wrow.range {w : World} {b : Nat} {f : Nat → Nat} (h : Wrow w b f) : w.rangeAt b 0 (wl f) := fun j v hv => by
  have hj : j < 32 := by rw [← wl_len f]; exact (List.getElem?_eq_some_iff.1 hv).1
  rw [wl_get f j hj] at hv
  injection hv with hv
  rw [Nat.zero_add, h.cell j hj, hv]
theorem size79 : (Try.prog.info? 182).map (·.size) = some 32 := by kernel_rfl
theorem wpList_load_words {ops : Array Oper} {rest : List Oper} {op : Oper} {a : Act} {w : World} {Q : Exit → Act → World → Prop} (hgd : op.guard = none) (x : Operand) (ho : op.op = .load 182 x)
    (b : Nat) (hx : a.eval x = .pointer (some ⟨b, 0, none⟩)) (f : Nat → Nat) (hc : w.rangeAt b 0 (wl f))
    (h : wpList Try.prog ops Q rest (a.put op.dst (.agg (wl f).toArray)) w) : wpList Try.prog ops Q (op :: rest) a w :=
  wpList_load_mid hgd 182 x ho b 0 hx (wl f) _ hc Try.underlying182 rfl (by rw [wl_len]; exact size79) h
theorem run_index_words (f : Nat → Nat) (k : Nat) (h : k < 32) (w : World) : (Instr.index 182 (.agg (wl f).toArray) (.int .i64 (k : Int))).run Try.prog w = .ok (.int .u64 (f k : Int)) w := by
  have h3 := wl_get f k h
  simp [Instr.index, asIntOf, Sem.run_bind, Sem.run_pure, run_underlying Try.underlying182 w, part, isAgg, Try.sizeOf23, h3, go_sem]
  intro h'; omega

theorem run_index_key (X Y k : Nat) (h : k < 16) (w : World) : (Instr.index 26 (.agg (kl X Y).toArray) (.int .i64 (k : Int))).run Try.prog w = .ok (.int .u8 (kby X Y k : Int)) w := by
  have h3 := kl_get X Y k h
  simp [Instr.index, asIntOf, Sem.run_bind, Sem.run_pure, run_underlying Try.underlying26 w, part, isAgg, Try.sizeOf5, h3, go_sem]
  intro h'; omega

theorem map_get {xs : List W64} {n : Nat} {f : Nat → Nat} (h : xs.map (·.1) = (List.range n).map f) (i : Nat) (hi : i < n) : xs[i]?.map (·.1) = some (f i) := by
  have := congrArg (·[i]?) h
  simpa [List.getElem?_map, List.getElem?_range hi] using this

/-- Word j of the array of round keys when some have come. -/
def wat (pre : List W64) (j : Nat) : Nat := if 31 - j < pre.length then (pre[31 - j]?.map (·.1)).getD 0 else 0
theorem wat_snoc (pre : List W64) (x : W64) (h : pre.length < 32) (j : Nat) (hj : j < 32) : (if j = 31 - pre.length then x.1 else wat pre j) = wat (pre ++ [x]) j := by
  unfold wat
  by_cases e : j = 31 - pre.length
  · rw [if_pos e, if_pos (by simp; omega), show 31 - j = pre.length by omega]; simp
  · rw [if_neg e]
    by_cases e2 : 31 - j < pre.length
    · rw [if_pos e2, if_pos (by simp; omega), List.getElem?_append_left e2]
    · rw [if_neg e2, if_neg (by simp; omega)]
theorem wat_all {xs : List W64} {f : Nat → Nat} (h : xs.map (·.1) = (List.range 32).map f) (j : Nat) (hj : j < 32) : wat xs j = f (31 - j) := by
  have hl : xs.length = 32 := by have := congrArg List.length h; simpa using this
  unfold wat
  rw [if_pos (by omega), map_get h (31 - j) (by omega)]; rfl

set_option maxRecDepth 100000 in
set_option maxHeartbeats 4000000 in
theorem decrypt_any (X Y A B : Nat) (w : World) (hX : X < M) (hY : Y < M) (hA : A < M) (hB : B < M) :
    Calls Try.prog 82 #[.agg (kl X Y).toArray, .agg (kl A B).toArray] w fun e w' => e = .returned (.agg (kl (dec X Y A B).1 (dec X Y A B).2).toArray) ∧ Below w.heap.size w w' := by
  have HX := Lib.hid hX
  have HY := Lib.hid hY
  have HA := Lib.hid hA
  have HB' := Lib.hid hB
  clear hX hY hA hB
  obtain ⟨n, hn⟩ : ∃ n, n = w.heap.size := ⟨_, rfl⟩
  obtain ⟨W5, HW5⟩ : ∃ W5, Hid (W5 = ((((w.alloc (.cells (kl X Y).toArray 26)).alloc (.cells (kl A B).toArray 26)).alloc (.cells z16 26)).alloc (.cells z32 182)).alloc (.cells #[.int .i64 32] 3)) := ⟨_, Lib.hid rfl⟩
  have HBel : Hid (Below n w W5) := Lib.hid (by rw [HW5.out, hn]; exact (((((Below.refl _ _).alloc (Nat.le_refl _) _).alloc (by simp) _).alloc (by simp; omega) _).alloc (by simp; omega) _).alloc (by simp; omega) _)
  have HS : Hid (W5.heap.size = n + 5) := Lib.hid (by rw [HW5.out, hn]; simp)
  have HK1 : Hid (KeyAt W5 n X Y) := Lib.hid (by rw [HW5.out, hn]; exact ((((KeyAt.new w X Y 26).alloc _).alloc _).alloc _).alloc _)
  have HK2 : Hid (KeyAt W5 (n + 1) A B) := Lib.hid (by
    have h := (((KeyAt.new (w.alloc (.cells (kl X Y).toArray 26)) A B 26).alloc (.cells z16 26)).alloc (.cells z32 182)).alloc (.cells #[.int .i64 32] 3)
    rw [World.size_alloc] at h
    rw [HW5.out, hn]; exact h)
  have HR : Hid (W5.there (n + 2) 0 16) := Lib.hid (by
    have h := (Row.zeros ((w.alloc (.cells (kl X Y).toArray 26)).alloc (.cells (kl A B).toArray 26)) 26).there
    rw [World.size_alloc, World.size_alloc] at h
    rw [HW5.out, hn]; exact there_below h (((Below.refl _ _).alloc (Nat.le_refl _) _).alloc (by simp) _) (by simp))
  have HWr : Hid (Wrow W5 (n + 3) (fun _ => 0)) := Lib.hid (by
    have h := Wrow.zeros (((w.alloc (.cells (kl X Y).toArray 26)).alloc (.cells (kl A B).toArray 26)).alloc (.cells z16 26)) 182
    rw [World.size_alloc, World.size_alloc, World.size_alloc] at h
    rw [HW5.out, hn]; exact h.below ((Below.refl _ _).alloc (Nat.le_refl _) _) (by simp))
  have HC : Hid (W5.cell? ⟨n + 4, 0, none⟩ = some (.int .i64 32) ∧ W5.frozen? ⟨n + 4, 0, none⟩ = false) := Lib.hid (by
    have h := box_new ((((w.alloc (.cells (kl X Y).toArray 26)).alloc (.cells (kl A B).toArray 26)).alloc (.cells z16 26)).alloc (.cells z32 182)) (.int .i64 32) 3
    rw [World.size_alloc, World.size_alloc, World.size_alloc, World.size_alloc] at h
    rw [HW5.out, hn]; exact h)
  have HN := Lib.hid hn
  clear hn
  refine (callsIn_wide (n := 4)).1 (callsIn_of_wp_marks Try.func82 rfl trivial ?_ rfl)
  simp only [Try.ntmps82, List.size_toArray, List.length_cons, List.length_nil, Nat.reduceAdd, Nat.reduceSub, Array.replicate_succ, Array.replicate_zero, List.push_toArray, List.append_toArray, List.nil_append, List.cons_append]
  refine wpIn_wide.2 ?_
  go_wp2_with (refine wpList_load_key rfl _ rfl _ rfl X Y (by rw [← HW5.out, ← HN.out]; exact HK1.out) ?_)
  rw [← HW5.out, ← HN.out]
  refine (roundKeys_any X Y W5).mono ?_
  rintro e w' ⟨rfl, rfl⟩
  go_wp2_with fail
  obtain ⟨b6, hb6⟩ : ∃ b6, b6 = n + 1 + 1 + 1 + 1 := ⟨_, rfl⟩
  obtain ⟨b5, hb5⟩ : ∃ b5, b5 = n + 1 + 1 + 1 := ⟨_, rfl⟩
  obtain ⟨b4, hb4⟩ : ∃ b4, b4 = n + 1 + 1 := ⟨_, rfl⟩
  obtain ⟨b3, hb3⟩ : ∃ b3, b3 = n + 1 := ⟨_, rfl⟩
  rw [← hb6, ← hb5, ← hb4, ← hb3]
  obtain ⟨m, hm⟩ : ∃ m, m = W5.heap.size := ⟨_, rfl⟩
  obtain ⟨W6, hW6⟩ : ∃ W6, W6 = W5.alloc (.cells (kl X Y).toArray 26) := ⟨_, rfl⟩
  have hS6 : W6.heap.size = m + 1 := by rw [hW6, hm]; simp
  have hB6 : Below m W5 W6 := by rw [hW6, hm]; exact (Below.refl _ _).alloc (Nat.le_refl _) _
  have k6 : KeyAt W6 m X Y := by rw [hW6, hm]; exact KeyAt.new _ _ _ _
  have hmn : m = n + 5 := by rw [hm, HS.out]
  have hth : W6.there b4 0 16 := by rw [hb4]; exact there_below HR.out hB6 (by omega)
  have hk3 : KeyAt W6 b3 A B := by rw [hb3]; exact HK2.out.below hB6 (by omega)
  have hw5 : Wrow W6 b5 (wat []) := by rw [hb5]; exact (HWr.out.below hB6 (by omega)).ext (fun j _ => by simp [wat])
  have hc6 : W6.cell? ⟨b6, 0, none⟩ = some (.int .i64 ((32 - ([] : List W64).length : Nat) : Int)) := by rw [hb6]; exact (hB6.cell (p := ⟨n + 4, 0, none⟩) (by show n + 4 < m; omega)).trans HC.out.1
  have hf6 : W6.frozen? ⟨b6, 0, none⟩ = false := by rw [hb6]; exact (hB6.frozen (p := ⟨n + 4, 0, none⟩) (by show n + 4 < m; omega)).trans HC.out.2
  have hb06 : Below n w W6 := HBel.out.trans (hB6.mono (by omega))
  rw [← hW6, ← hm]
  have HB : Hid (b6 = n + 4 ∧ b5 = n + 3 ∧ b4 = n + 2 ∧ b3 = n + 1) := Lib.hid ⟨hb6, hb5, hb4, hb3⟩
  have h65 : b6 ≠ b5 := by omega
  have h56 : b5 ≠ b6 := by omega
  have HM := Lib.hid hmn
  have HS6 := Lib.hid hS6
  clear hW6 hm hb6 hb5 hb4 hb3 hmn hB6
  refine (wpIn_wide (n := 4)).1 ?_
  refine wpIn_rangeFunc_ownF rfl (n := 4) (by omega) (gf := 144) (lb := #[.pointer (some ⟨m, 0, none⟩)]) rfl trivial (enters_of Try.func144 (by kernel_rfl) rfl)
    (keys_stops 3 (by omega) X Y m W6 HX.out HY.out k6) (fun _ _ => trivial) (fun _ _ _ _ _ _ _ _ => trivial) (Below.refl _ _) (fun _ => rfl)
    (fun pre W => (W.cell? ⟨b6, 0, none⟩ = some (.int .i64 ((32 - pre.length : Nat) : Int)) ∧ W.frozen? ⟨b6, 0, none⟩ = false ∧ Wrow W b5 (wat pre)) ∧ Below b5 W6 W)
    (fun _ _ _ => False)
    (OwnFrom.and (Own.from (fun s A B row hs hg hr => ⟨cell_kept hs.1 hg hr, (frozen_kept hs.1 hg hr).trans hs.2.1, hs.2.2.grown hg hr⟩) _) (ownFrom_below (by rw [HS6.out, HM.out, HB.out.2.1]; omega) (by rw [HS6.out, HM.out, HB.out.2.1]; omega)))
    (fun _ _ _ _ _ hs _ _ => hs)
    ⟨⟨hc6, hf6, hw5⟩, Below.refl _ _⟩
    (fun x => { tmps := #[.agg (kl X Y).toArray, .agg (kl A B).toArray, .pointer (some ⟨n, 0, none⟩), .pointer (some ⟨b3, 0, none⟩), .pointer (some ⟨b4, 0, none⟩), .pointer (some ⟨b5, 0, none⟩), .pointer (some ⟨b6, 0, none⟩), .int .u64 (x.1 : Int), undef, undef, undef, undef, .agg (kl X Y).toArray, .func (.func 144) #[] #[.pointer (some ⟨m, 0, none⟩)], .int .u64 (x.1 : Int), undef, undef, undef, undef, undef, undef, undef, undef, undef, undef, undef, undef, undef, undef, undef, undef, undef, undef, undef, undef, undef, undef, undef, undef, undef], defers := [] }) ?assign ?body ?done ?stop
  case assign =>
    intro l x W K hK
    unfold encs
    gi_wp2
    exact hK
  case body =>
    rintro l pre x W ⟨⟨h1, h2, h3⟩, hB⟩ hlen
    obtain ⟨c, hc⟩ : ∃ c, 32 - pre.length = c + 1 := ⟨31 - pre.length, by omega⟩
    rw [hc] at h1
    have hc32 : c < 32 := by omega
    have HCc : Hid (c = 31 - pre.length) := Lib.hid (by omega)
    have hcell := h3.cell c hc32
    have hfr := h3.fr c hc32
    have HW := Lib.hid h3
    have hl32 := Lib.hid hlen
    obtain ⟨v, hv⟩ : ∃ v, v = wat pre c := ⟨_, rfl⟩
    rw [← hv] at hcell
    clear h3 hc hlen hv
    have l0 : (0 : Int) ≤ (c : Int) := by omega
    gi_wp2_with fail
    refine ⟨((KeepsOthers.setCell _ _ _).trans (KeepsOthers.setCell _ _ _)), trivial, ⟨?_, ?_, ?_⟩, (hB.setCell (p := ⟨b6, 0, none⟩) (by show b5 ≤ b6; have := HB.out.1; have := HB.out.2.1; omega) _).setCell (p := ⟨b5, c, none⟩) (Nat.le_refl _) _⟩
    · rw [World.cell?_setCell_other _ _ _ _ (by intro h; injection h with h; exact h56 h), World.cell?_setCell_same _ _ _ h1]
      rw [List.length_append, List.length_singleton, HCc.out]
      have := hl32.out
      rw [show 32 - (pre.length + 1) = 31 - pre.length by omega]
    · rw [World.frozen?_setCell, World.frozen?_setCell]; exact h2
    · have h := ((HW.out.other 0 (.int .i64 (c : Int)) h65).set c x.1 hc32).ext (g := wat (pre ++ [x])) (fun j hj => by rw [HCc.out]; exact wat_snoc pre x hl32.out j hj)
      exact h
  case done =>
    rintro D ys W hD hys ⟨⟨h1, h2, h3⟩, hB⟩ hK
    have HT := Lib.hid (there_below hth hB (by have := HB.out.2.1; have := HB.out.2.2.1; omega))
    have HK3 := Lib.hid (hk3.below hB (by have := HB.out.2.1; have := HB.out.2.2.2; omega))
    have HBW := Lib.hid hB
    have HWW := Lib.hid (h3.ext (g := fun j => rk X Y (31 - j)) (fun j hj => wat_all hys j hj))
    have hDs : D < W.heap.size := (Array.getElem?_eq_some_iff.1 hK).1
    have HK := Lib.hid hK
    have HD := Lib.hid hD
    clear hD hys h1 h2 h3 hB hK hk3 hth hc6 hf6 hw5 k6
    go_wp2_with (refine wpList_load_key rfl _ rfl _ rfl A B HK3.out ?_)
    refine (split_any A B W HA.out HB'.out).mono ?_
    rintro e w1 ⟨rfl, hb1⟩
    have hbb : b5 < W.heap.size := HWW.out.lt
    have HW1 := Lib.hid ((HWW.out.below hb1 hbb).range)
    obtain ⟨g, HG⟩ : ∃ g : Nat → Nat, Hid (g = fun j => rk X Y (31 - j)) := ⟨_, Lib.hid rfl⟩
    rw [← HG.out] at HW1
    have HT1 := Lib.hid (there_below HT.out hb1 (there_lt HT.out (by omega)))
    have HK1' := Lib.hid ((hb1.block D hDs).trans HK.out)
    have HBW1 : Hid (Below n w w1) := Lib.hid ((hb06.trans (HBW.out.mono (by have := HB.out.2.1; omega))).trans (hb1.mono (by have := HB.out.2.1; omega)))
    have hD1 : D < w1.heap.size := Nat.lt_of_lt_of_le hDs hb1.size
    clear hb1 hbb hDs
    go_wp2_with (refine wpList_load_words rfl _ rfl _ rfl g HW1.out ?_)
    go_loop [8, 9, 26] (fun x y i => ∃ (k a c : Nat), k ≤ 32 ∧ i = .int .i64 (k : Int) ∧ x = .int .u64 (a : Int) ∧ y = .int .u64 (c : Int) ∧ Hid (a = (dst X Y A B k).1 ∧ c = (dst X Y A B k).2)) (fun _ _ i => 32 - (intOf i).toNat)
    case atStart => exact ⟨0, A, B, by omega, rfl, rfl, rfl, Lib.hid ⟨rfl, rfl⟩⟩
    case round =>
      obtain ⟨k, a, c, hk, rfl, rfl, rfl, HI⟩ := hrel
      by_cases hlt : k < 32
      · have hix := run_index_words g k hlt
        have HU := Lib.hid (fun w => unround_any a c (g k) w (by rw [HI.out.1]; exact (dst_ok HA.out HB'.out k).1) (by rw [HI.out.2]; exact (dst_ok HA.out HB'.out k).2) (by rw [HG.out]; exact rk_lt HX.out HY.out _ (by omega)))
        obtain ⟨u, HUu⟩ : ∃ u, Hid (u = g k) := ⟨_, Lib.hid rfl⟩
        rw [← HUu.out] at hix HU
        go_wp2_with fail
        refine (HU.out _).mono ?_
        rintro e w' ⟨rfl, rfl⟩
        go_wp2_with fail
        go_round
        case rel => exact ⟨k + 1, _, _, by omega, by go_num, rfl, rfl, Lib.hid (by rw [dst, HI.out.1, HI.out.2, HUu.out, HG.out]; exact ⟨rfl, rfl⟩)⟩
        case measure => simp [intOf]; omega
      · obtain rfl : k = 32 := by omega
        have HJ := Lib.hid (fun w => join_any a c w)
        go_wp2_with fail
        refine (HJ.out _).mono ?_
        rintro e w2 ⟨rfl, hb2⟩
        have HT := Lib.hid (there_below HT1.out hb2 (there_lt HT1.out (by omega)))
        have HK2 := Lib.hid ((hb2.block D hD1).trans HK1'.out)
        have HBw : Hid (Below n w w2) := Lib.hid (HBW1.out.trans (hb2.mono (by have := HBel.out.size; have := HBW1.out.size; rw [HN.out]; omega)))
        clear hb2
        go_wp2_with (refine wpList_store_key rfl _ _ rfl b4 _ _ rfl rfl HT.out ?_)
        have hne : D ≠ b4 := by have := HB.out.2.2.1; have := HD.out; have := HS6.out; have := HM.out; omega
        have hK3 : (w2.setCells b4 0 (kl a c)).heap[D]? = some (.deferred (some [])) := (heap_setCells_ne _ _ _ _ D hne).trans HK2.out
        refine ⟨by simp, .inl ⟨_, _, rfl, run_takeDeferred hK3, ?_⟩⟩
        refine ⟨_, results_key rfl _ _ b4 a c rfl ((KeyAt.stored HT.out _ _).grown (grownBy_putObj' _ D _) (by intro h; injection h with h; exact hne h.symm)), by rw [HI.out.1, HI.out.2]; rfl, ?_⟩
        have hb3 : Below n w (w2.setCells b4 0 (kl a c)) := below_setCells _ _ _ _ HBw.out (by have := HB.out.2.2.1; omega)
        rw [← HN.out]
        exact hb3.trans (belowK_b (w := w) (by rw [HN.out]; exact Nat.le_refl _) _ D _ _ (by have := HD.out; have := HS6.out; have := HM.out; have := HN.out; omega) hK3 rfl rfl)
  case stop =>
    rintro D c pre W _ _ h _
    exact h.elim
end Go.Proofs.Ytchkgccnipejhaa.L2

/-
  Equality of blocks; contracts of tagged, Derive, Number.
-/
namespace Go.Proofs.Ytchkgccnipejhaa.L2
open Go.RowKit Go.Shelf SP

theorem cells5 : Try.prog.cellsOf 5 = 1 := by kernel_rfl
theorem info5' : ∃ i, Try.prog.info? 5 = some i := by
  cases h : Try.prog.info? 5 with
  | some i => exact ⟨i, rfl⟩
  | none => exact absurd (show (Try.prog.info? 5).isSome = true by kernel_rfl) (by rw [h]; simp)
theorem part_key (X Y j : Nat) (h : j < 16) (w : World) : (part 5 (kl X Y).toArray (j * 1)).run Try.prog w = .ok (.int .u8 (kby X Y j : Int)) w := by
  have h3 := kl_get X Y j h
  simp [part, isAgg, Sem.run_bind, run_underlying Try.underlying5 w, h3, go_sem]
theorem eq_u8 (d : Nat) (a b : Int) (w : World) : (Op.equalIn (d + 1) 5 (.int .u8 a) (.int .u8 b)).run Try.prog w = .ok (a == b) w := by
  simp only [Op.equalIn, Sem.run_bind, run_underlying Try.underlying5 w]
  simp
theorem eqItems_key (d X Y X' Y' : Nat) (w : World) : ∀ l : List Nat, (∀ j ∈ l, j < 16) →
    (Op.eqItems (d + 1) 5 1 (kl X Y).toArray (kl X' Y').toArray l).run Try.prog w = .ok (l.all fun j => kby X Y j == kby X' Y' j) w
  | [], _ => by simp [Op.eqItems]
  | j :: l, h => by
    have hj := h j (by simp)
    simp only [Op.eqItems, Sem.run_bind, part_key X Y j hj w, part_key X' Y' j hj w, Result.andThen_ok, eq_u8 d _ _ w]
    have e : (((kby X Y j : Nat) : Int) == ((kby X' Y' j : Nat) : Int)) = (kby X Y j == kby X' Y' j) := by
      rw [Bool.eq_iff_iff]; simp; omega
    rw [e]
    cases hb : (kby X Y j == kby X' Y' j)
    · simp [hb]
    · simp only [Bool.not_true, Bool.false_eq_true, if_false, List.all_cons, hb, Bool.true_and]
      exact eqItems_key d X Y X' Y' w l (fun i hi => h i (by simp [hi]))

/-- Are two blocks equal? -/
def same (X Y X' Y' : Nat) : Bool := decide (X = X' ∧ Y = Y')
theorem same_all {X Y X' Y' : Nat} (hX : X < M) (hY : Y < M) (hX' : X' < M) (hY' : Y' < M) : ((List.range 16).all fun j => kby X Y j == kby X' Y' j) = same X Y X' Y' := by
  rw [Bool.eq_iff_iff]
  unfold same
  simp only [List.all_eq_true, List.mem_range, beq_iff_eq, decide_eq_true_eq]
  exact ⟨fun h => kby_ext hX hY hX' hY' h, fun h j _ => by rw [h.1, h.2]⟩
theorem run_equal_key {X Y X' Y' : Nat} (hX : X < M) (hY : Y < M) (hX' : X' < M) (hY' : Y' < M) (w : World) :
    (Op.equalIn 10000 26 (.agg (kl X Y).toArray) (.agg (kl X' Y').toArray)).run Try.prog w = .ok (same X Y X' Y') w := by
  obtain ⟨i, hi⟩ := info5'
  rw [show (10000 : Nat) = 9999 + 1 from rfl, run_equalIn_array w 9999 (kl X Y).toArray (kl X' Y').toArray Try.underlying26 hi, cells5, eqItems_key 9998 X Y X' Y' w _ (fun j hj => by simpa using hj), same_all hX hY hX' hY']

theorem tag_int (t c : Nat) (ht : t < 256) (hc : c < 72057594037927936) : bits .or .u64 (IntKind.u64.wrap ((t : Int) * 72057594037927936)) (c : Int) = ((t * 72057594037927936 + c : Nat) : Int) := by
  have h1 : IntKind.u64.wrap ((t : Int) * 72057594037927936) = ((t * 72057594037927936 : Nat) : Int) := by
    simp only [IntKind.wrap, IntKind.bits, IntKind.signed]
    simp
    omega
  rw [h1, or_join _ _ 56 (by unfold M; omega) (by omega) (by simpa using hc) (by decide)]

theorem tag_int' (t c : Nat) (ht : t < 256) (hc : c < 72057594037927936) : bits .or .u64 ((t : Int) * 72057594037927936) (c : Int) = ((t * 72057594037927936 + c : Nat) : Int) :=
  or_join (t * 72057594037927936) c 56 (by unfold M; omega) (by omega) (by simpa using hc) (by decide)

theorem ends_key {R : Ending → World → Prop} {fn : Func} {p : Tmp} (h : fn.results = #[.cell p 26]) {a : Act} {w : World} (b X Y : Nat) (ht : w.there b 0 16)
    (hp : a.tmps.getD p undef = .pointer (some ⟨b, 0, none⟩)) (hd : a.defers = []) (hq : R (.returned (.agg (kl X Y).toArray)) (w.setCells b 0 (kl X Y))) :
    bodyPost Try.prog fn R .ret a (w.setCells b 0 (kl X Y)) := bodyPost_key h b X Y hp (KeyAt.stored ht X Y) hd hq

set_option maxRecDepth 100000 in
theorem tagged_any (t c n : Nat) (w : World) (ht : t < 256) (hc : c < 72057594037927936) :
    Calls Try.prog 117 #[.int .u8 (t : Int), .int .u64 (c : Int), .int .u64 (n : Int)] w fun e w' => e = .returned (.agg (kl (t * 72057594037927936 + c) n).toArray) ∧ Below w.heap.size w w' := by
  have hj := tag_int' t c ht hc
  obtain ⟨x, hx⟩ : ∃ x, x = t * 72057594037927936 + c := ⟨_, rfl⟩
  rw [← hx] at hj ⊢
  obtain ⟨W1, hW1⟩ : ∃ W1, W1 = w.alloc (.cells z16 26) := ⟨_, rfl⟩
  have HB : Hid (Below w.heap.size w W1) := Lib.hid (by rw [hW1]; exact (Below.refl _ _).alloc (Nat.le_refl _) _)
  have HT : Hid (W1.there w.heap.size 0 16) := Lib.hid (by rw [hW1]; exact (Row.zeros w 26).there)
  have HW := Lib.hid hW1
  have HJ := Lib.hid (fun w => join_any x n w)
  clear hc hW1 hx
  go_enter Try.func117, Try.ntmps117
  go_wp2_with fail
  rw [← HW.out]
  refine (HJ.out _).mono ?_
  rintro e w2 ⟨rfl, hb2⟩
  have HT2 := Lib.hid (there_below HT.out hb2 (there_lt HT.out (by omega)))
  have HB2 := Lib.hid (HB.out.trans (hb2.mono HB.out.size))
  clear hb2
  go_wp2_with (refine wpList_store_key rfl _ _ rfl w.heap.size _ _ rfl rfl HT2.out ?_)
  exact ends_key rfl w.heap.size _ _ HT2.out rfl rfl ⟨rfl, below_setCells _ _ _ _ HB2.out (Nat.le_refl _)⟩

/-- The words of a derived key. -/
def drv (X Y t n : Nat) : Nat × Nat := enc X Y (t * 72057594037927936) n
theorem drv_ok {X Y t n : Nat} (hX : X < M) (hY : Y < M) (ht : t < 256) (hn : n < M) : Ok (drv X Y t n) := enc_ok hX hY (by unfold M; omega) hn

set_option maxRecDepth 100000 in
set_option maxHeartbeats 1000000 in
theorem derive_any (X Y t n : Nat) (w : World) (hX : X < M) (hY : Y < M) (ht : t < 256) (hn : n < M) :
    Calls Try.prog 67 #[.agg (kl X Y).toArray, .int .u8 (t : Int), .int .u64 (n : Int)] w fun e w' => e = .returned (.agg (kl (drv X Y t n).1 (drv X Y t n).2).toArray) ∧ Below w.heap.size w w' := by
  obtain ⟨W2, hW2⟩ : ∃ W2, W2 = (w.alloc (.cells (kl X Y).toArray 26)).alloc (.cells z16 26) := ⟨_, rfl⟩
  have HB : Hid (Below w.heap.size w W2) := Lib.hid (by rw [hW2]; exact ((Below.refl _ _).alloc (Nat.le_refl _) _).alloc (by simp) _)
  have HT : Hid (W2.there (w.heap.size + 1) 0 16) := Lib.hid (by
    have h := (Row.zeros (w.alloc (.cells (kl X Y).toArray 26)) 26).there
    rw [World.size_alloc] at h
    rw [hW2]; exact h)
  have HK : Hid (KeyAt W2 w.heap.size X Y) := Lib.hid (by rw [hW2]; exact (KeyAt.new w X Y 26).alloc _)
  have HW := Lib.hid hW2
  have HG := Lib.hid (fun w => tagged_any t 0 n w ht (by omega))
  rw [Nat.add_zero] at HG
  have HE := Lib.hid (fun w => encrypt_any X Y (t * 72057594037927936) n w hX hY (by unfold M; omega) hn)
  obtain ⟨P, hP⟩ : ∃ P, P = (drv X Y t n).1 := ⟨_, rfl⟩
  obtain ⟨Q, hQ⟩ : ∃ Q, Q = (drv X Y t n).2 := ⟨_, rfl⟩
  have eP : (enc X Y (t * 72057594037927936) n).1 = P := hP.symm
  have eQ : (enc X Y (t * 72057594037927936) n).2 = Q := hQ.symm
  rw [eP, eQ] at HE
  rw [← hP, ← hQ]
  clear eP eQ hP hQ
  have hsz : (kl P Q).toArray.size = 16 := by simp [kl_len]
  have HS := Lib.hid (fun (w' : World) (h : Below W2.heap.size W2 w') => (⟨HK.out.below h HK.out.lt, by rw [hsz]; exact there_below HT.out h (there_lt HT.out (by omega)), HB.out.trans (h.mono HB.out.size)⟩ : w'.rangeAt w.heap.size 0 (kl X Y) ∧ w'.there (w.heap.size + 1) 0 (kl P Q).toArray.size ∧ Below w.heap.size w w'))
  have HS2 := Lib.hid (fun (w' : World) (h : w'.rangeAt w.heap.size 0 (kl X Y) ∧ w'.there (w.heap.size + 1) 0 (kl P Q).toArray.size ∧ Below w.heap.size w w') =>
    (⟨KeyAt.setCells h.1 _ _ (by omega), World.there_setCells h.2.1 _ _ _, below_setCells _ _ _ _ h.2.2 (by omega)⟩ : (w'.setCells (w.heap.size + 1) 0 (kl P Q)).rangeAt w.heap.size 0 (kl X Y) ∧ (w'.setCells (w.heap.size + 1) 0 (kl P Q)).there (w.heap.size + 1) 0 (kl P Q).toArray.size ∧ Below w.heap.size w (w'.setCells (w.heap.size + 1) 0 (kl P Q))))
  have HS3 := Lib.hid (fun (w' : World) (h : w'.there (w.heap.size + 1) 0 (kl P Q).toArray.size) => (by rw [hsz] at h; exact h : w'.there (w.heap.size + 1) 0 16))
  have hx0 : Below W2.heap.size W2 W2.drew := (Below.refl _ _).drew
  have hlen0 : W2.heap.size ≤ W2.drew.heap.size := hx0.size
  clear hW2 hsz
  go_enter Try.func67, Try.ntmps67
  go_wp2_with fail
  rw [← HW.out]
  have hi : (Try.prog.info? 26).map (·.size) = some (kl X Y).length := by rw [kl_len]; exact size23
  have hu := Try.underlying26
  have hi2 : (Try.prog.info? 26).map (·.size) = some (kl P Q).toArray.size := by simp [kl_len, size23]
  have ho2 := kl_one P Q
  go_region_held3 (fun w' => w'.rangeAt w.heap.size 0 (kl X Y) ∧ w'.there (w.heap.size + 1) 0 (kl P Q).toArray.size ∧ Below w.heap.size w w')
    (first | with_reducible exact HS2.out _ (by assumption) | with_reducible exact HS.out _ hx0 | with_reducible exact HS.out _ hx1 | with_reducible exact HS.out _ hx2)
    (first
      | (go_at_call 117; refine (HG.out _).mono ?_; rintro e w5 ⟨rfl, hx5'⟩; have hx1 := hx0.trans (hx5'.mono hlen0))
      | (go_at_call 77; refine (HE.out _).mono ?_; rintro e w6 ⟨rfl, hx6'⟩; have hx2 := hx1.trans (hx6'.mono hx1.size)))
  have HF := HS3.out _ (HS.out _ hx2).2.1
  go_wp2
  exact ends_key rfl (w.heap.size + 1) P Q HF rfl rfl ⟨rfl, below_setCells _ _ _ _ (HB.out.trans (hx2.mono HB.out.size)) (by omega)⟩

/-- What Number returns. -/
def numb (X Y n most : Nat) : Nat := if most = 0 then 0 else (drv X Y 3 n).1 % most
end Go.Proofs.Ytchkgccnipejhaa.L2
