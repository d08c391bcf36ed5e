/-
  Keys and blocks in memory: 16 cells that hold the bytes of two words. Contracts of RotateLeft64, round, unround.
-/
import Derived.Test.YtcbanemkjebdcaaProg
import Derived.Test.YtcbanemkjebdcaaMathA
import Derived.WalkKit
import Derived.Lib.Hide
import Derived.Deep.QuietTactic
import Derived.BigQuiet
import Derived.Laws.BitsAllLaws
import Derived.Deep.MidRow
namespace Go.Proofs.Ytcbanemkjebdcaa
open Go.RowKit SP

def u64 (d : Nat) : Value := .int .u64 (d : Int)
def u8 (d : Nat) : Value := .int .u8 (d : Int)

/-- The cells of a list of bytes. -/
def bl (bs : List Nat) : List Value := bs.map u8
/-- The bytes of the block of two words. -/
def kb (X Y : Nat) : List Nat := (List.range 16).map (kby X Y)
/-- The cells of the block of two words. -/
def kl (X Y : Nat) : List Value := bl (kb X Y)
/-- The block of two words, as a value. -/
def KV (X Y : Nat) : Value := .agg (kl X Y).toArray

theorem kl_len (X Y : Nat) : (kl X Y).length = 16 := by simp [kl, bl, kb]
theorem kl_get (X Y i : Nat) (h : i < 16) : (kl X Y)[i]? = some (.int .u8 (kby X Y i : Int)) := by
  simp [kl, bl, kb, u8, List.getElem?_map, List.getElem?_range h]
theorem kl_one (X Y : Nat) : ∀ v ∈ kl X Y, v.oneCell' = true := by
  intro v hv
  obtain ⟨i, hi, hiv⟩ := List.getElem_of_mem hv
  have h := kl_get X Y i (by rw [← kl_len X Y]; exact hi)
  rw [List.getElem?_eq_getElem hi, hiv] at h
  injection h with h; rw [h]; rfl
theorem kl_arr (X Y : Nat) : (kl X Y).toArray.all (·.oneCell') = true := all_oneCell_toArray (kl_one X Y)

/-- Block b of the world w holds the block of the words X and Y. -/
def KeyAt (w : World) (b X Y : Nat) : Prop := w.rangeAt b 0 (kl X Y)

theorem KeyAt.cell {w : World} {b X Y : Nat} (h : KeyAt w b X Y) (i : Nat) (hi : i < 16) : w.cell? ⟨b, i, none⟩ = some (.int .u8 (kby X Y i : Int)) := by
  have := h i _ (kl_get X Y i hi)
  rwa [Nat.zero_add] at this
theorem KeyAt.of_cells {w : World} {b X Y : Nat} (h : ∀ i, i < 16 → w.cell? ⟨b, i, none⟩ = some (.int .u8 (kby X Y i : Int))) : KeyAt w b X Y := fun j v hv => by
  have hj : j < 16 := by rw [← kl_len X Y]; exact (List.getElem?_eq_some_iff.1 hv).1
  rw [kl_get X Y j hj] at hv
  injection hv with hv
  rw [Nat.zero_add, h j hj, hv]
theorem KeyAt.lt {w : World} {b X Y : Nat} (h : KeyAt w b X Y) : b < w.heap.size := World.block_lt_of_cell? w ⟨b, 0, none⟩ (h.cell 0 (by omega))
theorem KeyAt.below {w w' : World} {n b X Y : Nat} (h : KeyAt w b X Y) (hb : Below n w w') (hn : b < n) : KeyAt w' b X Y := fun j v hv => by
  rw [hb.cell (p := ⟨b, 0 + j, none⟩) hn]; exact h j v hv
theorem KeyAt.keep {w w' : World} {b X Y : Nat} (h : KeyAt w b X Y) (hb : Below w.heap.size w w') : KeyAt w' b X Y := h.below hb h.lt
theorem KeyAt.alloc {w : World} {b X Y : Nat} (h : KeyAt w b X Y) (o : Obj) : KeyAt (w.alloc o) b X Y :=
  h.keep ((Below.refl _ _).alloc (Nat.le_refl _) _)
theorem KeyAt.setCell {w : World} {b X Y : Nat} (h : KeyAt w b X Y) (p : Addr) (v : Value) (hp : p.block ≠ b) : KeyAt (w.setCell p v) b X Y := fun j v' hv => by
  rw [World.cell?_setCell_other _ _ _ _ (fun e => hp (by rw [e]))]; exact h j v' hv
theorem KeyAt.setCells {w : World} {b X Y : Nat} (h : KeyAt w b X Y) (b' : Nat) (vs : List Value) (hp : b ≠ b') : KeyAt (w.setCells b' 0 vs) b X Y :=
  World.rangeAt_setCells_apart h b' 0 vs (.inl hp)
theorem KeyAt.drew {w : World} {b X Y : Nat} (h : KeyAt w b X Y) : KeyAt w.drew b X Y := h
theorem KeyAt.new (w : World) (X Y : Nat) (t : TypeId) : KeyAt (w.alloc (.cells (kl X Y).toArray t)) w.heap.size X Y := fun j v hv => by
  rw [Nat.zero_add, cell_of_row _ _ j _ t _ (heap_alloc_new w _)]
  simpa using hv

/-- A block of 16 cells that may be written. -/
theorem there_new (w : World) (cs : Array Value) (t : TypeId) (n : Nat) (h : cs.size = n) : (w.alloc (.cells cs t)).there w.heap.size 0 n := fun j hj => by
  have hc : (w.alloc (.cells cs t)).cell? ⟨w.heap.size, 0 + j, none⟩ = cs[j]? := by
    rw [Nat.zero_add, cell_of_row _ _ j _ t _ (heap_alloc_new w _)]
  refine ⟨?_, ?_⟩
  · rw [hc, Array.getElem?_eq_getElem (by omega)]; rfl
  · unfold World.frozen?; rw [heap_alloc_new]; simp
theorem there_below {w w' : World} {m b n : Nat} (h : w.there b 0 n) (hb : Below m w w') (hn : b < m) : w'.there b 0 n := fun j hj => by
  rw [hb.cell (p := ⟨b, 0 + j, none⟩) hn, hb.frozen (p := ⟨b, 0 + j, none⟩) hn]; exact h j hj
theorem there_lt {w : World} {b n : Nat} (h : w.there b 0 n) (hn : 0 < n) : b < w.heap.size := by
  obtain ⟨u, hu⟩ := Option.isSome_iff_exists.1 (h 0 hn).1
  exact World.block_lt_of_cell? w _ hu

theorem size23 : (Try.prog.info? 23).map (·.size) = some 16 := by kernel_rfl

/-- The load of a block, as an arm of the walk. -/
theorem wpList_load_key {ops : Array Oper} {rest : List Oper} {op : Oper} {a : Act} {w : World} {Q : Exit → Act → World → Prop} (hgd : op.guard = none) (x : Operand) (ho : op.op = .load 23 x)
    (b : Nat) (hx : a.eval x = .pointer (some ⟨b, 0, none⟩)) (X Y : Nat) (hc : KeyAt w b X Y)
    (h : wpList Try.prog ops Q rest (a.put op.dst (.agg (kl X Y).toArray)) w) : wpList Try.prog ops Q (op :: rest) a w :=
  wpList_load_mid hgd 23 x ho b 0 hx (kl X Y) _ hc Try.underlying23 rfl (by rw [kl_len]; exact size23) h
/-- The store of a block. -/
theorem wpList_store_key {ops : Array Oper} {rest : List Oper} {op : Oper} {a : Act} {w : World} {Q : Exit → Act → World → Prop} (hgd : op.guard = none) (x y : Operand) (ho : op.op = .store 23 x y)
    (b : Nat) (X Y : Nat) (hx : a.eval x = .pointer (some ⟨b, 0, none⟩)) (hy : a.eval y = .agg (kl X Y).toArray) (ht : w.there b 0 16)
    (h : wpList Try.prog ops Q rest (a.put op.dst undef) (w.setCells b 0 (kl X Y))) : wpList Try.prog ops Q (op :: rest) a w := by
  refine wpList_store_mid hgd 23 x y ho b 0 (kl X Y).toArray hx hy ?_ ?_ (kl_arr X Y) ?_
  · simpa [kl_len] using ht
  · simp [kl_len, size23]
  · simpa using h
/-- What a function hands back whose result is a block in memory. -/
theorem results_key {fn : Func} {p : Tmp} (h : fn.results = #[.cell p 23]) (tmps : Array Value) (w : World) (b X Y : Nat)
    (hp : tmps.getD p undef = .pointer (some ⟨b, 0, none⟩)) (hc : KeyAt w b X Y) : (results fn tmps).run Try.prog w = .ok (.agg (kl X Y).toArray) w := by
  have hp' : tmps[p]?.getD undef = .pointer (some ⟨b, 0, none⟩) := by simpa using hp
  simp [results, h, hp', asAddr, run_loadVar_mid w b 0 23 (kl X Y) _ hc Try.underlying23 rfl (by rw [kl_len]; exact size23)]

/-! ### Rotations and rounds -/
theorem cnt3 : bits .and .u64 3 63 = 3 := by decide
theorem cnt8 : bits .and .u64 8 63 = 8 := by decide
theorem cntm3 : bits .and .u64 (IntKind.u64.wrap (-3)) 63 = 61 := by decide
theorem cntm8 : bits .and .u64 (IntKind.u64.wrap (-8)) 63 = 56 := by decide

theorem or_join (a b : Nat) (i : Nat) (ha : a < M) (h : a % 2 ^ i = 0) (hb : b < 2 ^ i) (hi : i ≤ 64) : bits .or .u64 (a : Int) (b : Int) = ((a + b : Nat) : Int) := by
  have hb2 : b < M := Nat.lt_of_lt_of_le hb (Nat.pow_le_pow_right (by decide) hi)
  rw [u64_or_nat a b ha hb2, nat_join i a b h hb]

theorem rot_gen (x m d i : Nat) (hi : i ≤ 64) (hm : m = 2 ^ i) (hd : x / d < 2 ^ i) : bits .or .u64 (IntKind.u64.wrap ((x : Int) * (m : Int))) ((x : Int) / (d : Int)) = ((x * m % M + x / d : Nat) : Int) := by
  have h1 : IntKind.u64.wrap ((x : Int) * (m : Int)) = ((x * m % M : Nat) : Int) := by
    simp [IntKind.wrap, IntKind.bits, IntKind.signed]
  have h2 : (x : Int) / (d : Int) = ((x / d : Nat) : Int) := by simp
  rw [h1, h2]
  refine or_join _ _ i (Nat.mod_lt _ (by decide)) ?_ hd hi
  have e : M = 2 ^ i * 2 ^ (64 - i) := by rw [← Nat.pow_add, show i + (64 - i) = 64 by omega]
  rw [hm, e, Nat.mod_mul_right_mod]
  exact Nat.mul_mod_left _ _

theorem rot3 (x : Nat) (hx : x < M) : bits .or .u64 (IntKind.u64.wrap ((x : Int) * 8)) ((x : Int) / 2305843009213693952) = ((rl3 x : Nat) : Int) := by
  have h := rot_gen x 8 2305843009213693952 3 (by decide) (by decide) (by unfold M at hx; omega)
  have e : x * 8 % M + x / 2305843009213693952 = rl3 x := by unfold rl3 M; omega
  rw [e] at h; exact h
theorem rot8 (x : Nat) (hx : x < M) : bits .or .u64 (IntKind.u64.wrap ((x : Int) * 256)) ((x : Int) / 72057594037927936) = ((rl8 x : Nat) : Int) := by
  have h := rot_gen x 256 72057594037927936 8 (by decide) (by decide) (by unfold M at hx; omega)
  have e : x * 256 % M + x / 72057594037927936 = rl8 x := by unfold rl8 M; omega
  rw [e] at h; exact h
theorem rotm3 (x : Nat) (hx : x < M) : bits .or .u64 (IntKind.u64.wrap ((x : Int) * 2305843009213693952)) ((x : Int) / 8) = ((rr3 x : Nat) : Int) := by
  have h := rot_gen x 2305843009213693952 8 61 (by decide) (by decide) (by unfold M at hx; omega)
  have e : x * 2305843009213693952 % M + x / 8 = rr3 x := by unfold rr3 M; omega
  rw [e] at h; exact h
theorem rotm8 (x : Nat) (hx : x < M) : bits .or .u64 (IntKind.u64.wrap ((x : Int) * 72057594037927936)) ((x : Int) / 256) = ((rr8 x : Nat) : Int) := by
  have h := rot_gen x 72057594037927936 256 56 (by decide) (by decide) (by unfold M at hx; omega)
  have e : x * 72057594037927936 % M + x / 256 = rr8 x := by unfold rr8 M; omega
  rw [e] at h; exact h

theorem ret_int {k : IntKind} {a b : Int} (h : a = b) : Ending.returned (.int k a) = .returned (.int k b) := by rw [h]

set_option maxRecDepth 100000 in
theorem rl3_any (x : Nat) (w : World) (hx : x < M) :
    Calls Try.prog 143 #[.int .u64 (x : Int), .int .i64 3] w fun e w' => e = .returned (.int .u64 (rl3 x : Nat)) ∧ w = w' := by
  have e1 := cnt3
  have HR := Lib.hid (rot3 x hx)
  clear hx
  go_enter Try.func143, Try.ntmps143
  go_wp2
  go_ret
  exact ⟨ret_int HR.out, rfl⟩
set_option maxRecDepth 100000 in
theorem rl8_any (x : Nat) (w : World) (hx : x < M) :
    Calls Try.prog 143 #[.int .u64 (x : Int), .int .i64 8] w fun e w' => e = .returned (.int .u64 (rl8 x : Nat)) ∧ w = w' := by
  have e1 := cnt8
  have HR := Lib.hid (rot8 x hx)
  clear hx
  go_enter Try.func143, Try.ntmps143
  go_wp2
  go_ret
  exact ⟨ret_int HR.out, rfl⟩
set_option maxRecDepth 100000 in
theorem rr3_any (x : Nat) (w : World) (hx : x < M) :
    Calls Try.prog 143 #[.int .u64 (x : Int), .int .i64 (-3)] w fun e w' => e = .returned (.int .u64 (rr3 x : Nat)) ∧ w = w' := by
  have e1 := cntm3
  have HR := Lib.hid (rotm3 x hx)
  clear hx
  go_enter Try.func143, Try.ntmps143
  go_wp2
  go_ret
  exact ⟨ret_int HR.out, rfl⟩
set_option maxRecDepth 100000 in
theorem rr8_any (x : Nat) (w : World) (hx : x < M) :
    Calls Try.prog 143 #[.int .u64 (x : Int), .int .i64 (-8)] w fun e w' => e = .returned (.int .u64 (rr8 x : Nat)) ∧ w = w' := by
  have e1 := cntm8
  have HR := Lib.hid (rotm8 x hx)
  clear hx
  go_enter Try.func143, Try.ntmps143
  go_wp2
  go_ret
  exact ⟨ret_int HR.out, rfl⟩

end Go.Proofs.Ytcbanemkjebdcaa
