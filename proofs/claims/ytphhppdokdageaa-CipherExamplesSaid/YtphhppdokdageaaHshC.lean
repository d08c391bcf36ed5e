/-
  padded: the bytes that are digested.
-/
import Derived.Test.YtphhppdokdageaaHshB
import Derived.Test.YtphhppdokdageaaPorB
import Derived.Laws.MakeOwn
namespace Go.Proofs.Ytphhppdokdageaa
open Go.RowKit SP
set_option linter.unusedVariables false
set_option linter.unusedSimpArgs false

/-- How many zeros are laid behind n bytes and the mark. -/
def zz (n : Nat) : Nat := (16 - (n + 9) % 16) % 16
def pdl (n : Nat) : Nat := n + 1 + zz n + 8
theorem pdl_mod (n : Nat) : pdl n % 16 = 0 := by unfold pdl zz; omega
/-- Byte i of what is digested. -/
def pdb (g : Nat → Nat) (n i : Nat) : Nat := if i < n then g i else if i < n + 1 then 128 else if i < n + 1 + zz n then 0 else kby 0 n (8 + (i - (n + 1 + zz n)))
theorem pdb_lt {g : Nat → Nat} (hg : ∀ i, g i < 256) (n i : Nat) : pdb g n i < 256 := by
  unfold pdb
  split
  · exact hg i
  · split
    · omega
    · split
      · omega
      · exact kby_lt _ _ _
theorem map_range_add (f : Nat → Nat) (a b : Nat) : (List.range (a + b)).map f = (List.range a).map f ++ (List.range b).map (fun j => f (a + j)) := by
  rw [List.range_add, List.map_append, List.map_map]; rfl
/-- The four parts: their lengths and bytes. -/
def pln4 (n : Nat) : Nat → Nat
  | 0 => n
  | 1 => 1
  | 2 => zz n
  | _ => 8
def pgs4 (g : Nat → Nat) (n : Nat) : Nat → Nat → Nat
  | 0 => g
  | 1 => fun _ => 128
  | 2 => fun _ => 0
  | _ => fun j => kby 0 n (8 + j)
theorem tot4 (n : Nat) : tot (pln4 n) 4 = pdl n := by simp [tot, pln4, pdl]
theorem ctl4 (g : Nat → Nat) (n : Nat) : ctl (pln4 n) (pgs4 g n) 4 = (List.range (pdl n)).map (pdb g n) := by
  have e0 : (List.range n).map (pdb g n) = (List.range n).map g := List.map_congr_left fun j hj => by
    have := List.mem_range.1 hj; unfold pdb; rw [if_pos this]
  have e1 : (List.range 1).map (fun j => pdb g n (n + j)) = (List.range 1).map (fun _ => 128) := List.map_congr_left fun j hj => by
    have := List.mem_range.1 hj; unfold pdb; rw [if_neg (by omega), if_pos (by omega)]
  have e2 : (List.range (zz n)).map (fun j => pdb g n (n + 1 + j)) = (List.range (zz n)).map (fun _ => 0) := List.map_congr_left fun j hj => by
    have := List.mem_range.1 hj; unfold pdb; rw [if_neg (by omega), if_neg (by omega), if_pos (by omega)]
  have e3 : (List.range 8).map (fun j => pdb g n (n + 1 + zz n + j)) = (List.range 8).map (fun j => kby 0 n (8 + j)) := List.map_congr_left fun j hj => by
    unfold pdb; rw [if_neg (by omega), if_neg (by omega), if_neg (by omega), show n + 1 + zz n + j - (n + 1 + zz n) = j by omega]
  unfold pdl
  rw [map_range_add, map_range_add, map_range_add, e0, e1, e2, e3]
  simp only [ctl, pln4, pgs4, List.nil_append]
theorem own_mono {w : World} {b b' e size n : Nat} {v : Value} {xs : List Value} (h : w.ownsRow b e size v n xs) (hb : b' ≤ b) : w.ownsRow b' e size v n xs :=
  ⟨h.1, h.2.imp id fun ⟨g, cap, cur, h1, h2, h3⟩ => ⟨g, cap, cur, h1, Nat.le_trans hb h2, h3⟩⟩

theorem one_byt (w : World) : Byt (w.alloc (.cells #[.int .u8 128] 5)) (some ⟨w.heap.size, 0, none⟩) 1 1 (fun _ => 128) :=
  ⟨Nat.le_refl _, by simp [maxLen], fun _ => by omega, fun _ => ⟨_, 0, rfl, fun i hi => by
    obtain rfl : i = 0 := by omega
    exact (Box.new w (.int .u8 128) 5).cell⟩⟩
theorem made_byt (w : World) (z : Nat) (hz : z ≤ 16) : Byt (w.alloc (.cells (madeCells (Value.int .u8 0).cells z) 5)) (some ⟨w.heap.size, 0, none⟩) z z (fun _ => 0) :=
  ⟨Nat.le_refl _, by unfold maxLen; omega, fun _ => by omega, fun _ => ⟨_, 0, rfl, fun i hi => by
    rw [Nat.zero_add, cell_of_row _ _ i _ 5 _ (heap_alloc_new w _)]
    have hz' : (Value.int IntKind.u8 0).cells = #[Value.int .u8 0] := rfl
    unfold madeCells
    rw [hz']
    simp only [Array.getElem?_map]
    rw [show (Array.range z)[i]? = some i by simp [hi]]
    simp only [Option.map_some]
    rw [show i % (#[Value.int IntKind.u8 0] : Array Value).size = 0 from Nat.mod_one i]
    rfl⟩⟩
theorem cell4_keep {w w' : World} {g : Nat} {a b c d : Value} (h : w.cell? ⟨g, 0, none⟩ = some a ∧ w.cell? ⟨g, 1, none⟩ = some b ∧ w.cell? ⟨g, 2, none⟩ = some c ∧ w.cell? ⟨g, 3, none⟩ = some d) (hb : Below w.heap.size w w') :
    w'.cell? ⟨g, 0, none⟩ = some a ∧ w'.cell? ⟨g, 1, none⟩ = some b ∧ w'.cell? ⟨g, 2, none⟩ = some c ∧ w'.cell? ⟨g, 3, none⟩ = some d := by
  have hl : g < w.heap.size := World.block_lt_of_cell? w _ h.1
  exact ⟨(hb.cell (p := ⟨g, 0, none⟩) hl).trans h.1, (hb.cell (p := ⟨g, 1, none⟩) hl).trans h.2.1, (hb.cell (p := ⟨g, 2, none⟩) hl).trans h.2.2.1, (hb.cell (p := ⟨g, 3, none⟩) hl).trans h.2.2.2⟩
def ad4 (A : Option Addr) (g1 g3 nb : Nat) : Nat → Option Addr
  | 0 => A
  | 1 => some ⟨g1, 0, none⟩
  | 2 => some ⟨g3, 0, none⟩
  | _ => some ⟨nb, 8, none⟩
def cp4 (c z : Nat) : Nat → Nat
  | 0 => c
  | 1 => 1
  | 2 => z
  | _ => 8
theorem concat4 (g5 : Nat) (A : Option Addr) (n c : Nat) (g : Nat → Nat) (z g1 g3 nb : Nat) (w : World) (hz : z = zz n)
    (q0 : w.cell? ⟨g5, 0, none⟩ = some (.slice A n c)) (q1 : w.cell? ⟨g5, 1, none⟩ = some (.slice (some ⟨g1, 0, none⟩) 1 1)) (q2 : w.cell? ⟨g5, 2, none⟩ = some (.slice (some ⟨g3, 0, none⟩) z z)) (q3 : w.cell? ⟨g5, 3, none⟩ = some (.slice (some ⟨nb, 8, none⟩) 8 8))
    (y0 : Byt w A n c g) (y1 : Byt w (some ⟨g1, 0, none⟩) 1 1 (fun _ => 128)) (y2 : Byt w (some ⟨g3, 0, none⟩) z z (fun _ => 0)) (y3 : Byt w (some ⟨nb, 8, none⟩) 8 8 (fun j => kby 0 n (8 + j)))
    (h0 : 0 < pdl n) (h1 : pdl n ≤ 20000) (ht : tot (pln4 n) 4 = pdl n) (hc : ctl (pln4 n) (pgs4 g n) 4 = (List.range (pdl n)).map (pdb g n)) :
    Calls Try.prog 69 #[.slice (some ⟨g5, 0, none⟩) 4 4] w fun e w' => ∃ v, e = .returned v ∧ Below w.heap.size w w' ∧ w'.ownsRow w.heap.size 5 1 v (pdl n) (bl ((List.range (pdl n)).map (pdb g n))) := by
  subst hz
  have h := concat_any g5 4 (ad4 A g1 g3 nb) (pln4 n) (cp4 c (zz n)) (pgs4 g n) w (by omega)
    (fun k hk => by
      have h4 : k = 0 ∨ k = 1 ∨ k = 2 ∨ k = 3 := by omega
      rcases h4 with rfl | rfl | rfl | rfl
      · exact q0
      · exact q1
      · exact q2
      · exact q3)
    (fun k hk => by
      have h4 : k = 0 ∨ k = 1 ∨ k = 2 ∨ k = 3 := by omega
      rcases h4 with rfl | rfl | rfl | rfl
      · exact y0
      · exact y1
      · exact y2
      · exact y3) (by rw [ht]; exact h0) (by rw [ht]; omega)
  rw [ht, hc] at h
  exact h

set_option maxRecDepth 100000 in
set_option pp.deepTerms true in
set_option pp.maxSteps 10000000 in
set_option maxHeartbeats 1000000 in
theorem padded_any (A : Option Addr) (n c : Nat) (g : Nat → Nat) (w : World) (hb : Byt w A n c g) (hn : n ≤ 16384) :
    Calls Try.prog 44 #[.slice A n c] w fun e w' => ∃ v, e = .returned v ∧ Below w.heap.size w w' ∧ w'.ownsRow w.heap.size 5 1 v (pdl n) (bl ((List.range (pdl n)).map (pdb g n))) := by
  obtain ⟨i0, hi, hz0, hz1, hz2⟩ := info_parts info5
  have hz : zz n ≤ 16 := by unfold zz; omega
  have hmk : ∀ w : World, (Instr.makeSlice 26 (.int .i64 ((zz n : Nat) : Int)) (.int .i64 ((zz n : Nat) : Int))).run Try.prog w = .ok (.slice (some ⟨w.heap.size, 0, none⟩) (zz n) (zz n)) (w.alloc (.cells (madeCells (Value.int .u8 0).cells (zz n)) 5)) := fun w => by
    have h := run_make (P := Try.prog) w 26 5 i0 _ Try.underlying26 hi hz0 .i64 .i64 ((zz n : Nat) : Int) ((zz n : Nat) : Int) (by omega) (by omega) (by rw [hz2]; omega) (by omega)
    rw [hz1, Nat.mul_one] at h
    exact h
  have HMk := Lib.hid hmk
  have HY := Lib.hid hb
  have HJ := Lib.hid (fun w => join_any 0 n w)
  have E1 : ((n : Int) + 1 + 8) % 16 = (((n + 9) % 16 : Nat) : Int) := by omega
  have E2 : ((n : Int) + 1 + 8).tmod 16 = (((n + 9) % 16 : Nat) : Int) := by rw [Int.tmod_eq_emod_of_nonneg (by omega)]; exact E1
  have E3 : (16 - (((n + 9) % 16 : Nat) : Int)) % 16 = ((zz n : Nat) : Int) := by unfold zz; omega
  have E4 : (16 - (((n + 9) % 16 : Nat) : Int)).tmod 16 = ((zz n : Nat) : Int) := by rw [Int.tmod_eq_emod_of_nonneg (by omega)]; exact E3
  have hcv : IntKind.u64.wrap (n : Int) = (n : Int) := by simp [IntKind.wrap, IntKind.bits, IntKind.signed]; omega
  obtain ⟨rs, hrs⟩ : ∃ rs, rs = (n + 9) % 16 := ⟨_, rfl⟩
  rw [← hrs] at E1 E2 E3 E4
  have hrs16 : rs < 16 := by omega
  have HT := Lib.hid (tot4 n)
  have HC4 := Lib.hid (ctl4 g n)
  have hpl : pdl n ≤ 20000 := by unfold pdl; omega
  have hpl0 : 0 < pdl n := by unfold pdl; omega
  obtain ⟨N, hN⟩ : ∃ N, N = w.heap.size := ⟨_, rfl⟩
  have HN := Lib.hid hN
  clear hmk hi hz0 hz1 hz2 hrs hb hN
  obtain ⟨z, hzd⟩ : ∃ z, z = zz n := ⟨_, rfl⟩
  rw [← hzd] at HMk E3 E4 hz
  have HZd := Lib.hid hzd
  clear hzd
  go_enter Try.func44, Try.ntmps44
  go_wp2_with fail
  refine (HJ.out w).mono ?_
  rintro e w3 ⟨rfl, hb3⟩
  obtain ⟨nb, hnb⟩ : ∃ nb, nb = w3.heap.size := ⟨_, rfl⟩
  obtain ⟨W4, hW4⟩ : ∃ W4, W4 = (w3.alloc (.cells z16 23)).setCells nb 0 (kl 0 n) := ⟨_, rfl⟩
  have T3 : Hid ((w3.alloc (.cells z16 23)).there nb 0 16) := Lib.hid (by rw [hnb]; exact (Row.zeros w3 23).there)
  have B34 : Below w3.heap.size w3 W4 := by rw [hW4, hnb]; exact below_setCells _ _ _ _ ((Below.refl _ _).alloc (Nat.le_refl _) _) (Nat.le_refl _)
  have B4 : Hid (Below w.heap.size w W4) := Lib.hid (hb3.trans (B34.mono hb3.size))
  have K4 : Hid (KeyAt W4 nb 0 n) := Lib.hid (by rw [hW4]; exact KeyAt.stored T3.out 0 n)
  have S4 : Hid (w.heap.size ≤ W4.heap.size) := Lib.hid (B4.out.size)
  have Y4 : Hid (Byt W4 A n c g) := Lib.hid (HY.out.keep B4.out)
  have HNB := Lib.hid hnb
  have HW4 := Lib.hid hW4
  clear hb3 hW4 hnb B34
  go_wp2_with (refine wpList_store_key rfl _ _ rfl w3.heap.size 0 n rfl rfl (by rw [← HNB.out]; exact T3.out) ?_; rw [← HNB.out, ← HW4.out])
  refine wp_region_inv (by kernel_rfl) (by kernel_rfl) (fun l a w' => ∃ (g1 g3 g5 : Nat) (v : Value), a = { tmps := #[Value.slice A n c, undef, bif l 7 then v else Value.slice none 0 0, Value.int .i64 (rs : Int), Value.int .i64 (z : Int), Value.pointer (some ⟨nb, 0, none⟩), Value.slice A n c, Value.int .i64 (n : Int), Value.int .i64 (n + 1 : Int), Value.int .i64 (n + 1 + 8 : Int), Value.int .i64 (rs : Int), Value.int .i64 (rs : Int), Value.int .i64 (16 - rs : Int), Value.int .i64 (z : Int), Value.slice A n c, Value.int .i64 (n : Int), Value.int .u64 (n : Int), Value.agg (kl 0 n).toArray, bif l 0 then Value.slice A n c else undef, bif l 1 then Value.slice (some ⟨g1, 0, none⟩) 1 1 else undef, bif l 2 then Value.int .i64 (z : Int) else undef, bif l 3 then Value.slice (some ⟨g3, 0, none⟩) z z else undef, bif l 4 then Value.slice (some ⟨nb, 8, none⟩) 8 8 else undef, bif l 5 then Value.slice (some ⟨g5, 0, none⟩) 4 4 else undef, bif l 6 then v else undef], defers := [] } ∧ Below W4.heap.size W4 w' ∧ (l 1 = true → Byt w' (some ⟨g1, 0, none⟩) 1 1 (fun _ => 128)) ∧ (l 3 = true → Byt w' (some ⟨g3, 0, none⟩) z z (fun _ => 0)) ∧ (l 5 = true → (w'.cell? ⟨g5, 0, none⟩ = some (.slice A n c) ∧ w'.cell? ⟨g5, 1, none⟩ = some (.slice (some ⟨g1, 0, none⟩) 1 1) ∧ w'.cell? ⟨g5, 2, none⟩ = some (.slice (some ⟨g3, 0, none⟩) z z) ∧ w'.cell? ⟨g5, 3, none⟩ = some (.slice (some ⟨nb, 8, none⟩) 8 8))) ∧ (l 6 = true → w'.ownsRow W4.heap.size 5 1 v (pdl n) (bl ((List.range (pdl n)).map (pdb g n)))) ∧ (l 5 = true → l 1 = true) ∧ (l 5 = true → l 3 = true) ∧ (l 6 = true → l 5 = true) ∧ (l 7 = true → l 6 = true)) ⟨0, 0, 0, undef, rfl, (Below.refl _ _).drew, (fun h => by cases h), (fun h => by cases h), (fun h => by cases h), (fun h => by cases h), (fun h => by cases h), (fun h => by cases h), (fun h => by cases h), (fun h => by cases h)⟩ ?_ ?_
  · rintro l a w' i ⟨g1, g3, g5, v, rfl, hB, f1, f3, f5, f6, o0, o1, o2, o3⟩ hi hli hpre
    have hi2 : i < 8 := hi
    have hcase : i = 0 ∨ i = 1 ∨ i = 2 ∨ i = 3 ∨ i = 4 ∨ i = 5 ∨ i = 6 ∨ i = 7 := by omega
    clear hi hi2
    rcases hcase with rfl | rfl | rfl | rfl | rfl | rfl | rfl | rfl
    · -- 0: Op.move (Operand.tmp 0)
      refine wpOp_step rfl (fun K hK => ?_)
      clear hpre
      rw [if_pos (by rfl)]
      go_simp
      exact hK _ _ ⟨g1, g3, g5, v, by simp [upd, Act.put], hB, (fun e => f1 (by simpa [upd] using e)), (fun e => f3 (by simpa [upd] using e)), (fun e => f5 (by simpa [upd] using e)), (fun e => f6 (by simpa [upd] using e)), (by first | (simp [upd]; done) | simpa [upd] using o0), (by first | (simp [upd]; done) | simpa [upd] using o1), (by first | (simp [upd]; done) | simpa [upd] using o2), (by first | (simp [upd]; done) | simpa [upd] using o3)⟩
    · -- 1: Op.buildSlice 26 1 #[(0, Operand.const (Value.int 
      refine wpOp_step rfl (fun K hK => ?_)
      have n5 : l 5 = false := by cases h : l 5; rfl; exact absurd (o0 h) (by rw [hli]; decide)
      have n6 : l 6 = false := by cases h : l 6; rfl; exact absurd (o2 h) (by rw [n5]; decide)
      simp only [n5, n6, cond_true, cond_false]
      clear hpre
      rw [if_pos (by rfl)]
      have hA : Below w'.heap.size w' (w'.alloc (.cells #[.int .u8 128] 5)) := (Below.refl _ _).alloc (Nat.le_refl _) _
      go_simp
      exact hK _ _ ⟨w'.heap.size, g3, g5, v, by simp [upd, Act.put, n5, n6], hB.trans (hA.mono hB.size), (fun _ => one_byt w'), (fun e => (f3 (by simpa [upd] using e)).keep hA), (fun e => absurd e (by simp [upd, n5])), (fun e => absurd e (by simp [upd, n6])), (by first | (simp [upd, n5, n6]; done) | simpa [upd, n5, n6] using o0), (by first | (simp [upd, n5, n6]; done) | simpa [upd, n5, n6] using o1), (by first | (simp [upd, n5, n6]; done) | simpa [upd, n5, n6] using o2), (by first | (simp [upd, n5, n6]; done) | simpa [upd, n5, n6] using o3)⟩
    · -- 2: Op.move (Operand.tmp 4)
      refine wpOp_step rfl (fun K hK => ?_)
      clear hpre
      rw [if_pos (by rfl)]
      go_simp
      exact hK _ _ ⟨g1, g3, g5, v, by simp [upd, Act.put], hB, (fun e => f1 (by simpa [upd] using e)), (fun e => f3 (by simpa [upd] using e)), (fun e => f5 (by simpa [upd] using e)), (fun e => f6 (by simpa [upd] using e)), (by first | (simp [upd]; done) | simpa [upd] using o0), (by first | (simp [upd]; done) | simpa [upd] using o1), (by first | (simp [upd]; done) | simpa [upd] using o2), (by first | (simp [upd]; done) | simpa [upd] using o3)⟩
    · -- 3: Op.makeSlice 26 (Operand.tmp 20) (Operand.tmp 20)
      have p2 : l 2 = true := hpre _ rfl ⟨2, .data⟩ (by simp) rfl
      refine wpOp_step rfl (fun K hK => ?_)
      have n5 : l 5 = false := by cases h : l 5; rfl; exact absurd (o1 h) (by rw [hli]; decide)
      have n6 : l 6 = false := by cases h : l 6; rfl; exact absurd (o2 h) (by rw [n5]; decide)
      simp only [p2, n5, n6, cond_true, cond_false]
      clear hpre
      rw [if_pos (by rfl)]
      have hA : Below w'.heap.size w' (w'.alloc (.cells (madeCells (Value.int .u8 0).cells z) 5)) := (Below.refl _ _).alloc (Nat.le_refl _) _
      have z1 := HMk.out w'
      go_simp
      exact hK _ _ ⟨g1, w'.heap.size, g5, v, by simp [upd, Act.put, p2, n5, n6], hB.trans (hA.mono hB.size), (fun e => (f1 (by simpa [upd] using e)).keep hA), (fun _ => made_byt w' z hz), (fun e => absurd e (by simp [upd, n5])), (fun e => absurd e (by simp [upd, n6])), (by first | (simp [upd, p2, n5, n6]; done) | simpa [upd, p2, n5, n6] using o0), (by first | (simp [upd, p2, n5, n6]; done) | simpa [upd, p2, n5, n6] using o1), (by first | (simp [upd, p2, n5, n6]; done) | simpa [upd, p2, n5, n6] using o2), (by first | (simp [upd, p2, n5, n6]; done) | simpa [upd, p2, n5, n6] using o3)⟩
    · -- 4: Op.slice 23 (Operand.tmp 5) (some (Operand.const (
      refine wpOp_step rfl (fun K hK => ?_)
      clear hpre
      rw [if_pos (by rfl)]
      go_simp
      exact hK _ _ ⟨g1, g3, g5, v, by simp [upd, Act.put], hB, (fun e => f1 (by simpa [upd] using e)), (fun e => f3 (by simpa [upd] using e)), (fun e => f5 (by simpa [upd] using e)), (fun e => f6 (by simpa [upd] using e)), (by first | (simp [upd]; done) | simpa [upd] using o0), (by first | (simp [upd]; done) | simpa [upd] using o1), (by first | (simp [upd]; done) | simpa [upd] using o2), (by first | (simp [upd]; done) | simpa [upd] using o3)⟩
    · -- 5: Op.buildSlice 90 4 #[(0, Operand.tmp 18), (1, Oper
      have p0 : l 0 = true := hpre _ rfl ⟨0, .data⟩ (by simp) rfl
      have p1 : l 1 = true := hpre _ rfl ⟨1, .data⟩ (by simp) rfl
      have p3 : l 3 = true := hpre _ rfl ⟨3, .data⟩ (by simp) rfl
      have p4 : l 4 = true := hpre _ rfl ⟨4, .data⟩ (by simp) rfl
      refine wpOp_step rfl (fun K hK => ?_)
      have n6 : l 6 = false := by cases h : l 6; rfl; exact absurd (o2 h) (by rw [hli]; decide)
      simp only [p0, p1, p3, p4, n6, cond_true, cond_false]
      clear hpre
      rw [if_pos (by rfl)]
      obtain ⟨cs4, hcs4⟩ : ∃ cs4 : Array Value, cs4 = #[.slice A n c, .slice (some ⟨g1, 0, none⟩) 1 1, .slice (some ⟨g3, 0, none⟩) z z, .slice (some ⟨nb, 8, none⟩) 8 8] := ⟨_, rfl⟩
      have hA : Below w'.heap.size w' (w'.alloc (.cells cs4 26)) := (Below.refl _ _).alloc (Nat.le_refl _) _
      have hc4 : ∀ k u, cs4[k]? = some u → (w'.alloc (.cells cs4 26)).cell? ⟨w'.heap.size, k, none⟩ = some u := fun k u hu => by rw [cell_of_row _ _ k _ 26 _ (heap_alloc_new w' _)]; exact hu
      go_simp
      subst hcs4
      exact hK _ _ ⟨g1, g3, w'.heap.size, v, by simp [upd, Act.put, p0, p1, p3, p4, n6], hB.trans (hA.mono hB.size), (fun e => (f1 (by simpa [upd] using e)).keep hA), (fun e => (f3 (by simpa [upd] using e)).keep hA), (fun _ => ⟨hc4 0 _ rfl, hc4 1 _ rfl, hc4 2 _ rfl, hc4 3 _ rfl⟩), (fun e => absurd e (by simp [upd, n6])), (by first | (simp [upd, p0, p1, p3, p4, n6]; done) | simpa [upd, p0, p1, p3, p4, n6] using o0), (by first | (simp [upd, p0, p1, p3, p4, n6]; done) | simpa [upd, p0, p1, p3, p4, n6] using o1), (by first | (simp [upd, p0, p1, p3, p4, n6]; done) | simpa [upd, p0, p1, p3, p4, n6] using o2), (by first | (simp [upd, p0, p1, p3, p4, n6]; done) | simpa [upd, p0, p1, p3, p4, n6] using o3)⟩
    · -- 6: Op.call { callee := Callee.value (Operand.func 69)
      have p5 : l 5 = true := hpre _ rfl ⟨5, .data⟩ (by simp) rfl
      refine wpOp_step rfl (fun K hK => ?_)
      have n7 : l 7 = false := by cases h : l 7; rfl; exact absurd (o3 h) (by rw [hli]; decide)
      have p1 : l 1 = true := o0 p5
      have p3 : l 3 = true := o1 p5
      simp only [p5, n7, p1, p3, cond_true, cond_false]
      clear hpre
      rw [if_pos (by rfl)]
      obtain ⟨q0, q1, q2, q3⟩ := f5 p5
      have y0 : Byt w' A n c g := Y4.out.keep hB
      have y3 : Byt w' (some ⟨nb, 8, none⟩) 8 8 (fun j => kby 0 n (8 + j)) := ⟨Nat.le_refl _, by simp [maxLen], fun _ => kby_lt _ _ _, fun _ => ⟨nb, 8, rfl, fun i hi => (K4.out.keep hB).cell (8 + i) (by omega)⟩⟩
      go_simp
      refine (concat4 g5 A n c g z g1 g3 nb w' (by rw [HZd.out]) q0 q1 q2 q3 y0 (f1 p1) (f3 p3) y3 hpl0 hpl HT.out HC4.out).mono ?_
      rintro e w5 ⟨v5, rfl, hb5, ho5⟩
      exact hK _ _ ⟨g1, g3, g5, v5, by simp [upd, Act.put, p5, n7, p1, p3], hB.trans (hb5.mono hB.size), (fun e => (f1 (by simpa [upd] using e)).keep hb5), (fun e => (f3 (by simpa [upd] using e)).keep hb5), (fun e => cell4_keep (f5 (by simpa [upd] using e)) hb5), (fun _ => own_mono ho5 hB.size), (by first | (simp [upd, p5, n7, p1, p3]; done) | simpa [upd, p5, n7, p1, p3] using o0), (by first | (simp [upd, p5, n7, p1, p3]; done) | simpa [upd, p5, n7, p1, p3] using o1), (by first | (simp [upd, p5, n7, p1, p3]; done) | simpa [upd, p5, n7, p1, p3] using o2), (by first | (simp [upd, p5, n7, p1, p3]; done) | simpa [upd, p5, n7, p1, p3] using o3)⟩
    · -- 7: Op.assign (Operand.tmp 24)
      have p6 : l 6 = true := hpre _ rfl ⟨6, .data⟩ (by simp) rfl
      have p0 : l 0 = true := hpre _ rfl ⟨0, .phase⟩ (by simp) rfl
      have p1 : l 1 = true := hpre _ rfl ⟨1, .phase⟩ (by simp) rfl
      have p2 : l 2 = true := hpre _ rfl ⟨2, .phase⟩ (by simp) rfl
      have p3 : l 3 = true := hpre _ rfl ⟨3, .phase⟩ (by simp) rfl
      have p4 : l 4 = true := hpre _ rfl ⟨4, .phase⟩ (by simp) rfl
      have p5 : l 5 = true := hpre _ rfl ⟨5, .phase⟩ (by simp) rfl
      refine wpOp_step rfl (fun K hK => ?_)
      simp only [p6, p0, p1, p2, p3, p4, p5, cond_true, cond_false]
      clear hpre
      rw [if_pos (by rfl)]
      go_simp
      exact hK _ _ ⟨g1, g3, g5, v, by simp [upd, Act.put, p6, p0, p1, p2, p3, p4, p5], hB, (fun e => f1 (by simpa [upd] using e)), (fun e => f3 (by simpa [upd] using e)), (fun e => f5 (by simpa [upd] using e)), (fun e => f6 (by simpa [upd] using e)), (by first | (simp [upd, p6, p0, p1, p2, p3, p4, p5]; done) | simpa [upd, p6, p0, p1, p2, p3, p4, p5] using o0), (by first | (simp [upd, p6, p0, p1, p2, p3, p4, p5]; done) | simpa [upd, p6, p0, p1, p2, p3, p4, p5] using o1), (by first | (simp [upd, p6, p0, p1, p2, p3, p4, p5]; done) | simpa [upd, p6, p0, p1, p2, p3, p4, p5] using o2), (by first | (simp [upd, p6, p0, p1, p2, p3, p4, p5]; done) | simpa [upd, p6, p0, p1, p2, p3, p4, p5] using o3)⟩
  · rintro l a w9 hall ⟨g1, g3, g5, v, rfl, hBz, _, _, _, f6, _, _, _, _⟩
    simp only [hall 0 (by decide), hall 1 (by decide), hall 2 (by decide), hall 3 (by decide), hall 4 (by decide), hall 5 (by decide), hall 6 (by decide), hall 7 (by decide), cond_true]
    have hOz := f6 (hall 6 (by decide))
    clear hall f6
    go_wp2_with fail
    go_ret
    exact ⟨v, rfl, B4.out.trans (hBz.mono S4.out), own_mono hOz S4.out⟩
end Go.Proofs.Ytphhppdokdageaa
