/-
  Stream: its contract.
-/
import Derived.Test.YtphhppdokdageaaStrA
import Derived.Test.YtphhppdokdageaaFldD
import Derived.Laws.MakeOwn
import Derived.Deep.AppendSrc
namespace Go.Proofs.Ytphhppdokdageaa
open Go.RowKit Go.Shelf SP
attribute [local go_sem] Oper.semAt_some
set_option linter.unusedSimpArgs false
set_option linter.unusedVariables false

set_option maxRecDepth 100000 in
set_option maxHeartbeats 1000000 in
theorem stream_no (X Y t : Nat) (A : Option Addr) (n c : Nat) (w : World) (hn : 16384 < n) :
    Calls Try.prog 20 #[.agg (kl X Y).toArray, .int .u64 (t : Int), .slice A n c] w fun e w' => e = .returned (.tuple #[.slice none 0 0, .int .i64 4]) ∧ Below w.heap.size w w' := by
  have d1 : decide ((16384 : Int) < (n : Int)) = true := decide_eq_true (by omega)
  have d2 : ((16384 : Int) < (n : Int)) := by omega
  go_enter Try.func20, Try.ntmps20
  go_wp2
  go_ret2
  exact ⟨rfl, ((Below.refl _ _).alloc (Nat.le_refl _) _).alloc (by simp) _⟩

set_option maxRecDepth 100000 in
set_option maxHeartbeats 4000000 in
theorem stream_pos (X Y t : Nat) (b off n c : Nat) (g : Nat → Nat) (w : World) (hX : X < M) (hY : Y < M) (ht : t < M) (hg : ∀ i, g i < 256) (hn0 : 0 < n) (hn2 : n ≤ 16384) (hn : n ≤ c) (hc : c ≤ maxLen) (hcell : ∀ i, i < n → w.cell? ⟨b, off + i, none⟩ = some (.int .u8 (g i : Int))) :
    Calls Try.prog 20 #[.agg (kl X Y).toArray, .int .u64 (t : Int), .slice (some ⟨b, off, none⟩) n c] w fun e w' => ∃ v, e = .returned (.tuple #[v, .int .i64 0]) ∧ Below w.heap.size w w' ∧ w'.ownsRow (w.heap.size + 2) 5 1 v n (bl ((List.range n).map (smb X Y t g))) := by
  obtain ⟨i0, hi, hz0, hz1, hz2⟩ := info_parts info5
  have HP := Lib.hid (And.intro hX (And.intro hY ht))
  have HG := Lib.hid hg
  have HI := Lib.hid (And.intro hi (And.intro hz0 (And.intro hz1 hz2)))
  obtain ⟨n0, hn0'⟩ : ∃ n0, n0 = w.heap.size := ⟨_, rfl⟩
  have hbn : b < n0 := by rw [hn0']; exact World.block_lt_of_cell? w ⟨b, off + 0, none⟩ (hcell 0 hn0)
  have hmk : ∀ w : World, (Instr.makeSlice 26 (.int .i64 0) (.int .i64 (n : Int))).run Try.prog w = .ok (.slice (some ⟨w.heap.size, 0, none⟩) 0 n) (w.alloc (.cells (madeCells (Value.int .u8 0).cells n) 5)) := fun w => by
    have h := run_make (P := Try.prog) w 26 5 i0 _ Try.underlying26 hi hz0 .i64 .i64 0 (n : Int) (by omega) (by omega) (by rw [hz2]; omega) (by omega)
    rw [hz1, Nat.mul_one] at h
    exact h
  obtain ⟨W1, hW1⟩ : ∃ W1, W1 = (w.alloc (.cells (kl X Y).toArray 23)).alloc (.cells #[.int .u64 (t : Int)] 30) := ⟨_, rfl⟩
  obtain ⟨W2, hW2⟩ : ∃ W2, W2 = W1.alloc (.cells (madeCells (Value.int .u8 0).cells n) 5) := ⟨_, rfl⟩
  obtain ⟨W3, hW3⟩ : ∃ W3, W3 = W2.alloc (.cells #[.slice (some ⟨n0 + 2, 0, none⟩) 0 n] 26) := ⟨_, rfl⟩
  obtain ⟨W4, hW4⟩ : ∃ W4, W4 = W3.alloc (.cells #[.int .u64 0] 30) := ⟨_, rfl⟩
  have s1 : W1.heap.size = n0 + 2 := by rw [hW1, hn0']; simp
  have s2 : W2.heap.size = n0 + 3 := by rw [hW2]; simp [s1]
  have s3 : W3.heap.size = n0 + 4 := by rw [hW3]; simp [s2]
  have s4 : W4.heap.size = n0 + 5 := by rw [hW4]; simp [s3]
  have b1 : Below n0 w W1 := by rw [hW1, hn0']; exact ((Below.refl _ _).alloc (Nat.le_refl _) _).alloc (by simp) _
  have b12 : Below (n0 + 2) W1 W2 := by rw [hW2, ← s1]; exact (Below.refl _ _).alloc (Nat.le_refl _) _
  have b23 : Below (n0 + 3) W2 W3 := by rw [hW3]; exact (Below.refl _ _).alloc (by rw [s2]; exact Nat.le_refl _) _
  have b34 : Below (n0 + 4) W3 W4 := by rw [hW4]; exact (Below.refl _ _).alloc (by rw [s3]; exact Nat.le_refl _) _
  have kk : KeyAt W1 n0 X Y := by rw [hW1, hn0']; exact (KeyAt.new w X Y 23).alloc _
  have bt : Box W1 (n0 + 1) (.int .u64 (t : Int)) 30 := by
    have h := Box.new (w.alloc (.cells (kl X Y).toArray 23)) (.int .u64 (t : Int)) 30
    rw [World.size_alloc] at h
    rw [hW1, hn0']; exact h
  have ow : W2.ownsRow (n0 + 2) 5 1 (.slice (some ⟨n0 + 2, 0, none⟩) 0 n) 0 [] :=
    ⟨rfl, .inr ⟨n0 + 2, n, madeCells (Value.int .u8 0).cells n, rfl, Nat.le_refl _, by rw [hW2, ← s1]; exact heap_alloc_new W1 _, Nat.zero_le _, by unfold maxLen; omega, by rw [size_madeCells]; simp, by simp⟩⟩
  have bs : Box W3 (n0 + 3) (.slice (some ⟨n0 + 2, 0, none⟩) 0 n) 26 := by
    have h := (Box.new W2 (.slice (some ⟨n0 + 2, 0, none⟩) 0 n) 26)
    rw [s2] at h
    rw [hW3]; exact h
  have bc : Box W4 (n0 + 4) (.int .u64 ((0 : Nat) : Int)) 30 := by
    have h := (Box.new W3 (.int .u64 0) 30)
    rw [s3] at h
    rw [hW4]; exact h
  have b24 : Below (n0 + 3) W2 W4 := b23.trans (b34.mono (by omega))
  have b14 : Below (n0 + 2) W1 W4 := b12.trans (b24.mono (by omega))
  have hb4 : Below n0 w W4 := b1.trans (b14.mono (by omega))
  have kk4 : KeyAt W4 n0 X Y := kk.below b14 (by omega)
  have bt4 : Box W4 (n0 + 1) (.int .u64 (t : Int)) 30 := bt.below b14 (by omega)
  have ow4 : W4.ownsRow (n0 + 2) 5 1 (.slice (some ⟨n0 + 2, 0, none⟩) 0 n) 0 [] := own_below ow (b24.mono (by rw [s2]; exact Nat.le_refl _))
  have bs4 : Box W4 (n0 + 3) (.slice (some ⟨n0 + 2, 0, none⟩) 0 n) 26 := bs.below b34 (by omega)
  have HS4 := Lib.hid s4
  have HW1 := Lib.hid hW1
  have HW2 := Lib.hid hW2
  have HW3 := Lib.hid hW3
  have HW4 := Lib.hid hW4
  have HN := Lib.hid hn0'
  have F4 := Lib.hid (And.intro hb4 (And.intro kk4 (And.intro bt4 (And.intro ow4 (And.intro bs4 bc)))))
  have S123 := Lib.hid (And.intro s1 (And.intro s2 s3))
  have HCELL := Lib.hid hcell
  have d1 : decide ((16384 : Int) < (n : Int)) = false := decide_eq_false (by omega)
  have d2 : ¬ ((16384 : Int) < (n : Int)) := by omega
  clear hW1 hW2 hW3 hW4 s1 s2 s3 s4 b1 b12 b23 b34 kk bt ow bs bc b24 b14 hb4 kk4 bt4 ow4 bs4 hX hY ht hcell hi hz0 hz1 hz2 hg hn0'
  refine (callsIn_wide (n := 4)).1 (callsIn_of_wp_marks Try.func20 rfl trivial ?_ rfl)
  simp only [Try.ntmps20, List.size_toArray, List.length_cons, List.length_nil, Nat.reduceAdd, Nat.reduceSub, Array.replicate_succ, Array.replicate_zero, List.push_toArray, List.append_toArray, List.nil_append, List.cons_append]
  refine wpIn_wide.2 ?_
  have mk1 := hmk W1
  rw [← HW2.out, S123.out.1] at mk1
  rw [HW1.out] at mk1
  clear hmk
  go_wp2_with fail
  rw [← HW3.out, ← HW4.out]
  refine (chunk_any (some ⟨b, off, none⟩) n c W4).mono ?_
  rintro e w' ⟨rfl, rfl⟩
  rw [← HN.out, S123.out.2.1]
  obtain ⟨B, hB⟩ : ∃ B, B = W4.heap.size := ⟨_, rfl⟩
  rw [← hB]
  obtain ⟨W5, hW5⟩ : ∃ W5, W5 = (W4.alloc (.cells #[.slice (some ⟨b, off, none⟩) n c] 26)).alloc (.cells #[.int .i64 16] 3) := ⟨_, rfl⟩
  rw [← hW5]
  have hBn : B = n0 + 5 := by rw [hB, HS4.out]
  have q1 := Box.new W4 (.slice (some ⟨b, off, none⟩) n c) 26
  have q2 := Box.new (W4.alloc (.cells #[.slice (some ⟨b, off, none⟩) n c] 26)) (.int .i64 16) 3
  rw [World.size_alloc] at q2
  have hb5 : Below B W4 W5 := by rw [hW5, hB]; exact ((Below.refl _ _).alloc (Nat.le_refl _) _).alloc (by simp) _
  have hb6 : Below (B + 1) (W4.alloc (.cells #[.slice (some ⟨b, off, none⟩) n c] 26)) W5 := by rw [hW5, hB]; exact (Below.refl _ _).alloc (by simp) _
  rw [← hB] at q1 q2
  have g1 : Box W5 B (.slice (some ⟨b, off, none⟩) n c) 26 := q1.below hb6 (by omega)
  have g2 : Box W5 (B + 1) (.int .i64 16) 3 := by rw [hW5]; exact q2
  have hS5 : W5.heap.size = B + 2 := by rw [hW5, hB]; simp
  obtain ⟨hb4, kk4, bt4, ow4, bs4, bc4⟩ := F4.out
  have hr1 : KeyAt W5 n0 X Y := kk4.below hb5 (by omega)
  have ht5 : Box W5 (n0 + 1) (.int .u64 (t : Int)) 30 := bt4.below hb5 (by omega)
  have ho5 : W5.ownsRow (n0 + 2) 5 1 (.slice (some ⟨n0 + 2, 0, none⟩) 0 n) 0 [] := own_below ow4 (hb5.mono (by rw [HS4.out]; omega))
  have hs5 : Box W5 (n0 + 3) (.slice (some ⟨n0 + 2, 0, none⟩) 0 n) 26 := bs4.below hb5 (by omega)
  have hc5 : Box W5 (n0 + 4) (.int .u64 ((0 : Nat) : Int)) 30 := bc4.below hb5 (by omega)
  have hb05 : Below n0 w W5 := hb4.trans (hb5.mono (by omega))
  have HBn := Lib.hid hBn
  have HS5 := Lib.hid hS5
  have hch := chunk_stops 3 (by omega) b off n c B W5 (by omega) hn hc g1.cell g2.cell
  have H5 := Lib.hid (And.intro hr1 ht5)
  clear hW5 hB q1 q2 hb5 hb6 hBn hr1 ht5 hb4 kk4 bt4 ow4 bs4 bc4 F4 S123 HW1 HW2 HW3 HW4 mk1
  go_wp2_with fail
  refine (wpIn_wide (n := 4)).1 ?_
  have hI0 : (∃ v, W5.ownsRow (n0 + 2) 5 1 v (stl X Y t g n []).1.length (bl (stl X Y t g n []).1) ∧ Box W5 (n0 + 3) v 26 ∧ Box W5 (n0 + 4) (.int .u64 (((stl X Y t g n []).2 : Nat) : Int)) 30 ∧ Box W5 B (.slice (some ⟨b, off, none⟩) n c) 26 ∧ Box W5 (B + 1) (.int .i64 16) 3) ∧ Below (n0 + 2) W5 W5 := ⟨⟨_, ho5, hs5, hc5, g1, g2⟩, Below.refl _ _⟩
  clear ho5 hs5 hc5 g1 g2
  refine wpIn_rangeFunc_ownF rfl (n := 4) (by omega) (gf := 68) (lb := #[.pointer (some ⟨B, 0, none⟩), .pointer (some ⟨B + 1, 0, none⟩)]) rfl trivial (enters_of Try.func68 (by kernel_rfl) rfl)
    hch (fun h k => ⟨k.1.trans h.1, k.2.trans h.2⟩) (fun W l o o' hl _ _ _ => ⟨World.putObj_heap_other (by rw [HS5.out] at hl; omega), World.putObj_heap_other (by rw [HS5.out] at hl; omega)⟩) (Below.refl _ _) (fun _ => rfl)
    (fun pre W => (∃ v, W.ownsRow (n0 + 2) 5 1 v (stl X Y t g n pre).1.length (bl (stl X Y t g n pre).1) ∧ Box W (n0 + 3) v 26 ∧ Box W (n0 + 4) (.int .u64 (((stl X Y t g n pre).2 : Nat) : Int)) 30 ∧ Box W B (.slice (some ⟨b, off, none⟩) n c) 26 ∧ Box W (B + 1) (.int .i64 16) 3) ∧ Below (n0 + 2) W5 W)
    (fun _ _ _ => False)
    (OwnFrom.and (Own.from (fun s A B' row hs hg hr => by
      obtain ⟨v, h1, h2, h3, h4, h5⟩ := hs
      exact ⟨v, h1.kept hg (own_notrow h1 hr), h2.kept hg hr, h3.kept hg hr, h4.kept hg hr, h5.kept hg hr⟩) _) (ownFrom_below (by rw [HS5.out, HBn.out]; omega) (by rw [HS5.out, HBn.out]; omega)))
    (fun _ _ _ _ _ hs _ _ => hs)
    hI0
    (fun x => { tmps := #[Value.agg (kl X Y).toArray, Value.int .u64 (t : Int), Value.slice (some ⟨b, off, none⟩) n c, Value.pointer (some ⟨n0, 0, none⟩), Value.pointer (some ⟨n0 + 1, 0, none⟩), undef, Value.slice none 0 0, Value.int .i64 (0 : Int), Value.pointer (some ⟨n0 + 3, 0, none⟩), Value.pointer (some ⟨n0 + 3 + 1, 0, none⟩), Value.slice (some ⟨b, off + 16 * x.1, none⟩) (pln n x.1) (pln n x.1), undef, undef, undef, Value.slice (some ⟨b, off, none⟩) n c, Value.int .i64 (n : Int), Value.bool false, Value.slice (some ⟨b, off, none⟩) n c, Value.int .i64 (n : Int), Value.slice (some ⟨n0 + 2, 0, none⟩) 0 n, Value.slice (some ⟨b, off, none⟩) n c, Value.func (Fn.func 68) #[] #[Value.pointer (some ⟨B, 0, none⟩), Value.pointer (some ⟨B + 1, 0, none⟩)], Value.slice (some ⟨b, off + 16 * x.1, none⟩) (pln n x.1) (pln n x.1), undef, undef, undef, undef, undef, undef, undef, undef, undef, undef, undef, undef, undef, undef, undef, undef, undef, undef, undef, undef, undef, undef, undef, undef], defers := [] }) ?assign ?body ?done ?stop
  case assign =>
    intro l x W K hK
    unfold pencs
    gi_wp2
    exact hK
  case body =>
    rintro l pre x W ⟨⟨v, h1, h2, h3, h4, h5⟩, hBl⟩ hlen
    obtain ⟨hl1, hl2⟩ := stl_len X Y t g n pre.length pre rfl
    have hsn := stl_snoc X Y t g n pre x
    obtain ⟨L, hL⟩ : ∃ L, L = (stl X Y t g n pre).1 := ⟨_, rfl⟩
    obtain ⟨cn, hcn⟩ : ∃ cn, cn = (stl X Y t g n pre).2 := ⟨_, rfl⟩
    rw [← hL] at h1 hl2 hsn
    rw [← hcn] at h3 hl1 hsn
    have hcn7 : cn < 70000 := by rw [hl1]; unfold cnt at hlen; omega
    have hL7 : L.length < 1200000 := by unfold cnt at hlen; omega
    obtain ⟨p, hp⟩ : ∃ p, p = pln n x.1 := ⟨_, rfl⟩
    obtain ⟨q, hq⟩ : ∃ q, q = off + 16 * x.1 := ⟨_, rfl⟩
    rw [← hp, ← hq]
    rw [← hp] at hsn
    have hp16 : p ≤ 16 := by rw [hp]; unfold pln; omega
    have hpn : 16 * x.1 + p ≤ n := by have := x.2; rw [hp]; unfold pln; omega
    obtain ⟨xk, hxk⟩ : ∃ xk, xk = x.1 := ⟨_, rfl⟩
    rw [← hxk] at hpn hq hsn
    have hnW : n0 + 7 ≤ W.heap.size := by have := hBl.size; rw [HS5.out, HBn.out] at this; omega
    have kW : KeyAt W n0 X Y := H5.out.1.below hBl (by omega)
    have tW : Box W (n0 + 1) (.int .u64 (t : Int)) 30 := H5.out.2.below hBl (by omega)
    have htg := fun w => tagged_any 1 cn t w (by decide) (by omega)
    have hen := fun w => encrypt_any X Y (1 * 72057594037927936 + cn) t w HP.out.1 HP.out.2.1 (by unfold M; omega) HP.out.2.2
    have hmk2 : enc X Y (1 * 72057594037927936 + cn) t = msk X Y t cn := by unfold msk; rw [Nat.one_mul]
    rw [hmk2] at hen
    obtain ⟨P, hP⟩ : ∃ P, P = (msk X Y t cn).1 := ⟨_, rfl⟩
    obtain ⟨Q, hQ⟩ : ∃ Q, Q = (msk X Y t cn).2 := ⟨_, rfl⟩
    rw [← hP, ← hQ] at hen
    obtain ⟨tg, htgd⟩ : ∃ tg, tg = 1 * 72057594037927936 + cn := ⟨_, rfl⟩
    rw [← htgd] at htg hen
    have HT := Lib.hid htg
    have HE := Lib.hid hen
    have HKW := Lib.hid kW
    have HTW := Lib.hid tW
    have H1 := Lib.hid h1
    have H2 := Lib.hid h2
    have H3 := Lib.hid h3
    have H45 := Lib.hid (And.intro h4 h5)
    have HBl := Lib.hid hBl
    have HSN := Lib.hid hsn
    have HPQ := Lib.hid (And.intro hP hQ)
    have HXK := Lib.hid hxk
    have HNW := Lib.hid hnW
    have HPx := Lib.hid hp
    have hcW : ∀ W', Below (n0 + 2) W W' → ∀ i, i < p → W'.cell? ⟨b, q + i, none⟩ = some (.int .u8 (g (16 * xk + i) : Int)) := fun W' hb' i hi => by
      have h : ∀ j, j < n → W'.cell? ⟨b, off + j, none⟩ = some (.int .u8 (g j : Int)) := fun j hj => (hb'.cell (p := ⟨b, off + j, none⟩) (by show b < n0 + 2; omega)).trans ((hBl.cell (p := ⟨b, off + j, none⟩) (by show b < n0 + 2; omega)).trans ((hb05.cell (p := ⟨b, off + j, none⟩) hbn).trans (HCELL.out j hj)))
      rw [hq, Nat.add_assoc]
      exact h _ (by omega)
    have HCW := Lib.hid hcW
    clear htg hen htgd hmk2 kW tW h1 h2 h3 h4 h5 hBl hsn hP hQ hL hcn hl1 hl2 hcW hxk hnW hp hq hpn
    gi_wp2_with fail
    refine wpIn_round_inv _ _ (by kernel_rfl) (by rintro ⟨_, _, h⟩; exact h) (by kernel_rfl) (by kernel_rfl) (fun l a w' => ∃ mb : Nat, a = { tmps := #[Value.agg (kl X Y).toArray, Value.int .u64 (t : Int), Value.slice (some ⟨b, off, none⟩) n c, Value.pointer (some ⟨n0, 0, none⟩), Value.pointer (some ⟨n0 + 1, 0, none⟩), undef, Value.slice none 0 0, Value.int .i64 (0 : Int), Value.pointer (some ⟨n0 + 3, 0, none⟩), Value.pointer (some ⟨n0 + 3 + 1, 0, none⟩), Value.slice (some ⟨b, q, none⟩) p p, bif l 5 then Value.pointer (some ⟨mb, 0, none⟩) else undef, undef, undef, Value.slice (some ⟨b, off, none⟩) n c, Value.int .i64 (n : Int), Value.bool false, Value.slice (some ⟨b, off, none⟩) n c, Value.int .i64 (n : Int), Value.slice (some ⟨n0 + 2, 0, none⟩) 0 n, Value.slice (some ⟨b, off, none⟩) n c, Value.func (Fn.func 68) #[] #[Value.pointer (some ⟨B, 0, none⟩), Value.pointer (some ⟨B + 1, 0, none⟩)], Value.slice (some ⟨b, q, none⟩) p p, bif l 0 then Value.agg (kl X Y).toArray else undef, bif l 1 then Value.int .u64 (cn : Int) else undef, bif l 2 then Value.int .u64 (t : Int) else undef, bif l 3 then Value.agg (kl tg t).toArray else undef, bif l 4 then Value.agg (kl P Q).toArray else undef, undef, undef, undef, undef, undef, undef, undef, undef, undef, undef, undef, undef, undef, undef, undef, undef, undef, undef, undef], defers := [] } ∧ Below W.heap.size W w' ∧ (l 5 = true → w'.there mb 0 16 ∧ (W.heap.size ≤ mb ∧ Ty w' mb 23) ∧ (l 6 = true → KeyAt w' mb P Q)) ∧ (l 6 = true → l 5 = true)) ⟨0, rfl, (Below.refl _ _).drew, (fun h => by cases h), (fun h => by cases h)⟩ ?_ ?_
    · rintro l a w' i ⟨mb, rfl, hB, h0, o0⟩ hi hli hpre
      have hi2 : i < 7 := hi
      have hcase : i = 0 ∨ i = 1 ∨ i = 2 ∨ i = 3 ∨ i = 4 ∨ i = 5 ∨ i = 6 := by omega
      clear hi hi2
      rcases hcase with rfl | rfl | rfl | rfl | rfl | rfl | rfl
      · -- 0: Op.load 23 (Operand.tmp 3)
        refine wpOp_step rfl (fun K hK => ?_)
        clear hpre
        rw [if_pos (by rfl)]
        refine wp_load_mid 23 _ rfl _ 0 rfl (kl X Y) _ ((HKW.out).below hB (HKW.out).lt) Try.underlying23 rfl (by rw [kl_len]; exact size23) ?_
        exact hK _ _ ⟨mb, by simp [upd, Act.put], hB, (by simpa [upd] using h0), (by simpa [upd] using o0)⟩
      · -- 1: Op.load 30 (Operand.tmp 9)
        refine wpOp_step rfl (fun K hK => ?_)
        clear hpre
        rw [if_pos (by rfl)]
        have z := (hB.cell (p := ⟨n0 + 3 + 1, 0, none⟩) (H3.out).lt).trans (H3.out).cell
        go_simp
        exact hK _ _ ⟨mb, by simp [upd, Act.put], hB, (by simpa [upd] using h0), (by simpa [upd] using o0)⟩
      · -- 2: Op.load 30 (Operand.tmp 4)
        refine wpOp_step rfl (fun K hK => ?_)
        clear hpre
        rw [if_pos (by rfl)]
        have z := (hB.cell (p := ⟨n0 + 1, 0, none⟩) (HTW.out).lt).trans (HTW.out).cell
        go_simp
        exact hK _ _ ⟨mb, by simp [upd, Act.put], hB, (by simpa [upd] using h0), (by simpa [upd] using o0)⟩
      · -- 3: Op.call { callee := Callee.value (Operand.func 42), args := 
        have p1 : l 1 = true := hpre _ rfl ⟨1, .data⟩ (by simp) rfl
        have p2 : l 2 = true := hpre _ rfl ⟨2, .data⟩ (by simp) rfl
        refine wpOp_step rfl (fun K hK => ?_)
        simp only [p1, p2, cond_true]
        clear hpre
        rw [if_pos (by rfl)]
        go_simp
        refine (HT.out _).mono ?_
        rintro e w5 ⟨rfl, hb5⟩
        exact hK _ _ ⟨mb, by simp [upd, Act.put, p1, p2], hB.trans (hb5.mono hB.size), (fun a => by
            have a' : l 5 = true := by simpa [upd] using a
            obtain ⟨x1, x2, x3⟩ := h0 a'
            exact ⟨there_below x1 hb5 (there_lt x1 (by omega)), ⟨x2.1, x2.2.keep hb5⟩, fun e => (x3 (by simpa [upd] using e)).keep hb5⟩), (by simpa [upd, p1, p2] using o0)⟩
      · -- 4: Op.call { callee := Callee.value (Operand.func 27), args := 
        have p0 : l 0 = true := hpre _ rfl ⟨0, .data⟩ (by simp) rfl
        have p3 : l 3 = true := hpre _ rfl ⟨3, .data⟩ (by simp) rfl
        refine wpOp_step rfl (fun K hK => ?_)
        simp only [p0, p3, cond_true]
        clear hpre
        rw [if_pos (by rfl)]
        go_simp
        refine (HE.out _).mono ?_
        rintro e w5 ⟨rfl, hb5⟩
        exact hK _ _ ⟨mb, by simp [upd, Act.put, p0, p3], hB.trans (hb5.mono hB.size), (fun a => by
            have a' : l 5 = true := by simpa [upd] using a
            obtain ⟨x1, x2, x3⟩ := h0 a'
            exact ⟨there_below x1 hb5 (there_lt x1 (by omega)), ⟨x2.1, x2.2.keep hb5⟩, fun e => (x3 (by simpa [upd] using e)).keep hb5⟩), (by simpa [upd, p0, p3] using o0)⟩
      · -- 5: Op.alloc 23
        refine wpOp_step rfl (fun K hK => ?_)
        clear hpre
        rw [if_pos (by rfl)]
        have hA : Below w'.heap.size w' (w'.alloc (.cells z16 23)) := (Below.refl _ _).alloc (Nat.le_refl _) _
        go_simp
        exact hK _ _ ⟨w'.heap.size, by simp [upd, Act.put], hB.trans (hA.mono hB.size), (fun _ => ⟨(Row.zeros w' 23).there, ⟨hB.size, Ty.new w' z16 23⟩, fun e => by
            have e' : l 6 = true := by simpa [upd] using e
            rw [o0 e'] at hli; cases hli⟩), (fun _ => by simp [upd])⟩
      · -- 6: Op.store 23 (Operand.tmp 11) (Operand.tmp 27)
        have p5 : l 5 = true := hpre _ rfl ⟨5, .data⟩ (by simp) rfl
        have p4 : l 4 = true := hpre _ rfl ⟨4, .data⟩ (by simp) rfl
        have p0 : l 0 = true := hpre _ rfl ⟨0, .phase⟩ (by simp) rfl
        have p1 : l 1 = true := hpre _ rfl ⟨1, .phase⟩ (by simp) rfl
        have p2 : l 2 = true := hpre _ rfl ⟨2, .phase⟩ (by simp) rfl
        have p3 : l 3 = true := hpre _ rfl ⟨3, .phase⟩ (by simp) rfl
        refine wpOp_step rfl (fun K hK => ?_)
        simp only [p5, p4, p0, p1, p2, p3, cond_true]
        clear hpre
        rw [if_pos (by rfl)]
        obtain ⟨x1, x2, _⟩ := h0 p5
        refine wp_store_mid 23 _ _ rfl mb 0 (kl P Q).toArray rfl rfl (by simpa [kl_len] using x1) (by simp [kl_len, size23]) (kl_arr P Q) ?_
        rw [List.toList_toArray]
        exact hK _ _ ⟨mb, by simp [upd, Act.put, p5, p4, p0, p1, p2, p3], below_setCells _ _ _ _ hB x2.1, (fun _ => ⟨World.there_setCells x1 _ _ _, ⟨x2.1, x2.2.setCells _ _ _⟩, fun _ => KeyAt.stored x1 P Q⟩), (fun _ => by simp [upd, p5])⟩
    · rintro l a w9 hall ⟨mb, rfl, hBz, h0, o0⟩
      simp only [hall 0 (by decide), hall 1 (by decide), hall 2 (by decide), hall 3 (by decide), hall 4 (by decide), hall 5 (by decide), cond_true]
      obtain ⟨t0, nn0, k0⟩ := h0 (hall 5 (by decide))
      replace k0 := k0 (hall 6 (by decide))
      clear h0 o0 hall
      have KO9 : Hid (KeepsOthers W w9) := Lib.hid (KeepsOthers.of_below hBz)
      have HM9 : Hid (KeyAt w9 mb P Q ∧ Ty w9 mb 23) := Lib.hid ⟨k0, nn0.2⟩
      have HO9 : Hid (w9.ownsRow (n0 + 2) 5 1 v L.length (bl L)) := Lib.hid (own_below H1.out hBz)
      have H29 : Hid (Box w9 (n0 + 3) v 26) := Lib.hid (H2.out.keep hBz)
      have H39 : Hid (Box w9 (n0 + 4) (.int .u64 (cn : Int)) 30 ∧ Box w9 B (.slice (some ⟨b, off, none⟩) n c) 26 ∧ Box w9 (B + 1) (.int .i64 16) 3) := Lib.hid ⟨H3.out.keep hBz, H45.out.1.keep hBz, H45.out.2.keep hBz⟩
      have HB9 : Hid (Below (n0 + 2) W w9) := Lib.hid (hBz.mono (by have := HNW.out; omega))
      have HMB : Hid (n0 + 7 ≤ mb) := Lib.hid (Nat.le_trans HNW.out nn0.1)
      clear t0 nn0 k0 hBz HKW HTW H1 H2 H3 HT HE
      gi_wp2_with fail
      gi_loopw [30] (fun i wr => ∃ (k : Nat) (v : Value), k ≤ p ∧ i = .int .i64 (k : Int) ∧ Hid (wr.ownsRow (n0 + 2) 5 1 v (L.length + k) (bl (L ++ pby X Y t g cn xk k))) ∧ Hid (Box wr (n0 + 3) v 26) ∧ Hid (Box wr (n0 + 4) (.int .u64 (cn : Int)) 30 ∧ Box wr B (.slice (some ⟨b, off, none⟩) n c) 26 ∧ Box wr (B + 1) (.int .i64 16) 3) ∧ Hid (KeyAt wr mb P Q ∧ Ty wr mb 23) ∧ Hid (Below (n0 + 2) W wr) ∧ Hid (KeepsOthers W wr)) (fun i _ => p - (intOf i).toNat)
      case atStart => exact ⟨0, v, by omega, rfl, Lib.hid (by simpa [pby] using HO9.out), H29, H39, HM9, HB9, KO9⟩
      case round =>
        obtain ⟨k, v', hk, rfl, HO, H2r, H3r, HMr, HBr, HKr⟩ := hrel
        clear HO9 H29 H39 HM9 HB9 KO9
        by_cases hlt : k < p
        · have d3 : decide ((k : Int) < (p : Int)) = true := decide_eq_true (by omega)
          have d4 : decide (k < p) = true := decide_eq_true hlt
          have hk16 : k < 16 := by omega
          have c1 := HCW.out wr HBr.out k hlt
          have hps := pby_snoc X Y t g cn xk k
          have hsy : sby X Y t g cn xk k = g (16 * xk + k) ^^^ kby P Q k := by unfold sby; rw [HPQ.out.1, HPQ.out.2]
          obtain ⟨d, hd⟩ : ∃ d, d = sby X Y t g cn xk k := ⟨_, rfl⟩
          obtain ⟨cg, hcg⟩ : ∃ cg, cg = g (16 * xk + k) := ⟨_, rfl⟩
          have hm := fun (w' : World) (h : KeyAt w' mb P Q) => h.cell k hk16
          obtain ⟨cm, hcm⟩ : ∃ cm, cm = kby P Q k := ⟨_, rfl⟩
          rw [← hd, ← hcg, ← hcm] at hsy
          rw [← hd] at hps
          rw [← hcg] at c1
          rw [← hcm] at hm
          have E1 : Hid (bits .xor .u8 (cg : Int) (cm : Int) = ((d : Nat) : Int)) := Lib.hid (by rw [hsy]; exact xor8_int cg cm (by rw [hcg]; exact HG.out _) (by rw [hcm]; exact kby_lt _ _ _))
          have HC := Lib.hid hm
          have l1 : (0 : Int) ≤ (k : Int) := by omega
          have l2 : (k : Int) < (p : Int) := by omega
          have l3 : (k : Int) < 16 := by omega
          obtain ⟨xs, hxs⟩ : ∃ xs, xs = bl (L ++ pby X Y t g cn xk k) := ⟨_, rfl⟩
          have HX : Hid (bl (L ++ pby X Y t g cn xk (k + 1)) = xs ++ [Value.int .u8 (d : Int)]) := Lib.hid (by rw [hps, hxs]; simp [bl, u8])
          rw [← hxs] at HO
          clear hps hd hcg hcm hm hsy hxs
          gi_wp2_with fail
          refine wpIn_round_inv _ _ (by kernel_rfl) (by rintro ⟨_, _, h⟩; exact h) (by kernel_rfl) (by kernel_rfl) (fun l a w' => ∃ (v2 : Value) (gb : Nat), a = { tmps := #[Value.agg (kl X Y).toArray, Value.int .u64 (t : Int), Value.slice (some ⟨b, off, none⟩) n c, Value.pointer (some ⟨n0, 0, none⟩), Value.pointer (some ⟨n0 + 1, 0, none⟩), undef, Value.slice none 0 0, Value.int .i64 (0 : Int), Value.pointer (some ⟨n0 + 3, 0, none⟩), Value.pointer (some ⟨n0 + 3 + 1, 0, none⟩), Value.slice (some ⟨b, q, none⟩) p p, Value.pointer (some ⟨mb, 0, none⟩), Value.int .i64 (k : Int), Value.int .u8 (cg : Int), Value.slice (some ⟨b, off, none⟩) n c, Value.int .i64 (n : Int), Value.bool false, Value.slice (some ⟨b, off, none⟩) n c, Value.int .i64 (n : Int), Value.slice (some ⟨n0 + 2, 0, none⟩) 0 n, Value.slice (some ⟨b, off, none⟩) n c, Value.func (Fn.func 68) #[] #[Value.pointer (some ⟨B, 0, none⟩), Value.pointer (some ⟨B + 1, 0, none⟩)], Value.slice (some ⟨b, q, none⟩) p p, Value.agg (kl X Y).toArray, Value.int .u64 (cn : Int), Value.int .u64 (t : Int), Value.agg (kl tg t).toArray, Value.agg (kl P Q).toArray, Value.slice (some ⟨b, q, none⟩) p p, Value.int .i64 (p : Int), Value.int .i64 (k : Int), Value.bool true, Value.int .i64 (k : Int), Value.pointer (some ⟨b, q + k, none⟩), Value.int .u8 (cg : Int), bif l 0 then v' else u35, bif l 1 then Value.int .u8 (cg : Int) else u36, bif l 2 then Value.int .i64 (k : Int) else u37, bif l 3 then Value.pointer (some ⟨mb, k, none⟩) else u38, bif l 4 then Value.int .u8 (cm : Int) else u39, bif l 5 then Value.int .u8 (d : Int) else u40, bif l 6 then Value.slice (some ⟨gb, 0, none⟩) 1 1 else u41, bif l 7 then v2 else u42, u43, undef, undef, undef], defers := [] } ∧ Below (n0 + 2) wr w' ∧ KeepsOthers wr w' ∧ (KeyAt w' mb P Q ∧ Ty w' mb 23) ∧ (Box w' (n0 + 4) (.int .u64 (cn : Int)) 30 ∧ Box w' B (.slice (some ⟨b, off, none⟩) n c) 26 ∧ Box w' (B + 1) (.int .i64 16) 3) ∧ (l 7 = false → w'.ownsRow (n0 + 2) 5 1 v' (L.length + k) xs) ∧ (l 7 = true → w'.ownsRow (n0 + 2) 5 1 v2 (L.length + k + 1) (xs ++ [Value.int .u8 (d : Int)])) ∧ (l 8 = false → Box w' (n0 + 3) v' 26) ∧ (l 8 = true → Box w' (n0 + 3) v2 26) ∧ (l 6 = true → l 7 = false → w'.cell? ⟨gb, 0, none⟩ = some (.int .u8 (d : Int))) ∧ (l 7 = true → l 6 = true) ∧ (l 8 = true → l 7 = true) ∧ (l 8 = true → l 0 = true)) ⟨v', 0, rfl, (Below.refl _ _).drew, KeepsOthers.of_below (Below.refl _ _).drew, ⟨HMr.out.1.drew, HMr.out.2⟩, H3r.out, (fun _ => HO.out), (fun h => by cases h), (fun _ => H2r.out), (fun h => by cases h), (fun h => by cases h), (fun h => by cases h), (fun h => by cases h), (fun h => by cases h)⟩ ?_ ?_
          · rintro l a w' i ⟨v2, gb, rfl, hB, hK0, hM, hX, c3, c4, s3, s4, cb, o1, o2, o3⟩ hi hli hpre
            have hi2 : i < 9 := hi
            have hcase : i = 0 ∨ i = 1 ∨ i = 2 ∨ i = 3 ∨ i = 4 ∨ i = 5 ∨ i = 6 ∨ i = 7 ∨ i = 8 := by omega
            clear hi hi2
            rcases hcase with rfl | rfl | rfl | rfl | rfl | rfl | rfl | rfl | rfl
            · -- 0: Op.load 26 (Operand.tmp 8)
              refine wpOp_step rfl (fun K hK => ?_)
              have n8 : l 8 = false := by cases h : l 8; rfl; exact absurd (o3 h) (by rw [hli]; decide)
              simp only [n8, cond_true, cond_false]
              clear hpre
              rw [if_pos (by rfl)]
              have z1 := (s3 n8).cell
              go_simp
              exact hK _ _ ⟨v2, gb, by simp [upd, Act.put, n8], hB, hK0, hM, hX, (fun e => c3 (by simpa [upd] using e)), (fun e => c4 (by simpa [upd] using e)), (fun e => s3 (by simpa [upd] using e)), (fun e => s4 (by simpa [upd] using e)), (fun e1 e2 => cb (by simpa [upd] using e1) (by simpa [upd] using e2)), (by first | (simp [upd, n8]; done) | simpa [upd, n8] using o1), (by first | (simp [upd, n8]; done) | simpa [upd, n8] using o2), (by first | (simp [upd, n8]; done) | simpa [upd, n8] using o3)⟩
            · -- 1: Op.move (Operand.tmp 13)
              refine wpOp_step rfl (fun K hK => ?_)
              clear hpre
              rw [if_pos (by rfl)]
              go_simp
              exact hK _ _ ⟨v2, gb, by simp [upd, Act.put], hB, hK0, hM, hX, (fun e => c3 (by simpa [upd] using e)), (fun e => c4 (by simpa [upd] using e)), (fun e => s3 (by simpa [upd] using e)), (fun e => s4 (by simpa [upd] using e)), (fun e1 e2 => cb (by simpa [upd] using e1) (by simpa [upd] using e2)), (by first | (simp [upd]; done) | simpa [upd] using o1), (by first | (simp [upd]; done) | simpa [upd] using o2), (by first | (simp [upd]; done) | simpa [upd] using o3)⟩
            · -- 2: Op.move (Operand.tmp 12)
              refine wpOp_step rfl (fun K hK => ?_)
              clear hpre
              rw [if_pos (by rfl)]
              go_simp
              exact hK _ _ ⟨v2, gb, by simp [upd, Act.put], hB, hK0, hM, hX, (fun e => c3 (by simpa [upd] using e)), (fun e => c4 (by simpa [upd] using e)), (fun e => s3 (by simpa [upd] using e)), (fun e => s4 (by simpa [upd] using e)), (fun e1 e2 => cb (by simpa [upd] using e1) (by simpa [upd] using e2)), (by first | (simp [upd]; done) | simpa [upd] using o1), (by first | (simp [upd]; done) | simpa [upd] using o2), (by first | (simp [upd]; done) | simpa [upd] using o3)⟩
            · -- 3: Op.indexAddr 23 (Operand.tmp 11) (Operand.tmp 37)
              have p2 : l 2 = true := hpre _ rfl ⟨2, .data⟩ (by simp) rfl
              refine wpOp_step rfl (fun K hK => ?_)
              simp only [p2, cond_true, cond_false]
              clear hpre
              rw [if_pos (by rfl)]
              go_simp
              exact hK _ _ ⟨v2, gb, by simp [upd, Act.put, p2], hB, hK0, hM, hX, (fun e => c3 (by simpa [upd] using e)), (fun e => c4 (by simpa [upd] using e)), (fun e => s3 (by simpa [upd] using e)), (fun e => s4 (by simpa [upd] using e)), (fun e1 e2 => cb (by simpa [upd] using e1) (by simpa [upd] using e2)), (by first | (simp [upd, p2]; done) | simpa [upd, p2] using o1), (by first | (simp [upd, p2]; done) | simpa [upd, p2] using o2), (by first | (simp [upd, p2]; done) | simpa [upd, p2] using o3)⟩
            · -- 4: Op.load 5 (Operand.tmp 38)
              have p3 : l 3 = true := hpre _ rfl ⟨3, .data⟩ (by simp) rfl
              refine wpOp_step rfl (fun K hK => ?_)
              simp only [p3, cond_true, cond_false]
              clear hpre
              rw [if_pos (by rfl)]
              have z1 := HC.out _ hM.1
              go_simp
              exact hK _ _ ⟨v2, gb, by simp [upd, Act.put, p3], hB, hK0, hM, hX, (fun e => c3 (by simpa [upd] using e)), (fun e => c4 (by simpa [upd] using e)), (fun e => s3 (by simpa [upd] using e)), (fun e => s4 (by simpa [upd] using e)), (fun e1 e2 => cb (by simpa [upd] using e1) (by simpa [upd] using e2)), (by first | (simp [upd, p3]; done) | simpa [upd, p3] using o1), (by first | (simp [upd, p3]; done) | simpa [upd, p3] using o2), (by first | (simp [upd, p3]; done) | simpa [upd, p3] using o3)⟩
            · -- 5: Op.binOp BinOp.xor 5 (Operand.tmp 36) (Operand.tmp
              have p1 : l 1 = true := hpre _ rfl ⟨1, .data⟩ (by simp) rfl
              have p4 : l 4 = true := hpre _ rfl ⟨4, .data⟩ (by simp) rfl
              refine wpOp_step rfl (fun K hK => ?_)
              simp only [p1, p4, cond_true, cond_false]
              clear hpre
              rw [if_pos (by rfl)]
              have z1 := E1.out
              go_simp
              exact hK _ _ ⟨v2, gb, by simp [upd, Act.put, p1, p4], hB, hK0, hM, hX, (fun e => c3 (by simpa [upd] using e)), (fun e => c4 (by simpa [upd] using e)), (fun e => s3 (by simpa [upd] using e)), (fun e => s4 (by simpa [upd] using e)), (fun e1 e2 => cb (by simpa [upd] using e1) (by simpa [upd] using e2)), (by first | (simp [upd, p1, p4]; done) | simpa [upd, p1, p4] using o1), (by first | (simp [upd, p1, p4]; done) | simpa [upd, p1, p4] using o2), (by first | (simp [upd, p1, p4]; done) | simpa [upd, p1, p4] using o3)⟩
            · -- 6: Op.buildSlice 26 1 #[(0, Operand.tmp 40)]
              have p5 : l 5 = true := hpre _ rfl ⟨5, .data⟩ (by simp) rfl
              refine wpOp_step rfl (fun K hK => ?_)
              have n7 : l 7 = false := by cases h : l 7; rfl; exact absurd (o1 h) (by rw [hli]; decide)
              have n8 : l 8 = false := by cases h : l 8; rfl; exact absurd (o2 h) (by rw [n7]; decide)
              simp only [p5, n7, n8, cond_true, cond_false]
              clear hpre
              rw [if_pos (by rfl)]
              have hA : Below w'.heap.size w' (w'.alloc (.cells #[.int .u8 (d : Int)] 5)) := (Below.refl _ _).alloc (Nat.le_refl _) _
              have hS : n0 + 2 ≤ w'.heap.size := Nat.le_trans (by have := HNW.out; have := HBr.out.size; omega) hB.size
              go_simp
              exact hK _ _ ⟨v2, w'.heap.size, by simp [upd, Act.put, p5, n7, n8], hB.trans (hA.mono hS), hK0.trans (KeepsOthers.of_below hA), ⟨hM.1.keep hA, hM.2.keep hA⟩, ⟨hX.1.keep hA, hX.2.1.keep hA, hX.2.2.keep hA⟩, (fun _ => own_below (c3 n7) hA), (fun e => absurd e (by simp [upd, n7])), (fun _ => (s3 n8).keep hA), (fun e => absurd e (by simp [upd, n8])), (fun _ _ => (Box.new w' _ 5).cell), (by first | (simp [upd, p5, n7, n8]; done) | simpa [upd, p5, n7, n8] using o1), (by first | (simp [upd, p5, n7, n8]; done) | simpa [upd, p5, n7, n8] using o2), (by first | (simp [upd, p5, n7, n8]; done) | simpa [upd, p5, n7, n8] using o3)⟩
            · -- 7: Op.call { callee := Callee.builtin Builtin.append,
              have p0 : l 0 = true := hpre _ rfl ⟨0, .data⟩ (by simp) rfl
              have p6 : l 6 = true := hpre _ rfl ⟨6, .data⟩ (by simp) rfl
              refine wpOp_step rfl (fun K hK => ?_)
              have n7 : l 7 = false := hli
              have n8 : l 8 = false := by cases h : l 8; rfl; exact absurd (o2 h) (by rw [n7]; decide)
              simp only [p0, p6, n7, n8, cond_true, cond_false]
              clear hpre
              rw [if_pos (by rfl)]
              have hS : n0 + 2 ≤ w'.heap.size := Nat.le_trans (by have := HNW.out; have := HBr.out.size; omega) hB.size
              have hO := c3 n7
              refine wp_append_own _ _ _ 26 rfl (n0 + 2) 5 i0 _ 1 1 Try.underlying26 HI.out.1 HI.out.2.1 HI.out.2.2.1 HI.out.2.2.2 rfl (by omega) v' (L.length + k) xs rfl hO ⟨gb, 0, none⟩ 1 1 [Value.int .u8 (d : Int)] rfl rfl (fun j u hu => by cases j with | zero => (simp at hu; subst hu; exact cb p6 n7) | succ j => simp at hu) (by intro u hu; simp at hu; subst hu; rfl) (by unfold maxLen; omega) (by omega) hS ?_
              intro v1 w6 hown6 hg6 _
              exact hK _ _ ⟨v1, gb, by simp [upd, Act.put, p0, p6, n7, n8], hB.grown hg6 hS (fun b hb => own_block hO hb.symm), hK0.trans (KeepsOthers.grown hO hg6), ⟨hM.1.grown hg6 (hM.2.apart hO (by decide)), hM.2.grown hg6 (hM.2.apart hO (by decide))⟩, ⟨hX.1.grown hg6 (hX.1.ty.apart hO (by decide)), hX.2.1.grown hg6 (hX.2.1.ty.apart hO (by decide)), hX.2.2.grown hg6 (hX.2.2.ty.apart hO (by decide))⟩, (fun e => absurd e (by simp [upd])), (fun _ => hown6), (fun _ => (s3 n8).grown hg6 ((s3 n8).ty.apart hO (by decide))), (fun e => absurd e (by simp [upd, n8])), (fun _ e => absurd e (by simp [upd])), (by first | (simp [upd, p0, p6, n7, n8]; done) | simpa [upd, p0, p6, n7, n8] using o1), (by first | (simp [upd, p0, p6, n7, n8]; done) | simpa [upd, p0, p6, n7, n8] using o2), (by first | (simp [upd, p0, p6, n7, n8]; done) | simpa [upd, p0, p6, n7, n8] using o3)⟩
            · -- 8: Op.store 26 (Operand.tmp 8) (Operand.tmp 42)
              have p7 : l 7 = true := hpre _ rfl ⟨7, .data⟩ (by simp) rfl
              have p0 : l 0 = true := hpre _ rfl ⟨0, .phase⟩ (by simp) rfl
              have p1 : l 1 = true := hpre _ rfl ⟨1, .phase⟩ (by simp) rfl
              have p2 : l 2 = true := hpre _ rfl ⟨2, .phase⟩ (by simp) rfl
              have p3 : l 3 = true := hpre _ rfl ⟨3, .phase⟩ (by simp) rfl
              have p4 : l 4 = true := hpre _ rfl ⟨4, .phase⟩ (by simp) rfl
              have p5 : l 5 = true := hpre _ rfl ⟨5, .phase⟩ (by simp) rfl
              have p6 : l 6 = true := hpre _ rfl ⟨6, .phase⟩ (by simp) rfl
              refine wpOp_step rfl (fun K hK => ?_)
              simp only [p7, p0, p1, p2, p3, p4, p5, p6, cond_true, cond_false]
              clear hpre
              rw [if_pos (by rfl)]
              have hS3 := s3 hli
              have hO := c4 p7
              have z1 := hS3.cell
              have z2 := hS3.fr
              obtain ⟨A2, n2, c2, hv2⟩ := own_val hO
              subst hv2
              go_simp
              have hBn := HBn.out
              have hmb := HMB.out
              exact hK _ _ ⟨_, gb, by simp [upd, Act.put, p7, p0, p1, p2, p3, p4, p5, p6], hB.setCell (p := ⟨n0 + 3, 0, none⟩) (by show n0 + 2 ≤ n0 + 3; omega) _, hK0.trans (KeepsOthers.setCell _ _ _), ⟨hM.1.setCell _ _ (by show n0 + 3 ≠ mb; omega), hM.2.setCell _ _⟩, ⟨hX.1.other (by show n0 + 3 ≠ n0 + 4; omega) _, hX.2.1.other (by show n0 + 3 ≠ B; omega) _, hX.2.2.other (by show n0 + 3 ≠ B + 1; omega) _⟩, (fun e => absurd e (by simp [upd, p7])), (fun _ => ownsRow_setCell_other hO (Ne.symm (hS3.ty.apart hO (by decide))) _), (fun e => absurd e (by simp [upd])), (fun _ => hS3.set _), (fun _ e => absurd e (by simp [upd, p7])), (by first | (simp [upd, p7, p0, p1, p2, p3, p4, p5, p6]; done) | simpa [upd, p7, p0, p1, p2, p3, p4, p5, p6] using o1), (by first | (simp [upd, p7, p0, p1, p2, p3, p4, p5, p6]; done) | simpa [upd, p7, p0, p1, p2, p3, p4, p5, p6] using o2), (by first | (simp [upd, p7, p0, p1, p2, p3, p4, p5, p6]; done) | simpa [upd, p7, p0, p1, p2, p3, p4, p5, p6] using o3)⟩
          · rintro l a w9 hall ⟨v2, gb, rfl, hBz, hKz, hMz, hXz, _, c4, _, s4, _, _, _, _⟩
            simp only [hall 0 (by decide), hall 1 (by decide), hall 2 (by decide), hall 3 (by decide), hall 4 (by decide), hall 5 (by decide), hall 6 (by decide), hall 7 (by decide), cond_true]
            have hOz := Lib.hid (c4 (hall 7 (by decide)))
            have hSz := Lib.hid (s4 (hall 8 (by decide)))
            clear hall c4 s4
            gi_wp2_with fail
            go_roundw
            case rel => exact ⟨k + 1, v2, by omega, by go_num, Lib.hid (by rw [HX.out]; exact hOz.out), hSz, Lib.hid hXz, Lib.hid hMz, Lib.hid (HBr.out.trans hBz), Lib.hid (HKr.out.trans hKz)⟩
            case measure => simp [intOf]; omega
        · obtain rfl : k = p := by omega
          have d3 : decide ((k : Int) < (k : Int)) = false := decide_eq_false (by omega)
          have z1 := H3r.out.1.cell
          have z2 := H3r.out.1.fr
          have z3 : IntKind.u64.wrap ((cn : Int) + 1) = ((cn + 1 : Nat) : Int) := by simp [IntKind.wrap, IntKind.bits, IntKind.signed]; omega
          gi_wp2_with fail
          have hBn := HBn.out
          refine ⟨HKr.out.trans (KeepsOthers.setCell _ _ _), ⟨(H3r.out.2.1.other (by show n0 + 3 + 1 ≠ B; omega) _).trans H45.out.1.symm, (H3r.out.2.2.other (by show n0 + 3 + 1 ≠ B + 1; omega) _).trans H45.out.2.symm⟩, ?_, HBl.out.trans (HBr.out.setCell (p := ⟨n0 + 3 + 1, 0, none⟩) (by show n0 + 2 ≤ n0 + 3 + 1; omega) _)⟩
          rw [HSN.out]
          have hlen2 : (L ++ pby X Y t g cn xk k).length = L.length + k := by rw [List.length_append, pby_len]
          refine ⟨v', ?_, H2r.out.other (by show n0 + 3 + 1 ≠ n0 + 3; omega) _, H3r.out.1.set _, H3r.out.2.1.other (by show n0 + 3 + 1 ≠ B; omega) _, H3r.out.2.2.other (by show n0 + 3 + 1 ≠ B + 1; omega) _⟩
          show World.ownsRow _ _ _ _ _ (L ++ pby X Y t g cn xk k).length _
          rw [hlen2]
          exact ownsRow_setCell_other HO.out (Ne.symm (H3r.out.1.ty.apart HO.out (by decide))) _
  case done =>
    rintro D ys W hD hys ⟨⟨v, h1, h2, h3, h4, h5⟩, hBl⟩ hK
    have hmin : min n (16 * cnt n) = n := by unfold cnt; omega
    rw [stl_all X Y t g n (cnt n) ys (Nat.le_refl _) hys, hmin] at h1
    have h1' : W.ownsRow (n0 + 2) 5 1 v n (bl ((List.range n).map (smb X Y t g))) := by simpa using h1
    have H1 := Lib.hid h1'
    have z1 := h2.cell
    have HKD := Lib.hid hK
    have HBl := Lib.hid hBl
    have HD := Lib.hid hD
    obtain ⟨A2, n2, c2, hv2⟩ := own_val h1'
    subst hv2
    clear h1 h1' h2 h3 h4 h5 hBl hK hD hys hmin
    go_wp2_with fail
    refine ⟨by simp, .inl ⟨_, _, rfl, run_takeDeferred HKD.out, ?_⟩⟩
    refine ⟨_, results_tmp2 rfl _ _ _, ⟨_, rfl, ?_, ?_⟩⟩
    · rw [← HN.out]
      exact (hb05.trans (HBl.out.mono (by omega))).trans (belowK_b (w := w) (by rw [HN.out]; exact Nat.le_refl _) _ D _ _ (by have := HD.out; have := HS5.out; have := HBn.out; have := HN.out; omega) HKD.out rfl rfl)
    · rw [← HN.out]
      exact H1.out.kept (grownBy_putObj' _ D _) (own_notrow H1.out (fun r e => by cases e; exact ⟨_, HKD.out, rfl⟩))
  case stop =>
    rintro D c pre W _ _ h _
    exact h.elim
end Go.Proofs.Ytphhppdokdageaa
