/-
  Stream of no bytes; Stream of a slice.
-/
import Derived.Test.YtphhppdokdageaaStrB
namespace Go.Proofs.Ytphhppdokdageaa
open Go.RowKit Go.Shelf SP
attribute [local go_sem] Oper.semAt_some
set_option linter.unusedSimpArgs false
set_option linter.unusedVariables false

set_option maxRecDepth 100000 in
set_option maxHeartbeats 4000000 in
theorem stream_zero (X Y t : Nat) (A : Option Addr) (c : Nat) (g : Nat → Nat) (w : World) (hc : c ≤ maxLen) :
    Calls Try.prog 20 #[.agg (kl X Y).toArray, .int .u64 (t : Int), .slice A 0 c] w fun e w' => ∃ v, e = .returned (.tuple #[v, .int .i64 0]) ∧ Below w.heap.size w w' ∧ w'.ownsRow (w.heap.size + 2) 5 1 v 0 (bl ((List.range 0).map (smb X Y t g))) := by
  obtain ⟨i0, hi, hz0, hz1, hz2⟩ := info_parts info5
  have HI := Lib.hid (And.intro hi (And.intro hz0 (And.intro hz1 hz2)))
  obtain ⟨n0, hn0'⟩ : ∃ n0, n0 = w.heap.size := ⟨_, rfl⟩
  have hmk : ∀ w : World, (Instr.makeSlice 26 (.int .i64 0) (.int .i64 0)).run Try.prog w = .ok (.slice (some ⟨w.heap.size, 0, none⟩) 0 0) (w.alloc (.cells (madeCells (Value.int .u8 0).cells 0) 5)) := fun w => by
    have h := run_make (P := Try.prog) w 26 5 i0 _ Try.underlying26 hi hz0 .i64 .i64 0 0 (by omega) (by omega) (by rw [hz2]; omega) (by omega)
    rw [hz1] at h
    exact h
  obtain ⟨W1, hW1⟩ : ∃ W1, W1 = (w.alloc (.cells (kl X Y).toArray 23)).alloc (.cells #[.int .u64 (t : Int)] 30) := ⟨_, rfl⟩
  obtain ⟨W2, hW2⟩ : ∃ W2, W2 = W1.alloc (.cells (madeCells (Value.int .u8 0).cells 0) 5) := ⟨_, rfl⟩
  obtain ⟨W3, hW3⟩ : ∃ W3, W3 = W2.alloc (.cells #[.slice (some ⟨n0 + 2, 0, none⟩) 0 0] 26) := ⟨_, rfl⟩
  obtain ⟨W4, hW4⟩ : ∃ W4, W4 = W3.alloc (.cells #[.int .u64 0] 30) := ⟨_, rfl⟩
  have s1 : W1.heap.size = n0 + 2 := by rw [hW1, hn0']; simp
  have s2 : W2.heap.size = n0 + 3 := by rw [hW2]; simp [s1]
  have s3 : W3.heap.size = n0 + 4 := by rw [hW3]; simp [s2]
  have s4 : W4.heap.size = n0 + 5 := by rw [hW4]; simp [s3]
  have b1 : Below n0 w W1 := by rw [hW1, hn0']; exact ((Below.refl _ _).alloc (Nat.le_refl _) _).alloc (by simp) _
  have b12 : Below (n0 + 2) W1 W2 := by rw [hW2, ← s1]; exact (Below.refl _ _).alloc (Nat.le_refl _) _
  have b23 : Below (n0 + 3) W2 W3 := by rw [hW3]; exact (Below.refl _ _).alloc (by rw [s2]; exact Nat.le_refl _) _
  have b34 : Below (n0 + 4) W3 W4 := by rw [hW4]; exact (Below.refl _ _).alloc (by rw [s3]; exact Nat.le_refl _) _
  have kk : KeyAt W1 n0 X Y := by rw [hW1, hn0']; exact (KeyAt.new w X Y 23).alloc _
  have bt : Box W1 (n0 + 1) (.int .u64 (t : Int)) 30 := by
    have h := Box.new (w.alloc (.cells (kl X Y).toArray 23)) (.int .u64 (t : Int)) 30
    rw [World.size_alloc] at h
    rw [hW1, hn0']; exact h
  have ow : W2.ownsRow (n0 + 2) 5 1 (.slice (some ⟨n0 + 2, 0, none⟩) 0 0) 0 [] :=
    ⟨rfl, .inr ⟨n0 + 2, 0, madeCells (Value.int .u8 0).cells 0, rfl, Nat.le_refl _, by rw [hW2, ← s1]; exact heap_alloc_new W1 _, Nat.zero_le _, by unfold maxLen; omega, by simp [size_madeCells], by simp⟩⟩
  have bs : Box W3 (n0 + 3) (.slice (some ⟨n0 + 2, 0, none⟩) 0 0) 26 := by
    have h := (Box.new W2 (.slice (some ⟨n0 + 2, 0, none⟩) 0 0) 26)
    rw [s2] at h
    rw [hW3]; exact h
  have bc : Box W4 (n0 + 4) (.int .u64 ((0 : Nat) : Int)) 30 := by
    have h := (Box.new W3 (.int .u64 0) 30)
    rw [s3] at h
    rw [hW4]; exact h
  have b24 : Below (n0 + 3) W2 W4 := b23.trans (b34.mono (by omega))
  have b14 : Below (n0 + 2) W1 W4 := b12.trans (b24.mono (by omega))
  have hb4 : Below n0 w W4 := b1.trans (b14.mono (by omega))
  have kk4 : KeyAt W4 n0 X Y := kk.below b14 (by omega)
  have bt4 : Box W4 (n0 + 1) (.int .u64 (t : Int)) 30 := bt.below b14 (by omega)
  have ow4 : W4.ownsRow (n0 + 2) 5 1 (.slice (some ⟨n0 + 2, 0, none⟩) 0 0) 0 [] := own_below ow (b24.mono (by rw [s2]; exact Nat.le_refl _))
  have bs4 : Box W4 (n0 + 3) (.slice (some ⟨n0 + 2, 0, none⟩) 0 0) 26 := bs.below b34 (by omega)
  have HS4 := Lib.hid s4
  have HW1 := Lib.hid hW1
  have HW2 := Lib.hid hW2
  have HW3 := Lib.hid hW3
  have HW4 := Lib.hid hW4
  have HN := Lib.hid hn0'
  have F4 := Lib.hid (And.intro hb4 (And.intro kk4 (And.intro bt4 (And.intro ow4 (And.intro bs4 bc)))))
  have S123 := Lib.hid (And.intro s1 (And.intro s2 s3))
  have d1 : decide ((16384 : Int) < 0) = false := decide_eq_false (by omega)
  have d2 : ¬ ((16384 : Int) < 0) := by omega
  clear hW1 hW2 hW3 hW4 s1 s2 s3 s4 b1 b12 b23 b34 kk bt ow bs bc b24 b14 hb4 kk4 bt4 ow4 bs4 hi hz0 hz1 hz2 hn0'
  refine (callsIn_wide (n := 4)).1 (callsIn_of_wp_marks Try.func20 rfl trivial ?_ rfl)
  simp only [Try.ntmps20, List.size_toArray, List.length_cons, List.length_nil, Nat.reduceAdd, Nat.reduceSub, Array.replicate_succ, Array.replicate_zero, List.push_toArray, List.append_toArray, List.nil_append, List.cons_append]
  refine wpIn_wide.2 ?_
  have mk1 := hmk W1
  rw [← HW2.out, S123.out.1] at mk1
  rw [HW1.out] at mk1
  clear hmk
  go_wp2_with fail
  rw [← HW3.out, ← HW4.out]
  refine (chunk_any A 0 c W4).mono ?_
  rintro e w' ⟨rfl, rfl⟩
  rw [← HN.out, S123.out.2.1]
  obtain ⟨B, hB⟩ : ∃ B, B = W4.heap.size := ⟨_, rfl⟩
  rw [← hB]
  obtain ⟨W5, hW5⟩ : ∃ W5, W5 = (W4.alloc (.cells #[.slice A 0 c] 26)).alloc (.cells #[.int .i64 16] 3) := ⟨_, rfl⟩
  rw [← hW5]
  have hBn : B = n0 + 5 := by rw [hB, HS4.out]
  have q1 := Box.new W4 (.slice A 0 c) 26
  have q2 := Box.new (W4.alloc (.cells #[.slice A 0 c] 26)) (.int .i64 16) 3
  rw [World.size_alloc] at q2
  have hb5 : Below B W4 W5 := by rw [hW5, hB]; exact ((Below.refl _ _).alloc (Nat.le_refl _) _).alloc (by simp) _
  have hb6 : Below (B + 1) (W4.alloc (.cells #[.slice A 0 c] 26)) W5 := by rw [hW5, hB]; exact (Below.refl _ _).alloc (by simp) _
  rw [← hB] at q1 q2
  have g1 : Box W5 B (.slice A 0 c) 26 := q1.below hb6 (by omega)
  have g2 : Box W5 (B + 1) (.int .i64 16) 3 := by rw [hW5]; exact q2
  have hS5 : W5.heap.size = B + 2 := by rw [hW5, hB]; simp
  obtain ⟨hb4, kk4, bt4, ow4, bs4, bc4⟩ := F4.out
  have hr1 : KeyAt W5 n0 X Y := kk4.below hb5 (by omega)
  have ht5 : Box W5 (n0 + 1) (.int .u64 (t : Int)) 30 := bt4.below hb5 (by omega)
  have ho5 : W5.ownsRow (n0 + 2) 5 1 (.slice (some ⟨n0 + 2, 0, none⟩) 0 0) 0 [] := own_below ow4 (hb5.mono (by rw [HS4.out]; omega))
  have hs5 : Box W5 (n0 + 3) (.slice (some ⟨n0 + 2, 0, none⟩) 0 0) 26 := bs4.below hb5 (by omega)
  have hc5 : Box W5 (n0 + 4) (.int .u64 ((0 : Nat) : Int)) 30 := bc4.below hb5 (by omega)
  have hb05 : Below n0 w W5 := hb4.trans (hb5.mono (by omega))
  have HBn := Lib.hid hBn
  have HS5 := Lib.hid hS5
  have hch := chunk_stops0 3 (by omega) 0 0 A c B W5 hc g1.cell g2.cell
  have H5 := Lib.hid (And.intro hr1 ht5)
  clear hW5 hB q1 q2 hb5 hb6 hBn hr1 ht5 hb4 kk4 bt4 ow4 bs4 bc4 F4 S123 HW1 HW2 HW3 HW4 mk1
  go_wp2_with fail
  refine (wpIn_wide (n := 4)).1 ?_
  have hI0 : (∃ v, W5.ownsRow (n0 + 2) 5 1 v (stl X Y t g 0 []).1.length (bl (stl X Y t g 0 []).1) ∧ Box W5 (n0 + 3) v 26 ∧ Box W5 (n0 + 4) (.int .u64 (((stl X Y t g 0 []).2 : Nat) : Int)) 30 ∧ Box W5 B (.slice A 0 c) 26 ∧ Box W5 (B + 1) (.int .i64 16) 3) ∧ Below (n0 + 2) W5 W5 := ⟨⟨_, ho5, hs5, hc5, g1, g2⟩, Below.refl _ _⟩
  clear ho5 hs5 hc5 g1 g2
  refine wpIn_rangeFunc_ownF rfl (n := 4) (by omega) (gf := 68) (lb := #[.pointer (some ⟨B, 0, none⟩), .pointer (some ⟨B + 1, 0, none⟩)]) rfl trivial (enters_of Try.func68 (by kernel_rfl) rfl)
    hch (fun h k => ⟨k.1.trans h.1, k.2.trans h.2⟩) (fun W l o o' hl _ _ _ => ⟨World.putObj_heap_other (by rw [HS5.out] at hl; omega), World.putObj_heap_other (by rw [HS5.out] at hl; omega)⟩) (Below.refl _ _) (fun _ => rfl)
    (fun pre W => (∃ v, W.ownsRow (n0 + 2) 5 1 v (stl X Y t g 0 pre).1.length (bl (stl X Y t g 0 pre).1) ∧ Box W (n0 + 3) v 26 ∧ Box W (n0 + 4) (.int .u64 (((stl X Y t g 0 pre).2 : Nat) : Int)) 30 ∧ Box W B (.slice A 0 c) 26 ∧ Box W (B + 1) (.int .i64 16) 3) ∧ Below (n0 + 2) W5 W)
    (fun _ _ _ => False)
    (OwnFrom.and (Own.from (fun s A B' row hs hg hr => by
      obtain ⟨v, h1, h2, h3, h4, h5⟩ := hs
      exact ⟨v, h1.kept hg (own_notrow h1 hr), h2.kept hg hr, h3.kept hg hr, h4.kept hg hr, h5.kept hg hr⟩) _) (ownFrom_below (by rw [HS5.out, HBn.out]; omega) (by rw [HS5.out, HBn.out]; omega)))
    (fun _ _ _ _ _ hs _ _ => hs)
    hI0
    (fun x => { tmps := #[Value.agg (kl X Y).toArray, Value.int .u64 (t : Int), Value.slice A 0 c, Value.pointer (some ⟨n0, 0, none⟩), Value.pointer (some ⟨n0 + 1, 0, none⟩), undef, Value.slice none 0 0, Value.int .i64 (0 : Int), Value.pointer (some ⟨n0 + 3, 0, none⟩), Value.pointer (some ⟨n0 + 3 + 1, 0, none⟩), Value.slice (some ⟨0, 0 + 16 * x.1, none⟩) (pln 0 x.1) (pln 0 x.1), undef, undef, undef, Value.slice A 0 c, Value.int .i64 0, Value.bool false, Value.slice A 0 c, Value.int .i64 0, Value.slice (some ⟨n0 + 2, 0, none⟩) 0 0, Value.slice A 0 c, Value.func (Fn.func 68) #[] #[Value.pointer (some ⟨B, 0, none⟩), Value.pointer (some ⟨B + 1, 0, none⟩)], Value.slice (some ⟨0, 0 + 16 * x.1, none⟩) (pln 0 x.1) (pln 0 x.1), undef, undef, undef, undef, undef, undef, undef, undef, undef, undef, undef, undef, undef, undef, undef, undef, undef, undef, undef, undef, undef, undef, undef, undef], defers := [] }) ?assign ?body ?done ?stop
  case assign =>
    intro l x W K hK
    exact absurd x.2 (by omega)
  case body =>
    rintro l pre x W _ _
    exact absurd x.2 (by omega)
  case done =>
    rintro D ys W hD hys ⟨⟨v, h1, h2, h3, h4, h5⟩, hBl⟩ hK
    have hmin : min 0 (16 * cnt 0) = 0 := by unfold cnt; omega
    rw [stl_all X Y t g 0 (cnt 0) ys (Nat.le_refl _) hys, hmin] at h1
    have h1' : W.ownsRow (n0 + 2) 5 1 v 0 (bl ((List.range 0).map (smb X Y t g))) := by simpa using h1
    have H1 := Lib.hid h1'
    have z1 := h2.cell
    have HKD := Lib.hid hK
    have HBl := Lib.hid hBl
    have HD := Lib.hid hD
    obtain ⟨A2, n2, c2, hv2⟩ := own_val h1'
    subst hv2
    clear h1 h1' h2 h3 h4 h5 hBl hK hD hys hmin
    go_wp2_with fail
    refine ⟨by simp, .inl ⟨_, _, rfl, run_takeDeferred HKD.out, ?_⟩⟩
    refine ⟨_, results_tmp2 rfl _ _ _, ⟨_, rfl, ?_, ?_⟩⟩
    · rw [← HN.out]
      exact (hb05.trans (HBl.out.mono (by omega))).trans (belowK_b (w := w) (by rw [HN.out]; exact Nat.le_refl _) _ D _ _ (by have := HD.out; have := HS5.out; have := HBn.out; have := HN.out; omega) HKD.out rfl rfl)
    · rw [← HN.out]
      exact H1.out.kept (grownBy_putObj' _ D _) (own_notrow H1.out (fun r e => by cases e; exact ⟨_, HKD.out, rfl⟩))
  case stop =>
    rintro D c pre W _ _ h _
    exact h.elim

theorem stream_yes (X Y t : Nat) (A : Option Addr) (n c : Nat) (g : Nat → Nat) (w : World) (hX : X < M) (hY : Y < M) (ht : t < M) (hb : Byt w A n c g) (hn : n ≤ 16384) :
    Calls Try.prog 20 #[.agg (kl X Y).toArray, .int .u64 (t : Int), .slice A n c] w fun e w' => ∃ v, e = .returned (.tuple #[v, .int .i64 0]) ∧ Below w.heap.size w w' ∧ w'.ownsRow (w.heap.size + 2) 5 1 v n (bl ((List.range n).map (smb X Y t g))) := by
  rcases Nat.eq_zero_or_pos n with rfl | hpos
  · exact stream_zero X Y t A c g w hb.cap
  · obtain ⟨b, off, rfl, hc⟩ := hb.at_ hpos
    exact stream_pos X Y t b off n c g w hX hY ht hb.lt hpos hn hb.le hb.cap hc
/-- The same, the bytes that are returned taken as a slice. -/
theorem stream_byt (X Y t : Nat) (A : Option Addr) (n c : Nat) (g : Nat → Nat) (w : World) (hX : X < M) (hY : Y < M) (ht : t < M) (hb : Byt w A n c g) (hn : n ≤ 16384) :
    Calls Try.prog 20 #[.agg (kl X Y).toArray, .int .u64 (t : Int), .slice A n c] w fun e w' => ∃ A' c', e = .returned (.tuple #[.slice A' n c', .int .i64 0]) ∧ Below w.heap.size w w' ∧ Byt w' A' n c' (smb X Y t g) :=
  (stream_yes X Y t A n c g w hX hY ht hb hn).mono fun e w' ⟨v, he, hbl, ho⟩ => by
    obtain ⟨A', c', hv, hy⟩ := own_byt ho (smb_lt X Y t hb.lt)
    exact ⟨A', c', by rw [he, hv], hbl, hy⟩
end Go.Proofs.Ytphhppdokdageaa
