/-
  fold over no bytes.
-/
import Derived.Test.YtphhppdokdageaaFldC
namespace Go.Proofs.Ytphhppdokdageaa
open Go.RowKit Go.Shelf SP
attribute [local go_sem] Oper.semAt_some
set_option linter.unusedSimpArgs false
set_option linter.unusedVariables false

set_option maxRecDepth 100000 in
set_option maxHeartbeats 2000000 in
theorem chunk_stops0 (m : Nat) (hm : 1 ≤ m) (b off : Nat) (A : Option Addr) (c B : Nat) (w : World) (hc : c ≤ maxLen) (hB1 : w.cell? ⟨B, 0, none⟩ = some (.slice A 0 c)) (hB2 : w.cell? ⟨B + 1, 0, none⟩ = some (.int .i64 16)) :
    SeqStopsK Fence.wide m Try.prog 68 #[.pointer (some ⟨B, 0, none⟩), .pointer (some ⟨B + 1, 0, none⟩)] (pencs b off 0) (KpB B) (fun xs => xs.map (·.1) = List.range (cnt 0)) (fun _ => True) (cnt 0) w := fun l J Jx W hW hJ hJx hYd h0 => by
  have H1 := Lib.hid ((hW.cell (p := ⟨B, 0, none⟩) (World.block_lt_of_cell? w _ hB1)).trans hB1)
  have H2 := Lib.hid ((hW.cell (p := ⟨B + 1, 0, none⟩) (World.block_lt_of_cell? w _ hB2)).trans hB2)
  have hcap := hc
  unfold maxLen at hcap
  have hJd : ∀ pre W1, J pre W1 → J pre W1.drew := fun pre W1 h => hJ pre W1 W1.drew none h (grownBy_of_below ((Below.refl _ _).drew)) (fun r e => by cases e)
  clear hB1 hB2 hc
  refine callsIn_of_wp Try.func68 rfl trivial ?_ rfl
  simp only [Try.ntmps68, List.size_toArray, List.length_cons, List.length_nil, Nat.reduceAdd, Nat.reduceSub, Array.replicate_succ, Array.replicate_zero, List.push_toArray, List.append_toArray, List.nil_append, List.cons_append]
  gi_wp2_with fail
  gi_loopw [4] (fun i wr => ∃ (k : Nat) (pre : List (Part 0)), k ≤ cnt 0 ∧ i = .int .i64 0 ∧ Hid (pre.map (·.1) = List.range k) ∧ Hid (J pre wr) ∧ Hid (wr.cell? ⟨B, 0, none⟩ = some (.slice A 0 c) ∧ wr.cell? ⟨B + 1, 0, none⟩ = some (.int .i64 16))) (fun i _ => 16 * cnt 0 - (intOf i).toNat)
  case atStart => exact ⟨0, [], by omega, rfl, Lib.hid rfl, Lib.hid h0, Lib.hid ⟨H1.out, H2.out⟩⟩
  case round =>
    obtain ⟨k, pre, hk, rfl, HP, HJs, HC⟩ := hrel
    have g1 := HC.out.1
    have g2 := HC.out.2
    have hk0 : k = 0 := by unfold cnt at hk; omega
    subst hk0
    have hkc : 0 = cnt 0 := rfl
    have HKC := Lib.hid hkc
    clear hkc
    gi_wp2_with fail
    go_end0
    exact ⟨⟨_, rfl⟩, .inl ⟨pre, by rw [HP.out]; rfl, HJs.out⟩⟩

set_option maxRecDepth 100000 in
set_option maxHeartbeats 4000000 in
theorem fold_zero (gf : Nat) (cap : Array Value) (stp : Nat × Nat → Nat × Nat → Nat × Nat) (S T : Nat) (A : Option Addr) (c : Nat) (g : Nat → Nat) (w : World) (hc : c ≤ maxLen) :
    Calls Try.prog 43 #[.agg (kl S T).toArray, .slice A 0 c, .func (.func gf) #[] cap] w fun e w' => e = .returned (.agg (kl S T).toArray) ∧ Below w.heap.size w w' := by
  obtain ⟨stp, hstp0⟩ : ∃ s : Nat × Nat → Nat × Nat → Nat × Nat, s = stp := ⟨_, rfl⟩
  obtain ⟨n0, hn0'⟩ : ∃ n0, n0 = w.heap.size := ⟨_, rfl⟩
  obtain ⟨F, hF⟩ : ∃ F : Value, F = .func (.func gf) #[] cap := ⟨_, rfl⟩
  obtain ⟨W3, hW3⟩ : ∃ W3, W3 = ((w.alloc (.cells (kl S T).toArray 23)).alloc (.cells #[.func (.func gf) #[] cap] 37)).alloc (.cells z16 23) := ⟨_, rfl⟩
  have HB3 : Hid (Below n0 w W3) := Lib.hid (by rw [hW3, hn0']; exact (((Below.refl _ _).alloc (Nat.le_refl _) _).alloc (by simp) _).alloc (by simp; omega) _)
  have HS3 : Hid (W3.heap.size = n0 + 3) := Lib.hid (by rw [hW3, hn0']; simp)
  have HR1 : Hid (Row W3 n0 (kby S T)) := Lib.hid (by rw [hW3, hn0']; exact ((Row.keyNew w S T 23).keep ((Below.refl _ _).alloc (Nat.le_refl _) _)).keep ((Below.refl _ _).alloc (Nat.le_refl _) _))
  have HC : Hid (W3.cell? ⟨n0 + 1, 0, none⟩ = some (.func (.func gf) #[] cap)) := Lib.hid (by
    have h := box_new (w.alloc (.cells (kl S T).toArray 23)) (.func (.func gf) #[] cap) 37
    rw [World.size_alloc] at h
    have hb : Below (w.heap.size + 2) ((w.alloc (.cells (kl S T).toArray 23)).alloc (.cells #[.func (.func gf) #[] cap] 37)) W3 := by rw [hW3]; exact (Below.refl _ _).alloc (by simp) _
    rw [hn0']
    exact (hb.cell (p := ⟨w.heap.size + 1, 0, none⟩) (by show w.heap.size + 1 < w.heap.size + 2; omega)).trans h.1)
  have HR6 : Hid (Row W3 (n0 + 2) (fun _ => 0)) := Lib.hid (by
    have h := Row.zeros ((w.alloc (.cells (kl S T).toArray 23)).alloc (.cells #[.func (.func gf) #[] cap] 37)) 23
    rw [World.size_alloc, World.size_alloc] at h
    rw [hW3, hn0']; exact h)
  have HW := Lib.hid hW3
  have HN := Lib.hid hn0'
  clear hW3 hn0'
  refine (callsIn_wide (n := 4)).1 (callsIn_of_wp_marks Try.func43 rfl trivial ?_ rfl)
  simp only [Try.ntmps43, List.size_toArray, List.length_cons, List.length_nil, Nat.reduceAdd, Nat.reduceSub, Array.replicate_succ, Array.replicate_zero, List.push_toArray, List.append_toArray, List.nil_append, List.cons_append]
  refine wpIn_wide.2 ?_
  go_wp2_with fail
  rw [← HW.out]
  refine (chunk_any A 0 c W3).mono ?_
  rintro e w' ⟨rfl, rfl⟩
  rw [← HN.out]
  obtain ⟨B, hB⟩ : ∃ B, B = W3.heap.size := ⟨_, rfl⟩
  rw [← hB]
  obtain ⟨W5, hW5⟩ : ∃ W5, W5 = (W3.alloc (.cells #[.slice A 0 c] 26)).alloc (.cells #[.int .i64 16] 3) := ⟨_, rfl⟩
  rw [← hW5]
  have hBn : B = n0 + 3 := by rw [hB, HS3.out]
  have q1 := box_new W3 (.slice A 0 c) 26
  have q2 := box_new (W3.alloc (.cells #[.slice A 0 c] 26)) (.int .i64 16) 3
  rw [World.size_alloc] at q2
  have hb5 : Below B W3 W5 := by rw [hW5, hB]; exact ((Below.refl _ _).alloc (Nat.le_refl _) _).alloc (by simp) _
  have hb6 : Below (B + 1) (W3.alloc (.cells #[.slice A 0 c] 26)) W5 := by rw [hW5, hB]; exact (Below.refl _ _).alloc (by simp) _
  have g1 : W5.cell? ⟨B, 0, none⟩ = some (.slice A 0 c) := (hb6.cell (p := ⟨B, 0, none⟩) (by show B < B + 1; omega)).trans (by rw [hB]; exact q1.1)
  have g2 : W5.cell? ⟨B + 1, 0, none⟩ = some (.int .i64 16) := by rw [hW5, hB]; exact q2.1
  have hS5 : W5.heap.size = B + 2 := by rw [hW5, hB]; simp
  have hr1 : Row W5 n0 (kby S T) := HR1.out.below hb5 (by omega)
  have hc5 : W5.cell? ⟨n0 + 1, 0, none⟩ = some (.func (.func gf) #[] cap) := (hb5.cell (p := ⟨n0 + 1, 0, none⟩) (by show n0 + 1 < B; omega)).trans HC.out
  have hr6 : Row W5 (n0 + 2) (fun _ => 0) := HR6.out.below hb5 (by omega)
  have hb05 : Below n0 w W5 := HB3.out.trans (hb5.mono (by omega))
  have HBn := Lib.hid hBn
  have HS5 := Lib.hid hS5
  have hch := chunk_stops0 3 (by omega) 0 0 A c B W5 hc g1 g2
  clear hW5 hB q1 q2 hb5 hb6 hBn
  go_wp2_with fail
  refine (wpIn_wide (n := 4)).1 ?_
  refine wpIn_rangeFunc_ownF rfl (n := 4) (by omega) (gf := 68) (lb := #[.pointer (some ⟨B, 0, none⟩), .pointer (some ⟨B + 1, 0, none⟩)]) rfl trivial (enters_of Try.func68 (by kernel_rfl) rfl)
    hch (fun h k => ⟨k.1.trans h.1, k.2.trans h.2⟩) (fun W l o o' hl _ _ _ => ⟨World.putObj_heap_other (by rw [HS5.out] at hl; omega), World.putObj_heap_other (by rw [HS5.out] at hl; omega)⟩) (Below.refl _ _) (fun _ => rfl)
    (fun pre W => (Row W n0 (kby (sta stp (S, T) g 0 pre).1 (sta stp (S, T) g 0 pre).2) ∧ W.cell? ⟨n0 + 1, 0, none⟩ = some (.func (.func gf) #[] cap) ∧ Row W (n0 + 2) (fun _ => 0)) ∧ Below n0 W5 W)
    (fun _ _ _ => False)
    (OwnFrom.and (Own.from (fun s A B row hs hg hr => ⟨hs.1.kept hg hr, cell_kept hs.2.1 hg hr, hs.2.2.kept hg hr⟩) _) (ownFrom_below (by rw [HS5.out, HBn.out]; omega) (by rw [HS5.out, HBn.out]; omega)))
    (fun _ _ _ _ _ hs _ _ => hs)
    ⟨⟨hr1, hc5, hr6⟩, Below.refl _ _⟩
    (fun x => { tmps := #[.agg (kl S T).toArray, .slice A 0 c, .func (.func gf) #[] cap, .pointer (some ⟨n0, 0, none⟩), undef, .pointer (some ⟨n0 + 1, 0, none⟩), .pointer (some ⟨n0 + 1 + 1, 0, none⟩), .slice (some ⟨0, 0 + 16 * x.1, none⟩) (pln 0 x.1) (pln 0 x.1), undef, .slice A 0 c, .func (.func 68) #[] #[.pointer (some ⟨B, 0, none⟩), .pointer (some ⟨B + 1, 0, none⟩)], .slice (some ⟨0, 0 + 16 * x.1, none⟩) (pln 0 x.1) (pln 0 x.1), undef, undef, undef, undef, undef, undef, undef, undef], defers := [] }) ?assign ?body ?done ?stop
  case assign =>
    intro l x W K hK
    exact absurd x.2 (by omega)
  case body =>
    rintro l pre x W _ _
    exact absurd x.2 (by omega)
  case done =>
    rintro D ys W hD hys ⟨⟨h1, h2, h3⟩, hBl⟩ hK
    rw [sta_all stp (S, T) g 0 ys hys] at h1
    obtain ⟨o1, ho1⟩ : ∃ o1, o1 = (fld stp (S, T) g 0 (cnt 0)).1 := ⟨_, rfl⟩
    obtain ⟨o2, ho2⟩ : ∃ o2, o2 = (fld stp (S, T) g 0 (cnt 0)).2 := ⟨_, rfl⟩
    rw [← ho1, ← ho2] at h1
    have HK1 : Hid (KeyAt W n0 o1 o2) := Lib.hid (h1.key fun j hj => rfl)
    have HT := Lib.hid h3.there
    have HKD := Lib.hid hK
    have HO := Lib.hid (And.intro ho1 ho2)
    have HBl := Lib.hid hBl
    have HD := Lib.hid hD
    clear h1 h2 h3 hK ho1 ho2 hBl hD hys
    go_wp2_with (first
      | (refine wpList_load_key rfl _ rfl n0 rfl _ _ HK1.out ?_)
      | (refine wpList_store_key rfl _ _ rfl (n0 + 1 + 1) o1 o2 rfl rfl HT.out ?_))
    have hne : D ≠ n0 + 1 + 1 := by have := HD.out; rw [HS5.out, HBn.out] at this; omega
    have hK3 : (W.setCells (n0 + 1 + 1) 0 (kl o1 o2)).heap[D]? = some (.deferred (some [])) := (heap_setCells_ne _ _ _ _ D hne).trans HKD.out
    refine ⟨by simp, .inl ⟨_, _, rfl, run_takeDeferred hK3, ?_⟩⟩
    refine ⟨_, results_key rfl _ _ (n0 + 1 + 1) o1 o2 rfl ((KeyAt.stored HT.out _ _).grown (grownBy_putObj' _ D _) (by intro h; injection h with h; exact hne h.symm)), by rw [HO.out.1, HO.out.2]; rfl, ?_⟩
    have hb3 : Below n0 w (W.setCells (n0 + 1 + 1) 0 (kl o1 o2)) := below_setCells _ _ _ _ (hb05.trans HBl.out) (by omega)
    rw [← HN.out]
    exact hb3.trans (belowK_b (w := w) (by rw [HN.out]; exact Nat.le_refl _) _ D _ _ (by have := HD.out; have := HS5.out; have := HBn.out; have := HN.out; omega) hK3 rfl rfl)
  case stop =>
    rintro D c pre W _ _ h _
    exact h.elim

end Go.Proofs.Ytphhppdokdageaa
