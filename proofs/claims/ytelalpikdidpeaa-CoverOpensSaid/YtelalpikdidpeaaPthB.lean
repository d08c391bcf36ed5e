/-
  The first special node between two, the program's.
-/
import Derived.Test.YtelalpikdidpeaaPthA
namespace Go.Proofs.Ytelalpikdidpeaa
open Go.RowKit Go.Shelf TR
set_option linter.unusedVariables false
set_option linter.unusedSimpArgs false
attribute [local go_sem] Oper.semAt_some

theorem keeps_below {W W' : World} (h : Below W.heap.size W W') : KeepsOthers W W' :=
  ⟨h.size, fun k o hk _ => (h.block k (Array.getElem?_eq_some_iff.1 hk).1).trans hk⟩
theorem box_new (W : World) (v : Value) (t : TypeId) : (W.alloc (.cells #[v] t)).cell? ⟨W.heap.size, 0, none⟩ = some v ∧ (W.alloc (.cells #[v] t)).frozen? ⟨W.heap.size, 0, none⟩ = false :=
  ⟨by rw [cell_of_row _ _ 0 _ t _ (heap_alloc_new W _)]; rfl, by unfold World.frozen?; rw [heap_alloc_new]; simp⟩
theorem fsl_none (d y : Nat) : ∀ (n l : Nat), (∀ i, i < n → spc d (nat_ y (l + i)) = false) → fsl d y n l = 0
  | 0, _, _ => rfl
  | n + 1, l, h => by
    have h0 := h 0 (by omega)
    rw [Nat.add_zero] at h0
    rw [fsl, if_neg (by rw [h0]; decide)]
    exact fsl_none d y n (l + 1) (fun i hi => by have := h (i + 1) (by omega); rwa [show l + (i + 1) = l + 1 + i by omega] at this)
theorem fsl_stop (d y : Nat) : ∀ (k n l : Nat), k < n → (∀ i, i < k → spc d (nat_ y (l + i)) = false) → spc d (nat_ y (l + k)) = true → fsl d y n l = nat_ y (l + k)
  | 0, n + 1, l, _, _, h2 => by rw [Nat.add_zero] at h2; rw [fsl, if_pos h2, Nat.add_zero]
  | k + 1, n + 1, l, hk, h1, h2 => by
    have h0 := h1 0 (by omega)
    rw [Nat.add_zero] at h0
    rw [fsl, if_neg (by rw [h0]; decide), fsl_stop d y k n (l + 1) (by omega) (fun i hi => by have := h1 (i + 1) (by omega); rwa [show l + (i + 1) = l + 1 + i by omega] at this) (by rwa [show l + 1 + k = l + (k + 1) by omega])]
    rw [show l + 1 + k = l + (k + 1) by omega]
theorem pl_none {d y l n : Nat} {xs : List Nd} (h : xs.map (·.1) = pl y l n) (h2 : ∀ z ∈ xs, spc d z.1 = false) : ∀ i, i < n → spc d (nat_ y (l + i)) = false := by
  intro i hi
  have h3 : nat_ y (l + i) ∈ xs.map (·.1) := by rw [h]; exact List.mem_map.2 ⟨i, List.mem_range.2 hi, rfl⟩
  obtain ⟨z, hz, e⟩ := List.mem_map.1 h3
  rw [← e]; exact h2 z hz
theorem pl_stop {d y l n k : Nat} {pre : List Nd} {z : Nd} (hk : k ≤ n) (h : (pre ++ [z]).map (·.1) = pl y l k) (h2 : ∀ z ∈ pre, spc d z.1 = false) (h3 : spc d z.1 = true) : fsl d y n l = z.1 := by
  rcases k with _ | k
  · simp [pl] at h
  · rw [pl_snoc, List.map_append] at h
    obtain ⟨e1, e2⟩ := List.append_inj' h rfl
    have e3 : z.1 = nat_ y (l + k) := by simpa using e2
    rw [e3] at h3 ⊢
    exact fsl_stop d y k n l (by omega) (pl_none e1 h2) h3

set_option maxRecDepth 100000 in
set_option maxHeartbeats 2000000 in
theorem firstSpecial_any (K E : Int) (d v x P Q G : Nat) (w : World) (hd : d < 7) (h1 : 1 ≤ v) (hv : v < 256) (h2 : 2 ≤ x) (hx : x < 256) (hle : lv v ≤ lv (x / 2)) :
    Calls Try.prog 94 #[.agg #[.int .u8 K, .int .i64 (d : Int), .int .i64 E, .int .u64 (P : Int), .int .u64 (Q : Int), .int .u64 (G : Int)], .int .i64 (v : Int), .int .i64 (x : Int)] w fun e w' => e = .returned (.int .i64 (fsp d v x : Int)) ∧ Below w.heap.size w w' := by
  have HPa := Lib.hid (fun w => parent_any x w hx)
  have HLv := Lib.hid (fun w => level_any v w h1 hv)
  have HSp := Lib.hid (fun (z : Nd) (w : World) => isSpecial_any K E d z.1 P Q G w hd z.2.1 z.2.2)
  have HF : Hid (fsp d v x = fsl d (x / 2) (lv (x / 2) + 1 - (lv v + 1)) (lv v + 1)) := Lib.hid (by unfold fsp; rw [Nat.add_sub_add_right])
  have hl8 := lv_lt v hv
  have hy1 : 1 ≤ x / 2 := by omega
  have hy2 : x / 2 < 256 := by omega
  obtain ⟨R, hR⟩ : ∃ R, R = fsp d v x := ⟨_, rfl⟩
  rw [← hR] at HF ⊢
  obtain ⟨m, hm⟩ : ∃ m, m = lv v := ⟨_, rfl⟩
  obtain ⟨y, hy⟩ : ∃ y, y = x / 2 := ⟨_, rfl⟩
  rw [← hm] at HLv HF hl8 hle
  rw [← hy] at HPa HF hle hy1 hy2
  clear hR hm hy h1 hv h2 hx hd
  obtain ⟨N, hN⟩ : ∃ N, N = w.heap.size := ⟨_, rfl⟩
  obtain ⟨W2, hW2⟩ : ∃ W2, W2 = (w.alloc (.cells #[.int .u8 K, .int .i64 (d : Int), .int .i64 E, .int .u64 (P : Int), .int .u64 (Q : Int), .int .u64 (G : Int)] 28)).alloc (.cells #[.int .i64 0] 125) := ⟨_, rfl⟩
  obtain ⟨W4, hW4⟩ : ∃ W4, W4 = (W2.alloc (.cells #[.int .i64 (y : Int)] 125)).alloc (.cells #[.int .i64 ((m : Int) + 1)] 3) := ⟨_, rfl⟩
  have s2 : W2.heap.size = N + 2 := by rw [hW2, hN]; simp
  have s4 : W4.heap.size = N + 4 := by rw [hW4]; simp [s2]
  have b24 : Below (N + 2) W2 W4 := by rw [hW4]; exact ((Below.refl _ _).alloc (by rw [s2]; omega) _).alloc (by simp [s2]) _
  have b02 : Below N w W2 := by rw [hW2, hN]; exact ((Below.refl _ _).alloc (Nat.le_refl _) _).alloc (by simp) _
  have HB0 : Hid (Below N w W4) := Lib.hid (b02.trans (b24.mono (by omega)))
  have sc : SchAt W2 N K (d : Int) E P Q G := by rw [hW2, hN]; exact (SchAt.new w K (d : Int) E P Q G _).below ((Below.refl _ _).alloc (Nat.le_refl _) _) (by simp)
  have HSc : Hid (SchAt W4 N K (d : Int) E P Q G) := Lib.hid (sc.below b24 (by omega))
  have e1 := box_new (w.alloc (.cells #[.int .u8 K, .int .i64 (d : Int), .int .i64 E, .int .u64 (P : Int), .int .u64 (Q : Int), .int .u64 (G : Int)] 28)) (.int .i64 0) 125
  rw [← hW2, World.size_alloc, ← hN] at e1
  have HBx : Hid (W4.cell? ⟨N + 1, 0, none⟩ = some (.int .i64 0) ∧ W4.frozen? ⟨N + 1, 0, none⟩ = false) := Lib.hid ⟨(b24.cell (p := ⟨N + 1, 0, none⟩) (by show N + 1 < N + 2; omega)).trans e1.1, (b24.frozen (p := ⟨N + 1, 0, none⟩) (by show N + 1 < N + 2; omega)).trans e1.2⟩
  have e3 := box_new W2 (.int .i64 (y : Int)) 125
  have e4 := box_new (W2.alloc (.cells #[.int .i64 (y : Int)] 125)) (.int .i64 ((m : Int) + 1)) 3
  rw [s2] at e3
  rw [← hW4, World.size_alloc, s2] at e4
  have e3' : W4.cell? ⟨N + 2, 0, none⟩ = some (.int .i64 (y : Int)) := by
    rw [hW4]
    exact (((Below.refl (N + 3) (W2.alloc (.cells #[.int .i64 (y : Int)] 125))).alloc (by simp [s2]) _).cell (p := ⟨N + 2, 0, none⟩) (by show N + 2 < N + 3; omega)).trans e3.1
  have HBS := Lib.hid (path_stops 3 (by omega) (N + 3) (N + 2) y (m + 1) W4 hy1 hy2 (by omega) e3' (by rw [show ((m + 1 : Nat) : Int) = (m : Int) + 1 by omega]; exact e4.1))
  have HE4 : Hid (W4 = (((w.alloc (.cells #[.int .u8 K, .int .i64 (d : Int), .int .i64 E, .int .u64 (P : Int), .int .u64 (Q : Int), .int .u64 (G : Int)] 28)).alloc (.cells #[.int .i64 0] 125)).alloc (.cells #[.int .i64 (y : Int)] 125)).alloc (.cells #[.int .i64 ((m : Int) + 1)] 3)) := Lib.hid (by rw [hW4, hW2])
  have HS4 := Lib.hid s4
  have HN := Lib.hid hN
  rw [← hN]
  clear hW2 hW4 s2 s4 b24 b02 sc e1 e3 e4 e3' hN hy1 hy2
  refine (callsIn_wide (n := 4)).1 (callsIn_of_wp_marks Try.func94 rfl trivial ?_ rfl)
  simp only [Try.ntmps94, List.size_toArray, List.length_cons, List.length_nil, Nat.reduceAdd, Nat.reduceSub, Array.replicate_succ, Array.replicate_zero, List.push_toArray, List.append_toArray, List.nil_append, List.cons_append]
  refine wpIn_wide.2 ?_
  go_wp2_with fail
  refine (HPa.out _).mono ?_
  rintro e w' ⟨rfl, rfl⟩
  go_wp2_with fail
  refine (HLv.out _).mono ?_
  rintro e w' ⟨rfl, rfl⟩
  go_wp2_with fail
  refine (path_any _ _ _).mono ?_
  rintro e w' ⟨rfl, rfl⟩
  go_wp2_with fail
  rw [← HE4.out, ← HN.out]
  simp only [Nat.add_assoc, Nat.reduceAdd]
  refine (wpIn_wide (n := 4)).1 ?_
  refine wpIn_rangeFunc_ownF rfl (n := 4) (by omega) (gf := 133) (lb := #[.pointer (some ⟨N + 3, 0, none⟩), .pointer (some ⟨N + 2, 0, none⟩)]) rfl trivial (enters_of Try.func133 (by kernel_rfl) rfl)
    HBS.out (fun h k => ⟨k.1.trans h.1, k.2.trans h.2⟩) (fun W l o o' hl _ _ _ => ⟨World.putObj_heap_other (by rw [HS4.out] at hl; omega), World.putObj_heap_other (by rw [HS4.out] at hl; omega)⟩) (Below.refl _ _) (fun _ => rfl)
    (fun pre W => ((∀ z ∈ pre, spc d z.1 = false) ∧ W.cell? ⟨N + 1, 0, none⟩ = some (.int .i64 0) ∧ W.frozen? ⟨N + 1, 0, none⟩ = false) ∧ Below (N + 1) W4 W)
    (fun c pre W => (c = .ret ∧ ∃ pre' z, pre = pre' ++ [z] ∧ (∀ z ∈ pre', spc d z.1 = false) ∧ spc d z.1 = true ∧ W.cell? ⟨N + 1, 0, none⟩ = some (.int .i64 (z.1 : Int))) ∧ Below (N + 1) W4 W)
    (OwnFrom.and (Own.from (fun s A B row hs hg hr => ⟨hs.1, cell_kept hs.2.1 hg hr, (frozen_kept hs.2.1 hg hr).trans hs.2.2⟩) _) (ownFrom_below (by rw [HS4.out]; omega) (by rw [HS4.out]; omega)))
    (fun c => OwnFrom.and (Own.from (fun s A B row hs hg hr => by obtain ⟨hc, pre', z, e, a1, a2, a3⟩ := hs; exact ⟨hc, pre', z, e, a1, a2, cell_kept a3 hg hr⟩) _) (ownFrom_below (by rw [HS4.out]; omega) (by rw [HS4.out]; omega)))
    ⟨⟨by simp, HBx.out.1, HBx.out.2⟩, Below.refl _ _⟩
    (fun z => { tmps := #[.agg #[.int .u8 K, .int .i64 (d : Int), .int .i64 E, .int .u64 (P : Int), .int .u64 (Q : Int), .int .u64 (G : Int)], .int .i64 (v : Int), .int .i64 (x : Int), .pointer (some ⟨N, 0, none⟩), undef, undef, .pointer (some ⟨N + 1, 0, none⟩), .int .i64 (z.1 : Int), .int .i64 (x : Int), .int .i64 (y : Int), .int .i64 (v : Int), .int .i64 (m : Int), .int .i64 ((m : Int) + 1), .func (.func 133) #[] #[.pointer (some ⟨N + 3, 0, none⟩), .pointer (some ⟨N + 2, 0, none⟩)], .int .i64 (z.1 : Int), undef, undef, undef, undef], defers := [] }) ?assign ?body ?done ?stop
  case assign =>
    intro l z W K hK
    unfold nenc
    gi_wp2
    exact hK
  case body =>
    rintro l pre z W ⟨⟨hp, hc1, hf1⟩, hB⟩ _
    obtain ⟨c0, c1, c2, c3, c4, c5⟩ := HSc.out.below hB (by omega)
    have HP := Lib.hid hp
    have HS := Lib.hid (HSp.out z)
    have HC1 := Lib.hid (And.intro hc1 hf1)
    have hs : N + 4 ≤ W.heap.size := by rw [← HS4.out]; exact hB.size
    have HBB := Lib.hid (And.intro hB hs)
    clear hp hc1 hf1 hB hs
    rcases hsp : spc d z.1 with _ | _
    · have HZ := Lib.hid hsp
      rw [hsp] at HS
      clear hsp
      gi_wp2_with fail
      refine ⟨trivial, (CallsIn.inRound l (callsIn_wide.2 (HS.out _))).mono ?_⟩
      rintro e w' ⟨rfl, hb⟩
      have HW : Hid (w'.cell? ⟨N + 1, 0, none⟩ = some (.int .i64 0) ∧ w'.frozen? ⟨N + 1, 0, none⟩ = false) := Lib.hid ⟨(hb.cell (p := ⟨N + 1, 0, none⟩) (by show N + 1 < W.heap.size; have := HBB.out.2; omega)).trans HC1.out.1, (hb.frozen (p := ⟨N + 1, 0, none⟩) (by show N + 1 < W.heap.size; have := HBB.out.2; omega)).trans HC1.out.2⟩
      have HBz := Lib.hid hb
      clear hb c0 c1 c2 c3 c4 c5
      gi_wp2_with fail
      refine ⟨keeps_below HBz.out, ⟨HBz.out.block _ (by have := HBB.out.2; omega), HBz.out.block _ (by have := HBB.out.2; omega)⟩, ⟨fun u hu => ?_, HW.out.1, HW.out.2⟩, HBB.out.1.trans (HBz.out.mono (by have := HBB.out.2; omega))⟩
      rcases List.mem_append.1 hu with h | h
      · exact HP.out u h
      · simp at h; subst h; exact HZ.out
    · have HZ := Lib.hid hsp
      rw [hsp] at HS
      clear hsp
      gi_wp2_with fail
      refine ⟨trivial, (CallsIn.inRound l (callsIn_wide.2 (HS.out _))).mono ?_⟩
      rintro e w' ⟨rfl, hb⟩
      have z1 : w'.cell? ⟨N + 1, 0, none⟩ = some (.int .i64 0) := (hb.cell (p := ⟨N + 1, 0, none⟩) (by show N + 1 < W.heap.size; have := HBB.out.2; omega)).trans HC1.out.1
      have z2 : w'.frozen? ⟨N + 1, 0, none⟩ = false := (hb.frozen (p := ⟨N + 1, 0, none⟩) (by show N + 1 < W.heap.size; have := HBB.out.2; omega)).trans HC1.out.2
      have HBz := Lib.hid hb
      clear hb c0 c1 c2 c3 c4 c5
      gi_wp2_with fail
      exact ⟨(keeps_below HBz.out).trans (KeepsOthers.setCell _ _ _), ⟨rfl, pre, z, rfl, HP.out, HZ.out, World.cell?_setCell_same _ _ _ z1⟩, (HBB.out.1.trans (HBz.out.mono (by have := HBB.out.2; omega))).setCell (p := ⟨N + 1, 0, none⟩) (Nat.le_refl _) _⟩
  case done =>
    rintro D xs W hD hys ⟨⟨hp, hc1, hf1⟩, hB⟩ hK
    have hR : R = 0 := by rw [HF.out]; exact fsl_none d y _ _ (pl_none hys hp)
    subst hR
    go_wp2_with fail
    have hK' := (KeepsOthers.setCell W ⟨N + 1, 0, none⟩ (.int .i64 0)).same D _ hK rfl
    have hne : D ≠ N + 1 := by rw [HS4.out] at hD; omega
    have hc5 := cell_kept (World.cell?_setCell_same W ⟨N + 1, 0, none⟩ (.int .i64 0) hc1) (grownBy_putObj' _ D (.deferred none)) (fun r e => by cases e; exact ⟨_, hK', rfl⟩)
    refine ⟨by simp, .inl ⟨_, _, rfl, run_takeDeferred hK', ?_⟩⟩
    refine ⟨.int .i64 0, by simp [results, Try.results94, go_sem, hc5], rfl, ?_⟩
    exact (HB0.out.trans ((hB.mono (by omega)).setCell (p := ⟨N + 1, 0, none⟩) (by show N ≤ N + 1; omega) _)).trans (belowK_b (w := w) (by rw [HN.out]; exact Nat.le_refl _) _ D _ _ (by rw [HS4.out] at hD; rw [← HN.out]; omega) hK' rfl rfl)
  case stop =>
    rintro D c pre W hD ⟨k, hk, hpl⟩ ⟨⟨rfl, pre', z, rfl, a1, a2, a3⟩, hB⟩ hK
    have hR : R = z.1 := by rw [HF.out]; exact pl_stop hk hpl a1 a2
    subst hR
    gi_wp2_with fail
    have hc5 := cell_kept a3 (grownBy_putObj' _ D (.deferred none)) (fun r e => by cases e; exact ⟨_, hK, rfl⟩)
    refine ⟨by simp, .inl ⟨_, _, rfl, run_takeDeferred hK, ?_⟩⟩
    refine ⟨.int .i64 (z.1 : Int), by simp [results, Try.results94, go_sem, hc5], rfl, ?_⟩
    exact (HB0.out.trans (hB.mono (by omega))).trans (belowK_b (w := w) (by rw [HN.out]; exact Nat.le_refl _) _ D _ _ (by rw [HS4.out] at hD; rw [← HN.out]; omega) hK rfl rfl)
end Go.Proofs.Ytelalpikdidpeaa
