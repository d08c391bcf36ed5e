/-
  fold: its contract.
-/
import Derived.Test.YtphhppdokdageaaFldB
namespace Go.Proofs.Ytphhppdokdageaa
open Go.RowKit Go.Shelf SP
attribute [local go_sem] Oper.semAt_some
set_option linter.unusedSimpArgs false
set_option linter.unusedVariables false

/-- The state after some portions. -/
def sta (stp : Nat × Nat → Nat × Nat → Nat × Nat) (s : Nat × Nat) (g : Nat → Nat) (n : Nat) (pre : List (Part n)) : Nat × Nat := pre.foldl (fun s x => stp s (pw g n x.1)) s
theorem sta_snoc (stp : Nat × Nat → Nat × Nat → Nat × Nat) (s : Nat × Nat) (g : Nat → Nat) (n : Nat) (pre : List (Part n)) (x : Part n) : sta stp s g n (pre ++ [x]) = stp (sta stp s g n pre) (pw g n x.1) := by simp [sta]
theorem foldl_ok' {stp : Nat × Nat → Nat × Nat → Nat × Nat} (hok : ∀ s p, Ok s → Ok p → Ok (stp s p)) {g : Nat → Nat} (hg : ∀ i, g i < 256) (n : Nat) : ∀ (pre : List (Part n)) (s : Nat × Nat), Ok s → Ok (pre.foldl (fun s x => stp s (pw g n x.1)) s)
  | [], _, h => h
  | x :: r, _, h => foldl_ok' hok hg n r _ (hok _ _ h (pw_ok hg n x.1))
theorem fld_range (stp : Nat × Nat → Nat × Nat → Nat × Nat) (s : Nat × Nat) (g : Nat → Nat) (n : Nat) : ∀ k, (List.range k).foldl (fun s j => stp s (pw g n j)) s = fld stp s g n k
  | 0 => rfl
  | k + 1 => by rw [List.range_succ, List.foldl_append, fld_range stp s g n k]; rfl
theorem sta_all (stp : Nat × Nat → Nat × Nat → Nat × Nat) (s : Nat × Nat) (g : Nat → Nat) (n : Nat) (xs : List (Part n)) (h : xs.map (·.1) = List.range (cnt n)) : sta stp s g n xs = fld stp s g n (cnt n) := by
  rw [← fld_range, ← h, List.foldl_map]; rfl

set_option maxRecDepth 100000 in
set_option maxHeartbeats 4000000 in
theorem fold_pos (gf : Nat) (cap : Array Value) (stp : Nat × Nat → Nat × Nat → Nat × Nat) (S T b off n c : Nat) (g : Nat → Nat) (w : World) (Env : World → Prop)
    (hS : S < M) (hT : T < M) (hg : ∀ i, g i < 256) (hn0 : 0 < n) (hn2 : n ≤ 1000000) (hn : n ≤ c) (hc : c ≤ maxLen) (hcell : ∀ i, i < n → w.cell? ⟨b, off + i, none⟩ = some (.int .u8 (g i : Int)))
    (hen : ∀ args w, (callFunc gf args).run Try.prog w = .ok (.enter gf args) w) (hEnv : ∀ W, Below w.heap.size w W → Env W) (hok : ∀ s p, Ok s → Ok p → Ok (stp s p))
    (hstp : ∀ (W : World) (s p : Nat × Nat), Env W → Ok s → Ok p → Calls Try.prog gf (#[.agg (kl s.1 s.2).toArray, .agg (kl p.1 p.2).toArray] ++ cap) W fun e w' => e = .returned (.agg (kl (stp s p).1 (stp s p).2).toArray) ∧ Below W.heap.size W w') :
    Calls Try.prog 43 #[.agg (kl S T).toArray, .slice (some ⟨b, off, none⟩) n c, .func (.func gf) #[] cap] w fun e w' => e = .returned (.agg (kl (fld stp (S, T) g n (cnt n)).1 (fld stp (S, T) g n (cnt n)).2).toArray) ∧ Below w.heap.size w w' := by
  have HST := Lib.hid (And.intro hS hT)
  obtain ⟨n0, hn0'⟩ : ∃ n0, n0 = w.heap.size := ⟨_, rfl⟩
  have hbn : b < n0 := by rw [hn0']; exact World.block_lt_of_cell? w ⟨b, off + 0, none⟩ (hcell 0 hn0)
  obtain ⟨F, hF⟩ : ∃ F : Value, F = .func (.func gf) #[] cap := ⟨_, rfl⟩
  obtain ⟨W3, hW3⟩ : ∃ W3, W3 = ((w.alloc (.cells (kl S T).toArray 23)).alloc (.cells #[.func (.func gf) #[] cap] 37)).alloc (.cells z16 23) := ⟨_, rfl⟩
  have HB3 : Hid (Below n0 w W3) := Lib.hid (by rw [hW3, hn0']; exact (((Below.refl _ _).alloc (Nat.le_refl _) _).alloc (by simp) _).alloc (by simp; omega) _)
  have HS3 : Hid (W3.heap.size = n0 + 3) := Lib.hid (by rw [hW3, hn0']; simp)
  have HR1 : Hid (Row W3 n0 (kby S T)) := Lib.hid (by rw [hW3, hn0']; exact ((Row.keyNew w S T 23).keep ((Below.refl _ _).alloc (Nat.le_refl _) _)).keep ((Below.refl _ _).alloc (Nat.le_refl _) _))
  have HC : Hid (W3.cell? ⟨n0 + 1, 0, none⟩ = some (.func (.func gf) #[] cap)) := Lib.hid (by
    have h := box_new (w.alloc (.cells (kl S T).toArray 23)) (.func (.func gf) #[] cap) 37
    rw [World.size_alloc] at h
    have hb : Below (w.heap.size + 2) ((w.alloc (.cells (kl S T).toArray 23)).alloc (.cells #[.func (.func gf) #[] cap] 37)) W3 := by rw [hW3]; exact (Below.refl _ _).alloc (by simp) _
    rw [hn0']
    exact (hb.cell (p := ⟨w.heap.size + 1, 0, none⟩) (by show w.heap.size + 1 < w.heap.size + 2; omega)).trans h.1)
  have HR6 : Hid (Row W3 (n0 + 2) (fun _ => 0)) := Lib.hid (by
    have h := Row.zeros ((w.alloc (.cells (kl S T).toArray 23)).alloc (.cells #[.func (.func gf) #[] cap] 37)) 23
    rw [World.size_alloc, World.size_alloc] at h
    rw [hW3, hn0']; exact h)
  have HW := Lib.hid hW3
  have HN := Lib.hid hn0'
  have HCELL := Lib.hid hcell
  rw [← hn0'] at hEnv
  clear hW3 hS hT hcell hn0'
  refine (callsIn_wide (n := 4)).1 (callsIn_of_wp_marks Try.func43 rfl trivial ?_ rfl)
  simp only [Try.ntmps43, List.size_toArray, List.length_cons, List.length_nil, Nat.reduceAdd, Nat.reduceSub, Array.replicate_succ, Array.replicate_zero, List.push_toArray, List.append_toArray, List.nil_append, List.cons_append]
  refine wpIn_wide.2 ?_
  go_wp2_with fail
  rw [← HW.out]
  refine (chunk_any (some ⟨b, off, none⟩) n c W3).mono ?_
  rintro e w' ⟨rfl, rfl⟩
  rw [← HN.out]
  obtain ⟨B, hB⟩ : ∃ B, B = W3.heap.size := ⟨_, rfl⟩
  rw [← hB]
  obtain ⟨W5, hW5⟩ : ∃ W5, W5 = (W3.alloc (.cells #[.slice (some ⟨b, off, none⟩) n c] 26)).alloc (.cells #[.int .i64 16] 3) := ⟨_, rfl⟩
  rw [← hW5]
  have hBn : B = n0 + 3 := by rw [hB, HS3.out]
  have q1 := box_new W3 (.slice (some ⟨b, off, none⟩) n c) 26
  have q2 := box_new (W3.alloc (.cells #[.slice (some ⟨b, off, none⟩) n c] 26)) (.int .i64 16) 3
  rw [World.size_alloc] at q2
  have hb5 : Below B W3 W5 := by rw [hW5, hB]; exact ((Below.refl _ _).alloc (Nat.le_refl _) _).alloc (by simp) _
  have hb6 : Below (B + 1) (W3.alloc (.cells #[.slice (some ⟨b, off, none⟩) n c] 26)) W5 := by rw [hW5, hB]; exact (Below.refl _ _).alloc (by simp) _
  have g1 : W5.cell? ⟨B, 0, none⟩ = some (.slice (some ⟨b, off, none⟩) n c) := (hb6.cell (p := ⟨B, 0, none⟩) (by show B < B + 1; omega)).trans (by rw [hB]; exact q1.1)
  have g2 : W5.cell? ⟨B + 1, 0, none⟩ = some (.int .i64 16) := by rw [hW5, hB]; exact q2.1
  have hS5 : W5.heap.size = B + 2 := by rw [hW5, hB]; simp
  have hr1 : Row W5 n0 (kby S T) := HR1.out.below hb5 (by omega)
  have hc5 : W5.cell? ⟨n0 + 1, 0, none⟩ = some (.func (.func gf) #[] cap) := (hb5.cell (p := ⟨n0 + 1, 0, none⟩) (by show n0 + 1 < B; omega)).trans HC.out
  have hr6 : Row W5 (n0 + 2) (fun _ => 0) := HR6.out.below hb5 (by omega)
  have hb05 : Below n0 w W5 := HB3.out.trans (hb5.mono (by omega))
  have HBn := Lib.hid hBn
  have HS5 := Lib.hid hS5
  have hch := chunk_stops 3 (by omega) b off n c B W5 hn2 hn hc g1 g2
  clear hW5 hB q1 q2 hb5 hb6 hBn
  go_wp2_with fail
  refine (wpIn_wide (n := 4)).1 ?_
  refine wpIn_rangeFunc_ownF rfl (n := 4) (by omega) (gf := 68) (lb := #[.pointer (some ⟨B, 0, none⟩), .pointer (some ⟨B + 1, 0, none⟩)]) rfl trivial (enters_of Try.func68 (by kernel_rfl) rfl)
    hch (fun h k => ⟨k.1.trans h.1, k.2.trans h.2⟩) (fun W l o o' hl _ _ _ => ⟨World.putObj_heap_other (by rw [HS5.out] at hl; omega), World.putObj_heap_other (by rw [HS5.out] at hl; omega)⟩) (Below.refl _ _) (fun _ => rfl)
    (fun pre W => (Row W n0 (kby (sta stp (S, T) g n pre).1 (sta stp (S, T) g n pre).2) ∧ W.cell? ⟨n0 + 1, 0, none⟩ = some (.func (.func gf) #[] cap) ∧ Row W (n0 + 2) (fun _ => 0)) ∧ Below n0 W5 W)
    (fun _ _ _ => False)
    (OwnFrom.and (Own.from (fun s A B row hs hg hr => ⟨hs.1.kept hg hr, cell_kept hs.2.1 hg hr, hs.2.2.kept hg hr⟩) _) (ownFrom_below (by rw [HS5.out, HBn.out]; omega) (by rw [HS5.out, HBn.out]; omega)))
    (fun _ _ _ _ _ hs _ _ => hs)
    ⟨⟨hr1, hc5, hr6⟩, Below.refl _ _⟩
    (fun x => { tmps := #[.agg (kl S T).toArray, .slice (some ⟨b, off, none⟩) n c, .func (.func gf) #[] cap, .pointer (some ⟨n0, 0, none⟩), undef, .pointer (some ⟨n0 + 1, 0, none⟩), .pointer (some ⟨n0 + 1 + 1, 0, none⟩), .slice (some ⟨b, off + 16 * x.1, none⟩) (pln n x.1) (pln n x.1), undef, .slice (some ⟨b, off, none⟩) n c, .func (.func 68) #[] #[.pointer (some ⟨B, 0, none⟩), .pointer (some ⟨B + 1, 0, none⟩)], .slice (some ⟨b, off + 16 * x.1, none⟩) (pln n x.1) (pln n x.1), undef, undef, undef, undef, undef, undef, undef, undef], defers := [] }) ?assign ?body ?done ?stop
  case assign =>
    intro l x W K hK
    unfold pencs
    gi_wp2
    exact hK
  case body =>
    rintro l pre x W ⟨⟨h1, h2, h3⟩, hBl⟩ hlen
    obtain ⟨p, hp⟩ : ∃ p, p = pln n x.1 := ⟨_, rfl⟩
    obtain ⟨q, hq⟩ : ∃ q, q = off + 16 * x.1 := ⟨_, rfl⟩
    rw [← hp, ← hq]
    have hp16 : p ≤ 16 := by rw [hp]; unfold pln; omega
    have hxn := x.2
    obtain ⟨W1, hW1⟩ : ∃ W1, W1 = W.alloc (.cells z16 23) := ⟨_, rfl⟩
    have hc1 : ∀ i, i < n → W.cell? ⟨b, off + i, none⟩ = some (.int .u8 (g i : Int)) := fun i hi => ((hb05.trans hBl).cell (p := ⟨b, off + i, none⟩) hbn).trans (HCELL.out i hi)
    have hW1r : Row W1 W.heap.size (fun _ => 0) := by rw [hW1]; exact Row.zeros W 23
    have hbW : b < W.heap.size := Nat.lt_of_lt_of_le hbn (by have := hBl.size; rw [HS5.out, HBn.out] at this; omega)
    have hnW : n0 + 4 < W.heap.size := by have := hBl.size; rw [HS5.out, HBn.out] at this; omega
    have hA1 : Below W.heap.size W W1 := by rw [hW1]; exact (Below.refl _ _).alloc (Nat.le_refl _) _
    have hcp := fun ty => run_copy_cells (P := Try.prog) W1 26 26 ty 5 W.heap.size 0 16 16 ⟨b, q, none⟩ p p (bl ((List.range p).map fun j => g (16 * x.1 + j))) Try.underlying26 (by kernel_rfl) (by simp [bl]; exact (Nat.min_eq_left hp16).symm)
      (fun j v hv => by
        have hj : j < p := by have := (List.getElem?_eq_some_iff.1 hv).1; simpa [bl] using this
        have e : v = .int .u8 (g (16 * x.1 + j) : Int) := by simpa [bl, u8, List.getElem?_map, List.getElem?_range hj] using hv.symm
        rw [Addr.add_mid, e, hq, Nat.add_assoc, hA1.cell (p := ⟨b, off + (16 * x.1 + j), none⟩) hbW]
        exact hc1 _ (by rw [hp] at hj; unfold pln at hj; omega))
      (fun j hj => by rw [Nat.zero_add, hW1r.cell j (by simp [bl] at hj; omega)]; rfl) (fun j hj => by rw [Nat.zero_add]; exact hW1r.fr j (by simp [bl] at hj; omega))
      (fun v hv => by obtain ⟨d, _, rfl⟩ := List.mem_map.1 hv; rfl)
    obtain ⟨cs, hcs⟩ : ∃ cs, cs = bl ((List.range p).map fun j => g (16 * x.1 + j)) := ⟨_, rfl⟩
    obtain ⟨N, hN⟩ : ∃ N, N = W.heap.size := ⟨_, rfl⟩
    have HPK := portion_copied W g hg n x.1 p hxn hp W1 hW1
    rw [← hcs] at hcp HPK
    obtain ⟨W2, hW2⟩ : ∃ W2, W2 = W1.setCells W.heap.size 0 cs := ⟨_, rfl⟩
    rw [← hW2] at HPK hcp
    have hA2 : Below W.heap.size W W2 := by rw [hW2]; exact below_setCells _ _ _ _ hA1 (Nat.le_refl _)
    have r1 := h1.below hA2 (by omega)
    have r6 := h3.below hA2 (by omega)
    have r5 := (hA2.cell (p := ⟨n0 + 1, 0, none⟩) (by show n0 + 1 < W.heap.size; omega)).trans h2
    have hsz2 : W2.heap.size = W.heap.size + 1 := by rw [hW2, size_setCells, hW1]; simp
    have ko : KeepsOthers W W2 := by rw [hW2, hW1]; exact (KeepsOthers.alloc _ _).trans (KeepsOthers.setCells _ _ _ _)
    have hoks := foldl_ok' hok hg n pre (S, T) ⟨HST.out.1, HST.out.2⟩
    have hw2 : Below n0 w W2 := (hb05.trans hBl).trans (hA2.mono (by omega))
    have HST2 := Lib.hid (hstp W2 (sta stp (S, T) g n pre) (pw g n x.1) (hEnv W2 hw2) hoks (pw_ok hg n x.1))
    have hsn := sta_snoc stp (S, T) g n pre x
    obtain ⟨s1, hs1⟩ : ∃ s1, s1 = (sta stp (S, T) g n pre).1 := ⟨_, rfl⟩
    obtain ⟨s2, hs2⟩ : ∃ s2, s2 = (sta stp (S, T) g n pre).2 := ⟨_, rfl⟩
    obtain ⟨p1, hp1⟩ : ∃ p1, p1 = (pw g n x.1).1 := ⟨_, rfl⟩
    obtain ⟨p2, hp2⟩ : ∃ p2, p2 = (pw g n x.1).2 := ⟨_, rfl⟩
    have hstx : stp (sta stp (S, T) g n pre) (pw g n x.1) = sta stp (S, T) g n (pre ++ [x]) := hsn.symm
    rw [hstx] at HST2
    obtain ⟨o1, ho1⟩ : ∃ o1, o1 = (sta stp (S, T) g n (pre ++ [x])).1 := ⟨_, rfl⟩
    obtain ⟨o2, ho2⟩ : ∃ o2, o2 = (sta stp (S, T) g n (pre ++ [x])).2 := ⟨_, rfl⟩
    rw [← hs1, ← hs2, ← hp1, ← hp2, ← ho1, ← ho2] at HST2
    rw [← hp1, ← hp2] at HPK
    rw [← hs1, ← hs2] at r1
    have HPK' := Lib.hid HPK
    have R1 := Lib.hid r1
    have R1k : Hid (KeyAt W2 n0 s1 s2) := Lib.hid (r1.key fun j hj => rfl)
    have R6 := Lib.hid r6
    have HW2 := Lib.hid hW2
    have HO := Lib.hid (And.intro ho1 ho2)
    have HKO := Lib.hid ko
    have HA2 := Lib.hid hA2
    have HSZ2 := Lib.hid hsz2
    have HBl := Lib.hid hBl
    have HW2B := Lib.hid hw2
    rw [hW1] at hcp
    clear hp hq hc1 hW1r hbW hA1 HPK r1 r6 hW2 ho1 ho2 hs1 hs2 hp1 hp2 hstx hsn hoks hcs hA2 ko hN hsz2 h1 h2 h3 hBl hw2 hxn hW1
    gi_wp2_with (first
      | (refine wpListIn_load_key rfl _ rfl n0 rfl _ _ R1k.out ?_)
      | (refine wpListIn_load_key rfl _ rfl W.heap.size rfl _ _ HPK'.out ?_))
    refine ⟨trivial, (CallsIn.inRound l (callsIn_wide.2 HST2.out)).mono ?_⟩
    rintro e w6 ⟨rfl, hb6⟩
    have ht6 := there_below R1.out.there hb6 R1.out.lt
    have HT6 := Lib.hid ht6
    have HB6 := Lib.hid hb6
    clear ht6 hb6
    gi_wp2_with (refine wpListIn_store_key rfl _ _ rfl n0 o1 o2 rfl rfl HT6.out ?_)
    have hlt : n0 < w6.heap.size := Nat.lt_of_lt_of_le R1.out.lt HB6.out.size
    refine ⟨(HKO.out.trans (KeepsOthers.of_below HB6.out)).trans (KeepsOthers.setCells _ _ _ _), ⟨?_, ?_⟩, ⟨?_, ?_, ?_⟩, below_setCells _ _ _ _ ((HBl.out.trans (HA2.out.mono (by omega))).trans (HB6.out.mono (by rw [HSZ2.out]; omega))) (Nat.le_refl _)⟩
    · rw [heap_setCells_ne _ _ _ _ _ (by rw [HBn.out]; omega), HB6.out.block B (by rw [HSZ2.out, HBn.out]; omega), HA2.out.block B (by rw [HBn.out]; omega)]
    · rw [heap_setCells_ne _ _ _ _ _ (by rw [HBn.out]; omega), HB6.out.block (B + 1) (by rw [HSZ2.out, HBn.out]; omega), HA2.out.block (B + 1) (by rw [HBn.out]; have := HBl.out.size; rw [HS5.out, HBn.out] at this; omega)]
    · rw [← HO.out.1, ← HO.out.2]; exact Row.stored HT6.out o1 o2
    · rw [World.cell?_setCells_out _ _ _ _ _ (fun e _ => absurd e (by show n0 + 1 ≠ n0; omega))]
      exact (HB6.out.cell (p := ⟨n0 + 1, 0, none⟩) (by show n0 + 1 < W2.heap.size; rw [HSZ2.out]; omega)).trans r5
    · exact (R6.out.keep HB6.out).setCells n0 _ _ (by omega)
  case done =>
    rintro D ys W hD hys ⟨⟨h1, h2, h3⟩, hBl⟩ hK
    rw [sta_all stp (S, T) g n ys hys] at h1
    obtain ⟨o1, ho1⟩ : ∃ o1, o1 = (fld stp (S, T) g n (cnt n)).1 := ⟨_, rfl⟩
    obtain ⟨o2, ho2⟩ : ∃ o2, o2 = (fld stp (S, T) g n (cnt n)).2 := ⟨_, rfl⟩
    rw [← ho1, ← ho2] at h1
    have HK1 : Hid (KeyAt W n0 o1 o2) := Lib.hid (h1.key fun j hj => rfl)
    have HT := Lib.hid h3.there
    have HKD := Lib.hid hK
    have HO := Lib.hid (And.intro ho1 ho2)
    have HBl := Lib.hid hBl
    have HD := Lib.hid hD
    clear h1 h2 h3 hK ho1 ho2 hBl hD hys
    go_wp2_with (first
      | (refine wpList_load_key rfl _ rfl n0 rfl _ _ HK1.out ?_)
      | (refine wpList_store_key rfl _ _ rfl (n0 + 1 + 1) o1 o2 rfl rfl HT.out ?_))
    have hne : D ≠ n0 + 1 + 1 := by have := HD.out; rw [HS5.out, HBn.out] at this; omega
    have hK3 : (W.setCells (n0 + 1 + 1) 0 (kl o1 o2)).heap[D]? = some (.deferred (some [])) := (heap_setCells_ne _ _ _ _ D hne).trans HKD.out
    refine ⟨by simp, .inl ⟨_, _, rfl, run_takeDeferred hK3, ?_⟩⟩
    refine ⟨_, results_key rfl _ _ (n0 + 1 + 1) o1 o2 rfl ((KeyAt.stored HT.out _ _).grown (grownBy_putObj' _ D _) (by intro h; injection h with h; exact hne h.symm)), by rw [HO.out.1, HO.out.2], ?_⟩
    have hb3 : Below n0 w (W.setCells (n0 + 1 + 1) 0 (kl o1 o2)) := below_setCells _ _ _ _ (hb05.trans HBl.out) (by omega)
    rw [← HN.out]
    exact hb3.trans (belowK_b (w := w) (by rw [HN.out]; exact Nat.le_refl _) _ D _ _ (by have := HD.out; have := HS5.out; have := HBn.out; have := HN.out; omega) hK3 rfl rfl)
  case stop =>
    rintro D c pre W _ _ h _
    exact h.elim

end Go.Proofs.Ytphhppdokdageaa
