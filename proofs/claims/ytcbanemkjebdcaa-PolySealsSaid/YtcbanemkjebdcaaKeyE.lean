/-
  Contract of Encrypt.
-/
import Derived.Test.YtcbanemkjebdcaaKeyD
import Derived.Deep.Heap
namespace Go.Proofs.Ytcbanemkjebdcaa
open Go.RowKit Go.Shelf SP
attribute [local go_sem] Oper.semAt_some

theorem box_new (W : World) (v : Value) (t : TypeId) : (W.alloc (.cells #[v] t)).cell? ⟨W.heap.size, 0, none⟩ = some v ∧ (W.alloc (.cells #[v] t)).frozen? ⟨W.heap.size, 0, none⟩ = false :=
  ⟨by rw [cell_of_row _ _ 0 _ t _ (heap_alloc_new W _)]; rfl, by unfold World.frozen?; rw [heap_alloc_new]; simp⟩
theorem heap_setCells_ne : ∀ (vs : List Value) (b o : Nat) (w : World) (k : Nat), k ≠ b → (w.setCells b o vs).heap[k]? = w.heap[k]?
  | [], _, _, _, _, _ => rfl
  | v :: r, b, o, w, k, h => by
    rw [World.setCells, heap_setCells_ne r b (o + 1) _ k h]
    exact Go.Deep.blk_setCell_other w ⟨b, o, none⟩ v k h
theorem KeyAt.grown {w w' : World} {b X Y : Nat} {row : Option Nat} (h : KeyAt w b X Y) (hg : w.grownBy w' row) (hb : some b ≠ row) : KeyAt w' b X Y := fun j v hv => by
  rw [World.cell?_of_block (hg.block b h.lt hb)]; exact h j v hv
/-- The words after some rounds. -/
def stp (A B : Nat) (pre : List W64) : Nat × Nat := pre.foldl (fun s k => rd s k.1) (A, B)
theorem stp_snoc (A B : Nat) (pre : List W64) (x : W64) : stp A B (pre ++ [x]) = rd (stp A B pre) x.1 := by simp [stp]
theorem foldl_ok : ∀ (pre : List W64) (s : Nat × Nat), Ok s → Ok (pre.foldl (fun s k => rd s k.1) s)
  | [], _, h => h
  | k :: r, _, h => foldl_ok r _ (rd_ok h k.2)
theorem stp_ok {A B : Nat} (pre : List W64) (hA : A < M) (hB : B < M) : Ok (stp A B pre) := foldl_ok pre _ ⟨hA, hB⟩
theorem foldl_rk (X Y A B : Nat) : ∀ k, ((List.range k).map (rk X Y)).foldl rd (A, B) = est X Y A B k
  | 0 => rfl
  | k + 1 => by rw [List.range_succ, List.map_append, List.foldl_append, foldl_rk X Y A B k]; rfl
theorem stp_all (X Y A B : Nat) (xs : List W64) (h : xs.map (·.1) = (List.range 32).map (rk X Y)) : stp A B xs = enc X Y A B := by
  have h1 : stp A B xs = (xs.map (·.1)).foldl rd (A, B) := by unfold stp; rw [List.foldl_map]
  rw [h1, h, foldl_rk]; rfl

set_option maxRecDepth 100000 in
set_option maxHeartbeats 2000000 in
theorem encrypt_any (X Y A B : Nat) (w : World) (hX : X < M) (hY : Y < M) (hA : A < M) (hB : B < M) :
    Calls Try.prog 59 #[.agg (kl X Y).toArray, .agg (kl A B).toArray] w fun e w' => e = .returned (.agg (kl (enc X Y A B).1 (enc X Y A B).2).toArray) ∧ Below w.heap.size w w' := by
  have HX := Lib.hid hX
  have HY := Lib.hid hY
  have HA := Lib.hid hA
  have HB := Lib.hid hB
  clear hX hY hA hB
  obtain ⟨W3, HW3⟩ : ∃ W3, Hid (W3 = ((w.alloc (.cells (kl X Y).toArray 23)).alloc (.cells (kl A B).toArray 23)).alloc (.cells z16 23)) := ⟨_, Lib.hid rfl⟩
  have HBel : Hid (Below w.heap.size w W3) := Lib.hid (by rw [HW3.out]; exact (((Below.refl _ _).alloc (Nat.le_refl _) _).alloc (by simp) _).alloc (by simp; omega) _)
  have HS : Hid (W3.heap.size = w.heap.size + 3) := Lib.hid (by rw [HW3.out]; simp)
  have HK1 : Hid (KeyAt W3 w.heap.size X Y) := Lib.hid (by rw [HW3.out]; exact ((KeyAt.new w X Y 23).alloc _).alloc _)
  have HK2 : Hid (KeyAt W3 (w.heap.size + 1) A B) := Lib.hid (by
    have h := (KeyAt.new (w.alloc (.cells (kl X Y).toArray 23)) A B 23).alloc (.cells z16 23)
    rw [World.size_alloc] at h
    rw [HW3.out]; exact h)
  have HR : Hid (W3.there (w.heap.size + 2) 0 16) := Lib.hid (by
    have h := (Row.zeros ((w.alloc (.cells (kl X Y).toArray 23)).alloc (.cells (kl A B).toArray 23)) 23).there
    rw [World.size_alloc, World.size_alloc] at h
    rw [HW3.out]; exact h)
  refine (callsIn_wide (n := 4)).1 (callsIn_of_wp_marks Try.func59 rfl trivial ?_ rfl)
  simp only [Try.ntmps59, List.size_toArray, List.length_cons, List.length_nil, Nat.reduceAdd, Nat.reduceSub, Array.replicate_succ, Array.replicate_zero, List.push_toArray, List.append_toArray, List.nil_append, List.cons_append]
  refine wpIn_wide.2 ?_
  go_wp2_with (refine wpList_load_key rfl _ rfl _ rfl A B (by rw [← HW3.out]; exact HK2.out) ?_)
  rw [← HW3.out]
  refine (split_any A B W3 HA.out HB.out).mono ?_
  rintro e w1 ⟨rfl, hb1⟩
  have HK1' := Lib.hid (HK1.out.keep hb1)
  go_wp2_with (refine wpList_load_key rfl _ rfl _ rfl X Y ?_ ?_; exact ((HK1'.out.alloc _).alloc _))
  refine (roundKeys_any X Y _).mono ?_
  rintro e w' ⟨rfl, rfl⟩
  go_wp2_with fail
  obtain ⟨n1, hn1⟩ : ∃ n1, n1 = w1.heap.size := ⟨_, rfl⟩
  obtain ⟨W5, hW5⟩ : ∃ W5, W5 = ((w1.alloc (.cells #[.int .u64 (A : Int)] 24)).alloc (.cells #[.int .u64 (B : Int)] 24)).alloc (.cells (kl X Y).toArray 23) := ⟨_, rfl⟩
  have hB5 : Below n1 w1 W5 := by rw [hW5, hn1]; exact (((Below.refl _ _).alloc (Nat.le_refl _) _).alloc (by simp) _).alloc (by simp; omega) _
  have hS5 : W5.heap.size = n1 + 3 := by rw [hW5, hn1]; simp
  have b1 := box_new w1 (.int .u64 (A : Int)) 24
  have b2 := box_new (w1.alloc (.cells #[.int .u64 (A : Int)] 24)) (.int .u64 (B : Int)) 24
  have B1 : Below (n1 + 1) (w1.alloc (.cells #[.int .u64 (A : Int)] 24)) W5 := by rw [hW5, hn1]; exact ((Below.refl _ _).alloc (by simp) _).alloc (by simp) _
  have B2 : Below (n1 + 2) ((w1.alloc (.cells #[.int .u64 (A : Int)] 24)).alloc (.cells #[.int .u64 (B : Int)] 24)) W5 := by rw [hW5, hn1]; exact (Below.refl _ _).alloc (by simp) _
  rw [World.size_alloc] at b2
  rw [← hn1] at b1 b2
  have c1 := (B1.cell (p := ⟨n1, 0, none⟩) (by show n1 < n1 + 1; omega)).trans b1.1
  have f1 := (B1.frozen (p := ⟨n1, 0, none⟩) (by show n1 < n1 + 1; omega)).trans b1.2
  have c2 := (B2.cell (p := ⟨n1 + 1, 0, none⟩) (by show n1 + 1 < n1 + 2; omega)).trans b2.1
  have f2 := (B2.frozen (p := ⟨n1 + 1, 0, none⟩) (by show n1 + 1 < n1 + 2; omega)).trans b2.2
  have k5 : KeyAt W5 (n1 + 2) X Y := by
    have h := KeyAt.new ((w1.alloc (.cells #[.int .u64 (A : Int)] 24)).alloc (.cells #[.int .u64 (B : Int)] 24)) X Y 23
    rw [World.size_alloc, World.size_alloc] at h
    rw [hW5, hn1]; exact h
  rw [← hW5, ← hn1]
  have hn1' : w.heap.size + 3 ≤ n1 := by rw [hn1, ← HS.out]; exact hb1.size
  have hbw : Below w.heap.size w w1 := HBel.out.trans (hb1.mono (by rw [HS.out]; omega))
  have hth : w1.there (w.heap.size + 2) 0 16 := there_below HR.out hb1 (by rw [HS.out]; omega)
  have HN := Lib.hid hn1
  clear hW5 hn1 b1 b2 B1 B2
  refine (wpIn_wide (n := 4)).1 ?_
  refine wpIn_rangeFunc_ownF rfl (n := 4) (by omega) (gf := 142) (lb := #[.pointer (some ⟨n1 + 1 + 1, 0, none⟩)]) rfl trivial (enters_of Try.func142 (by kernel_rfl) rfl)
    (keys_stops 3 (by omega) X Y (n1 + 2) W5 HX.out HY.out k5) (fun _ _ => trivial) (fun _ _ _ _ _ _ _ _ => trivial) (Below.refl _ _) (fun _ => rfl)
    (fun pre W => (W.cell? ⟨n1, 0, none⟩ = some (.int .u64 ((stp A B pre).1 : Int)) ∧ W.frozen? ⟨n1, 0, none⟩ = false ∧ W.cell? ⟨n1 + 1, 0, none⟩ = some (.int .u64 ((stp A B pre).2 : Int)) ∧ W.frozen? ⟨n1 + 1, 0, none⟩ = false) ∧ Below n1 w1 W)
    (fun _ _ _ => False)
    (OwnFrom.and (Own.from (fun s A B row hs hg hr => ⟨cell_kept hs.1 hg hr, (frozen_kept hs.1 hg hr).trans hs.2.1, cell_kept hs.2.2.1 hg hr, (frozen_kept hs.2.2.1 hg hr).trans hs.2.2.2⟩) _) (ownFrom_below (by rw [HN.out]; exact Nat.le_refl _) (by rw [hS5]; omega)))
    (fun _ _ _ _ _ hs _ _ => hs)
    ⟨⟨c1, f1, c2, f2⟩, hB5⟩
    (fun x => { tmps := #[.agg (kl X Y).toArray, .agg (kl A B).toArray, .pointer (some ⟨w.heap.size, 0, none⟩), .pointer (some ⟨w.heap.size + 1, 0, none⟩), .pointer (some ⟨w.heap.size + 1 + 1, 0, none⟩), .pointer (some ⟨n1, 0, none⟩), .pointer (some ⟨n1 + 1, 0, none⟩), .int .u64 (x.1 : Int), .tuple #[.int .u64 (A : Int), .int .u64 (B : Int)], .agg (kl A B).toArray, .tuple #[.int .u64 (A : Int), .int .u64 (B : Int)], .int .u64 (A : Int), .int .u64 (B : Int), .agg (kl X Y).toArray, .func (.func 142) #[] #[.pointer (some ⟨n1 + 1 + 1, 0, none⟩)], .int .u64 (x.1 : Int), undef, undef, undef, undef, undef, undef, undef, undef, undef, undef], defers := [] }) ?assign ?body ?done ?stop
  case assign =>
    intro l x W K hK
    unfold encs
    gi_wp2
    exact hK
  case body =>
    rintro l pre x W ⟨⟨h1, h2, h3, h4⟩, hB⟩ _
    have hok := stp_ok pre HA.out HB.out
    have hsn := stp_snoc A B pre x
    obtain ⟨p, hp⟩ : ∃ p, p = (stp A B pre).1 := ⟨_, rfl⟩
    obtain ⟨q, hq⟩ : ∃ q, q = (stp A B pre).2 := ⟨_, rfl⟩
    rw [← hp] at h1
    rw [← hq] at h3
    have HRND := Lib.hid (fun w => round_any p q x.1 w (by rw [hp]; exact hok.1) (by rw [hq]; exact hok.2) x.2)
    have HSN : Hid (stp A B (pre ++ [x]) = (rdX p q x.1, rdY p q x.1)) := Lib.hid (by rw [hsn, hp, hq]; rfl)
    clear hp hq hok hsn
    have hne : n1 ≠ n1 + 1 := by omega
    gi_wp2_with fail
    refine ⟨trivial, (CallsIn.inRound l (callsIn_wide.2 (HRND.out _))).mono ?_⟩
    rintro e w' ⟨rfl, rfl⟩
    gi_wp2_with fail
    refine ⟨((KeepsOthers.setCell _ _ _).trans (KeepsOthers.setCell _ _ _)), trivial, ⟨?_, ?_, ?_, ?_⟩, (hB.setCell (p := ⟨n1, 0, none⟩) (Nat.le_refl _) _).setCell (p := ⟨n1 + 1, 0, none⟩) (by show n1 ≤ n1 + 1; omega) _⟩
    · rw [HSN.out, World.cell?_setCell_other _ _ _ _ (by intro h; injection h with h; omega), World.cell?_setCell_same _ _ _ h1]
    · rw [World.frozen?_setCell, World.frozen?_setCell]; exact h2
    · rw [HSN.out, World.cell?_setCell_same _ _ _ ((World.cell?_setCell_other _ _ _ _ (by intro h; injection h with h; omega)).trans h3)]
    · rw [World.frozen?_setCell, World.frozen?_setCell]; exact h4
  case done =>
    rintro D ys W hD hys ⟨⟨h1, h2, h3, h4⟩, hB⟩ hK
    have hst : stp A B ys = enc X Y A B := stp_all X Y A B ys hys
    rw [hst] at h1 h3
    have HJ := Lib.hid (fun w => join_any (enc X Y A B).1 (enc X Y A B).2 w)
    go_wp2_with fail
    refine (HJ.out _).mono ?_
    rintro e w2 ⟨rfl, hb2⟩
    have hDs : D < W.heap.size := (Array.getElem?_eq_some_iff.1 hK).1
    have HB2 : Hid (Below n1 w1 w2) := Lib.hid (hB.trans (hb2.mono (by omega)))
    have HT := Lib.hid (there_below hth HB2.out (by omega))
    have HK2 := Lib.hid ((hb2.block D hDs).trans hK)
    clear hK hb2 h1 h2 h3 h4 hst
    go_wp2_with (refine wpList_store_key rfl _ _ rfl (w.heap.size + 1 + 1) _ _ rfl rfl HT.out ?_)
    have hne : D ≠ w.heap.size + 1 + 1 := by rw [hS5] at hD; omega
    have hK3 : (w2.setCells (w.heap.size + 1 + 1) 0 (kl (enc X Y A B).1 (enc X Y A B).2)).heap[D]? = some (.deferred (some [])) := (heap_setCells_ne _ _ _ _ D hne).trans HK2.out
    refine ⟨by simp, .inl ⟨_, _, rfl, run_takeDeferred hK3, ?_⟩⟩
    refine ⟨_, results_key rfl _ _ (w.heap.size + 1 + 1) (enc X Y A B).1 (enc X Y A B).2 rfl ((KeyAt.stored HT.out _ _).grown (grownBy_putObj' _ D _) (by show some (w.heap.size + 1 + 1) ≠ some D; intro h; injection h with h; exact hne h.symm)), rfl, ?_⟩
    have hb3 : Below w.heap.size w (w2.setCells (w.heap.size + 1 + 1) 0 (kl (enc X Y A B).1 (enc X Y A B).2)) := below_setCells _ _ _ _ (hbw.trans (HB2.out.mono (by omega))) (by omega)
    refine hb3.trans (belowK_b (w := w) (Nat.le_refl _) _ D _ _ (by rw [hS5] at hD; omega) hK3 rfl rfl)
  case stop =>
    rintro D c pre W _ _ h _
    exact h.elim

end Go.Proofs.Ytcbanemkjebdcaa
