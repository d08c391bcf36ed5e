/-
  Decode, the program's.
-/
import Derived.Test.YtchkgccnipejhaaDecF
namespace Go.Proofs.Ytchkgccnipejhaa
open Go.RowKit TR L2 L2.SP
set_option linter.unusedVariables false
set_option linter.unusedSimpArgs false

/-- A number of eight bytes, with zeros where they end. -/
def nbS (L : Nat) (f : Nat → Nat) (p : Nat) : Nat := wd (fun i => flz L f (p + i)) 8
def pS (L : Nat) (f : Nat → Nat) (q i : Nat) : Nat × Nat := (nbS L f (q + 16 * i), nbS L f (q + 16 * i + 8))
def pP (L : Nat) (f : Nat → Nat) (q i : Nat) : Nat × Nat := (nbP L f (q + 16 * i), nbP L f (q + 16 * i + 8))
/-- Points as they lie in memory. -/
def pI (G : Nat → Nat × Nat) (i : Nat) : Int × Int := (((G i).1 : Int), ((G i).2 : Int))
/-- The bytes of what was read. -/
def dbs (L : Nat) (f : Nat → Nat) : List Value := hbs (hn0 L f) (nbS L f (1 + 18 * hn0 L f)) (hnp L f) (dF L f) (pS L f (10 + 18 * hn0 L f)) (kyF L f (10 + 18 * hn0 L f + 16 * hnp L f)) (kyF L f (26 + 18 * hn0 L f + 16 * hnp L f))
/-- Whether some bytes are an encoding. -/
def DckP (L : Nat) (f : Nat → Nat) : Prop := L = hln (hn0 L f) (hnp L f) ∧ ckn (hn0 L f) (hnp L f) (dF L f) = 0 ∧ dbs L f = byr f L
/-- The header that was read. -/
def dhd (L : Nat) (f : Nat → Nat) (v pv : Value) : List Value := hdi v pv ((nbS L f (1 + 18 * hn0 L f) : Nat) : Int) (kyF L f (10 + 18 * hn0 L f + 16 * hnp L f)) (kyF L f (26 + 18 * hn0 L f + 16 * hnp L f))
/-- What Decode answers. -/
def DcE (L : Nat) (f : Nat → Nat) (B : Nat) (e : Ending) (w' : World) : Prop :=
  (DckP L f ∧ ∃ v pv, e = .returned (.tuple #[.agg (dhd L f v pv).toArray, .int .i64 0]) ∧ w'.ownsRow B 90 18 v (hn0 L f) (lbF (dF L f) (hn0 L f)) ∧ w'.ownsRow B 70 2 pv (hnp L f) (ptF (pI (pS L f (10 + 18 * hn0 L f))) (hnp L f))) ∨ (¬ DckP L f ∧ e = .returned (.tuple #[.agg hd0, .int .i64 12]))
theorem nbP_eq (L : Nat) (f : Nat → Nat) (p : Nat) (h : p + 8 ≤ L) : nbP L f p = nbS L f p := by
  unfold nbP nbS
  rw [Nat.min_eq_left (by omega)]
  exact wd_congr _ _ 8 fun i hi => (flz_le _ _ _ (by omega)).symm
theorem wd_M (g : Nat → Nat) (hg : ∀ i, g i < 256) (k : Nat) (hk : k ≤ 8) : wd g k < M := by
  have h1 := wd_lt g hg k
  have h2 : (256 : Nat) ^ k ≤ 256 ^ 8 := Nat.pow_le_pow_right (by decide) hk
  have h3 : (256 : Nat) ^ 8 = M := by decide
  omega
theorem nbP_M (L : Nat) (f : Nat → Nat) (hf : ∀ i, f i < 256) (p : Nat) : nbP L f p < M := wd_M _ (fun i => hf _) _ (Nat.min_le_left _ _)
theorem nbS_M (L : Nat) (f : Nat → Nat) (hf : ∀ i, f i < 256) (p : Nat) : nbS L f p < M := wd_M _ (fun i => flz_lt L f hf _) 8 (by omega)
theorem ptF_congr (F G : Nat → Int × Int) : ∀ n, (∀ i, i < n → F i = G i) → ptF F n = ptF G n
  | 0, _ => rfl
  | n + 1, h => by rw [ptF_succ, ptF_succ, ptF_congr F G n (fun i hi => h i (by omega)), h n (by omega)]
theorem bst_same {n : Nat} {f g : Nat → Nat} (h : ∀ i, i < n → f i = g i) : ((bst n f).toList == (bst n g).toList) = true := by
  have e : bst n f = bst n g := by
    unfold bst; congr 1; exact List.map_congr_left fun i hi => by rw [h i (List.mem_range.1 hi)]
  rw [e]; simp
theorem bst_at (n : Nat) (k : Nat → Nat) (hk : ∀ i, k i < 256) (i : Nat) (hi : i < n) : ((bst n k).toList.getD i 0).toNat = k i := by
  rw [ByteArray.toList_eq]
  unfold bst
  rw [strOfNums_data]
  have hl := hk i
  simp [List.getD, List.getElem?_map, List.getElem?_range hi]
  omega
theorem byr_inj {n : Nat} {f g : Nat → Nat} (h : byr f n = byr g n) : ∀ i, i < n → f i = g i := fun i hi => by
  have h1 := byr_get f n i hi
  rw [h, byr_get g n i hi] at h1
  injection h1 with h1
  injection h1 with _ h1
  omega
theorem byr_congr {n : Nat} {f g : Nat → Nat} (h : ∀ i, i < n → f i = g i) : byr f n = byr g n := by
  unfold byr; exact List.map_congr_left fun i hi => by rw [h i (List.mem_range.1 hi)]
theorem bst_diff {n : Nat} {f g : Nat → Nat} (hf : ∀ i, f i < 256) (hg : ∀ i, g i < 256) (h : byr f n ≠ byr g n) : ((bst n f).toList == (bst n g).toList) = false := by
  rw [beq_eq_false_iff_ne]
  intro e
  exact h (byr_congr fun i hi => by rw [← bst_at n f hf i hi, e, bst_at n g hg i hi])
/-- What was read, its numbers the specification's where all bytes are there. -/
theorem read_numbers (L : Nat) (f : Nat → Nat) (hf : ∀ i, f i < 256) : ∃ (b : Nat) (G : Nat → Nat × Nat), b < M ∧ (∀ i, Ok (G i)) ∧ nbP L f (1 + 18 * hn0 L f) = b ∧ ptF (pF L f (10 + 18 * hn0 L f)) (hnp L f) = ptF (pI G) (hnp L f) ∧ (L = hln (hn0 L f) (hnp L f) → b = nbS L f (1 + 18 * hn0 L f) ∧ G = pS L f (10 + 18 * hn0 L f)) := by
  by_cases h : L = hln (hn0 L f) (hnp L f)
  · refine ⟨_, _, nbS_M L f hf _, fun i => ⟨nbS_M L f hf _, nbS_M L f hf _⟩, nbP_eq L f _ (by unfold hln at h; omega), ?_, fun _ => ⟨rfl, rfl⟩⟩
    refine ptF_congr _ _ _ fun i hi => ?_
    unfold pF pI pS
    rw [nbP_eq L f _ (by unfold hln at h; omega), nbP_eq L f _ (by unfold hln at h; omega)]
  · exact ⟨_, pP L f (10 + 18 * hn0 L f), nbP_M L f hf _, fun i => ⟨nbP_M L f hf _, nbP_M L f hf _⟩, rfl, rfl, fun h' => absurd h' h⟩

set_option maxRecDepth 100000 in
set_option maxHeartbeats 400000 in
theorem decode_any (A : Option Addr) (L c : Nat) (f : Nat → Nat) (w : World) (hB : Byt w A L c f) (hA0 : A = none → c = 0) (hsp : ∀ a, A = some a → a.spot = none) :
    Calls Try.prog 19 #[.slice A L c] w fun e w' => DcE L f w.heap.size e w' ∧ Below w.heap.size w w' := by
  obtain ⟨N, hN⟩ : ∃ N, N = w.heap.size := ⟨_, rfl⟩
  obtain ⟨g, o, hgo, hcl, hgN⟩ : ∃ g o, (L = 0 ∨ A = some ⟨g, o, none⟩) ∧ (∀ i, i < L → w.cell? ⟨g, o + i, none⟩ = some (.int .u8 (f i : Int))) ∧ g ≠ N + 1 := by
    rcases Nat.eq_zero_or_pos L with h0 | h0
    · exact ⟨N, 0, .inl h0, fun i hi => by omega, by omega⟩
    · obtain ⟨g, o, h1, h2⟩ := hB.at_ h0
      have := World.block_lt_of_cell? w _ (h2 0 h0)
      exact ⟨g, o, .inr h1, h2, by rw [hN]; simp only at this; omega⟩
  obtain ⟨W2, hW2⟩ : ∃ W2, W2 = (w.alloc (.cells z35 28)).alloc (.cells #[.slice A L c] 106) := ⟨_, rfl⟩
  have s2 : W2.heap.size = N + 2 := by rw [hW2, hN]; simp
  have b2 : Below N w W2 := by rw [hW2, hN]; exact (below_alloc _ _).trans ((below_alloc _ _).mono (by simp))
  have e0 : Hdx W2 N (.slice none 0 0) (.slice none 0 0) 0 (0, 0) (0, 0) := by
    have h := (Blk.new w z35 28).keep (below_alloc _ (.cells #[.slice A L c] 106))
    rw [← hN] at h; rw [hW2]; rw [z35_hdi] at h ⊢; exact h
  have e1 : Rdr W2 (N + 1) g o L 0 := by
    have h := Box.new (w.alloc (.cells z35 28)) (.slice A L c) 106
    rw [World.size_alloc, ← hN] at h
    exact ⟨A, c, by rw [hW2]; exact h, hB.le, hB.cap, by rw [Nat.sub_zero, Nat.add_zero]; exact hgo, hA0, hsp⟩
  have hc2 : ∀ i, i < L → W2.cell? ⟨g, o + i, none⟩ = some (.int .u8 (f i : Int)) := fun i hi => (b2.cell (p := ⟨g, o + i, none⟩) (by rw [hN]; exact World.block_lt_of_cell? w _ (hcl i hi))).trans (hcl i hi)
  have HH := Lib.hid (header_any (N + 1) g o L f W2 e1 hgN hB.lt hc2)
  obtain ⟨b, G, hbM, hG, hbe, hpe, hS⟩ := read_numbers L f hB.lt
  have hn255 : hn0 L f < 256 := flz_lt L f hB.lt 0
  have hp255 : hnp L f < 256 := flz_lt L f hB.lt _
  have HD : Hid (∀ c2, c2 = DckP L f → c2 = (L = hln (hn0 L f) (hnp L f) ∧ ckn (hn0 L f) (hnp L f) (dF L f) = 0 ∧ hbs (hn0 L f) b (hnp L f) (dF L f) G (kyF L f (10 + 18 * hn0 L f + 16 * hnp L f)) (kyF L f (26 + 18 * hn0 L f + 16 * hnp L f)) = byr f L)) := Lib.hid (fun c2 hc => by
    rw [hc]
    apply propext
    unfold DckP dbs
    constructor
    · rintro ⟨h1, h2, h3⟩; obtain ⟨h4, h5⟩ := hS h1; exact ⟨h1, h2, by rw [h4, h5]; exact h3⟩
    · rintro ⟨h1, h2, h3⟩; obtain ⟨h4, h5⟩ := hS h1; exact ⟨h1, h2, by rw [h4, h5] at h3; exact h3⟩)
  have HDY : Hid (∀ (v pv : Value) (e : Ending) (w' : World), (L = hln (hn0 L f) (hnp L f) ∧ ckn (hn0 L f) (hnp L f) (dF L f) = 0 ∧ hbs (hn0 L f) b (hnp L f) (dF L f) G (kyF L f (10 + 18 * hn0 L f + 16 * hnp L f)) (kyF L f (26 + 18 * hn0 L f + 16 * hnp L f)) = byr f L) → e = .returned (.tuple #[.agg (hdi v pv (b : Int) (kyF L f (10 + 18 * hn0 L f + 16 * hnp L f)) (kyF L f (26 + 18 * hn0 L f + 16 * hnp L f))).toArray, .int .i64 0]) → w'.ownsRow N 90 18 v (hn0 L f) (lbF (dF L f) (hn0 L f)) → w'.ownsRow N 70 2 pv (hnp L f) (ptF (pI G) (hnp L f)) → DcE L f N e w') := Lib.hid (fun v pv e w' hc he h1 h2 => by
    obtain ⟨h4, h5⟩ := hS hc.1
    refine .inl ⟨by rw [HD.out _ rfl]; exact hc, v, pv, ?_, h1, ?_⟩
    · rw [he]; unfold dhd; rw [← h4]
    · rw [← h5]; exact h2)
  have HDN : Hid (∀ (e : Ending) (w' : World), ¬ (L = hln (hn0 L f) (hnp L f) ∧ ckn (hn0 L f) (hnp L f) (dF L f) = 0 ∧ hbs (hn0 L f) b (hnp L f) (dF L f) G (kyF L f (10 + 18 * hn0 L f + 16 * hnp L f)) (kyF L f (26 + 18 * hn0 L f + 16 * hnp L f)) = byr f L) → e = .returned (.tuple #[.agg hd0, .int .i64 12]) → DcE L f N e w') := Lib.hid (fun e w' hc he => .inr ⟨by rw [HD.out _ rfl]; exact hc, he⟩)
  rw [hbe, hpe] at HH
  obtain ⟨n, hn⟩ : ∃ n, n = hn0 L f := ⟨_, rfl⟩
  obtain ⟨np, hnpe⟩ : ∃ np, np = hnp L f := ⟨_, rfl⟩
  rw [← hn] at hn255 HH HDY HDN
  rw [← hnpe] at hp255 HH HDY HDN
  obtain ⟨x, hx⟩ : ∃ x, x = kyF L f (10 + 18 * n + 16 * np) := ⟨_, rfl⟩
  obtain ⟨y, hy⟩ : ∃ y, y = kyF L f (26 + 18 * n + 16 * np) := ⟨_, rfl⟩
  obtain ⟨F, hF⟩ : ∃ F, F = dF L f := ⟨_, rfl⟩
  obtain ⟨D, hD⟩ : ∃ D : Ending → World → Prop, D = DcE L f N := ⟨_, rfl⟩
  rw [← hx, ← hy, ← hF] at HH HDY HDN
  rw [← hD] at HDY HDN
  have HE : Hid (W2.heap.size = N + 2 ∧ Below N w W2 ∧ Hdx W2 N (.slice none 0 0) (.slice none 0 0) 0 (0, 0) (0, 0)) := Lib.hid ⟨s2, b2, e0⟩
  have HBt := Lib.hid (fun w1 (h : Below N w w1) => hB.keep (by rw [← hN]; exact h))
  have HGo := Lib.hid (And.intro hbM hG)
  have HN := Lib.hid hN
  have HW := Lib.hid hW2
  rw [← hN, ← hD]
  clear HD hS hbe hpe hn hnpe hx hy hF hD hN hW2 s2 b2 e0 e1 hc2 hgN hgo hcl hB hA0 hsp hbM hG
  go_enter Try.func19, Try.ntmps19
  go_wp2_with fail
  rw [← HW.out, ← HN.out]
  refine HH.out.mono ?_
  rintro e w3 ⟨⟨v, pv, rfl, ho, hp⟩, hg3⟩
  have hb3 : Below N w w3 := HE.out.2.1.grown hg3 (by rw [HE.out.1]; omega) (fun b hb => by injection hb with hb; omega)
  have hN3 : N + 2 ≤ w3.heap.size := by rw [← HE.out.1]; exact hg3.size
  have e3 : Hdx w3 N (.slice none 0 0) (.slice none 0 0) 0 (0, 0) (0, 0) := Blk.grown HE.out.2.2 hg3 (by intro e; injection e with e; omega)
  obtain ⟨A1, d1, rfl, hd1, hi1⟩ := own_items ho
  obtain ⟨A2, d2, rfl, hd2, hi2⟩ := own_points hp
  have hA := Blk.new w3 z35 28
  have hth : (w3.alloc (.cells z35 28)).there w3.heap.size 0 35 := hA.there
  obtain ⟨W4, hW4⟩ : ∃ W4, W4 = (w3.alloc (.cells z35 28)).setCells w3.heap.size 0 (hdi (.slice A1 n d1) (.slice A2 np d2) (b : Int) x y) := ⟨_, rfl⟩
  have b34 : Below w3.heap.size w3 W4 := by rw [hW4]; exact below_setCells _ _ _ _ (below_alloc _ _) (Nat.le_refl _)
  obtain ⟨hb, hhb⟩ : ∃ hb, hb = w3.heap.size := ⟨_, rfl⟩
  have H4 : Hid (hb + 1 ≤ W4.heap.size ∧ Below N w W4 ∧ Hdx W4 N (.slice none 0 0) (.slice none 0 0) 0 (0, 0) (0, 0) ∧ Hdx W4 hb (.slice A1 n d1) (.slice A2 np d2) (b : Int) x y ∧ N + 2 ≤ hb) := Lib.hid ⟨by rw [hW4, size_setCells]; simp [hhb], hb3.trans (b34.mono (by omega)), Blk.keep e3 b34, by rw [hW4, hhb]; exact Hdx.stored hA z35_size _ _ _ _ _, by omega⟩
  have HO4 : Hid (W4.ownsRow N 90 18 (.slice A1 n d1) n (lbF F n) ∧ W4.ownsRow N 70 2 (.slice A2 np d2) np (ptF (pI G) np)) := Lib.hid ⟨own_below (own_lower (by rw [HE.out.1]; omega) ho) b34, own_below (own_lower (by rw [HE.out.1]; omega) hp) b34⟩
  obtain ⟨g1, hg1, hr1⟩ : ∃ g1, (n = 0 ∨ A1 = some ⟨g1, 0, none⟩) ∧ ∀ i, i < n → W4.rangeAt g1 (0 + i * 18) (lbl (F i).1 (F i).2.1 (F i).2.2) := by
    rcases hi1 with h0 | ⟨g1, h1, _, h2⟩
    · exact ⟨0, .inl h0, fun i hi => by omega⟩
    · refine ⟨g1, .inr h1, fun i hi j u hu => ?_⟩
      have h3 := h2 i hi j u hu
      rw [Nat.zero_add]
      exact (b34.cell (p := ⟨g1, i * 18 + j, none⟩) (World.block_lt_of_cell? w3 _ h3)).trans h3
  obtain ⟨g2, hg2, hr2⟩ : ∃ g2, (np = 0 ∨ A2 = some ⟨g2, 0, none⟩) ∧ ∀ i, i < np → W4.rangeAt g2 (0 + i * 2) [.int .u64 ((G i).1 : Int), .int .u64 ((G i).2 : Int)] := by
    rcases hi2 with h0 | ⟨g2, h1, _, h2⟩
    · exact ⟨0, .inl h0, fun i hi => by omega⟩
    · refine ⟨g2, .inr h1, fun i hi j u hu => ?_⟩
      have h3 := h2 i hi j u hu
      rw [Nat.zero_add]
      exact (b34.cell (p := ⟨g2, i * 2 + j, none⟩) (World.block_lt_of_cell? w3 _ h3)).trans h3
  have HEn := Lib.hid (encode_any b g1 0 n d1 g2 0 np d2 A1 A2 x y F G W4 HGo.out.1 (by omega) (by omega) hd1 hd2 hg1 hg2 hr1 (fun i hi => ⟨hr2 i hi, HGo.out.2 i⟩))
  have HW4 := Lib.hid (And.intro hW4 hhb)
  have HTh := Lib.hid hth
  clear hb3 hN3 e3 ho hp hg3 hA hth hW4 b34 hhb hi1 hi2 hd1 hd2 hg1 hg2 hr1 hr2 HH
  go_wp2_with (first
    | ((with_reducible show wpList _ _ _ (Oper.mk _ (Op.store 28 _ _) _ _ _ _ :: _) _ _); refine wpList_store_hdi rfl _ _ rfl _ _ _ _ _ _ rfl rfl rfl rfl HTh.out ?_; rw [← HW4.out.1])
    | ((with_reducible show wpList _ _ _ (Oper.mk _ (Op.load 28 _) _ _ _ _ :: _) _ _); refine wpList_load_hdi rfl _ rfl _ rfl _ _ _ _ _ (by rw [← HW4.out.2]; exact H4.out.2.2.2.1) ?_))
  rw [← HW4.out.2]
  refine HEn.out.mono ?_
  rintro e w6 ⟨hE, hb6⟩
  have H6 : Hid (Below N w w6 ∧ Hdx w6 N (.slice none 0 0) (.slice none 0 0) 0 (0, 0) (0, 0) ∧ Hdx w6 hb (.slice A1 n d1) (.slice A2 np d2) (b : Int) x y ∧ w6.ownsRow N 90 18 (.slice A1 n d1) n (lbF F n) ∧ w6.ownsRow N 70 2 (.slice A2 np d2) np (ptF (pI G) np)) := Lib.hid ⟨H4.out.2.1.trans (hb6.mono (by have := H4.out.1; have := H4.out.2.2.2.2; omega)), Blk.keep H4.out.2.2.1 hb6, Blk.keep H4.out.2.2.2.1 hb6, own_below HO4.out.1 hb6, own_below HO4.out.2 hb6⟩
  have HZ : Hid (Hdx (w6.setCells N 0 (hdi (.slice none 0 0) (.slice none 0 0) 0 (0, 0) (0, 0))) N (.slice none 0 0) (.slice none 0 0) 0 (0, 0) (0, 0) ∧ Below N w (w6.setCells N 0 (hdi (.slice none 0 0) (.slice none 0 0) 0 (0, 0) (0, 0))) ∧ w6.there N 0 35) := Lib.hid ⟨Hdx.stored H6.out.2.1 Hdx.size _ _ _ _ _, below_setCells _ _ _ _ H6.out.1 (Nat.le_refl _), H6.out.2.1.there⟩
  rcases hE with ⟨hk, rfl⟩ | ⟨hk, v7, rfl, ho7⟩
  · have hkn : (ckn n np F != 0) = true := by simp [hk]
    have hno : ¬ (L = hln n np ∧ ckn n np F = 0 ∧ hbs n b np F G x y = byr f L) := fun h => hk h.2.1
    have HNo := Lib.hid hno
    obtain ⟨z, hz⟩ : ∃ z, z = ckn n np F := ⟨_, rfl⟩
    rw [← hz] at hkn ⊢
    clear hb6 hk hno hz HEn HO4 HTh
    go_wp2_with (first
      | ((with_reducible show wpList _ _ _ (Oper.mk _ (Op.build 28 _) _ _ _ _ :: _) _ _); refine wpList_buildHd0 rfl rfl ?_)
      | ((with_reducible show wpList _ _ _ (Oper.mk _ (Op.store 28 _ _) _ _ _ _ :: _) _ _); refine wpList_store_hdi rfl _ _ rfl N _ _ _ _ _ rfl rfl rfl rfl HZ.out.2.2 ?_))
    exact bodyPost_ret (results_hdi rfl _ _ N (.slice none 0 0) (.slice none 0 0) 0 (0, 0) (0, 0) _ rfl rfl HZ.out.1) rfl ⟨HDN.out _ _ HNo.out rfl, HZ.out.2.1⟩
  · obtain ⟨hn64, hnp8, hby⟩ := ckn_zero hk
    obtain ⟨f2, hf2, hfe⟩ := hbs_byr n b np F G x y hn64 hnp8 hby
    rw [hfe] at ho7
    obtain ⟨A7, c7, rfl, hB7⟩ := own_byt ho7 hf2
    have HEq := Lib.hid (equal_any A7 A (hln n np) c7 L c f2 f w6 hB7 (HBt.out w6 H6.out.1))
    have hFf := (HBt.out w6 H6.out.1).lt
    have HKf : Hid (((bst (hln n np) f2).toList == (bst L f).toList) = false → ¬ (L = hln n np ∧ ckn n np F = 0 ∧ hbs n b np F G x y = byr f L)) := Lib.hid (fun h hc => by
      obtain ⟨h1, _, h3⟩ := hc
      rw [hfe, ← h1] at h3
      rw [← h1, bst_same (byr_inj h3)] at h
      cases h)
    have HKt : Hid (((bst (hln n np) f2).toList == (bst L f).toList) = true → (L = hln n np ∧ ckn n np F = 0 ∧ hbs n b np F G x y = byr f L)) := Lib.hid (fun h => by
      by_cases h1 : L = hln n np
      · refine ⟨h1, hk, ?_⟩
        rw [hfe, ← h1]
        apply Classical.byContradiction
        intro h3
        rw [← h1, bst_diff hf2 hFf h3] at h
        cases h
      · rw [bst_ne f2 f (fun e => h1 e.symm)] at h
        cases h)
    obtain ⟨t, ht⟩ : ∃ t, t = ((bst (hln n np) f2).toList == (bst L f).toList) := ⟨_, rfl⟩
    rw [← ht] at HEq HKf HKt
    clear hb6 hk ht HEn HO4 HTh hFf hB7 hfe hf2 hby hn64 hnp8 ho7
    go_wp2_with fail
    refine HEq.out.mono ?_
    rintro e w7 ⟨rfl, rfl⟩
    cases t with
    | false =>
      have HNo := Lib.hid (HKf.out rfl)
      go_wp2_with (first
        | ((with_reducible show wpList _ _ _ (Oper.mk _ (Op.build 28 _) _ _ _ _ :: _) _ _); refine wpList_buildHd0 rfl rfl ?_)
        | ((with_reducible show wpList _ _ _ (Oper.mk _ (Op.store 28 _ _) _ _ _ _ :: _) _ _); refine wpList_store_hdi rfl _ _ rfl N _ _ _ _ _ rfl rfl rfl rfl HZ.out.2.2 ?_))
      exact bodyPost_ret (results_hdi rfl _ _ N (.slice none 0 0) (.slice none 0 0) 0 (0, 0) (0, 0) _ rfl rfl HZ.out.1) rfl ⟨HDN.out _ _ HNo.out rfl, HZ.out.2.1⟩
    | true =>
      have HYe := Lib.hid (HKt.out rfl)
      have HF : Hid (Hdx (w7.setCells N 0 (hdi (.slice A1 n d1) (.slice A2 np d2) (b : Int) x y)) N (.slice A1 n d1) (.slice A2 np d2) (b : Int) x y ∧ Below N w (w7.setCells N 0 (hdi (.slice A1 n d1) (.slice A2 np d2) (b : Int) x y)) ∧ (w7.setCells N 0 (hdi (.slice A1 n d1) (.slice A2 np d2) (b : Int) x y)).ownsRow N 90 18 (.slice A1 n d1) n (lbF F n) ∧ (w7.setCells N 0 (hdi (.slice A1 n d1) (.slice A2 np d2) (b : Int) x y)).ownsRow N 70 2 (.slice A2 np d2) np (ptF (pI G) np)) := Lib.hid ⟨Hdx.stored H6.out.2.1 Hdx.size _ _ _ _ _, below_setCells _ _ _ _ H6.out.1 (Nat.le_refl _), own_setCells _ _ H6.out.2.2.2.1 (Blk.apart H6.out.2.1 H6.out.2.2.2.1 (by decide)), own_setCells _ _ H6.out.2.2.2.2 (Blk.apart H6.out.2.1 H6.out.2.2.2.2 (by decide))⟩
      go_wp2_with (first
        | ((with_reducible show wpList _ _ _ (Oper.mk _ (Op.load 28 _) _ _ _ _ :: _) _ _); refine wpList_load_hdi rfl _ rfl _ rfl _ _ _ _ _ H6.out.2.2.1 ?_)
        | ((with_reducible show wpList _ _ _ (Oper.mk _ (Op.store 28 _ _) _ _ _ _ :: _) _ _); refine wpList_store_hdi rfl _ _ rfl N _ _ _ _ _ rfl rfl rfl rfl HZ.out.2.2 ?_))
      exact bodyPost_ret (results_hdi rfl _ _ N _ _ _ _ _ _ rfl rfl HF.out.1) rfl ⟨HDY.out _ _ _ _ HYe.out rfl HF.out.2.2.1 HF.out.2.2.2, HF.out.2.1⟩
end Go.Proofs.Ytchkgccnipejhaa
