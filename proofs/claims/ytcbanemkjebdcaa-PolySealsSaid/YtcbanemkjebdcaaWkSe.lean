/-
  Texts joined into one: PolY, WkSeals.
-/
import Derived.Test.YtcbanemkjebdcaaPolW
import Derived.Test.YtcbanemkjebdcaaPolX
import Derived.Test.YtcbanemkjebdcaaPolU
import Derived.Test.YtcbanemkjebdcaaPolL
import Derived.Laws.AppendOwn

/-
  What the law over Seal needs besides: results, lists that come in.
-/
namespace Go.Proofs.Ytcbanemkjebdcaa
open Go.RowKit SP
set_option linter.unusedVariables false
set_option linter.unusedSimpArgs false

theorem ptl_get (X Y P Q G m E T n : Nat) (f : Nat → Nat) : ∀ k, (ptl X Y P Q G m E T n f k).length = k * 2 ∧ ∀ i, i < k → (ptl X Y P Q G m E T n f k)[i * 2]? = some (.int .u64 (px T n f i : Int)) ∧ (ptl X Y P Q G m E T n f k)[i * 2 + 1]? = some (.int .u64 (pwv X Y P Q G m E (px T n f i) : Int))
  | 0 => ⟨rfl, fun i hi => by omega⟩
  | k + 1 => by
    obtain ⟨h1, h2⟩ := ptl_get X Y P Q G m E T n f k
    rw [ptl_snoc]
    refine ⟨by simp [h1]; omega, fun i hi => ?_⟩
    rcases (by omega : i < k ∨ i = k) with h | rfl
    · rw [List.getElem?_append_left (by omega), List.getElem?_append_left (by omega)]
      exact h2 i h
    · rw [List.getElem?_append_right (by omega), List.getElem?_append_right (by omega), h1, Nat.sub_self, show i * 2 + 1 - i * 2 = 1 by omega]
      exact ⟨rfl, rfl⟩

theorem lst_len {D : Int} {n : Nat} {f : Nat → Int} (h : Lst D n f) : n ≤ 2 ^ D.toNat := by
  have h1 : ∀ k, k < n → (k : Int) ≤ f k := by
    intro k
    induction k with
    | zero => intro hk; exact (of_decide_eq_true (h 0 hk).1).1
    | succ j ih => intro hk; have a := ih (by omega); have b := (h (j + 1) hk).2 j rfl; omega
  rcases Nat.eq_zero_or_pos n with h0 | h0
  · rw [h0]; exact Nat.zero_le _
  · have a := h1 (n - 1) (by omega)
    have b := (of_decide_eq_true (h (n - 1) (by omega)).1).2
    generalize 2 ^ D.toNat = T at b ⊢
    omega
theorem lst_nat {D : Int} {n : Nat} {f : Nat → Int} (h : Lst D n f) : (∀ i, i < n → f i = ((f i).toNat : Int)) ∧ Lst D n (fun i => ((f i).toNat : Int)) := by
  have h1 : ∀ i, i < n → f i = ((f i).toNat : Int) := fun i hi => by have := (of_decide_eq_true (h i hi).1).1; omega
  refine ⟨h1, fun i hi => ⟨?_, fun j hj => ?_⟩⟩
  · show isr D (((f i).toNat : Nat) : Int) = true
    rw [← h1 i hi]; exact (h i hi).1
  · have a := (h i hi).2 j hj
    have b := h1 i hi
    have c := h1 j (by omega)
    show (((f j).toNat : Nat) : Int) < (((f i).toNat : Nat) : Int)
    omega

/-- A header is handed back, with an error's number. -/
def HRes (nn B X Y U V : Nat) (F1 F2 : Nat → Nat) (code : Int) (w' : World) (e : Ending) : Prop :=
  ∃ (aa : Option Addr) (ga ca : Nat), e = .returned (.tuple #[.agg (hdl (.slice aa nn ca) B X Y U V).toArray, .int .i64 code]) ∧ (nn = 0 ∨ aa = some ⟨ga, 0, none⟩) ∧ nn ≤ ca ∧ ca ≤ maxLen ∧ ∀ i, i < nn → w'.cell? ⟨ga, i * 2, none⟩ = some (.int .u64 (F1 i : Int)) ∧ w'.cell? ⟨ga, i * 2 + 1, none⟩ = some (.int .u64 (F2 i : Int))
theorem hres_zero (F1 F2 : Nat → Nat) (code : Int) (w' : World) : HRes 0 0 0 0 0 0 F1 F2 code w' (.returned (.tuple #[.agg (hdl (.slice none 0 0) 0 0 0 0 0).toArray, .int .i64 code])) :=
  ⟨none, 0, 0, rfl, .inl rfl, Nat.le_refl _, by simp [maxLen], fun i hi => by omega⟩
theorem hres_ok {X Y P Q G m E T n g c BX BY U V B : Nat} {f : Nat → Nat} {w' : World} (hc : E ≤ c) (hm : c ≤ maxLen) (h : ∀ j v, (ptl X Y P Q G m E T n f E)[j]? = some v → w'.cell? ⟨g, j, none⟩ = some v) :
    HRes E B BX BY U V (px T n f) (fun i => pwv X Y P Q G m E (px T n f i)) 0 w' (.returned (.tuple #[.agg (hdl (.slice (some ⟨g, 0, none⟩) E c) B BX BY U V).toArray, .int .i64 0])) :=
  ⟨_, g, c, rfl, .inr rfl, hc, hm, fun i hi => by have h2 := (ptl_get X Y P Q G m E T n f E).2 i hi; exact ⟨h _ _ h2.1, h _ _ h2.2⟩⟩
end Go.Proofs.Ytcbanemkjebdcaa

/- The walk over PolySeals: the two headers are the same, and the two errors, and the numbers are as they were. -/
namespace Go.Proofs.Ytcbanemkjebdcaa.polySeals
open Go.RowKit SP
set_option linter.unusedVariables false
set_option linter.unusedSimpArgs false

theorem copy_facts {W : World} {B n : Nat} {f : Nat → Int} {xs : List Value} {v : Value} (h : W.ownsRow B 3 1 v (0 + n) ([] ++ xs)) (hv : v ≠ .slice none 0 0) (hxs : ∀ i, i < n → ([] ++ xs)[i]? = some (.int .i64 (f i))) :
    ∃ go co, v = .slice (some ⟨go, 0, none⟩) n co ∧ n ≤ co ∧ co ≤ maxLen ∧ ∀ i, i < n → W.cell? ⟨go, i, none⟩ = some (.int .i64 (f i)) := by
  rcases h.2 with ⟨h, _⟩ | ⟨go, cap, cur, hv1, hb1, hg1, hnc, hcm, hcs, ht⟩
  · exact absurd h hv
  · refine ⟨go, cap, by rw [hv1, Nat.zero_add], by omega, hcm, fun i hi => ?_⟩
    have hx := hxs i hi
    rw [cell_of_row _ _ i _ _ _ hg1]
    rw [← ht, List.getElem?_take, if_pos (by omega)] at hx
    simpa using hx
theorem info3 : (Try.prog.info? 3).map (fun i => (i.zero, i.size, i.bytes)) = some (some (.int .i64 0), 1, 8) := by kernel_rfl

set_option maxRecDepth 100000 in
set_option maxHeartbeats 2000000 in
theorem walk_some (X Y A C : Nat) (K D E code : Int) (P Q G m b off n c nn B BX BY U V : Nat) (ad : Addr) (f : Nat → Int) (F1 F2 : Nat → Nat) (w : World) (hBX : BX < M) (hBY : BY < M) (hU : U < M) (hV : V < M) (hn8 : nn ≤ 8) (hn : n ≤ c) (hc : c ≤ maxLen) (hsz : n ≤ 17592186044416) (had : n = 0 ∨ some ad = some ⟨b, off, none⟩) (hcl : ∀ i, i < n → w.cell? ⟨b, off + i, none⟩ = some (.int .i64 (f i)))
    (H1 : ∀ (go co : Nat) (w : World), n ≤ co → co ≤ maxLen → (∀ i, i < n → w.cell? ⟨go, i, none⟩ = some (.int .i64 (f i))) → Calls Try.prog 20 #[.agg (kl X Y).toArray, .agg #[.int .u8 K, .int .i64 D, .int .i64 E, .int .u64 (P : Int), .int .u64 (Q : Int), .int .u64 (G : Int)], .slice (some ⟨go, 0, none⟩) n co, .agg (kl A C).toArray, .int .u64 (m : Int)] w fun e w' => HRes nn B BX BY U V F1 F2 code w' e ∧ Below w.heap.size w w')
    (H2 : ∀ (w : World), (∀ i, i < n → w.cell? ⟨b, off + i, none⟩ = some (.int .i64 (f i))) → Calls Try.prog 21 #[.agg (kl X Y).toArray, .agg #[.int .u8 K, .int .i64 D, .int .i64 E, .int .u64 (P : Int), .int .u64 (Q : Int), .int .u64 (G : Int)], .slice (some ad) n c, .agg (kl A C).toArray, .int .u64 (m : Int)] w fun e w' => HRes nn B BX BY U V F1 F2 code w' e ∧ Below w.heap.size w w') :
    Calls Try.prog 5 #[.agg (kl X Y).toArray, .agg #[.int .u8 K, .int .i64 D, .int .i64 E, .int .u64 (P : Int), .int .u64 (Q : Int), .int .u64 (G : Int)], .slice (some ad) n c, .agg (kl A C).toArray, .int .u64 (m : Int)] w fun e w' => e = .returned (.bool true) ∧ Below w.heap.size w w' := by
  obtain ⟨i0, hi, hz0, hz1, hz2⟩ := info_parts info3
  obtain ⟨N, hN⟩ : ∃ N, N = w.heap.size := ⟨_, rfl⟩
  obtain ⟨W4, hW4⟩ : ∃ W4, W4 = (((w.alloc (.cells (kl X Y).toArray 23)).alloc (.cells #[.int .u8 K, .int .i64 D, .int .i64 E, .int .u64 (P : Int), .int .u64 (Q : Int), .int .u64 (G : Int)] 28)).alloc (.cells (kl A C).toArray 23)).alloc (.cells #[] 3) := ⟨_, rfl⟩
  have HB4 : Hid (Below N w W4) := Lib.hid (by rw [hW4, hN]; exact ((((Below.refl _ _).alloc (Nat.le_refl _) _).alloc (by simp) _).alloc (by simp; omega) _).alloc (by simp; omega) _)
  have HS4 : Hid (W4.heap.size = N + 4) := Lib.hid (by rw [hW4, hN]; simp)
  have HEnv : Hid (∀ w1, Below (N + 3) W4 w1 → KeyAt w1 N X Y ∧ SchAt w1 (N + 1) K D E P Q G ∧ KeyAt w1 (N + 2) A C ∧ Below N w w1) := Lib.hid (fun w1 h => by
    have k : KeyAt W4 N X Y := by rw [hW4, hN]; exact (((KeyAt.new w X Y 23).alloc _).alloc _).alloc _
    have s : SchAt W4 (N + 1) K D E P Q G := by
      have h := SchAt.new (w.alloc (.cells (kl X Y).toArray 23)) K D E P Q G
      rw [World.size_alloc] at h
      rw [hW4, hN]; exact h.below (((Below.refl _ _).alloc (Nat.le_refl _) _).alloc (by simp) _) (by simp)
    have k2 : KeyAt W4 (N + 2) A C := by
      have h := KeyAt.new ((w.alloc (.cells (kl X Y).toArray 23)).alloc (.cells #[.int .u8 K, .int .i64 D, .int .i64 E, .int .u64 (P : Int), .int .u64 (Q : Int), .int .u64 (G : Int)] 28)) A C 23
      rw [World.size_alloc, World.size_alloc] at h
      rw [hW4, hN]; exact h.alloc _
    exact ⟨k.below h (by omega), s.below h (by omega), k2.below h (by omega), HB4.out.trans (h.mono (by omega))⟩)
  have HO4 : Hid (W4.ownsRow (N + 3) 3 1 (.slice (some ⟨N + 3, 0, none⟩) 0 0) 0 []) := Lib.hid (by
    rw [hW4, hN]
    exact ⟨rfl, .inr ⟨w.heap.size + 3, 0, #[], rfl, Nat.le_refl _, by have h := heap_alloc_new (((w.alloc (.cells (kl X Y).toArray 23)).alloc (.cells #[.int .u8 K, .int .i64 D, .int .i64 E, .int .u64 (P : Int), .int .u64 (Q : Int), .int .u64 (G : Int)] 28)).alloc (.cells (kl A C).toArray 23)) (.cells #[] 3); rw [World.size_alloc, World.size_alloc, World.size_alloc] at h; exact h, Nat.le_refl _, by simp [maxLen], rfl, rfl⟩⟩)
  have HCl : Hid (∀ w1, Below N w w1 → ∀ i, i < n → w1.cell? ⟨b, off + i, none⟩ = some (.int .i64 (f i))) := Lib.hid (fun w1 h1 i hi => (h1.cell (p := ⟨b, off + i, none⟩) (by rw [hN]; exact World.block_lt_of_cell? w _ (hcl i hi))).trans (hcl i hi))
  have HA1 := Lib.hid H1
  have HA2 := Lib.hid H2
  have HAD := Lib.hid had
  have HKs : Hid (BX < M ∧ BY < M ∧ U < M ∧ V < M) := Lib.hid ⟨hBX, hBY, hU, hV⟩
  have HW := Lib.hid hW4
  have HN := Lib.hid hN
  have HC2 := Lib.hid (And.intro hn hc)
  rw [← hN]
  have hnw : ∀ j u, ((List.range n).map (fun i => Value.int .i64 (f i)))[j]? = some u → W4.cell? (ad.add j) = some u := by
    intro j u hu
    have hj : j < n := by have := (List.getElem?_eq_some_iff.1 hu).1; simpa using this
    rcases had with h0 | h0
    · omega
    injection h0 with h0
    have h1 := HCl.out W4 HB4.out j hj
    rw [h0, Addr.add_mid, h1, ← hu]
    simp [List.getElem?_range hj]
  have hlen : ((List.range n).map (fun i => Value.int .i64 (f i))).length = n * 1 := by simp
  have hml : 0 + n ≤ maxLen := by unfold maxLen; omega
  have h47 : (0 + n) * 8 ≤ 140737488355328 := by omega
  have hbs : N + 3 ≤ W4.heap.size := by rw [HS4.out]; omega
  have ho := HO4.out
  have HXS : Hid (∀ i, i < n → ([] ++ (List.range n).map (fun i => Value.int .i64 (f i)))[i]? = some (.int .i64 (f i))) := Lib.hid (fun i hi => by simp [List.getElem?_range hi])
  obtain ⟨xs, hxs⟩ : ∃ xs, xs = (List.range n).map (fun i => Value.int .i64 (f i)) := ⟨_, rfl⟩
  have hone : ∀ u ∈ xs, u.oneCell' = true := by
    intro u hu; rw [hxs] at hu; obtain ⟨i, _, rfl⟩ := List.mem_map.1 hu; rfl
  rw [← hxs] at hnw hlen HXS
  clear hxs hcl had
  clear hN hW4 H1 H2 hBX hBY hU hV
  go_enter Try.func5, Try.ntmps5
  go_wp2_with (first
    | (at_builtin; rw [← HN.out]; simp only [Nat.add_assoc, Nat.reduceAdd]; rw [← HW.out]; refine wpList_append_own _ rfl _ _ 57 rfl (N + 3) 3 i0 _ 1 8 Try.underlying57 hi hz0 hz1 hz2 rfl (by omega) _ _ _ rfl ho ad n c xs rfl hlen hnw hone hml (by omega) hbs ?_; intro v1 W5 hown5 hg5 hnil; obtain ⟨go, co, hv1, hoc⟩ := copy_facts hown5 (fun e => by have h := (hnil.1 e).1; cases h) HXS.out; subst hv1; have HOc := Lib.hid hoc; have HB5 : Hid (Below (N + 3) W4 W5 ∧ N + 3 ≤ W5.heap.size) := Lib.hid ⟨(Below.refl _ _).grown hg5 (by rw [HS4.out]; omega) (fun k hk => own_block ho hk.symm), Nat.le_trans hbs hg5.size⟩; obtain ⟨ka, ⟨c0, c1, c2, c3, c4, c5⟩, kb, _⟩ := HEnv.out W5 HB5.out.1; have HKa := Lib.hid ka; have HKb := Lib.hid kb; clear hown5 hg5 hnil hoc ka kb)
    | (refine wpList_load_key rfl _ rfl N rfl X Y HKa.out ?_)
    | (refine wpList_load_key rfl _ rfl (N + 2) rfl A C HKb.out ?_))
  clear ho hnw hlen hml h47 hbs hone
  refine (HA1.out go co W5 HOc.out.1 HOc.out.2.1 HOc.out.2.2).mono ?_
  rintro e w6 ⟨⟨aa, ga, ca, rfl, r1, r2, r3, r4⟩, hb6⟩
  obtain ⟨h6, hh6⟩ : ∃ h6, h6 = w6.heap.size := ⟨_, rfl⟩
  obtain ⟨W7, hW7⟩ : ∃ W7, W7 = (w6.alloc (.cells #[.slice none 0 0, .int .u64 0, .slice none 0 0, .int .u8 0, .int .u8 0, .int .u8 0, .int .u8 0, .int .u8 0, .int .u8 0, .int .u8 0, .int .u8 0, .int .u8 0, .int .u8 0, .int .u8 0, .int .u8 0, .int .u8 0, .int .u8 0, .int .u8 0, .int .u8 0, .int .u8 0, .int .u8 0, .int .u8 0, .int .u8 0, .int .u8 0, .int .u8 0, .int .u8 0, .int .u8 0, .int .u8 0, .int .u8 0, .int .u8 0, .int .u8 0, .int .u8 0, .int .u8 0, .int .u8 0, .int .u8 0] 60)).setCells w6.heap.size 0 (hdl (.slice aa nn ca) B BX BY U V) := ⟨_, rfl⟩
  have HT7 : Hid ((w6.alloc (.cells #[.slice none 0 0, .int .u64 0, .slice none 0 0, .int .u8 0, .int .u8 0, .int .u8 0, .int .u8 0, .int .u8 0, .int .u8 0, .int .u8 0, .int .u8 0, .int .u8 0, .int .u8 0, .int .u8 0, .int .u8 0, .int .u8 0, .int .u8 0, .int .u8 0, .int .u8 0, .int .u8 0, .int .u8 0, .int .u8 0, .int .u8 0, .int .u8 0, .int .u8 0, .int .u8 0, .int .u8 0, .int .u8 0, .int .u8 0, .int .u8 0, .int .u8 0, .int .u8 0, .int .u8 0, .int .u8 0, .int .u8 0] 60)).there w6.heap.size 0 35) := Lib.hid (there_new _ _ _ 35 rfl)
  have h67 : Below w6.heap.size w6 W7 := by rw [hW7]; exact below_setCells _ _ _ _ (below_new _ _) (Nat.le_refl _)
  have HH7 : Hid (HdAt W7 h6 (.slice aa nn ca) B BX BY U V ∧ h6 < W7.heap.size) := Lib.hid (by rw [hW7, hh6]; exact ⟨HdAt.stored (there_new _ _ _ 35 rfl) _ _ _ _ _ _, by rw [size_setCells]; simp⟩)
  have hB57 : Below W5.heap.size W5 W7 := hb6.trans (h67.mono hb6.size)
  have HB7 : Hid (Below (N + 3) W4 W7 ∧ N + 3 ≤ W7.heap.size ∧ Below W5.heap.size W5 W7) := Lib.hid ⟨HB5.out.1.trans (hB57.mono HB5.out.2), Nat.le_trans HB5.out.2 hB57.size, hB57⟩
  have HR7 : Hid ((nn = 0 ∨ aa = some ⟨ga, 0, none⟩) ∧ nn ≤ ca ∧ ca ≤ maxLen ∧ ∀ i, i < nn → W7.cell? ⟨ga, i * 2, none⟩ = some (.int .u64 (F1 i : Int)) ∧ W7.cell? ⟨ga, i * 2 + 1, none⟩ = some (.int .u64 (F2 i : Int))) := Lib.hid ⟨r1, r2, r3, fun i hi => ⟨(h67.cell (p := ⟨ga, i * 2, none⟩) (World.block_lt_of_cell? w6 _ (r4 i hi).1)).trans (r4 i hi).1, (h67.cell (p := ⟨ga, i * 2 + 1, none⟩) (World.block_lt_of_cell? w6 _ (r4 i hi).2)).trans (r4 i hi).2⟩⟩
  obtain ⟨_, ⟨d0, d1, d2, d3, d4, d5⟩, _, _⟩ := HEnv.out W7 HB7.out.1
  have HK7 := Lib.hid (HEnv.out W7 HB7.out.1).1
  have HK8 := Lib.hid (HEnv.out W7 HB7.out.1).2.2.1
  have HW7 := Lib.hid hW7
  have HH6 := Lib.hid hh6
  clear hW7 hh6 hb6 h67 hB57 r1 r2 r3 r4 c0 c1 c2 c3 c4 c5
  go_wp2_with (first
    | ((refine wpList_store_hd rfl _ _ rfl w6.heap.size (.slice aa nn ca) B BX BY U V rfl rfl rfl HT7.out ?_); rw [← HW7.out, ← HH6.out])
    | (refine wpList_load_key rfl _ rfl N rfl X Y HK7.out ?_)
    | (refine wpList_load_key rfl _ rfl (N + 2) rfl A C HK8.out ?_))
  refine (HA2.out W7 (HCl.out W7 (HEnv.out W7 HB7.out.1).2.2.2)).mono ?_
  rintro e w8 ⟨⟨ab, gb, cb, rfl, r1, r2, r3, r4⟩, hb8⟩
  obtain ⟨h8, hh8⟩ : ∃ h8, h8 = w8.heap.size := ⟨_, rfl⟩
  obtain ⟨W9, hW9⟩ : ∃ W9, W9 = (w8.alloc (.cells #[.slice none 0 0, .int .u64 0, .slice none 0 0, .int .u8 0, .int .u8 0, .int .u8 0, .int .u8 0, .int .u8 0, .int .u8 0, .int .u8 0, .int .u8 0, .int .u8 0, .int .u8 0, .int .u8 0, .int .u8 0, .int .u8 0, .int .u8 0, .int .u8 0, .int .u8 0, .int .u8 0, .int .u8 0, .int .u8 0, .int .u8 0, .int .u8 0, .int .u8 0, .int .u8 0, .int .u8 0, .int .u8 0, .int .u8 0, .int .u8 0, .int .u8 0, .int .u8 0, .int .u8 0, .int .u8 0, .int .u8 0] 60)).setCells w8.heap.size 0 (hdl (.slice ab nn cb) B BX BY U V) := ⟨_, rfl⟩
  have HT9 : Hid ((w8.alloc (.cells #[.slice none 0 0, .int .u64 0, .slice none 0 0, .int .u8 0, .int .u8 0, .int .u8 0, .int .u8 0, .int .u8 0, .int .u8 0, .int .u8 0, .int .u8 0, .int .u8 0, .int .u8 0, .int .u8 0, .int .u8 0, .int .u8 0, .int .u8 0, .int .u8 0, .int .u8 0, .int .u8 0, .int .u8 0, .int .u8 0, .int .u8 0, .int .u8 0, .int .u8 0, .int .u8 0, .int .u8 0, .int .u8 0, .int .u8 0, .int .u8 0, .int .u8 0, .int .u8 0, .int .u8 0, .int .u8 0, .int .u8 0] 60)).there w8.heap.size 0 35) := Lib.hid (there_new _ _ _ 35 rfl)
  have h89 : Below w8.heap.size w8 W9 := by rw [hW9]; exact below_setCells _ _ _ _ (below_new _ _) (Nat.le_refl _)
  have hB79 : Below W7.heap.size W7 W9 := hb8.trans (h89.mono hb8.size)
  have HH9 : Hid (HdAt W9 h8 (.slice ab nn cb) B BX BY U V) := Lib.hid (by rw [hW9, hh8]; exact HdAt.stored (there_new _ _ _ 35 rfl) _ _ _ _ _ _)
  have HH79 : Hid (HdAt W9 h6 (.slice aa nn ca) B BX BY U V) := Lib.hid (HH7.out.1.below hB79 HH7.out.2)
  have HB9 : Hid (Below (N + 3) W4 W9 ∧ N + 3 ≤ W9.heap.size ∧ Below W5.heap.size W5 W9) := Lib.hid ⟨HB7.out.1.trans (hB79.mono HB7.out.2.1), Nat.le_trans HB7.out.2.1 hB79.size, HB7.out.2.2.trans (hB79.mono HB7.out.2.2.size)⟩
  have HSH : Hid (Calls Try.prog 22 #[.agg (hdl (.slice aa nn ca) B BX BY U V).toArray, .agg (hdl (.slice ab nn cb) B BX BY U V).toArray] W9 fun e w' => e = .returned (.bool true) ∧ Below W9.heap.size W9 w') := Lib.hid (sameHeader_eq aa ab ga gb ca cb nn B BX BY U V F1 F2 W9 HKs.out.1 HKs.out.2.1 HKs.out.2.2.1 HKs.out.2.2.2 hn8 HR7.out.2.1 r2 HR7.out.2.2.1 r3 (by
      rcases HR7.out.1 with h0 | h0
      · exact .inl h0
      · rcases r1 with h1 | h1
        · exact .inl h1
        · exact .inr ⟨h0, h1⟩)
    (fun i hi => ⟨(hB79.cell (p := ⟨ga, i * 2, none⟩) (World.block_lt_of_cell? W7 _ (HR7.out.2.2.2 i hi).1)).trans (HR7.out.2.2.2 i hi).1, (hB79.cell (p := ⟨ga, i * 2 + 1, none⟩) (World.block_lt_of_cell? W7 _ (HR7.out.2.2.2 i hi).2)).trans (HR7.out.2.2.2 i hi).2⟩)
    (fun i hi => ⟨(h89.cell (p := ⟨gb, i * 2, none⟩) (World.block_lt_of_cell? w8 _ (r4 i hi).1)).trans (r4 i hi).1, (h89.cell (p := ⟨gb, i * 2 + 1, none⟩) (World.block_lt_of_cell? w8 _ (r4 i hi).2)).trans (r4 i hi).2⟩))
  have HW9 := Lib.hid hW9
  have HH8 := Lib.hid hh8
  clear hW9 hh8 hb8 h89 hB79 r1 r2 r3 r4 d0 d1 d2 d3 d4 d5
  go_wp2_with (first
    | ((refine wpList_store_hd rfl _ _ rfl w8.heap.size (.slice ab nn cb) B BX BY U V rfl rfl rfl HT9.out ?_); rw [← HW9.out, ← HH8.out])
    | (refine wpList_load_hd rfl _ rfl h6 rfl _ _ _ _ _ _ HH79.out ?_)
    | (refine wpList_load_hd rfl _ rfl h8 rfl _ _ _ _ _ _ HH9.out ?_))
  refine HSH.out.mono ?_
  rintro e w10 ⟨rfl, hb10⟩
  have HB10 : Hid (Below N w w10 ∧ Below W5.heap.size W5 w10 ∧ N + 3 ≤ w10.heap.size) := Lib.hid ⟨(HEnv.out w10 (HB9.out.1.trans (hb10.mono HB9.out.2.1))).2.2.2, HB9.out.2.2.trans (hb10.mono HB9.out.2.2.size), Nat.le_trans HB9.out.2.1 hb10.size⟩
  have HSI : Hid (Calls Try.prog 23 #[.slice (some ⟨go, 0, none⟩) n co, .slice (some ad) n c] w10 fun e w' => e = .returned (.bool true) ∧ Below w10.heap.size w10 w') := Lib.hid (sameInts_eq (some ⟨go, 0, none⟩) (some ad) go off b n co c f w10 HOc.out.1 HC2.out.1 HOc.out.2.1 HC2.out.2 (by rcases HAD.out with h0 | h0; exact .inl h0; exact .inr ⟨rfl, h0⟩) (fun i hi => ⟨(HB10.out.2.1.cell (p := ⟨go, i, none⟩) (World.block_lt_of_cell? W5 _ (HOc.out.2.2 i hi))).trans (HOc.out.2.2 i hi), HCl.out w10 HB10.out.1 i hi⟩))
  clear hb10
  go_wp2_with fail
  refine HSI.out.mono ?_
  rintro e w11 ⟨rfl, hb11⟩
  have HF : Hid (Below N w w11) := Lib.hid (HB10.out.1.trans (hb11.mono (by have := HB10.out.2.2; omega)))
  clear hb11
  go_wp2_with fail
  go_ret
  exact ⟨rfl, by first | exact HF.out | (rw [← HN.out]; exact HF.out)⟩

set_option maxRecDepth 100000 in
set_option maxHeartbeats 2000000 in
theorem walk_none (X Y A C : Nat) (K D E code : Int) (P Q G m b off n c nn B BX BY U V : Nat) (f : Nat → Int) (F1 F2 : Nat → Nat) (w : World) (hBX : BX < M) (hBY : BY < M) (hU : U < M) (hV : V < M) (hn8 : nn ≤ 8) (hn : n ≤ c) (hc : c ≤ maxLen) (hsz : n ≤ 17592186044416) (had : n = 0 ∨ (none : Option Addr) = some ⟨b, off, none⟩) (hcl : ∀ i, i < n → w.cell? ⟨b, off + i, none⟩ = some (.int .i64 (f i)))
    (H1 : ∀ (go co : Nat) (w : World), n ≤ co → co ≤ maxLen → (∀ i, i < n → w.cell? ⟨go, i, none⟩ = some (.int .i64 (f i))) → Calls Try.prog 20 #[.agg (kl X Y).toArray, .agg #[.int .u8 K, .int .i64 D, .int .i64 E, .int .u64 (P : Int), .int .u64 (Q : Int), .int .u64 (G : Int)], .slice (some ⟨go, 0, none⟩) n co, .agg (kl A C).toArray, .int .u64 (m : Int)] w fun e w' => HRes nn B BX BY U V F1 F2 code w' e ∧ Below w.heap.size w w')
    (H2 : ∀ (w : World), (∀ i, i < n → w.cell? ⟨b, off + i, none⟩ = some (.int .i64 (f i))) → Calls Try.prog 21 #[.agg (kl X Y).toArray, .agg #[.int .u8 K, .int .i64 D, .int .i64 E, .int .u64 (P : Int), .int .u64 (Q : Int), .int .u64 (G : Int)], .slice ((none : Option Addr)) n c, .agg (kl A C).toArray, .int .u64 (m : Int)] w fun e w' => HRes nn B BX BY U V F1 F2 code w' e ∧ Below w.heap.size w w') :
    Calls Try.prog 5 #[.agg (kl X Y).toArray, .agg #[.int .u8 K, .int .i64 D, .int .i64 E, .int .u64 (P : Int), .int .u64 (Q : Int), .int .u64 (G : Int)], .slice ((none : Option Addr)) n c, .agg (kl A C).toArray, .int .u64 (m : Int)] w fun e w' => e = .returned (.bool true) ∧ Below w.heap.size w w' := by
  obtain ⟨i0, hi, hz0, hz1, hz2⟩ := info_parts info3
  obtain ⟨N, hN⟩ : ∃ N, N = w.heap.size := ⟨_, rfl⟩
  obtain ⟨W4, hW4⟩ : ∃ W4, W4 = (((w.alloc (.cells (kl X Y).toArray 23)).alloc (.cells #[.int .u8 K, .int .i64 D, .int .i64 E, .int .u64 (P : Int), .int .u64 (Q : Int), .int .u64 (G : Int)] 28)).alloc (.cells (kl A C).toArray 23)).alloc (.cells #[] 3) := ⟨_, rfl⟩
  have HB4 : Hid (Below N w W4) := Lib.hid (by rw [hW4, hN]; exact ((((Below.refl _ _).alloc (Nat.le_refl _) _).alloc (by simp) _).alloc (by simp; omega) _).alloc (by simp; omega) _)
  have HS4 : Hid (W4.heap.size = N + 4) := Lib.hid (by rw [hW4, hN]; simp)
  have HEnv : Hid (∀ w1, Below (N + 3) W4 w1 → KeyAt w1 N X Y ∧ SchAt w1 (N + 1) K D E P Q G ∧ KeyAt w1 (N + 2) A C ∧ Below N w w1) := Lib.hid (fun w1 h => by
    have k : KeyAt W4 N X Y := by rw [hW4, hN]; exact (((KeyAt.new w X Y 23).alloc _).alloc _).alloc _
    have s : SchAt W4 (N + 1) K D E P Q G := by
      have h := SchAt.new (w.alloc (.cells (kl X Y).toArray 23)) K D E P Q G
      rw [World.size_alloc] at h
      rw [hW4, hN]; exact h.below (((Below.refl _ _).alloc (Nat.le_refl _) _).alloc (by simp) _) (by simp)
    have k2 : KeyAt W4 (N + 2) A C := by
      have h := KeyAt.new ((w.alloc (.cells (kl X Y).toArray 23)).alloc (.cells #[.int .u8 K, .int .i64 D, .int .i64 E, .int .u64 (P : Int), .int .u64 (Q : Int), .int .u64 (G : Int)] 28)) A C 23
      rw [World.size_alloc, World.size_alloc] at h
      rw [hW4, hN]; exact h.alloc _
    exact ⟨k.below h (by omega), s.below h (by omega), k2.below h (by omega), HB4.out.trans (h.mono (by omega))⟩)
  have HO4 : Hid (W4.ownsRow (N + 3) 3 1 (.slice (some ⟨N + 3, 0, none⟩) 0 0) 0 []) := Lib.hid (by
    rw [hW4, hN]
    exact ⟨rfl, .inr ⟨w.heap.size + 3, 0, #[], rfl, Nat.le_refl _, by have h := heap_alloc_new (((w.alloc (.cells (kl X Y).toArray 23)).alloc (.cells #[.int .u8 K, .int .i64 D, .int .i64 E, .int .u64 (P : Int), .int .u64 (Q : Int), .int .u64 (G : Int)] 28)).alloc (.cells (kl A C).toArray 23)) (.cells #[] 3); rw [World.size_alloc, World.size_alloc, World.size_alloc] at h; exact h, Nat.le_refl _, by simp [maxLen], rfl, rfl⟩⟩)
  have HCl : Hid (∀ w1, Below N w w1 → ∀ i, i < n → w1.cell? ⟨b, off + i, none⟩ = some (.int .i64 (f i))) := Lib.hid (fun w1 h1 i hi => (h1.cell (p := ⟨b, off + i, none⟩) (by rw [hN]; exact World.block_lt_of_cell? w _ (hcl i hi))).trans (hcl i hi))
  have HA1 := Lib.hid H1
  have HA2 := Lib.hid H2
  have HAD := Lib.hid had
  have HKs : Hid (BX < M ∧ BY < M ∧ U < M ∧ V < M) := Lib.hid ⟨hBX, hBY, hU, hV⟩
  have HW := Lib.hid hW4
  have HN := Lib.hid hN
  have HC2 := Lib.hid (And.intro hn hc)
  rw [← hN]
  obtain rfl : n = 0 := by rcases had with h | h; exact h; cases h
  have hap := fun ty => run_append_room_src (P := Try.prog) (w := W4) 57 57 ty 3 i0 Try.underlying57 hi (N + 3) 0 0 0 (.slice none 0 c) 0 [] (Src.ofNil _ Try.underlying57 c) (by omega) (fun j hj => by simp at hj) (fun j hj => by simp at hj)
  simp only [World.setCells] at hap
  rw [HW.out, HN.out] at hap
  clear hcl had
  clear hN hW4 H1 H2 hBX hBY hU hV
  obtain ⟨W5, hW5⟩ : ∃ W5, W5 = W4 := ⟨_, rfl⟩
  have HOc : Hid (0 ≤ 0 ∧ 0 ≤ maxLen ∧ ∀ i, i < 0 → W5.cell? ⟨N + 3, i, none⟩ = some (.int .i64 (f i))) := Lib.hid ⟨by omega, by simp [maxLen], fun i hi => by omega⟩
  have HB5 : Hid (Below (N + 3) W4 W5 ∧ N + 3 ≤ W5.heap.size) := Lib.hid (by rw [hW5]; exact ⟨Below.refl _ _, by rw [HS4.out]; omega⟩)
  obtain ⟨_, ⟨c0, c1, c2, c3, c4, c5⟩, _, _⟩ := HEnv.out W5 HB5.out.1
  have HW5 := Lib.hid hW5
  clear hW5
  rw [HW5.out, HW.out, HN.out] at c0 c1 c2 c3 c4 c5
  have HKa := Lib.hid (HEnv.out W5 HB5.out.1).1
  have HKb := Lib.hid (HEnv.out W5 HB5.out.1).2.2.1
  go_enter Try.func5, Try.ntmps5
  go_wp2_with (first
    | (refine wpList_load_key rfl _ rfl w.heap.size rfl X Y (by rw [← HW.out, ← HW5.out, ← HN.out]; exact HKa.out) ?_)
    | (refine wpList_load_key rfl _ rfl (w.heap.size + 1 + 1) rfl A C (by rw [← HW.out, ← HW5.out, ← HN.out]; exact HKb.out) ?_))
  rw [← HW.out, ← HN.out]
  simp only [Nat.add_assoc, Nat.reduceAdd]
  rw [← HW5.out]
  obtain ⟨_, ⟨c0, c1, c2, c3, c4, c5⟩, _, _⟩ := HEnv.out W5 HB5.out.1
  clear hap
  refine (HA1.out (N + 3) 0 W5 HOc.out.1 HOc.out.2.1 HOc.out.2.2).mono ?_
  rintro e w6 ⟨⟨aa, ga, ca, rfl, r1, r2, r3, r4⟩, hb6⟩
  obtain ⟨h6, hh6⟩ : ∃ h6, h6 = w6.heap.size := ⟨_, rfl⟩
  obtain ⟨W7, hW7⟩ : ∃ W7, W7 = (w6.alloc (.cells #[.slice none 0 0, .int .u64 0, .slice none 0 0, .int .u8 0, .int .u8 0, .int .u8 0, .int .u8 0, .int .u8 0, .int .u8 0, .int .u8 0, .int .u8 0, .int .u8 0, .int .u8 0, .int .u8 0, .int .u8 0, .int .u8 0, .int .u8 0, .int .u8 0, .int .u8 0, .int .u8 0, .int .u8 0, .int .u8 0, .int .u8 0, .int .u8 0, .int .u8 0, .int .u8 0, .int .u8 0, .int .u8 0, .int .u8 0, .int .u8 0, .int .u8 0, .int .u8 0, .int .u8 0, .int .u8 0, .int .u8 0] 60)).setCells w6.heap.size 0 (hdl (.slice aa nn ca) B BX BY U V) := ⟨_, rfl⟩
  have HT7 : Hid ((w6.alloc (.cells #[.slice none 0 0, .int .u64 0, .slice none 0 0, .int .u8 0, .int .u8 0, .int .u8 0, .int .u8 0, .int .u8 0, .int .u8 0, .int .u8 0, .int .u8 0, .int .u8 0, .int .u8 0, .int .u8 0, .int .u8 0, .int .u8 0, .int .u8 0, .int .u8 0, .int .u8 0, .int .u8 0, .int .u8 0, .int .u8 0, .int .u8 0, .int .u8 0, .int .u8 0, .int .u8 0, .int .u8 0, .int .u8 0, .int .u8 0, .int .u8 0, .int .u8 0, .int .u8 0, .int .u8 0, .int .u8 0, .int .u8 0] 60)).there w6.heap.size 0 35) := Lib.hid (there_new _ _ _ 35 rfl)
  have h67 : Below w6.heap.size w6 W7 := by rw [hW7]; exact below_setCells _ _ _ _ (below_new _ _) (Nat.le_refl _)
  have HH7 : Hid (HdAt W7 h6 (.slice aa nn ca) B BX BY U V ∧ h6 < W7.heap.size) := Lib.hid (by rw [hW7, hh6]; exact ⟨HdAt.stored (there_new _ _ _ 35 rfl) _ _ _ _ _ _, by rw [size_setCells]; simp⟩)
  have hB57 : Below W5.heap.size W5 W7 := hb6.trans (h67.mono hb6.size)
  have HB7 : Hid (Below (N + 3) W4 W7 ∧ N + 3 ≤ W7.heap.size ∧ Below W5.heap.size W5 W7) := Lib.hid ⟨HB5.out.1.trans (hB57.mono HB5.out.2), Nat.le_trans HB5.out.2 hB57.size, hB57⟩
  have HR7 : Hid ((nn = 0 ∨ aa = some ⟨ga, 0, none⟩) ∧ nn ≤ ca ∧ ca ≤ maxLen ∧ ∀ i, i < nn → W7.cell? ⟨ga, i * 2, none⟩ = some (.int .u64 (F1 i : Int)) ∧ W7.cell? ⟨ga, i * 2 + 1, none⟩ = some (.int .u64 (F2 i : Int))) := Lib.hid ⟨r1, r2, r3, fun i hi => ⟨(h67.cell (p := ⟨ga, i * 2, none⟩) (World.block_lt_of_cell? w6 _ (r4 i hi).1)).trans (r4 i hi).1, (h67.cell (p := ⟨ga, i * 2 + 1, none⟩) (World.block_lt_of_cell? w6 _ (r4 i hi).2)).trans (r4 i hi).2⟩⟩
  obtain ⟨_, ⟨d0, d1, d2, d3, d4, d5⟩, _, _⟩ := HEnv.out W7 HB7.out.1
  have HK7 := Lib.hid (HEnv.out W7 HB7.out.1).1
  have HK8 := Lib.hid (HEnv.out W7 HB7.out.1).2.2.1
  have HW7 := Lib.hid hW7
  have HH6 := Lib.hid hh6
  clear hW7 hh6 hb6 h67 hB57 r1 r2 r3 r4 c0 c1 c2 c3 c4 c5
  go_wp2_with (first
    | ((refine wpList_store_hd rfl _ _ rfl w6.heap.size (.slice aa nn ca) B BX BY U V rfl rfl rfl HT7.out ?_); rw [← HW7.out, ← HH6.out])
    | (refine wpList_load_key rfl _ rfl N rfl X Y HK7.out ?_)
    | (refine wpList_load_key rfl _ rfl (N + 2) rfl A C HK8.out ?_))
  refine (HA2.out W7 (HCl.out W7 (HEnv.out W7 HB7.out.1).2.2.2)).mono ?_
  rintro e w8 ⟨⟨ab, gb, cb, rfl, r1, r2, r3, r4⟩, hb8⟩
  obtain ⟨h8, hh8⟩ : ∃ h8, h8 = w8.heap.size := ⟨_, rfl⟩
  obtain ⟨W9, hW9⟩ : ∃ W9, W9 = (w8.alloc (.cells #[.slice none 0 0, .int .u64 0, .slice none 0 0, .int .u8 0, .int .u8 0, .int .u8 0, .int .u8 0, .int .u8 0, .int .u8 0, .int .u8 0, .int .u8 0, .int .u8 0, .int .u8 0, .int .u8 0, .int .u8 0, .int .u8 0, .int .u8 0, .int .u8 0, .int .u8 0, .int .u8 0, .int .u8 0, .int .u8 0, .int .u8 0, .int .u8 0, .int .u8 0, .int .u8 0, .int .u8 0, .int .u8 0, .int .u8 0, .int .u8 0, .int .u8 0, .int .u8 0, .int .u8 0, .int .u8 0, .int .u8 0] 60)).setCells w8.heap.size 0 (hdl (.slice ab nn cb) B BX BY U V) := ⟨_, rfl⟩
  have HT9 : Hid ((w8.alloc (.cells #[.slice none 0 0, .int .u64 0, .slice none 0 0, .int .u8 0, .int .u8 0, .int .u8 0, .int .u8 0, .int .u8 0, .int .u8 0, .int .u8 0, .int .u8 0, .int .u8 0, .int .u8 0, .int .u8 0, .int .u8 0, .int .u8 0, .int .u8 0, .int .u8 0, .int .u8 0, .int .u8 0, .int .u8 0, .int .u8 0, .int .u8 0, .int .u8 0, .int .u8 0, .int .u8 0, .int .u8 0, .int .u8 0, .int .u8 0, .int .u8 0, .int .u8 0, .int .u8 0, .int .u8 0, .int .u8 0, .int .u8 0] 60)).there w8.heap.size 0 35) := Lib.hid (there_new _ _ _ 35 rfl)
  have h89 : Below w8.heap.size w8 W9 := by rw [hW9]; exact below_setCells _ _ _ _ (below_new _ _) (Nat.le_refl _)
  have hB79 : Below W7.heap.size W7 W9 := hb8.trans (h89.mono hb8.size)
  have HH9 : Hid (HdAt W9 h8 (.slice ab nn cb) B BX BY U V) := Lib.hid (by rw [hW9, hh8]; exact HdAt.stored (there_new _ _ _ 35 rfl) _ _ _ _ _ _)
  have HH79 : Hid (HdAt W9 h6 (.slice aa nn ca) B BX BY U V) := Lib.hid (HH7.out.1.below hB79 HH7.out.2)
  have HB9 : Hid (Below (N + 3) W4 W9 ∧ N + 3 ≤ W9.heap.size ∧ Below W5.heap.size W5 W9) := Lib.hid ⟨HB7.out.1.trans (hB79.mono HB7.out.2.1), Nat.le_trans HB7.out.2.1 hB79.size, HB7.out.2.2.trans (hB79.mono HB7.out.2.2.size)⟩
  have HSH : Hid (Calls Try.prog 22 #[.agg (hdl (.slice aa nn ca) B BX BY U V).toArray, .agg (hdl (.slice ab nn cb) B BX BY U V).toArray] W9 fun e w' => e = .returned (.bool true) ∧ Below W9.heap.size W9 w') := Lib.hid (sameHeader_eq aa ab ga gb ca cb nn B BX BY U V F1 F2 W9 HKs.out.1 HKs.out.2.1 HKs.out.2.2.1 HKs.out.2.2.2 hn8 HR7.out.2.1 r2 HR7.out.2.2.1 r3 (by
      rcases HR7.out.1 with h0 | h0
      · exact .inl h0
      · rcases r1 with h1 | h1
        · exact .inl h1
        · exact .inr ⟨h0, h1⟩)
    (fun i hi => ⟨(hB79.cell (p := ⟨ga, i * 2, none⟩) (World.block_lt_of_cell? W7 _ (HR7.out.2.2.2 i hi).1)).trans (HR7.out.2.2.2 i hi).1, (hB79.cell (p := ⟨ga, i * 2 + 1, none⟩) (World.block_lt_of_cell? W7 _ (HR7.out.2.2.2 i hi).2)).trans (HR7.out.2.2.2 i hi).2⟩)
    (fun i hi => ⟨(h89.cell (p := ⟨gb, i * 2, none⟩) (World.block_lt_of_cell? w8 _ (r4 i hi).1)).trans (r4 i hi).1, (h89.cell (p := ⟨gb, i * 2 + 1, none⟩) (World.block_lt_of_cell? w8 _ (r4 i hi).2)).trans (r4 i hi).2⟩))
  have HW9 := Lib.hid hW9
  have HH8 := Lib.hid hh8
  clear hW9 hh8 hb8 h89 hB79 r1 r2 r3 r4 d0 d1 d2 d3 d4 d5
  go_wp2_with (first
    | ((refine wpList_store_hd rfl _ _ rfl w8.heap.size (.slice ab nn cb) B BX BY U V rfl rfl rfl HT9.out ?_); rw [← HW9.out, ← HH8.out])
    | (refine wpList_load_hd rfl _ rfl h6 rfl _ _ _ _ _ _ HH79.out ?_)
    | (refine wpList_load_hd rfl _ rfl h8 rfl _ _ _ _ _ _ HH9.out ?_))
  refine HSH.out.mono ?_
  rintro e w10 ⟨rfl, hb10⟩
  have HB10 : Hid (Below N w w10 ∧ Below W5.heap.size W5 w10 ∧ N + 3 ≤ w10.heap.size) := Lib.hid ⟨(HEnv.out w10 (HB9.out.1.trans (hb10.mono HB9.out.2.1))).2.2.2, HB9.out.2.2.trans (hb10.mono HB9.out.2.2.size), Nat.le_trans HB9.out.2.1 hb10.size⟩
  have HSI : Hid (Calls Try.prog 23 #[.slice (some ⟨(N + 3), 0, none⟩) 0 0, .slice ((none : Option Addr)) 0 c] w10 fun e w' => e = .returned (.bool true) ∧ Below w10.heap.size w10 w') := Lib.hid (sameInts_eq (some ⟨(N + 3), 0, none⟩) ((none : Option Addr)) (N + 3) off b 0 0 c f w10 HOc.out.1 HC2.out.1 HOc.out.2.1 HC2.out.2 (.inl rfl) (fun i hi => ⟨(HB10.out.2.1.cell (p := ⟨(N + 3), i, none⟩) (World.block_lt_of_cell? W5 _ (HOc.out.2.2 i hi))).trans (HOc.out.2.2 i hi), HCl.out w10 HB10.out.1 i hi⟩))
  clear hb10
  go_wp2_with fail
  refine HSI.out.mono ?_
  rintro e w11 ⟨rfl, hb11⟩
  have HF : Hid (Below N w w11) := Lib.hid (HB10.out.1.trans (hb11.mono (by have := HB10.out.2.2; omega)))
  clear hb11
  go_wp2_with fail
  go_ret
  exact ⟨rfl, by first | exact HF.out | (rw [← HN.out]; exact HF.out)⟩

theorem walk (X Y : Nat) (hX : X < M) (hY : Y < M) (K D E P Q G : Int) (hK0 : 0 ≤ K) (hK1 : K ≤ 255) (hP : 0 ≤ P) (hQ : 0 ≤ Q) (hQ2 : Q ≤ 18446744073709551615) (hG : 0 ≤ G) (A C : Nat) (hA : A < M) (hC : C < M) (m : Int) (hm0 : 0 ≤ m) (hm1 : m ≤ 18446744073709551615)
    (ad : Option Addr) (b off n c : Nat) (f : Nat → Int) (w : World) (hn : n ≤ c) (hc : c ≤ maxLen) (hsz : n ≤ 17592186044416) (had : n = 0 ∨ ad = some ⟨b, off, none⟩) (hcl : ∀ i, i < n → w.cell? ⟨b, off + i, none⟩ = some (.int .i64 (f i))) :
    Calls Try.prog 5 #[.agg (kl X Y).toArray, .agg #[.int .u8 K, .int .i64 D, .int .i64 E, .int .u64 P, .int .u64 Q, .int .u64 G], .slice ad n c, .agg (kl A C).toArray, .int .u64 m] w fun e w' => e = .returned (.bool true) ∧ Below w.heap.size w w' := by
  obtain ⟨P, rfl⟩ := Int.eq_ofNat_of_zero_le hP
  obtain ⟨Q, rfl⟩ := Int.eq_ofNat_of_zero_le hQ
  obtain ⟨G, rfl⟩ := Int.eq_ofNat_of_zero_le hG
  obtain ⟨m, rfl⟩ := Int.eq_ofNat_of_zero_le hm0
  have hQM : Q < M := by unfold M; omega
  have hmM : m < M := by unfold M; omega
  have go_ : ∀ (code : Int) (nn B BX BY U V : Nat) (F1 F2 : Nat → Nat), BX < M → BY < M → U < M → V < M → nn ≤ 8 →
      (∀ (go co : Nat) (w : World), n ≤ co → co ≤ maxLen → (∀ i, i < n → w.cell? ⟨go, i, none⟩ = some (.int .i64 (f i))) → Calls Try.prog 20 #[.agg (kl X Y).toArray, .agg #[.int .u8 K, .int .i64 D, .int .i64 E, .int .u64 (P : Int), .int .u64 (Q : Int), .int .u64 (G : Int)], .slice (some ⟨go, 0, none⟩) n co, .agg (kl A C).toArray, .int .u64 (m : Int)] w fun e w' => HRes nn B BX BY U V F1 F2 code w' e ∧ Below w.heap.size w w') →
      (∀ (w : World), (∀ i, i < n → w.cell? ⟨b, off + i, none⟩ = some (.int .i64 (f i))) → Calls Try.prog 21 #[.agg (kl X Y).toArray, .agg #[.int .u8 K, .int .i64 D, .int .i64 E, .int .u64 (P : Int), .int .u64 (Q : Int), .int .u64 (G : Int)], .slice ad n c, .agg (kl A C).toArray, .int .u64 (m : Int)] w fun e w' => HRes nn B BX BY U V F1 F2 code w' e ∧ Below w.heap.size w w') →
      Calls Try.prog 5 #[.agg (kl X Y).toArray, .agg #[.int .u8 K, .int .i64 D, .int .i64 E, .int .u64 (P : Int), .int .u64 (Q : Int), .int .u64 (G : Int)], .slice ad n c, .agg (kl A C).toArray, .int .u64 (m : Int)] w fun e w' => e = .returned (.bool true) ∧ Below w.heap.size w w' := by
    intro code nn B BX BY U V F1 F2 h1 h2 h3 h4 h5 H1 H2
    cases ad with
    | none => exact walk_none X Y A C K D E code P Q G m b off n c nn B BX BY U V f F1 F2 w h1 h2 h3 h4 h5 hn hc hsz had hcl H1 H2
    | some ad => exact walk_some X Y A C K D E code P Q G m b off n c nn B BX BY U V ad f F1 F2 w h1 h2 h3 h4 h5 hn hc hsz had hcl H1 H2
  have z : (0 : Nat) < M := by decide
  have cells0 : ∀ (go : Nat) (w : World), (∀ i, i < n → w.cell? ⟨go, i, none⟩ = some (.int .i64 (f i))) → ∀ i, i < n → w.cell? ⟨go, 0 + i, none⟩ = some (.int .i64 (f i)) := fun go w h i hi => by rw [Nat.zero_add]; exact h i hi
  by_cases h : SchOk K D E P Q G
  · obtain ⟨E, rfl⟩ := Int.eq_ofNat_of_zero_le (show 0 ≤ E by have := h.2.2.2.1; omega)
    by_cases hl : Lst D n f
    · by_cases hnE : n ≤ E
      · obtain ⟨hfn, hln⟩ := lst_nat hl
        have hT := lst_len hl
        have h64 : ∀ i, i < n → (f i).toNat < 64 := fun i hi => by
          have h1 := (of_decide_eq_true (hl i hi).1).2
          have h2 := (pw6 D h.2.1 h.2.2.1).2
          have h3 := hfn i hi
          generalize 2 ^ D.toNat = T at h1 h2
          omega
        have hE8 : E ≤ 8 := by have := h.2.2.2.2.1; omega
        have hPp : pwv X Y P Q G m E 0 < M := by
          have h1 : pwv X Y P Q G m E 0 < P := Nat.mod_lt _ (by have := h.2.2.2.2.2.1.2.1.1; omega)
          have h2 := h.2.2.2.2.2.1.1
          unfold M; omega
        have hk := drv_ok z z (show 42 < 256 by decide) hPp
        have he := enc_ok hk.1 hk.2 hA hC
        have hu := drv_ok hA hC (show 53 < 256 by decide) z
        refine go_ 0 E (hbase X Y P Q G m) _ _ _ _ (px (2 ^ D.toNat) n (fun i => (f i).toNat)) (fun i => pwv X Y P Q G m E (px (2 ^ D.toNat) n (fun i => (f i).toNat) i)) he.1 he.2 hu.1 hu.2 hE8 (fun go co w h1 h2 h3 => ?_) (fun w h3 => ?_)
        · refine (seal_ok X Y A C K D E P Q G m go 0 n co (fun i => (f i).toNat) w hX hY hA hC hmM hK0 hK1 hQM h h1 h2 hnE h64 (fun i hi => by rw [← hfn i hi]; exact cells0 go w h3 i hi) (lsb_yes hln)).mono ?_
          rintro e w' ⟨⟨g, c', rfl, _, q2, q3, q4⟩, hb⟩
          exact ⟨hres_ok q2 q3 q4, hb⟩
        · refine (refSeal_ok X Y A C K D E P Q G m b off n c ad (fun i => (f i).toNat) w hX hY hA hC hmM hK0 hK1 hQM h hn hc hnE hT h64 had (fun i hi => by rw [← hfn i hi]; exact h3 i hi) (lsb_yes hln)).mono ?_
          rintro e w' ⟨⟨g, c', rfl, _, q2, q3, q4⟩, hb⟩
          exact ⟨hres_ok q2 q3 q4, hb⟩
      · have hgt : (E : Int) < (n : Int) := by omega
        refine go_ 4 0 0 0 0 0 0 (fun _ => 0) (fun _ => 0) z z z z (by omega) (fun go co w h1 h2 h3 => ?_) (fun w h3 => ?_)
        · refine (seal_many X Y A C K D E P Q G m go 0 n co f w hK0 hK1 hQM h h1 h2 (cells0 go w h3) (lsb_yes hl) hgt).mono ?_
          rintro e w' ⟨rfl, hb⟩
          exact ⟨hres_zero _ _ _ _, hb⟩
        · refine (refSeal_many X Y A C K D E P Q G m b off n c ad f w hK0 hK1 hQM h hn hc had h3 (lsb_yes hl) hgt).mono ?_
          rintro e w' ⟨rfl, hb⟩
          exact ⟨hres_zero _ _ _ _, hb⟩
    · refine go_ 2 0 0 0 0 0 0 (fun _ => 0) (fun _ => 0) z z z z (by omega) (fun go co w h1 h2 h3 => ?_) (fun w h3 => ?_)
      · refine (seal_arg X Y A C K D E P Q G m go 0 n co f w hK0 hK1 hQM h h1 h2 (cells0 go w h3) (lsb_no hl)).mono ?_
        rintro e w' ⟨rfl, hb⟩
        exact ⟨hres_zero _ _ _ _, hb⟩
      · refine (refSeal_arg X Y A C K D E P Q G m b off n c ad f w hK0 hK1 hQM h hn hc had h3 (lsb_no hl)).mono ?_
        rintro e w' ⟨rfl, hb⟩
        exact ⟨hres_zero _ _ _ _, hb⟩
  · refine go_ 30 0 0 0 0 0 0 (fun _ => 0) (fun _ => 0) z z z z (by omega) (fun go co w h1 h2 h3 => ?_) (fun w h3 => ?_)
    · refine (seal_scheme X Y A C K D E P Q G m go 0 n co w hK0 hK1 hQM h).mono ?_
      rintro e w' ⟨rfl, hb⟩
      exact ⟨hres_zero _ _ _ _, hb⟩
    · refine (refSeal_scheme X Y A C K D E P Q G m b off n c ad w hK0 hK1 hQM h).mono ?_
      rintro e w' ⟨rfl, hb⟩
      exact ⟨hres_zero _ _ _ _, hb⟩

end Go.Proofs.Ytcbanemkjebdcaa.polySeals
