/-
  Seal, the program's: the header that it makes.
-/
import Derived.Test.YtcbanemkjebdcaaPolT
namespace Go.Proofs.Ytcbanemkjebdcaa
open Go.RowKit SP
set_option linter.unusedVariables false
set_option linter.unusedSimpArgs false

set_option maxRecDepth 100000 in
set_option maxHeartbeats 4000000 in
theorem seal_ok (X Y A B : Nat) (K D : Int) (E P Q G m b off n c : Nat) (f : Nat → Nat) (w : World) (hX : X < M) (hY : Y < M) (hA : A < M) (hB : B < M) (hm : m < M) (hK0 : 0 ≤ K) (hK1 : K ≤ 255) (hQ : Q < M) (h : SchOk K D (E : Int) P Q G) (hn : n ≤ c) (hc : c ≤ maxLen) (hnE : n ≤ E) (hf : ∀ i, i < n → f i < 64) (hcl : ∀ i, i < n → w.cell? ⟨b, off + i, none⟩ = some (.int .i64 (f i : Int))) (hl : lsb D n (fun i => (f i : Int)) = true) :
    Calls Try.prog 20 #[.agg (kl X Y).toArray, .agg #[.int .u8 K, .int .i64 D, .int .i64 (E : Int), .int .u64 (P : Int), .int .u64 (Q : Int), .int .u64 (G : Int)], .slice (some ⟨b, off, none⟩) n c, .agg (kl A B).toArray, .int .u64 (m : Int)] w fun e w' => (∃ g c', e = .returned (.tuple #[.agg (hdl (.slice (some ⟨g, 0, none⟩) E c') (hbase X Y P Q G m) (enc (drv 0 0 42 (pwv X Y P Q G m E 0)).1 (drv 0 0 42 (pwv X Y P Q G m E 0)).2 A B).1 (enc (drv 0 0 42 (pwv X Y P Q G m E 0)).1 (drv 0 0 42 (pwv X Y P Q G m E 0)).2 A B).2 (drv A B 53 0).1 (drv A B 53 0).2).toArray, .int .i64 0]) ∧ w.heap.size ≤ g ∧ E ≤ c' ∧ c' ≤ maxLen ∧ ∀ j v, (ptl X Y P Q G m E (2 ^ D.toNat) n f E)[j]? = some v → w'.cell? ⟨g, j, none⟩ = some v) ∧ Below w.heap.size w w' := by
  obtain ⟨i6, hi6, hz06, hz16, hz26⟩ := info_parts info46
  obtain ⟨N, hN⟩ : ∃ N, N = w.heap.size := ⟨_, rfl⟩
  obtain ⟨W4, hW4⟩ : ∃ W4, W4 = (((w.alloc (.cells (kl X Y).toArray 23)).alloc (.cells #[.int .u8 K, .int .i64 D, .int .i64 (E : Int), .int .u64 (P : Int), .int .u64 (Q : Int), .int .u64 (G : Int)] 28)).alloc (.cells (kl A B).toArray 23)).alloc (.cells (hdl (.slice none 0 0) 0 0 0 0 0).toArray 60) := ⟨_, rfl⟩
  have HB4 : Hid (Below N w W4) := Lib.hid (by rw [hW4, hN]; exact ((((Below.refl _ _).alloc (Nat.le_refl _) _).alloc (by simp) _).alloc (by simp; omega) _).alloc (by simp; omega) _)
  have HS4 : Hid (W4.heap.size = N + 4) := Lib.hid (by rw [hW4, hN]; simp)
  have HEnv : Hid (∀ w1, Below (N + 4) W4 w1 → KeyAt w1 N X Y ∧ SchAt w1 (N + 1) K D (E : Int) P Q G ∧ KeyAt w1 (N + 2) A B ∧ HdAt w1 (N + 3) (.slice none 0 0) 0 0 0 0 0 ∧ Below N w w1) := Lib.hid (fun w1 h => by
    have k : KeyAt W4 N X Y := by rw [hW4, hN]; exact (((KeyAt.new w X Y 23).alloc _).alloc _).alloc _
    have s : SchAt W4 (N + 1) K D (E : Int) P Q G := by
      have h := SchAt.new (w.alloc (.cells (kl X Y).toArray 23)) K D (E : Int) P Q G
      rw [World.size_alloc] at h
      rw [hW4, hN]; exact h.below (((Below.refl _ _).alloc (Nat.le_refl _) _).alloc (by simp) _) (by simp)
    have k2 : KeyAt W4 (N + 2) A B := by
      have h := KeyAt.new ((w.alloc (.cells (kl X Y).toArray 23)).alloc (.cells #[.int .u8 K, .int .i64 D, .int .i64 (E : Int), .int .u64 (P : Int), .int .u64 (Q : Int), .int .u64 (G : Int)] 28)) A B 23
      rw [World.size_alloc, World.size_alloc] at h
      rw [hW4, hN]; exact h.alloc _
    have r : HdAt W4 (N + 3) (.slice none 0 0) 0 0 0 0 0 := by
      have h := HdAt.new (((w.alloc (.cells (kl X Y).toArray 23)).alloc (.cells #[.int .u8 K, .int .i64 D, .int .i64 (E : Int), .int .u64 (P : Int), .int .u64 (Q : Int), .int .u64 (G : Int)] 28)).alloc (.cells (kl A B).toArray 23)) (.slice none 0 0) 0 0 0 0 0 60
      rw [World.size_alloc, World.size_alloc, World.size_alloc] at h
      rw [hW4, hN]; exact h
    exact ⟨k.below h (by omega), s.below h (by omega), k2.below h (by omega), r.below h (by omega), HB4.out.trans (h.mono (by omega))⟩)
  have HZ : Hid (∀ (w : World), w.there (N + 3) 0 35 → HdAt (w.setCells (N + 3) 0 (hdl (.slice none 0 0) 0 0 0 0 0)) (N + 3) (.slice none 0 0) 0 0 0 0 0) := Lib.hid (fun w h => HdAt.stored h _ _ _ _ _ _)
  have HN := Lib.hid hN
  have HW : Hid (W4 = (((w.alloc (.cells (kl X Y).toArray 23)).alloc (.cells #[.int .u8 K, .int .i64 D, .int .i64 (E : Int), .int .u64 (P : Int), .int .u64 (Q : Int), .int .u64 (G : Int)] 28)).alloc (.cells (kl A B).toArray 23)).alloc (.cells #[.slice none 0 0, .int .u64 0, .slice none 0 0, .int .u8 0, .int .u8 0, .int .u8 0, .int .u8 0, .int .u8 0, .int .u8 0, .int .u8 0, .int .u8 0, .int .u8 0, .int .u8 0, .int .u8 0, .int .u8 0, .int .u8 0, .int .u8 0, .int .u8 0, .int .u8 0, .int .u8 0, .int .u8 0, .int .u8 0, .int .u8 0, .int .u8 0, .int .u8 0, .int .u8 0, .int .u8 0, .int .u8 0, .int .u8 0, .int .u8 0, .int .u8 0, .int .u8 0, .int .u8 0, .int .u8 0, .int .u8 0] 60)) := Lib.hid (by rw [hd_zero]; exact hW4)
  rw [← hN]
  clear HZ
  obtain ⟨hk4, hd1, hd2, he1, he2, hgr, htq⟩ := h
  have h : SchOk K D (E : Int) P Q G := ⟨hk4, hd1, hd2, he1, he2, hgr, htq⟩
  have HQP : Hid (1 ≤ P ∧ P ≤ 1048575 ∧ 2 ≤ Q ∧ Q ≤ 1048575 ∧ 1 ≤ E ∧ E ≤ 8 ∧ 2 ^ D.toNat ≤ 64) := Lib.hid (⟨by have := hgr.2.1.1; omega, hgr.1, hgr.2.2.2.1.1, hgr.2.2.1, by omega, by omega, (pw6 D hd1 hd2).2⟩)
  have HCk : Hid (∀ w, Calls Try.prog 11 #[.agg #[.int .u8 K, .int .i64 D, .int .i64 (E : Int), .int .u64 (P : Int), .int .u64 (Q : Int), .int .u64 (G : Int)]] w fun e w' => e = .returned (.int .i64 0) ∧ Below w.heap.size w w') := Lib.hid (fun w => by
    have h1 := check_any K D (E : Int) P Q G w hK0 hK1 hQ
    rw [scc_yes h] at h1; exact h1)
  have HCl : Hid (∀ w1, Below (N + 4) W4 w1 → ∀ i, i < n → w1.cell? ⟨b, off + i, none⟩ = some (.int .i64 (f i : Int))) := Lib.hid (fun w1 h1 i hi => ((HB4.out.trans (h1.mono (by omega))).cell (p := ⟨b, off + i, none⟩) (by rw [HN.out]; exact World.block_lt_of_cell? w _ (hcl i hi))).trans (hcl i hi))
  have HIL : Hid (∀ w1, Below (N + 4) W4 w1 → Calls Try.prog 54 #[.agg #[.int .u8 K, .int .i64 D, .int .i64 (E : Int), .int .u64 (P : Int), .int .u64 (Q : Int), .int .u64 (G : Int)], .slice (some ⟨b, off, none⟩) n c] w1 fun e w' => e = .returned (.bool true) ∧ Below w1.heap.size w1 w') := Lib.hid (fun w1 h1 => by
    have h2 := isList_any K D (E : Int) P Q G b off n c (fun i => (f i : Int)) w1 hd1 hd2 hn hc (HCl.out w1 h1)
    rw [hl] at h2; exact h2)
  have HSP := Lib.hid (fun w => secretPoly_any X Y K D E P Q G w hX hY HQP.out.2.2.2.2.2.1)
  have HBO := Lib.hid (fun w => baseOf_any X Y K D (E : Int) P Q G m w hX hY hm HQP.out.1 HQP.out.2.1 HQP.out.2.2.1 HQP.out.2.2.2.1)
  have HCO := Lib.hid (fun w => checkOf_any A B w hA hB)
  have HPX : Hid (∀ w1, Below (N + 4) W4 w1 → Calls Try.prog 57 #[.agg #[.int .u8 K, .int .i64 D, .int .i64 (E : Int), .int .u64 (P : Int), .int .u64 (Q : Int), .int .u64 (G : Int)], .slice (some ⟨b, off, none⟩) n c] w1 fun r w' => (∃ g c', r = .returned (.slice (some ⟨g, 0, none⟩) E c') ∧ w1.heap.size ≤ g ∧ E ≤ c' ∧ c' ≤ maxLen ∧ ∀ i, i < E → w'.cell? ⟨g, i, none⟩ = some (.int .u64 (px (2 ^ D.toNat) n f i : Int))) ∧ Below w1.heap.size w1 w') := Lib.hid (fun w1 h1 => pointsX_any K D E P Q G b off n c f w1 hd1 hd2 HQP.out.2.2.2.2.1 HQP.out.2.2.2.2.2.1 hnE hn hc (fun i hi => by have := hf i hi; omega) (HCl.out w1 h1))
  have HPXb : Hid (∀ i, px (2 ^ D.toNat) n f i ≤ 1048575 ∨ E ≤ i) := Lib.hid (fun i => by
    by_cases h1 : i < n
    · left; unfold px; rw [if_pos h1]; have := hf i h1; omega
    · by_cases h2 : E ≤ i
      · right; exact h2
      · left; unfold px; rw [if_neg h1]; have := HQP.out.2.2.2.2.2; omega)
  have HAT := Lib.hid (fun (gb cg x : Nat) (w : World) (hc1 : E + 1 ≤ cg) (hc2 : cg ≤ maxLen) (hx : x ≤ 1048575) (hcl : ∀ i, i < E + 1 → w.cell? ⟨gb, i, none⟩ = some (.int .u64 (cof X Y Q i : Int))) => at_any Q gb (E + 1) cg x (cof X Y Q) w HQP.out.2.2.1 HQP.out.2.2.2.1 hx (fun i _ => by have := cof_lt X Y Q i (by have := HQP.out; omega); have := HQP.out; omega) (by omega) hc1 hc2 hcl)
  have HSm : Hid (∀ x, sm (cof X Y Q) x (E + 1) % Q < M) := Lib.hid (fun x => by
    have h1 : sm (cof X Y Q) x (E + 1) % Q < Q := Nat.mod_lt _ (by have := HQP.out; omega)
    have := HQP.out; unfold M; omega)
  have HPW := Lib.hid (fun (bs x : Nat) (w : World) => powerM_any P bs (sm (cof X Y Q) x (E + 1) % Q) w HQP.out.1 HQP.out.2.1 (HSm.out x))
  have HPwv : Hid (∀ x, hbase X Y P Q G m ^ (sm (cof X Y Q) x (E + 1) % Q) % P = pwv X Y P Q G m E x) := Lib.hid (fun x => rfl)
  have HMK := Lib.hid (fun (w : World) => maskKey_any (pwv X Y P Q G m E 0) w (by
    have h1 : pwv X Y P Q G m E 0 < P := Nat.mod_lt _ (by have := HQP.out; omega)
    have := HQP.out; unfold M; omega))
  have hok := drv_ok (show 0 < M by decide) (show 0 < M by decide) (show 42 < 256 by decide) (show pwv X Y P Q G m E 0 < M by
    have h1 : pwv X Y P Q G m E 0 < P := Nat.mod_lt _ (by have := HQP.out; omega)
    have := HQP.out; unfold M; omega)
  have HEN := Lib.hid (fun (w : World) => encrypt_any (drv 0 0 42 (pwv X Y P Q G m E 0)).1 (drv 0 0 42 (pwv X Y P Q G m E 0)).2 A B w hok.1 hok.2 hA hB)
  have hnE' : (n : Int) ≤ (E : Int) := by omega
  have hgt : decide ((E : Int) < (n : Int)) = false := decide_eq_false (by omega)
  have hn8 : n ≤ 8 := by have := HQP.out; omega
  have he8 : E ≤ 8 := HQP.out.2.2.2.2.2.1
  have HTl := Lib.hid (fun k => ptl_snoc X Y P Q G m E (2 ^ D.toNat) n f k)
  generalize 2 ^ D.toNat = T at HPX HPXb HTl ⊢
  obtain ⟨bs, hbs⟩ : ∃ bs, bs = hbase X Y P Q G m := ⟨_, rfl⟩
  rw [← hbs] at HBO HPwv ⊢
  obtain ⟨EX, hEX⟩ : ∃ EX, EX = (enc (drv 0 0 42 (pwv X Y P Q G m E 0)).1 (drv 0 0 42 (pwv X Y P Q G m E 0)).2 A B).1 := ⟨_, rfl⟩
  obtain ⟨EY, hEY⟩ : ∃ EY, EY = (enc (drv 0 0 42 (pwv X Y P Q G m E 0)).1 (drv 0 0 42 (pwv X Y P Q G m E 0)).2 A B).2 := ⟨_, rfl⟩
  rw [← hEX, ← hEY] at HEN ⊢
  obtain ⟨MX, hMX⟩ : ∃ MX, MX = (drv 0 0 42 (pwv X Y P Q G m E 0)).1 := ⟨_, rfl⟩
  obtain ⟨MY, hMY⟩ : ∃ MY, MY = (drv 0 0 42 (pwv X Y P Q G m E 0)).2 := ⟨_, rfl⟩
  rw [← hMX, ← hMY] at HEN HMK
  obtain ⟨U, hU⟩ : ∃ U, U = (drv A B 53 0).1 := ⟨_, rfl⟩
  obtain ⟨V, hV⟩ : ∃ V, V = (drv A B 53 0).2 := ⟨_, rfl⟩
  rw [← hU, ← hV] at HCO ⊢
  clear hbs hEX hEY hMX hMY hU hV
  clear hN hW4 hQ h hl hcl hX hY hA hB hm hk4 hd1 hd2 he1 he2 hgr htq hok hc hf
  go_enter Try.func20, Try.ntmps20
  go_wp2_with fail
  refine (HCk.out _).mono ?_
  rintro e w1 ⟨rfl, hb1⟩
  rw [← HW.out] at hb1
  have HB1 := Lib.hid (hb1.mono (show N + 4 ≤ _ by rw [HS4.out]; omega))
  rw [← HN.out]
  simp only [Nat.add_assoc, Nat.reduceAdd]
  clear hb1
  obtain ⟨_, ⟨c0, c1, c2, c3, c4, c5⟩, _, _, _⟩ := HEnv.out w1 HB1.out
  have HIL1 := Lib.hid (HIL.out w1 HB1.out)
  go_wp2_with fail
  refine HIL1.out.mono ?_
  rintro e w2 ⟨rfl, hb2⟩
  have HB2 := Lib.hid (HB1.out.trans (hb2.mono (by rw [← HS4.out]; exact HB1.out.size)))
  clear hb2 c0 c1 c2 c3 c4 c5
  obtain ⟨_, ⟨c0, c1, c2, c3, c4, c5⟩, _, _, _⟩ := HEnv.out w2 HB2.out
  go_wp2_with fail
  have HL2 : Hid (N + 4 ≤ w2.heap.size) := Lib.hid (by rw [← HS4.out]; exact HB2.out.size)
  refine wp_region_inv (by kernel_rfl) (by kernel_rfl) (fun l a' w' => ∃ (g cg ab : Nat) (w1 : World), a' = { tmps := #[Value.agg (kl X Y).toArray, Value.agg #[Value.int IntKind.u8 K, Value.int IntKind.i64 D, Value.int IntKind.i64 E, Value.int IntKind.u64 P, Value.int IntKind.u64 Q, Value.int IntKind.u64 G], Value.slice (some ⟨b, off, none⟩) n c, Value.agg (kl A B).toArray, Value.int .u64 (m : Int), Value.pointer (some ⟨N, 0, none⟩), Value.pointer (some ⟨N + 1, 0, none⟩), undef, Value.pointer (some ⟨N + 2, 0, none⟩), undef, Value.pointer (some ⟨N + 3, 0, none⟩), Value.int .i64 (0 : Int), Value.int .i64 (0 : Int), bif l 6 then Value.pointer (some ⟨ab, 0, none⟩) else undef, bif l 8 then Value.int .u64 (P : Int) else undef, undef, undef, undef, Value.agg #[Value.int IntKind.u8 K, Value.int IntKind.i64 D, Value.int IntKind.i64 E, Value.int IntKind.u64 P, Value.int IntKind.u64 Q, Value.int IntKind.u64 G], Value.int .i64 (0 : Int), Value.int .i64 (0 : Int), Value.bool false, undef, undef, Value.agg #[Value.int IntKind.u8 K, Value.int IntKind.i64 D, Value.int IntKind.i64 E, Value.int IntKind.u64 P, Value.int IntKind.u64 Q, Value.int IntKind.u64 G], Value.slice (some ⟨b, off, none⟩) n c, Value.bool true, Value.bool false, undef, Value.slice (some ⟨b, off, none⟩) n c, Value.int .i64 (n : Int), Value.pointer (some ⟨N + 1, 2, none⟩), Value.int .i64 (E : Int), Value.bool (decide (E < n)), undef, bif l 0 then Value.agg (kl X Y).toArray else undef, bif l 1 then Value.agg #[Value.int .u8 K, Value.int .i64 D, Value.int .i64 (E : Int), Value.int .u64 (P : Int), Value.int .u64 (Q : Int), Value.int .u64 (G : Int)] else undef, bif l 2 then Value.agg #[Value.int .u64 (Q : Int), Value.slice (some ⟨g, 0, none⟩) (E + 1 : Nat) cg] else undef, bif l 3 then Value.pointer (some ⟨N + 1, 3, none⟩) else undef, bif l 4 then Value.pointer (some ⟨N + 1, 3, none⟩) else undef, bif l 5 then Value.int .u64 (P : Int) else undef, undef, undef, undef, undef, undef, undef, undef, undef, undef, undef, undef, undef, undef, undef, undef, undef, undef, undef, undef, undef, undef, undef, undef, undef, undef, undef, undef, undef, undef, undef, undef, undef, undef, undef, undef, undef, undef, undef, undef, undef, undef], defers := [] } ∧ (Below w2.heap.size w2 w1) ∧ (l 2 = true → GRow w1 w2.heap.size g cg (E + 1) (fun i => .int .u64 (cof X Y Q i : Int))) ∧ (l 6 = true → NewB w1 w2.heap.size ab 2) ∧ (l 2 = true → l 6 = true → g ≠ ab) ∧ w' = (bif l 7 then w1.setCells ab 0 [Value.int .u64 (Q : Int), Value.slice (some ⟨g, 0, none⟩) (E + 1 : Nat) cg] else w1) ∧ (l 7 = true → (l 0 && l 1 && l 2 && l 6) = true)) ⟨0, 0, 0, _, rfl, (Below.refl _ _).drew, (fun h => by cases h), (fun h => by cases h), (fun h => by cases h), rfl, (fun h => by cases h)⟩ ?_ ?_
  · rintro l a' w' i ⟨g, cg, ab, w1, rfl, hB, cG, cA, cN, hw, oS⟩ hi' hli hpre
    have hi2 : i < 9 := hi'
    have hcase : i = 0 ∨ i = 1 ∨ i = 2 ∨ i = 3 ∨ i = 4 ∨ i = 5 ∨ i = 6 ∨ i = 7 ∨ i = 8 := by omega
    clear hi' hi2
    rcases hcase with rfl | rfl | rfl | rfl | rfl | rfl | rfl | rfl | rfl
    · -- 0: Op.load 23 (Operand.tmp 5)
      refine wpOp_step rfl (fun K' hK => ?_)
      have nS : l 7 = false := by
        cases h : l 7
        · rfl
        · have := oS h; simp [hli] at this
      rw [nS, cond_false] at hw
      subst hw
      clear hpre
      rw [if_pos (by rfl)]
      obtain ⟨K0, s0, _, _, _⟩ := HEnv.out _ (HB2.out.trans (hB.mono HL2.out))
      refine wp_load_mid 23 _ rfl _ 0 rfl (kl X Y) _ K0 Try.underlying23 rfl (by rw [kl_len]; exact size23) ?_
      exact hK _ _ ⟨g, cg, ab, w', by simp [upd, Act.put, hnE], hB, (fun e0 => (cG (by simpa [upd] using e0))), (fun e0 => (cA (by simpa [upd] using e0))), (fun e0 e1 => (cN (by simpa [upd] using e0) (by simpa [upd] using e1))), by simp [upd, nS], (fun e => absurd e (by simp [upd, nS]))⟩
    · -- 1: Op.load 28 (Operand.tmp 6)
      refine wpOp_step rfl (fun K' hK => ?_)
      have nS : l 7 = false := by
        cases h : l 7
        · rfl
        · have := oS h; simp [hli] at this
      rw [nS, cond_false] at hw
      subst hw
      clear hpre
      rw [if_pos (by rfl)]
      obtain ⟨K0, s0, _, _, _⟩ := HEnv.out _ (HB2.out.trans (hB.mono HL2.out))
      refine wp_load_mid 28 _ rfl _ 0 rfl [Value.int .u8 K, Value.int .i64 D, Value.int .i64 (E : Int), Value.int .u64 (P : Int), Value.int .u64 (Q : Int), Value.int .u64 (G : Int)] _ s0.range Try.underlying28 rfl size28 ?_
      exact hK _ _ ⟨g, cg, ab, w', by simp [upd, Act.put, hnE], hB, (fun e0 => (cG (by simpa [upd] using e0))), (fun e0 => (cA (by simpa [upd] using e0))), (fun e0 e1 => (cN (by simpa [upd] using e0) (by simpa [upd] using e1))), by simp [upd, nS], (fun e => absurd e (by simp [upd, nS]))⟩
    · -- 2: Op.call { callee := Callee.value (Operand.func 38), args := 
      have p0 : l 0 = true := hpre _ rfl ⟨0, .data⟩ (by simp) rfl
      have p1 : l 1 = true := hpre _ rfl ⟨1, .data⟩ (by simp) rfl
      refine wpOp_step rfl (fun K' hK => ?_)
      have nS : l 7 = false := by
        cases h : l 7
        · rfl
        · have := oS h; simp [hli] at this
      rw [nS, cond_false] at hw
      subst hw
      simp only [p0, p1, cond_true, cond_false]
      clear hpre
      rw [if_pos (by rfl)]
      go_simp
      refine (HSP.out _).mono ?_
      rintro e w5 ⟨⟨g5, c5', rfl, q1, q2, q3, q4⟩, hb5⟩
      exact hK _ _ ⟨g5, c5', ab, w5, by simp [upd, Act.put, p0, p1, hnE], (hB.trans (hb5.mono hB.size)), (fun _ => ⟨Nat.le_trans hB.size q1, cells_lt q4 (by omega), q2, q3, q4⟩), (fun e0 => ((cA (by simpa [upd] using e0))).keep hb5), (fun _ e => by have := (cA (by simpa [upd] using e)).2.1; omega), by simp [upd, nS], (fun e => absurd e (by simp [upd, nS]))⟩
    · -- 3: Op.fieldAddr 28 (Operand.tmp 6) 3
      refine wpOp_step rfl (fun K' hK => ?_)
      clear hpre
      rw [if_pos (by rfl)]
      have Hhw := Lib.hid hw
      clear hw
      go_simp
      exact hK _ _ ⟨g, cg, ab, w1, by simp [upd, Act.put, hnE], hB, (fun e0 => (cG (by simpa [upd] using e0))), (fun e0 => (cA (by simpa [upd] using e0))), (fun e0 e1 => (cN (by simpa [upd] using e0) (by simpa [upd] using e1))), Hhw.out, (fun e => oS e)⟩
    · -- 4: Op.fieldAddr 26 (Operand.tmp 38) 0
      have p3 : l 3 = true := hpre _ rfl ⟨3, .data⟩ (by simp) rfl
      refine wpOp_step rfl (fun K' hK => ?_)
      simp only [p3, cond_true, cond_false]
      clear hpre
      rw [if_pos (by rfl)]
      have Hhw := Lib.hid hw
      clear hw
      go_simp
      exact hK _ _ ⟨g, cg, ab, w1, by simp [upd, Act.put, p3, hnE], hB, (fun e0 => (cG (by simpa [upd] using e0))), (fun e0 => (cA (by simpa [upd] using e0))), (fun e0 e1 => (cN (by simpa [upd] using e0) (by simpa [upd] using e1))), Hhw.out, (fun e => oS e)⟩
    · -- 5: Op.load 24 (Operand.tmp 39)
      have p4 : l 4 = true := hpre _ rfl ⟨4, .data⟩ (by simp) rfl
      refine wpOp_step rfl (fun K' hK => ?_)
      simp only [p4, cond_true, cond_false]
      clear hpre
      rw [if_pos (by rfl)]
      have hB' : Below w2.heap.size w2 w' := by
        rw [hw]
        cases h : l 7
        · exact hB
        · have h2 := oS h
          simp at h2
          exact below_setCells _ _ _ _ hB (cA h2.2).1
      have z3 := (HEnv.out _ (HB2.out.trans (hB'.mono HL2.out))).2.1.c3
      have Hhw := Lib.hid hw
      clear hw
      go_simp
      exact hK _ _ ⟨g, cg, ab, w1, by simp [upd, Act.put, p4, hnE], hB, (fun e0 => (cG (by simpa [upd] using e0))), (fun e0 => (cA (by simpa [upd] using e0))), (fun e0 e1 => (cN (by simpa [upd] using e0) (by simpa [upd] using e1))), Hhw.out, (fun e => oS e)⟩
    · -- 6: Op.alloc 94
      refine wpOp_step rfl (fun K' hK => ?_)
      have nS : l 7 = false := by
        cases h : l 7
        · rfl
        · have := oS h; simp [hli] at this
      rw [nS, cond_false] at hw
      subst hw
      clear hpre
      rw [if_pos (by rfl)]
      go_simp
      exact hK _ _ ⟨g, cg, w'.heap.size, w'.alloc (.cells #[.int .u64 0, .slice none 0 0] 94), by simp [upd, Act.put, hnE], (hB.alloc hB.size _), (fun e0 => ((cG (by simpa [upd] using e0))).keep (below_new _ _)), (fun _ => ⟨hB.size, by simp, there_new _ _ _ 2 rfl⟩), (fun e _ => Nat.ne_of_lt (cG (by simpa [upd] using e)).2.1), by simp [upd, nS], (fun e => absurd e (by simp [upd, nS]))⟩
    · -- 7: Op.store 94 (Operand.tmp 13) (Operand.tmp 37)
      have p6 : l 6 = true := hpre _ rfl ⟨6, .data⟩ (by simp) rfl
      have p2 : l 2 = true := hpre _ rfl ⟨2, .data⟩ (by simp) rfl
      have p0 : l 0 = true := hpre _ rfl ⟨0, .phase⟩ (by simp) rfl
      have p1 : l 1 = true := hpre _ rfl ⟨1, .phase⟩ (by simp) rfl
      refine wpOp_step rfl (fun K' hK => ?_)
      have nS : l 7 = false := hli
      rw [nS, cond_false] at hw
      subst hw
      simp only [p6, p2, p0, p1, cond_true, cond_false]
      clear hpre
      rw [if_pos (by rfl)]
      have gA := cA p6
      refine wp_store_mid 94 _ _ rfl ab 0 #[Value.int .u64 (Q : Int), Value.slice (some ⟨g, 0, none⟩) (E + 1 : Nat) cg] rfl rfl gA.2.2 size94 (all_oneCell_toArray (by intro v hv; simp at hv; rcases hv with rfl | rfl <;> rfl)) ?_
      exact hK _ _ ⟨g, cg, ab, w', by simp [upd, Act.put, p6, p2, p0, p1, hnE], hB, (fun e0 => (cG (by simpa [upd] using e0))), (fun e0 => (cA (by simpa [upd] using e0))), (fun e0 e1 => (cN (by simpa [upd] using e0) (by simpa [upd] using e1))), by simp [upd], (fun _ => by simp [upd, p6, p2, p0, p1])⟩
    · -- 8: Op.assign (Operand.tmp 40)
      have p5 : l 5 = true := hpre _ rfl ⟨5, .data⟩ (by simp) rfl
      have p7 : l 7 = true := hpre _ rfl ⟨7, .chain⟩ (by simp) rfl
      have p0 : l 0 = true := hpre _ rfl ⟨0, .phase⟩ (by simp) rfl
      have p1 : l 1 = true := hpre _ rfl ⟨1, .phase⟩ (by simp) rfl
      have p2 : l 2 = true := hpre _ rfl ⟨2, .phase⟩ (by simp) rfl
      have p3 : l 3 = true := hpre _ rfl ⟨3, .phase⟩ (by simp) rfl
      have p4 : l 4 = true := hpre _ rfl ⟨4, .phase⟩ (by simp) rfl
      have p6 : l 6 = true := hpre _ rfl ⟨6, .phase⟩ (by simp) rfl
      refine wpOp_step rfl (fun K' hK => ?_)
      simp only [p5, p7, p0, p1, p2, p3, p4, p6, cond_true, cond_false]
      clear hpre
      rw [if_pos (by rfl)]
      have Hhw := Lib.hid hw
      clear hw
      go_simp
      exact hK _ _ ⟨g, cg, ab, w1, by simp [upd, Act.put, p5, p7, p0, p1, p2, p3, p4, p6, hnE], hB, (fun e0 => (cG (by simpa [upd] using e0))), (fun e0 => (cA (by simpa [upd] using e0))), (fun e0 e1 => (cN (by simpa [upd] using e0) (by simpa [upd] using e1))), Hhw.out, (fun e => oS e)⟩
  · rintro l a' w9 hall ⟨g, cg, ab, w1, rfl, hB, cG, cA, cN, hw, oS⟩
    rw [hall 7 (by decide), cond_true] at hw
    subst hw
    replace cG := cG (hall 2 (by decide))
    replace cA := cA (hall 6 (by decide))
    replace cN := cN (hall 2 (by decide)) (hall 6 (by decide))
    simp only [hall 0 (by decide), hall 1 (by decide), hall 2 (by decide), hall 3 (by decide), hall 4 (by decide), hall 5 (by decide), hall 6 (by decide), hall 8 (by decide), cond_true]
    clear hall oS
    obtain ⟨Wa, hWa⟩ : ∃ Wa, Wa = w1.setCells ab 0 [Value.int .u64 (Q : Int), Value.slice (some ⟨g, 0, none⟩) (E + 1 : Nat) cg] := ⟨_, rfl⟩
    have HBa : Hid (Below (N + 4) W4 Wa ∧ N + 4 ≤ Wa.heap.size) := Lib.hid (by
      rw [hWa, size_setCells]
      exact ⟨HB2.out.trans (below_setCells _ _ _ _ (hB.mono HL2.out) (Nat.le_trans HL2.out cA.1)), Nat.le_trans HL2.out hB.size⟩)
    have HPa : Hid (Wa.rangeAt ab 0 [Value.int .u64 (Q : Int), Value.slice (some ⟨g, 0, none⟩) (E + 1 : Nat) cg] ∧ ab < Wa.heap.size) := Lib.hid (by
      rw [hWa, size_setCells]
      exact ⟨World.rangeAt_setCells_same _ _ _ _ cA.2.2, cA.2.1⟩)
    have HGa : Hid (GRow Wa w2.heap.size g cg (E + 1) (fun i => .int .u64 (cof X Y Q i : Int))) := Lib.hid (by
      rw [hWa]
      exact ⟨cG.1, by rw [size_setCells]; exact cG.2.1, cG.2.2.1, cG.2.2.2.1, fun i hi => (World.cell?_setCells_out _ _ _ _ _ (fun h _ => absurd h cN)).trans (cG.2.2.2.2 i hi)⟩)
    rw [← hWa]
    clear hWa hB cG cA cN
    go_wp2_with fail
    refine wp_region_inv (by kernel_rfl) (by kernel_rfl) (fun l a' w' => ∃ (hb : Nat) (w1 : World), a' = { tmps := #[Value.agg (kl X Y).toArray, Value.agg #[Value.int IntKind.u8 K, Value.int IntKind.i64 D, Value.int IntKind.i64 E, Value.int IntKind.u64 P, Value.int IntKind.u64 Q, Value.int IntKind.u64 G], Value.slice (some ⟨b, off, none⟩) n c, Value.agg (kl A B).toArray, Value.int .u64 (m : Int), Value.pointer (some ⟨N, 0, none⟩), Value.pointer (some ⟨N + 1, 0, none⟩), undef, Value.pointer (some ⟨N + 2, 0, none⟩), undef, Value.pointer (some ⟨N + 3, 0, none⟩), Value.int .i64 (0 : Int), Value.int .i64 (0 : Int), Value.pointer (some ⟨ab, 0, none⟩), Value.int .u64 (P : Int), bif l 7 then Value.pointer (some ⟨hb, 0, none⟩) else undef, undef, undef, Value.agg #[Value.int IntKind.u8 K, Value.int IntKind.i64 D, Value.int IntKind.i64 E, Value.int IntKind.u64 P, Value.int IntKind.u64 Q, Value.int IntKind.u64 G], Value.int .i64 (0 : Int), Value.int .i64 (0 : Int), Value.bool false, undef, undef, Value.agg #[Value.int IntKind.u8 K, Value.int IntKind.i64 D, Value.int IntKind.i64 E, Value.int IntKind.u64 P, Value.int IntKind.u64 Q, Value.int IntKind.u64 G], Value.slice (some ⟨b, off, none⟩) n c, Value.bool true, Value.bool false, undef, Value.slice (some ⟨b, off, none⟩) n c, Value.int .i64 (n : Int), Value.pointer (some ⟨N + 1, 2, none⟩), Value.int .i64 (E : Int), Value.bool (decide (E < n)), undef, Value.agg (kl X Y).toArray, Value.agg #[Value.int IntKind.u8 K, Value.int IntKind.i64 D, Value.int IntKind.i64 E, Value.int IntKind.u64 P, Value.int IntKind.u64 Q, Value.int IntKind.u64 G], Value.agg #[Value.int IntKind.u64 Q, Value.slice (some ⟨g, 0, none⟩) (E + 1) cg], Value.pointer (some ⟨N + 1, 3, none⟩), Value.pointer (some ⟨N + 1, 3, none⟩), Value.int .u64 (P : Int), bif l 0 then Value.agg (kl X Y).toArray else undef, bif l 1 then Value.agg #[Value.int .u8 K, Value.int .i64 D, Value.int .i64 (E : Int), Value.int .u64 (P : Int), Value.int .u64 (Q : Int), Value.int .u64 (G : Int)] else undef, bif l 2 then Value.int .u64 (m : Int) else undef, bif l 3 then Value.int .u64 (bs : Int) else undef, bif l 4 then Value.agg (kl A B).toArray else undef, bif l 5 then Value.agg (kl U V).toArray else undef, bif l 6 then Value.agg (hdl (.slice none 0 0) bs 0 0 U V).toArray else undef, undef, undef, undef, undef, undef, undef, undef, undef, undef, undef, undef, undef, undef, undef, undef, undef, undef, undef, undef, undef, undef, undef, undef, undef, undef, undef, undef, undef, undef, undef, undef, undef, undef, undef], defers := [] } ∧ (Below Wa.heap.size Wa w1) ∧ (l 7 = true → NewB w1 Wa.heap.size hb 35) ∧ w' = (bif l 8 then w1.setCells hb 0 (hdl (.slice none 0 0) bs 0 0 U V) else w1) ∧ (l 8 = true → (l 0 && l 1 && l 2 && l 3 && l 4 && l 5 && l 6 && l 7) = true)) ⟨0, _, rfl, (Below.refl _ _).drew, (fun h => by cases h), rfl, (fun h => by cases h)⟩ ?_ ?_
    · rintro l a' w' i ⟨hb, w1, rfl, hB, cA, hw, oS⟩ hi' hli hpre
      have hi2 : i < 9 := hi'
      have hcase : i = 0 ∨ i = 1 ∨ i = 2 ∨ i = 3 ∨ i = 4 ∨ i = 5 ∨ i = 6 ∨ i = 7 ∨ i = 8 := by omega
      clear hi' hi2
      rcases hcase with rfl | rfl | rfl | rfl | rfl | rfl | rfl | rfl | rfl
      · -- 0: Op.load 23 (Operand.tmp 5)
        refine wpOp_step rfl (fun K' hK => ?_)
        have nS : l 8 = false := by
          cases h : l 8
          · rfl
          · have := oS h; simp [hli] at this
        rw [nS, cond_false] at hw
        subst hw
        clear hpre
        rw [if_pos (by rfl)]
        obtain ⟨K0, s0, K2, _, _⟩ := HEnv.out _ (HBa.out.1.trans (hB.mono HBa.out.2))
        refine wp_load_mid 23 _ rfl _ 0 rfl (kl X Y) _ K0 Try.underlying23 rfl (by rw [kl_len]; exact size23) ?_
        exact hK _ _ ⟨hb, w', by simp [upd, Act.put, hnE], hB, (fun e0 => (cA (by simpa [upd] using e0))), by simp [upd, nS], (fun e => absurd e (by simp [upd, nS]))⟩
      · -- 1: Op.load 28 (Operand.tmp 6)
        refine wpOp_step rfl (fun K' hK => ?_)
        have nS : l 8 = false := by
          cases h : l 8
          · rfl
          · have := oS h; simp [hli] at this
        rw [nS, cond_false] at hw
        subst hw
        clear hpre
        rw [if_pos (by rfl)]
        obtain ⟨K0, s0, K2, _, _⟩ := HEnv.out _ (HBa.out.1.trans (hB.mono HBa.out.2))
        refine wp_load_mid 28 _ rfl _ 0 rfl [Value.int .u8 K, Value.int .i64 D, Value.int .i64 (E : Int), Value.int .u64 (P : Int), Value.int .u64 (Q : Int), Value.int .u64 (G : Int)] _ s0.range Try.underlying28 rfl size28 ?_
        exact hK _ _ ⟨hb, w', by simp [upd, Act.put, hnE], hB, (fun e0 => (cA (by simpa [upd] using e0))), by simp [upd, nS], (fun e => absurd e (by simp [upd, nS]))⟩
      · -- 2: Op.move (Operand.tmp 4)
        refine wpOp_step rfl (fun K' hK => ?_)
        have nS : l 8 = false := by
          cases h : l 8
          · rfl
          · have := oS h; simp [hli] at this
        rw [nS, cond_false] at hw
        subst hw
        clear hpre
        rw [if_pos (by rfl)]
        go_simp
        exact hK _ _ ⟨hb, w', by simp [upd, Act.put, hnE], hB, (fun e0 => (cA (by simpa [upd] using e0))), by simp [upd, nS], (fun e => absurd e (by simp [upd, nS]))⟩
      · -- 3: Op.call { callee := Callee.value (Operand.func 55), args := 
        have p0 : l 0 = true := hpre _ rfl ⟨0, .data⟩ (by simp) rfl
        have p1 : l 1 = true := hpre _ rfl ⟨1, .data⟩ (by simp) rfl
        have p2 : l 2 = true := hpre _ rfl ⟨2, .data⟩ (by simp) rfl
        refine wpOp_step rfl (fun K' hK => ?_)
        have nS : l 8 = false := by
          cases h : l 8
          · rfl
          · have := oS h; simp [hli] at this
        rw [nS, cond_false] at hw
        subst hw
        simp only [p0, p1, p2, cond_true, cond_false]
        clear hpre
        rw [if_pos (by rfl)]
        go_simp
        refine (HBO.out _).mono ?_
        rintro e w5 ⟨rfl, hb5⟩
        exact hK _ _ ⟨hb, w5, by simp [upd, Act.put, p0, p1, p2, hnE], (hB.trans (hb5.mono hB.size)), (fun e0 => ((cA (by simpa [upd] using e0))).keep hb5), by simp [upd, nS], (fun e => absurd e (by simp [upd, nS]))⟩
      · -- 4: Op.load 23 (Operand.tmp 8)
        refine wpOp_step rfl (fun K' hK => ?_)
        have nS : l 8 = false := by
          cases h : l 8
          · rfl
          · have := oS h; simp [hli] at this
        rw [nS, cond_false] at hw
        subst hw
        clear hpre
        rw [if_pos (by rfl)]
        obtain ⟨K0, s0, K2, _, _⟩ := HEnv.out _ (HBa.out.1.trans (hB.mono HBa.out.2))
        refine wp_load_mid 23 _ rfl _ 0 rfl (kl A B) _ K2 Try.underlying23 rfl (by rw [kl_len]; exact size23) ?_
        exact hK _ _ ⟨hb, w', by simp [upd, Act.put, hnE], hB, (fun e0 => (cA (by simpa [upd] using e0))), by simp [upd, nS], (fun e => absurd e (by simp [upd, nS]))⟩
      · -- 5: Op.call { callee := Callee.value (Operand.func 56), args := 
        have p4 : l 4 = true := hpre _ rfl ⟨4, .data⟩ (by simp) rfl
        have p3 : l 3 = true := hpre _ rfl ⟨3, .chain⟩ (by simp) rfl
        refine wpOp_step rfl (fun K' hK => ?_)
        have nS : l 8 = false := by
          cases h : l 8
          · rfl
          · have := oS h; simp [hli] at this
        rw [nS, cond_false] at hw
        subst hw
        simp only [p4, p3, cond_true, cond_false]
        clear hpre
        rw [if_pos (by rfl)]
        go_simp
        refine (HCO.out _).mono ?_
        rintro e w5 ⟨rfl, hb5⟩
        exact hK _ _ ⟨hb, w5, by simp [upd, Act.put, p4, p3, hnE], (hB.trans (hb5.mono hB.size)), (fun e0 => ((cA (by simpa [upd] using e0))).keep hb5), by simp [upd, nS], (fun e => absurd e (by simp [upd, nS]))⟩
      · -- 6: Op.build 60 #[(1, Operand.tmp 44), (4, Operand.tmp 46)]
        have p3 : l 3 = true := hpre _ rfl ⟨3, .data⟩ (by simp) rfl
        have p5 : l 5 = true := hpre _ rfl ⟨5, .data⟩ (by simp) rfl
        refine wpOp_step rfl (fun K' hK => ?_)
        have nS : l 8 = false := by
          cases h : l 8
          · rfl
          · have := oS h; simp [hli] at this
        rw [nS, cond_false] at hw
        subst hw
        simp only [p3, p5, cond_true, cond_false]
        clear hpre
        rw [if_pos (by rfl)]
        refine wp_build60 _ _ rfl bs U V rfl rfl ?_
        exact hK _ _ ⟨hb, w', by simp [upd, Act.put, p3, p5, hnE], hB, (fun e0 => (cA (by simpa [upd] using e0))), by simp [upd, nS], (fun e => absurd e (by simp [upd, nS]))⟩
      · -- 7: Op.alloc 60
        refine wpOp_step rfl (fun K' hK => ?_)
        have nS : l 8 = false := by
          cases h : l 8
          · rfl
          · have := oS h; simp [hli] at this
        rw [nS, cond_false] at hw
        subst hw
        clear hpre
        rw [if_pos (by rfl)]
        go_simp
        rw [hd_zero]
        exact hK _ _ ⟨w'.heap.size, w'.alloc (.cells (hdl (.slice none 0 0) 0 0 0 0 0).toArray 60), by simp [upd, Act.put, hnE], (hB.alloc hB.size _), (fun _ => ⟨hB.size, by simp, there_new _ _ _ 35 (by simp [hd_len])⟩), by simp [upd, nS], (fun e => absurd e (by simp [upd, nS]))⟩
      · -- 8: Op.store 60 (Operand.tmp 15) (Operand.tmp 47)
        have p7 : l 7 = true := hpre _ rfl ⟨7, .data⟩ (by simp) rfl
        have p6 : l 6 = true := hpre _ rfl ⟨6, .data⟩ (by simp) rfl
        have p5 : l 5 = true := hpre _ rfl ⟨5, .chain⟩ (by simp) rfl
        have p0 : l 0 = true := hpre _ rfl ⟨0, .phase⟩ (by simp) rfl
        have p1 : l 1 = true := hpre _ rfl ⟨1, .phase⟩ (by simp) rfl
        have p2 : l 2 = true := hpre _ rfl ⟨2, .phase⟩ (by simp) rfl
        have p3 : l 3 = true := hpre _ rfl ⟨3, .phase⟩ (by simp) rfl
        have p4 : l 4 = true := hpre _ rfl ⟨4, .phase⟩ (by simp) rfl
        refine wpOp_step rfl (fun K' hK => ?_)
        have nS : l 8 = false := hli
        rw [nS, cond_false] at hw
        subst hw
        simp only [p7, p6, p5, p0, p1, p2, p3, p4, cond_true, cond_false]
        clear hpre
        rw [if_pos (by rfl)]
        have gA := cA p7
        refine wp_store_mid 60 _ _ rfl hb 0 (hdl (.slice none 0 0) bs 0 0 U V).toArray rfl rfl (by simpa [hd_len] using gA.2.2) (by simp [hd_len, size60]) (hd_arr _ _ _ _ _ _ rfl) ?_
        rw [List.toList_toArray]
        exact hK _ _ ⟨hb, w', by simp [upd, Act.put, p7, p6, p5, p0, p1, p2, p3, p4, hnE], hB, (fun e0 => (cA (by simpa [upd] using e0))), by simp [upd], (fun _ => by simp [upd, p7, p6, p5, p0, p1, p2, p3, p4])⟩
    · rintro l a' w9 hall ⟨hb, w1, rfl, hB, cA, hw, oS⟩
      rw [hall 8 (by decide), cond_true] at hw
      subst hw
      replace cA := cA (hall 7 (by decide))
      simp only [hall 0 (by decide), hall 1 (by decide), hall 2 (by decide), hall 3 (by decide), hall 4 (by decide), hall 5 (by decide), hall 6 (by decide), hall 7 (by decide), cond_true]
      clear hall oS
      obtain ⟨Wb, hWb⟩ : ∃ Wb, Wb = w1.setCells hb 0 (hdl (.slice none 0 0) bs 0 0 U V) := ⟨_, rfl⟩
      have hBb : Below Wa.heap.size Wa Wb := by rw [hWb]; exact below_setCells _ _ _ _ hB cA.1
      have HBb : Hid (Below (N + 4) W4 Wb ∧ N + 4 ≤ Wb.heap.size) := Lib.hid ⟨HBa.out.1.trans (hBb.mono HBa.out.2), Nat.le_trans HBa.out.2 hBb.size⟩
      have HPb : Hid (Wb.rangeAt ab 0 [Value.int .u64 (Q : Int), Value.slice (some ⟨g, 0, none⟩) (E + 1 : Nat) cg] ∧ ab < Wb.heap.size ∧ ab < hb) := Lib.hid ⟨range_below HPa.out.1 hBb HPa.out.2, Nat.lt_of_lt_of_le HPa.out.2 hBb.size, Nat.lt_of_lt_of_le HPa.out.2 cA.1⟩
      have HGb : Hid (GRow Wb w2.heap.size g cg (E + 1) (fun i => .int .u64 (cof X Y Q i : Int)) ∧ g < hb) := Lib.hid ⟨HGa.out.keep hBb, Nat.lt_of_lt_of_le HGa.out.2.1 cA.1⟩
      have HHb : Hid (HdAt Wb hb (.slice none 0 0) bs 0 0 U V ∧ hb < Wb.heap.size ∧ N + 4 ≤ hb) := Lib.hid ⟨by rw [hWb]; exact HdAt.stored cA.2.2 _ _ _ _ _ _, by rw [hWb, size_setCells]; exact cA.2.1, Nat.le_trans HBa.out.2 cA.1⟩
      rw [← hWb]
      clear hWb hB cA hBb HPa HGa
      clear c0 c1 c2 c3 c4 c5
      obtain ⟨_, ⟨c0, c1, c2, c3, c4, c5⟩, _, _, _⟩ := HEnv.out Wb HBb.out.1
      have HPXb1 := Lib.hid (HPX.out Wb HBb.out.1)
      go_wp2_with fail
      refine HPXb1.out.mono ?_
      rintro e W5 ⟨⟨g2, cg2, rfl, r1, r2, r3, r4⟩, hb5⟩
      obtain ⟨L, hL⟩ : ∃ L, L = W5.heap.size := ⟨_, rfl⟩
      have HLE : Hid (L = W5.heap.size ∧ N + 4 ≤ L ∧ hb < L ∧ ab < L ∧ ab < hb ∧ g < L ∧ g < hb ∧ N + 4 ≤ hb) := Lib.hid (by
        have h1 := HBb.out.2; have h2 := hb5.size; have h3 := HHb.out.2; have h4 := HPb.out.2; have h5 := HGb.out; have h6 := HGb.out.1.2.1
        exact ⟨hL, by omega, by omega, by omega, h4.2, by omega, h5.2, h3.2⟩)
      have HE5 : Hid (∀ w1, W5.grownBy w1 (some hb) → Below N w w1 ∧ KeyAt w1 (N + 2) A B ∧ w1.there (N + 3) 0 35 ∧ w1.rangeAt ab 0 [Value.int .u64 (Q : Int), Value.slice (some ⟨g, 0, none⟩) (E + 1 : Nat) cg] ∧ GRow w1 w2.heap.size g cg (E + 1) (fun i => .int .u64 (cof X Y Q i : Int)) ∧ ∀ i, i < E → w1.cell? ⟨g2, i, none⟩ = some (.int .u64 (px T n f i : Int))) := Lib.hid (fun w1 hg => by
        have hle := HLE.out
        have hb4 : Below (N + 4) W4 W5 := HBb.out.1.trans (hb5.mono HBb.out.2)
        obtain ⟨_, _, k2, hh, hbn⟩ := HEnv.out W5 hb4
        refine ⟨hbn.grown hg (by omega) (fun k e => by injection e with e; omega), k2.grown hg (by intro e; injection e with e; omega), there_grown hh.2 hg hh.lt (by intro e; injection e with e; omega), range_grown (range_below HPb.out.1 hb5 HPb.out.2.1) hg (by omega) (by intro e; injection e with e; omega), (HGb.out.1.keep hb5).grown hg (by intro e; injection e with e; omega), fun i hi => ?_⟩
        have hg2 : g2 < W5.heap.size := cells_lt r4 (by omega)
        have hh2 := HHb.out.2.1
        exact (World.cell?_of_block (hg.block g2 hg2 (by intro e; injection e with e; omega))).trans (r4 i hi))
      have HH5 : Hid (HdAt W5 hb (.slice none 0 0) bs 0 0 U V) := Lib.hid (HHb.out.1.below hb5 HHb.out.2.1)
      have hE1 : 1 ≤ E := HQP.out.2.2.2.2.1
      clear hL hb5 HHb HPb HGb HPXb1 HBa HBb r1 r4 c0 c1 c2 c3 c4 c5 HB1 HB2 HL2 HIL1 HEnv HIL HSP HBO HCO HPX HCk
      go_wp2_with fail
      go_loopw [52] (fun i wr => ∃ (k : Nat) (v : Value), k ≤ E ∧ i = .int .i64 (k : Int) ∧ Hid (wr.ownsRow L 46 2 v k (ptl X Y P Q G m E T n f k)) ∧ Hid (HdAt wr hb v bs 0 0 U V) ∧ Hid (W5.grownBy wr (some hb))) (fun i _ => E - (intOf i).toNat)
      case atStart => exact ⟨0, .slice none 0 0, by omega, rfl, Lib.hid (World.ownsRow_nil _ _ _ _), HH5, Lib.hid (gb_refl _ _)⟩
      case round =>
        obtain ⟨k, v, hk, rfl, HO, HHr, HGr⟩ := hrel
        have HRs : Hid (L ≤ wr.heap.size) := Lib.hid (by rw [HLE.out.1]; exact HGr.out.size)
        by_cases hlt : k < E
        · have HWr : Hid (∀ w1, Below L wr w1 → HdAt w1 hb v bs 0 0 U V ∧ W5.grownBy w1 (some hb)) := Lib.hid (fun w1 h => ⟨HHr.out.below h HLE.out.2.2.1, gb_below HGr.out (by rw [HLE.out.1]; exact Nat.le_refl _) h⟩)
          have hg2 := (HE5.out wr HGr.out).2.2.2.2.2 k hlt
          have HSn := Lib.hid (HTl.out k)
          have hx1 : px T n f k ≤ 1048575 := by rcases HPXb.out k with h1 | h1; exact h1; omega
          obtain ⟨x, hx⟩ : ∃ x, x = px T n f k := ⟨_, rfl⟩
          rw [← hx] at hg2 HSn hx1
          have HATk := Lib.hid (fun (w : World) hcl => HAT.out g cg x w (HE5.out wr HGr.out).2.2.2.2.1.2.2.1 (HE5.out wr HGr.out).2.2.2.2.1.2.2.2.1 hx1 hcl)
          have HPWk := Lib.hid (fun (w : World) => HPW.out bs x w)
          rw [HPwv.out x] at HPWk
          obtain ⟨y, hy⟩ : ∃ y, y = pwv X Y P Q G m E x := ⟨_, rfl⟩
          rw [← hy] at HSn HPWk
          obtain ⟨ex, hex⟩ : ∃ ex, ex = sm (cof X Y Q) x (E + 1) % Q := ⟨_, rfl⟩
          rw [← hex] at HATk HPWk
          obtain ⟨xs, hxs⟩ : ∃ xs, xs = ptl X Y P Q G m E T n f k := ⟨_, rfl⟩
          rw [← hxs] at HO HSn
          have l1 : (0 : Int) ≤ (k : Int) := by omega
          have l2 : (k : Int) < (E : Int) := by omega
          clear hx hy hex hxs hx1
          go_wp2_with fail
          refine wp_region_inv (by kernel_rfl) (by kernel_rfl) (fun l a' w' => ∃ (v2 : Value) (gb : Nat) (w1 : World), a' = { tmps := #[Value.agg (kl X Y).toArray, Value.agg #[Value.int IntKind.u8 K, Value.int IntKind.i64 D, Value.int IntKind.i64 E, Value.int IntKind.u64 P, Value.int IntKind.u64 Q, Value.int IntKind.u64 G], Value.slice (some ⟨b, off, none⟩) n c, Value.agg (kl A B).toArray, Value.int .u64 (m : Int), Value.pointer (some ⟨N, 0, none⟩), Value.pointer (some ⟨N + 1, 0, none⟩), undef, Value.pointer (some ⟨N + 2, 0, none⟩), undef, Value.pointer (some ⟨N + 3, 0, none⟩), Value.int .i64 (0 : Int), Value.int .i64 (0 : Int), Value.pointer (some ⟨ab, 0, none⟩), Value.int .u64 (P : Int), Value.pointer (some ⟨hb, 0, none⟩), undef, Value.int .u64 (x : Int), Value.agg #[Value.int IntKind.u8 K, Value.int IntKind.i64 D, Value.int IntKind.i64 E, Value.int IntKind.u64 P, Value.int IntKind.u64 Q, Value.int IntKind.u64 G], Value.int .i64 (0 : Int), Value.int .i64 (0 : Int), Value.bool false, undef, undef, Value.agg #[Value.int IntKind.u8 K, Value.int IntKind.i64 D, Value.int IntKind.i64 E, Value.int IntKind.u64 P, Value.int IntKind.u64 Q, Value.int IntKind.u64 G], Value.slice (some ⟨b, off, none⟩) n c, Value.bool true, Value.bool false, undef, Value.slice (some ⟨b, off, none⟩) n c, Value.int .i64 (n : Int), Value.pointer (some ⟨N + 1, 2, none⟩), Value.int .i64 (E : Int), Value.bool false, undef, Value.agg (kl X Y).toArray, Value.agg #[Value.int IntKind.u8 K, Value.int IntKind.i64 D, Value.int IntKind.i64 E, Value.int IntKind.u64 P, Value.int IntKind.u64 Q, Value.int IntKind.u64 G], Value.agg #[Value.int IntKind.u64 Q, Value.slice (some ⟨g, 0, none⟩) (E + 1) cg], Value.pointer (some ⟨N + 1, 3, none⟩), Value.pointer (some ⟨N + 1, 3, none⟩), Value.int .u64 (P : Int), Value.agg (kl X Y).toArray, Value.agg #[Value.int IntKind.u8 K, Value.int IntKind.i64 D, Value.int IntKind.i64 E, Value.int IntKind.u64 P, Value.int IntKind.u64 Q, Value.int IntKind.u64 G], Value.int .u64 (m : Int), Value.int .u64 (bs : Int), Value.agg (kl A B).toArray, Value.agg (kl U V).toArray, Value.agg (hdl (Value.slice none 0 0) bs 0 0 U V).toArray, Value.agg #[Value.int IntKind.u8 K, Value.int IntKind.i64 D, Value.int IntKind.i64 E, Value.int IntKind.u64 P, Value.int IntKind.u64 Q, Value.int IntKind.u64 G], Value.slice (some ⟨b, off, none⟩) n c, Value.slice (some ⟨g2, 0, none⟩) E cg2, Value.int .i64 (E : Int), Value.int .i64 (k : Int), Value.bool true, Value.pointer (some ⟨g2, k, none⟩), Value.int .u64 (x : Int), bif l 0 then Value.pointer (some ⟨hb, 2, none⟩) else u56, bif l 1 then v else u57, bif l 2 then Value.int .u64 (x : Int) else u58, bif l 3 then Value.int .u64 (P : Int) else u59, bif l 4 then Value.pointer (some ⟨hb, 1, none⟩) else u60, bif l 5 then Value.int .u64 (bs : Int) else u61, bif l 6 then Value.agg #[Value.int .u64 (Q : Int), Value.slice (some ⟨g, 0, none⟩) (E + 1 : Nat) cg] else u62, bif l 7 then Value.int .u64 (x : Int) else u63, bif l 8 then Value.int .u64 (ex : Int) else u64, bif l 9 then Value.int .u64 (y : Int) else u65, bif l 10 then Value.agg #[Value.int .u64 (x : Int), Value.int .u64 (y : Int)] else u66, bif l 11 then Value.slice (some ⟨gb, 0, none⟩) 1 1 else u67, bif l 12 then v2 else u68, bif l 13 then Value.pointer (some ⟨hb, 2, none⟩) else u69, u70, undef, undef, undef, undef, undef, undef, undef, undef, undef, undef, undef], defers := [] } ∧ (Below L wr w1) ∧ (l 12 = false → w1.ownsRow L 46 2 v k xs) ∧ (l 11 = true → l 12 = false → ∀ j u, [Value.int .u64 (x : Int), Value.int .u64 (y : Int)][j]? = some u → w1.cell? ((⟨gb, 0, none⟩ : Addr).add j) = some u) ∧ (l 12 = true → w1.ownsRow L 46 2 v2 (k + 1) (xs ++ [Value.int .u64 (x : Int), Value.int .u64 (y : Int)])) ∧ w' = (bif l 14 then w1.setCell ⟨hb, 2, none⟩ v2 else w1) ∧ (l 14 = true → (l 0 && l 1 && l 2 && l 3 && l 4 && l 5 && l 6 && l 7 && l 8 && l 9 && l 10 && l 11 && l 12 && l 13) = true)) ⟨v, 0, _, rfl, (Below.refl _ _).drew, (fun _ => HO.out), (fun h => by cases h), (fun h => by cases h), rfl, (fun h => by cases h)⟩ ?_ ?_
          · rintro l a' w' i ⟨v2, gb, w1, rfl, hB, cR, cS, cO, hw, oS⟩ hi' hli hpre
            have hi2 : i < 15 := hi'
            have hcase : i = 0 ∨ i = 1 ∨ i = 2 ∨ i = 3 ∨ i = 4 ∨ i = 5 ∨ i = 6 ∨ i = 7 ∨ i = 8 ∨ i = 9 ∨ i = 10 ∨ i = 11 ∨ i = 12 ∨ i = 13 ∨ i = 14 := by omega
            clear hi' hi2
            rcases hcase with rfl | rfl | rfl | rfl | rfl | rfl | rfl | rfl | rfl | rfl | rfl | rfl | rfl | rfl | rfl
            · -- 0: Op.fieldAddr 60 (Operand.tmp 15) 2
              refine wpOp_step rfl (fun K' hK => ?_)
              have nS : l 14 = false := by
                cases h : l 14
                · rfl
                · have := oS h; simp [hli] at this
              rw [nS, cond_false] at hw
              subst hw
              clear hpre
              rw [if_pos (by rfl)]
              go_simp
              exact hK _ _ ⟨v2, gb, w', by simp [upd, Act.put, hnE], hB, (fun e0 => (cR (by simpa [upd] using e0))), (fun e0 e1 => (cS (by simpa [upd] using e0) (by simpa [upd] using e1))), (fun e0 => (cO (by simpa [upd] using e0))), by simp [upd, nS], (fun e => absurd e (by simp [upd, nS]))⟩
            · -- 1: Op.load 30 (Operand.tmp 56)
              have p0 : l 0 = true := hpre _ rfl ⟨0, .data⟩ (by simp) rfl
              refine wpOp_step rfl (fun K' hK => ?_)
              have nS : l 14 = false := by
                cases h : l 14
                · rfl
                · have := oS h; simp [hli] at this
              rw [nS, cond_false] at hw
              subst hw
              simp only [p0, cond_true, cond_false]
              clear hpre
              rw [if_pos (by rfl)]
              obtain ⟨hH, hG⟩ := HWr.out _ hB
              have z2 := hH.c2
              go_simp
              exact hK _ _ ⟨v2, gb, w', by simp [upd, Act.put, p0, hnE], hB, (fun e0 => (cR (by simpa [upd] using e0))), (fun e0 e1 => (cS (by simpa [upd] using e0) (by simpa [upd] using e1))), (fun e0 => (cO (by simpa [upd] using e0))), by simp [upd, nS], (fun e => absurd e (by simp [upd, nS]))⟩
            · -- 2: Op.move (Operand.tmp 17)
              refine wpOp_step rfl (fun K' hK => ?_)
              have nS : l 14 = false := by
                cases h : l 14
                · rfl
                · have := oS h; simp [hli] at this
              rw [nS, cond_false] at hw
              subst hw
              clear hpre
              rw [if_pos (by rfl)]
              go_simp
              exact hK _ _ ⟨v2, gb, w', by simp [upd, Act.put, hnE], hB, (fun e0 => (cR (by simpa [upd] using e0))), (fun e0 e1 => (cS (by simpa [upd] using e0) (by simpa [upd] using e1))), (fun e0 => (cO (by simpa [upd] using e0))), by simp [upd, nS], (fun e => absurd e (by simp [upd, nS]))⟩
            · -- 3: Op.move (Operand.tmp 14)
              refine wpOp_step rfl (fun K' hK => ?_)
              have nS : l 14 = false := by
                cases h : l 14
                · rfl
                · have := oS h; simp [hli] at this
              rw [nS, cond_false] at hw
              subst hw
              clear hpre
              rw [if_pos (by rfl)]
              go_simp
              exact hK _ _ ⟨v2, gb, w', by simp [upd, Act.put, hnE], hB, (fun e0 => (cR (by simpa [upd] using e0))), (fun e0 e1 => (cS (by simpa [upd] using e0) (by simpa [upd] using e1))), (fun e0 => (cO (by simpa [upd] using e0))), by simp [upd, nS], (fun e => absurd e (by simp [upd, nS]))⟩
            · -- 4: Op.fieldAddr 60 (Operand.tmp 15) 1
              refine wpOp_step rfl (fun K' hK => ?_)
              have nS : l 14 = false := by
                cases h : l 14
                · rfl
                · have := oS h; simp [hli] at this
              rw [nS, cond_false] at hw
              subst hw
              clear hpre
              rw [if_pos (by rfl)]
              go_simp
              exact hK _ _ ⟨v2, gb, w', by simp [upd, Act.put, hnE], hB, (fun e0 => (cR (by simpa [upd] using e0))), (fun e0 e1 => (cS (by simpa [upd] using e0) (by simpa [upd] using e1))), (fun e0 => (cO (by simpa [upd] using e0))), by simp [upd, nS], (fun e => absurd e (by simp [upd, nS]))⟩
            · -- 5: Op.load 24 (Operand.tmp 60)
              have p4 : l 4 = true := hpre _ rfl ⟨4, .data⟩ (by simp) rfl
              refine wpOp_step rfl (fun K' hK => ?_)
              have nS : l 14 = false := by
                cases h : l 14
                · rfl
                · have := oS h; simp [hli] at this
              rw [nS, cond_false] at hw
              subst hw
              simp only [p4, cond_true, cond_false]
              clear hpre
              rw [if_pos (by rfl)]
              obtain ⟨hH, hG⟩ := HWr.out _ hB
              have z1 := hH.c1
              go_simp
              exact hK _ _ ⟨v2, gb, w', by simp [upd, Act.put, p4, hnE], hB, (fun e0 => (cR (by simpa [upd] using e0))), (fun e0 e1 => (cS (by simpa [upd] using e0) (by simpa [upd] using e1))), (fun e0 => (cO (by simpa [upd] using e0))), by simp [upd, nS], (fun e => absurd e (by simp [upd, nS]))⟩
            · -- 6: Op.load 94 (Operand.tmp 13)
              refine wpOp_step rfl (fun K' hK => ?_)
              have nS : l 14 = false := by
                cases h : l 14
                · rfl
                · have := oS h; simp [hli] at this
              rw [nS, cond_false] at hw
              subst hw
              clear hpre
              rw [if_pos (by rfl)]
              obtain ⟨hH, hG⟩ := HWr.out _ hB
              have hP := (HE5.out _ hG).2.2.2.1
              refine wp_load_mid 94 _ rfl ab 0 rfl [Value.int .u64 (Q : Int), Value.slice (some ⟨g, 0, none⟩) (E + 1 : Nat) cg] _ hP Try.underlying94 rfl size94 ?_
              exact hK _ _ ⟨v2, gb, w', by simp [upd, Act.put, hnE], hB, (fun e0 => (cR (by simpa [upd] using e0))), (fun e0 e1 => (cS (by simpa [upd] using e0) (by simpa [upd] using e1))), (fun e0 => (cO (by simpa [upd] using e0))), by simp [upd, nS], (fun e => absurd e (by simp [upd, nS]))⟩
            · -- 7: Op.move (Operand.tmp 17)
              refine wpOp_step rfl (fun K' hK => ?_)
              have nS : l 14 = false := by
                cases h : l 14
                · rfl
                · have := oS h; simp [hli] at this
              rw [nS, cond_false] at hw
              subst hw
              clear hpre
              rw [if_pos (by rfl)]
              go_simp
              exact hK _ _ ⟨v2, gb, w', by simp [upd, Act.put, hnE], hB, (fun e0 => (cR (by simpa [upd] using e0))), (fun e0 e1 => (cS (by simpa [upd] using e0) (by simpa [upd] using e1))), (fun e0 => (cO (by simpa [upd] using e0))), by simp [upd, nS], (fun e => absurd e (by simp [upd, nS]))⟩
            · -- 8: Op.call { callee := Callee.value (Operand.func 43), args := 
              have p6 : l 6 = true := hpre _ rfl ⟨6, .data⟩ (by simp) rfl
              have p7 : l 7 = true := hpre _ rfl ⟨7, .data⟩ (by simp) rfl
              refine wpOp_step rfl (fun K' hK => ?_)
              have nS : l 14 = false := by
                cases h : l 14
                · rfl
                · have := oS h; simp [hli] at this
              rw [nS, cond_false] at hw
              subst hw
              simp only [p6, p7, cond_true, cond_false]
              clear hpre
              rw [if_pos (by rfl)]
              obtain ⟨hH, hG⟩ := HWr.out _ hB
              have hcl := (HE5.out _ hG).2.2.2.2.1.2.2.2.2
              go_simp
              refine (HATk.out _ hcl).mono ?_
              rintro e w5 ⟨rfl, hb5⟩
              exact hK _ _ ⟨v2, gb, w5, by simp [upd, Act.put, p6, p7, hnE], (hB.trans (hb5.mono (Nat.le_trans HRs.out hB.size))), (fun e0 => own_below (cR (by simpa [upd] using e0)) hb5), (fun e0 e1 => (fun j u hu => (hb5.cell (World.block_lt_of_cell? _ _ ((cS (by simpa [upd] using e0) (by simpa [upd] using e1)) j u hu))).trans ((cS (by simpa [upd] using e0) (by simpa [upd] using e1)) j u hu))), (fun e0 => own_below (cO (by simpa [upd] using e0)) hb5), by simp [upd, nS], (fun e => absurd e (by simp [upd, nS]))⟩
            · -- 9: Op.call { callee := Callee.value (Operand.func 58), args := 
              have p3 : l 3 = true := hpre _ rfl ⟨3, .data⟩ (by simp) rfl
              have p5 : l 5 = true := hpre _ rfl ⟨5, .data⟩ (by simp) rfl
              have p8 : l 8 = true := hpre _ rfl ⟨8, .data⟩ (by simp) rfl
              refine wpOp_step rfl (fun K' hK => ?_)
              have nS : l 14 = false := by
                cases h : l 14
                · rfl
                · have := oS h; simp [hli] at this
              rw [nS, cond_false] at hw
              subst hw
              simp only [p3, p5, p8, cond_true, cond_false]
              clear hpre
              rw [if_pos (by rfl)]
              go_simp
              refine (HPWk.out _).mono ?_
              rintro e w5 ⟨rfl, rfl⟩
              exact hK _ _ ⟨v2, gb, w', by simp [upd, Act.put, p3, p5, p8, hnE], hB, (fun e0 => (cR (by simpa [upd] using e0))), (fun e0 e1 => (cS (by simpa [upd] using e0) (by simpa [upd] using e1))), (fun e0 => (cO (by simpa [upd] using e0))), by simp [upd, nS], (fun e => absurd e (by simp [upd, nS]))⟩
            · -- 10: Op.build 46 #[(0, Operand.tmp 58), (1, Operand.tmp 65)]
              have p2 : l 2 = true := hpre _ rfl ⟨2, .data⟩ (by simp) rfl
              have p9 : l 9 = true := hpre _ rfl ⟨9, .data⟩ (by simp) rfl
              refine wpOp_step rfl (fun K' hK => ?_)
              have nS : l 14 = false := by
                cases h : l 14
                · rfl
                · have := oS h; simp [hli] at this
              rw [nS, cond_false] at hw
              subst hw
              simp only [p2, p9, cond_true, cond_false]
              clear hpre
              rw [if_pos (by rfl)]
              refine wp_build46 _ _ rfl x y rfl rfl ?_
              exact hK _ _ ⟨v2, gb, w', by simp [upd, Act.put, p2, p9, hnE], hB, (fun e0 => (cR (by simpa [upd] using e0))), (fun e0 e1 => (cS (by simpa [upd] using e0) (by simpa [upd] using e1))), (fun e0 => (cO (by simpa [upd] using e0))), by simp [upd, nS], (fun e => absurd e (by simp [upd, nS]))⟩
            · -- 11: Op.buildSlice 30 1 #[(0, Operand.tmp 66)]
              have p10 : l 10 = true := hpre _ rfl ⟨10, .data⟩ (by simp) rfl
              refine wpOp_step rfl (fun K' hK => ?_)
              have nS : l 14 = false := by
                cases h : l 14
                · rfl
                · have := oS h; simp [hli] at this
              rw [nS, cond_false] at hw
              subst hw
              simp only [p10, cond_true, cond_false]
              clear hpre
              rw [if_pos (by rfl)]
              go_simp
              exact hK _ _ ⟨v2, w'.heap.size, w'.alloc (.cells #[Value.int .u64 (x : Int), Value.int .u64 (y : Int)] 46), by simp [upd, Act.put, p10, hnE], (hB.alloc (Nat.le_trans HRs.out hB.size) _), (fun e0 => ((cR (by simpa [upd] using e0))).alloc _), (fun _ _ => cell_two_new _ _ _ _), (fun e0 => ((cO (by simpa [upd] using e0))).alloc _), by simp [upd, nS], (fun e => absurd e (by simp [upd, nS]))⟩
            · -- 12: Op.call { callee := Callee.builtin Builtin.append, args := #
              have p1 : l 1 = true := hpre _ rfl ⟨1, .data⟩ (by simp) rfl
              have p11 : l 11 = true := hpre _ rfl ⟨11, .data⟩ (by simp) rfl
              have p9 : l 9 = true := hpre _ rfl ⟨9, .chain⟩ (by simp) rfl
              refine wpOp_step rfl (fun K' hK => ?_)
              have nS : l 14 = false := by
                cases h : l 14
                · rfl
                · have := oS h; simp [hli] at this
              rw [nS, cond_false] at hw
              subst hw
              have n12 : l 12 = false := hli
              simp only [p1, p11, p9, cond_true, cond_false]
              clear hpre
              rw [if_pos (by rfl)]
              refine wp_append_own_wide _ _ _ 30 rfl L 46 i6 _ 2 16 Try.underlying30 hi6 hz06 hz16 hz26 rfl (by omega) v k xs rfl (cR n12) ⟨gb, 0, none⟩ 1 1 [Value.int .u64 (x : Int), Value.int .u64 (y : Int)] rfl rfl (cS p11 n12) (by intro u hu; simp at hu; rcases hu with rfl | rfl <;> rfl) (by unfold maxLen; omega) (by omega) (Nat.le_trans HRs.out hB.size) ?_
              intro v1 w6 hown6 hg6 _
              exact hK _ _ ⟨v1, gb, w6, by simp [upd, Act.put, p1, p11, p9, hnE], hB.grown hg6 (Nat.le_trans HRs.out hB.size) (fun b hb => own_block (cR n12) hb.symm), (fun e0 => absurd e0 (by simp [upd])), (fun e0 e1 => absurd e1 (by simp [upd])), (fun _ => hown6), by simp [upd, nS], (fun e => absurd e (by simp [upd, nS]))⟩
            · -- 13: Op.fieldAddr 60 (Operand.tmp 15) 2
              have p0 : l 0 = true := hpre _ rfl ⟨0, .phase⟩ (by simp) rfl
              have p1 : l 1 = true := hpre _ rfl ⟨1, .phase⟩ (by simp) rfl
              have p2 : l 2 = true := hpre _ rfl ⟨2, .phase⟩ (by simp) rfl
              have p3 : l 3 = true := hpre _ rfl ⟨3, .phase⟩ (by simp) rfl
              have p4 : l 4 = true := hpre _ rfl ⟨4, .phase⟩ (by simp) rfl
              have p5 : l 5 = true := hpre _ rfl ⟨5, .phase⟩ (by simp) rfl
              have p6 : l 6 = true := hpre _ rfl ⟨6, .phase⟩ (by simp) rfl
              have p7 : l 7 = true := hpre _ rfl ⟨7, .phase⟩ (by simp) rfl
              have p8 : l 8 = true := hpre _ rfl ⟨8, .phase⟩ (by simp) rfl
              have p9 : l 9 = true := hpre _ rfl ⟨9, .phase⟩ (by simp) rfl
              have p10 : l 10 = true := hpre _ rfl ⟨10, .phase⟩ (by simp) rfl
              have p11 : l 11 = true := hpre _ rfl ⟨11, .phase⟩ (by simp) rfl
              have p12 : l 12 = true := hpre _ rfl ⟨12, .phase⟩ (by simp) rfl
              refine wpOp_step rfl (fun K' hK => ?_)
              have nS : l 14 = false := by
                cases h : l 14
                · rfl
                · have := oS h; simp [hli] at this
              rw [nS, cond_false] at hw
              subst hw
              simp only [p0, p1, p2, p3, p4, p5, p6, p7, p8, p9, p10, p11, p12, cond_true, cond_false]
              clear hpre
              rw [if_pos (by rfl)]
              go_simp
              exact hK _ _ ⟨v2, gb, w', by simp [upd, Act.put, p0, p1, p2, p3, p4, p5, p6, p7, p8, p9, p10, p11, p12, hnE], hB, (fun e0 => (cR (by simpa [upd] using e0))), (fun e0 e1 => (cS (by simpa [upd] using e0) (by simpa [upd] using e1))), (fun e0 => (cO (by simpa [upd] using e0))), by simp [upd, nS], (fun e => absurd e (by simp [upd, nS]))⟩
            · -- 14: Op.store 30 (Operand.tmp 69) (Operand.tmp 68)
              have p13 : l 13 = true := hpre _ rfl ⟨13, .data⟩ (by simp) rfl
              have p12 : l 12 = true := hpre _ rfl ⟨12, .data⟩ (by simp) rfl
              have p0 : l 0 = true := hpre _ rfl ⟨0, .phase⟩ (by simp) rfl
              have p1 : l 1 = true := hpre _ rfl ⟨1, .phase⟩ (by simp) rfl
              have p2 : l 2 = true := hpre _ rfl ⟨2, .phase⟩ (by simp) rfl
              have p3 : l 3 = true := hpre _ rfl ⟨3, .phase⟩ (by simp) rfl
              have p4 : l 4 = true := hpre _ rfl ⟨4, .phase⟩ (by simp) rfl
              have p5 : l 5 = true := hpre _ rfl ⟨5, .phase⟩ (by simp) rfl
              have p6 : l 6 = true := hpre _ rfl ⟨6, .phase⟩ (by simp) rfl
              have p7 : l 7 = true := hpre _ rfl ⟨7, .phase⟩ (by simp) rfl
              have p8 : l 8 = true := hpre _ rfl ⟨8, .phase⟩ (by simp) rfl
              have p9 : l 9 = true := hpre _ rfl ⟨9, .phase⟩ (by simp) rfl
              have p10 : l 10 = true := hpre _ rfl ⟨10, .phase⟩ (by simp) rfl
              have p11 : l 11 = true := hpre _ rfl ⟨11, .phase⟩ (by simp) rfl
              refine wpOp_step rfl (fun K' hK => ?_)
              have nS : l 14 = false := hli
              rw [nS, cond_false] at hw
              subst hw
              simp only [p13, p12, p0, p1, p2, p3, p4, p5, p6, p7, p8, p9, p10, p11, cond_true, cond_false]
              clear hpre
              rw [if_pos (by rfl)]
              obtain ⟨hH, hG⟩ := HWr.out _ hB
              have z2 := hH.c2
              have z3 := hH.fr 2 (by omega)
              have c6 := cO p12
              obtain ⟨A6, m6, d6, hv6⟩ := own_form c6
              subst hv6
              go_simp
              exact hK _ _ ⟨_, gb, w', by simp [upd, Act.put, p13, p12, p0, p1, p2, p3, p4, p5, p6, p7, p8, p9, p10, p11, hnE], hB, (fun e0 => (cR (by simpa [upd] using e0))), (fun e0 e1 => (cS (by simpa [upd] using e0) (by simpa [upd] using e1))), (fun _ => c6), by simp [upd], (fun _ => by simp [upd, p13, p12, p0, p1, p2, p3, p4, p5, p6, p7, p8, p9, p10, p11])⟩
          · rintro l a' w9 hall ⟨v2, gb, w1, rfl, hB, cR, cS, cO, hw, oS⟩
            rw [hall 14 (by decide), cond_true] at hw
            subst hw
            clear cR
            clear cS
            replace cO := cO (hall 12 (by decide))
            simp only [hall 0 (by decide), hall 1 (by decide), hall 2 (by decide), hall 3 (by decide), hall 4 (by decide), hall 5 (by decide), hall 6 (by decide), hall 7 (by decide), hall 8 (by decide), hall 9 (by decide), hall 10 (by decide), hall 11 (by decide), hall 12 (by decide), hall 13 (by decide), cond_true]
            clear hall oS
            obtain ⟨hH, hG⟩ := HWr.out _ hB
            have HO9 : Hid ((w1.setCell ⟨hb, 2, none⟩ v2).ownsRow L 46 2 v2 (k + 1) (ptl X Y P Q G m E T n f (k + 1))) := Lib.hid (by
              rw [HSn.out]
              exact ownsRow_setCell_other cO (fun e => by have h1 := own_block cO e.symm; have h2 := HLE.out.2.2.1; simp at h1; omega) v2)
            have HH9 : Hid (HdAt (w1.setCell ⟨hb, 2, none⟩ v2) hb v2 bs 0 0 U V) := Lib.hid (hH.setPts v2)
            have HG9 : Hid (W5.grownBy (w1.setCell ⟨hb, 2, none⟩ v2) (some hb)) := Lib.hid (gb_set hG 2 v2)
            obtain ⟨w10, hw10⟩ : ∃ w10, w10 = w1.setCell ⟨hb, 2, none⟩ v2 := ⟨_, rfl⟩
            rw [← hw10] at HO9 HH9 HG9 ⊢
            clear hw10 hH hG hB cO HO HHr HGr HWr HATk HPWk
            go_wp2_with fail
            go_roundw
            case rel => exact ⟨k + 1, v2, by omega, by go_num, HO9, HH9, HG9⟩
            case measure => simp [intOf]; omega
        · obtain rfl : E = k := by omega
          obtain ⟨g3, c3, hv, q1, q2, q3, q4⟩ := own_slice2 HO.out (by omega)
          subst hv
          have HQ3 : Hid (L ≤ g3 ∧ E ≤ c3 ∧ c3 ≤ maxLen ∧ ∀ i x, (ptl X Y P Q G m E T n f E)[i]? = some x → wr.cell? ⟨g3, i, none⟩ = some x) := Lib.hid ⟨q1, q2, q3, q4⟩
          clear q1 q2 q3 q4
          have HWr : Hid (∀ w1, Below wr.heap.size wr w1 → HdAt w1 hb (.slice (some ⟨g3, 0, none⟩) E c3) bs 0 0 U V ∧ W5.grownBy w1 (some hb)) := Lib.hid (fun w1 h => ⟨HHr.out.below h HHr.out.lt, gb_below HGr.out (by rw [← HLE.out.1]; exact HRs.out) h⟩)
          have HAT0 := Lib.hid (fun (w : World) hcl => HAT.out g cg 0 w (HE5.out wr HGr.out).2.2.2.2.1.2.2.1 (HE5.out wr HGr.out).2.2.2.2.1.2.2.2.1 (by omega) hcl)
          have HPW0 := Lib.hid (fun (w : World) => HPW.out bs 0 w)
          rw [HPwv.out 0] at HPW0
          obtain ⟨y, hy⟩ : ∃ y, y = pwv X Y P Q G m E 0 := ⟨_, rfl⟩
          rw [← hy] at HPW0 HMK
          obtain ⟨ex, hex⟩ : ∃ ex, ex = sm (cof X Y Q) 0 (E + 1) % Q := ⟨_, rfl⟩
          rw [← hex] at HAT0 HPW0
          clear hy hex
          go_wp2_with fail
          refine wp_region_inv (by kernel_rfl) (by kernel_rfl) (fun l a' w' => ∃ (w1 : World), a' = { tmps := #[Value.agg (kl X Y).toArray, Value.agg #[Value.int IntKind.u8 K, Value.int IntKind.i64 D, Value.int IntKind.i64 E, Value.int IntKind.u64 P, Value.int IntKind.u64 Q, Value.int IntKind.u64 G], Value.slice (some ⟨b, off, none⟩) n c, Value.agg (kl A B).toArray, Value.int .u64 (m : Int), Value.pointer (some ⟨N, 0, none⟩), Value.pointer (some ⟨N + 1, 0, none⟩), undef, Value.pointer (some ⟨N + 2, 0, none⟩), undef, Value.pointer (some ⟨N + 3, 0, none⟩), Value.int .i64 (0 : Int), Value.int .i64 (0 : Int), Value.pointer (some ⟨ab, 0, none⟩), Value.int .u64 (P : Int), Value.pointer (some ⟨hb, 0, none⟩), undef, u17, Value.agg #[Value.int IntKind.u8 K, Value.int IntKind.i64 D, Value.int IntKind.i64 E, Value.int IntKind.u64 P, Value.int IntKind.u64 Q, Value.int IntKind.u64 G], Value.int .i64 (0 : Int), Value.int .i64 (0 : Int), Value.bool false, undef, undef, Value.agg #[Value.int IntKind.u8 K, Value.int IntKind.i64 D, Value.int IntKind.i64 E, Value.int IntKind.u64 P, Value.int IntKind.u64 Q, Value.int IntKind.u64 G], Value.slice (some ⟨b, off, none⟩) n c, Value.bool true, Value.bool false, undef, Value.slice (some ⟨b, off, none⟩) n c, Value.int .i64 (n : Int), Value.pointer (some ⟨N + 1, 2, none⟩), Value.int .i64 (E : Int), Value.bool false, undef, Value.agg (kl X Y).toArray, Value.agg #[Value.int IntKind.u8 K, Value.int IntKind.i64 D, Value.int IntKind.i64 E, Value.int IntKind.u64 P, Value.int IntKind.u64 Q, Value.int IntKind.u64 G], Value.agg #[Value.int IntKind.u64 Q, Value.slice (some ⟨g, 0, none⟩) (E + 1) cg], Value.pointer (some ⟨N + 1, 3, none⟩), Value.pointer (some ⟨N + 1, 3, none⟩), Value.int .u64 (P : Int), Value.agg (kl X Y).toArray, Value.agg #[Value.int IntKind.u8 K, Value.int IntKind.i64 D, Value.int IntKind.i64 E, Value.int IntKind.u64 P, Value.int IntKind.u64 Q, Value.int IntKind.u64 G], Value.int .u64 (m : Int), Value.int .u64 (bs : Int), Value.agg (kl A B).toArray, Value.agg (kl U V).toArray, Value.agg (hdl (Value.slice none 0 0) bs 0 0 U V).toArray, Value.agg #[Value.int IntKind.u8 K, Value.int IntKind.i64 D, Value.int IntKind.i64 E, Value.int IntKind.u64 P, Value.int IntKind.u64 Q, Value.int IntKind.u64 G], Value.slice (some ⟨b, off, none⟩) n c, Value.slice (some ⟨g2, 0, none⟩) E cg2, Value.int .i64 (E : Int), Value.int .i64 (E : Int), Value.bool false, u54, u55, u56, u57, u58, u59, u60, u61, u62, u63, u64, u65, u66, u67, u68, u69, u70, bif l 0 then Value.int .u64 (P : Int) else undef, bif l 1 then Value.pointer (some ⟨hb, 1, none⟩) else undef, bif l 2 then Value.int .u64 (bs : Int) else undef, bif l 3 then Value.agg #[Value.int .u64 (Q : Int), Value.slice (some ⟨g, 0, none⟩) (E + 1 : Nat) cg] else undef, bif l 4 then Value.int .u64 (ex : Int) else undef, bif l 5 then Value.int .u64 (y : Int) else undef, bif l 6 then Value.agg (kl MX MY).toArray else undef, bif l 7 then Value.agg (kl A B).toArray else undef, bif l 8 then Value.agg (kl EX EY).toArray else undef, bif l 9 then Value.pointer (some ⟨hb, 3, none⟩) else undef, undef], defers := [] } ∧ (Below wr.heap.size wr w1) ∧ w' = (bif l 10 then w1.setCells hb 3 (kl EX EY) else w1) ∧ (l 10 = true → (l 0 && l 1 && l 2 && l 3 && l 4 && l 5 && l 6 && l 7 && l 8 && l 9) = true)) ⟨_, rfl, (Below.refl _ _).drew, rfl, (fun h => by cases h)⟩ ?_ ?_
          · rintro l a' w' i ⟨w1, rfl, hB, hw, oS⟩ hi' hli hpre
            have hi2 : i < 11 := hi'
            have hcase : i = 0 ∨ i = 1 ∨ i = 2 ∨ i = 3 ∨ i = 4 ∨ i = 5 ∨ i = 6 ∨ i = 7 ∨ i = 8 ∨ i = 9 ∨ i = 10 := by omega
            clear hi' hi2
            rcases hcase with rfl | rfl | rfl | rfl | rfl | rfl | rfl | rfl | rfl | rfl | rfl
            · -- 0: Op.move (Operand.tmp 14)
              refine wpOp_step rfl (fun K' hK => ?_)
              have nS : l 10 = false := by
                cases h : l 10
                · rfl
                · have := oS h; simp [hli] at this
              rw [nS, cond_false] at hw
              subst hw
              clear hpre
              rw [if_pos (by rfl)]
              go_simp
              exact hK _ _ ⟨w', by simp [upd, Act.put, hnE], hB, by simp [upd, nS], (fun e => absurd e (by simp [upd, nS]))⟩
            · -- 1: Op.fieldAddr 60 (Operand.tmp 15) 1
              refine wpOp_step rfl (fun K' hK => ?_)
              have nS : l 10 = false := by
                cases h : l 10
                · rfl
                · have := oS h; simp [hli] at this
              rw [nS, cond_false] at hw
              subst hw
              clear hpre
              rw [if_pos (by rfl)]
              go_simp
              exact hK _ _ ⟨w', by simp [upd, Act.put, hnE], hB, by simp [upd, nS], (fun e => absurd e (by simp [upd, nS]))⟩
            · -- 2: Op.load 24 (Operand.tmp 72)
              have p1 : l 1 = true := hpre _ rfl ⟨1, .data⟩ (by simp) rfl
              refine wpOp_step rfl (fun K' hK => ?_)
              have nS : l 10 = false := by
                cases h : l 10
                · rfl
                · have := oS h; simp [hli] at this
              rw [nS, cond_false] at hw
              subst hw
              simp only [p1, cond_true, cond_false]
              clear hpre
              rw [if_pos (by rfl)]
              obtain ⟨hH, hG⟩ := HWr.out _ hB
              have z1 := hH.c1
              go_simp
              exact hK _ _ ⟨w', by simp [upd, Act.put, p1, hnE], hB, by simp [upd, nS], (fun e => absurd e (by simp [upd, nS]))⟩
            · -- 3: Op.load 94 (Operand.tmp 13)
              refine wpOp_step rfl (fun K' hK => ?_)
              have nS : l 10 = false := by
                cases h : l 10
                · rfl
                · have := oS h; simp [hli] at this
              rw [nS, cond_false] at hw
              subst hw
              clear hpre
              rw [if_pos (by rfl)]
              obtain ⟨hH, hG⟩ := HWr.out _ hB
              have hP := (HE5.out _ hG).2.2.2.1
              refine wp_load_mid 94 _ rfl ab 0 rfl [Value.int .u64 (Q : Int), Value.slice (some ⟨g, 0, none⟩) (E + 1 : Nat) cg] _ hP Try.underlying94 rfl size94 ?_
              exact hK _ _ ⟨w', by simp [upd, Act.put, hnE], hB, by simp [upd, nS], (fun e => absurd e (by simp [upd, nS]))⟩
            · -- 4: Op.call { callee := Callee.value (Operand.func 43), args := 
              have p3 : l 3 = true := hpre _ rfl ⟨3, .data⟩ (by simp) rfl
              refine wpOp_step rfl (fun K' hK => ?_)
              have nS : l 10 = false := by
                cases h : l 10
                · rfl
                · have := oS h; simp [hli] at this
              rw [nS, cond_false] at hw
              subst hw
              simp only [p3, cond_true, cond_false]
              clear hpre
              rw [if_pos (by rfl)]
              obtain ⟨hH, hG⟩ := HWr.out _ hB
              have hcl := (HE5.out _ hG).2.2.2.2.1.2.2.2.2
              go_simp
              refine (HAT0.out _ hcl).mono ?_
              rintro e w5 ⟨rfl, hb5⟩
              exact hK _ _ ⟨w5, by simp [upd, Act.put, p3, hnE], (hB.trans (hb5.mono hB.size)), by simp [upd, nS], (fun e => absurd e (by simp [upd, nS]))⟩
            · -- 5: Op.call { callee := Callee.value (Operand.func 58), args := 
              have p0 : l 0 = true := hpre _ rfl ⟨0, .data⟩ (by simp) rfl
              have p2 : l 2 = true := hpre _ rfl ⟨2, .data⟩ (by simp) rfl
              have p4 : l 4 = true := hpre _ rfl ⟨4, .data⟩ (by simp) rfl
              refine wpOp_step rfl (fun K' hK => ?_)
              have nS : l 10 = false := by
                cases h : l 10
                · rfl
                · have := oS h; simp [hli] at this
              rw [nS, cond_false] at hw
              subst hw
              simp only [p0, p2, p4, cond_true, cond_false]
              clear hpre
              rw [if_pos (by rfl)]
              go_simp
              refine (HPW0.out _).mono ?_
              rintro e w5 ⟨rfl, rfl⟩
              exact hK _ _ ⟨w', by simp [upd, Act.put, p0, p2, p4, hnE], hB, by simp [upd, nS], (fun e => absurd e (by simp [upd, nS]))⟩
            · -- 6: Op.call { callee := Callee.value (Operand.func 60), args := 
              have p5 : l 5 = true := hpre _ rfl ⟨5, .data⟩ (by simp) rfl
              refine wpOp_step rfl (fun K' hK => ?_)
              have nS : l 10 = false := by
                cases h : l 10
                · rfl
                · have := oS h; simp [hli] at this
              rw [nS, cond_false] at hw
              subst hw
              simp only [p5, cond_true, cond_false]
              clear hpre
              rw [if_pos (by rfl)]
              go_simp
              refine (HMK.out _).mono ?_
              rintro e w5 ⟨rfl, hb5⟩
              exact hK _ _ ⟨w5, by simp [upd, Act.put, p5, hnE], (hB.trans (hb5.mono hB.size)), by simp [upd, nS], (fun e => absurd e (by simp [upd, nS]))⟩
            · -- 7: Op.load 23 (Operand.tmp 8)
              refine wpOp_step rfl (fun K' hK => ?_)
              have nS : l 10 = false := by
                cases h : l 10
                · rfl
                · have := oS h; simp [hli] at this
              rw [nS, cond_false] at hw
              subst hw
              clear hpre
              rw [if_pos (by rfl)]
              obtain ⟨hH, hG⟩ := HWr.out _ hB
              have K2 := (HE5.out _ hG).2.1
              refine wp_load_mid 23 _ rfl _ 0 rfl (kl A B) _ K2 Try.underlying23 rfl (by rw [kl_len]; exact size23) ?_
              exact hK _ _ ⟨w', by simp [upd, Act.put, hnE], hB, by simp [upd, nS], (fun e => absurd e (by simp [upd, nS]))⟩
            · -- 8: Op.call { callee := Callee.value (Operand.func 59), args := 
              have p6 : l 6 = true := hpre _ rfl ⟨6, .data⟩ (by simp) rfl
              have p7 : l 7 = true := hpre _ rfl ⟨7, .data⟩ (by simp) rfl
              refine wpOp_step rfl (fun K' hK => ?_)
              have nS : l 10 = false := by
                cases h : l 10
                · rfl
                · have := oS h; simp [hli] at this
              rw [nS, cond_false] at hw
              subst hw
              simp only [p6, p7, cond_true, cond_false]
              clear hpre
              rw [if_pos (by rfl)]
              go_simp
              refine (HEN.out _).mono ?_
              rintro e w5 ⟨rfl, hb5⟩
              exact hK _ _ ⟨w5, by simp [upd, Act.put, p6, p7, hnE], (hB.trans (hb5.mono hB.size)), by simp [upd, nS], (fun e => absurd e (by simp [upd, nS]))⟩
            · -- 9: Op.fieldAddr 60 (Operand.tmp 15) 3
              have p0 : l 0 = true := hpre _ rfl ⟨0, .phase⟩ (by simp) rfl
              have p1 : l 1 = true := hpre _ rfl ⟨1, .phase⟩ (by simp) rfl
              have p2 : l 2 = true := hpre _ rfl ⟨2, .phase⟩ (by simp) rfl
              have p3 : l 3 = true := hpre _ rfl ⟨3, .phase⟩ (by simp) rfl
              have p4 : l 4 = true := hpre _ rfl ⟨4, .phase⟩ (by simp) rfl
              have p5 : l 5 = true := hpre _ rfl ⟨5, .phase⟩ (by simp) rfl
              have p6 : l 6 = true := hpre _ rfl ⟨6, .phase⟩ (by simp) rfl
              have p7 : l 7 = true := hpre _ rfl ⟨7, .phase⟩ (by simp) rfl
              have p8 : l 8 = true := hpre _ rfl ⟨8, .phase⟩ (by simp) rfl
              refine wpOp_step rfl (fun K' hK => ?_)
              have nS : l 10 = false := by
                cases h : l 10
                · rfl
                · have := oS h; simp [hli] at this
              rw [nS, cond_false] at hw
              subst hw
              simp only [p0, p1, p2, p3, p4, p5, p6, p7, p8, cond_true, cond_false]
              clear hpre
              rw [if_pos (by rfl)]
              go_simp
              exact hK _ _ ⟨w', by simp [upd, Act.put, p0, p1, p2, p3, p4, p5, p6, p7, p8, hnE], hB, by simp [upd, nS], (fun e => absurd e (by simp [upd, nS]))⟩
            · -- 10: Op.store 23 (Operand.tmp 80) (Operand.tmp 79)
              have p9 : l 9 = true := hpre _ rfl ⟨9, .data⟩ (by simp) rfl
              have p8 : l 8 = true := hpre _ rfl ⟨8, .data⟩ (by simp) rfl
              have p0 : l 0 = true := hpre _ rfl ⟨0, .phase⟩ (by simp) rfl
              have p1 : l 1 = true := hpre _ rfl ⟨1, .phase⟩ (by simp) rfl
              have p2 : l 2 = true := hpre _ rfl ⟨2, .phase⟩ (by simp) rfl
              have p3 : l 3 = true := hpre _ rfl ⟨3, .phase⟩ (by simp) rfl
              have p4 : l 4 = true := hpre _ rfl ⟨4, .phase⟩ (by simp) rfl
              have p5 : l 5 = true := hpre _ rfl ⟨5, .phase⟩ (by simp) rfl
              have p6 : l 6 = true := hpre _ rfl ⟨6, .phase⟩ (by simp) rfl
              have p7 : l 7 = true := hpre _ rfl ⟨7, .phase⟩ (by simp) rfl
              refine wpOp_step rfl (fun K' hK => ?_)
              have nS : l 10 = false := hli
              rw [nS, cond_false] at hw
              subst hw
              simp only [p9, p8, p0, p1, p2, p3, p4, p5, p6, p7, cond_true, cond_false]
              clear hpre
              rw [if_pos (by rfl)]
              obtain ⟨hH, hG⟩ := HWr.out _ hB
              refine wp_store_mid 23 _ _ rfl hb 3 (kl EX EY).toArray rfl rfl (by intro j hj; have := hH.2 (3 + j) (by simp [kl_len] at hj; omega); rwa [Nat.zero_add] at this) (by simp [kl_len, size23]) (kl_arr _ _) ?_
              rw [List.toList_toArray]
              exact hK _ _ ⟨w', by simp [upd, Act.put, p9, p8, p0, p1, p2, p3, p4, p5, p6, p7, hnE], hB, by simp [upd], (fun _ => by simp [upd, p9, p8, p0, p1, p2, p3, p4, p5, p6, p7])⟩
          · rintro l a' w9 hall ⟨w1, rfl, hB, hw, oS⟩
            rw [hall 10 (by decide), cond_true] at hw
            subst hw
            simp only [hall 0 (by decide), hall 1 (by decide), hall 2 (by decide), hall 3 (by decide), hall 4 (by decide), hall 5 (by decide), hall 6 (by decide), hall 7 (by decide), hall 8 (by decide), hall 9 (by decide), cond_true]
            clear hall oS
            obtain ⟨hH, hG⟩ := HWr.out _ hB
            obtain ⟨Wc, hWc⟩ : ∃ Wc, Wc = w1.setCells hb 3 (kl EX EY) := ⟨_, rfl⟩
            have HHc : Hid (HdAt Wc hb (.slice (some ⟨g3, 0, none⟩) E c3) bs EX EY U V) := Lib.hid (by rw [hWc]; exact hH.setBox EX EY)
            have HGc : Hid (W5.grownBy Wc (some hb) ∧ ∀ i x, (ptl X Y P Q G m E T n f E)[i]? = some x → Wc.cell? ⟨g3, i, none⟩ = some x) := Lib.hid (by
              have hle := HLE.out
              rw [hWc]
              refine ⟨gb_setCells _ _ _ hG, fun i x hx => ?_⟩
              have h4 := HQ3.out.2.2.2 i x hx
              have h5 := HQ3.out.1
              rw [World.cell?_setCells_out _ _ _ _ _ (fun h _ => absurd h (by show g3 ≠ hb; omega))]
              exact (hB.cell (p := ⟨g3, i, none⟩) (World.block_lt_of_cell? wr _ h4)).trans h4)
            obtain ⟨Wd, hWd⟩ : ∃ Wd, Wd = Wc.setCells (N + 3) 0 (hdl (.slice (some ⟨g3, 0, none⟩) E c3) bs EX EY U V) := ⟨_, rfl⟩
            have HT : Hid (Wc.there (N + 3) 0 35) := Lib.hid (HE5.out Wc HGc.out.1).2.2.1
            have HHd : Hid (HdAt Wd (N + 3) (.slice (some ⟨g3, 0, none⟩) E c3) bs EX EY U V) := Lib.hid (by rw [hWd]; exact HdAt.stored HT.out _ _ _ _ _ _)
            have HFd : Hid (Below N w Wd ∧ ∀ i x, (ptl X Y P Q G m E T n f E)[i]? = some x → Wd.cell? ⟨g3, i, none⟩ = some x) := Lib.hid (by
              have hle := HLE.out
              have h5 := HQ3.out.1
              rw [hWd]
              exact ⟨below_setCells _ _ _ _ (HE5.out Wc HGc.out.1).1 (by omega), fun i x hx => (World.cell?_setCells_out _ _ _ _ _ (fun h _ => absurd h (by show g3 ≠ N + 3; omega))).trans (HGc.out.2 i x hx)⟩)
            have HWd := Lib.hid hWd
            rw [← hWc]
            clear hWc hWd hH hG hB HWr HHr HGr HO HAT0 HPW0
            go_wp2_with (first
              | (refine wpList_load_hd rfl _ rfl hb rfl _ _ _ _ _ _ HHc.out ?_)
              | ((refine wpList_store_hd rfl _ _ rfl (N + 3) (.slice (some ⟨g3, 0, none⟩) E c3) bs EX EY U V rfl rfl rfl HT.out ?_); rw [← HWd.out]))
            exact bodyPost_hd rfl (N + 3) _ _ _ _ _ _ _ rfl rfl HHd.out rfl ⟨⟨g3, c3, rfl, by have h5 := HQ3.out.1; have hle := HLE.out; omega, HQ3.out.2.1, HQ3.out.2.2.1, HFd.out.2⟩, HFd.out.1⟩
end Go.Proofs.Ytcbanemkjebdcaa
