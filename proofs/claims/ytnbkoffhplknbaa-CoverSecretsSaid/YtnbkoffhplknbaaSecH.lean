/-
  SecretOf, the specification's.
-/
import Derived.Test.YtnbkoffhplknbaaSecG
namespace Go.Proofs.Ytnbkoffhplknbaa
open Go.RowKit TR L2 L2.SP
set_option linter.unusedVariables false
set_option linter.unusedSimpArgs false

theorem plc_k1 (d y : Nat) : ∀ t ∈ plc 1 d y, t.2 = 0 := by
  intro t ht
  unfold plc plf at ht
  rcases List.mem_append.1 ht with h | h
  · unfold pre0 at h; simp at h
  · obtain ⟨l, _, hl2⟩ := List.mem_flatMap.1 h
    unfold rowl at hl2
    rw [if_pos rfl] at hl2
    simp at hl2; subst hl2; rfl

set_option maxRecDepth 100000 in
set_option maxHeartbeats 1600000 in
theorem refSecretOf_any (p : Nat × Nat) (K E : Int) (d r P Q G : Nat) (w : World) (hp : Ok p) (hd : d < 7) (hrd : r < 2 ^ d) :
    Calls Try.prog 97 #[.agg (kl p.1 p.2).toArray, .agg #[.int .u8 K, .int .i64 (d : Int), .int .i64 E, .int .u64 (P : Int), .int .u64 (Q : Int), .int .u64 (G : Int)], .int .i64 (r : Int)] w fun e w' => (∃ (v : Value), e = .returned (.agg (sc4 (r : Int) v)) ∧ w'.ownsRow w.heap.size 70 18 v (plc K d (2 ^ d + r)).length (lbs K p (plc K d (2 ^ d + r)))) ∧ Below w.heap.size w w' := by
  obtain ⟨N, hN⟩ : ∃ N, N = w.heap.size := ⟨_, rfl⟩
  obtain ⟨W3, hW3⟩ : ∃ W3, W3 = ((w.alloc (.cells (kl p.1 p.2).toArray 58)).alloc (.cells #[.int .u8 K, .int .i64 (d : Int), .int .i64 E, .int .u64 (P : Int), .int .u64 (Q : Int), .int .u64 (G : Int)] 28)).alloc (.cells (sc4 0 (.slice none 0 0)) 63) := ⟨_, rfl⟩
  have s3 : W3.heap.size = N + 3 := by rw [hW3, hN]; simp
  have b3 : Below N w W3 := by rw [hW3, hN]; exact (below_alloc _ _).trans (((below_alloc _ _).mono (by simp)).trans ((below_alloc _ _).mono (by simp; omega)))
  have e1 : Kbx W3 N p := by rw [hW3, hN]; exact ((Blk.new w _ _).keep (below_alloc _ _)).keep (below_alloc _ _)
  have e2 : Blk W3 (N + 1) #[.int .u8 K, .int .i64 (d : Int), .int .i64 E, .int .u64 (P : Int), .int .u64 (Q : Int), .int .u64 (G : Int)] 28 := by
    have h := (Blk.new (w.alloc (.cells (kl p.1 p.2).toArray 58)) #[.int .u8 K, .int .i64 (d : Int), .int .i64 E, .int .u64 (P : Int), .int .u64 (Q : Int), .int .u64 (G : Int)] 28).keep (below_alloc _ (.cells (sc4 0 (.slice none 0 0)) 63))
    rw [World.size_alloc, ← hN] at h; rw [hW3]; exact h
  have e3 : Blk W3 (N + 2) (sc4 0 (.slice none 0 0)) 63 := by
    have h := Blk.new ((w.alloc (.cells (kl p.1 p.2).toArray 58)).alloc (.cells #[.int .u8 K, .int .i64 (d : Int), .int .i64 E, .int .u64 (P : Int), .int .u64 (Q : Int), .int .u64 (G : Int)] 28)) (sc4 0 (.slice none 0 0)) 63
    rw [World.size_alloc, World.size_alloc, ← hN] at h; rw [hW3]; exact h
  have hA := Blk.new W3 (sc4 0 (.slice none 0 0)) 63
  rw [s3] at hA
  have hth : (W3.alloc (.cells (sc4 0 (.slice none 0 0)) 63)).there (N + 3) 0 4 := hA.there
  obtain ⟨W6, hW6⟩ : ∃ W6, W6 = (W3.alloc (.cells (sc4 0 (.slice none 0 0)) 63)).setCells (N + 3) 0 (sc4 (r : Int) (.slice none 0 0)).toList := ⟨_, rfl⟩
  have b36 : Below W3.heap.size W3 W6 := by rw [hW6]; exact below_setCells _ _ _ _ (below_alloc _ _) (by rw [s3]; exact Nat.le_refl _)
  have hl6 : Blk W6 (N + 3) (sc4 (r : Int) (.slice none 0 0)) 63 := by rw [hW6]; exact Blk.setAll hA _ rfl
  obtain ⟨sb, hsb⟩ : ∃ sb, sb = N + 3 := ⟨_, rfl⟩
  have HSB : Hid (sb = N + 3 ∧ N + 3 ≤ sb) := Lib.hid ⟨hsb, by rw [hsb]; exact Nat.le_refl _⟩
  have s6 : W6.heap.size = sb + 1 := by rw [hW6, size_setCells]; simp [hsb, s3]
  have HE6 : Hid (W6.heap.size = sb + 1 ∧ Below N w W6 ∧ Kbx W6 N p ∧ Blk W6 (N + 1) #[.int .u8 K, .int .i64 (d : Int), .int .i64 E, .int .u64 (P : Int), .int .u64 (Q : Int), .int .u64 (G : Int)] 28 ∧ Blk W6 (N + 2) (sc4 0 (.slice none 0 0)) 63 ∧ Blk W6 sb (sc4 (r : Int) (.slice none 0 0)) 63) := Lib.hid ⟨s6, b3.trans (b36.mono (by omega)), e1.keep b36, e2.keep b36, e3.keep b36, by rw [hsb]; exact hl6⟩
  have HPl := Lib.hid (fun w => refLabels_any K E d r P Q G w hd hrd)
  have HOkp := Lib.hid (plc_ok K d r hd hrd)
  have HK1 : Hid (∀ t ∈ plc K d (2 ^ d + r), K = 1 → t.2 = 0) := Lib.hid (fun t h hK => by subst hK; exact plc_k1 d _ t h)
  have hn64 := plc_len K d r hd hrd
  have hn0 := plc_pos K d (2 ^ d + r)
  obtain ⟨ps, hps⟩ : ∃ ps, ps = plc K d (2 ^ d + r) := ⟨_, rfl⟩
  rw [← hps] at HPl HOkp hn64 hn0 HK1 ⊢
  obtain ⟨n, hn⟩ : ∃ n, n = ps.length := ⟨_, rfl⟩
  rw [← hn] at HPl hn64 hn0 ⊢
  have HN0 := Lib.hid hn
  have HKf := Lib.hid (fun (t : Nat × Nat) (w : World) (h : PrOk K t) => refKeyOf_any p K (d : Int) E P Q G t.1 t.2 w hp h.2.1 h.2.2.1 h.2.2.2)
  have HLf := Lib.hid (fun (t : Nat × Nat) (w : World) (h : PrOk K t) (h1 : K ≠ 1) (h2 : t.2 ≠ 0) => refLabel_any p t.1 t.2 w hp h.2.1 h.2.2.1 (h.2.2.2 h1 h2))
  have HN := Lib.hid hN
  have HW3 := Lib.hid hW3
  have HW6 := Lib.hid hW6
  have HTh := Lib.hid hth
  rw [← hN]
  have H6 := HE6.out.2.2.2.1
  have c0 : W6.cell? ⟨N + 1, 0, none⟩ = some (.int .u8 K) := H6.cell 0
  have c1 : W6.cell? ⟨N + 1, 1, none⟩ = some (.int .i64 (d : Int)) := H6.cell 1
  have c2 : W6.cell? ⟨N + 1, 2, none⟩ = some (.int .i64 E) := H6.cell 2
  have c3 : W6.cell? ⟨N + 1, 3, none⟩ = some (.int .u64 (P : Int)) := H6.cell 3
  have c4 : W6.cell? ⟨N + 1, 4, none⟩ = some (.int .u64 (Q : Int)) := H6.cell 4
  have c5 : W6.cell? ⟨N + 1, 5, none⟩ = some (.int .u64 (G : Int)) := H6.cell 5
  rw [hW6, hW3, hN] at c0 c1 c2 c3 c4 c5
  clear hN hW3 hW6 hth hA b36 hl6 s6 H6 hsb s3 b3 e1 e2 e3 hps hn hp hd hrd
  go_enter Try.func97, Try.ntmps97
  go_wp2_with ((with_reducible show wpList _ _ _ (Oper.mk _ (Op.store 63 _ _) _ _ _ _ :: _) _ _); refine wpList_store_sec rfl _ _ rfl _ _ _ rfl rfl rfl (by rw [← HW3.out, ← HN.out]; exact HTh.out) ?_)
  rw [← HW3.out, ← HN.out]
  simp only [Nat.add_assoc, Nat.reduceAdd]
  rw [← HW6.out, ← HSB.out.1]
  refine (HPl.out _).mono ?_
  rintro e w7 ⟨⟨u7, rfl, ho7⟩, hb7⟩
  obtain ⟨g, cg, cur, rfl, hg1, hg2, hg3, hg4, hg5⟩ := own_blk ho7 hn0
  have HG : Hid (∀ j (t : Nat × Nat), ps[j]? = some t → cur[j * 2]? = some (.int .i64 (t.1 : Int)) ∧ cur[j * 2 + 1]? = some (.int .i64 (t.2 : Int))) := Lib.hid (fun j t h => by
    have h1 := prs_get ps j t h
    rw [Nat.mul_comm j 2]
    exact ⟨hg5 _ _ h1.1, hg5 _ _ h1.2⟩)
  have HE7 : Hid (sb + 1 ≤ w7.heap.size ∧ Below N w w7 ∧ Kbx w7 N p ∧ Blk w7 (N + 1) #[.int .u8 K, .int .i64 (d : Int), .int .i64 E, .int .u64 (P : Int), .int .u64 (Q : Int), .int .u64 (G : Int)] 28 ∧ Blk w7 (N + 2) (sc4 0 (.slice none 0 0)) 63 ∧ Blk w7 sb (sc4 (r : Int) (.slice none 0 0)) 63 ∧ Blk w7 g cur 35) := Lib.hid ⟨by rw [← HE6.out.1]; exact hb7.size, HE6.out.2.1.trans (hb7.mono (by rw [HE6.out.1]; have := HSB.out.2; omega)), HE6.out.2.2.1.keep hb7, HE6.out.2.2.2.1.keep hb7, HE6.out.2.2.2.2.1.keep hb7, HE6.out.2.2.2.2.2.keep hb7, hg4⟩
  have HG7 : Hid (g ≠ sb) := Lib.hid (fun e => by have h1 := HE7.out.2.2.2.2.2.1; have h2 := HE7.out.2.2.2.2.2.2; rw [← e] at h1; unfold Blk at h1 h2; rw [h1] at h2; injection h2 with h2; injection h2 with _ h3 _; cases h3)
  clear hb7 ho7 hg1 hg4 hg5 c0 c1 c2 c3 c4 c5
  go_wp2_with fail
  go_loopw [9] (fun i wr => ∃ (k : Nat) (v : Value), k ≤ n ∧ i = .int .i64 (k : Int) ∧ Hid (wr.ownsRow N 70 18 v k (lbs K p (ps.take k))) ∧ Hid (Kbx wr N p ∧ Blk wr (N + 1) #[.int .u8 K, .int .i64 (d : Int), .int .i64 E, .int .u64 (P : Int), .int .u64 (Q : Int), .int .u64 (G : Int)] 28 ∧ Blk wr (N + 2) (sc4 0 (.slice none 0 0)) 63 ∧ Blk wr sb (sc4 (r : Int) v) 63 ∧ Blk wr g cur 35) ∧ Hid (Below N w wr ∧ sb + 1 ≤ wr.heap.size)) (fun i _ => n + 1 - (intOf i).toNat)
  case atStart => exact ⟨0, .slice none 0 0, by omega, rfl, Lib.hid (World.ownsRow_nil _ _ _ _), Lib.hid HE7.out.2.2, Lib.hid ⟨HE7.out.2.1, HE7.out.1⟩⟩
  case round =>
    obtain ⟨k, v, hk, rfl, HO, HB, HS⟩ := hrel
    by_cases hlt : k < n
    · have hkl : k < ps.length := by rw [← HN0.out]; exact hlt
      obtain ⟨t, ht⟩ : ∃ t, t = ps[k] := ⟨_, rfl⟩
      have hgk := HG.out k t (by rw [List.getElem?_eq_getElem hkl, ht])
      have hok := HOkp.out t (by rw [ht]; exact List.getElem_mem hkl)
      have hk1 := HK1.out t (by rw [ht]; exact List.getElem_mem hkl)
      have HSn : Hid (lbs K p (ps.take (k + 1)) = lbs K p (ps.take k) ++ lbl (t.1 : Int) (t.2 : Int) (sky K p t.1 t.2)) := Lib.hid (by rw [take_snoc ps k hkl, lbs_snoc, ← ht])
      have HKk := Lib.hid (fun w => HKf.out t w hok)
      have HLk := Lib.hid (fun w => HLf.out t w hok)
      have HSame : Hid (t.2 = 0 → kof K p t.1 t.2 = sky K p t.1 t.2) := Lib.hid (fun h => by unfold kof sky; split; rfl; simp [h])
      have HSlab : Hid (t.2 ≠ 0 → K ≠ 1 ∧ lbk p t.1 t.2 = sky K p t.1 t.2) := Lib.hid (fun h => by
        have hK : K ≠ 1 := fun e => h (hk1 e)
        refine ⟨hK, ?_⟩
        unfold sky; rw [if_neg hK, if_neg h])
      obtain ⟨a, ha⟩ : ∃ a, a = t.1 := ⟨_, rfl⟩
      obtain ⟨b, hb⟩ : ∃ b, b = t.2 := ⟨_, rfl⟩
      obtain ⟨q, hq⟩ : ∃ q, q = sky K p t.1 t.2 := ⟨_, rfl⟩
      rw [← hq] at HSn HSame HSlab
      rw [← ha, ← hb] at HSn HKk hgk HSame HSlab HLk
      obtain ⟨qk, hqk⟩ : ∃ qk, qk = kof K p a b := ⟨_, rfl⟩
      rw [← hqk] at HKk HSame
      obtain ⟨xs, hxs⟩ : ∃ xs, xs = lbs K p (ps.take k) := ⟨_, rfl⟩
      rw [← hxs] at HSn HO
      have HGc : Hid (∀ w1, Blk w1 g cur 35 → w1.cell? ⟨g, k * 2, none⟩ = some (.int .i64 (a : Int)) ∧ w1.cell? ⟨g, k * 2 + 1, none⟩ = some (.int .i64 (b : Int))) := Lib.hid (fun w1 h => ⟨(h.cell (k * 2)).trans hgk.1, (h.cell (k * 2 + 1)).trans hgk.2⟩)
      have l1 : (0 : Int) ≤ (k : Int) := by omega
      have l2 : (k : Int) < (n : Int) := by omega
      have l3 : k ≤ 64 := by omega
      have HNw : Hid (N ≤ wr.heap.size) := Lib.hid (by have := HS.out.2; have := HSB.out.2; omega)
      clear hkl ht hgk hok ha hb hq hqk hxs hk hk1
      go_wp2_with fail
      refine wp_region_inv (by kernel_rfl) (by kernel_rfl) (fun l a' w' => ∃ (kb : Nat) (w1 : World), a' = { tmps := #[Value.agg (kl p.fst p.snd).toArray, Value.agg #[Value.int IntKind.u8 K, Value.int IntKind.i64 d, Value.int IntKind.i64 E, Value.int IntKind.u64 P, Value.int IntKind.u64 Q, Value.int IntKind.u64 G], Value.int .i64 (r : Int), Value.pointer (some ⟨N, 0, none⟩), Value.pointer (some ⟨N + 1, 0, none⟩), undef, Value.pointer (some ⟨N + 2, 0, none⟩), Value.pointer (some ⟨sb, 0, none⟩), Value.slice (some ⟨g, 0, none⟩) n cg, Value.int .i64 (k : Int), bif l 7 then Value.pointer (some ⟨kb, 0, none⟩) else u10, Value.int .i64 (r : Int), Value.agg #[Value.int IntKind.i64 r, Value.slice none 0 0, Value.int IntKind.u64 0, Value.int IntKind.u64 0], Value.agg #[Value.int IntKind.u8 K, Value.int IntKind.i64 d, Value.int IntKind.i64 E, Value.int IntKind.u64 P, Value.int IntKind.u64 Q, Value.int IntKind.u64 G], Value.int .i64 (r : Int), Value.slice (some ⟨g, 0, none⟩) n cg, Value.int .i64 (k : Int), Value.slice (some ⟨g, 0, none⟩) n cg, Value.int .i64 (n : Int), Value.bool true, u20, u21, bif l 0 then Value.agg (kl p.1 p.2).toArray else u22, bif l 1 then Value.agg #[Value.int .u8 K, Value.int .i64 (d : Int), Value.int .i64 E, Value.int .u64 (P : Int), Value.int .u64 (Q : Int), Value.int .u64 (G : Int)] else u23, bif l 2 then Value.slice (some ⟨g, 0, none⟩) n cg else u24, bif l 3 then Value.int .i64 (k : Int) else u25, bif l 4 then Value.pointer (some ⟨g, k * 2, none⟩) else u26, bif l 5 then Value.agg #[Value.int .i64 (a : Int), Value.int .i64 (b : Int)] else u27, bif l 6 then Value.agg (kl qk.1 qk.2).toArray else u28, u29, u30, u31, u32, u33, u34, u35, u36, u37, u38, u39, u40, u41, u42, u43, u44, u45, u46, u47, u48, u49, u50, u51, u52, u53, u54, u55, u56, u57, u58, u59, u60, u61, u62, u63, undef], defers := [] } ∧ (Below wr.heap.size wr w1) ∧ (l 7 = true → (wr.heap.size ≤ kb ∧ Blk w1 kb z16 58)) ∧ w' = (bif l 8 then w1.setCells kb 0 (kl qk.1 qk.2) else w1) ∧ (l 8 = true → (l 0 && l 1 && l 2 && l 3 && l 4 && l 5 && l 6 && l 7) = true)) ⟨0, _, rfl, (Below.refl _ _).drew, (fun h => by cases h), rfl, (fun h => by cases h)⟩ ?_ ?_
      · rintro l a' w' i ⟨kb, w1, rfl, hB, cA, hw, oS⟩ hi' hli hpre
        have hi2 : i < 9 := hi'
        have hcase : i = 0 ∨ i = 1 ∨ i = 2 ∨ i = 3 ∨ i = 4 ∨ i = 5 ∨ i = 6 ∨ i = 7 ∨ i = 8 := by omega
        clear hi' hi2
        rcases hcase with rfl | rfl | rfl | rfl | rfl | rfl | rfl | rfl | rfl
        · -- 0: Op.load 58 (Operand.tmp 3)
          refine wpOp_step rfl (fun K' hK => ?_)
          have nS : l 8 = false := by
            cases h : l 8
            · rfl
            · have := oS h; simp [hli] at this
          rw [nS, cond_false] at hw
          subst hw
          clear hpre
          rw [if_pos (by rfl)]
          refine wp_load_mid 58 _ rfl _ 0 rfl (kl p.1 p.2) _ (Kbx.at_ (Blk.keep HB.out.1 hB)) Try.underlying58 rfl (by rw [kl_len]; exact size23) ?_
          exact hK _ _ ⟨kb, w', by simp [upd, Act.put], hB, (fun e0 => (cA (by simpa [upd] using e0))), by simp [upd, nS], (fun e => absurd e (by simp [upd, nS]))⟩
        · -- 1: Op.load 28 (Operand.tmp 4)
          refine wpOp_step rfl (fun K' hK => ?_)
          have nS : l 8 = false := by
            cases h : l 8
            · rfl
            · have := oS h; simp [hli] at this
          rw [nS, cond_false] at hw
          subst hw
          clear hpre
          rw [if_pos (by rfl)]
          refine wp_load_mid 28 _ rfl _ 0 rfl #[Value.int .u8 K, Value.int .i64 (d : Int), Value.int .i64 E, Value.int .u64 (P : Int), Value.int .u64 (Q : Int), Value.int .u64 (G : Int)].toList _ (Blk.range (Blk.keep HB.out.2.1 hB)) Try.underlying28 rfl sizeSch ?_
          exact hK _ _ ⟨kb, w', by simp [upd, Act.put], hB, (fun e0 => (cA (by simpa [upd] using e0))), by simp [upd, nS], (fun e => absurd e (by simp [upd, nS]))⟩
        · -- 2: Op.move (Operand.tmp 8)
          refine wpOp_step rfl (fun K' hK => ?_)
          have nS : l 8 = false := by
            cases h : l 8
            · rfl
            · have := oS h; simp [hli] at this
          rw [nS, cond_false] at hw
          subst hw
          clear hpre
          rw [if_pos (by rfl)]
          go_simp
          exact hK _ _ ⟨kb, w', by simp [upd, Act.put], hB, (fun e0 => (cA (by simpa [upd] using e0))), by simp [upd, nS], (fun e => absurd e (by simp [upd, nS]))⟩
        · -- 3: Op.move (Operand.tmp 9)
          refine wpOp_step rfl (fun K' hK => ?_)
          have nS : l 8 = false := by
            cases h : l 8
            · rfl
            · have := oS h; simp [hli] at this
          rw [nS, cond_false] at hw
          subst hw
          clear hpre
          rw [if_pos (by rfl)]
          go_simp
          exact hK _ _ ⟨kb, w', by simp [upd, Act.put], hB, (fun e0 => (cA (by simpa [upd] using e0))), by simp [upd, nS], (fun e => absurd e (by simp [upd, nS]))⟩
        · -- 4: Op.indexAddr 39 (Operand.tmp 24) (Operand.tmp 25)
          have p2 : l 2 = true := hpre _ rfl ⟨2, .data⟩ (by simp) rfl
          have p3 : l 3 = true := hpre _ rfl ⟨3, .data⟩ (by simp) rfl
          refine wpOp_step rfl (fun K' hK => ?_)
          have nS : l 8 = false := by
            cases h : l 8
            · rfl
            · have := oS h; simp [hli] at this
          rw [nS, cond_false] at hw
          subst hw
          simp only [p2, p3, cond_true, cond_false]
          clear hpre
          rw [if_pos (by rfl)]
          go_simp
          exact hK _ _ ⟨kb, w', by simp [upd, Act.put, p2, p3], hB, (fun e0 => (cA (by simpa [upd] using e0))), by simp [upd, nS], (fun e => absurd e (by simp [upd, nS]))⟩
        · -- 5: Op.load 35 (Operand.tmp 26)
          have p4 : l 4 = true := hpre _ rfl ⟨4, .data⟩ (by simp) rfl
          refine wpOp_step rfl (fun K' hK => ?_)
          have nS : l 8 = false := by
            cases h : l 8
            · rfl
            · have := oS h; simp [hli] at this
          rw [nS, cond_false] at hw
          subst hw
          simp only [p4, cond_true, cond_false]
          clear hpre
          rw [if_pos (by rfl)]
          have gc := HGc.out _ (Blk.keep HB.out.2.2.2.2 hB)
          have g0 := gc.1
          have g1 := gc.2
          clear gc
          go_simp
          exact hK _ _ ⟨kb, w', by simp [upd, Act.put, p4], hB, (fun e0 => (cA (by simpa [upd] using e0))), by simp [upd, nS], (fun e => absurd e (by simp [upd, nS]))⟩
        · -- 6: Op.call { callee := Callee.value (Operand.func 99), args := 
          have p0 : l 0 = true := hpre _ rfl ⟨0, .data⟩ (by simp) rfl
          have p1 : l 1 = true := hpre _ rfl ⟨1, .data⟩ (by simp) rfl
          have p5 : l 5 = true := hpre _ rfl ⟨5, .data⟩ (by simp) rfl
          refine wpOp_step rfl (fun K' hK => ?_)
          have nS : l 8 = false := by
            cases h : l 8
            · rfl
            · have := oS h; simp [hli] at this
          rw [nS, cond_false] at hw
          subst hw
          simp only [p0, p1, p5, cond_true, cond_false]
          clear hpre
          rw [if_pos (by rfl)]
          go_simp
          refine (HKk.out _).mono ?_
          rintro e w5 ⟨rfl, hb5⟩
          exact hK _ _ ⟨kb, w5, by simp [upd, Act.put, p0, p1, p5], hB.trans (hb5.mono hB.size), (fun e0 => ⟨((cA (by simpa [upd] using e0))).1, Blk.keep ((cA (by simpa [upd] using e0))).2 hb5⟩), by simp [upd, nS], (fun e => absurd e (by simp [upd, nS]))⟩
        · -- 7: Op.alloc 58
          refine wpOp_step rfl (fun K' hK => ?_)
          have nS : l 8 = false := by
            cases h : l 8
            · rfl
            · have := oS h; simp [hli] at this
          rw [nS, cond_false] at hw
          subst hw
          clear hpre
          rw [if_pos (by rfl)]
          go_simp
          exact hK _ _ ⟨w'.heap.size, w'.alloc (.cells z16 58), by simp [upd, Act.put], hB.trans ((below_alloc _ _).mono hB.size), (fun _ => ⟨hB.size, Blk.new w' _ 58⟩), by simp [upd, nS], (fun e => absurd e (by simp [upd, nS]))⟩
        · -- 8: Op.store 58 (Operand.tmp 10) (Operand.tmp 28)
          have p7 : l 7 = true := hpre _ rfl ⟨7, .data⟩ (by simp) rfl
          have p6 : l 6 = true := hpre _ rfl ⟨6, .data⟩ (by simp) rfl
          have p0 : l 0 = true := hpre _ rfl ⟨0, .phase⟩ (by simp) rfl
          have p1 : l 1 = true := hpre _ rfl ⟨1, .phase⟩ (by simp) rfl
          have p2 : l 2 = true := hpre _ rfl ⟨2, .phase⟩ (by simp) rfl
          have p3 : l 3 = true := hpre _ rfl ⟨3, .phase⟩ (by simp) rfl
          have p4 : l 4 = true := hpre _ rfl ⟨4, .phase⟩ (by simp) rfl
          have p5 : l 5 = true := hpre _ rfl ⟨5, .phase⟩ (by simp) rfl
          refine wpOp_step rfl (fun K' hK => ?_)
          have nS : l 8 = false := hli
          rw [nS, cond_false] at hw
          subst hw
          simp only [p7, p6, p0, p1, p2, p3, p4, p5, cond_true, cond_false]
          clear hpre
          rw [if_pos (by rfl)]
          have hA := cA p7
          refine wp_store_mid 58 _ _ rfl kb 0 (kl qk.1 qk.2).toArray rfl rfl (by have h := hA.2.there; simpa [kl_len] using h) (by simp [kl_len, size23]) (kl_arr _ _) ?_
          rw [List.toList_toArray]
          exact hK _ _ ⟨kb, w', by simp [upd, Act.put, p7, p6, p0, p1, p2, p3, p4, p5], hB, (fun e0 => (cA (by simpa [upd] using e0))), by simp [upd], (fun _ => by simp [upd, p7, p6, p0, p1, p2, p3, p4, p5])⟩
      · rintro l a' w9 hall ⟨kb, w1, rfl, hB, cA, hw, oS⟩
        rw [hall 8 (by decide), cond_true] at hw
        subst hw
        replace cA := cA (hall 7 (by decide))
        simp only [hall 0 (by decide), hall 1 (by decide), hall 2 (by decide), hall 3 (by decide), hall 4 (by decide), hall 5 (by decide), hall 6 (by decide), hall 7 (by decide), cond_true]
        clear hall oS
        obtain ⟨W8, hW8⟩ : ∃ W8, W8 = w1.setCells kb 0 (kl qk.1 qk.2) := ⟨_, rfl⟩
        have b8 : Below wr.heap.size wr W8 := by rw [hW8]; exact below_setCells _ _ _ _ hB cA.1
        have k8 : Kbx W8 kb qk := by rw [hW8]; exact Kbx.stored cA.2 z16_size qk
        have HKB : Hid (wr.heap.size ≤ kb) := Lib.hid cA.1
        have HB8 := Lib.hid b8
        have HK8 := Lib.hid k8
        rw [← hW8]
        have gc := HGc.out _ (HB.out.2.2.2.2.keep b8)
        have g1 := gc.2
        clear hW8 b8 k8 hB cA gc
        by_cases hb0 : b = 0
        · have hbb : ((b : Int) != 0) = false := by simp [hb0]
          have HQ : Hid (qk = q) := Lib.hid (HSame.out hb0)
          clear hb0
          go_wp2_with fail
          clear g1
          have HO9 : Hid (W8.ownsRow N 70 18 v k xs) := Lib.hid (own_below HO.out HB8.out)
          have F9 : Hid (Kbx W8 N p ∧ Blk W8 (N + 1) #[.int .u8 K, .int .i64 (d : Int), .int .i64 E, .int .u64 (P : Int), .int .u64 (Q : Int), .int .u64 (G : Int)] 28 ∧ Blk W8 (N + 2) (sc4 0 (.slice none 0 0)) 63 ∧ Blk W8 sb (sc4 (r : Int) v) 63 ∧ Blk W8 g cur 35 ∧ Kbx W8 kb qk) := Lib.hid ⟨Blk.keep HB.out.1 HB8.out, HB.out.2.1.keep HB8.out, HB.out.2.2.1.keep HB8.out, HB.out.2.2.2.1.keep HB8.out, HB.out.2.2.2.2.keep HB8.out, HK8.out⟩
          have HS9 : Hid (Below N w W8 ∧ sb + 1 ≤ W8.heap.size ∧ N ≤ W8.heap.size) := Lib.hid ⟨HS.out.1.trans (HB8.out.mono HNw.out), Nat.le_trans HS.out.2 HB8.out.size, Nat.le_trans HNw.out HB8.out.size⟩
          obtain ⟨i0, hi, hz0, hz1, hz2⟩ := info_parts infoLab
          have HI := Lib.hid (And.intro hi (And.intro hz0 (And.intro hz1 hz2)))
          clear hi hz0 hz1 hz2
          refine wp_region_inv (by kernel_rfl) (by kernel_rfl) (fun l a' w' => ∃ (v2 : Value) (gb : Nat) (w1 : World), a' = { tmps := #[Value.agg (kl p.fst p.snd).toArray, Value.agg #[Value.int IntKind.u8 K, Value.int IntKind.i64 d, Value.int IntKind.i64 E, Value.int IntKind.u64 P, Value.int IntKind.u64 Q, Value.int IntKind.u64 G], Value.int .i64 (r : Int), Value.pointer (some ⟨N, 0, none⟩), Value.pointer (some ⟨N + 1, 0, none⟩), undef, Value.pointer (some ⟨N + 2, 0, none⟩), Value.pointer (some ⟨sb, 0, none⟩), Value.slice (some ⟨g, 0, none⟩) n cg, Value.int .i64 (k : Int), Value.pointer (some ⟨kb, 0, none⟩), Value.int .i64 (r : Int), Value.agg #[Value.int IntKind.i64 r, Value.slice none 0 0, Value.int IntKind.u64 0, Value.int IntKind.u64 0], Value.agg #[Value.int IntKind.u8 K, Value.int IntKind.i64 d, Value.int IntKind.i64 E, Value.int IntKind.u64 P, Value.int IntKind.u64 Q, Value.int IntKind.u64 G], Value.int .i64 (r : Int), Value.slice (some ⟨g, 0, none⟩) n cg, Value.int .i64 (k : Int), Value.slice (some ⟨g, 0, none⟩) n cg, Value.int .i64 (n : Int), Value.bool true, u20, u21, Value.agg (kl p.fst p.snd).toArray, Value.agg #[Value.int IntKind.u8 K, Value.int IntKind.i64 d, Value.int IntKind.i64 E, Value.int IntKind.u64 P, Value.int IntKind.u64 Q, Value.int IntKind.u64 G], Value.slice (some ⟨g, 0, none⟩) n cg, Value.int .i64 (k : Int), Value.pointer (some ⟨g, k * 2, none⟩), Value.agg #[Value.int IntKind.i64 a, Value.int IntKind.i64 b], Value.agg (kl qk.fst qk.snd).toArray, Value.slice (some ⟨g, 0, none⟩) n cg, Value.int .i64 (k : Int), Value.pointer (some ⟨g, k * 2, none⟩), Value.pointer (some ⟨g, k * 2 + 1, none⟩), Value.int .i64 (b : Int), Value.bool false, u35, u36, u37, u38, u39, u40, u41, u42, u43, u44, u45, u46, bif l 0 then Value.pointer (some ⟨sb, 1, none⟩) else u47, bif l 1 then v else u48, bif l 2 then Value.slice (some ⟨g, 0, none⟩) n cg else u49, bif l 3 then Value.int .i64 (k : Int) else u50, bif l 4 then Value.pointer (some ⟨g, k * 2, none⟩) else u51, bif l 5 then Value.pointer (some ⟨g, k * 2, none⟩) else u52, bif l 6 then Value.int .i64 (a : Int) else u53, bif l 7 then Value.slice (some ⟨g, 0, none⟩) n cg else u54, bif l 8 then Value.int .i64 (k : Int) else u55, bif l 9 then Value.pointer (some ⟨g, k * 2, none⟩) else u56, bif l 10 then Value.pointer (some ⟨g, k * 2 + 1, none⟩) else u57, bif l 11 then Value.int .i64 (b : Int) else u58, bif l 12 then Value.agg (kl qk.1 qk.2).toArray else u59, bif l 13 then Value.agg (lbl (a : Int) (b : Int) qk).toArray else u60, bif l 14 then Value.slice (some ⟨gb, 0, none⟩) 1 1 else u61, bif l 15 then v2 else u62, bif l 16 then Value.pointer (some ⟨sb, 1, none⟩) else u63, undef], defers := [] } ∧ (W8.grownBy w1 v.ownBlock) ∧ (l 15 = false → w1.ownsRow N 70 18 v k xs) ∧ (l 14 = true → l 15 = false → Blk w1 gb (lbl (a : Int) (b : Int) qk).toArray 70) ∧ (l 15 = true → w1.ownsRow N 70 18 v2 (k + 1) (xs ++ (lbl (a : Int) (b : Int) qk))) ∧ w' = (bif l 17 then w1.setCell ⟨sb, 1, none⟩ v2 else w1) ∧ (l 17 = true → (l 0 && l 1 && l 2 && l 3 && l 4 && l 5 && l 6 && l 7 && l 8 && l 9 && l 10 && l 11 && l 12 && l 13 && l 14 && l 15 && l 16) = true)) ⟨v, 0, W8.drew, rfl, ⟨rfl, rfl, rfl, Nat.le_refl _, fun _ _ _ => rfl⟩, (fun _ => (HO9.out : W8.drew.ownsRow N 70 18 v k xs)), (fun h => by cases h), (fun h => by cases h), rfl, (fun h => by cases h)⟩ ?_ ?_
          · rintro l a' w' i ⟨v2, gb, w1, rfl, hG, cR, cS, cO, hw, oS⟩ hi' hli hpre
            have hi2 : i < 18 := hi'
            have hcase : i = 0 ∨ i = 1 ∨ i = 2 ∨ i = 3 ∨ i = 4 ∨ i = 5 ∨ i = 6 ∨ i = 7 ∨ i = 8 ∨ i = 9 ∨ i = 10 ∨ i = 11 ∨ i = 12 ∨ i = 13 ∨ i = 14 ∨ i = 15 ∨ i = 16 ∨ i = 17 := by omega
            clear hi' hi2
            rcases hcase with rfl | rfl | rfl | rfl | rfl | rfl | rfl | rfl | rfl | rfl | rfl | rfl | rfl | rfl | rfl | rfl | rfl | rfl
            · -- 0: Op.fieldAddr 63 (Operand.tmp 7) 1
              refine wpOp_step rfl (fun K' hK => ?_)
              have nS : l 17 = false := by
                cases h : l 17
                · rfl
                · have := oS h; simp [hli] at this
              rw [nS, cond_false] at hw
              subst hw
              clear hpre
              rw [if_pos (by rfl)]
              go_simp
              exact hK _ _ ⟨v2, gb, w', by simp [upd, Act.put], hG, (fun e0 => (cR (by simpa [upd] using e0))), (fun e0 e1 => (cS (by simpa [upd] using e0) (by simpa [upd] using e1))), (fun e0 => (cO (by simpa [upd] using e0))), by simp [upd, nS], (fun e => absurd e (by simp [upd, nS]))⟩
            · -- 1: Op.load 59 (Operand.tmp 47)
              have p0 : l 0 = true := hpre _ rfl ⟨0, .data⟩ (by simp) rfl
              refine wpOp_step rfl (fun K' hK => ?_)
              have nS : l 17 = false := by
                cases h : l 17
                · rfl
                · have := oS h; simp [hli] at this
              rw [nS, cond_false] at hw
              subst hw
              simp only [p0, cond_true, cond_false]
              clear hpre
              rw [if_pos (by rfl)]
              have z1 : w'.cell? ⟨sb, 1, none⟩ = some v := (Blk.grown F9.out.2.2.2.1 hG (Blk.apart F9.out.2.2.2.1 HO9.out (by decide))).cell 1
              go_simp
              exact hK _ _ ⟨v2, gb, w', by simp [upd, Act.put, p0], hG, (fun e0 => (cR (by simpa [upd] using e0))), (fun e0 e1 => (cS (by simpa [upd] using e0) (by simpa [upd] using e1))), (fun e0 => (cO (by simpa [upd] using e0))), by simp [upd, nS], (fun e => absurd e (by simp [upd, nS]))⟩
            · -- 2: Op.move (Operand.tmp 8)
              refine wpOp_step rfl (fun K' hK => ?_)
              have nS : l 17 = false := by
                cases h : l 17
                · rfl
                · have := oS h; simp [hli] at this
              rw [nS, cond_false] at hw
              subst hw
              clear hpre
              rw [if_pos (by rfl)]
              go_simp
              exact hK _ _ ⟨v2, gb, w', by simp [upd, Act.put], hG, (fun e0 => (cR (by simpa [upd] using e0))), (fun e0 e1 => (cS (by simpa [upd] using e0) (by simpa [upd] using e1))), (fun e0 => (cO (by simpa [upd] using e0))), by simp [upd, nS], (fun e => absurd e (by simp [upd, nS]))⟩
            · -- 3: Op.move (Operand.tmp 9)
              refine wpOp_step rfl (fun K' hK => ?_)
              have nS : l 17 = false := by
                cases h : l 17
                · rfl
                · have := oS h; simp [hli] at this
              rw [nS, cond_false] at hw
              subst hw
              clear hpre
              rw [if_pos (by rfl)]
              go_simp
              exact hK _ _ ⟨v2, gb, w', by simp [upd, Act.put], hG, (fun e0 => (cR (by simpa [upd] using e0))), (fun e0 e1 => (cS (by simpa [upd] using e0) (by simpa [upd] using e1))), (fun e0 => (cO (by simpa [upd] using e0))), by simp [upd, nS], (fun e => absurd e (by simp [upd, nS]))⟩
            · -- 4: Op.indexAddr 39 (Operand.tmp 49) (Operand.tmp 50)
              have p2 : l 2 = true := hpre _ rfl ⟨2, .data⟩ (by simp) rfl
              have p3 : l 3 = true := hpre _ rfl ⟨3, .data⟩ (by simp) rfl
              refine wpOp_step rfl (fun K' hK => ?_)
              have nS : l 17 = false := by
                cases h : l 17
                · rfl
                · have := oS h; simp [hli] at this
              rw [nS, cond_false] at hw
              subst hw
              simp only [p2, p3, cond_true, cond_false]
              clear hpre
              rw [if_pos (by rfl)]
              go_simp
              exact hK _ _ ⟨v2, gb, w', by simp [upd, Act.put, p2, p3], hG, (fun e0 => (cR (by simpa [upd] using e0))), (fun e0 e1 => (cS (by simpa [upd] using e0) (by simpa [upd] using e1))), (fun e0 => (cO (by simpa [upd] using e0))), by simp [upd, nS], (fun e => absurd e (by simp [upd, nS]))⟩
            · -- 5: Op.fieldAddr 35 (Operand.tmp 51) 0
              have p4 : l 4 = true := hpre _ rfl ⟨4, .data⟩ (by simp) rfl
              refine wpOp_step rfl (fun K' hK => ?_)
              have nS : l 17 = false := by
                cases h : l 17
                · rfl
                · have := oS h; simp [hli] at this
              rw [nS, cond_false] at hw
              subst hw
              simp only [p4, cond_true, cond_false]
              clear hpre
              rw [if_pos (by rfl)]
              go_simp
              exact hK _ _ ⟨v2, gb, w', by simp [upd, Act.put, p4], hG, (fun e0 => (cR (by simpa [upd] using e0))), (fun e0 e1 => (cS (by simpa [upd] using e0) (by simpa [upd] using e1))), (fun e0 => (cO (by simpa [upd] using e0))), by simp [upd, nS], (fun e => absurd e (by simp [upd, nS]))⟩
            · -- 6: Op.load 3 (Operand.tmp 52)
              have p5 : l 5 = true := hpre _ rfl ⟨5, .data⟩ (by simp) rfl
              refine wpOp_step rfl (fun K' hK => ?_)
              have nS : l 17 = false := by
                cases h : l 17
                · rfl
                · have := oS h; simp [hli] at this
              rw [nS, cond_false] at hw
              subst hw
              simp only [p5, cond_true, cond_false]
              clear hpre
              rw [if_pos (by rfl)]
              have gc := HGc.out _ (Blk.grown F9.out.2.2.2.2.1 hG (Blk.apart F9.out.2.2.2.2.1 HO9.out (by decide)))
              have g0 := gc.1
              have g1 := gc.2
              clear gc
              go_simp
              exact hK _ _ ⟨v2, gb, w', by simp [upd, Act.put, p5], hG, (fun e0 => (cR (by simpa [upd] using e0))), (fun e0 e1 => (cS (by simpa [upd] using e0) (by simpa [upd] using e1))), (fun e0 => (cO (by simpa [upd] using e0))), by simp [upd, nS], (fun e => absurd e (by simp [upd, nS]))⟩
            · -- 7: Op.move (Operand.tmp 8)
              refine wpOp_step rfl (fun K' hK => ?_)
              have nS : l 17 = false := by
                cases h : l 17
                · rfl
                · have := oS h; simp [hli] at this
              rw [nS, cond_false] at hw
              subst hw
              clear hpre
              rw [if_pos (by rfl)]
              go_simp
              exact hK _ _ ⟨v2, gb, w', by simp [upd, Act.put], hG, (fun e0 => (cR (by simpa [upd] using e0))), (fun e0 e1 => (cS (by simpa [upd] using e0) (by simpa [upd] using e1))), (fun e0 => (cO (by simpa [upd] using e0))), by simp [upd, nS], (fun e => absurd e (by simp [upd, nS]))⟩
            · -- 8: Op.move (Operand.tmp 9)
              refine wpOp_step rfl (fun K' hK => ?_)
              have nS : l 17 = false := by
                cases h : l 17
                · rfl
                · have := oS h; simp [hli] at this
              rw [nS, cond_false] at hw
              subst hw
              clear hpre
              rw [if_pos (by rfl)]
              go_simp
              exact hK _ _ ⟨v2, gb, w', by simp [upd, Act.put], hG, (fun e0 => (cR (by simpa [upd] using e0))), (fun e0 e1 => (cS (by simpa [upd] using e0) (by simpa [upd] using e1))), (fun e0 => (cO (by simpa [upd] using e0))), by simp [upd, nS], (fun e => absurd e (by simp [upd, nS]))⟩
            · -- 9: Op.indexAddr 39 (Operand.tmp 54) (Operand.tmp 55)
              have p7 : l 7 = true := hpre _ rfl ⟨7, .data⟩ (by simp) rfl
              have p8 : l 8 = true := hpre _ rfl ⟨8, .data⟩ (by simp) rfl
              refine wpOp_step rfl (fun K' hK => ?_)
              have nS : l 17 = false := by
                cases h : l 17
                · rfl
                · have := oS h; simp [hli] at this
              rw [nS, cond_false] at hw
              subst hw
              simp only [p7, p8, cond_true, cond_false]
              clear hpre
              rw [if_pos (by rfl)]
              go_simp
              exact hK _ _ ⟨v2, gb, w', by simp [upd, Act.put, p7, p8], hG, (fun e0 => (cR (by simpa [upd] using e0))), (fun e0 e1 => (cS (by simpa [upd] using e0) (by simpa [upd] using e1))), (fun e0 => (cO (by simpa [upd] using e0))), by simp [upd, nS], (fun e => absurd e (by simp [upd, nS]))⟩
            · -- 10: Op.fieldAddr 35 (Operand.tmp 56) 1
              have p9 : l 9 = true := hpre _ rfl ⟨9, .data⟩ (by simp) rfl
              refine wpOp_step rfl (fun K' hK => ?_)
              have nS : l 17 = false := by
                cases h : l 17
                · rfl
                · have := oS h; simp [hli] at this
              rw [nS, cond_false] at hw
              subst hw
              simp only [p9, cond_true, cond_false]
              clear hpre
              rw [if_pos (by rfl)]
              go_simp
              exact hK _ _ ⟨v2, gb, w', by simp [upd, Act.put, p9], hG, (fun e0 => (cR (by simpa [upd] using e0))), (fun e0 e1 => (cS (by simpa [upd] using e0) (by simpa [upd] using e1))), (fun e0 => (cO (by simpa [upd] using e0))), by simp [upd, nS], (fun e => absurd e (by simp [upd, nS]))⟩
            · -- 11: Op.load 3 (Operand.tmp 57)
              have p10 : l 10 = true := hpre _ rfl ⟨10, .data⟩ (by simp) rfl
              refine wpOp_step rfl (fun K' hK => ?_)
              have nS : l 17 = false := by
                cases h : l 17
                · rfl
                · have := oS h; simp [hli] at this
              rw [nS, cond_false] at hw
              subst hw
              simp only [p10, cond_true, cond_false]
              clear hpre
              rw [if_pos (by rfl)]
              have gc := HGc.out _ (Blk.grown F9.out.2.2.2.2.1 hG (Blk.apart F9.out.2.2.2.2.1 HO9.out (by decide)))
              have g0 := gc.1
              have g1 := gc.2
              clear gc
              go_simp
              exact hK _ _ ⟨v2, gb, w', by simp [upd, Act.put, p10], hG, (fun e0 => (cR (by simpa [upd] using e0))), (fun e0 e1 => (cS (by simpa [upd] using e0) (by simpa [upd] using e1))), (fun e0 => (cO (by simpa [upd] using e0))), by simp [upd, nS], (fun e => absurd e (by simp [upd, nS]))⟩
            · -- 12: Op.load 58 (Operand.tmp 10)
              refine wpOp_step rfl (fun K' hK => ?_)
              have nS : l 17 = false := by
                cases h : l 17
                · rfl
                · have := oS h; simp [hli] at this
              rw [nS, cond_false] at hw
              subst hw
              clear hpre
              rw [if_pos (by rfl)]
              refine wp_load_mid 58 _ rfl _ 0 rfl (kl qk.1 qk.2) _ (Kbx.at_ (Blk.grown F9.out.2.2.2.2.2 hG (Blk.apart F9.out.2.2.2.2.2 HO9.out (by decide)))) Try.underlying58 rfl (by rw [kl_len]; exact size23) ?_
              exact hK _ _ ⟨v2, gb, w', by simp [upd, Act.put], hG, (fun e0 => (cR (by simpa [upd] using e0))), (fun e0 e1 => (cS (by simpa [upd] using e0) (by simpa [upd] using e1))), (fun e0 => (cO (by simpa [upd] using e0))), by simp [upd, nS], (fun e => absurd e (by simp [upd, nS]))⟩
            · -- 13: Op.build 70 #[(0, Operand.tmp 53), (1, Operand.tmp 58), (2, 
              have p6 : l 6 = true := hpre _ rfl ⟨6, .data⟩ (by simp) rfl
              have p11 : l 11 = true := hpre _ rfl ⟨11, .data⟩ (by simp) rfl
              have p12 : l 12 = true := hpre _ rfl ⟨12, .data⟩ (by simp) rfl
              refine wpOp_step rfl (fun K' hK => ?_)
              have nS : l 17 = false := by
                cases h : l 17
                · rfl
                · have := oS h; simp [hli] at this
              rw [nS, cond_false] at hw
              subst hw
              simp only [p6, p11, p12, cond_true, cond_false]
              clear hpre
              rw [if_pos (by rfl)]
              refine wp_buildLabK _ _ _ rfl (a : Int) (b : Int) qk rfl rfl rfl ?_
              exact hK _ _ ⟨v2, gb, w', by simp [upd, Act.put, p6, p11, p12], hG, (fun e0 => (cR (by simpa [upd] using e0))), (fun e0 e1 => (cS (by simpa [upd] using e0) (by simpa [upd] using e1))), (fun e0 => (cO (by simpa [upd] using e0))), by simp [upd, nS], (fun e => absurd e (by simp [upd, nS]))⟩
            · -- 14: Op.buildSlice 59 1 #[(0, Operand.tmp 60)]
              have p13 : l 13 = true := hpre _ rfl ⟨13, .data⟩ (by simp) rfl
              refine wpOp_step rfl (fun K' hK => ?_)
              have nS : l 17 = false := by
                cases h : l 17
                · rfl
                · have := oS h; simp [hli] at this
              rw [nS, cond_false] at hw
              subst hw
              simp only [p13, cond_true, cond_false]
              clear hpre
              rw [if_pos (by rfl)]
              refine wp_buildSlice1 _ rfl rfl ?_
              exact hK _ _ ⟨v2, w'.heap.size, w'.alloc (.cells (lbl (a : Int) (b : Int) qk).toArray 70), by simp [upd, Act.put, p13], grownBy_below hG (below_alloc _ _), (fun e0 => own_below ((cR (by simpa [upd] using e0))) (below_alloc _ _)), (fun _ _ => Blk.new w' _ 70), (fun e0 => own_below ((cO (by simpa [upd] using e0))) (below_alloc _ _)), by simp [upd, nS], (fun e => absurd e (by simp [upd, nS]))⟩
            · -- 15: Op.call { callee := Callee.builtin Builtin.append, args := #
              have p1 : l 1 = true := hpre _ rfl ⟨1, .data⟩ (by simp) rfl
              have p14 : l 14 = true := hpre _ rfl ⟨14, .data⟩ (by simp) rfl
              refine wpOp_step rfl (fun K' hK => ?_)
              have nS : l 17 = false := by
                cases h : l 17
                · rfl
                · have := oS h; simp [hli] at this
              rw [nS, cond_false] at hw
              subst hw
              have n15 : l 15 = false := hli
              have hBk := cS p14 n15
              simp only [p1, p14, cond_true, cond_false]
              clear hpre
              rw [if_pos (by rfl)]
              refine wp_append_own _ _ _ 59 rfl N 70 i0 _ 18 32 Try.underlying59 HI.out.1 HI.out.2.1 HI.out.2.2.1 HI.out.2.2.2 rfl (by omega) v k xs rfl (cR n15) ⟨gb, 0, none⟩ 1 1 (lbl (a : Int) (b : Int) qk) rfl (by rw [lbl_len]) (fun j u hu => by rw [Addr.add_mid, Nat.zero_add, hBk.cell j]; simpa using hu) (lbl_one _ _ _) (by unfold maxLen; omega) (by omega) (Nat.le_trans HS9.out.2.2 hG.size) ?_
              intro v1 w6 hown6 hg6 _
              exact hK _ _ ⟨v1, gb, w6, by simp [upd, Act.put, p1, p14], grownBy_trans hG hg6, (fun e0 => absurd e0 (by simp [upd])), (fun e0 e1 => absurd e1 (by simp [upd])), (fun _ => hown6), by simp [upd, nS], (fun e => absurd e (by simp [upd, nS]))⟩
            · -- 16: Op.fieldAddr 63 (Operand.tmp 7) 1
              have p0 : l 0 = true := hpre _ rfl ⟨0, .phase⟩ (by simp) rfl
              have p1 : l 1 = true := hpre _ rfl ⟨1, .phase⟩ (by simp) rfl
              have p2 : l 2 = true := hpre _ rfl ⟨2, .phase⟩ (by simp) rfl
              have p3 : l 3 = true := hpre _ rfl ⟨3, .phase⟩ (by simp) rfl
              have p4 : l 4 = true := hpre _ rfl ⟨4, .phase⟩ (by simp) rfl
              have p5 : l 5 = true := hpre _ rfl ⟨5, .phase⟩ (by simp) rfl
              have p6 : l 6 = true := hpre _ rfl ⟨6, .phase⟩ (by simp) rfl
              have p7 : l 7 = true := hpre _ rfl ⟨7, .phase⟩ (by simp) rfl
              have p8 : l 8 = true := hpre _ rfl ⟨8, .phase⟩ (by simp) rfl
              have p9 : l 9 = true := hpre _ rfl ⟨9, .phase⟩ (by simp) rfl
              have p10 : l 10 = true := hpre _ rfl ⟨10, .phase⟩ (by simp) rfl
              have p11 : l 11 = true := hpre _ rfl ⟨11, .phase⟩ (by simp) rfl
              have p12 : l 12 = true := hpre _ rfl ⟨12, .phase⟩ (by simp) rfl
              have p13 : l 13 = true := hpre _ rfl ⟨13, .phase⟩ (by simp) rfl
              have p14 : l 14 = true := hpre _ rfl ⟨14, .phase⟩ (by simp) rfl
              have p15 : l 15 = true := hpre _ rfl ⟨15, .phase⟩ (by simp) rfl
              refine wpOp_step rfl (fun K' hK => ?_)
              have nS : l 17 = false := by
                cases h : l 17
                · rfl
                · have := oS h; simp [hli] at this
              rw [nS, cond_false] at hw
              subst hw
              simp only [p0, p1, p2, p3, p4, p5, p6, p7, p8, p9, p10, p11, p12, p13, p14, p15, cond_true, cond_false]
              clear hpre
              rw [if_pos (by rfl)]
              go_simp
              exact hK _ _ ⟨v2, gb, w', by simp [upd, Act.put, p0, p1, p2, p3, p4, p5, p6, p7, p8, p9, p10, p11, p12, p13, p14, p15], hG, (fun e0 => (cR (by simpa [upd] using e0))), (fun e0 e1 => (cS (by simpa [upd] using e0) (by simpa [upd] using e1))), (fun e0 => (cO (by simpa [upd] using e0))), by simp [upd, nS], (fun e => absurd e (by simp [upd, nS]))⟩
            · -- 17: Op.store 59 (Operand.tmp 63) (Operand.tmp 62)
              have p16 : l 16 = true := hpre _ rfl ⟨16, .data⟩ (by simp) rfl
              have p15 : l 15 = true := hpre _ rfl ⟨15, .data⟩ (by simp) rfl
              have p0 : l 0 = true := hpre _ rfl ⟨0, .phase⟩ (by simp) rfl
              have p1 : l 1 = true := hpre _ rfl ⟨1, .phase⟩ (by simp) rfl
              have p2 : l 2 = true := hpre _ rfl ⟨2, .phase⟩ (by simp) rfl
              have p3 : l 3 = true := hpre _ rfl ⟨3, .phase⟩ (by simp) rfl
              have p4 : l 4 = true := hpre _ rfl ⟨4, .phase⟩ (by simp) rfl
              have p5 : l 5 = true := hpre _ rfl ⟨5, .phase⟩ (by simp) rfl
              have p6 : l 6 = true := hpre _ rfl ⟨6, .phase⟩ (by simp) rfl
              have p7 : l 7 = true := hpre _ rfl ⟨7, .phase⟩ (by simp) rfl
              have p8 : l 8 = true := hpre _ rfl ⟨8, .phase⟩ (by simp) rfl
              have p9 : l 9 = true := hpre _ rfl ⟨9, .phase⟩ (by simp) rfl
              have p10 : l 10 = true := hpre _ rfl ⟨10, .phase⟩ (by simp) rfl
              have p11 : l 11 = true := hpre _ rfl ⟨11, .phase⟩ (by simp) rfl
              have p12 : l 12 = true := hpre _ rfl ⟨12, .phase⟩ (by simp) rfl
              have p13 : l 13 = true := hpre _ rfl ⟨13, .phase⟩ (by simp) rfl
              have p14 : l 14 = true := hpre _ rfl ⟨14, .phase⟩ (by simp) rfl
              refine wpOp_step rfl (fun K' hK => ?_)
              have nS : l 17 = false := hli
              rw [nS, cond_false] at hw
              subst hw
              simp only [p16, p15, p0, p1, p2, p3, p4, p5, p6, p7, p8, p9, p10, p11, p12, p13, p14, cond_true, cond_false]
              clear hpre
              rw [if_pos (by rfl)]
              have hS3 := (Blk.grown F9.out.2.2.2.1 hG (Blk.apart F9.out.2.2.2.1 HO9.out (by decide)))
              have z1 : w'.cell? ⟨sb, 1, none⟩ = some v := hS3.cell 1
              have z2 := hS3.fr 1
              have c6 := cO p15
              obtain ⟨A6, d6, hv6⟩ := own_val c6
              subst hv6
              go_simp
              exact hK _ _ ⟨_, gb, w', by simp [upd, Act.put, p16, p15, p0, p1, p2, p3, p4, p5, p6, p7, p8, p9, p10, p11, p12, p13, p14], hG, (fun e0 => (cR (by simpa [upd] using e0))), (fun e0 e1 => (cS (by simpa [upd] using e0) (by simpa [upd] using e1))), (fun _ => c6), by simp [upd], (fun _ => by simp [upd, p16, p15, p0, p1, p2, p3, p4, p5, p6, p7, p8, p9, p10, p11, p12, p13, p14])⟩
          · rintro l a' w9 hall ⟨v2, gb, w1, rfl, hG, cR, cS, cO, hw, oS⟩
            rw [hall 17 (by decide), cond_true] at hw
            subst hw
            clear cR
            clear cS
            replace cO := cO (hall 15 (by decide))
            simp only [hall 0 (by decide), hall 1 (by decide), hall 2 (by decide), hall 3 (by decide), hall 4 (by decide), hall 5 (by decide), hall 6 (by decide), hall 7 (by decide), hall 8 (by decide), hall 9 (by decide), hall 10 (by decide), hall 11 (by decide), hall 12 (by decide), hall 13 (by decide), hall 14 (by decide), hall 15 (by decide), hall 16 (by decide), cond_true]
            clear hall oS
            have H9 := Lib.hid (app_sec F9.out.2.2.2.1 HO9.out hG cO HS9.out.2.2 (by have := HSB.out.2; omega))
            obtain ⟨Wz, hWz⟩ : ∃ Wz, Wz = w1.setCell ⟨sb, 1, none⟩ v2 := ⟨_, rfl⟩
            rw [← hWz] at H9
            rw [← hWz]
            clear hWz hG cO
            go_wp2_with fail
            go_roundw
            case rel =>
              obtain ⟨k1, k2, k4, k5⟩ := H9.out
              have q1 := HSB.out.2
              have q2 := HG7.out
              exact ⟨k + 1, v2, by omega, by go_num, Lib.hid (by rw [HSn.out]; rw [← HQ.out]; exact k2), Lib.hid ⟨k5 _ _ _ (by omega) (by decide) F9.out.1, k5 _ _ _ (by omega) (by decide) F9.out.2.1, k5 _ _ _ (by omega) (by decide) F9.out.2.2.1, k1, k5 _ _ _ (by omega) (by decide) F9.out.2.2.2.2.1⟩, Lib.hid ⟨HS9.out.1.trans k4, Nat.le_trans HS9.out.2.1 k4.size⟩⟩
            case measure => simp [intOf]; omega
        · have hbb : ((b : Int) != 0) = true := by simp; omega
          obtain ⟨hK, hlq⟩ := HSlab.out hb0
          have HLq : Hid (∀ w, Calls Try.prog 143 #[.agg (kl p.1 p.2).toArray, .int .i64 (a : Int), .int .i64 (b : Int)] w fun e w' => e = .returned (.agg (kl q.1 q.2).toArray) ∧ Below w.heap.size w w') := Lib.hid (fun w => by
            have h := HLk.out w hK hb0
            rw [hlq] at h; exact h)
          clear hb0 hK hlq
          go_wp2_with fail
          clear g1
          refine wp_region_inv (by kernel_rfl) (by kernel_rfl) (fun l a' w' => ∃  (w1 : World), a' = { tmps := #[Value.agg (kl p.fst p.snd).toArray, Value.agg #[Value.int IntKind.u8 K, Value.int IntKind.i64 d, Value.int IntKind.i64 E, Value.int IntKind.u64 P, Value.int IntKind.u64 Q, Value.int IntKind.u64 G], Value.int .i64 (r : Int), Value.pointer (some ⟨N, 0, none⟩), Value.pointer (some ⟨N + 1, 0, none⟩), undef, Value.pointer (some ⟨N + 2, 0, none⟩), Value.pointer (some ⟨sb, 0, none⟩), Value.slice (some ⟨g, 0, none⟩) n cg, Value.int .i64 (k : Int), Value.pointer (some ⟨kb, 0, none⟩), Value.int .i64 (r : Int), Value.agg #[Value.int IntKind.i64 r, Value.slice none 0 0, Value.int IntKind.u64 0, Value.int IntKind.u64 0], Value.agg #[Value.int IntKind.u8 K, Value.int IntKind.i64 d, Value.int IntKind.i64 E, Value.int IntKind.u64 P, Value.int IntKind.u64 Q, Value.int IntKind.u64 G], Value.int .i64 (r : Int), Value.slice (some ⟨g, 0, none⟩) n cg, Value.int .i64 (k : Int), Value.slice (some ⟨g, 0, none⟩) n cg, Value.int .i64 (n : Int), Value.bool true, u20, u21, Value.agg (kl p.fst p.snd).toArray, Value.agg #[Value.int IntKind.u8 K, Value.int IntKind.i64 d, Value.int IntKind.i64 E, Value.int IntKind.u64 P, Value.int IntKind.u64 Q, Value.int IntKind.u64 G], Value.slice (some ⟨g, 0, none⟩) n cg, Value.int .i64 (k : Int), Value.pointer (some ⟨g, k * 2, none⟩), Value.agg #[Value.int IntKind.i64 a, Value.int IntKind.i64 b], Value.agg (kl qk.fst qk.snd).toArray, Value.slice (some ⟨g, 0, none⟩) n cg, Value.int .i64 (k : Int), Value.pointer (some ⟨g, k * 2, none⟩), Value.pointer (some ⟨g, k * 2 + 1, none⟩), Value.int .i64 (b : Int), Value.bool true, bif l 0 then Value.agg (kl p.1 p.2).toArray else u35, bif l 1 then Value.slice (some ⟨g, 0, none⟩) n cg else u36, bif l 2 then Value.int .i64 (k : Int) else u37, bif l 3 then Value.pointer (some ⟨g, k * 2, none⟩) else u38, bif l 4 then Value.pointer (some ⟨g, k * 2, none⟩) else u39, bif l 5 then Value.int .i64 (a : Int) else u40, bif l 6 then Value.slice (some ⟨g, 0, none⟩) n cg else u41, bif l 7 then Value.int .i64 (k : Int) else u42, bif l 8 then Value.pointer (some ⟨g, k * 2, none⟩) else u43, bif l 9 then Value.pointer (some ⟨g, k * 2 + 1, none⟩) else u44, bif l 10 then Value.int .i64 (b : Int) else u45, bif l 11 then Value.agg (kl q.1 q.2).toArray else u46, u47, u48, u49, u50, u51, u52, u53, u54, u55, u56, u57, u58, u59, u60, u61, u62, u63, undef], defers := [] } ∧ (Below W8.heap.size W8 w1) ∧ w' = (bif l 12 then w1.setCells kb 0 (kl q.1 q.2) else w1) ∧ (l 12 = true → (l 0 && l 1 && l 2 && l 3 && l 4 && l 5 && l 6 && l 7 && l 8 && l 9 && l 10 && l 11) = true)) ⟨_, rfl, (Below.refl _ _).drew, rfl, (fun h => by cases h)⟩ ?_ ?_
          · rintro l a' w' i ⟨w1, rfl, hB, hw, oS⟩ hi' hli hpre
            have hi2 : i < 13 := hi'
            have hcase : i = 0 ∨ i = 1 ∨ i = 2 ∨ i = 3 ∨ i = 4 ∨ i = 5 ∨ i = 6 ∨ i = 7 ∨ i = 8 ∨ i = 9 ∨ i = 10 ∨ i = 11 ∨ i = 12 := by omega
            clear hi' hi2
            rcases hcase with rfl | rfl | rfl | rfl | rfl | rfl | rfl | rfl | rfl | rfl | rfl | rfl | rfl
            · -- 0: Op.load 58 (Operand.tmp 3)
              refine wpOp_step rfl (fun K' hK => ?_)
              have nS : l 12 = false := by
                cases h : l 12
                · rfl
                · have := oS h; simp [hli] at this
              rw [nS, cond_false] at hw
              subst hw
              clear hpre
              rw [if_pos (by rfl)]
              refine wp_load_mid 58 _ rfl _ 0 rfl (kl p.1 p.2) _ (Kbx.at_ (Blk.keep (Blk.keep HB.out.1 HB8.out) hB)) Try.underlying58 rfl (by rw [kl_len]; exact size23) ?_
              exact hK _ _ ⟨w', by simp [upd, Act.put], hB, by simp [upd, nS], (fun e => absurd e (by simp [upd, nS]))⟩
            · -- 1: Op.move (Operand.tmp 8)
              refine wpOp_step rfl (fun K' hK => ?_)
              have nS : l 12 = false := by
                cases h : l 12
                · rfl
                · have := oS h; simp [hli] at this
              rw [nS, cond_false] at hw
              subst hw
              clear hpre
              rw [if_pos (by rfl)]
              go_simp
              exact hK _ _ ⟨w', by simp [upd, Act.put], hB, by simp [upd, nS], (fun e => absurd e (by simp [upd, nS]))⟩
            · -- 2: Op.move (Operand.tmp 9)
              refine wpOp_step rfl (fun K' hK => ?_)
              have nS : l 12 = false := by
                cases h : l 12
                · rfl
                · have := oS h; simp [hli] at this
              rw [nS, cond_false] at hw
              subst hw
              clear hpre
              rw [if_pos (by rfl)]
              go_simp
              exact hK _ _ ⟨w', by simp [upd, Act.put], hB, by simp [upd, nS], (fun e => absurd e (by simp [upd, nS]))⟩
            · -- 3: Op.indexAddr 39 (Operand.tmp 36) (Operand.tmp 37)
              have p1 : l 1 = true := hpre _ rfl ⟨1, .data⟩ (by simp) rfl
              have p2 : l 2 = true := hpre _ rfl ⟨2, .data⟩ (by simp) rfl
              refine wpOp_step rfl (fun K' hK => ?_)
              have nS : l 12 = false := by
                cases h : l 12
                · rfl
                · have := oS h; simp [hli] at this
              rw [nS, cond_false] at hw
              subst hw
              simp only [p1, p2, cond_true, cond_false]
              clear hpre
              rw [if_pos (by rfl)]
              go_simp
              exact hK _ _ ⟨w', by simp [upd, Act.put, p1, p2], hB, by simp [upd, nS], (fun e => absurd e (by simp [upd, nS]))⟩
            · -- 4: Op.fieldAddr 35 (Operand.tmp 38) 0
              have p3 : l 3 = true := hpre _ rfl ⟨3, .data⟩ (by simp) rfl
              refine wpOp_step rfl (fun K' hK => ?_)
              have nS : l 12 = false := by
                cases h : l 12
                · rfl
                · have := oS h; simp [hli] at this
              rw [nS, cond_false] at hw
              subst hw
              simp only [p3, cond_true, cond_false]
              clear hpre
              rw [if_pos (by rfl)]
              go_simp
              exact hK _ _ ⟨w', by simp [upd, Act.put, p3], hB, by simp [upd, nS], (fun e => absurd e (by simp [upd, nS]))⟩
            · -- 5: Op.load 3 (Operand.tmp 39)
              have p4 : l 4 = true := hpre _ rfl ⟨4, .data⟩ (by simp) rfl
              refine wpOp_step rfl (fun K' hK => ?_)
              have nS : l 12 = false := by
                cases h : l 12
                · rfl
                · have := oS h; simp [hli] at this
              rw [nS, cond_false] at hw
              subst hw
              simp only [p4, cond_true, cond_false]
              clear hpre
              rw [if_pos (by rfl)]
              have gc := HGc.out _ (Blk.keep (Blk.keep HB.out.2.2.2.2 HB8.out) hB)
              have g0 := gc.1
              have g1 := gc.2
              clear gc
              go_simp
              exact hK _ _ ⟨w', by simp [upd, Act.put, p4], hB, by simp [upd, nS], (fun e => absurd e (by simp [upd, nS]))⟩
            · -- 6: Op.move (Operand.tmp 8)
              refine wpOp_step rfl (fun K' hK => ?_)
              have nS : l 12 = false := by
                cases h : l 12
                · rfl
                · have := oS h; simp [hli] at this
              rw [nS, cond_false] at hw
              subst hw
              clear hpre
              rw [if_pos (by rfl)]
              go_simp
              exact hK _ _ ⟨w', by simp [upd, Act.put], hB, by simp [upd, nS], (fun e => absurd e (by simp [upd, nS]))⟩
            · -- 7: Op.move (Operand.tmp 9)
              refine wpOp_step rfl (fun K' hK => ?_)
              have nS : l 12 = false := by
                cases h : l 12
                · rfl
                · have := oS h; simp [hli] at this
              rw [nS, cond_false] at hw
              subst hw
              clear hpre
              rw [if_pos (by rfl)]
              go_simp
              exact hK _ _ ⟨w', by simp [upd, Act.put], hB, by simp [upd, nS], (fun e => absurd e (by simp [upd, nS]))⟩
            · -- 8: Op.indexAddr 39 (Operand.tmp 41) (Operand.tmp 42)
              have p6 : l 6 = true := hpre _ rfl ⟨6, .data⟩ (by simp) rfl
              have p7 : l 7 = true := hpre _ rfl ⟨7, .data⟩ (by simp) rfl
              refine wpOp_step rfl (fun K' hK => ?_)
              have nS : l 12 = false := by
                cases h : l 12
                · rfl
                · have := oS h; simp [hli] at this
              rw [nS, cond_false] at hw
              subst hw
              simp only [p6, p7, cond_true, cond_false]
              clear hpre
              rw [if_pos (by rfl)]
              go_simp
              exact hK _ _ ⟨w', by simp [upd, Act.put, p6, p7], hB, by simp [upd, nS], (fun e => absurd e (by simp [upd, nS]))⟩
            · -- 9: Op.fieldAddr 35 (Operand.tmp 43) 1
              have p8 : l 8 = true := hpre _ rfl ⟨8, .data⟩ (by simp) rfl
              refine wpOp_step rfl (fun K' hK => ?_)
              have nS : l 12 = false := by
                cases h : l 12
                · rfl
                · have := oS h; simp [hli] at this
              rw [nS, cond_false] at hw
              subst hw
              simp only [p8, cond_true, cond_false]
              clear hpre
              rw [if_pos (by rfl)]
              go_simp
              exact hK _ _ ⟨w', by simp [upd, Act.put, p8], hB, by simp [upd, nS], (fun e => absurd e (by simp [upd, nS]))⟩
            · -- 10: Op.load 3 (Operand.tmp 44)
              have p9 : l 9 = true := hpre _ rfl ⟨9, .data⟩ (by simp) rfl
              refine wpOp_step rfl (fun K' hK => ?_)
              have nS : l 12 = false := by
                cases h : l 12
                · rfl
                · have := oS h; simp [hli] at this
              rw [nS, cond_false] at hw
              subst hw
              simp only [p9, cond_true, cond_false]
              clear hpre
              rw [if_pos (by rfl)]
              have gc := HGc.out _ (Blk.keep (Blk.keep HB.out.2.2.2.2 HB8.out) hB)
              have g0 := gc.1
              have g1 := gc.2
              clear gc
              go_simp
              exact hK _ _ ⟨w', by simp [upd, Act.put, p9], hB, by simp [upd, nS], (fun e => absurd e (by simp [upd, nS]))⟩
            · -- 11: Op.call { callee := Callee.value (Operand.func 143), args :=
              have p0 : l 0 = true := hpre _ rfl ⟨0, .data⟩ (by simp) rfl
              have p5 : l 5 = true := hpre _ rfl ⟨5, .data⟩ (by simp) rfl
              have p10 : l 10 = true := hpre _ rfl ⟨10, .data⟩ (by simp) rfl
              refine wpOp_step rfl (fun K' hK => ?_)
              have nS : l 12 = false := by
                cases h : l 12
                · rfl
                · have := oS h; simp [hli] at this
              rw [nS, cond_false] at hw
              subst hw
              simp only [p0, p5, p10, cond_true, cond_false]
              clear hpre
              rw [if_pos (by rfl)]
              go_simp
              refine (HLq.out _).mono ?_
              rintro e w5 ⟨rfl, hb5⟩
              exact hK _ _ ⟨w5, by simp [upd, Act.put, p0, p5, p10], hB.trans (hb5.mono hB.size), by simp [upd, nS], (fun e => absurd e (by simp [upd, nS]))⟩
            · -- 12: Op.store 58 (Operand.tmp 10) (Operand.tmp 46)
              have p11 : l 11 = true := hpre _ rfl ⟨11, .data⟩ (by simp) rfl
              have p0 : l 0 = true := hpre _ rfl ⟨0, .phase⟩ (by simp) rfl
              have p1 : l 1 = true := hpre _ rfl ⟨1, .phase⟩ (by simp) rfl
              have p2 : l 2 = true := hpre _ rfl ⟨2, .phase⟩ (by simp) rfl
              have p3 : l 3 = true := hpre _ rfl ⟨3, .phase⟩ (by simp) rfl
              have p4 : l 4 = true := hpre _ rfl ⟨4, .phase⟩ (by simp) rfl
              have p5 : l 5 = true := hpre _ rfl ⟨5, .phase⟩ (by simp) rfl
              have p6 : l 6 = true := hpre _ rfl ⟨6, .phase⟩ (by simp) rfl
              have p7 : l 7 = true := hpre _ rfl ⟨7, .phase⟩ (by simp) rfl
              have p8 : l 8 = true := hpre _ rfl ⟨8, .phase⟩ (by simp) rfl
              have p9 : l 9 = true := hpre _ rfl ⟨9, .phase⟩ (by simp) rfl
              have p10 : l 10 = true := hpre _ rfl ⟨10, .phase⟩ (by simp) rfl
              refine wpOp_step rfl (fun K' hK => ?_)
              have nS : l 12 = false := hli
              rw [nS, cond_false] at hw
              subst hw
              simp only [p11, p0, p1, p2, p3, p4, p5, p6, p7, p8, p9, p10, cond_true, cond_false]
              clear hpre
              rw [if_pos (by rfl)]
              refine wp_store_mid 58 _ _ rfl kb 0 (kl q.1 q.2).toArray rfl rfl (by have h := Kbx.there_ (Blk.keep HK8.out hB); simpa [kl_len] using h) (by simp [kl_len, size23]) (kl_arr _ _) ?_
              rw [List.toList_toArray]
              exact hK _ _ ⟨w', by simp [upd, Act.put, p11, p0, p1, p2, p3, p4, p5, p6, p7, p8, p9, p10], hB, by simp [upd], (fun _ => by simp [upd, p11, p0, p1, p2, p3, p4, p5, p6, p7, p8, p9, p10])⟩
          · rintro l a' w9 hall ⟨w1, rfl, hB, hw, oS⟩
            rw [hall 12 (by decide), cond_true] at hw
            subst hw
            simp only [hall 0 (by decide), hall 1 (by decide), hall 2 (by decide), hall 3 (by decide), hall 4 (by decide), hall 5 (by decide), hall 6 (by decide), hall 7 (by decide), hall 8 (by decide), hall 9 (by decide), hall 10 (by decide), hall 11 (by decide), cond_true]
            clear hall oS
            obtain ⟨W9, hW9⟩ : ∃ W9, W9 = w1.setCells kb 0 (kl q.1 q.2) := ⟨_, rfl⟩
            have hkr := HKB.out
            have b9 : Below wr.heap.size wr W9 := by rw [hW9]; exact below_setCells _ _ _ _ (HB8.out.trans (hB.mono HB8.out.size)) hkr
            have k9 : Kbx W9 kb q := by rw [hW9]; exact Kbx.stored (HK8.out.keep hB) Kbx.size q
            have HB9 := Lib.hid b9
            have HK9 := Lib.hid k9
            rw [← hW9]
            clear hW9 b9 k9 hB hkr
            go_wp2_with fail
            have HO9 : Hid (W9.ownsRow N 70 18 v k xs) := Lib.hid (own_below HO.out HB9.out)
            have F9 : Hid (Kbx W9 N p ∧ Blk W9 (N + 1) #[.int .u8 K, .int .i64 (d : Int), .int .i64 E, .int .u64 (P : Int), .int .u64 (Q : Int), .int .u64 (G : Int)] 28 ∧ Blk W9 (N + 2) (sc4 0 (.slice none 0 0)) 63 ∧ Blk W9 sb (sc4 (r : Int) v) 63 ∧ Blk W9 g cur 35 ∧ Kbx W9 kb q) := Lib.hid ⟨Blk.keep HB.out.1 HB9.out, HB.out.2.1.keep HB9.out, HB.out.2.2.1.keep HB9.out, HB.out.2.2.2.1.keep HB9.out, HB.out.2.2.2.2.keep HB9.out, HK9.out⟩
            have HS9 : Hid (Below N w W9 ∧ sb + 1 ≤ W9.heap.size ∧ N ≤ W9.heap.size) := Lib.hid ⟨HS.out.1.trans (HB9.out.mono HNw.out), Nat.le_trans HS.out.2 HB9.out.size, Nat.le_trans HNw.out HB9.out.size⟩
            obtain ⟨i0, hi, hz0, hz1, hz2⟩ := info_parts infoLab
            have HI := Lib.hid (And.intro hi (And.intro hz0 (And.intro hz1 hz2)))
            clear hi hz0 hz1 hz2
            refine wp_region_inv (by kernel_rfl) (by kernel_rfl) (fun l a' w' => ∃ (v2 : Value) (gb : Nat) (w1 : World), a' = { tmps := #[Value.agg (kl p.fst p.snd).toArray, Value.agg #[Value.int IntKind.u8 K, Value.int IntKind.i64 d, Value.int IntKind.i64 E, Value.int IntKind.u64 P, Value.int IntKind.u64 Q, Value.int IntKind.u64 G], Value.int .i64 (r : Int), Value.pointer (some ⟨N, 0, none⟩), Value.pointer (some ⟨N + 1, 0, none⟩), undef, Value.pointer (some ⟨N + 2, 0, none⟩), Value.pointer (some ⟨sb, 0, none⟩), Value.slice (some ⟨g, 0, none⟩) n cg, Value.int .i64 (k : Int), Value.pointer (some ⟨kb, 0, none⟩), Value.int .i64 (r : Int), Value.agg #[Value.int IntKind.i64 r, Value.slice none 0 0, Value.int IntKind.u64 0, Value.int IntKind.u64 0], Value.agg #[Value.int IntKind.u8 K, Value.int IntKind.i64 d, Value.int IntKind.i64 E, Value.int IntKind.u64 P, Value.int IntKind.u64 Q, Value.int IntKind.u64 G], Value.int .i64 (r : Int), Value.slice (some ⟨g, 0, none⟩) n cg, Value.int .i64 (k : Int), Value.slice (some ⟨g, 0, none⟩) n cg, Value.int .i64 (n : Int), Value.bool true, u20, u21, Value.agg (kl p.fst p.snd).toArray, Value.agg #[Value.int IntKind.u8 K, Value.int IntKind.i64 d, Value.int IntKind.i64 E, Value.int IntKind.u64 P, Value.int IntKind.u64 Q, Value.int IntKind.u64 G], Value.slice (some ⟨g, 0, none⟩) n cg, Value.int .i64 (k : Int), Value.pointer (some ⟨g, k * 2, none⟩), Value.agg #[Value.int IntKind.i64 a, Value.int IntKind.i64 b], Value.agg (kl qk.fst qk.snd).toArray, Value.slice (some ⟨g, 0, none⟩) n cg, Value.int .i64 (k : Int), Value.pointer (some ⟨g, k * 2, none⟩), Value.pointer (some ⟨g, k * 2 + 1, none⟩), Value.int .i64 (b : Int), Value.bool true, Value.agg (kl p.fst p.snd).toArray, Value.slice (some ⟨g, 0, none⟩) n cg, Value.int .i64 (k : Int), Value.pointer (some ⟨g, k * 2, none⟩), Value.pointer (some ⟨g, k * 2, none⟩), Value.int .i64 (a : Int), Value.slice (some ⟨g, 0, none⟩) n cg, Value.int .i64 (k : Int), Value.pointer (some ⟨g, k * 2, none⟩), Value.pointer (some ⟨g, k * 2 + 1, none⟩), Value.int .i64 (b : Int), Value.agg (kl q.fst q.snd).toArray, bif l 0 then Value.pointer (some ⟨sb, 1, none⟩) else u47, bif l 1 then v else u48, bif l 2 then Value.slice (some ⟨g, 0, none⟩) n cg else u49, bif l 3 then Value.int .i64 (k : Int) else u50, bif l 4 then Value.pointer (some ⟨g, k * 2, none⟩) else u51, bif l 5 then Value.pointer (some ⟨g, k * 2, none⟩) else u52, bif l 6 then Value.int .i64 (a : Int) else u53, bif l 7 then Value.slice (some ⟨g, 0, none⟩) n cg else u54, bif l 8 then Value.int .i64 (k : Int) else u55, bif l 9 then Value.pointer (some ⟨g, k * 2, none⟩) else u56, bif l 10 then Value.pointer (some ⟨g, k * 2 + 1, none⟩) else u57, bif l 11 then Value.int .i64 (b : Int) else u58, bif l 12 then Value.agg (kl q.1 q.2).toArray else u59, bif l 13 then Value.agg (lbl (a : Int) (b : Int) q).toArray else u60, bif l 14 then Value.slice (some ⟨gb, 0, none⟩) 1 1 else u61, bif l 15 then v2 else u62, bif l 16 then Value.pointer (some ⟨sb, 1, none⟩) else u63, undef], defers := [] } ∧ (W9.grownBy w1 v.ownBlock) ∧ (l 15 = false → w1.ownsRow N 70 18 v k xs) ∧ (l 14 = true → l 15 = false → Blk w1 gb (lbl (a : Int) (b : Int) q).toArray 70) ∧ (l 15 = true → w1.ownsRow N 70 18 v2 (k + 1) (xs ++ (lbl (a : Int) (b : Int) q))) ∧ w' = (bif l 17 then w1.setCell ⟨sb, 1, none⟩ v2 else w1) ∧ (l 17 = true → (l 0 && l 1 && l 2 && l 3 && l 4 && l 5 && l 6 && l 7 && l 8 && l 9 && l 10 && l 11 && l 12 && l 13 && l 14 && l 15 && l 16) = true)) ⟨v, 0, W9.drew, rfl, ⟨rfl, rfl, rfl, Nat.le_refl _, fun _ _ _ => rfl⟩, (fun _ => (HO9.out : W9.drew.ownsRow N 70 18 v k xs)), (fun h => by cases h), (fun h => by cases h), rfl, (fun h => by cases h)⟩ ?_ ?_
            · rintro l a' w' i ⟨v2, gb, w1, rfl, hG, cR, cS, cO, hw, oS⟩ hi' hli hpre
              have hi2 : i < 18 := hi'
              have hcase : i = 0 ∨ i = 1 ∨ i = 2 ∨ i = 3 ∨ i = 4 ∨ i = 5 ∨ i = 6 ∨ i = 7 ∨ i = 8 ∨ i = 9 ∨ i = 10 ∨ i = 11 ∨ i = 12 ∨ i = 13 ∨ i = 14 ∨ i = 15 ∨ i = 16 ∨ i = 17 := by omega
              clear hi' hi2
              rcases hcase with rfl | rfl | rfl | rfl | rfl | rfl | rfl | rfl | rfl | rfl | rfl | rfl | rfl | rfl | rfl | rfl | rfl | rfl
              · -- 0: Op.fieldAddr 63 (Operand.tmp 7) 1
                refine wpOp_step rfl (fun K' hK => ?_)
                have nS : l 17 = false := by
                  cases h : l 17
                  · rfl
                  · have := oS h; simp [hli] at this
                rw [nS, cond_false] at hw
                subst hw
                clear hpre
                rw [if_pos (by rfl)]
                go_simp
                exact hK _ _ ⟨v2, gb, w', by simp [upd, Act.put], hG, (fun e0 => (cR (by simpa [upd] using e0))), (fun e0 e1 => (cS (by simpa [upd] using e0) (by simpa [upd] using e1))), (fun e0 => (cO (by simpa [upd] using e0))), by simp [upd, nS], (fun e => absurd e (by simp [upd, nS]))⟩
              · -- 1: Op.load 59 (Operand.tmp 47)
                have p0 : l 0 = true := hpre _ rfl ⟨0, .data⟩ (by simp) rfl
                refine wpOp_step rfl (fun K' hK => ?_)
                have nS : l 17 = false := by
                  cases h : l 17
                  · rfl
                  · have := oS h; simp [hli] at this
                rw [nS, cond_false] at hw
                subst hw
                simp only [p0, cond_true, cond_false]
                clear hpre
                rw [if_pos (by rfl)]
                have z1 : w'.cell? ⟨sb, 1, none⟩ = some v := (Blk.grown F9.out.2.2.2.1 hG (Blk.apart F9.out.2.2.2.1 HO9.out (by decide))).cell 1
                go_simp
                exact hK _ _ ⟨v2, gb, w', by simp [upd, Act.put, p0], hG, (fun e0 => (cR (by simpa [upd] using e0))), (fun e0 e1 => (cS (by simpa [upd] using e0) (by simpa [upd] using e1))), (fun e0 => (cO (by simpa [upd] using e0))), by simp [upd, nS], (fun e => absurd e (by simp [upd, nS]))⟩
              · -- 2: Op.move (Operand.tmp 8)
                refine wpOp_step rfl (fun K' hK => ?_)
                have nS : l 17 = false := by
                  cases h : l 17
                  · rfl
                  · have := oS h; simp [hli] at this
                rw [nS, cond_false] at hw
                subst hw
                clear hpre
                rw [if_pos (by rfl)]
                go_simp
                exact hK _ _ ⟨v2, gb, w', by simp [upd, Act.put], hG, (fun e0 => (cR (by simpa [upd] using e0))), (fun e0 e1 => (cS (by simpa [upd] using e0) (by simpa [upd] using e1))), (fun e0 => (cO (by simpa [upd] using e0))), by simp [upd, nS], (fun e => absurd e (by simp [upd, nS]))⟩
              · -- 3: Op.move (Operand.tmp 9)
                refine wpOp_step rfl (fun K' hK => ?_)
                have nS : l 17 = false := by
                  cases h : l 17
                  · rfl
                  · have := oS h; simp [hli] at this
                rw [nS, cond_false] at hw
                subst hw
                clear hpre
                rw [if_pos (by rfl)]
                go_simp
                exact hK _ _ ⟨v2, gb, w', by simp [upd, Act.put], hG, (fun e0 => (cR (by simpa [upd] using e0))), (fun e0 e1 => (cS (by simpa [upd] using e0) (by simpa [upd] using e1))), (fun e0 => (cO (by simpa [upd] using e0))), by simp [upd, nS], (fun e => absurd e (by simp [upd, nS]))⟩
              · -- 4: Op.indexAddr 39 (Operand.tmp 49) (Operand.tmp 50)
                have p2 : l 2 = true := hpre _ rfl ⟨2, .data⟩ (by simp) rfl
                have p3 : l 3 = true := hpre _ rfl ⟨3, .data⟩ (by simp) rfl
                refine wpOp_step rfl (fun K' hK => ?_)
                have nS : l 17 = false := by
                  cases h : l 17
                  · rfl
                  · have := oS h; simp [hli] at this
                rw [nS, cond_false] at hw
                subst hw
                simp only [p2, p3, cond_true, cond_false]
                clear hpre
                rw [if_pos (by rfl)]
                go_simp
                exact hK _ _ ⟨v2, gb, w', by simp [upd, Act.put, p2, p3], hG, (fun e0 => (cR (by simpa [upd] using e0))), (fun e0 e1 => (cS (by simpa [upd] using e0) (by simpa [upd] using e1))), (fun e0 => (cO (by simpa [upd] using e0))), by simp [upd, nS], (fun e => absurd e (by simp [upd, nS]))⟩
              · -- 5: Op.fieldAddr 35 (Operand.tmp 51) 0
                have p4 : l 4 = true := hpre _ rfl ⟨4, .data⟩ (by simp) rfl
                refine wpOp_step rfl (fun K' hK => ?_)
                have nS : l 17 = false := by
                  cases h : l 17
                  · rfl
                  · have := oS h; simp [hli] at this
                rw [nS, cond_false] at hw
                subst hw
                simp only [p4, cond_true, cond_false]
                clear hpre
                rw [if_pos (by rfl)]
                go_simp
                exact hK _ _ ⟨v2, gb, w', by simp [upd, Act.put, p4], hG, (fun e0 => (cR (by simpa [upd] using e0))), (fun e0 e1 => (cS (by simpa [upd] using e0) (by simpa [upd] using e1))), (fun e0 => (cO (by simpa [upd] using e0))), by simp [upd, nS], (fun e => absurd e (by simp [upd, nS]))⟩
              · -- 6: Op.load 3 (Operand.tmp 52)
                have p5 : l 5 = true := hpre _ rfl ⟨5, .data⟩ (by simp) rfl
                refine wpOp_step rfl (fun K' hK => ?_)
                have nS : l 17 = false := by
                  cases h : l 17
                  · rfl
                  · have := oS h; simp [hli] at this
                rw [nS, cond_false] at hw
                subst hw
                simp only [p5, cond_true, cond_false]
                clear hpre
                rw [if_pos (by rfl)]
                have gc := HGc.out _ (Blk.grown F9.out.2.2.2.2.1 hG (Blk.apart F9.out.2.2.2.2.1 HO9.out (by decide)))
                have g0 := gc.1
                have g1 := gc.2
                clear gc
                go_simp
                exact hK _ _ ⟨v2, gb, w', by simp [upd, Act.put, p5], hG, (fun e0 => (cR (by simpa [upd] using e0))), (fun e0 e1 => (cS (by simpa [upd] using e0) (by simpa [upd] using e1))), (fun e0 => (cO (by simpa [upd] using e0))), by simp [upd, nS], (fun e => absurd e (by simp [upd, nS]))⟩
              · -- 7: Op.move (Operand.tmp 8)
                refine wpOp_step rfl (fun K' hK => ?_)
                have nS : l 17 = false := by
                  cases h : l 17
                  · rfl
                  · have := oS h; simp [hli] at this
                rw [nS, cond_false] at hw
                subst hw
                clear hpre
                rw [if_pos (by rfl)]
                go_simp
                exact hK _ _ ⟨v2, gb, w', by simp [upd, Act.put], hG, (fun e0 => (cR (by simpa [upd] using e0))), (fun e0 e1 => (cS (by simpa [upd] using e0) (by simpa [upd] using e1))), (fun e0 => (cO (by simpa [upd] using e0))), by simp [upd, nS], (fun e => absurd e (by simp [upd, nS]))⟩
              · -- 8: Op.move (Operand.tmp 9)
                refine wpOp_step rfl (fun K' hK => ?_)
                have nS : l 17 = false := by
                  cases h : l 17
                  · rfl
                  · have := oS h; simp [hli] at this
                rw [nS, cond_false] at hw
                subst hw
                clear hpre
                rw [if_pos (by rfl)]
                go_simp
                exact hK _ _ ⟨v2, gb, w', by simp [upd, Act.put], hG, (fun e0 => (cR (by simpa [upd] using e0))), (fun e0 e1 => (cS (by simpa [upd] using e0) (by simpa [upd] using e1))), (fun e0 => (cO (by simpa [upd] using e0))), by simp [upd, nS], (fun e => absurd e (by simp [upd, nS]))⟩
              · -- 9: Op.indexAddr 39 (Operand.tmp 54) (Operand.tmp 55)
                have p7 : l 7 = true := hpre _ rfl ⟨7, .data⟩ (by simp) rfl
                have p8 : l 8 = true := hpre _ rfl ⟨8, .data⟩ (by simp) rfl
                refine wpOp_step rfl (fun K' hK => ?_)
                have nS : l 17 = false := by
                  cases h : l 17
                  · rfl
                  · have := oS h; simp [hli] at this
                rw [nS, cond_false] at hw
                subst hw
                simp only [p7, p8, cond_true, cond_false]
                clear hpre
                rw [if_pos (by rfl)]
                go_simp
                exact hK _ _ ⟨v2, gb, w', by simp [upd, Act.put, p7, p8], hG, (fun e0 => (cR (by simpa [upd] using e0))), (fun e0 e1 => (cS (by simpa [upd] using e0) (by simpa [upd] using e1))), (fun e0 => (cO (by simpa [upd] using e0))), by simp [upd, nS], (fun e => absurd e (by simp [upd, nS]))⟩
              · -- 10: Op.fieldAddr 35 (Operand.tmp 56) 1
                have p9 : l 9 = true := hpre _ rfl ⟨9, .data⟩ (by simp) rfl
                refine wpOp_step rfl (fun K' hK => ?_)
                have nS : l 17 = false := by
                  cases h : l 17
                  · rfl
                  · have := oS h; simp [hli] at this
                rw [nS, cond_false] at hw
                subst hw
                simp only [p9, cond_true, cond_false]
                clear hpre
                rw [if_pos (by rfl)]
                go_simp
                exact hK _ _ ⟨v2, gb, w', by simp [upd, Act.put, p9], hG, (fun e0 => (cR (by simpa [upd] using e0))), (fun e0 e1 => (cS (by simpa [upd] using e0) (by simpa [upd] using e1))), (fun e0 => (cO (by simpa [upd] using e0))), by simp [upd, nS], (fun e => absurd e (by simp [upd, nS]))⟩
              · -- 11: Op.load 3 (Operand.tmp 57)
                have p10 : l 10 = true := hpre _ rfl ⟨10, .data⟩ (by simp) rfl
                refine wpOp_step rfl (fun K' hK => ?_)
                have nS : l 17 = false := by
                  cases h : l 17
                  · rfl
                  · have := oS h; simp [hli] at this
                rw [nS, cond_false] at hw
                subst hw
                simp only [p10, cond_true, cond_false]
                clear hpre
                rw [if_pos (by rfl)]
                have gc := HGc.out _ (Blk.grown F9.out.2.2.2.2.1 hG (Blk.apart F9.out.2.2.2.2.1 HO9.out (by decide)))
                have g0 := gc.1
                have g1 := gc.2
                clear gc
                go_simp
                exact hK _ _ ⟨v2, gb, w', by simp [upd, Act.put, p10], hG, (fun e0 => (cR (by simpa [upd] using e0))), (fun e0 e1 => (cS (by simpa [upd] using e0) (by simpa [upd] using e1))), (fun e0 => (cO (by simpa [upd] using e0))), by simp [upd, nS], (fun e => absurd e (by simp [upd, nS]))⟩
              · -- 12: Op.load 58 (Operand.tmp 10)
                refine wpOp_step rfl (fun K' hK => ?_)
                have nS : l 17 = false := by
                  cases h : l 17
                  · rfl
                  · have := oS h; simp [hli] at this
                rw [nS, cond_false] at hw
                subst hw
                clear hpre
                rw [if_pos (by rfl)]
                refine wp_load_mid 58 _ rfl _ 0 rfl (kl q.1 q.2) _ (Kbx.at_ (Blk.grown F9.out.2.2.2.2.2 hG (Blk.apart F9.out.2.2.2.2.2 HO9.out (by decide)))) Try.underlying58 rfl (by rw [kl_len]; exact size23) ?_
                exact hK _ _ ⟨v2, gb, w', by simp [upd, Act.put], hG, (fun e0 => (cR (by simpa [upd] using e0))), (fun e0 e1 => (cS (by simpa [upd] using e0) (by simpa [upd] using e1))), (fun e0 => (cO (by simpa [upd] using e0))), by simp [upd, nS], (fun e => absurd e (by simp [upd, nS]))⟩
              · -- 13: Op.build 70 #[(0, Operand.tmp 53), (1, Operand.tmp 58), (2, 
                have p6 : l 6 = true := hpre _ rfl ⟨6, .data⟩ (by simp) rfl
                have p11 : l 11 = true := hpre _ rfl ⟨11, .data⟩ (by simp) rfl
                have p12 : l 12 = true := hpre _ rfl ⟨12, .data⟩ (by simp) rfl
                refine wpOp_step rfl (fun K' hK => ?_)
                have nS : l 17 = false := by
                  cases h : l 17
                  · rfl
                  · have := oS h; simp [hli] at this
                rw [nS, cond_false] at hw
                subst hw
                simp only [p6, p11, p12, cond_true, cond_false]
                clear hpre
                rw [if_pos (by rfl)]
                refine wp_buildLabK _ _ _ rfl (a : Int) (b : Int) q rfl rfl rfl ?_
                exact hK _ _ ⟨v2, gb, w', by simp [upd, Act.put, p6, p11, p12], hG, (fun e0 => (cR (by simpa [upd] using e0))), (fun e0 e1 => (cS (by simpa [upd] using e0) (by simpa [upd] using e1))), (fun e0 => (cO (by simpa [upd] using e0))), by simp [upd, nS], (fun e => absurd e (by simp [upd, nS]))⟩
              · -- 14: Op.buildSlice 59 1 #[(0, Operand.tmp 60)]
                have p13 : l 13 = true := hpre _ rfl ⟨13, .data⟩ (by simp) rfl
                refine wpOp_step rfl (fun K' hK => ?_)
                have nS : l 17 = false := by
                  cases h : l 17
                  · rfl
                  · have := oS h; simp [hli] at this
                rw [nS, cond_false] at hw
                subst hw
                simp only [p13, cond_true, cond_false]
                clear hpre
                rw [if_pos (by rfl)]
                refine wp_buildSlice1 _ rfl rfl ?_
                exact hK _ _ ⟨v2, w'.heap.size, w'.alloc (.cells (lbl (a : Int) (b : Int) q).toArray 70), by simp [upd, Act.put, p13], grownBy_below hG (below_alloc _ _), (fun e0 => own_below ((cR (by simpa [upd] using e0))) (below_alloc _ _)), (fun _ _ => Blk.new w' _ 70), (fun e0 => own_below ((cO (by simpa [upd] using e0))) (below_alloc _ _)), by simp [upd, nS], (fun e => absurd e (by simp [upd, nS]))⟩
              · -- 15: Op.call { callee := Callee.builtin Builtin.append, args := #
                have p1 : l 1 = true := hpre _ rfl ⟨1, .data⟩ (by simp) rfl
                have p14 : l 14 = true := hpre _ rfl ⟨14, .data⟩ (by simp) rfl
                refine wpOp_step rfl (fun K' hK => ?_)
                have nS : l 17 = false := by
                  cases h : l 17
                  · rfl
                  · have := oS h; simp [hli] at this
                rw [nS, cond_false] at hw
                subst hw
                have n15 : l 15 = false := hli
                have hBk := cS p14 n15
                simp only [p1, p14, cond_true, cond_false]
                clear hpre
                rw [if_pos (by rfl)]
                refine wp_append_own _ _ _ 59 rfl N 70 i0 _ 18 32 Try.underlying59 HI.out.1 HI.out.2.1 HI.out.2.2.1 HI.out.2.2.2 rfl (by omega) v k xs rfl (cR n15) ⟨gb, 0, none⟩ 1 1 (lbl (a : Int) (b : Int) q) rfl (by rw [lbl_len]) (fun j u hu => by rw [Addr.add_mid, Nat.zero_add, hBk.cell j]; simpa using hu) (lbl_one _ _ _) (by unfold maxLen; omega) (by omega) (Nat.le_trans HS9.out.2.2 hG.size) ?_
                intro v1 w6 hown6 hg6 _
                exact hK _ _ ⟨v1, gb, w6, by simp [upd, Act.put, p1, p14], grownBy_trans hG hg6, (fun e0 => absurd e0 (by simp [upd])), (fun e0 e1 => absurd e1 (by simp [upd])), (fun _ => hown6), by simp [upd, nS], (fun e => absurd e (by simp [upd, nS]))⟩
              · -- 16: Op.fieldAddr 63 (Operand.tmp 7) 1
                have p0 : l 0 = true := hpre _ rfl ⟨0, .phase⟩ (by simp) rfl
                have p1 : l 1 = true := hpre _ rfl ⟨1, .phase⟩ (by simp) rfl
                have p2 : l 2 = true := hpre _ rfl ⟨2, .phase⟩ (by simp) rfl
                have p3 : l 3 = true := hpre _ rfl ⟨3, .phase⟩ (by simp) rfl
                have p4 : l 4 = true := hpre _ rfl ⟨4, .phase⟩ (by simp) rfl
                have p5 : l 5 = true := hpre _ rfl ⟨5, .phase⟩ (by simp) rfl
                have p6 : l 6 = true := hpre _ rfl ⟨6, .phase⟩ (by simp) rfl
                have p7 : l 7 = true := hpre _ rfl ⟨7, .phase⟩ (by simp) rfl
                have p8 : l 8 = true := hpre _ rfl ⟨8, .phase⟩ (by simp) rfl
                have p9 : l 9 = true := hpre _ rfl ⟨9, .phase⟩ (by simp) rfl
                have p10 : l 10 = true := hpre _ rfl ⟨10, .phase⟩ (by simp) rfl
                have p11 : l 11 = true := hpre _ rfl ⟨11, .phase⟩ (by simp) rfl
                have p12 : l 12 = true := hpre _ rfl ⟨12, .phase⟩ (by simp) rfl
                have p13 : l 13 = true := hpre _ rfl ⟨13, .phase⟩ (by simp) rfl
                have p14 : l 14 = true := hpre _ rfl ⟨14, .phase⟩ (by simp) rfl
                have p15 : l 15 = true := hpre _ rfl ⟨15, .phase⟩ (by simp) rfl
                refine wpOp_step rfl (fun K' hK => ?_)
                have nS : l 17 = false := by
                  cases h : l 17
                  · rfl
                  · have := oS h; simp [hli] at this
                rw [nS, cond_false] at hw
                subst hw
                simp only [p0, p1, p2, p3, p4, p5, p6, p7, p8, p9, p10, p11, p12, p13, p14, p15, cond_true, cond_false]
                clear hpre
                rw [if_pos (by rfl)]
                go_simp
                exact hK _ _ ⟨v2, gb, w', by simp [upd, Act.put, p0, p1, p2, p3, p4, p5, p6, p7, p8, p9, p10, p11, p12, p13, p14, p15], hG, (fun e0 => (cR (by simpa [upd] using e0))), (fun e0 e1 => (cS (by simpa [upd] using e0) (by simpa [upd] using e1))), (fun e0 => (cO (by simpa [upd] using e0))), by simp [upd, nS], (fun e => absurd e (by simp [upd, nS]))⟩
              · -- 17: Op.store 59 (Operand.tmp 63) (Operand.tmp 62)
                have p16 : l 16 = true := hpre _ rfl ⟨16, .data⟩ (by simp) rfl
                have p15 : l 15 = true := hpre _ rfl ⟨15, .data⟩ (by simp) rfl
                have p0 : l 0 = true := hpre _ rfl ⟨0, .phase⟩ (by simp) rfl
                have p1 : l 1 = true := hpre _ rfl ⟨1, .phase⟩ (by simp) rfl
                have p2 : l 2 = true := hpre _ rfl ⟨2, .phase⟩ (by simp) rfl
                have p3 : l 3 = true := hpre _ rfl ⟨3, .phase⟩ (by simp) rfl
                have p4 : l 4 = true := hpre _ rfl ⟨4, .phase⟩ (by simp) rfl
                have p5 : l 5 = true := hpre _ rfl ⟨5, .phase⟩ (by simp) rfl
                have p6 : l 6 = true := hpre _ rfl ⟨6, .phase⟩ (by simp) rfl
                have p7 : l 7 = true := hpre _ rfl ⟨7, .phase⟩ (by simp) rfl
                have p8 : l 8 = true := hpre _ rfl ⟨8, .phase⟩ (by simp) rfl
                have p9 : l 9 = true := hpre _ rfl ⟨9, .phase⟩ (by simp) rfl
                have p10 : l 10 = true := hpre _ rfl ⟨10, .phase⟩ (by simp) rfl
                have p11 : l 11 = true := hpre _ rfl ⟨11, .phase⟩ (by simp) rfl
                have p12 : l 12 = true := hpre _ rfl ⟨12, .phase⟩ (by simp) rfl
                have p13 : l 13 = true := hpre _ rfl ⟨13, .phase⟩ (by simp) rfl
                have p14 : l 14 = true := hpre _ rfl ⟨14, .phase⟩ (by simp) rfl
                refine wpOp_step rfl (fun K' hK => ?_)
                have nS : l 17 = false := hli
                rw [nS, cond_false] at hw
                subst hw
                simp only [p16, p15, p0, p1, p2, p3, p4, p5, p6, p7, p8, p9, p10, p11, p12, p13, p14, cond_true, cond_false]
                clear hpre
                rw [if_pos (by rfl)]
                have hS3 := (Blk.grown F9.out.2.2.2.1 hG (Blk.apart F9.out.2.2.2.1 HO9.out (by decide)))
                have z1 : w'.cell? ⟨sb, 1, none⟩ = some v := hS3.cell 1
                have z2 := hS3.fr 1
                have c6 := cO p15
                obtain ⟨A6, d6, hv6⟩ := own_val c6
                subst hv6
                go_simp
                exact hK _ _ ⟨_, gb, w', by simp [upd, Act.put, p16, p15, p0, p1, p2, p3, p4, p5, p6, p7, p8, p9, p10, p11, p12, p13, p14], hG, (fun e0 => (cR (by simpa [upd] using e0))), (fun e0 e1 => (cS (by simpa [upd] using e0) (by simpa [upd] using e1))), (fun _ => c6), by simp [upd], (fun _ => by simp [upd, p16, p15, p0, p1, p2, p3, p4, p5, p6, p7, p8, p9, p10, p11, p12, p13, p14])⟩
            · rintro l a' w9 hall ⟨v2, gb, w1, rfl, hG, cR, cS, cO, hw, oS⟩
              rw [hall 17 (by decide), cond_true] at hw
              subst hw
              clear cR
              clear cS
              replace cO := cO (hall 15 (by decide))
              simp only [hall 0 (by decide), hall 1 (by decide), hall 2 (by decide), hall 3 (by decide), hall 4 (by decide), hall 5 (by decide), hall 6 (by decide), hall 7 (by decide), hall 8 (by decide), hall 9 (by decide), hall 10 (by decide), hall 11 (by decide), hall 12 (by decide), hall 13 (by decide), hall 14 (by decide), hall 15 (by decide), hall 16 (by decide), cond_true]
              clear hall oS
              have H9 := Lib.hid (app_sec F9.out.2.2.2.1 HO9.out hG cO HS9.out.2.2 (by have := HSB.out.2; omega))
              obtain ⟨Wz, hWz⟩ : ∃ Wz, Wz = w1.setCell ⟨sb, 1, none⟩ v2 := ⟨_, rfl⟩
              rw [← hWz] at H9
              rw [← hWz]
              clear hWz hG cO
              go_wp2_with fail
              go_roundw
              case rel =>
                obtain ⟨k1, k2, k4, k5⟩ := H9.out
                have q1 := HSB.out.2
                have q2 := HG7.out
                exact ⟨k + 1, v2, by omega, by go_num, Lib.hid (by rw [HSn.out];  exact k2), Lib.hid ⟨k5 _ _ _ (by omega) (by decide) F9.out.1, k5 _ _ _ (by omega) (by decide) F9.out.2.1, k5 _ _ _ (by omega) (by decide) F9.out.2.2.1, k1, k5 _ _ _ (by omega) (by decide) F9.out.2.2.2.2.1⟩, Lib.hid ⟨HS9.out.1.trans k4, Nat.le_trans HS9.out.2.1 k4.size⟩⟩
              case measure => simp [intOf]; omega
    · obtain rfl : k = n := by omega
      have hR : lbs K p (ps.take k) = lbs K p ps := by rw [List.take_of_length_le (by rw [← HN0.out]; exact Nat.le_refl _)]
      have HFin : Hid (wr.ownsRow N 70 18 v k (lbs K p ps)) := Lib.hid (by rw [← hR]; exact HO.out)
      obtain ⟨A2, k2, hv2⟩ := own_val HO.out
      subst hv2
      have hth : wr.there (N + 2) 0 4 := HB.out.2.2.1.there
      have HF : Hid (Blk (wr.setCells (N + 2) 0 (sc4 (r : Int) (.slice A2 k k2)).toList) (N + 2) (sc4 (r : Int) (.slice A2 k k2)) 63 ∧ Below N w (wr.setCells (N + 2) 0 (sc4 (r : Int) (.slice A2 k k2)).toList) ∧ (wr.setCells (N + 2) 0 (sc4 (r : Int) (.slice A2 k k2)).toList).ownsRow N 70 18 (.slice A2 k k2) k (lbs K p ps)) := Lib.hid ⟨Blk.setAll HB.out.2.2.1 _ rfl, below_setCells _ _ _ _ HS.out.1 (by omega), own_setCells _ _ HFin.out (HB.out.2.2.1.apart HFin.out (by decide))⟩
      have l3 : ¬ ((k : Int) < (k : Int)) := by omega
      clear hR
      go_wp2_with (first
        | ((with_reducible show wpList _ _ _ (Oper.mk _ (Op.load 63 _) _ _ _ _ :: _) _ _); refine wpList_load_sec rfl _ rfl _ rfl _ _ HB.out.2.2.2.1 ?_)
        | ((with_reducible show wpList _ _ _ (Oper.mk _ (Op.store 63 _ _) _ _ _ _ :: _) _ _); refine wpList_store_sec rfl _ _ rfl _ _ _ rfl rfl rfl hth ?_))
      exact bodyPost_ret (results_sec1 rfl _ _ (N + 2) (r : Int) (.slice A2 k k2) rfl HF.out.1) rfl ⟨⟨.slice A2 k k2, rfl, HF.out.2.2⟩, HF.out.2.1⟩
end Go.Proofs.Ytnbkoffhplknbaa
