/-
  Seal, the specification's.
-/
import Derived.Test.YtelalpikdidpeaaSlA
namespace Go.Proofs.Ytelalpikdidpeaa
open Go.RowKit TR L2 L2.SP
set_option linter.unusedVariables false
set_option linter.unusedSimpArgs false

theorem below_cell2 {w w' : World} {g x y : Nat} {u v : Value} (hb : Below w.heap.size w w') (h : w.cell? ⟨g, x, none⟩ = some u ∧ w.cell? ⟨g, y, none⟩ = some v) : w'.cell? ⟨g, x, none⟩ = some u ∧ w'.cell? ⟨g, y, none⟩ = some v :=
  ⟨(hb.cell (p := ⟨g, x, none⟩) (World.block_lt_of_cell? w _ h.1)).trans h.1, (hb.cell (p := ⟨g, y, none⟩) (World.block_lt_of_cell? w _ h.2)).trans h.2⟩

set_option maxRecDepth 100000 in
set_option maxHeartbeats 400000 in
theorem refSeal_any (p s : Nat × Nat) (K D E : Int) (P Q G n c g o : Nat) (A : Option Addr) (f : Nat → Int × Int) (w : World) (hp : Ok p) (hs : Ok s) (hK0 : 0 ≤ K) (hK1 : K ≤ 255) (hnc : n ≤ c) (hnm : n ≤ 9223372036854775807) (had : n = 0 ∨ A = some ⟨g, o, none⟩)
    (hcl : ∀ i, i < n → w.cell? ⟨g, o + i * 2, none⟩ = some (.int .i64 (f i).1) ∧ w.cell? ⟨g, o + i * 2 + 1, none⟩ = some (.int .i64 (f i).2)) :
    Calls Try.prog 19 #[.agg (kl p.1 p.2).toArray, .agg #[.int .u8 K, .int .i64 D, .int .i64 E, .int .u64 (P : Int), .int .u64 (Q : Int), .int .u64 (G : Int)], .slice A n c, .agg (kl s.1 s.2).toArray] w fun e w' => SlE p s K D E P Q G n f w.heap.size e w' ∧ Below w.heap.size w w' := by
  obtain ⟨N, hN⟩ : ∃ N, N = w.heap.size := ⟨_, rfl⟩
  obtain ⟨W4, hW4⟩ : ∃ W4, W4 = (((w.alloc (.cells (kl p.1 p.2).toArray 23)).alloc (.cells #[.int .u8 K, .int .i64 D, .int .i64 E, .int .u64 (P : Int), .int .u64 (Q : Int), .int .u64 (G : Int)] 28)).alloc (.cells (kl s.1 s.2).toArray 23)).alloc (.cells z35 59) := ⟨_, rfl⟩
  have s4 : W4.heap.size = N + 4 := by rw [hW4, hN]; simp
  have b4 : Below N w W4 := by rw [hW4, hN]; exact (below_alloc _ _).trans (((below_alloc _ _).mono (by simp)).trans (((below_alloc _ _).mono (by simp; omega)).trans ((below_alloc _ _).mono (by simp; omega))))
  have e1 : Kbx W4 N p := by rw [hW4, hN]; exact ((Blk.keep (Blk.new w _ _) (below_alloc _ _)).keep (below_alloc _ _)).keep (below_alloc _ _)
  have e2 : Blk W4 (N + 1) #[.int .u8 K, .int .i64 D, .int .i64 E, .int .u64 (P : Int), .int .u64 (Q : Int), .int .u64 (G : Int)] 28 := by
    have h := ((Blk.new (w.alloc (.cells (kl p.1 p.2).toArray 23)) #[.int .u8 K, .int .i64 D, .int .i64 E, .int .u64 (P : Int), .int .u64 (Q : Int), .int .u64 (G : Int)] 28).keep (below_alloc _ (.cells (kl s.1 s.2).toArray 23))).keep (below_alloc _ (.cells z35 59))
    rw [World.size_alloc, ← hN] at h; rw [hW4]; exact h
  have e3 : Kbx W4 (N + 2) s := by
    have h := (Blk.new ((w.alloc (.cells (kl p.1 p.2).toArray 23)).alloc (.cells #[.int .u8 K, .int .i64 D, .int .i64 E, .int .u64 (P : Int), .int .u64 (Q : Int), .int .u64 (G : Int)] 28)) (kl s.1 s.2).toArray 23).keep (below_alloc _ (.cells z35 59))
    rw [World.size_alloc, World.size_alloc, ← hN] at h; rw [hW4]; exact h
  have e4 : Hdx W4 (N + 3) (.slice none 0 0) (.slice none 0 0) 0 (0, 0) (0, 0) := by
    have h := Blk.new (((w.alloc (.cells (kl p.1 p.2).toArray 23)).alloc (.cells #[.int .u8 K, .int .i64 D, .int .i64 E, .int .u64 (P : Int), .int .u64 (Q : Int), .int .u64 (G : Int)] 28)).alloc (.cells (kl s.1 s.2).toArray 23)) z35 59
    rw [World.size_alloc, World.size_alloc, World.size_alloc, ← hN] at h; rw [hW4]; rw [z35_hdi] at h ⊢; exact h
  have HE : Hid (W4.heap.size = N + 4 ∧ Below N w W4 ∧ Kbx W4 N p ∧ Blk W4 (N + 1) #[.int .u8 K, .int .i64 D, .int .i64 E, .int .u64 (P : Int), .int .u64 (Q : Int), .int .u64 (G : Int)] 28 ∧ Kbx W4 (N + 2) s ∧ Hdx W4 (N + 3) (.slice none 0 0) (.slice none 0 0) 0 (0, 0) (0, 0)) := Lib.hid ⟨s4, b4, e1, e2, e3, e4⟩
  have HCL : Hid (∀ w1, Below N w w1 → ∀ i, i < n → w1.cell? ⟨g, o + i * 2, none⟩ = some (.int .i64 (f i).1) ∧ w1.cell? ⟨g, o + i * 2 + 1, none⟩ = some (.int .i64 (f i).2)) := Lib.hid (fun w1 hb i hi => by
    have k : ∀ (p : Addr) v, w.cell? p = some v → w1.cell? p = some v := fun p v hv => (hb.cell (p := p) (by rw [hN]; exact World.block_lt_of_cell? w _ hv)).trans hv
    exact ⟨k _ _ (hcl i hi).1, k _ _ (hcl i hi).2⟩)
  have HEND := Lib.hid (fun (w3 : World) (hb : Below N w w3) (h3 : ∃ cs, Blk w3 (N + 3) cs 59 ∧ cs.size = 35) => (by
    obtain ⟨cs, h1, h2⟩ := h3
    have h4 : Hdx (w3.setCells (N + 3) 0 (hdi (.slice none 0 0) (.slice none 0 0) 0 (0, 0) (0, 0))) (N + 3) (.slice none 0 0) (.slice none 0 0) 0 (0, 0) (0, 0) := Hdx.stored h1 h2 _ _ _ _ _
    exact ⟨h4, below_setCells _ _ _ _ hb (by omega), by have h5 := Blk.there h1; rw [h2] at h5; exact h5⟩ : Hdx (w3.setCells (N + 3) 0 (hdi (.slice none 0 0) (.slice none 0 0) 0 (0, 0) (0, 0))) (N + 3) (.slice none 0 0) (.slice none 0 0) 0 (0, 0) (0, 0) ∧ Below N w (w3.setCells (N + 3) 0 (hdi (.slice none 0 0) (.slice none 0 0) 0 (0, 0) (0, 0))) ∧ w3.there (N + 3) 0 35))
  have HSC := Lib.hid (fun (c : Int) (h : slc K D E P Q G n f = c) => h)
  have HCk := Lib.hid (fun w => refValid_any K D E P Q G w hK0 hK1)
  have HCo := Lib.hid (fun w => refDerive_any s.1 s.2 53 0 w hs.1 hs.2 (by omega) (by unfold M; omega))
  have HEn := Lib.hid (fun a b w => refEncrypt_any (skk p K D E P Q G a b).1 (skk p K D E P Q G a b).2 s.1 s.2 w (skk_ok hp K D E P Q G a b).1 (skk_ok hp K D E P Q G a b).2 hs.1 hs.2)
  have HKo := Lib.hid (fun (a b : Int) w (h0 : sbc K D E P Q G a b = 0) => (by
    obtain ⟨_, d, v, x, hD, rfl, rfl, _, v1, v2, x2, hab, _⟩ := sbc_nat h0
    have hk : skk p K D E P Q G (v : Int) (x : Int) = kof K p v x := by unfold skk; rw [if_pos h0]; simp
    rw [hk]
    exact refKeyOf_any p K D E P Q G v x w hp (by omega) (by omega) (fun h1 h2 => (hab h1 h2).2) : Calls Try.prog 37 #[.agg (kl p.1 p.2).toArray, .agg #[.int .u8 K, .int .i64 D, .int .i64 E, .int .u64 (P : Int), .int .u64 (Q : Int), .int .u64 (G : Int)], .agg #[.int .i64 a, .int .i64 b]] w fun e w' => e = .returned (.agg (kl (skk p K D E P Q G a b).1 (skk p K D E P Q G a b).2).toArray) ∧ Below w.heap.size w w'))
  have HAD := Lib.hid had
  have HNC := Lib.hid (And.intro hnc hnm)
  have HN := Lib.hid hN
  have HW := Lib.hid hW4
  rw [← hN]
  have c0 : W4.cell? ⟨N + 1, 0, none⟩ = some (.int .u8 K) := (e2).cell 0
  have c1 : W4.cell? ⟨N + 1, 1, none⟩ = some (.int .i64 D) := (e2).cell 1
  have c2 : W4.cell? ⟨N + 1, 2, none⟩ = some (.int .i64 E) := (e2).cell 2
  have c3 : W4.cell? ⟨N + 1, 3, none⟩ = some (.int .u64 (P : Int)) := (e2).cell 3
  have c4 : W4.cell? ⟨N + 1, 4, none⟩ = some (.int .u64 (Q : Int)) := (e2).cell 4
  have c5 : W4.cell? ⟨N + 1, 5, none⟩ = some (.int .u64 (G : Int)) := (e2).cell 5
  rw [hW4, hN] at c0 c1 c2 c3 c4 c5
  clear hN hW4 s4 b4 e1 e2 e3 e4 hcl had hp hs hK0 hK1
  go_enter Try.func19, Try.ntmps19
  go_wp2_with fail
  rw [← HW.out, ← HN.out]
  refine (HCk.out _).mono ?_
  rintro e w5 ⟨rfl, hb5⟩
  have HB5 : Hid (N + 4 ≤ w5.heap.size ∧ Below N w w5 ∧ Kbx w5 N p ∧ Blk w5 (N + 1) #[.int .u8 K, .int .i64 D, .int .i64 E, .int .u64 (P : Int), .int .u64 (Q : Int), .int .u64 (G : Int)] 28 ∧ Kbx w5 (N + 2) s ∧ Hdx w5 (N + 3) (.slice none 0 0) (.slice none 0 0) 0 (0, 0) (0, 0)) := Lib.hid ⟨by rw [← HE.out.1]; exact hb5.size, HE.out.2.1.trans (hb5.mono (by rw [HE.out.1]; omega)), Blk.keep HE.out.2.2.1 hb5, HE.out.2.2.2.1.keep hb5, Blk.keep HE.out.2.2.2.2.1 hb5, Blk.keep HE.out.2.2.2.2.2 hb5⟩
  clear hb5 c0 c1 c2 c3 c4 c5
  by_cases h : ScOk K D E P Q G
  · have hsc := scb_yes h
    rw [hsc]
    have HSb := Lib.hid (scb_yes h)
    have HIs : Hid (∀ a b w, Calls Try.prog 36 #[.agg #[.int .u8 K, .int .i64 D, .int .i64 E, .int .u64 (P : Int), .int .u64 (Q : Int), .int .u64 (G : Int)], .agg #[.int .i64 a, .int .i64 b]] w fun e w' => e = .returned (.bool (isb K D.toNat a b)) ∧ Below w.heap.size w w') := Lib.hid (fun a b w => by
      have h1 := h.2.2.2.1
      obtain ⟨d, hd⟩ := Int.eq_ofNat_of_zero_le h.2.2.1
      subst hd
      exact refIsSubset_any K E a b d P Q G w (by omega))
    clear h hsc
    by_cases h64 : 64 < n
    · have H3 := Lib.hid (HEND.out w5 HB5.out.2.1 ⟨_, HB5.out.2.2.2.2.2, Hdx.size⟩)
      have HC : Hid (slc K D E P Q G n f = 4) := Lib.hid (by unfold slc; rw [HSb.out, if_pos rfl, if_pos h64])
      have h64' : (64 : Int) < (n : Int) := by omega
      go_wp2_with (first
      | ((with_reducible show wpList _ _ _ (Oper.mk _ (Op.build 59 _) _ _ _ _ :: _) _ _); refine wpList_buildHd0 rfl rfl ?_)
      | ((with_reducible show wpList _ _ _ (Oper.mk _ (Op.store 59 _ _) _ _ _ _ :: _) _ _); refine wpList_store_hdi rfl _ _ rfl (N + 3) _ _ _ _ _ rfl rfl rfl rfl H3.out.2.2 ?_))
      exact bodyPost_ret (results_hdi rfl _ _ (N + 3) (.slice none 0 0) (.slice none 0 0) 0 (0, 0) (0, 0) _ rfl rfl H3.out.1) rfl ⟨SlE.bad 4 HC.out (by decide) rfl, H3.out.2.1⟩
    · have h64' : ¬ ((64 : Int) < (n : Int)) := by omega
      have HN64 : Hid (n ≤ 64) := Lib.hid (by omega)
      go_wp2_with fail
      go_loopw [10] (fun i wr => ∃ (k : Nat), k ≤ n ∧ i = .int .i64 (k : Int) ∧ Hid (∀ j, j < k → isb K D.toNat (f j).1 (f j).2 = true) ∧ Hid (Below w5.heap.size w5 wr)) (fun i _ => n + 1 - (intOf i).toNat)
      case atStart => exact ⟨0, by omega, rfl, Lib.hid (fun j h => absurd h (by omega)), Lib.hid (Below.refl _ _)⟩
      case round =>
        obtain ⟨k, hk, rfl, HA, HBr⟩ := hrel
        have HS : Hid (Below N w wr) := Lib.hid (HB5.out.2.1.trans (HBr.out.mono (by have := HB5.out.1; omega)))
        by_cases hlt : k < n
        · rcases HAD.out with h0 | rfl
          · omega
          have l1 : (0 : Int) ≤ (k : Int) := by omega
          have l2 : (k : Int) < (n : Int) := by omega
          have HGk : Hid (∀ w1, Below w5.heap.size w5 w1 → w1.cell? ⟨g, o + k * 2, none⟩ = some (.int .i64 (f k).1) ∧ w1.cell? ⟨g, o + k * 2 + 1, none⟩ = some (.int .i64 (f k).2)) := Lib.hid (fun w1 hb => HCL.out w1 (HB5.out.2.1.trans (hb.mono (by have := HB5.out.1; omega))) k hlt)
          have HNo : Hid (isb K D.toNat (f k).1 (f k).2 = false → slc K D E P Q G n f = 31) := Lib.hid (fun h => by
            have h1 : sla K D f n = false := by
              unfold sla
              rw [Bool.eq_false_iff]
              intro h2
              rw [List.all_eq_true] at h2
              have h3 := h2 k (List.mem_range.2 hlt)
              rw [h] at h3; cases h3
            unfold slc; rw [HSb.out, if_pos rfl, if_neg (by have := HN64.out; omega), h1]; rfl)
          have HAx : Hid (isb K D.toNat (f k).1 (f k).2 = true → ∀ j, j < k + 1 → isb K D.toNat (f j).1 (f j).2 = true) := Lib.hid (fun h j hj => by
            rcases Nat.lt_or_ge j k with h1 | h1
            · exact HA.out j h1
            · obtain rfl : j = k := by omega
              exact h)
          have HIk := Lib.hid (fun w => HIs.out (f k).1 (f k).2 w)
          obtain ⟨a, ha⟩ : ∃ a, a = (f k).1 := ⟨_, rfl⟩
          obtain ⟨b, hbb⟩ : ∃ b, b = (f k).2 := ⟨_, rfl⟩
          rw [← ha] at HNo HAx HIk HGk
          rw [← hbb] at HNo HAx HIk HGk
          obtain ⟨zi, hzi⟩ : ∃ zi, zi = isb K D.toNat a b := ⟨_, rfl⟩
          rw [← hzi] at HNo HAx HIk
          clear ha hbb hzi hk
          go_wp2_with fail
          refine wp_region_inv (by kernel_rfl) (by kernel_rfl) (fun l a' w' => a' = { tmps := #[Value.agg (kl p.fst p.snd).toArray, Value.agg #[Value.int IntKind.u8 K, Value.int IntKind.i64 D, Value.int IntKind.i64 E, Value.int IntKind.u64 P, Value.int IntKind.u64 Q, Value.int IntKind.u64 G], Value.slice (some ⟨g, o, none⟩) n c, Value.agg (kl s.fst s.snd).toArray, Value.pointer (some ⟨N, 0, none⟩), Value.pointer (some ⟨N + 1, 0, none⟩), undef, Value.pointer (some ⟨N + 1 + 1, 0, none⟩), Value.pointer (some ⟨N + 1 + 1 + 1, 0, none⟩), u9, Value.int .i64 (k : Int), undef, undef, Value.agg #[Value.int IntKind.u8 K, Value.int IntKind.i64 D, Value.int IntKind.i64 E, Value.int IntKind.u64 P, Value.int IntKind.u64 Q, Value.int IntKind.u64 G], Value.bool true, Value.bool false, undef, Value.slice (some ⟨g, o, none⟩) n c, Value.int .i64 (n : Int), Value.bool (decide ((64 : Int) < (n : Int))), undef, Value.int .i64 (k : Int), Value.slice (some ⟨g, o, none⟩) n c, Value.int .i64 (n : Int), Value.bool true, u25, u26, bif l 0 then Value.agg #[Value.int .u8 K, Value.int .i64 D, Value.int .i64 E, Value.int .u64 (P : Int), Value.int .u64 (Q : Int), Value.int .u64 (G : Int)] else u27, bif l 1 then Value.slice (some ⟨g, o, none⟩) n c else u28, bif l 2 then Value.int .i64 (k : Int) else u29, bif l 3 then Value.pointer (some ⟨g, o + k * 2, none⟩) else u30, bif l 4 then Value.agg #[Value.int .i64 a, Value.int .i64 b] else u31, bif l 5 then Value.bool zi else u32, bif l 6 then Value.bool (!zi) else u33, u34, undef, undef, undef, undef, undef, undef, undef, undef, undef, undef, undef, undef, undef, undef, undef, undef, undef, undef, undef, undef, undef, undef, undef, undef, undef, undef, undef, undef, undef], defers := [] } ∧ (Below w5.heap.size w5 w')) ⟨rfl, (HBr.out).drew⟩ ?_ ?_
          · rintro l a' w' i ⟨rfl, hB⟩ hi' hli hpre
            have hi2 : i < 7 := hi'
            have hcase : i = 0 ∨ i = 1 ∨ i = 2 ∨ i = 3 ∨ i = 4 ∨ i = 5 ∨ i = 6 := by omega
            clear hi' hi2
            rcases hcase with rfl | rfl | rfl | rfl | rfl | rfl | rfl
            · -- 0: Op.load 28 (Operand.tmp 5)
              refine wpOp_step rfl (fun K' hK => ?_)
              clear hpre
              rw [if_pos (by rfl)]
              refine wp_load_mid 28 _ rfl _ 0 rfl #[Value.int .u8 K, Value.int .i64 D, Value.int .i64 E, Value.int .u64 (P : Int), Value.int .u64 (Q : Int), Value.int .u64 (G : Int)].toList _ (HB5.out.2.2.2.1.keep hB).range Try.underlying28 rfl sizeSch ?_
              exact hK _ _ ⟨by simp [upd, Act.put], hB⟩
            · -- 1: Op.move (Operand.tmp 2)
              refine wpOp_step rfl (fun K' hK => ?_)
              clear hpre
              rw [if_pos (by rfl)]
              go_simp
              exact hK _ _ ⟨by simp [upd, Act.put], hB⟩
            · -- 2: Op.move (Operand.tmp 10)
              refine wpOp_step rfl (fun K' hK => ?_)
              clear hpre
              rw [if_pos (by rfl)]
              go_simp
              exact hK _ _ ⟨by simp [upd, Act.put], hB⟩
            · -- 3: Op.indexAddr 55 (Operand.tmp 28) (Operand.tmp 29)
              have p1 : l 1 = true := hpre _ rfl ⟨1, .data⟩ (by simp) rfl
              have p2 : l 2 = true := hpre _ rfl ⟨2, .data⟩ (by simp) rfl
              refine wpOp_step rfl (fun K' hK => ?_)
              simp only [p1, p2, cond_true, cond_false]
              clear hpre
              rw [if_pos (by rfl)]
              go_simp
              exact hK _ _ ⟨by simp [upd, Act.put, p1, p2], hB⟩
            · -- 4: Op.load 35 (Operand.tmp 30)
              have p3 : l 3 = true := hpre _ rfl ⟨3, .data⟩ (by simp) rfl
              refine wpOp_step rfl (fun K' hK => ?_)
              simp only [p3, cond_true, cond_false]
              clear hpre
              rw [if_pos (by rfl)]
              have g0 := (HGk.out w' hB).1
              have g1 := (HGk.out w' hB).2
              go_simp
              exact hK _ _ ⟨by simp [upd, Act.put, p3], hB⟩
            · -- 5: Op.call { callee := Callee.value (Operand.func 36), args := 
              have p0 : l 0 = true := hpre _ rfl ⟨0, .data⟩ (by simp) rfl
              have p4 : l 4 = true := hpre _ rfl ⟨4, .data⟩ (by simp) rfl
              refine wpOp_step rfl (fun K' hK => ?_)
              simp only [p0, p4, cond_true, cond_false]
              clear hpre
              rw [if_pos (by rfl)]
              go_simp
              refine (HIk.out _).mono ?_
              rintro e w7 ⟨rfl, hb5'⟩
              exact hK _ _ ⟨by simp [upd, Act.put, p0, p4], (hB).trans (hb5'.mono (hB).size)⟩
            · -- 6: Op.unOp UnOp.not 4 (Operand.tmp 32)
              have p5 : l 5 = true := hpre _ rfl ⟨5, .data⟩ (by simp) rfl
              refine wpOp_step rfl (fun K' hK => ?_)
              simp only [p5, cond_true, cond_false]
              clear hpre
              rw [if_pos (by rfl)]
              go_simp
              exact hK _ _ ⟨by simp [upd, Act.put, p5], hB⟩
          · rintro l a' w9 hall ⟨rfl, hB⟩
            simp only [hall 0 (by decide), hall 1 (by decide), hall 2 (by decide), hall 3 (by decide), hall 4 (by decide), hall 5 (by decide), hall 6 (by decide), cond_true]
            clear hall
            have H6 := Lib.hid hB
            clear hB
            rcases zi with _ | _
            · have HC := Lib.hid (HNo.out rfl)
              have H3 := Lib.hid (HEND.out w9 (HB5.out.2.1.trans (H6.out.mono (by have := HB5.out.1; omega))) ⟨_, Blk.keep HB5.out.2.2.2.2.2 H6.out, Hdx.size⟩)
              go_wp2_with (first
                | ((with_reducible show wpList _ _ _ (Oper.mk _ (Op.build 59 _) _ _ _ _ :: _) _ _); refine wpList_buildHd0 rfl rfl ?_)
                | ((with_reducible show wpList _ _ _ (Oper.mk _ (Op.store 59 _ _) _ _ _ _ :: _) _ _); refine wpList_store_hdi rfl _ _ rfl (N + 3) _ _ _ _ _ rfl rfl rfl rfl H3.out.2.2 ?_))
              exact bodyPost_ret (results_hdi rfl _ _ (N + 3) (.slice none 0 0) (.slice none 0 0) 0 (0, 0) (0, 0) _ rfl rfl H3.out.1) rfl ⟨SlE.bad 31 HC.out (by decide) rfl, H3.out.2.1⟩
            · have HAy := Lib.hid (HAx.out rfl)
              go_wp2_with fail
              go_roundw
              case rel => exact ⟨k + 1, by omega, by go_num, HAy, H6⟩
              case measure => simp [intOf]; omega
        · obtain rfl : k = n := by omega
          have HC : Hid (slc K D E P Q G k f = 0) := Lib.hid (by
            have h1 : sla K D f k = true := by
              unfold sla
              rw [List.all_eq_true]
              intro j hj
              exact HA.out j (List.mem_range.1 hj)
            unfold slc; rw [HSb.out, if_pos rfl, if_neg (by have := HN64.out; omega), h1]; rfl)
          have HAll := Lib.hid HA.out
          have hn5 := HB5.out.1
          have HB5r : Hid (N + 4 ≤ wr.heap.size ∧ Below N w wr ∧ Kbx wr N p ∧ Blk wr (N + 1) #[.int .u8 K, .int .i64 D, .int .i64 E, .int .u64 (P : Int), .int .u64 (Q : Int), .int .u64 (G : Int)] 28 ∧ Kbx wr (N + 2) s ∧ Hdx wr (N + 3) (.slice none 0 0) (.slice none 0 0) 0 (0, 0) (0, 0)) := Lib.hid ⟨Nat.le_trans HB5.out.1 HBr.out.size, HS.out, Blk.keep HB5.out.2.2.1 HBr.out, HB5.out.2.2.2.1.keep HBr.out, Blk.keep HB5.out.2.2.2.2.1 HBr.out, Blk.keep HB5.out.2.2.2.2.2 HBr.out⟩
          have l3 : ¬ ((k : Int) < (k : Int)) := by omega
          clear hlt hk HA HBr hn5
          go_wp2_with ((with_reducible show wpList _ _ _ (Oper.mk _ (Op.load 23 _) _ _ _ _ :: _) _ _); refine wpList_load_key rfl _ rfl _ rfl _ _ (Kbx.at_ HB5r.out.2.2.2.2.1) ?_)
          refine (HCo.out _).mono ?_
          rintro e w6 ⟨rfl, hb6⟩
          have HB6 : Hid (N + 4 ≤ w6.heap.size ∧ Below N w w6 ∧ Kbx w6 N p ∧ Blk w6 (N + 1) #[.int .u8 K, .int .i64 D, .int .i64 E, .int .u64 (P : Int), .int .u64 (Q : Int), .int .u64 (G : Int)] 28 ∧ Kbx w6 (N + 2) s ∧ Hdx w6 (N + 3) (.slice none 0 0) (.slice none 0 0) 0 (0, 0) (0, 0)) := Lib.hid ⟨Nat.le_trans HB5r.out.1 hb6.size, HB5r.out.2.1.trans (hb6.mono (by have := HB5r.out.1; omega)), Blk.keep HB5r.out.2.2.1 hb6, HB5r.out.2.2.2.1.keep hb6, Blk.keep HB5r.out.2.2.2.2.1 hb6, Blk.keep HB5r.out.2.2.2.2.2 hb6⟩
          obtain ⟨ck, hck⟩ : ∃ ck, ck = drv s.1 s.2 53 0 := ⟨_, rfl⟩
          rw [← hck]
          have HCK := Lib.hid hck
          have hA := Blk.new w6 z35 59
          have hth : (w6.alloc (.cells z35 59)).there w6.heap.size 0 35 := hA.there
          obtain ⟨W7, hW7⟩ : ∃ W7, W7 = (w6.alloc (.cells z35 59)).setCells w6.heap.size 0 (hdi (.slice none 0 0) (.slice none 0 0) 0 (0, 0) ck) := ⟨_, rfl⟩
          have b67 : Below w6.heap.size w6 W7 := by rw [hW7]; exact below_setCells _ _ _ _ (below_alloc _ _) (Nat.le_refl _)
          obtain ⟨hb, hhb⟩ : ∃ hb, hb = w6.heap.size := ⟨_, rfl⟩
          have HHB : Hid (N + 4 ≤ hb) := Lib.hid (by rw [hhb]; exact HB6.out.1)
          have HE7 : Hid (hb + 1 ≤ W7.heap.size ∧ Below N w W7 ∧ Kbx W7 N p ∧ Blk W7 (N + 1) #[.int .u8 K, .int .i64 D, .int .i64 E, .int .u64 (P : Int), .int .u64 (Q : Int), .int .u64 (G : Int)] 28 ∧ Kbx W7 (N + 2) s ∧ Hdx W7 (N + 3) (.slice none 0 0) (.slice none 0 0) 0 (0, 0) (0, 0) ∧ Hdx W7 hb (.slice none 0 0) (.slice none 0 0) 0 (0, 0) ck) := Lib.hid ⟨by rw [hW7, size_setCells]; simp [hhb], HB6.out.2.1.trans (b67.mono (by have := HB6.out.1; omega)), Blk.keep HB6.out.2.2.1 b67, HB6.out.2.2.2.1.keep b67, Blk.keep HB6.out.2.2.2.2.1 b67, Blk.keep HB6.out.2.2.2.2.2 b67, by rw [hW7, hhb]; exact Hdx.stored hA z35_size _ _ _ _ _⟩
          have HW7 := Lib.hid (And.intro hW7 hhb)
          have HTh := Lib.hid hth
          clear hA hth hW7 b67 hhb hck hb6
          go_wp2_with (first
            | ((with_reducible show wpList _ _ _ (Oper.mk _ (Op.build 59 _) _ _ _ _ :: _) _ _); refine wpList_buildHd4 rfl _ rfl ck rfl ?_)
            | ((with_reducible show wpList _ _ _ (Oper.mk _ (Op.store 59 _ _) _ _ _ _ :: _) _ _); refine wpList_store_hdi rfl _ _ rfl _ _ _ _ _ _ rfl rfl rfl rfl HTh.out ?_))
          rw [← HW7.out.1, ← HW7.out.2]
          go_loopw [12] (fun i wr => ∃ (j : Nat) (v : Value), j ≤ k ∧ i = .int .i64 (j : Int) ∧ Hid (wr.ownsRow N 112 18 v j (lbF (slG p s K D E P Q G f) j)) ∧ Hid (Kbx wr N p ∧ Blk wr (N + 1) #[.int .u8 K, .int .i64 D, .int .i64 E, .int .u64 (P : Int), .int .u64 (Q : Int), .int .u64 (G : Int)] 28 ∧ Kbx wr (N + 2) s ∧ Hdx wr (N + 3) (.slice none 0 0) (.slice none 0 0) 0 (0, 0) (0, 0) ∧ Hdx wr hb v (.slice none 0 0) 0 (0, 0) ck) ∧ Hid (Below N w wr ∧ hb + 1 ≤ wr.heap.size)) (fun i _ => k + 1 - (intOf i).toNat)
          case atStart => exact ⟨0, .slice none 0 0, by omega, rfl, Lib.hid (World.ownsRow_nil _ _ _ _), Lib.hid HE7.out.2.2, Lib.hid ⟨HE7.out.2.1, HE7.out.1⟩⟩
          case round =>
            obtain ⟨j, v, hj, rfl, HO, HB, HS⟩ := hrel
            by_cases hlt : j < k
            · rcases HAD.out with h0 | rfl
              · omega
              have l1 : (0 : Int) ≤ (j : Int) := by omega
              have l2 : (j : Int) < (k : Int) := by omega
              have hgk := HCL.out wr.drew HS.out.1.drew j hlt
              have HG0 := Lib.hid hgk
              have hI := HAll.out j hlt
              have h0 : sbc K D E P Q G (f j).1 (f j).2 = 0 := by unfold sbc; rw [HSb.out, hI]; rfl
              have HKj := Lib.hid (fun w => HKo.out (f j).1 (f j).2 w h0)
              have HEj := Lib.hid (fun w => HEn.out (f j).1 (f j).2 w)
              have HSn : Hid (lbF (slG p s K D E P Q G f) (j + 1) = lbF (slG p s K D E P Q G f) j ++ lbl (f j).1 (f j).2 (enc (skk p K D E P Q G (f j).1 (f j).2).1 (skk p K D E P Q G (f j).1 (f j).2).2 s.1 s.2)) := Lib.hid (lbF_succ _ _)
              obtain ⟨a, ha⟩ : ∃ a, a = (f j).1 := ⟨_, rfl⟩
              obtain ⟨b, hbb⟩ : ∃ b, b = (f j).2 := ⟨_, rfl⟩
              obtain ⟨z, hz⟩ : ∃ z, z = skk p K D E P Q G (f j).1 (f j).2 := ⟨_, rfl⟩
              obtain ⟨xs, hxs⟩ : ∃ xs, xs = lbF (slG p s K D E P Q G f) j := ⟨_, rfl⟩
              rw [← hz] at HSn HKj HEj
              rw [← ha] at HSn HKj HG0
              rw [← hbb] at HSn HKj HG0
              rw [← hxs] at HSn HO
              obtain ⟨q, hq⟩ : ∃ q, q = enc z.1 z.2 s.1 s.2 := ⟨_, rfl⟩
              rw [← hq] at HSn HEj
              have HO8 : Hid (wr.ownsRow N 112 18 v j xs) := HO
              have HS8 : Hid (N ≤ wr.heap.size) := Lib.hid (by have := HS.out.2; have := HHB.out; omega)
              have hk2 : j < 2 ^ 40 := by have := HN64.out; omega
              clear hgk hI h0 ha hbb hz hxs hq hj
              go_wp2_with fail
              have l3 : j ≤ 64 := by have := HN64.out; omega
              obtain ⟨i0, hi, hz0, hz1, hz2⟩ := info_parts infoItm
              have HI := Lib.hid (And.intro hi (And.intro hz0 (And.intro hz1 hz2)))
              clear hi hz0 hz1 hz2
              refine wp_region_inv (by kernel_rfl) (by kernel_rfl) (fun l a' w' => ∃ (v2 : Value) (gb : Nat) (w1 : World), a' = { tmps := #[Value.agg (kl p.fst p.snd).toArray, Value.agg #[Value.int IntKind.u8 K, Value.int IntKind.i64 D, Value.int IntKind.i64 E, Value.int IntKind.u64 P, Value.int IntKind.u64 Q, Value.int IntKind.u64 G], Value.slice (some ⟨g, o, none⟩) k c, Value.agg (kl s.fst s.snd).toArray, Value.pointer (some ⟨N, 0, none⟩), Value.pointer (some ⟨N + 1, 0, none⟩), undef, Value.pointer (some ⟨N + 1 + 1, 0, none⟩), Value.pointer (some ⟨N + 1 + 1 + 1, 0, none⟩), u9, Value.int .i64 (k : Int), Value.pointer (some ⟨hb, 0, none⟩), Value.int .i64 (j : Int), Value.agg #[Value.int IntKind.u8 K, Value.int IntKind.i64 D, Value.int IntKind.i64 E, Value.int IntKind.u64 P, Value.int IntKind.u64 Q, Value.int IntKind.u64 G], Value.bool true, Value.bool false, undef, Value.slice (some ⟨g, o, none⟩) k c, Value.int .i64 (k : Int), Value.bool (decide ((64 : Int) < (k : Int))), undef, Value.int .i64 (k : Int), Value.slice (some ⟨g, o, none⟩) k c, Value.int .i64 (k : Int), Value.bool false, u25, u26, u27, u28, u29, u30, u31, u32, u33, u34, Value.agg (kl s.fst s.snd).toArray, Value.agg (kl ck.fst ck.snd).toArray, Value.agg (hdi (Value.slice none 0 0) (Value.slice none 0 0) 0 (0, 0) ck).toArray, Value.int .i64 (j : Int), Value.slice (some ⟨g, o, none⟩) k c, Value.int .i64 (k : Int), Value.bool true, u42, u43, bif l 0 then Value.pointer (some ⟨hb, 0, none⟩) else u44, bif l 1 then v else u45, bif l 2 then Value.slice (some ⟨g, o, none⟩) k c else u46, bif l 3 then Value.int .i64 (j : Int) else u47, bif l 4 then Value.pointer (some ⟨g, o + j * 2, none⟩) else u48, bif l 5 then Value.agg #[Value.int .i64 a, Value.int .i64 b] else u49, bif l 6 then Value.agg (kl p.1 p.2).toArray else u50, bif l 7 then Value.agg #[Value.int .u8 K, Value.int .i64 D, Value.int .i64 E, Value.int .u64 (P : Int), Value.int .u64 (Q : Int), Value.int .u64 (G : Int)] else u51, bif l 8 then Value.slice (some ⟨g, o, none⟩) k c else u52, bif l 9 then Value.int .i64 (j : Int) else u53, bif l 10 then Value.pointer (some ⟨g, o + j * 2, none⟩) else u54, bif l 11 then Value.agg #[Value.int .i64 a, Value.int .i64 b] else u55, bif l 12 then Value.agg (kl z.1 z.2).toArray else u56, bif l 13 then Value.agg (kl s.1 s.2).toArray else u57, bif l 14 then Value.agg (kl q.1 q.2).toArray else u58, bif l 15 then Value.agg (lbl a b q).toArray else u59, bif l 16 then Value.slice (some ⟨gb, 0, none⟩) 1 1 else u60, bif l 17 then v2 else u61, bif l 18 then Value.pointer (some ⟨hb, 0, none⟩) else u62, undef], defers := [] } ∧ (wr.grownBy w1 v.ownBlock) ∧ (l 17 = false → w1.cell? ⟨g, o + j * 2, none⟩ = some (.int .i64 a) ∧ w1.cell? ⟨g, o + j * 2 + 1, none⟩ = some (.int .i64 b)) ∧ (l 17 = false → w1.ownsRow N 112 18 v j xs) ∧ (l 16 = true → l 17 = false → Blk w1 gb (lbl a b q).toArray 112) ∧ (l 17 = true → w1.ownsRow N 112 18 v2 (j + 1) (xs ++ (lbl a b q))) ∧ (l 17 = true → l 5 = true) ∧ (l 17 = true → l 11 = true) ∧ (l 12 = true → l 11 = true) ∧ (l 14 = true → l 12 = true) ∧ (l 15 = true → l 5 = true) ∧ (l 15 = true → l 14 = true) ∧ (l 16 = true → l 15 = true) ∧ w' = (bif l 19 then w1.setCell ⟨hb, 0, none⟩ v2 else w1) ∧ (l 19 = true → (l 0 && l 1 && l 2 && l 3 && l 4 && l 5 && l 6 && l 7 && l 8 && l 9 && l 10 && l 11 && l 12 && l 13 && l 14 && l 15 && l 16 && l 17 && l 18) = true)) ⟨v, 0, wr.drew, rfl, ⟨rfl, rfl, rfl, Nat.le_refl _, fun _ _ _ => rfl⟩, (fun _ => HG0.out), (fun _ => (HO8.out : wr.drew.ownsRow N 112 18 v j xs)), (fun h => by cases h), (fun h => by cases h), (fun h => by cases h), (fun h => by cases h), (fun h => by cases h), (fun h => by cases h), (fun h => by cases h), (fun h => by cases h), (fun h => by cases h), rfl, (fun h => by cases h)⟩ ?_ ?_
              · rintro l a' w' i ⟨v2, gb, w1, rfl, hG, hg, cR, cS, cO, o5, o5b, o12, o14, o15, o15b, o16, hw, oS⟩ hi' hli hpre
                have hi2 : i < 20 := hi'
                have hcase : i = 0 ∨ i = 1 ∨ i = 2 ∨ i = 3 ∨ i = 4 ∨ i = 5 ∨ i = 6 ∨ i = 7 ∨ i = 8 ∨ i = 9 ∨ i = 10 ∨ i = 11 ∨ i = 12 ∨ i = 13 ∨ i = 14 ∨ i = 15 ∨ i = 16 ∨ i = 17 ∨ i = 18 ∨ i = 19 := by omega
                clear hi' hi2
                rcases hcase with rfl | rfl | rfl | rfl | rfl | rfl | rfl | rfl | rfl | rfl | rfl | rfl | rfl | rfl | rfl | rfl | rfl | rfl | rfl | rfl
                · -- 0: Op.fieldAddr 59 (Operand.tmp 11) 0
                  refine wpOp_step rfl (fun K' hK => ?_)
                  have nS : l 19 = false := by
                    cases h : l 19
                    · rfl
                    · have := oS h; simp [hli] at this
                  rw [nS, cond_false] at hw
                  subst hw
                  clear hpre
                  rw [if_pos (by rfl)]
                  go_simp
                  exact hK _ _ ⟨v2, gb, w', by simp [upd, Act.put], hG, (fun e0 => (hg (by simpa [upd] using e0))), (fun e0 => (cR (by simpa [upd] using e0))), (fun e0 e1 => (cS (by simpa [upd] using e0) (by simpa [upd] using e1))), (fun e0 => (cO (by simpa [upd] using e0))), (fun e0 => (by first | (simp [upd]; done) | simpa [upd] using (o5 (by simpa [upd] using e0)))), (fun e0 => (by first | (simp [upd]; done) | simpa [upd] using (o5b (by simpa [upd] using e0)))), (fun e0 => (by first | (simp [upd]; done) | simpa [upd] using (o12 (by simpa [upd] using e0)))), (fun e0 => (by first | (simp [upd]; done) | simpa [upd] using (o14 (by simpa [upd] using e0)))), (fun e0 => (by first | (simp [upd]; done) | simpa [upd] using (o15 (by simpa [upd] using e0)))), (fun e0 => (by first | (simp [upd]; done) | simpa [upd] using (o15b (by simpa [upd] using e0)))), (fun e0 => (by first | (simp [upd]; done) | simpa [upd] using (o16 (by simpa [upd] using e0)))), by simp [upd, nS], (fun e => absurd e (by simp [upd, nS]))⟩
                · -- 1: Op.load 56 (Operand.tmp 44)
                  have p0 : l 0 = true := hpre _ rfl ⟨0, .data⟩ (by simp) rfl
                  refine wpOp_step rfl (fun K' hK => ?_)
                  have nS : l 19 = false := by
                    cases h : l 19
                    · rfl
                    · have := oS h; simp [hli] at this
                  rw [nS, cond_false] at hw
                  subst hw
                  simp only [p0, cond_true, cond_false]
                  clear hpre
                  rw [if_pos (by rfl)]
                  have z1 : w'.cell? ⟨hb, 0, none⟩ = some v := Hdx.c0 (Blk.grown HB.out.2.2.2.2 hG (Blk.apart HB.out.2.2.2.2 HO8.out (by decide)))
                  go_simp
                  exact hK _ _ ⟨v2, gb, w', by simp [upd, Act.put, p0], hG, (fun e0 => (hg (by simpa [upd] using e0))), (fun e0 => (cR (by simpa [upd] using e0))), (fun e0 e1 => (cS (by simpa [upd] using e0) (by simpa [upd] using e1))), (fun e0 => (cO (by simpa [upd] using e0))), (fun e0 => (by first | (simp [upd]; done) | simpa [upd] using (o5 (by simpa [upd] using e0)))), (fun e0 => (by first | (simp [upd]; done) | simpa [upd] using (o5b (by simpa [upd] using e0)))), (fun e0 => (by first | (simp [upd]; done) | simpa [upd] using (o12 (by simpa [upd] using e0)))), (fun e0 => (by first | (simp [upd]; done) | simpa [upd] using (o14 (by simpa [upd] using e0)))), (fun e0 => (by first | (simp [upd]; done) | simpa [upd] using (o15 (by simpa [upd] using e0)))), (fun e0 => (by first | (simp [upd]; done) | simpa [upd] using (o15b (by simpa [upd] using e0)))), (fun e0 => (by first | (simp [upd]; done) | simpa [upd] using (o16 (by simpa [upd] using e0)))), by simp [upd, nS], (fun e => absurd e (by simp [upd, nS]))⟩
                · -- 2: Op.move (Operand.tmp 2)
                  refine wpOp_step rfl (fun K' hK => ?_)
                  have nS : l 19 = false := by
                    cases h : l 19
                    · rfl
                    · have := oS h; simp [hli] at this
                  rw [nS, cond_false] at hw
                  subst hw
                  clear hpre
                  rw [if_pos (by rfl)]
                  go_simp
                  exact hK _ _ ⟨v2, gb, w', by simp [upd, Act.put], hG, (fun e0 => (hg (by simpa [upd] using e0))), (fun e0 => (cR (by simpa [upd] using e0))), (fun e0 e1 => (cS (by simpa [upd] using e0) (by simpa [upd] using e1))), (fun e0 => (cO (by simpa [upd] using e0))), (fun e0 => (by first | (simp [upd]; done) | simpa [upd] using (o5 (by simpa [upd] using e0)))), (fun e0 => (by first | (simp [upd]; done) | simpa [upd] using (o5b (by simpa [upd] using e0)))), (fun e0 => (by first | (simp [upd]; done) | simpa [upd] using (o12 (by simpa [upd] using e0)))), (fun e0 => (by first | (simp [upd]; done) | simpa [upd] using (o14 (by simpa [upd] using e0)))), (fun e0 => (by first | (simp [upd]; done) | simpa [upd] using (o15 (by simpa [upd] using e0)))), (fun e0 => (by first | (simp [upd]; done) | simpa [upd] using (o15b (by simpa [upd] using e0)))), (fun e0 => (by first | (simp [upd]; done) | simpa [upd] using (o16 (by simpa [upd] using e0)))), by simp [upd, nS], (fun e => absurd e (by simp [upd, nS]))⟩
                · -- 3: Op.move (Operand.tmp 12)
                  refine wpOp_step rfl (fun K' hK => ?_)
                  have nS : l 19 = false := by
                    cases h : l 19
                    · rfl
                    · have := oS h; simp [hli] at this
                  rw [nS, cond_false] at hw
                  subst hw
                  clear hpre
                  rw [if_pos (by rfl)]
                  go_simp
                  exact hK _ _ ⟨v2, gb, w', by simp [upd, Act.put], hG, (fun e0 => (hg (by simpa [upd] using e0))), (fun e0 => (cR (by simpa [upd] using e0))), (fun e0 e1 => (cS (by simpa [upd] using e0) (by simpa [upd] using e1))), (fun e0 => (cO (by simpa [upd] using e0))), (fun e0 => (by first | (simp [upd]; done) | simpa [upd] using (o5 (by simpa [upd] using e0)))), (fun e0 => (by first | (simp [upd]; done) | simpa [upd] using (o5b (by simpa [upd] using e0)))), (fun e0 => (by first | (simp [upd]; done) | simpa [upd] using (o12 (by simpa [upd] using e0)))), (fun e0 => (by first | (simp [upd]; done) | simpa [upd] using (o14 (by simpa [upd] using e0)))), (fun e0 => (by first | (simp [upd]; done) | simpa [upd] using (o15 (by simpa [upd] using e0)))), (fun e0 => (by first | (simp [upd]; done) | simpa [upd] using (o15b (by simpa [upd] using e0)))), (fun e0 => (by first | (simp [upd]; done) | simpa [upd] using (o16 (by simpa [upd] using e0)))), by simp [upd, nS], (fun e => absurd e (by simp [upd, nS]))⟩
                · -- 4: Op.indexAddr 55 (Operand.tmp 46) (Operand.tmp 47)
                  have p2 : l 2 = true := hpre _ rfl ⟨2, .data⟩ (by simp) rfl
                  have p3 : l 3 = true := hpre _ rfl ⟨3, .data⟩ (by simp) rfl
                  refine wpOp_step rfl (fun K' hK => ?_)
                  have nS : l 19 = false := by
                    cases h : l 19
                    · rfl
                    · have := oS h; simp [hli] at this
                  rw [nS, cond_false] at hw
                  subst hw
                  simp only [p2, p3, cond_true, cond_false]
                  clear hpre
                  rw [if_pos (by rfl)]
                  go_simp
                  exact hK _ _ ⟨v2, gb, w', by simp [upd, Act.put, p2, p3], hG, (fun e0 => (hg (by simpa [upd] using e0))), (fun e0 => (cR (by simpa [upd] using e0))), (fun e0 e1 => (cS (by simpa [upd] using e0) (by simpa [upd] using e1))), (fun e0 => (cO (by simpa [upd] using e0))), (fun e0 => (by first | (simp [upd]; done) | simpa [upd] using (o5 (by simpa [upd] using e0)))), (fun e0 => (by first | (simp [upd]; done) | simpa [upd] using (o5b (by simpa [upd] using e0)))), (fun e0 => (by first | (simp [upd]; done) | simpa [upd] using (o12 (by simpa [upd] using e0)))), (fun e0 => (by first | (simp [upd]; done) | simpa [upd] using (o14 (by simpa [upd] using e0)))), (fun e0 => (by first | (simp [upd]; done) | simpa [upd] using (o15 (by simpa [upd] using e0)))), (fun e0 => (by first | (simp [upd]; done) | simpa [upd] using (o15b (by simpa [upd] using e0)))), (fun e0 => (by first | (simp [upd]; done) | simpa [upd] using (o16 (by simpa [upd] using e0)))), by simp [upd, nS], (fun e => absurd e (by simp [upd, nS]))⟩
                · -- 5: Op.load 35 (Operand.tmp 48)
                  have p4 : l 4 = true := hpre _ rfl ⟨4, .data⟩ (by simp) rfl
                  refine wpOp_step rfl (fun K' hK => ?_)
                  have nS : l 19 = false := by
                    cases h : l 19
                    · rfl
                    · have := oS h; simp [hli] at this
                  rw [nS, cond_false] at hw
                  subst hw
                  have n17 : l 17 = false := by
                    cases h : l 17
                    · rfl
                    · exact absurd (o5 h) (by rw [hli]; decide)
                  simp only [p4, n17, cond_true, cond_false]
                  clear hpre
                  rw [if_pos (by rfl)]
                  have g0 := (hg n17).1
                  have g1 := (hg n17).2
                  go_simp
                  exact hK _ _ ⟨v2, gb, w', by simp [upd, Act.put, p4, n17], hG, (fun e0 => (hg (by simpa [upd] using e0))), (fun e0 => (cR (by simpa [upd] using e0))), (fun e0 e1 => (cS (by simpa [upd] using e0) (by simpa [upd] using e1))), (fun e0 => (cO (by simpa [upd] using e0))), (fun e0 => (by first | (simp [upd]; done) | simpa [upd] using (o5 (by simpa [upd] using e0)))), (fun e0 => (by first | (simp [upd]; done) | simpa [upd] using (o5b (by simpa [upd] using e0)))), (fun e0 => (by first | (simp [upd]; done) | simpa [upd] using (o12 (by simpa [upd] using e0)))), (fun e0 => (by first | (simp [upd]; done) | simpa [upd] using (o14 (by simpa [upd] using e0)))), (fun e0 => (by first | (simp [upd]; done) | simpa [upd] using (o15 (by simpa [upd] using e0)))), (fun e0 => (by first | (simp [upd]; done) | simpa [upd] using (o15b (by simpa [upd] using e0)))), (fun e0 => (by first | (simp [upd]; done) | simpa [upd] using (o16 (by simpa [upd] using e0)))), by simp [upd, nS], (fun e => absurd e (by simp [upd, nS]))⟩
                · -- 6: Op.load 23 (Operand.tmp 4)
                  refine wpOp_step rfl (fun K' hK => ?_)
                  have nS : l 19 = false := by
                    cases h : l 19
                    · rfl
                    · have := oS h; simp [hli] at this
                  rw [nS, cond_false] at hw
                  subst hw
                  clear hpre
                  rw [if_pos (by rfl)]
                  refine wp_load_mid 23 _ rfl _ 0 rfl (kl p.1 p.2) _ (Kbx.at_ (Blk.grown HB.out.1 hG (Blk.apart HB.out.1 HO8.out (by decide)))) Try.underlying23 rfl (by rw [kl_len]; exact size23) ?_
                  exact hK _ _ ⟨v2, gb, w', by simp [upd, Act.put], hG, (fun e0 => (hg (by simpa [upd] using e0))), (fun e0 => (cR (by simpa [upd] using e0))), (fun e0 e1 => (cS (by simpa [upd] using e0) (by simpa [upd] using e1))), (fun e0 => (cO (by simpa [upd] using e0))), (fun e0 => (by first | (simp [upd]; done) | simpa [upd] using (o5 (by simpa [upd] using e0)))), (fun e0 => (by first | (simp [upd]; done) | simpa [upd] using (o5b (by simpa [upd] using e0)))), (fun e0 => (by first | (simp [upd]; done) | simpa [upd] using (o12 (by simpa [upd] using e0)))), (fun e0 => (by first | (simp [upd]; done) | simpa [upd] using (o14 (by simpa [upd] using e0)))), (fun e0 => (by first | (simp [upd]; done) | simpa [upd] using (o15 (by simpa [upd] using e0)))), (fun e0 => (by first | (simp [upd]; done) | simpa [upd] using (o15b (by simpa [upd] using e0)))), (fun e0 => (by first | (simp [upd]; done) | simpa [upd] using (o16 (by simpa [upd] using e0)))), by simp [upd, nS], (fun e => absurd e (by simp [upd, nS]))⟩
                · -- 7: Op.load 28 (Operand.tmp 5)
                  refine wpOp_step rfl (fun K' hK => ?_)
                  have nS : l 19 = false := by
                    cases h : l 19
                    · rfl
                    · have := oS h; simp [hli] at this
                  rw [nS, cond_false] at hw
                  subst hw
                  clear hpre
                  rw [if_pos (by rfl)]
                  refine wp_load_mid 28 _ rfl _ 0 rfl #[Value.int .u8 K, Value.int .i64 D, Value.int .i64 E, Value.int .u64 (P : Int), Value.int .u64 (Q : Int), Value.int .u64 (G : Int)].toList _ (Blk.grown HB.out.2.1 hG (Blk.apart HB.out.2.1 HO8.out (by decide))).range Try.underlying28 rfl sizeSch ?_
                  exact hK _ _ ⟨v2, gb, w', by simp [upd, Act.put], hG, (fun e0 => (hg (by simpa [upd] using e0))), (fun e0 => (cR (by simpa [upd] using e0))), (fun e0 e1 => (cS (by simpa [upd] using e0) (by simpa [upd] using e1))), (fun e0 => (cO (by simpa [upd] using e0))), (fun e0 => (by first | (simp [upd]; done) | simpa [upd] using (o5 (by simpa [upd] using e0)))), (fun e0 => (by first | (simp [upd]; done) | simpa [upd] using (o5b (by simpa [upd] using e0)))), (fun e0 => (by first | (simp [upd]; done) | simpa [upd] using (o12 (by simpa [upd] using e0)))), (fun e0 => (by first | (simp [upd]; done) | simpa [upd] using (o14 (by simpa [upd] using e0)))), (fun e0 => (by first | (simp [upd]; done) | simpa [upd] using (o15 (by simpa [upd] using e0)))), (fun e0 => (by first | (simp [upd]; done) | simpa [upd] using (o15b (by simpa [upd] using e0)))), (fun e0 => (by first | (simp [upd]; done) | simpa [upd] using (o16 (by simpa [upd] using e0)))), by simp [upd, nS], (fun e => absurd e (by simp [upd, nS]))⟩
                · -- 8: Op.move (Operand.tmp 2)
                  refine wpOp_step rfl (fun K' hK => ?_)
                  have nS : l 19 = false := by
                    cases h : l 19
                    · rfl
                    · have := oS h; simp [hli] at this
                  rw [nS, cond_false] at hw
                  subst hw
                  clear hpre
                  rw [if_pos (by rfl)]
                  go_simp
                  exact hK _ _ ⟨v2, gb, w', by simp [upd, Act.put], hG, (fun e0 => (hg (by simpa [upd] using e0))), (fun e0 => (cR (by simpa [upd] using e0))), (fun e0 e1 => (cS (by simpa [upd] using e0) (by simpa [upd] using e1))), (fun e0 => (cO (by simpa [upd] using e0))), (fun e0 => (by first | (simp [upd]; done) | simpa [upd] using (o5 (by simpa [upd] using e0)))), (fun e0 => (by first | (simp [upd]; done) | simpa [upd] using (o5b (by simpa [upd] using e0)))), (fun e0 => (by first | (simp [upd]; done) | simpa [upd] using (o12 (by simpa [upd] using e0)))), (fun e0 => (by first | (simp [upd]; done) | simpa [upd] using (o14 (by simpa [upd] using e0)))), (fun e0 => (by first | (simp [upd]; done) | simpa [upd] using (o15 (by simpa [upd] using e0)))), (fun e0 => (by first | (simp [upd]; done) | simpa [upd] using (o15b (by simpa [upd] using e0)))), (fun e0 => (by first | (simp [upd]; done) | simpa [upd] using (o16 (by simpa [upd] using e0)))), by simp [upd, nS], (fun e => absurd e (by simp [upd, nS]))⟩
                · -- 9: Op.move (Operand.tmp 12)
                  refine wpOp_step rfl (fun K' hK => ?_)
                  have nS : l 19 = false := by
                    cases h : l 19
                    · rfl
                    · have := oS h; simp [hli] at this
                  rw [nS, cond_false] at hw
                  subst hw
                  clear hpre
                  rw [if_pos (by rfl)]
                  go_simp
                  exact hK _ _ ⟨v2, gb, w', by simp [upd, Act.put], hG, (fun e0 => (hg (by simpa [upd] using e0))), (fun e0 => (cR (by simpa [upd] using e0))), (fun e0 e1 => (cS (by simpa [upd] using e0) (by simpa [upd] using e1))), (fun e0 => (cO (by simpa [upd] using e0))), (fun e0 => (by first | (simp [upd]; done) | simpa [upd] using (o5 (by simpa [upd] using e0)))), (fun e0 => (by first | (simp [upd]; done) | simpa [upd] using (o5b (by simpa [upd] using e0)))), (fun e0 => (by first | (simp [upd]; done) | simpa [upd] using (o12 (by simpa [upd] using e0)))), (fun e0 => (by first | (simp [upd]; done) | simpa [upd] using (o14 (by simpa [upd] using e0)))), (fun e0 => (by first | (simp [upd]; done) | simpa [upd] using (o15 (by simpa [upd] using e0)))), (fun e0 => (by first | (simp [upd]; done) | simpa [upd] using (o15b (by simpa [upd] using e0)))), (fun e0 => (by first | (simp [upd]; done) | simpa [upd] using (o16 (by simpa [upd] using e0)))), by simp [upd, nS], (fun e => absurd e (by simp [upd, nS]))⟩
                · -- 10: Op.indexAddr 55 (Operand.tmp 52) (Operand.tmp 53)
                  have p8 : l 8 = true := hpre _ rfl ⟨8, .data⟩ (by simp) rfl
                  have p9 : l 9 = true := hpre _ rfl ⟨9, .data⟩ (by simp) rfl
                  refine wpOp_step rfl (fun K' hK => ?_)
                  have nS : l 19 = false := by
                    cases h : l 19
                    · rfl
                    · have := oS h; simp [hli] at this
                  rw [nS, cond_false] at hw
                  subst hw
                  simp only [p8, p9, cond_true, cond_false]
                  clear hpre
                  rw [if_pos (by rfl)]
                  go_simp
                  exact hK _ _ ⟨v2, gb, w', by simp [upd, Act.put, p8, p9], hG, (fun e0 => (hg (by simpa [upd] using e0))), (fun e0 => (cR (by simpa [upd] using e0))), (fun e0 e1 => (cS (by simpa [upd] using e0) (by simpa [upd] using e1))), (fun e0 => (cO (by simpa [upd] using e0))), (fun e0 => (by first | (simp [upd]; done) | simpa [upd] using (o5 (by simpa [upd] using e0)))), (fun e0 => (by first | (simp [upd]; done) | simpa [upd] using (o5b (by simpa [upd] using e0)))), (fun e0 => (by first | (simp [upd]; done) | simpa [upd] using (o12 (by simpa [upd] using e0)))), (fun e0 => (by first | (simp [upd]; done) | simpa [upd] using (o14 (by simpa [upd] using e0)))), (fun e0 => (by first | (simp [upd]; done) | simpa [upd] using (o15 (by simpa [upd] using e0)))), (fun e0 => (by first | (simp [upd]; done) | simpa [upd] using (o15b (by simpa [upd] using e0)))), (fun e0 => (by first | (simp [upd]; done) | simpa [upd] using (o16 (by simpa [upd] using e0)))), by simp [upd, nS], (fun e => absurd e (by simp [upd, nS]))⟩
                · -- 11: Op.load 35 (Operand.tmp 54)
                  have p10 : l 10 = true := hpre _ rfl ⟨10, .data⟩ (by simp) rfl
                  refine wpOp_step rfl (fun K' hK => ?_)
                  have nS : l 19 = false := by
                    cases h : l 19
                    · rfl
                    · have := oS h; simp [hli] at this
                  rw [nS, cond_false] at hw
                  subst hw
                  have n17 : l 17 = false := by
                    cases h : l 17
                    · rfl
                    · exact absurd (o5b h) (by rw [hli]; decide)
                  simp only [p10, n17, cond_true, cond_false]
                  clear hpre
                  rw [if_pos (by rfl)]
                  have g0 := (hg n17).1
                  have g1 := (hg n17).2
                  go_simp
                  exact hK _ _ ⟨v2, gb, w', by simp [upd, Act.put, p10, n17], hG, (fun e0 => (hg (by simpa [upd] using e0))), (fun e0 => (cR (by simpa [upd] using e0))), (fun e0 e1 => (cS (by simpa [upd] using e0) (by simpa [upd] using e1))), (fun e0 => (cO (by simpa [upd] using e0))), (fun e0 => (by first | (simp [upd]; done) | simpa [upd] using (o5 (by simpa [upd] using e0)))), (fun e0 => (by first | (simp [upd]; done) | simpa [upd] using (o5b (by simpa [upd] using e0)))), (fun e0 => (by first | (simp [upd]; done) | simpa [upd] using (o12 (by simpa [upd] using e0)))), (fun e0 => (by first | (simp [upd]; done) | simpa [upd] using (o14 (by simpa [upd] using e0)))), (fun e0 => (by first | (simp [upd]; done) | simpa [upd] using (o15 (by simpa [upd] using e0)))), (fun e0 => (by first | (simp [upd]; done) | simpa [upd] using (o15b (by simpa [upd] using e0)))), (fun e0 => (by first | (simp [upd]; done) | simpa [upd] using (o16 (by simpa [upd] using e0)))), by simp [upd, nS], (fun e => absurd e (by simp [upd, nS]))⟩
                · -- 12: Op.call { callee := Callee.value (Operand.func 37), args := 
                  have p6 : l 6 = true := hpre _ rfl ⟨6, .data⟩ (by simp) rfl
                  have p7 : l 7 = true := hpre _ rfl ⟨7, .data⟩ (by simp) rfl
                  have p11 : l 11 = true := hpre _ rfl ⟨11, .data⟩ (by simp) rfl
                  refine wpOp_step rfl (fun K' hK => ?_)
                  have nS : l 19 = false := by
                    cases h : l 19
                    · rfl
                    · have := oS h; simp [hli] at this
                  rw [nS, cond_false] at hw
                  subst hw
                  simp only [p6, p7, p11, cond_true, cond_false]
                  clear hpre
                  rw [if_pos (by rfl)]
                  go_simp
                  refine (HKj.out _).mono ?_
                  rintro e w5 ⟨rfl, hb5⟩
                  exact hK _ _ ⟨v2, gb, w5, by simp [upd, Act.put, p6, p7, p11], grownBy_below hG hb5, (fun e0 => (below_cell2 hb5 ((hg (by simpa [upd] using e0))))), (fun e0 => own_below ((cR (by simpa [upd] using e0))) hb5), (fun e0 e1 => Blk.keep ((cS (by simpa [upd] using e0) (by simpa [upd] using e1))) hb5), (fun e0 => own_below ((cO (by simpa [upd] using e0))) hb5), (fun e0 => (by first | (simp [upd]; done) | simpa [upd] using (o5 (by simpa [upd] using e0)))), (fun e0 => (by first | (simp [upd]; done) | simpa [upd] using (o5b (by simpa [upd] using e0)))), (fun _ => by simp [upd, p11]), (fun e0 => (by first | (simp [upd]; done) | simpa [upd] using (o14 (by simpa [upd] using e0)))), (fun e0 => (by first | (simp [upd]; done) | simpa [upd] using (o15 (by simpa [upd] using e0)))), (fun e0 => (by first | (simp [upd]; done) | simpa [upd] using (o15b (by simpa [upd] using e0)))), (fun e0 => (by first | (simp [upd]; done) | simpa [upd] using (o16 (by simpa [upd] using e0)))), by simp [upd, nS], (fun e => absurd e (by simp [upd, nS]))⟩
                · -- 13: Op.load 23 (Operand.tmp 7)
                  refine wpOp_step rfl (fun K' hK => ?_)
                  have nS : l 19 = false := by
                    cases h : l 19
                    · rfl
                    · have := oS h; simp [hli] at this
                  rw [nS, cond_false] at hw
                  subst hw
                  clear hpre
                  rw [if_pos (by rfl)]
                  refine wp_load_mid 23 _ rfl _ 0 rfl (kl s.1 s.2) _ (Kbx.at_ (Blk.grown HB.out.2.2.1 hG (Blk.apart HB.out.2.2.1 HO8.out (by decide)))) Try.underlying23 rfl (by rw [kl_len]; exact size23) ?_
                  exact hK _ _ ⟨v2, gb, w', by simp [upd, Act.put], hG, (fun e0 => (hg (by simpa [upd] using e0))), (fun e0 => (cR (by simpa [upd] using e0))), (fun e0 e1 => (cS (by simpa [upd] using e0) (by simpa [upd] using e1))), (fun e0 => (cO (by simpa [upd] using e0))), (fun e0 => (by first | (simp [upd]; done) | simpa [upd] using (o5 (by simpa [upd] using e0)))), (fun e0 => (by first | (simp [upd]; done) | simpa [upd] using (o5b (by simpa [upd] using e0)))), (fun e0 => (by first | (simp [upd]; done) | simpa [upd] using (o12 (by simpa [upd] using e0)))), (fun e0 => (by first | (simp [upd]; done) | simpa [upd] using (o14 (by simpa [upd] using e0)))), (fun e0 => (by first | (simp [upd]; done) | simpa [upd] using (o15 (by simpa [upd] using e0)))), (fun e0 => (by first | (simp [upd]; done) | simpa [upd] using (o15b (by simpa [upd] using e0)))), (fun e0 => (by first | (simp [upd]; done) | simpa [upd] using (o16 (by simpa [upd] using e0)))), by simp [upd, nS], (fun e => absurd e (by simp [upd, nS]))⟩
                · -- 14: Op.call { callee := Callee.value (Operand.func 59), args := 
                  have p12 : l 12 = true := hpre _ rfl ⟨12, .data⟩ (by simp) rfl
                  have p13 : l 13 = true := hpre _ rfl ⟨13, .data⟩ (by simp) rfl
                  refine wpOp_step rfl (fun K' hK => ?_)
                  have nS : l 19 = false := by
                    cases h : l 19
                    · rfl
                    · have := oS h; simp [hli] at this
                  rw [nS, cond_false] at hw
                  subst hw
                  have p11 := o12 p12
                  simp only [p12, p13, p11, cond_true, cond_false]
                  clear hpre
                  rw [if_pos (by rfl)]
                  go_simp
                  refine (HEj.out _).mono ?_
                  rintro e w5 ⟨rfl, hb5⟩
                  exact hK _ _ ⟨v2, gb, w5, by simp [upd, Act.put, p12, p13, p11], grownBy_below hG hb5, (fun e0 => (below_cell2 hb5 ((hg (by simpa [upd] using e0))))), (fun e0 => own_below ((cR (by simpa [upd] using e0))) hb5), (fun e0 e1 => Blk.keep ((cS (by simpa [upd] using e0) (by simpa [upd] using e1))) hb5), (fun e0 => own_below ((cO (by simpa [upd] using e0))) hb5), (fun e0 => (by first | (simp [upd]; done) | simpa [upd] using (o5 (by simpa [upd] using e0)))), (fun e0 => (by first | (simp [upd]; done) | simpa [upd] using (o5b (by simpa [upd] using e0)))), (fun e0 => (by first | (simp [upd]; done) | simpa [upd] using (o12 (by simpa [upd] using e0)))), (fun _ => by simp [upd, p12]), (fun e0 => (by first | (simp [upd]; done) | simpa [upd] using (o15 (by simpa [upd] using e0)))), (fun e0 => (by first | (simp [upd]; done) | simpa [upd] using (o15b (by simpa [upd] using e0)))), (fun e0 => (by first | (simp [upd]; done) | simpa [upd] using (o16 (by simpa [upd] using e0)))), by simp [upd, nS], (fun e => absurd e (by simp [upd, nS]))⟩
                · -- 15: Op.build 112 #[(0, Operand.tmp 49), (1, Operand.tmp 58)]
                  have p5 : l 5 = true := hpre _ rfl ⟨5, .data⟩ (by simp) rfl
                  have p14 : l 14 = true := hpre _ rfl ⟨14, .data⟩ (by simp) rfl
                  refine wpOp_step rfl (fun K' hK => ?_)
                  have nS : l 19 = false := by
                    cases h : l 19
                    · rfl
                    · have := oS h; simp [hli] at this
                  rw [nS, cond_false] at hw
                  subst hw
                  have p12 := o14 p14
                  have p11 := o12 p12
                  simp only [p5, p14, p12, p11, cond_true, cond_false]
                  clear hpre
                  rw [if_pos (by rfl)]
                  refine wp_buildItm _ _ rfl a b q rfl rfl ?_
                  exact hK _ _ ⟨v2, gb, w', by simp [upd, Act.put, p5, p14, p12, p11], hG, (fun e0 => (hg (by simpa [upd] using e0))), (fun e0 => (cR (by simpa [upd] using e0))), (fun e0 e1 => (cS (by simpa [upd] using e0) (by simpa [upd] using e1))), (fun e0 => (cO (by simpa [upd] using e0))), (fun e0 => (by first | (simp [upd]; done) | simpa [upd] using (o5 (by simpa [upd] using e0)))), (fun e0 => (by first | (simp [upd]; done) | simpa [upd] using (o5b (by simpa [upd] using e0)))), (fun e0 => (by first | (simp [upd]; done) | simpa [upd] using (o12 (by simpa [upd] using e0)))), (fun e0 => (by first | (simp [upd]; done) | simpa [upd] using (o14 (by simpa [upd] using e0)))), (fun _ => by simp [upd, p5]), (fun _ => by simp [upd, p14]), (fun e0 => (by first | (simp [upd]; done) | simpa [upd] using (o16 (by simpa [upd] using e0)))), by simp [upd, nS], (fun e => absurd e (by simp [upd, nS]))⟩
                · -- 16: Op.buildSlice 56 1 #[(0, Operand.tmp 59)]
                  have p15 : l 15 = true := hpre _ rfl ⟨15, .data⟩ (by simp) rfl
                  refine wpOp_step rfl (fun K' hK => ?_)
                  have nS : l 19 = false := by
                    cases h : l 19
                    · rfl
                    · have := oS h; simp [hli] at this
                  rw [nS, cond_false] at hw
                  subst hw
                  have p5 := o15 p15
                  have p14 := o15b p15
                  have p12 := o14 p14
                  have p11 := o12 p12
                  simp only [p15, p5, p14, p12, p11, cond_true, cond_false]
                  clear hpre
                  rw [if_pos (by rfl)]
                  refine wp_buildSliceI _ rfl rfl ?_
                  exact hK _ _ ⟨v2, w'.heap.size, w'.alloc (.cells (lbl a b q).toArray 112), by simp [upd, Act.put, p15, p5, p14, p12, p11], grownBy_below hG (below_alloc _ _), (fun e0 => (below_cell2 (below_alloc _ _) ((hg (by simpa [upd] using e0))))), (fun e0 => own_below ((cR (by simpa [upd] using e0))) (below_alloc _ _)), (fun _ _ => Blk.new w' _ 112), (fun e0 => own_below ((cO (by simpa [upd] using e0))) (below_alloc _ _)), (fun e0 => (by first | (simp [upd]; done) | simpa [upd] using (o5 (by simpa [upd] using e0)))), (fun e0 => (by first | (simp [upd]; done) | simpa [upd] using (o5b (by simpa [upd] using e0)))), (fun e0 => (by first | (simp [upd]; done) | simpa [upd] using (o12 (by simpa [upd] using e0)))), (fun e0 => (by first | (simp [upd]; done) | simpa [upd] using (o14 (by simpa [upd] using e0)))), (fun e0 => (by first | (simp [upd]; done) | simpa [upd] using (o15 (by simpa [upd] using e0)))), (fun e0 => (by first | (simp [upd]; done) | simpa [upd] using (o15b (by simpa [upd] using e0)))), (fun _ => by simp [upd, p15]), by simp [upd, nS], (fun e => absurd e (by simp [upd, nS]))⟩
                · -- 17: Op.call { callee := Callee.builtin Builtin.append, args := #
                  have p1 : l 1 = true := hpre _ rfl ⟨1, .data⟩ (by simp) rfl
                  have p16 : l 16 = true := hpre _ rfl ⟨16, .data⟩ (by simp) rfl
                  have p14 : l 14 = true := hpre _ rfl ⟨14, .chain⟩ (by simp) rfl
                  refine wpOp_step rfl (fun K' hK => ?_)
                  have nS : l 19 = false := by
                    cases h : l 19
                    · rfl
                    · have := oS h; simp [hli] at this
                  rw [nS, cond_false] at hw
                  subst hw
                  have n17 : l 17 = false := hli
                  have hBk := cS p16 n17
                  have p15 := o16 p16
                  have p5 := o15 p15
                  have p14 := o15b p15
                  have p12 := o14 p14
                  have p11 := o12 p12
                  simp only [p1, p16, p14, p15, p5, p14, p12, p11, cond_true, cond_false]
                  clear hpre
                  rw [if_pos (by rfl)]
                  refine wp_append_own _ _ _ 56 rfl N 112 i0 _ 18 32 Try.underlying56 HI.out.1 HI.out.2.1 HI.out.2.2.1 HI.out.2.2.2 rfl (by omega) v j xs rfl (cR n17) ⟨gb, 0, none⟩ 1 1 (lbl a b q) rfl (by rw [lbl_len]) (fun j u hu => by rw [Addr.add_mid, Nat.zero_add, hBk.cell j]; simpa using hu) (lbl_one _ _ _) (by unfold maxLen; omega) (by omega) (Nat.le_trans HS8.out hG.size) ?_
                  intro v1 w6 hown6 hg6 _
                  exact hK _ _ ⟨v1, gb, w6, by simp [upd, Act.put, p1, p16, p14, p15, p5, p14, p12, p11], grownBy_trans hG hg6, (fun e0 => absurd e0 (by simp [upd])), (fun e0 => absurd e0 (by simp [upd])), (fun e0 e1 => absurd e1 (by simp [upd])), (fun _ => hown6), (fun _ => by simp [upd, p5]), (fun _ => by simp [upd, p11]), (fun e0 => (by first | (simp [upd]; done) | simpa [upd] using (o12 (by simpa [upd] using e0)))), (fun e0 => (by first | (simp [upd]; done) | simpa [upd] using (o14 (by simpa [upd] using e0)))), (fun e0 => (by first | (simp [upd]; done) | simpa [upd] using (o15 (by simpa [upd] using e0)))), (fun e0 => (by first | (simp [upd]; done) | simpa [upd] using (o15b (by simpa [upd] using e0)))), (fun e0 => (by first | (simp [upd]; done) | simpa [upd] using (o16 (by simpa [upd] using e0)))), by simp [upd, nS], (fun e => absurd e (by simp [upd, nS]))⟩
                · -- 18: Op.fieldAddr 59 (Operand.tmp 11) 0
                  have p0 : l 0 = true := hpre _ rfl ⟨0, .phase⟩ (by simp) rfl
                  have p1 : l 1 = true := hpre _ rfl ⟨1, .phase⟩ (by simp) rfl
                  have p2 : l 2 = true := hpre _ rfl ⟨2, .phase⟩ (by simp) rfl
                  have p3 : l 3 = true := hpre _ rfl ⟨3, .phase⟩ (by simp) rfl
                  have p4 : l 4 = true := hpre _ rfl ⟨4, .phase⟩ (by simp) rfl
                  have p5 : l 5 = true := hpre _ rfl ⟨5, .phase⟩ (by simp) rfl
                  have p6 : l 6 = true := hpre _ rfl ⟨6, .phase⟩ (by simp) rfl
                  have p7 : l 7 = true := hpre _ rfl ⟨7, .phase⟩ (by simp) rfl
                  have p8 : l 8 = true := hpre _ rfl ⟨8, .phase⟩ (by simp) rfl
                  have p9 : l 9 = true := hpre _ rfl ⟨9, .phase⟩ (by simp) rfl
                  have p10 : l 10 = true := hpre _ rfl ⟨10, .phase⟩ (by simp) rfl
                  have p11 : l 11 = true := hpre _ rfl ⟨11, .phase⟩ (by simp) rfl
                  have p12 : l 12 = true := hpre _ rfl ⟨12, .phase⟩ (by simp) rfl
                  have p13 : l 13 = true := hpre _ rfl ⟨13, .phase⟩ (by simp) rfl
                  have p14 : l 14 = true := hpre _ rfl ⟨14, .phase⟩ (by simp) rfl
                  have p15 : l 15 = true := hpre _ rfl ⟨15, .phase⟩ (by simp) rfl
                  have p16 : l 16 = true := hpre _ rfl ⟨16, .phase⟩ (by simp) rfl
                  have p17 : l 17 = true := hpre _ rfl ⟨17, .phase⟩ (by simp) rfl
                  refine wpOp_step rfl (fun K' hK => ?_)
                  have nS : l 19 = false := by
                    cases h : l 19
                    · rfl
                    · have := oS h; simp [hli] at this
                  rw [nS, cond_false] at hw
                  subst hw
                  simp only [p0, p1, p2, p3, p4, p5, p6, p7, p8, p9, p10, p11, p12, p13, p14, p15, p16, p17, cond_true, cond_false]
                  clear hpre
                  rw [if_pos (by rfl)]
                  go_simp
                  exact hK _ _ ⟨v2, gb, w', by simp [upd, Act.put, p0, p1, p2, p3, p4, p5, p6, p7, p8, p9, p10, p11, p12, p13, p14, p15, p16, p17], hG, (fun e0 => (hg (by simpa [upd] using e0))), (fun e0 => (cR (by simpa [upd] using e0))), (fun e0 e1 => (cS (by simpa [upd] using e0) (by simpa [upd] using e1))), (fun e0 => (cO (by simpa [upd] using e0))), (fun e0 => (by first | (simp [upd]; done) | simpa [upd] using (o5 (by simpa [upd] using e0)))), (fun e0 => (by first | (simp [upd]; done) | simpa [upd] using (o5b (by simpa [upd] using e0)))), (fun e0 => (by first | (simp [upd]; done) | simpa [upd] using (o12 (by simpa [upd] using e0)))), (fun e0 => (by first | (simp [upd]; done) | simpa [upd] using (o14 (by simpa [upd] using e0)))), (fun e0 => (by first | (simp [upd]; done) | simpa [upd] using (o15 (by simpa [upd] using e0)))), (fun e0 => (by first | (simp [upd]; done) | simpa [upd] using (o15b (by simpa [upd] using e0)))), (fun e0 => (by first | (simp [upd]; done) | simpa [upd] using (o16 (by simpa [upd] using e0)))), by simp [upd, nS], (fun e => absurd e (by simp [upd, nS]))⟩
                · -- 19: Op.store 56 (Operand.tmp 62) (Operand.tmp 61)
                  have p18 : l 18 = true := hpre _ rfl ⟨18, .data⟩ (by simp) rfl
                  have p17 : l 17 = true := hpre _ rfl ⟨17, .data⟩ (by simp) rfl
                  have p0 : l 0 = true := hpre _ rfl ⟨0, .phase⟩ (by simp) rfl
                  have p1 : l 1 = true := hpre _ rfl ⟨1, .phase⟩ (by simp) rfl
                  have p2 : l 2 = true := hpre _ rfl ⟨2, .phase⟩ (by simp) rfl
                  have p3 : l 3 = true := hpre _ rfl ⟨3, .phase⟩ (by simp) rfl
                  have p4 : l 4 = true := hpre _ rfl ⟨4, .phase⟩ (by simp) rfl
                  have p5 : l 5 = true := hpre _ rfl ⟨5, .phase⟩ (by simp) rfl
                  have p6 : l 6 = true := hpre _ rfl ⟨6, .phase⟩ (by simp) rfl
                  have p7 : l 7 = true := hpre _ rfl ⟨7, .phase⟩ (by simp) rfl
                  have p8 : l 8 = true := hpre _ rfl ⟨8, .phase⟩ (by simp) rfl
                  have p9 : l 9 = true := hpre _ rfl ⟨9, .phase⟩ (by simp) rfl
                  have p10 : l 10 = true := hpre _ rfl ⟨10, .phase⟩ (by simp) rfl
                  have p11 : l 11 = true := hpre _ rfl ⟨11, .phase⟩ (by simp) rfl
                  have p12 : l 12 = true := hpre _ rfl ⟨12, .phase⟩ (by simp) rfl
                  have p13 : l 13 = true := hpre _ rfl ⟨13, .phase⟩ (by simp) rfl
                  have p14 : l 14 = true := hpre _ rfl ⟨14, .phase⟩ (by simp) rfl
                  have p15 : l 15 = true := hpre _ rfl ⟨15, .phase⟩ (by simp) rfl
                  have p16 : l 16 = true := hpre _ rfl ⟨16, .phase⟩ (by simp) rfl
                  refine wpOp_step rfl (fun K' hK => ?_)
                  have nS : l 19 = false := hli
                  rw [nS, cond_false] at hw
                  subst hw
                  have p5 := o5 p17
                  have p11 := o5b p17
                  simp only [p18, p17, p0, p1, p2, p3, p4, p5, p6, p7, p8, p9, p10, p11, p12, p13, p14, p15, p16, p5, p11, cond_true, cond_false]
                  clear hpre
                  rw [if_pos (by rfl)]
                  have hS3 := (Blk.grown HB.out.2.2.2.2 hG (Blk.apart HB.out.2.2.2.2 HO8.out (by decide)))
                  have z1 := Hdx.c0 hS3
                  have z2 := hS3.fr 0
                  have c6 := cO p17
                  obtain ⟨A6, d6, hv6⟩ := own_val c6
                  subst hv6
                  go_simp
                  exact hK _ _ ⟨_, gb, w', by simp [upd, Act.put, p18, p17, p0, p1, p2, p3, p4, p5, p6, p7, p8, p9, p10, p11, p12, p13, p14, p15, p16, p5, p11], hG, (fun e0 => (hg (by simpa [upd] using e0))), (fun e0 => (cR (by simpa [upd] using e0))), (fun e0 e1 => (cS (by simpa [upd] using e0) (by simpa [upd] using e1))), (fun _ => c6), (fun e0 => (by first | (simp [upd]; done) | simpa [upd] using (o5 (by simpa [upd] using e0)))), (fun e0 => (by first | (simp [upd]; done) | simpa [upd] using (o5b (by simpa [upd] using e0)))), (fun e0 => (by first | (simp [upd]; done) | simpa [upd] using (o12 (by simpa [upd] using e0)))), (fun e0 => (by first | (simp [upd]; done) | simpa [upd] using (o14 (by simpa [upd] using e0)))), (fun e0 => (by first | (simp [upd]; done) | simpa [upd] using (o15 (by simpa [upd] using e0)))), (fun e0 => (by first | (simp [upd]; done) | simpa [upd] using (o15b (by simpa [upd] using e0)))), (fun e0 => (by first | (simp [upd]; done) | simpa [upd] using (o16 (by simpa [upd] using e0)))), by simp [upd], (fun _ => by simp [upd, p18, p17, p0, p1, p2, p3, p4, p5, p6, p7, p8, p9, p10, p11, p12, p13, p14, p15, p16])⟩
              · rintro l a' w9 hall ⟨v2, gb, w1, rfl, hG, hg, cR, cS, cO, o5, o5b, o12, o14, o15, o15b, o16, hw, oS⟩
                rw [hall 19 (by decide), cond_true] at hw
                subst hw
                clear hg
                clear cR
                clear cS
                replace cO := cO (hall 17 (by decide))
                replace o5 := o5 (hall 17 (by decide))
                replace o5b := o5b (hall 17 (by decide))
                replace o12 := o12 (hall 12 (by decide))
                replace o14 := o14 (hall 14 (by decide))
                replace o15 := o15 (hall 15 (by decide))
                replace o15b := o15b (hall 15 (by decide))
                replace o16 := o16 (hall 16 (by decide))
                simp only [hall 0 (by decide), hall 1 (by decide), hall 2 (by decide), hall 3 (by decide), hall 4 (by decide), hall 5 (by decide), hall 6 (by decide), hall 7 (by decide), hall 8 (by decide), hall 9 (by decide), hall 10 (by decide), hall 11 (by decide), hall 12 (by decide), hall 13 (by decide), hall 14 (by decide), hall 15 (by decide), hall 16 (by decide), hall 17 (by decide), hall 18 (by decide), cond_true]
                clear hall oS
                have H9 := Lib.hid (app_hdr HB.out.2.2.2.2 HO8.out hG cO HS8.out (by have := HHB.out; omega))
                obtain ⟨W9, hW9⟩ : ∃ W9, W9 = w1.setCell ⟨hb, 0, none⟩ v2 := ⟨_, rfl⟩
                rw [← hW9] at H9
                rw [← hW9]
                clear hW9 hG cO
                go_wp2_with fail
                go_roundw
                case rel =>
                  obtain ⟨j1, j2, j4, j5⟩ := H9.out
                  have q1 := HHB.out
                  exact ⟨j + 1, v2, by omega, by go_num, Lib.hid (by rw [HSn.out]; exact j2), Lib.hid ⟨j5 _ _ _ (by omega) (by decide) HB.out.1, j5 _ _ _ (by omega) (by decide) HB.out.2.1, j5 _ _ _ (by omega) (by decide) HB.out.2.2.1, j5 _ _ _ (by omega) (by decide) HB.out.2.2.2.1, j1⟩, Lib.hid ⟨HS.out.1.trans j4, Nat.le_trans HS.out.2 j4.size⟩⟩
                case measure => simp [intOf]; omega
            · obtain rfl : j = k := by omega
              obtain ⟨A2, k2, hv2⟩ := own_val HO.out
              subst hv2
              have hth : wr.there (N + 3) 0 35 := Hdx.there HB.out.2.2.2.1
              have HF : Hid (Hdx (wr.setCells (N + 3) 0 (hdi (.slice A2 j k2) (.slice none 0 0) 0 (0, 0) ck)) (N + 3) (.slice A2 j k2) (.slice none 0 0) 0 (0, 0) ck ∧ Below N w (wr.setCells (N + 3) 0 (hdi (.slice A2 j k2) (.slice none 0 0) 0 (0, 0) ck)) ∧ (wr.setCells (N + 3) 0 (hdi (.slice A2 j k2) (.slice none 0 0) 0 (0, 0) ck)).ownsRow N 112 18 (.slice A2 j k2) j (lbF (slG p s K D E P Q G f) j)) := Lib.hid ⟨Hdx.stored HB.out.2.2.2.1 Hdx.size _ _ _ _ _, below_setCells _ _ _ _ HS.out.1 (by omega), own_setCells _ _ HO.out (Blk.apart HB.out.2.2.2.1 HO.out (by decide))⟩
              have l4 : ¬ ((j : Int) < (j : Int)) := by omega
              go_wp2_with (first
                | ((with_reducible show wpList _ _ _ (Oper.mk _ (Op.load 59 _) _ _ _ _ :: _) _ _); refine wpList_load_hdi rfl _ rfl _ rfl _ _ _ _ _ HB.out.2.2.2.2 ?_)
                | ((with_reducible show wpList _ _ _ (Oper.mk _ (Op.store 59 _ _) _ _ _ _ :: _) _ _); refine wpList_store_hdi rfl _ _ rfl _ _ _ _ _ _ rfl rfl rfl rfl hth ?_))
              exact bodyPost_ret (results_hdi rfl _ _ (N + 3) (.slice A2 j k2) (.slice none 0 0) 0 (0, 0) ck _ rfl rfl HF.out.1) rfl ⟨SlE.good (.slice A2 j k2) HC.out (by first | (rw [← HCK.out]; done) | (rw [← HCK.out]; rfl)) HF.out.2.2, HF.out.2.1⟩
  · have hsc := scb_no h
    rw [hsc]
    have H3 := Lib.hid (HEND.out w5 HB5.out.2.1 ⟨_, HB5.out.2.2.2.2.2, Hdx.size⟩)
    have HC : Hid (slc K D E P Q G n f = 30) := Lib.hid (by unfold slc; rw [scb_no h]; rfl)
    clear h hsc
    go_wp2_with (first
      | ((with_reducible show wpList _ _ _ (Oper.mk _ (Op.build 59 _) _ _ _ _ :: _) _ _); refine wpList_buildHd0 rfl rfl ?_)
      | ((with_reducible show wpList _ _ _ (Oper.mk _ (Op.store 59 _ _) _ _ _ _ :: _) _ _); refine wpList_store_hdi rfl _ _ rfl (N + 3) _ _ _ _ _ rfl rfl rfl rfl H3.out.2.2 ?_))
    exact bodyPost_ret (results_hdi rfl _ _ (N + 3) (.slice none 0 0) (.slice none 0 0) 0 (0, 0) (0, 0) _ rfl rfl H3.out.1) rfl ⟨SlE.bad 30 HC.out (by decide) rfl, H3.out.2.1⟩
end Go.Proofs.Ytelalpikdidpeaa
