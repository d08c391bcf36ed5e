/-
  labelFor, the program's.
-/
import Derived.Test.YtnbkoffhplknbaaSecD
namespace Go.Proofs.Ytnbkoffhplknbaa
open Go.RowKit TR L2 L2.SP
set_option linter.unusedVariables false
set_option linter.unusedSimpArgs false

set_option maxRecDepth 100000 in
set_option maxHeartbeats 400000 in
theorem labelFor_any (p : Nat × Nat) (K D E : Int) (P Q G v x : Nat) (w : World) (hp : Ok p) (hv1 : 1 ≤ v) (hv : v < 256) (hx : x < 256) (hle : K ≠ 1 → x ≠ 0 → lv v ≤ lv x) :
    Calls Try.prog 95 #[.agg (kl p.1 p.2).toArray, .agg #[.int .u8 K, .int .i64 D, .int .i64 E, .int .u64 (P : Int), .int .u64 (Q : Int), .int .u64 (G : Int)], .agg #[.int .i64 (v : Int), .int .i64 (x : Int)]] w fun e w' => e = .returned (.agg (lbl v x (sky K p v x)).toArray) ∧ Below w.heap.size w w' := by
  obtain ⟨N, hN⟩ : ∃ N, N = w.heap.size := ⟨_, rfl⟩
  obtain ⟨W4, hW4⟩ : ∃ W4, W4 = (((w.alloc (.cells (kl p.1 p.2).toArray 58)).alloc (.cells #[.int .u8 K, .int .i64 D, .int .i64 E, .int .u64 (P : Int), .int .u64 (Q : Int), .int .u64 (G : Int)] 28)).alloc (.cells #[.int .i64 (v : Int), .int .i64 (x : Int)] 35)).alloc (.cells lz18 70) := ⟨_, rfl⟩
  have s4 : W4.heap.size = N + 4 := by rw [hW4, hN]; simp
  have b4 : Below N w W4 := by rw [hW4, hN]; exact (below_alloc _ _).trans (((below_alloc _ _).mono (by simp)).trans (((below_alloc _ _).mono (by simp; omega)).trans ((below_alloc _ _).mono (by simp; omega))))
  have e1 : Kbx W4 N p := by rw [hW4, hN]; exact (((Blk.new w _ _).keep (below_alloc _ _)).keep (below_alloc _ _)).keep (below_alloc _ _)
  have e2 : Blk W4 (N + 1) #[.int .u8 K, .int .i64 D, .int .i64 E, .int .u64 (P : Int), .int .u64 (Q : Int), .int .u64 (G : Int)] 28 := by
    have h := ((Blk.new (w.alloc (.cells (kl p.1 p.2).toArray 58)) #[.int .u8 K, .int .i64 D, .int .i64 E, .int .u64 (P : Int), .int .u64 (Q : Int), .int .u64 (G : Int)] 28).keep (below_alloc _ (.cells #[.int .i64 (v : Int), .int .i64 (x : Int)] 35))).keep (below_alloc _ (.cells lz18 70))
    rw [World.size_alloc, ← hN] at h; rw [hW4]; exact h
  have e3 : Blk W4 (N + 2) #[.int .i64 (v : Int), .int .i64 (x : Int)] 35 := by
    have h := (Blk.new ((w.alloc (.cells (kl p.1 p.2).toArray 58)).alloc (.cells #[.int .u8 K, .int .i64 D, .int .i64 E, .int .u64 (P : Int), .int .u64 (Q : Int), .int .u64 (G : Int)] 28)) #[.int .i64 (v : Int), .int .i64 (x : Int)] 35).keep (below_alloc _ (.cells lz18 70))
    rw [World.size_alloc, World.size_alloc, ← hN] at h; rw [hW4]; exact h
  have e4 : Blk W4 (N + 3) lz18 70 := by
    have h := Blk.new (((w.alloc (.cells (kl p.1 p.2).toArray 58)).alloc (.cells #[.int .u8 K, .int .i64 D, .int .i64 E, .int .u64 (P : Int), .int .u64 (Q : Int), .int .u64 (G : Int)] 28)).alloc (.cells #[.int .i64 (v : Int), .int .i64 (x : Int)] 35)) lz18 70
    rw [World.size_alloc, World.size_alloc, World.size_alloc, ← hN] at h; rw [hW4]; exact h
  have HE := Lib.hid (And.intro s4 (And.intro b4 (And.intro e1 (And.intro e2 (And.intro e3 e4)))))
  have HN := Lib.hid hN
  have HW := Lib.hid hW4
  rw [← hN]
  have c0 : W4.cell? ⟨N + 1, 0, none⟩ = some (.int .u8 K) := e2.cell 0
  have z0 : W4.cell? ⟨N + 2, 0, none⟩ = some (.int .i64 (v : Int)) := e3.cell 0
  have z1 : W4.cell? ⟨N + 2, 1, none⟩ = some (.int .i64 (x : Int)) := e3.cell 1
  rw [hW4, hN] at c0 z0 z1
  obtain ⟨q, hq⟩ : ∃ q, q = sky K p v x := ⟨_, rfl⟩
  have HQ := Lib.hid hq
  rw [← hq]
  clear hN hW4 s4 b4 e1 e2 e3 e4 hq
  go_enter Try.func95, Try.ntmps95
  go_wp2_with fail
  rw [← HW.out, ← HN.out]
  clear c0 z0 z1
  simp only [Nat.add_assoc, Nat.reduceAdd]
  refine wp_region_inv (by kernel_rfl) (by kernel_rfl) (fun l a' w' => a' = { tmps := #[Value.agg (kl p.fst p.snd).toArray, Value.agg #[Value.int IntKind.u8 K, Value.int IntKind.i64 D, Value.int IntKind.i64 E, Value.int IntKind.u64 P, Value.int IntKind.u64 Q, Value.int IntKind.u64 G], Value.agg #[Value.int IntKind.i64 v, Value.int IntKind.i64 x], Value.pointer (some ⟨N, 0, none⟩), Value.pointer (some ⟨N + 1, 0, none⟩), Value.pointer (some ⟨N + 2, 0, none⟩), Value.pointer (some ⟨N + 3, 0, none⟩), bif l 4 then Value.int .i64 (v : Int) else undef, bif l 5 then Value.int .i64 (x : Int) else undef, undef, bif l 0 then Value.pointer (some ⟨N + 2, 0, none⟩) else undef, bif l 1 then Value.int .i64 (v : Int) else undef, bif l 2 then Value.pointer (some ⟨N + 2, 1, none⟩) else undef, bif l 3 then Value.int .i64 (x : Int) else undef, undef, undef, undef, undef, undef, undef, undef, undef, undef, undef, undef, undef, undef, undef, undef, undef, undef, undef, undef, undef, undef, undef, undef, undef, undef, undef, undef], defers := [] } ∧ w' = W4.drew) ⟨rfl, rfl⟩ ?_ ?_
  · rintro l a' w' i ⟨rfl, rfl⟩ hi hli hpre
    have hi2 : i < 6 := hi
    have hcase : i = 0 ∨ i = 1 ∨ i = 2 ∨ i = 3 ∨ i = 4 ∨ i = 5 := by omega
    clear hi hi2
    rcases hcase with rfl | rfl | rfl | rfl | rfl | rfl
    · -- 0: Op.fieldAddr 35 (Operand.tmp 5) 0
      refine wpOp_step rfl (fun K' hK => ?_)
      clear hpre
      rw [if_pos (by rfl)]
      go_simp
      exact hK _ _ ⟨by simp [upd, Act.put], rfl⟩
    · -- 1: Op.load 3 (Operand.tmp 10)
      have p0 : l 0 = true := hpre _ rfl ⟨0, .data⟩ (by simp) rfl
      refine wpOp_step rfl (fun K' hK => ?_)
      simp only [p0, cond_true, cond_false]
      clear hpre
      rw [if_pos (by rfl)]
      have g0 : W4.drew.cell? ⟨N + 2, 0, none⟩ = some (.int .i64 (v : Int)) := HE.out.2.2.2.2.1.cell 0
      go_simp
      exact hK _ _ ⟨by simp [upd, Act.put, p0], rfl⟩
    · -- 2: Op.fieldAddr 35 (Operand.tmp 5) 1
      refine wpOp_step rfl (fun K' hK => ?_)
      clear hpre
      rw [if_pos (by rfl)]
      go_simp
      exact hK _ _ ⟨by simp [upd, Act.put], rfl⟩
    · -- 3: Op.load 3 (Operand.tmp 12)
      have p2 : l 2 = true := hpre _ rfl ⟨2, .data⟩ (by simp) rfl
      refine wpOp_step rfl (fun K' hK => ?_)
      simp only [p2, cond_true, cond_false]
      clear hpre
      rw [if_pos (by rfl)]
      have g1 : W4.drew.cell? ⟨N + 2, 1, none⟩ = some (.int .i64 (x : Int)) := HE.out.2.2.2.2.1.cell 1
      go_simp
      exact hK _ _ ⟨by simp [upd, Act.put, p2], rfl⟩
    · -- 4: Op.assign (Operand.tmp 11)
      have p1 : l 1 = true := hpre _ rfl ⟨1, .data⟩ (by simp) rfl
      have p0 : l 0 = true := hpre _ rfl ⟨0, .phase⟩ (by simp) rfl
      refine wpOp_step rfl (fun K' hK => ?_)
      simp only [p1, p0, cond_true, cond_false]
      clear hpre
      rw [if_pos (by rfl)]
      go_simp
      exact hK _ _ ⟨by simp [upd, Act.put, p1, p0], rfl⟩
    · -- 5: Op.assign (Operand.tmp 13)
      have p3 : l 3 = true := hpre _ rfl ⟨3, .data⟩ (by simp) rfl
      have p4 : l 4 = true := hpre _ rfl ⟨4, .chain⟩ (by simp) rfl
      have p0 : l 0 = true := hpre _ rfl ⟨0, .phase⟩ (by simp) rfl
      have p1 : l 1 = true := hpre _ rfl ⟨1, .phase⟩ (by simp) rfl
      have p2 : l 2 = true := hpre _ rfl ⟨2, .phase⟩ (by simp) rfl
      refine wpOp_step rfl (fun K' hK => ?_)
      simp only [p3, p4, p0, p1, p2, cond_true, cond_false]
      clear hpre
      rw [if_pos (by rfl)]
      go_simp
      exact hK _ _ ⟨by simp [upd, Act.put, p3, p4, p0, p1, p2], rfl⟩
  · rintro l a' w9 hall ⟨rfl, rfl⟩
    simp only [hall 0 (by decide), hall 1 (by decide), hall 2 (by decide), hall 3 (by decide), hall 4 (by decide), hall 5 (by decide), cond_true]
    clear hall
    obtain ⟨W5, hW5⟩ : ∃ W5, W5 = W4.drew := ⟨_, rfl⟩
    rw [← hW5]
    have b45 : Below W4.heap.size W4 W5 := by rw [hW5]; exact (Below.refl _ _).drew
    have s5 : W5.heap.size = N + 4 := by rw [hW5]; exact HE.out.1
    have H5 := Lib.hid (And.intro b45 s5)
    have z0 : W5.cell? ⟨N + 2, 0, none⟩ = some (.int .i64 (v : Int)) := (HE.out.2.2.2.2.1.keep b45).cell 0
    have z1 : W5.cell? ⟨N + 2, 1, none⟩ = some (.int .i64 (x : Int)) := (HE.out.2.2.2.2.1.keep b45).cell 1
    clear hW5 b45 s5
    have hA := Blk.new W5 lz18 70
    have hth : (W5.alloc (.cells lz18 70)).there W5.heap.size 0 18 := by have h := hA.there; simpa using h
    obtain ⟨W6, hW6⟩ : ∃ W6, W6 = (W5.alloc (.cells lz18 70)).setCells W5.heap.size 0 (lbl v x (0, 0)) := ⟨_, rfl⟩
    have b56 : Below W5.heap.size W5 W6 := by rw [hW6]; exact below_setCells _ _ _ _ (below_alloc _ _) (Nat.le_refl _)
    have hl6 : Lbx W6 (N + 4) v x (0, 0) := by rw [hW6, ← H5.out.2]; exact Lbx.stored hA rfl _ _ _
    have s6 : W6.heap.size = N + 5 := by rw [hW6, size_setCells]; simp [H5.out.2]
    have b46 : Below W4.heap.size W4 W6 := H5.out.1.trans (b56.mono H5.out.1.size)
    have H6 := Lib.hid (And.intro b46 (And.intro hl6 s6))
    have HK6 := Lib.hid (Kbx.at_ (HE.out.2.2.1.keep b46))
    have HW6 := Lib.hid hW6
    have hs5 : W5.heap.size = N + 4 := H5.out.2
    have c0 : W6.cell? ⟨N + 1, 0, none⟩ = some (.int .u8 K) := (HE.out.2.2.2.1.keep b46).cell 0
    rw [hW6] at c0
    have HS5 := Lib.hid hs5
    clear hs5
    have HTh := Lib.hid hth
    have END : ∀ w7, Below W6.heap.size W6 w7 → (w7.there (N + 4) 2 16) ∧ ((w7.setCells (N + 4) 2 (kl q.1 q.2)).rangeAt (N + 4) 0 (lbl v x q)) ∧ ((w7.setCells (N + 4) 2 (kl q.1 q.2)).there (N + 3) 0 18) ∧ (((w7.setCells (N + 4) 2 (kl q.1 q.2)).setCells (N + 3) 0 (lbl v x q)).rangeAt (N + 3) 0 (lbl v x q)) ∧ Below N w ((w7.setCells (N + 4) 2 (kl q.1 q.2)).setCells (N + 3) 0 (lbl v x q)) := fun w7 hb => by
      have a1 := H6.out.2.1.keep hb
      have a2 := Lbx.key a1 q
      have a3 := (HE.out.2.2.2.2.2.keep (H6.out.1.trans (hb.mono H6.out.1.size))).setCells_other (N + 4) (kl q.1 q.2) (by omega) 2
      have a4 : (w7.setCells (N + 4) 2 (kl q.1 q.2)).there (N + 3) 0 18 := by have h := a3.there; simpa using h
      exact ⟨Lbx.there2 a1, Lbx.range a2, a4, Lbx.range (Lbx.stored a3 rfl _ _ _), below_setCells _ _ _ _ (below_setCells _ _ _ _ (HE.out.2.1.trans ((H6.out.1.trans (hb.mono H6.out.1.size)).mono (by rw [HE.out.1]; omega))) (by omega)) (by omega)⟩
    have HEND := Lib.hid END
    clear END hW6 b56 hl6 s6 b46 hA hth
    by_cases hK : K = 1
    · subst hK
      have HD : Hid (∀ w, Calls Try.prog 141 #[.agg (kl p.1 p.2).toArray, .int .i64 (v : Int)] w fun e w' => e = .returned (.agg (kl q.1 q.2).toArray) ∧ Below w.heap.size w w') := Lib.hid (fun w => by
        have h := nodeKey_any p v w hp hv
        have e : q = ndk p v := by rw [HQ.out]; rfl
        rw [e]; exact h)
      clear hp hle hx hv hv1
      go_wp2_with (first
              | ((with_reducible show wpList _ _ _ (Oper.mk _ (Op.build 70 _) _ _ _ _ :: _) _ _); refine wpList_buildLab rfl _ _ rfl _ _ rfl rfl ?_)
              | ((with_reducible show wpList _ _ _ (Oper.mk _ (Op.store 70 _ _) _ _ _ _ :: _) _ _); refine wpList_store_lab rfl _ _ rfl _ _ _ _ rfl rfl HTh.out ?_)
              | ((with_reducible show wpList _ _ _ (Oper.mk _ (Op.load 58 _) _ _ _ _ :: _) _ _); refine wpList_load_key rfl _ rfl _ rfl _ _ (by rw [← HW6.out]; exact HK6.out) ?_))
      rw [← HW6.out, HS5.out]
      refine (HD.out _).mono ?_
      rintro e w7 ⟨rfl, hb7⟩
      have H7 := Lib.hid (HEND.out w7 hb7)
      clear hb7 c0 z0 z1
      go_wp2_with (first
        | ((with_reducible show wpList _ _ _ (Oper.mk _ (Op.store 58 _ _) _ _ _ _ :: _) _ _); refine wpList_store_keyo rfl _ _ rfl _ _ _ rfl rfl H7.out.1 ?_)
        | ((with_reducible show wpList _ _ _ (Oper.mk _ (Op.load 70 _) _ _ _ _ :: _) _ _); refine wpList_load_lab rfl _ rfl _ rfl _ _ _ H7.out.2.1 ?_)
        | ((with_reducible show wpList _ _ _ (Oper.mk _ (Op.store 70 _ _) _ _ _ _ :: _) _ _); refine wpList_store_lab rfl _ _ rfl _ _ _ _ rfl rfl H7.out.2.2.1 ?_))
      exact bodyPost_ret (results_lab rfl _ _ (N + 3) v x q rfl H7.out.2.2.2.1) rfl ⟨rfl, H7.out.2.2.2.2⟩
    · have hKn : (K == 1) = false := beq_eq_false_iff_ne.2 hK
      by_cases hx0 : x = 0
      · have HD : Hid (∀ w, Calls Try.prog 63 #[.agg (kl p.1 p.2).toArray, .int .u8 34, .int .u64 0] w fun e w' => e = .returned (.agg (kl q.1 q.2).toArray) ∧ Below w.heap.size w w') := Lib.hid (fun w => by
          have h := derive_any p.1 p.2 34 0 w hp.1 hp.2 (by omega) (by unfold M; omega)
          have e : q = drv p.1 p.2 34 0 := by rw [HQ.out]; unfold sky; rw [if_neg hK, if_pos hx0]
          rw [e]; exact h)
        have hxi : ((x : Int) == 0) = true := beq_iff_eq.2 (by omega)
        clear hp hle hx hv hv1 hx0 hK
        go_wp2_with (first
                | ((with_reducible show wpList _ _ _ (Oper.mk _ (Op.build 70 _) _ _ _ _ :: _) _ _); refine wpList_buildLab rfl _ _ rfl _ _ rfl rfl ?_)
                | ((with_reducible show wpList _ _ _ (Oper.mk _ (Op.store 70 _ _) _ _ _ _ :: _) _ _); refine wpList_store_lab rfl _ _ rfl _ _ _ _ rfl rfl HTh.out ?_)
                | ((with_reducible show wpList _ _ _ (Oper.mk _ (Op.load 58 _) _ _ _ _ :: _) _ _); refine wpList_load_key rfl _ rfl _ rfl _ _ (by rw [← HW6.out]; exact HK6.out) ?_))
        rw [← HW6.out, HS5.out]
        refine (HD.out _).mono ?_
        rintro e w7 ⟨rfl, hb7⟩
        have H7 := Lib.hid (HEND.out w7 hb7)
        clear hb7 c0 z0 z1
        go_wp2_with (first
          | ((with_reducible show wpList _ _ _ (Oper.mk _ (Op.store 58 _ _) _ _ _ _ :: _) _ _); refine wpList_store_keyo rfl _ _ rfl _ _ _ rfl rfl H7.out.1 ?_)
          | ((with_reducible show wpList _ _ _ (Oper.mk _ (Op.load 70 _) _ _ _ _ :: _) _ _); refine wpList_load_lab rfl _ rfl _ rfl _ _ _ H7.out.2.1 ?_)
          | ((with_reducible show wpList _ _ _ (Oper.mk _ (Op.store 70 _ _) _ _ _ _ :: _) _ _); refine wpList_store_lab rfl _ _ rfl _ _ _ _ rfl rfl H7.out.2.2.1 ?_))
        exact bodyPost_ret (results_lab rfl _ _ (N + 3) v x q rfl H7.out.2.2.2.1) rfl ⟨rfl, H7.out.2.2.2.2⟩
      · have hxn : ((x : Int) == 0) = false := beq_eq_false_iff_ne.2 (by omega)
        have HNk := Lib.hid (fun w => nodeKey_any p v w hp hv)
        have HLw : Hid (∀ w, Calls Try.prog 142 #[.agg (kl (ndk p v).1 (ndk p v).2).toArray, .int .i64 (v : Int), .int .i64 (x : Int)] w fun e w' => e = .returned (.agg (kl q.1 q.2).toArray) ∧ Below w.heap.size w w') := Lib.hid (fun w => by
          have h := lower_any (ndk p v) v x w (ndk_ok hp v hv) hv1 hv (by omega) hx (hle hK hx0)
          have e : q = dwk (ndk p v) (pnd v x) := by rw [HQ.out]; unfold sky; rw [if_neg hK, if_neg hx0]; rfl
          rw [e]; exact h)
        obtain ⟨n, hn⟩ : ∃ n, n = ndk p v := ⟨_, rfl⟩
        rw [← hn] at HNk HLw
        clear hp hle hx hv hv1 hx0 hK hn
        go_wp2_with (first
                | ((with_reducible show wpList _ _ _ (Oper.mk _ (Op.build 70 _) _ _ _ _ :: _) _ _); refine wpList_buildLab rfl _ _ rfl _ _ rfl rfl ?_)
                | ((with_reducible show wpList _ _ _ (Oper.mk _ (Op.store 70 _ _) _ _ _ _ :: _) _ _); refine wpList_store_lab rfl _ _ rfl _ _ _ _ rfl rfl HTh.out ?_)
                | ((with_reducible show wpList _ _ _ (Oper.mk _ (Op.load 58 _) _ _ _ _ :: _) _ _); refine wpList_load_key rfl _ rfl _ rfl _ _ (by rw [← HW6.out]; exact HK6.out) ?_))
        rw [← HW6.out, HS5.out]
        refine (HNk.out _).mono ?_
        rintro e w7 ⟨rfl, hb7⟩
        have HB7 := Lib.hid hb7
        clear hb7 c0 z0 z1
        go_wp2_with fail
        refine (HLw.out _).mono ?_
        rintro e w8 ⟨rfl, hb8⟩
        have H7 := Lib.hid (HEND.out w8 (HB7.out.trans (hb8.mono HB7.out.size)))
        clear hb8
        go_wp2_with (first
          | ((with_reducible show wpList _ _ _ (Oper.mk _ (Op.store 58 _ _) _ _ _ _ :: _) _ _); refine wpList_store_keyo rfl _ _ rfl _ _ _ rfl rfl H7.out.1 ?_)
          | ((with_reducible show wpList _ _ _ (Oper.mk _ (Op.load 70 _) _ _ _ _ :: _) _ _); refine wpList_load_lab rfl _ rfl _ rfl _ _ _ H7.out.2.1 ?_)
          | ((with_reducible show wpList _ _ _ (Oper.mk _ (Op.store 70 _ _) _ _ _ _ :: _) _ _); refine wpList_store_lab rfl _ _ rfl _ _ _ _ rfl rfl H7.out.2.2.1 ?_))
        exact bodyPost_ret (results_lab rfl _ _ (N + 3) v x q rfl H7.out.2.2.2.1) rfl ⟨rfl, H7.out.2.2.2.2⟩
end Go.Proofs.Ytnbkoffhplknbaa
