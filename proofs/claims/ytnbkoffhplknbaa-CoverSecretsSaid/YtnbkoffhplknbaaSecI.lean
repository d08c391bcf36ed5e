/-
  Secret, the specification's.
-/
import Derived.Test.YtnbkoffhplknbaaSecH
namespace Go.Proofs.Ytnbkoffhplknbaa
open Go.RowKit TR L2 L2.SP
set_option linter.unusedVariables false
set_option linter.unusedSimpArgs false

set_option maxRecDepth 100000 in
set_option maxHeartbeats 800000 in
theorem refSecret_any (p : Nat × Nat) (K D E u : Int) (P Q G : Nat) (w : World) (hp : Ok p) (hK0 : 0 ≤ K) (hK1 : K ≤ 255) :
    Calls Try.prog 38 #[.agg (kl p.1 p.2).toArray, .agg #[.int .u8 K, .int .i64 D, .int .i64 E, .int .u64 (P : Int), .int .u64 (Q : Int), .int .u64 (G : Int)], .int .i64 u] w fun e w' => (∃ (rr : Int) (v : Value), e = .returned (.tuple #[.agg (sc4 rr v), .int .i64 (secc K D E P Q G u)]) ∧ (secc K D E P Q G u ≠ 0 → rr = 0 ∧ v = .slice none 0 0) ∧ (secc K D E P Q G u = 0 → rr = u ∧ w'.ownsRow w.heap.size 70 18 v (plc K D.toNat (2 ^ D.toNat + u.toNat)).length (lbs K p (plc K D.toNat (2 ^ D.toNat + u.toNat))))) ∧ Below w.heap.size w w' := by
  obtain ⟨N, hN⟩ : ∃ N, N = w.heap.size := ⟨_, rfl⟩
  obtain ⟨W3, hW3⟩ : ∃ W3, W3 = ((w.alloc (.cells (kl p.1 p.2).toArray 58)).alloc (.cells #[.int .u8 K, .int .i64 D, .int .i64 E, .int .u64 (P : Int), .int .u64 (Q : Int), .int .u64 (G : Int)] 28)).alloc (.cells (sc4 0 (.slice none 0 0)) 63) := ⟨_, rfl⟩
  have s3 : W3.heap.size = N + 3 := by rw [hW3, hN]; simp
  have b3 : Below N w W3 := by rw [hW3, hN]; exact (below_alloc _ _).trans (((below_alloc _ _).mono (by simp)).trans ((below_alloc _ _).mono (by simp; omega)))
  have e1 : Kbx W3 N p := by rw [hW3, hN]; exact ((Blk.new w _ _).keep (below_alloc _ _)).keep (below_alloc _ _)
  have e2 : Blk W3 (N + 1) #[.int .u8 K, .int .i64 D, .int .i64 E, .int .u64 (P : Int), .int .u64 (Q : Int), .int .u64 (G : Int)] 28 := by
    have h := (Blk.new (w.alloc (.cells (kl p.1 p.2).toArray 58)) #[.int .u8 K, .int .i64 D, .int .i64 E, .int .u64 (P : Int), .int .u64 (Q : Int), .int .u64 (G : Int)] 28).keep (below_alloc _ (.cells (sc4 0 (.slice none 0 0)) 63))
    rw [World.size_alloc, ← hN] at h; rw [hW3]; exact h
  have e3 : Blk W3 (N + 2) (sc4 0 (.slice none 0 0)) 63 := by
    have h := Blk.new ((w.alloc (.cells (kl p.1 p.2).toArray 58)).alloc (.cells #[.int .u8 K, .int .i64 D, .int .i64 E, .int .u64 (P : Int), .int .u64 (Q : Int), .int .u64 (G : Int)] 28)) (sc4 0 (.slice none 0 0)) 63
    rw [World.size_alloc, World.size_alloc, ← hN] at h; rw [hW3]; exact h
  have HE := Lib.hid (And.intro s3 (And.intro b3 (And.intro e1 (And.intro e2 e3))))
  have HV := Lib.hid (fun w => refValid_any K D E P Q G w hK0 hK1)
  have HN := Lib.hid hN
  have HW := Lib.hid hW3
  rw [← hN]
  have c0 : W3.cell? ⟨N + 1, 0, none⟩ = some (.int .u8 K) := e2.cell 0
  have c1 : W3.cell? ⟨N + 1, 1, none⟩ = some (.int .i64 D) := e2.cell 1
  have c2 : W3.cell? ⟨N + 1, 2, none⟩ = some (.int .i64 E) := e2.cell 2
  have c3 : W3.cell? ⟨N + 1, 3, none⟩ = some (.int .u64 (P : Int)) := e2.cell 3
  have c4 : W3.cell? ⟨N + 1, 4, none⟩ = some (.int .u64 (Q : Int)) := e2.cell 4
  have c5 : W3.cell? ⟨N + 1, 5, none⟩ = some (.int .u64 (G : Int)) := e2.cell 5
  rw [hW3, hN] at c0 c1 c2 c3 c4 c5
  clear hN hW3 s3 b3 e1 e2 e3 hK0 hK1
  go_enter Try.func38, Try.ntmps38
  go_wp2_with fail
  rw [← HW.out, ← HN.out]
  refine (HV.out _).mono ?_
  rintro e w4 ⟨rfl, hb4⟩
  have HE4 : Hid (N + 3 ≤ w4.heap.size ∧ Below N w w4 ∧ Kbx w4 N p ∧ Blk w4 (N + 1) #[.int .u8 K, .int .i64 D, .int .i64 E, .int .u64 (P : Int), .int .u64 (Q : Int), .int .u64 (G : Int)] 28 ∧ Blk w4 (N + 2) (sc4 0 (.slice none 0 0)) 63) := Lib.hid ⟨by rw [← HE.out.1]; exact hb4.size, HE.out.2.1.trans (hb4.mono (by rw [HE.out.1]; omega)), HE.out.2.2.1.keep hb4, HE.out.2.2.2.1.keep hb4, HE.out.2.2.2.2.keep hb4⟩
  clear hb4 c0 c1 c2 c3 c4 c5
  by_cases h : ScOk K D E P Q G
  · have hs := scb_yes h
    have HSb := Lib.hid hs
    rw [hs]
    have hD := h.2.2.1
    have hD2 := h.2.2.2.1
    obtain ⟨d, rfl⟩ := Int.eq_ofNat_of_zero_le hD
    have hd : d < 7 := by omega
    have HD := Lib.hid hd
    have HIr := Lib.hid (fun w => refReceiver_any d u w hd)
    have c1 : w4.cell? ⟨N + 1, 1, none⟩ = some (.int .i64 (d : Int)) := HE4.out.2.2.2.1.cell 1
    clear hs h hD hD2 hd
    go_wp2_with fail
    refine (HIr.out _).mono ?_
    rintro e w5 ⟨rfl, hb5⟩
    have HE5 : Hid (N + 3 ≤ w5.heap.size ∧ Below N w w5 ∧ Kbx w5 N p ∧ Blk w5 (N + 1) #[.int .u8 K, .int .i64 (d : Int), .int .i64 E, .int .u64 (P : Int), .int .u64 (Q : Int), .int .u64 (G : Int)] 28 ∧ Blk w5 (N + 2) (sc4 0 (.slice none 0 0)) 63) := Lib.hid ⟨Nat.le_trans HE4.out.1 hb5.size, HE4.out.2.1.trans (hb5.mono (by have := HE4.out.1; omega)), HE4.out.2.2.1.keep hb5, HE4.out.2.2.2.1.keep hb5, HE4.out.2.2.2.2.keep hb5⟩
    clear hb5 c1
    rcases hr : isr (d : Int) u with _ | _
    · have HC : Hid (secc K (d : Int) E P Q G u = 2) := Lib.hid (by unfold secc; rw [HSb.out, hr]; rfl)
      clear hr
      have hth : w5.there (N + 2) 0 4 := HE5.out.2.2.2.2.there
      have HF : Hid (Blk (w5.setCells (N + 2) 0 (sc4 0 (.slice none 0 0)).toList) (N + 2) (sc4 0 (.slice none 0 0)) 63 ∧ Below N w (w5.setCells (N + 2) 0 (sc4 0 (.slice none 0 0)).toList)) := Lib.hid ⟨Blk.setAll HE5.out.2.2.2.2 _ rfl, below_setCells _ _ _ _ HE5.out.2.1 (by omega)⟩
      go_wp2_with ((with_reducible show wpList _ _ _ (Oper.mk _ (Op.store 63 _ _) _ _ _ _ :: _) _ _); refine wpList_store_sec rfl _ _ rfl _ _ _ rfl rfl rfl hth ?_)
      exact bodyPost_ret (results_sec rfl _ _ (N + 2) 0 (.slice none 0 0) _ rfl rfl HF.out.1) rfl ⟨⟨0, .slice none 0 0, by rw [HC.out]; rfl, fun _ => ⟨rfl, rfl⟩, fun h => by rw [HC.out] at h; cases h⟩, HF.out.2⟩
    · have hu := of_decide_eq_true hr
      obtain ⟨r, rfl⟩ := Int.eq_ofNat_of_zero_le hu.1
      have hrd : r < 2 ^ d := by have h := hu.2; rw [Int.toNat_natCast] at h; omega
      have HC : Hid (secc K (d : Int) E P Q G (r : Int) = 0) := Lib.hid (by unfold secc; rw [HSb.out, hr]; rfl)
      have HSo := Lib.hid (fun w => refSecretOf_any p K E d r P Q G w hp HD.out hrd)
      obtain ⟨ps, hps⟩ : ∃ ps, ps = plc K d (2 ^ d + r) := ⟨_, rfl⟩
      rw [← hps] at HSo
      have HPs : Hid (plc K d (2 ^ d + r) = ps) := Lib.hid hps.symm
      obtain ⟨n, hn⟩ : ∃ n, n = ps.length := ⟨_, rfl⟩
      rw [← hn] at HSo
      have HN0 := Lib.hid hn
      have H6 := HE5.out.2.2.2.1
      have c0 : w5.cell? ⟨N + 1, 0, none⟩ = some (.int .u8 K) := H6.cell 0
      have c1 : w5.cell? ⟨N + 1, 1, none⟩ = some (.int .i64 (d : Int)) := H6.cell 1
      have c2 : w5.cell? ⟨N + 1, 2, none⟩ = some (.int .i64 E) := H6.cell 2
      have c3 : w5.cell? ⟨N + 1, 3, none⟩ = some (.int .u64 (P : Int)) := H6.cell 3
      have c4 : w5.cell? ⟨N + 1, 4, none⟩ = some (.int .u64 (Q : Int)) := H6.cell 4
      have c5 : w5.cell? ⟨N + 1, 5, none⟩ = some (.int .u64 (G : Int)) := H6.cell 5
      clear hu hr hps hn hp hrd H6
      go_wp2_with ((with_reducible show wpList _ _ _ (Oper.mk _ (Op.load 58 _) _ _ _ _ :: _) _ _); refine wpList_load_key rfl _ rfl _ rfl _ _ (Kbx.at_ HE5.out.2.2.1) ?_)
      refine (HSo.out _).mono ?_
      rintro e w6 ⟨⟨v, rfl, ho⟩, hb6⟩
      obtain ⟨A2, k2, hv2⟩ := own_val ho
      subst hv2
      have hth : w6.there (N + 2) 0 4 := (HE5.out.2.2.2.2.keep hb6).there
      have ho2 : w6.ownsRow N 70 18 (.slice A2 n k2) n (lbs K p ps) := own_mono ho (by have := HE5.out.1; omega)
      have HF : Hid (Blk (w6.setCells (N + 2) 0 (sc4 (r : Int) (.slice A2 n k2)).toList) (N + 2) (sc4 (r : Int) (.slice A2 n k2)) 63 ∧ Below N w (w6.setCells (N + 2) 0 (sc4 (r : Int) (.slice A2 n k2)).toList) ∧ (w6.setCells (N + 2) 0 (sc4 (r : Int) (.slice A2 n k2)).toList).ownsRow N 70 18 (.slice A2 n k2) n (lbs K p ps)) := Lib.hid ⟨Blk.setAll (HE5.out.2.2.2.2.keep hb6) _ rfl, below_setCells _ _ _ _ (HE5.out.2.1.trans (hb6.mono (by have := HE5.out.1; omega))) (by omega), own_setCells _ _ ho2 ((HE5.out.2.2.2.2.keep hb6).apart ho2 (by decide))⟩
      clear c0 c1 c2 c3 c4 c5 hb6 ho ho2
      go_wp2_with ((with_reducible show wpList _ _ _ (Oper.mk _ (Op.store 63 _ _) _ _ _ _ :: _) _ _); refine wpList_store_sec rfl _ _ rfl _ _ _ rfl rfl rfl hth ?_)
      refine bodyPost_ret (results_sec rfl _ _ (N + 2) (r : Int) (.slice A2 n k2) _ rfl rfl HF.out.1) rfl ⟨⟨(r : Int), .slice A2 n k2, by rw [HC.out]; rfl, fun h => absurd HC.out h, fun _ => ⟨rfl, ?_⟩⟩, HF.out.2.1⟩
      (try simp only [Int.toNat_natCast])
      rw [HPs.out, ← HN0.out]
      exact HF.out.2.2
  · have hs := scb_no h
    rw [hs]
    have HC : Hid (secc K D E P Q G u = 30) := Lib.hid (by unfold secc; rw [scb_no h]; rfl)
    clear h hs
    have hth : w4.there (N + 2) 0 4 := HE4.out.2.2.2.2.there
    have HF : Hid (Blk (w4.setCells (N + 2) 0 (sc4 0 (.slice none 0 0)).toList) (N + 2) (sc4 0 (.slice none 0 0)) 63 ∧ Below N w (w4.setCells (N + 2) 0 (sc4 0 (.slice none 0 0)).toList)) := Lib.hid ⟨Blk.setAll HE4.out.2.2.2.2 _ rfl, below_setCells _ _ _ _ HE4.out.2.1 (by omega)⟩
    go_wp2_with ((with_reducible show wpList _ _ _ (Oper.mk _ (Op.store 63 _ _) _ _ _ _ :: _) _ _); refine wpList_store_sec rfl _ _ rfl _ _ _ rfl rfl rfl hth ?_)
    exact bodyPost_ret (results_sec rfl _ _ (N + 2) 0 (.slice none 0 0) _ rfl rfl HF.out.1) rfl ⟨⟨0, .slice none 0 0, by rw [HC.out]; rfl, fun _ => ⟨rfl, rfl⟩, fun h => by rw [HC.out] at h; cases h⟩, HF.out.2⟩
end Go.Proofs.Ytnbkoffhplknbaa
