/-
  Open, the program's.
-/
import Derived.Test.YtelalpikdidpeaaOpnA
namespace Go.Proofs.Ytelalpikdidpeaa
open Go.RowKit TR L2 L2.SP
set_option linter.unusedVariables false
set_option linter.unusedSimpArgs false

/-- The session key that an item yields to some labels. -/
def hit (d : Nat) (L : Nat → Int × Int × (Nat × Nat)) (nl : Nat) (ck : Nat × Nat) (it : Int × Int × (Nat × Nat)) (r : Nat × Nat) : Prop :=
  ∃ q, FndR d L it.1.toNat it.2.1.toNat nl true q ∧ r = dec q.1 q.2 it.2.2.1 it.2.2.2 ∧ drv r.1 r.2 53 0 = ck
theorem hit.same {d : Nat} {L : Nat → Int × Int × (Nat × Nat)} {nl : Nat} {ck : Nat × Nat} {it : Int × Int × (Nat × Nat)} {r1 r2 : Nat × Nat} (h1 : hit d L nl ck it r1) (h2 : hit d L nl ck it r2) : r1 = r2 := by
  obtain ⟨q1, a1, rfl, _⟩ := h1
  obtain ⟨q2, b1, rfl, _⟩ := h2
  obtain ⟨_, rfl⟩ := FndR.same a1 b1
  rfl
theorem Lbx.krangeI {w : World} {b : Nat} {v x : Int} {p : Nat × Nat} (h : Itx w b v x p) : w.rangeAt b 2 (kl p.1 p.2) := fun j u hu => (Blk.cell h (2 + j)).trans (by
  have h1 : (lbl v x p)[2 + j]? = some u := by
    unfold lbl
    rw [List.getElem?_append_right (by simp), show 2 + j - [Value.int .i64 v, .int .i64 x].length = j by simp]
    exact hu
  simpa using h1)
/-- The answer of Open. -/
def OpE (K D E : Int) (P Q G : Nat) (L : Nat → Int × Int × (Nat × Nat)) (nl n : Nat) (B : Int) (np : Nat) (x ck : Nat × Nat) (F : Nat → Int × Int × (Nat × Nat)) (e : Ending) : Prop :=
  (scb K D E P Q G = false ∧ e = .returned (.tuple #[.agg (kl 0 0).toArray, .int .i64 30])) ∨
  (scb K D E P Q G = true ∧ hvb K D.toNat n B np x F = false ∧ e = .returned (.tuple #[.agg (kl 0 0).toArray, .int .i64 8])) ∨
  (scb K D E P Q G = true ∧ hvb K D.toNat n B np x F = true ∧ ∃ k r, k < n ∧ hit D.toNat L nl ck (F k) r ∧ (∀ i, i < k → ∀ r', ¬ hit D.toNat L nl ck (F i) r') ∧ e = .returned (.tuple #[.agg (kl r.1 r.2).toArray, .int .i64 0])) ∨
  (scb K D E P Q G = true ∧ hvb K D.toNat n B np x F = true ∧ (∀ i, i < n → ∀ r', ¬ hit D.toNat L nl ck (F i) r') ∧ e = .returned (.tuple #[.agg (kl 0 0).toArray, .int .i64 6]))
theorem OpE.same {K D E : Int} {P Q G : Nat} {L : Nat → Int × Int × (Nat × Nat)} {nl n : Nat} {B : Int} {np : Nat} {x ck : Nat × Nat} {F : Nat → Int × Int × (Nat × Nat)} {e1 e2 : Ending} (h1 : OpE K D E P Q G L nl n B np x ck F e1) (h2 : OpE K D E P Q G L nl n B np x ck F e2) : e1 = e2 := by
  rcases h1 with ⟨a1, rfl⟩ | ⟨a1, a2, rfl⟩ | ⟨a1, a2, k1, r1, a3, a4, a5, rfl⟩ | ⟨a1, a2, a3, rfl⟩ <;> rcases h2 with ⟨b1, rfl⟩ | ⟨b1, b2, rfl⟩ | ⟨b1, b2, k2, r2, b3, b4, b5, rfl⟩ | ⟨b1, b2, b3, rfl⟩
  all_goals first
    | rfl
    | exact absurd (a1.symm.trans b1) (by decide)
    | exact absurd (a2.symm.trans b2) (by decide)
    | skip
  · rcases Nat.lt_trichotomy k1 k2 with h | rfl | h
    · exact absurd a4 (b5 k1 h r1)
    · rw [a4.same b4]
    · exact absurd b4 (a5 k2 h r2)
  · exact absurd a4 (b3 k1 a3 r1)
  · exact absurd b4 (a3 k2 b3 r2)
theorem OpE.key {K D E : Int} {P Q G : Nat} {L : Nat → Int × Int × (Nat × Nat)} {nl n : Nat} {B : Int} {np : Nat} {x ck : Nat × Nat} {F : Nat → Int × Int × (Nat × Nat)} {e : Ending} (h : OpE K D E P Q G L nl n B np x ck F e) (hF : ∀ i, i < n → Ok (F i).2.2) : ∃ (q : Nat × Nat) (c : Int), Ok q ∧ e = .returned (.tuple #[.agg (kl q.1 q.2).toArray, .int .i64 c]) := by
  rcases h with ⟨a1, rfl⟩ | ⟨a1, a2, rfl⟩ | ⟨a1, a2, k1, r1, a3, ⟨q, _, rfl, _⟩, a5, rfl⟩ | ⟨a1, a2, a3, rfl⟩
  · exact ⟨(0, 0), _, ⟨by decide, by decide⟩, rfl⟩
  · exact ⟨(0, 0), _, ⟨by decide, by decide⟩, rfl⟩
  · exact ⟨_, _, dec_ok (hF k1 a3).1 (hF k1 a3).2, rfl⟩
  · exact ⟨(0, 0), _, ⟨by decide, by decide⟩, rfl⟩

set_option maxRecDepth 100000 in
set_option maxHeartbeats 400000 in
theorem open_any (K D E B rr ss tt : Int) (P Q G g o n m gl ol nl ml np kp : Nat) (A AL Ap : Option Addr) (x y : Nat × Nat) (L F : Nat → Int × Int × (Nat × Nat)) (w : World) (hK0 : 0 ≤ K) (hK1 : K ≤ 255) (hx : Ok x) (hy : Ok y) (hn : n ≤ 4398046511104) (hnp : np ≤ 8796093022208) (hnm : n ≤ m) (had : n = 0 ∨ A = some ⟨g, o, none⟩)
    (hc : ∀ i, i < n → w.rangeAt g (o + i * 18) (lbl (F i).1 (F i).2.1 (F i).2.2) ∧ Ok (F i).2.2)
    (hnl : nl ≤ 4398046511104) (hnlm : nl ≤ ml) (hal : nl = 0 ∨ AL = some ⟨gl, ol, none⟩) (hL : ∀ i, i < nl → w.rangeAt gl (ol + i * 18) (lbl (L i).1 (L i).2.1 (L i).2.2) ∧ (L i).2.1 < 9223372036854775808 ∧ Ok (L i).2.2) :
    Calls Try.prog 23 #[.agg #[.int .u8 K, .int .i64 D, .int .i64 E, .int .u64 (P : Int), .int .u64 (Q : Int), .int .u64 (G : Int)], .agg (sg rr (.slice AL nl ml) ss tt), .agg (hdi (.slice A n m) (.slice Ap np kp) B x y).toArray] w fun e w' => OpE K D E P Q G L nl n B np x y F e ∧ Below w.heap.size w w' := by
  obtain ⟨N, hN⟩ : ∃ N, N = w.heap.size := ⟨_, rfl⟩
  obtain ⟨W4, hW4⟩ : ∃ W4, W4 = (((w.alloc (.cells #[.int .u8 K, .int .i64 D, .int .i64 E, .int .u64 (P : Int), .int .u64 (Q : Int), .int .u64 (G : Int)] 28)).alloc (.cells (sg rr (.slice AL nl ml) ss tt) 33)).alloc (.cells (hdi (.slice A n m) (.slice Ap np kp) B x y).toArray 59)).alloc (.cells z16 23) := ⟨_, rfl⟩
  have s4 : W4.heap.size = N + 4 := by rw [hW4, hN]; simp
  have b4 : Below N w W4 := by rw [hW4, hN]; exact (below_alloc _ _).trans (((below_alloc _ _).mono (by simp)).trans (((below_alloc _ _).mono (by simp; omega)).trans ((below_alloc _ _).mono (by simp; omega))))
  have e1 : Blk W4 N #[.int .u8 K, .int .i64 D, .int .i64 E, .int .u64 (P : Int), .int .u64 (Q : Int), .int .u64 (G : Int)] 28 := by rw [hW4, hN]; exact (((Blk.new w _ _).keep (below_alloc _ _)).keep (below_alloc _ _)).keep (below_alloc _ _)
  have e2 : Blk W4 (N + 1) (sg rr (.slice AL nl ml) ss tt) 33 := by
    have h := ((Blk.new (w.alloc (.cells #[.int .u8 K, .int .i64 D, .int .i64 E, .int .u64 (P : Int), .int .u64 (Q : Int), .int .u64 (G : Int)] 28)) (sg rr (.slice AL nl ml) ss tt) 33).keep (below_alloc _ (.cells (hdi (.slice A n m) (.slice Ap np kp) B x y).toArray 59))).keep (below_alloc _ (.cells z16 23))
    rw [World.size_alloc, ← hN] at h; rw [hW4]; exact h
  have e3 : Hdx W4 (N + 2) (.slice A n m) (.slice Ap np kp) B x y := by
    have h := (Blk.new ((w.alloc (.cells #[.int .u8 K, .int .i64 D, .int .i64 E, .int .u64 (P : Int), .int .u64 (Q : Int), .int .u64 (G : Int)] 28)).alloc (.cells (sg rr (.slice AL nl ml) ss tt) 33)) (hdi (.slice A n m) (.slice Ap np kp) B x y).toArray 59).keep (below_alloc _ (.cells z16 23))
    rw [World.size_alloc, World.size_alloc, ← hN] at h; rw [hW4]; exact h
  have e4 : Blk W4 (N + 3) z16 23 := by
    have h := Blk.new (((w.alloc (.cells #[.int .u8 K, .int .i64 D, .int .i64 E, .int .u64 (P : Int), .int .u64 (Q : Int), .int .u64 (G : Int)] 28)).alloc (.cells (sg rr (.slice AL nl ml) ss tt) 33)).alloc (.cells (hdi (.slice A n m) (.slice Ap np kp) B x y).toArray 59)) z16 23
    rw [World.size_alloc, World.size_alloc, World.size_alloc, ← hN] at h; rw [hW4]; exact h
  have HE : Hid (W4.heap.size = N + 4 ∧ Below N w W4 ∧ Blk W4 N #[.int .u8 K, .int .i64 D, .int .i64 E, .int .u64 (P : Int), .int .u64 (Q : Int), .int .u64 (G : Int)] 28 ∧ Blk W4 (N + 1) (sg rr (.slice AL nl ml) ss tt) 33 ∧ Hdx W4 (N + 2) (.slice A n m) (.slice Ap np kp) B x y ∧ Blk W4 (N + 3) z16 23) := Lib.hid ⟨s4, b4, e1, e2, e3, e4⟩
  have HC : Hid (∀ w1, Below W4.heap.size W4 w1 → ∀ i, i < n → w1.rangeAt g (o + i * 18) (lbl (F i).1 (F i).2.1 (F i).2.2)) := Lib.hid (fun w1 hb i hi j u hu => by
    have hb2 : Below N w w1 := b4.trans (hb.mono (by rw [s4]; omega))
    exact (hb2.cell (p := ⟨g, o + i * 18 + j, none⟩) (by rw [hN]; exact World.block_lt_of_cell? w _ ((hc i hi).1 j u hu))).trans ((hc i hi).1 j u hu))
  have HOk := Lib.hid (fun i (hi : i < n) => (hc i hi).2)
  have HLb : Hid (∀ w1, Below W4.heap.size W4 w1 → ∀ i, i < nl → w1.rangeAt gl (ol + i * 18) (lbl (L i).1 (L i).2.1 (L i).2.2) ∧ (L i).2.1 < 9223372036854775808 ∧ Ok (L i).2.2) := Lib.hid (fun w1 hb i hi => ⟨fun j u hu => by
    have hb2 : Below N w w1 := b4.trans (hb.mono (by rw [s4]; omega))
    exact (hb2.cell (p := ⟨gl, ol + i * 18 + j, none⟩) (by rw [hN]; exact World.block_lt_of_cell? w _ ((hL i hi).1 j u hu))).trans ((hL i hi).1 j u hu), (hL i hi).2⟩)
  have HLk := Lib.hid (fun i (hi : i < nl) => (hL i hi).2.2)
  have HEND := Lib.hid (fun (q : Nat × Nat) (w3 : World) (hb : Below W4.heap.size W4 w3) => (⟨by have h := (HE.out.2.2.2.2.2.below hb (by rw [s4]; omega)).there; simpa using h, Kbx.at_ (Kbx.stored (HE.out.2.2.2.2.2.below hb (by rw [s4]; omega)) rfl q), below_setCells _ _ _ _ (HE.out.2.1.trans (hb.mono (by rw [s4]; omega))) (by omega)⟩ : w3.there (N + 3) 0 16 ∧ KeyAt (w3.setCells (N + 3) 0 (kl q.1 q.2)) (N + 3) q.1 q.2 ∧ Below N w (w3.setCells (N + 3) 0 (kl q.1 q.2))))
  have HCk := Lib.hid (fun w => check_any K D E P Q G w hK0 hK1)
  have HAD := Lib.hid had
  have HYo := Lib.hid hy
  have HIh := Lib.hid (fun (d : Nat) w1 (hd : d < 7) (hb : Below W4.heap.size W4 w1) => isHeader_any K E B d P Q G g o n m np kp A Ap x y F w1 hd hx hn hnp hnm had (HC.out w1 hb))
  have HFi := Lib.hid (fun a b w1 (hb : Below W4.heap.size W4 w1) => find_any K D E a b rr ss tt P Q G AL gl ol nl ml L w1 hK0 hK1 (by omega) hnlm hal (HLb.out w1 hb))
  have HDe := Lib.hid (fun (q bx : Nat × Nat) w (h1 : Ok q) (h2 : Ok bx) => decrypt_any q.1 q.2 bx.1 bx.2 w h1.1 h1.2 h2.1 h2.2)
  have HCo := Lib.hid (fun (q : Nat × Nat) w (h : Ok q) => checkOf_any q w h)
  have HN := Lib.hid hN
  have HW := Lib.hid hW4
  rw [← hN]
  have c0 : W4.cell? ⟨N, 0, none⟩ = some (.int .u8 K) := (e1).cell 0
  have c1 : W4.cell? ⟨N, 1, none⟩ = some (.int .i64 D) := (e1).cell 1
  have c2 : W4.cell? ⟨N, 2, none⟩ = some (.int .i64 E) := (e1).cell 2
  have c3 : W4.cell? ⟨N, 3, none⟩ = some (.int .u64 (P : Int)) := (e1).cell 3
  have c4 : W4.cell? ⟨N, 4, none⟩ = some (.int .u64 (Q : Int)) := (e1).cell 4
  have c5 : W4.cell? ⟨N, 5, none⟩ = some (.int .u64 (G : Int)) := (e1).cell 5
  rw [hW4, hN] at c0 c1 c2 c3 c4 c5
  clear hN hW4 s4 b4 e1 e2 e3 e4 hc hL hK0 hK1 hx hy hn hnp hnm had hnl hnlm hal
  go_enter Try.func23, Try.ntmps23
  go_wp2_with fail
  rw [← HW.out, ← HN.out]
  refine (HCk.out _).mono ?_
  rintro e w5 ⟨rfl, hb5⟩
  have HB5 := Lib.hid hb5
  clear hb5 c0 c1 c2 c3 c4 c5
  by_cases h : ScOk K D E P Q G
  · have hsc := scc_yes h
    rw [hsc]
    have HSb := Lib.hid (scb_yes h)
    have hD := h.2.2.1
    have hD2 := h.2.2.2.1
    obtain ⟨d, rfl⟩ := Int.eq_ofNat_of_zero_le hD
    have hd : d < 7 := by omega
    have HIw := Lib.hid (HIh.out d w5 hd HB5.out)
    have c0 : w5.cell? ⟨N, 0, none⟩ = some (.int .u8 K) := (HE.out.2.2.1.keep HB5.out).cell 0
    have c1 : w5.cell? ⟨N, 1, none⟩ = some (.int .i64 (d : Int)) := (HE.out.2.2.1.keep HB5.out).cell 1
    have c2 : w5.cell? ⟨N, 2, none⟩ = some (.int .i64 E) := (HE.out.2.2.1.keep HB5.out).cell 2
    have c3 : w5.cell? ⟨N, 3, none⟩ = some (.int .u64 (P : Int)) := (HE.out.2.2.1.keep HB5.out).cell 3
    have c4 : w5.cell? ⟨N, 4, none⟩ = some (.int .u64 (Q : Int)) := (HE.out.2.2.1.keep HB5.out).cell 4
    have c5 : w5.cell? ⟨N, 5, none⟩ = some (.int .u64 (G : Int)) := (HE.out.2.2.1.keep HB5.out).cell 5
    have HD7 := Lib.hid hd
    clear hsc h hD hD2 hd
    go_wp2_with ((with_reducible show wpList _ _ _ (Oper.mk _ (Op.load 59 _) _ _ _ _ :: _) _ _); refine wpList_load_hdi rfl _ rfl _ rfl _ _ _ _ _ (Blk.keep HE.out.2.2.2.2.1 HB5.out) ?_)
    refine (HIw.out).mono ?_
    rintro e w6 ⟨rfl, hb6⟩
    have HB6 := Lib.hid (HB5.out.trans (hb6.mono HB5.out.size))
    clear hb6 c0 c1 c2 c3 c4 c5
    rcases hv : hvb K d n B np x F with _ | _
    · have H3 := Lib.hid (HEND.out (0, 0) w6 HB6.out)
      have HC0 : Hid (∀ e, e = .returned (.tuple #[.agg (kl 0 0).toArray, .int .i64 8]) → OpE K (d : Int) E P Q G L nl n B np x y F e) := Lib.hid (fun e he => .inr (.inl ⟨HSb.out, by rw [Int.toNat_natCast]; exact hv, he⟩))
      clear hv
      go_wp2_with (first
      | ((with_reducible show wpList _ _ _ (Oper.mk _ (Op.build 23 _) _ _ _ _ :: _) _ _); refine wpList_buildKey0 rfl rfl ?_)
      | ((with_reducible show wpList _ _ _ (Oper.mk _ (Op.store 23 _ _) _ _ _ _ :: _) _ _); refine wpList_store_key rfl _ _ rfl (N + 3) _ _ rfl rfl H3.out.1 ?_))
      exact bodyPost_ret (results_keye rfl _ _ (N + 3) (0, 0) _ rfl rfl H3.out.2.1) rfl ⟨HC0.out _ rfl, H3.out.2.2⟩
    · have HV := Lib.hid hv
      have HIsb : Hid (∀ i, i < n → isb K d (F i).1 (F i).2.1 = true) := Lib.hid (by
        have h2 := hv
        unfold hvb at h2
        simp only [Bool.and_eq_true, decide_eq_true_eq, List.all_eq_true, List.mem_range] at h2
        exact h2.2.2.2.2)
      have hn64 : n ≤ 64 := by
        have h2 := hv
        unfold hvb at h2
        simp only [Bool.and_eq_true, decide_eq_true_eq] at h2
        exact h2.1
      have HCy : Hid (∀ k r, k < n → hit d L nl y (F k) r → (∀ i, i < k → ∀ r', ¬ hit d L nl y (F i) r') → ∀ e, e = .returned (.tuple #[.agg (kl r.1 r.2).toArray, .int .i64 0]) → OpE K (d : Int) E P Q G L nl n B np x y F e) := Lib.hid (fun k r h1 h2 h3 e he => .inr (.inr (.inl ⟨HSb.out, by rw [Int.toNat_natCast]; exact HV.out, k, r, h1, by rw [Int.toNat_natCast]; exact h2, by rw [Int.toNat_natCast]; exact h3, he⟩)))
      have HCn : Hid ((∀ i, i < n → ∀ r', ¬ hit d L nl y (F i) r') → ∀ e, e = .returned (.tuple #[.agg (kl 0 0).toArray, .int .i64 6]) → OpE K (d : Int) E P Q G L nl n B np x y F e) := Lib.hid (fun h3 e he => .inr (.inr (.inr ⟨HSb.out, by rw [Int.toNat_natCast]; exact HV.out, by rw [Int.toNat_natCast]; exact h3, he⟩)))
      have cz := Hdx.c0 (Blk.keep HE.out.2.2.2.2.1 HB6.out)
      clear hv
      go_wp2_with fail
      clear cz
      go_loopw [28] (fun i wr => ∃ (k : Nat), k ≤ n ∧ i = .int .i64 (k : Int) ∧ Hid (Below W4.heap.size W4 wr) ∧ Hid (∀ j, j < k → ∀ r', ¬ hit d L nl y (F j) r')) (fun i _ => n + 1 - (intOf i).toNat)
      case atStart => exact ⟨0, by omega, rfl, HB6, Lib.hid (fun j h => by omega)⟩
      case round =>
        obtain ⟨k, hk, rfl, HBr, HA⟩ := hrel
        by_cases hlt : k < n
        · rcases HAD.out with h0 | rfl
          · omega
          have l1 : (0 : Int) ≤ (k : Int) := by omega
          have l2 : (k : Int) < (n : Int) := by omega
          have HRk := Lib.hid (HC.out wr HBr.out k hlt)
          have HOb := Lib.hid (HOk.out k hlt)
          have hIs := HIsb.out k hlt
          have h0s : sbc K (d : Int) E P Q G (F k).1 (F k).2.1 = 0 := by unfold sbc; rw [HSb.out, Int.toNat_natCast, hIs]; rfl
          have HS0 := Lib.hid h0s
          have HNx : Hid ((∀ r', ¬ hit d L nl y (F k) r') → ∀ j, j < k + 1 → ∀ r', ¬ hit d L nl y (F j) r') := Lib.hid (fun h j hj => by
            rcases Nat.lt_or_ge j k with h1 | h1
            · exact HA.out j h1
            · obtain rfl : j = k := by omega
              exact h)
          have HYs := Lib.hid (fun r (h : hit d L nl y (F k) r) => HCy.out k r hlt h HA.out)
          obtain ⟨it, hit_⟩ : ∃ it, it = F k := ⟨_, rfl⟩
          rw [← hit_] at HRk HOb HS0 HNx HYs
          obtain ⟨a, b, q⟩ := it
          have HFk := Lib.hid (fun w1 hb => HFi.out a b w1 hb)
          obtain ⟨k1, k2, k3, k4⟩ := itmbox wr a b q
          obtain ⟨W5, hW5⟩ : ∃ W5, W5 = (wr.alloc (.cells lz18 112)).setCells wr.heap.size 0 (lbl a b q) := ⟨_, rfl⟩
          rw [← hW5] at k2 k3 k4
          obtain ⟨ib, hib⟩ : ∃ ib, ib = wr.heap.size := ⟨_, rfl⟩
          rw [← hib] at k2 k4
          have HBW : Hid (Below W4.heap.size W4 W5 ∧ Itx W5 ib a b q) := Lib.hid ⟨HBr.out.trans (k3.mono HBr.out.size), k2⟩
          have y0 : W5.cell? ⟨ib, 0, none⟩ = some (.int .i64 a) := k2.cell 0
          have y1 : W5.cell? ⟨ib, 1, none⟩ = some (.int .i64 b) := k2.cell 1
          have c0 : W5.cell? ⟨N, 0, none⟩ = some (.int .u8 K) := (HE.out.2.2.1.keep HBW.out.1).cell 0
          have c1 : W5.cell? ⟨N, 1, none⟩ = some (.int .i64 (d : Int)) := (HE.out.2.2.1.keep HBW.out.1).cell 1
          have c2 : W5.cell? ⟨N, 2, none⟩ = some (.int .i64 E) := (HE.out.2.2.1.keep HBW.out.1).cell 2
          have c3 : W5.cell? ⟨N, 3, none⟩ = some (.int .u64 (P : Int)) := (HE.out.2.2.1.keep HBW.out.1).cell 3
          have c4 : W5.cell? ⟨N, 4, none⟩ = some (.int .u64 (Q : Int)) := (HE.out.2.2.1.keep HBW.out.1).cell 4
          have c5 : W5.cell? ⟨N, 5, none⟩ = some (.int .u64 (G : Int)) := (HE.out.2.2.1.keep HBW.out.1).cell 5
          rw [hW5] at c0 c1 c2 c3 c4 c5
          rw [hW5, hib] at y0 y1
          have HW5 := Lib.hid (And.intro hW5 hib)
          have HTh := Lib.hid k1
          clear k1 k2 k3 k4 hW5 hib hit_ hIs h0s hk
          go_wp2_with (first
            | ((with_reducible show wpList _ _ _ (Oper.mk _ (Op.load 112 _) _ _ _ _ :: _) _ _); refine wpList_load_itmo rfl _ rfl _ _ rfl _ _ _ HRk.out ?_)
            | ((with_reducible show wpList _ _ _ (Oper.mk _ (Op.store 112 _ _) _ _ _ _ :: _) _ _); refine wpList_store_itm rfl _ _ rfl _ _ _ _ rfl rfl HTh.out ?_)
            | ((with_reducible show wpList _ _ _ (Oper.mk _ (Op.load 33 _) _ _ _ _ :: _) _ _); refine wpList_load_sg rfl _ rfl _ rfl _ _ _ _ (by rw [← HW5.out.1]; exact HE.out.2.2.2.1.keep HBW.out.1) ?_))
          rw [← HW5.out.1, ← HW5.out.2]
          refine (HFk.out W5 HBW.out.1).mono ?_
          rintro e w7 ⟨hf7, hb7⟩
          have HB7 : Hid (Below W4.heap.size W4 w7 ∧ Itx w7 ib a b q) := Lib.hid ⟨HBW.out.1.trans (hb7.mono HBW.out.1.size), Blk.keep HBW.out.2 hb7⟩
          obtain ⟨ff, z, hfr, rfl⟩ : ∃ ff z, FndR d L a.toNat b.toNat nl ff z ∧ e = .returned (.tuple #[.agg (kl z.1 z.2).toArray, .int .i64 (if ff then 0 else 6)]) := by
            rcases hf7 with ⟨h1, _⟩ | ⟨_, f, q, h2, h3⟩
            · exact absurd HS0.out h1
            · exact ⟨f, q, h2, h3⟩
          clear hf7 hb7 y0 y1 c0 c1 c2 c3 c4 c5
          obtain ⟨k1, k2, k3, k4⟩ := keybox w7 z
          obtain ⟨W8, hW8⟩ : ∃ W8, W8 = (w7.alloc (.cells z16 23)).setCells w7.heap.size 0 (kl z.1 z.2) := ⟨_, rfl⟩
          rw [← hW8] at k2 k3 k4
          obtain ⟨kb, hkb⟩ : ∃ kb, kb = w7.heap.size := ⟨_, rfl⟩
          have HTk := Lib.hid k1
          have HW8 := Lib.hid (And.intro hW8 hkb)
          rw [← hkb] at k2 k4
          have HB8 : Hid (Below W4.heap.size W4 W8 ∧ Itx W8 ib a b q ∧ Kbx W8 kb z) := Lib.hid ⟨HB7.out.1.trans (k3.mono HB7.out.1.size), Blk.keep HB7.out.2 k3, k2⟩
          clear k1 k2 k3 k4 hW8 hkb
          rcases ff with _ | _
          · have HNy := Lib.hid (HNx.out (fun r' ⟨q', h1, _⟩ => by have h2 := (FndR.same h1 hfr).1; cases h2))
            clear hfr
            go_wp2_with ((with_reducible show wpList _ _ _ (Oper.mk _ (Op.store 23 _ _) _ _ _ _ :: _) _ _); refine wpList_store_key rfl _ _ rfl _ _ _ rfl rfl HTk.out ?_)
            rw [← HW8.out.1]
            go_roundw
            case rel => exact ⟨k + 1, by omega, by go_num, Lib.hid HB8.out.1, HNy⟩
            case measure => simp [intOf]; omega
          · have hzo : Ok z := by
              rcases hfr with ⟨k2, hk2, _, _, _, rfl⟩ | ⟨_, h, _⟩
              · exact rch_ok (HLk.out k2 hk2) _ _
              · cases h
            have hso : Ok (dec z.1 z.2 q.1 q.2) := dec_ok HOb.out.1 HOb.out.2
            have HDk := Lib.hid (fun w => HDe.out z q w hzo HOb.out)
            have HHy : Hid (∀ r, r = dec z.1 z.2 q.1 q.2 → drv r.1 r.2 53 0 = y → hit d L nl y (a, b, q) r) := Lib.hid (fun r h1 h2 => ⟨z, hfr, h1, h2⟩)
            have HHn : Hid (∀ r, r = dec z.1 z.2 q.1 q.2 → drv r.1 r.2 53 0 ≠ y → ∀ r', ¬ hit d L nl y (a, b, q) r') := Lib.hid (fun r h1 h2 r' ⟨q', h3, h4, h5⟩ => by
              have h6 := (FndR.same h3 hfr).2
              subst h6
              rw [h1] at h2
              rw [h4] at h5
              exact h2 h5)
            have HCk2 := Lib.hid (fun w => HCo.out (dec z.1 z.2 q.1 q.2) w hso)
            have hco : Ok (drv (dec z.1 z.2 q.1 q.2).1 (dec z.1 z.2 q.1 q.2).2 53 0) := drv_ok hso.1 hso.2 (by omega) (by unfold M; omega)
            obtain ⟨se, hse⟩ : ∃ se, se = dec z.1 z.2 q.1 q.2 := ⟨_, rfl⟩
            rw [← hse] at HDk HCk2 hco HHy HHn
            have HHy2 := Lib.hid (HHy.out se rfl)
            have HHn2 := Lib.hid (HHn.out se rfl)
            obtain ⟨cc, hcc⟩ : ∃ cc, cc = drv se.1 se.2 53 0 := ⟨_, rfl⟩
            rw [← hcc] at HCk2 hco HHy2 HHn2
            have HQ := Lib.hid (fun w => run_equal_key hco.1 hco.2 HYo.out.1 HYo.out.2 w)
            clear hfr hzo hso hse hcc hco HHy HHn
            go_wp2_with (first
              | ((with_reducible show wpList _ _ _ (Oper.mk _ (Op.store 23 _ _) _ _ _ _ :: _) _ _); refine wpList_store_key rfl _ _ rfl _ _ _ rfl rfl HTk.out ?_)
              | ((with_reducible show wpList _ _ _ (Oper.mk _ (Op.load 23 _) _ _ _ _ :: _) _ _); refine wpList_load_key rfl _ rfl _ rfl _ _ (by rw [← HW8.out.1, ← HW8.out.2]; exact Kbx.at_ HB8.out.2.2) ?_)
              | ((with_reducible show wpList _ _ _ (Oper.mk _ (Op.load 23 _) _ _ _ _ :: _) _ _); refine wpList_load_mid rfl 23 _ rfl ib 2 rfl (kl q.1 q.2) _ (by rw [← HW8.out.1]; exact Lbx.krangeI HB8.out.2.1) Try.underlying23 rfl (by rw [kl_len]; exact size23) ?_))
            rw [← HW8.out.1, ← HW8.out.2]
            refine (HDk.out _).mono ?_
            rintro e w9 ⟨rfl, hb9⟩
            have HB9 := Lib.hid (HB8.out.1.trans (hb9.mono HB8.out.1.size))
            obtain ⟨k1, k2, k3, k4⟩ := keybox w9 se
            obtain ⟨W10, hW10⟩ : ∃ W10, W10 = (w9.alloc (.cells z16 23)).setCells w9.heap.size 0 (kl se.1 se.2) := ⟨_, rfl⟩
            rw [← hW10] at k2 k3 k4
            obtain ⟨sb, hsb⟩ : ∃ sb, sb = w9.heap.size := ⟨_, rfl⟩
            have HTs := Lib.hid k1
            have HW10 := Lib.hid (And.intro hW10 hsb)
            rw [← hsb] at k2 k4
            have HB10 : Hid (Below W4.heap.size W4 W10 ∧ Kbx W10 sb se) := Lib.hid ⟨HB9.out.trans (k3.mono HB9.out.size), k2⟩
            clear k1 k2 k3 k4 hW10 hsb hb9
            go_wp2_with ((with_reducible show wpList _ _ _ (Oper.mk _ (Op.store 23 _ _) _ _ _ _ :: _) _ _); refine wpList_store_key rfl _ _ rfl _ _ _ rfl rfl HTs.out ?_)
            rw [← HW10.out.1, ← HW10.out.2]
            refine wp_region_inv (by kernel_rfl) (by kernel_rfl) (fun l a' w' => a' = { tmps := #[Value.agg #[Value.int IntKind.u8 K, Value.int IntKind.i64 d, Value.int IntKind.i64 E, Value.int IntKind.u64 P, Value.int IntKind.u64 Q, Value.int IntKind.u64 G], Value.agg (sg rr (Value.slice AL nl ml) ss tt), Value.agg (hdi (Value.slice (some ⟨g, o, none⟩) n m) (Value.slice Ap np kp) B x y).toArray, Value.pointer (some ⟨N, 0, none⟩), Value.pointer (some ⟨N + 1, 0, none⟩), Value.pointer (some ⟨N + 1 + 1, 0, none⟩), Value.pointer (some ⟨N + 1 + 1 + 1, 0, none⟩), u7, Value.int .i64 (0 : Int), undef, Value.pointer (some ⟨ib, 0, none⟩), Value.pointer (some ⟨kb, 0, none⟩), Value.int .i64 (0 : Int), Value.pointer (some ⟨sb, 0, none⟩), Value.agg #[Value.int IntKind.u8 K, Value.int IntKind.i64 d, Value.int IntKind.i64 E, Value.int IntKind.u64 P, Value.int IntKind.u64 Q, Value.int IntKind.u64 G], Value.int .i64 (0 : Int), Value.int .i64 (0 : Int), Value.bool false, undef, undef, Value.agg #[Value.int IntKind.u8 K, Value.int IntKind.i64 d, Value.int IntKind.i64 E, Value.int IntKind.u64 P, Value.int IntKind.u64 Q, Value.int IntKind.u64 G], Value.agg (hdi (Value.slice (some ⟨g, o, none⟩) n m) (Value.slice Ap np kp) B x y).toArray, Value.bool true, Value.bool false, undef, Value.pointer (some ⟨N + 1 + 1, 0, none⟩), Value.slice (some ⟨g, o, none⟩) n m, Value.int .i64 (n : Int), Value.int .i64 (k : Int), Value.bool true, Value.pointer (some ⟨g, o + k * 18, none⟩), Value.agg (lbl a b q).toArray, Value.tuple #[Value.agg (kl z.fst z.snd).toArray, Value.int IntKind.i64 0], Value.agg #[Value.int IntKind.u8 K, Value.int IntKind.i64 d, Value.int IntKind.i64 E, Value.int IntKind.u64 P, Value.int IntKind.u64 Q, Value.int IntKind.u64 G], Value.agg (sg rr (Value.slice AL nl ml) ss tt), Value.pointer (some ⟨ib, 0, none⟩), Value.agg #[Value.int IntKind.i64 a, Value.int IntKind.i64 b], Value.tuple #[Value.agg (kl z.fst z.snd).toArray, Value.int IntKind.i64 0], Value.agg (kl z.fst z.snd).toArray, Value.int .i64 (0 : Int), Value.int .i64 (0 : Int), Value.bool false, Value.agg (kl z.fst z.snd).toArray, Value.pointer (some ⟨ib, 2, none⟩), Value.agg (kl q.fst q.snd).toArray, Value.agg (kl se.fst se.snd).toArray, bif l 0 then Value.agg (kl se.1 se.2).toArray else u46, bif l 1 then Value.agg (kl cc.1 cc.2).toArray else u47, bif l 2 then Value.pointer (some ⟨N + 2, 19, none⟩) else u48, bif l 3 then Value.agg (kl y.1 y.2).toArray else u49, bif l 4 then Value.bool (same cc.1 cc.2 y.1 y.2) else u50, u51, u52, undef], defers := [] } ∧ (Below W4.heap.size W4 w') ∧ (Kbx w' sb se)) ⟨rfl, (HB10.out.1).drew, HB10.out.2⟩ ?_ ?_
            · rintro l a' w' i ⟨rfl, hB, hS⟩ hi' hli hpre
              have hi2 : i < 5 := hi'
              have hcase : i = 0 ∨ i = 1 ∨ i = 2 ∨ i = 3 ∨ i = 4 := by omega
              clear hi' hi2
              rcases hcase with rfl | rfl | rfl | rfl | rfl
              · -- 0: Op.load 23 (Operand.tmp 13)
                refine wpOp_step rfl (fun K' hK => ?_)
                clear hpre
                rw [if_pos (by rfl)]
                refine wp_load_mid 23 _ rfl _ 0 rfl (kl se.1 se.2) _ (Kbx.at_ hS) Try.underlying23 rfl (by rw [kl_len]; exact size23) ?_
                exact hK _ _ ⟨by simp [upd, Act.put], hB, hS⟩
              · -- 1: Op.call { callee := Callee.value (Operand.func 56), args := 
                have p0 : l 0 = true := hpre _ rfl ⟨0, .data⟩ (by simp) rfl
                refine wpOp_step rfl (fun K' hK => ?_)
                simp only [p0, cond_true, cond_false]
                clear hpre
                rw [if_pos (by rfl)]
                go_simp
                refine (HCk2.out _).mono ?_
                rintro e w11 ⟨rfl, hb5⟩
                exact hK _ _ ⟨by simp [upd, Act.put, p0], (hB).trans (hb5.mono (hB).size), Blk.keep (hS) hb5⟩
              · -- 2: Op.fieldAddr 59 (Operand.tmp 5) 4
                refine wpOp_step rfl (fun K' hK => ?_)
                clear hpre
                rw [if_pos (by rfl)]
                go_simp
                exact hK _ _ ⟨by simp [upd, Act.put], hB, hS⟩
              · -- 3: Op.load 23 (Operand.tmp 48)
                have p2 : l 2 = true := hpre _ rfl ⟨2, .data⟩ (by simp) rfl
                refine wpOp_step rfl (fun K' hK => ?_)
                simp only [p2, cond_true, cond_false]
                clear hpre
                rw [if_pos (by rfl)]
                refine wp_load_mid 23 _ rfl _ 19 rfl (kl y.1 y.2) _ (Hdx.chk (Blk.keep HE.out.2.2.2.2.1 hB)) Try.underlying23 rfl (by rw [kl_len]; exact size23) ?_
                exact hK _ _ ⟨by simp [upd, Act.put, p2], hB, hS⟩
              · -- 4: Op.binOp BinOp.eql 23 (Operand.tmp 47) (Operand.tmp 49) 23
                have p1 : l 1 = true := hpre _ rfl ⟨1, .data⟩ (by simp) rfl
                have p3 : l 3 = true := hpre _ rfl ⟨3, .data⟩ (by simp) rfl
                refine wpOp_step rfl (fun K' hK => ?_)
                simp only [p1, p3, cond_true, cond_false]
                clear hpre
                rw [if_pos (by rfl)]
                have hq := HQ.out
                go_simp
                exact hK _ _ ⟨by simp [upd, Act.put, p1, p3], hB, hS⟩
            · rintro l a' w9 hall ⟨rfl, hB, hS⟩
              simp only [hall 0 (by decide), hall 1 (by decide), hall 2 (by decide), hall 3 (by decide), hall 4 (by decide), cond_true]
              clear hall
              have H6 : Hid (Below W4.heap.size W4 w9 ∧ Kbx w9 sb se) := Lib.hid ⟨hB, hS⟩
              clear hB hS
              cases hcy : same cc.1 cc.2 y.1 y.2 with
              | true =>
                have hey : cc = y := by unfold same at hcy; have h2 := of_decide_eq_true hcy; exact Prod.ext h2.1 h2.2
                have HF := Lib.hid (HYs.out se (HHy2.out hey))
                have H3 := Lib.hid (HEND.out se w9 H6.out.1)
                clear hcy hey
                go_wp2_with (first
                  | ((with_reducible show wpList _ _ _ (Oper.mk _ (Op.load 23 _) _ _ _ _ :: _) _ _); refine wpList_load_key rfl _ rfl _ rfl _ _ (Kbx.at_ H6.out.2) ?_)
                  | ((with_reducible show wpList _ _ _ (Oper.mk _ (Op.store 23 _ _) _ _ _ _ :: _) _ _); refine wpList_store_key rfl _ _ rfl (N + 3) _ _ rfl rfl H3.out.1 ?_))
                exact bodyPost_ret (results_keye rfl _ _ (N + 3) se _ rfl rfl H3.out.2.1) rfl ⟨HF.out _ rfl, H3.out.2.2⟩
              | false =>
                have hey : cc ≠ y := fun h => by rw [h] at hcy; unfold same at hcy; simp at hcy
                have HNy := Lib.hid (HNx.out (HHn2.out hey))
                clear hcy hey
                go_wp2_with fail
                go_roundw
                case rel => exact ⟨k + 1, by omega, by go_num, Lib.hid H6.out.1, HNy⟩
                case measure => simp [intOf]; omega
        · have HF := Lib.hid (HCn.out (fun i hi => HA.out i (by omega)))
          have l3 : ¬ ((k : Int) < (n : Int)) := by omega
          have H3 := Lib.hid (HEND.out (0, 0) wr HBr.out)
          go_wp2_with (first
            | ((with_reducible show wpList _ _ _ (Oper.mk _ (Op.build 23 _) _ _ _ _ :: _) _ _); refine wpList_buildKey0 rfl rfl ?_)
            | ((with_reducible show wpList _ _ _ (Oper.mk _ (Op.store 23 _ _) _ _ _ _ :: _) _ _); refine wpList_store_key rfl _ _ rfl (N + 3) _ _ rfl rfl H3.out.1 ?_))
          exact bodyPost_ret (results_keye rfl _ _ (N + 3) (0, 0) _ rfl rfl H3.out.2.1) rfl ⟨HF.out _ rfl, H3.out.2.2⟩
  · have hsc := scc_no h
    rw [hsc]
    have H3 := Lib.hid (HEND.out (0, 0) w5 HB5.out)
    have HC0 : Hid (∀ e, e = .returned (.tuple #[.agg (kl 0 0).toArray, .int .i64 30]) → OpE K D E P Q G L nl n B np x y F e) := Lib.hid (fun e he => .inl ⟨scb_no h, he⟩)
    clear hsc h
    go_wp2_with (first
      | ((with_reducible show wpList _ _ _ (Oper.mk _ (Op.build 23 _) _ _ _ _ :: _) _ _); refine wpList_buildKey0 rfl rfl ?_)
      | ((with_reducible show wpList _ _ _ (Oper.mk _ (Op.store 23 _ _) _ _ _ _ :: _) _ _); refine wpList_store_key rfl _ _ rfl (N + 3) _ _ rfl rfl H3.out.1 ?_))
    exact bodyPost_ret (results_keye rfl _ _ (N + 3) (0, 0) _ rfl rfl H3.out.2.1) rfl ⟨HC0.out _ rfl, H3.out.2.2⟩
end Go.Proofs.Ytelalpikdidpeaa
