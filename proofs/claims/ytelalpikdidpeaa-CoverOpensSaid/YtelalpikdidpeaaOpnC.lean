/-
  Open, the specification's.
-/
import Derived.Test.YtelalpikdidpeaaOpnB
namespace Go.Proofs.Ytelalpikdidpeaa
open Go.RowKit TR L2 L2.SP
set_option linter.unusedVariables false
set_option linter.unusedSimpArgs false

theorem range_key {w : World} {g b : Nat} {v x : Int} {p : Nat × Nat} (h : w.rangeAt g b (lbl v x p)) : w.rangeAt g (b + 2) (kl p.1 p.2) := fun j u hu => by
  have h1 : (lbl v x p)[2 + j]? = some u := by
    unfold lbl
    rw [List.getElem?_append_right (by simp), show 2 + j - [Value.int .i64 v, .int .i64 x].length = j by simp]
    exact hu
  have h2 := h (2 + j) u h1
  rwa [show b + (2 + j) = b + 2 + j by omega] at h2
theorem FndR.ex (d : Nat) (F : Nat → Int × Int × (Nat × Nat)) (v x n : Nat) : ∃ f q, FndR d F v x n f q := by
  have key : ∀ m, (∃ k, k < m ∧ ldb d (F k).1 (F k).2.1 v x = true ∧ ∀ i, i < k → ldb d (F i).1 (F i).2.1 v x = false) ∨ ∀ i, i < m → ldb d (F i).1 (F i).2.1 v x = false := by
    intro m
    induction m with
    | zero => exact .inr (fun i h => absurd h (by omega))
    | succ m ih =>
      rcases ih with ⟨k, h1, h2⟩ | h
      · exact .inl ⟨k, by omega, h2⟩
      · rcases hm : ldb d (F m).1 (F m).2.1 v x with _ | _
        · refine .inr (fun i hi => ?_)
          rcases Nat.lt_or_ge i m with h1 | h1
          · exact h i h1
          · obtain rfl : i = m := by omega
            exact hm
        · exact .inl ⟨m, by omega, hm, h⟩
  rcases key n with ⟨k, h1, h2, h3⟩ | h
  · exact ⟨true, _, .inl ⟨k, h1, h2, h3, rfl, rfl⟩⟩
  · exact ⟨false, _, .inr ⟨h, rfl, rfl⟩⟩

set_option maxRecDepth 100000 in
set_option maxHeartbeats 400000 in
theorem refOpen_any (K D E B rr ss tt : Int) (P Q G g o n m gl ol nl ml np kp : Nat) (A AL Ap : Option Addr) (x y : Nat × Nat) (L F : Nat → Int × Int × (Nat × Nat)) (w : World) (hK0 : 0 ≤ K) (hK1 : K ≤ 255) (hx : Ok x) (hy : Ok y) (hn : n ≤ 4398046511104) (hnp : np ≤ 8796093022208) (hnm : n ≤ m) (had : n = 0 ∨ A = some ⟨g, o, none⟩)
    (hc : ∀ i, i < n → w.rangeAt g (o + i * 18) (lbl (F i).1 (F i).2.1 (F i).2.2) ∧ Ok (F i).2.2)
    (hnl : nl ≤ 4398046511104) (hnlm : nl ≤ ml) (hal : nl = 0 ∨ AL = some ⟨gl, ol, none⟩) (hL : ∀ i, i < nl → w.rangeAt gl (ol + i * 18) (lbl (L i).1 (L i).2.1 (L i).2.2) ∧ (L i).2.1 < 9223372036854775808 ∧ Ok (L i).2.2) :
    Calls Try.prog 24 #[.agg #[.int .u8 K, .int .i64 D, .int .i64 E, .int .u64 (P : Int), .int .u64 (Q : Int), .int .u64 (G : Int)], .agg (sg rr (.slice AL nl ml) ss tt), .agg (hdi (.slice A n m) (.slice Ap np kp) B x y).toArray] w fun e w' => OpE K D E P Q G L nl n B np x y F e ∧ Below w.heap.size w w' := by
  obtain ⟨N, hN⟩ : ∃ N, N = w.heap.size := ⟨_, rfl⟩
  obtain ⟨W4, hW4⟩ : ∃ W4, W4 = (((w.alloc (.cells #[.int .u8 K, .int .i64 D, .int .i64 E, .int .u64 (P : Int), .int .u64 (Q : Int), .int .u64 (G : Int)] 28)).alloc (.cells (sg rr (.slice AL nl ml) ss tt) 33)).alloc (.cells (hdi (.slice A n m) (.slice Ap np kp) B x y).toArray 59)).alloc (.cells z16 23) := ⟨_, rfl⟩
  have s4 : W4.heap.size = N + 4 := by rw [hW4, hN]; simp
  have b4 : Below N w W4 := by rw [hW4, hN]; exact (below_alloc _ _).trans (((below_alloc _ _).mono (by simp)).trans (((below_alloc _ _).mono (by simp; omega)).trans ((below_alloc _ _).mono (by simp; omega))))
  have e1 : Blk W4 N #[.int .u8 K, .int .i64 D, .int .i64 E, .int .u64 (P : Int), .int .u64 (Q : Int), .int .u64 (G : Int)] 28 := by rw [hW4, hN]; exact (((Blk.new w _ _).keep (below_alloc _ _)).keep (below_alloc _ _)).keep (below_alloc _ _)
  have e2 : Blk W4 (N + 1) (sg rr (.slice AL nl ml) ss tt) 33 := by
    have h := ((Blk.new (w.alloc (.cells #[.int .u8 K, .int .i64 D, .int .i64 E, .int .u64 (P : Int), .int .u64 (Q : Int), .int .u64 (G : Int)] 28)) (sg rr (.slice AL nl ml) ss tt) 33).keep (below_alloc _ (.cells (hdi (.slice A n m) (.slice Ap np kp) B x y).toArray 59))).keep (below_alloc _ (.cells z16 23))
    rw [World.size_alloc, ← hN] at h; rw [hW4]; exact h
  have e3 : Hdx W4 (N + 2) (.slice A n m) (.slice Ap np kp) B x y := by
    have h := (Blk.new ((w.alloc (.cells #[.int .u8 K, .int .i64 D, .int .i64 E, .int .u64 (P : Int), .int .u64 (Q : Int), .int .u64 (G : Int)] 28)).alloc (.cells (sg rr (.slice AL nl ml) ss tt) 33)) (hdi (.slice A n m) (.slice Ap np kp) B x y).toArray 59).keep (below_alloc _ (.cells z16 23))
    rw [World.size_alloc, World.size_alloc, ← hN] at h; rw [hW4]; exact h
  have e4 : Blk W4 (N + 3) z16 23 := by
    have h := Blk.new (((w.alloc (.cells #[.int .u8 K, .int .i64 D, .int .i64 E, .int .u64 (P : Int), .int .u64 (Q : Int), .int .u64 (G : Int)] 28)).alloc (.cells (sg rr (.slice AL nl ml) ss tt) 33)).alloc (.cells (hdi (.slice A n m) (.slice Ap np kp) B x y).toArray 59)) z16 23
    rw [World.size_alloc, World.size_alloc, World.size_alloc, ← hN] at h; rw [hW4]; exact h
  have HE : Hid (W4.heap.size = N + 4 ∧ Below N w W4 ∧ Blk W4 N #[.int .u8 K, .int .i64 D, .int .i64 E, .int .u64 (P : Int), .int .u64 (Q : Int), .int .u64 (G : Int)] 28 ∧ Blk W4 (N + 1) (sg rr (.slice AL nl ml) ss tt) 33 ∧ Hdx W4 (N + 2) (.slice A n m) (.slice Ap np kp) B x y ∧ Blk W4 (N + 3) z16 23) := Lib.hid ⟨s4, b4, e1, e2, e3, e4⟩
  have HC : Hid (∀ w1, Below W4.heap.size W4 w1 → ∀ i, i < n → w1.rangeAt g (o + i * 18) (lbl (F i).1 (F i).2.1 (F i).2.2)) := Lib.hid (fun w1 hb i hi j u hu => by
    have hb2 : Below N w w1 := b4.trans (hb.mono (by rw [s4]; omega))
    exact (hb2.cell (p := ⟨g, o + i * 18 + j, none⟩) (by rw [hN]; exact World.block_lt_of_cell? w _ ((hc i hi).1 j u hu))).trans ((hc i hi).1 j u hu))
  have HOk := Lib.hid (fun i (hi : i < n) => (hc i hi).2)
  have HLb : Hid (∀ w1, Below W4.heap.size W4 w1 → ∀ i, i < nl → w1.rangeAt gl (ol + i * 18) (lbl (L i).1 (L i).2.1 (L i).2.2) ∧ (L i).2.1 < 9223372036854775808 ∧ Ok (L i).2.2) := Lib.hid (fun w1 hb i hi => ⟨fun j u hu => by
    have hb2 : Below N w w1 := b4.trans (hb.mono (by rw [s4]; omega))
    exact (hb2.cell (p := ⟨gl, ol + i * 18 + j, none⟩) (by rw [hN]; exact World.block_lt_of_cell? w _ ((hL i hi).1 j u hu))).trans ((hL i hi).1 j u hu), (hL i hi).2⟩)
  have HLk := Lib.hid (fun i (hi : i < nl) => (hL i hi).2.2)
  have HEND := Lib.hid (fun (q : Nat × Nat) (w3 : World) (hb : Below W4.heap.size W4 w3) => (⟨by have h := (HE.out.2.2.2.2.2.below hb (by rw [s4]; omega)).there; simpa using h, Kbx.at_ (Kbx.stored (HE.out.2.2.2.2.2.below hb (by rw [s4]; omega)) rfl q), below_setCells _ _ _ _ (HE.out.2.1.trans (hb.mono (by rw [s4]; omega))) (by omega)⟩ : w3.there (N + 3) 0 16 ∧ KeyAt (w3.setCells (N + 3) 0 (kl q.1 q.2)) (N + 3) q.1 q.2 ∧ Below N w (w3.setCells (N + 3) 0 (kl q.1 q.2))))
  have HCk := Lib.hid (fun w => refValid_any K D E P Q G w hK0 hK1)
  have HAD := Lib.hid had
  have HYo := Lib.hid hy
  have HIh := Lib.hid (fun (d : Nat) w1 (hd : d < 7) (hb : Below W4.heap.size W4 w1) => validHeader_any K E B d P Q G g o n m np kp A Ap x y F w1 hd hx hn hnp hnm had (HC.out w1 hb))
  have HLe := Lib.hid (fun (d v z : Nat) w1 (hd : d < 7) (hk1 : K = 1 → z = 0) (hv1 : 1 ≤ v) (hv : v < 128) (hx2 : z < 2 ^ (d + 1)) (hx : z < 128) (hb : Below W4.heap.size W4 w1) => refLeadsOf_any K E rr ss tt d P Q G v z AL gl ol nl ml L w1 hd hk1 hv1 hv hx2 hx (by omega) hnlm hal (HLb.out w1 hb))
  have HDe := Lib.hid (fun (q bx : Nat × Nat) w (h1 : Ok q) (h2 : Ok bx) => refDecrypt_any q.1 q.2 bx.1 bx.2 w h1.1 h1.2 h2.1 h2.2)
  have HCo := Lib.hid (fun (q : Nat × Nat) w (h : Ok q) => refDerive_any q.1 q.2 53 0 w h.1 h.2 (by omega) (by unfold M; omega))
  have HN := Lib.hid hN
  have HW := Lib.hid hW4
  rw [← hN]
  have c0 : W4.cell? ⟨N, 0, none⟩ = some (.int .u8 K) := (e1).cell 0
  have c1 : W4.cell? ⟨N, 1, none⟩ = some (.int .i64 D) := (e1).cell 1
  have c2 : W4.cell? ⟨N, 2, none⟩ = some (.int .i64 E) := (e1).cell 2
  have c3 : W4.cell? ⟨N, 3, none⟩ = some (.int .u64 (P : Int)) := (e1).cell 3
  have c4 : W4.cell? ⟨N, 4, none⟩ = some (.int .u64 (Q : Int)) := (e1).cell 4
  have c5 : W4.cell? ⟨N, 5, none⟩ = some (.int .u64 (G : Int)) := (e1).cell 5
  rw [hW4, hN] at c0 c1 c2 c3 c4 c5
  clear hN hW4 s4 b4 e1 e2 e3 e4 hc hL hK0 hK1 hx hy hn hnp hnm had hnl hnlm hal
  go_enter Try.func24, Try.ntmps24
  go_wp2_with fail
  rw [← HW.out, ← HN.out]
  refine (HCk.out _).mono ?_
  rintro e w5 ⟨rfl, hb5⟩
  have HB5 := Lib.hid hb5
  clear hb5 c0 c1 c2 c3 c4 c5
  by_cases h : ScOk K D E P Q G
  · have hsc := scb_yes h
    rw [hsc]
    have HSb := Lib.hid (scb_yes h)
    have hD := h.2.2.1
    have hD2 := h.2.2.2.1
    obtain ⟨d, rfl⟩ := Int.eq_ofNat_of_zero_le hD
    have hd : d < 7 := by omega
    have HIw := Lib.hid (HIh.out d w5 hd HB5.out)
    have c0 : w5.cell? ⟨N, 0, none⟩ = some (.int .u8 K) := (HE.out.2.2.1.keep HB5.out).cell 0
    have c1 : w5.cell? ⟨N, 1, none⟩ = some (.int .i64 (d : Int)) := (HE.out.2.2.1.keep HB5.out).cell 1
    have c2 : w5.cell? ⟨N, 2, none⟩ = some (.int .i64 E) := (HE.out.2.2.1.keep HB5.out).cell 2
    have c3 : w5.cell? ⟨N, 3, none⟩ = some (.int .u64 (P : Int)) := (HE.out.2.2.1.keep HB5.out).cell 3
    have c4 : w5.cell? ⟨N, 4, none⟩ = some (.int .u64 (Q : Int)) := (HE.out.2.2.1.keep HB5.out).cell 4
    have c5 : w5.cell? ⟨N, 5, none⟩ = some (.int .u64 (G : Int)) := (HE.out.2.2.1.keep HB5.out).cell 5
    have HD7 := Lib.hid hd
    clear hsc h hD hD2 hd
    go_wp2_with ((with_reducible show wpList _ _ _ (Oper.mk _ (Op.load 59 _) _ _ _ _ :: _) _ _); refine wpList_load_hdi rfl _ rfl _ rfl _ _ _ _ _ (Blk.keep HE.out.2.2.2.2.1 HB5.out) ?_)
    refine (HIw.out).mono ?_
    rintro e w6 ⟨rfl, hb6⟩
    have HB6 := Lib.hid (HB5.out.trans (hb6.mono HB5.out.size))
    clear hb6 c0 c1 c2 c3 c4 c5
    rcases hv : hvb K d n B np x F with _ | _
    · have H3 := Lib.hid (HEND.out (0, 0) w6 HB6.out)
      have HC0 : Hid (∀ e, e = .returned (.tuple #[.agg (kl 0 0).toArray, .int .i64 8]) → OpE K (d : Int) E P Q G L nl n B np x y F e) := Lib.hid (fun e he => .inr (.inl ⟨HSb.out, by rw [Int.toNat_natCast]; exact hv, he⟩))
      clear hv
      go_wp2_with (first
      | ((with_reducible show wpList _ _ _ (Oper.mk _ (Op.build 23 _) _ _ _ _ :: _) _ _); refine wpList_buildKey0 rfl rfl ?_)
      | ((with_reducible show wpList _ _ _ (Oper.mk _ (Op.store 23 _ _) _ _ _ _ :: _) _ _); refine wpList_store_key rfl _ _ rfl (N + 3) _ _ rfl rfl H3.out.1 ?_))
      exact bodyPost_ret (results_keye rfl _ _ (N + 3) (0, 0) _ rfl rfl H3.out.2.1) rfl ⟨HC0.out _ rfl, H3.out.2.2⟩
    · have HV := Lib.hid hv
      have HIsb : Hid (∀ i, i < n → isb K d (F i).1 (F i).2.1 = true) := Lib.hid (by
        have h2 := hv
        unfold hvb at h2
        simp only [Bool.and_eq_true, decide_eq_true_eq, List.all_eq_true, List.mem_range] at h2
        exact h2.2.2.2.2)
      have hn64 : n ≤ 64 := by
        have h2 := hv
        unfold hvb at h2
        simp only [Bool.and_eq_true, decide_eq_true_eq] at h2
        exact h2.1
      have HCy : Hid (∀ k r, k < n → hit d L nl y (F k) r → (∀ i, i < k → ∀ r', ¬ hit d L nl y (F i) r') → ∀ e, e = .returned (.tuple #[.agg (kl r.1 r.2).toArray, .int .i64 0]) → OpE K (d : Int) E P Q G L nl n B np x y F e) := Lib.hid (fun k r h1 h2 h3 e he => .inr (.inr (.inl ⟨HSb.out, by rw [Int.toNat_natCast]; exact HV.out, k, r, h1, by rw [Int.toNat_natCast]; exact h2, by rw [Int.toNat_natCast]; exact h3, he⟩)))
      have HCn : Hid ((∀ i, i < n → ∀ r', ¬ hit d L nl y (F i) r') → ∀ e, e = .returned (.tuple #[.agg (kl 0 0).toArray, .int .i64 6]) → OpE K (d : Int) E P Q G L nl n B np x y F e) := Lib.hid (fun h3 e he => .inr (.inr (.inr ⟨HSb.out, by rw [Int.toNat_natCast]; exact HV.out, by rw [Int.toNat_natCast]; exact h3, he⟩)))
      clear hv
      go_wp2_with fail
      go_loopw [8] (fun i wr => ∃ (k : Nat), k ≤ n ∧ i = .int .i64 (k : Int) ∧ Hid (Below W4.heap.size W4 wr) ∧ Hid (∀ j, j < k → ∀ r', ¬ hit d L nl y (F j) r')) (fun i _ => n + 1 - (intOf i).toNat)
      case atStart => exact ⟨0, by omega, rfl, HB6, Lib.hid (fun j h => by omega)⟩
      case round =>
        obtain ⟨k, hk, rfl, HBr, HA⟩ := hrel
        have cz := Hdx.c0 (Blk.keep HE.out.2.2.2.2.1 HBr.out)
        by_cases hlt : k < n
        · rcases HAD.out with h0 | rfl
          · omega
          have l1 : (0 : Int) ≤ (k : Int) := by omega
          have l2 : (k : Int) < (n : Int) := by omega
          have HRk : Hid (∀ w1, Below W4.heap.size W4 w1 → w1.rangeAt g (o + k * 18) (lbl (F k).1 (F k).2.1 (F k).2.2)) := Lib.hid (fun w1 hb => HC.out w1 hb k hlt)
          have HOb := Lib.hid (HOk.out k hlt)
          have hIs := HIsb.out k hlt
          have HNx : Hid ((∀ r', ¬ hit d L nl y (F k) r') → ∀ j, j < k + 1 → ∀ r', ¬ hit d L nl y (F j) r') := Lib.hid (fun h j hj => by
            rcases Nat.lt_or_ge j k with h1 | h1
            · exact HA.out j h1
            · obtain rfl : j = k := by omega
              exact h)
          have HYs := Lib.hid (fun r (h : hit d L nl y (F k) r) => HCy.out k r hlt h HA.out)
          obtain ⟨it, hit_⟩ : ∃ it, it = F k := ⟨_, rfl⟩
          rw [← hit_] at HRk HOb HNx HYs hIs
          obtain ⟨a, b, q⟩ := it
          obtain ⟨v, xx, rfl, rfl, v1, v3, v2, hxx, x2, hk1⟩ := isb_nat HD7.out hIs
          obtain ⟨ff, z, hfr⟩ := FndR.ex d L v xx nl
          have HLk2 : Hid (∀ w1, Below W4.heap.size W4 w1 → Calls Try.prog 40 #[.agg #[.int .u8 K, .int .i64 (d : Int), .int .i64 E, .int .u64 (P : Int), .int .u64 (Q : Int), .int .u64 (G : Int)], .agg (sg rr (.slice AL nl ml) ss tt), .agg #[.int .i64 (v : Int), .int .i64 (xx : Int)]] w1 fun e w' => e = .returned (.tuple #[.agg (kl z.1 z.2).toArray, .bool ff]) ∧ Below w1.heap.size w1 w') := Lib.hid (fun w1 hb => (HLe.out d v xx w1 HD7.out hk1 v1 v3 x2 hxx hb).mono (by
            rintro e w2 ⟨⟨f2, q2, rfl, h2⟩, hb2⟩
            obtain ⟨rfl, rfl⟩ := FndR.same h2 hfr
            exact ⟨rfl, hb2⟩))
          have hto1 : ((v : Int)).toNat = v := Int.toNat_natCast v
          have hto2 : ((xx : Int)).toNat = xx := Int.toNat_natCast xx
          have hfr' : FndR d L ((v : Int)).toNat ((xx : Int)).toNat nl ff z := by rw [hto1, hto2]; exact hfr
          have HFr := Lib.hid hfr'
          clear hit_ hIs hk v1 v3 v2 hxx x2 hk1 hfr hfr' hto1 hto2
          go_wp2_with fail
          clear cz
          refine wp_region_inv (by kernel_rfl) (by kernel_rfl) (fun l a' w' => ∃ (kb : Nat) (w1 : World), a' = { tmps := #[Value.agg #[Value.int IntKind.u8 K, Value.int IntKind.i64 d, Value.int IntKind.i64 E, Value.int IntKind.u64 P, Value.int IntKind.u64 Q, Value.int IntKind.u64 G], Value.agg (sg rr (Value.slice AL nl ml) ss tt), Value.agg (hdi (Value.slice (some ⟨g, o, none⟩) n m) (Value.slice Ap np kp) B x y).toArray, Value.pointer (some ⟨N, 0, none⟩), Value.pointer (some ⟨N + 1, 0, none⟩), Value.pointer (some ⟨N + 1 + 1, 0, none⟩), Value.pointer (some ⟨N + 1 + 1 + 1, 0, none⟩), u7, Value.int .i64 (k : Int), bif l 12 then Value.pointer (some ⟨kb, 0, none⟩) else u9, bif l 14 then Value.bool ff else u10, u11, Value.agg #[Value.int IntKind.u8 K, Value.int IntKind.i64 d, Value.int IntKind.i64 E, Value.int IntKind.u64 P, Value.int IntKind.u64 Q, Value.int IntKind.u64 G], Value.bool true, Value.bool false, undef, Value.agg #[Value.int IntKind.u8 K, Value.int IntKind.i64 d, Value.int IntKind.i64 E, Value.int IntKind.u64 P, Value.int IntKind.u64 Q, Value.int IntKind.u64 G], Value.agg (hdi (Value.slice (some ⟨g, o, none⟩) n m) (Value.slice Ap np kp) B x y).toArray, Value.bool true, Value.bool false, undef, Value.int .i64 (k : Int), Value.pointer (some ⟨N + 1 + 1, 0, none⟩), Value.slice (some ⟨g, o, none⟩) n m, Value.int .i64 (n : Int), Value.bool true, u26, u27, bif l 9 then Value.tuple #[Value.agg (kl z.1 z.2).toArray, Value.bool ff] else u28, bif l 0 then Value.agg #[Value.int .u8 K, Value.int .i64 (d : Int), Value.int .i64 E, Value.int .u64 (P : Int), Value.int .u64 (Q : Int), Value.int .u64 (G : Int)] else u29, bif l 1 then Value.agg (sg rr (Value.slice AL nl ml) ss tt) else u30, bif l 2 then Value.pointer (some ⟨N + 2, 0, none⟩) else u31, bif l 3 then Value.slice (some ⟨g, o, none⟩) n m else u32, bif l 4 then Value.int .i64 (k : Int) else u33, bif l 5 then Value.pointer (some ⟨g, o + k * 18, none⟩) else u34, bif l 6 then Value.pointer (some ⟨g, o + k * 18, none⟩) else u35, bif l 7 then Value.agg #[Value.int .i64 (v : Int), Value.int .i64 (xx : Int)] else u36, bif l 8 then Value.tuple #[Value.agg (kl z.1 z.2).toArray, Value.bool ff] else u37, bif l 10 then Value.agg (kl z.1 z.2).toArray else u38, bif l 11 then Value.bool ff else u39, u40, u41, u42, u43, u44, u45, u46, u47, u48, u49, u50, u51, u52, u53, u54, u55, undef], defers := [] } ∧ (Below W4.heap.size W4 w1) ∧ (l 12 = true → Blk w1 kb z16 23 ∧ W4.heap.size ≤ kb) ∧ w' = (bif l 13 then w1.setCells kb 0 (kl z.1 z.2) else w1) ∧ (l 13 = true → (l 0 && l 1 && l 2 && l 3 && l 4 && l 5 && l 6 && l 7 && l 8 && l 9 && l 10 && l 12) = true)) ⟨0, _, rfl, (HBr.out).drew, (fun h => by cases h), rfl, (fun h => by cases h)⟩ ?_ ?_
          · rintro l a' w' i ⟨kb, w1, rfl, hB, cX, hw, oS⟩ hi' hli hpre
            have hi2 : i < 15 := hi'
            have hcase : i = 0 ∨ i = 1 ∨ i = 2 ∨ i = 3 ∨ i = 4 ∨ i = 5 ∨ i = 6 ∨ i = 7 ∨ i = 8 ∨ i = 9 ∨ i = 10 ∨ i = 11 ∨ i = 12 ∨ i = 13 ∨ i = 14 := by omega
            clear hi' hi2
            rcases hcase with rfl | rfl | rfl | rfl | rfl | rfl | rfl | rfl | rfl | rfl | rfl | rfl | rfl | rfl | rfl
            · -- 0: Op.load 28 (Operand.tmp 3)
              refine wpOp_step rfl (fun K' hK => ?_)
              have nS : l 13 = false := by
                cases h : l 13
                · rfl
                · have := oS h; simp [hli] at this
              rw [nS, cond_false] at hw
              subst hw
              clear hpre
              rw [if_pos (by rfl)]
              refine wp_load_mid 28 _ rfl _ 0 rfl #[Value.int .u8 K, Value.int .i64 (d : Int), Value.int .i64 E, Value.int .u64 (P : Int), Value.int .u64 (Q : Int), Value.int .u64 (G : Int)].toList _ (HE.out.2.2.1.keep hB).range Try.underlying28 rfl sizeSch ?_
              exact hK _ _ ⟨kb, w', by simp [upd, Act.put], hB, (fun e0 => (cX (by simpa [upd] using e0))), by simp [upd, nS], (fun e => absurd e (by simp [upd, nS]))⟩
            · -- 1: Op.load 33 (Operand.tmp 4)
              refine wpOp_step rfl (fun K' hK => ?_)
              have nS : l 13 = false := by
                cases h : l 13
                · rfl
                · have := oS h; simp [hli] at this
              rw [nS, cond_false] at hw
              subst hw
              clear hpre
              rw [if_pos (by rfl)]
              refine wp_load_mid 33 _ rfl _ 0 rfl (sg rr (Value.slice AL nl ml) ss tt).toList _ (HE.out.2.2.2.1.keep hB).range Try.underlying33 rfl sizeSec ?_
              exact hK _ _ ⟨kb, w', by simp [upd, Act.put], hB, (fun e0 => (cX (by simpa [upd] using e0))), by simp [upd, nS], (fun e => absurd e (by simp [upd, nS]))⟩
            · -- 2: Op.fieldAddr 59 (Operand.tmp 5) 0
              refine wpOp_step rfl (fun K' hK => ?_)
              have nS : l 13 = false := by
                cases h : l 13
                · rfl
                · have := oS h; simp [hli] at this
              rw [nS, cond_false] at hw
              subst hw
              clear hpre
              rw [if_pos (by rfl)]
              go_simp
              exact hK _ _ ⟨kb, w', by simp [upd, Act.put], hB, (fun e0 => (cX (by simpa [upd] using e0))), by simp [upd, nS], (fun e => absurd e (by simp [upd, nS]))⟩
            · -- 3: Op.load 56 (Operand.tmp 31)
              have p2 : l 2 = true := hpre _ rfl ⟨2, .data⟩ (by simp) rfl
              refine wpOp_step rfl (fun K' hK => ?_)
              have nS : l 13 = false := by
                cases h : l 13
                · rfl
                · have := oS h; simp [hli] at this
              rw [nS, cond_false] at hw
              subst hw
              simp only [p2, cond_true, cond_false]
              clear hpre
              rw [if_pos (by rfl)]
              have z1 := Hdx.c0 (Blk.keep HE.out.2.2.2.2.1 hB)
              go_simp
              exact hK _ _ ⟨kb, w', by simp [upd, Act.put, p2], hB, (fun e0 => (cX (by simpa [upd] using e0))), by simp [upd, nS], (fun e => absurd e (by simp [upd, nS]))⟩
            · -- 4: Op.move (Operand.tmp 8)
              refine wpOp_step rfl (fun K' hK => ?_)
              have nS : l 13 = false := by
                cases h : l 13
                · rfl
                · have := oS h; simp [hli] at this
              rw [nS, cond_false] at hw
              subst hw
              clear hpre
              rw [if_pos (by rfl)]
              go_simp
              exact hK _ _ ⟨kb, w', by simp [upd, Act.put], hB, (fun e0 => (cX (by simpa [upd] using e0))), by simp [upd, nS], (fun e => absurd e (by simp [upd, nS]))⟩
            · -- 5: Op.indexAddr 56 (Operand.tmp 32) (Operand.tmp 33)
              have p3 : l 3 = true := hpre _ rfl ⟨3, .data⟩ (by simp) rfl
              have p4 : l 4 = true := hpre _ rfl ⟨4, .data⟩ (by simp) rfl
              refine wpOp_step rfl (fun K' hK => ?_)
              have nS : l 13 = false := by
                cases h : l 13
                · rfl
                · have := oS h; simp [hli] at this
              rw [nS, cond_false] at hw
              subst hw
              simp only [p3, p4, cond_true, cond_false]
              clear hpre
              rw [if_pos (by rfl)]
              go_simp
              exact hK _ _ ⟨kb, w', by simp [upd, Act.put, p3, p4], hB, (fun e0 => (cX (by simpa [upd] using e0))), by simp [upd, nS], (fun e => absurd e (by simp [upd, nS]))⟩
            · -- 6: Op.fieldAddr 112 (Operand.tmp 34) 0
              have p5 : l 5 = true := hpre _ rfl ⟨5, .data⟩ (by simp) rfl
              refine wpOp_step rfl (fun K' hK => ?_)
              have nS : l 13 = false := by
                cases h : l 13
                · rfl
                · have := oS h; simp [hli] at this
              rw [nS, cond_false] at hw
              subst hw
              simp only [p5, cond_true, cond_false]
              clear hpre
              rw [if_pos (by rfl)]
              go_simp
              exact hK _ _ ⟨kb, w', by simp [upd, Act.put, p5], hB, (fun e0 => (cX (by simpa [upd] using e0))), by simp [upd, nS], (fun e => absurd e (by simp [upd, nS]))⟩
            · -- 7: Op.load 35 (Operand.tmp 35)
              have p6 : l 6 = true := hpre _ rfl ⟨6, .data⟩ (by simp) rfl
              refine wpOp_step rfl (fun K' hK => ?_)
              have nS : l 13 = false := by
                cases h : l 13
                · rfl
                · have := oS h; simp [hli] at this
              rw [nS, cond_false] at hw
              subst hw
              simp only [p6, cond_true, cond_false]
              clear hpre
              rw [if_pos (by rfl)]
              have g0 : w'.cell? ⟨g, o + k * 18, none⟩ = some (.int .i64 (v : Int)) := HRk.out w' hB 0 _ rfl
              have g1 : w'.cell? ⟨g, o + k * 18 + 1, none⟩ = some (.int .i64 (xx : Int)) := HRk.out w' hB 1 _ rfl
              go_simp
              exact hK _ _ ⟨kb, w', by simp [upd, Act.put, p6], hB, (fun e0 => (cX (by simpa [upd] using e0))), by simp [upd, nS], (fun e => absurd e (by simp [upd, nS]))⟩
            · -- 8: Op.call { callee := Callee.value (Operand.func 40), args := 
              have p0 : l 0 = true := hpre _ rfl ⟨0, .data⟩ (by simp) rfl
              have p1 : l 1 = true := hpre _ rfl ⟨1, .data⟩ (by simp) rfl
              have p7 : l 7 = true := hpre _ rfl ⟨7, .data⟩ (by simp) rfl
              refine wpOp_step rfl (fun K' hK => ?_)
              have nS : l 13 = false := by
                cases h : l 13
                · rfl
                · have := oS h; simp [hli] at this
              rw [nS, cond_false] at hw
              subst hw
              simp only [p0, p1, p7, cond_true, cond_false]
              clear hpre
              rw [if_pos (by rfl)]
              go_simp
              refine (HLk2.out _ hB).mono ?_
              rintro e w7 ⟨rfl, hb5'⟩
              exact hK _ _ ⟨kb, w7, by simp [upd, Act.put, p0, p1, p7], (hB).trans (hb5'.mono (hB).size), (fun e0 => ⟨((cX (by simpa [upd] using e0))).1.keep hb5', ((cX (by simpa [upd] using e0))).2⟩), by simp [upd, nS], (fun e => absurd e (by simp [upd, nS]))⟩
            · -- 9: Op.move (Operand.tmp 37)
              have p8 : l 8 = true := hpre _ rfl ⟨8, .data⟩ (by simp) rfl
              refine wpOp_step rfl (fun K' hK => ?_)
              have nS : l 13 = false := by
                cases h : l 13
                · rfl
                · have := oS h; simp [hli] at this
              rw [nS, cond_false] at hw
              subst hw
              simp only [p8, cond_true, cond_false]
              clear hpre
              rw [if_pos (by rfl)]
              go_simp
              exact hK _ _ ⟨kb, w', by simp [upd, Act.put, p8], hB, (fun e0 => (cX (by simpa [upd] using e0))), by simp [upd, nS], (fun e => absurd e (by simp [upd, nS]))⟩
            · -- 10: Op.extract (Operand.tmp 28) 0
              have p9 : l 9 = true := hpre _ rfl ⟨9, .data⟩ (by simp) rfl
              refine wpOp_step rfl (fun K' hK => ?_)
              have nS : l 13 = false := by
                cases h : l 13
                · rfl
                · have := oS h; simp [hli] at this
              rw [nS, cond_false] at hw
              subst hw
              simp only [p9, cond_true, cond_false]
              clear hpre
              rw [if_pos (by rfl)]
              go_simp
              exact hK _ _ ⟨kb, w', by simp [upd, Act.put, p9], hB, (fun e0 => (cX (by simpa [upd] using e0))), by simp [upd, nS], (fun e => absurd e (by simp [upd, nS]))⟩
            · -- 11: Op.extract (Operand.tmp 28) 1
              have p9 : l 9 = true := hpre _ rfl ⟨9, .data⟩ (by simp) rfl
              refine wpOp_step rfl (fun K' hK => ?_)
              simp only [p9, cond_true, cond_false]
              clear hpre
              rw [if_pos (by rfl)]
              have Hhw := Lib.hid hw
              clear hw
              go_simp
              exact hK _ _ ⟨kb, w1, by simp [upd, Act.put, p9], hB, (fun e0 => (cX (by simpa [upd] using e0))), Hhw.out, (fun e => oS e)⟩
            · -- 12: Op.alloc 23
              refine wpOp_step rfl (fun K' hK => ?_)
              have nS : l 13 = false := by
                cases h : l 13
                · rfl
                · have := oS h; simp [hli] at this
              rw [nS, cond_false] at hw
              subst hw
              clear hpre
              rw [if_pos (by rfl)]
              go_simp
              exact hK _ _ ⟨w'.heap.size, w'.alloc (.cells z16 23), by simp [upd, Act.put], (hB).trans ((below_alloc _ _).mono (hB).size), (fun _ => ⟨Blk.new _ _ _, hB.size⟩), by simp [upd, nS], (fun e => absurd e (by simp [upd, nS]))⟩
            · -- 13: Op.store 23 (Operand.tmp 9) (Operand.tmp 38)
              have p12 : l 12 = true := hpre _ rfl ⟨12, .data⟩ (by simp) rfl
              have p10 : l 10 = true := hpre _ rfl ⟨10, .data⟩ (by simp) rfl
              have p8 : l 8 = true := hpre _ rfl ⟨8, .chain⟩ (by simp) rfl
              have p0 : l 0 = true := hpre _ rfl ⟨0, .phase⟩ (by simp) rfl
              have p1 : l 1 = true := hpre _ rfl ⟨1, .phase⟩ (by simp) rfl
              have p2 : l 2 = true := hpre _ rfl ⟨2, .phase⟩ (by simp) rfl
              have p3 : l 3 = true := hpre _ rfl ⟨3, .phase⟩ (by simp) rfl
              have p4 : l 4 = true := hpre _ rfl ⟨4, .phase⟩ (by simp) rfl
              have p5 : l 5 = true := hpre _ rfl ⟨5, .phase⟩ (by simp) rfl
              have p6 : l 6 = true := hpre _ rfl ⟨6, .phase⟩ (by simp) rfl
              have p7 : l 7 = true := hpre _ rfl ⟨7, .phase⟩ (by simp) rfl
              have p9 : l 9 = true := hpre _ rfl ⟨9, .phase⟩ (by simp) rfl
              refine wpOp_step rfl (fun K' hK => ?_)
              have nS : l 13 = false := hli
              rw [nS, cond_false] at hw
              subst hw
              simp only [p12, p10, p8, p0, p1, p2, p3, p4, p5, p6, p7, p9, cond_true, cond_false]
              clear hpre
              rw [if_pos (by rfl)]
              have gX := cX p12
              refine wp_store_mid 23 _ _ rfl kb 0 (kl z.1 z.2).toArray rfl rfl (by have h := gX.1.there; simpa [kl_len] using h) (by simp [kl_len, size23]) (kl_arr _ _) ?_
              rw [List.toList_toArray]
              exact hK _ _ ⟨kb, w', by simp [upd, Act.put, p12, p10, p8, p0, p1, p2, p3, p4, p5, p6, p7, p9], hB, (fun e0 => (cX (by simpa [upd] using e0))), by simp [upd], (fun _ => by simp [upd, p12, p10, p8, p0, p1, p2, p3, p4, p5, p6, p7, p9])⟩
            · -- 14: Op.assign (Operand.tmp 39)
              have p11 : l 11 = true := hpre _ rfl ⟨11, .data⟩ (by simp) rfl
              have p13 : l 13 = true := hpre _ rfl ⟨13, .chain⟩ (by simp) rfl
              have p0 : l 0 = true := hpre _ rfl ⟨0, .phase⟩ (by simp) rfl
              have p1 : l 1 = true := hpre _ rfl ⟨1, .phase⟩ (by simp) rfl
              have p2 : l 2 = true := hpre _ rfl ⟨2, .phase⟩ (by simp) rfl
              have p3 : l 3 = true := hpre _ rfl ⟨3, .phase⟩ (by simp) rfl
              have p4 : l 4 = true := hpre _ rfl ⟨4, .phase⟩ (by simp) rfl
              have p5 : l 5 = true := hpre _ rfl ⟨5, .phase⟩ (by simp) rfl
              have p6 : l 6 = true := hpre _ rfl ⟨6, .phase⟩ (by simp) rfl
              have p7 : l 7 = true := hpre _ rfl ⟨7, .phase⟩ (by simp) rfl
              have p8 : l 8 = true := hpre _ rfl ⟨8, .phase⟩ (by simp) rfl
              have p9 : l 9 = true := hpre _ rfl ⟨9, .phase⟩ (by simp) rfl
              have p10 : l 10 = true := hpre _ rfl ⟨10, .phase⟩ (by simp) rfl
              have p12 : l 12 = true := hpre _ rfl ⟨12, .phase⟩ (by simp) rfl
              refine wpOp_step rfl (fun K' hK => ?_)
              simp only [p11, p13, p0, p1, p2, p3, p4, p5, p6, p7, p8, p9, p10, p12, cond_true, cond_false]
              clear hpre
              rw [if_pos (by rfl)]
              have Hhw := Lib.hid hw
              clear hw
              go_simp
              exact hK _ _ ⟨kb, w1, by simp [upd, Act.put, p11, p13, p0, p1, p2, p3, p4, p5, p6, p7, p8, p9, p10, p12], hB, (fun e0 => (cX (by simpa [upd] using e0))), Hhw.out, (fun e => oS e)⟩
          · rintro l a' w9 hall ⟨kb, w1, rfl, hB, cX, hw, oS⟩
            rw [hall 13 (by decide), cond_true] at hw
            subst hw
            replace cX := cX (hall 12 (by decide))
            simp only [hall 0 (by decide), hall 1 (by decide), hall 2 (by decide), hall 3 (by decide), hall 4 (by decide), hall 5 (by decide), hall 6 (by decide), hall 7 (by decide), hall 8 (by decide), hall 9 (by decide), hall 10 (by decide), hall 11 (by decide), hall 12 (by decide), hall 14 (by decide), cond_true]
            clear hall oS
            have H8' : Hid (Below W4.heap.size W4 (w1.setCells kb 0 (kl z.1 z.2)) ∧ Kbx (w1.setCells kb 0 (kl z.1 z.2)) kb z) := Lib.hid ⟨below_setCells _ _ _ _ hB cX.2, Kbx.stored cX.1 rfl z⟩
            obtain ⟨W8, hW8⟩ : ∃ W8, W8 = w1.setCells kb 0 (kl z.1 z.2) := ⟨_, rfl⟩
            rw [← hW8] at H8'
            rw [← hW8]
            have H8 := H8'
            clear hW8 hB cX H8'
            rcases ff with _ | _
            · have HNy := Lib.hid (HNx.out (fun r' ⟨q', h1, _⟩ => by have h2 := (FndR.same h1 HFr.out).1; cases h2))
              go_wp2_with fail
              go_roundw
              case rel => exact ⟨k + 1, by omega, by go_num, Lib.hid H8.out.1, HNy⟩
              case measure => simp [intOf]; omega
            · have hfr := HFr.out
              have hzo : Ok z := by
                rcases hfr with ⟨k2, hk2, _, _, _, rfl⟩ | ⟨_, h, _⟩
                · exact rch_ok (HLk.out k2 hk2) _ _
                · cases h
              have hso : Ok (dec z.1 z.2 q.1 q.2) := dec_ok HOb.out.1 HOb.out.2
              have HDk := Lib.hid (fun w => HDe.out z q w hzo HOb.out)
              have HHy : Hid (∀ r, r = dec z.1 z.2 q.1 q.2 → drv r.1 r.2 53 0 = y → hit d L nl y ((v : Int), (xx : Int), q) r) := Lib.hid (fun r h1 h2 => ⟨z, hfr, h1, h2⟩)
              have HHn : Hid (∀ r, r = dec z.1 z.2 q.1 q.2 → drv r.1 r.2 53 0 ≠ y → ∀ r', ¬ hit d L nl y ((v : Int), (xx : Int), q) r') := Lib.hid (fun r h1 h2 r' ⟨q', h3, h4, h5⟩ => by
                have h6 := (FndR.same h3 hfr).2
                subst h6
                rw [h1] at h2
                rw [h4] at h5
                exact h2 h5)
              have HCk2 := Lib.hid (fun w => HCo.out (dec z.1 z.2 q.1 q.2) w hso)
              have hco : Ok (drv (dec z.1 z.2 q.1 q.2).1 (dec z.1 z.2 q.1 q.2).2 53 0) := drv_ok hso.1 hso.2 (by omega) (by unfold M; omega)
              obtain ⟨se, hse⟩ : ∃ se, se = dec z.1 z.2 q.1 q.2 := ⟨_, rfl⟩
              rw [← hse] at HDk HCk2 hco HHy HHn
              have HHy2 := Lib.hid (HHy.out se rfl)
              have HHn2 := Lib.hid (HHn.out se rfl)
              obtain ⟨cc, hcc⟩ : ∃ cc, cc = drv se.1 se.2 53 0 := ⟨_, rfl⟩
              rw [← hcc] at HCk2 hco HHy2 HHn2
              have HQ := Lib.hid (fun w => run_equal_key hco.1 hco.2 HYo.out.1 HYo.out.2 w)
              clear hfr hzo hso hse hcc hco HHy HHn
              go_wp2_with fail
              refine wp_region_inv (by kernel_rfl) (by kernel_rfl) (fun l a' w' => ∃ (sb : Nat) (w1 : World), a' = { tmps := #[Value.agg #[Value.int IntKind.u8 K, Value.int IntKind.i64 d, Value.int IntKind.i64 E, Value.int IntKind.u64 P, Value.int IntKind.u64 Q, Value.int IntKind.u64 G], Value.agg (sg rr (Value.slice AL nl ml) ss tt), Value.agg (hdi (Value.slice (some ⟨g, o, none⟩) n m) (Value.slice Ap np kp) B x y).toArray, Value.pointer (some ⟨N, 0, none⟩), Value.pointer (some ⟨N + 1, 0, none⟩), Value.pointer (some ⟨N + 1 + 1, 0, none⟩), Value.pointer (some ⟨N + 1 + 1 + 1, 0, none⟩), u7, Value.int .i64 (k : Int), Value.pointer (some ⟨kb, 0, none⟩), Value.bool true, bif l 8 then Value.pointer (some ⟨sb, 0, none⟩) else u11, Value.agg #[Value.int IntKind.u8 K, Value.int IntKind.i64 d, Value.int IntKind.i64 E, Value.int IntKind.u64 P, Value.int IntKind.u64 Q, Value.int IntKind.u64 G], Value.bool true, Value.bool false, undef, Value.agg #[Value.int IntKind.u8 K, Value.int IntKind.i64 d, Value.int IntKind.i64 E, Value.int IntKind.u64 P, Value.int IntKind.u64 Q, Value.int IntKind.u64 G], Value.agg (hdi (Value.slice (some ⟨g, o, none⟩) n m) (Value.slice Ap np kp) B x y).toArray, Value.bool true, Value.bool false, undef, Value.int .i64 (k : Int), Value.pointer (some ⟨N + 1 + 1, 0, none⟩), Value.slice (some ⟨g, o, none⟩) n m, Value.int .i64 (n : Int), Value.bool true, u26, u27, Value.tuple #[Value.agg (kl z.fst z.snd).toArray, Value.bool true], Value.agg #[Value.int IntKind.u8 K, Value.int IntKind.i64 d, Value.int IntKind.i64 E, Value.int IntKind.u64 P, Value.int IntKind.u64 Q, Value.int IntKind.u64 G], Value.agg (sg rr (Value.slice AL nl ml) ss tt), Value.pointer (some ⟨N + 2, 0, none⟩), Value.slice (some ⟨g, o, none⟩) n m, Value.int .i64 (k : Int), Value.pointer (some ⟨g, o + k * 18, none⟩), Value.pointer (some ⟨g, o + k * 18, none⟩), Value.agg #[Value.int IntKind.i64 v, Value.int IntKind.i64 xx], Value.tuple #[Value.agg (kl z.fst z.snd).toArray, Value.bool true], Value.agg (kl z.fst z.snd).toArray, Value.bool true, Value.bool true, Value.bool false, bif l 0 then Value.agg (kl z.1 z.2).toArray else u42, bif l 1 then Value.pointer (some ⟨N + 2, 0, none⟩) else u43, bif l 2 then Value.slice (some ⟨g, o, none⟩) n m else u44, bif l 3 then Value.int .i64 (k : Int) else u45, bif l 4 then Value.pointer (some ⟨g, o + k * 18, none⟩) else u46, bif l 5 then Value.pointer (some ⟨g, o + k * 18 + 2, none⟩) else u47, bif l 6 then Value.agg (kl q.1 q.2).toArray else u48, bif l 7 then Value.agg (kl se.1 se.2).toArray else u49, u50, u51, u52, u53, u54, u55, undef], defers := [] } ∧ (Below W8.heap.size W8 w1) ∧ (l 8 = true → Blk w1 sb z16 23 ∧ W8.heap.size ≤ sb) ∧ w' = (bif l 9 then w1.setCells sb 0 (kl se.1 se.2) else w1) ∧ (l 9 = true → (l 0 && l 1 && l 2 && l 3 && l 4 && l 5 && l 6 && l 7 && l 8) = true)) ⟨0, _, rfl, (Below.refl _ _).drew, (fun h => by cases h), rfl, (fun h => by cases h)⟩ ?_ ?_
              · rintro l a' w' i ⟨sb, w1, rfl, hB, cX, hw, oS⟩ hi' hli hpre
                have hi2 : i < 10 := hi'
                have hcase : i = 0 ∨ i = 1 ∨ i = 2 ∨ i = 3 ∨ i = 4 ∨ i = 5 ∨ i = 6 ∨ i = 7 ∨ i = 8 ∨ i = 9 := by omega
                clear hi' hi2
                rcases hcase with rfl | rfl | rfl | rfl | rfl | rfl | rfl | rfl | rfl | rfl
                · -- 0: Op.load 23 (Operand.tmp 9)
                  refine wpOp_step rfl (fun K' hK => ?_)
                  have nS : l 9 = false := by
                    cases h : l 9
                    · rfl
                    · have := oS h; simp [hli] at this
                  rw [nS, cond_false] at hw
                  subst hw
                  clear hpre
                  rw [if_pos (by rfl)]
                  refine wp_load_mid 23 _ rfl _ 0 rfl (kl z.1 z.2) _ (Kbx.at_ (Blk.keep H8.out.2 hB)) Try.underlying23 rfl (by rw [kl_len]; exact size23) ?_
                  exact hK _ _ ⟨sb, w', by simp [upd, Act.put], hB, (fun e0 => (cX (by simpa [upd] using e0))), by simp [upd, nS], (fun e => absurd e (by simp [upd, nS]))⟩
                · -- 1: Op.fieldAddr 59 (Operand.tmp 5) 0
                  refine wpOp_step rfl (fun K' hK => ?_)
                  have nS : l 9 = false := by
                    cases h : l 9
                    · rfl
                    · have := oS h; simp [hli] at this
                  rw [nS, cond_false] at hw
                  subst hw
                  clear hpre
                  rw [if_pos (by rfl)]
                  go_simp
                  exact hK _ _ ⟨sb, w', by simp [upd, Act.put], hB, (fun e0 => (cX (by simpa [upd] using e0))), by simp [upd, nS], (fun e => absurd e (by simp [upd, nS]))⟩
                · -- 2: Op.load 56 (Operand.tmp 43)
                  have p1 : l 1 = true := hpre _ rfl ⟨1, .data⟩ (by simp) rfl
                  refine wpOp_step rfl (fun K' hK => ?_)
                  have nS : l 9 = false := by
                    cases h : l 9
                    · rfl
                    · have := oS h; simp [hli] at this
                  rw [nS, cond_false] at hw
                  subst hw
                  simp only [p1, cond_true, cond_false]
                  clear hpre
                  rw [if_pos (by rfl)]
                  have z1 := Hdx.c0 (Blk.keep HE.out.2.2.2.2.1 (H8.out.1.trans (hB.mono H8.out.1.size)))
                  go_simp
                  exact hK _ _ ⟨sb, w', by simp [upd, Act.put, p1], hB, (fun e0 => (cX (by simpa [upd] using e0))), by simp [upd, nS], (fun e => absurd e (by simp [upd, nS]))⟩
                · -- 3: Op.move (Operand.tmp 8)
                  refine wpOp_step rfl (fun K' hK => ?_)
                  have nS : l 9 = false := by
                    cases h : l 9
                    · rfl
                    · have := oS h; simp [hli] at this
                  rw [nS, cond_false] at hw
                  subst hw
                  clear hpre
                  rw [if_pos (by rfl)]
                  go_simp
                  exact hK _ _ ⟨sb, w', by simp [upd, Act.put], hB, (fun e0 => (cX (by simpa [upd] using e0))), by simp [upd, nS], (fun e => absurd e (by simp [upd, nS]))⟩
                · -- 4: Op.indexAddr 56 (Operand.tmp 44) (Operand.tmp 45)
                  have p2 : l 2 = true := hpre _ rfl ⟨2, .data⟩ (by simp) rfl
                  have p3 : l 3 = true := hpre _ rfl ⟨3, .data⟩ (by simp) rfl
                  refine wpOp_step rfl (fun K' hK => ?_)
                  have nS : l 9 = false := by
                    cases h : l 9
                    · rfl
                    · have := oS h; simp [hli] at this
                  rw [nS, cond_false] at hw
                  subst hw
                  simp only [p2, p3, cond_true, cond_false]
                  clear hpre
                  rw [if_pos (by rfl)]
                  go_simp
                  exact hK _ _ ⟨sb, w', by simp [upd, Act.put, p2, p3], hB, (fun e0 => (cX (by simpa [upd] using e0))), by simp [upd, nS], (fun e => absurd e (by simp [upd, nS]))⟩
                · -- 5: Op.fieldAddr 112 (Operand.tmp 46) 1
                  have p4 : l 4 = true := hpre _ rfl ⟨4, .data⟩ (by simp) rfl
                  refine wpOp_step rfl (fun K' hK => ?_)
                  have nS : l 9 = false := by
                    cases h : l 9
                    · rfl
                    · have := oS h; simp [hli] at this
                  rw [nS, cond_false] at hw
                  subst hw
                  simp only [p4, cond_true, cond_false]
                  clear hpre
                  rw [if_pos (by rfl)]
                  go_simp
                  exact hK _ _ ⟨sb, w', by simp [upd, Act.put, p4], hB, (fun e0 => (cX (by simpa [upd] using e0))), by simp [upd, nS], (fun e => absurd e (by simp [upd, nS]))⟩
                · -- 6: Op.load 23 (Operand.tmp 47)
                  have p5 : l 5 = true := hpre _ rfl ⟨5, .data⟩ (by simp) rfl
                  refine wpOp_step rfl (fun K' hK => ?_)
                  have nS : l 9 = false := by
                    cases h : l 9
                    · rfl
                    · have := oS h; simp [hli] at this
                  rw [nS, cond_false] at hw
                  subst hw
                  simp only [p5, cond_true, cond_false]
                  clear hpre
                  rw [if_pos (by rfl)]
                  refine wp_load_mid 23 _ rfl g (o + k * 18 + 2) rfl (kl q.1 q.2) _ (range_key (HRk.out _ (H8.out.1.trans (hB.mono H8.out.1.size)))) Try.underlying23 rfl (by rw [kl_len]; exact size23) ?_
                  exact hK _ _ ⟨sb, w', by simp [upd, Act.put, p5], hB, (fun e0 => (cX (by simpa [upd] using e0))), by simp [upd, nS], (fun e => absurd e (by simp [upd, nS]))⟩
                · -- 7: Op.call { callee := Callee.value (Operand.func 63), args := 
                  have p0 : l 0 = true := hpre _ rfl ⟨0, .data⟩ (by simp) rfl
                  have p6 : l 6 = true := hpre _ rfl ⟨6, .data⟩ (by simp) rfl
                  refine wpOp_step rfl (fun K' hK => ?_)
                  have nS : l 9 = false := by
                    cases h : l 9
                    · rfl
                    · have := oS h; simp [hli] at this
                  rw [nS, cond_false] at hw
                  subst hw
                  simp only [p0, p6, cond_true, cond_false]
                  clear hpre
                  rw [if_pos (by rfl)]
                  go_simp
                  refine (HDk.out _).mono ?_
                  rintro e w7 ⟨rfl, hb5'⟩
                  exact hK _ _ ⟨sb, w7, by simp [upd, Act.put, p0, p6], (hB).trans (hb5'.mono (hB).size), (fun e0 => ⟨((cX (by simpa [upd] using e0))).1.keep hb5', ((cX (by simpa [upd] using e0))).2⟩), by simp [upd, nS], (fun e => absurd e (by simp [upd, nS]))⟩
                · -- 8: Op.alloc 23
                  refine wpOp_step rfl (fun K' hK => ?_)
                  have nS : l 9 = false := by
                    cases h : l 9
                    · rfl
                    · have := oS h; simp [hli] at this
                  rw [nS, cond_false] at hw
                  subst hw
                  clear hpre
                  rw [if_pos (by rfl)]
                  go_simp
                  exact hK _ _ ⟨w'.heap.size, w'.alloc (.cells z16 23), by simp [upd, Act.put], (hB).trans ((below_alloc _ _).mono (hB).size), (fun _ => ⟨Blk.new _ _ _, hB.size⟩), by simp [upd, nS], (fun e => absurd e (by simp [upd, nS]))⟩
                · -- 9: Op.store 23 (Operand.tmp 11) (Operand.tmp 49)
                  have p8 : l 8 = true := hpre _ rfl ⟨8, .data⟩ (by simp) rfl
                  have p7 : l 7 = true := hpre _ rfl ⟨7, .data⟩ (by simp) rfl
                  have p0 : l 0 = true := hpre _ rfl ⟨0, .phase⟩ (by simp) rfl
                  have p1 : l 1 = true := hpre _ rfl ⟨1, .phase⟩ (by simp) rfl
                  have p2 : l 2 = true := hpre _ rfl ⟨2, .phase⟩ (by simp) rfl
                  have p3 : l 3 = true := hpre _ rfl ⟨3, .phase⟩ (by simp) rfl
                  have p4 : l 4 = true := hpre _ rfl ⟨4, .phase⟩ (by simp) rfl
                  have p5 : l 5 = true := hpre _ rfl ⟨5, .phase⟩ (by simp) rfl
                  have p6 : l 6 = true := hpre _ rfl ⟨6, .phase⟩ (by simp) rfl
                  refine wpOp_step rfl (fun K' hK => ?_)
                  have nS : l 9 = false := hli
                  rw [nS, cond_false] at hw
                  subst hw
                  simp only [p8, p7, p0, p1, p2, p3, p4, p5, p6, cond_true, cond_false]
                  clear hpre
                  rw [if_pos (by rfl)]
                  have gX := cX p8
                  refine wp_store_mid 23 _ _ rfl sb 0 (kl se.1 se.2).toArray rfl rfl (by have h := gX.1.there; simpa [kl_len] using h) (by simp [kl_len, size23]) (kl_arr _ _) ?_
                  rw [List.toList_toArray]
                  exact hK _ _ ⟨sb, w', by simp [upd, Act.put, p8, p7, p0, p1, p2, p3, p4, p5, p6], hB, (fun e0 => (cX (by simpa [upd] using e0))), by simp [upd], (fun _ => by simp [upd, p8, p7, p0, p1, p2, p3, p4, p5, p6])⟩
              · rintro l a' w9 hall ⟨sb, w1, rfl, hB, cX, hw, oS⟩
                rw [hall 9 (by decide), cond_true] at hw
                subst hw
                replace cX := cX (hall 8 (by decide))
                simp only [hall 0 (by decide), hall 1 (by decide), hall 2 (by decide), hall 3 (by decide), hall 4 (by decide), hall 5 (by decide), hall 6 (by decide), hall 7 (by decide), hall 8 (by decide), cond_true]
                clear hall oS
                have H10' : Hid (Below W4.heap.size W4 (w1.setCells sb 0 (kl se.1 se.2)) ∧ Kbx (w1.setCells sb 0 (kl se.1 se.2)) sb se) := Lib.hid ⟨H8.out.1.trans (below_setCells _ _ _ _ (hB.mono H8.out.1.size) (Nat.le_trans H8.out.1.size cX.2)), Kbx.stored cX.1 rfl se⟩
                obtain ⟨W10, hW10⟩ : ∃ W10, W10 = w1.setCells sb 0 (kl se.1 se.2) := ⟨_, rfl⟩
                rw [← hW10] at H10'
                rw [← hW10]
                have HB10 := H10'
                clear hW10 hB cX H10'
                go_wp2_with fail
                refine wp_region_inv (by kernel_rfl) (by kernel_rfl) (fun l a' w' => a' = { tmps := #[Value.agg #[Value.int IntKind.u8 K, Value.int IntKind.i64 d, Value.int IntKind.i64 E, Value.int IntKind.u64 P, Value.int IntKind.u64 Q, Value.int IntKind.u64 G], Value.agg (sg rr (Value.slice AL nl ml) ss tt), Value.agg (hdi (Value.slice (some ⟨g, o, none⟩) n m) (Value.slice Ap np kp) B x y).toArray, Value.pointer (some ⟨N, 0, none⟩), Value.pointer (some ⟨N + 1, 0, none⟩), Value.pointer (some ⟨N + 1 + 1, 0, none⟩), Value.pointer (some ⟨N + 1 + 1 + 1, 0, none⟩), u7, Value.int .i64 (k : Int), Value.pointer (some ⟨kb, 0, none⟩), Value.bool true, Value.pointer (some ⟨sb, 0, none⟩), Value.agg #[Value.int IntKind.u8 K, Value.int IntKind.i64 d, Value.int IntKind.i64 E, Value.int IntKind.u64 P, Value.int IntKind.u64 Q, Value.int IntKind.u64 G], Value.bool true, Value.bool false, undef, Value.agg #[Value.int IntKind.u8 K, Value.int IntKind.i64 d, Value.int IntKind.i64 E, Value.int IntKind.u64 P, Value.int IntKind.u64 Q, Value.int IntKind.u64 G], Value.agg (hdi (Value.slice (some ⟨g, o, none⟩) n m) (Value.slice Ap np kp) B x y).toArray, Value.bool true, Value.bool false, undef, Value.int .i64 (k : Int), Value.pointer (some ⟨N + 1 + 1, 0, none⟩), Value.slice (some ⟨g, o, none⟩) n m, Value.int .i64 (n : Int), Value.bool true, u26, u27, Value.tuple #[Value.agg (kl z.fst z.snd).toArray, Value.bool true], Value.agg #[Value.int IntKind.u8 K, Value.int IntKind.i64 d, Value.int IntKind.i64 E, Value.int IntKind.u64 P, Value.int IntKind.u64 Q, Value.int IntKind.u64 G], Value.agg (sg rr (Value.slice AL nl ml) ss tt), Value.pointer (some ⟨N + 2, 0, none⟩), Value.slice (some ⟨g, o, none⟩) n m, Value.int .i64 (k : Int), Value.pointer (some ⟨g, o + k * 18, none⟩), Value.pointer (some ⟨g, o + k * 18, none⟩), Value.agg #[Value.int IntKind.i64 v, Value.int IntKind.i64 xx], Value.tuple #[Value.agg (kl z.fst z.snd).toArray, Value.bool true], Value.agg (kl z.fst z.snd).toArray, Value.bool true, Value.bool true, Value.bool false, Value.agg (kl z.fst z.snd).toArray, Value.pointer (some ⟨N + 2, 0, none⟩), Value.slice (some ⟨g, o, none⟩) n m, Value.int .i64 (k : Int), Value.pointer (some ⟨g, o + k * 18, none⟩), Value.pointer (some ⟨g, o + k * 18 + 2, none⟩), Value.agg (kl q.fst q.snd).toArray, Value.agg (kl se.fst se.snd).toArray, bif l 0 then Value.agg (kl se.1 se.2).toArray else u50, bif l 1 then Value.agg (kl cc.1 cc.2).toArray else u51, bif l 2 then Value.pointer (some ⟨N + 2, 19, none⟩) else u52, bif l 3 then Value.agg (kl y.1 y.2).toArray else u53, bif l 4 then Value.bool (same cc.1 cc.2 y.1 y.2) else u54, u55, undef], defers := [] } ∧ (Below W4.heap.size W4 w') ∧ (Kbx w' sb se)) ⟨rfl, (HB10.out.1).drew, HB10.out.2⟩ ?_ ?_
                · rintro l a' w' i ⟨rfl, hB, hS⟩ hi' hli hpre
                  have hi2 : i < 5 := hi'
                  have hcase : i = 0 ∨ i = 1 ∨ i = 2 ∨ i = 3 ∨ i = 4 := by omega
                  clear hi' hi2
                  rcases hcase with rfl | rfl | rfl | rfl | rfl
                  · -- 0: Op.load 23 (Operand.tmp 11)
                    refine wpOp_step rfl (fun K' hK => ?_)
                    clear hpre
                    rw [if_pos (by rfl)]
                    refine wp_load_mid 23 _ rfl _ 0 rfl (kl se.1 se.2) _ (Kbx.at_ hS) Try.underlying23 rfl (by rw [kl_len]; exact size23) ?_
                    exact hK _ _ ⟨by simp [upd, Act.put], hB, hS⟩
                  · -- 1: Op.call { callee := Callee.value (Operand.func 58), args := 
                    have p0 : l 0 = true := hpre _ rfl ⟨0, .data⟩ (by simp) rfl
                    refine wpOp_step rfl (fun K' hK => ?_)
                    simp only [p0, cond_true, cond_false]
                    clear hpre
                    rw [if_pos (by rfl)]
                    go_simp
                    refine (HCk2.out _).mono ?_
                    rintro e w11 ⟨rfl, hb5⟩
                    exact hK _ _ ⟨by simp [upd, Act.put, p0], (hB).trans (hb5.mono (hB).size), Blk.keep (hS) hb5⟩
                  · -- 2: Op.fieldAddr 59 (Operand.tmp 5) 4
                    refine wpOp_step rfl (fun K' hK => ?_)
                    clear hpre
                    rw [if_pos (by rfl)]
                    go_simp
                    exact hK _ _ ⟨by simp [upd, Act.put], hB, hS⟩
                  · -- 3: Op.load 23 (Operand.tmp 52)
                    have p2 : l 2 = true := hpre _ rfl ⟨2, .data⟩ (by simp) rfl
                    refine wpOp_step rfl (fun K' hK => ?_)
                    simp only [p2, cond_true, cond_false]
                    clear hpre
                    rw [if_pos (by rfl)]
                    refine wp_load_mid 23 _ rfl _ 19 rfl (kl y.1 y.2) _ (Hdx.chk (Blk.keep HE.out.2.2.2.2.1 hB)) Try.underlying23 rfl (by rw [kl_len]; exact size23) ?_
                    exact hK _ _ ⟨by simp [upd, Act.put, p2], hB, hS⟩
                  · -- 4: Op.binOp BinOp.eql 23 (Operand.tmp 51) (Operand.tmp 53) 23
                    have p1 : l 1 = true := hpre _ rfl ⟨1, .data⟩ (by simp) rfl
                    have p3 : l 3 = true := hpre _ rfl ⟨3, .data⟩ (by simp) rfl
                    refine wpOp_step rfl (fun K' hK => ?_)
                    simp only [p1, p3, cond_true, cond_false]
                    clear hpre
                    rw [if_pos (by rfl)]
                    have hq := HQ.out
                    go_simp
                    exact hK _ _ ⟨by simp [upd, Act.put, p1, p3], hB, hS⟩
                · rintro l a' w9 hall ⟨rfl, hB, hS⟩
                  simp only [hall 0 (by decide), hall 1 (by decide), hall 2 (by decide), hall 3 (by decide), hall 4 (by decide), cond_true]
                  clear hall
                  have H6 : Hid (Below W4.heap.size W4 w9 ∧ Kbx w9 sb se) := Lib.hid ⟨hB, hS⟩
                  clear hB hS
                  cases hcy : same cc.1 cc.2 y.1 y.2 with
                  | true =>
                    have hey : cc = y := by unfold same at hcy; have h2 := of_decide_eq_true hcy; exact Prod.ext h2.1 h2.2
                    have HF := Lib.hid (HYs.out se (HHy2.out hey))
                    have H3 := Lib.hid (HEND.out se w9 H6.out.1)
                    clear hcy hey
                    go_wp2_with (first
                      | ((with_reducible show wpList _ _ _ (Oper.mk _ (Op.load 23 _) _ _ _ _ :: _) _ _); refine wpList_load_key rfl _ rfl _ rfl _ _ (Kbx.at_ H6.out.2) ?_)
                      | ((with_reducible show wpList _ _ _ (Oper.mk _ (Op.store 23 _ _) _ _ _ _ :: _) _ _); refine wpList_store_key rfl _ _ rfl (N + 3) _ _ rfl rfl H3.out.1 ?_))
                    exact bodyPost_ret (results_keye rfl _ _ (N + 3) se _ rfl rfl H3.out.2.1) rfl ⟨HF.out _ rfl, H3.out.2.2⟩
                  | false =>
                    have hey : cc ≠ y := fun h => by rw [h] at hcy; unfold same at hcy; simp at hcy
                    have HNy := Lib.hid (HNx.out (HHn2.out hey))
                    clear hcy hey
                    go_wp2_with fail
                    go_roundw
                    case rel => exact ⟨k + 1, by omega, by go_num, Lib.hid H6.out.1, HNy⟩
                    case measure => simp [intOf]; omega
        · have HF := Lib.hid (HCn.out (fun i hi => HA.out i (by omega)))
          have l3 : ¬ ((k : Int) < (n : Int)) := by omega
          have H3 := Lib.hid (HEND.out (0, 0) wr HBr.out)
          go_wp2_with (first
            | ((with_reducible show wpList _ _ _ (Oper.mk _ (Op.build 23 _) _ _ _ _ :: _) _ _); refine wpList_buildKey0 rfl rfl ?_)
            | ((with_reducible show wpList _ _ _ (Oper.mk _ (Op.store 23 _ _) _ _ _ _ :: _) _ _); refine wpList_store_key rfl _ _ rfl (N + 3) _ _ rfl rfl H3.out.1 ?_))
          exact bodyPost_ret (results_keye rfl _ _ (N + 3) (0, 0) _ rfl rfl H3.out.2.1) rfl ⟨HF.out _ rfl, H3.out.2.2⟩
  · have hsc := scb_no h
    rw [hsc]
    have H3 := Lib.hid (HEND.out (0, 0) w5 HB5.out)
    have HC0 : Hid (∀ e, e = .returned (.tuple #[.agg (kl 0 0).toArray, .int .i64 30]) → OpE K D E P Q G L nl n B np x y F e) := Lib.hid (fun e he => .inl ⟨scb_no h, he⟩)
    clear hsc h
    go_wp2_with (first
      | ((with_reducible show wpList _ _ _ (Oper.mk _ (Op.build 23 _) _ _ _ _ :: _) _ _); refine wpList_buildKey0 rfl rfl ?_)
      | ((with_reducible show wpList _ _ _ (Oper.mk _ (Op.store 23 _ _) _ _ _ _ :: _) _ _); refine wpList_store_key rfl _ _ rfl (N + 3) _ _ rfl rfl H3.out.1 ?_))
    exact bodyPost_ret (results_keye rfl _ _ (N + 3) (0, 0) _ rfl rfl H3.out.2.1) rfl ⟨HC0.out _ rfl, H3.out.2.2⟩
end Go.Proofs.Ytelalpikdidpeaa
