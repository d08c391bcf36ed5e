/-
  Headers of a valid scheme, the program's and the specification's.
-/
import Derived.Test.YtelalpikdidpeaaSlC
namespace Go.Proofs.Ytelalpikdidpeaa
open Go.RowKit TR L2 L2.SP
set_option linter.unusedVariables false
set_option linter.unusedSimpArgs false

theorem wpList_store_itm {ops : Array Oper} {rest : List Oper} {op : Oper} {a : Act} {w : World} {Q : Exit → Act → World → Prop} (hgd : op.guard = none) (x y : Operand) (ho : op.op = .store 112 x y)
    (b : Nat) (v z : Int) (p : Nat × Nat) (hx : a.eval x = .pointer (some ⟨b, 0, none⟩)) (hy : a.eval y = .agg (lbl v z p).toArray) (ht : w.there b 0 18)
    (h : wpList Try.prog ops Q rest (a.put op.dst undef) (w.setCells b 0 (lbl v z p))) : wpList Try.prog ops Q (op :: rest) a w :=
  wpList_store_mid hgd 112 x y ho b 0 (lbl v z p).toArray hx hy (by simpa [lbl_len] using ht) (by simp [lbl_len, sizeItm]) (lbl_arr v z p) (by simpa using h)
theorem wpList_load_itmo {ops : Array Oper} {rest : List Oper} {op : Oper} {a : Act} {w : World} {Q : Exit → Act → World → Prop} (hgd : op.guard = none) (x : Operand) (ho : op.op = .load 112 x)
    (b o : Nat) (hx : a.eval x = .pointer (some ⟨b, o, none⟩)) (v z : Int) (p : Nat × Nat) (hc : w.rangeAt b o (lbl v z p))
    (h : wpList Try.prog ops Q rest (a.put op.dst (.agg (lbl v z p).toArray)) w) : wpList Try.prog ops Q (op :: rest) a w :=
  wpList_load_mid hgd 112 x ho b o hx (lbl v z p) _ hc Try.underlying112 rfl (by rw [lbl_len]; exact sizeItm) h
theorem wpList_buildKey0_on {ops : Array Oper} {rest : List Oper} {op : Oper} {a : Act} {w : World} {Q : Exit → Act → World → Prop} (hw : Region.wanted op (yielded ops a.tmps) = true) (ho : op.op = .build 23 #[])
    (h : wpList Try.prog ops Q rest (a.put op.dst (.agg (kl 0 0).toArray)) w) : wpList Try.prog ops Q (op :: rest) a w :=
  wpList_step fun K hK => by rw [if_pos hw]; exact wp_buildKey0 ho (hK _ _ h)
/-- An item in a block of its own. -/
abbrev Itx (w : World) (b : Nat) (v x : Int) (p : Nat × Nat) : Prop := Blk w b (lbl v x p).toArray 112
theorem itmbox (w : World) (v x : Int) (p : Nat × Nat) : (w.alloc (.cells lz18 112)).there w.heap.size 0 18 ∧ Itx ((w.alloc (.cells lz18 112)).setCells w.heap.size 0 (lbl v x p)) w.heap.size v x p ∧ Below w.heap.size w ((w.alloc (.cells lz18 112)).setCells w.heap.size 0 (lbl v x p)) ∧ ((w.alloc (.cells lz18 112)).setCells w.heap.size 0 (lbl v x p)).heap.size = w.heap.size + 1 := by
  have hA := Blk.new w lz18 112
  exact ⟨hA.there, Blk.setAll hA _ (by rw [lbl_len]; rfl), below_setCells _ _ _ _ (below_alloc _ _) (Nat.le_refl _), by rw [size_setCells]; simp⟩
/-- Whether a header is one of the scheme. -/
def hvb (K : Int) (d n : Nat) (B : Int) (np : Nat) (x : Nat × Nat) (F : Nat → Int × Int × (Nat × Nat)) : Bool := decide (n ≤ 64) && (decide (B = 0) && (decide (np = 0) && (decide (x = (0, 0)) && (List.range n).all fun i => isb K d (F i).1 (F i).2.1)))
theorem hvb_all {K : Int} {d n : Nat} {B : Int} {np : Nat} {x : Nat × Nat} {F : Nat → Int × Int × (Nat × Nat)} (h1 : n ≤ 64) (h2 : B = 0) (h3 : np = 0) (h4 : x = (0, 0)) (h5 : ∀ i, i < n → isb K d (F i).1 (F i).2.1 = true) : hvb K d n B np x F = true := by
  unfold hvb
  rw [decide_eq_true h1, decide_eq_true h2, decide_eq_true h3, decide_eq_true h4, Bool.true_and, Bool.true_and, Bool.true_and, Bool.true_and, List.all_eq_true]
  exact fun i hi => h5 i (List.mem_range.1 hi)
theorem hvb_no {K : Int} {d n : Nat} {B : Int} {np : Nat} {x : Nat × Nat} {F : Nat → Int × Int × (Nat × Nat)} (h : ¬ (n ≤ 64 ∧ B = 0 ∧ np = 0 ∧ x = (0, 0) ∧ ∀ i, i < n → isb K d (F i).1 (F i).2.1 = true)) : hvb K d n B np x F = false := by
  rw [Bool.eq_false_iff]
  intro h2
  apply h
  unfold hvb at h2
  simp only [Bool.and_eq_true, decide_eq_true_eq, List.all_eq_true, List.mem_range] at h2
  exact ⟨h2.1, h2.2.1, h2.2.2.1, h2.2.2.2.1, h2.2.2.2.2⟩

set_option maxRecDepth 100000 in
set_option maxHeartbeats 400000 in
theorem isHeader_any (K E B : Int) (d P Q G g o n m np kp : Nat) (A Ap : Option Addr) (x y : Nat × Nat) (F : Nat → Int × Int × (Nat × Nat)) (w : World) (hd : d < 7) (hx : Ok x) (hn : n ≤ 4398046511104) (hnp : np ≤ 8796093022208) (hnm : n ≤ m) (had : n = 0 ∨ A = some ⟨g, o, none⟩)
    (hc : ∀ i, i < n → w.rangeAt g (o + i * 18) (lbl (F i).1 (F i).2.1 (F i).2.2)) :
    Calls Try.prog 60 #[.agg #[.int .u8 K, .int .i64 (d : Int), .int .i64 E, .int .u64 (P : Int), .int .u64 (Q : Int), .int .u64 (G : Int)], .agg (hdi (.slice A n m) (.slice Ap np kp) B x y).toArray] w fun e w' => e = .returned (.bool (hvb K d n B np x F)) ∧ Below w.heap.size w w' := by
  obtain ⟨N, hN⟩ : ∃ N, N = w.heap.size := ⟨_, rfl⟩
  obtain ⟨W2, hW2⟩ : ∃ W2, W2 = (w.alloc (.cells #[.int .u8 K, .int .i64 (d : Int), .int .i64 E, .int .u64 (P : Int), .int .u64 (Q : Int), .int .u64 (G : Int)] 28)).alloc (.cells (hdi (.slice A n m) (.slice Ap np kp) B x y).toArray 59) := ⟨_, rfl⟩
  have s2 : W2.heap.size = N + 2 := by rw [hW2, hN]; simp
  have b2 : Below N w W2 := by rw [hW2, hN]; exact (below_alloc _ _).trans ((below_alloc _ _).mono (by simp))
  have e1 : Blk W2 N #[.int .u8 K, .int .i64 (d : Int), .int .i64 E, .int .u64 (P : Int), .int .u64 (Q : Int), .int .u64 (G : Int)] 28 := by rw [hW2, hN]; exact (Blk.new w _ _).keep (below_alloc _ _)
  have e2 : Hdx W2 (N + 1) (.slice A n m) (.slice Ap np kp) B x y := by
    have h := Blk.new (w.alloc (.cells #[.int .u8 K, .int .i64 (d : Int), .int .i64 E, .int .u64 (P : Int), .int .u64 (Q : Int), .int .u64 (G : Int)] 28)) (hdi (.slice A n m) (.slice Ap np kp) B x y).toArray 59
    rw [World.size_alloc, ← hN] at h; rw [hW2]; exact h
  have HE : Hid (W2.heap.size = N + 2 ∧ Below N w W2 ∧ Blk W2 N #[.int .u8 K, .int .i64 (d : Int), .int .i64 E, .int .u64 (P : Int), .int .u64 (Q : Int), .int .u64 (G : Int)] 28 ∧ Hdx W2 (N + 1) (.slice A n m) (.slice Ap np kp) B x y) := Lib.hid ⟨s2, b2, e1, e2⟩
  have HC : Hid (∀ w1, Below W2.heap.size W2 w1 → ∀ i, i < n → w1.rangeAt g (o + i * 18) (lbl (F i).1 (F i).2.1 (F i).2.2)) := Lib.hid (fun w1 hb i hi j u hu => by
    have hb2 : Below N w w1 := b2.trans (hb.mono (by rw [s2]; omega))
    exact (hb2.cell (p := ⟨g, o + i * 18 + j, none⟩) (by rw [hN]; exact World.block_lt_of_cell? w _ (hc i hi j u hu))).trans (hc i hi j u hu))
  have HEND := Lib.hid (fun (w3 : World) (hb : Below W2.heap.size W2 w3) => (HE.out.2.1.trans (hb.mono (by rw [HE.out.1]; omega)) : Below N w w3))
  have HAD := Lib.hid had
  have HIs := Lib.hid (fun a b w => isSubset_any K E a b d P Q G w hd)
  have HN := Lib.hid hN
  have HW := Lib.hid hW2
  rw [← hN]
  have c0 := Hdx.c0 e2
  have c1 := Hdx.c1 e2
  have c2 := Hdx.c2 e2
  rw [hW2, hN] at c0 c1 c2
  clear hN hW2 s2 b2 e1 e2 hc had hd
  have HB2 : Hid (Below N w W2) := Lib.hid HE.out.2.1
  by_cases h64 : 64 < n
  · have HV : Hid (hvb K d n B np x F = false) := Lib.hid (hvb_no (fun h => by have := h.1; omega))
    have h64' : (64 : Int) < (n : Int) := by omega
    rw [HV.out]
    go_enter Try.func60, Try.ntmps60
    go_wp2_with fail
    go_ret
    exact ⟨by first | rfl | simp, by rw [← HW.out]; exact HB2.out⟩
  have h64' : ¬ ((64 : Int) < (n : Int)) := by omega
  by_cases hB : B = 0
  rotate_left
  · have HV : Hid (hvb K d n B np x F = false) := Lib.hid (hvb_no (fun h => hB h.2.1))
    have hBn : (B != 0) = true := by simp [hB]
    rw [HV.out]
    clear hB
    go_enter Try.func60, Try.ntmps60
    go_wp2_with fail
    go_ret
    exact ⟨by first | rfl | simp, by rw [← HW.out]; exact HB2.out⟩
  subst hB
  by_cases hP : np = 0
  rotate_left
  · have HV : Hid (hvb K d n 0 np x F = false) := Lib.hid (hvb_no (fun h => hP h.2.2.1))
    have hPn : ((np : Int) != 0) = true := by simp; omega
    rw [HV.out]
    clear hP
    go_enter Try.func60, Try.ntmps60
    go_wp2_with fail
    go_ret
    exact ⟨by first | rfl | simp, by rw [← HW.out]; exact HB2.out⟩
  subst hP
  have HK0 : Hid (Hdx ((w.alloc (.cells #[.int .u8 K, .int .i64 (d : Int), .int .i64 E, .int .u64 (P : Int), .int .u64 (Q : Int), .int .u64 (G : Int)] 28)).alloc (.cells (hdi (.slice A n m) (.slice Ap 0 kp) 0 x y).toArray 59)) (w.heap.size + 1) (.slice A n m) (.slice Ap 0 kp) 0 x y) := Lib.hid (by rw [← HW.out, ← HN.out]; exact HE.out.2.2.2)
  by_cases hX : x = (0, 0)
  rotate_left
  · have HV : Hid (hvb K d n 0 0 x F = false) := Lib.hid (hvb_no (fun h => hX h.2.2.2.1))
    have hq : ∀ w, (Op.equalIn 10000 23 (.agg (kl x.1 x.2).toArray) (.agg (kl 0 0).toArray)).run Try.prog w = .ok false w := fun w => by
      rw [run_equal_key hx.1 hx.2 (by decide) (by decide) w]
      congr 1
      unfold same
      have h1 : ¬ (x.1 = 0 ∧ x.2 = 0) := fun h => hX (Prod.ext h.1 h.2)
      simp only [Bool.and_eq_false_iff, decide_eq_false_iff_not, beq_eq_false_iff_ne]
      omega
    rw [HV.out]
    clear hX
    go_enter Try.func60, Try.ntmps60
    go_wp2_with (first
      | ((with_reducible show wpList _ _ _ (Oper.mk _ (Op.load 23 _) _ _ _ _ :: _) _ _); refine wpList_load_on (by rfl) 23 _ rfl (w.heap.size + 1) 3 (by rfl) (kl x.1 x.2) _ HK0.out.box Try.underlying23 rfl (by rw [kl_len]; exact size23) ?_)
      | ((with_reducible show wpList _ _ _ (Oper.mk _ (Op.build 23 _) _ _ _ _ :: _) _ _); refine wpList_buildKey0_on (by rfl) rfl ?_))
    go_ret
    exact ⟨by first | rfl | simp, by rw [← HW.out]; exact HB2.out⟩
  subst hX
  have hq : ∀ w, (Op.equalIn 10000 23 (.agg (kl 0 0).toArray) (.agg (kl 0 0).toArray)).run Try.prog w = .ok true w := fun w => key_self' (0, 0) w
  have HV : Hid ((∀ i, i < n → isb K d (F i).1 (F i).2.1 = true) → hvb K d n 0 0 (0, 0) F = true) := Lib.hid (fun h => hvb_all (by omega) rfl rfl rfl h)
  have HVn : Hid (∀ i, i < n → isb K d (F i).1 (F i).2.1 = false → hvb K d n 0 0 (0, 0) F = false) := Lib.hid (fun i hi h => hvb_no (fun h2 => by have := h2.2.2.2.2 i hi; rw [h] at this; cases this))
  obtain ⟨z, hz⟩ : ∃ z, z = hvb K d n 0 0 (0, 0) F := ⟨_, rfl⟩
  rw [← hz] at HV HVn ⊢
  clear hz
  go_enter Try.func60, Try.ntmps60
  go_wp2_with (first
    | ((with_reducible show wpList _ _ _ (Oper.mk _ (Op.load 23 _) _ _ _ _ :: _) _ _); refine wpList_load_on (by rfl) 23 _ rfl (w.heap.size + 1) 3 (by rfl) (kl 0 0) _ HK0.out.box Try.underlying23 rfl (by rw [kl_len]; exact size23) ?_)
    | ((with_reducible show wpList _ _ _ (Oper.mk _ (Op.build 23 _) _ _ _ _ :: _) _ _); refine wpList_buildKey0_on (by rfl) rfl ?_))
  rw [← HW.out, ← HN.out]
  clear c0 c1 c2 HK0 hq
  go_loopw [31] (fun i wr => ∃ (k : Nat), k ≤ n ∧ i = .int .i64 (k : Int) ∧ Hid (Below W2.heap.size W2 wr) ∧ Hid (∀ j, j < k → isb K d (F j).1 (F j).2.1 = true)) (fun i _ => n - (intOf i).toNat)
  case atStart => exact ⟨0, by omega, rfl, Lib.hid (Below.refl _ _), Lib.hid (fun j h => by omega)⟩
  case round =>
    obtain ⟨k, hk, rfl, HBr, HA⟩ := hrel
    by_cases hlt : k < n
    · rcases HAD.out with h0 | rfl
      · omega
      have l1 : (0 : Int) ≤ (k : Int) := by omega
      have l2 : (k : Int) < (n : Int) := by omega
      have HRk := Lib.hid (HC.out wr HBr.out k hlt)
      have HNo := Lib.hid (HVn.out k hlt)
      have HAx : Hid (isb K d (F k).1 (F k).2.1 = true → ∀ j, j < k + 1 → isb K d (F j).1 (F j).2.1 = true) := Lib.hid (fun h j hj => by
        rcases Nat.lt_or_ge j k with h1 | h1
        · exact HA.out j h1
        · obtain rfl : j = k := by omega
          exact h)
      have HIk := Lib.hid (fun w => HIs.out (F k).1 (F k).2.1 w)
      obtain ⟨a, ha⟩ : ∃ a, a = (F k).1 := ⟨_, rfl⟩
      obtain ⟨b, hb⟩ : ∃ b, b = (F k).2.1 := ⟨_, rfl⟩
      obtain ⟨q, hq⟩ : ∃ q, q = (F k).2.2 := ⟨_, rfl⟩
      rw [← ha, ← hb] at HNo HAx HIk
      rw [← ha, ← hb, ← hq] at HRk
      obtain ⟨zi, hzi⟩ : ∃ zi, zi = isb K d a b := ⟨_, rfl⟩
      rw [← hzi] at HNo HAx HIk
      obtain ⟨k1, k2, k3, k4⟩ := itmbox wr a b q
      obtain ⟨W5, hW5⟩ : ∃ W5, W5 = (wr.alloc (.cells lz18 112)).setCells wr.heap.size 0 (lbl a b q) := ⟨_, rfl⟩
      rw [← hW5] at k2 k3 k4
      have HB5 : Hid (Below W2.heap.size W2 W5) := Lib.hid (HBr.out.trans (k3.mono HBr.out.size))
      have y0 : W5.cell? ⟨wr.heap.size, 0, none⟩ = some (.int .i64 a) := k2.cell 0
      have y1 : W5.cell? ⟨wr.heap.size, 1, none⟩ = some (.int .i64 b) := k2.cell 1
      have e1 := HE.out.2.2.1.keep HB5.out
      have c0 : W5.cell? ⟨N, 0, none⟩ = some (.int .u8 K) := e1.cell 0
      have c1 : W5.cell? ⟨N, 1, none⟩ = some (.int .i64 (d : Int)) := e1.cell 1
      have c2 : W5.cell? ⟨N, 2, none⟩ = some (.int .i64 E) := e1.cell 2
      have c3 : W5.cell? ⟨N, 3, none⟩ = some (.int .u64 (P : Int)) := e1.cell 3
      have c4 : W5.cell? ⟨N, 4, none⟩ = some (.int .u64 (Q : Int)) := e1.cell 4
      have c5 : W5.cell? ⟨N, 5, none⟩ = some (.int .u64 (G : Int)) := e1.cell 5
      rw [hW5] at y0 y1 c0 c1 c2 c3 c4 c5
      have HW5 := Lib.hid hW5
      have HTh := Lib.hid k1
      clear ha hb hq hzi k1 k2 k3 k4 hW5 e1 hk
      go_wp2_with (first
        | ((with_reducible show wpList _ _ _ (Oper.mk _ (Op.load 112 _) _ _ _ _ :: _) _ _); refine wpList_load_itmo rfl _ rfl _ _ rfl _ _ _ HRk.out ?_)
        | ((with_reducible show wpList _ _ _ (Oper.mk _ (Op.store 112 _ _) _ _ _ _ :: _) _ _); refine wpList_store_itm rfl _ _ rfl _ _ _ _ rfl rfl HTh.out ?_))
      rw [← HW5.out]
      refine (HIk.out _).mono ?_
      rintro e w6 ⟨rfl, hb6⟩
      have HB6 := Lib.hid (HB5.out.trans (hb6.mono HB5.out.size))
      clear hb6 y0 y1 c0 c1 c2 c3 c4 c5
      rcases zi with _ | _
      · have HF := Lib.hid (HNo.out rfl)
        have H3 := Lib.hid (HEND.out w6 HB6.out)
        go_wp2_with fail
        go_ret
        exact ⟨by rw [HF.out]; first | rfl | simp, H3.out⟩
      · have HAy := Lib.hid (HAx.out rfl)
        go_wp2_with fail
        go_roundw
        case rel => exact ⟨k + 1, by omega, by go_num, HB6, HAy⟩
        case measure => simp [intOf]; omega
    · obtain rfl : k = n := by omega
      have HF := Lib.hid (HV.out HA.out)
      have H3 := Lib.hid (HEND.out wr HBr.out)
      have l3 : ¬ ((k : Int) < (k : Int)) := by omega
      go_wp2_with fail
      go_ret
      exact ⟨by rw [HF.out]; first | rfl | simp, H3.out⟩

set_option maxRecDepth 100000 in
set_option maxHeartbeats 400000 in
theorem validHeader_any (K E B : Int) (d P Q G g o n m np kp : Nat) (A Ap : Option Addr) (x y : Nat × Nat) (F : Nat → Int × Int × (Nat × Nat)) (w : World) (hd : d < 7) (hx : Ok x) (hn : n ≤ 4398046511104) (hnp : np ≤ 8796093022208) (hnm : n ≤ m) (had : n = 0 ∨ A = some ⟨g, o, none⟩)
    (hc : ∀ i, i < n → w.rangeAt g (o + i * 18) (lbl (F i).1 (F i).2.1 (F i).2.2)) :
    Calls Try.prog 62 #[.agg #[.int .u8 K, .int .i64 (d : Int), .int .i64 E, .int .u64 (P : Int), .int .u64 (Q : Int), .int .u64 (G : Int)], .agg (hdi (.slice A n m) (.slice Ap np kp) B x y).toArray] w fun e w' => e = .returned (.bool (hvb K d n B np x F)) ∧ Below w.heap.size w w' := by
  obtain ⟨N, hN⟩ : ∃ N, N = w.heap.size := ⟨_, rfl⟩
  obtain ⟨W2, hW2⟩ : ∃ W2, W2 = (w.alloc (.cells #[.int .u8 K, .int .i64 (d : Int), .int .i64 E, .int .u64 (P : Int), .int .u64 (Q : Int), .int .u64 (G : Int)] 28)).alloc (.cells (hdi (.slice A n m) (.slice Ap np kp) B x y).toArray 59) := ⟨_, rfl⟩
  have s2 : W2.heap.size = N + 2 := by rw [hW2, hN]; simp
  have b2 : Below N w W2 := by rw [hW2, hN]; exact (below_alloc _ _).trans ((below_alloc _ _).mono (by simp))
  have e1 : Blk W2 N #[.int .u8 K, .int .i64 (d : Int), .int .i64 E, .int .u64 (P : Int), .int .u64 (Q : Int), .int .u64 (G : Int)] 28 := by rw [hW2, hN]; exact (Blk.new w _ _).keep (below_alloc _ _)
  have e2 : Hdx W2 (N + 1) (.slice A n m) (.slice Ap np kp) B x y := by
    have h := Blk.new (w.alloc (.cells #[.int .u8 K, .int .i64 (d : Int), .int .i64 E, .int .u64 (P : Int), .int .u64 (Q : Int), .int .u64 (G : Int)] 28)) (hdi (.slice A n m) (.slice Ap np kp) B x y).toArray 59
    rw [World.size_alloc, ← hN] at h; rw [hW2]; exact h
  have HE : Hid (W2.heap.size = N + 2 ∧ Below N w W2 ∧ Blk W2 N #[.int .u8 K, .int .i64 (d : Int), .int .i64 E, .int .u64 (P : Int), .int .u64 (Q : Int), .int .u64 (G : Int)] 28 ∧ Hdx W2 (N + 1) (.slice A n m) (.slice Ap np kp) B x y) := Lib.hid ⟨s2, b2, e1, e2⟩
  have HC : Hid (∀ w1, Below W2.heap.size W2 w1 → ∀ i, i < n → w1.rangeAt g (o + i * 18) (lbl (F i).1 (F i).2.1 (F i).2.2)) := Lib.hid (fun w1 hb i hi j u hu => by
    have hb2 : Below N w w1 := b2.trans (hb.mono (by rw [s2]; omega))
    exact (hb2.cell (p := ⟨g, o + i * 18 + j, none⟩) (by rw [hN]; exact World.block_lt_of_cell? w _ (hc i hi j u hu))).trans (hc i hi j u hu))
  have HEND := Lib.hid (fun (w3 : World) (hb : Below W2.heap.size W2 w3) => (HE.out.2.1.trans (hb.mono (by rw [HE.out.1]; omega)) : Below N w w3))
  have HAD := Lib.hid had
  have HIs := Lib.hid (fun a b w => refIsSubset_any K E a b d P Q G w hd)
  have HN := Lib.hid hN
  have HW := Lib.hid hW2
  rw [← hN]
  have c0 := Hdx.c0 e2
  have c1 := Hdx.c1 e2
  have c2 := Hdx.c2 e2
  rw [hW2, hN] at c0 c1 c2
  clear hN hW2 s2 b2 e1 e2 hc had hd
  have HB2 : Hid (Below N w W2) := Lib.hid HE.out.2.1
  by_cases h64 : 64 < n
  · have HV : Hid (hvb K d n B np x F = false) := Lib.hid (hvb_no (fun h => by have := h.1; omega))
    have h64' : (64 : Int) < (n : Int) := by omega
    rw [HV.out]
    go_enter Try.func62, Try.ntmps62
    go_wp2_with fail
    go_ret
    exact ⟨by first | rfl | simp, by rw [← HW.out]; exact HB2.out⟩
  have h64' : ¬ ((64 : Int) < (n : Int)) := by omega
  by_cases hB : B = 0
  rotate_left
  · have HV : Hid (hvb K d n B np x F = false) := Lib.hid (hvb_no (fun h => hB h.2.1))
    have hBn : (B != 0) = true := by simp [hB]
    rw [HV.out]
    clear hB
    go_enter Try.func62, Try.ntmps62
    go_wp2_with fail
    go_ret
    exact ⟨by first | rfl | simp, by rw [← HW.out]; exact HB2.out⟩
  subst hB
  by_cases hP : np = 0
  rotate_left
  · have HV : Hid (hvb K d n 0 np x F = false) := Lib.hid (hvb_no (fun h => hP h.2.2.1))
    have hPn : ((np : Int) != 0) = true := by simp; omega
    rw [HV.out]
    clear hP
    go_enter Try.func62, Try.ntmps62
    go_wp2_with fail
    go_ret
    exact ⟨by first | rfl | simp, by rw [← HW.out]; exact HB2.out⟩
  subst hP
  have HK0 : Hid (Hdx ((w.alloc (.cells #[.int .u8 K, .int .i64 (d : Int), .int .i64 E, .int .u64 (P : Int), .int .u64 (Q : Int), .int .u64 (G : Int)] 28)).alloc (.cells (hdi (.slice A n m) (.slice Ap 0 kp) 0 x y).toArray 59)) (w.heap.size + 1) (.slice A n m) (.slice Ap 0 kp) 0 x y) := Lib.hid (by rw [← HW.out, ← HN.out]; exact HE.out.2.2.2)
  by_cases hX : x = (0, 0)
  rotate_left
  · have HV : Hid (hvb K d n 0 0 x F = false) := Lib.hid (hvb_no (fun h => hX h.2.2.2.1))
    have hq : ∀ w, (Op.equalIn 10000 23 (.agg (kl x.1 x.2).toArray) (.agg (kl 0 0).toArray)).run Try.prog w = .ok false w := fun w => by
      rw [run_equal_key hx.1 hx.2 (by decide) (by decide) w]
      congr 1
      unfold same
      have h1 : ¬ (x.1 = 0 ∧ x.2 = 0) := fun h => hX (Prod.ext h.1 h.2)
      simp only [Bool.and_eq_false_iff, decide_eq_false_iff_not, beq_eq_false_iff_ne]
      omega
    rw [HV.out]
    clear hX
    go_enter Try.func62, Try.ntmps62
    go_wp2_with (first
      | ((with_reducible show wpList _ _ _ (Oper.mk _ (Op.load 23 _) _ _ _ _ :: _) _ _); refine wpList_load_on (by rfl) 23 _ rfl (w.heap.size + 1) 3 (by rfl) (kl x.1 x.2) _ HK0.out.box Try.underlying23 rfl (by rw [kl_len]; exact size23) ?_)
      | ((with_reducible show wpList _ _ _ (Oper.mk _ (Op.build 23 _) _ _ _ _ :: _) _ _); refine wpList_buildKey0_on (by rfl) rfl ?_))
    go_ret
    exact ⟨by first | rfl | simp, by rw [← HW.out]; exact HB2.out⟩
  subst hX
  have hq : ∀ w, (Op.equalIn 10000 23 (.agg (kl 0 0).toArray) (.agg (kl 0 0).toArray)).run Try.prog w = .ok true w := fun w => key_self' (0, 0) w
  have HV : Hid ((∀ i, i < n → isb K d (F i).1 (F i).2.1 = true) → hvb K d n 0 0 (0, 0) F = true) := Lib.hid (fun h => hvb_all (by omega) rfl rfl rfl h)
  have HVn : Hid (∀ i, i < n → isb K d (F i).1 (F i).2.1 = false → hvb K d n 0 0 (0, 0) F = false) := Lib.hid (fun i hi h => hvb_no (fun h2 => by have := h2.2.2.2.2 i hi; rw [h] at this; cases this))
  obtain ⟨z, hz⟩ : ∃ z, z = hvb K d n 0 0 (0, 0) F := ⟨_, rfl⟩
  rw [← hz] at HV HVn ⊢
  clear hz
  go_enter Try.func62, Try.ntmps62
  go_wp2_with (first
    | ((with_reducible show wpList _ _ _ (Oper.mk _ (Op.load 23 _) _ _ _ _ :: _) _ _); refine wpList_load_on (by rfl) 23 _ rfl (w.heap.size + 1) 3 (by rfl) (kl 0 0) _ HK0.out.box Try.underlying23 rfl (by rw [kl_len]; exact size23) ?_)
    | ((with_reducible show wpList _ _ _ (Oper.mk _ (Op.build 23 _) _ _ _ _ :: _) _ _); refine wpList_buildKey0_on (by rfl) rfl ?_))
  rw [← HW.out, ← HN.out]
  clear c0 c1 c2 HK0 hq
  go_loopw [5] (fun i wr => ∃ (k : Nat), k ≤ n ∧ i = .int .i64 (k : Int) ∧ Hid (Below W2.heap.size W2 wr) ∧ Hid (∀ j, j < k → isb K d (F j).1 (F j).2.1 = true)) (fun i _ => n - (intOf i).toNat)
  case atStart => exact ⟨0, by omega, rfl, Lib.hid (Below.refl _ _), Lib.hid (fun j h => by omega)⟩
  case round =>
    obtain ⟨k, hk, rfl, HBr, HA⟩ := hrel
    have cz := Hdx.c0 (Blk.keep HE.out.2.2.2 HBr.out)
    by_cases hlt : k < n
    · rcases HAD.out with h0 | rfl
      · omega
      have l1 : (0 : Int) ≤ (k : Int) := by omega
      have l2 : (k : Int) < (n : Int) := by omega
      have HRk : Hid (∀ w1, Below W2.heap.size W2 w1 → w1.rangeAt g (o + k * 18) (lbl (F k).1 (F k).2.1 (F k).2.2)) := Lib.hid (fun w1 hb => HC.out w1 hb k hlt)
      have HNo := Lib.hid (HVn.out k hlt)
      have HAx : Hid (isb K d (F k).1 (F k).2.1 = true → ∀ j, j < k + 1 → isb K d (F j).1 (F j).2.1 = true) := Lib.hid (fun h j hj => by
        rcases Nat.lt_or_ge j k with h1 | h1
        · exact HA.out j h1
        · obtain rfl : j = k := by omega
          exact h)
      have HIk := Lib.hid (fun w => HIs.out (F k).1 (F k).2.1 w)
      obtain ⟨a, ha⟩ : ∃ a, a = (F k).1 := ⟨_, rfl⟩
      obtain ⟨b, hb⟩ : ∃ b, b = (F k).2.1 := ⟨_, rfl⟩
      obtain ⟨q, hq⟩ : ∃ q, q = (F k).2.2 := ⟨_, rfl⟩
      rw [← ha, ← hb] at HNo HAx HIk
      rw [← ha, ← hb, ← hq] at HRk
      obtain ⟨zi, hzi⟩ : ∃ zi, zi = isb K d a b := ⟨_, rfl⟩
      rw [← hzi] at HNo HAx HIk
      clear ha hb hq hzi hk
      go_wp2_with fail
      clear cz
      refine wp_region_inv (by kernel_rfl) (by kernel_rfl) (fun l a' w' => a' = { tmps := #[Value.agg #[Value.int IntKind.u8 K, Value.int IntKind.i64 d, Value.int IntKind.i64 E, Value.int IntKind.u64 P, Value.int IntKind.u64 Q, Value.int IntKind.u64 G], Value.agg (hdi (Value.slice (some ⟨g, o, none⟩) n m) (Value.slice Ap 0 kp) 0 (0, 0) y).toArray, Value.pointer (some ⟨N, 0, none⟩), Value.pointer (some ⟨N + 1, 0, none⟩), u4, Value.int .i64 (k : Int), Value.pointer (some ⟨N + 1, 0, none⟩), Value.slice (some ⟨g, o, none⟩) n m, Value.int .i64 (n : Int), Value.bool false, Value.bool false, Value.pointer (some ⟨N + 1, 1, none⟩), Value.int .u64 (0 : Int), Value.bool false, Value.bool false, Value.bool false, Value.pointer (some ⟨N + 1, 2, none⟩), Value.slice Ap 0 kp, Value.int .i64 (0 : Int), Value.bool false, Value.bool false, Value.bool false, Value.pointer (some ⟨N + 1, 3, none⟩), Value.agg (kl 0 0).toArray, Value.agg (kl 0 0).toArray, Value.bool false, Value.bool false, Value.int .i64 (k : Int), Value.pointer (some ⟨N + 1, 0, none⟩), Value.slice (some ⟨g, o, none⟩) n m, Value.int .i64 (n : Int), Value.bool true, u32, u33, bif l 0 then Value.agg #[Value.int .u8 K, Value.int .i64 (d : Int), Value.int .i64 E, Value.int .u64 (P : Int), Value.int .u64 (Q : Int), Value.int .u64 (G : Int)] else u34, bif l 1 then Value.pointer (some ⟨N + 1, 0, none⟩) else u35, bif l 2 then Value.slice (some ⟨g, o, none⟩) n m else u36, bif l 3 then Value.int .i64 (k : Int) else u37, bif l 4 then Value.pointer (some ⟨g, o + k * 18, none⟩) else u38, bif l 5 then Value.pointer (some ⟨g, o + k * 18, none⟩) else u39, bif l 6 then Value.agg #[Value.int .i64 a, Value.int .i64 b] else u40, bif l 7 then Value.bool zi else u41, bif l 8 then Value.bool (!zi) else u42], defers := [] } ∧ (Below W2.heap.size W2 w')) ⟨rfl, (HBr.out).drew⟩ ?_ ?_
      · rintro l a' w' i ⟨rfl, hB⟩ hi' hli hpre
        have hi2 : i < 9 := hi'
        have hcase : i = 0 ∨ i = 1 ∨ i = 2 ∨ i = 3 ∨ i = 4 ∨ i = 5 ∨ i = 6 ∨ i = 7 ∨ i = 8 := by omega
        clear hi' hi2
        rcases hcase with rfl | rfl | rfl | rfl | rfl | rfl | rfl | rfl | rfl
        · -- 0: Op.load 28 (Operand.tmp 2)
          refine wpOp_step rfl (fun K' hK => ?_)
          clear hpre
          rw [if_pos (by rfl)]
          refine wp_load_mid 28 _ rfl _ 0 rfl #[Value.int .u8 K, Value.int .i64 (d : Int), Value.int .i64 E, Value.int .u64 (P : Int), Value.int .u64 (Q : Int), Value.int .u64 (G : Int)].toList _ (HE.out.2.2.1.keep hB).range Try.underlying28 rfl sizeSch ?_
          exact hK _ _ ⟨by simp [upd, Act.put], hB⟩
        · -- 1: Op.fieldAddr 59 (Operand.tmp 3) 0
          refine wpOp_step rfl (fun K' hK => ?_)
          clear hpre
          rw [if_pos (by rfl)]
          go_simp
          exact hK _ _ ⟨by simp [upd, Act.put], hB⟩
        · -- 2: Op.load 56 (Operand.tmp 35)
          have p1 : l 1 = true := hpre _ rfl ⟨1, .data⟩ (by simp) rfl
          refine wpOp_step rfl (fun K' hK => ?_)
          simp only [p1, cond_true, cond_false]
          clear hpre
          rw [if_pos (by rfl)]
          have z1 := Hdx.c0 (Blk.keep HE.out.2.2.2 hB)
          go_simp
          exact hK _ _ ⟨by simp [upd, Act.put, p1], hB⟩
        · -- 3: Op.move (Operand.tmp 5)
          refine wpOp_step rfl (fun K' hK => ?_)
          clear hpre
          rw [if_pos (by rfl)]
          go_simp
          exact hK _ _ ⟨by simp [upd, Act.put], hB⟩
        · -- 4: Op.indexAddr 56 (Operand.tmp 36) (Operand.tmp 37)
          have p2 : l 2 = true := hpre _ rfl ⟨2, .data⟩ (by simp) rfl
          have p3 : l 3 = true := hpre _ rfl ⟨3, .data⟩ (by simp) rfl
          refine wpOp_step rfl (fun K' hK => ?_)
          simp only [p2, p3, cond_true, cond_false]
          clear hpre
          rw [if_pos (by rfl)]
          go_simp
          exact hK _ _ ⟨by simp [upd, Act.put, p2, p3], hB⟩
        · -- 5: Op.fieldAddr 112 (Operand.tmp 38) 0
          have p4 : l 4 = true := hpre _ rfl ⟨4, .data⟩ (by simp) rfl
          refine wpOp_step rfl (fun K' hK => ?_)
          simp only [p4, cond_true, cond_false]
          clear hpre
          rw [if_pos (by rfl)]
          go_simp
          exact hK _ _ ⟨by simp [upd, Act.put, p4], hB⟩
        · -- 6: Op.load 35 (Operand.tmp 39)
          have p5 : l 5 = true := hpre _ rfl ⟨5, .data⟩ (by simp) rfl
          refine wpOp_step rfl (fun K' hK => ?_)
          simp only [p5, cond_true, cond_false]
          clear hpre
          rw [if_pos (by rfl)]
          have g0 : w'.cell? ⟨g, o + k * 18, none⟩ = some (.int .i64 a) := HRk.out w' hB 0 _ rfl
          have g1 : w'.cell? ⟨g, o + k * 18 + 1, none⟩ = some (.int .i64 b) := HRk.out w' hB 1 _ rfl
          go_simp
          exact hK _ _ ⟨by simp [upd, Act.put, p5], hB⟩
        · -- 7: Op.call { callee := Callee.value (Operand.func 36), args := 
          have p0 : l 0 = true := hpre _ rfl ⟨0, .data⟩ (by simp) rfl
          have p6 : l 6 = true := hpre _ rfl ⟨6, .data⟩ (by simp) rfl
          refine wpOp_step rfl (fun K' hK => ?_)
          simp only [p0, p6, cond_true, cond_false]
          clear hpre
          rw [if_pos (by rfl)]
          go_simp
          refine (HIk.out _).mono ?_
          rintro e w7 ⟨rfl, hb5'⟩
          exact hK _ _ ⟨by simp [upd, Act.put, p0, p6], (hB).trans (hb5'.mono (hB).size)⟩
        · -- 8: Op.unOp UnOp.not 4 (Operand.tmp 41)
          have p7 : l 7 = true := hpre _ rfl ⟨7, .data⟩ (by simp) rfl
          refine wpOp_step rfl (fun K' hK => ?_)
          simp only [p7, cond_true, cond_false]
          clear hpre
          rw [if_pos (by rfl)]
          go_simp
          exact hK _ _ ⟨by simp [upd, Act.put, p7], hB⟩
      · rintro l a' w9 hall ⟨rfl, hB⟩
        simp only [hall 0 (by decide), hall 1 (by decide), hall 2 (by decide), hall 3 (by decide), hall 4 (by decide), hall 5 (by decide), hall 6 (by decide), hall 7 (by decide), hall 8 (by decide), cond_true]
        clear hall
        have H6 := Lib.hid hB
        clear hB
        rcases zi with _ | _
        · have HF := Lib.hid (HNo.out rfl)
          have H3 := Lib.hid (HEND.out w9 H6.out)
          go_wp2_with fail
          go_ret
          exact ⟨by rw [HF.out]; first | rfl | simp, H3.out⟩
        · have HAy := Lib.hid (HAx.out rfl)
          go_wp2_with fail
          go_roundw
          case rel => exact ⟨k + 1, by omega, by go_num, H6, HAy⟩
          case measure => simp [intOf]; omega
    · obtain rfl : k = n := by omega
      have HF := Lib.hid (HV.out HA.out)
      have H3 := Lib.hid (HEND.out wr HBr.out)
      have l3 : ¬ ((k : Int) < (k : Int)) := by omega
      go_wp2_with fail
      go_ret
      exact ⟨by rw [HF.out]; first | rfl | simp, H3.out⟩
end Go.Proofs.Ytelalpikdidpeaa
