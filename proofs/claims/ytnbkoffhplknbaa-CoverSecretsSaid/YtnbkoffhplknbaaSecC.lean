/-
  lower, the program's.
-/
import Derived.Test.YtnbkoffhplknbaaSecB
import Derived.Test.YtnbkoffhplknbaaPthC
namespace Go.Proofs.Ytnbkoffhplknbaa
open Go.RowKit Go.Shelf TR L2 L2.SP
set_option linter.unusedVariables false
set_option linter.unusedSimpArgs false
attribute [local go_sem] Oper.semAt_some

set_option maxRecDepth 100000 in
set_option maxHeartbeats 400000 in
theorem isLeft_any (v : Nat) (w : World) (hv : v < 256) :
    Calls Try.prog 175 #[.int .i64 (v : Int)] w fun e w' => e = .returned (.bool (v % 2 == 0)) ∧ w = w' := by
  have h0 : (v : Int).tmod 2 = ((v % 2 : Nat) : Int) := rfl
  rcases Nat.mod_two_eq_zero_or_one v with hv2 | hv2
  all_goals
    rw [hv2] at h0 ⊢
    go_enter Try.func175, Try.ntmps175
    go_wp2_with fail
    go_ret
    exact ⟨by first | rfl | (simp; done) | (simp [h0]; done), rfl⟩

theorem wpListIn_load_key {ops : Array Oper} {rest : List Oper} {op : Oper} {a : Act} {w : World} {Q : Exit → Act → World → Prop} (l n : Nat) (hgd : op.guard = none) (x : Operand) (ho : op.op = .load 58 x)
    (b : Nat) (hx : a.eval x = .pointer (some ⟨b, 0, none⟩)) (X Y : Nat) (hc : KeyAt w b X Y)
    (h : wpListIn (Fence.wide.inRound l) n Try.prog ops Q rest (a.put op.dst (.agg (kl X Y).toArray)) w) : wpListIn (Fence.wide.inRound l) n Try.prog ops Q (op :: rest) a w :=
  wpListIn_plain hgd fun K hK => opIn_of_op l n (by rw [ho]; intro c h; cases h) (wp_load_mid 58 x ho b 0 hx (kl X Y) _ hc Try.underlying58 rfl (by rw [kl_len]; exact size23) (hK _ _ h))
theorem wpListIn_store_key {ops : Array Oper} {rest : List Oper} {op : Oper} {a : Act} {w : World} {Q : Exit → Act → World → Prop} (l n : Nat) (hgd : op.guard = none) (x y : Operand) (ho : op.op = .store 58 x y)
    (b : Nat) (X Y : Nat) (hx : a.eval x = .pointer (some ⟨b, 0, none⟩)) (hy : a.eval y = .agg (kl X Y).toArray) (ht : w.there b 0 16)
    (h : wpListIn (Fence.wide.inRound l) n Try.prog ops Q rest (a.put op.dst undef) (w.setCells b 0 (kl X Y))) : wpListIn (Fence.wide.inRound l) n Try.prog ops Q (op :: rest) a w :=
  wpListIn_plain hgd fun K hK => opIn_of_op l n (by rw [ho]; intro c h; cases h) (wp_store_mid 58 x y ho b 0 (kl X Y).toArray hx hy (by simpa [kl_len] using ht) (by simp [kl_len, size23]) (kl_arr X Y) (hK _ _ (by simpa using h)))

theorem pnd_levels (v x a : Nat) (h : a = lv v) (pre : List (Lev (lv x))) (hs : pre.map (·.1) = lvl (a + 1) (lv x + 1 - (a + 1))) : (pre.map (·.1)).map (nat_ x) = pnd v x := by
  rw [hs, h]; unfold pnd; rw [show lv x + 1 - (lv v + 1) = lv x - lv v by omega]

set_option maxRecDepth 100000 in
set_option maxHeartbeats 400000 in
theorem lower_any (p : Nat × Nat) (m x : Nat) (w : World) (hp : Ok p) (hm1 : 1 ≤ m) (hm : m < 256) (hx1 : 1 ≤ x) (hx : x < 256) (hle : lv m ≤ lv x) :
    Calls Try.prog 142 #[.agg (kl p.1 p.2).toArray, .int .i64 (m : Int), .int .i64 (x : Int)] w fun e w' => e = .returned (.agg (kl (dwk p (pnd m x)).1 (dwk p (pnd m x)).2).toArray) ∧ Below w.heap.size w w' := by
  obtain ⟨N, hN⟩ : ∃ N, N = w.heap.size := ⟨_, rfl⟩
  obtain ⟨W2, hW2⟩ : ∃ W2, W2 = (w.alloc (.cells (kl p.1 p.2).toArray 58)).alloc (.cells z16 58) := ⟨_, rfl⟩
  have s2 : W2.heap.size = N + 2 := by rw [hW2, hN]; simp
  have b2 : Below N w W2 := by rw [hW2, hN]; exact (below_alloc _ _).trans ((below_alloc _ _).mono (by simp))
  have e1 : Kbx W2 N p := by rw [hW2, hN]; exact (Blk.new w _ _).keep (below_alloc _ _)
  have e2 : Blk W2 (N + 1) z16 58 := by
    have h := Blk.new (w.alloc (.cells (kl p.1 p.2).toArray 58)) z16 58
    rw [World.size_alloc, ← hN] at h; rw [hW2]; exact h
  have HE := Lib.hid (And.intro s2 (And.intro b2 (And.intro e1 e2)))
  have HLv := Lib.hid (fun w => level_any m w hm1 hm)
  have HOk := Lib.hid (fun (ns : List Nat) => dwk_ok ns hp)
  have HSn := Lib.hid (fun (ns : List Nat) (v : Nat) => dwk_snoc p ns v)
  have HLf := Lib.hid (fun (v : Nat) (w : World) (h : v < 256) => isLeft_any v w h)
  have HDv := Lib.hid (fun (q : Nat × Nat) (t : Nat) (w : World) (h : Ok q) (ht : t < 256) => derive_any q.1 q.2 t 0 w h.1 h.2 ht (by unfold M; omega))
  have HNo := Lib.hid (fun (z : Lev (lv x)) => (nat_ok x z.1 hx1 hx z.2).2.1)
  have hl8 := lv_lt m hm
  obtain ⟨a, ha⟩ : ∃ a, a = lv m := ⟨_, rfl⟩
  have HA := Lib.hid (And.intro ha (And.intro hle (And.intro hx1 hx)))
  rw [← ha] at HLv hl8
  have HN := Lib.hid hN
  have HW := Lib.hid hW2
  rw [← hN]
  obtain ⟨R, hR⟩ : ∃ R, R = dwk p (pnd m x) := ⟨_, rfl⟩
  have HR := Lib.hid hR
  rw [← hR]
  clear hN hW2 s2 b2 e1 e2 hR hle ha hx1 hx hm1 hm hp
  refine (callsIn_wide (n := 4)).1 (callsIn_of_wp_marks Try.func142 rfl trivial ?_ rfl)
  simp only [Try.ntmps142, List.size_toArray, List.length_cons, List.length_nil, Nat.reduceAdd, Nat.reduceSub, Array.replicate_succ, Array.replicate_zero, List.push_toArray, List.append_toArray, List.nil_append, List.cons_append]
  refine wpIn_wide.2 ?_
  go_wp2_with fail
  rw [← HW.out, ← HN.out]
  refine (HLv.out _).mono ?_
  rintro e w' ⟨rfl, rfl⟩
  go_wp2_with fail
  refine (path_any _ _ _).mono ?_
  rintro e w5 ⟨rfl, rfl⟩
  rw [HE.out.1]
  obtain ⟨C, hC⟩ : ∃ C, C = N + 2 := ⟨_, rfl⟩
  rw [← hC]
  obtain ⟨W5, hW5⟩ : ∃ W5, W5 = (W2.alloc (.cells #[.int .i64 (x : Int)] 123)).alloc (.cells #[.int .i64 ((a : Int) + 1)] 3) := ⟨_, rfl⟩
  rw [← hW5]
  have s5 : W5.heap.size = C + 2 := by rw [hW5, hC]; simp [HE.out.1]
  have b25 : Below (N + 2) W2 W5 := by rw [hW5, ← HE.out.1]; exact (below_alloc _ _).trans ((below_alloc _ _).mono (by simp))
  have f1 := HE.out.2.2.1.below b25 (by omega)
  have f2 := HE.out.2.2.2.below b25 (by omega)
  have fC : Box W5 C (.int .i64 (x : Int)) 123 := by rw [hW5, hC, ← HE.out.1]; exact (Box.new W2 (.int .i64 (x : Int)) 123).keep (below_alloc _ _)
  have fC1 : Box W5 (C + 1) (.int .i64 ((a : Int) + 1)) 3 := by
    have h := Box.new (W2.alloc (.cells #[.int .i64 (x : Int)] 123)) (.int .i64 ((a : Int) + 1)) 3
    rw [World.size_alloc, HE.out.1, ← hC] at h; rw [hW5]; exact h
  have HBS := Lib.hid (path_lev 3 (by omega) (C + 1) C x (lv x) (a + 1) W5 HA.out.2.2.1 HA.out.2.2.2 rfl (by have := HA.out; omega) fC.cell (by rw [show ((a + 1 : Nat) : Int) = (a : Int) + 1 by omega]; exact fC1.cell))
  have HE5 := Lib.hid (And.intro s5 (And.intro (HE.out.2.1.trans (b25.mono (by omega))) hC))
  have F5 := Lib.hid (And.intro f1 (And.intro f2 (And.intro fC fC1)))
  clear hW5 hC s5 b25 f1 f2 fC fC1
  go_wp2_with fail
  refine (wpIn_wide (n := 4)).1 ?_
  have hI0 : (Kbx W5 N (dwk p ((([] : List (Lev (lv x))).map (·.1)).map (nat_ x))) ∧ Blk W5 (N + 1) z16 58 ∧ Box W5 C (.int .i64 (x : Int)) 123 ∧ Box W5 (C + 1) (.int .i64 ((a : Int) + 1)) 3) ∧ Below N W5 W5 := ⟨F5.out, Below.refl _ _⟩
  refine wpIn_rangeFunc_ownF rfl (n := 4) (by omega) (gf := 164) (lb := #[.pointer (some ⟨C + 1, 0, none⟩), .pointer (some ⟨C, 0, none⟩)]) rfl trivial (enters_of Try.func164 (by kernel_rfl) rfl)
    HBS.out (fun h k => ⟨k.1.trans h.1, k.2.trans h.2⟩) (fun W l o o' hl _ _ _ => ⟨World.putObj_heap_other (by rw [HE5.out.1] at hl; omega), World.putObj_heap_other (by rw [HE5.out.1] at hl; omega)⟩) (Below.refl _ _) (fun _ => rfl)
    (fun pre W => (Kbx W N (dwk p ((pre.map (·.1)).map (nat_ x))) ∧ Blk W (N + 1) z16 58 ∧ Box W C (.int .i64 (x : Int)) 123 ∧ Box W (C + 1) (.int .i64 ((a : Int) + 1)) 3) ∧ Below N W5 W)
    (fun _ _ _ => False)
    (OwnFrom.and (Own.from (fun s A B' row hs hg hr => ⟨hs.1.kept hg hr, hs.2.1.kept hg hr, hs.2.2.1.kept hg hr, hs.2.2.2.kept hg hr⟩) _) (ownFrom_below (by rw [HE5.out.1]; have := HE5.out.2.2; omega) (by rw [HE5.out.1]; have := HE5.out.2.2; omega)))
    (fun _ _ _ _ _ hs _ _ => hs)
    hI0
    (fun z => { tmps := #[Value.agg (kl p.1 p.2).toArray, Value.int .i64 (m : Int), Value.int .i64 (x : Int), Value.pointer (some ⟨N, 0, none⟩), undef, undef, Value.pointer (some ⟨N + 1, 0, none⟩), Value.int .i64 (nat_ x z.1 : Int), undef, Value.int .i64 (x : Int), Value.int .i64 (m : Int), Value.int .i64 (a : Int), Value.int .i64 ((a : Int) + 1), Value.func (.func 164) #[] #[.pointer (some ⟨C + 1, 0, none⟩), .pointer (some ⟨C, 0, none⟩)], Value.int .i64 (nat_ x z.1 : Int), undef, undef, undef, undef, undef, undef], defers := [] }) ?assign ?body ?done ?stop
  case assign =>
    intro l z W K hK
    unfold lenc
    gi_wp2
    exact hK
  case body =>
    rintro l pre z W ⟨⟨h1, h2, h3, h4⟩, hB⟩ _
    obtain ⟨ns, hns⟩ : ∃ ns, ns = (pre.map (·.1)).map (nat_ x) := ⟨_, rfl⟩
    have hfin : ((pre ++ [z]).map (·.1)).map (nat_ x) = ns ++ [nat_ x z.1] := by rw [hns, List.map_append, List.map_append]; rfl
    rw [← hns] at h1
    have hz256 : nat_ x z.1 < 256 := by have := HNo.out z; have := HA.out; omega
    have hok := HOk.out ns
    have hsn := HSn.out ns (nat_ x z.1)
    rw [← hfin] at hsn
    obtain ⟨q, hq⟩ : ∃ q, q = dwk p ns := ⟨_, rfl⟩
    rw [← hq] at h1 hok hsn
    obtain ⟨v, hv⟩ : ∃ v, v = nat_ x z.1 := ⟨_, rfl⟩
    rw [← hv] at hz256 hsn ⊢
    have HLv2 := Lib.hid (fun w => HLf.out v w hz256)
    have HDq : Hid (∀ (t : Nat) (w : World), t < 256 → Calls Try.prog 63 #[.agg (kl q.1 q.2).toArray, .int .u8 (t : Int), .int .u64 0] w fun e w' => e = .returned (.agg (kl (drv q.1 q.2 t 0).1 (drv q.1 q.2 t 0).2).toArray) ∧ Below w.heap.size w w') := Lib.hid (fun t w ht => HDv.out q t w hok ht)
    have HFin := Lib.hid hsn
    have HK := Lib.hid (And.intro h1 (And.intro h2 (And.intro h3 h4)))
    have HBW := Lib.hid hB
    have hsz : N + 2 ≤ W.heap.size := by have := hB.size; rw [HE5.out.1] at this; have := HE5.out.2.2; omega
    have HSz := Lib.hid hsz
    have END : ∀ (s : Nat × Nat) (w5 : World), s = skp q v → Below W.heap.size W w5 → KeepsOthers W (w5.setCells N 0 (kl s.1 s.2)) ∧ Kp2 (C + 1) C W (w5.setCells N 0 (kl s.1 s.2)) ∧ (Kbx (w5.setCells N 0 (kl s.1 s.2)) N (dwk p (((pre ++ [z]).map (·.1)).map (nat_ x))) ∧ Blk (w5.setCells N 0 (kl s.1 s.2)) (N + 1) z16 58 ∧ Box (w5.setCells N 0 (kl s.1 s.2)) C (.int .i64 (x : Int)) 123 ∧ Box (w5.setCells N 0 (kl s.1 s.2)) (C + 1) (.int .i64 ((a : Int) + 1)) 3) ∧ Below N W5 (w5.setCells N 0 (kl s.1 s.2)) := fun s w5 hs hb => by
      have hC := HE5.out.2.2
      have g3 := Blk.setCells_other (HK.out.2.2.1.keep hb).blk N (kl s.1 s.2) (by omega)
      have g4 := Blk.setCells_other (HK.out.2.2.2.keep hb).blk N (kl s.1 s.2) (by omega)
      refine ⟨(keeps_below hb).trans (keeps_setCells _ _ _ _), ⟨g4.trans HK.out.2.2.2.symm, g3.trans HK.out.2.2.1.symm⟩, ⟨?_, Blk.setCells_other (HK.out.2.1.keep hb) N _ (by omega), g3, g4⟩, below_setCells _ _ _ _ (HBW.out.trans (hb.mono (by have := HSz.out; omega))) (Nat.le_refl _)⟩
      rw [HFin.out, ← hs]
      exact Kbx.stored (HK.out.1.keep hb) Kbx.size s
    have HEND := Lib.hid END
    have hkey := HK.out.1.at_
    have HT : Hid (∀ w5, Below W.heap.size W w5 → w5.there N 0 16) := Lib.hid (fun w5 hb => Kbx.there_ (HK.out.1.keep hb))
    clear END h1 h2 h3 h4 hB hsn hok hq hv hfin hns hsz
    have HKey := Lib.hid hkey
    clear hkey
    gi_wp2_with fail
    refine ⟨trivial, (CallsIn.inRound l (callsIn_wide.2 (HLv2.out _))).mono ?_⟩
    rintro e w' ⟨rfl, rfl⟩
    rcases Nat.mod_two_eq_zero_or_one v with hv2 | hv2
    · have HS : Hid (drv q.1 q.2 31 0 = skp q v) := Lib.hid (by unfold skp; rw [if_pos hv2])
      have HD31 := Lib.hid (fun w => HDq.out 31 w (by omega))
      rw [hv2]
      clear hv2
      gi_wp2_with (refine wpListIn_load_key l _ rfl _ rfl _ rfl q.1 q.2 HKey.out ?_)
      refine ⟨trivial, (CallsIn.inRound l (callsIn_wide.2 (HD31.out _))).mono ?_⟩
      rintro e w5 ⟨rfl, hb5⟩
      have HT5 := Lib.hid (HT.out w5 hb5)
      have HE9 := Lib.hid (HEND.out _ w5 HS.out hb5)
      clear hb5
      gi_wp2_with (refine wpListIn_store_key l _ rfl _ _ rfl N _ _ rfl rfl HT5.out ?_)
      exact HE9.out
    · have HS : Hid (drv q.1 q.2 32 0 = skp q v) := Lib.hid (by unfold skp; rw [if_neg (by omega)])
      have HD32 := Lib.hid (fun w => HDq.out 32 w (by omega))
      rw [hv2]
      clear hv2
      gi_wp2_with (refine wpListIn_load_key l _ rfl _ rfl _ rfl q.1 q.2 HKey.out ?_)
      refine ⟨trivial, (CallsIn.inRound l (callsIn_wide.2 (HD32.out _))).mono ?_⟩
      rintro e w5 ⟨rfl, hb5⟩
      have HT5 := Lib.hid (HT.out w5 hb5)
      have HE9 := Lib.hid (HEND.out _ w5 HS.out hb5)
      clear hb5
      gi_wp2_with (refine wpListIn_store_key l _ rfl _ _ rfl N _ _ rfl rfl HT5.out ?_)
      exact HE9.out
  case done =>
    rintro D ys W hD hys ⟨⟨h1, h2, h3, h4⟩, hB⟩ hK
    rw [pnd_levels m x a HA.out.1 ys hys, ← HR.out] at h1
    have HKey := Lib.hid (Kbx.at_ h1)
    have hT : W.there (N + 1) 0 16 := by have h := h2.there; simpa using h
    have HT := Lib.hid hT
    have HKD := Lib.hid hK
    have HBl := Lib.hid hB
    have HDD := Lib.hid hD
    clear h1 h2 h3 h4 hB hK hD hys hT
    go_wp2_with (first
      | (refine wpList_load_key rfl _ rfl _ rfl R.1 R.2 HKey.out ?_)
      | (refine wpList_store_key rfl _ _ rfl (N + 1) R.1 R.2 rfl rfl HT.out ?_))
    have hne : D ≠ N + 1 := by have := HDD.out; rw [HE5.out.1] at this; have := HE5.out.2.2; omega
    have hK3 : (W.setCells (N + 1) 0 (kl R.1 R.2)).heap[D]? = some (.deferred (some [])) := (heap_setCells_ne _ _ _ _ D hne).trans HKD.out
    refine ⟨by simp, .inl ⟨_, _, rfl, run_takeDeferred hK3, ?_⟩⟩
    refine ⟨_, results_key rfl _ _ (N + 1) R.1 R.2 rfl ((KeyAt.stored HT.out _ _).grown (grownBy_putObj' _ D _) (by show some (N + 1) ≠ some D; intro h; injection h with h; exact hne h.symm)), rfl, ?_⟩
    have hb3 : Below N w (W.setCells (N + 1) 0 (kl R.1 R.2)) := below_setCells _ _ _ _ (HE5.out.2.1.trans HBl.out) (by omega)
    exact hb3.trans (belowK_b (w := w) (by rw [HN.out]; exact Nat.le_refl _) _ D _ _ (by have := HDD.out; have := HE5.out; have := HN.out; omega) hK3 rfl rfl)
  case stop =>
    rintro D c pre W _ _ h _
    exact h.elim
end Go.Proofs.Ytnbkoffhplknbaa
