/-
  Texts joined into one: SmT, SlC, WkSeals, OpnA, OpnB, OpnC, Twh, WkOpens.
-/
import Derived.Test.YtchkgccnipejhaaJB
import Derived.Test.YtchkgccnipejhaaJR
import Derived.Test.YtchkgccnipejhaaJI
import Derived.Deep.AppendSrc

/-
  Equal slices of subsets, of which one begins anywhere.
-/
namespace Go.Proofs.Ytchkgccnipejhaa
open Go.RowKit TR
set_option linter.unusedVariables false
set_option linter.unusedSimpArgs false

set_option maxRecDepth 100000 in
set_option maxHeartbeats 1000000 in
theorem sameSubs_gen (aa ab : Option Addr) (ga gb ob n ca cb : Nat) (F1 F2 : Nat → Int) (w : World) (hn : n ≤ 8796093022208) (hca : n ≤ ca) (hcb : n ≤ cb) (hca2 : ca ≤ maxLen) (hcb2 : cb ≤ maxLen) (had : n = 0 ∨ (aa = some ⟨ga, 0, none⟩ ∧ ab = some ⟨gb, ob, none⟩))
    (hc1 : ∀ i, i < n → (w.cell? ⟨ga, i * 2, none⟩ = some (.int .i64 (F1 i)) ∧ w.cell? ⟨ga, i * 2 + 1, none⟩ = some (.int .i64 (F2 i))) ∧ (w.cell? ⟨gb, ob + i * 2, none⟩ = some (.int .i64 (F1 i)) ∧ w.cell? ⟨gb, ob + i * 2 + 1, none⟩ = some (.int .i64 (F2 i)))) :
    Calls Try.prog 23 #[.slice aa n ca, .slice ab n cb] w fun e w' => e = .returned (.bool true) ∧ Below w.heap.size w w' := by
  obtain ⟨N, hN⟩ : ∃ N, N = w.heap.size := ⟨_, rfl⟩
  have HC : Hid (∀ w1, Below N w w1 → ∀ i, i < n → (w1.cell? ⟨ga, i * 2, none⟩ = some (.int .i64 (F1 i)) ∧ w1.cell? ⟨ga, i * 2 + 1, none⟩ = some (.int .i64 (F2 i))) ∧ (w1.cell? ⟨gb, ob + i * 2, none⟩ = some (.int .i64 (F1 i)) ∧ w1.cell? ⟨gb, ob + i * 2 + 1, none⟩ = some (.int .i64 (F2 i)))) := Lib.hid (fun w1 hb i hi => by
    have k : ∀ (p : Addr) v, w.cell? p = some v → w1.cell? p = some v := fun p v hv => (hb.cell (p := p) (by rw [hN]; exact World.block_lt_of_cell? w _ hv)).trans hv
    exact ⟨⟨k _ _ (hc1 i hi).1.1, k _ _ (hc1 i hi).1.2⟩, k _ _ (hc1 i hi).2.1, k _ _ (hc1 i hi).2.2⟩)
  have hm : n ≤ 9223372036854775807 := by unfold maxLen at hca2; omega
  have HAD := Lib.hid had
  have HN := Lib.hid hN
  rw [← hN]
  clear hN hc1 had hca2 hcb2
  go_enter Try.func23, Try.ntmps23
  go_wp2_with fail
  go_loopw [5] (fun i wr => ∃ (k : Nat), k ≤ n ∧ i = .int .i64 (k : Int) ∧ Hid (Below N w wr)) (fun i _ => n - (intOf i).toNat)
  case atStart => exact ⟨0, by omega, rfl, Lib.hid (Below.refl _ _)⟩
  case round =>
    obtain ⟨k, hk, rfl, HBr⟩ := hrel
    by_cases hlt : k < n
    · rcases HAD.out with h0 | ⟨rfl, rfl⟩
      · omega
      have l1 : (0 : Int) ≤ (k : Int) := by omega
      have l2 : (k : Int) < (n : Int) := by omega
      have HBd : Hid (Below N w wr.drew) := Lib.hid HBr.out.drew
      have HCk := Lib.hid (HC.out _ HBd.out k hlt)
      obtain ⟨x, hx⟩ : ∃ x, x = F1 k := ⟨_, rfl⟩
      obtain ⟨y, hy⟩ : ∃ y, y = F2 k := ⟨_, rfl⟩
      rw [← hx, ← hy] at HCk
      clear hx hy
      go_wp2_with fail
      refine wp_region_inv (by kernel_rfl) (by kernel_rfl) (fun l a' w' => a' = { tmps := #[Value.slice (some ⟨ga, 0, none⟩) n ca, Value.slice (some ⟨gb, ob, none⟩) n cb, undef, undef, u4, Value.int .i64 (k : Int), Value.slice (some ⟨ga, 0, none⟩) n ca, Value.int .i64 (n : Int), Value.slice (some ⟨gb, ob, none⟩) n cb, Value.int .i64 (n : Int), Value.bool false, Value.int .i64 (k : Int), Value.slice (some ⟨ga, 0, none⟩) n ca, Value.int .i64 (n : Int), Value.bool true, u15, u16, bif l 0 then Value.slice (some ⟨ga, 0, none⟩) n ca else u17, bif l 1 then Value.int .i64 (k : Int) else u18, bif l 2 then Value.pointer (some ⟨ga, k * 2, none⟩) else u19, bif l 3 then Value.agg #[.int .i64 x, .int .i64 y] else u20, bif l 4 then Value.slice (some ⟨gb, ob, none⟩) n cb else u21, bif l 5 then Value.int .i64 (k : Int) else u22, bif l 6 then Value.pointer (some ⟨gb, ob + k * 2, none⟩) else u23, bif l 7 then Value.agg #[.int .i64 x, .int .i64 y] else u24, bif l 8 then Value.bool false else u25], defers := [] } ∧ w' = wr.drew) ⟨rfl, rfl⟩ ?_ ?_
      · rintro l a' w' i ⟨rfl, rfl⟩ hi hli hpre
        have hi2 : i < 9 := hi
        have hcase : i = 0 ∨ i = 1 ∨ i = 2 ∨ i = 3 ∨ i = 4 ∨ i = 5 ∨ i = 6 ∨ i = 7 ∨ i = 8 := by omega
        clear hi hi2
        rcases hcase with rfl | rfl | rfl | rfl | rfl | rfl | rfl | rfl | rfl
        · -- 0: Op.move (Operand.tmp 0)
          refine wpOp_step rfl (fun K' hK => ?_)
          clear hpre
          rw [if_pos (by rfl)]
          go_simp
          exact hK _ _ ⟨by simp [upd, Act.put], rfl⟩
        · -- 1: Op.move (Operand.tmp 5)
          refine wpOp_step rfl (fun K' hK => ?_)
          clear hpre
          rw [if_pos (by rfl)]
          go_simp
          exact hK _ _ ⟨by simp [upd, Act.put], rfl⟩
        · -- 2: Op.indexAddr 57 (Operand.tmp 17) (Operand.tmp 18)
          have p0 : l 0 = true := hpre _ rfl ⟨0, .data⟩ (by simp) rfl
          have p1 : l 1 = true := hpre _ rfl ⟨1, .data⟩ (by simp) rfl
          refine wpOp_step rfl (fun K' hK => ?_)
          simp only [p0, p1, cond_true, cond_false]
          clear hpre
          rw [if_pos (by rfl)]
          have l1 : (0 : Int) ≤ (k : Int) := by omega
          have l2 : (k : Int) < (n : Int) := by omega
          go_simp
          exact hK _ _ ⟨by simp [upd, Act.put, p0, p1], rfl⟩
        · -- 3: Op.load 3 (Operand.tmp 19)
          have p2 : l 2 = true := hpre _ rfl ⟨2, .data⟩ (by simp) rfl
          refine wpOp_step rfl (fun K' hK => ?_)
          simp only [p2, cond_true, cond_false]
          clear hpre
          rw [if_pos (by rfl)]
          have z1 := HCk.out.1.1
          have z2 := HCk.out.1.2
          go_simp
          exact hK _ _ ⟨by simp [upd, Act.put, p2], rfl⟩
        · -- 4: Op.move (Operand.tmp 1)
          refine wpOp_step rfl (fun K' hK => ?_)
          clear hpre
          rw [if_pos (by rfl)]
          go_simp
          exact hK _ _ ⟨by simp [upd, Act.put], rfl⟩
        · -- 5: Op.move (Operand.tmp 5)
          refine wpOp_step rfl (fun K' hK => ?_)
          clear hpre
          rw [if_pos (by rfl)]
          go_simp
          exact hK _ _ ⟨by simp [upd, Act.put], rfl⟩
        · -- 6: Op.indexAddr 57 (Operand.tmp 21) (Operand.tmp 22)
          have p4 : l 4 = true := hpre _ rfl ⟨4, .data⟩ (by simp) rfl
          have p5 : l 5 = true := hpre _ rfl ⟨5, .data⟩ (by simp) rfl
          refine wpOp_step rfl (fun K' hK => ?_)
          simp only [p4, p5, cond_true, cond_false]
          clear hpre
          rw [if_pos (by rfl)]
          have l1 : (0 : Int) ≤ (k : Int) := by omega
          have l2 : (k : Int) < (n : Int) := by omega
          go_simp
          exact hK _ _ ⟨by simp [upd, Act.put, p4, p5], rfl⟩
        · -- 7: Op.load 3 (Operand.tmp 23)
          have p6 : l 6 = true := hpre _ rfl ⟨6, .data⟩ (by simp) rfl
          refine wpOp_step rfl (fun K' hK => ?_)
          simp only [p6, cond_true, cond_false]
          clear hpre
          rw [if_pos (by rfl)]
          have z1 := HCk.out.2.1
          have z2 := HCk.out.2.2
          go_simp
          exact hK _ _ ⟨by simp [upd, Act.put, p6], rfl⟩
        · -- 8: Op.binOp BinOp.neq 3 (Operand.tmp 20) (Operand.tmp 24) 3
          have p3 : l 3 = true := hpre _ rfl ⟨3, .data⟩ (by simp) rfl
          have p7 : l 7 = true := hpre _ rfl ⟨7, .data⟩ (by simp) rfl
          refine wpOp_step rfl (fun K' hK => ?_)
          simp only [p3, p7, cond_true, cond_false]
          clear hpre
          rw [if_pos (by rfl)]
          go_simp
          exact hK _ _ ⟨by simp [upd, Act.put, p3, p7], rfl⟩
      · rintro l a' w9 hall ⟨rfl, rfl⟩
        simp only [hall 0 (by decide), hall 1 (by decide), hall 2 (by decide), hall 3 (by decide), hall 4 (by decide), hall 5 (by decide), hall 6 (by decide), hall 7 (by decide), hall 8 (by decide), cond_true]
        clear hall
        go_wp2_with fail
        go_roundw
        case rel => exact ⟨k + 1, by omega, by go_num, HBd⟩
        case measure => simp [intOf]; omega
    · obtain rfl : n = k := by omega
      go_wp2_with fail
      go_ret
      exact ⟨rfl, HBr.out⟩
end Go.Proofs.Ytchkgccnipejhaa

/-
  Appending in general; subsets that come in; rows of items.
-/
namespace Go.Proofs.Ytchkgccnipejhaa
open Go.ChangeShapes Go.WideShapes Go.ChangeAt Go.RowKit Go.Joins TR L2 L2.SP
set_option linter.unusedVariables false
set_option linter.unusedSimpArgs false

theorem append_nil {T e : TypeId} {i0 : TypeInfo} {size : Nat} (ht : Try.prog.underlying T = some (.slice e)) (hi : Try.prog.info? e = some i0) (hsize : i0.size = size) {w : World} {base n c : Nat} {v : Value} {xs : List Value} (ho : w.ownsRow base e size v n xs) (ty : TypeId) :
    (Builtin.append_ #[T, T] ty #[v, .slice none 0 c]).run Try.prog w = .ok v w := by
  rcases ho.2 with ⟨rfl, rfl⟩ | ⟨g, cap, cur, rfl, h1, h2, h3, h4, h5, h6⟩
  · simp [Builtin.append_, run_underlying ht, sizeOf, typeInfo, hi, Builtin.lenOf, Builtin.firstCells]
  · have h := run_append_room_src (P := Try.prog) (w := w) T T ty e i0 ht hi g 0 n cap (.slice none 0 c) 0 [] (Src.ofNil _ ht c) (by omega) (fun j hj => by simp at hj) (fun j hj => by simp at hj)
    simpa [World.setCells] using h
/-- 'append(v, l...)', where v is a row of one's own and l comes from anywhere. -/
theorem append_run {T e : TypeId} {i0 : TypeInfo} {z : Value} {size bytes : Nat} (ht : Try.prog.underlying T = some (.slice e)) (hi : Try.prog.info? e = some i0) (hz : i0.zero = some z) (hsize : i0.size = size) (hby : i0.bytes = bytes) (hzs : z.cells.size = size) (hsz : 0 < size) (ty : TypeId)
    (w : World) (base n m c : Nat) (v : Value) (xs news : List Value) (A : Option Addr) (ho : w.ownsRow base e size v n xs) (hA : A = none → m = 0) (hnews : ∀ ad, A = some ad → ∀ j u, news[j]? = some u → w.cell? (ad.add j) = some u)
    (hl : news.length = m * size) (h1 : ∀ u ∈ news, u.oneCell' = true) (h63 : n + m ≤ maxLen) (hbytes : (n + m) * bytes ≤ 140737488355328) (hbase : base ≤ w.heap.size) :
    ∃ v' w', (Builtin.append_ #[T, T] ty #[v, .slice A m c]).run Try.prog w = .ok v' w' ∧ w'.ownsRow base e size v' (n + m) (xs ++ news) ∧ w.grownBy w' v.ownBlock := by
  rcases A with _ | ad
  · obtain rfl := hA rfl
    obtain rfl : news = [] := List.eq_nil_of_length_eq_zero (by rw [hl, Nat.zero_mul])
    exact ⟨v, w, append_nil ht hi hsize ho ty, by simpa using ho, grownBy_refl _ _⟩
  · obtain ⟨v', w', hr, h2, h3, _⟩ := run_append_own (P := Try.prog) w base T ty e i0 z size bytes ht hi hz hsize hby hzs hsz v n xs ho ad m c news hl (hnews ad rfl) h1 h63 hbytes hbase
    exact ⟨v', w', hr, h2, h3⟩

/-- A row of items of one's own, by its labels. -/
theorem own_items {w : World} {B e n : Nat} {v : Value} {F : Nat → Int × Int × (Nat × Nat)} (h : w.ownsRow B e 18 v n (lbF F n)) : ∃ A c, v = .slice A n c ∧ n ≤ c ∧ (n = 0 ∨ ∃ g, A = some ⟨g, 0, none⟩ ∧ B ≤ g ∧ ∀ i, i < n → w.rangeAt g (i * 18) (lbl (F i).1 (F i).2.1 (F i).2.2)) := by
  obtain ⟨A, c, rfl, hc, hk⟩ := own_cap h
  refine ⟨A, c, rfl, hc, ?_⟩
  rcases hk with h0 | ⟨g, h1, h2, h3, h4, _⟩
  · exact .inl h0
  · refine .inr ⟨g, h1, h2, fun i hi j u hu => ?_⟩
    have hj : j < 18 := by have := (List.getElem?_eq_some_iff.1 hu).1; rwa [lbl_len] at this
    exact h4 (i * 18 + j) u (by rw [lbF_get F n i j hi hj]; exact hu)
/-- The cells of some subsets. -/
def sbF (f : Nat → Int × Int) (n : Nat) : List Value := (List.range n).flatMap fun i => [.int .i64 (f i).1, .int .i64 (f i).2]
theorem sbF_succ (f : Nat → Int × Int) (n : Nat) : sbF f (n + 1) = sbF f n ++ [.int .i64 (f n).1, .int .i64 (f n).2] := by
  unfold sbF; rw [List.range_succ, List.flatMap_append]; simp
theorem sbF_len (f : Nat → Int × Int) : ∀ n, (sbF f n).length = n * 2
  | 0 => rfl
  | n + 1 => by rw [sbF_succ, List.length_append, sbF_len f n]; simp; omega
theorem sbF_one (f : Nat → Int × Int) (n : Nat) : ∀ u ∈ sbF f n, u.oneCell' = true := by
  intro u hu
  unfold sbF at hu
  rw [List.mem_flatMap] at hu
  obtain ⟨i, _, h⟩ := hu
  simp at h
  rcases h with rfl | rfl <;> rfl
theorem sbF_get (f : Nat → Int × Int) : ∀ (n i : Nat), i < n → (sbF f n)[i * 2]? = some (.int .i64 (f i).1) ∧ (sbF f n)[i * 2 + 1]? = some (.int .i64 (f i).2)
  | 0, i, h => absurd h (by omega)
  | n + 1, i, h => by
    rw [sbF_succ]
    rcases Nat.lt_or_ge i n with h1 | h1
    · rw [List.getElem?_append_left (by rw [sbF_len]; omega), List.getElem?_append_left (by rw [sbF_len]; omega)]
      exact sbF_get f n i h1
    · obtain rfl : i = n := by omega
      rw [List.getElem?_append_right (by rw [sbF_len]; omega), List.getElem?_append_right (by rw [sbF_len]; omega), sbF_len]
      constructor
      · rw [Nat.sub_self]; rfl
      · rw [show i * 2 + 1 - i * 2 = 1 by omega]; rfl
theorem bytes56 : Try.prog.bytesOf 56 = 16 := by kernel_rfl
set_option maxRecDepth 100000 in
/-- A list of subsets that comes in. -/
theorem open_subs {H : Type} {enc : TypeId × Value → H} {W : World} {base : Nat} {sp : Nat → Bool} {v : Value} {d : DataW H} {p : List MemPlace}
    (hok : Value.okWide Try.prog W .any base 47 v) (h : DataW.Trod enc Try.prog W 0 sp true 47 v d p) : ∃ (A : Option Addr) (g o n c : Nat) (f : Nat → Int × Int), v = .slice A n c ∧ n ≤ c ∧ c ≤ maxLen ∧ (n = 0 ∨ A = some ⟨g, o, none⟩) ∧ (∀ i, i < n → W.cell? ⟨g, o + i * 2, none⟩ = some (.int .i64 (f i).1) ∧ W.cell? ⟨g, o + i * 2 + 1, none⟩ = some (.int .i64 (f i).2)) ∧ (n = 0 ∨ ∃ elems spare, d = .slice elems spare ∧ elems.length = n) := by
  obtain ⟨A, n, c, rfl⟩ := okWide_slice Try.underlying47 hok
  obtain ⟨fuel, hf⟩ := h
  rcases Go.Deep.open_slice Try.underlying47 hf with ⟨hc, hy⟩ | ⟨a, len, cap, m', k2, D, Pl, hc, _, hl, hm, hm', hy, hel⟩
  · simp [Value.cells] at hc
    obtain ⟨rfl, rfl, rfl⟩ := hc
    exact ⟨none, 0, 0, 0, 0, fun _ => (0, 0), rfl, Nat.le_refl _, by simp [maxLen], .inl rfl, fun i hi => by omega, .inl rfl⟩
  · simp [Value.cells] at hc
    obtain ⟨rfl, rfl, rfl⟩ := hc
    have hml : n ≤ m' := by rw [hm']; split <;> omega
    rcases Nat.eq_zero_or_pos n with h0 | h0
    · exact ⟨some a, 0, 0, n, c, fun _ => (0, 0), rfl, hl, hm, .inl h0, fun i hi => by omega, .inl h0⟩
    · obtain ⟨F, hF⟩ := Go.Deep.choose_lt (α := Int × Int) (n := n) (p := fun i y => W.cell? (a.add (i * 2)) = some (.int .i64 y.1) ∧ W.cell? (a.add (i * 2 + 1)) = some (.int .i64 y.2)) (fun i hi => by
        obtain ⟨cs', h5, h6⟩ := hel i (by omega)
        rw [cells56] at h5
        obtain ⟨_, h7, h8⟩ := World.cells?_some h5
        obtain ⟨c0, c1, rfl⟩ : ∃ c0 c1, cs' = [c0, c1] := by
          match cs', h7 with
          | [c0, c1], _ => exact ⟨c0, c1, rfl⟩
        obtain ⟨y0, y1, n9, _, _, g0, g1⟩ := Go.ChangeShapes.trod_struct2 Try.underlying56 h6
        simp [cells3] at g0 g1
        obtain ⟨D1, e1, -, u1⟩ := DataW.trod_int Try.underlying3 g0
        obtain ⟨E1, e2, -, u2⟩ := DataW.trod_int Try.underlying3 g1
        simp only [List.cons.injEq, and_true] at e1 e2
        subst e1 e2
        have q0 := h8 0 (by omega)
        have q1 := h8 1 (by omega)
        rw [Go.Deep.add_add] at q0 q1
        exact ⟨(D1, E1), q0, q1⟩)
      have h3 : W.cell? (a.add (0 * 2)) = some (.int .i64 (F 0).1) := (hF 0 h0).1
      have hs : a.spot = none := by simpa [Addr.add] using World.cell?_spot h3
      refine ⟨some a, a.block, a.off, n, c, F, rfl, hl, hm, .inr (by cases a; simp_all), fun i hi => ?_, .inr ⟨_, _, by simp only [Prod.mk.injEq] at hy; rw [hy.1], by simp⟩⟩
      have h4 := hF i hi
      obtain ⟨ab, ao, asp⟩ := a
      simp only at hs
      subst hs
      rw [Addr.add_mid, Addr.add_mid] at h4
      exact ⟨h4.1, by have h5 := h4.2; rw [show ao + (i * 2 + 1) = ao + i * 2 + 1 by omega] at h5; exact h5⟩
end Go.Proofs.Ytchkgccnipejhaa

/-
  The walk through the law of sealing.
-/
namespace Go.Proofs.Ytchkgccnipejhaa
open Go.RowKit TR L2 L2.SP
set_option linter.unusedVariables false
set_option linter.unusedSimpArgs false

theorem hdrbox (w : World) (iv pv : Value) (B : Int) (x y : Nat × Nat) : (w.alloc (.cells z35 28)).there w.heap.size 0 35 ∧ Hdx ((w.alloc (.cells z35 28)).setCells w.heap.size 0 (hdi iv pv B x y)) w.heap.size iv pv B x y ∧ Below w.heap.size w ((w.alloc (.cells z35 28)).setCells w.heap.size 0 (hdi iv pv B x y)) ∧ ((w.alloc (.cells z35 28)).setCells w.heap.size 0 (hdi iv pv B x y)).heap.size = w.heap.size + 1 := by
  have hA := Blk.new w z35 28
  exact ⟨hA.there, Hdx.stored hA z35_size _ _ _ _ _, below_setCells _ _ _ _ (below_alloc _ _) (Nat.le_refl _), by rw [size_setCells]; simp⟩

end Go.Proofs.Ytchkgccnipejhaa

/-
  Headers of a valid scheme, the program's and the specification's.
-/
namespace Go.Proofs.Ytchkgccnipejhaa
open Go.RowKit TR L2 L2.SP
set_option linter.unusedVariables false
set_option linter.unusedSimpArgs false

theorem wpList_store_itm {ops : Array Oper} {rest : List Oper} {op : Oper} {a : Act} {w : World} {Q : Exit → Act → World → Prop} (hgd : op.guard = none) (x y : Operand) (ho : op.op = .store 90 x y)
    (b : Nat) (v z : Int) (p : Nat × Nat) (hx : a.eval x = .pointer (some ⟨b, 0, none⟩)) (hy : a.eval y = .agg (lbl v z p).toArray) (ht : w.there b 0 18)
    (h : wpList Try.prog ops Q rest (a.put op.dst undef) (w.setCells b 0 (lbl v z p))) : wpList Try.prog ops Q (op :: rest) a w :=
  wpList_store_mid hgd 90 x y ho b 0 (lbl v z p).toArray hx hy (by simpa [lbl_len] using ht) (by simp [lbl_len, sizeItm]) (lbl_arr v z p) (by simpa using h)
theorem wpList_load_itmo {ops : Array Oper} {rest : List Oper} {op : Oper} {a : Act} {w : World} {Q : Exit → Act → World → Prop} (hgd : op.guard = none) (x : Operand) (ho : op.op = .load 90 x)
    (b o : Nat) (hx : a.eval x = .pointer (some ⟨b, o, none⟩)) (v z : Int) (p : Nat × Nat) (hc : w.rangeAt b o (lbl v z p))
    (h : wpList Try.prog ops Q rest (a.put op.dst (.agg (lbl v z p).toArray)) w) : wpList Try.prog ops Q (op :: rest) a w :=
  wpList_load_mid hgd 90 x ho b o hx (lbl v z p) _ hc Try.underlying90 rfl (by rw [lbl_len]; exact sizeItm) h
theorem wpList_buildKey0_on {ops : Array Oper} {rest : List Oper} {op : Oper} {a : Act} {w : World} {Q : Exit → Act → World → Prop} (hw : Region.wanted op (yielded ops a.tmps) = true) (ho : op.op = .build 26 #[])
    (h : wpList Try.prog ops Q rest (a.put op.dst (.agg (kl 0 0).toArray)) w) : wpList Try.prog ops Q (op :: rest) a w :=
  wpList_step fun K hK => by rw [if_pos hw]; exact wp_buildKey0 ho (hK _ _ h)
/-- An item in a block of its own. -/
abbrev Itx (w : World) (b : Nat) (v x : Int) (p : Nat × Nat) : Prop := Blk w b (lbl v x p).toArray 90
theorem itmbox (w : World) (v x : Int) (p : Nat × Nat) : (w.alloc (.cells lz18 90)).there w.heap.size 0 18 ∧ Itx ((w.alloc (.cells lz18 90)).setCells w.heap.size 0 (lbl v x p)) w.heap.size v x p ∧ Below w.heap.size w ((w.alloc (.cells lz18 90)).setCells w.heap.size 0 (lbl v x p)) ∧ ((w.alloc (.cells lz18 90)).setCells w.heap.size 0 (lbl v x p)).heap.size = w.heap.size + 1 := by
  have hA := Blk.new w lz18 90
  exact ⟨hA.there, Blk.setAll hA _ (by rw [lbl_len]; rfl), below_setCells _ _ _ _ (below_alloc _ _) (Nat.le_refl _), by rw [size_setCells]; simp⟩
/-- Whether a header is one of the scheme. -/
def hvb (K : Int) (d n : Nat) (B : Int) (np : Nat) (x : Nat × Nat) (F : Nat → Int × Int × (Nat × Nat)) : Bool := decide (n ≤ 64) && (decide (B = 0) && (decide (np = 0) && (decide (x = (0, 0)) && (List.range n).all fun i => isb K d (F i).1 (F i).2.1)))
theorem hvb_all {K : Int} {d n : Nat} {B : Int} {np : Nat} {x : Nat × Nat} {F : Nat → Int × Int × (Nat × Nat)} (h1 : n ≤ 64) (h2 : B = 0) (h3 : np = 0) (h4 : x = (0, 0)) (h5 : ∀ i, i < n → isb K d (F i).1 (F i).2.1 = true) : hvb K d n B np x F = true := by
  unfold hvb
  rw [decide_eq_true h1, decide_eq_true h2, decide_eq_true h3, decide_eq_true h4, Bool.true_and, Bool.true_and, Bool.true_and, Bool.true_and, List.all_eq_true]
  exact fun i hi => h5 i (List.mem_range.1 hi)
theorem hvb_no {K : Int} {d n : Nat} {B : Int} {np : Nat} {x : Nat × Nat} {F : Nat → Int × Int × (Nat × Nat)} (h : ¬ (n ≤ 64 ∧ B = 0 ∧ np = 0 ∧ x = (0, 0) ∧ ∀ i, i < n → isb K d (F i).1 (F i).2.1 = true)) : hvb K d n B np x F = false := by
  rw [Bool.eq_false_iff]
  intro h2
  apply h
  unfold hvb at h2
  simp only [Bool.and_eq_true, decide_eq_true_eq, List.all_eq_true, List.mem_range] at h2
  exact ⟨h2.1, h2.2.1, h2.2.2.1, h2.2.2.2.1, h2.2.2.2.2⟩

set_option maxRecDepth 100000 in
set_option maxHeartbeats 400000 in
theorem isHeader_any (K E B : Int) (d P Q G g o n m np kp : Nat) (A Ap : Option Addr) (x y : Nat × Nat) (F : Nat → Int × Int × (Nat × Nat)) (w : World) (hd : d < 7) (hx : Ok x) (hn : n ≤ 4398046511104) (hnp : np ≤ 8796093022208) (hnm : n ≤ m) (had : n = 0 ∨ A = some ⟨g, o, none⟩)
    (hc : ∀ i, i < n → w.rangeAt g (o + i * 18) (lbl (F i).1 (F i).2.1 (F i).2.2)) :
    Calls Try.prog 81 #[.agg #[.int .u8 K, .int .i64 (d : Int), .int .i64 E, .int .u64 (P : Int), .int .u64 (Q : Int), .int .u64 (G : Int)], .agg (hdi (.slice A n m) (.slice Ap np kp) B x y).toArray] w fun e w' => e = .returned (.bool (hvb K d n B np x F)) ∧ Below w.heap.size w w' := by
  obtain ⟨N, hN⟩ : ∃ N, N = w.heap.size := ⟨_, rfl⟩
  obtain ⟨W2, hW2⟩ : ∃ W2, W2 = (w.alloc (.cells #[.int .u8 K, .int .i64 (d : Int), .int .i64 E, .int .u64 (P : Int), .int .u64 (Q : Int), .int .u64 (G : Int)] 45)).alloc (.cells (hdi (.slice A n m) (.slice Ap np kp) B x y).toArray 28) := ⟨_, rfl⟩
  have s2 : W2.heap.size = N + 2 := by rw [hW2, hN]; simp
  have b2 : Below N w W2 := by rw [hW2, hN]; exact (below_alloc _ _).trans ((below_alloc _ _).mono (by simp))
  have e1 : Blk W2 N #[.int .u8 K, .int .i64 (d : Int), .int .i64 E, .int .u64 (P : Int), .int .u64 (Q : Int), .int .u64 (G : Int)] 45 := by rw [hW2, hN]; exact (Blk.new w _ _).keep (below_alloc _ _)
  have e2 : Hdx W2 (N + 1) (.slice A n m) (.slice Ap np kp) B x y := by
    have h := Blk.new (w.alloc (.cells #[.int .u8 K, .int .i64 (d : Int), .int .i64 E, .int .u64 (P : Int), .int .u64 (Q : Int), .int .u64 (G : Int)] 45)) (hdi (.slice A n m) (.slice Ap np kp) B x y).toArray 28
    rw [World.size_alloc, ← hN] at h; rw [hW2]; exact h
  have HE : Hid (W2.heap.size = N + 2 ∧ Below N w W2 ∧ Blk W2 N #[.int .u8 K, .int .i64 (d : Int), .int .i64 E, .int .u64 (P : Int), .int .u64 (Q : Int), .int .u64 (G : Int)] 45 ∧ Hdx W2 (N + 1) (.slice A n m) (.slice Ap np kp) B x y) := Lib.hid ⟨s2, b2, e1, e2⟩
  have HC : Hid (∀ w1, Below W2.heap.size W2 w1 → ∀ i, i < n → w1.rangeAt g (o + i * 18) (lbl (F i).1 (F i).2.1 (F i).2.2)) := Lib.hid (fun w1 hb i hi j u hu => by
    have hb2 : Below N w w1 := b2.trans (hb.mono (by rw [s2]; omega))
    exact (hb2.cell (p := ⟨g, o + i * 18 + j, none⟩) (by rw [hN]; exact World.block_lt_of_cell? w _ (hc i hi j u hu))).trans (hc i hi j u hu))
  have HEND := Lib.hid (fun (w3 : World) (hb : Below W2.heap.size W2 w3) => (HE.out.2.1.trans (hb.mono (by rw [HE.out.1]; omega)) : Below N w w3))
  have HAD := Lib.hid had
  have HIs := Lib.hid (fun a b w => isSubset_any K E a b d P Q G w hd)
  have HN := Lib.hid hN
  have HW := Lib.hid hW2
  rw [← hN]
  have c0 := Hdx.c0 e2
  have c1 := Hdx.c1 e2
  have c2 := Hdx.c2 e2
  rw [hW2, hN] at c0 c1 c2
  clear hN hW2 s2 b2 e1 e2 hc had hd
  have HB2 : Hid (Below N w W2) := Lib.hid HE.out.2.1
  by_cases h64 : 64 < n
  · have HV : Hid (hvb K d n B np x F = false) := Lib.hid (hvb_no (fun h => by have := h.1; omega))
    have h64' : (64 : Int) < (n : Int) := by omega
    rw [HV.out]
    go_enter Try.func81, Try.ntmps81
    go_wp2_with fail
    go_ret
    exact ⟨by first | rfl | simp, by rw [← HW.out]; exact HB2.out⟩
  have h64' : ¬ ((64 : Int) < (n : Int)) := by omega
  by_cases hB : B = 0
  rotate_left
  · have HV : Hid (hvb K d n B np x F = false) := Lib.hid (hvb_no (fun h => hB h.2.1))
    have hBn : (B != 0) = true := by simp [hB]
    rw [HV.out]
    clear hB
    go_enter Try.func81, Try.ntmps81
    go_wp2_with fail
    go_ret
    exact ⟨by first | rfl | simp, by rw [← HW.out]; exact HB2.out⟩
  subst hB
  by_cases hP : np = 0
  rotate_left
  · have HV : Hid (hvb K d n 0 np x F = false) := Lib.hid (hvb_no (fun h => hP h.2.2.1))
    have hPn : ((np : Int) != 0) = true := by simp; omega
    rw [HV.out]
    clear hP
    go_enter Try.func81, Try.ntmps81
    go_wp2_with fail
    go_ret
    exact ⟨by first | rfl | simp, by rw [← HW.out]; exact HB2.out⟩
  subst hP
  have HK0 : Hid (Hdx ((w.alloc (.cells #[.int .u8 K, .int .i64 (d : Int), .int .i64 E, .int .u64 (P : Int), .int .u64 (Q : Int), .int .u64 (G : Int)] 45)).alloc (.cells (hdi (.slice A n m) (.slice Ap 0 kp) 0 x y).toArray 28)) (w.heap.size + 1) (.slice A n m) (.slice Ap 0 kp) 0 x y) := Lib.hid (by rw [← HW.out, ← HN.out]; exact HE.out.2.2.2)
  by_cases hX : x = (0, 0)
  rotate_left
  · have HV : Hid (hvb K d n 0 0 x F = false) := Lib.hid (hvb_no (fun h => hX h.2.2.2.1))
    have hq : ∀ w, (Op.equalIn 10000 26 (.agg (kl x.1 x.2).toArray) (.agg (kl 0 0).toArray)).run Try.prog w = .ok false w := fun w => by
      rw [run_equal_key hx.1 hx.2 (by decide) (by decide) w]
      congr 1
      unfold same
      have h1 : ¬ (x.1 = 0 ∧ x.2 = 0) := fun h => hX (Prod.ext h.1 h.2)
      simp only [Bool.and_eq_false_iff, decide_eq_false_iff_not, beq_eq_false_iff_ne]
      omega
    rw [HV.out]
    clear hX
    go_enter Try.func81, Try.ntmps81
    go_wp2_with (first
      | ((with_reducible show wpList _ _ _ (Oper.mk _ (Op.load 26 _) _ _ _ _ :: _) _ _); refine wpList_load_on (by rfl) 26 _ rfl (w.heap.size + 1) 3 (by rfl) (kl x.1 x.2) _ HK0.out.box Try.underlying26 rfl (by rw [kl_len]; exact size23) ?_)
      | ((with_reducible show wpList _ _ _ (Oper.mk _ (Op.build 26 _) _ _ _ _ :: _) _ _); refine wpList_buildKey0_on (by rfl) rfl ?_))
    go_ret
    exact ⟨by first | rfl | simp, by rw [← HW.out]; exact HB2.out⟩
  subst hX
  have hq : ∀ w, (Op.equalIn 10000 26 (.agg (kl 0 0).toArray) (.agg (kl 0 0).toArray)).run Try.prog w = .ok true w := fun w => key_self' (0, 0) w
  have HV : Hid ((∀ i, i < n → isb K d (F i).1 (F i).2.1 = true) → hvb K d n 0 0 (0, 0) F = true) := Lib.hid (fun h => hvb_all (by omega) rfl rfl rfl h)
  have HVn : Hid (∀ i, i < n → isb K d (F i).1 (F i).2.1 = false → hvb K d n 0 0 (0, 0) F = false) := Lib.hid (fun i hi h => hvb_no (fun h2 => by have := h2.2.2.2.2 i hi; rw [h] at this; cases this))
  obtain ⟨z, hz⟩ : ∃ z, z = hvb K d n 0 0 (0, 0) F := ⟨_, rfl⟩
  rw [← hz] at HV HVn ⊢
  clear hz
  go_enter Try.func81, Try.ntmps81
  go_wp2_with (first
    | ((with_reducible show wpList _ _ _ (Oper.mk _ (Op.load 26 _) _ _ _ _ :: _) _ _); refine wpList_load_on (by rfl) 26 _ rfl (w.heap.size + 1) 3 (by rfl) (kl 0 0) _ HK0.out.box Try.underlying26 rfl (by rw [kl_len]; exact size23) ?_)
    | ((with_reducible show wpList _ _ _ (Oper.mk _ (Op.build 26 _) _ _ _ _ :: _) _ _); refine wpList_buildKey0_on (by rfl) rfl ?_))
  rw [← HW.out, ← HN.out]
  clear c0 c1 c2 HK0 hq
  go_loopw [31] (fun i wr => ∃ (k : Nat), k ≤ n ∧ i = .int .i64 (k : Int) ∧ Hid (Below W2.heap.size W2 wr) ∧ Hid (∀ j, j < k → isb K d (F j).1 (F j).2.1 = true)) (fun i _ => n - (intOf i).toNat)
  case atStart => exact ⟨0, by omega, rfl, Lib.hid (Below.refl _ _), Lib.hid (fun j h => by omega)⟩
  case round =>
    obtain ⟨k, hk, rfl, HBr, HA⟩ := hrel
    by_cases hlt : k < n
    · rcases HAD.out with h0 | rfl
      · omega
      have l1 : (0 : Int) ≤ (k : Int) := by omega
      have l2 : (k : Int) < (n : Int) := by omega
      have HRk := Lib.hid (HC.out wr HBr.out k hlt)
      have HNo := Lib.hid (HVn.out k hlt)
      have HAx : Hid (isb K d (F k).1 (F k).2.1 = true → ∀ j, j < k + 1 → isb K d (F j).1 (F j).2.1 = true) := Lib.hid (fun h j hj => by
        rcases Nat.lt_or_ge j k with h1 | h1
        · exact HA.out j h1
        · obtain rfl : j = k := by omega
          exact h)
      have HIk := Lib.hid (fun w => HIs.out (F k).1 (F k).2.1 w)
      obtain ⟨a, ha⟩ : ∃ a, a = (F k).1 := ⟨_, rfl⟩
      obtain ⟨b, hb⟩ : ∃ b, b = (F k).2.1 := ⟨_, rfl⟩
      obtain ⟨q, hq⟩ : ∃ q, q = (F k).2.2 := ⟨_, rfl⟩
      rw [← ha, ← hb] at HNo HAx HIk
      rw [← ha, ← hb, ← hq] at HRk
      obtain ⟨zi, hzi⟩ : ∃ zi, zi = isb K d a b := ⟨_, rfl⟩
      rw [← hzi] at HNo HAx HIk
      obtain ⟨k1, k2, k3, k4⟩ := itmbox wr a b q
      obtain ⟨W5, hW5⟩ : ∃ W5, W5 = (wr.alloc (.cells lz18 90)).setCells wr.heap.size 0 (lbl a b q) := ⟨_, rfl⟩
      rw [← hW5] at k2 k3 k4
      have HB5 : Hid (Below W2.heap.size W2 W5) := Lib.hid (HBr.out.trans (k3.mono HBr.out.size))
      have y0 : W5.cell? ⟨wr.heap.size, 0, none⟩ = some (.int .i64 a) := k2.cell 0
      have y1 : W5.cell? ⟨wr.heap.size, 1, none⟩ = some (.int .i64 b) := k2.cell 1
      have e1 := HE.out.2.2.1.keep HB5.out
      have c0 : W5.cell? ⟨N, 0, none⟩ = some (.int .u8 K) := e1.cell 0
      have c1 : W5.cell? ⟨N, 1, none⟩ = some (.int .i64 (d : Int)) := e1.cell 1
      have c2 : W5.cell? ⟨N, 2, none⟩ = some (.int .i64 E) := e1.cell 2
      have c3 : W5.cell? ⟨N, 3, none⟩ = some (.int .u64 (P : Int)) := e1.cell 3
      have c4 : W5.cell? ⟨N, 4, none⟩ = some (.int .u64 (Q : Int)) := e1.cell 4
      have c5 : W5.cell? ⟨N, 5, none⟩ = some (.int .u64 (G : Int)) := e1.cell 5
      rw [hW5] at y0 y1 c0 c1 c2 c3 c4 c5
      have HW5 := Lib.hid hW5
      have HTh := Lib.hid k1
      clear ha hb hq hzi k1 k2 k3 k4 hW5 e1 hk
      go_wp2_with (first
        | ((with_reducible show wpList _ _ _ (Oper.mk _ (Op.load 90 _) _ _ _ _ :: _) _ _); refine wpList_load_itmo rfl _ rfl _ _ rfl _ _ _ HRk.out ?_)
        | ((with_reducible show wpList _ _ _ (Oper.mk _ (Op.store 90 _ _) _ _ _ _ :: _) _ _); refine wpList_store_itm rfl _ _ rfl _ _ _ _ rfl rfl HTh.out ?_))
      rw [← HW5.out]
      refine (HIk.out _).mono ?_
      rintro e w6 ⟨rfl, hb6⟩
      have HB6 := Lib.hid (HB5.out.trans (hb6.mono HB5.out.size))
      clear hb6 y0 y1 c0 c1 c2 c3 c4 c5
      rcases zi with _ | _
      · have HF := Lib.hid (HNo.out rfl)
        have H3 := Lib.hid (HEND.out w6 HB6.out)
        go_wp2_with fail
        go_ret
        exact ⟨by rw [HF.out]; first | rfl | simp, H3.out⟩
      · have HAy := Lib.hid (HAx.out rfl)
        go_wp2_with fail
        go_roundw
        case rel => exact ⟨k + 1, by omega, by go_num, HB6, HAy⟩
        case measure => simp [intOf]; omega
    · obtain rfl : k = n := by omega
      have HF := Lib.hid (HV.out HA.out)
      have H3 := Lib.hid (HEND.out wr HBr.out)
      have l3 : ¬ ((k : Int) < (k : Int)) := by omega
      go_wp2_with fail
      go_ret
      exact ⟨by rw [HF.out]; first | rfl | simp, H3.out⟩

end Go.Proofs.Ytchkgccnipejhaa

/-
  Open, the program's.
-/
namespace Go.Proofs.Ytchkgccnipejhaa
open Go.RowKit TR L2 L2.SP
set_option linter.unusedVariables false
set_option linter.unusedSimpArgs false

/-- The session key that an item yields to some labels. -/
def hit (d : Nat) (L : Nat → Int × Int × (Nat × Nat)) (nl : Nat) (ck : Nat × Nat) (it : Int × Int × (Nat × Nat)) (r : Nat × Nat) : Prop :=
  ∃ q, FndR d L it.1.toNat it.2.1.toNat nl true q ∧ r = dec q.1 q.2 it.2.2.1 it.2.2.2 ∧ drv r.1 r.2 53 0 = ck
theorem hit.same {d : Nat} {L : Nat → Int × Int × (Nat × Nat)} {nl : Nat} {ck : Nat × Nat} {it : Int × Int × (Nat × Nat)} {r1 r2 : Nat × Nat} (h1 : hit d L nl ck it r1) (h2 : hit d L nl ck it r2) : r1 = r2 := by
  obtain ⟨q1, a1, rfl, _⟩ := h1
  obtain ⟨q2, b1, rfl, _⟩ := h2
  obtain ⟨_, rfl⟩ := FndR.same a1 b1
  rfl
theorem Lbx.krangeI {w : World} {b : Nat} {v x : Int} {p : Nat × Nat} (h : Itx w b v x p) : w.rangeAt b 2 (kl p.1 p.2) := fun j u hu => (Blk.cell h (2 + j)).trans (by
  have h1 : (lbl v x p)[2 + j]? = some u := by
    unfold lbl
    rw [List.getElem?_append_right (by simp), show 2 + j - [Value.int .i64 v, .int .i64 x].length = j by simp]
    exact hu
  simpa using h1)
/-- The answer of Open. -/
def OpE (K D E : Int) (P Q G : Nat) (L : Nat → Int × Int × (Nat × Nat)) (nl n : Nat) (B : Int) (np : Nat) (x ck : Nat × Nat) (F : Nat → Int × Int × (Nat × Nat)) (e : Ending) : Prop :=
  (scb K D E P Q G = false ∧ e = .returned (.tuple #[.agg (kl 0 0).toArray, .int .i64 30])) ∨
  (scb K D E P Q G = true ∧ hvb K D.toNat n B np x F = false ∧ e = .returned (.tuple #[.agg (kl 0 0).toArray, .int .i64 8])) ∨
  (scb K D E P Q G = true ∧ hvb K D.toNat n B np x F = true ∧ ∃ k r, k < n ∧ hit D.toNat L nl ck (F k) r ∧ (∀ i, i < k → ∀ r', ¬ hit D.toNat L nl ck (F i) r') ∧ e = .returned (.tuple #[.agg (kl r.1 r.2).toArray, .int .i64 0])) ∨
  (scb K D E P Q G = true ∧ hvb K D.toNat n B np x F = true ∧ (∀ i, i < n → ∀ r', ¬ hit D.toNat L nl ck (F i) r') ∧ e = .returned (.tuple #[.agg (kl 0 0).toArray, .int .i64 6]))
theorem OpE.same {K D E : Int} {P Q G : Nat} {L : Nat → Int × Int × (Nat × Nat)} {nl n : Nat} {B : Int} {np : Nat} {x ck : Nat × Nat} {F : Nat → Int × Int × (Nat × Nat)} {e1 e2 : Ending} (h1 : OpE K D E P Q G L nl n B np x ck F e1) (h2 : OpE K D E P Q G L nl n B np x ck F e2) : e1 = e2 := by
  rcases h1 with ⟨a1, rfl⟩ | ⟨a1, a2, rfl⟩ | ⟨a1, a2, k1, r1, a3, a4, a5, rfl⟩ | ⟨a1, a2, a3, rfl⟩ <;> rcases h2 with ⟨b1, rfl⟩ | ⟨b1, b2, rfl⟩ | ⟨b1, b2, k2, r2, b3, b4, b5, rfl⟩ | ⟨b1, b2, b3, rfl⟩
  all_goals first
    | rfl
    | exact absurd (a1.symm.trans b1) (by decide)
    | exact absurd (a2.symm.trans b2) (by decide)
    | skip
  · rcases Nat.lt_trichotomy k1 k2 with h | rfl | h
    · exact absurd a4 (b5 k1 h r1)
    · rw [a4.same b4]
    · exact absurd b4 (a5 k2 h r2)
  · exact absurd a4 (b3 k1 a3 r1)
  · exact absurd b4 (a3 k2 b3 r2)
theorem OpE.key {K D E : Int} {P Q G : Nat} {L : Nat → Int × Int × (Nat × Nat)} {nl n : Nat} {B : Int} {np : Nat} {x ck : Nat × Nat} {F : Nat → Int × Int × (Nat × Nat)} {e : Ending} (h : OpE K D E P Q G L nl n B np x ck F e) (hF : ∀ i, i < n → Ok (F i).2.2) : ∃ (q : Nat × Nat) (c : Int), Ok q ∧ e = .returned (.tuple #[.agg (kl q.1 q.2).toArray, .int .i64 c]) := by
  rcases h with ⟨a1, rfl⟩ | ⟨a1, a2, rfl⟩ | ⟨a1, a2, k1, r1, a3, ⟨q, _, rfl, _⟩, a5, rfl⟩ | ⟨a1, a2, a3, rfl⟩
  · exact ⟨(0, 0), _, ⟨by decide, by decide⟩, rfl⟩
  · exact ⟨(0, 0), _, ⟨by decide, by decide⟩, rfl⟩
  · exact ⟨_, _, dec_ok (hF k1 a3).1 (hF k1 a3).2, rfl⟩
  · exact ⟨(0, 0), _, ⟨by decide, by decide⟩, rfl⟩

set_option maxRecDepth 100000 in
set_option maxHeartbeats 400000 in
theorem open_any (K D E B rr ss tt : Int) (P Q G g o n m gl ol nl ml np kp : Nat) (A AL Ap : Option Addr) (x y : Nat × Nat) (L F : Nat → Int × Int × (Nat × Nat)) (w : World) (hK0 : 0 ≤ K) (hK1 : K ≤ 255) (hx : Ok x) (hy : Ok y) (hn : n ≤ 4398046511104) (hnp : np ≤ 8796093022208) (hnm : n ≤ m) (had : n = 0 ∨ A = some ⟨g, o, none⟩)
    (hc : ∀ i, i < n → w.rangeAt g (o + i * 18) (lbl (F i).1 (F i).2.1 (F i).2.2) ∧ Ok (F i).2.2)
    (hnl : nl ≤ 4398046511104) (hnlm : nl ≤ ml) (hal : nl = 0 ∨ AL = some ⟨gl, ol, none⟩) (hL : ∀ i, i < nl → w.rangeAt gl (ol + i * 18) (lbl (L i).1 (L i).2.1 (L i).2.2) ∧ (L i).2.1 < 9223372036854775808 ∧ Ok (L i).2.2) :
    Calls Try.prog 33 #[.agg #[.int .u8 K, .int .i64 D, .int .i64 E, .int .u64 (P : Int), .int .u64 (Q : Int), .int .u64 (G : Int)], .agg (sg rr (.slice AL nl ml) ss tt), .agg (hdi (.slice A n m) (.slice Ap np kp) B x y).toArray] w fun e w' => OpE K D E P Q G L nl n B np x y F e ∧ Below w.heap.size w w' := by
  obtain ⟨N, hN⟩ : ∃ N, N = w.heap.size := ⟨_, rfl⟩
  obtain ⟨W4, hW4⟩ : ∃ W4, W4 = (((w.alloc (.cells #[.int .u8 K, .int .i64 D, .int .i64 E, .int .u64 (P : Int), .int .u64 (Q : Int), .int .u64 (G : Int)] 45)).alloc (.cells (sg rr (.slice AL nl ml) ss tt) 72)).alloc (.cells (hdi (.slice A n m) (.slice Ap np kp) B x y).toArray 28)).alloc (.cells z16 26) := ⟨_, rfl⟩
  have s4 : W4.heap.size = N + 4 := by rw [hW4, hN]; simp
  have b4 : Below N w W4 := by rw [hW4, hN]; exact (below_alloc _ _).trans (((below_alloc _ _).mono (by simp)).trans (((below_alloc _ _).mono (by simp; omega)).trans ((below_alloc _ _).mono (by simp; omega))))
  have e1 : Blk W4 N #[.int .u8 K, .int .i64 D, .int .i64 E, .int .u64 (P : Int), .int .u64 (Q : Int), .int .u64 (G : Int)] 45 := by rw [hW4, hN]; exact (((Blk.new w _ _).keep (below_alloc _ _)).keep (below_alloc _ _)).keep (below_alloc _ _)
  have e2 : Blk W4 (N + 1) (sg rr (.slice AL nl ml) ss tt) 72 := by
    have h := ((Blk.new (w.alloc (.cells #[.int .u8 K, .int .i64 D, .int .i64 E, .int .u64 (P : Int), .int .u64 (Q : Int), .int .u64 (G : Int)] 45)) (sg rr (.slice AL nl ml) ss tt) 72).keep (below_alloc _ (.cells (hdi (.slice A n m) (.slice Ap np kp) B x y).toArray 28))).keep (below_alloc _ (.cells z16 26))
    rw [World.size_alloc, ← hN] at h; rw [hW4]; exact h
  have e3 : Hdx W4 (N + 2) (.slice A n m) (.slice Ap np kp) B x y := by
    have h := (Blk.new ((w.alloc (.cells #[.int .u8 K, .int .i64 D, .int .i64 E, .int .u64 (P : Int), .int .u64 (Q : Int), .int .u64 (G : Int)] 45)).alloc (.cells (sg rr (.slice AL nl ml) ss tt) 72)) (hdi (.slice A n m) (.slice Ap np kp) B x y).toArray 28).keep (below_alloc _ (.cells z16 26))
    rw [World.size_alloc, World.size_alloc, ← hN] at h; rw [hW4]; exact h
  have e4 : Blk W4 (N + 3) z16 26 := by
    have h := Blk.new (((w.alloc (.cells #[.int .u8 K, .int .i64 D, .int .i64 E, .int .u64 (P : Int), .int .u64 (Q : Int), .int .u64 (G : Int)] 45)).alloc (.cells (sg rr (.slice AL nl ml) ss tt) 72)).alloc (.cells (hdi (.slice A n m) (.slice Ap np kp) B x y).toArray 28)) z16 26
    rw [World.size_alloc, World.size_alloc, World.size_alloc, ← hN] at h; rw [hW4]; exact h
  have HE : Hid (W4.heap.size = N + 4 ∧ Below N w W4 ∧ Blk W4 N #[.int .u8 K, .int .i64 D, .int .i64 E, .int .u64 (P : Int), .int .u64 (Q : Int), .int .u64 (G : Int)] 45 ∧ Blk W4 (N + 1) (sg rr (.slice AL nl ml) ss tt) 72 ∧ Hdx W4 (N + 2) (.slice A n m) (.slice Ap np kp) B x y ∧ Blk W4 (N + 3) z16 26) := Lib.hid ⟨s4, b4, e1, e2, e3, e4⟩
  have HC : Hid (∀ w1, Below W4.heap.size W4 w1 → ∀ i, i < n → w1.rangeAt g (o + i * 18) (lbl (F i).1 (F i).2.1 (F i).2.2)) := Lib.hid (fun w1 hb i hi j u hu => by
    have hb2 : Below N w w1 := b4.trans (hb.mono (by rw [s4]; omega))
    exact (hb2.cell (p := ⟨g, o + i * 18 + j, none⟩) (by rw [hN]; exact World.block_lt_of_cell? w _ ((hc i hi).1 j u hu))).trans ((hc i hi).1 j u hu))
  have HOk := Lib.hid (fun i (hi : i < n) => (hc i hi).2)
  have HLb : Hid (∀ w1, Below W4.heap.size W4 w1 → ∀ i, i < nl → w1.rangeAt gl (ol + i * 18) (lbl (L i).1 (L i).2.1 (L i).2.2) ∧ (L i).2.1 < 9223372036854775808 ∧ Ok (L i).2.2) := Lib.hid (fun w1 hb i hi => ⟨fun j u hu => by
    have hb2 : Below N w w1 := b4.trans (hb.mono (by rw [s4]; omega))
    exact (hb2.cell (p := ⟨gl, ol + i * 18 + j, none⟩) (by rw [hN]; exact World.block_lt_of_cell? w _ ((hL i hi).1 j u hu))).trans ((hL i hi).1 j u hu), (hL i hi).2⟩)
  have HLk := Lib.hid (fun i (hi : i < nl) => (hL i hi).2.2)
  have HEND := Lib.hid (fun (q : Nat × Nat) (w3 : World) (hb : Below W4.heap.size W4 w3) => (⟨by have h := (HE.out.2.2.2.2.2.below hb (by rw [s4]; omega)).there; simpa using h, Kbx.at_ (Kbx.stored (HE.out.2.2.2.2.2.below hb (by rw [s4]; omega)) rfl q), below_setCells _ _ _ _ (HE.out.2.1.trans (hb.mono (by rw [s4]; omega))) (by omega)⟩ : w3.there (N + 3) 0 16 ∧ KeyAt (w3.setCells (N + 3) 0 (kl q.1 q.2)) (N + 3) q.1 q.2 ∧ Below N w (w3.setCells (N + 3) 0 (kl q.1 q.2))))
  have HCk := Lib.hid (fun w => check_any K D E P Q G w hK0 hK1)
  have HAD := Lib.hid had
  have HYo := Lib.hid hy
  have HIh := Lib.hid (fun (d : Nat) w1 (hd : d < 7) (hb : Below W4.heap.size W4 w1) => isHeader_any K E B d P Q G g o n m np kp A Ap x y F w1 hd hx hn hnp hnm had (HC.out w1 hb))
  have HFi := Lib.hid (fun a b w1 (hb : Below W4.heap.size W4 w1) => find_any K D E a b rr ss tt P Q G AL gl ol nl ml L w1 hK0 hK1 (by omega) hnlm hal (HLb.out w1 hb))
  have HDe := Lib.hid (fun (q bx : Nat × Nat) w (h1 : Ok q) (h2 : Ok bx) => decrypt_any q.1 q.2 bx.1 bx.2 w h1.1 h1.2 h2.1 h2.2)
  have HCo := Lib.hid (fun (q : Nat × Nat) w (h : Ok q) => checkOf_any q w h)
  have HN := Lib.hid hN
  have HW := Lib.hid hW4
  rw [← hN]
  have c0 : W4.cell? ⟨N, 0, none⟩ = some (.int .u8 K) := (e1).cell 0
  have c1 : W4.cell? ⟨N, 1, none⟩ = some (.int .i64 D) := (e1).cell 1
  have c2 : W4.cell? ⟨N, 2, none⟩ = some (.int .i64 E) := (e1).cell 2
  have c3 : W4.cell? ⟨N, 3, none⟩ = some (.int .u64 (P : Int)) := (e1).cell 3
  have c4 : W4.cell? ⟨N, 4, none⟩ = some (.int .u64 (Q : Int)) := (e1).cell 4
  have c5 : W4.cell? ⟨N, 5, none⟩ = some (.int .u64 (G : Int)) := (e1).cell 5
  rw [hW4, hN] at c0 c1 c2 c3 c4 c5
  clear hN hW4 s4 b4 e1 e2 e3 e4 hc hL hK0 hK1 hx hy hn hnp hnm had hnl hnlm hal
  go_enter Try.func33, Try.ntmps33
  go_wp2_with fail
  rw [← HW.out, ← HN.out]
  refine (HCk.out _).mono ?_
  rintro e w5 ⟨rfl, hb5⟩
  have HB5 := Lib.hid hb5
  clear hb5 c0 c1 c2 c3 c4 c5
  by_cases h : ScOk K D E P Q G
  · have hsc := scc_yes h
    rw [hsc]
    have HSb := Lib.hid (scb_yes h)
    have hD := h.2.2.1
    have hD2 := h.2.2.2.1
    obtain ⟨d, rfl⟩ := Int.eq_ofNat_of_zero_le hD
    have hd : d < 7 := by omega
    have HIw := Lib.hid (HIh.out d w5 hd HB5.out)
    have c0 : w5.cell? ⟨N, 0, none⟩ = some (.int .u8 K) := (HE.out.2.2.1.keep HB5.out).cell 0
    have c1 : w5.cell? ⟨N, 1, none⟩ = some (.int .i64 (d : Int)) := (HE.out.2.2.1.keep HB5.out).cell 1
    have c2 : w5.cell? ⟨N, 2, none⟩ = some (.int .i64 E) := (HE.out.2.2.1.keep HB5.out).cell 2
    have c3 : w5.cell? ⟨N, 3, none⟩ = some (.int .u64 (P : Int)) := (HE.out.2.2.1.keep HB5.out).cell 3
    have c4 : w5.cell? ⟨N, 4, none⟩ = some (.int .u64 (Q : Int)) := (HE.out.2.2.1.keep HB5.out).cell 4
    have c5 : w5.cell? ⟨N, 5, none⟩ = some (.int .u64 (G : Int)) := (HE.out.2.2.1.keep HB5.out).cell 5
    have HD7 := Lib.hid hd
    clear hsc h hD hD2 hd
    go_wp2_with ((with_reducible show wpList _ _ _ (Oper.mk _ (Op.load 28 _) _ _ _ _ :: _) _ _); refine wpList_load_hdi rfl _ rfl _ rfl _ _ _ _ _ (Blk.keep HE.out.2.2.2.2.1 HB5.out) ?_)
    refine (HIw.out).mono ?_
    rintro e w6 ⟨rfl, hb6⟩
    have HB6 := Lib.hid (HB5.out.trans (hb6.mono HB5.out.size))
    clear hb6 c0 c1 c2 c3 c4 c5
    rcases hv : hvb K d n B np x F with _ | _
    · have H3 := Lib.hid (HEND.out (0, 0) w6 HB6.out)
      have HC0 : Hid (∀ e, e = .returned (.tuple #[.agg (kl 0 0).toArray, .int .i64 8]) → OpE K (d : Int) E P Q G L nl n B np x y F e) := Lib.hid (fun e he => .inr (.inl ⟨HSb.out, by rw [Int.toNat_natCast]; exact hv, he⟩))
      clear hv
      go_wp2_with (first
      | ((with_reducible show wpList _ _ _ (Oper.mk _ (Op.build 26 _) _ _ _ _ :: _) _ _); refine wpList_buildKey0 rfl rfl ?_)
      | ((with_reducible show wpList _ _ _ (Oper.mk _ (Op.store 26 _ _) _ _ _ _ :: _) _ _); refine wpList_store_key rfl _ _ rfl (N + 3) _ _ rfl rfl H3.out.1 ?_))
      exact bodyPost_ret (results_keye rfl _ _ (N + 3) (0, 0) _ rfl rfl H3.out.2.1) rfl ⟨HC0.out _ rfl, H3.out.2.2⟩
    · have HV := Lib.hid hv
      have HIsb : Hid (∀ i, i < n → isb K d (F i).1 (F i).2.1 = true) := Lib.hid (by
        have h2 := hv
        unfold hvb at h2
        simp only [Bool.and_eq_true, decide_eq_true_eq, List.all_eq_true, List.mem_range] at h2
        exact h2.2.2.2.2)
      have hn64 : n ≤ 64 := by
        have h2 := hv
        unfold hvb at h2
        simp only [Bool.and_eq_true, decide_eq_true_eq] at h2
        exact h2.1
      have HCy : Hid (∀ k r, k < n → hit d L nl y (F k) r → (∀ i, i < k → ∀ r', ¬ hit d L nl y (F i) r') → ∀ e, e = .returned (.tuple #[.agg (kl r.1 r.2).toArray, .int .i64 0]) → OpE K (d : Int) E P Q G L nl n B np x y F e) := Lib.hid (fun k r h1 h2 h3 e he => .inr (.inr (.inl ⟨HSb.out, by rw [Int.toNat_natCast]; exact HV.out, k, r, h1, by rw [Int.toNat_natCast]; exact h2, by rw [Int.toNat_natCast]; exact h3, he⟩)))
      have HCn : Hid ((∀ i, i < n → ∀ r', ¬ hit d L nl y (F i) r') → ∀ e, e = .returned (.tuple #[.agg (kl 0 0).toArray, .int .i64 6]) → OpE K (d : Int) E P Q G L nl n B np x y F e) := Lib.hid (fun h3 e he => .inr (.inr (.inr ⟨HSb.out, by rw [Int.toNat_natCast]; exact HV.out, by rw [Int.toNat_natCast]; exact h3, he⟩)))
      have cz := Hdx.c0 (Blk.keep HE.out.2.2.2.2.1 HB6.out)
      clear hv
      go_wp2_with fail
      clear cz
      go_loopw [28] (fun i wr => ∃ (k : Nat), k ≤ n ∧ i = .int .i64 (k : Int) ∧ Hid (Below W4.heap.size W4 wr) ∧ Hid (∀ j, j < k → ∀ r', ¬ hit d L nl y (F j) r')) (fun i _ => n + 1 - (intOf i).toNat)
      case atStart => exact ⟨0, by omega, rfl, HB6, Lib.hid (fun j h => by omega)⟩
      case round =>
        obtain ⟨k, hk, rfl, HBr, HA⟩ := hrel
        by_cases hlt : k < n
        · rcases HAD.out with h0 | rfl
          · omega
          have l1 : (0 : Int) ≤ (k : Int) := by omega
          have l2 : (k : Int) < (n : Int) := by omega
          have HRk := Lib.hid (HC.out wr HBr.out k hlt)
          have HOb := Lib.hid (HOk.out k hlt)
          have hIs := HIsb.out k hlt
          have h0s : sbc K (d : Int) E P Q G (F k).1 (F k).2.1 = 0 := by unfold sbc; rw [HSb.out, Int.toNat_natCast, hIs]; rfl
          have HS0 := Lib.hid h0s
          have HNx : Hid ((∀ r', ¬ hit d L nl y (F k) r') → ∀ j, j < k + 1 → ∀ r', ¬ hit d L nl y (F j) r') := Lib.hid (fun h j hj => by
            rcases Nat.lt_or_ge j k with h1 | h1
            · exact HA.out j h1
            · obtain rfl : j = k := by omega
              exact h)
          have HYs := Lib.hid (fun r (h : hit d L nl y (F k) r) => HCy.out k r hlt h HA.out)
          obtain ⟨it, hit_⟩ : ∃ it, it = F k := ⟨_, rfl⟩
          rw [← hit_] at HRk HOb HS0 HNx HYs
          obtain ⟨a, b, q⟩ := it
          have HFk := Lib.hid (fun w1 hb => HFi.out a b w1 hb)
          obtain ⟨k1, k2, k3, k4⟩ := itmbox wr a b q
          obtain ⟨W5, hW5⟩ : ∃ W5, W5 = (wr.alloc (.cells lz18 90)).setCells wr.heap.size 0 (lbl a b q) := ⟨_, rfl⟩
          rw [← hW5] at k2 k3 k4
          obtain ⟨ib, hib⟩ : ∃ ib, ib = wr.heap.size := ⟨_, rfl⟩
          rw [← hib] at k2 k4
          have HBW : Hid (Below W4.heap.size W4 W5 ∧ Itx W5 ib a b q) := Lib.hid ⟨HBr.out.trans (k3.mono HBr.out.size), k2⟩
          have y0 : W5.cell? ⟨ib, 0, none⟩ = some (.int .i64 a) := k2.cell 0
          have y1 : W5.cell? ⟨ib, 1, none⟩ = some (.int .i64 b) := k2.cell 1
          have c0 : W5.cell? ⟨N, 0, none⟩ = some (.int .u8 K) := (HE.out.2.2.1.keep HBW.out.1).cell 0
          have c1 : W5.cell? ⟨N, 1, none⟩ = some (.int .i64 (d : Int)) := (HE.out.2.2.1.keep HBW.out.1).cell 1
          have c2 : W5.cell? ⟨N, 2, none⟩ = some (.int .i64 E) := (HE.out.2.2.1.keep HBW.out.1).cell 2
          have c3 : W5.cell? ⟨N, 3, none⟩ = some (.int .u64 (P : Int)) := (HE.out.2.2.1.keep HBW.out.1).cell 3
          have c4 : W5.cell? ⟨N, 4, none⟩ = some (.int .u64 (Q : Int)) := (HE.out.2.2.1.keep HBW.out.1).cell 4
          have c5 : W5.cell? ⟨N, 5, none⟩ = some (.int .u64 (G : Int)) := (HE.out.2.2.1.keep HBW.out.1).cell 5
          rw [hW5] at c0 c1 c2 c3 c4 c5
          rw [hW5, hib] at y0 y1
          have HW5 := Lib.hid (And.intro hW5 hib)
          have HTh := Lib.hid k1
          clear k1 k2 k3 k4 hW5 hib hit_ hIs h0s hk
          go_wp2_with (first
            | ((with_reducible show wpList _ _ _ (Oper.mk _ (Op.load 90 _) _ _ _ _ :: _) _ _); refine wpList_load_itmo rfl _ rfl _ _ rfl _ _ _ HRk.out ?_)
            | ((with_reducible show wpList _ _ _ (Oper.mk _ (Op.store 90 _ _) _ _ _ _ :: _) _ _); refine wpList_store_itm rfl _ _ rfl _ _ _ _ rfl rfl HTh.out ?_)
            | ((with_reducible show wpList _ _ _ (Oper.mk _ (Op.load 72 _) _ _ _ _ :: _) _ _); refine wpList_load_sg rfl _ rfl _ rfl _ _ _ _ (by rw [← HW5.out.1]; exact HE.out.2.2.2.1.keep HBW.out.1) ?_))
          rw [← HW5.out.1, ← HW5.out.2]
          refine (HFk.out W5 HBW.out.1).mono ?_
          rintro e w7 ⟨hf7, hb7⟩
          have HB7 : Hid (Below W4.heap.size W4 w7 ∧ Itx w7 ib a b q) := Lib.hid ⟨HBW.out.1.trans (hb7.mono HBW.out.1.size), Blk.keep HBW.out.2 hb7⟩
          obtain ⟨ff, z, hfr, rfl⟩ : ∃ ff z, FndR d L a.toNat b.toNat nl ff z ∧ e = .returned (.tuple #[.agg (kl z.1 z.2).toArray, .int .i64 (if ff then 0 else 6)]) := by
            rcases hf7 with ⟨h1, _⟩ | ⟨_, f, q, h2, h3⟩
            · exact absurd HS0.out h1
            · exact ⟨f, q, h2, h3⟩
          clear hf7 hb7 y0 y1 c0 c1 c2 c3 c4 c5
          obtain ⟨k1, k2, k3, k4⟩ := keybox w7 z
          obtain ⟨W8, hW8⟩ : ∃ W8, W8 = (w7.alloc (.cells z16 26)).setCells w7.heap.size 0 (kl z.1 z.2) := ⟨_, rfl⟩
          rw [← hW8] at k2 k3 k4
          obtain ⟨kb, hkb⟩ : ∃ kb, kb = w7.heap.size := ⟨_, rfl⟩
          have HTk := Lib.hid k1
          have HW8 := Lib.hid (And.intro hW8 hkb)
          rw [← hkb] at k2 k4
          have HB8 : Hid (Below W4.heap.size W4 W8 ∧ Itx W8 ib a b q ∧ Kbx W8 kb z) := Lib.hid ⟨HB7.out.1.trans (k3.mono HB7.out.1.size), Blk.keep HB7.out.2 k3, k2⟩
          clear k1 k2 k3 k4 hW8 hkb
          rcases ff with _ | _
          · have HNy := Lib.hid (HNx.out (fun r' ⟨q', h1, _⟩ => by have h2 := (FndR.same h1 hfr).1; cases h2))
            clear hfr
            go_wp2_with ((with_reducible show wpList _ _ _ (Oper.mk _ (Op.store 26 _ _) _ _ _ _ :: _) _ _); refine wpList_store_key rfl _ _ rfl _ _ _ rfl rfl HTk.out ?_)
            rw [← HW8.out.1]
            go_roundw
            case rel => exact ⟨k + 1, by omega, by go_num, Lib.hid HB8.out.1, HNy⟩
            case measure => simp [intOf]; omega
          · have hzo : Ok z := by
              rcases hfr with ⟨k2, hk2, _, _, _, rfl⟩ | ⟨_, h, _⟩
              · exact rch_ok (HLk.out k2 hk2) _ _
              · cases h
            have hso : Ok (dec z.1 z.2 q.1 q.2) := dec_ok HOb.out.1 HOb.out.2
            have HDk := Lib.hid (fun w => HDe.out z q w hzo HOb.out)
            have HHy : Hid (∀ r, r = dec z.1 z.2 q.1 q.2 → drv r.1 r.2 53 0 = y → hit d L nl y (a, b, q) r) := Lib.hid (fun r h1 h2 => ⟨z, hfr, h1, h2⟩)
            have HHn : Hid (∀ r, r = dec z.1 z.2 q.1 q.2 → drv r.1 r.2 53 0 ≠ y → ∀ r', ¬ hit d L nl y (a, b, q) r') := Lib.hid (fun r h1 h2 r' ⟨q', h3, h4, h5⟩ => by
              have h6 := (FndR.same h3 hfr).2
              subst h6
              rw [h1] at h2
              rw [h4] at h5
              exact h2 h5)
            have HCk2 := Lib.hid (fun w => HCo.out (dec z.1 z.2 q.1 q.2) w hso)
            have hco : Ok (drv (dec z.1 z.2 q.1 q.2).1 (dec z.1 z.2 q.1 q.2).2 53 0) := drv_ok hso.1 hso.2 (by omega) (by unfold M; omega)
            obtain ⟨se, hse⟩ : ∃ se, se = dec z.1 z.2 q.1 q.2 := ⟨_, rfl⟩
            rw [← hse] at HDk HCk2 hco HHy HHn
            have HHy2 := Lib.hid (HHy.out se rfl)
            have HHn2 := Lib.hid (HHn.out se rfl)
            obtain ⟨cc, hcc⟩ : ∃ cc, cc = drv se.1 se.2 53 0 := ⟨_, rfl⟩
            rw [← hcc] at HCk2 hco HHy2 HHn2
            have HQ := Lib.hid (fun w => run_equal_key hco.1 hco.2 HYo.out.1 HYo.out.2 w)
            clear hfr hzo hso hse hcc hco HHy HHn
            go_wp2_with (first
              | ((with_reducible show wpList _ _ _ (Oper.mk _ (Op.store 26 _ _) _ _ _ _ :: _) _ _); refine wpList_store_key rfl _ _ rfl _ _ _ rfl rfl HTk.out ?_)
              | ((with_reducible show wpList _ _ _ (Oper.mk _ (Op.load 26 _) _ _ _ _ :: _) _ _); refine wpList_load_key rfl _ rfl _ rfl _ _ (by rw [← HW8.out.1, ← HW8.out.2]; exact Kbx.at_ HB8.out.2.2) ?_)
              | ((with_reducible show wpList _ _ _ (Oper.mk _ (Op.load 26 _) _ _ _ _ :: _) _ _); refine wpList_load_mid rfl 26 _ rfl ib 2 rfl (kl q.1 q.2) _ (by rw [← HW8.out.1]; exact Lbx.krangeI HB8.out.2.1) Try.underlying26 rfl (by rw [kl_len]; exact size23) ?_))
            rw [← HW8.out.1, ← HW8.out.2]
            refine (HDk.out _).mono ?_
            rintro e w9 ⟨rfl, hb9⟩
            have HB9 := Lib.hid (HB8.out.1.trans (hb9.mono HB8.out.1.size))
            obtain ⟨k1, k2, k3, k4⟩ := keybox w9 se
            obtain ⟨W10, hW10⟩ : ∃ W10, W10 = (w9.alloc (.cells z16 26)).setCells w9.heap.size 0 (kl se.1 se.2) := ⟨_, rfl⟩
            rw [← hW10] at k2 k3 k4
            obtain ⟨sb, hsb⟩ : ∃ sb, sb = w9.heap.size := ⟨_, rfl⟩
            have HTs := Lib.hid k1
            have HW10 := Lib.hid (And.intro hW10 hsb)
            rw [← hsb] at k2 k4
            have HB10 : Hid (Below W4.heap.size W4 W10 ∧ Kbx W10 sb se) := Lib.hid ⟨HB9.out.trans (k3.mono HB9.out.size), k2⟩
            clear k1 k2 k3 k4 hW10 hsb hb9
            go_wp2_with ((with_reducible show wpList _ _ _ (Oper.mk _ (Op.store 26 _ _) _ _ _ _ :: _) _ _); refine wpList_store_key rfl _ _ rfl _ _ _ rfl rfl HTs.out ?_)
            rw [← HW10.out.1, ← HW10.out.2]
            refine wp_region_inv (by kernel_rfl) (by kernel_rfl) (fun l a' w' => a' = { tmps := #[Value.agg #[Value.int IntKind.u8 K, Value.int IntKind.i64 d, Value.int IntKind.i64 E, Value.int IntKind.u64 P, Value.int IntKind.u64 Q, Value.int IntKind.u64 G], Value.agg (sg rr (Value.slice AL nl ml) ss tt), Value.agg (hdi (Value.slice (some ⟨g, o, none⟩) n m) (Value.slice Ap np kp) B x y).toArray, Value.pointer (some ⟨N, 0, none⟩), Value.pointer (some ⟨N + 1, 0, none⟩), Value.pointer (some ⟨N + 1 + 1, 0, none⟩), Value.pointer (some ⟨N + 1 + 1 + 1, 0, none⟩), u7, Value.int .i64 (0 : Int), undef, Value.pointer (some ⟨ib, 0, none⟩), Value.pointer (some ⟨kb, 0, none⟩), Value.int .i64 (0 : Int), Value.pointer (some ⟨sb, 0, none⟩), Value.agg #[Value.int IntKind.u8 K, Value.int IntKind.i64 d, Value.int IntKind.i64 E, Value.int IntKind.u64 P, Value.int IntKind.u64 Q, Value.int IntKind.u64 G], Value.int .i64 (0 : Int), Value.int .i64 (0 : Int), Value.bool false, undef, undef, Value.agg #[Value.int IntKind.u8 K, Value.int IntKind.i64 d, Value.int IntKind.i64 E, Value.int IntKind.u64 P, Value.int IntKind.u64 Q, Value.int IntKind.u64 G], Value.agg (hdi (Value.slice (some ⟨g, o, none⟩) n m) (Value.slice Ap np kp) B x y).toArray, Value.bool true, Value.bool false, undef, Value.pointer (some ⟨N + 1 + 1, 0, none⟩), Value.slice (some ⟨g, o, none⟩) n m, Value.int .i64 (n : Int), Value.int .i64 (k : Int), Value.bool true, Value.pointer (some ⟨g, o + k * 18, none⟩), Value.agg (lbl a b q).toArray, Value.tuple #[Value.agg (kl z.fst z.snd).toArray, Value.int IntKind.i64 0], Value.agg #[Value.int IntKind.u8 K, Value.int IntKind.i64 d, Value.int IntKind.i64 E, Value.int IntKind.u64 P, Value.int IntKind.u64 Q, Value.int IntKind.u64 G], Value.agg (sg rr (Value.slice AL nl ml) ss tt), Value.pointer (some ⟨ib, 0, none⟩), Value.agg #[Value.int IntKind.i64 a, Value.int IntKind.i64 b], Value.tuple #[Value.agg (kl z.fst z.snd).toArray, Value.int IntKind.i64 0], Value.agg (kl z.fst z.snd).toArray, Value.int .i64 (0 : Int), Value.int .i64 (0 : Int), Value.bool false, Value.agg (kl z.fst z.snd).toArray, Value.pointer (some ⟨ib, 2, none⟩), Value.agg (kl q.fst q.snd).toArray, Value.agg (kl se.fst se.snd).toArray, bif l 0 then Value.agg (kl se.1 se.2).toArray else u46, bif l 1 then Value.agg (kl cc.1 cc.2).toArray else u47, bif l 2 then Value.pointer (some ⟨N + 2, 19, none⟩) else u48, bif l 3 then Value.agg (kl y.1 y.2).toArray else u49, bif l 4 then Value.bool (same cc.1 cc.2 y.1 y.2) else u50, u51, u52, undef], defers := [] } ∧ (Below W4.heap.size W4 w') ∧ (Kbx w' sb se)) ⟨rfl, (HB10.out.1).drew, HB10.out.2⟩ ?_ ?_
            · rintro l a' w' i ⟨rfl, hB, hS⟩ hi' hli hpre
              have hi2 : i < 5 := hi'
              have hcase : i = 0 ∨ i = 1 ∨ i = 2 ∨ i = 3 ∨ i = 4 := by omega
              clear hi' hi2
              rcases hcase with rfl | rfl | rfl | rfl | rfl
              · -- 0: Op.load 23 (Operand.tmp 13)
                refine wpOp_step rfl (fun K' hK => ?_)
                clear hpre
                rw [if_pos (by rfl)]
                refine wp_load_mid 26 _ rfl _ 0 rfl (kl se.1 se.2) _ (Kbx.at_ hS) Try.underlying26 rfl (by rw [kl_len]; exact size23) ?_
                exact hK _ _ ⟨by simp [upd, Act.put], hB, hS⟩
              · -- 1: Op.call { callee := Callee.value (Operand.func 56), args := 
                have p0 : l 0 = true := hpre _ rfl ⟨0, .data⟩ (by simp) rfl
                refine wpOp_step rfl (fun K' hK => ?_)
                simp only [p0, cond_true, cond_false]
                clear hpre
                rw [if_pos (by rfl)]
                go_simp
                refine (HCk2.out _).mono ?_
                rintro e w11 ⟨rfl, hb5⟩
                exact hK _ _ ⟨by simp [upd, Act.put, p0], (hB).trans (hb5.mono (hB).size), Blk.keep (hS) hb5⟩
              · -- 2: Op.fieldAddr 59 (Operand.tmp 5) 4
                refine wpOp_step rfl (fun K' hK => ?_)
                clear hpre
                rw [if_pos (by rfl)]
                go_simp
                exact hK _ _ ⟨by simp [upd, Act.put], hB, hS⟩
              · -- 3: Op.load 23 (Operand.tmp 48)
                have p2 : l 2 = true := hpre _ rfl ⟨2, .data⟩ (by simp) rfl
                refine wpOp_step rfl (fun K' hK => ?_)
                simp only [p2, cond_true, cond_false]
                clear hpre
                rw [if_pos (by rfl)]
                refine wp_load_mid 26 _ rfl _ 19 rfl (kl y.1 y.2) _ (Hdx.chk (Blk.keep HE.out.2.2.2.2.1 hB)) Try.underlying26 rfl (by rw [kl_len]; exact size23) ?_
                exact hK _ _ ⟨by simp [upd, Act.put, p2], hB, hS⟩
              · -- 4: Op.binOp BinOp.eql 23 (Operand.tmp 47) (Operand.tmp 49) 23
                have p1 : l 1 = true := hpre _ rfl ⟨1, .data⟩ (by simp) rfl
                have p3 : l 3 = true := hpre _ rfl ⟨3, .data⟩ (by simp) rfl
                refine wpOp_step rfl (fun K' hK => ?_)
                simp only [p1, p3, cond_true, cond_false]
                clear hpre
                rw [if_pos (by rfl)]
                have hq := HQ.out
                go_simp
                exact hK _ _ ⟨by simp [upd, Act.put, p1, p3], hB, hS⟩
            · rintro l a' w9 hall ⟨rfl, hB, hS⟩
              simp only [hall 0 (by decide), hall 1 (by decide), hall 2 (by decide), hall 3 (by decide), hall 4 (by decide), cond_true]
              clear hall
              have H6 : Hid (Below W4.heap.size W4 w9 ∧ Kbx w9 sb se) := Lib.hid ⟨hB, hS⟩
              clear hB hS
              cases hcy : same cc.1 cc.2 y.1 y.2 with
              | true =>
                have hey : cc = y := by unfold same at hcy; have h2 := of_decide_eq_true hcy; exact Prod.ext h2.1 h2.2
                have HF := Lib.hid (HYs.out se (HHy2.out hey))
                have H3 := Lib.hid (HEND.out se w9 H6.out.1)
                clear hcy hey
                go_wp2_with (first
                  | ((with_reducible show wpList _ _ _ (Oper.mk _ (Op.load 26 _) _ _ _ _ :: _) _ _); refine wpList_load_key rfl _ rfl _ rfl _ _ (Kbx.at_ H6.out.2) ?_)
                  | ((with_reducible show wpList _ _ _ (Oper.mk _ (Op.store 26 _ _) _ _ _ _ :: _) _ _); refine wpList_store_key rfl _ _ rfl (N + 3) _ _ rfl rfl H3.out.1 ?_))
                exact bodyPost_ret (results_keye rfl _ _ (N + 3) se _ rfl rfl H3.out.2.1) rfl ⟨HF.out _ rfl, H3.out.2.2⟩
              | false =>
                have hey : cc ≠ y := fun h => by rw [h] at hcy; unfold same at hcy; simp at hcy
                have HNy := Lib.hid (HNx.out (HHn2.out hey))
                clear hcy hey
                go_wp2_with fail
                go_roundw
                case rel => exact ⟨k + 1, by omega, by go_num, Lib.hid H6.out.1, HNy⟩
                case measure => simp [intOf]; omega
        · have HF := Lib.hid (HCn.out (fun i hi => HA.out i (by omega)))
          have l3 : ¬ ((k : Int) < (n : Int)) := by omega
          have H3 := Lib.hid (HEND.out (0, 0) wr HBr.out)
          go_wp2_with (first
            | ((with_reducible show wpList _ _ _ (Oper.mk _ (Op.build 26 _) _ _ _ _ :: _) _ _); refine wpList_buildKey0 rfl rfl ?_)
            | ((with_reducible show wpList _ _ _ (Oper.mk _ (Op.store 26 _ _) _ _ _ _ :: _) _ _); refine wpList_store_key rfl _ _ rfl (N + 3) _ _ rfl rfl H3.out.1 ?_))
          exact bodyPost_ret (results_keye rfl _ _ (N + 3) (0, 0) _ rfl rfl H3.out.2.1) rfl ⟨HF.out _ rfl, H3.out.2.2⟩
  · have hsc := scc_no h
    rw [hsc]
    have H3 := Lib.hid (HEND.out (0, 0) w5 HB5.out)
    have HC0 : Hid (∀ e, e = .returned (.tuple #[.agg (kl 0 0).toArray, .int .i64 30]) → OpE K D E P Q G L nl n B np x y F e) := Lib.hid (fun e he => .inl ⟨scb_no h, he⟩)
    clear hsc h
    go_wp2_with (first
      | ((with_reducible show wpList _ _ _ (Oper.mk _ (Op.build 26 _) _ _ _ _ :: _) _ _); refine wpList_buildKey0 rfl rfl ?_)
      | ((with_reducible show wpList _ _ _ (Oper.mk _ (Op.store 26 _ _) _ _ _ _ :: _) _ _); refine wpList_store_key rfl _ _ rfl (N + 3) _ _ rfl rfl H3.out.1 ?_))
    exact bodyPost_ret (results_keye rfl _ _ (N + 3) (0, 0) _ rfl rfl H3.out.2.1) rfl ⟨HC0.out _ rfl, H3.out.2.2⟩
end Go.Proofs.Ytchkgccnipejhaa

/-
  Open, the specification's.
-/
namespace Go.Proofs.Ytchkgccnipejhaa
open Go.RowKit TR L2 L2.SP
set_option linter.unusedVariables false
set_option linter.unusedSimpArgs false

theorem range_key {w : World} {g b : Nat} {v x : Int} {p : Nat × Nat} (h : w.rangeAt g b (lbl v x p)) : w.rangeAt g (b + 2) (kl p.1 p.2) := fun j u hu => by
  have h1 : (lbl v x p)[2 + j]? = some u := by
    unfold lbl
    rw [List.getElem?_append_right (by simp), show 2 + j - [Value.int .i64 v, .int .i64 x].length = j by simp]
    exact hu
  have h2 := h (2 + j) u h1
  rwa [show b + (2 + j) = b + 2 + j by omega] at h2
theorem FndR.ex (d : Nat) (F : Nat → Int × Int × (Nat × Nat)) (v x n : Nat) : ∃ f q, FndR d F v x n f q := by
  have key : ∀ m, (∃ k, k < m ∧ ldb d (F k).1 (F k).2.1 v x = true ∧ ∀ i, i < k → ldb d (F i).1 (F i).2.1 v x = false) ∨ ∀ i, i < m → ldb d (F i).1 (F i).2.1 v x = false := by
    intro m
    induction m with
    | zero => exact .inr (fun i h => absurd h (by omega))
    | succ m ih =>
      rcases ih with ⟨k, h1, h2⟩ | h
      · exact .inl ⟨k, by omega, h2⟩
      · rcases hm : ldb d (F m).1 (F m).2.1 v x with _ | _
        · refine .inr (fun i hi => ?_)
          rcases Nat.lt_or_ge i m with h1 | h1
          · exact h i h1
          · obtain rfl : i = m := by omega
            exact hm
        · exact .inl ⟨m, by omega, hm, h⟩
  rcases key n with ⟨k, h1, h2, h3⟩ | h
  · exact ⟨true, _, .inl ⟨k, h1, h2, h3, rfl, rfl⟩⟩
  · exact ⟨false, _, .inr ⟨h, rfl, rfl⟩⟩

end Go.Proofs.Ytchkgccnipejhaa

/-
  A twin of a header: the same items and points in memory of its own.
-/
namespace Go.Proofs.Ytchkgccnipejhaa
open Go.RowKit TR L2 L2.SP
set_option linter.unusedVariables false
set_option linter.unusedSimpArgs false

/-- The cells of some points. -/
def ptF (f : Nat → Int × Int) (n : Nat) : List Value := (List.range n).flatMap fun i => [.int .u64 (f i).1, .int .u64 (f i).2]
theorem ptF_succ (f : Nat → Int × Int) (n : Nat) : ptF f (n + 1) = ptF f n ++ [.int .u64 (f n).1, .int .u64 (f n).2] := by
  unfold ptF; rw [List.range_succ, List.flatMap_append]; simp
theorem ptF_len (f : Nat → Int × Int) : ∀ n, (ptF f n).length = n * 2
  | 0 => rfl
  | n + 1 => by rw [ptF_succ, List.length_append, ptF_len f n]; simp; omega
theorem ptF_one (f : Nat → Int × Int) (n : Nat) : ∀ u ∈ ptF f n, u.oneCell' = true := by
  intro u hu
  unfold ptF at hu
  rw [List.mem_flatMap] at hu
  obtain ⟨i, _, h⟩ := hu
  simp at h
  rcases h with rfl | rfl <;> rfl
theorem ptF_get (f : Nat → Int × Int) : ∀ (n i j : Nat), i < n → j < 2 → (ptF f n)[i * 2 + j]? = [Value.int .u64 (f i).1, Value.int .u64 (f i).2][j]?
  | 0, i, j, h, _ => absurd h (by omega)
  | n + 1, i, j, h, hj => by
    rw [ptF_succ]
    rcases Nat.lt_or_ge i n with h1 | h1
    · rw [List.getElem?_append_left (by rw [ptF_len]; omega), ptF_get f n i j h1 hj]
    · obtain rfl : i = n := by omega
      rw [List.getElem?_append_right (by rw [ptF_len]; omega), ptF_len]
      congr 1; omega
theorem infoPnt : (Try.prog.info? 70).map (fun i => (i.zero, i.size, i.bytes)) = some (some (.agg #[.int .u64 0, .int .u64 0]), 2, 16) := by kernel_rfl
/-- A row of points of one's own. -/
theorem own_points {w : World} {B e n : Nat} {v : Value} {F : Nat → Int × Int} (h : w.ownsRow B e 2 v n (ptF F n)) : ∃ A c, v = .slice A n c ∧ n ≤ c ∧ (n = 0 ∨ ∃ g, A = some ⟨g, 0, none⟩ ∧ B ≤ g ∧ ∀ i, i < n → w.rangeAt g (i * 2) [.int .u64 (F i).1, .int .u64 (F i).2]) := by
  obtain ⟨A, c, rfl, hc, hk⟩ := own_cap h
  refine ⟨A, c, rfl, hc, ?_⟩
  rcases hk with h0 | ⟨g, h1, h2, h3, h4, _⟩
  · exact .inl h0
  · refine .inr ⟨g, h1, h2, fun i hi j u hu => ?_⟩
    have hj : j < 2 := by have := (List.getElem?_eq_some_iff.1 hu).1; simpa using this
    exact h4 (i * 2 + j) u (by rw [ptF_get F n i j hi hj]; exact hu)
theorem results_hdi1 {fn : Func} {p : Tmp} (h : fn.results = #[.cell p 28]) (tmps : Array Value) (w : World) (b : Nat) (iv pv : Value) (B : Int) (x y : Nat × Nat)
    (hp : tmps.getD p undef = .pointer (some ⟨b, 0, none⟩)) (hc : Hdx w b iv pv B x y) : (results fn tmps).run Try.prog w = .ok (.agg (hdi iv pv B x y).toArray) w := by
  have hp' : tmps[p]?.getD undef = .pointer (some ⟨b, 0, none⟩) := by simpa using hp
  simp [results, h, hp', asAddr, run_loadVar_mid w b 0 28 (hdi iv pv B x y) _ hc.range Try.underlying28 rfl (by rw [hdi_len]; exact sizeHdr)]
theorem Hdx.setPoints {w : World} {b : Nat} {iv pv : Value} {B : Int} {x y : Nat × Nat} (h : Hdx w b iv pv B x y) (pv' : Value) : Hdx (w.setCell ⟨b, 2, none⟩ pv') b iv pv' B x y := by
  have h1 := h.set1 2 pv'
  have e : (hdi iv pv B x y).toArray.setIfInBounds 2 pv' = (hdi iv pv' B x y).toArray := by simp [hdi]
  rw [e] at h1; exact h1

/-- What comes in as a header, or stands somewhere: its items and its points. -/
structure HdIn (w : World) (A Ap : Option Addr) (g o n m h r np kp : Nat) (F : Nat → Int × Int × (Nat × Nat)) (H : Nat → Int × Int) : Prop where
  had : n = 0 ∨ A = some ⟨g, o, none⟩
  itm : ∀ i, i < n → w.rangeAt g (o + i * 18) (lbl (F i).1 (F i).2.1 (F i).2.2)
  hpd : np = 0 ∨ Ap = some ⟨h, r, none⟩
  pnt : ∀ i, i < np → w.rangeAt h (r + i * 2) [.int .u64 (H i).1, .int .u64 (H i).2]
theorem HdIn.keep {w w' : World} {A Ap : Option Addr} {g o n m h r np kp : Nat} {F : Nat → Int × Int × (Nat × Nat)} {H : Nat → Int × Int} (k : HdIn w A Ap g o n m h r np kp F H) (hb : Below w.heap.size w w') : HdIn w' A Ap g o n m h r np kp F H :=
  ⟨k.had, fun i hi j u hu => (hb.cell (p := ⟨g, o + i * 18 + j, none⟩) (World.block_lt_of_cell? w _ (k.itm i hi j u hu))).trans (k.itm i hi j u hu), k.hpd, fun i hi j u hu => (hb.cell (p := ⟨h, r + i * 2 + j, none⟩) (World.block_lt_of_cell? w _ (k.pnt i hi j u hu))).trans (k.pnt i hi j u hu)⟩

set_option maxRecDepth 100000 in
set_option maxHeartbeats 400000 in
theorem twinHeader_any (B : Int) (x y : Nat × Nat) (A Ap : Option Addr) (g o n m h r np kp : Nat) (F : Nat → Int × Int × (Nat × Nat)) (H : Nat → Int × Int) (w : World) (hn : n ≤ 4398046511104) (hnp : np ≤ 8796093022208) (hin : HdIn w A Ap g o n m h r np kp F H) :
    Calls Try.prog 15 #[.agg (hdi (.slice A n m) (.slice Ap np kp) B x y).toArray] w fun e w' => (∃ A1 m1 A2 k2, e = .returned (.agg (hdi (.slice A1 n m1) (.slice A2 np k2) B x y).toArray) ∧ w'.ownsRow w.heap.size 90 18 (.slice A1 n m1) n (lbF F n) ∧ w'.ownsRow w.heap.size 70 2 (.slice A2 np k2) np (ptF H np)) ∧ Below w.heap.size w w' := by
  obtain ⟨N, hN⟩ : ∃ N, N = w.heap.size := ⟨_, rfl⟩
  obtain ⟨W2, hW2⟩ : ∃ W2, W2 = (w.alloc (.cells (hdi (.slice A n m) (.slice Ap np kp) B x y).toArray 28)).alloc (.cells z35 28) := ⟨_, rfl⟩
  have s2 : W2.heap.size = N + 2 := by rw [hW2, hN]; simp
  have b2 : Below N w W2 := by rw [hW2, hN]; exact (below_alloc _ _).trans ((below_alloc _ _).mono (by simp))
  have e1 : Hdx W2 N (.slice A n m) (.slice Ap np kp) B x y := by rw [hW2, hN]; exact Blk.keep (Blk.new w _ _) (below_alloc _ _)
  have e2 : Blk W2 (N + 1) z35 28 := by
    have h := Blk.new (w.alloc (.cells (hdi (.slice A n m) (.slice Ap np kp) B x y).toArray 28)) z35 28
    rw [World.size_alloc, ← hN] at h; rw [hW2]; exact h
  have hin2 := hin.keep (w' := W2) (by rw [← hN]; exact b2)
  obtain ⟨i0, hi, hz0, hz1, hz2⟩ := info_parts infoItm
  obtain ⟨v1, w6, hap1, ho1, hg1⟩ := append_run (T := 22) (e := 90) (i0 := i0) (z := .agg lz18) (size := 18) (bytes := 32) Try.underlying22 hi hz0 hz1 hz2 rfl (by omega) 22 W2 (N + 2) 0 n m (.slice none 0 0) [] (lbF F n) A (World.ownsRow_nil _ _ _ _)
    (fun h => by rcases hin.had with h0 | h0; exact h0; rw [h] at h0; cases h0)
    (fun ad hA j u hu => by
      have hj : j < n * 18 := by have := (List.getElem?_eq_some_iff.1 hu).1; rwa [lbF_len] at this
      have h1 : j / 18 < n := by omega
      obtain rfl : ad = ⟨g, o, none⟩ := by
        rcases hin.had with h0 | h0
        · omega
        · rw [h0] at hA; injection hA with hA; exact hA.symm
      have h2 := lbF_get F n (j / 18) (j % 18) h1 (by omega)
      rw [show j / 18 * 18 + j % 18 = j by omega, hu] at h2
      rw [Addr.add_mid, show o + j = o + j / 18 * 18 + j % 18 by omega]
      exact hin2.itm (j / 18) h1 (j % 18) u h2.symm)
    (lbF_len F n) (lbF_one F n) (by unfold maxLen; omega) (by omega) (by rw [s2]; exact Nat.le_refl _)
  rw [Nat.zero_add] at ho1
  have b26 : Below (N + 2) W2 w6 := (Below.refl _ _).grown hg1 (by rw [s2]; exact Nat.le_refl _) (fun b hb => by cases hb)
  obtain ⟨A1, m1, rfl⟩ := own_val ho1
  have k1 : Hdx w6 N (.slice A n m) (.slice Ap np kp) B x y := Blk.below e1 b26 (by omega)
  have k1' : Blk w6 (N + 1) z35 28 := e2.below b26 (by omega)
  have k2 : Hdx (w6.setCell ⟨N, 0, none⟩ (.slice A1 n m1)) N (.slice A1 n m1) (.slice Ap np kp) B x y := Hdx.setItems k1 _
  have k2' : Blk (w6.setCell ⟨N, 0, none⟩ (.slice A1 n m1)) (N + 1) z35 28 := k1'.other (by simp) _
  have ho2 := ownsRow_setCell_other (a := ⟨N, 0, none⟩) ho1 (Ne.symm (Blk.apart k1 ho1 (by decide))) (.slice A1 n m1)
  have b27 : Below N w (w6.setCell ⟨N, 0, none⟩ (.slice A1 n m1)) := (b2.trans (b26.mono (by omega))).setCell (p := ⟨N, 0, none⟩) (Nat.le_refl _) _
  have s7 : N + 2 ≤ (w6.setCell ⟨N, 0, none⟩ (.slice A1 n m1)).heap.size := by rw [World.size_setCell]; have := hg1.size; omega
  have hin7 := hin.keep (w' := w6.setCell ⟨N, 0, none⟩ (.slice A1 n m1)) (by rw [← hN]; exact b27)
  obtain ⟨W7, hW7⟩ : ∃ W7, W7 = w6.setCell ⟨N, 0, none⟩ (.slice A1 n m1) := ⟨_, rfl⟩
  rw [← hW7] at k2 k2' ho2 b27 s7 hin7
  obtain ⟨j0, hj, hy0, hy1, hy2⟩ := info_parts infoPnt
  obtain ⟨v2, w8, hap2, ho3, hg3⟩ := append_run (T := 24) (e := 70) (i0 := j0) (z := .agg #[.int .u64 0, .int .u64 0]) (size := 2) (bytes := 16) Try.underlying24 hj hy0 hy1 hy2 rfl (by omega) 24 W7 (N + 2) 0 np kp (.slice none 0 0) [] (ptF H np) Ap (World.ownsRow_nil _ _ _ _)
    (fun h => by rcases hin.hpd with h0 | h0; exact h0; rw [h] at h0; cases h0)
    (fun ad hA j u hu => by
      have hj : j < np * 2 := by have := (List.getElem?_eq_some_iff.1 hu).1; rwa [ptF_len] at this
      have h1 : j / 2 < np := by omega
      obtain rfl : ad = ⟨h, r, none⟩ := by
        rcases hin.hpd with h0 | h0
        · omega
        · rw [h0] at hA; injection hA with hA; exact hA.symm
      have h2 := ptF_get H np (j / 2) (j % 2) h1 (by omega)
      rw [show j / 2 * 2 + j % 2 = j by omega, hu] at h2
      rw [Addr.add_mid, show r + j = r + j / 2 * 2 + j % 2 by omega]
      exact hin7.pnt (j / 2) h1 (j % 2) u h2.symm)
    (ptF_len H np) (ptF_one H np) (by unfold maxLen; omega) (by omega) s7
  rw [Nat.zero_add] at ho3
  have b78 : Below W7.heap.size W7 w8 := (Below.refl _ _).grown hg3 (Nat.le_refl _) (fun b hb => by cases hb)
  obtain ⟨A2, k2n, rfl⟩ := own_val ho3
  have k3 : Hdx w8 N (.slice A1 n m1) (.slice Ap np kp) B x y := Blk.keep k2 b78
  have k3' : Blk w8 (N + 1) z35 28 := k2'.keep b78
  have k4 : Hdx (w8.setCell ⟨N, 2, none⟩ (.slice A2 np k2n)) N (.slice A1 n m1) (.slice A2 np k2n) B x y := Hdx.setPoints k3 _
  have k4' : Blk (w8.setCell ⟨N, 2, none⟩ (.slice A2 np k2n)) (N + 1) z35 28 := k3'.other (by simp) _
  have ho4 := ownsRow_setCell_other (a := ⟨N, 2, none⟩) (own_below ho2 b78) (Ne.symm (Blk.apart k3 (own_below ho2 b78) (by decide))) (.slice A2 np k2n)
  have ho5 := ownsRow_setCell_other (a := ⟨N, 2, none⟩) ho3 (Ne.symm (Blk.apart k3 ho3 (by decide))) (.slice A2 np k2n)
  have ho6 := own_setCells (hdi (.slice A1 n m1) (.slice A2 np k2n) B x y) 0 ho4 (k4'.apart ho4 (by decide))
  have ho7 := own_setCells (hdi (.slice A1 n m1) (.slice A2 np k2n) B x y) 0 ho5 (k4'.apart ho5 (by decide))
  have b8 : Below N w ((w8.setCell ⟨N, 2, none⟩ (.slice A2 np k2n)).setCells (N + 1) 0 (hdi (.slice A1 n m1) (.slice A2 np k2n) B x y)) := below_setCells _ _ _ _ ((b27.trans (b78.mono (by omega))).setCell (p := ⟨N, 2, none⟩) (Nat.le_refl _) _) (by omega)
  have k5 : Hdx ((w8.setCell ⟨N, 2, none⟩ (.slice A2 np k2n)).setCells (N + 1) 0 (hdi (.slice A1 n m1) (.slice A2 np k2n) B x y)) (N + 1) (.slice A1 n m1) (.slice A2 np k2n) B x y := Hdx.stored k4' z35_size _ _ _ _ _
  have HRES := Lib.hid (And.intro (own_lower (B := N) (by omega) ho6) (own_lower (B := N) (by omega) ho7))
  have HN := Lib.hid hN
  have HW := Lib.hid hW2
  have HW7 := Lib.hid hW7
  rw [← hN]
  have c0 := Hdx.c0 e1
  rw [hW2, hN] at c0
  have d0 := Hdx.c0 k1
  have f0 := Blk.fr k1 0
  have d2 := Hdx.c2 k2
  have d3 := Hdx.c2 k3
  have f3 := Blk.fr k3 2
  have hth : (w8.setCell ⟨N, 2, none⟩ (.slice A2 np k2n)).there (N + 1) 0 35 := k4'.there
  have HB8 := Lib.hid b8
  have HK4 := Lib.hid k4
  have HK5 := Lib.hid k5
  rw [hW7] at d2
  clear hN hW2 hW7 s2 b2 e1 e2 hin2 hi hz0 hz1 hz2 ho1 hg1 b26 k1 k1' k2 k2' ho2 b27 s7 hin7 hj hy0 hy1 hy2 ho3 hg3 b78 k3 k3' k4 k4' ho4 ho5 ho6 ho7 b8 k5 hin hn hnp
  go_enter Try.func15, Try.ntmps15
  go_wp2_with (first
    | (at_builtin; rw [← HW.out, ← HN.out]; refine Lib.wpList_append_run _ rfl _ _ _ _ rfl _ _ rfl rfl _ _ hap1 ?_)
    | (at_builtin; rw [← HW7.out]; refine Lib.wpList_append_run _ rfl _ _ _ _ rfl _ _ rfl rfl _ _ hap2 ?_)
    | ((with_reducible show wpList _ _ _ (Oper.mk _ (Op.load 28 _) _ _ _ _ :: _) _ _); refine wpList_load_hdi rfl _ rfl _ rfl _ _ _ _ _ HK4.out ?_)
    | ((with_reducible show wpList _ _ _ (Oper.mk _ (Op.store 28 _ _) _ _ _ _ :: _) _ _); refine wpList_store_hdi rfl _ _ rfl _ _ _ _ _ _ rfl rfl rfl rfl hth ?_))
  exact bodyPost_ret (results_hdi1 rfl _ _ (N + 1) _ _ _ _ _ rfl HK5.out) rfl ⟨⟨A1, m1, A2, k2n, rfl, HRES.out.1, HRES.out.2⟩, HB8.out⟩

end Go.Proofs.Ytchkgccnipejhaa

/-
  The walk through the law of opening.
-/
namespace Go.Proofs.Ytchkgccnipejhaa
open Go.RowKit TR L2 L2.SP
set_option linter.unusedVariables false
set_option linter.unusedSimpArgs false

theorem hdi_arrsize (iv pv : Value) (B : Int) (x y : Nat × Nat) : (hdi iv pv B x y).toArray.size = (z35 : Array Value).size := by simp [hdi_len]
theorem Blk.ne {w : World} {a b : Nat} {cs cs' : Array Value} {t t' : TypeId} (h : Blk w a cs t) (h' : Blk w b cs' t') (hne : t ≠ t') : a ≠ b := fun e => by
  subst e
  unfold Blk at h h'
  rw [h] at h'
  injection h' with h'
  injection h' with _ h3 _
  exact hne h3
theorem wpList_load_hdo {ops : Array Oper} {rest : List Oper} {op : Oper} {a : Act} {w : World} {Q : Exit → Act → World → Prop} (hw : Region.wanted op (yielded ops a.tmps) = true) (x : Operand) (ho : op.op = .load 28 x)
    (b : Nat) (hx : a.eval x = .pointer (some ⟨b, 0, none⟩)) (iv pv : Value) (B : Int) (p q : Nat × Nat) (hc : Hdx w b iv pv B p q)
    (h : wpList Try.prog ops Q rest (a.put op.dst (.agg (hdi iv pv B p q).toArray)) w) : wpList Try.prog ops Q (op :: rest) a w :=
  wpList_load_on hw 28 x ho b 0 hx (hdi iv pv B p q) _ hc.range Try.underlying28 rfl (by rw [hdi_len]; exact sizeHdr) h
/-- A twin's rows, where they stand. -/
theorem twin_rows {w : World} {B1 B2 B3 n np nl mi mp ml : Nat} {Ai Ap Al : Option Addr} {F L : Nat → Int × Int × (Nat × Nat)} {H : Nat → Int × Int} (h1 : w.ownsRow B1 90 18 (.slice Ai n mi) n (lbF F n)) (h2 : w.ownsRow B2 70 2 (.slice Ap np mp) np (ptF H np)) (h3 : w.ownsRow B3 82 18 (.slice Al nl ml) nl (lbF L nl)) :
    n ≤ mi ∧ np ≤ mp ∧ nl ≤ ml ∧ ∃ g1 p1 l1, HdIn w Ai Ap g1 0 n mi p1 0 np mp F H ∧ (nl = 0 ∨ Al = some ⟨l1, 0, none⟩) ∧ ∀ i, i < nl → w.rangeAt l1 (i * 18) (lbl (L i).1 (L i).2.1 (L i).2.2) := by
  obtain ⟨_, _, hv1, hc1, q1⟩ := own_items h1
  injection hv1 with e1 _ e2
  subst e1; subst e2
  obtain ⟨_, _, hv2, hc2, q2⟩ := own_points h2
  injection hv2 with e1 _ e2
  subst e1; subst e2
  obtain ⟨_, _, hv3, hc3, q3⟩ := own_items h3
  injection hv3 with e1 _ e2
  subst e1; subst e2
  refine ⟨hc1, hc2, hc3, ?_⟩
  have p1 : ∃ g1, (n = 0 ∨ Ai = some ⟨g1, 0, none⟩) ∧ ∀ i, i < n → w.rangeAt g1 (0 + i * 18) (lbl (F i).1 (F i).2.1 (F i).2.2) := by
    rcases q1 with h0 | ⟨g1, h1, _, h2⟩
    · exact ⟨0, .inl h0, fun i hi => by omega⟩
    · exact ⟨g1, .inr h1, fun i hi => by rw [Nat.zero_add]; exact h2 i hi⟩
  have p2 : ∃ h2, (np = 0 ∨ Ap = some ⟨h2, 0, none⟩) ∧ ∀ i, i < np → w.rangeAt h2 (0 + i * 2) [.int .u64 (H i).1, .int .u64 (H i).2] := by
    rcases q2 with h0 | ⟨g1, h1, _, h2⟩
    · exact ⟨0, .inl h0, fun i hi => by omega⟩
    · exact ⟨g1, .inr h1, fun i hi => by rw [Nat.zero_add]; exact h2 i hi⟩
  have p3 : ∃ l1, (nl = 0 ∨ Al = some ⟨l1, 0, none⟩) ∧ ∀ i, i < nl → w.rangeAt l1 (i * 18) (lbl (L i).1 (L i).2.1 (L i).2.2) := by
    rcases q3 with h0 | ⟨g1, h1, _, h2⟩
    · exact ⟨0, .inl h0, fun i hi => by omega⟩
    · exact ⟨g1, .inr h1, h2⟩
  obtain ⟨g1, u1, u2⟩ := p1
  obtain ⟨p1, u3, u4⟩ := p2
  obtain ⟨l1, u5, u6⟩ := p3
  exact ⟨g1, p1, l1, ⟨u1, u2, u3, u4⟩, u5, u6⟩

end Go.Proofs.Ytchkgccnipejhaa
