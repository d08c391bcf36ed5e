/-
  Texts joined into one: OpnH, OpnI, Opb.
-/
import Derived.Test.YtchkgccnipejhaaJS
import Derived.Test.YtchkgccnipejhaaJT

/-
  A header that comes in.
-/
namespace Go.Proofs.Ytchkgccnipejhaa
open Go.ChangeShapes Go.WideShapes Go.ChangeAt Go.RowKit Go.Joins TR L2 L2.SP
set_option linter.unusedVariables false
set_option maxRecDepth 100000

theorem cells90 : Try.prog.cellsOf 90 = 18 := by kernel_rfl
theorem cells28 : Try.prog.cellsOf 28 = 35 := by kernel_rfl
theorem cells22 : Try.prog.cellsOf 22 = 1 := by kernel_rfl
theorem cells24 : Try.prog.cellsOf 24 = 1 := by kernel_rfl
theorem bytes90 : Try.prog.bytesOf 90 = 32 := by kernel_rfl
theorem bytes70 : Try.prog.bytesOf 70 = 16 := by kernel_rfl

section
variable {H : Type} {enc : TypeId × Value → H} {P : Program} {w : World} {base : Nat} {spare : Nat → Bool} {held : Bool}
theorem trod_struct5 {t : TypeId} {f0 f1 f2 f3 f4 : Field} {fuel : Nat} {cs : List Value} {x : DataW H × List MemPlace} (ht : P.underlying t = some (.struct #[f0, f1, f2, f3, f4])) (h : DataW.trod enc P w base spare held fuel t cs = some x) :
    ∃ y0 y1 y2 y3 y4 n, x = (.agg [y0.1, y1.1, y2.1, y3.1, y4.1], y0.2 ++ (y1.2 ++ (y2.2 ++ (y3.2 ++ y4.2)))) ∧ cs.length = P.cellsOf t ∧ DataW.trod enc P w base spare held n f0.type ((cs.drop f0.offset).take (P.cellsOf f0.type)) = some y0 ∧
      DataW.trod enc P w base spare held n f1.type ((cs.drop f1.offset).take (P.cellsOf f1.type)) = some y1 ∧ DataW.trod enc P w base spare held n f2.type ((cs.drop f2.offset).take (P.cellsOf f2.type)) = some y2 ∧
      DataW.trod enc P w base spare held n f3.type ((cs.drop f3.offset).take (P.cellsOf f3.type)) = some y3 ∧ DataW.trod enc P w base spare held n f4.type ((cs.drop f4.offset).take (P.cellsOf f4.type)) = some y4 := by
  obtain ⟨xs, n, _, rfl, hl, hlen, hf⟩ := DataW.trod_struct ht h
  match xs, hlen with
  | [y0, y1, y2, y3, y4], _ => exact ⟨y0, y1, y2, y3, y4, n, by simp, hl, by simpa using hf 0 f0 rfl, by simpa using hf 1 f1 rfl, by simpa using hf 2 f2 rfl, by simpa using hf 3 f3 rfl, by simpa using hf 4 f4 rfl⟩
end

theorem open_iteml {H : Type} {enc : TypeId × Value → H} {W : World} {base : Nat} {sp : Nat → Bool} {held : Bool} {fuel : Nat} {cs : List Value} {x : DataW H × List MemPlace}
    (hf : DataW.trod enc Try.prog W base sp held fuel 90 cs = some x) : ∃ (a b : Int) (q : Nat × Nat), Ok q ∧ cs = lbl a b q := by
  obtain ⟨y0, y1, n, _, hl, h0, h1⟩ := Go.ChangeShapes.trod_struct2 Try.underlying90 hf
  rw [cells90] at hl
  obtain ⟨c0, c1, r, rfl⟩ : ∃ c0 c1 r, cs = c0 :: c1 :: r := by
    match cs, hl with
    | c0 :: c1 :: r, _ => exact ⟨c0, c1, r, rfl⟩
  have hr : r.length = 16 := by simpa using hl
  simp only [cells56, cells26, List.drop_zero, List.take_succ_cons, List.take_zero, List.drop_succ_cons] at h0 h1
  rw [List.take_of_length_le (by omega)] at h1
  obtain ⟨z0, z1, n9, _, _, g0, g1⟩ := Go.ChangeShapes.trod_struct2 Try.underlying56 h0
  simp [cells3] at g0 g1
  obtain ⟨a, e0, -, u0⟩ := DataW.trod_int Try.underlying3 g0
  obtain ⟨b, e1, -, u1⟩ := DataW.trod_int Try.underlying3 g1
  obtain ⟨X, Y, hX, hY, rfl⟩ := open_keyl h1 hr
  simp only [List.cons.injEq, and_true] at e0 e1
  subst e0 e1
  exact ⟨a, b, (X, Y), ⟨hX, hY⟩, rfl⟩

theorem open_items {H : Type} {enc : TypeId × Value → H} {W : World} {sp : Nat → Bool} {held : Bool} {fuel : Nat} {v : Value} {x : DataW H × List MemPlace}
    (h1 : DataW.trod enc Try.prog W 0 sp held fuel 22 [v] = some x) : ∃ (A : Option Addr) (g o n m : Nat) (F : Nat → Int × Int × (Nat × Nat)), v = .slice A n m ∧ n ≤ m ∧ (n = 0 ∨ A = some ⟨g, o, none⟩) ∧
      (∀ i, i < n → W.rangeAt g (o + i * 18) (lbl (F i).1 (F i).2.1 (F i).2.2) ∧ Ok (F i).2.2) ∧ (n = 0 ∨ ∃ elems spare, x.1 = .slice elems spare ∧ elems.length = n) := by
  rcases Go.Deep.open_slice Try.underlying22 h1 with ⟨hc, hy⟩ | ⟨a, len, cap, m', k2, D, Pl, hc, _, hl, hm, hm', hy, hel⟩
  · simp only [List.cons.injEq, and_true] at hc
    subst hc
    exact ⟨none, 0, 0, 0, 0, fun _ => (0, 0, (0, 0)), rfl, Nat.le_refl _, .inl rfl, fun i hi => by omega, .inl rfl⟩
  · simp only [List.cons.injEq, and_true] at hc
    subst hc
    have hml : len ≤ m' := by rw [hm']; split <;> omega
    rcases Nat.eq_zero_or_pos len with h0 | h0
    · exact ⟨some a, 0, 0, len, cap, fun _ => (0, 0, (0, 0)), rfl, hl, .inl h0, fun i hi => by omega, .inl h0⟩
    · obtain ⟨F, hF⟩ := Go.Deep.choose_lt (α := Int × Int × (Nat × Nat)) (n := len) (p := fun i y => (∀ j u, (lbl y.1 y.2.1 y.2.2)[j]? = some u → W.cell? (a.add (i * 18 + j)) = some u) ∧ Ok y.2.2) (fun i hi => by
        obtain ⟨cs', h5, h6⟩ := hel i (by omega)
        rw [cells90] at h5
        obtain ⟨x1, x2, q, hq, rfl⟩ := open_iteml h6
        obtain ⟨_, h7, h8⟩ := World.cells?_some h5
        refine ⟨(x1, x2, q), fun j u hu => ?_, hq⟩
        have hj : j < 18 := by have := (List.getElem?_eq_some_iff.1 hu).1; rwa [lbl_len] at this
        have h9 := h8 j hj
        rw [Go.Deep.add_add] at h9
        rw [h9]; exact hu)
      have h3 : W.cell? (a.add (0 * 18 + 0)) = some (.int .i64 (F 0).1) := (hF 0 h0).1 0 _ rfl
      have hs : a.spot = none := by simpa [Addr.add] using World.cell?_spot h3
      refine ⟨some a, a.block, a.off, len, cap, F, rfl, hl, .inr (by cases a; simp_all), fun i hi => ⟨fun j u hu => ?_, (hF i hi).2⟩, .inr ⟨_, _, by rw [hy], by simp⟩⟩
      have h4 := (hF i hi).1 j u hu
      have e1 : a.add (i * 18 + j) = ⟨a.block, a.off + i * 18 + j, none⟩ := by
        obtain ⟨ab, ao, asp⟩ := a
        simp only at hs
        subst hs
        rw [Addr.add_mid]
        show (⟨ab, ao + (i * 18 + j), none⟩ : Addr) = ⟨ab, ao + i * 18 + j, none⟩
        rw [Nat.add_assoc]
      rw [e1] at h4
      exact h4

theorem open_points {H : Type} {enc : TypeId × Value → H} {W : World} {sp : Nat → Bool} {held : Bool} {fuel : Nat} {v : Value} {x : DataW H × List MemPlace}
    (h1 : DataW.trod enc Try.prog W 0 sp held fuel 24 [v] = some x) : ∃ (A : Option Addr) (g o n m : Nat) (F : Nat → Int × Int), v = .slice A n m ∧ n ≤ m ∧ (n = 0 ∨ A = some ⟨g, o, none⟩) ∧
      (∀ i, i < n → W.rangeAt g (o + i * 2) [.int .u64 (F i).1, .int .u64 (F i).2]) ∧ (n = 0 ∨ ∃ elems spare, x.1 = .slice elems spare ∧ elems.length = n) := by
  rcases Go.Deep.open_slice Try.underlying24 h1 with ⟨hc, hy⟩ | ⟨a, len, cap, m', k2, D, Pl, hc, _, hl, hm, hm', hy, hel⟩
  · simp only [List.cons.injEq, and_true] at hc
    subst hc
    exact ⟨none, 0, 0, 0, 0, fun _ => (0, 0), rfl, Nat.le_refl _, .inl rfl, fun i hi => by omega, .inl rfl⟩
  · simp only [List.cons.injEq, and_true] at hc
    subst hc
    have hml : len ≤ m' := by rw [hm']; split <;> omega
    rcases Nat.eq_zero_or_pos len with h0 | h0
    · exact ⟨some a, 0, 0, len, cap, fun _ => (0, 0), rfl, hl, .inl h0, fun i hi => by omega, .inl h0⟩
    · obtain ⟨F, hF⟩ := Go.Deep.choose_lt (α := Int × Int) (n := len) (p := fun i y => ∀ j u, [Value.int .u64 y.1, Value.int .u64 y.2][j]? = some u → W.cell? (a.add (i * 2 + j)) = some u) (fun i hi => by
        obtain ⟨cs', h5, h6⟩ := hel i (by omega)
        rw [cells70] at h5
        obtain ⟨_, h7, h8⟩ := World.cells?_some h5
        obtain ⟨c0, c1, rfl⟩ : ∃ c0 c1, cs' = [c0, c1] := by
          match cs', h7 with
          | [c0, c1], _ => exact ⟨c0, c1, rfl⟩
        obtain ⟨y0, y1, n9, _, _, g0, g1⟩ := Go.ChangeShapes.trod_struct2 Try.underlying70 h6
        simp [cells23] at g0 g1
        obtain ⟨D1, e1, -, u1⟩ := DataW.trod_int Try.underlying23 g0
        obtain ⟨E1, e2, -, u2⟩ := DataW.trod_int Try.underlying23 g1
        simp only [List.cons.injEq, and_true] at e1 e2
        subst e1 e2
        refine ⟨(D1, E1), fun j u hu => ?_⟩
        have hj : j < 2 := by have := (List.getElem?_eq_some_iff.1 hu).1; simpa using this
        have h9 := h8 j hj
        rw [Go.Deep.add_add] at h9
        rw [h9]; exact hu)
      have h3 : W.cell? (a.add (0 * 2 + 0)) = some (.int .u64 (F 0).1) := hF 0 h0 0 _ rfl
      have hs : a.spot = none := by simpa [Addr.add] using World.cell?_spot h3
      refine ⟨some a, a.block, a.off, len, cap, F, rfl, hl, .inr (by cases a; simp_all), fun i hi j u hu => ?_, .inr ⟨_, _, by rw [hy], by simp⟩⟩
      have h4 := hF i hi j u hu
      have e1 : a.add (i * 2 + j) = ⟨a.block, a.off + i * 2 + j, none⟩ := by
        obtain ⟨ab, ao, asp⟩ := a
        simp only at hs
        subst hs
        rw [Addr.add_mid]
        show (⟨ab, ao + (i * 2 + j), none⟩ : Addr) = ⟨ab, ao + i * 2 + j, none⟩
        rw [Nat.add_assoc]
      rw [e1] at h4
      exact h4

/-- A header that comes in. -/
theorem open_header {H : Type} {enc : TypeId × Value → H} {W : World} {base : Nat} {sp : Nat → Bool} {v : Value} {d : DataW H} {p : List MemPlace}
    (hok : Value.okWide Try.prog W .any base 28 v) (h : DataW.Trod enc Try.prog W 0 sp true 28 v d p) :
    ∃ (A Ap : Option Addr) (g o n m hb r np kp : Nat) (B : Int) (x y : Nat × Nat) (F : Nat → Int × Int × (Nat × Nat)) (K : Nat → Int × Int), v = .agg (hdi (.slice A n m) (.slice Ap np kp) B x y).toArray ∧ n ≤ m ∧ np ≤ kp ∧ Ok x ∧ Ok y ∧ HdIn W A Ap g o n m hb r np kp F K ∧ (∀ i, i < n → Ok (F i).2.2) ∧
      ∃ d0 d1 d2 d3 d4, d = .agg [d0, d1, d2, d3, d4] ∧ (n = 0 ∨ ∃ elems spare, d0 = .slice elems spare ∧ elems.length = n) ∧ (np = 0 ∨ ∃ elems spare, d2 = .slice elems spare ∧ elems.length = np) := by
  obtain ⟨cs, rfl, hsz⟩ := okWide_struct Try.underlying28 hok
  rw [cells28] at hsz
  obtain ⟨fuel, hf⟩ := h
  obtain ⟨y0, y1, y2, y3, y4, k, hx, _, h0, h1, h2, h3, h4⟩ := trod_struct5 Try.underlying28 hf
  obtain ⟨L, rfl⟩ : ∃ L : List Value, cs = L.toArray := ⟨cs.toList, by simp⟩
  have hL : L.length = 35 := by simpa using hsz
  obtain ⟨c0, c1, c2, rr, rfl⟩ : ∃ c0 c1 c2 rr, L = c0 :: c1 :: c2 :: rr := by
    match L, hL with
    | c0 :: c1 :: c2 :: rr, _ => exact ⟨c0, c1, c2, rr, rfl⟩
  have hr : rr.length = 32 := by simpa using hL
  simp [Value.cells, cells22, cells24, cells23, cells26] at h0 h1 h2 h3 h4
  obtain ⟨B, e1, -, u1⟩ := DataW.trod_int Try.underlying23 h1
  simp only [List.cons.injEq, and_true] at e1
  subst e1
  obtain ⟨X, Y, hX, hY, q3⟩ := open_keyl h3 (by simp [hr])
  obtain ⟨U, V, hU, hV, q4⟩ := open_keyl h4 (by simp [hr])
  obtain ⟨A, g, o, n, m, F, rfl, a1, a2, a3, a4⟩ := open_items h0
  obtain ⟨Ap, hb, r, np, kp, K, rfl, b1, b2, b3, b4⟩ := open_points h2
  simp only [Prod.mk.injEq] at hx
  have hrr : rr = kl X Y ++ kl U V := by
    rw [← q3, ← q4]
    have h5 : (List.drop 16 rr).take 16 = List.drop 16 rr := List.take_of_length_le (by simp [hr])
    rw [h5, List.take_append_drop]
  refine ⟨A, Ap, g, o, n, m, hb, r, np, kp, B, (X, Y), (U, V), F, K, by rw [hrr]; rfl, a1, b1, ⟨hX, hY⟩, ⟨hU, hV⟩, ⟨a2, fun i hi => (a3 i hi).1, b2, b3⟩, fun i hi => (a3 i hi).2, y0.1, y1.1, y2.1, y3.1, y4.1, hx.1, a4, b4⟩
end Go.Proofs.Ytchkgccnipejhaa

/-
  A header that comes in, its numbers as naturals.
-/
namespace Go.Proofs.Ytchkgccnipejhaa
open Go.ChangeShapes Go.WideShapes Go.ChangeAt Go.RowKit Go.Joins TR L2 L2.SP
set_option linter.unusedVariables false
set_option maxRecDepth 100000

theorem u64_nat {D : Int} (h : (Lit.int .u64 D).wf = true) : ∃ n : Nat, n < M ∧ D = (n : Int) := by
  have h2 : 0 ≤ D ∧ D < 18446744073709551616 := by
    simp [Lit.wf, IntKind.min, IntKind.max, IntKind.bits, IntKind.signed] at h
    omega
  exact ⟨D.toNat, by unfold M; omega, by omega⟩

theorem open_pointsN {H : Type} {enc : TypeId × Value → H} {W : World} {sp : Nat → Bool} {held : Bool} {fuel : Nat} {v : Value} {x : DataW H × List MemPlace}
    (h1 : DataW.trod enc Try.prog W 0 sp held fuel 24 [v] = some x) : ∃ (A : Option Addr) (g o n m : Nat) (F : Nat → Nat × Nat), v = .slice A n m ∧ n ≤ m ∧ (n = 0 ∨ A = some ⟨g, o, none⟩) ∧
      (∀ i, i < n → W.rangeAt g (o + i * 2) [.int .u64 ((F i).1 : Int), .int .u64 ((F i).2 : Int)] ∧ Ok (F i)) ∧ (n = 0 ∨ ∃ elems spare, x.1 = .slice elems spare ∧ elems.length = n) := by
  rcases Go.Deep.open_slice Try.underlying24 h1 with ⟨hc, hy⟩ | ⟨a, len, cap, m', k2, D, Pl, hc, _, hl, hm, hm', hy, hel⟩
  · simp only [List.cons.injEq, and_true] at hc
    subst hc
    exact ⟨none, 0, 0, 0, 0, fun _ => (0, 0), rfl, Nat.le_refl _, .inl rfl, fun i hi => by omega, .inl rfl⟩
  · simp only [List.cons.injEq, and_true] at hc
    subst hc
    have hml : len ≤ m' := by rw [hm']; split <;> omega
    rcases Nat.eq_zero_or_pos len with h0 | h0
    · exact ⟨some a, 0, 0, len, cap, fun _ => (0, 0), rfl, hl, .inl h0, fun i hi => by omega, .inl h0⟩
    · obtain ⟨F, hF⟩ := Go.Deep.choose_lt (α := Nat × Nat) (n := len) (p := fun i y => (∀ j u, [Value.int .u64 (y.1 : Int), Value.int .u64 (y.2 : Int)][j]? = some u → W.cell? (a.add (i * 2 + j)) = some u) ∧ Ok y) (fun i hi => by
        obtain ⟨cs', h5, h6⟩ := hel i (by omega)
        rw [cells70] at h5
        obtain ⟨_, h7, h8⟩ := World.cells?_some h5
        obtain ⟨c0, c1, rfl⟩ : ∃ c0 c1, cs' = [c0, c1] := by
          match cs', h7 with
          | [c0, c1], _ => exact ⟨c0, c1, rfl⟩
        obtain ⟨y0, y1, n9, _, _, g0, g1⟩ := Go.ChangeShapes.trod_struct2 Try.underlying70 h6
        simp [cells23] at g0 g1
        obtain ⟨D1, e1, -, u1⟩ := DataW.trod_int Try.underlying23 g0
        obtain ⟨E1, e2, -, u2⟩ := DataW.trod_int Try.underlying23 g1
        simp only [List.cons.injEq, and_true] at e1 e2
        subst e1 e2
        obtain ⟨n1, hn1, rfl⟩ := u64_nat u1
        obtain ⟨n2, hn2, rfl⟩ := u64_nat u2
        refine ⟨(n1, n2), fun j u hu => ?_, hn1, hn2⟩
        have hj : j < 2 := by have := (List.getElem?_eq_some_iff.1 hu).1; simpa using this
        have h9 := h8 j hj
        rw [Go.Deep.add_add] at h9
        rw [h9]; exact hu)
      have h3 : W.cell? (a.add (0 * 2 + 0)) = some (.int .u64 (F 0).1) := (hF 0 h0).1 0 _ rfl
      have hs : a.spot = none := by simpa [Addr.add] using World.cell?_spot h3
      refine ⟨some a, a.block, a.off, len, cap, F, rfl, hl, .inr (by cases a; simp_all), fun i hi => ⟨fun j u hu => ?_, (hF i hi).2⟩, .inr ⟨_, _, by rw [hy], by simp⟩⟩
      have h4 := (hF i hi).1 j u hu
      have e1 : a.add (i * 2 + j) = ⟨a.block, a.off + i * 2 + j, none⟩ := by
        obtain ⟨ab, ao, asp⟩ := a
        simp only at hs
        subst hs
        rw [Addr.add_mid]
        show (⟨ab, ao + (i * 2 + j), none⟩ : Addr) = ⟨ab, ao + i * 2 + j, none⟩
        rw [Nat.add_assoc]
      rw [e1] at h4
      exact h4

/-- A header that comes in. -/
theorem open_headerN {H : Type} {enc : TypeId × Value → H} {W : World} {base : Nat} {sp : Nat → Bool} {v : Value} {d : DataW H} {p : List MemPlace}
    (hok : Value.okWide Try.prog W .any base 28 v) (h : DataW.Trod enc Try.prog W 0 sp true 28 v d p) :
    ∃ (A Ap : Option Addr) (g o n m hb r np kp : Nat) (b : Nat) (x y : Nat × Nat) (F : Nat → Int × Int × (Nat × Nat)) (K : Nat → Nat × Nat), v = .agg (hdi (.slice A n m) (.slice Ap np kp) (b : Int) x y).toArray ∧ n ≤ m ∧ np ≤ kp ∧ Ok x ∧ Ok y ∧ HdIn W A Ap g o n m hb r np kp F (fun i => (((K i).1 : Int), ((K i).2 : Int))) ∧ (∀ i, i < n → Ok (F i).2.2) ∧ b < M ∧ (∀ i, i < np → Ok (K i)) ∧
      ∃ d0 d1 d2 d3 d4, d = .agg [d0, d1, d2, d3, d4] ∧ (n = 0 ∨ ∃ elems spare, d0 = .slice elems spare ∧ elems.length = n) ∧ (np = 0 ∨ ∃ elems spare, d2 = .slice elems spare ∧ elems.length = np) := by
  obtain ⟨cs, rfl, hsz⟩ := okWide_struct Try.underlying28 hok
  rw [cells28] at hsz
  obtain ⟨fuel, hf⟩ := h
  obtain ⟨y0, y1, y2, y3, y4, k, hx, _, h0, h1, h2, h3, h4⟩ := trod_struct5 Try.underlying28 hf
  obtain ⟨L, rfl⟩ : ∃ L : List Value, cs = L.toArray := ⟨cs.toList, by simp⟩
  have hL : L.length = 35 := by simpa using hsz
  obtain ⟨c0, c1, c2, rr, rfl⟩ : ∃ c0 c1 c2 rr, L = c0 :: c1 :: c2 :: rr := by
    match L, hL with
    | c0 :: c1 :: c2 :: rr, _ => exact ⟨c0, c1, c2, rr, rfl⟩
  have hr : rr.length = 32 := by simpa using hL
  simp [Value.cells, cells22, cells24, cells23, cells26] at h0 h1 h2 h3 h4
  obtain ⟨B, e1, -, u1⟩ := DataW.trod_int Try.underlying23 h1
  simp only [List.cons.injEq, and_true] at e1
  subst e1
  obtain ⟨bN, hbN, rfl⟩ := u64_nat u1
  obtain ⟨X, Y, hX, hY, q3⟩ := open_keyl h3 (by simp [hr])
  obtain ⟨U, V, hU, hV, q4⟩ := open_keyl h4 (by simp [hr])
  obtain ⟨A, g, o, n, m, F, rfl, a1, a2, a3, a4⟩ := open_items h0
  obtain ⟨Ap, hb, r, np, kp, K, rfl, b1, b2, b3, b4⟩ := open_pointsN h2
  simp only [Prod.mk.injEq] at hx
  have hrr : rr = kl X Y ++ kl U V := by
    rw [← q3, ← q4]
    have h5 : (List.drop 16 rr).take 16 = List.drop 16 rr := List.take_of_length_le (by simp [hr])
    rw [h5, List.take_append_drop]
  refine ⟨A, Ap, g, o, n, m, hb, r, np, kp, bN, (X, Y), (U, V), F, K, by rw [hrr]; rfl, a1, b1, ⟨hX, hY⟩, ⟨hU, hV⟩, ⟨a2, fun i hi => (a3 i hi).1, b2, fun i hi => (b3 i hi).1⟩, fun i hi => (a3 i hi).2, hbN, fun i hi => (b3 i hi).2, y0.1, y1.1, y2.1, y3.1, y4.1, hx.1, a4, b4⟩
end Go.Proofs.Ytchkgccnipejhaa

/-
  Bytes that come in.
-/
namespace Go.Proofs.Ytchkgccnipejhaa
open Go.ChangeShapes Go.WideShapes Go.ChangeAt Go.RowKit Go.Joins TR L2 L2.SP
set_option linter.unusedVariables false
set_option maxRecDepth 100000

theorem bytes5 : Try.prog.bytesOf 5 = 1 := by kernel_rfl
theorem u8_nat {D : Int} (h : (Lit.int .u8 D).wf = true) : D = ((vby (.int .u8 D) : Nat) : Int) := by
  have h2 : 0 ≤ D ∧ D < 256 := by
    simp [Lit.wf, IntKind.min, IntKind.max, IntKind.bits, IntKind.signed] at h
    omega
  show D = ((D.toNat % 256 : Nat) : Int)
  omega
/-- Bytes that come in, where they stand. -/
theorem open_bytes3 {H : Type} {enc : TypeId × Value → H} {W : World} {base : Nat} {sp : Nat → Bool} {v : Value} {d : DataW H} {p : List MemPlace}
    (hok : Value.okWide Try.prog W .any base 29 v) (h : DataW.Trod enc Try.prog W 0 sp true 29 v d p) : ∃ (A : Option Addr) (g o n c : Nat) (f : Nat → Nat), v = .slice A n c ∧ n ≤ c ∧ c ≤ maxLen ∧ (∀ i, f i < 256) ∧ (A = none → n = 0) ∧ (n = 0 ∨ A = some ⟨g, o, none⟩) ∧ (∀ i, i < n → W.cell? ⟨g, o + i, none⟩ = some (.int .u8 (f i : Int))) ∧ (n = 0 ∨ ∃ elems spare, d = .slice elems spare ∧ elems.length = n) := by
  obtain ⟨A, n, c, rfl⟩ := okWide_slice Try.underlying29 hok
  obtain ⟨fuel, hf⟩ := h
  rcases open_ints Try.underlying29 Try.underlying5 cells5 hf with ⟨hcs, hx⟩ | ⟨x, l, c', zs, hcs, _, hl, hm, hz, hx, hcell, hwz⟩
  · simp [Value.cells] at hcs
    obtain ⟨rfl, rfl, rfl⟩ := hcs
    exact ⟨none, 0, 0, 0, 0, fun _ => 0, rfl, Nat.le_refl _, by simp [maxLen], fun _ => (by decide : 0 < 256), fun _ => rfl, .inl rfl, fun i hi => absurd hi (by omega), .inl rfl⟩
  · simp [Value.cells] at hcs
    obtain ⟨rfl, rfl, rfl⟩ := hcs
    have hzl : n ≤ zs.length := by rw [hz]; split <;> omega
    simp only [Prod.mk.injEq] at hx
    obtain ⟨rfl, rfl⟩ := hx
    rcases Nat.eq_zero_or_pos n with h0 | h0
    · exact ⟨some x, 0, 0, n, c, fun _ => 0, rfl, hl, hm, fun _ => (by decide : 0 < 256), fun e => (by cases e), .inl h0, fun i hi => absurd hi (by omega), .inl h0⟩
    · have h3 := hcell 0 (by omega)
      have hs : x.spot = none := by simpa [Addr.add] using World.cell?_spot h3
      refine ⟨some x, x.block, x.off, n, c, fun i => vby (.int .u8 (zs.getD i 0)), rfl, hl, hm, fun _ => vby_lt _, fun e => (by cases e), .inr (by cases x; simp_all), fun i hi => ?_, .inr ⟨_, _, rfl, by simp [lits]; omega⟩⟩
      have h1 := hcell i (by omega)
      have e1 : x.add i = ⟨x.block, x.off + i, none⟩ := by cases x; cases i <;> simp_all [Addr.add]
      rw [e1] at h1
      rw [h1]
      have hwf : (Lit.int IntKind.u8 (zs.getD i 0)).wf = true := by
        have hi' : i < zs.length := by omega
        simp only [List.getD, List.getElem?_eq_getElem hi', Option.getD_some]
        exact hwz _ (List.getElem_mem hi')
      rw [← u8_nat hwf]
end Go.Proofs.Ytchkgccnipejhaa
