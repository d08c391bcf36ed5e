/-
  Appending in general; subsets that come in; rows of items.
-/
import Derived.Test.YtelalpikdidpeaaSlB
import Derived.Test.YtelalpikdidpeaaSmT
import Derived.Test.YtelalpikdidpeaaJI
import Derived.Deep.AppendSrc
namespace Go.Proofs.Ytelalpikdidpeaa
open Go.ChangeShapes Go.WideShapes Go.ChangeAt Go.RowKit Go.Joins TR L2 L2.SP
set_option linter.unusedVariables false
set_option linter.unusedSimpArgs false

theorem append_nil {T e : TypeId} {i0 : TypeInfo} {size : Nat} (ht : Try.prog.underlying T = some (.slice e)) (hi : Try.prog.info? e = some i0) (hsize : i0.size = size) {w : World} {base n c : Nat} {v : Value} {xs : List Value} (ho : w.ownsRow base e size v n xs) (ty : TypeId) :
    (Builtin.append_ #[T, T] ty #[v, .slice none 0 c]).run Try.prog w = .ok v w := by
  rcases ho.2 with ⟨rfl, rfl⟩ | ⟨g, cap, cur, rfl, h1, h2, h3, h4, h5, h6⟩
  · simp [Builtin.append_, run_underlying ht, sizeOf, typeInfo, hi, Builtin.lenOf, Builtin.firstCells]
  · have h := run_append_room_src (P := Try.prog) (w := w) T T ty e i0 ht hi g 0 n cap (.slice none 0 c) 0 [] (Src.ofNil _ ht c) (by omega) (fun j hj => by simp at hj) (fun j hj => by simp at hj)
    simpa [World.setCells] using h
/-- 'append(v, l...)', where v is a row of one's own and l comes from anywhere. -/
theorem append_run {T e : TypeId} {i0 : TypeInfo} {z : Value} {size bytes : Nat} (ht : Try.prog.underlying T = some (.slice e)) (hi : Try.prog.info? e = some i0) (hz : i0.zero = some z) (hsize : i0.size = size) (hby : i0.bytes = bytes) (hzs : z.cells.size = size) (hsz : 0 < size) (ty : TypeId)
    (w : World) (base n m c : Nat) (v : Value) (xs news : List Value) (A : Option Addr) (ho : w.ownsRow base e size v n xs) (hA : A = none → m = 0) (hnews : ∀ ad, A = some ad → ∀ j u, news[j]? = some u → w.cell? (ad.add j) = some u)
    (hl : news.length = m * size) (h1 : ∀ u ∈ news, u.oneCell' = true) (h63 : n + m ≤ maxLen) (hbytes : (n + m) * bytes ≤ 140737488355328) (hbase : base ≤ w.heap.size) :
    ∃ v' w', (Builtin.append_ #[T, T] ty #[v, .slice A m c]).run Try.prog w = .ok v' w' ∧ w'.ownsRow base e size v' (n + m) (xs ++ news) ∧ w.grownBy w' v.ownBlock := by
  rcases A with _ | ad
  · obtain rfl := hA rfl
    obtain rfl : news = [] := List.eq_nil_of_length_eq_zero (by rw [hl, Nat.zero_mul])
    exact ⟨v, w, append_nil ht hi hsize ho ty, by simpa using ho, grownBy_refl _ _⟩
  · obtain ⟨v', w', hr, h2, h3, _⟩ := run_append_own (P := Try.prog) w base T ty e i0 z size bytes ht hi hz hsize hby hzs hsz v n xs ho ad m c news hl (hnews ad rfl) h1 h63 hbytes hbase
    exact ⟨v', w', hr, h2, h3⟩

/-- A row of items of one's own, by its labels. -/
theorem own_items {w : World} {B e n : Nat} {v : Value} {F : Nat → Int × Int × (Nat × Nat)} (h : w.ownsRow B e 18 v n (lbF F n)) : ∃ A c, v = .slice A n c ∧ n ≤ c ∧ (n = 0 ∨ ∃ g, A = some ⟨g, 0, none⟩ ∧ B ≤ g ∧ ∀ i, i < n → w.rangeAt g (i * 18) (lbl (F i).1 (F i).2.1 (F i).2.2)) := by
  obtain ⟨A, c, rfl, hc, hk⟩ := own_cap h
  refine ⟨A, c, rfl, hc, ?_⟩
  rcases hk with h0 | ⟨g, h1, h2, h3, h4, _⟩
  · exact .inl h0
  · refine .inr ⟨g, h1, h2, fun i hi j u hu => ?_⟩
    have hj : j < 18 := by have := (List.getElem?_eq_some_iff.1 hu).1; rwa [lbl_len] at this
    exact h4 (i * 18 + j) u (by rw [lbF_get F n i j hi hj]; exact hu)
/-- The cells of some subsets. -/
def sbF (f : Nat → Int × Int) (n : Nat) : List Value := (List.range n).flatMap fun i => [.int .i64 (f i).1, .int .i64 (f i).2]
theorem sbF_succ (f : Nat → Int × Int) (n : Nat) : sbF f (n + 1) = sbF f n ++ [.int .i64 (f n).1, .int .i64 (f n).2] := by
  unfold sbF; rw [List.range_succ, List.flatMap_append]; simp
theorem sbF_len (f : Nat → Int × Int) : ∀ n, (sbF f n).length = n * 2
  | 0 => rfl
  | n + 1 => by rw [sbF_succ, List.length_append, sbF_len f n]; simp; omega
theorem sbF_one (f : Nat → Int × Int) (n : Nat) : ∀ u ∈ sbF f n, u.oneCell' = true := by
  intro u hu
  unfold sbF at hu
  rw [List.mem_flatMap] at hu
  obtain ⟨i, _, h⟩ := hu
  simp at h
  rcases h with rfl | rfl <;> rfl
theorem sbF_get (f : Nat → Int × Int) : ∀ (n i : Nat), i < n → (sbF f n)[i * 2]? = some (.int .i64 (f i).1) ∧ (sbF f n)[i * 2 + 1]? = some (.int .i64 (f i).2)
  | 0, i, h => absurd h (by omega)
  | n + 1, i, h => by
    rw [sbF_succ]
    rcases Nat.lt_or_ge i n with h1 | h1
    · rw [List.getElem?_append_left (by rw [sbF_len]; omega), List.getElem?_append_left (by rw [sbF_len]; omega)]
      exact sbF_get f n i h1
    · obtain rfl : i = n := by omega
      rw [List.getElem?_append_right (by rw [sbF_len]; omega), List.getElem?_append_right (by rw [sbF_len]; omega), sbF_len]
      constructor
      · rw [Nat.sub_self]; rfl
      · rw [show i * 2 + 1 - i * 2 = 1 by omega]; rfl
theorem bytes35 : Try.prog.bytesOf 35 = 16 := by kernel_rfl
set_option maxRecDepth 100000 in
/-- A list of subsets that comes in. -/
theorem open_subs {H : Type} {enc : TypeId × Value → H} {W : World} {base : Nat} {sp : Nat → Bool} {v : Value} {d : DataW H} {p : List MemPlace}
    (hok : Value.okWide Try.prog W .any base 55 v) (h : DataW.Trod enc Try.prog W 0 sp true 55 v d p) : ∃ (A : Option Addr) (g o n c : Nat) (f : Nat → Int × Int), v = .slice A n c ∧ n ≤ c ∧ c ≤ maxLen ∧ (n = 0 ∨ A = some ⟨g, o, none⟩) ∧ (∀ i, i < n → W.cell? ⟨g, o + i * 2, none⟩ = some (.int .i64 (f i).1) ∧ W.cell? ⟨g, o + i * 2 + 1, none⟩ = some (.int .i64 (f i).2)) ∧ (n = 0 ∨ ∃ elems spare, d = .slice elems spare ∧ elems.length = n) := by
  obtain ⟨A, n, c, rfl⟩ := okWide_slice Try.underlying55 hok
  obtain ⟨fuel, hf⟩ := h
  rcases Go.Deep.open_slice Try.underlying55 hf with ⟨hc, hy⟩ | ⟨a, len, cap, m', k2, D, Pl, hc, _, hl, hm, hm', hy, hel⟩
  · simp [Value.cells] at hc
    obtain ⟨rfl, rfl, rfl⟩ := hc
    exact ⟨none, 0, 0, 0, 0, fun _ => (0, 0), rfl, Nat.le_refl _, by simp [maxLen], .inl rfl, fun i hi => by omega, .inl rfl⟩
  · simp [Value.cells] at hc
    obtain ⟨rfl, rfl, rfl⟩ := hc
    have hml : n ≤ m' := by rw [hm']; split <;> omega
    rcases Nat.eq_zero_or_pos n with h0 | h0
    · exact ⟨some a, 0, 0, n, c, fun _ => (0, 0), rfl, hl, hm, .inl h0, fun i hi => by omega, .inl h0⟩
    · obtain ⟨F, hF⟩ := Go.Deep.choose_lt (α := Int × Int) (n := n) (p := fun i y => W.cell? (a.add (i * 2)) = some (.int .i64 y.1) ∧ W.cell? (a.add (i * 2 + 1)) = some (.int .i64 y.2)) (fun i hi => by
        obtain ⟨cs', h5, h6⟩ := hel i (by omega)
        rw [cells35] at h5
        obtain ⟨_, h7, h8⟩ := World.cells?_some h5
        obtain ⟨c0, c1, rfl⟩ : ∃ c0 c1, cs' = [c0, c1] := by
          match cs', h7 with
          | [c0, c1], _ => exact ⟨c0, c1, rfl⟩
        obtain ⟨y0, y1, n9, _, _, g0, g1⟩ := Go.ChangeShapes.trod_struct2 Try.underlying35 h6
        simp [cells3] at g0 g1
        obtain ⟨D1, e1, -, u1⟩ := DataW.trod_int Try.underlying3 g0
        obtain ⟨E1, e2, -, u2⟩ := DataW.trod_int Try.underlying3 g1
        simp only [List.cons.injEq, and_true] at e1 e2
        subst e1 e2
        have q0 := h8 0 (by omega)
        have q1 := h8 1 (by omega)
        rw [Go.Deep.add_add] at q0 q1
        exact ⟨(D1, E1), q0, q1⟩)
      have h3 : W.cell? (a.add (0 * 2)) = some (.int .i64 (F 0).1) := (hF 0 h0).1
      have hs : a.spot = none := by simpa [Addr.add] using World.cell?_spot h3
      refine ⟨some a, a.block, a.off, n, c, F, rfl, hl, hm, .inr (by cases a; simp_all), fun i hi => ?_, .inr ⟨_, _, by simp only [Prod.mk.injEq] at hy; rw [hy.1], by simp⟩⟩
      have h4 := hF i hi
      obtain ⟨ab, ao, asp⟩ := a
      simp only at hs
      subst hs
      rw [Addr.add_mid, Addr.add_mid] at h4
      exact ⟨h4.1, by have h5 := h4.2; rw [show ao + (i * 2 + 1) = ao + i * 2 + 1 by omega] at h5; exact h5⟩
end Go.Proofs.Ytelalpikdidpeaa
