/-
  Texts joined into one: Opn, Opk, Ops.
-/
import Derived.Test.YtchkgccnipejhaaJB
import Derived.Lib.SmallJoins
import Derived.ProofKit
import Derived.OpenShut
import Derived.ShutString
import Derived.ChangeOld
import Derived.ChangeSlices
import Derived.Below
import Derived.Test.YtchkgccnipejhaaJE
import Derived.Test.YtchkgccnipejhaaJG
import Derived.Deep.Slices
import Derived.Deep.Strs
import Derived.SizedLaws

/-
  What the laws over keys and schemes open alike.
-/
namespace Go.Proofs.Ytchkgccnipejhaa
open Go.ChangeShapes Go.WideShapes Go.ChangeAt Go.RowKit Go.Joins TR
set_option linter.unusedVariables false
set_option maxRecDepth 100000

theorem own : ownKnob Try.prog.godebug = none := by kernel_rfl
theorem laidOut : laidOutB Try.prog = true := by kernel_rfl
theorem cells5 : Try.prog.cellsOf 5 = 1 := by kernel_rfl
theorem array6 {α : Type} {cs : Array α} (h : cs.size = 6) : ∃ c0 c1 c2 c3 c4 c5, cs = #[c0, c1, c2, c3, c4, c5] := by
  obtain ⟨l⟩ := cs
  match l, h with
  | [c0, c1, c2, c3, c4, c5], _ => exact ⟨c0, c1, c2, c3, c4, c5, rfl⟩
theorem cells45 : Try.prog.cellsOf 45 = 6 := by kernel_rfl
theorem cells43 : Try.prog.cellsOf 43 = 3 := by kernel_rfl
theorem cells3 : Try.prog.cellsOf 3 = 1 := by kernel_rfl
theorem cells23 : Try.prog.cellsOf 23 = 1 := by kernel_rfl

theorem array2 {α : Type} {cs : Array α} (h : cs.size = 2) : ∃ c0 c1, cs = #[c0, c1] := by
  obtain ⟨l⟩ := cs
  match l, h with
  | [c0, c1], _ => exact ⟨c0, c1, rfl⟩
theorem cells56 : Try.prog.cellsOf 56 = 2 := by kernel_rfl
/-- A subset that comes in. -/
theorem open_subset {H : Type} {enc : TypeId × Value → H} {W : World} {base : Nat} {sp : Nat → Bool} {v : Value} {d : DataW H} {p : List MemPlace}
    (hok : Value.okWide Try.prog W .any base 56 v) (h : DataW.Trod enc Try.prog W 0 sp true 56 v d p) : ∃ a b : Int, v = .agg #[.int .i64 a, .int .i64 b] := by
  obtain ⟨cs, rfl, hsz⟩ := okWide_struct Try.underlying56 hok
  obtain ⟨a0, a1, rfl⟩ := array2 (hsz.trans cells56)
  obtain ⟨fuel, hf⟩ := h
  obtain ⟨y0, y1, n, _, _, h0, h1⟩ := Go.ChangeShapes.trod_struct2 Try.underlying56 hf
  simp [Value.cells, cells3] at h0 h1
  obtain ⟨D, e1, -, u1⟩ := DataW.trod_int Try.underlying3 h0
  obtain ⟨E, e2, -, u2⟩ := DataW.trod_int Try.underlying3 h1
  simp only [List.cons.injEq, and_true] at e1 e2
  subst e1 e2
  exact ⟨D, E, rfl⟩

/-- A scheme that comes in. -/
theorem open_scheme {H : Type} {enc : TypeId × Value → H} {W : World} {base : Nat} {sp : Nat → Bool} {v : Value} {d : DataW H} {p : List MemPlace}
    (hok : Value.okWide Try.prog W .any base 45 v) (h : DataW.Trod enc Try.prog W 0 sp true 45 v d p) :
    ∃ K D E P Q G : Int, (0 ≤ K ∧ K ≤ 255) ∧ (0 ≤ P ∧ P ≤ 18446744073709551615) ∧ (0 ≤ Q ∧ Q ≤ 18446744073709551615) ∧ (0 ≤ G ∧ G ≤ 18446744073709551615) ∧ v = .agg #[.int .u8 K, .int .i64 D, .int .i64 E, .int .u64 P, .int .u64 Q, .int .u64 G] := by
  obtain ⟨cs, rfl, hsz⟩ := okWide_struct Try.underlying45 hok
  obtain ⟨a0, a1, a2, a3, a4, a5, rfl⟩ := array6 (hsz.trans cells45)
  obtain ⟨fuel, hf⟩ := h
  obtain ⟨y0, y1, y2, y3, n, _, _, h0, h1, h2, h3⟩ := trod_struct4 Try.underlying45 hf
  simp [Value.cells, cells5, cells3, cells43] at h0 h1 h2 h3
  obtain ⟨K, e0, -, u0⟩ := DataW.trod_int Try.underlying5 h0
  obtain ⟨D, e1, -, u1⟩ := DataW.trod_int Try.underlying3 h1
  obtain ⟨E, e2, -, u2⟩ := DataW.trod_int Try.underlying3 h2
  obtain ⟨z0, z1, z2, m, _, _, g0, g1, g2⟩ := Go.Deep.trod_struct3 Try.underlying43 h3
  simp [cells23] at g0 g1 g2
  obtain ⟨P, e3, -, u3⟩ := DataW.trod_int Try.underlying23 g0
  obtain ⟨Q, e4, -, u4⟩ := DataW.trod_int Try.underlying23 g1
  obtain ⟨G, e5, -, u5⟩ := DataW.trod_int Try.underlying23 g2
  simp only [List.cons.injEq, and_true] at e0 e1 e2 e3 e4 e5
  subst e0 e1 e2 e3 e4 e5
  have b0 := bounds_u8 u0
  have b3 := bounds_u64 u3
  have b4 := bounds_u64 u4
  have b5 := bounds_u64 u5
  exact ⟨K, D, E, P, Q, G, by omega, by omega, by omega, by omega, rfl⟩
end Go.Proofs.Ytchkgccnipejhaa

/-
  A key that comes in.
-/
namespace Go.Proofs.Ytchkgccnipejhaa
open Go.ChangeShapes Go.WideShapes Go.ChangeAt Go.RowKit Go.Joins TR L2 L2.SP
set_option linter.unusedVariables false
set_option maxRecDepth 100000

theorem cells26 : Try.prog.cellsOf 26 = 16 := by kernel_rfl
/-- The byte of a cell. -/
def byteOf : Option Value → Nat
  | some (.int _ n) => if 0 ≤ n ∧ n < 256 then n.toNat else 0
  | _ => 0
theorem byteOf_lt (o : Option Value) : byteOf o < 256 := by
  unfold byteOf
  split
  · split <;> omega
  · omega
theorem byteOf_cell {k : IntKind} {n : Int} (h0 : 0 ≤ n) (h1 : n < 256) : (byteOf (some (.int k n)) : Int) = n := by
  show ((if 0 ≤ n ∧ n < 256 then n.toNat else 0 : Nat) : Int) = n
  rw [if_pos ⟨h0, h1⟩]; omega

theorem open_key {H : Type} {enc : TypeId × Value → H} {W : World} {base : Nat} {sp : Nat → Bool} {v : Value} {d : DataW H} {p : List MemPlace}
    (hok : Value.okWide Try.prog W .any base 26 v) (h : DataW.Trod enc Try.prog W 0 sp true 26 v d p) : ∃ X Y : Nat, X < M ∧ Y < M ∧ v = .agg (kl X Y).toArray := by
  obtain ⟨cs, rfl, hsz⟩ : ∃ cs : Array Value, v = .agg cs ∧ cs.size = 16 := by
    have h1 := hok
    simp only [Value.okWide, Try.underlying26] at h1
    obtain ⟨cs, h2, h3, _⟩ : ∃ cs, v = .agg cs ∧ cs.size = Try.prog.cellsOf 26 ∧ Row.okWide Try.prog W .any base 26 cs := by simpa using h1
    exact ⟨cs, h2, by rw [h3, cells26]⟩
  obtain ⟨fuel, hf⟩ := h
  obtain ⟨xs, m, _, _, _, hl, hel⟩ := DataW.trod_array Try.underlying26 hf
  have hcell : ∀ i, i < 16 → ∃ n : Int, cs[i]? = some (.int .u8 n) ∧ 0 ≤ n ∧ n < 256 := fun i hi => by
    have h1 := hel i hi
    rw [cells5, List.getElem?_eq_getElem (by omega)] at h1
    obtain ⟨n, hn, _, hwf⟩ := DataW.trod_int Try.underlying5 h1
    have hb := bounds_u8 hwf
    have h2 : cs[i]? = some (.int .u8 n) := by
      have h3 := congrArg (·[0]?) hn
      simpa [Value.cells, List.getElem?_take, List.getElem?_drop] using h3
    exact ⟨n, h2, by omega, by omega⟩
  obtain ⟨f, hf⟩ : ∃ f : Nat → Nat, ∀ i, f i < 256 ∧ (i < 16 → cs[i]? = some (.int .u8 (f i : Int))) := by
    refine ⟨fun i => byteOf cs[i]?, fun i => ⟨byteOf_lt _, fun hi => ?_⟩⟩
    obtain ⟨n, h1, h2, h3⟩ := hcell i hi
    show _ = some (Value.int .u8 ((byteOf cs[i]? : Nat) : Int))
    rw [h1, byteOf_cell h2 h3]
  refine ⟨kwX f, kwY f, (kw_lt f (fun i => (hf i).1)).1, (kw_lt f (fun i => (hf i).1)).2, ?_⟩
  congr 1
  apply Array.ext
  · simp [kl_len, hsz]
  · intro i h1 h2
    have h3 := (hf i).2 (by omega)
    have h4 := kl_get (kwX f) (kwY f) i (by omega)
    rw [kw_byte f (fun i => (hf i).1) i (by omega)] at h4
    rw [Array.getElem?_eq_getElem h1] at h3
    injection h3 with h3
    rw [h3]
    have h5 : (kl (kwX f) (kwY f)).toArray[i]? = some (.int .u8 (f i : Int)) := by simpa using h4
    rw [Array.getElem?_eq_getElem h2] at h5
    injection h5 with h5
    exact h5.symm

end Go.Proofs.Ytchkgccnipejhaa

/-
  What comes in: keys and labels as cells, secrets, lists of ints.
-/
namespace Go.Proofs.Ytchkgccnipejhaa
open Go.ChangeShapes Go.WideShapes Go.ChangeAt Go.RowKit Go.Joins TR L2 L2.SP
set_option linter.unusedVariables false
set_option maxRecDepth 100000

theorem cells82 : Try.prog.cellsOf 82 = 18 := by kernel_rfl
theorem cells72 : Try.prog.cellsOf 72 = 4 := by kernel_rfl
theorem cells70 : Try.prog.cellsOf 70 = 2 := by kernel_rfl
theorem cells68 : Try.prog.cellsOf 68 = 1 := by kernel_rfl
theorem bytes82 : Try.prog.bytesOf 82 = 32 := by kernel_rfl
theorem bytes3 : Try.prog.bytesOf 3 = 8 := by kernel_rfl

theorem open_keyl {H : Type} {enc : TypeId × Value → H} {W : World} {base : Nat} {sp : Nat → Bool} {held : Bool} {fuel : Nat} {cs : List Value} {x : DataW H × List MemPlace}
    (hf : DataW.trod enc Try.prog W base sp held fuel 26 cs = some x) (hsz : cs.length = 16) : ∃ X Y : Nat, X < M ∧ Y < M ∧ cs = kl X Y := by
  obtain ⟨xs, m, _, _, _, hl, hel⟩ := DataW.trod_array Try.underlying26 hf
  have hcell : ∀ i, i < 16 → ∃ n : Int, cs[i]? = some (.int .u8 n) ∧ 0 ≤ n ∧ n < 256 := fun i hi => by
    have h1 := hel i hi
    rw [cells5, List.getElem?_eq_getElem (by omega)] at h1
    obtain ⟨n, hn, _, hwf⟩ := DataW.trod_int Try.underlying5 h1
    have hb := bounds_u8 hwf
    have h2 : cs[i]? = some (.int .u8 n) := by
      have h3 := congrArg (·[0]?) hn
      simpa [List.getElem?_take, List.getElem?_drop] using h3
    exact ⟨n, h2, by omega, by omega⟩
  obtain ⟨f, hf⟩ : ∃ f : Nat → Nat, ∀ i, f i < 256 ∧ (i < 16 → cs[i]? = some (.int .u8 (f i : Int))) := by
    refine ⟨fun i => byteOf cs[i]?, fun i => ⟨byteOf_lt _, fun hi => ?_⟩⟩
    obtain ⟨n, h1, h2, h3⟩ := hcell i hi
    show _ = some (Value.int .u8 ((byteOf cs[i]? : Nat) : Int))
    rw [h1, byteOf_cell h2 h3]
  refine ⟨kwX f, kwY f, (kw_lt f (fun i => (hf i).1)).1, (kw_lt f (fun i => (hf i).1)).2, ?_⟩
  apply List.ext_getElem?
  intro i
  rcases Nat.lt_or_ge i 16 with h1 | h1
  · have h4 := kl_get (kwX f) (kwY f) i h1
    rw [kw_byte f (fun i => (hf i).1) i h1] at h4
    rw [(hf i).2 h1, h4]
  · rw [List.getElem?_eq_none (by omega), List.getElem?_eq_none (by rw [kl_len]; omega)]

theorem open_labell {H : Type} {enc : TypeId × Value → H} {W : World} {base : Nat} {sp : Nat → Bool} {held : Bool} {fuel : Nat} {cs : List Value} {x : DataW H × List MemPlace}
    (hf : DataW.trod enc Try.prog W base sp held fuel 82 cs = some x) : ∃ (a b : Int) (q : Nat × Nat), b < 9223372036854775808 ∧ Ok q ∧ cs = lbl a b q := by
  obtain ⟨y0, y1, y2, n, _, hl, h0, h1, h2⟩ := Go.Deep.trod_struct3 Try.underlying82 hf
  rw [cells82] at hl
  obtain ⟨c0, c1, r, rfl⟩ : ∃ c0 c1 r, cs = c0 :: c1 :: r := by
    match cs, hl with
    | c0 :: c1 :: r, _ => exact ⟨c0, c1, r, rfl⟩
  have hr : r.length = 16 := by simpa using hl
  simp only [cells3, cells26, List.drop_zero, List.take_succ_cons, List.take_zero, List.drop_succ_cons] at h0 h1 h2
  rw [List.take_of_length_le (by omega)] at h2
  obtain ⟨a, e0, -, u0⟩ := DataW.trod_int Try.underlying3 h0
  obtain ⟨b, e1, -, u1⟩ := DataW.trod_int Try.underlying3 h1
  obtain ⟨X, Y, hX, hY, rfl⟩ := open_keyl h2 hr
  simp only [List.cons.injEq, and_true] at e0 e1
  subst e0 e1
  have b1 := bounds_i64 u1
  exact ⟨a, b, (X, Y), by omega, ⟨hX, hY⟩, rfl⟩

/-- A secret that comes in. -/
theorem open_secret {H : Type} {enc : TypeId × Value → H} {W : World} {base : Nat} {sp : Nat → Bool} {v : Value} {d : DataW H} {p : List MemPlace}
    (hok : Value.okWide Try.prog W .any base 72 v) (h : DataW.Trod enc Try.prog W 0 sp true 72 v d p) :
    ∃ (r s t : Int) (A : Option Addr) (g o n m : Nat) (F : Nat → Int × Int × (Nat × Nat)), v = .agg (sg r (.slice A n m) s t) ∧ n ≤ m ∧ m ≤ maxLen ∧ (n = 0 ∨ A = some ⟨g, o, none⟩) ∧
      (∀ i, i < n → W.rangeAt g (o + i * 18) (lbl (F i).1 (F i).2.1 (F i).2.2) ∧ (F i).2.1 < 9223372036854775808 ∧ Ok (F i).2.2) ∧ (n = 0 ∨ ∃ y0 y2 elems spare, d = .agg [y0, .slice elems spare, y2] ∧ elems.length = n) := by
  obtain ⟨cs, rfl, hsz⟩ := okWide_struct Try.underlying72 hok
  obtain ⟨a0, a1, a2, a3, rfl⟩ := array4 (hsz.trans cells72)
  obtain ⟨fuel, hf⟩ := h
  obtain ⟨y0, y1, y2, k, hx, _, h0, h1, h2⟩ := Go.Deep.trod_struct3 Try.underlying72 hf
  simp [Value.cells, cells3, cells68, cells70] at h0 h1 h2
  obtain ⟨r, e0, -, u0⟩ := DataW.trod_int Try.underlying3 h0
  obtain ⟨z0, z1, mm, _, _, g0, g1⟩ := Go.ChangeShapes.trod_struct2 Try.underlying70 h2
  simp [cells23] at g0 g1
  obtain ⟨s, e2, -, u2⟩ := DataW.trod_int Try.underlying23 g0
  obtain ⟨t, e3, -, u3⟩ := DataW.trod_int Try.underlying23 g1
  simp only [List.cons.injEq, and_true] at e0 e2 e3
  subst e0 e2 e3
  simp only [Prod.mk.injEq] at hx
  obtain ⟨hd, -⟩ := hx
  rcases Go.Deep.open_slice Try.underlying68 h1 with ⟨hc, hy⟩ | ⟨a, len, cap, m', k2, D, Pl, hc, _, hl, hm, hm', hy, hel⟩
  · simp only [List.cons.injEq, and_true] at hc
    subst hc
    exact ⟨r, s, t, none, 0, 0, 0, 0, fun _ => (0, 0, (0, 0)), rfl, Nat.le_refl _, by simp [maxLen], .inl rfl, fun i hi => by omega, .inl rfl⟩
  · simp only [List.cons.injEq, and_true] at hc
    subst hc
    have hml : len ≤ m' := by rw [hm']; split <;> omega
    rcases Nat.eq_zero_or_pos len with h0 | h0
    · exact ⟨r, s, t, some a, 0, 0, len, cap, fun _ => (0, 0, (0, 0)), rfl, hl, hm, .inl h0, fun i hi => by omega, .inl h0⟩
    · obtain ⟨F, hF⟩ := Go.Deep.choose_lt (α := Int × Int × (Nat × Nat)) (n := len) (p := fun i y => (∀ j u, (lbl y.1 y.2.1 y.2.2)[j]? = some u → W.cell? (a.add (i * 18 + j)) = some u) ∧ y.2.1 < 9223372036854775808 ∧ Ok y.2.2) (fun i hi => by
        obtain ⟨cs', h5, h6⟩ := hel i (by omega)
        rw [cells82] at h5
        obtain ⟨x1, x2, q, hb, hq, rfl⟩ := open_labell h6
        obtain ⟨_, h7, h8⟩ := World.cells?_some h5
        refine ⟨(x1, x2, q), fun j u hu => ?_, hb, hq⟩
        have hj : j < 18 := by have := (List.getElem?_eq_some_iff.1 hu).1; rwa [lbl_len] at this
        have h9 := h8 j hj
        rw [Go.Deep.add_add] at h9
        rw [h9]; exact hu)
      have h3 : W.cell? (a.add (0 * 18 + 0)) = some (.int .i64 (F 0).1) := (hF 0 h0).1 0 _ rfl
      have hs : a.spot = none := by simpa [Addr.add] using World.cell?_spot h3
      refine ⟨r, s, t, some a, a.block, a.off, len, cap, F, rfl, hl, hm, .inr (by cases a; simp_all), fun i hi => ⟨fun j u hu => ?_, (hF i hi).2⟩, .inr ⟨_, _, _, _, by rw [hd, hy], by simp⟩⟩
      have h4 := (hF i hi).1 j u hu
      have e1 : a.add (i * 18 + j) = ⟨a.block, a.off + i * 18 + j, none⟩ := by
        obtain ⟨ab, ao, asp⟩ := a
        simp only at hs
        subst hs
        rw [Addr.add_mid]
        show (⟨ab, ao + (i * 18 + j), none⟩ : Addr) = ⟨ab, ao + i * 18 + j, none⟩
        rw [Nat.add_assoc]
      rw [e1] at h4
      exact h4

/-- A list of ints that comes in. -/
theorem open_ints2 {H : Type} {enc : TypeId × Value → H} {W : World} {base : Nat} {sp : Nat → Bool} {v : Value} {d : DataW H} {p : List MemPlace}
    (hok : Value.okWide Try.prog W .any base 46 v) (h : DataW.Trod enc Try.prog W 0 sp true 46 v d p) : ∃ (A : Option Addr) (b off n c : Nat) (f : Nat → Int), v = .slice A n c ∧ n ≤ c ∧ c ≤ maxLen ∧ (n = 0 ∨ A = some ⟨b, off, none⟩) ∧ (∀ i, i < n → W.cell? ⟨b, off + i, none⟩ = some (.int .i64 (f i))) ∧ (n = 0 ∨ ∃ elems spare, d = .slice elems spare ∧ elems.length = n) := by
  obtain ⟨A, n, c, rfl⟩ := okWide_slice Try.underlying46 hok
  obtain ⟨fuel, hf⟩ := h
  rcases open_ints Try.underlying46 Try.underlying3 cells3 hf with ⟨hcs, hx⟩ | ⟨x, l, c', zs, hcs, _, hl, hm, hz, hx, hcell, hwz⟩
  · simp [Value.cells] at hcs
    obtain ⟨rfl, rfl, rfl⟩ := hcs
    exact ⟨none, 0, 0, 0, 0, fun _ => 0, rfl, Nat.le_refl _, by simp [maxLen], .inl rfl, fun i hi => by omega, .inl rfl⟩
  · simp [Value.cells] at hcs
    obtain ⟨rfl, rfl, rfl⟩ := hcs
    have hzl : n ≤ zs.length := by rw [hz]; split <;> omega
    simp only [Prod.mk.injEq] at hx
    obtain ⟨rfl, rfl⟩ := hx
    rcases Nat.eq_zero_or_pos n with h0 | h0
    · exact ⟨some x, 0, 0, n, c, fun _ => 0, rfl, hl, hm, .inl h0, fun i hi => by omega, .inl h0⟩
    · have h1 := hcell 0 (by omega)
      have hs : x.spot = none := by simpa [Addr.add] using World.cell?_spot h1
      refine ⟨some x, x.block, x.off, n, c, fun i => zs.getD i 0, rfl, hl, hm, .inr (by cases x; simp_all), fun i hi => ?_, .inr ⟨_, _, rfl, by simp [lits]; omega⟩⟩
      have h2 := hcell i (by omega)
      have e1 : x.add i = ⟨x.block, x.off + i, none⟩ := by cases x; cases i <;> simp_all [Addr.add]
      rw [e1] at h2
      exact h2

/-- The size of a slice that is a field of what comes in. -/
theorem sized_field {H : Type} {P : Program} {ts : List TypeId} {ds : List (DataW H)} (h : (DataW.weightsEach P ts ds).all (· ≤ reachBytes) = true) {j i : Nat} {t t' e : TypeId} {fs : Array Field} {parts elems spare : List (DataW H)} (ht : ts[j]? = some t) (hd : ds[j]? = some (.agg parts)) (hu : P.underlying t = some (.struct fs))
    (hi : (fs.toList.map (·.type))[i]? = some t') (hp : parts[i]? = some (.slice elems spare)) (hu' : P.underlying t' = some (.slice e)) : (elems.length + spare.length) * P.bytesOf e ≤ reachBytes := by
  have := List.all_eq_true.1 h _ (DataW.weights_mem_each ht hd ((elems.length + spare.length) * P.bytesOf e) (by
    simp only [DataW.weights, hu]
    exact DataW.weights_mem_each hi hp _ (by simp [DataW.weights, hu'])))
  simpa using this
end Go.Proofs.Ytchkgccnipejhaa
