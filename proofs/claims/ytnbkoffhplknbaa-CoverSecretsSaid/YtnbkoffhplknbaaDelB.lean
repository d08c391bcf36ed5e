/-
  slices.DeleteFunc at the method value of isAbove.
-/
import Derived.Test.YtnbkoffhplknbaaDelA
import Derived.Lib.SliceRun
import Derived.Laws.IdiomCopy
namespace Go.Proofs.Ytnbkoffhplknbaa
open Go.RowKit TR
set_option linter.unusedVariables false
set_option linter.unusedSimpArgs false

/-- Of the first m places' nodes those that b is not above. -/
def kpl (b : Nat) (g : Nat → Nat) (m : Nat) : List Nat := ((List.range m).map g).filter (fun x => !abv b x)
theorem kpl_yes {b m : Nat} {g : Nat → Nat} (h : abv b (g m) = false) : kpl b g (m + 1) = kpl b g m ++ [g m] := by
  unfold kpl; rw [List.range_succ, List.map_append, List.filter_append]; simp [h]
theorem kpl_no {b m : Nat} {g : Nat → Nat} (h : abv b (g m) = true) : kpl b g (m + 1) = kpl b g m := by
  unfold kpl; rw [List.range_succ, List.map_append, List.filter_append]; simp [h]
theorem kpl_all {b : Nat} {g : Nat → Nat} : ∀ m : Nat, (∀ j, j < m → abv b (g j) = false) → kpl b g m = (List.range m).map g
  | 0, _ => rfl
  | m + 1, h => by rw [kpl_yes (h m (by omega)), kpl_all m (fun j hj => h j (by omega)), List.range_succ, List.map_append]; rfl
theorem below_setCells {n : Nat} {w : World} (b : Nat) : ∀ (vs : List Value) (o : Nat) (w' : World), Below n w w' → n ≤ b → Below n w (w'.setCells b o vs)
  | [], _, _, h, _ => h
  | v :: r, o, w', h, hb => by
    rw [World.setCells]
    exact below_setCells b r (o + 1) _ (h.setCell (p := ⟨b, o, none⟩) hb _) hb

/-- m places have been looked at: i nodes are kept. -/
structure Kpt (b n : Nat) (g : Nat → Nat) (i m : Nat) (F : Nat → Nat) : Prop where
  lt : i < m
  le : m ≤ n
  len : (kpl b g m).length = i
  low : ∀ t, t < i → (kpl b g m)[t]? = some (F t)
  high : ∀ t, m ≤ t → t < n → F t = g t
theorem Kpt.start {b n m : Nat} {g : Nat → Nat} (h : ∀ j, j < m → abv b (g j) = false) (hm : m < n) (ht : abv b (g m) = true) : Kpt b n g m (m + 1) g where
  lt := by omega
  le := by omega
  len := by rw [kpl_no ht, kpl_all m h]; simp
  low t h2 := by rw [kpl_no ht, kpl_all m h]; simp [List.getElem?_map, List.getElem?_range h2]
  high t _ _ := rfl
theorem Kpt.keep {b n i m : Nat} {g F : Nat → Nat} (h : Kpt b n g i m F) (hm : m < n) (ht : abv b (g m) = false) : Kpt b n g (i + 1) (m + 1) (fun t => if t = i then g m else F t) where
  lt := by have := h.lt; omega
  le := by omega
  len := by rw [kpl_yes ht]; simp [h.len]
  low t h2 := by
    rw [kpl_yes ht]
    by_cases e : t = i
    · subst e
      rw [List.getElem?_append_right (by rw [h.len]; exact Nat.le_refl _), h.len, Nat.sub_self]; simp
    · rw [List.getElem?_append_left (by rw [h.len]; omega), h.low t (by omega)]; simp [e]
  high t h1 h2 := by
    have := h.lt
    show (if t = i then g m else F t) = g t
    rw [if_neg (by omega)]; exact h.high t (by omega) h2
theorem Kpt.skip {b n i m : Nat} {g F : Nat → Nat} (h : Kpt b n g i m F) (hm : m < n) (ht : abv b (g m) = true) : Kpt b n g i (m + 1) F where
  lt := by have := h.lt; omega
  le := by omega
  len := by rw [kpl_no ht]; exact h.len
  low t h2 := by rw [kpl_no ht]; exact h.low t h2
  high t h1 h2 := h.high t (by omega) h2

/-- What a slice of nodes reads. -/
def NodesAt (w : World) (B : Nat) (l : List Nat) : Prop := ∀ (t x : Nat), l[t]? = some x → w.cell? ⟨B, t, none⟩ = some (.int .i64 (x : Int))

set_option maxRecDepth 100000 in
set_option maxHeartbeats 2000000 in
theorem delete_any (b n c B N : Nat) (g : Nat → Nat) (w : World) (hb : b < 256) (hn : n ≤ 64) (hnc : n ≤ c) (hg : ∀ j, j < n → 1 ≤ g j ∧ g j < 256) (hR : RowI w B n g) (hN : N ≤ B) :
    Calls Try.prog 66 #[.slice (some ⟨B, 0, none⟩) n c, .func (.func 67) #[.int .i64 (b : Int)] #[]] w fun e w' => (e = .returned (.slice (some ⟨B, 0, none⟩) (kpl b g n).length c) ∧ NodesAt w' B (kpl b g n)) ∧ Below N w w' := by
  have HI := Lib.hid (index_any b n c B g w hb hn hg hR.cell)
  have HA := Lib.hid (fun x w h1 h2 => isAbove_any b x w hb h1 h2)
  have HG := Lib.hid hg
  have HR0 := Lib.hid hR
  have HN := Lib.hid hN
  clear hg hb hR hN
  go_enter Try.func66, Try.ntmps66
  go_wp2_with fail
  refine HI.out.mono ?_
  rintro e w2 ⟨⟨k, rfl, hk⟩, rfl⟩
  rcases hk with ⟨rfl, hall⟩ | ⟨k0, rfl, hk0, ht, hall⟩
  · have HK : Hid (kpl b g n = (List.range n).map g) := Lib.hid (kpl_all n hall)
    have HL : Hid ((kpl b g n).length = n) := Lib.hid (by rw [HK.out]; simp)
    have HF : Hid (NodesAt w B (kpl b g n)) := Lib.hid (fun t x hx => by
      rw [HK.out] at hx
      have ht : t < n := by have := (List.getElem?_eq_some_iff.1 hx).1; simpa using this
      simp [List.getElem?_map, List.getElem?_range ht] at hx
      rw [← hx]; exact HR0.out.cell t ht)
    clear hall HI
    go_wp2_with fail
    go_ret
    exact ⟨⟨by first | (rw [HL.out]; done) | (rw [HL.out]; rfl), HF.out⟩, Below.refl _ _⟩
  · have HS := Lib.hid (Kpt.start hall hk0 ht)
    clear hall ht HI
    have hne : ((k0 : Int) == -1) = false := beq_eq_false_iff_ne.2 (by omega)
    go_wp2_with fail
    go_loopw [5, 6] (fun x y wr => ∃ (i j : Nat) (F : Nat → Nat), x = .int .i64 (i : Int) ∧ y = .int .i64 (j : Int) ∧ j ≤ n ∧ Hid (Kpt b n g i j F) ∧ Hid (RowI wr B n F) ∧ Hid (Below N w wr)) (fun _ y _ => n - (intOf y).toNat)
    case atStart => exact ⟨k0, k0 + 1, g, rfl, by go_num, by omega, HS, HR0, Lib.hid (Below.refl _ _)⟩
    case round =>
      obtain ⟨i, j, F, rfl, rfl, hj, HP, HRw, HB⟩ := hrel
      have hij := HP.out.lt
      by_cases hlt : j < n
      · have hlt' : (j : Int) < (n : Int) := by omega
        have ck := HRw.out.cell j hlt
        have ci := HRw.out.cell i (by omega)
        have fi := HRw.out.fr i (by omega)
        rw [HP.out.high j (Nat.le_refl _) hlt] at ck
        obtain ⟨g1, g2⟩ := HG.out j hlt
        have HAk := Lib.hid (HA.out (g j) wr g1 g2)
        have HX : Hid (∀ q x, q = abv b (g j) → x = g j → (q = true → Kpt b n g i (j + 1) F) ∧ (q = false → Kpt b n g (i + 1) (j + 1) (fun t => if t = i then x else F t))) := Lib.hid (fun q x hq hx => ⟨fun h => HP.out.skip hlt (by rw [← hq]; exact h), fun h => by rw [hx]; exact HP.out.keep hlt (by rw [← hq]; exact h)⟩)
        obtain ⟨x, hx⟩ : ∃ x, x = g j := ⟨_, rfl⟩
        obtain ⟨q, hq⟩ : ∃ q, q = abv b (g j) := ⟨_, rfl⟩
        have HX2 := Lib.hid (HX.out q x hq hx)
        rw [← hx] at ck HAk hq g1 g2
        rw [← hq] at HAk
        have HSt := Lib.hid (HRw.out.set i x (by omega))
        generalize F i = old at ci
        clear hx hq HX g1 g2
        go_wp2_with fail
        refine HAk.out.mono ?_
        rintro e w3 ⟨rfl, rfl⟩
        clear HAk
        rcases q with _ | _
        · have HP2 := Lib.hid (HX2.out.2 rfl)
          go_wp2_with fail
          go_roundw
          case rel => exact ⟨i + 1, j + 1, _, by go_num, by go_num, by omega, HP2, HSt, Lib.hid (HB.out.setCell (p := ⟨B, i, none⟩) HN.out _)⟩
          case measure => simp [intOf]; omega
        · have HP2 := Lib.hid (HX2.out.1 rfl)
          go_wp2_with fail
          go_roundw
          case rel => exact ⟨i, j + 1, F, rfl, by go_num, by omega, HP2, HRw, HB⟩
          case measure => simp [intOf]; omega
      · obtain rfl : n = j := by omega
        have HL : Hid ((kpl b g n).length = i) := Lib.hid HP.out.len
        have hcl : ∀ ty, (Builtin.clear_ #[122] ty #[.slice (some ⟨B, 0 + i, none⟩) (n - i) (c - i)]).run Try.prog wr = .ok (.tuple #[]) (wr.setCells B (0 + i) (List.replicate (n - i) (.int .i64 0))) :=
          fun ty => Lib.run_clear_slice wr _ _ ty (.int .i64 0) Try.underlying122 Try.zeroValue123 rfl rfl B (0 + i) _ _ (by omega) (fun t ht => by rw [show 0 + i + t = i + t by omega, HRw.out.cell (i + t) (by omega)]; rfl) (fun t ht => by rw [show 0 + i + t = i + t by omega]; exact HRw.out.fr (i + t) (by omega))
        rw [Nat.zero_add] at hcl
        have HE : Hid (NodesAt (wr.setCells B i (List.replicate (n - i) (.int .i64 0))) B (kpl b g n) ∧ Below N w (wr.setCells B i (List.replicate (n - i) (.int .i64 0)))) := Lib.hid ⟨fun t x hx => by
          have ht : t < i := by have := (List.getElem?_eq_some_iff.1 hx).1; rw [HL.out] at this; exact this
          rw [World.cell?_setCells_out B _ i wr ⟨B, t, none⟩ (fun _ _ => .inl ht), HRw.out.cell t (by omega)]
          have := HP.out.low t ht
          rw [this] at hx
          injection hx with hx
          rw [hx], below_setCells _ _ _ _ HB.out HN.out⟩
        clear HP HS HR0
        go_wp2_with fail
        go_ret
        exact ⟨⟨by first | (rw [HL.out]; done) | (rw [HL.out]; rfl), HE.out.1⟩, HE.out.2⟩
end Go.Proofs.Ytnbkoffhplknbaa
