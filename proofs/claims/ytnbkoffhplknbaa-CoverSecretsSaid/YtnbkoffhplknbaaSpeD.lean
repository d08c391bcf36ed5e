/-
  Members, the specification's.
-/
import Derived.Test.YtnbkoffhplknbaaSubB
namespace Go.Proofs.Ytnbkoffhplknbaa
open Go.RowKit TR
set_option linter.unusedVariables false
set_option linter.unusedSimpArgs false

theorem p64 {d : Nat} (hd : d < 7) : 1 ≤ 2 ^ d ∧ 2 ^ d ≤ 64 := by
  rcases (by omega : d = 0 ∨ d = 1 ∨ d = 2 ∨ d = 3 ∨ d = 4 ∨ d = 5 ∨ d = 6) with rfl | rfl | rfl | rfl | rfl | rfl | rfl <;> decide
theorem abv_zero (y : Nat) : abv 0 y = false := rfl

set_option maxRecDepth 100000 in
set_option maxHeartbeats 2000000 in
theorem refHas_any (K E : Int) (d v x u P Q G : Nat) (w : World) (hd : d < 7) (hv1 : 1 ≤ v) (hv : v < 128) (hx : x < 128) (hu : u < 2 ^ d) :
    Calls Try.prog 102 #[.agg #[.int .u8 K, .int .i64 (d : Int), .int .i64 E, .int .u64 (P : Int), .int .u64 (Q : Int), .int .u64 (G : Int)], .agg #[.int .i64 (v : Int), .int .i64 (x : Int)], .int .i64 (u : Int)] w fun e w' => e = .returned (.bool (abv v (2 ^ d + u) && !(abv x (2 ^ d + u)))) ∧ Below w.heap.size w w' := by
  obtain ⟨N, hN⟩ : ∃ N, N = w.heap.size := ⟨_, rfl⟩
  obtain ⟨W2, hW2⟩ : ∃ W2, W2 = (w.alloc (.cells #[.int .u8 K, .int .i64 (d : Int), .int .i64 E, .int .u64 (P : Int), .int .u64 (Q : Int), .int .u64 (G : Int)] 28)).alloc (.cells #[.int .i64 (v : Int), .int .i64 (x : Int)] 35) := ⟨_, rfl⟩
  have HB2 : Hid (Below N w W2) := Lib.hid (by rw [hW2, hN]; exact ((Below.refl _ _).alloc (Nat.le_refl _) _).alloc (by simp) _)
  have HS2 : Hid (W2.heap.size = N + 2) := Lib.hid (by rw [hW2, hN]; simp)
  have HEnv : Hid (∀ w1, Below (N + 2) W2 w1 → SchAt w1 N K (d : Int) E P Q G ∧ (w1.cell? ⟨N + 1, 0, none⟩ = some (.int .i64 (v : Int)) ∧ w1.cell? ⟨N + 1, 1, none⟩ = some (.int .i64 (x : Int))) ∧ Below N w w1) := Lib.hid (fun w1 h => by
    have s : SchAt W2 N K (d : Int) E P Q G := by rw [hW2, hN]; exact (SchAt.new w K (d : Int) E P Q G _).below ((Below.refl _ _).alloc (Nat.le_refl _) _) (by simp)
    have c : ∀ j t, #[Value.int .i64 (v : Int), Value.int .i64 (x : Int)][j]? = some t → W2.cell? ⟨N + 1, j, none⟩ = some t := fun j t hv => by
      have h := heap_alloc_new (w.alloc (.cells #[.int .u8 K, .int .i64 (d : Int), .int .i64 E, .int .u64 (P : Int), .int .u64 (Q : Int), .int .u64 (G : Int)] 28)) (.cells #[.int .i64 (v : Int), .int .i64 (x : Int)] 35)
      rw [← hW2, World.size_alloc, ← hN] at h
      rw [cell_of_row _ _ j _ _ _ h]; exact hv
    exact ⟨s.below h (by omega), ⟨(h.cell (p := ⟨N + 1, 0, none⟩) (by show N + 1 < N + 2; omega)).trans (c 0 _ rfl), (h.cell (p := ⟨N + 1, 1, none⟩) (by show N + 1 < N + 2; omega)).trans (c 1 _ rfl)⟩, HB2.out.trans (h.mono (by omega))⟩)
  have h64 := p64 hd
  have HR := Lib.hid (fun w => receivers_any d w hd)
  have HA : Hid (∀ w, Calls Try.prog 62 #[.int .i64 ((2 ^ d + u : Nat) : Int), .int .i64 (v : Int)] w fun e w' => e = .returned (.bool (abv v (2 ^ d + u))) ∧ w = w') := Lib.hid (fun w => by
    have h := refBelow_any (2 ^ d + u) v w (by omega) (by omega)
    rw [blw_abv v (2 ^ d + u) hv (by omega) hv1 (by omega)] at h
    exact h)
  have HX : Hid (1 ≤ x → ∀ w, Calls Try.prog 62 #[.int .i64 ((2 ^ d + u : Nat) : Int), .int .i64 (x : Int)] w fun e w' => e = .returned (.bool (abv x (2 ^ d + u))) ∧ w = w') := Lib.hid (fun hx1 w => by
    have h := refBelow_any (2 ^ d + u) x w (by omega) (by omega)
    rw [blw_abv x (2 ^ d + u) hx (by omega) hx1 (by omega)] at h
    exact h)
  have HZ := Lib.hid (abv_zero (2 ^ d + u))
  have HBE := Lib.hid (HEnv.out W2 (Below.refl _ _)).2.2
  have HN := Lib.hid hN
  have HW := Lib.hid hW2
  rw [← hN]
  obtain ⟨⟨c0, c1, c2, c3, c4, c5⟩, ⟨z0, z1⟩, _⟩ := HEnv.out W2 (Below.refl _ _)
  rw [hW2, hN] at c0 c1 c2 c3 c4 c5 z0 z1
  obtain ⟨l, hl⟩ : ∃ l, l = 2 ^ d + u := ⟨_, rfl⟩
  rw [← hl] at HA HX HZ ⊢
  generalize 2 ^ d = T at HR hl hu h64
  clear hN hW2 hd hv1 hv hx
  go_enter Try.func102, Try.ntmps102
  go_wp2_with fail
  rw [← HW.out, ← HN.out]
  refine (HR.out _).mono ?_
  rintro e w' ⟨rfl, rfl⟩
  clear c0 c1 c2 c3 c4 c5 z0 z1
  obtain ⟨⟨c0, c1, c2, c3, c4, c5⟩, ⟨z0, z1⟩, _⟩ := HEnv.out W2 (Below.refl _ _)
  go_wp2_with fail
  rw [show ((T : Int) + (u : Int)) = (l : Int) by omega]
  refine (HA.out _).mono ?_
  rintro e w' ⟨rfl, rfl⟩
  rcases hab : abv v l with _ | _
  · go_wp2_with fail
    go_ret
    exact ⟨by first | rfl | (simp [hab]; done), HBE.out⟩
  · by_cases hx0 : x = 0
    · have hx0i : (x : Int) = 0 := by omega
      have HX0 := Lib.hid hx0
      clear hx0
      go_wp2_with fail
      go_ret
      exact ⟨by rw [HX0.out, HZ.out]; first | rfl | (simp [hab]; done), HBE.out⟩
    · have hx0i : ¬ (x : Int) = 0 := by omega
      have HXx := Lib.hid (HX.out (by omega))
      go_wp2_with fail
      try rw [show ((T : Int) + (u : Int)) = (l : Int) by omega]
      refine (HXx.out _).mono ?_
      rintro e w' ⟨rfl, rfl⟩
      rcases hxb : abv x l with _ | _
      all_goals
        go_wp2_with fail
        go_ret
        exact ⟨by first | rfl | (simp [hab, hxb, hx0i, hx0]; done), HBE.out⟩

/-- The members among the first k receivers, as values. -/
def mmv (d v x k : Nat) : List Nat := (List.range k).filter fun u => abv v (2 ^ d + u) && !(abv x (2 ^ d + u))
theorem mmv_snoc (d v x k : Nat) : mmv d v x (k + 1) = if (abv v (2 ^ d + k) && !(abv x (2 ^ d + k))) = true then mmv d v x k ++ [k] else mmv d v x k := by
  unfold mmv
  rw [List.range_succ, List.filter_append]
  by_cases h : (abv v (2 ^ d + k) && !(abv x (2 ^ d + k))) = true
  · rw [if_pos h]; simp only [List.filter_cons, h, if_true, List.filter_nil]
  · rw [if_neg h]; simp only [List.filter_cons, h, if_false, List.filter_nil, List.append_nil, Bool.false_eq_true]
theorem mmv_len (d v x k : Nat) : (mmv d v x k).length ≤ k := by
  unfold mmv; have := List.length_filter_le (fun u => abv v (2 ^ d + u) && !(abv x (2 ^ d + u))) (List.range k); simpa using this
def ivs (xs : List Nat) : List Value := xs.map fun (u : Nat) => Value.int .i64 (u : Int)

set_option maxRecDepth 100000 in
set_option maxHeartbeats 2000000 in
theorem refMembersOf_any (K E : Int) (d v x P Q G : Nat) (w : World) (hd : d < 7) (hv1 : 1 ≤ v) (hv : v < 128) (hx : x < 128) :
    Calls Try.prog 92 #[.agg #[.int .u8 K, .int .i64 (d : Int), .int .i64 E, .int .u64 (P : Int), .int .u64 (Q : Int), .int .u64 (G : Int)], .agg #[.int .i64 (v : Int), .int .i64 (x : Int)]] w fun e w' => (∃ u, e = .returned u ∧ w'.ownsRow w.heap.size 3 1 u (mem_ d v x).length (ivs (mem_ d v x))) ∧ Below w.heap.size w w' := by
  obtain ⟨i0, hi, hz0, hz1, hz2⟩ := info_parts infoI
  obtain ⟨N, hN⟩ : ∃ N, N = w.heap.size := ⟨_, rfl⟩
  obtain ⟨W2, hW2⟩ : ∃ W2, W2 = (w.alloc (.cells #[.int .u8 K, .int .i64 (d : Int), .int .i64 E, .int .u64 (P : Int), .int .u64 (Q : Int), .int .u64 (G : Int)] 28)).alloc (.cells #[.int .i64 (v : Int), .int .i64 (x : Int)] 35) := ⟨_, rfl⟩
  have HB2 : Hid (Below N w W2) := Lib.hid (by rw [hW2, hN]; exact ((Below.refl _ _).alloc (Nat.le_refl _) _).alloc (by simp) _)
  have HS2 : Hid (W2.heap.size = N + 2) := Lib.hid (by rw [hW2, hN]; simp)
  have HEnv : Hid (∀ w1, Below (N + 2) W2 w1 → SchAt w1 N K (d : Int) E P Q G ∧ (w1.cell? ⟨N + 1, 0, none⟩ = some (.int .i64 (v : Int)) ∧ w1.cell? ⟨N + 1, 1, none⟩ = some (.int .i64 (x : Int))) ∧ Below N w w1) := Lib.hid (fun w1 h => by
    have s : SchAt W2 N K (d : Int) E P Q G := by rw [hW2, hN]; exact (SchAt.new w K (d : Int) E P Q G _).below ((Below.refl _ _).alloc (Nat.le_refl _) _) (by simp)
    have c : ∀ j t, #[Value.int .i64 (v : Int), Value.int .i64 (x : Int)][j]? = some t → W2.cell? ⟨N + 1, j, none⟩ = some t := fun j t hv => by
      have h := heap_alloc_new (w.alloc (.cells #[.int .u8 K, .int .i64 (d : Int), .int .i64 E, .int .u64 (P : Int), .int .u64 (Q : Int), .int .u64 (G : Int)] 28)) (.cells #[.int .i64 (v : Int), .int .i64 (x : Int)] 35)
      rw [← hW2, World.size_alloc, ← hN] at h
      rw [cell_of_row _ _ j _ _ _ h]; exact hv
    exact ⟨s.below h (by omega), ⟨(h.cell (p := ⟨N + 1, 0, none⟩) (by show N + 1 < N + 2; omega)).trans (c 0 _ rfl), (h.cell (p := ⟨N + 1, 1, none⟩) (by show N + 1 < N + 2; omega)).trans (c 1 _ rfl)⟩, HB2.out.trans (h.mono (by omega))⟩)
  have h64 := p64 hd
  have HR := Lib.hid (fun w => receivers_any d w hd)
  have HH := Lib.hid (fun (u : Nat) (w : World) (hu : u < 2 ^ d) => refHas_any K E d v x u P Q G w hd hv1 hv hx hu)
  have HSn := Lib.hid (fun k => mmv_snoc d v x k)
  have HLn := Lib.hid (fun k => mmv_len d v x k)
  have HM : Hid (mem_ d v x = mmv d v x (2 ^ d)) := Lib.hid rfl
  have HN := Lib.hid hN
  have HW := Lib.hid hW2
  obtain ⟨T, hT⟩ : ∃ T, T = 2 ^ d := ⟨_, rfl⟩
  rw [← hT] at HR h64 HM
  have HT := Lib.hid hT
  rw [HM.out]
  clear hN hW2 hT hd hv1 hv hx
  go_enter Try.func92, Try.ntmps92
  go_wp2_with fail
  rw [← HW.out, ← HN.out]
  go_loopw [5, 6] (fun u y wr => ∃ (k : Nat), k ≤ T ∧ y = .int .i64 (k : Int) ∧ Hid (wr.ownsRow (N + 2) 3 1 u (mmv d v x k).length (ivs (mmv d v x k))) ∧ Hid (Below (N + 2) W2 wr ∧ N + 2 ≤ wr.heap.size)) (fun _ y _ => T - (intOf y).toNat)
  case atStart => exact ⟨0, by omega, rfl, Lib.hid (World.ownsRow_nil _ _ _ _), Lib.hid ⟨Below.refl _ _, by rw [HS2.out]; omega⟩⟩
  case round =>
    obtain ⟨k, hk, rfl, HO, HBr⟩ := hrel
    obtain ⟨⟨c0, c1, c2, c3, c4, c5⟩, ⟨z0, z1⟩, _⟩ := HEnv.out wr HBr.out.1
    by_cases hlt : k < T
    · have HHk := Lib.hid (fun w => HH.out k w (by rw [← HT.out]; exact hlt))
      have HSk := Lib.hid (HSn.out k)
      have hlen := HLn.out k
      have HO1 := HO
      obtain ⟨ms, hms⟩ : ∃ ms, ms = mmv d v x k := ⟨_, rfl⟩
      rw [← hms] at HO1 HSk hlen
      obtain ⟨q, hq⟩ : ∃ q, q = (abv v (2 ^ d + k) && !(abv x (2 ^ d + k))) := ⟨_, rfl⟩
      rw [← hq] at HHk HSk
      have hlt' : (k : Int) < (T : Int) := by omega
      clear HO hms hq
      go_wp2_with fail
      refine (HR.out _).mono ?_
      rintro e w' ⟨rfl, rfl⟩
      go_wp2_with fail
      refine (HHk.out _).mono ?_
      rintro e w5 ⟨rfl, hb5⟩
      have O5 := own_below HO1.out hb5
      have HB5 : Hid (Below (N + 2) W2 w5 ∧ N + 2 ≤ w5.heap.size) := Lib.hid ⟨HBr.out.1.trans (hb5.mono HBr.out.2), Nat.le_trans HBr.out.2 hb5.size⟩
      clear hb5 c0 c1 c2 c3 c4 c5 z0 z1
      rcases q with _ | _
      · go_wp2_with fail
        go_roundw
        case rel => exact ⟨k + 1, by omega, by go_num, Lib.hid (by rw [HSk.out, if_neg (by decide)]; exact O5), HB5⟩
        case measure => simp [intOf]; omega
      · have ho := O5
        have hN5 := HB5.out.2
        have ho2 := ho.alloc (.cells #[.int .i64 (k : Int)] 3)
        have hone : ∀ u ∈ [Value.int .i64 (k : Int)], u.oneCell' = true := by intro u hu; simp at hu; subst hu; rfl
        have h63 : ms.length + 1 ≤ maxLen := by unfold maxLen; omega
        have hby : (ms.length + 1) * 8 ≤ 140737488355328 := by omega
        have hbs : N + 2 ≤ (w5.alloc (.cells #[.int .i64 (k : Int)] 3)).heap.size := by simp; omega
        go_wp2_with (first
          | (at_builtin; refine wpList_append_own _ rfl _ _ 30 rfl (N + 2) 3 i0 _ 1 8 Try.underlying30 hi hz0 hz1 hz2 rfl (by omega) _ _ _ rfl ho2 ⟨w5.heap.size, 0, none⟩ 1 1 [.int .i64 (k : Int)] rfl rfl (cell_one_new _ _ _) hone h63 (by omega) hbs ?_; intro v1 w6 hown6 hg6 _))
        go_roundw
        case rel => exact ⟨k + 1, by omega, by go_num, Lib.hid (by rw [HSk.out]; simp only [if_true]; unfold ivs at hown6 ⊢; rw [List.map_append, List.length_append]; exact hown6), Lib.hid ⟨(HB5.out.1.alloc hN5 _).grown hg6 (by simp; omega) (fun b hb => own_block ho hb.symm), Nat.le_trans (by simp; omega) hg6.size⟩⟩
        case measure => simp [intOf]; omega
    · obtain rfl : k = T := by omega
      have hge : (k : Int) ≤ (k : Int) := Int.le_refl _
      have HF : Hid (wr.ownsRow N 3 1 u5 (mmv d v x k).length (ivs (mmv d v x k)) ∧ Below N w wr) := Lib.hid ⟨⟨HO.out.1, by
        rcases HO.out.2 with h | ⟨g, cap, cur, h1, h2, h3⟩
        · exact .inl h
        · exact .inr ⟨g, cap, cur, h1, by omega, h3⟩⟩, (HEnv.out wr HBr.out.1).2.2⟩
      go_wp2_with fail
      refine (HR.out _).mono ?_
      rintro e w' ⟨rfl, rfl⟩
      go_wp2_with fail
      go_ret
      exact ⟨⟨_, rfl, by rw [← HN.out]; exact HF.out.1⟩, by rw [← HN.out]; exact HF.out.2⟩
end Go.Proofs.Ytnbkoffhplknbaa
