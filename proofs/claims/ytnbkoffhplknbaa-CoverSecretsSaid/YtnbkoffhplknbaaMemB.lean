/-
  Members, the program's.
-/
import Derived.Test.YtnbkoffhplknbaaMemA
import Derived.Laws.OwnMore
namespace Go.Proofs.Ytnbkoffhplknbaa
open Go.RowKit TR
set_option linter.unusedVariables false
set_option linter.unusedSimpArgs false

theorem sbc_zero {K D E a b : Int} {P Q G : Nat} (h : sbc K D E P Q G a b = 0) : ScOk K D E P Q G ∧ ∃ d v x : Nat, D = (d : Int) ∧ a = (v : Int) ∧ b = (x : Int) ∧ d < 7 ∧ 1 ≤ v ∧ v < 2 ^ (d + 1) ∧ v < 128 ∧ x < 128 := by
  unfold sbc at h
  by_cases hs : ScOk K D E P Q G
  · rw [scb_yes hs] at h
    have hd0 := hs.2.2.1
    have hd6 := hs.2.2.2.1
    obtain ⟨d, rfl⟩ := Int.eq_ofNat_of_zero_le hd0
    simp only [Int.toNat_natCast, if_true] at h
    cases hi : isb K d a b with
    | false => simp [hi] at h
    | true =>
      unfold isb at hi
      rw [Bool.and_eq_true] at hi
      obtain ⟨h1, h2⟩ := hi
      obtain ⟨v, rfl, v1, v2, v3⟩ := hsn_nat (by omega) h1
      have hb : b = 0 ∨ hsn d b = true := by
        by_cases k1 : K = 1
        · rw [if_pos k1] at h2; exact .inl (of_decide_eq_true h2)
        · rw [if_neg k1] at h2
          by_cases b0 : b = 0
          · exact .inl b0
          · rw [if_neg b0, Bool.and_eq_true] at h2; exact .inr h2.1
      rcases hb with rfl | hb
      · exact ⟨hs, d, v, 0, rfl, rfl, rfl, by omega, v1, v2, v3, by omega⟩
      · obtain ⟨x, rfl, _, _, x3⟩ := hsn_nat (by omega) hb
        exact ⟨hs, d, v, x, rfl, rfl, rfl, by omega, v1, v2, v3, x3⟩
  · rw [scb_no hs] at h; simp at h

theorem kpl_lt {b m : Nat} {g : Nat → Nat} (h : ∀ i, i < m → g i < 128) : ∀ l ∈ kpl b g m, l < 128 := fun l hl => by
  unfold kpl at hl
  obtain ⟨i, hi, rfl⟩ := List.mem_map.1 (List.mem_filter.1 hl).1
  exact h i (List.mem_range.1 hi)
theorem ivs_ext {m : Nat} {xs : List Value} {l : List Nat} (hl : l.length = m) (hx : xs.length = m) (h : ∀ t y, t < m → l[t]? = some y → xs[t]? = some (.int .i64 (y : Int))) : xs = ivs l := by
  apply List.ext_getElem?
  intro t
  by_cases ht : t < m
  · have e : l[t]? = some l[t] := List.getElem?_eq_getElem (by omega)
    rw [h t _ ht e]; unfold ivs; rw [List.getElem?_map, e]; rfl
  · rw [List.getElem?_eq_none (by omega), List.getElem?_eq_none (by unfold ivs; rw [List.length_map]; omega)]

set_option maxRecDepth 100000 in
set_option maxHeartbeats 2000000 in
theorem members_any (K D E a b : Int) (P Q G : Nat) (w : World) (hK0 : 0 ≤ K) (hK1 : K ≤ 255) :
    Calls Try.prog 23 #[.agg #[.int .u8 K, .int .i64 D, .int .i64 E, .int .u64 (P : Int), .int .u64 (Q : Int), .int .u64 (G : Int)], .agg #[.int .i64 a, .int .i64 b]] w fun e w' => (∃ u, e = .returned (.tuple #[u, .int .i64 (sbc K D E P Q G a b)]) ∧ (sbc K D E P Q G a b ≠ 0 → u = .slice none 0 0) ∧ (sbc K D E P Q G a b = 0 → w'.ownsRow w.heap.size 3 1 u (mem_ D.toNat a.toNat b.toNat).length (ivs (mem_ D.toNat a.toNat b.toNat)))) ∧ Below w.heap.size w w' := by
  obtain ⟨i0, hi, hz0, hz1, hz2⟩ := info_parts infoI
  obtain ⟨N, hN⟩ : ∃ N, N = w.heap.size := ⟨_, rfl⟩
  obtain ⟨W2, hW2⟩ : ∃ W2, W2 = (w.alloc (.cells #[.int .u8 K, .int .i64 D, .int .i64 E, .int .u64 (P : Int), .int .u64 (Q : Int), .int .u64 (G : Int)] 28)).alloc (.cells #[.int .i64 a, .int .i64 b] 35) := ⟨_, rfl⟩
  have HB2 : Hid (Below N w W2) := Lib.hid (by rw [hW2, hN]; exact ((Below.refl _ _).alloc (Nat.le_refl _) _).alloc (by simp) _)
  have HS2 : Hid (W2.heap.size = N + 2) := Lib.hid (by rw [hW2, hN]; simp)
  have HEnv : Hid (∀ w1, Below (N + 2) W2 w1 → SchAt w1 N K D E P Q G ∧ (w1.cell? ⟨N + 1, 0, none⟩ = some (.int .i64 a) ∧ w1.cell? ⟨N + 1, 1, none⟩ = some (.int .i64 b)) ∧ Below N w w1) := Lib.hid (fun w1 h => by
    have s : SchAt W2 N K D E P Q G := by rw [hW2, hN]; exact (SchAt.new w K D E P Q G _).below ((Below.refl _ _).alloc (Nat.le_refl _) _) (by simp)
    have c : ∀ j v, #[Value.int .i64 a, Value.int .i64 b][j]? = some v → W2.cell? ⟨N + 1, j, none⟩ = some v := fun j v hv => by
      have h := heap_alloc_new (w.alloc (.cells #[.int .u8 K, .int .i64 D, .int .i64 E, .int .u64 (P : Int), .int .u64 (Q : Int), .int .u64 (G : Int)] 28)) (.cells #[.int .i64 a, .int .i64 b] 35)
      rw [← hW2, World.size_alloc, ← hN] at h
      rw [cell_of_row _ _ j _ _ _ h]; exact hv
    exact ⟨s.below h (by omega), ⟨(h.cell (p := ⟨N + 1, 0, none⟩) (by show N + 1 < N + 2; omega)).trans (c 0 _ rfl), (h.cell (p := ⟨N + 1, 1, none⟩) (by show N + 1 < N + 2; omega)).trans (c 1 _ rfl)⟩, HB2.out.trans (h.mono (by omega))⟩)
  have HC := Lib.hid (fun w => checkSubset_any K D E a b P Q G w hK0 hK1)
  have HZ := Lib.hid (fun h => sbc_zero (K := K) (D := D) (E := E) (a := a) (b := b) (P := P) (Q := Q) (G := G) h)
  have HN := Lib.hid hN
  have HW := Lib.hid hW2
  rw [← hN]
  obtain ⟨⟨c0, c1, c2, c3, c4, c5⟩, ⟨z0, z1⟩, _⟩ := HEnv.out W2 (Below.refl _ _)
  rw [hW2, hN] at c0 c1 c2 c3 c4 c5 z0 z1
  clear hN hW2 hK0 hK1
  go_enter Try.func23, Try.ntmps23
  go_wp2_with fail
  rw [← HW.out, ← HN.out]
  refine (HC.out _).mono ?_
  rintro e w3 ⟨rfl, hb3⟩
  have HB3 : Hid (Below (N + 2) W2 w3 ∧ N + 2 ≤ w3.heap.size) := Lib.hid ⟨hb3.mono (by rw [HS2.out]; exact Nat.le_refl _), by rw [← HS2.out]; exact hb3.size⟩
  have HE3 : Hid (Below N w w3) := Lib.hid (HEnv.out w3 HB3.out.1).2.2
  clear hb3 c0 c1 c2 c3 c4 c5 z0 z1
  obtain ⟨r, hr⟩ : ∃ r, r = sbc K D E P Q G a b := ⟨_, rfl⟩
  have HR := Lib.hid hr
  rw [← hr]
  by_cases h : r = 0
  · obtain ⟨hs, d, v, x, rfl, rfl, rfl, hd, v1, v2, v3, hx⟩ := HZ.out (by rw [← hr]; exact h)
    subst h
    clear hr
    obtain ⟨ht1, ht2, ht3⟩ := ht_le d v hd v2 v1
    have HLv := Lib.hid (fun w => leaves_any v d w hd v1 v2 ht1)
    have HMk := Lib.hid (mem_kpl d v x hd v2 v1)
    have HLf : Hid (∀ w, Calls Try.prog 68 #[.agg #[.int .u8 K, .int .i64 (d : Int), .int .i64 E, .int .u64 (P : Int), .int .u64 (Q : Int), .int .u64 (G : Int)], .int .i64 0] w fun e w' => e = .returned (.int .i64 ((2 ^ d : Nat) : Int)) ∧ Below w.heap.size w w') := Lib.hid (fun w => leaf_any K E d 0 P Q G w hd (by omega))
    have HLl := Lib.hid (fun i h => lfa_lt d v i hd v2 v1 h)
    have HKl := Lib.hid (kpl_leaf d v x hd v2 v1)
    have HKn := Lib.hid (kpl_len x (2 ^ (d - lv v)) (lfa d v))
    have HD := Lib.hid (fun c B N w h1 h2 h3 h4 => delete_any x (2 ^ (d - lv v)) c B N (lfa d v) w (by omega) ht3 h1 h2 h3 h4)
    have HLs := Lib.hid (lvs_lfa d v)
    obtain ⟨T, hT⟩ : ∃ T, T = 2 ^ (d - lv v) := ⟨_, rfl⟩
    rw [← hT] at HLv HMk HLl HKl HKn HD HLs ht2 ht3
    clear hT hs ht1
    obtain ⟨⟨c0, c1, c2, c3, c4, c5⟩, ⟨z0, z1⟩, _⟩ := HEnv.out w3 HB3.out.1
    go_wp2_with fail
    refine (HLv.out _).mono ?_
    rintro e w4 ⟨⟨u4, rfl, ho4⟩, hb4⟩
    rw [HLs.out] at ho4
    obtain ⟨B, c, rfl, hB1, hB2, hnc, hcm, hR4⟩ := own_rowi ho4 ht2
    have HD4 := Lib.hid (HD.out c B (N + 2) w4 hnc (fun j h => by have := HLl.out j h; omega) hR4 (by have := HB3.out.2; omega))
    have HB4 : Hid (Below (N + 2) W2 w4 ∧ B < w4.heap.size ∧ N + 2 ≤ w4.heap.size) := Lib.hid ⟨HB3.out.1.trans (hb4.mono HB3.out.2), hB2, Nat.le_trans HB3.out.2 hb4.size⟩
    clear c0 c1 c2 c3 c4 c5 z0 z1 hb4 ho4 hR4 hB1 hB2 HD HLv
    obtain ⟨⟨c0, c1, c2, c3, c4, c5⟩, ⟨z0, z1⟩, _⟩ := HEnv.out w4 HB4.out.1
    go_wp2_with fail
    refine HD4.out.mono ?_
    rintro e w5 ⟨⟨rfl, hn5⟩, hb5⟩
    obtain ⟨l, hl⟩ : ∃ l, l = kpl x (lfa d v) T := ⟨_, rfl⟩
    have HLk := Lib.hid hl
    rw [← hl] at HMk HKl HKn hn5 ⊢
    have HB5 : Hid (Below (N + 2) W2 w5 ∧ N + 2 ≤ w5.heap.size) := Lib.hid ⟨HB4.out.1.trans hb5, Nat.le_trans HB4.out.2.2 hb5.size⟩
    have HBs : Hid (B < w5.heap.size) := Lib.hid (Nat.lt_of_lt_of_le HB4.out.2.1 hb5.size)
    have HNd := Lib.hid hn5
    have HD2 := Lib.hid (p64 hd)
    obtain ⟨m, hm⟩ : ∃ m, m = l.length := ⟨_, rfl⟩
    have hmT : m ≤ T := by rw [hm]; exact HKn.out
    have HLen := Lib.hid hm
    rw [← hm]
    clear hb5 hn5 hl hm c0 c1 c2 c3 c4 c5 z0 z1 HD4
    have hN5 : N ≤ w5.heap.size := by have := HB5.out.2; omega
    go_wp2_with (first
      | (at_make; refine wpList_make_full _ rfl _ _ 30 rfl N 3 i0 _ 1 Try.underlying30 hi hz0 hz1 .i64 .i64 _ _ m rfl rfl rfl rfl (by rw [hz2]; omega) (by unfold maxLen; omega) hN5 ?_; intro w6 hown6 hg6))
    have HB6 : Hid (Below w5.heap.size w5 w6 ∧ w5.heap.size ≤ w6.heap.size) := Lib.hid ⟨(Below.refl _ _).grown hg6 (Nat.le_refl _) (by simp), hg6.size⟩
    obtain ⟨S, hS⟩ : ∃ S, S = w5.heap.size := ⟨_, rfl⟩
    rw [← hS] at HB5 HBs HB6 hown6 hN5 ⊢
    have HO6 := Lib.hid hown6
    clear hown6 hg6 hS
    have HKm : Hid (∀ y ∈ l, y < 128) := Lib.hid (by rw [HLk.out]; exact kpl_lt (fun i h => (HLl.out i h).2))
    have HLt : Hid (∀ k, k < m → ∃ y, l[k]? = some y ∧ 2 ^ d ≤ y ∧ y < 128) := Lib.hid (fun k hk => by
      have hk2 : k < l.length := by rw [← HLen.out]; exact hk
      exact ⟨l[k], List.getElem?_eq_getElem hk2, HKl.out _ (List.getElem_mem hk2), HKm.out _ (List.getElem_mem hk2)⟩)
    obtain ⟨D2, hD2⟩ : ∃ D2, D2 = 2 ^ d := ⟨_, rfl⟩
    rw [← hD2] at HMk HLf HLt HD2
    have hD3 := HD2.out
    clear hD2 HKl HKm HLl HLk
    go_loopw [32] (fun i wr => ∃ (k : Nat) (xs : List Value), k ≤ m ∧ i = .int .i64 (k : Int) ∧ Hid (wr.ownsRow N 3 1 (.slice (some ⟨S, 0, none⟩) m m) m xs) ∧ Hid (∀ t y, t < k → l[t]? = some y → xs[t]? = some (.int .i64 ((y - D2 : Nat) : Int))) ∧ Hid (Below S w5 wr ∧ S ≤ wr.heap.size)) (fun i _ => m - (intOf i).toNat)
    case atStart => exact ⟨0, _, by omega, rfl, HO6, Lib.hid (fun t y h => by omega), HB6⟩
    case round =>
      obtain ⟨k, xs, hk, rfl, HO, HX, HBr⟩ := hrel
      have HBw : Hid (Below (N + 2) W2 wr) := Lib.hid (HB5.out.1.trans (HBr.out.1.mono HB5.out.2))
      by_cases hlt : k < m
      · have hlt' : (k : Int) < (m : Int) := by omega
        obtain ⟨y, hy, hy1, hy2⟩ := HLt.out k hlt
        have HY := Lib.hid hy
        have ck : wr.cell? ⟨B, k, none⟩ = some (.int .i64 (y : Int)) := (HBr.out.1.cell (p := ⟨B, k, none⟩) HBs.out).trans (HNd.out k y hy)
        clear hy
        obtain ⟨⟨c0, c1, c2, c3, c4, c5⟩, _, _⟩ := HEnv.out wr HBw.out
        go_wp2_with fail
        refine (HLf.out _).mono ?_
        rintro e w7 ⟨rfl, hb7⟩
        have HO7 := Lib.hid (own_below HO.out hb7)
        have HB7 : Hid (Below S w5 w7 ∧ S ≤ w7.heap.size) := Lib.hid ⟨HBr.out.1.trans (hb7.mono HBr.out.2), Nat.le_trans HBr.out.2 hb7.size⟩
        have hxl : xs.length = m := by have := HO7.out.1; omega
        have HXl := Lib.hid hxl
        have cS : w7.cell? ⟨S, k, none⟩ = some xs[k] := by
          obtain ⟨g, c', e1, _, _, _, h5⟩ := own_slice2 HO7.out (by omega)
          injection e1 with e1 _ _; injection e1 with e1; injection e1 with e1 _ _
          rw [e1]; exact h5 k _ (List.getElem?_eq_getElem (by omega))
        have fS := HO7.out.frozenAt k
        have HSt := Lib.hid (HO7.out.stored k (.int .i64 ((y - D2 : Nat) : Int)))
        have hsub : ((y : Int) - (D2 : Int)) = ((y - D2 : Nat) : Int) := by omega
        generalize xs[k] = old at cS
        clear c0 c1 c2 c3 c4 c5 ck hb7 hxl
        obtain ⟨q, hq⟩ : ∃ q, q = y - D2 := ⟨_, rfl⟩
        rw [← hq] at HSt hsub
        have HQ := Lib.hid hq
        clear hq
        go_wp2_with fail
        go_roundw
        case rel => exact ⟨k + 1, _, by omega, by go_num, Lib.hid HSt.out.1, Lib.hid (fun t y2 h1 h2 => by
          by_cases e : t = k
          · subst e
            rw [HY.out] at h2; injection h2 with h2
            rw [List.getElem?_set_self (by rw [HXl.out]; exact hlt), HQ.out, h2]
          · rw [List.getElem?_set_ne (by omega)]
            exact HX.out t y2 (by omega) h2), Lib.hid ⟨HB7.out.1.setCell (p := ⟨S, k, none⟩) (Nat.le_refl _) _, by rw [World.size_setCell]; exact HB7.out.2⟩⟩
        case measure => simp [intOf]; omega
      · obtain rfl : m = k := by omega
        have HE : Hid (wr.ownsRow N 3 1 (.slice (some ⟨S, 0, none⟩) m m) (mem_ (d : Int).toNat (v : Int).toNat (x : Int).toNat).length (ivs (mem_ (d : Int).toNat (v : Int).toNat (x : Int).toNat))) := Lib.hid (by
          simp only [Int.toNat_natCast]
          have hx2 : xs = ivs (l.map (fun l => l - D2)) := ivs_ext (m := m) (by rw [List.length_map]; exact HLen.out.symm) (by have := HO.out.1; omega) (fun t y ht hy => by
            rw [List.getElem?_map] at hy
            obtain ⟨y0, hy0, rfl⟩ := Option.map_eq_some_iff.1 hy
            exact HX.out t y0 ht hy0)
          rw [HMk.out, List.length_map, ← HLen.out, ← hx2]
          exact HO.out)
        have HBe := Lib.hid (HEnv.out wr HBw.out).2.2
        clear HO HX HBr HBw
        go_wp2_with fail
        go_ret2
        exact ⟨⟨_, by first | (rw [← HR.out]; done) | (rw [← HR.out]; rfl), fun h2 => absurd HR.out.symm h2, fun _ => HE.out⟩, HBe.out⟩
  · have HF : Hid (Below N w w3) := HE3
    have hne : (r == 0) = false := beq_eq_false_iff_ne.2 h
    clear hr
    go_wp2_with fail
    go_ret2
    exact ⟨⟨_, by first | (rw [← HR.out]; done) | (rw [← HR.out]; rfl), fun _ => rfl, fun h2 => absurd (HR.out.trans h2) h⟩, HF.out⟩
end Go.Proofs.Ytnbkoffhplknbaa
