/-
  The specification's nodes, special nodes and paths.
-/
import Derived.Test.YtelalpikdidpeaaOwn
namespace Go.Proofs.Ytelalpikdidpeaa
open Go.RowKit TR
set_option linter.unusedVariables false
set_option linter.unusedSimpArgs false

set_option maxRecDepth 100000 in
set_option maxHeartbeats 1000000 in
theorem refNode_any (x : Int) (d : Nat) (w : World) (hd : d < 7) :
    Calls Try.prog 84 #[.int .i64 (d : Int), .int .i64 x] w fun e w' => e = .returned (.bool (hsn d x)) ∧ w = w' := by
  have HR := Lib.hid (fun w => receivers_any d w hd)
  have HF : Hid (hsn d x = decide (1 ≤ x ∧ x < 2 * ((2 ^ d : Nat) : Int))) := Lib.hid (by unfold hsn; rw [Nat.pow_succ]; congr 1; simp only [eq_iff_iff]; omega)
  have h64 : 2 ^ d ≤ 64 := by rcases (by omega : d = 0 ∨ d = 1 ∨ d = 2 ∨ d = 3 ∨ d = 4 ∨ d = 5 ∨ d = 6) with rfl | rfl | rfl | rfl | rfl | rfl | rfl <;> decide
  generalize 2 ^ d = T at HR HF h64
  by_cases h1 : 1 ≤ x
  · by_cases h2 : x < 2 * (T : Int)
    all_goals
      go_enter Try.func84, Try.ntmps84
      go_wp2_with fail
      refine (HR.out _).mono ?_
      rintro e1 w' ⟨rfl, rfl⟩
      go_wp2_with fail
      go_ret
      exact ⟨by rw [HF.out]; first | rfl | (simp [h1, h2]; done) | (simp; omega), rfl⟩
  · have h2 : x < 1 := by omega
    go_enter Try.func84, Try.ntmps84
    go_wp2_with fail
    go_ret
    exact ⟨by rw [HF.out]; first | rfl | (simp [h1]; done) | (simp; omega), rfl⟩

set_option maxRecDepth 100000 in
set_option maxHeartbeats 2000000 in
theorem refSpecial_any (d v : Nat) (w : World) (hd : d < 7) (hv : v < 256) :
    Calls Try.prog 86 #[.int .i64 (d : Int), .int .i64 (v : Int)] w fun e w' => e = .returned (.bool (spc d v)) ∧ w = w' := by
  have HL := Lib.hid (fun w => refLevel_any v w (by omega))
  have HS := Lib.hid (fun w => refStride_any d w hd)
  have HF : Hid (spc d v = (lv v % strd d == 0)) := Lib.hid rfl
  have hl := lv_lt v hv
  have hs : strd d = 1 ∨ strd d = 2 ∨ strd d = 3 := by unfold strd; split; exact .inl rfl; split; exact .inr (.inl rfl); exact .inr (.inr rfl)
  rw [HF.out]
  obtain ⟨m, hm⟩ : ∃ m, m = lv v := ⟨_, rfl⟩
  obtain ⟨s, hs'⟩ : ∃ s, s = strd d := ⟨_, rfl⟩
  rw [← hm] at HL hl ⊢
  rw [← hs'] at HS hs ⊢
  clear hm hs' HF hv
  go_enter Try.func86, Try.ntmps86
  go_wp2_with fail
  refine (HL.out _).mono ?_
  rintro e1 w' ⟨rfl, rfl⟩
  go_wp2_with fail
  refine (HS.out _).mono ?_
  rintro e1 w' ⟨rfl, rfl⟩
  clear HL HS
  rcases hs with rfl | rfl | rfl <;> rcases (by omega : m = 0 ∨ m = 1 ∨ m = 2 ∨ m = 3 ∨ m = 4 ∨ m = 5 ∨ m = 6 ∨ m = 7) with rfl | rfl | rfl | rfl | rfl | rfl | rfl | rfl
  all_goals
    go_wp2_with fail
    go_ret
    exact ⟨by first | rfl | (simp; done), rfl⟩

/-- The nodes above x, of the last k levels. -/
def outl (x k : Nat) : List Value := (List.range k).map fun i => .int .i64 ((x >>> (k - 1 - i) : Nat) : Int)
theorem outl_cons (x k : Nat) : outl x (k + 1) = [.int .i64 ((x >>> k : Nat) : Int)] ++ outl x k := by
  unfold outl
  rw [List.range_succ_eq_map, List.map_cons, List.map_map]
  congr 1
  apply List.map_congr_left
  intro i hi
  simp only [Function.comp]
  rw [show k + 1 - 1 - (i + 1) = k - 1 - i by omega]
theorem outl_get (x k i : Nat) (h : i < k) : (outl x k)[i]? = some (.int .i64 ((x >>> (k - 1 - i) : Nat) : Int)) := by
  unfold outl; rw [List.getElem?_map, List.getElem?_range h]; rfl
theorem abv_facts {v x : Nat} (h : abv v x = true) : 1 ≤ v ∧ lv v ≤ lv x ∧ x >>> (lv x - lv v) = v := by
  unfold abv at h
  simp at h
  exact ⟨by omega, h.1.2, h.2⟩

set_option maxRecDepth 100000 in
set_option maxHeartbeats 2000000 in
theorem refPath_any (v x : Nat) (w : World) (hx : x < 256) (h : abv v x = true) :
    Calls Try.prog 50 #[.int .i64 (v : Int), .int .i64 (x : Int)] w fun e w' => (∃ g c, e = .returned (.slice (some ⟨g, 0, none⟩) (lv x - lv v + 1) c) ∧ w.heap.size ≤ g ∧ lv x - lv v + 1 ≤ c ∧ c ≤ maxLen ∧ ∀ i, i < lv x - lv v + 1 → w'.cell? ⟨g, i, none⟩ = some (.int .i64 ((x >>> (lv x - lv v - i) : Nat) : Int))) ∧ Below w.heap.size w w' := by
  obtain ⟨i0, hi, hz0, hz1, hz2⟩ := info_parts infoI
  obtain ⟨hv1, hle, hsh⟩ := abv_facts h
  have hl8 := lv_lt x hx
  have HNe : Hid (∀ k, k < lv x - lv v → x >>> k ≠ v) := Lib.hid (fun k hk e => by
    have h1 : 1 ≤ x := by
      rcases Nat.eq_zero_or_pos x with h0 | h0
      · subst h0; simp at e; omega
      · exact h0
    have h2 := nat_ok x (lv x - k) h1 hx (by omega)
    unfold nat_ at h2
    rw [show lv x - (lv x - k) = k by omega, e] at h2
    omega)
  have HSh := Lib.hid hsh
  have HLe : Hid (∀ k, x >>> k ≤ 255) := Lib.hid (fun k => by rw [Nat.shiftRight_eq_div_pow]; have := Nat.div_le_self x (2 ^ k); omega)
  obtain ⟨K, hK⟩ : ∃ K, K = lv x - lv v := ⟨_, rfl⟩
  rw [← hK] at HNe HSh ⊢
  have hK8 : K ≤ 8 := by omega
  obtain ⟨N, hN⟩ : ∃ N, N = w.heap.size := ⟨_, rfl⟩
  have HN := Lib.hid hN
  rw [← hN]
  clear hK hsh h hx hle hl8 hN
  go_enter Try.func50, Try.ntmps50
  go_wp2_with fail
  go_loopw [1, 5] (fun y u wr => ∃ (k : Nat), k ≤ K ∧ y = .int .i64 ((x >>> k : Nat) : Int) ∧ (k = 0 → u = .slice none 0 0) ∧ Hid (wr.ownsRow N 3 1 u k (outl x k)) ∧ Hid (Below N w wr ∧ N ≤ wr.heap.size)) (fun y _ _ => (intOf y).toNat)
  case atStart => exact ⟨0, by omega, by simp, fun _ => rfl, Lib.hid (World.ownsRow_nil _ _ _ _), Lib.hid ⟨Below.refl _ _, by rw [HN.out]; exact Nat.le_refl _⟩⟩
  case round =>
    obtain ⟨k, hk, rfl, hnil, HO, HBr⟩ := hrel
    obtain ⟨y, hy⟩ : ∃ y, y = x >>> k := ⟨_, rfl⟩
    have HY := Lib.hid hy
    have HSn : Hid (outl x (k + 1) = [.int .i64 (y : Int)] ++ outl x k) := Lib.hid (by rw [outl_cons, hy])
    have hy255 : y ≤ 255 := by rw [hy]; exact HLe.out k
    have hNw : N ≤ wr.heap.size := HBr.out.2
    by_cases hlt : k < K
    · have hne : ¬ ((y : Int) = (v : Int)) := by have := HNe.out k hlt; rw [← hy] at this; omega
      have HHf : Hid (x >>> (k + 1) = y / 2) := Lib.hid (by rw [Nat.shiftRight_succ, hy])
      have hy0 : 0 < y := by
        rcases Nat.eq_zero_or_pos y with h0 | h0
        · exfalso
          have h1 : x >>> K = 0 := by
            rw [show K = k + (K - k) by omega, Nat.shiftRight_add, ← hy, h0]; simp
          have := HSh.out; omega
        · exact h0
      rw [← hy]
      clear hy
      rcases Nat.eq_zero_or_pos k with hk0 | hk0
      · subst hk0
        have hu := hnil rfl
        subst hu
        have hap := fun ty => run_append_room_src (P := Try.prog) (w := wr.alloc (.cells #[.int .i64 (y : Int)] 3)) 36 36 ty 3 i0 Try.underlying36 hi wr.heap.size 0 1 1 (.slice none 0 0) 0 [] (Src.ofNil _ Try.underlying36 0) (by omega) (fun j hj => by simp at hj) (fun j hj => by simp at hj)
        simp only [World.setCells] at hap
        go_wp2_with fail
        go_roundw
        case rel => exact ⟨0 + 1, by omega, by rw [HHf.out]; go_num, fun h => by omega, Lib.hid (by rw [HSn.out]; exact own_new wr 3 (.int .i64 (y : Int)) N hNw), Lib.hid ⟨HBr.out.1.alloc hNw _, by simp; omega⟩⟩
        case measure => simp [intOf]; omega
      · obtain ⟨g, c, hu, q1, q2, q3, q4⟩ := own_slice2 HO.out hk0
        subst hu
        have hkI : (0 : Int) < (k : Int) := by omega
        have ho := own_new wr 3 (.int .i64 (y : Int)) N hNw
        have hlen : (outl x k).length = k * 1 := by simp [outl]
        have hnw : ∀ j u, (outl x k)[j]? = some u → (wr.alloc (.cells #[.int .i64 (y : Int)] 3)).cell? ((⟨g, 0, none⟩ : Addr).add j) = some u := fun j u hu => by
          rw [Addr.add_mid, Nat.zero_add]
          exact (((Below.refl wr.heap.size wr).alloc (Nat.le_refl _) _).cell (p := ⟨g, j, none⟩) (World.block_lt_of_cell? wr _ (q4 j u hu))).trans (q4 j u hu)
        have hone : ∀ u ∈ outl x k, u.oneCell' = true := by intro u hu; obtain ⟨i, _, rfl⟩ := List.mem_map.1 hu; rfl
        have h63 : 1 + k ≤ maxLen := by unfold maxLen; omega
        have hby : (1 + k) * 8 ≤ 140737488355328 := by omega
        have hbs : N ≤ (wr.alloc (.cells #[.int .i64 (y : Int)] 3)).heap.size := by simp; omega
        go_wp2_with (first
          | (at_builtin; refine wpList_append_own _ rfl _ _ 36 rfl N 3 i0 _ 1 8 Try.underlying36 hi hz0 hz1 hz2 rfl (by omega) _ _ _ rfl ho ⟨g, 0, none⟩ k c (outl x k) rfl hlen hnw hone h63 (by omega) hbs ?_; intro v1 w6 hown6 hg6 _))
        go_roundw
        case rel => exact ⟨k + 1, by omega, by rw [HHf.out]; go_num, fun h => by omega, Lib.hid (by rw [HSn.out, Nat.add_comm k 1]; exact hown6), Lib.hid ⟨(HBr.out.1.alloc hNw _).grown hg6 (by simp; omega) (fun b hb => own_block ho hb.symm), Nat.le_trans (by simp; omega) hg6.size⟩⟩
        case measure => simp [intOf]; omega
    · obtain rfl : K = k := by omega
      have hyv : y = v := by rw [hy]; exact HSh.out
      have HGet : Hid (∀ i, i < K + 1 → (outl x (K + 1))[i]? = some (.int .i64 ((x >>> (K - i) : Nat) : Int))) := Lib.hid (fun i hi => by rw [outl_get x (K + 1) i hi, Nat.add_sub_cancel])
      rw [← hy]
      clear hy
      subst hyv
      rcases Nat.eq_zero_or_pos K with hk0 | hk0
      · subst hk0
        have hu := hnil rfl
        subst hu
        have hap := fun ty => run_append_room_src (P := Try.prog) (w := wr.alloc (.cells #[.int .i64 (y : Int)] 3)) 36 36 ty 3 i0 Try.underlying36 hi wr.heap.size 0 1 1 (.slice none 0 0) 0 [] (Src.ofNil _ Try.underlying36 0) (by omega) (fun j hj => by simp at hj) (fun j hj => by simp at hj)
        simp only [World.setCells] at hap
        go_wp2_with fail
        go_ret
        have h1 := own_new wr 3 (.int .i64 (y : Int)) N hNw
        obtain ⟨g, c, hv, q1, q2, q3, q4⟩ := own_slice2 h1 (by omega)
        injection hv with e1 e2 e3
        injection e1 with e1
        injection e1 with e1
        subst e1
        have h2 := HGet.out 0 (by omega)
        rw [HSn.out] at h2
        have h3 := q4 0 _ h2
        exact ⟨⟨_, _, rfl, q1, by omega, by simp [maxLen], by simpa using h3⟩, HBr.out.1.alloc hNw _⟩
      · obtain ⟨g, c, hu, q1, q2, q3, q4⟩ := own_slice2 HO.out hk0
        subst hu
        have hkI : (0 : Int) < (K : Int) := by omega
        have ho := own_new wr 3 (.int .i64 (y : Int)) N hNw
        have hlen : (outl x K).length = K * 1 := by simp [outl]
        have hnw : ∀ j u, (outl x K)[j]? = some u → (wr.alloc (.cells #[.int .i64 (y : Int)] 3)).cell? ((⟨g, 0, none⟩ : Addr).add j) = some u := fun j u hu => by
          rw [Addr.add_mid, Nat.zero_add]
          exact (((Below.refl wr.heap.size wr).alloc (Nat.le_refl _) _).cell (p := ⟨g, j, none⟩) (World.block_lt_of_cell? wr _ (q4 j u hu))).trans (q4 j u hu)
        have hone : ∀ u ∈ outl x K, u.oneCell' = true := by intro u hu; obtain ⟨i, _, rfl⟩ := List.mem_map.1 hu; rfl
        have h63 : 1 + K ≤ maxLen := by unfold maxLen; omega
        have hby : (1 + K) * 8 ≤ 140737488355328 := by omega
        have hbs : N ≤ (wr.alloc (.cells #[.int .i64 (y : Int)] 3)).heap.size := by simp; omega
        go_wp2_with (first
          | (at_builtin; refine wpList_append_own _ rfl _ _ 36 rfl N 3 i0 _ 1 8 Try.underlying36 hi hz0 hz1 hz2 rfl (by omega) _ _ _ rfl ho ⟨g, 0, none⟩ K c (outl x K) rfl hlen hnw hone h63 (by omega) hbs ?_; intro v1 w6 hown6 hg6 _))
        obtain ⟨g6, c6, hv6, r1, r2, r3, r4⟩ := own_slice2 hown6 (by omega)
        subst hv6
        have HFin : Hid (N ≤ g6 ∧ 1 + K ≤ c6 ∧ c6 ≤ maxLen ∧ (∀ i, i < K + 1 → w6.cell? ⟨g6, i, none⟩ = some (.int .i64 ((x >>> (K - i) : Nat) : Int))) ∧ Below N w w6) := Lib.hid ⟨r1, r2, r3, fun i hi => r4 i _ (by have h2 := HGet.out i hi; rw [HSn.out] at h2; exact h2), (HBr.out.1.alloc hNw _).grown hg6 (by simp; omega) (fun b hb => own_block ho hb.symm)⟩
        clear r1 r2 r3 r4 hown6 hg6 ho hnw hone hlen h63 hby hbs q1 q2 q3 q4
        go_wp2_with fail
        go_ret
        exact ⟨⟨g6, c6, by rw [Nat.add_comm]; rfl, HFin.out.1, by have := HFin.out.2.1; omega, HFin.out.2.2.1, HFin.out.2.2.2.1⟩, HFin.out.2.2.2.2⟩
end Go.Proofs.Ytelalpikdidpeaa
