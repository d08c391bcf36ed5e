/- The walk over NumberExamples. -/
import Derived.Test.YthplhlcdlnedfaaAlvR
namespace Go.Proofs.Ythplhlcdlnedfaa.numberExamples
open Go.RowKit MN

theorem n_v (N : Nat) (z : Int) (w : World) (hz : z = (N : Int)) (h1 : N ≤ 18446744073709551615) : Calls Try.prog 20 #[.int .u64 z] w fun e w' => ∃ v, e = .returned v ∧ Nm w' v N ∧ Below w.heap.size w w' :=
  (n_val N z w hz h1).mono fun _ _ ⟨v, h, o, hb⟩ => ⟨v, h, o.nm (Nat.lt_of_le_of_lt h1 (by decide)), hb⟩

theorem nil_nm (w : World) : Nm w (.slice none 0 0) 0 := ⟨⟨none, 0, 0, rfl, Rd.nil _ _, low_nil _⟩, by decide⟩

set_option maxRecDepth 100000 in
set_option maxHeartbeats 1000000 in
theorem full_v (w : World) : Calls Try.prog 22 #[] w fun e w' => ∃ v, e = .returned v ∧ Nm w' v (4294967296 ^ 16 - 1) ∧ Below w.heap.size w w' := by
  obtain ⟨i0, hi, hz0, hz1, hz2⟩ := info_parts info24
  go_enter Try.func22, Try.ntmps22
  go_wp2_with (first
      | (at_make; refine wpList_make_full _ rfl _ _ 23 rfl w.heap.size 24 i0 _ 1 Try.underlying23 hi hz0 hz1 .i64 .i64 _ _ 16 rfl rfl rfl rfl (by rw [hz2]; omega) (by unfold maxLen; omega) (Nat.le_refl _) ?_; intro w1 hown1 hg1))
  have HC1 := Cols.made hown1 hg1 (Below.refl _ _) (Nat.le_refl _)
  clear hown1 hg1
  go_loopw [2] (fun i wr => ∃ (k : Nat) (xs : List Nat), k ≤ 16 ∧ i = .int .i64 k ∧ Cols .u32 24 w.heap.size w wr w.heap.size 16 xs ∧ Hid (∀ j, j < k → dg xs j = 4294967295) ∧ Low 4294967296 xs) (fun i _ => 16 - (intOf i).toNat)
  case atStart => exact ⟨0, _, Nat.zero_le _, rfl, HC1, Lib.hid (fun j hj => by omega), fun d hd => by rw [List.eq_of_mem_replicate hd]; omega⟩
  case round =>
    obtain ⟨k, xs, hk, rfl, HC, HX, hl⟩ := hrel
    by_cases hlt : k < 16
    · have g0 := HC.cell k hlt
      have r0 := HC.frozen k
      have HS := HC.set k 4294967295 4294967295 rfl
      have HX' : Hid (∀ j, j < k + 1 → dg (xs.set k 4294967295) j = 4294967295) := Lib.hid (fun j hj => by
        rw [dg_set _ _ _ _ (by rw [HC.len]; omega)]
        by_cases e : j = k
        · rw [if_pos e]
        · rw [if_neg e]; exact HX.out j (by omega))
      have hl' := low_set hl k 4294967295 (by omega)
      clear HX HC hl
      go_wp2
      go_roundw
      case rel => exact ⟨k + 1, _, by omega, by go_num, HS, HX', hl'⟩
      case measure => simp [intOf]; omega
    · obtain rfl : k = 16 := by omega
      have hx : xs = List.replicate 16 4294967295 := ext_dg _ _ (by rw [HC.len]; rfl) (fun j hj => by
        rw [HX.out j (by simpa using hj), dg_get _ j hj, List.getElem_replicate])
      have hv : digs 4294967296 (4294967296 ^ 16 - 1) = xs := ex_digs _ xs hl (by rw [hx]; unfold Top; decide) (by rw [hx]; decide)
      have HF : Hid (Nm wr (.slice (some ⟨w.heap.size, 0, none⟩) 16 16) (4294967296 ^ 16 - 1)) := Lib.hid ⟨⟨_, _, _, rfl, by rw [hv]; exact ⟨HC.rd, hl⟩⟩, by decide⟩
      have hbl := HC.below
      clear HX HC hl hx hv
      go_wp2
      go_ret
      exact ⟨_, rfl, HF.out, hbl⟩

theorem is_v {w : World} {v : Value} {N : Nat} (h : Nm w v N) (code : Int) (ds : List Nat) (ar : Array Value) (har : ar = (vs32 ds).toArray) (k : Nat) (hk : ds.length = k) (hk2 : k ≤ 16) :
    Calls Try.prog 25 #[v, .int .i64 code, .slice (some ⟨w.heap.size, 0, none⟩) k k] (w.alloc (.cells ar 24)) fun e w' => e = .returned (.bool (isB code (digs 4294967296 N) ds)) ∧ Below w.heap.size w w' := by
  subst har
  obtain ⟨⟨A, n, c, rfl, a⟩, hN⟩ := h
  have hb := below_alloc w (.cells (vs32 ds).toArray 24)
  have hr : Rd .u32 (w.alloc (.cells (vs32 ds).toArray 24)) (some ⟨w.heap.size, 0, none⟩) k k ds := ⟨hk, Nat.le_refl _, by simp [maxLen]; omega, fun _ => ⟨w.heap.size, 0, rfl, fun i hi => by
    rw [World.cell?_alloc_at (hn := by simp), dg_get ds i (by omega)]
    simp [vs32, List.getElem?_eq_getElem (show i < ds.length by omega)]⟩⟩
  refine (is_any A _ n c k k code _ ds _ (a.rd.keep hb) hr).mono fun e w' => ?_
  rintro ⟨rfl, hd⟩
  exact ⟨rfl, hb.trans (hd.below.mono (by simp))⟩
theorem is_yes {w : World} {v : Value} {N : Nat} (h : Nm w v N) (ds : List Nat) (ar : Array Value) (har : ar = (vs32 ds).toArray) (k : Nat) (hk : ds.length = k) (hk2 : k ≤ 16) (he : digs 4294967296 N = ds) :
    Calls Try.prog 25 #[v, .int .i64 0, .slice (some ⟨w.heap.size, 0, none⟩) k k] (w.alloc (.cells ar 24)) fun e w' => e = .returned (.bool true) ∧ Below w.heap.size w w' := by
  have H := is_v h 0 ds ar har k hk hk2
  rw [show isB 0 (digs 4294967296 N) ds = true by rw [he]; show (true && sB ds ds) = true; rw [sB_yes rfl]; rfl] at H
  exact H
theorem check_v {w : World} {v : Value} {N : Nat} (h : Nm w v N) : Calls Try.prog 26 #[v] w fun e w' => e = .returned (.int .i64 0) ∧ Below w.heap.size w w' := by
  obtain ⟨⟨A, n, c, rfl, a⟩, hN⟩ := h
  have H := check_any A n c _ w a
  rw [ck_yes (sm_vd hN)] at H
  exact H
theorem chk17 {w : World} {A : Option Addr} (h : Arg w A 17 17 ((List.replicate 17 0).set 16 1)) : Calls Try.prog 26 #[.slice A 17 17] w fun e w' => e = .returned (.int .i64 8) ∧ Below w.heap.size w w' := by
  have H := check_any A 17 17 _ w h
  rw [ck_no (fun k => by have := k.1; revert this; decide)] at H
  exact H
theorem chk10 (w : World) : Calls Try.prog 26 #[.slice (some ⟨w.heap.size, 0, none⟩) 2 2] (w.alloc (.cells #[.int .u32 1, .int .u32 0] 24)) fun e w' => e = .returned (.int .i64 8) ∧ Below w.heap.size w w' := by
  have hb := below_alloc w (.cells #[.int .u32 1, .int .u32 0] 24)
  have hr : Rd .u32 (w.alloc (.cells #[.int .u32 1, .int .u32 0] 24)) (some ⟨w.heap.size, 0, none⟩) 2 2 [1, 0] := ⟨rfl, Nat.le_refl _, by simp [maxLen], fun _ => ⟨w.heap.size, 0, rfl, fun i hi => by
    rw [World.cell?_alloc_at (hn := by simp)]
    rcases i with _ | _ | i
    · rfl
    · rfl
    · omega⟩⟩
  have H := check_any (some ⟨w.heap.size, 0, none⟩) 2 2 [1, 0] _ ⟨hr, by unfold Low; decide⟩
  rw [ck_no (fun k => by
    rcases k.2 with e | e
    · cases e
    · exact e rfl)] at H
  exact H.mono fun _ _ ⟨h1, h2⟩ => ⟨h1, hb.trans (h2.mono hb.size)⟩
theorem of0 (w : World) : Calls Try.prog 27 #[.int .u64 0] w fun e w' => ∃ A c, e = .returned (.slice A 0 c) ∧ Below w.heap.size w w' := by
  refine (of_val 0 0 w rfl (by decide)).mono fun e w' => ?_
  rintro ⟨v, rfl, ⟨A, m, c, rfl, ho⟩, hb⟩
  obtain rfl : m = 0 := by have := (own_num ho).2; rw [← this]; rfl
  exact ⟨A, c, rfl, hb⟩
theorem bad_parse (s : ByteArray) (w : World) (hs : s.size ≤ maxLen) (h : ¬ IsDec (bs s)) : Calls Try.prog 30 #[.string s] w fun e w' => ∃ v, e = .returned (.tuple #[v, .int .i64 12]) ∧ Below w.heap.size w w' := by
  have H := parse_any s w hs
  have hn : ¬ decB s = true := by rw [decB_no h]; simp
  rw [show parC s = 12 from if_neg hn, show parN s = 0 from if_neg hn] at H
  exact H.mono fun _ _ ⟨A, m, c, h, _, hb⟩ => ⟨_, h, hb⟩
theorem ratio_z {w : World} {v : Value} {X : Nat} (h : Nm w v X) : Calls Try.prog 31 #[v, .slice none 0 0] w fun e w' => ∃ u1 u2, e = .returned (.tuple #[.agg #[u1, u2], .int .i64 10]) ∧ Below w.heap.size w w' := by
  obtain ⟨⟨A1, n1, c1, rfl, a1⟩, hX⟩ := h
  have H := ratio_any A1 n1 c1 _ none 0 0 [] w a1 ⟨Rd.nil _ _, low_nil _⟩
  have hv : Vd [] := ⟨by simp, .inl rfl⟩
  rw [okC_yes (sm_vd hX) hv, show nv [] = 0 from rfl, show ratC (nv (digs 4294967296 X)) 0 = 10 from if_pos rfl] at H
  refine H.mono fun e w' => ?_
  rintro ⟨u1, u2, rfl, P⟩
  exact ⟨u1, u2, rfl, P.below⟩
theorem frac_v (X Y : Nat) (z1 z2 : Int) (w : World) (h1 : z1 = (X : Int)) (h2 : z2 = (Y : Int)) (hX : X ≤ 18446744073709551615) (hY : Y ≤ 18446744073709551615) :
    Calls Try.prog 33 #[.int .u64 z1, .int .u64 z2] w fun e w' => ∃ u1 u2, e = .returned (.agg #[u1, u2]) ∧ Nm w' u1 X ∧ Nm w' u2 Y ∧ Below w.heap.size w w' := by
  refine (fraction_val X Y z1 z2 w h1 h2 hX hY).mono fun e w' => ?_
  rintro ⟨u1, u2, rfl, o1, o2, hb⟩
  exact ⟨u1, u2, rfl, o1.nm (Nat.lt_of_le_of_lt hX (by decide)), o2.nm (Nat.lt_of_le_of_lt hY (by decide)), hb⟩

theorem x_pow : pmv 2 0 1 = 0 := by rw [pmv, if_pos (by omega)]; decide
theorem x_powc : pmc 1 = 0 := by rw [pmc, if_pos (by omega)]
theorem x_powc0 : pmc 0 = 2 := by rw [pmc, if_neg (by omega)]
theorem x_invc : ivc 2 4 = 10 := by rw [ivc, if_pos (by omega), if_neg (by decide)]
theorem x_inv1 : ivv 0 1 = 0 := ivv_of 0 1 0 (by omega) (by omega) (by unfold MA.IsInv; decide)
theorem x_invc1 : ivc 0 1 = 0 := by rw [ivc, if_pos (by omega), if_pos (by decide)]
theorem x_prb1 : prb 1 = false := by rw [prb, if_neg (by omega)]; exact prv_no 1 (fun h => by have := h.1; omega)
theorem x_prc1 : prc 1 = 0 := by rw [prc, if_neg (by omega)]
theorem key_pr : ∀ d, d < 1024 → 2 ≤ d → 1048573 % d ≠ 0 := by decide +kernel
theorem x_prb2 : prb 1048573 = true := by
  rw [prb, if_neg (by omega)]
  refine prv_yes 1048573 ⟨by omega, fun d h2 hd => key_pr d ?_ h2⟩
  rcases Nat.lt_or_ge d 1024 with h | h
  · exact h
  · have := Nat.mul_le_mul h h
    omega
theorem x_prc2 : prc 1048573 = 0 := by rw [prc, if_neg (by omega)]
theorem x_prc3 : prc 1048576 = 4 := by rw [prc, if_pos (by omega)]
theorem x_grp1 : grc 23 11 1 = 13 := grc_no 23 11 1 (fun h => by have := h.2.2.2.2.2.1; omega)
theorem x_grp2 : grc 23 22 5 = 13 := grc_no 23 22 5 (fun h => h.2.2.2.1.2 2 (by omega) (by omega) (by decide))

set_option maxRecDepth 100000 in
set_option maxHeartbeats 4000000 in
theorem walk (w0 : World) : Calls Try.prog 3 #[] w0 fun e w' => e = .returned (.bool true) ∧ Below w0.heap.size w0 w' := by
  obtain ⟨i0, hi, hz0, hz1, hz2⟩ := info_parts info24
  go_enter Try.func3, Try.ntmps3
  go_upto_region 2 with (at_make; refine wpList_make_full _ rfl _ _ 23 rfl w0.heap.size 24 i0 _ 1 Try.underlying23 hi hz0 hz1 .i64 .i64 _ _ 17 rfl rfl rfl rfl (by rw [hz2]; omega) (by unfold maxLen; omega) (Nat.le_refl _) ?_; intro wa hown1 hg1)
  have HC1 := Cols.made (w := w0) hown1 hg1 (Below.refl _ _) (Nat.le_refl _)
  have g0 := HC1.cell 16 (by omega)
  have r0 := HC1.frozen 16
  have HS := HC1.set 16 1 1 rfl
  clear hown1 hg1 HC1
  have hsb := HS.big
  have hlt1 := HS.lt
  go_upto_region 4 with (at_make; refine wpList_make_full _ rfl _ _ 23 rfl w0.heap.size 24 i0 _ 1 Try.underlying23 hi hz0 hz1 .i64 .i64 _ _ 9 rfl rfl rfl rfl (by rw [hz2]; omega) (by unfold maxLen; omega) (by simpa using hsb) ?_; intro wb hown2 hg2)
  have hsz : (wa.setCell ⟨w0.heap.size, 16, none⟩ (.int .u32 1)).heap.size = wa.heap.size := by simp [World.setCell]
  have hbs : Below (wa.setCell ⟨w0.heap.size, 16, none⟩ (.int .u32 1)).heap.size (wa.setCell ⟨w0.heap.size, 16, none⟩ (.int .u32 1)) wb := (Below.refl _ _).grown hg2 (Nat.le_refl _) (by simp)
  have HS2 := HS.keep hbs HS.lt HS.big
  have HC2 := Cols.made (w := w0) hown2 hg2 HS.below HS.big
  rw [hsz] at hbs
  have hne : w0.heap.size ≠ wa.heap.size := by rw [hsz] at hlt1; omega
  have hle : w0.heap.size ≤ wa.heap.size := by rw [hsz] at hsb; exact hsb
  have HC2' : Cols .u32 24 w0.heap.size w0 wb wa.heap.size 9 (List.replicate 9 0) := by simpa [World.setCell] using HC2
  have g0 := HC2'.cell 8 (by omega)
  have r0 := HC2'.frozen 8
  have HT := HC2'.set 8 1 1 rfl
  have HS3 := HS2.far (g' := wa.heap.size) (j := 8) (u := .int .u32 1) hne hle
  have hb := HT.below
  clear hown2 hg2 HC2 HC2' HS HS2 hbs hsz hsb hlt1 hne hle hz0 hz1 hz2 hi
  go_wp2_with fail
  obtain ⟨w1, hw1⟩ : ∃ w1, w1 = wb.setCell ⟨wa.heap.size, 8, none⟩ (.int .u32 1) := ⟨_, rfl⟩
  rw [← hw1] at hb HT HS3 ⊢
  obtain ⟨G, hG⟩ : ∃ G, G = wa.heap.size := ⟨_, rfl⟩
  rw [← hG] at HT ⊢
  clear hw1 hG
  have a17 : Arg w1 (some ⟨w0.heap.size, 0, none⟩) 17 17 ((List.replicate 17 0).set 16 1) := ⟨HS3.rd, by unfold Low; decide⟩
  have fh : Nm w1 (.slice (some ⟨G, 0, none⟩) 9 9) (4294967296 ^ 8) := ⟨⟨_, _, _, rfl, by rw [ex_digs (4294967296 ^ 8) ((List.replicate 9 0).set 8 1) (by unfold Low; decide) (by unfold Top; decide) (by decide)]; exact ⟨HT.rd, by unfold Low; decide⟩⟩, by decide⟩
  clear HT HS3
  refine (n_v 4294967296 4294967296 w1 rfl (by decide)).mono ?_
  rintro e w2 ⟨vp, rfl, fp, hc⟩
  replace a17 := a17.keep hc
  replace fh := fh.keep hc
  replace hb := hb.trans (hc.mono hb.size)
  clear hc
  go_wp2_with fail
  refine (n_v 1 1 w2 rfl (by decide)).mono ?_
  rintro e w3 ⟨vq, rfl, fq, hc⟩
  replace a17 := a17.keep hc
  replace fh := fh.keep hc
  replace fp := fp.keep hc
  replace hb := hb.trans (hc.mono hb.size)
  clear hc
  go_wp2_with fail
  refine (sub_v fp fq).mono ?_
  rw [show subC 4294967296 1 = 0 from rfl]
  rintro e w4 ⟨va, rfl, fa, hc⟩
  clear fp
  clear fq
  replace a17 := a17.keep hc
  replace fh := fh.keep hc
  replace hb := hb.trans (hc.mono hb.size)
  clear hc
  go_wp2_with fail
  refine (n_v 1 1 w4 rfl (by decide)).mono ?_
  rintro e w5 ⟨vp, rfl, fp, hc⟩
  replace a17 := a17.keep hc
  replace fh := fh.keep hc
  replace fa := fa.keep hc
  replace hb := hb.trans (hc.mono hb.size)
  clear hc
  go_wp2_with fail
  refine (n_v 2 2 w5 rfl (by decide)).mono ?_
  rintro e w6 ⟨vq, rfl, fq, hc⟩
  replace a17 := a17.keep hc
  replace fh := fh.keep hc
  replace fa := fa.keep hc
  replace fp := fp.keep hc
  replace hb := hb.trans (hc.mono hb.size)
  clear hc
  go_wp2_with fail
  refine (sub_v fp fq).mono ?_
  rw [show subC 1 2 = 11 from rfl]
  rintro e w7 ⟨vx, rfl, -, hc⟩
  clear fp
  clear fq
  replace a17 := a17.keep hc
  replace fh := fh.keep hc
  replace fa := fa.keep hc
  replace hb := hb.trans (hc.mono hb.size)
  clear hc
  go_wp2_with fail
  refine (full_v w7).mono ?_
  rintro e w8 ⟨vp, rfl, fp, hc⟩
  replace a17 := a17.keep hc
  replace fh := fh.keep hc
  replace fa := fa.keep hc
  replace hb := hb.trans (hc.mono hb.size)
  clear hc
  go_wp2_with fail
  refine (n_v 1 1 w8 rfl (by decide)).mono ?_
  rintro e w9 ⟨vq, rfl, fq, hc⟩
  replace a17 := a17.keep hc
  replace fh := fh.keep hc
  replace fa := fa.keep hc
  replace fp := fp.keep hc
  replace hb := hb.trans (hc.mono hb.size)
  clear hc
  go_wp2_with fail
  refine (add_v fp fq).mono ?_
  rw [(fit_no (N := 4294967296 ^ 16 - 1 + 1) (by decide)).1]
  rintro e w10 ⟨vx, rfl, -, hc⟩
  clear fp
  clear fq
  replace a17 := a17.keep hc
  replace fh := fh.keep hc
  replace fa := fa.keep hc
  replace hb := hb.trans (hc.mono hb.size)
  clear hc
  go_wp2_with fail
  refine (mul_v fh fh).mono ?_
  rw [(fit_no (N := 4294967296 ^ 8 * 4294967296 ^ 8) (by decide)).1]
  rintro e w11 ⟨vx, rfl, -, hc⟩
  clear fh
  replace a17 := a17.keep hc
  replace fa := fa.keep hc
  replace hb := hb.trans (hc.mono hb.size)
  clear hc
  go_wp2_with fail
  refine (alive_any w11).mono ?_
  rintro e w12 ⟨rfl, hc⟩
  replace a17 := a17.keep hc
  replace fa := fa.keep hc
  replace hb := hb.trans (hc.mono hb.size)
  clear hc
  go_wp2_with fail
  refine (is_yes fa [4294967295] _ rfl 1 rfl (by decide) (ex_digs _ _ (by unfold Low; decide) (by unfold Top; decide) (by decide))).mono ?_
  rintro e w13 ⟨rfl, hc⟩
  clear fa
  replace a17 := a17.keep hc
  replace hb := hb.trans (hc.mono hb.size)
  clear hc
  go_wp2_with fail
  refine (chk10 w13).mono ?_
  rintro e w14 ⟨rfl, hc⟩
  replace a17 := a17.keep hc
  replace hb := hb.trans (hc.mono hb.size)
  clear hc
  go_wp2_with fail
  refine (chk17 a17).mono ?_
  rintro e w15 ⟨rfl, hc⟩
  clear a17
  replace hb := hb.trans (hc.mono hb.size)
  clear hc
  go_wp2_with fail
  refine (full_v w15).mono ?_
  rintro e w16 ⟨vp, rfl, fp, hc⟩
  replace hb := hb.trans (hc.mono hb.size)
  clear hc
  go_wp2_with fail
  refine (check_v fp).mono ?_
  rintro e w17 ⟨rfl, hc⟩
  clear fp
  replace hb := hb.trans (hc.mono hb.size)
  clear hc
  go_wp2_with fail
  refine (of0 w17).mono ?_
  rintro e w18 ⟨A0, c0, rfl, hc⟩
  replace hb := hb.trans (hc.mono hb.size)
  clear hc
  go_wp2_with fail
  refine (n_v 7 7 w18 rfl (by decide)).mono ?_
  rintro e w19 ⟨vp, rfl, fp, hc⟩
  replace hb := hb.trans (hc.mono hb.size)
  clear hc
  go_wp2_with fail
  refine (div_z fp (nil_nm _) rfl).mono ?_
  rintro e w20 ⟨vx, vy, rfl, -, -, hc⟩
  clear fp
  replace hb := hb.trans (hc.mono hb.size)
  clear hc
  go_wp2_with fail
  refine (n_v 5 5 w20 rfl (by decide)).mono ?_
  rintro e w21 ⟨vp, rfl, fp, hc⟩
  replace hb := hb.trans (hc.mono hb.size)
  clear hc
  go_wp2_with fail
  refine (gcd_v (nil_nm _) fp).mono ?_
  rw [show Nat.gcd 0 5 = 5 from by decide]
  rintro e w22 ⟨vb, rfl, fb, hc⟩
  clear fp
  replace hb := hb.trans (hc.mono hb.size)
  clear hc
  go_wp2_with fail
  refine (bad_parse _ w22 (by show 0 ≤ maxLen; simp [maxLen]) (fun h => by revert h; show ¬ IsDec []; unfold IsDec; decide)).mono ?_
  rintro e w23 ⟨vx, rfl, hc⟩
  replace fb := fb.keep hc
  replace hb := hb.trans (hc.mono hb.size)
  clear hc
  go_wp2_with fail
  refine (bad_parse _ w23 (by show 2 ≤ maxLen; simp [maxLen]) (fun h => by revert h; show ¬ IsDec [48, 49]; unfold IsDec; decide)).mono ?_
  rintro e w24 ⟨vx, rfl, hc⟩
  replace fb := fb.keep hc
  replace hb := hb.trans (hc.mono hb.size)
  clear hc
  go_wp2_with fail
  refine (bad_parse _ w24 (by show 2 ≤ maxLen; simp [maxLen]) (fun h => by revert h; show ¬ IsDec [45, 49]; unfold IsDec; decide)).mono ?_
  rintro e w25 ⟨vx, rfl, hc⟩
  replace fb := fb.keep hc
  replace hb := hb.trans (hc.mono hb.size)
  clear hc
  go_wp2_with fail
  refine (is_yes fb [5] _ rfl 1 rfl (by decide) (ex_digs _ _ (by unfold Low; decide) (by unfold Top; decide) (by decide))).mono ?_
  rintro e w26 ⟨rfl, hc⟩
  clear fb
  replace hb := hb.trans (hc.mono hb.size)
  clear hc
  go_wp2_with fail
  refine (n_v 9 9 w26 rfl (by decide)).mono ?_
  rintro e w27 ⟨vp, rfl, fp, hc⟩
  replace hb := hb.trans (hc.mono hb.size)
  clear hc
  go_wp2_with fail
  refine (ratio_v (nil_nm _) fp (by decide)).mono ?_
  rw [show 0 / Nat.gcd 0 9 = 0 from by decide, show 9 / Nat.gcd 0 9 = 1 from by decide]
  rintro e w28 ⟨Ax, nx, cx, Bx, mx, dx, rfl, Nx, Dx, hc⟩
  replace fp := fp.keep hc
  replace hb := hb.trans (hc.mono hb.size)
  clear hc
  have Vx := varAt_new w28 (.slice Ax nx cx) (.slice Bx mx dx)
  have hc := below_alloc w28 (.cells #[.slice Ax nx cx, .slice Bx mx dx] 38)
  obtain ⟨Rx, hR⟩ : ∃ R, R = w28.heap.size := ⟨_, rfl⟩
  rw [← hR] at Vx
  go_wp2_with fail
  rw [← hR]
  generalize w28.alloc (.cells #[.slice Ax nx cx, .slice Bx mx dx] 38) = w29 at hc Vx ⊢
  replace fp := fp.keep hc
  replace Nx := Nx.keep hc
  replace Dx := Dx.keep hc
  replace hb := hb.trans (hc.mono hb.size)
  clear hc hR
  clear fp
  refine (n_v 1 1 w29 rfl (by decide)).mono ?_
  rintro e w30 ⟨vp, rfl, fp, hc⟩
  replace Nx := Nx.keep hc
  replace Dx := Dx.keep hc
  replace Vx := Vx.keep hc
  replace hb := hb.trans (hc.mono hb.size)
  clear hc
  go_wp2_with fail
  refine (ratio_z fp).mono ?_
  rintro e w31 ⟨vx, vy, rfl, hc⟩
  clear fp
  replace Nx := Nx.keep hc
  replace Dx := Dx.keep hc
  replace Vx := Vx.keep hc
  replace hb := hb.trans (hc.mono hb.size)
  clear hc
  go_wp2_with fail
  refine (frac_v 1 2 1 2 w31 rfl rfl (by decide) (by decide)).mono ?_
  rintro e w32 ⟨ua, va, rfl, Ua, Wa, hc⟩
  replace Nx := Nx.keep hc
  replace Dx := Dx.keep hc
  replace Vx := Vx.keep hc
  replace hb := hb.trans (hc.mono hb.size)
  clear hc
  go_wp2_with fail
  refine (frac_v 1 3 1 3 w32 rfl rfl (by decide) (by decide)).mono ?_
  rintro e w33 ⟨ub, vb, rfl, Ub, Wb, hc⟩
  replace Nx := Nx.keep hc
  replace Dx := Dx.keep hc
  replace Vx := Vx.keep hc
  replace Ua := Ua.keep hc
  replace Wa := Wa.keep hc
  replace hb := hb.trans (hc.mono hb.size)
  clear hc
  go_wp2_with fail
  refine (addFr_w (N1 := 1) (D1 := 2) (N2 := 1) (D2 := 3) ⟨Ua, Wa, by decide, by decide⟩ ⟨Ub, Wb, by decide, by decide⟩ (by decide) (by decide)).mono ?_
  rw [show (1 * 3 + 1 * 2) / Nat.gcd (1 * 3 + 1 * 2) (2 * 3) = 5 from by decide, show 2 * 3 / Nat.gcd (1 * 3 + 1 * 2) (2 * 3) = 6 from by decide]
  rintro e w34 ⟨Ay, ny, cy, By, my, dy, rfl, Ny, Dy, hc⟩
  replace Nx := Nx.keep hc
  replace Dx := Dx.keep hc
  replace Vx := Vx.keep hc
  replace Ua := Ua.keep hc
  replace Wa := Wa.keep hc
  replace Ub := Ub.keep hc
  replace Wb := Wb.keep hc
  replace hb := hb.trans (hc.mono hb.size)
  clear hc
  have Vy := varAt_new w34 (.slice Ay ny cy) (.slice By my dy)
  have hc := below_alloc w34 (.cells #[.slice Ay ny cy, .slice By my dy] 38)
  obtain ⟨Ry, hR⟩ : ∃ R, R = w34.heap.size := ⟨_, rfl⟩
  rw [← hR] at Vy
  go_wp2_with fail
  rw [← hR]
  generalize w34.alloc (.cells #[.slice Ay ny cy, .slice By my dy] 38) = w35 at hc Vy ⊢
  replace Nx := Nx.keep hc
  replace Dx := Dx.keep hc
  replace Vx := Vx.keep hc
  replace Ua := Ua.keep hc
  replace Wa := Wa.keep hc
  replace Ub := Ub.keep hc
  replace Wb := Wb.keep hc
  replace Ny := Ny.keep hc
  replace Dy := Dy.keep hc
  replace hb := hb.trans (hc.mono hb.size)
  clear hc hR
  clear Ua
  clear Wa
  clear Ub
  clear Wb
  refine (frac_v 2 3 2 3 w35 rfl rfl (by decide) (by decide)).mono ?_
  rintro e w36 ⟨ua, va, rfl, Ua, Wa, hc⟩
  replace Nx := Nx.keep hc
  replace Dx := Dx.keep hc
  replace Vx := Vx.keep hc
  replace Ny := Ny.keep hc
  replace Dy := Dy.keep hc
  replace Vy := Vy.keep hc
  replace hb := hb.trans (hc.mono hb.size)
  clear hc
  go_wp2_with fail
  refine (frac_v 3 4 3 4 w36 rfl rfl (by decide) (by decide)).mono ?_
  rintro e w37 ⟨ub, vb, rfl, Ub, Wb, hc⟩
  replace Nx := Nx.keep hc
  replace Dx := Dx.keep hc
  replace Vx := Vx.keep hc
  replace Ny := Ny.keep hc
  replace Dy := Dy.keep hc
  replace Vy := Vy.keep hc
  replace Ua := Ua.keep hc
  replace Wa := Wa.keep hc
  replace hb := hb.trans (hc.mono hb.size)
  clear hc
  go_wp2_with fail
  refine (mulFr_w (N1 := 2) (D1 := 3) (N2 := 3) (D2 := 4) ⟨Ua, Wa, by decide, by decide⟩ ⟨Ub, Wb, by decide, by decide⟩ (by decide) (by decide)).mono ?_
  rw [show 2 * 3 / Nat.gcd (2 * 3) (3 * 4) = 1 from by decide, show 3 * 4 / Nat.gcd (2 * 3) (3 * 4) = 2 from by decide]
  rintro e w38 ⟨Az, nz, cz, Bz, mz, dz, rfl, Nz, Dz, hc⟩
  replace Nx := Nx.keep hc
  replace Dx := Dx.keep hc
  replace Vx := Vx.keep hc
  replace Ny := Ny.keep hc
  replace Dy := Dy.keep hc
  replace Vy := Vy.keep hc
  replace Ua := Ua.keep hc
  replace Wa := Wa.keep hc
  replace Ub := Ub.keep hc
  replace Wb := Wb.keep hc
  replace hb := hb.trans (hc.mono hb.size)
  clear hc
  have Vz := varAt_new w38 (.slice Az nz cz) (.slice Bz mz dz)
  have hc := below_alloc w38 (.cells #[.slice Az nz cz, .slice Bz mz dz] 38)
  obtain ⟨Rz, hR⟩ : ∃ R, R = w38.heap.size := ⟨_, rfl⟩
  rw [← hR] at Vz
  go_wp2_with fail
  rw [← hR]
  generalize w38.alloc (.cells #[.slice Az nz cz, .slice Bz mz dz] 38) = w39 at hc Vz ⊢
  replace Nx := Nx.keep hc
  replace Dx := Dx.keep hc
  replace Vx := Vx.keep hc
  replace Ny := Ny.keep hc
  replace Dy := Dy.keep hc
  replace Vy := Vy.keep hc
  replace Ua := Ua.keep hc
  replace Wa := Wa.keep hc
  replace Ub := Ub.keep hc
  replace Wb := Wb.keep hc
  replace Nz := Nz.keep hc
  replace Dz := Dz.keep hc
  replace hb := hb.trans (hc.mono hb.size)
  clear hc hR
  clear Ua
  clear Wa
  clear Ub
  clear Wb
  refine (frac_v 1 3 1 3 w39 rfl rfl (by decide) (by decide)).mono ?_
  rintro e w40 ⟨ua, va, rfl, Ua, Wa, hc⟩
  replace Nx := Nx.keep hc
  replace Dx := Dx.keep hc
  replace Vx := Vx.keep hc
  replace Ny := Ny.keep hc
  replace Dy := Dy.keep hc
  replace Vy := Vy.keep hc
  replace Nz := Nz.keep hc
  replace Dz := Dz.keep hc
  replace Vz := Vz.keep hc
  replace hb := hb.trans (hc.mono hb.size)
  clear hc
  go_wp2_with fail
  refine (frac_v 2 5 2 5 w40 rfl rfl (by decide) (by decide)).mono ?_
  rintro e w41 ⟨ub, vb, rfl, Ub, Wb, hc⟩
  replace Nx := Nx.keep hc
  replace Dx := Dx.keep hc
  replace Vx := Vx.keep hc
  replace Ny := Ny.keep hc
  replace Dy := Dy.keep hc
  replace Vy := Vy.keep hc
  replace Nz := Nz.keep hc
  replace Dz := Dz.keep hc
  replace Vz := Vz.keep hc
  replace Ua := Ua.keep hc
  replace Wa := Wa.keep hc
  replace hb := hb.trans (hc.mono hb.size)
  clear hc
  go_wp2_with fail
  refine (cmpFr_v _ _ _ _ _ 1 3 2 5 ⟨Ua, Wa, by decide, by decide⟩ ⟨Ub, Wb, by decide, by decide⟩).mono ?_
  rw [show ordv (1 * 5) (2 * 3) = -1 from by decide]
  rintro e w42 ⟨rfl, hc⟩
  replace Nx := Nx.keep hc
  replace Dx := Dx.keep hc
  replace Vx := Vx.keep hc
  replace Ny := Ny.keep hc
  replace Dy := Dy.keep hc
  replace Vy := Vy.keep hc
  replace Nz := Nz.keep hc
  replace Dz := Dz.keep hc
  replace Vz := Vz.keep hc
  replace Ua := Ua.keep hc
  replace Wa := Wa.keep hc
  replace Ub := Ub.keep hc
  replace Wb := Wb.keep hc
  replace hb := hb.trans (hc.mono hb.size)
  clear hc
  clear Ua
  clear Wa
  clear Ub
  clear Wb
  have HK : Hid (∀ wx, Below w42.heap.size w42 wx → wx.cell? ⟨Rx, 0, none⟩ = some (.slice Ax nx cx) ∧ wx.cell? ⟨Rx, 1, none⟩ = some (.slice Bx mx dx) ∧ wx.cell? ⟨Ry, 0, none⟩ = some (.slice Ay ny cy) ∧ wx.cell? ⟨Ry, 1, none⟩ = some (.slice By my dy) ∧ wx.cell? ⟨Rz, 0, none⟩ = some (.slice Az nz cz) ∧ wx.cell? ⟨Rz, 1, none⟩ = some (.slice Bz mz dz) ∧ Below w42.heap.size w42 wx) := Lib.hid (fun wx hx => ⟨(Vx.keep hx).1.c0, (Vx.keep hx).1.c1, (Vy.keep hx).1.c0, (Vy.keep hx).1.c1, (Vz.keep hx).1.c0, (Vz.keep hx).1.c1, hx⟩)
  have HF0 : Hid (∀ wx, Below w42.heap.size w42 wx → Calls Try.prog 33 #[.int .u64 0, .int .u64 1] wx fun e w' => ∃ u1 u2, e = .returned (.agg #[u1, u2]) ∧ Nm w' u1 0 ∧ Nm w' u2 1 ∧ Below w42.heap.size w42 w') :=
    Lib.hid (fun wx hx => (frac_v 0 1 0 1 wx rfl rfl (by decide) (by decide)).mono fun e w' ⟨u1, u2, he, p1, p2, hb⟩ => ⟨u1, u2, he, p1, p2, hx.trans (hb.mono hx.size)⟩)
  have HS0 : Hid (∀ wx u1 u2, Below w42.heap.size w42 wx → Nm wx u1 0 → Nm wx u2 1 → Calls Try.prog 36 #[.agg #[.slice Ax nx cx, .slice Bx mx dx], .agg #[u1, u2]] wx fun e w' => e = .returned (.bool true) ∧ Below w42.heap.size w42 w') :=
    Lib.hid (fun wx u1 u2 hx p1 p2 => (sameFr_yes (Nx.keep hx) (Dx.keep hx) p1 p2 rfl rfl).mono fun e w' ⟨he, hb⟩ => ⟨he, hx.trans (hb.mono hx.size)⟩)
  have HF1 : Hid (∀ wx, Below w42.heap.size w42 wx → Calls Try.prog 33 #[.int .u64 5, .int .u64 6] wx fun e w' => ∃ u1 u2, e = .returned (.agg #[u1, u2]) ∧ Nm w' u1 5 ∧ Nm w' u2 6 ∧ Below w42.heap.size w42 w') :=
    Lib.hid (fun wx hx => (frac_v 5 6 5 6 wx rfl rfl (by decide) (by decide)).mono fun e w' ⟨u1, u2, he, p1, p2, hb⟩ => ⟨u1, u2, he, p1, p2, hx.trans (hb.mono hx.size)⟩)
  have HS1 : Hid (∀ wx u1 u2, Below w42.heap.size w42 wx → Nm wx u1 5 → Nm wx u2 6 → Calls Try.prog 36 #[.agg #[.slice Ay ny cy, .slice By my dy], .agg #[u1, u2]] wx fun e w' => e = .returned (.bool true) ∧ Below w42.heap.size w42 w') :=
    Lib.hid (fun wx u1 u2 hx p1 p2 => (sameFr_yes (Ny.keep hx) (Dy.keep hx) p1 p2 rfl rfl).mono fun e w' ⟨he, hb⟩ => ⟨he, hx.trans (hb.mono hx.size)⟩)
  have HF2 : Hid (∀ wx, Below w42.heap.size w42 wx → Calls Try.prog 33 #[.int .u64 1, .int .u64 2] wx fun e w' => ∃ u1 u2, e = .returned (.agg #[u1, u2]) ∧ Nm w' u1 1 ∧ Nm w' u2 2 ∧ Below w42.heap.size w42 w') :=
    Lib.hid (fun wx hx => (frac_v 1 2 1 2 wx rfl rfl (by decide) (by decide)).mono fun e w' ⟨u1, u2, he, p1, p2, hb⟩ => ⟨u1, u2, he, p1, p2, hx.trans (hb.mono hx.size)⟩)
  have HS2 : Hid (∀ wx u1 u2, Below w42.heap.size w42 wx → Nm wx u1 1 → Nm wx u2 2 → Calls Try.prog 36 #[.agg #[.slice Az nz cz, .slice Bz mz dz], .agg #[u1, u2]] wx fun e w' => e = .returned (.bool true) ∧ Below w42.heap.size w42 w') :=
    Lib.hid (fun wx u1 u2 hx p1 p2 => (sameFr_yes (Nz.keep hx) (Dz.keep hx) p1 p2 rfl rfl).mono fun e w' ⟨he, hb⟩ => ⟨he, hx.trans (hb.mono hx.size)⟩)
  have hx0 : Below w42.heap.size w42 w42.drew := (Below.refl _ _).drew
  clear Nx Dx Vx Ny Dy Vy Nz Dz Vz
  go_wp2_with fail
  go_cut [206] from 167 to 206 (fun s206 wx => s206 = .bool false ∧ Below w42.heap.size w42 wx)
  case first =>
    go_region_held3 (fun w' => w'.cell? ⟨Rx, 0, none⟩ = some (.slice Ax nx cx) ∧ w'.cell? ⟨Rx, 1, none⟩ = some (.slice Bx mx dx) ∧ w'.cell? ⟨Ry, 0, none⟩ = some (.slice Ay ny cy) ∧ w'.cell? ⟨Ry, 1, none⟩ = some (.slice By my dy) ∧ w'.cell? ⟨Rz, 0, none⟩ = some (.slice Az nz cz) ∧ w'.cell? ⟨Rz, 1, none⟩ = some (.slice Bz mz dz) ∧ Below w42.heap.size w42 w')
      (first
        | with_reducible exact HK.out _ hx0
        | with_reducible exact HK.out _ hxA
        | with_reducible exact HK.out _ hxB
        | with_reducible exact HK.out _ hxC
        | with_reducible exact HK.out _ hxD
        | with_reducible exact HK.out _ hxE
        | with_reducible exact HK.out _ hxF
      )
      (first
        | (go_at_call 33; (with_reducible refine (HF0.out _ hx0).mono ?_); rintro e wA ⟨uA, vA, rfl, pA, qA, hxA⟩)
        | (go_at_call 36; (with_reducible refine (HS0.out _ _ _ hxA pA qA).mono ?_); rintro e wB ⟨rfl, hxB⟩)
        | (go_at_call 33; (with_reducible refine (HF1.out _ hxB).mono ?_); rintro e wC ⟨uC, vC, rfl, pC, qC, hxC⟩)
        | (go_at_call 36; (with_reducible refine (HS1.out _ _ _ hxC pC qC).mono ?_); rintro e wD ⟨rfl, hxD⟩)
        | (go_at_call 33; (with_reducible refine (HF2.out _ hxD).mono ?_); rintro e wE ⟨uE, vE, rfl, pE, qE, hxE⟩)
        | (go_at_call 36; (with_reducible refine (HS2.out _ _ _ hxE pE qE).mono ?_); rintro e wF ⟨rfl, hxF⟩)
      )
    all_goals
      go_wp2_with fail
      go_meet
      case rel => exact ⟨rfl, hxF⟩
  case rest =>
  obtain ⟨rfl, hxc⟩ := hcut
  replace hb := hb.trans (hxc.mono hb.size)
  clear HF0 HF1 HF2 HS0 HS1 HS2 HK hx0 hxc
  obtain ⟨w, hwc⟩ : ∃ w, w = wc := ⟨_, rfl⟩
  rw [← hwc] at hb ⊢
  clear hwc
  go_wp2_with fail
  refine (powMod_any 2 0 1 w (by omega) (by omega) (by omega)).mono ?_
  rintro e w' ⟨rfl, rfl⟩
  rw [x_pow, x_powc]
  skip
  go_wp2_with fail
  refine (powMod_any 2 3 0 w (by omega) (by omega) (by omega)).mono ?_
  rintro e w' ⟨rfl, rfl⟩
  rw [x_powc0]
  generalize pmv 2 3 0 = Q1
  go_wp2_with fail
  refine (invMod_all 2 4 w (by omega)).mono ?_
  rintro e w' ⟨rfl, t1, rfl⟩
  rw [x_invc]
  generalize ivv 2 4 = Q2
  replace hb := below_drewN hb t1
  go_wp2_with fail
  refine (invMod_all 0 1 _ (by omega)).mono ?_
  rintro e w' ⟨rfl, t2, rfl⟩
  rw [x_inv1, x_invc1]
  replace hb := below_drewN hb t2
  go_wp2_with fail
  rw [World.drewN_drewN] at hb
  generalize w.drewN (t1 + t2) = wz at hb ⊢
  refine (prime_any 1 wz (by omega)).mono ?_
  rintro e w' ⟨rfl, rfl⟩
  rw [x_prb1, x_prc1]
  go_wp2_with fail
  refine (prime_any 1048573 wz (by omega)).mono ?_
  rintro e w' ⟨rfl, rfl⟩
  rw [x_prb2, x_prc2]
  go_wp2_with fail
  refine (prime_any 1048576 wz (by omega)).mono ?_
  rintro e w' ⟨rfl, rfl⟩
  rw [x_prc3]
  generalize prb 1048576 = Q3
  go_wp2_with fail
  refine (checkGroup_any 23 11 1 wz (by omega) (by omega) (by omega) (by omega)).mono ?_
  rintro e wy ⟨rfl, hc⟩
  rw [x_grp1]
  replace hb := hb.trans (hc.mono hb.size)
  go_wp2_with fail
  refine (checkGroup_any 23 22 5 wy (by omega) (by omega) (by omega) (by omega)).mono ?_
  rintro e wx ⟨rfl, hd⟩
  rw [x_grp2]
  replace hb := hb.trans (hd.mono hb.size)
  go_wp2
  go_ret
  exact ⟨rfl, hb⟩
end Go.Proofs.Ythplhlcdlnedfaa.numberExamples
