/-
  Texts, part F: Text.
-/
import Derived.Test.YthplhlcdlnedfaaTxtE
import Derived.Test.YthplhlcdlnedfaaMathE
import Derived.Laws.BytesArg
namespace Go.Proofs.Ythplhlcdlnedfaa
open Go.RowKit MN

/-- The decimal text of a number, byte by byte. -/
def txtL (N : Nat) : List Nat := if N = 0 then [48] else (digs 10 N).reverse.map (48 + ·)
/-- As a string. -/
def txtS (N : Nat) : ByteArray := strOfNums ((txtL N).map fun (d : Nat) => (d : Int))

/-- What Text returns. -/
def texS (xs : List Nat) : ByteArray := if Vd xs then txtS (nv xs) else ⟨#[]⟩

theorem pow_bound : (4294967296 : Nat) ^ 16 ≤ 10 ^ 160 := by decide

theorem dg_txt (N L j : Nat) (hN : N ≠ 0) (hL : (digs 10 N).length = L) (hj : j < L) : dg (txtL N) j = 48 + dg (digs 10 N) (L - 1 - j) := by
  unfold txtL
  rw [if_neg hN, dg_get _ _ (by simp; omega), dg_get _ _ (by omega)]
  simp [hL]

theorem list_ext_dg (xs ys : List Nat) (h1 : xs.length = ys.length) (h2 : ∀ j, j < ys.length → dg xs j = dg ys j) : xs = ys := by
  refine List.ext_getElem h1 (fun j a b => ?_)
  rw [← dg_get xs j a, ← dg_get ys j b, h2 j b]

set_option maxRecDepth 100000 in
set_option maxHeartbeats 2000000 in
theorem text_any (A1 : Option Addr) (n1 c1 : Nat) (xs : List Nat) (w : World) (h : Arg w A1 n1 c1 xs) :
    Calls Try.prog 52 #[.slice A1 n1 c1] w fun e w' => e = .returned (.tuple #[.string (texS xs), .int .i64 (ck xs)]) ∧ Below w.heap.size w w' := by
  obtain ⟨i0, hi, hz0, hz1, hz2⟩ := info_parts info5
  have H := Lib.hid (check1_call h)
  by_cases hv : Vd xs
  · have hck : (ck xs != 0) = false := by rw [ck_yes hv]; rfl
    have hc0 := Lib.hid (ck_yes hv)
    have hT : Hid (texS xs = txtS (nv xs)) := Lib.hid (if_pos hv)
    have hn := h.len hv
    have hlen := Lib.hid h.rd.len
    have hlow := h.low
    rcases Nat.eq_zero_or_pos n1 with rfl | hpos
    · have hnil : xs = [] := List.eq_nil_of_length_eq_zero hlen.out
      have hT0 : Hid (texS xs = ⟨#[48]⟩) := Lib.hid (by rw [hT.out, hnil]; rfl)
      clear h hv hnil
      go_enter Try.func52, Try.ntmps52
      go_wp2_with (go_at_call 68; refine H.out.mono ?_; rintro e w' ⟨rfl, rfl⟩)
      go_ret2
      exact ⟨by rw [hT0.out, hc0.out]; rfl, below_alloc _ _⟩
    · obtain ⟨b, off, rfl, hcells⟩ := h.rd.at_ hpos
      have hcl := Lib.hid hcells
      have hVlt : Hid (∀ k, val 4294967296 (xs.drop k) < 10 ^ 160) := Lib.hid (fun k => by
        have h1 := val_lt (xs.drop k) (low_drop hlow k)
        have h2 : (xs.drop k).length ≤ 16 := by rw [List.length_drop, hlen.out]; omega
        have h3 : 4294967296 ^ (xs.drop k).length ≤ 4294967296 ^ 16 := Nat.pow_le_pow_right (by omega) h2
        exact Nat.lt_of_lt_of_le h1 (Nat.le_trans h3 pow_bound))
      have hNpos : Hid (nv xs ≠ 0) := Lib.hid (fun e => by
        have := vd_zero hv e
        rw [this] at hlen
        have h0 : ([] : List Nat).length = n1 := hlen.out
        simp at h0; omega)
      have hb0 := below_alloc w (.cells #[.slice (some ⟨b, off, none⟩) n1 c1] 23)
      have hbs : w.heap.size ≤ (w.alloc (.cells #[.slice (some ⟨b, off, none⟩) n1 c1] 23)).heap.size := hb0.size
      obtain ⟨w0, hw0⟩ : ∃ w0, w0 = w.alloc (.cells #[.slice (some ⟨b, off, none⟩) n1 c1] 23) := ⟨_, rfl⟩
      clear h hcells hv
      have hb1 : ((n1 : Int) == 0) = false := by rw [beq_eq_false_iff_ne]; omega
      go_enter Try.func52, Try.ntmps52
      go_wp2_with fail
      refine H.out.mono ?_
      rintro e w' ⟨rfl, rfl⟩
      go_wp2_with fail
      rw [← hw0] at hb0 hbs ⊢
      clear hw0 H
      go_loopw [5, 6] (fun v i wr => ∃ (k : Nat) (A : Option Addr) (n c : Nat), k ≤ n1 ∧ i = .int .i64 ((k : Int) - 1) ∧ v = .slice A n c ∧ wr.ownsRow w.heap.size 5 1 (.slice A n c) n (vs8 (digs 10 (val 4294967296 (xs.drop k)))) ∧ Below w.heap.size w wr ∧ w.heap.size ≤ wr.heap.size) (fun _ i _ => (intOf i + 1).toNat)
      case atStart =>
        refine ⟨n1, none, 0, 0, Nat.le_refl _, by go_num, rfl, ?_, hb0, hbs⟩
        rw [List.drop_of_length_le (by rw [hlen.out]; exact Nat.le_refl _)]
        exact World.ownsRow_nil _ _ _ _
      case round =>
        obtain ⟨k, A, n, c, hk, rfl, rfl, hown, hbel, hsz⟩ := hrel
        have hdl : (digs 10 (val 4294967296 (xs.drop k))).length = n := by have := hown.1; simpa [vs8] using this
        have hn160 : n ≤ 160 := by rw [← hdl]; exact digs_len (by omega) _ _ (hVlt.out k)
        rcases Nat.eq_zero_or_pos k with rfl | hkpos
        · rw [List.drop_zero] at hown hdl
          obtain ⟨ds, hds⟩ : ∃ ds, ds = digs 10 (val 4294967296 xs) := ⟨_, rfl⟩
          have hdlow : Low 10 ds := by rw [hds]; exact digs_low _ _ (by omega)
          rw [← hds] at hown hdl
          have HDS := Lib.hid hds
          have HDL := Lib.hid hdl
          have hrd := Rd.of_own hown
          have hat := Lib.hid hrd.at_
          have hn0 : 0 < n := by
            rw [← hdl]
            exact List.length_pos_iff.2 (by rw [hds]; exact digs_pos (by omega) (Nat.pos_of_ne_zero hNpos.out))
          clear hds hdl hrd hVlt
          go_wp2_with (first
            | (at_make; refine wpList_make_full _ rfl _ _ 111 rfl wr.heap.size 5 i0 _ 1 Try.underlying111 hi hz0 hz1 .i64 .i64 _ _ n rfl rfl rfl rfl (by rw [hz2]; omega) (by unfold maxLen; omega) (Nat.le_refl _) ?_; intro w3 hown3 hg3))
          have HC1 := Cols.made hown3 hg3 (Below.refl _ _) (Nat.le_refl _)
          clear hown3 hg3 hown
          obtain ⟨wo, rfl⟩ : ∃ wo : World, wo = wr := ⟨_, rfl⟩
          go_loopw [38] (fun i wx => ∃ (j : Nat) (ts : List Nat), j ≤ n ∧ i = .int .i64 j ∧ Cols .u8 5 wo.heap.size wo wx wo.heap.size n ts ∧ Hid (∀ t, t < n → dg ts t = if n - 1 - t < j then 48 + dg ds (n - 1 - t) else 0)) (fun i _ => n - (intOf i).toNat)
          case atStart => exact ⟨0, _, Nat.zero_le _, rfl, HC1, Lib.hid (fun t _ => by rw [dg_replicate, if_neg (by omega)])⟩
          case round =>
            obtain ⟨j, ts, hj, rfl, HC, HX⟩ := hrel
            by_cases hlt : j < n
            · obtain ⟨b2, off2, rfl, hc2⟩ := hat.out (by omega)
              have hcell := (HC.below.cell (p := ⟨b2, off2 + j, none⟩) (World.block_lt_of_cell? wo _ (hc2 j hlt))).trans (hc2 j hlt)
              clear hc2
              obtain ⟨D, hD⟩ : ∃ D, D = dg ds j := ⟨_, rfl⟩
              have hDl : D < 10 := by rw [hD]; exact low_dg hdlow (by omega) j
              rw [← hD] at hcell
              have HD := Lib.hid hD
              clear hD
              obtain ⟨p, hp⟩ : ∃ p, p = n - 1 - j := ⟨_, rfl⟩
              have hpn : p < n := by omega
              have hpi : (n : Int) - 1 - (j : Int) = (p : Int) := by omega
              have hk2 := HC.cell p hpn
              have hfr := HC.frozen p
              have HS := HC.set p (48 + D) (48 + (D : Int)) (by omega)
              have HX' : Hid (∀ t, t < n → dg (ts.set p (48 + D)) t = if n - 1 - t < j + 1 then 48 + dg ds (n - 1 - t) else 0) := Lib.hid (fun t ht => by
                rw [dg_set _ _ _ _ (by rw [HC.len]; exact hpn), HX.out t ht]
                by_cases e : t = p
                · rw [if_pos e, if_pos (by omega), show n - 1 - t = j by omega, HD.out]
                · rw [if_neg e]
                  by_cases e2 : n - 1 - t < j
                  · rw [if_pos e2, if_pos (by omega)]
                  · rw [if_neg e2, if_neg (by omega)])
              clear HX HC hp
              go_wp2
              go_roundw
              case rel => exact ⟨j + 1, _, by omega, by go_num, HS, HX'⟩
              case measure => simp [intOf]; omega
            · obtain rfl : j = n := by omega
              have htx : ts = txtL (val 4294967296 xs) := list_ext_dg _ _ (by
                  rw [HC.len]; unfold txtL; rw [if_neg hNpos.out]; simp [← HDS.out, HDL.out]) (fun t ht => by
                have htn : t < j := by
                  unfold txtL at ht; rw [if_neg hNpos.out] at ht; simpa [← HDS.out, HDL.out] using ht
                rw [HX.out t htn, if_pos (by omega), dg_txt _ j t hNpos.out (by rw [← HDS.out, HDL.out]) htn, HDS.out])
              have hcv := run_convert_bytes_arg (P := Try.prog) wr 111 5 Try.underlying111 Try.underlying5 wo.heap.size 0 j j (ts.map fun (d : Nat) => (d : Int)) (by simp [HC.len]) (fun i hi => by
                have h1 := HC.cell i hi
                rw [Nat.zero_add, h1, dg_get ts i (by rw [HC.len]; exact hi)]
                simp [List.getD_eq_getElem?_getD, List.getElem?_map, List.getElem?_eq_getElem (show i < ts.length by rw [HC.len]; exact hi)]) 9 Try.underlying9
              have hst : strOfNums (ts.map fun (d : Nat) => (d : Int)) = txtS (val 4294967296 xs) := by rw [htx]; rfl
              rw [hst] at hcv
              clear htx hst HX
              go_wp2
              go_ret2
              exact ⟨by rw [hT.out, hc0.out]; rfl, hbel.trans (HC.below.mono hsz)⟩
        · obtain ⟨q, rfl⟩ : ∃ q, k = q + 1 := ⟨k - 1, by omega⟩
          have hq : q < n1 := by omega
          have hcell := (hbel.cell (p := ⟨b, off + q, none⟩) (World.block_lt_of_cell? w _ (hcl.out q hq))).trans (hcl.out q hq)
          obtain ⟨D, hD⟩ : ∃ D, D = dg xs q := ⟨_, rfl⟩
          have hDl : D < 4294967296 := by rw [hD]; exact low_dg hlow (by omega) q
          rw [← hD] at hcell
          have hsc := scale8_any A n c D _ wr (Rd.of_own hown) (digs_low 10 _ (by omega)) (by omega) hDl
          rw [digs_val _ _ (by omega)] at hsc
          have hvd : val 4294967296 (xs.drop (q + 1)) * 4294967296 + D = val 4294967296 (xs.drop q) := by
            rw [val_drop _ xs q (by rw [hlen.out]; exact hq), hD, Nat.mul_comm]; omega
          rw [hvd] at hsc
          have HSC := Lib.hid hsc
          have l0 : (0 : Int) ≤ (q : Int) := by omega
          clear hsc hvd hD hdl
          rw [show (((q + 1 : Nat) : Int) - 1) = (q : Int) by omega]
          go_wp2_with fail
          refine HSC.out.mono ?_
          rintro e w2 ⟨A2, n2, c2, rfl, hown2, hb2⟩
          have hown3 := own_low hown2 hsz
          have hbel3 := hbel.trans (hb2.mono hsz)
          have hsz3 := Nat.le_trans hsz hb2.size
          clear hown hown2 hbel
          go_wp2_with fail
          go_roundw
          case rel => exact ⟨q, A2, n2, c2, by omega, by go_num, rfl, hown3, hbel3, hsz3⟩
          case measure => simp [intOf]
  · have hck : (ck xs != 0) = true := by rw [ck_no hv]; rfl
    have h3 := Lib.hid (ck_no hv)
    have hT : Hid (texS xs = ⟨#[]⟩) := Lib.hid (if_neg hv)
    clear h hv
    go_enter Try.func52, Try.ntmps52
    go_wp2_with (go_at_call 68; refine H.out.mono ?_; rintro e w' ⟨rfl, rfl⟩)
    go_ret2
    exact ⟨by rw [hT.out]; rfl, below_alloc _ _⟩

end Go.Proofs.Ythplhlcdlnedfaa
