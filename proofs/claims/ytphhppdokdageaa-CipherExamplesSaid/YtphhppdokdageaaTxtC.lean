/-
  Parse's region, walked by its invariant; Parse.
-/
import Derived.Test.YtphhppdokdageaaTxtB
import Derived.Test.YtphhppdokdageaaKeyG
import Derived.Deep.RegionHeld3
namespace Go.Proofs.Ytphhppdokdageaa
open Go.RowKit SP
set_option linter.unusedSimpArgs false
set_option linter.unusedVariables false

theorem kl_zero : (kl 0 0).toArray = z16 := by kernel_rfl

/-- The state behind the region. -/
structure Parted (s : ByteArray) (wz w : World) (b4 b5 P1 Q1 P2 Q2 : Nat) : Prop where
  k4 : KeyAt w b4 P1 Q1
  k5 : KeyAt w b5 P2 Q2
  bel : Below (wz.heap.size + 1) (wz.alloc (.cells z16 23)) w
  size : wz.heap.size + 1 ≤ w.heap.size

theorem results_key2 {fn : Func} {p q : Tmp} (h : fn.results = #[.cell p 23, .tmp q]) (tmps : Array Value) (w : World) (b X Y : Nat)
    (hp : tmps.getD p undef = .pointer (some ⟨b, 0, none⟩)) (hc : KeyAt w b X Y) : (results fn tmps).run Try.prog w = .ok (.tuple #[.agg (kl X Y).toArray, tmps.getD q undef]) w := by
  have hp' : tmps[p]?.getD undef = .pointer (some ⟨b, 0, none⟩) := by simpa using hp
  simp [results, h, hp', asAddr, Sem.run_bind, run_loadVar_mid w b 0 23 (kl X Y) _ hc Try.underlying23 rfl (by rw [kl_len]; exact size23)]
theorem bodyPost_key2 {Q : Ending → World → Prop} {fn : Func} {p q : Tmp} (h : fn.results = #[.cell p 23, .tmp q]) {a : Act} {w : World} (b X Y : Nat)
    (hp : a.tmps.getD p undef = .pointer (some ⟨b, 0, none⟩)) (hc : KeyAt w b X Y) (hd : a.defers = []) (hq : Q (.returned (.tuple #[.agg (kl X Y).toArray, a.tmps.getD q undef])) w) : bodyPost Try.prog fn Q .ret a w :=
  bodyPost_ret (results_key2 h a.tmps w b X Y hp hc) hd hq

/-- The word of the first and of the second 16 digits of a text. -/
def txX (s : ByteArray) : Nat := vwd (fun j => sb s j) 16
def txY (s : ByteArray) : Nat := vwd (fun j => sb s (16 + j)) 16
/-- Are the first, are the second 16 bytes digits? -/
def hexA (s : ByteArray) : Bool := (List.range 16).all fun j => isHex (sb s j)
def hexB (s : ByteArray) : Bool := (List.range 16).all fun j => isHex (sb s (16 + j))

/-- What Parse returns for a string of 32 bytes. -/
def Parses (s : ByteArray) (X Y E : Nat) : Prop := if (hexA s && hexB s) = true then X = txX s ∧ Y = txY s ∧ E = 0 else X = 0 ∧ Y = 0 ∧ E = 12

theorem sb_extract1 (s : ByteArray) (j : Nat) (hs : s.size = 32) (hj : j < 16) : sb (s.extract 0 16) j = sb s j := by
  unfold sb
  have h : j < s.data.size := by have : s.data.size = s.size := rfl; omega
  simp [List.getD, ByteArray.data_extract, Array.getElem?_extract, h, hj]
theorem sb_extract2 (s : ByteArray) (j : Nat) (hs : s.size = 32) (hj : j < 16) : sb (s.extract 16 32) j = sb s (16 + j) := by
  unfold sb
  have h : 16 + j < s.data.size := by have : s.data.size = s.size := rfl; omega
  have h2 : s.data.size = 32 := hs
  have h3 : s.data[16 + j]? = some s.data[16 + j] := Array.getElem?_eq_getElem h
  simp [List.getD, ByteArray.data_extract, Array.getElem?_extract, h, h2, hj, h3]

theorem same_digits (f : Nat → Nat) (hf : ∀ i, f i < 256) : same (kwX (dgt (vwd f 16))) (kwY (dgt (vwd f 16))) (kwX f) (kwY f) = (List.range 16).all fun j => isHex (f j) := by
  rw [Bool.eq_iff_iff]
  unfold same
  simp only [List.all_eq_true, List.mem_range, decide_eq_true_eq]
  have hd := dgt_lt (vwd f 16)
  constructor
  · rintro ⟨h1, h2⟩ j hj
    have e1 := kw_byte _ hd j hj
    rw [h1, h2, kw_byte f hf j hj, dgt_vwd f j hj] at e1
    exact (hexd_vdig_iff _).1 e1.symm
  · intro h
    refine kby_ext (kw_lt _ hd).1 (kw_lt _ hd).2 (kw_lt f hf).1 (kw_lt f hf).2 (fun j hj => ?_)
    rw [kw_byte _ hd j hj, kw_byte f hf j hj, dgt_vwd f j hj]
    exact hexd_vdig (h j hj)

set_option maxRecDepth 100000 in
set_option maxHeartbeats 4000000 in
theorem parse_some (s : ByteArray) (wz : World) (hs : s.size = 32) :
    Calls Try.prog 24 #[.string s] wz fun e w' => (∃ X Y E : Nat, e = .returned (.tuple #[.agg (kl X Y).toArray, .int .i64 (E : Int)]) ∧ Parses s X Y E) ∧ Below wz.heap.size wz w' := by
  obtain ⟨s1, hs1⟩ : ∃ s1, s1 = s.extract 0 16 := ⟨_, rfl⟩
  obtain ⟨s2, hs2⟩ : ∃ s2, s2 = s.extract 16 32 := ⟨_, rfl⟩
  have E1 := Lib.hid hs1
  have E2 := Lib.hid hs2
  have z1 : s1.size = 16 := by rw [hs1, ByteArray.size_extract]; omega
  have z2 : s2.size = 16 := by rw [hs2, ByteArray.size_extract]; omega
  obtain ⟨P1, hP1⟩ : ∃ x, x = kwX (sb s1) := ⟨_, rfl⟩
  obtain ⟨Q1, hQ1⟩ : ∃ x, x = kwY (sb s1) := ⟨_, rfl⟩
  obtain ⟨P2, hP2⟩ : ∃ x, x = kwX (sb s2) := ⟨_, rfl⟩
  obtain ⟨Q2, hQ2⟩ : ∃ x, x = kwY (sb s2) := ⟨_, rfl⟩
  have H1 := Lib.hid (And.intro hP1 hQ1)
  have H2 := Lib.hid (And.intro hP2 hQ2)
  have Z1 := Lib.hid z1
  have Z2 := Lib.hid z2
  clear hs1 hs2 z1 z2 hP1 hQ1 hP2 hQ2
  have HS := Lib.hid hs
  go_enter Try.func24, Try.ntmps24
  go_wp2_with fail
  obtain ⟨W0, hW0⟩ : ∃ W0, W0 = wz.alloc (.cells z16 23) := ⟨_, rfl⟩
  rw [← hW0]
  obtain ⟨r, hr⟩ : ∃ r, r = wz.heap.size := ⟨_, rfl⟩
  rw [← hr]
  have HR := Lib.hid hr
  have HW := Lib.hid hW0
  clear hr hW0
  refine wp_region_inv (by kernel_rfl) (by kernel_rfl) (PI W0.heap.size r s s1 s2 P1 Q1 P2 Q2 W0) ?_ (fun l a w i hI hi hli hpre => ?_) (fun l a w hall hI => ?_)
  · refine ⟨undef, undef, undef, undef, undef, undef, undef, undef, undef, undef, undef, undef, rfl, ?_⟩
    refine {
      bel := (Below.refl _ _).drew, size := Nat.le_refl _, c0 := (fun h => absurd h (by simp)), c1 := (fun h => absurd h (by simp)), c2 := (fun h => absurd h (by simp)), c3 := (fun h => absurd h (by simp)), c4 := (fun h => absurd h (by simp)), c5 := (fun h => absurd h (by simp)), c6 := (fun h => absurd h (by simp)), c7 := (fun h => absurd h (by simp)), c8 := (fun h => absurd h (by simp)), c9 := (fun h => absurd h (by simp)), c10 := (fun h => absurd h (by simp)), d10 := fun _ => rfl, c11 := (fun h => absurd h (by simp)), o4 := (fun h => absurd h (by simp)), o9 := (fun h => absurd h (by simp)), o12 := (fun h => absurd h (by simp)), o13 := (fun h => absurd h (by simp)) }
  · obtain ⟨t4, t5, t12, t13, t14, t15, t16, t17, t18, t19, t20, t21, rfl, hC⟩ := hI
    have hi14 : i < 14 := hi
    have hcase : i = 0 ∨ i = 1 ∨ i = 2 ∨ i = 3 ∨ i = 4 ∨ i = 5 ∨ i = 6 ∨ i = 7 ∨ i = 8 ∨ i = 9 ∨ i = 10 ∨ i = 11 ∨ i = 12 ∨ i = 13 := by omega
    have hp := fun o ho e he hb => hpre o ho e he hb
    clear hpre hi hi14
    rcases hcase with rfl | rfl | rfl | rfl | rfl | rfl | rfl | rfl | rfl | rfl | rfl | rfl | rfl | rfl
    · -- 0
      refine wpOp_step rfl (fun K hK => ?_)
      rw [if_pos (by rfl)]
      go_simp
      exact hK _ _ ⟨_, _, _, _, _, _, _, _, _, _, _, _, rfl, {
        bel := (hC.bel),
        size := (hC.size),
        c0 := (fun _ => rfl),
        c1 := (by simpa only [upd_ne l 0 1 (by decide)] using hC.c1),
        c2 := (by simpa only [upd_ne l 0 2 (by decide), upd_ne l 0 4 (by decide)] using hC.c2),
        c3 := (by simpa only [upd_ne l 0 3 (by decide), upd_ne l 0 4 (by decide)] using hC.c3),
        c4 := (by simpa only [upd_ne l 0 4 (by decide)] using hC.c4),
        c5 := (by simpa only [upd_ne l 0 5 (by decide)] using hC.c5),
        c6 := (by simpa only [upd_ne l 0 6 (by decide)] using hC.c6),
        c7 := (by simpa only [upd_ne l 0 7 (by decide), upd_ne l 0 9 (by decide)] using hC.c7),
        c8 := (by simpa only [upd_ne l 0 8 (by decide), upd_ne l 0 9 (by decide)] using hC.c8),
        c9 := (by simpa only [upd_ne l 0 9 (by decide)] using hC.c9),
        c10 := (by simpa only [upd_ne l 0 10 (by decide), upd_ne l 0 12 (by decide)] using hC.c10),
        d10 := (by simpa only [upd_ne l 0 10 (by decide)] using hC.d10),
        c11 := (by simpa only [upd_ne l 0 11 (by decide), upd_ne l 0 13 (by decide)] using hC.c11),
        o4 := (by simpa only [upd_ne l 0 3 (by decide), upd_ne l 0 4 (by decide)] using hC.o4),
        o9 := (by simpa only [upd_ne l 0 8 (by decide), upd_ne l 0 9 (by decide)] using hC.o9),
        o12 := (by simpa only [upd_ne l 0 10 (by decide), upd_ne l 0 12 (by decide)] using hC.o12),
        o13 := (by simpa only [upd_ne l 0 11 (by decide), upd_ne l 0 13 (by decide)] using hC.o13) }⟩
    · -- 1
      refine wpOp_step rfl (fun K hK => ?_)
      rw [if_pos (by rfl)]
      obtain rfl := hC.c0 (hp _ rfl ⟨0, .data⟩ (by simp) rfl)
      go_simp
      exact hK _ _ ⟨_, _, _, _, _, _, _, _, _, _, _, _, rfl, {
        bel := (hC.bel),
        size := (hC.size),
        c0 := (by simpa only [upd_ne l 1 0 (by decide)] using hC.c0),
        c1 := (fun _ => by rw [E1.out]),
        c2 := (by simpa only [upd_ne l 1 2 (by decide), upd_ne l 1 4 (by decide)] using hC.c2),
        c3 := (by simpa only [upd_ne l 1 3 (by decide), upd_ne l 1 4 (by decide)] using hC.c3),
        c4 := (by simpa only [upd_ne l 1 4 (by decide)] using hC.c4),
        c5 := (by simpa only [upd_ne l 1 5 (by decide)] using hC.c5),
        c6 := (by simpa only [upd_ne l 1 6 (by decide)] using hC.c6),
        c7 := (by simpa only [upd_ne l 1 7 (by decide), upd_ne l 1 9 (by decide)] using hC.c7),
        c8 := (by simpa only [upd_ne l 1 8 (by decide), upd_ne l 1 9 (by decide)] using hC.c8),
        c9 := (by simpa only [upd_ne l 1 9 (by decide)] using hC.c9),
        c10 := (by simpa only [upd_ne l 1 10 (by decide), upd_ne l 1 12 (by decide)] using hC.c10),
        d10 := (by simpa only [upd_ne l 1 10 (by decide)] using hC.d10),
        c11 := (by simpa only [upd_ne l 1 11 (by decide), upd_ne l 1 13 (by decide)] using hC.c11),
        o4 := (by simpa only [upd_ne l 1 3 (by decide), upd_ne l 1 4 (by decide)] using hC.o4),
        o9 := (by simpa only [upd_ne l 1 8 (by decide), upd_ne l 1 9 (by decide)] using hC.o9),
        o12 := (by simpa only [upd_ne l 1 10 (by decide), upd_ne l 1 12 (by decide)] using hC.o12),
        o13 := (by simpa only [upd_ne l 1 11 (by decide), upd_ne l 1 13 (by decide)] using hC.o13) }⟩
    · -- 2
      refine wpOp_step rfl (fun K hK => ?_)
      rw [if_pos (by rfl)]
      obtain rfl := hC.c1 (hp _ rfl ⟨1, .data⟩ (by simp) rfl)
      have hcv := Lib.run_convert_string_bytes (P := Try.prog) w 9 26 5 s1 Try.underlying9 Try.underlying26 Try.underlying5
      have hb := bytes_below w s1
      have hk := bytes_key w s1 Z1.out
      rw [Z1.out] at hcv
      replace hC := hC.grow hb
      go_simp
      exact hK _ _ ⟨_, _, _, _, _, _, _, _, _, _, _, _, rfl, {
        bel := (hC.bel),
        size := (hC.size),
        c0 := (by simpa only [upd_ne l 2 0 (by decide)] using hC.c0),
        c1 := (by simpa only [upd_ne l 2 1 (by decide)] using hC.c1),
        c2 := (fun _ _ => ⟨_, _, rfl, by rw [H1.out.1, H1.out.2]; exact hk⟩),
        c3 := (by simpa only [upd_ne l 2 3 (by decide), upd_ne l 2 4 (by decide)] using hC.c3),
        c4 := (by simpa only [upd_ne l 2 4 (by decide)] using hC.c4),
        c5 := (by simpa only [upd_ne l 2 5 (by decide)] using hC.c5),
        c6 := (by simpa only [upd_ne l 2 6 (by decide)] using hC.c6),
        c7 := (by simpa only [upd_ne l 2 7 (by decide), upd_ne l 2 9 (by decide)] using hC.c7),
        c8 := (by simpa only [upd_ne l 2 8 (by decide), upd_ne l 2 9 (by decide)] using hC.c8),
        c9 := (by simpa only [upd_ne l 2 9 (by decide)] using hC.c9),
        c10 := (by simpa only [upd_ne l 2 10 (by decide), upd_ne l 2 12 (by decide)] using hC.c10),
        d10 := (by simpa only [upd_ne l 2 10 (by decide)] using hC.d10),
        c11 := (by simpa only [upd_ne l 2 11 (by decide), upd_ne l 2 13 (by decide)] using hC.c11),
        o4 := (by simpa only [upd_ne l 2 3 (by decide), upd_ne l 2 4 (by decide)] using hC.o4),
        o9 := (by simpa only [upd_ne l 2 8 (by decide), upd_ne l 2 9 (by decide)] using hC.o9),
        o12 := (by simpa only [upd_ne l 2 10 (by decide), upd_ne l 2 12 (by decide)] using hC.o12),
        o13 := (by simpa only [upd_ne l 2 11 (by decide), upd_ne l 2 13 (by decide)] using hC.o13) }⟩
    · -- 3
      refine wpOp_step rfl (fun K hK => ?_)
      rw [if_pos (by rfl)]
      have h4 : l 4 = false := by rcases Bool.eq_false_or_eq_true (l 4) with h | h; exact absurd (hC.o4 h) (by rw [hli]; simp); exact h
      obtain ⟨b, c, rfl, hk⟩ := hC.c2 (hp _ rfl ⟨2, .data⟩ (by simp) rfl) h4
      have har := run_arr_ptr b c w
      go_simp
      exact hK _ _ ⟨_, _, _, _, _, _, _, _, _, _, _, _, rfl, {
        bel := (hC.bel),
        size := (hC.size),
        c0 := (by simpa only [upd_ne l 3 0 (by decide)] using hC.c0),
        c1 := (by simpa only [upd_ne l 3 1 (by decide)] using hC.c1),
        c2 := (by simpa only [upd_ne l 3 2 (by decide), upd_ne l 3 4 (by decide)] using hC.c2),
        c3 := (fun _ _ => ⟨b, rfl, hk⟩),
        c4 := (by simpa only [upd_ne l 3 4 (by decide)] using hC.c4),
        c5 := (by simpa only [upd_ne l 3 5 (by decide)] using hC.c5),
        c6 := (by simpa only [upd_ne l 3 6 (by decide)] using hC.c6),
        c7 := (by simpa only [upd_ne l 3 7 (by decide), upd_ne l 3 9 (by decide)] using hC.c7),
        c8 := (by simpa only [upd_ne l 3 8 (by decide), upd_ne l 3 9 (by decide)] using hC.c8),
        c9 := (by simpa only [upd_ne l 3 9 (by decide)] using hC.c9),
        c10 := (by simpa only [upd_ne l 3 10 (by decide), upd_ne l 3 12 (by decide)] using hC.c10),
        d10 := (by simpa only [upd_ne l 3 10 (by decide)] using hC.d10),
        c11 := (by simpa only [upd_ne l 3 11 (by decide), upd_ne l 3 13 (by decide)] using hC.c11),
        o4 := (fun _ => upd_eq l 3),
        o9 := (by simpa only [upd_ne l 3 8 (by decide), upd_ne l 3 9 (by decide)] using hC.o9),
        o12 := (by simpa only [upd_ne l 3 10 (by decide), upd_ne l 3 12 (by decide)] using hC.o12),
        o13 := (by simpa only [upd_ne l 3 11 (by decide), upd_ne l 3 13 (by decide)] using hC.o13) }⟩
    · -- 4
      refine wpOp_step rfl (fun K hK => ?_)
      rw [if_pos (by rfl)]
      obtain ⟨b, rfl, hk⟩ := hC.c3 (hp _ rfl ⟨3, .data⟩ (by simp) rfl) hli
      refine wp_load_mid 23 _ rfl b 0 rfl (kl P1 Q1) _ hk Try.underlying23 rfl (by rw [kl_len]; exact size23) ?_
      simp only [Act.put, List.setIfInBounds_toArray, List.set_cons_zero, List.set_cons_succ]
      exact hK _ _ ⟨_, _, _, _, _, _, _, _, _, _, _, _, rfl, {
        bel := (hC.bel),
        size := (hC.size),
        c0 := (by simpa only [upd_ne l 4 0 (by decide)] using hC.c0),
        c1 := (by simpa only [upd_ne l 4 1 (by decide)] using hC.c1),
        c2 := (fun _ h => by rw [upd_eq] at h; cases h),
        c3 := (fun _ h => by rw [upd_eq] at h; cases h),
        c4 := (fun _ => rfl),
        c5 := (by simpa only [upd_ne l 4 5 (by decide)] using hC.c5),
        c6 := (by simpa only [upd_ne l 4 6 (by decide)] using hC.c6),
        c7 := (by simpa only [upd_ne l 4 7 (by decide), upd_ne l 4 9 (by decide)] using hC.c7),
        c8 := (by simpa only [upd_ne l 4 8 (by decide), upd_ne l 4 9 (by decide)] using hC.c8),
        c9 := (by simpa only [upd_ne l 4 9 (by decide)] using hC.c9),
        c10 := (by simpa only [upd_ne l 4 10 (by decide), upd_ne l 4 12 (by decide)] using hC.c10),
        d10 := (by simpa only [upd_ne l 4 10 (by decide)] using hC.d10),
        c11 := (by simpa only [upd_ne l 4 11 (by decide), upd_ne l 4 13 (by decide)] using hC.c11),
        o4 := (fun _ => by rw [upd_ne l 4 3 (by decide)]; exact hp _ rfl ⟨3, .data⟩ (by simp) rfl),
        o9 := (by simpa only [upd_ne l 4 8 (by decide), upd_ne l 4 9 (by decide)] using hC.o9),
        o12 := (by simpa only [upd_ne l 4 10 (by decide), upd_ne l 4 12 (by decide)] using hC.o12),
        o13 := (by simpa only [upd_ne l 4 11 (by decide), upd_ne l 4 13 (by decide)] using hC.o13) }⟩
    · -- 5
      refine wpOp_step rfl (fun K hK => ?_)
      rw [if_pos (by rfl)]
      go_simp
      exact hK _ _ ⟨_, _, _, _, _, _, _, _, _, _, _, _, rfl, {
        bel := (hC.bel),
        size := (hC.size),
        c0 := (by simpa only [upd_ne l 5 0 (by decide)] using hC.c0),
        c1 := (by simpa only [upd_ne l 5 1 (by decide)] using hC.c1),
        c2 := (by simpa only [upd_ne l 5 2 (by decide), upd_ne l 5 4 (by decide)] using hC.c2),
        c3 := (by simpa only [upd_ne l 5 3 (by decide), upd_ne l 5 4 (by decide)] using hC.c3),
        c4 := (by simpa only [upd_ne l 5 4 (by decide)] using hC.c4),
        c5 := (fun _ => rfl),
        c6 := (by simpa only [upd_ne l 5 6 (by decide)] using hC.c6),
        c7 := (by simpa only [upd_ne l 5 7 (by decide), upd_ne l 5 9 (by decide)] using hC.c7),
        c8 := (by simpa only [upd_ne l 5 8 (by decide), upd_ne l 5 9 (by decide)] using hC.c8),
        c9 := (by simpa only [upd_ne l 5 9 (by decide)] using hC.c9),
        c10 := (by simpa only [upd_ne l 5 10 (by decide), upd_ne l 5 12 (by decide)] using hC.c10),
        d10 := (by simpa only [upd_ne l 5 10 (by decide)] using hC.d10),
        c11 := (by simpa only [upd_ne l 5 11 (by decide), upd_ne l 5 13 (by decide)] using hC.c11),
        o4 := (by simpa only [upd_ne l 5 3 (by decide), upd_ne l 5 4 (by decide)] using hC.o4),
        o9 := (by simpa only [upd_ne l 5 8 (by decide), upd_ne l 5 9 (by decide)] using hC.o9),
        o12 := (by simpa only [upd_ne l 5 10 (by decide), upd_ne l 5 12 (by decide)] using hC.o12),
        o13 := (by simpa only [upd_ne l 5 11 (by decide), upd_ne l 5 13 (by decide)] using hC.o13) }⟩
    · -- 6
      refine wpOp_step rfl (fun K hK => ?_)
      rw [if_pos (by rfl)]
      obtain rfl := hC.c5 (hp _ rfl ⟨5, .data⟩ (by simp) rfl)
      go_simp
      exact hK _ _ ⟨_, _, _, _, _, _, _, _, _, _, _, _, rfl, {
        bel := (hC.bel),
        size := (hC.size),
        c0 := (by simpa only [upd_ne l 6 0 (by decide)] using hC.c0),
        c1 := (by simpa only [upd_ne l 6 1 (by decide)] using hC.c1),
        c2 := (by simpa only [upd_ne l 6 2 (by decide), upd_ne l 6 4 (by decide)] using hC.c2),
        c3 := (by simpa only [upd_ne l 6 3 (by decide), upd_ne l 6 4 (by decide)] using hC.c3),
        c4 := (by simpa only [upd_ne l 6 4 (by decide)] using hC.c4),
        c5 := (by simpa only [upd_ne l 6 5 (by decide)] using hC.c5),
        c6 := (fun _ => by rw [E2.out]),
        c7 := (by simpa only [upd_ne l 6 7 (by decide), upd_ne l 6 9 (by decide)] using hC.c7),
        c8 := (by simpa only [upd_ne l 6 8 (by decide), upd_ne l 6 9 (by decide)] using hC.c8),
        c9 := (by simpa only [upd_ne l 6 9 (by decide)] using hC.c9),
        c10 := (by simpa only [upd_ne l 6 10 (by decide), upd_ne l 6 12 (by decide)] using hC.c10),
        d10 := (by simpa only [upd_ne l 6 10 (by decide)] using hC.d10),
        c11 := (by simpa only [upd_ne l 6 11 (by decide), upd_ne l 6 13 (by decide)] using hC.c11),
        o4 := (by simpa only [upd_ne l 6 3 (by decide), upd_ne l 6 4 (by decide)] using hC.o4),
        o9 := (by simpa only [upd_ne l 6 8 (by decide), upd_ne l 6 9 (by decide)] using hC.o9),
        o12 := (by simpa only [upd_ne l 6 10 (by decide), upd_ne l 6 12 (by decide)] using hC.o12),
        o13 := (by simpa only [upd_ne l 6 11 (by decide), upd_ne l 6 13 (by decide)] using hC.o13) }⟩
    · -- 7
      refine wpOp_step rfl (fun K hK => ?_)
      rw [if_pos (by rfl)]
      obtain rfl := hC.c6 (hp _ rfl ⟨6, .data⟩ (by simp) rfl)
      have hfr : t4 ≠ .pointer (some ⟨w.heap.size, 0, none⟩) := by
        rcases Bool.eq_false_or_eq_true (l 10) with h | h
        · obtain ⟨b, h1, h2, _⟩ := hC.c10 h
          have := there_lt h2 (by omega)
          rw [h1]; intro e; injection e with e; injection e with e; injection e with e; omega
        · rw [hC.d10 h]; intro e; cases e
      have hcv := Lib.run_convert_string_bytes (P := Try.prog) w 9 26 5 s2 Try.underlying9 Try.underlying26 Try.underlying5
      have hb := bytes_below w s2
      have hk := bytes_key w s2 Z2.out
      rw [Z2.out] at hcv
      replace hC := hC.grow hb
      go_simp
      exact hK _ _ ⟨_, _, _, _, _, _, _, _, _, _, _, _, rfl, {
        bel := (hC.bel),
        size := (hC.size),
        c0 := (by simpa only [upd_ne l 7 0 (by decide)] using hC.c0),
        c1 := (by simpa only [upd_ne l 7 1 (by decide)] using hC.c1),
        c2 := (by simpa only [upd_ne l 7 2 (by decide), upd_ne l 7 4 (by decide)] using hC.c2),
        c3 := (by simpa only [upd_ne l 7 3 (by decide), upd_ne l 7 4 (by decide)] using hC.c3),
        c4 := (by simpa only [upd_ne l 7 4 (by decide)] using hC.c4),
        c5 := (by simpa only [upd_ne l 7 5 (by decide)] using hC.c5),
        c6 := (by simpa only [upd_ne l 7 6 (by decide)] using hC.c6),
        c7 := (fun _ _ => ⟨_, _, rfl, by rw [H2.out.1, H2.out.2]; exact hk, hfr⟩),
        c8 := (by simpa only [upd_ne l 7 8 (by decide), upd_ne l 7 9 (by decide)] using hC.c8),
        c9 := (by simpa only [upd_ne l 7 9 (by decide)] using hC.c9),
        c10 := (by simpa only [upd_ne l 7 10 (by decide), upd_ne l 7 12 (by decide)] using hC.c10),
        d10 := (by simpa only [upd_ne l 7 10 (by decide)] using hC.d10),
        c11 := (by simpa only [upd_ne l 7 11 (by decide), upd_ne l 7 13 (by decide)] using hC.c11),
        o4 := (by simpa only [upd_ne l 7 3 (by decide), upd_ne l 7 4 (by decide)] using hC.o4),
        o9 := (by simpa only [upd_ne l 7 8 (by decide), upd_ne l 7 9 (by decide)] using hC.o9),
        o12 := (by simpa only [upd_ne l 7 10 (by decide), upd_ne l 7 12 (by decide)] using hC.o12),
        o13 := (by simpa only [upd_ne l 7 11 (by decide), upd_ne l 7 13 (by decide)] using hC.o13) }⟩
    · -- 8
      refine wpOp_step rfl (fun K hK => ?_)
      rw [if_pos (by rfl)]
      have h9 : l 9 = false := by rcases Bool.eq_false_or_eq_true (l 9) with h | h; exact absurd (hC.o9 h) (by rw [hli]; simp); exact h
      obtain ⟨b, c, rfl, hk, hne⟩ := hC.c7 (hp _ rfl ⟨7, .data⟩ (by simp) rfl) h9
      have har := run_arr_ptr b c w
      clear hne
      go_simp
      exact hK _ _ ⟨_, _, _, _, _, _, _, _, _, _, _, _, rfl, {
        bel := (hC.bel),
        size := (hC.size),
        c0 := (by simpa only [upd_ne l 8 0 (by decide)] using hC.c0),
        c1 := (by simpa only [upd_ne l 8 1 (by decide)] using hC.c1),
        c2 := (by simpa only [upd_ne l 8 2 (by decide), upd_ne l 8 4 (by decide)] using hC.c2),
        c3 := (by simpa only [upd_ne l 8 3 (by decide), upd_ne l 8 4 (by decide)] using hC.c3),
        c4 := (by simpa only [upd_ne l 8 4 (by decide)] using hC.c4),
        c5 := (by simpa only [upd_ne l 8 5 (by decide)] using hC.c5),
        c6 := (by simpa only [upd_ne l 8 6 (by decide)] using hC.c6),
        c7 := (by simpa only [upd_ne l 8 7 (by decide), upd_ne l 8 9 (by decide)] using hC.c7),
        c8 := (fun _ _ => by obtain ⟨b', c', e, k, ne⟩ := hC.c7 (hp _ rfl ⟨7, .data⟩ (by simp) rfl) h9; injection e with e; exact ⟨b, rfl, hk, by rw [e]; exact ne⟩),
        c9 := (by simpa only [upd_ne l 8 9 (by decide)] using hC.c9),
        c10 := (by simpa only [upd_ne l 8 10 (by decide), upd_ne l 8 12 (by decide)] using hC.c10),
        d10 := (by simpa only [upd_ne l 8 10 (by decide)] using hC.d10),
        c11 := (by simpa only [upd_ne l 8 11 (by decide), upd_ne l 8 13 (by decide)] using hC.c11),
        o4 := (by simpa only [upd_ne l 8 3 (by decide), upd_ne l 8 4 (by decide)] using hC.o4),
        o9 := (fun _ => upd_eq l 8),
        o12 := (by simpa only [upd_ne l 8 10 (by decide), upd_ne l 8 12 (by decide)] using hC.o12),
        o13 := (by simpa only [upd_ne l 8 11 (by decide), upd_ne l 8 13 (by decide)] using hC.o13) }⟩
    · -- 9
      refine wpOp_step rfl (fun K hK => ?_)
      rw [if_pos (by rfl)]
      obtain ⟨b, rfl, hk, _⟩ := hC.c8 (hp _ rfl ⟨8, .data⟩ (by simp) rfl) hli
      refine wp_load_mid 23 _ rfl b 0 rfl (kl P2 Q2) _ hk Try.underlying23 rfl (by rw [kl_len]; exact size23) ?_
      simp only [Act.put, List.setIfInBounds_toArray, List.set_cons_zero, List.set_cons_succ]
      exact hK _ _ ⟨_, _, _, _, _, _, _, _, _, _, _, _, rfl, {
        bel := (hC.bel),
        size := (hC.size),
        c0 := (by simpa only [upd_ne l 9 0 (by decide)] using hC.c0),
        c1 := (by simpa only [upd_ne l 9 1 (by decide)] using hC.c1),
        c2 := (by simpa only [upd_ne l 9 2 (by decide), upd_ne l 9 4 (by decide)] using hC.c2),
        c3 := (by simpa only [upd_ne l 9 3 (by decide), upd_ne l 9 4 (by decide)] using hC.c3),
        c4 := (by simpa only [upd_ne l 9 4 (by decide)] using hC.c4),
        c5 := (by simpa only [upd_ne l 9 5 (by decide)] using hC.c5),
        c6 := (by simpa only [upd_ne l 9 6 (by decide)] using hC.c6),
        c7 := (fun _ h => by rw [upd_eq] at h; cases h),
        c8 := (fun _ h => by rw [upd_eq] at h; cases h),
        c9 := (fun _ => rfl),
        c10 := (by simpa only [upd_ne l 9 10 (by decide), upd_ne l 9 12 (by decide)] using hC.c10),
        d10 := (by simpa only [upd_ne l 9 10 (by decide)] using hC.d10),
        c11 := (by simpa only [upd_ne l 9 11 (by decide), upd_ne l 9 13 (by decide)] using hC.c11),
        o4 := (by simpa only [upd_ne l 9 3 (by decide), upd_ne l 9 4 (by decide)] using hC.o4),
        o9 := (fun _ => by rw [upd_ne l 9 8 (by decide)]; exact hp _ rfl ⟨8, .data⟩ (by simp) rfl),
        o12 := (by simpa only [upd_ne l 9 10 (by decide), upd_ne l 9 12 (by decide)] using hC.o12),
        o13 := (by simpa only [upd_ne l 9 11 (by decide), upd_ne l 9 13 (by decide)] using hC.o13) }⟩
    · -- 10
      refine wpOp_step rfl (fun K hK => ?_)
      rw [if_pos (by rfl)]
      have hC0 := hC
      replace hC := hC.grow ((Below.refl _ w).alloc (Nat.le_refl _) (.cells z16 23))
      go_simp
      exact hK _ _ ⟨_, _, _, _, _, _, _, _, _, _, _, _, rfl, {
        bel := (hC.bel),
        size := (hC.size),
        c0 := (by simpa only [upd_ne l 10 0 (by decide)] using hC.c0),
        c1 := (by simpa only [upd_ne l 10 1 (by decide)] using hC.c1),
        c2 := (by simpa only [upd_ne l 10 2 (by decide), upd_ne l 10 4 (by decide)] using hC.c2),
        c3 := (by simpa only [upd_ne l 10 3 (by decide), upd_ne l 10 4 (by decide)] using hC.c3),
        c4 := (by simpa only [upd_ne l 10 4 (by decide)] using hC.c4),
        c5 := (by simpa only [upd_ne l 10 5 (by decide)] using hC.c5),
        c6 := (by simpa only [upd_ne l 10 6 (by decide)] using hC.c6),
        c7 := (fun a b => by rw [upd_ne l 10 7 (by decide)] at a; rw [upd_ne l 10 9 (by decide)] at b; obtain ⟨x, c, h1, h2, _⟩ := hC0.c7 a b; have := h2.lt; obtain ⟨x', c', h1', h2', _⟩ := hC.c7 a b; rw [h1] at h1'; injection h1' with e1; injection e1 with e1; injection e1 with e1; subst e1; exact ⟨x, c, h1, h2', by intro e; injection e with e; injection e with e; injection e with e; omega⟩),
        c8 := (fun a b => by rw [upd_ne l 10 8 (by decide)] at a; rw [upd_ne l 10 9 (by decide)] at b; obtain ⟨x, h1, h2, _⟩ := hC0.c8 a b; have := h2.lt; exact ⟨x, h1, h2.alloc _, by intro e; injection e with e; injection e with e; injection e with e; omega⟩),
        c9 := (by simpa only [upd_ne l 10 9 (by decide)] using hC.c9),
        c10 := (fun _ => ⟨w.heap.size, rfl, (Row.zeros w 23).there, hC0.size, fun h => by rw [upd_ne l 10 12 (by decide)] at h; rw [hC0.o12 h] at hli; cases hli⟩),
        d10 := (fun h => by rw [upd_eq] at h; cases h),
        c11 := (fun a => by rw [upd_ne l 10 11 (by decide)] at a; obtain ⟨x, h1, h2, h3, _, h5⟩ := hC0.c11 a; have := there_lt h2 (by omega); exact ⟨x, h1, there_below h2 ((Below.refl _ w).alloc (Nat.le_refl _) (.cells z16 23)) this, h3, (by intro e; injection e with e; injection e with e; injection e with e; omega), fun h => by rw [upd_ne l 10 13 (by decide)] at h; exact (h5 h).alloc _⟩),
        o4 := (by simpa only [upd_ne l 10 3 (by decide), upd_ne l 10 4 (by decide)] using hC.o4),
        o9 := (by simpa only [upd_ne l 10 8 (by decide), upd_ne l 10 9 (by decide)] using hC.o9),
        o12 := (fun _ => upd_eq l 10),
        o13 := (by simpa only [upd_ne l 10 11 (by decide), upd_ne l 10 13 (by decide)] using hC.o13) }⟩
    · -- 11
      refine wpOp_step rfl (fun K hK => ?_)
      rw [if_pos (by rfl)]
      have hfr : t4 ≠ .pointer (some ⟨w.heap.size, 0, none⟩) := by
        rcases Bool.eq_false_or_eq_true (l 10) with h | h
        · obtain ⟨b, h1, h2, _⟩ := hC.c10 h
          have := there_lt h2 (by omega)
          rw [h1]; intro e; injection e with e; injection e with e; injection e with e; omega
        · rw [hC.d10 h]; intro e; cases e
      have hC0 := hC
      replace hC := hC.grow ((Below.refl _ w).alloc (Nat.le_refl _) (.cells z16 23))
      go_simp
      exact hK _ _ ⟨_, _, _, _, _, _, _, _, _, _, _, _, rfl, {
        bel := (hC.bel),
        size := (hC.size),
        c0 := (by simpa only [upd_ne l 11 0 (by decide)] using hC.c0),
        c1 := (by simpa only [upd_ne l 11 1 (by decide)] using hC.c1),
        c2 := (by simpa only [upd_ne l 11 2 (by decide), upd_ne l 11 4 (by decide)] using hC.c2),
        c3 := (by simpa only [upd_ne l 11 3 (by decide), upd_ne l 11 4 (by decide)] using hC.c3),
        c4 := (by simpa only [upd_ne l 11 4 (by decide)] using hC.c4),
        c5 := (by simpa only [upd_ne l 11 5 (by decide)] using hC.c5),
        c6 := (by simpa only [upd_ne l 11 6 (by decide)] using hC.c6),
        c7 := (by simpa only [upd_ne l 11 7 (by decide), upd_ne l 11 9 (by decide)] using hC.c7),
        c8 := (by simpa only [upd_ne l 11 8 (by decide), upd_ne l 11 9 (by decide)] using hC.c8),
        c9 := (by simpa only [upd_ne l 11 9 (by decide)] using hC.c9),
        c10 := (by simpa only [upd_ne l 11 10 (by decide), upd_ne l 11 12 (by decide)] using hC.c10),
        d10 := (by simpa only [upd_ne l 11 10 (by decide)] using hC.d10),
        c11 := (fun _ => ⟨w.heap.size, rfl, (Row.zeros w 23).there, hC0.size, hfr, fun h => by rw [upd_ne l 11 13 (by decide)] at h; rw [hC0.o13 h] at hli; cases hli⟩),
        o4 := (by simpa only [upd_ne l 11 3 (by decide), upd_ne l 11 4 (by decide)] using hC.o4),
        o9 := (by simpa only [upd_ne l 11 8 (by decide), upd_ne l 11 9 (by decide)] using hC.o9),
        o12 := (by simpa only [upd_ne l 11 10 (by decide), upd_ne l 11 12 (by decide)] using hC.o12),
        o13 := (fun _ => upd_eq l 11) }⟩
    · -- 12
      refine wpOp_step rfl (fun K hK => ?_)
      rw [if_pos (by rfl)]
      have p4 := hp _ rfl ⟨4, .data⟩ (by simp) rfl
      have e16 := hC.c4 p4
      obtain ⟨b4, e4, ht4, hn4, _⟩ := hC.c10 (hp _ rfl ⟨10, .data⟩ (by simp) rfl)
      subst e16 e4
      refine wp_store_mid 23 _ _ rfl b4 0 (kl P1 Q1).toArray rfl rfl (by simpa [kl_len] using ht4) (by simp [kl_len, size23]) (kl_arr P1 Q1) ?_
      rw [List.toList_toArray]
      simp only [Act.put, List.setIfInBounds_toArray, List.set_cons_zero, List.set_cons_succ]
      exact hK _ _ ⟨_, _, _, _, _, _, _, _, _, _, _, _, rfl, {
        bel := (below_setCells _ _ _ _ hC.bel hn4),
        size := (by rw [size_setCells]; exact hC.size),
        c0 := (by simpa only [upd_ne l 12 0 (by decide)] using hC.c0),
        c1 := (by simpa only [upd_ne l 12 1 (by decide)] using hC.c1),
        c2 := (fun _ h => by rw [upd_ne l 12 4 (by decide), p4] at h; cases h),
        c3 := (fun _ h => by rw [upd_ne l 12 4 (by decide), p4] at h; cases h),
        c4 := (by simpa only [upd_ne l 12 4 (by decide)] using hC.c4),
        c5 := (by simpa only [upd_ne l 12 5 (by decide)] using hC.c5),
        c6 := (by simpa only [upd_ne l 12 6 (by decide)] using hC.c6),
        c7 := (fun a b => by rw [upd_ne l 12 7 (by decide)] at a; rw [upd_ne l 12 9 (by decide)] at b; obtain ⟨x, c, h1, h2, h3⟩ := hC.c7 a b; exact ⟨x, c, h1, h2.setCells _ _ (by intro e; subst e; exact h3 rfl), h3⟩),
        c8 := (fun a b => by rw [upd_ne l 12 8 (by decide)] at a; rw [upd_ne l 12 9 (by decide)] at b; obtain ⟨x, h1, h2, h3⟩ := hC.c8 a b; exact ⟨x, h1, h2.setCells _ _ (by intro e; subst e; exact h3 rfl), h3⟩),
        c9 := (by simpa only [upd_ne l 12 9 (by decide)] using hC.c9),
        c10 := (fun _ => ⟨b4, rfl, World.there_setCells ht4 _ _ _, hn4, fun _ => KeyAt.stored ht4 P1 Q1⟩),
        d10 := (by simpa only [upd_ne l 12 10 (by decide)] using hC.d10),
        c11 := (fun a => by rw [upd_ne l 12 11 (by decide)] at a; obtain ⟨x, h1, h2, h3, h4, h5⟩ := hC.c11 a; exact ⟨x, h1, World.there_setCells h2 _ _ _, h3, h4, fun h => by rw [upd_ne l 12 13 (by decide)] at h; exact (h5 h).setCells _ _ (by intro e; subst e; exact h4 rfl)⟩),
        o4 := (by simpa only [upd_ne l 12 3 (by decide), upd_ne l 12 4 (by decide)] using hC.o4),
        o9 := (by simpa only [upd_ne l 12 8 (by decide), upd_ne l 12 9 (by decide)] using hC.o9),
        o12 := (fun _ => by rw [upd_ne l 12 10 (by decide)]; exact hp _ rfl ⟨10, .data⟩ (by simp) rfl),
        o13 := (by simpa only [upd_ne l 12 11 (by decide), upd_ne l 12 13 (by decide)] using hC.o13) }⟩
    · -- 13
      refine wpOp_step rfl (fun K hK => ?_)
      rw [if_pos (by rfl)]
      have p4 := hp _ rfl ⟨4, .phase⟩ (by simp) rfl
      have p9 := hp _ rfl ⟨9, .data⟩ (by simp) rfl
      have e21 := hC.c9 p9
      obtain ⟨b5, e5, ht5, hn5, hne5, _⟩ := hC.c11 (hp _ rfl ⟨11, .data⟩ (by simp) rfl)
      subst e21 e5
      refine wp_store_mid 23 _ _ rfl b5 0 (kl P2 Q2).toArray rfl rfl (by simpa [kl_len] using ht5) (by simp [kl_len, size23]) (kl_arr P2 Q2) ?_
      rw [List.toList_toArray]
      simp only [Act.put, List.setIfInBounds_toArray, List.set_cons_zero, List.set_cons_succ]
      exact hK _ _ ⟨_, _, _, _, _, _, _, _, _, _, _, _, rfl, {
        bel := (below_setCells _ _ _ _ hC.bel hn5),
        size := (by rw [size_setCells]; exact hC.size),
        c0 := (by simpa only [upd_ne l 13 0 (by decide)] using hC.c0),
        c1 := (by simpa only [upd_ne l 13 1 (by decide)] using hC.c1),
        c2 := (fun _ h => by rw [upd_ne l 13 4 (by decide), p4] at h; cases h),
        c3 := (fun _ h => by rw [upd_ne l 13 4 (by decide), p4] at h; cases h),
        c4 := (by simpa only [upd_ne l 13 4 (by decide)] using hC.c4),
        c5 := (by simpa only [upd_ne l 13 5 (by decide)] using hC.c5),
        c6 := (by simpa only [upd_ne l 13 6 (by decide)] using hC.c6),
        c7 := (fun _ h => by rw [upd_ne l 13 9 (by decide), p9] at h; cases h),
        c8 := (fun _ h => by rw [upd_ne l 13 9 (by decide), p9] at h; cases h),
        c9 := (by simpa only [upd_ne l 13 9 (by decide)] using hC.c9),
        c10 := (fun a => by rw [upd_ne l 13 10 (by decide)] at a; obtain ⟨x, h1, h2, h3, h5⟩ := hC.c10 a; exact ⟨x, h1, World.there_setCells h2 _ _ _, h3, fun h => by rw [upd_ne l 13 12 (by decide)] at h; exact (h5 h).setCells _ _ (by intro e; subst e; exact hne5 h1)⟩),
        d10 := (by simpa only [upd_ne l 13 10 (by decide)] using hC.d10),
        c11 := (fun _ => ⟨b5, rfl, World.there_setCells ht5 _ _ _, hn5, hne5, fun _ => KeyAt.stored ht5 P2 Q2⟩),
        o4 := (by simpa only [upd_ne l 13 3 (by decide), upd_ne l 13 4 (by decide)] using hC.o4),
        o9 := (by simpa only [upd_ne l 13 8 (by decide), upd_ne l 13 9 (by decide)] using hC.o9),
        o12 := (by simpa only [upd_ne l 13 10 (by decide), upd_ne l 13 12 (by decide)] using hC.o12),
        o13 := (fun _ => by rw [upd_ne l 13 11 (by decide)]; exact hp _ rfl ⟨11, .data⟩ (by simp) rfl) }⟩
  · obtain ⟨t4, t5, t12, t13, t14, t15, t16, t17, t18, t19, t20, t21, rfl, hC⟩ := hI
    have hC' : Parted s wz w (match t4 with | .pointer (some a) => a.block | _ => 0) (match t5 with | .pointer (some a) => a.block | _ => 0) P1 Q1 P2 Q2 := by
      obtain ⟨b4, rfl, _, _, h4⟩ := hC.c10 (hall 10 (by decide))
      obtain ⟨b5, rfl, _, _, _, h5⟩ := hC.c11 (hall 11 (by decide))
      have hz : W0.heap.size = wz.heap.size + 1 := by rw [HW.out]; simp
      exact ⟨h4 (hall 12 (by decide)), h5 (hall 13 (by decide)), by rw [← HW.out, ← hz]; exact hC.bel, by rw [← hz]; exact hC.size⟩
    obtain ⟨b4, rfl, _, _, _⟩ := hC.c10 (hall 10 (by decide))
    obtain ⟨b5, rfl, _, _, _, _⟩ := hC.c11 (hall 11 (by decide))
    dsimp only at hC'
    clear hC hall
    have f1 : ∀ j, j < 16 → kby P1 Q1 j = sb s j := fun j hj => by rw [H1.out.1, H1.out.2, kw_byte _ (sb_lt s1) j hj, E1.out, sb_extract1 s j HS.out hj]
    have f2 : ∀ j, j < 16 → kby P2 Q2 j = sb s (16 + j) := fun j hj => by rw [H2.out.1, H2.out.2, kw_byte _ (sb_lt s2) j hj, E2.out, sb_extract2 s j HS.out hj]
    have hk1 := kw_lt (sb s1) (sb_lt s1)
    have hk2 := kw_lt (sb s2) (sb_lt s2)
    have v1 : vwd (kby P1 Q1) 16 = txX s := vwd_congr _ _ 16 (fun j hj => f1 j hj)
    have v2 : vwd (kby P2 Q2) 16 = txY s := vwd_congr _ _ 16 (fun j hj => f2 j hj)
    have hX : txX s < M := vwd16_lt _
    have hY : txY s < M := vwd16_lt _
    have q1 := (fun w => run_equal_key (kw_lt _ (dgt_lt (txX s))).1 (kw_lt _ (dgt_lt (txX s))).2 (by rw [H1.out.1]; exact hk1.1 : P1 < M) (by rw [H1.out.2]; exact hk1.2 : Q1 < M) w)
    have q2 := (fun w => run_equal_key (kw_lt _ (dgt_lt (txY s))).1 (kw_lt _ (dgt_lt (txY s))).2 (by rw [H2.out.1]; exact hk2.1 : P2 < M) (by rw [H2.out.2]; exact hk2.2 : Q2 < M) w)
    have s1e : same (kwX (dgt (txX s))) (kwY (dgt (txX s))) P1 Q1 = hexA s := by
      have h := same_digits (fun j => sb s j) (fun j => sb_lt s j)
      have e1 : kwX (fun j => sb s j) = P1 ∧ kwY (fun j => sb s j) = Q1 := by
        refine kby_ext (kw_lt _ (sb_lt s)).1 (kw_lt _ (sb_lt s)).2 (by rw [H1.out.1]; exact hk1.1) (by rw [H1.out.2]; exact hk1.2) (fun j hj => ?_)
        rw [f1 j hj, kw_byte _ (fun j => sb_lt s j) j hj]
      rw [e1.1, e1.2] at h; exact h
    have s2e : same (kwX (dgt (txY s))) (kwY (dgt (txY s))) P2 Q2 = hexB s := by
      have h := same_digits (fun j => sb s (16 + j)) (fun j => sb_lt s _)
      have e1 : kwX (fun j => sb s (16 + j)) = P2 ∧ kwY (fun j => sb s (16 + j)) = Q2 := by
        refine kby_ext (kw_lt _ (fun j => sb_lt s (16 + j))).1 (kw_lt _ (fun j => sb_lt s (16 + j))).2 (by rw [H2.out.1]; exact hk2.1) (by rw [H2.out.2]; exact hk2.2) (fun j hj => ?_)
        rw [f2 j hj, kw_byte _ (fun j => sb_lt s (16 + j)) j hj]
      rw [e1.1, e1.2] at h; exact h
    rw [s1e] at q1
    rw [s2e] at q2
    have HV1 := Lib.hid (fun w => value_any P1 Q1 w)
    have HV2 := Lib.hid (fun w => value_any P2 Q2 w)
    rw [v1] at HV1
    rw [v2] at HV2
    have HD1 := Lib.hid (fun w => digits_any (txX s) w hX)
    have HD2 := Lib.hid (fun w => digits_any (txY s) w hY)
    have HT : Hid ((wz.alloc (.cells z16 23)).there wz.heap.size 0 16) := Lib.hid (Row.zeros wz 23).there
    have HC := Lib.hid hC'
    have hzz : W0.heap.size = wz.heap.size + 1 := by rw [HW.out]; simp
    have HBz : Hid (Below wz.heap.size wz w) := Lib.hid (((Below.refl _ _).alloc (Nat.le_refl _) _).trans (hC'.bel.mono (by omega)))
    have HSz : Hid (wz.heap.size < w.heap.size) := Lib.hid (by have := hC'.size; omega)
    have HTw : Hid (w.there r 0 16) := Lib.hid (by rw [HR.out]; exact there_below HT.out hC'.bel (by omega))
    have HXY := Lib.hid (And.intro hX hY)
    clear f1 f2 hk1 hk2 v1 v2 hX hY s1e s2e hC' hzz
    have HQ1 := Lib.hid q1
    have HQ2 := Lib.hid q2
    clear q1 q2
    go_wp2_with fail
    refine wp_region_inv (by kernel_rfl) (by kernel_rfl) (fun l a w' => a = { tmps := #[.string s, undef, .pointer (some ⟨r, 0, none⟩), .int .i64 0, .pointer (some ⟨b4, 0, none⟩), .pointer (some ⟨b5, 0, none⟩), bif l 4 then Value.int .u64 (txX s : Int) else undef, bif l 5 then Value.int .u64 (txY s : Int) else undef, .string s, .int .i64 32, .bool false, undef, t12, t13, t14, t15, t16, t17, t18, t19, t20, t21, bif l 0 then Value.agg (kl P1 Q1).toArray else undef, bif l 1 then Value.int .u64 (txX s : Int) else undef, bif l 2 then Value.agg (kl P2 Q2).toArray else undef, bif l 3 then Value.int .u64 (txY s : Int) else undef, undef, undef, undef, undef, undef, undef, undef, undef, undef, undef, undef, undef, undef, undef], defers := [] } ∧ Below w.heap.size w w') ⟨rfl, (Below.refl _ _).drew⟩ ?_ ?_
    · rintro l a w' i ⟨rfl, hB⟩ hi hli hpre
      have hi2 : i < 6 := hi
      have hcase : i = 0 ∨ i = 1 ∨ i = 2 ∨ i = 3 ∨ i = 4 ∨ i = 5 := by omega
      clear hi hi2
      rcases hcase with rfl | rfl | rfl | rfl | rfl | rfl
      · -- 0: Op.load 23 (Operand.tmp 4)
        refine wpOp_step rfl (fun K hK => ?_)
        clear hpre
        rw [if_pos (by rfl)]
        refine wp_load_mid 23 _ rfl _ 0 rfl (kl P1 Q1) _ ((HC.out.k4).below hB (HC.out.k4).lt) Try.underlying23 rfl (by rw [kl_len]; exact size23) ?_
        exact hK _ _ ⟨by simp [upd, Act.put], hB⟩
      · -- 1: Op.call { callee := Callee.value (Operand.func 48), args := 
        have p0 : l 0 = true := hpre _ rfl ⟨0, .data⟩ (by simp) rfl
        refine wpOp_step rfl (fun K hK => ?_)
        simp only [p0, cond_true]
        clear hpre
        rw [if_pos (by rfl)]
        go_simp
        refine (HV1.out _).mono ?_
        rintro e w5 ⟨rfl, hb5⟩
        exact hK _ _ ⟨by simp [upd, Act.put, p0], hB.trans (hb5.mono hB.size)⟩
      · -- 2: Op.load 23 (Operand.tmp 5)
        refine wpOp_step rfl (fun K hK => ?_)
        clear hpre
        rw [if_pos (by rfl)]
        refine wp_load_mid 23 _ rfl _ 0 rfl (kl P2 Q2) _ ((HC.out.k5).below hB (HC.out.k5).lt) Try.underlying23 rfl (by rw [kl_len]; exact size23) ?_
        exact hK _ _ ⟨by simp [upd, Act.put], hB⟩
      · -- 3: Op.call { callee := Callee.value (Operand.func 48), args := 
        have p2 : l 2 = true := hpre _ rfl ⟨2, .data⟩ (by simp) rfl
        have p1 : l 1 = true := hpre _ rfl ⟨1, .chain⟩ (by simp) rfl
        refine wpOp_step rfl (fun K hK => ?_)
        simp only [p2, p1, cond_true]
        clear hpre
        rw [if_pos (by rfl)]
        go_simp
        refine (HV2.out _).mono ?_
        rintro e w5 ⟨rfl, hb5⟩
        exact hK _ _ ⟨by simp [upd, Act.put, p2, p1], hB.trans (hb5.mono hB.size)⟩
      · -- 4: Op.assign (Operand.tmp 23)
        have p1 : l 1 = true := hpre _ rfl ⟨1, .data⟩ (by simp) rfl
        have p3 : l 3 = true := hpre _ rfl ⟨3, .chain⟩ (by simp) rfl
        have p0 : l 0 = true := hpre _ rfl ⟨0, .phase⟩ (by simp) rfl
        refine wpOp_step rfl (fun K hK => ?_)
        simp only [p1, p3, p0, cond_true]
        clear hpre
        rw [if_pos (by rfl)]
        go_simp
        exact hK _ _ ⟨by simp [upd, Act.put, p1, p3, p0], hB⟩
      · -- 5: Op.assign (Operand.tmp 25)
        have p3 : l 3 = true := hpre _ rfl ⟨3, .data⟩ (by simp) rfl
        have p4 : l 4 = true := hpre _ rfl ⟨4, .chain⟩ (by simp) rfl
        have p0 : l 0 = true := hpre _ rfl ⟨0, .phase⟩ (by simp) rfl
        have p1 : l 1 = true := hpre _ rfl ⟨1, .phase⟩ (by simp) rfl
        have p2 : l 2 = true := hpre _ rfl ⟨2, .phase⟩ (by simp) rfl
        refine wpOp_step rfl (fun K hK => ?_)
        simp only [p3, p4, p0, p1, p2, cond_true]
        clear hpre
        rw [if_pos (by rfl)]
        go_simp
        exact hK _ _ ⟨by simp [upd, Act.put, p3, p4, p0, p1, p2], hB⟩
    · rintro l a w' hall ⟨rfl, hBz⟩
      simp only [hall 0 (by decide), hall 1 (by decide), hall 2 (by decide), hall 3 (by decide), hall 4 (by decide), hall 5 (by decide), cond_true]
      clear hall
      obtain ⟨w1, hw1⟩ : ∃ w1, w1 = w' := ⟨_, rfl⟩
      rw [← hw1] at hBz ⊢
      clear hw1
      have HK4 := Lib.hid (HC.out.k4.keep hBz)
      have HK5 := Lib.hid (HC.out.k5.keep hBz)
      have HT1 := Lib.hid (there_below HTw.out hBz (by rw [HR.out]; exact HSz.out))
      have HB1 := Lib.hid (HBz.out.trans (hBz.mono (Nat.le_of_lt HSz.out)))
      have HSw : Hid (w.heap.size ≤ w1.heap.size) := Lib.hid hBz.size
      have HS1 : Hid (wz.heap.size < w1.heap.size) := Lib.hid (Nat.lt_of_lt_of_le HSz.out hBz.size)
      clear hBz
      go_wp2_with fail
      rcases Bool.eq_false_or_eq_true (hexA s) with hA | hA
      · rcases Bool.eq_false_or_eq_true (hexB s) with hB' | hB'
        · rw [hA] at HQ1
          rw [hB'] at HQ2
          have HA := Lib.hid hA
          have HBB := Lib.hid hB'
          clear hA hB'
          refine wp_region_inv (by kernel_rfl) (by kernel_rfl) (fun l a w' => a = { tmps := #[.string s, undef, .pointer (some ⟨r, 0, none⟩), .int .i64 0, .pointer (some ⟨b4, 0, none⟩), .pointer (some ⟨b5, 0, none⟩), Value.int .u64 (txX s : Int), Value.int .u64 (txY s : Int), .string s, .int .i64 32, .bool false, undef, t12, t13, t14, t15, t16, t17, t18, t19, t20, t21, Value.agg (kl P1 Q1).toArray, Value.int .u64 (txX s : Int), Value.agg (kl P2 Q2).toArray, Value.int .u64 (txY s : Int), bif l 0 then Value.int .u64 (txX s : Int) else undef, bif l 1 then Value.agg (kl (kwX (dgt (txX s))) (kwY (dgt (txX s)))).toArray else undef, bif l 2 then Value.agg (kl P1 Q1).toArray else undef, bif l 3 then Value.bool false else undef, bif l 4 then Value.bool false else undef, bif l 5 then Value.int .u64 (txY s : Int) else undef, bif l 6 then Value.agg (kl (kwX (dgt (txY s))) (kwY (dgt (txY s)))).toArray else undef, bif l 7 then Value.agg (kl P2 Q2).toArray else undef, bif l 8 then Value.bool false else undef, bif l 9 then Value.bool false else undef, undef, undef, undef, undef], defers := [] } ∧ Below w1.heap.size w1 w') ⟨rfl, (Below.refl _ _).drew⟩ ?_ ?_
          · rintro l a w' i ⟨rfl, hB⟩ hi hli hpre
            have hi2 : i < 10 := hi
            have hcase : i = 0 ∨ i = 1 ∨ i = 2 ∨ i = 3 ∨ i = 4 ∨ i = 5 ∨ i = 6 ∨ i = 7 ∨ i = 8 ∨ i = 9 := by omega
            clear hi hi2
            rcases hcase with rfl | rfl | rfl | rfl | rfl | rfl | rfl | rfl | rfl | rfl
            · -- 0: Op.move (Operand.tmp 6)
              refine wpOp_step rfl (fun K hK => ?_)
              clear hpre
              rw [if_pos (by rfl)]
              go_simp
              exact hK _ _ ⟨by simp [upd, Act.put], hB⟩
            · -- 1: Op.call { callee := Callee.value (Operand.func 49), args := 
              have p0 : l 0 = true := hpre _ rfl ⟨0, .data⟩ (by simp) rfl
              refine wpOp_step rfl (fun K hK => ?_)
              simp only [p0, cond_true]
              clear hpre
              rw [if_pos (by rfl)]
              go_simp
              refine (HD1.out _).mono ?_
              rintro e w5 ⟨rfl, hb5⟩
              exact hK _ _ ⟨by simp [upd, Act.put, p0], hB.trans (hb5.mono hB.size)⟩
            · -- 2: Op.load 23 (Operand.tmp 4)
              refine wpOp_step rfl (fun K hK => ?_)
              clear hpre
              rw [if_pos (by rfl)]
              refine wp_load_mid 23 _ rfl _ 0 rfl (kl P1 Q1) _ ((HK4.out).below hB (HK4.out).lt) Try.underlying23 rfl (by rw [kl_len]; exact size23) ?_
              exact hK _ _ ⟨by simp [upd, Act.put], hB⟩
            · -- 3: Op.binOp BinOp.neq 23 (Operand.tmp 27) (Operand.tmp 28) 23
              have p1 : l 1 = true := hpre _ rfl ⟨1, .data⟩ (by simp) rfl
              have p2 : l 2 = true := hpre _ rfl ⟨2, .data⟩ (by simp) rfl
              refine wpOp_step rfl (fun K hK => ?_)
              simp only [p1, p2, cond_true]
              clear hpre
              rw [if_pos (by rfl)]
              have q1 := HQ1.out
              go_simp
              exact hK _ _ ⟨by simp [upd, Act.put, p1, p2], hB⟩
            · -- 4: Op.move (Operand.tmp 29)
              have p3 : l 3 = true := hpre _ rfl ⟨3, .data⟩ (by simp) rfl
              have p1 : l 1 = true := hpre _ rfl ⟨1, .chain⟩ (by simp) rfl
              refine wpOp_step rfl (fun K hK => ?_)
              simp only [p3, p1, cond_true]
              clear hpre
              rw [if_pos (by rfl)]
              go_simp
              exact hK _ _ ⟨by simp [upd, Act.put, p3, p1], hB⟩
            · -- 5: Op.move (Operand.tmp 7)
              have p4 : l 4 = true := hpre _ rfl ⟨4, .guard⟩ (by simp) rfl
              refine wpOp_step rfl (fun K hK => ?_)
              simp only [p4, cond_true]
              clear hpre
              rw [if_pos (by rfl)]
              go_simp
              exact hK _ _ ⟨by simp [upd, Act.put, p4], hB⟩
            · -- 6: Op.call { callee := Callee.value (Operand.func 49), args := 
              have p5 : l 5 = true := hpre _ rfl ⟨5, .data⟩ (by simp) rfl
              have p4 : l 4 = true := hpre _ rfl ⟨4, .chain⟩ (by simp) rfl
              refine wpOp_step rfl (fun K hK => ?_)
              simp only [p5, p4, cond_true]
              clear hpre
              rw [if_pos (by rfl)]
              go_simp
              refine (HD2.out _).mono ?_
              rintro e w5 ⟨rfl, hb5⟩
              exact hK _ _ ⟨by simp [upd, Act.put, p5, p4], hB.trans (hb5.mono hB.size)⟩
            · -- 7: Op.load 23 (Operand.tmp 5)
              have p4 : l 4 = true := hpre _ rfl ⟨4, .guard⟩ (by simp) rfl
              refine wpOp_step rfl (fun K hK => ?_)
              simp only [p4, cond_true]
              clear hpre
              rw [if_pos (by rfl)]
              refine wp_load_mid 23 _ rfl _ 0 rfl (kl P2 Q2) _ ((HK5.out).below hB (HK5.out).lt) Try.underlying23 rfl (by rw [kl_len]; exact size23) ?_
              exact hK _ _ ⟨by simp [upd, Act.put, p4], hB⟩
            · -- 8: Op.binOp BinOp.neq 23 (Operand.tmp 32) (Operand.tmp 33) 23
              have p6 : l 6 = true := hpre _ rfl ⟨6, .data⟩ (by simp) rfl
              have p7 : l 7 = true := hpre _ rfl ⟨7, .data⟩ (by simp) rfl
              have p4 : l 4 = true := hpre _ rfl ⟨4, .guard⟩ (by simp) rfl
              refine wpOp_step rfl (fun K hK => ?_)
              simp only [p6, p7, p4, cond_true]
              clear hpre
              rw [if_pos (by rfl)]
              have q2 := HQ2.out
              go_simp
              exact hK _ _ ⟨by simp [upd, Act.put, p6, p7, p4], hB⟩
            · -- 9: Op.pick (Operand.tmp 30) (Operand.const (Value.bool true)) (
              have p4 : l 4 = true := hpre _ rfl ⟨4, .data⟩ (by simp) rfl
              have p8 : l 8 = true := hpre _ rfl ⟨8, .data⟩ (by simp) rfl
              refine wpOp_step rfl (fun K hK => ?_)
              simp only [p4, p8, cond_true]
              clear hpre
              rw [if_pos (by rfl)]
              go_simp
              exact hK _ _ ⟨by simp [upd, Act.put, p4, p8], hB⟩
          · rintro l a w1' hall ⟨rfl, hBz⟩
            simp only [hall 0 (by decide), hall 1 (by decide), hall 2 (by decide), hall 3 (by decide), hall 4 (by decide), hall 5 (by decide), hall 6 (by decide), hall 7 (by decide), hall 8 (by decide), hall 9 (by decide), cond_true]
            clear hall
            obtain ⟨w2, hw2⟩ : ∃ w2, w2 = w1' := ⟨_, rfl⟩
            rw [← hw2] at hBz ⊢
            clear hw2
            have HT2 := Lib.hid (there_below HT1.out hBz (by rw [HR.out]; exact HS1.out))
            have HB2 := Lib.hid (HB1.out.trans (hBz.mono (Nat.le_of_lt HS1.out)))
            have HSw2 : Hid (w1.heap.size ≤ w2.heap.size) := Lib.hid hBz.size
            clear hBz
            have HJ := Lib.hid (fun w => join_any (txX s) (txY s) w)
            go_wp2_with fail
            refine (HJ.out _).mono ?_
            rintro e w3 ⟨rfl, hb3⟩
            have hlt : wz.heap.size < w2.heap.size := Nat.lt_of_lt_of_le HSz.out (Nat.le_trans HSw.out HSw2.out)
            have HT3 := Lib.hid (there_below HT2.out hb3 (by rw [HR.out]; exact hlt))
            have HB3 := Lib.hid (HB2.out.trans (hb3.mono (Nat.le_of_lt hlt)))
            clear hb3 hlt
            go_wp2_with (refine wpList_store_key rfl _ _ rfl r (txX s) (txY s) rfl rfl HT3.out ?_)
            refine bodyPost_key2 rfl r _ _ rfl (KeyAt.stored HT3.out _ _) rfl ⟨⟨txX s, txY s, 0, rfl, ?_⟩, below_setCells _ _ _ _ HB3.out (by rw [HR.out]; exact Nat.le_refl _)⟩
            unfold Parses; rw [HA.out, HBB.out]; simp
        · rw [hA] at HQ1
          rw [hB'] at HQ2
          have HA := Lib.hid hA
          have HBB := Lib.hid hB'
          clear hA hB'
          refine wp_region_inv (by kernel_rfl) (by kernel_rfl) (fun l a w' => a = { tmps := #[.string s, undef, .pointer (some ⟨r, 0, none⟩), .int .i64 0, .pointer (some ⟨b4, 0, none⟩), .pointer (some ⟨b5, 0, none⟩), Value.int .u64 (txX s : Int), Value.int .u64 (txY s : Int), .string s, .int .i64 32, .bool false, undef, t12, t13, t14, t15, t16, t17, t18, t19, t20, t21, Value.agg (kl P1 Q1).toArray, Value.int .u64 (txX s : Int), Value.agg (kl P2 Q2).toArray, Value.int .u64 (txY s : Int), bif l 0 then Value.int .u64 (txX s : Int) else undef, bif l 1 then Value.agg (kl (kwX (dgt (txX s))) (kwY (dgt (txX s)))).toArray else undef, bif l 2 then Value.agg (kl P1 Q1).toArray else undef, bif l 3 then Value.bool false else undef, bif l 4 then Value.bool false else undef, bif l 5 then Value.int .u64 (txY s : Int) else undef, bif l 6 then Value.agg (kl (kwX (dgt (txY s))) (kwY (dgt (txY s)))).toArray else undef, bif l 7 then Value.agg (kl P2 Q2).toArray else undef, bif l 8 then Value.bool true else undef, bif l 9 then Value.bool true else undef, undef, undef, undef, undef], defers := [] } ∧ Below w1.heap.size w1 w') ⟨rfl, (Below.refl _ _).drew⟩ ?_ ?_
          · rintro l a w' i ⟨rfl, hB⟩ hi hli hpre
            have hi2 : i < 10 := hi
            have hcase : i = 0 ∨ i = 1 ∨ i = 2 ∨ i = 3 ∨ i = 4 ∨ i = 5 ∨ i = 6 ∨ i = 7 ∨ i = 8 ∨ i = 9 := by omega
            clear hi hi2
            rcases hcase with rfl | rfl | rfl | rfl | rfl | rfl | rfl | rfl | rfl | rfl
            · -- 0: Op.move (Operand.tmp 6)
              refine wpOp_step rfl (fun K hK => ?_)
              clear hpre
              rw [if_pos (by rfl)]
              go_simp
              exact hK _ _ ⟨by simp [upd, Act.put], hB⟩
            · -- 1: Op.call { callee := Callee.value (Operand.func 49), args := 
              have p0 : l 0 = true := hpre _ rfl ⟨0, .data⟩ (by simp) rfl
              refine wpOp_step rfl (fun K hK => ?_)
              simp only [p0, cond_true]
              clear hpre
              rw [if_pos (by rfl)]
              go_simp
              refine (HD1.out _).mono ?_
              rintro e w5 ⟨rfl, hb5⟩
              exact hK _ _ ⟨by simp [upd, Act.put, p0], hB.trans (hb5.mono hB.size)⟩
            · -- 2: Op.load 23 (Operand.tmp 4)
              refine wpOp_step rfl (fun K hK => ?_)
              clear hpre
              rw [if_pos (by rfl)]
              refine wp_load_mid 23 _ rfl _ 0 rfl (kl P1 Q1) _ ((HK4.out).below hB (HK4.out).lt) Try.underlying23 rfl (by rw [kl_len]; exact size23) ?_
              exact hK _ _ ⟨by simp [upd, Act.put], hB⟩
            · -- 3: Op.binOp BinOp.neq 23 (Operand.tmp 27) (Operand.tmp 28) 23
              have p1 : l 1 = true := hpre _ rfl ⟨1, .data⟩ (by simp) rfl
              have p2 : l 2 = true := hpre _ rfl ⟨2, .data⟩ (by simp) rfl
              refine wpOp_step rfl (fun K hK => ?_)
              simp only [p1, p2, cond_true]
              clear hpre
              rw [if_pos (by rfl)]
              have q1 := HQ1.out
              go_simp
              exact hK _ _ ⟨by simp [upd, Act.put, p1, p2], hB⟩
            · -- 4: Op.move (Operand.tmp 29)
              have p3 : l 3 = true := hpre _ rfl ⟨3, .data⟩ (by simp) rfl
              have p1 : l 1 = true := hpre _ rfl ⟨1, .chain⟩ (by simp) rfl
              refine wpOp_step rfl (fun K hK => ?_)
              simp only [p3, p1, cond_true]
              clear hpre
              rw [if_pos (by rfl)]
              go_simp
              exact hK _ _ ⟨by simp [upd, Act.put, p3, p1], hB⟩
            · -- 5: Op.move (Operand.tmp 7)
              have p4 : l 4 = true := hpre _ rfl ⟨4, .guard⟩ (by simp) rfl
              refine wpOp_step rfl (fun K hK => ?_)
              simp only [p4, cond_true]
              clear hpre
              rw [if_pos (by rfl)]
              go_simp
              exact hK _ _ ⟨by simp [upd, Act.put, p4], hB⟩
            · -- 6: Op.call { callee := Callee.value (Operand.func 49), args := 
              have p5 : l 5 = true := hpre _ rfl ⟨5, .data⟩ (by simp) rfl
              have p4 : l 4 = true := hpre _ rfl ⟨4, .chain⟩ (by simp) rfl
              refine wpOp_step rfl (fun K hK => ?_)
              simp only [p5, p4, cond_true]
              clear hpre
              rw [if_pos (by rfl)]
              go_simp
              refine (HD2.out _).mono ?_
              rintro e w5 ⟨rfl, hb5⟩
              exact hK _ _ ⟨by simp [upd, Act.put, p5, p4], hB.trans (hb5.mono hB.size)⟩
            · -- 7: Op.load 23 (Operand.tmp 5)
              have p4 : l 4 = true := hpre _ rfl ⟨4, .guard⟩ (by simp) rfl
              refine wpOp_step rfl (fun K hK => ?_)
              simp only [p4, cond_true]
              clear hpre
              rw [if_pos (by rfl)]
              refine wp_load_mid 23 _ rfl _ 0 rfl (kl P2 Q2) _ ((HK5.out).below hB (HK5.out).lt) Try.underlying23 rfl (by rw [kl_len]; exact size23) ?_
              exact hK _ _ ⟨by simp [upd, Act.put, p4], hB⟩
            · -- 8: Op.binOp BinOp.neq 23 (Operand.tmp 32) (Operand.tmp 33) 23
              have p6 : l 6 = true := hpre _ rfl ⟨6, .data⟩ (by simp) rfl
              have p7 : l 7 = true := hpre _ rfl ⟨7, .data⟩ (by simp) rfl
              have p4 : l 4 = true := hpre _ rfl ⟨4, .guard⟩ (by simp) rfl
              refine wpOp_step rfl (fun K hK => ?_)
              simp only [p6, p7, p4, cond_true]
              clear hpre
              rw [if_pos (by rfl)]
              have q2 := HQ2.out
              go_simp
              exact hK _ _ ⟨by simp [upd, Act.put, p6, p7, p4], hB⟩
            · -- 9: Op.pick (Operand.tmp 30) (Operand.const (Value.bool true)) (
              have p4 : l 4 = true := hpre _ rfl ⟨4, .data⟩ (by simp) rfl
              have p8 : l 8 = true := hpre _ rfl ⟨8, .data⟩ (by simp) rfl
              refine wpOp_step rfl (fun K hK => ?_)
              simp only [p4, p8, cond_true]
              clear hpre
              rw [if_pos (by rfl)]
              go_simp
              exact hK _ _ ⟨by simp [upd, Act.put, p4, p8], hB⟩
          · rintro l a w1' hall ⟨rfl, hBz⟩
            simp only [hall 0 (by decide), hall 1 (by decide), hall 2 (by decide), hall 3 (by decide), hall 4 (by decide), hall 5 (by decide), hall 6 (by decide), hall 7 (by decide), hall 8 (by decide), hall 9 (by decide), cond_true]
            clear hall
            obtain ⟨w2, hw2⟩ : ∃ w2, w2 = w1' := ⟨_, rfl⟩
            rw [← hw2] at hBz ⊢
            clear hw2
            have HT2 := Lib.hid (there_below HT1.out hBz (by rw [HR.out]; exact HS1.out))
            have HB2 := Lib.hid (HB1.out.trans (hBz.mono (Nat.le_of_lt HS1.out)))
            have HSw2 : Hid (w1.heap.size ≤ w2.heap.size) := Lib.hid hBz.size
            clear hBz
            go_wp2_with (refine wpList_store_key rfl _ _ rfl r 0 0 rfl (by rw [kl_zero]; rfl) HT2.out ?_)
            refine bodyPost_key2 rfl r 0 0 rfl (KeyAt.stored HT2.out 0 0) rfl ⟨⟨0, 0, 12, rfl, ?_⟩, below_setCells _ _ _ _ HB2.out (by rw [HR.out]; exact Nat.le_refl _)⟩
            unfold Parses; rw [HA.out, HBB.out]; simp
      · rw [hA] at HQ1
        have HA := Lib.hid hA
        clear hA
        refine wp_region_inv (by kernel_rfl) (by kernel_rfl) (fun l a w' => a = { tmps := #[.string s, undef, .pointer (some ⟨r, 0, none⟩), .int .i64 0, .pointer (some ⟨b4, 0, none⟩), .pointer (some ⟨b5, 0, none⟩), Value.int .u64 (txX s : Int), Value.int .u64 (txY s : Int), .string s, .int .i64 32, .bool false, undef, t12, t13, t14, t15, t16, t17, t18, t19, t20, t21, Value.agg (kl P1 Q1).toArray, Value.int .u64 (txX s : Int), Value.agg (kl P2 Q2).toArray, Value.int .u64 (txY s : Int), bif l 0 then Value.int .u64 (txX s : Int) else undef, bif l 1 then Value.agg (kl (kwX (dgt (txX s))) (kwY (dgt (txX s)))).toArray else undef, bif l 2 then Value.agg (kl P1 Q1).toArray else undef, bif l 3 then Value.bool true else undef, bif l 4 then Value.bool true else undef, bif l 5 then undef else undef, bif l 6 then undef else undef, bif l 7 then undef else undef, bif l 8 then undef else undef, bif l 9 then Value.bool true else undef, undef, undef, undef, undef], defers := [] } ∧ Below w1.heap.size w1 w') ⟨rfl, (Below.refl _ _).drew⟩ ?_ ?_
        · rintro l a w' i ⟨rfl, hB⟩ hi hli hpre
          have hi2 : i < 10 := hi
          have hcase : i = 0 ∨ i = 1 ∨ i = 2 ∨ i = 3 ∨ i = 4 ∨ i = 5 ∨ i = 6 ∨ i = 7 ∨ i = 8 ∨ i = 9 := by omega
          clear hi hi2
          rcases hcase with rfl | rfl | rfl | rfl | rfl | rfl | rfl | rfl | rfl | rfl
          · -- 0: Op.move (Operand.tmp 6)
            refine wpOp_step rfl (fun K hK => ?_)
            clear hpre
            rw [if_pos (by rfl)]
            go_simp
            exact hK _ _ ⟨by simp [upd, Act.put], hB⟩
          · -- 1: Op.call { callee := Callee.value (Operand.func 49), args := 
            have p0 : l 0 = true := hpre _ rfl ⟨0, .data⟩ (by simp) rfl
            refine wpOp_step rfl (fun K hK => ?_)
            simp only [p0, cond_true]
            clear hpre
            rw [if_pos (by rfl)]
            go_simp
            refine (HD1.out _).mono ?_
            rintro e w5 ⟨rfl, hb5⟩
            exact hK _ _ ⟨by simp [upd, Act.put, p0], hB.trans (hb5.mono hB.size)⟩
          · -- 2: Op.load 23 (Operand.tmp 4)
            refine wpOp_step rfl (fun K hK => ?_)
            clear hpre
            rw [if_pos (by rfl)]
            refine wp_load_mid 23 _ rfl _ 0 rfl (kl P1 Q1) _ ((HK4.out).below hB (HK4.out).lt) Try.underlying23 rfl (by rw [kl_len]; exact size23) ?_
            exact hK _ _ ⟨by simp [upd, Act.put], hB⟩
          · -- 3: Op.binOp BinOp.neq 23 (Operand.tmp 27) (Operand.tmp 28) 23
            have p1 : l 1 = true := hpre _ rfl ⟨1, .data⟩ (by simp) rfl
            have p2 : l 2 = true := hpre _ rfl ⟨2, .data⟩ (by simp) rfl
            refine wpOp_step rfl (fun K hK => ?_)
            simp only [p1, p2, cond_true]
            clear hpre
            rw [if_pos (by rfl)]
            have q1 := HQ1.out
            go_simp
            exact hK _ _ ⟨by simp [upd, Act.put, p1, p2], hB⟩
          · -- 4: Op.move (Operand.tmp 29)
            have p3 : l 3 = true := hpre _ rfl ⟨3, .data⟩ (by simp) rfl
            have p1 : l 1 = true := hpre _ rfl ⟨1, .chain⟩ (by simp) rfl
            refine wpOp_step rfl (fun K hK => ?_)
            simp only [p3, p1, cond_true]
            clear hpre
            rw [if_pos (by rfl)]
            go_simp
            exact hK _ _ ⟨by simp [upd, Act.put, p3, p1], hB⟩
          · -- 5: Op.move (Operand.tmp 7)
            have p4 : l 4 = true := hpre _ rfl ⟨4, .guard⟩ (by simp) rfl
            refine wpOp_step rfl (fun K hK => ?_)
            simp only [p4, cond_true]
            clear hpre
            rw [if_neg (by exact Bool.false_ne_true)]
            exact hK _ _ ⟨by simp [upd, Act.put, p4], hB⟩
          · -- 6: Op.call { callee := Callee.value (Operand.func 49), args := 
            have p5 : l 5 = true := hpre _ rfl ⟨5, .data⟩ (by simp) rfl
            have p4 : l 4 = true := hpre _ rfl ⟨4, .chain⟩ (by simp) rfl
            refine wpOp_step rfl (fun K hK => ?_)
            simp only [p5, p4, cond_true]
            clear hpre
            rw [if_neg (by exact Bool.false_ne_true)]
            exact hK _ _ ⟨by simp [upd, Act.put, p5, p4], hB⟩
          · -- 7: Op.load 23 (Operand.tmp 5)
            have p4 : l 4 = true := hpre _ rfl ⟨4, .guard⟩ (by simp) rfl
            refine wpOp_step rfl (fun K hK => ?_)
            simp only [p4, cond_true]
            clear hpre
            rw [if_neg (by exact Bool.false_ne_true)]
            exact hK _ _ ⟨by simp [upd, Act.put, p4], hB⟩
          · -- 8: Op.binOp BinOp.neq 23 (Operand.tmp 32) (Operand.tmp 33) 23
            have p6 : l 6 = true := hpre _ rfl ⟨6, .data⟩ (by simp) rfl
            have p7 : l 7 = true := hpre _ rfl ⟨7, .data⟩ (by simp) rfl
            have p4 : l 4 = true := hpre _ rfl ⟨4, .guard⟩ (by simp) rfl
            refine wpOp_step rfl (fun K hK => ?_)
            simp only [p6, p7, p4, cond_true]
            clear hpre
            rw [if_neg (by exact Bool.false_ne_true)]
            exact hK _ _ ⟨by simp [upd, Act.put, p6, p7, p4], hB⟩
          · -- 9: Op.pick (Operand.tmp 30) (Operand.const (Value.bool true)) (
            have p4 : l 4 = true := hpre _ rfl ⟨4, .data⟩ (by simp) rfl
            have p8 : l 8 = true := hpre _ rfl ⟨8, .data⟩ (by simp) rfl
            refine wpOp_step rfl (fun K hK => ?_)
            simp only [p4, p8, cond_true]
            clear hpre
            rw [if_pos (by rfl)]
            go_simp
            exact hK _ _ ⟨by simp [upd, Act.put, p4, p8], hB⟩
        · rintro l a w1' hall ⟨rfl, hBz⟩
          simp only [hall 0 (by decide), hall 1 (by decide), hall 2 (by decide), hall 3 (by decide), hall 4 (by decide), hall 5 (by decide), hall 6 (by decide), hall 7 (by decide), hall 8 (by decide), hall 9 (by decide), cond_true]
          clear hall
          obtain ⟨w2, hw2⟩ : ∃ w2, w2 = w1' := ⟨_, rfl⟩
          rw [← hw2] at hBz ⊢
          clear hw2
          have HT2 := Lib.hid (there_below HT1.out hBz (by rw [HR.out]; exact HS1.out))
          have HB2 := Lib.hid (HB1.out.trans (hBz.mono (Nat.le_of_lt HS1.out)))
          have HSw2 : Hid (w1.heap.size ≤ w2.heap.size) := Lib.hid hBz.size
          clear hBz
          go_wp2_with (refine wpList_store_key rfl _ _ rfl r 0 0 rfl (by rw [kl_zero]; rfl) HT2.out ?_)
          refine bodyPost_key2 rfl r 0 0 rfl (KeyAt.stored HT2.out 0 0) rfl ⟨⟨0, 0, 12, rfl, ?_⟩, below_setCells _ _ _ _ HB2.out (by rw [HR.out]; exact Nat.le_refl _)⟩
          unfold Parses; rw [HA.out]; simp

end Go.Proofs.Ytphhppdokdageaa
