/- The walk over CipherStreams. -/
import Derived.Test.YtphhppdokdageaaStrC
import Derived.Test.YtphhppdokdageaaRfS
import Derived.Test.YtphhppdokdageaaRfN
import Derived.Test.YtphhppdokdageaaLawB
namespace Go.Proofs.Ytphhppdokdageaa.cipherStreams
open Go.RowKit SP
set_option linter.unusedVariables false
set_option linter.unusedSimpArgs false

set_option maxRecDepth 100000 in
set_option maxHeartbeats 1000000 in
theorem walk_pos (X Y t : Nat) (hX : X < M) (hY : Y < M) (ht : t < M) (ad : Addr) (n : Nat) (c : Nat) (g : Nat → Nat) (w : World) (hb : Byt w (some ad) n c g) (hpos : 0 < n) (hn : n ≤ 16384) :
    Calls Try.prog 6 #[.agg (kl X Y).toArray, .int .u64 (t : Int), .slice (some ad) n c] w fun e w' => e = .returned (.bool true) ∧ Below w.heap.size w w' := by
  obtain ⟨A, hA⟩ : ∃ A : Option Addr, A = (some ad) := ⟨_, rfl⟩
  rw [← hA] at hb
  obtain ⟨i0, hi, hz0, hz1, hz2⟩ := info_parts info5
  have C1 := Lib.hid (fun (A : Option Addr) (c : Nat) (w : World) (h : Byt w A n c g) => stream_yes X Y t A n c g w hX hY ht h hn)
  have C2 := Lib.hid (fun (w : World) (h : Byt w A n c g) => refStream_yes X Y t A n c g w hX hY ht h hn)
  have HSl := Lib.hid (smb_lt X Y t hb.lt)
  obtain ⟨s, hs⟩ : ∃ s, s = smb X Y t g := ⟨_, rfl⟩
  unfold sml at C2
  rw [← hs] at C1 C2 HSl
  clear hs
  obtain ⟨N, hN⟩ : ∃ N, N = w.heap.size := ⟨_, rfl⟩
  obtain ⟨W2, hW2⟩ : ∃ W2, W2 = (w.alloc (.cells (kl X Y).toArray 23)).alloc (.cells #[] 5) := ⟨_, rfl⟩
  have HB2 : Hid (Below N w W2) := Lib.hid (by rw [hW2, hN]; exact ((Below.refl _ _).alloc (Nat.le_refl _) _).alloc (by simp) _)
  have HK2 : Hid (KeyAt W2 N X Y) := Lib.hid (by rw [hW2, hN]; exact (KeyAt.new w X Y 23).alloc _)
  have HY2 : Hid (Byt W2 A n c g) := Lib.hid (hb.keep (by rw [← hN]; exact HB2.out))
  have HO2 : Hid (W2.ownsRow (N + 1) 5 1 (.slice (some ⟨N + 1, 0, none⟩) 0 0) 0 []) := Lib.hid (by
    rw [hW2, hN]
    exact ⟨rfl, .inr ⟨w.heap.size + 1, 0, #[], rfl, Nat.le_refl _, by have h := heap_alloc_new (w.alloc (.cells (kl X Y).toArray 23)) (.cells #[] 5); rw [World.size_alloc] at h; exact h, Nat.le_refl _, by simp [maxLen], rfl, rfl⟩⟩)
  have HS3 : Hid (W2.heap.size = N + 2) := Lib.hid (by rw [hW2, hN]; simp)
  have HW := Lib.hid hW2
  have HN := Lib.hid hN
  have HYw := Lib.hid hb
  have HG := Lib.hid hb.lt
  have HA := Lib.hid hA
  rw [← hN]
  clear hW2 hN hX hY ht hb
  have hnw : ∀ j u, (bl ((List.range n).map g))[j]? = some u → W2.cell? (ad.add j) = some u := by
    intro j u hu
    have hj : j < n := by have := (List.getElem?_eq_some_iff.1 hu).1; simp [bl] at this; exact this
    obtain ⟨b, off, e, hc⟩ := HY2.out.at_ (by omega)
    rw [HA.out] at e
    injection e with e
    subst e
    rw [Addr.add_lit, hc j hj, ← hu]
    exact (bl_get _ j (g j) (by simp [List.getElem?_map, List.getElem?_range hj])).symm
  have hlen : (bl ((List.range n).map g)).length = n * 1 := by simp [bl]
  have hml : 0 + n ≤ maxLen := by unfold maxLen; omega
  have h47 : (0 + n) * 1 ≤ 140737488355328 := by omega
  have hbs : N + 1 ≤ W2.heap.size := by rw [HS3.out]; omega
  have ho := HO2.out
  clear hA
  rw [← HA.out]
  go_enter Try.func6, Try.ntmps6
  go_wp2_with (first
    | (at_builtin; rw [← HW.out, ← HN.out]; refine wpList_append_own _ rfl _ _ 26 rfl (N + 1) 5 i0 _ 1 1 Try.underlying26 hi hz0 hz1 hz2 rfl (by omega) _ 0 [] rfl ho ad n c (bl ((List.range n).map g)) (by rw [HA.out]; rfl) hlen hnw (bl_one _) hml h47 hbs ?_; intro v5 W6 hown6 hg6 _; obtain ⟨A1, c1, hv5, hyo⟩ := own_byt (show W6.ownsRow (N + 1) 5 1 v5 n (bl ((List.range n).map g)) by rw [Nat.zero_add, List.nil_append] at hown6; exact hown6) HG.out; subst hv5; have HYo := Lib.hid hyo; have b6 : Below (N + 1) W2 W6 := (Below.refl _ _).grown hg6 hbs (fun b hb => own_block ho hb.symm); have B6 := Lib.hid b6; have S6 : Hid (N + 1 ≤ W6.heap.size) := Lib.hid (Nat.le_trans hbs b6.size); have HK6 : Hid (KeyAt W6 N X Y) := Lib.hid (HK2.out.below b6 (by omega)); clear hyo b6 hg6 hown6)
    | (refine wpList_load_key rfl _ rfl N rfl X Y HK6.out ?_))
  clear ho hnw hlen hml h47
  refine (C1.out A1 c1 W6 HYo.out).mono ?_
  rintro e w7 ⟨v7, rfl, hb7, ho7⟩
  obtain ⟨xb, c7, rfl, hxb, hxl, hn7, hm7, hrow⟩ := own_rown ho7 hpos
  have B27 : Below (N + 1) W2 w7 := B6.out.trans (hb7.mono S6.out)
  have K7 : Hid (KeyAt w7 N X Y) := Lib.hid (HK2.out.below B27 (by omega))
  have Bw7 : Below N w w7 := HB2.out.trans (B27.mono (by omega))
  have Y7 : Hid (Byt w7 A n c g) := Lib.hid (HYw.out.keep (by rw [← HN.out]; exact Bw7))
  have S7 : Hid (N + 1 ≤ w7.heap.size) := Lib.hid (Nat.le_trans S6.out hb7.size)
  have B67 := Lib.hid hb7
  have HBw7 := Lib.hid Bw7
  clear hb7 B27 Bw7
  go_wp2_with (refine wpList_load_key rfl _ rfl N rfl X Y K7.out ?_)
  refine (C2.out w7 Y7.out).mono ?_
  rintro e w9 ⟨v9, rfl, hb9, ho9⟩
  obtain ⟨A9, c9, rfl, hy9⟩ := own_byt ho9 HSl.out
  have Bw9 := Lib.hid (HBw7.out.trans (hb9.mono (by have := S7.out; omega)))
  have B69 := Lib.hid (B67.out.trans (hb9.mono B67.out.size))
  have X9 := hrow.keep hb9
  have V1 := conv_byt (X9.byt HSl.out hn7 hm7)
  have V2 := conv_byt hy9
  obtain ⟨st, hst⟩ : ∃ st, st = bst n s := ⟨_, rfl⟩
  rw [← hst] at V1 V2
  have HX9 := Lib.hid X9
  have HXb := Lib.hid hxb
  clear hst hb9 X9 hxb hrow ho7 ho9
  go_wp2_with fail
  go_loopw [12] (fun i wr => ∃ (k : Nat) (f : Nat → Nat), k ≤ n ∧ i = .int .i64 (k : Int) ∧ Hid (Below W6.heap.size W6 wr) ∧ Hid (RowN wr xb n f ∧ ∀ i, f i < 256)) (fun i _ => n - (intOf i).toNat)
  case atStart => exact ⟨0, s, by omega, rfl, B69, Lib.hid ⟨HX9.out, HSl.out⟩⟩
  case round =>
    obtain ⟨k, f, hk, rfl, HBr, HI⟩ := hrel
    clear V1 V2
    by_cases hlt : k < n
    · have t1 : decide ((k : Int) < (n : Int)) = true := decide_eq_true (by omega)
      have t2 : decide (k < n) = true := decide_eq_true hlt
      have c1 := HI.out.1.cell k hlt
      have f1 := HI.out.1.fr k hlt
      have hx1 := xor8_int (f k) 1 (HI.out.2 k) (by omega)
      have l1 : (0 : Int) ≤ (k : Int) := by omega
      have l2 : (k : Int) < (n : Int) := by omega
      obtain ⟨fk, hfk⟩ : ∃ fk, fk = f k := ⟨_, rfl⟩
      have hd8 : fk ^^^ 1 < 256 := by rw [hfk]; exact xor_byte (HI.out.2 k) (by omega)
      rw [← hfk] at c1 hx1
      obtain ⟨d, hd⟩ : ∃ d, d = fk ^^^ 1 := ⟨_, rfl⟩
      rw [← hd] at hx1 hd8
      have hx2 : bits .xor .u8 (fk : Int) 1 = (d : Int) := hx1
      have HD := Lib.hid hd8
      clear hfk hd hd8
      go_wp2_with fail
      go_roundw
      case rel => exact ⟨k + 1, _, by omega, by go_num, Lib.hid (HBr.out.setCell (p := ⟨xb, k, none⟩) (by have := HXb.out; show W6.heap.size ≤ xb; omega) _), Lib.hid ⟨HI.out.1.set k d hlt, fun i => by split; exact HD.out; exact HI.out.2 i⟩⟩
      case measure => simp [intOf]; omega
    · obtain rfl : k = n := by omega
      have t1 : decide ((k : Int) < (k : Int)) = false := decide_eq_false (by omega)
      have Bwr : Below N w wr := HB2.out.trans ((B6.out.mono (by omega)).trans (HBr.out.mono (by have := S6.out; omega)))
      have Vo := conv_byt (HYo.out.keep HBr.out)
      have Vb := conv_byt (HYw.out.keep (by rw [← HN.out]; exact Bwr))
      obtain ⟨su, hsu⟩ : ∃ su, su = bst k g := ⟨_, rfl⟩
      rw [← hsu] at Vo Vb
      have HBwr := Lib.hid Bwr
      clear hsu Bwr
      go_wp2_with fail
      go_ret
      exact ⟨rfl, HBwr.out⟩

set_option maxRecDepth 100000 in
set_option maxHeartbeats 1000000 in
theorem walk_zs (X Y t : Nat) (hX : X < M) (hY : Y < M) (ht : t < M) (ad : Addr) (c : Nat) (g : Nat → Nat) (w : World) (hb : Byt w (some ad) 0 c g)  :
    Calls Try.prog 6 #[.agg (kl X Y).toArray, .int .u64 (t : Int), .slice (some ad) 0 c] w fun e w' => e = .returned (.bool true) ∧ Below w.heap.size w w' := by
  obtain ⟨n, hn0⟩ : ∃ n, n = 0 := ⟨0, rfl⟩
  have hn : n ≤ 16384 := by omega
  rw [← hn0] at hb ⊢
  obtain ⟨A, hA⟩ : ∃ A : Option Addr, A = (some ad) := ⟨_, rfl⟩
  rw [← hA] at hb
  obtain ⟨i0, hi, hz0, hz1, hz2⟩ := info_parts info5
  have C1 := Lib.hid (fun (A : Option Addr) (c : Nat) (w : World) (h : Byt w A n c g) => stream_byt X Y t A n c g w hX hY ht h hn)
  have C2 := Lib.hid (fun (w : World) (h : Byt w A n c g) => refStream_yes X Y t A n c g w hX hY ht h hn)
  have HSl := Lib.hid (smb_lt X Y t hb.lt)
  obtain ⟨s, hs⟩ : ∃ s, s = smb X Y t g := ⟨_, rfl⟩
  unfold sml at C2
  rw [← hs] at C1 C2 HSl
  clear hs
  obtain ⟨N, hN⟩ : ∃ N, N = w.heap.size := ⟨_, rfl⟩
  obtain ⟨W2, hW2⟩ : ∃ W2, W2 = (w.alloc (.cells (kl X Y).toArray 23)).alloc (.cells #[] 5) := ⟨_, rfl⟩
  have HB2 : Hid (Below N w W2) := Lib.hid (by rw [hW2, hN]; exact ((Below.refl _ _).alloc (Nat.le_refl _) _).alloc (by simp) _)
  have HK2 : Hid (KeyAt W2 N X Y) := Lib.hid (by rw [hW2, hN]; exact (KeyAt.new w X Y 23).alloc _)
  have HY2 : Hid (Byt W2 A n c g) := Lib.hid (hb.keep (by rw [← hN]; exact HB2.out))
  have HO2 : Hid (W2.ownsRow (N + 1) 5 1 (.slice (some ⟨N + 1, 0, none⟩) 0 0) 0 []) := Lib.hid (by
    rw [hW2, hN]
    exact ⟨rfl, .inr ⟨w.heap.size + 1, 0, #[], rfl, Nat.le_refl _, by have h := heap_alloc_new (w.alloc (.cells (kl X Y).toArray 23)) (.cells #[] 5); rw [World.size_alloc] at h; exact h, Nat.le_refl _, by simp [maxLen], rfl, rfl⟩⟩)
  have HS3 : Hid (W2.heap.size = N + 2) := Lib.hid (by rw [hW2, hN]; simp)
  have HW := Lib.hid hW2
  have HN := Lib.hid hN
  have HYw := Lib.hid hb
  have HG := Lib.hid hb.lt
  have HA := Lib.hid hA
  rw [← hN]
  clear hW2 hN hX hY ht hb
  have hnw : ∀ j u, (bl ((List.range n).map g))[j]? = some u → W2.cell? (ad.add j) = some u := by
    intro j u hu
    have hj : j < n := by have := (List.getElem?_eq_some_iff.1 hu).1; simp [bl] at this; exact this
    obtain ⟨b, off, e, hc⟩ := HY2.out.at_ (by omega)
    rw [HA.out] at e
    injection e with e
    subst e
    rw [Addr.add_lit, hc j hj, ← hu]
    exact (bl_get _ j (g j) (by simp [List.getElem?_map, List.getElem?_range hj])).symm
  have hlen : (bl ((List.range n).map g)).length = n * 1 := by simp [bl]
  have hml : 0 + n ≤ maxLen := by unfold maxLen; omega
  have h47 : (0 + n) * 1 ≤ 140737488355328 := by omega
  have hbs : N + 1 ≤ W2.heap.size := by rw [HS3.out]; omega
  have ho := HO2.out
  clear hA
  rw [← HA.out]
  go_enter Try.func6, Try.ntmps6
  go_wp2_with (first
    | (at_builtin; rw [← HW.out, ← HN.out]; refine wpList_append_own _ rfl _ _ 26 rfl (N + 1) 5 i0 _ 1 1 Try.underlying26 hi hz0 hz1 hz2 rfl (by omega) _ 0 [] rfl ho ad n c (bl ((List.range n).map g)) (by rw [HA.out]; rfl) hlen hnw (bl_one _) hml h47 hbs ?_; intro v5 W6 hown6 hg6 _; obtain ⟨A1, c1, hv5, hyo⟩ := own_byt (show W6.ownsRow (N + 1) 5 1 v5 n (bl ((List.range n).map g)) by rw [Nat.zero_add, List.nil_append] at hown6; exact hown6) HG.out; subst hv5; have HYo := Lib.hid hyo; have b6 : Below (N + 1) W2 W6 := (Below.refl _ _).grown hg6 hbs (fun b hb => own_block ho hb.symm); have B6 := Lib.hid b6; have S6 : Hid (N + 1 ≤ W6.heap.size) := Lib.hid (Nat.le_trans hbs b6.size); have HK6 : Hid (KeyAt W6 N X Y) := Lib.hid (HK2.out.below b6 (by omega)); clear hyo b6 hg6 hown6)
    | (refine wpList_load_key rfl _ rfl N rfl X Y HK6.out ?_))
  clear ho hnw hlen hml h47
  subst hn0
  refine (C1.out A1 c1 W6 HYo.out).mono ?_
  rintro e w7 ⟨A7, c7, rfl, hb7, hy7⟩
  have B27 : Below (N + 1) W2 w7 := B6.out.trans (hb7.mono S6.out)
  have K7 : Hid (KeyAt w7 N X Y) := Lib.hid (HK2.out.below B27 (by omega))
  have Bw7 : Below N w w7 := HB2.out.trans (B27.mono (by omega))
  have Y7 : Hid (Byt w7 A 0 c g) := Lib.hid (HYw.out.keep (by rw [← HN.out]; exact Bw7))
  have S7 : Hid (N + 1 ≤ w7.heap.size) := Lib.hid (Nat.le_trans S6.out hb7.size)
  have B67 := Lib.hid hb7
  have HBw7 := Lib.hid Bw7
  clear hb7 B27 Bw7
  go_wp2_with (refine wpList_load_key rfl _ rfl N rfl X Y K7.out ?_)
  refine (C2.out w7 Y7.out).mono ?_
  rintro e w9 ⟨v9, rfl, hb9, ho9⟩
  obtain ⟨A9, c9, rfl, hy9⟩ := own_byt ho9 HSl.out
  have Bw9 := Lib.hid (HBw7.out.trans (hb9.mono (by have := S7.out; omega)))
  have B69 := Lib.hid (B67.out.trans (hb9.mono B67.out.size))
  have V1 := conv_byt (hy7.keep hb9)
  have V2 := conv_byt hy9
  have Vo := conv_byt (HYo.out.keep B69.out)
  have Vb := conv_byt (HYw.out.keep (by rw [← HN.out]; exact Bw9.out))
  obtain ⟨st, hst⟩ : ∃ st, st = bst 0 s := ⟨_, rfl⟩
  obtain ⟨su, hsu⟩ : ∃ su, su = bst 0 g := ⟨_, rfl⟩
  rw [← hst] at V1 V2
  rw [← hsu] at Vo Vb
  clear hst hsu hb9 hy7 hy9 ho9
  go_wp2_with fail
  go_loopw [12] (fun i wr => i = .int .i64 0 ∧ wr = w9) (fun _ _ => 0)
  case atStart => exact ⟨rfl, rfl⟩
  case round =>
    obtain ⟨rfl, rfl⟩ := hrel
    go_wp2_with fail
    go_ret
    exact ⟨rfl, Bw9.out⟩

set_option maxRecDepth 100000 in
set_option maxHeartbeats 1000000 in
theorem walk_zn (X Y t : Nat) (hX : X < M) (hY : Y < M) (ht : t < M) (c : Nat) (g : Nat → Nat) (w : World) (hb : Byt w none 0 c g)  :
    Calls Try.prog 6 #[.agg (kl X Y).toArray, .int .u64 (t : Int), .slice none 0 c] w fun e w' => e = .returned (.bool true) ∧ Below w.heap.size w w' := by
  obtain ⟨n, hn0⟩ : ∃ n, n = 0 := ⟨0, rfl⟩
  have hn : n ≤ 16384 := by omega
  rw [← hn0] at hb ⊢
  obtain ⟨A, hA⟩ : ∃ A : Option Addr, A = none := ⟨_, rfl⟩
  rw [← hA] at hb
  obtain ⟨i0, hi, hz0, hz1, hz2⟩ := info_parts info5
  have C1 := Lib.hid (fun (A : Option Addr) (c : Nat) (w : World) (h : Byt w A n c g) => stream_byt X Y t A n c g w hX hY ht h hn)
  have C2 := Lib.hid (fun (w : World) (h : Byt w A n c g) => refStream_yes X Y t A n c g w hX hY ht h hn)
  have HSl := Lib.hid (smb_lt X Y t hb.lt)
  obtain ⟨s, hs⟩ : ∃ s, s = smb X Y t g := ⟨_, rfl⟩
  unfold sml at C2
  rw [← hs] at C1 C2 HSl
  clear hs
  obtain ⟨N, hN⟩ : ∃ N, N = w.heap.size := ⟨_, rfl⟩
  obtain ⟨W2, hW2⟩ : ∃ W2, W2 = (w.alloc (.cells (kl X Y).toArray 23)).alloc (.cells #[] 5) := ⟨_, rfl⟩
  have HB2 : Hid (Below N w W2) := Lib.hid (by rw [hW2, hN]; exact ((Below.refl _ _).alloc (Nat.le_refl _) _).alloc (by simp) _)
  have HK2 : Hid (KeyAt W2 N X Y) := Lib.hid (by rw [hW2, hN]; exact (KeyAt.new w X Y 23).alloc _)
  have HY2 : Hid (Byt W2 A n c g) := Lib.hid (hb.keep (by rw [← hN]; exact HB2.out))
  have HO2 : Hid (W2.ownsRow (N + 1) 5 1 (.slice (some ⟨N + 1, 0, none⟩) 0 0) 0 []) := Lib.hid (by
    rw [hW2, hN]
    exact ⟨rfl, .inr ⟨w.heap.size + 1, 0, #[], rfl, Nat.le_refl _, by have h := heap_alloc_new (w.alloc (.cells (kl X Y).toArray 23)) (.cells #[] 5); rw [World.size_alloc] at h; exact h, Nat.le_refl _, by simp [maxLen], rfl, rfl⟩⟩)
  have HS3 : Hid (W2.heap.size = N + 2) := Lib.hid (by rw [hW2, hN]; simp)
  have HW := Lib.hid hW2
  have HN := Lib.hid hN
  have HYw := Lib.hid hb
  have HG := Lib.hid hb.lt
  have HA := Lib.hid hA
  rw [← hN]
  clear hW2 hN hX hY ht hb
  subst hn0
  clear hA
  obtain rfl := HA.out
  have hap := fun ty => run_append_room_src (P := Try.prog) (w := W2) 26 26 ty 5 i0 Try.underlying26 hi (N + 1) 0 0 0 (.slice none 0 c) 0 [] (Src.ofNil _ Try.underlying26 c) (by omega) (fun j hj => by simp at hj) (fun j hj => by simp at hj)
  simp only [World.setCells] at hap
  rw [HW.out, HN.out] at hap
  obtain ⟨A1, hA1⟩ : ∃ A1 : Option Addr, A1 = some ⟨N + 1, 0, none⟩ := ⟨_, rfl⟩
  obtain ⟨c1, hc1⟩ : ∃ c1, c1 = 0 := ⟨0, rfl⟩
  have HYo : Hid (Byt W2 A1 0 c1 g) := Lib.hid ⟨Nat.zero_le _, by rw [hc1]; simp [maxLen], HG.out, fun h => by omega⟩
  have B6 : Hid (Below (N + 1) W2 W2) := Lib.hid (Below.refl _ _)
  have S6 : Hid (N + 1 ≤ W2.heap.size) := Lib.hid (by rw [HS3.out]; omega)
  go_enter Try.func6, Try.ntmps6
  go_wp2_with (refine wpList_load_key rfl _ rfl _ rfl X Y (by rw [← HW.out, ← HN.out]; exact HK2.out) ?_)
  rw [← HW.out, ← HN.out]
  rw [← hA1]
  rw [show (Value.slice A1 0 0) = Value.slice A1 0 c1 by rw [hc1]]
  refine (C1.out A1 c1 W2 HYo.out).mono ?_
  rintro e w7 ⟨A7, c7, rfl, hb7, hy7⟩
  have B27 : Below (N + 1) W2 w7 := B6.out.trans (hb7.mono S6.out)
  have K7 : Hid (KeyAt w7 N X Y) := Lib.hid (HK2.out.below B27 (by omega))
  have Bw7 : Below N w w7 := HB2.out.trans (B27.mono (by omega))
  have Y7 : Hid (Byt w7 none 0 c g) := Lib.hid (HYw.out.keep (by rw [← HN.out]; exact Bw7))
  have S7 : Hid (N + 1 ≤ w7.heap.size) := Lib.hid (Nat.le_trans S6.out hb7.size)
  have B67 := Lib.hid hb7
  have HBw7 := Lib.hid Bw7
  clear hb7 B27 Bw7
  go_wp2_with (refine wpList_load_key rfl _ rfl N rfl X Y K7.out ?_)
  refine (C2.out w7 Y7.out).mono ?_
  rintro e w9 ⟨v9, rfl, hb9, ho9⟩
  obtain ⟨A9, c9, rfl, hy9⟩ := own_byt ho9 HSl.out
  have Bw9 := Lib.hid (HBw7.out.trans (hb9.mono (by have := S7.out; omega)))
  have B69 := Lib.hid (B67.out.trans (hb9.mono B67.out.size))
  have V1 := conv_byt (hy7.keep hb9)
  have V2 := conv_byt hy9
  have Vo := conv_byt (HYo.out.keep B69.out)
  have Vb := conv_byt (HYw.out.keep (by rw [← HN.out]; exact Bw9.out))
  rw [hA1, hc1] at Vo
  obtain ⟨st, hst⟩ : ∃ st, st = bst 0 s := ⟨_, rfl⟩
  obtain ⟨su, hsu⟩ : ∃ su, su = bst 0 g := ⟨_, rfl⟩
  rw [← hst] at V1 V2
  rw [← hsu] at Vo Vb
  clear hst hsu hb9 hy7 hy9 ho9
  go_wp2_with fail
  go_loopw [12] (fun i wr => i = .int .i64 0 ∧ wr = w9) (fun _ _ => 0)
  case atStart => exact ⟨rfl, rfl⟩
  case round =>
    obtain ⟨rfl, rfl⟩ := hrel
    go_wp2_with fail
    go_ret
    exact ⟨rfl, Bw9.out⟩

set_option maxRecDepth 100000 in
set_option maxHeartbeats 1000000 in
theorem walk_no (X Y t : Nat) (hX : X < M) (hY : Y < M) (ht : t < M) (ad : Addr) (n : Nat) (c : Nat) (g : Nat → Nat) (w : World) (hb : Byt w (some ad) n c g) (hr : n ≤ 140737488351232) (hn : 16384 < n) :
    Calls Try.prog 6 #[.agg (kl X Y).toArray, .int .u64 (t : Int), .slice (some ad) n c] w fun e w' => e = .returned (.bool true) ∧ Below w.heap.size w w' := by
  obtain ⟨A, hA⟩ : ∃ A : Option Addr, A = (some ad) := ⟨_, rfl⟩
  rw [← hA] at hb
  obtain ⟨i0, hi, hz0, hz1, hz2⟩ := info_parts info5
  have C1 := Lib.hid (fun (A : Option Addr) (c : Nat) (w : World) => stream_no X Y t A n c w hn)
  have C2 := Lib.hid (fun (w : World) => refStream_no X Y t A n c w hn)
  obtain ⟨N, hN⟩ : ∃ N, N = w.heap.size := ⟨_, rfl⟩
  obtain ⟨W2, hW2⟩ : ∃ W2, W2 = (w.alloc (.cells (kl X Y).toArray 23)).alloc (.cells #[] 5) := ⟨_, rfl⟩
  have HB2 : Hid (Below N w W2) := Lib.hid (by rw [hW2, hN]; exact ((Below.refl _ _).alloc (Nat.le_refl _) _).alloc (by simp) _)
  have HK2 : Hid (KeyAt W2 N X Y) := Lib.hid (by rw [hW2, hN]; exact (KeyAt.new w X Y 23).alloc _)
  have HY2 : Hid (Byt W2 A n c g) := Lib.hid (hb.keep (by rw [← hN]; exact HB2.out))
  have HO2 : Hid (W2.ownsRow (N + 1) 5 1 (.slice (some ⟨N + 1, 0, none⟩) 0 0) 0 []) := Lib.hid (by
    rw [hW2, hN]
    exact ⟨rfl, .inr ⟨w.heap.size + 1, 0, #[], rfl, Nat.le_refl _, by have h := heap_alloc_new (w.alloc (.cells (kl X Y).toArray 23)) (.cells #[] 5); rw [World.size_alloc] at h; exact h, Nat.le_refl _, by simp [maxLen], rfl, rfl⟩⟩)
  have HS3 : Hid (W2.heap.size = N + 2) := Lib.hid (by rw [hW2, hN]; simp)
  have HW := Lib.hid hW2
  have HN := Lib.hid hN
  have HYw := Lib.hid hb
  have HG := Lib.hid hb.lt
  have HA := Lib.hid hA
  rw [← hN]
  clear hW2 hN hX hY ht hb
  have hnw : ∀ j u, (bl ((List.range n).map g))[j]? = some u → W2.cell? (ad.add j) = some u := by
    intro j u hu
    have hj : j < n := by have := (List.getElem?_eq_some_iff.1 hu).1; simp [bl] at this; exact this
    obtain ⟨b, off, e, hc⟩ := HY2.out.at_ (by omega)
    rw [HA.out] at e
    injection e with e
    subst e
    rw [Addr.add_lit, hc j hj, ← hu]
    exact (bl_get _ j (g j) (by simp [List.getElem?_map, List.getElem?_range hj])).symm
  have hlen : (bl ((List.range n).map g)).length = n * 1 := by simp [bl]
  have hml : 0 + n ≤ maxLen := by unfold maxLen; omega
  have h47 : (0 + n) * 1 ≤ 140737488355328 := by omega
  have hbs : N + 1 ≤ W2.heap.size := by rw [HS3.out]; omega
  have ho := HO2.out
  clear hA
  rw [← HA.out]
  go_enter Try.func6, Try.ntmps6
  go_wp2_with (first
    | (at_builtin; rw [← HW.out, ← HN.out]; refine wpList_append_own _ rfl _ _ 26 rfl (N + 1) 5 i0 _ 1 1 Try.underlying26 hi hz0 hz1 hz2 rfl (by omega) _ 0 [] rfl ho ad n c (bl ((List.range n).map g)) (by rw [HA.out]; rfl) hlen hnw (bl_one _) hml h47 hbs ?_; intro v5 W6 hown6 hg6 _; obtain ⟨A1, c1, hv5, hyo⟩ := own_byt (show W6.ownsRow (N + 1) 5 1 v5 n (bl ((List.range n).map g)) by rw [Nat.zero_add, List.nil_append] at hown6; exact hown6) HG.out; subst hv5; have HYo := Lib.hid hyo; have b6 : Below (N + 1) W2 W6 := (Below.refl _ _).grown hg6 hbs (fun b hb => own_block ho hb.symm); have B6 := Lib.hid b6; have S6 : Hid (N + 1 ≤ W6.heap.size) := Lib.hid (Nat.le_trans hbs b6.size); have HK6 : Hid (KeyAt W6 N X Y) := Lib.hid (HK2.out.below b6 (by omega)); clear hyo b6 hg6 hown6)
    | (refine wpList_load_key rfl _ rfl N rfl X Y HK6.out ?_))
  clear ho hnw hlen hml h47
  refine (C1.out A1 c1 W6).mono ?_
  rintro e w7 ⟨rfl, hb7⟩
  have B27 : Below (N + 1) W2 w7 := B6.out.trans (hb7.mono S6.out)
  have K7 : Hid (KeyAt w7 N X Y) := Lib.hid (HK2.out.below B27 (by omega))
  have Bw7 : Below N w w7 := HB2.out.trans (B27.mono (by omega))
  have Y7 : Hid (Byt w7 A n c g) := Lib.hid (HYw.out.keep (by rw [← HN.out]; exact Bw7))
  have S7 : Hid (N + 1 ≤ w7.heap.size) := Lib.hid (Nat.le_trans S6.out hb7.size)
  have B67 := Lib.hid hb7
  have HBw7 := Lib.hid Bw7
  clear hb7 B27 Bw7
  go_wp2_with (refine wpList_load_key rfl _ rfl N rfl X Y K7.out ?_)
  refine (C2.out w7).mono ?_
  rintro e w9 ⟨rfl, hb9⟩
  have Bw9 := Lib.hid (HBw7.out.trans (hb9.mono (by have := S7.out; omega)))
  have B69 := Lib.hid (B67.out.trans (hb9.mono B67.out.size))
  have V1 : (convert 26 9 (.slice none 0 0)).run Try.prog w9 = .ok (.string (bst 0 (fun _ => 0))) w9 := conv_byt (g := fun _ => 0) ⟨Nat.le_refl _, by simp [maxLen], fun _ => by omega, fun h => by omega⟩
  have Vo := conv_byt (HYo.out.keep B69.out)
  have Vb := conv_byt (HYw.out.keep (by rw [← HN.out]; exact Bw9.out))
  obtain ⟨st, hst⟩ : ∃ st, st = bst 0 (fun _ => 0) := ⟨_, rfl⟩
  obtain ⟨su, hsu⟩ : ∃ su, su = bst n g := ⟨_, rfl⟩
  rw [← hst] at V1
  rw [← hsu] at Vo Vb
  clear hst hsu hb9
  go_wp2_with fail
  go_loopw [12] (fun i wr => i = .int .i64 0 ∧ wr = w9) (fun _ _ => 0)
  case atStart => exact ⟨rfl, rfl⟩
  case round =>
    obtain ⟨rfl, rfl⟩ := hrel
    go_wp2_with fail
    go_ret
    exact ⟨rfl, Bw9.out⟩


theorem walk (X Y : Nat) (hX : X < M) (hY : Y < M) (a : Int) (wa : (Lit.int .u64 a).wf = true) (A : Option Addr) (n c : Nat) (g : Nat → Nat) (w : World) (hb : Byt w A n c g) (hr : A = none ∨ n ≤ 140737488351232) :
    Calls Try.prog 6 #[.agg (kl X Y).toArray, .int .u64 a, .slice A n c] w fun e w' => e = .returned (.bool true) ∧ Below w.heap.size w w' := by
  have ba := bounds_u64 wa
  obtain ⟨t, rfl⟩ := Int.eq_ofNat_of_zero_le ba.1
  have ht : t < M := by unfold M; omega
  rcases Nat.eq_zero_or_pos n with rfl | hpos
  · cases A with
    | none => exact walk_zn X Y t hX hY ht c g w hb
    | some ad => exact walk_zs X Y t hX hY ht ad c g w hb
  · obtain ⟨b, off, rfl, _⟩ := hb.at_ hpos
    have hr' : n ≤ 140737488351232 := by rcases hr with h | h; cases h; exact h
    by_cases h1 : n ≤ 16384
    · exact walk_pos X Y t hX hY ht _ n c g w hb hpos h1
    · exact walk_no X Y t hX hY ht _ n c g w hb hr' (by omega)
end Go.Proofs.Ytphhppdokdageaa.cipherStreams
