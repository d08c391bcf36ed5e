/- The walk over CipherMacs. -/
import Derived.Test.YtphhppdokdageaaRfN
import Derived.Test.YtphhppdokdageaaLawB
namespace Go.Proofs.Ytphhppdokdageaa.cipherMacs
open Go.RowKit SP
set_option linter.unusedVariables false
set_option linter.unusedSimpArgs false

set_option maxRecDepth 100000 in
set_option maxHeartbeats 1000000 in
theorem walk_yes_some (X Y : Nat) (hX : X < M) (hY : Y < M) (ad : Addr) (n : Nat) (c : Nat) (g : Nat → Nat) (w : World) (hb : Byt w (some ad) n c g) (hr : n ≤ 140737488351232) (hn : n ≤ 16384) :
    Calls Try.prog 8 #[.agg (kl X Y).toArray, .slice (some ad) n c] w fun e w' => e = .returned (.bool true) ∧ Below w.heap.size w w' := by
  obtain ⟨A, hA⟩ : ∃ A : Option Addr, A = (some ad) := ⟨_, rfl⟩
  rw [← hA] at hb
  obtain ⟨i0, hi, hz0, hz1, hz2⟩ := info_parts info5
  obtain ⟨P, hP⟩ : ∃ P, P = (macV X Y g n).1 := ⟨_, rfl⟩
  obtain ⟨Q, hQ⟩ : ∃ Q, Q = (macV X Y g n).2 := ⟨_, rfl⟩
  have oM := macV_ok hX hY hb.lt (show n < M by unfold M; omega)
  unfold Ok at oM
  rw [← hP, ← hQ] at oM
  have Q1 : Hid (∀ w, (Op.equalIn 10000 23 (.agg (kl P Q).toArray) (.agg (kl P Q).toArray)).run Try.prog w = .ok true w) := Lib.hid (fun w => by rw [run_equal_key oM.1 oM.2 oM.1 oM.2 w]; simp [same])
  have C1 := Lib.hid (fun (A : Option Addr) (c : Nat) (w : World) (h : Byt w A n c g) => mac_yes X Y A n c g w hX hY h hn)
  have C2 := Lib.hid (fun (w : World) (h : Byt w A n c g) => refMac_yes X Y A n c g w hX hY h hn)
  rw [← hP, ← hQ] at C1 C2
  clear hP hQ oM
  obtain ⟨N, hN⟩ : ∃ N, N = w.heap.size := ⟨_, rfl⟩
  obtain ⟨W2, hW2⟩ : ∃ W2, W2 = (w.alloc (.cells (kl X Y).toArray 23)).alloc (.cells #[] 5) := ⟨_, rfl⟩
  have HB2 : Hid (Below N w W2) := Lib.hid (by rw [hW2, hN]; exact ((Below.refl _ _).alloc (Nat.le_refl _) _).alloc (by simp) _)
  have HS2 : Hid (N ≤ W2.heap.size) := Lib.hid (by rw [hW2, hN]; simp; omega)
  have HK2 : Hid (KeyAt W2 N X Y) := Lib.hid (by rw [hW2, hN]; exact (KeyAt.new w X Y 23).alloc _)
  have HY2 : Hid (Byt W2 A n c g) := Lib.hid (hb.keep (by rw [← hN]; exact HB2.out))
  have HO2 : Hid (W2.ownsRow (N + 1) 5 1 (.slice (some ⟨N + 1, 0, none⟩) 0 0) 0 []) := Lib.hid (by
    rw [hW2, hN]
    exact ⟨rfl, .inr ⟨w.heap.size + 1, 0, #[], rfl, Nat.le_refl _, by have h := heap_alloc_new (w.alloc (.cells (kl X Y).toArray 23)) (.cells #[] 5); rw [World.size_alloc] at h; exact h, Nat.le_refl _, by simp [maxLen], rfl, rfl⟩⟩)
  have HS3 : Hid (W2.heap.size = N + 2) := Lib.hid (by rw [hW2, hN]; simp)
  have HW := Lib.hid hW2
  have HN := Lib.hid hN
  have HYw := Lib.hid hb
  have HG := Lib.hid hb.lt
  have HA := Lib.hid hA
  rw [← hN]
  clear hW2 hN hX hY hb
  have hnw : ∀ j u, (bl ((List.range n).map g))[j]? = some u → W2.cell? (ad.add j) = some u := by
    intro j u hu
    have hj : j < n := by have := (List.getElem?_eq_some_iff.1 hu).1; simp [bl] at this; exact this
    obtain ⟨b, off, e, hc⟩ := HY2.out.at_ (by omega)
    rw [HA.out] at e
    injection e with e
    subst e
    rw [Addr.add_lit, hc j hj, ← hu]
    exact (bl_get _ j (g j) (by simp [List.getElem?_map, List.getElem?_range hj])).symm
  have hlen : (bl ((List.range n).map g)).length = n * 1 := by simp [bl]
  have hml : 0 + n ≤ maxLen := by unfold maxLen; omega
  have h47 : (0 + n) * 1 ≤ 140737488355328 := by omega
  have hbs : N + 1 ≤ W2.heap.size := by rw [HS3.out]; omega
  have ho := HO2.out
  clear hA
  rw [← HA.out]
  go_enter Try.func8, Try.ntmps8
  go_wp2_with (first
    | (at_builtin; rw [← HW.out, ← HN.out]; refine wpList_append_own _ rfl _ _ 26 rfl (N + 1) 5 i0 _ 1 1 Try.underlying26 hi hz0 hz1 hz2 rfl (by omega) _ 0 [] rfl ho ad n c (bl ((List.range n).map g)) (by rw [HA.out]; rfl) hlen hnw (bl_one _) hml h47 hbs ?_; intro v5 W6 hown6 hg6 _; obtain ⟨A1, c1, hv5, hyo⟩ := own_byt (show W6.ownsRow (N + 1) 5 1 v5 n (bl ((List.range n).map g)) by rw [Nat.zero_add, List.nil_append] at hown6; exact hown6) HG.out; subst hv5; have HYo := Lib.hid hyo; have b6 : Below (N + 1) W2 W6 := (Below.refl _ _).grown hg6 hbs (fun b hb => own_block ho hb.symm); have B6 := Lib.hid b6; have S6 : Hid (N + 1 ≤ W6.heap.size) := Lib.hid (Nat.le_trans hbs b6.size); have HK6 : Hid (KeyAt W6 N X Y) := Lib.hid (HK2.out.below b6 (by omega)); clear hyo b6 hg6 hown6)
    | (refine wpList_load_key rfl _ rfl N rfl X Y HK6.out ?_))
  clear ho hnw hlen hml h47
  refine (C1.out A1 c1 W6 HYo.out).mono ?_
  rintro e w7 ⟨rfl, hb7⟩
  have L6 := S6.out
  have B7 := B6.out.trans (hb7.mono L6)
  obtain ⟨W8, hW8⟩ : ∃ W8, W8 = (w7.alloc (.cells z16 23)).setCells w7.heap.size 0 (kl P Q) := ⟨_, rfl⟩
  have T7 := Lib.hid (Row.zeros w7 23).there
  have B78 : Below w7.heap.size w7 W8 := by rw [hW8]; exact below_setCells _ _ _ _ ((Below.refl _ _).alloc (Nat.le_refl _) _) (Nat.le_refl _)
  have B8 := Lib.hid (B7.trans (B78.mono (Nat.le_trans L6 hb7.size)))
  have B68 := Lib.hid (hb7.trans (B78.mono hb7.size))
  have K8 : Hid (KeyAt W8 w7.heap.size P Q) := Lib.hid (by rw [hW8]; exact KeyAt.stored (Row.zeros w7 23).there P Q)
  have Y8 : Hid (Byt W8 A n c g) := Lib.hid (HYw.out.keep (by rw [← HN.out]; exact HB2.out.trans (B8.out.mono (by omega))))
  have Yo8 : Hid (Byt W8 A1 n c1 g) := Lib.hid (HYo.out.keep B68.out)
  have KN8 : Hid (KeyAt W8 N X Y) := Lib.hid (HK2.out.below B8.out (by omega))
  have HW8 := Lib.hid hW8
  clear hW8 hb7 B7 B78 L6
  obtain ⟨m7, hm7⟩ : ∃ m7, m7 = w7.heap.size := ⟨_, rfl⟩
  go_wp2_with (first
    | ((refine wpList_store_key rfl _ _ rfl w7.heap.size P Q rfl rfl T7.out ?_); rw [← HW8.out])
    | (refine wpList_load_key rfl _ rfl N rfl X Y KN8.out ?_))
  rw [← hm7] at K8 HW8 T7 ⊢
  clear T7 HW8 hm7
  refine (C2.out W8 Y8.out).mono ?_
  rintro e w9 ⟨rfl, hb9⟩
  obtain ⟨W10, hW10⟩ : ∃ W10, W10 = (w9.alloc (.cells z16 23)).setCells w9.heap.size 0 (kl P Q) := ⟨_, rfl⟩
  have T9 := Lib.hid (Row.zeros w9 23).there
  have B910 : Below w9.heap.size w9 W10 := by rw [hW10]; exact below_setCells _ _ _ _ ((Below.refl _ _).alloc (Nat.le_refl _) _) (Nat.le_refl _)
  have B810 := hb9.trans (B910.mono hb9.size)
  have K10 : Hid (KeyAt W10 w9.heap.size P Q) := Lib.hid (by rw [hW10]; exact KeyAt.stored (Row.zeros w9 23).there P Q)
  have K8' : Hid (KeyAt W10 m7 P Q) := Lib.hid (K8.out.keep B810)
  have B10 := Lib.hid (B8.out.trans (B810.mono (Nat.le_trans (by rw [HS3.out]; omega) B8.out.size)))
  have V1 := Lib.hid (conv_byt (Y8.out.keep B810))
  have V2 := Lib.hid (conv_byt (Yo8.out.keep B810))
  have HW10 := Lib.hid hW10
  clear hW10 hb9 B910 B810
  obtain ⟨st, hst⟩ : ∃ st, st = bst n g := ⟨_, rfl⟩
  rw [← hst] at V1 V2
  clear hst
  have v1 := V1.out
  have v2 := V2.out
  have q1 := Q1.out
  go_wp2_with (first
    | ((refine wpList_store_key rfl _ _ rfl w9.heap.size P Q rfl rfl T9.out ?_); rw [← HW10.out])
    | (refine wpList_load_key rfl _ rfl m7 rfl P Q K8'.out ?_)
    | (refine wpList_load_key rfl _ rfl w9.heap.size rfl P Q K10.out ?_))
  go_ret
  exact ⟨rfl, HB2.out.trans (B10.out.mono (by omega))⟩

set_option maxRecDepth 100000 in
set_option maxHeartbeats 1000000 in
theorem walk_no_some (X Y : Nat) (hX : X < M) (hY : Y < M) (ad : Addr) (n : Nat) (c : Nat) (g : Nat → Nat) (w : World) (hb : Byt w (some ad) n c g) (hr : n ≤ 140737488351232) (hn : 16384 < n) :
    Calls Try.prog 8 #[.agg (kl X Y).toArray, .slice (some ad) n c] w fun e w' => e = .returned (.bool true) ∧ Below w.heap.size w w' := by
  obtain ⟨A, hA⟩ : ∃ A : Option Addr, A = (some ad) := ⟨_, rfl⟩
  rw [← hA] at hb
  obtain ⟨i0, hi, hz0, hz1, hz2⟩ := info_parts info5
  have Q1 : Hid (∀ w, (Op.equalIn 10000 23 (.agg (kl 0 0).toArray) (.agg (kl 0 0).toArray)).run Try.prog w = .ok true w) := Lib.hid (fun w => by rw [run_equal_key (by decide) (by decide) (by decide) (by decide) w]; simp [same])
  have C1 := Lib.hid (fun (A : Option Addr) (c : Nat) (w : World) (h : Byt w A n c g) => mac_no X Y A n c w hn)
  have C2 := Lib.hid (fun (w : World) (h : Byt w A n c g) => refMac_no X Y A n c w hn)
  obtain ⟨N, hN⟩ : ∃ N, N = w.heap.size := ⟨_, rfl⟩
  obtain ⟨W2, hW2⟩ : ∃ W2, W2 = (w.alloc (.cells (kl X Y).toArray 23)).alloc (.cells #[] 5) := ⟨_, rfl⟩
  have HB2 : Hid (Below N w W2) := Lib.hid (by rw [hW2, hN]; exact ((Below.refl _ _).alloc (Nat.le_refl _) _).alloc (by simp) _)
  have HS2 : Hid (N ≤ W2.heap.size) := Lib.hid (by rw [hW2, hN]; simp; omega)
  have HK2 : Hid (KeyAt W2 N X Y) := Lib.hid (by rw [hW2, hN]; exact (KeyAt.new w X Y 23).alloc _)
  have HY2 : Hid (Byt W2 A n c g) := Lib.hid (hb.keep (by rw [← hN]; exact HB2.out))
  have HO2 : Hid (W2.ownsRow (N + 1) 5 1 (.slice (some ⟨N + 1, 0, none⟩) 0 0) 0 []) := Lib.hid (by
    rw [hW2, hN]
    exact ⟨rfl, .inr ⟨w.heap.size + 1, 0, #[], rfl, Nat.le_refl _, by have h := heap_alloc_new (w.alloc (.cells (kl X Y).toArray 23)) (.cells #[] 5); rw [World.size_alloc] at h; exact h, Nat.le_refl _, by simp [maxLen], rfl, rfl⟩⟩)
  have HS3 : Hid (W2.heap.size = N + 2) := Lib.hid (by rw [hW2, hN]; simp)
  have HW := Lib.hid hW2
  have HN := Lib.hid hN
  have HYw := Lib.hid hb
  have HG := Lib.hid hb.lt
  have HA := Lib.hid hA
  rw [← hN]
  clear hW2 hN hX hY hb
  have hnw : ∀ j u, (bl ((List.range n).map g))[j]? = some u → W2.cell? (ad.add j) = some u := by
    intro j u hu
    have hj : j < n := by have := (List.getElem?_eq_some_iff.1 hu).1; simp [bl] at this; exact this
    obtain ⟨b, off, e, hc⟩ := HY2.out.at_ (by omega)
    rw [HA.out] at e
    injection e with e
    subst e
    rw [Addr.add_lit, hc j hj, ← hu]
    exact (bl_get _ j (g j) (by simp [List.getElem?_map, List.getElem?_range hj])).symm
  have hlen : (bl ((List.range n).map g)).length = n * 1 := by simp [bl]
  have hml : 0 + n ≤ maxLen := by unfold maxLen; omega
  have h47 : (0 + n) * 1 ≤ 140737488355328 := by omega
  have hbs : N + 1 ≤ W2.heap.size := by rw [HS3.out]; omega
  have ho := HO2.out
  clear hA
  rw [← HA.out]
  go_enter Try.func8, Try.ntmps8
  go_wp2_with (first
    | (at_builtin; rw [← HW.out, ← HN.out]; refine wpList_append_own _ rfl _ _ 26 rfl (N + 1) 5 i0 _ 1 1 Try.underlying26 hi hz0 hz1 hz2 rfl (by omega) _ 0 [] rfl ho ad n c (bl ((List.range n).map g)) (by rw [HA.out]; rfl) hlen hnw (bl_one _) hml h47 hbs ?_; intro v5 W6 hown6 hg6 _; obtain ⟨A1, c1, hv5, hyo⟩ := own_byt (show W6.ownsRow (N + 1) 5 1 v5 n (bl ((List.range n).map g)) by rw [Nat.zero_add, List.nil_append] at hown6; exact hown6) HG.out; subst hv5; have HYo := Lib.hid hyo; have b6 : Below (N + 1) W2 W6 := (Below.refl _ _).grown hg6 hbs (fun b hb => own_block ho hb.symm); have B6 := Lib.hid b6; have S6 : Hid (N + 1 ≤ W6.heap.size) := Lib.hid (Nat.le_trans hbs b6.size); have HK6 : Hid (KeyAt W6 N X Y) := Lib.hid (HK2.out.below b6 (by omega)); clear hyo b6 hg6 hown6)
    | (refine wpList_load_key rfl _ rfl N rfl X Y HK6.out ?_))
  clear ho hnw hlen hml h47
  refine (C1.out A1 c1 W6 HYo.out).mono ?_
  rintro e w7 ⟨rfl, hb7⟩
  have L6 := S6.out
  have B7 := B6.out.trans (hb7.mono L6)
  obtain ⟨W8, hW8⟩ : ∃ W8, W8 = (w7.alloc (.cells z16 23)).setCells w7.heap.size 0 (kl 0 0) := ⟨_, rfl⟩
  have T7 := Lib.hid (Row.zeros w7 23).there
  have B78 : Below w7.heap.size w7 W8 := by rw [hW8]; exact below_setCells _ _ _ _ ((Below.refl _ _).alloc (Nat.le_refl _) _) (Nat.le_refl _)
  have B8 := Lib.hid (B7.trans (B78.mono (Nat.le_trans L6 hb7.size)))
  have B68 := Lib.hid (hb7.trans (B78.mono hb7.size))
  have K8 : Hid (KeyAt W8 w7.heap.size 0 0) := Lib.hid (by rw [hW8]; exact KeyAt.stored (Row.zeros w7 23).there 0 0)
  have Y8 : Hid (Byt W8 A n c g) := Lib.hid (HYw.out.keep (by rw [← HN.out]; exact HB2.out.trans (B8.out.mono (by omega))))
  have Yo8 : Hid (Byt W8 A1 n c1 g) := Lib.hid (HYo.out.keep B68.out)
  have KN8 : Hid (KeyAt W8 N X Y) := Lib.hid (HK2.out.below B8.out (by omega))
  have HW8 := Lib.hid hW8
  clear hW8 hb7 B7 B78 L6
  obtain ⟨m7, hm7⟩ : ∃ m7, m7 = w7.heap.size := ⟨_, rfl⟩
  go_wp2_with (first
    | ((refine wpList_store_key rfl _ _ rfl w7.heap.size 0 0 rfl rfl T7.out ?_); rw [← HW8.out])
    | (refine wpList_load_key rfl _ rfl N rfl X Y KN8.out ?_))
  rw [← hm7] at K8 HW8 T7 ⊢
  clear T7 HW8 hm7
  refine (C2.out W8 Y8.out).mono ?_
  rintro e w9 ⟨rfl, hb9⟩
  obtain ⟨W10, hW10⟩ : ∃ W10, W10 = (w9.alloc (.cells z16 23)).setCells w9.heap.size 0 (kl 0 0) := ⟨_, rfl⟩
  have T9 := Lib.hid (Row.zeros w9 23).there
  have B910 : Below w9.heap.size w9 W10 := by rw [hW10]; exact below_setCells _ _ _ _ ((Below.refl _ _).alloc (Nat.le_refl _) _) (Nat.le_refl _)
  have B810 := hb9.trans (B910.mono hb9.size)
  have K10 : Hid (KeyAt W10 w9.heap.size 0 0) := Lib.hid (by rw [hW10]; exact KeyAt.stored (Row.zeros w9 23).there 0 0)
  have K8' : Hid (KeyAt W10 m7 0 0) := Lib.hid (K8.out.keep B810)
  have B10 := Lib.hid (B8.out.trans (B810.mono (Nat.le_trans (by rw [HS3.out]; omega) B8.out.size)))
  have V1 := Lib.hid (conv_byt (Y8.out.keep B810))
  have V2 := Lib.hid (conv_byt (Yo8.out.keep B810))
  have HW10 := Lib.hid hW10
  clear hW10 hb9 B910 B810
  obtain ⟨st, hst⟩ : ∃ st, st = bst n g := ⟨_, rfl⟩
  rw [← hst] at V1 V2
  clear hst
  have v1 := V1.out
  have v2 := V2.out
  have q1 := Q1.out
  go_wp2_with (first
    | ((refine wpList_store_key rfl _ _ rfl w9.heap.size 0 0 rfl rfl T9.out ?_); rw [← HW10.out])
    | (refine wpList_load_key rfl _ rfl m7 rfl 0 0 K8'.out ?_)
    | (refine wpList_load_key rfl _ rfl w9.heap.size rfl 0 0 K10.out ?_))
  go_ret
  exact ⟨rfl, HB2.out.trans (B10.out.mono (by omega))⟩

set_option maxRecDepth 100000 in
set_option maxHeartbeats 1000000 in
theorem walk_yes_none (X Y : Nat) (hX : X < M) (hY : Y < M)  (c : Nat) (g : Nat → Nat) (w : World) (hb : Byt w none 0 c g)   :
    Calls Try.prog 8 #[.agg (kl X Y).toArray, .slice none 0 c] w fun e w' => e = .returned (.bool true) ∧ Below w.heap.size w w' := by
  obtain ⟨n, hn0⟩ : ∃ n, n = 0 := ⟨0, rfl⟩
  have hn : n ≤ 16384 := by omega
  rw [← hn0] at hb
  obtain ⟨A, hA⟩ : ∃ A : Option Addr, A = none := ⟨_, rfl⟩
  rw [← hA] at hb
  obtain ⟨i0, hi, hz0, hz1, hz2⟩ := info_parts info5
  obtain ⟨P, hP⟩ : ∃ P, P = (macV X Y g n).1 := ⟨_, rfl⟩
  obtain ⟨Q, hQ⟩ : ∃ Q, Q = (macV X Y g n).2 := ⟨_, rfl⟩
  have oM := macV_ok hX hY hb.lt (show n < M by unfold M; omega)
  unfold Ok at oM
  rw [← hP, ← hQ] at oM
  have Q1 : Hid (∀ w, (Op.equalIn 10000 23 (.agg (kl P Q).toArray) (.agg (kl P Q).toArray)).run Try.prog w = .ok true w) := Lib.hid (fun w => by rw [run_equal_key oM.1 oM.2 oM.1 oM.2 w]; simp [same])
  have C1 := Lib.hid (fun (A : Option Addr) (c : Nat) (w : World) (h : Byt w A n c g) => mac_yes X Y A n c g w hX hY h hn)
  have C2 := Lib.hid (fun (w : World) (h : Byt w A n c g) => refMac_yes X Y A n c g w hX hY h hn)
  rw [← hP, ← hQ] at C1 C2
  clear hP hQ oM
  obtain ⟨N, hN⟩ : ∃ N, N = w.heap.size := ⟨_, rfl⟩
  obtain ⟨W2, hW2⟩ : ∃ W2, W2 = (w.alloc (.cells (kl X Y).toArray 23)).alloc (.cells #[] 5) := ⟨_, rfl⟩
  have HB2 : Hid (Below N w W2) := Lib.hid (by rw [hW2, hN]; exact ((Below.refl _ _).alloc (Nat.le_refl _) _).alloc (by simp) _)
  have HS2 : Hid (N ≤ W2.heap.size) := Lib.hid (by rw [hW2, hN]; simp; omega)
  have HK2 : Hid (KeyAt W2 N X Y) := Lib.hid (by rw [hW2, hN]; exact (KeyAt.new w X Y 23).alloc _)
  have HY2 : Hid (Byt W2 A n c g) := Lib.hid (hb.keep (by rw [← hN]; exact HB2.out))
  have HO2 : Hid (W2.ownsRow (N + 1) 5 1 (.slice (some ⟨N + 1, 0, none⟩) 0 0) 0 []) := Lib.hid (by
    rw [hW2, hN]
    exact ⟨rfl, .inr ⟨w.heap.size + 1, 0, #[], rfl, Nat.le_refl _, by have h := heap_alloc_new (w.alloc (.cells (kl X Y).toArray 23)) (.cells #[] 5); rw [World.size_alloc] at h; exact h, Nat.le_refl _, by simp [maxLen], rfl, rfl⟩⟩)
  have HS3 : Hid (W2.heap.size = N + 2) := Lib.hid (by rw [hW2, hN]; simp)
  have HW := Lib.hid hW2
  have HN := Lib.hid hN
  have HYw := Lib.hid hb
  have HG := Lib.hid hb.lt
  have HA := Lib.hid hA
  rw [← hN]
  clear hW2 hN hX hY hb
  subst hn0
  clear hA
  obtain rfl := HA.out
  have hap := fun ty => run_append_room_src (P := Try.prog) (w := W2) 26 26 ty 5 i0 Try.underlying26 hi (N + 1) 0 0 0 (.slice none 0 c) 0 [] (Src.ofNil _ Try.underlying26 c) (by omega) (fun j hj => by simp at hj) (fun j hj => by simp at hj)
  simp only [World.setCells] at hap
  rw [HW.out, HN.out] at hap
  have HYo : Hid (Byt W2 (some ⟨N + 1, 0, none⟩) 0 0 g) := Lib.hid ⟨Nat.le_refl _, by simp [maxLen], HG.out, fun h => by omega⟩
  have B6 : Hid (Below (N + 1) W2 W2) := Lib.hid (Below.refl _ _)
  have S6 : Hid (N + 1 ≤ W2.heap.size) := Lib.hid (by rw [HS3.out]; omega)
  go_enter Try.func8, Try.ntmps8
  go_wp2_with (refine wpList_load_key rfl _ rfl _ rfl X Y (by rw [← HW.out, ← HN.out]; exact HK2.out) ?_)
  rw [← HW.out, ← HN.out]
  clear hap
  refine (C1.out (some ⟨N + 1, 0, none⟩) 0 W2 HYo.out).mono ?_
  rintro e w7 ⟨rfl, hb7⟩
  have L6 := S6.out
  have B7 := B6.out.trans (hb7.mono L6)
  obtain ⟨W8, hW8⟩ : ∃ W8, W8 = (w7.alloc (.cells z16 23)).setCells w7.heap.size 0 (kl P Q) := ⟨_, rfl⟩
  have T7 := Lib.hid (Row.zeros w7 23).there
  have B78 : Below w7.heap.size w7 W8 := by rw [hW8]; exact below_setCells _ _ _ _ ((Below.refl _ _).alloc (Nat.le_refl _) _) (Nat.le_refl _)
  have B8 := Lib.hid (B7.trans (B78.mono (Nat.le_trans L6 hb7.size)))
  have B68 := Lib.hid (hb7.trans (B78.mono hb7.size))
  have K8 : Hid (KeyAt W8 w7.heap.size P Q) := Lib.hid (by rw [hW8]; exact KeyAt.stored (Row.zeros w7 23).there P Q)
  have Y8 : Hid (Byt W8 none 0 c g) := Lib.hid (HYw.out.keep (by rw [← HN.out]; exact HB2.out.trans (B8.out.mono (by omega))))
  have Yo8 : Hid (Byt W8 (some ⟨N + 1, 0, none⟩) 0 0 g) := Lib.hid (HYo.out.keep B68.out)
  have KN8 : Hid (KeyAt W8 N X Y) := Lib.hid (HK2.out.below B8.out (by omega))
  have HW8 := Lib.hid hW8
  clear hW8 hb7 B7 B78 L6
  obtain ⟨m7, hm7⟩ : ∃ m7, m7 = w7.heap.size := ⟨_, rfl⟩
  go_wp2_with (first
    | ((refine wpList_store_key rfl _ _ rfl w7.heap.size P Q rfl rfl T7.out ?_); rw [← HW8.out])
    | (refine wpList_load_key rfl _ rfl N rfl X Y KN8.out ?_))
  rw [← hm7] at K8 HW8 T7 ⊢
  clear T7 HW8 hm7
  refine (C2.out W8 Y8.out).mono ?_
  rintro e w9 ⟨rfl, hb9⟩
  obtain ⟨W10, hW10⟩ : ∃ W10, W10 = (w9.alloc (.cells z16 23)).setCells w9.heap.size 0 (kl P Q) := ⟨_, rfl⟩
  have T9 := Lib.hid (Row.zeros w9 23).there
  have B910 : Below w9.heap.size w9 W10 := by rw [hW10]; exact below_setCells _ _ _ _ ((Below.refl _ _).alloc (Nat.le_refl _) _) (Nat.le_refl _)
  have B810 := hb9.trans (B910.mono hb9.size)
  have K10 : Hid (KeyAt W10 w9.heap.size P Q) := Lib.hid (by rw [hW10]; exact KeyAt.stored (Row.zeros w9 23).there P Q)
  have K8' : Hid (KeyAt W10 m7 P Q) := Lib.hid (K8.out.keep B810)
  have B10 := Lib.hid (B8.out.trans (B810.mono (Nat.le_trans (by rw [HS3.out]; omega) B8.out.size)))
  have V1 := Lib.hid (conv_byt (Y8.out.keep B810))
  have V2 := Lib.hid (conv_byt (Yo8.out.keep B810))
  have HW10 := Lib.hid hW10
  clear hW10 hb9 B910 B810
  obtain ⟨st, hst⟩ : ∃ st, st = bst 0 g := ⟨_, rfl⟩
  rw [← hst] at V1 V2
  clear hst
  have v1 := V1.out
  have v2 := V2.out
  have q1 := Q1.out
  go_wp2_with (first
    | ((refine wpList_store_key rfl _ _ rfl w9.heap.size P Q rfl rfl T9.out ?_); rw [← HW10.out])
    | (refine wpList_load_key rfl _ rfl m7 rfl P Q K8'.out ?_)
    | (refine wpList_load_key rfl _ rfl w9.heap.size rfl P Q K10.out ?_))
  go_ret
  exact ⟨rfl, HB2.out.trans (B10.out.mono (by omega))⟩

theorem walk (X Y : Nat) (hX : X < M) (hY : Y < M) (A : Option Addr) (n c : Nat) (g : Nat → Nat) (w : World) (hb : Byt w A n c g) (hr : A = none ∨ n ≤ 140737488351232) :
    Calls Try.prog 8 #[.agg (kl X Y).toArray, .slice A n c] w fun e w' => e = .returned (.bool true) ∧ Below w.heap.size w w' := by
  cases A with
  | none =>
    have h0 : n = 0 := by
      rcases Nat.eq_zero_or_pos n with h | h
      · exact h
      · obtain ⟨b, off, e, _⟩ := hb.at_ h
        cases e
    subst h0
    exact walk_yes_none X Y hX hY c g w hb
  | some ad =>
    have h : n ≤ 140737488351232 := by
      rcases hr with h | h
      · cases h
      · exact h
    by_cases hn : n ≤ 16384
    · exact walk_yes_some X Y hX hY ad n c g w hb h hn
    · exact walk_no_some X Y hX hY ad n c g w hb h (by omega)
end Go.Proofs.Ytphhppdokdageaa.cipherMacs
