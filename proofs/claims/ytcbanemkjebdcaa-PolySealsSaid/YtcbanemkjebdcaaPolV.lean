/-
  Seal, the specification's: the header that it makes.
-/
import Derived.Test.YtcbanemkjebdcaaPolT
import Derived.Test.YtcbanemkjebdcaaPolD
import Derived.Test.YtcbanemkjebdcaaPolE
import Derived.Test.YtcbanemkjebdcaaModB
import Derived.Test.YtcbanemkjebdcaaRfJ
namespace Go.Proofs.Ytcbanemkjebdcaa
open Go.RowKit SP
set_option linter.unusedVariables false
set_option linter.unusedSimpArgs false

set_option maxRecDepth 100000 in
set_option maxHeartbeats 4000000 in
theorem sealOf_any (X Y A B : Nat) (K D : Int) (E P Q G m b off n c : Nat) (ad : Option Addr) (f : Nat → Nat) (w : World) (hX : X < M) (hY : Y < M) (hA : A < M) (hB : B < M) (hm : m < M) (hK0 : 0 ≤ K) (hK1 : K ≤ 255) (hQ : Q < M) (h : SchOk K D (E : Int) P Q G) (hn : n ≤ c) (hc : c ≤ maxLen) (hnE : n ≤ E) (hnT : n ≤ 2 ^ D.toNat) (hf : ∀ i, i < n → f i < 64) (had : n = 0 ∨ ad = some ⟨b, off, none⟩) (hcl : ∀ i, i < n → w.cell? ⟨b, off + i, none⟩ = some (.int .i64 (f i : Int))) :
    Calls Try.prog 62 #[.agg (kl X Y).toArray, .agg #[.int .u8 K, .int .i64 D, .int .i64 (E : Int), .int .u64 (P : Int), .int .u64 (Q : Int), .int .u64 (G : Int)], .slice ad n c, .agg (kl A B).toArray, .int .u64 (m : Int)] w fun e w' => (∃ g c', e = .returned (.agg (hdl (.slice (some ⟨g, 0, none⟩) E c') (hbase X Y P Q G m) (enc (drv 0 0 42 (pwv X Y P Q G m E 0)).1 (drv 0 0 42 (pwv X Y P Q G m E 0)).2 A B).1 (enc (drv 0 0 42 (pwv X Y P Q G m E 0)).1 (drv 0 0 42 (pwv X Y P Q G m E 0)).2 A B).2 (drv A B 53 0).1 (drv A B 53 0).2).toArray) ∧ w.heap.size ≤ g ∧ E ≤ c' ∧ c' ≤ maxLen ∧ ∀ j v, (ptl X Y P Q G m E (2 ^ D.toNat) n f E)[j]? = some v → w'.cell? ⟨g, j, none⟩ = some v) ∧ Below w.heap.size w w' := by
  obtain ⟨i6, hi6, hz06, hz16, hz26⟩ := info_parts info46
  obtain ⟨N, hN⟩ : ∃ N, N = w.heap.size := ⟨_, rfl⟩
  obtain ⟨W4, hW4⟩ : ∃ W4, W4 = (((w.alloc (.cells (kl X Y).toArray 23)).alloc (.cells #[.int .u8 K, .int .i64 D, .int .i64 (E : Int), .int .u64 (P : Int), .int .u64 (Q : Int), .int .u64 (G : Int)] 28)).alloc (.cells (kl A B).toArray 23)).alloc (.cells (hdl (.slice none 0 0) 0 0 0 0 0).toArray 60) := ⟨_, rfl⟩
  have HB4 : Hid (Below N w W4) := Lib.hid (by rw [hW4, hN]; exact ((((Below.refl _ _).alloc (Nat.le_refl _) _).alloc (by simp) _).alloc (by simp; omega) _).alloc (by simp; omega) _)
  have HS4 : Hid (W4.heap.size = N + 4) := Lib.hid (by rw [hW4, hN]; simp)
  have HEnv : Hid (∀ w1, Below (N + 4) W4 w1 → KeyAt w1 N X Y ∧ SchAt w1 (N + 1) K D (E : Int) P Q G ∧ KeyAt w1 (N + 2) A B ∧ HdAt w1 (N + 3) (.slice none 0 0) 0 0 0 0 0 ∧ Below N w w1) := Lib.hid (fun w1 h => by
    have k : KeyAt W4 N X Y := by rw [hW4, hN]; exact (((KeyAt.new w X Y 23).alloc _).alloc _).alloc _
    have s : SchAt W4 (N + 1) K D (E : Int) P Q G := by
      have h := SchAt.new (w.alloc (.cells (kl X Y).toArray 23)) K D (E : Int) P Q G
      rw [World.size_alloc] at h
      rw [hW4, hN]; exact h.below (((Below.refl _ _).alloc (Nat.le_refl _) _).alloc (by simp) _) (by simp)
    have k2 : KeyAt W4 (N + 2) A B := by
      have h := KeyAt.new ((w.alloc (.cells (kl X Y).toArray 23)).alloc (.cells #[.int .u8 K, .int .i64 D, .int .i64 (E : Int), .int .u64 (P : Int), .int .u64 (Q : Int), .int .u64 (G : Int)] 28)) A B 23
      rw [World.size_alloc, World.size_alloc] at h
      rw [hW4, hN]; exact h.alloc _
    have r : HdAt W4 (N + 3) (.slice none 0 0) 0 0 0 0 0 := by
      have h := HdAt.new (((w.alloc (.cells (kl X Y).toArray 23)).alloc (.cells #[.int .u8 K, .int .i64 D, .int .i64 (E : Int), .int .u64 (P : Int), .int .u64 (Q : Int), .int .u64 (G : Int)] 28)).alloc (.cells (kl A B).toArray 23)) (.slice none 0 0) 0 0 0 0 0 60
      rw [World.size_alloc, World.size_alloc, World.size_alloc] at h
      rw [hW4, hN]; exact h
    exact ⟨k.below h (by omega), s.below h (by omega), k2.below h (by omega), r.below h (by omega), HB4.out.trans (h.mono (by omega))⟩)
  have HZ : Hid (∀ (w : World), w.there (N + 3) 0 35 → HdAt (w.setCells (N + 3) 0 (hdl (.slice none 0 0) 0 0 0 0 0)) (N + 3) (.slice none 0 0) 0 0 0 0 0) := Lib.hid (fun w h => HdAt.stored h _ _ _ _ _ _)
  have HN := Lib.hid hN
  have HW : Hid (W4 = (((w.alloc (.cells (kl X Y).toArray 23)).alloc (.cells #[.int .u8 K, .int .i64 D, .int .i64 (E : Int), .int .u64 (P : Int), .int .u64 (Q : Int), .int .u64 (G : Int)] 28)).alloc (.cells (kl A B).toArray 23)).alloc (.cells #[.slice none 0 0, .int .u64 0, .slice none 0 0, .int .u8 0, .int .u8 0, .int .u8 0, .int .u8 0, .int .u8 0, .int .u8 0, .int .u8 0, .int .u8 0, .int .u8 0, .int .u8 0, .int .u8 0, .int .u8 0, .int .u8 0, .int .u8 0, .int .u8 0, .int .u8 0, .int .u8 0, .int .u8 0, .int .u8 0, .int .u8 0, .int .u8 0, .int .u8 0, .int .u8 0, .int .u8 0, .int .u8 0, .int .u8 0, .int .u8 0, .int .u8 0, .int .u8 0, .int .u8 0, .int .u8 0, .int .u8 0] 60)) := Lib.hid (by rw [hd_zero]; exact hW4)
  rw [← hN]
  clear HZ
  obtain ⟨hk4, hd1, hd2, he1, he2, hgr, htq⟩ := h
  have HQP : Hid (1 ≤ P ∧ P ≤ 1048575 ∧ 2 ≤ Q ∧ Q ≤ 1048575 ∧ 1 ≤ E ∧ E ≤ 8 ∧ 1 ≤ 2 ^ D.toNat ∧ 2 ^ D.toNat ≤ 64) := Lib.hid ⟨by have := hgr.2.1.1; omega, hgr.1, hgr.2.2.2.1.1, hgr.2.2.1, by omega, by omega, pw6 D hd1 hd2⟩
  have HCl : Hid (∀ w1, Below N w w1 → ∀ i, i < n → w1.cell? ⟨b, off + i, none⟩ = some (.int .i64 (f i : Int))) := Lib.hid (fun w1 h1 i hi => (h1.cell (p := ⟨b, off + i, none⟩) (by rw [HN.out]; exact World.block_lt_of_cell? w _ (hcl i hi))).trans (hcl i hi))
  have HCF := Lib.hid (fun w => coefOf_any X Y K D E P Q G w hX hY HQP.out.2.2.2.2.2.1)
  have HD1 := Lib.hid (fun w => refDerive_any X Y 41 m w hX hY (by decide) hm)
  have hok1 := drv_ok hX hY (show 41 < 256 by decide) hm
  have HR : Hid (hbase X Y P Q G m = G ^ (1 + numb (drv X Y 41 m).1 (drv X Y 41 m).2 0 (Q - 1)) % P) := Lib.hid rfl
  obtain ⟨p1, hp1⟩ : ∃ p1, p1 = (drv X Y 41 m).1 := ⟨_, rfl⟩
  obtain ⟨p2, hp2⟩ : ∃ p2, p2 = (drv X Y 41 m).2 := ⟨_, rfl⟩
  rw [← hp1, ← hp2] at HD1 HR
  have HNu := Lib.hid (fun w => refNumber_any p1 p2 0 (Q - 1) w (by rw [hp1]; exact hok1.1) (by rw [hp2]; exact hok1.2) (by decide))
  have hlt : numb p1 p2 0 (Q - 1) < Q - 1 := by unfold numb; rw [if_neg (by have := HQP.out; omega)]; exact Nat.mod_lt _ (by have := HQP.out; omega)
  obtain ⟨r, hr⟩ : ∃ r, r = numb p1 p2 0 (Q - 1) := ⟨_, rfl⟩
  rw [← hr] at HNu HR hlt
  have HPR := Lib.hid (fun (bs n : Nat) (w : World) (hn : n < M) => by
    have h := powerRef_any bs n P w (by omega) (by omega) (by unfold M at hn; omega) (by have := HQP.out; omega) (by have := HQP.out; omega)
    rw [pwr_nat bs n P] at h; exact h)
  have HP1 : Hid (∀ w, Calls Try.prog 70 #[.int .u64 (G : Int), .int .u64 (1 + (r : Int)), .int .u64 (P : Int)] w fun e w' => e = .returned (.int .u64 (hbase X Y P Q G m : Int)) ∧ w = w') := Lib.hid (fun w => by
    have h := HPR.out G (1 + r) w (by have := HQP.out; unfold M; omega)
    rw [← HR.out, show ((1 + r : Nat) : Int) = 1 + (r : Int) by omega] at h; exact h)
  have HD2 := Lib.hid (fun w => refDerive_any A B 53 0 w hA hB (by decide) (by decide))
  have HPXb : Hid (∀ i, px (2 ^ D.toNat) n f i ≤ 1048575 ∨ E ≤ i) := Lib.hid (fun i => by
    by_cases h1 : i < n
    · left; unfold px; rw [if_pos h1]; have := hf i h1; omega
    · by_cases h2 : E ≤ i
      · right; exact h2
      · left; unfold px; rw [if_neg h1]; have := HQP.out.2.2.2.2.2; omega)
  have HVO := Lib.hid (fun (gb cg x : Nat) (w : World) (hc1 : E + 1 ≤ cg) (hc2 : cg ≤ maxLen) (hx : x ≤ 1048575) (hcl : ∀ i, i < E + 1 → w.cell? ⟨gb, i, none⟩ = some (.int .u64 (cof X Y Q i : Int))) => valueOf_any Q gb (E + 1) cg x (cof X Y Q) w HQP.out.2.2.1 HQP.out.2.2.2.1 hx (fun i _ => by have := cof_lt X Y Q i (by have := HQP.out; omega); have := HQP.out; omega) hc1 hc2 hcl)
  have HSm : Hid (∀ x, sm (cof X Y Q) x (E + 1) % Q < M) := Lib.hid (fun x => by
    have h1 : sm (cof X Y Q) x (E + 1) % Q < Q := Nat.mod_lt _ (by have := HQP.out; omega)
    have := HQP.out; unfold M; omega)
  have HPW := Lib.hid (fun (bs x : Nat) (w : World) => HPR.out bs (sm (cof X Y Q) x (E + 1) % Q) w (HSm.out x))
  have HPwv : Hid (∀ x, hbase X Y P Q G m ^ (sm (cof X Y Q) x (E + 1) % Q) % P = pwv X Y P Q G m E x) := Lib.hid (fun x => rfl)
  have HMK := Lib.hid (fun (w : World) => refMaskKey_any (pwv X Y P Q G m E 0) w (by
    have h1 : pwv X Y P Q G m E 0 < P := Nat.mod_lt _ (by have := HQP.out; omega)
    have := HQP.out; unfold M; omega))
  have hok := drv_ok (show 0 < M by decide) (show 0 < M by decide) (show 42 < 256 by decide) (show pwv X Y P Q G m E 0 < M by
    have h1 : pwv X Y P Q G m E 0 < P := Nat.mod_lt _ (by have := HQP.out; omega)
    have := HQP.out; unfold M; omega)
  have HEN := Lib.hid (fun (w : World) => refEncrypt_any (drv 0 0 42 (pwv X Y P Q G m E 0)).1 (drv 0 0 42 (pwv X Y P Q G m E 0)).2 A B w hok.1 hok.2 hA hB)
  have HRe := Lib.hid (fun (w : World) => receivers_any D w hd1 hd2)
  have hn8 : n ≤ 8 := by have := HQP.out; omega
  have he8 : E ≤ 8 := HQP.out.2.2.2.2.2.1
  have hq1' : (2 : Int) ≤ (Q : Int) := by have := HQP.out; omega
  have hq2' : (Q : Int) ≤ 1048575 := by have := HQP.out; omega
  have hQ1 : ((Q - 1 : Nat) : Int) = (Q : Int) - 1 := by omega
  rw [hQ1] at HNu
  have hr2 : (r : Int) ≤ 1048575 := by omega
  have HTl := Lib.hid (fun k => ptl_snoc X Y P Q G m E (2 ^ D.toNat) n f k)
  generalize 2 ^ D.toNat = T at HPXb HTl HQP HRe hnT ⊢
  have HHF := Lib.hid hf
  obtain ⟨bs, hbs⟩ : ∃ bs, bs = hbase X Y P Q G m := ⟨_, rfl⟩
  rw [← hbs] at HP1 HPwv ⊢
  obtain ⟨EX, hEX⟩ : ∃ EX, EX = (enc (drv 0 0 42 (pwv X Y P Q G m E 0)).1 (drv 0 0 42 (pwv X Y P Q G m E 0)).2 A B).1 := ⟨_, rfl⟩
  obtain ⟨EY, hEY⟩ : ∃ EY, EY = (enc (drv 0 0 42 (pwv X Y P Q G m E 0)).1 (drv 0 0 42 (pwv X Y P Q G m E 0)).2 A B).2 := ⟨_, rfl⟩
  rw [← hEX, ← hEY] at HEN ⊢
  obtain ⟨MX, hMX⟩ : ∃ MX, MX = (drv 0 0 42 (pwv X Y P Q G m E 0)).1 := ⟨_, rfl⟩
  obtain ⟨MY, hMY⟩ : ∃ MY, MY = (drv 0 0 42 (pwv X Y P Q G m E 0)).2 := ⟨_, rfl⟩
  rw [← hMX, ← hMY] at HEN HMK
  obtain ⟨U, hU⟩ : ∃ U, U = (drv A B 53 0).1 := ⟨_, rfl⟩
  obtain ⟨V, hV⟩ : ∃ V, V = (drv A B 53 0).2 := ⟨_, rfl⟩
  rw [← hU, ← hV] at HD2 ⊢
  have HAD := Lib.hid had
  clear hbs hEX hEY hMX hMY hU hV hN hW4 hQ hcl hX hY hA hB hm hk4 hd1 hd2 he1 he2 hgr htq hok hc hf hok1 hp1 hp2 hr hQ1 hlt HR HPR had
  go_enter Try.func62, Try.ntmps62
  go_wp2_with fail
  rw [← HW.out, ← HN.out]
  simp only [Nat.add_assoc, Nat.reduceAdd]
  refine wp_region_inv (by kernel_rfl) (by kernel_rfl) (fun l a' w' => a' = { tmps := #[Value.agg (kl X Y).toArray, Value.agg #[Value.int IntKind.u8 K, Value.int IntKind.i64 D, Value.int IntKind.i64 E, Value.int IntKind.u64 P, Value.int IntKind.u64 Q, Value.int IntKind.u64 G], Value.slice ad n c, Value.agg (kl A B).toArray, Value.int .u64 (m : Int), Value.pointer (some ⟨N, 0, none⟩), Value.pointer (some ⟨N + 1, 0, none⟩), undef, Value.pointer (some ⟨N + 2, 0, none⟩), undef, Value.pointer (some ⟨N + 3, 0, none⟩), bif l 6 then Value.int .u64 (P : Int) else undef, bif l 7 then Value.int .u64 (Q : Int) else undef, undef, undef, undef, undef, undef, bif l 0 then Value.pointer (some ⟨N + 1, 3, none⟩) else undef, bif l 1 then Value.pointer (some ⟨N + 1, 3, none⟩) else undef, bif l 2 then Value.int .u64 (P : Int) else undef, bif l 3 then Value.pointer (some ⟨N + 1, 3, none⟩) else undef, bif l 4 then Value.pointer (some ⟨N + 1, 4, none⟩) else undef, bif l 5 then Value.int .u64 (Q : Int) else undef, undef, undef, undef, undef, undef, undef, undef, undef, undef, undef, undef, undef, undef, undef, undef, undef, undef, undef, undef, undef, undef, undef, undef, undef, undef, undef, undef, undef, undef, undef, undef, undef, undef, undef, undef, undef, undef, undef, undef, undef, undef, undef, undef, undef, undef, undef, undef, undef, undef, undef, undef, undef, undef, undef, undef, undef, undef, undef, undef, undef, undef, undef, undef, undef, undef, undef, undef, undef, undef, undef, undef, undef], defers := [] } ∧ w' = W4.drew) ⟨rfl, rfl⟩ ?_ ?_
  · rintro l a' w' i ⟨rfl, rfl⟩ hi hli hpre
    have hi2 : i < 8 := hi
    have hcase : i = 0 ∨ i = 1 ∨ i = 2 ∨ i = 3 ∨ i = 4 ∨ i = 5 ∨ i = 6 ∨ i = 7 := by omega
    clear hi hi2
    rcases hcase with rfl | rfl | rfl | rfl | rfl | rfl | rfl | rfl
    · -- 0: Op.fieldAddr 28 (Operand.tmp 6) 3
      refine wpOp_step rfl (fun K' hK => ?_)
      clear hpre
      rw [if_pos (by rfl)]
      go_simp
      exact hK _ _ ⟨by simp [upd, Act.put], rfl⟩
    · -- 1: Op.fieldAddr 26 (Operand.tmp 18) 0
      have p0 : l 0 = true := hpre _ rfl ⟨0, .data⟩ (by simp) rfl
      refine wpOp_step rfl (fun K' hK => ?_)
      simp only [p0, cond_true, cond_false]
      clear hpre
      rw [if_pos (by rfl)]
      go_simp
      exact hK _ _ ⟨by simp [upd, Act.put, p0], rfl⟩
    · -- 2: Op.load 24 (Operand.tmp 19)
      have p1 : l 1 = true := hpre _ rfl ⟨1, .data⟩ (by simp) rfl
      refine wpOp_step rfl (fun K' hK => ?_)
      simp only [p1, cond_true, cond_false]
      clear hpre
      rw [if_pos (by rfl)]
      have z := (HEnv.out W4.drew ((Below.refl _ _).drew)).2.1
      have z3 := z.c3
      go_simp
      exact hK _ _ ⟨by simp [upd, Act.put, p1], rfl⟩
    · -- 3: Op.fieldAddr 28 (Operand.tmp 6) 3
      refine wpOp_step rfl (fun K' hK => ?_)
      clear hpre
      rw [if_pos (by rfl)]
      go_simp
      exact hK _ _ ⟨by simp [upd, Act.put], rfl⟩
    · -- 4: Op.fieldAddr 26 (Operand.tmp 21) 1
      have p3 : l 3 = true := hpre _ rfl ⟨3, .data⟩ (by simp) rfl
      refine wpOp_step rfl (fun K' hK => ?_)
      simp only [p3, cond_true, cond_false]
      clear hpre
      rw [if_pos (by rfl)]
      go_simp
      exact hK _ _ ⟨by simp [upd, Act.put, p3], rfl⟩
    · -- 5: Op.load 24 (Operand.tmp 22)
      have p4 : l 4 = true := hpre _ rfl ⟨4, .data⟩ (by simp) rfl
      refine wpOp_step rfl (fun K' hK => ?_)
      simp only [p4, cond_true, cond_false]
      clear hpre
      rw [if_pos (by rfl)]
      have z := (HEnv.out W4.drew ((Below.refl _ _).drew)).2.1
      have z4 := z.c4
      go_simp
      exact hK _ _ ⟨by simp [upd, Act.put, p4], rfl⟩
    · -- 6: Op.assign (Operand.tmp 20)
      have p2 : l 2 = true := hpre _ rfl ⟨2, .data⟩ (by simp) rfl
      have p0 : l 0 = true := hpre _ rfl ⟨0, .phase⟩ (by simp) rfl
      have p1 : l 1 = true := hpre _ rfl ⟨1, .phase⟩ (by simp) rfl
      refine wpOp_step rfl (fun K' hK => ?_)
      simp only [p2, p0, p1, cond_true, cond_false]
      clear hpre
      rw [if_pos (by rfl)]
      go_simp
      exact hK _ _ ⟨by simp [upd, Act.put, p2, p0, p1], rfl⟩
    · -- 7: Op.assign (Operand.tmp 23)
      have p5 : l 5 = true := hpre _ rfl ⟨5, .data⟩ (by simp) rfl
      have p6 : l 6 = true := hpre _ rfl ⟨6, .chain⟩ (by simp) rfl
      have p0 : l 0 = true := hpre _ rfl ⟨0, .phase⟩ (by simp) rfl
      have p1 : l 1 = true := hpre _ rfl ⟨1, .phase⟩ (by simp) rfl
      have p2 : l 2 = true := hpre _ rfl ⟨2, .phase⟩ (by simp) rfl
      have p3 : l 3 = true := hpre _ rfl ⟨3, .phase⟩ (by simp) rfl
      have p4 : l 4 = true := hpre _ rfl ⟨4, .phase⟩ (by simp) rfl
      refine wpOp_step rfl (fun K' hK => ?_)
      simp only [p5, p6, p0, p1, p2, p3, p4, cond_true, cond_false]
      clear hpre
      rw [if_pos (by rfl)]
      go_simp
      exact hK _ _ ⟨by simp [upd, Act.put, p5, p6, p0, p1, p2, p3, p4], rfl⟩
  · rintro l a' w9 hall ⟨rfl, rfl⟩
    simp only [hall 0 (by decide), hall 1 (by decide), hall 2 (by decide), hall 3 (by decide), hall 4 (by decide), hall 5 (by decide), hall 6 (by decide), hall 7 (by decide), cond_true]
    clear hall
    obtain ⟨Wq, hWq⟩ : ∃ Wq, Wq = W4.drew := ⟨_, rfl⟩
    have HBq : Hid (Below (N + 4) W4 Wq ∧ N + 4 ≤ Wq.heap.size) := Lib.hid (by rw [hWq]; exact ⟨(Below.refl _ _).drew, by show N + 4 ≤ W4.heap.size; rw [HS4.out]; exact Nat.le_refl _⟩)
    rw [← hWq]
    clear hWq
    obtain ⟨k0, ⟨c0, c1, c2, c3, c4, c5⟩, _, _, _⟩ := HEnv.out Wq HBq.out.1
    have HK0 := Lib.hid k0
    clear k0
    go_wp2_with (refine wpList_load_key rfl _ rfl _ rfl X Y HK0.out ?_)
    refine (HCF.out _).mono ?_
    rintro e W2 ⟨⟨g, cg, rfl, q1, q2, q3, q4⟩, hb2⟩
    have HB2 : Hid (Below (N + 4) W4 W2 ∧ N + 4 ≤ W2.heap.size) := Lib.hid ⟨HBq.out.1.trans (hb2.mono HBq.out.2), Nat.le_trans HBq.out.2 hb2.size⟩
    have HG2 : Hid (GRow W2 (N + 4) g cg (E + 1) (fun i => .int .u64 (cof X Y Q i : Int))) := Lib.hid ⟨Nat.le_trans HBq.out.2 q1, cells_lt q4 (by omega), q2, q3, q4⟩
    clear c0 c1 c2 c3 c4 c5 hb2 q1 q2 q3 q4
    have HK2 := Lib.hid (HEnv.out W2 HB2.out.1).1
    go_wp2_with (refine wpList_load_key rfl _ rfl _ rfl X Y HK2.out ?_)
    refine (HD1.out _).mono ?_
    rintro e W3 ⟨rfl, hb3⟩
    have HB3 : Hid (Below W2.heap.size W2 W3) := Lib.hid hb3
    clear hb3
    go_wp2_with fail
    refine (HNu.out _).mono ?_
    rintro e W5 ⟨rfl, hb5⟩
    have hB25 : Below W2.heap.size W2 W5 := HB3.out.trans (hb5.mono HB3.out.size)
    have HBa : Hid (Below (N + 4) W4 W5 ∧ N + 4 ≤ W5.heap.size) := Lib.hid ⟨HB2.out.1.trans (hB25.mono HB2.out.2), Nat.le_trans HB2.out.2 hB25.size⟩
    have HGa : Hid (GRow W5 (N + 4) g cg (E + 1) (fun i => .int .u64 (cof X Y Q i : Int))) := Lib.hid (HG2.out.keep hB25)
    clear hb5 hB25 HB3 HG2 HB2 HBq HK0 HK2
    go_wp2_with fail
    refine wp_region_inv (by kernel_rfl) (by kernel_rfl) (fun l a' w' => ∃ (hb : Nat) (w1 : World), a' = { tmps := #[Value.agg (kl X Y).toArray, Value.agg #[Value.int IntKind.u8 K, Value.int IntKind.i64 D, Value.int IntKind.i64 E, Value.int IntKind.u64 P, Value.int IntKind.u64 Q, Value.int IntKind.u64 G], Value.slice ad n c, Value.agg (kl A B).toArray, Value.int .u64 (m : Int), Value.pointer (some ⟨N, 0, none⟩), Value.pointer (some ⟨N + 1, 0, none⟩), undef, Value.pointer (some ⟨N + 2, 0, none⟩), undef, Value.pointer (some ⟨N + 3, 0, none⟩), Value.int .u64 (P : Int), Value.int .u64 (Q : Int), Value.slice (some ⟨g, 0, none⟩) (E + 1) cg, Value.int .u64 (1 + r : Int), bif l 9 then Value.pointer (some ⟨hb, 0, none⟩) else undef, undef, undef, Value.pointer (some ⟨N + 1, 3, none⟩), Value.pointer (some ⟨N + 1, 3, none⟩), Value.int .u64 (P : Int), Value.pointer (some ⟨N + 1, 3, none⟩), Value.pointer (some ⟨N + 1, 4, none⟩), Value.int .u64 (Q : Int), Value.agg (kl X Y).toArray, Value.agg #[Value.int IntKind.u8 K, Value.int IntKind.i64 D, Value.int IntKind.i64 E, Value.int IntKind.u64 P, Value.int IntKind.u64 Q, Value.int IntKind.u64 G], Value.slice (some ⟨g, 0, none⟩) (E + 1) cg, Value.agg (kl X Y).toArray, Value.int .u64 (m : Int), Value.agg (kl p1 p2).toArray, Value.int .u64 (Q : Int), Value.int .u64 (Q - 1 : Int), Value.int .u64 (r : Int), Value.int .u64 (1 + r : Int), bif l 0 then Value.pointer (some ⟨N + 1, 3, none⟩) else undef, bif l 1 then Value.pointer (some ⟨N + 1, 5, none⟩) else undef, bif l 2 then Value.int .u64 (G : Int) else undef, bif l 3 then Value.int .u64 (1 + r : Int) else undef, bif l 4 then Value.int .u64 (P : Int) else undef, bif l 5 then Value.int .u64 (bs : Int) else undef, bif l 6 then Value.agg (kl A B).toArray else undef, bif l 7 then Value.agg (kl U V).toArray else undef, bif l 8 then Value.agg (hdl (.slice none 0 0) bs 0 0 U V).toArray else undef, undef, undef, undef, undef, undef, undef, undef, undef, undef, undef, undef, undef, undef, undef, undef, undef, undef, undef, undef, undef, undef, undef, undef, undef, undef, undef, undef, undef, undef, undef, undef, undef, undef, undef, undef, undef, undef, undef, undef, undef, undef, undef, undef, undef, undef, undef, undef, undef, undef, undef, undef, undef, undef], defers := [] } ∧ (Below W5.heap.size W5 w1) ∧ (l 9 = true → NewB w1 W5.heap.size hb 35) ∧ w' = (bif l 10 then w1.setCells hb 0 (hdl (.slice none 0 0) bs 0 0 U V) else w1) ∧ (l 10 = true → (l 0 && l 1 && l 2 && l 3 && l 4 && l 5 && l 6 && l 7 && l 8 && l 9) = true)) ⟨0, _, rfl, (Below.refl _ _).drew, (fun h => by cases h), rfl, (fun h => by cases h)⟩ ?_ ?_
    · rintro l a' w' i ⟨hb, w1, rfl, hB, cA, hw, oS⟩ hi' hli hpre
      have hi2 : i < 11 := hi'
      have hcase : i = 0 ∨ i = 1 ∨ i = 2 ∨ i = 3 ∨ i = 4 ∨ i = 5 ∨ i = 6 ∨ i = 7 ∨ i = 8 ∨ i = 9 ∨ i = 10 := by omega
      clear hi' hi2
      rcases hcase with rfl | rfl | rfl | rfl | rfl | rfl | rfl | rfl | rfl | rfl | rfl
      · -- 0: Op.fieldAddr 28 (Operand.tmp 6) 3
        refine wpOp_step rfl (fun K' hK => ?_)
        have nS : l 10 = false := by
          cases h : l 10
          · rfl
          · have := oS h; simp [hli] at this
        rw [nS, cond_false] at hw
        subst hw
        clear hpre
        rw [if_pos (by rfl)]
        go_simp
        exact hK _ _ ⟨hb, w', by simp [upd, Act.put], hB, (fun e0 => (cA (by simpa [upd] using e0))), by simp [upd, nS], (fun e => absurd e (by simp [upd, nS]))⟩
      · -- 1: Op.fieldAddr 26 (Operand.tmp 34) 2
        have p0 : l 0 = true := hpre _ rfl ⟨0, .data⟩ (by simp) rfl
        refine wpOp_step rfl (fun K' hK => ?_)
        have nS : l 10 = false := by
          cases h : l 10
          · rfl
          · have := oS h; simp [hli] at this
        rw [nS, cond_false] at hw
        subst hw
        simp only [p0, cond_true, cond_false]
        clear hpre
        rw [if_pos (by rfl)]
        go_simp
        exact hK _ _ ⟨hb, w', by simp [upd, Act.put, p0], hB, (fun e0 => (cA (by simpa [upd] using e0))), by simp [upd, nS], (fun e => absurd e (by simp [upd, nS]))⟩
      · -- 2: Op.load 24 (Operand.tmp 35)
        have p1 : l 1 = true := hpre _ rfl ⟨1, .data⟩ (by simp) rfl
        refine wpOp_step rfl (fun K' hK => ?_)
        have nS : l 10 = false := by
          cases h : l 10
          · rfl
          · have := oS h; simp [hli] at this
        rw [nS, cond_false] at hw
        subst hw
        simp only [p1, cond_true, cond_false]
        clear hpre
        rw [if_pos (by rfl)]
        obtain ⟨K0, s0, K2, _, _⟩ := HEnv.out _ (HBa.out.1.trans (hB.mono HBa.out.2))
        have z5 := s0.c5
        go_simp
        exact hK _ _ ⟨hb, w', by simp [upd, Act.put, p1], hB, (fun e0 => (cA (by simpa [upd] using e0))), by simp [upd, nS], (fun e => absurd e (by simp [upd, nS]))⟩
      · -- 3: Op.move (Operand.tmp 14)
        refine wpOp_step rfl (fun K' hK => ?_)
        have nS : l 10 = false := by
          cases h : l 10
          · rfl
          · have := oS h; simp [hli] at this
        rw [nS, cond_false] at hw
        subst hw
        clear hpre
        rw [if_pos (by rfl)]
        go_simp
        exact hK _ _ ⟨hb, w', by simp [upd, Act.put], hB, (fun e0 => (cA (by simpa [upd] using e0))), by simp [upd, nS], (fun e => absurd e (by simp [upd, nS]))⟩
      · -- 4: Op.move (Operand.tmp 11)
        refine wpOp_step rfl (fun K' hK => ?_)
        have nS : l 10 = false := by
          cases h : l 10
          · rfl
          · have := oS h; simp [hli] at this
        rw [nS, cond_false] at hw
        subst hw
        clear hpre
        rw [if_pos (by rfl)]
        go_simp
        exact hK _ _ ⟨hb, w', by simp [upd, Act.put], hB, (fun e0 => (cA (by simpa [upd] using e0))), by simp [upd, nS], (fun e => absurd e (by simp [upd, nS]))⟩
      · -- 5: Op.call { callee := Callee.value (Operand.func 70), args := 
        have p2 : l 2 = true := hpre _ rfl ⟨2, .data⟩ (by simp) rfl
        have p3 : l 3 = true := hpre _ rfl ⟨3, .data⟩ (by simp) rfl
        have p4 : l 4 = true := hpre _ rfl ⟨4, .data⟩ (by simp) rfl
        refine wpOp_step rfl (fun K' hK => ?_)
        have nS : l 10 = false := by
          cases h : l 10
          · rfl
          · have := oS h; simp [hli] at this
        rw [nS, cond_false] at hw
        subst hw
        simp only [p2, p3, p4, cond_true, cond_false]
        clear hpre
        rw [if_pos (by rfl)]
        go_simp
        refine (HP1.out _).mono ?_
        rintro e w5 ⟨rfl, rfl⟩
        exact hK _ _ ⟨hb, w', by simp [upd, Act.put, p2, p3, p4], hB, (fun e0 => (cA (by simpa [upd] using e0))), by simp [upd, nS], (fun e => absurd e (by simp [upd, nS]))⟩
      · -- 6: Op.load 23 (Operand.tmp 8)
        refine wpOp_step rfl (fun K' hK => ?_)
        have nS : l 10 = false := by
          cases h : l 10
          · rfl
          · have := oS h; simp [hli] at this
        rw [nS, cond_false] at hw
        subst hw
        clear hpre
        rw [if_pos (by rfl)]
        obtain ⟨K0, s0, K2, _, _⟩ := HEnv.out _ (HBa.out.1.trans (hB.mono HBa.out.2))
        refine wp_load_mid 23 _ rfl _ 0 rfl (kl A B) _ K2 Try.underlying23 rfl (by rw [kl_len]; exact size23) ?_
        exact hK _ _ ⟨hb, w', by simp [upd, Act.put], hB, (fun e0 => (cA (by simpa [upd] using e0))), by simp [upd, nS], (fun e => absurd e (by simp [upd, nS]))⟩
      · -- 7: Op.call { callee := Callee.value (Operand.func 74), args := 
        have p6 : l 6 = true := hpre _ rfl ⟨6, .data⟩ (by simp) rfl
        have p5 : l 5 = true := hpre _ rfl ⟨5, .chain⟩ (by simp) rfl
        refine wpOp_step rfl (fun K' hK => ?_)
        have nS : l 10 = false := by
          cases h : l 10
          · rfl
          · have := oS h; simp [hli] at this
        rw [nS, cond_false] at hw
        subst hw
        simp only [p6, p5, cond_true, cond_false]
        clear hpre
        rw [if_pos (by rfl)]
        go_simp
        refine (HD2.out _).mono ?_
        rintro e w5 ⟨rfl, hb5⟩
        exact hK _ _ ⟨hb, w5, by simp [upd, Act.put, p6, p5], (hB.trans (hb5.mono hB.size)), (fun e0 => ((cA (by simpa [upd] using e0))).keep hb5), by simp [upd, nS], (fun e => absurd e (by simp [upd, nS]))⟩
      · -- 8: Op.build 60 #[(1, Operand.tmp 39), (4, Operand.tmp 41)]
        have p5 : l 5 = true := hpre _ rfl ⟨5, .data⟩ (by simp) rfl
        have p7 : l 7 = true := hpre _ rfl ⟨7, .data⟩ (by simp) rfl
        refine wpOp_step rfl (fun K' hK => ?_)
        have nS : l 10 = false := by
          cases h : l 10
          · rfl
          · have := oS h; simp [hli] at this
        rw [nS, cond_false] at hw
        subst hw
        simp only [p5, p7, cond_true, cond_false]
        clear hpre
        rw [if_pos (by rfl)]
        refine wp_build60 _ _ rfl bs U V rfl rfl ?_
        exact hK _ _ ⟨hb, w', by simp [upd, Act.put, p5, p7], hB, (fun e0 => (cA (by simpa [upd] using e0))), by simp [upd, nS], (fun e => absurd e (by simp [upd, nS]))⟩
      · -- 9: Op.alloc 60
        refine wpOp_step rfl (fun K' hK => ?_)
        have nS : l 10 = false := by
          cases h : l 10
          · rfl
          · have := oS h; simp [hli] at this
        rw [nS, cond_false] at hw
        subst hw
        clear hpre
        rw [if_pos (by rfl)]
        go_simp
        rw [hd_zero]
        exact hK _ _ ⟨w'.heap.size, w'.alloc (.cells (hdl (.slice none 0 0) 0 0 0 0 0).toArray 60), by simp [upd, Act.put], (hB.alloc hB.size _), (fun _ => ⟨hB.size, by simp, there_new _ _ _ 35 (by simp [hd_len])⟩), by simp [upd, nS], (fun e => absurd e (by simp [upd, nS]))⟩
      · -- 10: Op.store 60 (Operand.tmp 15) (Operand.tmp 42)
        have p9 : l 9 = true := hpre _ rfl ⟨9, .data⟩ (by simp) rfl
        have p8 : l 8 = true := hpre _ rfl ⟨8, .data⟩ (by simp) rfl
        have p7 : l 7 = true := hpre _ rfl ⟨7, .chain⟩ (by simp) rfl
        have p0 : l 0 = true := hpre _ rfl ⟨0, .phase⟩ (by simp) rfl
        have p1 : l 1 = true := hpre _ rfl ⟨1, .phase⟩ (by simp) rfl
        have p2 : l 2 = true := hpre _ rfl ⟨2, .phase⟩ (by simp) rfl
        have p3 : l 3 = true := hpre _ rfl ⟨3, .phase⟩ (by simp) rfl
        have p4 : l 4 = true := hpre _ rfl ⟨4, .phase⟩ (by simp) rfl
        have p5 : l 5 = true := hpre _ rfl ⟨5, .phase⟩ (by simp) rfl
        have p6 : l 6 = true := hpre _ rfl ⟨6, .phase⟩ (by simp) rfl
        refine wpOp_step rfl (fun K' hK => ?_)
        have nS : l 10 = false := hli
        rw [nS, cond_false] at hw
        subst hw
        simp only [p9, p8, p7, p0, p1, p2, p3, p4, p5, p6, cond_true, cond_false]
        clear hpre
        rw [if_pos (by rfl)]
        have gA := cA p9
        refine wp_store_mid 60 _ _ rfl hb 0 (hdl (.slice none 0 0) bs 0 0 U V).toArray rfl rfl (by simpa [hd_len] using gA.2.2) (by simp [hd_len, size60]) (hd_arr _ _ _ _ _ _ rfl) ?_
        rw [List.toList_toArray]
        exact hK _ _ ⟨hb, w', by simp [upd, Act.put, p9, p8, p7, p0, p1, p2, p3, p4, p5, p6], hB, (fun e0 => (cA (by simpa [upd] using e0))), by simp [upd], (fun _ => by simp [upd, p9, p8, p7, p0, p1, p2, p3, p4, p5, p6])⟩
    · rintro l a' w9 hall ⟨hb, w1, rfl, hB, cA, hw, oS⟩
      rw [hall 10 (by decide), cond_true] at hw
      subst hw
      replace cA := cA (hall 9 (by decide))
      simp only [hall 0 (by decide), hall 1 (by decide), hall 2 (by decide), hall 3 (by decide), hall 4 (by decide), hall 5 (by decide), hall 6 (by decide), hall 7 (by decide), hall 8 (by decide), hall 9 (by decide), cond_true]
      clear hall oS
      obtain ⟨W6, hW6⟩ : ∃ W6, W6 = w1.setCells hb 0 (hdl (.slice none 0 0) bs 0 0 U V) := ⟨_, rfl⟩
      obtain ⟨L, hL⟩ : ∃ L, L = W6.heap.size := ⟨_, rfl⟩
      have hb6 : Below W5.heap.size W5 W6 := by rw [hW6]; exact below_setCells _ _ _ _ hB cA.1
      have hs6 : hb < W6.heap.size := by rw [hW6, size_setCells]; exact cA.2.1
      have HH6 : Hid (HdAt W6 hb (.slice none 0 0) bs 0 0 U V) := Lib.hid (by rw [hW6]; exact HdAt.stored cA.2.2 _ _ _ _ _ _)
      have HLE : Hid (L = W6.heap.size ∧ N + 4 ≤ L ∧ hb < L ∧ g < L ∧ g < hb ∧ N + 4 ≤ hb) := Lib.hid (by
        have h1 := HBa.out.2; have h2 := hb6.size; have h3 := cA.1; have h4 := HGa.out.2.1
        exact ⟨hL, by omega, by omega, by omega, by omega, by omega⟩)
      have HE6 : Hid (∀ w1, W6.grownBy w1 (some hb) → Below N w w1 ∧ KeyAt w1 (N + 2) A B ∧ w1.there (N + 3) 0 35 ∧ SchAt w1 (N + 1) K D (E : Int) P Q G ∧ GRow w1 (N + 4) g cg (E + 1) (fun i => .int .u64 (cof X Y Q i : Int))) := Lib.hid (fun w1 hg => by
        have hle := HLE.out
        have hb4 : Below (N + 4) W4 W6 := HBa.out.1.trans (hb6.mono HBa.out.2)
        obtain ⟨_, ss, k2, hh, hbn⟩ := HEnv.out W6 hb4
        have hc : ∀ o v, W6.cell? ⟨N + 1, o, none⟩ = some v → w1.cell? ⟨N + 1, o, none⟩ = some v := fun o v h => (World.cell?_of_block (hg.block (N + 1) (by omega) (by intro e; injection e with e; omega))).trans h
        exact ⟨hbn.grown hg (by omega) (fun k e => by injection e with e; omega), k2.grown hg (by intro e; injection e with e; omega), there_grown hh.2 hg hh.lt (by intro e; injection e with e; omega), ⟨hc _ _ ss.c0, hc _ _ ss.c1, hc _ _ ss.c2, hc _ _ ss.c3, hc _ _ ss.c4, hc _ _ ss.c5⟩, (HGa.out.keep hb6).grown hg (by intro e; injection e with e; omega)⟩)
      have hE1 : 1 ≤ E := HQP.out.2.2.2.2.1
      have hT64 : T ≤ 64 := HQP.out.2.2.2.2.2.2.2
      have hT1 : 1 ≤ T := HQP.out.2.2.2.2.2.2.1
      rw [← hW6]
      clear hW6 hB cA hL hb6 hs6 HBa HGa HEnv HCF HD1 HNu HP1 HD2
      go_wp2_with fail
      go_loopw [16] (fun i wr => ∃ (k : Nat) (v : Value), k ≤ E ∧ i = .int .i64 (k : Int) ∧ Hid (wr.ownsRow L 46 2 v k (ptl X Y P Q G m E T n f k)) ∧ Hid (HdAt wr hb v bs 0 0 U V) ∧ Hid (W6.grownBy wr (some hb))) (fun i _ => E - (intOf i).toNat)
      case atStart => exact ⟨0, .slice none 0 0, by omega, rfl, Lib.hid (World.ownsRow_nil _ _ _ _), HH6, Lib.hid (gb_refl _ _)⟩
      case round =>
        obtain ⟨k, v, hk, rfl, HO, HHr, HGr⟩ := hrel
        have HRs : Hid (L ≤ wr.heap.size) := Lib.hid (by rw [HLE.out.1]; exact HGr.out.size)
        obtain ⟨c0, c1, c2, c3, c4, c5⟩ := (HE6.out wr HGr.out).2.2.2.1
        by_cases hlt : k < E
        · have HWr : Hid (∀ w1, Below L wr w1 → HdAt w1 hb v bs 0 0 U V ∧ W6.grownBy w1 (some hb)) := Lib.hid (fun w1 h => ⟨HHr.out.below h HLE.out.2.2.1, gb_below HGr.out (by rw [HLE.out.1]; exact Nat.le_refl _) h⟩)
          have HSn := Lib.hid (HTl.out k)
          have hx1 : px T n f k ≤ 1048575 := by rcases HPXb.out k with h1 | h1; exact h1; omega
          obtain ⟨x, hx⟩ : ∃ x, x = px T n f k := ⟨_, rfl⟩
          have HXE := Lib.hid hx
          rw [← hx] at HSn hx1
          have HATk := Lib.hid (fun (w : World) hcl => HVO.out g cg x w (HE6.out wr HGr.out).2.2.2.2.2.2.1 (HE6.out wr HGr.out).2.2.2.2.2.2.2.1 hx1 hcl)
          have HPWk := Lib.hid (fun (w : World) => HPW.out bs x w)
          rw [HPwv.out x] at HPWk
          obtain ⟨y, hy⟩ : ∃ y, y = pwv X Y P Q G m E x := ⟨_, rfl⟩
          rw [← hy] at HSn HPWk
          obtain ⟨ex, hex⟩ : ∃ ex, ex = sm (cof X Y Q) x (E + 1) % Q := ⟨_, rfl⟩
          rw [← hex] at HATk HPWk
          obtain ⟨xs, hxs⟩ : ∃ xs, xs = ptl X Y P Q G m E T n f k := ⟨_, rfl⟩
          rw [← hxs] at HO HSn
          clear hx hy hex hxs hx1
          by_cases hkn : k < n
          · have hg1 := HCl.out wr (HE6.out wr HGr.out).1 k hkn
            have hu64 := HHF.out k hkn
            have hxu : px T n f k = f k + 1 := by unfold px; rw [if_pos hkn]
            have HXU := Lib.hid (HXE.out.trans hxu)
            clear hxu
            obtain ⟨u, hu⟩ : ∃ u, u = f k := ⟨_, rfl⟩
            rw [← hu] at hg1 hu64 HXU
            clear hu
            rcases HAD.out with h0 | h0
            · omega
            subst h0
            have l1 : (0 : Int) ≤ (k : Int) := by omega
            have l2 : (k : Int) < (n : Int) := by omega
            go_wp2_with fail
            refine (HRe.out _).mono ?_
            rintro e w5 ⟨rfl, rfl⟩
            go_wp2_with fail
            rw [show ((u : Int) + 1) = (x : Int) by have := HXU.out; omega]
            refine wp_region_inv (by kernel_rfl) (by kernel_rfl) (fun l a' w' => ∃ (v2 : Value) (gb : Nat) (w1 : World), a' = { tmps := #[Value.agg (kl X Y).toArray, Value.agg #[Value.int IntKind.u8 K, Value.int IntKind.i64 D, Value.int IntKind.i64 E, Value.int IntKind.u64 P, Value.int IntKind.u64 Q, Value.int IntKind.u64 G], Value.slice (some ⟨b, off, none⟩) n c, Value.agg (kl A B).toArray, Value.int .u64 (m : Int), Value.pointer (some ⟨N, 0, none⟩), Value.pointer (some ⟨N + 1, 0, none⟩), undef, Value.pointer (some ⟨N + 2, 0, none⟩), undef, Value.pointer (some ⟨N + 3, 0, none⟩), Value.int .u64 (P : Int), Value.int .u64 (Q : Int), Value.slice (some ⟨g, 0, none⟩) (E + 1) cg, Value.int .u64 (1 + r : Int), Value.pointer (some ⟨hb, 0, none⟩), Value.int .i64 (k : Int), Value.int .u64 (x : Int), Value.pointer (some ⟨N + 1, 3, none⟩), Value.pointer (some ⟨N + 1, 3, none⟩), Value.int .u64 (P : Int), Value.pointer (some ⟨N + 1, 3, none⟩), Value.pointer (some ⟨N + 1, 4, none⟩), Value.int .u64 (Q : Int), Value.agg (kl X Y).toArray, Value.agg #[Value.int IntKind.u8 K, Value.int IntKind.i64 D, Value.int IntKind.i64 E, Value.int IntKind.u64 P, Value.int IntKind.u64 Q, Value.int IntKind.u64 G], Value.slice (some ⟨g, 0, none⟩) (E + 1) cg, Value.agg (kl X Y).toArray, Value.int .u64 (m : Int), Value.agg (kl p1 p2).toArray, Value.int .u64 (Q : Int), Value.int .u64 (Q - 1 : Int), Value.int .u64 (r : Int), Value.int .u64 (1 + r : Int), Value.pointer (some ⟨N + 1, 3, none⟩), Value.pointer (some ⟨N + 1, 5, none⟩), Value.int .u64 (G : Int), Value.int .u64 (1 + r : Int), Value.int .u64 (P : Int), Value.int .u64 (bs : Int), Value.agg (kl A B).toArray, Value.agg (kl U V).toArray, Value.agg (hdl (Value.slice none 0 0) bs 0 0 U V).toArray, Value.int .i64 (k : Int), Value.pointer (some ⟨N + 1, 2, none⟩), Value.int .i64 (E : Int), Value.bool true, u47, u48, Value.pointer (some ⟨N + 1, 1, none⟩), Value.int .i64 (D : Int), Value.int .i64 (T : Int), Value.int .i64 (T + 1 : Int), Value.int .i64 (k : Int), Value.int .i64 (T + 1 + k : Int), Value.slice (some ⟨b, off, none⟩) n c, Value.int .i64 (n : Int), Value.int .i64 (T + 1 + k - n : Int), Value.int .u64 (T + 1 + k - n : Int), Value.int .i64 (k : Int), Value.slice (some ⟨b, off, none⟩) n c, Value.int .i64 (n : Int), Value.bool true, Value.slice (some ⟨b, off, none⟩) n c, Value.int .i64 (k : Int), Value.pointer (some ⟨b, off + k, none⟩), Value.int .i64 (u : Int), Value.int .u64 (u : Int), Value.int .u64 (x : Int), bif l 0 then Value.pointer (some ⟨hb, 2, none⟩) else u69, bif l 1 then v else u70, bif l 2 then Value.int .u64 (x : Int) else u71, bif l 3 then Value.pointer (some ⟨hb, 1, none⟩) else u72, bif l 4 then Value.int .u64 (bs : Int) else u73, bif l 5 then Value.int .u64 (Q : Int) else u74, bif l 6 then Value.slice (some ⟨g, 0, none⟩) (E + 1) cg else u75, bif l 7 then Value.int .u64 (x : Int) else u76, bif l 8 then Value.int .u64 (ex : Int) else u77, bif l 9 then Value.int .u64 (P : Int) else u78, bif l 10 then Value.int .u64 (y : Int) else u79, bif l 11 then Value.agg #[Value.int .u64 (x : Int), Value.int .u64 (y : Int)] else u80, bif l 12 then Value.slice (some ⟨gb, 0, none⟩) 1 1 else u81, bif l 13 then v2 else u82, bif l 14 then Value.pointer (some ⟨hb, 2, none⟩) else u83, undef, undef, undef, undef, undef, undef, undef, undef, undef, undef, undef, undef], defers := [] } ∧ (Below L wr w1) ∧ (l 13 = false → w1.ownsRow L 46 2 v k xs) ∧ (l 12 = true → l 13 = false → ∀ j u, [Value.int .u64 (x : Int), Value.int .u64 (y : Int)][j]? = some u → w1.cell? ((⟨gb, 0, none⟩ : Addr).add j) = some u) ∧ (l 13 = true → w1.ownsRow L 46 2 v2 (k + 1) (xs ++ [Value.int .u64 (x : Int), Value.int .u64 (y : Int)])) ∧ w' = (bif l 15 then w1.setCell ⟨hb, 2, none⟩ v2 else w1) ∧ (l 15 = true → (l 0 && l 1 && l 2 && l 3 && l 4 && l 5 && l 6 && l 7 && l 8 && l 9 && l 10 && l 11 && l 12 && l 13 && l 14) = true)) ⟨v, 0, _, rfl, (Below.refl _ _).drew, (fun _ => HO.out), (fun h => by cases h), (fun h => by cases h), rfl, (fun h => by cases h)⟩ ?_ ?_
            · rintro l a' w' i ⟨v2, gb, w1, rfl, hB, cR, cS, cO, hw, oS⟩ hi' hli hpre
              have hi2 : i < 16 := hi'
              have hcase : i = 0 ∨ i = 1 ∨ i = 2 ∨ i = 3 ∨ i = 4 ∨ i = 5 ∨ i = 6 ∨ i = 7 ∨ i = 8 ∨ i = 9 ∨ i = 10 ∨ i = 11 ∨ i = 12 ∨ i = 13 ∨ i = 14 ∨ i = 15 := by omega
              clear hi' hi2
              rcases hcase with rfl | rfl | rfl | rfl | rfl | rfl | rfl | rfl | rfl | rfl | rfl | rfl | rfl | rfl | rfl | rfl
              · -- 0: Op.fieldAddr 60 (Operand.tmp 15) 2
                refine wpOp_step rfl (fun K' hK => ?_)
                have nS : l 15 = false := by
                  cases h : l 15
                  · rfl
                  · have := oS h; simp [hli] at this
                rw [nS, cond_false] at hw
                subst hw
                clear hpre
                rw [if_pos (by rfl)]
                go_simp
                exact hK _ _ ⟨v2, gb, w', by simp [upd, Act.put, hkn], hB, (fun e0 => (cR (by simpa [upd] using e0))), (fun e0 e1 => (cS (by simpa [upd] using e0) (by simpa [upd] using e1))), (fun e0 => (cO (by simpa [upd] using e0))), by simp [upd, nS], (fun e => absurd e (by simp [upd, nS]))⟩
              · -- 1: Op.load 30 (Operand.tmp 69)
                have p0 : l 0 = true := hpre _ rfl ⟨0, .data⟩ (by simp) rfl
                refine wpOp_step rfl (fun K' hK => ?_)
                have nS : l 15 = false := by
                  cases h : l 15
                  · rfl
                  · have := oS h; simp [hli] at this
                rw [nS, cond_false] at hw
                subst hw
                simp only [p0, cond_true, cond_false]
                clear hpre
                rw [if_pos (by rfl)]
                obtain ⟨hH, hG⟩ := HWr.out _ hB
                have z2 := hH.c2
                go_simp
                exact hK _ _ ⟨v2, gb, w', by simp [upd, Act.put, p0, hkn], hB, (fun e0 => (cR (by simpa [upd] using e0))), (fun e0 e1 => (cS (by simpa [upd] using e0) (by simpa [upd] using e1))), (fun e0 => (cO (by simpa [upd] using e0))), by simp [upd, nS], (fun e => absurd e (by simp [upd, nS]))⟩
              · -- 2: Op.move (Operand.tmp 17)
                refine wpOp_step rfl (fun K' hK => ?_)
                have nS : l 15 = false := by
                  cases h : l 15
                  · rfl
                  · have := oS h; simp [hli] at this
                rw [nS, cond_false] at hw
                subst hw
                clear hpre
                rw [if_pos (by rfl)]
                go_simp
                exact hK _ _ ⟨v2, gb, w', by simp [upd, Act.put, hkn], hB, (fun e0 => (cR (by simpa [upd] using e0))), (fun e0 e1 => (cS (by simpa [upd] using e0) (by simpa [upd] using e1))), (fun e0 => (cO (by simpa [upd] using e0))), by simp [upd, nS], (fun e => absurd e (by simp [upd, nS]))⟩
              · -- 3: Op.fieldAddr 60 (Operand.tmp 15) 1
                refine wpOp_step rfl (fun K' hK => ?_)
                have nS : l 15 = false := by
                  cases h : l 15
                  · rfl
                  · have := oS h; simp [hli] at this
                rw [nS, cond_false] at hw
                subst hw
                clear hpre
                rw [if_pos (by rfl)]
                go_simp
                exact hK _ _ ⟨v2, gb, w', by simp [upd, Act.put, hkn], hB, (fun e0 => (cR (by simpa [upd] using e0))), (fun e0 e1 => (cS (by simpa [upd] using e0) (by simpa [upd] using e1))), (fun e0 => (cO (by simpa [upd] using e0))), by simp [upd, nS], (fun e => absurd e (by simp [upd, nS]))⟩
              · -- 4: Op.load 24 (Operand.tmp 72)
                have p3 : l 3 = true := hpre _ rfl ⟨3, .data⟩ (by simp) rfl
                refine wpOp_step rfl (fun K' hK => ?_)
                have nS : l 15 = false := by
                  cases h : l 15
                  · rfl
                  · have := oS h; simp [hli] at this
                rw [nS, cond_false] at hw
                subst hw
                simp only [p3, cond_true, cond_false]
                clear hpre
                rw [if_pos (by rfl)]
                obtain ⟨hH, hG⟩ := HWr.out _ hB
                have z1 := hH.c1
                go_simp
                exact hK _ _ ⟨v2, gb, w', by simp [upd, Act.put, p3, hkn], hB, (fun e0 => (cR (by simpa [upd] using e0))), (fun e0 e1 => (cS (by simpa [upd] using e0) (by simpa [upd] using e1))), (fun e0 => (cO (by simpa [upd] using e0))), by simp [upd, nS], (fun e => absurd e (by simp [upd, nS]))⟩
              · -- 5: Op.move (Operand.tmp 12)
                refine wpOp_step rfl (fun K' hK => ?_)
                have nS : l 15 = false := by
                  cases h : l 15
                  · rfl
                  · have := oS h; simp [hli] at this
                rw [nS, cond_false] at hw
                subst hw
                clear hpre
                rw [if_pos (by rfl)]
                go_simp
                exact hK _ _ ⟨v2, gb, w', by simp [upd, Act.put, hkn], hB, (fun e0 => (cR (by simpa [upd] using e0))), (fun e0 e1 => (cS (by simpa [upd] using e0) (by simpa [upd] using e1))), (fun e0 => (cO (by simpa [upd] using e0))), by simp [upd, nS], (fun e => absurd e (by simp [upd, nS]))⟩
              · -- 6: Op.move (Operand.tmp 13)
                refine wpOp_step rfl (fun K' hK => ?_)
                have nS : l 15 = false := by
                  cases h : l 15
                  · rfl
                  · have := oS h; simp [hli] at this
                rw [nS, cond_false] at hw
                subst hw
                clear hpre
                rw [if_pos (by rfl)]
                go_simp
                exact hK _ _ ⟨v2, gb, w', by simp [upd, Act.put, hkn], hB, (fun e0 => (cR (by simpa [upd] using e0))), (fun e0 e1 => (cS (by simpa [upd] using e0) (by simpa [upd] using e1))), (fun e0 => (cO (by simpa [upd] using e0))), by simp [upd, nS], (fun e => absurd e (by simp [upd, nS]))⟩
              · -- 7: Op.move (Operand.tmp 17)
                refine wpOp_step rfl (fun K' hK => ?_)
                have nS : l 15 = false := by
                  cases h : l 15
                  · rfl
                  · have := oS h; simp [hli] at this
                rw [nS, cond_false] at hw
                subst hw
                clear hpre
                rw [if_pos (by rfl)]
                go_simp
                exact hK _ _ ⟨v2, gb, w', by simp [upd, Act.put, hkn], hB, (fun e0 => (cR (by simpa [upd] using e0))), (fun e0 e1 => (cS (by simpa [upd] using e0) (by simpa [upd] using e1))), (fun e0 => (cO (by simpa [upd] using e0))), by simp [upd, nS], (fun e => absurd e (by simp [upd, nS]))⟩
              · -- 8: Op.call { callee := Callee.value (Operand.func 45), args := 
                have p5 : l 5 = true := hpre _ rfl ⟨5, .data⟩ (by simp) rfl
                have p6 : l 6 = true := hpre _ rfl ⟨6, .data⟩ (by simp) rfl
                have p7 : l 7 = true := hpre _ rfl ⟨7, .data⟩ (by simp) rfl
                refine wpOp_step rfl (fun K' hK => ?_)
                have nS : l 15 = false := by
                  cases h : l 15
                  · rfl
                  · have := oS h; simp [hli] at this
                rw [nS, cond_false] at hw
                subst hw
                simp only [p5, p6, p7, cond_true, cond_false]
                clear hpre
                rw [if_pos (by rfl)]
                obtain ⟨hH, hG⟩ := HWr.out _ hB
                have hcl := (HE6.out _ hG).2.2.2.2.2.2.2.2
                go_simp
                refine (HATk.out _ hcl).mono ?_
                rintro e w5 ⟨rfl, rfl⟩
                exact hK _ _ ⟨v2, gb, w', by simp [upd, Act.put, p5, p6, p7, hkn], hB, (fun e0 => (cR (by simpa [upd] using e0))), (fun e0 e1 => (cS (by simpa [upd] using e0) (by simpa [upd] using e1))), (fun e0 => (cO (by simpa [upd] using e0))), by simp [upd, nS], (fun e => absurd e (by simp [upd, nS]))⟩
              · -- 9: Op.move (Operand.tmp 11)
                refine wpOp_step rfl (fun K' hK => ?_)
                have nS : l 15 = false := by
                  cases h : l 15
                  · rfl
                  · have := oS h; simp [hli] at this
                rw [nS, cond_false] at hw
                subst hw
                clear hpre
                rw [if_pos (by rfl)]
                go_simp
                exact hK _ _ ⟨v2, gb, w', by simp [upd, Act.put, hkn], hB, (fun e0 => (cR (by simpa [upd] using e0))), (fun e0 e1 => (cS (by simpa [upd] using e0) (by simpa [upd] using e1))), (fun e0 => (cO (by simpa [upd] using e0))), by simp [upd, nS], (fun e => absurd e (by simp [upd, nS]))⟩
              · -- 10: Op.call { callee := Callee.value (Operand.func 70), args := 
                have p4 : l 4 = true := hpre _ rfl ⟨4, .data⟩ (by simp) rfl
                have p8 : l 8 = true := hpre _ rfl ⟨8, .data⟩ (by simp) rfl
                have p9 : l 9 = true := hpre _ rfl ⟨9, .data⟩ (by simp) rfl
                refine wpOp_step rfl (fun K' hK => ?_)
                have nS : l 15 = false := by
                  cases h : l 15
                  · rfl
                  · have := oS h; simp [hli] at this
                rw [nS, cond_false] at hw
                subst hw
                simp only [p4, p8, p9, cond_true, cond_false]
                clear hpre
                rw [if_pos (by rfl)]
                go_simp
                refine (HPWk.out _).mono ?_
                rintro e w5 ⟨rfl, rfl⟩
                exact hK _ _ ⟨v2, gb, w', by simp [upd, Act.put, p4, p8, p9, hkn], hB, (fun e0 => (cR (by simpa [upd] using e0))), (fun e0 e1 => (cS (by simpa [upd] using e0) (by simpa [upd] using e1))), (fun e0 => (cO (by simpa [upd] using e0))), by simp [upd, nS], (fun e => absurd e (by simp [upd, nS]))⟩
              · -- 11: Op.build 46 #[(0, Operand.tmp 71), (1, Operand.tmp 79)]
                have p2 : l 2 = true := hpre _ rfl ⟨2, .data⟩ (by simp) rfl
                have p10 : l 10 = true := hpre _ rfl ⟨10, .data⟩ (by simp) rfl
                refine wpOp_step rfl (fun K' hK => ?_)
                have nS : l 15 = false := by
                  cases h : l 15
                  · rfl
                  · have := oS h; simp [hli] at this
                rw [nS, cond_false] at hw
                subst hw
                simp only [p2, p10, cond_true, cond_false]
                clear hpre
                rw [if_pos (by rfl)]
                refine wp_build46 _ _ rfl x y rfl rfl ?_
                exact hK _ _ ⟨v2, gb, w', by simp [upd, Act.put, p2, p10, hkn], hB, (fun e0 => (cR (by simpa [upd] using e0))), (fun e0 e1 => (cS (by simpa [upd] using e0) (by simpa [upd] using e1))), (fun e0 => (cO (by simpa [upd] using e0))), by simp [upd, nS], (fun e => absurd e (by simp [upd, nS]))⟩
              · -- 12: Op.buildSlice 30 1 #[(0, Operand.tmp 80)]
                have p11 : l 11 = true := hpre _ rfl ⟨11, .data⟩ (by simp) rfl
                refine wpOp_step rfl (fun K' hK => ?_)
                have nS : l 15 = false := by
                  cases h : l 15
                  · rfl
                  · have := oS h; simp [hli] at this
                rw [nS, cond_false] at hw
                subst hw
                simp only [p11, cond_true, cond_false]
                clear hpre
                rw [if_pos (by rfl)]
                go_simp
                exact hK _ _ ⟨v2, w'.heap.size, w'.alloc (.cells #[Value.int .u64 (x : Int), Value.int .u64 (y : Int)] 46), by simp [upd, Act.put, p11, hkn], (hB.alloc (Nat.le_trans HRs.out hB.size) _), (fun e0 => ((cR (by simpa [upd] using e0))).alloc _), (fun _ _ => cell_two_new _ _ _ _), (fun e0 => ((cO (by simpa [upd] using e0))).alloc _), by simp [upd, nS], (fun e => absurd e (by simp [upd, nS]))⟩
              · -- 13: Op.call { callee := Callee.builtin Builtin.append, args := #
                have p1 : l 1 = true := hpre _ rfl ⟨1, .data⟩ (by simp) rfl
                have p12 : l 12 = true := hpre _ rfl ⟨12, .data⟩ (by simp) rfl
                have p10 : l 10 = true := hpre _ rfl ⟨10, .chain⟩ (by simp) rfl
                refine wpOp_step rfl (fun K' hK => ?_)
                have nS : l 15 = false := by
                  cases h : l 15
                  · rfl
                  · have := oS h; simp [hli] at this
                rw [nS, cond_false] at hw
                subst hw
                have n13 : l 13 = false := hli
                simp only [p1, p12, p10, cond_true, cond_false]
                clear hpre
                rw [if_pos (by rfl)]
                refine wp_append_own_wide _ _ _ 30 rfl L 46 i6 _ 2 16 Try.underlying30 hi6 hz06 hz16 hz26 rfl (by omega) v k xs rfl (cR n13) ⟨gb, 0, none⟩ 1 1 [Value.int .u64 (x : Int), Value.int .u64 (y : Int)] rfl rfl (cS p12 n13) (by intro u hu; simp at hu; rcases hu with rfl | rfl <;> rfl) (by unfold maxLen; omega) (by omega) (Nat.le_trans HRs.out hB.size) ?_
                intro v1 w6 hown6 hg6 _
                exact hK _ _ ⟨v1, gb, w6, by simp [upd, Act.put, p1, p12, p10, hkn], hB.grown hg6 (Nat.le_trans HRs.out hB.size) (fun b hb => own_block (cR n13) hb.symm), (fun e0 => absurd e0 (by simp [upd])), (fun e0 e1 => absurd e1 (by simp [upd])), (fun _ => hown6), by simp [upd, nS], (fun e => absurd e (by simp [upd, nS]))⟩
              · -- 14: Op.fieldAddr 60 (Operand.tmp 15) 2
                have p0 : l 0 = true := hpre _ rfl ⟨0, .phase⟩ (by simp) rfl
                have p1 : l 1 = true := hpre _ rfl ⟨1, .phase⟩ (by simp) rfl
                have p2 : l 2 = true := hpre _ rfl ⟨2, .phase⟩ (by simp) rfl
                have p3 : l 3 = true := hpre _ rfl ⟨3, .phase⟩ (by simp) rfl
                have p4 : l 4 = true := hpre _ rfl ⟨4, .phase⟩ (by simp) rfl
                have p5 : l 5 = true := hpre _ rfl ⟨5, .phase⟩ (by simp) rfl
                have p6 : l 6 = true := hpre _ rfl ⟨6, .phase⟩ (by simp) rfl
                have p7 : l 7 = true := hpre _ rfl ⟨7, .phase⟩ (by simp) rfl
                have p8 : l 8 = true := hpre _ rfl ⟨8, .phase⟩ (by simp) rfl
                have p9 : l 9 = true := hpre _ rfl ⟨9, .phase⟩ (by simp) rfl
                have p10 : l 10 = true := hpre _ rfl ⟨10, .phase⟩ (by simp) rfl
                have p11 : l 11 = true := hpre _ rfl ⟨11, .phase⟩ (by simp) rfl
                have p12 : l 12 = true := hpre _ rfl ⟨12, .phase⟩ (by simp) rfl
                have p13 : l 13 = true := hpre _ rfl ⟨13, .phase⟩ (by simp) rfl
                refine wpOp_step rfl (fun K' hK => ?_)
                have nS : l 15 = false := by
                  cases h : l 15
                  · rfl
                  · have := oS h; simp [hli] at this
                rw [nS, cond_false] at hw
                subst hw
                simp only [p0, p1, p2, p3, p4, p5, p6, p7, p8, p9, p10, p11, p12, p13, cond_true, cond_false]
                clear hpre
                rw [if_pos (by rfl)]
                go_simp
                exact hK _ _ ⟨v2, gb, w', by simp [upd, Act.put, p0, p1, p2, p3, p4, p5, p6, p7, p8, p9, p10, p11, p12, p13, hkn], hB, (fun e0 => (cR (by simpa [upd] using e0))), (fun e0 e1 => (cS (by simpa [upd] using e0) (by simpa [upd] using e1))), (fun e0 => (cO (by simpa [upd] using e0))), by simp [upd, nS], (fun e => absurd e (by simp [upd, nS]))⟩
              · -- 15: Op.store 30 (Operand.tmp 83) (Operand.tmp 82)
                have p14 : l 14 = true := hpre _ rfl ⟨14, .data⟩ (by simp) rfl
                have p13 : l 13 = true := hpre _ rfl ⟨13, .data⟩ (by simp) rfl
                have p0 : l 0 = true := hpre _ rfl ⟨0, .phase⟩ (by simp) rfl
                have p1 : l 1 = true := hpre _ rfl ⟨1, .phase⟩ (by simp) rfl
                have p2 : l 2 = true := hpre _ rfl ⟨2, .phase⟩ (by simp) rfl
                have p3 : l 3 = true := hpre _ rfl ⟨3, .phase⟩ (by simp) rfl
                have p4 : l 4 = true := hpre _ rfl ⟨4, .phase⟩ (by simp) rfl
                have p5 : l 5 = true := hpre _ rfl ⟨5, .phase⟩ (by simp) rfl
                have p6 : l 6 = true := hpre _ rfl ⟨6, .phase⟩ (by simp) rfl
                have p7 : l 7 = true := hpre _ rfl ⟨7, .phase⟩ (by simp) rfl
                have p8 : l 8 = true := hpre _ rfl ⟨8, .phase⟩ (by simp) rfl
                have p9 : l 9 = true := hpre _ rfl ⟨9, .phase⟩ (by simp) rfl
                have p10 : l 10 = true := hpre _ rfl ⟨10, .phase⟩ (by simp) rfl
                have p11 : l 11 = true := hpre _ rfl ⟨11, .phase⟩ (by simp) rfl
                have p12 : l 12 = true := hpre _ rfl ⟨12, .phase⟩ (by simp) rfl
                refine wpOp_step rfl (fun K' hK => ?_)
                have nS : l 15 = false := hli
                rw [nS, cond_false] at hw
                subst hw
                simp only [p14, p13, p0, p1, p2, p3, p4, p5, p6, p7, p8, p9, p10, p11, p12, cond_true, cond_false]
                clear hpre
                rw [if_pos (by rfl)]
                obtain ⟨hH, hG⟩ := HWr.out _ hB
                have z2 := hH.c2
                have z3 := hH.fr 2 (by omega)
                have c6 := cO p13
                obtain ⟨A6, m6, d6, hv6⟩ := own_form c6
                subst hv6
                go_simp
                exact hK _ _ ⟨_, gb, w', by simp [upd, Act.put, p14, p13, p0, p1, p2, p3, p4, p5, p6, p7, p8, p9, p10, p11, p12, hkn], hB, (fun e0 => (cR (by simpa [upd] using e0))), (fun e0 e1 => (cS (by simpa [upd] using e0) (by simpa [upd] using e1))), (fun _ => c6), by simp [upd], (fun _ => by simp [upd, p14, p13, p0, p1, p2, p3, p4, p5, p6, p7, p8, p9, p10, p11, p12])⟩
            · rintro l a' w9 hall ⟨v2, gb, w1, rfl, hB, cR, cS, cO, hw, oS⟩
              rw [hall 15 (by decide), cond_true] at hw
              subst hw
              clear cR
              clear cS
              replace cO := cO (hall 13 (by decide))
              simp only [hall 0 (by decide), hall 1 (by decide), hall 2 (by decide), hall 3 (by decide), hall 4 (by decide), hall 5 (by decide), hall 6 (by decide), hall 7 (by decide), hall 8 (by decide), hall 9 (by decide), hall 10 (by decide), hall 11 (by decide), hall 12 (by decide), hall 13 (by decide), hall 14 (by decide), cond_true]
              clear hall oS
              obtain ⟨hH, hG⟩ := HWr.out _ hB
              have HO9 : Hid ((w1.setCell ⟨hb, 2, none⟩ v2).ownsRow L 46 2 v2 (k + 1) (ptl X Y P Q G m E T n f (k + 1))) := Lib.hid (by
                rw [HSn.out]
                exact ownsRow_setCell_other cO (fun e => by have h1 := own_block cO e.symm; have h2 := HLE.out.2.2.1; simp at h1; omega) v2)
              have HH9 : Hid (HdAt (w1.setCell ⟨hb, 2, none⟩ v2) hb v2 bs 0 0 U V) := Lib.hid (hH.setPts v2)
              have HG9 : Hid (W6.grownBy (w1.setCell ⟨hb, 2, none⟩ v2) (some hb)) := Lib.hid (gb_set hG 2 v2)
              obtain ⟨w10, hw10⟩ : ∃ w10, w10 = w1.setCell ⟨hb, 2, none⟩ v2 := ⟨_, rfl⟩
              rw [← hw10] at HO9 HH9 HG9 ⊢
              clear hw10 hH hG hB cO HO HHr HGr HWr HATk HPWk c0 c1 c2 c3 c4 c5
              go_wp2_with fail
              go_roundw
              case rel => exact ⟨k + 1, v2, by omega, by go_num, HO9, HH9, HG9⟩
              case measure => simp [intOf]; omega
          · have hxu : px T n f k = T + 1 + (k - n) := by unfold px; rw [if_neg hkn]
            have HXU := Lib.hid (HXE.out.trans hxu)
            clear hxu
            have hkn' : (n : Int) ≤ (k : Int) := by omega
            have hdn : decide ((k : Int) < (n : Int)) = false := decide_eq_false (by omega)
            go_wp2_with fail
            refine (HRe.out _).mono ?_
            rintro e w5 ⟨rfl, rfl⟩
            go_wp2_with fail
            rw [show ((T : Int) + 1 + (k : Int) - (n : Int)) = (x : Int) by have := HXU.out; omega]
            refine wp_region_inv (by kernel_rfl) (by kernel_rfl) (fun l a' w' => ∃ (v2 : Value) (gb : Nat) (w1 : World), a' = { tmps := #[Value.agg (kl X Y).toArray, Value.agg #[Value.int IntKind.u8 K, Value.int IntKind.i64 D, Value.int IntKind.i64 E, Value.int IntKind.u64 P, Value.int IntKind.u64 Q, Value.int IntKind.u64 G], Value.slice ad n c, Value.agg (kl A B).toArray, Value.int .u64 (m : Int), Value.pointer (some ⟨N, 0, none⟩), Value.pointer (some ⟨N + 1, 0, none⟩), undef, Value.pointer (some ⟨N + 2, 0, none⟩), undef, Value.pointer (some ⟨N + 3, 0, none⟩), Value.int .u64 (P : Int), Value.int .u64 (Q : Int), Value.slice (some ⟨g, 0, none⟩) (E + 1) cg, Value.int .u64 (1 + r : Int), Value.pointer (some ⟨hb, 0, none⟩), Value.int .i64 (k : Int), Value.int .u64 (x : Int), Value.pointer (some ⟨N + 1, 3, none⟩), Value.pointer (some ⟨N + 1, 3, none⟩), Value.int .u64 (P : Int), Value.pointer (some ⟨N + 1, 3, none⟩), Value.pointer (some ⟨N + 1, 4, none⟩), Value.int .u64 (Q : Int), Value.agg (kl X Y).toArray, Value.agg #[Value.int IntKind.u8 K, Value.int IntKind.i64 D, Value.int IntKind.i64 E, Value.int IntKind.u64 P, Value.int IntKind.u64 Q, Value.int IntKind.u64 G], Value.slice (some ⟨g, 0, none⟩) (E + 1) cg, Value.agg (kl X Y).toArray, Value.int .u64 (m : Int), Value.agg (kl p1 p2).toArray, Value.int .u64 (Q : Int), Value.int .u64 (Q - 1 : Int), Value.int .u64 (r : Int), Value.int .u64 (1 + r : Int), Value.pointer (some ⟨N + 1, 3, none⟩), Value.pointer (some ⟨N + 1, 5, none⟩), Value.int .u64 (G : Int), Value.int .u64 (1 + r : Int), Value.int .u64 (P : Int), Value.int .u64 (bs : Int), Value.agg (kl A B).toArray, Value.agg (kl U V).toArray, Value.agg (hdl (Value.slice none 0 0) bs 0 0 U V).toArray, Value.int .i64 (k : Int), Value.pointer (some ⟨N + 1, 2, none⟩), Value.int .i64 (E : Int), Value.bool true, u47, u48, Value.pointer (some ⟨N + 1, 1, none⟩), Value.int .i64 (D : Int), Value.int .i64 (T : Int), Value.int .i64 (T + 1 : Int), Value.int .i64 (k : Int), Value.int .i64 (T + 1 + k : Int), Value.slice ad n c, Value.int .i64 (n : Int), Value.int .i64 (x : Int), Value.int .u64 (x : Int), Value.int .i64 (k : Int), Value.slice ad n c, Value.int .i64 (n : Int), Value.bool false, u63, u64, u65, u66, u67, u68, bif l 0 then Value.pointer (some ⟨hb, 2, none⟩) else u69, bif l 1 then v else u70, bif l 2 then Value.int .u64 (x : Int) else u71, bif l 3 then Value.pointer (some ⟨hb, 1, none⟩) else u72, bif l 4 then Value.int .u64 (bs : Int) else u73, bif l 5 then Value.int .u64 (Q : Int) else u74, bif l 6 then Value.slice (some ⟨g, 0, none⟩) (E + 1) cg else u75, bif l 7 then Value.int .u64 (x : Int) else u76, bif l 8 then Value.int .u64 (ex : Int) else u77, bif l 9 then Value.int .u64 (P : Int) else u78, bif l 10 then Value.int .u64 (y : Int) else u79, bif l 11 then Value.agg #[Value.int .u64 (x : Int), Value.int .u64 (y : Int)] else u80, bif l 12 then Value.slice (some ⟨gb, 0, none⟩) 1 1 else u81, bif l 13 then v2 else u82, bif l 14 then Value.pointer (some ⟨hb, 2, none⟩) else u83, undef, undef, undef, undef, undef, undef, undef, undef, undef, undef, undef, undef], defers := [] } ∧ (Below L wr w1) ∧ (l 13 = false → w1.ownsRow L 46 2 v k xs) ∧ (l 12 = true → l 13 = false → ∀ j u, [Value.int .u64 (x : Int), Value.int .u64 (y : Int)][j]? = some u → w1.cell? ((⟨gb, 0, none⟩ : Addr).add j) = some u) ∧ (l 13 = true → w1.ownsRow L 46 2 v2 (k + 1) (xs ++ [Value.int .u64 (x : Int), Value.int .u64 (y : Int)])) ∧ w' = (bif l 15 then w1.setCell ⟨hb, 2, none⟩ v2 else w1) ∧ (l 15 = true → (l 0 && l 1 && l 2 && l 3 && l 4 && l 5 && l 6 && l 7 && l 8 && l 9 && l 10 && l 11 && l 12 && l 13 && l 14) = true)) ⟨v, 0, _, rfl, (Below.refl _ _).drew, (fun _ => HO.out), (fun h => by cases h), (fun h => by cases h), rfl, (fun h => by cases h)⟩ ?_ ?_
            · rintro l a' w' i ⟨v2, gb, w1, rfl, hB, cR, cS, cO, hw, oS⟩ hi' hli hpre
              have hi2 : i < 16 := hi'
              have hcase : i = 0 ∨ i = 1 ∨ i = 2 ∨ i = 3 ∨ i = 4 ∨ i = 5 ∨ i = 6 ∨ i = 7 ∨ i = 8 ∨ i = 9 ∨ i = 10 ∨ i = 11 ∨ i = 12 ∨ i = 13 ∨ i = 14 ∨ i = 15 := by omega
              clear hi' hi2
              rcases hcase with rfl | rfl | rfl | rfl | rfl | rfl | rfl | rfl | rfl | rfl | rfl | rfl | rfl | rfl | rfl | rfl
              · -- 0: Op.fieldAddr 60 (Operand.tmp 15) 2
                refine wpOp_step rfl (fun K' hK => ?_)
                have nS : l 15 = false := by
                  cases h : l 15
                  · rfl
                  · have := oS h; simp [hli] at this
                rw [nS, cond_false] at hw
                subst hw
                clear hpre
                rw [if_pos (by rfl)]
                go_simp
                exact hK _ _ ⟨v2, gb, w', by simp [upd, Act.put, hkn], hB, (fun e0 => (cR (by simpa [upd] using e0))), (fun e0 e1 => (cS (by simpa [upd] using e0) (by simpa [upd] using e1))), (fun e0 => (cO (by simpa [upd] using e0))), by simp [upd, nS], (fun e => absurd e (by simp [upd, nS]))⟩
              · -- 1: Op.load 30 (Operand.tmp 69)
                have p0 : l 0 = true := hpre _ rfl ⟨0, .data⟩ (by simp) rfl
                refine wpOp_step rfl (fun K' hK => ?_)
                have nS : l 15 = false := by
                  cases h : l 15
                  · rfl
                  · have := oS h; simp [hli] at this
                rw [nS, cond_false] at hw
                subst hw
                simp only [p0, cond_true, cond_false]
                clear hpre
                rw [if_pos (by rfl)]
                obtain ⟨hH, hG⟩ := HWr.out _ hB
                have z2 := hH.c2
                go_simp
                exact hK _ _ ⟨v2, gb, w', by simp [upd, Act.put, p0, hkn], hB, (fun e0 => (cR (by simpa [upd] using e0))), (fun e0 e1 => (cS (by simpa [upd] using e0) (by simpa [upd] using e1))), (fun e0 => (cO (by simpa [upd] using e0))), by simp [upd, nS], (fun e => absurd e (by simp [upd, nS]))⟩
              · -- 2: Op.move (Operand.tmp 17)
                refine wpOp_step rfl (fun K' hK => ?_)
                have nS : l 15 = false := by
                  cases h : l 15
                  · rfl
                  · have := oS h; simp [hli] at this
                rw [nS, cond_false] at hw
                subst hw
                clear hpre
                rw [if_pos (by rfl)]
                go_simp
                exact hK _ _ ⟨v2, gb, w', by simp [upd, Act.put, hkn], hB, (fun e0 => (cR (by simpa [upd] using e0))), (fun e0 e1 => (cS (by simpa [upd] using e0) (by simpa [upd] using e1))), (fun e0 => (cO (by simpa [upd] using e0))), by simp [upd, nS], (fun e => absurd e (by simp [upd, nS]))⟩
              · -- 3: Op.fieldAddr 60 (Operand.tmp 15) 1
                refine wpOp_step rfl (fun K' hK => ?_)
                have nS : l 15 = false := by
                  cases h : l 15
                  · rfl
                  · have := oS h; simp [hli] at this
                rw [nS, cond_false] at hw
                subst hw
                clear hpre
                rw [if_pos (by rfl)]
                go_simp
                exact hK _ _ ⟨v2, gb, w', by simp [upd, Act.put, hkn], hB, (fun e0 => (cR (by simpa [upd] using e0))), (fun e0 e1 => (cS (by simpa [upd] using e0) (by simpa [upd] using e1))), (fun e0 => (cO (by simpa [upd] using e0))), by simp [upd, nS], (fun e => absurd e (by simp [upd, nS]))⟩
              · -- 4: Op.load 24 (Operand.tmp 72)
                have p3 : l 3 = true := hpre _ rfl ⟨3, .data⟩ (by simp) rfl
                refine wpOp_step rfl (fun K' hK => ?_)
                have nS : l 15 = false := by
                  cases h : l 15
                  · rfl
                  · have := oS h; simp [hli] at this
                rw [nS, cond_false] at hw
                subst hw
                simp only [p3, cond_true, cond_false]
                clear hpre
                rw [if_pos (by rfl)]
                obtain ⟨hH, hG⟩ := HWr.out _ hB
                have z1 := hH.c1
                go_simp
                exact hK _ _ ⟨v2, gb, w', by simp [upd, Act.put, p3, hkn], hB, (fun e0 => (cR (by simpa [upd] using e0))), (fun e0 e1 => (cS (by simpa [upd] using e0) (by simpa [upd] using e1))), (fun e0 => (cO (by simpa [upd] using e0))), by simp [upd, nS], (fun e => absurd e (by simp [upd, nS]))⟩
              · -- 5: Op.move (Operand.tmp 12)
                refine wpOp_step rfl (fun K' hK => ?_)
                have nS : l 15 = false := by
                  cases h : l 15
                  · rfl
                  · have := oS h; simp [hli] at this
                rw [nS, cond_false] at hw
                subst hw
                clear hpre
                rw [if_pos (by rfl)]
                go_simp
                exact hK _ _ ⟨v2, gb, w', by simp [upd, Act.put, hkn], hB, (fun e0 => (cR (by simpa [upd] using e0))), (fun e0 e1 => (cS (by simpa [upd] using e0) (by simpa [upd] using e1))), (fun e0 => (cO (by simpa [upd] using e0))), by simp [upd, nS], (fun e => absurd e (by simp [upd, nS]))⟩
              · -- 6: Op.move (Operand.tmp 13)
                refine wpOp_step rfl (fun K' hK => ?_)
                have nS : l 15 = false := by
                  cases h : l 15
                  · rfl
                  · have := oS h; simp [hli] at this
                rw [nS, cond_false] at hw
                subst hw
                clear hpre
                rw [if_pos (by rfl)]
                go_simp
                exact hK _ _ ⟨v2, gb, w', by simp [upd, Act.put, hkn], hB, (fun e0 => (cR (by simpa [upd] using e0))), (fun e0 e1 => (cS (by simpa [upd] using e0) (by simpa [upd] using e1))), (fun e0 => (cO (by simpa [upd] using e0))), by simp [upd, nS], (fun e => absurd e (by simp [upd, nS]))⟩
              · -- 7: Op.move (Operand.tmp 17)
                refine wpOp_step rfl (fun K' hK => ?_)
                have nS : l 15 = false := by
                  cases h : l 15
                  · rfl
                  · have := oS h; simp [hli] at this
                rw [nS, cond_false] at hw
                subst hw
                clear hpre
                rw [if_pos (by rfl)]
                go_simp
                exact hK _ _ ⟨v2, gb, w', by simp [upd, Act.put, hkn], hB, (fun e0 => (cR (by simpa [upd] using e0))), (fun e0 e1 => (cS (by simpa [upd] using e0) (by simpa [upd] using e1))), (fun e0 => (cO (by simpa [upd] using e0))), by simp [upd, nS], (fun e => absurd e (by simp [upd, nS]))⟩
              · -- 8: Op.call { callee := Callee.value (Operand.func 45), args := 
                have p5 : l 5 = true := hpre _ rfl ⟨5, .data⟩ (by simp) rfl
                have p6 : l 6 = true := hpre _ rfl ⟨6, .data⟩ (by simp) rfl
                have p7 : l 7 = true := hpre _ rfl ⟨7, .data⟩ (by simp) rfl
                refine wpOp_step rfl (fun K' hK => ?_)
                have nS : l 15 = false := by
                  cases h : l 15
                  · rfl
                  · have := oS h; simp [hli] at this
                rw [nS, cond_false] at hw
                subst hw
                simp only [p5, p6, p7, cond_true, cond_false]
                clear hpre
                rw [if_pos (by rfl)]
                obtain ⟨hH, hG⟩ := HWr.out _ hB
                have hcl := (HE6.out _ hG).2.2.2.2.2.2.2.2
                go_simp
                refine (HATk.out _ hcl).mono ?_
                rintro e w5 ⟨rfl, rfl⟩
                exact hK _ _ ⟨v2, gb, w', by simp [upd, Act.put, p5, p6, p7, hkn], hB, (fun e0 => (cR (by simpa [upd] using e0))), (fun e0 e1 => (cS (by simpa [upd] using e0) (by simpa [upd] using e1))), (fun e0 => (cO (by simpa [upd] using e0))), by simp [upd, nS], (fun e => absurd e (by simp [upd, nS]))⟩
              · -- 9: Op.move (Operand.tmp 11)
                refine wpOp_step rfl (fun K' hK => ?_)
                have nS : l 15 = false := by
                  cases h : l 15
                  · rfl
                  · have := oS h; simp [hli] at this
                rw [nS, cond_false] at hw
                subst hw
                clear hpre
                rw [if_pos (by rfl)]
                go_simp
                exact hK _ _ ⟨v2, gb, w', by simp [upd, Act.put, hkn], hB, (fun e0 => (cR (by simpa [upd] using e0))), (fun e0 e1 => (cS (by simpa [upd] using e0) (by simpa [upd] using e1))), (fun e0 => (cO (by simpa [upd] using e0))), by simp [upd, nS], (fun e => absurd e (by simp [upd, nS]))⟩
              · -- 10: Op.call { callee := Callee.value (Operand.func 70), args := 
                have p4 : l 4 = true := hpre _ rfl ⟨4, .data⟩ (by simp) rfl
                have p8 : l 8 = true := hpre _ rfl ⟨8, .data⟩ (by simp) rfl
                have p9 : l 9 = true := hpre _ rfl ⟨9, .data⟩ (by simp) rfl
                refine wpOp_step rfl (fun K' hK => ?_)
                have nS : l 15 = false := by
                  cases h : l 15
                  · rfl
                  · have := oS h; simp [hli] at this
                rw [nS, cond_false] at hw
                subst hw
                simp only [p4, p8, p9, cond_true, cond_false]
                clear hpre
                rw [if_pos (by rfl)]
                go_simp
                refine (HPWk.out _).mono ?_
                rintro e w5 ⟨rfl, rfl⟩
                exact hK _ _ ⟨v2, gb, w', by simp [upd, Act.put, p4, p8, p9, hkn], hB, (fun e0 => (cR (by simpa [upd] using e0))), (fun e0 e1 => (cS (by simpa [upd] using e0) (by simpa [upd] using e1))), (fun e0 => (cO (by simpa [upd] using e0))), by simp [upd, nS], (fun e => absurd e (by simp [upd, nS]))⟩
              · -- 11: Op.build 46 #[(0, Operand.tmp 71), (1, Operand.tmp 79)]
                have p2 : l 2 = true := hpre _ rfl ⟨2, .data⟩ (by simp) rfl
                have p10 : l 10 = true := hpre _ rfl ⟨10, .data⟩ (by simp) rfl
                refine wpOp_step rfl (fun K' hK => ?_)
                have nS : l 15 = false := by
                  cases h : l 15
                  · rfl
                  · have := oS h; simp [hli] at this
                rw [nS, cond_false] at hw
                subst hw
                simp only [p2, p10, cond_true, cond_false]
                clear hpre
                rw [if_pos (by rfl)]
                refine wp_build46 _ _ rfl x y rfl rfl ?_
                exact hK _ _ ⟨v2, gb, w', by simp [upd, Act.put, p2, p10, hkn], hB, (fun e0 => (cR (by simpa [upd] using e0))), (fun e0 e1 => (cS (by simpa [upd] using e0) (by simpa [upd] using e1))), (fun e0 => (cO (by simpa [upd] using e0))), by simp [upd, nS], (fun e => absurd e (by simp [upd, nS]))⟩
              · -- 12: Op.buildSlice 30 1 #[(0, Operand.tmp 80)]
                have p11 : l 11 = true := hpre _ rfl ⟨11, .data⟩ (by simp) rfl
                refine wpOp_step rfl (fun K' hK => ?_)
                have nS : l 15 = false := by
                  cases h : l 15
                  · rfl
                  · have := oS h; simp [hli] at this
                rw [nS, cond_false] at hw
                subst hw
                simp only [p11, cond_true, cond_false]
                clear hpre
                rw [if_pos (by rfl)]
                go_simp
                exact hK _ _ ⟨v2, w'.heap.size, w'.alloc (.cells #[Value.int .u64 (x : Int), Value.int .u64 (y : Int)] 46), by simp [upd, Act.put, p11, hkn], (hB.alloc (Nat.le_trans HRs.out hB.size) _), (fun e0 => ((cR (by simpa [upd] using e0))).alloc _), (fun _ _ => cell_two_new _ _ _ _), (fun e0 => ((cO (by simpa [upd] using e0))).alloc _), by simp [upd, nS], (fun e => absurd e (by simp [upd, nS]))⟩
              · -- 13: Op.call { callee := Callee.builtin Builtin.append, args := #
                have p1 : l 1 = true := hpre _ rfl ⟨1, .data⟩ (by simp) rfl
                have p12 : l 12 = true := hpre _ rfl ⟨12, .data⟩ (by simp) rfl
                have p10 : l 10 = true := hpre _ rfl ⟨10, .chain⟩ (by simp) rfl
                refine wpOp_step rfl (fun K' hK => ?_)
                have nS : l 15 = false := by
                  cases h : l 15
                  · rfl
                  · have := oS h; simp [hli] at this
                rw [nS, cond_false] at hw
                subst hw
                have n13 : l 13 = false := hli
                simp only [p1, p12, p10, cond_true, cond_false]
                clear hpre
                rw [if_pos (by rfl)]
                refine wp_append_own_wide _ _ _ 30 rfl L 46 i6 _ 2 16 Try.underlying30 hi6 hz06 hz16 hz26 rfl (by omega) v k xs rfl (cR n13) ⟨gb, 0, none⟩ 1 1 [Value.int .u64 (x : Int), Value.int .u64 (y : Int)] rfl rfl (cS p12 n13) (by intro u hu; simp at hu; rcases hu with rfl | rfl <;> rfl) (by unfold maxLen; omega) (by omega) (Nat.le_trans HRs.out hB.size) ?_
                intro v1 w6 hown6 hg6 _
                exact hK _ _ ⟨v1, gb, w6, by simp [upd, Act.put, p1, p12, p10, hkn], hB.grown hg6 (Nat.le_trans HRs.out hB.size) (fun b hb => own_block (cR n13) hb.symm), (fun e0 => absurd e0 (by simp [upd])), (fun e0 e1 => absurd e1 (by simp [upd])), (fun _ => hown6), by simp [upd, nS], (fun e => absurd e (by simp [upd, nS]))⟩
              · -- 14: Op.fieldAddr 60 (Operand.tmp 15) 2
                have p0 : l 0 = true := hpre _ rfl ⟨0, .phase⟩ (by simp) rfl
                have p1 : l 1 = true := hpre _ rfl ⟨1, .phase⟩ (by simp) rfl
                have p2 : l 2 = true := hpre _ rfl ⟨2, .phase⟩ (by simp) rfl
                have p3 : l 3 = true := hpre _ rfl ⟨3, .phase⟩ (by simp) rfl
                have p4 : l 4 = true := hpre _ rfl ⟨4, .phase⟩ (by simp) rfl
                have p5 : l 5 = true := hpre _ rfl ⟨5, .phase⟩ (by simp) rfl
                have p6 : l 6 = true := hpre _ rfl ⟨6, .phase⟩ (by simp) rfl
                have p7 : l 7 = true := hpre _ rfl ⟨7, .phase⟩ (by simp) rfl
                have p8 : l 8 = true := hpre _ rfl ⟨8, .phase⟩ (by simp) rfl
                have p9 : l 9 = true := hpre _ rfl ⟨9, .phase⟩ (by simp) rfl
                have p10 : l 10 = true := hpre _ rfl ⟨10, .phase⟩ (by simp) rfl
                have p11 : l 11 = true := hpre _ rfl ⟨11, .phase⟩ (by simp) rfl
                have p12 : l 12 = true := hpre _ rfl ⟨12, .phase⟩ (by simp) rfl
                have p13 : l 13 = true := hpre _ rfl ⟨13, .phase⟩ (by simp) rfl
                refine wpOp_step rfl (fun K' hK => ?_)
                have nS : l 15 = false := by
                  cases h : l 15
                  · rfl
                  · have := oS h; simp [hli] at this
                rw [nS, cond_false] at hw
                subst hw
                simp only [p0, p1, p2, p3, p4, p5, p6, p7, p8, p9, p10, p11, p12, p13, cond_true, cond_false]
                clear hpre
                rw [if_pos (by rfl)]
                go_simp
                exact hK _ _ ⟨v2, gb, w', by simp [upd, Act.put, p0, p1, p2, p3, p4, p5, p6, p7, p8, p9, p10, p11, p12, p13, hkn], hB, (fun e0 => (cR (by simpa [upd] using e0))), (fun e0 e1 => (cS (by simpa [upd] using e0) (by simpa [upd] using e1))), (fun e0 => (cO (by simpa [upd] using e0))), by simp [upd, nS], (fun e => absurd e (by simp [upd, nS]))⟩
              · -- 15: Op.store 30 (Operand.tmp 83) (Operand.tmp 82)
                have p14 : l 14 = true := hpre _ rfl ⟨14, .data⟩ (by simp) rfl
                have p13 : l 13 = true := hpre _ rfl ⟨13, .data⟩ (by simp) rfl
                have p0 : l 0 = true := hpre _ rfl ⟨0, .phase⟩ (by simp) rfl
                have p1 : l 1 = true := hpre _ rfl ⟨1, .phase⟩ (by simp) rfl
                have p2 : l 2 = true := hpre _ rfl ⟨2, .phase⟩ (by simp) rfl
                have p3 : l 3 = true := hpre _ rfl ⟨3, .phase⟩ (by simp) rfl
                have p4 : l 4 = true := hpre _ rfl ⟨4, .phase⟩ (by simp) rfl
                have p5 : l 5 = true := hpre _ rfl ⟨5, .phase⟩ (by simp) rfl
                have p6 : l 6 = true := hpre _ rfl ⟨6, .phase⟩ (by simp) rfl
                have p7 : l 7 = true := hpre _ rfl ⟨7, .phase⟩ (by simp) rfl
                have p8 : l 8 = true := hpre _ rfl ⟨8, .phase⟩ (by simp) rfl
                have p9 : l 9 = true := hpre _ rfl ⟨9, .phase⟩ (by simp) rfl
                have p10 : l 10 = true := hpre _ rfl ⟨10, .phase⟩ (by simp) rfl
                have p11 : l 11 = true := hpre _ rfl ⟨11, .phase⟩ (by simp) rfl
                have p12 : l 12 = true := hpre _ rfl ⟨12, .phase⟩ (by simp) rfl
                refine wpOp_step rfl (fun K' hK => ?_)
                have nS : l 15 = false := hli
                rw [nS, cond_false] at hw
                subst hw
                simp only [p14, p13, p0, p1, p2, p3, p4, p5, p6, p7, p8, p9, p10, p11, p12, cond_true, cond_false]
                clear hpre
                rw [if_pos (by rfl)]
                obtain ⟨hH, hG⟩ := HWr.out _ hB
                have z2 := hH.c2
                have z3 := hH.fr 2 (by omega)
                have c6 := cO p13
                obtain ⟨A6, m6, d6, hv6⟩ := own_form c6
                subst hv6
                go_simp
                exact hK _ _ ⟨_, gb, w', by simp [upd, Act.put, p14, p13, p0, p1, p2, p3, p4, p5, p6, p7, p8, p9, p10, p11, p12, hkn], hB, (fun e0 => (cR (by simpa [upd] using e0))), (fun e0 e1 => (cS (by simpa [upd] using e0) (by simpa [upd] using e1))), (fun _ => c6), by simp [upd], (fun _ => by simp [upd, p14, p13, p0, p1, p2, p3, p4, p5, p6, p7, p8, p9, p10, p11, p12])⟩
            · rintro l a' w9 hall ⟨v2, gb, w1, rfl, hB, cR, cS, cO, hw, oS⟩
              rw [hall 15 (by decide), cond_true] at hw
              subst hw
              clear cR
              clear cS
              replace cO := cO (hall 13 (by decide))
              simp only [hall 0 (by decide), hall 1 (by decide), hall 2 (by decide), hall 3 (by decide), hall 4 (by decide), hall 5 (by decide), hall 6 (by decide), hall 7 (by decide), hall 8 (by decide), hall 9 (by decide), hall 10 (by decide), hall 11 (by decide), hall 12 (by decide), hall 13 (by decide), hall 14 (by decide), cond_true]
              clear hall oS
              obtain ⟨hH, hG⟩ := HWr.out _ hB
              have HO9 : Hid ((w1.setCell ⟨hb, 2, none⟩ v2).ownsRow L 46 2 v2 (k + 1) (ptl X Y P Q G m E T n f (k + 1))) := Lib.hid (by
                rw [HSn.out]
                exact ownsRow_setCell_other cO (fun e => by have h1 := own_block cO e.symm; have h2 := HLE.out.2.2.1; simp at h1; omega) v2)
              have HH9 : Hid (HdAt (w1.setCell ⟨hb, 2, none⟩ v2) hb v2 bs 0 0 U V) := Lib.hid (hH.setPts v2)
              have HG9 : Hid (W6.grownBy (w1.setCell ⟨hb, 2, none⟩ v2) (some hb)) := Lib.hid (gb_set hG 2 v2)
              obtain ⟨w10, hw10⟩ : ∃ w10, w10 = w1.setCell ⟨hb, 2, none⟩ v2 := ⟨_, rfl⟩
              rw [← hw10] at HO9 HH9 HG9 ⊢
              clear hw10 hH hG hB cO HO HHr HGr HWr HATk HPWk c0 c1 c2 c3 c4 c5
              go_wp2_with fail
              go_roundw
              case rel => exact ⟨k + 1, v2, by omega, by go_num, HO9, HH9, HG9⟩
              case measure => simp [intOf]; omega
        · obtain rfl : E = k := by omega
          obtain ⟨g3, cq, hv, q1, q2, q3, q4⟩ := own_slice2 HO.out (by omega)
          subst hv
          have HQ3 : Hid (L ≤ g3 ∧ E ≤ cq ∧ cq ≤ maxLen ∧ ∀ i x, (ptl X Y P Q G m E T n f E)[i]? = some x → wr.cell? ⟨g3, i, none⟩ = some x) := Lib.hid ⟨q1, q2, q3, q4⟩
          clear q1 q2 q3 q4
          have HWr : Hid (∀ w1, Below wr.heap.size wr w1 → HdAt w1 hb (.slice (some ⟨g3, 0, none⟩) E cq) bs 0 0 U V ∧ W6.grownBy w1 (some hb)) := Lib.hid (fun w1 h => ⟨HHr.out.below h HHr.out.lt, gb_below HGr.out (by rw [← HLE.out.1]; exact HRs.out) h⟩)
          have HAT0 := Lib.hid (fun (w : World) hcl => HVO.out g cg 0 w (HE6.out wr HGr.out).2.2.2.2.2.2.1 (HE6.out wr HGr.out).2.2.2.2.2.2.2.1 (by omega) hcl)
          have HPW0 := Lib.hid (fun (w : World) => HPW.out bs 0 w)
          rw [HPwv.out 0] at HPW0
          obtain ⟨y, hy⟩ : ∃ y, y = pwv X Y P Q G m E 0 := ⟨_, rfl⟩
          rw [← hy] at HPW0 HMK
          obtain ⟨ex, hex⟩ : ∃ ex, ex = sm (cof X Y Q) 0 (E + 1) % Q := ⟨_, rfl⟩
          rw [← hex] at HAT0 HPW0
          clear hy hex
          go_wp2_with fail
          refine wp_region_inv (by kernel_rfl) (by kernel_rfl) (fun l a' w' => ∃ (w1 : World), a' = { tmps := #[Value.agg (kl X Y).toArray, Value.agg #[Value.int IntKind.u8 K, Value.int IntKind.i64 D, Value.int IntKind.i64 E, Value.int IntKind.u64 P, Value.int IntKind.u64 Q, Value.int IntKind.u64 G], Value.slice ad n c, Value.agg (kl A B).toArray, Value.int .u64 (m : Int), Value.pointer (some ⟨N, 0, none⟩), Value.pointer (some ⟨N + 1, 0, none⟩), undef, Value.pointer (some ⟨N + 2, 0, none⟩), undef, Value.pointer (some ⟨N + 3, 0, none⟩), Value.int .u64 (P : Int), Value.int .u64 (Q : Int), Value.slice (some ⟨g, 0, none⟩) (E + 1) cg, Value.int .u64 (1 + r : Int), Value.pointer (some ⟨hb, 0, none⟩), Value.int .i64 (E : Int), u17, Value.pointer (some ⟨N + 1, 3, none⟩), Value.pointer (some ⟨N + 1, 3, none⟩), Value.int .u64 (P : Int), Value.pointer (some ⟨N + 1, 3, none⟩), Value.pointer (some ⟨N + 1, 4, none⟩), Value.int .u64 (Q : Int), Value.agg (kl X Y).toArray, Value.agg #[Value.int IntKind.u8 K, Value.int IntKind.i64 D, Value.int IntKind.i64 E, Value.int IntKind.u64 P, Value.int IntKind.u64 Q, Value.int IntKind.u64 G], Value.slice (some ⟨g, 0, none⟩) (E + 1) cg, Value.agg (kl X Y).toArray, Value.int .u64 (m : Int), Value.agg (kl p1 p2).toArray, Value.int .u64 (Q : Int), Value.int .u64 (Q - 1 : Int), Value.int .u64 (r : Int), Value.int .u64 (1 + r : Int), Value.pointer (some ⟨N + 1, 3, none⟩), Value.pointer (some ⟨N + 1, 5, none⟩), Value.int .u64 (G : Int), Value.int .u64 (1 + r : Int), Value.int .u64 (P : Int), Value.int .u64 (bs : Int), Value.agg (kl A B).toArray, Value.agg (kl U V).toArray, Value.agg (hdl (Value.slice none 0 0) bs 0 0 U V).toArray, Value.int .i64 (E : Int), Value.pointer (some ⟨N + 1, 2, none⟩), Value.int .i64 (E : Int), Value.bool false, u47, u48, u49, u50, u51, u52, u53, u54, u55, u56, u57, u58, u59, u60, u61, u62, u63, u64, u65, u66, u67, u68, u69, u70, u71, u72, u73, u74, u75, u76, u77, u78, u79, u80, u81, u82, u83, bif l 0 then Value.pointer (some ⟨hb, 1, none⟩) else undef, bif l 1 then Value.int .u64 (bs : Int) else undef, bif l 2 then Value.int .u64 (Q : Int) else undef, bif l 3 then Value.slice (some ⟨g, 0, none⟩) (E + 1) cg else undef, bif l 4 then Value.int .u64 (ex : Int) else undef, bif l 5 then Value.int .u64 (P : Int) else undef, bif l 6 then Value.int .u64 (y : Int) else undef, bif l 7 then Value.agg (kl MX MY).toArray else undef, bif l 8 then Value.agg (kl A B).toArray else undef, bif l 9 then Value.agg (kl EX EY).toArray else undef, bif l 10 then Value.pointer (some ⟨hb, 3, none⟩) else undef, undef], defers := [] } ∧ (Below wr.heap.size wr w1) ∧ w' = (bif l 11 then w1.setCells hb 3 (kl EX EY) else w1) ∧ (l 11 = true → (l 0 && l 1 && l 2 && l 3 && l 4 && l 5 && l 6 && l 7 && l 8 && l 9 && l 10) = true)) ⟨_, rfl, (Below.refl _ _).drew, rfl, (fun h => by cases h)⟩ ?_ ?_
          · rintro l a' w' i ⟨w1, rfl, hB, hw, oS⟩ hi' hli hpre
            have hi2 : i < 12 := hi'
            have hcase : i = 0 ∨ i = 1 ∨ i = 2 ∨ i = 3 ∨ i = 4 ∨ i = 5 ∨ i = 6 ∨ i = 7 ∨ i = 8 ∨ i = 9 ∨ i = 10 ∨ i = 11 := by omega
            clear hi' hi2
            rcases hcase with rfl | rfl | rfl | rfl | rfl | rfl | rfl | rfl | rfl | rfl | rfl | rfl
            · -- 0: Op.fieldAddr 60 (Operand.tmp 15) 1
              refine wpOp_step rfl (fun K' hK => ?_)
              have nS : l 11 = false := by
                cases h : l 11
                · rfl
                · have := oS h; simp [hli] at this
              rw [nS, cond_false] at hw
              subst hw
              clear hpre
              rw [if_pos (by rfl)]
              go_simp
              exact hK _ _ ⟨w', by simp [upd, Act.put], hB, by simp [upd, nS], (fun e => absurd e (by simp [upd, nS]))⟩
            · -- 1: Op.load 24 (Operand.tmp 84)
              have p0 : l 0 = true := hpre _ rfl ⟨0, .data⟩ (by simp) rfl
              refine wpOp_step rfl (fun K' hK => ?_)
              have nS : l 11 = false := by
                cases h : l 11
                · rfl
                · have := oS h; simp [hli] at this
              rw [nS, cond_false] at hw
              subst hw
              simp only [p0, cond_true, cond_false]
              clear hpre
              rw [if_pos (by rfl)]
              obtain ⟨hH, hG⟩ := HWr.out _ hB
              have z1 := hH.c1
              go_simp
              exact hK _ _ ⟨w', by simp [upd, Act.put, p0], hB, by simp [upd, nS], (fun e => absurd e (by simp [upd, nS]))⟩
            · -- 2: Op.move (Operand.tmp 12)
              refine wpOp_step rfl (fun K' hK => ?_)
              have nS : l 11 = false := by
                cases h : l 11
                · rfl
                · have := oS h; simp [hli] at this
              rw [nS, cond_false] at hw
              subst hw
              clear hpre
              rw [if_pos (by rfl)]
              go_simp
              exact hK _ _ ⟨w', by simp [upd, Act.put], hB, by simp [upd, nS], (fun e => absurd e (by simp [upd, nS]))⟩
            · -- 3: Op.move (Operand.tmp 13)
              refine wpOp_step rfl (fun K' hK => ?_)
              have nS : l 11 = false := by
                cases h : l 11
                · rfl
                · have := oS h; simp [hli] at this
              rw [nS, cond_false] at hw
              subst hw
              clear hpre
              rw [if_pos (by rfl)]
              go_simp
              exact hK _ _ ⟨w', by simp [upd, Act.put], hB, by simp [upd, nS], (fun e => absurd e (by simp [upd, nS]))⟩
            · -- 4: Op.call { callee := Callee.value (Operand.func 45), args := 
              have p2 : l 2 = true := hpre _ rfl ⟨2, .data⟩ (by simp) rfl
              have p3 : l 3 = true := hpre _ rfl ⟨3, .data⟩ (by simp) rfl
              refine wpOp_step rfl (fun K' hK => ?_)
              have nS : l 11 = false := by
                cases h : l 11
                · rfl
                · have := oS h; simp [hli] at this
              rw [nS, cond_false] at hw
              subst hw
              simp only [p2, p3, cond_true, cond_false]
              clear hpre
              rw [if_pos (by rfl)]
              obtain ⟨hH, hG⟩ := HWr.out _ hB
              have hcl := (HE6.out _ hG).2.2.2.2.2.2.2.2
              go_simp
              refine (HAT0.out _ hcl).mono ?_
              rintro e w5 ⟨rfl, rfl⟩
              exact hK _ _ ⟨w', by simp [upd, Act.put, p2, p3], hB, by simp [upd, nS], (fun e => absurd e (by simp [upd, nS]))⟩
            · -- 5: Op.move (Operand.tmp 11)
              refine wpOp_step rfl (fun K' hK => ?_)
              have nS : l 11 = false := by
                cases h : l 11
                · rfl
                · have := oS h; simp [hli] at this
              rw [nS, cond_false] at hw
              subst hw
              clear hpre
              rw [if_pos (by rfl)]
              go_simp
              exact hK _ _ ⟨w', by simp [upd, Act.put], hB, by simp [upd, nS], (fun e => absurd e (by simp [upd, nS]))⟩
            · -- 6: Op.call { callee := Callee.value (Operand.func 70), args := 
              have p1 : l 1 = true := hpre _ rfl ⟨1, .data⟩ (by simp) rfl
              have p4 : l 4 = true := hpre _ rfl ⟨4, .data⟩ (by simp) rfl
              have p5 : l 5 = true := hpre _ rfl ⟨5, .data⟩ (by simp) rfl
              refine wpOp_step rfl (fun K' hK => ?_)
              have nS : l 11 = false := by
                cases h : l 11
                · rfl
                · have := oS h; simp [hli] at this
              rw [nS, cond_false] at hw
              subst hw
              simp only [p1, p4, p5, cond_true, cond_false]
              clear hpre
              rw [if_pos (by rfl)]
              go_simp
              refine (HPW0.out _).mono ?_
              rintro e w5 ⟨rfl, rfl⟩
              exact hK _ _ ⟨w', by simp [upd, Act.put, p1, p4, p5], hB, by simp [upd, nS], (fun e => absurd e (by simp [upd, nS]))⟩
            · -- 7: Op.call { callee := Callee.value (Operand.func 73), args := 
              have p6 : l 6 = true := hpre _ rfl ⟨6, .data⟩ (by simp) rfl
              refine wpOp_step rfl (fun K' hK => ?_)
              have nS : l 11 = false := by
                cases h : l 11
                · rfl
                · have := oS h; simp [hli] at this
              rw [nS, cond_false] at hw
              subst hw
              simp only [p6, cond_true, cond_false]
              clear hpre
              rw [if_pos (by rfl)]
              go_simp
              refine (HMK.out _).mono ?_
              rintro e w5 ⟨rfl, hb5⟩
              exact hK _ _ ⟨w5, by simp [upd, Act.put, p6], (hB.trans (hb5.mono hB.size)), by simp [upd, nS], (fun e => absurd e (by simp [upd, nS]))⟩
            · -- 8: Op.load 23 (Operand.tmp 8)
              refine wpOp_step rfl (fun K' hK => ?_)
              have nS : l 11 = false := by
                cases h : l 11
                · rfl
                · have := oS h; simp [hli] at this
              rw [nS, cond_false] at hw
              subst hw
              clear hpre
              rw [if_pos (by rfl)]
              obtain ⟨hH, hG⟩ := HWr.out _ hB
              have K2 := (HE6.out _ hG).2.1
              refine wp_load_mid 23 _ rfl _ 0 rfl (kl A B) _ K2 Try.underlying23 rfl (by rw [kl_len]; exact size23) ?_
              exact hK _ _ ⟨w', by simp [upd, Act.put], hB, by simp [upd, nS], (fun e => absurd e (by simp [upd, nS]))⟩
            · -- 9: Op.call { callee := Callee.value (Operand.func 113), args :=
              have p7 : l 7 = true := hpre _ rfl ⟨7, .data⟩ (by simp) rfl
              have p8 : l 8 = true := hpre _ rfl ⟨8, .data⟩ (by simp) rfl
              refine wpOp_step rfl (fun K' hK => ?_)
              have nS : l 11 = false := by
                cases h : l 11
                · rfl
                · have := oS h; simp [hli] at this
              rw [nS, cond_false] at hw
              subst hw
              simp only [p7, p8, cond_true, cond_false]
              clear hpre
              rw [if_pos (by rfl)]
              go_simp
              refine (HEN.out _).mono ?_
              rintro e w5 ⟨rfl, hb5⟩
              exact hK _ _ ⟨w5, by simp [upd, Act.put, p7, p8], (hB.trans (hb5.mono hB.size)), by simp [upd, nS], (fun e => absurd e (by simp [upd, nS]))⟩
            · -- 10: Op.fieldAddr 60 (Operand.tmp 15) 3
              have p0 : l 0 = true := hpre _ rfl ⟨0, .phase⟩ (by simp) rfl
              have p1 : l 1 = true := hpre _ rfl ⟨1, .phase⟩ (by simp) rfl
              have p2 : l 2 = true := hpre _ rfl ⟨2, .phase⟩ (by simp) rfl
              have p3 : l 3 = true := hpre _ rfl ⟨3, .phase⟩ (by simp) rfl
              have p4 : l 4 = true := hpre _ rfl ⟨4, .phase⟩ (by simp) rfl
              have p5 : l 5 = true := hpre _ rfl ⟨5, .phase⟩ (by simp) rfl
              have p6 : l 6 = true := hpre _ rfl ⟨6, .phase⟩ (by simp) rfl
              have p7 : l 7 = true := hpre _ rfl ⟨7, .phase⟩ (by simp) rfl
              have p8 : l 8 = true := hpre _ rfl ⟨8, .phase⟩ (by simp) rfl
              have p9 : l 9 = true := hpre _ rfl ⟨9, .phase⟩ (by simp) rfl
              refine wpOp_step rfl (fun K' hK => ?_)
              have nS : l 11 = false := by
                cases h : l 11
                · rfl
                · have := oS h; simp [hli] at this
              rw [nS, cond_false] at hw
              subst hw
              simp only [p0, p1, p2, p3, p4, p5, p6, p7, p8, p9, cond_true, cond_false]
              clear hpre
              rw [if_pos (by rfl)]
              go_simp
              exact hK _ _ ⟨w', by simp [upd, Act.put, p0, p1, p2, p3, p4, p5, p6, p7, p8, p9], hB, by simp [upd, nS], (fun e => absurd e (by simp [upd, nS]))⟩
            · -- 11: Op.store 23 (Operand.tmp 94) (Operand.tmp 93)
              have p10 : l 10 = true := hpre _ rfl ⟨10, .data⟩ (by simp) rfl
              have p9 : l 9 = true := hpre _ rfl ⟨9, .data⟩ (by simp) rfl
              have p0 : l 0 = true := hpre _ rfl ⟨0, .phase⟩ (by simp) rfl
              have p1 : l 1 = true := hpre _ rfl ⟨1, .phase⟩ (by simp) rfl
              have p2 : l 2 = true := hpre _ rfl ⟨2, .phase⟩ (by simp) rfl
              have p3 : l 3 = true := hpre _ rfl ⟨3, .phase⟩ (by simp) rfl
              have p4 : l 4 = true := hpre _ rfl ⟨4, .phase⟩ (by simp) rfl
              have p5 : l 5 = true := hpre _ rfl ⟨5, .phase⟩ (by simp) rfl
              have p6 : l 6 = true := hpre _ rfl ⟨6, .phase⟩ (by simp) rfl
              have p7 : l 7 = true := hpre _ rfl ⟨7, .phase⟩ (by simp) rfl
              have p8 : l 8 = true := hpre _ rfl ⟨8, .phase⟩ (by simp) rfl
              refine wpOp_step rfl (fun K' hK => ?_)
              have nS : l 11 = false := hli
              rw [nS, cond_false] at hw
              subst hw
              simp only [p10, p9, p0, p1, p2, p3, p4, p5, p6, p7, p8, cond_true, cond_false]
              clear hpre
              rw [if_pos (by rfl)]
              obtain ⟨hH, hG⟩ := HWr.out _ hB
              refine wp_store_mid 23 _ _ rfl hb 3 (kl EX EY).toArray rfl rfl (by intro j hj; have := hH.2 (3 + j) (by simp [kl_len] at hj; omega); rwa [Nat.zero_add] at this) (by simp [kl_len, size23]) (kl_arr _ _) ?_
              rw [List.toList_toArray]
              exact hK _ _ ⟨w', by simp [upd, Act.put, p10, p9, p0, p1, p2, p3, p4, p5, p6, p7, p8], hB, by simp [upd], (fun _ => by simp [upd, p10, p9, p0, p1, p2, p3, p4, p5, p6, p7, p8])⟩
          · rintro l a' w9 hall ⟨w1, rfl, hB, hw, oS⟩
            rw [hall 11 (by decide), cond_true] at hw
            subst hw
            simp only [hall 0 (by decide), hall 1 (by decide), hall 2 (by decide), hall 3 (by decide), hall 4 (by decide), hall 5 (by decide), hall 6 (by decide), hall 7 (by decide), hall 8 (by decide), hall 9 (by decide), hall 10 (by decide), cond_true]
            clear hall oS
            obtain ⟨hH, hG⟩ := HWr.out _ hB
            obtain ⟨Wc, hWc⟩ : ∃ Wc, Wc = w1.setCells hb 3 (kl EX EY) := ⟨_, rfl⟩
            have HHc : Hid (HdAt Wc hb (.slice (some ⟨g3, 0, none⟩) E cq) bs EX EY U V) := Lib.hid (by rw [hWc]; exact hH.setBox EX EY)
            have HGc : Hid (W6.grownBy Wc (some hb) ∧ ∀ i x, (ptl X Y P Q G m E T n f E)[i]? = some x → Wc.cell? ⟨g3, i, none⟩ = some x) := Lib.hid (by
              have hle := HLE.out
              rw [hWc]
              refine ⟨gb_setCells _ _ _ hG, fun i x hx => ?_⟩
              have h4 := HQ3.out.2.2.2 i x hx
              have h5 := HQ3.out.1
              rw [World.cell?_setCells_out _ _ _ _ _ (fun h _ => absurd h (by show g3 ≠ hb; omega))]
              exact (hB.cell (p := ⟨g3, i, none⟩) (World.block_lt_of_cell? wr _ h4)).trans h4)
            obtain ⟨Wd, hWd⟩ : ∃ Wd, Wd = Wc.setCells (N + 3) 0 (hdl (.slice (some ⟨g3, 0, none⟩) E cq) bs EX EY U V) := ⟨_, rfl⟩
            have HT : Hid (Wc.there (N + 3) 0 35) := Lib.hid (HE6.out Wc HGc.out.1).2.2.1
            have HHd : Hid (HdAt Wd (N + 3) (.slice (some ⟨g3, 0, none⟩) E cq) bs EX EY U V) := Lib.hid (by rw [hWd]; exact HdAt.stored HT.out _ _ _ _ _ _)
            have HFd : Hid (Below N w Wd ∧ ∀ i x, (ptl X Y P Q G m E T n f E)[i]? = some x → Wd.cell? ⟨g3, i, none⟩ = some x) := Lib.hid (by
              have hle := HLE.out
              have h5 := HQ3.out.1
              rw [hWd]
              exact ⟨below_setCells _ _ _ _ (HE6.out Wc HGc.out.1).1 (by omega), fun i x hx => (World.cell?_setCells_out _ _ _ _ _ (fun h _ => absurd h (by show g3 ≠ N + 3; omega))).trans (HGc.out.2 i x hx)⟩)
            have HWd := Lib.hid hWd
            rw [← hWc]
            clear hWc hWd hH hG hB HWr HHr HGr HO HAT0 HPW0 c0 c1 c2 c3 c4 c5
            go_wp2_with (first
              | (refine wpList_load_hd rfl _ rfl hb rfl _ _ _ _ _ _ HHc.out ?_)
              | ((refine wpList_store_hd rfl _ _ rfl (N + 3) (.slice (some ⟨g3, 0, none⟩) E cq) bs EX EY U V rfl rfl rfl HT.out ?_); rw [← HWd.out]))
            exact bodyPost_hd1 rfl (N + 3) _ _ _ _ _ _ rfl HHd.out rfl ⟨⟨g3, cq, rfl, by have h5 := HQ3.out.1; have hle := HLE.out; omega, HQ3.out.2.1, HQ3.out.2.2.1, HFd.out.2⟩, HFd.out.1⟩
end Go.Proofs.Ytcbanemkjebdcaa
