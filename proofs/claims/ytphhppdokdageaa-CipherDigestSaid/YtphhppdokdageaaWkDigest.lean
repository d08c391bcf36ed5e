/- The walk over CipherDigest. -/
import Derived.Test.YtphhppdokdageaaHshD
import Derived.Test.YtphhppdokdageaaChnB
import Derived.Test.YtphhppdokdageaaAlv
import Derived.Test.YtphhppdokdageaaTxtE
import Derived.Test.YtphhppdokdageaaLawB
namespace Go.Proofs.Ytphhppdokdageaa.cipherDigest
open Go.RowKit SP
set_option linter.unusedVariables false
set_option linter.unusedSimpArgs false

theorem own_len {w : World} {B e n : Nat} {v : Value} {xs : List Value} (h : w.ownsRow B e 1 v n xs) : ∃ A c, v = .slice A n c := by
  rcases h.2 with ⟨rfl, rfl⟩ | ⟨g, cap, cur, rfl, _⟩
  · exact ⟨none, 0, rfl⟩
  · exact ⟨_, _, rfl⟩
def vlen : Value → Nat
  | .slice _ n _ => n
  | _ => 0
def pdn (g : Nat → Nat) (n m : Nat) : List Value := bl ((List.range m).map (pdb g n))
theorem pdn_one (g : Nat → Nat) (n : Nat) : pdn g n (n + 1) = bl ((List.range n).map g) ++ [Value.int .u8 128] := by
  unfold pdn
  rw [List.range_succ, List.map_append]
  have e0 : (List.range n).map (pdb g n) = (List.range n).map g := List.map_congr_left fun j hj => by
    have := List.mem_range.1 hj; unfold pdb; rw [if_pos this]
  rw [e0]
  have e1 : pdb g n n = 128 := by unfold pdb; rw [if_neg (by omega), if_pos (by omega)]
  simp [bl, u8, e1]
theorem pdn_zero (g : Nat → Nat) (n k : Nat) (hk : k < zz n) : pdn g n (n + 1 + (k + 1)) = pdn g n (n + 1 + k) ++ [Value.int .u8 0] := by
  unfold pdn
  rw [← Nat.add_assoc, List.range_succ, List.map_append]
  have e1 : pdb g n (n + 1 + k) = 0 := by unfold pdb; rw [if_neg (by omega), if_neg (by omega), if_pos (by omega)]
  simp [bl, u8, e1]
theorem pdn_last (g : Nat → Nat) (n : Nat) (hn : n ≤ 16384) (p q : Nat) (hp : p = n / 256) (hq : q = n % 256) : pdn g n (pdl n) = pdn g n (n + 1 + zz n) ++ [Value.int .u8 0, Value.int .u8 0, Value.int .u8 0, Value.int .u8 0, Value.int .u8 0, Value.int .u8 0, Value.int .u8 (p : Int), Value.int .u8 (q : Int)] := by
  unfold pdn pdl
  rw [map_range_add]
  have e : ∀ j, j < 8 → pdb g n (n + 1 + zz n + j) = n / 256 ^ (7 - j) % 256 := fun j hj => by
    unfold pdb; rw [if_neg (by omega), if_neg (by omega), if_neg (by omega), show n + 1 + zz n + j - (n + 1 + zz n) = j by omega, kby_lo _ _ _ hj]
  have h8 : List.range 8 = [0, 1, 2, 3, 4, 5, 6, 7] := rfl
  rw [h8]
  simp only [List.map_cons, List.map_nil]
  rw [e 0 (by omega), e 1 (by omega), e 2 (by omega), e 3 (by omega), e 4 (by omega), e 5 (by omega), e 6 (by omega), e 7 (by omega)]
  have z0 : n / 256 ^ 7 % 256 = 0 := by rw [Nat.div_eq_of_lt (by omega)]
  have z1 : n / 256 ^ 6 % 256 = 0 := by rw [Nat.div_eq_of_lt (by omega)]
  have z2 : n / 256 ^ 5 % 256 = 0 := by rw [Nat.div_eq_of_lt (by omega)]
  have z3 : n / 256 ^ 4 % 256 = 0 := by rw [Nat.div_eq_of_lt (by omega)]
  have z4 : n / 256 ^ 3 % 256 = 0 := by rw [Nat.div_eq_of_lt (by omega)]
  have z5 : n / 256 ^ 2 % 256 = 0 := by rw [Nat.div_eq_of_lt (by omega)]
  simp only [Nat.reduceSub, z0, z1, z2, z3, z4, z5]
  rw [show n / 256 ^ 1 % 256 = p by rw [hp]; omega, show n / 256 ^ 0 % 256 = q by rw [hq]; simp]
  simp [bl, u8]
theorem cells_new (w : World) (cs : Array Value) (t : TypeId) (j : Nat) (u : Value) (hu : cs.toList[j]? = some u) : (w.alloc (.cells cs t)).cell? ((⟨w.heap.size, 0, none⟩ : Addr).add j) = some u := by
  rw [Addr.add_lit, Nat.zero_add, cell_of_row _ _ j _ t _ (heap_alloc_new w _)]
  simpa using hu

set_option maxRecDepth 100000 in
set_option maxHeartbeats 1000000 in
theorem walk_big (A : Option Addr) (n c : Nat) (w : World) (hn : 16384 < n) :
    Calls Try.prog 15 #[.slice A n c] w fun e w' => e = .returned (.bool true) ∧ Below w.heap.size w w' := by
  have HAl := Lib.hid (fun w => alive_any w)
  have HM := Lib.hid (fun w => hash_no A n c w hn)
  have d1 : decide ((16384 : Int) < (n : Int)) = true := decide_eq_true (by omega)
  have d2 : ((16384 : Int) < (n : Int)) := by omega
  go_enter Try.func15, Try.ntmps15
  go_wp2_with fail
  refine (HAl.out _).mono ?_
  rintro e w1 ⟨rfl, B1⟩
  have HB1 := Lib.hid B1
  clear B1
  go_wp2_with fail
  refine (HM.out w1).mono ?_
  rintro e w7 ⟨rfl, hb7⟩
  obtain ⟨m7, hm7⟩ : ∃ m7, m7 = w7.heap.size := ⟨_, rfl⟩
  obtain ⟨W8, hW8⟩ : ∃ W8, W8 = (w7.alloc (.cells z16 23)).setCells m7 0 (kl 0 0) := ⟨_, rfl⟩
  have T7 : Hid ((w7.alloc (.cells z16 23)).there m7 0 16) := Lib.hid (by rw [hm7]; exact (Row.zeros w7 23).there)
  have B78 : Below w7.heap.size w7 W8 := by rw [hW8, hm7]; exact below_setCells _ _ _ _ ((Below.refl _ _).alloc (Nat.le_refl _) _) (Nat.le_refl _)
  have B8 := hb7.trans (B78.mono hb7.size)
  have K8 : Hid (KeyAt W8 m7 0 0) := Lib.hid (by rw [hW8]; exact KeyAt.stored T7.out 0 0)
  have C8 : Hid (Below w.heap.size w W8) := Lib.hid (HB1.out.trans (B8.mono HB1.out.size))
  have S8 : Hid (m7 < W8.heap.size ∧ w.heap.size ≤ m7) := Lib.hid ⟨by rw [hW8, size_setCells, hm7]; simp, by have := hb7.size; have := HB1.out.size; omega⟩
  have HW8 := Lib.hid hW8
  have HM7 := Lib.hid hm7
  clear hW8 hb7 B78 B8 hm7
  go_wp2_with (refine wpList_store_key rfl _ _ rfl w7.heap.size 0 0 rfl rfl (by rw [← HM7.out]; exact T7.out) ?_; rw [← HM7.out, ← HW8.out])
  go_ret
  exact ⟨rfl, C8.out⟩

set_option maxRecDepth 100000 in
set_option maxHeartbeats 4000000 in
theorem walk_some (ad : Addr) (n : Nat) (c : Nat) (g : Nat → Nat) (w : World) (hb : Byt w (some ad) n c g) (hn : n ≤ 16384) :
    Calls Try.prog 15 #[.slice (some ad) n c] w fun e w' => e = .returned (.bool true) ∧ Below w.heap.size w w' := by
  have HAl := Lib.hid (fun w => alive_any w)
  obtain ⟨A, hA⟩ : ∃ A : Option Addr, A = (some ad) := ⟨_, rfl⟩
  rw [← hA] at hb ⊢
  obtain ⟨i0, hi, hz0, hz1, hz2⟩ := info_parts info5
  have HI0 := Lib.hid (And.intro hi (And.intro hz0 (And.intro hz1 hz2)))
  have HC := Lib.hid (fun (w : World) (h : Byt w A n c g) => hash_yes A n c g w h hn)
  have HPt := Lib.hid (fun (A : Option Addr) (c : Nat) (w : World) (h : Byt w A (pdl n) c (pdb g n)) => portions_any A (pdl n) c (pdb g n) w h (by unfold pdl zz; omega))
  have HPb := Lib.hid (pdb_lt hb.lt n)
  have oP := hshV_ok hb.lt n
  have HOk : Hid (∀ k, Ok (fld hshS (S5a, S5a) (pdb g n) (pdl n) k)) := Lib.hid (fun k => fld_ok (fun _ _ hs hp => hshS_ok hs hp) ⟨S5a_lt, S5a_lt⟩ (pdb_lt hb.lt n) _ k)
  have HPok : Hid (∀ k, Ok (pw (pdb g n) (pdl n) k)) := Lib.hid (fun k => pw_ok (pdb_lt hb.lt n) _ k)
  obtain ⟨P, hP⟩ : ∃ P, P = (hshV g n).1 := ⟨_, rfl⟩
  obtain ⟨Q, hQ⟩ : ∃ Q, Q = (hshV g n).2 := ⟨_, rfl⟩
  unfold Ok at oP
  rw [← hP, ← hQ] at HC oP
  have HQ : Hid (∀ w, (Op.equalIn 10000 23 (.agg (kl P Q).toArray) (.agg (kl P Q).toArray)).run Try.prog w = .ok true w) := Lib.hid (fun w => by rw [run_equal_key oP.1 oP.2 oP.1 oP.2 w]; simp [same])
  have HPQ : Hid (P = (fld hshS (S5a, S5a) (pdb g n) (pdl n) (cnt (pdl n))).1 ∧ Q = (fld hshS (S5a, S5a) (pdb g n) (pdl n) (cnt (pdl n))).2) := Lib.hid ⟨hP, hQ⟩
  have HY := Lib.hid hb
  have HG := Lib.hid hb.lt
  have HA := Lib.hid hA
  have HNn := Lib.hid hn
  have d1 : decide ((16384 : Int) < (n : Int)) = false := decide_eq_false (by omega)
  have d3 : ¬ ((16384 : Int) < (n : Int)) := by omega
  clear hP hQ oP hb hA hi hz0 hz1 hz2
  go_enter Try.func15, Try.ntmps15
  go_wp2_with fail
  refine (HAl.out _).mono ?_
  rintro e w1 ⟨rfl, B1⟩
  have HB1 := Lib.hid B1
  clear B1
  go_wp2_with fail
  have Y1 : Hid (Byt w1 A n c g) := Lib.hid (HY.out.keep HB1.out)
  refine (HC.out w1 Y1.out).mono ?_
  rintro e w7 ⟨rfl, hb7⟩
  obtain ⟨m7, hm7⟩ : ∃ m7, m7 = w7.heap.size := ⟨_, rfl⟩
  obtain ⟨W8, hW8⟩ : ∃ W8, W8 = (w7.alloc (.cells z16 23)).setCells m7 0 (kl P Q) := ⟨_, rfl⟩
  have T7 : Hid ((w7.alloc (.cells z16 23)).there m7 0 16) := Lib.hid (by rw [hm7]; exact (Row.zeros w7 23).there)
  have B78 : Below w7.heap.size w7 W8 := by rw [hW8, hm7]; exact below_setCells _ _ _ _ ((Below.refl _ _).alloc (Nat.le_refl _) _) (Nat.le_refl _)
  have B8 := hb7.trans (B78.mono hb7.size)
  have K8 : Hid (KeyAt W8 m7 P Q) := Lib.hid (by rw [hW8]; exact KeyAt.stored T7.out P Q)
  have C8 : Hid (Below w.heap.size w W8) := Lib.hid (HB1.out.trans (B8.mono HB1.out.size))
  have S8 : Hid (m7 < W8.heap.size ∧ w.heap.size ≤ m7) := Lib.hid ⟨by rw [hW8, size_setCells, hm7]; simp, by have := hb7.size; have := HB1.out.size; omega⟩
  have HW8 := Lib.hid hW8
  have HM7 := Lib.hid hm7
  clear hW8 hb7 B78 B8 hm7
  have HB8 : Hid (Byt W8 A n c g) := Lib.hid (HY.out.keep C8.out)
  obtain ⟨m9, hm9⟩ : ∃ m9, m9 = W8.heap.size := ⟨_, rfl⟩
  obtain ⟨W9, hW9⟩ : ∃ W9, W9 = W8.alloc (.cells #[] 5) := ⟨_, rfl⟩
  have b89 : Below m9 W8 W9 := by rw [hW9, hm9]; exact (Below.refl _ _).alloc (Nat.le_refl _) _
  have HO9 : Hid (W9.ownsRow m9 5 1 (.slice (some ⟨m9, 0, none⟩) 0 0) 0 []) := Lib.hid (by
    rw [hW9, hm9]
    exact ⟨rfl, .inr ⟨W8.heap.size, 0, #[], rfl, Nat.le_refl _, heap_alloc_new W8 (.cells #[] 5), Nat.le_refl _, by simp [maxLen], rfl, rfl⟩⟩)
  have HY9 : Hid (Byt W9 A n c g) := Lib.hid (HB8.out.keep (by rw [← hm9]; exact b89))
  have B9 := Lib.hid b89
  have HW9 := Lib.hid hW9
  have HM9 := Lib.hid hm9
  clear hW9 b89 hm9 Y1 HB1
  have hnw : ∀ j u, (bl ((List.range n).map g))[j]? = some u → W9.cell? (ad.add j) = some u := by
    intro j u hu
    have hj : j < n := by have := (List.getElem?_eq_some_iff.1 hu).1; simp [bl] at this; exact this
    obtain ⟨b, off, e, hc⟩ := HY9.out.at_ (by omega)
    rw [HA.out] at e
    injection e with e
    subst e
    rw [Addr.add_lit, hc j hj, ← hu]
    exact (bl_get _ j (g j) (by simp [List.getElem?_map, List.getElem?_range hj])).symm
  have hlen : (bl ((List.range n).map g)).length = n * 1 := by simp [bl]
  have hml : 0 + n ≤ maxLen := by unfold maxLen; omega
  have h47 : (0 + n) * 1 ≤ 140737488355328 := by omega
  have hbs : m9 ≤ W9.heap.size := by have := B9.out.size; rw [← HM9.out] at this; exact this
  have hi := HI0.out.1
  have hz0 := HI0.out.2.1
  have hz1 := HI0.out.2.2.1
  have hz2 := HI0.out.2.2.2
  have ho := HO9.out
  go_wp2_with (first
    | ((refine wpList_store_key rfl _ _ rfl w7.heap.size P Q rfl rfl (by rw [← HM7.out]; exact T7.out) ?_); rw [← HM7.out, ← HW8.out])
    | (at_builtin; rw [← HM9.out, ← HW9.out]; refine wpList_append_own _ rfl _ _ 26 rfl m9 5 i0 _ 1 1 Try.underlying26 hi hz0 hz1 hz2 rfl (by omega) _ 0 [] rfl ho ad n c (bl ((List.range n).map g)) (by rw [HA.out]; rfl) hlen hnw (bl_one _) hml h47 hbs ?_; intro v10 w10 hown10 hg10 _; have HO10 : Hid (w10.ownsRow m9 5 1 v10 n (bl ((List.range n).map g))) := Lib.hid (by rw [Nat.zero_add, List.nil_append] at hown10; exact hown10); have B10 : Hid (Below m9 W8 w10) := Lib.hid (B9.out.grown hg10 hbs (fun b hb => own_block ho hb.symm)); have S10 : Hid (m9 ≤ w10.heap.size) := Lib.hid (Nat.le_trans hbs hg10.size); clear hown10 hg10)
    | (at_builtin; refine wpList_append_own _ rfl _ _ 26 rfl m9 5 i0 _ 1 1 Try.underlying26 hi hz0 hz1 hz2 rfl (by omega) v10 n (bl ((List.range n).map g)) rfl (HO10.out.alloc _) ⟨w10.heap.size, 0, none⟩ 1 1 [.int .u8 128] rfl rfl (cell_one_new _ _ _) (by intro u hu; simp at hu; subst hu; rfl) (by unfold maxLen; omega) (by omega) (by have := S10.out; simp; omega) ?_; intro v12 w12 hown12 hg12 _; have HO12 : Hid (w12.ownsRow m9 5 1 v12 (n + 1) (pdn g n (n + 1))) := Lib.hid (by rw [pdn_one]; exact hown12); have B12 : Hid (Below m9 W8 w12) := Lib.hid ((B10.out.alloc S10.out _).grown hg12 (by have := S10.out; simp; omega) (fun b hb => own_block HO10.out hb.symm)); have S12 : Hid (m9 ≤ w12.heap.size) := Lib.hid (Nat.le_trans (by have := S10.out; simp; omega) hg12.size); clear hown12 hg12))
  clear ho hnw hlen hml h47 hbs
  go_loopw [6] (fun v wr => ∃ k : Nat, k ≤ zz n ∧ Hid (wr.ownsRow m9 5 1 v (n + 1 + k) (pdn g n (n + 1 + k))) ∧ Hid (Below m9 W8 wr) ∧ Hid (m9 ≤ wr.heap.size)) (fun v _ => n + 1 + zz n - vlen v)
  case atStart => exact ⟨0, by omega, HO12, B12, S12⟩
  case round =>
    obtain ⟨k, hk, HO, HB, HS⟩ := hrel
    clear HO12 B12 S12
    obtain ⟨A6, c6, hv6⟩ := own_len HO.out
    obtain ⟨v6, hv6'⟩ : ∃ v6, v6 = u6 := ⟨_, rfl⟩
    rw [← hv6'] at HO hv6 ⊢
    subst hv6
    clear hv6'
    have hzz : zz n ≤ 16 := by unfold zz; omega
    obtain ⟨mm, hmm⟩ : ∃ mm, mm = n + 1 + k := ⟨_, rfl⟩
    have hm7 : mm < 70000 := by omega
    obtain ⟨r, hr⟩ : ∃ r, r = mm % 16 := ⟨_, rfl⟩
    have e1 : (mm : Int) % 16 = (r : Int) := by omega
    have e2 : (mm : Int).tmod 16 = (r : Int) := by rw [Int.tmod_eq_emod_of_nonneg (by omega)]; exact e1
    by_cases hlt : k < zz n
    · have hr8 : r ≠ 8 := by rw [hr, hmm]; unfold zz at hlt; omega
      have t1 : ((r : Int) == 8) = false := by simp; omega
      have t2 : ((r : Int) != 8) = true := by simp; omega
      have t3 : ¬ ((r : Int) = 8) := by omega
      have hsn := pdn_zero g n k hlt
      rw [← Nat.add_assoc] at hsn
      obtain ⟨xs, hxs⟩ : ∃ xs, xs = pdn g n (n + 1 + k) := ⟨_, rfl⟩
      rw [← hxs] at hsn HO
      rw [← hmm] at HO hsn ⊢
      have HSN := Lib.hid hsn
      have HM := Lib.hid hmm
      have ho := HO.out
      clear hsn hxs hr hmm
      go_wp2_with (at_builtin; refine wpList_append_own _ rfl _ _ 26 rfl m9 5 i0 _ 1 1 Try.underlying26 hi hz0 hz1 hz2 rfl (by omega) (Value.slice A6 mm c6) mm xs rfl (ho.alloc _) ⟨wr.heap.size, 0, none⟩ 1 1 [.int .u8 0] rfl rfl (cell_one_new _ _ _) (by intro u hu; simp at hu; subst hu; rfl) (by unfold maxLen; omega) (by omega) (by have := HS.out; simp; omega) ?_; intro v1 w6 hown6 hg6 _)
      go_roundw
      case rel => exact ⟨k + 1, by omega, Lib.hid (by rw [← Nat.add_assoc, ← HM.out, HSN.out]; exact hown6), Lib.hid ((HB.out.alloc HS.out _).grown hg6 (by have := HS.out; simp; omega) (fun b hb => own_block HO.out hb.symm)), Lib.hid (Nat.le_trans (by have := HS.out; simp; omega) hg6.size)⟩
      case measure =>
        obtain ⟨A8, c8, hv8⟩ := own_len hown6
        have := HM.out
        rw [hv8]
        simp only [vlen]
        omega
    · skip
      have hkz : k = zz n := by omega
      have hr8 : r = 8 := by rw [hr, hmm, hkz]; unfold zz; omega
      have e1' : (mm : Int) % 16 = 8 := by omega
      have e2' : (mm : Int).tmod 16 = 8 := by rw [Int.tmod_eq_emod_of_nonneg (by omega)]; exact e1'
      obtain ⟨p, hp⟩ : ∃ p, p = n / 256 := ⟨_, rfl⟩
      obtain ⟨q, hq⟩ : ∃ q, q = n % 256 := ⟨_, rfl⟩
      have hp8 : p < 256 := by omega
      have hq8 : q < 256 := by omega
      have f1 : (n : Int) / 256 = (p : Int) := by omega
      have f2 : (n : Int) % 256 = (q : Int) := by omega
      have hla := pdn_last g n hn p q hp hq
      have hmz : mm = n + 1 + zz n := by rw [hmm, hkz]
      have hpl : pdl n = mm + 8 := by rw [hmz]; rfl
      rw [← hmm] at HO ⊢
      rw [← hmz] at hla
      obtain ⟨xs, hxs⟩ : ∃ xs, xs = pdn g n mm := ⟨_, rfl⟩
      rw [← hxs] at hla HO
      have HLa := Lib.hid hla
      have HPl := Lib.hid hpl
      have ho := HO.out
      clear e1 e2 hr hr8 hla hxs hkz hmm hmz hp hq hlt hpl
      go_wp2_with (at_builtin; refine wpList_append_own _ rfl _ _ 26 rfl m9 5 i0 _ 1 1 Try.underlying26 hi hz0 hz1 hz2 rfl (by omega) (Value.slice A6 mm c6) mm xs rfl (ho.alloc _) ⟨wr.heap.size, 0, none⟩ 8 8 [Value.int .u8 0, Value.int .u8 0, Value.int .u8 0, Value.int .u8 0, Value.int .u8 0, Value.int .u8 0, Value.int .u8 (p : Int), Value.int .u8 (q : Int)] rfl rfl (fun j u hu => cells_new wr _ 5 j u hu) (by intro u hu; simp at hu; rcases hu with rfl | rfl | rfl <;> rfl) (by unfold maxLen; omega) (by omega) (by have := HS.out; simp; omega) ?_; intro v13 w13 hown13 hg13 _)
      obtain ⟨gz, hgz⟩ : ∃ gz, gz = wr.heap.size := ⟨_, rfl⟩
      rw [← hgz]
      have HGz := Lib.hid hgz
      clear hgz
      have HO13 : w13.ownsRow m9 5 1 v13 (pdl n) (bl ((List.range (pdl n)).map (pdb g n))) := by
        have h : w13.ownsRow m9 5 1 v13 (pdl n) (pdn g n (pdl n)) := by rw [HLa.out, HPl.out]; exact hown13
        exact h
      obtain ⟨A13, c13, hv13, hy13⟩ := own_byt HO13 HPb.out
      subst hv13
      have B13 : Hid (Below m9 W8 w13) := Lib.hid ((HB.out.alloc HS.out _).grown hg13 (by have := HS.out; simp; omega) (fun b hb => own_block HO.out hb.symm))
      have S13 : Hid (m9 ≤ w13.heap.size) := Lib.hid (Nat.le_trans (by have := HS.out; simp; omega) hg13.size)
      have Y13 := Lib.hid hy13
      obtain ⟨sb, hsb⟩ : ∃ sb, sb = w13.heap.size := ⟨_, rfl⟩
      obtain ⟨W14, hW14⟩ : ∃ W14, W14 = w13.alloc (.cells z16 23) := ⟨_, rfl⟩
      have HR14 : Hid (Row W14 sb (fun _ => 0)) := Lib.hid (by rw [hW14, hsb]; exact Row.zeros w13 23)
      have B14 : Hid (Below sb w13 W14) := Lib.hid (by rw [hW14, hsb]; exact (Below.refl _ _).alloc (Nat.le_refl _) _)
      have HSB := Lib.hid hsb
      have HW14 := Lib.hid hW14
      clear hown13 hg13 HO13 hy13 hsb hW14 ho HO HB HS
      rw [← HSB.out, ← HW14.out]
      go_loopw [8] (fun i wr => ∃ (k : Nat) (f : Nat → Nat), k ≤ 16 ∧ i = .int .i64 (k : Int) ∧ Hid (Below sb W14 wr) ∧ Hid (Row wr sb f ∧ ∀ j, j < k → f j = 90)) (fun i _ => 16 - (intOf i).toNat)
      case atStart => exact ⟨0, _, by omega, rfl, Lib.hid (Below.refl _ _), Lib.hid ⟨HR14.out, fun j hj => by omega⟩⟩
      case round =>
        obtain ⟨k2, f, hk2, rfl, HBr, HI⟩ := hrel
        by_cases hlt2 : k2 < 16
        · have t1 : decide ((k2 : Int) < 16) = true := decide_eq_true (by omega)
          have t2 : decide (k2 < 16) = true := decide_eq_true hlt2
          have c1 := HI.out.1.cell k2 hlt2
          have f1' := HI.out.1.fr k2 hlt2
          have l1 : (0 : Int) ≤ (k2 : Int) := by omega
          have l2 : (k2 : Int) < 16 := by omega
          go_wp2_with fail
          go_roundw
          case rel =>
            refine ⟨k2 + 1, _, by omega, by go_num, Lib.hid (HBr.out.setCell (p := ⟨sb, k2, none⟩) (Nat.le_refl _) _), Lib.hid ⟨HI.out.1.set k2 90 hlt2, fun j hj => ?_⟩⟩
            by_cases e : j = k2
            · rw [if_pos e]
            · rw [if_neg e]; exact HI.out.2 j (by omega)
          case measure => simp [intOf]; omega
        · obtain rfl : k2 = 16 := by omega
          have t1 : decide (((16 : Nat) : Int) < 16) = false := by decide
          have KS : Hid (KeyAt wr sb S5a S5a) := Lib.hid (HI.out.1.key fun j hj => by rw [HI.out.2 j hj, kby_5a j hj])
          have TS : Hid (wr.there sb 0 16) := Lib.hid HI.out.1.there
          have Bsr := B14.out.trans HBr.out
          have Br : Hid (Below m9 W8 wr) := Lib.hid (B13.out.trans (Bsr.mono (by rw [HSB.out]; exact S13.out)))
          have Yr : Hid (Byt wr A13 (pdl n) c13 (pdb g n)) := Lib.hid (Y13.out.keep (by rw [← HSB.out]; exact Bsr))
          have Sr : Hid (sb < wr.heap.size ∧ m9 ≤ sb) := Lib.hid ⟨HI.out.1.lt, by rw [HSB.out]; exact S13.out⟩
          obtain ⟨wq, hwq⟩ : ∃ wq, wq = wr := ⟨_, rfl⟩
          clear HI HBr hlt2 Bsr
          go_wp2_with fail
          refine (HPt.out A13 c13 wr Yr.out).mono ?_
          rintro e w15 ⟨rfl, hb15, hr15⟩
          obtain ⟨pb, hpb⟩ : ∃ pb, pb = wr.heap.size := ⟨_, rfl⟩
          rw [← hpb] at hr15 ⊢
          have K15 : Hid (KeyAt w15 sb S5a S5a) := Lib.hid (KS.out.keep hb15)
          have T15 : Hid (w15.there sb 0 16) := Lib.hid (there_below TS.out hb15 (there_lt TS.out (by omega)))
          have B15 : Hid (Below m9 W8 w15) := Lib.hid (Br.out.trans (hb15.mono (by have := Sr.out; omega)))
          have O15 : Hid (m9 ≤ sb ∧ sb < pb ∧ m7 < m9 ∧ m9 ≤ w15.heap.size) := Lib.hid ⟨Sr.out.2, by rw [hpb]; exact Sr.out.1, by have := S8.out; have := HM9.out; omega, by have := hb15.size; have := Sr.out; omega⟩
          have R15 := Lib.hid hr15
          clear hb15 hr15 hpb KS TS Br Yr Sr hwq
          go_wp2_with fail
          go_loopw [10] (fun i wr => ∃ k : Nat, k ≤ cnt (pdl n) ∧ i = .int .i64 (k : Int) ∧ Hid (Below m9 W8 wr) ∧ Hid (m9 ≤ wr.heap.size) ∧ Hid (RowN wr pb (16 * cnt (pdl n)) (fun i => if i < pdl n then pdb g n i else 0)) ∧ Hid (wr.there sb 0 16 ∧ KeyAt wr sb (fld hshS (S5a, S5a) (pdb g n) (pdl n) k).1 (fld hshS (S5a, S5a) (pdb g n) (pdl n) k).2)) (fun i _ => cnt (pdl n) - (intOf i).toNat)
          case atStart => exact ⟨0, by omega, rfl, B15, Lib.hid O15.out.2.2.2, R15, Lib.hid ⟨T15.out, K15.out⟩⟩
          case round =>
            obtain ⟨k3, hk3, rfl, HBr, HRs, HRw, HI⟩ := hrel
            clear B15 R15 T15 K15
            by_cases hlt : k3 < cnt (pdl n)
            · have hk7 : k3 < 70000 := by unfold cnt pdl at hlt; omega
              have hd : decide ((k3 : Int) < ((cnt (pdl n) : Nat) : Int)) = true := decide_eq_true (by omega)
              have hd2 : decide (k3 < cnt (pdl n)) = true := decide_eq_true hlt
              have hsk := HOk.out k3
              have hpk := HPok.out k3
              have hfs : fld hshS (S5a, S5a) (pdb g n) (pdl n) (k3 + 1) = hshS (fld hshS (S5a, S5a) (pdb g n) (pdl n) k3) (pw (pdb g n) (pdl n) k3) := rfl
              unfold hshS at hfs
              have hat := fun (w' : World) (h : RowN w' pb (16 * cnt (pdl n)) (fun i => if i < pdl n then pdb g n i else 0)) => h.key_at HPb.out hlt
              obtain ⟨S, hS⟩ : ∃ S, S = (fld hshS (S5a, S5a) (pdb g n) (pdl n) k3).1 := ⟨_, rfl⟩
              obtain ⟨T, hT⟩ : ∃ T, T = (fld hshS (S5a, S5a) (pdb g n) (pdl n) k3).2 := ⟨_, rfl⟩
              obtain ⟨C, hC⟩ : ∃ C, C = (pw (pdb g n) (pdl n) k3).1 := ⟨_, rfl⟩
              obtain ⟨D, hD⟩ : ∃ D, D = (pw (pdb g n) (pdl n) k3).2 := ⟨_, rfl⟩
              unfold Ok at hsk hpk
              rw [← hS, ← hT] at hsk
              rw [← hC, ← hD] at hpk hat
              have hfs1 : fld hshS (S5a, S5a) (pdb g n) (pdl n) (k3 + 1) = ((enc C D S T).1 ^^^ S, (enc C D S T).2 ^^^ T) := by rw [hC, hD, hS, hT]; rfl
              have HI2 : Hid (KeyAt wr sb S T) := Lib.hid (by rw [hS, hT]; exact HI.out.2)
              have HI1 := Lib.hid HI.out.1
              have he1 := fun w => encrypt_any C D S T w hpk.1 hpk.2 hsk.1 hsk.2
              obtain ⟨U0, hU0⟩ : ∃ U0, U0 = (enc C D S T).1 := ⟨_, rfl⟩
              obtain ⟨V0, hV0⟩ : ∃ V0, V0 = (enc C D S T).2 := ⟨_, rfl⟩
              rw [← hU0, ← hV0] at he1 hfs1
              have hx1 := fun w => lawXor_any U0 V0 S T w
              obtain ⟨U, hU⟩ : ∃ U, U = U0 ^^^ S := ⟨_, rfl⟩
              obtain ⟨V, hV⟩ : ∃ V, V = V0 ^^^ T := ⟨_, rfl⟩
              rw [← hU, ← hV] at hx1 hfs1
              have HF : Hid ((fld hshS (S5a, S5a) (pdb g n) (pdl n) (k3 + 1)).1 = U ∧ (fld hshS (S5a, S5a) (pdb g n) (pdl n) (k3 + 1)).2 = V) := Lib.hid (by rw [hfs1]; exact ⟨rfl, rfl⟩)
              have HE1 := Lib.hid he1
              have HX1 := Lib.hid hx1
              have HAt := Lib.hid hat
              have O1 := O15.out
              clear he1 hx1 hat hfs hfs1 hS hT hC hD hU hV hU0 hV0 hsk hpk HI
              go_wp2_with fail
              refine wp_region_inv (by kernel_rfl) (by kernel_rfl) (fun l a w' => a = { tmps := #[Value.slice A n c, undef, Value.bool false, Value.bool true, Value.pointer (some ⟨m7, 0, none⟩), Value.int .i64 (0 : Int), Value.slice A13 (pdl n) c13, Value.pointer (some ⟨sb, 0, none⟩), Value.int .i64 (16 : Int), Value.slice (some ⟨pb, 0, none⟩) (cnt (pdl n)) (cnt (pdl n)), Value.int .i64 (k3 : Int), Value.bool true, Value.tuple #[Value.agg (kl P Q).toArray, Value.int IntKind.i64 0], Value.slice A n c, Value.tuple #[Value.agg (kl P Q).toArray, Value.int IntKind.i64 0], Value.agg (kl P Q).toArray, Value.int .i64 (0 : Int), Value.slice A n c, Value.int .i64 (n : Int), Value.bool false, undef, undef, undef, undef, undef, Value.slice (some ⟨m9, 0, none⟩) 0 0, Value.slice A n c, v10, v10, Value.slice (some ⟨w10.heap.size, 0, none⟩) 1 1, v12, Value.slice A6 mm c6, Value.int .i64 (mm : Int), Value.int .i64 (8 : Int), Value.bool false, u35, u36, u37, Value.slice A6 mm c6, Value.slice A n c, Value.int .i64 (n : Int), Value.int .i64 (p : Int), Value.int .u8 (p : Int), Value.slice A n c, Value.int .i64 (n : Int), Value.int .u8 (q : Int), Value.slice (some ⟨gz, 0, none⟩) 8 8, Value.slice A13 (pdl n) c13, Value.int .i64 (16 : Int), Value.bool false, u50, u51, u52, u53, Value.slice A13 (pdl n) c13, Value.slice (some ⟨pb, 0, none⟩) (cnt (pdl n)) (cnt (pdl n)), Value.int .i64 (k3 : Int), Value.slice (some ⟨pb, 0, none⟩) (cnt (pdl n)) (cnt (pdl n)), Value.int .i64 (cnt (pdl n) : Int), Value.bool true, u60, u61, bif l 0 then Value.slice (some ⟨pb, 0, none⟩) (cnt (pdl n)) (cnt (pdl n)) else u62, bif l 1 then Value.int .i64 (k3 : Int) else u63, bif l 2 then Value.pointer (some ⟨pb, k3 * 16, none⟩) else u64, bif l 3 then Value.agg (kl C D).toArray else u65, bif l 4 then Value.agg (kl S T).toArray else u66, bif l 5 then Value.agg (kl U0 V0).toArray else u67, bif l 6 then Value.agg (kl S T).toArray else u68, bif l 7 then Value.agg (kl U V).toArray else u69, undef, undef, undef, undef, undef, undef, undef, undef, undef, undef], defers := [] } ∧ Below (m9) wr w' ∧ RowN w' pb (16 * cnt (pdl n)) (fun i => if i < pdl n then pdb g n i else 0) ∧ w'.there (sb) 0 16 ∧ (l 8 = true → KeyAt w' (sb) U V) ∧ (l 8 = false → KeyAt w' (sb) S T) ∧ (l 8 = true → l 4 = true) ∧ (l 8 = true → l 6 = true)) ⟨rfl, (Below.refl _ _).drew, HRw.out.drew, HI1.out, (fun h => by cases h), (fun _ => HI2.out), (fun h => by cases h), (fun h => by cases h)⟩ ?_ ?_
              · rintro l a w' i ⟨rfl, hB, K0, hT, hS, hP, ho4, ho6⟩ hi hli hpre
                have hi2 : i < 9 := hi
                have hcase : i = 0 ∨ i = 1 ∨ i = 2 ∨ i = 3 ∨ i = 4 ∨ i = 5 ∨ i = 6 ∨ i = 7 ∨ i = 8 := by omega
                clear hi hi2
                rcases hcase with rfl | rfl | rfl | rfl | rfl | rfl | rfl | rfl | rfl
                · -- 0: Op.move (Operand.tmp 9)
                  refine wpOp_step rfl (fun K hK => ?_)
                  clear hpre
                  rw [if_pos (by rfl)]
                  go_simp
                  exact hK _ _ ⟨by simp [upd, Act.put], hB, K0, hT, (fun e => hS (by simpa [upd] using e)), (fun e => hP (by simpa [upd] using e)), (by first | (simp [upd]; done) | simpa [upd] using ho4), (by first | (simp [upd]; done) | simpa [upd] using ho6)⟩
                · -- 1: Op.move (Operand.tmp 10)
                  refine wpOp_step rfl (fun K hK => ?_)
                  clear hpre
                  rw [if_pos (by rfl)]
                  go_simp
                  exact hK _ _ ⟨by simp [upd, Act.put], hB, K0, hT, (fun e => hS (by simpa [upd] using e)), (fun e => hP (by simpa [upd] using e)), (by first | (simp [upd]; done) | simpa [upd] using ho4), (by first | (simp [upd]; done) | simpa [upd] using ho6)⟩
                · -- 2: Op.indexAddr 58 (Operand.tmp 62) (Operand.tmp 63)
                  have p0 : l 0 = true := hpre _ rfl ⟨0, .data⟩ (by simp) rfl
                  have p1 : l 1 = true := hpre _ rfl ⟨1, .data⟩ (by simp) rfl
                  refine wpOp_step rfl (fun K hK => ?_)
                  simp only [p0, p1, cond_true]
                  clear hpre
                  rw [if_pos (by rfl)]
                  have l1 : (0 : Int) ≤ (k3 : Int) := by omega
                  have l2 : (k3 : Int) < ((cnt (pdl n) : Nat) : Int) := by omega
                  go_simp
                  exact hK _ _ ⟨by simp [upd, Act.put, p0, p1], hB, K0, hT, (fun e => hS (by simpa [upd] using e)), (fun e => hP (by simpa [upd] using e)), (by first | (simp [upd, p0, p1]; done) | simpa [upd, p0, p1] using ho4), (by first | (simp [upd, p0, p1]; done) | simpa [upd, p0, p1] using ho6)⟩
                · -- 3: Op.load 23 (Operand.tmp 64)
                  have p2 : l 2 = true := hpre _ rfl ⟨2, .data⟩ (by simp) rfl
                  refine wpOp_step rfl (fun K hK => ?_)
                  simp only [p2, cond_true]
                  clear hpre
                  rw [if_pos (by rfl)]
                  refine wp_load_mid 23 _ rfl _ (k3 * 16) rfl (kl C D) _ (HAt.out _ K0) Try.underlying23 rfl (by rw [kl_len]; exact size23) ?_
                  exact hK _ _ ⟨by simp [upd, Act.put, p2], hB, K0, hT, (fun e => hS (by simpa [upd] using e)), (fun e => hP (by simpa [upd] using e)), (by first | (simp [upd, p2]; done) | simpa [upd, p2] using ho4), (by first | (simp [upd, p2]; done) | simpa [upd, p2] using ho6)⟩
                · -- 4: Op.load 23 (Operand.tmp 7)
                  refine wpOp_step rfl (fun K hK => ?_)
                  clear hpre
                  rw [if_pos (by rfl)]
                  have n7 : l 8 = false := by cases h : l 8; rfl; exact absurd (ho4 h) (by rw [hli]; decide)
                  refine wp_load_mid 23 _ rfl _ 0 rfl (kl S T) _ (hP n7) Try.underlying23 rfl (by rw [kl_len]; exact size23) ?_
                  exact hK _ _ ⟨by simp [upd, Act.put], hB, K0, hT, (fun e => hS (by simpa [upd] using e)), (fun e => hP (by simpa [upd] using e)), (by first | (simp [upd]; done) | simpa [upd] using ho4), (by first | (simp [upd]; done) | simpa [upd] using ho6)⟩
                · -- 5: Op.call { callee := Callee.value (Operand.func 27), args := 
                  have p3 : l 3 = true := hpre _ rfl ⟨3, .data⟩ (by simp) rfl
                  have p4 : l 4 = true := hpre _ rfl ⟨4, .data⟩ (by simp) rfl
                  refine wpOp_step rfl (fun K hK => ?_)
                  simp only [p3, p4, cond_true]
                  clear hpre
                  rw [if_pos (by rfl)]
                  go_simp
                  refine (HE1.out _).mono ?_
                  rintro e w5 ⟨rfl, hb5⟩
                  exact hK _ _ ⟨by simp [upd, Act.put, p3, p4], hB.trans (hb5.mono (Nat.le_trans (HRs.out) hB.size)), K0.keep hb5, there_below hT hb5 (there_lt hT (by omega)), (fun e => (hS (by simpa [upd] using e)).keep hb5), (fun e => (hP (by simpa [upd] using e)).keep hb5), (by first | (simp [upd, p3, p4]; done) | simpa [upd, p3, p4] using ho4), (by first | (simp [upd, p3, p4]; done) | simpa [upd, p3, p4] using ho6)⟩
                · -- 6: Op.load 23 (Operand.tmp 7)
                  refine wpOp_step rfl (fun K hK => ?_)
                  clear hpre
                  rw [if_pos (by rfl)]
                  have n7 : l 8 = false := by cases h : l 8; rfl; exact absurd (ho6 h) (by rw [hli]; decide)
                  refine wp_load_mid 23 _ rfl _ 0 rfl (kl S T) _ (hP n7) Try.underlying23 rfl (by rw [kl_len]; exact size23) ?_
                  exact hK _ _ ⟨by simp [upd, Act.put], hB, K0, hT, (fun e => hS (by simpa [upd] using e)), (fun e => hP (by simpa [upd] using e)), (by first | (simp [upd]; done) | simpa [upd] using ho4), (by first | (simp [upd]; done) | simpa [upd] using ho6)⟩
                · -- 7: Op.call { callee := Callee.value (Operand.func 26), args := 
                  have p5 : l 5 = true := hpre _ rfl ⟨5, .data⟩ (by simp) rfl
                  have p6 : l 6 = true := hpre _ rfl ⟨6, .data⟩ (by simp) rfl
                  refine wpOp_step rfl (fun K hK => ?_)
                  simp only [p5, p6, cond_true]
                  clear hpre
                  rw [if_pos (by rfl)]
                  go_simp
                  refine (HX1.out _).mono ?_
                  rintro e w5 ⟨rfl, hb5⟩
                  exact hK _ _ ⟨by simp [upd, Act.put, p5, p6], hB.trans (hb5.mono (Nat.le_trans (HRs.out) hB.size)), K0.keep hb5, there_below hT hb5 (there_lt hT (by omega)), (fun e => (hS (by simpa [upd] using e)).keep hb5), (fun e => (hP (by simpa [upd] using e)).keep hb5), (by first | (simp [upd, p5, p6]; done) | simpa [upd, p5, p6] using ho4), (by first | (simp [upd, p5, p6]; done) | simpa [upd, p5, p6] using ho6)⟩
                · -- 8: Op.store 23 (Operand.tmp 7) (Operand.tmp 69)
                  have p7 : l 7 = true := hpre _ rfl ⟨7, .data⟩ (by simp) rfl
                  have p0 : l 0 = true := hpre _ rfl ⟨0, .phase⟩ (by simp) rfl
                  have p1 : l 1 = true := hpre _ rfl ⟨1, .phase⟩ (by simp) rfl
                  have p2 : l 2 = true := hpre _ rfl ⟨2, .phase⟩ (by simp) rfl
                  have p3 : l 3 = true := hpre _ rfl ⟨3, .phase⟩ (by simp) rfl
                  have p4 : l 4 = true := hpre _ rfl ⟨4, .phase⟩ (by simp) rfl
                  have p5 : l 5 = true := hpre _ rfl ⟨5, .phase⟩ (by simp) rfl
                  have p6 : l 6 = true := hpre _ rfl ⟨6, .phase⟩ (by simp) rfl
                  refine wpOp_step rfl (fun K hK => ?_)
                  simp only [p7, p0, p1, p2, p3, p4, p5, p6, cond_true]
                  clear hpre
                  rw [if_pos (by rfl)]
                  refine wp_store_mid 23 _ _ rfl (sb) 0 (kl U V).toArray rfl rfl (by simpa [kl_len] using hT) (by simp [kl_len, size23]) (kl_arr U V) ?_
                  rw [List.toList_toArray]
                  exact hK _ _ ⟨by simp [upd, Act.put, p7, p0, p1, p2, p3, p4, p5, p6], below_setCells _ _ _ _ hB (by omega), K0.setCells _ _ (by omega), World.there_setCells hT _ _ _, (fun _ => KeyAt.stored hT U V), (fun e => absurd e (by simp [upd])), (by simp [upd, p7, p0, p1, p2, p3, p4, p5, p6]), (by simp [upd, p7, p0, p1, p2, p3, p4, p5, p6])⟩
              · rintro l a w9 hall ⟨rfl, hBz, K0, hT, hS, hP, ho4, ho6⟩
                simp only [hall 0 (by decide), hall 1 (by decide), hall 2 (by decide), hall 3 (by decide), hall 4 (by decide), hall 5 (by decide), hall 6 (by decide), hall 7 (by decide), cond_true]
                replace hS := hS (hall 8 (by decide))
                clear hall
                go_wp2
                go_roundw
                case rel => exact ⟨k3 + 1, by omega, by go_num, Lib.hid (HBr.out.trans hBz), Lib.hid (Nat.le_trans HRs.out hBz.size), Lib.hid K0, Lib.hid ⟨hT, by rw [HF.out.1, HF.out.2]; exact hS⟩⟩
                case measure => simp [intOf]; omega
            · have hkn : k3 = cnt (pdl n) := by omega
              have hd : decide ((k3 : Int) < ((cnt (pdl n) : Nat) : Int)) = false := decide_eq_false (by omega)
              have hd2 : decide (k3 < cnt (pdl n)) = false := decide_eq_false hlt
              have HKf : Hid (KeyAt wr sb P Q) := Lib.hid (by have h := HI.out.2; rw [hkn, ← HPQ.out.1, ← HPQ.out.2] at h; exact h)
              have HKm : Hid (KeyAt wr m7 P Q) := Lib.hid (K8.out.below HBr.out O15.out.2.2.1)
              have HCf : Hid (Below w.heap.size w wr) := Lib.hid (C8.out.trans (HBr.out.mono (by have := S8.out; have := HM9.out; omega)))
              have q1 := HQ.out
              clear HI hlt
              go_wp2_with (first
                | (refine wpList_load_key_w rfl _ rfl m7 rfl P Q HKm.out ?_)
                | (refine wpList_load_key_w rfl _ rfl sb rfl P Q HKf.out ?_))
              go_ret
              exact ⟨rfl, HCf.out⟩

set_option maxRecDepth 100000 in
set_option maxHeartbeats 4000000 in
theorem walk_none (c : Nat) (g : Nat → Nat) (w : World) (hb : Byt w none 0 c g) :
    Calls Try.prog 15 #[.slice none 0 c] w fun e w' => e = .returned (.bool true) ∧ Below w.heap.size w w' := by
  obtain ⟨n, hn0⟩ : ∃ n, n = 0 := ⟨0, rfl⟩
  have hn : n ≤ 16384 := by omega
  rw [← hn0] at hb ⊢
  have HN0 := Lib.hid hn0
  clear hn0
  have HAl := Lib.hid (fun w => alive_any w)
  obtain ⟨A, hA⟩ : ∃ A : Option Addr, A = none := ⟨_, rfl⟩
  rw [← hA] at hb ⊢
  obtain ⟨i0, hi, hz0, hz1, hz2⟩ := info_parts info5
  have HI0 := Lib.hid (And.intro hi (And.intro hz0 (And.intro hz1 hz2)))
  have HC := Lib.hid (fun (w : World) (h : Byt w A n c g) => hash_yes A n c g w h hn)
  have HPt := Lib.hid (fun (A : Option Addr) (c : Nat) (w : World) (h : Byt w A (pdl n) c (pdb g n)) => portions_any A (pdl n) c (pdb g n) w h (by unfold pdl zz; omega))
  have HPb := Lib.hid (pdb_lt hb.lt n)
  have oP := hshV_ok hb.lt n
  have HOk : Hid (∀ k, Ok (fld hshS (S5a, S5a) (pdb g n) (pdl n) k)) := Lib.hid (fun k => fld_ok (fun _ _ hs hp => hshS_ok hs hp) ⟨S5a_lt, S5a_lt⟩ (pdb_lt hb.lt n) _ k)
  have HPok : Hid (∀ k, Ok (pw (pdb g n) (pdl n) k)) := Lib.hid (fun k => pw_ok (pdb_lt hb.lt n) _ k)
  obtain ⟨P, hP⟩ : ∃ P, P = (hshV g n).1 := ⟨_, rfl⟩
  obtain ⟨Q, hQ⟩ : ∃ Q, Q = (hshV g n).2 := ⟨_, rfl⟩
  unfold Ok at oP
  rw [← hP, ← hQ] at HC oP
  have HQ : Hid (∀ w, (Op.equalIn 10000 23 (.agg (kl P Q).toArray) (.agg (kl P Q).toArray)).run Try.prog w = .ok true w) := Lib.hid (fun w => by rw [run_equal_key oP.1 oP.2 oP.1 oP.2 w]; simp [same])
  have HPQ : Hid (P = (fld hshS (S5a, S5a) (pdb g n) (pdl n) (cnt (pdl n))).1 ∧ Q = (fld hshS (S5a, S5a) (pdb g n) (pdl n) (cnt (pdl n))).2) := Lib.hid ⟨hP, hQ⟩
  have HY := Lib.hid hb
  have HG := Lib.hid hb.lt
  have HA := Lib.hid hA
  have HNn := Lib.hid hn
  have d1 : decide ((16384 : Int) < (n : Int)) = false := decide_eq_false (by omega)
  have d3 : ¬ ((16384 : Int) < (n : Int)) := by omega
  clear hP hQ oP hb hA hi hz0 hz1 hz2
  go_enter Try.func15, Try.ntmps15
  go_wp2_with fail
  refine (HAl.out _).mono ?_
  rintro e w1 ⟨rfl, B1⟩
  have HB1 := Lib.hid B1
  clear B1
  go_wp2_with fail
  have Y1 : Hid (Byt w1 A n c g) := Lib.hid (HY.out.keep HB1.out)
  refine (HC.out w1 Y1.out).mono ?_
  rintro e w7 ⟨rfl, hb7⟩
  obtain ⟨m7, hm7⟩ : ∃ m7, m7 = w7.heap.size := ⟨_, rfl⟩
  obtain ⟨W8, hW8⟩ : ∃ W8, W8 = (w7.alloc (.cells z16 23)).setCells m7 0 (kl P Q) := ⟨_, rfl⟩
  have T7 : Hid ((w7.alloc (.cells z16 23)).there m7 0 16) := Lib.hid (by rw [hm7]; exact (Row.zeros w7 23).there)
  have B78 : Below w7.heap.size w7 W8 := by rw [hW8, hm7]; exact below_setCells _ _ _ _ ((Below.refl _ _).alloc (Nat.le_refl _) _) (Nat.le_refl _)
  have B8 := hb7.trans (B78.mono hb7.size)
  have K8 : Hid (KeyAt W8 m7 P Q) := Lib.hid (by rw [hW8]; exact KeyAt.stored T7.out P Q)
  have C8 : Hid (Below w.heap.size w W8) := Lib.hid (HB1.out.trans (B8.mono HB1.out.size))
  have S8 : Hid (m7 < W8.heap.size ∧ w.heap.size ≤ m7) := Lib.hid ⟨by rw [hW8, size_setCells, hm7]; simp, by have := hb7.size; have := HB1.out.size; omega⟩
  have HW8 := Lib.hid hW8
  have HM7 := Lib.hid hm7
  clear hW8 hb7 B78 B8 hm7
  have HB8 : Hid (Byt W8 A n c g) := Lib.hid (HY.out.keep C8.out)
  obtain ⟨m9, hm9⟩ : ∃ m9, m9 = W8.heap.size := ⟨_, rfl⟩
  obtain ⟨W9, hW9⟩ : ∃ W9, W9 = W8.alloc (.cells #[] 5) := ⟨_, rfl⟩
  have b89 : Below m9 W8 W9 := by rw [hW9, hm9]; exact (Below.refl _ _).alloc (Nat.le_refl _) _
  have HO9 : Hid (W9.ownsRow m9 5 1 (.slice (some ⟨m9, 0, none⟩) 0 0) 0 []) := Lib.hid (by
    rw [hW9, hm9]
    exact ⟨rfl, .inr ⟨W8.heap.size, 0, #[], rfl, Nat.le_refl _, heap_alloc_new W8 (.cells #[] 5), Nat.le_refl _, by simp [maxLen], rfl, rfl⟩⟩)
  have HY9 : Hid (Byt W9 A n c g) := Lib.hid (HB8.out.keep (by rw [← hm9]; exact b89))
  have B9 := Lib.hid b89
  have HW9 := Lib.hid hW9
  have HM9 := Lib.hid hm9
  clear hW9 b89 hm9 Y1 HB1
  have hi := HI0.out.1
  have hz0 := HI0.out.2.1
  have hz1 := HI0.out.2.2.1
  have hz2 := HI0.out.2.2.2
  have hap := fun ty => run_append_own_nil (c := c) i0 hi hz1 HO9.out ty
  have hbs : m9 ≤ W9.heap.size := by have := B9.out.size; rw [← HM9.out] at this; exact this
  obtain ⟨v10, hv10⟩ : ∃ v10, v10 = Value.slice (some ⟨m9, 0, none⟩) 0 0 := ⟨_, rfl⟩
  obtain ⟨w10, hw10⟩ : ∃ w10, w10 = W9 := ⟨_, rfl⟩
  have HO10 : Hid (w10.ownsRow m9 5 1 v10 n (bl ((List.range n).map g))) := Lib.hid (by rw [HN0.out, hw10, hv10]; exact HO9.out)
  have B10 : Hid (Below m9 W8 w10) := Lib.hid (by rw [hw10]; exact B9.out)
  have S10 : Hid (m9 ≤ w10.heap.size) := Lib.hid (by rw [hw10]; exact hbs)
  have HV10 := Lib.hid hv10
  have HW10 := Lib.hid hw10
  clear hv10 hw10
  go_wp2_with (first
    | ((refine wpList_store_key rfl _ _ rfl w7.heap.size P Q rfl rfl (by rw [← HM7.out]; exact T7.out) ?_); rw [← HM7.out, ← HW8.out])
    | (at_builtin; rw [← HM9.out, ← HW9.out]; refine Lib.wpList_append_run _ rfl _ _ 26 26 rfl (Value.slice (some ⟨m9, 0, none⟩) 0 0) (Value.slice none 0 c) rfl (by rw [HA.out, HN0.out]; rfl) _ _ (hap _) ?_; rw [← HV10.out, ← HW10.out])
    | (at_builtin; refine wpList_append_own _ rfl _ _ 26 rfl m9 5 i0 _ 1 1 Try.underlying26 hi hz0 hz1 hz2 rfl (by omega) v10 n (bl ((List.range n).map g)) rfl (HO10.out.alloc _) ⟨w10.heap.size, 0, none⟩ 1 1 [.int .u8 128] rfl rfl (cell_one_new _ _ _) (by intro u hu; simp at hu; subst hu; rfl) (by unfold maxLen; omega) (by omega) (by have := S10.out; simp; omega) ?_; intro v12 w12 hown12 hg12 _; have HO12 : Hid (w12.ownsRow m9 5 1 v12 (n + 1) (pdn g n (n + 1))) := Lib.hid (by rw [pdn_one]; exact hown12); have B12 : Hid (Below m9 W8 w12) := Lib.hid ((B10.out.alloc S10.out _).grown hg12 (by have := S10.out; simp; omega) (fun b hb => own_block HO10.out hb.symm)); have S12 : Hid (m9 ≤ w12.heap.size) := Lib.hid (Nat.le_trans (by have := S10.out; simp; omega) hg12.size); clear hown12 hg12))
  clear hap hbs
  go_loopw [6] (fun v wr => ∃ k : Nat, k ≤ zz n ∧ Hid (wr.ownsRow m9 5 1 v (n + 1 + k) (pdn g n (n + 1 + k))) ∧ Hid (Below m9 W8 wr) ∧ Hid (m9 ≤ wr.heap.size)) (fun v _ => n + 1 + zz n - vlen v)
  case atStart => exact ⟨0, by omega, HO12, B12, S12⟩
  case round =>
    obtain ⟨k, hk, HO, HB, HS⟩ := hrel
    clear HO12 B12 S12
    obtain ⟨A6, c6, hv6⟩ := own_len HO.out
    obtain ⟨v6, hv6'⟩ : ∃ v6, v6 = u6 := ⟨_, rfl⟩
    rw [← hv6'] at HO hv6 ⊢
    subst hv6
    clear hv6'
    have hzz : zz n ≤ 16 := by unfold zz; omega
    obtain ⟨mm, hmm⟩ : ∃ mm, mm = n + 1 + k := ⟨_, rfl⟩
    have hm7 : mm < 70000 := by omega
    obtain ⟨r, hr⟩ : ∃ r, r = mm % 16 := ⟨_, rfl⟩
    have e1 : (mm : Int) % 16 = (r : Int) := by omega
    have e2 : (mm : Int).tmod 16 = (r : Int) := by rw [Int.tmod_eq_emod_of_nonneg (by omega)]; exact e1
    by_cases hlt : k < zz n
    · have hr8 : r ≠ 8 := by rw [hr, hmm]; unfold zz at hlt; omega
      have t1 : ((r : Int) == 8) = false := by simp; omega
      have t2 : ((r : Int) != 8) = true := by simp; omega
      have t3 : ¬ ((r : Int) = 8) := by omega
      have hsn := pdn_zero g n k hlt
      rw [← Nat.add_assoc] at hsn
      obtain ⟨xs, hxs⟩ : ∃ xs, xs = pdn g n (n + 1 + k) := ⟨_, rfl⟩
      rw [← hxs] at hsn HO
      rw [← hmm] at HO hsn ⊢
      have HSN := Lib.hid hsn
      have HM := Lib.hid hmm
      have ho := HO.out
      clear hsn hxs hr hmm
      go_wp2_with (at_builtin; refine wpList_append_own _ rfl _ _ 26 rfl m9 5 i0 _ 1 1 Try.underlying26 hi hz0 hz1 hz2 rfl (by omega) (Value.slice A6 mm c6) mm xs rfl (ho.alloc _) ⟨wr.heap.size, 0, none⟩ 1 1 [.int .u8 0] rfl rfl (cell_one_new _ _ _) (by intro u hu; simp at hu; subst hu; rfl) (by unfold maxLen; omega) (by omega) (by have := HS.out; simp; omega) ?_; intro v1 w6 hown6 hg6 _)
      go_roundw
      case rel => exact ⟨k + 1, by omega, Lib.hid (by rw [← Nat.add_assoc, ← HM.out, HSN.out]; exact hown6), Lib.hid ((HB.out.alloc HS.out _).grown hg6 (by have := HS.out; simp; omega) (fun b hb => own_block HO.out hb.symm)), Lib.hid (Nat.le_trans (by have := HS.out; simp; omega) hg6.size)⟩
      case measure =>
        obtain ⟨A8, c8, hv8⟩ := own_len hown6
        have := HM.out
        rw [hv8]
        simp only [vlen]
        omega
    · skip
      have hkz : k = zz n := by omega
      have hr8 : r = 8 := by rw [hr, hmm, hkz]; unfold zz; omega
      have e1' : (mm : Int) % 16 = 8 := by omega
      have e2' : (mm : Int).tmod 16 = 8 := by rw [Int.tmod_eq_emod_of_nonneg (by omega)]; exact e1'
      obtain ⟨p, hp⟩ : ∃ p, p = n / 256 := ⟨_, rfl⟩
      obtain ⟨q, hq⟩ : ∃ q, q = n % 256 := ⟨_, rfl⟩
      have hp8 : p < 256 := by omega
      have hq8 : q < 256 := by omega
      have f1 : (n : Int) / 256 = (p : Int) := by omega
      have f2 : (n : Int) % 256 = (q : Int) := by omega
      have hla := pdn_last g n hn p q hp hq
      have hmz : mm = n + 1 + zz n := by rw [hmm, hkz]
      have hpl : pdl n = mm + 8 := by rw [hmz]; rfl
      rw [← hmm] at HO ⊢
      rw [← hmz] at hla
      obtain ⟨xs, hxs⟩ : ∃ xs, xs = pdn g n mm := ⟨_, rfl⟩
      rw [← hxs] at hla HO
      have HLa := Lib.hid hla
      have HPl := Lib.hid hpl
      have ho := HO.out
      clear e1 e2 hr hr8 hla hxs hkz hmm hmz hp hq hlt hpl
      go_wp2_with (at_builtin; refine wpList_append_own _ rfl _ _ 26 rfl m9 5 i0 _ 1 1 Try.underlying26 hi hz0 hz1 hz2 rfl (by omega) (Value.slice A6 mm c6) mm xs rfl (ho.alloc _) ⟨wr.heap.size, 0, none⟩ 8 8 [Value.int .u8 0, Value.int .u8 0, Value.int .u8 0, Value.int .u8 0, Value.int .u8 0, Value.int .u8 0, Value.int .u8 (p : Int), Value.int .u8 (q : Int)] rfl rfl (fun j u hu => cells_new wr _ 5 j u hu) (by intro u hu; simp at hu; rcases hu with rfl | rfl | rfl <;> rfl) (by unfold maxLen; omega) (by omega) (by have := HS.out; simp; omega) ?_; intro v13 w13 hown13 hg13 _)
      obtain ⟨gz, hgz⟩ : ∃ gz, gz = wr.heap.size := ⟨_, rfl⟩
      rw [← hgz]
      have HGz := Lib.hid hgz
      clear hgz
      have HO13 : w13.ownsRow m9 5 1 v13 (pdl n) (bl ((List.range (pdl n)).map (pdb g n))) := by
        have h : w13.ownsRow m9 5 1 v13 (pdl n) (pdn g n (pdl n)) := by rw [HLa.out, HPl.out]; exact hown13
        exact h
      obtain ⟨A13, c13, hv13, hy13⟩ := own_byt HO13 HPb.out
      subst hv13
      have B13 : Hid (Below m9 W8 w13) := Lib.hid ((HB.out.alloc HS.out _).grown hg13 (by have := HS.out; simp; omega) (fun b hb => own_block HO.out hb.symm))
      have S13 : Hid (m9 ≤ w13.heap.size) := Lib.hid (Nat.le_trans (by have := HS.out; simp; omega) hg13.size)
      have Y13 := Lib.hid hy13
      obtain ⟨sb, hsb⟩ : ∃ sb, sb = w13.heap.size := ⟨_, rfl⟩
      obtain ⟨W14, hW14⟩ : ∃ W14, W14 = w13.alloc (.cells z16 23) := ⟨_, rfl⟩
      have HR14 : Hid (Row W14 sb (fun _ => 0)) := Lib.hid (by rw [hW14, hsb]; exact Row.zeros w13 23)
      have B14 : Hid (Below sb w13 W14) := Lib.hid (by rw [hW14, hsb]; exact (Below.refl _ _).alloc (Nat.le_refl _) _)
      have HSB := Lib.hid hsb
      have HW14 := Lib.hid hW14
      clear hown13 hg13 HO13 hy13 hsb hW14 ho HO HB HS
      rw [← HSB.out, ← HW14.out]
      go_loopw [8] (fun i wr => ∃ (k : Nat) (f : Nat → Nat), k ≤ 16 ∧ i = .int .i64 (k : Int) ∧ Hid (Below sb W14 wr) ∧ Hid (Row wr sb f ∧ ∀ j, j < k → f j = 90)) (fun i _ => 16 - (intOf i).toNat)
      case atStart => exact ⟨0, _, by omega, rfl, Lib.hid (Below.refl _ _), Lib.hid ⟨HR14.out, fun j hj => by omega⟩⟩
      case round =>
        obtain ⟨k2, f, hk2, rfl, HBr, HI⟩ := hrel
        by_cases hlt2 : k2 < 16
        · have t1 : decide ((k2 : Int) < 16) = true := decide_eq_true (by omega)
          have t2 : decide (k2 < 16) = true := decide_eq_true hlt2
          have c1 := HI.out.1.cell k2 hlt2
          have f1' := HI.out.1.fr k2 hlt2
          have l1 : (0 : Int) ≤ (k2 : Int) := by omega
          have l2 : (k2 : Int) < 16 := by omega
          go_wp2_with fail
          go_roundw
          case rel =>
            refine ⟨k2 + 1, _, by omega, by go_num, Lib.hid (HBr.out.setCell (p := ⟨sb, k2, none⟩) (Nat.le_refl _) _), Lib.hid ⟨HI.out.1.set k2 90 hlt2, fun j hj => ?_⟩⟩
            by_cases e : j = k2
            · rw [if_pos e]
            · rw [if_neg e]; exact HI.out.2 j (by omega)
          case measure => simp [intOf]; omega
        · obtain rfl : k2 = 16 := by omega
          have t1 : decide (((16 : Nat) : Int) < 16) = false := by decide
          have KS : Hid (KeyAt wr sb S5a S5a) := Lib.hid (HI.out.1.key fun j hj => by rw [HI.out.2 j hj, kby_5a j hj])
          have TS : Hid (wr.there sb 0 16) := Lib.hid HI.out.1.there
          have Bsr := B14.out.trans HBr.out
          have Br : Hid (Below m9 W8 wr) := Lib.hid (B13.out.trans (Bsr.mono (by rw [HSB.out]; exact S13.out)))
          have Yr : Hid (Byt wr A13 (pdl n) c13 (pdb g n)) := Lib.hid (Y13.out.keep (by rw [← HSB.out]; exact Bsr))
          have Sr : Hid (sb < wr.heap.size ∧ m9 ≤ sb) := Lib.hid ⟨HI.out.1.lt, by rw [HSB.out]; exact S13.out⟩
          obtain ⟨wq, hwq⟩ : ∃ wq, wq = wr := ⟨_, rfl⟩
          clear HI HBr hlt2 Bsr
          go_wp2_with fail
          refine (HPt.out A13 c13 wr Yr.out).mono ?_
          rintro e w15 ⟨rfl, hb15, hr15⟩
          obtain ⟨pb, hpb⟩ : ∃ pb, pb = wr.heap.size := ⟨_, rfl⟩
          rw [← hpb] at hr15 ⊢
          have K15 : Hid (KeyAt w15 sb S5a S5a) := Lib.hid (KS.out.keep hb15)
          have T15 : Hid (w15.there sb 0 16) := Lib.hid (there_below TS.out hb15 (there_lt TS.out (by omega)))
          have B15 : Hid (Below m9 W8 w15) := Lib.hid (Br.out.trans (hb15.mono (by have := Sr.out; omega)))
          have O15 : Hid (m9 ≤ sb ∧ sb < pb ∧ m7 < m9 ∧ m9 ≤ w15.heap.size) := Lib.hid ⟨Sr.out.2, by rw [hpb]; exact Sr.out.1, by have := S8.out; have := HM9.out; omega, by have := hb15.size; have := Sr.out; omega⟩
          have R15 := Lib.hid hr15
          clear hb15 hr15 hpb KS TS Br Yr Sr hwq
          go_wp2_with fail
          go_loopw [10] (fun i wr => ∃ k : Nat, k ≤ cnt (pdl n) ∧ i = .int .i64 (k : Int) ∧ Hid (Below m9 W8 wr) ∧ Hid (m9 ≤ wr.heap.size) ∧ Hid (RowN wr pb (16 * cnt (pdl n)) (fun i => if i < pdl n then pdb g n i else 0)) ∧ Hid (wr.there sb 0 16 ∧ KeyAt wr sb (fld hshS (S5a, S5a) (pdb g n) (pdl n) k).1 (fld hshS (S5a, S5a) (pdb g n) (pdl n) k).2)) (fun i _ => cnt (pdl n) - (intOf i).toNat)
          case atStart => exact ⟨0, by omega, rfl, B15, Lib.hid O15.out.2.2.2, R15, Lib.hid ⟨T15.out, K15.out⟩⟩
          case round =>
            obtain ⟨k3, hk3, rfl, HBr, HRs, HRw, HI⟩ := hrel
            clear B15 R15 T15 K15
            by_cases hlt : k3 < cnt (pdl n)
            · have hk7 : k3 < 70000 := by unfold cnt pdl at hlt; omega
              have hd : decide ((k3 : Int) < ((cnt (pdl n) : Nat) : Int)) = true := decide_eq_true (by omega)
              have hd2 : decide (k3 < cnt (pdl n)) = true := decide_eq_true hlt
              have hsk := HOk.out k3
              have hpk := HPok.out k3
              have hfs : fld hshS (S5a, S5a) (pdb g n) (pdl n) (k3 + 1) = hshS (fld hshS (S5a, S5a) (pdb g n) (pdl n) k3) (pw (pdb g n) (pdl n) k3) := rfl
              unfold hshS at hfs
              have hat := fun (w' : World) (h : RowN w' pb (16 * cnt (pdl n)) (fun i => if i < pdl n then pdb g n i else 0)) => h.key_at HPb.out hlt
              obtain ⟨S, hS⟩ : ∃ S, S = (fld hshS (S5a, S5a) (pdb g n) (pdl n) k3).1 := ⟨_, rfl⟩
              obtain ⟨T, hT⟩ : ∃ T, T = (fld hshS (S5a, S5a) (pdb g n) (pdl n) k3).2 := ⟨_, rfl⟩
              obtain ⟨C, hC⟩ : ∃ C, C = (pw (pdb g n) (pdl n) k3).1 := ⟨_, rfl⟩
              obtain ⟨D, hD⟩ : ∃ D, D = (pw (pdb g n) (pdl n) k3).2 := ⟨_, rfl⟩
              unfold Ok at hsk hpk
              rw [← hS, ← hT] at hsk
              rw [← hC, ← hD] at hpk hat
              have hfs1 : fld hshS (S5a, S5a) (pdb g n) (pdl n) (k3 + 1) = ((enc C D S T).1 ^^^ S, (enc C D S T).2 ^^^ T) := by rw [hC, hD, hS, hT]; rfl
              have HI2 : Hid (KeyAt wr sb S T) := Lib.hid (by rw [hS, hT]; exact HI.out.2)
              have HI1 := Lib.hid HI.out.1
              have he1 := fun w => encrypt_any C D S T w hpk.1 hpk.2 hsk.1 hsk.2
              obtain ⟨U0, hU0⟩ : ∃ U0, U0 = (enc C D S T).1 := ⟨_, rfl⟩
              obtain ⟨V0, hV0⟩ : ∃ V0, V0 = (enc C D S T).2 := ⟨_, rfl⟩
              rw [← hU0, ← hV0] at he1 hfs1
              have hx1 := fun w => lawXor_any U0 V0 S T w
              obtain ⟨U, hU⟩ : ∃ U, U = U0 ^^^ S := ⟨_, rfl⟩
              obtain ⟨V, hV⟩ : ∃ V, V = V0 ^^^ T := ⟨_, rfl⟩
              rw [← hU, ← hV] at hx1 hfs1
              have HF : Hid ((fld hshS (S5a, S5a) (pdb g n) (pdl n) (k3 + 1)).1 = U ∧ (fld hshS (S5a, S5a) (pdb g n) (pdl n) (k3 + 1)).2 = V) := Lib.hid (by rw [hfs1]; exact ⟨rfl, rfl⟩)
              have HE1 := Lib.hid he1
              have HX1 := Lib.hid hx1
              have HAt := Lib.hid hat
              have O1 := O15.out
              clear he1 hx1 hat hfs hfs1 hS hT hC hD hU hV hU0 hV0 hsk hpk HI
              go_wp2_with fail
              refine wp_region_inv (by kernel_rfl) (by kernel_rfl) (fun l a w' => a = { tmps := #[Value.slice A n c, undef, Value.bool false, Value.bool true, Value.pointer (some ⟨m7, 0, none⟩), Value.int .i64 (0 : Int), Value.slice A13 (pdl n) c13, Value.pointer (some ⟨sb, 0, none⟩), Value.int .i64 (16 : Int), Value.slice (some ⟨pb, 0, none⟩) (cnt (pdl n)) (cnt (pdl n)), Value.int .i64 (k3 : Int), Value.bool true, Value.tuple #[Value.agg (kl P Q).toArray, Value.int IntKind.i64 0], Value.slice A n c, Value.tuple #[Value.agg (kl P Q).toArray, Value.int IntKind.i64 0], Value.agg (kl P Q).toArray, Value.int .i64 (0 : Int), Value.slice A n c, Value.int .i64 (n : Int), Value.bool false, undef, undef, undef, undef, undef, v10, Value.slice A n c, v10, v10, Value.slice (some ⟨w10.heap.size, 0, none⟩) 1 1, v12, Value.slice A6 mm c6, Value.int .i64 (mm : Int), Value.int .i64 (8 : Int), Value.bool false, u35, u36, u37, Value.slice A6 mm c6, Value.slice A n c, Value.int .i64 (n : Int), Value.int .i64 (p : Int), Value.int .u8 (p : Int), Value.slice A n c, Value.int .i64 (n : Int), Value.int .u8 (q : Int), Value.slice (some ⟨gz, 0, none⟩) 8 8, Value.slice A13 (pdl n) c13, Value.int .i64 (16 : Int), Value.bool false, u50, u51, u52, u53, Value.slice A13 (pdl n) c13, Value.slice (some ⟨pb, 0, none⟩) (cnt (pdl n)) (cnt (pdl n)), Value.int .i64 (k3 : Int), Value.slice (some ⟨pb, 0, none⟩) (cnt (pdl n)) (cnt (pdl n)), Value.int .i64 (cnt (pdl n) : Int), Value.bool true, u60, u61, bif l 0 then Value.slice (some ⟨pb, 0, none⟩) (cnt (pdl n)) (cnt (pdl n)) else u62, bif l 1 then Value.int .i64 (k3 : Int) else u63, bif l 2 then Value.pointer (some ⟨pb, k3 * 16, none⟩) else u64, bif l 3 then Value.agg (kl C D).toArray else u65, bif l 4 then Value.agg (kl S T).toArray else u66, bif l 5 then Value.agg (kl U0 V0).toArray else u67, bif l 6 then Value.agg (kl S T).toArray else u68, bif l 7 then Value.agg (kl U V).toArray else u69, undef, undef, undef, undef, undef, undef, undef, undef, undef, undef], defers := [] } ∧ Below (m9) wr w' ∧ RowN w' pb (16 * cnt (pdl n)) (fun i => if i < pdl n then pdb g n i else 0) ∧ w'.there (sb) 0 16 ∧ (l 8 = true → KeyAt w' (sb) U V) ∧ (l 8 = false → KeyAt w' (sb) S T) ∧ (l 8 = true → l 4 = true) ∧ (l 8 = true → l 6 = true)) ⟨rfl, (Below.refl _ _).drew, HRw.out.drew, HI1.out, (fun h => by cases h), (fun _ => HI2.out), (fun h => by cases h), (fun h => by cases h)⟩ ?_ ?_
              · rintro l a w' i ⟨rfl, hB, K0, hT, hS, hP, ho4, ho6⟩ hi hli hpre
                have hi2 : i < 9 := hi
                have hcase : i = 0 ∨ i = 1 ∨ i = 2 ∨ i = 3 ∨ i = 4 ∨ i = 5 ∨ i = 6 ∨ i = 7 ∨ i = 8 := by omega
                clear hi hi2
                rcases hcase with rfl | rfl | rfl | rfl | rfl | rfl | rfl | rfl | rfl
                · -- 0: Op.move (Operand.tmp 9)
                  refine wpOp_step rfl (fun K hK => ?_)
                  clear hpre
                  rw [if_pos (by rfl)]
                  go_simp
                  exact hK _ _ ⟨by simp [upd, Act.put], hB, K0, hT, (fun e => hS (by simpa [upd] using e)), (fun e => hP (by simpa [upd] using e)), (by first | (simp [upd]; done) | simpa [upd] using ho4), (by first | (simp [upd]; done) | simpa [upd] using ho6)⟩
                · -- 1: Op.move (Operand.tmp 10)
                  refine wpOp_step rfl (fun K hK => ?_)
                  clear hpre
                  rw [if_pos (by rfl)]
                  go_simp
                  exact hK _ _ ⟨by simp [upd, Act.put], hB, K0, hT, (fun e => hS (by simpa [upd] using e)), (fun e => hP (by simpa [upd] using e)), (by first | (simp [upd]; done) | simpa [upd] using ho4), (by first | (simp [upd]; done) | simpa [upd] using ho6)⟩
                · -- 2: Op.indexAddr 58 (Operand.tmp 62) (Operand.tmp 63)
                  have p0 : l 0 = true := hpre _ rfl ⟨0, .data⟩ (by simp) rfl
                  have p1 : l 1 = true := hpre _ rfl ⟨1, .data⟩ (by simp) rfl
                  refine wpOp_step rfl (fun K hK => ?_)
                  simp only [p0, p1, cond_true]
                  clear hpre
                  rw [if_pos (by rfl)]
                  have l1 : (0 : Int) ≤ (k3 : Int) := by omega
                  have l2 : (k3 : Int) < ((cnt (pdl n) : Nat) : Int) := by omega
                  go_simp
                  exact hK _ _ ⟨by simp [upd, Act.put, p0, p1], hB, K0, hT, (fun e => hS (by simpa [upd] using e)), (fun e => hP (by simpa [upd] using e)), (by first | (simp [upd, p0, p1]; done) | simpa [upd, p0, p1] using ho4), (by first | (simp [upd, p0, p1]; done) | simpa [upd, p0, p1] using ho6)⟩
                · -- 3: Op.load 23 (Operand.tmp 64)
                  have p2 : l 2 = true := hpre _ rfl ⟨2, .data⟩ (by simp) rfl
                  refine wpOp_step rfl (fun K hK => ?_)
                  simp only [p2, cond_true]
                  clear hpre
                  rw [if_pos (by rfl)]
                  refine wp_load_mid 23 _ rfl _ (k3 * 16) rfl (kl C D) _ (HAt.out _ K0) Try.underlying23 rfl (by rw [kl_len]; exact size23) ?_
                  exact hK _ _ ⟨by simp [upd, Act.put, p2], hB, K0, hT, (fun e => hS (by simpa [upd] using e)), (fun e => hP (by simpa [upd] using e)), (by first | (simp [upd, p2]; done) | simpa [upd, p2] using ho4), (by first | (simp [upd, p2]; done) | simpa [upd, p2] using ho6)⟩
                · -- 4: Op.load 23 (Operand.tmp 7)
                  refine wpOp_step rfl (fun K hK => ?_)
                  clear hpre
                  rw [if_pos (by rfl)]
                  have n7 : l 8 = false := by cases h : l 8; rfl; exact absurd (ho4 h) (by rw [hli]; decide)
                  refine wp_load_mid 23 _ rfl _ 0 rfl (kl S T) _ (hP n7) Try.underlying23 rfl (by rw [kl_len]; exact size23) ?_
                  exact hK _ _ ⟨by simp [upd, Act.put], hB, K0, hT, (fun e => hS (by simpa [upd] using e)), (fun e => hP (by simpa [upd] using e)), (by first | (simp [upd]; done) | simpa [upd] using ho4), (by first | (simp [upd]; done) | simpa [upd] using ho6)⟩
                · -- 5: Op.call { callee := Callee.value (Operand.func 27), args := 
                  have p3 : l 3 = true := hpre _ rfl ⟨3, .data⟩ (by simp) rfl
                  have p4 : l 4 = true := hpre _ rfl ⟨4, .data⟩ (by simp) rfl
                  refine wpOp_step rfl (fun K hK => ?_)
                  simp only [p3, p4, cond_true]
                  clear hpre
                  rw [if_pos (by rfl)]
                  go_simp
                  refine (HE1.out _).mono ?_
                  rintro e w5 ⟨rfl, hb5⟩
                  exact hK _ _ ⟨by simp [upd, Act.put, p3, p4], hB.trans (hb5.mono (Nat.le_trans (HRs.out) hB.size)), K0.keep hb5, there_below hT hb5 (there_lt hT (by omega)), (fun e => (hS (by simpa [upd] using e)).keep hb5), (fun e => (hP (by simpa [upd] using e)).keep hb5), (by first | (simp [upd, p3, p4]; done) | simpa [upd, p3, p4] using ho4), (by first | (simp [upd, p3, p4]; done) | simpa [upd, p3, p4] using ho6)⟩
                · -- 6: Op.load 23 (Operand.tmp 7)
                  refine wpOp_step rfl (fun K hK => ?_)
                  clear hpre
                  rw [if_pos (by rfl)]
                  have n7 : l 8 = false := by cases h : l 8; rfl; exact absurd (ho6 h) (by rw [hli]; decide)
                  refine wp_load_mid 23 _ rfl _ 0 rfl (kl S T) _ (hP n7) Try.underlying23 rfl (by rw [kl_len]; exact size23) ?_
                  exact hK _ _ ⟨by simp [upd, Act.put], hB, K0, hT, (fun e => hS (by simpa [upd] using e)), (fun e => hP (by simpa [upd] using e)), (by first | (simp [upd]; done) | simpa [upd] using ho4), (by first | (simp [upd]; done) | simpa [upd] using ho6)⟩
                · -- 7: Op.call { callee := Callee.value (Operand.func 26), args := 
                  have p5 : l 5 = true := hpre _ rfl ⟨5, .data⟩ (by simp) rfl
                  have p6 : l 6 = true := hpre _ rfl ⟨6, .data⟩ (by simp) rfl
                  refine wpOp_step rfl (fun K hK => ?_)
                  simp only [p5, p6, cond_true]
                  clear hpre
                  rw [if_pos (by rfl)]
                  go_simp
                  refine (HX1.out _).mono ?_
                  rintro e w5 ⟨rfl, hb5⟩
                  exact hK _ _ ⟨by simp [upd, Act.put, p5, p6], hB.trans (hb5.mono (Nat.le_trans (HRs.out) hB.size)), K0.keep hb5, there_below hT hb5 (there_lt hT (by omega)), (fun e => (hS (by simpa [upd] using e)).keep hb5), (fun e => (hP (by simpa [upd] using e)).keep hb5), (by first | (simp [upd, p5, p6]; done) | simpa [upd, p5, p6] using ho4), (by first | (simp [upd, p5, p6]; done) | simpa [upd, p5, p6] using ho6)⟩
                · -- 8: Op.store 23 (Operand.tmp 7) (Operand.tmp 69)
                  have p7 : l 7 = true := hpre _ rfl ⟨7, .data⟩ (by simp) rfl
                  have p0 : l 0 = true := hpre _ rfl ⟨0, .phase⟩ (by simp) rfl
                  have p1 : l 1 = true := hpre _ rfl ⟨1, .phase⟩ (by simp) rfl
                  have p2 : l 2 = true := hpre _ rfl ⟨2, .phase⟩ (by simp) rfl
                  have p3 : l 3 = true := hpre _ rfl ⟨3, .phase⟩ (by simp) rfl
                  have p4 : l 4 = true := hpre _ rfl ⟨4, .phase⟩ (by simp) rfl
                  have p5 : l 5 = true := hpre _ rfl ⟨5, .phase⟩ (by simp) rfl
                  have p6 : l 6 = true := hpre _ rfl ⟨6, .phase⟩ (by simp) rfl
                  refine wpOp_step rfl (fun K hK => ?_)
                  simp only [p7, p0, p1, p2, p3, p4, p5, p6, cond_true]
                  clear hpre
                  rw [if_pos (by rfl)]
                  refine wp_store_mid 23 _ _ rfl (sb) 0 (kl U V).toArray rfl rfl (by simpa [kl_len] using hT) (by simp [kl_len, size23]) (kl_arr U V) ?_
                  rw [List.toList_toArray]
                  exact hK _ _ ⟨by simp [upd, Act.put, p7, p0, p1, p2, p3, p4, p5, p6], below_setCells _ _ _ _ hB (by omega), K0.setCells _ _ (by omega), World.there_setCells hT _ _ _, (fun _ => KeyAt.stored hT U V), (fun e => absurd e (by simp [upd])), (by simp [upd, p7, p0, p1, p2, p3, p4, p5, p6]), (by simp [upd, p7, p0, p1, p2, p3, p4, p5, p6])⟩
              · rintro l a w9 hall ⟨rfl, hBz, K0, hT, hS, hP, ho4, ho6⟩
                simp only [hall 0 (by decide), hall 1 (by decide), hall 2 (by decide), hall 3 (by decide), hall 4 (by decide), hall 5 (by decide), hall 6 (by decide), hall 7 (by decide), cond_true]
                replace hS := hS (hall 8 (by decide))
                clear hall
                go_wp2
                go_roundw
                case rel => exact ⟨k3 + 1, by omega, by go_num, Lib.hid (HBr.out.trans hBz), Lib.hid (Nat.le_trans HRs.out hBz.size), Lib.hid K0, Lib.hid ⟨hT, by rw [HF.out.1, HF.out.2]; exact hS⟩⟩
                case measure => simp [intOf]; omega
            · have hkn : k3 = cnt (pdl n) := by omega
              have hd : decide ((k3 : Int) < ((cnt (pdl n) : Nat) : Int)) = false := decide_eq_false (by omega)
              have hd2 : decide (k3 < cnt (pdl n)) = false := decide_eq_false hlt
              have HKf : Hid (KeyAt wr sb P Q) := Lib.hid (by have h := HI.out.2; rw [hkn, ← HPQ.out.1, ← HPQ.out.2] at h; exact h)
              have HKm : Hid (KeyAt wr m7 P Q) := Lib.hid (K8.out.below HBr.out O15.out.2.2.1)
              have HCf : Hid (Below w.heap.size w wr) := Lib.hid (C8.out.trans (HBr.out.mono (by have := S8.out; have := HM9.out; omega)))
              have q1 := HQ.out
              clear HI hlt
              go_wp2_with (first
                | (refine wpList_load_key_w rfl _ rfl m7 rfl P Q HKm.out ?_)
                | (refine wpList_load_key_w rfl _ rfl sb rfl P Q HKf.out ?_))
              go_ret
              exact ⟨rfl, HCf.out⟩

theorem walk (A : Option Addr) (n c : Nat) (g : Nat → Nat) (w0 : World) (hb : Byt w0 A n c g) :
    Calls Try.prog 15 #[.slice A n c] w0 fun e w' => e = .returned (.bool true) ∧ Below w0.heap.size w0 w' := by
  by_cases h1 : 16384 < n
  · exact walk_big A n c w0 h1
  · cases A with
    | some ad => exact walk_some ad n c g w0 hb (by omega)
    | none =>
      have h0 : n = 0 := by
        rcases Nat.eq_zero_or_pos n with h | h
        · exact h
        · obtain ⟨b, off, e, _⟩ := hb.at_ h
          cases e
      subst h0
      exact walk_none c g w0 hb
end Go.Proofs.Ytphhppdokdageaa.cipherDigest
