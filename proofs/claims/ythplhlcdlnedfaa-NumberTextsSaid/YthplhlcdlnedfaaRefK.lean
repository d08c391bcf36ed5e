/-
  The specification's functions, part G: decimal texts.
-/
import Derived.Test.YthplhlcdlnedfaaRefS
import Derived.Laws.Concat
namespace Go.Proofs.Ythplhlcdlnedfaa
open Go.RowKit MN

theorem digs_cons {B n : Nat} (hB : 2 ≤ B) (hn : 0 < n) : digs B n = n % B :: digs B (n / B) := by
  refine val_inj hB _ _ (digs_low _ _ hB) (low_cons (Nat.mod_lt _ (by omega)) (digs_low _ _ hB)) (digs_top _ _ hB) (top_cons (digs_top _ _ hB) (fun e => ?_)) ?_
  · intro h0
    rcases Nat.eq_zero_or_pos (n / B) with h | h
    · have := Nat.div_add_mod n B
      rw [h, h0] at this; omega
    · exact digs_pos hB h e
  · rw [digs_val _ _ hB, val, digs_val _ _ hB]
    have := Nat.div_add_mod n B
    omega

theorem txtL_step (N : Nat) : txtL N = (if N / 10 = 0 then [] else txtL (N / 10)) ++ [48 + N % 10] := by
  rcases Nat.eq_zero_or_pos N with rfl | h
  · rfl
  · unfold txtL
    rw [if_neg (by omega), digs_cons (by omega) h]
    by_cases h2 : N / 10 = 0
    · rw [if_pos h2, h2]; rfl
    · rw [if_neg h2, if_neg h2]; simp

/-- A string of numbers. -/
def txS (l : List Nat) : ByteArray := strOfNums (l.map fun (d : Nat) => (d : Int))

theorem txS_size (l : List Nat) : (txS l).size = l.length := by rw [txS, strOfNums_size, List.length_map]
theorem txS_append (a b : List Nat) : txS a ++ txS b = txS (a ++ b) := by
  have : (txS a ++ txS b).data = (txS (a ++ b)).data := by
    rw [ByteArray.data_append]
    apply Array.toList_inj.1
    rw [Array.toList_append]
    unfold txS
    rw [strOfNums_data, strOfNums_data, strOfNums_data]; simp
  cases h : txS a ++ txS b with | mk d => cases h2 : txS (a ++ b) with | mk d2 => rw [h, h2] at this; simp_all
theorem txS_nil : txS [] = { data := #[] } := rfl

set_option maxRecDepth 100000 in
set_option maxHeartbeats 2000000 in
theorem decimal_any (A : Option Addr) (n c : Nat) (xs : List Nat) (w : World) (h : Arg w A n c xs) (hn : n ≤ 16) :
    Calls Try.prog 95 #[.slice A n c] w fun e w' => e = .returned (.string (txtS (val 4294967296 xs))) ∧ Below w.heap.size w w' := by
  obtain ⟨N0, hN0⟩ : ∃ x, x = val 4294967296 xs := ⟨_, rfl⟩
  have hNl : N0 < 4294967296 ^ 16 := by
    rw [hN0]
    have h1 := val_lt xs h.low
    rw [h.rd.len] at h1
    exact Nat.lt_of_lt_of_le h1 (Nat.pow_le_pow_right (by omega) hn)
  have HNL := Lib.hid hNl
  have HZ : Hid ((txtL N0).length ≤ 160) := Lib.hid (by have := txt_size N0 hNl; rwa [txtS, strOfNums_size, List.length_map] at this)
  clear hNl
  have HA := Lib.hid (show ∃ L, Arg w A n c L ∧ val 4294967296 L = N0 from ⟨xs, h, hN0.symm⟩)
  rw [← hN0]
  clear hN0 h
  go_enter Try.func95, Try.ntmps95
  go_wp2_with fail
  go_loopg [0, 3] N0 (fun k v s wr => ∃ (A : Option Addr) (n c : Nat) (T : List Nat), v = .slice A n c ∧ s = .string (txS T) ∧ Hid (∃ L, Arg wr A n c L ∧ val 4294967296 L = k) ∧ n ≤ 16 ∧ Below w.heap.size w wr ∧ Hid (txtL k ++ T = txtL N0) ∧ Hid (k < 4294967296 ^ 16))
  case atStart => exact ⟨A, n, c, [], rfl, rfl, HA, hn, Below.refl _ _, Lib.hid (by rw [List.append_nil]), HNL⟩
  case round =>
    clear HA
    obtain ⟨A, n, c, T, rfl, rfl, HL, hn, hbr, HT, HK⟩ := hrel
    obtain ⟨L, hL, hLN⟩ := HL.out
    go_wp2_with fail
    refine (ofRef_any 10 wr (by omega)).mono ?_
    rintro e w2 ⟨A2, m2, c2, rfl, ho2, hb2⟩
    obtain ⟨a2, l2⟩ := own_num ho2
    have hm2 : 0 < m2 := by rw [← l2]; exact List.length_pos_iff.2 (digs_pos (by omega) (by omega))
    have hm3 : m2 ≤ 1 := by rw [← l2]; exact digs_len (by omega) _ _ (by omega)
    go_wp2_with fail
    have hp := partedRef_any A A2 n c m2 c2 L _ w2 (hL.keep hb2) a2 (digs_top _ _ (by omega)) (by omega) (by omega) hm2
    rw [digs_val _ _ (by omega), hLN] at hp
    refine hp.mono ?_
    rintro e w3 ⟨A4, m4, c4, A5, m5, c5, rfl, ho4, ho5, hb3⟩
    obtain ⟨a4, l4⟩ := own_num ho4
    obtain ⟨a5, l5⟩ := own_num ho5
    have hb4 := hbr.trans ((hb2.trans (hb3.mono hb2.size)).mono hbr.size)
    have hd : dg (digs 4294967296 (gk % 10)) 0 = gk % 10 := by
      rcases Nat.eq_zero_or_pos (gk % 10) with h | h
      · rw [h]; rfl
      · rw [digs_cons (by omega) h, dg_zero]; omega
    obtain ⟨D, hD⟩ : ∃ D, D = gk % 10 := ⟨_, rfl⟩
    have hDl : D < 10 := by omega
    have HA2 := atRef_any A5 m5 c5 _ 0 w3 a5
    rw [hd, ← hD] at HA2
    have HA2 := Lib.hid HA2
    have hcv := run_convert_bytes_arg (P := Try.prog) (w3.alloc (.cells #[.int .u8 (48 + (D : Int))] 5)) 111 5 Try.underlying111 Try.underlying5 w3.heap.size 0 1 1 [48 + (D : Int)] rfl (fun i hi => by
      obtain rfl : i = 0 := by omega
      rw [World.cell?_alloc_at (hn := by simp)]; rfl) 9 Try.underlying9
    have hst : strOfNums [48 + (D : Int)] = txS [48 + D] := by
      unfold txS; simp
    rw [hst] at hcv
    have HT2 : Hid ((if gk / 10 = 0 then [] else txtL (gk / 10)) ++ ([48 + D] ++ T) = txtL N0) := Lib.hid (by
      rw [← HT.out, txtL_step gk, hD, List.append_assoc])
    have hb5 := hb4.trans ((below_alloc w3 (.cells #[.int .u8 (48 + (D : Int))] 5)).mono hb4.size)
    have a4' := a4.keep (below_alloc w3 (.cells #[.int .u8 (48 + (D : Int))] 5))
    have HK2 : Hid (gk / 10 < 4294967296 ^ 16) := Lib.hid (Nat.lt_of_le_of_lt (Nat.div_le_self _ _) HK.out)
    have hm4 : m4 ≤ 16 := by rw [← l4]; exact digs_len (by omega) _ _ HK2.out
    have hTl : T.length ≤ 160 := by have h1 := congrArg List.length HT.out; rw [List.length_append] at h1; have := HZ.out; omega
    have z1 := txS_size [48 + D]
    have z2 := txS_size T
    have hsz : ¬ ((txS [48 + D]).size + (txS T).size > 9223372036854775807) := by rw [z1, z2]; simp; omega
    have hap := txS_append [48 + D] T
    clear z1 z2 HK
    clear hst hd hD HT HL hL hLN a2 a5 ho2 ho5 hb2 hb3 hp l5
    by_cases hz : gk / 10 = 0
    · have hm0 : m4 = 0 := by rw [← l4, hz]; rfl
      subst hm0
      have HF : Hid ([48 + D] ++ T = txtL N0) := Lib.hid (by rw [← HT2.out, if_pos hz]; rfl)
      clear hz HT2 l4 ho4
      go_wp2_with fail
      refine HA2.out.mono ?_
      rintro e w4 ⟨rfl, rfl⟩
      go_wp2_with fail
      go_ret
      exact ⟨by rw [txtS, ← HF.out]; rfl, hb5⟩
    · have hm0 : 0 < m4 := by rw [← l4]; exact List.length_pos_iff.2 (digs_pos (by omega) (Nat.pos_of_ne_zero hz))
      have HF : Hid (txtL (gk / 10) ++ ([48 + D] ++ T) = txtL N0) := Lib.hid (by rw [← HT2.out, if_neg hz])
      have hb1 : ((m4 : Int) == 0) = false := by rw [beq_eq_false_iff_ne]; omega
      have hlt : gk / 10 < gk := Nat.div_lt_self (by omega) (by omega)
      have HL2 : Hid (∃ L, Arg (w3.alloc (.cells #[.int .u8 (48 + (D : Int))] 5)) A4 m4 c4 L ∧ val 4294967296 L = gk / 10) := Lib.hid ⟨_, a4', digs_val _ _ (by omega)⟩
      clear hz HT2 l4 ho4 a4 a4' hm0
      go_wp2_with fail
      refine HA2.out.mono ?_
      rintro e w4 ⟨rfl, rfl⟩
      go_wp2_with fail
      go_roundg (gk / 10)
      case rel => exact ⟨A4, m4, c4, [48 + D] ++ T, rfl, rfl, HL2, hm4, hb5, HF, HK2⟩
      case measure => exact hlt
end Go.Proofs.Ythplhlcdlnedfaa
