/- The walk over NumberTexts. -/
import Derived.Test.YthplhlcdlnedfaaRefL
namespace Go.Proofs.Ythplhlcdlnedfaa.numberTexts
open Go.RowKit MN

theorem same_self {w : World} {A1 A2 : Option Addr} {n1 c1 n2 c2 : Nat} {xs : List Nat} (ha : Rd .u32 w A1 n1 c1 xs) (hb : Rd .u32 w A2 n2 c2 xs) :
    Calls Try.prog 46 #[.slice A1 n1 c1, .slice A2 n2 c2] w fun e w' => e = .returned (.bool true) ∧ Below w.heap.size w w' := by
  have H := same_any A1 A2 n1 c1 n2 c2 xs xs w ha hb
  rw [sB_yes rfl] at H
  exact H.mono fun _ _ h => ⟨h.1, h.2.below⟩

set_option maxRecDepth 100000 in
set_option maxHeartbeats 4000000 in
theorem walk (A1 : Option Addr) (n1 c1 : Nat) (xs : List Nat) (s : ByteArray) (b : Int) (w0 : World) (ax : Arg w0 A1 n1 c1 xs) (hs : s.size ≤ maxLen) (hw : (Lit.int .u64 b).wf = true) :
    Calls Try.prog 5 #[.slice A1 n1 c1, .string s, .int .u64 b] w0 fun e w' => e = .returned (.bool true) ∧ Below w0.heap.size w0 w' := by
  have hbd := bounds_u64 hw
  obtain ⟨N, rfl⟩ := Int.eq_ofNat_of_zero_le hbd.1
  have hN : N ≤ 18446744073709551615 := by omega
  clear hbd hw
  have hs' := hs
  unfold maxLen at hs'
  by_cases hl : 700 < s.size
  · go_enter Try.func5, Try.ntmps5
    go_wp2
    go_ret
    exact ⟨rfl, Below.refl _ _⟩
  have hle : s.size ≤ 700 := by omega
  clear hl
  go_enter Try.func5, Try.ntmps5
  go_wp2_with fail
  refine (text_any A1 n1 c1 xs w0 ax).mono ?_
  rintro e w1 ⟨rfl, hb⟩
  go_wp2_with fail
  refine (rText_any A1 n1 c1 xs w1 (ax.keep hb)).mono ?_
  rintro e w2 ⟨rfl, hc⟩
  generalize texS xs = TX
  generalize ck xs = CK
  have h2 : (TX.toList == TX.toList) = true := beq_self_eq_true _
  replace hb := hb.trans (hc.mono hb.size)
  clear hc
  go_wp2_with fail
  refine (parse_any s w2 hs).mono ?_
  rintro e w3 ⟨C1, q1, e1, rfl, oc, hc⟩
  go_wp2_with fail
  refine (rParse_any s w3 hle).mono ?_
  rintro e w4 ⟨D1, q2, e2, rfl, od, hd⟩
  generalize parC s = CC
  have oc2 := own_keep oc hd
  replace hb := (hb.trans (hc.mono hb.size)).trans (hd.mono (hb.trans (hc.mono hb.size)).size)
  clear oc hc hd
  go_wp2_with fail
  refine (same_self (Rd.of_own oc2) (Rd.of_own od)).mono ?_
  rintro e w5 ⟨rfl, hd⟩
  replace hb := hb.trans (hd.mono hb.size)
  clear hd oc2 od
  have HO := of_any (N : Int) w5 (by omega) (by omega)
  rw [Int.toNat_natCast] at HO
  have HO := Lib.hid HO
  go_wp2_with fail
  refine HO.out.mono ?_
  rintro e w6 ⟨E1, q3, e3, rfl, oe, hd⟩
  replace hb := hb.trans (hd.mono hb.size)
  go_wp2_with fail
  refine (ofRef_any N w6 hN).mono ?_
  rintro e w7 ⟨F1, q4, e4, rfl, og, he⟩
  have oe2 := own_keep oe he
  replace hb := hb.trans (he.mono hb.size)
  go_wp2_with fail
  refine (same_self (Rd.of_own oe2) (Rd.of_own og)).mono ?_
  rintro e w8 ⟨rfl, hf⟩
  replace hb := hb.trans (hf.mono hb.size)
  go_wp2
  go_ret
  exact ⟨rfl, hb⟩
end Go.Proofs.Ythplhlcdlnedfaa.numberTexts
