/-
  Contracts of digits, value.
-/
import Derived.Test.YtphhppdokdageaaKeyC
import Derived.Test.YtphhppdokdageaaKeyF
import Derived.Test.YtphhppdokdageaaMathB
namespace Go.Proofs.Ytphhppdokdageaa
open Go.RowKit SP

/-- The block of 16 bytes. -/
def KB (f : Nat → Nat) : Value := .agg (kl (kwX f) (kwY f)).toArray

def hexs : ByteArray := { data := #[48, 49, 50, 51, 52, 53, 54, 55, 56, 57, 97, 98, 99, 100, 101, 102] }
theorem hex_index (k : IntKind) (d : Nat) (h : d < 16) (w : World) : (Instr.index 9 (.string { data := #[48, 49, 50, 51, 52, 53, 54, 55, 56, 57, 97, 98, 99, 100, 101, 102] }) (.int k (d : Int))).run Try.prog w = .ok (.int .u8 (hexd d : Int)) w := by
  have h16 : d = 0 ∨ d = 1 ∨ d = 2 ∨ d = 3 ∨ d = 4 ∨ d = 5 ∨ d = 6 ∨ d = 7 ∨ d = 8 ∨ d = 9 ∨ d = 10 ∨ d = 11 ∨ d = 12 ∨ d = 13 ∨ d = 14 ∨ d = 15 := by omega
  rcases h16 with rfl | rfl | rfl | rfl | rfl | rfl | rfl | rfl | rfl | rfl | rfl | rfl | rfl | rfl | rfl | rfl <;>
    · simp only [Instr.index, asIntOf, Sem.run_bind, Sem.run_pure, run_underlying Try.underlying9 w, Result.andThen_ok]
      rfl

set_option maxRecDepth 100000 in
set_option maxHeartbeats 1000000 in
theorem digits_any (x : Nat) (w : World) (hx : x < M) :
    Calls Try.prog 49 #[.int .u64 (x : Int)] w fun e w' => e = .returned (.agg (kl (kwX (dgt x)) (kwY (dgt x))).toArray) ∧ Below w.heap.size w w' := by
  obtain ⟨wo, hwo⟩ : ∃ wo, wo = (w.alloc (.cells z16 23)).alloc (.cells z16 23) := ⟨_, rfl⟩
  have HR0 : Hid (Row wo w.heap.size (fun _ => 0)) := Lib.hid (by rw [hwo]; exact (Row.zeros w 23).keep ((Below.refl _ _).alloc (Nat.le_refl _) _))
  have HR1 : Hid (Row wo (w.heap.size + 1) (fun _ => 0)) := Lib.hid (by
    have h := Row.zeros (w.alloc (.cells z16 23)) 23
    rw [World.size_alloc] at h
    rw [hwo]; exact h)
  have HB : Hid (Below w.heap.size w wo) := Lib.hid (by rw [hwo]; exact ((Below.refl _ _).alloc (Nat.le_refl _) _).alloc (by simp) _)
  have HW := Lib.hid hwo
  clear hwo
  go_enter Try.func49, Try.ntmps49
  go_wp2
  rw [← HW.out]
  clear HW
  go_loopw [0, 4] (fun v i wr => ∃ (k a : Nat) (f : Nat → Nat), k ≤ 16 ∧ i = .int .i64 ((k : Int) - 1) ∧ v = .int .u64 (a : Int) ∧ a ≤ 18446744073709551615 ∧ Hid (a = x / 16 ^ (16 - k)) ∧
      Hid (Row wr (w.heap.size + 1) f ∧ Row wr w.heap.size (fun _ => 0) ∧ Below w.heap.size w wr ∧ ∀ j, k ≤ j → j < 16 → f j = dgt x j)) (fun _ i _ => (intOf i + 1).toNat)
  case atStart => exact ⟨16, x, _, by omega, by go_num, rfl, by unfold M at hx; omega, Lib.hid (by simp), Lib.hid ⟨HR1.out, HR0.out, HB.out, fun j h1 h2 => by omega⟩⟩
  case round =>
    obtain ⟨k, a, f, hk, rfl, rfl, ha, HI, HW⟩ := hrel
    rcases Nat.eq_zero_or_pos k with rfl | hpos
    · have HK : Hid (KeyAt wr (w.heap.size + 1) (kwX (dgt x)) (kwY (dgt x))) := Lib.hid (HW.out.1.key fun j hj => by
        rw [kw_byte _ (dgt_lt x) j hj]; exact HW.out.2.2.2 j (Nat.zero_le _) hj)
      have HT := Lib.hid HW.out.2.1.there
      go_wp2_with (first
        | (refine wpList_load_key rfl _ rfl _ rfl _ _ HK.out ?_)
        | (refine wpList_store_key rfl _ _ rfl _ _ _ rfl rfl HT.out ?_))
      exact bodyPost_key rfl w.heap.size _ _ rfl (KeyAt.stored HT.out _ _) rfl ⟨rfl, below_setCells _ _ _ _ HW.out.2.2.1 (Nat.le_refl _)⟩
    · obtain ⟨q, rfl⟩ : ∃ q, k = q + 1 := ⟨k - 1, by omega⟩
      have c1 := HW.out.1.cell q (by omega)
      have f1 := HW.out.1.fr q (by omega)
      have l0 : (0 : Int) ≤ (q : Int) := by omega
      have hq : q < 16 := by omega
      obtain ⟨d, hd⟩ : ∃ d, d = a % 16 := ⟨_, rfl⟩
      have hd1 : (a : Int) % 16 = (d : Int) := by omega
      have HD := Lib.hid hd
      have hix := hex_index .u64 d (by omega)
      clear hd
      rw [show (((q + 1 : Nat) : Int) - 1) = (q : Int) by omega]
      go_wp2
      go_roundw
      case rel =>
        refine ⟨q, a / 16, _, by omega, by go_num, by go_num, by omega, Lib.hid (by rw [HI.out, nib_next x q hq]),
          Lib.hid ⟨HW.out.1.set q (hexd d) (by omega), HW.out.2.1.other _ _ (by omega), HW.out.2.2.1.setCell (p := ⟨w.heap.size + 1, q, none⟩) (by simp) _, fun j h1 h2 => ?_⟩⟩
        by_cases e : j = q
        · subst e
          rw [if_pos rfl, HD.out, HI.out, dgt, show 16 - (j + 1) = 15 - j by omega]
        · rw [if_neg e]
          exact HW.out.2.2.2 j (by omega) h2
      case measure => simp [intOf]

theorem join4_int (a b : Nat) (ha : a < 1152921504606846976) (hb : b < 16) : bits .or .u64 (IntKind.u64.wrap ((a : Int) * 16)) (b : Int) = ((a * 16 + b : Nat) : Int) := by
  have h1 : IntKind.u64.wrap ((a : Int) * 16) = ((a * 16 : Nat) : Int) := by
    simp only [IntKind.wrap, IntKind.bits, IntKind.signed]
    simp
    omega
  rw [h1, or_join _ _ 4 (by unfold M; omega) (by omega) hb (by decide)]

set_option maxRecDepth 100000 in
set_option maxHeartbeats 1000000 in
theorem value_any (X Y : Nat) (w : World) :
    Calls Try.prog 48 #[.agg (kl X Y).toArray] w fun e w' => e = .returned (.int .u64 (vwd (kby X Y) 16 : Nat)) ∧ Below w.heap.size w w' := by
  obtain ⟨wo, hwo⟩ : ∃ wo, wo = w.alloc (.cells (kl X Y).toArray 23) := ⟨_, rfl⟩
  have HB : Hid (Below w.heap.size w wo) := Lib.hid (by rw [hwo]; exact (Below.refl _ _).alloc (Nat.le_refl _) _)
  have HK : Hid (KeyAt wo w.heap.size X Y) := Lib.hid (by rw [hwo]; exact KeyAt.new _ _ _ _)
  have HW := Lib.hid hwo
  clear hwo
  go_enter Try.func48, Try.ntmps48
  go_wp2_with (refine wpList_load_key rfl _ rfl _ rfl X Y (by rw [← HW.out]; exact HK.out) ?_)
  rw [← HW.out]
  go_loop [3, 8] (fun v i => ∃ k a : Nat, k ≤ 16 ∧ i = .int .i64 (k : Int) ∧ v = .int .u64 (a : Int) ∧ Hid (a = vwd (kby X Y) k)) (fun _ i => 16 - (intOf i).toNat)
  case atStart => exact ⟨0, 0, by omega, rfl, rfl, Lib.hid rfl⟩
  case round =>
    obtain ⟨k, a, hk, rfl, rfl, HI⟩ := hrel
    by_cases hlt : k < 16
    · have hix := run_index_key X Y k hlt
      obtain ⟨c, hc⟩ : ∃ c, c = kby X Y k := ⟨_, rfl⟩
      have hcl : c < 256 := by rw [hc]; exact kby_lt _ _ _
      have HC := Lib.hid hc
      rw [← hc] at hix
      clear hc
      have ha : a < 1152921504606846976 := by
        rw [HI.out]
        have h1 := vwd_lt (kby X Y) k
        have h2 : (16 : Nat) ^ k ≤ 16 ^ 15 := Nat.pow_le_pow_right (by decide) (by omega)
        have h3 : (16 : Nat) ^ 15 = 1152921504606846976 := by decide
        omega
      have hj := join4_int a (vdig c) ha (vdig_lt c)
      obtain ⟨v, hv⟩ : ∃ v, v = vdig c := ⟨_, rfl⟩
      obtain ⟨s, hs⟩ : ∃ s, s = a * 16 + vdig c := ⟨_, rfl⟩
      rw [← hs, ← hv] at hj
      have HS : Hid (s = vwd (kby X Y) (k + 1)) := Lib.hid (by rw [hs, vwd, HI.out, ← HC.out])
      have hv16 : v < 16 := by rw [hv]; exact vdig_lt c
      clear ha hs
      by_cases h97 : 97 ≤ c
      · have hb : (c : Int) - 97 + 10 = ((c - 97 + 10 : Nat) : Int) := by omega
        have hm : ((c : Int) - 97 + 10) % 16 = (v : Int) := by rw [hb, hv]; unfold vdig; rw [if_pos h97]; omega
        have h0 : (0 : Int) ≤ (c : Int) - 97 := by omega
        clear hb hv
        go_wp2
        go_round
        case rel => exact ⟨k + 1, s, by omega, by go_num, rfl, HS⟩
        case measure => simp [intOf]; omega
      · have hlt97 : (c : Int) < 97 := by omega
        obtain ⟨t, ht⟩ : ∃ t, t = (c + 208) % 256 := ⟨_, rfl⟩
        have hw : IntKind.u8.wrap ((c : Int) - 48) = (t : Int) := by
          rw [ht]
          simp only [IntKind.wrap, IntKind.bits, IntKind.signed]
          simp
          omega
        have hm : (t : Int) % 16 = (v : Int) := by rw [ht, hv]; unfold vdig; rw [if_neg h97]; omega
        have ht256 : t < 256 := by rw [ht]; exact Nat.mod_lt _ (by decide)
        clear ht hv
        go_wp2
        go_round
        case rel => exact ⟨k + 1, s, by omega, by go_num, rfl, HS⟩
        case measure => simp [intOf]; omega
    · obtain rfl : k = 16 := by omega
      obtain ⟨r, hr⟩ : ∃ r, r = vwd (kby X Y) 16 := ⟨_, rfl⟩
      go_wp2
      go_ret
      exact ⟨ret_int (by rw [HI.out]), HB.out⟩
end Go.Proofs.Ytphhppdokdageaa
