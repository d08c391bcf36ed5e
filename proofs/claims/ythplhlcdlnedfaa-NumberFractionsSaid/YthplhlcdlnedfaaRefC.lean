/-
  The functions of the laws themselves, part C: Same, is.
-/
import Derived.Test.YthplhlcdlnedfaaRefB
import Derived.Test.YthplhlcdlnedfaaMathE
namespace Go.Proofs.Ythplhlcdlnedfaa
open Go.RowKit MN

/-- Two lists are the same. -/
def sB (xs ys : List Nat) : Bool := decide (xs = ys)
theorem sB_yes {xs ys : List Nat} (h : xs = ys) : sB xs ys = true := decide_eq_true h
theorem sB_no {xs ys : List Nat} (h : ¬ xs = ys) : sB xs ys = false := decide_eq_false h

theorem ext_dg (xs ys : List Nat) (h1 : xs.length = ys.length) (h2 : ∀ j, j < ys.length → dg xs j = dg ys j) : xs = ys := by
  refine List.ext_getElem h1 (fun j a b => ?_)
  rw [← dg_get xs j a, ← dg_get ys j b, h2 j b]

set_option maxRecDepth 100000 in
set_option maxHeartbeats 1000000 in
theorem same_any (A1 A2 : Option Addr) (n1 c1 n2 c2 : Nat) (xs ys : List Nat) (w : World) (ha : Rd .u32 w A1 n1 c1 xs) (hb : Rd .u32 w A2 n2 c2 ys) :
    Calls Try.prog 46 #[.slice A1 n1 c1, .slice A2 n2 c2] w fun e w' => e = .returned (.bool (sB xs ys)) ∧ Drawn w w' := by
  have hlena := Lib.hid ha.len
  have hlenb := Lib.hid hb.len
  have hca := ha.cap
  have hcla := ha.le
  unfold maxLen at hca
  by_cases h : n1 = n2
  · subst h
    have hata := Lib.hid ha.at_
    have hatb := Lib.hid hb.at_
    clear ha hb
    go_enter Try.func46, Try.ntmps46
    go_wp2
    go_loopw [5] (fun i wr => ∃ k : Nat, k ≤ n1 ∧ i = .int .i64 (k : Int) ∧ Hid (∀ j, j < k → dg xs j = dg ys j) ∧ Drawn w wr) (fun i _ => n1 - (intOf i).toNat)
    case atStart => exact ⟨0, Nat.zero_le _, rfl, Lib.hid (fun j hj => by omega), Drawn.refl _⟩
    case round =>
      obtain ⟨k, hk, rfl, HE, HD⟩ := hrel
      by_cases hlt : k < n1
      · obtain ⟨b1, off1, rfl, hc1⟩ := hata.out (by omega)
        obtain ⟨b2, off2, rfl, hc2⟩ := hatb.out (by omega)
        have k1 := (HD.cell ⟨b1, off1 + k, none⟩).trans (hc1 k hlt)
        have k2 := (HD.cell ⟨b2, off2 + k, none⟩).trans (hc2 k hlt)
        clear hc1 hc2
        obtain ⟨D1, hD1⟩ : ∃ D, D = dg xs k := ⟨_, rfl⟩
        obtain ⟨D2, hD2⟩ : ∃ D, D = dg ys k := ⟨_, rfl⟩
        rw [← hD1] at k1
        rw [← hD2] at k2
        have g1 := Lib.hid hD1
        have g2 := Lib.hid hD2
        clear hD1 hD2
        have l0 : (0 : Int) ≤ (k : Int) := by omega
        have l1 : (k : Int) < (n1 : Int) := by omega
        go_wp2
        go_quiet (fail)
        have HD2 := HD.more nq
        by_cases he : D1 = D2
        · subst he
          have HE' : Hid (∀ j, j < k + 1 → dg xs j = dg ys j) := Lib.hid (fun j hj => by
            rcases Nat.lt_or_ge j k with h | h
            · exact HE.out j h
            · obtain rfl : j = k := by omega
              rw [← g1.out, ← g2.out])
          clear HE
          go_wp2
          go_roundw
          case rel => exact ⟨k + 1, by omega, by go_num, HE', HD2⟩
          case measure => simp [intOf]; omega
        · have H := Lib.hid (sB_no (xs := xs) (ys := ys) (fun e => he (by rw [g1.out, g2.out, e])))
          have hb : ((D1 : Int) != (D2 : Int)) = true := by simp; omega
          clear he
          go_wp2
          go_ret
          exact ⟨by rw [H.out]; rfl, HD2⟩
      · obtain rfl : k = n1 := by omega
        have H := Lib.hid (sB_yes (ext_dg xs ys (by rw [hlena.out, hlenb.out]) (fun j hj => HE.out j (by rw [hlenb.out] at hj; exact hj))))
        clear HE
        go_wp2
        go_ret
        exact ⟨by rw [H.out]; rfl, HD⟩
  · have H := Lib.hid (sB_no (xs := xs) (ys := ys) (fun e => h (by rw [← hlena.out, ← hlenb.out, e])))
    have hb0 : ((n1 : Int) != (n2 : Int)) = true := by simp; omega
    clear h
    go_enter Try.func46, Try.ntmps46
    go_wp2
    go_ret
    exact ⟨by rw [H.out]; rfl, Drawn.refl _⟩

/-- What is says of an error and two lists. -/
def isB (code : Int) (xs ys : List Nat) : Bool := code == 0 && sB xs ys

theorem is_any (A1 A2 : Option Addr) (n1 c1 n2 c2 : Nat) (code : Int) (xs ys : List Nat) (w : World) (ha : Rd .u32 w A1 n1 c1 xs) (hb : Rd .u32 w A2 n2 c2 ys) :
    Calls Try.prog 25 #[.slice A1 n1 c1, .int .i64 code, .slice A2 n2 c2] w fun e w' => e = .returned (.bool (isB code xs ys)) ∧ Drawn w w' := by
  have H := Lib.hid (same_any A1 A2 n1 c1 n2 c2 xs ys w ha hb)
  clear ha hb
  by_cases h0 : code = 0
  · subst h0
    have h1 : Hid (isB 0 xs ys = sB xs ys) := Lib.hid rfl
    go_enter Try.func25, Try.ntmps25
    go_wp2_with (go_at_call 46; refine H.out.mono ?_; rintro e w' ⟨rfl, hd⟩)
    go_ret
    exact ⟨by rw [h1.out]; rfl, hd⟩
  · have hb0 : (code == 0) = false := by rw [beq_eq_false_iff_ne]; exact h0
    have h1 : Hid (isB code xs ys = false) := Lib.hid (by rw [isB, hb0]; rfl)
    clear h0
    go_enter Try.func25, Try.ntmps25
    go_wp2_with (go_at_call 46; refine H.out.mono ?_; rintro e w' ⟨rfl, hd⟩)
    go_ret
    exact ⟨by rw [h1.out]; rfl, Drawn.refl _⟩
end Go.Proofs.Ythplhlcdlnedfaa
