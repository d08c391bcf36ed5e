/-
  Natural numbers in memory: what a slice of digits is; trim.
-/
import Derived.Test.YthplhlcdlnedfaaProg
import Derived.Test.YthplhlcdlnedfaaMathN
import Derived.WalkKit
import Derived.Lib.Hide
import Derived.Deep.QuietTactic
import Derived.BigQuiet
namespace Go.Proofs.Ythplhlcdlnedfaa
open Go.RowKit MN

/-- The value of a digit. -/
def u32 (d : Nat) : Value := .int .u32 (d : Int)
def u64 (d : Nat) : Value := .int .u64 (d : Int)
def u8 (d : Nat) : Value := .int .u8 (d : Int)

/-- A slice of n places, of capacity c, that reads as the numbers xs, each stored as kind k says. -/
structure Rd (k : IntKind) (w : World) (A : Option Addr) (n c : Nat) (xs : List Nat) : Prop where
  len : xs.length = n
  le : n ≤ c
  cap : c ≤ maxLen
  at_ : 0 < n → ∃ b off, A = some ⟨b, off, none⟩ ∧ ∀ i, i < n → w.cell? ⟨b, off + i, none⟩ = some (.int k (dg xs i : Int))

theorem Rd.keep {k : IntKind} {w w' : World} {A : Option Addr} {n c : Nat} {xs : List Nat} (h : Rd k w A n c xs) (hb : Below w.heap.size w w') : Rd k w' A n c xs :=
  ⟨h.len, h.le, h.cap, fun hn => by
    obtain ⟨b, off, hA, hc⟩ := h.at_ hn
    refine ⟨b, off, hA, fun i hi => ?_⟩
    rw [hb.cell (World.block_lt_of_cell? w _ (hc i hi))]
    exact hc i hi⟩

theorem Rd.take {k : IntKind} {w : World} {A : Option Addr} {n c m : Nat} {xs : List Nat} (h : Rd k w A n c xs) (hm : m ≤ n) : Rd k w A m c (xs.take m) :=
  ⟨by rw [List.length_take, h.len]; omega, by have := h.le; omega, h.cap, fun hn => by
    obtain ⟨b, off, hA, hc⟩ := h.at_ (by omega)
    exact ⟨b, off, hA, fun i hi => by rw [dg_take _ _ _ hi]; exact hc i (by omega)⟩⟩

/-- An owned row read as numbers. -/
theorem Rd.of_own {k : IntKind} {w : World} {base : Nat} {e : TypeId} {A : Option Addr} {n c : Nat} {xs : List Nat} (h : w.ownsRow base e 1 (.slice A n c) n (xs.map fun (d : Nat) => Value.int k (d : Int))) : Rd k w A n c xs := by
  have hlen : xs.length = n := by have := h.1; simpa using this
  rcases h.2 with ⟨hv, h0⟩ | ⟨g, cap, cur, hv, hb, hg, hnc, hcm, hcs, htake⟩
  · injection hv with e1 e2 e3
    subst e1 e2 e3
    exact ⟨hlen, Nat.le_refl _, by simp [maxLen], fun h => by omega⟩
  · injection hv with e1 e2 e3
    subst e1 e3
    refine ⟨hlen, hnc, hcm, fun hn => ⟨g, 0, rfl, fun i hi => ?_⟩⟩
    have h1 := h.cellAt i (by omega)
    rw [Nat.zero_add, h1, dg_get xs i (by omega)]
    simp [List.getElem?_map, List.getElem?_eq_getElem (show i < xs.length by omega)]

theorem own_take {k : IntKind} {w : World} {base : Nat} {e : TypeId} {A : Option Addr} {n c m : Nat} {xs : List Nat} (h : w.ownsRow base e 1 (.slice A n c) n (xs.map fun (d : Nat) => Value.int k (d : Int))) (hm : m ≤ n) :
    w.ownsRow base e 1 (.slice A m c) m ((xs.take m).map fun (d : Nat) => Value.int k (d : Int)) := by
  have hlen : xs.length = n := by have := h.1; simpa using this
  refine ⟨by simp; omega, ?_⟩
  rcases h.2 with ⟨hv, h0⟩ | ⟨g, cap, cur, hv, hb, hg, hnc, hcm, hcs, htake⟩
  · injection hv with e1 e2 e3
    subst e1 e2 e3
    obtain rfl : m = 0 := by omega
    exact .inl ⟨rfl, rfl⟩
  · injection hv with e1 e2 e3
    subst e1 e3
    refine .inr ⟨g, c, cur, rfl, hb, hg, by omega, hcm, hcs, ?_⟩
    rw [List.map_take, ← htake, List.take_take]
    congr 1; omega

set_option maxRecDepth 100000 in
set_option maxHeartbeats 1000000 in
/-- trim, at digits of 32 bits. -/
theorem trim32_any (A : Option Addr) (n c : Nat) (xs : List Nat) (w : World) (h : Rd .u32 w A n c xs) (hl : Low 4294967296 xs) :
    Calls Try.prog 106 #[.slice A n c] w fun e w' => (∃ m, m ≤ n ∧ e = .returned (.slice A m c) ∧ xs.take m = digs 4294967296 (val 4294967296 xs)) ∧ w = w' := by
  have hlen := Lib.hid h.len
  have hle := h.le
  have hcap := h.cap
  unfold maxLen at hcap
  have hat := Lib.hid h.at_
  clear h
  go_enter Try.func106, Try.ntmps106
  go_wp2
  go_loop [0] (fun v => ∃ k : Nat, k ≤ n ∧ v = .slice A k c ∧ Hid (∀ j, k ≤ j → dg xs j = 0)) (fun v => match v with | .slice _ k _ => k | _ => 0)
  case atStart => exact ⟨n, Nat.le_refl _, rfl, Lib.hid (fun j hj => dg_past xs j (by rw [hlen.out]; exact hj))⟩
  case round =>
    obtain ⟨k, hk, rfl, HZ⟩ := hrel
    rcases Nat.eq_zero_or_pos k with rfl | hpos
    · go_wp2
      go_ret
      exact ⟨⟨0, by omega, rfl, trim_end (by omega) xs 0 (by omega) hl HZ.out (.inl rfl)⟩, rfl⟩
    · obtain ⟨b, off, rfl, hc⟩ := hat.out (by omega)
      have hcell := hc (k - 1) (by omega)
      clear hc
      have hkp : 1 ≤ k := hpos
      obtain ⟨D, hD⟩ : ∃ D, D = dg xs (k - 1) := ⟨_, rfl⟩
      have HD := Lib.hid hD
      rw [← hD] at hcell
      clear hD
      by_cases h0 : D = 0
      · subst h0
        have HZ' : Hid (∀ j, k - 1 ≤ j → dg xs j = 0) := Lib.hid (fun j hj => by
          rcases Nat.lt_or_ge j k with h1 | h1
          · obtain rfl : j = k - 1 := by omega
            exact HD.out.symm
          · exact HZ.out j h1)
        clear HZ
        go_wp2
        go_round
        case rel => exact ⟨k - 1, by omega, by go_num, HZ'⟩
        case measure => simp; omega
      · have hb : ((D : Int) == 0) = false := by rw [beq_eq_false_iff_ne]; omega
        go_wp2
        go_ret
        exact ⟨⟨k, hk, rfl, trim_end (by omega) xs k (by rw [hlen.out]; exact hk) hl HZ.out (.inr (by rw [← HD.out]; exact h0))⟩, rfl⟩
end Go.Proofs.Ythplhlcdlnedfaa
