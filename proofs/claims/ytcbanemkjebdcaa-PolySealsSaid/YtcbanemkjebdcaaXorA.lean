/-
  Contracts of xor, the program's and the laws' own.
-/
import Derived.Test.YtcbanemkjebdcaaKeyG
import Derived.RegionTactic
namespace Go.Proofs.Ytcbanemkjebdcaa
open Go.RowKit SP

theorem kby_xor (X Y A B j : Nat) : kby (X ^^^ A) (Y ^^^ B) j = kby X Y j ^^^ kby A B j := by
  have key : ∀ x y p : Nat, (x ^^^ y) / 256 ^ p % 256 = (x / 256 ^ p % 256) ^^^ (y / 256 ^ p % 256) := by
    intro x y p
    rw [show (256 : Nat) = 2 ^ 8 by decide, ← Nat.pow_mul, ← Nat.shiftRight_eq_div_pow, ← Nat.shiftRight_eq_div_pow, ← Nat.shiftRight_eq_div_pow, Nat.shiftRight_xor_distrib, Nat.xor_mod_two_pow]
  unfold kby
  split <;> exact key _ _ _

theorem xor8_int (a b : Nat) (ha : a < 256) (hb : b < 256) : bits .xor .u8 (a : Int) (b : Int) = ((a ^^^ b : Nat) : Int) := u8_xor_nat a b ha hb
end Go.Proofs.Ytcbanemkjebdcaa
