/-
  Contracts of math/bits: Sub32, Add32.
-/
import Derived.Test.YthplhlcdlnedfaaNatD
import Derived.Laws.BitsAllLaws
namespace Go.Proofs.Ythplhlcdlnedfaa
open Go.RowKit MN

/-- The digit of a difference, and what is borrowed. -/
def sdf (x y c : Nat) : Nat := (x + 4294967296 - y - c) % 4294967296
def sbo (x y c : Nat) : Nat := if x < y + c then 1 else 0
/-- The digit of a sum, and what is carried. -/
def adf (x y c : Nat) : Nat := (x + y + c) % 4294967296
def aco (x y c : Nat) : Nat := (x + y + c) / 4294967296

theorem sdf_lt (x y c : Nat) : sdf x y c < 4294967296 := Nat.mod_lt _ (by omega)
theorem adf_lt (x y c : Nat) : adf x y c < 4294967296 := Nat.mod_lt _ (by omega)
theorem sbo_le (x y c : Nat) : sbo x y c ≤ 1 := by unfold sbo; split <;> omega
theorem sub_eq (x y c : Nat) (hx : x < 4294967296) (hy : y < 4294967296) (hc : c ≤ 1) : x + 4294967296 * sbo x y c = sdf x y c + y + c := by
  unfold sbo sdf; split <;> omega
theorem add_eq (x y c : Nat) : adf x y c + 4294967296 * aco x y c = x + y + c := by
  unfold adf aco; omega
theorem aco_le (x y c : Nat) (hx : x < 4294967296) (hy : y < 4294967296) (hc : c ≤ 1) : aco x y c ≤ 1 := by unfold aco; omega

set_option maxRecDepth 100000 in
theorem add32_any (x y c : Nat) (w : World) (hx : x < 4294967296) (hy : y < 4294967296) (hc : c ≤ 1) :
    Calls Try.prog 119 #[.int .u32 (x : Int), .int .u32 (y : Int), .int .u32 (c : Int)] w fun e w' =>
      e = .returned (.tuple #[.int .u32 (adf x y c : Int), .int .u32 (aco x y c : Int)]) ∧ w = w' := by
  have H1 : Hid ((adf x y c : Int) = ((x : Int) + (y : Int) + (c : Int)) % 4294967296) := Lib.hid (by unfold adf; omega)
  have H2 : Hid ((aco x y c : Int) = ((x : Int) + (y : Int) + (c : Int)) / 4294967296) := Lib.hid (by unfold aco; omega)
  go_enter Try.func119, Try.ntmps119
  go_wp2
  go_ret2
  exact ⟨by rw [H1.out, H2.out]; rfl, rfl⟩

theorem top_bits (x y d : Nat) : (((4294967295 ^^^ x) &&& y) ||| ((4294967295 ^^^ (x ^^^ y)) &&& d)) / 2147483648 =
    ((1 ^^^ (x / 2147483648)) &&& (y / 2147483648)) ||| ((1 ^^^ ((x / 2147483648) ^^^ (y / 2147483648))) &&& (d / 2147483648)) := by
  have h : ∀ z : Nat, z / 2147483648 = z >>> 31 := fun z => by rw [Nat.shiftRight_eq_div_pow]
  simp only [h, Nat.shiftRight_or_distrib, Nat.shiftRight_and_distrib, Nat.shiftRight_xor_distrib]
  rfl

theorem borrow_bit (x y c : Nat) (hx : x < 4294967296) (hy : y < 4294967296) (hc : c ≤ 1) :
    (((4294967295 ^^^ x) &&& y) ||| ((4294967295 ^^^ (x ^^^ y)) &&& sdf x y c)) / 2147483648 = sbo x y c := by
  rw [top_bits]
  have hs := sub_eq x y c hx hy hc
  have hd := sdf_lt x y c
  have hb := sbo_le x y c
  generalize sdf x y c = d at *
  generalize sbo x y c = b at *
  have h1 : x / 2147483648 = 0 ∨ x / 2147483648 = 1 := by omega
  have h2 : y / 2147483648 = 0 ∨ y / 2147483648 = 1 := by omega
  have h3 : d / 2147483648 = 0 ∨ d / 2147483648 = 1 := by omega
  rcases h1 with h1 | h1 <;> rcases h2 with h2 | h2 <;> rcases h3 with h3 | h3 <;> rw [h1, h2, h3]
  all_goals simp
  all_goals omega

theorem borrow_int (x y c : Nat) (hx : x < 4294967296) (hy : y < 4294967296) (hc : c ≤ 1) :
    bits BinOp.or IntKind.u32 (bits BinOp.and IntKind.u32 (bits BinOp.xor IntKind.u32 IntKind.u32.max (x : Int)) (y : Int))
      (bits BinOp.and IntKind.u32 (bits BinOp.xor IntKind.u32 IntKind.u32.max (bits BinOp.xor IntKind.u32 (x : Int) (y : Int))) (((x : Int) - (y : Int) - (c : Int)) % 4294967296)) / 2147483648 = (sbo x y c : Int) := by
  have e0 : IntKind.u32.max = ((4294967295 : Nat) : Int) := rfl
  have e1 : ((x : Int) - (y : Int) - (c : Int)) % 4294967296 = ((sdf x y c : Nat) : Int) := by unfold sdf; omega
  have l1 : 4294967295 ^^^ x < 2 ^ 32 := Nat.xor_lt_two_pow (by omega) (by omega)
  have l2 : x ^^^ y < 2 ^ 32 := Nat.xor_lt_two_pow (by omega) (by omega)
  have l3 : 4294967295 ^^^ (x ^^^ y) < 2 ^ 32 := Nat.xor_lt_two_pow (by omega) l2
  have l4 : (4294967295 ^^^ x) &&& y < 2 ^ 32 := Nat.and_lt_two_pow _ (by omega)
  have l5 : (4294967295 ^^^ (x ^^^ y)) &&& sdf x y c < 2 ^ 32 := Nat.and_lt_two_pow _ (sdf_lt x y c)
  rw [e0, e1, u32_xor_nat _ _ (by omega) hx, u32_and_nat _ _ l1 hy, u32_xor_nat _ _ hx hy, u32_xor_nat _ _ (by omega) l2, u32_and_nat _ _ l3 (sdf_lt x y c), u32_or_nat _ _ l4 l5, ← borrow_bit x y c hx hy hc]
  rfl

set_option maxRecDepth 100000 in
theorem sub32_any (x y c : Nat) (w : World) (hx : x < 4294967296) (hy : y < 4294967296) (hc : c ≤ 1) :
    Calls Try.prog 105 #[.int .u32 (x : Int), .int .u32 (y : Int), .int .u32 (c : Int)] w fun e w' =>
      e = .returned (.tuple #[.int .u32 (sdf x y c : Int), .int .u32 (sbo x y c : Int)]) ∧ w = w' := by
  have H1 : Hid ((sdf x y c : Int) = ((x : Int) - (y : Int) - (c : Int)) % 4294967296) := Lib.hid (by unfold sdf; omega)
  have H2 := Lib.hid (borrow_int x y c hx hy hc)
  go_enter Try.func105, Try.ntmps105
  go_wp2
  go_ret2
  exact ⟨by rw [H1.out, ← H2.out]; rfl, rfl⟩

end Go.Proofs.Ythplhlcdlnedfaa
