/-
  A slice of bytes opened, with its length as the datum's.
-/
import Derived.Test.YtphhppdokdageaaLawB
namespace Go.Proofs.Ytphhppdokdageaa
open Go.ChangeShapes Go.WideShapes Go.ChangeAt Go.RowKit SP
set_option linter.unusedVariables false

theorem bytes5 : Try.prog.bytesOf 5 = 1 := by kernel_rfl
theorem open_bytes2 {H : Type} {enc : TypeId × Value → H} {W : World} {base : Nat} {sp : Nat → Bool} {v : Value} {d : DataW H} {p : List MemPlace}
    (hok : Value.okWide Try.prog W .any base 26 v) (h : DataW.Trod enc Try.prog W 0 sp true 26 v d p) : ∃ A n c g, v = .slice A n c ∧ Byt W A n c g ∧ (A = none ∨ ∃ elems spare, d = .slice elems spare ∧ elems.length = n) := by
  obtain ⟨A, n, c, rfl⟩ := okWide_slice Try.underlying26 hok
  obtain ⟨fuel, hf⟩ := h
  rcases open_ints Try.underlying26 Try.underlying5 cells5 hf with ⟨hcs, hx⟩ | ⟨x, l, c', zs, hcs, _, hl, hm, hz, hx, hcell, hwz⟩
  · simp [Value.cells] at hcs
    obtain ⟨rfl, rfl, rfl⟩ := hcs
    exact ⟨none, 0, 0, fun _ => 0, rfl, ⟨by omega, by simp [maxLen], fun _ => by omega, fun h => by omega⟩, .inl rfl⟩
  · simp [Value.cells] at hcs
    obtain ⟨rfl, rfl, rfl⟩ := hcs
    have hzl : n ≤ zs.length := by rw [hz]; split <;> omega
    simp only [Prod.mk.injEq] at hx
    obtain ⟨rfl, rfl⟩ := hx
    refine ⟨some x, n, c, fun i => byteOf (some (.int .u8 (zs.getD i 0))), rfl, ⟨hl, hm, fun _ => byteOf_lt _, fun hn => ?_⟩, .inr ⟨_, _, rfl, by simp [lits]; omega⟩⟩
    have h0 := hcell 0 (by omega)
    have hs : x.spot = none := by simpa [Addr.add] using World.cell?_spot h0
    refine ⟨x.block, x.off, by cases x; simp_all, fun i hi => ?_⟩
    have h1 := hcell i (by omega)
    have e1 : x.add i = ⟨x.block, x.off + i, none⟩ := by cases x; cases i <;> simp_all [Addr.add]
    rw [e1] at h1
    rw [h1]
    have hwf : (Lit.int IntKind.u8 (zs.getD i 0)).wf = true := by
      have hi' : i < zs.length := by omega
      simp only [List.getD, List.getElem?_eq_getElem hi', Option.getD_some]
      exact hwz _ (List.getElem_mem hi')
    have hb := bounds_u8 hwf
    show _ = some (Value.int .u8 ((byteOf (some (.int .u8 (zs.getD i 0))) : Nat) : Int))
    rw [byteOf_cell (by omega) (by omega)]
end Go.Proofs.Ytphhppdokdageaa
