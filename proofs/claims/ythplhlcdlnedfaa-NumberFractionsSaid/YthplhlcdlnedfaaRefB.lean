/-
  The functions of the laws themselves, part B: Of, n, Valid, Same, is.
-/
import Derived.Test.YthplhlcdlnedfaaRefA
namespace Go.Proofs.Ythplhlcdlnedfaa
open Go.RowKit MN

theorem ofRef_any (N : Nat) (w : World) (h1 : N ≤ 18446744073709551615) : Calls Try.prog 55 #[.int .u64 (N : Int)] w (New w N) := by
  have hr : Rd .u32 (w.alloc (.cells #[.int .u32 ((N : Int) % 4294967296), .int .u32 ((N : Int) / 4294967296)] 24)) (some ⟨w.heap.size, 0, none⟩) 2 2 [N % 4294967296, N / 4294967296] :=
    ⟨rfl, Nat.le_refl _, by simp [maxLen], fun _ => ⟨w.heap.size, 0, rfl, fun i hi => by
      rcases i with _ | _ | i
      · rw [World.cell?_alloc_at (hn := by simp)]; rfl
      · rw [World.cell?_alloc_at (hn := by simp)]; rfl
      · omega⟩⟩
  have hl : Low 4294967296 [N % 4294967296, N / 4294967296] := by
    intro d hd
    simp at hd
    rcases hd with rfl | rfl <;> omega
  have hc := trimRef_any _ _ _ _ _ _ hr hl (by omega)
  have hv : val 4294967296 [N % 4294967296, N / 4294967296] = N := by
    show N % 4294967296 + 4294967296 * (N / 4294967296 + 4294967296 * 0) = N
    omega
  rw [hv] at hc
  have H := Lib.hid hc
  clear hc hr hv hl
  have hm : (N : Int) / 4294967296 % 4294967296 = (N : Int) / 4294967296 := by omega
  go_enter Try.func55, Try.ntmps55
  go_wp2_with (go_at_call 96; refine H.out.mono ?_; rintro e w' ⟨A, m, c, rfl, ho, hb⟩)
  go_ret
  have hb0 := below_alloc w (.cells #[.int .u32 ((N : Int) % 4294967296), .int .u32 ((N : Int) / 4294967296)] 24)
  exact ⟨A, m, c, rfl, own_low ho hb0.size, hb0.trans (hb.mono hb0.size)⟩

theorem n_any (N : Nat) (w : World) (h1 : N ≤ 18446744073709551615) : Calls Try.prog 20 #[.int .u64 (N : Int)] w (New w N) := by
  have H := Lib.hid (ofRef_any N w h1)
  go_enter Try.func20, Try.ntmps20
  go_wp2_with (go_at_call 55; refine H.out.mono ?_; rintro e w' ⟨A, m, c, rfl, ho, hb⟩)
  go_ret
  exact ⟨A, m, c, rfl, ho, hb⟩

/-- A valid number, as a Boolean. -/
def vB (xs : List Nat) : Bool := decide (Vd xs)

set_option maxRecDepth 100000 in
set_option maxHeartbeats 1000000 in
theorem validRef_any (A : Option Addr) (n c : Nat) (xs : List Nat) (w : World) (h : Arg w A n c xs) :
    Calls Try.prog 66 #[.slice A n c] w fun e w' => e = .returned (.bool (vB xs)) ∧ w = w' := by
  have hca := h.rd.cap
  have hcl := h.rd.le
  unfold maxLen at hca
  rcases num_ways h with (⟨h1, hv⟩ | ⟨h1, h2, ⟨b, off, rfl, hc⟩, hv⟩) | (⟨rfl, hv⟩ | ⟨h1, h2, ⟨b, off, D, rfl, hc, hD⟩, hv⟩)
  · have H := Lib.hid (show vB xs = false from decide_eq_false hv)
    clear h hv
    go_enter Try.func66, Try.ntmps66
    go_wp2
    go_ret
    exact ⟨by rw [H.out]; rfl, rfl⟩
  · have H := Lib.hid (show vB xs = false from decide_eq_false hv)
    clear h hv
    have hb0 : ((n : Int) == 0) = false := by rw [beq_eq_false_iff_ne]; omega
    go_enter Try.func66, Try.ntmps66
    go_wp2
    go_ret
    exact ⟨by rw [H.out]; rfl, rfl⟩
  · have H := Lib.hid (show vB xs = true from decide_eq_true hv)
    clear h hv
    go_enter Try.func66, Try.ntmps66
    go_wp2
    go_ret
    exact ⟨by rw [H.out]; rfl, rfl⟩
  · have H := Lib.hid (show vB xs = true from decide_eq_true hv)
    clear h hv
    have hb0 : ((n : Int) == 0) = false := by rw [beq_eq_false_iff_ne]; omega
    have hD2 : ((D : Int) != 0) = true := by rw [bne, hD]; rfl
    go_enter Try.func66, Try.ntmps66
    go_wp2
    go_ret
    exact ⟨by rw [H.out]; rfl, rfl⟩
end Go.Proofs.Ythplhlcdlnedfaa
