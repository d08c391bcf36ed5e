/-
  The functions that the document lists, part C: Check, Of, Compare, Add, Sub, Mul, Div, Gcd.
-/
import Derived.Test.YthplhlcdlnedfaaApiB
namespace Go.Proofs.Ythplhlcdlnedfaa
open Go.RowKit MN

/-- The world with the slice of two numbers that checkAll is given. -/
theorem two_cells {w : World} {A1 : Option Addr} {n1 c1 : Nat} {A2 : Option Addr} {n2 c2 : Nat} :
    (w.alloc (.cells #[.slice A1 n1 c1, .slice A2 n2 c2] 23)).cell? ⟨w.heap.size, 0, none⟩ = some (.slice A1 n1 c1) ∧ (w.alloc (.cells #[.slice A1 n1 c1, .slice A2 n2 c2] 23)).cell? ⟨w.heap.size, 1, none⟩ = some (.slice A2 n2 c2) := by
  constructor <;> (rw [World.cell?_alloc_at (hn := by simp)]; rfl)
theorem one_cell {w : World} {A1 : Option Addr} {n1 c1 : Nat} :
    (w.alloc (.cells #[.slice A1 n1 c1] 23)).cell? ⟨w.heap.size, 0, none⟩ = some (.slice A1 n1 c1) := by
  rw [World.cell?_alloc_at (hn := by simp)]; rfl
theorem below_alloc (w : World) (o : Obj) : Below w.heap.size w (w.alloc o) := (Below.refl _ _).alloc (Nat.le_refl _) o

theorem check2_call {w : World} {A1 : Option Addr} {n1 c1 : Nat} {xs : List Nat} {A2 : Option Addr} {n2 c2 : Nat} {ys : List Nat} (h : Arg w A1 n1 c1 xs) (k : Arg w A2 n2 c2 ys) :
    Calls Try.prog 68 #[.slice (some ⟨w.heap.size, 0, none⟩) 2 2] (w.alloc (.cells #[.slice A1 n1 c1, .slice A2 n2 c2] 23)) fun e w' => e = .returned (.int .i64 (ck2 xs ys)) ∧ w.alloc (.cells #[.slice A1 n1 c1, .slice A2 n2 c2] 23) = w' :=
  checkAll2_any A1 n1 c1 xs A2 n2 c2 ys _ _ (h.keep (below_alloc _ _)) (k.keep (below_alloc _ _)) two_cells.1 two_cells.2

theorem check1_call {w : World} {A1 : Option Addr} {n1 c1 : Nat} {xs : List Nat} (h : Arg w A1 n1 c1 xs) :
    Calls Try.prog 68 #[.slice (some ⟨w.heap.size, 0, none⟩) 1 1] (w.alloc (.cells #[.slice A1 n1 c1] 23)) fun e w' => e = .returned (.int .i64 (ck xs)) ∧ w.alloc (.cells #[.slice A1 n1 c1] 23) = w' :=
  checkAll1_any A1 n1 c1 xs _ _ (h.keep (below_alloc _ _)) one_cell

/-- A number and an error are returned; the number is new memory. -/
def Res (w : World) (code : Int) (N : Nat) (e : Ending) (w' : World) : Prop :=
  ∃ A m c, e = .returned (.tuple #[.slice A m c, .int .i64 code]) ∧ w'.ownsRow w.heap.size 24 1 (.slice A m c) m (vs32 (digs 4294967296 N)) ∧ Below w.heap.size w w'

theorem res_nil {w w' : World} {code : Int} (hb : Below w.heap.size w w') : Res w code 0 (.returned (.tuple #[.slice none 0 0, .int .i64 code])) w' :=
  ⟨none, 0, 0, rfl, World.ownsRow_nil _ _ _ _, hb⟩

/-- A number that is too large. -/
def Big (N : Nat) : Prop := 16 < (digs 4294967296 N).length
instance (N : Nat) : Decidable (Big N) := by unfold Big; infer_instance

/-- The error and the number, where the result may be too large. -/
def fitC (N : Nat) : Int := if Big N then 4 else 0
def fitN (N : Nat) : Nat := if Big N then 0 else N

theorem vd_len {xs : List Nat} (h : Vd xs) : xs.length ≤ 16 := h.1

theorem fit_any (A : Option Addr) (n c N : Nat) (w0 w : World) (hsz : Below w0.heap.size w0 w) (ho : w.ownsRow w0.heap.size 24 1 (.slice A n c) n (vs32 (digs 4294967296 N))) :
    Calls Try.prog 71 #[.slice A n c] w (Res w0 (fitC N) (fitN N)) := by
  have hlen := (own_num ho).2
  by_cases h : Big N
  · have hC : Hid (fitC N = 4) := Lib.hid (if_pos h)
    have hN : Hid (fitN N = 0) := Lib.hid (if_pos h)
    have hn : 16 < n := by rw [← hlen]; exact h
    clear hlen h
    go_enter Try.func71, Try.ntmps71
    go_wp2_with (go_at_call 79; refine (tooLarge_yes _ _ _ _ hn).mono ?_; rintro e w' ⟨rfl, rfl⟩)
    go_ret2
    rw [hC.out, hN.out]
    exact res_nil hsz
  · have hC : Hid (fitC N = 0) := Lib.hid (if_neg h)
    have hN : Hid (fitN N = N) := Lib.hid (if_neg h)
    have hn : n ≤ 16 := by rw [← hlen]; exact Nat.le_of_not_lt h
    clear hlen h
    go_enter Try.func71, Try.ntmps71
    go_wp2_with (go_at_call 79; refine (tooLarge_no _ _ _ _ hn).mono ?_; rintro e w' ⟨rfl, rfl⟩)
    go_ret2
    rw [hC.out, hN.out]
    exact ⟨A, n, c, rfl, ho, hsz⟩

theorem check_any (A : Option Addr) (n c : Nat) (xs : List Nat) (w : World) (h : Arg w A n c xs) :
    Calls Try.prog 26 #[.slice A n c] w fun e w' => e = .returned (.int .i64 (ck xs)) ∧ Below w.heap.size w w' := by
  have H := Lib.hid (check1_call h)
  clear h
  go_enter Try.func26, Try.ntmps26
  go_wp2_with (go_at_call 68; refine H.out.mono ?_; rintro e w' ⟨rfl, rfl⟩)
  go_ret
  exact ⟨rfl, below_alloc _ _⟩

theorem of_any (n : Int) (w : World) (h0 : 0 ≤ n) (h1 : n ≤ 18446744073709551615) : Calls Try.prog 27 #[.int .u64 n] w (New w n.toNat) := by
  obtain ⟨N, rfl⟩ := Int.eq_ofNat_of_zero_le h0
  have hr : Rd .u64 (w.alloc (.cells #[.int .u64 (N : Int)] 29)) (some ⟨w.heap.size, 0, none⟩) 1 1 [N] :=
    ⟨rfl, Nat.le_refl _, by simp [maxLen], fun _ => ⟨w.heap.size, 0, rfl, fun i hi => by
      obtain rfl : i = 0 := by omega
      rw [World.cell?_alloc_at (hn := by simp)]; rfl⟩⟩
  have hc := carry32_any _ _ _ [N] _ hr (by omega) (by show N ≤ _; omega) (fun i hi => by rw [dg_past [N] i hi]; omega)
  have hv : val 4294967296 [N] = N := by simp [val]
  rw [hv] at hc
  have H := Lib.hid hc
  clear hc hr hv
  rw [Int.toNat_natCast]
  go_enter Try.func27, Try.ntmps27
  go_wp2_with (go_at_call 74; refine H.out.mono ?_; rintro e w' ⟨A, m, c, rfl, ho, hb⟩)
  go_ret
  have hb0 := below_alloc w (.cells #[.int .u64 (N : Int)] 29)
  exact ⟨A, m, c, rfl, own_low ho hb0.size, hb0.trans (hb.mono hb0.size)⟩

end Go.Proofs.Ythplhlcdlnedfaa
