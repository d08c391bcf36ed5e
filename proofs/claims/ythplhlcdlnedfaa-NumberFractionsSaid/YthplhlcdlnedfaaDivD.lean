/-
  Long division, part D: giveBack.
-/
import Derived.Test.YthplhlcdlnedfaaDivC
namespace Go.Proofs.Ythplhlcdlnedfaa
open Go.RowKit MN

def GaveBack (base : Nat) (w ws : World) (g N : Nat) (vs xs : List Nat) (o n : Nat) (e : Ending) (w' : World) : Prop :=
  ∃ (xs' : List Nat), e = .returned (.tuple #[]) ∧ Row base w ws w' g N xs' ∧ Gave vs xs xs' o n

set_option maxRecDepth 100000 in
set_option maxHeartbeats 1000000 in
theorem giveBack_any (base : Nat) (w ws : World) (g N o n cu : Nat) (Av : Option Addr) (cv : Nat) (xs vs : List Nat) (hC : Cols .u32 24 base w ws g N xs) (hv : Rd .u32 ws Av n cv vs) (hap : Apart Av g)
    (hlx : Low 4294967296 xs) (hlv : Low 4294967296 vs) (hN : N ≤ 65536) (ho : o + n + 1 ≤ N) (hcu : n + 1 ≤ cu) :
    Calls Try.prog 112 #[.slice (some ⟨g, o, none⟩) (n + 1) cu, .slice Av n cv] ws (GaveBack base w ws g N vs xs o n) := by
  have hlenv := Lib.hid hv.len
  have hatv := Lib.hid hv.at_
  have hap' := Lib.hid hap
  clear hv hap
  have hR := Row.start hC
  clear hC
  go_enter Try.func112, Try.ntmps112
  go_wp2
  go_loopw [4, 9] (fun c i wr => ∃ (k co : Nat) (ys : List Nat), k ≤ n ∧ i = .int .i64 k ∧ c = .int .u32 co ∧ co ≤ 1 ∧ Row base w ws wr g N ys ∧ Gv vs xs ys o k co) (fun _ i _ => n - (intOf i).toNat)
  case atStart => exact ⟨0, 0, xs, Nat.zero_le _, rfl, rfl, by omega, hR, Gv.start vs xs o hlx⟩
  case round =>
    obtain ⟨k, co, ys, hk, rfl, rfl, hco, hRr, hT⟩ := hrel
    by_cases hlt : k < n
    · obtain ⟨b, off, rfl, hc⟩ := hatv.out (by omega)
      have hbg := hap'.out b off rfl
      have hcell := hRr.other hbg (hc k hlt)
      clear hc
      obtain ⟨G, hG⟩ : ∃ D, D = dg vs k := ⟨_, rfl⟩
      have hGl : G < 4294967296 := by rw [hG]; exact low_dg hlv (by omega) k
      have g0 := hRr.cols.cell (o + k) (by omega)
      have r0 := hRr.cols.frozen (o + k)
      obtain ⟨X, hX⟩ : ∃ X, X = dg ys (o + k) := ⟨_, rfl⟩
      have hXl : X < 4294967296 := by rw [hX]; exact low_dg hT.low (by omega) _
      rw [← hX] at g0
      have HT := hT.step (e := adf X G co) (c' := aco X G co) (by rw [hRr.cols.len]; omega) (by rw [← hX, ← hG]; exact add_eq X G co) (adf_lt _ _ _) (aco_le _ _ _ hXl hGl hco)
      have q4 := aco_le X G co hXl hGl hco
      have HS := hRr.set (o + k) (adf X G co) (adf X G co : Int) rfl
      rw [← hG] at hcell
      clear hG hX hT hRr
      go_wp2_with (go_at_call 119; refine (add32_any X G co _ hXl hGl hco).mono ?_; rintro e w' ⟨rfl, rfl⟩)
      go_roundw
      case rel => exact ⟨k + 1, _, _, by omega, by go_num, rfl, q4, HS, HT⟩
      case measure => simp [intOf]; omega
    · obtain rfl : k = n := by omega
      have g0 := hRr.cols.cell (o + k) (by omega)
      have r0 := hRr.cols.frozen (o + k)
      obtain ⟨X, hX⟩ : ∃ X, X = dg ys (o + k) := ⟨_, rfl⟩
      have hXl : X < 4294967296 := by rw [hX]; exact low_dg hT.low (by omega) _
      rw [← hX] at g0
      have HT := hT.done hlenv.out (by rw [hRr.cols.len]; omega)
      rw [← hX] at HT
      have HS := hRr.set (o + k) ((X + co) % 4294967296) (((X : Int) + (co : Int)) % 4294967296) (by omega)
      clear hX hT hRr
      go_wp2
      go_end0
      exact ⟨_, rfl, HS, HT⟩

end Go.Proofs.Ythplhlcdlnedfaa
