/-
  Long division, part C: takeOff, giveBack.
-/
import Derived.Test.YthplhlcdlnedfaaDivB
import Derived.Test.YthplhlcdlnedfaaMathF
namespace Go.Proofs.Ythplhlcdlnedfaa
open Go.RowKit MN

/-- A row that the call has made, in block g, written alone since the world ws. -/
structure Row (base : Nat) (w ws wr : World) (g N : Nat) (xs : List Nat) : Prop where
  cols : Cols .u32 24 base w wr g N xs
  only : ws.grownBy wr (some g)

theorem Row.start {base : Nat} {w ws : World} {g N : Nat} {xs : List Nat} (h : Cols .u32 24 base w ws g N xs) : Row base w ws ws g N xs := ⟨h, World.grownBy.refl ws _⟩

theorem grown_set {ws wr : World} {g j : Nat} {u : Value} (h : ws.grownBy wr (some g)) : ws.grownBy (wr.setCell ⟨g, j, none⟩ u) (some g) :=
  ⟨h.os, h.tape, h.output, by simpa [World.setCell] using h.size, fun k hk hne => by
    rw [Below.heap_setCell _ _ _ _ (fun e => hne (by rw [e]))]
    exact h.block k hk hne⟩

theorem Row.set {base : Nat} {w ws wr : World} {g N : Nat} {xs : List Nat} (h : Row base w ws wr g N xs) (j d : Nat) (z : Int) (hz : z = (d : Int)) : Row base w ws (wr.setCell ⟨g, j, none⟩ (.int .u32 z)) g N (xs.set j d) :=
  ⟨h.cols.set j d z hz, grown_set h.only⟩

/-- A slice that does not lie in block g. -/
def Apart (A : Option Addr) (g : Nat) : Prop := ∀ b off, A = some ⟨b, off, none⟩ → b ≠ g

theorem Row.other {base : Nat} {w ws wr : World} {g N b o : Nat} {xs : List Nat} {v : Value} (h : Row base w ws wr g N xs) (hb : b ≠ g) (hc : ws.cell? ⟨b, o, none⟩ = some v) : wr.cell? ⟨b, o, none⟩ = some v :=
  h.only.cell hc (fun e => hb (by injection e))

def TookOff (base : Nat) (w ws : World) (g N : Nat) (vs xs : List Nat) (q o n : Nat) (e : Ending) (w' : World) : Prop :=
  ∃ (b : Bool) (xs' : List Nat), e = .returned (.bool b) ∧ Row base w ws w' g N xs' ∧ Took vs xs xs' q o n b

set_option maxRecDepth 100000 in
set_option maxHeartbeats 1000000 in
theorem takeOff_any (base : Nat) (w ws : World) (g N o n cu : Nat) (Av : Option Addr) (cv : Nat) (xs vs : List Nat) (q : Nat) (hC : Cols .u32 24 base w ws g N xs) (hv : Rd .u32 ws Av n cv vs) (hap : Apart Av g)
    (hlx : Low 4294967296 xs) (hlv : Low 4294967296 vs) (hq : q ≤ 4294967296) (hN : N ≤ 65536) (ho : o + n + 1 ≤ N) (hcu : n + 1 ≤ cu) :
    Calls Try.prog 111 #[.slice (some ⟨g, o, none⟩) (n + 1) cu, .slice Av n cv, .int .u64 (q : Int)] ws (TookOff base w ws g N vs xs q o n) := by
  have hlenv := Lib.hid hv.len
  have hatv := Lib.hid hv.at_
  have hap' := Lib.hid hap
  clear hv hap
  have hR := Row.start hC
  clear hC
  go_enter Try.func111, Try.ntmps111
  go_wp2
  go_loopw [7, 8, 14] (fun m b i wr => ∃ (k bo mo : Nat) (ys : List Nat), k ≤ n ∧ i = .int .i64 k ∧ b = .int .u32 bo ∧ m = .int .u64 mo ∧ bo ≤ 1 ∧ mo < 4294967296 ∧ Row base w ws wr g N ys ∧ Tk vs xs ys q o k bo mo) (fun _ _ i _ => n - (intOf i).toNat)
  case atStart => exact ⟨0, 0, 0, xs, Nat.zero_le _, rfl, rfl, rfl, by omega, by omega, hR, Tk.start vs xs q o hlx⟩
  case round =>
    obtain ⟨k, bo, mo, ys, hk, rfl, rfl, rfl, hbo, hmo, hRr, hT⟩ := hrel
    by_cases hlt : k < n
    · obtain ⟨b, off, rfl, hc⟩ := hatv.out (by omega)
      have hbg := hap'.out b off rfl
      have hcell := hRr.other hbg (hc k hlt)
      clear hc
      obtain ⟨G, hG⟩ : ∃ D, D = dg vs k := ⟨_, rfl⟩
      have hGl : G < 4294967296 := by rw [hG]; exact low_dg hlv (by omega) k
      obtain ⟨P, hP⟩ : ∃ P, P = q * G := ⟨_, rfl⟩
      have hPl : P ≤ 18446744069414584320 := by rw [hP]; exact Nat.mul_le_mul hq (show G ≤ 4294967295 by omega)
      have hw1 : IntKind.u64.wrap ((q : Int) * (G : Int)) = (P : Int) := by
        rw [show (q : Int) * (G : Int) = (P : Int) by rw [hP]; rfl]; exact IntWalk.u64_in _ (by omega)
      obtain ⟨t, ht⟩ : ∃ t, t = mo + P := ⟨_, rfl⟩
      have hw2 : (mo : Int) + (P : Int) = (t : Int) := by omega
      obtain ⟨L, hL⟩ : ∃ L, L = t % 4294967296 := ⟨_, rfl⟩
      have hw3 : (t : Int) % 4294967296 = (L : Int) := by omega
      obtain ⟨M, hM⟩ : ∃ M, M = t / 4294967296 := ⟨_, rfl⟩
      have hw4 : (t : Int) / 4294967296 = (M : Int) := by omega
      have hLl : L < 4294967296 := by omega
      have g0 := hRr.cols.cell (o + k) (by omega)
      have r0 := hRr.cols.frozen (o + k)
      obtain ⟨X, hX⟩ : ∃ X, X = dg ys (o + k) := ⟨_, rfl⟩
      have hXl : X < 4294967296 := by rw [hX]; exact low_dg hT.low (by omega) _
      rw [← hX] at g0
      have HT := hT.step (t := t) (e := sdf X L bo) (b' := sbo X L bo) hq hlv (by rw [hRr.cols.len]; omega) (by rw [ht, hP, hG]) (by rw [← hX, ← hL]; exact sub_eq X L bo hXl hLl hbo) (sdf_lt _ _ _) (sbo_le _ _ _)
      rw [← hM] at HT
      have hMl := HT.mle
      have q4 := sbo_le X L bo
      have HS := hRr.set (o + k) (sdf X L bo) (sdf X L bo : Int) rfl
      rw [← hG] at hcell
      have hgl := hRr.cols.lt
      clear hG hP ht hL hM hX hT hRr
      go_wp2_with (go_at_call 105; refine (sub32_any X L bo _ hXl hLl hbo).mono ?_; rintro e w' ⟨rfl, rfl⟩)
      go_roundw
      case rel => exact ⟨k + 1, _, M, _, by omega, by go_num, rfl, rfl, q4, hMl, HS, HT⟩
      case measure => simp [intOf]; omega
    · obtain rfl : k = n := by omega
      have g0 := hRr.cols.cell (o + k) (by omega)
      have r0 := hRr.cols.frozen (o + k)
      obtain ⟨X, hX⟩ : ∃ X, X = dg ys (o + k) := ⟨_, rfl⟩
      have hXl : X < 4294967296 := by rw [hX]; exact low_dg hT.low (by omega) _
      rw [← hX] at g0
      have HT := hT.done (e := sdf X mo bo) (b' := sbo X mo bo) hlenv.out (by rw [hRr.cols.len]; omega) (by rw [← hX]; exact sub_eq X mo bo hXl hmo hbo) (sdf_lt _ _ _) (sbo_le _ _ _)
      have HS := hRr.set (o + k) (sdf X mo bo) (sdf X mo bo : Int) rfl
      have hb1 : ((sbo X mo bo : Int) == 1) = (sbo X mo bo == 1) := by
        rw [Bool.eq_iff_iff]; simp; omega
      clear hX hT hRr
      go_wp2_with (go_at_call 105; refine (sub32_any X mo bo _ hXl hmo hbo).mono ?_; rintro e w' ⟨rfl, rfl⟩)
      go_ret
      exact ⟨_, _, rfl, HS, HT⟩

end Go.Proofs.Ythplhlcdlnedfaa
