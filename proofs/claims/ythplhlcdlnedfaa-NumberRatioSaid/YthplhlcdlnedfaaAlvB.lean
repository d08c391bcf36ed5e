/-
  The chapter's examples, part B: what comes out, reckoned.
-/
import Derived.Test.YthplhlcdlnedfaaAlvA
namespace Go.Proofs.Ythplhlcdlnedfaa
open Go.RowKit MN

theorem ex_digs (N : Nat) (xs : List Nat) (h1 : Low 4294967296 xs) (h2 : Top xs) (h3 : nv xs = N) : digs 4294967296 N = xs := by
  refine val_inj (B := 4294967296) (by omega) _ _ (digs_low _ _ (by omega)) h1 (digs_top _ _ (by omega)) h2 ?_
  rw [digs_val _ _ (by omega)]; exact h3.symm
theorem ex_is (N : Nat) (xs : List Nat) (h1 : Low 4294967296 xs) (h2 : Top xs) (h3 : nv xs = N) : isB 0 (digs 4294967296 N) xs = true := by
  rw [ex_digs N xs h1 h2 h3]; show (true && sB xs xs) = true; rw [sB_yes rfl]; rfl

theorem ex_add : isB 0 (digs 4294967296 (4294967295 + 1)) [0, 1] = true := ex_is _ _ (by unfold Low; decide) (by unfold Top; decide) (by decide)
theorem ex_mul : isB 0 (digs 4294967296 (4294967296 * 4294967296)) [0, 0, 1] = true := ex_is _ _ (by unfold Low; decide) (by unfold Top; decide) (by decide)
theorem ex_div : isB 0 (digs 4294967296 (100 / 7)) [14] = true := ex_is _ _ (by unfold Low; decide) (by unfold Top; decide) (by decide)
theorem ex_mod : isB 0 (digs 4294967296 (100 % 7)) [2] = true := ex_is _ _ (by unfold Low; decide) (by unfold Top; decide) (by decide)
theorem ex_gcd : isB 0 (digs 4294967296 (Nat.gcd 12 18)) [6] = true := ex_is _ _ (by unfold Low; decide) (by unfold Top; decide) (by decide)
theorem ex_of : isB 0 (digs 4294967296 4294967301) [5, 1] = true := ex_is _ _ (by unfold Low; decide) (by unfold Top; decide) (by decide)
theorem ex_parse : isB 0 (digs 4294967296 18446744073709551616) [0, 0, 1] = true := ex_is _ _ (by unfold Low; decide) (by unfold Top; decide) (by decide)

abbrev big64 : ByteArray := { data := #[49, 56, 52, 52, 54, 55, 52, 52, 48, 55, 51, 55, 48, 57, 53, 53, 49, 54, 49, 54] }
theorem ex_txtL : txtL (4294967296 * 4294967296) = [49, 56, 52, 52, 54, 55, 52, 52, 48, 55, 51, 55, 48, 57, 53, 53, 49, 54, 49, 54] := by
  have h : digs 10 (4294967296 * 4294967296) = [6, 1, 6, 1, 5, 5, 9, 0, 7, 3, 7, 0, 4, 4, 7, 6, 4, 4, 8, 1] :=
    val_inj (B := 10) (by omega) _ _ (digs_low _ _ (by omega)) (by unfold Low; decide) (digs_top _ _ (by omega)) (by unfold Top; decide) (by rw [digs_val _ _ (by omega)]; decide)
  unfold txtL
  rw [if_neg (by decide), h]; rfl
theorem ex_text : txtS (4294967296 * 4294967296) = { data := #[49, 56, 52, 52, 54, 55, 52, 52, 48, 55, 51, 55, 48, 57, 53, 53, 49, 54, 49, 54] } := by
  unfold txtS; rw [ex_txtL]; rfl
theorem ex_size : big64.size ≤ maxLen := by show 20 ≤ 2 ^ 63 - 1; decide
theorem ex_dec : IsDec (bs big64) := by
  show IsDec [49, 56, 52, 52, 54, 55, 52, 52, 48, 55, 51, 55, 48, 57, 53, 53, 49, 54, 49, 54]
  unfold IsDec; decide
theorem ex_dvk : dvk (bs big64) big64.size = 18446744073709551616 := by
  show dvk [49, 56, 52, 52, 54, 55, 52, 52, 48, 55, 51, 55, 48, 57, 53, 53, 49, 54, 49, 54] 20 = _
  decide
theorem ex_pow : pmv 3 4 7 = 4 := by rw [pmv, if_pos (by omega)]; decide
theorem ex_powc : pmc 7 = 0 := by rw [pmc, if_pos (by omega)]
theorem ex_inv : ivv 3 7 = 5 := ivv_of 3 7 5 (by omega) (by omega) (by unfold MA.IsInv; decide)
theorem ex_invc : ivc 3 7 = 0 := by rw [ivc, if_pos (by omega), if_pos (by decide)]
theorem isPr_small (n : Nat) (h2 : 2 ≤ n) (hn : n < 1000) (h : ∀ d, d < 32 → 2 ≤ d → d * d ≤ n → n % d ≠ 0) : MA.IsPr n :=
  ⟨h2, fun d hd hdd => h d (by
    rcases Nat.lt_or_ge d 32 with k | k
    · exact k
    · have := Nat.mul_le_mul k k
      omega) hd hdd⟩
theorem ex_pr2 : MA.IsPr 2 := isPr_small 2 (by omega) (by omega) (by decide)
theorem ex_pr11 : MA.IsPr 11 := isPr_small 11 (by omega) (by omega) (by decide)
theorem ex_pr23 : MA.IsPr 23 := isPr_small 23 (by omega) (by omega) (by decide)
theorem ex_prime : prb 2 = true := by rw [prb, if_neg (by omega)]; exact prv_yes 2 ex_pr2
theorem ex_primec : prc 2 = 0 := by rw [prc, if_neg (by omega)]
theorem ex_grp : grc 23 11 2 = 0 := grc_yes 23 11 2 ⟨by omega, ex_pr23, by omega, ex_pr11, by decide, by omega, by omega, by decide⟩
theorem ex_grp5 : grc 23 11 5 = 13 := grc_no 23 11 5 (fun h => by
  have := h.2.2.2.2.2.2.2
  revert this; decide)
theorem ex_same : (sB (digs 4294967296 (6 / Nat.gcd 6 4)) (digs 4294967296 3) && sB (digs 4294967296 (4 / Nat.gcd 6 4)) (digs 4294967296 2)) = true := by
  rw [show 6 / Nat.gcd 6 4 = 3 by decide, show 4 / Nat.gcd 6 4 = 2 by decide, sB_yes rfl, sB_yes rfl]; rfl
theorem below_drewN {B : Nat} {a w : World} (h : Below B a w) (n : Nat) : Below B a (w.drewN n) := h.trans ⟨rfl, rfl, rfl, Nat.le_refl _, fun _ _ => rfl⟩
theorem Below.frame' (w : World) (o : Obj) (n : Nat) : Below w.heap.size w ((w.alloc o).drewN n) := below_drewN (below_alloc w o) n
theorem Var2.drewN {w : World} {B : Nat} {u v : Value} (h : Var2 w B u v) (n : Nat) : Var2 (w.drewN n) B u v := ⟨h.c0, h.c1, h.f0, h.f1⟩
theorem lt_drewN (w : World) (o : Obj) (n : Nat) : w.heap.size < ((w.alloc o).drewN n).heap.size := by
  show w.heap.size < (w.alloc o).heap.size
  simp
end Go.Proofs.Ythplhlcdlnedfaa
