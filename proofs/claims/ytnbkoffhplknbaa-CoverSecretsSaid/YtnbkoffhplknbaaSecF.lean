/-
  Receivers; lists of labels; secrets in memory.
-/
import Derived.Test.YtnbkoffhplknbaaSecE
import Derived.Test.YtnbkoffhplknbaaStoA
namespace Go.Proofs.Ytnbkoffhplknbaa
open Go.RowKit TR L2 L2.SP
set_option linter.unusedVariables false
set_option linter.unusedSimpArgs false

/-- Whether a number is a receiver. -/
def isr (D u : Int) : Bool := decide (0 ≤ u ∧ u < ((2 ^ D.toNat : Nat) : Int))

set_option maxRecDepth 100000 in
set_option maxHeartbeats 800000 in
theorem isReceiver_any (K D E u : Int) (P Q G : Nat) (w : World) (d1 : 0 ≤ D) (d2 : D ≤ 6) :
    Calls Try.prog 80 #[.agg #[.int .u8 K, .int .i64 D, .int .i64 E, .int .u64 (P : Int), .int .u64 (Q : Int), .int .u64 (G : Int)], .int .i64 u] w fun e w' => e = .returned (.bool (isr D u)) ∧ Below w.heap.size w w' := by
  by_cases hu : 0 ≤ u ∧ u < ((2 ^ D.toNat : Nat) : Int)
  · have H : Hid (isr D u = true) := Lib.hid (decide_eq_true hu)
    obtain ⟨u1, u2⟩ := hu
    rcases (by omega : D = 0 ∨ D = 1 ∨ D = 2 ∨ D = 3 ∨ D = 4 ∨ D = 5 ∨ D = 6) with rfl | rfl | rfl | rfl | rfl | rfl | rfl
    all_goals
      (simp only [Int.reduceToNat, Nat.reducePow, Int.cast_ofNat_Int] at u2)
      go_enter Try.func80, Try.ntmps80
      go_wp2
      go_ret
      exact ⟨by rw [H.out]; first | rfl | (simp; done) | (simp; omega), by first | exact (Below.refl _ _).alloc (Nat.le_refl _) _ | exact Below.refl _ _⟩
  · have H : Hid (isr D u = false) := Lib.hid (decide_eq_false hu)
    rcases (by omega : u < 0 ∨ (0 ≤ u ∧ ((2 ^ D.toNat : Nat) : Int) ≤ u)) with u1 | ⟨u1, u2⟩
    · clear hu
      go_enter Try.func80, Try.ntmps80
      go_wp2
      go_ret
      exact ⟨by rw [H.out]; first | rfl | (simp; done) | (simp; omega), by first | exact (Below.refl _ _).alloc (Nat.le_refl _) _ | exact Below.refl _ _⟩
    · clear hu
      rcases (by omega : D = 0 ∨ D = 1 ∨ D = 2 ∨ D = 3 ∨ D = 4 ∨ D = 5 ∨ D = 6) with rfl | rfl | rfl | rfl | rfl | rfl | rfl
      all_goals
        (simp only [Int.reduceToNat, Nat.reducePow, Int.cast_ofNat_Int] at u2)
        go_enter Try.func80, Try.ntmps80
        go_wp2
        go_ret
        exact ⟨by rw [H.out]; first | rfl | (simp; done) | (simp; omega), by first | exact (Below.refl _ _).alloc (Nat.le_refl _) _ | exact Below.refl _ _⟩

set_option maxRecDepth 100000 in
set_option maxHeartbeats 400000 in
theorem refReceiver_any (d : Nat) (u : Int) (w : World) (hd : d < 7) :
    Calls Try.prog 96 #[.int .i64 (d : Int), .int .i64 u] w fun e w' => e = .returned (.bool (isr (d : Int) u)) ∧ Below w.heap.size w w' := by
  have HR := Lib.hid (fun w => receivers_any d w hd)
  have HF : Hid (isr (d : Int) u = decide (0 ≤ u ∧ u < ((2 ^ d : Nat) : Int))) := Lib.hid (by unfold isr; rw [Int.toNat_natCast])
  have h64 := p64 hd
  generalize 2 ^ d = T at HR HF h64
  by_cases h1 : 0 ≤ u
  · by_cases h2 : u < (T : Int)
    all_goals
      go_enter Try.func96, Try.ntmps96
      go_wp2_with fail
      refine (HR.out _).mono ?_
      rintro e1 w' ⟨rfl, rfl⟩
      go_wp2_with fail
      go_ret
      exact ⟨by rw [HF.out]; first | rfl | (simp [h1, h2]; done) | (simp; omega), Below.refl _ _⟩
  · have h2 : u < 0 := by omega
    go_enter Try.func96, Try.ntmps96
    go_wp2_with fail
    go_ret
    exact ⟨by rw [HF.out]; first | rfl | (simp [h1]; done) | (simp; omega), Below.refl _ _⟩

/-- The cells of a list of labels. -/
def lbs (K : Int) (p : Nat × Nat) (ps : List (Nat × Nat)) : List Value := ps.flatMap fun t => lbl (t.1 : Int) (t.2 : Int) (sky K p t.1 t.2)
theorem lbs_snoc (K : Int) (p : Nat × Nat) (ps : List (Nat × Nat)) (t : Nat × Nat) : lbs K p (ps ++ [t]) = lbs K p ps ++ lbl (t.1 : Int) (t.2 : Int) (sky K p t.1 t.2) := by unfold lbs; rw [List.flatMap_append]; simp
theorem isb_facts {K : Int} {d a b : Nat} (h : isb K d (a : Int) (b : Int) = true) (hK : K ≠ 1) (hb : b ≠ 0) : abv a b = true := by
  have hb1 : ¬ ((b : Int) = 0) := by omega
  unfold isb at h
  rw [if_neg hK, if_neg hb1] at h
  simp only [Bool.and_eq_true, Int.toNat_natCast] at h
  exact h.2.2.2.1
/-- A pair of nodes that a label may have. -/
def PrOk (K : Int) (t : Nat × Nat) : Prop := 1 ≤ t.1 ∧ t.1 < 256 ∧ t.2 < 256 ∧ (K ≠ 1 → t.2 ≠ 0 → abv t.1 t.2 = true)
theorem plc_ok (K : Int) (d r : Nat) (hd : d < 7) (hr : r < 2 ^ d) : ∀ t ∈ plc K d (2 ^ d + r), PrOk K t := by
  have h64 := p64 hd
  have hl := leaf_lv hd hr
  have hno : ∀ l, l ≤ d → 1 ≤ nat_ (2 ^ d + r) l ∧ nat_ (2 ^ d + r) l < 128 := fun l h => by
    have h1 := nat_ok (2 ^ d + r) l (by omega) (by omega) (by rw [hl]; exact h)
    omega
  intro t ht
  unfold plc plf at ht
  rw [hl] at ht
  rcases List.mem_append.1 ht with h | h
  · unfold pre0 at h
    split at h
    · simp at h
    · simp at h; subst h; exact ⟨by simp, by simp, by simp, fun _ h => absurd rfl h⟩
  · obtain ⟨l, hl1, hl2⟩ := List.mem_flatMap.1 h
    have hld : l ≤ d := by have := List.mem_range.1 hl1; omega
    unfold rowl at hl2
    split at hl2
    · simp at hl2; subst hl2
      exact ⟨(hno l hld).1, by have := (hno l hld).2; omega, by simp, fun _ h => absurd rfl h⟩
    · unfold rin at hl2
      obtain ⟨h1, h2⟩ := List.mem_filter.1 hl2
      obtain ⟨i, hi, rfl⟩ := List.mem_map.1 h1
      have hi1 := List.mem_range.1 hi
      rw [hl] at hi1
      have hx := (hno (l + 1 + i) (by omega)).2
      have hx2 : nat_ (2 ^ d + r) (l + 1 + i) ^^^ 1 < 128 := Nat.xor_lt_two_pow (n := 7) hx (by decide)
      exact ⟨(hno l hld).1, by have := (hno l hld).2; show _ < 256; omega, by show _ < 256; omega, fun hK hb => isb_facts h2 hK hb⟩
theorem plc_len (K : Int) (d r : Nat) (hd : d < 7) (hr : r < 2 ^ d) : (plc K d (2 ^ d + r)).length ≤ 64 := by
  have hl := leaf_lv hd hr
  have h := plf_len K d (2 ^ d + r) (by omega) (List.range (lv (2 ^ d + r) + 1))
  unfold plc
  rw [List.length_range, hl] at h
  rw [hl]
  omega
/-- The cells of a secret. -/
abbrev sc4 (r : Int) (v : Value) : Array Value := #[.int .i64 r, v, .int .u64 0, .int .u64 0]
theorem sizeSec : (Try.prog.info? 63).map (·.size) = some 4 := by kernel_rfl
theorem infoLabs : (Try.prog.info? 70).map (fun i => (i.zero, i.size, i.bytes)) = some (some (.agg lz18), 18, 32) := infoLab
/-- What stands behind 'c.Labels = append(c.Labels, ..)' where c lies in a block. -/
theorem app_sec {W w1 : World} {N sb n m : Nat} {r : Int} {v v2 : Value} {xs ys : List Value} (hv : Blk W sb (sc4 r v) 63) (hrow : W.ownsRow N 70 18 v n xs) (hg : W.grownBy w1 v.ownBlock)
    (ho : w1.ownsRow N 70 18 v2 m ys) (hN : N ≤ W.heap.size) (hlb : N ≤ sb) :
    Blk (w1.setCell ⟨sb, 1, none⟩ v2) sb (sc4 r v2) 63 ∧ (w1.setCell ⟨sb, 1, none⟩ v2).ownsRow N 70 18 v2 m ys ∧ Below N W (w1.setCell ⟨sb, 1, none⟩ v2) ∧
      (∀ b cs t, b ≠ sb → 70 ≠ t → Blk W b cs t → Blk (w1.setCell ⟨sb, 1, none⟩ v2) b cs t) := by
  have hv1 : Blk w1 sb (sc4 r v) 63 := hv.grown hg (hv.apart hrow (by decide))
  refine ⟨?_, ownsRow_setCell_other ho (Ne.symm (hv1.apart ho (by decide))) _, ((Below.refl N W).grown hg hN (fun b hb => own_block hrow hb.symm)).setCell (p := ⟨sb, 1, none⟩) hlb _, fun b cs t h1 h2 h3 => (h3.grown hg (h3.apart hrow h2)).other (fun e => h1 e.symm) _⟩
  have h := Blk.set1 hv1 1 v2
  exact h
/-- The error of Secret. -/
def secc (K D E : Int) (P Q G : Nat) (u : Int) : Int := if scb K D E P Q G then (if isr D u then 0 else 2) else 30
end Go.Proofs.Ytnbkoffhplknbaa
