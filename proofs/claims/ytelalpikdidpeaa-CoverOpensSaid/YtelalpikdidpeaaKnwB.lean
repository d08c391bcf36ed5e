/-
  Knows: the members of a list, searched by the program.
-/
import Derived.Test.YtelalpikdidpeaaJH
import Derived.Test.YtelalpikdidpeaaJB
namespace Go.Proofs.Ytelalpikdidpeaa
open Go.RowKit TR L2 L2.SP
set_option linter.unusedVariables false
set_option linter.unusedSimpArgs false

/-- Whether the receiver u is a member of (v, x). -/
def mbr (d v x u : Nat) : Bool := abv v (2 ^ d + u) && !(abv x (2 ^ d + u))
theorem y_lt {d r : Nat} (hd : d < 7) (hr : r < 2 ^ d) : 1 ≤ 2 ^ d + r ∧ 2 ^ d + r < 128 := by
  have h2d : 2 ^ d ≤ 64 := by rcases (by omega : d = 0 ∨ d = 1 ∨ d = 2 ∨ d = 3 ∨ d = 4 ∨ d = 5 ∨ d = 6) with rfl | rfl | rfl | rfl | rfl | rfl | rfl <;> decide
  have h2p : 1 ≤ 2 ^ d := Nat.one_le_two_pow
  omega

set_option maxRecDepth 100000 in
set_option maxHeartbeats 400000 in
theorem isMember_any (K E : Int) (d r P Q G v x : Nat) (w : World) (hd : d < 7) (hr : r < 2 ^ d) (hv : v < 128) (hx : x < 128) :
    Calls Try.prog 54 #[.agg #[.int .u8 K, .int .i64 (d : Int), .int .i64 E, .int .u64 (P : Int), .int .u64 (Q : Int), .int .u64 (G : Int)], .int .i64 (r : Int), .agg #[.int .i64 (v : Int), .int .i64 (x : Int)]] w fun e w' => e = .returned (.bool (mbr d v x r)) ∧ Below w.heap.size w w' := by
  obtain ⟨N, hN⟩ : ∃ N, N = w.heap.size := ⟨_, rfl⟩
  obtain ⟨W2, hW2⟩ : ∃ W2, W2 = (w.alloc (.cells #[.int .u8 K, .int .i64 (d : Int), .int .i64 E, .int .u64 (P : Int), .int .u64 (Q : Int), .int .u64 (G : Int)] 28)).alloc (.cells #[.int .i64 (v : Int), .int .i64 (x : Int)] 35) := ⟨_, rfl⟩
  have s2 : W2.heap.size = N + 2 := by rw [hW2, hN]; simp
  have b2 : Below N w W2 := by rw [hW2, hN]; exact (below_alloc _ _).trans ((below_alloc _ _).mono (by simp))
  have e1 : Blk W2 N #[.int .u8 K, .int .i64 (d : Int), .int .i64 E, .int .u64 (P : Int), .int .u64 (Q : Int), .int .u64 (G : Int)] 28 := by rw [hW2, hN]; exact (Blk.new w _ _).keep (below_alloc _ _)
  have e2 : Blk W2 (N + 1) #[.int .i64 (v : Int), .int .i64 (x : Int)] 35 := by
    have h := Blk.new (w.alloc (.cells #[.int .u8 K, .int .i64 (d : Int), .int .i64 E, .int .u64 (P : Int), .int .u64 (Q : Int), .int .u64 (G : Int)] 28)) #[.int .i64 (v : Int), .int .i64 (x : Int)] 35
    rw [World.size_alloc, ← hN] at h; rw [hW2]; exact h
  have HE : Hid (W2.heap.size = N + 2 ∧ Below N w W2 ∧ Blk W2 (N + 1) #[.int .i64 (v : Int), .int .i64 (x : Int)] 35) := Lib.hid ⟨s2, b2, e2⟩
  have HLf := Lib.hid (fun w => leaf_any K E d r P Q G w hd (by have := y_lt hd hr; omega))
  have hy := y_lt hd hr
  have HV := Lib.hid (fun w => isAbove_any v (2 ^ d + r) w (by omega) hy.1 (by omega))
  have HXx := Lib.hid (fun w => isAbove_any x (2 ^ d + r) w (by omega) hy.1 (by omega))
  have HM : Hid (mbr d v x r = (abv v (2 ^ d + r) && !(abv x (2 ^ d + r)))) := Lib.hid rfl
  obtain ⟨m1, hm1⟩ : ∃ m1, m1 = abv v (2 ^ d + r) := ⟨_, rfl⟩
  obtain ⟨m2, hm2⟩ : ∃ m2, m2 = abv x (2 ^ d + r) := ⟨_, rfl⟩
  obtain ⟨y, hy1⟩ : ∃ y, y = 2 ^ d + r := ⟨_, rfl⟩
  rw [← hm1] at HV HM
  rw [← hm2] at HXx HM
  rw [← hy1] at HV HXx HLf
  have HN := Lib.hid hN
  have HW := Lib.hid hW2
  rw [← hN]
  have c0 : W2.cell? ⟨N, 0, none⟩ = some (.int .u8 K) := (e1).cell 0
  have c1 : W2.cell? ⟨N, 1, none⟩ = some (.int .i64 (d : Int)) := (e1).cell 1
  have c2 : W2.cell? ⟨N, 2, none⟩ = some (.int .i64 E) := (e1).cell 2
  have c3 : W2.cell? ⟨N, 3, none⟩ = some (.int .u64 (P : Int)) := (e1).cell 3
  have c4 : W2.cell? ⟨N, 4, none⟩ = some (.int .u64 (Q : Int)) := (e1).cell 4
  have c5 : W2.cell? ⟨N, 5, none⟩ = some (.int .u64 (G : Int)) := (e1).cell 5
  have z0 : W2.cell? ⟨N + 1, 0, none⟩ = some (.int .i64 (v : Int)) := (e2).cell 0
  have z1 : W2.cell? ⟨N + 1, 1, none⟩ = some (.int .i64 (x : Int)) := (e2).cell 1
  rw [hW2, hN] at c0 c1 c2 c3 c4 c5 z0 z1
  clear hN hW2 s2 b2 e1 e2 hd hr hv hx hy hm1 hm2 hy1
  go_enter Try.func54, Try.ntmps54
  go_wp2_with fail
  rw [← HW.out, ← HN.out]
  refine (HLf.out _).mono ?_
  rintro e w3 ⟨rfl, hb3⟩
  have HB3 := Lib.hid hb3
  clear hb3 c0 c1 c2 c3 c4 c5 z0 z1
  have H3 : Hid (Below N w w3) := Lib.hid (HE.out.2.1.trans (HB3.out.mono (by rw [HE.out.1]; omega)))
  have z0 : w3.cell? ⟨N + 1, 0, none⟩ = some (.int .i64 (v : Int)) := (HE.out.2.2.keep HB3.out).cell 0
  have z1 : w3.cell? ⟨N + 1, 1, none⟩ = some (.int .i64 (x : Int)) := (HE.out.2.2.keep HB3.out).cell 1
  rcases m1 with _ | _
  · go_wp2_with fail
    refine (HV.out _).mono ?_
    rintro e w4 ⟨rfl, rfl⟩
    go_wp2_with fail
    go_ret
    exact ⟨by rw [HM.out]; rfl, H3.out⟩
  · go_wp2_with fail
    refine (HV.out _).mono ?_
    rintro e w4 ⟨rfl, rfl⟩
    go_wp2_with fail
    refine (HXx.out _).mono ?_
    rintro e w4 ⟨rfl, rfl⟩
    go_wp2_with fail
    go_ret
    exact ⟨by rw [HM.out]; simp, H3.out⟩

/-- What stands where a search over a list has its scheme and its subset. -/
structure KEnv (w : World) (p q : Nat) (K E : Int) (d P Q G v x : Nat) : Prop where
  sch : Blk w p #[.int .u8 K, .int .i64 (d : Int), .int .i64 E, .int .u64 (P : Int), .int .u64 (Q : Int), .int .u64 (G : Int)] 28
  sub : Blk w q #[.int .i64 (v : Int), .int .i64 (x : Int)] 35
theorem KEnv.keep {w w' : World} {p q : Nat} {K E : Int} {d P Q G v x : Nat} (h : KEnv w p q K E d P Q G v x) (hb : Below w.heap.size w w') : KEnv w' p q K E d P Q G v x := ⟨h.sch.keep hb, h.sub.keep hb⟩

set_option maxRecDepth 100000 in
set_option maxHeartbeats 400000 in
theorem closure_any (K E : Int) (d r P Q G v x p q : Nat) (w : World) (hd : d < 7) (hr : r < 2 ^ d) (hv : v < 128) (hx : x < 128) (hk : KEnv w p q K E d P Q G v x) :
    Calls Try.prog 53 #[.int .i64 (r : Int), .pointer (some ⟨p, 0, none⟩), .pointer (some ⟨q, 0, none⟩)] w fun e w' => e = .returned (.bool (mbr d v x r)) ∧ Below w.heap.size w w' := by
  have HM := Lib.hid (fun w => isMember_any K E d r P Q G v x w hd hr hv hx)
  have c0 : w.cell? ⟨p, 0, none⟩ = some (.int .u8 K) := hk.sch.cell 0
  have c1 : w.cell? ⟨p, 1, none⟩ = some (.int .i64 (d : Int)) := hk.sch.cell 1
  have c2 : w.cell? ⟨p, 2, none⟩ = some (.int .i64 E) := hk.sch.cell 2
  have c3 : w.cell? ⟨p, 3, none⟩ = some (.int .u64 (P : Int)) := hk.sch.cell 3
  have c4 : w.cell? ⟨p, 4, none⟩ = some (.int .u64 (Q : Int)) := hk.sch.cell 4
  have c5 : w.cell? ⟨p, 5, none⟩ = some (.int .u64 (G : Int)) := hk.sch.cell 5
  have z0 : w.cell? ⟨q, 0, none⟩ = some (.int .i64 (v : Int)) := hk.sub.cell 0
  have z1 : w.cell? ⟨q, 1, none⟩ = some (.int .i64 (x : Int)) := hk.sub.cell 1
  clear hd hr hv hx hk
  go_enter Try.func53, Try.ntmps53
  go_wp2_with fail
  refine (HM.out _).mono ?_
  rintro e w3 ⟨rfl, hb3⟩
  have HB3 := Lib.hid hb3
  clear hb3 c0 c1 c2 c3 c4 c5 z0 z1
  go_wp2_with fail
  go_ret
  exact ⟨rfl, HB3.out⟩

/-- The first member in a list, or -1. -/
def FirstM (d v x n : Nat) (f : Nat → Nat) (k : Int) : Prop := (k = -1 ∧ ∀ j, j < n → mbr d v x (f j) = false) ∨ ∃ m : Nat, k = (m : Int) ∧ m < n ∧ mbr d v x (f m) = true

set_option maxRecDepth 100000 in
set_option maxHeartbeats 400000 in
theorem indexM_any (K E : Int) (d P Q G v x p q b off n c : Nat) (A : Option Addr) (f : Nat → Nat) (w : World) (hd : d < 7) (hv : v < 128) (hx : x < 128) (hk : KEnv w p q K E d P Q G v x) (hn : n ≤ c) (hc : c ≤ maxLen) (had : n = 0 ∨ A = some ⟨b, off, none⟩)
    (hcl : ∀ i, i < n → w.cell? ⟨b, off + i, none⟩ = some (.int .i64 (f i : Int)) ∧ f i < 2 ^ d) :
    Calls Try.prog 100 #[.slice A n c, .func (.func 53) #[] #[.pointer (some ⟨p, 0, none⟩), .pointer (some ⟨q, 0, none⟩)]] w fun e w' => (∃ k, e = .returned (.int .i64 k) ∧ FirstM d v x n f k) ∧ Below w.heap.size w w' := by
  have HCl := Lib.hid (fun (r : Nat) (w' : World) (hr : r < 2 ^ d) (hb : Below w.heap.size w w') => closure_any K E d r P Q G v x p q w' hd hr hv hx (hk.keep hb))
  have HC : Hid (∀ w', Below w.heap.size w w' → ∀ i, i < n → w'.cell? ⟨b, off + i, none⟩ = some (.int .i64 (f i : Int))) := Lib.hid (fun w' h i hi => (h.cell (p := ⟨b, off + i, none⟩) (World.block_lt_of_cell? w _ (hcl i hi).1)).trans (hcl i hi).1)
  have HFl : Hid (∀ i, i < n → f i < 2 ^ d) := Lib.hid (fun i hi => (hcl i hi).2)
  have hm : n ≤ 9223372036854775807 := by unfold maxLen at hc; omega
  have HAD := Lib.hid had
  clear hcl hd hv hx hk had hc
  go_enter Try.func100, Try.ntmps100
  go_wp2_with fail
  go_loopw [8] (fun i wr => ∃ (k : Nat), k ≤ n ∧ i = .int .i64 (k : Int) ∧ Hid (Below w.heap.size w wr) ∧ Hid (∀ j, j < k → mbr d v x (f j) = false)) (fun i _ => n - (intOf i).toNat)
  case atStart => exact ⟨0, by omega, rfl, Lib.hid (Below.refl _ _), Lib.hid (fun j h => by omega)⟩
  case round =>
    obtain ⟨k, hk, rfl, HB, HP⟩ := hrel
    by_cases hlt : k < n
    · rcases HAD.out with h0 | rfl
      · omega
      have l1 : (0 : Int) ≤ (k : Int) := by omega
      have l2 : (k : Int) < (n : Int) := by omega
      have g1 := HC.out wr HB.out k hlt
      have HCk := Lib.hid (HCl.out (f k) wr (HFl.out k hlt) HB.out)
      have HS : Hid (∀ q, q = mbr d v x (f k) → (q = true → FirstM d v x n f (k : Int)) ∧ (q = false → ∀ j, j < k + 1 → mbr d v x (f j) = false)) := Lib.hid (fun q hq => ⟨fun h => .inr ⟨k, rfl, hlt, by rw [← hq]; exact h⟩, fun h j hj => by
        by_cases e : j = k
        · rw [e, ← hq]; exact h
        · exact HP.out j (by omega)⟩)
      generalize f k = y at g1 HCk HS
      generalize mbr d v x y = z at HCk HS
      clear hk
      go_wp2_with fail
      refine HCk.out.mono ?_
      rintro e w2 ⟨rfl, hb2⟩
      have HB2 := Lib.hid (HB.out.trans (hb2.mono HB.out.size))
      have hs := HS.out z rfl
      have HS2 := Lib.hid hs
      clear hs HS HCk hb2 g1
      rcases z with _ | _
      · have HP2 := Lib.hid (HS2.out.2 rfl)
        go_wp2_with fail
        go_roundw
        case rel => exact ⟨k + 1, by omega, by go_num, HB2, HP2⟩
        case measure => simp [intOf]; omega
      · have HF := Lib.hid (HS2.out.1 rfl)
        go_wp2_with fail
        go_ret
        exact ⟨⟨_, rfl, HF.out⟩, HB2.out⟩
    · obtain rfl : n = k := by omega
      have HF : Hid (FirstM d v x n f (-1)) := Lib.hid (.inl ⟨rfl, HP.out⟩)
      go_wp2_with fail
      go_ret
      exact ⟨⟨_, rfl, HF.out⟩, HB.out⟩

set_option maxRecDepth 100000 in
set_option maxHeartbeats 400000 in
theorem containsM_any (K E : Int) (d P Q G v x p q b off n c : Nat) (A : Option Addr) (f : Nat → Nat) (w : World) (hd : d < 7) (hv : v < 128) (hx : x < 128) (hk : KEnv w p q K E d P Q G v x) (hn : n ≤ c) (hc : c ≤ maxLen) (had : n = 0 ∨ A = some ⟨b, off, none⟩)
    (hcl : ∀ i, i < n → w.cell? ⟨b, off + i, none⟩ = some (.int .i64 (f i : Int)) ∧ f i < 2 ^ d) :
    Calls Try.prog 52 #[.slice A n c, .func (.func 53) #[] #[.pointer (some ⟨p, 0, none⟩), .pointer (some ⟨q, 0, none⟩)]] w fun e w' => (∃ z, e = .returned (.bool z) ∧ (z = true ↔ ∃ i, i < n ∧ mbr d v x (f i) = true)) ∧ Below w.heap.size w w' := by
  have HI := Lib.hid (indexM_any K E d P Q G v x p q b off n c A f w hd hv hx hk hn hc had hcl)
  clear hd hv hx hk hn hc had hcl
  go_enter Try.func52, Try.ntmps52
  go_wp2_with fail
  refine (HI.out).mono ?_
  rintro e w2 ⟨⟨k, rfl, hk⟩, hb2⟩
  have HB2 := Lib.hid hb2
  clear hb2
  rcases hk with ⟨rfl, hno⟩ | ⟨m, rfl, hm1, hm2⟩
  · have HF : Hid (false = true ↔ ∃ i, i < n ∧ mbr d v x (f i) = true) := Lib.hid ⟨fun h => by (cases h), fun ⟨i, hi, h⟩ => by rw [hno i hi] at h; cases h⟩
    clear hno
    go_wp2_with fail
    go_ret
    exact ⟨⟨false, rfl, HF.out⟩, HB2.out⟩
  · have HF : Hid (true = true ↔ ∃ i, i < n ∧ mbr d v x (f i) = true) := Lib.hid ⟨fun _ => ⟨m, hm1, hm2⟩, fun _ => rfl⟩
    have hm0 : (0 : Int) ≤ (m : Int) := by omega
    clear hm1 hm2
    go_wp2_with fail
    go_ret
    exact ⟨⟨true, rfl, by simpa using HF.out⟩, HB2.out⟩
end Go.Proofs.Ytelalpikdidpeaa
