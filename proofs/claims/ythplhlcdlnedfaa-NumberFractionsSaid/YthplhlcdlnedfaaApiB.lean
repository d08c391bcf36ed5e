/-
  The functions that the document lists, part B: commonDivisor.
-/
import Derived.Test.YthplhlcdlnedfaaApiA
import Derived.Deep.LoopGhost
namespace Go.Proofs.Ythplhlcdlnedfaa
open Go.RowKit MN

theorem own_keep {base : Nat} {e : TypeId} {size n : Nat} {v : Value} {xs : List Value} {wr w' : World} (h : wr.ownsRow base e size v n xs) (hb : Below wr.heap.size wr w') : w'.ownsRow base e size v n xs := by
  refine ⟨h.1, ?_⟩
  rcases h.2 with k | ⟨g, cap, cur, hv, hbg, hh, r⟩
  · exact .inl k
  · refine .inr ⟨g, cap, cur, hv, hbg, ?_, r⟩
    have hlt := (h.lt g (by rw [hv]; rfl)).2
    rw [hb.block g hlt]; exact hh

theorem Rd.nil (k : IntKind) (w : World) : Rd k w none 0 0 [] := ⟨rfl, Nat.le_refl _, by simp [maxLen], fun h => by omega⟩

theorem digs_len {B : Nat} (hB : 2 ≤ B) (V n : Nat) (h : V < B ^ n) : (digs B V).length ≤ n := by
  rcases Nat.lt_or_ge n (digs B V).length with h1 | h1
  · exfalso
    have h2 := val_ge (B := B) (digs B V) (digs_top B V hB) (by intro e; rw [e] at h1; simp at h1)
    rw [digs_val B V hB] at h2
    have h3 : B ^ n ≤ B ^ ((digs B V).length - 1) := Nat.pow_le_pow_right (by omega) (by omega)
    omega
  · exact h1

theorem digs_zero (B : Nat) : digs B 0 = [] := rfl
theorem digs_pos {B V : Nat} (hB : 2 ≤ B) (h : 0 < V) : digs B V ≠ [] := by
  intro e
  have := digs_val B V hB
  rw [e] at this
  simp [val] at this; omega

/-- A number that the call owns: its length and what it reads as. -/
theorem own_num {base : Nat} {w : World} {A : Option Addr} {n c V : Nat} (h : w.ownsRow base 24 1 (.slice A n c) n (vs32 (digs 4294967296 V))) :
    Arg w A n c (digs 4294967296 V) ∧ (digs 4294967296 V).length = n :=
  ⟨⟨Rd.of_own h, digs_low _ _ (by omega)⟩, (Rd.of_own h).len⟩

set_option maxRecDepth 100000 in
set_option maxHeartbeats 2000000 in
theorem common_any (A1 A2 : Option Addr) (n1 c1 n2 c2 : Nat) (ys zs : List Nat) (w : World) (ha : Arg w A1 n1 c1 ys) (hb : Arg w A2 n2 c2 zs) (hn1 : n1 ≤ 900) (hn2 : n2 ≤ 900) :
    Calls Try.prog 76 #[.slice A1 n1 c1, .slice A2 n2 c2] w (New w (Nat.gcd (val 4294967296 ys) (val 4294967296 zs))) := by
  obtain ⟨K, hK, hK1, hK2⟩ : ∃ K, K ≤ 900 ∧ n1 ≤ K ∧ n2 ≤ K := ⟨900, by omega, hn1, hn2⟩
  have ha1 : val 4294967296 ys < 4294967296 ^ K := by
    have := val_lt ys ha.low
    rw [ha.rd.len] at this
    exact Nat.lt_of_lt_of_le this (Nat.pow_le_pow_right (by omega) hK1)
  have hb1 : val 4294967296 zs < 4294967296 ^ K := by
    have := val_lt zs hb.low
    rw [hb.rd.len] at this
    exact Nat.lt_of_lt_of_le this (Nat.pow_le_pow_right (by omega) hK2)
  have HA1 := Lib.hid ha1
  have HB1 := Lib.hid hb1
  have HA := Lib.hid ha
  have HB := Lib.hid hb
  clear ha1 hb1 ha hb
  go_enter Try.func76, Try.ntmps76
  go_wp2_with fail
  refine (sum_any _ none _ _ 0 0 ys [] w HA.out.rd (Rd.nil _ _) HA.out.low (low_nil _) (by omega) (by omega)).mono ?_
  rintro e w1 ⟨B1, m1, d1, rfl, hown1, hbw1⟩
  rw [val_nil, Nat.add_zero] at hown1
  go_wp2_with fail
  refine (sum_any _ none _ _ 0 0 zs [] w1 (HB.out.keep hbw1).rd (Rd.nil _ _) HB.out.low (low_nil _) (by omega) (by omega)).mono ?_
  rintro e w2 ⟨B2, m2, d2, rfl, hown2, hbw2⟩
  rw [val_nil, Nat.add_zero] at hown2
  have ho1 := own_keep hown1 hbw2
  have ho2 := own_low hown2 hbw1.size
  have hbw := hbw1.trans (hbw2.mono hbw1.size)
  obtain ⟨N0, hN0⟩ : ∃ x, x = val 4294967296 ys := ⟨_, rfl⟩
  obtain ⟨M0, hM0⟩ : ∃ x, x = val 4294967296 zs := ⟨_, rfl⟩
  rw [← hN0] at ho1 HA1
  rw [← hM0] at ho2 HB1
  have HG : Hid (Nat.gcd (val 4294967296 ys) (val 4294967296 zs) = Nat.gcd N0 M0) := Lib.hid (by rw [hN0, hM0])
  clear hN0 hM0 hown1 hown2 hbw1 hbw2
  go_wp2_with fail
  go_loopg [0, 1] M0 (fun k v0 v1 wr => ∃ (N : Nat) (A : Option Addr) (n c : Nat) (A' : Option Addr) (m c' : Nat), v0 = .slice A n c ∧ v1 = .slice A' m c' ∧ wr.ownsRow w.heap.size 24 1 (.slice A n c) n (vs32 (digs 4294967296 N)) ∧
      wr.ownsRow w.heap.size 24 1 (.slice A' m c') m (vs32 (digs 4294967296 k)) ∧ Below w.heap.size w wr ∧ w.heap.size ≤ wr.heap.size ∧ Hid (Nat.gcd N k = Nat.gcd N0 M0) ∧ Hid (N < 4294967296 ^ K) ∧ Hid (k < 4294967296 ^ K))
  case atStart => exact ⟨N0, _, _, _, _, _, _, rfl, rfl, ho1, ho2, hbw, hbw.size, Lib.hid rfl, HA1, HB1⟩
  case round =>
    obtain ⟨N, A, n, c, A', m, c', rfl, rfl, hoN, hoM, hbr, hsz, HGr, HN, HM⟩ := hrel
    obtain ⟨hAM, hlM⟩ := own_num hoM
    rcases Nat.eq_zero_or_pos gk with rfl | hpos
    · have hm0 : m = 0 := by rw [← hlM]; rfl
      subst hm0
      have HE : Hid (Nat.gcd N0 M0 = N) := Lib.hid (by rw [← HGr.out, Nat.gcd_zero_right])
      clear HGr HN HM
      go_wp2
      go_ret
      refine ⟨A, n, c, rfl, ?_, hbr⟩
      rw [HG.out, HE.out]; exact hoN
    · obtain ⟨hAN, hlN⟩ := own_num hoN
      have hnK : n ≤ K := by rw [← hlN]; exact digs_len (by omega) _ _ HN.out
      have hmK : m ≤ K := by rw [← hlM]; exact digs_len (by omega) _ _ HM.out
      have hm1 : 0 < m := by
        rw [← hlM]
        exact List.length_pos_iff.2 (digs_pos (by omega) hpos)
      obtain ⟨m', rfl⟩ : ∃ x, m = x + 1 := ⟨m - 1, by omega⟩
      have htop : dg (digs 4294967296 gk) m' ≠ 0 := by
        rcases digs_top 4294967296 gk (by omega) with h | h
        · rw [h] at hlM; simp at hlM
        · rw [hlM] at h; exact h
      have hdiv := divide_any A A' n c m' c' _ _ wr hAN.rd hAM.rd hAN.low hAM.low htop (by omega) (by omega)
      rw [digs_val _ _ (by omega), digs_val _ _ (by omega)] at hdiv
      have HDV := Lib.hid hdiv
      have HAM := Lib.hid hAM
      clear hdiv hAM hAN htop
      go_wp2_with fail
      refine HDV.out.mono ?_
      rintro e wd ⟨Q1, q1, e1, R1, r1, f1, rfl, hoQ, hoR, hbd⟩
      have ho3 := own_keep hoM hbd
      have ho4 := own_low hoR hsz
      have hb4 := hbr.trans (hbd.mono hsz)
      have hs4 := Nat.le_trans hsz hbd.size
      have HGn : Hid (Nat.gcd gk (N % gk) = Nat.gcd N0 M0) := Lib.hid (by rw [← HGr.out, Nat.gcd_comm gk, Nat.gcd_comm N]; exact (Nat.gcd_rec gk N).symm)
      have HMn : Hid (N % gk < 4294967296 ^ K) := Lib.hid (Nat.lt_of_lt_of_le (Nat.mod_lt _ hpos) (Nat.le_of_lt HM.out))
      have hmod : N % gk < gk := Nat.mod_lt _ hpos
      clear hoQ hoR hoN hoM hbr hsz HGr HN hbd HDV HAM
      go_wp2_with fail
      go_roundg (N % gk)
      case rel => exact ⟨gk, A', m' + 1, c', R1, r1, f1, rfl, rfl, ho3, ho4, hb4, hs4, HGn, HM, HMn⟩
      case measure => exact hmod
end Go.Proofs.Ythplhlcdlnedfaa
