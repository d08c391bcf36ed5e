/-
  P3.8 in plain arithmetic: some label of a receiver leads to the key of a subset exactly if the receiver is a member.
-/
import Derived.Test.YtchkgccnipejhaaJF
namespace Go.Proofs.Ytchkgccnipejhaa
open TR
set_option linter.unusedVariables false
set_option linter.unusedSimpArgs false

theorem chk_on : ((List.range 128).all fun y => (List.range 128).all fun v => y == 0 || v == 0 || ((List.range (lv y + 1)).any fun l => nat_ y l == v) == abv v y) = true := by decide +kernel
theorem on_path {y v : Nat} (hy : y < 128) (hv : v < 128) (h1 : 1 ≤ y) (h2 : 1 ≤ v) : (∃ l, l < lv y + 1 ∧ nat_ y l = v) ↔ abv v y = true := by
  have h := chk_on
  simp only [List.all_eq_true, List.mem_range] at h
  have h3 := h y hy v hv
  have h4 : ((List.range (lv y + 1)).any fun l => nat_ y l == v) = abv v y := by simpa [show v ≠ 0 by omega, show y ≠ 0 by omega] using h3
  rw [← h4, List.any_eq_true]
  simp
/-- One label beside the path leads, exactly if the leaf is not below x. -/
def sid (K : Int) (d y l x : Nat) : Bool := (List.range (d - l)).any fun k => isb K d (nat_ y l : Nat) ((nat_ y (l + 1 + k) ^^^ 1 : Nat) : Int) && (abv (nat_ y l) (nat_ y (l + 1 + k) ^^^ 1) && abv (nat_ y (l + 1 + k) ^^^ 1) x)
theorem chk_sid2 : ((List.range 7).all fun d => (List.range (2 ^ d)).all fun r => (List.range (d + 1)).all fun l => (List.range (2 ^ (d + 1))).all fun x => x == 0 || x == nat_ (2 ^ d + r) l || !(abv (nat_ (2 ^ d + r) l) x) || sid 2 d (2 ^ d + r) l x == !(abv x (2 ^ d + r))) = true := by decide +kernel
theorem chk_sid3 : ((List.range 7).all fun d => (List.range (2 ^ d)).all fun r => (List.range (d + 1)).all fun l => (List.range (2 ^ (d + 1))).all fun x => x == 0 || x == nat_ (2 ^ d + r) l || !(abv (nat_ (2 ^ d + r) l) x) || !(isb 3 d (nat_ (2 ^ d + r) l : Nat) (x : Int)) || sid 3 d (2 ^ d + r) l x == !(abv x (2 ^ d + r))) = true := by decide +kernel
theorem chk_nat1 : ((List.range 7).all fun d => (List.range (2 ^ d)).all fun r => (List.range (d + 1)).all fun l => decide (1 ≤ nat_ (2 ^ d + r) l ∧ nat_ (2 ^ d + r) l < 128 ∧ lv (nat_ (2 ^ d + r) l) = l)) = true := by decide +kernel
theorem nat1 {d r l : Nat} (hd : d < 7) (hr : r < 2 ^ d) (hl : l ≤ d) : 1 ≤ nat_ (2 ^ d + r) l ∧ nat_ (2 ^ d + r) l < 128 ∧ lv (nat_ (2 ^ d + r) l) = l := by
  have h := chk_nat1
  simp only [List.all_eq_true, List.mem_range] at h
  simpa using h d hd r hr l (by omega)
theorem sid_eq {K : Int} {d r l x : Nat} (hK : K = 2 ∨ K = 3) (hd : d < 7) (hr : r < 2 ^ d) (hl : l ≤ d) (hx : x < 2 ^ (d + 1)) (hx0 : x ≠ 0) (h : isb K d (nat_ (2 ^ d + r) l : Nat) (x : Int) = true) : sid K d (2 ^ d + r) l x = !(abv x (2 ^ d + r)) := by
  have hb := h
  unfold isb at hb
  simp only [Bool.and_eq_true, Int.toNat_natCast] at hb
  have hK1 : K ≠ 1 := by omega
  rw [if_neg hK1, if_neg (show ¬ ((x : Int) = 0) by omega)] at hb
  simp only [Bool.and_eq_true, Bool.not_eq_true', decide_eq_false_iff_not] at hb
  obtain ⟨_, _, hne, hab, _⟩ := hb
  have hne2 : x ≠ nat_ (2 ^ d + r) l := by omega
  rcases hK with rfl | rfl
  · have h1 := chk_sid2
    simp only [List.all_eq_true, List.mem_range] at h1
    simpa [hx0, hne2, hab] using h1 d hd r hr l (by omega) x hx
  · have h1 := chk_sid3
    simp only [List.all_eq_true, List.mem_range] at h1
    simpa [hx0, hne2, hab, h] using h1 d hd r hr l (by omega) x hx
/-- P3.8: some label of a receiver leads to the key of a subset exactly if the receiver is a member. -/
theorem lds_some {K : Int} {d r v x : Nat} (hK : K = 1 ∨ K = 2 ∨ K = 3) (hd : d < 7) (hr : r < 2 ^ d) (hv1 : 1 ≤ v) (hv : v < 128) (hx : x < 2 ^ (d + 1)) (h : isb K d (v : Int) (x : Int) = true) :
    (∃ p ∈ plc K d (2 ^ d + r), ldb d (p.1 : Int) (p.2 : Int) v x = true) ↔ (abv v (2 ^ d + r) && !(abv x (2 ^ d + r))) = true := by
  have hlv := leaf_lv hd hr
  have h2d : 2 ^ d ≤ 64 := by rcases (by omega : d = 0 ∨ d = 1 ∨ d = 2 ∨ d = 3 ∨ d = 4 ∨ d = 5 ∨ d = 6) with rfl | rfl | rfl | rfl | rfl | rfl | rfl <;> decide
  have h2p : 1 ≤ 2 ^ d := Nat.one_le_two_pow
  have hon := on_path (y := 2 ^ d + r) (v := v) (by omega) hv (by omega) hv1
  rw [hlv] at hon
  have hax0 : abv 0 (2 ^ d + r) = false := by unfold abv; simp
  by_cases hK1 : K = 1
  · subst hK1
    have hx0 : x = 0 := by
      unfold isb at h
      simp only [Bool.and_eq_true, if_true, decide_eq_true_eq] at h
      omega
    subst hx0
    rw [hax0]
    simp only [Bool.not_false, Bool.and_true]
    rw [← hon]
    unfold plc plf pre0
    simp only [if_true, List.nil_append, List.mem_flatMap, List.mem_range, hlv]
    constructor
    · rintro ⟨p, ⟨l, hl, hp⟩, hq⟩
      unfold rowl at hp
      simp only [if_true, List.mem_singleton] at hp
      subst hp
      unfold ldb at hq
      simp at hq
      exact ⟨l, hl, by omega⟩
    · rintro ⟨l, hl, he⟩
      refine ⟨(nat_ (2 ^ d + r) l, 0), ⟨l, hl, by unfold rowl; simp⟩, ?_⟩
      unfold ldb; simp [he]
  · by_cases hx0 : x = 0
    · subst hx0
      have hv1' : v = 1 := by
        unfold isb at h
        simp only [Bool.and_eq_true] at h
        rw [if_neg hK1, if_pos (by rfl)] at h
        have := of_decide_eq_true h.2
        omega
      subst hv1'
      rw [hax0]
      have h1 : abv 1 (2 ^ d + r) = true := hon.1 ⟨0, by omega, by unfold nat_; rw [hlv]; have := Nat.shiftRight_eq_div_pow (2 ^ d + r) d; rw [Nat.sub_zero, this]; rw [Nat.div_eq_iff (by omega)]; omega⟩
      rw [h1]
      simp only [Bool.not_false, Bool.and_true, iff_true]
      refine ⟨(1, 0), ?_, by unfold ldb; simp⟩
      unfold plc plf pre0
      simp [hK1]
    · have hK23 : K = 2 ∨ K = 3 := hK.resolve_left hK1
      rw [Bool.and_eq_true, ← hon]
      constructor
      · rintro ⟨p, hp, hq⟩
        unfold plc plf pre0 at hp
        rw [if_neg hK1, List.mem_append] at hp
        have hq0 := hq
        unfold ldb at hq
        rw [if_neg hx0] at hq
        simp only [Bool.and_eq_true, decide_eq_true_eq, Int.toNat_natCast] at hq
        rcases hp with hp | hp
        · rw [List.mem_singleton] at hp
          subst hp
          have h2 := hq.2.1
          unfold hsn at h2
          simp at h2
        · rw [List.mem_flatMap] at hp
          obtain ⟨l, hl, hp⟩ := hp
          rw [List.mem_range, hlv] at hl
          unfold rowl rin at hp
          rw [if_neg hK1, List.mem_filter, List.mem_map] at hp
          obtain ⟨⟨i, hi, rfl⟩, hb⟩ := hp
          rw [List.mem_range, hlv] at hi
          have hvl : nat_ (2 ^ d + r) l = v := Int.ofNat.inj hq.1
          refine ⟨⟨l, hl, hvl⟩, ?_⟩
          subst hvl
          rw [← sid_eq hK23 hd hr (by omega) hx hx0 h]
          unfold sid
          rw [List.any_eq_true]
          refine ⟨i, List.mem_range.2 hi, ?_⟩
          simp only [Bool.and_eq_true]
          exact ⟨hb, hq.2.2⟩
      · rintro ⟨⟨l, hl, rfl⟩, hn⟩
        rw [← sid_eq hK23 hd hr (by omega) hx hx0 h] at hn
        unfold sid at hn
        rw [List.any_eq_true] at hn
        obtain ⟨i, hi, hb⟩ := hn
        rw [List.mem_range] at hi
        simp only [Bool.and_eq_true] at hb
        obtain ⟨hb, h3, h4⟩ := hb
        refine ⟨(nat_ (2 ^ d + r) l, nat_ (2 ^ d + r) (l + 1 + i) ^^^ 1), ?_, ?_⟩
        · unfold plc plf
          rw [List.mem_append]
          right
          rw [List.mem_flatMap]
          refine ⟨l, by rw [List.mem_range, hlv]; exact hl, ?_⟩
          unfold rowl rin
          rw [if_neg hK1, List.mem_filter, List.mem_map]
          exact ⟨⟨i, by rw [List.mem_range, hlv]; exact hi, rfl⟩, hb⟩
        · unfold ldb
          rw [if_neg hx0]
          simp only [Bool.and_eq_true, decide_eq_true_eq, Int.toNat_natCast]
          refine ⟨trivial, ?_, h3, h4⟩
          unfold isb at hb
          simp only [Bool.and_eq_true] at hb
          rw [if_neg hK1] at hb
          have hb2 := hb.2
          split at hb2
          · rename_i hz; have := of_decide_eq_true hb2; unfold abv at h4; rw [show (nat_ (2 ^ d + r) (l + 1 + i) ^^^ 1) = 0 by omega] at h4; simp at h4
          · simp only [Bool.and_eq_true] at hb2; exact hb2.1
end Go.Proofs.Ytchkgccnipejhaa
