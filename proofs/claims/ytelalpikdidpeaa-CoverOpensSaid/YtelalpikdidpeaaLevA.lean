/-
  Levels, the program's.
-/
import Derived.Test.YtelalpikdidpeaaSpeA
import Derived.Test.YtelalpikdidpeaaShe
namespace Go.Proofs.Ytelalpikdidpeaa
open Go.RowKit TR
set_option linter.unusedVariables false
set_option linter.unusedSimpArgs false

theorem chk_bit : ((List.range 256).all fun x => Lib.bitLen x == lenv x) = true := by decide +kernel
theorem bit_lenv (x : Nat) (hx : x < 256) : Lib.bitLen x = lenv x := by
  have h := chk_bit
  simp only [List.all_eq_true, List.mem_range] at h
  simpa using h x hx

set_option maxRecDepth 100000 in
set_option maxHeartbeats 400000 in
theorem level_any (v : Nat) (w : World) (h1 : 1 ≤ v) (hv : v < 256) :
    Calls Try.prog 97 #[.int .i64 (v : Int)] w fun e w' => e = .returned (.int .i64 (lv v : Int)) ∧ w = w' := by
  have HL : Hid (∀ w, Calls Try.prog 121 #[.int .u64 (v : Int)] w fun e w' => e = .returned (.int .i64 ((lv v + 1 : Nat) : Int)) ∧ w = w') := Lib.hid (fun w => by
    refine (bits_Len (v : Int) w (by omega) (by omega)).mono ?_
    rintro e w' ⟨rfl, rfl⟩
    refine ⟨?_, rfl⟩
    rw [Int.toNat_natCast, bit_lenv v hv]
    unfold lenv
    rw [if_neg (by omega)])
  have hl := lv_lt v hv
  obtain ⟨m, hm⟩ : ∃ m, m = lv v := ⟨_, rfl⟩
  rw [← hm] at HL hl ⊢
  clear hm
  go_enter Try.func97, Try.ntmps97
  go_wp2_with fail
  refine (HL.out _).mono ?_
  rintro e w' ⟨rfl, rfl⟩
  go_wp2_with fail
  go_ret
  exact ⟨ret_int (by omega), rfl⟩

set_option maxRecDepth 100000 in
set_option maxHeartbeats 400000 in
theorem at_any (v l : Nat) (w : World) (h1 : 1 ≤ v) (hv : v < 256) (hl : l ≤ lv v) :
    Calls Try.prog 130 #[.int .i64 (v : Int), .int .i64 (l : Int)] w fun e w' => e = .returned (.int .i64 (nat_ v l : Int)) ∧ w = w' := by
  have HL := Lib.hid (fun w => level_any v w h1 hv)
  have hl8 := lv_lt v hv
  have HN : Hid ((nat_ v l : Int) = ((v >>> (lv v - l) : Nat) : Int)) := Lib.hid rfl
  obtain ⟨m, hm⟩ : ∃ m, m = lv v := ⟨_, rfl⟩
  rw [← hm] at HL HN hl hl8
  clear hm
  obtain ⟨k, rfl⟩ : ∃ k, m = l + k := ⟨m - l, by omega⟩
  go_enter Try.func130, Try.ntmps130
  go_wp2_with fail
  refine (HL.out _).mono ?_
  rintro e w' ⟨rfl, rfl⟩
  go_wp2_with fail
  go_ret
  exact ⟨ret_int (by rw [HN.out, Nat.shiftRight_eq_div_pow]; simp), rfl⟩

set_option maxRecDepth 100000 in
set_option maxHeartbeats 400000 in
theorem isAbove_any (v x : Nat) (w : World) (hv : v < 256) (h1 : 1 ≤ x) (hx : x < 256) :
    Calls Try.prog 90 #[.int .i64 (v : Int), .int .i64 (x : Int)] w fun e w' => e = .returned (.bool (abv v x)) ∧ w = w' := by
  by_cases h0 : v = 0
  · have HF : Hid (abv v x = false) := Lib.hid (by rw [h0]; rfl)
    have h0i : (v : Int) = 0 := by omega
    rw [HF.out]
    clear HF h0
    go_enter Try.func90, Try.ntmps90
    go_wp2_with fail
    go_ret
    exact ⟨by first | rfl | (simp; done), rfl⟩
  · have HLv := Lib.hid (fun w => level_any v w (by omega) hv)
    have HLx := Lib.hid (fun w => level_any x w h1 hx)
    have h0i : ¬ ((v : Int) = 0) := by omega
    by_cases hle : lv v ≤ lv x
    · have HAt := Lib.hid (fun w => at_any x (lv v) w h1 hx hle)
      have HF : Hid (abv v x = decide ((nat_ x (lv v) : Int) = (v : Int))) := Lib.hid (by
        unfold abv nat_
        simp only [hle, decide_true, Bool.and_true]
        by_cases e : x >>> (lv x - lv v) = v
        · simp [e, h0]
        · have e2 : ¬ ((x >>> (lv x - lv v) : Nat) : Int) = (v : Int) := by omega
          simp only [e2, decide_false]
          simp [e])
      rw [HF.out]
      obtain ⟨a, ha⟩ : ∃ a, a = lv v := ⟨_, rfl⟩
      obtain ⟨b, hb⟩ : ∃ b, b = lv x := ⟨_, rfl⟩
      obtain ⟨y, hy⟩ : ∃ y, y = nat_ x (lv v) := ⟨_, rfl⟩
      rw [← hy] at HAt ⊢
      rw [← ha] at HLv HAt hle
      rw [← hb] at HLx hle
      clear ha hb hy HF h0
      have hle' : (a : Int) ≤ (b : Int) := by omega
      by_cases e : (y : Int) = (v : Int)
      all_goals
        go_enter Try.func90, Try.ntmps90
        go_wp2_with fail
        refine (HLv.out _).mono ?_
        rintro e1 w' ⟨rfl, rfl⟩
        go_wp2_with fail
        refine (HLx.out _).mono ?_
        rintro e1 w' ⟨rfl, rfl⟩
        go_wp2_with fail
        refine (HLv.out _).mono ?_
        rintro e1 w' ⟨rfl, rfl⟩
        go_wp2_with fail
        refine (HAt.out _).mono ?_
        rintro e1 w' ⟨rfl, rfl⟩
        go_wp2_with fail
        go_ret
        exact ⟨by first | rfl | (simp [e]; done) | (simp [e]; omega), rfl⟩
    · have HF : Hid (abv v x = false) := Lib.hid (by unfold abv; simp [hle])
      rw [HF.out]
      obtain ⟨a, ha⟩ : ∃ a, a = lv v := ⟨_, rfl⟩
      obtain ⟨b, hb⟩ : ∃ b, b = lv x := ⟨_, rfl⟩
      rw [← ha] at HLv hle
      rw [← hb] at HLx hle
      clear ha hb HF h0
      have hle' : (b : Int) < (a : Int) := by omega
      go_enter Try.func90, Try.ntmps90
      go_wp2_with fail
      refine (HLv.out _).mono ?_
      rintro e1 w' ⟨rfl, rfl⟩
      go_wp2_with fail
      refine (HLx.out _).mono ?_
      rintro e1 w' ⟨rfl, rfl⟩
      go_wp2_with fail
      go_ret
      exact ⟨by first | rfl | (simp; done), rfl⟩
end Go.Proofs.Ytelalpikdidpeaa
