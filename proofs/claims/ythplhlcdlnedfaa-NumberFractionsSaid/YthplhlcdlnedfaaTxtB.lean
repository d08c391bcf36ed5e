/-
  Texts, part B: isDecimal.
-/
import Derived.Test.YthplhlcdlnedfaaTxtA
import Derived.WalkSpells
namespace Go.Proofs.Ythplhlcdlnedfaa
open Go.RowKit MN

/-- The bytes of a string. -/
def bs (s : ByteArray) : List Nat := s.data.toList.map (·.toNat)
theorem bs_len (s : ByteArray) : (bs s).length = s.size := by simp [bs]
theorem bs_get (s : ByteArray) (k : Nat) (h : k < s.size) : s[k].toNat = dg (bs s) k := by
  rw [dg_get (bs s) k (by rw [bs_len]; exact h)]
  simp [bs]; rfl

/-- A decimal text. -/
def IsDec (l : List Nat) : Prop := (∀ j, j < l.length → 48 ≤ dg l j ∧ dg l j ≤ 57) ∧ (l = [48] ∨ (l ≠ [] ∧ dg l 0 ≠ 48))

noncomputable def decB (s : ByteArray) : Bool := @decide (IsDec (bs s)) (Classical.propDecidable _)
theorem decB_yes {s : ByteArray} (h : IsDec (bs s)) : decB s = true := @decide_eq_true _ (Classical.propDecidable _) h
theorem decB_no {s : ByteArray} (h : ¬ IsDec (bs s)) : decB s = false := @decide_eq_false _ (Classical.propDecidable _) h

set_option maxRecDepth 100000 in
set_option maxHeartbeats 1000000 in
theorem isDecimal_any (s : ByteArray) (w : World) (hs : s.size ≤ maxLen) :
    Calls Try.prog 77 #[.string s] w fun e w' => e = .returned (.bool (decB s)) ∧ w = w' := by
  unfold maxLen at hs
  go_enter Try.func77, Try.ntmps77
  go_wp2
  go_loop [6] (fun i => ∃ k : Nat, k ≤ s.size ∧ i = .int .i64 k ∧ Hid (∀ j, j < k → 48 ≤ dg (bs s) j ∧ dg (bs s) j ≤ 57)) (fun i => s.size - (intOf i).toNat)
  case atStart => exact ⟨0, Nat.zero_le _, rfl, Lib.hid (fun j hj => by omega)⟩
  case round =>
    obtain ⟨k, hk, rfl, HX⟩ := hrel
    by_cases hlt : k < s.size
    · have hb := bs_get s k hlt
      have hb2 : (s[k].toNat : Int) = (dg (bs s) k : Int) := by rw [hb]
      by_cases h1 : dg (bs s) k < 48
      · have H := Lib.hid (decB_no (s := s) (fun h => by have := (h.1 k (by rw [bs_len]; exact hlt)).1; omega))
        have h1' : (s[k].toNat : Int) < 48 := by omega
        clear hb hb2 h1
        go_wp2
        go_ret
        exact ⟨by rw [H.out]; rfl, rfl⟩
      · by_cases h2 : 57 < dg (bs s) k
        · have H := Lib.hid (decB_no (s := s) (fun h => by have := (h.1 k (by rw [bs_len]; exact hlt)).2; omega))
          have h1' : ¬ (s[k].toNat : Int) < 48 := by omega
          have h2' : (57 : Int) < (s[k].toNat : Int) := by omega
          clear hb hb2 h1 h2
          go_wp2
          go_ret
          exact ⟨by rw [H.out]; rfl, rfl⟩
        · have h1' : ¬ (s[k].toNat : Int) < 48 := by omega
          have h2' : ¬ (57 : Int) < (s[k].toNat : Int) := by omega
          have HX' : Hid (∀ j, j < k + 1 → 48 ≤ dg (bs s) j ∧ dg (bs s) j ≤ 57) := Lib.hid (fun j hj => by
            rcases Nat.lt_or_ge j k with h | h
            · exact HX.out j h
            · obtain rfl : j = k := by omega
              omega)
          clear hb hb2 h1 h2 HX
          go_wp2
          go_round
          case rel => exact ⟨k + 1, by omega, by go_num, HX'⟩
          case measure => simp [intOf]; omega
    · obtain rfl : k = s.size := by omega
      have hall : ∀ j, j < (bs s).length → 48 ≤ dg (bs s) j ∧ dg (bs s) j ≤ 57 := fun j hj => HX.out j (by rwa [bs_len] at hj)
      have e0 : s.toList = s.data.toList := Lib.toList_data s
      have hmap : ∀ l : List UInt8, s.toList = l → bs s = l.map (·.toNat) := fun l h => by unfold bs; rw [← e0, h]
      rcases Nat.eq_zero_or_pos s.size with h0 | h0
      · have hnil : s.toList = [] := by rw [e0]; exact List.eq_nil_of_length_eq_zero h0
        have H := Lib.hid (decB_no (s := s) (fun h => by
          rw [hmap [] hnil] at h
          rcases h.2 with h | h
          · simp at h
          · exact h.1 rfl))
        have t1 : (s.toList == [48]) = false := by rw [hnil]; rfl
        have t2 : s.toList.isEmpty = true := by rw [hnil]; rfl
        clear hall e0 hmap hnil h0 HX hk hlt
        go_wp2
        go_ret
        exact ⟨by rw [H.out]; rfl, rfl⟩
      · have hb := bs_get s 0 h0
        have hne : s.toList ≠ [] := by
          rw [e0]; intro h
          have h1 : s.size = ([] : List UInt8).length := by rw [← h]; rfl
          exact absurd h1 (Nat.ne_of_gt h0)
        have hne2 : bs s ≠ [] := by
          intro h
          have h1 : s.size = ([] : List Nat).length := by rw [← h, bs_len]
          exact absurd h1 (Nat.ne_of_gt h0)
        have t2 : s.toList.isEmpty = false := by simpa using hne
        by_cases h48 : s.toList = [48]
        · have H := Lib.hid (decB_yes (s := s) ⟨hall, .inl (hmap _ h48)⟩)
          have t1 : (s.toList == [48]) = true := by rw [h48]; rfl
          clear hall e0 hmap HX hk hlt hb hne hne2 h48
          go_wp2
          go_ret
          exact ⟨by rw [H.out]; rfl, rfl⟩
        · have t1 : (s.toList == [48]) = false := by simpa using h48
          by_cases hz : dg (bs s) 0 = 48
          · have H := Lib.hid (decB_no (s := s) (fun h => by
              rcases h.2 with h | h
              · apply h48
                rw [e0]
                unfold bs at h
                obtain ⟨a, ha, hh⟩ := List.map_eq_singleton_iff.1 h
                rw [ha]
                congr 1
                exact UInt8.toNat_inj.1 hh
              · exact h.2 hz))
            have t3 : ((s[0].toNat : Int) != 48) = false := by rw [hb, hz]; rfl
            clear hall e0 hmap HX hk hlt hb hne hne2 h48 hz
            go_wp2
            go_ret
            exact ⟨by rw [H.out]; rfl, rfl⟩
          · have H := Lib.hid (decB_yes (s := s) ⟨hall, .inr ⟨hne2, hz⟩⟩)
            have t3 : ((s[0].toNat : Int) != 48) = true := by rw [bne_iff_ne, hb]; omega
            clear hall e0 hmap HX hk hlt hb hne hne2 h48 hz
            go_wp2
            go_ret
            exact ⟨by rw [H.out]; rfl, rfl⟩

end Go.Proofs.Ythplhlcdlnedfaa
