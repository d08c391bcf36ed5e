/-
  The specification's functions, part H: Text and Parse.
-/
import Derived.Test.YthplhlcdlnedfaaRefK
import Derived.Deep.RegionHeld3
namespace Go.Proofs.Ythplhlcdlnedfaa
open Go.RowKit MN

theorem rText_any (A : Option Addr) (n c : Nat) (xs : List Nat) (w : World) (h : Arg w A n c xs) :
    Calls Try.prog 53 #[.slice A n c] w fun e w' => e = .returned (.tuple #[.string (texS xs), .int .i64 (ck xs)]) ∧ Below w.heap.size w w' := by
  cases hx : vB xs
  · have H := Lib.hid (valid_v h _ hx)
    have H2 := Lib.hid (ck_no (vB_no hx))
    have H3 := Lib.hid (show texS xs = { data := #[] } from if_neg (vB_no hx))
    clear h hx
    go_enter Try.func53, Try.ntmps53
    go_wp2_with (go_at_call 66; refine H.out.mono ?_; rintro e w3 ⟨rfl, rfl⟩)
    go_ret2
    exact ⟨by rw [H2.out, H3.out]; rfl, Below.refl _ _⟩
  · have H := Lib.hid (valid_v h _ hx)
    have H2 := Lib.hid (ck_yes (vB_yes hx))
    have H3 := Lib.hid (show texS xs = txtS (nv xs) from if_pos (vB_yes hx))
    have HD := Lib.hid (decimal_any A n c xs w h (h.len (vB_yes hx)))
    clear h hx
    go_enter Try.func53, Try.ntmps53
    go_wp2_with fail
    refine H.out.mono ?_
    rintro e w3 ⟨rfl, rfl⟩
    go_wp2_with fail
    refine HD.out.mono ?_
    rintro e w3 ⟨rfl, hb⟩
    go_wp2
    go_ret2
    exact ⟨by rw [H2.out, H3.out]; rfl, hb⟩

/-- A text that begins as no number does. -/
theorem not_dec_zero {s : ByteArray} (h : s.size = 0 ∨ (1 < s.size ∧ dg (bs s) 0 = 48)) : ¬ IsDec (bs s) := by
  intro k
  have hl := bs_len s
  rcases h with h | ⟨h1, h2⟩
  · rw [h] at hl
    have := List.eq_nil_of_length_eq_zero hl
    rw [this] at k
    rcases k.2 with e | e
    · cases e
    · exact e.1 rfl
  · rcases k.2 with e | e
    · rw [e] at hl; simp at hl; omega
    · exact e.2 h2
theorem is_dec_of {s : ByteArray} (h1 : ¬ s.size = 0) (h2 : ¬ (1 < s.size ∧ dg (bs s) 0 = 48)) (h3 : ∀ j, j < s.size → 48 ≤ dg (bs s) j ∧ dg (bs s) j ≤ 57) : IsDec (bs s) := by
  have hl := bs_len s
  refine ⟨fun j hj => h3 j (by rwa [hl] at hj), ?_⟩
  by_cases hz : dg (bs s) 0 = 48
  · refine .inl (ext_dg _ _ (by rw [hl]; simp; omega) (fun j hj => ?_))
    obtain rfl : j = 0 := by simpa using hj
    rw [hz]; rfl
  · exact .inr ⟨fun e => h1 (by rw [← hl, e]; rfl), hz⟩

def AtN (B : World) (w : World) (v : Value) (N k : Nat) : Prop := ∃ A n c, v = .slice A n c ∧ Arg w A n c (digs 4294967296 N) ∧ n ≤ k ∧ Below B.heap.size B w

theorem of_at (N : Nat) (z : Int) (hz : z = (N : Int)) (h1 : N ≤ 255) (B w : World) (hb : Below B.heap.size B w) :
    Calls Try.prog 55 #[.int .u64 z] w fun e w' => ∃ A n c, e = .returned (.slice A n c) ∧ Arg w' A n c (digs 4294967296 N) ∧ n ≤ 1 ∧ Below B.heap.size B w' ∧ Below w.heap.size w w' := by
  subst hz
  refine (ofRef_any N w (by omega)).mono fun e w' => ?_
  rintro ⟨A, m, c, rfl, ho, hx⟩
  obtain ⟨a, l⟩ := own_num ho
  exact ⟨A, m, c, rfl, a, by rw [← l]; exact digs_len (by omega) _ _ (by omega), hb.trans (hx.mono hb.size), hx⟩

set_option maxRecDepth 100000 in
set_option maxHeartbeats 2000000 in
theorem rParse_any (s : ByteArray) (w : World) (hs : s.size ≤ 700) :
    Calls Try.prog 54 #[.string s] w (Res w (parC s) (parN s)) := by
  by_cases h0 : s.size = 0
  · have hd := decB_no (not_dec_zero (s := s) (.inl h0))
    have h1 : Hid (parC s = 12) := Lib.hid (if_neg (by rw [hd]; simp))
    have h2 : Hid (parN s = 0) := Lib.hid (if_neg (by rw [hd]; simp))
    rw [h1.out, h2.out]
    have q1 : ((s.size : Int) == 0) = true := by rw [h0]; rfl
    clear hd
    go_enter Try.func54, Try.ntmps54
    go_wp2
    go_ret2
    exact res_nil (Below.refl _ _)
  have q0 : ((s.size : Int) == 0) = false := by rw [beq_eq_false_iff_ne]; omega
  have hpos : 0 < s.size := by omega
  have hb0 := bs_get s 0 hpos
  by_cases hz : 1 < s.size ∧ dg (bs s) 0 = 48
  · have hd := decB_no (not_dec_zero (s := s) (.inr hz))
    have h1 : Hid (parC s = 12) := Lib.hid (if_neg (by rw [hd]; simp))
    have h2 : Hid (parN s = 0) := Lib.hid (if_neg (by rw [hd]; simp))
    rw [h1.out, h2.out]
    have q1 : decide (1 < s.size) = true := decide_eq_true hz.1
    have q1' : decide ((1 : Int) < (s.size : Int)) = true := decide_eq_true (by omega)
    have q2 : ((s[0].toNat : Int) == 48) = true := by rw [hb0, hz.2]; rfl
    clear hd hz hb0
    go_enter Try.func54, Try.ntmps54
    go_wp2
    go_ret2
    exact res_nil (Below.refl _ _)
  have HD0 := Lib.hid (fun h => is_dec_of (s := s) h0 hz h)
  by_cases h1 : 1 < s.size
  · have q1 : decide ((1 : Int) < (s.size : Int)) = true := decide_eq_true (by omega)
    have q2 : ((s[0].toNat : Int) == 48) = false := by
      rw [hb0, beq_eq_false_iff_ne]
      intro e
      exact hz ⟨h1, by omega⟩
    clear hz hb0 h1
    go_enter Try.func54, Try.ntmps54
    go_wp2
    go_loop [4] (fun i => ∃ k : Nat, k ≤ s.size ∧ i = .int .i64 k ∧ Hid (∀ j, j < k → 48 ≤ dg (bs s) j ∧ dg (bs s) j ≤ 57)) (fun i => s.size - (intOf i).toNat)
    case atStart => exact ⟨0, Nat.zero_le _, rfl, Lib.hid (fun j hj => by omega)⟩
    case round =>
      obtain ⟨k, hk, rfl, HX⟩ := hrel
      by_cases hlt : k < s.size
      · have hb := bs_get s k hlt
        have hb2 : (s[k].toNat : Int) = (dg (bs s) k : Int) := by rw [hb]
        by_cases h1 : dg (bs s) k < 48
        · have hd := decB_no (s := s) (fun h => by have := (h.1 k (by rw [bs_len]; exact hlt)).1; omega)
          have p1 : Hid (parC s = 12) := Lib.hid (if_neg (by rw [hd]; simp))
          have p2 : Hid (parN s = 0) := Lib.hid (if_neg (by rw [hd]; simp))
          have h1' : (s[k].toNat : Int) < 48 := by omega
          clear hb hb2 h1 hd
          go_wp2
          go_ret2
          rw [p1.out, p2.out]
          exact res_nil (Below.refl _ _)
        · by_cases h2 : 57 < dg (bs s) k
          · have hd := decB_no (s := s) (fun h => by have := (h.1 k (by rw [bs_len]; exact hlt)).2; omega)
            have p1 : Hid (parC s = 12) := Lib.hid (if_neg (by rw [hd]; simp))
            have p2 : Hid (parN s = 0) := Lib.hid (if_neg (by rw [hd]; simp))
            have h1' : ¬ (s[k].toNat : Int) < 48 := by omega
            have h2' : (57 : Int) < (s[k].toNat : Int) := by omega
            clear hb hb2 h1 h2 hd
            go_wp2
            go_ret2
            rw [p1.out, p2.out]
            exact res_nil (Below.refl _ _)
          · have h1' : ¬ (s[k].toNat : Int) < 48 := by omega
            have h2' : ¬ (57 : Int) < (s[k].toNat : Int) := by omega
            have HX' : Hid (∀ j, j < k + 1 → 48 ≤ dg (bs s) j ∧ dg (bs s) j ≤ 57) := Lib.hid (fun j hj => by
              rcases Nat.lt_or_ge j k with h | h
              · exact HX.out j h
              · obtain rfl : j = k := by omega
                omega)
            clear hb hb2 h1 h2 HX
            go_wp2
            go_round
            case rel => exact ⟨k + 1, by omega, by go_num, HX'⟩
            case measure => simp [intOf]; omega
      · obtain rfl : k = s.size := by omega
        have hdec := HD0.out HX.out
        have hd := decB_yes hdec
        have p1 : Hid (parC s = fitC (dvk (bs s) s.size)) := Lib.hid (if_pos hd)
        have p2 : Hid (parN s = fitN (dvk (bs s) s.size)) := Lib.hid (if_pos hd)
        have HD := Lib.hid hdec
        clear hdec hd HX HD0
        go_wp2
        go_loopw [5, 6] (fun v i wr => ∃ (k : Nat) (A : Option Addr) (n c : Nat), k ≤ s.size ∧ i = .int .i64 k ∧ v = .slice A n c ∧ wr.ownsRow w.heap.size 24 1 (.slice A n c) n (vs32 (digs 4294967296 (dvk (bs s) k))) ∧ n ≤ 60 ∧ Below w.heap.size w wr) (fun _ i _ => s.size - (intOf i).toNat)
        case atStart => exact ⟨0, none, 0, 0, Nat.zero_le _, rfl, rfl, World.ownsRow_nil _ _ _ _, by omega, Below.refl _ _⟩
        case round =>
          obtain ⟨k, A, n, c, hk2, rfl, rfl, hown, hn, hbel⟩ := hrel
          have hln := (own_num hown).2
          by_cases hbig : 16 < n
          · have hB : Big (dvk (bs s) k) := by unfold Big; rw [hln]; exact hbig
            have hB2 : Big (dvk (bs s) s.size) := big_mono (dvk_mono _ k _ hk2) hB
            have HL := limited_any A n c _ w wr hbel hown
            rw [fitC_big hB, fitN_big hB, ← fitC_big hB2, ← fitN_big hB2, ← p1.out, ← p2.out] at HL
            have HL := Lib.hid HL
            have g1 : decide ((n : Int) ≤ 16) = false := decide_eq_false (by omega)
            clear hown hln hB hB2
            by_cases hlt2 : k < s.size
            all_goals
              go_wp2_with fail
              refine HL.out.mono ?_
              rintro e w9 ⟨A', m', c', rfl, hown9, hb9⟩
              go_wp2
              go_ret2
              exact ⟨A', m', c', rfl, hown9, hb9⟩
          · by_cases hlt2 : k < s.size
            · have hb := bs_get s k hlt2
              have hcd := HD.out.1 k (by rw [bs_len]; exact hlt2)
              obtain ⟨m, hm⟩ : ∃ m, m = dg (bs s) k - 48 := ⟨_, rfl⟩
              have hm2 : (s[k].toNat : Int) - 48 = (m : Int) := by rw [hb]; omega
              have hlo : (48 : Int) ≤ (s[k].toNat : Int) := by rw [hb]; omega
              have hhi : (s[k].toNat : Int) ≤ 57 := by rw [hb]; omega
              have hml : m ≤ 9 := by omega
              have hmw : IntKind.u8.wrap ((s[k].toNat : Int) - 48) = (m : Int) := by rw [hm2]; exact IntWalk.u8_in _ (by omega)
              have hmw2 : IntKind.u64.wrap (m : Int) = (m : Int) := IntWalk.u64_in _ (by omega)
              have HM := Lib.hid hm
              have hA := (own_num hown).1
              have HV : Hid (dvk (bs s) (k + 1) = dvk (bs s) k * 10 + m) := Lib.hid (by rw [hm]; rfl)
              have H10 : Hid (∀ wx, Below wr.heap.size wr wx → Calls Try.prog 55 #[.int .u64 10] wx fun e w' => ∃ A n c, e = .returned (.slice A n c) ∧ Arg w' A n c (digs 4294967296 10) ∧ n ≤ 1 ∧ Below wr.heap.size wr w' ∧ Below wx.heap.size wx w') :=
                Lib.hid (fun wx hx => of_at 10 10 rfl (by omega) wr wx hx)
              have HOm : Hid (∀ wx, Below wr.heap.size wr wx → Calls Try.prog 55 #[.int .u64 (m : Int)] wx fun e w' => ∃ A n c, e = .returned (.slice A n c) ∧ Arg w' A n c (digs 4294967296 m) ∧ n ≤ 1 ∧ Below wr.heap.size wr w' ∧ Below wx.heap.size wx w') :=
                Lib.hid (fun wx hx => of_at m m rfl (by omega) wr wx hx)
              have HTi : Hid (∀ wx A2 n2 c2, Below wr.heap.size wr wx → Arg wx A2 n2 c2 (digs 4294967296 10) → n2 ≤ 1 → Calls Try.prog 91 #[.slice A n c, .slice A2 n2 c2] wx fun e w' => ∃ A3 n3 c3, e = .returned (.slice A3 n3 c3) ∧ Arg w' A3 n3 c3 (digs 4294967296 (dvk (bs s) k * 10)) ∧ n3 ≤ 17 ∧ Below wr.heap.size wr w') := Lib.hid (fun wx A2 n2 c2 hx a2 h2 => by
                have ht := timesRef_any A A2 n c n2 c2 _ _ wx (hA.keep hx) a2 (by omega) (by omega)
                rw [digs_val _ _ (by omega), digs_val _ _ (by omega)] at ht
                refine ht.mono fun e w' => ?_
                rintro ⟨A3, n3, c3, rfl, ho3, hb3⟩
                obtain ⟨a3, l3⟩ := own_num ho3
                refine ⟨A3, n3, c3, rfl, a3, ?_, hx.trans (hb3.mono hx.size)⟩
                rw [← l3]
                refine digs_len (by omega) _ _ ?_
                have h1 := val_lt (digs 4294967296 (dvk (bs s) k)) (digs_low _ _ (by omega))
                rw [digs_val _ _ (by omega), hln] at h1
                have h2 : (4294967296 : Nat) ^ n ≤ 4294967296 ^ 16 := Nat.pow_le_pow_right (by omega) (by omega)
                have h3 : dvk (bs s) k < 4294967296 ^ 16 := Nat.lt_of_lt_of_le h1 h2
                clear h1 h2
                omega)
              have HPl : Hid (∀ wx A2 n2 c2 A3 n3 c3, Below wr.heap.size wr wx → Arg wx A2 n2 c2 (digs 4294967296 (dvk (bs s) k * 10)) → n2 ≤ 17 → Arg wx A3 n3 c3 (digs 4294967296 m) → n3 ≤ 1 → Calls Try.prog 89 #[.slice A2 n2 c2, .slice A3 n3 c3] wx fun e w' => ∃ A4 n4 c4, e = .returned (.slice A4 n4 c4) ∧ w'.ownsRow w.heap.size 24 1 (.slice A4 n4 c4) n4 (vs32 (digs 4294967296 (dvk (bs s) (k + 1)))) ∧ n4 ≤ 60 ∧ Below w.heap.size w w' ∧ Below wr.heap.size wr w') := Lib.hid (fun wx A2 n2 c2 A3 n3 c3 hx a2 h2 a3 h3 => by
                have ht := plusRef_any A2 A3 n2 c2 n3 c3 _ _ wx a2 a3 (by omega) (by omega)
                rw [digs_val _ _ (by omega), digs_val _ _ (by omega), ← HV.out] at ht
                refine ht.mono fun e w' => ?_
                rintro ⟨A4, n4, c4, rfl, ho4, hb4⟩
                have hwx := hbel.trans (hx.mono hbel.size)
                refine ⟨A4, n4, c4, rfl, own_low ho4 hwx.size, ?_, hwx.trans (hb4.mono hwx.size), hx.trans (hb4.mono hx.size)⟩
                rw [← (own_num ho4).2]
                refine digs_len (by omega) _ _ ?_
                have e1 := val_lt (digs 4294967296 (dvk (bs s) k)) (digs_low _ _ (by omega))
                rw [digs_val _ _ (by omega), hln] at e1
                have e2 : (4294967296 : Nat) ^ n ≤ 4294967296 ^ 16 := Nat.pow_le_pow_right (by omega) (by omega)
                have e3 : dvk (bs s) k < 4294967296 ^ 16 := Nat.lt_of_lt_of_le e1 e2
                rw [HV.out]
                clear e1 e2
                omega)
              have g1 : decide ((n : Int) ≤ 16) = true := decide_eq_true (by omega)
              have hx0 : Below wr.heap.size wr wr.drew := (Below.refl _ _).drew
              have l0 : (0 : Int) ≤ (k : Int) := by omega
              have l1 : (k : Int) < (s.size : Int) := by omega
              clear hb hcd hm hA hown hbig hln hbel hlo hhi hm2
              go_wp2_with fail
              go_region_held3 (fun w' => Below wr.heap.size wr w')
                (first
                  | with_reducible exact hx0
                  | with_reducible exact hxA
                  | with_reducible exact hxB
                  | with_reducible exact hxC
                  | with_reducible exact hyD)
                (first
                | (go_at_call 55; (with_reducible refine (H10.out _ hx0).mono ?_); rintro e wA ⟨Aa, na, ca, rfl, aa, ha1, hxA, hyA⟩)
                | (go_at_call 91; (with_reducible refine (HTi.out _ _ _ _ hxA aa ha1).mono ?_); rintro e wB ⟨Ab, nb, cb, rfl, ab, hb1, hxB⟩)
                | (go_at_call 55; (with_reducible refine (HOm.out _ hxB).mono ?_); rintro e wC ⟨Ac, nc, cc, rfl, ac, hc1, hxC, hyC⟩)
                | (go_at_call 89; (with_reducible refine (HPl.out _ _ _ _ _ _ _ hxC (ab.keep hyC) hb1 ac hc1).mono ?_); rintro e wD ⟨Ad, nd, cd, rfl, od, hd1, hxD, hyD⟩))
              all_goals
                go_wp2_with fail
                go_roundw
                case rel => exact ⟨k + 1, Ad, nd, cd, by omega, by go_num, rfl, od, hd1, hxD⟩
                case measure => simp [intOf]; omega
            · obtain rfl : k = s.size := by omega
              have HL := limited_any A n c _ w wr hbel hown
              rw [← p1.out, ← p2.out] at HL
              have HL := Lib.hid HL
              clear hown hln
              go_wp2_with fail
              refine HL.out.mono ?_
              rintro e w9 ⟨A', m', c', rfl, hown9, hb9⟩
              go_wp2
              go_ret2
              exact ⟨A', m', c', rfl, hown9, hb9⟩
  · have q1 : decide ((1 : Int) < (s.size : Int)) = false := decide_eq_false (by omega)
    clear hz hb0
    go_enter Try.func54, Try.ntmps54
    go_wp2
    go_loop [4] (fun i => ∃ k : Nat, k ≤ s.size ∧ i = .int .i64 k ∧ Hid (∀ j, j < k → 48 ≤ dg (bs s) j ∧ dg (bs s) j ≤ 57)) (fun i => s.size - (intOf i).toNat)
    case atStart => exact ⟨0, Nat.zero_le _, rfl, Lib.hid (fun j hj => by omega)⟩
    case round =>
      obtain ⟨k, hk, rfl, HX⟩ := hrel
      by_cases hlt : k < s.size
      · have hb := bs_get s k hlt
        have hb2 : (s[k].toNat : Int) = (dg (bs s) k : Int) := by rw [hb]
        by_cases h1 : dg (bs s) k < 48
        · have hd := decB_no (s := s) (fun h => by have := (h.1 k (by rw [bs_len]; exact hlt)).1; omega)
          have p1 : Hid (parC s = 12) := Lib.hid (if_neg (by rw [hd]; simp))
          have p2 : Hid (parN s = 0) := Lib.hid (if_neg (by rw [hd]; simp))
          have h1' : (s[k].toNat : Int) < 48 := by omega
          clear hb hb2 h1 hd
          go_wp2
          go_ret2
          rw [p1.out, p2.out]
          exact res_nil (Below.refl _ _)
        · by_cases h2 : 57 < dg (bs s) k
          · have hd := decB_no (s := s) (fun h => by have := (h.1 k (by rw [bs_len]; exact hlt)).2; omega)
            have p1 : Hid (parC s = 12) := Lib.hid (if_neg (by rw [hd]; simp))
            have p2 : Hid (parN s = 0) := Lib.hid (if_neg (by rw [hd]; simp))
            have h1' : ¬ (s[k].toNat : Int) < 48 := by omega
            have h2' : (57 : Int) < (s[k].toNat : Int) := by omega
            clear hb hb2 h1 h2 hd
            go_wp2
            go_ret2
            rw [p1.out, p2.out]
            exact res_nil (Below.refl _ _)
          · have h1' : ¬ (s[k].toNat : Int) < 48 := by omega
            have h2' : ¬ (57 : Int) < (s[k].toNat : Int) := by omega
            have HX' : Hid (∀ j, j < k + 1 → 48 ≤ dg (bs s) j ∧ dg (bs s) j ≤ 57) := Lib.hid (fun j hj => by
              rcases Nat.lt_or_ge j k with h | h
              · exact HX.out j h
              · obtain rfl : j = k := by omega
                omega)
            clear hb hb2 h1 h2 HX
            go_wp2
            go_round
            case rel => exact ⟨k + 1, by omega, by go_num, HX'⟩
            case measure => simp [intOf]; omega
      · obtain rfl : k = s.size := by omega
        have hdec := HD0.out HX.out
        have hd := decB_yes hdec
        have p1 : Hid (parC s = fitC (dvk (bs s) s.size)) := Lib.hid (if_pos hd)
        have p2 : Hid (parN s = fitN (dvk (bs s) s.size)) := Lib.hid (if_pos hd)
        have HD := Lib.hid hdec
        clear hdec hd HX HD0
        go_wp2
        go_loopw [5, 6] (fun v i wr => ∃ (k : Nat) (A : Option Addr) (n c : Nat), k ≤ s.size ∧ i = .int .i64 k ∧ v = .slice A n c ∧ wr.ownsRow w.heap.size 24 1 (.slice A n c) n (vs32 (digs 4294967296 (dvk (bs s) k))) ∧ n ≤ 60 ∧ Below w.heap.size w wr) (fun _ i _ => s.size - (intOf i).toNat)
        case atStart => exact ⟨0, none, 0, 0, Nat.zero_le _, rfl, rfl, World.ownsRow_nil _ _ _ _, by omega, Below.refl _ _⟩
        case round =>
          obtain ⟨k, A, n, c, hk2, rfl, rfl, hown, hn, hbel⟩ := hrel
          have hln := (own_num hown).2
          by_cases hbig : 16 < n
          · have hB : Big (dvk (bs s) k) := by unfold Big; rw [hln]; exact hbig
            have hB2 : Big (dvk (bs s) s.size) := big_mono (dvk_mono _ k _ hk2) hB
            have HL := limited_any A n c _ w wr hbel hown
            rw [fitC_big hB, fitN_big hB, ← fitC_big hB2, ← fitN_big hB2, ← p1.out, ← p2.out] at HL
            have HL := Lib.hid HL
            have g1 : decide ((n : Int) ≤ 16) = false := decide_eq_false (by omega)
            clear hown hln hB hB2
            by_cases hlt2 : k < s.size
            all_goals
              go_wp2_with fail
              refine HL.out.mono ?_
              rintro e w9 ⟨A', m', c', rfl, hown9, hb9⟩
              go_wp2
              go_ret2
              exact ⟨A', m', c', rfl, hown9, hb9⟩
          · by_cases hlt2 : k < s.size
            · have hb := bs_get s k hlt2
              have hcd := HD.out.1 k (by rw [bs_len]; exact hlt2)
              obtain ⟨m, hm⟩ : ∃ m, m = dg (bs s) k - 48 := ⟨_, rfl⟩
              have hm2 : (s[k].toNat : Int) - 48 = (m : Int) := by rw [hb]; omega
              have hlo : (48 : Int) ≤ (s[k].toNat : Int) := by rw [hb]; omega
              have hhi : (s[k].toNat : Int) ≤ 57 := by rw [hb]; omega
              have hml : m ≤ 9 := by omega
              have hmw : IntKind.u8.wrap ((s[k].toNat : Int) - 48) = (m : Int) := by rw [hm2]; exact IntWalk.u8_in _ (by omega)
              have hmw2 : IntKind.u64.wrap (m : Int) = (m : Int) := IntWalk.u64_in _ (by omega)
              have HM := Lib.hid hm
              have hA := (own_num hown).1
              have HV : Hid (dvk (bs s) (k + 1) = dvk (bs s) k * 10 + m) := Lib.hid (by rw [hm]; rfl)
              have H10 : Hid (∀ wx, Below wr.heap.size wr wx → Calls Try.prog 55 #[.int .u64 10] wx fun e w' => ∃ A n c, e = .returned (.slice A n c) ∧ Arg w' A n c (digs 4294967296 10) ∧ n ≤ 1 ∧ Below wr.heap.size wr w' ∧ Below wx.heap.size wx w') :=
                Lib.hid (fun wx hx => of_at 10 10 rfl (by omega) wr wx hx)
              have HOm : Hid (∀ wx, Below wr.heap.size wr wx → Calls Try.prog 55 #[.int .u64 (m : Int)] wx fun e w' => ∃ A n c, e = .returned (.slice A n c) ∧ Arg w' A n c (digs 4294967296 m) ∧ n ≤ 1 ∧ Below wr.heap.size wr w' ∧ Below wx.heap.size wx w') :=
                Lib.hid (fun wx hx => of_at m m rfl (by omega) wr wx hx)
              have HTi : Hid (∀ wx A2 n2 c2, Below wr.heap.size wr wx → Arg wx A2 n2 c2 (digs 4294967296 10) → n2 ≤ 1 → Calls Try.prog 91 #[.slice A n c, .slice A2 n2 c2] wx fun e w' => ∃ A3 n3 c3, e = .returned (.slice A3 n3 c3) ∧ Arg w' A3 n3 c3 (digs 4294967296 (dvk (bs s) k * 10)) ∧ n3 ≤ 17 ∧ Below wr.heap.size wr w') := Lib.hid (fun wx A2 n2 c2 hx a2 h2 => by
                have ht := timesRef_any A A2 n c n2 c2 _ _ wx (hA.keep hx) a2 (by omega) (by omega)
                rw [digs_val _ _ (by omega), digs_val _ _ (by omega)] at ht
                refine ht.mono fun e w' => ?_
                rintro ⟨A3, n3, c3, rfl, ho3, hb3⟩
                obtain ⟨a3, l3⟩ := own_num ho3
                refine ⟨A3, n3, c3, rfl, a3, ?_, hx.trans (hb3.mono hx.size)⟩
                rw [← l3]
                refine digs_len (by omega) _ _ ?_
                have h1 := val_lt (digs 4294967296 (dvk (bs s) k)) (digs_low _ _ (by omega))
                rw [digs_val _ _ (by omega), hln] at h1
                have h2 : (4294967296 : Nat) ^ n ≤ 4294967296 ^ 16 := Nat.pow_le_pow_right (by omega) (by omega)
                have h3 : dvk (bs s) k < 4294967296 ^ 16 := Nat.lt_of_lt_of_le h1 h2
                clear h1 h2
                omega)
              have HPl : Hid (∀ wx A2 n2 c2 A3 n3 c3, Below wr.heap.size wr wx → Arg wx A2 n2 c2 (digs 4294967296 (dvk (bs s) k * 10)) → n2 ≤ 17 → Arg wx A3 n3 c3 (digs 4294967296 m) → n3 ≤ 1 → Calls Try.prog 89 #[.slice A2 n2 c2, .slice A3 n3 c3] wx fun e w' => ∃ A4 n4 c4, e = .returned (.slice A4 n4 c4) ∧ w'.ownsRow w.heap.size 24 1 (.slice A4 n4 c4) n4 (vs32 (digs 4294967296 (dvk (bs s) (k + 1)))) ∧ n4 ≤ 60 ∧ Below w.heap.size w w' ∧ Below wr.heap.size wr w') := Lib.hid (fun wx A2 n2 c2 A3 n3 c3 hx a2 h2 a3 h3 => by
                have ht := plusRef_any A2 A3 n2 c2 n3 c3 _ _ wx a2 a3 (by omega) (by omega)
                rw [digs_val _ _ (by omega), digs_val _ _ (by omega), ← HV.out] at ht
                refine ht.mono fun e w' => ?_
                rintro ⟨A4, n4, c4, rfl, ho4, hb4⟩
                have hwx := hbel.trans (hx.mono hbel.size)
                refine ⟨A4, n4, c4, rfl, own_low ho4 hwx.size, ?_, hwx.trans (hb4.mono hwx.size), hx.trans (hb4.mono hx.size)⟩
                rw [← (own_num ho4).2]
                refine digs_len (by omega) _ _ ?_
                have e1 := val_lt (digs 4294967296 (dvk (bs s) k)) (digs_low _ _ (by omega))
                rw [digs_val _ _ (by omega), hln] at e1
                have e2 : (4294967296 : Nat) ^ n ≤ 4294967296 ^ 16 := Nat.pow_le_pow_right (by omega) (by omega)
                have e3 : dvk (bs s) k < 4294967296 ^ 16 := Nat.lt_of_lt_of_le e1 e2
                rw [HV.out]
                clear e1 e2
                omega)
              have g1 : decide ((n : Int) ≤ 16) = true := decide_eq_true (by omega)
              have hx0 : Below wr.heap.size wr wr.drew := (Below.refl _ _).drew
              have l0 : (0 : Int) ≤ (k : Int) := by omega
              have l1 : (k : Int) < (s.size : Int) := by omega
              clear hb hcd hm hA hown hbig hln hbel hlo hhi hm2
              go_wp2_with fail
              go_region_held3 (fun w' => Below wr.heap.size wr w')
                (first
                  | with_reducible exact hx0
                  | with_reducible exact hxA
                  | with_reducible exact hxB
                  | with_reducible exact hxC
                  | with_reducible exact hyD)
                (first
                | (go_at_call 55; (with_reducible refine (H10.out _ hx0).mono ?_); rintro e wA ⟨Aa, na, ca, rfl, aa, ha1, hxA, hyA⟩)
                | (go_at_call 91; (with_reducible refine (HTi.out _ _ _ _ hxA aa ha1).mono ?_); rintro e wB ⟨Ab, nb, cb, rfl, ab, hb1, hxB⟩)
                | (go_at_call 55; (with_reducible refine (HOm.out _ hxB).mono ?_); rintro e wC ⟨Ac, nc, cc, rfl, ac, hc1, hxC, hyC⟩)
                | (go_at_call 89; (with_reducible refine (HPl.out _ _ _ _ _ _ _ hxC (ab.keep hyC) hb1 ac hc1).mono ?_); rintro e wD ⟨Ad, nd, cd, rfl, od, hd1, hxD, hyD⟩))
              all_goals
                go_wp2_with fail
                go_roundw
                case rel => exact ⟨k + 1, Ad, nd, cd, by omega, by go_num, rfl, od, hd1, hxD⟩
                case measure => simp [intOf]; omega
            · obtain rfl : k = s.size := by omega
              have HL := limited_any A n c _ w wr hbel hown
              rw [← p1.out, ← p2.out] at HL
              have HL := Lib.hid HL
              clear hown hln
              go_wp2_with fail
              refine HL.out.mono ?_
              rintro e w9 ⟨A', m', c', rfl, hown9, hb9⟩
              go_wp2
              go_ret2
              exact ⟨A', m', c', rfl, hown9, hb9⟩
end Go.Proofs.Ythplhlcdlnedfaa
