/-
  order.
-/
import Derived.Test.YthplhlcdlnedfaaNatC
namespace Go.Proofs.Ythplhlcdlnedfaa
open Go.RowKit MN

/-- Draws alone. -/
def Drawn (w w' : World) : Prop := ∃ n, w' = w.drewN n
theorem Drawn.refl (w : World) : Drawn w w := ⟨0, rfl⟩
theorem Drawn.more {w w' : World} (h : Drawn w w') (n : Nat) : Drawn w (w'.drewN n) := by
  obtain ⟨m, rfl⟩ := h
  exact ⟨m + n, World.drewN_drewN ..⟩
theorem Drawn.cell {w w' : World} (h : Drawn w w') (a : Addr) : w'.cell? a = w.cell? a := by obtain ⟨m, rfl⟩ := h; rfl
theorem Drawn.below {w w' : World} (h : Drawn w w') : Below w.heap.size w w' := by obtain ⟨m, rfl⟩ := h; exact ⟨rfl, rfl, rfl, Nat.le_refl _, fun _ _ => rfl⟩
theorem Drawn.size {w w' : World} (h : Drawn w w') : w'.heap.size = w.heap.size := by obtain ⟨m, rfl⟩ := h; rfl
theorem Drawn.own {w w' : World} (h : Drawn w w') {base : Nat} {e : TypeId} {size n : Nat} {v : Value} {xs : List Value} (ho : w.ownsRow base e size v n xs) : w'.ownsRow base e size v n xs := by obtain ⟨m, rfl⟩ := h; exact ho

theorem cmpInt_any (a b : Nat) (w : World) : Calls Try.prog 103 #[.int .i64 (a : Int), .int .i64 (b : Int)] w fun e w' => e = .returned (.int .i64 (ordv a b)) ∧ w = w' := by
  rcases Nat.lt_trichotomy a b with h | h | h
  · have H := Lib.hid (ordv_lt h)
    go_enter Try.func103, Try.ntmps103
    go_wp2
    go_ret
    exact ⟨by rw [H.out]; rfl, rfl⟩
  · have H := Lib.hid (ordv_eq h)
    subst h
    go_enter Try.func103, Try.ntmps103
    go_wp2
    go_ret
    exact ⟨by rw [H.out]; rfl, rfl⟩
  · have H := Lib.hid (ordv_gt h)
    have h' : ¬ a < b := by omega
    go_enter Try.func103, Try.ntmps103
    go_wp2
    go_ret
    exact ⟨by rw [H.out]; rfl, rfl⟩

theorem cmp32_any (a b : Nat) (w : World) : Calls Try.prog 104 #[.int .u32 (a : Int), .int .u32 (b : Int)] w fun e w' => e = .returned (.int .i64 (ordv a b)) ∧ w' = w := by
  rcases Nat.lt_trichotomy a b with h | h | h
  · have H := Lib.hid (ordv_lt h)
    go_enter Try.func104, Try.ntmps104
    go_wp2
    go_ret
    exact ⟨by rw [H.out]; rfl, rfl⟩
  · have H := Lib.hid (ordv_eq h)
    subst h
    go_enter Try.func104, Try.ntmps104
    go_wp2
    go_ret
    exact ⟨by rw [H.out]; rfl, rfl⟩
  · have H := Lib.hid (ordv_gt h)
    have h' : ¬ a < b := by omega
    go_enter Try.func104, Try.ntmps104
    go_wp2
    go_ret
    exact ⟨by rw [H.out]; rfl, rfl⟩

set_option maxRecDepth 100000 in
set_option maxHeartbeats 1000000 in
theorem order_any (A1 A2 : Option Addr) (n1 c1 n2 c2 : Nat) (ys zs : List Nat) (w : World) (ha : Rd .u32 w A1 n1 c1 ys) (hb : Rd .u32 w A2 n2 c2 zs) (hla : Low 4294967296 ys) (hlb : Low 4294967296 zs) (hta : Top ys) (htb : Top zs) :
    Calls Try.prog 69 #[.slice A1 n1 c1, .slice A2 n2 c2] w fun e w' => e = .returned (.int .i64 (ordv (val 4294967296 ys) (val 4294967296 zs))) ∧ Drawn w w' := by
  have hlena := Lib.hid ha.len
  have hlenb := Lib.hid hb.len
  have hca := ha.cap
  have hcla := ha.le
  unfold maxLen at hca
  rcases Nat.lt_trichotomy n1 n2 with h | h | h
  · have H := Lib.hid (ordv_lt (val_short (by omega) ys zs hla htb (by rw [hlena.out, hlenb.out]; exact h)))
    have hb : (ordv n1 n2 != 0) = true := by rw [ordv_lt h]; rfl
    have H2 := Lib.hid (ordv_lt h)
    go_enter Try.func69, Try.ntmps69
    go_wp2_with (go_at_call 103; refine (cmpInt_any _ _ _).mono ?_; rintro e w' ⟨rfl, rfl⟩)
    go_ret
    exact ⟨by rw [H.out, H2.out]; rfl, Drawn.refl _⟩
  · subst h
    have H2 := Lib.hid (ordv_eq (show n1 = n1 from rfl))
    have hb0 : (ordv n1 n1 != 0) = false := by rw [H2.out]; rfl
    have hata := Lib.hid ha.at_
    have hatb := Lib.hid hb.at_
    clear ha hb
    go_enter Try.func69, Try.ntmps69
    go_wp2_with (go_at_call 103; refine (cmpInt_any _ _ _).mono ?_; rintro e w' ⟨rfl, rfl⟩)
    go_loopw [6] (fun i wr => ((∃ q : Nat, i = .int .i64 q ∧ q < n1 ∧ Hid (∀ j, q < j → dg ys j = dg zs j)) ∨ (i = .int .i64 (-1) ∧ Hid (∀ j, dg ys j = dg zs j))) ∧ Drawn w wr) (fun i _ => (intOf i + 1).toNat)
    case atStart =>
      refine ⟨?_, Drawn.refl _⟩
      rcases Nat.eq_zero_or_pos n1 with h0 | h0
      · exact .inr ⟨by rw [h0]; rfl, Lib.hid (fun j => by rw [dg_past ys j (by rw [hlena.out]; omega), dg_past zs j (by rw [hlenb.out]; omega)])⟩
      · exact .inl ⟨n1 - 1, by go_num, by omega, Lib.hid (fun j hj => by rw [dg_past ys j (by rw [hlena.out]; omega), dg_past zs j (by rw [hlenb.out]; omega)])⟩
    case round =>
      obtain ⟨⟨q, rfl, hq, HE⟩ | ⟨rfl, HE⟩, HD⟩ := hrel
      · obtain ⟨b1, off1, rfl, hc1⟩ := hata.out (by omega)
        obtain ⟨b2, off2, rfl, hc2⟩ := hatb.out (by omega)
        have k1 := (HD.cell ⟨b1, off1 + q, none⟩).trans (hc1 q hq)
        have k2 := (HD.cell ⟨b2, off2 + q, none⟩).trans (hc2 q hq)
        clear hc1 hc2
        obtain ⟨D1, hD1⟩ : ∃ D, D = dg ys q := ⟨_, rfl⟩
        obtain ⟨D2, hD2⟩ : ∃ D, D = dg zs q := ⟨_, rfl⟩
        rw [← hD1] at k1
        rw [← hD2] at k2
        have g1 := Lib.hid hD1
        have g2 := Lib.hid hD2
        clear hD1 hD2
        have l0 : (0 : Int) ≤ (q : Int) := by omega
        have l1 : (q : Int) < (n1 : Int) := by omega
        go_wp2
        go_quiet ((go_at_call 104; exact Calls.quiet_of_same (cmp32_any D1 D2 _)))
        have HD2 := HD.more nq
        rcases Nat.lt_trichotomy D1 D2 with hlt | heq | hgt
        · have hb : (ordv D1 D2 != 0) = true := by rw [ordv_lt hlt]; rfl
          have H1 := Lib.hid (ordv_lt hlt)
          have H2 := Lib.hid (ordv_lt (val_cmp ys zs q hla (by omega) (by rw [hlena.out, hlenb.out]) (by rw [hlenb.out]; exact hq) (by rw [← g1.out, ← g2.out]; exact hlt) HE.out))
          clear hlt
          go_wp2
          go_ret
          exact ⟨by rw [H2.out, H1.out]; rfl, HD2⟩
        · subst heq
          have hb : (ordv D1 D1 != 0) = false := by rw [ordv_eq rfl]; rfl
          have HE' : Hid (∀ j, q ≤ j → dg ys j = dg zs j) := Lib.hid (fun j hj => by
            rcases Nat.lt_or_ge q j with h | h
            · exact HE.out j h
            · obtain rfl : j = q := by omega
              rw [← g1.out, ← g2.out])
          clear HE
          go_wp2
          go_roundw
          case rel =>
            refine ⟨?_, HD2⟩
            rcases Nat.eq_zero_or_pos q with h0 | h0
            · exact .inr ⟨by rw [h0]; rfl, Lib.hid (fun j => HE'.out j (by omega))⟩
            · exact .inl ⟨q - 1, by go_num, by omega, Lib.hid (fun j hj => HE'.out j (by omega))⟩
          case measure => simp [intOf]
        · have hb : (ordv D1 D2 != 0) = true := by rw [ordv_gt hgt]; rfl
          have H1 := Lib.hid (ordv_gt hgt)
          have H2 := Lib.hid (ordv_gt (val_cmp zs ys q hlb (by omega) (by rw [hlena.out, hlenb.out]) (by rw [hlena.out]; exact hq) (by rw [← g1.out, ← g2.out]; exact hgt) (fun j hj => (HE.out j hj).symm)))
          clear hgt
          go_wp2
          go_ret
          exact ⟨by rw [H2.out, H1.out]; rfl, HD2⟩
      · have H := Lib.hid (ordv_eq (val_same (B := 4294967296) ys zs (by rw [hlena.out, hlenb.out]) HE.out))
        clear HE
        go_wp2
        go_ret
        exact ⟨by rw [H.out]; try rfl, HD⟩
  · have H := Lib.hid (ordv_gt (val_short (by omega) zs ys hlb hta (by rw [hlena.out, hlenb.out]; exact h)))
    have hb : (ordv n1 n2 != 0) = true := by rw [ordv_gt h]; rfl
    have H2 := Lib.hid (ordv_gt h)
    go_enter Try.func69, Try.ntmps69
    go_wp2_with (go_at_call 103; refine (cmpInt_any _ _ _).mono ?_; rintro e w' ⟨rfl, rfl⟩)
    go_ret
    exact ⟨by rw [H.out, H2.out]; rfl, Drawn.refl _⟩

end Go.Proofs.Ythplhlcdlnedfaa
