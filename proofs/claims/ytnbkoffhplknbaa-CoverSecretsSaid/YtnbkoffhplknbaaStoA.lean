/-
  Storage: the program's and the specification's.
-/
import Derived.Test.YtnbkoffhplknbaaPlcE
namespace Go.Proofs.Ytnbkoffhplknbaa
open Go.RowKit TR
set_option linter.unusedVariables false
set_option linter.unusedSimpArgs false

theorem places_any (K E : Int) (d r P Q G : Nat) (w : World) (hd : d < 7) (hr : r < 2 ^ d) :
    Calls Try.prog 69 #[.agg #[.int .u8 K, .int .i64 (d : Int), .int .i64 E, .int .u64 (P : Int), .int .u64 (Q : Int), .int .u64 (G : Int)], .int .i64 (r : Int)] w fun e w' => (∃ u, e = .returned u ∧ w'.ownsRow w.heap.size 35 2 u (plc K d (2 ^ d + r)).length (prs (plc K d (2 ^ d + r)))) ∧ Below w.heap.size w w' := by
  by_cases h : K = 1
  · subst h; exact places_one E d r P Q G w hd hr
  · exact places_more K E d r P Q G w hd hr h
theorem refLabels_any (K E : Int) (d r P Q G : Nat) (w : World) (hd : d < 7) (hr : r < 2 ^ d) :
    Calls Try.prog 91 #[.agg #[.int .u8 K, .int .i64 (d : Int), .int .i64 E, .int .u64 (P : Int), .int .u64 (Q : Int), .int .u64 (G : Int)], .int .i64 (r : Int)] w fun e w' => (∃ u, e = .returned u ∧ w'.ownsRow w.heap.size 35 2 u (plc K d (2 ^ d + r)).length (prs (plc K d (2 ^ d + r)))) ∧ Below w.heap.size w w' := by
  by_cases h : K = 1
  · subst h; exact refLabels_one E d r P Q G w hd hr
  · exact refLabels_more K E d r P Q G w hd hr h
/-- How many labels a secret has. -/
def stv (K D E : Int) (P Q G : Nat) : Nat := if scb K D E P Q G then (plc K D.toNat (2 ^ D.toNat)).length else 0

set_option maxRecDepth 100000 in
set_option maxHeartbeats 400000 in
theorem storage_any (K D E : Int) (P Q G : Nat) (w : World) (hK0 : 0 ≤ K) (hK1 : K ≤ 255) :
    Calls Try.prog 25 #[.agg #[.int .u8 K, .int .i64 D, .int .i64 E, .int .u64 (P : Int), .int .u64 (Q : Int), .int .u64 (G : Int)]] w fun e w' => e = .returned (.tuple #[.int .i64 (stv K D E P Q G : Int), .int .i64 (scc K D E P Q G)]) ∧ Below w.heap.size w w' := by
  obtain ⟨N, hN⟩ : ∃ N, N = w.heap.size := ⟨_, rfl⟩
  obtain ⟨W1, hW1⟩ : ∃ W1, W1 = w.alloc (.cells #[.int .u8 K, .int .i64 D, .int .i64 E, .int .u64 (P : Int), .int .u64 (Q : Int), .int .u64 (G : Int)] 28) := ⟨_, rfl⟩
  have HB1 : Hid (Below N w W1 ∧ N ≤ W1.heap.size) := Lib.hid ⟨by rw [hW1, hN]; exact below_alloc _ _, by rw [hW1, hN]; simp⟩
  have eS : Blk W1 N #[.int .u8 K, .int .i64 D, .int .i64 E, .int .u64 (P : Int), .int .u64 (Q : Int), .int .u64 (G : Int)] 28 := by rw [hW1, hN]; exact Blk.new w _ _
  have HES := Lib.hid eS
  have HV := Lib.hid (fun w => check_any K D E P Q G w hK0 hK1)
  have HN := Lib.hid hN
  have HW1 := Lib.hid hW1
  rw [← hN]
  have c0 : W1.cell? ⟨N, 0, none⟩ = some (.int .u8 K) := eS.cell 0
  have c1 : W1.cell? ⟨N, 1, none⟩ = some (.int .i64 D) := eS.cell 1
  have c2 : W1.cell? ⟨N, 2, none⟩ = some (.int .i64 E) := eS.cell 2
  have c3 : W1.cell? ⟨N, 3, none⟩ = some (.int .u64 (P : Int)) := eS.cell 3
  have c4 : W1.cell? ⟨N, 4, none⟩ = some (.int .u64 (Q : Int)) := eS.cell 4
  have c5 : W1.cell? ⟨N, 5, none⟩ = some (.int .u64 (G : Int)) := eS.cell 5
  rw [hW1, hN] at c0 c1 c2 c3 c4 c5
  clear hN hW1 eS hK0 hK1
  go_enter Try.func25, Try.ntmps25
  go_wp2_with fail
  rw [← HW1.out, ← HN.out]
  refine (HV.out _).mono ?_
  rintro e w2 ⟨rfl, hb2⟩
  have HB2 : Hid (Below N w w2 ∧ N ≤ w2.heap.size) := Lib.hid ⟨HB1.out.1.trans (hb2.mono HB1.out.2), Nat.le_trans HB1.out.2 hb2.size⟩
  have eS := HES.out.keep hb2
  clear c0 c1 c2 c3 c4 c5 hb2
  by_cases h : ScOk K D E P Q G
  · have hs := scc_yes h
    rw [hs]
    have HR : Hid (scc K D E P Q G = 0 ∧ stv K D E P Q G = (plc K D.toNat (2 ^ D.toNat)).length) := Lib.hid ⟨scc_yes h, by unfold stv; rw [scb_yes h, if_pos rfl]⟩
    obtain ⟨h1, h2, hd0, hd6, h5⟩ := h
    clear h1 h2 h5
    obtain ⟨d, rfl⟩ := Int.eq_ofNat_of_zero_le hd0
    have HP : Hid (∀ w, Calls Try.prog 69 #[.agg #[.int .u8 K, .int .i64 (d : Int), .int .i64 E, .int .u64 (P : Int), .int .u64 (Q : Int), .int .u64 (G : Int)], .int .i64 0] w fun e w' => (∃ u, e = .returned u ∧ w'.ownsRow w.heap.size 35 2 u (plc K d (2 ^ d)).length (prs (plc K d (2 ^ d)))) ∧ Below w.heap.size w w') := Lib.hid (fun w => places_any K E d 0 P Q G w (by omega) (Nat.two_pow_pos d))
    have HL : Hid (stv K d E P Q G = (plc K d (2 ^ d)).length) := Lib.hid HR.out.2
    obtain ⟨n, hn⟩ : ∃ n, n = (plc K d (2 ^ d)).length := ⟨_, rfl⟩
    obtain ⟨xs, hxs⟩ : ∃ xs, xs = prs (plc K d (2 ^ d)) := ⟨_, rfl⟩
    rw [← hn] at HL HP
    rw [← hxs] at HP
    have HR0 : Hid (scc K (d : Int) E P Q G = 0) := Lib.hid HR.out.1
    clear hn hxs HR
    have c0 : w2.cell? ⟨N, 0, none⟩ = some (.int .u8 K) := eS.cell 0
    have c1 : w2.cell? ⟨N, 1, none⟩ = some (.int .i64 (d : Int)) := eS.cell 1
    have c2 : w2.cell? ⟨N, 2, none⟩ = some (.int .i64 E) := eS.cell 2
    have c3 : w2.cell? ⟨N, 3, none⟩ = some (.int .u64 (P : Int)) := eS.cell 3
    have c4 : w2.cell? ⟨N, 4, none⟩ = some (.int .u64 (Q : Int)) := eS.cell 4
    have c5 : w2.cell? ⟨N, 5, none⟩ = some (.int .u64 (G : Int)) := eS.cell 5
    clear hs eS hd0 hd6
    go_wp2_with fail
    refine (HP.out _).mono ?_
    rintro e w3 ⟨⟨u, rfl, ho⟩, hb3⟩
    have HB3 : Hid (Below N w w3) := Lib.hid (HB2.out.1.trans (hb3.mono HB2.out.2))
    obtain ⟨A, c, rfl⟩ := own_val ho
    clear c0 c1 c2 c3 c4 c5 hb3 ho
    go_wp2_with fail
    go_ret2
    exact ⟨by rw [HR0.out, HL.out]; try rfl, HB3.out⟩
  · have hs := scc_no h
    rw [hs]
    have HR : Hid (scc K D E P Q G = 30 ∧ stv K D E P Q G = 0) := Lib.hid ⟨scc_no h, by unfold stv; rw [scb_no h]; rfl⟩
    clear h hs eS
    go_wp2_with fail
    go_ret2
    exact ⟨by rw [HR.out.1, HR.out.2]; rfl, HB2.out.1⟩

set_option maxRecDepth 100000 in
set_option maxHeartbeats 400000 in
theorem refStorage_any (K D E : Int) (P Q G : Nat) (w : World) (hK0 : 0 ≤ K) (hK1 : K ≤ 255) :
    Calls Try.prog 31 #[.agg #[.int .u8 K, .int .i64 D, .int .i64 E, .int .u64 (P : Int), .int .u64 (Q : Int), .int .u64 (G : Int)]] w fun e w' => e = .returned (.tuple #[.int .i64 (stv K D E P Q G : Int), .int .i64 (scc K D E P Q G)]) ∧ Below w.heap.size w w' := by
  obtain ⟨N, hN⟩ : ∃ N, N = w.heap.size := ⟨_, rfl⟩
  obtain ⟨W1, hW1⟩ : ∃ W1, W1 = w.alloc (.cells #[.int .u8 K, .int .i64 D, .int .i64 E, .int .u64 (P : Int), .int .u64 (Q : Int), .int .u64 (G : Int)] 28) := ⟨_, rfl⟩
  have HB1 : Hid (Below N w W1 ∧ N ≤ W1.heap.size) := Lib.hid ⟨by rw [hW1, hN]; exact below_alloc _ _, by rw [hW1, hN]; simp⟩
  have eS : Blk W1 N #[.int .u8 K, .int .i64 D, .int .i64 E, .int .u64 (P : Int), .int .u64 (Q : Int), .int .u64 (G : Int)] 28 := by rw [hW1, hN]; exact Blk.new w _ _
  have HES := Lib.hid eS
  have HV := Lib.hid (fun w => refValid_any K D E P Q G w hK0 hK1)
  have HN := Lib.hid hN
  have HW1 := Lib.hid hW1
  rw [← hN]
  have c0 : W1.cell? ⟨N, 0, none⟩ = some (.int .u8 K) := eS.cell 0
  have c1 : W1.cell? ⟨N, 1, none⟩ = some (.int .i64 D) := eS.cell 1
  have c2 : W1.cell? ⟨N, 2, none⟩ = some (.int .i64 E) := eS.cell 2
  have c3 : W1.cell? ⟨N, 3, none⟩ = some (.int .u64 (P : Int)) := eS.cell 3
  have c4 : W1.cell? ⟨N, 4, none⟩ = some (.int .u64 (Q : Int)) := eS.cell 4
  have c5 : W1.cell? ⟨N, 5, none⟩ = some (.int .u64 (G : Int)) := eS.cell 5
  rw [hW1, hN] at c0 c1 c2 c3 c4 c5
  clear hN hW1 eS hK0 hK1
  go_enter Try.func31, Try.ntmps31
  go_wp2_with fail
  rw [← HW1.out, ← HN.out]
  refine (HV.out _).mono ?_
  rintro e w2 ⟨rfl, hb2⟩
  have HB2 : Hid (Below N w w2 ∧ N ≤ w2.heap.size) := Lib.hid ⟨HB1.out.1.trans (hb2.mono HB1.out.2), Nat.le_trans HB1.out.2 hb2.size⟩
  have eS := HES.out.keep hb2
  clear c0 c1 c2 c3 c4 c5 hb2
  by_cases h : ScOk K D E P Q G
  · have hs := scb_yes h
    rw [hs]
    have HR : Hid (scc K D E P Q G = 0 ∧ stv K D E P Q G = (plc K D.toNat (2 ^ D.toNat)).length) := Lib.hid ⟨scc_yes h, by unfold stv; rw [scb_yes h, if_pos rfl]⟩
    obtain ⟨h1, h2, hd0, hd6, h5⟩ := h
    clear h1 h2 h5
    obtain ⟨d, rfl⟩ := Int.eq_ofNat_of_zero_le hd0
    have HP : Hid (∀ w, Calls Try.prog 91 #[.agg #[.int .u8 K, .int .i64 (d : Int), .int .i64 E, .int .u64 (P : Int), .int .u64 (Q : Int), .int .u64 (G : Int)], .int .i64 0] w fun e w' => (∃ u, e = .returned u ∧ w'.ownsRow w.heap.size 35 2 u (plc K d (2 ^ d)).length (prs (plc K d (2 ^ d)))) ∧ Below w.heap.size w w') := Lib.hid (fun w => refLabels_any K E d 0 P Q G w (by omega) (Nat.two_pow_pos d))
    have HL : Hid (stv K d E P Q G = (plc K d (2 ^ d)).length) := Lib.hid HR.out.2
    obtain ⟨n, hn⟩ : ∃ n, n = (plc K d (2 ^ d)).length := ⟨_, rfl⟩
    obtain ⟨xs, hxs⟩ : ∃ xs, xs = prs (plc K d (2 ^ d)) := ⟨_, rfl⟩
    rw [← hn] at HL HP
    rw [← hxs] at HP
    have HR0 : Hid (scc K (d : Int) E P Q G = 0) := Lib.hid HR.out.1
    clear hn hxs HR
    have c0 : w2.cell? ⟨N, 0, none⟩ = some (.int .u8 K) := eS.cell 0
    have c1 : w2.cell? ⟨N, 1, none⟩ = some (.int .i64 (d : Int)) := eS.cell 1
    have c2 : w2.cell? ⟨N, 2, none⟩ = some (.int .i64 E) := eS.cell 2
    have c3 : w2.cell? ⟨N, 3, none⟩ = some (.int .u64 (P : Int)) := eS.cell 3
    have c4 : w2.cell? ⟨N, 4, none⟩ = some (.int .u64 (Q : Int)) := eS.cell 4
    have c5 : w2.cell? ⟨N, 5, none⟩ = some (.int .u64 (G : Int)) := eS.cell 5
    clear hs eS hd0 hd6
    go_wp2_with fail
    refine (HP.out _).mono ?_
    rintro e w3 ⟨⟨u, rfl, ho⟩, hb3⟩
    have HB3 : Hid (Below N w w3) := Lib.hid (HB2.out.1.trans (hb3.mono HB2.out.2))
    obtain ⟨A, c, rfl⟩ := own_val ho
    clear c0 c1 c2 c3 c4 c5 hb3 ho
    go_wp2_with fail
    go_ret2
    exact ⟨by rw [HR0.out, HL.out]; try rfl, HB3.out⟩
  · have hs := scb_no h
    rw [hs]
    have HR : Hid (scc K D E P Q G = 30 ∧ stv K D E P Q G = 0) := Lib.hid ⟨scc_no h, by unfold stv; rw [scb_no h]; rfl⟩
    clear h hs eS
    go_wp2_with fail
    go_ret2
    exact ⟨by rw [HR.out.1, HR.out.2]; rfl, HB2.out.1⟩
end Go.Proofs.Ytnbkoffhplknbaa
