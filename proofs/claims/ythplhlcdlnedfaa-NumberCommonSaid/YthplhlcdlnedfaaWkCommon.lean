/- The walk over NumberCommon. -/
import Derived.Test.YthplhlcdlnedfaaLawNum
namespace Go.Proofs.Ythplhlcdlnedfaa.numberCommon
open Go.RowKit MN

theorem nm_any {w : World} {v : Value} {N : Nat} (h : Nm w v N) : ∃ A n c, v = .slice A n c ∧ n ≤ 16 := by
  obtain ⟨⟨A, n, c, rfl, a⟩, hN⟩ := h
  exact ⟨A, n, c, rfl, by rw [← a.rd.len]; exact digs_len (by omega) _ _ hN⟩
theorem nm_zero {w : World} {v : Value} (h : Nm w v 0) : ∃ A c, v = .slice A 0 c := by
  obtain ⟨⟨A, n, c, rfl, a⟩, hN⟩ := h
  have h0 : n = 0 := by rw [← a.rd.len]; rfl
  exact ⟨A, c, by rw [h0]⟩
theorem nm_pos {w : World} {v : Value} {N : Nat} (h : Nm w v N) (hp : 0 < N) : ∃ A n c, v = .slice A n c ∧ 0 < n ∧ n ≤ 16 := by
  obtain ⟨⟨A, n, c, rfl, a⟩, hN⟩ := h
  exact ⟨A, n, c, rfl, by rw [← a.rd.len]; exact List.length_pos_iff.2 (digs_pos (by omega) hp), by rw [← a.rd.len]; exact digs_len (by omega) _ _ hN⟩

theorem gcd_co (X Y G : Nat) (hG : G = Nat.gcd X Y) (h0 : G ≠ 0) (d1 : G ∣ X) (d2 : G ∣ Y) : Nat.gcd (X / G) (Y / G) = 1 := by
  have h := Nat.gcd_mul_left G (X / G) (Y / G)
  rw [Nat.mul_div_cancel' d1, Nat.mul_div_cancel' d2, ← hG] at h
  exact Nat.eq_of_mul_eq_mul_left (Nat.pos_of_ne_zero h0) (by rw [Nat.mul_one]; exact h.symm)

theorem isB_one : isB 0 (digs 4294967296 1) [1] = true := ex_is _ _ (by unfold Low; decide) (by unfold Top; decide) (by decide)

theorem is_v {w : World} {v : Value} {N : Nat} (h : Nm w v N) (code : Int) (ds : List Nat) (ar : Array Value) (har : ar = (vs32 ds).toArray) (k : Nat) (hk : ds.length = k) (hk2 : k ≤ 16) :
    Calls Try.prog 25 #[v, .int .i64 code, .slice (some ⟨w.heap.size, 0, none⟩) k k] (w.alloc (.cells ar 24)) fun e w' => e = .returned (.bool (isB code (digs 4294967296 N) ds)) ∧ Below w.heap.size w w' := by
  subst har
  obtain ⟨⟨A, n, c, rfl, a⟩, hN⟩ := h
  have hb := below_alloc w (.cells (vs32 ds).toArray 24)
  have hr : Rd .u32 (w.alloc (.cells (vs32 ds).toArray 24)) (some ⟨w.heap.size, 0, none⟩) k k ds := ⟨hk, Nat.le_refl _, by simp [maxLen]; omega, fun _ => ⟨w.heap.size, 0, rfl, fun i hi => by
    rw [World.cell?_alloc_at (hn := by simp), dg_get ds i (by omega)]
    simp [vs32, List.getElem?_eq_getElem (show i < ds.length by omega)]⟩⟩
  refine (is_any A _ n c k k code _ ds _ (a.rd.keep hb) hr).mono fun e w' => ?_
  rintro ⟨rfl, hd⟩
  exact ⟨rfl, hb.trans (hd.below.mono (by simp))⟩

theorem is_nil {w : World} {v : Value} {N : Nat} (h : Nm w v N) (hN : N = 0) :
    Calls Try.prog 25 #[v, .int .i64 0, .slice none 0 0] w fun e w' => e = .returned (.bool true) ∧ Below w.heap.size w w' := by
  subst hN
  obtain ⟨⟨A, n, c, rfl, a⟩, hN⟩ := h
  refine (is_any A _ n c 0 0 0 _ [] _ a.rd (Rd.nil _ _)).mono fun e w' => ?_
  rintro ⟨rfl, hd⟩
  exact ⟨rfl, hd.below⟩

set_option maxRecDepth 100000 in
set_option maxHeartbeats 2000000 in
theorem walk (a0 : Option Addr) (len0 cap0 : Nat) (z0 : List Int) (a1 : Option Addr) (len1 cap1 : Nat) (z1 : List Int) (a2 : Option Addr) (len2 cap2 : Nat) (z2 : List Int) (w : World) (w0 : IsRow .u32 w a0 len0 cap0 z0) (w1 : IsRow .u32 w a1 len1 cap1 z1) (w2 : IsRow .u32 w a2 len2 cap2 z2) :
    Calls Try.prog 12 #[.slice a0 len0 cap0, .slice a1 len1 cap1, .slice a2 len2 cap2] w fun e w' => e = .returned (.bool true) ∧ Below w.heap.size w w' := by
  obtain ⟨xs, ax⟩ := arg_of w0
  obtain ⟨ys, ay⟩ := arg_of w1
  obtain ⟨zs, az⟩ := arg_of w2
  clear w0 w1 w2
  have HA := Lib.hid (alive_any w)
  cases hx : vB xs
  · have hx' := Lib.hid hx
    clear hx
    go_enter Try.func12, Try.ntmps12
    go_wp2_with fail
    refine HA.out.mono ?_
    rintro e w2 ⟨rfl, hb⟩
    go_wp2_with fail
    refine (valid_v (ax.keep hb) _ hx'.out).mono ?_
    rintro e w3 ⟨rfl, rfl⟩
    go_wp2
    go_ret
    exact ⟨rfl, hb⟩
  · cases hy : vB ys
    · have hx' := Lib.hid hx
      have hy' := Lib.hid hy
      clear hx hy
      go_enter Try.func12, Try.ntmps12
      go_wp2_with fail
      refine HA.out.mono ?_
      rintro e w2 ⟨rfl, hb⟩
      go_wp2_with fail
      refine (valid_v (ax.keep hb) _ hx'.out).mono ?_
      rintro e w3 ⟨rfl, rfl⟩
      go_wp2_with fail
      refine (valid_v (ay.keep hb) _ hy'.out).mono ?_
      rintro e w3 ⟨rfl, rfl⟩
      go_wp2
      go_ret
      exact ⟨rfl, hb⟩
    · cases hz : vB zs
      · have hx' := Lib.hid hx
        have hy' := Lib.hid hy
        have hz' := Lib.hid hz
        clear hx hy hz
        go_enter Try.func12, Try.ntmps12
        go_wp2_with fail
        refine HA.out.mono ?_
        rintro e w2 ⟨rfl, hb⟩
        go_wp2_with fail
        refine (valid_v (ax.keep hb) _ hx'.out).mono ?_
        rintro e w3 ⟨rfl, rfl⟩
        go_wp2_with fail
        refine (valid_v (ay.keep hb) _ hy'.out).mono ?_
        rintro e w3 ⟨rfl, rfl⟩
        go_wp2_with fail
        refine (valid_v (az.keep hb) _ hz'.out).mono ?_
        rintro e w3 ⟨rfl, rfl⟩
        go_wp2
        go_ret
        exact ⟨rfl, hb⟩
      · have nx := ax.nm (vB_yes hx)
        have ny := ay.nm (vB_yes hy)
        have nz := az.nm (vB_yes hz)
        have lx := len_zero ax (vB_yes hx)
        have ly := len_zero ay (vB_yes hy)
        have lz := len_zero az (vB_yes hz)
        have hx' := Lib.hid hx
        have hy' := Lib.hid hy
        have hz' := Lib.hid hz
        clear hx hy hz
        obtain ⟨X, hX⟩ : ∃ X, X = nv xs := ⟨_, rfl⟩
        obtain ⟨Y, hY⟩ : ∃ Y, Y = nv ys := ⟨_, rfl⟩
        obtain ⟨Z, hZv⟩ : ∃ Z, Z = nv zs := ⟨_, rfl⟩
        rw [← hX] at nx lx
        rw [← hY] at ny ly
        rw [← hZv] at nz lz
        clear hX hY hZv
        by_cases hboth : X = 0 ∧ Y = 0
        · obtain ⟨rfl, rfl⟩ := hboth
          obtain rfl := lx.2 rfl
          obtain rfl := ly.2 rfl
          clear lx ly lz
          go_enter Try.func12, Try.ntmps12
          go_wp2_with fail
          refine HA.out.mono ?_
          rintro e w2 ⟨rfl, hb⟩
          go_wp2_with fail
          refine (valid_v (ax.keep hb) _ hx'.out).mono ?_
          rintro e w3 ⟨rfl, rfl⟩
          go_wp2_with fail
          refine (valid_v (ay.keep hb) _ hy'.out).mono ?_
          rintro e w3 ⟨rfl, rfl⟩
          go_wp2_with fail
          refine (valid_v (az.keep hb) _ hz'.out).mono ?_
          rintro e w3 ⟨rfl, rfl⟩
          replace nx := nx.keep hb
          replace ny := ny.keep hb
          replace nz := nz.keep hb
          go_wp2_with fail
          refine (gcd_v nx ny).mono ?_
          rintro e w5 ⟨g, rfl, ng, hc⟩
          replace nx := nx.keep hc
          replace ny := ny.keep hc
          replace nz := nz.keep hc
          replace hb := hb.trans (hc.mono hb.size)
          clear hc
          go_wp2_with fail
          refine (is_nil ng rfl).mono ?_
          rintro e w6 ⟨rfl, hc⟩
          replace nx := nx.keep hc
          replace ny := ny.keep hc
          replace nz := nz.keep hc
          replace ng := ng.keep hc
          replace hb := hb.trans (hc.mono hb.size)
          clear hc
          go_wp2
          go_ret
          exact ⟨rfl, hb⟩
        · obtain ⟨G, HG⟩ : ∃ G, G = Nat.gcd X Y := ⟨_, rfl⟩
          have hG0 : G ≠ 0 := by
            rw [HG]; intro e
            exact hboth ⟨Nat.eq_zero_of_gcd_eq_zero_left e, Nat.eq_zero_of_gcd_eq_zero_right e⟩
          have d1 : G ∣ X := by rw [HG]; exact Nat.gcd_dvd_left X Y
          have d2 : G ∣ Y := by rw [HG]; exact Nat.gcd_dvd_right X Y
          have D1 : X % G = 0 := Nat.mod_eq_zero_of_dvd d1
          have D2 : Y % G = 0 := Nat.mod_eq_zero_of_dvd d2
          have D3 : Nat.gcd (X / G) (Y / G) = 1 := by
            exact gcd_co X Y G HG hG0 d1 d2
          have hguard : (len0 = 0 ∧ ((len1 : Int) == 0) = false) ∨ ((len0 : Int) == 0) = false := by
            by_cases h : X = 0
            · refine .inl ⟨lx.2 h, ?_⟩
              have : ¬ len1 = 0 := fun e => hboth ⟨h, ly.1 e⟩
              rw [beq_eq_false_iff_ne]; omega
            · refine .inr ?_
              have : ¬ len0 = 0 := fun e => h (lx.1 e)
              rw [beq_eq_false_iff_ne]; omega
          have rest : ∀ (hz : Z ≠ 0), (0 < X % Z) ∨ (X % Z = 0 ∧ 0 < Y % Z) ∨ (X % Z = 0 ∧ Y % Z = 0 ∧ G % Z = 0) := fun hz => by
            rcases Nat.eq_zero_or_pos (X % Z) with h1 | h1
            · rcases Nat.eq_zero_or_pos (Y % Z) with h2 | h2
              · refine .inr (.inr ⟨h1, h2, ?_⟩)
                rw [HG]
                exact Nat.mod_eq_zero_of_dvd (Nat.dvd_gcd (Nat.dvd_of_mod_eq_zero h1) (Nat.dvd_of_mod_eq_zero h2))
              · exact .inr (.inl ⟨h1, h2⟩)
            · exact .inl h1
          clear hboth d1 d2 lx ly
          rcases hguard with ⟨rfl, hguard⟩ | hguard
          · by_cases hZ : Z = 0
            · obtain rfl := lz.2 hZ
              clear lz rest
              go_enter Try.func12, Try.ntmps12
              go_wp2_with fail
              refine HA.out.mono ?_
              rintro e w2 ⟨rfl, hb⟩
              go_wp2_with fail
              refine (valid_v (ax.keep hb) _ hx'.out).mono ?_
              rintro e w3 ⟨rfl, rfl⟩
              go_wp2_with fail
              refine (valid_v (ay.keep hb) _ hy'.out).mono ?_
              rintro e w3 ⟨rfl, rfl⟩
              go_wp2_with fail
              refine (valid_v (az.keep hb) _ hz'.out).mono ?_
              rintro e w3 ⟨rfl, rfl⟩
              replace nx := nx.keep hb
              replace ny := ny.keep hb
              replace nz := nz.keep hb
              go_wp2_with fail
              refine (gcd_v nx ny).mono ?_
              rw [← HG]
              rintro e w5 ⟨g, rfl, ng, hc⟩
              replace nx := nx.keep hc
              replace ny := ny.keep hc
              replace nz := nz.keep hc
              replace hb := hb.trans (hc.mono hb.size)
              clear hc
              go_wp2_with fail
              refine (div_v nx ng hG0).mono ?_
              rw [D1]
              rintro e w6 ⟨q1, r1, rfl, nq1, nr1, hc⟩
              replace nx := nx.keep hc
              replace ny := ny.keep hc
              replace nz := nz.keep hc
              replace ng := ng.keep hc
              replace hb := hb.trans (hc.mono hb.size)
              clear hc
              obtain ⟨A1, c1, rfl⟩ := nm_zero nr1
              clear nr1
              go_wp2_with fail
              refine (div_v ny ng hG0).mono ?_
              rw [D2]
              rintro e w7 ⟨q2, r2, rfl, nq2, nr2, hc⟩
              replace nx := nx.keep hc
              replace ny := ny.keep hc
              replace nz := nz.keep hc
              replace ng := ng.keep hc
              replace nq1 := nq1.keep hc
              replace hb := hb.trans (hc.mono hb.size)
              clear hc
              obtain ⟨A2, c2, rfl⟩ := nm_zero nr2
              clear nr2
              go_wp2_with fail
              refine (gcd_v nq1 nq2).mono ?_
              rw [D3]
              rintro e w8 ⟨o, rfl, no, hc⟩
              replace nx := nx.keep hc
              replace ny := ny.keep hc
              replace nz := nz.keep hc
              replace ng := ng.keep hc
              replace hb := hb.trans (hc.mono hb.size)
              clear hc
              go_wp2_with fail
              refine (is_v no 0 [1] _ rfl 1 rfl (by decide)).mono ?_
              rw [isB_one]
              rintro e w9 ⟨rfl, hc⟩
              replace nx := nx.keep hc
              replace ny := ny.keep hc
              replace nz := nz.keep hc
              replace ng := ng.keep hc
              replace hb := hb.trans (hc.mono hb.size)
              clear hc
              go_wp2
              go_ret
              exact ⟨rfl, hb⟩
            · have lz' : ((len2 : Int) == 0) = false := by
                have : ¬ len2 = 0 := fun e => hZ (lz.1 e)
                rw [beq_eq_false_iff_ne]; omega
              rcases rest hZ with hpos3 | ⟨R1, hpos4⟩ | ⟨R1, R2, R3⟩
              · clear lz rest
                go_enter Try.func12, Try.ntmps12
                go_wp2_with fail
                refine HA.out.mono ?_
                rintro e w2 ⟨rfl, hb⟩
                go_wp2_with fail
                refine (valid_v (ax.keep hb) _ hx'.out).mono ?_
                rintro e w3 ⟨rfl, rfl⟩
                go_wp2_with fail
                refine (valid_v (ay.keep hb) _ hy'.out).mono ?_
                rintro e w3 ⟨rfl, rfl⟩
                go_wp2_with fail
                refine (valid_v (az.keep hb) _ hz'.out).mono ?_
                rintro e w3 ⟨rfl, rfl⟩
                replace nx := nx.keep hb
                replace ny := ny.keep hb
                replace nz := nz.keep hb
                go_wp2_with fail
                refine (gcd_v nx ny).mono ?_
                rw [← HG]
                rintro e w5 ⟨g, rfl, ng, hc⟩
                replace nx := nx.keep hc
                replace ny := ny.keep hc
                replace nz := nz.keep hc
                replace hb := hb.trans (hc.mono hb.size)
                clear hc
                go_wp2_with fail
                refine (div_v nx ng hG0).mono ?_
                rw [D1]
                rintro e w6 ⟨q1, r1, rfl, nq1, nr1, hc⟩
                replace nx := nx.keep hc
                replace ny := ny.keep hc
                replace nz := nz.keep hc
                replace ng := ng.keep hc
                replace hb := hb.trans (hc.mono hb.size)
                clear hc
                obtain ⟨A1, c1, rfl⟩ := nm_zero nr1
                clear nr1
                go_wp2_with fail
                refine (div_v ny ng hG0).mono ?_
                rw [D2]
                rintro e w7 ⟨q2, r2, rfl, nq2, nr2, hc⟩
                replace nx := nx.keep hc
                replace ny := ny.keep hc
                replace nz := nz.keep hc
                replace ng := ng.keep hc
                replace nq1 := nq1.keep hc
                replace hb := hb.trans (hc.mono hb.size)
                clear hc
                obtain ⟨A2, c2, rfl⟩ := nm_zero nr2
                clear nr2
                go_wp2_with fail
                refine (gcd_v nq1 nq2).mono ?_
                rw [D3]
                rintro e w8 ⟨o, rfl, no, hc⟩
                replace nx := nx.keep hc
                replace ny := ny.keep hc
                replace nz := nz.keep hc
                replace ng := ng.keep hc
                replace hb := hb.trans (hc.mono hb.size)
                clear hc
                go_wp2_with fail
                refine (is_v no 0 [1] _ rfl 1 rfl (by decide)).mono ?_
                rw [isB_one]
                rintro e w9 ⟨rfl, hc⟩
                replace nx := nx.keep hc
                replace ny := ny.keep hc
                replace nz := nz.keep hc
                replace ng := ng.keep hc
                replace hb := hb.trans (hc.mono hb.size)
                clear hc
                go_wp2_with fail
                refine (div_v nx nz hZ).mono ?_
                rintro e w10 ⟨q3, r3, rfl, nq3, nr3, hc⟩
                replace nx := nx.keep hc
                replace ny := ny.keep hc
                replace nz := nz.keep hc
                replace ng := ng.keep hc
                replace hb := hb.trans (hc.mono hb.size)
                clear hc
                obtain ⟨A3, m3, c3, rfl, hm3, hq3⟩ := nm_pos nr3 hpos3
                clear nr3
                go_wp2_with fail
                refine (div_v ny nz hZ).mono ?_
                rintro e w11 ⟨q4, r4, rfl, nq4, nr4, hc⟩
                replace nx := nx.keep hc
                replace ny := ny.keep hc
                replace nz := nz.keep hc
                replace ng := ng.keep hc
                replace nq3 := nq3.keep hc
                replace hb := hb.trans (hc.mono hb.size)
                clear hc
                obtain ⟨A4, m4, c4, rfl, hq4⟩ := nm_any nr4
                clear nr4
                go_wp2_with fail
                refine (div_v ng nz hZ).mono ?_
                rintro e w12 ⟨q5, r5, rfl, nq5, nr5, hc⟩
                replace nx := nx.keep hc
                replace ny := ny.keep hc
                replace nz := nz.keep hc
                replace ng := ng.keep hc
                replace nq3 := nq3.keep hc
                replace nq4 := nq4.keep hc
                replace hb := hb.trans (hc.mono hb.size)
                clear hc
                obtain ⟨A5, m5, c5, rfl, hq5⟩ := nm_any nr5
                clear nr5
                go_wp2
                go_ret
                exact ⟨rfl, hb⟩
              · clear lz rest
                go_enter Try.func12, Try.ntmps12
                go_wp2_with fail
                refine HA.out.mono ?_
                rintro e w2 ⟨rfl, hb⟩
                go_wp2_with fail
                refine (valid_v (ax.keep hb) _ hx'.out).mono ?_
                rintro e w3 ⟨rfl, rfl⟩
                go_wp2_with fail
                refine (valid_v (ay.keep hb) _ hy'.out).mono ?_
                rintro e w3 ⟨rfl, rfl⟩
                go_wp2_with fail
                refine (valid_v (az.keep hb) _ hz'.out).mono ?_
                rintro e w3 ⟨rfl, rfl⟩
                replace nx := nx.keep hb
                replace ny := ny.keep hb
                replace nz := nz.keep hb
                go_wp2_with fail
                refine (gcd_v nx ny).mono ?_
                rw [← HG]
                rintro e w5 ⟨g, rfl, ng, hc⟩
                replace nx := nx.keep hc
                replace ny := ny.keep hc
                replace nz := nz.keep hc
                replace hb := hb.trans (hc.mono hb.size)
                clear hc
                go_wp2_with fail
                refine (div_v nx ng hG0).mono ?_
                rw [D1]
                rintro e w6 ⟨q1, r1, rfl, nq1, nr1, hc⟩
                replace nx := nx.keep hc
                replace ny := ny.keep hc
                replace nz := nz.keep hc
                replace ng := ng.keep hc
                replace hb := hb.trans (hc.mono hb.size)
                clear hc
                obtain ⟨A1, c1, rfl⟩ := nm_zero nr1
                clear nr1
                go_wp2_with fail
                refine (div_v ny ng hG0).mono ?_
                rw [D2]
                rintro e w7 ⟨q2, r2, rfl, nq2, nr2, hc⟩
                replace nx := nx.keep hc
                replace ny := ny.keep hc
                replace nz := nz.keep hc
                replace ng := ng.keep hc
                replace nq1 := nq1.keep hc
                replace hb := hb.trans (hc.mono hb.size)
                clear hc
                obtain ⟨A2, c2, rfl⟩ := nm_zero nr2
                clear nr2
                go_wp2_with fail
                refine (gcd_v nq1 nq2).mono ?_
                rw [D3]
                rintro e w8 ⟨o, rfl, no, hc⟩
                replace nx := nx.keep hc
                replace ny := ny.keep hc
                replace nz := nz.keep hc
                replace ng := ng.keep hc
                replace hb := hb.trans (hc.mono hb.size)
                clear hc
                go_wp2_with fail
                refine (is_v no 0 [1] _ rfl 1 rfl (by decide)).mono ?_
                rw [isB_one]
                rintro e w9 ⟨rfl, hc⟩
                replace nx := nx.keep hc
                replace ny := ny.keep hc
                replace nz := nz.keep hc
                replace ng := ng.keep hc
                replace hb := hb.trans (hc.mono hb.size)
                clear hc
                go_wp2_with fail
                refine (div_v nx nz hZ).mono ?_
                rw [R1]
                rintro e w10 ⟨q3, r3, rfl, nq3, nr3, hc⟩
                replace nx := nx.keep hc
                replace ny := ny.keep hc
                replace nz := nz.keep hc
                replace ng := ng.keep hc
                replace hb := hb.trans (hc.mono hb.size)
                clear hc
                obtain ⟨A3, c3, rfl⟩ := nm_zero nr3
                clear nr3
                go_wp2_with fail
                refine (div_v ny nz hZ).mono ?_
                rintro e w11 ⟨q4, r4, rfl, nq4, nr4, hc⟩
                replace nx := nx.keep hc
                replace ny := ny.keep hc
                replace nz := nz.keep hc
                replace ng := ng.keep hc
                replace nq3 := nq3.keep hc
                replace hb := hb.trans (hc.mono hb.size)
                clear hc
                obtain ⟨A4, m4, c4, rfl, hm4, hq4⟩ := nm_pos nr4 hpos4
                clear nr4
                go_wp2_with fail
                refine (div_v ng nz hZ).mono ?_
                rintro e w12 ⟨q5, r5, rfl, nq5, nr5, hc⟩
                replace nx := nx.keep hc
                replace ny := ny.keep hc
                replace nz := nz.keep hc
                replace ng := ng.keep hc
                replace nq3 := nq3.keep hc
                replace nq4 := nq4.keep hc
                replace hb := hb.trans (hc.mono hb.size)
                clear hc
                obtain ⟨A5, m5, c5, rfl, hq5⟩ := nm_any nr5
                clear nr5
                go_wp2
                go_ret
                exact ⟨rfl, hb⟩
              · clear lz rest
                go_enter Try.func12, Try.ntmps12
                go_wp2_with fail
                refine HA.out.mono ?_
                rintro e w2 ⟨rfl, hb⟩
                go_wp2_with fail
                refine (valid_v (ax.keep hb) _ hx'.out).mono ?_
                rintro e w3 ⟨rfl, rfl⟩
                go_wp2_with fail
                refine (valid_v (ay.keep hb) _ hy'.out).mono ?_
                rintro e w3 ⟨rfl, rfl⟩
                go_wp2_with fail
                refine (valid_v (az.keep hb) _ hz'.out).mono ?_
                rintro e w3 ⟨rfl, rfl⟩
                replace nx := nx.keep hb
                replace ny := ny.keep hb
                replace nz := nz.keep hb
                go_wp2_with fail
                refine (gcd_v nx ny).mono ?_
                rw [← HG]
                rintro e w5 ⟨g, rfl, ng, hc⟩
                replace nx := nx.keep hc
                replace ny := ny.keep hc
                replace nz := nz.keep hc
                replace hb := hb.trans (hc.mono hb.size)
                clear hc
                go_wp2_with fail
                refine (div_v nx ng hG0).mono ?_
                rw [D1]
                rintro e w6 ⟨q1, r1, rfl, nq1, nr1, hc⟩
                replace nx := nx.keep hc
                replace ny := ny.keep hc
                replace nz := nz.keep hc
                replace ng := ng.keep hc
                replace hb := hb.trans (hc.mono hb.size)
                clear hc
                obtain ⟨A1, c1, rfl⟩ := nm_zero nr1
                clear nr1
                go_wp2_with fail
                refine (div_v ny ng hG0).mono ?_
                rw [D2]
                rintro e w7 ⟨q2, r2, rfl, nq2, nr2, hc⟩
                replace nx := nx.keep hc
                replace ny := ny.keep hc
                replace nz := nz.keep hc
                replace ng := ng.keep hc
                replace nq1 := nq1.keep hc
                replace hb := hb.trans (hc.mono hb.size)
                clear hc
                obtain ⟨A2, c2, rfl⟩ := nm_zero nr2
                clear nr2
                go_wp2_with fail
                refine (gcd_v nq1 nq2).mono ?_
                rw [D3]
                rintro e w8 ⟨o, rfl, no, hc⟩
                replace nx := nx.keep hc
                replace ny := ny.keep hc
                replace nz := nz.keep hc
                replace ng := ng.keep hc
                replace hb := hb.trans (hc.mono hb.size)
                clear hc
                go_wp2_with fail
                refine (is_v no 0 [1] _ rfl 1 rfl (by decide)).mono ?_
                rw [isB_one]
                rintro e w9 ⟨rfl, hc⟩
                replace nx := nx.keep hc
                replace ny := ny.keep hc
                replace nz := nz.keep hc
                replace ng := ng.keep hc
                replace hb := hb.trans (hc.mono hb.size)
                clear hc
                go_wp2_with fail
                refine (div_v nx nz hZ).mono ?_
                rw [R1]
                rintro e w10 ⟨q3, r3, rfl, nq3, nr3, hc⟩
                replace nx := nx.keep hc
                replace ny := ny.keep hc
                replace nz := nz.keep hc
                replace ng := ng.keep hc
                replace hb := hb.trans (hc.mono hb.size)
                clear hc
                obtain ⟨A3, c3, rfl⟩ := nm_zero nr3
                clear nr3
                go_wp2_with fail
                refine (div_v ny nz hZ).mono ?_
                rw [R2]
                rintro e w11 ⟨q4, r4, rfl, nq4, nr4, hc⟩
                replace nx := nx.keep hc
                replace ny := ny.keep hc
                replace nz := nz.keep hc
                replace ng := ng.keep hc
                replace nq3 := nq3.keep hc
                replace hb := hb.trans (hc.mono hb.size)
                clear hc
                obtain ⟨A4, c4, rfl⟩ := nm_zero nr4
                clear nr4
                go_wp2_with fail
                refine (div_v ng nz hZ).mono ?_
                rw [R3]
                rintro e w12 ⟨q5, r5, rfl, nq5, nr5, hc⟩
                replace nx := nx.keep hc
                replace ny := ny.keep hc
                replace nz := nz.keep hc
                replace ng := ng.keep hc
                replace nq3 := nq3.keep hc
                replace nq4 := nq4.keep hc
                replace hb := hb.trans (hc.mono hb.size)
                clear hc
                obtain ⟨A5, c5, rfl⟩ := nm_zero nr5
                clear nr5
                go_wp2
                go_ret
                exact ⟨rfl, hb⟩
          · by_cases hZ : Z = 0
            · obtain rfl := lz.2 hZ
              clear lz rest
              go_enter Try.func12, Try.ntmps12
              go_wp2_with fail
              refine HA.out.mono ?_
              rintro e w2 ⟨rfl, hb⟩
              go_wp2_with fail
              refine (valid_v (ax.keep hb) _ hx'.out).mono ?_
              rintro e w3 ⟨rfl, rfl⟩
              go_wp2_with fail
              refine (valid_v (ay.keep hb) _ hy'.out).mono ?_
              rintro e w3 ⟨rfl, rfl⟩
              go_wp2_with fail
              refine (valid_v (az.keep hb) _ hz'.out).mono ?_
              rintro e w3 ⟨rfl, rfl⟩
              replace nx := nx.keep hb
              replace ny := ny.keep hb
              replace nz := nz.keep hb
              go_wp2_with fail
              refine (gcd_v nx ny).mono ?_
              rw [← HG]
              rintro e w5 ⟨g, rfl, ng, hc⟩
              replace nx := nx.keep hc
              replace ny := ny.keep hc
              replace nz := nz.keep hc
              replace hb := hb.trans (hc.mono hb.size)
              clear hc
              go_wp2_with fail
              refine (div_v nx ng hG0).mono ?_
              rw [D1]
              rintro e w6 ⟨q1, r1, rfl, nq1, nr1, hc⟩
              replace nx := nx.keep hc
              replace ny := ny.keep hc
              replace nz := nz.keep hc
              replace ng := ng.keep hc
              replace hb := hb.trans (hc.mono hb.size)
              clear hc
              obtain ⟨A1, c1, rfl⟩ := nm_zero nr1
              clear nr1
              go_wp2_with fail
              refine (div_v ny ng hG0).mono ?_
              rw [D2]
              rintro e w7 ⟨q2, r2, rfl, nq2, nr2, hc⟩
              replace nx := nx.keep hc
              replace ny := ny.keep hc
              replace nz := nz.keep hc
              replace ng := ng.keep hc
              replace nq1 := nq1.keep hc
              replace hb := hb.trans (hc.mono hb.size)
              clear hc
              obtain ⟨A2, c2, rfl⟩ := nm_zero nr2
              clear nr2
              go_wp2_with fail
              refine (gcd_v nq1 nq2).mono ?_
              rw [D3]
              rintro e w8 ⟨o, rfl, no, hc⟩
              replace nx := nx.keep hc
              replace ny := ny.keep hc
              replace nz := nz.keep hc
              replace ng := ng.keep hc
              replace hb := hb.trans (hc.mono hb.size)
              clear hc
              go_wp2_with fail
              refine (is_v no 0 [1] _ rfl 1 rfl (by decide)).mono ?_
              rw [isB_one]
              rintro e w9 ⟨rfl, hc⟩
              replace nx := nx.keep hc
              replace ny := ny.keep hc
              replace nz := nz.keep hc
              replace ng := ng.keep hc
              replace hb := hb.trans (hc.mono hb.size)
              clear hc
              go_wp2
              go_ret
              exact ⟨rfl, hb⟩
            · have lz' : ((len2 : Int) == 0) = false := by
                have : ¬ len2 = 0 := fun e => hZ (lz.1 e)
                rw [beq_eq_false_iff_ne]; omega
              rcases rest hZ with hpos3 | ⟨R1, hpos4⟩ | ⟨R1, R2, R3⟩
              · clear lz rest
                go_enter Try.func12, Try.ntmps12
                go_wp2_with fail
                refine HA.out.mono ?_
                rintro e w2 ⟨rfl, hb⟩
                go_wp2_with fail
                refine (valid_v (ax.keep hb) _ hx'.out).mono ?_
                rintro e w3 ⟨rfl, rfl⟩
                go_wp2_with fail
                refine (valid_v (ay.keep hb) _ hy'.out).mono ?_
                rintro e w3 ⟨rfl, rfl⟩
                go_wp2_with fail
                refine (valid_v (az.keep hb) _ hz'.out).mono ?_
                rintro e w3 ⟨rfl, rfl⟩
                replace nx := nx.keep hb
                replace ny := ny.keep hb
                replace nz := nz.keep hb
                go_wp2_with fail
                refine (gcd_v nx ny).mono ?_
                rw [← HG]
                rintro e w5 ⟨g, rfl, ng, hc⟩
                replace nx := nx.keep hc
                replace ny := ny.keep hc
                replace nz := nz.keep hc
                replace hb := hb.trans (hc.mono hb.size)
                clear hc
                go_wp2_with fail
                refine (div_v nx ng hG0).mono ?_
                rw [D1]
                rintro e w6 ⟨q1, r1, rfl, nq1, nr1, hc⟩
                replace nx := nx.keep hc
                replace ny := ny.keep hc
                replace nz := nz.keep hc
                replace ng := ng.keep hc
                replace hb := hb.trans (hc.mono hb.size)
                clear hc
                obtain ⟨A1, c1, rfl⟩ := nm_zero nr1
                clear nr1
                go_wp2_with fail
                refine (div_v ny ng hG0).mono ?_
                rw [D2]
                rintro e w7 ⟨q2, r2, rfl, nq2, nr2, hc⟩
                replace nx := nx.keep hc
                replace ny := ny.keep hc
                replace nz := nz.keep hc
                replace ng := ng.keep hc
                replace nq1 := nq1.keep hc
                replace hb := hb.trans (hc.mono hb.size)
                clear hc
                obtain ⟨A2, c2, rfl⟩ := nm_zero nr2
                clear nr2
                go_wp2_with fail
                refine (gcd_v nq1 nq2).mono ?_
                rw [D3]
                rintro e w8 ⟨o, rfl, no, hc⟩
                replace nx := nx.keep hc
                replace ny := ny.keep hc
                replace nz := nz.keep hc
                replace ng := ng.keep hc
                replace hb := hb.trans (hc.mono hb.size)
                clear hc
                go_wp2_with fail
                refine (is_v no 0 [1] _ rfl 1 rfl (by decide)).mono ?_
                rw [isB_one]
                rintro e w9 ⟨rfl, hc⟩
                replace nx := nx.keep hc
                replace ny := ny.keep hc
                replace nz := nz.keep hc
                replace ng := ng.keep hc
                replace hb := hb.trans (hc.mono hb.size)
                clear hc
                go_wp2_with fail
                refine (div_v nx nz hZ).mono ?_
                rintro e w10 ⟨q3, r3, rfl, nq3, nr3, hc⟩
                replace nx := nx.keep hc
                replace ny := ny.keep hc
                replace nz := nz.keep hc
                replace ng := ng.keep hc
                replace hb := hb.trans (hc.mono hb.size)
                clear hc
                obtain ⟨A3, m3, c3, rfl, hm3, hq3⟩ := nm_pos nr3 hpos3
                clear nr3
                go_wp2_with fail
                refine (div_v ny nz hZ).mono ?_
                rintro e w11 ⟨q4, r4, rfl, nq4, nr4, hc⟩
                replace nx := nx.keep hc
                replace ny := ny.keep hc
                replace nz := nz.keep hc
                replace ng := ng.keep hc
                replace nq3 := nq3.keep hc
                replace hb := hb.trans (hc.mono hb.size)
                clear hc
                obtain ⟨A4, m4, c4, rfl, hq4⟩ := nm_any nr4
                clear nr4
                go_wp2_with fail
                refine (div_v ng nz hZ).mono ?_
                rintro e w12 ⟨q5, r5, rfl, nq5, nr5, hc⟩
                replace nx := nx.keep hc
                replace ny := ny.keep hc
                replace nz := nz.keep hc
                replace ng := ng.keep hc
                replace nq3 := nq3.keep hc
                replace nq4 := nq4.keep hc
                replace hb := hb.trans (hc.mono hb.size)
                clear hc
                obtain ⟨A5, m5, c5, rfl, hq5⟩ := nm_any nr5
                clear nr5
                go_wp2
                go_ret
                exact ⟨rfl, hb⟩
              · clear lz rest
                go_enter Try.func12, Try.ntmps12
                go_wp2_with fail
                refine HA.out.mono ?_
                rintro e w2 ⟨rfl, hb⟩
                go_wp2_with fail
                refine (valid_v (ax.keep hb) _ hx'.out).mono ?_
                rintro e w3 ⟨rfl, rfl⟩
                go_wp2_with fail
                refine (valid_v (ay.keep hb) _ hy'.out).mono ?_
                rintro e w3 ⟨rfl, rfl⟩
                go_wp2_with fail
                refine (valid_v (az.keep hb) _ hz'.out).mono ?_
                rintro e w3 ⟨rfl, rfl⟩
                replace nx := nx.keep hb
                replace ny := ny.keep hb
                replace nz := nz.keep hb
                go_wp2_with fail
                refine (gcd_v nx ny).mono ?_
                rw [← HG]
                rintro e w5 ⟨g, rfl, ng, hc⟩
                replace nx := nx.keep hc
                replace ny := ny.keep hc
                replace nz := nz.keep hc
                replace hb := hb.trans (hc.mono hb.size)
                clear hc
                go_wp2_with fail
                refine (div_v nx ng hG0).mono ?_
                rw [D1]
                rintro e w6 ⟨q1, r1, rfl, nq1, nr1, hc⟩
                replace nx := nx.keep hc
                replace ny := ny.keep hc
                replace nz := nz.keep hc
                replace ng := ng.keep hc
                replace hb := hb.trans (hc.mono hb.size)
                clear hc
                obtain ⟨A1, c1, rfl⟩ := nm_zero nr1
                clear nr1
                go_wp2_with fail
                refine (div_v ny ng hG0).mono ?_
                rw [D2]
                rintro e w7 ⟨q2, r2, rfl, nq2, nr2, hc⟩
                replace nx := nx.keep hc
                replace ny := ny.keep hc
                replace nz := nz.keep hc
                replace ng := ng.keep hc
                replace nq1 := nq1.keep hc
                replace hb := hb.trans (hc.mono hb.size)
                clear hc
                obtain ⟨A2, c2, rfl⟩ := nm_zero nr2
                clear nr2
                go_wp2_with fail
                refine (gcd_v nq1 nq2).mono ?_
                rw [D3]
                rintro e w8 ⟨o, rfl, no, hc⟩
                replace nx := nx.keep hc
                replace ny := ny.keep hc
                replace nz := nz.keep hc
                replace ng := ng.keep hc
                replace hb := hb.trans (hc.mono hb.size)
                clear hc
                go_wp2_with fail
                refine (is_v no 0 [1] _ rfl 1 rfl (by decide)).mono ?_
                rw [isB_one]
                rintro e w9 ⟨rfl, hc⟩
                replace nx := nx.keep hc
                replace ny := ny.keep hc
                replace nz := nz.keep hc
                replace ng := ng.keep hc
                replace hb := hb.trans (hc.mono hb.size)
                clear hc
                go_wp2_with fail
                refine (div_v nx nz hZ).mono ?_
                rw [R1]
                rintro e w10 ⟨q3, r3, rfl, nq3, nr3, hc⟩
                replace nx := nx.keep hc
                replace ny := ny.keep hc
                replace nz := nz.keep hc
                replace ng := ng.keep hc
                replace hb := hb.trans (hc.mono hb.size)
                clear hc
                obtain ⟨A3, c3, rfl⟩ := nm_zero nr3
                clear nr3
                go_wp2_with fail
                refine (div_v ny nz hZ).mono ?_
                rintro e w11 ⟨q4, r4, rfl, nq4, nr4, hc⟩
                replace nx := nx.keep hc
                replace ny := ny.keep hc
                replace nz := nz.keep hc
                replace ng := ng.keep hc
                replace nq3 := nq3.keep hc
                replace hb := hb.trans (hc.mono hb.size)
                clear hc
                obtain ⟨A4, m4, c4, rfl, hm4, hq4⟩ := nm_pos nr4 hpos4
                clear nr4
                go_wp2_with fail
                refine (div_v ng nz hZ).mono ?_
                rintro e w12 ⟨q5, r5, rfl, nq5, nr5, hc⟩
                replace nx := nx.keep hc
                replace ny := ny.keep hc
                replace nz := nz.keep hc
                replace ng := ng.keep hc
                replace nq3 := nq3.keep hc
                replace nq4 := nq4.keep hc
                replace hb := hb.trans (hc.mono hb.size)
                clear hc
                obtain ⟨A5, m5, c5, rfl, hq5⟩ := nm_any nr5
                clear nr5
                go_wp2
                go_ret
                exact ⟨rfl, hb⟩
              · clear lz rest
                go_enter Try.func12, Try.ntmps12
                go_wp2_with fail
                refine HA.out.mono ?_
                rintro e w2 ⟨rfl, hb⟩
                go_wp2_with fail
                refine (valid_v (ax.keep hb) _ hx'.out).mono ?_
                rintro e w3 ⟨rfl, rfl⟩
                go_wp2_with fail
                refine (valid_v (ay.keep hb) _ hy'.out).mono ?_
                rintro e w3 ⟨rfl, rfl⟩
                go_wp2_with fail
                refine (valid_v (az.keep hb) _ hz'.out).mono ?_
                rintro e w3 ⟨rfl, rfl⟩
                replace nx := nx.keep hb
                replace ny := ny.keep hb
                replace nz := nz.keep hb
                go_wp2_with fail
                refine (gcd_v nx ny).mono ?_
                rw [← HG]
                rintro e w5 ⟨g, rfl, ng, hc⟩
                replace nx := nx.keep hc
                replace ny := ny.keep hc
                replace nz := nz.keep hc
                replace hb := hb.trans (hc.mono hb.size)
                clear hc
                go_wp2_with fail
                refine (div_v nx ng hG0).mono ?_
                rw [D1]
                rintro e w6 ⟨q1, r1, rfl, nq1, nr1, hc⟩
                replace nx := nx.keep hc
                replace ny := ny.keep hc
                replace nz := nz.keep hc
                replace ng := ng.keep hc
                replace hb := hb.trans (hc.mono hb.size)
                clear hc
                obtain ⟨A1, c1, rfl⟩ := nm_zero nr1
                clear nr1
                go_wp2_with fail
                refine (div_v ny ng hG0).mono ?_
                rw [D2]
                rintro e w7 ⟨q2, r2, rfl, nq2, nr2, hc⟩
                replace nx := nx.keep hc
                replace ny := ny.keep hc
                replace nz := nz.keep hc
                replace ng := ng.keep hc
                replace nq1 := nq1.keep hc
                replace hb := hb.trans (hc.mono hb.size)
                clear hc
                obtain ⟨A2, c2, rfl⟩ := nm_zero nr2
                clear nr2
                go_wp2_with fail
                refine (gcd_v nq1 nq2).mono ?_
                rw [D3]
                rintro e w8 ⟨o, rfl, no, hc⟩
                replace nx := nx.keep hc
                replace ny := ny.keep hc
                replace nz := nz.keep hc
                replace ng := ng.keep hc
                replace hb := hb.trans (hc.mono hb.size)
                clear hc
                go_wp2_with fail
                refine (is_v no 0 [1] _ rfl 1 rfl (by decide)).mono ?_
                rw [isB_one]
                rintro e w9 ⟨rfl, hc⟩
                replace nx := nx.keep hc
                replace ny := ny.keep hc
                replace nz := nz.keep hc
                replace ng := ng.keep hc
                replace hb := hb.trans (hc.mono hb.size)
                clear hc
                go_wp2_with fail
                refine (div_v nx nz hZ).mono ?_
                rw [R1]
                rintro e w10 ⟨q3, r3, rfl, nq3, nr3, hc⟩
                replace nx := nx.keep hc
                replace ny := ny.keep hc
                replace nz := nz.keep hc
                replace ng := ng.keep hc
                replace hb := hb.trans (hc.mono hb.size)
                clear hc
                obtain ⟨A3, c3, rfl⟩ := nm_zero nr3
                clear nr3
                go_wp2_with fail
                refine (div_v ny nz hZ).mono ?_
                rw [R2]
                rintro e w11 ⟨q4, r4, rfl, nq4, nr4, hc⟩
                replace nx := nx.keep hc
                replace ny := ny.keep hc
                replace nz := nz.keep hc
                replace ng := ng.keep hc
                replace nq3 := nq3.keep hc
                replace hb := hb.trans (hc.mono hb.size)
                clear hc
                obtain ⟨A4, c4, rfl⟩ := nm_zero nr4
                clear nr4
                go_wp2_with fail
                refine (div_v ng nz hZ).mono ?_
                rw [R3]
                rintro e w12 ⟨q5, r5, rfl, nq5, nr5, hc⟩
                replace nx := nx.keep hc
                replace ny := ny.keep hc
                replace nz := nz.keep hc
                replace ng := ng.keep hc
                replace nq3 := nq3.keep hc
                replace nq4 := nq4.keep hc
                replace hb := hb.trans (hc.mono hb.size)
                clear hc
                obtain ⟨A5, c5, rfl⟩ := nm_zero nr5
                clear nr5
                go_wp2
                go_ret
                exact ⟨rfl, hb⟩
end Go.Proofs.Ythplhlcdlnedfaa.numberCommon
