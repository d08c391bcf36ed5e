/-
  Long division, part G: divide.
-/
import Derived.Test.YthplhlcdlnedfaaDivF
import Derived.Test.YthplhlcdlnedfaaMathH
namespace Go.Proofs.Ythplhlcdlnedfaa
open Go.RowKit MN

theorem Cols.keep {k : IntKind} {e : TypeId} {base B : Nat} {w wr w' : World} {g N : Nat} {xs : List Nat} (h : Cols k e base w wr g N xs) (hb : Below B wr w') (hg : g < B) (hB : base ≤ B) : Cols k e base w w' g N xs := by
  refine ⟨⟨h.own.1, ?_⟩, h.below.trans (hb.mono hB), Nat.le_trans h.big hb.size⟩
  rcases h.own.2 with ⟨hv, _⟩ | ⟨g', cap, cur, hv, hbg, hh, r⟩
  · cases hv
  · have e1 : g' = g := by injection hv with a; injection a with a; injection a with a; exact a.symm
    subst e1
    exact .inr ⟨g', cap, cur, hv, hbg, by rw [hb.block g' hg]; exact hh, r⟩

theorem Cols.rebase {k : IntKind} {e : TypeId} {base base' : Nat} {w0 w wr : World} {g N : Nat} {xs : List Nat} (h : Cols k e base w wr g N xs) (hb : Below base' w0 w) (hB : base' ≤ base) : Cols k e base' w0 wr g N xs :=
  ⟨own_low h.own hB, hb.trans (h.below.mono hB), Nat.le_trans hB h.big⟩

theorem Cols.only {k : IntKind} {e : TypeId} {base : Nat} {w ws wr : World} {g N g' : Nat} {xs : List Nat} (h : Cols k e base w ws g N xs) (ho : ws.grownBy wr (some g')) (hne : g ≠ g') (hbg : base ≤ g') : Cols k e base w wr g N xs := by
  refine ⟨⟨h.own.1, ?_⟩, h.below.grown ho h.big (by intro k hk; injection hk with hk; omega), Nat.le_trans h.big ho.size⟩
  rcases h.own.2 with ⟨hv, _⟩ | ⟨g2, cap, cur, hv, hbg, hh, r⟩
  · cases hv
  · have e1 : g2 = g := by injection hv with a; injection a with a; injection a with a; exact a.symm
    subst e1
    exact .inr ⟨g2, cap, cur, hv, hbg, by rw [ho.block g2 h.lt (fun e => hne (by injection e))]; exact hh, r⟩

theorem Rd.only {k : IntKind} {ws wr : World} {A : Option Addr} {n c g : Nat} {xs : List Nat} (h : Rd k ws A n c xs) (ho : ws.grownBy wr (some g)) (hap : Apart A g) : Rd k wr A n c xs :=
  ⟨h.len, h.le, h.cap, fun hn => by
    obtain ⟨b, off, hA, hc⟩ := h.at_ hn
    exact ⟨b, off, hA, fun i hi => ho.cell (hc i hi) (fun e => hap b off hA (by injection e))⟩⟩

theorem Cols.far {k : IntKind} {e : TypeId} {base : Nat} {w ws : World} {g N g' j : Nat} {xs : List Nat} {u : Value} (h : Cols k e base w ws g N xs) (hne : g ≠ g') (hbg : base ≤ g') : Cols k e base w (ws.setCell ⟨g', j, none⟩ u) g N xs :=
  h.only (grown_set (World.grownBy.refl ws _)) hne hbg

theorem Cols.drawn {k : IntKind} {e : TypeId} {base : Nat} {w ws wr : World} {g N : Nat} {xs : List Nat} (h : Cols k e base w ws g N xs) (hd : Drawn ws wr) : Cols k e base w wr g N xs := by
  obtain ⟨m, rfl⟩ := hd
  exact ⟨h.own, h.below.trans ⟨rfl, rfl, rfl, Nat.le_refl _, fun _ _ => rfl⟩, h.big⟩

/-- Length and highest digit of the divisor, shifted up. -/
theorem divisor_shape (zs : List Nat) (n s : Nat) (hlen : zs.length = n + 1) (hl : Low 4294967296 zs) (hs : s ≤ 31) (h1 : 2147483648 ≤ dg zs n * 2 ^ s) (h2 : dg zs n * 2 ^ s < 4294967296) :
    (digs 4294967296 (val 4294967296 zs * 2 ^ s)).length = n + 1 ∧ 2147483648 ≤ dg (digs 4294967296 (val 4294967296 zs * 2 ^ s)) n ∧ val 4294967296 zs * 2 ^ s < 4294967296 ^ (n + 1) := by
  have hp : 0 < 2 ^ s := Nat.two_pow_pos s
  have hval : val 4294967296 zs = vsum 4294967296 (dg zs) n + 4294967296 ^ n * dg zs n := by rw [val_vsum _ zs (n + 1) (by omega)]; rfl
  have hlow := vsum_lt 4294967296 (dg zs) n (fun j _ => low_dg hl (by omega) j)
  have e : (4294967296 : Nat) = 2 ^ s * 2 ^ (32 - s) := by rw [← Nat.pow_add, show s + (32 - s) = 32 by omega]
  have hup : (dg zs n + 1) * 2 ^ s ≤ 4294967296 := by
    have h3 : dg zs n < 2 ^ (32 - s) := by
      have h4 : 2 ^ s * dg zs n < 2 ^ s * 2 ^ (32 - s) := by rw [← e, Nat.mul_comm]; exact h2
      exact Nat.lt_of_mul_lt_mul_left h4
    rw [e, Nat.mul_comm]
    exact Nat.mul_le_mul_left _ h3
  have hlt : val 4294967296 zs * 2 ^ s < 4294967296 ^ (n + 1) := by
    have h5 : val 4294967296 zs < 4294967296 ^ n * (dg zs n + 1) := by rw [hval, Nat.mul_succ]; omega
    have h6 : val 4294967296 zs * 2 ^ s < 4294967296 ^ n * (dg zs n + 1) * 2 ^ s := Nat.mul_lt_mul_of_pos_right h5 hp
    have h7 : 4294967296 ^ n * (dg zs n + 1) * 2 ^ s ≤ 4294967296 ^ n * 4294967296 := by rw [Nat.mul_assoc]; exact Nat.mul_le_mul_left _ hup
    rw [Nat.pow_succ]; omega
  have hge : 4294967296 ^ n * 2147483648 ≤ val 4294967296 zs * 2 ^ s := by
    have h8 : 4294967296 ^ n * 2147483648 ≤ 4294967296 ^ n * (dg zs n * 2 ^ s) := Nat.mul_le_mul_left _ h1
    rw [← Nat.mul_assoc] at h8
    have h9 : 4294967296 ^ n * dg zs n * 2 ^ s ≤ val 4294967296 zs * 2 ^ s := Nat.mul_le_mul_right _ (by omega)
    omega
  have hpn : 0 < 4294967296 ^ n := Nat.pow_pos (by omega)
  have hdv := digs_val 4294967296 (val 4294967296 zs * 2 ^ s) (by omega)
  have hdl := digs_low 4294967296 (val 4294967296 zs * 2 ^ s) (by omega)
  have hdt := digs_top 4294967296 (val 4294967296 zs * 2 ^ s) (by omega)
  generalize digs 4294967296 (val 4294967296 zs * 2 ^ s) = ds at *
  generalize val 4294967296 zs * 2 ^ s = V at *
  have hne : ds ≠ [] := by
    intro h; subst h
    have : V = 0 := hdv.symm
    omega
  have hlen1 : n + 1 ≤ ds.length := by
    rcases Nat.lt_or_ge n ds.length with h | h
    · exact h
    · exfalso
      have h3 := val_lt ds hdl
      have h4 : 4294967296 ^ ds.length ≤ 4294967296 ^ n := Nat.pow_le_pow_right (by omega) h
      omega
  have hlen2 : ds.length ≤ n + 1 := by
    rcases Nat.lt_or_ge (n + 1) ds.length with h | h
    · exfalso
      have h3 := val_ge (B := 4294967296) ds hdt hne
      have h4 : 4294967296 ^ (n + 1) ≤ 4294967296 ^ (ds.length - 1) := Nat.pow_le_pow_right (by omega) (by omega)
      omega
    · exact h
  have hl3 : ds.length = n + 1 := by omega
  refine ⟨hl3, ?_, hlt⟩
  rw [val_vsum _ ds (n + 1) (by omega)] at hdv
  simp only [vsum] at hdv
  have h5 := vsum_lt 4294967296 (dg ds) n (fun j _ => low_dg hdl (by omega) j)
  rcases Nat.lt_or_ge (dg ds n) 2147483648 with h | h
  · exfalso
    have h6 : 4294967296 ^ n * (dg ds n + 1) ≤ 4294967296 ^ n * 2147483648 := Nat.mul_le_mul_left _ h
    rw [Nat.mul_succ] at h6
    omega
  · exact h

theorem val_top_ge (zs : List Nat) (n : Nat) (hlen : zs.length = n + 1) (htop : dg zs n ≠ 0) : 4294967296 ^ n ≤ val 4294967296 zs := by
  rw [val_vsum _ zs (n + 1) (by omega)]
  simp only [vsum]
  have : 4294967296 ^ n * 1 ≤ 4294967296 ^ n * dg zs n := Nat.mul_le_mul_left _ (by omega)
  omega

theorem dv_start (ys zs us : List Nat) (n L s : Nat) (hy : ys.length = n + L) (hz : zs.length = n + 1) (hla : Low 4294967296 ys) (htop : dg zs n ≠ 0) (hlu : Low 4294967296 us) (hu : val 4294967296 us = val 4294967296 ys * 2 ^ s) :
    Dv (val 4294967296 ys * 2 ^ s) (val 4294967296 zs * 2 ^ s) (n + 1) L us (List.replicate L 0) := by
  refine ⟨?_, ?_, hlu, fun d hd => by rw [List.eq_of_mem_replicate hd]; omega⟩
  · rw [List.drop_of_length_le (by simp), val_nil, Nat.mul_zero, Nat.mul_zero, Nat.add_zero, hu]
  · rw [hu, Nat.mul_right_comm]
    refine Nat.mul_lt_mul_of_pos_right ?_ (Nat.two_pow_pos s)
    have h1 := val_lt ys hla
    rw [hy, Nat.pow_add] at h1
    exact Nat.lt_of_lt_of_le h1 (Nat.mul_le_mul_right _ (val_top_ge zs n hz htop))

theorem took_pos {vs xs xs' : List Nat} {q o n : Nat} (h : Took vs xs xs' q o n true) : 0 < q := by
  rcases Nat.eq_zero_or_pos q with rfl | h0
  · exfalso
    have hs := h.sum
    have b1 := vsum_lt 4294967296 (fr xs' o) (n + 1) (fun j _ => low_dg h.low (by omega) _)
    rw [if_pos rfl, Nat.mul_one, Nat.zero_mul] at hs
    omega
  · exact h0

/-- What divide returns. -/
def Divided (w : World) (a b : Nat) (e : Ending) (w' : World) : Prop :=
  ∃ A1 m1 c1 A2 m2 c2, e = .returned (.tuple #[.slice A1 m1 c1, .slice A2 m2 c2]) ∧ w'.ownsRow w.heap.size 24 1 (.slice A1 m1 c1) m1 (vs32 (digs 4294967296 (a / b))) ∧
    w'.ownsRow w.heap.size 24 1 (.slice A2 m2 c2) m2 (vs32 (digs 4294967296 (a % b))) ∧ Below w.heap.size w w'

end Go.Proofs.Ythplhlcdlnedfaa
