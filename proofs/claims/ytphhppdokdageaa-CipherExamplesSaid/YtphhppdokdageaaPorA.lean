/-
  Two texts of one length that differ within one portion: their tags are equal only if the texts are.
-/
import Derived.Test.YtphhppdokdageaaRfN
namespace Go.Proofs.Ytphhppdokdageaa
open Go.RowKit SP
set_option linter.unusedVariables false

theorem pw_congr {g h : Nat → Nat} {n k : Nat} (e : ∀ j, j < 16 → 16 * k + j < n → g (16 * k + j) = h (16 * k + j)) : pw g n k = pw h n k := by
  have hp : ∀ j, j < 16 → pf g n k j = pf h n k j := by
    intro j hj
    unfold pf
    by_cases hlt : 16 * k + j < n
    · rw [if_pos hlt, if_pos hlt]; exact e j hj hlt
    · rw [if_neg hlt, if_neg hlt]
  unfold pw kwX kwY
  rw [wd_congr (pf g n k) (pf h n k) 8 (fun i hi => hp i (by omega)), wd_congr (fun i => pf g n k (8 + i)) (fun i => pf h n k (8 + i)) 8 (fun i hi => hp (8 + i) (by omega))]
theorem pw_inj {g h : Nat → Nat} (hg : ∀ i, g i < 256) (hh : ∀ i, h i < 256) {n k : Nat} (e : pw g n k = pw h n k) : ∀ j, j < 16 → 16 * k + j < n → g (16 * k + j) = h (16 * k + j) := by
  intro j hj hlt
  have e1 : kwX (pf g n k) = kwX (pf h n k) := congrArg Prod.fst e
  have e2 : kwY (pf g n k) = kwY (pf h n k) := congrArg Prod.snd e
  have a := kw_byte _ (pf_lt hg n k) j hj
  have b := kw_byte _ (pf_lt hh n k) j hj
  rw [e1, e2, b] at a
  unfold pf at a
  rw [if_pos hlt, if_pos hlt] at a
  exact a.symm
theorem fld_congr (stp : Nat × Nat → Nat × Nat → Nat × Nat) (s : Nat × Nat) {g h : Nat → Nat} (n : Nat) : ∀ k, (∀ j, j < k → pw g n j = pw h n j) → fld stp s g n k = fld stp s h n k
  | 0, _ => rfl
  | k + 1, e => by
    show stp _ _ = stp _ _
    rw [fld_congr stp s n k (fun j hj => e j (by omega)), e k (by omega)]
theorem pair_xor_inj {s t p : Nat × Nat} (h1 : s.1 ^^^ p.1 = t.1 ^^^ p.1) (h2 : s.2 ^^^ p.2 = t.2 ^^^ p.2) : s = t := Prod.ext (xor_inj h1) (xor_inj h2)
theorem macS_inj {X Y : Nat} (hX : X < M) (hY : Y < M) {s t p : Nat × Nat} (hs : Ok s) (ht : Ok t) (hp : Ok p) (e : macS X Y s p = macS X Y t p) : s = t := by
  have h := enc_inj hX hY (xor_lt hs.1 hp.1) (xor_lt hs.2 hp.2) (xor_lt ht.1 hp.1) (xor_lt ht.2 hp.2) e
  exact pair_xor_inj h.1 h.2
theorem macS_inj2 {X Y : Nat} (hX : X < M) (hY : Y < M) {s p q : Nat × Nat} (hs : Ok s) (hp : Ok p) (hq : Ok q) (e : macS X Y s p = macS X Y s q) : p = q := by
  have h := enc_inj hX hY (xor_lt hs.1 hp.1) (xor_lt hs.2 hp.2) (xor_lt hs.1 hq.1) (xor_lt hs.2 hq.2) e
  rw [Nat.xor_comm s.1, Nat.xor_comm s.1, Nat.xor_comm s.2, Nat.xor_comm s.2] at h
  exact pair_xor_inj h.1 h.2
theorem fld_back {X Y : Nat} (hX : X < M) (hY : Y < M) {s : Nat × Nat} (hs : Ok s) {g h : Nat → Nat} (hg : ∀ i, g i < 256) (hh : ∀ i, h i < 256) (n k : Nat) : ∀ m, (∀ j, k ≤ j → pw g n j = pw h n j) → fld (macS X Y) s g n (k + m) = fld (macS X Y) s h n (k + m) → fld (macS X Y) s g n k = fld (macS X Y) s h n k
  | 0, _, e => e
  | m + 1, c, e => by
    have e' : macS X Y (fld (macS X Y) s g n (k + m)) (pw g n (k + m)) = macS X Y (fld (macS X Y) s h n (k + m)) (pw h n (k + m)) := e
    rw [c (k + m) (by omega)] at e'
    have hok := fun s p hs hp => macS_ok (s := s) (p := p) hX hY hs hp
    exact fld_back hX hY hs hg hh n k m c (macS_inj hX hY (fld_ok hok hs hg n _) (fld_ok hok hs hh n _) (pw_ok hh n _) e')

theorem mac_portion {X Y : Nat} (hX : X < M) (hY : Y < M) {g h : Nat → Nat} (hg : ∀ i, g i < 256) (hh : ∀ i, h i < 256) {n q : Nat} (hn : n < M) (hq : q < cnt n) (hgh : ∀ i, i < 16 * q ∨ 16 * q + 16 ≤ i → g i = h i) :
    macV X Y g n = macV X Y h n ↔ ∀ i, i < n → g i = h i := by
  have hs := drv_ok (t := 2) hX hY (by decide) hn
  have hok := fun s p hs hp => macS_ok (s := s) (p := p) hX hY hs hp
  have hne : ∀ k, k ≠ q → pw g n k = pw h n k := fun k hk => pw_congr fun j hj _ => hgh _ (by omega)
  constructor
  · intro e
    unfold macV at e
    obtain ⟨m, hm⟩ : ∃ m, cnt n = (q + 1) + m := ⟨cnt n - (q + 1), by omega⟩
    rw [hm] at e
    have e1 := fld_back hX hY hs hg hh n (q + 1) m (fun j hj => hne j (by omega)) e
    have e2 : macS X Y (fld (macS X Y) (drv X Y 2 n) g n q) (pw g n q) = macS X Y (fld (macS X Y) (drv X Y 2 n) h n q) (pw h n q) := e1
    rw [fld_congr (macS X Y) (drv X Y 2 n) n q (fun j hj => hne j (by omega))] at e2
    have e3 := macS_inj2 hX hY (fld_ok hok hs hh n q) (pw_ok hg n q) (pw_ok hh n q) e2
    intro i hi
    by_cases hin : i < 16 * q ∨ 16 * q + 16 ≤ i
    · exact hgh i hin
    · have := pw_inj hg hh e3 (i - 16 * q) (by omega) (by omega)
      rwa [show 16 * q + (i - 16 * q) = i by omega] at this
  · intro e
    unfold macV
    exact fld_congr _ _ n _ fun j _ => pw_congr fun i _ hi => e _ hi

/-- Equal strings of bytes. -/
theorem bst_inj {g h : Nat → Nat} (hg : ∀ i, g i < 256) (hh : ∀ i, h i < 256) {n : Nat} : bst n g = bst n h ↔ ∀ i, i < n → g i = h i := by
  constructor
  · intro e i hi
    have ea : ∀ f : Nat → Nat, (∀ i, f i < 256) → sb (bst n f) i = f i := by
      intro f hf
      unfold sb bst
      rw [strOfNums_data]
      have hl := hf i
      simp [List.getD, List.getElem?_map, List.getElem?_range hi]
      omega
    rw [← ea g hg, e, ea h hh]
  · intro e
    unfold bst
    congr 1
    exact List.map_congr_left fun i hi => by rw [e i (List.mem_range.1 hi)]
end Go.Proofs.Ytphhppdokdageaa
