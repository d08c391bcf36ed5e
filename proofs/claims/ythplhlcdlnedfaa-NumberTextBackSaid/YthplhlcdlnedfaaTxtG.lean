/-
  Texts, part G: a number's text reads as the number, and a text that reads as a number is that number's text.
-/
import Derived.Test.YthplhlcdlnedfaaLawNum
namespace Go.Proofs.Ythplhlcdlnedfaa
open Go.RowKit MN

/-- The digits of a text, the lowest first. -/
def rdg (l : List Nat) : List Nat := (l.map (· - 48)).reverse

theorem rdg_snoc (xs : List Nat) (d : Nat) : rdg (xs ++ [d]) = (d - 48) :: rdg xs := by simp [rdg]
theorem dvk_val (l : List Nat) : ∀ k, k ≤ l.length → dvk l k = val 10 (rdg (l.take k))
  | 0, _ => by simp [dvk, rdg, val]
  | k + 1, hk => by
    rw [dvk, dvk_val l k (by omega), List.take_succ_eq_append_getElem (by omega), rdg_snoc, val, dg_get l k (by omega)]
    omega
theorem dvk_all (l : List Nat) : dvk l l.length = val 10 (rdg l) := by
  rw [dvk_val l _ (Nat.le_refl _), List.take_length]

theorem map48 (xs : List Nat) : (xs.map (48 + ·)).map (· - 48) = xs := by
  rw [List.map_map]
  conv => rhs; rw [← List.map_id xs]
  congr 1
  funext x
  simp
theorem rdg_txt (N : Nat) (h : N ≠ 0) : rdg (txtL N) = digs 10 N := by
  unfold rdg txtL
  rw [if_neg h, map48, List.reverse_reverse]

theorem dvk_txt (N : Nat) : dvk (txtL N) (txtL N).length = N := by
  rw [dvk_all]
  by_cases h : N = 0
  · subst h; rfl
  · rw [rdg_txt N h, digs_val _ _ (by omega)]

theorem txt_low (N : Nat) (d : Nat) (h : d ∈ txtL N) : 48 ≤ d ∧ d ≤ 57 := by
  unfold txtL at h
  split at h
  · simp at h; omega
  · simp only [List.mem_map, List.mem_reverse] at h
    obtain ⟨x, hx, rfl⟩ := h
    have := digs_low 10 N (by omega) x hx
    omega

theorem isDec_txt (N : Nat) : IsDec (txtL N) := by
  refine ⟨fun j hj => ?_, ?_⟩
  · rw [dg_get _ j hj]; exact txt_low N _ (List.getElem_mem hj)
  · by_cases h : N = 0
    · exact .inl (by unfold txtL; rw [if_pos h])
    · refine .inr ?_
      have hne : digs 10 N ≠ [] := digs_pos (by omega) (Nat.pos_of_ne_zero h)
      have hlen : (txtL N).length = (digs 10 N).length := by unfold txtL; rw [if_neg h]; simp
      have hp : 0 < (digs 10 N).length := List.length_pos_iff.2 hne
      refine ⟨fun e => by rw [e] at hlen; simp at hlen; omega, ?_⟩
      rw [dg_txt N _ 0 h rfl hp, Nat.sub_zero]
      rcases digs_top 10 N (by omega) with e | e
      · exact absurd e hne
      · omega

theorem txt_of_dec (l : List Nat) (h : IsDec l) : txtL (dvk l l.length) = l := by
  rcases h.2 with rfl | ⟨hne, h0⟩
  · decide
  · have hdig : ∀ d ∈ l, 48 ≤ d ∧ d ≤ 57 := fun d hd => by
      obtain ⟨j, hj, rfl⟩ := List.getElem_of_mem hd
      rw [← dg_get l j hj]; exact h.1 j hj
    have hlow : Low 10 (rdg l) := by
      intro d hd
      simp only [rdg, List.mem_reverse, List.mem_map] at hd
      obtain ⟨x, hx, rfl⟩ := hd
      have := hdig x hx
      omega
    have hlen : (rdg l).length = l.length := by simp [rdg]
    have hp : 0 < l.length := List.length_pos_iff.2 hne
    have hrne : rdg l ≠ [] := fun e => by rw [e] at hlen; simp at hlen; omega
    have htop : Top (rdg l) := by
      refine .inr ?_
      rw [hlen, dg_get _ _ (by omega)]
      have e1 : (rdg l)[l.length - 1]'(by omega) = l[0] - 48 := by
        simp [rdg, List.getElem_reverse]
      rw [e1]
      have h1 := hdig _ (List.getElem_mem hp)
      rw [dg_get l 0 hp] at h0
      omega
    have hv := val_pos_of_top (B := 10) (by omega) (rdg l) htop hrne
    rw [dvk_all]
    unfold txtL
    rw [if_neg (by omega), val_inj (B := 10) (by omega) _ (rdg l) (digs_low _ _ (by omega)) hlow (digs_top _ _ (by omega)) htop (digs_val _ _ (by omega)), rdg, List.reverse_reverse, List.map_map]
    conv => rhs; rw [← List.map_id l]
    refine List.map_congr_left fun d hd => ?_
    have := hdig d hd
    simp; omega

theorem bs_txt (N : Nat) : bs (txtS N) = txtL N := by
  unfold bs txtS
  rw [strOfNums_data, List.map_map, List.map_map]
  conv => rhs; rw [← List.map_id (txtL N)]
  refine List.map_congr_left fun d hd => ?_
  have := txt_low N d hd
  simp; omega

theorem str_bs (s : ByteArray) : strOfNums ((bs s).map fun (d : Nat) => (d : Int)) = s := by
  have : (strOfNums ((bs s).map fun (d : Nat) => (d : Int))).data = s.data := by
    apply Array.toList_inj.1
    rw [strOfNums_data, List.map_map]
    unfold bs
    rw [List.map_map]
    conv => rhs; rw [← List.map_id s.data.toList]
    refine List.map_congr_left fun d hd => ?_
    simp
  cases s; cases hq : strOfNums _ with | mk d => rw [hq] at this; simp_all

theorem txtS_of_dec (s : ByteArray) (h : IsDec (bs s)) : txtS (dvk (bs s) s.size) = s := by
  have e : txtL (dvk (bs s) s.size) = bs s := by rw [← bs_len s]; exact txt_of_dec _ h
  unfold txtS
  rw [e, str_bs]

theorem txt_size (N : Nat) (h : N < 4294967296 ^ 16) : (txtS N).size ≤ 160 := by
  rw [txtS, strOfNums_size, List.length_map]
  unfold txtL
  split
  · simp
  · simp only [List.length_map, List.length_reverse]
    exact digs_len (by omega) _ _ (Nat.lt_of_lt_of_le h pow_bound)
theorem parse_txt (N : Nat) (h : N < 4294967296 ^ 16) (w : World) : Calls Try.prog 30 #[.string (txtS N)] w (Val1 w N) := by
  refine parse_n (txtS N) w N (Nat.le_trans (txt_size N h) (by simp [maxLen])) (by rw [bs_txt]; exact isDec_txt N) ?_ h
  rw [← bs_len, bs_txt]; exact dvk_txt N
end Go.Proofs.Ythplhlcdlnedfaa
