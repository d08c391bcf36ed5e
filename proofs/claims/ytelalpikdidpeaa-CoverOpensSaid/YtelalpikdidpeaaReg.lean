/-
  A region that goes in whatever order, by an invariant: what holds of the listed operations.
-/
import Derived.Test.YtelalpikdidpeaaLevB
import Derived.RegionTactic
import Derived.Lib.ConvBytes
namespace Go.Proofs.Ytelalpikdidpeaa
open Go.RowKit

/-- Each operation waits for earlier ones alone. -/
def ordered (md : Region.Mode) (ops : Array Oper) : Bool := (List.range ops.size).all fun i => ((ops[i]?).map fun o => o.after.all fun e => !Region.binds md e || decide (e.on < i)).getD true

theorem ordered_spec {md : Region.Mode} {ops : Array Oper} (h : ordered md ops = true) (i : Nat) (o : Oper) (ho : ops[i]? = some o) (e : Edge) (he : e ∈ o.after) (hb : Region.binds md e = true) : e.on < i := by
  have hi : i < ops.size := (Array.getElem?_eq_some_iff.1 ho).1
  have h1 := (List.all_eq_true.1 h) i (by simpa using hi)
  rw [ho] at h1
  simp only [Option.map_some, Option.getD_some] at h1
  have h2 := (Array.all_eq_true_iff_forall_mem.1 h1) e he
  rw [hb] at h2
  simpa using h2

theorem all_listed {md : Region.Mode} {ops : Array Oper} (ho : ordered md ops = true) {L : Array Bool} (hL : L.size = ops.size) (hr : Region.ready md ops L = []) : ∀ i, i < ops.size → L.getD i false = true := by
  intro i
  induction i using Nat.strongRecOn with
  | _ i ih =>
    intro hi
    rcases Bool.eq_false_or_eq_true (L.getD i false) with h | h
    · exact h
    · exfalso
      have hm : i ∈ Region.ready md ops L := by
        unfold Region.ready
        rw [List.mem_filter]
        refine ⟨by simpa using hi, ?_⟩
        have h1 : L.getD i true = false := by
          have hi' : i < L.size := by omega
          simp [Array.getD, hi'] at h ⊢; exact h
        rw [h1, Array.getElem?_eq_getElem hi]
        simp only [Bool.not_false, Option.map_some, Option.getD_some, Bool.true_and]
        refine Array.all_eq_true_iff_forall_mem.2 (fun e he => ?_)
        rcases Bool.eq_false_or_eq_true (Region.binds md e) with hb | hb
        · have hlt := ordered_spec ho i ops[i] (Array.getElem?_eq_getElem hi) e he hb
          rw [ih e.on hlt (by omega)]
          simp
        · rw [hb]; simp
  
      rw [hr] at hm
      cases hm

theorem ready_spec {md : Region.Mode} {ops : Array Oper} {L : Array Bool} {i : Nat} (h : i ∈ Region.ready md ops L) : i < ops.size ∧ L.getD i true = false ∧ ∀ o, ops[i]? = some o → ∀ e ∈ o.after, Region.binds md e = true → L.getD e.on false = true := by
  unfold Region.ready at h
  rw [List.mem_filter] at h
  obtain ⟨h1, h2⟩ := h
  have hi : i < ops.size := by simpa using h1
  rw [Bool.and_eq_true] at h2
  refine ⟨hi, by simpa using h2.1, fun o ho e he hb => ?_⟩
  have h3 := h2.2
  rw [ho] at h3
  simp only [Option.map_some, Option.getD_some] at h3
  have h4 := (Array.all_eq_true_iff_forall_mem.1 h3) e he
  rw [hb] at h4
  simpa using h4

/-- What is listed, as a function. -/
def lst (L : Array Bool) : Nat → Bool := fun j => L.getD j false
def upd (l : Nat → Bool) (i : Nat) : Nat → Bool := fun j => if j = i then true else l j
theorem lst_set {L : Array Bool} {i : Nat} (hi : i < L.size) : lst (L.setIfInBounds i true) = upd (lst L) i := by
  funext j
  unfold lst upd
  by_cases e : j = i
  · subst e; simp [Array.getD, hi]
  · rw [if_neg e]
    by_cases hj : j < L.size
    · simp [Array.getD, hj, Ne.symm e]
    · simp [Array.getD, hj]

/-- How many are not listed yet. -/
def unl : List Bool → Nat
  | [] => 0
  | b :: r => (if b then 0 else 1) + unl r
theorem unl_zero : ∀ (l : List Bool) (i : Nat), unl l = 0 → i < l.length → l.getD i false = true
  | [], _, _, h => by simp at h
  | b :: r, 0, h, _ => by cases b <;> simp [unl] at h ⊢
  | b :: r, i + 1, h, hi => by
    have h1 : unl r = 0 := by unfold unl at h; omega
    have := unl_zero r i h1 (by simpa using hi)
    simpa using this
theorem unl_set : ∀ (l : List Bool) (i : Nat), i < l.length → l.getD i true = false → unl (l.set i true) + 1 = unl l
  | [], _, h, _ => by simp at h
  | b :: r, 0, _, h => by simp at h; subst h; simp [unl]; omega
  | b :: r, i + 1, hi, h => by
    have := unl_set r i (by simpa using hi) (by simpa using h)
    simp only [List.set_cons_succ, unl]; omega

/-- **A region in whatever order, by an invariant of what is listed.** -/
theorem wpAny_inv {P : Program} {md : Region.Mode} {ops : Array Oper} {Q : Exit → Act → World → Prop} (ho : ordered md ops = true) (Inv : (Nat → Bool) → Act → World → Prop)
    (hstep : ∀ (l : Nat → Bool) (a : Act) (w : World) (i : Nat), Inv l a w → i < ops.size → l i = false → (∀ o, ops[i]? = some o → ∀ e ∈ o.after, Region.binds md e = true → l e.on = true) → wpOp P ops Q i (fun a' w' => Inv (upd l i) a' w') a w)
    (hdone : ∀ (l : Nat → Bool) (a : Act) (w : World), (∀ i, i < ops.size → l i = true) → Inv l a w → Q .normal a w) :
    ∀ (fuel : Nat) (L : Array Bool) (a : Act) (w : World), L.size = ops.size → unl L.toList ≤ fuel → Inv (lst L) a w → wpAny P md ops Q fuel L a w
  | 0, L, a, w, hL, hf, hI => by
    have hall : ∀ i, i < ops.size → lst L i = true := fun i hi => by
      have := unl_zero L.toList i (by omega) (by simp; omega)
      unfold lst
      simpa [Array.getD, List.getD, hL, hi] using this
    refine ⟨?_, hdone _ a w hall hI⟩
    rcases hr : Region.ready md ops L with _ | ⟨i, r⟩
    · rfl
    · exfalso
      have hs := ready_spec (md := md) (ops := ops) (L := L) (i := i) (by rw [hr]; simp)
      have h1 := hall i hs.1
      have h2 := hs.2.1
      have hi' : i < L.size := by omega
      unfold lst at h1
      simp [Array.getD, hi'] at h1 h2
      rw [h1] at h2; cases h2
  | fuel + 1, L, a, w, hL, hf, hI => by
    refine ⟨fun hr => hdone _ a w (all_listed ho hL hr) hI, fun i hi => ?_⟩
    have hs := ready_spec hi
    have hi' : i < L.size := by omega
    have hl : lst L i = false := by have := hs.2.1; unfold lst; simp [Array.getD, hi'] at this ⊢; exact this
    refine wpOp_mono (fun a' w' h => ?_) (hstep (lst L) a w i hI hs.1 hl hs.2.2)
    refine wpAny_inv ho Inv hstep hdone fuel (L.setIfInBounds i true) a' w' (by simpa using hL) ?_ (by rw [lst_set hi']; exact h)
    have h3 := unl_set L.toList i (by simpa using hi') (by have := hs.2.1; simpa [Array.getD, List.getD, hi'] using this)
    have h4 : (L.setIfInBounds i true).toList = L.toList.set i true := by simp
    rw [h4]; omega

theorem unl_replicate : ∀ n, unl (List.replicate n false) = n
  | 0 => rfl
  | n + 1 => by rw [List.replicate_succ, unl, unl_replicate n]; simp; omega

/-- **The region.** -/
theorem wp_region_inv {P : Program} {ops : Array Oper} {Q : Exit → Act → World → Prop} {id : Nat} {a : Act} {w : World} (hm : P.follows .mixedOrders = true) (ho : ordered .any ops = true) (Inv : (Nat → Bool) → Act → World → Prop)
    (h0 : Inv (fun _ => false) a w.drew)
    (hstep : ∀ (l : Nat → Bool) (a : Act) (w : World) (i : Nat), Inv l a w → i < ops.size → l i = false → (∀ o, ops[i]? = some o → ∀ e ∈ o.after, Region.binds .any e = true → l e.on = true) → wpOp P ops Q i (fun a' w' => Inv (upd l i) a' w') a w)
    (hdone : ∀ (l : Nat → Bool) (a : Act) (w : World), (∀ i, i < ops.size → l i = true) → Inv l a w → Q .normal a w) :
    (Code.region id ops true).wp P Q a w := by
  refine wp_region_any hm (wpAny_inv ho Inv hstep hdone ops.size _ a _ (by simp) ?_ ?_)
  · simp [unl_replicate]
  · have e : lst (Array.replicate ops.size false) = fun _ => false := by
      funext j; unfold lst; by_cases hj : j < ops.size <;> simp [Array.getD, hj]
    rw [e]; exact h0

end Go.Proofs.Ytelalpikdidpeaa
