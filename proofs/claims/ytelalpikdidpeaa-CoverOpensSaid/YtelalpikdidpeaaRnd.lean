/-
  Regions within a round of a loop over a function: what the plain laws prove holds there too.
-/
import Derived.Test.YtelalpikdidpeaaReg
import Derived.RangeFuncCalls
import Derived.OrdersIn
namespace Go.Proofs.Ytelalpikdidpeaa
open Go.RowKit

/-- No operation defers. -/
def calm (ops : Array Oper) : Bool := ops.all fun o => match o.op with | .defer _ => false | _ => true
theorem calm_spec {ops : Array Oper} (h : calm ops = true) {o : Oper} (ho : o ∈ ops) : ∀ c, o.op ≠ .defer c := by
  have h1 := (Array.all_eq_true_iff_forall_mem.1 h) o ho
  intro c e
  rw [e] at h1
  cases h1

variable {P : Program} {ops : Array Oper} {Q : Exit → Act → World → Prop}

theorem rowsIn_wide {n : Nat} {row : String} {args : Array Value} {w : World} {R : Value → World → Prop} (h : Rows P row args w R) : RowsIn Fence.wide n P row args w R := by
  intro c cs _
  obtain ⟨v, w', hr, hs⟩ := h c cs
  exact ⟨v, w', hr, stepsIn_wide.2 hs⟩

theorem opIn_of_op {o : Oper} {a : Act} {w : World} {K : Act → World → Prop} (l n : Nat) (hd : ∀ c, o.op ≠ .defer c) (h : o.wp P a w K Q) : o.wpIn (Fence.wide.inRound l) n P a w K Q := by
  unfold Oper.wp at h
  unfold Oper.wpIn
  refine ⟨fun _ _ => trivial, ?_⟩
  rw [Oper.semAt_eq _ _ _ hd]
  generalize (execOp a.eval o).run P w = r at h ⊢
  cases r with
  | ok v w' =>
    cases v with
    | enter f args => exact ⟨(fun e => by cases e), CallsIn.inRound l (callsIn_wide.2 h)⟩
    | row row args => exact ⟨(fun e => by cases e), rowsIn_wide h⟩
    | _ => first | exact h | exact (h : False).elim
  | halt hh w' => cases hh <;> exact h

theorem wpOpIn_of_wpOp {i : Nat} {a : Act} {w : World} {K : Act → World → Prop} (l n : Nat) (hc : calm ops = true) (hno : ¬ LetsOut Q) (h : wpOp P ops Q i K a w) : wpOpIn (Fence.wide.inRound l) n P ops Q i K a w := by
  unfold wpOp at h
  unfold wpOpIn
  split
  · rename_i ho; rw [ho] at h; exact h
  · rename_i o ho
    rw [ho] at h
    simp only at h
    split
    · rename_i hw
      rw [if_pos hw] at h
      rcases h with h | h
      · exact opIn_of_op l n (calm_spec hc (Array.mem_of_getElem? ho)) h
      · exact absurd h.2 hno
    · rename_i hw
      rw [if_neg hw] at h
      exact ⟨fun _ _ => trivial, h⟩

theorem wpAnyIn_of_wpAny {md : Region.Mode} (l n : Nat) (hc : calm ops = true) (hno : ¬ LetsOut Q) : ∀ (fuel : Nat) (L : Array Bool) (a : Act) (w : World), wpAny P md ops Q fuel L a w → wpAnyIn (Fence.wide.inRound l) n P md ops Q fuel L a w
  | 0, _, _, _, h => h
  | fuel + 1, _, _, _, h => ⟨h.1, fun i hi => wpOpIn_of_wpOp l n hc hno (wpOp_mono (fun a' w' h' => wpAnyIn_of_wpAny l n hc hno fuel _ a' w' h') (h.2 i hi))⟩

theorem wpListIn_of_wpList (l n : Nat) (hno : ¬ LetsOut Q) : ∀ (r : List Oper) (_ : ∀ o ∈ r, ∀ c, o.op ≠ .defer c) (a : Act) (w : World), wpList P ops Q r a w → wpListIn (Fence.wide.inRound l) n P ops Q r a w
  | [], _, _, _, h => h
  | o :: r, hc, a, w, h => by
    unfold wpList at h
    unfold wpListIn
    split
    · rename_i hw
      rw [if_pos hw] at h
      rcases h with h | h
      · exact opIn_of_op l n (hc o (by simp)) (Oper.wp_mono (fun a' w' h' => wpListIn_of_wpList l n hno r (fun o' ho' => hc o' (by simp [ho'])) a' w' h') h)
      · exact absurd h.2 hno
    · rename_i hw
      rw [if_neg hw] at h
      exact ⟨fun _ _ => trivial, wpListIn_of_wpList l n hno r (fun o' ho' => hc o' (by simp [ho'])) _ w h⟩

/-- A plain region within a round. -/
theorem wpIn_round_list {id : Nat} {a : Act} {w : World} (l n : Nat) (hc : calm ops = true) (hno : ¬ LetsOut Q) (h : wpList P ops Q ops.toList a w) : (Code.region id ops false).wpIn (Fence.wide.inRound l) n P Q a w :=
  wpIn_region_list (wpListIn_of_wpList l n hno ops.toList (fun o ho => calm_spec hc (by simpa using ho)) a w h)

/-- A region in whatever order within a round. -/
theorem wpIn_round_inv {id : Nat} {a : Act} {w : World} (l n : Nat) (hc : calm ops = true) (hno : ¬ LetsOut Q) (hm : P.follows .mixedOrders = true) (ho : ordered .any ops = true) (Inv : (Nat → Bool) → Act → World → Prop)
    (h0 : Inv (fun _ => false) a w.drew)
    (hstep : ∀ (l : Nat → Bool) (a : Act) (w : World) (i : Nat), Inv l a w → i < ops.size → l i = false → (∀ o, ops[i]? = some o → ∀ e ∈ o.after, Region.binds .any e = true → l e.on = true) → wpOp P ops Q i (fun a' w' => Inv (upd l i) a' w') a w)
    (hdone : ∀ (l : Nat → Bool) (a : Act) (w : World), (∀ i, i < ops.size → l i = true) → Inv l a w → Q .normal a w) :
    (Code.region id ops true).wpIn (Fence.wide.inRound l) n P Q a w := by
  refine wpIn_region_any hm (wpAnyIn_of_wpAny l n hc hno _ _ _ _ (wpAny_inv ho Inv hstep hdone ops.size _ a _ (by simp) ?_ ?_))
  · simp [unl_replicate]
  · have e : lst (Array.replicate ops.size false) = fun _ => false := by
      funext j; unfold lst; by_cases hj : j < ops.size <;> simp [Array.getD, hj]
    rw [e]; exact h0

end Go.Proofs.Ytelalpikdidpeaa
