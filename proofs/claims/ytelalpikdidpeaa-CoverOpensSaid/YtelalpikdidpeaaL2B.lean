/-
  Texts joined into one: RfA, RfB, RfC, RfD, XorA, RfE, RfF, RfG, RfH, RfI, RfJ.
-/
import Derived.Test.YtelalpikdidpeaaL2A
import Derived.Test.YtelalpikdidpeaaMathB
import Derived.Test.YtelalpikdidpeaaRnd
import Derived.Laws.AppendOwn
import Derived.Maps.AppendAt
import Derived.Deep.AppendSrc
import Derived.RegionTactic
import Derived.Deep.RegionHeld3

/-
  The specification's rotations, values of bytes and words.
-/
namespace Go.Proofs.Ytelalpikdidpeaa.L2
open Go.RowKit SP
set_option linter.unusedVariables false
set_option linter.unusedSimpArgs false

theorem or_swap (a b : Nat) (ha : a < M) (hb : b < M) : bits .or .u64 (a : Int) (b : Int) = bits .or .u64 (b : Int) (a : Int) := by
  rw [u64_or_nat a b ha hb, u64_or_nat b a hb ha, Nat.or_comm]
theorem wrap_mul (x m : Nat) : IntKind.u64.wrap ((x : Int) * (m : Int)) = ((x * m % M : Nat) : Int) := by simp [IntKind.wrap, IntKind.bits, IntKind.signed]
theorem div_lt (x d : Nat) (hx : x < M) : x / d < M := Nat.lt_of_le_of_lt (Nat.div_le_self _ _) hx
theorem rot_swap (x m d : Nat) (hx : x < M) : bits .or .u64 ((x : Int) / (d : Int)) (IntKind.u64.wrap ((x : Int) * (m : Int))) = bits .or .u64 (IntKind.u64.wrap ((x : Int) * (m : Int))) ((x : Int) / (d : Int)) := by
  rw [wrap_mul, show (x : Int) / (d : Int) = ((x / d : Nat) : Int) by simp]
  exact or_swap _ _ (div_lt x d hx) (Nat.mod_lt _ (by decide))
theorem r8 (x : Nat) (hx : x < M) : bits .or .u64 ((x : Int) / 256) (IntKind.u64.wrap ((x : Int) * 72057594037927936)) = ((rr8 x : Nat) : Int) := (rot_swap x 72057594037927936 256 hx).trans (rotm8 x hx)
theorem r3 (x : Nat) (hx : x < M) : bits .or .u64 ((x : Int) / 8) (IntKind.u64.wrap ((x : Int) * 2305843009213693952)) = ((rr3 x : Nat) : Int) := (rot_swap x 2305843009213693952 8 hx).trans (rotm3 x hx)
theorem r61 (x : Nat) (hx : x < M) : bits .or .u64 ((x : Int) / 2305843009213693952) (IntKind.u64.wrap ((x : Int) * 8)) = ((rl3 x : Nat) : Int) := (rot_swap x 8 2305843009213693952 hx).trans (rot3 x hx)
theorem r56 (x : Nat) (hx : x < M) : bits .or .u64 ((x : Int) / 72057594037927936) (IntKind.u64.wrap ((x : Int) * 256)) = ((rl8 x : Nat) : Int) := (rot_swap x 256 72057594037927936 hx).trans (rot8 x hx)

set_option maxRecDepth 100000 in
theorem rotr8_any (x : Nat) (w : World) (hx : x < M) :
    Calls Try.prog 108 #[.int .u64 (x : Int), .int .i64 8] w fun e w' => e = .returned (.int .u64 (rr8 x : Nat)) ∧ Below w.heap.size w w' := by
  have HR := Lib.hid (r8 x hx)
  clear hx
  go_enter Try.func108, Try.ntmps108
  go_wp2
  go_region
  all_goals go_wp2
  all_goals go_ret
  all_goals exact ⟨ret_int HR.out, (Below.refl _ _).drew⟩
set_option maxRecDepth 100000 in
theorem rotr3_any (x : Nat) (w : World) (hx : x < M) :
    Calls Try.prog 108 #[.int .u64 (x : Int), .int .i64 3] w fun e w' => e = .returned (.int .u64 (rr3 x : Nat)) ∧ Below w.heap.size w w' := by
  have HR := Lib.hid (r3 x hx)
  clear hx
  go_enter Try.func108, Try.ntmps108
  go_wp2
  go_region
  all_goals go_wp2
  all_goals go_ret
  all_goals exact ⟨ret_int HR.out, (Below.refl _ _).drew⟩
set_option maxRecDepth 100000 in
theorem rotr61_any (x : Nat) (w : World) (hx : x < M) :
    Calls Try.prog 108 #[.int .u64 (x : Int), .int .i64 61] w fun e w' => e = .returned (.int .u64 (rl3 x : Nat)) ∧ Below w.heap.size w w' := by
  have HR := Lib.hid (r61 x hx)
  clear hx
  go_enter Try.func108, Try.ntmps108
  go_wp2
  go_region
  all_goals go_wp2
  all_goals go_ret
  all_goals exact ⟨ret_int HR.out, (Below.refl _ _).drew⟩
set_option maxRecDepth 100000 in
theorem rotr56_any (x : Nat) (w : World) (hx : x < M) :
    Calls Try.prog 108 #[.int .u64 (x : Int), .int .i64 56] w fun e w' => e = .returned (.int .u64 (rl8 x : Nat)) ∧ Below w.heap.size w w' := by
  have HR := Lib.hid (r56 x hx)
  clear hx
  go_enter Try.func108, Try.ntmps108
  go_wp2
  go_region
  all_goals go_wp2
  all_goals go_ret
  all_goals exact ⟨ret_int HR.out, (Below.refl _ _).drew⟩
theorem rotl3_any (x : Nat) (w : World) (hx : x < M) :
    Calls Try.prog 109 #[.int .u64 (x : Int), .int .i64 3] w fun e w' => e = .returned (.int .u64 (rl3 x : Nat)) ∧ Below w.heap.size w w' := by
  have HR := Lib.hid (fun w => rotr61_any x w hx)
  clear hx
  go_enter Try.func109, Try.ntmps109
  go_wp2_with fail
  refine (HR.out _).mono ?_
  rintro e w' ⟨rfl, hb⟩
  go_wp2_with fail
  go_ret
  exact ⟨rfl, hb⟩
theorem rotl8_any (x : Nat) (w : World) (hx : x < M) :
    Calls Try.prog 109 #[.int .u64 (x : Int), .int .i64 8] w fun e w' => e = .returned (.int .u64 (rl8 x : Nat)) ∧ Below w.heap.size w w' := by
  have HR := Lib.hid (fun w => rotr56_any x w hx)
  clear hx
  go_enter Try.func109, Try.ntmps109
  go_wp2_with fail
  refine (HR.out _).mono ?_
  rintro e w' ⟨rfl, hb⟩
  go_wp2_with fail
  go_ret
  exact ⟨rfl, hb⟩

theorem val_int (a b : Nat) (ha : a < 72057594037927936) (hb : b < 256) : IntKind.u64.wrap (256 * (a : Int)) = ((256 * a : Nat) : Int) ∧ IntKind.u64.wrap (((256 * a : Nat) : Int) + (b : Int)) = ((a * 256 + b : Nat) : Int) := by
  constructor
  · simp only [IntKind.wrap, IntKind.bits, IntKind.signed]; simp; omega
  · simp only [IntKind.wrap, IntKind.bits, IntKind.signed]; simp; omega

set_option maxRecDepth 100000 in
set_option maxHeartbeats 1000000 in
theorem refValue_any (b off n c : Nat) (g : Nat → Nat) (w : World) (hg : ∀ i, g i < 256) (hn : n ≤ 8) (hc : ∀ i, i < n → w.cell? ⟨b, off + i, none⟩ = some (.int .u8 (g i : Int))) :
    Calls Try.prog 71 #[.slice (some ⟨b, off, none⟩) n c] w fun e w' => e = .returned (.int .u64 (wd g n : Nat)) ∧ Below w.heap.size w w' := by
  have HC := Lib.hid hc
  have HG := Lib.hid hg
  clear hc hg
  go_enter Try.func71, Try.ntmps71
  go_wp2
  go_loop [3, 4] (fun v i => ∃ k a : Nat, k ≤ n ∧ i = .int .i64 (k : Int) ∧ v = .int .u64 (a : Int) ∧ Hid (a = wd g k)) (fun _ i => n - (intOf i).toNat)
  case atStart => exact ⟨0, 0, by omega, rfl, rfl, Lib.hid rfl⟩
  case round =>
    obtain ⟨k, a, hk, rfl, rfl, HI⟩ := hrel
    by_cases hlt : k < n
    · have c1 := HC.out k hlt
      obtain ⟨p, hp⟩ : ∃ p, p = g k := ⟨_, rfl⟩
      rw [← hp] at c1
      have lp : p < 256 := by rw [hp]; exact HG.out k
      have la : a < 72057594037927936 := by
        rw [HI.out]
        have h1 := wd_lt g HG.out k
        have h2 : (256 : Nat) ^ k ≤ 256 ^ 7 := Nat.pow_le_pow_right (by decide) (by omega)
        have h3 : (256 : Nat) ^ 7 = 72057594037927936 := by decide
        omega
      have hw1 := (val_int a p la lp).1
      have HS : Hid (a * 256 + p = wd g (k + 1)) := Lib.hid (by rw [wd, HI.out, hp])
      have hs1 : (256 * (a : Int) + (p : Int)) = ((a * 256 + p : Nat) : Int) := by omega
      have hlim : a * 256 + p ≤ 18446744073709551615 := by omega
      have HS1 := Lib.hid hs1
      clear hp HI hs1
      go_wp2
      go_round
      case rel => exact ⟨k + 1, a * 256 + p, by omega, by go_num, by rw [← HS1.out], HS⟩
      case measure => simp [intOf]; omega
    · obtain rfl : k = n := by omega
      go_wp2
      go_ret
      exact ⟨ret_int (by rw [HI.out]), Below.refl _ _⟩
end Go.Proofs.Ytelalpikdidpeaa.L2

/-
  The specification's words, round keys and bytes.
-/
namespace Go.Proofs.Ytelalpikdidpeaa.L2
open Go.RowKit SP
set_option linter.unusedVariables false
set_option linter.unusedSimpArgs false

theorem wd_congr (f g : Nat → Nat) : ∀ k, (∀ i, i < k → f i = g i) → wd f k = wd g k
  | 0, _ => rfl
  | k + 1, h => by rw [wd, wd, wd_congr f g k (fun i hi => h i (by omega)), h k (by omega)]
theorem kw_kby (X Y : Nat) (hX : X < M) (hY : Y < M) : kwX (kby X Y) = X ∧ kwY (kby X Y) = Y :=
  kby_ext (kw_lt _ (kby_lt X Y)).1 (kw_lt _ (kby_lt X Y)).2 hX hY (fun i hi => kw_byte _ (kby_lt X Y) i hi)

set_option maxRecDepth 100000 in
set_option maxHeartbeats 1000000 in
theorem words_any (X Y : Nat) (w : World) (hX : X < M) (hY : Y < M) :
    Calls Try.prog 106 #[.agg (kl X Y).toArray] w fun e w' => e = .returned (.tuple #[.int .u64 (X : Int), .int .u64 (Y : Int)]) ∧ Below w.heap.size w w' := by
  obtain ⟨W1, hW1⟩ : ∃ W1, W1 = w.alloc (.cells (kl X Y).toArray 23) := ⟨_, rfl⟩
  have HB1 : Hid (Below w.heap.size w W1) := Lib.hid (by rw [hW1]; exact (Below.refl _ _).alloc (Nat.le_refl _) _)
  have HK : Hid (KeyAt W1 w.heap.size X Y) := Lib.hid (by rw [hW1]; exact KeyAt.new w X Y 23)
  have hk := kw_kby X Y hX hY
  have H1 := Lib.hid (fun (w' : World) (hB : Below W1.heap.size W1 w') => refValue_any w.heap.size 0 8 16 (kby X Y) w' (kby_lt X Y) (Nat.le_refl _) (fun i hi => by rw [Nat.zero_add]; exact (HK.out.keep hB).cell i (by omega)))
  have H2 := Lib.hid (fun (w' : World) (hB : Below W1.heap.size W1 w') => refValue_any w.heap.size 8 8 8 (fun i => kby X Y (8 + i)) w' (fun i => kby_lt X Y _) (Nat.le_refl _) (fun i hi => (HK.out.keep hB).cell (8 + i) (by omega)))
  have e1 : wd (kby X Y) 8 = X := hk.1
  have e2 : wd (fun i => kby X Y (8 + i)) 8 = Y := hk.2
  rw [e1] at H1
  rw [e2] at H2
  have HW := Lib.hid hW1
  clear hW1 hX hY hk e1 e2
  go_enter Try.func106, Try.ntmps106
  go_wp2_with fail
  rw [← HW.out]
  refine wp_region_inv (by kernel_rfl) (by kernel_rfl) (fun l a w' => a = { tmps := #[Value.agg (kl X Y).toArray, .pointer (some ⟨w.heap.size, 0, none⟩), bif l 4 then Value.int .u64 (X : Int) else .int .u64 0, bif l 5 then Value.int .u64 (Y : Int) else .int .u64 0, bif l 0 then Value.slice (some ⟨w.heap.size, 0, none⟩) 8 16 else undef, bif l 1 then Value.int .u64 (X : Int) else undef, bif l 2 then Value.slice (some ⟨w.heap.size, 8, none⟩) 8 8 else undef, bif l 3 then Value.int .u64 (Y : Int) else undef], defers := [] } ∧ Below W1.heap.size W1 w') ⟨rfl, (Below.refl _ _).drew⟩ ?_ ?_
  · rintro l a w' i ⟨rfl, hB⟩ hi hli hpre
    have hi2 : i < 6 := hi
    have hcase : i = 0 ∨ i = 1 ∨ i = 2 ∨ i = 3 ∨ i = 4 ∨ i = 5 := by omega
    clear hi hi2
    rcases hcase with rfl | rfl | rfl | rfl | rfl | rfl
    · -- 0: Op.slice 23 (Operand.tmp 1) none (some (Operand.const (Value
      refine wpOp_step rfl (fun K hK => ?_)
      clear hpre
      rw [if_pos (by rfl)]
      go_simp
      exact hK _ _ ⟨by simp [upd, Act.put], hB⟩
    · -- 1: Op.call { callee := Callee.value (Operand.func 61), args := 
      have p0 : l 0 = true := hpre _ rfl ⟨0, .data⟩ (by simp) rfl
      refine wpOp_step rfl (fun K hK => ?_)
      simp only [p0, cond_true]
      clear hpre
      rw [if_pos (by rfl)]
      go_simp
      refine (H1.out _ hB).mono ?_
      rintro e w5 ⟨rfl, hb5⟩
      exact hK _ _ ⟨by simp [upd, Act.put, p0], hB.trans (hb5.mono hB.size)⟩
    · -- 2: Op.slice 23 (Operand.tmp 1) (some (Operand.const (Value.int 
      refine wpOp_step rfl (fun K hK => ?_)
      clear hpre
      rw [if_pos (by rfl)]
      go_simp
      exact hK _ _ ⟨by simp [upd, Act.put], hB⟩
    · -- 3: Op.call { callee := Callee.value (Operand.func 61), args := 
      have p2 : l 2 = true := hpre _ rfl ⟨2, .data⟩ (by simp) rfl
      have p1 : l 1 = true := hpre _ rfl ⟨1, .chain⟩ (by simp) rfl
      refine wpOp_step rfl (fun K hK => ?_)
      simp only [p2, p1, cond_true]
      clear hpre
      rw [if_pos (by rfl)]
      go_simp
      refine (H2.out _ hB).mono ?_
      rintro e w5 ⟨rfl, hb5⟩
      exact hK _ _ ⟨by simp [upd, Act.put, p2, p1], hB.trans (hb5.mono hB.size)⟩
    · -- 4: Op.assign (Operand.tmp 5)
      have p1 : l 1 = true := hpre _ rfl ⟨1, .data⟩ (by simp) rfl
      have p3 : l 3 = true := hpre _ rfl ⟨3, .chain⟩ (by simp) rfl
      have p0 : l 0 = true := hpre _ rfl ⟨0, .phase⟩ (by simp) rfl
      refine wpOp_step rfl (fun K hK => ?_)
      simp only [p1, p3, p0, cond_true]
      clear hpre
      rw [if_pos (by rfl)]
      go_simp
      exact hK _ _ ⟨by simp [upd, Act.put, p1, p3, p0], hB⟩
    · -- 5: Op.assign (Operand.tmp 7)
      have p3 : l 3 = true := hpre _ rfl ⟨3, .data⟩ (by simp) rfl
      have p4 : l 4 = true := hpre _ rfl ⟨4, .chain⟩ (by simp) rfl
      have p0 : l 0 = true := hpre _ rfl ⟨0, .phase⟩ (by simp) rfl
      have p1 : l 1 = true := hpre _ rfl ⟨1, .phase⟩ (by simp) rfl
      have p2 : l 2 = true := hpre _ rfl ⟨2, .phase⟩ (by simp) rfl
      refine wpOp_step rfl (fun K hK => ?_)
      simp only [p3, p4, p0, p1, p2, cond_true]
      clear hpre
      rw [if_pos (by rfl)]
      go_simp
      exact hK _ _ ⟨by simp [upd, Act.put, p3, p4, p0, p1, p2], hB⟩
  · rintro l a W1' hall ⟨rfl, hBz⟩
    simp only [hall 0 (by decide), hall 1 (by decide), hall 2 (by decide), hall 3 (by decide), hall 4 (by decide), hall 5 (by decide), cond_true]
    clear hall
    go_wp2_with fail
    go_ret2
    exact ⟨rfl, HB1.out.trans (hBz.mono HB1.out.size)⟩

end Go.Proofs.Ytelalpikdidpeaa.L2

/-
  The specification's round keys.
-/
namespace Go.Proofs.Ytelalpikdidpeaa.L2
open Go.RowKit SP
set_option linter.unusedVariables false
set_option linter.unusedSimpArgs false

theorem own_below {w w' : World} {B e size n : Nat} {v : Value} {xs : List Value} (h : w.ownsRow B e size v n xs) (hb : Below w.heap.size w w') : w'.ownsRow B e size v n xs :=
  h.kept (grownBy_of_below hb) (by by_cases e : v.ownBlock = none; exact .inl e; exact .inr e)
theorem own_new (w : World) (e : TypeId) (x : Value) (base : Nat) (hb : base ≤ w.heap.size) : (w.alloc (.cells #[x] e)).ownsRow base e 1 (.slice (some ⟨w.heap.size, 0, none⟩) 1 1) 1 [x] :=
  ⟨rfl, .inr ⟨w.heap.size, 1, #[x], rfl, hb, heap_alloc_new w _, Nat.le_refl _, by simp [maxLen], rfl, rfl⟩⟩
theorem own_slice {w : World} {B e n : Nat} {v : Value} {xs : List Value} (h : w.ownsRow B e 1 v n xs) (hn : 0 < n) : ∃ g c, v = .slice (some ⟨g, 0, none⟩) n c ∧ B ≤ g ∧ n ≤ c ∧ c ≤ maxLen ∧ ∀ i x, xs[i]? = some x → w.cell? ⟨g, i, none⟩ = some x := by
  rcases h.2 with ⟨_, h0⟩ | ⟨g, cap, cur, hv, hb, hg, hnc, hcm, hcs, ht⟩
  · omega
  · refine ⟨g, cap, hv, hb, hnc, hcm, fun i x hx => ?_⟩
    rw [cell_of_row _ _ i _ _ _ hg]
    rw [← ht] at hx
    have hi : i < n * 1 := by
      have := (List.getElem?_eq_some_iff.1 hx).1
      simp at this; omega
    rw [List.getElem?_take, if_pos hi] at hx
    simpa using hx

theorem own_block {w : World} {B e size n : Nat} {v : Value} {xs : List Value} (h : w.ownsRow B e size v n xs) {b : Nat} (hb : some b = v.ownBlock) : B ≤ b := by
  rcases h.2 with ⟨rfl, _⟩ | ⟨g, cap, cur, rfl, h1, _⟩
  · cases hb
  · injection hb with hb; rw [hb]; exact h1

theorem info30 : (Try.prog.info? 24).map (fun i => (i.zero, i.size, i.bytes)) = some (some (.int .u64 0), 1, 8) := by kernel_rfl
theorem info5 : (Try.prog.info? 5).map (fun i => (i.zero, i.size, i.bytes)) = some (some (.int .u8 0), 1, 1) := by kernel_rfl

/-- The first n round keys, as values. -/
def rks (X Y n : Nat) : List Value := (List.range n).map fun i => .int .u64 (rk X Y i : Int)
theorem rks_snoc (X Y n : Nat) : rks X Y (n + 1) = rks X Y n ++ [.int .u64 (rk X Y n : Int)] := by unfold rks; rw [List.range_succ, List.map_append]; rfl

set_option maxRecDepth 100000 in
set_option maxHeartbeats 2000000 in
theorem refKeys_any (X Y : Nat) (w : World) (hX : X < M) (hY : Y < M) :
    Calls Try.prog 107 #[.agg (kl X Y).toArray] w fun e w' => (∃ g c, e = .returned (.slice (some ⟨g, 0, none⟩) 32 c) ∧ w.heap.size ≤ g ∧ 32 ≤ c ∧ c ≤ maxLen ∧ ∀ i, i < 32 → w'.cell? ⟨g, i, none⟩ = some (.int .u64 (rk X Y i : Int))) ∧ Below w.heap.size w w' := by
  obtain ⟨i0, hi, hz0, hz1, hz2⟩ := info_parts info30
  obtain ⟨N, hN⟩ : ∃ N, N = w.heap.size := ⟨_, rfl⟩
  obtain ⟨W1, hW1⟩ : ∃ W1, W1 = w.alloc (.cells (kl X Y).toArray 23) := ⟨_, rfl⟩
  have HB1 : Hid (Below N w W1) := Lib.hid (by rw [hW1, hN]; exact (Below.refl _ _).alloc (Nat.le_refl _) _)
  have HL1 : Hid (N ≤ W1.heap.size) := Lib.hid (by rw [hW1, hN]; simp)
  have HK : Hid (KeyAt W1 N X Y) := Lib.hid (by rw [hW1, hN]; exact KeyAt.new w X Y 23)
  have HWd := Lib.hid (fun w => words_any X Y w hX hY)
  have HW := Lib.hid hW1
  have HX := Lib.hid (And.intro hX hY)
  have HN := Lib.hid hN
  rw [← hN]
  clear hW1 hX hY hN
  go_enter Try.func107, Try.ntmps107
  go_wp2_with (refine wpList_load_key rfl _ rfl _ rfl X Y (by rw [← HW.out, ← HN.out]; exact HK.out) ?_)
  rw [← HW.out, ← HN.out]
  refine (HWd.out _).mono ?_
  rintro e w2 ⟨rfl, hb2⟩
  have HB2 := Lib.hid (HB1.out.trans (hb2.mono HL1.out))
  have HL2 := Lib.hid (Nat.le_trans HL1.out hb2.size)
  clear hb2
  go_wp2_with fail
  obtain ⟨W3, hW3⟩ : ∃ W3, W3 = w2.alloc (.cells #[.int .u64 (Y : Int)] 24) := ⟨_, rfl⟩
  have ho3 : W3.ownsRow N 24 1 (.slice (some ⟨w2.heap.size, 0, none⟩) 1 1) 1 (rks X Y 1) := by rw [hW3]; exact own_new w2 24 _ N HL2.out
  have HB3 : Below N w W3 := by rw [hW3]; exact HB2.out.alloc HL2.out _
  have HL3 : N ≤ W3.heap.size := by rw [hW3]; simp; have := HL2.out; omega
  rw [← hW3]
  clear hW3
  go_loopw [3, 4, 5, 6] (fun x y v i wr => ∃ k a c : Nat, k ≤ 31 ∧ i = .int .i64 (k : Int) ∧ x = .int .u64 (a : Int) ∧ y = .int .u64 (c : Int) ∧ Hid (a = (kst X Y k).1 ∧ c = (kst X Y k).2) ∧ Hid (wr.ownsRow N 24 1 v (k + 1) (rks X Y (k + 1)) ∧ Below N w wr ∧ N ≤ wr.heap.size)) (fun _ _ _ i _ => 31 - (intOf i).toNat)
  case atStart => exact ⟨0, X, Y, by omega, rfl, rfl, rfl, Lib.hid ⟨rfl, rfl⟩, Lib.hid ⟨ho3, HB3, HL3⟩⟩
  case round =>
    obtain ⟨k, a, c, hk, rfl, rfl, rfl, HI, HO⟩ := hrel
    by_cases hlt : k < 31
    · have ha : a < M := by rw [HI.out.1]; exact (kst_ok HX.out.1 HX.out.2 k (by omega)).1
      have hc : c < M := by rw [HI.out.2]; exact (kst_ok HX.out.1 HX.out.2 k (by omega)).2
      have hkM : k < M := by unfold M; omega
      have H8 := Lib.hid (fun w => rotr8_any a w ha)
      have H3 := Lib.hid (fun w => rotl3_any c w hc)
      have hXx : bits .xor .u64 (IntKind.u64.wrap ((c : Int) + (rr8 a : Int))) (k : Int) = ((rdX a c k : Nat) : Int) := by rw [Int.add_comm]; exact rdX_int a c k hkM
      have hYy := rdY_int a c k hc hkM
      have HS : Hid (rdX a c k = (kst X Y (k + 1)).1 ∧ rdY a c k = (kst X Y (k + 1)).2) := Lib.hid (by rw [kst, HI.out.1, HI.out.2]; exact ⟨rfl, rfl⟩)
      obtain ⟨p, hp⟩ : ∃ p, p = rdX a c k := ⟨_, rfl⟩
      obtain ⟨q, hq⟩ : ∃ q, q = rdY a c k := ⟨_, rfl⟩
      rw [← hp] at hXx hYy HS
      rw [← hq] at hYy HS
      have hqk : Hid (q = rk X Y (k + 1)) := Lib.hid HS.out.2
      clear ha hc hkM HI hp hq
      go_wp2_with fail
      refine (H8.out _).mono ?_
      rintro e w4 ⟨rfl, hb4⟩
      have O4 := Lib.hid (own_below HO.out.1 hb4)
      have B4 := Lib.hid (HO.out.2.1.trans (hb4.mono HO.out.2.2))
      have L4 := Lib.hid (Nat.le_trans HO.out.2.2 hb4.size)
      clear hb4
      go_wp2_with fail
      refine (H3.out _).mono ?_
      rintro e w5 ⟨rfl, hb5⟩
      have O5 := own_below O4.out hb5
      have B5 := Lib.hid (B4.out.trans (hb5.mono L4.out))
      have L5 := Nat.le_trans L4.out hb5.size
      clear hb5
      go_wp2_with (first
        | (at_builtin; refine wpList_append_own _ rfl _ _ 159 rfl N 24 i0 _ 1 8 Try.underlying159 hi hz0 hz1 hz2 rfl (by omega) _ _ _ rfl (O5.alloc _) ⟨w5.heap.size, 0, none⟩ 1 1 [.int .u64 (q : Int)] rfl rfl (cell_one_new _ _ _) (by intro u hu; simp at hu; subst hu; rfl) (by unfold maxLen; omega) (by omega) (by simp; omega) ?_; intro v1 w6 hown6 hg6 _))
      go_roundw
      case rel => exact ⟨k + 1, p, q, by omega, by go_num, rfl, rfl, HS, Lib.hid ⟨by rw [rks_snoc, ← hqk.out]; exact hown6, (B5.out.alloc L5 _).grown hg6 (by simp; omega) (fun b hb => own_block O5 hb.symm), Nat.le_trans (by simp; omega) hg6.size⟩⟩
      case measure => simp [intOf]; omega
    · obtain rfl : k = 31 := by omega
      obtain ⟨g, c2, hv, h1, h2, h3, h4⟩ := own_slice HO.out.1 (by omega)
      subst hv
      go_wp2
      go_ret
      exact ⟨⟨g, c2, rfl, h1, h2, h3, fun i hi => h4 i _ (by simp [rks, List.getElem?_map, List.getElem?_range hi])⟩, HO.out.2.1⟩
end Go.Proofs.Ytelalpikdidpeaa.L2

/-
  The specification's Bytes, key, block.
-/
namespace Go.Proofs.Ytelalpikdidpeaa.L2
open Go.RowKit SP
set_option linter.unusedVariables false
set_option linter.unusedSimpArgs false

/-- The low k bytes of a number, the highest first. -/
def lowb (x : Nat) : Nat → List Nat
  | 0 => []
  | k + 1 => (x / 256 ^ k % 256) :: lowb x k
theorem lowb_len (x : Nat) : ∀ k, (lowb x k).length = k
  | 0 => rfl
  | k + 1 => by rw [lowb, List.length_cons, lowb_len x k]
theorem lowb_get (x : Nat) : ∀ k j, j < k → (lowb x k)[j]? = some (x / 256 ^ (k - 1 - j) % 256)
  | 0, j, h => by omega
  | k + 1, 0, _ => by rw [lowb]; simp
  | k + 1, j + 1, h => by rw [lowb, List.getElem?_cons_succ, lowb_get x k j (by omega), show k + 1 - 1 - (j + 1) = k - 1 - j by omega]

theorem bl_get (bs : List Nat) (j d : Nat) (h : bs[j]? = some d) : (bl bs)[j]? = some (.int .u8 (d : Int)) := by simp [bl, u8, List.getElem?_map, h]
theorem bl_one (bs : List Nat) : ∀ v ∈ bl bs, v.oneCell' = true := by
  intro v hv; obtain ⟨d, _, rfl⟩ := List.mem_map.1 hv; rfl

set_option maxRecDepth 100000 in
set_option maxHeartbeats 2000000 in
theorem refBytes_any (x m : Nat) (w : World) (hx : x < M) (hm : m ≤ 8) :
    Calls Try.prog 66 #[.int .u64 (x : Int), .int .i64 (m : Int)] w fun e w' => ∃ v, e = .returned v ∧ w'.ownsRow w.heap.size 5 1 v m (bl (lowb x m)) ∧ Below w.heap.size w w' := by
  obtain ⟨i0, hi, hz0, hz1, hz2⟩ := info_parts info5
  obtain ⟨N, hN⟩ : ∃ N, N = w.heap.size := ⟨_, rfl⟩
  have HN := Lib.hid hN
  rw [← hN]
  have hN' : N ≤ w.heap.size := by omega
  clear hN
  go_enter Try.func66, Try.ntmps66
  go_wp2
  go_loopw [0, 5, 6] (fun y v i wr => ∃ k a : Nat, k ≤ m ∧ i = .int .i64 (k : Int) ∧ y = .int .u64 (a : Int) ∧ a ≤ 18446744073709551615 ∧ Hid (a = x / 256 ^ k) ∧ Hid (wr.ownsRow N 5 1 v k (bl (lowb x k)) ∧ Below N w wr ∧ N ≤ wr.heap.size) ∧ Hid (k = 0 → v = .slice none 0 0)) (fun _ _ i _ => m - (intOf i).toNat)
  case atStart => exact ⟨0, x, by omega, rfl, rfl, by unfold M at hx; omega, Lib.hid (by simp), Lib.hid ⟨World.ownsRow_nil _ _ _ _, Below.refl _ _, hN'⟩, Lib.hid (fun _ => rfl)⟩
  case round =>
    obtain ⟨k, a, hk, rfl, rfl, ha, HI, HO, HV⟩ := hrel
    by_cases hlt : k < m
    · obtain ⟨d, hd⟩ : ∃ d, d = a % 256 := ⟨_, rfl⟩
      have hd1 : (a : Int) % 256 = (d : Int) := by omega
      have hd2 : d < 256 := by omega
      have HL : Hid (bl (lowb x (k + 1)) = [.int .u8 (d : Int)] ++ bl (lowb x k)) := Lib.hid (by rw [lowb, hd, HI.out]; rfl)
      have HA : Hid (a / 256 = x / 256 ^ (k + 1)) := Lib.hid (by rw [HI.out, Nat.div_div_eq_div_mul, ← Nat.pow_succ])
      clear hd HI
      have hown1 := own_new wr 5 (.int .u8 (d : Int)) N HO.out.2.2
      rcases Nat.eq_zero_or_pos k with rfl | hpos
      · have hv : u5 = .slice none 0 0 := HV.out rfl
        subst hv
        have hap := fun ty => run_append_room_src (P := Try.prog) (w := wr.alloc (.cells #[.int .u8 (d : Int)] 5)) 71 71 ty 5 i0 Try.underlying71 hi wr.heap.size 0 1 1 (.slice none 0 0) 0 [] (Src.ofNil _ Try.underlying71 0) (by omega) (fun j hj => by simp at hj) (fun j hj => by simp at hj)
        simp only [World.setCells] at hap
        go_wp2
        go_roundw
        case rel => exact ⟨1, a / 256, by omega, by go_num, by go_num, by omega, HA, Lib.hid ⟨by rw [HL.out]; exact hown1, HO.out.2.1.alloc HO.out.2.2 _, by simp; have := HO.out.2.2; omega⟩, Lib.hid (fun h => by omega)⟩
        case measure => simp [intOf]; omega
      · obtain ⟨g, c2, hv, h1, h2, h3, h4⟩ := own_slice HO.out.1 hpos
        subst hv
        have H4 := Lib.hid h4
        have hgl : g < wr.heap.size := by
          exact block_lt_of_cell (H4.out 0 _ (bl_get _ 0 _ (lowb_get x k 0 hpos)))
        have hnw : ∀ j u, (bl (lowb x k))[j]? = some u → (wr.alloc (.cells #[.int .u8 (d : Int)] 5)).cell? ((⟨g, 0, none⟩ : Addr).add j) = some u := by
          intro j u hu
          have h6 := H4.out j u hu
          rw [Addr.add_lit, Nat.zero_add, World.cell?_alloc_some _ _ _ (by rw [h6]; rfl)]
          exact h6
        clear h4
        go_wp2_with (first
          | (at_builtin; refine wpList_append_own _ rfl _ _ 71 rfl N 5 i0 _ 1 1 Try.underlying71 hi hz0 hz1 hz2 rfl (by omega) _ 1 [.int .u8 (d : Int)] rfl hown1 ⟨g, 0, none⟩ k c2 (bl (lowb x k)) rfl (by simp [bl, lowb_len]) hnw (bl_one _) (by unfold maxLen; omega) (by omega) (by simp; have := HO.out.2.2; omega) ?_; rotate_left; intro v1 w6 hown6 hg6 _))
        go_roundw
        case rel => exact ⟨k + 1, a / 256, by omega, by go_num, by go_num, by omega, HA, Lib.hid ⟨by rw [HL.out, Nat.add_comm]; exact hown6, (HO.out.2.1.alloc HO.out.2.2 _).grown hg6 (by simp; have := HO.out.2.2; omega) (fun b hb => own_block hown1 hb.symm), Nat.le_trans (by simp; have := HO.out.2.2; omega) hg6.size⟩, Lib.hid (fun h => by omega)⟩
        case measure => simp [intOf]; omega
    · obtain rfl : k = m := by omega
      go_wp2
      go_ret
      exact ⟨_, rfl, HO.out.1, HO.out.2.1⟩
end Go.Proofs.Ytelalpikdidpeaa.L2

/-
  Contracts of xor, the program's and the laws' own.
-/
namespace Go.Proofs.Ytelalpikdidpeaa.L2
open Go.RowKit SP

theorem kby_xor (X Y A B j : Nat) : kby (X ^^^ A) (Y ^^^ B) j = kby X Y j ^^^ kby A B j := by
  have key : ∀ x y p : Nat, (x ^^^ y) / 256 ^ p % 256 = (x / 256 ^ p % 256) ^^^ (y / 256 ^ p % 256) := by
    intro x y p
    rw [show (256 : Nat) = 2 ^ 8 by decide, ← Nat.pow_mul, ← Nat.shiftRight_eq_div_pow, ← Nat.shiftRight_eq_div_pow, ← Nat.shiftRight_eq_div_pow, Nat.shiftRight_xor_distrib, Nat.xor_mod_two_pow]
  unfold kby
  split <;> exact key _ _ _

theorem xor8_int (a b : Nat) (ha : a < 256) (hb : b < 256) : bits .xor .u8 (a : Int) (b : Int) = ((a ^^^ b : Nat) : Int) := u8_xor_nat a b ha hb
end Go.Proofs.Ytelalpikdidpeaa.L2

/-
  The specification's key.
-/
namespace Go.Proofs.Ytelalpikdidpeaa.L2
open Go.RowKit SP
set_option linter.unusedVariables false
set_option linter.unusedSimpArgs false

/-- n bytes, zeros behind. -/
def flz (n : Nat) (g : Nat → Nat) (i : Nat) : Nat := if i < n then g i else 0
theorem flz_lt (n : Nat) (g : Nat → Nat) (h : ∀ i, g i < 256) (i : Nat) : flz n g i < 256 := by unfold flz; split; exact h i; omega

set_option maxRecDepth 100000 in
set_option maxHeartbeats 1000000 in
theorem refKey_any (b off n c : Nat) (g : Nat → Nat) (w : World) (hg : ∀ i, g i < 256) (hc : ∀ i, i < n → i < 16 → w.cell? ⟨b, off + i, none⟩ = some (.int .u8 (g i : Int))) :
    Calls Try.prog 136 #[.slice (some ⟨b, off, none⟩) n c] w fun e w' => e = .returned (.agg (kl (kwX (flz n g)) (kwY (flz n g))).toArray) ∧ Below w.heap.size w w' := by
  obtain ⟨wo, hwo⟩ : ∃ wo, wo = (w.alloc (.cells z16 23)).alloc (.cells z16 23) := ⟨_, rfl⟩
  have HB : Hid (Below w.heap.size w wo) := Lib.hid (by rw [hwo]; exact ((Below.refl _ _).alloc (Nat.le_refl _) _).alloc (by simp) _)
  have HR : Hid (Row wo (w.heap.size + 1) (fun _ => 0)) := Lib.hid (by
    have h := Row.zeros (w.alloc (.cells z16 23)) 23
    rw [World.size_alloc] at h
    rw [hwo]; exact h)
  have HT : Hid (wo.there w.heap.size 0 16) := Lib.hid (by rw [hwo]; exact ((Row.zeros w 23).keep ((Below.refl _ _).alloc (Nat.le_refl _) _)).there)
  have HW := Lib.hid hwo
  have HC := Lib.hid hc
  have HG := Lib.hid hg
  clear hwo hc hg
  go_enter Try.func136, Try.ntmps136
  go_wp2
  rw [← HW.out]
  clear HW
  go_loopw [4] (fun i wr => ∃ (k : Nat) (f : Nat → Nat), k ≤ 16 ∧ k ≤ n ∧ i = .int .i64 (k : Int) ∧ Hid (Row wr (w.heap.size + 1) f ∧ wr.there w.heap.size 0 16 ∧ Below w.heap.size w wr ∧ ∀ j, j < 16 → f j = if j < k then g j else 0)) (fun i _ => 16 - (intOf i).toNat)
  case atStart => exact ⟨0, _, by omega, by omega, rfl, Lib.hid ⟨HR.out, HT.out, HB.out, fun j _ => by simp⟩⟩
  case round =>
    obtain ⟨k, f, hk, hkn, rfl, HI⟩ := hrel
    have hend : ¬ (k < 16 ∧ k < n) → Hid (KeyAt wr (w.heap.size + 1) (kwX (flz n g)) (kwY (flz n g))) := fun hno => Lib.hid (HI.out.1.key fun j hj => by
      rw [HI.out.2.2.2 j hj, kw_byte _ (flz_lt n g HG.out) j hj]
      unfold flz
      by_cases e : j < k
      · rw [if_pos e, if_pos (by omega)]
      · rw [if_neg e, if_neg (by omega)])
    by_cases hlt : k < 16
    · by_cases hln : k < n
      · have c1 := HC.out k hln hlt
        have hbl : b < w.heap.size := block_lt_of_cell c1
        have c2 : wr.cell? ⟨b, off + k, none⟩ = some (.int .u8 (g k : Int)) := (HI.out.2.2.1.cell (p := ⟨b, off + k, none⟩) hbl).trans c1
        have f1 : wr.frozen? ⟨w.heap.size + 1, k, none⟩ = false := HI.out.1.fr k hlt
        have c3 : wr.cell? ⟨w.heap.size + 1, k, none⟩ = some (.int .u8 (f k : Int)) := HI.out.1.cell k hlt
        obtain ⟨p, hp⟩ : ∃ p, p = g k := ⟨_, rfl⟩
        rw [← hp] at c2
        have HP := Lib.hid hp
        have l1 : (0 : Int) ≤ (k : Int) := by omega
        have l2 : (k : Int) < 16 := by omega
        have l3 : (k : Int) < (n : Int) := by omega
        clear c1 hp hend
        go_wp2
        go_roundw
        case rel =>
          refine ⟨k + 1, _, by omega, by omega, by go_num, Lib.hid ⟨HI.out.1.set k p hlt, ?_, ?_, fun j hj => ?_⟩⟩
          · intro j hj
            have h := HI.out.2.1 j hj
            refine ⟨?_, ?_⟩
            · show ((World.setCell wr _ _).cell? _).isSome = true
              rw [World.cell?_setCell_other _ _ _ _ (by intro e; injection e with e; omega)]; exact h.1
            · show (World.setCell wr _ _).frozen? _ = false
              rw [World.frozen?_setCell]; exact h.2
          · exact (HI.out.2.2.1).setCell (p := ⟨w.heap.size + 1, k, none⟩) (by simp) _
          · by_cases e : j = k
            · subst e; rw [if_pos rfl, if_pos (by omega), HP.out]
            · rw [if_neg e, HI.out.2.2.2 j hj]
              by_cases e2 : j < k
              · rw [if_pos e2, if_pos (by omega)]
              · rw [if_neg e2, if_neg (by omega)]
        case measure => simp [intOf]; omega
      · have HK2 := hend (by omega)
        have HT2 := Lib.hid HI.out.2.1
        go_wp2_with (first
          | (refine wpList_load_key rfl _ rfl _ rfl _ _ HK2.out ?_)
          | (refine wpList_store_key rfl _ _ rfl w.heap.size _ _ rfl rfl HT2.out ?_))
        exact ends_key rfl w.heap.size _ _ HT2.out rfl rfl ⟨rfl, below_setCells _ _ _ _ HI.out.2.2.1 (by omega)⟩
    · obtain rfl : k = 16 := by omega
      have HK2 := hend (by omega)
      have HT2 := Lib.hid HI.out.2.1
      go_wp2_with (first
        | (refine wpList_load_key rfl _ rfl _ rfl _ _ HK2.out ?_)
        | (refine wpList_store_key rfl _ _ rfl w.heap.size _ _ rfl rfl HT2.out ?_))
      exact ends_key rfl w.heap.size _ _ HT2.out rfl rfl ⟨rfl, below_setCells _ _ _ _ HI.out.2.2.1 (by omega)⟩
end Go.Proofs.Ytelalpikdidpeaa.L2

/-
  The specification's block.
-/
namespace Go.Proofs.Ytelalpikdidpeaa.L2
open Go.RowKit SP
set_option linter.unusedVariables false
set_option linter.unusedSimpArgs false

theorem lowb_kb (X Y : Nat) : lowb X 8 ++ lowb Y 8 = kb X Y := by
  simp [lowb, kb, List.range_succ, kby]
theorem bl_kl (X Y : Nat) : bl (lowb X 8) ++ bl (lowb Y 8) = kl X Y := by
  unfold kl; rw [← lowb_kb]; unfold bl; rw [List.map_append]
theorem flz_key (X Y : Nat) (hX : X < M) (hY : Y < M) : kwX (flz 16 (kby X Y)) = X ∧ kwY (flz 16 (kby X Y)) = Y := by
  have h := kw_kby X Y hX hY
  refine ⟨.trans ?_ h.1, .trans ?_ h.2⟩
  · exact wd_congr _ _ 8 fun i hi => if_pos (by omega)
  · exact wd_congr _ _ 8 fun i hi => if_pos (by omega)

set_option maxRecDepth 100000 in
set_option maxHeartbeats 1000000 in
theorem refBlock_any (X Y : Nat) (w : World) (hX : X < M) (hY : Y < M) :
    Calls Try.prog 110 #[.int .u64 (X : Int), .int .u64 (Y : Int)] w fun e w' => e = .returned (.agg (kl X Y).toArray) ∧ Below w.heap.size w w' := by
  obtain ⟨i0, hi, hz0, hz1, hz2⟩ := info_parts info5
  obtain ⟨N, hN⟩ : ∃ N, N = w.heap.size := ⟨_, rfl⟩
  obtain ⟨W1, hW1⟩ : ∃ W1, W1 = w.alloc (.cells z16 23) := ⟨_, rfl⟩
  have HB1 : Hid (Below N w W1) := Lib.hid (by rw [hW1, hN]; exact (Below.refl _ _).alloc (Nat.le_refl _) _)
  have HS1 : Hid (W1.heap.size = N + 1) := Lib.hid (by rw [hW1, hN]; simp)
  have HT : Hid (W1.there N 0 16) := Lib.hid (by rw [hW1, hN]; exact (Row.zeros w 23).there)
  have H1 := Lib.hid (fun w => refBytes_any X 8 w hX (by omega))
  have H2 := Lib.hid (fun w => refBytes_any Y 8 w hY (by omega))
  have HF := Lib.hid (flz_key X Y hX hY)
  have HW := Lib.hid hW1
  have HN := Lib.hid hN
  rw [← hN]
  clear hW1 hN hX hY
  go_enter Try.func110, Try.ntmps110
  go_wp2_with fail
  rw [← HW.out, ← HN.out]
  refine (H1.out W1).mono ?_
  rintro e w2 ⟨v1, rfl, ho1, hb2⟩
  have HO1 := Lib.hid ho1
  have HB2 := Lib.hid hb2
  clear ho1 hb2
  go_wp2_with fail
  refine (H2.out w2).mono ?_
  rintro e w3 ⟨v2, rfl, ho2, hb3⟩
  have hL : W1.heap.size ≤ w2.heap.size := HB2.out.size
  have ho1 := own_below HO1.out hb3
  have HB3 := Lib.hid (HB2.out.trans (hb3.mono hL))
  obtain ⟨g2, c2, hv2, q1, q2, q3, q4⟩ := own_slice ho2 (by omega)
  subst hv2
  have hnw : ∀ j u, (bl (lowb Y 8))[j]? = some u → w3.cell? ((⟨g2, 0, none⟩ : Addr).add j) = some u := by
    intro j u hu
    rw [Addr.add_lit, Nat.zero_add]
    exact q4 j u hu
  clear HO1 HB2 ho2 hb3 q4 hL
  have hlen : (bl (lowb Y 8)).length = 8 * 1 := by simp [bl, lowb_len]
  have HB3s : W1.heap.size ≤ w3.heap.size := HB3.out.size
  go_wp2_with (first
    | (at_builtin; refine wpList_append_own _ rfl _ _ 71 rfl W1.heap.size 5 i0 _ 1 1 Try.underlying71 hi hz0 hz1 hz2 rfl (by omega) _ 8 (bl (lowb X 8)) rfl ho1 ⟨g2, 0, none⟩ 8 c2 (bl (lowb Y 8)) rfl hlen hnw (bl_one _) (by unfold maxLen; omega) (by omega) HB3s ?_; intro v5 w6 hown6 hg6 _))
  rw [bl_kl] at hown6
  obtain ⟨g, c, hv5, r1, r2, r3, r4⟩ := own_slice hown6 (by omega)
  subst hv5
  have HB6 := Lib.hid (HB3.out.grown hg6 HB3s (fun b hb => own_block ho1 hb.symm))
  have h72 := refKey_any g 0 16 c (kby X Y) w6 (kby_lt X Y) (fun i _ hi => by rw [Nat.zero_add]; exact r4 i _ (kl_get X Y i hi))
  rw [HF.out.1, HF.out.2] at h72
  refine h72.mono ?_
  rintro e w7 ⟨rfl, hb7⟩
  have HB7 := Lib.hid (HB6.out.trans (hb7.mono HB6.out.size))
  have HT7 : Hid (w7.there N 0 16) := Lib.hid (there_below HT.out HB7.out (by rw [HS1.out]; omega))
  clear h72 HB6 r4 hown6 ho1 hg6 hnw HT hb7
  go_wp2_with (refine wpList_store_key rfl _ _ rfl N _ _ rfl rfl HT7.out ?_)
  exact ends_key rfl N _ _ HT7.out rfl rfl ⟨rfl, below_setCells _ _ _ _ (HB1.out.trans (HB7.out.mono (by rw [HS1.out]; omega))) (Nat.le_refl _)⟩
end Go.Proofs.Ytelalpikdidpeaa.L2

/-
  The specification's encryption.
-/
namespace Go.Proofs.Ytelalpikdidpeaa.L2
open Go.RowKit SP
set_option linter.unusedVariables false
set_option linter.unusedSimpArgs false

theorem add_int (x y : Nat) : IntKind.u64.wrap ((x : Int) + (y : Int)) = (((x + y) % M : Nat) : Int) := by
  simp only [IntKind.wrap, IntKind.bits, IntKind.signed]; simp

set_option maxRecDepth 100000 in
set_option maxHeartbeats 2000000 in
theorem refEncrypt_any (X Y A B : Nat) (w : World) (hX : X < M) (hY : Y < M) (hA : A < M) (hB : B < M) :
    Calls Try.prog 59 #[.agg (kl X Y).toArray, .agg (kl A B).toArray] w fun e w' => e = .returned (.agg (kl (enc X Y A B).1 (enc X Y A B).2).toArray) ∧ Below w.heap.size w w' := by
  obtain ⟨N, hN⟩ : ∃ N, N = w.heap.size := ⟨_, rfl⟩
  obtain ⟨W3, hW3⟩ : ∃ W3, W3 = ((w.alloc (.cells (kl X Y).toArray 23)).alloc (.cells (kl A B).toArray 23)).alloc (.cells z16 23) := ⟨_, rfl⟩
  have HB3 : Hid (Below N w W3) := Lib.hid (by rw [hW3, hN]; exact (((Below.refl _ _).alloc (Nat.le_refl _) _).alloc (by simp) _).alloc (by simp; omega) _)
  have HS3 : Hid (W3.heap.size = N + 3) := Lib.hid (by rw [hW3, hN]; simp)
  have K0 : Hid (KeyAt W3 N X Y) := Lib.hid (by rw [hW3, hN]; exact ((KeyAt.new w X Y 23).alloc _).alloc _)
  have K1 : Hid (KeyAt W3 (N + 1) A B) := Lib.hid (by
    have h := (KeyAt.new (w.alloc (.cells (kl X Y).toArray 23)) A B 23).alloc (.cells z16 23)
    rw [World.size_alloc] at h
    rw [hW3, hN]; exact h)
  have HT : Hid (W3.there (N + 1 + 1) 0 16) := Lib.hid (by
    have h := (Row.zeros ((w.alloc (.cells (kl X Y).toArray 23)).alloc (.cells (kl A B).toArray 23)) 23).there
    rw [World.size_alloc, World.size_alloc] at h
    rw [hW3, hN]; exact h)
  have HWd := Lib.hid (fun w => words_any A B w hA hB)
  have HRk := Lib.hid (fun w => refKeys_any X Y w hX hY)
  have HO := Lib.hid (fun k hk => est_ok hX hY hA hB k hk)
  have HRl := Lib.hid (fun i hi => rk_lt hX hY i hi)
  have HW := Lib.hid hW3
  have HN := Lib.hid hN
  rw [← hN]
  clear hW3 hN hX hY hA hB
  go_enter Try.func59, Try.ntmps59
  go_wp2_with (refine wpList_load_key rfl _ rfl _ rfl A B (by rw [← HW.out, ← HN.out]; exact K1.out) ?_)
  rw [← HW.out, ← HN.out]
  refine (HWd.out W3).mono ?_
  rintro e w4 ⟨rfl, hb4⟩
  have HB4 := Lib.hid hb4
  have K0' := Lib.hid (K0.out.keep hb4)
  clear hb4
  go_wp2_with (refine wpList_load_key rfl _ rfl _ rfl X Y K0'.out ?_)
  refine (HRk.out w4).mono ?_
  rintro e w5 ⟨⟨g, c, rfl, q1, q2, q3, q4⟩, hb5⟩
  have HB5 := Lib.hid (HB4.out.trans (hb5.mono HB4.out.size))
  have HC5 := Lib.hid q4
  have hg5 : Hid (g < w5.heap.size) := Lib.hid (block_lt_of_cell (q4 0 (by omega)))
  clear HB4 hb5 q1 q3 q4 K0 K0' K1
  go_wp2_with fail
  go_loopw [5, 6, 8] (fun x y i wr => ∃ k a b : Nat, k ≤ 32 ∧ i = .int .i64 (k : Int) ∧ x = .int .u64 (a : Int) ∧ y = .int .u64 (b : Int) ∧ Hid (a = (est X Y A B k).1 ∧ b = (est X Y A B k).2) ∧ Hid (Below w5.heap.size w5 wr)) (fun _ _ i _ => 32 - (intOf i).toNat)
  case atStart => exact ⟨0, A, B, by omega, rfl, rfl, rfl, Lib.hid ⟨rfl, rfl⟩, Lib.hid (Below.refl _ _)⟩
  case round =>
    obtain ⟨k, xa, xb, hk, rfl, rfl, rfl, HI, HR⟩ := hrel
    by_cases hlt : k < 32
    · have ha : xa < M := by rw [HI.out.1]; exact (HO.out k (by omega)).1
      have hb : xb < M := by rw [HI.out.2]; exact (HO.out k (by omega)).2
      have hq := HRl.out k (by omega)
      have HC : Hid (∀ w', Below wr.heap.size wr w' → w'.cell? ⟨g, k, none⟩ = some (.int .u64 (rk X Y k : Int))) := Lib.hid (fun w' hB' => (hB'.cell (p := ⟨g, k, none⟩) (Nat.lt_of_lt_of_le hg5.out HR.out.size)).trans ((HR.out.cell (p := ⟨g, k, none⟩) hg5.out).trans (HC5.out k hlt)))
      obtain ⟨q, hqe⟩ : ∃ q, q = rk X Y k := ⟨_, rfl⟩
      rw [← hqe] at hq HC
      have hx1 := add_int (rr8 xa) xb
      have hsM : (rr8 xa + xb) % M < M := Nat.mod_lt _ (by decide)
      obtain ⟨s, hs⟩ : ∃ s, s = (rr8 xa + xb) % M := ⟨_, rfl⟩
      rw [← hs] at hx1 hsM
      have hx2 := xor_int s q hsM hq
      have hpM := xor_lt hsM hq
      obtain ⟨p, hp⟩ : ∃ p, p = s ^^^ q := ⟨_, rfl⟩
      rw [← hp] at hx2 hpM
      have hx3 := xor_int (rl3 xb) p (rl3_lt hb) hpM
      obtain ⟨z, hz⟩ : ∃ z, z = rl3 xb ^^^ p := ⟨_, rfl⟩
      rw [← hz] at hx3
      have HS : Hid (p = (est X Y A B (k + 1)).1 ∧ z = (est X Y A B (k + 1)).2) := Lib.hid (by
        have e0 : est X Y A B k = (xa, xb) := Prod.ext HI.out.1.symm HI.out.2.symm
        rw [est, e0, ← hqe]
        have e1 : p = rdX xa xb q := by rw [hp, hs]; rfl
        refine ⟨e1, ?_⟩
        rw [hz, e1]; rfl)
      have H8 := Lib.hid (fun w => rotr8_any xa w ha)
      have H3 := Lib.hid (fun w => rotl3_any xb w hb)
      obtain ⟨r, hr⟩ : ∃ r, r = rr8 xa := ⟨_, rfl⟩
      obtain ⟨t, ht⟩ : ∃ t, t = rl3 xb := ⟨_, rfl⟩
      rw [← hr] at H8 hx1
      rw [← ht] at H3 hx3
      have h1 := Lib.hid hx1
      have h2 := Lib.hid hx2
      have h3 := Lib.hid hx3
      clear ha hb hq hx1 hx2 hx3 hsM hpM hqe hs hp hz hr ht HI
      have hd : decide ((k : Int) < 32) = true := decide_eq_true (by omega)
      go_wp2_with fail
      clear hd
      refine wp_region_inv (by kernel_rfl) (by kernel_rfl) (fun l a w' => a = { tmps := #[Value.agg (kl X Y).toArray, Value.agg (kl A B).toArray, Value.pointer (some ⟨N, 0, none⟩), Value.pointer (some ⟨N + 1, 0, none⟩), Value.pointer (some ⟨N + 1 + 1, 0, none⟩), bif l 9 then Value.int .u64 (p : Int) else Value.int .u64 (xa : Int), Value.int .u64 (xb : Int), Value.slice (some ⟨g, 0, none⟩) 32 c, Value.int .i64 (k : Int), Value.tuple #[Value.int .u64 (A : Int), Value.int .u64 (B : Int)], Value.agg (kl A B).toArray, Value.tuple #[Value.int .u64 (A : Int), Value.int .u64 (B : Int)], Value.int .u64 (A : Int), Value.int .u64 (B : Int), Value.agg (kl X Y).toArray, Value.slice (some ⟨g, 0, none⟩) 32 c, Value.int .i64 (k : Int), Value.bool true, u18, u19, bif l 0 then Value.int .u64 (xa : Int) else u20, bif l 1 then Value.int .u64 (r : Int) else u21, bif l 2 then Value.int .u64 (xb : Int) else u22, bif l 3 then Value.int .u64 (s : Int) else u23, bif l 4 then Value.slice (some ⟨g, 0, none⟩) 32 c else u24, bif l 5 then Value.int .i64 (k : Int) else u25, bif l 6 then Value.pointer (some ⟨g, k, none⟩) else u26, bif l 7 then Value.int .u64 (q : Int) else u27, bif l 8 then Value.int .u64 (p : Int) else u28, u29, u30, u31, u32, undef, undef, undef], defers := [] } ∧ Below wr.heap.size wr w' ∧ (l 9 = true → l 0 = true)) ⟨rfl, (Below.refl _ _).drew, (fun h => by cases h)⟩ ?_ ?_
      · rintro l a w' i ⟨rfl, hB, ho0⟩ hi hli hpre
        have hi2 : i < 10 := hi
        have hcase : i = 0 ∨ i = 1 ∨ i = 2 ∨ i = 3 ∨ i = 4 ∨ i = 5 ∨ i = 6 ∨ i = 7 ∨ i = 8 ∨ i = 9 := by omega
        clear hi hi2
        rcases hcase with rfl | rfl | rfl | rfl | rfl | rfl | rfl | rfl | rfl | rfl
        · -- 0: Op.move (Operand.tmp 5)
          refine wpOp_step rfl (fun K hK => ?_)
          clear hpre
          have n9 : l 9 = false := by cases h : l 9; rfl; exact absurd (ho0 h) (by rw [hli]; decide)
          simp only [n9, cond_false]
          rw [if_pos (by rfl)]
          go_simp
          exact hK _ _ ⟨by simp [upd, Act.put, n9], hB, (by first | (simp [upd]; done) | simpa [upd] using ho0)⟩
        · -- 1: Op.call { callee := Callee.value (Operand.func 56), args := 
          have p0 : l 0 = true := hpre _ rfl ⟨0, .data⟩ (by simp) rfl
          refine wpOp_step rfl (fun K hK => ?_)
          simp only [p0, cond_true]
          clear hpre
          rw [if_pos (by rfl)]
          go_simp
          refine (H8.out _).mono ?_
          rintro e w5 ⟨rfl, hb5⟩
          exact hK _ _ ⟨by simp [upd, Act.put, p0], hB.trans (hb5.mono hB.size), (by first | (simp [upd, p0]; done) | simpa [upd, p0] using ho0)⟩
        · -- 2: Op.move (Operand.tmp 6)
          refine wpOp_step rfl (fun K hK => ?_)
          clear hpre
          rw [if_pos (by rfl)]
          go_simp
          exact hK _ _ ⟨by simp [upd, Act.put], hB, (by first | (simp [upd]; done) | simpa [upd] using ho0)⟩
        · -- 3: Op.binOp BinOp.add 24 (Operand.tmp 21) (Operand.tmp 22) 24
          have p1 : l 1 = true := hpre _ rfl ⟨1, .data⟩ (by simp) rfl
          have p2 : l 2 = true := hpre _ rfl ⟨2, .data⟩ (by simp) rfl
          refine wpOp_step rfl (fun K hK => ?_)
          simp only [p1, p2, cond_true]
          clear hpre
          rw [if_pos (by rfl)]
          have c3 := h1.out
          go_simp
          exact hK _ _ ⟨by simp [upd, Act.put, p1, p2], hB, (by first | (simp [upd, p1, p2]; done) | simpa [upd, p1, p2] using ho0)⟩
        · -- 4: Op.move (Operand.tmp 7)
          refine wpOp_step rfl (fun K hK => ?_)
          clear hpre
          rw [if_pos (by rfl)]
          go_simp
          exact hK _ _ ⟨by simp [upd, Act.put], hB, (by first | (simp [upd]; done) | simpa [upd] using ho0)⟩
        · -- 5: Op.move (Operand.tmp 8)
          refine wpOp_step rfl (fun K hK => ?_)
          clear hpre
          rw [if_pos (by rfl)]
          go_simp
          exact hK _ _ ⟨by simp [upd, Act.put], hB, (by first | (simp [upd]; done) | simpa [upd] using ho0)⟩
        · -- 6: Op.indexAddr 159 (Operand.tmp 24) (Operand.tmp 25)
          have p4 : l 4 = true := hpre _ rfl ⟨4, .data⟩ (by simp) rfl
          have p5 : l 5 = true := hpre _ rfl ⟨5, .data⟩ (by simp) rfl
          refine wpOp_step rfl (fun K hK => ?_)
          simp only [p4, p5, cond_true]
          clear hpre
          rw [if_pos (by rfl)]
          have l1 : (0 : Int) ≤ (k : Int) := by omega
          have l2 : (k : Int) < 32 := by omega
          go_simp
          exact hK _ _ ⟨by simp [upd, Act.put, p4, p5], hB, (by first | (simp [upd, p4, p5]; done) | simpa [upd, p4, p5] using ho0)⟩
        · -- 7: Op.load 24 (Operand.tmp 71)
          have p6 : l 6 = true := hpre _ rfl ⟨6, .data⟩ (by simp) rfl
          refine wpOp_step rfl (fun K hK => ?_)
          simp only [p6, cond_true]
          clear hpre
          rw [if_pos (by rfl)]
          have c7 := HC.out _ hB
          go_simp
          exact hK _ _ ⟨by simp [upd, Act.put, p6], hB, (by first | (simp [upd, p6]; done) | simpa [upd, p6] using ho0)⟩
        · -- 8: Op.binOp BinOp.xor 24 (Operand.tmp 23) (Operand.tmp 27) 24
          have p3 : l 3 = true := hpre _ rfl ⟨3, .data⟩ (by simp) rfl
          have p7 : l 7 = true := hpre _ rfl ⟨7, .data⟩ (by simp) rfl
          refine wpOp_step rfl (fun K hK => ?_)
          simp only [p3, p7, cond_true]
          clear hpre
          rw [if_pos (by rfl)]
          have c8 := h2.out
          go_simp
          exact hK _ _ ⟨by simp [upd, Act.put, p3, p7], hB, (by first | (simp [upd, p3, p7]; done) | simpa [upd, p3, p7] using ho0)⟩
        · -- 9: Op.assign (Operand.tmp 28)
          have p8 : l 8 = true := hpre _ rfl ⟨8, .data⟩ (by simp) rfl
          have p1 : l 1 = true := hpre _ rfl ⟨1, .chain⟩ (by simp) rfl
          have p0 : l 0 = true := hpre _ rfl ⟨0, .phase⟩ (by simp) rfl
          have p2 : l 2 = true := hpre _ rfl ⟨2, .phase⟩ (by simp) rfl
          have p3 : l 3 = true := hpre _ rfl ⟨3, .phase⟩ (by simp) rfl
          have p4 : l 4 = true := hpre _ rfl ⟨4, .phase⟩ (by simp) rfl
          have p5 : l 5 = true := hpre _ rfl ⟨5, .phase⟩ (by simp) rfl
          have p6 : l 6 = true := hpre _ rfl ⟨6, .phase⟩ (by simp) rfl
          have p7 : l 7 = true := hpre _ rfl ⟨7, .phase⟩ (by simp) rfl
          refine wpOp_step rfl (fun K hK => ?_)
          simp only [p8, p1, p0, p2, p3, p4, p5, p6, p7, cond_true]
          clear hpre
          rw [if_pos (by rfl)]
          go_simp
          exact hK _ _ ⟨by simp [upd, Act.put, p8, p1, p0, p2, p3, p4, p5, p6, p7], hB, (by first | (simp [upd, p8, p1, p0, p2, p3, p4, p5, p6, p7]; done) | simpa [upd, p8, p1, p0, p2, p3, p4, p5, p6, p7] using ho0)⟩
      · rintro l a wr' hall ⟨rfl, hBz, _⟩
        simp only [hall 0 (by decide), hall 1 (by decide), hall 2 (by decide), hall 3 (by decide), hall 4 (by decide), hall 5 (by decide), hall 6 (by decide), hall 7 (by decide), hall 8 (by decide), hall 9 (by decide), cond_true]
        clear hall
        go_wp2_with fail
        refine (H3.out _).mono ?_
        rintro e w8 ⟨rfl, hb8⟩
        have HR8 : Hid (Below w5.heap.size w5 w8) := Lib.hid ((HR.out.trans (hBz.mono HR.out.size)).trans (hb8.mono (Nat.le_trans HR.out.size hBz.size)))
        have c9 := h3.out
        clear hBz hb8
        go_wp2
        go_roundw
        case rel => exact ⟨k + 1, p, z, by omega, by go_num, rfl, rfl, HS, HR8⟩
        case measure => simp [intOf]; omega
    · obtain rfl : k = 32 := by omega
      have ha : xa < M := by rw [HI.out.1]; exact (HO.out 32 (by omega)).1
      have hb : xb < M := by rw [HI.out.2]; exact (HO.out 32 (by omega)).2
      have HBk := Lib.hid (fun w => refBlock_any xa xb w ha hb)
      clear ha hb
      go_wp2_with fail
      refine (HBk.out _).mono ?_
      rintro e w8 ⟨rfl, hb8⟩
      have HB8 : Hid (Below W3.heap.size W3 w8) := Lib.hid ((HB5.out.trans (HR.out.mono HB5.out.size)).trans (hb8.mono (Nat.le_trans HB5.out.size HR.out.size)))
      have HT8 : Hid (w8.there (N + 1 + 1) 0 16) := Lib.hid (there_below HT.out HB8.out (by rw [HS3.out]; omega))
      clear hb8
      go_wp2_with (refine wpList_store_key rfl _ _ rfl (N + 1 + 1) _ _ rfl rfl HT8.out ?_)
      exact ends_key rfl (N + 1 + 1) _ _ HT8.out rfl rfl ⟨by rw [HI.out.1, HI.out.2]; rfl, below_setCells _ _ _ _ (HB3.out.trans (HB8.out.mono (by rw [HS3.out]; omega))) (by omega)⟩
end Go.Proofs.Ytelalpikdidpeaa.L2

/-
  The specification's decryption.
-/
namespace Go.Proofs.Ytelalpikdidpeaa.L2
open Go.RowKit SP
set_option linter.unusedVariables false
set_option linter.unusedSimpArgs false

theorem dst_step (X Y A B j : Nat) (h : j < 32) : dst X Y A B (32 - j) = un (dst X Y A B (31 - j)) (rk X Y j) := by
  rw [show 32 - j = (31 - j) + 1 by omega, dst, show 31 - (31 - j) = j by omega]

set_option maxRecDepth 100000 in
set_option maxHeartbeats 2000000 in
theorem refDecrypt_any (X Y A B : Nat) (w : World) (hX : X < M) (hY : Y < M) (hA : A < M) (hB : B < M) :
    Calls Try.prog 63 #[.agg (kl X Y).toArray, .agg (kl A B).toArray] w fun e w' => e = .returned (.agg (kl (dec X Y A B).1 (dec X Y A B).2).toArray) ∧ Below w.heap.size w w' := by
  obtain ⟨N, hN⟩ : ∃ N, N = w.heap.size := ⟨_, rfl⟩
  obtain ⟨W3, hW3⟩ : ∃ W3, W3 = ((w.alloc (.cells (kl X Y).toArray 23)).alloc (.cells (kl A B).toArray 23)).alloc (.cells z16 23) := ⟨_, rfl⟩
  have HB3 : Hid (Below N w W3) := Lib.hid (by rw [hW3, hN]; exact (((Below.refl _ _).alloc (Nat.le_refl _) _).alloc (by simp) _).alloc (by simp; omega) _)
  have HS3 : Hid (W3.heap.size = N + 3) := Lib.hid (by rw [hW3, hN]; simp)
  have K0 : Hid (KeyAt W3 N X Y) := Lib.hid (by rw [hW3, hN]; exact ((KeyAt.new w X Y 23).alloc _).alloc _)
  have K1 : Hid (KeyAt W3 (N + 1) A B) := Lib.hid (by
    have h := (KeyAt.new (w.alloc (.cells (kl X Y).toArray 23)) A B 23).alloc (.cells z16 23)
    rw [World.size_alloc] at h
    rw [hW3, hN]; exact h)
  have HT : Hid (W3.there (N + 1 + 1) 0 16) := Lib.hid (by
    have h := (Row.zeros ((w.alloc (.cells (kl X Y).toArray 23)).alloc (.cells (kl A B).toArray 23)) 23).there
    rw [World.size_alloc, World.size_alloc] at h
    rw [hW3, hN]; exact h)
  have HWd := Lib.hid (fun w => words_any A B w hA hB)
  have HRk := Lib.hid (fun w => refKeys_any X Y w hX hY)
  have HO := Lib.hid (fun k => dst_ok (X := X) (Y := Y) hA hB k)
  have HRl := Lib.hid (fun i hi => rk_lt hX hY i hi)
  have HW := Lib.hid hW3
  have HN := Lib.hid hN
  rw [← hN]
  clear hW3 hN hX hY hA hB
  go_enter Try.func63, Try.ntmps63
  go_wp2_with (refine wpList_load_key rfl _ rfl _ rfl A B (by rw [← HW.out, ← HN.out]; exact K1.out) ?_)
  rw [← HW.out, ← HN.out]
  refine (HWd.out W3).mono ?_
  rintro e w4 ⟨rfl, hb4⟩
  have HB4 := Lib.hid hb4
  have K0' := Lib.hid (K0.out.keep hb4)
  clear hb4
  go_wp2_with (refine wpList_load_key rfl _ rfl _ rfl X Y K0'.out ?_)
  refine (HRk.out w4).mono ?_
  rintro e w5 ⟨⟨g, c, rfl, q1, q2, q3, q4⟩, hb5⟩
  have HB5 := Lib.hid (HB4.out.trans (hb5.mono HB4.out.size))
  have HC5 := Lib.hid q4
  have hg5 : Hid (g < w5.heap.size) := Lib.hid (block_lt_of_cell (q4 0 (by omega)))
  clear HB4 hb5 q1 q3 q4 K0 K0' K1
  go_wp2_with fail
  go_loopw [5, 6, 8] (fun x y i wr => ∃ k xa xb : Nat, k ≤ 32 ∧ i = .int .i64 ((k : Int) - 1) ∧ x = .int .u64 (xa : Int) ∧ y = .int .u64 (xb : Int) ∧ Hid (xa = (dst X Y A B (32 - k)).1 ∧ xb = (dst X Y A B (32 - k)).2) ∧ Hid (Below w5.heap.size w5 wr)) (fun _ _ i _ => (intOf i + 1).toNat)
  case atStart => exact ⟨32, A, B, by omega, by go_num, rfl, rfl, Lib.hid ⟨rfl, rfl⟩, Lib.hid (Below.refl _ _)⟩
  case round =>
    obtain ⟨k, xa, xb, hk, rfl, rfl, rfl, HI, HR⟩ := hrel
    have ha : xa < M := by rw [HI.out.1]; exact (HO.out _).1
    have hb : xb < M := by rw [HI.out.2]; exact (HO.out _).2
    rcases Nat.eq_zero_or_pos k with rfl | hpos
    · have HBk := Lib.hid (fun w => refBlock_any xa xb w ha hb)
      clear ha hb
      go_wp2_with fail
      refine (HBk.out _).mono ?_
      rintro e w8 ⟨rfl, hb8⟩
      have HB8 : Hid (Below W3.heap.size W3 w8) := Lib.hid ((HB5.out.trans (HR.out.mono HB5.out.size)).trans (hb8.mono (Nat.le_trans HB5.out.size HR.out.size)))
      have HT8 : Hid (w8.there (N + 1 + 1) 0 16) := Lib.hid (there_below HT.out HB8.out (by rw [HS3.out]; omega))
      clear hb8
      go_wp2_with (refine wpList_store_key rfl _ _ rfl (N + 1 + 1) _ _ rfl rfl HT8.out ?_)
      exact ends_key rfl (N + 1 + 1) _ _ HT8.out rfl rfl ⟨by rw [HI.out.1, HI.out.2]; rfl, below_setCells _ _ _ _ (HB3.out.trans (HB8.out.mono (by rw [HS3.out]; omega))) (by omega)⟩
    · obtain ⟨j, rfl⟩ : ∃ j, k = j + 1 := ⟨k - 1, by omega⟩
      have hj : j < 32 := by omega
      have e1 : (((j + 1 : Nat) : Int) - 1) = (j : Int) := by omega
      rw [e1]
      have hq := HRl.out j (by omega)
      have HC : Hid (∀ w', Below wr.heap.size wr w' → w'.cell? ⟨g, j, none⟩ = some (.int .u64 (rk X Y j : Int))) := Lib.hid (fun w' hB' => (hB'.cell (p := ⟨g, j, none⟩) (Nat.lt_of_lt_of_le hg5.out HR.out.size)).trans ((HR.out.cell (p := ⟨g, j, none⟩) hg5.out).trans (HC5.out j hj)))
      obtain ⟨q, hqe⟩ : ∃ q, q = rk X Y j := ⟨_, rfl⟩
      rw [← hqe] at hq HC
      have hx1 := xor_int xb xa hb ha
      have h3M := xor_lt hb ha
      obtain ⟨s, hs⟩ : ∃ s, s = xb ^^^ xa := ⟨_, rfl⟩
      rw [← hs] at hx1 h3M
      have H3 := Lib.hid (fun w => rotr3_any s w h3M)
      have htM := rr3_lt h3M
      obtain ⟨t, ht⟩ : ∃ t, t = rr3 s := ⟨_, rfl⟩
      rw [← ht] at H3 htM
      have hx2 := xor_int xa q ha hq
      obtain ⟨p, hp⟩ : ∃ p, p = xa ^^^ q := ⟨_, rfl⟩
      rw [← hp] at hx2
      have hx3 := sub_int p t htM
      have hzM : (p + M - t) % M < M := Nat.mod_lt _ (by decide)
      obtain ⟨z, hz⟩ : ∃ z, z = (p + M - t) % M := ⟨_, rfl⟩
      rw [← hz] at hx3 hzM
      have H8 := Lib.hid (fun w => rotl8_any z w hzM)
      obtain ⟨r, hr⟩ : ∃ r, r = rl8 z := ⟨_, rfl⟩
      rw [← hr] at H8
      have HS : Hid (r = (dst X Y A B (32 - j)).1 ∧ t = (dst X Y A B (32 - j)).2) := Lib.hid (by
        have e0 : dst X Y A B (31 - j) = (xa, xb) := by rw [show 31 - j = 32 - (j + 1) by omega]; exact Prod.ext HI.out.1.symm HI.out.2.symm
        rw [dst_step X Y A B j hj, e0, ← hqe]
        have e2 : t = unY xa xb := by rw [ht, hs]; rfl
        refine ⟨?_, e2⟩
        rw [hr, hz, hp, e2]; rfl)
      have h1 := Lib.hid hx1
      have h2 := Lib.hid hx2
      have h3 := Lib.hid hx3
      have c1 := hx1
      have l1 : (0 : Int) ≤ (j : Int) := by omega
      have l2 : (j : Int) < 32 := by omega
      clear ha hb hq hx1 hx2 hx3 h3M htM hzM hqe hs hp hz hr ht HI e1
      go_wp2_with fail
      refine (H3.out _).mono ?_
      rintro e w7 ⟨rfl, hb7⟩
      have c2 := HC.out w7 hb7
      have c3 := h2.out
      have c4 := h3.out
      have HR7 := Lib.hid (HR.out.trans (hb7.mono HR.out.size))
      clear hb7
      go_wp2_with fail
      refine (H8.out _).mono ?_
      rintro e w8 ⟨rfl, hb8⟩
      have HR8 : Hid (Below w5.heap.size w5 w8) := Lib.hid (HR7.out.trans (hb8.mono HR7.out.size))
      clear hb8
      go_wp2
      go_roundw
      case rel => exact ⟨j, r, t, by omega, by go_num, rfl, rfl, HS, HR8⟩
      case measure => simp [intOf]
end Go.Proofs.Ytelalpikdidpeaa.L2

/-
  The specification's Block, Derive and Number.
-/
namespace Go.Proofs.Ytelalpikdidpeaa.L2
open Go.RowKit SP
set_option linter.unusedVariables false
set_option linter.unusedSimpArgs false

theorem lowb_tag (t c : Nat) (ht : t < 256) (hc : c < 72057594037927936) : lowb (t * 72057594037927936 + c) 8 = t :: lowb c 7 := by
  simp only [lowb, Nat.reducePow, List.cons.injEq]
  refine ⟨by omega, by omega, by omega, by omega, by omega, by omega, by omega, by omega, trivial⟩
theorem bl_tag (t c n : Nat) (ht : t < 256) (hc : c < 72057594037927936) : [.int .u8 (t : Int)] ++ bl (lowb c 7) ++ bl (lowb n 8) = kl (t * 72057594037927936 + c) n := by
  rw [← bl_kl, lowb_tag t c ht hc]; rfl

set_option maxRecDepth 100000 in
set_option maxHeartbeats 1000000 in
theorem refBlk_any (t c n : Nat) (w : World) (ht : t < 256) (hc : c < 72057594037927936) (hn : n < M) :
    Calls Try.prog 105 #[.int .u8 (t : Int), .int .u64 (c : Int), .int .u64 (n : Int)] w fun e w' => e = .returned (.agg (kl (t * 72057594037927936 + c) n).toArray) ∧ Below w.heap.size w w' := by
  have hbt := bl_tag t c n ht hc
  have hxM : t * 72057594037927936 + c < M := by unfold M; omega
  obtain ⟨x, hx⟩ : ∃ x, x = t * 72057594037927936 + c := ⟨_, rfl⟩
  rw [← hx] at hbt hxM ⊢
  obtain ⟨i0, hi, hz0, hz1, hz2⟩ := info_parts info5
  obtain ⟨N, hN⟩ : ∃ N, N = w.heap.size := ⟨_, rfl⟩
  obtain ⟨W1, hW1⟩ : ∃ W1, W1 = (w.alloc (.cells z16 23)).alloc (.cells #[.int .u8 (t : Int)] 5) := ⟨_, rfl⟩
  have HB1 : Hid (Below N w W1) := Lib.hid (by rw [hW1, hN]; exact ((Below.refl _ _).alloc (Nat.le_refl _) _).alloc (by simp) _)
  have HS1 : Hid (W1.heap.size = N + 2) := Lib.hid (by rw [hW1, hN]; simp)
  have HT : Hid (W1.there N 0 16) := Lib.hid (by rw [hW1, hN]; exact ((Row.zeros w 23).keep ((Below.refl _ _).alloc (Nat.le_refl _) _)).there)
  have HO0 : Hid (W1.ownsRow (N + 1) 5 1 (.slice (some ⟨N + 1, 0, none⟩) 1 1) 1 [.int .u8 (t : Int)]) := Lib.hid (by
    have h := own_new (w.alloc (.cells z16 23)) 5 (.int .u8 (t : Int)) (N + 1) (by simp [hN])
    rw [World.size_alloc, ← hN] at h
    rw [hW1]; exact h)
  have H1 := Lib.hid (fun w => refBytes_any c 7 w (by unfold M; omega) (by omega))
  have H2 := Lib.hid (fun w => refBytes_any n 8 w hn (by omega))
  have HF := Lib.hid (flz_key x n hxM hn)
  have HBT := Lib.hid hbt
  have HW := Lib.hid hW1
  have HN := Lib.hid hN
  rw [← hN]
  clear hW1 hN hn hx hxM hbt hc ht
  go_enter Try.func105, Try.ntmps105
  go_wp2_with fail
  rw [← HW.out, ← HN.out]
  refine (H1.out W1).mono ?_
  rintro e w3 ⟨v2, rfl, ho2, hb3⟩
  have ho1 := own_below HO0.out (hb3.mono (Nat.le_refl _))
  have HB3 := Lib.hid hb3
  obtain ⟨g2, c2, hv2, q1, q2, q3, q4⟩ := own_slice ho2 (by omega)
  subst hv2
  have hnw : ∀ j u, (bl (lowb c 7))[j]? = some u → w3.cell? ((⟨g2, 0, none⟩ : Addr).add j) = some u := by
    intro j u hu
    rw [Addr.add_lit, Nat.zero_add]
    exact q4 j u hu
  have hlen : (bl (lowb c 7)).length = 7 * 1 := by simp [bl, lowb_len]
  have HB3s : N + 1 ≤ w3.heap.size := Nat.le_trans (by rw [HS1.out]; omega) HB3.out.size
  clear ho2 hb3 q4 HO0
  go_wp2_with (first
    | (at_builtin; refine wpList_append_own _ rfl _ _ 71 rfl (N + 1) 5 i0 _ 1 1 Try.underlying71 hi hz0 hz1 hz2 rfl (by omega) _ 1 [.int .u8 (t : Int)] rfl ho1 ⟨g2, 0, none⟩ 7 c2 (bl (lowb c 7)) rfl hlen hnw (bl_one _) (by unfold maxLen; omega) (by omega) HB3s ?_; intro v5 w6 hown6 hg6 _))
  have HB6 := Lib.hid ((HB3.out.mono (show N + 1 ≤ W1.heap.size by rw [HS1.out]; omega)).grown hg6 HB3s (fun b hb => own_block ho1 hb.symm))
  have HO6 := Lib.hid hown6
  clear hown6 hg6 ho1 hnw hlen HB3s HB3
  refine (H2.out w6).mono ?_
  rintro e w7 ⟨v7, rfl, ho7, hb7⟩
  have hl6 : N + 1 ≤ w6.heap.size := Nat.le_trans (by rw [HS1.out]; omega) HB6.out.size
  have hl7 : N + 1 ≤ w7.heap.size := Nat.le_trans hl6 hb7.size
  have ho1 := own_below HO6.out hb7
  have HB7 := Lib.hid (HB6.out.trans (hb7.mono hl6))
  obtain ⟨g3, c3, hv3, s1, s2, s3, s4⟩ := own_slice ho7 (by omega)
  subst hv3
  have hnw : ∀ j u, (bl (lowb n 8))[j]? = some u → w7.cell? ((⟨g3, 0, none⟩ : Addr).add j) = some u := by
    intro j u hu
    rw [Addr.add_lit, Nat.zero_add]
    exact s4 j u hu
  have hlen : (bl (lowb n 8)).length = 8 * 1 := by simp [bl, lowb_len]
  clear ho7 hb7 s4 HO6 HB6 hl6
  go_wp2_with (first
    | (at_builtin; refine wpList_append_own _ rfl _ _ 71 rfl (N + 1) 5 i0 _ 1 1 Try.underlying71 hi hz0 hz1 hz2 rfl (by omega) _ 8 _ rfl ho1 ⟨g3, 0, none⟩ 8 c3 (bl (lowb n 8)) rfl hlen hnw (bl_one _) (by unfold maxLen; omega) (by omega) hl7 ?_; intro v8 w8 hown8 hg8 _))
  rw [HBT.out] at hown8
  obtain ⟨g, c, hv8, r1, r2, r3, r4⟩ := own_slice hown8 (by omega)
  subst hv8
  have HB8 := Lib.hid (HB7.out.grown hg8 hl7 (fun b hb => own_block ho1 hb.symm))
  have h72 := refKey_any g 0 16 c (kby x n) w8 (kby_lt x n) (fun i _ hi => by rw [Nat.zero_add]; exact r4 i _ (kl_get x n i hi))
  rw [HF.out.1, HF.out.2] at h72
  refine h72.mono ?_
  rintro e w9 ⟨rfl, hb9⟩
  have HB9 := Lib.hid (HB8.out.trans (hb9.mono (Nat.le_trans (by rw [HS1.out]; omega) HB8.out.size)))
  have HT9 : Hid (w9.there N 0 16) := Lib.hid (there_below HT.out HB9.out (by omega))
  clear h72 HB8 r4 hown8 ho1 hg8 hnw HT hb9
  go_wp2_with (refine wpList_store_key rfl _ _ rfl N _ _ rfl rfl HT9.out ?_)
  exact ends_key rfl N _ _ HT9.out rfl rfl ⟨rfl, below_setCells _ _ _ _ (HB1.out.trans (HB9.out.mono (by omega))) (by omega)⟩
end Go.Proofs.Ytelalpikdidpeaa.L2

/-
  The specification's Derive and Number.
-/
namespace Go.Proofs.Ytelalpikdidpeaa.L2
open Go.RowKit SP
set_option linter.unusedVariables false
set_option linter.unusedSimpArgs false

set_option maxRecDepth 100000 in
set_option maxHeartbeats 1000000 in
theorem refDerive_any (X Y t n : Nat) (w : World) (hX : X < M) (hY : Y < M) (ht : t < 256) (hn : n < M) :
    Calls Try.prog 58 #[.agg (kl X Y).toArray, .int .u8 (t : Int), .int .u64 (n : Int)] w fun e w' => e = .returned (.agg (kl (drv X Y t n).1 (drv X Y t n).2).toArray) ∧ Below w.heap.size w w' := by
  obtain ⟨W2, hW2⟩ : ∃ W2, W2 = (w.alloc (.cells (kl X Y).toArray 23)).alloc (.cells z16 23) := ⟨_, rfl⟩
  have HB : Hid (Below w.heap.size w W2) := Lib.hid (by rw [hW2]; exact ((Below.refl _ _).alloc (Nat.le_refl _) _).alloc (by simp) _)
  have HT : Hid (W2.there (w.heap.size + 1) 0 16) := Lib.hid (by
    have h := (Row.zeros (w.alloc (.cells (kl X Y).toArray 23)) 23).there
    rw [World.size_alloc] at h
    rw [hW2]; exact h)
  have HK : Hid (KeyAt W2 w.heap.size X Y) := Lib.hid (by rw [hW2]; exact (KeyAt.new w X Y 23).alloc _)
  have HW := Lib.hid hW2
  have HG := Lib.hid (fun w => refBlk_any t 0 n w ht (by omega) hn)
  rw [Nat.add_zero] at HG
  have HE := Lib.hid (fun w => refEncrypt_any X Y (t * 72057594037927936) n w hX hY (by unfold M; omega) hn)
  obtain ⟨P, hP⟩ : ∃ P, P = (drv X Y t n).1 := ⟨_, rfl⟩
  obtain ⟨Q, hQ⟩ : ∃ Q, Q = (drv X Y t n).2 := ⟨_, rfl⟩
  have eP : (enc X Y (t * 72057594037927936) n).1 = P := hP.symm
  have eQ : (enc X Y (t * 72057594037927936) n).2 = Q := hQ.symm
  rw [eP, eQ] at HE
  rw [← hP, ← hQ]
  clear eP eQ hP hQ
  have hsz : (kl P Q).toArray.size = 16 := by simp [kl_len]
  have HS := Lib.hid (fun (w' : World) (h : Below W2.heap.size W2 w') => (⟨HK.out.below h HK.out.lt, by rw [hsz]; exact there_below HT.out h (there_lt HT.out (by omega)), HB.out.trans (h.mono HB.out.size)⟩ : w'.rangeAt w.heap.size 0 (kl X Y) ∧ w'.there (w.heap.size + 1) 0 (kl P Q).toArray.size ∧ Below w.heap.size w w'))
  have HS2 := Lib.hid (fun (w' : World) (h : w'.rangeAt w.heap.size 0 (kl X Y) ∧ w'.there (w.heap.size + 1) 0 (kl P Q).toArray.size ∧ Below w.heap.size w w') =>
    (⟨KeyAt.setCells h.1 _ _ (by omega), World.there_setCells h.2.1 _ _ _, below_setCells _ _ _ _ h.2.2 (by omega)⟩ : (w'.setCells (w.heap.size + 1) 0 (kl P Q)).rangeAt w.heap.size 0 (kl X Y) ∧ (w'.setCells (w.heap.size + 1) 0 (kl P Q)).there (w.heap.size + 1) 0 (kl P Q).toArray.size ∧ Below w.heap.size w (w'.setCells (w.heap.size + 1) 0 (kl P Q))))
  have HS3 := Lib.hid (fun (w' : World) (h : w'.there (w.heap.size + 1) 0 (kl P Q).toArray.size) => (by rw [hsz] at h; exact h : w'.there (w.heap.size + 1) 0 16))
  have hx0 : Below W2.heap.size W2 W2.drew := (Below.refl _ _).drew
  have hlen0 : W2.heap.size ≤ W2.drew.heap.size := hx0.size
  clear hW2 hsz
  go_enter Try.func58, Try.ntmps58
  go_wp2_with fail
  rw [← HW.out]
  have hi : (Try.prog.info? 23).map (·.size) = some (kl X Y).length := by rw [kl_len]; exact size23
  have hu := Try.underlying23
  have hi2 : (Try.prog.info? 23).map (·.size) = some (kl P Q).toArray.size := by simp [kl_len, size23]
  have ho2 := kl_one P Q
  go_region_held3 (fun w' => w'.rangeAt w.heap.size 0 (kl X Y) ∧ w'.there (w.heap.size + 1) 0 (kl P Q).toArray.size ∧ Below w.heap.size w w')
    (first | with_reducible exact HS2.out _ (by assumption) | with_reducible exact HS.out _ hx0 | with_reducible exact HS.out _ hx1 | with_reducible exact HS.out _ hx2)
    (first
      | (go_at_call 105; refine (HG.out _).mono ?_; rintro e w5 ⟨rfl, hx5'⟩; have hx1 := hx0.trans (hx5'.mono hlen0))
      | (go_at_call 59; refine (HE.out _).mono ?_; rintro e w6 ⟨rfl, hx6'⟩; have hx2 := hx1.trans (hx6'.mono hx1.size)))
  have HF := HS3.out _ (HS.out _ hx2).2.1
  go_wp2
  exact ends_key rfl (w.heap.size + 1) P Q HF rfl rfl ⟨rfl, below_setCells _ _ _ _ (HB.out.trans (hx2.mono HB.out.size)) (by omega)⟩
end Go.Proofs.Ytelalpikdidpeaa.L2
