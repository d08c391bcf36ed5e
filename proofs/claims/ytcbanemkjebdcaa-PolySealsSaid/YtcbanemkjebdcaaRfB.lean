/-
  The specification's words, round keys and bytes.
-/
import Derived.Test.YtcbanemkjebdcaaRfA
import Derived.Laws.AppendOwn
namespace Go.Proofs.Ytcbanemkjebdcaa
open Go.RowKit SP
set_option linter.unusedVariables false
set_option linter.unusedSimpArgs false

theorem wd_congr (f g : Nat → Nat) : ∀ k, (∀ i, i < k → f i = g i) → wd f k = wd g k
  | 0, _ => rfl
  | k + 1, h => by rw [wd, wd, wd_congr f g k (fun i hi => h i (by omega)), h k (by omega)]
theorem kw_kby (X Y : Nat) (hX : X < M) (hY : Y < M) : kwX (kby X Y) = X ∧ kwY (kby X Y) = Y :=
  kby_ext (kw_lt _ (kby_lt X Y)).1 (kw_lt _ (kby_lt X Y)).2 hX hY (fun i hi => kw_byte _ (kby_lt X Y) i hi)

set_option maxRecDepth 100000 in
set_option maxHeartbeats 1000000 in
theorem words_any (X Y : Nat) (w : World) (hX : X < M) (hY : Y < M) :
    Calls Try.prog 118 #[.agg (kl X Y).toArray] w fun e w' => e = .returned (.tuple #[.int .u64 (X : Int), .int .u64 (Y : Int)]) ∧ Below w.heap.size w w' := by
  obtain ⟨W1, hW1⟩ : ∃ W1, W1 = w.alloc (.cells (kl X Y).toArray 23) := ⟨_, rfl⟩
  have HB1 : Hid (Below w.heap.size w W1) := Lib.hid (by rw [hW1]; exact (Below.refl _ _).alloc (Nat.le_refl _) _)
  have HK : Hid (KeyAt W1 w.heap.size X Y) := Lib.hid (by rw [hW1]; exact KeyAt.new w X Y 23)
  have hk := kw_kby X Y hX hY
  have H1 := Lib.hid (fun (w' : World) (hB : Below W1.heap.size W1 w') => refValue_any w.heap.size 0 8 16 (kby X Y) w' (kby_lt X Y) (Nat.le_refl _) (fun i hi => by rw [Nat.zero_add]; exact (HK.out.keep hB).cell i (by omega)))
  have H2 := Lib.hid (fun (w' : World) (hB : Below W1.heap.size W1 w') => refValue_any w.heap.size 8 8 8 (fun i => kby X Y (8 + i)) w' (fun i => kby_lt X Y _) (Nat.le_refl _) (fun i hi => (HK.out.keep hB).cell (8 + i) (by omega)))
  have e1 : wd (kby X Y) 8 = X := hk.1
  have e2 : wd (fun i => kby X Y (8 + i)) 8 = Y := hk.2
  rw [e1] at H1
  rw [e2] at H2
  have HW := Lib.hid hW1
  clear hW1 hX hY hk e1 e2
  go_enter Try.func118, Try.ntmps118
  go_wp2_with fail
  rw [← HW.out]
  refine wp_region_inv (by kernel_rfl) (by kernel_rfl) (fun l a w' => a = { tmps := #[Value.agg (kl X Y).toArray, .pointer (some ⟨w.heap.size, 0, none⟩), bif l 4 then Value.int .u64 (X : Int) else .int .u64 0, bif l 5 then Value.int .u64 (Y : Int) else .int .u64 0, bif l 0 then Value.slice (some ⟨w.heap.size, 0, none⟩) 8 16 else undef, bif l 1 then Value.int .u64 (X : Int) else undef, bif l 2 then Value.slice (some ⟨w.heap.size, 8, none⟩) 8 8 else undef, bif l 3 then Value.int .u64 (Y : Int) else undef], defers := [] } ∧ Below W1.heap.size W1 w') ⟨rfl, (Below.refl _ _).drew⟩ ?_ ?_
  · rintro l a w' i ⟨rfl, hB⟩ hi hli hpre
    have hi2 : i < 6 := hi
    have hcase : i = 0 ∨ i = 1 ∨ i = 2 ∨ i = 3 ∨ i = 4 ∨ i = 5 := by omega
    clear hi hi2
    rcases hcase with rfl | rfl | rfl | rfl | rfl | rfl
    · -- 0: Op.slice 23 (Operand.tmp 1) none (some (Operand.const (Value
      refine wpOp_step rfl (fun K hK => ?_)
      clear hpre
      rw [if_pos (by rfl)]
      go_simp
      exact hK _ _ ⟨by simp [upd, Act.put], hB⟩
    · -- 1: Op.call { callee := Callee.value (Operand.func 61), args := 
      have p0 : l 0 = true := hpre _ rfl ⟨0, .data⟩ (by simp) rfl
      refine wpOp_step rfl (fun K hK => ?_)
      simp only [p0, cond_true]
      clear hpre
      rw [if_pos (by rfl)]
      go_simp
      refine (H1.out _ hB).mono ?_
      rintro e w5 ⟨rfl, hb5⟩
      exact hK _ _ ⟨by simp [upd, Act.put, p0], hB.trans (hb5.mono hB.size)⟩
    · -- 2: Op.slice 23 (Operand.tmp 1) (some (Operand.const (Value.int 
      refine wpOp_step rfl (fun K hK => ?_)
      clear hpre
      rw [if_pos (by rfl)]
      go_simp
      exact hK _ _ ⟨by simp [upd, Act.put], hB⟩
    · -- 3: Op.call { callee := Callee.value (Operand.func 61), args := 
      have p2 : l 2 = true := hpre _ rfl ⟨2, .data⟩ (by simp) rfl
      have p1 : l 1 = true := hpre _ rfl ⟨1, .chain⟩ (by simp) rfl
      refine wpOp_step rfl (fun K hK => ?_)
      simp only [p2, p1, cond_true]
      clear hpre
      rw [if_pos (by rfl)]
      go_simp
      refine (H2.out _ hB).mono ?_
      rintro e w5 ⟨rfl, hb5⟩
      exact hK _ _ ⟨by simp [upd, Act.put, p2, p1], hB.trans (hb5.mono hB.size)⟩
    · -- 4: Op.assign (Operand.tmp 5)
      have p1 : l 1 = true := hpre _ rfl ⟨1, .data⟩ (by simp) rfl
      have p3 : l 3 = true := hpre _ rfl ⟨3, .chain⟩ (by simp) rfl
      have p0 : l 0 = true := hpre _ rfl ⟨0, .phase⟩ (by simp) rfl
      refine wpOp_step rfl (fun K hK => ?_)
      simp only [p1, p3, p0, cond_true]
      clear hpre
      rw [if_pos (by rfl)]
      go_simp
      exact hK _ _ ⟨by simp [upd, Act.put, p1, p3, p0], hB⟩
    · -- 5: Op.assign (Operand.tmp 7)
      have p3 : l 3 = true := hpre _ rfl ⟨3, .data⟩ (by simp) rfl
      have p4 : l 4 = true := hpre _ rfl ⟨4, .chain⟩ (by simp) rfl
      have p0 : l 0 = true := hpre _ rfl ⟨0, .phase⟩ (by simp) rfl
      have p1 : l 1 = true := hpre _ rfl ⟨1, .phase⟩ (by simp) rfl
      have p2 : l 2 = true := hpre _ rfl ⟨2, .phase⟩ (by simp) rfl
      refine wpOp_step rfl (fun K hK => ?_)
      simp only [p3, p4, p0, p1, p2, cond_true]
      clear hpre
      rw [if_pos (by rfl)]
      go_simp
      exact hK _ _ ⟨by simp [upd, Act.put, p3, p4, p0, p1, p2], hB⟩
  · rintro l a W1' hall ⟨rfl, hBz⟩
    simp only [hall 0 (by decide), hall 1 (by decide), hall 2 (by decide), hall 3 (by decide), hall 4 (by decide), hall 5 (by decide), cond_true]
    clear hall
    go_wp2_with fail
    go_ret2
    exact ⟨rfl, HB1.out.trans (hBz.mono HB1.out.size)⟩

end Go.Proofs.Ytcbanemkjebdcaa
