/-
  Equality of blocks; contracts of tagged, Derive, Number.
-/
import Derived.Test.YtcbanemkjebdcaaKeyF
import Derived.ChangeKeysEq
import Derived.Deep.RegionHeld3
namespace Go.Proofs.Ytcbanemkjebdcaa
open Go.RowKit Go.Shelf SP

theorem cells5 : Try.prog.cellsOf 5 = 1 := by kernel_rfl
theorem info5' : ∃ i, Try.prog.info? 5 = some i := by
  cases h : Try.prog.info? 5 with
  | some i => exact ⟨i, rfl⟩
  | none => exact absurd (show (Try.prog.info? 5).isSome = true by kernel_rfl) (by rw [h]; simp)
theorem part_key (X Y j : Nat) (h : j < 16) (w : World) : (part 5 (kl X Y).toArray (j * 1)).run Try.prog w = .ok (.int .u8 (kby X Y j : Int)) w := by
  have h3 := kl_get X Y j h
  simp [part, isAgg, Sem.run_bind, run_underlying Try.underlying5 w, h3, go_sem]
theorem eq_u8 (d : Nat) (a b : Int) (w : World) : (Op.equalIn (d + 1) 5 (.int .u8 a) (.int .u8 b)).run Try.prog w = .ok (a == b) w := by
  simp only [Op.equalIn, Sem.run_bind, run_underlying Try.underlying5 w]
  simp
theorem eqItems_key (d X Y X' Y' : Nat) (w : World) : ∀ l : List Nat, (∀ j ∈ l, j < 16) →
    (Op.eqItems (d + 1) 5 1 (kl X Y).toArray (kl X' Y').toArray l).run Try.prog w = .ok (l.all fun j => kby X Y j == kby X' Y' j) w
  | [], _ => by simp [Op.eqItems]
  | j :: l, h => by
    have hj := h j (by simp)
    simp only [Op.eqItems, Sem.run_bind, part_key X Y j hj w, part_key X' Y' j hj w, Result.andThen_ok, eq_u8 d _ _ w]
    have e : (((kby X Y j : Nat) : Int) == ((kby X' Y' j : Nat) : Int)) = (kby X Y j == kby X' Y' j) := by
      rw [Bool.eq_iff_iff]; simp; omega
    rw [e]
    cases hb : (kby X Y j == kby X' Y' j)
    · simp [hb]
    · simp only [Bool.not_true, Bool.false_eq_true, if_false, List.all_cons, hb, Bool.true_and]
      exact eqItems_key d X Y X' Y' w l (fun i hi => h i (by simp [hi]))

/-- Are two blocks equal? -/
def same (X Y X' Y' : Nat) : Bool := decide (X = X' ∧ Y = Y')
theorem same_all {X Y X' Y' : Nat} (hX : X < M) (hY : Y < M) (hX' : X' < M) (hY' : Y' < M) : ((List.range 16).all fun j => kby X Y j == kby X' Y' j) = same X Y X' Y' := by
  rw [Bool.eq_iff_iff]
  unfold same
  simp only [List.all_eq_true, List.mem_range, beq_iff_eq, decide_eq_true_eq]
  exact ⟨fun h => kby_ext hX hY hX' hY' h, fun h j _ => by rw [h.1, h.2]⟩
theorem run_equal_key {X Y X' Y' : Nat} (hX : X < M) (hY : Y < M) (hX' : X' < M) (hY' : Y' < M) (w : World) :
    (Op.equalIn 10000 23 (.agg (kl X Y).toArray) (.agg (kl X' Y').toArray)).run Try.prog w = .ok (same X Y X' Y') w := by
  obtain ⟨i, hi⟩ := info5'
  rw [show (10000 : Nat) = 9999 + 1 from rfl, run_equalIn_array w 9999 (kl X Y).toArray (kl X' Y').toArray Try.underlying23 hi, cells5, eqItems_key 9998 X Y X' Y' w _ (fun j hj => by simpa using hj), same_all hX hY hX' hY']

theorem tag_int (t c : Nat) (ht : t < 256) (hc : c < 72057594037927936) : bits .or .u64 (IntKind.u64.wrap ((t : Int) * 72057594037927936)) (c : Int) = ((t * 72057594037927936 + c : Nat) : Int) := by
  have h1 : IntKind.u64.wrap ((t : Int) * 72057594037927936) = ((t * 72057594037927936 : Nat) : Int) := by
    simp only [IntKind.wrap, IntKind.bits, IntKind.signed]
    simp
    omega
  rw [h1, or_join _ _ 56 (by unfold M; omega) (by omega) (by simpa using hc) (by decide)]

theorem tag_int' (t c : Nat) (ht : t < 256) (hc : c < 72057594037927936) : bits .or .u64 ((t : Int) * 72057594037927936) (c : Int) = ((t * 72057594037927936 + c : Nat) : Int) :=
  or_join (t * 72057594037927936) c 56 (by unfold M; omega) (by omega) (by simpa using hc) (by decide)

theorem ends_key {R : Ending → World → Prop} {fn : Func} {p : Tmp} (h : fn.results = #[.cell p 23]) {a : Act} {w : World} (b X Y : Nat) (ht : w.there b 0 16)
    (hp : a.tmps.getD p undef = .pointer (some ⟨b, 0, none⟩)) (hd : a.defers = []) (hq : R (.returned (.agg (kl X Y).toArray)) (w.setCells b 0 (kl X Y))) :
    bodyPost Try.prog fn R .ret a (w.setCells b 0 (kl X Y)) := bodyPost_key h b X Y hp (KeyAt.stored ht X Y) hd hq

set_option maxRecDepth 100000 in
theorem tagged_any (t c n : Nat) (w : World) (ht : t < 256) (hc : c < 72057594037927936) :
    Calls Try.prog 133 #[.int .u8 (t : Int), .int .u64 (c : Int), .int .u64 (n : Int)] w fun e w' => e = .returned (.agg (kl (t * 72057594037927936 + c) n).toArray) ∧ Below w.heap.size w w' := by
  have hj := tag_int' t c ht hc
  obtain ⟨x, hx⟩ : ∃ x, x = t * 72057594037927936 + c := ⟨_, rfl⟩
  rw [← hx] at hj ⊢
  obtain ⟨W1, hW1⟩ : ∃ W1, W1 = w.alloc (.cells z16 23) := ⟨_, rfl⟩
  have HB : Hid (Below w.heap.size w W1) := Lib.hid (by rw [hW1]; exact (Below.refl _ _).alloc (Nat.le_refl _) _)
  have HT : Hid (W1.there w.heap.size 0 16) := Lib.hid (by rw [hW1]; exact (Row.zeros w 23).there)
  have HW := Lib.hid hW1
  have HJ := Lib.hid (fun w => join_any x n w)
  clear hc hW1 hx
  go_enter Try.func133, Try.ntmps133
  go_wp2_with fail
  rw [← HW.out]
  refine (HJ.out _).mono ?_
  rintro e w2 ⟨rfl, hb2⟩
  have HT2 := Lib.hid (there_below HT.out hb2 (there_lt HT.out (by omega)))
  have HB2 := Lib.hid (HB.out.trans (hb2.mono HB.out.size))
  clear hb2
  go_wp2_with (refine wpList_store_key rfl _ _ rfl w.heap.size _ _ rfl rfl HT2.out ?_)
  exact ends_key rfl w.heap.size _ _ HT2.out rfl rfl ⟨rfl, below_setCells _ _ _ _ HB2.out (Nat.le_refl _)⟩

/-- The words of a derived key. -/
def drv (X Y t n : Nat) : Nat × Nat := enc X Y (t * 72057594037927936) n
theorem drv_ok {X Y t n : Nat} (hX : X < M) (hY : Y < M) (ht : t < 256) (hn : n < M) : Ok (drv X Y t n) := enc_ok hX hY (by unfold M; omega) hn

set_option maxRecDepth 100000 in
set_option maxHeartbeats 1000000 in
theorem derive_any (X Y t n : Nat) (w : World) (hX : X < M) (hY : Y < M) (ht : t < 256) (hn : n < M) :
    Calls Try.prog 91 #[.agg (kl X Y).toArray, .int .u8 (t : Int), .int .u64 (n : Int)] w fun e w' => e = .returned (.agg (kl (drv X Y t n).1 (drv X Y t n).2).toArray) ∧ Below w.heap.size w w' := by
  obtain ⟨W2, hW2⟩ : ∃ W2, W2 = (w.alloc (.cells (kl X Y).toArray 23)).alloc (.cells z16 23) := ⟨_, rfl⟩
  have HB : Hid (Below w.heap.size w W2) := Lib.hid (by rw [hW2]; exact ((Below.refl _ _).alloc (Nat.le_refl _) _).alloc (by simp) _)
  have HT : Hid (W2.there (w.heap.size + 1) 0 16) := Lib.hid (by
    have h := (Row.zeros (w.alloc (.cells (kl X Y).toArray 23)) 23).there
    rw [World.size_alloc] at h
    rw [hW2]; exact h)
  have HK : Hid (KeyAt W2 w.heap.size X Y) := Lib.hid (by rw [hW2]; exact (KeyAt.new w X Y 23).alloc _)
  have HW := Lib.hid hW2
  have HG := Lib.hid (fun w => tagged_any t 0 n w ht (by omega))
  rw [Nat.add_zero] at HG
  have HE := Lib.hid (fun w => encrypt_any X Y (t * 72057594037927936) n w hX hY (by unfold M; omega) hn)
  obtain ⟨P, hP⟩ : ∃ P, P = (drv X Y t n).1 := ⟨_, rfl⟩
  obtain ⟨Q, hQ⟩ : ∃ Q, Q = (drv X Y t n).2 := ⟨_, rfl⟩
  have eP : (enc X Y (t * 72057594037927936) n).1 = P := hP.symm
  have eQ : (enc X Y (t * 72057594037927936) n).2 = Q := hQ.symm
  rw [eP, eQ] at HE
  rw [← hP, ← hQ]
  clear eP eQ hP hQ
  have hsz : (kl P Q).toArray.size = 16 := by simp [kl_len]
  have HS := Lib.hid (fun (w' : World) (h : Below W2.heap.size W2 w') => (⟨HK.out.below h HK.out.lt, by rw [hsz]; exact there_below HT.out h (there_lt HT.out (by omega)), HB.out.trans (h.mono HB.out.size)⟩ : w'.rangeAt w.heap.size 0 (kl X Y) ∧ w'.there (w.heap.size + 1) 0 (kl P Q).toArray.size ∧ Below w.heap.size w w'))
  have HS2 := Lib.hid (fun (w' : World) (h : w'.rangeAt w.heap.size 0 (kl X Y) ∧ w'.there (w.heap.size + 1) 0 (kl P Q).toArray.size ∧ Below w.heap.size w w') =>
    (⟨KeyAt.setCells h.1 _ _ (by omega), World.there_setCells h.2.1 _ _ _, below_setCells _ _ _ _ h.2.2 (by omega)⟩ : (w'.setCells (w.heap.size + 1) 0 (kl P Q)).rangeAt w.heap.size 0 (kl X Y) ∧ (w'.setCells (w.heap.size + 1) 0 (kl P Q)).there (w.heap.size + 1) 0 (kl P Q).toArray.size ∧ Below w.heap.size w (w'.setCells (w.heap.size + 1) 0 (kl P Q))))
  have HS3 := Lib.hid (fun (w' : World) (h : w'.there (w.heap.size + 1) 0 (kl P Q).toArray.size) => (by rw [hsz] at h; exact h : w'.there (w.heap.size + 1) 0 16))
  have hx0 : Below W2.heap.size W2 W2.drew := (Below.refl _ _).drew
  have hlen0 : W2.heap.size ≤ W2.drew.heap.size := hx0.size
  clear hW2 hsz
  go_enter Try.func91, Try.ntmps91
  go_wp2_with fail
  rw [← HW.out]
  have hi : (Try.prog.info? 23).map (·.size) = some (kl X Y).length := by rw [kl_len]; exact size23
  have hu := Try.underlying23
  have hi2 : (Try.prog.info? 23).map (·.size) = some (kl P Q).toArray.size := by simp [kl_len, size23]
  have ho2 := kl_one P Q
  go_region_held3 (fun w' => w'.rangeAt w.heap.size 0 (kl X Y) ∧ w'.there (w.heap.size + 1) 0 (kl P Q).toArray.size ∧ Below w.heap.size w w')
    (first | with_reducible exact HS2.out _ (by assumption) | with_reducible exact HS.out _ hx0 | with_reducible exact HS.out _ hx1 | with_reducible exact HS.out _ hx2)
    (first
      | (go_at_call 133; refine (HG.out _).mono ?_; rintro e w5 ⟨rfl, hx5'⟩; have hx1 := hx0.trans (hx5'.mono hlen0))
      | (go_at_call 59; refine (HE.out _).mono ?_; rintro e w6 ⟨rfl, hx6'⟩; have hx2 := hx1.trans (hx6'.mono hx1.size)))
  have HF := HS3.out _ (HS.out _ hx2).2.1
  go_wp2
  exact ends_key rfl (w.heap.size + 1) P Q HF rfl rfl ⟨rfl, below_setCells _ _ _ _ (HB.out.trans (hx2.mono HB.out.size)) (by omega)⟩

/-- What Number returns. -/
def numb (X Y n most : Nat) : Nat := if most = 0 then 0 else (drv X Y 3 n).1 % most

set_option maxRecDepth 100000 in
set_option maxHeartbeats 1000000 in
theorem number_any (X Y n most : Nat) (w : World) (hX : X < M) (hY : Y < M) (hn : n < M) :
    Calls Try.prog 92 #[.agg (kl X Y).toArray, .int .u64 (n : Int), .int .u64 (most : Int)] w fun e w' => e = .returned (.int .u64 (numb X Y n most : Nat)) ∧ Below w.heap.size w w' := by
  obtain ⟨W1, hW1⟩ : ∃ W1, W1 = w.alloc (.cells (kl X Y).toArray 23) := ⟨_, rfl⟩
  have HB : Hid (Below w.heap.size w W1) := Lib.hid (by rw [hW1]; exact (Below.refl _ _).alloc (Nat.le_refl _) _)
  have HK : Hid (KeyAt W1 w.heap.size X Y) := Lib.hid (by rw [hW1]; exact KeyAt.new w X Y 23)
  have HW := Lib.hid hW1
  have HD := Lib.hid (fun w => derive_any X Y 3 n w hX hY (by decide) hn)
  have hok := drv_ok hX hY (show 3 < 256 by decide) hn
  have HSp := Lib.hid (fun w => split_any (drv X Y 3 n).1 (drv X Y 3 n).2 w hok.1 hok.2)
  by_cases h0 : most = 0
  · subst h0
    clear hW1 hX hY hn hok
    go_enter Try.func92, Try.ntmps92
    go_wp2
    go_ret
    exact ⟨rfl, by rw [← HW.out]; exact HB.out⟩
  · have HN : Hid (((numb X Y n most : Nat) : Int) = ((drv X Y 3 n).1 : Int) % (most : Int)) := Lib.hid (by unfold numb; rw [if_neg h0]; simp)
    obtain ⟨p, hp⟩ : ∃ p, p = (drv X Y 3 n).1 := ⟨_, rfl⟩
    obtain ⟨q, hq⟩ : ∃ q, q = (drv X Y 3 n).2 := ⟨_, rfl⟩
    rw [← hp] at HD HSp HN
    rw [← hq] at HD HSp
    have hm1 : ((most : Int) == 0) = false := by rw [beq_eq_false_iff_ne]; omega
    have hm2 : (0 : Int) < (most : Int) := by omega
    clear hW1 hX hY hn hok hp hq
    go_enter Try.func92, Try.ntmps92
    go_wp2_with (refine wpList_load_key rfl _ rfl _ rfl X Y (by rw [← HW.out]; exact HK.out) ?_)
    rw [← HW.out]
    refine (HD.out _).mono ?_
    rintro e w2 ⟨rfl, hb2⟩
    go_wp2_with fail
    refine (HSp.out _).mono ?_
    rintro e w3 ⟨rfl, hb3⟩
    go_wp2_with fail
    go_ret
    exact ⟨ret_int HN.out.symm, (HB.out.trans (hb2.mono HB.out.size)).trans (hb3.mono (Nat.le_trans HB.out.size hb2.size))⟩
end Go.Proofs.Ytcbanemkjebdcaa
