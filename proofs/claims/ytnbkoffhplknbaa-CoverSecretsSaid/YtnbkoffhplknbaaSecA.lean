/-
  Keys that are derived down a path: nodeKey, step.
-/
import Derived.Test.YtnbkoffhplknbaaL2B
import Derived.Test.YtnbkoffhplknbaaBlk
import Derived.Test.YtnbkoffhplknbaaPlcA
namespace Go.Proofs.Ytnbkoffhplknbaa
open Go.RowKit TR L2 L2.SP
set_option linter.unusedVariables false
set_option linter.unusedSimpArgs false

def skp (p : Nat × Nat) (v : Nat) : Nat × Nat := drv p.1 p.2 (if v % 2 = 0 then 31 else 32) 0
def dwk (p : Nat × Nat) (ns : List Nat) : Nat × Nat := ns.foldl skp p
def ndk (p : Nat × Nat) (v : Nat) : Nat × Nat := drv p.1 p.2 30 v
def pnd (v x : Nat) : List Nat := (lvl (lv v + 1) (lv x - lv v)).map (nat_ x)
/-- The label of (v, x). -/
def lbk (p : Nat × Nat) (v x : Nat) : Nat × Nat := dwk (ndk p v) (pnd v x)
/-- The key that is stored for (v, x). -/
def sky (K : Int) (p : Nat × Nat) (v x : Nat) : Nat × Nat := if K = 1 then ndk p v else if x = 0 then drv p.1 p.2 34 0 else lbk p v x
theorem skp_ok {p : Nat × Nat} (h : Ok p) (v : Nat) : Ok (skp p v) := drv_ok h.1 h.2 (by split <;> omega) (by unfold M; omega)
theorem dwk_ok : ∀ (ns : List Nat) {p : Nat × Nat}, Ok p → Ok (dwk p ns)
  | [], _, h => h
  | v :: r, _, h => dwk_ok r (skp_ok h v)
theorem dwk_snoc (p : Nat × Nat) (ns : List Nat) (v : Nat) : dwk p (ns ++ [v]) = skp (dwk p ns) v := by unfold dwk; rw [List.foldl_append]; rfl
theorem ndk_ok {p : Nat × Nat} (h : Ok p) (v : Nat) (hv : v < 256) : Ok (ndk p v) := drv_ok h.1 h.2 (by omega) (by unfold M; omega)
theorem lbk_ok {p : Nat × Nat} (h : Ok p) (v x : Nat) (hv : v < 256) : Ok (lbk p v x) := dwk_ok _ (ndk_ok h v hv)
theorem sky_ok (K : Int) {p : Nat × Nat} (h : Ok p) (v x : Nat) (hv : v < 256) : Ok (sky K p v x) := by
  unfold sky
  split
  · exact ndk_ok h v hv
  · split
    · exact drv_ok h.1 h.2 (by omega) (by unfold M; omega)
    · exact lbk_ok h v x hv

/-- A block that holds a key. -/
abbrev Kbx (w : World) (b : Nat) (p : Nat × Nat) : Prop := Blk w b (kl p.1 p.2).toArray 58
theorem Kbx.at_ {w : World} {b : Nat} {p : Nat × Nat} (h : Kbx w b p) : KeyAt w b p.1 p.2 := by
  have h1 := Blk.range h
  unfold KeyAt; simpa using h1
theorem Kbx.there_ {w : World} {b : Nat} {p : Nat × Nat} (h : Kbx w b p) : w.there b 0 16 := by
  have h1 := Blk.there h; simpa [kl_len] using h1
theorem Blk.set1 {w : World} {b : Nat} {cs : Array Value} {t : TypeId} (h : Blk w b cs t) (o : Nat) (v : Value) : Blk (w.setCell ⟨b, o, none⟩ v) b (cs.setIfInBounds o v) t := by
  unfold Blk at h ⊢
  simp only [World.setCell, Array.getElem?_modify, h, if_true, Option.map_some]
  rfl
theorem Blk.setn {b : Nat} {t : TypeId} : ∀ (vs : List Value) (o : Nat) {w : World} {cs : Array Value}, Blk w b cs t → ∃ cs', Blk (w.setCells b o vs) b cs' t ∧ cs'.size = cs.size ∧ ∀ i, i < cs.size → cs'[i]? = if o ≤ i ∧ i < o + vs.length then vs[i - o]? else cs[i]?
  | [], o, w, cs, h => ⟨cs, h, rfl, fun i hi => by rw [if_neg (by simp; try omega)]⟩
  | v :: r, o, w, cs, h => by
    obtain ⟨cs', h1, h2, h3⟩ := Blk.setn r (o + 1) (Blk.set1 h o v)
    refine ⟨cs', by rw [World.setCells]; exact h1, by simpa using h2, fun i hi => ?_⟩
    rw [h3 i (by simpa using hi)]
    by_cases e : i = o
    · subst e
      rw [if_neg (by omega), if_pos (by simp)]
      simp [hi]
    · by_cases e2 : o + 1 ≤ i ∧ i < o + 1 + r.length
      · rw [if_pos e2, if_pos (by simp; omega), show i - o = (i - (o + 1)) + 1 by omega]; rfl
      · rw [if_neg e2, if_neg (by simp; omega), Array.getElem?_setIfInBounds_ne (fun e3 => e e3.symm)]
theorem Blk.setAll {w : World} {b : Nat} {cs : Array Value} {t : TypeId} (h : Blk w b cs t) (vs : List Value) (hl : vs.length = cs.size) : Blk (w.setCells b 0 vs) b vs.toArray t := by
  obtain ⟨cs', h1, h2, h3⟩ := Blk.setn vs 0 h
  have e : cs' = vs.toArray := by
    apply Array.ext
    · simp [h2, hl]
    · intro i hi1 hi2
      have h4 := h3 i (by omega)
      rw [if_pos (by simp; omega), Nat.sub_zero, Array.getElem?_eq_getElem hi1] at h4
      simp at hi2
      rw [List.getElem?_eq_getElem hi2] at h4
      simpa using h4
  rw [← e]; exact h1
theorem Blk.setCells_other {w : World} {b : Nat} {cs : Array Value} {t : TypeId} (h : Blk w b cs t) (b' : Nat) (vs : List Value) (hne : b ≠ b') (o : Nat := 0) : Blk (w.setCells b' o vs) b cs t := by
  induction vs generalizing w o with
  | nil => exact h
  | cons v r ih => rw [World.setCells]; exact ih (h.other (fun e => hne e.symm) v) (o + 1)
theorem keeps_setCells (b : Nat) : ∀ (vs : List Value) (o : Nat) (w : World), KeepsOthers w (w.setCells b o vs)
  | [], _, w => KeepsOthers.refl w
  | v :: r, o, w => by rw [World.setCells]; exact (KeepsOthers.setCell w _ v).trans (keeps_setCells b r (o + 1) _)
theorem Kbx.stored {w : World} {b : Nat} {cs : Array Value} (h : Blk w b cs 58) (hs : cs.size = 16) (p : Nat × Nat) : Kbx (w.setCells b 0 (kl p.1 p.2)) b p := Blk.setAll h _ (by rw [kl_len, hs])
theorem Kbx.size {p : Nat × Nat} : (kl p.1 p.2).toArray.size = 16 := by simp [kl_len]
theorem z16_size : (z16 : Array Value).size = 16 := rfl


set_option maxRecDepth 100000 in
set_option maxHeartbeats 400000 in
theorem nodeKey_any (p : Nat × Nat) (v : Nat) (w : World) (hp : Ok p) (hv : v < 256) :
    Calls Try.prog 141 #[.agg (kl p.1 p.2).toArray, .int .i64 (v : Int)] w fun e w' => e = .returned (.agg (kl (ndk p v).1 (ndk p v).2).toArray) ∧ Below w.heap.size w w' := by
  obtain ⟨N, hN⟩ : ∃ N, N = w.heap.size := ⟨_, rfl⟩
  obtain ⟨W2, hW2⟩ : ∃ W2, W2 = (w.alloc (.cells (kl p.1 p.2).toArray 58)).alloc (.cells z16 58) := ⟨_, rfl⟩
  have s2 : W2.heap.size = N + 2 := by rw [hW2, hN]; simp
  have b2 : Below N w W2 := by rw [hW2, hN]; exact (below_alloc _ _).trans ((below_alloc _ _).mono (by simp))
  have e1 : Kbx W2 N p := by rw [hW2, hN]; exact (Blk.new w _ _).keep (below_alloc _ _)
  have e2 : Blk W2 (N + 1) z16 58 := by
    have h := Blk.new (w.alloc (.cells (kl p.1 p.2).toArray 58)) z16 58
    rw [World.size_alloc, ← hN] at h; rw [hW2]; exact h
  have HE := Lib.hid (And.intro s2 (And.intro b2 (And.intro e1 e2)))
  have HD : Hid (∀ w, Calls Try.prog 63 #[.agg (kl p.1 p.2).toArray, .int .u8 30, .int .u64 (v : Int)] w fun e w' => e = .returned (.agg (kl (ndk p v).1 (ndk p v).2).toArray) ∧ Below w.heap.size w w') := Lib.hid (fun w => derive_any p.1 p.2 30 v w hp.1 hp.2 (by omega) (by unfold M; omega))
  have HN := Lib.hid hN
  have HW := Lib.hid hW2
  rw [← hN]
  obtain ⟨q, hq⟩ : ∃ q, q = (ndk p v) := ⟨_, rfl⟩
  have HQ := Lib.hid hq
  rw [← hq] at HD ⊢
  clear hN hW2 s2 b2 e1 e2 hq
  go_enter Try.func141, Try.ntmps141
  go_wp2_with (refine wpList_load_key rfl _ rfl _ rfl p.1 p.2 (by rw [← HW.out, ← HN.out]; exact HE.out.2.2.1.at_) ?_)
  rw [← HW.out, ← HN.out]
  refine (HD.out _).mono ?_
  rintro e w3 ⟨rfl, hb3⟩
  have HT3 : Hid (Blk w3 (N + 1) z16 58) := Lib.hid (HE.out.2.2.2.below hb3 (by rw [HE.out.1]; omega))
  have HB3 : Hid (Below N w w3) := Lib.hid (HE.out.2.1.trans (hb3.mono (by rw [HE.out.1]; omega)))
  clear hb3
  go_wp2_with (refine wpList_store_key rfl _ _ rfl (N + 1) _ _ rfl rfl (by have h := HT3.out.there; simpa using h) ?_)
  exact ends_key rfl (N + 1) _ _ (by have h := HT3.out.there; simpa using h) rfl rfl ⟨rfl, below_setCells _ _ _ _ HB3.out (by omega)⟩

set_option maxRecDepth 100000 in
set_option maxHeartbeats 400000 in
theorem refStep_any (p : Nat × Nat) (v : Nat) (w : World) (hp : Ok p) (hv : v < 256) :
    Calls Try.prog 176 #[.agg (kl p.1 p.2).toArray, .int .i64 (v : Int)] w fun e w' => e = .returned (.agg (kl (skp p v).1 (skp p v).2).toArray) ∧ Below w.heap.size w w' := by
  obtain ⟨N, hN⟩ : ∃ N, N = w.heap.size := ⟨_, rfl⟩
  obtain ⟨W2, hW2⟩ : ∃ W2, W2 = (w.alloc (.cells (kl p.1 p.2).toArray 58)).alloc (.cells z16 58) := ⟨_, rfl⟩
  have s2 : W2.heap.size = N + 2 := by rw [hW2, hN]; simp
  have b2 : Below N w W2 := by rw [hW2, hN]; exact (below_alloc _ _).trans ((below_alloc _ _).mono (by simp))
  have e1 : Kbx W2 N p := by rw [hW2, hN]; exact (Blk.new w _ _).keep (below_alloc _ _)
  have e2 : Blk W2 (N + 1) z16 58 := by
    have h := Blk.new (w.alloc (.cells (kl p.1 p.2).toArray 58)) z16 58
    rw [World.size_alloc, ← hN] at h; rw [hW2]; exact h
  have HE := Lib.hid (And.intro s2 (And.intro b2 (And.intro e1 e2)))
  have HD := Lib.hid (fun (t : Nat) (w : World) (ht : t < 256) => refDerive_any p.1 p.2 t 0 w hp.1 hp.2 ht (by unfold M; omega))
  have HSk : Hid (skp p v = drv p.1 p.2 (if v % 2 = 0 then 31 else 32) 0) := Lib.hid rfl
  have HN := Lib.hid hN
  have HW := Lib.hid hW2
  rw [← hN]
  obtain ⟨q, hq⟩ : ∃ q, q = (skp p v) := ⟨_, rfl⟩
  have HQ := Lib.hid hq
  rw [← hq]
  clear hN hW2 s2 b2 e1 e2 hq
  rcases Nat.mod_two_eq_zero_or_one v with hv2 | hv2
  · have HDx : Hid (∀ w, Calls Try.prog 110 #[.agg (kl p.1 p.2).toArray, .int .u8 31, .int .u64 0] w fun e w' => e = .returned (.agg (kl q.1 q.2).toArray) ∧ Below w.heap.size w w') := Lib.hid (fun w => by
      have h := HD.out 31 w (by omega)
      rw [HQ.out, HSk.out, if_pos hv2]; exact h)
    have hm : (v : Int).tmod 2 = 0 := by rw [show (v : Int).tmod 2 = ((v % 2 : Nat) : Int) from rfl, hv2]; rfl
    go_enter Try.func176, Try.ntmps176
    go_wp2_with (refine wpList_load_key rfl _ rfl _ rfl p.1 p.2 (by rw [← HW.out, ← HN.out]; exact HE.out.2.2.1.at_) ?_)
    rw [← HW.out, ← HN.out]
    refine (HDx.out _).mono ?_
    rintro e w3 ⟨rfl, hb3⟩
    have HT3 : Hid (Blk w3 (N + 1) z16 58) := Lib.hid (HE.out.2.2.2.below hb3 (by rw [HE.out.1]; omega))
    have HB3 : Hid (Below N w w3) := Lib.hid (HE.out.2.1.trans (hb3.mono (by rw [HE.out.1]; omega)))
    clear hb3
    go_wp2_with (refine wpList_store_key rfl _ _ rfl (N + 1) _ _ rfl rfl (by have h := HT3.out.there; simpa using h) ?_)
    exact ends_key rfl (N + 1) _ _ (by have h := HT3.out.there; simpa using h) rfl rfl ⟨rfl, below_setCells _ _ _ _ HB3.out (by omega)⟩
  · have HDx : Hid (∀ w, Calls Try.prog 110 #[.agg (kl p.1 p.2).toArray, .int .u8 32, .int .u64 0] w fun e w' => e = .returned (.agg (kl q.1 q.2).toArray) ∧ Below w.heap.size w w') := Lib.hid (fun w => by
      have h := HD.out 32 w (by omega)
      rw [HQ.out, HSk.out, if_neg (by omega)]; exact h)
    have hm : (v : Int).tmod 2 = 1 := by rw [show (v : Int).tmod 2 = ((v % 2 : Nat) : Int) from rfl, hv2]; rfl
    go_enter Try.func176, Try.ntmps176
    go_wp2_with (refine wpList_load_key rfl _ rfl _ rfl p.1 p.2 (by rw [← HW.out, ← HN.out]; exact HE.out.2.2.1.at_) ?_)
    rw [← HW.out, ← HN.out]
    refine (HDx.out _).mono ?_
    rintro e w3 ⟨rfl, hb3⟩
    have HT3 : Hid (Blk w3 (N + 1) z16 58) := Lib.hid (HE.out.2.2.2.below hb3 (by rw [HE.out.1]; omega))
    have HB3 : Hid (Below N w w3) := Lib.hid (HE.out.2.1.trans (hb3.mono (by rw [HE.out.1]; omega)))
    clear hb3
    go_wp2_with (refine wpList_store_key rfl _ _ rfl (N + 1) _ _ rfl rfl (by have h := HT3.out.there; simpa using h) ?_)
    exact ends_key rfl (N + 1) _ _ (by have h := HT3.out.there; simpa using h) rfl rfl ⟨rfl, below_setCells _ _ _ _ HB3.out (by omega)⟩
end Go.Proofs.Ytnbkoffhplknbaa
