/-
  Blocks of 16 bytes that are written byte by byte. Contract of join.
-/
import Derived.Test.YtcbanemkjebdcaaKeyB
namespace Go.Proofs.Ytcbanemkjebdcaa
open Go.RowKit SP

/-- Block b holds 16 bytes f, and may be written. -/
structure Row (w : World) (b : Nat) (f : Nat → Nat) : Prop where
  cell : ∀ j, j < 16 → w.cell? ⟨b, j, none⟩ = some (.int .u8 (f j : Int))
  fr : ∀ j, j < 16 → w.frozen? ⟨b, j, none⟩ = false

theorem Row.lt {w : World} {b : Nat} {f : Nat → Nat} (h : Row w b f) : b < w.heap.size := World.block_lt_of_cell? w ⟨b, 0, none⟩ (h.cell 0 (by omega))
theorem Row.set {w : World} {b : Nat} {f : Nat → Nat} (h : Row w b f) (j v : Nat) (hj : j < 16) : Row (w.setCell ⟨b, j, none⟩ (.int .u8 (v : Int))) b (fun i => if i = j then v else f i) where
  cell i hi := by
    by_cases e : i = j
    · subst e
      rw [if_pos rfl, World.cell?_setCell_same _ _ _ (h.cell i hi)]
    · rw [if_neg e, World.cell?_setCell_other _ _ _ _ (fun hh => e (by injection hh with _ h2 _; exact h2.symm))]
      exact h.cell i hi
  fr i hi := by rw [World.frozen?_setCell]; exact h.fr i hi
theorem Row.other {w : World} {b b' : Nat} {f : Nat → Nat} (h : Row w b f) (j : Nat) (v : Value) (hb : b' ≠ b) : Row (w.setCell ⟨b', j, none⟩ v) b f where
  cell i hi := by
    rw [World.cell?_setCell_other _ _ _ _ (fun hh => hb (by injection hh with h1 _ _))]
    exact h.cell i hi
  fr i hi := by rw [World.frozen?_setCell]; exact h.fr i hi
theorem Row.below {w w' : World} {n b : Nat} {f : Nat → Nat} (h : Row w b f) (hb : Below n w w') (hn : b < n) : Row w' b f where
  cell i hi := by rw [hb.cell (p := ⟨b, i, none⟩) hn]; exact h.cell i hi
  fr i hi := by rw [hb.frozen (p := ⟨b, i, none⟩) hn]; exact h.fr i hi
theorem Row.keep {w w' : World} {b : Nat} {f : Nat → Nat} (h : Row w b f) (hb : Below w.heap.size w w') : Row w' b f := h.below hb h.lt
theorem Row.key {w : World} {b X Y : Nat} {f : Nat → Nat} (h : Row w b f) (hf : ∀ j, j < 16 → f j = kby X Y j) : KeyAt w b X Y :=
  KeyAt.of_cells fun i hi => by rw [h.cell i hi, hf i hi]
theorem Row.there {w : World} {b : Nat} {f : Nat → Nat} (h : Row w b f) : w.there b 0 16 := fun j hj => by
  rw [Nat.zero_add, h.cell j hj, h.fr j hj]; exact ⟨rfl, rfl⟩
theorem Row.ext {w : World} {b : Nat} {f g : Nat → Nat} (h : Row w b f) (hf : ∀ j, j < 16 → f j = g j) : Row w b g :=
  ⟨fun j hj => by rw [← hf j hj]; exact h.cell j hj, h.fr⟩

/-- Sixteen zero bytes. -/
abbrev z16 : Array Value := #[.int .u8 0, .int .u8 0, .int .u8 0, .int .u8 0, .int .u8 0, .int .u8 0, .int .u8 0, .int .u8 0, .int .u8 0, .int .u8 0, .int .u8 0, .int .u8 0, .int .u8 0, .int .u8 0, .int .u8 0, .int .u8 0]
theorem z16_get (j : Nat) (h : j < 16) : z16[j]? = some (.int .u8 0) := by
  have h16 : j = 0 ∨ j = 1 ∨ j = 2 ∨ j = 3 ∨ j = 4 ∨ j = 5 ∨ j = 6 ∨ j = 7 ∨ j = 8 ∨ j = 9 ∨ j = 10 ∨ j = 11 ∨ j = 12 ∨ j = 13 ∨ j = 14 ∨ j = 15 := by omega
  rcases h16 with rfl | rfl | rfl | rfl | rfl | rfl | rfl | rfl | rfl | rfl | rfl | rfl | rfl | rfl | rfl | rfl <;> rfl
theorem Row.zeros (w : World) (t : TypeId) : Row (w.alloc (.cells z16 t)) w.heap.size (fun _ => 0) where
  cell i hi := by rw [cell_of_row _ _ i _ t _ (heap_alloc_new w _), z16_get i hi]; rfl
  fr i hi := by unfold World.frozen?; rw [heap_alloc_new]; simp
theorem Row.keyNew (w : World) (X Y : Nat) (t : TypeId) : Row (w.alloc (.cells (kl X Y).toArray t)) w.heap.size (kby X Y) where
  cell i hi := (KeyAt.new w X Y t).cell i hi
  fr i hi := by unfold World.frozen?; rw [heap_alloc_new]; simp

theorem below_setCells {n : Nat} {w : World} (b : Nat) : ∀ (vs : List Value) (o : Nat) (w' : World), Below n w w' → n ≤ b → Below n w (w'.setCells b o vs)
  | [], _, _, h, _ => h
  | v :: r, o, w', h, hb => by
    rw [World.setCells]
    exact below_setCells b r (o + 1) _ (h.setCell (p := ⟨b, o, none⟩) hb _) hb
theorem size_setCells (b : Nat) : ∀ (vs : List Value) (o : Nat) (w : World), (w.setCells b o vs).heap.size = w.heap.size
  | [], _, _ => rfl
  | v :: r, o, w => by rw [World.setCells, size_setCells b r (o + 1)]; simp
theorem KeyAt.stored {w : World} {b : Nat} (h : w.there b 0 16) (X Y : Nat) : KeyAt (w.setCells b 0 (kl X Y)) b X Y :=
  World.rangeAt_setCells_same w b 0 (kl X Y) (by rw [kl_len]; exact h)
theorem Row.stored {w : World} {b : Nat} (h : w.there b 0 16) (X Y : Nat) : Row (w.setCells b 0 (kl X Y)) b (kby X Y) :=
  ⟨fun i hi => (KeyAt.stored h X Y).cell i hi, fun i hi => by rw [World.frozen?_setCells]; have := (h i hi).2; rwa [Nat.zero_add] at this⟩

theorem word_zero (X : Nat) : X / 256 ^ (8 - 8) = X := by simp
theorem word_next (X q : Nat) (h : q < 8) : X / 256 ^ (8 - (q + 1)) / 256 = X / 256 ^ (8 - q) := by
  rw [Nat.div_div_eq_div_mul, ← Nat.pow_succ, show (8 - (q + 1)).succ = 8 - q by omega]
theorem byte_int (a : Nat) : IntKind.u8.wrap (a : Int) = ((a % 256 : Nat) : Int) := by
  simp [IntKind.wrap, IntKind.bits, IntKind.signed]

theorem bodyPost_key {Q : Ending → World → Prop} {fn : Func} {p : Tmp} (h : fn.results = #[.cell p 23]) {a : Act} {w : World} (b X Y : Nat)
    (hp : a.tmps.getD p undef = .pointer (some ⟨b, 0, none⟩)) (hc : KeyAt w b X Y) (hd : a.defers = []) (hq : Q (.returned (.agg (kl X Y).toArray)) w) : bodyPost Try.prog fn Q .ret a w :=
  bodyPost_ret (results_key h a.tmps w b X Y hp hc) hd hq

set_option maxRecDepth 100000 in
set_option maxHeartbeats 1000000 in
theorem join_any (X Y : Nat) (w : World) :
    Calls Try.prog 112 #[.int .u64 (X : Int), .int .u64 (Y : Int)] w fun e w' => e = .returned (.agg (kl X Y).toArray) ∧ Below w.heap.size w w' := by
  have HR0 := Lib.hid (Row.zeros w 23)
  have HR1 := Lib.hid (Row.zeros (w.alloc (.cells z16 23)) 23)
  have HB : Hid (Below w.heap.size w ((w.alloc (.cells z16 23)).alloc (.cells z16 23))) := Lib.hid (((Below.refl _ _).alloc (Nat.le_refl _) _).alloc (by simp) _)
  have HS : Hid (((w.alloc (.cells z16 23)).alloc (.cells z16 23)).heap.size = w.heap.size + 2) := Lib.hid (by simp)
  have HR0' : Hid (Row ((w.alloc (.cells z16 23)).alloc (.cells z16 23)) w.heap.size (fun _ => 0)) := Lib.hid (HR0.out.keep ((Below.refl _ _).alloc (Nat.le_refl _) _))
  have e1 : (w.alloc (.cells z16 23)).heap.size = w.heap.size + 1 := by simp
  rw [e1] at HR1
  clear HR0 e1
  go_enter Try.func112, Try.ntmps112
  go_wp2
  obtain ⟨wo, hwo⟩ : ∃ wo, wo = (w.alloc (.cells z16 23)).alloc (.cells z16 23) := ⟨_, rfl⟩
  rw [← hwo] at HR0' HR1 HB HS ⊢
  clear hwo
  go_loopw [0, 1, 6] (fun x y i wr => ∃ (k a b : Nat) (f : Nat → Nat), k ≤ 8 ∧ i = .int .i64 ((k : Int) - 1) ∧ x = .int .u64 (a : Int) ∧ y = .int .u64 (b : Int) ∧ Hid (a = X / 256 ^ (8 - k) ∧ b = Y / 256 ^ (8 - k)) ∧
      Hid (Row wr (w.heap.size + 1) f ∧ Row wr w.heap.size (fun _ => 0) ∧ Below w.heap.size w wr ∧ ∀ j, k ≤ j → j < 8 → f j = kby X Y j ∧ f (8 + j) = kby X Y (8 + j))) (fun _ _ i _ => (intOf i + 1).toNat)
  case atStart => exact ⟨8, X, Y, _, by omega, by go_num, rfl, rfl, Lib.hid ⟨(word_zero X).symm, (word_zero Y).symm⟩, Lib.hid ⟨HR1.out, HR0'.out, HB.out, fun j h1 h2 => by omega⟩⟩
  case round =>
    obtain ⟨k, a, b, f, hk, rfl, rfl, rfl, HI, HW⟩ := hrel
    rcases Nat.eq_zero_or_pos k with rfl | hpos
    · have HK : Hid (KeyAt wr (w.heap.size + 1) X Y) := Lib.hid (HW.out.1.key fun j hj => by
        by_cases h8 : j < 8
        · exact (HW.out.2.2.2 j (by omega) h8).1
        · have := (HW.out.2.2.2 (j - 8) (by omega) (by omega)).2
          rwa [show 8 + (j - 8) = j by omega] at this)
      have HT := Lib.hid HW.out.2.1.there
      go_wp2_with (first
        | (refine wpList_load_key rfl _ rfl _ rfl X Y HK.out ?_)
        | (refine wpList_store_key rfl _ _ rfl _ X Y rfl rfl HT.out ?_))
      exact bodyPost_key rfl w.heap.size X Y rfl (KeyAt.stored HT.out X Y) rfl ⟨rfl, below_setCells _ _ _ _ HW.out.2.2.1 (Nat.le_refl _)⟩
    · obtain ⟨q, rfl⟩ : ∃ q, k = q + 1 := ⟨k - 1, by omega⟩
      have c1 := HW.out.1.cell q (by omega)
      have f1 := HW.out.1.fr q (by omega)
      have c2 := HW.out.1.cell (8 + q) (by omega)
      have f2 := HW.out.1.fr (8 + q) (by omega)
      have d1 := byte_int a
      have d2 := byte_int b
      have l0 : (0 : Int) ≤ (q : Int) := by omega
      have hq8 : q < 8 := by omega
      rw [show (((q + 1 : Nat) : Int) - 1) = (q : Int) by omega]
      go_wp2
      go_roundw
      case rel =>
        refine ⟨q, a / 256, b / 256, _, by omega, by go_num, by go_num, by go_num, Lib.hid ⟨by rw [HI.out.1, word_next X q hq8], by rw [HI.out.2, word_next Y q hq8]⟩,
          Lib.hid ⟨(HW.out.1.set q (a % 256) (by omega)).set (8 + q) (b % 256) (by omega), (HW.out.2.1.other _ _ (by omega)).other _ _ (by omega), (HW.out.2.2.1.setCell (p := ⟨w.heap.size + 1, q, none⟩) (by simp) _).setCell (p := ⟨w.heap.size + 1, 8 + q, none⟩) (by simp) _, fun j h1 h2 => ?_⟩⟩
        by_cases e : j = q
        · subst e
          refine ⟨?_, ?_⟩
          · rw [if_neg (by omega), if_pos rfl, HI.out.1, kby_hi _ _ _ h2, show 8 - (j + 1) = 7 - j by omega]
          · rw [if_pos rfl, HI.out.2, kby_lo _ _ _ h2, show 8 - (j + 1) = 7 - j by omega]
        · have := HW.out.2.2.2 j (by omega) h2
          rw [if_neg (by omega), if_neg e, if_neg (by omega), if_neg (by omega)]
          exact this
      case measure => simp [intOf]
end Go.Proofs.Ytcbanemkjebdcaa
