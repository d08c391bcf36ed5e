/-
  Mac.
-/
import Derived.Test.YtphhppdokdageaaFldD
import Derived.Test.YtphhppdokdageaaTxtC
namespace Go.Proofs.Ytphhppdokdageaa
open Go.RowKit SP
set_option linter.unusedVariables false

/-- A slice of n bytes g. -/
structure Byt (w : World) (A : Option Addr) (n c : Nat) (g : Nat → Nat) : Prop where
  le : n ≤ c
  cap : c ≤ maxLen
  lt : ∀ i, g i < 256
  at_ : 0 < n → ∃ b off, A = some ⟨b, off, none⟩ ∧ ∀ i, i < n → w.cell? ⟨b, off + i, none⟩ = some (.int .u8 (g i : Int))
theorem Byt.keep {w w' : World} {A : Option Addr} {n c : Nat} {g : Nat → Nat} (h : Byt w A n c g) (hb : Below w.heap.size w w') : Byt w' A n c g :=
  ⟨h.le, h.cap, h.lt, fun hn => by
    obtain ⟨b, off, hA, hc⟩ := h.at_ hn
    exact ⟨b, off, hA, fun i hi => (hb.cell (World.block_lt_of_cell? w _ (hc i hi))).trans (hc i hi)⟩⟩

/-- The tag of n bytes g under the key of the words X and Y. -/
def macV (X Y : Nat) (g : Nat → Nat) (n : Nat) : Nat × Nat := fld (macS X Y) (drv X Y 2 n) g n (cnt n)
theorem macV_ok {X Y : Nat} (hX : X < M) (hY : Y < M) {g : Nat → Nat} (hg : ∀ i, g i < 256) {n : Nat} (hn : n < M) : Ok (macV X Y g n) :=
  fld_ok (fun _ _ hs hp => macS_ok hX hY hs hp) (drv_ok hX hY (by decide) hn) hg n _

theorem macFold (X Y S T bk : Nat) (A : Option Addr) (n c : Nat) (g : Nat → Nat) (w : World) (hX : X < M) (hY : Y < M) (hS : S < M) (hT : T < M) (hk : KeyAt w bk X Y) (hb : Byt w A n c g) (hn : n ≤ 1000000) :
    Calls Try.prog 43 #[.agg (kl S T).toArray, .slice A n c, .func (.func 47) #[] #[.pointer (some ⟨bk, 0, none⟩)]] w fun e w' => e = .returned (.agg (kl (fld (macS X Y) (S, T) g n (cnt n)).1 (fld (macS X Y) (S, T) g n (cnt n)).2).toArray) ∧ Below w.heap.size w w' := by
  rcases Nat.eq_zero_or_pos n with rfl | hpos
  · exact fold_zero 47 _ (macS X Y) S T A c g w hb.cap
  · obtain ⟨b, off, rfl, hc⟩ := hb.at_ hpos
    exact fold_pos 47 _ (macS X Y) S T b off n c g w (fun W => KeyAt W bk X Y) hS hT hb.lt hpos hn hb.le hb.cap hc (enters_of Try.func47 (by kernel_rfl) rfl) (fun W hW => hk.keep hW)
      (fun _ _ hs hp => macS_ok hX hY hs hp) (fun W s p hE hs hp => macStep_any X Y s.1 s.2 p.1 p.2 bk W hX hY hs.1 hs.2 hp.1 hp.2 hE)

set_option maxRecDepth 100000 in
set_option maxHeartbeats 400000 in
theorem mac_yes (X Y : Nat) (A : Option Addr) (n c : Nat) (g : Nat → Nat) (w : World) (hX : X < M) (hY : Y < M) (hb : Byt w A n c g) (hn : n ≤ 16384) :
    Calls Try.prog 22 #[.agg (kl X Y).toArray, .slice A n c] w fun e w' => e = .returned (.tuple #[.agg (kl (macV X Y g n).1 (macV X Y g n).2).toArray, .int .i64 0]) ∧ Below w.heap.size w w' := by
  have hmf : ∀ (fn : Fn) (first cap : Array Value) (w : World), (Instr.makeFunc fn first cap).run Try.prog w = .ok (.func fn first cap) w := fun _ _ _ _ => rfl
  have hnM : n < M := by unfold M; omega
  obtain ⟨N, hN⟩ : ∃ N, N = w.heap.size := ⟨_, rfl⟩
  obtain ⟨W2, hW2⟩ : ∃ W2, W2 = (w.alloc (.cells (kl X Y).toArray 23)).alloc (.cells z16 23) := ⟨_, rfl⟩
  have HB : Hid (Below N w W2) := Lib.hid (by rw [hW2, hN]; exact ((Below.refl _ _).alloc (Nat.le_refl _) _).alloc (by simp) _)
  have HS2 : Hid (W2.heap.size = N + 2) := Lib.hid (by rw [hW2, hN]; simp)
  have HT : Hid (W2.there (N + 1) 0 16) := Lib.hid (by
    have h := (Row.zeros (w.alloc (.cells (kl X Y).toArray 23)) 23).there
    rw [World.size_alloc] at h
    rw [hW2, hN]; exact h)
  have HK : Hid (KeyAt W2 N X Y) := Lib.hid (by rw [hW2, hN]; exact (KeyAt.new w X Y 23).alloc _)
  have HD := Lib.hid (fun w => derive_any X Y 2 n w hX hY (by decide) hnM)
  have hdo := drv_ok (t := 2) hX hY (by decide) hnM
  obtain ⟨S, hS⟩ : ∃ S, S = (drv X Y 2 n).1 := ⟨_, rfl⟩
  obtain ⟨T, hT⟩ : ∃ T, T = (drv X Y 2 n).2 := ⟨_, rfl⟩
  have hST : drv X Y 2 n = (S, T) := by rw [hS, hT]
  have HF := Lib.hid (fun (w' : World) (hk : KeyAt w' N X Y) (hb' : Byt w' A n c g) => macFold X Y S T N A n c g w' hX hY (by rw [hS]; exact hdo.1) (by rw [hT]; exact hdo.2) hk hb' (by omega))
  have eM : macV X Y g n = fld (macS X Y) (S, T) g n (cnt n) := by unfold macV; rw [hST]
  rw [← eM] at HF
  obtain ⟨P, hP⟩ : ∃ P, P = (macV X Y g n).1 := ⟨_, rfl⟩
  obtain ⟨Q, hQ⟩ : ∃ Q, Q = (macV X Y g n).2 := ⟨_, rfl⟩
  rw [← hP, ← hQ] at HF ⊢
  rw [← hS, ← hT] at HD
  have HY := Lib.hid (hb.keep (by rw [← hN]; exact HB.out))
  have HW := Lib.hid hW2
  have HN := Lib.hid hN
  have hcap := hb.cap
  have hle := hb.le
  have hw : IntKind.u64.wrap (n : Int) = (n : Int) := by
    simp only [IntKind.wrap, IntKind.bits, IntKind.signed]
    simp
    unfold M at hnM; omega
  have hgt : ((16384 : Int) < (n : Int)) = False := by simp; omega
  clear hW2 hX hY hb hnM hS hT hST eM hP hQ hdo hN
  go_enter Try.func22, Try.ntmps22
  go_wp2_with (refine wpList_load_key rfl _ rfl _ rfl X Y (by rw [← HW.out, ← HN.out]; exact HK.out) ?_)
  rw [← HW.out, ← HN.out]
  refine (HD.out W2).mono ?_
  rintro e w3 ⟨rfl, hb3⟩
  have ht3 := (Row.zeros w3 23).there
  have hr3 := Row.stored ht3 S T
  obtain ⟨W4, hW4⟩ : ∃ W4, W4 = (w3.alloc (.cells z16 23)).setCells w3.heap.size 0 (kl S T) := ⟨_, rfl⟩
  have hb4 : Below W2.heap.size W2 W4 := by rw [hW4]; exact below_setCells _ _ _ _ (hb3.trans (((Below.refl _ _).alloc (Nat.le_refl _) _).mono hb3.size)) hb3.size
  have HK4 := Lib.hid (HK.out.keep hb4)
  have HT4 := Lib.hid (there_below HT.out hb4 (there_lt HT.out (by omega)))
  have HY4 := Lib.hid (HY.out.keep hb4)
  have HR4 : Hid (KeyAt W4 w3.heap.size S T) := Lib.hid (by rw [hW4]; exact hr3.key fun j _ => rfl)
  have HT3 := Lib.hid ht3
  have HR4' : Hid (KeyAt ((w3.alloc (.cells z16 23)).setCells w3.heap.size 0 (kl S T)) w3.heap.size S T) := Lib.hid (hr3.key fun j _ => rfl)
  have HB4 := Lib.hid (HB.out.trans (hb4.mono (by rw [HS2.out]; omega)))
  have HW4 := Lib.hid hW4
  have HS4 : Hid (N + 2 ≤ W4.heap.size) := Lib.hid (by rw [← HS2.out]; exact hb4.size)
  clear hb3 hb4 hr3 ht3 hW4
  go_wp2_with (first
    | (refine wpList_store_key rfl _ _ rfl w3.heap.size S T rfl rfl HT3.out ?_; rw [← HW4.out])
    | (refine wpList_load_key rfl _ rfl w3.heap.size rfl S T HR4.out ?_))
  refine (HF.out W4 HK4.out HY4.out).mono ?_
  rintro e w5 ⟨rfl, hb5⟩
  have HT5 := Lib.hid (there_below HT4.out hb5 (there_lt HT4.out (by omega)))
  have HB5 := Lib.hid (HB4.out.trans (hb5.mono (by have := HS4.out; omega)))
  clear hb5
  go_wp2_with (refine wpList_store_key rfl _ _ rfl (N + 1) P Q rfl rfl HT5.out ?_)
  refine bodyPost_key2 rfl (N + 1) P Q rfl (KeyAt.stored HT5.out P Q) rfl ⟨rfl, ?_⟩
  rw [← HN.out]
  exact below_setCells _ _ _ _ HB5.out (by omega)

set_option maxRecDepth 100000 in
set_option maxHeartbeats 1000000 in
theorem mac_no (X Y : Nat) (A : Option Addr) (n c : Nat) (w : World) (hn : 16384 < n) :
    Calls Try.prog 22 #[.agg (kl X Y).toArray, .slice A n c] w fun e w' => e = .returned (.tuple #[.agg (kl 0 0).toArray, .int .i64 4]) ∧ Below w.heap.size w w' := by
  obtain ⟨W2, hW2⟩ : ∃ W2, W2 = (w.alloc (.cells (kl X Y).toArray 23)).alloc (.cells z16 23) := ⟨_, rfl⟩
  have HB : Hid (Below w.heap.size w W2) := Lib.hid (by rw [hW2]; exact ((Below.refl _ _).alloc (Nat.le_refl _) _).alloc (by simp) _)
  have HT : Hid (W2.there (w.heap.size + 1) 0 16) := Lib.hid (by
    have h := (Row.zeros (w.alloc (.cells (kl X Y).toArray 23)) 23).there
    rw [World.size_alloc] at h
    rw [hW2]; exact h)
  have HW := Lib.hid hW2
  clear hW2
  go_enter Try.func22, Try.ntmps22
  go_wp2_with (refine wpList_store_key rfl _ _ rfl (w.heap.size + 1) 0 0 rfl (by rw [kl_zero]; rfl) (by rw [← HW.out]; exact HT.out) ?_)
  rw [← HW.out]
  exact bodyPost_key2 rfl (w.heap.size + 1) 0 0 rfl (KeyAt.stored HT.out 0 0) rfl ⟨rfl, below_setCells _ _ _ _ HB.out (by omega)⟩
end Go.Proofs.Ytphhppdokdageaa
