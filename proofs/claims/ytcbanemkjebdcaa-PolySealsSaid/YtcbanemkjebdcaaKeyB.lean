/-
  Contracts of round, unround, split, join.
-/
import Derived.Test.YtcbanemkjebdcaaKeyA
namespace Go.Proofs.Ytcbanemkjebdcaa
open Go.RowKit SP

theorem rdX_int (x y k : Nat) (hk : k < M) : bits .xor .u64 (IntKind.u64.wrap ((rr8 x : Int) + (y : Int))) (k : Int) = ((rdX x y k : Nat) : Int) := by
  have h1 : IntKind.u64.wrap ((rr8 x : Int) + (y : Int)) = (((rr8 x + y) % M : Nat) : Int) := by
    simp [IntKind.wrap, IntKind.bits, IntKind.signed]
  rw [h1, u64_xor_nat _ _ (Nat.mod_lt _ (by decide)) hk]; rfl
theorem rdY_int (x y k : Nat) (hy : y < M) (hk : k < M) : bits .xor .u64 (rl3 y : Int) (rdX x y k : Int) = ((rdY x y k : Nat) : Int) := by
  rw [u64_xor_nat _ _ (rl3_lt hy) (rdX_lt hk)]; rfl
theorem xor_int (x y : Nat) (hx : x < M) (hy : y < M) : bits .xor .u64 (x : Int) (y : Int) = ((x ^^^ y : Nat) : Int) := u64_xor_nat _ _ hx hy
theorem sub_int (x y : Nat) (hy : y < M) : IntKind.u64.wrap ((x : Int) - (y : Int)) = (((x + M - y) % M : Nat) : Int) := by
  simp only [IntKind.wrap, IntKind.bits, IntKind.signed]
  unfold M at *
  simp
  omega

set_option maxRecDepth 100000 in
theorem round_any (x y k : Nat) (w : World) (hx : x < M) (hy : y < M) (hk : k < M) :
    Calls Try.prog 111 #[.int .u64 (x : Int), .int .u64 (y : Int), .int .u64 (k : Int)] w fun e w' => e = .returned (.tuple #[.int .u64 (rdX x y k : Nat), .int .u64 (rdY x y k : Nat)]) ∧ w = w' := by
  have hX := rdX_int x y k hk
  have hY := rdY_int x y k hy hk
  have H1 := Lib.hid (fun w => rr8_any x w hx)
  have H2 := Lib.hid (fun w => rl3_any y w hy)
  clear hx hy hk
  go_enter Try.func111, Try.ntmps111
  go_wp2_with fail
  refine (H1.out _).mono ?_
  rintro e w' ⟨rfl, rfl⟩
  go_wp2_with fail
  refine (H2.out _).mono ?_
  rintro e w' ⟨rfl, rfl⟩
  go_wp2_with fail
  go_ret2
  exact ⟨rfl, rfl⟩

set_option maxRecDepth 100000 in
theorem unround_any (x y k : Nat) (w : World) (hx : x < M) (hy : y < M) (hk : k < M) :
    Calls Try.prog 115 #[.int .u64 (x : Int), .int .u64 (y : Int), .int .u64 (k : Int)] w fun e w' => e = .returned (.tuple #[.int .u64 (unX x y k : Nat), .int .u64 (unY x y : Nat)]) ∧ w = w' := by
  have hX := xor_int y x hy hx
  have hY := xor_int x k hx hk
  have hS := sub_int (x ^^^ k) (unY x y) (unY_lt hx hy)
  have H1 := Lib.hid (fun w => rr3_any (y ^^^ x) w (xor_lt hy hx))
  have H2 := Lib.hid (fun w => rl8_any (((x ^^^ k) + M - unY x y) % M) w (Nat.mod_lt _ (by decide)))
  clear hx hy hk
  go_enter Try.func115, Try.ntmps115
  go_wp2_with fail
  refine (H1.out _).mono ?_
  rintro e w' ⟨rfl, rfl⟩
  have e1 : rr3 (y ^^^ x) = unY x y := rfl
  rw [e1]
  clear e1
  go_wp2_with fail
  refine (H2.out _).mono ?_
  rintro e w' ⟨rfl, rfl⟩
  go_wp2_with fail
  go_ret2
  exact ⟨rfl, rfl⟩

theorem join_int (a b c : Nat) (ha : a < 72057594037927936) (hb : b < 256) (h : a * 256 + b = c) : bits .or .u64 (IntKind.u64.wrap ((a : Int) * 256)) (b : Int) = (c : Int) := by
  have h1 : IntKind.u64.wrap ((a : Int) * 256) = ((a * 256 : Nat) : Int) := by
    simp only [IntKind.wrap, IntKind.bits, IntKind.signed]
    simp
    omega
  rw [h1, or_join _ _ 8 (by unfold M; omega) (by omega) hb (by decide), h]

set_option maxRecDepth 100000 in
set_option maxHeartbeats 1000000 in
theorem split_any (X Y : Nat) (w : World) (hX : X < M) (hY : Y < M) :
    Calls Try.prog 109 #[.agg (kl X Y).toArray] w fun e w' => e = .returned (.tuple #[.int .u64 (X : Int), .int .u64 (Y : Int)]) ∧ Below w.heap.size w w' := by
  have HK := Lib.hid (KeyAt.new w X Y 23)
  have HB : Hid (Below w.heap.size w (w.alloc (.cells (kl X Y).toArray 23))) := Lib.hid ((Below.refl _ _).alloc (Nat.le_refl _) _)
  have HX := Lib.hid hX
  have HY := Lib.hid hY
  clear hX hY
  go_enter Try.func109, Try.ntmps109
  go_wp2
  obtain ⟨wo, hwo⟩ : ∃ wo, wo = w.alloc (.cells (kl X Y).toArray 23) := ⟨_, rfl⟩
  rw [← hwo] at HK HB ⊢
  clear hwo
  go_loop [2, 3, 4, 5] (fun x y j i => ∃ k a b : Nat, k ≤ 8 ∧ i = .int .i64 (k : Int) ∧ x = .int .u64 (a : Int) ∧ y = .int .u64 (b : Int) ∧ Hid (a = X / 256 ^ (8 - k) ∧ b = Y / 256 ^ (8 - k))) (fun _ _ _ i => 8 - (intOf i).toNat)
  case atStart => exact ⟨0, 0, 0, by omega, rfl, rfl, rfl, Lib.hid ⟨(word_lt HX.out).symm, (word_lt HY.out).symm⟩⟩
  case round =>
    obtain ⟨k, a, b, hk, rfl, rfl, rfl, HI⟩ := hrel
    by_cases hlt : k < 8
    · have c1 := HK.out.cell k (by omega)
      have c2 := HK.out.cell (8 + k) (by omega)
      rw [kby_hi _ _ _ hlt] at c1
      rw [kby_lo _ _ _ hlt] at c2
      obtain ⟨p, hp⟩ : ∃ p, p = X / 256 ^ (7 - k) % 256 := ⟨_, rfl⟩
      obtain ⟨q, hq⟩ : ∃ q, q = Y / 256 ^ (7 - k) % 256 := ⟨_, rfl⟩
      rw [← hp] at c1
      rw [← hq] at c2
      have lp : p < 256 := by rw [hp]; exact Nat.mod_lt _ (by decide)
      have lq : q < 256 := by rw [hq]; exact Nat.mod_lt _ (by decide)
      have j1 := join_int a p (X / 256 ^ (8 - (k + 1))) (by rw [HI.out.1]; exact word_small X k HX.out hlt) (by rw [hp]; exact Nat.mod_lt _ (by decide)) (by rw [HI.out.1, hp]; exact word_step X k hlt)
      have j2 := join_int b q (Y / 256 ^ (8 - (k + 1))) (by rw [HI.out.2]; exact word_small Y k HY.out hlt) (by rw [hq]; exact Nat.mod_lt _ (by decide)) (by rw [HI.out.2, hq]; exact word_step Y k hlt)
      obtain ⟨p1, HP1⟩ : ∃ p1, Hid (p1 = X / 256 ^ (8 - (k + 1))) := ⟨_, Lib.hid rfl⟩
      obtain ⟨q1, HQ1⟩ : ∃ q1, Hid (q1 = Y / 256 ^ (8 - (k + 1))) := ⟨_, Lib.hid rfl⟩
      rw [← HP1.out] at j1
      rw [← HQ1.out] at j2
      clear hp hq HI
      go_wp2
      go_round
      case rel => exact ⟨k + 1, p1, q1, by omega, by go_num, rfl, rfl, Lib.hid ⟨HP1.out, HQ1.out⟩⟩
      case measure => simp [intOf]; omega
    · obtain rfl : k = 8 := by omega
      have ha : a = X := by have := HI.out.1; simpa using this
      have hb : b = Y := by have := HI.out.2; simpa using this
      clear HI
      subst ha hb
      go_wp2
      go_ret2
      exact ⟨rfl, HB.out⟩

end Go.Proofs.Ytcbanemkjebdcaa
