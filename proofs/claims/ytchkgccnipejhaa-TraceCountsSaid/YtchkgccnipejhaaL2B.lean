/-
  Texts joined into one: RfA, RfB, RfC, RfD, XorA, RfE, RfF, RfG, RfH, RfI, RfJ.
-/
import Derived.Test.YtchkgccnipejhaaL2A
import Derived.Test.YtchkgccnipejhaaMathB
import Derived.Test.YtchkgccnipejhaaJB
import Derived.Laws.AppendOwn
import Derived.Maps.AppendAt
import Derived.Deep.AppendSrc
import Derived.RegionTactic
import Derived.Deep.RegionHeld3

/-
  The specification's rotations, values of bytes and words.
-/
namespace Go.Proofs.Ytchkgccnipejhaa.L2
open Go.RowKit SP
set_option linter.unusedVariables false
set_option linter.unusedSimpArgs false

theorem or_swap (a b : Nat) (ha : a < M) (hb : b < M) : bits .or .u64 (a : Int) (b : Int) = bits .or .u64 (b : Int) (a : Int) := by
  rw [u64_or_nat a b ha hb, u64_or_nat b a hb ha, Nat.or_comm]
theorem wrap_mul (x m : Nat) : IntKind.u64.wrap ((x : Int) * (m : Int)) = ((x * m % M : Nat) : Int) := by simp [IntKind.wrap, IntKind.bits, IntKind.signed]
theorem div_lt (x d : Nat) (hx : x < M) : x / d < M := Nat.lt_of_le_of_lt (Nat.div_le_self _ _) hx
theorem rot_swap (x m d : Nat) (hx : x < M) : bits .or .u64 ((x : Int) / (d : Int)) (IntKind.u64.wrap ((x : Int) * (m : Int))) = bits .or .u64 (IntKind.u64.wrap ((x : Int) * (m : Int))) ((x : Int) / (d : Int)) := by
  rw [wrap_mul, show (x : Int) / (d : Int) = ((x / d : Nat) : Int) by simp]
  exact or_swap _ _ (div_lt x d hx) (Nat.mod_lt _ (by decide))
theorem r8 (x : Nat) (hx : x < M) : bits .or .u64 ((x : Int) / 256) (IntKind.u64.wrap ((x : Int) * 72057594037927936)) = ((rr8 x : Nat) : Int) := (rot_swap x 72057594037927936 256 hx).trans (rotm8 x hx)
theorem r3 (x : Nat) (hx : x < M) : bits .or .u64 ((x : Int) / 8) (IntKind.u64.wrap ((x : Int) * 2305843009213693952)) = ((rr3 x : Nat) : Int) := (rot_swap x 2305843009213693952 8 hx).trans (rotm3 x hx)
theorem r61 (x : Nat) (hx : x < M) : bits .or .u64 ((x : Int) / 2305843009213693952) (IntKind.u64.wrap ((x : Int) * 8)) = ((rl3 x : Nat) : Int) := (rot_swap x 8 2305843009213693952 hx).trans (rot3 x hx)
theorem r56 (x : Nat) (hx : x < M) : bits .or .u64 ((x : Int) / 72057594037927936) (IntKind.u64.wrap ((x : Int) * 256)) = ((rl8 x : Nat) : Int) := (rot_swap x 256 72057594037927936 hx).trans (rot8 x hx)

theorem val_int (a b : Nat) (ha : a < 72057594037927936) (hb : b < 256) : IntKind.u64.wrap (256 * (a : Int)) = ((256 * a : Nat) : Int) ∧ IntKind.u64.wrap (((256 * a : Nat) : Int) + (b : Int)) = ((a * 256 + b : Nat) : Int) := by
  constructor
  · simp only [IntKind.wrap, IntKind.bits, IntKind.signed]; simp; omega
  · simp only [IntKind.wrap, IntKind.bits, IntKind.signed]; simp; omega

set_option maxRecDepth 100000 in
set_option maxHeartbeats 1000000 in
theorem refValue_any (b off n c : Nat) (g : Nat → Nat) (w : World) (hg : ∀ i, g i < 256) (hn : n ≤ 8) (hc : ∀ i, i < n → w.cell? ⟨b, off + i, none⟩ = some (.int .u8 (g i : Int))) :
    Calls Try.prog 54 #[.slice (some ⟨b, off, none⟩) n c] w fun e w' => e = .returned (.int .u64 (wd g n : Nat)) ∧ Below w.heap.size w w' := by
  have HC := Lib.hid hc
  have HG := Lib.hid hg
  clear hc hg
  go_enter Try.func54, Try.ntmps54
  go_wp2
  go_loop [3, 4] (fun v i => ∃ k a : Nat, k ≤ n ∧ i = .int .i64 (k : Int) ∧ v = .int .u64 (a : Int) ∧ Hid (a = wd g k)) (fun _ i => n - (intOf i).toNat)
  case atStart => exact ⟨0, 0, by omega, rfl, rfl, Lib.hid rfl⟩
  case round =>
    obtain ⟨k, a, hk, rfl, rfl, HI⟩ := hrel
    by_cases hlt : k < n
    · have c1 := HC.out k hlt
      obtain ⟨p, hp⟩ : ∃ p, p = g k := ⟨_, rfl⟩
      rw [← hp] at c1
      have lp : p < 256 := by rw [hp]; exact HG.out k
      have la : a < 72057594037927936 := by
        rw [HI.out]
        have h1 := wd_lt g HG.out k
        have h2 : (256 : Nat) ^ k ≤ 256 ^ 7 := Nat.pow_le_pow_right (by decide) (by omega)
        have h3 : (256 : Nat) ^ 7 = 72057594037927936 := by decide
        omega
      have hw1 := (val_int a p la lp).1
      have HS : Hid (a * 256 + p = wd g (k + 1)) := Lib.hid (by rw [wd, HI.out, hp])
      have hs1 : (256 * (a : Int) + (p : Int)) = ((a * 256 + p : Nat) : Int) := by omega
      have hlim : a * 256 + p ≤ 18446744073709551615 := by omega
      have HS1 := Lib.hid hs1
      clear hp HI hs1
      go_wp2
      go_round
      case rel => exact ⟨k + 1, a * 256 + p, by omega, by go_num, by rw [← HS1.out], HS⟩
      case measure => simp [intOf]; omega
    · obtain rfl : k = n := by omega
      go_wp2
      go_ret
      exact ⟨ret_int (by rw [HI.out]), Below.refl _ _⟩
end Go.Proofs.Ytchkgccnipejhaa.L2

/-
  The specification's words, round keys and bytes.
-/
namespace Go.Proofs.Ytchkgccnipejhaa.L2
open Go.RowKit SP
set_option linter.unusedVariables false
set_option linter.unusedSimpArgs false

theorem wd_congr (f g : Nat → Nat) : ∀ k, (∀ i, i < k → f i = g i) → wd f k = wd g k
  | 0, _ => rfl
  | k + 1, h => by rw [wd, wd, wd_congr f g k (fun i hi => h i (by omega)), h k (by omega)]
theorem kw_kby (X Y : Nat) (hX : X < M) (hY : Y < M) : kwX (kby X Y) = X ∧ kwY (kby X Y) = Y :=
  kby_ext (kw_lt _ (kby_lt X Y)).1 (kw_lt _ (kby_lt X Y)).2 hX hY (fun i hi => kw_byte _ (kby_lt X Y) i hi)

end Go.Proofs.Ytchkgccnipejhaa.L2

/-
  The specification's round keys.
-/
namespace Go.Proofs.Ytchkgccnipejhaa.L2
open Go.RowKit SP
set_option linter.unusedVariables false
set_option linter.unusedSimpArgs false

theorem own_below {w w' : World} {B e size n : Nat} {v : Value} {xs : List Value} (h : w.ownsRow B e size v n xs) (hb : Below w.heap.size w w') : w'.ownsRow B e size v n xs :=
  h.kept (grownBy_of_below hb) (by by_cases e : v.ownBlock = none; exact .inl e; exact .inr e)
theorem own_new (w : World) (e : TypeId) (x : Value) (base : Nat) (hb : base ≤ w.heap.size) : (w.alloc (.cells #[x] e)).ownsRow base e 1 (.slice (some ⟨w.heap.size, 0, none⟩) 1 1) 1 [x] :=
  ⟨rfl, .inr ⟨w.heap.size, 1, #[x], rfl, hb, heap_alloc_new w _, Nat.le_refl _, by simp [maxLen], rfl, rfl⟩⟩
theorem own_slice {w : World} {B e n : Nat} {v : Value} {xs : List Value} (h : w.ownsRow B e 1 v n xs) (hn : 0 < n) : ∃ g c, v = .slice (some ⟨g, 0, none⟩) n c ∧ B ≤ g ∧ n ≤ c ∧ c ≤ maxLen ∧ ∀ i x, xs[i]? = some x → w.cell? ⟨g, i, none⟩ = some x := by
  rcases h.2 with ⟨_, h0⟩ | ⟨g, cap, cur, hv, hb, hg, hnc, hcm, hcs, ht⟩
  · omega
  · refine ⟨g, cap, hv, hb, hnc, hcm, fun i x hx => ?_⟩
    rw [cell_of_row _ _ i _ _ _ hg]
    rw [← ht] at hx
    have hi : i < n * 1 := by
      have := (List.getElem?_eq_some_iff.1 hx).1
      simp at this; omega
    rw [List.getElem?_take, if_pos hi] at hx
    simpa using hx

theorem own_block {w : World} {B e size n : Nat} {v : Value} {xs : List Value} (h : w.ownsRow B e size v n xs) {b : Nat} (hb : some b = v.ownBlock) : B ≤ b := by
  rcases h.2 with ⟨rfl, _⟩ | ⟨g, cap, cur, rfl, h1, _⟩
  · cases hb
  · injection hb with hb; rw [hb]; exact h1

theorem info30 : (Try.prog.info? 23).map (fun i => (i.zero, i.size, i.bytes)) = some (some (.int .u64 0), 1, 8) := by kernel_rfl
theorem info5 : (Try.prog.info? 5).map (fun i => (i.zero, i.size, i.bytes)) = some (some (.int .u8 0), 1, 1) := by kernel_rfl

/-- The first n round keys, as values. -/
def rks (X Y n : Nat) : List Value := (List.range n).map fun i => .int .u64 (rk X Y i : Int)
theorem rks_snoc (X Y n : Nat) : rks X Y (n + 1) = rks X Y n ++ [.int .u64 (rk X Y n : Int)] := by unfold rks; rw [List.range_succ, List.map_append]; rfl

/-
  The specification's Bytes, key, block.
-/
end Go.Proofs.Ytchkgccnipejhaa.L2
namespace Go.Proofs.Ytchkgccnipejhaa.L2
open Go.RowKit SP
set_option linter.unusedVariables false
set_option linter.unusedSimpArgs false

/-- The low k bytes of a number, the highest first. -/
def lowb (x : Nat) : Nat → List Nat
  | 0 => []
  | k + 1 => (x / 256 ^ k % 256) :: lowb x k
theorem lowb_len (x : Nat) : ∀ k, (lowb x k).length = k
  | 0 => rfl
  | k + 1 => by rw [lowb, List.length_cons, lowb_len x k]
theorem lowb_get (x : Nat) : ∀ k j, j < k → (lowb x k)[j]? = some (x / 256 ^ (k - 1 - j) % 256)
  | 0, j, h => by omega
  | k + 1, 0, _ => by rw [lowb]; simp
  | k + 1, j + 1, h => by rw [lowb, List.getElem?_cons_succ, lowb_get x k j (by omega), show k + 1 - 1 - (j + 1) = k - 1 - j by omega]

theorem bl_get (bs : List Nat) (j d : Nat) (h : bs[j]? = some d) : (bl bs)[j]? = some (.int .u8 (d : Int)) := by simp [bl, u8, List.getElem?_map, h]
theorem bl_one (bs : List Nat) : ∀ v ∈ bl bs, v.oneCell' = true := by
  intro v hv; obtain ⟨d, _, rfl⟩ := List.mem_map.1 hv; rfl

set_option maxRecDepth 100000 in
set_option maxHeartbeats 2000000 in
theorem refBytes_any (x m : Nat) (w : World) (hx : x < M) (hm : m ≤ 8) :
    Calls Try.prog 49 #[.int .u64 (x : Int), .int .i64 (m : Int)] w fun e w' => ∃ v, e = .returned v ∧ w'.ownsRow w.heap.size 5 1 v m (bl (lowb x m)) ∧ Below w.heap.size w w' := by
  obtain ⟨i0, hi, hz0, hz1, hz2⟩ := info_parts info5
  obtain ⟨N, hN⟩ : ∃ N, N = w.heap.size := ⟨_, rfl⟩
  have HN := Lib.hid hN
  rw [← hN]
  have hN' : N ≤ w.heap.size := by omega
  clear hN
  go_enter Try.func49, Try.ntmps49
  go_wp2
  go_loopw [0, 5, 6] (fun y v i wr => ∃ k a : Nat, k ≤ m ∧ i = .int .i64 (k : Int) ∧ y = .int .u64 (a : Int) ∧ a ≤ 18446744073709551615 ∧ Hid (a = x / 256 ^ k) ∧ Hid (wr.ownsRow N 5 1 v k (bl (lowb x k)) ∧ Below N w wr ∧ N ≤ wr.heap.size) ∧ Hid (k = 0 → v = .slice none 0 0)) (fun _ _ i _ => m - (intOf i).toNat)
  case atStart => exact ⟨0, x, by omega, rfl, rfl, by unfold M at hx; omega, Lib.hid (by simp), Lib.hid ⟨World.ownsRow_nil _ _ _ _, Below.refl _ _, hN'⟩, Lib.hid (fun _ => rfl)⟩
  case round =>
    obtain ⟨k, a, hk, rfl, rfl, ha, HI, HO, HV⟩ := hrel
    by_cases hlt : k < m
    · obtain ⟨d, hd⟩ : ∃ d, d = a % 256 := ⟨_, rfl⟩
      have hd1 : (a : Int) % 256 = (d : Int) := by omega
      have hd2 : d < 256 := by omega
      have HL : Hid (bl (lowb x (k + 1)) = [.int .u8 (d : Int)] ++ bl (lowb x k)) := Lib.hid (by rw [lowb, hd, HI.out]; rfl)
      have HA : Hid (a / 256 = x / 256 ^ (k + 1)) := Lib.hid (by rw [HI.out, Nat.div_div_eq_div_mul, ← Nat.pow_succ])
      clear hd HI
      have hown1 := own_new wr 5 (.int .u8 (d : Int)) N HO.out.2.2
      rcases Nat.eq_zero_or_pos k with rfl | hpos
      · have hv : u5 = .slice none 0 0 := HV.out rfl
        subst hv
        have hap := fun ty => run_append_room_src (P := Try.prog) (w := wr.alloc (.cells #[.int .u8 (d : Int)] 5)) 29 29 ty 5 i0 Try.underlying29 hi wr.heap.size 0 1 1 (.slice none 0 0) 0 [] (Src.ofNil _ Try.underlying29 0) (by omega) (fun j hj => by simp at hj) (fun j hj => by simp at hj)
        simp only [World.setCells] at hap
        go_wp2
        go_roundw
        case rel => exact ⟨1, a / 256, by omega, by go_num, by go_num, by omega, HA, Lib.hid ⟨by rw [HL.out]; exact hown1, HO.out.2.1.alloc HO.out.2.2 _, by simp; have := HO.out.2.2; omega⟩, Lib.hid (fun h => by omega)⟩
        case measure => simp [intOf]; omega
      · obtain ⟨g, c2, hv, h1, h2, h3, h4⟩ := own_slice HO.out.1 hpos
        subst hv
        have H4 := Lib.hid h4
        have hgl : g < wr.heap.size := by
          exact block_lt_of_cell (H4.out 0 _ (bl_get _ 0 _ (lowb_get x k 0 hpos)))
        have hnw : ∀ j u, (bl (lowb x k))[j]? = some u → (wr.alloc (.cells #[.int .u8 (d : Int)] 5)).cell? ((⟨g, 0, none⟩ : Addr).add j) = some u := by
          intro j u hu
          have h6 := H4.out j u hu
          rw [Addr.add_lit, Nat.zero_add, World.cell?_alloc_some _ _ _ (by rw [h6]; rfl)]
          exact h6
        clear h4
        go_wp2_with (first
          | (at_builtin; refine wpList_append_own _ rfl _ _ 29 rfl N 5 i0 _ 1 1 Try.underlying29 hi hz0 hz1 hz2 rfl (by omega) _ 1 [.int .u8 (d : Int)] rfl hown1 ⟨g, 0, none⟩ k c2 (bl (lowb x k)) rfl (by simp [bl, lowb_len]) hnw (bl_one _) (by unfold maxLen; omega) (by omega) (by simp; have := HO.out.2.2; omega) ?_; rotate_left; intro v1 w6 hown6 hg6 _))
        go_roundw
        case rel => exact ⟨k + 1, a / 256, by omega, by go_num, by go_num, by omega, HA, Lib.hid ⟨by rw [HL.out, Nat.add_comm]; exact hown6, (HO.out.2.1.alloc HO.out.2.2 _).grown hg6 (by simp; have := HO.out.2.2; omega) (fun b hb => own_block hown1 hb.symm), Nat.le_trans (by simp; have := HO.out.2.2; omega) hg6.size⟩, Lib.hid (fun h => by omega)⟩
        case measure => simp [intOf]; omega
    · obtain rfl : k = m := by omega
      go_wp2
      go_ret
      exact ⟨_, rfl, HO.out.1, HO.out.2.1⟩
end Go.Proofs.Ytchkgccnipejhaa.L2

/-
  Contracts of xor, the program's and the laws' own.
-/
namespace Go.Proofs.Ytchkgccnipejhaa.L2
open Go.RowKit SP

theorem kby_xor (X Y A B j : Nat) : kby (X ^^^ A) (Y ^^^ B) j = kby X Y j ^^^ kby A B j := by
  have key : ∀ x y p : Nat, (x ^^^ y) / 256 ^ p % 256 = (x / 256 ^ p % 256) ^^^ (y / 256 ^ p % 256) := by
    intro x y p
    rw [show (256 : Nat) = 2 ^ 8 by decide, ← Nat.pow_mul, ← Nat.shiftRight_eq_div_pow, ← Nat.shiftRight_eq_div_pow, ← Nat.shiftRight_eq_div_pow, Nat.shiftRight_xor_distrib, Nat.xor_mod_two_pow]
  unfold kby
  split <;> exact key _ _ _

theorem xor8_int (a b : Nat) (ha : a < 256) (hb : b < 256) : bits .xor .u8 (a : Int) (b : Int) = ((a ^^^ b : Nat) : Int) := u8_xor_nat a b ha hb
end Go.Proofs.Ytchkgccnipejhaa.L2

/-
  The specification's key.
-/
namespace Go.Proofs.Ytchkgccnipejhaa.L2
open Go.RowKit SP
set_option linter.unusedVariables false
set_option linter.unusedSimpArgs false

/-- n bytes, zeros behind. -/
def flz (n : Nat) (g : Nat → Nat) (i : Nat) : Nat := if i < n then g i else 0
theorem flz_lt (n : Nat) (g : Nat → Nat) (h : ∀ i, g i < 256) (i : Nat) : flz n g i < 256 := by unfold flz; split; exact h i; omega

/-
  The specification's block.
-/
end Go.Proofs.Ytchkgccnipejhaa.L2
namespace Go.Proofs.Ytchkgccnipejhaa.L2
open Go.RowKit SP
set_option linter.unusedVariables false
set_option linter.unusedSimpArgs false

theorem lowb_kb (X Y : Nat) : lowb X 8 ++ lowb Y 8 = kb X Y := by
  simp [lowb, kb, List.range_succ, kby]
theorem bl_kl (X Y : Nat) : bl (lowb X 8) ++ bl (lowb Y 8) = kl X Y := by
  unfold kl; rw [← lowb_kb]; unfold bl; rw [List.map_append]
theorem flz_key (X Y : Nat) (hX : X < M) (hY : Y < M) : kwX (flz 16 (kby X Y)) = X ∧ kwY (flz 16 (kby X Y)) = Y := by
  have h := kw_kby X Y hX hY
  refine ⟨.trans ?_ h.1, .trans ?_ h.2⟩
  · exact wd_congr _ _ 8 fun i hi => if_pos (by omega)
  · exact wd_congr _ _ 8 fun i hi => if_pos (by omega)

/-
  The specification's encryption.
-/
end Go.Proofs.Ytchkgccnipejhaa.L2
namespace Go.Proofs.Ytchkgccnipejhaa.L2
open Go.RowKit SP
set_option linter.unusedVariables false
set_option linter.unusedSimpArgs false

theorem add_int (x y : Nat) : IntKind.u64.wrap ((x : Int) + (y : Int)) = (((x + y) % M : Nat) : Int) := by
  simp only [IntKind.wrap, IntKind.bits, IntKind.signed]; simp

/-
  The specification's decryption.
-/
end Go.Proofs.Ytchkgccnipejhaa.L2
namespace Go.Proofs.Ytchkgccnipejhaa.L2
open Go.RowKit SP
set_option linter.unusedVariables false
set_option linter.unusedSimpArgs false

theorem dst_step (X Y A B j : Nat) (h : j < 32) : dst X Y A B (32 - j) = un (dst X Y A B (31 - j)) (rk X Y j) := by
  rw [show 32 - j = (31 - j) + 1 by omega, dst, show 31 - (31 - j) = j by omega]

/-
  The specification's Block, Derive and Number.
-/
end Go.Proofs.Ytchkgccnipejhaa.L2
namespace Go.Proofs.Ytchkgccnipejhaa.L2
open Go.RowKit SP
set_option linter.unusedVariables false
set_option linter.unusedSimpArgs false

theorem lowb_tag (t c : Nat) (ht : t < 256) (hc : c < 72057594037927936) : lowb (t * 72057594037927936 + c) 8 = t :: lowb c 7 := by
  simp only [lowb, Nat.reducePow, List.cons.injEq]
  refine ⟨by omega, by omega, by omega, by omega, by omega, by omega, by omega, by omega, trivial⟩
theorem bl_tag (t c n : Nat) (ht : t < 256) (hc : c < 72057594037927936) : [.int .u8 (t : Int)] ++ bl (lowb c 7) ++ bl (lowb n 8) = kl (t * 72057594037927936 + c) n := by
  rw [← bl_kl, lowb_tag t c ht hc]; rfl

/-
  The specification's Derive and Number.
-/
end Go.Proofs.Ytchkgccnipejhaa.L2
namespace Go.Proofs.Ytchkgccnipejhaa.L2
open Go.RowKit SP
set_option linter.unusedVariables false
set_option linter.unusedSimpArgs false
end Go.Proofs.Ytchkgccnipejhaa.L2
