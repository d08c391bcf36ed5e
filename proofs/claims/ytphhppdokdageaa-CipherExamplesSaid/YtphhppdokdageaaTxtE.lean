/-
  Parse of every string; Text and Parse undo each other.
-/
import Derived.Test.YtphhppdokdageaaAlv
namespace Go.Proofs.Ytphhppdokdageaa
open Go.RowKit SP
set_option linter.unusedVariables false
set_option linter.unusedSimpArgs false

/-- Is a string the text of a key? -/
def POk (s : ByteArray) : Prop := s.size = 32 ∧ (hexA s && hexB s) = true

theorem parse_ok (s : ByteArray) (w : World) (h : POk s) :
    Calls Try.prog 24 #[.string s] w fun e w' => e = .returned (.tuple #[.agg (kl (txX s) (txY s)).toArray, .int .i64 0]) ∧ Below w.heap.size w w' :=
  parse_const s _ _ w h.1 h.2 rfl rfl

set_option maxRecDepth 100000 in
set_option maxHeartbeats 1000000 in
theorem parse_not32 (s : ByteArray) (w : World) (hs : s.size ≠ 32) (hs2 : s.size ≤ maxLen) :
    Calls Try.prog 24 #[.string s] w fun e w' => e = .returned (.tuple #[.agg (kl 0 0).toArray, .int .i64 12]) ∧ Below w.heap.size w w' := by
  unfold maxLen at hs2
  obtain ⟨W1, hW1⟩ : ∃ W1, W1 = w.alloc (.cells z16 23) := ⟨_, rfl⟩
  have HB : Hid (Below w.heap.size w W1) := Lib.hid (by rw [hW1]; exact (Below.refl _ _).alloc (Nat.le_refl _) _)
  have HT : Hid (W1.there w.heap.size 0 16) := Lib.hid (by rw [hW1]; exact (Row.zeros w 23).there)
  have HW := Lib.hid hW1
  have hn1 : ((s.size : Int) != 32) = true := by simp; omega
  clear hW1
  go_enter Try.func24, Try.ntmps24
  go_wp2_with ((refine wpList_store_key rfl _ _ rfl w.heap.size 0 0 rfl (by rw [kl_zero]; rfl) (by rw [← HW.out]; exact HT.out) ?_); rw [← HW.out])
  exact bodyPost_key2 rfl w.heap.size 0 0 rfl (KeyAt.stored HT.out 0 0) rfl ⟨rfl, below_setCells _ _ _ _ HB.out (Nat.le_refl _)⟩

theorem parse_bad (s : ByteArray) (w : World) (hs2 : s.size ≤ maxLen) (h : ¬ POk s) :
    Calls Try.prog 24 #[.string s] w fun e w' => e = .returned (.tuple #[.agg (kl 0 0).toArray, .int .i64 12]) ∧ Below w.heap.size w w' := by
  by_cases hs : s.size = 32
  · refine (parse_some s w hs).mono ?_
    rintro e w' ⟨⟨X', Y', E, he, hP⟩, hb⟩
    unfold Parses at hP
    rw [if_neg (fun hh => h ⟨hs, hh⟩)] at hP
    obtain ⟨rfl, rfl, rfl⟩ := hP
    exact ⟨he, hb⟩
  · exact parse_not32 s w hs hs2

/-! ### Texts, byte by byte -/
theorem keyStr_size (X Y : Nat) : (keyStr X Y).size = 16 := by unfold keyStr; rw [strOfNums_size]; simp
theorem keyStr_byte (X Y j : Nat) (h : j < 16) : ((keyStr X Y).data.toList.getD j 0).toNat = kby X Y j := by
  unfold keyStr
  rw [strOfNums_data]
  have hl := kby_lt X Y j
  simp [List.getD, List.getElem?_map, List.getElem?_range h]
  omega
theorem txS_size (X Y : Nat) : (txS X Y).size = 32 := by unfold txS; rw [ByteArray.size_append, keyStr_size, keyStr_size]
theorem sb_txS1 (X Y j : Nat) (h : j < 16) : sb (txS X Y) j = dgt X j := by
  unfold sb txS
  rw [ByteArray.data_append, Array.toList_append]
  have hl : (keyStr (kwX (dgt X)) (kwY (dgt X))).data.toList.length = 16 := keyStr_size _ _
  rw [List.getD_eq_getElem?_getD, List.getElem?_append_left (by omega), ← List.getD_eq_getElem?_getD, keyStr_byte _ _ j h, kw_byte _ (dgt_lt X) j h]
theorem sb_txS2 (X Y j : Nat) (h : j < 16) : sb (txS X Y) (16 + j) = dgt Y j := by
  unfold sb txS
  rw [ByteArray.data_append, Array.toList_append]
  have hl : (keyStr (kwX (dgt X)) (kwY (dgt X))).data.toList.length = 16 := keyStr_size _ _
  rw [List.getD_eq_getElem?_getD, List.getElem?_append_right (by omega), hl, Nat.add_sub_cancel_left, ← List.getD_eq_getElem?_getD, keyStr_byte _ _ j h, kw_byte _ (dgt_lt Y) j h]
theorem txX_txS (X Y : Nat) (hX : X < M) : txX (txS X Y) = X := by
  unfold txX
  rw [vwd_congr _ (dgt X) 16 (fun j hj => sb_txS1 X Y j hj), vwd_dgt X hX]
theorem txY_txS (X Y : Nat) (hY : Y < M) : txY (txS X Y) = Y := by
  unfold txY
  rw [vwd_congr _ (dgt Y) 16 (fun j hj => sb_txS2 X Y j hj), vwd_dgt Y hY]
theorem pok_txS (X Y : Nat) : POk (txS X Y) := by
  refine ⟨txS_size X Y, ?_⟩
  rw [Bool.and_eq_true]
  unfold hexA hexB
  simp only [List.all_eq_true, List.mem_range]
  refine ⟨fun j hj => ?_, fun j hj => ?_⟩
  · rw [sb_txS1 X Y j hj]; exact isHex_hexd (Nat.mod_lt _ (by decide))
  · rw [sb_txS2 X Y j hj]; exact isHex_hexd (Nat.mod_lt _ (by decide))
theorem bytes_ext (s t : ByteArray) (h1 : s.size = t.size) (h : ∀ j, j < t.size → sb s j = sb t j) : s = t := by
  cases s with
  | mk a => cases t with
    | mk b =>
      congr 1
      have hs : a.size = b.size := h1
      refine Array.ext hs (fun i h2 h3 => ?_)
      have := h i h3
      unfold sb at this
      simp only [List.getD_eq_getElem?_getD] at this
      rw [List.getElem?_eq_getElem (by simpa using h2), List.getElem?_eq_getElem (by simpa using h3)] at this
      simpa using UInt8.toNat_inj.1 this
theorem txS_back (s : ByteArray) (h : POk s) : txS (txX s) (txY s) = s := by
  have hx := h.2
  rw [Bool.and_eq_true] at hx
  unfold hexA hexB at hx
  simp only [List.all_eq_true, List.mem_range] at hx
  refine bytes_ext _ _ (by rw [txS_size, h.1]) (fun j hj => ?_)
  rw [h.1] at hj
  by_cases h16 : j < 16
  · rw [sb_txS1 _ _ j h16]
    unfold txX
    rw [dgt_vwd _ j h16]
    exact hexd_vdig (hx.1 j h16)
  · have e : j = 16 + (j - 16) := by omega
    rw [e, sb_txS2 _ _ (j - 16) (by omega)]
    unfold txY
    rw [dgt_vwd _ (j - 16) (by omega)]
    exact hexd_vdig (hx.2 (j - 16) (by omega))
theorem txX_lt (s : ByteArray) : txX s < M := vwd16_lt _
theorem txY_lt (s : ByteArray) : txY s < M := vwd16_lt _

/-- The load of a block where a guard lets it by. -/
theorem wpList_load_key_w {ops : Array Oper} {rest : List Oper} {op : Oper} {a : Act} {w : World} {Q : Exit → Act → World → Prop} (hw : Region.wanted op (yielded ops a.tmps) = true) (x : Operand) (ho : op.op = .load 23 x)
    (b : Nat) (hx : a.eval x = .pointer (some ⟨b, 0, none⟩)) (X Y : Nat) (hc : KeyAt w b X Y)
    (h : wpList Try.prog ops Q rest (a.put op.dst (.agg (kl X Y).toArray)) w) : wpList Try.prog ops Q (op :: rest) a w := by
  unfold wpList
  rw [if_pos hw]
  exact .inl (wp_load_mid 23 x ho b 0 hx (kl X Y) _ hc Try.underlying23 rfl (by rw [kl_len]; exact size23) h)

end Go.Proofs.Ytphhppdokdageaa
