/- The walk over NumberTextBack. -/
import Derived.Test.YthplhlcdlnedfaaTxtG
namespace Go.Proofs.Ythplhlcdlnedfaa.numberTextBack
open Go.RowKit MN

theorem nm_zero {w : World} {v : Value} (h : Nm w v 0) : ∃ A c, v = .slice A 0 c := by
  obtain ⟨⟨A, n, c, rfl, a⟩, hN⟩ := h
  have h0 : n = 0 := by rw [← a.rd.len]; rfl
  exact ⟨A, c, by rw [h0]⟩
theorem text_v {w : World} {v : Value} {N : Nat} (h : Nm w v N) :
    Calls Try.prog 52 #[v] w fun e w' => e = .returned (.tuple #[.string (txtS N), .int .i64 0]) ∧ Below w.heap.size w w' := by
  obtain ⟨⟨A, n, c, rfl, a⟩, hN⟩ := h
  have H := text_any A n c _ w a
  rw [ck_yes (sm_vd hN), show texS (digs 4294967296 N) = txtS (nv (digs 4294967296 N)) from if_pos (sm_vd hN), nv_digs] at H
  exact H
theorem check_v {w : World} {v : Value} {N : Nat} (h : Nm w v N) : Calls Try.prog 26 #[v] w fun e w' => e = .returned (.int .i64 0) ∧ Below w.heap.size w w' := by
  obtain ⟨⟨A, n, c, rfl, a⟩, hN⟩ := h
  have H := check_any A n c _ w a
  rw [ck_yes (sm_vd hN)] at H
  exact H

theorem parse_ways (s : ByteArray) (hs : s.size ≤ maxLen) :
    (∀ w, Calls Try.prog 30 #[.string s] w (Ret1 w 12 0)) ∨ (∀ w, Calls Try.prog 30 #[.string s] w (Ret1 w 4 0)) ∨ (∃ N, txtS N = s ∧ ∀ w, Calls Try.prog 30 #[.string s] w (Ret1 w 0 N)) := by
  by_cases hd : IsDec (bs s)
  · by_cases hN : dvk (bs s) s.size < 4294967296 ^ 16
    · refine .inr (.inr ⟨_, txtS_of_dec s hd, fun w => ?_⟩)
      have H := parse_any s w hs
      rw [show parC s = 0 by unfold parC; rw [if_pos (decB_yes hd), (fit_yes hN).1], show parN s = dvk (bs s) s.size by unfold parN; rw [if_pos (decB_yes hd), (fit_yes hN).2]] at H
      exact H.mono fun _ _ h => ret1_of h hN
    · refine .inr (.inl fun w => ?_)
      have H := parse_any s w hs
      rw [show parC s = 4 by unfold parC; rw [if_pos (decB_yes hd), (fit_no hN).1], show parN s = 0 by unfold parN; rw [if_pos (decB_yes hd), (fit_no hN).2]] at H
      exact H.mono fun _ _ h => ret1_of h (by decide)
  · refine .inl fun w => ?_
    have H := parse_any s w hs
    have hn : ¬ decB s = true := by rw [decB_no hd]; simp
    rw [show parC s = 12 from if_neg hn, show parN s = 0 from if_neg hn] at H
    exact H.mono fun _ _ h => ret1_of h (by decide)

set_option maxRecDepth 100000 in
set_option maxHeartbeats 2000000 in
theorem walk (a0 : Option Addr) (len0 cap0 : Nat) (z0 : List Int) (a1 : ByteArray) (w : World) (w0 : IsRow .u32 w a0 len0 cap0 z0) (w1 : a1.size ≤ maxLen) :
    Calls Try.prog 13 #[.slice a0 len0 cap0, .string a1] w fun e w' => e = .returned (.bool true) ∧ Below w.heap.size w w' := by
  obtain ⟨xs, ax⟩ := arg_of w0
  clear w0
  have HA := Lib.hid (alive_any w)
  have W := parse_ways a1 w1
  cases hx : vB xs
  · have hx' := Lib.hid hx
    clear hx
    by_cases hl : 700 < a1.size
    · clear W
      go_enter Try.func13, Try.ntmps13
      go_wp2_with fail
      refine HA.out.mono ?_
      rintro e w2 ⟨rfl, hb⟩
      go_wp2_with fail
      refine (valid_v (ax.keep hb) _ hx'.out).mono ?_
      rintro e w3 ⟨rfl, rfl⟩
      go_wp2
      go_ret
      exact ⟨rfl, hb⟩
    · rcases W with HP | HP | ⟨N, HT, HP⟩
      · replace HP := Lib.hid HP
        go_enter Try.func13, Try.ntmps13
        go_wp2_with fail
        refine HA.out.mono ?_
        rintro e w2 ⟨rfl, hb⟩
        go_wp2_with fail
        refine (valid_v (ax.keep hb) _ hx'.out).mono ?_
        rintro e w3 ⟨rfl, rfl⟩
        go_wp2_with fail
        refine (HP.out _).mono ?_
        rintro e w5 ⟨vc, rfl, nc, hc⟩
        replace hb := hb.trans (hc.mono hb.size)
        clear hc
        obtain ⟨A3, c3, rfl⟩ := nm_zero nc
        clear nc
        go_wp2
        go_ret
        exact ⟨rfl, hb⟩
      · replace HP := Lib.hid HP
        go_enter Try.func13, Try.ntmps13
        go_wp2_with fail
        refine HA.out.mono ?_
        rintro e w2 ⟨rfl, hb⟩
        go_wp2_with fail
        refine (valid_v (ax.keep hb) _ hx'.out).mono ?_
        rintro e w3 ⟨rfl, rfl⟩
        go_wp2_with fail
        refine (HP.out _).mono ?_
        rintro e w5 ⟨vc, rfl, nc, hc⟩
        replace hb := hb.trans (hc.mono hb.size)
        clear hc
        obtain ⟨A3, c3, rfl⟩ := nm_zero nc
        clear nc
        go_wp2
        go_ret
        exact ⟨rfl, hb⟩
      · replace HP := Lib.hid HP
        go_enter Try.func13, Try.ntmps13
        go_wp2_with fail
        refine HA.out.mono ?_
        rintro e w2 ⟨rfl, hb⟩
        go_wp2_with fail
        refine (valid_v (ax.keep hb) _ hx'.out).mono ?_
        rintro e w3 ⟨rfl, rfl⟩
        go_wp2_with fail
        refine (HP.out _).mono ?_
        rintro e w5 ⟨vc, rfl, nc, hc⟩
        replace hb := hb.trans (hc.mono hb.size)
        clear hc
        go_wp2_with fail
        refine (text_v nc).mono ?_
        rw [HT]
        rintro e w6 ⟨rfl, hc⟩
        replace nc := nc.keep hc
        replace hb := hb.trans (hc.mono hb.size)
        clear hc
        go_wp2_with fail
        refine (check_v nc).mono ?_
        rintro e w7 ⟨rfl, hc⟩
        replace nc := nc.keep hc
        replace hb := hb.trans (hc.mono hb.size)
        clear hc
        go_wp2
        go_ret
        exact ⟨rfl, hb⟩
  · have hx' := Lib.hid hx
    have nx := ax.nm (vB_yes hx)
    clear hx
    by_cases hl : 700 < a1.size
    · clear W
      go_enter Try.func13, Try.ntmps13
      go_wp2_with fail
      refine HA.out.mono ?_
      rintro e w2 ⟨rfl, hb⟩
      go_wp2_with fail
      refine (valid_v (ax.keep hb) _ hx'.out).mono ?_
      rintro e w3 ⟨rfl, rfl⟩
      replace nx := nx.keep hb
      go_wp2_with fail
      refine (text_v nx).mono ?_
      rintro e w5 ⟨rfl, hc⟩
      replace nx := nx.keep hc
      replace hb := hb.trans (hc.mono hb.size)
      clear hc
      go_wp2_with fail
      refine (parse_txt (nv xs) nx.2 _).mono ?_
      rintro e w6 ⟨vb, rfl, ob, hc⟩
      replace nx := nx.keep hc
      replace hb := hb.trans (hc.mono hb.size)
      clear hc
      have nb := ob.nm nx.2
      clear ob
      go_wp2_with fail
      refine (same_yes nx nb rfl).mono ?_
      rintro e w7 ⟨rfl, hc⟩
      replace nx := nx.keep hc
      replace nb := nb.keep hc
      replace hb := hb.trans (hc.mono hb.size)
      clear hc
      go_wp2
      go_ret
      exact ⟨rfl, hb⟩
    · rcases W with HP | HP | ⟨N, HT, HP⟩
      · replace HP := Lib.hid HP
        go_enter Try.func13, Try.ntmps13
        go_wp2_with fail
        refine HA.out.mono ?_
        rintro e w2 ⟨rfl, hb⟩
        go_wp2_with fail
        refine (valid_v (ax.keep hb) _ hx'.out).mono ?_
        rintro e w3 ⟨rfl, rfl⟩
        replace nx := nx.keep hb
        go_wp2_with fail
        refine (text_v nx).mono ?_
        rintro e w5 ⟨rfl, hc⟩
        replace nx := nx.keep hc
        replace hb := hb.trans (hc.mono hb.size)
        clear hc
        go_wp2_with fail
        refine (parse_txt (nv xs) nx.2 _).mono ?_
        rintro e w6 ⟨vb, rfl, ob, hc⟩
        replace nx := nx.keep hc
        replace hb := hb.trans (hc.mono hb.size)
        clear hc
        have nb := ob.nm nx.2
        clear ob
        go_wp2_with fail
        refine (same_yes nx nb rfl).mono ?_
        rintro e w7 ⟨rfl, hc⟩
        replace nx := nx.keep hc
        replace nb := nb.keep hc
        replace hb := hb.trans (hc.mono hb.size)
        clear hc
        go_wp2_with fail
        refine (HP.out _).mono ?_
        rintro e w8 ⟨vc, rfl, nc, hc⟩
        replace nx := nx.keep hc
        replace nb := nb.keep hc
        replace hb := hb.trans (hc.mono hb.size)
        clear hc
        obtain ⟨A3, c3, rfl⟩ := nm_zero nc
        clear nc
        go_wp2
        go_ret
        exact ⟨rfl, hb⟩
      · replace HP := Lib.hid HP
        go_enter Try.func13, Try.ntmps13
        go_wp2_with fail
        refine HA.out.mono ?_
        rintro e w2 ⟨rfl, hb⟩
        go_wp2_with fail
        refine (valid_v (ax.keep hb) _ hx'.out).mono ?_
        rintro e w3 ⟨rfl, rfl⟩
        replace nx := nx.keep hb
        go_wp2_with fail
        refine (text_v nx).mono ?_
        rintro e w5 ⟨rfl, hc⟩
        replace nx := nx.keep hc
        replace hb := hb.trans (hc.mono hb.size)
        clear hc
        go_wp2_with fail
        refine (parse_txt (nv xs) nx.2 _).mono ?_
        rintro e w6 ⟨vb, rfl, ob, hc⟩
        replace nx := nx.keep hc
        replace hb := hb.trans (hc.mono hb.size)
        clear hc
        have nb := ob.nm nx.2
        clear ob
        go_wp2_with fail
        refine (same_yes nx nb rfl).mono ?_
        rintro e w7 ⟨rfl, hc⟩
        replace nx := nx.keep hc
        replace nb := nb.keep hc
        replace hb := hb.trans (hc.mono hb.size)
        clear hc
        go_wp2_with fail
        refine (HP.out _).mono ?_
        rintro e w8 ⟨vc, rfl, nc, hc⟩
        replace nx := nx.keep hc
        replace nb := nb.keep hc
        replace hb := hb.trans (hc.mono hb.size)
        clear hc
        obtain ⟨A3, c3, rfl⟩ := nm_zero nc
        clear nc
        go_wp2
        go_ret
        exact ⟨rfl, hb⟩
      · replace HP := Lib.hid HP
        go_enter Try.func13, Try.ntmps13
        go_wp2_with fail
        refine HA.out.mono ?_
        rintro e w2 ⟨rfl, hb⟩
        go_wp2_with fail
        refine (valid_v (ax.keep hb) _ hx'.out).mono ?_
        rintro e w3 ⟨rfl, rfl⟩
        replace nx := nx.keep hb
        go_wp2_with fail
        refine (text_v nx).mono ?_
        rintro e w5 ⟨rfl, hc⟩
        replace nx := nx.keep hc
        replace hb := hb.trans (hc.mono hb.size)
        clear hc
        go_wp2_with fail
        refine (parse_txt (nv xs) nx.2 _).mono ?_
        rintro e w6 ⟨vb, rfl, ob, hc⟩
        replace nx := nx.keep hc
        replace hb := hb.trans (hc.mono hb.size)
        clear hc
        have nb := ob.nm nx.2
        clear ob
        go_wp2_with fail
        refine (same_yes nx nb rfl).mono ?_
        rintro e w7 ⟨rfl, hc⟩
        replace nx := nx.keep hc
        replace nb := nb.keep hc
        replace hb := hb.trans (hc.mono hb.size)
        clear hc
        go_wp2_with fail
        refine (HP.out _).mono ?_
        rintro e w8 ⟨vc, rfl, nc, hc⟩
        replace nx := nx.keep hc
        replace nb := nb.keep hc
        replace hb := hb.trans (hc.mono hb.size)
        clear hc
        go_wp2_with fail
        refine (text_v nc).mono ?_
        rw [HT]
        rintro e w9 ⟨rfl, hc⟩
        replace nx := nx.keep hc
        replace nb := nb.keep hc
        replace nc := nc.keep hc
        replace hb := hb.trans (hc.mono hb.size)
        clear hc
        go_wp2_with fail
        refine (check_v nc).mono ?_
        rintro e w10 ⟨rfl, hc⟩
        replace nx := nx.keep hc
        replace nb := nb.keep hc
        replace nc := nc.keep hc
        replace hb := hb.trans (hc.mono hb.size)
        clear hc
        go_wp2
        go_ret
        exact ⟨rfl, hb⟩
end Go.Proofs.Ythplhlcdlnedfaa.numberTextBack
