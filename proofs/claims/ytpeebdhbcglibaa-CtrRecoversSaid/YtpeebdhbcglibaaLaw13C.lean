/- The walk of CtrRecovers. -/
import Derived.Test.YtpeebdhbcglibaaAwake13
import Derived.Test.YtpeebdhbcglibaaRca
namespace Go.Proofs.Ytpeebdhbcglibaa
open Go.RowKit

set_option maxRecDepth 100000 in
set_option maxHeartbeats 4000000 in
theorem ctrRecovers_walk (A : Option Addr) (c : Nat) (ws : List W32) (id n : Int) (w : World) (_hc : ws.length ≤ c ∧ c ≤ maxLen) (hl : Lies w w.heap.size 1 A ws.length (u32s ws)) (_hi1 : -9223372036854775808 ≤ id) (_hi2 : id ≤ 9223372036854775807) (_hn1 : -9223372036854775808 ≤ n) (_hn2 : n ≤ 9223372036854775807) :
    Calls Try.prog 3 #[.slice A ws.length c, .int .i64 id, .int .i64 n] w fun e w' => e = .returned (.bool true) ∧ Below w.heap.size w w' := by
  by_cases h200 : 200 < ws.length
  · have e1 : (200 : Int) < ws.length := by omega
    clear hl h200
    go_enter Try.func3, Try.ntmps3
    go_wp2_with (go_at_call 8; refine (awake_any _).mono ?_; rintro e w1 ⟨rfl, hd⟩; have H1 := Lib.hid hd; clear hd)
    go_ret
    exact ⟨rfl, H1.out⟩
  have e1 : ¬ (200 : Int) < ws.length := by omega
  obtain ⟨s0, hs0⟩ : ∃ s0 : St, s0 = ⟨ws, [], 0, true⟩ := ⟨_, rfl⟩
  obtain ⟨L, hL⟩ : ∃ L, L = ws.length := ⟨_, rfl⟩
  obtain ⟨m8, hm8⟩ : ∃ m8, m8 = L / 8 := ⟨_, rfl⟩
  have hw0 : s0.ws = ws := by rw [hs0]
  have HN : Hid (∀ W, Below w.heap.size w W → Calls Try.prog 9 #[.slice A L c, .slice none 0 0] W fun e w' => ∃ p G v B d, e = .returned (.pointer (some ⟨p, 0, none⟩)) ∧ Hid (NC w' G p s0 v B d ∧ Below w.heap.size w w')) := Lib.hid fun W hW => by
    rw [hL, hs0]
    refine (new_none A c ws (by omega) W ((hl.below hW).wide hW.size)).mono ?_
    rintro e w' ⟨p, G, v, B, d, rfl, h1, h2, _, h3⟩
    exact ⟨p, G, v, B, d, rfl, Lib.hid ⟨h1, hW.trans (h3.mono hW.size)⟩⟩
  -- behind the reference's store too
  have HBXS : Hid (∀ w2 p G v B d, Hid (NC w2 G p s0 v B d ∧ Below w.heap.size w w2) → NC (w2.alloc (.cells #[.slice A L c, .slice none 0 0, .int .i64 0, .bool false] 29)) G p s0 v B d ∧ RD (w2.alloc (.cells #[.slice A L c, .slice none 0 0, .int .i64 0, .bool false] 29)) w2.heap.size A c ws ∧
      Below w.heap.size w (w2.alloc (.cells #[.slice A L c, .slice none 0 0, .int .i64 0, .bool false] 29)) ∧
      ∀ W, Below (w2.alloc (.cells #[.slice A L c, .slice none 0 0, .int .i64 0, .bool false] 29)).heap.size (w2.alloc (.cells #[.slice A L c, .slice none 0 0, .int .i64 0, .bool false] 29)) W → NC W G p s0 v B d ∧ RD W w2.heap.size A c ws ∧ Below (w2.alloc (.cells #[.slice A L c, .slice none 0 0, .int .i64 0, .bool false] 29)).heap.size (w2.alloc (.cells #[.slice A L c, .slice none 0 0, .int .i64 0, .bool false] 29)) W) := Lib.hid fun w2 p G v B d h => by
    obtain ⟨V, hV⟩ : ∃ V, V = w2.alloc (.cells #[.slice A L c, .slice none 0 0, .int .i64 0, .bool false] 29) := ⟨_, rfl⟩
    have hb : Below w2.heap.size w2 V := by rw [hV]; exact (Below.refl _ _).alloc (Nat.le_refl _) _
    have hx : Blk V w2.heap.size 29 #[.slice A L c, .slice none 0 0, .int .i64 0, .bool false] := by rw [hV]; exact Blk.new _ _ _ rfl
    have hw : Below w.heap.size w V := h.out.2.trans (hb.mono h.out.2.size)
    have hn : NC V G p s0 v B d := h.out.1.under hb
    have hr : RD V w2.heap.size A c ws := ⟨by rw [← hL]; exact hx.cellAt 0 rfl, (hl.below hw).wide hw.size⟩
    rw [← hV]
    exact ⟨hn, hr, hw, fun W hW => ⟨hn.under hW, hr.under hW, hW⟩⟩
  have HEND : Hid (∀ w2 p G v B d, Hid (NC w2 G p s0 v B d ∧ Below w.heap.size w w2) → ∀ W, Below (w2.alloc (.cells #[.slice A L c, .slice none 0 0, .int .i64 0, .bool false] 29)).heap.size (w2.alloc (.cells #[.slice A L c, .slice none 0 0, .int .i64 0, .bool false] 29)) W → Below w.heap.size w W) := Lib.hid fun w2 p G v B d h W hW => by
    have h1 : Below w.heap.size w (w2.alloc (.cells #[.slice A L c, .slice none 0 0, .int .i64 0, .bool false] 29)) := h.out.2.alloc h.out.2.size _
    exact h1.trans (hW.mono h1.size)
  obtain ⟨R, hR⟩ : ∃ R, R = rv ws id := ⟨_, rfl⟩
  obtain ⟨sq, hsq⟩ : ∃ sq, sq = R.seq := ⟨_, rfl⟩
  obtain ⟨vl, hvl⟩ : ∃ vl, vl = R.val := ⟨_, rfl⟩
  obtain ⟨er, her⟩ : ∃ er, er = R.err := ⟨_, rfl⟩
  obtain ⟨q, hq⟩ : ∃ q : Nat, q = cond R.snd 1 0 := ⟨_, rfl⟩
  obtain ⟨m, hm⟩ : ∃ m, m = (min n 1000).toNat := ⟨_, rfl⟩
  have HR : Hid (∀ W p G v B d, NC W G p s0 v B d → Calls Try.prog 10 #[.pointer (some ⟨p, 0, none⟩), .int .i64 id] W fun e w' => e = .returned (.tuple #[.int .u32 (num vl), .int .i64 (er : Int)]) ∧ Below W.heap.size W w') := Lib.hid fun W p G v B d h => by
    rw [hvl, her]
    exact recover_any h (by rw [hw0]; omega) id R (by rw [hw0]; exact hR)
  have HRR : Hid (∀ W r, RD W r A c ws → Calls Try.prog 11 #[.pointer (some ⟨r, 0, none⟩), .int .i64 id] W fun e w' => e = .returned (.tuple #[.int .u32 (num vl), .int .i64 (q : Int), .agg #[.int .u32 (num sq), .int .u32 (num vl)], .int .i64 (er : Int)]) ∧ Below W.heap.size W w') := Lib.hid fun W r h => by
    have := rrecover_any h (by omega) id R hR
    unfold rvT at this
    rw [← hvl, ← her, ← hsq, ← hq] at this
    exact this
  have HCT : Hid (∀ W p G v B d, NC W G p s0 v B d → Calls Try.prog 12 #[.pointer (some ⟨p, 0, none⟩)] W fun e w' => e = .returned (.int .i64 (m8 : Int)) ∧ W = w') := Lib.hid fun W p G v B d h => by
    have := cnt_any h (by rw [hw0]; omega)
    rw [hw0, ← hL, ← hm8] at this
    exact this
  have HAL : Hid (∀ W p G v B d, NC W G p s0 v B d → Calls Try.prog 14 #[.pointer (some ⟨p, 0, none⟩), .int .i64 n] W (AllP W ws m)) := Lib.hid fun W p G v B d h => by
    have := all_any h (by rw [hw0]; omega) n m hm
    rw [hw0] at this
    exact this
  have HRA : Hid (∀ W r, RD W r A c ws → Calls Try.prog 15 #[.pointer (some ⟨r, 0, none⟩), .int .i64 n] W (AllP W ws m)) := Lib.hid fun W r h => rall_any h (by omega) n m hm
  have HSC : Hid (∀ W B d B2 d2, Lies W W.heap.size 2 B m (cellsK (alls ws m)) → Lies W W.heap.size 2 B2 m (cellsK (alls ws m)) → Calls Try.prog 13 #[.slice B m d, .slice B2 m d2] W fun e w' => e = .returned (.bool true) ∧ Below W.heap.size W w') := Lib.hid fun W B d B2 d2 h1 h2 => by
    have := samec_any B B2 d d2 (alls ws m) W (by rw [alls_len]; omega) (by rw [alls_len]; exact h1) (by rw [alls_len]; exact h2)
    rw [alls_len] at this
    exact this
  have h8 : (L : Int) / 8 = (m8 : Int) := by omega
  have w8 : IntKind.i64.wrap (m8 : Int) = (m8 : Int) := by rw [IntKind.wrap_i64]; omega
  rw [← hL] at e1 ⊢
  clear hl h200 hs0 hL hw0 hR hsq hvl her hq hm hm8
  by_cases hn : 100 < n
  · have d1 : decide ((100 : Int) < n) = true := decide_eq_true hn
    go_enter Try.func3, Try.ntmps3
    go_wp2_with (first
      | (go_at_call 8; refine (awake_any _).mono ?_; rintro e w1 ⟨rfl, hd⟩; have H1 := Lib.hid hd; clear hd)
      | (go_at_call 9; refine (HN.out _ H1.out).mono ?_; rintro e w2 ⟨p, G, v, B, d, rfl, H2⟩; have HBX := Lib.hid (HBXS.out w2 p G v B d H2.out))
      | (go_at_call 10; refine (HR.out _ p G v B d HBX.out.1).mono ?_; rintro e w3 ⟨rfl, hd⟩; have H3 := Lib.hid (HBX.out.2.2.2 w3 hd); clear hd)
      | (go_at_call 11; refine (HRR.out _ _ H3.out.2.1).mono ?_; rintro e w4 ⟨rfl, hd⟩; have H4 := Lib.hid (HBX.out.2.2.2 _ (H3.out.2.2.trans ((hd.mono H3.out.2.2.size).alloc (Nat.le_trans H3.out.2.2.size hd.size) (.cells #[.int .u32 (num sq), .int .u32 (num vl)] 35)))); clear hd)
      | (go_at_call 12; refine (HCT.out _ p G v B d H4.out.1).mono ?_; rintro e w5 ⟨rfl, rfl⟩))
    go_ret
    exact ⟨rfl, HEND.out w2 p G v B d H2.out _ H4.out.2.2⟩
  · have d1 : decide ((100 : Int) < n) = false := decide_eq_false hn
    go_enter Try.func3, Try.ntmps3
    go_wp2_with (first
      | (go_at_call 8; refine (awake_any _).mono ?_; rintro e w1 ⟨rfl, hd⟩; have H1 := Lib.hid hd; clear hd)
      | (go_at_call 9; refine (HN.out _ H1.out).mono ?_; rintro e w2 ⟨p, G, v, B, d, rfl, H2⟩; have HBX := Lib.hid (HBXS.out w2 p G v B d H2.out))
      | (go_at_call 10; refine (HR.out _ p G v B d HBX.out.1).mono ?_; rintro e w3 ⟨rfl, hd⟩; have H3 := Lib.hid (HBX.out.2.2.2 w3 hd); clear hd)
      | (go_at_call 11; refine (HRR.out _ _ H3.out.2.1).mono ?_; rintro e w4 ⟨rfl, hd⟩; have H4 := Lib.hid (HBX.out.2.2.2 _ (H3.out.2.2.trans ((hd.mono H3.out.2.2.size).alloc (Nat.le_trans H3.out.2.2.size hd.size) (.cells #[.int .u32 (num sq), .int .u32 (num vl)] 35)))); clear hd)
      | (go_at_call 12; refine (HCT.out _ p G v B d H4.out.1).mono ?_; rintro e w5 ⟨rfl, rfl⟩)
      | (go_at_call 14; refine (HAL.out _ p G v B d H4.out.1).mono ?_; rintro e w6 ⟨B6, d6, rfl, hl6, hd⟩; have HL6 := Lib.hid hl6; have H6 := Lib.hid (And.intro (HBX.out.2.2.2 _ (H4.out.2.2.trans (hd.mono H4.out.2.2.size))) hd); clear hd hl6)
      | (go_at_call 15; refine (HRA.out _ _ H6.out.1.2.1).mono ?_; rintro e w7 ⟨B7, d7, rfl, hl7, hd⟩; have HL7 := Lib.hid hl7; have H7 := Lib.hid hd; clear hd hl7)
      | (go_at_call 13; refine (HSC.out w7 B6 d6 B7 d7 ((HL6.out.below H7.out).wide H7.out.size) HL7.out).mono ?_; rintro e w8 ⟨rfl, hd⟩; have H8 := Lib.hid hd; clear hd))
    go_ret
    have h6 := HEND.out w2 p G v B d H2.out _ H6.out.1.2.2
    have h7 := h6.trans (H7.out.mono h6.size)
    exact ⟨rfl, h7.trans (H8.out.mono h7.size)⟩
end Go.Proofs.Ytpeebdhbcglibaa
