/- The walk of CtrRises. -/
import Derived.Test.YtpeebdhbcglibaaAwake13
namespace Go.Proofs.Ytpeebdhbcglibaa
open Go.RowKit

set_option maxRecDepth 100000 in
set_option maxHeartbeats 4000000 in
theorem ctrRises_walk (A : Option Addr) (c : Nat) (ws : List W32) (i : Int) (n : Nat) (w : World) (_hc : ws.length ≤ c ∧ c ≤ maxLen) (hl : Lies w w.heap.size 1 A ws.length (u32s ws)) (_hi1 : -9223372036854775808 ≤ i) (_hi2 : i ≤ 9223372036854775807) (hn : n < 4294967296) :
    Calls Try.prog 6 #[.slice A ws.length c, .int .i64 i, .int .u32 (n : Int)] w fun e w' => e = .returned (.bool true) ∧ Below w.heap.size w w' := by
  obtain ⟨x, hx⟩ := num_ex (z := (n : Int)) (by omega) (by omega)
  rw [hx]
  clear hn hx
  by_cases h200 : 200 < ws.length
  · have e1 : (200 : Int) < ws.length := by omega
    clear hl h200
    go_enter Try.func6, Try.ntmps6
    go_wp2_with (go_at_call 8; refine (awake_any _).mono ?_; rintro e w1 ⟨rfl, hd⟩; have H1 := Lib.hid hd; clear hd)
    go_ret
    exact ⟨rfl, H1.out⟩
  have e1 : ¬ (200 : Int) < ws.length := by omega
  obtain ⟨s0, hs0⟩ : ∃ s0 : St, s0 = ⟨ws, [], 0, true⟩ := ⟨_, rfl⟩
  obtain ⟨L, hL⟩ : ∃ L, L = ws.length := ⟨_, rfl⟩
  have hw0 : s0.ws = ws := by rw [hs0]
  have ho0 : s0.on = true := by rw [hs0]
  have hc0 : s0.cnt = 0 := by rw [hs0]
  have hcs : s0.cs = [] := by rw [hs0]
  have HN : Hid (∀ W, Below w.heap.size w W → Calls Try.prog 9 #[.slice A L c, .slice none 0 0] W fun e w' => ∃ p G v B d, e = .returned (.pointer (some ⟨p, 0, none⟩)) ∧ Hid (NC w' G p s0 v B d ∧ (∀ i, G i → w.heap.size ≤ i) ∧ Below w.heap.size w w')) := Lib.hid fun W hW => by
    rw [hL, hs0]
    refine (new_none A c ws (by omega) W ((hl.below hW).wide hW.size)).mono ?_
    rintro e w' ⟨p, G, v, B, d, rfl, h1, h2, _, h3⟩
    exact ⟨p, G, v, B, d, rfl, Lib.hid ⟨h1, fun i hi => Nat.le_trans hW.size (h2 i hi), hW.trans (h3.mono hW.size)⟩⟩
  have HEND : Hid (∀ w2 w3 w4 w5 G, (∀ i, G i → w.heap.size ≤ i) → Below w.heap.size w w2 → Below w2.heap.size w2 w3 → Turn G w3 w4 → Below w4.heap.size w4 w5 → Below w.heap.size w w5) := Lib.hid fun w2 w3 w4 w5 G hg h2 h3 h4 h5 => by
    have k3 := h2.trans (h3.mono h2.size)
    have k4 := k3.trans (h4.below hg k3.size)
    exact k4.trans (h5.mono k4.size)
  obtain ⟨s1, hs1⟩ : ∃ s1, s1 = (bump s0 i x).2 := ⟨_, rfl⟩
  obtain ⟨f, hf⟩ : ∃ f, f = (bump s0 i x).1 := ⟨_, rfl⟩
  obtain ⟨r0, hr0⟩ : ∃ r0, r0 = rv s0.ws i := ⟨_, rfl⟩
  obtain ⟨r1, hr1⟩ : ∃ r1, r1 = rv s1.ws i := ⟨_, rfl⟩
  have hl1 : s1.ws.length = ws.length := by rw [hs1, bump_len, hw0]
  have HR0 : Hid (∀ w1 G p v B d, NC w1 G p s0 v B d → Calls Try.prog 10 #[.pointer (some ⟨p, 0, none⟩), .int .i64 i] w1 fun e w' => e = .returned (.tuple #[.int .u32 (num r0.val), .int .i64 (r0.err : Int)]) ∧ Hid (NC w' G p s0 v B d ∧ Below w1.heap.size w1 w')) := Lib.hid fun w1 G p v B d h =>
    (recover_any h (by rw [hw0]; omega) i r0 hr0).mono fun e w' ⟨h1, h2⟩ => ⟨h1, Lib.hid ⟨h.under h2, h2⟩⟩
  have HBM : Hid (∀ w1 G p v B d, NC w1 G p s0 v B d → Calls Try.prog 18 #[.pointer (some ⟨p, 0, none⟩), .int .i64 i, .int .u32 (num x)] w1 fun e w' => e = .returned (.int .i64 (f : Int)) ∧ Hid (NC w' G p s1 v B d ∧ Turn G w1 w')) := Lib.hid fun w1 G p v B d h => by
    rw [hf, hs1]
    exact (bump_any h (by rw [hw0]; omega) (by rw [hc0]; omega) i x).mono fun e w' ⟨h1, h2, h3⟩ => ⟨h1, Lib.hid ⟨h2, h3⟩⟩
  have HR1 : Hid (∀ w1 G p v B d, NC w1 G p s1 v B d → Calls Try.prog 10 #[.pointer (some ⟨p, 0, none⟩), .int .i64 i] w1 fun e w' => e = .returned (.tuple #[.int .u32 (num r1.val), .int .i64 (r1.err : Int)]) ∧ Hid (NC w' G p s1 v B d ∧ Below w1.heap.size w1 w')) := Lib.hid fun w1 G p v B d h =>
    (recover_any h (by rw [hl1]; omega) i r1 hr1).mono fun e w' ⟨h1, h2⟩ => ⟨h1, Lib.hid ⟨h.under h2, h2⟩⟩
  obtain ⟨ct, hct⟩ : ∃ ct, ct = s1.cnt := ⟨_, rfl⟩
  have HWR : Hid (∀ w1 G p v B d, NC w1 G p s1 v B d → Calls Try.prog 22 #[.pointer (some ⟨p, 0, none⟩)] w1 fun e w' => e = .returned (.int .i64 (ct : Int)) ∧ w1 = w') := Lib.hid fun w1 G p v B d h => by
    rw [hct]; exact writes_any h
  have hbe := bump_err (s := s0) (id := i) (x := x)
  have hbb := bump_back (s := s0) (id := i) (x := x)
  have hbf := bump_full (s := s0) (id := i) (x := x)
  have hbi := rv_in (ws := s0.ws) (id := i)
  have hdo : r0.err = 0 → r0.val.toNat < x.toNat → x ≠ ones → f = 0 ∧ (r1.err = 131 ∨ (r1.err = 0 ∧ r1.val = x)) := fun g0 g1 g2 => by
    have hin := hbi (by rw [← hr0]; exact g0)
    obtain ⟨k, hk⟩ := Int.eq_ofNat_of_zero_le hin.1
    have hk2 : k < s0.ws.length / 8 := by omega
    rw [hk] at hr0 hr1 hs1 hf
    have h := bump_is s0 ho0 k hk2 x (by rw [← hr0]; exact g0) (by rw [← hr0]; exact g1) g2
    rw [← hs1, ← hf, ← hr1] at h
    rw [hcs] at h
    rcases h.2.1 with hz | ⟨hne, _⟩
    · refine ⟨hz, ?_⟩
      rcases h.2.2 with hq | ⟨hq, _⟩
      · exact hq
      · rw [hz] at hq; cases hq
    · exact absurd rfl hne
  rw [← hr0] at hbe hbb hbf
  rw [← hL] at e1 ⊢
  obtain ⟨e0, he0⟩ : ∃ e0, e0 = r0.err := ⟨_, rfl⟩
  obtain ⟨was, hwas⟩ : ∃ was, was = r0.val := ⟨_, rfl⟩
  obtain ⟨g, hg⟩ : ∃ g, g = r1.err := ⟨_, rfl⟩
  obtain ⟨now, hnow⟩ : ∃ now, now = r1.val := ⟨_, rfl⟩
  have hsame : s1 = s0 → r1 = r0 := fun h => by rw [hr1, h, hr0]
  rw [← he0, ← hwas] at HR0
  rw [← hg, ← hnow] at HR1
  rw [← he0] at hbe hbb hbf hdo
  rw [← hwas] at hbb hbf hdo
  rw [← hg, ← hnow] at hdo
  clear hl h200 hs0 hL hw0 ho0 hcs hr0 hr1 hl1 hbi
  by_cases h0 : e0 = 0
  case neg =>
    have hb := hbe h0
    obtain rfl : f = e0 := by rw [hf, hb]
    have h2 : s1 = s0 := by rw [hs1, hb]
    obtain rfl : ct = 0 := by rw [hct, h2, hc0]
    have q1 : ¬ (f : Int) = 0 := by omega
    have q2 : ((f : Int) != 0) = true := by simp [h0]
    clear hbe hbb hbf hdo hb h2 hf hs1 he0 hwas hg hnow hsame hct hc0 h0
    go_enter Try.func6, Try.ntmps6
    go_wp2_with (first
      | (go_at_call 8; refine (awake_any _).mono ?_; rintro e w1 ⟨rfl, hd⟩; have H1 := Lib.hid hd; clear hd)
      | (go_at_call 9; refine (HN.out _ H1.out).mono ?_; rintro e w2 ⟨p, G, v, B, d, rfl, H2⟩)
      | (go_at_call 10; refine (HR0.out w2 G p v B d H2.out.1).mono ?_; rintro e w3 ⟨rfl, H3⟩)
      | (go_at_call 18; refine (HBM.out w3 G p v B d H3.out.1).mono ?_; rintro e w4 ⟨rfl, H4⟩)
      | (go_at_call 10; refine (HR1.out w4 G p v B d H4.out.1).mono ?_; rintro e w5 ⟨rfl, H5⟩)
      | (go_at_call 22; refine (HWR.out w5 G p v B d H5.out.1).mono ?_; rintro e w6 ⟨rfl, rfl⟩))
    go_ret
    exact ⟨rfl, HEND.out w2 w3 w4 w5 G H2.out.2.1 H2.out.2.2 H3.out.2 H4.out.2 H5.out.2⟩
  subst h0
  by_cases h1 : x.toNat ≤ was.toNat
  · have hb := hbb rfl h1
    obtain rfl : f = 132 := by rw [hf, hb]
    have h2 : s1 = s0 := by rw [hs1, hb]
    obtain rfl : ct = 0 := by rw [hct, h2, hc0]
    obtain rfl : now = was := by rw [hnow, hwas, hsame h2]
    have q1 : num x ≤ num now := by unfold num; omega
    have q2 : decide (num x ≤ num now) = true := decide_eq_true q1
    clear hbe hbb hbf hdo hb h2 hf hs1 he0 hwas hg hnow hsame hct hc0 h1
    go_enter Try.func6, Try.ntmps6
    go_wp2_with (first
      | (go_at_call 8; refine (awake_any _).mono ?_; rintro e w1 ⟨rfl, hd⟩; have H1 := Lib.hid hd; clear hd)
      | (go_at_call 9; refine (HN.out _ H1.out).mono ?_; rintro e w2 ⟨p, G, v, B, d, rfl, H2⟩)
      | (go_at_call 10; refine (HR0.out w2 G p v B d H2.out.1).mono ?_; rintro e w3 ⟨rfl, H3⟩)
      | (go_at_call 18; refine (HBM.out w3 G p v B d H3.out.1).mono ?_; rintro e w4 ⟨rfl, H4⟩)
      | (go_at_call 10; refine (HR1.out w4 G p v B d H4.out.1).mono ?_; rintro e w5 ⟨rfl, H5⟩)
      | (go_at_call 22; refine (HWR.out w5 G p v B d H5.out.1).mono ?_; rintro e w6 ⟨rfl, rfl⟩))
    go_ret
    exact ⟨rfl, HEND.out w2 w3 w4 w5 G H2.out.2.1 H2.out.2.2 H3.out.2 H4.out.2 H5.out.2⟩
  have q1 : ¬ num x ≤ num was := by unfold num; omega
  have q2 : decide (num x ≤ num was) = false := decide_eq_false q1
  by_cases h2 : x = ones
  · have hb := hbf rfl h1 h2
    obtain rfl : f = 131 := by rw [hf, hb]
    have h3 : s1 = s0 := by rw [hs1, hb]
    obtain rfl : ct = 0 := by rw [hct, h3, hc0]
    obtain rfl : now = was := by rw [hnow, hwas, hsame h3]
    have q4 : (num x == 4294967295) = true := by simp [ones_num h2]
    clear hbe hbb hbf hdo hb h3 hf hs1 he0 hwas hg hnow hsame hct hc0 h1 h2
    go_enter Try.func6, Try.ntmps6
    go_wp2_with (first
      | (go_at_call 8; refine (awake_any _).mono ?_; rintro e w1 ⟨rfl, hd⟩; have H1 := Lib.hid hd; clear hd)
      | (go_at_call 9; refine (HN.out _ H1.out).mono ?_; rintro e w2 ⟨p, G, v, B, d, rfl, H2⟩)
      | (go_at_call 10; refine (HR0.out w2 G p v B d H2.out.1).mono ?_; rintro e w3 ⟨rfl, H3⟩)
      | (go_at_call 18; refine (HBM.out w3 G p v B d H3.out.1).mono ?_; rintro e w4 ⟨rfl, H4⟩)
      | (go_at_call 10; refine (HR1.out w4 G p v B d H4.out.1).mono ?_; rintro e w5 ⟨rfl, H5⟩)
      | (go_at_call 22; refine (HWR.out w5 G p v B d H5.out.1).mono ?_; rintro e w6 ⟨rfl, rfl⟩))
    go_ret
    exact ⟨rfl, HEND.out w2 w3 w4 w5 G H2.out.2.1 H2.out.2.2 H3.out.2 H4.out.2 H5.out.2⟩
  have q3 := ones_ne h2
  have q4 : (num x == 4294967295) = false := by simp [q3]
  obtain ⟨hf0, hrr⟩ := hdo rfl (by omega) h2
  subst hf0
  clear hbe hbb hbf hdo hf hs1 he0 hwas hsame hct hc0 h1 h2
  by_cases hg1 : g = 131
  · subst hg1
    clear hrr hg hnow
    go_enter Try.func6, Try.ntmps6
    go_wp2_with (first
      | (go_at_call 8; refine (awake_any _).mono ?_; rintro e w1 ⟨rfl, hd⟩; have H1 := Lib.hid hd; clear hd)
      | (go_at_call 9; refine (HN.out _ H1.out).mono ?_; rintro e w2 ⟨p, G, v, B, d, rfl, H2⟩)
      | (go_at_call 10; refine (HR0.out w2 G p v B d H2.out.1).mono ?_; rintro e w3 ⟨rfl, H3⟩)
      | (go_at_call 18; refine (HBM.out w3 G p v B d H3.out.1).mono ?_; rintro e w4 ⟨rfl, H4⟩)
      | (go_at_call 10; refine (HR1.out w4 G p v B d H4.out.1).mono ?_; rintro e w5 ⟨rfl, H5⟩))
    go_ret
    exact ⟨rfl, HEND.out w2 w3 w4 w5 G H2.out.2.1 H2.out.2.2 H3.out.2 H4.out.2 H5.out.2⟩
  · obtain ⟨hg0, hv⟩ : g = 0 ∧ now = x := by rcases hrr with h | h; exact absurd h hg1; exact h
    subst hg0 hv
    clear hrr hg hnow hg1
    go_enter Try.func6, Try.ntmps6
    go_wp2_with (first
      | (go_at_call 8; refine (awake_any _).mono ?_; rintro e w1 ⟨rfl, hd⟩; have H1 := Lib.hid hd; clear hd)
      | (go_at_call 9; refine (HN.out _ H1.out).mono ?_; rintro e w2 ⟨p, G, v, B, d, rfl, H2⟩)
      | (go_at_call 10; refine (HR0.out w2 G p v B d H2.out.1).mono ?_; rintro e w3 ⟨rfl, H3⟩)
      | (go_at_call 18; refine (HBM.out w3 G p v B d H3.out.1).mono ?_; rintro e w4 ⟨rfl, H4⟩)
      | (go_at_call 10; refine (HR1.out w4 G p v B d H4.out.1).mono ?_; rintro e w5 ⟨rfl, H5⟩))
    go_ret
    exact ⟨rfl, HEND.out w2 w3 w4 w5 G H2.out.2.1 H2.out.2.2 H3.out.2 H4.out.2 H5.out.2⟩
end Go.Proofs.Ytpeebdhbcglibaa
