/- The walk of CtrFormats. -/
import Derived.Test.YtpeebdhbcglibaaAwake13
import Derived.Test.YtpeebdhbcglibaaRcf
import Derived.Test.YtpeebdhbcglibaaRnv
namespace Go.Proofs.Ytpeebdhbcglibaa
open Go.RowKit

theorem fmt_at (vs : List W32) (j : Nat) (hj : j < 8) : ∀ n k, k < n → (fmtL vs n).getD (8 * k + j) 0 = (fmt1 k (vs.getD k 0)).getD j 0
  | 0, _, h => absurd h (Nat.not_lt_zero _)
  | n + 1, k, h => by
    have hl := fmtL_len vs n
    have h8 : ∀ v, (fmt1 k v).length = 8 := fun v => rfl
    rw [fmtL_succ, List.getD_eq_getElem?_getD, List.getD_eq_getElem?_getD]
    by_cases e : k < n
    · have ih := fmt_at vs j hj n k e
      rw [List.getD_eq_getElem?_getD, List.getD_eq_getElem?_getD] at ih
      rw [List.getElem?_append_left (by omega)]
      exact ih
    · obtain rfl : k = n := by omega
      rw [List.getElem?_append_right (by omega), hl]
      rw [show 8 * k + j - 8 * k = j by omega]
      simp only [List.getD_eq_getElem?_getD]
theorem rv_fmt (vs : List W32) (n k : Nat) (h : k < n) : rv (fmtL vs n) (k : Int) = if vs.getD k 0 = ones then ⟨131, false, 0, 0⟩ else ⟨0, false, 1, vs.getD k 0⟩ := by
  obtain ⟨v, hv⟩ : ∃ v, v = vs.getD k 0 := ⟨_, rfl⟩
  have hat : ∀ j, j < 8 → (fmtL vs n).getD (8 * k + j) 0 = (fmt1 k v).getD j 0 := fun j hj => by rw [hv]; exact fmt_at vs j hj n k h
  rw [rv_at _ _ (by rw [fmtL_len]; omega), ← hv]
  have hf : ∀ i, i < 4 → slotF (fmtL vs n) k 0 i = recW (idW k) 1 v i := fun i hi => by
    have h1 := hat i (by omega)
    show (fmtL vs n).getD (8 * k + 4 * 0 + i) 0 = _
    rw [show 8 * k + 4 * 0 + i = 8 * k + i by omega, h1]
    match i, hi with
    | 0, _ => rfl
    | 1, _ => rfl
    | 2, _ => rfl
    | 3, _ => rfl
  have hg : slotF (fmtL vs n) k 1 0 = 0 := by
    have h1 := hat 4 (by omega)
    show (fmtL vs n).getD (8 * k + 4 * 1 + 0) 0 = _
    rw [show 8 * k + 4 * 1 + 0 = 8 * k + 4 by omega, h1]
    rfl
  have r1 : isRec (idW k) (slotF (fmtL vs n) k 0) = true := (isRec_congr _ hf).trans (isRec_rec _ _ _)
  have r2 : ¬ isRec (idW k) (slotF (fmtL vs n) k 1) = true := fun h => by
    have := ((isRec_iff _ _).1 h).1
    rw [hg] at this
    exact mark_ne this
  have ht : top2 (idW k) (slotF (fmtL vs n) k 0) (slotF (fmtL vs n) k 1) = some false := by
    unfold top2; rw [if_pos r1, if_neg r2]
  unfold rvOf
  rw [ht]
  simp only [cond_false]
  rw [hf 1 (by decide), hf 2 (by decide)]
  have h1 : recW (idW k) 1 v 1 = 1 := rfl
  have h2 : recW (idW k) 1 v 2 = v := rfl
  have h3 : ¬ (1 : W32) = ones := by decide
  rw [h1, h2]
  by_cases e : v = ones
  · rw [if_pos (.inr e), if_pos e]
  · rw [if_neg (by rintro (h | h); exact h3 h; exact e h), if_neg e]
set_option maxRecDepth 100000 in
set_option maxHeartbeats 4000000 in
theorem ctrFormats_walk (A : Option Addr) (c : Nat) (vs : List W32) (w : World) (_hc : vs.length ≤ c ∧ c ≤ maxLen) (hl : Lies w w.heap.size 1 A vs.length (u32s vs)) :
    Calls Try.prog 7 #[.slice A vs.length c] w fun e w' => e = .returned (.bool true) ∧ Below w.heap.size w w' := by
  by_cases h50 : 50 < vs.length
  · have e1 : (50 : Int) < vs.length := by omega
    clear hl h50
    go_enter Try.func7, Try.ntmps7
    go_wp2_with (go_at_call 8; refine (awake_any _).mono ?_; rintro e w1 ⟨rfl, hd⟩; have H1 := Lib.hid hd; clear hd)
    go_ret
    exact ⟨rfl, H1.out⟩
  have e1 : ¬ (50 : Int) < vs.length := by omega
  obtain ⟨n, hn⟩ : ∃ n, n = vs.length := ⟨_, rfl⟩
  obtain ⟨M, hM⟩ : ∃ M, M = 8 * n := ⟨_, rfl⟩
  obtain ⟨fl, hfl⟩ : ∃ fl, fl = fmtL vs n := ⟨_, rfl⟩
  have hfM : fl.length = M := by rw [hfl, fmtL_len, hM]
  obtain ⟨s0, hs0⟩ : ∃ s0 : St, s0 = ⟨fl, [], 0, true⟩ := ⟨_, rfl⟩
  have hw0 : s0.ws = fl := by rw [hs0]
  have HLV : Hid (∀ W, Below w.heap.size w W → Lies W W.heap.size 1 A vs.length (u32s vs)) := Lib.hid fun W hW => (hl.below hW).wide hW.size
  have HLV0 : Hid (∀ W, Below w.heap.size w W → Lies W w.heap.size 1 A vs.length (u32s vs)) := Lib.hid fun W hW => hl.below hW
  have HF : Hid (∀ W, Below w.heap.size w W → Calls Try.prog 23 #[.slice A n c] W fun e w' => ∃ B d, e = .returned (.slice B M d) ∧ Hid (Lies w' w'.heap.size 1 B fl.length (u32s fl) ∧ Below W.heap.size W w')) := Lib.hid fun W hW => by
    rw [hM, hn]
    refine (format_any A c vs (by omega) W (HLV.out W hW)).mono ?_
    rintro e w' ⟨B, d, rfl, _, h2, h3⟩
    rw [← hn, ← hM, ← hfl] at h2
    exact ⟨B, d, rfl, Lib.hid ⟨by rw [hfM]; exact h2, h3⟩⟩
  have HRF : Hid (∀ W, Below w.heap.size w W → Calls Try.prog 24 #[.slice A n c] W fun e w' => ∃ B d, e = .returned (.slice B M d) ∧ Hid (Lies w' w'.heap.size 1 B fl.length (u32s fl) ∧ Below W.heap.size W w')) := Lib.hid fun W hW => by
    rw [hM, hn]
    refine (rformat_any A c vs (by omega) W (HLV.out W hW)).mono ?_
    rintro e w' ⟨B, d, rfl, _, h2, h3⟩
    rw [← hn, ← hM, ← hfl] at h2
    exact ⟨B, d, rfl, Lib.hid ⟨by rw [hfM]; exact h2, h3⟩⟩
  have HN : Hid (∀ W B d, Lies W W.heap.size 1 B fl.length (u32s fl) → Calls Try.prog 9 #[.slice B M d, .slice none 0 0] W fun e w' => ∃ p G v B d, e = .returned (.pointer (some ⟨p, 0, none⟩)) ∧ Hid (NC w' G p s0 v B d ∧ Below W.heap.size W w')) := Lib.hid fun W B d h => by
    rw [← hfM, hs0]
    refine (new_none B d fl (by omega) W h).mono ?_
    rintro e w' ⟨p, G, v, B, d, rfl, h1, h2, _, h3⟩
    exact ⟨p, G, v, B, d, rfl, Lib.hid ⟨h1, h3⟩⟩
  have HR : Hid (∀ (k : Nat) W G p v B d, k < n → NC W G p s0 v B d → Calls Try.prog 10 #[.pointer (some ⟨p, 0, none⟩), .int .i64 (k : Int)] W fun e w' => (∃ y, (if vs.getD k 0 = ones then y = (⟨131, false, 0, 0⟩ : Rv) else y = ⟨0, false, 1, vs.getD k 0⟩) ∧ e = .returned (.tuple #[.int .u32 (num y.val), .int .i64 (y.err : Int)])) ∧ Below W.heap.size W w') := Lib.hid fun k W G p v B d hk h => by
    have := recover_any h (by rw [hw0, hfM]; omega) (k : Int) _ rfl
    refine this.mono fun e w' ⟨h1, h2⟩ => ⟨⟨_, ?_, h1⟩, h2⟩
    rw [hw0, hfl, rv_fmt vs n k hk]
    split <;> rfl
  have HCT : Hid (∀ W G p v B d, NC W G p s0 v B d → Calls Try.prog 12 #[.pointer (some ⟨p, 0, none⟩)] W fun e w' => e = .returned (.int .i64 (n : Int)) ∧ W = w') := Lib.hid fun W G p v B d h => by
    have := cnt_any h (by rw [hw0, hfM]; omega)
    rw [hw0, hfM, hM, show 8 * n / 8 = n by omega] at this
    exact this
  have HSW : Hid (∀ W B d B2 d2, Lies W W.heap.size 1 B fl.length (u32s fl) → Lies W W.heap.size 1 B2 fl.length (u32s fl) → Calls Try.prog 20 #[.slice B M d, .slice B2 M d2] W fun e w' => e = .returned (.bool true) ∧ Below W.heap.size W w') := Lib.hid fun W B d B2 d2 h1 h2 => by
    have := samew_any B B2 d d2 fl W (by omega) h1 h2
    rw [hfM] at this
    exact this
  have HNV := Lib.hid hn
  rw [← hn] at e1 ⊢
  have hn50 : n ≤ 50 := by omega
  clear hl h50 hn hM hfl hfM hs0 hw0
  go_enter Try.func7, Try.ntmps7
  go_upto_region 8 with (first
    | (go_at_call 8; refine (awake_any _).mono ?_; rintro e w1 ⟨rfl, hd⟩; have H1 := Lib.hid hd; clear hd)
    | (go_at_call 23; refine (HF.out _ H1.out).mono ?_; rintro e w2 ⟨B, d, rfl, H2⟩)
    | (go_at_call 9; refine (HN.out w2 B d H2.out.1).mono ?_; rintro e w3 ⟨p, G, v, B3, d3, rfl, H3⟩))
  have HB3 : Hid (Below w.heap.size w w3) := Lib.hid (by
    have h2 := H1.out.trans (H2.out.2.mono H1.out.size)
    exact h2.trans (H3.out.2.mono h2.size))
  have HI0 : Hid (Below w.heap.size w w3 ∧ NC w3 G p s0 v B3 d3 ∧ Lies w3 w3.heap.size 1 B fl.length (u32s fl)) := Lib.hid ⟨HB3.out, H3.out.1, (H2.out.1.below H3.out.2).wide H3.out.2.size⟩
  clear H2 H3 HB3 H1
  go_wp2_with fail
  go_loopw [20] (fun vi wr => ∃ k : Nat, k ≤ n ∧ vi = .int .i64 k ∧ Hid (Below w.heap.size w wr ∧ NC wr G p s0 v B3 d3 ∧ Lies wr wr.heap.size 1 B fl.length (u32s fl))) (fun vi _ => n - (intOf vi).toNat)
  case atStart => exact ⟨0, Nat.zero_le _, rfl, HI0⟩
  case round =>
    obtain ⟨k, hk, rfl, hI⟩ := hrel
    clear HI0
    by_cases hlt : k < n
    · have hlt2 : k < vs.length := by have := HNV.out; omega
      obtain ⟨a, rfl, hca⟩ := u32_at (HLV0.out _ hI.out.1) hlt2
      obtain ⟨x, hx⟩ : ∃ x, vs[k] = x := ⟨_, rfl⟩
      have hgd : vs.getD k 0 = x := by rw [List.getD_eq_getElem?_getD, List.getElem?_eq_getElem hlt2, ← hx]; rfl
      rw [hx] at hca
      have HR1 := Lib.hid (HR.out k wr G p v B3 d3 hlt hI.out.2.1)
      rw [hgd] at HR1
      have HK := Lib.hid hlt
      have HT : Hid (∀ W, Below wr.heap.size wr W → Below w.heap.size w W ∧ NC W G p s0 v B3 d3 ∧ Lies W W.heap.size 1 B fl.length (u32s fl)) := Lib.hid fun W hW => ⟨hI.out.1.trans (hW.mono hI.out.1.size), hI.out.2.1.under hW, (hI.out.2.2.below hW).wide hW.size⟩
      have hk0 : (k : Int) < (n : Int) := by omega
      clear hlt2 hx hgd hlt hI hk
      by_cases hv : x = ones
      · have q1 := ones_num hv
        have q2 : (num x == 4294967295) = true := by simp [q1]
        have q3 : (num x != 4294967295) = false := by simp [q1]
        have HR2 : Hid (Calls Try.prog 10 #[.pointer (some ⟨p, 0, none⟩), .int .i64 (k : Int)] wr fun e w' => e = .returned (.tuple #[.int .u32 0, .int .i64 131]) ∧ Below wr.heap.size wr w') := Lib.hid (HR1.out.mono fun e w' ⟨⟨y, h1, h2⟩, h3⟩ => by
          rw [if_pos hv] at h1
          subst h1
          exact ⟨h2, h3⟩)
        clear hv q1 HR1
        go_wp2_with (go_at_call 10; refine HR2.out.mono ?_; rintro e w4 ⟨rfl, hd⟩; have H4 := Lib.hid hd; clear hd)
        go_roundw
        case rel => exact ⟨k + 1, HK.out, by go_num, Lib.hid (HT.out _ H4.out)⟩
        case measure => have := HK.out; simp [intOf]; omega
      · have q1 := ones_ne hv
        have q2 : (num x == 4294967295) = false := by simp [q1]
        have q3 : (num x != 4294967295) = true := by simp [q1]
        have HR2 : Hid (Calls Try.prog 10 #[.pointer (some ⟨p, 0, none⟩), .int .i64 (k : Int)] wr fun e w' => e = .returned (.tuple #[.int .u32 (num x), .int .i64 0]) ∧ Below wr.heap.size wr w') := Lib.hid (HR1.out.mono fun e w' ⟨⟨y, h1, h2⟩, h3⟩ => by
          rw [if_neg hv] at h1
          subst h1
          exact ⟨h2, h3⟩)
        clear hv HR1
        go_wp2_with (go_at_call 10; refine HR2.out.mono ?_; rintro e w4 ⟨rfl, hd⟩; have H4 := Lib.hid hd; clear hd)
        go_roundw
        case rel => exact ⟨k + 1, HK.out, by go_num, Lib.hid (HT.out _ H4.out)⟩
        case measure => have := HK.out; simp [intOf]; omega
    · obtain rfl : k = n := by omega
      clear hlt hk
      go_wp2_with (first
        | (go_at_call 24; refine (HRF.out _ hI.out.1).mono ?_; rintro e w5 ⟨B5, d5, rfl, H5⟩)
        | (go_at_call 20; refine (HSW.out w5 B d B5 d5 ((hI.out.2.2.below H5.out.2).wide H5.out.2.size) H5.out.1).mono ?_; rintro e w6 ⟨rfl, hd⟩; have H6 := Lib.hid hd; clear hd)
        | (go_at_call 12; refine (HCT.out w6 G p v B3 d3 ((hI.out.2.1.under H5.out.2).under H6.out)).mono ?_; rintro e w7 ⟨rfl, rfl⟩))
      go_ret
      have h5 := hI.out.1.trans (H5.out.2.mono hI.out.1.size)
      exact ⟨rfl, h5.trans (H6.out.mono h5.size)⟩
end Go.Proofs.Ytpeebdhbcglibaa
