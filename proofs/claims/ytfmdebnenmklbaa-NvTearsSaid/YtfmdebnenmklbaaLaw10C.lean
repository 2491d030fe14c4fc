/- The walk of NvTears. -/
import Derived.Test.YtfmdebnenmklbaaLaw10B
namespace Go.Proofs.Ytfmdebnenmklbaa
open Go.RowKit

attribute [local go_sem] num_and num_or num_andn
set_option maxRecDepth 100000 in
set_option maxHeartbeats 4000000 in
theorem nvTears_walk (A : Option Addr) (c : Nat) (ws : List W32) (n1 : Nat) (i : Int) (n2 : Nat) (w : World) (_hc : ws.length ≤ c ∧ c ≤ maxLen) (hl : Lies w w.heap.size 1 A ws.length (u32s ws)) (hn1 : n1 < 4294967296) (_hi1 : -9223372036854775808 ≤ i) (_hi2 : i ≤ 9223372036854775807) (hn2 : n2 < 4294967296) :
    Calls Try.prog 4 #[.slice A ws.length c, .int .u32 (n1 : Int), .int .i64 i, .int .u32 (n2 : Int)] w fun e w' => e = .returned (.bool true) ∧ Below w.heap.size w w' := by
  obtain ⟨m, hm⟩ := num_ex (z := (n1 : Int)) (by omega) (by omega)
  obtain ⟨x, hx⟩ := num_ex (z := (n2 : Int)) (by omega) (by omega)
  rw [hm, hx]
  clear hn1 hm hn2 hx
  obtain ⟨L, hL⟩ : ∃ L, L = ws.length := ⟨_, rfl⟩
  by_cases h100 : 100 < ws.length
  · have e1 : (100 : Int) < L := by omega
    rw [← hL]
    clear hl h100 hL
    go_enter Try.func4, Try.ntmps4
    go_wp2_with (go_at_call 7; refine (awake_any _).mono ?_; rintro e w1 ⟨rfl, hd⟩; have H1 := Lib.hid hd; clear hd)
    go_ret
    exact ⟨rfl, H1.out⟩
  have e1 : ¬ (100 : Int) < L := by omega
  by_cases hneg : i < 0
  · rw [← hL]
    clear hl h100 hL
    go_enter Try.func4, Try.ntmps4
    go_wp2_with (go_at_call 7; refine (awake_any _).mono ?_; rintro e w1 ⟨rfl, hd⟩; have H1 := Lib.hid hd; clear hd)
    go_ret
    exact ⟨rfl, H1.out⟩
  by_cases hge : (L : Int) ≤ i
  · rw [← hL]
    clear hl h100 hL
    go_enter Try.func4, Try.ntmps4
    go_wp2_with (go_at_call 7; refine (awake_any _).mono ?_; rintro e w1 ⟨rfl, hd⟩; have H1 := Lib.hid hd; clear hd)
    go_ret
    exact ⟨rfl, H1.out⟩
  obtain ⟨k, rfl⟩ := Int.eq_ofNat_of_zero_le (Int.not_lt.1 hneg)
  have hk : k < ws.length := by omega
  obtain ⟨s0, hs0⟩ : ∃ s0 : St, s0 = ⟨ws, [⟨0, m⟩], 0, true⟩ := ⟨_, rfl⟩
  have hit0 : s0.hit = some m := by rw [hs0]; unfold St.hit; simp
  have hw0 : s0.ws = ws := by rw [hs0]
  have ho0 : s0.on = true := by rw [hs0]
  have hc0 : s0.cnt = 0 := by rw [hs0]
  have h2 := wr_hit s0 k x m ho0 (by rw [hw0]; exact hk) hit0
  obtain ⟨s1, hs1⟩ : ∃ s1, s1 = s0.wr (k : Int) x := ⟨_, rfl⟩
  have hs1w : s1.ws = ws.set k (tornW (ws[k]) x m) := by
    rw [hs1, h2.2, hw0, List.getD_eq_getElem?_getD, List.getElem?_eq_getElem hk]; rfl
  have hs1o : s1.on = false := by rw [hs1, h2.2]
  have hs1c : s1.cnt = 0 := by rw [hs1, h2.2]; exact hc0
  have h3 := wr_off s1 (k : Int) x hs1o
  have HN : Hid (∀ W a, W.heap[a]? = some (.cells #[.int .i64 0, .int .u32 (num m)] 44 (0, 0)) → Below w.heap.size w W → Calls Try.prog 8 #[.slice A L c, .slice (some ⟨a, 0, none⟩) 1 1] W fun e w' => ∃ p G v B d, e = .returned (.pointer (some ⟨p, 0, none⟩)) ∧ Hid (NC w' G p s0 v B d ∧ (∀ i, G i → w.heap.size ≤ i) ∧ Below w.heap.size w w')) := Lib.hid fun W a hb hW => by
    rw [hL, hs0]
    have hb2 : Blk W a 44 (cellsC [⟨0, m⟩]).toArray := hb
    refine (new_any A c ws (by omega) (some ⟨a, 0, none⟩) 1 [⟨0, m⟩] (by simp) (fun x hx => by rw [List.mem_singleton.1 hx]; exact ⟨by simp only; omega, by simp only; omega⟩) W ((hl.below hW).wide hW.size) (blk_liesC hb2)).mono ?_
    rintro e w' ⟨p, G, v, B, d, rfl, h1, h2, _, h3⟩
    exact ⟨p, G, v, B, d, rfl, Lib.hid ⟨h1, fun i hi => Nat.le_trans hW.size (h2 i hi), hW.trans (h3.mono hW.size)⟩⟩
  have HW : Hid (∀ w1 G p v B d, NC w1 G p s0 v B d → Calls Try.prog 9 #[.pointer (some ⟨p, 0, none⟩), .int .i64 (k : Int), .int .u32 (num x)] w1 fun e w' => e = .returned (.int .i64 100) ∧ Hid (NC w' G p s1 v B d ∧ Turn G w1 w')) := Lib.hid fun w1 G p v B d h => by
    have := write_any h (by omega) (k : Int) x
    unfold WrPost at this
    rw [h2.1, ← hs1] at this
    exact this.mono fun e w' ⟨h1, h2, h3⟩ => ⟨h1, Lib.hid ⟨h2, h3⟩⟩
  have HW2 : Hid (∀ w1 G p v B d, NC w1 G p s1 v B d → Calls Try.prog 9 #[.pointer (some ⟨p, 0, none⟩), .int .i64 (k : Int), .int .u32 (num x)] w1 fun e w' => e = .returned (.int .i64 100) ∧ Hid (Turn G w1 w')) := Lib.hid fun w1 G p v B d h => by
    have := write_any h (by omega) (k : Int) x
    unfold WrPost at this
    rw [h3.1] at this
    exact this.mono fun e w' ⟨h1, _, h3⟩ => ⟨h1, Lib.hid h3⟩
  have HWD : Hid (∀ w1 G p v B d, NC w1 G p s1 v B d → Calls Try.prog 18 #[.pointer (some ⟨p, 0, none⟩)] w1 fun e w' => ∃ B2 d2, e = .returned (.slice B2 L d2) ∧ Hid (Lies w' w'.heap.size 1 B2 s1.ws.length (u32s s1.ws) ∧ Below w1.heap.size w1 w')) := Lib.hid fun w1 G p v B d h => by
    have hlen : s1.ws.length = L := by rw [hs1w, List.length_set, hL]
    refine (words_any h (by omega)).mono ?_
    rintro e w' ⟨B2, d2, rfl, h1, h2⟩
    exact ⟨B2, d2, by rw [hlen], Lib.hid ⟨h1, h2⟩⟩
  have HD : Hid (∀ w1 G p v B d, NC w1 G p s1 v B d → Calls Try.prog 15 #[.pointer (some ⟨p, 0, none⟩)] w1 fun e w' => e = .returned (.bool true) ∧ w1 = w') := Lib.hid fun w1 G p v B d h => by
    have := dead_any h
    rw [hs1o] at this
    exact this
  have HEND : Hid (∀ w1 w2 G, (∀ i, G i → w.heap.size ≤ i) → Below w.heap.size w w1 → Turn G w1 w2 → Below w.heap.size w w2) := Lib.hid fun w1 w2 G hg h1 h2 => h1.trans (h2.below hg h1.size)
  have HL := Lib.hid hl
  have HS := Lib.hid (And.intro hs1w (And.intro hL hk))
  have hbc := build_cut 0 (num m)
  have hgeN : ¬ (L : Int) ≤ (k : Int) := hge
  rw [← hL]
  clear hl h100 hs0 hit0 hw0 ho0 hc0 h2 hs1 hs1w hs1o hs1c h3 hL hge
  go_enter Try.func4, Try.ntmps4
  go_wp2_with (first
    | (go_at_call 7; refine (awake_any _).mono ?_; rintro e w1 ⟨rfl, hd⟩; have H1 := Lib.hid hd; clear hd)
    | (go_at_call 8; refine (HN.out _ w1.heap.size (heap_alloc_new _ _) (H1.out.alloc H1.out.size _)).mono ?_; rintro e w2 ⟨p, G, v, B, d, rfl, H2⟩; clear hbc)
    | (go_at_call 9; refine (HW.out _ G p v B d H2.out.1).mono ?_; rintro e w3 ⟨rfl, H3⟩)
    | (go_at_call 18; refine (HWD.out _ G p v B d H3.out.1).mono ?_; rintro e w4 ⟨B2, d2, rfl, H4⟩)
    | (go_at_call 15; refine (HD.out _ G p v B d (H3.out.1.under H4.out.2)).mono ?_; rintro e w5 ⟨rfl, rfl⟩))
  have HB4 : Hid (Below w.heap.size w w4) := Lib.hid (by
    have h3 := HEND.out _ _ G H2.out.2.1 H2.out.2.2 H3.out.2
    exact h3.trans (H4.out.2.mono h3.size))
  clear HN HW
  go_loopw [56] (fun vi wr => ∃ q : Nat, q ≤ L ∧ vi = .int .i64 q ∧ Hid (w4 = wr)) (fun vi _ => L - (intOf vi).toNat)
  case atStart => exact ⟨0, Nat.zero_le _, rfl, Lib.hid rfl⟩
  case round =>
    obtain ⟨q, hq, rfl, hR⟩ := hrel
    obtain rfl := hR.out
    clear hR
    by_cases hlt : q < L
    · have hq2 : q < ws.length := by have := HS.out.2.1; omega
      obtain ⟨a, rfl, hca⟩ := u32_lies (HL.out.below HB4.out) hq2
      obtain ⟨b, rfl, hcb⟩ := u32_lies H4.out.1 (k := q) (by rw [HS.out.1, List.length_set]; exact hq2)
      simp only [HS.out.1] at hcb
      have HK := Lib.hid hlt
      have h0 : (q : Int) < (L : Int) := by omega
      by_cases hqk : q = k
      · subst hqk
        rw [List.getElem_set_self] at hcb
        obtain ⟨y, hy⟩ : ∃ y, ws[q] = y := ⟨_, rfl⟩
        rw [hy] at hca hcb
        unfold tornW at hcb
        clear hy hq hq2
        go_wp2
        go_roundw
        case rel => exact ⟨q + 1, HK.out, by go_num, Lib.hid (by first | trivial | rfl)⟩
        case measure => have := HK.out; simp [intOf]; omega
      · rw [List.getElem_set_ne (Ne.symm hqk)] at hcb
        obtain ⟨y, hy⟩ : ∃ y, ws[q] = y := ⟨_, rfl⟩
        rw [hy] at hca hcb
        have hqk2 : ((q : Int) == (k : Int)) = false := by simp; omega
        have hqk3 : ¬ ((q : Int) = (k : Int)) := by omega
        clear hy hq hq2
        go_wp2
        go_roundw
        case rel => exact ⟨q + 1, HK.out, by go_num, Lib.hid (by first | trivial | rfl)⟩
        case measure => have := HK.out; simp [intOf]; omega
    · obtain rfl : q = L := by omega
      clear hlt hq
      go_wp2_with (go_at_call 9; refine (HW2.out _ G p v B d (H3.out.1.under H4.out.2)).mono ?_; rintro e w6 ⟨rfl, H6⟩)
      go_ret
      exact ⟨rfl, HEND.out _ _ G H2.out.2.1 HB4.out H6.out⟩
end Go.Proofs.Ytfmdebnenmklbaa
