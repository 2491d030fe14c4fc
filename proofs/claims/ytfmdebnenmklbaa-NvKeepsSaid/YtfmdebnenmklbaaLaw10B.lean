/- The walk of NvKeeps. -/
import Derived.Test.YtfmdebnenmklbaaAwake10
namespace Go.Proofs.Ytfmdebnenmklbaa
open Go.RowKit

theorem new_none (A : Option Addr) (c : Nat) (ws : List W32) (hl : ws.length ≤ 1000000) (w : World) (hA : Lies w w.heap.size 1 A ws.length (u32s ws)) :
    Calls Try.prog 8 #[.slice A ws.length c, .slice none 0 0] w (NewP w ws []) := by
  have := new_any A c ws hl none 0 [] (by decide) (fun x hx => by cases hx) w hA (Lies.nil _ _ _ _)
  exact this
theorem rdV_no {s : St} {i : Int} (h : ¬ (0 ≤ i ∧ i < (s.ws.length : Int))) : rdV s i = .tuple #[.int .u32 0, .int .i64 1] := by unfold rdV; rw [if_neg h]
theorem rdV_at {s : St} {k : Nat} (h : k < s.ws.length) : rdV s (k : Int) = .tuple #[.int .u32 (num s.ws[k]), .int .i64 0] := by
  unfold rdV
  rw [if_pos ⟨by omega, by omega⟩, Int.toNat_natCast, List.getD_eq_getElem?_getD, List.getElem?_eq_getElem h]; rfl
set_option maxRecDepth 100000 in
set_option maxHeartbeats 4000000 in
theorem nvKeeps_walk (A : Option Addr) (c : Nat) (ws : List W32) (i : Int) (n : Nat) (j : Int) (w : World) (_hc : ws.length ≤ c ∧ c ≤ maxLen) (hl : Lies w w.heap.size 1 A ws.length (u32s ws)) (_hi1 : -9223372036854775808 ≤ i) (_hi2 : i ≤ 9223372036854775807) (hn : n < 4294967296) (_hj1 : -9223372036854775808 ≤ j) (_hj2 : j ≤ 9223372036854775807) :
    Calls Try.prog 5 #[.slice A ws.length c, .int .i64 i, .int .u32 (n : Int), .int .i64 j] w fun e w' => e = .returned (.bool true) ∧ Below w.heap.size w w' := by
  obtain ⟨x, hx⟩ := num_ex (z := (n : Int)) (by omega) (by omega)
  rw [hx]
  clear hn hx
  by_cases h100 : 100 < ws.length
  · have e1 : (100 : Int) < ws.length := by omega
    clear hl h100
    go_enter Try.func5, Try.ntmps5
    go_wp2_with (go_at_call 7; refine (awake_any _).mono ?_; rintro e w1 ⟨rfl, hd⟩; have H1 := Lib.hid hd; clear hd)
    go_ret
    exact ⟨rfl, H1.out⟩
  have e1 : ¬ (100 : Int) < ws.length := by omega
  obtain ⟨s0, hs0⟩ : ∃ s0 : St, s0 = ⟨ws, [], 0, true⟩ := ⟨_, rfl⟩
  obtain ⟨L, hL⟩ : ∃ L, L = ws.length := ⟨_, rfl⟩
  have hit0 : s0.hit = none := by rw [hs0]; rfl
  have hw0 : s0.ws = ws := by rw [hs0]
  have ho0 : s0.on = true := by rw [hs0]
  have hc0 : s0.cnt = 0 := by rw [hs0]
  have HN : Hid (∀ W, Below w.heap.size w W → Calls Try.prog 8 #[.slice A L c, .slice none 0 0] W fun e w' => ∃ p G v B d, e = .returned (.pointer (some ⟨p, 0, none⟩)) ∧ Hid (NC w' G p s0 v B d ∧ (∀ i, G i → w.heap.size ≤ i) ∧ Below w.heap.size w w')) := Lib.hid fun W hW => by
    rw [hL, hs0]
    refine (new_none A c ws (by omega) W ((hl.below hW).wide hW.size)).mono ?_
    rintro e w' ⟨p, G, v, B, d, rfl, h1, h2, _, h3⟩
    exact ⟨p, G, v, B, d, rfl, Lib.hid ⟨h1, fun i hi => Nat.le_trans hW.size (h2 i hi), hW.trans (h3.mono hW.size)⟩⟩
  obtain ⟨s1, hs1⟩ : ∃ s1, s1 = s0.wr i x := ⟨_, rfl⟩
  obtain ⟨E, hE⟩ : ∃ E, E = s0.wrE i := ⟨_, rfl⟩
  have HW : Hid (∀ w1 G p v B d, NC w1 G p s0 v B d → Calls Try.prog 9 #[.pointer (some ⟨p, 0, none⟩), .int .i64 i, .int .u32 (num x)] w1 fun e w' => e = .returned (.int .i64 (E : Int)) ∧ Hid (NC w' G p s1 v B d ∧ Turn G w1 w')) := Lib.hid fun w1 G p v B d h => by
    rw [hE, hs1]
    exact (write_any h (by omega) i x).mono fun e w' ⟨h1, h2, h3⟩ => ⟨h1, Lib.hid ⟨h2, h3⟩⟩
  obtain ⟨ct, hct⟩ : ∃ ct, ct = s1.cnt := ⟨_, rfl⟩
  have HWR : Hid (∀ w1 G p v B d, NC w1 G p s1 v B d → Calls Try.prog 14 #[.pointer (some ⟨p, 0, none⟩)] w1 fun e w' => e = .returned (.int .i64 (ct : Int)) ∧ w1 = w') := Lib.hid fun w1 G p v B d h => by
    rw [hct]
    exact writes_any h
  have HEND : Hid (∀ w1 w2 G, (∀ i, G i → w.heap.size ≤ i) → Below w.heap.size w w1 → Turn G w1 w2 → Below w.heap.size w w2) := Lib.hid fun w1 w2 G hg h1 h2 => h1.trans (h2.below hg h1.size)
  by_cases hi : 0 ≤ i ∧ i < (ws.length : Int)
  case neg =>
    have h2 := wr_out s0 i x ho0 (by rw [hw0]; exact hi)
    have hE1 : E = 1 := by rw [hE]; exact h2.1
    have hc1 : ct = 0 := by rw [hct, hs1, h2.2]; exact hc0
    subst hE1 hc1
    rw [← hL] at hi e1 ⊢
    by_cases hneg : i < 0
    · clear hl h100 hs0 hL hit0 hw0 ho0 hc0 hs1 hE hct h2 hi
      go_enter Try.func5, Try.ntmps5
      go_wp2_with (first
        | (go_at_call 7; refine (awake_any _).mono ?_; rintro e w1 ⟨rfl, hd⟩; have H1 := Lib.hid hd; clear hd)
        | (go_at_call 8; refine (HN.out _ H1.out).mono ?_; rintro e w2 ⟨p, G, v, B, d, rfl, H2⟩)
        | (go_at_call 9; refine (HW.out _ G p v B d H2.out.1).mono ?_; rintro e w3 ⟨rfl, H3⟩)
        | (go_at_call 14; refine (HWR.out _ G p v B d H3.out.1).mono ?_; rintro e w4 ⟨rfl, rfl⟩))
      go_ret
      exact ⟨rfl, HEND.out _ _ G H2.out.2.1 H2.out.2.2 H3.out.2⟩
    · have hge : (L : Int) ≤ i := by omega
      clear hl h100 hs0 hL hit0 hw0 ho0 hc0 hs1 hE hct h2 hi hneg
      have hneg : ¬ i < 0 := by omega
      go_enter Try.func5, Try.ntmps5
      go_wp2_with (first
        | (go_at_call 7; refine (awake_any _).mono ?_; rintro e w1 ⟨rfl, hd⟩; have H1 := Lib.hid hd; clear hd)
        | (go_at_call 8; refine (HN.out _ H1.out).mono ?_; rintro e w2 ⟨p, G, v, B, d, rfl, H2⟩)
        | (go_at_call 9; refine (HW.out _ G p v B d H2.out.1).mono ?_; rintro e w3 ⟨rfl, H3⟩)
        | (go_at_call 14; refine (HWR.out _ G p v B d H3.out.1).mono ?_; rintro e w4 ⟨rfl, rfl⟩))
      go_ret
      exact ⟨rfl, HEND.out _ _ G H2.out.2.1 H2.out.2.2 H3.out.2⟩
  obtain ⟨k, rfl⟩ := Int.eq_ofNat_of_zero_le hi.1
  have hk : k < ws.length := by omega
  have h2 := wr_ok s0 k x ho0 (by rw [hw0]; exact hk) hit0
  have hs1w : s1.ws = ws.set k x := by rw [hs1, h2.2, ← hw0]
  have hE1 : E = 0 := by rw [hE]; exact h2.1
  have hc1 : ct = 1 := by rw [hct, hs1, h2.2, hc0]
  subst hE1 hc1
  have HR1 : Hid (∀ w1 G p v B d, NC w1 G p s1 v B d → Calls Try.prog 11 #[.pointer (some ⟨p, 0, none⟩), .int .i64 (k : Int)] w1 fun e w' => e = .returned (.tuple #[.int .u32 (num x), .int .i64 0]) ∧ w1 = w') := Lib.hid fun w1 G p v B d h => by
    have := read_any h (k : Int)
    rw [rdV_at (by rw [hs1w, List.length_set]; exact hk)] at this
    simp only [hs1w, List.getElem_set_self] at this
    exact this
  have hkL : ¬ ((L : Int) ≤ (k : Int)) := by omega
  have hk0 : ¬ ((k : Int) < 0) := by omega
  by_cases hj : 0 ≤ j ∧ j < (ws.length : Int)
  case neg =>
    have HR2 : Hid (∀ w1 G p v B d, NC w1 G p s1 v B d → Calls Try.prog 11 #[.pointer (some ⟨p, 0, none⟩), .int .i64 j] w1 fun e w' => e = .returned (.tuple #[.int .u32 0, .int .i64 1]) ∧ w1 = w') := Lib.hid fun w1 G p v B d h => by
      have := read_any h j
      rw [rdV_no (by rw [hs1w, List.length_set]; exact hj)] at this
      exact this
    rw [← hL] at hj e1 ⊢
    by_cases hneg : j < 0
    · clear hl h100 hs0 hL hit0 hw0 ho0 hc0 hs1 hE hct h2 hi hj hk hs1w
      go_enter Try.func5, Try.ntmps5
      go_wp2_with (first
        | (go_at_call 7; refine (awake_any _).mono ?_; rintro e w1 ⟨rfl, hd⟩; have H1 := Lib.hid hd; clear hd)
        | (go_at_call 8; refine (HN.out _ H1.out).mono ?_; rintro e w2 ⟨p, G, v, B, d, rfl, H2⟩)
        | (go_at_call 9; refine (HW.out _ G p v B d H2.out.1).mono ?_; rintro e w3 ⟨rfl, H3⟩)
        | (go_at_call 14; refine (HWR.out _ G p v B d H3.out.1).mono ?_; rintro e w4 ⟨rfl, rfl⟩)
        | (go_at_call 11; (with_reducible show Calls _ _ #[_, .int .i64 (k : Int)] _ _); refine (HR1.out _ G p v B d H3.out.1).mono ?_; rintro e w5 ⟨rfl, rfl⟩)
        | (go_at_call 11; (with_reducible show Calls _ _ #[_, .int .i64 j] _ _); refine (HR2.out _ G p v B d H3.out.1).mono ?_; rintro e w6 ⟨rfl, rfl⟩))
      go_ret
      exact ⟨rfl, HEND.out _ _ G H2.out.2.1 H2.out.2.2 H3.out.2⟩
    · have hge : (L : Int) ≤ j := by omega
      clear hl h100 hs0 hL hit0 hw0 ho0 hc0 hs1 hE hct h2 hi hj hk hs1w
      go_enter Try.func5, Try.ntmps5
      go_wp2_with (first
        | (go_at_call 7; refine (awake_any _).mono ?_; rintro e w1 ⟨rfl, hd⟩; have H1 := Lib.hid hd; clear hd)
        | (go_at_call 8; refine (HN.out _ H1.out).mono ?_; rintro e w2 ⟨p, G, v, B, d, rfl, H2⟩)
        | (go_at_call 9; refine (HW.out _ G p v B d H2.out.1).mono ?_; rintro e w3 ⟨rfl, H3⟩)
        | (go_at_call 14; refine (HWR.out _ G p v B d H3.out.1).mono ?_; rintro e w4 ⟨rfl, rfl⟩)
        | (go_at_call 11; (with_reducible show Calls _ _ #[_, .int .i64 (k : Int)] _ _); refine (HR1.out _ G p v B d H3.out.1).mono ?_; rintro e w5 ⟨rfl, rfl⟩)
        | (go_at_call 11; (with_reducible show Calls _ _ #[_, .int .i64 j] _ _); refine (HR2.out _ G p v B d H3.out.1).mono ?_; rintro e w6 ⟨rfl, rfl⟩))
      go_ret
      exact ⟨rfl, HEND.out _ _ G H2.out.2.1 H2.out.2.2 H3.out.2⟩
  obtain ⟨q, rfl⟩ := Int.eq_ofNat_of_zero_le hj.1
  have hq : q < ws.length := by omega
  have hqL : ¬ ((L : Int) ≤ (q : Int)) := by omega
  have hq0 : ¬ ((q : Int) < 0) := by omega
  by_cases hqk : q = k
  · subst hqk
    rw [← hL] at e1 ⊢
    clear hl h100 hs0 hL hit0 hw0 ho0 hc0 hs1 hE hct h2 hi hj hk hs1w hq hqL hq0
    go_enter Try.func5, Try.ntmps5
    go_wp2_with (first
      | (go_at_call 7; refine (awake_any _).mono ?_; rintro e w1 ⟨rfl, hd⟩; have H1 := Lib.hid hd; clear hd)
      | (go_at_call 8; refine (HN.out _ H1.out).mono ?_; rintro e w2 ⟨p, G, v, B, d, rfl, H2⟩)
      | (go_at_call 9; refine (HW.out _ G p v B d H2.out.1).mono ?_; rintro e w3 ⟨rfl, H3⟩)
      | (go_at_call 14; refine (HWR.out _ G p v B d H3.out.1).mono ?_; rintro e w4 ⟨rfl, rfl⟩)
      | (go_at_call 11; (with_reducible show Calls _ _ #[_, .int .i64 (q : Int)] _ _); refine (HR1.out _ G p v B d H3.out.1).mono ?_; rintro e w5 ⟨rfl, rfl⟩))
    go_ret
    exact ⟨rfl, HEND.out _ _ G H2.out.2.1 H2.out.2.2 H3.out.2⟩
  have HR2 : Hid (∀ w1 G p v B d, NC w1 G p s1 v B d → Calls Try.prog 11 #[.pointer (some ⟨p, 0, none⟩), .int .i64 (q : Int)] w1 fun e w' => e = .returned (.tuple #[.int .u32 (num ws[q]), .int .i64 0]) ∧ w1 = w') := Lib.hid fun w1 G p v B d h => by
    have := read_any h (q : Int)
    rw [rdV_at (by rw [hs1w, List.length_set]; exact hq)] at this
    simp only [hs1w, List.getElem_set_ne (Ne.symm hqk)] at this
    exact this
  obtain ⟨a, rfl, hca⟩ := u32_lies hl hq
  have hab : a.block < w.heap.size := by
    have := World.block_lt_of_cell? _ _ hca
    rw [addr_add_block] at this; exact this
  obtain ⟨y, hy⟩ : ∃ y, ws[q] = y := ⟨_, rfl⟩
  rw [hy] at HR2 hca
  have HCA : Hid (∀ W, Below w.heap.size w W → W.cell? (a.add q) = some (.int .u32 (num y))) := Lib.hid fun W hW => (hW.cell (by rw [addr_add_block]; exact hab)).trans hca
  have hqk2 : ((q : Int) == (k : Int)) = false := by simp; omega
  have hqk3 : ¬ ((q : Int) = (k : Int)) := by omega
  have hqk4 : decide ((q : Int) = (k : Int)) = false := decide_eq_false hqk3
  have hqLn : q < L := by omega
  rw [← hL] at e1 ⊢
  clear hl h100 hs0 hL hit0 hw0 ho0 hc0 hs1 hE hct h2 hi hj hk hs1w hq hca hab hy hqk
  go_enter Try.func5, Try.ntmps5
  go_wp2_with (first
    | (go_at_call 7; refine (awake_any _).mono ?_; rintro e w1 ⟨rfl, hd⟩; have H1 := Lib.hid hd; clear hd)
    | (go_at_call 8; refine (HN.out _ H1.out).mono ?_; rintro e w2 ⟨p, G, v, B, d, rfl, H2⟩)
    | (go_at_call 9; refine (HW.out _ G p v B d H2.out.1).mono ?_; rintro e w3 ⟨rfl, H3⟩; have hca := HCA.out _ (HEND.out _ _ G H2.out.2.1 H2.out.2.2 H3.out.2))
    | (go_at_call 14; refine (HWR.out _ G p v B d H3.out.1).mono ?_; rintro e w4 ⟨rfl, rfl⟩)
    | (go_at_call 11; (with_reducible show Calls _ _ #[_, .int .i64 (k : Int)] _ _); refine (HR1.out _ G p v B d H3.out.1).mono ?_; rintro e w5 ⟨rfl, rfl⟩)
    | (go_at_call 11; (with_reducible show Calls _ _ #[_, .int .i64 (q : Int)] _ _); refine (HR2.out _ G p v B d H3.out.1).mono ?_; rintro e w6 ⟨rfl, rfl⟩))
  go_ret
  exact ⟨rfl, HEND.out _ _ G H2.out.2.1 H2.out.2.2 H3.out.2⟩
end Go.Proofs.Ytfmdebnenmklbaa
