/- The reference's Mem: Word, Put. -/
import Derived.Test.YtbemphfijkcbhaaRnew9
import Derived.Test.YtbemphfijkcbhaaRPut
namespace Go.Proofs.Ytbemphfijkcbhaa
open Go.RowKit

theorem ask8 {r : Sp} {a : Nat} (h : askR r a 8 ≠ 0) : askR r a 8 = 90 := by
  unfold askR at h ⊢
  rw [if_neg (by decide), if_neg (fun hh => absurd hh.1 (by decide))] at h ⊢
  split
  · rename_i h2; rw [if_pos h2] at h; exact absurd rfl h
  · rfl
set_option maxRecDepth 100000 in
set_option maxHeartbeats 2000000 in
theorem rword_any {w : World} {G : Nat → Prop} {r n : Nat} {ram : Sp} {v : Value} {ps : List RP} {m : Bytes8} (hM : MR w G r ram n v ps m) (hn : n ≤ 1000000) (a : Nat) (ha : a < 18446744073709551616) :
    Calls Try.prog 42 #[.pointer (some ⟨r, 0, none⟩), .int .u64 (a : Int)] w fun e w' => e = .returned (.tuple #[.int .u64 (wordV ram m a : Nat), .int .i64 (wordE ram a : Nat)]) ∧ Below w.heap.size w w' := by
  by_cases h8 : a % 8 = 0
  · have hE : wordE ram a = askR ram a 8 := wordE_yes h8
    have HK := Lib.hid (rask_any hM a 8 ha (by decide))
    have e8 : ((a : Int) % 8 != 0) = false := by simp; omega
    have e9 : (a : Int) % 8 = 0 := by omega
    by_cases hq : askR ram a 8 = 0
    · have hv : wordV ram m a = numOf (rdM m a 8) 0 8 true := if_pos (by rw [hE]; exact hq)
      rw [hv, hE, hq]
      rw [hq] at HK
      have HK0 : Hid (Calls Try.prog 54 #[.pointer (some ⟨r, 0, none⟩), .int .u64 (a : Int), .int .u64 8] w fun e w' => e = .returned (.int .i64 0) ∧ Below w.heap.size w w') := HK
      obtain ⟨y, hy⟩ : ∃ y, y = numOf (rdM m a 8) 0 8 true := ⟨_, rfl⟩
      have HRD := Lib.hid (fun W (hW : Below w.heap.size w W) => rread_ok (hM.under hW) hn a 8 ⟨ha, by simp only; omega⟩ hq)
      have HNU : Hid (∀ W A c, Lies W W.heap.size 1 A 8 (u8s (rdM m a 8)) → Calls Try.prog 24 #[.slice A 8 c, .int .i64 0, .int .i64 8, .bool true] W fun e w' => ∃ z, e = .returned (.tuple #[.int .u64 (y : Int), .bool z]) ∧ W = w') := Lib.hid fun W A c h => by
        have hl : (rdM m a 8).length = 8 := rdM_length m a 8
        have := number_any (rdM m a 8) A c W.heap.size 0 8 true (by decide) W (by rw [hl]; decide) (by rw [hl]; exact h)
        rw [hl, ← hy] at this
        exact this.mono fun e w' ⟨h1, h2⟩ => ⟨_, h1, h2⟩
      rw [← hy]
      clear hM hn ha h8 hE hq hv hy HK
      go_enter Try.func42, Try.ntmps42
      go_wp2_with (first
        | (go_at_call 54; refine HK0.out.mono ?_; rintro e w1 ⟨rfl, hd⟩; have H1 := Lib.hid hd; clear hd)
        | (go_at_call 31; refine (HRD.out _ H1.out).mono ?_; rintro e w2 ⟨A, cap, rfl, hl, hd⟩; have H2 := Lib.hid (H1.out.trans (hd.mono H1.out.size)); have HL := Lib.hid hl; clear hd hl)
        | (go_at_call 24; refine (HNU.out _ _ _ HL.out).mono ?_; rintro e w3 ⟨z, rfl, rfl⟩))
      go_ret2
      exact ⟨rfl, H2.out⟩
    · have h90 := ask8 hq
      have hv : wordV ram m a = 0 := if_neg (by rw [hE]; exact hq)
      rw [hv, hE, h90]
      rw [h90] at HK
      have HK0 : Hid (Calls Try.prog 54 #[.pointer (some ⟨r, 0, none⟩), .int .u64 (a : Int), .int .u64 8] w fun e w' => e = .returned (.int .i64 90) ∧ Below w.heap.size w w') := HK
      clear hM hn ha h8 hE hq hv h90 HK
      go_enter Try.func42, Try.ntmps42
      go_wp2_with (go_at_call 54; refine HK0.out.mono ?_; rintro e w1 ⟨rfl, hd⟩; have H1 := Lib.hid hd; clear hd)
      go_ret2
      exact ⟨rfl, H1.out⟩
  · have hE : wordE ram a = 90 := wordE_no h8
    have hv : wordV ram m a = 0 := if_neg (by rw [hE]; decide)
    rw [hv, hE]
    have e8 : ((a : Int) % 8 != 0) = true := by simp; omega
    have e9 : ¬ (a : Int) % 8 = 0 := by omega
    clear hM hn ha h8 hE hv
    go_enter Try.func42, Try.ntmps42
    go_wp2
    go_ret2
    exact ⟨rfl, Below.refl _ _⟩
set_option maxRecDepth 100000 in
set_option maxHeartbeats 2000000 in
theorem rmput_any {w : World} {G : Nat → Prop} {r n : Nat} {ram : Sp} {v : Value} {ps : List RP} {m : Bytes8} (hM : MR w G r ram n v ps m) (hn : n + 300 ≤ 1000000) (a x : Nat) (ha : a < 18446744073709551616) :
    Calls Try.prog 43 #[.pointer (some ⟨r, 0, none⟩), .int .u64 (a : Int), .int .u64 (x : Int)] w fun e w' => e = .returned (.int .i64 (wordE ram a : Nat)) ∧
      ∃ G' v' ps', MR w' G' r ram (n + 300) v' ps' (wrW ram m a x) ∧ Turn G w w' ∧ ∀ i, G' i → G i ∨ w.heap.size ≤ i := by
  by_cases h8 : a % 8 = 0
  · have hE : wordE ram a = askR ram a 8 := wordE_yes h8
    have e8 : ((a : Int) % 8 != 0) = false := by simp; omega
    have e9 : (a : Int) % 8 = 0 := by omega
    have hw : wrW ram m a x = wrR ram m a (pwL x) := by unfold wrW wrR; rw [hE, pwL_length]
    rw [hw, hE]
    have HP := Lib.hid (rput_any [] x 8 (by decide) none 0 w.heap.size true w (Nat.le_refl _) (Lies.nil _ _ _ _) (by decide))
    have hpb : [] ++ numBytes (lowO true) 8 x = pwL x := by simp [pwL, putAll, lowO]
    rw [hpb] at HP
    have HWR : Hid (∀ W e0, Bytes w (pwL x) e0 W → ∃ A c, e0 = .returned (.slice A 8 c) ∧ Calls Try.prog 40 #[.pointer (some ⟨r, 0, none⟩), .int .u64 (a : Int), .slice A 8 c] W fun e w' => e = .returned (.int .i64 (askR ram a 8 : Nat)) ∧
        ∃ G' v' ps', MR w' G' r ram (n + 300) v' ps' (wrR ram m a (pwL x)) ∧ Turn G w w' ∧ ∀ i, G' i → G i ∨ w.heap.size ≤ i) := Lib.hid fun W e0 hB => by
      obtain ⟨u, rfl, hown, hbel⟩ := hB
      obtain ⟨A, c, rfl, h3, h4, h5⟩ := owns_cap hown
      rw [pwL_length] at h3 h5 hown
      refine ⟨A, c, by rw [pwL_length], ?_⟩
      have := rwrite_any (hM.under hbel) hn a (pwL x) A c ha (by rw [pwL_length]; decide) (by rw [pwL_length]; exact h5) (by rw [pwL_length]; exact h3) (fun q e _ hg => by have h1 := h4 q e; have h2 := hM.lt _ hg; omega)
      rw [pwL_length] at this
      refine this.mono ?_
      rintro e w' ⟨h1, G', v', ps', h2, h3, h4⟩
      have hs := hbel.size
      exact ⟨h1, G', v', ps', h2, (Turn.of_below hbel).andThen h3, fun i hi => (h4 i hi).imp id fun h => by omega⟩
    clear hM hn ha h8 hE hw hpb
    go_enter Try.func43, Try.ntmps43
    go_wp2_with (first
      | (go_at_call 61; refine HP.out.mono ?_; intro e w1 hB; obtain ⟨A, c, rfl, hc⟩ := HWR.out w1 e hB; have HC := Lib.hid hc; clear hc hB)
      | (go_at_call 40; refine HC.out.mono ?_; rintro e w2 ⟨rfl, hd⟩; have HD3 := Lib.hid hd; clear hd))
    go_ret
    exact ⟨rfl, HD3.out⟩
  · have hE : wordE ram a = 90 := wordE_no h8
    have hw : wrW ram m a x = m := if_neg (by rw [hE]; decide)
    rw [hw, hE]
    have e8 : ((a : Int) % 8 != 0) = true := by simp; omega
    have e9 : ¬ (a : Int) % 8 = 0 := by omega
    have HM := Lib.hid hM
    clear hM hn ha h8 hE hw
    go_enter Try.func43, Try.ntmps43
    go_wp2
    go_ret
    exact ⟨rfl, G, v, ps, HM.out.mono (by omega), Turn.refl _ _, fun i hi => Or.inl hi⟩
end Go.Proofs.Ytbemphfijkcbhaa
