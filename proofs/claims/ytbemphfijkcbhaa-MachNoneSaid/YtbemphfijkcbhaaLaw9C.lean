/- The walk of MachNone. -/
import Derived.Test.YtbemphfijkcbhaaFlash9
import Derived.Test.YtbemphfijkcbhaaAwake9
namespace Go.Proofs.Ytbemphfijkcbhaa
open Go.RowKit

theorem touched_none (w : World) : Calls Try.prog 18 #[.pointer none] w fun e w' => e = .returned (.slice none 0 0) ∧ Below w.heap.size w w' := by
  go_enter Try.func18, Try.ntmps18
  go_wp2
  go_ret
  exact ⟨rfl, Below.refl _ _⟩
theorem within_none (a c : Nat) : within (a, c) (0, 0) = false := by
  have h1 : good (0, 0) = false := by decide
  simp [within, h1]
theorem ask_none {a c : Nat} (hc : c ≤ 1048576) : askR (0, 0) a c = 90 := by
  unfold askR
  have h1 : good (0, 0) = false := by decide
  rw [if_neg (by omega), h1, within_none, if_neg (fun h => by cases h.2)]
  rfl
theorem word_none (a : Nat) : wordE (0, 0) a = 90 := by
  unfold wordE
  split
  · exact ask_none (by omega)
  · rfl
theorem fit0 : fit (0, 0) := ⟨by decide, by decide⟩
set_option maxRecDepth 100000 in
set_option maxHeartbeats 2000000 in
theorem machNone_walk (at_ n : Nat) (A : Option Addr) (c : Nat) (b : List UInt8) (w : World) (ha : at_ < 18446744073709551616) (hn : n < 4294967296) (_hc : b.length ≤ c) (_hl : Lies w w.heap.size 1 A b.length (u8s b)) :
    Calls Try.prog 9 #[.int .u64 (at_ : Int), .int .u32 (n : Int), .slice A b.length c] w fun e w' => e = .returned (.bool true) ∧ Below w.heap.size w w' := by
  by_cases h3 : 1000 < b.length
  · have e3 : (1000 : Int) < b.length := by omega
    clear ha hn
    go_enter Try.func9, Try.ntmps9
    go_wp2_with (go_at_call 10; refine (awake_any _).mono ?_; rintro e V1 ⟨rfl, hd⟩; have HD := Lib.hid hd; clear hd)
    go_ret
    exact ⟨rfl, HD.out⟩
  · have e3 : ¬ (1000 : Int) < b.length := by omega
    have HR : Hid (∀ W, Calls Try.prog 20 #[.pointer none, .int .u64 (at_ : Int), .int .u64 ((n % 1000 : Nat) : Int)] W fun e w' => e = .returned (.tuple #[.slice none 0 0, .int .i64 90]) ∧ Below W.heap.size W w') := Lib.hid fun W => by
      have := mread_no (.pointer none) (0, 0) at_ (n % 1000) W fit0 ⟨ha, by simp only; omega⟩ (SpaceAt.nil W) (ask_nil _ _)
      rw [ask_none (by omega)] at this
      exact this
    have HW : Hid (∀ W, Calls Try.prog 25 #[.pointer none, .int .u64 (at_ : Int)] W fun e w' => e = .returned (.tuple #[.int .u64 0, .int .i64 90]) ∧ Below W.heap.size W w') := Lib.hid fun W => by
      have := mword_no (.pointer none) (0, 0) at_ W fit0 ha (SpaceAt.nil W) (by rw [word_none]; decide)
      rw [word_none] at this
      exact this
    have HWR : Hid (∀ W, Calls Try.prog 21 #[.pointer none, .int .u64 (at_ : Int), .slice A b.length c] W fun e w' => e = .returned (.int .i64 90) ∧ Below W.heap.size W w') := Lib.hid fun W => by
      have := mwrite_no (.pointer none) (0, 0) at_ b A c W fit0 ha (by unfold maxLen; omega) (SpaceAt.nil W) (ask_nil _ _)
      rw [ask_none (by omega)] at this
      exact this
    have HZ : Hid (∀ W, Calls Try.prog 32 #[.pointer none, .agg #[.int .u64 (at_ : Int), .int .u64 1]] W fun e w' => e = .returned (.int .i64 90) ∧ Below W.heap.size W w') := Lib.hid fun W =>
      mzero_no (.pointer none) (0, 0) at_ 1 W fit0 ⟨ha, by simp only; omega⟩ (SpaceAt.nil W) (within_none _ _)
    obtain ⟨E, hE, hE2⟩ : ∃ E : Nat, (∀ W, Calls Try.prog 28 #[.pointer none, .int .u32 (n : Int), .int .u32 (n : Int)] W fun e w' => e = .returned (.tuple #[.slice none 0 0, .int .i64 (E : Int)]) ∧ Below W.heap.size W w') ∧ decide ((E : Int) = 0) = decide ((n : Int) = 0) := by
      by_cases h0 : n = 0
      · subst h0
        exact ⟨0, fun W => get_zero _ _ W, rfl⟩
      · refine ⟨151, fun W => get_no _ 0 n n W hn hn h0 (by omega) (by decide) fun W' _ => len_none W', ?_⟩
        have : ¬ (n : Int) = 0 := by omega
        rw [decide_eq_false this]
        rfl
    have HG := Lib.hid hE
    have HE2 := Lib.hid hE2
    obtain ⟨q, hq⟩ : ∃ q, q = n % 1000 := ⟨_, rfl⟩
    rw [← hq] at HR
    have hcv : (n : Int) % 1000 = (q : Int) := by omega
    have hb1 : q < 1000 := by omega
    clear ha h3 hE hE2 hq
    go_enter Try.func9, Try.ntmps9
    go_wp2_with (first
      | (go_at_call 10; refine (awake_any _).mono ?_; rintro e w1 ⟨rfl, hd⟩; have H1 := Lib.hid hd; clear hd)
      | (go_at_call 20; refine (HR.out _).mono ?_; rintro e w2 ⟨rfl, hd⟩; have H2 := Lib.hid (H1.out.trans (hd.mono H1.out.size)); clear hd)
      | (go_at_call 25; refine (HW.out _).mono ?_; rintro e w3 ⟨rfl, hd⟩; have H3 := Lib.hid (H2.out.trans (hd.mono H2.out.size)); clear hd)
      | (go_at_call 28; refine (HG.out _).mono ?_; rintro e w4 ⟨rfl, hd⟩; have H4 := Lib.hid (H3.out.trans (hd.mono H3.out.size)); clear hd)
      | (go_at_call 21; refine (HWR.out _).mono ?_; rintro e w5 ⟨rfl, hd⟩; have H5 := Lib.hid (H4.out.trans (hd.mono H4.out.size)); clear hd)
      | (go_at_call 32; refine (HZ.out _).mono ?_; rintro e w6 ⟨rfl, hd⟩; have H6 := Lib.hid (H5.out.trans (hd.mono H5.out.size)); clear hd)
      | (go_at_call 18; refine (touched_none _).mono ?_; rintro e w7 ⟨rfl, hd⟩; have H7 := Lib.hid (H6.out.trans (hd.mono H6.out.size)); clear hd)
      | (go_at_call 27; refine (len_none _).mono ?_; rintro e w8 ⟨rfl, hd⟩; have H8 := Lib.hid (H7.out.trans (hd.mono H7.out.size)); clear hd))
    go_ret
    exact ⟨rfl, H8.out⟩
end Go.Proofs.Ytbemphfijkcbhaa
