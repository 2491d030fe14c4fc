/- The walk of WordAligns. -/
import Derived.Test.YtnjgneophllciaaDoorAwake
namespace Go.Proofs.YtnjgneophllciaaDoor
open Go.RowKit

theorem aligned_all (a : Nat) (xs : List Nat) (hx : ∀ x ∈ xs, x < two64) (A : Option Addr) (c B : Nat) (w : World) (hn : xs.length ≤ maxLen) (h : Lies w B 1 A xs.length (u64s xs)) :
    Calls Tryd.prog 26 #[.int .u64 (a : Int), .slice A xs.length c] w fun e w' => e = .returned (.bool (alignedB a xs)) ∧ w = w' := by
  rcases Nat.eq_zero_or_pos a with rfl | ha
  · have e : alignedB 0 xs = false := by simp [alignedB]
    rw [e]
    exact aligned_zero A xs.length c w
  · exact aligned_pos a ha xs hx A c B w hn h
theorem aligned_none (a : Nat) (w : World) : Calls Tryd.prog 26 #[.int .u64 (a : Int), .slice none 0 0] w fun e w' => e = .returned (.bool (decide (a ≠ 0))) ∧ w = w' := by
  have := aligned_all a [] (by simp) none 0 w.heap.size w (by decide) (Lies.nil _ _ _ _)
  simpa [alignedB] using this
def aligned2 (a n m : Nat) : Bool := decide (a ≠ 0) && decide (n % a = 0) && decide (m % a = 0)
theorem aligned_two (a n m : Nat) (hn : n < two64) (hm : m < two64) (w : World) (d : Nat) :
    Calls Tryd.prog 26 #[.int .u64 (a : Int), .slice (some ⟨w.heap.size, 0, none⟩) 2 d] (w.alloc (.cells #[.int .u64 (n : Int), .int .u64 (m : Int)] 27)) fun e w' =>
      e = .returned (.bool (aligned2 a n m)) ∧ w.alloc (.cells #[.int .u64 (n : Int), .int .u64 (m : Int)] 27) = w' := by
  have := aligned_all a [n, m] (by intro x hx; simp at hx; rcases hx with rfl | rfl <;> assumption) (some ⟨w.heap.size, 0, none⟩) d (w.heap.size + 1) (w.alloc (.cells #[.int .u64 (n : Int), .int .u64 (m : Int)] 27)) (by unfold maxLen; simp) (lies_new _ _ _ _ _ rfl rfl)
  have e : alignedB a [n, m] = aligned2 a n m := by simp [alignedB, aligned2, Bool.and_assoc]
  rw [e] at this
  exact this

set_option maxHeartbeats 400000 in
theorem aligns_walk (n a m : Nat) (w : World) (hn : n < two64) (ha : a < two64) (hm : m < two64) (hT : Tab16 w) :
    Calls Tryd.prog 7 #[.int .u64 (n : Int), .int .u64 (a : Int), .int .u64 (m : Int)] w fun e w' => e = .returned (.bool true) ∧ Below w.heap.size w w' := by
  have HT := Lib.hid hT
  have Hn := Lib.hid (And.intro hn (And.intro ha hm))
  have hn1 : (n : Int) ≤ 18446744073709551615 := by unfold two64 at hn; omega
  have hm1 : (m : Int) ≤ 18446744073709551615 := by unfold two64 at hm; omega
  clear hT hn ha hm
  by_cases h0 : a = 0
  · have e2 : aligned2 a n m = false := by simp [aligned2, h0]
    have d0 : decide (a ≠ 0) = false := by simp [h0]
    have a0 : ((a : Int) != 0) = false := by simp [h0]
    clear h0
    go_enter Tryd.func7, Tryd.ntmps7
    go_wp2_with (first
      | (go_at_call 10; refine (awake_any _ HT.out).mono ?_; rintro e w1 ⟨rfl, hd⟩; have H1 := Lib.hid hd; clear hd)
      | (go_at_call 22; refine (down_any _ _ Hn.out.1 Hn.out.2.1 _).mono ?_; rintro e w' ⟨rfl, rfl⟩)
      | (go_at_call 23; refine (up_any _ _ Hn.out.1 Hn.out.2.1 _).mono ?_; rintro e w2 ⟨rfl, hd⟩; have H2 := Lib.hid (H1.out.trans (hd.mono H1.out.size)); clear hd)
      | (go_at_call 24; refine (rup_any _ _ Hn.out.1 Hn.out.2.1 _).mono ?_; rintro e w' ⟨rfl, rfl⟩)
      | (go_at_call 25; refine (rdown_any _ _ Hn.out.1 Hn.out.2.1 _).mono ?_; rintro e w' ⟨rfl, rfl⟩)
      | ((with_reducible refine (aligned_two _ _ _ Hn.out.1 Hn.out.2.2 _ _).mono ?_); rintro e w' ⟨rfl, rfl⟩)
      | ((with_reducible refine (aligned_none _ _).mono ?_); rintro e w' ⟨rfl, rfl⟩))
    go_ret
    exact ⟨rfl, H2.out.alloc H2.out.size _⟩
  · have d0 : decide (a ≠ 0) = true := by simp [h0]
    have a0 : ((a : Int) != 0) = true := by simp; omega
    have a1 : 1 ≤ (a : Int) := by omega
    by_cases h1 : n % a = 0
    · have r1 : ((n : Int) % (a : Int) == 0) = true := by simp; omega
      by_cases h2 : m % a = 0
      · have r2 : ((m : Int) % (a : Int) == 0) = true := by simp; omega
        have e2 : aligned2 a n m = true := by simp [aligned2, h0, h1, h2]
        clear h0 h1 h2
        go_enter Tryd.func7, Tryd.ntmps7
        go_wp2_with (first
          | (go_at_call 10; refine (awake_any _ HT.out).mono ?_; rintro e w1 ⟨rfl, hd⟩; have H1 := Lib.hid hd; clear hd)
          | (go_at_call 22; refine (down_any _ _ Hn.out.1 Hn.out.2.1 _).mono ?_; rintro e w' ⟨rfl, rfl⟩)
          | (go_at_call 23; refine (up_any _ _ Hn.out.1 Hn.out.2.1 _).mono ?_; rintro e w2 ⟨rfl, hd⟩; have H2 := Lib.hid (H1.out.trans (hd.mono H1.out.size)); clear hd)
          | (go_at_call 24; refine (rup_any _ _ Hn.out.1 Hn.out.2.1 _).mono ?_; rintro e w' ⟨rfl, rfl⟩)
          | (go_at_call 25; refine (rdown_any _ _ Hn.out.1 Hn.out.2.1 _).mono ?_; rintro e w' ⟨rfl, rfl⟩)
          | ((with_reducible refine (aligned_two _ _ _ Hn.out.1 Hn.out.2.2 _ _).mono ?_); rintro e w' ⟨rfl, rfl⟩)
          | ((with_reducible refine (aligned_none _ _).mono ?_); rintro e w' ⟨rfl, rfl⟩))
        go_ret
        exact ⟨rfl, H2.out.alloc H2.out.size _⟩
      · have r2 : ((m : Int) % (a : Int) == 0) = false := by simp; omega
        have e2 : aligned2 a n m = false := by simp [aligned2, h2]
        clear h0 h1 h2
        go_enter Tryd.func7, Tryd.ntmps7
        go_wp2_with (first
          | (go_at_call 10; refine (awake_any _ HT.out).mono ?_; rintro e w1 ⟨rfl, hd⟩; have H1 := Lib.hid hd; clear hd)
          | (go_at_call 22; refine (down_any _ _ Hn.out.1 Hn.out.2.1 _).mono ?_; rintro e w' ⟨rfl, rfl⟩)
          | (go_at_call 23; refine (up_any _ _ Hn.out.1 Hn.out.2.1 _).mono ?_; rintro e w2 ⟨rfl, hd⟩; have H2 := Lib.hid (H1.out.trans (hd.mono H1.out.size)); clear hd)
          | (go_at_call 24; refine (rup_any _ _ Hn.out.1 Hn.out.2.1 _).mono ?_; rintro e w' ⟨rfl, rfl⟩)
          | (go_at_call 25; refine (rdown_any _ _ Hn.out.1 Hn.out.2.1 _).mono ?_; rintro e w' ⟨rfl, rfl⟩)
          | ((with_reducible refine (aligned_two _ _ _ Hn.out.1 Hn.out.2.2 _ _).mono ?_); rintro e w' ⟨rfl, rfl⟩)
          | ((with_reducible refine (aligned_none _ _).mono ?_); rintro e w' ⟨rfl, rfl⟩))
        go_ret
        exact ⟨rfl, H2.out.alloc H2.out.size _⟩
    · have r1 : ((n : Int) % (a : Int) == 0) = false := by simp; omega
      have e2 : aligned2 a n m = false := by simp [aligned2, h1]
      clear h0 h1
      go_enter Tryd.func7, Tryd.ntmps7
      go_wp2_with (first
        | (go_at_call 10; refine (awake_any _ HT.out).mono ?_; rintro e w1 ⟨rfl, hd⟩; have H1 := Lib.hid hd; clear hd)
        | (go_at_call 22; refine (down_any _ _ Hn.out.1 Hn.out.2.1 _).mono ?_; rintro e w' ⟨rfl, rfl⟩)
        | (go_at_call 23; refine (up_any _ _ Hn.out.1 Hn.out.2.1 _).mono ?_; rintro e w2 ⟨rfl, hd⟩; have H2 := Lib.hid (H1.out.trans (hd.mono H1.out.size)); clear hd)
        | (go_at_call 24; refine (rup_any _ _ Hn.out.1 Hn.out.2.1 _).mono ?_; rintro e w' ⟨rfl, rfl⟩)
        | (go_at_call 25; refine (rdown_any _ _ Hn.out.1 Hn.out.2.1 _).mono ?_; rintro e w' ⟨rfl, rfl⟩)
        | ((with_reducible refine (aligned_two _ _ _ Hn.out.1 Hn.out.2.2 _ _).mono ?_); rintro e w' ⟨rfl, rfl⟩)
        | ((with_reducible refine (aligned_none _ _).mono ?_); rintro e w' ⟨rfl, rfl⟩))
      go_ret
      exact ⟨rfl, H2.out.alloc H2.out.size _⟩
end Go.Proofs.YtnjgneophllciaaDoor
