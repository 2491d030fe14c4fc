/- The walks of WordHexes, WordAdds, WordAligns, WordReads. -/
import Derived.Test.YtnjgneophllciaaDoorAwake
namespace Go.Proofs.YtnjgneophllciaaDoor
open Go.RowKit

set_option maxHeartbeats 400000 in
theorem hexes_walk (n : Nat) (w : World) (hn : n < 18446744073709551616) (hT : Tab16 w) :
    Calls Tryd.prog 9 #[.int .u64 (n : Int)] w fun e w' => e = .returned (.bool true) ∧ Below w.heap.size w w' := by
  have HT := Lib.hid hT
  have Hn := Lib.hid hn
  clear hT hn
  go_enter Tryd.func9, Tryd.ntmps9
  go_wp2_with (first
    | (go_at_call 10; refine (awake_any _ HT.out).mono ?_; rintro e w1 ⟨rfl, hd⟩; have H1 := Lib.hid hd; clear hd)
    | (go_at_call 28; refine (hex_any n Hn.out _ (tab_below HT.out H1.out)).mono ?_; rintro e w2 ⟨rfl, hd⟩; have H2 := Lib.hid hd; clear hd)
    | (go_at_call 29; refine (rhex_any n Hn.out _).mono ?_; rintro e w3 ⟨rfl, rfl⟩))
  go_ret
  exact ⟨rfl, H1.out.trans (H2.out.mono H1.out.size)⟩

theorem add_none (w : World) : Calls Tryd.prog 27 #[.slice none 0 0] w fun e w' => e = .returned (.tuple #[.int .u64 0, .bool true]) ∧ w = w' :=
  add_any [] (by simp) none 0 w.heap.size w (by decide) (Lies.nil _ _ _ _)
def fits3 (a b c : Nat) : Bool := decide (a + b + c < two64)
def sum3 (a b c : Nat) : Nat := if a + b + c < two64 then a + b + c else 0
theorem add_three (a b c : Nat) (ha : a < two64) (hb : b < two64) (hc : c < two64) (w : World) (d : Nat) :
    Calls Tryd.prog 27 #[.slice (some ⟨w.heap.size, 0, none⟩) 3 d] (w.alloc (.cells #[.int .u64 (a : Int), .int .u64 (b : Int), .int .u64 (c : Int)] 27)) fun e w' =>
      e = .returned (.tuple #[.int .u64 (sum3 a b c : Nat), .bool (fits3 a b c)]) ∧ w.alloc (.cells #[.int .u64 (a : Int), .int .u64 (b : Int), .int .u64 (c : Int)] 27) = w' := by
  have := add_any [a, b, c] (by intro x hx; simp at hx; rcases hx with rfl | rfl | rfl <;> assumption) (some ⟨w.heap.size, 0, none⟩) d (w.heap.size + 1) (w.alloc (.cells #[.int .u64 (a : Int), .int .u64 (b : Int), .int .u64 (c : Int)] 27)) (by unfold maxLen; simp) (lies_new _ _ _ _ _ rfl rfl)
  have e0 : [a, b, c].sum = a + b + c := by simp [Nat.add_assoc]
  have e1 : addSum [a, b, c] = sum3 a b c := by unfold addSum sum3; rw [e0]
  have e2 : addFits [a, b, c] = fits3 a b c := by unfold addFits fits3; rw [e0]
  rw [e1, e2] at this
  exact this

set_option maxHeartbeats 400000 in
theorem adds_walk (a b c : Nat) (w : World) (ha : a < two64) (hb : b < two64) (hc : c < two64) (hT : Tab16 w) :
    Calls Tryd.prog 8 #[.int .u64 (a : Int), .int .u64 (b : Int), .int .u64 (c : Int)] w fun e w' => e = .returned (.bool true) ∧ Below w.heap.size w w' := by
  have HT := Lib.hid hT
  have Ha := Lib.hid (And.intro ha (And.intro hb hc))
  have ha2 : (a : Int) ≤ 18446744073709551615 := by unfold two64 at ha; omega
  have hb2 : (b : Int) ≤ 18446744073709551615 := by unfold two64 at hb; omega
  have hc2 : (c : Int) ≤ 18446744073709551615 := by unfold two64 at hc; omega
  clear hT ha hb hc
  by_cases h1 : (a : Int) ≤ 18446744073709551615 - b
  · by_cases h2 : (a : Int) + b ≤ 18446744073709551615 - c
    · have e1 : fits3 a b c = true := by unfold fits3 two64; simp; omega
      have e2 : ((sum3 a b c : Nat) : Int) = (a : Int) + b + c := by unfold sum3 two64; rw [if_pos (by omega)]; omega
      have e3 : (a : Int) + b + c ≤ 18446744073709551615 := by omega
      go_enter Tryd.func8, Tryd.ntmps8
      go_wp2_with (first
        | (go_at_call 10; refine (awake_any _ HT.out).mono ?_; rintro e w1 ⟨rfl, hd⟩; have H1 := Lib.hid hd; clear hd)
        | ((with_reducible refine (add_three _ _ _ Ha.out.1 Ha.out.2.1 Ha.out.2.2 _ _).mono ?_); rintro e w2 ⟨rfl, rfl⟩)
        | ((with_reducible refine (add_none _).mono ?_); rintro e w2 ⟨rfl, rfl⟩))
      go_ret
      exact ⟨rfl, H1.out.alloc H1.out.size _⟩
    · have e1 : fits3 a b c = false := by unfold fits3 two64; simp; omega
      have e2 : sum3 a b c = 0 := by unfold sum3 two64; rw [if_neg (by omega)]
      go_enter Tryd.func8, Tryd.ntmps8
      go_wp2_with (first
        | (go_at_call 10; refine (awake_any _ HT.out).mono ?_; rintro e w1 ⟨rfl, hd⟩; have H1 := Lib.hid hd; clear hd)
        | ((with_reducible refine (add_three _ _ _ Ha.out.1 Ha.out.2.1 Ha.out.2.2 _ _).mono ?_); rintro e w2 ⟨rfl, rfl⟩)
        | ((with_reducible refine (add_none _).mono ?_); rintro e w2 ⟨rfl, rfl⟩))
      go_ret
      exact ⟨rfl, H1.out.alloc H1.out.size _⟩
  · have e1 : fits3 a b c = false := by unfold fits3 two64; simp; omega
    have e2 : sum3 a b c = 0 := by unfold sum3 two64; rw [if_neg (by omega)]
    go_enter Tryd.func8, Tryd.ntmps8
    go_wp2_with (first
        | (go_at_call 10; refine (awake_any _ HT.out).mono ?_; rintro e w1 ⟨rfl, hd⟩; have H1 := Lib.hid hd; clear hd)
        | ((with_reducible refine (add_three _ _ _ Ha.out.1 Ha.out.2.1 Ha.out.2.2 _ _).mono ?_); rintro e w2 ⟨rfl, rfl⟩)
        | ((with_reducible refine (add_none _).mono ?_); rintro e w2 ⟨rfl, rfl⟩))
    go_ret
    exact ⟨rfl, H1.out.alloc H1.out.size _⟩
end Go.Proofs.YtnjgneophllciaaDoor
