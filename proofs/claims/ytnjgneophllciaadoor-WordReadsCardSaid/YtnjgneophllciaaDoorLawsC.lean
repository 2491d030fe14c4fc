/- The walks of WordReads and WordBack. -/
import Derived.Test.YtnjgneophllciaaDoorAwake
namespace Go.Proofs.YtnjgneophllciaaDoor
open Go.RowKit

theorem number4false (l : List UInt8) (A : Option Addr) (c B : Nat) (at_ : Int) (w : World) (hl : l.length ≤ maxLen) (h : Lies w B 1 A l.length (u8s l)) :
    Calls Tryd.prog 15 #[.slice A l.length c, .int .i64 at_, .int .i64 4, .bool false] w fun e w' => e = .returned (.tuple #[.int .u64 (numOf l at_ 4 false : Nat), .bool (numHas l.length at_ 4)]) ∧ w = w' :=
  number_any l A c B at_ 4 false (by decide) w hl h
theorem number4true (l : List UInt8) (A : Option Addr) (c B : Nat) (at_ : Int) (w : World) (hl : l.length ≤ maxLen) (h : Lies w B 1 A l.length (u8s l)) :
    Calls Tryd.prog 15 #[.slice A l.length c, .int .i64 at_, .int .i64 4, .bool true] w fun e w' => e = .returned (.tuple #[.int .u64 (numOf l at_ 4 true : Nat), .bool (numHas l.length at_ 4)]) ∧ w = w' :=
  number_any l A c B at_ 4 true (by decide) w hl h
theorem number8false (l : List UInt8) (A : Option Addr) (c B : Nat) (at_ : Int) (w : World) (hl : l.length ≤ maxLen) (h : Lies w B 1 A l.length (u8s l)) :
    Calls Tryd.prog 15 #[.slice A l.length c, .int .i64 at_, .int .i64 8, .bool false] w fun e w' => e = .returned (.tuple #[.int .u64 (numOf l at_ 8 false : Nat), .bool (numHas l.length at_ 8)]) ∧ w = w' :=
  number_any l A c B at_ 8 false (by decide) w hl h
theorem number8true (l : List UInt8) (A : Option Addr) (c B : Nat) (at_ : Int) (w : World) (hl : l.length ≤ maxLen) (h : Lies w B 1 A l.length (u8s l)) :
    Calls Tryd.prog 15 #[.slice A l.length c, .int .i64 at_, .int .i64 8, .bool true] w fun e w' => e = .returned (.tuple #[.int .u64 (numOf l at_ 8 true : Nat), .bool (numHas l.length at_ 8)]) ∧ w = w' :=
  number_any l A c B at_ 8 true (by decide) w hl h
theorem acc_lt4 (b : Nat → UInt8) : accB b 4 < 4294967296 := accB_lt b 4
theorem acc_lt8 (b : Nat → UInt8) : accB b 8 < 18446744073709551616 := accB_lt b 8
theorem numOf_lt4 (l : List UInt8) (at_ : Int) (low : Bool) : ((numOf l at_ 4 low : Nat) : Int) ≤ 4294967295 := by
  have h1 := acc_lt4 (dnAt l at_.toNat 4)
  have h2 := acc_lt4 (bAt l at_.toNat)
  unfold numOf
  split
  · cases low <;> simp <;> omega
  · decide
set_option maxHeartbeats 400000 in
theorem reads_walk (A : Option Addr) (c : Nat) (l : List UInt8) (at_ : Int) (w : World) (hl : l.length ≤ maxLen) (h : Lies w w.heap.size 1 A l.length (u8s l)) (_h0 : -9223372036854775808 ≤ at_) (_h1 : at_ ≤ 9223372036854775807) (hT : Tab16 w) :
    Calls Tryd.prog 3 #[.slice A l.length c, .int .i64 at_] w fun e w' => e = .returned (.bool true) ∧ Below w.heap.size w w' := by
  have HT := Lib.hid hT
  have Hl := Lib.hid (And.intro hl h)
  unfold maxLen at hl
  clear hT h
  by_cases hb : (500 : Int) < l.length
  · go_enter Tryd.func3, Tryd.ntmps3
    go_wp2_with (go_at_call 10; refine (awake_any _ HT.out).mono ?_; rintro e w1 ⟨rfl, hd⟩; have H1 := Lib.hid hd; clear hd)
    go_ret
    exact ⟨rfl, H1.out⟩
  · have q1 := numOf_lt4 l at_ false
    have q2 := numOf_lt4 l at_ true
    go_enter Tryd.func3, Tryd.ntmps3
    go_wp2_with (first
      | (go_at_call 10; refine (awake_any _ HT.out).mono ?_; rintro e w1 ⟨rfl, hd⟩; have H1 := Lib.hid hd; clear hd)
      | (go_at_call 11; refine (be32_any l A c w.heap.size at_ _ Hl.out.1 (Hl.out.2.below H1.out)).mono ?_; rintro e w2 ⟨rfl, hd⟩; have H2 := Lib.hid (H1.out.trans (below_drawn (B := w.heap.size) hd)); clear hd)
      | (go_at_call 12; refine (be64_any l A c w.heap.size at_ _ Hl.out.1 (Hl.out.2.below H2.out)).mono ?_; rintro e w3 ⟨rfl, hd⟩; have H3 := Lib.hid (H2.out.trans (below_drawn (B := w.heap.size) hd)); clear hd)
      | (go_at_call 13; refine (le32_any l A c w.heap.size at_ _ Hl.out.1 (Hl.out.2.below H3.out)).mono ?_; rintro e w4 ⟨rfl, hd⟩; have H4 := Lib.hid (H3.out.trans (below_drawn (B := w.heap.size) hd)); clear hd)
      | (go_at_call 14; refine (le64_any l A c w.heap.size at_ _ Hl.out.1 (Hl.out.2.below H4.out)).mono ?_; rintro e w5 ⟨rfl, hd⟩; have H5 := Lib.hid (H4.out.trans (below_drawn (B := w.heap.size) hd)); clear hd)
      | ((with_reducible refine (number4false l A c w.heap.size at_ _ Hl.out.1 (Hl.out.2.below H5.out)).mono ?_); rintro e w' ⟨rfl, rfl⟩)
      | ((with_reducible refine (number8false l A c w.heap.size at_ _ Hl.out.1 (Hl.out.2.below H5.out)).mono ?_); rintro e w' ⟨rfl, rfl⟩)
      | ((with_reducible refine (number4true l A c w.heap.size at_ _ Hl.out.1 (Hl.out.2.below H5.out)).mono ?_); rintro e w' ⟨rfl, rfl⟩)
      | ((with_reducible refine (number8true l A c w.heap.size at_ _ Hl.out.1 (Hl.out.2.below H5.out)).mono ?_); rintro e w' ⟨rfl, rfl⟩))
    go_ret
    exact ⟨rfl, H5.out⟩
end Go.Proofs.YtnjgneophllciaaDoor
