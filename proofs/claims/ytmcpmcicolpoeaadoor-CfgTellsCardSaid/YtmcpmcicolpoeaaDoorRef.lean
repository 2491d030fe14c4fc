/- portreeveref01.Number; that word.read answers the same. -/
import Derived.Test.YtmcpmcicolpoeaaDoorNum
import Derived.Test.YtmcpmcicolpoeaaDoorPlain
namespace Go.Proofs.YtmcpmcicolpoeaaDoor
open Go.RowKit

set_option maxRecDepth 100000 in
theorem accN_high (w : Nat) (b : Nat → UInt8) (k : Nat) (hk : k ≤ w) : accN 0 w (2 ^ (8 * w)) b k = accB b k * 256 ^ (w - k) := by
  induction k with
  | zero => simp [accN, accB]
  | succ k ih =>
    have e : (shAt 0 (k : Int) (w : Int)).toNat = 8 * (w - 1 - k) := by rw [shAt_high]; omega
    rw [accN, ih (by omega), e, Nat.min_eq_left (by omega), high_or b w k (by omega)]
set_option maxRecDepth 100000 in
theorem accN_low (w : Nat) (b : Nat → UInt8) (k : Nat) (hk : k ≤ w) : accN 1 w (2 ^ (8 * w)) b k = leSum b k := by
  induction k with
  | zero => simp [accN, leSum]
  | succ k ih =>
    have e : (shAt 1 (k : Int) (w : Int)).toNat = 8 * k := by rw [shAt_low]; omega
    rw [accN, ih (by omega), e, Nat.min_eq_left (by omega), low_or b w k (by omega)]

set_option maxRecDepth 100000 in
theorem accB_step (b : Nat → UInt8) (k : Nat) (hk : k < 8) (x : Int) (hx : x = ((b k).toNat : Int)) :
    bits .or .u64 (((accB b k : Nat) : Int) * 256) x = ((accB b (k + 1) : Nat) : Int) := by
  subst hx
  have h := accB_lt b k
  have hp : 256 ^ k ≤ 256 ^ 7 := Nat.pow_le_pow_right (by decide) (by omega)
  have hb := (b k).toNat_lt
  have e : ((accB b k : Nat) : Int) * 256 = ((accB b k * 256 : Nat) : Int) := by simp
  rw [e, u64_or_nat _ _ (by omega) (by omega), accB_or]
set_option maxRecDepth 100000 in
theorem accB_small (b : Nat → UInt8) (k : Nat) (hk : k < 8) : ((accB b k : Nat) : Int) ≤ 72057594037927935 := by
  have h := accB_lt b k
  have hp : 256 ^ k ≤ 256 ^ 7 := Nat.pow_le_pow_right (by decide) (by omega)
  omega
def dnAt (l : List UInt8) (at_ size : Nat) : Nat → UInt8 := fun j => l.getD (at_ + size - 1 - j) 0
set_option maxRecDepth 100000 in
theorem dnAt_eq (l : List UInt8) (at_ size k : Nat) (h : at_ + size - 1 - k < l.length) : ((l[at_ + size - 1 - k].toNat : Nat) : Int) = ((dnAt l at_ size k).toNat : Int) := by
  unfold dnAt
  rw [List.getD_eq_getElem?_getD, List.getElem?_eq_getElem h]; rfl

set_option maxHeartbeats 400000 in
set_option maxRecDepth 100000 in
theorem number_high (l : List UInt8) (A : Option Addr) (c B : Nat) (at_ size : Nat) (hs : size ≤ 8) (w : World) (hat : at_ + size ≤ l.length) (hl : l.length ≤ maxLen) (h : Lies w B 1 A l.length (u8s l)) :
    Calls Tryd.prog 47 #[.slice A l.length c, .int .i64 (at_ : Int), .int .i64 (size : Int), .bool false] w fun e w' => e = .returned (.tuple #[.int .u64 (accB (bAt l at_) size : Nat), .bool true]) ∧ w = w' := by
  unfold maxLen at hl
  have Hw := Lib.hid h
  clear h
  go_enter Tryd.func47, Tryd.ntmps47
  go_wp2
  go_loop [10, 11] (fun n j => ∃ k : Nat, k ≤ size ∧ j = .int .i64 k ∧ n = .int .u64 (accB (bAt l at_) k : Nat)) (fun _ i => size - (intOf i).toNat)
  case atStart => exact ⟨0, Nat.zero_le _, rfl, rfl⟩
  case round =>
    obtain ⟨k, hk, rfl, rfl⟩ := hrel
    by_cases hlt : k < size
    · obtain ⟨a, hx, rfl, hb, hc⟩ := Hw.out.atMap (k := at_ + k) (by omega)
      have hb8 := u8_lt l[at_ + k]
      have s0 := accB_step (bAt l at_) k (by omega) _ (bAt_eq l at_ k hx)
      have s1 := accB_small (bAt l at_) k (by omega)
      go_wp2
      go_round
      case rel => exact ⟨k + 1, by omega, by go_num, rfl⟩
      case measure => simp [intOf]; omega
    · obtain rfl : k = size := by omega
      go_wp2
      go_ret2
      exact ⟨rfl, rfl⟩

set_option maxHeartbeats 400000 in
set_option maxRecDepth 100000 in
theorem number_low (l : List UInt8) (A : Option Addr) (c B : Nat) (at_ size : Nat) (hs : size ≤ 8) (w : World) (hat : at_ + size ≤ l.length) (hl : l.length ≤ maxLen) (h : Lies w B 1 A l.length (u8s l)) :
    Calls Tryd.prog 47 #[.slice A l.length c, .int .i64 (at_ : Int), .int .i64 (size : Int), .bool true] w fun e w' => e = .returned (.tuple #[.int .u64 (accB (dnAt l at_ size) size : Nat), .bool true]) ∧ w = w' := by
  unfold maxLen at hl
  have Hw := Lib.hid h
  clear h
  go_enter Tryd.func47, Tryd.ntmps47
  go_wp2
  go_loop [10, 11] (fun n j => ∃ k : Nat, k ≤ size ∧ j = .int .i64 k ∧ n = .int .u64 (accB (dnAt l at_ size) k : Nat)) (fun _ i => size - (intOf i).toNat)
  case atStart => exact ⟨0, Nat.zero_le _, rfl, rfl⟩
  case round =>
    obtain ⟨k, hk, rfl, rfl⟩ := hrel
    by_cases hlt : k < size
    · obtain ⟨a, hx, rfl, hb, hc⟩ := Hw.out.atMap (k := at_ + size - 1 - k) (by omega)
      have hb8 := u8_lt l[at_ + size - 1 - k]
      have s0 := accB_step (dnAt l at_ size) k (by omega) _ (dnAt_eq l at_ size k hx)
      have s1 := accB_small (dnAt l at_ size) k (by omega)
      go_wp2
      go_round
      case rel => exact ⟨k + 1, by omega, by go_num, rfl⟩
      case measure => simp [intOf]; omega
    · obtain rfl : k = size := by omega
      go_wp2
      go_ret2
      exact ⟨rfl, rfl⟩

set_option maxRecDepth 100000 in
theorem number_out (A : Option Addr) (n c size : Nat) (at_ : Int) (low : Bool) (w : World) (hat : at_ < 0 ∨ (n : Int) - size < at_) (hs : size ≤ 8) (hl : n ≤ maxLen) :
    Calls Tryd.prog 47 #[.slice A n c, .int .i64 at_, .int .i64 (size : Int), .bool low] w fun e w' => e = .returned (.tuple #[.int .u64 0, .bool false]) ∧ w = w' := by
  unfold maxLen at hl
  by_cases h0 : at_ < 0
  · clear hat
    go_enter Tryd.func47, Tryd.ntmps47
    go_wp2
    go_ret2
    exact ⟨rfl, rfl⟩
  · have h1 : (n : Int) - size < at_ := by omega
    clear hat
    by_cases h2 : n < size
    · go_enter Tryd.func47, Tryd.ntmps47
      go_wp2
      go_ret2
      exact ⟨rfl, rfl⟩
    · go_enter Tryd.func47, Tryd.ntmps47
      go_wp2
      go_ret2
      exact ⟨rfl, rfl⟩

/-- The document's answers, as plain functions. -/
def numHas (n : Nat) (at_ : Int) (size : Nat) : Bool := decide (0 ≤ at_ ∧ at_ + size ≤ n)
def numOf (l : List UInt8) (at_ : Int) (size : Nat) (low : Bool) : Nat :=
  if 0 ≤ at_ ∧ at_ + size ≤ l.length then (if low then accB (dnAt l at_.toNat size) size else accB (bAt l at_.toNat) size) else 0
set_option maxRecDepth 100000 in
theorem number_any (l : List UInt8) (A : Option Addr) (c B : Nat) (at_ : Int) (size : Nat) (low : Bool) (hs : size ≤ 8) (w : World) (hl : l.length ≤ maxLen) (h : Lies w B 1 A l.length (u8s l)) :
    Calls Tryd.prog 47 #[.slice A l.length c, .int .i64 at_, .int .i64 (size : Int), .bool low] w fun e w' => e = .returned (.tuple #[.int .u64 (numOf l at_ size low : Nat), .bool (numHas l.length at_ size)]) ∧ w = w' := by
  by_cases hin : 0 ≤ at_ ∧ at_ + size ≤ l.length
  · obtain ⟨k, rfl⟩ := Int.eq_ofNat_of_zero_le hin.1
    have e1 : numHas l.length (k : Int) size = true := by simp only [numHas, decide_eq_true_eq]; exact hin
    cases low
    · have e2 : numOf l (k : Int) size false = accB (bAt l k) size := by rw [numOf, if_pos hin]; rfl
      rw [e1, e2]
      exact number_high l A c B k size hs w (by omega) hl h
    · have e2 : numOf l (k : Int) size true = accB (dnAt l k size) size := by rw [numOf, if_pos hin]; rfl
      rw [e1, e2]
      exact number_low l A c B k size hs w (by omega) hl h
  · have e1 : numHas l.length at_ size = false := by simp only [numHas, decide_eq_false_iff_not]; exact hin
    have e2 : numOf l at_ size low = 0 := by rw [numOf, if_neg hin]
    rw [e1, e2]
    exact number_out A l.length c size at_ low w (by omega) hs hl

set_option maxRecDepth 100000 in
theorem read32_any (l : List UInt8) (A : Option Addr) (c B : Nat) (at_ : Int) (low : Bool) (w : World) (hl : l.length ≤ maxLen) (h : Lies w B 1 A l.length (u8s l)) :
    Calls Tryd.prog 107 #[.slice A l.length c, .int .i64 at_, .int .i64 (if low then 1 else 0)] w fun e w' => e = .returned (.tuple #[.int .u32 (numOf l at_ 4 low : Nat), .bool (numHas l.length at_ 4)]) ∧ ∃ n, w' = w.drewN n := by
  by_cases hin : 0 ≤ at_ ∧ at_ + (4 : Nat) ≤ l.length
  · obtain ⟨k, rfl⟩ := Int.eq_ofNat_of_zero_le hin.1
    have e1 : numHas l.length (k : Int) 4 = true := by simp only [numHas, decide_eq_true_eq]; exact hin
    have e2 : numOf l (k : Int) 4 low = accN (if low then 1 else 0) 4 4294967296 (bAt l k) 4 := by
      rw [numOf, if_pos hin]
      cases low
      · have := accN_high 4 (bAt l k) 4 (Nat.le_refl _)
        rw [Nat.sub_self, Nat.pow_zero, Nat.mul_one] at this
        exact this.symm
      · have := accN_low 4 (bAt l k) 4 (Nat.le_refl _)
        refine Eq.trans ?_ this.symm
        exact accB_rev4 (bAt l k) _ (fun j hj => by unfold dnAt bAt; rw [Int.toNat_natCast, show k + 4 - 1 - j = k + (4 - 1 - j) by omega])
    rw [e1, e2]
    exact read32_in l A c B k _ (by cases low <;> simp) w (by omega) hl h
  · have e1 : numHas l.length at_ 4 = false := by simp only [numHas, decide_eq_false_iff_not]; exact hin
    have e2 : numOf l at_ 4 low = 0 := by rw [numOf, if_neg hin]
    rw [e1, e2]
    exact (read32_out A l.length c at_ _ w (by omega) hl).mono fun e w' ⟨h1, h2⟩ => ⟨h1, 0, h2.symm⟩

set_option maxRecDepth 100000 in
theorem be32_any (l : List UInt8) (A : Option Addr) (c B : Nat) (at_ : Int) (w : World) (hl : l.length ≤ maxLen) (h : Lies w B 1 A l.length (u8s l)) :
    Calls Tryd.prog 68 #[.slice A l.length c, .int .i64 at_] w fun e w' => e = .returned (.tuple #[.int .u32 (numOf l at_ 4 false : Nat), .bool (numHas l.length at_ 4)]) ∧ ∃ n, w' = w.drewN n := by
  have L := Lib.hid (fun c' W' => read32_any l A c' B at_ false W' hl)
  have Hw := Lib.hid h
  clear h hl
  go_enter Tryd.func68, Tryd.ntmps68
  go_wp2_with (go_at_call 107; refine (L.out _ _ Hw.out).mono ?_; rintro e w' ⟨rfl, hn⟩)
  go_ret2
  exact ⟨rfl, hn⟩

set_option maxRecDepth 100000 in
theorem read64_any (l : List UInt8) (A : Option Addr) (c B : Nat) (at_ : Int) (low : Bool) (w : World) (hl : l.length ≤ maxLen) (h : Lies w B 1 A l.length (u8s l)) :
    Calls Tryd.prog 124 #[.slice A l.length c, .int .i64 at_, .int .i64 (if low then 1 else 0)] w fun e w' => e = .returned (.tuple #[.int .u64 (numOf l at_ 8 low : Nat), .bool (numHas l.length at_ 8)]) ∧ ∃ n, w' = w.drewN n := by
  by_cases hin : 0 ≤ at_ ∧ at_ + (8 : Nat) ≤ l.length
  · obtain ⟨k, rfl⟩ := Int.eq_ofNat_of_zero_le hin.1
    have e1 : numHas l.length (k : Int) 8 = true := by simp only [numHas, decide_eq_true_eq]; exact hin
    have e2 : numOf l (k : Int) 8 low = accN (if low then 1 else 0) 8 18446744073709551616 (bAt l k) 8 := by
      rw [numOf, if_pos hin]
      cases low
      · have := accN_high 8 (bAt l k) 8 (Nat.le_refl _)
        rw [Nat.sub_self, Nat.pow_zero, Nat.mul_one] at this
        exact this.symm
      · have := accN_low 8 (bAt l k) 8 (Nat.le_refl _)
        refine Eq.trans ?_ this.symm
        exact accB_rev8 (bAt l k) _ (fun j hj => by unfold dnAt bAt; rw [Int.toNat_natCast, show k + 8 - 1 - j = k + (8 - 1 - j) by omega])
    rw [e1, e2]
    exact read64_in l A c B k _ (by cases low <;> simp) w (by omega) hl h
  · have e1 : numHas l.length at_ 8 = false := by simp only [numHas, decide_eq_false_iff_not]; exact hin
    have e2 : numOf l at_ 8 low = 0 := by rw [numOf, if_neg hin]
    rw [e1, e2]
    exact (read64_out A l.length c at_ _ w (by omega) hl).mono fun e w' ⟨h1, h2⟩ => ⟨h1, 0, h2.symm⟩

set_option maxRecDepth 100000 in
theorem be64_any (l : List UInt8) (A : Option Addr) (c B : Nat) (at_ : Int) (w : World) (hl : l.length ≤ maxLen) (h : Lies w B 1 A l.length (u8s l)) :
    Calls Tryd.prog 109 #[.slice A l.length c, .int .i64 at_] w fun e w' => e = .returned (.tuple #[.int .u64 (numOf l at_ 8 false : Nat), .bool (numHas l.length at_ 8)]) ∧ ∃ n, w' = w.drewN n := by
  have L := Lib.hid (fun c' W' => read64_any l A c' B at_ false W' hl)
  have Hw := Lib.hid h
  clear h hl
  go_enter Tryd.func109, Tryd.ntmps109
  go_wp2_with (go_at_call 124; refine (L.out _ _ Hw.out).mono ?_; rintro e w' ⟨rfl, hn⟩)
  go_ret2
  exact ⟨rfl, hn⟩

end Go.Proofs.YtmcpmcicolpoeaaDoor
