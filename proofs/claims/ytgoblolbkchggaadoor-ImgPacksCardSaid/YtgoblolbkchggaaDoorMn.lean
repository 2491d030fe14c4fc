/- Merged: Num, Plain, Ref, Cat, Put, RPut, Str. -/
import Derived.WalkKit
import Derived.WalkSpells
import Derived.Deep.QuietTactic
import Derived.BigQuiet
import Derived.KernelRfl
import Derived.IntWalk
import Derived.Shelf.Strconv.Itoa0
import Derived.Laws.BitsAllLaws
import Derived.Laws.MakeOwn
import Derived.Laws.BytesArg
import Derived.Test.YtgoblolbkchggaaDoorChecked
import Derived.Test.YtgoblolbkchggaaDoorMa
/- word.read and its parts: sizes, shifts, numbers out of bytes. -/
namespace Go.Proofs.YtgoblolbkchggaaDoor
open Go.RowKit

def u64s (xs : List Nat) : List Value := xs.map fun (x : Nat) => Value.int .u64 (x : Int)


def ren129 : Go.Shelf.Ren := ⟨fun | 129 => 52 | n => n, fun | 53 => 45 | 3 => 3 | 4 => 4 | 46 => 92 | 5 => 5 | 9 => 9 | n => n, fun | n => n⟩
set_option maxRecDepth 100000 in
theorem lays129 : Go.Proofs.Lays.n129 Tryd.prog ren129 := {
  mixed := by kernel_rfl
  f129 := Tryd.func52.trans (congrArg some (by kernel_rfl))
  t3 := Tryd.underlying3
  a3 := Tryd.isAgg3
  z3 := Tryd.sizeOf3
  v3 := Tryd.zeroValue3
  t4 := Tryd.underlying4
  a4 := Tryd.isAgg4
  z4 := Tryd.sizeOf4
  v4 := Tryd.zeroValue4
  t5 := Tryd.underlying5
  a5 := Tryd.isAgg5
  z5 := Tryd.sizeOf5
  v5 := Tryd.zeroValue5
  t9 := Tryd.underlying9
  a9 := Tryd.isAgg9
  z9 := Tryd.sizeOf9
  v9 := Tryd.zeroValue9
  t46 := Tryd.underlying92
  a46 := Tryd.isAgg92
  z46 := Tryd.sizeOf92
  v46 := Tryd.zeroValue92
  t53 := Tryd.underlying45
  a53 := Tryd.isAgg45
  z53 := Tryd.sizeOf45
  v53 := Tryd.zeroValue45 }
set_option maxRecDepth 100000 in
theorem len64_any (x : Int) (w : World) (h0 : 0 ≤ x) (h1 : x ≤ 18446744073709551615) :
    Calls Tryd.prog 52 #[.int .u64 x] w fun e w' => e = .returned (.int .i64 (Lib.bitLen x.toNat)) ∧ w' = w := Any.bits_Len64 lays129 x w h0 h1
set_option maxRecDepth 100000 in
theorem len64_top (w : World) : Calls Tryd.prog 52 #[.int .u64 18446744073709551615] w fun e w' => e = .returned (.int .i64 64) ∧ w = w' :=
  (len64_any _ w (by decide) (by decide)).mono fun e w' ⟨h1, h2⟩ => ⟨h1.trans (congrArg (fun n : Nat => Ending.returned (.int .i64 (n : Int))) (show Lib.bitLen _ = 64 by decide +kernel)), h2.symm⟩
set_option maxRecDepth 100000 in
theorem len64_half (w : World) : Calls Tryd.prog 52 #[.int .u64 4294967295] w fun e w' => e = .returned (.int .i64 32) ∧ w = w' :=
  (len64_any _ w (by decide) (by decide)).mono fun e w' ⟨h1, h2⟩ => ⟨h1.trans (congrArg (fun n : Nat => Ending.returned (.int .i64 (n : Int))) (show Lib.bitLen _ = 32 by decide +kernel)), h2.symm⟩
set_option maxRecDepth 100000 in
theorem size32_any (w : World) : Calls Tryd.prog 47 #[] w fun e w' => e = .returned (.int .i64 4) ∧ w = w' := by
  go_enter Tryd.func47, Tryd.ntmps47
  go_wp2_with (go_at_call 52; refine (len64_half _).mono ?_; rintro e w' ⟨rfl, rfl⟩)
  go_ret
  exact ⟨rfl, rfl⟩
def shAt (o i m : Int) : Int := if o = 1 then 8 * i else 8 * (m - 1 - i)
set_option maxRecDepth 100000 in
theorem shAt_low (i m : Int) : shAt 1 i m = 8 * i := rfl
set_option maxRecDepth 100000 in
theorem shAt_high (i m : Int) : shAt 0 i m = 8 * (m - 1 - i) := rfl
set_option maxRecDepth 100000 in
theorem shift_any (o i m : Int) (ho : o = 0 ∨ o = 1) (h0 : 0 ≤ i) (h1 : i < m) (h2 : m ≤ 8) (w : World) :
    Calls Tryd.prog 48 #[.int .i64 o, .int .i64 i, .int .i64 m] w fun e w' => e = .returned (.int .i64 (shAt o i m)) ∧ w = w' := by
  rcases ho with rfl | rfl
  · go_enter Tryd.func48, Tryd.ntmps48
    go_wp2
    go_ret
    exact ⟨rfl, rfl⟩
  · go_enter Tryd.func48, Tryd.ntmps48
    go_wp2
    go_ret
    exact ⟨rfl, rfl⟩

/-- What stands in the number behind k rounds. -/
def accN (o : Int) (wide : Nat) (m : Nat) (b : Nat → UInt8) : Nat → Nat
  | 0 => 0
  | k + 1 => accN o wide m b k ||| ((b k).toNat * 2 ^ min (shAt o k wide).toNat (8 * wide) % m)
set_option maxRecDepth 100000 in
theorem accN_lt (o : Int) (wide n : Nat) (b : Nat → UInt8) (k : Nat) : accN o wide (2 ^ n) b k < 2 ^ n := by
  induction k with
  | zero => exact Nat.pow_pos (by decide)
  | succ k ih => exact Nat.or_lt_two_pow ih (Nat.mod_lt _ (Nat.pow_pos (by decide)))
set_option maxRecDepth 100000 in
theorem or_u32 (o : Int) (b : Nat → UInt8) (k : Nat) (x : Int) (hx : x = ((b k).toNat : Int)) :
    bits .or .u32 ((accN o 4 4294967296 b k : Nat) : Int) (x * 2 ^ min (shAt o k 4).toNat 32 % 4294967296) = ((accN o 4 4294967296 b (k + 1) : Nat) : Int) := by
  subst hx
  have h := accN_lt o 4 32 b k
  have e : ((b k).toNat : Int) * 2 ^ min (shAt o k 4).toNat 32 % 4294967296 = (((b k).toNat * 2 ^ min (shAt o k 4).toNat 32 % 4294967296 : Nat) : Int) := by simp
  rw [e, u32_or_nat _ _ h (Nat.mod_lt _ (by decide))]
  rfl
set_option maxRecDepth 100000 in
theorem or_u64 (o : Int) (b : Nat → UInt8) (k : Nat) (x : Int) (hx : x = ((b k).toNat : Int)) :
    bits .or .u64 ((accN o 8 18446744073709551616 b k : Nat) : Int) (IntKind.u64.wrap (x * 2 ^ min (shAt o k 8).toNat 64)) = ((accN o 8 18446744073709551616 b (k + 1) : Nat) : Int) := by
  subst hx
  have h := accN_lt o 8 64 b k
  have e : ((b k).toNat : Int) * 2 ^ min (shAt o k 8).toNat 64 % 18446744073709551616 = (((b k).toNat * 2 ^ min (shAt o k 8).toNat 64 % 18446744073709551616 : Nat) : Int) := by simp
  rw [IntKind.wrap_u64, e, u64_or_nat _ _ h (Nat.mod_lt _ (by decide))]
  rfl
def bAt (l : List UInt8) (at_ : Nat) : Nat → UInt8 := fun j => l.getD (at_ + j) 0
set_option maxRecDepth 100000 in
theorem bAt_eq (l : List UInt8) (at_ k : Nat) (h : at_ + k < l.length) : ((l[at_ + k].toNat : Nat) : Int) = ((bAt l at_ k).toNat : Int) := by
  unfold bAt
  rw [List.getD_eq_getElem?_getD, List.getElem?_eq_getElem h]; rfl

set_option maxHeartbeats 400000 in
set_option maxRecDepth 100000 in
theorem read32_in (l : List UInt8) (A : Option Addr) (c B : Nat) (at_ : Nat) (o : Int) (ho : o = 0 ∨ o = 1) (w : World) (hat : at_ + 4 ≤ l.length) (hl : l.length ≤ maxLen) (h : Lies w B 1 A l.length (u8s l)) :
    Calls Tryd.prog 42 #[.slice A l.length c, .int .i64 (at_ : Int), .int .i64 o] w fun e w' => e = .returned (.tuple #[.int .u32 (accN o 4 4294967296 (bAt l at_) 4 : Nat), .bool true]) ∧ ∃ n, w' = w.drewN n := by
  unfold maxLen at hl
  have HO := Lib.hid ho
  clear ho
  have Hw := Lib.hid h
  clear h
  go_enter Tryd.func42, Tryd.ntmps42
  go_wp2_with (go_at_call 47; refine (size32_any _).mono ?_; rintro e w' ⟨rfl, rfl⟩)
  go_loopw [9, 10, 24] (fun n i24 j W => ∃ k : Nat, k ≤ 4 ∧ j = .int .i64 k ∧ n = .int .u32 (accN o 4 4294967296 (bAt l at_) k : Nat) ∧ ∃ m, W = w.drewN m) (fun _ _ i _ => 4 - (intOf i).toNat)
  case atStart => exact ⟨0, Nat.zero_le _, rfl, rfl, 0, rfl⟩
  case round =>
    obtain ⟨k, hk, rfl, rfl, m, hm⟩ := hrel
    have hw : Lies wr B 1 A l.length (u8s l) := by rw [hm]; exact Hw.out.drewN m
    have Hm := Lib.hid hm
    clear hm
    by_cases hlt : k < 4
    · obtain ⟨a, hx, rfl, hb, hc⟩ := hw.atMap (k := at_ + k) (by omega)
      have hb8 := u8_lt l[at_ + k]
      go_wp2
      have s0 := or_u32 o (bAt l at_) k _ (bAt_eq l at_ k hx)
      have s1 : IntKind.i64.wrap ((at_ : Int) + k) = at_ + k := IntWalk.i64_in _ (by omega)
      have s2 : (0 : Int) ≤ at_ + k := by omega
      have s3 : ((at_ : Int) + k).toNat = at_ + k := by omega
      have s4 : (at_ : Int) + k < l.length := by omega
      have s5 : 0 ≤ shAt o k 4 := by rcases HO.out with rfl | rfl <;> simp only [shAt_low, shAt_high] <;> omega
      go_quiet ((go_at_call 48; exact quiet_eq (shift_any _ _ _ HO.out (by omega) (by omega) (by omega) _)))
      clear s0 s1 s2 s3 s4 s5
      go_wp2
      go_roundw
      case rel => exact ⟨k + 1, by omega, by go_num, rfl, m + nq, by rw [Hm.out, World.drewN_drewN]⟩
      case measure => simp [intOf]; omega
    · obtain rfl : k = 4 := by omega
      go_wp2
      go_ret2
      exact ⟨rfl, m, Hm.out⟩
set_option maxRecDepth 100000 in
theorem read32_out (A : Option Addr) (n c : Nat) (at_ o : Int) (w : World) (hat : at_ < 0 ∨ (n : Int) - 4 < at_) (hl : n ≤ maxLen) :
    Calls Tryd.prog 42 #[.slice A n c, .int .i64 at_, .int .i64 o] w fun e w' => e = .returned (.tuple #[.int .u32 0, .bool false]) ∧ w = w' := by
  unfold maxLen at hl
  by_cases h0 : at_ < 0
  · clear hat
    go_enter Tryd.func42, Tryd.ntmps42
    go_wp2_with (go_at_call 47; refine (size32_any _).mono ?_; rintro e w' ⟨rfl, rfl⟩)
    go_ret2
    exact ⟨rfl, rfl⟩
  · have h1 : (n : Int) - 4 < at_ := by omega
    have h2 : ¬ at_ < 0 := h0
    clear hat h0
    go_enter Tryd.func42, Tryd.ntmps42
    go_wp2_with (go_at_call 47; refine (size32_any _).mono ?_; rintro e w' ⟨rfl, rfl⟩)
    go_ret2
    exact ⟨rfl, rfl⟩

end Go.Proofs.YtgoblolbkchggaaDoor
/- Plain facts on numbers out of bytes: no program stands here. -/
namespace Go.Proofs.YtgoblolbkchggaaDoor

/-- Bytes, the highest ahead; the lowest ahead. -/
def accB (b : Nat → UInt8) : Nat → Nat
  | 0 => 0
  | k + 1 => accB b k * 256 + (b k).toNat
def leSum (b : Nat → UInt8) : Nat → Nat
  | 0 => 0
  | k + 1 => leSum b k + (b k).toNat * 256 ^ k
theorem accB_lt (b : Nat → UInt8) (k : Nat) : accB b k < 256 ^ k := by
  induction k with
  | zero => exact Nat.one_pos
  | succ k ih => have := (b k).toNat_lt; simp only [accB]; rw [Nat.pow_succ]; omega
theorem leSum_lt (b : Nat → UInt8) (k : Nat) : leSum b k < 256 ^ k := by
  induction k with
  | zero => exact Nat.one_pos
  | succ k ih =>
    have := (b k).toNat_lt
    simp only [leSum]
    have h2 : (b k).toNat * 256 ^ k ≤ 255 * 256 ^ k := Nat.mul_le_mul_right _ (by omega)
    rw [Nat.pow_succ]; omega
theorem pow256 (k : Nat) : (256 : Nat) ^ k = 2 ^ (8 * k) := by
  rw [show (256 : Nat) = 2 ^ 8 from rfl, ← Nat.pow_mul]
theorem accB_or (b : Nat → UInt8) (k : Nat) : accB b k * 256 ||| (b k).toNat = accB b (k + 1) := by
  have := (b k).toNat_lt
  exact nat_join 8 _ _ (by omega) (by omega)
theorem high_or (b : Nat → UInt8) (w k : Nat) (hk : k < w) :
    accB b k * 256 ^ (w - k) ||| ((b k).toNat * 2 ^ (8 * (w - 1 - k)) % 2 ^ (8 * w)) = accB b (k + 1) * 256 ^ (w - (k + 1)) := by
  have hb := (b k).toNat_lt
  have e1 : w - k = (w - (k + 1)) + 1 := by omega
  have e2 : w - 1 - k = w - (k + 1) := by omega
  have hlt : (b k).toNat * 2 ^ (8 * (w - (k + 1))) < 2 ^ (8 * (w - k)) := by
    rw [← pow256, ← pow256, e1, Nat.pow_succ, Nat.mul_comm _ 256]
    exact Nat.mul_lt_mul_of_pos_right (by omega) (Nat.pow_pos (by decide))
  have hle : 2 ^ (8 * (w - k)) ≤ 2 ^ (8 * w) := Nat.pow_le_pow_right (by decide) (by omega)
  rw [e2, Nat.mod_eq_of_lt (by omega)]
  rw [pow256 (w - k), nat_join (8 * (w - k)) _ _ (Nat.mul_mod_left _ _) hlt, ← pow256, ← pow256, e1, Nat.pow_succ]
  simp only [accB]
  rw [Nat.add_mul, Nat.mul_assoc, Nat.mul_comm 256]
theorem low_or (b : Nat → UInt8) (w k : Nat) (hk : k < w) :
    leSum b k ||| ((b k).toNat * 2 ^ (8 * k) % 2 ^ (8 * w)) = leSum b (k + 1) := by
  have hb := (b k).toNat_lt
  have hlt : (b k).toNat * 2 ^ (8 * k) < 2 ^ (8 * w) := by
    have h1 : (b k).toNat * 2 ^ (8 * k) < 2 ^ 8 * 2 ^ (8 * k) := Nat.mul_lt_mul_of_pos_right (by omega) (Nat.pow_pos (by decide))
    rw [← Nat.pow_add] at h1
    exact Nat.lt_of_lt_of_le h1 (Nat.pow_le_pow_right (by decide) (by omega))
  have hs := leSum_lt b k
  rw [pow256] at hs
  rw [Nat.mod_eq_of_lt hlt, Nat.or_comm, nat_join (8 * k) _ _ (Nat.mul_mod_left _ _) hs]
  simp only [leSum]
  rw [pow256, Nat.add_comm]
theorem accB_rev4 (b c : Nat → UInt8) (h : ∀ j, j < 4 → c j = b (3 - j)) : accB c 4 = leSum b 4 := by
  have e0 : c 0 = b 3 := h 0 (by omega)
  have e1 : c 1 = b 2 := h 1 (by omega)
  have e2 : c 2 = b 1 := h 2 (by omega)
  have e3 : c 3 = b 0 := h 3 (by omega)
  simp only [accB, leSum, e0, e1, e2, e3]
  omega
theorem accB_rev8 (b c : Nat → UInt8) (h : ∀ j, j < 8 → c j = b (7 - j)) : accB c 8 = leSum b 8 := by
  have e0 : c 0 = b 7 := h 0 (by omega)
  have e1 : c 1 = b 6 := h 1 (by omega)
  have e2 : c 2 = b 5 := h 2 (by omega)
  have e3 : c 3 = b 4 := h 3 (by omega)
  have e4 : c 4 = b 3 := h 4 (by omega)
  have e5 : c 5 = b 2 := h 5 (by omega)
  have e6 : c 6 = b 1 := h 6 (by omega)
  have e7 : c 7 = b 0 := h 7 (by omega)
  simp only [accB, leSum, e0, e1, e2, e3, e4, e5, e6, e7]
  omega
end Go.Proofs.YtgoblolbkchggaaDoor
/- portreeveref01.Number; that word.read answers the same. -/
namespace Go.Proofs.YtgoblolbkchggaaDoor
open Go.RowKit

set_option maxRecDepth 100000 in
theorem accN_high (w : Nat) (b : Nat → UInt8) (k : Nat) (hk : k ≤ w) : accN 0 w (2 ^ (8 * w)) b k = accB b k * 256 ^ (w - k) := by
  induction k with
  | zero => simp [accN, accB]
  | succ k ih =>
    have e : (shAt 0 (k : Int) (w : Int)).toNat = 8 * (w - 1 - k) := by rw [shAt_high]; omega
    rw [accN, ih (by omega), e, Nat.min_eq_left (by omega), high_or b w k (by omega)]
set_option maxRecDepth 100000 in
theorem accN_low (w : Nat) (b : Nat → UInt8) (k : Nat) (hk : k ≤ w) : accN 1 w (2 ^ (8 * w)) b k = leSum b k := by
  induction k with
  | zero => simp [accN, leSum]
  | succ k ih =>
    have e : (shAt 1 (k : Int) (w : Int)).toNat = 8 * k := by rw [shAt_low]; omega
    rw [accN, ih (by omega), e, Nat.min_eq_left (by omega), low_or b w k (by omega)]

set_option maxRecDepth 100000 in
theorem accB_step (b : Nat → UInt8) (k : Nat) (hk : k < 8) (x : Int) (hx : x = ((b k).toNat : Int)) :
    bits .or .u64 (((accB b k : Nat) : Int) * 256) x = ((accB b (k + 1) : Nat) : Int) := by
  subst hx
  have h := accB_lt b k
  have hp : 256 ^ k ≤ 256 ^ 7 := Nat.pow_le_pow_right (by decide) (by omega)
  have hb := (b k).toNat_lt
  have e : ((accB b k : Nat) : Int) * 256 = ((accB b k * 256 : Nat) : Int) := by simp
  rw [e, u64_or_nat _ _ (by omega) (by omega), accB_or]
set_option maxRecDepth 100000 in
theorem accB_small (b : Nat → UInt8) (k : Nat) (hk : k < 8) : ((accB b k : Nat) : Int) ≤ 72057594037927935 := by
  have h := accB_lt b k
  have hp : 256 ^ k ≤ 256 ^ 7 := Nat.pow_le_pow_right (by decide) (by omega)
  omega
def dnAt (l : List UInt8) (at_ size : Nat) : Nat → UInt8 := fun j => l.getD (at_ + size - 1 - j) 0
set_option maxRecDepth 100000 in
theorem dnAt_eq (l : List UInt8) (at_ size k : Nat) (h : at_ + size - 1 - k < l.length) : ((l[at_ + size - 1 - k].toNat : Nat) : Int) = ((dnAt l at_ size k).toNat : Int) := by
  unfold dnAt
  rw [List.getD_eq_getElem?_getD, List.getElem?_eq_getElem h]; rfl

set_option maxHeartbeats 400000 in
set_option maxRecDepth 100000 in
theorem number_high (l : List UInt8) (A : Option Addr) (c B : Nat) (at_ size : Nat) (hs : size ≤ 8) (w : World) (hat : at_ + size ≤ l.length) (hl : l.length ≤ maxLen) (h : Lies w B 1 A l.length (u8s l)) :
    Calls Tryd.prog 35 #[.slice A l.length c, .int .i64 (at_ : Int), .int .i64 (size : Int), .bool false] w fun e w' => e = .returned (.tuple #[.int .u64 (accB (bAt l at_) size : Nat), .bool true]) ∧ w = w' := by
  unfold maxLen at hl
  have Hw := Lib.hid h
  clear h
  go_enter Tryd.func35, Tryd.ntmps35
  go_wp2
  go_loop [10, 11] (fun n j => ∃ k : Nat, k ≤ size ∧ j = .int .i64 k ∧ n = .int .u64 (accB (bAt l at_) k : Nat)) (fun _ i => size - (intOf i).toNat)
  case atStart => exact ⟨0, Nat.zero_le _, rfl, rfl⟩
  case round =>
    obtain ⟨k, hk, rfl, rfl⟩ := hrel
    by_cases hlt : k < size
    · obtain ⟨a, hx, rfl, hb, hc⟩ := Hw.out.atMap (k := at_ + k) (by omega)
      have hb8 := u8_lt l[at_ + k]
      have s0 := accB_step (bAt l at_) k (by omega) _ (bAt_eq l at_ k hx)
      have s1 := accB_small (bAt l at_) k (by omega)
      go_wp2
      go_round
      case rel => exact ⟨k + 1, by omega, by go_num, rfl⟩
      case measure => simp [intOf]; omega
    · obtain rfl : k = size := by omega
      go_wp2
      go_ret2
      exact ⟨rfl, rfl⟩

set_option maxHeartbeats 400000 in
set_option maxRecDepth 100000 in
theorem number_low (l : List UInt8) (A : Option Addr) (c B : Nat) (at_ size : Nat) (hs : size ≤ 8) (w : World) (hat : at_ + size ≤ l.length) (hl : l.length ≤ maxLen) (h : Lies w B 1 A l.length (u8s l)) :
    Calls Tryd.prog 35 #[.slice A l.length c, .int .i64 (at_ : Int), .int .i64 (size : Int), .bool true] w fun e w' => e = .returned (.tuple #[.int .u64 (accB (dnAt l at_ size) size : Nat), .bool true]) ∧ w = w' := by
  unfold maxLen at hl
  have Hw := Lib.hid h
  clear h
  go_enter Tryd.func35, Tryd.ntmps35
  go_wp2
  go_loop [10, 11] (fun n j => ∃ k : Nat, k ≤ size ∧ j = .int .i64 k ∧ n = .int .u64 (accB (dnAt l at_ size) k : Nat)) (fun _ i => size - (intOf i).toNat)
  case atStart => exact ⟨0, Nat.zero_le _, rfl, rfl⟩
  case round =>
    obtain ⟨k, hk, rfl, rfl⟩ := hrel
    by_cases hlt : k < size
    · obtain ⟨a, hx, rfl, hb, hc⟩ := Hw.out.atMap (k := at_ + size - 1 - k) (by omega)
      have hb8 := u8_lt l[at_ + size - 1 - k]
      have s0 := accB_step (dnAt l at_ size) k (by omega) _ (dnAt_eq l at_ size k hx)
      have s1 := accB_small (dnAt l at_ size) k (by omega)
      go_wp2
      go_round
      case rel => exact ⟨k + 1, by omega, by go_num, rfl⟩
      case measure => simp [intOf]; omega
    · obtain rfl : k = size := by omega
      go_wp2
      go_ret2
      exact ⟨rfl, rfl⟩

set_option maxRecDepth 100000 in
theorem number_out (A : Option Addr) (n c size : Nat) (at_ : Int) (low : Bool) (w : World) (hat : at_ < 0 ∨ (n : Int) - size < at_) (hs : size ≤ 8) (hl : n ≤ maxLen) :
    Calls Tryd.prog 35 #[.slice A n c, .int .i64 at_, .int .i64 (size : Int), .bool low] w fun e w' => e = .returned (.tuple #[.int .u64 0, .bool false]) ∧ w = w' := by
  unfold maxLen at hl
  by_cases h0 : at_ < 0
  · clear hat
    go_enter Tryd.func35, Tryd.ntmps35
    go_wp2
    go_ret2
    exact ⟨rfl, rfl⟩
  · have h1 : (n : Int) - size < at_ := by omega
    clear hat
    by_cases h2 : n < size
    · go_enter Tryd.func35, Tryd.ntmps35
      go_wp2
      go_ret2
      exact ⟨rfl, rfl⟩
    · go_enter Tryd.func35, Tryd.ntmps35
      go_wp2
      go_ret2
      exact ⟨rfl, rfl⟩

/-- The document's answers, as plain functions. -/
def numHas (n : Nat) (at_ : Int) (size : Nat) : Bool := decide (0 ≤ at_ ∧ at_ + size ≤ n)
def numOf (l : List UInt8) (at_ : Int) (size : Nat) (low : Bool) : Nat :=
  if 0 ≤ at_ ∧ at_ + size ≤ l.length then (if low then accB (dnAt l at_.toNat size) size else accB (bAt l at_.toNat) size) else 0
set_option maxRecDepth 100000 in
theorem number_any (l : List UInt8) (A : Option Addr) (c B : Nat) (at_ : Int) (size : Nat) (low : Bool) (hs : size ≤ 8) (w : World) (hl : l.length ≤ maxLen) (h : Lies w B 1 A l.length (u8s l)) :
    Calls Tryd.prog 35 #[.slice A l.length c, .int .i64 at_, .int .i64 (size : Int), .bool low] w fun e w' => e = .returned (.tuple #[.int .u64 (numOf l at_ size low : Nat), .bool (numHas l.length at_ size)]) ∧ w = w' := by
  by_cases hin : 0 ≤ at_ ∧ at_ + size ≤ l.length
  · obtain ⟨k, rfl⟩ := Int.eq_ofNat_of_zero_le hin.1
    have e1 : numHas l.length (k : Int) size = true := by simp only [numHas, decide_eq_true_eq]; exact hin
    cases low
    · have e2 : numOf l (k : Int) size false = accB (bAt l k) size := by rw [numOf, if_pos hin]; rfl
      rw [e1, e2]
      exact number_high l A c B k size hs w (by omega) hl h
    · have e2 : numOf l (k : Int) size true = accB (dnAt l k size) size := by rw [numOf, if_pos hin]; rfl
      rw [e1, e2]
      exact number_low l A c B k size hs w (by omega) hl h
  · have e1 : numHas l.length at_ size = false := by simp only [numHas, decide_eq_false_iff_not]; exact hin
    have e2 : numOf l at_ size low = 0 := by rw [numOf, if_neg hin]
    rw [e1, e2]
    exact number_out A l.length c size at_ low w (by omega) hs hl

set_option maxRecDepth 100000 in
theorem read32_any (l : List UInt8) (A : Option Addr) (c B : Nat) (at_ : Int) (low : Bool) (w : World) (hl : l.length ≤ maxLen) (h : Lies w B 1 A l.length (u8s l)) :
    Calls Tryd.prog 42 #[.slice A l.length c, .int .i64 at_, .int .i64 (if low then 1 else 0)] w fun e w' => e = .returned (.tuple #[.int .u32 (numOf l at_ 4 low : Nat), .bool (numHas l.length at_ 4)]) ∧ ∃ n, w' = w.drewN n := by
  by_cases hin : 0 ≤ at_ ∧ at_ + (4 : Nat) ≤ l.length
  · obtain ⟨k, rfl⟩ := Int.eq_ofNat_of_zero_le hin.1
    have e1 : numHas l.length (k : Int) 4 = true := by simp only [numHas, decide_eq_true_eq]; exact hin
    have e2 : numOf l (k : Int) 4 low = accN (if low then 1 else 0) 4 4294967296 (bAt l k) 4 := by
      rw [numOf, if_pos hin]
      cases low
      · have := accN_high 4 (bAt l k) 4 (Nat.le_refl _)
        rw [Nat.sub_self, Nat.pow_zero, Nat.mul_one] at this
        exact this.symm
      · have := accN_low 4 (bAt l k) 4 (Nat.le_refl _)
        refine Eq.trans ?_ this.symm
        exact accB_rev4 (bAt l k) _ (fun j hj => by unfold dnAt bAt; rw [Int.toNat_natCast, show k + 4 - 1 - j = k + (4 - 1 - j) by omega])
    rw [e1, e2]
    exact read32_in l A c B k _ (by cases low <;> simp) w (by omega) hl h
  · have e1 : numHas l.length at_ 4 = false := by simp only [numHas, decide_eq_false_iff_not]; exact hin
    have e2 : numOf l at_ 4 low = 0 := by rw [numOf, if_neg hin]
    rw [e1, e2]
    exact (read32_out A l.length c at_ _ w (by omega) hl).mono fun e w' ⟨h1, h2⟩ => ⟨h1, 0, h2.symm⟩

set_option maxRecDepth 100000 in
theorem be32_any (l : List UInt8) (A : Option Addr) (c B : Nat) (at_ : Int) (w : World) (hl : l.length ≤ maxLen) (h : Lies w B 1 A l.length (u8s l)) :
    Calls Tryd.prog 33 #[.slice A l.length c, .int .i64 at_] w fun e w' => e = .returned (.tuple #[.int .u32 (numOf l at_ 4 false : Nat), .bool (numHas l.length at_ 4)]) ∧ ∃ n, w' = w.drewN n := by
  have L := Lib.hid (fun c' W' => read32_any l A c' B at_ false W' hl)
  have Hw := Lib.hid h
  clear h hl
  go_enter Tryd.func33, Tryd.ntmps33
  go_wp2_with (go_at_call 42; refine (L.out _ _ Hw.out).mono ?_; rintro e w' ⟨rfl, hn⟩)
  go_ret2
  exact ⟨rfl, hn⟩

end Go.Proofs.YtgoblolbkchggaaDoor
/- word.Cat: parts, one behind the other, in new memory. -/
namespace Go.Proofs.YtgoblolbkchggaaDoor
open Go.RowKit

/-- A part: where it lies, its room, its bytes. -/
abbrev Part := Option Addr × Nat × List UInt8
def partV (p : Part) : Value := .slice p.1 p.2.2.length p.2.1
def catAll (ps : List Part) : List UInt8 := (ps.map fun p => p.2.2).flatten
set_option maxRecDepth 100000 in
theorem cat_succ (ps : List Part) (k : Nat) (h : k < ps.length) : catAll (ps.take (k + 1)) = catAll (ps.take k) ++ ps[k].2.2 := by
  unfold catAll
  rw [List.take_succ_eq_append_getElem h, List.map_append, List.flatten_append]; simp
set_option maxRecDepth 100000 in
theorem cat_take_le (ps : List Part) (k : Nat) : (catAll (ps.take k)).length ≤ (catAll ps).length := by
  have h : catAll ps = catAll (ps.take k) ++ catAll (ps.drop k) := by
    unfold catAll
    rw [← List.flatten_append, ← List.map_append, List.take_append_drop]
  rw [h, List.length_append]; omega

/-- New bytes: a row of the call's own, all else as it was. -/
def Bytes (w : World) (l : List UInt8) (e : Ending) (w' : World) : Prop :=
  ∃ v, e = .returned v ∧ w'.ownsRow w.heap.size 5 1 v l.length (u8s l) ∧ Below w.heap.size w w'

set_option maxRecDepth 100000 in
theorem u8_info : (Tryd.prog.info? 5).map (fun i => (i.zero, i.size, i.bytes)) = some (some (.int .u8 0), 1, 1) := by kernel_rfl
set_option maxRecDepth 100000 in
theorem make_u8 (n : Nat) (hn : n ≤ 140737488355328) (w : World) : ∃ cur : Array Value, cur.size = n ∧
    (Instr.makeSlice 27 (.int .i64 0) (.int .i64 (n : Int))).run Tryd.prog w = .ok (.slice (some ⟨w.heap.size, 0, none⟩) 0 n) (w.alloc (.cells cur 5)) := by
  obtain ⟨i0, hi, hz0, hz1, hz2⟩ := info_parts u8_info
  have h := run_make (P := Tryd.prog) (w := w) 27 5 i0 (.int .u8 0) Tryd.underlying27 hi hz0 .i64 .i64 0 (n : Int) (by omega) (by omega) (by rw [hz2]; omega) (by omega)
  simp only [Int.toNat_natCast, Int.toNat_zero, hz1] at h
  exact ⟨_, by simp [madeCells, Value.cells], h⟩

set_option maxHeartbeats 400000 in
set_option maxRecDepth 100000 in
theorem cat_any (ps : List Part) (A : Option Addr) (c B : Nat) (w : World) (hB : B ≤ w.heap.size) (h : Lies w B 1 A ps.length (ps.map partV))
    (hp : ∀ p ∈ ps, Lies w B 1 p.1 p.2.2.length (u8s p.2.2)) (htot : (catAll ps).length ≤ 70368744177664) (hn : ps.length ≤ maxLen) :
    Calls Tryd.prog 26 #[.slice A ps.length c] w (Bytes w (catAll ps)) := by
  unfold maxLen at hn
  obtain ⟨i0, hi, hz0, hz1, hz2⟩ := info_parts u8_info
  have Hi := Lib.hid (And.intro hi (And.intro hz0 (And.intro hz1 hz2)))
  clear hi hz0 hz1 hz2
  have Hh := Lib.hid h
  have Hp := Lib.hid hp
  clear h hp
  go_enter Tryd.func26, Tryd.ntmps26
  go_wp2
  go_loop [3, 11] (fun n j => ∃ k : Nat, k ≤ ps.length ∧ j = .int .i64 k ∧ n = .int .i64 ((catAll (ps.take k)).length : Nat)) (fun _ i => ps.length - (intOf i).toNat)
  case atStart => exact ⟨0, Nat.zero_le _, rfl, rfl⟩
  case round =>
    obtain ⟨k, hk, rfl, rfl⟩ := hrel
    have hle := cat_take_le ps k
    by_cases hlt : k < ps.length
    · obtain ⟨a, hx, rfl, hb, hc⟩ := Hh.out.atMap hlt
      have hs : (catAll (ps.take (k + 1))).length = (catAll (ps.take k)).length + ps[k].2.2.length := by rw [cat_succ ps k hlt, List.length_append]
      have hle2 := cat_take_le ps (k + 1)
      have hl2 : (catAll (ps.take k)).length + ps[k].2.2.length ≤ 70368744177664 := by omega
      have Hs := Lib.hid hs
      clear hs hle2
      unfold partV at hc
      go_wp2
      go_round
      case rel => exact ⟨k + 1, by omega, by go_num, by rw [Hs.out]; go_num⟩
      case measure => simp [intOf]; omega
    · obtain rfl : k = ps.length := by omega
      obtain ⟨cur, hcur, hmk⟩ := make_u8 (catAll ps).length (by omega) w
      have Hcur := Lib.hid hcur
      clear hcur
      rw [List.take_length] at *
      have hpo := Lib.hid hlt
      clear hlt hle
      go_wp2
      obtain ⟨W0, hW0⟩ : ∃ W0, W0 = w.alloc (.cells cur 5) := ⟨_, rfl⟩
      have hown0 : W0.ownsRow w.heap.size 5 1 (.slice (some ⟨w.heap.size, 0, none⟩) 0 (catAll ps).length) 0 (u8s []) := by
        rw [hW0]; exact World.ownsRow_made w cur _ (Nat.le_refl _) (by unfold maxLen; omega) (by rw [Hcur.out, Nat.mul_one])
      have hbel0 : Below w.heap.size w W0 := by rw [hW0]; exact (Below.refl _ _).alloc (Nat.le_refl _) _
      rw [← hW0]
      clear hW0 hmk
      go_loopw [6, 24] (fun v j W => ∃ k : Nat, k ≤ ps.length ∧ j = .int .i64 k ∧ W.ownsRow w.heap.size 5 1 v (catAll (ps.take k)).length (u8s (catAll (ps.take k))) ∧ Below w.heap.size w W) (fun _ i _ => ps.length - (intOf i).toNat)
      case atStart => exact ⟨0, Nat.zero_le _, rfl, hown0, hbel0⟩
      case round =>
        obtain ⟨k, hk, rfl, hown, hbel⟩ := hrel
        have Hown := Lib.hid hown
        have Hbel := Lib.hid hbel
        clear hown0 hbel0 hown hbel
        by_cases hlt : k < ps.length
        · obtain ⟨a, hx, rfl, hb, hc⟩ := ((Hh.out.wide hB).below Hbel.out).atMap hlt
          have hs : (catAll (ps.take (k + 1))) = (catAll (ps.take k)) ++ ps[k].2.2 := cat_succ ps k hlt
          have hle2 := cat_take_le ps (k + 1)
          have hl2 : (catAll (ps.take k)).length + ps[k].2.2.length ≤ 70368744177664 := by rw [hs, List.length_append] at hle2; omega
          have hr := ((Hp.out _ (List.getElem_mem hx)).wide hB).below Hbel.out
          have Hs := Lib.hid hs
          have Hr := Lib.hid hr
          clear hs hle2 hr
          unfold partV at hc
          obtain ⟨hi, hz0, hz1, hz2⟩ := Hi.out
          have hfin : ∀ v' w', w'.ownsRow w.heap.size 5 1 v' ((catAll (ps.take k)).length + ps[k].2.2.length) (u8s (catAll (ps.take k)) ++ u8s ps[k].2.2) → wr.grownBy w' u6.ownBlock → Below w.heap.size w w' ∧ w'.ownsRow w.heap.size 5 1 v' (catAll (ps.take (k + 1))).length (u8s (catAll (ps.take (k + 1)))) := by
            intro v' w' h1 h2
            refine ⟨Hbel.out.grown h2 Hbel.out.size (fun g hg => (Hown.out.lt g hg).1), ?_⟩
            rw [Hs.out, List.length_append, ← u8s_append]; exact h1
          go_wp2_with (at_builtin; refine wpList_app rfl (.tmp 28) (.tmp 29) 27 rfl w.heap.size 5 i0 (.int .u8 0) 1 Tryd.underlying27 hi hz0 hz1 hz2 rfl _ _ _ rfl Hown.out _ _ _ _ _ rfl Hr.out (u8s_one _) (by unfold maxLen; omega) (by omega) Hbel.out.size ?_; intro v' w' h1 h2 h3)
          obtain ⟨f1, f2⟩ := hfin v' w' h1 h2
          clear hfin hi hz0 hz1 hz2 h1 h2 h3
          go_roundw
          case rel => exact ⟨k + 1, by omega, by go_num, f2, f1⟩
          case measure => simp [intOf]; omega
        · obtain rfl : k = ps.length := by omega
          go_wp2
          go_ret
          have h1 := Hown.out
          rw [List.take_length] at h1
          exact ⟨_, rfl, h1, Hbel.out⟩
end Go.Proofs.YtgoblolbkchggaaDoor
/- word.put and the four calls over it. -/
namespace Go.Proofs.YtgoblolbkchggaaDoor
open Go.RowKit

/-- Byte i of a number of so many bytes. -/
def putByte (o : Int) (m : Nat) (n i : Nat) : UInt8 := UInt8.ofNat (n / 2 ^ (shAt o i m).toNat % 256)
def numBytes (o : Int) (m : Nat) (n : Nat) : List UInt8 := (List.range m).map (putByte o m n)
def putAll (o : Int) (m : Nat) (ns : List Nat) : List UInt8 := (ns.map (numBytes o m)).flatten
set_option maxRecDepth 100000 in
theorem putAll_succ (o : Int) (m : Nat) (ns : List Nat) (k : Nat) (h : k < ns.length) : putAll o m (ns.take (k + 1)) = putAll o m (ns.take k) ++ numBytes o m ns[k] := by
  unfold putAll
  rw [List.take_succ_eq_append_getElem h, List.map_append, List.flatten_append]; simp
set_option maxRecDepth 100000 in
theorem numBytes_length (o : Int) (m n : Nat) : (numBytes o m n).length = m := by simp [numBytes]
set_option maxRecDepth 100000 in
theorem putAll_length (o : Int) (m : Nat) (ns : List Nat) : (putAll o m ns).length = m * ns.length := by
  induction ns with
  | nil => simp [putAll]
  | cons n ns ih =>
    have : putAll o m (n :: ns) = numBytes o m n ++ putAll o m ns := by simp [putAll]
    rw [this, List.length_append, ih, numBytes_length, List.length_cons, Nat.mul_succ, Nat.add_comm]
def firstBytes (o : Int) (m n j : Nat) : List UInt8 := (List.range j).map (putByte o m n)
set_option maxRecDepth 100000 in
theorem firstBytes_succ (o : Int) (m n j : Nat) : firstBytes o m n (j + 1) = firstBytes o m n j ++ [putByte o m n j] := by
  unfold firstBytes
  rw [List.range_succ, List.map_append]; rfl
set_option maxRecDepth 100000 in
theorem firstBytes_length (o : Int) (m n j : Nat) : (firstBytes o m n j).length = j := by simp [firstBytes]
set_option maxRecDepth 100000 in
theorem toNat_ofNat_mod (n : Nat) : ((UInt8.ofNat (n % 256)).toNat : Int) = ((n % 256 : Nat) : Int) := by
  rw [UInt8.toNat_ofNat']; omega
def u32s (xs : List Nat) : List Value := xs.map fun (x : Nat) => Value.int .u32 (x : Int)

set_option maxRecDepth 100000 in
theorem shr_byte32 (o : Int) (n i : Nat) (ho : o = 0 ∨ o = 1) (hi : i < 4) :
    IntKind.u8.wrap ((n : Int) / 2 ^ min (shAt o i 4).toNat 32) = ((putByte o 4 n i).toNat : Int) := by
  have hs : (shAt o i 4).toNat ≤ 32 := by rcases ho with rfl | rfl <;> simp only [shAt_low, shAt_high] <;> omega
  rw [Nat.min_eq_left hs, putByte, toNat_ofNat_mod, IntKind.wrap_u8]
  simp
set_option maxHeartbeats 400000 in
set_option maxRecDepth 100000 in
theorem put32_any (b : List UInt8) (ns : List Nat) (hns : ∀ n ∈ ns, n < 4294967296) (A D : Option Addr) (c d B : Nat) (o : Int) (ho : o = 0 ∨ o = 1) (w : World) (hB : B ≤ w.heap.size)
    (hb : Lies w B 1 A b.length (u8s b)) (hl : Lies w B 1 D ns.length (u32s ns)) (htot : b.length + 4 * ns.length ≤ 70368744177664) :
    Calls Tryd.prog 39 #[.slice A b.length c, .slice D ns.length d, .int .i64 o] w (Bytes w (b ++ putAll o 4 ns)) := by
  obtain ⟨i0, hi, hz0, hz1, hz2⟩ := info_parts u8_info
  have Hi := Lib.hid (And.intro hi (And.intro hz0 (And.intro hz1 hz2)))
  have HO := Lib.hid ho
  have Hb := Lib.hid hb
  have Hl := Lib.hid hl
  have Hns := Lib.hid hns
  clear hi hz0 hz1 hz2 hb hl ho hns
  obtain ⟨cur, hcur, hmk⟩ := make_u8 (4 * ns.length) (by omega) w
  have Hcur := Lib.hid hcur
  clear hcur
  have hmul : ((4 * ns.length : Nat) : Int) = 4 * (ns.length : Int) := by omega
  rw [hmul] at hmk
  clear hmul
  go_enter Tryd.func39, Tryd.ntmps39
  go_wp2_with (go_at_call 47; refine (size32_any _).mono ?_; rintro e w' ⟨rfl, rfl⟩)
  obtain ⟨W0, hW0⟩ : ∃ W0, W0 = w.alloc (.cells cur 5) := ⟨_, rfl⟩
  have hown0 : W0.ownsRow w.heap.size 5 1 (.slice (some ⟨w.heap.size, 0, none⟩) 0 (4 * ns.length)) 0 (u8s []) := by
    rw [hW0]; exact World.ownsRow_made w cur _ (Nat.le_refl _) (by unfold maxLen; omega) (by rw [Hcur.out, Nat.mul_one])
  have hbel0 : Below w.heap.size w W0 := by rw [hW0]; exact (Below.refl _ _).alloc (Nat.le_refl _) _
  rw [← hW0]
  clear hW0 hmk
  go_loopw [8, 20] (fun v j W => ∃ k : Nat, k ≤ ns.length ∧ j = .int .i64 k ∧ W.ownsRow w.heap.size 5 1 v (4 * k) (u8s (putAll o 4 (ns.take k))) ∧ Below w.heap.size w W) (fun _ i _ => ns.length - (intOf i).toNat)
  case atStart => exact ⟨0, Nat.zero_le _, rfl, hown0, hbel0⟩
  case round =>
    obtain ⟨k, hk, rfl, hown, hbel⟩ := hrel
    have Hown := Lib.hid hown
    have Hbel := Lib.hid hbel
    clear hown0 hbel0 hown hbel
    by_cases hlt : k < ns.length
    · obtain ⟨a, hx, rfl, hab, hc⟩ := ((Hl.out.wide hB).below Hbel.out).atMap hlt
      have hnb := Hns.out _ (List.getElem_mem hx)
      go_wp2
      obtain ⟨wo, rfl⟩ : ∃ wo : World, wo = wr := ⟨_, rfl⟩
      go_loopw [8, 25] (fun v j W => ∃ i : Nat, i ≤ 4 ∧ j = .int .i64 i ∧ W.ownsRow w.heap.size 5 1 v (4 * k + i) (u8s (putAll o 4 (ns.take k) ++ firstBytes o 4 ns[k] i)) ∧ Below w.heap.size w W) (fun _ i _ => 4 - (intOf i).toNat)
      case atStart => exact ⟨0, Nat.zero_le _, rfl, by simpa [firstBytes] using Hown.out, Hbel.out⟩
      case round =>
        obtain ⟨i, hi, rfl, hown, hbel⟩ := hrel
        have Hown2 := Lib.hid hown
        have Hbel2 := Lib.hid hbel
        clear hown hbel Hown Hbel hc
        by_cases hlt2 : i < 4
        · have hsh := shr_byte32 o ns[k] i HO.out hlt2
          have s5 : 0 ≤ shAt o i 4 := by rcases HO.out with rfl | rfl <;> simp only [shAt_low, shAt_high] <;> omega
          obtain ⟨hi0, hz0, hz1, hz2⟩ := Hi.out
          have hfin : ∀ (W1 : World) v' w', W1.heap.size = wr.heap.size + 1 → Below w.heap.size w W1 → w'.ownsRow w.heap.size 5 1 v' (4 * k + i + 1) (u8s (putAll o 4 (ns.take k) ++ firstBytes o 4 ns[k] i) ++ u8s [putByte o 4 ns[k] i]) → W1.grownBy w' u8.ownBlock → Below w.heap.size w w' ∧ w'.ownsRow w.heap.size 5 1 v' (4 * k + (i + 1)) (u8s (putAll o 4 (ns.take k) ++ firstBytes o 4 ns[k] (i + 1))) := by
            intro W1 v' w' hsz h0 h1 h2
            refine ⟨h0.grown h2 (by have := Hbel2.out.size; omega) (fun g hg => (Hown2.out.lt g hg).1), ?_⟩
            rw [firstBytes_succ, ← List.append_assoc, ← u8s_append]; exact h1
          have Hsz := Lib.hid Hbel2.out.size
          go_wp2_with (first
            | (go_at_call 48; refine (shift_any _ _ _ HO.out (by omega) (by omega) (by omega) _).mono ?_; rintro e w' ⟨rfl, rfl⟩)
            | (at_builtin; refine wpList_app rfl (.tmp 28) (.tmp 36) 27 rfl w.heap.size 5 i0 (.int .u8 0) 1 Tryd.underlying27 hi0 hz0 hz1 hz2 rfl _ _ _ rfl (Hown2.out.alloc _) _ _ _ _ (u8s [putByte o 4 ns[k] i]) rfl (lies_new _ _ _ _ _ rfl rfl) (u8s_one _) (by unfold maxLen; omega) (by omega) (by have := Hsz.out; simp; omega) ?_; intro v' w' h1 h2 h3))
          obtain ⟨f1, f2⟩ := hfin _ v' w' (by simp) (Hbel2.out.alloc Hsz.out _) h1 h2
          clear hfin hi0 hz0 hz1 hz2 h1 h2 h3 hsh s5
          go_roundw
          case rel => exact ⟨i + 1, by omega, by go_num, f2, f1⟩
          case measure => simp [intOf]; omega
        · obtain rfl : i = 4 := by omega
          have hown3 : wr.ownsRow w.heap.size 5 1 u8 (4 * (k + 1)) (u8s (putAll o 4 (ns.take (k + 1)))) := by rw [putAll_succ _ _ _ _ hx]; exact Hown2.out
          have Hown3 := Lib.hid hown3
          clear hown3
          go_wp2
          go_roundw
          case rel => exact ⟨k + 1, by omega, by go_num, Hown3.out, Hbel2.out⟩
          case measure => simp [intOf]; omega
    · obtain rfl : k = ns.length := by omega
      have h1 := Hown.out
      rw [List.take_length] at h1
      obtain ⟨E, c2, rfl, hl2⟩ := owns_form h1
      have Hown2 := Lib.hid h1
      have Hl2 := Lib.hid hl2
      clear h1 hl2
      have hlen : (putAll o 4 ns).length = 4 * ns.length := putAll_length _ _ _
      have L : ∀ W1, wr.heap.size ≤ W1.heap.size → Below wr.heap.size wr W1 → ∀ P, Lies W1 (W1.heap.size) 1 P 2 ([(A, c, b), (E, c2, putAll o 4 ns)].map partV) → ∀ c3, Calls Tryd.prog 26 #[.slice P 2 c3] W1 (Bytes W1 (b ++ putAll o 4 ns)) := by
        intro W1 hs1 hb1 P hP c3
        have hc := cat_any [(A, c, b), (E, c2, putAll o 4 ns)] P c3 W1.heap.size W1 (Nat.le_refl _) hP (by
          intro p hp
          simp only [List.mem_cons, List.not_mem_nil, or_false] at hp
          rcases hp with rfl | rfl
          · exact (((Hb.out.wide hB).below Hbel.out).wide Hbel.out.size).below hb1 |>.wide hs1
          · rw [← hlen] at Hl2; exact (Hl2.out.below hb1).wide hs1) (by simp [catAll, hlen]; omega) (by simp [maxLen])
        simpa [catAll] using hc
      have P0 : ∀ W1 : World, Lies (W1.alloc (.cells #[.slice A b.length c, .slice E (4 * ns.length) c2] 27)) (W1.alloc (.cells #[.slice A b.length c, .slice E (4 * ns.length) c2] 27)).heap.size 1 (some ⟨W1.heap.size, 0, none⟩) 2 ([(A, c, b), (E, c2, putAll o 4 ns)].map partV) := by
        intro W1
        have := lies_new W1 #[.slice A b.length c, .slice E (4 * ns.length) c2] 27 2 _ rfl rfl
        simpa [partV, hlen] using this
      have HL := Lib.hid L
      have HP := Lib.hid P0
      clear L P0 hlen
      go_wp2_with (go_at_call 26; refine (HL.out _ (by simp) ((Below.refl _ _).alloc (Nat.le_refl _) _) _ (HP.out _) _).mono ?_; rintro e w' ⟨v, rfl, hv1, hv2⟩)
      go_ret
      have hsz := Hbel.out.size
      exact ⟨_, rfl, owns_mono hv1 (by simp; omega), (Hbel.out.alloc hsz _).trans (hv2.mono (by simp; omega))⟩

set_option maxRecDepth 100000 in
theorem shr_byte64 (o : Int) (n i : Nat) (ho : o = 0 ∨ o = 1) (hi : i < 8) :
    IntKind.u8.wrap ((n : Int) / 2 ^ min (shAt o i 8).toNat 64) = ((putByte o 8 n i).toNat : Int) := by
  have hs : (shAt o i 8).toNat ≤ 64 := by rcases ho with rfl | rfl <;> simp only [shAt_low, shAt_high] <;> omega
  rw [Nat.min_eq_left hs, putByte, toNat_ofNat_mod, IntKind.wrap_u8]
  simp
set_option maxRecDepth 100000 in
theorem putBe32_any (b : List UInt8) (ns : List Nat) (hns : ∀ n ∈ ns, n < 4294967296) (A D : Option Addr) (c d B : Nat) (w : World) (hB : B ≤ w.heap.size)
    (hb : Lies w B 1 A b.length (u8s b)) (hl : Lies w B 1 D ns.length (u32s ns)) (htot : b.length + 4 * ns.length ≤ 70368744177664) :
    Calls Tryd.prog 28 #[.slice A b.length c, .slice D ns.length d] w (Bytes w (b ++ putAll 0 4 ns)) := by
  have L := Lib.hid (put32_any b ns hns A D c d B 0 (by simp) w hB hb hl htot)
  clear hb hl hns htot
  go_enter Tryd.func28, Tryd.ntmps28
  go_wp2_with (go_at_call 39; refine L.out.mono ?_; rintro e w' ⟨v, rfl, hv1, hv2⟩)
  go_ret
  exact ⟨_, rfl, hv1, hv2⟩
end Go.Proofs.YtgoblolbkchggaaDoor
/- portreeveref01.Put. -/
namespace Go.Proofs.YtgoblolbkchggaaDoor
open Go.RowKit

def lowO (low : Bool) : Int := if low then 1 else 0
set_option maxRecDepth 100000 in
theorem firstBytes_all (o : Int) (m n : Nat) : firstBytes o m n m = numBytes o m n := rfl
set_option maxRecDepth 100000 in
theorem byte_low (n size i : Nat) : (n : Int) / 2 ^ (8 * i) % 256 = ((putByte (lowO true) size n i).toNat : Int) := by
  have e : (shAt (lowO true) (i : Int) (size : Int)).toNat = 8 * i := by show (8 * (i : Int)).toNat = _; omega
  rw [putByte, toNat_ofNat_mod, e]; simp
set_option maxRecDepth 100000 in
theorem byte_high (n size i : Nat) (hi : i < size) : (n : Int) / 2 ^ (8 * (size - 1 - i)) % 256 = ((putByte (lowO false) size n i).toNat : Int) := by
  have e : (shAt (lowO false) (i : Int) (size : Int)).toNat = 8 * (size - 1 - i) := by show (8 * ((size : Int) - 1 - i)).toNat = _; omega
  rw [putByte, toNat_ofNat_mod, e]; simp
set_option maxHeartbeats 400000 in
set_option maxRecDepth 100000 in
theorem rput_any (b : List UInt8) (n size : Nat) (hs : size ≤ 8) (A : Option Addr) (c B : Nat) (low : Bool) (w : World) (hB : B ≤ w.heap.size)
    (hb : Lies w B 1 A b.length (u8s b)) (htot : b.length ≤ 70368744177656) :
    Calls Tryd.prog 30 #[.slice A b.length c, .int .u64 (n : Int), .int .i64 (size : Int), .bool low] w (Bytes w (b ++ numBytes (lowO low) size n)) := by
  obtain ⟨i0, hi, hz0, hz1, hz2⟩ := info_parts u8_info
  have Hi := Lib.hid (And.intro hi (And.intro hz0 (And.intro hz1 hz2)))
  have Hb := Lib.hid (hb.wide hB)
  clear hb

  go_enter Tryd.func30, Tryd.ntmps30
  go_wp2_with (at_builtin; (refine wpList_app rfl (.const (.slice none 0 0)) (.tmp 12) 27 rfl w.heap.size 5 i0 (.int .u8 0) 1 Tryd.underlying27 hi hz0 hz1 hz2 rfl (.slice none 0 0) 0 [] rfl (World.ownsRow_nil _ _ _ _) _ _ _ _ _ rfl Hb.out (u8s_one _) (by unfold maxLen; omega) (by omega) (Nat.le_refl _) ?_); intro v1 w1 h1 h2 h3)
  have hown0 : w1.ownsRow w.heap.size 5 1 v1 (b.length + 0) (u8s (b ++ firstBytes (lowO low) size n 0)) := by
    simpa [firstBytes] using h1
  have hbel0 : Below w.heap.size w w1 := (Below.refl _ _).grown h2 (Nat.le_refl _) (by simp [Value.ownBlock])
  clear h1 h2 h3 hi hz0 hz1 hz2
  go_loopw [9, 10] (fun v j W => ∃ i : Nat, i ≤ size ∧ j = .int .i64 i ∧ W.ownsRow w.heap.size 5 1 v (b.length + i) (u8s (b ++ firstBytes (lowO low) size n i)) ∧ Below w.heap.size w W) (fun _ i _ => size - (intOf i).toNat)
  case atStart => exact ⟨0, Nat.zero_le _, rfl, hown0, hbel0⟩
  case round =>
    obtain ⟨i, hi, rfl, hown, hbel⟩ := hrel
    have Hown2 := Lib.hid hown
    have Hbel2 := Lib.hid hbel
    clear hown hbel hown0 hbel0
    by_cases hlt2 : i < size
    · have hfin : ∀ (W1 : World) v' w', W1.heap.size = wr.heap.size + 1 → Below w.heap.size w W1 → w'.ownsRow w.heap.size 5 1 v' (b.length + i + 1) (u8s (b ++ firstBytes (lowO low) size n i) ++ u8s [putByte (lowO low) size n i]) → W1.grownBy w' u9.ownBlock → Below w.heap.size w w' ∧ w'.ownsRow w.heap.size 5 1 v' (b.length + (i + 1)) (u8s (b ++ firstBytes (lowO low) size n (i + 1))) := by
        intro W1 v' w' hsz h0 h1 h2
        refine ⟨h0.grown h2 (by have := Hbel2.out.size; omega) (fun g hg => (Hown2.out.lt g hg).1), ?_⟩
        rw [firstBytes_succ, ← List.append_assoc, ← u8s_append]; exact h1
      have Hsz := Lib.hid Hbel2.out.size
      obtain ⟨hi0, hz0, hz1, hz2⟩ := Hi.out
      cases low
      · have hsh := byte_high n size i hlt2
        go_wp2_with (at_builtin; refine wpList_app rfl (.tmp 26) (.tmp 32) 27 rfl w.heap.size 5 i0 (.int .u8 0) 1 Tryd.underlying27 hi0 hz0 hz1 hz2 rfl _ _ _ rfl (Hown2.out.alloc _) _ _ _ _ (u8s [putByte (lowO false) size n i]) rfl (lies_new _ _ _ _ _ rfl rfl) (u8s_one _) (by unfold maxLen; omega) (by omega) (by have := Hsz.out; simp; omega) ?_; intro v' w' h1 h2 h3)
        obtain ⟨f1, f2⟩ := hfin _ v' w' (by simp) (Hbel2.out.alloc Hsz.out _) h1 h2
        clear hfin hi0 hz0 hz1 hz2 h1 h2 h3 hsh
        go_roundw
        case rel => exact ⟨i + 1, by omega, by go_num, f2, f1⟩
        case measure => simp [intOf]; omega
      · have hsh := byte_low n size i
        go_wp2_with (at_builtin; refine wpList_app rfl (.tmp 26) (.tmp 32) 27 rfl w.heap.size 5 i0 (.int .u8 0) 1 Tryd.underlying27 hi0 hz0 hz1 hz2 rfl _ _ _ rfl (Hown2.out.alloc _) _ _ _ _ (u8s [putByte (lowO true) size n i]) rfl (lies_new _ _ _ _ _ rfl rfl) (u8s_one _) (by unfold maxLen; omega) (by omega) (by have := Hsz.out; simp; omega) ?_; intro v' w' h1 h2 h3)
        obtain ⟨f1, f2⟩ := hfin _ v' w' (by simp) (Hbel2.out.alloc Hsz.out _) h1 h2
        clear hfin hi0 hz0 hz1 hz2 h1 h2 h3 hsh
        go_roundw
        case rel => exact ⟨i + 1, by omega, by go_num, f2, f1⟩
        case measure => simp [intOf]; omega
    · obtain rfl : i = size := by omega
      go_wp2
      go_ret
      have h1 := Hown2.out
      rw [firstBytes_all] at h1
      exact ⟨_, rfl, by simpa [numBytes_length] using h1, Hbel2.out⟩
end Go.Proofs.YtgoblolbkchggaaDoor
/- Bytes as a string. -/
namespace Go.Proofs.YtgoblolbkchggaaDoor
open Go.RowKit

def strOf (l : List UInt8) : ByteArray := ⟨l.toArray⟩
theorem conv_gen {P : Program} (src dst e : TypeId) (hs : P.underlying src = some (.slice e)) (he : P.underlying e = some (.int .u8)) (hd : P.underlying dst = some .string)
    (w : World) (B : Nat) (A : Option Addr) (n c : Nat) (l : List UInt8) (h : Lies w B 1 A n (u8s l)) :
    (convert src dst (.slice A n c)).run P w = .ok (.string (strOf l)) w := by
  have hlen : l.length = n := by have := h.1; rw [u8s_length] at this; omega
  rcases A with _ | a
  · obtain rfl : n = 0 := by
      rcases Nat.eq_zero_or_pos n with h0 | h0
      · exact h0
      · obtain ⟨_, h, _⟩ := h.2 (by omega)
        cases h
    obtain rfl : l = [] := List.eq_nil_of_length_eq_zero hlen
    exact run_convert_bytes_nil w src e hs he 0 c dst hd
  · have hl : (loadCells a n).run P w = .ok ((l.map fun b => (b.toNat : Int)).map (Value.int .u8)).toArray w := by
      have := run_loadCells_list (P := P) w a (u8s l) (fun j v hj => by
        obtain ⟨hj2, rfl⟩ := List.getElem?_eq_some_iff.1 hj
        obtain ⟨a', h1, _, hc⟩ := h.2 (by rw [u8s_length] at hj2; omega)
        injection h1 with h1
        subst h1
        exact hc j hj2)
      rw [u8s_length, hlen] at this
      rw [this]
      simp [u8s, Function.comp_def]
    rw [run_convert_bytes_string w src dst e _ n c hs he hd, run_bytesToString w _ n c _ hl, foldl_push_bytes]
    simp [strOf, ByteArray.empty, ByteArray.emptyWithCapacity, Function.comp_def]
    rfl
theorem conv_str (w : World) (B : Nat) (A : Option Addr) (n c : Nat) (l : List UInt8) (h : Lies w B 1 A n (u8s l)) :
    (convert 27 9 (.slice A n c)).run Tryd.prog w = .ok (.string (strOf l)) w :=
  conv_gen _ _ _ Tryd.underlying27 Tryd.underlying5 Tryd.underlying9 w B A n c l h
end Go.Proofs.YtgoblolbkchggaaDoor
