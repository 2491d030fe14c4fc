/- word.read and its parts: sizes, shifts, numbers out of bytes. -/
import Derived.Test.YtmcpmcicolpoeaaDoorChecked
import Derived.Test.YtmcpmcicolpoeaaDoorMem
import Derived.WalkKit
import Derived.WalkSpells
import Derived.Deep.QuietTactic
import Derived.BigQuiet
import Derived.KernelRfl
import Derived.IntWalk
import Derived.Shelf.Strconv.Itoa0
namespace Go.Proofs.YtmcpmcicolpoeaaDoor
open Go.RowKit

def u64s (xs : List Nat) : List Value := xs.map fun (x : Nat) => Value.int .u64 (x : Int)


def ren129 : Go.Shelf.Ren := ⟨fun | 129 => 125 | n => n, fun | 53 => 55 | 3 => 3 | 4 => 4 | 46 => 133 | 5 => 5 | 9 => 9 | n => n, fun | n => n⟩
set_option maxRecDepth 100000 in
theorem lays129 : Go.Proofs.Lays.n129 Tryd.prog ren129 := {
  mixed := by kernel_rfl
  f129 := Tryd.func125.trans (congrArg some (by kernel_rfl))
  t3 := Tryd.underlying3
  a3 := Tryd.isAgg3
  z3 := Tryd.sizeOf3
  v3 := Tryd.zeroValue3
  t4 := Tryd.underlying4
  a4 := Tryd.isAgg4
  z4 := Tryd.sizeOf4
  v4 := Tryd.zeroValue4
  t5 := Tryd.underlying5
  a5 := Tryd.isAgg5
  z5 := Tryd.sizeOf5
  v5 := Tryd.zeroValue5
  t9 := Tryd.underlying9
  a9 := Tryd.isAgg9
  z9 := Tryd.sizeOf9
  v9 := Tryd.zeroValue9
  t46 := Tryd.underlying133
  a46 := Tryd.isAgg133
  z46 := Tryd.sizeOf133
  v46 := Tryd.zeroValue133
  t53 := Tryd.underlying55
  a53 := Tryd.isAgg55
  z53 := Tryd.sizeOf55
  v53 := Tryd.zeroValue55 }
set_option maxRecDepth 100000 in
theorem len64_any (x : Int) (w : World) (h0 : 0 ≤ x) (h1 : x ≤ 18446744073709551615) :
    Calls Tryd.prog 125 #[.int .u64 x] w fun e w' => e = .returned (.int .i64 (Lib.bitLen x.toNat)) ∧ w' = w := Any.bits_Len64 lays129 x w h0 h1
set_option maxRecDepth 100000 in
theorem len64_top (w : World) : Calls Tryd.prog 125 #[.int .u64 18446744073709551615] w fun e w' => e = .returned (.int .i64 64) ∧ w = w' :=
  (len64_any _ w (by decide) (by decide)).mono fun e w' ⟨h1, h2⟩ => ⟨h1.trans (congrArg (fun n : Nat => Ending.returned (.int .i64 (n : Int))) (show Lib.bitLen _ = 64 by decide +kernel)), h2.symm⟩
set_option maxRecDepth 100000 in
theorem len64_half (w : World) : Calls Tryd.prog 125 #[.int .u64 4294967295] w fun e w' => e = .returned (.int .i64 32) ∧ w = w' :=
  (len64_any _ w (by decide) (by decide)).mono fun e w' ⟨h1, h2⟩ => ⟨h1.trans (congrArg (fun n : Nat => Ending.returned (.int .i64 (n : Int))) (show Lib.bitLen _ = 32 by decide +kernel)), h2.symm⟩
set_option maxRecDepth 100000 in
theorem size32_any (w : World) : Calls Tryd.prog 117 #[] w fun e w' => e = .returned (.int .i64 4) ∧ w = w' := by
  go_enter Tryd.func117, Tryd.ntmps117
  go_wp2_with (go_at_call 125; refine (len64_half _).mono ?_; rintro e w' ⟨rfl, rfl⟩)
  go_ret
  exact ⟨rfl, rfl⟩
set_option maxRecDepth 100000 in
theorem size64_any (w : World) : Calls Tryd.prog 126 #[] w fun e w' => e = .returned (.int .i64 8) ∧ w = w' := by
  go_enter Tryd.func126, Tryd.ntmps126
  go_wp2_with (go_at_call 125; refine (len64_top _).mono ?_; rintro e w' ⟨rfl, rfl⟩)
  go_ret
  exact ⟨rfl, rfl⟩
def shAt (o i m : Int) : Int := if o = 1 then 8 * i else 8 * (m - 1 - i)
set_option maxRecDepth 100000 in
theorem shAt_low (i m : Int) : shAt 1 i m = 8 * i := rfl
set_option maxRecDepth 100000 in
theorem shAt_high (i m : Int) : shAt 0 i m = 8 * (m - 1 - i) := rfl
set_option maxRecDepth 100000 in
theorem shift_any (o i m : Int) (ho : o = 0 ∨ o = 1) (h0 : 0 ≤ i) (h1 : i < m) (h2 : m ≤ 8) (w : World) :
    Calls Tryd.prog 118 #[.int .i64 o, .int .i64 i, .int .i64 m] w fun e w' => e = .returned (.int .i64 (shAt o i m)) ∧ w = w' := by
  rcases ho with rfl | rfl
  · go_enter Tryd.func118, Tryd.ntmps118
    go_wp2
    go_ret
    exact ⟨rfl, rfl⟩
  · go_enter Tryd.func118, Tryd.ntmps118
    go_wp2
    go_ret
    exact ⟨rfl, rfl⟩

/-- What stands in the number behind k rounds. -/
def accN (o : Int) (wide : Nat) (m : Nat) (b : Nat → UInt8) : Nat → Nat
  | 0 => 0
  | k + 1 => accN o wide m b k ||| ((b k).toNat * 2 ^ min (shAt o k wide).toNat (8 * wide) % m)
set_option maxRecDepth 100000 in
theorem accN_lt (o : Int) (wide n : Nat) (b : Nat → UInt8) (k : Nat) : accN o wide (2 ^ n) b k < 2 ^ n := by
  induction k with
  | zero => exact Nat.pow_pos (by decide)
  | succ k ih => exact Nat.or_lt_two_pow ih (Nat.mod_lt _ (Nat.pow_pos (by decide)))
set_option maxRecDepth 100000 in
theorem or_u32 (o : Int) (b : Nat → UInt8) (k : Nat) (x : Int) (hx : x = ((b k).toNat : Int)) :
    bits .or .u32 ((accN o 4 4294967296 b k : Nat) : Int) (x * 2 ^ min (shAt o k 4).toNat 32 % 4294967296) = ((accN o 4 4294967296 b (k + 1) : Nat) : Int) := by
  subst hx
  have h := accN_lt o 4 32 b k
  have e : ((b k).toNat : Int) * 2 ^ min (shAt o k 4).toNat 32 % 4294967296 = (((b k).toNat * 2 ^ min (shAt o k 4).toNat 32 % 4294967296 : Nat) : Int) := by simp
  rw [e, u32_or_nat _ _ h (Nat.mod_lt _ (by decide))]
  rfl
set_option maxRecDepth 100000 in
theorem or_u64 (o : Int) (b : Nat → UInt8) (k : Nat) (x : Int) (hx : x = ((b k).toNat : Int)) :
    bits .or .u64 ((accN o 8 18446744073709551616 b k : Nat) : Int) (IntKind.u64.wrap (x * 2 ^ min (shAt o k 8).toNat 64)) = ((accN o 8 18446744073709551616 b (k + 1) : Nat) : Int) := by
  subst hx
  have h := accN_lt o 8 64 b k
  have e : ((b k).toNat : Int) * 2 ^ min (shAt o k 8).toNat 64 % 18446744073709551616 = (((b k).toNat * 2 ^ min (shAt o k 8).toNat 64 % 18446744073709551616 : Nat) : Int) := by simp
  rw [IntKind.wrap_u64, e, u64_or_nat _ _ h (Nat.mod_lt _ (by decide))]
  rfl
def bAt (l : List UInt8) (at_ : Nat) : Nat → UInt8 := fun j => l.getD (at_ + j) 0
set_option maxRecDepth 100000 in
theorem bAt_eq (l : List UInt8) (at_ k : Nat) (h : at_ + k < l.length) : ((l[at_ + k].toNat : Nat) : Int) = ((bAt l at_ k).toNat : Int) := by
  unfold bAt
  rw [List.getD_eq_getElem?_getD, List.getElem?_eq_getElem h]; rfl

set_option maxHeartbeats 400000 in
set_option maxRecDepth 100000 in
theorem read32_in (l : List UInt8) (A : Option Addr) (c B : Nat) (at_ : Nat) (o : Int) (ho : o = 0 ∨ o = 1) (w : World) (hat : at_ + 4 ≤ l.length) (hl : l.length ≤ maxLen) (h : Lies w B 1 A l.length (u8s l)) :
    Calls Tryd.prog 107 #[.slice A l.length c, .int .i64 (at_ : Int), .int .i64 o] w fun e w' => e = .returned (.tuple #[.int .u32 (accN o 4 4294967296 (bAt l at_) 4 : Nat), .bool true]) ∧ ∃ n, w' = w.drewN n := by
  unfold maxLen at hl
  have HO := Lib.hid ho
  clear ho
  have Hw := Lib.hid h
  clear h
  go_enter Tryd.func107, Tryd.ntmps107
  go_wp2_with (go_at_call 117; refine (size32_any _).mono ?_; rintro e w' ⟨rfl, rfl⟩)
  go_loopw [9, 10, 24] (fun n i24 j W => ∃ k : Nat, k ≤ 4 ∧ j = .int .i64 k ∧ n = .int .u32 (accN o 4 4294967296 (bAt l at_) k : Nat) ∧ ∃ m, W = w.drewN m) (fun _ _ i _ => 4 - (intOf i).toNat)
  case atStart => exact ⟨0, Nat.zero_le _, rfl, rfl, 0, rfl⟩
  case round =>
    obtain ⟨k, hk, rfl, rfl, m, hm⟩ := hrel
    have hw : Lies wr B 1 A l.length (u8s l) := by rw [hm]; exact Hw.out.drewN m
    have Hm := Lib.hid hm
    clear hm
    by_cases hlt : k < 4
    · obtain ⟨a, hx, rfl, hb, hc⟩ := hw.atMap (k := at_ + k) (by omega)
      have hb8 := u8_lt l[at_ + k]
      go_wp2
      have s0 := or_u32 o (bAt l at_) k _ (bAt_eq l at_ k hx)
      have s1 : IntKind.i64.wrap ((at_ : Int) + k) = at_ + k := IntWalk.i64_in _ (by omega)
      have s2 : (0 : Int) ≤ at_ + k := by omega
      have s3 : ((at_ : Int) + k).toNat = at_ + k := by omega
      have s4 : (at_ : Int) + k < l.length := by omega
      have s5 : 0 ≤ shAt o k 4 := by rcases HO.out with rfl | rfl <;> simp only [shAt_low, shAt_high] <;> omega
      go_quiet ((go_at_call 118; exact quiet_eq (shift_any _ _ _ HO.out (by omega) (by omega) (by omega) _)))
      clear s0 s1 s2 s3 s4 s5
      go_wp2
      go_roundw
      case rel => exact ⟨k + 1, by omega, by go_num, rfl, m + nq, by rw [Hm.out, World.drewN_drewN]⟩
      case measure => simp [intOf]; omega
    · obtain rfl : k = 4 := by omega
      go_wp2
      go_ret2
      exact ⟨rfl, m, Hm.out⟩
set_option maxRecDepth 100000 in
theorem read32_out (A : Option Addr) (n c : Nat) (at_ o : Int) (w : World) (hat : at_ < 0 ∨ (n : Int) - 4 < at_) (hl : n ≤ maxLen) :
    Calls Tryd.prog 107 #[.slice A n c, .int .i64 at_, .int .i64 o] w fun e w' => e = .returned (.tuple #[.int .u32 0, .bool false]) ∧ w = w' := by
  unfold maxLen at hl
  by_cases h0 : at_ < 0
  · clear hat
    go_enter Tryd.func107, Tryd.ntmps107
    go_wp2_with (go_at_call 117; refine (size32_any _).mono ?_; rintro e w' ⟨rfl, rfl⟩)
    go_ret2
    exact ⟨rfl, rfl⟩
  · have h1 : (n : Int) - 4 < at_ := by omega
    have h2 : ¬ at_ < 0 := h0
    clear hat h0
    go_enter Tryd.func107, Tryd.ntmps107
    go_wp2_with (go_at_call 117; refine (size32_any _).mono ?_; rintro e w' ⟨rfl, rfl⟩)
    go_ret2
    exact ⟨rfl, rfl⟩

set_option maxHeartbeats 400000 in
set_option maxRecDepth 100000 in
theorem read64_in (l : List UInt8) (A : Option Addr) (c B : Nat) (at_ : Nat) (o : Int) (ho : o = 0 ∨ o = 1) (w : World) (hat : at_ + 8 ≤ l.length) (hl : l.length ≤ maxLen) (h : Lies w B 1 A l.length (u8s l)) :
    Calls Tryd.prog 124 #[.slice A l.length c, .int .i64 (at_ : Int), .int .i64 o] w fun e w' => e = .returned (.tuple #[.int .u64 (accN o 8 18446744073709551616 (bAt l at_) 8 : Nat), .bool true]) ∧ ∃ n, w' = w.drewN n := by
  unfold maxLen at hl
  have HO := Lib.hid ho
  clear ho
  have Hw := Lib.hid h
  clear h
  go_enter Tryd.func124, Tryd.ntmps124
  go_wp2_with (go_at_call 126; refine (size64_any _).mono ?_; rintro e w' ⟨rfl, rfl⟩)
  go_loopw [9, 10, 24] (fun n i24 j W => ∃ k : Nat, k ≤ 8 ∧ j = .int .i64 k ∧ n = .int .u64 (accN o 8 18446744073709551616 (bAt l at_) k : Nat) ∧ ∃ m, W = w.drewN m) (fun _ _ i _ => 8 - (intOf i).toNat)
  case atStart => exact ⟨0, Nat.zero_le _, rfl, rfl, 0, rfl⟩
  case round =>
    obtain ⟨k, hk, rfl, rfl, m, hm⟩ := hrel
    have hw : Lies wr B 1 A l.length (u8s l) := by rw [hm]; exact Hw.out.drewN m
    have Hm := Lib.hid hm
    clear hm
    by_cases hlt : k < 8
    · obtain ⟨a, hx, rfl, hb, hc⟩ := hw.atMap (k := at_ + k) (by omega)
      have hb8 := u8_lt l[at_ + k]
      go_wp2
      have s0 := or_u64 o (bAt l at_) k _ (bAt_eq l at_ k hx)
      have s1 : IntKind.i64.wrap ((at_ : Int) + k) = at_ + k := IntWalk.i64_in _ (by omega)
      have s2 : (0 : Int) ≤ at_ + k := by omega
      have s3 : ((at_ : Int) + k).toNat = at_ + k := by omega
      have s4 : (at_ : Int) + k < l.length := by omega
      have s5 : 0 ≤ shAt o k 8 := by rcases HO.out with rfl | rfl <;> simp only [shAt_low, shAt_high] <;> omega
      go_quiet ((go_at_call 118; exact quiet_eq (shift_any _ _ _ HO.out (by omega) (by omega) (by omega) _)))
      clear s0 s1 s2 s3 s4 s5
      go_wp2
      go_roundw
      case rel => exact ⟨k + 1, by omega, by go_num, rfl, m + nq, by rw [Hm.out, World.drewN_drewN]⟩
      case measure => simp [intOf]; omega
    · obtain rfl : k = 8 := by omega
      go_wp2
      go_ret2
      exact ⟨rfl, m, Hm.out⟩
set_option maxRecDepth 100000 in
theorem read64_out (A : Option Addr) (n c : Nat) (at_ o : Int) (w : World) (hat : at_ < 0 ∨ (n : Int) - 8 < at_) (hl : n ≤ maxLen) :
    Calls Tryd.prog 124 #[.slice A n c, .int .i64 at_, .int .i64 o] w fun e w' => e = .returned (.tuple #[.int .u64 0, .bool false]) ∧ w = w' := by
  unfold maxLen at hl
  by_cases h0 : at_ < 0
  · clear hat
    go_enter Tryd.func124, Tryd.ntmps124
    go_wp2_with (go_at_call 126; refine (size64_any _).mono ?_; rintro e w' ⟨rfl, rfl⟩)
    go_ret2
    exact ⟨rfl, rfl⟩
  · have h1 : (n : Int) - 8 < at_ := by omega
    have h2 : ¬ at_ < 0 := h0
    clear hat h0
    go_enter Tryd.func124, Tryd.ntmps124
    go_wp2_with (go_at_call 126; refine (size64_any _).mono ?_; rintro e w' ⟨rfl, rfl⟩)
    go_ret2
    exact ⟨rfl, rfl⟩
end Go.Proofs.YtmcpmcicolpoeaaDoor
