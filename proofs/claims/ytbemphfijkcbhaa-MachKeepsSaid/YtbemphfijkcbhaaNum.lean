/- word.read and its parts: sizes, shifts, numbers out of bytes (64 bits). -/
import Derived.Test.YtbemphfijkcbhaaDown
import Derived.KernelRfl
import Derived.IntWalk
import Derived.Shelf.Strconv.Itoa0
namespace Go.Proofs.Ytbemphfijkcbhaa
open Go.RowKit

def ren129 : Go.Shelf.Ren := ⟨fun | 129 => 91 | n => n, fun | 53 => 22 | 3 => 3 | 4 => 4 | 46 => 107 | 5 => 5 | 9 => 9 | n => n, fun | n => n⟩
theorem lays129 : Go.Proofs.Lays.n129 Try.prog ren129 := {
  mixed := by kernel_rfl
  f129 := Try.func91.trans (congrArg some (by kernel_rfl))
  t3 := Try.underlying3
  a3 := Try.isAgg3
  z3 := Try.sizeOf3
  v3 := Try.zeroValue3
  t4 := Try.underlying4
  a4 := Try.isAgg4
  z4 := Try.sizeOf4
  v4 := Try.zeroValue4
  t5 := Try.underlying5
  a5 := Try.isAgg5
  z5 := Try.sizeOf5
  v5 := Try.zeroValue5
  t9 := Try.underlying9
  a9 := Try.isAgg9
  z9 := Try.sizeOf9
  v9 := Try.zeroValue9
  t46 := Try.underlying107
  a46 := Try.isAgg107
  z46 := Try.sizeOf107
  v46 := Try.zeroValue107
  t53 := Try.underlying22
  a53 := Try.isAgg22
  z53 := Try.sizeOf22
  v53 := Try.zeroValue22 }
theorem len64_any (x : Int) (w : World) (h0 : 0 ≤ x) (h1 : x ≤ 18446744073709551615) :
    Calls Try.prog 91 #[.int .u64 x] w fun e w' => e = .returned (.int .i64 (Lib.bitLen x.toNat)) ∧ w' = w := Any.bits_Len64 lays129 x w h0 h1
theorem len64_top (w : World) : Calls Try.prog 91 #[.int .u64 18446744073709551615] w fun e w' => e = .returned (.int .i64 64) ∧ w = w' :=
  (len64_any _ w (by decide) (by decide)).mono fun e w' ⟨h1, h2⟩ => ⟨h1.trans (congrArg (fun n : Nat => Ending.returned (.int .i64 (n : Int))) (show Lib.bitLen _ = 64 by decide +kernel)), h2.symm⟩
theorem size64_any (w : World) : Calls Try.prog 79 #[] w fun e w' => e = .returned (.int .i64 8) ∧ w = w' := by
  go_enter Try.func79, Try.ntmps79
  go_wp2_with (go_at_call 91; refine (len64_top _).mono ?_; rintro e w' ⟨rfl, rfl⟩)
  go_ret
  exact ⟨rfl, rfl⟩
def shAt (o i m : Int) : Int := if o = 1 then 8 * i else 8 * (m - 1 - i)
theorem shAt_low (i m : Int) : shAt 1 i m = 8 * i := rfl
theorem shAt_high (i m : Int) : shAt 0 i m = 8 * (m - 1 - i) := rfl
theorem shift_any (o i m : Int) (ho : o = 0 ∨ o = 1) (h0 : 0 ≤ i) (h1 : i < m) (h2 : m ≤ 8) (w : World) :
    Calls Try.prog 80 #[.int .i64 o, .int .i64 i, .int .i64 m] w fun e w' => e = .returned (.int .i64 (shAt o i m)) ∧ w = w' := by
  rcases ho with rfl | rfl
  · go_enter Try.func80, Try.ntmps80
    go_wp2
    go_ret
    exact ⟨rfl, rfl⟩
  · go_enter Try.func80, Try.ntmps80
    go_wp2
    go_ret
    exact ⟨rfl, rfl⟩
/-- What stands in the number behind k rounds. -/
def accN (o : Int) (wide : Nat) (m : Nat) (b : Nat → UInt8) : Nat → Nat
  | 0 => 0
  | k + 1 => accN o wide m b k ||| ((b k).toNat * 2 ^ min (shAt o k wide).toNat (8 * wide) % m)
theorem accN_lt (o : Int) (wide n : Nat) (b : Nat → UInt8) (k : Nat) : accN o wide (2 ^ n) b k < 2 ^ n := by
  induction k with
  | zero => exact Nat.pow_pos (by decide)
  | succ k ih => exact Nat.or_lt_two_pow ih (Nat.mod_lt _ (Nat.pow_pos (by decide)))
theorem or_u64 (o : Int) (b : Nat → UInt8) (k : Nat) (x : Int) (hx : x = ((b k).toNat : Int)) :
    bits .or .u64 ((accN o 8 18446744073709551616 b k : Nat) : Int) (IntKind.u64.wrap (x * 2 ^ min (shAt o k 8).toNat 64)) = ((accN o 8 18446744073709551616 b (k + 1) : Nat) : Int) := by
  subst hx
  have h := accN_lt o 8 64 b k
  have e : ((b k).toNat : Int) * 2 ^ min (shAt o k 8).toNat 64 % 18446744073709551616 = (((b k).toNat * 2 ^ min (shAt o k 8).toNat 64 % 18446744073709551616 : Nat) : Int) := by simp
  rw [IntKind.wrap_u64, e, u64_or_nat _ _ h (Nat.mod_lt _ (by decide))]
  rfl
def bAt (l : List UInt8) (at_ : Nat) : Nat → UInt8 := fun j => l.getD (at_ + j) 0
theorem bAt_eq (l : List UInt8) (at_ k : Nat) (h : at_ + k < l.length) : ((l[at_ + k].toNat : Nat) : Int) = ((bAt l at_ k).toNat : Int) := by
  unfold bAt
  rw [List.getD_eq_getElem?_getD, List.getElem?_eq_getElem h]; rfl
set_option maxHeartbeats 400000 in
set_option maxRecDepth 100000 in
theorem read64_in (l : List UInt8) (A : Option Addr) (c B : Nat) (at_ : Nat) (o : Int) (ho : o = 0 ∨ o = 1) (w : World) (hat : at_ + 8 ≤ l.length) (hl : l.length ≤ maxLen) (h : Lies w B 1 A l.length (u8s l)) :
    Calls Try.prog 69 #[.slice A l.length c, .int .i64 (at_ : Int), .int .i64 o] w fun e w' => e = .returned (.tuple #[.int .u64 (accN o 8 18446744073709551616 (bAt l at_) 8 : Nat), .bool true]) ∧ ∃ n, w' = w.drewN n := by
  unfold maxLen at hl
  have HO := Lib.hid ho
  clear ho
  have Hw := Lib.hid h
  clear h
  go_enter Try.func69, Try.ntmps69
  go_wp2_with (go_at_call 79; refine (size64_any _).mono ?_; rintro e w' ⟨rfl, rfl⟩)
  go_loopw [9, 10, 24] (fun n i24 j W => ∃ k : Nat, k ≤ 8 ∧ j = .int .i64 k ∧ n = .int .u64 (accN o 8 18446744073709551616 (bAt l at_) k : Nat) ∧ ∃ m, W = w.drewN m) (fun _ _ i _ => 8 - (intOf i).toNat)
  case atStart => exact ⟨0, Nat.zero_le _, rfl, rfl, 0, rfl⟩
  case round =>
    obtain ⟨k, hk, rfl, rfl, m, hm⟩ := hrel
    have hw : Lies wr B 1 A l.length (u8s l) := by rw [hm]; exact Hw.out.drewN m
    have Hm := Lib.hid hm
    clear hm
    by_cases hlt : k < 8
    · obtain ⟨a, hx, rfl, hb, hc⟩ := hw.atMap (k := at_ + k) (by omega)
      have hb8 := u8_lt l[at_ + k]
      go_wp2
      have s0 := or_u64 o (bAt l at_) k _ (bAt_eq l at_ k hx)
      have s1 : IntKind.i64.wrap ((at_ : Int) + k) = at_ + k := IntWalk.i64_in _ (by omega)
      have s2 : (0 : Int) ≤ at_ + k := by omega
      have s3 : ((at_ : Int) + k).toNat = at_ + k := by omega
      have s4 : (at_ : Int) + k < l.length := by omega
      have s5 : 0 ≤ shAt o k 8 := by rcases HO.out with rfl | rfl <;> simp only [shAt_low, shAt_high] <;> omega
      go_quiet ((go_at_call 80; exact quiet_eq (shift_any _ _ _ HO.out (by omega) (by omega) (by omega) _)))
      clear s0 s1 s2 s3 s4 s5
      go_wp2
      go_roundw
      case rel => exact ⟨k + 1, by omega, by go_num, rfl, m + nq, by rw [Hm.out, World.drewN_drewN]⟩
      case measure => simp [intOf]; omega
    · obtain rfl : k = 8 := by omega
      go_wp2
      go_ret2
      exact ⟨rfl, m, Hm.out⟩
theorem read64_out (A : Option Addr) (n c : Nat) (at_ o : Int) (w : World) (hat : at_ < 0 ∨ (n : Int) - 8 < at_) (hl : n ≤ maxLen) :
    Calls Try.prog 69 #[.slice A n c, .int .i64 at_, .int .i64 o] w fun e w' => e = .returned (.tuple #[.int .u64 0, .bool false]) ∧ w = w' := by
  unfold maxLen at hl
  by_cases h0 : at_ < 0
  · clear hat
    go_enter Try.func69, Try.ntmps69
    go_wp2_with (go_at_call 79; refine (size64_any _).mono ?_; rintro e w' ⟨rfl, rfl⟩)
    go_ret2
    exact ⟨rfl, rfl⟩
  · have h1 : (n : Int) - 8 < at_ := by omega
    have h2 : ¬ at_ < 0 := h0
    clear hat h0
    go_enter Try.func69, Try.ntmps69
    go_wp2_with (go_at_call 79; refine (size64_any _).mono ?_; rintro e w' ⟨rfl, rfl⟩)
    go_ret2
    exact ⟨rfl, rfl⟩
end Go.Proofs.Ytbemphfijkcbhaa
