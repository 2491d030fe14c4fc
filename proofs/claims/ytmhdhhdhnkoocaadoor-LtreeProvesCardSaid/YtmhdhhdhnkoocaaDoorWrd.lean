/- Words of 32 bits as the walk spells them; the small functions of sha. -/
import Derived.Test.YtmhdhhdhnkoocaaDoorChecked
import Derived.Test.YtmhdhhdhnkoocaaDoorMem
import Derived.Laws.BitsAllLaws
import Derived.WalkKit
import Derived.BigQuiet
import Derived.Deep.QuietTactic
namespace Go.Proofs.YtmhdhhdhnkoocaaDoor
open Go.RowKit

abbrev W32 := BitVec 32
def num (x : W32) : Int := (x.toNat : Int)
theorem num_lo (x : W32) : 0 ≤ num x := Int.natCast_nonneg _
theorem num_hi (x : W32) : num x < 4294967296 := by have := x.isLt; unfold num; omega
theorem num_inj {x y : W32} (h : num x = num y) : x = y := BitVec.eq_of_toNat_eq (by unfold num at h; omega)
theorem ofInt32 (x : W32) : BitVec.ofInt 32 (num x) = x := by
  unfold num
  rw [BitVec.ofInt_natCast, BitVec.ofNat_toNat]; simp
theorem wrap_num (x : W32) : IntKind.u32.wrap (x.toNat : Int) = num x := by
  have := x.isLt
  rw [IntKind.wrap_u32']; unfold num; omega
theorem num_xor (x y : W32) : bits .xor .u32 (num x) (num y) = num (x ^^^ y) := by
  show IntKind.u32.wrap ((BitVec.ofInt 32 (num x) ^^^ BitVec.ofInt 32 (num y)).toNat : Int) = _
  rw [ofInt32, ofInt32, wrap_num]
theorem num_and (x y : W32) : bits .and .u32 (num x) (num y) = num (x &&& y) := by
  show IntKind.u32.wrap ((BitVec.ofInt 32 (num x) &&& BitVec.ofInt 32 (num y)).toNat : Int) = _
  rw [ofInt32, ofInt32, wrap_num]
theorem num_or (x y : W32) : bits .or .u32 (num x) (num y) = num (x ||| y) := by
  show IntKind.u32.wrap ((BitVec.ofInt 32 (num x) ||| BitVec.ofInt 32 (num y)).toNat : Int) = _
  rw [ofInt32, ofInt32, wrap_num]
theorem num_add (x y : W32) : IntKind.u32.wrap (num x + num y) = num (x + y) := by
  rw [IntKind.wrap_u32']
  unfold num
  rw [BitVec.toNat_add]; omega
theorem num_shr (x : W32) (k : Nat) : num x / 2 ^ k = num (x >>> k) := by
  unfold num
  rw [BitVec.toNat_ushiftRight, Nat.shiftRight_eq_div_pow]
  simp
theorem num_shl (x : W32) (k : Nat) : IntKind.u32.wrap (num x * 2 ^ k) = num (x <<< k) := by
  unfold num
  rw [IntKind.wrap_u32', BitVec.toNat_shiftLeft, Nat.shiftLeft_eq]
  simp
theorem num_not (x : W32) : bits .xor .u32 IntKind.u32.max (num x) = num (~~~x) := by
  show IntKind.u32.wrap ((BitVec.ofInt 32 IntKind.u32.max ^^^ BitVec.ofInt 32 (num x)).toNat : Int) = _
  rw [ofInt32, wrap_num, show BitVec.ofInt 32 IntKind.u32.max = BitVec.allOnes 32 by decide, BitVec.allOnes_xor]
theorem u32_unsigned : IntKind.u32.signed = false := rfl

def rotr (x : W32) (n : Nat) : W32 := x >>> n ||| x <<< (32 - n)
def fch (x y z : W32) : W32 := x &&& y ^^^ ~~~x &&& z
def fmaj (x y z : W32) : W32 := x &&& y ^^^ x &&& z ^^^ y &&& z
def fS0 (x : W32) : W32 := rotr x 2 ^^^ rotr x 13 ^^^ rotr x 22
def fS1 (x : W32) : W32 := rotr x 6 ^^^ rotr x 11 ^^^ rotr x 25
def fs0 (x : W32) : W32 := rotr x 7 ^^^ rotr x 18 ^^^ x >>> 3
def fs1 (x : W32) : W32 := rotr x 17 ^^^ rotr x 19 ^^^ x >>> 10

theorem shr3 (x : W32) : num x / (8 : Int) = num (x >>> 3) := num_shr x 3
theorem shr10 (x : W32) : num x / (1024 : Int) = num (x >>> 10) := num_shr x 10
attribute [local go_sem] shr3 shr10 u32_unsigned num_xor num_and num_or num_add num_shl num_not

theorem choose_any (x y z : W32) (w : World) :
    Calls Tryd.prog 76 #[.int .u32 (num x), .int .u32 (num y), .int .u32 (num z)] w fun e w' => e = .returned (.int .u32 (num (fch x y z))) ∧ w = w' := by
  go_enter Tryd.func76, Tryd.ntmps76
  go_wp2
  go_ret
  exact ⟨rfl, rfl⟩
theorem most_any (x y z : W32) (w : World) :
    Calls Tryd.prog 78 #[.int .u32 (num x), .int .u32 (num y), .int .u32 (num z)] w fun e w' => e = .returned (.int .u32 (num (fmaj x y z))) ∧ w = w' := by
  go_enter Tryd.func78, Tryd.ntmps78
  go_wp2
  go_ret
  exact ⟨rfl, rfl⟩
theorem or_comm32 (a b : W32) : a ||| b = b ||| a := BitVec.or_comm a b
theorem rotl2 (x : W32) (w : World) :
    Calls Tryd.prog 86 #[.int .u32 (num x), .int .i64 (-2)] w fun e w' => e = .returned (.int .u32 (num (rotr x 2))) ∧ w = w' := by
  have e : bits BinOp.and .u64 (IntKind.u64.wrap (-2)) 31 = 30 := by decide
  have e2 : num x * 1073741824 = num x * 2 ^ 30 := rfl
  go_enter Tryd.func86, Tryd.ntmps86
  go_wp2
  go_ret
  refine ⟨?_, rfl⟩
  show Ending.returned (Value.int .u32 (bits BinOp.or .u32 (num (x <<< 30)) (num x / 4))) = _
  rw [show num x / (4 : Int) = num (x >>> 2) from num_shr x 2, num_or, or_comm32]; rfl
theorem rotl6 (x : W32) (w : World) :
    Calls Tryd.prog 86 #[.int .u32 (num x), .int .i64 (-6)] w fun e w' => e = .returned (.int .u32 (num (rotr x 6))) ∧ w = w' := by
  have e : bits BinOp.and .u64 (IntKind.u64.wrap (-6)) 31 = 26 := by decide
  have e2 : num x * 67108864 = num x * 2 ^ 26 := rfl
  go_enter Tryd.func86, Tryd.ntmps86
  go_wp2
  go_ret
  refine ⟨?_, rfl⟩
  show Ending.returned (Value.int .u32 (bits BinOp.or .u32 (num (x <<< 26)) (num x / 64))) = _
  rw [show num x / (64 : Int) = num (x >>> 6) from num_shr x 6, num_or, or_comm32]; rfl
theorem rotl7 (x : W32) (w : World) :
    Calls Tryd.prog 86 #[.int .u32 (num x), .int .i64 (-7)] w fun e w' => e = .returned (.int .u32 (num (rotr x 7))) ∧ w = w' := by
  have e : bits BinOp.and .u64 (IntKind.u64.wrap (-7)) 31 = 25 := by decide
  have e2 : num x * 33554432 = num x * 2 ^ 25 := rfl
  go_enter Tryd.func86, Tryd.ntmps86
  go_wp2
  go_ret
  refine ⟨?_, rfl⟩
  show Ending.returned (Value.int .u32 (bits BinOp.or .u32 (num (x <<< 25)) (num x / 128))) = _
  rw [show num x / (128 : Int) = num (x >>> 7) from num_shr x 7, num_or, or_comm32]; rfl
theorem rotl11 (x : W32) (w : World) :
    Calls Tryd.prog 86 #[.int .u32 (num x), .int .i64 (-11)] w fun e w' => e = .returned (.int .u32 (num (rotr x 11))) ∧ w = w' := by
  have e : bits BinOp.and .u64 (IntKind.u64.wrap (-11)) 31 = 21 := by decide
  have e2 : num x * 2097152 = num x * 2 ^ 21 := rfl
  go_enter Tryd.func86, Tryd.ntmps86
  go_wp2
  go_ret
  refine ⟨?_, rfl⟩
  show Ending.returned (Value.int .u32 (bits BinOp.or .u32 (num (x <<< 21)) (num x / 2048))) = _
  rw [show num x / (2048 : Int) = num (x >>> 11) from num_shr x 11, num_or, or_comm32]; rfl
theorem rotl13 (x : W32) (w : World) :
    Calls Tryd.prog 86 #[.int .u32 (num x), .int .i64 (-13)] w fun e w' => e = .returned (.int .u32 (num (rotr x 13))) ∧ w = w' := by
  have e : bits BinOp.and .u64 (IntKind.u64.wrap (-13)) 31 = 19 := by decide
  have e2 : num x * 524288 = num x * 2 ^ 19 := rfl
  go_enter Tryd.func86, Tryd.ntmps86
  go_wp2
  go_ret
  refine ⟨?_, rfl⟩
  show Ending.returned (Value.int .u32 (bits BinOp.or .u32 (num (x <<< 19)) (num x / 8192))) = _
  rw [show num x / (8192 : Int) = num (x >>> 13) from num_shr x 13, num_or, or_comm32]; rfl
theorem rotl17 (x : W32) (w : World) :
    Calls Tryd.prog 86 #[.int .u32 (num x), .int .i64 (-17)] w fun e w' => e = .returned (.int .u32 (num (rotr x 17))) ∧ w = w' := by
  have e : bits BinOp.and .u64 (IntKind.u64.wrap (-17)) 31 = 15 := by decide
  have e2 : num x * 32768 = num x * 2 ^ 15 := rfl
  go_enter Tryd.func86, Tryd.ntmps86
  go_wp2
  go_ret
  refine ⟨?_, rfl⟩
  show Ending.returned (Value.int .u32 (bits BinOp.or .u32 (num (x <<< 15)) (num x / 131072))) = _
  rw [show num x / (131072 : Int) = num (x >>> 17) from num_shr x 17, num_or, or_comm32]; rfl
theorem rotl18 (x : W32) (w : World) :
    Calls Tryd.prog 86 #[.int .u32 (num x), .int .i64 (-18)] w fun e w' => e = .returned (.int .u32 (num (rotr x 18))) ∧ w = w' := by
  have e : bits BinOp.and .u64 (IntKind.u64.wrap (-18)) 31 = 14 := by decide
  have e2 : num x * 16384 = num x * 2 ^ 14 := rfl
  go_enter Tryd.func86, Tryd.ntmps86
  go_wp2
  go_ret
  refine ⟨?_, rfl⟩
  show Ending.returned (Value.int .u32 (bits BinOp.or .u32 (num (x <<< 14)) (num x / 262144))) = _
  rw [show num x / (262144 : Int) = num (x >>> 18) from num_shr x 18, num_or, or_comm32]; rfl
theorem rotl19 (x : W32) (w : World) :
    Calls Tryd.prog 86 #[.int .u32 (num x), .int .i64 (-19)] w fun e w' => e = .returned (.int .u32 (num (rotr x 19))) ∧ w = w' := by
  have e : bits BinOp.and .u64 (IntKind.u64.wrap (-19)) 31 = 13 := by decide
  have e2 : num x * 8192 = num x * 2 ^ 13 := rfl
  go_enter Tryd.func86, Tryd.ntmps86
  go_wp2
  go_ret
  refine ⟨?_, rfl⟩
  show Ending.returned (Value.int .u32 (bits BinOp.or .u32 (num (x <<< 13)) (num x / 524288))) = _
  rw [show num x / (524288 : Int) = num (x >>> 19) from num_shr x 19, num_or, or_comm32]; rfl
theorem rotl22 (x : W32) (w : World) :
    Calls Tryd.prog 86 #[.int .u32 (num x), .int .i64 (-22)] w fun e w' => e = .returned (.int .u32 (num (rotr x 22))) ∧ w = w' := by
  have e : bits BinOp.and .u64 (IntKind.u64.wrap (-22)) 31 = 10 := by decide
  have e2 : num x * 1024 = num x * 2 ^ 10 := rfl
  go_enter Tryd.func86, Tryd.ntmps86
  go_wp2
  go_ret
  refine ⟨?_, rfl⟩
  show Ending.returned (Value.int .u32 (bits BinOp.or .u32 (num (x <<< 10)) (num x / 4194304))) = _
  rw [show num x / (4194304 : Int) = num (x >>> 22) from num_shr x 22, num_or, or_comm32]; rfl
theorem rotl25 (x : W32) (w : World) :
    Calls Tryd.prog 86 #[.int .u32 (num x), .int .i64 (-25)] w fun e w' => e = .returned (.int .u32 (num (rotr x 25))) ∧ w = w' := by
  have e : bits BinOp.and .u64 (IntKind.u64.wrap (-25)) 31 = 7 := by decide
  have e2 : num x * 128 = num x * 2 ^ 7 := rfl
  go_enter Tryd.func86, Tryd.ntmps86
  go_wp2
  go_ret
  refine ⟨?_, rfl⟩
  show Ending.returned (Value.int .u32 (bits BinOp.or .u32 (num (x <<< 7)) (num x / 33554432))) = _
  rw [show num x / (33554432 : Int) = num (x >>> 25) from num_shr x 25, num_or, or_comm32]; rfl
theorem turn_any (x : W32) (k : Nat) (hk : k = 2 ∨ k = 6 ∨ k = 7 ∨ k = 11 ∨ k = 13 ∨ k = 17 ∨ k = 18 ∨ k = 19 ∨ k = 22 ∨ k = 25) (w : World) :
    Calls Tryd.prog 83 #[.int .u32 (num x), .int .i64 (k : Int)] w fun e w' => e = .returned (.int .u32 (num (rotr x k))) ∧ w = w' := by
  rcases hk with rfl | rfl | rfl | rfl | rfl | rfl | rfl | rfl | rfl | rfl
  · go_enter Tryd.func83, Tryd.ntmps83
    go_wp2_with (go_at_call 86; refine (rotl2 x w).mono ?_; rintro e w' ⟨rfl, rfl⟩)
    go_ret
    exact ⟨rfl, rfl⟩
  · go_enter Tryd.func83, Tryd.ntmps83
    go_wp2_with (go_at_call 86; refine (rotl6 x w).mono ?_; rintro e w' ⟨rfl, rfl⟩)
    go_ret
    exact ⟨rfl, rfl⟩
  · go_enter Tryd.func83, Tryd.ntmps83
    go_wp2_with (go_at_call 86; refine (rotl7 x w).mono ?_; rintro e w' ⟨rfl, rfl⟩)
    go_ret
    exact ⟨rfl, rfl⟩
  · go_enter Tryd.func83, Tryd.ntmps83
    go_wp2_with (go_at_call 86; refine (rotl11 x w).mono ?_; rintro e w' ⟨rfl, rfl⟩)
    go_ret
    exact ⟨rfl, rfl⟩
  · go_enter Tryd.func83, Tryd.ntmps83
    go_wp2_with (go_at_call 86; refine (rotl13 x w).mono ?_; rintro e w' ⟨rfl, rfl⟩)
    go_ret
    exact ⟨rfl, rfl⟩
  · go_enter Tryd.func83, Tryd.ntmps83
    go_wp2_with (go_at_call 86; refine (rotl17 x w).mono ?_; rintro e w' ⟨rfl, rfl⟩)
    go_ret
    exact ⟨rfl, rfl⟩
  · go_enter Tryd.func83, Tryd.ntmps83
    go_wp2_with (go_at_call 86; refine (rotl18 x w).mono ?_; rintro e w' ⟨rfl, rfl⟩)
    go_ret
    exact ⟨rfl, rfl⟩
  · go_enter Tryd.func83, Tryd.ntmps83
    go_wp2_with (go_at_call 86; refine (rotl19 x w).mono ?_; rintro e w' ⟨rfl, rfl⟩)
    go_ret
    exact ⟨rfl, rfl⟩
  · go_enter Tryd.func83, Tryd.ntmps83
    go_wp2_with (go_at_call 86; refine (rotl22 x w).mono ?_; rintro e w' ⟨rfl, rfl⟩)
    go_ret
    exact ⟨rfl, rfl⟩
  · go_enter Tryd.func83, Tryd.ntmps83
    go_wp2_with (go_at_call 86; refine (rotl25 x w).mono ?_; rintro e w' ⟨rfl, rfl⟩)
    go_ret
    exact ⟨rfl, rfl⟩
theorem turn_at (x : W32) (k : Int) (hk : k ∈ [2, 6, 7, 11, 13, 17, 18, 19, 22, 25]) (w : World) :
    Calls Tryd.prog 83 #[.int .u32 (num x), .int .i64 k] w fun e w' => e = .returned (.int .u32 (num (rotr x k.toNat))) ∧ w = w' := by
  have h : ∀ j : Int, j ∈ [2, 6, 7, 11, 13, 17, 18, 19, 22, 25] → j = (j.toNat : Int) ∧ (j.toNat = 2 ∨ j.toNat = 6 ∨ j.toNat = 7 ∨ j.toNat = 11 ∨ j.toNat = 13 ∨ j.toNat = 17 ∨ j.toNat = 18 ∨ j.toNat = 19 ∨ j.toNat = 22 ∨ j.toNat = 25) := by decide
  obtain ⟨h1, h2⟩ := h k hk
  have := turn_any x k.toNat h2 w
  rw [← h1] at this
  exact this
theorem rturn_any (x : W32) (k : Nat) (hk : k = 2 ∨ k = 6 ∨ k = 7 ∨ k = 11 ∨ k = 13 ∨ k = 17 ∨ k = 18 ∨ k = 19 ∨ k = 22 ∨ k = 25) (w : World) :
    Calls Tryd.prog 56 #[.int .u32 (num x), .int .i64 (k : Int)] w fun e w' => e = .returned (.int .u32 (num (rotr x k))) ∧ ∃ m, w' = w.drewN m := by
  rcases hk with rfl | rfl | rfl | rfl | rfl | rfl | rfl | rfl | rfl | rfl
  · have e2 : num x * 1073741824 = num x * 2 ^ 30 := rfl
    go_enter Tryd.func56, Tryd.ntmps56
    go_wp2_with fail
    go_quiet (fail)
    go_wp2
    go_ret
    refine ⟨?_, _, rfl⟩
    show Ending.returned (Value.int .u32 (bits BinOp.or .u32 (num x / 4) (num (x <<< 30)))) = _
    rw [show num x / (4 : Int) = num (x >>> 2) from num_shr x 2, num_or]; rfl
  · have e2 : num x * 67108864 = num x * 2 ^ 26 := rfl
    go_enter Tryd.func56, Tryd.ntmps56
    go_wp2_with fail
    go_quiet (fail)
    go_wp2
    go_ret
    refine ⟨?_, _, rfl⟩
    show Ending.returned (Value.int .u32 (bits BinOp.or .u32 (num x / 64) (num (x <<< 26)))) = _
    rw [show num x / (64 : Int) = num (x >>> 6) from num_shr x 6, num_or]; rfl
  · have e2 : num x * 33554432 = num x * 2 ^ 25 := rfl
    go_enter Tryd.func56, Tryd.ntmps56
    go_wp2_with fail
    go_quiet (fail)
    go_wp2
    go_ret
    refine ⟨?_, _, rfl⟩
    show Ending.returned (Value.int .u32 (bits BinOp.or .u32 (num x / 128) (num (x <<< 25)))) = _
    rw [show num x / (128 : Int) = num (x >>> 7) from num_shr x 7, num_or]; rfl
  · have e2 : num x * 2097152 = num x * 2 ^ 21 := rfl
    go_enter Tryd.func56, Tryd.ntmps56
    go_wp2_with fail
    go_quiet (fail)
    go_wp2
    go_ret
    refine ⟨?_, _, rfl⟩
    show Ending.returned (Value.int .u32 (bits BinOp.or .u32 (num x / 2048) (num (x <<< 21)))) = _
    rw [show num x / (2048 : Int) = num (x >>> 11) from num_shr x 11, num_or]; rfl
  · have e2 : num x * 524288 = num x * 2 ^ 19 := rfl
    go_enter Tryd.func56, Tryd.ntmps56
    go_wp2_with fail
    go_quiet (fail)
    go_wp2
    go_ret
    refine ⟨?_, _, rfl⟩
    show Ending.returned (Value.int .u32 (bits BinOp.or .u32 (num x / 8192) (num (x <<< 19)))) = _
    rw [show num x / (8192 : Int) = num (x >>> 13) from num_shr x 13, num_or]; rfl
  · have e2 : num x * 32768 = num x * 2 ^ 15 := rfl
    go_enter Tryd.func56, Tryd.ntmps56
    go_wp2_with fail
    go_quiet (fail)
    go_wp2
    go_ret
    refine ⟨?_, _, rfl⟩
    show Ending.returned (Value.int .u32 (bits BinOp.or .u32 (num x / 131072) (num (x <<< 15)))) = _
    rw [show num x / (131072 : Int) = num (x >>> 17) from num_shr x 17, num_or]; rfl
  · have e2 : num x * 16384 = num x * 2 ^ 14 := rfl
    go_enter Tryd.func56, Tryd.ntmps56
    go_wp2_with fail
    go_quiet (fail)
    go_wp2
    go_ret
    refine ⟨?_, _, rfl⟩
    show Ending.returned (Value.int .u32 (bits BinOp.or .u32 (num x / 262144) (num (x <<< 14)))) = _
    rw [show num x / (262144 : Int) = num (x >>> 18) from num_shr x 18, num_or]; rfl
  · have e2 : num x * 8192 = num x * 2 ^ 13 := rfl
    go_enter Tryd.func56, Tryd.ntmps56
    go_wp2_with fail
    go_quiet (fail)
    go_wp2
    go_ret
    refine ⟨?_, _, rfl⟩
    show Ending.returned (Value.int .u32 (bits BinOp.or .u32 (num x / 524288) (num (x <<< 13)))) = _
    rw [show num x / (524288 : Int) = num (x >>> 19) from num_shr x 19, num_or]; rfl
  · have e2 : num x * 1024 = num x * 2 ^ 10 := rfl
    go_enter Tryd.func56, Tryd.ntmps56
    go_wp2_with fail
    go_quiet (fail)
    go_wp2
    go_ret
    refine ⟨?_, _, rfl⟩
    show Ending.returned (Value.int .u32 (bits BinOp.or .u32 (num x / 4194304) (num (x <<< 10)))) = _
    rw [show num x / (4194304 : Int) = num (x >>> 22) from num_shr x 22, num_or]; rfl
  · have e2 : num x * 128 = num x * 2 ^ 7 := rfl
    go_enter Tryd.func56, Tryd.ntmps56
    go_wp2_with fail
    go_quiet (fail)
    go_wp2
    go_ret
    refine ⟨?_, _, rfl⟩
    show Ending.returned (Value.int .u32 (bits BinOp.or .u32 (num x / 33554432) (num (x <<< 7)))) = _
    rw [show num x / (33554432 : Int) = num (x >>> 25) from num_shr x 25, num_or]; rfl
theorem rturn_at (x : W32) (k : Int) (hk : k ∈ [2, 6, 7, 11, 13, 17, 18, 19, 22, 25]) (w : World) :
    Calls Tryd.prog 56 #[.int .u32 (num x), .int .i64 k] w fun e w' => e = .returned (.int .u32 (num (rotr x k.toNat))) ∧ ∃ m, w' = w.drewN m := by
  have h : ∀ j : Int, j ∈ [2, 6, 7, 11, 13, 17, 18, 19, 22, 25] → j = (j.toNat : Int) ∧ (j.toNat = 2 ∨ j.toNat = 6 ∨ j.toNat = 7 ∨ j.toNat = 11 ∨ j.toNat = 13 ∨ j.toNat = 17 ∨ j.toNat = 18 ∨ j.toNat = 19 ∨ j.toNat = 22 ∨ j.toNat = 25) := by decide
  obtain ⟨h1, h2⟩ := h k hk
  have := rturn_any x k.toNat h2 w
  rw [← h1] at this
  exact this
theorem bigSum0_any (x : W32) (w : World) :
    Calls Tryd.prog 77 #[.int .u32 (num x)] w fun e w' => e = .returned (.int .u32 (num (fS0 x))) ∧ w = w' := by
  go_enter Tryd.func77, Tryd.ntmps77
  go_wp2_with (go_at_call 83; refine (turn_at x _ (by decide) w).mono ?_; rintro e w' ⟨rfl, rfl⟩)
  go_ret
  exact ⟨rfl, rfl⟩
theorem bigSum1_any (x : W32) (w : World) :
    Calls Tryd.prog 75 #[.int .u32 (num x)] w fun e w' => e = .returned (.int .u32 (num (fS1 x))) ∧ w = w' := by
  go_enter Tryd.func75, Tryd.ntmps75
  go_wp2_with (go_at_call 83; refine (turn_at x _ (by decide) w).mono ?_; rintro e w' ⟨rfl, rfl⟩)
  go_ret
  exact ⟨rfl, rfl⟩
theorem smallSum0_any (x : W32) (w : World) :
    Calls Tryd.prog 81 #[.int .u32 (num x)] w fun e w' => e = .returned (.int .u32 (num (fs0 x))) ∧ w = w' := by
  go_enter Tryd.func81, Tryd.ntmps81
  go_wp2_with (go_at_call 83; refine (turn_at x _ (by decide) w).mono ?_; rintro e w' ⟨rfl, rfl⟩)
  go_ret
  exact ⟨rfl, rfl⟩
theorem smallSum1_any (x : W32) (w : World) :
    Calls Tryd.prog 80 #[.int .u32 (num x)] w fun e w' => e = .returned (.int .u32 (num (fs1 x))) ∧ w = w' := by
  go_enter Tryd.func80, Tryd.ntmps80
  go_wp2_with (go_at_call 83; refine (turn_at x _ (by decide) w).mono ?_; rintro e w' ⟨rfl, rfl⟩)
  go_ret
  exact ⟨rfl, rfl⟩
theorem place_any (k i : Nat) (hk : k < 8) (hi : i < 64) (w : World) :
    Calls Tryd.prog 74 #[.int .i64 (k : Int), .int .i64 (i : Int)] w fun e w' => e = .returned (.int .i64 ((k + 64 - i) % 8 : Nat)) ∧ w = w' := by
  have h : ∀ k, k < 8 → ∀ i, i < 64 → bits BinOp.and .i64 ((k : Nat) - (i : Nat) : Int) 7 = (((k + 64 - i) % 8 : Nat) : Int) := by decide +kernel
  have h2 := h k hk i hi
  clear h
  go_enter Tryd.func74, Tryd.ntmps74
  go_wp2
  go_ret
  exact ⟨rfl, rfl⟩
end Go.Proofs.YtmhdhhdhnkoocaaDoor
