/- The reference's tables; words out of bytes. -/
import Derived.Test.YtfeiplaiekbdkaaGreatDoorWb
namespace Go.Proofs.YtfeiplaiekbdkaaGreatDoor
open Go.RowKit
attribute [local go_sem ↓ high] zeroV32 zeroV34
set_option maxRecDepth 100000 in
theorem rinit_any (w : World) :
    Calls Tryz.prog 97 #[] w fun e w' => e = .returned (.agg (vec 8 (wds H0))) ∧ Below w.heap.size w w' := by
  have hA : Arr (w.alloc (.cells (vec 8 (wds zw)) 129)) w.heap.size 129 8 (wds zw) := Arr.new w _ _ _
  have HA := Lib.hid hA
  clear hA
  go_enter Tryz.func97, Tryz.ntmps97
  go_wp2_with (first
    | (refine wl_build rfl 129 _ rfl (vec 8 (wds H0)) (by kernel_rfl) ?_)
    | (refine wl_store rfl 129 _ _ rfl _ rfl _ rfl (run_store_arr HA.out (wds H0) info34 (wds_one _ _)) ?_))
  refine bodyPost_ret (results_cell1 rfl _ _ _ rfl (run_load_arr (HA.out.row _) Tryz.underlying129 rfl info34)) rfl ⟨rfl, ?_⟩
  exact below_row ((Below.refl _ _).alloc (Nat.le_refl _) _) (Nat.le_refl _) _
set_option maxRecDepth 100000 in
theorem rtable_any (w : World) :
    Calls Tryz.prog 111 #[] w fun e w' => e = .returned (.agg (vec 64 (wds Kt))) ∧ Below w.heap.size w w' := by
  have hA : Arr (w.alloc (.cells (vec 64 (wds zw)) 159)) w.heap.size 159 64 (wds zw) := Arr.new w _ _ _
  have HA := Lib.hid hA
  clear hA
  go_enter Tryz.func111, Tryz.ntmps111
  go_wp2_with (first
    | (refine wl_build rfl 159 _ rfl (vec 64 (wds Kt)) (by kernel_rfl) ?_)
    | (refine wl_store rfl 159 _ _ rfl _ rfl _ rfl (run_store_arr HA.out (wds Kt) info32 (wds_one _ _)) ?_))
  refine bodyPost_ret (results_cell1 rfl _ _ _ rfl (run_load_arr (HA.out.row _) Tryz.underlying159 rfl info32)) rfl ⟨rfl, ?_⟩
  exact below_row ((Below.refl _ _).alloc (Nat.le_refl _) _) (Nat.le_refl _) _

/-- A byte as a word. -/
def z8 (x : UInt8) : W32 := BitVec.ofNat 32 x.toNat
set_option maxRecDepth 100000 in
theorem z8_toNat (x : UInt8) : (z8 x).toNat = x.toNat := by
  have := x.toNat_lt
  unfold z8; rw [BitVec.toNat_ofNat]; omega
set_option maxRecDepth 100000 in
theorem num_z8 (x : UInt8) : (x.toNat : Int) = num (z8 x) := by unfold num; rw [z8_toNat]
set_option maxRecDepth 100000 in
theorem wrap_z8 (x : W32) : IntKind.u32.wrap (num x) = num x := wrap_num x
set_option maxRecDepth 100000 in
theorem shl24 (x : W32) : IntKind.u32.wrap (num x * (16777216 : Int)) = num (x <<< 24) := num_shl x 24
set_option maxRecDepth 100000 in
theorem shl16 (x : W32) : IntKind.u32.wrap (num x * (65536 : Int)) = num (x <<< 16) := num_shl x 16
set_option maxRecDepth 100000 in
theorem shl8 (x : W32) : IntKind.u32.wrap (num x * (256 : Int)) = num (x <<< 8) := num_shl x 8
set_option maxRecDepth 100000 in
theorem mW_z8 (b : Nat → UInt8) (j : Nat) : mW b j = z8 (b (4 * j)) <<< 24 ||| z8 (b (4 * j + 1)) <<< 16 ||| z8 (b (4 * j + 2)) <<< 8 ||| z8 (b (4 * j + 3)) := by
  apply BitVec.eq_of_toNat_eq
  have h := accN_lt 0 4 32 (fun i => b (4 * j + i)) 4
  have h3 := (b (4 * j + 3)).toNat_lt
  unfold mW
  rw [BitVec.toNat_ofNat, Nat.mod_eq_of_lt h]
  simp only [accN, BitVec.toNat_or, BitVec.toNat_shiftLeft, z8_toNat, Nat.shiftLeft_eq, Nat.zero_or]
  have e0 : (shAt 0 ((0 : Nat) : Int) ((4 : Nat) : Int)).toNat = 24 := rfl
  have e1 : (shAt 0 ((0 + 1 : Nat) : Int) ((4 : Nat) : Int)).toNat = 16 := rfl
  have e2 : (shAt 0 ((0 + 1 + 1 : Nat) : Int) ((4 : Nat) : Int)).toNat = 8 := rfl
  have e3 : (shAt 0 ((0 + 1 + 1 + 1 : Nat) : Int) ((4 : Nat) : Int)).toNat = 0 := rfl
  rw [e0, e1, e2, e3]
  have e4 : (b (4 * j + (0 + 1 + 1 + 1))).toNat * 2 ^ min 0 (8 * 4) % 4294967296 = (b (4 * j + 3)).toNat := by
    rw [Nat.min_eq_left (by decide), Nat.pow_zero, Nat.mul_one]; exact Nat.mod_eq_of_lt (show (b (4 * j + 3)).toNat < 4294967296 by omega)
  rw [e4]
  rfl
end Go.Proofs.YtfeiplaiekbdkaaGreatDoor
