/- wots.half, wots.digits, wots.ends. -/
import Derived.Deep.Cut
import Derived.WalkSpells
import Derived.IntWalk
import Derived.Test.YtepgndgelfkcnaaDoorDig
namespace Go.Proofs.YtepgndgelfkcnaaDoor
open Go.RowKit
attribute [local go_sem ↓ high] zeroV26

theorem and15_u8 (x : Nat) (h : x < 256) : bits .and .u8 (x : Int) 15 = ((x % 16 : Nat) : Int) := by
  have hall : ∀ y : Fin 256, bits .and .u8 ((y.val : Nat) : Int) 15 = ((y.val % 16 : Nat) : Int) := by decide +kernel
  exact hall ⟨x, h⟩
theorem wrap64_nat (x : Nat) (h : x < 1000000) : wrap64 (x : Int) = (x : Int) := by
  unfold wrap64; omega
theorem make_func (fn : Fn) (first cap : Array Value) (w : World) : (Instr.makeFunc fn first cap).run Tryd.prog w = .ok (.func fn first cap) w := rfl
set_option maxHeartbeats 1000000 in
set_option maxRecDepth 100000 in
theorem half_any (m : Nat → UInt8) (i : Nat) (hi : i < 64) (w : World) :
    Calls Tryd.prog 39 #[.agg (vec 32 (bys m)), .int .i64 (i : Int)] w fun e w' => e = .returned (.int .i64 (halfN m i : Int)) ∧ Below w.heap.size w w' := by
  obtain ⟨V, hV⟩ : ∃ V, V = w.alloc (.cells (vec 32 (bys m)) 23) := ⟨_, rfl⟩
  have hA : Arr V w.heap.size 23 32 (bys m) := by rw [hV]; exact Arr.new w _ _ _
  have hB : Below w.heap.size w V := by rw [hV]; exact (Below.refl _ _).alloc (Nat.le_refl _) _
  have hc : V.cell? ⟨w.heap.size, i / 2, none⟩ = some (.int .u8 ((m (i / 2)).toNat : Int)) := hA.cell (i := i / 2) (by omega)
  have HB := Lib.hid hB
  have HW := Lib.hid hV
  clear hV hA hB
  go_enter Tryd.func39, Tryd.ntmps39
  go_upto_region 1 with fail
  rw [← HW.out]
  clear HW
  go_wp2
  all_goals rename_i h2
  all_goals have hm := (m (i / 2)).toNat_lt
  all_goals have e0 : (((m (i / 2)).toNat : Int) / 16) = (((m (i / 2)).toNat / 16 : Nat) : Int) := by omega
  · have h2 : i % 2 = 0 := by simp at h2; omega
    have e : wrap64 (bits .and .u8 (((m (i / 2)).toNat : Int) / 16) 15) = ((halfN m i : Nat) : Int) := by
      rw [e0, and15_u8 _ (by omega), wrap64_nat _ (by omega)]
      unfold halfN
      rw [if_pos h2, Nat.mod_eq_of_lt (by omega)]
    rw [e]
    exact bodyPost_ret (results_tmp rfl _ _ _) rfl ⟨rfl, HB.out⟩
  · have h2 : ¬ i % 2 = 0 := by simp at h2; omega
    have e : wrap64 (bits .and .u8 ((m (i / 2)).toNat : Int) 15) = ((halfN m i : Nat) : Int) := by
      rw [and15_u8 _ (by omega), wrap64_nat _ (by omega)]
      unfold halfN
      rw [if_neg h2]
    rw [e]
    exact bodyPost_ret (results_tmp rfl _ _ _) rfl ⟨rfl, HB.out⟩
set_option maxRecDepth 100000 in
theorem digits_any (m : Nat → UInt8) (w : World) :
    Calls Tryd.prog 28 #[.agg (vec 32 (bys m))] w fun e w' => e = .returned (.func (.func 38) #[] #[.pointer (some ⟨w.heap.size, 0, none⟩)]) ∧ w' = w.alloc (.cells (vec 32 (bys m)) 23) := by
  have hmf := make_func
  go_enter Tryd.func28, Tryd.ntmps28
  go_wp2
  go_ret
  exact ⟨rfl, rfl⟩
end Go.Proofs.YtepgndgelfkcnaaDoor
