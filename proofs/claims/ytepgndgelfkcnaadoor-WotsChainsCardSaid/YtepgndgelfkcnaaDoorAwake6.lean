/- The chapter's example: awake. -/
import Derived.Test.YtepgndgelfkcnaaDoorDigs
namespace Go.Proofs.YtepgndgelfkcnaaDoor
open Go.RowKit
attribute [local go_sem ↓ high] zeroV26 zeroV67

set_option maxHeartbeats 1000000 in
set_option maxRecDepth 100000 in
theorem awake6_any (w : World) :
    Calls Tryd.prog 8 #[] w fun e w' => e = .returned (.bool true) ∧ Below w.heap.size w w' := by
  go_enter Tryd.func8, Tryd.ntmps8
  go_upto_region 2 with (first
    | ((with_reducible show wpList _ _ _ (Oper.mk _ (.build _ _) _ _ _ _ :: _) _ _); refine wl_build rfl 23 _ rfl (vec 32 (bys zb)) (by kernel_rfl) ?_)
    | (go_at_call 20; refine (digitsW_any zb _).mono ?_; rintro e w1 ⟨rfl, hd⟩; have H1 := Lib.hid hd; clear hd)
    | ((with_reducible show wpList _ _ _ (Oper.mk _ (.store _ _ _) _ _ _ _ :: _) _ _); refine wl_store rfl 32 _ _ rfl _ rfl _ rfl (run_store_arr (Arr.new w1 _ _ _) (ints (digN zb)) info67 (ints_one _ _)) ?_))
  obtain ⟨V, hV⟩ : ∃ V, V = (w1.alloc (.cells (vec 67 (ints z67)) 32)).setRow w1.heap.size (vec 67 (ints (digN zb))) := ⟨_, rfl⟩
  have hA : Arr V w1.heap.size 32 67 (ints (digN zb)) := by rw [hV]; exact (Arr.new w1 _ _ _).row _
  have hB : Below w.heap.size w V := by rw [hV]; exact below_row (H1.out.alloc H1.out.size _) H1.out.size _
  have e0 : digN zb 0 = 0 := by decide +kernel
  have e1 : digN zb 64 = 3 := by decide +kernel
  have e2 : digN zb 65 = 12 := by decide +kernel
  have e3 : digN zb 66 = 0 := by decide +kernel
  have c0 : V.cell? ⟨w1.heap.size, 0, none⟩ = some (.int .i64 0) := by have := hA.cell (i := 0) (by decide); rw [ints, e0] at this; exact this
  have c1 : V.cell? ⟨w1.heap.size, 64, none⟩ = some (.int .i64 3) := by have := hA.cell (i := 64) (by decide); rw [ints, e1] at this; exact this
  have c2 : V.cell? ⟨w1.heap.size, 65, none⟩ = some (.int .i64 12) := by have := hA.cell (i := 65) (by decide); rw [ints, e2] at this; exact this
  have c3 : V.cell? ⟨w1.heap.size, 66, none⟩ = some (.int .i64 0) := by have := hA.cell (i := 66) (by decide); rw [ints, e3] at this; exact this
  rw [← hV]
  have HB := Lib.hid hB
  clear hV hA hB e0 e1 e2 e3 H1
  go_wp2_with fail
  go_ret
  exact ⟨rfl, HB.out⟩
end Go.Proofs.YtepgndgelfkcnaaDoor
