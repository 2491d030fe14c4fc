/- The two tables. -/
import Derived.Test.YtmhdhhdhnkoocaaDoorArr
import Derived.KernelRfl
namespace Go.Proofs.YtmhdhhdhnkoocaaDoor
open Go.RowKit

set_option maxRecDepth 100000 in
theorem info34 : (Tryd.prog.info? 82).map (·.size) = some 8 := by kernel_rfl
set_option maxRecDepth 100000 in
theorem info32 : (Tryd.prog.info? 88).map (·.size) = some 64 := by kernel_rfl
def zw : Nat → W32 := fun _ => 0
set_option maxRecDepth 100000 in
theorem zeroV34 (w : World) : (zeroValue 82).run Tryd.prog w = .ok (.agg (vec 8 (wds zw))) w :=
  (zero_of_info (P := Tryd.prog) (t := 82) (v := .agg (vec 8 (wds zw))) (n := 8) (by kernel_rfl)).1 w
set_option maxRecDepth 100000 in
theorem zeroV32 (w : World) : (zeroValue 88).run Tryd.prog w = .ok (.agg (vec 64 (wds zw))) w :=
  (zero_of_info (P := Tryd.prog) (t := 88) (v := .agg (vec 64 (wds zw))) (n := 64) (by kernel_rfl)).1 w
def Kl : List W32 := [1116352408, 1899447441, 3049323471, 3921009573, 961987163, 1508970993, 2453635748, 2870763221, 3624381080, 310598401, 607225278, 1426881987, 1925078388, 2162078206, 2614888103, 3248222580, 3835390401, 4022224774, 264347078, 604807628, 770255983, 1249150122, 1555081692, 1996064986, 2554220882, 2821834349, 2952996808, 3210313671, 3336571891, 3584528711, 113926993, 338241895, 666307205, 773529912, 1294757372, 1396182291, 1695183700, 1986661051, 2177026350, 2456956037, 2730485921, 2820302411, 3259730800, 3345764771, 3516065817, 3600352804, 4094571909, 275423344, 430227734, 506948616, 659060556, 883997877, 958139571, 1322822218, 1537002063, 1747873779, 1955562222, 2024104815, 2227730452, 2361852424, 2428436474, 2756734187, 3204031479, 3329325298]
def Hl : List W32 := [1779033703, 3144134277, 1013904242, 2773480762, 1359893119, 2600822924, 528734635, 1541459225]
def Kt (i : Nat) : W32 := Kl.getD i 0
def H0 (i : Nat) : W32 := Hl.getD i 0
/-- The two tables, as they stand when a call begins. -/
def Tabs (w : World) : Prop := (∀ i, i < 64 → w.cell? ⟨1, i, none⟩ = some (wds Kt i)) ∧ (∀ i, i < 8 → w.cell? ⟨0, i, none⟩ = some (wds H0 i))
set_option maxRecDepth 100000 in
theorem tabs_below {w w' : World} (h : Tabs w) (hb : Below w.heap.size w w') : Tabs w' :=
  ⟨fun i hi => (hb.cell (World.block_lt_of_cell? w _ (h.1 i hi))).trans (h.1 i hi), fun i hi => (hb.cell (World.block_lt_of_cell? w _ (h.2 i hi))).trans (h.2 i hi)⟩
set_option maxRecDepth 100000 in
theorem tab_lt0 {w : World} (h : Tabs w) : 1 < w.heap.size := World.block_lt_of_cell? w _ (h.1 0 (by decide))

attribute [local go_sem ↓ high] zeroV32 zeroV34
set_option maxRecDepth 100000 in
theorem init_any (w : World) (hT : Tabs w) :
    Calls Tryd.prog 64 #[] w fun e w' => e = .returned (.agg (vec 8 (wds H0))) ∧ Below w.heap.size w w' := by
  have hA : Arr (w.alloc (.cells (vec 8 (wds zw)) 82)) w.heap.size 82 8 (wds zw) := Arr.new w _ _ _
  have hL : (loadVar 82 ⟨0, 0, none⟩).run Tryd.prog (w.alloc (.cells (vec 8 (wds zw)) 82)) = .ok (.agg (vec 8 (wds H0))) (w.alloc (.cells (vec 8 (wds zw)) 82)) :=
    run_load_cells (tabs_below hT ((Below.refl _ _).alloc (Nat.le_refl _) _)).2 Tryd.underlying82 rfl info34
  have HA := Lib.hid hA
  have HL := Lib.hid hL
  clear hA hL hT
  go_enter Tryd.func64, Tryd.ntmps64
  go_wp2_with (first
    | (refine wl_load rfl 82 _ rfl _ rfl _ HL.out ?_)
    | (refine wl_store rfl 82 _ _ rfl _ rfl _ rfl (run_store_arr HA.out (wds H0) info34 (wds_one _ _)) ?_))
  refine bodyPost_ret (results_cell1 rfl _ _ _ rfl (run_load_arr (HA.out.row _) Tryd.underlying82 rfl info34)) rfl ⟨rfl, ?_⟩
  exact below_row ((Below.refl _ _).alloc (Nat.le_refl _) _) (Nat.le_refl _) _
end Go.Proofs.YtmhdhhdhnkoocaaDoor
