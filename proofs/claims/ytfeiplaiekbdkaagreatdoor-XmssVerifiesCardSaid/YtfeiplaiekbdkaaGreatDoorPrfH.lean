/- prf.H. -/
import Derived.Test.YtfeiplaiekbdkaaGreatDoorPrf
namespace Go.Proofs.YtfeiplaiekbdkaaGreatDoor
open Go.RowKit
attribute [local go_sem ↓ high] zeroV26

set_option maxHeartbeats 1000000 in
set_option maxRecDepth 100000 in
theorem h_any (k x y : Nat → UInt8) (w : World) (hT : Tabs w) :
    Calls Tryz.prog 105 #[.agg (vec 32 (bys k)), .agg (vec 32 (bys x)), .agg (vec 32 (bys y))] w fun e w' => e = .returned (.agg (vec 32 (bys (hF k x y)))) ∧ Below w.heap.size w w' := by
  obtain ⟨V, hV⟩ : ∃ V, V = (((w.alloc (.cells (vec 32 (bys k)) 30)).alloc (.cells (vec 32 (bys x)) 30)).alloc (.cells (vec 32 (bys y)) 30)).alloc (.cells (vec 32 (bys zb)) 30) := ⟨_, rfl⟩
  have hA0 : Arr V w.heap.size 30 32 (bys k) := by rw [hV]; exact ((((Arr.newAt _ _ _ _ (by simp)).alloc _).alloc _).alloc _)
  have hA1 : Arr V (w.heap.size + 1) 30 32 (bys x) := by rw [hV]; exact (((Arr.newAt _ _ _ _ (by simp)).alloc _).alloc _)
  have hA2 : Arr V (w.heap.size + 2) 30 32 (bys y) := by rw [hV]; exact ((Arr.newAt _ _ _ _ (by simp)).alloc _)
  have hA3 : Arr V (w.heap.size + 3) 30 32 (bys zb) := by rw [hV]; exact (Arr.newAt _ _ _ _ (by simp))
  have hB : Below w.heap.size w V := by rw [hV]; exact (((((Below.refl _ _).alloc (by simp <;> omega) _).alloc (by simp <;> omega) _).alloc (by simp <;> omega) _).alloc (by simp <;> omega) _)
  have hsz : V.heap.size = w.heap.size + 4 := by rw [hV]; simp
  have HA := Lib.hid (Ahead.mk (r := w.heap.size + 3) hB (tabs_below hT hB) (tabs_far hT (by omega)))
  have HA0 := Lib.hid hA0
  have HA1 := Lib.hid hA1
  have HA2 := Lib.hid hA2
  have HA3 := Lib.hid hA3
  have HW := Lib.hid hV
  clear hV hB hsz hT hA0 hA1 hA2 hA3
  go_enter Tryz.func105, Tryz.ntmps105
  go_upto_region 1 with fail
  rw [← HW.out]
  clear HW
  refine wp_region_held_drew (S := fun Y => SR V (w.heap.size + 3) Y) (by kernel_rfl) (SR.begin HA3.out) (fun hS => ?_)
  (refine held_take (i := 0) (oi := ?ot6) (v := ?vt6) ?at6 (by kernel_rfl) (by kernel_rfl) (by kernel_rfl) ?bt6 ?ct6 ?dt6 (by assumption) ?rt6; (case at6 => (simp only [List.getElem?_toArray, List.getElem?_cons_zero]; rfl)); (case bt6 => exact fun _ _ _ h => h); (case ct6 => kernel_rfl); (case dt6 => (intro W hW; (try dsimp only at hW); go_split_ands; go_simp; (try with_reducible rfl))); (case' rt6 => simp only [Act.put, List.setIfInBounds_toArray, List.set_cons_zero, List.set_cons_succ]))
  (refine held_take (i := 1) (oi := ?ot7) (v := ?vt7) ?at7 (by kernel_rfl) (by kernel_rfl) (by kernel_rfl) ?bt7 ?ct7 ?dt7 (by assumption) ?rt7; (case at7 => (simp only [List.getElem?_toArray, List.getElem?_cons_zero, List.getElem?_cons_succ]; rfl)); (case bt7 => exact fun _ _ _ h => h); (case ct7 => kernel_rfl); (case dt7 => (intro W hW; (try dsimp only at hW); go_split_ands; go_simp; (try with_reducible rfl))); (case' rt7 => simp only [Act.put, List.setIfInBounds_toArray, List.set_cons_zero, List.set_cons_succ]))
  (refine held_take (i := 2) (oi := ?ot8) (v := ?vt8) ?at8 (by kernel_rfl) (by kernel_rfl) (by kernel_rfl) ?bt8 ?ct8 ?dt8 (by assumption) ?rt8; (case at8 => (simp only [List.getElem?_toArray, List.getElem?_cons_zero, List.getElem?_cons_succ]; rfl)); (case bt8 => exact fun _ _ _ h => h); (case ct8 => kernel_rfl); (case dt8 => (intro W hW; (try dsimp only at hW); go_split_ands; go_simp; (try with_reducible rfl))); (case' rt8 => simp only [Act.put, List.setIfInBounds_toArray, List.set_cons_zero, List.set_cons_succ]))
  refine held_one (i := 3) (oi := ?ot9) (by kernel_rfl) ?at9 ?ct9 (fun K3 hK3 => ?_)
  (case at9 => (simp only [List.getElem?_toArray, List.getElem?_cons_zero, List.getElem?_cons_succ]; rfl))
  (case ct9 => kernel_rfl)
  have hSb := hS
  go_simp
  refine hK3 _ _ (hS.keep (below_alloc1 _ _)) (fun hS3 => ?_)
  clear hK3 K3
  refine held_one (i := 4) (oi := ?ot10) (by kernel_rfl) ?at10 ?ct10 (fun K4 hK4 => ?_)
  (case at10 => (simp only [List.getElem?_toArray, List.getElem?_cons_zero, List.getElem?_cons_succ]; rfl))
  (case ct10 => kernel_rfl)
  go_simp
  refine (keyed_new 1 (by decide) [(some ⟨w.heap.size, 0, none⟩, 32, nodeL k), (some ⟨w.heap.size + 1, 0, none⟩, 32, nodeL x), (some ⟨w.heap.size + 2, 0, none⟩, 32, nodeL y)] (wideL 1 ++ (nodeL k ++ (nodeL x ++ nodeL y))) 3 (by rfl) (by simp [catAll]) (by rfl) (parts3 (node_part (hSb.arr HA0.out (by omega))) (node_part (hSb.arr HA1.out (by omega))) (node_part (hSb.arr HA2.out (by omega)))) (hSb.tabs HA.out.tabs HA.out.far.1 HA.out.far.2) (by simp) (by simp [catAll, nodeL_length])).mono ?_
  rintro e y4 ⟨rfl, hd⟩
  refine hK4 _ _ (hSb.keep hd) (fun hS4 => ?_)
  clear hd hK4 K4
  refine held_one (i := 5) (oi := ?ot11) (by kernel_rfl) ?at11 ?ct11 (fun K5 hK5 => ?_)
  (case at11 => (simp only [List.getElem?_toArray, List.getElem?_cons_zero, List.getElem?_cons_succ]; rfl))
  (case ct11 => kernel_rfl)
  obtain ⟨f0, hf0⟩ := hS4.res
  refine ow_store 30 _ _ rfl _ rfl _ rfl (run_store_arr hf0 (bys (hF k x y)) info26 (bys_one _ _)) ?_
  refine hK5 _ _ (hS4.put _) (fun hS5 => ?_)
  clear hK5 K5
  refine wpAnyH_done (by kernel_rfl) ?_ _
  go_wp2
  refine bodyPost_ret (results_cell1 rfl _ _ _ rfl (run_load_arr (hf0.row _) Tryz.underlying30 rfl info26)) rfl ⟨rfl, hS5.below HA.out.below (by omega)⟩

end Go.Proofs.YtfeiplaiekbdkaaGreatDoor
