/- prf.F. -/
import Derived.Test.YtfeiplaiekbdkaaGreatDoorPrf
namespace Go.Proofs.YtfeiplaiekbdkaaGreatDoor
open Go.RowKit
attribute [local go_sem ↓ high] zeroV26

set_option maxHeartbeats 1000000 in
set_option maxRecDepth 100000 in
theorem f_any (k x : Nat → UInt8) (w : World) (hT : Tabs w) :
    Calls Tryz.prog 93 #[.agg (vec 32 (bys k)), .agg (vec 32 (bys x))] w fun e w' => e = .returned (.agg (vec 32 (bys (fF k x)))) ∧ Below w.heap.size w w' := by
  obtain ⟨V, hV⟩ : ∃ V, V = ((w.alloc (.cells (vec 32 (bys k)) 30)).alloc (.cells (vec 32 (bys x)) 30)).alloc (.cells (vec 32 (bys zb)) 30) := ⟨_, rfl⟩
  have hA0 : Arr V w.heap.size 30 32 (bys k) := by rw [hV]; exact (((Arr.newAt _ _ _ _ (by simp)).alloc _).alloc _)
  have hA1 : Arr V (w.heap.size + 1) 30 32 (bys x) := by rw [hV]; exact ((Arr.newAt _ _ _ _ (by simp)).alloc _)
  have hA2 : Arr V (w.heap.size + 2) 30 32 (bys zb) := by rw [hV]; exact (Arr.newAt _ _ _ _ (by simp))
  have hB : Below w.heap.size w V := by rw [hV]; exact ((((Below.refl _ _).alloc (by simp <;> omega) _).alloc (by simp <;> omega) _).alloc (by simp <;> omega) _)
  have hsz : V.heap.size = w.heap.size + 3 := by rw [hV]; simp
  have HA := Lib.hid (Ahead.mk (r := w.heap.size + 2) hB (tabs_below hT hB) (tabs_far hT (by omega)))
  have HA0 := Lib.hid hA0
  have HA1 := Lib.hid hA1
  have HA2 := Lib.hid hA2
  have HW := Lib.hid hV
  clear hV hB hsz hT hA0 hA1 hA2
  go_enter Tryz.func93, Tryz.ntmps93
  go_upto_region 1 with fail
  rw [← HW.out]
  clear HW
  refine wp_region_held_drew (S := fun Y => SR V (w.heap.size + 2) Y) (by kernel_rfl) (SR.begin HA2.out) (fun hS => ?_)
  (refine held_take (i := 0) (oi := ?ot1) (v := ?vt1) ?at1 (by kernel_rfl) (by kernel_rfl) (by kernel_rfl) ?bt1 ?ct1 ?dt1 (by assumption) ?rt1; (case at1 => (simp only [List.getElem?_toArray, List.getElem?_cons_zero]; rfl)); (case bt1 => exact fun _ _ _ h => h); (case ct1 => kernel_rfl); (case dt1 => (intro W hW; (try dsimp only at hW); go_split_ands; go_simp; (try with_reducible rfl))); (case' rt1 => simp only [Act.put, List.setIfInBounds_toArray, List.set_cons_zero, List.set_cons_succ]))
  (refine held_take (i := 1) (oi := ?ot2) (v := ?vt2) ?at2 (by kernel_rfl) (by kernel_rfl) (by kernel_rfl) ?bt2 ?ct2 ?dt2 (by assumption) ?rt2; (case at2 => (simp only [List.getElem?_toArray, List.getElem?_cons_zero, List.getElem?_cons_succ]; rfl)); (case bt2 => exact fun _ _ _ h => h); (case ct2 => kernel_rfl); (case dt2 => (intro W hW; (try dsimp only at hW); go_split_ands; go_simp; (try with_reducible rfl))); (case' rt2 => simp only [Act.put, List.setIfInBounds_toArray, List.set_cons_zero, List.set_cons_succ]))
  refine held_one (i := 2) (oi := ?ot3) (by kernel_rfl) ?at3 ?ct3 (fun K2 hK2 => ?_)
  (case at3 => (simp only [List.getElem?_toArray, List.getElem?_cons_zero, List.getElem?_cons_succ]; rfl))
  (case ct3 => kernel_rfl)
  have hSb := hS
  go_simp
  refine hK2 _ _ (hS.keep (below_alloc1 _ _)) (fun hS2 => ?_)
  clear hK2 K2
  refine held_one (i := 3) (oi := ?ot4) (by kernel_rfl) ?at4 ?ct4 (fun K3 hK3 => ?_)
  (case at4 => (simp only [List.getElem?_toArray, List.getElem?_cons_zero, List.getElem?_cons_succ]; rfl))
  (case ct4 => kernel_rfl)
  go_simp
  refine (keyed_new 0 (by decide) [(some ⟨w.heap.size, 0, none⟩, 32, nodeL k), (some ⟨w.heap.size + 1, 0, none⟩, 32, nodeL x)] (wideL 0 ++ (nodeL k ++ nodeL x)) 2 (by rfl) (by simp [catAll]) (by rfl) (parts2 (node_part (hSb.arr HA0.out (by omega))) (node_part (hSb.arr HA1.out (by omega)))) (hSb.tabs HA.out.tabs HA.out.far.1 HA.out.far.2) (by simp) (by simp [catAll, nodeL_length])).mono ?_
  rintro e y3 ⟨rfl, hd⟩
  refine hK3 _ _ (hSb.keep hd) (fun hS3 => ?_)
  clear hd hK3 K3
  refine held_one (i := 4) (oi := ?ot5) (by kernel_rfl) ?at5 ?ct5 (fun K4 hK4 => ?_)
  (case at5 => (simp only [List.getElem?_toArray, List.getElem?_cons_zero, List.getElem?_cons_succ]; rfl))
  (case ct5 => kernel_rfl)
  obtain ⟨f0, hf0⟩ := hS3.res
  refine ow_store 30 _ _ rfl _ rfl _ rfl (run_store_arr hf0 (bys (fF k x)) info26 (bys_one _ _)) ?_
  refine hK4 _ _ (hS3.put _) (fun hS4 => ?_)
  clear hK4 K4
  refine wpAnyH_done (by kernel_rfl) ?_ _
  go_wp2
  refine bodyPost_ret (results_cell1 rfl _ _ _ rfl (run_load_arr (hf0.row _) Tryz.underlying30 rfl info26)) rfl ⟨rfl, hS4.below HA.out.below (by omega)⟩

end Go.Proofs.YtfeiplaiekbdkaaGreatDoor
