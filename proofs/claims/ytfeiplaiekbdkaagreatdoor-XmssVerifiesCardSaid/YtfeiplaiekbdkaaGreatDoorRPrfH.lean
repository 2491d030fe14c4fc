/- The reference's H. -/
import Derived.Test.YtfeiplaiekbdkaaGreatDoorPrf
namespace Go.Proofs.YtfeiplaiekbdkaaGreatDoor
open Go.RowKit
attribute [local go_sem ↓ high] zeroV26

set_option maxHeartbeats 1000000 in
set_option maxRecDepth 100000 in
theorem rh_any (k x y : Nat → UInt8) (w : World) :
    Calls Tryz.prog 74 #[.agg (vec 32 (bys k)), .agg (vec 32 (bys x)), .agg (vec 32 (bys y))] w fun e w' => e = .returned (.agg (vec 32 (bys (hF k x y)))) ∧ Below w.heap.size w w' := by
  obtain ⟨V, hV⟩ : ∃ V, V = (((w.alloc (.cells (vec 32 (bys k)) 30)).alloc (.cells (vec 32 (bys x)) 30)).alloc (.cells (vec 32 (bys y)) 30)).alloc (.cells (vec 32 (bys zb)) 30) := ⟨_, rfl⟩
  have hA0 : Arr V w.heap.size 30 32 (bys k) := by rw [hV]; exact ((((Arr.newAt _ _ _ _ (by simp)).alloc _).alloc _).alloc _)
  have hA1 : Arr V (w.heap.size + 1) 30 32 (bys x) := by rw [hV]; exact (((Arr.newAt _ _ _ _ (by simp)).alloc _).alloc _)
  have hA2 : Arr V (w.heap.size + 2) 30 32 (bys y) := by rw [hV]; exact ((Arr.newAt _ _ _ _ (by simp)).alloc _)
  have hA3 : Arr V (w.heap.size + 3) 30 32 (bys zb) := by rw [hV]; exact (Arr.newAt _ _ _ _ (by simp))
  have hB : Below w.heap.size w V := by rw [hV]; exact (((((Below.refl _ _).alloc (by simp <;> omega) _).alloc (by simp <;> omega) _).alloc (by simp <;> omega) _).alloc (by simp <;> omega) _)
  have hsz : V.heap.size = w.heap.size + 4 := by rw [hV]; simp
  have HA := Lib.hid hB
  have HA0 := Lib.hid hA0
  have HA1 := Lib.hid hA1
  have HA2 := Lib.hid hA2
  have HA3 := Lib.hid hA3
  have HW := Lib.hid hV
  clear hV hB hsz hA0 hA1 hA2 hA3
  go_enter Tryz.func74, Tryz.ntmps74
  go_upto_region 1 with fail
  rw [← HW.out]
  clear HW
  refine wp_region_held_drew (S := fun Y => SR V (w.heap.size + 3) Y) (by kernel_rfl) (SR.begin HA3.out) (fun hS => ?_)
  (refine held_take (i := 0) (oi := ?ot6) (v := ?vt6) ?at6 (by kernel_rfl) (by kernel_rfl) (by kernel_rfl) ?bt6 ?ct6 ?dt6 (by assumption) ?rt6; (case at6 => (simp only [List.getElem?_toArray, List.getElem?_cons_zero]; rfl)); (case bt6 => exact fun _ _ _ h => h); (case ct6 => kernel_rfl); (case dt6 => (intro W hW; (try dsimp only at hW); go_split_ands; go_simp; (try with_reducible rfl))); (case' rt6 => simp only [Act.put, List.setIfInBounds_toArray, List.set_cons_zero, List.set_cons_succ]))
  (refine held_take (i := 2) (oi := ?ot7) (v := ?vt7) ?at7 (by kernel_rfl) (by kernel_rfl) (by kernel_rfl) ?bt7 ?ct7 ?dt7 (by assumption) ?rt7; (case at7 => (simp only [List.getElem?_toArray, List.getElem?_cons_zero, List.getElem?_cons_succ]; rfl)); (case bt7 => exact fun _ _ _ h => h); (case ct7 => kernel_rfl); (case dt7 => (intro W hW; (try dsimp only at hW); go_split_ands; go_simp; (try with_reducible rfl))); (case' rt7 => simp only [Act.put, List.setIfInBounds_toArray, List.set_cons_zero, List.set_cons_succ]))
  (refine held_take (i := 4) (oi := ?ot8) (v := ?vt8) ?at8 (by kernel_rfl) (by kernel_rfl) (by kernel_rfl) ?bt8 ?ct8 ?dt8 (by assumption) ?rt8; (case at8 => (simp only [List.getElem?_toArray, List.getElem?_cons_zero, List.getElem?_cons_succ]; rfl)); (case bt8 => exact fun _ _ _ h => h); (case ct8 => kernel_rfl); (case dt8 => (intro W hW; (try dsimp only at hW); go_split_ands; go_simp; (try with_reducible rfl))); (case' rt8 => simp only [Act.put, List.setIfInBounds_toArray, List.set_cons_zero, List.set_cons_succ]))
  refine held_one (i := 1) (oi := ?ot9) (by kernel_rfl) ?at9 ?ct9 (fun K1 hK1 => ?_)
  (case at9 => (simp only [List.getElem?_toArray, List.getElem?_cons_zero, List.getElem?_cons_succ]; rfl))
  (case ct9 => kernel_rfl)
  have hSb := hS
  obtain ⟨v1, y1, hr1, hown1, hd1⟩ := app_node (base := V.heap.size) (xs := []) (World.ownsRow_nil _ _ _ _) (hSb.arr HA0.out (by omega)) (by decide) hSb.size 22
  refine Lib.wp_append_run _ _ _ _ _ rfl _ _ rfl rfl _ _ hr1 ?_
  refine hK1 _ _ (hSb.keepB hd1) (fun hS1 => ?_)
  clear hK1 K1 hr1
  have hw1 := Lib.hid hown1
  clear hown1 hd1
  refine held_one (i := 3) (oi := ?ot10) (by kernel_rfl) ?at10 ?ct10 (fun K3 hK3 => ?_)
  (case at10 => (simp only [List.getElem?_toArray, List.getElem?_cons_zero, List.getElem?_cons_succ]; rfl))
  (case ct10 => kernel_rfl)
  have hSb := hS1
  obtain ⟨v3, y3, hr3, hown3, hd3⟩ := app_node (base := V.heap.size) (xs := [] ++ nodeL k) (hw1.out) (hSb.arr HA1.out (by omega)) (by decide) hSb.size 22
  refine Lib.wp_append_run _ _ _ _ _ rfl _ _ rfl rfl _ _ hr3 ?_
  refine hK3 _ _ (hSb.keepB hd3) (fun hS3 => ?_)
  clear hK3 K3 hr3
  have hw3 := Lib.hid hown3
  clear hown3 hd3
  refine held_one (i := 5) (oi := ?ot11) (by kernel_rfl) ?at11 ?ct11 (fun K5 hK5 => ?_)
  (case at11 => (simp only [List.getElem?_toArray, List.getElem?_cons_zero, List.getElem?_cons_succ]; rfl))
  (case ct11 => kernel_rfl)
  have hSb := hS3
  obtain ⟨v5, y5, hr5, hown5, hd5⟩ := app_node (base := V.heap.size) (xs := [] ++ nodeL k ++ nodeL x) (hw3.out) (hSb.arr HA2.out (by omega)) (by decide) hSb.size 22
  refine Lib.wp_append_run _ _ _ _ _ rfl _ _ rfl rfl _ _ hr5 ?_
  refine hK5 _ _ (hSb.keepB hd5) (fun hS5 => ?_)
  clear hK5 K5 hr5
  have hw5 := Lib.hid hown5
  clear hown5 hd5
  refine held_one (i := 6) (oi := ?ot12) (by kernel_rfl) ?at12 ?ct12 (fun K6 hK6 => ?_)
  (case at12 => (simp only [List.getElem?_toArray, List.getElem?_cons_zero, List.getElem?_cons_succ]; rfl))
  (case ct12 => kernel_rfl)
  have hSb := hS5
  obtain ⟨E, ce, rfl, hli⟩ := owns_form hw5.out
  go_simp
  refine (rkeyed_any 1 (by decide) ([] ++ nodeL k ++ nodeL x ++ nodeL y) 96 (by simp [nodeL_length]) _ _ _ hli (by decide)).mono ?_
  rintro e y6 ⟨rfl, hd⟩
  refine hK6 _ _ (hSb.keep hd) (fun hS6 => ?_)
  clear hd hK6 K6
  refine held_one (i := 7) (oi := ?ot13) (by kernel_rfl) ?at13 ?ct13 (fun K7 hK7 => ?_)
  (case at13 => (simp only [List.getElem?_toArray, List.getElem?_cons_zero, List.getElem?_cons_succ]; rfl))
  (case ct13 => kernel_rfl)
  obtain ⟨f0, hf0⟩ := hS6.res
  refine ow_store 30 _ _ rfl _ rfl _ rfl (run_store_arr hf0 (bys (hF k x y)) info26 (bys_one _ _)) ?_
  refine hK7 _ _ (hS6.put _) (fun hS7 => ?_)
  clear hK7 K7
  refine wpAnyH_done (by kernel_rfl) ?_ _
  go_wp2
  refine bodyPost_ret (results_cell1 rfl _ _ _ rfl (run_load_arr (hf0.row _) Tryz.underlying30 rfl info26)) rfl ⟨rfl, hS7.below HA.out (by omega)⟩

end Go.Proofs.YtfeiplaiekbdkaaGreatDoor
