/- The reference's F, H, Msg, Prf. -/
import Derived.Test.YtjmlelojilpcaaaDoorPrf
namespace Go.Proofs.YtjmlelojilpcaaaDoor
open Go.RowKit
attribute [local go_sem ↓ high] zeroV26

set_option maxHeartbeats 1000000 in
set_option maxRecDepth 100000 in
theorem rf_any (k x : Nat → UInt8) (w : World) :
    Calls Tryd.prog 13 #[.agg (vec 32 (bys k)), .agg (vec 32 (bys x))] w fun e w' => e = .returned (.agg (vec 32 (bys (fF k x)))) ∧ Below w.heap.size w w' := by
  obtain ⟨V, hV⟩ : ∃ V, V = ((w.alloc (.cells (vec 32 (bys k)) 27)).alloc (.cells (vec 32 (bys x)) 27)).alloc (.cells (vec 32 (bys zb)) 27) := ⟨_, rfl⟩
  have hA0 : Arr V w.heap.size 27 32 (bys k) := by rw [hV]; exact (((Arr.newAt _ _ _ _ (by simp)).alloc _).alloc _)
  have hA1 : Arr V (w.heap.size + 1) 27 32 (bys x) := by rw [hV]; exact ((Arr.newAt _ _ _ _ (by simp)).alloc _)
  have hA2 : Arr V (w.heap.size + 2) 27 32 (bys zb) := by rw [hV]; exact (Arr.newAt _ _ _ _ (by simp))
  have hB : Below w.heap.size w V := by rw [hV]; exact ((((Below.refl _ _).alloc (by simp <;> omega) _).alloc (by simp <;> omega) _).alloc (by simp <;> omega) _)
  have hsz : V.heap.size = w.heap.size + 3 := by rw [hV]; simp
  have HA := Lib.hid hB
  have HA0 := Lib.hid hA0
  have HA1 := Lib.hid hA1
  have HA2 := Lib.hid hA2
  have HW := Lib.hid hV
  clear hV hB hsz hA0 hA1 hA2
  go_enter Tryd.func13, Tryd.ntmps13
  go_upto_region 1 with fail
  rw [← HW.out]
  clear HW
  refine wp_region_held_drew (S := fun Y => SR V (w.heap.size + 2) Y) (by kernel_rfl) (SR.begin HA2.out) (fun hS => ?_)
  (refine held_take (i := 0) (oi := ?ot1) (v := ?vt1) ?at1 (by kernel_rfl) (by kernel_rfl) (by kernel_rfl) ?bt1 ?ct1 ?dt1 (by assumption) ?rt1; (case at1 => (simp only [List.getElem?_toArray, List.getElem?_cons_zero]; rfl)); (case bt1 => exact fun _ _ _ h => h); (case ct1 => kernel_rfl); (case dt1 => (intro W hW; (try dsimp only at hW); go_split_ands; go_simp; (try with_reducible rfl))); (case' rt1 => simp only [Act.put, List.setIfInBounds_toArray, List.set_cons_zero, List.set_cons_succ]))
  (refine held_take (i := 1) (oi := ?ot2) (v := ?vt2) ?at2 (by kernel_rfl) (by kernel_rfl) (by kernel_rfl) ?bt2 ?ct2 ?dt2 (by assumption) ?rt2; (case at2 => (simp only [List.getElem?_toArray, List.getElem?_cons_zero, List.getElem?_cons_succ]; rfl)); (case bt2 => exact fun _ _ _ h => h); (case ct2 => kernel_rfl); (case dt2 => (intro W hW; (try dsimp only at hW); go_split_ands; go_simp; (try with_reducible rfl))); (case' rt2 => simp only [Act.put, List.setIfInBounds_toArray, List.set_cons_zero, List.set_cons_succ]))
  refine held_one (i := 2) (oi := ?ot3) (by kernel_rfl) ?at3 ?ct3 (fun K2 hK2 => ?_)
  (case at3 => (simp only [List.getElem?_toArray, List.getElem?_cons_zero, List.getElem?_cons_succ]; rfl))
  (case ct3 => kernel_rfl)
  have hSb := hS
  obtain ⟨E, ce, y2, hr2, hli, hd⟩ := app_nodes (hSb.arr HA0.out (by omega)) (hSb.arr HA1.out (by omega)) 25
  have HL := Lib.hid hli
  refine Lib.wp_append_run _ _ _ _ _ rfl _ _ rfl rfl _ _ hr2 ?_
  refine hK2 _ _ (hSb.keep hd) (fun hS2 => ?_)
  clear hK2 K2 hr2
  clear hli hd
  refine held_one (i := 3) (oi := ?ot4) (by kernel_rfl) ?at4 ?ct4 (fun K3 hK3 => ?_)
  (case at4 => (simp only [List.getElem?_toArray, List.getElem?_cons_zero, List.getElem?_cons_succ]; rfl))
  (case ct4 => kernel_rfl)
  have hSb := hS2
  have hli := HL.out
  go_simp
  refine (rkeyed_any 0 (by decide) (nodeL k ++ nodeL x) 64 (by simp [nodeL_length]) _ _ _ hli (by decide)).mono ?_
  rintro e y3 ⟨rfl, hd⟩
  refine hK3 _ _ (hSb.keep hd) (fun hS3 => ?_)
  clear hd hK3 K3
  refine held_one (i := 4) (oi := ?ot5) (by kernel_rfl) ?at5 ?ct5 (fun K4 hK4 => ?_)
  (case at5 => (simp only [List.getElem?_toArray, List.getElem?_cons_zero, List.getElem?_cons_succ]; rfl))
  (case ct5 => kernel_rfl)
  obtain ⟨f0, hf0⟩ := hS3.res
  refine ow_store 27 _ _ rfl _ rfl _ rfl (run_store_arr hf0 (bys (fF k x)) info26 (bys_one _ _)) ?_
  refine hK4 _ _ (hS3.put _) (fun hS4 => ?_)
  clear hK4 K4
  refine wpAnyH_done (by kernel_rfl) ?_ _
  go_wp2
  refine bodyPost_ret (results_cell1 rfl _ _ _ rfl (run_load_arr (hf0.row _) Tryd.underlying27 rfl info26)) rfl ⟨rfl, hS4.below HA.out (by omega)⟩

set_option maxHeartbeats 1000000 in
set_option maxRecDepth 100000 in
theorem rh_any (k x y : Nat → UInt8) (w : World) :
    Calls Tryd.prog 15 #[.agg (vec 32 (bys k)), .agg (vec 32 (bys x)), .agg (vec 32 (bys y))] w fun e w' => e = .returned (.agg (vec 32 (bys (hF k x y)))) ∧ Below w.heap.size w w' := by
  obtain ⟨V, hV⟩ : ∃ V, V = (((w.alloc (.cells (vec 32 (bys k)) 27)).alloc (.cells (vec 32 (bys x)) 27)).alloc (.cells (vec 32 (bys y)) 27)).alloc (.cells (vec 32 (bys zb)) 27) := ⟨_, rfl⟩
  have hA0 : Arr V w.heap.size 27 32 (bys k) := by rw [hV]; exact ((((Arr.newAt _ _ _ _ (by simp)).alloc _).alloc _).alloc _)
  have hA1 : Arr V (w.heap.size + 1) 27 32 (bys x) := by rw [hV]; exact (((Arr.newAt _ _ _ _ (by simp)).alloc _).alloc _)
  have hA2 : Arr V (w.heap.size + 2) 27 32 (bys y) := by rw [hV]; exact ((Arr.newAt _ _ _ _ (by simp)).alloc _)
  have hA3 : Arr V (w.heap.size + 3) 27 32 (bys zb) := by rw [hV]; exact (Arr.newAt _ _ _ _ (by simp))
  have hB : Below w.heap.size w V := by rw [hV]; exact (((((Below.refl _ _).alloc (by simp <;> omega) _).alloc (by simp <;> omega) _).alloc (by simp <;> omega) _).alloc (by simp <;> omega) _)
  have hsz : V.heap.size = w.heap.size + 4 := by rw [hV]; simp
  have HA := Lib.hid hB
  have HA0 := Lib.hid hA0
  have HA1 := Lib.hid hA1
  have HA2 := Lib.hid hA2
  have HA3 := Lib.hid hA3
  have HW := Lib.hid hV
  clear hV hB hsz hA0 hA1 hA2 hA3
  go_enter Tryd.func15, Tryd.ntmps15
  go_upto_region 1 with fail
  rw [← HW.out]
  clear HW
  refine wp_region_held_drew (S := fun Y => SR V (w.heap.size + 3) Y) (by kernel_rfl) (SR.begin HA3.out) (fun hS => ?_)
  (refine held_take (i := 0) (oi := ?ot6) (v := ?vt6) ?at6 (by kernel_rfl) (by kernel_rfl) (by kernel_rfl) ?bt6 ?ct6 ?dt6 (by assumption) ?rt6; (case at6 => (simp only [List.getElem?_toArray, List.getElem?_cons_zero]; rfl)); (case bt6 => exact fun _ _ _ h => h); (case ct6 => kernel_rfl); (case dt6 => (intro W hW; (try dsimp only at hW); go_split_ands; go_simp; (try with_reducible rfl))); (case' rt6 => simp only [Act.put, List.setIfInBounds_toArray, List.set_cons_zero, List.set_cons_succ]))
  (refine held_take (i := 2) (oi := ?ot7) (v := ?vt7) ?at7 (by kernel_rfl) (by kernel_rfl) (by kernel_rfl) ?bt7 ?ct7 ?dt7 (by assumption) ?rt7; (case at7 => (simp only [List.getElem?_toArray, List.getElem?_cons_zero, List.getElem?_cons_succ]; rfl)); (case bt7 => exact fun _ _ _ h => h); (case ct7 => kernel_rfl); (case dt7 => (intro W hW; (try dsimp only at hW); go_split_ands; go_simp; (try with_reducible rfl))); (case' rt7 => simp only [Act.put, List.setIfInBounds_toArray, List.set_cons_zero, List.set_cons_succ]))
  (refine held_take (i := 4) (oi := ?ot8) (v := ?vt8) ?at8 (by kernel_rfl) (by kernel_rfl) (by kernel_rfl) ?bt8 ?ct8 ?dt8 (by assumption) ?rt8; (case at8 => (simp only [List.getElem?_toArray, List.getElem?_cons_zero, List.getElem?_cons_succ]; rfl)); (case bt8 => exact fun _ _ _ h => h); (case ct8 => kernel_rfl); (case dt8 => (intro W hW; (try dsimp only at hW); go_split_ands; go_simp; (try with_reducible rfl))); (case' rt8 => simp only [Act.put, List.setIfInBounds_toArray, List.set_cons_zero, List.set_cons_succ]))
  refine held_one (i := 1) (oi := ?ot9) (by kernel_rfl) ?at9 ?ct9 (fun K1 hK1 => ?_)
  (case at9 => (simp only [List.getElem?_toArray, List.getElem?_cons_zero, List.getElem?_cons_succ]; rfl))
  (case ct9 => kernel_rfl)
  have hSb := hS
  obtain ⟨v1, y1, hr1, hown1, hd1⟩ := app_node (base := V.heap.size) (xs := []) (World.ownsRow_nil _ _ _ _) (hSb.arr HA0.out (by omega)) (by decide) hSb.size 25
  refine Lib.wp_append_run _ _ _ _ _ rfl _ _ rfl rfl _ _ hr1 ?_
  refine hK1 _ _ (hSb.keepB hd1) (fun hS1 => ?_)
  clear hK1 K1 hr1
  have hw1 := Lib.hid hown1
  clear hown1 hd1
  refine held_one (i := 3) (oi := ?ot10) (by kernel_rfl) ?at10 ?ct10 (fun K3 hK3 => ?_)
  (case at10 => (simp only [List.getElem?_toArray, List.getElem?_cons_zero, List.getElem?_cons_succ]; rfl))
  (case ct10 => kernel_rfl)
  have hSb := hS1
  obtain ⟨v3, y3, hr3, hown3, hd3⟩ := app_node (base := V.heap.size) (xs := [] ++ nodeL k) (hw1.out) (hSb.arr HA1.out (by omega)) (by decide) hSb.size 25
  refine Lib.wp_append_run _ _ _ _ _ rfl _ _ rfl rfl _ _ hr3 ?_
  refine hK3 _ _ (hSb.keepB hd3) (fun hS3 => ?_)
  clear hK3 K3 hr3
  have hw3 := Lib.hid hown3
  clear hown3 hd3
  refine held_one (i := 5) (oi := ?ot11) (by kernel_rfl) ?at11 ?ct11 (fun K5 hK5 => ?_)
  (case at11 => (simp only [List.getElem?_toArray, List.getElem?_cons_zero, List.getElem?_cons_succ]; rfl))
  (case ct11 => kernel_rfl)
  have hSb := hS3
  obtain ⟨v5, y5, hr5, hown5, hd5⟩ := app_node (base := V.heap.size) (xs := [] ++ nodeL k ++ nodeL x) (hw3.out) (hSb.arr HA2.out (by omega)) (by decide) hSb.size 25
  refine Lib.wp_append_run _ _ _ _ _ rfl _ _ rfl rfl _ _ hr5 ?_
  refine hK5 _ _ (hSb.keepB hd5) (fun hS5 => ?_)
  clear hK5 K5 hr5
  have hw5 := Lib.hid hown5
  clear hown5 hd5
  refine held_one (i := 6) (oi := ?ot12) (by kernel_rfl) ?at12 ?ct12 (fun K6 hK6 => ?_)
  (case at12 => (simp only [List.getElem?_toArray, List.getElem?_cons_zero, List.getElem?_cons_succ]; rfl))
  (case ct12 => kernel_rfl)
  have hSb := hS5
  obtain ⟨E, ce, rfl, hli⟩ := owns_form hw5.out
  go_simp
  refine (rkeyed_any 1 (by decide) ([] ++ nodeL k ++ nodeL x ++ nodeL y) 96 (by simp [nodeL_length]) _ _ _ hli (by decide)).mono ?_
  rintro e y6 ⟨rfl, hd⟩
  refine hK6 _ _ (hSb.keep hd) (fun hS6 => ?_)
  clear hd hK6 K6
  refine held_one (i := 7) (oi := ?ot13) (by kernel_rfl) ?at13 ?ct13 (fun K7 hK7 => ?_)
  (case at13 => (simp only [List.getElem?_toArray, List.getElem?_cons_zero, List.getElem?_cons_succ]; rfl))
  (case ct13 => kernel_rfl)
  obtain ⟨f0, hf0⟩ := hS6.res
  refine ow_store 27 _ _ rfl _ rfl _ rfl (run_store_arr hf0 (bys (hF k x y)) info26 (bys_one _ _)) ?_
  refine hK7 _ _ (hS6.put _) (fun hS7 => ?_)
  clear hK7 K7
  refine wpAnyH_done (by kernel_rfl) ?_ _
  go_wp2
  refine bodyPost_ret (results_cell1 rfl _ _ _ rfl (run_load_arr (hf0.row _) Tryd.underlying27 rfl info26)) rfl ⟨rfl, hS7.below HA.out (by omega)⟩

set_option maxHeartbeats 1000000 in
set_option maxRecDepth 100000 in
theorem rprf_any (key : Nat → UInt8) (l t k a b c m : Nat) (hok : AdOk l t k a b c m) (w : World) (hT : Tabs w) :
    Calls Tryd.prog 19 #[.agg (vec 32 (bys key)), adV l t k a b c m] w fun e w' => e = .returned (.agg (vec 32 (bys (prfF key l t k a b c m)))) ∧ Below w.heap.size w w' := by
  obtain ⟨V, hV⟩ : ∃ V, V = ((w.alloc (.cells (vec 32 (bys key)) 27)).alloc (.cells (adA l t k a b c m) 39)).alloc (.cells (vec 32 (bys zb)) 27) := ⟨_, rfl⟩
  have hA0 : Arr V w.heap.size 27 32 (bys key) := by rw [hV]; exact (((Arr.newAt _ _ _ _ (by simp)).alloc _).alloc _)
  have hA1 : Blk V (w.heap.size + 1) 39 (adA l t k a b c m) := by rw [hV]; exact ((Blk.new _ _ _ (by simp)).alloc _)
  have hA2 : Arr V (w.heap.size + 2) 27 32 (bys zb) := by rw [hV]; exact (Arr.newAt _ _ _ _ (by simp))
  have hB : Below w.heap.size w V := by rw [hV]; exact ((((Below.refl _ _).alloc (by simp <;> omega) _).alloc (by simp <;> omega) _).alloc (by simp <;> omega) _)
  have hsz : V.heap.size = w.heap.size + 3 := by rw [hV]; simp
  have HB1 := Lib.hid (And.intro hB (And.intro hT hok))
  have HA0 := Lib.hid hA0
  have HA1 := Lib.hid hA1
  have HA2 := Lib.hid hA2
  have HW := Lib.hid hV
  have HZ := Lib.hid hsz
  clear hV hB hsz hT hok hA0 hA1 hA2
  go_enter Tryd.func19, Tryd.ntmps19
  go_upto_region 1 with fail
  rw [← HW.out]
  clear HW
  go_upto_region 2 with (first
    | ((with_reducible show wpList _ _ _ (Oper.mk _ (.load _ _) _ _ _ _ :: _) _ _); refine wl_load rfl 39 _ rfl _ rfl _ (HA1.out.load Tryd.underlying39 rfl infoAd) ?_)
    | (go_at_call 29; refine (rbytes_any l t k a b c m HB1.out.2.2 _).mono ?_; rintro e w1 ⟨rfl, hd⟩; have H1 := Lib.hid hd; clear hd)
    | ((with_reducible show wpList _ _ _ (Oper.mk _ (.store _ _ _) _ _ _ _ :: _) _ _); refine wl_store rfl 27 _ _ rfl _ rfl _ rfl (run_store_arr (Arr.new w1 _ _ _) (bys (adB l t k a b c m)) info26 (bys_one _ _)) ?_))
  obtain ⟨g, hg⟩ : ∃ g, g = w1.heap.size := ⟨_, rfl⟩
  obtain ⟨V2, hV2⟩ : ∃ V2, V2 = (w1.alloc (.cells (vec 32 (bys zb)) 27)).setRow w1.heap.size (vec 32 (bys (adB l t k a b c m))) := ⟨_, rfl⟩
  have hb2 : Below V.heap.size V V2 := by rw [hV2]; exact below_row (H1.out.alloc H1.out.size _) H1.out.size _
  have hg2 : w.heap.size + 3 ≤ g := by have := H1.out.size; have := HZ.out; omega
  have hAg : Arr V2 g 27 32 (bys (adB l t k a b c m)) := by rw [hV2, hg]; exact (Arr.new w1 _ _ _).row _
  have hBw : Below w.heap.size w V2 := HB1.out.1.trans (hb2.mono HB1.out.1.size)
  rw [← hV2, ← hg]
  have HA := Lib.hid (Ahead.mk (r := w.heap.size + 2) hBw (tabs_below HB1.out.2.1 hBw) (tabs_far HB1.out.2.1 (by omega)))
  have HK := Lib.hid (HA0.out.under hb2)
  have HR := Lib.hid (HA2.out.under hb2)
  have HG := Lib.hid (And.intro hAg hg2)
  clear hV2 hb2 hg2 hAg hBw hg H1 HA0 HA1 HA2 HZ HB1
  refine wp_region_held_drew (S := fun Y => SR V2 (w.heap.size + 2) Y) (by kernel_rfl) (SR.begin HR.out) (fun hS => ?_)
  (refine held_take (i := 0) (oi := ?ot14) (v := ?vt14) ?at14 (by kernel_rfl) (by kernel_rfl) (by kernel_rfl) ?bt14 ?ct14 ?dt14 (by assumption) ?rt14; (case at14 => (simp only [List.getElem?_toArray, List.getElem?_cons_zero]; rfl)); (case bt14 => exact fun _ _ _ h => h); (case ct14 => kernel_rfl); (case dt14 => (intro W hW; (try dsimp only at hW); go_split_ands; go_simp; (try with_reducible rfl))); (case' rt14 => simp only [Act.put, List.setIfInBounds_toArray, List.set_cons_zero, List.set_cons_succ]))
  (refine held_take (i := 2) (oi := ?ot15) (v := ?vt15) ?at15 (by kernel_rfl) (by kernel_rfl) (by kernel_rfl) ?bt15 ?ct15 ?dt15 (by assumption) ?rt15; (case at15 => (simp only [List.getElem?_toArray, List.getElem?_cons_zero, List.getElem?_cons_succ]; rfl)); (case bt15 => exact fun _ _ _ h => h); (case ct15 => kernel_rfl); (case dt15 => (intro W hW; (try dsimp only at hW); go_split_ands; go_simp; (try with_reducible rfl))); (case' rt15 => simp only [Act.put, List.setIfInBounds_toArray, List.set_cons_zero, List.set_cons_succ]))
  refine held_one (i := 1) (oi := ?ot16) (by kernel_rfl) ?at16 ?ct16 (fun K1 hK1 => ?_)
  (case at16 => (simp only [List.getElem?_toArray, List.getElem?_cons_zero, List.getElem?_cons_succ]; rfl))
  (case ct16 => kernel_rfl)
  have hSb := hS
  obtain ⟨v1, y1, hr1, hown1, hd1⟩ := app_node (base := V2.heap.size) (xs := []) (World.ownsRow_nil _ _ _ _) (hSb.arr HK.out (by omega)) (by decide) hSb.size 25
  refine Lib.wp_append_run _ _ _ _ _ rfl _ _ rfl rfl _ _ hr1 ?_
  refine hK1 _ _ (hSb.keepB hd1) (fun hS1 => ?_)
  clear hK1 K1 hr1
  have hw1 := Lib.hid hown1
  clear hown1 hd1
  refine held_one (i := 3) (oi := ?ot17) (by kernel_rfl) ?at17 ?ct17 (fun K3 hK3 => ?_)
  (case at17 => (simp only [List.getElem?_toArray, List.getElem?_cons_zero, List.getElem?_cons_succ]; rfl))
  (case ct17 => kernel_rfl)
  have hSb := hS1
  obtain ⟨v3, y3, hr3, hown3, hd3⟩ := app_node (base := V2.heap.size) (xs := [] ++ nodeL key) (hw1.out) (hSb.arr HG.out.1 (by have := HG.out.2; omega)) (by decide) hSb.size 25
  refine Lib.wp_append_run _ _ _ _ _ rfl _ _ rfl rfl _ _ hr3 ?_
  refine hK3 _ _ (hSb.keepB hd3) (fun hS3 => ?_)
  clear hK3 K3 hr3
  have hw3 := Lib.hid hown3
  clear hown3 hd3
  refine held_one (i := 4) (oi := ?ot18) (by kernel_rfl) ?at18 ?ct18 (fun K4 hK4 => ?_)
  (case at18 => (simp only [List.getElem?_toArray, List.getElem?_cons_zero, List.getElem?_cons_succ]; rfl))
  (case ct18 => kernel_rfl)
  have hSb := hS3
  obtain ⟨E, ce, rfl, hli⟩ := owns_form hw3.out
  go_simp
  refine (rkeyed_any 3 (by decide) ([] ++ nodeL key ++ nodeL (adB l t k a b c m)) 64 (by simp [nodeL_length]) _ _ _ hli (by decide)).mono ?_
  rintro e y4 ⟨rfl, hd⟩
  refine hK4 _ _ (hSb.keep hd) (fun hS4 => ?_)
  clear hd hK4 K4
  refine held_one (i := 5) (oi := ?ot19) (by kernel_rfl) ?at19 ?ct19 (fun K5 hK5 => ?_)
  (case at19 => (simp only [List.getElem?_toArray, List.getElem?_cons_zero, List.getElem?_cons_succ]; rfl))
  (case ct19 => kernel_rfl)
  obtain ⟨f0, hf0⟩ := hS4.res
  refine ow_store 27 _ _ rfl _ rfl _ rfl (run_store_arr hf0 (bys (prfF key l t k a b c m)) info26 (bys_one _ _)) ?_
  refine hK5 _ _ (hS4.put _) (fun hS5 => ?_)
  clear hK5 K5
  refine wpAnyH_done (by kernel_rfl) ?_ _
  go_wp2
  refine bodyPost_ret (results_cell1 rfl _ _ _ rfl (run_load_arr (hf0.row _) Tryd.underlying27 rfl info26)) rfl ⟨rfl, hS5.below HA.out.below (by omega)⟩

set_option maxHeartbeats 1000000 in
set_option maxRecDepth 100000 in
theorem rmsg_any (r root : Nat → UInt8) (idx : Nat) (hi : idx < 4294967296) (A : Option Addr) (c : Nat) (l : List UInt8) (w : World) (hli : Lies w w.heap.size 1 A l.length (u8s l)) (hl : l.length ≤ 100000000) :
    Calls Tryd.prog 17 #[.agg (vec 32 (bys r)), .agg (vec 32 (bys root)), .int .u32 (idx : Int), .slice A l.length c] w fun e w' => e = .returned (.agg (vec 32 (bys (msgF r root idx l)))) ∧ Below w.heap.size w w' := by
  obtain ⟨V, hV⟩ : ∃ V, V = ((w.alloc (.cells (vec 32 (bys r)) 27)).alloc (.cells (vec 32 (bys root)) 27)).alloc (.cells (vec 32 (bys zb)) 27) := ⟨_, rfl⟩
  have hA0 : Arr V w.heap.size 27 32 (bys r) := by rw [hV]; exact (((Arr.newAt _ _ _ _ (by simp)).alloc _).alloc _)
  have hA1 : Arr V (w.heap.size + 1) 27 32 (bys root) := by rw [hV]; exact ((Arr.newAt _ _ _ _ (by simp)).alloc _)
  have hA2 : Arr V (w.heap.size + 2) 27 32 (bys zb) := by rw [hV]; exact (Arr.newAt _ _ _ _ (by simp))
  have hB : Below w.heap.size w V := by rw [hV]; exact ((((Below.refl _ _).alloc (by simp <;> omega) _).alloc (by simp <;> omega) _).alloc (by simp <;> omega) _)
  have hsz : V.heap.size = w.heap.size + 3 := by rw [hV]; simp
  obtain ⟨i0, hin, hz0, hz1, hz2⟩ := info_parts u8_info
  have Hi := Lib.hid (And.intro hin (And.intro hz0 (And.intro hz1 hz2)))
  obtain ⟨f, hf⟩ : ∃ f, f = msgF r root idx l := ⟨_, rfl⟩
  have HF := Lib.hid hf
  rw [← hf]
  have HL := Lib.hid (And.intro (hli.below hB) hl)
  clear hin hz0 hz1 hz2 hf hli hl
  have HA := Lib.hid hB
  have HA0 := Lib.hid hA0
  have HA1 := Lib.hid hA1
  have HA2 := Lib.hid hA2
  have HW := Lib.hid hV
  clear hV hB hsz hA0 hA1 hA2
  go_enter Tryd.func17, Tryd.ntmps17
  go_upto_region 1 with fail
  rw [← HW.out]
  clear HW
  refine wp_region_held_drew (S := fun Y => SR V (w.heap.size + 2) Y) (by kernel_rfl) (SR.begin HA2.out) (fun hS => ?_)
  (refine held_take (i := 0) (oi := ?ot20) (v := ?vt20) ?at20 (by kernel_rfl) (by kernel_rfl) (by kernel_rfl) ?bt20 ?ct20 ?dt20 (by assumption) ?rt20; (case at20 => (simp only [List.getElem?_toArray, List.getElem?_cons_zero]; rfl)); (case bt20 => exact fun _ _ _ h => h); (case ct20 => kernel_rfl); (case dt20 => (intro W hW; (try dsimp only at hW); go_split_ands; go_simp; (try with_reducible rfl))); (case' rt20 => simp only [Act.put, List.setIfInBounds_toArray, List.set_cons_zero, List.set_cons_succ]))
  (refine held_take (i := 2) (oi := ?ot21) (v := ?vt21) ?at21 (by kernel_rfl) (by kernel_rfl) (by kernel_rfl) ?bt21 ?ct21 ?dt21 (by assumption) ?rt21; (case at21 => (simp only [List.getElem?_toArray, List.getElem?_cons_zero, List.getElem?_cons_succ]; rfl)); (case bt21 => exact fun _ _ _ h => h); (case ct21 => kernel_rfl); (case dt21 => (intro W hW; (try dsimp only at hW); go_split_ands; go_simp; (try with_reducible rfl))); (case' rt21 => simp only [Act.put, List.setIfInBounds_toArray, List.set_cons_zero, List.set_cons_succ]))
  refine held_one (i := 1) (oi := ?ot22) (by kernel_rfl) ?at22 ?ct22 (fun K1 hK1 => ?_)
  (case at22 => (simp only [List.getElem?_toArray, List.getElem?_cons_zero, List.getElem?_cons_succ]; rfl))
  (case ct22 => kernel_rfl)
  have hSb := hS
  obtain ⟨v1, y1, hr1, hown1, hd1⟩ := app_node (base := V.heap.size) (xs := []) (World.ownsRow_nil _ _ _ _) (hSb.arr HA0.out (by omega)) (by decide) hSb.size 25
  refine Lib.wp_append_run _ _ _ _ _ rfl _ _ rfl rfl _ _ hr1 ?_
  refine hK1 _ _ (hSb.keepB hd1) (fun hS1 => ?_)
  clear hK1 K1 hr1
  have hw1 := Lib.hid hown1
  clear hown1 hd1
  refine held_one (i := 3) (oi := ?ot23) (by kernel_rfl) ?at23 ?ct23 (fun K3 hK3 => ?_)
  (case at23 => (simp only [List.getElem?_toArray, List.getElem?_cons_zero, List.getElem?_cons_succ]; rfl))
  (case ct23 => kernel_rfl)
  have hSb := hS1
  obtain ⟨v3, y3, hr3, hown3, hd3⟩ := app_node (base := V.heap.size) (xs := [] ++ nodeL r) (hw1.out) (hSb.arr HA1.out (by omega)) (by decide) hSb.size 25
  refine Lib.wp_append_run _ _ _ _ _ rfl _ _ rfl rfl _ _ hr3 ?_
  refine hK3 _ _ (hSb.keepB hd3) (fun hS3 => ?_)
  clear hK3 K3 hr3
  have hw3 := Lib.hid hown3
  clear hown3 hd3
  (refine held_take (i := 4) (oi := ?ot24) (v := ?vt24) ?at24 (by kernel_rfl) (by kernel_rfl) (by kernel_rfl) ?bt24 ?ct24 ?dt24 (by assumption) ?rt24; (case at24 => (simp only [List.getElem?_toArray, List.getElem?_cons_zero, List.getElem?_cons_succ]; rfl)); (case bt24 => exact fun _ _ _ h => h); (case ct24 => kernel_rfl); (case dt24 => (intro W hW; (try dsimp only at hW); go_split_ands; go_simp; (try with_reducible rfl))); (case' rt24 => simp only [Act.put, List.setIfInBounds_toArray, List.set_cons_zero, List.set_cons_succ]))
  refine wpAnyH_done (by kernel_rfl) ?_ _
  have hSc := hS3
  obtain ⟨v4, y4, hrz, hown4, hg4⟩ := run_app_zeros (P := Tryd.prog) V.heap.size 25 3 25 5 i0 (.int .u8 0) .i64 1 Tryd.underlying25 Tryd.underlying3 Hi.out.1 Hi.out.2.1 Hi.out.2.2.1 Hi.out.2.2.2 rfl rfl v3 _ _ hw3.out 28 (by decide) (by decide) (by decide) hSc.size
  have hS4 : SR V (w.heap.size + 2) y4 := hSc.keepB ((Below.refl _ _).grown hg4 hSc.size (fun k hk => (hw3.out.lt k hk).1))
  rw [show List.replicate 28 (Value.int .u8 0) = u8s (zerosL 28) by rfl, u8s_append] at hown4
  obtain ⟨E4, c4, rfl, hli4⟩ := owns_form hown4
  obtain ⟨L4, hL4⟩ : ∃ L4, L4 = [] ++ nodeL r ++ nodeL root ++ zerosL 28 := ⟨_, rfl⟩
  have hlen4 : L4.length = 92 := by rw [hL4]; simp [nodeL_length, zerosL]
  rw [← hL4] at hown4 hli4
  obtain ⟨L5, hL5⟩ : ∃ L5, L5 = L4 ++ numBytes 0 4 idx := ⟨_, rfl⟩
  have hlen5 : L5.length = 96 := by rw [hL5, List.length_append, numBytes_length, hlen4]
  have hput := rp4 L4 L5 idx (Lib.hid hL5) E4 c4 y4 (by rw [hlen4]; exact hli4) (by omega)
  rw [hlen4] at hput
  have HPut := Lib.hid hput
  have HR := Lib.hid hrz
  have hLL : shaL (wideL 2 ++ (L5 ++ l)) = f := by rw [HF.out, hL5, hL4]; simp [msgF, wideL]
  have HLL := Lib.hid (And.intro hLL hlen5)
  have H4 := Lib.hid hS4
  clear hrz hg4 hown4 hli4 hL4 hlen4 hL5 hlen5 hput hLL hS4
  go_upto_region 3 with (first
    | (at_builtin; refine Lib.wpList_append_run _ rfl _ _ _ _ rfl _ _ rfl rfl _ _ HR.out ?_)
    | (go_at_call 27
       refine HPut.out.mono ?_
       rintro e y5 ⟨v5, rfl, hv5, hd5⟩
       rw [HLL.out.2] at hv5
       have H5 := Lib.hid (And.intro (owns_mono hv5 H4.out.size) (H4.out.keep hd5))
       clear hv5 hd5))
  obtain ⟨hi0, hz0, hz1, hz2⟩ := Hi.out
  go_wp2_with (first
    | (at_builtin
       refine wpList_app rfl (.tmp 19) (.tmp 20) 25 rfl V.heap.size 5 i0 (.int .u8 0) 1 Tryd.underlying25 hi0 hz0 hz1 hz2 rfl _ _ _ rfl H5.out.1 y5.heap.size _ _ _ (u8s l) rfl
         (H5.out.2.lies HL.out.1 (by omega)) (u8s_one _) (by have := HL.out.2; unfold maxLen; omega) (by have := HL.out.2; omega) H5.out.2.size ?_
       intro v' y6 h1 h2 h3
       rw [u8s_append] at h1
       have hS6 : SR V (w.heap.size + 2) y6 := H5.out.2.keepB ((Below.refl _ _).grown h2 H5.out.2.size (fun k hk => (H5.out.1.lt k hk).1))
       obtain ⟨E6, c6, rfl, hl6⟩ := owns_form h1
       have hk := rkeyed_any 2 (by decide) (L5 ++ l) (96 + l.length) (by rw [List.length_append, HLL.out.2]) E6 c6 y6 hl6 (by have := HL.out.2; omega)
       rw [HLL.out.1] at hk
       have H6 := Lib.hid (And.intro hk hS6)
       clear h1 h2 h3 hS6 hl6 hk)
    | (go_at_call 10
       refine H6.out.1.mono ?_
       rintro e y7 ⟨rfl, hd⟩
       obtain ⟨f7, hf7⟩ := (H6.out.2.keep hd).res
       have H7 := Lib.hid (And.intro hf7 ((H6.out.2.keep hd).below HA.out (by omega)))
       clear hd hf7)
    | ((with_reducible show wpList _ _ _ (Oper.mk _ (.store _ _ _) _ _ _ _ :: _) _ _); refine wl_store rfl 27 _ _ rfl _ rfl _ rfl (run_store_arr H7.out.1 (bys f) info26 (bys_one _ _)) ?_))
  refine bodyPost_ret (results_cell1 rfl _ _ _ rfl (run_load_arr (H7.out.1.row _) Tryd.underlying27 rfl info26)) rfl ⟨rfl, ?_⟩
  exact below_row H7.out.2 (by omega) _
end Go.Proofs.YtjmlelojilpcaaaDoor
