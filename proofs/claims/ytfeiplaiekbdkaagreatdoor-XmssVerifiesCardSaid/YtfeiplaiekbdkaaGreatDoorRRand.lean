/- The reference's Rand. -/
import Derived.Test.YtfeiplaiekbdkaaGreatDoorRand
import Derived.Test.YtfeiplaiekbdkaaGreatDoorRPrfH
import Derived.Test.YtfeiplaiekbdkaaGreatDoorBlk
namespace Go.Proofs.YtfeiplaiekbdkaaGreatDoor
open Go.RowKit
attribute [local go_sem ↓ high] zeroV26

/-- The boxes of the reference's Rand, its mask q. -/
structure RSt (w : World) (x y seed : Nat → UInt8) (l t k a b c q : Nat) (W : World) : Prop where
  x : Arr W w.heap.size 30 32 (bys x)
  y : Arr W (w.heap.size + 1) 30 32 (bys y)
  seed : Arr W (w.heap.size + 2) 30 32 (bys seed)
  ad : Blk W (w.heap.size + 3) 86 (adA l t k a b c q)
  res : Arr W (w.heap.size + 4) 30 32 (bys zb)
  below : Below w.heap.size w W
section
variable {w W Z : World} {x y seed : Nat → UInt8} {l t k a b c q : Nat}
theorem RSt.keep (h : RSt w x y seed l t k a b c q W) (hd : Below W.heap.size W Z) : RSt w x y seed l t k a b c q Z :=
  ⟨h.x.under hd, h.y.under hd, h.seed.under hd, h.ad.under hd, h.res.under hd, h.below.trans (hd.mono h.below.size)⟩
theorem RSt.mask (h : RSt w x y seed l t k a b c q W) (n : Nat) : RSt w x y seed l t k a b c n (W.setCell ⟨w.heap.size + 3, 6, none⟩ (.int .u32 (n : Int))) :=
  ⟨h.x.far (p := ⟨w.heap.size + 3, 6, none⟩) (show w.heap.size ≠ w.heap.size + 3 by omega) _, h.y.far (p := ⟨w.heap.size + 3, 6, none⟩) (show w.heap.size + 1 ≠ w.heap.size + 3 by omega) _,
   h.seed.far (p := ⟨w.heap.size + 3, 6, none⟩) (show w.heap.size + 2 ≠ w.heap.size + 3 by omega) _, h.ad.set 6 _, h.res.far (p := ⟨w.heap.size + 3, 6, none⟩) (show w.heap.size + 4 ≠ w.heap.size + 3 by omega) _,
   h.below.setCell (p := ⟨w.heap.size + 3, 6, none⟩) (show w.heap.size ≤ w.heap.size + 3 by omega) _⟩
theorem RSt.lt (h : RSt w x y seed l t k a b c q W) : w.heap.size + 4 < W.heap.size := h.res.lt
end

set_option maxHeartbeats 1000000 in
set_option maxRecDepth 100000 in
theorem rrand_any (x y seed : Nat → UInt8) (l t k a b c m : Nat) (hok : AdOk l t k a b c m) (w : World) (hT : Tabs w) :
    Calls Tryz.prog 50 #[.agg (vec 32 (bys x)), .agg (vec 32 (bys y)), .agg (vec 32 (bys seed)), adV l t k a b c m] w fun e w' => e = .returned (.agg (vec 32 (bys (randF x y seed l t k a b c)))) ∧ Below w.heap.size w w' := by
  obtain ⟨V, hV⟩ : ∃ V, V = ((((w.alloc (.cells (vec 32 (bys x)) 30)).alloc (.cells (vec 32 (bys y)) 30)).alloc (.cells (vec 32 (bys seed)) 30)).alloc (.cells (adA l t k a b c m) 86)).alloc (.cells (vec 32 (bys zb)) 30) := ⟨_, rfl⟩
  have hA0 : Arr V w.heap.size 30 32 (bys x) := by rw [hV]; exact (((((Arr.newAt _ _ _ _ (by simp)).alloc _).alloc _).alloc _).alloc _)
  have hA1 : Arr V (w.heap.size + 1) 30 32 (bys y) := by rw [hV]; exact ((((Arr.newAt _ _ _ _ (by simp)).alloc _).alloc _).alloc _)
  have hA2 : Arr V (w.heap.size + 2) 30 32 (bys seed) := by rw [hV]; exact (((Arr.newAt _ _ _ _ (by simp)).alloc _).alloc _)
  have hA3 : Blk V (w.heap.size + 3) 86 (adA l t k a b c m) := by rw [hV]; exact ((Blk.new _ _ _ (by simp)).alloc _)
  have hA4 : Arr V (w.heap.size + 4) 30 32 (bys zb) := by rw [hV]; exact (Arr.newAt _ _ _ _ (by simp))
  have hB : Below w.heap.size w V := by rw [hV]; exact ((((((Below.refl _ _).alloc (by simp <;> omega) _).alloc (by simp <;> omega) _).alloc (by simp <;> omega) _).alloc (by simp <;> omega) _).alloc (by simp <;> omega) _)
  have hsz : V.heap.size = w.heap.size + 5 := by rw [hV]; simp
  have hI : RSt w x y seed l t k a b c m V := ⟨hA0, hA1, hA2, hA3, hA4, hB⟩
  have HI := Lib.hid hI
  have HT := Lib.hid hT
  have HO := Lib.hid hok
  have HW := Lib.hid hV
  have hc0 : V.cell? ⟨w.heap.size + 3, 6, none⟩ = some (.int .u32 (m : Int)) := hA3.cellAt 6 rfl
  have hf0 := hA3.frozen 6
  clear hA0 hA1 hA2 hA3 hA4 hB hsz hI hT hok hV
  go_enter Tryz.func50, Tryz.ntmps50
  go_upto_region 1 with fail
  rw [← HW.out]
  clear HW
  go_upto_region 2 with fail
  obtain ⟨U0, hU0⟩ : ∃ U, U = V.setCell ⟨w.heap.size + 3, 6, none⟩ (.int .u32 0) := ⟨_, rfl⟩
  have hI0 : RSt w x y seed l t k a b c 0 U0 := by rw [hU0]; exact HI.out.mask 0
  rw [← hU0]
  have HU0 := Lib.hid hI0
  clear hU0 hI0 hc0 hf0
  go_upto_region 3 with (first
    | ((with_reducible show wpList _ _ _ (Oper.mk _ (.load 30 _) _ _ _ _ :: _) _ _); refine wl_load rfl 30 _ rfl _ rfl _ (run_load_arr HU0.out.seed Tryz.underlying30 rfl info26) ?_)
    | ((with_reducible show wpList _ _ _ (Oper.mk _ (.load 86 _) _ _ _ _ :: _) _ _); refine wl_load rfl 86 _ rfl _ rfl _ (HU0.out.ad.load Tryz.underlying86 rfl infoAd) ?_)
    | (go_at_call 73; refine (rprf_any seed l t k a b c 0 (HO.out.mask (by decide)) _ (tabs_below HT.out HU0.out.below)).mono ?_; rintro e z0 ⟨rfl, hd⟩; have HD0 := Lib.hid hd; clear hd)
    | ((with_reducible show wpList _ _ _ (Oper.mk _ (.store _ _ _) _ _ _ _ :: _) _ _); refine wl_store rfl 30 _ _ rfl _ rfl _ rfl (run_store_arr (Arr.new z0 _ _ _) (bys (prfF seed l t k a b c 0)) info26 (bys_one _ _)) ?_))
  obtain ⟨g0, hg0⟩ : ∃ g, g = z0.heap.size := ⟨_, rfl⟩
  obtain ⟨V0, hV0⟩ : ∃ V2, V2 = (z0.alloc (.cells (vec 32 (bys zb)) 30)).setRow z0.heap.size (vec 32 (bys (prfF seed l t k a b c 0))) := ⟨_, rfl⟩
  have hb0 : Below U0.heap.size U0 V0 := by rw [hV0]; exact below_row (HD0.out.alloc HD0.out.size _) HD0.out.size _
  have hN0 : Arr V0 g0 30 32 (bys (prfF seed l t k a b c 0)) := by rw [hV0, hg0]; exact (Arr.new z0 _ _ _).row _
  have hlt0 : w.heap.size + 4 < g0 := by have := HU0.out.lt; have := HD0.out.size; omega
  rw [← hV0, ← hg0]
  have HI0 := Lib.hid (HU0.out.keep hb0)
  have HN0 := Lib.hid (And.intro hN0 hlt0)
  have hc0 : V0.cell? ⟨w.heap.size + 3, 6, none⟩ = some (.int .u32 0) := HI0.out.ad.cellAt 6 rfl
  have hf0 := HI0.out.ad.frozen 6
  have HB0 := Lib.hid hb0
  clear hV0 hb0 hN0 hlt0 hg0 HD0 HI
  go_upto_region 4 with fail
  obtain ⟨U1, hU1⟩ : ∃ U, U = V0.setCell ⟨w.heap.size + 3, 6, none⟩ (.int .u32 1) := ⟨_, rfl⟩
  have hI1 : RSt w x y seed l t k a b c 1 U1 := by rw [hU1]; exact HI0.out.mask 1
  have hm0 : Arr U1 g0 30 32 (bys (prfF seed l t k a b c 0)) := by rw [hU1]; exact HN0.out.1.far (p := ⟨w.heap.size + 3, 6, none⟩) (show g0 ≠ w.heap.size + 3 by have := HN0.out.2; omega) _
  have HP0_1 := Lib.hid hm0
  clear hm0
  rw [← hU1]
  have HU1 := Lib.hid hI1
  clear hU1 hI1 hc0 hf0
  go_upto_region 5 with (first
    | ((with_reducible show wpList _ _ _ (Oper.mk _ (.load 30 _) _ _ _ _ :: _) _ _); refine wl_load rfl 30 _ rfl _ rfl _ (run_load_arr HU1.out.seed Tryz.underlying30 rfl info26) ?_)
    | ((with_reducible show wpList _ _ _ (Oper.mk _ (.load 86 _) _ _ _ _ :: _) _ _); refine wl_load rfl 86 _ rfl _ rfl _ (HU1.out.ad.load Tryz.underlying86 rfl infoAd) ?_)
    | (go_at_call 73; refine (rprf_any seed l t k a b c 1 (HO.out.mask (by decide)) _ (tabs_below HT.out HU1.out.below)).mono ?_; rintro e z1 ⟨rfl, hd⟩; have HD1 := Lib.hid hd; clear hd)
    | ((with_reducible show wpList _ _ _ (Oper.mk _ (.store _ _ _) _ _ _ _ :: _) _ _); refine wl_store rfl 30 _ _ rfl _ rfl _ rfl (run_store_arr (Arr.new z1 _ _ _) (bys (prfF seed l t k a b c 1)) info26 (bys_one _ _)) ?_))
  obtain ⟨g1, hg1⟩ : ∃ g, g = z1.heap.size := ⟨_, rfl⟩
  obtain ⟨V1, hV1⟩ : ∃ V2, V2 = (z1.alloc (.cells (vec 32 (bys zb)) 30)).setRow z1.heap.size (vec 32 (bys (prfF seed l t k a b c 1))) := ⟨_, rfl⟩
  have hb1 : Below U1.heap.size U1 V1 := by rw [hV1]; exact below_row (HD1.out.alloc HD1.out.size _) HD1.out.size _
  have hN1 : Arr V1 g1 30 32 (bys (prfF seed l t k a b c 1)) := by rw [hV1, hg1]; exact (Arr.new z1 _ _ _).row _
  have hlt1 : w.heap.size + 4 < g1 := by have := HU1.out.lt; have := HD1.out.size; omega
  rw [← hV1, ← hg1]
  have HI1 := Lib.hid (HU1.out.keep hb1)
  have HN1 := Lib.hid (And.intro hN1 hlt1)
  have hc0 : V1.cell? ⟨w.heap.size + 3, 6, none⟩ = some (.int .u32 1) := HI1.out.ad.cellAt 6 rfl
  have hf0 := HI1.out.ad.frozen 6
  have HB1 := Lib.hid hb1
  have HM0_1 := Lib.hid (HP0_1.out.under hb1)
  clear hV1 hb1 hN1 hlt1 hg1 HD1
  go_upto_region 6 with fail
  obtain ⟨U2, hU2⟩ : ∃ U, U = V1.setCell ⟨w.heap.size + 3, 6, none⟩ (.int .u32 2) := ⟨_, rfl⟩
  have hI2 : RSt w x y seed l t k a b c 2 U2 := by rw [hU2]; exact HI1.out.mask 2
  have hm0 : Arr U2 g0 30 32 (bys (prfF seed l t k a b c 0)) := by rw [hU2]; exact HM0_1.out.far (p := ⟨w.heap.size + 3, 6, none⟩) (show g0 ≠ w.heap.size + 3 by have := HN0.out.2; omega) _
  have HP0_2 := Lib.hid hm0
  clear hm0
  have hm1 : Arr U2 g1 30 32 (bys (prfF seed l t k a b c 1)) := by rw [hU2]; exact HN1.out.1.far (p := ⟨w.heap.size + 3, 6, none⟩) (show g1 ≠ w.heap.size + 3 by have := HN1.out.2; omega) _
  have HP1_2 := Lib.hid hm1
  clear hm1
  rw [← hU2]
  have HU2 := Lib.hid hI2
  clear hU2 hI2 hc0 hf0
  go_upto_region 7 with (first
    | ((with_reducible show wpList _ _ _ (Oper.mk _ (.load 30 _) _ _ _ _ :: _) _ _); refine wl_load rfl 30 _ rfl _ rfl _ (run_load_arr HU2.out.seed Tryz.underlying30 rfl info26) ?_)
    | ((with_reducible show wpList _ _ _ (Oper.mk _ (.load 86 _) _ _ _ _ :: _) _ _); refine wl_load rfl 86 _ rfl _ rfl _ (HU2.out.ad.load Tryz.underlying86 rfl infoAd) ?_)
    | (go_at_call 73; refine (rprf_any seed l t k a b c 2 (HO.out.mask (by decide)) _ (tabs_below HT.out HU2.out.below)).mono ?_; rintro e z2 ⟨rfl, hd⟩; have HD2 := Lib.hid hd; clear hd)
    | ((with_reducible show wpList _ _ _ (Oper.mk _ (.store _ _ _) _ _ _ _ :: _) _ _); refine wl_store rfl 30 _ _ rfl _ rfl _ rfl (run_store_arr (Arr.new z2 _ _ _) (bys (prfF seed l t k a b c 2)) info26 (bys_one _ _)) ?_))
  obtain ⟨g2, hg2⟩ : ∃ g, g = z2.heap.size := ⟨_, rfl⟩
  obtain ⟨V2, hV2⟩ : ∃ V2, V2 = (z2.alloc (.cells (vec 32 (bys zb)) 30)).setRow z2.heap.size (vec 32 (bys (prfF seed l t k a b c 2))) := ⟨_, rfl⟩
  have hb2 : Below U2.heap.size U2 V2 := by rw [hV2]; exact below_row (HD2.out.alloc HD2.out.size _) HD2.out.size _
  have hN2 : Arr V2 g2 30 32 (bys (prfF seed l t k a b c 2)) := by rw [hV2, hg2]; exact (Arr.new z2 _ _ _).row _
  have hlt2 : w.heap.size + 4 < g2 := by have := HU2.out.lt; have := HD2.out.size; omega
  rw [← hV2, ← hg2]
  have HI2 := Lib.hid (HU2.out.keep hb2)
  have HN2 := Lib.hid (And.intro hN2 hlt2)
  have HB2 := Lib.hid hb2
  have HM0_2 := Lib.hid (HP0_2.out.under hb2)
  have HM1_2 := Lib.hid (HP1_2.out.under hb2)
  clear hV2 hb2 hN2 hlt2 hg2 HD2
  have HN0v := Lib.hid (HM0_2.out)
  have HN1v := Lib.hid (HM1_2.out)
  refine wp_region_held_drew (S := fun Y => SR V2 (w.heap.size + 4) Y) (by kernel_rfl) (SR.begin HI2.out.res) (fun hS => ?_)
  (refine held_take (i := 0) (oi := ?ot1) (v := .agg (vec 32 (bys (prfF seed l t k a b c 0)))) ?at1 (by kernel_rfl) (by kernel_rfl) (by kernel_rfl) ?bt1 ?ct1 ?dt1 (by assumption) ?rt1; (case at1 => (simp only [List.getElem?_toArray, List.getElem?_cons_zero]; rfl)); (case bt1 => exact fun _ _ _ h => h); (case ct1 => kernel_rfl); (case dt1 => (intro W hW; exact exec_load 30 _ rfl _ rfl _ (run_load_arr (hW.arr HN0v.out (by have := HN0.out.2; omega)) Tryz.underlying30 rfl info26))); (case' rt1 => simp only [Act.put, List.setIfInBounds_toArray, List.set_cons_zero, List.set_cons_succ]))
  (refine held_take (i := 1) (oi := ?ot2) (v := .agg (vec 32 (bys x))) ?at2 (by kernel_rfl) (by kernel_rfl) (by kernel_rfl) ?bt2 ?ct2 ?dt2 (by assumption) ?rt2; (case at2 => (simp only [List.getElem?_toArray, List.getElem?_cons_zero, List.getElem?_cons_succ]; rfl)); (case bt2 => exact fun _ _ _ h => h); (case ct2 => kernel_rfl); (case dt2 => (intro W hW; exact exec_load 30 _ rfl _ rfl _ (run_load_arr (hW.arr HI2.out.x (by omega)) Tryz.underlying30 rfl info26))); (case' rt2 => simp only [Act.put, List.setIfInBounds_toArray, List.set_cons_zero, List.set_cons_succ]))
  (refine held_take (i := 2) (oi := ?ot3) (v := .agg (vec 32 (bys (prfF seed l t k a b c 1)))) ?at3 (by kernel_rfl) (by kernel_rfl) (by kernel_rfl) ?bt3 ?ct3 ?dt3 (by assumption) ?rt3; (case at3 => (simp only [List.getElem?_toArray, List.getElem?_cons_zero, List.getElem?_cons_succ]; rfl)); (case bt3 => exact fun _ _ _ h => h); (case ct3 => kernel_rfl); (case dt3 => (intro W hW; exact exec_load 30 _ rfl _ rfl _ (run_load_arr (hW.arr HN1v.out (by have := HN1.out.2; omega)) Tryz.underlying30 rfl info26))); (case' rt3 => simp only [Act.put, List.setIfInBounds_toArray, List.set_cons_zero, List.set_cons_succ]))
  (refine held_take (i := 4) (oi := ?ot4) (v := .agg (vec 32 (bys y))) ?at4 (by kernel_rfl) (by kernel_rfl) (by kernel_rfl) ?bt4 ?ct4 ?dt4 (by assumption) ?rt4; (case at4 => (simp only [List.getElem?_toArray, List.getElem?_cons_zero, List.getElem?_cons_succ]; rfl)); (case bt4 => exact fun _ _ _ h => h); (case ct4 => kernel_rfl); (case dt4 => (intro W hW; exact exec_load 30 _ rfl _ rfl _ (run_load_arr (hW.arr HI2.out.y (by omega)) Tryz.underlying30 rfl info26))); (case' rt4 => simp only [Act.put, List.setIfInBounds_toArray, List.set_cons_zero, List.set_cons_succ]))
  (refine held_take (i := 5) (oi := ?ot5) (v := .agg (vec 32 (bys (prfF seed l t k a b c 2)))) ?at5 (by kernel_rfl) (by kernel_rfl) (by kernel_rfl) ?bt5 ?ct5 ?dt5 (by assumption) ?rt5; (case at5 => (simp only [List.getElem?_toArray, List.getElem?_cons_zero, List.getElem?_cons_succ]; rfl)); (case bt5 => exact fun _ _ _ h => h); (case ct5 => kernel_rfl); (case dt5 => (intro W hW; exact exec_load 30 _ rfl _ rfl _ (run_load_arr (hW.arr HN2.out.1 (by have := HN2.out.2; omega)) Tryz.underlying30 rfl info26))); (case' rt5 => simp only [Act.put, List.setIfInBounds_toArray, List.set_cons_zero, List.set_cons_succ]))
  refine held_one (i := 3) (oi := ?ot6) (by kernel_rfl) ?at6 ?ct6 (fun K3 hK3 => ?_)
  (case at6 => (simp only [List.getElem?_toArray, List.getElem?_cons_zero, List.getElem?_cons_succ]; rfl))
  (case ct6 => kernel_rfl)
  go_simp
  refine (rxor_any x (prfF seed l t k a b c 1) _).mono ?_
  rintro e y3 ⟨rfl, hd⟩
  refine hK3 _ _ (hS.keep hd) (fun hS3 => ?_)
  clear hS hd hK3 K3
  refine held_one (i := 6) (oi := ?ot7) (by kernel_rfl) ?at7 ?ct7 (fun K6 hK6 => ?_)
  (case at7 => (simp only [List.getElem?_toArray, List.getElem?_cons_zero, List.getElem?_cons_succ]; rfl))
  (case ct7 => kernel_rfl)
  go_simp
  refine (rxor_any y (prfF seed l t k a b c 2) _).mono ?_
  rintro e y6 ⟨rfl, hd⟩
  refine hK6 _ _ (hS3.keep hd) (fun hS6 => ?_)
  clear hS3 hd hK6 K6
  refine held_one (i := 7) (oi := ?ot8) (by kernel_rfl) ?at8 ?ct8 (fun K7 hK7 => ?_)
  (case at8 => (simp only [List.getElem?_toArray, List.getElem?_cons_zero, List.getElem?_cons_succ]; rfl))
  (case ct8 => kernel_rfl)
  go_simp
  refine (rh_any (prfF seed l t k a b c 0) (xorF x (prfF seed l t k a b c 1)) (xorF y (prfF seed l t k a b c 2)) _).mono ?_
  rintro e y7 ⟨rfl, hd⟩
  refine hK7 _ _ (hS6.keep hd) (fun hS7 => ?_)
  clear hS6 hd hK7 K7
  refine held_one (i := 8) (oi := ?ot9) (by kernel_rfl) ?at9 ?ct9 (fun K8 hK8 => ?_)
  (case at9 => (simp only [List.getElem?_toArray, List.getElem?_cons_zero, List.getElem?_cons_succ]; rfl))
  (case ct9 => kernel_rfl)
  obtain ⟨f0, hf0⟩ := hS7.res
  refine ow_store 30 _ _ rfl _ rfl _ rfl (run_store_arr hf0 (bys (randF x y seed l t k a b c)) info26 (bys_one _ _)) ?_
  refine hK8 _ _ (hS7.put _) (fun hS8 => ?_)
  clear hK8 K8
  refine wpAnyH_done (by kernel_rfl) ?_ _
  go_wp2
  refine bodyPost_ret (results_cell1 rfl _ _ _ rfl (run_load_arr (hf0.row _) Tryz.underlying30 rfl info26)) rfl ⟨rfl, hS8.below HI2.out.below (by omega)⟩
end Go.Proofs.YtfeiplaiekbdkaaGreatDoor
