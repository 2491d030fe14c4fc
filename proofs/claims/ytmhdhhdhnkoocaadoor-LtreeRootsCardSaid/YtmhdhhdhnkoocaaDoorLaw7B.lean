/- The walk of LtreeRoots. -/
import Derived.Test.YtmhdhhdhnkoocaaDoorWk
namespace Go.Proofs.YtmhdhhdhnkoocaaDoor
open Go.RowKit
attribute [local go_sem ↓ high] zeroV26

set_option maxHeartbeats 1000000 in
set_option maxRecDepth 100000 in
theorem ltreeRoots_walk (leaf : Nat → UInt8) (idx : Nat) (Aauth : Option Addr) (cauth : Nat) (auth : List Nd) (seed : Nat → UInt8) (w : World) (hidx : idx < 4294967296) (_hlauth : auth.length ≤ maxLen) (hrauth : NRow w w.heap.size Aauth auth) (hT : Tabs w) :
    Calls Tryd.prog 4 #[.agg (vec 32 (bys leaf)), .int .u32 (idx : Int), .slice Aauth auth.length cauth, .agg (vec 32 (bys seed))] w fun e w' => e = .returned (.bool true) ∧ Below w.heap.size w w' := by
  obtain ⟨V, hV⟩ : ∃ V, V = (w.alloc (.cells (vec 32 (bys leaf)) 24)).alloc (.cells (vec 32 (bys seed)) 24) := ⟨_, rfl⟩
  have hA0 : Arr V w.heap.size 24 32 (bys leaf) := by rw [hV]; exact ((Arr.newAt _ _ _ _ (by simp)).alloc _)
  have hA1 : Arr V (w.heap.size + 1) 24 32 (bys seed) := by rw [hV]; exact (Arr.newAt _ _ _ _ (by simp))
  have hB : Below w.heap.size w V := by rw [hV]; exact (((Below.refl _ _).alloc (by simp <;> omega) _).alloc (by simp <;> omega) _)
  have HB0 := Lib.hid hB
  have HT := Lib.hid hT
  have HP0 := Lib.hid hA0
  have HP1 := Lib.hid hA1
  have HRauth := Lib.hid hrauth
  have HW := Lib.hid hV
  clear hV hB hT hA0 hA1 hrauth
  by_cases hlen : 40 < auth.length
  · have t1 : (40 : Int) < (auth.length : Int) := by omega
    go_enter Tryd.func4, Tryd.ntmps4
    go_upto_region 1 with fail
    rw [← HW.out]
    clear HW
    go_upto_region 3 with (go_at_call 8; refine (awake7_any _ (tabs_below HT.out HB0.out)).mono ?_; rintro e V1 ⟨rfl, hd⟩; have HD := Lib.hid hd; clear hd)
    have HB := Lib.hid (HB0.out.trans (HD.out.mono HB0.out.size))
    have HQ0 := Lib.hid (HP0.out.under HD.out)
    have HQ1 := Lib.hid (HP1.out.under HD.out)
    have HSauth : Hid (NRow V1 V1.heap.size Aauth auth) := Lib.hid ((HRauth.out.below HB.out).wide HB.out.size)
    have HT1 := Lib.hid (tabs_below HT.out HB.out)
    clear HD HP0 HP1
    refine wp_region_held_drew (S := fun Y => VS V1 Y) (by kernel_rfl) (VS.begin V1) (fun hS => ?_)
    (refine held_take (i := 0) (oi := ?ot45) (v := ?vt45) ?at45 (by kernel_rfl) (by kernel_rfl) (by kernel_rfl) ?bt45 ?ct45 ?dt45 (by assumption) ?rt45; (case at45 => (simp only [List.getElem?_toArray, List.getElem?_cons_zero]; rfl)); (case bt45 => exact fun _ _ _ h => h); (case ct45 => kernel_rfl); (case dt45 => (intro W hW; (try dsimp only at hW); go_split_ands; go_simp; (try with_reducible rfl))); (case' rt45 => simp only [Act.put, List.setIfInBounds_toArray, List.set_cons_zero, List.set_cons_succ]))
    (refine held_take (i := 1) (oi := ?ot46) (v := ?vt46) ?at46 (by kernel_rfl) (by kernel_rfl) (by kernel_rfl) ?bt46 ?ct46 ?dt46 (by assumption) ?rt46; (case at46 => (simp only [List.getElem?_toArray, List.getElem?_cons_zero, List.getElem?_cons_succ]; rfl)); (case bt46 => exact fun _ _ _ h => h); (case ct46 => kernel_rfl); (case dt46 => (intro W hW; (try dsimp only at hW); go_split_ands; go_simp; (try with_reducible rfl))); (case' rt46 => simp only [Act.put, List.setIfInBounds_toArray, List.set_cons_zero, List.set_cons_succ]))
    (refine held_take (i := 2) (oi := ?ot47) (v := .bool true) ?at47 (by kernel_rfl) (by kernel_rfl) (by kernel_rfl) ?bt47 ?ct47 ?dt47 (by assumption) ?rt47; (case at47 => (simp only [List.getElem?_toArray, List.getElem?_cons_zero, List.getElem?_cons_succ]; rfl)); (case bt47 => exact fun _ _ _ h => h); (case ct47 => kernel_rfl); (case dt47 => (intro W hW; (try dsimp only at hW); go_simp; (try with_reducible rfl))); (case' rt47 => simp only [Act.put, List.setIfInBounds_toArray, List.set_cons_zero, List.set_cons_succ]))
    (refine held_take (i := 3) (oi := ?ot48) (v := ?vt48) ?at48 (by kernel_rfl) (by kernel_rfl) (by kernel_rfl) ?bt48 ?ct48 ?dt48 (by assumption) ?rt48; (case at48 => (simp only [List.getElem?_toArray, List.getElem?_cons_zero, List.getElem?_cons_succ]; rfl)); (case bt48 => exact fun _ _ _ h => h); (case ct48 => kernel_rfl); (case dt48 => (intro W hW; (try dsimp only at hW); go_split_ands; go_simp; (try with_reducible rfl))); (case' rt48 => simp only [Act.put, List.setIfInBounds_toArray, List.set_cons_zero, List.set_cons_succ]))
    (refine held_skip (i := 4) (oi := ?ot49) ?at49 (by kernel_rfl) (by kernel_rfl) (by kernel_rfl) ?bt49 ?ct49 (by assumption) ?rt49; (case at49 => (simp only [List.getElem?_toArray, List.getElem?_cons_zero, List.getElem?_cons_succ]; rfl)); (case bt49 => exact fun _ _ _ h => h); (case ct49 => kernel_rfl); (case' rt49 => simp only [Act.put, List.setIfInBounds_toArray, List.set_cons_zero, List.set_cons_succ]))
    (refine held_skip (i := 5) (oi := ?ot50) ?at50 (by kernel_rfl) (by kernel_rfl) (by kernel_rfl) ?bt50 ?ct50 (by assumption) ?rt50; (case at50 => (simp only [List.getElem?_toArray, List.getElem?_cons_zero, List.getElem?_cons_succ]; rfl)); (case bt50 => exact fun _ _ _ h => h); (case ct50 => kernel_rfl); (case' rt50 => simp only [Act.put, List.setIfInBounds_toArray, List.set_cons_zero, List.set_cons_succ]))
    (refine held_skip (i := 6) (oi := ?ot51) ?at51 (by kernel_rfl) (by kernel_rfl) (by kernel_rfl) ?bt51 ?ct51 (by assumption) ?rt51; (case at51 => (simp only [List.getElem?_toArray, List.getElem?_cons_zero, List.getElem?_cons_succ]; rfl)); (case bt51 => exact fun _ _ _ h => h); (case ct51 => kernel_rfl); (case' rt51 => simp only [Act.put, List.setIfInBounds_toArray, List.set_cons_zero, List.set_cons_succ]))
    (refine held_skip (i := 7) (oi := ?ot52) ?at52 (by kernel_rfl) (by kernel_rfl) (by kernel_rfl) ?bt52 ?ct52 (by assumption) ?rt52; (case at52 => (simp only [List.getElem?_toArray, List.getElem?_cons_zero, List.getElem?_cons_succ]; rfl)); (case bt52 => exact fun _ _ _ h => h); (case ct52 => kernel_rfl); (case' rt52 => simp only [Act.put, List.setIfInBounds_toArray, List.set_cons_zero, List.set_cons_succ]))
    (refine held_skip (i := 8) (oi := ?ot53) ?at53 (by kernel_rfl) (by kernel_rfl) (by kernel_rfl) ?bt53 ?ct53 (by assumption) ?rt53; (case at53 => (simp only [List.getElem?_toArray, List.getElem?_cons_zero, List.getElem?_cons_succ]; rfl)); (case bt53 => exact fun _ _ _ h => h); (case ct53 => kernel_rfl); (case' rt53 => simp only [Act.put, List.setIfInBounds_toArray, List.set_cons_zero, List.set_cons_succ]))
    (refine held_skip (i := 9) (oi := ?ot54) ?at54 (by kernel_rfl) (by kernel_rfl) (by kernel_rfl) ?bt54 ?ct54 (by assumption) ?rt54; (case at54 => (simp only [List.getElem?_toArray, List.getElem?_cons_zero, List.getElem?_cons_succ]; rfl)); (case bt54 => exact fun _ _ _ h => h); (case ct54 => kernel_rfl); (case' rt54 => simp only [Act.put, List.setIfInBounds_toArray, List.set_cons_zero, List.set_cons_succ]))
    (refine held_skip (i := 10) (oi := ?ot55) ?at55 (by kernel_rfl) (by kernel_rfl) (by kernel_rfl) ?bt55 ?ct55 (by assumption) ?rt55; (case at55 => (simp only [List.getElem?_toArray, List.getElem?_cons_zero, List.getElem?_cons_succ]; rfl)); (case bt55 => exact fun _ _ _ h => h); (case ct55 => kernel_rfl); (case' rt55 => simp only [Act.put, List.setIfInBounds_toArray, List.set_cons_zero, List.set_cons_succ]))
    (refine held_skip (i := 11) (oi := ?ot56) ?at56 (by kernel_rfl) (by kernel_rfl) (by kernel_rfl) ?bt56 ?ct56 (by assumption) ?rt56; (case at56 => (simp only [List.getElem?_toArray, List.getElem?_cons_zero, List.getElem?_cons_succ]; rfl)); (case bt56 => exact fun _ _ _ h => h); (case ct56 => kernel_rfl); (case' rt56 => simp only [Act.put, List.setIfInBounds_toArray, List.set_cons_zero, List.set_cons_succ]))
    (refine held_skip (i := 12) (oi := ?ot57) ?at57 (by kernel_rfl) (by kernel_rfl) (by kernel_rfl) ?bt57 ?ct57 (by assumption) ?rt57; (case at57 => (simp only [List.getElem?_toArray, List.getElem?_cons_zero, List.getElem?_cons_succ]; rfl)); (case bt57 => exact fun _ _ _ h => h); (case ct57 => kernel_rfl); (case' rt57 => simp only [Act.put, List.setIfInBounds_toArray, List.set_cons_zero, List.set_cons_succ]))
    (refine held_skip (i := 13) (oi := ?ot58) ?at58 (by kernel_rfl) (by kernel_rfl) (by kernel_rfl) ?bt58 ?ct58 (by assumption) ?rt58; (case at58 => (simp only [List.getElem?_toArray, List.getElem?_cons_zero, List.getElem?_cons_succ]; rfl)); (case bt58 => exact fun _ _ _ h => h); (case ct58 => kernel_rfl); (case' rt58 => simp only [Act.put, List.setIfInBounds_toArray, List.set_cons_zero, List.set_cons_succ]))
    (refine held_skip (i := 14) (oi := ?ot59) ?at59 (by kernel_rfl) (by kernel_rfl) (by kernel_rfl) ?bt59 ?ct59 (by assumption) ?rt59; (case at59 => (simp only [List.getElem?_toArray, List.getElem?_cons_zero, List.getElem?_cons_succ]; rfl)); (case bt59 => exact fun _ _ _ h => h); (case ct59 => kernel_rfl); (case' rt59 => simp only [Act.put, List.setIfInBounds_toArray, List.set_cons_zero, List.set_cons_succ]))
    (refine held_take (i := 15) (oi := ?ot60) (v := ?vt60) ?at60 (by kernel_rfl) (by kernel_rfl) (by kernel_rfl) ?bt60 ?ct60 ?dt60 (by assumption) ?rt60; (case at60 => (simp only [List.getElem?_toArray, List.getElem?_cons_zero, List.getElem?_cons_succ]; rfl)); (case bt60 => exact fun _ _ _ h => h); (case ct60 => kernel_rfl); (case dt60 => (intro W hW; (try dsimp only at hW); go_split_ands; go_simp; (try with_reducible rfl))); (case' rt60 => simp only [Act.put, List.setIfInBounds_toArray, List.set_cons_zero, List.set_cons_succ]))
    (refine held_take (i := 16) (oi := ?ot61) (v := ?vt61) ?at61 (by kernel_rfl) (by kernel_rfl) (by kernel_rfl) ?bt61 ?ct61 ?dt61 (by assumption) ?rt61; (case at61 => (simp only [List.getElem?_toArray, List.getElem?_cons_zero, List.getElem?_cons_succ]; rfl)); (case bt61 => exact fun _ _ _ h => h); (case ct61 => kernel_rfl); (case dt61 => (intro W hW; (try dsimp only at hW); go_split_ands; go_simp; (try with_reducible rfl))); (case' rt61 => simp only [Act.put, List.setIfInBounds_toArray, List.set_cons_zero, List.set_cons_succ]))
    refine wpAnyH_done (by kernel_rfl) ?_ _
    go_wp2
    go_ret
    exact ⟨rfl, hS.below0 HB.out⟩
  · have t1 : ¬ (40 : Int) < (auth.length : Int) := by omega
    go_enter Tryd.func4, Tryd.ntmps4
    go_upto_region 1 with fail
    rw [← HW.out]
    clear HW
    go_upto_region 3 with (go_at_call 8; refine (awake7_any _ (tabs_below HT.out HB0.out)).mono ?_; rintro e V1 ⟨rfl, hd⟩; have HD := Lib.hid hd; clear hd)
    have HB := Lib.hid (HB0.out.trans (HD.out.mono HB0.out.size))
    have HQ0 := Lib.hid (HP0.out.under HD.out)
    have HQ1 := Lib.hid (HP1.out.under HD.out)
    have HSauth : Hid (NRow V1 V1.heap.size Aauth auth) := Lib.hid ((HRauth.out.below HB.out).wide HB.out.size)
    have HT1 := Lib.hid (tabs_below HT.out HB.out)
    clear HD HP0 HP1
    refine wp_region_held_drew (S := fun Y => VS V1 Y) (by kernel_rfl) (VS.begin V1) (fun hS => ?_)
    (refine held_take (i := 0) (oi := ?ot62) (v := ?vt62) ?at62 (by kernel_rfl) (by kernel_rfl) (by kernel_rfl) ?bt62 ?ct62 ?dt62 (by assumption) ?rt62; (case at62 => (simp only [List.getElem?_toArray, List.getElem?_cons_zero]; rfl)); (case bt62 => exact fun _ _ _ h => h); (case ct62 => kernel_rfl); (case dt62 => (intro W hW; (try dsimp only at hW); go_split_ands; go_simp; (try with_reducible rfl))); (case' rt62 => simp only [Act.put, List.setIfInBounds_toArray, List.set_cons_zero, List.set_cons_succ]))
    (refine held_take (i := 1) (oi := ?ot63) (v := ?vt63) ?at63 (by kernel_rfl) (by kernel_rfl) (by kernel_rfl) ?bt63 ?ct63 ?dt63 (by assumption) ?rt63; (case at63 => (simp only [List.getElem?_toArray, List.getElem?_cons_zero, List.getElem?_cons_succ]; rfl)); (case bt63 => exact fun _ _ _ h => h); (case ct63 => kernel_rfl); (case dt63 => (intro W hW; (try dsimp only at hW); go_split_ands; go_simp; (try with_reducible rfl))); (case' rt63 => simp only [Act.put, List.setIfInBounds_toArray, List.set_cons_zero, List.set_cons_succ]))
    (refine held_take (i := 2) (oi := ?ot64) (v := .bool false) ?at64 (by kernel_rfl) (by kernel_rfl) (by kernel_rfl) ?bt64 ?ct64 ?dt64 (by assumption) ?rt64; (case at64 => (simp only [List.getElem?_toArray, List.getElem?_cons_zero, List.getElem?_cons_succ]; rfl)); (case bt64 => exact fun _ _ _ h => h); (case ct64 => kernel_rfl); (case dt64 => (intro W hW; (try dsimp only at hW); go_simp; (try with_reducible rfl))); (case' rt64 => simp only [Act.put, List.setIfInBounds_toArray, List.set_cons_zero, List.set_cons_succ]))
    (refine held_take (i := 3) (oi := ?ot65) (v := ?vt65) ?at65 (by kernel_rfl) (by kernel_rfl) (by kernel_rfl) ?bt65 ?ct65 ?dt65 (by assumption) ?rt65; (case at65 => (simp only [List.getElem?_toArray, List.getElem?_cons_zero, List.getElem?_cons_succ]; rfl)); (case bt65 => exact fun _ _ _ h => h); (case ct65 => kernel_rfl); (case dt65 => (intro W hW; (try dsimp only at hW); go_split_ands; go_simp; (try with_reducible rfl))); (case' rt65 => simp only [Act.put, List.setIfInBounds_toArray, List.set_cons_zero, List.set_cons_succ]))
    (refine held_take (i := 4) (oi := ?ot66) (v := .agg (vec 32 (bys leaf))) ?at66 (by kernel_rfl) (by kernel_rfl) (by kernel_rfl) ?bt66 ?ct66 ?dt66 (by assumption) ?rt66; (case at66 => (simp only [List.getElem?_toArray, List.getElem?_cons_zero, List.getElem?_cons_succ]; rfl)); (case bt66 => exact fun _ _ _ h => h); (case ct66 => kernel_rfl); (case dt66 => (intro W hW; exact exec_load 24 _ rfl _ rfl _ (run_load_arr (HQ0.out.under hW) Tryd.underlying24 rfl info26))); (case' rt66 => simp only [Act.put, List.setIfInBounds_toArray, List.set_cons_zero, List.set_cons_succ]))
    (refine held_take (i := 5) (oi := ?ot67) (v := ?vt67) ?at67 (by kernel_rfl) (by kernel_rfl) (by kernel_rfl) ?bt67 ?ct67 ?dt67 (by assumption) ?rt67; (case at67 => (simp only [List.getElem?_toArray, List.getElem?_cons_zero, List.getElem?_cons_succ]; rfl)); (case bt67 => exact fun _ _ _ h => h); (case ct67 => kernel_rfl); (case dt67 => (intro W hW; (try dsimp only at hW); go_split_ands; go_simp; (try with_reducible rfl))); (case' rt67 => simp only [Act.put, List.setIfInBounds_toArray, List.set_cons_zero, List.set_cons_succ]))
    (refine held_take (i := 6) (oi := ?ot68) (v := ?vt68) ?at68 (by kernel_rfl) (by kernel_rfl) (by kernel_rfl) ?bt68 ?ct68 ?dt68 (by assumption) ?rt68; (case at68 => (simp only [List.getElem?_toArray, List.getElem?_cons_zero, List.getElem?_cons_succ]; rfl)); (case bt68 => exact fun _ _ _ h => h); (case ct68 => kernel_rfl); (case dt68 => (intro W hW; (try dsimp only at hW); go_split_ands; go_simp; (try with_reducible rfl))); (case' rt68 => simp only [Act.put, List.setIfInBounds_toArray, List.set_cons_zero, List.set_cons_succ]))
    (refine held_take (i := 7) (oi := ?ot69) (v := .agg (vec 32 (bys seed))) ?at69 (by kernel_rfl) (by kernel_rfl) (by kernel_rfl) ?bt69 ?ct69 ?dt69 (by assumption) ?rt69; (case at69 => (simp only [List.getElem?_toArray, List.getElem?_cons_zero, List.getElem?_cons_succ]; rfl)); (case bt69 => exact fun _ _ _ h => h); (case ct69 => kernel_rfl); (case dt69 => (intro W hW; exact exec_load 24 _ rfl _ rfl _ (run_load_arr (HQ1.out.under hW) Tryd.underlying24 rfl info26))); (case' rt69 => simp only [Act.put, List.setIfInBounds_toArray, List.set_cons_zero, List.set_cons_succ]))
    (refine held_take (i := 9) (oi := ?ot70) (v := .agg (vec 32 (bys leaf))) ?at70 (by kernel_rfl) (by kernel_rfl) (by kernel_rfl) ?bt70 ?ct70 ?dt70 (by assumption) ?rt70; (case at70 => (simp only [List.getElem?_toArray, List.getElem?_cons_zero, List.getElem?_cons_succ]; rfl)); (case bt70 => exact fun _ _ _ h => h); (case ct70 => kernel_rfl); (case dt70 => (intro W hW; exact exec_load 24 _ rfl _ rfl _ (run_load_arr (HQ0.out.under hW) Tryd.underlying24 rfl info26))); (case' rt70 => simp only [Act.put, List.setIfInBounds_toArray, List.set_cons_zero, List.set_cons_succ]))
    (refine held_take (i := 10) (oi := ?ot71) (v := ?vt71) ?at71 (by kernel_rfl) (by kernel_rfl) (by kernel_rfl) ?bt71 ?ct71 ?dt71 (by assumption) ?rt71; (case at71 => (simp only [List.getElem?_toArray, List.getElem?_cons_zero, List.getElem?_cons_succ]; rfl)); (case bt71 => exact fun _ _ _ h => h); (case ct71 => kernel_rfl); (case dt71 => (intro W hW; (try dsimp only at hW); go_split_ands; go_simp; (try with_reducible rfl))); (case' rt71 => simp only [Act.put, List.setIfInBounds_toArray, List.set_cons_zero, List.set_cons_succ]))
    (refine held_take (i := 11) (oi := ?ot72) (v := ?vt72) ?at72 (by kernel_rfl) (by kernel_rfl) (by kernel_rfl) ?bt72 ?ct72 ?dt72 (by assumption) ?rt72; (case at72 => (simp only [List.getElem?_toArray, List.getElem?_cons_zero, List.getElem?_cons_succ]; rfl)); (case bt72 => exact fun _ _ _ h => h); (case ct72 => kernel_rfl); (case dt72 => (intro W hW; (try dsimp only at hW); go_split_ands; go_simp; (try with_reducible rfl))); (case' rt72 => simp only [Act.put, List.setIfInBounds_toArray, List.set_cons_zero, List.set_cons_succ]))
    (refine held_take (i := 12) (oi := ?ot73) (v := .agg (vec 32 (bys seed))) ?at73 (by kernel_rfl) (by kernel_rfl) (by kernel_rfl) ?bt73 ?ct73 ?dt73 (by assumption) ?rt73; (case at73 => (simp only [List.getElem?_toArray, List.getElem?_cons_zero, List.getElem?_cons_succ]; rfl)); (case bt73 => exact fun _ _ _ h => h); (case ct73 => kernel_rfl); (case dt73 => (intro W hW; exact exec_load 24 _ rfl _ rfl _ (run_load_arr (HQ1.out.under hW) Tryd.underlying24 rfl info26))); (case' rt73 => simp only [Act.put, List.setIfInBounds_toArray, List.set_cons_zero, List.set_cons_succ]))
    refine held_one (i := 8) (oi := ?ot74) (by kernel_rfl) ?at74 ?ct74 (fun K8 hK8 => ?_)
    (case at74 => (simp only [List.getElem?_toArray, List.getElem?_cons_zero, List.getElem?_cons_succ]; rfl))
    (case ct74 => kernel_rfl)
    go_simp
    refine (root_any leaf idx hidx Aauth cauth auth seed _ ((HSauth.out.below hS).wide (show Below _ _ _ from hS).size) (tabs_below HT1.out hS)).mono ?_
    rintro e y8 ⟨rfl, hd⟩
    refine hK8 _ _ (hS.keep hd) (fun hS8 => ?_)
    clear hS hd hK8 K8
    refine held_one (i := 13) (oi := ?ot75) (by kernel_rfl) ?at75 ?ct75 (fun K13 hK13 => ?_)
    (case at75 => (simp only [List.getElem?_toArray, List.getElem?_cons_zero, List.getElem?_cons_succ]; rfl))
    (case ct75 => kernel_rfl)
    go_simp
    refine (rroot_any leaf idx hidx Aauth cauth auth seed _ ((HSauth.out.below hS8).wide (show Below _ _ _ from hS8).size) (tabs_below HT1.out hS8)).mono ?_
    rintro e y13 ⟨rfl, hd⟩
    refine hK13 _ _ (hS8.keep hd) (fun hS13 => ?_)
    clear hS8 hd hK13 K13
    (refine held_take (i := 14) (oi := ?ot76) (v := .bool true) ?at76 (by kernel_rfl) (by kernel_rfl) (by kernel_rfl) ?bt76 ?ct76 ?dt76 (by assumption) ?rt76; (case at76 => (simp only [List.getElem?_toArray, List.getElem?_cons_zero, List.getElem?_cons_succ]; rfl)); (case bt76 => exact fun _ _ _ h => h); (case ct76 => kernel_rfl); (case dt76 => (intro W hW; exact exec_eql32 _ _ _ rfl (rootD leaf idx auth seed) rfl rfl W)); (case' rt76 => simp only [Act.put, List.setIfInBounds_toArray, List.set_cons_zero, List.set_cons_succ]))
    (refine held_take (i := 15) (oi := ?ot77) (v := ?vt77) ?at77 (by kernel_rfl) (by kernel_rfl) (by kernel_rfl) ?bt77 ?ct77 ?dt77 (by assumption) ?rt77; (case at77 => (simp only [List.getElem?_toArray, List.getElem?_cons_zero, List.getElem?_cons_succ]; rfl)); (case bt77 => exact fun _ _ _ h => h); (case ct77 => kernel_rfl); (case dt77 => (intro W hW; (try dsimp only at hW); go_split_ands; go_simp; (try with_reducible rfl))); (case' rt77 => simp only [Act.put, List.setIfInBounds_toArray, List.set_cons_zero, List.set_cons_succ]))
    (refine held_take (i := 16) (oi := ?ot78) (v := ?vt78) ?at78 (by kernel_rfl) (by kernel_rfl) (by kernel_rfl) ?bt78 ?ct78 ?dt78 (by assumption) ?rt78; (case at78 => (simp only [List.getElem?_toArray, List.getElem?_cons_zero, List.getElem?_cons_succ]; rfl)); (case bt78 => exact fun _ _ _ h => h); (case ct78 => kernel_rfl); (case dt78 => (intro W hW; (try dsimp only at hW); go_split_ands; go_simp; (try with_reducible rfl))); (case' rt78 => simp only [Act.put, List.setIfInBounds_toArray, List.set_cons_zero, List.set_cons_succ]))
    refine wpAnyH_done (by kernel_rfl) ?_ _
    go_wp2
    go_ret
    exact ⟨rfl, hS13.below0 HB.out⟩
end Go.Proofs.YtmhdhhdhnkoocaaDoor
