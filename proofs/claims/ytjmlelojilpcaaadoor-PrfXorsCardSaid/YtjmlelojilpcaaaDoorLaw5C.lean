/- The walks of PrfRands, PrfXors. -/
import Derived.Test.YtjmlelojilpcaaaDoorAwake5
namespace Go.Proofs.YtjmlelojilpcaaaDoor
open Go.RowKit
attribute [local go_sem ↓ high] zeroV26

set_option maxHeartbeats 1000000 in
set_option maxRecDepth 100000 in
theorem prfRands_walk (x y seed : Nat → UInt8) (l t k a b c m : Nat) (w : World) (hok : AdOk l t k a b c m) (hT : Tabs w) :
    Calls Tryd.prog 6 #[.agg (vec 32 (bys x)), .agg (vec 32 (bys y)), .agg (vec 32 (bys seed)), adV l t k a b c m] w fun e w' => e = .returned (.bool true) ∧ Below w.heap.size w w' := by
  obtain ⟨V, hV⟩ : ∃ V, V = (((w.alloc (.cells (vec 32 (bys x)) 27)).alloc (.cells (vec 32 (bys y)) 27)).alloc (.cells (vec 32 (bys seed)) 27)).alloc (.cells (adA l t k a b c m) 39) := ⟨_, rfl⟩
  have hA0 : Arr V w.heap.size 27 32 (bys x) := by rw [hV]; exact ((((Arr.newAt _ _ _ _ (by simp)).alloc _).alloc _).alloc _)
  have hA1 : Arr V (w.heap.size + 1) 27 32 (bys y) := by rw [hV]; exact (((Arr.newAt _ _ _ _ (by simp)).alloc _).alloc _)
  have hA2 : Arr V (w.heap.size + 2) 27 32 (bys seed) := by rw [hV]; exact ((Arr.newAt _ _ _ _ (by simp)).alloc _)
  have hA3 : Blk V (w.heap.size + 3) 39 (adA l t k a b c m) := by rw [hV]; exact (Blk.new _ _ _ (by simp))
  have hB : Below w.heap.size w V := by rw [hV]; exact (((((Below.refl _ _).alloc (by simp <;> omega) _).alloc (by simp <;> omega) _).alloc (by simp <;> omega) _).alloc (by simp <;> omega) _)
  have HT := Lib.hid hT
  have HB0 := Lib.hid hB
  have HAw := Lib.hid (awake5_any V (tabs_below hT hB))
  have HP0 := Lib.hid hA0
  have HP1 := Lib.hid hA1
  have HP2 := Lib.hid hA2
  have HP3 := Lib.hid hA3
  have HW := Lib.hid hV
  clear hV hB hT hA0 hA1 hA2 hA3
  go_enter Tryd.func6, Tryd.ntmps6
  go_upto_region 1 with fail
  rw [← HW.out]
  clear HW
  go_upto_region 3 with (go_at_call 8; refine HAw.out.mono ?_; rintro e V1 ⟨rfl, hd⟩; have HD := Lib.hid hd; clear hd)
  have HB := Lib.hid (HB0.out.trans (HD.out.mono HB0.out.size))
  have HQ0 := Lib.hid (HP0.out.under HD.out)
  have HQ1 := Lib.hid (HP1.out.under HD.out)
  have HQ2 := Lib.hid (HP2.out.under HD.out)
  have HQ3 := Lib.hid (HP3.out.under HD.out)
  clear HB0 HD HAw HP0 HP1 HP2 HP3
  refine wp_region_held_drew (S := fun Y => VS V1 Y) (by kernel_rfl) (VS.begin V1) (fun hS => ?_)
  (refine held_take (i := 0) (oi := ?ot65) (v := .agg (vec 32 (bys seed))) ?at65 (by kernel_rfl) (by kernel_rfl) (by kernel_rfl) ?bt65 ?ct65 ?dt65 (by assumption) ?rt65; (case at65 => (simp only [List.getElem?_toArray, List.getElem?_cons_zero]; rfl)); (case bt65 => exact fun _ _ _ h => h); (case ct65 => kernel_rfl); (case dt65 => (intro W hW; exact exec_load 27 _ rfl _ rfl _ (run_load_arr (HQ2.out.under hW) Tryd.underlying27 rfl info26))); (case' rt65 => simp only [Act.put, List.setIfInBounds_toArray, List.set_cons_zero, List.set_cons_succ]))
  (refine held_take (i := 1) (oi := ?ot66) (v := adV l t k a b c m) ?at66 (by kernel_rfl) (by kernel_rfl) (by kernel_rfl) ?bt66 ?ct66 ?dt66 (by assumption) ?rt66; (case at66 => (simp only [List.getElem?_toArray, List.getElem?_cons_zero, List.getElem?_cons_succ]; rfl)); (case bt66 => exact fun _ _ _ h => h); (case ct66 => kernel_rfl); (case dt66 => (intro W hW; exact exec_load 39 _ rfl _ rfl _ ((HQ3.out.under hW).load Tryd.underlying39 rfl infoAd))); (case' rt66 => simp only [Act.put, List.setIfInBounds_toArray, List.set_cons_zero, List.set_cons_succ]))
  (refine held_take (i := 3) (oi := ?ot67) (v := .agg (vec 32 (bys seed))) ?at67 (by kernel_rfl) (by kernel_rfl) (by kernel_rfl) ?bt67 ?ct67 ?dt67 (by assumption) ?rt67; (case at67 => (simp only [List.getElem?_toArray, List.getElem?_cons_zero, List.getElem?_cons_succ]; rfl)); (case bt67 => exact fun _ _ _ h => h); (case ct67 => kernel_rfl); (case dt67 => (intro W hW; exact exec_load 27 _ rfl _ rfl _ (run_load_arr (HQ2.out.under hW) Tryd.underlying27 rfl info26))); (case' rt67 => simp only [Act.put, List.setIfInBounds_toArray, List.set_cons_zero, List.set_cons_succ]))
  (refine held_take (i := 4) (oi := ?ot68) (v := adV l t k a b c m) ?at68 (by kernel_rfl) (by kernel_rfl) (by kernel_rfl) ?bt68 ?ct68 ?dt68 (by assumption) ?rt68; (case at68 => (simp only [List.getElem?_toArray, List.getElem?_cons_zero, List.getElem?_cons_succ]; rfl)); (case bt68 => exact fun _ _ _ h => h); (case ct68 => kernel_rfl); (case dt68 => (intro W hW; exact exec_load 39 _ rfl _ rfl _ ((HQ3.out.under hW).load Tryd.underlying39 rfl infoAd))); (case' rt68 => simp only [Act.put, List.setIfInBounds_toArray, List.set_cons_zero, List.set_cons_succ]))
  refine held_one (i := 2) (oi := ?ot69) (by kernel_rfl) ?at69 ?ct69 (fun K2 hK2 => ?_)
  (case at69 => (simp only [List.getElem?_toArray, List.getElem?_cons_zero, List.getElem?_cons_succ]; rfl))
  (case ct69 => kernel_rfl)
  go_simp
  refine (prf_any seed l t k a b c m hok _ (tabs_below HT.out (hS.below0 HB.out))).mono ?_
  rintro e y2 ⟨rfl, hd⟩
  refine hK2 _ _ (hS.keep hd) (fun hS2 => ?_)
  clear hS hd hK2 K2
  refine held_one (i := 5) (oi := ?ot70) (by kernel_rfl) ?at70 ?ct70 (fun K5 hK5 => ?_)
  (case at70 => (simp only [List.getElem?_toArray, List.getElem?_cons_zero, List.getElem?_cons_succ]; rfl))
  (case ct70 => kernel_rfl)
  go_simp
  refine (rprf_any seed l t k a b c m hok _ (tabs_below HT.out (hS2.below0 HB.out))).mono ?_
  rintro e y5 ⟨rfl, hd⟩
  refine hK5 _ _ (hS2.keep hd) (fun hS5 => ?_)
  clear hS2 hd hK5 K5
  (refine held_take (i := 6) (oi := ?ot71) (v := .bool true) ?at71 (by kernel_rfl) (by kernel_rfl) (by kernel_rfl) ?bt71 ?ct71 ?dt71 (by assumption) ?rt71; (case at71 => (simp only [List.getElem?_toArray, List.getElem?_cons_zero, List.getElem?_cons_succ]; rfl)); (case bt71 => exact fun _ _ _ h => h); (case ct71 => kernel_rfl); (case dt71 => (intro W hW; exact exec_eql32 _ _ _ rfl (prfF seed l t k a b c m) rfl rfl W)); (case' rt71 => simp only [Act.put, List.setIfInBounds_toArray, List.set_cons_zero, List.set_cons_succ]))
  (refine held_take (i := 7) (oi := ?ot72) (v := ?vt72) ?at72 (by kernel_rfl) (by kernel_rfl) (by kernel_rfl) ?bt72 ?ct72 ?dt72 (by assumption) ?rt72; (case at72 => (simp only [List.getElem?_toArray, List.getElem?_cons_zero, List.getElem?_cons_succ]; rfl)); (case bt72 => exact fun _ _ _ h => h); (case ct72 => kernel_rfl); (case dt72 => (intro W hW; (try dsimp only at hW); go_split_ands; go_simp; (try with_reducible rfl))); (case' rt72 => simp only [Act.put, List.setIfInBounds_toArray, List.set_cons_zero, List.set_cons_succ]))
  (refine held_take (i := 8) (oi := ?ot73) (v := .agg (vec 32 (bys x))) ?at73 (by kernel_rfl) (by kernel_rfl) (by kernel_rfl) ?bt73 ?ct73 ?dt73 (by assumption) ?rt73; (case at73 => (simp only [List.getElem?_toArray, List.getElem?_cons_zero, List.getElem?_cons_succ]; rfl)); (case bt73 => exact fun _ _ _ h => h); (case ct73 => kernel_rfl); (case dt73 => (intro W hW; exact exec_load 27 _ rfl _ rfl _ (run_load_arr (HQ0.out.under hW) Tryd.underlying27 rfl info26))); (case' rt73 => simp only [Act.put, List.setIfInBounds_toArray, List.set_cons_zero, List.set_cons_succ]))
  (refine held_take (i := 9) (oi := ?ot74) (v := .agg (vec 32 (bys y))) ?at74 (by kernel_rfl) (by kernel_rfl) (by kernel_rfl) ?bt74 ?ct74 ?dt74 (by assumption) ?rt74; (case at74 => (simp only [List.getElem?_toArray, List.getElem?_cons_zero, List.getElem?_cons_succ]; rfl)); (case bt74 => exact fun _ _ _ h => h); (case ct74 => kernel_rfl); (case dt74 => (intro W hW; exact exec_load 27 _ rfl _ rfl _ (run_load_arr (HQ1.out.under hW) Tryd.underlying27 rfl info26))); (case' rt74 => simp only [Act.put, List.setIfInBounds_toArray, List.set_cons_zero, List.set_cons_succ]))
  (refine held_take (i := 10) (oi := ?ot75) (v := .agg (vec 32 (bys seed))) ?at75 (by kernel_rfl) (by kernel_rfl) (by kernel_rfl) ?bt75 ?ct75 ?dt75 (by assumption) ?rt75; (case at75 => (simp only [List.getElem?_toArray, List.getElem?_cons_zero, List.getElem?_cons_succ]; rfl)); (case bt75 => exact fun _ _ _ h => h); (case ct75 => kernel_rfl); (case dt75 => (intro W hW; exact exec_load 27 _ rfl _ rfl _ (run_load_arr (HQ2.out.under hW) Tryd.underlying27 rfl info26))); (case' rt75 => simp only [Act.put, List.setIfInBounds_toArray, List.set_cons_zero, List.set_cons_succ]))
  (refine held_take (i := 11) (oi := ?ot76) (v := adV l t k a b c m) ?at76 (by kernel_rfl) (by kernel_rfl) (by kernel_rfl) ?bt76 ?ct76 ?dt76 (by assumption) ?rt76; (case at76 => (simp only [List.getElem?_toArray, List.getElem?_cons_zero, List.getElem?_cons_succ]; rfl)); (case bt76 => exact fun _ _ _ h => h); (case ct76 => kernel_rfl); (case dt76 => (intro W hW; exact exec_load 39 _ rfl _ rfl _ ((HQ3.out.under hW).load Tryd.underlying39 rfl infoAd))); (case' rt76 => simp only [Act.put, List.setIfInBounds_toArray, List.set_cons_zero, List.set_cons_succ]))
  (refine held_take (i := 13) (oi := ?ot77) (v := .agg (vec 32 (bys x))) ?at77 (by kernel_rfl) (by kernel_rfl) (by kernel_rfl) ?bt77 ?ct77 ?dt77 (by assumption) ?rt77; (case at77 => (simp only [List.getElem?_toArray, List.getElem?_cons_zero, List.getElem?_cons_succ]; rfl)); (case bt77 => exact fun _ _ _ h => h); (case ct77 => kernel_rfl); (case dt77 => (intro W hW; exact exec_load 27 _ rfl _ rfl _ (run_load_arr (HQ0.out.under hW) Tryd.underlying27 rfl info26))); (case' rt77 => simp only [Act.put, List.setIfInBounds_toArray, List.set_cons_zero, List.set_cons_succ]))
  (refine held_take (i := 14) (oi := ?ot78) (v := .agg (vec 32 (bys y))) ?at78 (by kernel_rfl) (by kernel_rfl) (by kernel_rfl) ?bt78 ?ct78 ?dt78 (by assumption) ?rt78; (case at78 => (simp only [List.getElem?_toArray, List.getElem?_cons_zero, List.getElem?_cons_succ]; rfl)); (case bt78 => exact fun _ _ _ h => h); (case ct78 => kernel_rfl); (case dt78 => (intro W hW; exact exec_load 27 _ rfl _ rfl _ (run_load_arr (HQ1.out.under hW) Tryd.underlying27 rfl info26))); (case' rt78 => simp only [Act.put, List.setIfInBounds_toArray, List.set_cons_zero, List.set_cons_succ]))
  (refine held_take (i := 15) (oi := ?ot79) (v := .agg (vec 32 (bys seed))) ?at79 (by kernel_rfl) (by kernel_rfl) (by kernel_rfl) ?bt79 ?ct79 ?dt79 (by assumption) ?rt79; (case at79 => (simp only [List.getElem?_toArray, List.getElem?_cons_zero, List.getElem?_cons_succ]; rfl)); (case bt79 => exact fun _ _ _ h => h); (case ct79 => kernel_rfl); (case dt79 => (intro W hW; exact exec_load 27 _ rfl _ rfl _ (run_load_arr (HQ2.out.under hW) Tryd.underlying27 rfl info26))); (case' rt79 => simp only [Act.put, List.setIfInBounds_toArray, List.set_cons_zero, List.set_cons_succ]))
  (refine held_take (i := 16) (oi := ?ot80) (v := adV l t k a b c m) ?at80 (by kernel_rfl) (by kernel_rfl) (by kernel_rfl) ?bt80 ?ct80 ?dt80 (by assumption) ?rt80; (case at80 => (simp only [List.getElem?_toArray, List.getElem?_cons_zero, List.getElem?_cons_succ]; rfl)); (case bt80 => exact fun _ _ _ h => h); (case ct80 => kernel_rfl); (case dt80 => (intro W hW; exact exec_load 39 _ rfl _ rfl _ ((HQ3.out.under hW).load Tryd.underlying39 rfl infoAd))); (case' rt80 => simp only [Act.put, List.setIfInBounds_toArray, List.set_cons_zero, List.set_cons_succ]))
  refine held_one (i := 12) (oi := ?ot81) (by kernel_rfl) ?at81 ?ct81 (fun K12 hK12 => ?_)
  (case at81 => (simp only [List.getElem?_toArray, List.getElem?_cons_zero, List.getElem?_cons_succ]; rfl))
  (case ct81 => kernel_rfl)
  go_simp
  refine (rand_any x y seed l t k a b c m hok _ (tabs_below HT.out (hS5.below0 HB.out))).mono ?_
  rintro e y12 ⟨rfl, hd⟩
  refine hK12 _ _ (hS5.keep hd) (fun hS12 => ?_)
  clear hS5 hd hK12 K12
  refine held_one (i := 17) (oi := ?ot82) (by kernel_rfl) ?at82 ?ct82 (fun K17 hK17 => ?_)
  (case at82 => (simp only [List.getElem?_toArray, List.getElem?_cons_zero, List.getElem?_cons_succ]; rfl))
  (case ct82 => kernel_rfl)
  go_simp
  refine (rrand_any x y seed l t k a b c m hok _ (tabs_below HT.out (hS12.below0 HB.out))).mono ?_
  rintro e y17 ⟨rfl, hd⟩
  refine hK17 _ _ (hS12.keep hd) (fun hS17 => ?_)
  clear hS12 hd hK17 K17
  (refine held_take (i := 18) (oi := ?ot83) (v := .bool true) ?at83 (by kernel_rfl) (by kernel_rfl) (by kernel_rfl) ?bt83 ?ct83 ?dt83 (by assumption) ?rt83; (case at83 => (simp only [List.getElem?_toArray, List.getElem?_cons_zero, List.getElem?_cons_succ]; rfl)); (case bt83 => exact fun _ _ _ h => h); (case ct83 => kernel_rfl); (case dt83 => (intro W hW; exact exec_eql32 _ _ _ rfl (randF x y seed l t k a b c) rfl rfl W)); (case' rt83 => simp only [Act.put, List.setIfInBounds_toArray, List.set_cons_zero, List.set_cons_succ]))
  (refine held_take (i := 19) (oi := ?ot84) (v := ?vt84) ?at84 (by kernel_rfl) (by kernel_rfl) (by kernel_rfl) ?bt84 ?ct84 ?dt84 (by assumption) ?rt84; (case at84 => (simp only [List.getElem?_toArray, List.getElem?_cons_zero, List.getElem?_cons_succ]; rfl)); (case bt84 => exact fun _ _ _ h => h); (case ct84 => kernel_rfl); (case dt84 => (intro W hW; (try dsimp only at hW); go_split_ands; go_simp; (try with_reducible rfl))); (case' rt84 => simp only [Act.put, List.setIfInBounds_toArray, List.set_cons_zero, List.set_cons_succ]))
  (refine held_take (i := 20) (oi := ?ot85) (v := ?vt85) ?at85 (by kernel_rfl) (by kernel_rfl) (by kernel_rfl) ?bt85 ?ct85 ?dt85 (by assumption) ?rt85; (case at85 => (simp only [List.getElem?_toArray, List.getElem?_cons_zero, List.getElem?_cons_succ]; rfl)); (case bt85 => exact fun _ _ _ h => h); (case ct85 => kernel_rfl); (case dt85 => (intro W hW; (try dsimp only at hW); go_split_ands; go_simp; (try with_reducible rfl))); (case' rt85 => simp only [Act.put, List.setIfInBounds_toArray, List.set_cons_zero, List.set_cons_succ]))
  refine wpAnyH_done (by kernel_rfl) ?_ _
  go_wp2
  go_ret
  exact ⟨rfl, hS17.below0 HB.out⟩

theorem xor_back (a b : Nat → UInt8) (w : World) :
    Calls Tryd.prog 22 #[.agg (vec 32 (bys (xorF a b))), .agg (vec 32 (bys b))] w fun e w' => e = .returned (.agg (vec 32 (bys a))) ∧ Below w.heap.size w w' := by
  have h := xor_any (xorF a b) b w
  rw [show xorF (xorF a b) b = a by funext i; simp [xorF, UInt8.xor_assoc]] at h
  exact h
theorem xor_self (a : Nat → UInt8) (w : World) :
    Calls Tryd.prog 22 #[.agg (vec 32 (bys a)), .agg (vec 32 (bys a))] w fun e w' => e = .returned (.agg (vec 32 (bys zb))) ∧ Below w.heap.size w w' := by
  have h := xor_any a a w
  rw [show xorF a a = zb by funext i; simp [xorF, zb]] at h
  exact h
set_option maxHeartbeats 1000000 in
set_option maxRecDepth 100000 in
theorem prfXors_walk (a b : Nat → UInt8) (w : World) (hT : Tabs w) :
    Calls Tryd.prog 7 #[.agg (vec 32 (bys a)), .agg (vec 32 (bys b))] w fun e w' => e = .returned (.bool true) ∧ Below w.heap.size w w' := by
  obtain ⟨V, hV⟩ : ∃ V, V = (w.alloc (.cells (vec 32 (bys a)) 27)).alloc (.cells (vec 32 (bys b)) 27) := ⟨_, rfl⟩
  have hA0 : Arr V w.heap.size 27 32 (bys a) := by rw [hV]; exact ((Arr.newAt _ _ _ _ (by simp)).alloc _)
  have hA1 : Arr V (w.heap.size + 1) 27 32 (bys b) := by rw [hV]; exact (Arr.newAt _ _ _ _ (by simp))
  have hB : Below w.heap.size w V := by rw [hV]; exact (((Below.refl _ _).alloc (by simp <;> omega) _).alloc (by simp <;> omega) _)
  have HT := Lib.hid hT
  have HB0 := Lib.hid hB
  have HAw := Lib.hid (awake5_any V (tabs_below hT hB))
  have HP0 := Lib.hid hA0
  have HP1 := Lib.hid hA1
  have HW := Lib.hid hV
  clear hV hB hT hA0 hA1
  go_enter Tryd.func7, Tryd.ntmps7
  go_upto_region 1 with fail
  rw [← HW.out]
  clear HW
  go_upto_region 3 with (go_at_call 8; refine HAw.out.mono ?_; rintro e V1 ⟨rfl, hd⟩; have HD := Lib.hid hd; clear hd)
  have HB := Lib.hid (HB0.out.trans (HD.out.mono HB0.out.size))
  have HQ0 := Lib.hid (HP0.out.under HD.out)
  have HQ1 := Lib.hid (HP1.out.under HD.out)
  clear HB0 HD HAw HP0 HP1
  refine wp_region_held_drew (S := fun Y => VS V1 Y) (by kernel_rfl) (VS.begin V1) (fun hS => ?_)
  (refine held_take (i := 0) (oi := ?ot86) (v := .agg (vec 32 (bys a))) ?at86 (by kernel_rfl) (by kernel_rfl) (by kernel_rfl) ?bt86 ?ct86 ?dt86 (by assumption) ?rt86; (case at86 => (simp only [List.getElem?_toArray, List.getElem?_cons_zero]; rfl)); (case bt86 => exact fun _ _ _ h => h); (case ct86 => kernel_rfl); (case dt86 => (intro W hW; exact exec_load 27 _ rfl _ rfl _ (run_load_arr (HQ0.out.under hW) Tryd.underlying27 rfl info26))); (case' rt86 => simp only [Act.put, List.setIfInBounds_toArray, List.set_cons_zero, List.set_cons_succ]))
  (refine held_take (i := 1) (oi := ?ot87) (v := .agg (vec 32 (bys b))) ?at87 (by kernel_rfl) (by kernel_rfl) (by kernel_rfl) ?bt87 ?ct87 ?dt87 (by assumption) ?rt87; (case at87 => (simp only [List.getElem?_toArray, List.getElem?_cons_zero, List.getElem?_cons_succ]; rfl)); (case bt87 => exact fun _ _ _ h => h); (case ct87 => kernel_rfl); (case dt87 => (intro W hW; exact exec_load 27 _ rfl _ rfl _ (run_load_arr (HQ1.out.under hW) Tryd.underlying27 rfl info26))); (case' rt87 => simp only [Act.put, List.setIfInBounds_toArray, List.set_cons_zero, List.set_cons_succ]))
  (refine held_take (i := 3) (oi := ?ot88) (v := .agg (vec 32 (bys a))) ?at88 (by kernel_rfl) (by kernel_rfl) (by kernel_rfl) ?bt88 ?ct88 ?dt88 (by assumption) ?rt88; (case at88 => (simp only [List.getElem?_toArray, List.getElem?_cons_zero, List.getElem?_cons_succ]; rfl)); (case bt88 => exact fun _ _ _ h => h); (case ct88 => kernel_rfl); (case dt88 => (intro W hW; exact exec_load 27 _ rfl _ rfl _ (run_load_arr (HQ0.out.under hW) Tryd.underlying27 rfl info26))); (case' rt88 => simp only [Act.put, List.setIfInBounds_toArray, List.set_cons_zero, List.set_cons_succ]))
  (refine held_take (i := 4) (oi := ?ot89) (v := .agg (vec 32 (bys b))) ?at89 (by kernel_rfl) (by kernel_rfl) (by kernel_rfl) ?bt89 ?ct89 ?dt89 (by assumption) ?rt89; (case at89 => (simp only [List.getElem?_toArray, List.getElem?_cons_zero, List.getElem?_cons_succ]; rfl)); (case bt89 => exact fun _ _ _ h => h); (case ct89 => kernel_rfl); (case dt89 => (intro W hW; exact exec_load 27 _ rfl _ rfl _ (run_load_arr (HQ1.out.under hW) Tryd.underlying27 rfl info26))); (case' rt89 => simp only [Act.put, List.setIfInBounds_toArray, List.set_cons_zero, List.set_cons_succ]))
  refine held_one (i := 2) (oi := ?ot90) (by kernel_rfl) ?at90 ?ct90 (fun K2 hK2 => ?_)
  (case at90 => (simp only [List.getElem?_toArray, List.getElem?_cons_zero, List.getElem?_cons_succ]; rfl))
  (case ct90 => kernel_rfl)
  go_simp
  refine (xor_any a b _).mono ?_
  rintro e y2 ⟨rfl, hd⟩
  refine hK2 _ _ (hS.keep hd) (fun hS2 => ?_)
  clear hS hd hK2 K2
  refine held_one (i := 5) (oi := ?ot91) (by kernel_rfl) ?at91 ?ct91 (fun K5 hK5 => ?_)
  (case at91 => (simp only [List.getElem?_toArray, List.getElem?_cons_zero, List.getElem?_cons_succ]; rfl))
  (case ct91 => kernel_rfl)
  go_simp
  refine (rxor_any a b _).mono ?_
  rintro e y5 ⟨rfl, hd⟩
  refine hK5 _ _ (hS2.keep hd) (fun hS5 => ?_)
  clear hS2 hd hK5 K5
  (refine held_take (i := 6) (oi := ?ot92) (v := .bool true) ?at92 (by kernel_rfl) (by kernel_rfl) (by kernel_rfl) ?bt92 ?ct92 ?dt92 (by assumption) ?rt92; (case at92 => (simp only [List.getElem?_toArray, List.getElem?_cons_zero, List.getElem?_cons_succ]; rfl)); (case bt92 => exact fun _ _ _ h => h); (case ct92 => kernel_rfl); (case dt92 => (intro W hW; exact exec_eql32 _ _ _ rfl (xorF a b) rfl rfl W)); (case' rt92 => simp only [Act.put, List.setIfInBounds_toArray, List.set_cons_zero, List.set_cons_succ]))
  (refine held_take (i := 7) (oi := ?ot93) (v := ?vt93) ?at93 (by kernel_rfl) (by kernel_rfl) (by kernel_rfl) ?bt93 ?ct93 ?dt93 (by assumption) ?rt93; (case at93 => (simp only [List.getElem?_toArray, List.getElem?_cons_zero, List.getElem?_cons_succ]; rfl)); (case bt93 => exact fun _ _ _ h => h); (case ct93 => kernel_rfl); (case dt93 => (intro W hW; (try dsimp only at hW); go_split_ands; go_simp; (try with_reducible rfl))); (case' rt93 => simp only [Act.put, List.setIfInBounds_toArray, List.set_cons_zero, List.set_cons_succ]))
  (refine held_take (i := 8) (oi := ?ot94) (v := .agg (vec 32 (bys a))) ?at94 (by kernel_rfl) (by kernel_rfl) (by kernel_rfl) ?bt94 ?ct94 ?dt94 (by assumption) ?rt94; (case at94 => (simp only [List.getElem?_toArray, List.getElem?_cons_zero, List.getElem?_cons_succ]; rfl)); (case bt94 => exact fun _ _ _ h => h); (case ct94 => kernel_rfl); (case dt94 => (intro W hW; exact exec_load 27 _ rfl _ rfl _ (run_load_arr (HQ0.out.under hW) Tryd.underlying27 rfl info26))); (case' rt94 => simp only [Act.put, List.setIfInBounds_toArray, List.set_cons_zero, List.set_cons_succ]))
  (refine held_take (i := 9) (oi := ?ot95) (v := .agg (vec 32 (bys b))) ?at95 (by kernel_rfl) (by kernel_rfl) (by kernel_rfl) ?bt95 ?ct95 ?dt95 (by assumption) ?rt95; (case at95 => (simp only [List.getElem?_toArray, List.getElem?_cons_zero, List.getElem?_cons_succ]; rfl)); (case bt95 => exact fun _ _ _ h => h); (case ct95 => kernel_rfl); (case dt95 => (intro W hW; exact exec_load 27 _ rfl _ rfl _ (run_load_arr (HQ1.out.under hW) Tryd.underlying27 rfl info26))); (case' rt95 => simp only [Act.put, List.setIfInBounds_toArray, List.set_cons_zero, List.set_cons_succ]))
  (refine held_take (i := 11) (oi := ?ot96) (v := .agg (vec 32 (bys b))) ?at96 (by kernel_rfl) (by kernel_rfl) (by kernel_rfl) ?bt96 ?ct96 ?dt96 (by assumption) ?rt96; (case at96 => (simp only [List.getElem?_toArray, List.getElem?_cons_zero, List.getElem?_cons_succ]; rfl)); (case bt96 => exact fun _ _ _ h => h); (case ct96 => kernel_rfl); (case dt96 => (intro W hW; exact exec_load 27 _ rfl _ rfl _ (run_load_arr (HQ1.out.under hW) Tryd.underlying27 rfl info26))); (case' rt96 => simp only [Act.put, List.setIfInBounds_toArray, List.set_cons_zero, List.set_cons_succ]))
  (refine held_take (i := 13) (oi := ?ot97) (v := .agg (vec 32 (bys a))) ?at97 (by kernel_rfl) (by kernel_rfl) (by kernel_rfl) ?bt97 ?ct97 ?dt97 (by assumption) ?rt97; (case at97 => (simp only [List.getElem?_toArray, List.getElem?_cons_zero, List.getElem?_cons_succ]; rfl)); (case bt97 => exact fun _ _ _ h => h); (case ct97 => kernel_rfl); (case dt97 => (intro W hW; exact exec_load 27 _ rfl _ rfl _ (run_load_arr (HQ0.out.under hW) Tryd.underlying27 rfl info26))); (case' rt97 => simp only [Act.put, List.setIfInBounds_toArray, List.set_cons_zero, List.set_cons_succ]))
  refine held_one (i := 10) (oi := ?ot98) (by kernel_rfl) ?at98 ?ct98 (fun K10 hK10 => ?_)
  (case at98 => (simp only [List.getElem?_toArray, List.getElem?_cons_zero, List.getElem?_cons_succ]; rfl))
  (case ct98 => kernel_rfl)
  go_simp
  refine (xor_any a b _).mono ?_
  rintro e y10 ⟨rfl, hd⟩
  refine hK10 _ _ (hS5.keep hd) (fun hS10 => ?_)
  clear hS5 hd hK10 K10
  refine held_one (i := 12) (oi := ?ot99) (by kernel_rfl) ?at99 ?ct99 (fun K12 hK12 => ?_)
  (case at99 => (simp only [List.getElem?_toArray, List.getElem?_cons_zero, List.getElem?_cons_succ]; rfl))
  (case ct99 => kernel_rfl)
  go_simp
  refine (xor_back a b _).mono ?_
  rintro e y12 ⟨rfl, hd⟩
  refine hK12 _ _ (hS10.keep hd) (fun hS12 => ?_)
  clear hS10 hd hK12 K12
  (refine held_take (i := 14) (oi := ?ot100) (v := .bool true) ?at100 (by kernel_rfl) (by kernel_rfl) (by kernel_rfl) ?bt100 ?ct100 ?dt100 (by assumption) ?rt100; (case at100 => (simp only [List.getElem?_toArray, List.getElem?_cons_zero, List.getElem?_cons_succ]; rfl)); (case bt100 => exact fun _ _ _ h => h); (case ct100 => kernel_rfl); (case dt100 => (intro W hW; exact exec_eql32 _ _ _ rfl (a) rfl rfl W)); (case' rt100 => simp only [Act.put, List.setIfInBounds_toArray, List.set_cons_zero, List.set_cons_succ]))
  (refine held_take (i := 15) (oi := ?ot101) (v := ?vt101) ?at101 (by kernel_rfl) (by kernel_rfl) (by kernel_rfl) ?bt101 ?ct101 ?dt101 (by assumption) ?rt101; (case at101 => (simp only [List.getElem?_toArray, List.getElem?_cons_zero, List.getElem?_cons_succ]; rfl)); (case bt101 => exact fun _ _ _ h => h); (case ct101 => kernel_rfl); (case dt101 => (intro W hW; (try dsimp only at hW); go_split_ands; go_simp; (try with_reducible rfl))); (case' rt101 => simp only [Act.put, List.setIfInBounds_toArray, List.set_cons_zero, List.set_cons_succ]))
  (refine held_take (i := 16) (oi := ?ot102) (v := ?vt102) ?at102 (by kernel_rfl) (by kernel_rfl) (by kernel_rfl) ?bt102 ?ct102 ?dt102 (by assumption) ?rt102; (case at102 => (simp only [List.getElem?_toArray, List.getElem?_cons_zero, List.getElem?_cons_succ]; rfl)); (case bt102 => exact fun _ _ _ h => h); (case ct102 => kernel_rfl); (case dt102 => (intro W hW; (try dsimp only at hW); go_split_ands; go_simp; (try with_reducible rfl))); (case' rt102 => simp only [Act.put, List.setIfInBounds_toArray, List.set_cons_zero, List.set_cons_succ]))
  (refine held_take (i := 17) (oi := ?ot103) (v := .agg (vec 32 (bys a))) ?at103 (by kernel_rfl) (by kernel_rfl) (by kernel_rfl) ?bt103 ?ct103 ?dt103 (by assumption) ?rt103; (case at103 => (simp only [List.getElem?_toArray, List.getElem?_cons_zero, List.getElem?_cons_succ]; rfl)); (case bt103 => exact fun _ _ _ h => h); (case ct103 => kernel_rfl); (case dt103 => (intro W hW; exact exec_load 27 _ rfl _ rfl _ (run_load_arr (HQ0.out.under hW) Tryd.underlying27 rfl info26))); (case' rt103 => simp only [Act.put, List.setIfInBounds_toArray, List.set_cons_zero, List.set_cons_succ]))
  (refine held_take (i := 18) (oi := ?ot104) (v := .agg (vec 32 (bys a))) ?at104 (by kernel_rfl) (by kernel_rfl) (by kernel_rfl) ?bt104 ?ct104 ?dt104 (by assumption) ?rt104; (case at104 => (simp only [List.getElem?_toArray, List.getElem?_cons_zero, List.getElem?_cons_succ]; rfl)); (case bt104 => exact fun _ _ _ h => h); (case ct104 => kernel_rfl); (case dt104 => (intro W hW; exact exec_load 27 _ rfl _ rfl _ (run_load_arr (HQ0.out.under hW) Tryd.underlying27 rfl info26))); (case' rt104 => simp only [Act.put, List.setIfInBounds_toArray, List.set_cons_zero, List.set_cons_succ]))
  (refine held_take (i := 20) (oi := ?ot105) (v := .agg (vec 32 (bys zb))) ?at105 (by kernel_rfl) (by kernel_rfl) (by kernel_rfl) ?bt105 ?ct105 ?dt105 (by assumption) ?rt105; (case at105 => (simp only [List.getElem?_toArray, List.getElem?_cons_zero, List.getElem?_cons_succ]; rfl)); (case bt105 => exact fun _ _ _ h => h); (case ct105 => kernel_rfl); (case dt105 => (intro W hW; exact exec_build 27 _ rfl (vec 32 (bys zb)) (by kernel_rfl) W)); (case' rt105 => simp only [Act.put, List.setIfInBounds_toArray, List.set_cons_zero, List.set_cons_succ]))
  refine held_one (i := 19) (oi := ?ot106) (by kernel_rfl) ?at106 ?ct106 (fun K19 hK19 => ?_)
  (case at106 => (simp only [List.getElem?_toArray, List.getElem?_cons_zero, List.getElem?_cons_succ]; rfl))
  (case ct106 => kernel_rfl)
  go_simp
  refine (xor_self a _).mono ?_
  rintro e y19 ⟨rfl, hd⟩
  refine hK19 _ _ (hS12.keep hd) (fun hS19 => ?_)
  clear hS12 hd hK19 K19
  (refine held_take (i := 21) (oi := ?ot107) (v := .bool true) ?at107 (by kernel_rfl) (by kernel_rfl) (by kernel_rfl) ?bt107 ?ct107 ?dt107 (by assumption) ?rt107; (case at107 => (simp only [List.getElem?_toArray, List.getElem?_cons_zero, List.getElem?_cons_succ]; rfl)); (case bt107 => exact fun _ _ _ h => h); (case ct107 => kernel_rfl); (case dt107 => (intro W hW; exact exec_eql32 _ _ _ rfl (zb) rfl rfl W)); (case' rt107 => simp only [Act.put, List.setIfInBounds_toArray, List.set_cons_zero, List.set_cons_succ]))
  (refine held_take (i := 22) (oi := ?ot108) (v := ?vt108) ?at108 (by kernel_rfl) (by kernel_rfl) (by kernel_rfl) ?bt108 ?ct108 ?dt108 (by assumption) ?rt108; (case at108 => (simp only [List.getElem?_toArray, List.getElem?_cons_zero, List.getElem?_cons_succ]; rfl)); (case bt108 => exact fun _ _ _ h => h); (case ct108 => kernel_rfl); (case dt108 => (intro W hW; (try dsimp only at hW); go_split_ands; go_simp; (try with_reducible rfl))); (case' rt108 => simp only [Act.put, List.setIfInBounds_toArray, List.set_cons_zero, List.set_cons_succ]))
  (refine held_take (i := 23) (oi := ?ot109) (v := ?vt109) ?at109 (by kernel_rfl) (by kernel_rfl) (by kernel_rfl) ?bt109 ?ct109 ?dt109 (by assumption) ?rt109; (case at109 => (simp only [List.getElem?_toArray, List.getElem?_cons_zero, List.getElem?_cons_succ]; rfl)); (case bt109 => exact fun _ _ _ h => h); (case ct109 => kernel_rfl); (case dt109 => (intro W hW; (try dsimp only at hW); go_split_ands; go_simp; (try with_reducible rfl))); (case' rt109 => simp only [Act.put, List.setIfInBounds_toArray, List.set_cons_zero, List.set_cons_succ]))
  refine wpAnyH_done (by kernel_rfl) ?_ _
  go_wp2
  go_ret
  exact ⟨rfl, hS19.below0 HB.out⟩
end Go.Proofs.YtjmlelojilpcaaaDoor
