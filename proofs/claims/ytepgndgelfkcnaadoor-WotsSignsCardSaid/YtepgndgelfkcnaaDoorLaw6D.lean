/- The walk of WotsSigns. -/
import Derived.Test.YtepgndgelfkcnaaDoorWt
import Derived.Test.YtepgndgelfkcnaaDoorWd
namespace Go.Proofs.YtepgndgelfkcnaaDoor
open Go.RowKit
attribute [local go_sem ↓ high] zeroV26 zeroV67

theorem publicD_ends (secret seed m : Nat → UInt8) (idx : Nat) : publicD (endsF secret seed idx (digN m)) m seed idx = endsF secret seed idx d15 := by
  unfold publicD
  rw [if_pos (endsF_length _ _ _ _), public_ends]
  rfl
theorem endsF_le (secret seed : Nat → UInt8) (idx : Nat) (d : Nat → Nat) : (endsF secret seed idx d).length ≤ 1000 := by rw [endsF_length]; decide

set_option maxHeartbeats 1000000 in
set_option maxRecDepth 100000 in
theorem wotsSigns_walk (secret m seed : Nat → UInt8) (idx : Nat) (w : World) (hidx : idx < 4294967296) (hT : Tabs w) :
    Calls Tryd.prog 6 #[.agg (vec 32 (bys secret)), .agg (vec 32 (bys m)), .agg (vec 32 (bys seed)), .int .u32 (idx : Int)] w fun e w' => e = .returned (.bool true) ∧ Below w.heap.size w w' := by
  obtain ⟨V, hV⟩ : ∃ V, V = ((w.alloc (.cells (vec 32 (bys secret)) 23)).alloc (.cells (vec 32 (bys m)) 23)).alloc (.cells (vec 32 (bys seed)) 23) := ⟨_, rfl⟩
  have hA0 : Arr V w.heap.size 23 32 (bys secret) := by rw [hV]; exact (((Arr.newAt _ _ _ _ (by simp)).alloc _).alloc _)
  have hA1 : Arr V (w.heap.size + 1) 23 32 (bys m) := by rw [hV]; exact ((Arr.newAt _ _ _ _ (by simp)).alloc _)
  have hA2 : Arr V (w.heap.size + 2) 23 32 (bys seed) := by rw [hV]; exact (Arr.newAt _ _ _ _ (by simp))
  have hB : Below w.heap.size w V := by rw [hV]; exact ((((Below.refl _ _).alloc (by simp <;> omega) _).alloc (by simp <;> omega) _).alloc (by simp <;> omega) _)
  have HB0 := Lib.hid hB
  have HT := Lib.hid hT
  have HP0 := Lib.hid hA0
  have HP1 := Lib.hid hA1
  have HP2 := Lib.hid hA2
  have HW := Lib.hid hV
  clear hV hB hT hA0 hA1 hA2
  go_enter Tryd.func6, Tryd.ntmps6
  go_upto_region 1 with fail
  rw [← HW.out]
  clear HW
  go_upto_region 3 with (go_at_call 8; refine (awake6_any _).mono ?_; rintro e V1 ⟨rfl, hd⟩; have HD := Lib.hid hd; clear hd)
  have HB := Lib.hid (HB0.out.trans (HD.out.mono HB0.out.size))
  have HQ0 := Lib.hid (HP0.out.under HD.out)
  have HQ1 := Lib.hid (HP1.out.under HD.out)
  have HQ2 := Lib.hid (HP2.out.under HD.out)
  clear HB0 HD HP0 HP1 HP2
  go_upto_region 4 with (first
    | ((with_reducible show wpList _ _ _ (Oper.mk _ (.load _ (.tmp 5)) _ _ _ _ :: _) _ _); refine wl_load rfl 23 _ rfl _ rfl _ (run_load_arr HQ1.out Tryd.underlying23 rfl info26) ?_)
    | (go_at_call 14; refine (rdigits_any m _).mono ?_; rintro e w1 ⟨rfl, hd⟩; have H1 := Lib.hid hd; clear hd)
    | ((with_reducible show wpList _ _ _ (Oper.mk _ (.store _ _ _) _ _ _ _ :: _) _ _); refine wl_store rfl 32 _ _ rfl _ rfl _ rfl (run_store_arr (Arr.new w1 _ _ _) (ints (digN m)) info67 (ints_one _ _)) ?_))
  obtain ⟨g, hg⟩ : ∃ g, g = w1.heap.size := ⟨_, rfl⟩
  obtain ⟨V3, hV3⟩ : ∃ V3, V3 = (w1.alloc (.cells (vec 67 (ints z67)) 32)).setRow w1.heap.size (vec 67 (ints (digN m))) := ⟨_, rfl⟩
  have hD : Arr V3 g 32 67 (ints (digN m)) := by rw [hV3, hg]; exact (Arr.new w1 _ _ _).row _
  have hb : Below V1.heap.size V1 V3 := by rw [hV3]; exact below_row (H1.out.alloc H1.out.size _) H1.out.size _
  have hB := HB.out.trans (hb.mono HB.out.size)
  rw [← hV3, ← hg]
  have HX := Lib.hid (And.intro (HQ0.out.under hb) (And.intro (HQ1.out.under hb) (And.intro (HQ2.out.under hb) (And.intro hD (And.intro hB (tabs_below HT.out hB))))))
  clear hV3 hg hD hb hB H1 HQ0 HQ1 HQ2 HB
  go_upto_region 5 with (first
    | ((with_reducible show wpList _ _ _ (Oper.mk _ (.load _ (.tmp 4)) _ _ _ _ :: _) _ _); refine wl_load rfl 23 _ rfl _ rfl _ (run_load_arr HX.out.1 Tryd.underlying23 rfl info26) ?_)
    | ((with_reducible show wpList _ _ _ (Oper.mk _ (.load _ (.tmp 5)) _ _ _ _ :: _) _ _); refine wl_load rfl 23 _ rfl _ rfl _ (run_load_arr HX.out.2.1 Tryd.underlying23 rfl info26) ?_)
    | ((with_reducible show wpList _ _ _ (Oper.mk _ (.load _ (.tmp 6)) _ _ _ _ :: _) _ _); refine wl_load rfl 23 _ rfl _ rfl _ (run_load_arr HX.out.2.2.1 Tryd.underlying23 rfl info26) ?_)
    | (go_at_call 15; refine (sign_any secret m seed idx hidx _ HX.out.2.2.2.2.2).mono ?_; rintro e V4 ⟨v, rfl, ho, hd⟩; obtain ⟨E1, c1, rfl, -, hrow⟩ := ho.row; have H4 := Lib.hid (And.intro hrow hd); clear ho hrow hd))
  have HB := Lib.hid (HX.out.2.2.2.2.1.trans (H4.out.2.mono HX.out.2.2.2.2.1.size))
  have HQ0 := Lib.hid (HX.out.1.under H4.out.2)
  have HQ1 := Lib.hid (HX.out.2.1.under H4.out.2)
  have HQ2 := Lib.hid (HX.out.2.2.1.under H4.out.2)
  have HD := Lib.hid (HX.out.2.2.2.1.under H4.out.2)
  have HE1 : Hid (NRow V4.drew V4.drew.heap.size E1 (endsF secret seed idx (digN m))) := Lib.hid H4.out.1
  clear HX H4
  refine wp_region_held_drew (S := fun Y => VS V4 Y) (by kernel_rfl) (VS.begin V4) (fun hS => ?_)
  (refine held_take (i := 0) (oi := ?ot35) (v := ?vt35) ?at35 (by kernel_rfl) (by kernel_rfl) (by kernel_rfl) ?bt35 ?ct35 ?dt35 (by assumption) ?rt35; (case at35 => (simp only [List.getElem?_toArray, List.getElem?_cons_zero]; rfl)); (case bt35 => exact fun _ _ _ h => h); (case ct35 => kernel_rfl); (case dt35 => (intro W hW; (try dsimp only at hW); go_split_ands; go_simp; (try with_reducible rfl))); (case' rt35 => simp only [Act.put, List.setIfInBounds_toArray, List.set_cons_zero, List.set_cons_succ]))
  (refine held_take (i := 1) (oi := ?ot36) (v := .agg (vec 32 (bys secret))) ?at36 (by kernel_rfl) (by kernel_rfl) (by kernel_rfl) ?bt36 ?ct36 ?dt36 (by assumption) ?rt36; (case at36 => (simp only [List.getElem?_toArray, List.getElem?_cons_zero, List.getElem?_cons_succ]; rfl)); (case bt36 => exact fun _ _ _ h => h); (case ct36 => kernel_rfl); (case dt36 => (intro W hW; exact exec_load 23 _ rfl _ rfl _ (run_load_arr (HQ0.out.under hW) Tryd.underlying23 rfl info26))); (case' rt36 => simp only [Act.put, List.setIfInBounds_toArray, List.set_cons_zero, List.set_cons_succ]))
  (refine held_take (i := 2) (oi := ?ot37) (v := .agg (vec 32 (bys seed))) ?at37 (by kernel_rfl) (by kernel_rfl) (by kernel_rfl) ?bt37 ?ct37 ?dt37 (by assumption) ?rt37; (case at37 => (simp only [List.getElem?_toArray, List.getElem?_cons_zero, List.getElem?_cons_succ]; rfl)); (case bt37 => exact fun _ _ _ h => h); (case ct37 => kernel_rfl); (case dt37 => (intro W hW; exact exec_load 23 _ rfl _ rfl _ (run_load_arr (HQ2.out.under hW) Tryd.underlying23 rfl info26))); (case' rt37 => simp only [Act.put, List.setIfInBounds_toArray, List.set_cons_zero, List.set_cons_succ]))
  (refine held_take (i := 3) (oi := ?ot38) (v := ?vt38) ?at38 (by kernel_rfl) (by kernel_rfl) (by kernel_rfl) ?bt38 ?ct38 ?dt38 (by assumption) ?rt38; (case at38 => (simp only [List.getElem?_toArray, List.getElem?_cons_zero, List.getElem?_cons_succ]; rfl)); (case bt38 => exact fun _ _ _ h => h); (case ct38 => kernel_rfl); (case dt38 => (intro W hW; (try dsimp only at hW); go_split_ands; go_simp; (try with_reducible rfl))); (case' rt38 => simp only [Act.put, List.setIfInBounds_toArray, List.set_cons_zero, List.set_cons_succ]))
  (refine held_take (i := 4) (oi := ?ot39) (v := ?vt39) ?at39 (by kernel_rfl) (by kernel_rfl) (by kernel_rfl) ?bt39 ?ct39 ?dt39 (by assumption) ?rt39; (case at39 => (simp only [List.getElem?_toArray, List.getElem?_cons_zero, List.getElem?_cons_succ]; rfl)); (case bt39 => exact fun _ _ _ h => h); (case ct39 => kernel_rfl); (case dt39 => (intro W hW; (try dsimp only at hW); go_split_ands; go_simp; (try with_reducible rfl))); (case' rt39 => simp only [Act.put, List.setIfInBounds_toArray, List.set_cons_zero, List.set_cons_succ]))
  refine held_one (i := 5) (oi := ?ot40) (by kernel_rfl) ?at40 ?ct40 (fun K5 hK5 => ?_)
  (case at40 => (simp only [List.getElem?_toArray, List.getElem?_cons_zero, List.getElem?_cons_succ]; rfl))
  (case ct40 => kernel_rfl)
  go_simp
  refine (rends_any secret seed idx hidx (digN m) (digN_le m) g _ (HD.out.under hS) (tabs_below HT.out (hS.below0 HB.out))).mono ?_
  rintro e y5 ⟨v, rfl, ho, hd⟩
  obtain ⟨E5, c5, rfl, -, hrow⟩ := ho.row
  have HE5 := Lib.hid hrow
  have HE1 := Lib.hid ((HE1.out.below hd).wide hd.size)
  clear ho hrow
  refine hK5 _ _ (hS.keep hd) (fun hS5 => ?_)
  clear hS hd hK5 K5
  refine held_one (i := 6) (oi := ?ot41) (by kernel_rfl) ?at41 ?ct41 (fun K6 hK6 => ?_)
  (case at41 => (simp only [List.getElem?_toArray, List.getElem?_cons_zero, List.getElem?_cons_succ]; rfl))
  (case ct41 => kernel_rfl)
  go_simp
  refine (same_any E1 E5 c1 c5 (endsF secret seed idx (digN m)) (endsF_le _ _ _ _) _ HE1.out HE5.out).mono ?_
  rintro e y6 ⟨rfl, hd⟩
  have HE1 := Lib.hid ((HE1.out.below hd).wide hd.size)
  refine hK6 _ _ (hS5.keep hd) (fun hS6 => ?_)
  clear hS5 hd hK6 K6
  (refine held_take (i := 7) (oi := ?ot42) (v := ?vt42) ?at42 (by kernel_rfl) (by kernel_rfl) (by kernel_rfl) ?bt42 ?ct42 ?dt42 (by assumption) ?rt42; (case at42 => (simp only [List.getElem?_toArray, List.getElem?_cons_zero, List.getElem?_cons_succ]; rfl)); (case bt42 => exact fun _ _ _ h => h); (case ct42 => kernel_rfl); (case dt42 => (intro W hW; (try dsimp only at hW); go_split_ands; go_simp; (try with_reducible rfl))); (case' rt42 => simp only [Act.put, List.setIfInBounds_toArray, List.set_cons_zero, List.set_cons_succ]))
  (refine held_take (i := 8) (oi := ?ot43) (v := ?vt43) ?at43 (by kernel_rfl) (by kernel_rfl) (by kernel_rfl) ?bt43 ?ct43 ?dt43 (by assumption) ?rt43; (case at43 => (simp only [List.getElem?_toArray, List.getElem?_cons_zero, List.getElem?_cons_succ]; rfl)); (case bt43 => exact fun _ _ _ h => h); (case ct43 => kernel_rfl); (case dt43 => (intro W hW; (try dsimp only at hW); go_split_ands; go_simp; (try with_reducible rfl))); (case' rt43 => simp only [Act.put, List.setIfInBounds_toArray, List.set_cons_zero, List.set_cons_succ]))
  (refine held_take (i := 9) (oi := ?ot44) (v := .agg (vec 32 (bys m))) ?at44 (by kernel_rfl) (by kernel_rfl) (by kernel_rfl) ?bt44 ?ct44 ?dt44 (by assumption) ?rt44; (case at44 => (simp only [List.getElem?_toArray, List.getElem?_cons_zero, List.getElem?_cons_succ]; rfl)); (case bt44 => exact fun _ _ _ h => h); (case ct44 => kernel_rfl); (case dt44 => (intro W hW; exact exec_load 23 _ rfl _ rfl _ (run_load_arr (HQ1.out.under hW) Tryd.underlying23 rfl info26))); (case' rt44 => simp only [Act.put, List.setIfInBounds_toArray, List.set_cons_zero, List.set_cons_succ]))
  (refine held_take (i := 10) (oi := ?ot45) (v := .agg (vec 32 (bys seed))) ?at45 (by kernel_rfl) (by kernel_rfl) (by kernel_rfl) ?bt45 ?ct45 ?dt45 (by assumption) ?rt45; (case at45 => (simp only [List.getElem?_toArray, List.getElem?_cons_zero, List.getElem?_cons_succ]; rfl)); (case bt45 => exact fun _ _ _ h => h); (case ct45 => kernel_rfl); (case dt45 => (intro W hW; exact exec_load 23 _ rfl _ rfl _ (run_load_arr (HQ2.out.under hW) Tryd.underlying23 rfl info26))); (case' rt45 => simp only [Act.put, List.setIfInBounds_toArray, List.set_cons_zero, List.set_cons_succ]))
  (refine held_take (i := 11) (oi := ?ot46) (v := ?vt46) ?at46 (by kernel_rfl) (by kernel_rfl) (by kernel_rfl) ?bt46 ?ct46 ?dt46 (by assumption) ?rt46; (case at46 => (simp only [List.getElem?_toArray, List.getElem?_cons_zero, List.getElem?_cons_succ]; rfl)); (case bt46 => exact fun _ _ _ h => h); (case ct46 => kernel_rfl); (case dt46 => (intro W hW; (try dsimp only at hW); go_split_ands; go_simp; (try with_reducible rfl))); (case' rt46 => simp only [Act.put, List.setIfInBounds_toArray, List.set_cons_zero, List.set_cons_succ]))
  (refine held_take (i := 13) (oi := ?ot47) (v := .agg (vec 32 (bys secret))) ?at47 (by kernel_rfl) (by kernel_rfl) (by kernel_rfl) ?bt47 ?ct47 ?dt47 (by assumption) ?rt47; (case at47 => (simp only [List.getElem?_toArray, List.getElem?_cons_zero, List.getElem?_cons_succ]; rfl)); (case bt47 => exact fun _ _ _ h => h); (case ct47 => kernel_rfl); (case dt47 => (intro W hW; exact exec_load 23 _ rfl _ rfl _ (run_load_arr (HQ0.out.under hW) Tryd.underlying23 rfl info26))); (case' rt47 => simp only [Act.put, List.setIfInBounds_toArray, List.set_cons_zero, List.set_cons_succ]))
  (refine held_take (i := 14) (oi := ?ot48) (v := .agg (vec 32 (bys seed))) ?at48 (by kernel_rfl) (by kernel_rfl) (by kernel_rfl) ?bt48 ?ct48 ?dt48 (by assumption) ?rt48; (case at48 => (simp only [List.getElem?_toArray, List.getElem?_cons_zero, List.getElem?_cons_succ]; rfl)); (case bt48 => exact fun _ _ _ h => h); (case ct48 => kernel_rfl); (case dt48 => (intro W hW; exact exec_load 23 _ rfl _ rfl _ (run_load_arr (HQ2.out.under hW) Tryd.underlying23 rfl info26))); (case' rt48 => simp only [Act.put, List.setIfInBounds_toArray, List.set_cons_zero, List.set_cons_succ]))
  (refine held_take (i := 15) (oi := ?ot49) (v := ?vt49) ?at49 (by kernel_rfl) (by kernel_rfl) (by kernel_rfl) ?bt49 ?ct49 ?dt49 (by assumption) ?rt49; (case at49 => (simp only [List.getElem?_toArray, List.getElem?_cons_zero, List.getElem?_cons_succ]; rfl)); (case bt49 => exact fun _ _ _ h => h); (case ct49 => kernel_rfl); (case dt49 => (intro W hW; (try dsimp only at hW); go_split_ands; go_simp; (try with_reducible rfl))); (case' rt49 => simp only [Act.put, List.setIfInBounds_toArray, List.set_cons_zero, List.set_cons_succ]))
  refine held_one (i := 12) (oi := ?ot50) (by kernel_rfl) ?at50 ?ct50 (fun K12 hK12 => ?_)
  (case at50 => (simp only [List.getElem?_toArray, List.getElem?_cons_zero, List.getElem?_cons_succ]; rfl))
  (case ct50 => kernel_rfl)
  go_simp
  refine (public_any E1 c1 (endsF secret seed idx (digN m)) m seed idx hidx _ HE1.out (tabs_below HT.out (hS6.below0 HB.out))).mono ?_
  rintro e y12 ⟨v, rfl, ho, hd⟩
  rw [publicD_ends] at ho
  obtain ⟨E2, c2, rfl, -, hrow⟩ := ho.row
  have HE2 := Lib.hid hrow
  clear ho hrow
  refine hK12 _ _ (hS6.keep hd) (fun hS12 => ?_)
  clear hS6 hd hK12 K12
  refine held_one (i := 16) (oi := ?ot51) (by kernel_rfl) ?at51 ?ct51 (fun K16 hK16 => ?_)
  (case at51 => (simp only [List.getElem?_toArray, List.getElem?_cons_zero, List.getElem?_cons_succ]; rfl))
  (case ct51 => kernel_rfl)
  go_simp
  refine (key_any secret seed idx hidx _ (tabs_below HT.out (hS12.below0 HB.out))).mono ?_
  rintro e y16 ⟨v, rfl, ho, hd⟩
  obtain ⟨E6, c6, rfl, -, hrow⟩ := ho.row
  have HE6 := Lib.hid hrow
  have HE2 := Lib.hid ((HE2.out.below hd).wide hd.size)
  clear ho hrow
  refine hK16 _ _ (hS12.keep hd) (fun hS16 => ?_)
  clear hS12 hd hK16 K16
  refine held_one (i := 17) (oi := ?ot52) (by kernel_rfl) ?at52 ?ct52 (fun K17 hK17 => ?_)
  (case at52 => (simp only [List.getElem?_toArray, List.getElem?_cons_zero, List.getElem?_cons_succ]; rfl))
  (case ct52 => kernel_rfl)
  go_simp
  refine (same_any E2 E6 c2 c6 (endsF secret seed idx d15) (endsF_le _ _ _ _) _ HE2.out HE6.out).mono ?_
  rintro e y17 ⟨rfl, hd⟩
  refine hK17 _ _ (hS16.keep hd) (fun hS17 => ?_)
  clear hS16 hd hK17 K17
  (refine held_take (i := 18) (oi := ?ot53) (v := ?vt53) ?at53 (by kernel_rfl) (by kernel_rfl) (by kernel_rfl) ?bt53 ?ct53 ?dt53 (by assumption) ?rt53; (case at53 => (simp only [List.getElem?_toArray, List.getElem?_cons_zero, List.getElem?_cons_succ]; rfl)); (case bt53 => exact fun _ _ _ h => h); (case ct53 => kernel_rfl); (case dt53 => (intro W hW; (try dsimp only at hW); go_split_ands; go_simp; (try with_reducible rfl))); (case' rt53 => simp only [Act.put, List.setIfInBounds_toArray, List.set_cons_zero, List.set_cons_succ]))
  (refine held_take (i := 19) (oi := ?ot54) (v := ?vt54) ?at54 (by kernel_rfl) (by kernel_rfl) (by kernel_rfl) ?bt54 ?ct54 ?dt54 (by assumption) ?rt54; (case at54 => (simp only [List.getElem?_toArray, List.getElem?_cons_zero, List.getElem?_cons_succ]; rfl)); (case bt54 => exact fun _ _ _ h => h); (case ct54 => kernel_rfl); (case dt54 => (intro W hW; (try dsimp only at hW); go_split_ands; go_simp; (try with_reducible rfl))); (case' rt54 => simp only [Act.put, List.setIfInBounds_toArray, List.set_cons_zero, List.set_cons_succ]))
  refine wpAnyH_done (by kernel_rfl) ?_ _
  go_wp2
  go_ret
  exact ⟨rfl, hS17.below0 HB.out⟩
end Go.Proofs.YtepgndgelfkcnaaDoor
