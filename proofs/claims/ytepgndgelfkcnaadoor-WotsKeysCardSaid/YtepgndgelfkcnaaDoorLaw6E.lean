/- The walk of WotsKeys. -/
import Derived.Test.YtepgndgelfkcnaaDoorWt
import Derived.Test.YtepgndgelfkcnaaDoorWd
namespace Go.Proofs.YtepgndgelfkcnaaDoor
open Go.RowKit
attribute [local go_sem ↓ high] zeroV26 zeroV67

set_option maxHeartbeats 1000000 in
set_option maxRecDepth 100000 in
theorem wotsKeys_walk (secret seed : Nat → UInt8) (idx : Nat) (chain : Int) (w : World) (hidx : idx < 4294967296) (_bc : -9223372036854775808 ≤ chain ∧ chain ≤ 9223372036854775807) (hT : Tabs w) :
    Calls Tryd.prog 7 #[.agg (vec 32 (bys secret)), .agg (vec 32 (bys seed)), .int .u32 (idx : Int), .int .i64 chain] w fun e w' => e = .returned (.bool true) ∧ Below w.heap.size w w' := by
  obtain ⟨V, hV⟩ : ∃ V, V = (w.alloc (.cells (vec 32 (bys secret)) 23)).alloc (.cells (vec 32 (bys seed)) 23) := ⟨_, rfl⟩
  have hA0 : Arr V w.heap.size 23 32 (bys secret) := by rw [hV]; exact ((Arr.newAt _ _ _ _ (by simp)).alloc _)
  have hA1 : Arr V (w.heap.size + 1) 23 32 (bys seed) := by rw [hV]; exact (Arr.newAt _ _ _ _ (by simp))
  have hB : Below w.heap.size w V := by rw [hV]; exact (((Below.refl _ _).alloc (by simp <;> omega) _).alloc (by simp <;> omega) _)
  have HB0 := Lib.hid hB
  have HT := Lib.hid hT
  have HP0 := Lib.hid hA0
  have HP1 := Lib.hid hA1
  have HW := Lib.hid hV
  clear hV hB hT hA0 hA1
  go_enter Tryd.func7, Tryd.ntmps7
  go_upto_region 1 with fail
  rw [← HW.out]
  clear HW
  go_upto_region 3 with (go_at_call 8; refine (awake6_any _).mono ?_; rintro e V1 ⟨rfl, hd⟩; have HD := Lib.hid hd; clear hd)
  have HB := Lib.hid (HB0.out.trans (HD.out.mono HB0.out.size))
  have HQ0 := Lib.hid (HP0.out.under HD.out)
  have HQ1 := Lib.hid (HP1.out.under HD.out)
  clear HB0 HD HP0 HP1
  refine wp_region_held_drew (S := fun Y => VS V1 Y) (by kernel_rfl) (VS.begin V1) (fun hS => ?_)
  (refine held_take (i := 0) (oi := ?ot55) (v := .agg (vec 32 (bys secret))) ?at55 (by kernel_rfl) (by kernel_rfl) (by kernel_rfl) ?bt55 ?ct55 ?dt55 (by assumption) ?rt55; (case at55 => (simp only [List.getElem?_toArray, List.getElem?_cons_zero]; rfl)); (case bt55 => exact fun _ _ _ h => h); (case ct55 => kernel_rfl); (case dt55 => (intro W hW; exact exec_load 23 _ rfl _ rfl _ (run_load_arr (HQ0.out.under hW) Tryd.underlying23 rfl info26))); (case' rt55 => simp only [Act.put, List.setIfInBounds_toArray, List.set_cons_zero, List.set_cons_succ]))
  (refine held_take (i := 1) (oi := ?ot56) (v := ?vt56) ?at56 (by kernel_rfl) (by kernel_rfl) (by kernel_rfl) ?bt56 ?ct56 ?dt56 (by assumption) ?rt56; (case at56 => (simp only [List.getElem?_toArray, List.getElem?_cons_zero, List.getElem?_cons_succ]; rfl)); (case bt56 => exact fun _ _ _ h => h); (case ct56 => kernel_rfl); (case dt56 => (intro W hW; (try dsimp only at hW); go_split_ands; go_simp; (try with_reducible rfl))); (case' rt56 => simp only [Act.put, List.setIfInBounds_toArray, List.set_cons_zero, List.set_cons_succ]))
  (refine held_take (i := 2) (oi := ?ot57) (v := ?vt57) ?at57 (by kernel_rfl) (by kernel_rfl) (by kernel_rfl) ?bt57 ?ct57 ?dt57 (by assumption) ?rt57; (case at57 => (simp only [List.getElem?_toArray, List.getElem?_cons_zero, List.getElem?_cons_succ]; rfl)); (case bt57 => exact fun _ _ _ h => h); (case ct57 => kernel_rfl); (case dt57 => (intro W hW; (try dsimp only at hW); go_split_ands; go_simp; (try with_reducible rfl))); (case' rt57 => simp only [Act.put, List.setIfInBounds_toArray, List.set_cons_zero, List.set_cons_succ]))
  (refine held_take (i := 4) (oi := ?ot58) (v := .agg (vec 32 (bys secret))) ?at58 (by kernel_rfl) (by kernel_rfl) (by kernel_rfl) ?bt58 ?ct58 ?dt58 (by assumption) ?rt58; (case at58 => (simp only [List.getElem?_toArray, List.getElem?_cons_zero, List.getElem?_cons_succ]; rfl)); (case bt58 => exact fun _ _ _ h => h); (case ct58 => kernel_rfl); (case dt58 => (intro W hW; exact exec_load 23 _ rfl _ rfl _ (run_load_arr (HQ0.out.under hW) Tryd.underlying23 rfl info26))); (case' rt58 => simp only [Act.put, List.setIfInBounds_toArray, List.set_cons_zero, List.set_cons_succ]))
  (refine held_take (i := 5) (oi := ?ot59) (v := ?vt59) ?at59 (by kernel_rfl) (by kernel_rfl) (by kernel_rfl) ?bt59 ?ct59 ?dt59 (by assumption) ?rt59; (case at59 => (simp only [List.getElem?_toArray, List.getElem?_cons_zero, List.getElem?_cons_succ]; rfl)); (case bt59 => exact fun _ _ _ h => h); (case ct59 => kernel_rfl); (case dt59 => (intro W hW; (try dsimp only at hW); go_split_ands; go_simp; (try with_reducible rfl))); (case' rt59 => simp only [Act.put, List.setIfInBounds_toArray, List.set_cons_zero, List.set_cons_succ]))
  (refine held_take (i := 6) (oi := ?ot60) (v := ?vt60) ?at60 (by kernel_rfl) (by kernel_rfl) (by kernel_rfl) ?bt60 ?ct60 ?dt60 (by assumption) ?rt60; (case at60 => (simp only [List.getElem?_toArray, List.getElem?_cons_zero, List.getElem?_cons_succ]; rfl)); (case bt60 => exact fun _ _ _ h => h); (case ct60 => kernel_rfl); (case dt60 => (intro W hW; (try dsimp only at hW); go_split_ands; go_simp; (try with_reducible rfl))); (case' rt60 => simp only [Act.put, List.setIfInBounds_toArray, List.set_cons_zero, List.set_cons_succ]))
  refine held_one (i := 3) (oi := ?ot61) (by kernel_rfl) ?at61 ?ct61 (fun K3 hK3 => ?_)
  (case at61 => (simp only [List.getElem?_toArray, List.getElem?_cons_zero, List.getElem?_cons_succ]; rfl))
  (case ct61 => kernel_rfl)
  go_simp
  refine (secret_any secret idx hidx chain _ (tabs_below HT.out (hS.below0 HB.out))).mono ?_
  rintro e y3 ⟨rfl, hd⟩
  refine hK3 _ _ (hS.keep hd) (fun hS3 => ?_)
  clear hS hd hK3 K3
  refine held_one (i := 7) (oi := ?ot62) (by kernel_rfl) ?at62 ?ct62 (fun K7 hK7 => ?_)
  (case at62 => (simp only [List.getElem?_toArray, List.getElem?_cons_zero, List.getElem?_cons_succ]; rfl))
  (case ct62 => kernel_rfl)
  go_simp
  refine (rsecret_any secret idx hidx chain _ (tabs_below HT.out (hS3.below0 HB.out))).mono ?_
  rintro e y7 ⟨rfl, hd⟩
  refine hK7 _ _ (hS3.keep hd) (fun hS7 => ?_)
  clear hS3 hd hK7 K7
  (refine held_take (i := 8) (oi := ?ot63) (v := .bool true) ?at63 (by kernel_rfl) (by kernel_rfl) (by kernel_rfl) ?bt63 ?ct63 ?dt63 (by assumption) ?rt63; (case at63 => (simp only [List.getElem?_toArray, List.getElem?_cons_zero, List.getElem?_cons_succ]; rfl)); (case bt63 => exact fun _ _ _ h => h); (case ct63 => kernel_rfl); (case dt63 => (intro W hW; exact exec_eql32 _ _ _ rfl (secretF secret idx chain) rfl rfl W)); (case' rt63 => simp only [Act.put, List.setIfInBounds_toArray, List.set_cons_zero, List.set_cons_succ]))
  (refine held_take (i := 9) (oi := ?ot64) (v := ?vt64) ?at64 (by kernel_rfl) (by kernel_rfl) (by kernel_rfl) ?bt64 ?ct64 ?dt64 (by assumption) ?rt64; (case at64 => (simp only [List.getElem?_toArray, List.getElem?_cons_zero, List.getElem?_cons_succ]; rfl)); (case bt64 => exact fun _ _ _ h => h); (case ct64 => kernel_rfl); (case dt64 => (intro W hW; (try dsimp only at hW); go_split_ands; go_simp; (try with_reducible rfl))); (case' rt64 => simp only [Act.put, List.setIfInBounds_toArray, List.set_cons_zero, List.set_cons_succ]))
  (refine held_take (i := 10) (oi := ?ot65) (v := .agg (vec 32 (bys secret))) ?at65 (by kernel_rfl) (by kernel_rfl) (by kernel_rfl) ?bt65 ?ct65 ?dt65 (by assumption) ?rt65; (case at65 => (simp only [List.getElem?_toArray, List.getElem?_cons_zero, List.getElem?_cons_succ]; rfl)); (case bt65 => exact fun _ _ _ h => h); (case ct65 => kernel_rfl); (case dt65 => (intro W hW; exact exec_load 23 _ rfl _ rfl _ (run_load_arr (HQ0.out.under hW) Tryd.underlying23 rfl info26))); (case' rt65 => simp only [Act.put, List.setIfInBounds_toArray, List.set_cons_zero, List.set_cons_succ]))
  (refine held_take (i := 11) (oi := ?ot66) (v := .agg (vec 32 (bys seed))) ?at66 (by kernel_rfl) (by kernel_rfl) (by kernel_rfl) ?bt66 ?ct66 ?dt66 (by assumption) ?rt66; (case at66 => (simp only [List.getElem?_toArray, List.getElem?_cons_zero, List.getElem?_cons_succ]; rfl)); (case bt66 => exact fun _ _ _ h => h); (case ct66 => kernel_rfl); (case dt66 => (intro W hW; exact exec_load 23 _ rfl _ rfl _ (run_load_arr (HQ1.out.under hW) Tryd.underlying23 rfl info26))); (case' rt66 => simp only [Act.put, List.setIfInBounds_toArray, List.set_cons_zero, List.set_cons_succ]))
  (refine held_take (i := 12) (oi := ?ot67) (v := ?vt67) ?at67 (by kernel_rfl) (by kernel_rfl) (by kernel_rfl) ?bt67 ?ct67 ?dt67 (by assumption) ?rt67; (case at67 => (simp only [List.getElem?_toArray, List.getElem?_cons_zero, List.getElem?_cons_succ]; rfl)); (case bt67 => exact fun _ _ _ h => h); (case ct67 => kernel_rfl); (case dt67 => (intro W hW; (try dsimp only at hW); go_split_ands; go_simp; (try with_reducible rfl))); (case' rt67 => simp only [Act.put, List.setIfInBounds_toArray, List.set_cons_zero, List.set_cons_succ]))
  (refine held_take (i := 14) (oi := ?ot68) (v := .agg (vec 32 (bys secret))) ?at68 (by kernel_rfl) (by kernel_rfl) (by kernel_rfl) ?bt68 ?ct68 ?dt68 (by assumption) ?rt68; (case at68 => (simp only [List.getElem?_toArray, List.getElem?_cons_zero, List.getElem?_cons_succ]; rfl)); (case bt68 => exact fun _ _ _ h => h); (case ct68 => kernel_rfl); (case dt68 => (intro W hW; exact exec_load 23 _ rfl _ rfl _ (run_load_arr (HQ0.out.under hW) Tryd.underlying23 rfl info26))); (case' rt68 => simp only [Act.put, List.setIfInBounds_toArray, List.set_cons_zero, List.set_cons_succ]))
  (refine held_take (i := 15) (oi := ?ot69) (v := .agg (vec 32 (bys seed))) ?at69 (by kernel_rfl) (by kernel_rfl) (by kernel_rfl) ?bt69 ?ct69 ?dt69 (by assumption) ?rt69; (case at69 => (simp only [List.getElem?_toArray, List.getElem?_cons_zero, List.getElem?_cons_succ]; rfl)); (case bt69 => exact fun _ _ _ h => h); (case ct69 => kernel_rfl); (case dt69 => (intro W hW; exact exec_load 23 _ rfl _ rfl _ (run_load_arr (HQ1.out.under hW) Tryd.underlying23 rfl info26))); (case' rt69 => simp only [Act.put, List.setIfInBounds_toArray, List.set_cons_zero, List.set_cons_succ]))
  (refine held_take (i := 16) (oi := ?ot70) (v := ?vt70) ?at70 (by kernel_rfl) (by kernel_rfl) (by kernel_rfl) ?bt70 ?ct70 ?dt70 (by assumption) ?rt70; (case at70 => (simp only [List.getElem?_toArray, List.getElem?_cons_zero, List.getElem?_cons_succ]; rfl)); (case bt70 => exact fun _ _ _ h => h); (case ct70 => kernel_rfl); (case dt70 => (intro W hW; (try dsimp only at hW); go_split_ands; go_simp; (try with_reducible rfl))); (case' rt70 => simp only [Act.put, List.setIfInBounds_toArray, List.set_cons_zero, List.set_cons_succ]))
  refine held_one (i := 13) (oi := ?ot71) (by kernel_rfl) ?at71 ?ct71 (fun K13 hK13 => ?_)
  (case at71 => (simp only [List.getElem?_toArray, List.getElem?_cons_zero, List.getElem?_cons_succ]; rfl))
  (case ct71 => kernel_rfl)
  go_simp
  refine (key_any secret seed idx hidx _ (tabs_below HT.out (hS7.below0 HB.out))).mono ?_
  rintro e y13 ⟨v, rfl, ho, hd⟩
  obtain ⟨E1, c1, rfl, -, hrow⟩ := ho.row
  have HE1 := Lib.hid hrow
  clear ho hrow
  refine hK13 _ _ (hS7.keep hd) (fun hS13 => ?_)
  clear hS7 hd hK13 K13
  refine held_one (i := 17) (oi := ?ot72) (by kernel_rfl) ?at72 ?ct72 (fun K17 hK17 => ?_)
  (case at72 => (simp only [List.getElem?_toArray, List.getElem?_cons_zero, List.getElem?_cons_succ]; rfl))
  (case ct72 => kernel_rfl)
  go_simp
  refine (rends_nil secret seed idx hidx _ (tabs_below HT.out (hS13.below0 HB.out))).mono ?_
  rintro e y17 ⟨v, rfl, ho, hd⟩
  obtain ⟨E2, c2, rfl, -, hrow⟩ := ho.row
  have HE2 := Lib.hid hrow
  have HE1 := Lib.hid ((HE1.out.below hd).wide hd.size)
  clear ho hrow
  refine hK17 _ _ (hS13.keep hd) (fun hS17 => ?_)
  clear hS13 hd hK17 K17
  refine held_one (i := 18) (oi := ?ot73) (by kernel_rfl) ?at73 ?ct73 (fun K18 hK18 => ?_)
  (case at73 => (simp only [List.getElem?_toArray, List.getElem?_cons_zero, List.getElem?_cons_succ]; rfl))
  (case ct73 => kernel_rfl)
  go_simp
  refine (same_any E1 E2 c1 c2 (endsF secret seed idx d15) (by rw [endsF_length]; decide) _ HE1.out HE2.out).mono ?_
  rintro e y18 ⟨rfl, hd⟩
  refine hK18 _ _ (hS17.keep hd) (fun hS18 => ?_)
  clear hS17 hd hK18 K18
  (refine held_take (i := 19) (oi := ?ot74) (v := ?vt74) ?at74 (by kernel_rfl) (by kernel_rfl) (by kernel_rfl) ?bt74 ?ct74 ?dt74 (by assumption) ?rt74; (case at74 => (simp only [List.getElem?_toArray, List.getElem?_cons_zero, List.getElem?_cons_succ]; rfl)); (case bt74 => exact fun _ _ _ h => h); (case ct74 => kernel_rfl); (case dt74 => (intro W hW; (try dsimp only at hW); go_split_ands; go_simp; (try with_reducible rfl))); (case' rt74 => simp only [Act.put, List.setIfInBounds_toArray, List.set_cons_zero, List.set_cons_succ]))
  (refine held_take (i := 20) (oi := ?ot75) (v := ?vt75) ?at75 (by kernel_rfl) (by kernel_rfl) (by kernel_rfl) ?bt75 ?ct75 ?dt75 (by assumption) ?rt75; (case at75 => (simp only [List.getElem?_toArray, List.getElem?_cons_zero, List.getElem?_cons_succ]; rfl)); (case bt75 => exact fun _ _ _ h => h); (case ct75 => kernel_rfl); (case dt75 => (intro W hW; (try dsimp only at hW); go_split_ands; go_simp; (try with_reducible rfl))); (case' rt75 => simp only [Act.put, List.setIfInBounds_toArray, List.set_cons_zero, List.set_cons_succ]))
  refine wpAnyH_done (by kernel_rfl) ?_ _
  go_wp2
  go_ret
  exact ⟨rfl, hS18.below0 HB.out⟩
end Go.Proofs.YtepgndgelfkcnaaDoor
