/- The walks of WotsDigits, WotsUnlike. -/
import Derived.BigQuiet
import Derived.Deep.QuietTactic
import Derived.Deep.CutRange
import Derived.Test.YtepgndgelfkcnaaVs
import Derived.Test.YtepgndgelfkcnaaAwake6
import Derived.Test.YtepgndgelfkcnaaHeld3
namespace Go.Proofs.Ytepgndgelfkcnaa
open Go.RowKit
attribute [local go_sem ↓ high] zeroV26 zeroV67

set_option maxHeartbeats 1000000 in
set_option maxRecDepth 100000 in
theorem wotsDigits_walk (m : Nat → UInt8) (w : World) :
    Calls Try.prog 3 #[.agg (vec 32 (bys m))] w fun e w' => e = .returned (.bool true) ∧ Below w.heap.size w w' := by
  obtain ⟨V, hV⟩ : ∃ V, V = w.alloc (.cells (vec 32 (bys m)) 23) := ⟨_, rfl⟩
  have hA0 : Arr V w.heap.size 23 32 (bys m) := by rw [hV]; exact (Arr.newAt _ _ _ _ (by simp))
  have hB : Below w.heap.size w V := by rw [hV]; exact ((Below.refl _ _).alloc (by simp <;> omega) _)
  have HB0 := Lib.hid hB
  have HP0 := Lib.hid hA0
  have HW := Lib.hid hV
  clear hV hB hA0
  go_enter Try.func3, Try.ntmps3
  go_upto_region 1 with fail
  rw [← HW.out]
  clear HW
  go_upto_region 3 with (go_at_call 5; refine (awake6_any _).mono ?_; rintro e V1 ⟨rfl, hd⟩; have HD := Lib.hid hd; clear hd)
  have HB := Lib.hid (HB0.out.trans (HD.out.mono HB0.out.size))
  have HQ0 := Lib.hid (HP0.out.under HD.out)
  clear HB0 HD HP0
  refine wp_region_held_drew (S := fun Y => VS V1 Y) (by kernel_rfl) (VS.begin V1) (fun hS => ?_)
  (refine held_take (i := 0) (oi := ?ot1) (v := .agg (vec 32 (bys m))) ?at1 (by kernel_rfl) (by kernel_rfl) (by kernel_rfl) ?bt1 ?ct1 ?dt1 (by assumption) ?rt1; (case at1 => (simp only [List.getElem?_toArray, List.getElem?_cons_zero]; rfl)); (case bt1 => exact fun _ _ _ h => h); (case ct1 => kernel_rfl); (case dt1 => (intro W hW; exact exec_load 23 _ rfl _ rfl _ (run_load_arr (HQ0.out.under hW) Try.underlying23 rfl info26))); (case' rt1 => simp only [Act.put, List.setIfInBounds_toArray, List.set_cons_zero, List.set_cons_succ]))
  (refine held_take (i := 2) (oi := ?ot2) (v := .agg (vec 32 (bys m))) ?at2 (by kernel_rfl) (by kernel_rfl) (by kernel_rfl) ?bt2 ?ct2 ?dt2 (by assumption) ?rt2; (case at2 => (simp only [List.getElem?_toArray, List.getElem?_cons_zero, List.getElem?_cons_succ]; rfl)); (case bt2 => exact fun _ _ _ h => h); (case ct2 => kernel_rfl); (case dt2 => (intro W hW; exact exec_load 23 _ rfl _ rfl _ (run_load_arr (HQ0.out.under hW) Try.underlying23 rfl info26))); (case' rt2 => simp only [Act.put, List.setIfInBounds_toArray, List.set_cons_zero, List.set_cons_succ]))
  refine held_one (i := 1) (oi := ?ot3) (by kernel_rfl) ?at3 ?ct3 (fun K1 hK1 => ?_)
  (case at3 => (simp only [List.getElem?_toArray, List.getElem?_cons_zero, List.getElem?_cons_succ]; rfl))
  (case ct3 => kernel_rfl)
  go_simp
  refine (digitsW_any m _).mono ?_
  rintro e y1 ⟨rfl, hd⟩
  refine hK1 _ _ (hS.keep hd) (fun hS1 => ?_)
  clear hS hd hK1 K1
  refine held_one (i := 3) (oi := ?ot4) (by kernel_rfl) ?at4 ?ct4 (fun K3 hK3 => ?_)
  (case at4 => (simp only [List.getElem?_toArray, List.getElem?_cons_zero, List.getElem?_cons_succ]; rfl))
  (case ct4 => kernel_rfl)
  go_simp
  refine (rdigits_any m _).mono ?_
  rintro e y3 ⟨rfl, hd⟩
  refine hK3 _ _ (hS1.keep hd) (fun hS3 => ?_)
  clear hS1 hd hK3 K3
  (refine held_take (i := 4) (oi := ?ot5) (v := .bool true) ?at5 (by kernel_rfl) (by kernel_rfl) (by kernel_rfl) ?bt5 ?ct5 ?dt5 (by assumption) ?rt5; (case at5 => (simp only [List.getElem?_toArray, List.getElem?_cons_zero, List.getElem?_cons_succ]; rfl)); (case bt5 => exact fun _ _ _ h => h); (case ct5 => kernel_rfl); (case dt5 => (intro W hW; exact exec_eql67 _ _ _ rfl (digN m) rfl rfl W)); (case' rt5 => simp only [Act.put, List.setIfInBounds_toArray, List.set_cons_zero, List.set_cons_succ]))
  (refine held_take (i := 5) (oi := ?ot6) (v := ?vt6) ?at6 (by kernel_rfl) (by kernel_rfl) (by kernel_rfl) ?bt6 ?ct6 ?dt6 (by assumption) ?rt6; (case at6 => (simp only [List.getElem?_toArray, List.getElem?_cons_zero, List.getElem?_cons_succ]; rfl)); (case bt6 => exact fun _ _ _ h => h); (case ct6 => kernel_rfl); (case dt6 => (intro W hW; (try dsimp only at hW); go_split_ands; go_simp; (try with_reducible rfl))); (case' rt6 => simp only [Act.put, List.setIfInBounds_toArray, List.set_cons_zero, List.set_cons_succ]))
  refine wpAnyH_done (by kernel_rfl) ?_ _
  go_wp2
  go_ret
  exact ⟨rfl, hS3.below0 HB.out⟩

set_option maxHeartbeats 1000000 in
set_option maxRecDepth 100000 in
theorem wotsUnlike_walk (m n : Nat → UInt8) (w : World) :
    Calls Try.prog 4 #[.agg (vec 32 (bys m)), .agg (vec 32 (bys n))] w fun e w' => e = .returned (.bool true) ∧ Below w.heap.size w w' := by
  obtain ⟨V, hV⟩ : ∃ V, V = (w.alloc (.cells (vec 32 (bys m)) 23)).alloc (.cells (vec 32 (bys n)) 23) := ⟨_, rfl⟩
  have hA0 : Arr V w.heap.size 23 32 (bys m) := by rw [hV]; exact ((Arr.newAt _ _ _ _ (by simp)).alloc _)
  have hA1 : Arr V (w.heap.size + 1) 23 32 (bys n) := by rw [hV]; exact (Arr.newAt _ _ _ _ (by simp))
  have hB : Below w.heap.size w V := by rw [hV]; exact (((Below.refl _ _).alloc (by simp <;> omega) _).alloc (by simp <;> omega) _)
  have HB0 := Lib.hid hB
  have HP0 := Lib.hid hA0
  have HP1 := Lib.hid hA1
  have HW := Lib.hid hV
  clear hV hB hA0 hA1
  go_enter Try.func4, Try.ntmps4
  go_upto_region 1 with fail
  rw [← HW.out]
  clear HW
  go_upto_region 3 with (go_at_call 5; refine (awake6_any _).mono ?_; rintro e V1 ⟨rfl, hd⟩; have HD := Lib.hid hd; clear hd)
  have HB := Lib.hid (HB0.out.trans (HD.out.mono HB0.out.size))
  have HQ0 := Lib.hid (HP0.out.under HD.out)
  have HQ1 := Lib.hid (HP1.out.under HD.out)
  clear HB0 HD HP0 HP1
  go_cut [5, 6] from 11 to 14 (fun s5 s6 wx => ∃ g5 g6 : Nat, s5 = .pointer (some ⟨g5, 0, none⟩) ∧ s6 = .pointer (some ⟨g6, 0, none⟩) ∧ Hid (Arr wx g5 25 67 (ints (digN m)) ∧ Arr wx g6 25 67 (ints (digN n)) ∧ VS V1 wx))
  case first =>
    refine wp_region_held_drew (S := fun Y => VS V1 Y) (by kernel_rfl) (VS.begin V1) (fun hS => ?_)
    (refine held_take (i := 0) (oi := ?ot7) (v := .agg (vec 32 (bys m))) ?at7 (by kernel_rfl) (by kernel_rfl) (by kernel_rfl) ?bt7 ?ct7 ?dt7 (by assumption) ?rt7; (case at7 => (simp only [List.getElem?_toArray, List.getElem?_cons_zero]; rfl)); (case bt7 => exact fun _ _ _ h => h); (case ct7 => kernel_rfl); (case dt7 => (intro W hW; exact exec_load 23 _ rfl _ rfl _ (run_load_arr (HQ0.out.under hW) Try.underlying23 rfl info26))); (case' rt7 => simp only [Act.put, List.setIfInBounds_toArray, List.set_cons_zero, List.set_cons_succ]))
    (refine held_take (i := 2) (oi := ?ot8) (v := .agg (vec 32 (bys n))) ?at8 (by kernel_rfl) (by kernel_rfl) (by kernel_rfl) ?bt8 ?ct8 ?dt8 (by assumption) ?rt8; (case at8 => (simp only [List.getElem?_toArray, List.getElem?_cons_zero, List.getElem?_cons_succ]; rfl)); (case bt8 => exact fun _ _ _ h => h); (case ct8 => kernel_rfl); (case dt8 => (intro W hW; exact exec_load 23 _ rfl _ rfl _ (run_load_arr (HQ1.out.under hW) Try.underlying23 rfl info26))); (case' rt8 => simp only [Act.put, List.setIfInBounds_toArray, List.set_cons_zero, List.set_cons_succ]))
    refine held_three (i := 1) (j := 4) (k := 5) (oi := ?oit55) (oj := ?ojt55) (ok := ?okt55) (by kernel_rfl) ?ait55 ?ajt55 ?akt55 ?cit55 ?cjt55 ?ckt55 (fun K1 hK1 => ?hit55) (fun K4 hK4 => ?hjt55) (fun K5 hK5 => ?hkt55)
    (case ait55 => (simp only [List.getElem?_toArray, List.getElem?_cons_zero, List.getElem?_cons_succ]; rfl))
    (case ajt55 => (simp only [List.getElem?_toArray, List.getElem?_cons_zero, List.getElem?_cons_succ]; rfl))
    (case akt55 => (simp only [List.getElem?_toArray, List.getElem?_cons_zero, List.getElem?_cons_succ]; rfl))
    (case cit55 => kernel_rfl)
    (case cjt55 => kernel_rfl)
    (case ckt55 => kernel_rfl)
    case hit55 =>
      go_simp
      refine (digitsW_any m _).mono ?_
      rintro e y1 ⟨rfl, hd⟩
      refine hK1 _ _ (hS.keep hd) (fun hS1 => ?_)
      clear hd hK1 K1
      refine held_three (i := 3) (j := 4) (k := 5) (oi := ?oit30) (oj := ?ojt30) (ok := ?okt30) (by kernel_rfl) ?ait30 ?ajt30 ?akt30 ?cit30 ?cjt30 ?ckt30 (fun K3 hK3 => ?hit30) (fun K4 hK4 => ?hjt30) (fun K5 hK5 => ?hkt30)
      (case ait30 => (simp only [List.getElem?_toArray, List.getElem?_cons_zero, List.getElem?_cons_succ]; rfl))
      (case ajt30 => (simp only [List.getElem?_toArray, List.getElem?_cons_zero, List.getElem?_cons_succ]; rfl))
      (case akt30 => (simp only [List.getElem?_toArray, List.getElem?_cons_zero, List.getElem?_cons_succ]; rfl))
      (case cit30 => kernel_rfl)
      (case cjt30 => kernel_rfl)
      (case ckt30 => kernel_rfl)
      case hit30 =>
        go_simp
        refine (digitsW_any n _).mono ?_
        rintro e y3 ⟨rfl, hd⟩
        refine hK3 _ _ (hS1.keep hd) (fun hS3 => ?_)
        clear hd hK3 K3
        refine held_two (i := 4) (j := 5) (oi := ?oit15) (oj := ?ojt15) (by kernel_rfl) ?ait15 ?ajt15 ?cit15 ?cjt15 (fun K4 hK4 => ?hit15) (fun K5 hK5 => ?hjt15)
        (case ait15 => (simp only [List.getElem?_toArray, List.getElem?_cons_zero, List.getElem?_cons_succ]; rfl))
        (case ajt15 => (simp only [List.getElem?_toArray, List.getElem?_cons_zero, List.getElem?_cons_succ]; rfl))
        (case cit15 => kernel_rfl)
        (case cjt15 => kernel_rfl)
        case hit15 =>
          have hSb := hS3
          go_simp
          refine hK4 _ _ (hSb.keep ((Below.refl _ _).alloc (Nat.le_refl _) _)) (fun hS4 => ?_)
          clear hK4 K4
          have HG4 : Hid (V1.heap.size ≤ y3.heap.size) := Lib.hid (by have := (show Below _ _ _ from hS3).size; first | omega | (simp at this ⊢ <;> omega))
          have HP4 : Hid (Arr (y3.alloc (.cells (vec 67 (ints z67)) 25)) (y3.heap.size) 25 67 (ints z67)) := Lib.hid (Arr.newAt _ _ _ _ (by simp))
          refine held_one (i := 5) (oi := ?ot9) (by kernel_rfl) ?at9 ?ct9 (fun K5 hK5 => ?_)
          (case at9 => (simp only [List.getElem?_toArray, List.getElem?_cons_zero, List.getElem?_cons_succ]; rfl))
          (case ct9 => kernel_rfl)
          have hSb := hS4
          go_simp
          refine hK5 _ _ (hSb.keep ((Below.refl _ _).alloc (Nat.le_refl _) _)) (fun hS5 => ?_)
          clear hK5 K5
          have HG5 : Hid (V1.heap.size ≤ y3.heap.size + 1) := Lib.hid (by have := (show Below _ _ _ from hS4).size; first | omega | (simp at this ⊢ <;> omega))
          have HN : Hid (y3.heap.size ≠ y3.heap.size + 1) := Lib.hid (by have := HP4.out.lt; first | omega | (simp at this <;> omega))
          have HP4 := Lib.hid (HP4.out.alloc (.cells (vec 67 (ints z67)) 25))
          have HP5 : Hid (Arr ((y3.alloc (.cells (vec 67 (ints z67)) 25)).alloc (.cells (vec 67 (ints z67)) 25)) (y3.heap.size + 1) 25 67 (ints z67)) := Lib.hid (Arr.newAt _ _ _ _ (by simp))
          refine held_one (i := 6) (oi := ?ot10) (by kernel_rfl) ?at10 ?ct10 (fun K6 hK6 => ?_)
          (case at10 => (simp only [List.getElem?_toArray, List.getElem?_cons_zero, List.getElem?_cons_succ]; rfl))
          (case ct10 => kernel_rfl)
          refine ow_store 25 _ _ rfl _ rfl _ rfl (run_store_arr HP4.out (ints (digN m)) info67 (ints_one _ _)) ?_
          refine hK6 _ _ (below_row hS5 HG4.out _) (fun hS6 => ?_)
          clear hK6 K6
          refine held_one (i := 7) (oi := ?ot11) (by kernel_rfl) ?at11 ?ct11 (fun K7 hK7 => ?_)
          (case at11 => (simp only [List.getElem?_toArray, List.getElem?_cons_zero, List.getElem?_cons_succ]; rfl))
          (case ct11 => kernel_rfl)
          refine ow_store 25 _ _ rfl _ rfl _ rfl (run_store_arr (HP5.out.rowFar HN.out.symm _) (ints (digN n)) info67 (ints_one _ _)) ?_
          refine hK7 _ _ (below_row hS6 HG5.out _) (fun hS7 => ?_)
          clear hK7 K7
          refine wpAnyH_done (by kernel_rfl) ?_ _
          go_wp2_with fail
          go_meet
          case rel => exact ⟨_, _, rfl, rfl, Lib.hid ⟨(HP4.out.row _).rowFar HN.out _, (HP5.out.rowFar HN.out.symm _).row _, hS7⟩⟩
        case hjt15 =>
          have hSb := hS3
          go_simp
          refine hK5 _ _ (hSb.keep ((Below.refl _ _).alloc (Nat.le_refl _) _)) (fun hS5 => ?_)
          clear hK5 K5
          have HG5 : Hid (V1.heap.size ≤ y3.heap.size) := Lib.hid (by have := (show Below _ _ _ from hS3).size; first | omega | (simp at this ⊢ <;> omega))
          have HP5 : Hid (Arr (y3.alloc (.cells (vec 67 (ints z67)) 25)) (y3.heap.size) 25 67 (ints z67)) := Lib.hid (Arr.newAt _ _ _ _ (by simp))
          refine held_one (i := 4) (oi := ?ot12) (by kernel_rfl) ?at12 ?ct12 (fun K4 hK4 => ?_)
          (case at12 => (simp only [List.getElem?_toArray, List.getElem?_cons_zero, List.getElem?_cons_succ]; rfl))
          (case ct12 => kernel_rfl)
          have hSb := hS5
          go_simp
          refine hK4 _ _ (hSb.keep ((Below.refl _ _).alloc (Nat.le_refl _) _)) (fun hS4 => ?_)
          clear hK4 K4
          have HG4 : Hid (V1.heap.size ≤ y3.heap.size + 1) := Lib.hid (by have := (show Below _ _ _ from hS5).size; first | omega | (simp at this ⊢ <;> omega))
          have HN : Hid (y3.heap.size + 1 ≠ y3.heap.size) := Lib.hid (by have := HP5.out.lt; first | omega | (simp at this <;> omega))
          have HP5 := Lib.hid (HP5.out.alloc (.cells (vec 67 (ints z67)) 25))
          have HP4 : Hid (Arr ((y3.alloc (.cells (vec 67 (ints z67)) 25)).alloc (.cells (vec 67 (ints z67)) 25)) (y3.heap.size + 1) 25 67 (ints z67)) := Lib.hid (Arr.newAt _ _ _ _ (by simp))
          refine held_one (i := 6) (oi := ?ot13) (by kernel_rfl) ?at13 ?ct13 (fun K6 hK6 => ?_)
          (case at13 => (simp only [List.getElem?_toArray, List.getElem?_cons_zero, List.getElem?_cons_succ]; rfl))
          (case ct13 => kernel_rfl)
          refine ow_store 25 _ _ rfl _ rfl _ rfl (run_store_arr HP4.out (ints (digN m)) info67 (ints_one _ _)) ?_
          refine hK6 _ _ (below_row hS4 HG4.out _) (fun hS6 => ?_)
          clear hK6 K6
          refine held_one (i := 7) (oi := ?ot14) (by kernel_rfl) ?at14 ?ct14 (fun K7 hK7 => ?_)
          (case at14 => (simp only [List.getElem?_toArray, List.getElem?_cons_zero, List.getElem?_cons_succ]; rfl))
          (case ct14 => kernel_rfl)
          refine ow_store 25 _ _ rfl _ rfl _ rfl (run_store_arr (HP5.out.rowFar HN.out.symm _) (ints (digN n)) info67 (ints_one _ _)) ?_
          refine hK7 _ _ (below_row hS6 HG5.out _) (fun hS7 => ?_)
          clear hK7 K7
          refine wpAnyH_done (by kernel_rfl) ?_ _
          go_wp2_with fail
          go_meet
          case rel => exact ⟨_, _, rfl, rfl, Lib.hid ⟨(HP4.out.row _).rowFar HN.out _, (HP5.out.rowFar HN.out.symm _).row _, hS7⟩⟩
      case hjt30 =>
        have hSb := hS1
        go_simp
        refine hK4 _ _ (hSb.keep ((Below.refl _ _).alloc (Nat.le_refl _) _)) (fun hS4 => ?_)
        clear hK4 K4
        have HG4 : Hid (V1.heap.size ≤ y1.heap.size) := Lib.hid (by have := (show Below _ _ _ from hS1).size; first | omega | (simp at this ⊢ <;> omega))
        have HP4 : Hid (Arr (y1.alloc (.cells (vec 67 (ints z67)) 25)) (y1.heap.size) 25 67 (ints z67)) := Lib.hid (Arr.newAt _ _ _ _ (by simp))
        refine held_two (i := 3) (j := 5) (oi := ?oit22) (oj := ?ojt22) (by kernel_rfl) ?ait22 ?ajt22 ?cit22 ?cjt22 (fun K3 hK3 => ?hit22) (fun K5 hK5 => ?hjt22)
        (case ait22 => (simp only [List.getElem?_toArray, List.getElem?_cons_zero, List.getElem?_cons_succ]; rfl))
        (case ajt22 => (simp only [List.getElem?_toArray, List.getElem?_cons_zero, List.getElem?_cons_succ]; rfl))
        (case cit22 => kernel_rfl)
        (case cjt22 => kernel_rfl)
        case hit22 =>
          go_simp
          refine (digitsW_any n _).mono ?_
          rintro e y3 ⟨rfl, hd⟩
          have HP4 := Lib.hid (HP4.out.under hd)
          refine hK3 _ _ (hS4.keep hd) (fun hS3 => ?_)
          clear hd hK3 K3
          refine held_one (i := 5) (oi := ?ot16) (by kernel_rfl) ?at16 ?ct16 (fun K5 hK5 => ?_)
          (case at16 => (simp only [List.getElem?_toArray, List.getElem?_cons_zero, List.getElem?_cons_succ]; rfl))
          (case ct16 => kernel_rfl)
          have hSb := hS3
          go_simp
          refine hK5 _ _ (hSb.keep ((Below.refl _ _).alloc (Nat.le_refl _) _)) (fun hS5 => ?_)
          clear hK5 K5
          have HG5 : Hid (V1.heap.size ≤ y3.heap.size) := Lib.hid (by have := (show Below _ _ _ from hS3).size; first | omega | (simp at this ⊢ <;> omega))
          have HN : Hid (y1.heap.size ≠ y3.heap.size) := Lib.hid (by have := HP4.out.lt; first | omega | (simp at this <;> omega))
          have HP4 := Lib.hid (HP4.out.alloc (.cells (vec 67 (ints z67)) 25))
          have HP5 : Hid (Arr (y3.alloc (.cells (vec 67 (ints z67)) 25)) (y3.heap.size) 25 67 (ints z67)) := Lib.hid (Arr.newAt _ _ _ _ (by simp))
          refine held_one (i := 6) (oi := ?ot17) (by kernel_rfl) ?at17 ?ct17 (fun K6 hK6 => ?_)
          (case at17 => (simp only [List.getElem?_toArray, List.getElem?_cons_zero, List.getElem?_cons_succ]; rfl))
          (case ct17 => kernel_rfl)
          refine ow_store 25 _ _ rfl _ rfl _ rfl (run_store_arr HP4.out (ints (digN m)) info67 (ints_one _ _)) ?_
          refine hK6 _ _ (below_row hS5 HG4.out _) (fun hS6 => ?_)
          clear hK6 K6
          refine held_one (i := 7) (oi := ?ot18) (by kernel_rfl) ?at18 ?ct18 (fun K7 hK7 => ?_)
          (case at18 => (simp only [List.getElem?_toArray, List.getElem?_cons_zero, List.getElem?_cons_succ]; rfl))
          (case ct18 => kernel_rfl)
          refine ow_store 25 _ _ rfl _ rfl _ rfl (run_store_arr (HP5.out.rowFar HN.out.symm _) (ints (digN n)) info67 (ints_one _ _)) ?_
          refine hK7 _ _ (below_row hS6 HG5.out _) (fun hS7 => ?_)
          clear hK7 K7
          refine wpAnyH_done (by kernel_rfl) ?_ _
          go_wp2_with fail
          go_meet
          case rel => exact ⟨_, _, rfl, rfl, Lib.hid ⟨(HP4.out.row _).rowFar HN.out _, (HP5.out.rowFar HN.out.symm _).row _, hS7⟩⟩
        case hjt22 =>
          have hSb := hS4
          go_simp
          refine hK5 _ _ (hSb.keep ((Below.refl _ _).alloc (Nat.le_refl _) _)) (fun hS5 => ?_)
          clear hK5 K5
          have HG5 : Hid (V1.heap.size ≤ y1.heap.size + 1) := Lib.hid (by have := (show Below _ _ _ from hS4).size; first | omega | (simp at this ⊢ <;> omega))
          have HN : Hid (y1.heap.size ≠ y1.heap.size + 1) := Lib.hid (by have := HP4.out.lt; first | omega | (simp at this <;> omega))
          have HP4 := Lib.hid (HP4.out.alloc (.cells (vec 67 (ints z67)) 25))
          have HP5 : Hid (Arr ((y1.alloc (.cells (vec 67 (ints z67)) 25)).alloc (.cells (vec 67 (ints z67)) 25)) (y1.heap.size + 1) 25 67 (ints z67)) := Lib.hid (Arr.newAt _ _ _ _ (by simp))
          refine held_one (i := 3) (oi := ?ot19) (by kernel_rfl) ?at19 ?ct19 (fun K3 hK3 => ?_)
          (case at19 => (simp only [List.getElem?_toArray, List.getElem?_cons_zero, List.getElem?_cons_succ]; rfl))
          (case ct19 => kernel_rfl)
          go_simp
          refine (digitsW_any n _).mono ?_
          rintro e y3 ⟨rfl, hd⟩
          have HP4 := Lib.hid (HP4.out.under hd)
          have HP5 := Lib.hid (HP5.out.under hd)
          refine hK3 _ _ (hS5.keep hd) (fun hS3 => ?_)
          clear hd hK3 K3
          refine held_one (i := 6) (oi := ?ot20) (by kernel_rfl) ?at20 ?ct20 (fun K6 hK6 => ?_)
          (case at20 => (simp only [List.getElem?_toArray, List.getElem?_cons_zero, List.getElem?_cons_succ]; rfl))
          (case ct20 => kernel_rfl)
          refine ow_store 25 _ _ rfl _ rfl _ rfl (run_store_arr HP4.out (ints (digN m)) info67 (ints_one _ _)) ?_
          refine hK6 _ _ (below_row hS3 HG4.out _) (fun hS6 => ?_)
          clear hK6 K6
          refine held_one (i := 7) (oi := ?ot21) (by kernel_rfl) ?at21 ?ct21 (fun K7 hK7 => ?_)
          (case at21 => (simp only [List.getElem?_toArray, List.getElem?_cons_zero, List.getElem?_cons_succ]; rfl))
          (case ct21 => kernel_rfl)
          refine ow_store 25 _ _ rfl _ rfl _ rfl (run_store_arr (HP5.out.rowFar HN.out.symm _) (ints (digN n)) info67 (ints_one _ _)) ?_
          refine hK7 _ _ (below_row hS6 HG5.out _) (fun hS7 => ?_)
          clear hK7 K7
          refine wpAnyH_done (by kernel_rfl) ?_ _
          go_wp2_with fail
          go_meet
          case rel => exact ⟨_, _, rfl, rfl, Lib.hid ⟨(HP4.out.row _).rowFar HN.out _, (HP5.out.rowFar HN.out.symm _).row _, hS7⟩⟩
      case hkt30 =>
        have hSb := hS1
        go_simp
        refine hK5 _ _ (hSb.keep ((Below.refl _ _).alloc (Nat.le_refl _) _)) (fun hS5 => ?_)
        clear hK5 K5
        have HG5 : Hid (V1.heap.size ≤ y1.heap.size) := Lib.hid (by have := (show Below _ _ _ from hS1).size; first | omega | (simp at this ⊢ <;> omega))
        have HP5 : Hid (Arr (y1.alloc (.cells (vec 67 (ints z67)) 25)) (y1.heap.size) 25 67 (ints z67)) := Lib.hid (Arr.newAt _ _ _ _ (by simp))
        refine held_two (i := 3) (j := 4) (oi := ?oit29) (oj := ?ojt29) (by kernel_rfl) ?ait29 ?ajt29 ?cit29 ?cjt29 (fun K3 hK3 => ?hit29) (fun K4 hK4 => ?hjt29)
        (case ait29 => (simp only [List.getElem?_toArray, List.getElem?_cons_zero, List.getElem?_cons_succ]; rfl))
        (case ajt29 => (simp only [List.getElem?_toArray, List.getElem?_cons_zero, List.getElem?_cons_succ]; rfl))
        (case cit29 => kernel_rfl)
        (case cjt29 => kernel_rfl)
        case hit29 =>
          go_simp
          refine (digitsW_any n _).mono ?_
          rintro e y3 ⟨rfl, hd⟩
          have HP5 := Lib.hid (HP5.out.under hd)
          refine hK3 _ _ (hS5.keep hd) (fun hS3 => ?_)
          clear hd hK3 K3
          refine held_one (i := 4) (oi := ?ot23) (by kernel_rfl) ?at23 ?ct23 (fun K4 hK4 => ?_)
          (case at23 => (simp only [List.getElem?_toArray, List.getElem?_cons_zero, List.getElem?_cons_succ]; rfl))
          (case ct23 => kernel_rfl)
          have hSb := hS3
          go_simp
          refine hK4 _ _ (hSb.keep ((Below.refl _ _).alloc (Nat.le_refl _) _)) (fun hS4 => ?_)
          clear hK4 K4
          have HG4 : Hid (V1.heap.size ≤ y3.heap.size) := Lib.hid (by have := (show Below _ _ _ from hS3).size; first | omega | (simp at this ⊢ <;> omega))
          have HN : Hid (y3.heap.size ≠ y1.heap.size) := Lib.hid (by have := HP5.out.lt; first | omega | (simp at this <;> omega))
          have HP5 := Lib.hid (HP5.out.alloc (.cells (vec 67 (ints z67)) 25))
          have HP4 : Hid (Arr (y3.alloc (.cells (vec 67 (ints z67)) 25)) (y3.heap.size) 25 67 (ints z67)) := Lib.hid (Arr.newAt _ _ _ _ (by simp))
          refine held_one (i := 6) (oi := ?ot24) (by kernel_rfl) ?at24 ?ct24 (fun K6 hK6 => ?_)
          (case at24 => (simp only [List.getElem?_toArray, List.getElem?_cons_zero, List.getElem?_cons_succ]; rfl))
          (case ct24 => kernel_rfl)
          refine ow_store 25 _ _ rfl _ rfl _ rfl (run_store_arr HP4.out (ints (digN m)) info67 (ints_one _ _)) ?_
          refine hK6 _ _ (below_row hS4 HG4.out _) (fun hS6 => ?_)
          clear hK6 K6
          refine held_one (i := 7) (oi := ?ot25) (by kernel_rfl) ?at25 ?ct25 (fun K7 hK7 => ?_)
          (case at25 => (simp only [List.getElem?_toArray, List.getElem?_cons_zero, List.getElem?_cons_succ]; rfl))
          (case ct25 => kernel_rfl)
          refine ow_store 25 _ _ rfl _ rfl _ rfl (run_store_arr (HP5.out.rowFar HN.out.symm _) (ints (digN n)) info67 (ints_one _ _)) ?_
          refine hK7 _ _ (below_row hS6 HG5.out _) (fun hS7 => ?_)
          clear hK7 K7
          refine wpAnyH_done (by kernel_rfl) ?_ _
          go_wp2_with fail
          go_meet
          case rel => exact ⟨_, _, rfl, rfl, Lib.hid ⟨(HP4.out.row _).rowFar HN.out _, (HP5.out.rowFar HN.out.symm _).row _, hS7⟩⟩
        case hjt29 =>
          have hSb := hS5
          go_simp
          refine hK4 _ _ (hSb.keep ((Below.refl _ _).alloc (Nat.le_refl _) _)) (fun hS4 => ?_)
          clear hK4 K4
          have HG4 : Hid (V1.heap.size ≤ y1.heap.size + 1) := Lib.hid (by have := (show Below _ _ _ from hS5).size; first | omega | (simp at this ⊢ <;> omega))
          have HN : Hid (y1.heap.size + 1 ≠ y1.heap.size) := Lib.hid (by have := HP5.out.lt; first | omega | (simp at this <;> omega))
          have HP5 := Lib.hid (HP5.out.alloc (.cells (vec 67 (ints z67)) 25))
          have HP4 : Hid (Arr ((y1.alloc (.cells (vec 67 (ints z67)) 25)).alloc (.cells (vec 67 (ints z67)) 25)) (y1.heap.size + 1) 25 67 (ints z67)) := Lib.hid (Arr.newAt _ _ _ _ (by simp))
          refine held_one (i := 3) (oi := ?ot26) (by kernel_rfl) ?at26 ?ct26 (fun K3 hK3 => ?_)
          (case at26 => (simp only [List.getElem?_toArray, List.getElem?_cons_zero, List.getElem?_cons_succ]; rfl))
          (case ct26 => kernel_rfl)
          go_simp
          refine (digitsW_any n _).mono ?_
          rintro e y3 ⟨rfl, hd⟩
          have HP5 := Lib.hid (HP5.out.under hd)
          have HP4 := Lib.hid (HP4.out.under hd)
          refine hK3 _ _ (hS4.keep hd) (fun hS3 => ?_)
          clear hd hK3 K3
          refine held_one (i := 6) (oi := ?ot27) (by kernel_rfl) ?at27 ?ct27 (fun K6 hK6 => ?_)
          (case at27 => (simp only [List.getElem?_toArray, List.getElem?_cons_zero, List.getElem?_cons_succ]; rfl))
          (case ct27 => kernel_rfl)
          refine ow_store 25 _ _ rfl _ rfl _ rfl (run_store_arr HP4.out (ints (digN m)) info67 (ints_one _ _)) ?_
          refine hK6 _ _ (below_row hS3 HG4.out _) (fun hS6 => ?_)
          clear hK6 K6
          refine held_one (i := 7) (oi := ?ot28) (by kernel_rfl) ?at28 ?ct28 (fun K7 hK7 => ?_)
          (case at28 => (simp only [List.getElem?_toArray, List.getElem?_cons_zero, List.getElem?_cons_succ]; rfl))
          (case ct28 => kernel_rfl)
          refine ow_store 25 _ _ rfl _ rfl _ rfl (run_store_arr (HP5.out.rowFar HN.out.symm _) (ints (digN n)) info67 (ints_one _ _)) ?_
          refine hK7 _ _ (below_row hS6 HG5.out _) (fun hS7 => ?_)
          clear hK7 K7
          refine wpAnyH_done (by kernel_rfl) ?_ _
          go_wp2_with fail
          go_meet
          case rel => exact ⟨_, _, rfl, rfl, Lib.hid ⟨(HP4.out.row _).rowFar HN.out _, (HP5.out.rowFar HN.out.symm _).row _, hS7⟩⟩
    case hjt55 =>
      have hSb := hS
      go_simp
      refine hK4 _ _ (hSb.keep ((Below.refl _ _).alloc (Nat.le_refl _) _)) (fun hS4 => ?_)
      clear hK4 K4
      have HG4 : Hid (V1.heap.size ≤ V1.heap.size) := Lib.hid (by have := (show Below _ _ _ from hS).size; first | omega | (simp at this ⊢ <;> omega))
      have HP4 : Hid (Arr (V1.drew.alloc (.cells (vec 67 (ints z67)) 25)) (V1.heap.size) 25 67 (ints z67)) := Lib.hid (Arr.newAt _ _ _ _ (by simp))
      refine held_two (i := 1) (j := 5) (oi := ?oit42) (oj := ?ojt42) (by kernel_rfl) ?ait42 ?ajt42 ?cit42 ?cjt42 (fun K1 hK1 => ?hit42) (fun K5 hK5 => ?hjt42)
      (case ait42 => (simp only [List.getElem?_toArray, List.getElem?_cons_zero, List.getElem?_cons_succ]; rfl))
      (case ajt42 => (simp only [List.getElem?_toArray, List.getElem?_cons_zero, List.getElem?_cons_succ]; rfl))
      (case cit42 => kernel_rfl)
      (case cjt42 => kernel_rfl)
      case hit42 =>
        go_simp
        refine (digitsW_any m _).mono ?_
        rintro e y1 ⟨rfl, hd⟩
        have HP4 := Lib.hid (HP4.out.under hd)
        refine hK1 _ _ (hS4.keep hd) (fun hS1 => ?_)
        clear hd hK1 K1
        refine held_two (i := 3) (j := 5) (oi := ?oit37) (oj := ?ojt37) (by kernel_rfl) ?ait37 ?ajt37 ?cit37 ?cjt37 (fun K3 hK3 => ?hit37) (fun K5 hK5 => ?hjt37)
        (case ait37 => (simp only [List.getElem?_toArray, List.getElem?_cons_zero, List.getElem?_cons_succ]; rfl))
        (case ajt37 => (simp only [List.getElem?_toArray, List.getElem?_cons_zero, List.getElem?_cons_succ]; rfl))
        (case cit37 => kernel_rfl)
        (case cjt37 => kernel_rfl)
        case hit37 =>
          go_simp
          refine (digitsW_any n _).mono ?_
          rintro e y3 ⟨rfl, hd⟩
          have HP4 := Lib.hid (HP4.out.under hd)
          refine hK3 _ _ (hS1.keep hd) (fun hS3 => ?_)
          clear hd hK3 K3
          refine held_one (i := 5) (oi := ?ot31) (by kernel_rfl) ?at31 ?ct31 (fun K5 hK5 => ?_)
          (case at31 => (simp only [List.getElem?_toArray, List.getElem?_cons_zero, List.getElem?_cons_succ]; rfl))
          (case ct31 => kernel_rfl)
          have hSb := hS3
          go_simp
          refine hK5 _ _ (hSb.keep ((Below.refl _ _).alloc (Nat.le_refl _) _)) (fun hS5 => ?_)
          clear hK5 K5
          have HG5 : Hid (V1.heap.size ≤ y3.heap.size) := Lib.hid (by have := (show Below _ _ _ from hS3).size; first | omega | (simp at this ⊢ <;> omega))
          have HN : Hid (V1.heap.size ≠ y3.heap.size) := Lib.hid (by have := HP4.out.lt; first | omega | (simp at this <;> omega))
          have HP4 := Lib.hid (HP4.out.alloc (.cells (vec 67 (ints z67)) 25))
          have HP5 : Hid (Arr (y3.alloc (.cells (vec 67 (ints z67)) 25)) (y3.heap.size) 25 67 (ints z67)) := Lib.hid (Arr.newAt _ _ _ _ (by simp))
          refine held_one (i := 6) (oi := ?ot32) (by kernel_rfl) ?at32 ?ct32 (fun K6 hK6 => ?_)
          (case at32 => (simp only [List.getElem?_toArray, List.getElem?_cons_zero, List.getElem?_cons_succ]; rfl))
          (case ct32 => kernel_rfl)
          refine ow_store 25 _ _ rfl _ rfl _ rfl (run_store_arr HP4.out (ints (digN m)) info67 (ints_one _ _)) ?_
          refine hK6 _ _ (below_row hS5 HG4.out _) (fun hS6 => ?_)
          clear hK6 K6
          refine held_one (i := 7) (oi := ?ot33) (by kernel_rfl) ?at33 ?ct33 (fun K7 hK7 => ?_)
          (case at33 => (simp only [List.getElem?_toArray, List.getElem?_cons_zero, List.getElem?_cons_succ]; rfl))
          (case ct33 => kernel_rfl)
          refine ow_store 25 _ _ rfl _ rfl _ rfl (run_store_arr (HP5.out.rowFar HN.out.symm _) (ints (digN n)) info67 (ints_one _ _)) ?_
          refine hK7 _ _ (below_row hS6 HG5.out _) (fun hS7 => ?_)
          clear hK7 K7
          refine wpAnyH_done (by kernel_rfl) ?_ _
          go_wp2_with fail
          go_meet
          case rel => exact ⟨_, _, rfl, rfl, Lib.hid ⟨(HP4.out.row _).rowFar HN.out _, (HP5.out.rowFar HN.out.symm _).row _, hS7⟩⟩
        case hjt37 =>
          have hSb := hS1
          go_simp
          refine hK5 _ _ (hSb.keep ((Below.refl _ _).alloc (Nat.le_refl _) _)) (fun hS5 => ?_)
          clear hK5 K5
          have HG5 : Hid (V1.heap.size ≤ y1.heap.size) := Lib.hid (by have := (show Below _ _ _ from hS1).size; first | omega | (simp at this ⊢ <;> omega))
          have HN : Hid (V1.heap.size ≠ y1.heap.size) := Lib.hid (by have := HP4.out.lt; first | omega | (simp at this <;> omega))
          have HP4 := Lib.hid (HP4.out.alloc (.cells (vec 67 (ints z67)) 25))
          have HP5 : Hid (Arr (y1.alloc (.cells (vec 67 (ints z67)) 25)) (y1.heap.size) 25 67 (ints z67)) := Lib.hid (Arr.newAt _ _ _ _ (by simp))
          refine held_one (i := 3) (oi := ?ot34) (by kernel_rfl) ?at34 ?ct34 (fun K3 hK3 => ?_)
          (case at34 => (simp only [List.getElem?_toArray, List.getElem?_cons_zero, List.getElem?_cons_succ]; rfl))
          (case ct34 => kernel_rfl)
          go_simp
          refine (digitsW_any n _).mono ?_
          rintro e y3 ⟨rfl, hd⟩
          have HP4 := Lib.hid (HP4.out.under hd)
          have HP5 := Lib.hid (HP5.out.under hd)
          refine hK3 _ _ (hS5.keep hd) (fun hS3 => ?_)
          clear hd hK3 K3
          refine held_one (i := 6) (oi := ?ot35) (by kernel_rfl) ?at35 ?ct35 (fun K6 hK6 => ?_)
          (case at35 => (simp only [List.getElem?_toArray, List.getElem?_cons_zero, List.getElem?_cons_succ]; rfl))
          (case ct35 => kernel_rfl)
          refine ow_store 25 _ _ rfl _ rfl _ rfl (run_store_arr HP4.out (ints (digN m)) info67 (ints_one _ _)) ?_
          refine hK6 _ _ (below_row hS3 HG4.out _) (fun hS6 => ?_)
          clear hK6 K6
          refine held_one (i := 7) (oi := ?ot36) (by kernel_rfl) ?at36 ?ct36 (fun K7 hK7 => ?_)
          (case at36 => (simp only [List.getElem?_toArray, List.getElem?_cons_zero, List.getElem?_cons_succ]; rfl))
          (case ct36 => kernel_rfl)
          refine ow_store 25 _ _ rfl _ rfl _ rfl (run_store_arr (HP5.out.rowFar HN.out.symm _) (ints (digN n)) info67 (ints_one _ _)) ?_
          refine hK7 _ _ (below_row hS6 HG5.out _) (fun hS7 => ?_)
          clear hK7 K7
          refine wpAnyH_done (by kernel_rfl) ?_ _
          go_wp2_with fail
          go_meet
          case rel => exact ⟨_, _, rfl, rfl, Lib.hid ⟨(HP4.out.row _).rowFar HN.out _, (HP5.out.rowFar HN.out.symm _).row _, hS7⟩⟩
      case hjt42 =>
        have hSb := hS4
        go_simp
        refine hK5 _ _ (hSb.keep ((Below.refl _ _).alloc (Nat.le_refl _) _)) (fun hS5 => ?_)
        clear hK5 K5
        have HG5 : Hid (V1.heap.size ≤ V1.heap.size + 1) := Lib.hid (by have := (show Below _ _ _ from hS4).size; first | omega | (simp at this ⊢ <;> omega))
        have HN : Hid (V1.heap.size ≠ V1.heap.size + 1) := Lib.hid (by have := HP4.out.lt; first | omega | (simp at this <;> omega))
        have HP4 := Lib.hid (HP4.out.alloc (.cells (vec 67 (ints z67)) 25))
        have HP5 : Hid (Arr ((V1.drew.alloc (.cells (vec 67 (ints z67)) 25)).alloc (.cells (vec 67 (ints z67)) 25)) (V1.heap.size + 1) 25 67 (ints z67)) := Lib.hid (Arr.newAt _ _ _ _ (by simp))
        refine held_one (i := 1) (oi := ?ot38) (by kernel_rfl) ?at38 ?ct38 (fun K1 hK1 => ?_)
        (case at38 => (simp only [List.getElem?_toArray, List.getElem?_cons_zero, List.getElem?_cons_succ]; rfl))
        (case ct38 => kernel_rfl)
        go_simp
        refine (digitsW_any m _).mono ?_
        rintro e y1 ⟨rfl, hd⟩
        have HP4 := Lib.hid (HP4.out.under hd)
        have HP5 := Lib.hid (HP5.out.under hd)
        refine hK1 _ _ (hS5.keep hd) (fun hS1 => ?_)
        clear hd hK1 K1
        refine held_one (i := 3) (oi := ?ot39) (by kernel_rfl) ?at39 ?ct39 (fun K3 hK3 => ?_)
        (case at39 => (simp only [List.getElem?_toArray, List.getElem?_cons_zero, List.getElem?_cons_succ]; rfl))
        (case ct39 => kernel_rfl)
        go_simp
        refine (digitsW_any n _).mono ?_
        rintro e y3 ⟨rfl, hd⟩
        have HP4 := Lib.hid (HP4.out.under hd)
        have HP5 := Lib.hid (HP5.out.under hd)
        refine hK3 _ _ (hS1.keep hd) (fun hS3 => ?_)
        clear hd hK3 K3
        refine held_one (i := 6) (oi := ?ot40) (by kernel_rfl) ?at40 ?ct40 (fun K6 hK6 => ?_)
        (case at40 => (simp only [List.getElem?_toArray, List.getElem?_cons_zero, List.getElem?_cons_succ]; rfl))
        (case ct40 => kernel_rfl)
        refine ow_store 25 _ _ rfl _ rfl _ rfl (run_store_arr HP4.out (ints (digN m)) info67 (ints_one _ _)) ?_
        refine hK6 _ _ (below_row hS3 HG4.out _) (fun hS6 => ?_)
        clear hK6 K6
        refine held_one (i := 7) (oi := ?ot41) (by kernel_rfl) ?at41 ?ct41 (fun K7 hK7 => ?_)
        (case at41 => (simp only [List.getElem?_toArray, List.getElem?_cons_zero, List.getElem?_cons_succ]; rfl))
        (case ct41 => kernel_rfl)
        refine ow_store 25 _ _ rfl _ rfl _ rfl (run_store_arr (HP5.out.rowFar HN.out.symm _) (ints (digN n)) info67 (ints_one _ _)) ?_
        refine hK7 _ _ (below_row hS6 HG5.out _) (fun hS7 => ?_)
        clear hK7 K7
        refine wpAnyH_done (by kernel_rfl) ?_ _
        go_wp2_with fail
        go_meet
        case rel => exact ⟨_, _, rfl, rfl, Lib.hid ⟨(HP4.out.row _).rowFar HN.out _, (HP5.out.rowFar HN.out.symm _).row _, hS7⟩⟩
    case hkt55 =>
      have hSb := hS
      go_simp
      refine hK5 _ _ (hSb.keep ((Below.refl _ _).alloc (Nat.le_refl _) _)) (fun hS5 => ?_)
      clear hK5 K5
      have HG5 : Hid (V1.heap.size ≤ V1.heap.size) := Lib.hid (by have := (show Below _ _ _ from hS).size; first | omega | (simp at this ⊢ <;> omega))
      have HP5 : Hid (Arr (V1.drew.alloc (.cells (vec 67 (ints z67)) 25)) (V1.heap.size) 25 67 (ints z67)) := Lib.hid (Arr.newAt _ _ _ _ (by simp))
      refine held_two (i := 1) (j := 4) (oi := ?oit54) (oj := ?ojt54) (by kernel_rfl) ?ait54 ?ajt54 ?cit54 ?cjt54 (fun K1 hK1 => ?hit54) (fun K4 hK4 => ?hjt54)
      (case ait54 => (simp only [List.getElem?_toArray, List.getElem?_cons_zero, List.getElem?_cons_succ]; rfl))
      (case ajt54 => (simp only [List.getElem?_toArray, List.getElem?_cons_zero, List.getElem?_cons_succ]; rfl))
      (case cit54 => kernel_rfl)
      (case cjt54 => kernel_rfl)
      case hit54 =>
        go_simp
        refine (digitsW_any m _).mono ?_
        rintro e y1 ⟨rfl, hd⟩
        have HP5 := Lib.hid (HP5.out.under hd)
        refine hK1 _ _ (hS5.keep hd) (fun hS1 => ?_)
        clear hd hK1 K1
        refine held_two (i := 3) (j := 4) (oi := ?oit49) (oj := ?ojt49) (by kernel_rfl) ?ait49 ?ajt49 ?cit49 ?cjt49 (fun K3 hK3 => ?hit49) (fun K4 hK4 => ?hjt49)
        (case ait49 => (simp only [List.getElem?_toArray, List.getElem?_cons_zero, List.getElem?_cons_succ]; rfl))
        (case ajt49 => (simp only [List.getElem?_toArray, List.getElem?_cons_zero, List.getElem?_cons_succ]; rfl))
        (case cit49 => kernel_rfl)
        (case cjt49 => kernel_rfl)
        case hit49 =>
          go_simp
          refine (digitsW_any n _).mono ?_
          rintro e y3 ⟨rfl, hd⟩
          have HP5 := Lib.hid (HP5.out.under hd)
          refine hK3 _ _ (hS1.keep hd) (fun hS3 => ?_)
          clear hd hK3 K3
          refine held_one (i := 4) (oi := ?ot43) (by kernel_rfl) ?at43 ?ct43 (fun K4 hK4 => ?_)
          (case at43 => (simp only [List.getElem?_toArray, List.getElem?_cons_zero, List.getElem?_cons_succ]; rfl))
          (case ct43 => kernel_rfl)
          have hSb := hS3
          go_simp
          refine hK4 _ _ (hSb.keep ((Below.refl _ _).alloc (Nat.le_refl _) _)) (fun hS4 => ?_)
          clear hK4 K4
          have HG4 : Hid (V1.heap.size ≤ y3.heap.size) := Lib.hid (by have := (show Below _ _ _ from hS3).size; first | omega | (simp at this ⊢ <;> omega))
          have HN : Hid (y3.heap.size ≠ V1.heap.size) := Lib.hid (by have := HP5.out.lt; first | omega | (simp at this <;> omega))
          have HP5 := Lib.hid (HP5.out.alloc (.cells (vec 67 (ints z67)) 25))
          have HP4 : Hid (Arr (y3.alloc (.cells (vec 67 (ints z67)) 25)) (y3.heap.size) 25 67 (ints z67)) := Lib.hid (Arr.newAt _ _ _ _ (by simp))
          refine held_one (i := 6) (oi := ?ot44) (by kernel_rfl) ?at44 ?ct44 (fun K6 hK6 => ?_)
          (case at44 => (simp only [List.getElem?_toArray, List.getElem?_cons_zero, List.getElem?_cons_succ]; rfl))
          (case ct44 => kernel_rfl)
          refine ow_store 25 _ _ rfl _ rfl _ rfl (run_store_arr HP4.out (ints (digN m)) info67 (ints_one _ _)) ?_
          refine hK6 _ _ (below_row hS4 HG4.out _) (fun hS6 => ?_)
          clear hK6 K6
          refine held_one (i := 7) (oi := ?ot45) (by kernel_rfl) ?at45 ?ct45 (fun K7 hK7 => ?_)
          (case at45 => (simp only [List.getElem?_toArray, List.getElem?_cons_zero, List.getElem?_cons_succ]; rfl))
          (case ct45 => kernel_rfl)
          refine ow_store 25 _ _ rfl _ rfl _ rfl (run_store_arr (HP5.out.rowFar HN.out.symm _) (ints (digN n)) info67 (ints_one _ _)) ?_
          refine hK7 _ _ (below_row hS6 HG5.out _) (fun hS7 => ?_)
          clear hK7 K7
          refine wpAnyH_done (by kernel_rfl) ?_ _
          go_wp2_with fail
          go_meet
          case rel => exact ⟨_, _, rfl, rfl, Lib.hid ⟨(HP4.out.row _).rowFar HN.out _, (HP5.out.rowFar HN.out.symm _).row _, hS7⟩⟩
        case hjt49 =>
          have hSb := hS1
          go_simp
          refine hK4 _ _ (hSb.keep ((Below.refl _ _).alloc (Nat.le_refl _) _)) (fun hS4 => ?_)
          clear hK4 K4
          have HG4 : Hid (V1.heap.size ≤ y1.heap.size) := Lib.hid (by have := (show Below _ _ _ from hS1).size; first | omega | (simp at this ⊢ <;> omega))
          have HN : Hid (y1.heap.size ≠ V1.heap.size) := Lib.hid (by have := HP5.out.lt; first | omega | (simp at this <;> omega))
          have HP5 := Lib.hid (HP5.out.alloc (.cells (vec 67 (ints z67)) 25))
          have HP4 : Hid (Arr (y1.alloc (.cells (vec 67 (ints z67)) 25)) (y1.heap.size) 25 67 (ints z67)) := Lib.hid (Arr.newAt _ _ _ _ (by simp))
          refine held_one (i := 3) (oi := ?ot46) (by kernel_rfl) ?at46 ?ct46 (fun K3 hK3 => ?_)
          (case at46 => (simp only [List.getElem?_toArray, List.getElem?_cons_zero, List.getElem?_cons_succ]; rfl))
          (case ct46 => kernel_rfl)
          go_simp
          refine (digitsW_any n _).mono ?_
          rintro e y3 ⟨rfl, hd⟩
          have HP5 := Lib.hid (HP5.out.under hd)
          have HP4 := Lib.hid (HP4.out.under hd)
          refine hK3 _ _ (hS4.keep hd) (fun hS3 => ?_)
          clear hd hK3 K3
          refine held_one (i := 6) (oi := ?ot47) (by kernel_rfl) ?at47 ?ct47 (fun K6 hK6 => ?_)
          (case at47 => (simp only [List.getElem?_toArray, List.getElem?_cons_zero, List.getElem?_cons_succ]; rfl))
          (case ct47 => kernel_rfl)
          refine ow_store 25 _ _ rfl _ rfl _ rfl (run_store_arr HP4.out (ints (digN m)) info67 (ints_one _ _)) ?_
          refine hK6 _ _ (below_row hS3 HG4.out _) (fun hS6 => ?_)
          clear hK6 K6
          refine held_one (i := 7) (oi := ?ot48) (by kernel_rfl) ?at48 ?ct48 (fun K7 hK7 => ?_)
          (case at48 => (simp only [List.getElem?_toArray, List.getElem?_cons_zero, List.getElem?_cons_succ]; rfl))
          (case ct48 => kernel_rfl)
          refine ow_store 25 _ _ rfl _ rfl _ rfl (run_store_arr (HP5.out.rowFar HN.out.symm _) (ints (digN n)) info67 (ints_one _ _)) ?_
          refine hK7 _ _ (below_row hS6 HG5.out _) (fun hS7 => ?_)
          clear hK7 K7
          refine wpAnyH_done (by kernel_rfl) ?_ _
          go_wp2_with fail
          go_meet
          case rel => exact ⟨_, _, rfl, rfl, Lib.hid ⟨(HP4.out.row _).rowFar HN.out _, (HP5.out.rowFar HN.out.symm _).row _, hS7⟩⟩
      case hjt54 =>
        have hSb := hS5
        go_simp
        refine hK4 _ _ (hSb.keep ((Below.refl _ _).alloc (Nat.le_refl _) _)) (fun hS4 => ?_)
        clear hK4 K4
        have HG4 : Hid (V1.heap.size ≤ V1.heap.size + 1) := Lib.hid (by have := (show Below _ _ _ from hS5).size; first | omega | (simp at this ⊢ <;> omega))
        have HN : Hid (V1.heap.size + 1 ≠ V1.heap.size) := Lib.hid (by have := HP5.out.lt; first | omega | (simp at this <;> omega))
        have HP5 := Lib.hid (HP5.out.alloc (.cells (vec 67 (ints z67)) 25))
        have HP4 : Hid (Arr ((V1.drew.alloc (.cells (vec 67 (ints z67)) 25)).alloc (.cells (vec 67 (ints z67)) 25)) (V1.heap.size + 1) 25 67 (ints z67)) := Lib.hid (Arr.newAt _ _ _ _ (by simp))
        refine held_one (i := 1) (oi := ?ot50) (by kernel_rfl) ?at50 ?ct50 (fun K1 hK1 => ?_)
        (case at50 => (simp only [List.getElem?_toArray, List.getElem?_cons_zero, List.getElem?_cons_succ]; rfl))
        (case ct50 => kernel_rfl)
        go_simp
        refine (digitsW_any m _).mono ?_
        rintro e y1 ⟨rfl, hd⟩
        have HP5 := Lib.hid (HP5.out.under hd)
        have HP4 := Lib.hid (HP4.out.under hd)
        refine hK1 _ _ (hS4.keep hd) (fun hS1 => ?_)
        clear hd hK1 K1
        refine held_one (i := 3) (oi := ?ot51) (by kernel_rfl) ?at51 ?ct51 (fun K3 hK3 => ?_)
        (case at51 => (simp only [List.getElem?_toArray, List.getElem?_cons_zero, List.getElem?_cons_succ]; rfl))
        (case ct51 => kernel_rfl)
        go_simp
        refine (digitsW_any n _).mono ?_
        rintro e y3 ⟨rfl, hd⟩
        have HP5 := Lib.hid (HP5.out.under hd)
        have HP4 := Lib.hid (HP4.out.under hd)
        refine hK3 _ _ (hS1.keep hd) (fun hS3 => ?_)
        clear hd hK3 K3
        refine held_one (i := 6) (oi := ?ot52) (by kernel_rfl) ?at52 ?ct52 (fun K6 hK6 => ?_)
        (case at52 => (simp only [List.getElem?_toArray, List.getElem?_cons_zero, List.getElem?_cons_succ]; rfl))
        (case ct52 => kernel_rfl)
        refine ow_store 25 _ _ rfl _ rfl _ rfl (run_store_arr HP4.out (ints (digN m)) info67 (ints_one _ _)) ?_
        refine hK6 _ _ (below_row hS3 HG4.out _) (fun hS6 => ?_)
        clear hK6 K6
        refine held_one (i := 7) (oi := ?ot53) (by kernel_rfl) ?at53 ?ct53 (fun K7 hK7 => ?_)
        (case at53 => (simp only [List.getElem?_toArray, List.getElem?_cons_zero, List.getElem?_cons_succ]; rfl))
        (case ct53 => kernel_rfl)
        refine ow_store 25 _ _ rfl _ rfl _ rfl (run_store_arr (HP5.out.rowFar HN.out.symm _) (ints (digN n)) info67 (ints_one _ _)) ?_
        refine hK7 _ _ (below_row hS6 HG5.out _) (fun hS7 => ?_)
        clear hK7 K7
        refine wpAnyH_done (by kernel_rfl) ?_ _
        go_wp2_with fail
        go_meet
        case rel => exact ⟨_, _, rfl, rfl, Lib.hid ⟨(HP4.out.row _).rowFar HN.out _, (HP5.out.rowFar HN.out.symm _).row _, hS7⟩⟩
  case rest =>
    obtain ⟨g5, g6, rfl, rfl, HC⟩ := hcut
    go_wp2
    go_loopw [7, 15] (fun b i W => ∃ (k : Nat) (c : Bool), k ≤ 67 ∧ i = .int .i64 k ∧ b = .bool c ∧ Hid ((c = true ↔ ∃ j, j < k ∧ digN m j < digN n j) ∧ Arr W g5 25 67 (ints (digN m)) ∧ Arr W g6 25 67 (ints (digN n)) ∧ VS V1 W)) (fun _ i _ => 67 - (intOf i).toNat)
    case atStart => exact ⟨0, false, Nat.zero_le _, rfl, rfl, Lib.hid ⟨by simp, HC.out⟩⟩
    case round =>
      obtain ⟨k, c, hk, rfl, rfl, hR⟩ := hrel
      by_cases hlt : k < 67
      · have c5 := hR.out.2.1.cell (i := k) hlt
        have c6 := hR.out.2.2.1.cell (i := k) hlt
        unfold ints at c5 c6
        cases c with
        | false =>
          go_upto_region 8 with fail
          go_quiet (fail)
          go_wp2
          go_roundw
          case rel =>
            refine ⟨k + 1, _, by omega, by simp, rfl, Lib.hid ⟨?_, hR.out.2.1.drewN nq, hR.out.2.2.1.drewN nq, below_drewN hR.out.2.2.2 nq⟩⟩
            have h0 : ¬ ∃ j, j < k ∧ digN m j < digN n j := fun h => by have := hR.out.1.2 h; cases this
            rw [decide_eq_true_iff]
            constructor
            · intro h; exact ⟨k, by omega, by omega⟩
            · rintro ⟨j, hj, h⟩
              by_cases e : j = k
              · subst e; omega
              · exact absurd ⟨j, by omega, h⟩ h0
          case measure => simp [intOf]; omega
        | true =>
          go_upto_region 8 with fail
          go_quiet (fail)
          go_wp2
          go_roundw
          case rel =>
            refine ⟨k + 1, true, by omega, by simp, rfl, Lib.hid ⟨?_, hR.out.2.1.drewN nq, hR.out.2.2.1.drewN nq, below_drewN hR.out.2.2.2 nq⟩⟩
            obtain ⟨j, hj, h⟩ := hR.out.1.1 rfl
            exact ⟨fun _ => ⟨j, by omega, h⟩, fun _ => rfl⟩
          case measure => simp [intOf]; omega
      · obtain rfl : k = 67 := by omega
        have q1 := fun W => eql_two m n W
        have q2 := fun x y W => eqg_two .eql x y m n W
        have HM := Lib.hid (And.intro (HQ0.out.under hR.out.2.2.2) (And.intro (HQ1.out.under hR.out.2.2.2) (hR.out.2.2.2)))
        have hc : nodeEq m n = false → c = true := fun h => hR.out.1.2 (digN_less m n fun hh => by have := (nodeEq_iff m n).2 hh; rw [this] at h; cases h)
        cases hq : nodeEq m n with
        | true =>
          rw [hq] at q1
          clear hc hq hR hlt hk
          go_wp2_with (first
            | ((with_reducible show wpList _ _ _ (Oper.mk _ (.load _ (.tmp 2)) _ _ _ _ :: _) _ _); refine wl_load rfl 23 _ rfl _ rfl _ (run_load_arr HM.out.1 Try.underlying23 rfl info26) ?_)
            | ((with_reducible show wpList _ _ _ (Oper.mk _ (.load _ (.tmp 3)) _ _ _ _ :: _) _ _); refine wl_load rfl 23 _ rfl _ rfl _ (run_load_arr HM.out.2.1 Try.underlying23 rfl info26) ?_))
          go_ret
          exact ⟨rfl, HM.out.2.2.below0 HB.out⟩
        | false =>
          rw [hq] at q1
          obtain rfl := hc hq
          clear hc hq hR hlt hk
          go_wp2_with (first
            | ((with_reducible show wpList _ _ _ (Oper.mk _ (.load _ (.tmp 2)) _ _ _ _ :: _) _ _); refine wl_load rfl 23 _ rfl _ rfl _ (run_load_arr HM.out.1 Try.underlying23 rfl info26) ?_)
            | ((with_reducible show wpList _ _ _ (Oper.mk _ (.load _ (.tmp 3)) _ _ _ _ :: _) _ _); refine wl_load rfl 23 _ rfl _ rfl _ (run_load_arr HM.out.2.1 Try.underlying23 rfl info26) ?_))
          go_ret
          exact ⟨rfl, HM.out.2.2.below0 HB.out⟩
end Go.Proofs.Ytepgndgelfkcnaa
