/- The walk of LtreeSplits. -/
import Derived.Deep.Cut
import Derived.Deep.CutRange
import Derived.Test.YtmhdhhdhnkoocaaDoorWk
namespace Go.Proofs.YtmhdhhdhnkoocaaDoor
open Go.RowKit
attribute [local go_sem ↓ high] zeroV26

set_option maxHeartbeats 1000000 in
set_option maxRecDepth 100000 in
theorem ltreeSplits_walk (leaf : Nat → UInt8) (idx : Nat) (Aa : Option Addr) (ca : Nat) (a : List Nd) (b : Nat → UInt8) (seed : Nat → UInt8) (w : World) (hidx : idx < 4294967296) (_hla : a.length ≤ maxLen) (hra : NRow w w.heap.size Aa a) (hT : Tabs w) :
    Calls Tryd.prog 7 #[.agg (vec 32 (bys leaf)), .int .u32 (idx : Int), .slice Aa a.length ca, .agg (vec 32 (bys b)), .agg (vec 32 (bys seed))] w fun e w' => e = .returned (.bool true) ∧ Below w.heap.size w w' := by
  obtain ⟨V, hV⟩ : ∃ V, V = ((w.alloc (.cells (vec 32 (bys leaf)) 24)).alloc (.cells (vec 32 (bys b)) 24)).alloc (.cells (vec 32 (bys seed)) 24) := ⟨_, rfl⟩
  have hA0 : Arr V w.heap.size 24 32 (bys leaf) := by rw [hV]; exact (((Arr.newAt _ _ _ _ (by simp)).alloc _).alloc _)
  have hA1 : Arr V (w.heap.size + 1) 24 32 (bys b) := by rw [hV]; exact ((Arr.newAt _ _ _ _ (by simp)).alloc _)
  have hA2 : Arr V (w.heap.size + 2) 24 32 (bys seed) := by rw [hV]; exact (Arr.newAt _ _ _ _ (by simp))
  have hB : Below w.heap.size w V := by rw [hV]; exact ((((Below.refl _ _).alloc (by simp <;> omega) _).alloc (by simp <;> omega) _).alloc (by simp <;> omega) _)
  have HB0 := Lib.hid hB
  have HT := Lib.hid hT
  have HP0 := Lib.hid hA0
  have HP1 := Lib.hid hA1
  have HP2 := Lib.hid hA2
  have HRa := Lib.hid hra
  have HW := Lib.hid hV
  clear hV hB hT hA0 hA1 hA2 hra
  by_cases h0 : a.length = 0
  · have t00 : (a.length : Int) = 0 := by omega
    have t0 : ((a.length : Int) != 0) = false := by rw [t00]; rfl
    go_enter Tryd.func7, Tryd.ntmps7
    go_upto_region 1 with fail
    rw [← HW.out]
    clear HW
    go_upto_region 5 with (go_at_call 8; refine (awake7_any _ (tabs_below HT.out HB0.out)).mono ?_; rintro e V1 ⟨rfl, hd⟩; have HD := Lib.hid hd; clear hd)
    have HB := Lib.hid (HB0.out.trans (HD.out.mono HB0.out.size))
    have HQ0 := Lib.hid (HP0.out.under HD.out)
    have HQ1 := Lib.hid (HP1.out.under HD.out)
    have HQ2 := Lib.hid (HP2.out.under HD.out)
    have HT1 := Lib.hid (tabs_below HT.out HB.out)
    clear HD HP0 HP1 HP2
    go_cut [11, 12] from 36 to 54 (fun s11 s12 wx => ∃ g1 g2 : Nat, s11 = .pointer (some ⟨g1, 0, none⟩) ∧ s12 = .pointer (some ⟨g2, 0, none⟩) ∧ Hid (Arr wx g1 24 32 (bys leaf) ∧ Arr wx g2 24 32 (bys b) ∧ VS V1 wx ∧ g1 ≠ g2 ∧ V1.heap.size ≤ g1 ∧ V1.heap.size ≤ g2))
    case first =>
      refine wp_region_held_drew (S := fun Y => VS V1 Y) (by kernel_rfl) (VS.begin V1) (fun hS => ?_)
      (refine held_take (i := 0) (oi := ?ot79) (v := .agg (vec 32 (bys leaf))) ?at79 (by kernel_rfl) (by kernel_rfl) (by kernel_rfl) ?bt79 ?ct79 ?dt79 (by assumption) ?rt79; (case at79 => (simp only [List.getElem?_toArray, List.getElem?_cons_zero]; rfl)); (case bt79 => exact fun _ _ _ h => h); (case ct79 => kernel_rfl); (case dt79 => (intro W hW; exact exec_load 24 _ rfl _ rfl _ (run_load_arr (HQ0.out.under hW) Tryd.underlying24 rfl info26))); (case' rt79 => simp only [Act.put, List.setIfInBounds_toArray, List.set_cons_zero, List.set_cons_succ]))
      (refine held_take (i := 1) (oi := ?ot80) (v := .agg (vec 32 (bys b))) ?at80 (by kernel_rfl) (by kernel_rfl) (by kernel_rfl) ?bt80 ?ct80 ?dt80 (by assumption) ?rt80; (case at80 => (simp only [List.getElem?_toArray, List.getElem?_cons_zero, List.getElem?_cons_succ]; rfl)); (case bt80 => exact fun _ _ _ h => h); (case ct80 => kernel_rfl); (case dt80 => (intro W hW; exact exec_load 24 _ rfl _ rfl _ (run_load_arr (HQ1.out.under hW) Tryd.underlying24 rfl info26))); (case' rt80 => simp only [Act.put, List.setIfInBounds_toArray, List.set_cons_zero, List.set_cons_succ]))
      refine held_two (i := 2) (j := 3) (oi := ?oit87) (oj := ?ojt87) (by kernel_rfl) ?ait87 ?ajt87 ?cit87 ?cjt87 (fun K2 hK2 => ?hit87) (fun K3 hK3 => ?hjt87)
      (case ait87 => (simp only [List.getElem?_toArray, List.getElem?_cons_zero, List.getElem?_cons_succ]; rfl))
      (case ajt87 => (simp only [List.getElem?_toArray, List.getElem?_cons_zero, List.getElem?_cons_succ]; rfl))
      (case cit87 => kernel_rfl)
      (case cjt87 => kernel_rfl)
      case hit87 =>
        have hSb := hS
        go_simp
        refine hK2 _ _ (hS.keep ((Below.refl _ _).alloc (Nat.le_refl _) _)) (fun hS2 => ?_)
        clear hK2 K2
        refine held_one (i := 3) (oi := ?ot81) (by kernel_rfl) ?at81 ?ct81 (fun K3 hK3 => ?_)
        (case at81 => (simp only [List.getElem?_toArray, List.getElem?_cons_zero, List.getElem?_cons_succ]; rfl))
        (case ct81 => kernel_rfl)
        have hSb := hS2
        go_simp
        refine hK3 _ _ (hS2.keep ((Below.refl _ _).alloc (Nat.le_refl _) _)) (fun hS3 => ?_)
        clear hK3 K3
        have hg1 : Arr ((V1.drew.alloc (.cells (vec 32 (bys zb)) 24)).alloc (.cells (vec 32 (bys zb)) 24)) V1.heap.size 24 32 (bys zb) := (Arr.new V1.drew _ _ _).alloc _
        have hg2 : Arr ((V1.drew.alloc (.cells (vec 32 (bys zb)) 24)).alloc (.cells (vec 32 (bys zb)) 24)) (V1.heap.size + 1) 24 32 (bys zb) := Arr.newAt _ _ _ _ (by simp)
        refine held_one (i := 4) (oi := ?ot82) (by kernel_rfl) ?at82 ?ct82 (fun K4 hK4 => ?_)
        (case at82 => (simp only [List.getElem?_toArray, List.getElem?_cons_zero, List.getElem?_cons_succ]; rfl))
        (case ct82 => kernel_rfl)
        refine ow_store 24 _ _ rfl _ rfl _ rfl (run_store_arr hg1 (bys leaf) info26 (bys_one _ _)) ?_
        refine hK4 _ _ (below_row hS3 (Nat.le_refl _) _) (fun hS4 => ?_)
        clear hK4 K4
        refine held_one (i := 5) (oi := ?ot83) (by kernel_rfl) ?at83 ?ct83 (fun K5 hK5 => ?_)
        (case at83 => (simp only [List.getElem?_toArray, List.getElem?_cons_zero, List.getElem?_cons_succ]; rfl))
        (case ct83 => kernel_rfl)
        refine ow_store 24 _ _ rfl _ rfl _ rfl (run_store_arr (hg2.rowFar (by omega) _) (bys b) info26 (bys_one _ _)) ?_
        refine hK5 _ _ (below_row hS4 (by omega) _) (fun hS5 => ?_)
        clear hK5 K5
        refine wpAnyH_done (by kernel_rfl) ?_ _
        go_wp2_with fail
        go_meet
        case rel => exact ⟨V1.heap.size, V1.heap.size + 1, rfl, rfl, Lib.hid ⟨(hg1.row _).rowFar (by omega) _, (hg2.rowFar (by omega) _).row _, hS5, by omega, by omega, by omega⟩⟩
      case hjt87 =>
        have hSb := hS
        go_simp
        refine hK3 _ _ (hS.keep ((Below.refl _ _).alloc (Nat.le_refl _) _)) (fun hS3 => ?_)
        clear hK3 K3
        refine held_one (i := 2) (oi := ?ot84) (by kernel_rfl) ?at84 ?ct84 (fun K2 hK2 => ?_)
        (case at84 => (simp only [List.getElem?_toArray, List.getElem?_cons_zero, List.getElem?_cons_succ]; rfl))
        (case ct84 => kernel_rfl)
        have hSb := hS3
        go_simp
        refine hK2 _ _ (hS3.keep ((Below.refl _ _).alloc (Nat.le_refl _) _)) (fun hS2 => ?_)
        clear hK2 K2
        have hg1 : Arr ((V1.drew.alloc (.cells (vec 32 (bys zb)) 24)).alloc (.cells (vec 32 (bys zb)) 24)) V1.heap.size 24 32 (bys zb) := (Arr.new V1.drew _ _ _).alloc _
        have hg2 : Arr ((V1.drew.alloc (.cells (vec 32 (bys zb)) 24)).alloc (.cells (vec 32 (bys zb)) 24)) (V1.heap.size + 1) 24 32 (bys zb) := Arr.newAt _ _ _ _ (by simp)
        refine held_one (i := 4) (oi := ?ot85) (by kernel_rfl) ?at85 ?ct85 (fun K4 hK4 => ?_)
        (case at85 => (simp only [List.getElem?_toArray, List.getElem?_cons_zero, List.getElem?_cons_succ]; rfl))
        (case ct85 => kernel_rfl)
        refine ow_store 24 _ _ rfl _ rfl _ rfl (run_store_arr hg2 (bys leaf) info26 (bys_one _ _)) ?_
        refine hK4 _ _ (below_row hS2 (by omega) _) (fun hS4 => ?_)
        clear hK4 K4
        refine held_one (i := 5) (oi := ?ot86) (by kernel_rfl) ?at86 ?ct86 (fun K5 hK5 => ?_)
        (case at86 => (simp only [List.getElem?_toArray, List.getElem?_cons_zero, List.getElem?_cons_succ]; rfl))
        (case ct86 => kernel_rfl)
        refine ow_store 24 _ _ rfl _ rfl _ rfl (run_store_arr (hg1.rowFar (by omega) _) (bys b) info26 (bys_one _ _)) ?_
        refine hK5 _ _ (below_row hS4 (Nat.le_refl _) _) (fun hS5 => ?_)
        clear hK5 K5
        refine wpAnyH_done (by kernel_rfl) ?_ _
        go_wp2_with fail
        go_meet
        case rel => exact ⟨V1.heap.size + 1, V1.heap.size, rfl, rfl, Lib.hid ⟨(hg2.row _).rowFar (by omega) _, (hg1.rowFar (by omega) _).row _, hS5, by omega, by omega, by omega⟩⟩
    case rest =>
      rename_i wc
      obtain ⟨g1, g2, rfl, rfl, hI⟩ := hcut
      have hbit := and1_u32 idx hidx
      obtain ⟨i1, hi1⟩ : ∃ i1, i1 = idx / 2 := ⟨_, rfl⟩
      have hi1l : i1 < 4294967296 := by omega
      have hsh : (idx : Int) / 2 = (i1 : Int) := by omega
      have HI1 := Lib.hid hi1
      have HI := Lib.hid hI.out
      clear hi1 hI
      by_cases hb : idx % 2 = 1
      · rw [hb] at hbit
        have HRT : Hid (rootD leaf idx [b] seed = randF b leaf seed 0 0 2 0 0 i1) := Lib.hid (by
          unfold rootD
          rw [if_pos (by simp)]
          show rootK (joinR seed 2 0) idx [b] leaf (0 + 1) = _
          rw [rootK_succ, if_pos (by simpa using hb), HI1.out]
          rfl)
        go_upto_region 7 with fail
        refine wp_region_held_drew (S := fun Y => VS V1 Y) (by kernel_rfl) (vs_drew HI.out.2.2.1) (fun hS => ?_)
        (refine held_take (i := 0) (oi := ?ot88) (v := .agg (vec 32 (bys b))) ?at88 (by kernel_rfl) (by kernel_rfl) (by kernel_rfl) ?bt88 ?ct88 ?dt88 (by assumption) ?rt88; (case at88 => (simp only [List.getElem?_toArray, List.getElem?_cons_zero]; rfl)); (case bt88 => exact fun _ _ _ h => h); (case ct88 => kernel_rfl); (case dt88 => (intro W hW; exact exec_load 24 _ rfl _ rfl _ (run_load_arr (HQ1.out.under hW) Tryd.underlying24 rfl info26))); (case' rt88 => simp only [Act.put, List.setIfInBounds_toArray, List.set_cons_zero, List.set_cons_succ]))
        (refine held_take (i := 1) (oi := ?ot89) (v := .agg (vec 32 (bys leaf))) ?at89 (by kernel_rfl) (by kernel_rfl) (by kernel_rfl) ?bt89 ?ct89 ?dt89 (by assumption) ?rt89; (case at89 => (simp only [List.getElem?_toArray, List.getElem?_cons_zero, List.getElem?_cons_succ]; rfl)); (case bt89 => exact fun _ _ _ h => h); (case ct89 => kernel_rfl); (case dt89 => (intro W hW; exact exec_load 24 _ rfl _ rfl _ (run_load_arr (HQ0.out.under hW) Tryd.underlying24 rfl info26))); (case' rt89 => simp only [Act.put, List.setIfInBounds_toArray, List.set_cons_zero, List.set_cons_succ]))
        refine held_one (i := 2) (oi := ?ot90) (by kernel_rfl) ?at90 ?ct90 (fun K2 hK2 => ?_)
        (case at90 => (simp only [List.getElem?_toArray, List.getElem?_cons_zero, List.getElem?_cons_succ]; rfl))
        (case ct90 => kernel_rfl)
        refine ow_store 24 _ _ rfl _ rfl _ rfl (run_store_arr (HI.out.1.drewN 1) (bys b) info26 (bys_one _ _)) ?_
        refine hK2 _ _ (below_row hS HI.out.2.2.2.2.1 _) (fun hS2 => ?_)
        clear hK2 K2
        refine held_one (i := 3) (oi := ?ot91) (by kernel_rfl) ?at91 ?ct91 (fun K3 hK3 => ?_)
        (case at91 => (simp only [List.getElem?_toArray, List.getElem?_cons_zero, List.getElem?_cons_succ]; rfl))
        (case ct91 => kernel_rfl)
        refine ow_store 24 _ _ rfl _ rfl _ rfl (run_store_arr ((HI.out.2.1.drewN 1).rowFar (Ne.symm HI.out.2.2.2.1) _) (bys leaf) info26 (bys_one _ _)) ?_
        refine hK3 _ _ (below_row hS2 HI.out.2.2.2.2.2 _) (fun hS3 => ?_)
        clear hK3 K3
        refine wpAnyH_done (by kernel_rfl) ?_ _
        have HJ := Lib.hid (And.intro ((((HI.out.1.drewN 1).row (bys b)).rowFar HI.out.2.2.2.1 (vec 32 (bys leaf)))) (And.intro (((HI.out.2.1.drewN 1).rowFar (Ne.symm HI.out.2.2.2.1) (vec 32 (bys b))).row (bys leaf)) hS3))
        obtain ⟨Wc, hWc⟩ : ∃ Wc, Wc = ((wc.drewN 1).setRow g1 (vec 32 (bys b))).setRow g2 (vec 32 (bys leaf)) := ⟨_, rfl⟩
        have HC : Hid (Arr Wc g1 24 32 (bys b) ∧ Arr Wc g2 24 32 (bys leaf) ∧ VS V1 Wc) := Lib.hid (by rw [hWc]; exact HJ.out)
        go_upto_region 8 with fail
        rw [← hWc]
        clear hWc HJ HI hS3
        refine wp_region_held_drew (S := fun Y => VS Wc Y) (by kernel_rfl) (VS.begin Wc) (fun hS => ?_)
        (refine held_take (i := 0) (oi := ?ot92) (v := .agg (vec 32 (bys leaf))) ?at92 (by kernel_rfl) (by kernel_rfl) (by kernel_rfl) ?bt92 ?ct92 ?dt92 (by assumption) ?rt92; (case at92 => (simp only [List.getElem?_toArray, List.getElem?_cons_zero]; rfl)); (case bt92 => exact fun _ _ _ h => h); (case ct92 => kernel_rfl); (case dt92 => (intro W hW; exact exec_load 24 _ rfl _ rfl _ (run_load_arr ((HQ0.out.under HC.out.2.2).under hW) Tryd.underlying24 rfl info26))); (case' rt92 => simp only [Act.put, List.setIfInBounds_toArray, List.set_cons_zero, List.set_cons_succ]))
        (refine held_take (i := 1) (oi := ?ot93) (v := ?vt93) ?at93 (by kernel_rfl) (by kernel_rfl) (by kernel_rfl) ?bt93 ?ct93 ?dt93 (by assumption) ?rt93; (case at93 => (simp only [List.getElem?_toArray, List.getElem?_cons_zero, List.getElem?_cons_succ]; rfl)); (case bt93 => exact fun _ _ _ h => h); (case ct93 => kernel_rfl); (case dt93 => (intro W hW; (try dsimp only at hW); go_split_ands; go_simp; (try with_reducible rfl))); (case' rt93 => simp only [Act.put, List.setIfInBounds_toArray, List.set_cons_zero, List.set_cons_succ]))
        (refine held_take (i := 2) (oi := ?ot94) (v := .agg (vec 32 (bys b))) ?at94 (by kernel_rfl) (by kernel_rfl) (by kernel_rfl) ?bt94 ?ct94 ?dt94 (by assumption) ?rt94; (case at94 => (simp only [List.getElem?_toArray, List.getElem?_cons_zero, List.getElem?_cons_succ]; rfl)); (case bt94 => exact fun _ _ _ h => h); (case ct94 => kernel_rfl); (case dt94 => (intro W hW; exact exec_load 24 _ rfl _ rfl _ (run_load_arr ((HQ1.out.under HC.out.2.2).under hW) Tryd.underlying24 rfl info26))); (case' rt94 => simp only [Act.put, List.setIfInBounds_toArray, List.set_cons_zero, List.set_cons_succ]))
        (refine held_take (i := 4) (oi := ?ot95) (v := .agg (vec 32 (bys seed))) ?at95 (by kernel_rfl) (by kernel_rfl) (by kernel_rfl) ?bt95 ?ct95 ?dt95 (by assumption) ?rt95; (case at95 => (simp only [List.getElem?_toArray, List.getElem?_cons_zero, List.getElem?_cons_succ]; rfl)); (case bt95 => exact fun _ _ _ h => h); (case ct95 => kernel_rfl); (case dt95 => (intro W hW; exact exec_load 24 _ rfl _ rfl _ (run_load_arr ((HQ2.out.under HC.out.2.2).under hW) Tryd.underlying24 rfl info26))); (case' rt95 => simp only [Act.put, List.setIfInBounds_toArray, List.set_cons_zero, List.set_cons_succ]))
        (refine held_take (i := 6) (oi := ?ot96) (v := .agg (vec 32 (bys b))) ?at96 (by kernel_rfl) (by kernel_rfl) (by kernel_rfl) ?bt96 ?ct96 ?dt96 (by assumption) ?rt96; (case at96 => (simp only [List.getElem?_toArray, List.getElem?_cons_zero, List.getElem?_cons_succ]; rfl)); (case bt96 => exact fun _ _ _ h => h); (case ct96 => kernel_rfl); (case dt96 => (intro W hW; exact exec_load 24 _ rfl _ rfl _ (run_load_arr (HC.out.1.under hW) Tryd.underlying24 rfl info26))); (case' rt96 => simp only [Act.put, List.setIfInBounds_toArray, List.set_cons_zero, List.set_cons_succ]))
        (refine held_take (i := 7) (oi := ?ot97) (v := .agg (vec 32 (bys leaf))) ?at97 (by kernel_rfl) (by kernel_rfl) (by kernel_rfl) ?bt97 ?ct97 ?dt97 (by assumption) ?rt97; (case at97 => (simp only [List.getElem?_toArray, List.getElem?_cons_zero, List.getElem?_cons_succ]; rfl)); (case bt97 => exact fun _ _ _ h => h); (case ct97 => kernel_rfl); (case dt97 => (intro W hW; exact exec_load 24 _ rfl _ rfl _ (run_load_arr (HC.out.2.1.under hW) Tryd.underlying24 rfl info26))); (case' rt97 => simp only [Act.put, List.setIfInBounds_toArray, List.set_cons_zero, List.set_cons_succ]))
        (refine held_take (i := 8) (oi := ?ot98) (v := .agg (vec 32 (bys seed))) ?at98 (by kernel_rfl) (by kernel_rfl) (by kernel_rfl) ?bt98 ?ct98 ?dt98 (by assumption) ?rt98; (case at98 => (simp only [List.getElem?_toArray, List.getElem?_cons_zero, List.getElem?_cons_succ]; rfl)); (case bt98 => exact fun _ _ _ h => h); (case ct98 => kernel_rfl); (case dt98 => (intro W hW; exact exec_load 24 _ rfl _ rfl _ (run_load_arr ((HQ2.out.under HC.out.2.2).under hW) Tryd.underlying24 rfl info26))); (case' rt98 => simp only [Act.put, List.setIfInBounds_toArray, List.set_cons_zero, List.set_cons_succ]))
        (refine held_take (i := 9) (oi := ?ot99) (v := ?vt99) ?at99 (by kernel_rfl) (by kernel_rfl) (by kernel_rfl) ?bt99 ?ct99 ?dt99 (by assumption) ?rt99; (case at99 => (simp only [List.getElem?_toArray, List.getElem?_cons_zero, List.getElem?_cons_succ]; rfl)); (case bt99 => exact fun _ _ _ h => h); (case ct99 => kernel_rfl); (case dt99 => (intro W hW; (try dsimp only at hW); go_split_ands; go_simp; (try with_reducible rfl))); (case' rt99 => simp only [Act.put, List.setIfInBounds_toArray, List.set_cons_zero, List.set_cons_succ]))
        (refine held_take (i := 10) (oi := ?ot100) (v := ?vt100) ?at100 (by kernel_rfl) (by kernel_rfl) (by kernel_rfl) ?bt100 ?ct100 ?dt100 (by assumption) ?rt100; (case at100 => (simp only [List.getElem?_toArray, List.getElem?_cons_zero, List.getElem?_cons_succ]; rfl)); (case bt100 => exact fun _ _ _ h => h); (case ct100 => kernel_rfl); (case dt100 => (intro W hW; (try dsimp only at hW); go_split_ands; go_simp; (try with_reducible rfl))); (case' rt100 => simp only [Act.put, List.setIfInBounds_toArray, List.set_cons_zero, List.set_cons_succ]))
        (refine held_take (i := 11) (oi := ?ot101) (v := ?vt101) ?at101 (by kernel_rfl) (by kernel_rfl) (by kernel_rfl) ?bt101 ?ct101 ?dt101 (by assumption) ?rt101; (case at101 => (simp only [List.getElem?_toArray, List.getElem?_cons_zero, List.getElem?_cons_succ]; rfl)); (case bt101 => exact fun _ _ _ h => h); (case ct101 => kernel_rfl); (case dt101 => (intro W hW; (try dsimp only at hW); go_split_ands; go_simp; (try with_reducible rfl))); (case' rt101 => simp only [Act.put, List.setIfInBounds_toArray, List.set_cons_zero, List.set_cons_succ]))
        refine held_one (i := 3) (oi := ?ot102) (by kernel_rfl) ?at102 ?ct102 (fun K3 hK3 => ?_)
        (case at102 => (simp only [List.getElem?_toArray, List.getElem?_cons_zero, List.getElem?_cons_succ]; rfl))
        (case ct102 => kernel_rfl)
        refine ow_build1 _ rfl b rfl ?_
        refine hK3 _ _ (hS.keep ((Below.refl _ _).alloc (Nat.le_refl _) _)) (fun hS3 => ?_)
        clear hK3 K3
        have hrow := nrow_one (Arr.new Wc.drew 24 32 (bys b))
        refine held_one (i := 5) (oi := ?ot103) (by kernel_rfl) ?at103 ?ct103 (fun K5 hK5 => ?_)
        (case at103 => (simp only [List.getElem?_toArray, List.getElem?_cons_zero, List.getElem?_cons_succ]; rfl))
        (case ct103 => kernel_rfl)
        have hcall := root_any leaf idx hidx (some ⟨Wc.drew.heap.size, 0, none⟩) 1 [b] seed _ hrow (tabs_below HT1.out (Below.trans HC.out.2.2 (Below.mono hS3 (show Below _ _ _ from HC.out.2.2).size)))
        rw [HRT.out] at hcall
        go_simp
        refine hcall.mono ?_
        rintro e y5 ⟨rfl, hd⟩
        refine hK5 _ _ (hS3.keep hd) (fun hS5 => ?_)
        clear hd hK5 K5
        refine held_one (i := 12) (oi := ?ot104) (by kernel_rfl) ?at104 ?ct104 (fun K12 hK12 => ?_)
        (case at104 => (simp only [List.getElem?_toArray, List.getElem?_cons_zero, List.getElem?_cons_succ]; rfl))
        (case ct104 => kernel_rfl)
        go_simp
        refine (rrand_any b leaf seed 0 0 2 0 0 i1 0 ⟨by decide, by decide, by decide, by decide, by decide, hi1l, by decide⟩ _ (tabs_below HT1.out (Below.trans HC.out.2.2 (Below.mono hS5 (show Below _ _ _ from HC.out.2.2).size)))).mono ?_
        rintro e y12 ⟨rfl, hd⟩
        refine hK12 _ _ (hS5.keep hd) (fun hS12 => ?_)
        clear hd hK12 K12
        (refine held_take (i := 13) (oi := ?ot105) (v := .bool true) ?at105 (by kernel_rfl) (by kernel_rfl) (by kernel_rfl) ?bt105 ?ct105 ?dt105 (by assumption) ?rt105; (case at105 => (simp only [List.getElem?_toArray, List.getElem?_cons_zero, List.getElem?_cons_succ]; rfl)); (case bt105 => exact fun _ _ _ h => h); (case ct105 => kernel_rfl); (case dt105 => (intro W hW; exact exec_eql32 _ _ _ rfl (randF b leaf seed 0 0 2 0 0 i1) rfl rfl W)); (case' rt105 => simp only [Act.put, List.setIfInBounds_toArray, List.set_cons_zero, List.set_cons_succ]))
        (refine held_take (i := 14) (oi := ?ot106) (v := ?vt106) ?at106 (by kernel_rfl) (by kernel_rfl) (by kernel_rfl) ?bt106 ?ct106 ?dt106 (by assumption) ?rt106; (case at106 => (simp only [List.getElem?_toArray, List.getElem?_cons_zero, List.getElem?_cons_succ]; rfl)); (case bt106 => exact fun _ _ _ h => h); (case ct106 => kernel_rfl); (case dt106 => (intro W hW; (try dsimp only at hW); go_split_ands; go_simp; (try with_reducible rfl))); (case' rt106 => simp only [Act.put, List.setIfInBounds_toArray, List.set_cons_zero, List.set_cons_succ]))
        refine wpAnyH_done (by kernel_rfl) ?_ _
        go_wp2
        go_ret
        exact ⟨rfl, HB.out.trans ((Below.trans HC.out.2.2 (Below.mono hS12 (show Below _ _ _ from HC.out.2.2).size)).mono HB.out.size)⟩
      · have hb0 : idx % 2 = 0 := by omega
        rw [hb0] at hbit
        have HRT : Hid (rootD leaf idx [b] seed = randF leaf b seed 0 0 2 0 0 i1) := Lib.hid (by
          unfold rootD
          rw [if_pos (by simp)]
          show rootK (joinR seed 2 0) idx [b] leaf (0 + 1) = _
          rw [rootK_succ, if_neg (by simpa using hb), HI1.out]
          rfl)
        have HC := Lib.hid (And.intro HI.out.1 (And.intro HI.out.2.1 HI.out.2.2.1))
        go_upto_region 8 with fail
        obtain ⟨Wc, hWc⟩ : ∃ Wc, Wc = wc := ⟨_, rfl⟩
        rw [← hWc] at HC
        rw [← hWc]
        clear hWc HI
        refine wp_region_held_drew (S := fun Y => VS Wc Y) (by kernel_rfl) (VS.begin Wc) (fun hS => ?_)
        (refine held_take (i := 0) (oi := ?ot107) (v := .agg (vec 32 (bys leaf))) ?at107 (by kernel_rfl) (by kernel_rfl) (by kernel_rfl) ?bt107 ?ct107 ?dt107 (by assumption) ?rt107; (case at107 => (simp only [List.getElem?_toArray, List.getElem?_cons_zero]; rfl)); (case bt107 => exact fun _ _ _ h => h); (case ct107 => kernel_rfl); (case dt107 => (intro W hW; exact exec_load 24 _ rfl _ rfl _ (run_load_arr ((HQ0.out.under HC.out.2.2).under hW) Tryd.underlying24 rfl info26))); (case' rt107 => simp only [Act.put, List.setIfInBounds_toArray, List.set_cons_zero, List.set_cons_succ]))
        (refine held_take (i := 1) (oi := ?ot108) (v := ?vt108) ?at108 (by kernel_rfl) (by kernel_rfl) (by kernel_rfl) ?bt108 ?ct108 ?dt108 (by assumption) ?rt108; (case at108 => (simp only [List.getElem?_toArray, List.getElem?_cons_zero, List.getElem?_cons_succ]; rfl)); (case bt108 => exact fun _ _ _ h => h); (case ct108 => kernel_rfl); (case dt108 => (intro W hW; (try dsimp only at hW); go_split_ands; go_simp; (try with_reducible rfl))); (case' rt108 => simp only [Act.put, List.setIfInBounds_toArray, List.set_cons_zero, List.set_cons_succ]))
        (refine held_take (i := 2) (oi := ?ot109) (v := .agg (vec 32 (bys b))) ?at109 (by kernel_rfl) (by kernel_rfl) (by kernel_rfl) ?bt109 ?ct109 ?dt109 (by assumption) ?rt109; (case at109 => (simp only [List.getElem?_toArray, List.getElem?_cons_zero, List.getElem?_cons_succ]; rfl)); (case bt109 => exact fun _ _ _ h => h); (case ct109 => kernel_rfl); (case dt109 => (intro W hW; exact exec_load 24 _ rfl _ rfl _ (run_load_arr ((HQ1.out.under HC.out.2.2).under hW) Tryd.underlying24 rfl info26))); (case' rt109 => simp only [Act.put, List.setIfInBounds_toArray, List.set_cons_zero, List.set_cons_succ]))
        (refine held_take (i := 4) (oi := ?ot110) (v := .agg (vec 32 (bys seed))) ?at110 (by kernel_rfl) (by kernel_rfl) (by kernel_rfl) ?bt110 ?ct110 ?dt110 (by assumption) ?rt110; (case at110 => (simp only [List.getElem?_toArray, List.getElem?_cons_zero, List.getElem?_cons_succ]; rfl)); (case bt110 => exact fun _ _ _ h => h); (case ct110 => kernel_rfl); (case dt110 => (intro W hW; exact exec_load 24 _ rfl _ rfl _ (run_load_arr ((HQ2.out.under HC.out.2.2).under hW) Tryd.underlying24 rfl info26))); (case' rt110 => simp only [Act.put, List.setIfInBounds_toArray, List.set_cons_zero, List.set_cons_succ]))
        (refine held_take (i := 6) (oi := ?ot111) (v := .agg (vec 32 (bys leaf))) ?at111 (by kernel_rfl) (by kernel_rfl) (by kernel_rfl) ?bt111 ?ct111 ?dt111 (by assumption) ?rt111; (case at111 => (simp only [List.getElem?_toArray, List.getElem?_cons_zero, List.getElem?_cons_succ]; rfl)); (case bt111 => exact fun _ _ _ h => h); (case ct111 => kernel_rfl); (case dt111 => (intro W hW; exact exec_load 24 _ rfl _ rfl _ (run_load_arr (HC.out.1.under hW) Tryd.underlying24 rfl info26))); (case' rt111 => simp only [Act.put, List.setIfInBounds_toArray, List.set_cons_zero, List.set_cons_succ]))
        (refine held_take (i := 7) (oi := ?ot112) (v := .agg (vec 32 (bys b))) ?at112 (by kernel_rfl) (by kernel_rfl) (by kernel_rfl) ?bt112 ?ct112 ?dt112 (by assumption) ?rt112; (case at112 => (simp only [List.getElem?_toArray, List.getElem?_cons_zero, List.getElem?_cons_succ]; rfl)); (case bt112 => exact fun _ _ _ h => h); (case ct112 => kernel_rfl); (case dt112 => (intro W hW; exact exec_load 24 _ rfl _ rfl _ (run_load_arr (HC.out.2.1.under hW) Tryd.underlying24 rfl info26))); (case' rt112 => simp only [Act.put, List.setIfInBounds_toArray, List.set_cons_zero, List.set_cons_succ]))
        (refine held_take (i := 8) (oi := ?ot113) (v := .agg (vec 32 (bys seed))) ?at113 (by kernel_rfl) (by kernel_rfl) (by kernel_rfl) ?bt113 ?ct113 ?dt113 (by assumption) ?rt113; (case at113 => (simp only [List.getElem?_toArray, List.getElem?_cons_zero, List.getElem?_cons_succ]; rfl)); (case bt113 => exact fun _ _ _ h => h); (case ct113 => kernel_rfl); (case dt113 => (intro W hW; exact exec_load 24 _ rfl _ rfl _ (run_load_arr ((HQ2.out.under HC.out.2.2).under hW) Tryd.underlying24 rfl info26))); (case' rt113 => simp only [Act.put, List.setIfInBounds_toArray, List.set_cons_zero, List.set_cons_succ]))
        (refine held_take (i := 9) (oi := ?ot114) (v := ?vt114) ?at114 (by kernel_rfl) (by kernel_rfl) (by kernel_rfl) ?bt114 ?ct114 ?dt114 (by assumption) ?rt114; (case at114 => (simp only [List.getElem?_toArray, List.getElem?_cons_zero, List.getElem?_cons_succ]; rfl)); (case bt114 => exact fun _ _ _ h => h); (case ct114 => kernel_rfl); (case dt114 => (intro W hW; (try dsimp only at hW); go_split_ands; go_simp; (try with_reducible rfl))); (case' rt114 => simp only [Act.put, List.setIfInBounds_toArray, List.set_cons_zero, List.set_cons_succ]))
        (refine held_take (i := 10) (oi := ?ot115) (v := ?vt115) ?at115 (by kernel_rfl) (by kernel_rfl) (by kernel_rfl) ?bt115 ?ct115 ?dt115 (by assumption) ?rt115; (case at115 => (simp only [List.getElem?_toArray, List.getElem?_cons_zero, List.getElem?_cons_succ]; rfl)); (case bt115 => exact fun _ _ _ h => h); (case ct115 => kernel_rfl); (case dt115 => (intro W hW; (try dsimp only at hW); go_split_ands; go_simp; (try with_reducible rfl))); (case' rt115 => simp only [Act.put, List.setIfInBounds_toArray, List.set_cons_zero, List.set_cons_succ]))
        (refine held_take (i := 11) (oi := ?ot116) (v := ?vt116) ?at116 (by kernel_rfl) (by kernel_rfl) (by kernel_rfl) ?bt116 ?ct116 ?dt116 (by assumption) ?rt116; (case at116 => (simp only [List.getElem?_toArray, List.getElem?_cons_zero, List.getElem?_cons_succ]; rfl)); (case bt116 => exact fun _ _ _ h => h); (case ct116 => kernel_rfl); (case dt116 => (intro W hW; (try dsimp only at hW); go_split_ands; go_simp; (try with_reducible rfl))); (case' rt116 => simp only [Act.put, List.setIfInBounds_toArray, List.set_cons_zero, List.set_cons_succ]))
        refine held_one (i := 3) (oi := ?ot117) (by kernel_rfl) ?at117 ?ct117 (fun K3 hK3 => ?_)
        (case at117 => (simp only [List.getElem?_toArray, List.getElem?_cons_zero, List.getElem?_cons_succ]; rfl))
        (case ct117 => kernel_rfl)
        refine ow_build1 _ rfl b rfl ?_
        refine hK3 _ _ (hS.keep ((Below.refl _ _).alloc (Nat.le_refl _) _)) (fun hS3 => ?_)
        clear hK3 K3
        have hrow := nrow_one (Arr.new Wc.drew 24 32 (bys b))
        refine held_one (i := 5) (oi := ?ot118) (by kernel_rfl) ?at118 ?ct118 (fun K5 hK5 => ?_)
        (case at118 => (simp only [List.getElem?_toArray, List.getElem?_cons_zero, List.getElem?_cons_succ]; rfl))
        (case ct118 => kernel_rfl)
        have hcall := root_any leaf idx hidx (some ⟨Wc.drew.heap.size, 0, none⟩) 1 [b] seed _ hrow (tabs_below HT1.out (Below.trans HC.out.2.2 (Below.mono hS3 (show Below _ _ _ from HC.out.2.2).size)))
        rw [HRT.out] at hcall
        go_simp
        refine hcall.mono ?_
        rintro e y5 ⟨rfl, hd⟩
        refine hK5 _ _ (hS3.keep hd) (fun hS5 => ?_)
        clear hd hK5 K5
        refine held_one (i := 12) (oi := ?ot119) (by kernel_rfl) ?at119 ?ct119 (fun K12 hK12 => ?_)
        (case at119 => (simp only [List.getElem?_toArray, List.getElem?_cons_zero, List.getElem?_cons_succ]; rfl))
        (case ct119 => kernel_rfl)
        go_simp
        refine (rrand_any leaf b seed 0 0 2 0 0 i1 0 ⟨by decide, by decide, by decide, by decide, by decide, hi1l, by decide⟩ _ (tabs_below HT1.out (Below.trans HC.out.2.2 (Below.mono hS5 (show Below _ _ _ from HC.out.2.2).size)))).mono ?_
        rintro e y12 ⟨rfl, hd⟩
        refine hK12 _ _ (hS5.keep hd) (fun hS12 => ?_)
        clear hd hK12 K12
        (refine held_take (i := 13) (oi := ?ot120) (v := .bool true) ?at120 (by kernel_rfl) (by kernel_rfl) (by kernel_rfl) ?bt120 ?ct120 ?dt120 (by assumption) ?rt120; (case at120 => (simp only [List.getElem?_toArray, List.getElem?_cons_zero, List.getElem?_cons_succ]; rfl)); (case bt120 => exact fun _ _ _ h => h); (case ct120 => kernel_rfl); (case dt120 => (intro W hW; exact exec_eql32 _ _ _ rfl (randF leaf b seed 0 0 2 0 0 i1) rfl rfl W)); (case' rt120 => simp only [Act.put, List.setIfInBounds_toArray, List.set_cons_zero, List.set_cons_succ]))
        (refine held_take (i := 14) (oi := ?ot121) (v := ?vt121) ?at121 (by kernel_rfl) (by kernel_rfl) (by kernel_rfl) ?bt121 ?ct121 ?dt121 (by assumption) ?rt121; (case at121 => (simp only [List.getElem?_toArray, List.getElem?_cons_zero, List.getElem?_cons_succ]; rfl)); (case bt121 => exact fun _ _ _ h => h); (case ct121 => kernel_rfl); (case dt121 => (intro W hW; (try dsimp only at hW); go_split_ands; go_simp; (try with_reducible rfl))); (case' rt121 => simp only [Act.put, List.setIfInBounds_toArray, List.set_cons_zero, List.set_cons_succ]))
        refine wpAnyH_done (by kernel_rfl) ?_ _
        go_wp2
        go_ret
        exact ⟨rfl, HB.out.trans ((Below.trans HC.out.2.2 (Below.mono hS12 (show Below _ _ _ from HC.out.2.2).size)).mono HB.out.size)⟩
  · have t0 : ((a.length : Int) != 0) = true := bne_iff_ne.2 (by omega)
    by_cases hlen : 40 < a.length
    · have t1 : (40 : Int) < (a.length : Int) := by omega
      go_enter Tryd.func7, Tryd.ntmps7
      go_upto_region 1 with fail
      rw [← HW.out]
      clear HW
      go_upto_region 4 with (go_at_call 8; refine (awake7_any _ (tabs_below HT.out HB0.out)).mono ?_; rintro e V1 ⟨rfl, hd⟩; have HD := Lib.hid hd; clear hd)
      have HB := Lib.hid (HB0.out.trans (HD.out.mono HB0.out.size))
      have HQ0 := Lib.hid (HP0.out.under HD.out)
      have HQ1 := Lib.hid (HP1.out.under HD.out)
      have HQ2 := Lib.hid (HP2.out.under HD.out)
      have HSa : Hid (NRow V1 V1.heap.size Aa a) := Lib.hid ((HRa.out.below HB.out).wide HB.out.size)
      have HT1 := Lib.hid (tabs_below HT.out HB.out)
      clear HD HP0 HP1 HP2
      refine wp_region_held_drew (S := fun Y => VS V1 Y) (by kernel_rfl) (VS.begin V1) (fun hS => ?_)
      (refine held_take (i := 0) (oi := ?ot122) (v := ?vt122) ?at122 (by kernel_rfl) (by kernel_rfl) (by kernel_rfl) ?bt122 ?ct122 ?dt122 (by assumption) ?rt122; (case at122 => (simp only [List.getElem?_toArray, List.getElem?_cons_zero]; rfl)); (case bt122 => exact fun _ _ _ h => h); (case ct122 => kernel_rfl); (case dt122 => (intro W hW; (try dsimp only at hW); go_split_ands; go_simp; (try with_reducible rfl))); (case' rt122 => simp only [Act.put, List.setIfInBounds_toArray, List.set_cons_zero, List.set_cons_succ]))
      (refine held_take (i := 1) (oi := ?ot123) (v := ?vt123) ?at123 (by kernel_rfl) (by kernel_rfl) (by kernel_rfl) ?bt123 ?ct123 ?dt123 (by assumption) ?rt123; (case at123 => (simp only [List.getElem?_toArray, List.getElem?_cons_zero, List.getElem?_cons_succ]; rfl)); (case bt123 => exact fun _ _ _ h => h); (case ct123 => kernel_rfl); (case dt123 => (intro W hW; (try dsimp only at hW); go_split_ands; go_simp; (try with_reducible rfl))); (case' rt123 => simp only [Act.put, List.setIfInBounds_toArray, List.set_cons_zero, List.set_cons_succ]))
      (refine held_take (i := 2) (oi := ?ot124) (v := .bool true) ?at124 (by kernel_rfl) (by kernel_rfl) (by kernel_rfl) ?bt124 ?ct124 ?dt124 (by assumption) ?rt124; (case at124 => (simp only [List.getElem?_toArray, List.getElem?_cons_zero, List.getElem?_cons_succ]; rfl)); (case bt124 => exact fun _ _ _ h => h); (case ct124 => kernel_rfl); (case dt124 => (intro W hW; (try dsimp only at hW); go_simp; (try with_reducible rfl))); (case' rt124 => simp only [Act.put, List.setIfInBounds_toArray, List.set_cons_zero, List.set_cons_succ]))
      (refine held_take (i := 3) (oi := ?ot125) (v := ?vt125) ?at125 (by kernel_rfl) (by kernel_rfl) (by kernel_rfl) ?bt125 ?ct125 ?dt125 (by assumption) ?rt125; (case at125 => (simp only [List.getElem?_toArray, List.getElem?_cons_zero, List.getElem?_cons_succ]; rfl)); (case bt125 => exact fun _ _ _ h => h); (case ct125 => kernel_rfl); (case dt125 => (intro W hW; (try dsimp only at hW); go_split_ands; go_simp; (try with_reducible rfl))); (case' rt125 => simp only [Act.put, List.setIfInBounds_toArray, List.set_cons_zero, List.set_cons_succ]))
      (refine held_skip (i := 4) (oi := ?ot126) ?at126 (by kernel_rfl) (by kernel_rfl) (by kernel_rfl) ?bt126 ?ct126 (by assumption) ?rt126; (case at126 => (simp only [List.getElem?_toArray, List.getElem?_cons_zero, List.getElem?_cons_succ]; rfl)); (case bt126 => exact fun _ _ _ h => h); (case ct126 => kernel_rfl); (case' rt126 => simp only [Act.put, List.setIfInBounds_toArray, List.set_cons_zero, List.set_cons_succ]))
      (refine held_skip (i := 5) (oi := ?ot127) ?at127 (by kernel_rfl) (by kernel_rfl) (by kernel_rfl) ?bt127 ?ct127 (by assumption) ?rt127; (case at127 => (simp only [List.getElem?_toArray, List.getElem?_cons_zero, List.getElem?_cons_succ]; rfl)); (case bt127 => exact fun _ _ _ h => h); (case ct127 => kernel_rfl); (case' rt127 => simp only [Act.put, List.setIfInBounds_toArray, List.set_cons_zero, List.set_cons_succ]))
      (refine held_skip (i := 6) (oi := ?ot128) ?at128 (by kernel_rfl) (by kernel_rfl) (by kernel_rfl) ?bt128 ?ct128 (by assumption) ?rt128; (case at128 => (simp only [List.getElem?_toArray, List.getElem?_cons_zero, List.getElem?_cons_succ]; rfl)); (case bt128 => exact fun _ _ _ h => h); (case ct128 => kernel_rfl); (case' rt128 => simp only [Act.put, List.setIfInBounds_toArray, List.set_cons_zero, List.set_cons_succ]))
      (refine held_skip (i := 7) (oi := ?ot129) ?at129 (by kernel_rfl) (by kernel_rfl) (by kernel_rfl) ?bt129 ?ct129 (by assumption) ?rt129; (case at129 => (simp only [List.getElem?_toArray, List.getElem?_cons_zero, List.getElem?_cons_succ]; rfl)); (case bt129 => exact fun _ _ _ h => h); (case ct129 => kernel_rfl); (case' rt129 => simp only [Act.put, List.setIfInBounds_toArray, List.set_cons_zero, List.set_cons_succ]))
      (refine held_skip (i := 8) (oi := ?ot130) ?at130 (by kernel_rfl) (by kernel_rfl) (by kernel_rfl) ?bt130 ?ct130 (by assumption) ?rt130; (case at130 => (simp only [List.getElem?_toArray, List.getElem?_cons_zero, List.getElem?_cons_succ]; rfl)); (case bt130 => exact fun _ _ _ h => h); (case ct130 => kernel_rfl); (case' rt130 => simp only [Act.put, List.setIfInBounds_toArray, List.set_cons_zero, List.set_cons_succ]))
      (refine held_skip (i := 9) (oi := ?ot131) ?at131 (by kernel_rfl) (by kernel_rfl) (by kernel_rfl) ?bt131 ?ct131 (by assumption) ?rt131; (case at131 => (simp only [List.getElem?_toArray, List.getElem?_cons_zero, List.getElem?_cons_succ]; rfl)); (case bt131 => exact fun _ _ _ h => h); (case ct131 => kernel_rfl); (case' rt131 => simp only [Act.put, List.setIfInBounds_toArray, List.set_cons_zero, List.set_cons_succ]))
      (refine held_skip (i := 10) (oi := ?ot132) ?at132 (by kernel_rfl) (by kernel_rfl) (by kernel_rfl) ?bt132 ?ct132 (by assumption) ?rt132; (case at132 => (simp only [List.getElem?_toArray, List.getElem?_cons_zero, List.getElem?_cons_succ]; rfl)); (case bt132 => exact fun _ _ _ h => h); (case ct132 => kernel_rfl); (case' rt132 => simp only [Act.put, List.setIfInBounds_toArray, List.set_cons_zero, List.set_cons_succ]))
      (refine held_skip (i := 11) (oi := ?ot133) ?at133 (by kernel_rfl) (by kernel_rfl) (by kernel_rfl) ?bt133 ?ct133 (by assumption) ?rt133; (case at133 => (simp only [List.getElem?_toArray, List.getElem?_cons_zero, List.getElem?_cons_succ]; rfl)); (case bt133 => exact fun _ _ _ h => h); (case ct133 => kernel_rfl); (case' rt133 => simp only [Act.put, List.setIfInBounds_toArray, List.set_cons_zero, List.set_cons_succ]))
      (refine held_skip (i := 12) (oi := ?ot134) ?at134 (by kernel_rfl) (by kernel_rfl) (by kernel_rfl) ?bt134 ?ct134 (by assumption) ?rt134; (case at134 => (simp only [List.getElem?_toArray, List.getElem?_cons_zero, List.getElem?_cons_succ]; rfl)); (case bt134 => exact fun _ _ _ h => h); (case ct134 => kernel_rfl); (case' rt134 => simp only [Act.put, List.setIfInBounds_toArray, List.set_cons_zero, List.set_cons_succ]))
      (refine held_skip (i := 13) (oi := ?ot135) ?at135 (by kernel_rfl) (by kernel_rfl) (by kernel_rfl) ?bt135 ?ct135 (by assumption) ?rt135; (case at135 => (simp only [List.getElem?_toArray, List.getElem?_cons_zero, List.getElem?_cons_succ]; rfl)); (case bt135 => exact fun _ _ _ h => h); (case ct135 => kernel_rfl); (case' rt135 => simp only [Act.put, List.setIfInBounds_toArray, List.set_cons_zero, List.set_cons_succ]))
      (refine held_skip (i := 14) (oi := ?ot136) ?at136 (by kernel_rfl) (by kernel_rfl) (by kernel_rfl) ?bt136 ?ct136 (by assumption) ?rt136; (case at136 => (simp only [List.getElem?_toArray, List.getElem?_cons_zero, List.getElem?_cons_succ]; rfl)); (case bt136 => exact fun _ _ _ h => h); (case ct136 => kernel_rfl); (case' rt136 => simp only [Act.put, List.setIfInBounds_toArray, List.set_cons_zero, List.set_cons_succ]))
      (refine held_take (i := 15) (oi := ?ot137) (v := ?vt137) ?at137 (by kernel_rfl) (by kernel_rfl) (by kernel_rfl) ?bt137 ?ct137 ?dt137 (by assumption) ?rt137; (case at137 => (simp only [List.getElem?_toArray, List.getElem?_cons_zero, List.getElem?_cons_succ]; rfl)); (case bt137 => exact fun _ _ _ h => h); (case ct137 => kernel_rfl); (case dt137 => (intro W hW; (try dsimp only at hW); go_split_ands; go_simp; (try with_reducible rfl))); (case' rt137 => simp only [Act.put, List.setIfInBounds_toArray, List.set_cons_zero, List.set_cons_succ]))
      (refine held_take (i := 16) (oi := ?ot138) (v := ?vt138) ?at138 (by kernel_rfl) (by kernel_rfl) (by kernel_rfl) ?bt138 ?ct138 ?dt138 (by assumption) ?rt138; (case at138 => (simp only [List.getElem?_toArray, List.getElem?_cons_zero, List.getElem?_cons_succ]; rfl)); (case bt138 => exact fun _ _ _ h => h); (case ct138 => kernel_rfl); (case dt138 => (intro W hW; (try dsimp only at hW); go_split_ands; go_simp; (try with_reducible rfl))); (case' rt138 => simp only [Act.put, List.setIfInBounds_toArray, List.set_cons_zero, List.set_cons_succ]))
      refine wpAnyH_done (by kernel_rfl) ?_ _
      go_wp2
      go_ret
      exact ⟨rfl, hS.below0 HB.out⟩
    · have t1 : ¬ (40 : Int) < (a.length : Int) := by omega
      go_enter Tryd.func7, Tryd.ntmps7
      go_upto_region 1 with fail
      rw [← HW.out]
      clear HW
      go_upto_region 4 with (go_at_call 8; refine (awake7_any _ (tabs_below HT.out HB0.out)).mono ?_; rintro e V1 ⟨rfl, hd⟩; have HD := Lib.hid hd; clear hd)
      have HB := Lib.hid (HB0.out.trans (HD.out.mono HB0.out.size))
      have HQ0 := Lib.hid (HP0.out.under HD.out)
      have HQ1 := Lib.hid (HP1.out.under HD.out)
      have HQ2 := Lib.hid (HP2.out.under HD.out)
      have HSa : Hid (NRow V1 V1.heap.size Aa a) := Lib.hid ((HRa.out.below HB.out).wide HB.out.size)
      have HT1 := Lib.hid (tabs_below HT.out HB.out)
      clear HD HP0 HP1 HP2
      refine wp_region_held_drew (S := fun Y => VS V1 Y) (by kernel_rfl) (VS.begin V1) (fun hS => ?_)
      (refine held_take (i := 0) (oi := ?ot139) (v := ?vt139) ?at139 (by kernel_rfl) (by kernel_rfl) (by kernel_rfl) ?bt139 ?ct139 ?dt139 (by assumption) ?rt139; (case at139 => (simp only [List.getElem?_toArray, List.getElem?_cons_zero]; rfl)); (case bt139 => exact fun _ _ _ h => h); (case ct139 => kernel_rfl); (case dt139 => (intro W hW; (try dsimp only at hW); go_split_ands; go_simp; (try with_reducible rfl))); (case' rt139 => simp only [Act.put, List.setIfInBounds_toArray, List.set_cons_zero, List.set_cons_succ]))
      (refine held_take (i := 1) (oi := ?ot140) (v := ?vt140) ?at140 (by kernel_rfl) (by kernel_rfl) (by kernel_rfl) ?bt140 ?ct140 ?dt140 (by assumption) ?rt140; (case at140 => (simp only [List.getElem?_toArray, List.getElem?_cons_zero, List.getElem?_cons_succ]; rfl)); (case bt140 => exact fun _ _ _ h => h); (case ct140 => kernel_rfl); (case dt140 => (intro W hW; (try dsimp only at hW); go_split_ands; go_simp; (try with_reducible rfl))); (case' rt140 => simp only [Act.put, List.setIfInBounds_toArray, List.set_cons_zero, List.set_cons_succ]))
      (refine held_take (i := 2) (oi := ?ot141) (v := .bool false) ?at141 (by kernel_rfl) (by kernel_rfl) (by kernel_rfl) ?bt141 ?ct141 ?dt141 (by assumption) ?rt141; (case at141 => (simp only [List.getElem?_toArray, List.getElem?_cons_zero, List.getElem?_cons_succ]; rfl)); (case bt141 => exact fun _ _ _ h => h); (case ct141 => kernel_rfl); (case dt141 => (intro W hW; (try dsimp only at hW); go_simp; (try with_reducible rfl))); (case' rt141 => simp only [Act.put, List.setIfInBounds_toArray, List.set_cons_zero, List.set_cons_succ]))
      (refine held_take (i := 3) (oi := ?ot142) (v := ?vt142) ?at142 (by kernel_rfl) (by kernel_rfl) (by kernel_rfl) ?bt142 ?ct142 ?dt142 (by assumption) ?rt142; (case at142 => (simp only [List.getElem?_toArray, List.getElem?_cons_zero, List.getElem?_cons_succ]; rfl)); (case bt142 => exact fun _ _ _ h => h); (case ct142 => kernel_rfl); (case dt142 => (intro W hW; (try dsimp only at hW); go_split_ands; go_simp; (try with_reducible rfl))); (case' rt142 => simp only [Act.put, List.setIfInBounds_toArray, List.set_cons_zero, List.set_cons_succ]))
      (refine held_take (i := 4) (oi := ?ot143) (v := .agg (vec 32 (bys leaf))) ?at143 (by kernel_rfl) (by kernel_rfl) (by kernel_rfl) ?bt143 ?ct143 ?dt143 (by assumption) ?rt143; (case at143 => (simp only [List.getElem?_toArray, List.getElem?_cons_zero, List.getElem?_cons_succ]; rfl)); (case bt143 => exact fun _ _ _ h => h); (case ct143 => kernel_rfl); (case dt143 => (intro W hW; exact exec_load 24 _ rfl _ rfl _ (run_load_arr (HQ0.out.under hW) Tryd.underlying24 rfl info26))); (case' rt143 => simp only [Act.put, List.setIfInBounds_toArray, List.set_cons_zero, List.set_cons_succ]))
      (refine held_take (i := 5) (oi := ?ot144) (v := ?vt144) ?at144 (by kernel_rfl) (by kernel_rfl) (by kernel_rfl) ?bt144 ?ct144 ?dt144 (by assumption) ?rt144; (case at144 => (simp only [List.getElem?_toArray, List.getElem?_cons_zero, List.getElem?_cons_succ]; rfl)); (case bt144 => exact fun _ _ _ h => h); (case ct144 => kernel_rfl); (case dt144 => (intro W hW; (try dsimp only at hW); go_split_ands; go_simp; (try with_reducible rfl))); (case' rt144 => simp only [Act.put, List.setIfInBounds_toArray, List.set_cons_zero, List.set_cons_succ]))
      (refine held_take (i := 6) (oi := ?ot145) (v := ?vt145) ?at145 (by kernel_rfl) (by kernel_rfl) (by kernel_rfl) ?bt145 ?ct145 ?dt145 (by assumption) ?rt145; (case at145 => (simp only [List.getElem?_toArray, List.getElem?_cons_zero, List.getElem?_cons_succ]; rfl)); (case bt145 => exact fun _ _ _ h => h); (case ct145 => kernel_rfl); (case dt145 => (intro W hW; (try dsimp only at hW); go_split_ands; go_simp; (try with_reducible rfl))); (case' rt145 => simp only [Act.put, List.setIfInBounds_toArray, List.set_cons_zero, List.set_cons_succ]))
      (refine held_take (i := 7) (oi := ?ot146) (v := .agg (vec 32 (bys seed))) ?at146 (by kernel_rfl) (by kernel_rfl) (by kernel_rfl) ?bt146 ?ct146 ?dt146 (by assumption) ?rt146; (case at146 => (simp only [List.getElem?_toArray, List.getElem?_cons_zero, List.getElem?_cons_succ]; rfl)); (case bt146 => exact fun _ _ _ h => h); (case ct146 => kernel_rfl); (case dt146 => (intro W hW; exact exec_load 24 _ rfl _ rfl _ (run_load_arr (HQ2.out.under hW) Tryd.underlying24 rfl info26))); (case' rt146 => simp only [Act.put, List.setIfInBounds_toArray, List.set_cons_zero, List.set_cons_succ]))
      (refine held_take (i := 9) (oi := ?ot147) (v := .agg (vec 32 (bys leaf))) ?at147 (by kernel_rfl) (by kernel_rfl) (by kernel_rfl) ?bt147 ?ct147 ?dt147 (by assumption) ?rt147; (case at147 => (simp only [List.getElem?_toArray, List.getElem?_cons_zero, List.getElem?_cons_succ]; rfl)); (case bt147 => exact fun _ _ _ h => h); (case ct147 => kernel_rfl); (case dt147 => (intro W hW; exact exec_load 24 _ rfl _ rfl _ (run_load_arr (HQ0.out.under hW) Tryd.underlying24 rfl info26))); (case' rt147 => simp only [Act.put, List.setIfInBounds_toArray, List.set_cons_zero, List.set_cons_succ]))
      (refine held_take (i := 10) (oi := ?ot148) (v := ?vt148) ?at148 (by kernel_rfl) (by kernel_rfl) (by kernel_rfl) ?bt148 ?ct148 ?dt148 (by assumption) ?rt148; (case at148 => (simp only [List.getElem?_toArray, List.getElem?_cons_zero, List.getElem?_cons_succ]; rfl)); (case bt148 => exact fun _ _ _ h => h); (case ct148 => kernel_rfl); (case dt148 => (intro W hW; (try dsimp only at hW); go_split_ands; go_simp; (try with_reducible rfl))); (case' rt148 => simp only [Act.put, List.setIfInBounds_toArray, List.set_cons_zero, List.set_cons_succ]))
      (refine held_take (i := 11) (oi := ?ot149) (v := ?vt149) ?at149 (by kernel_rfl) (by kernel_rfl) (by kernel_rfl) ?bt149 ?ct149 ?dt149 (by assumption) ?rt149; (case at149 => (simp only [List.getElem?_toArray, List.getElem?_cons_zero, List.getElem?_cons_succ]; rfl)); (case bt149 => exact fun _ _ _ h => h); (case ct149 => kernel_rfl); (case dt149 => (intro W hW; (try dsimp only at hW); go_split_ands; go_simp; (try with_reducible rfl))); (case' rt149 => simp only [Act.put, List.setIfInBounds_toArray, List.set_cons_zero, List.set_cons_succ]))
      (refine held_take (i := 12) (oi := ?ot150) (v := .agg (vec 32 (bys seed))) ?at150 (by kernel_rfl) (by kernel_rfl) (by kernel_rfl) ?bt150 ?ct150 ?dt150 (by assumption) ?rt150; (case at150 => (simp only [List.getElem?_toArray, List.getElem?_cons_zero, List.getElem?_cons_succ]; rfl)); (case bt150 => exact fun _ _ _ h => h); (case ct150 => kernel_rfl); (case dt150 => (intro W hW; exact exec_load 24 _ rfl _ rfl _ (run_load_arr (HQ2.out.under hW) Tryd.underlying24 rfl info26))); (case' rt150 => simp only [Act.put, List.setIfInBounds_toArray, List.set_cons_zero, List.set_cons_succ]))
      refine held_one (i := 8) (oi := ?ot151) (by kernel_rfl) ?at151 ?ct151 (fun K8 hK8 => ?_)
      (case at151 => (simp only [List.getElem?_toArray, List.getElem?_cons_zero, List.getElem?_cons_succ]; rfl))
      (case ct151 => kernel_rfl)
      go_simp
      refine (root_any leaf idx hidx Aa ca a seed _ ((HSa.out.below hS).wide (show Below _ _ _ from hS).size) (tabs_below HT1.out hS)).mono ?_
      rintro e y8 ⟨rfl, hd⟩
      refine hK8 _ _ (hS.keep hd) (fun hS8 => ?_)
      clear hS hd hK8 K8
      refine held_one (i := 13) (oi := ?ot152) (by kernel_rfl) ?at152 ?ct152 (fun K13 hK13 => ?_)
      (case at152 => (simp only [List.getElem?_toArray, List.getElem?_cons_zero, List.getElem?_cons_succ]; rfl))
      (case ct152 => kernel_rfl)
      go_simp
      refine (rroot_any leaf idx hidx Aa ca a seed _ ((HSa.out.below hS8).wide (show Below _ _ _ from hS8).size) (tabs_below HT1.out hS8)).mono ?_
      rintro e y13 ⟨rfl, hd⟩
      refine hK13 _ _ (hS8.keep hd) (fun hS13 => ?_)
      clear hS8 hd hK13 K13
      (refine held_take (i := 14) (oi := ?ot153) (v := .bool true) ?at153 (by kernel_rfl) (by kernel_rfl) (by kernel_rfl) ?bt153 ?ct153 ?dt153 (by assumption) ?rt153; (case at153 => (simp only [List.getElem?_toArray, List.getElem?_cons_zero, List.getElem?_cons_succ]; rfl)); (case bt153 => exact fun _ _ _ h => h); (case ct153 => kernel_rfl); (case dt153 => (intro W hW; exact exec_eql32 _ _ _ rfl (rootD leaf idx a seed) rfl rfl W)); (case' rt153 => simp only [Act.put, List.setIfInBounds_toArray, List.set_cons_zero, List.set_cons_succ]))
      (refine held_take (i := 15) (oi := ?ot154) (v := ?vt154) ?at154 (by kernel_rfl) (by kernel_rfl) (by kernel_rfl) ?bt154 ?ct154 ?dt154 (by assumption) ?rt154; (case at154 => (simp only [List.getElem?_toArray, List.getElem?_cons_zero, List.getElem?_cons_succ]; rfl)); (case bt154 => exact fun _ _ _ h => h); (case ct154 => kernel_rfl); (case dt154 => (intro W hW; (try dsimp only at hW); go_split_ands; go_simp; (try with_reducible rfl))); (case' rt154 => simp only [Act.put, List.setIfInBounds_toArray, List.set_cons_zero, List.set_cons_succ]))
      (refine held_take (i := 16) (oi := ?ot155) (v := ?vt155) ?at155 (by kernel_rfl) (by kernel_rfl) (by kernel_rfl) ?bt155 ?ct155 ?dt155 (by assumption) ?rt155; (case at155 => (simp only [List.getElem?_toArray, List.getElem?_cons_zero, List.getElem?_cons_succ]; rfl)); (case bt155 => exact fun _ _ _ h => h); (case ct155 => kernel_rfl); (case dt155 => (intro W hW; (try dsimp only at hW); go_split_ands; go_simp; (try with_reducible rfl))); (case' rt155 => simp only [Act.put, List.setIfInBounds_toArray, List.set_cons_zero, List.set_cons_succ]))
      refine wpAnyH_done (by kernel_rfl) ?_ _
      go_wp2
      go_ret
      exact ⟨rfl, hS13.below0 HB.out⟩
end Go.Proofs.YtmhdhhdhnkoocaaDoor
