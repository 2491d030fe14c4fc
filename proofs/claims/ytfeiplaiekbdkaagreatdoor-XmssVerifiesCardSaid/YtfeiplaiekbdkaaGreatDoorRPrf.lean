/- The reference's F, H, Msg, Prf. -/
import Derived.Test.YtfeiplaiekbdkaaGreatDoorPrf
namespace Go.Proofs.YtfeiplaiekbdkaaGreatDoor
open Go.RowKit
attribute [local go_sem ↓ high] zeroV26

set_option maxHeartbeats 1000000 in
set_option maxRecDepth 100000 in
theorem rprf_any (key : Nat → UInt8) (l t k a b c m : Nat) (hok : AdOk l t k a b c m) (w : World) (hT : Tabs w) :
    Calls Tryz.prog 73 #[.agg (vec 32 (bys key)), adV l t k a b c m] w fun e w' => e = .returned (.agg (vec 32 (bys (prfF key l t k a b c m)))) ∧ Below w.heap.size w w' := by
  obtain ⟨V, hV⟩ : ∃ V, V = ((w.alloc (.cells (vec 32 (bys key)) 30)).alloc (.cells (adA l t k a b c m) 86)).alloc (.cells (vec 32 (bys zb)) 30) := ⟨_, rfl⟩
  have hA0 : Arr V w.heap.size 30 32 (bys key) := by rw [hV]; exact (((Arr.newAt _ _ _ _ (by simp)).alloc _).alloc _)
  have hA1 : Blk V (w.heap.size + 1) 86 (adA l t k a b c m) := by rw [hV]; exact ((Blk.new _ _ _ (by simp)).alloc _)
  have hA2 : Arr V (w.heap.size + 2) 30 32 (bys zb) := by rw [hV]; exact (Arr.newAt _ _ _ _ (by simp))
  have hB : Below w.heap.size w V := by rw [hV]; exact ((((Below.refl _ _).alloc (by simp <;> omega) _).alloc (by simp <;> omega) _).alloc (by simp <;> omega) _)
  have hsz : V.heap.size = w.heap.size + 3 := by rw [hV]; simp
  have HB1 := Lib.hid (And.intro hB (And.intro hT hok))
  have HA0 := Lib.hid hA0
  have HA1 := Lib.hid hA1
  have HA2 := Lib.hid hA2
  have HW := Lib.hid hV
  have HZ := Lib.hid hsz
  clear hV hB hsz hT hok hA0 hA1 hA2
  go_enter Tryz.func73, Tryz.ntmps73
  go_upto_region 1 with fail
  rw [← HW.out]
  clear HW
  go_upto_region 2 with (first
    | ((with_reducible show wpList _ _ _ (Oper.mk _ (.load _ _) _ _ _ _ :: _) _ _); refine wl_load rfl 86 _ rfl _ rfl _ (HA1.out.load Tryz.underlying86 rfl infoAd) ?_)
    | (go_at_call 99; refine (rbytes_any l t k a b c m HB1.out.2.2 _).mono ?_; rintro e w1 ⟨rfl, hd⟩; have H1 := Lib.hid hd; clear hd)
    | ((with_reducible show wpList _ _ _ (Oper.mk _ (.store _ _ _) _ _ _ _ :: _) _ _); refine wl_store rfl 30 _ _ rfl _ rfl _ rfl (run_store_arr (Arr.new w1 _ _ _) (bys (adB l t k a b c m)) info26 (bys_one _ _)) ?_))
  obtain ⟨g, hg⟩ : ∃ g, g = w1.heap.size := ⟨_, rfl⟩
  obtain ⟨V2, hV2⟩ : ∃ V2, V2 = (w1.alloc (.cells (vec 32 (bys zb)) 30)).setRow w1.heap.size (vec 32 (bys (adB l t k a b c m))) := ⟨_, rfl⟩
  have hb2 : Below V.heap.size V V2 := by rw [hV2]; exact below_row (H1.out.alloc H1.out.size _) H1.out.size _
  have hg2 : w.heap.size + 3 ≤ g := by have := H1.out.size; have := HZ.out; omega
  have hAg : Arr V2 g 30 32 (bys (adB l t k a b c m)) := by rw [hV2, hg]; exact (Arr.new w1 _ _ _).row _
  have hBw : Below w.heap.size w V2 := HB1.out.1.trans (hb2.mono HB1.out.1.size)
  rw [← hV2, ← hg]
  have HA := Lib.hid (Ahead.mk (r := w.heap.size + 2) hBw (tabs_below HB1.out.2.1 hBw) (tabs_far HB1.out.2.1 (by omega)))
  have HK := Lib.hid (HA0.out.under hb2)
  have HR := Lib.hid (HA2.out.under hb2)
  have HG := Lib.hid (And.intro hAg hg2)
  clear hV2 hb2 hg2 hAg hBw hg H1 HA0 HA1 HA2 HZ HB1
  refine wp_region_held_drew (S := fun Y => SR V2 (w.heap.size + 2) Y) (by kernel_rfl) (SR.begin HR.out) (fun hS => ?_)
  (refine held_take (i := 0) (oi := ?ot14) (v := ?vt14) ?at14 (by kernel_rfl) (by kernel_rfl) (by kernel_rfl) ?bt14 ?ct14 ?dt14 (by assumption) ?rt14; (case at14 => (simp only [List.getElem?_toArray, List.getElem?_cons_zero]; rfl)); (case bt14 => exact fun _ _ _ h => h); (case ct14 => kernel_rfl); (case dt14 => (intro W hW; (try dsimp only at hW); go_split_ands; go_simp; (try with_reducible rfl))); (case' rt14 => simp only [Act.put, List.setIfInBounds_toArray, List.set_cons_zero, List.set_cons_succ]))
  (refine held_take (i := 2) (oi := ?ot15) (v := ?vt15) ?at15 (by kernel_rfl) (by kernel_rfl) (by kernel_rfl) ?bt15 ?ct15 ?dt15 (by assumption) ?rt15; (case at15 => (simp only [List.getElem?_toArray, List.getElem?_cons_zero, List.getElem?_cons_succ]; rfl)); (case bt15 => exact fun _ _ _ h => h); (case ct15 => kernel_rfl); (case dt15 => (intro W hW; (try dsimp only at hW); go_split_ands; go_simp; (try with_reducible rfl))); (case' rt15 => simp only [Act.put, List.setIfInBounds_toArray, List.set_cons_zero, List.set_cons_succ]))
  refine held_one (i := 1) (oi := ?ot16) (by kernel_rfl) ?at16 ?ct16 (fun K1 hK1 => ?_)
  (case at16 => (simp only [List.getElem?_toArray, List.getElem?_cons_zero, List.getElem?_cons_succ]; rfl))
  (case ct16 => kernel_rfl)
  have hSb := hS
  obtain ⟨v1, y1, hr1, hown1, hd1⟩ := app_node (base := V2.heap.size) (xs := []) (World.ownsRow_nil _ _ _ _) (hSb.arr HK.out (by omega)) (by decide) hSb.size 22
  refine Lib.wp_append_run _ _ _ _ _ rfl _ _ rfl rfl _ _ hr1 ?_
  refine hK1 _ _ (hSb.keepB hd1) (fun hS1 => ?_)
  clear hK1 K1 hr1
  have hw1 := Lib.hid hown1
  clear hown1 hd1
  refine held_one (i := 3) (oi := ?ot17) (by kernel_rfl) ?at17 ?ct17 (fun K3 hK3 => ?_)
  (case at17 => (simp only [List.getElem?_toArray, List.getElem?_cons_zero, List.getElem?_cons_succ]; rfl))
  (case ct17 => kernel_rfl)
  have hSb := hS1
  obtain ⟨v3, y3, hr3, hown3, hd3⟩ := app_node (base := V2.heap.size) (xs := [] ++ nodeL key) (hw1.out) (hSb.arr HG.out.1 (by have := HG.out.2; omega)) (by decide) hSb.size 22
  refine Lib.wp_append_run _ _ _ _ _ rfl _ _ rfl rfl _ _ hr3 ?_
  refine hK3 _ _ (hSb.keepB hd3) (fun hS3 => ?_)
  clear hK3 K3 hr3
  have hw3 := Lib.hid hown3
  clear hown3 hd3
  refine held_one (i := 4) (oi := ?ot18) (by kernel_rfl) ?at18 ?ct18 (fun K4 hK4 => ?_)
  (case at18 => (simp only [List.getElem?_toArray, List.getElem?_cons_zero, List.getElem?_cons_succ]; rfl))
  (case ct18 => kernel_rfl)
  have hSb := hS3
  obtain ⟨E, ce, rfl, hli⟩ := owns_form hw3.out
  go_simp
  refine (rkeyed_any 3 (by decide) ([] ++ nodeL key ++ nodeL (adB l t k a b c m)) 64 (by simp [nodeL_length]) _ _ _ hli (by decide)).mono ?_
  rintro e y4 ⟨rfl, hd⟩
  refine hK4 _ _ (hSb.keep hd) (fun hS4 => ?_)
  clear hd hK4 K4
  refine held_one (i := 5) (oi := ?ot19) (by kernel_rfl) ?at19 ?ct19 (fun K5 hK5 => ?_)
  (case at19 => (simp only [List.getElem?_toArray, List.getElem?_cons_zero, List.getElem?_cons_succ]; rfl))
  (case ct19 => kernel_rfl)
  obtain ⟨f0, hf0⟩ := hS4.res
  refine ow_store 30 _ _ rfl _ rfl _ rfl (run_store_arr hf0 (bys (prfF key l t k a b c m)) info26 (bys_one _ _)) ?_
  refine hK5 _ _ (hS4.put _) (fun hS5 => ?_)
  clear hK5 K5
  refine wpAnyH_done (by kernel_rfl) ?_ _
  go_wp2
  refine bodyPost_ret (results_cell1 rfl _ _ _ rfl (run_load_arr (hf0.row _) Tryz.underlying30 rfl info26)) rfl ⟨rfl, hS5.below HA.out.below (by omega)⟩

end Go.Proofs.YtfeiplaiekbdkaaGreatDoor
