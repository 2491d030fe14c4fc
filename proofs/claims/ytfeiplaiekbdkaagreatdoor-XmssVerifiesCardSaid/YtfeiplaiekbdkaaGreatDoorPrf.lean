/- prf.F, prf.H. -/
import Derived.Test.YtfeiplaiekbdkaaGreatDoorApz
namespace Go.Proofs.YtfeiplaiekbdkaaGreatDoor
open Go.RowKit
attribute [local go_sem ↓ high] zeroV26

theorem make_func (fn : Fn) (first cap : Array Value) (w : World) : (Instr.makeFunc fn first cap).run Tryz.prog w = .ok (.func fn first cap) w := rfl
/-- What stands ahead of a region: the boxes, the two tables. -/
structure Ahead (w V : World) (r : Nat) : Prop where
  below : Below w.heap.size w V
  tabs : Tabs V
  far : r ≠ 1 ∧ r ≠ 0
def fF (k x : Nat → UInt8) : Nat → UInt8 := shaL (wideL 0 ++ (nodeL k ++ nodeL x))
def hF (k x y : Nat → UInt8) : Nat → UInt8 := shaL (wideL 1 ++ (nodeL k ++ (nodeL x ++ nodeL y)))
def msgF (r root : Nat → UInt8) (idx : Nat) (x : List UInt8) : Nat → UInt8 := shaL (wideL 2 ++ (nodeL r ++ (nodeL root ++ (wideL idx ++ x))))
def prfF (key : Nat → UInt8) (l t k a b c m : Nat) : Nat → UInt8 := shaL (wideL 3 ++ (nodeL key ++ nodeL (adB l t k a b c m)))

set_option maxHeartbeats 1000000 in
set_option maxRecDepth 100000 in
theorem prf_any (key : Nat → UInt8) (l t k a b c m : Nat) (hok : AdOk l t k a b c m) (w : World) (hT : Tabs w) :
    Calls Tryz.prog 109 #[.agg (vec 32 (bys key)), adV l t k a b c m] w fun e w' => e = .returned (.agg (vec 32 (bys (prfF key l t k a b c m)))) ∧ Below w.heap.size w w' := by
  obtain ⟨V, hV⟩ : ∃ V, V = ((w.alloc (.cells (vec 32 (bys key)) 30)).alloc (.cells (adA l t k a b c m) 86)).alloc (.cells (vec 32 (bys zb)) 30) := ⟨_, rfl⟩
  have hA0 : Arr V w.heap.size 30 32 (bys key) := by rw [hV]; exact (((Arr.newAt _ _ _ _ (by simp)).alloc _).alloc _)
  have hA1 : Blk V (w.heap.size + 1) 86 (adA l t k a b c m) := by rw [hV]; exact ((Blk.new _ _ _ (by simp)).alloc _)
  have hA2 : Arr V (w.heap.size + 2) 30 32 (bys zb) := by rw [hV]; exact (Arr.newAt _ _ _ _ (by simp))
  have hB : Below w.heap.size w V := by rw [hV]; exact ((((Below.refl _ _).alloc (by simp <;> omega) _).alloc (by simp <;> omega) _).alloc (by simp <;> omega) _)
  have hsz : V.heap.size = w.heap.size + 3 := by rw [hV]; simp
  have HB1 := Lib.hid (And.intro hB (And.intro hT hok))
  have HA0 := Lib.hid hA0
  have HA1 := Lib.hid hA1
  have HA2 := Lib.hid hA2
  have HW := Lib.hid hV
  have HZ := Lib.hid hsz
  clear hV hB hsz hT hok hA0 hA1 hA2
  go_enter Tryz.func109, Tryz.ntmps109
  go_upto_region 1 with fail
  rw [← HW.out]
  clear HW
  go_upto_region 2 with (first
    | ((with_reducible show wpList _ _ _ (Oper.mk _ (.load _ _) _ _ _ _ :: _) _ _); refine wl_load rfl 86 _ rfl _ rfl _ (HA1.out.load Tryz.underlying86 rfl infoAd) ?_)
    | (go_at_call 118; refine (bytes_any l t k a b c m HB1.out.2.2 _).mono ?_; rintro e w1 ⟨rfl, hd⟩; have H1 := Lib.hid hd; clear hd)
    | ((with_reducible show wpList _ _ _ (Oper.mk _ (.store _ _ _) _ _ _ _ :: _) _ _); refine wl_store rfl 30 _ _ rfl _ rfl _ rfl (run_store_arr (Arr.new w1 _ _ _) (bys (adB l t k a b c m)) info26 (bys_one _ _)) ?_))
  obtain ⟨g, hg⟩ : ∃ g, g = w1.heap.size := ⟨_, rfl⟩
  obtain ⟨V2, hV2⟩ : ∃ V2, V2 = (w1.alloc (.cells (vec 32 (bys zb)) 30)).setRow w1.heap.size (vec 32 (bys (adB l t k a b c m))) := ⟨_, rfl⟩
  have hb2 : Below V.heap.size V V2 := by rw [hV2]; exact below_row (H1.out.alloc H1.out.size _) H1.out.size _
  have hg2 : w.heap.size + 3 ≤ g := by have := H1.out.size; have := HZ.out; omega
  have hAg : Arr V2 g 30 32 (bys (adB l t k a b c m)) := by rw [hV2, hg]; exact (Arr.new w1 _ _ _).row _
  have hBw : Below w.heap.size w V2 := HB1.out.1.trans (hb2.mono HB1.out.1.size)
  rw [← hV2, ← hg]
  have HA := Lib.hid (Ahead.mk (r := w.heap.size + 2) hBw (tabs_below HB1.out.2.1 hBw) (tabs_far HB1.out.2.1 (by omega)))
  have HK := Lib.hid (HA0.out.under hb2)
  have HR := Lib.hid (HA2.out.under hb2)
  have HG := Lib.hid (And.intro hAg hg2)
  clear hV2 hb2 hg2 hAg hBw hg H1 HA0 HA1 HA2 HZ HB1
  refine wp_region_held_drew (S := fun Y => SR V2 (w.heap.size + 2) Y) (by kernel_rfl) (SR.begin HR.out) (fun hS => ?_)
  (refine held_take (i := 0) (oi := ?ot20) (v := ?vt20) ?at20 (by kernel_rfl) (by kernel_rfl) (by kernel_rfl) ?bt20 ?ct20 ?dt20 (by assumption) ?rt20; (case at20 => (simp only [List.getElem?_toArray, List.getElem?_cons_zero]; rfl)); (case bt20 => exact fun _ _ _ h => h); (case ct20 => kernel_rfl); (case dt20 => (intro W hW; (try dsimp only at hW); go_split_ands; go_simp; (try with_reducible rfl))); (case' rt20 => simp only [Act.put, List.setIfInBounds_toArray, List.set_cons_zero, List.set_cons_succ]))
  (refine held_take (i := 1) (oi := ?ot21) (v := ?vt21) ?at21 (by kernel_rfl) (by kernel_rfl) (by kernel_rfl) ?bt21 ?ct21 ?dt21 (by assumption) ?rt21; (case at21 => (simp only [List.getElem?_toArray, List.getElem?_cons_zero, List.getElem?_cons_succ]; rfl)); (case bt21 => exact fun _ _ _ h => h); (case ct21 => kernel_rfl); (case dt21 => (intro W hW; (try dsimp only at hW); go_split_ands; go_simp; (try with_reducible rfl))); (case' rt21 => simp only [Act.put, List.setIfInBounds_toArray, List.set_cons_zero, List.set_cons_succ]))
  refine held_one (i := 2) (oi := ?ot22) (by kernel_rfl) ?at22 ?ct22 (fun K2 hK2 => ?_)
  (case at22 => (simp only [List.getElem?_toArray, List.getElem?_cons_zero, List.getElem?_cons_succ]; rfl))
  (case ct22 => kernel_rfl)
  have hSb := hS
  go_simp
  refine hK2 _ _ (hS.keep (below_alloc1 _ _)) (fun hS2 => ?_)
  clear hK2 K2
  refine held_one (i := 3) (oi := ?ot23) (by kernel_rfl) ?at23 ?ct23 (fun K3 hK3 => ?_)
  (case at23 => (simp only [List.getElem?_toArray, List.getElem?_cons_zero, List.getElem?_cons_succ]; rfl))
  (case ct23 => kernel_rfl)
  go_simp
  refine (keyed_new 3 (by decide) [(some ⟨w.heap.size, 0, none⟩, 32, nodeL key), (some ⟨g, 0, none⟩, 32, nodeL (adB l t k a b c m))] (wideL 3 ++ (nodeL key ++ nodeL (adB l t k a b c m))) 2 (by rfl) (by simp [catAll]) (by rfl) (parts2 (node_part (hSb.arr HK.out (by omega))) (node_part (hSb.arr HG.out.1 (by have := HG.out.2; omega)))) (hSb.tabs HA.out.tabs HA.out.far.1 HA.out.far.2) (by simp) (by simp [catAll, nodeL_length])).mono ?_
  rintro e y3 ⟨rfl, hd⟩
  refine hK3 _ _ (hSb.keep hd) (fun hS3 => ?_)
  clear hd hK3 K3
  refine held_one (i := 4) (oi := ?ot24) (by kernel_rfl) ?at24 ?ct24 (fun K4 hK4 => ?_)
  (case at24 => (simp only [List.getElem?_toArray, List.getElem?_cons_zero, List.getElem?_cons_succ]; rfl))
  (case ct24 => kernel_rfl)
  obtain ⟨f0, hf0⟩ := hS3.res
  refine ow_store 30 _ _ rfl _ rfl _ rfl (run_store_arr hf0 (bys (prfF key l t k a b c m)) info26 (bys_one _ _)) ?_
  refine hK4 _ _ (hS3.put _) (fun hS4 => ?_)
  clear hK4 K4
  refine wpAnyH_done (by kernel_rfl) ?_ _
  go_wp2
  refine bodyPost_ret (results_cell1 rfl _ _ _ rfl (run_load_arr (hf0.row _) Tryz.underlying30 rfl info26)) rfl ⟨rfl, hS4.below HA.out.below (by omega)⟩
end Go.Proofs.YtfeiplaiekbdkaaGreatDoor
