/- prf.Msg. -/
import Derived.Test.YtfeiplaiekbdkaaGreatDoorPrf
namespace Go.Proofs.YtfeiplaiekbdkaaGreatDoor
open Go.RowKit
attribute [local go_sem ↓ high] zeroV26

set_option maxHeartbeats 1000000 in
set_option maxRecDepth 100000 in
theorem msg_any (r root : Nat → UInt8) (idx : Nat) (hi : idx < 4294967296) (A : Option Addr) (c : Nat) (l : List UInt8) (w : World) (hT : Tabs w) (hli : Lies w w.heap.size 1 A l.length (u8s l)) (hc : l.length ≤ c) (hl : l.length ≤ 100000000) :
    Calls Tryz.prog 15 #[.agg (vec 32 (bys r)), .agg (vec 32 (bys root)), .int .u32 (idx : Int), .slice A l.length c] w fun e w' => e = .returned (.agg (vec 32 (bys (msgF r root idx l)))) ∧ Below w.heap.size w w' := by
  obtain ⟨V, hV⟩ : ∃ V, V = ((w.alloc (.cells (vec 32 (bys r)) 30)).alloc (.cells (vec 32 (bys root)) 30)).alloc (.cells (vec 32 (bys zb)) 30) := ⟨_, rfl⟩
  have hA0 : Arr V w.heap.size 30 32 (bys r) := by rw [hV]; exact (((Arr.newAt _ _ _ _ (by simp)).alloc _).alloc _)
  have hA1 : Arr V (w.heap.size + 1) 30 32 (bys root) := by rw [hV]; exact ((Arr.newAt _ _ _ _ (by simp)).alloc _)
  have hA2 : Arr V (w.heap.size + 2) 30 32 (bys zb) := by rw [hV]; exact (Arr.newAt _ _ _ _ (by simp))
  have hB : Below w.heap.size w V := by rw [hV]; exact ((((Below.refl _ _).alloc (by simp <;> omega) _).alloc (by simp <;> omega) _).alloc (by simp <;> omega) _)
  have hsz : V.heap.size = w.heap.size + 3 := by rw [hV]; simp
  have HA := Lib.hid (Ahead.mk (r := w.heap.size + 2) hB (tabs_below hT hB) (tabs_far hT (by omega)))
  have HL := Lib.hid (And.intro (hli.below hB) (And.intro hc hl))
  have HA0 := Lib.hid hA0
  have HA1 := Lib.hid hA1
  have HA2 := Lib.hid hA2
  have HW := Lib.hid hV
  clear hV hB hsz hT hli hc hl hA0 hA1 hA2
  go_enter Tryz.func15, Tryz.ntmps15
  go_upto_region 1 with fail
  rw [← HW.out]
  clear HW
  refine wp_region_held_drew (S := fun Y => SR V (w.heap.size + 2) Y) (by kernel_rfl) (SR.begin HA2.out) (fun hS => ?_)
  (refine held_take (i := 0) (oi := ?ot12) (v := ?vt12) ?at12 (by kernel_rfl) (by kernel_rfl) (by kernel_rfl) ?bt12 ?ct12 ?dt12 (by assumption) ?rt12; (case at12 => (simp only [List.getElem?_toArray, List.getElem?_cons_zero]; rfl)); (case bt12 => exact fun _ _ _ h => h); (case ct12 => kernel_rfl); (case dt12 => (intro W hW; (try dsimp only at hW); go_split_ands; go_simp; (try with_reducible rfl))); (case' rt12 => simp only [Act.put, List.setIfInBounds_toArray, List.set_cons_zero, List.set_cons_succ]))
  (refine held_take (i := 1) (oi := ?ot13) (v := ?vt13) ?at13 (by kernel_rfl) (by kernel_rfl) (by kernel_rfl) ?bt13 ?ct13 ?dt13 (by assumption) ?rt13; (case at13 => (simp only [List.getElem?_toArray, List.getElem?_cons_zero, List.getElem?_cons_succ]; rfl)); (case bt13 => exact fun _ _ _ h => h); (case ct13 => kernel_rfl); (case dt13 => (intro W hW; (try dsimp only at hW); go_split_ands; go_simp; (try with_reducible rfl))); (case' rt13 => simp only [Act.put, List.setIfInBounds_toArray, List.set_cons_zero, List.set_cons_succ]))
  (refine held_take (i := 2) (oi := ?ot14) (v := ?vt14) ?at14 (by kernel_rfl) (by kernel_rfl) (by kernel_rfl) ?bt14 ?ct14 ?dt14 (by assumption) ?rt14; (case at14 => (simp only [List.getElem?_toArray, List.getElem?_cons_zero, List.getElem?_cons_succ]; rfl)); (case bt14 => exact fun _ _ _ h => h); (case ct14 => kernel_rfl); (case dt14 => (intro W hW; (try dsimp only at hW); go_split_ands; go_simp; (try with_reducible rfl))); (case' rt14 => simp only [Act.put, List.setIfInBounds_toArray, List.set_cons_zero, List.set_cons_succ]))
  (refine held_take (i := 4) (oi := ?ot15) (v := ?vt15) ?at15 (by kernel_rfl) (by kernel_rfl) (by kernel_rfl) ?bt15 ?ct15 ?dt15 (by assumption) ?rt15; (case at15 => (simp only [List.getElem?_toArray, List.getElem?_cons_zero, List.getElem?_cons_succ]; rfl)); (case bt15 => exact fun _ _ _ h => h); (case ct15 => kernel_rfl); (case dt15 => (intro W hW; (try dsimp only at hW); go_split_ands; go_simp; (try with_reducible rfl))); (case' rt15 => simp only [Act.put, List.setIfInBounds_toArray, List.set_cons_zero, List.set_cons_succ]))
  refine held_one (i := 3) (oi := ?ot16) (by kernel_rfl) ?at16 ?ct16 (fun K3 hK3 => ?_)
  (case at16 => (simp only [List.getElem?_toArray, List.getElem?_cons_zero, List.getElem?_cons_succ]; rfl))
  (case ct16 => kernel_rfl)
  go_simp
  refine (wide_any idx hi _).mono ?_
  rintro e y3 ⟨v, rfl, hv1, hv2⟩
  obtain ⟨E, ce, rfl, hcap, hbase, hlw⟩ := owns_cap hv1
  have HE := Lib.hid (And.intro hlw hcap)
  have hd := hv2
  clear hv1 hbase hv2 hlw hcap
  refine hK3 _ _ (hS.keep hd) (fun hS3 => ?_)
  clear hd hK3 K3
  refine held_one (i := 5) (oi := ?ot17) (by kernel_rfl) ?at17 ?ct17 (fun K5 hK5 => ?_)
  (case at17 => (simp only [List.getElem?_toArray, List.getElem?_cons_zero, List.getElem?_cons_succ]; rfl))
  (case ct17 => kernel_rfl)
  have hSb := hS3
  go_simp
  refine hK5 _ _ (hS3.keep (below_alloc1 _ _)) (fun hS5 => ?_)
  clear hK5 K5
  refine held_one (i := 6) (oi := ?ot18) (by kernel_rfl) ?at18 ?ct18 (fun K6 hK6 => ?_)
  (case at18 => (simp only [List.getElem?_toArray, List.getElem?_cons_zero, List.getElem?_cons_succ]; rfl))
  (case ct18 => kernel_rfl)
  go_simp
  refine (keyed_new 2 (by decide) [(some ⟨w.heap.size, 0, none⟩, 32, nodeL r), (some ⟨w.heap.size + 1, 0, none⟩, 32, nodeL root), (E, ce, wideL idx), (A, c, l)] (wideL 2 ++ (nodeL r ++ (nodeL root ++ (wideL idx ++ l)))) 4 (by rfl) (by simp [catAll]) (by rfl) (parts4 (node_part (hSb.arr HA0.out (by omega))) (node_part (hSb.arr HA1.out (by omega))) (HE.out) (⟨hSb.lies HL.out.1 (by omega), HL.out.2.1⟩)) (hSb.tabs HA.out.tabs HA.out.far.1 HA.out.far.2) (by simp) (by have := HL.out.2.2; simp [catAll, nodeL_length, wideL_length]; omega)).mono ?_
  rintro e y6 ⟨rfl, hd⟩
  refine hK6 _ _ (hSb.keep hd) (fun hS6 => ?_)
  clear hd hK6 K6
  refine held_one (i := 7) (oi := ?ot19) (by kernel_rfl) ?at19 ?ct19 (fun K7 hK7 => ?_)
  (case at19 => (simp only [List.getElem?_toArray, List.getElem?_cons_zero, List.getElem?_cons_succ]; rfl))
  (case ct19 => kernel_rfl)
  obtain ⟨f0, hf0⟩ := hS6.res
  refine ow_store 30 _ _ rfl _ rfl _ rfl (run_store_arr hf0 (bys (msgF r root idx l)) info26 (bys_one _ _)) ?_
  refine hK7 _ _ (hS6.put _) (fun hS7 => ?_)
  clear hK7 K7
  refine wpAnyH_done (by kernel_rfl) ?_ _
  go_wp2
  refine bodyPost_ret (results_cell1 rfl _ _ _ rfl (run_load_arr (hf0.row _) Tryz.underlying30 rfl info26)) rfl ⟨rfl, hS7.below HA.out.below (by omega)⟩

end Go.Proofs.YtfeiplaiekbdkaaGreatDoor
