/- The parser's composites: windows, devices, irqs, ends, channels. -/
import Derived.Test.YtmcpmcicolpoeaaDoorMc
namespace Go.Proofs.YtmcpmcicolpoeaaDoor
open Go.RowKit
attribute [local go_sem ↓ high] zeroWi zeroDe zeroIr zeroEn zeroCh

set_option maxHeartbeats 2000000 in
set_option maxRecDepth 100000 in
theorem window_any {w : World} {g c at_ q : Nat} {A : Option Addr} {b : By} (h : Cur w g A c b at_ q) : Calls Tryd.prog 79 #[.pointer (some ⟨g, 0, none⟩)] w (Rd winC (rowV 4 winE) b q g A c w) := by
  obtain ⟨V, hV⟩ : ∃ V, V = w.alloc (.cells (vec 4 (winE zWi)) 108) := ⟨_, rfl⟩
  have h0 : Arr V w.heap.size 108 4 (winE zWi) := by rw [hV]; exact Arr.new w _ _ _
  have hB : Below w.heap.size w V := by rw [hV]; exact (Below.refl _ _).alloc (Nat.le_refl _) _
  have hVs : V.heap.size = w.heap.size + 1 := by rw [hV]; simp
  have hgw := h.lt
  have HGW := Lib.hid hgw
  have HR : Hid (w.heap.size ≠ g) := Lib.hid (by omega)
  have HC := Lib.hid ((h.under hB).drewN 1)
  have HA := Lib.hid (And.intro h0 (And.intro hB hVs))
  have HS : Hid (Save g V (V.drewN 1)) := Lib.hid ((Save.refl g V).drewN 1)
  have HW := Lib.hid hV
  unfold winC
  clear hV h0 hB h hVs hgw
  go_enter Tryd.func79, Tryd.ntmps79
  go_upto_region 1 with fail
  rw [← HW.out]
  clear HW
  refine wp_region_held_drew (S := fun Y => True) (by kernel_rfl) trivial (fun hS => ?_)
  (refine held_take (i := 0) (oi := ?ot1) (v := ?vt1) ?at1 (by kernel_rfl) (by kernel_rfl) (by kernel_rfl) ?bt1 ?ct1 ?dt1 (by assumption) ?rt1; (case at1 => (simp only [List.getElem?_toArray, List.getElem?_cons_zero]; rfl)); (case bt1 => exact fun _ _ _ h => h); (case ct1 => kernel_rfl); (case dt1 => (intro W hW; (try dsimp only at hW); go_split_ands; go_simp; (try with_reducible rfl))); (case' rt1 => simp only [Act.put, List.setIfInBounds_toArray, List.set_cons_zero, List.set_cons_succ]))
  (refine held_take (i := 1) (oi := ?ot2) (v := ?vt2) ?at2 (by kernel_rfl) (by kernel_rfl) (by kernel_rfl) ?bt2 ?ct2 ?dt2 (by assumption) ?rt2; (case at2 => (simp only [List.getElem?_toArray, List.getElem?_cons_zero, List.getElem?_cons_succ]; rfl)); (case bt2 => exact fun _ _ _ h => h); (case ct2 => kernel_rfl); (case dt2 => (intro W hW; (try dsimp only at hW); go_split_ands; go_simp; (try with_reducible rfl))); (case' rt2 => simp only [Act.put, List.setIfInBounds_toArray, List.set_cons_zero, List.set_cons_succ]))
  (refine held_take (i := 2) (oi := ?ot3) (v := ?vt3) ?at3 (by kernel_rfl) (by kernel_rfl) (by kernel_rfl) ?bt3 ?ct3 ?dt3 (by assumption) ?rt3; (case at3 => (simp only [List.getElem?_toArray, List.getElem?_cons_zero, List.getElem?_cons_succ]; rfl)); (case bt3 => exact fun _ _ _ h => h); (case ct3 => kernel_rfl); (case dt3 => (intro W hW; (try dsimp only at hW); go_split_ands; go_simp; (try with_reducible rfl))); (case' rt3 => simp only [Act.put, List.setIfInBounds_toArray, List.set_cons_zero, List.set_cons_succ]))
  (refine held_take (i := 4) (oi := ?ot4) (v := ?vt4) ?at4 (by kernel_rfl) (by kernel_rfl) (by kernel_rfl) ?bt4 ?ct4 ?dt4 (by assumption) ?rt4; (case at4 => (simp only [List.getElem?_toArray, List.getElem?_cons_zero, List.getElem?_cons_succ]; rfl)); (case bt4 => exact fun _ _ _ h => h); (case ct4 => kernel_rfl); (case dt4 => (intro W hW; (try dsimp only at hW); go_split_ands; go_simp; (try with_reducible rfl))); (case' rt4 => simp only [Act.put, List.setIfInBounds_toArray, List.set_cons_zero, List.set_cons_succ]))
  (refine held_take (i := 5) (oi := ?ot5) (v := ?vt5) ?at5 (by kernel_rfl) (by kernel_rfl) (by kernel_rfl) ?bt5 ?ct5 ?dt5 (by assumption) ?rt5; (case at5 => (simp only [List.getElem?_toArray, List.getElem?_cons_zero, List.getElem?_cons_succ]; rfl)); (case bt5 => exact fun _ _ _ h => h); (case ct5 => kernel_rfl); (case dt5 => (intro W hW; (try dsimp only at hW); go_split_ands; go_simp; (try with_reducible rfl))); (case' rt5 => simp only [Act.put, List.setIfInBounds_toArray, List.set_cons_zero, List.set_cons_succ]))
  (refine held_take (i := 6) (oi := ?ot6) (v := ?vt6) ?at6 (by kernel_rfl) (by kernel_rfl) (by kernel_rfl) ?bt6 ?ct6 ?dt6 (by assumption) ?rt6; (case at6 => (simp only [List.getElem?_toArray, List.getElem?_cons_zero, List.getElem?_cons_succ]; rfl)); (case bt6 => exact fun _ _ _ h => h); (case ct6 => kernel_rfl); (case dt6 => (intro W hW; (try dsimp only at hW); go_split_ands; go_simp; (try with_reducible rfl))); (case' rt6 => simp only [Act.put, List.setIfInBounds_toArray, List.set_cons_zero, List.set_cons_succ]))
  (refine held_take (i := 8) (oi := ?ot7) (v := ?vt7) ?at7 (by kernel_rfl) (by kernel_rfl) (by kernel_rfl) ?bt7 ?ct7 ?dt7 (by assumption) ?rt7; (case at7 => (simp only [List.getElem?_toArray, List.getElem?_cons_zero, List.getElem?_cons_succ]; rfl)); (case bt7 => exact fun _ _ _ h => h); (case ct7 => kernel_rfl); (case dt7 => (intro W hW; (try dsimp only at hW); go_split_ands; go_simp; (try with_reducible rfl))); (case' rt7 => simp only [Act.put, List.setIfInBounds_toArray, List.set_cons_zero, List.set_cons_succ]))
  (refine held_take (i := 9) (oi := ?ot8) (v := ?vt8) ?at8 (by kernel_rfl) (by kernel_rfl) (by kernel_rfl) ?bt8 ?ct8 ?dt8 (by assumption) ?rt8; (case at8 => (simp only [List.getElem?_toArray, List.getElem?_cons_zero, List.getElem?_cons_succ]; rfl)); (case bt8 => exact fun _ _ _ h => h); (case ct8 => kernel_rfl); (case dt8 => (intro W hW; (try dsimp only at hW); go_split_ands; go_simp; (try with_reducible rfl))); (case' rt8 => simp only [Act.put, List.setIfInBounds_toArray, List.set_cons_zero, List.set_cons_succ]))
  (refine held_take (i := 10) (oi := ?ot9) (v := ?vt9) ?at9 (by kernel_rfl) (by kernel_rfl) (by kernel_rfl) ?bt9 ?ct9 ?dt9 (by assumption) ?rt9; (case at9 => (simp only [List.getElem?_toArray, List.getElem?_cons_zero, List.getElem?_cons_succ]; rfl)); (case bt9 => exact fun _ _ _ h => h); (case ct9 => kernel_rfl); (case dt9 => (intro W hW; (try dsimp only at hW); go_split_ands; go_simp; (try with_reducible rfl))); (case' rt9 => simp only [Act.put, List.setIfInBounds_toArray, List.set_cons_zero, List.set_cons_succ]))
  (refine held_take (i := 12) (oi := ?ot10) (v := ?vt10) ?at10 (by kernel_rfl) (by kernel_rfl) (by kernel_rfl) ?bt10 ?ct10 ?dt10 (by assumption) ?rt10; (case at10 => (simp only [List.getElem?_toArray, List.getElem?_cons_zero, List.getElem?_cons_succ]; rfl)); (case bt10 => exact fun _ _ _ h => h); (case ct10 => kernel_rfl); (case dt10 => (intro W hW; (try dsimp only at hW); go_split_ands; go_simp; (try with_reducible rfl))); (case' rt10 => simp only [Act.put, List.setIfInBounds_toArray, List.set_cons_zero, List.set_cons_succ]))
  (refine held_take (i := 13) (oi := ?ot11) (v := ?vt11) ?at11 (by kernel_rfl) (by kernel_rfl) (by kernel_rfl) ?bt11 ?ct11 ?dt11 (by assumption) ?rt11; (case at11 => (simp only [List.getElem?_toArray, List.getElem?_cons_zero, List.getElem?_cons_succ]; rfl)); (case bt11 => exact fun _ _ _ h => h); (case ct11 => kernel_rfl); (case dt11 => (intro W hW; (try dsimp only at hW); go_split_ands; go_simp; (try with_reducible rfl))); (case' rt11 => simp only [Act.put, List.setIfInBounds_toArray, List.set_cons_zero, List.set_cons_succ]))
  (refine held_take (i := 14) (oi := ?ot12) (v := ?vt12) ?at12 (by kernel_rfl) (by kernel_rfl) (by kernel_rfl) ?bt12 ?ct12 ?dt12 (by assumption) ?rt12; (case at12 => (simp only [List.getElem?_toArray, List.getElem?_cons_zero, List.getElem?_cons_succ]; rfl)); (case bt12 => exact fun _ _ _ h => h); (case ct12 => kernel_rfl); (case dt12 => (intro W hW; (try dsimp only at hW); go_split_ands; go_simp; (try with_reducible rfl))); (case' rt12 => simp only [Act.put, List.setIfInBounds_toArray, List.set_cons_zero, List.set_cons_succ]))
  (refine held_take (i := 15) (oi := ?ot13) (v := ?vt13) ?at13 (by kernel_rfl) (by kernel_rfl) (by kernel_rfl) ?bt13 ?ct13 ?dt13 (by assumption) ?rt13; (case at13 => (simp only [List.getElem?_toArray, List.getElem?_cons_zero, List.getElem?_cons_succ]; rfl)); (case bt13 => exact fun _ _ _ h => h); (case ct13 => kernel_rfl); (case dt13 => (intro W hW; (try dsimp only at hW); go_split_ands; go_simp; (try with_reducible rfl))); (case' rt13 => simp only [Act.put, List.setIfInBounds_toArray, List.set_cons_zero, List.set_cons_succ]))
  refine held_one (i := 3) (oi := ?ot14) (by kernel_rfl) ?at14 ?ct14 (fun K3 hK3 => ?_)
  (case at14 => (simp only [List.getElem?_toArray, List.getElem?_cons_zero, List.getElem?_cons_succ]; rfl))
  (case ct14 => kernel_rfl)
  go_simp
  refine (wide_rd HC.out).mono ?_
  intro e y3 hh
  rcases hh with hh | hh
  rotate_left
  · obtain ⟨er, pl, hg, rfl, hs⟩ := hh
    exact ⟨rfl, .no (map_no (dep_no (hg))) rfl (Save.left HA.out.2.1 (HS.out.trans hs))⟩
  obtain ⟨x3, q3, v3, t3, hg3, rfl, hv, hc, hs⟩ := hh
  obtain rfl : v3 = .int .u64 x3 := hv
  have HS := Lib.hid (HS.out.trans hs)
  have HC := Lib.hid hc
  have HG3 := Lib.hid hg3
  refine hK3 _ _ trivial (fun hS3 => ?_)
  clear hg3 hc hs hS hK3 K3
  refine held_one (i := 7) (oi := ?ot15) (by kernel_rfl) ?at15 ?ct15 (fun K7 hK7 => ?_)
  (case at15 => (simp only [List.getElem?_toArray, List.getElem?_cons_zero, List.getElem?_cons_succ]; rfl))
  (case ct15 => kernel_rfl)
  go_simp
  refine (wide_rd HC.out).mono ?_
  intro e y7 hh
  rcases hh with hh | hh
  rotate_left
  · obtain ⟨er, pl, hg, rfl, hs⟩ := hh
    exact ⟨rfl, .no (map_no (dep_on HG3.out (dep_no (hg)))) rfl (Save.left HA.out.2.1 (HS.out.trans hs))⟩
  obtain ⟨x7, q7, v7, t7, hg7, rfl, hv, hc, hs⟩ := hh
  obtain rfl : v7 = .int .u64 x7 := hv
  have HS := Lib.hid (HS.out.trans hs)
  have HC := Lib.hid hc
  have HG7 := Lib.hid hg7
  refine hK7 _ _ trivial (fun hS7 => ?_)
  clear hg7 hc hs hS3 hK7 K7
  refine held_one (i := 11) (oi := ?ot16) (by kernel_rfl) ?at16 ?ct16 (fun K11 hK11 => ?_)
  (case at16 => (simp only [List.getElem?_toArray, List.getElem?_cons_zero, List.getElem?_cons_succ]; rfl))
  (case ct16 => kernel_rfl)
  go_simp
  refine (wide_rd HC.out).mono ?_
  intro e y11 hh
  rcases hh with hh | hh
  rotate_left
  · obtain ⟨er, pl, hg, rfl, hs⟩ := hh
    exact ⟨rfl, .no (map_no (dep_on HG3.out (dep_on HG7.out (dep_no (hg))))) rfl (Save.left HA.out.2.1 (HS.out.trans hs))⟩
  obtain ⟨x11, q11, v11, t11, hg11, rfl, hv, hc, hs⟩ := hh
  obtain rfl : v11 = .int .u64 x11 := hv
  have HS := Lib.hid (HS.out.trans hs)
  have HC := Lib.hid hc
  have HG11 := Lib.hid hg11
  refine hK11 _ _ trivial (fun hS11 => ?_)
  clear hg11 hc hs hS7 hK11 K11
  refine held_one (i := 16) (oi := ?ot17) (by kernel_rfl) ?at17 ?ct17 (fun K16 hK16 => ?_)
  (case at17 => (simp only [List.getElem?_toArray, List.getElem?_cons_zero, List.getElem?_cons_succ]; rfl))
  (case ct17 => kernel_rfl)
  go_simp
  refine (long_any HC.out).mono ?_
  intro e y16 hh
  rcases hh with hh | hh
  rotate_left
  · obtain ⟨hm, rfl, hs⟩ := hh
    exact ⟨rfl, .no (map_no (dep_on HG3.out (dep_on HG7.out (dep_on HG11.out (fld_short _ _ _ _ _ _ hm))))) rfl (Save.left HA.out.2.1 (HS.out.trans hs))⟩
  obtain ⟨hm, rfl, hc, hs⟩ := hh
  obtain ⟨n, hn⟩ : ∃ n, n = numAt b q11 4 := ⟨_, rfl⟩
  have hn4 : n < 4294967296 := by rw [hn]; exact numAt_lt _ _ _
  have hnw : n < 4294967296 := by omega
  rw [← hn]
  have HS := Lib.hid (HS.out.trans hs)
  have HC := Lib.hid hc
  have HM := Lib.hid (And.intro hm hn)
  refine hK16 _ _ trivial (fun hS16 => ?_)
  clear hm hn hc hs hn4 hS11 hK16 K16
  refine held_one (i := 17) (oi := ?ot18) (by kernel_rfl) ?at18 ?ct18 (fun K17 hK17 => ?_)
  (case at18 => (simp only [List.getElem?_toArray, List.getElem?_cons_zero, List.getElem?_cons_succ]; rfl))
  (case ct18 => kernel_rfl)
  go_simp
  refine (perm_any HC.out n hnw).mono ?_
  intro e y17 hh
  obtain ⟨hk, he⟩ := hh
  have hs : Save g _ y17 := (Save.refl _ _).drew_of hk
  by_cases h7 : n ≤ 7
  rotate_left
  · rw [if_neg h7] at he
    subst he
    exact ⟨rfl, .no (map_no (dep_on HG3.out (dep_on HG7.out (dep_on HG11.out (fld_bad _ _ _ _ _ _ n HM.out.1 HM.out.2 (fun h => h7 h.2)))))) rfl (Save.left HA.out.2.1 (HS.out.trans hs))⟩
  rw [if_pos h7] at he
  subst he
  have HS := Lib.hid (HS.out.trans hs)
  have HC := Lib.hid (HC.out.drew_of hk)
  have HG17 := Lib.hid (fld_good 4 0 7 144 b q11 n HM.out.1 HM.out.2 ⟨Nat.zero_le _, h7⟩)
  refine hK17 _ _ trivial (fun hS17 => ?_)
  clear hk hs h7 hS16 hK17 K17
  (refine held_take (i := 18) (oi := ?ot19) (v := .agg (vec 4 (winE ⟨x3, x7, x11, (n : Int)⟩))) ?at19 (by kernel_rfl) (by kernel_rfl) (by kernel_rfl) ?bt19 ?ct19 ?dt19 (by assumption) ?rt19; (case at19 => (simp only [List.getElem?_toArray, List.getElem?_cons_zero, List.getElem?_cons_succ]; rfl)); (case bt19 => exact fun _ _ _ h => h); (case ct19 => kernel_rfl); (case dt19 => (intro W _; exact exec_build 108 _ rfl (vec 4 (winE ⟨x3, x7, x11, (n : Int)⟩)) (by kernel_rfl) W)); (case' rt19 => simp only [Act.put, List.setIfInBounds_toArray, List.set_cons_zero, List.set_cons_succ]))
  refine held_one (i := 19) (oi := ?ot20) (by kernel_rfl) ?at20 ?ct20 (fun K19 hK19 => ?_)
  (case at20 => (simp only [List.getElem?_toArray, List.getElem?_cons_zero, List.getElem?_cons_succ]; rfl))
  (case ct20 => kernel_rfl)
  refine ow_store 108 _ _ rfl _ rfl _ rfl (run_store_arr (HA.out.1.save HS.out HR.out) (winE ⟨x3, x7, x11, (n : Int)⟩) infoWi (winE_one _ _)) ?_
  have hb2 : Below w.heap.size y17 (y17.setRow w.heap.size (vec 4 (winE ⟨x3, x7, x11, (n : Int)⟩))) := below_row (Below.refl _ _) (Nat.le_refl _) _
  have HZ := Lib.hid (And.intro ((HA.out.1.save HS.out HR.out).row (winE ⟨x3, x7, x11, (n : Int)⟩)) (And.intro (HC.out.on hb2 HGW.out) ((Save.left HA.out.2.1 HS.out).on hb2 (Nat.le_refl _))))
  refine hK19 _ _ trivial (fun hS19 => ?_)
  clear hb2 hS17 hK19 K19
  refine wpAnyH_done (by kernel_rfl) ?_ _
  go_wp2
  exact bodyPost_ret (results_cell1 rfl _ _ _ rfl (run_load_arr HZ.out.1 Tryd.underlying108 rfl infoWi)) rfl (.ok (map_ye (dep_ye HG3.out (dep_ye HG7.out (dep_ye HG11.out (HG17.out))))) rfl rfl HZ.out.2.1 HZ.out.2.2)
set_option maxHeartbeats 2000000 in
set_option maxRecDepth 100000 in
theorem device_any {w : World} {g c at_ q : Nat} {A : Option Addr} {b : By} (h : Cur w g A c b at_ q) : Calls Tryd.prog 81 #[.pointer (some ⟨g, 0, none⟩)] w (Rd devC (rowV 3 devE) b q g A c w) := by
  obtain ⟨V, hV⟩ : ∃ V, V = w.alloc (.cells (vec 3 (devE zDe)) 110) := ⟨_, rfl⟩
  have h0 : Arr V w.heap.size 110 3 (devE zDe) := by rw [hV]; exact Arr.new w _ _ _
  have hB : Below w.heap.size w V := by rw [hV]; exact (Below.refl _ _).alloc (Nat.le_refl _) _
  have hVs : V.heap.size = w.heap.size + 1 := by rw [hV]; simp
  have hgw := h.lt
  have HGW := Lib.hid hgw
  have HR : Hid (w.heap.size ≠ g) := Lib.hid (by omega)
  have HC := Lib.hid ((h.under hB).drewN 1)
  have HA := Lib.hid (And.intro h0 (And.intro hB hVs))
  have HS : Hid (Save g V (V.drewN 1)) := Lib.hid ((Save.refl g V).drewN 1)
  have HW := Lib.hid hV
  unfold devC
  clear hV h0 hB h hVs hgw
  go_enter Tryd.func81, Tryd.ntmps81
  go_upto_region 1 with fail
  rw [← HW.out]
  clear HW
  refine wp_region_held_drew (S := fun Y => True) (by kernel_rfl) trivial (fun hS => ?_)
  (refine held_take (i := 0) (oi := ?ot21) (v := ?vt21) ?at21 (by kernel_rfl) (by kernel_rfl) (by kernel_rfl) ?bt21 ?ct21 ?dt21 (by assumption) ?rt21; (case at21 => (simp only [List.getElem?_toArray, List.getElem?_cons_zero]; rfl)); (case bt21 => exact fun _ _ _ h => h); (case ct21 => kernel_rfl); (case dt21 => (intro W hW; (try dsimp only at hW); go_split_ands; go_simp; (try with_reducible rfl))); (case' rt21 => simp only [Act.put, List.setIfInBounds_toArray, List.set_cons_zero, List.set_cons_succ]))
  (refine held_take (i := 1) (oi := ?ot22) (v := ?vt22) ?at22 (by kernel_rfl) (by kernel_rfl) (by kernel_rfl) ?bt22 ?ct22 ?dt22 (by assumption) ?rt22; (case at22 => (simp only [List.getElem?_toArray, List.getElem?_cons_zero, List.getElem?_cons_succ]; rfl)); (case bt22 => exact fun _ _ _ h => h); (case ct22 => kernel_rfl); (case dt22 => (intro W hW; (try dsimp only at hW); go_split_ands; go_simp; (try with_reducible rfl))); (case' rt22 => simp only [Act.put, List.setIfInBounds_toArray, List.set_cons_zero, List.set_cons_succ]))
  (refine held_take (i := 2) (oi := ?ot23) (v := ?vt23) ?at23 (by kernel_rfl) (by kernel_rfl) (by kernel_rfl) ?bt23 ?ct23 ?dt23 (by assumption) ?rt23; (case at23 => (simp only [List.getElem?_toArray, List.getElem?_cons_zero, List.getElem?_cons_succ]; rfl)); (case bt23 => exact fun _ _ _ h => h); (case ct23 => kernel_rfl); (case dt23 => (intro W hW; (try dsimp only at hW); go_split_ands; go_simp; (try with_reducible rfl))); (case' rt23 => simp only [Act.put, List.setIfInBounds_toArray, List.set_cons_zero, List.set_cons_succ]))
  (refine held_take (i := 4) (oi := ?ot24) (v := ?vt24) ?at24 (by kernel_rfl) (by kernel_rfl) (by kernel_rfl) ?bt24 ?ct24 ?dt24 (by assumption) ?rt24; (case at24 => (simp only [List.getElem?_toArray, List.getElem?_cons_zero, List.getElem?_cons_succ]; rfl)); (case bt24 => exact fun _ _ _ h => h); (case ct24 => kernel_rfl); (case dt24 => (intro W hW; (try dsimp only at hW); go_split_ands; go_simp; (try with_reducible rfl))); (case' rt24 => simp only [Act.put, List.setIfInBounds_toArray, List.set_cons_zero, List.set_cons_succ]))
  (refine held_take (i := 5) (oi := ?ot25) (v := ?vt25) ?at25 (by kernel_rfl) (by kernel_rfl) (by kernel_rfl) ?bt25 ?ct25 ?dt25 (by assumption) ?rt25; (case at25 => (simp only [List.getElem?_toArray, List.getElem?_cons_zero, List.getElem?_cons_succ]; rfl)); (case bt25 => exact fun _ _ _ h => h); (case ct25 => kernel_rfl); (case dt25 => (intro W hW; (try dsimp only at hW); go_split_ands; go_simp; (try with_reducible rfl))); (case' rt25 => simp only [Act.put, List.setIfInBounds_toArray, List.set_cons_zero, List.set_cons_succ]))
  (refine held_take (i := 6) (oi := ?ot26) (v := ?vt26) ?at26 (by kernel_rfl) (by kernel_rfl) (by kernel_rfl) ?bt26 ?ct26 ?dt26 (by assumption) ?rt26; (case at26 => (simp only [List.getElem?_toArray, List.getElem?_cons_zero, List.getElem?_cons_succ]; rfl)); (case bt26 => exact fun _ _ _ h => h); (case ct26 => kernel_rfl); (case dt26 => (intro W hW; (try dsimp only at hW); go_split_ands; go_simp; (try with_reducible rfl))); (case' rt26 => simp only [Act.put, List.setIfInBounds_toArray, List.set_cons_zero, List.set_cons_succ]))
  (refine held_take (i := 8) (oi := ?ot27) (v := ?vt27) ?at27 (by kernel_rfl) (by kernel_rfl) (by kernel_rfl) ?bt27 ?ct27 ?dt27 (by assumption) ?rt27; (case at27 => (simp only [List.getElem?_toArray, List.getElem?_cons_zero, List.getElem?_cons_succ]; rfl)); (case bt27 => exact fun _ _ _ h => h); (case ct27 => kernel_rfl); (case dt27 => (intro W hW; (try dsimp only at hW); go_split_ands; go_simp; (try with_reducible rfl))); (case' rt27 => simp only [Act.put, List.setIfInBounds_toArray, List.set_cons_zero, List.set_cons_succ]))
  (refine held_take (i := 9) (oi := ?ot28) (v := ?vt28) ?at28 (by kernel_rfl) (by kernel_rfl) (by kernel_rfl) ?bt28 ?ct28 ?dt28 (by assumption) ?rt28; (case at28 => (simp only [List.getElem?_toArray, List.getElem?_cons_zero, List.getElem?_cons_succ]; rfl)); (case bt28 => exact fun _ _ _ h => h); (case ct28 => kernel_rfl); (case dt28 => (intro W hW; (try dsimp only at hW); go_split_ands; go_simp; (try with_reducible rfl))); (case' rt28 => simp only [Act.put, List.setIfInBounds_toArray, List.set_cons_zero, List.set_cons_succ]))
  (refine held_take (i := 10) (oi := ?ot29) (v := ?vt29) ?at29 (by kernel_rfl) (by kernel_rfl) (by kernel_rfl) ?bt29 ?ct29 ?dt29 (by assumption) ?rt29; (case at29 => (simp only [List.getElem?_toArray, List.getElem?_cons_zero, List.getElem?_cons_succ]; rfl)); (case bt29 => exact fun _ _ _ h => h); (case ct29 => kernel_rfl); (case dt29 => (intro W hW; (try dsimp only at hW); go_split_ands; go_simp; (try with_reducible rfl))); (case' rt29 => simp only [Act.put, List.setIfInBounds_toArray, List.set_cons_zero, List.set_cons_succ]))
  refine held_one (i := 3) (oi := ?ot30) (by kernel_rfl) ?at30 ?ct30 (fun K3 hK3 => ?_)
  (case at30 => (simp only [List.getElem?_toArray, List.getElem?_cons_zero, List.getElem?_cons_succ]; rfl))
  (case ct30 => kernel_rfl)
  go_simp
  refine (wide_rd HC.out).mono ?_
  intro e y3 hh
  rcases hh with hh | hh
  rotate_left
  · obtain ⟨er, pl, hg, rfl, hs⟩ := hh
    exact ⟨rfl, .no (map_no (dep_no (hg))) rfl (Save.left HA.out.2.1 (HS.out.trans hs))⟩
  obtain ⟨x3, q3, v3, t3, hg3, rfl, hv, hc, hs⟩ := hh
  obtain rfl : v3 = .int .u64 x3 := hv
  have HS := Lib.hid (HS.out.trans hs)
  have HC := Lib.hid hc
  have HG3 := Lib.hid hg3
  refine hK3 _ _ trivial (fun hS3 => ?_)
  clear hg3 hc hs hS hK3 K3
  refine held_one (i := 7) (oi := ?ot31) (by kernel_rfl) ?at31 ?ct31 (fun K7 hK7 => ?_)
  (case at31 => (simp only [List.getElem?_toArray, List.getElem?_cons_zero, List.getElem?_cons_succ]; rfl))
  (case ct31 => kernel_rfl)
  go_simp
  refine (wide_rd HC.out).mono ?_
  intro e y7 hh
  rcases hh with hh | hh
  rotate_left
  · obtain ⟨er, pl, hg, rfl, hs⟩ := hh
    exact ⟨rfl, .no (map_no (dep_on HG3.out (dep_no (hg)))) rfl (Save.left HA.out.2.1 (HS.out.trans hs))⟩
  obtain ⟨x7, q7, v7, t7, hg7, rfl, hv, hc, hs⟩ := hh
  obtain rfl : v7 = .int .u64 x7 := hv
  have HS := Lib.hid (HS.out.trans hs)
  have HC := Lib.hid hc
  have HG7 := Lib.hid hg7
  refine hK7 _ _ trivial (fun hS7 => ?_)
  clear hg7 hc hs hS3 hK7 K7
  refine held_one (i := 11) (oi := ?ot32) (by kernel_rfl) ?at32 ?ct32 (fun K11 hK11 => ?_)
  (case at32 => (simp only [List.getElem?_toArray, List.getElem?_cons_zero, List.getElem?_cons_succ]; rfl))
  (case ct32 => kernel_rfl)
  go_simp
  refine (wide_rd HC.out).mono ?_
  intro e y11 hh
  rcases hh with hh | hh
  rotate_left
  · obtain ⟨er, pl, hg, rfl, hs⟩ := hh
    exact ⟨rfl, .no (map_no (dep_on HG3.out (dep_on HG7.out (hg)))) rfl (Save.left HA.out.2.1 (HS.out.trans hs))⟩
  obtain ⟨x11, q11, v11, t11, hg11, rfl, hv, hc, hs⟩ := hh
  obtain rfl : v11 = .int .u64 x11 := hv
  have HS := Lib.hid (HS.out.trans hs)
  have HC := Lib.hid hc
  have HG11 := Lib.hid hg11
  refine hK11 _ _ trivial (fun hS11 => ?_)
  clear hg11 hc hs hS7 hK11 K11
  (refine held_take (i := 12) (oi := ?ot33) (v := .agg (vec 3 (devE ⟨x3, x7, x11⟩))) ?at33 (by kernel_rfl) (by kernel_rfl) (by kernel_rfl) ?bt33 ?ct33 ?dt33 (by assumption) ?rt33; (case at33 => (simp only [List.getElem?_toArray, List.getElem?_cons_zero, List.getElem?_cons_succ]; rfl)); (case bt33 => exact fun _ _ _ h => h); (case ct33 => kernel_rfl); (case dt33 => (intro W _; exact exec_build 110 _ rfl (vec 3 (devE ⟨x3, x7, x11⟩)) (by kernel_rfl) W)); (case' rt33 => simp only [Act.put, List.setIfInBounds_toArray, List.set_cons_zero, List.set_cons_succ]))
  refine held_one (i := 13) (oi := ?ot34) (by kernel_rfl) ?at34 ?ct34 (fun K13 hK13 => ?_)
  (case at34 => (simp only [List.getElem?_toArray, List.getElem?_cons_zero, List.getElem?_cons_succ]; rfl))
  (case ct34 => kernel_rfl)
  refine ow_store 110 _ _ rfl _ rfl _ rfl (run_store_arr (HA.out.1.save HS.out HR.out) (devE ⟨x3, x7, x11⟩) infoDe (devE_one _ _)) ?_
  have hb2 : Below w.heap.size y11 (y11.setRow w.heap.size (vec 3 (devE ⟨x3, x7, x11⟩))) := below_row (Below.refl _ _) (Nat.le_refl _) _
  have HZ := Lib.hid (And.intro ((HA.out.1.save HS.out HR.out).row (devE ⟨x3, x7, x11⟩)) (And.intro (HC.out.on hb2 HGW.out) ((Save.left HA.out.2.1 HS.out).on hb2 (Nat.le_refl _))))
  refine hK13 _ _ trivial (fun hS13 => ?_)
  clear hb2 hS11 hK13 K13
  refine wpAnyH_done (by kernel_rfl) ?_ _
  go_wp2
  exact bodyPost_ret (results_cell1 rfl _ _ _ rfl (run_load_arr HZ.out.1 Tryd.underlying110 rfl infoDe)) rfl (.ok (map_ye (dep_ye HG3.out (dep_ye HG7.out (HG11.out)))) rfl rfl HZ.out.2.1 HZ.out.2.2)
set_option maxHeartbeats 2000000 in
set_option maxRecDepth 100000 in
theorem irq_any {w : World} {g c at_ q : Nat} {A : Option Addr} {b : By} (h : Cur w g A c b at_ q) : Calls Tryd.prog 83 #[.pointer (some ⟨g, 0, none⟩)] w (Rd irqC (rowV 3 irqE) b q g A c w) := by
  obtain ⟨V, hV⟩ : ∃ V, V = w.alloc (.cells (vec 3 (irqE zIr)) 112) := ⟨_, rfl⟩
  have h0 : Arr V w.heap.size 112 3 (irqE zIr) := by rw [hV]; exact Arr.new w _ _ _
  have hB : Below w.heap.size w V := by rw [hV]; exact (Below.refl _ _).alloc (Nat.le_refl _) _
  have hVs : V.heap.size = w.heap.size + 1 := by rw [hV]; simp
  have hgw := h.lt
  have HGW := Lib.hid hgw
  have HR : Hid (w.heap.size ≠ g) := Lib.hid (by omega)
  have HC := Lib.hid ((h.under hB).drewN 1)
  have HA := Lib.hid (And.intro h0 (And.intro hB hVs))
  have HS : Hid (Save g V (V.drewN 1)) := Lib.hid ((Save.refl g V).drewN 1)
  have HW := Lib.hid hV
  unfold irqC
  clear hV h0 hB h hVs hgw
  go_enter Tryd.func83, Tryd.ntmps83
  go_upto_region 1 with fail
  rw [← HW.out]
  clear HW
  refine wp_region_held_drew (S := fun Y => True) (by kernel_rfl) trivial (fun hS => ?_)
  (refine held_take (i := 0) (oi := ?ot35) (v := ?vt35) ?at35 (by kernel_rfl) (by kernel_rfl) (by kernel_rfl) ?bt35 ?ct35 ?dt35 (by assumption) ?rt35; (case at35 => (simp only [List.getElem?_toArray, List.getElem?_cons_zero]; rfl)); (case bt35 => exact fun _ _ _ h => h); (case ct35 => kernel_rfl); (case dt35 => (intro W hW; (try dsimp only at hW); go_split_ands; go_simp; (try with_reducible rfl))); (case' rt35 => simp only [Act.put, List.setIfInBounds_toArray, List.set_cons_zero, List.set_cons_succ]))
  (refine held_take (i := 1) (oi := ?ot36) (v := ?vt36) ?at36 (by kernel_rfl) (by kernel_rfl) (by kernel_rfl) ?bt36 ?ct36 ?dt36 (by assumption) ?rt36; (case at36 => (simp only [List.getElem?_toArray, List.getElem?_cons_zero, List.getElem?_cons_succ]; rfl)); (case bt36 => exact fun _ _ _ h => h); (case ct36 => kernel_rfl); (case dt36 => (intro W hW; (try dsimp only at hW); go_split_ands; go_simp; (try with_reducible rfl))); (case' rt36 => simp only [Act.put, List.setIfInBounds_toArray, List.set_cons_zero, List.set_cons_succ]))
  (refine held_take (i := 2) (oi := ?ot37) (v := ?vt37) ?at37 (by kernel_rfl) (by kernel_rfl) (by kernel_rfl) ?bt37 ?ct37 ?dt37 (by assumption) ?rt37; (case at37 => (simp only [List.getElem?_toArray, List.getElem?_cons_zero, List.getElem?_cons_succ]; rfl)); (case bt37 => exact fun _ _ _ h => h); (case ct37 => kernel_rfl); (case dt37 => (intro W hW; (try dsimp only at hW); go_split_ands; go_simp; (try with_reducible rfl))); (case' rt37 => simp only [Act.put, List.setIfInBounds_toArray, List.set_cons_zero, List.set_cons_succ]))
  (refine held_take (i := 4) (oi := ?ot38) (v := ?vt38) ?at38 (by kernel_rfl) (by kernel_rfl) (by kernel_rfl) ?bt38 ?ct38 ?dt38 (by assumption) ?rt38; (case at38 => (simp only [List.getElem?_toArray, List.getElem?_cons_zero, List.getElem?_cons_succ]; rfl)); (case bt38 => exact fun _ _ _ h => h); (case ct38 => kernel_rfl); (case dt38 => (intro W hW; (try dsimp only at hW); go_split_ands; go_simp; (try with_reducible rfl))); (case' rt38 => simp only [Act.put, List.setIfInBounds_toArray, List.set_cons_zero, List.set_cons_succ]))
  (refine held_take (i := 5) (oi := ?ot39) (v := ?vt39) ?at39 (by kernel_rfl) (by kernel_rfl) (by kernel_rfl) ?bt39 ?ct39 ?dt39 (by assumption) ?rt39; (case at39 => (simp only [List.getElem?_toArray, List.getElem?_cons_zero, List.getElem?_cons_succ]; rfl)); (case bt39 => exact fun _ _ _ h => h); (case ct39 => kernel_rfl); (case dt39 => (intro W hW; (try dsimp only at hW); go_split_ands; go_simp; (try with_reducible rfl))); (case' rt39 => simp only [Act.put, List.setIfInBounds_toArray, List.set_cons_zero, List.set_cons_succ]))
  (refine held_take (i := 6) (oi := ?ot40) (v := ?vt40) ?at40 (by kernel_rfl) (by kernel_rfl) (by kernel_rfl) ?bt40 ?ct40 ?dt40 (by assumption) ?rt40; (case at40 => (simp only [List.getElem?_toArray, List.getElem?_cons_zero, List.getElem?_cons_succ]; rfl)); (case bt40 => exact fun _ _ _ h => h); (case ct40 => kernel_rfl); (case dt40 => (intro W hW; (try dsimp only at hW); go_split_ands; go_simp; (try with_reducible rfl))); (case' rt40 => simp only [Act.put, List.setIfInBounds_toArray, List.set_cons_zero, List.set_cons_succ]))
  (refine held_take (i := 8) (oi := ?ot41) (v := ?vt41) ?at41 (by kernel_rfl) (by kernel_rfl) (by kernel_rfl) ?bt41 ?ct41 ?dt41 (by assumption) ?rt41; (case at41 => (simp only [List.getElem?_toArray, List.getElem?_cons_zero, List.getElem?_cons_succ]; rfl)); (case bt41 => exact fun _ _ _ h => h); (case ct41 => kernel_rfl); (case dt41 => (intro W hW; (try dsimp only at hW); go_split_ands; go_simp; (try with_reducible rfl))); (case' rt41 => simp only [Act.put, List.setIfInBounds_toArray, List.set_cons_zero, List.set_cons_succ]))
  refine held_one (i := 3) (oi := ?ot42) (by kernel_rfl) ?at42 ?ct42 (fun K3 hK3 => ?_)
  (case at42 => (simp only [List.getElem?_toArray, List.getElem?_cons_zero, List.getElem?_cons_succ]; rfl))
  (case ct42 => kernel_rfl)
  go_simp
  refine (short_rd HC.out).mono ?_
  intro e y3 hh
  rcases hh with hh | hh
  rotate_left
  · obtain ⟨er, pl, hg, rfl, hs⟩ := hh
    exact ⟨rfl, .no (map_no (dep_no (hg))) rfl (Save.left HA.out.2.1 (HS.out.trans hs))⟩
  obtain ⟨x3, q3, v3, t3, hg3, rfl, hv, hc, hs⟩ := hh
  obtain rfl : v3 = .int .i64 x3 := hv
  have HS := Lib.hid (HS.out.trans hs)
  have HC := Lib.hid hc
  have HG3 := Lib.hid hg3
  refine hK3 _ _ trivial (fun hS3 => ?_)
  clear hg3 hc hs hS hK3 K3
  refine held_one (i := 7) (oi := ?ot43) (by kernel_rfl) ?at43 ?ct43 (fun K7 hK7 => ?_)
  (case at43 => (simp only [List.getElem?_toArray, List.getElem?_cons_zero, List.getElem?_cons_succ]; rfl))
  (case ct43 => kernel_rfl)
  go_simp
  refine (short_rd HC.out).mono ?_
  intro e y7 hh
  rcases hh with hh | hh
  rotate_left
  · obtain ⟨er, pl, hg, rfl, hs⟩ := hh
    exact ⟨rfl, .no (map_no (dep_on HG3.out (dep_no (hg)))) rfl (Save.left HA.out.2.1 (HS.out.trans hs))⟩
  obtain ⟨x7, q7, v7, t7, hg7, rfl, hv, hc, hs⟩ := hh
  obtain rfl : v7 = .int .i64 x7 := hv
  have HS := Lib.hid (HS.out.trans hs)
  have HC := Lib.hid hc
  have HG7 := Lib.hid hg7
  refine hK7 _ _ trivial (fun hS7 => ?_)
  clear hg7 hc hs hS3 hK7 K7
  refine held_one (i := 9) (oi := ?ot44) (by kernel_rfl) ?at44 ?ct44 (fun K9 hK9 => ?_)
  (case at44 => (simp only [List.getElem?_toArray, List.getElem?_cons_zero, List.getElem?_cons_succ]; rfl))
  (case ct44 => kernel_rfl)
  go_simp
  refine (flag_any HC.out).mono ?_
  intro e y9 hh
  rcases hh with hh | hh
  rotate_left
  · obtain ⟨er, pl, hg, rfl, hs⟩ := hh
    exact ⟨rfl, .no (map_no (dep_on HG3.out (dep_on HG7.out (hg)))) rfl (Save.left HA.out.2.1 (HS.out.trans hs))⟩
  obtain ⟨x9, q9, v9, t9, hg9, rfl, hv, hc, hs⟩ := hh
  obtain rfl : v9 = .bool x9 := hv
  have HS := Lib.hid (HS.out.trans hs)
  have HC := Lib.hid hc
  have HG9 := Lib.hid hg9
  refine hK9 _ _ trivial (fun hS9 => ?_)
  clear hg9 hc hs hS7 hK9 K9
  (refine held_take (i := 10) (oi := ?ot45) (v := .agg (vec 3 (irqE ⟨x3, x7, x9⟩))) ?at45 (by kernel_rfl) (by kernel_rfl) (by kernel_rfl) ?bt45 ?ct45 ?dt45 (by assumption) ?rt45; (case at45 => (simp only [List.getElem?_toArray, List.getElem?_cons_zero, List.getElem?_cons_succ]; rfl)); (case bt45 => exact fun _ _ _ h => h); (case ct45 => kernel_rfl); (case dt45 => (intro W _; exact exec_build 112 _ rfl (vec 3 (irqE ⟨x3, x7, x9⟩)) (by kernel_rfl) W)); (case' rt45 => simp only [Act.put, List.setIfInBounds_toArray, List.set_cons_zero, List.set_cons_succ]))
  refine held_one (i := 11) (oi := ?ot46) (by kernel_rfl) ?at46 ?ct46 (fun K11 hK11 => ?_)
  (case at46 => (simp only [List.getElem?_toArray, List.getElem?_cons_zero, List.getElem?_cons_succ]; rfl))
  (case ct46 => kernel_rfl)
  refine ow_store 112 _ _ rfl _ rfl _ rfl (run_store_arr (HA.out.1.save HS.out HR.out) (irqE ⟨x3, x7, x9⟩) infoIr (irqE_one _ _)) ?_
  have hb2 : Below w.heap.size y9 (y9.setRow w.heap.size (vec 3 (irqE ⟨x3, x7, x9⟩))) := below_row (Below.refl _ _) (Nat.le_refl _) _
  have HZ := Lib.hid (And.intro ((HA.out.1.save HS.out HR.out).row (irqE ⟨x3, x7, x9⟩)) (And.intro (HC.out.on hb2 HGW.out) ((Save.left HA.out.2.1 HS.out).on hb2 (Nat.le_refl _))))
  refine hK11 _ _ trivial (fun hS11 => ?_)
  clear hb2 hS9 hK11 K11
  refine wpAnyH_done (by kernel_rfl) ?_ _
  go_wp2
  exact bodyPost_ret (results_cell1 rfl _ _ _ rfl (run_load_arr HZ.out.1 Tryd.underlying112 rfl infoIr)) rfl (.ok (map_ye (dep_ye HG3.out (dep_ye HG7.out (HG9.out)))) rfl rfl HZ.out.2.1 HZ.out.2.2)
set_option maxHeartbeats 2000000 in
set_option maxRecDepth 100000 in
theorem end_any {w : World} {g c at_ q : Nat} {A : Option Addr} {b : By} (h : Cur w g A c b at_ q) : Calls Tryd.prog 85 #[.pointer (some ⟨g, 0, none⟩)] w (Rd endC (rowV 3 endE) b q g A c w) := by
  obtain ⟨V, hV⟩ : ∃ V, V = w.alloc (.cells (vec 3 (endE zEn)) 68) := ⟨_, rfl⟩
  have h0 : Arr V w.heap.size 68 3 (endE zEn) := by rw [hV]; exact Arr.new w _ _ _
  have hB : Below w.heap.size w V := by rw [hV]; exact (Below.refl _ _).alloc (Nat.le_refl _) _
  have hVs : V.heap.size = w.heap.size + 1 := by rw [hV]; simp
  have hgw := h.lt
  have HGW := Lib.hid hgw
  have HR : Hid (w.heap.size ≠ g) := Lib.hid (by omega)
  have HC := Lib.hid ((h.under hB).drewN 1)
  have HA := Lib.hid (And.intro h0 (And.intro hB hVs))
  have HS : Hid (Save g V (V.drewN 1)) := Lib.hid ((Save.refl g V).drewN 1)
  have HW := Lib.hid hV
  unfold endC
  clear hV h0 hB h hVs hgw
  go_enter Tryd.func85, Tryd.ntmps85
  go_upto_region 1 with fail
  rw [← HW.out]
  clear HW
  refine wp_region_held_drew (S := fun Y => True) (by kernel_rfl) trivial (fun hS => ?_)
  (refine held_take (i := 0) (oi := ?ot47) (v := ?vt47) ?at47 (by kernel_rfl) (by kernel_rfl) (by kernel_rfl) ?bt47 ?ct47 ?dt47 (by assumption) ?rt47; (case at47 => (simp only [List.getElem?_toArray, List.getElem?_cons_zero]; rfl)); (case bt47 => exact fun _ _ _ h => h); (case ct47 => kernel_rfl); (case dt47 => (intro W hW; (try dsimp only at hW); go_split_ands; go_simp; (try with_reducible rfl))); (case' rt47 => simp only [Act.put, List.setIfInBounds_toArray, List.set_cons_zero, List.set_cons_succ]))
  (refine held_take (i := 1) (oi := ?ot48) (v := ?vt48) ?at48 (by kernel_rfl) (by kernel_rfl) (by kernel_rfl) ?bt48 ?ct48 ?dt48 (by assumption) ?rt48; (case at48 => (simp only [List.getElem?_toArray, List.getElem?_cons_zero, List.getElem?_cons_succ]; rfl)); (case bt48 => exact fun _ _ _ h => h); (case ct48 => kernel_rfl); (case dt48 => (intro W hW; (try dsimp only at hW); go_split_ands; go_simp; (try with_reducible rfl))); (case' rt48 => simp only [Act.put, List.setIfInBounds_toArray, List.set_cons_zero, List.set_cons_succ]))
  (refine held_take (i := 2) (oi := ?ot49) (v := ?vt49) ?at49 (by kernel_rfl) (by kernel_rfl) (by kernel_rfl) ?bt49 ?ct49 ?dt49 (by assumption) ?rt49; (case at49 => (simp only [List.getElem?_toArray, List.getElem?_cons_zero, List.getElem?_cons_succ]; rfl)); (case bt49 => exact fun _ _ _ h => h); (case ct49 => kernel_rfl); (case dt49 => (intro W hW; (try dsimp only at hW); go_split_ands; go_simp; (try with_reducible rfl))); (case' rt49 => simp only [Act.put, List.setIfInBounds_toArray, List.set_cons_zero, List.set_cons_succ]))
  (refine held_take (i := 4) (oi := ?ot50) (v := ?vt50) ?at50 (by kernel_rfl) (by kernel_rfl) (by kernel_rfl) ?bt50 ?ct50 ?dt50 (by assumption) ?rt50; (case at50 => (simp only [List.getElem?_toArray, List.getElem?_cons_zero, List.getElem?_cons_succ]; rfl)); (case bt50 => exact fun _ _ _ h => h); (case ct50 => kernel_rfl); (case dt50 => (intro W hW; (try dsimp only at hW); go_split_ands; go_simp; (try with_reducible rfl))); (case' rt50 => simp only [Act.put, List.setIfInBounds_toArray, List.set_cons_zero, List.set_cons_succ]))
  (refine held_take (i := 5) (oi := ?ot51) (v := ?vt51) ?at51 (by kernel_rfl) (by kernel_rfl) (by kernel_rfl) ?bt51 ?ct51 ?dt51 (by assumption) ?rt51; (case at51 => (simp only [List.getElem?_toArray, List.getElem?_cons_zero, List.getElem?_cons_succ]; rfl)); (case bt51 => exact fun _ _ _ h => h); (case ct51 => kernel_rfl); (case dt51 => (intro W hW; (try dsimp only at hW); go_split_ands; go_simp; (try with_reducible rfl))); (case' rt51 => simp only [Act.put, List.setIfInBounds_toArray, List.set_cons_zero, List.set_cons_succ]))
  (refine held_take (i := 6) (oi := ?ot52) (v := ?vt52) ?at52 (by kernel_rfl) (by kernel_rfl) (by kernel_rfl) ?bt52 ?ct52 ?dt52 (by assumption) ?rt52; (case at52 => (simp only [List.getElem?_toArray, List.getElem?_cons_zero, List.getElem?_cons_succ]; rfl)); (case bt52 => exact fun _ _ _ h => h); (case ct52 => kernel_rfl); (case dt52 => (intro W hW; (try dsimp only at hW); go_split_ands; go_simp; (try with_reducible rfl))); (case' rt52 => simp only [Act.put, List.setIfInBounds_toArray, List.set_cons_zero, List.set_cons_succ]))
  (refine held_take (i := 7) (oi := ?ot53) (v := ?vt53) ?at53 (by kernel_rfl) (by kernel_rfl) (by kernel_rfl) ?bt53 ?ct53 ?dt53 (by assumption) ?rt53; (case at53 => (simp only [List.getElem?_toArray, List.getElem?_cons_zero, List.getElem?_cons_succ]; rfl)); (case bt53 => exact fun _ _ _ h => h); (case ct53 => kernel_rfl); (case dt53 => (intro W hW; (try dsimp only at hW); go_split_ands; go_simp; (try with_reducible rfl))); (case' rt53 => simp only [Act.put, List.setIfInBounds_toArray, List.set_cons_zero, List.set_cons_succ]))
  (refine held_take (i := 11) (oi := ?ot54) (v := ?vt54) ?at54 (by kernel_rfl) (by kernel_rfl) (by kernel_rfl) ?bt54 ?ct54 ?dt54 (by assumption) ?rt54; (case at54 => (simp only [List.getElem?_toArray, List.getElem?_cons_zero, List.getElem?_cons_succ]; rfl)); (case bt54 => exact fun _ _ _ h => h); (case ct54 => kernel_rfl); (case dt54 => (intro W hW; (try dsimp only at hW); go_split_ands; go_simp; (try with_reducible rfl))); (case' rt54 => simp only [Act.put, List.setIfInBounds_toArray, List.set_cons_zero, List.set_cons_succ]))
  (refine held_take (i := 12) (oi := ?ot55) (v := ?vt55) ?at55 (by kernel_rfl) (by kernel_rfl) (by kernel_rfl) ?bt55 ?ct55 ?dt55 (by assumption) ?rt55; (case at55 => (simp only [List.getElem?_toArray, List.getElem?_cons_zero, List.getElem?_cons_succ]; rfl)); (case bt55 => exact fun _ _ _ h => h); (case ct55 => kernel_rfl); (case dt55 => (intro W hW; (try dsimp only at hW); go_split_ands; go_simp; (try with_reducible rfl))); (case' rt55 => simp only [Act.put, List.setIfInBounds_toArray, List.set_cons_zero, List.set_cons_succ]))
  (refine held_take (i := 13) (oi := ?ot56) (v := ?vt56) ?at56 (by kernel_rfl) (by kernel_rfl) (by kernel_rfl) ?bt56 ?ct56 ?dt56 (by assumption) ?rt56; (case at56 => (simp only [List.getElem?_toArray, List.getElem?_cons_zero, List.getElem?_cons_succ]; rfl)); (case bt56 => exact fun _ _ _ h => h); (case ct56 => kernel_rfl); (case dt56 => (intro W hW; (try dsimp only at hW); go_split_ands; go_simp; (try with_reducible rfl))); (case' rt56 => simp only [Act.put, List.setIfInBounds_toArray, List.set_cons_zero, List.set_cons_succ]))
  refine held_one (i := 3) (oi := ?ot57) (by kernel_rfl) ?at57 ?ct57 (fun K3 hK3 => ?_)
  (case at57 => (simp only [List.getElem?_toArray, List.getElem?_cons_zero, List.getElem?_cons_succ]; rfl))
  (case ct57 => kernel_rfl)
  go_simp
  refine (short_rd HC.out).mono ?_
  intro e y3 hh
  rcases hh with hh | hh
  rotate_left
  · obtain ⟨er, pl, hg, rfl, hs⟩ := hh
    exact ⟨rfl, .no (map_no (dep_no (hg))) rfl (Save.left HA.out.2.1 (HS.out.trans hs))⟩
  obtain ⟨x3, q3, v3, t3, hg3, rfl, hv, hc, hs⟩ := hh
  obtain rfl : v3 = .int .i64 x3 := hv
  have HS := Lib.hid (HS.out.trans hs)
  have HC := Lib.hid hc
  have HG3 := Lib.hid hg3
  refine hK3 _ _ trivial (fun hS3 => ?_)
  clear hg3 hc hs hS hK3 K3
  refine held_one (i := 8) (oi := ?ot58) (by kernel_rfl) ?at58 ?ct58 (fun K8 hK8 => ?_)
  (case at58 => (simp only [List.getElem?_toArray, List.getElem?_cons_zero, List.getElem?_cons_succ]; rfl))
  (case ct58 => kernel_rfl)
  go_simp
  refine (short_any HC.out).mono ?_
  intro e y8 hh
  rcases hh with hh | hh
  rotate_left
  · obtain ⟨hm, rfl, hs⟩ := hh
    exact ⟨rfl, .no (map_no (dep_on HG3.out (dep_no (fld_short _ _ _ _ _ _ hm)))) rfl (Save.left HA.out.2.1 (HS.out.trans hs))⟩
  obtain ⟨hm, rfl, hc, hs⟩ := hh
  obtain ⟨n, hn⟩ : ∃ n, n = numAt b q3 2 := ⟨_, rfl⟩
  have hn4 : n < 65536 := by rw [hn]; exact numAt_lt _ _ _
  have hnw : n < 4294967296 := by omega
  rw [← hn]
  have HS := Lib.hid (HS.out.trans hs)
  have HC := Lib.hid hc
  have HM := Lib.hid (And.intro hm hn)
  have hwn : IntKind.u32.wrap (n : Int) = (n : Int) := by rw [IntKind.wrap_u32]; omega
  refine hK8 _ _ trivial (fun hS8 => ?_)
  clear hm hn hc hs hn4 hS3 hK8 K8
  (refine held_take (i := 9) (oi := ?ot59) (v := ?vt59) ?at59 (by kernel_rfl) (by kernel_rfl) (by kernel_rfl) ?bt59 ?ct59 ?dt59 (by assumption) ?rt59; (case at59 => (simp only [List.getElem?_toArray, List.getElem?_cons_zero, List.getElem?_cons_succ]; rfl)); (case bt59 => exact fun _ _ _ h => h); (case ct59 => kernel_rfl); (case dt59 => (intro W hW; (try dsimp only at hW); go_split_ands; go_simp; (try with_reducible rfl))); (case' rt59 => simp only [Act.put, List.setIfInBounds_toArray, List.set_cons_zero, List.set_cons_succ]))
  refine held_one (i := 10) (oi := ?ot60) (by kernel_rfl) ?at60 ?ct60 (fun K10 hK10 => ?_)
  (case at60 => (simp only [List.getElem?_toArray, List.getElem?_cons_zero, List.getElem?_cons_succ]; rfl))
  (case ct60 => kernel_rfl)
  go_simp
  refine (perm_any HC.out n hnw).mono ?_
  intro e y10 hh
  obtain ⟨hk, he⟩ := hh
  have hs : Save g _ y10 := (Save.refl _ _).drew_of hk
  by_cases h7 : n ≤ 7
  rotate_left
  · rw [if_neg h7] at he
    subst he
    exact ⟨rfl, .no (map_no (dep_on HG3.out (dep_no (fld_bad _ _ _ _ _ _ n HM.out.1 HM.out.2 (fun h => h7 h.2))))) rfl (Save.left HA.out.2.1 (HS.out.trans hs))⟩
  rw [if_pos h7] at he
  subst he
  have HS := Lib.hid (HS.out.trans hs)
  have HC := Lib.hid (HC.out.drew_of hk)
  have HG10 := Lib.hid (fld_good 2 0 7 144 b q3 n HM.out.1 HM.out.2 ⟨Nat.zero_le _, h7⟩)
  refine hK10 _ _ trivial (fun hS10 => ?_)
  clear hk hs h7 hS8 hK10 K10
  refine held_one (i := 14) (oi := ?ot61) (by kernel_rfl) ?at61 ?ct61 (fun K14 hK14 => ?_)
  (case at61 => (simp only [List.getElem?_toArray, List.getElem?_cons_zero, List.getElem?_cons_succ]; rfl))
  (case ct61 => kernel_rfl)
  go_simp
  refine (wide_rd HC.out).mono ?_
  intro e y14 hh
  rcases hh with hh | hh
  rotate_left
  · obtain ⟨er, pl, hg, rfl, hs⟩ := hh
    exact ⟨rfl, .no (map_no (dep_on HG3.out (dep_on HG10.out (hg)))) rfl (Save.left HA.out.2.1 (HS.out.trans hs))⟩
  obtain ⟨x14, q14, v14, t14, hg14, rfl, hv, hc, hs⟩ := hh
  obtain rfl : v14 = .int .u64 x14 := hv
  have HS := Lib.hid (HS.out.trans hs)
  have HC := Lib.hid hc
  have HG14 := Lib.hid hg14
  refine hK14 _ _ trivial (fun hS14 => ?_)
  clear hg14 hc hs hS10 hK14 K14
  (refine held_take (i := 15) (oi := ?ot62) (v := .agg (vec 3 (endE ⟨x3, (n : Int), x14⟩))) ?at62 (by kernel_rfl) (by kernel_rfl) (by kernel_rfl) ?bt62 ?ct62 ?dt62 (by assumption) ?rt62; (case at62 => (simp only [List.getElem?_toArray, List.getElem?_cons_zero, List.getElem?_cons_succ]; rfl)); (case bt62 => exact fun _ _ _ h => h); (case ct62 => kernel_rfl); (case dt62 => (intro W _; exact exec_build 68 _ rfl (vec 3 (endE ⟨x3, (n : Int), x14⟩)) (by kernel_rfl) W)); (case' rt62 => simp only [Act.put, List.setIfInBounds_toArray, List.set_cons_zero, List.set_cons_succ]))
  refine held_one (i := 16) (oi := ?ot63) (by kernel_rfl) ?at63 ?ct63 (fun K16 hK16 => ?_)
  (case at63 => (simp only [List.getElem?_toArray, List.getElem?_cons_zero, List.getElem?_cons_succ]; rfl))
  (case ct63 => kernel_rfl)
  refine ow_store 68 _ _ rfl _ rfl _ rfl (run_store_arr (HA.out.1.save HS.out HR.out) (endE ⟨x3, (n : Int), x14⟩) infoEn (endE_one _ _)) ?_
  have hb2 : Below w.heap.size y14 (y14.setRow w.heap.size (vec 3 (endE ⟨x3, (n : Int), x14⟩))) := below_row (Below.refl _ _) (Nat.le_refl _) _
  have HZ := Lib.hid (And.intro ((HA.out.1.save HS.out HR.out).row (endE ⟨x3, (n : Int), x14⟩)) (And.intro (HC.out.on hb2 HGW.out) ((Save.left HA.out.2.1 HS.out).on hb2 (Nat.le_refl _))))
  refine hK16 _ _ trivial (fun hS16 => ?_)
  clear hb2 hS14 hK16 K16
  refine wpAnyH_done (by kernel_rfl) ?_ _
  go_wp2
  exact bodyPost_ret (results_cell1 rfl _ _ _ rfl (run_load_arr HZ.out.1 Tryd.underlying68 rfl infoEn)) rfl (.ok (map_ye (dep_ye HG3.out (dep_ye HG10.out (HG14.out)))) rfl rfl HZ.out.2.1 HZ.out.2.2)
set_option maxHeartbeats 2000000 in
set_option maxRecDepth 100000 in
theorem channel_any {w : World} {g c at_ q : Nat} {A : Option Addr} {b : By} (h : Cur w g A c b at_ q) : Calls Tryd.prog 46 #[.pointer (some ⟨g, 0, none⟩)] w (Rd chC (rowV 8 chE) b q g A c w) := by
  obtain ⟨V, hV⟩ : ∃ V, V = w.alloc (.cells (vec 8 (chE zCh)) 71) := ⟨_, rfl⟩
  have h0 : Arr V w.heap.size 71 8 (chE zCh) := by rw [hV]; exact Arr.new w _ _ _
  have hB : Below w.heap.size w V := by rw [hV]; exact (Below.refl _ _).alloc (Nat.le_refl _) _
  have hVs : V.heap.size = w.heap.size + 1 := by rw [hV]; simp
  have hgw := h.lt
  have HGW := Lib.hid hgw
  have HR : Hid (w.heap.size ≠ g) := Lib.hid (by omega)
  have HC := Lib.hid ((h.under hB).drewN 1)
  have HA := Lib.hid (And.intro h0 (And.intro hB hVs))
  have HS : Hid (Save g V (V.drewN 1)) := Lib.hid ((Save.refl g V).drewN 1)
  have HW := Lib.hid hV
  unfold chC
  clear hV h0 hB h hVs hgw
  go_enter Tryd.func46, Tryd.ntmps46
  go_upto_region 1 with fail
  rw [← HW.out]
  clear HW
  refine wp_region_held_drew (S := fun Y => True) (by kernel_rfl) trivial (fun hS => ?_)
  (refine held_take (i := 0) (oi := ?ot64) (v := ?vt64) ?at64 (by kernel_rfl) (by kernel_rfl) (by kernel_rfl) ?bt64 ?ct64 ?dt64 (by assumption) ?rt64; (case at64 => (simp only [List.getElem?_toArray, List.getElem?_cons_zero]; rfl)); (case bt64 => exact fun _ _ _ h => h); (case ct64 => kernel_rfl); (case dt64 => (intro W hW; (try dsimp only at hW); go_split_ands; go_simp; (try with_reducible rfl))); (case' rt64 => simp only [Act.put, List.setIfInBounds_toArray, List.set_cons_zero, List.set_cons_succ]))
  (refine held_take (i := 1) (oi := ?ot65) (v := ?vt65) ?at65 (by kernel_rfl) (by kernel_rfl) (by kernel_rfl) ?bt65 ?ct65 ?dt65 (by assumption) ?rt65; (case at65 => (simp only [List.getElem?_toArray, List.getElem?_cons_zero, List.getElem?_cons_succ]; rfl)); (case bt65 => exact fun _ _ _ h => h); (case ct65 => kernel_rfl); (case dt65 => (intro W hW; (try dsimp only at hW); go_split_ands; go_simp; (try with_reducible rfl))); (case' rt65 => simp only [Act.put, List.setIfInBounds_toArray, List.set_cons_zero, List.set_cons_succ]))
  (refine held_take (i := 2) (oi := ?ot66) (v := ?vt66) ?at66 (by kernel_rfl) (by kernel_rfl) (by kernel_rfl) ?bt66 ?ct66 ?dt66 (by assumption) ?rt66; (case at66 => (simp only [List.getElem?_toArray, List.getElem?_cons_zero, List.getElem?_cons_succ]; rfl)); (case bt66 => exact fun _ _ _ h => h); (case ct66 => kernel_rfl); (case dt66 => (intro W hW; (try dsimp only at hW); go_split_ands; go_simp; (try with_reducible rfl))); (case' rt66 => simp only [Act.put, List.setIfInBounds_toArray, List.set_cons_zero, List.set_cons_succ]))
  (refine held_take (i := 4) (oi := ?ot67) (v := ?vt67) ?at67 (by kernel_rfl) (by kernel_rfl) (by kernel_rfl) ?bt67 ?ct67 ?dt67 (by assumption) ?rt67; (case at67 => (simp only [List.getElem?_toArray, List.getElem?_cons_zero, List.getElem?_cons_succ]; rfl)); (case bt67 => exact fun _ _ _ h => h); (case ct67 => kernel_rfl); (case dt67 => (intro W hW; (try dsimp only at hW); go_split_ands; go_simp; (try with_reducible rfl))); (case' rt67 => simp only [Act.put, List.setIfInBounds_toArray, List.set_cons_zero, List.set_cons_succ]))
  (refine held_take (i := 5) (oi := ?ot68) (v := ?vt68) ?at68 (by kernel_rfl) (by kernel_rfl) (by kernel_rfl) ?bt68 ?ct68 ?dt68 (by assumption) ?rt68; (case at68 => (simp only [List.getElem?_toArray, List.getElem?_cons_zero, List.getElem?_cons_succ]; rfl)); (case bt68 => exact fun _ _ _ h => h); (case ct68 => kernel_rfl); (case dt68 => (intro W hW; (try dsimp only at hW); go_split_ands; go_simp; (try with_reducible rfl))); (case' rt68 => simp only [Act.put, List.setIfInBounds_toArray, List.set_cons_zero, List.set_cons_succ]))
  (refine held_take (i := 6) (oi := ?ot69) (v := ?vt69) ?at69 (by kernel_rfl) (by kernel_rfl) (by kernel_rfl) ?bt69 ?ct69 ?dt69 (by assumption) ?rt69; (case at69 => (simp only [List.getElem?_toArray, List.getElem?_cons_zero, List.getElem?_cons_succ]; rfl)); (case bt69 => exact fun _ _ _ h => h); (case ct69 => kernel_rfl); (case dt69 => (intro W hW; (try dsimp only at hW); go_split_ands; go_simp; (try with_reducible rfl))); (case' rt69 => simp only [Act.put, List.setIfInBounds_toArray, List.set_cons_zero, List.set_cons_succ]))
  (refine held_take (i := 8) (oi := ?ot70) (v := ?vt70) ?at70 (by kernel_rfl) (by kernel_rfl) (by kernel_rfl) ?bt70 ?ct70 ?dt70 (by assumption) ?rt70; (case at70 => (simp only [List.getElem?_toArray, List.getElem?_cons_zero, List.getElem?_cons_succ]; rfl)); (case bt70 => exact fun _ _ _ h => h); (case ct70 => kernel_rfl); (case dt70 => (intro W hW; (try dsimp only at hW); go_split_ands; go_simp; (try with_reducible rfl))); (case' rt70 => simp only [Act.put, List.setIfInBounds_toArray, List.set_cons_zero, List.set_cons_succ]))
  (refine held_take (i := 10) (oi := ?ot71) (v := ?vt71) ?at71 (by kernel_rfl) (by kernel_rfl) (by kernel_rfl) ?bt71 ?ct71 ?dt71 (by assumption) ?rt71; (case at71 => (simp only [List.getElem?_toArray, List.getElem?_cons_zero, List.getElem?_cons_succ]; rfl)); (case bt71 => exact fun _ _ _ h => h); (case ct71 => kernel_rfl); (case dt71 => (intro W hW; (try dsimp only at hW); go_split_ands; go_simp; (try with_reducible rfl))); (case' rt71 => simp only [Act.put, List.setIfInBounds_toArray, List.set_cons_zero, List.set_cons_succ]))
  refine held_one (i := 3) (oi := ?ot72) (by kernel_rfl) ?at72 ?ct72 (fun K3 hK3 => ?_)
  (case at72 => (simp only [List.getElem?_toArray, List.getElem?_cons_zero, List.getElem?_cons_succ]; rfl))
  (case ct72 => kernel_rfl)
  go_simp
  refine (wide_rd HC.out).mono ?_
  intro e y3 hh
  rcases hh with hh | hh
  rotate_left
  · obtain ⟨er, pl, hg, rfl, hs⟩ := hh
    exact ⟨rfl, .no (map_no (dep_no (hg))) rfl (Save.left HA.out.2.1 (HS.out.trans hs))⟩
  obtain ⟨x3, q3, v3, t3, hg3, rfl, hv, hc, hs⟩ := hh
  obtain rfl : v3 = .int .u64 x3 := hv
  have HS := Lib.hid (HS.out.trans hs)
  have HC := Lib.hid hc
  have HG3 := Lib.hid hg3
  refine hK3 _ _ trivial (fun hS3 => ?_)
  clear hg3 hc hs hS hK3 K3
  refine held_one (i := 7) (oi := ?ot73) (by kernel_rfl) ?at73 ?ct73 (fun K7 hK7 => ?_)
  (case at73 => (simp only [List.getElem?_toArray, List.getElem?_cons_zero, List.getElem?_cons_succ]; rfl))
  (case ct73 => kernel_rfl)
  go_simp
  refine (wide_rd HC.out).mono ?_
  intro e y7 hh
  rcases hh with hh | hh
  rotate_left
  · obtain ⟨er, pl, hg, rfl, hs⟩ := hh
    exact ⟨rfl, .no (map_no (dep_on HG3.out (dep_no (hg)))) rfl (Save.left HA.out.2.1 (HS.out.trans hs))⟩
  obtain ⟨x7, q7, v7, t7, hg7, rfl, hv, hc, hs⟩ := hh
  obtain rfl : v7 = .int .u64 x7 := hv
  have HS := Lib.hid (HS.out.trans hs)
  have HC := Lib.hid hc
  have HG7 := Lib.hid hg7
  refine hK7 _ _ trivial (fun hS7 => ?_)
  clear hg7 hc hs hS3 hK7 K7
  refine held_one (i := 9) (oi := ?ot74) (by kernel_rfl) ?at74 ?ct74 (fun K9 hK9 => ?_)
  (case at74 => (simp only [List.getElem?_toArray, List.getElem?_cons_zero, List.getElem?_cons_succ]; rfl))
  (case ct74 => kernel_rfl)
  go_simp
  refine (end_any HC.out).mono ?_
  intro e y9 hh
  rcases hh with hh | hh
  rotate_left
  · obtain ⟨er, pl, hg, rfl, hs⟩ := hh
    exact ⟨rfl, .no (map_no (dep_on HG3.out (dep_on HG7.out (dep_no (hg))))) rfl (Save.left HA.out.2.1 (HS.out.trans hs))⟩
  obtain ⟨x9, q9, v9, t9, hg9, rfl, hv, hc, hs⟩ := hh
  obtain rfl : v9 = .agg (vec 3 (endE x9)) := hv
  have HS := Lib.hid (HS.out.trans hs)
  have HC := Lib.hid hc
  have HG9 := Lib.hid hg9
  refine hK9 _ _ trivial (fun hS9 => ?_)
  clear hg9 hc hs hS7 hK9 K9
  refine held_one (i := 11) (oi := ?ot75) (by kernel_rfl) ?at75 ?ct75 (fun K11 hK11 => ?_)
  (case at75 => (simp only [List.getElem?_toArray, List.getElem?_cons_zero, List.getElem?_cons_succ]; rfl))
  (case ct75 => kernel_rfl)
  go_simp
  refine (end_any HC.out).mono ?_
  intro e y11 hh
  rcases hh with hh | hh
  rotate_left
  · obtain ⟨er, pl, hg, rfl, hs⟩ := hh
    exact ⟨rfl, .no (map_no (dep_on HG3.out (dep_on HG7.out (dep_on HG9.out (hg))))) rfl (Save.left HA.out.2.1 (HS.out.trans hs))⟩
  obtain ⟨x11, q11, v11, t11, hg11, rfl, hv, hc, hs⟩ := hh
  obtain rfl : v11 = .agg (vec 3 (endE x11)) := hv
  have HS := Lib.hid (HS.out.trans hs)
  have HC := Lib.hid hc
  have HG11 := Lib.hid hg11
  refine hK11 _ _ trivial (fun hS11 => ?_)
  clear hg11 hc hs hS9 hK11 K11
  (refine held_take (i := 12) (oi := ?ot76) (v := .agg (vec 6 (twoE x9 x11))) ?at76 (by kernel_rfl) (by kernel_rfl) (by kernel_rfl) ?bt76 ?ct76 ?dt76 (by assumption) ?rt76; (case at76 => (simp only [List.getElem?_toArray, List.getElem?_cons_zero, List.getElem?_cons_succ]; rfl)); (case bt76 => exact fun _ _ _ h => h); (case ct76 => kernel_rfl); (case dt76 => (intro W _; exact exec_build 69 _ rfl (vec 6 (twoE x9 x11)) (by kernel_rfl) W)); (case' rt76 => simp only [Act.put, List.setIfInBounds_toArray, List.set_cons_zero, List.set_cons_succ]))
  (refine held_take (i := 13) (oi := ?ot77) (v := .agg (vec 8 (chE ⟨x3, x7, x9, x11⟩))) ?at77 (by kernel_rfl) (by kernel_rfl) (by kernel_rfl) ?bt77 ?ct77 ?dt77 (by assumption) ?rt77; (case at77 => (simp only [List.getElem?_toArray, List.getElem?_cons_zero, List.getElem?_cons_succ]; rfl)); (case bt77 => exact fun _ _ _ h => h); (case ct77 => kernel_rfl); (case dt77 => (intro W _; exact exec_build 71 _ rfl (vec 8 (chE ⟨x3, x7, x9, x11⟩)) (by kernel_rfl) W)); (case' rt77 => simp only [Act.put, List.setIfInBounds_toArray, List.set_cons_zero, List.set_cons_succ]))
  refine held_one (i := 14) (oi := ?ot78) (by kernel_rfl) ?at78 ?ct78 (fun K14 hK14 => ?_)
  (case at78 => (simp only [List.getElem?_toArray, List.getElem?_cons_zero, List.getElem?_cons_succ]; rfl))
  (case ct78 => kernel_rfl)
  refine ow_store 71 _ _ rfl _ rfl _ rfl (run_store_arr (HA.out.1.save HS.out HR.out) (chE ⟨x3, x7, x9, x11⟩) infoCh (chE_one _ _)) ?_
  have hb2 : Below w.heap.size y11 (y11.setRow w.heap.size (vec 8 (chE ⟨x3, x7, x9, x11⟩))) := below_row (Below.refl _ _) (Nat.le_refl _) _
  have HZ := Lib.hid (And.intro ((HA.out.1.save HS.out HR.out).row (chE ⟨x3, x7, x9, x11⟩)) (And.intro (HC.out.on hb2 HGW.out) ((Save.left HA.out.2.1 HS.out).on hb2 (Nat.le_refl _))))
  refine hK14 _ _ trivial (fun hS14 => ?_)
  clear hb2 hS11 hK14 K14
  refine wpAnyH_done (by kernel_rfl) ?_ _
  go_wp2
  exact bodyPost_ret (results_cell1 rfl _ _ _ rfl (run_load_arr HZ.out.1 Tryd.underlying71 rfl infoCh)) rfl (.ok (map_ye (dep_ye HG3.out (dep_ye HG7.out (dep_ye HG9.out (HG11.out))))) rfl rfl HZ.out.2.1 HZ.out.2.2)
end Go.Proofs.YtmcpmcicolpoeaaDoor
