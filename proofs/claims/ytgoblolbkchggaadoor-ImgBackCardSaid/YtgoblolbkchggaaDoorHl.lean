/- laid: a header with its bytes. -/
import Derived.Test.YtgoblolbkchggaaDoorHc
namespace Go.Proofs.YtgoblolbkchggaaDoor
open Go.RowKit
attribute [local go_sem ↓ high] zeroHv zero16

/-- A header with its bytes is told; the heap stays. -/
def LaP (h : Hd) (b : By) (w : World) (e : Ending) (w' : World) : Prop := e = .returned (.agg (vec 99 (hvF h b))) ∧ Below w.heap.size w w'
set_option maxHeartbeats 4000000 in
set_option maxRecDepth 100000 in
theorem laid_any (h : Hd) (hb : HdB h) (w : World) : Calls Tryd.prog 15 #[.agg (vec 35 (hdF h))] w (LaP h (layL h) w) := by
  obtain ⟨V0, hV0⟩ : ∃ V, V = (w.alloc (.cells (vec 35 (hdF h)) 26)).alloc (.cells (vec 99 (hvF zHd (zs 64))) 49) := ⟨_, rfl⟩
  obtain ⟨V1, hV1⟩ : ∃ V, V = V0.alloc (.cells (vec 16 (bys (kF (zs 16)))) 66) := ⟨_, rfl⟩
  obtain ⟨S, hS⟩ : ∃ S, S = strOf h.name := ⟨_, rfl⟩
  obtain ⟨r, hr⟩ : ∃ r, r = V0.heap.size := ⟨_, rfl⟩
  have hrw : r = w.heap.size + 2 := by rw [hr, hV0]; simp
  obtain ⟨m, hm⟩ : ∃ m, m = Nat.min h.name.length 16 := ⟨_, rfl⟩
  have hm16 : m ≤ 16 := by rw [hm]; exact Nat.min_le_right _ _
  obtain ⟨V, hV⟩ : ∃ V, V = V1.drew.setRow r (Lib.byteCells (S.data.toList.take m) ++ (vec 16 (bys (kF (zs 16)))).toList.drop m).toArray := ⟨_, rfl⟩
  have a0 : Arr V0 w.heap.size 26 35 (hdF h) := by rw [hV0]; exact (Arr.new w _ _ _).alloc _
  have a1 : Arr V0 (w.heap.size + 1) 49 99 (hvF zHd (zs 64)) := by rw [hV0]; exact Arr.newAt _ _ _ _ (by simp)
  have b0 : Below w.heap.size w V0 := by rw [hV0]; exact ((Below.refl _ _).alloc (Nat.le_refl _) _).alloc (by simp <;> omega) _
  have b1' : Below V0.heap.size V0 V1 := by rw [hV1]; exact (Below.refl _ _).alloc (Nat.le_refl _) _
  have b1 : Below V0.heap.size V0 V1.drew := b1'.trans ((show Below V1.heap.size V1 V1.drew from VS.begin V1).mono b1'.size)
  have hrow : V1.drew.heap[r]? = some (.cells (vec 16 (bys (kF (zs 16)))) 66 (0, 0)) := by rw [hr, hV1]; exact heap_alloc_new V0 _
  have b2 : Below V0.heap.size V0 V := by rw [hV]; exact below_row b1 (by omega) _
  have hrV : V.heap[r]? = some (.cells (u8s (nm16 h.name)).toArray 66 (0, 0)) := by
    rw [hV, hS, name_cells _ _ hm.symm]
    exact setRow_heap _ _ _ _ _ _ hrow
  have HNM0 : Lies V V.heap.size 1 (some ⟨r, 0, none⟩) 16 (u8s (nm16 h.name)) := lies_row hrV rfl (by rw [u8s_length, nm16_len])
  have k0 : Arr V w.heap.size 26 35 (hdF h) := a0.under b2
  have k1 : Arr V (w.heap.size + 1) 49 99 (hvF zHd (zs 64)) := a1.under b2
  have hB : Below w.heap.size w V := b0.trans (b2.mono b0.size)
  have HDG0 : Lies V V.heap.size 1 (some ⟨w.heap.size, 3, none⟩) 32 (u8s h.dig) := by
    have := k0.lies k0.lt 3 32 (by decide)
    rw [show (List.range 32).map (fun i => hdF h (3 + i)) = u8s h.dig from by rw [← u8s_kF hb.dig]; exact List.map_congr_left fun i _ => hdF_dig h i] at this
    exact this
  obtain ⟨vn, h2⟩ := Int.eq_ofNat_of_zero_le hb.ver.1
  obtain ⟨sn, h3⟩ := Int.eq_ofNat_of_zero_le hb.size.1
  have HC0 : Hid (V.cell? ⟨w.heap.size, 0, none⟩ = some (.int .u32 (vn : Int))) := Lib.hid (h2 ▸ k0.cell (i := 0) (by decide))
  have HC1 : Hid (V.cell? ⟨w.heap.size, 1, none⟩ = some (.int .u32 (sn : Int))) := Lib.hid (h3 ▸ k0.cell (i := 1) (by decide))
  have HC2 : Hid (V.cell? ⟨w.heap.size, 2, none⟩ = some (.string S)) := Lib.hid (hS ▸ k0.cell (i := 2) (by decide))
  have g0 : V0.cell? ⟨w.heap.size, 2, none⟩ = some (.string S) := hS ▸ a0.cell (i := 2) (by decide)
  have HG : Hid (V1.drew.cell? ⟨w.heap.size, 2, none⟩ = some (.string S)) := Lib.hid ((b1.cell (World.block_lt_of_cell? V0 _ g0)).trans g0)
  have HN := Lib.hid (show ∀ n ∈ [1112100167, vn, sn, 0], n < 4294967296 by have t1 := hb.ver.2; have t2 := hb.size.2; simp; omega)
  obtain ⟨L, hL⟩ : ∃ l, l = layL h := ⟨_, rfl⟩
  have hL64 : L.length = 64 := by rw [hL]; exact layL_len hb.dig
  rw [← hL]
  obtain ⟨NE, hne⟩ : ∃ l, l = nm16 h.name := ⟨_, rfl⟩
  obtain ⟨D, hdd⟩ : ∃ l, l = h.dig := ⟨_, rfl⟩
  have hNE : NE.length = 16 := by rw [hne]; exact nm16_len _
  have hDL : D.length = 32 := by rw [hdd]; exact hb.dig
  have hLE : L = [1112100167, vn, sn, 0].flatMap (be 4) ++ (NE ++ D) := by
    rw [hL, hne, hdd]
    simp [layL, layF, h2, h3]
  rw [← hne] at HNM0
  rw [← hdd] at HDG0
  have HLL := Lib.hid (And.intro hNE (And.intro hDL hL64))
  have HPN : Hid (Value.slice (some ⟨r, 0, none⟩) 16 16 = partV (some ⟨r, 0, none⟩, 16, NE)) := Lib.hid (by show _ = Value.slice _ NE.length _; rw [hNE])
  have HPD : Hid (Value.slice (some ⟨w.heap.size, 3, none⟩) 32 32 = partV (some ⟨w.heap.size, 3, none⟩, 32, D)) := Lib.hid (by show _ = Value.slice _ D.length _; rw [hDL])
  have HNM : Hid (Lies V V.heap.size 1 (some ⟨r, 0, none⟩) NE.length (u8s NE)) := Lib.hid (by rw [hNE]; exact HNM0)
  have HDG : Hid (Lies V V.heap.size 1 (some ⟨w.heap.size, 3, none⟩) D.length (u8s D)) := Lib.hid (by rw [hDL]; exact HDG0)
  have HCAT : Hid (∀ (A5 : Option Addr) (c5 : Nat), catAll [(A5, c5, [] ++ [1112100167, vn, sn, 0].flatMap (be 4)), (some ⟨r, 0, none⟩, 16, NE), (some ⟨w.heap.size, 3, none⟩, 32, D)] = L) := Lib.hid (fun A5 c5 => by rw [hLE]; simp [catAll])
  have HK := Lib.hid (And.intro k0 (And.intro k1 hB))
  have HWV := Lib.hid hV
  have HWV0 := Lib.hid hV0
  have HWV1 := Lib.hid hV1
  have HR := Lib.hid hr
  have HRW := Lib.hid hrow
  have HSZ : Hid (Nat.min S.size 16 = m ∧ m ≤ (vec 16 (bys (kF (zs 16)))).size) := Lib.hid (by rw [hS, strOf_size, vec_size, hm]; exact ⟨rfl, Nat.min_le_right _ _⟩)
  clear hV hV0 hV1 hr hrw hrow hrV b0 b1 b1' b2 a0 a1 k0 k1 hB HNM0 HDG0 h2 h3 hb hS g0 hm hm16 hL hL64 hne hdd hNE hDL hLE
  unfold LaP
  go_enter Tryd.func15, Tryd.ntmps15
  go_upto_region 1 with fail
  rw [← HWV0.out]
  clear HWV0
  go_upto_region 2 with fail
  rw [← HWV1.out, ← HR.out]
  clear HWV1 HR
  refine wp_region_held_drew (S := fun Y => Y.cell? ⟨w.heap.size, 2, none⟩ = some (.string S)) (by kernel_rfl) HG.out (fun hS => ?_)
  (refine held_take (i := 0) (oi := ?ot1) (v := ?vt1) ?at1 (by kernel_rfl) (by kernel_rfl) (by kernel_rfl) ?bt1 ?ct1 ?dt1 (by assumption) ?rt1; (case at1 => (simp only [List.getElem?_toArray, List.getElem?_cons_zero]; rfl)); (case bt1 => exact fun _ _ _ h => h); (case ct1 => kernel_rfl); (case dt1 => (intro W hW; (try dsimp only at hW); go_split_ands; go_simp; (try with_reducible rfl))); (case' rt1 => simp only [Act.put, List.setIfInBounds_toArray, List.set_cons_zero, List.set_cons_succ]))
  (refine held_take (i := 1) (oi := ?ot2) (v := ?vt2) ?at2 (by kernel_rfl) (by kernel_rfl) (by kernel_rfl) ?bt2 ?ct2 ?dt2 (by assumption) ?rt2; (case at2 => (simp only [List.getElem?_toArray, List.getElem?_cons_zero, List.getElem?_cons_succ]; rfl)); (case bt2 => exact fun _ _ _ h => h); (case ct2 => kernel_rfl); (case dt2 => (intro W hW; (try dsimp only at hW); go_split_ands; go_simp; (try with_reducible rfl))); (case' rt2 => simp only [Act.put, List.setIfInBounds_toArray, List.set_cons_zero, List.set_cons_succ]))
  (refine held_take (i := 2) (oi := ?ot3) (v := ?vt3) ?at3 (by kernel_rfl) (by kernel_rfl) (by kernel_rfl) ?bt3 ?ct3 ?dt3 (by assumption) ?rt3; (case at3 => (simp only [List.getElem?_toArray, List.getElem?_cons_zero, List.getElem?_cons_succ]; rfl)); (case bt3 => exact fun _ _ _ h => h); (case ct3 => kernel_rfl); (case dt3 => (intro W hW; (try dsimp only at hW); go_split_ands; go_simp; (try with_reducible rfl))); (case' rt3 => simp only [Act.put, List.setIfInBounds_toArray, List.set_cons_zero, List.set_cons_succ]))
  refine held_one (i := 3) (oi := ?ot4) (by kernel_rfl) ?at4 ?ct4 (fun K3 hK3 => ?_)
  (case at4 => (simp only [List.getElem?_toArray, List.getElem?_cons_zero, List.getElem?_cons_succ]; rfl))
  (case ct4 => kernel_rfl)
  refine ow_copy_strM _ _ _ _ 5 rfl Tryd.underlying27 (by kernel_rfl) r 16 16 m S _ _ rfl rfl HRW.out HSZ.out.1 HSZ.out.2 ?_
  rw [← HWV.out]
  refine hK3 _ _ HC2.out (fun hS3 => ?_)
  clear hK3 K3
  refine wpAnyH_done (by kernel_rfl) ?_ _
  clear hS3 HWV HRW HSZ HG
  go_upto_region 3 with fail
  refine wp_region_held_drew (S := fun Y => VS V Y) (by kernel_rfl) (VS.begin V) (fun hS => ?_)
  (refine held_take (i := 0) (oi := ?ot5) (v := ?vt5) ?at5 (by kernel_rfl) (by kernel_rfl) (by kernel_rfl) ?bt5 ?ct5 ?dt5 (by assumption) ?rt5; (case at5 => (simp only [List.getElem?_toArray, List.getElem?_cons_zero]; rfl)); (case bt5 => exact fun _ _ _ h => h); (case ct5 => kernel_rfl); (case dt5 => (intro W hW; (try dsimp only at hW); go_split_ands; go_simp; (try with_reducible rfl))); (case' rt5 => simp only [Act.put, List.setIfInBounds_toArray, List.set_cons_zero, List.set_cons_succ]))
  (refine held_take (i := 1) (oi := ?ot6) (v := ?vt6) ?at6 (by kernel_rfl) (by kernel_rfl) (by kernel_rfl) ?bt6 ?ct6 ?dt6 (by assumption) ?rt6; (case at6 => (simp only [List.getElem?_toArray, List.getElem?_cons_zero, List.getElem?_cons_succ]; rfl)); (case bt6 => exact fun _ _ _ h => h); (case ct6 => kernel_rfl); (case dt6 => (intro Z hZ; have k0 := ((show Below V.heap.size V Z from hZ).cell (World.block_lt_of_cell? V _ HC0.out)).trans HC0.out; go_simp; (try with_reducible rfl))); (case' rt6 => simp only [Act.put, List.setIfInBounds_toArray, List.set_cons_zero, List.set_cons_succ]))
  (refine held_take (i := 2) (oi := ?ot7) (v := ?vt7) ?at7 (by kernel_rfl) (by kernel_rfl) (by kernel_rfl) ?bt7 ?ct7 ?dt7 (by assumption) ?rt7; (case at7 => (simp only [List.getElem?_toArray, List.getElem?_cons_zero, List.getElem?_cons_succ]; rfl)); (case bt7 => exact fun _ _ _ h => h); (case ct7 => kernel_rfl); (case dt7 => (intro W hW; (try dsimp only at hW); go_split_ands; go_simp; (try with_reducible rfl))); (case' rt7 => simp only [Act.put, List.setIfInBounds_toArray, List.set_cons_zero, List.set_cons_succ]))
  (refine held_take (i := 3) (oi := ?ot8) (v := ?vt8) ?at8 (by kernel_rfl) (by kernel_rfl) (by kernel_rfl) ?bt8 ?ct8 ?dt8 (by assumption) ?rt8; (case at8 => (simp only [List.getElem?_toArray, List.getElem?_cons_zero, List.getElem?_cons_succ]; rfl)); (case bt8 => exact fun _ _ _ h => h); (case ct8 => kernel_rfl); (case dt8 => (intro Z hZ; have k0 := ((show Below V.heap.size V Z from hZ).cell (World.block_lt_of_cell? V _ HC1.out)).trans HC1.out; go_simp; (try with_reducible rfl))); (case' rt8 => simp only [Act.put, List.setIfInBounds_toArray, List.set_cons_zero, List.set_cons_succ]))
  (refine held_take (i := 6) (oi := ?ot9) (v := ?vt9) ?at9 (by kernel_rfl) (by kernel_rfl) (by kernel_rfl) ?bt9 ?ct9 ?dt9 (by assumption) ?rt9; (case at9 => (simp only [List.getElem?_toArray, List.getElem?_cons_zero, List.getElem?_cons_succ]; rfl)); (case bt9 => exact fun _ _ _ h => h); (case ct9 => kernel_rfl); (case dt9 => (intro W hW; (try dsimp only at hW); go_split_ands; go_simp; (try with_reducible rfl))); (case' rt9 => simp only [Act.put, List.setIfInBounds_toArray, List.set_cons_zero, List.set_cons_succ]))
  (refine held_take (i := 7) (oi := ?ot10) (v := ?vt10) ?at10 (by kernel_rfl) (by kernel_rfl) (by kernel_rfl) ?bt10 ?ct10 ?dt10 (by assumption) ?rt10; (case at10 => (simp only [List.getElem?_toArray, List.getElem?_cons_zero, List.getElem?_cons_succ]; rfl)); (case bt10 => exact fun _ _ _ h => h); (case ct10 => kernel_rfl); (case dt10 => (intro W hW; (try dsimp only at hW); go_split_ands; go_simp; (try with_reducible rfl))); (case' rt10 => simp only [Act.put, List.setIfInBounds_toArray, List.set_cons_zero, List.set_cons_succ]))
  (refine held_take (i := 8) (oi := ?ot11) (v := ?vt11) ?at11 (by kernel_rfl) (by kernel_rfl) (by kernel_rfl) ?bt11 ?ct11 ?dt11 (by assumption) ?rt11; (case at11 => (simp only [List.getElem?_toArray, List.getElem?_cons_zero, List.getElem?_cons_succ]; rfl)); (case bt11 => exact fun _ _ _ h => h); (case ct11 => kernel_rfl); (case dt11 => (intro W hW; (try dsimp only at hW); go_split_ands; go_simp; (try with_reducible rfl))); (case' rt11 => simp only [Act.put, List.setIfInBounds_toArray, List.set_cons_zero, List.set_cons_succ]))
  refine held_one (i := 4) (oi := ?ot12) (by kernel_rfl) ?at12 ?ct12 (fun K4 hK4 => ?_)
  (case at12 => (simp only [List.getElem?_toArray, List.getElem?_cons_zero, List.getElem?_cons_succ]; rfl))
  (case ct12 => kernel_rfl)
  refine ow_u32_4 _ _ _ _ rfl 1112100167 vn sn 0 rfl rfl rfl rfl ?_
  intro y4 p4 hl hd
  have F4 := Lib.hid hl
  refine hK4 _ _ ((show VS V _ from hS).keep hd) (fun hS4 => ?_)
  clear hl hd hS hK4 K4
  refine held_one (i := 5) (oi := ?ot13) (by kernel_rfl) ?at13 ?ct13 (fun K5 hK5 => ?_)
  (case at13 => (simp only [List.getElem?_toArray, List.getElem?_cons_zero, List.getElem?_cons_succ]; rfl))
  (case ct13 => kernel_rfl)
  go_simp
  refine (pb32 [] [1112100167, vn, sn, 0] HN.out none _ 0 _ _ (Lies.nil _ _ _ _) F4.out (by simp) (by simp)).mono ?_
  rintro e y5 ⟨v5, rfl, hv, hd⟩
  obtain ⟨A5, c5, rfl, -, hl⟩ := (own_of hv).lies
  replace F4 := Lib.hid (lies_on2 F4.out hd)
  have F5 := Lib.hid hl
  refine hK5 _ _ ((show VS V _ from hS4).keep hd) (fun hS5 => ?_)
  clear hv hd hl hS4 hK5 K5
  refine held_one (i := 9) (oi := ?ot14) (by kernel_rfl) ?at14 ?ct14 (fun K9 hK9 => ?_)
  (case at14 => (simp only [List.getElem?_toArray, List.getElem?_cons_zero, List.getElem?_cons_succ]; rfl))
  (case ct14 => kernel_rfl)
  refine ow_pt_3 _ _ _ rfl (A5, c5, [] ++ [1112100167, vn, sn, 0].flatMap (be 4)) (some ⟨r, 0, none⟩, 16, NE) (some ⟨w.heap.size, 3, none⟩, 32, D) rfl HPN.out HPD.out ?_
  intro y9 p9 hl hd
  replace F4 := Lib.hid (lies_on2 F4.out hd)
  replace F5 := Lib.hid (lies_on2 F5.out hd)
  have F9 := Lib.hid hl
  refine hK9 _ _ ((show VS V _ from hS5).keep hd) (fun hS9 => ?_)
  clear hl hd hS5 hK9 K9
  refine held_one (i := 10) (oi := ?ot15) (by kernel_rfl) ?at15 ?ct15 (fun K10 hK10 => ?_)
  (case at15 => (simp only [List.getElem?_toArray, List.getElem?_cons_zero, List.getElem?_cons_succ]; rfl))
  (case ct15 => kernel_rfl)
  go_simp
  refine (cat_any [(A5, c5, [] ++ [1112100167, vn, sn, 0].flatMap (be 4)), (some ⟨r, 0, none⟩, 16, NE), (some ⟨w.heap.size, 3, none⟩, 32, D)] _ _ _ _ (Nat.le_refl _) F9.out (allc F5.out (allc (lies_on2 HNM.out (show VS V _ from (show VS V _ from hS9))) (allc (lies_on2 HDG.out (show VS V _ from (show VS V _ from hS9))) (fun _ h => nomatch h)))) (by have h1 := HLL.out; simp [catAll, be_len]; omega) (by simp [maxLen])).mono ?_
  rintro e y10 ⟨v10, rfl, hv, hd⟩
  have HFIN := Lib.hid (And.intro hv (And.intro (show VS V _ from hS9) hd))
  refine hK10 _ _ ((show VS V _ from hS9).keep hd) (fun hS10 => ?_)
  clear hv hd  hS9 hK10 K10
  (refine held_take (i := 11) (oi := ?ot16) (v := ?vt16) ?at16 (by kernel_rfl) (by kernel_rfl) (by kernel_rfl) ?bt16 ?ct16 ?dt16 (by assumption) ?rt16; (case at16 => (simp only [List.getElem?_toArray, List.getElem?_cons_zero, List.getElem?_cons_succ]; rfl)); (case bt16 => exact fun _ _ _ h => h); (case ct16 => kernel_rfl); (case dt16 => (intro W hW; (try dsimp only at hW); go_split_ands; go_simp; (try with_reducible rfl))); (case' rt16 => simp only [Act.put, List.setIfInBounds_toArray, List.set_cons_zero, List.set_cons_succ]))
  refine wpAnyH_done (by kernel_rfl) ?_ _
  clear hS10
  obtain ⟨hv1, hv2, hv3⟩ := HFIN.out
  rw [HCAT.out] at hv1
  obtain ⟨p, d, rfl, hcd, hp0, hpb, hpc⟩ := own_cells 64 (own_of hv1) HLL.out.2.2 (by decide)
  obtain ⟨X, hX⟩ : ∃ X, X = y10 := ⟨_, rfl⟩
  have hVX : Below V.heap.size V X := by rw [hX]; exact (show Below V.heap.size V y9 from hv2).trans (hv3.mono (show Below V.heap.size V y9 from hv2).size)
  have kh : Arr X w.heap.size 26 35 (hdF h) := HK.out.1.under hVX
  have kv : Arr X (w.heap.size + 1) 49 99 (hvF zHd (zs 64)) := HK.out.2.1.under hVX
  have hp1 : p.block ≠ w.heap.size + 1 := by have := HK.out.2.1.lt; have := (show Below V.heap.size V y9 from hv2).size; omega
  rw [← hX] at hpc hpb
  have hpt := fun W => arr_at64 p 64 d (Nat.le_refl _) W
  have HX := Lib.hid (And.intro kh (And.intro kv (And.intro hpc (And.intro (And.intro hpb hp1) (HK.out.2.2.trans (hVX.mono HK.out.2.2.size))))))
  rw [← hX]
  clear HFIN hv1 hv2 hv3 hcd hp0 hpb hp1 hpc hX hVX kh kv F4 F5 F9 HCAT HLL HK HN HC0 HC1 HC2 HNM HDG HPN HPD
  go_upto_region 4 with fail
  refine wp_region_held_drew (S := fun Y => Save (w.heap.size + 1) X Y ∧ ∃ f, Arr Y (w.heap.size + 1) 49 99 f) (by kernel_rfl) ⟨Save.of_below (VS.begin X), _, HX.out.2.1⟩ (fun hS => ?_)
  (refine held_take (i := 0) (oi := ?ot17) (v := .agg (vec 35 (hdF h))) ?at17 (by kernel_rfl) (by kernel_rfl) (by kernel_rfl) ?bt17 ?ct17 ?dt17 (by assumption) ?rt17; (case at17 => (simp only [List.getElem?_toArray, List.getElem?_cons_zero]; rfl)); (case bt17 => exact fun _ _ _ h => h); (case ct17 => kernel_rfl); (case dt17 => (intro W hW; exact exec_load_at 26 _ rfl _ _ rfl _ (run_load_arr (HX.out.1.save hW.1 (by omega)) Tryd.underlying26 rfl infoHd))); (case' rt17 => simp only [Act.put, List.setIfInBounds_toArray, List.set_cons_zero, List.set_cons_succ]))
  (refine held_take (i := 1) (oi := ?ot18) (v := ?vt18) ?at18 (by kernel_rfl) (by kernel_rfl) (by kernel_rfl) ?bt18 ?ct18 ?dt18 (by assumption) ?rt18; (case at18 => (simp only [List.getElem?_toArray, List.getElem?_cons_zero, List.getElem?_cons_succ]; rfl)); (case bt18 => exact fun _ _ _ h => h); (case ct18 => kernel_rfl); (case dt18 => (intro W hW; (try dsimp only at hW); go_split_ands; go_simp; (try with_reducible rfl))); (case' rt18 => simp only [Act.put, List.setIfInBounds_toArray, List.set_cons_zero, List.set_cons_succ]))
  (refine held_take (i := 2) (oi := ?ot19) (v := .pointer (some p)) ?at19 (by kernel_rfl) (by kernel_rfl) (by kernel_rfl) ?bt19 ?ct19 ?dt19 (by assumption) ?rt19; (case at19 => (simp only [List.getElem?_toArray, List.getElem?_cons_zero, List.getElem?_cons_succ]; rfl)); (case bt19 => exact fun _ _ _ h => h); (case ct19 => kernel_rfl); (case dt19 => (intro W hW; clear hW; have har := hpt W; go_simp; (try with_reducible rfl))); (case' rt19 => simp only [Act.put, List.setIfInBounds_toArray, List.set_cons_zero, List.set_cons_succ]))
  (refine held_take (i := 3) (oi := ?ot20) (v := .agg (vec 64 (bys (kF L)))) ?at20 (by kernel_rfl) (by kernel_rfl) (by kernel_rfl) ?bt20 ?ct20 ?dt20 (by assumption) ?rt20; (case at20 => (simp only [List.getElem?_toArray, List.getElem?_cons_zero, List.getElem?_cons_succ]; rfl)); (case bt20 => exact fun _ _ _ h => h); (case ct20 => kernel_rfl); (case dt20 => (intro W hW; exact exec_load_q 47 _ rfl p rfl _ (run_load_q (fun i hi => (hW.1.cell (p := p.add i) (by rw [addr_add_block]; exact HX.out.2.2.2.1.1) (by rw [addr_add_block]; exact HX.out.2.2.2.1.2)).trans (HX.out.2.2.1 i hi)) Tryd.underlying47 rfl info64))); (case' rt20 => simp only [Act.put, List.setIfInBounds_toArray, List.set_cons_zero, List.set_cons_succ]))
  (refine held_take (i := 4) (oi := ?ot21) (v := .agg (vec 99 (hvF h L))) ?at21 (by kernel_rfl) (by kernel_rfl) (by kernel_rfl) ?bt21 ?ct21 ?dt21 (by assumption) ?rt21; (case at21 => (simp only [List.getElem?_toArray, List.getElem?_cons_zero, List.getElem?_cons_succ]; rfl)); (case bt21 => exact fun _ _ _ h => h); (case ct21 => kernel_rfl); (case dt21 => (intro W hW; exact exec_build 49 _ rfl (vec 99 (hvF h L)) (by kernel_rfl) W)); (case' rt21 => simp only [Act.put, List.setIfInBounds_toArray, List.set_cons_zero, List.set_cons_succ]))
  refine held_one (i := 5) (oi := ?ot22) (by kernel_rfl) ?at22 ?ct22 (fun K5 hK5 => ?_)
  (case at22 => (simp only [List.getElem?_toArray, List.getElem?_cons_zero, List.getElem?_cons_succ]; rfl))
  (case ct22 => kernel_rfl)
  obtain ⟨fR, hR⟩ := hS.2
  refine ow_store 49 _ _ rfl _ rfl _ rfl (run_store_arr hR (hvF h L) infoHv (hvF_one _ _ _)) ?_
  have hRR := hR.row (hvF h L)
  refine hK5 _ _ ⟨hS.1.setRow _, _, hRR⟩ (fun hS5 => ?_)
  have HF := Lib.hid (And.intro hRR hS5.1)
  clear hK5 K5 hRR hS5 hS
  refine wpAnyH_done (by kernel_rfl) ?_ _
  go_wp2
  exact bodyPost_ret (results_cell1 rfl _ _ _ rfl (run_load_arr HF.out.1 Tryd.underlying49 rfl infoHv)) rfl ⟨rfl, HX.out.2.2.2.2.trans (HF.out.2.below (by omega) HX.out.2.2.2.2.size)⟩
end Go.Proofs.YtgoblolbkchggaaDoor
