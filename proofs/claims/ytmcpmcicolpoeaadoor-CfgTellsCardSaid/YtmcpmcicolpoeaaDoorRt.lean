/- The reference's Same. -/
import Derived.Test.YtmcpmcicolpoeaaDoorRs
namespace Go.Proofs.YtmcpmcicolpoeaaDoor
open Go.RowKit

theorem GRow.up' {w w' : World} {x : GV} (h : GRow w w.heap.size x) (hb : Below w.heap.size w w') : GRow w' w'.heap.size x := (h.below hb).wide hb.size
set_option maxHeartbeats 8000000 in
set_option maxRecDepth 100000 in
theorem rsame_any (x y : Cf) (a c a' c' : Value) (w : World) (hx : CfR w w.heap.size x a c) (hy : CfR w w.heap.size y a' c') : Calls Tryd.prog 10 #[cfVal x a c, cfVal y a' c'] w (EqV (cfEq x y) w) := by
  obtain ⟨V, hV⟩ : ∃ V, V = (w.alloc (.cells (vec 3 (cfE x.ver a c)) 28)).alloc (.cells (vec 3 (cfE y.ver a' c')) 28) := ⟨_, rfl⟩
  have k1 : Arr V w.heap.size 28 3 (cfE x.ver a c) := by rw [hV]; exact (Arr.new w _ _ _).alloc _
  have k2 : Arr V (w.heap.size + 1) 28 3 (cfE y.ver a' c') := by rw [hV]; exact Arr.newAt _ _ _ _ (by simp)
  have hB : Below w.heap.size w V := by rw [hV]; exact ((Below.refl _ _).alloc (by simp <;> omega) _).alloc (by simp <;> omega) _
  obtain ⟨x0, x1, x2⟩ := cf_cells k1
  obtain ⟨y0, y1, y2⟩ := cf_cells k2
  obtain ⟨⟨A, d, ys, rfl, hm, hr, hl⟩, ⟨A2, d2, rfl, hr2, hl2⟩⟩ := hx.up hB
  obtain ⟨⟨B, e, zs, rfl, hm', hr', hl'⟩, ⟨B2, e2, rfl, hr2', hl2'⟩⟩ := hy.up hB
  have hlen : ys.length = x.gs.length := by rw [← hm, List.length_map]
  have hlen' : zs.length = y.gs.length := by rw [← hm', List.length_map]
  have hgq : eqL gsEq x.gs y.gs = eqL yEq ys zs := by rw [eqL_map, hm, hm']
  unfold cfVal EqV
  obtain ⟨G, hG⟩ : ∃ G, G = cfEq x y := ⟨_, rfl⟩
  have HGF : Hid (G = (x.ver == y.ver && (eqL yEq ys zs && eqL chEq x.chs y.chs))) := Lib.hid (by rw [hG, ← hgq]; rfl)
  rw [← hG]
  obtain ⟨l2, hl2e⟩ : ∃ l, l = x.chs := ⟨_, rfl⟩
  obtain ⟨m2, hm2e⟩ : ∃ l, l = y.chs := ⟨_, rfl⟩
  rw [← hl2e] at x2 hl2 hr2 HGF hV
  rw [← hm2e] at y2 hl2' hr2' HGF hV
  rw [← hl2e, ← hm2e]
  rw [← hlen] at x1 hl hV ⊢
  rw [← hlen'] at y1 hl' hV ⊢
  obtain ⟨N1, hN1⟩ : ∃ N, N = ys.length := ⟨_, rfl⟩
  obtain ⟨M1, hM1⟩ : ∃ N, N = zs.length := ⟨_, rfl⟩
  obtain ⟨N2, hN2⟩ : ∃ N, N = l2.length := ⟨_, rfl⟩
  obtain ⟨M2, hM2⟩ : ∃ N, N = m2.length := ⟨_, rfl⟩
  rw [← hN1] at x1 hl hV ⊢
  rw [← hM1] at y1 hl' hV ⊢
  rw [← hN2] at x2 hl2 hV ⊢
  rw [← hM2] at y2 hl2' hV ⊢
  have HN1 := Lib.hid hN1
  have HM1 := Lib.hid hM1
  have HN2 := Lib.hid hN2
  have HM2 := Lib.hid hM2
  have H1 := Lib.hid (And.intro hr hr')
  have H2 := Lib.hid (And.intro hr2 hr2')
  have HK := Lib.hid hB
  have HW := Lib.hid hV
  clear hV k1 k2 hB hr hr' hr2 hr2' hx hy hm hm' hlen hlen' hgq hG hl2e hm2e hN1 hM1 hN2 hM2
  go_enter Tryd.func10, Tryd.ntmps10
  go_upto_region 1 with fail
  rw [← HW.out]
  clear HW
  by_cases e1 : x.ver = y.ver
  rotate_left
  · have n1 : (x.ver != y.ver) = true := bne_iff_ne.2 e1
    have HF : Hid (G = false) := Lib.hid (by rw [HGF.out, show (x.ver == y.ver) = false by simp [e1]]; rfl)
    clear e1
    go_wp2_with fail
    go_ret
    exact ⟨by rw [HF.out]; rfl, HK.out⟩
  have n1 : (x.ver != y.ver) = false := by simp [e1]
  have HV : Hid ((x.ver == y.ver) = true) := Lib.hid (by simp [e1])
  clear e1
  by_cases h1 : N1 = M1
  rotate_left
  · have hl0 : ys.length ≠ zs.length := by rw [← HN1.out, ← HM1.out]; exact h1
    have HF : Hid (G = false) := Lib.hid (by rw [HGF.out, eqL_len hl0]; simp)
    have n2 : ((N1 : Int) != (M1 : Int)) = true := bne_iff_ne.2 (by omega)
    clear h1 hl0
    go_wp2_with fail
    go_ret
    exact ⟨by rw [HF.out]; rfl, HK.out⟩
  have hL1 : ys.length = zs.length := by rw [← HN1.out, ← HM1.out]; exact h1
  have HE1 := Lib.hid (eqL_all (f := yEq) hL1)
  have HL1 := Lib.hid hL1
  have n2 : ((N1 : Int) != (M1 : Int)) = false := by simp [h1]
  by_cases h2 : N2 = M2
  rotate_left
  · have hl0 : l2.length ≠ m2.length := by rw [← HN2.out, ← HM2.out]; exact h2
    have HF : Hid (G = false) := Lib.hid (by rw [HGF.out, eqL_len hl0]; simp)
    have n3 : ((N2 : Int) != (M2 : Int)) = true := bne_iff_ne.2 (by omega)
    clear h1 h2 hl0 hL1
    go_wp2_with fail
    go_ret
    exact ⟨by rw [HF.out]; rfl, HK.out⟩
  have hL2 : l2.length = m2.length := by rw [← HN2.out, ← HM2.out]; exact h2
  have HE2 := Lib.hid (eqL_all (f := chEq) hL2)
  have HL2 := Lib.hid hL2
  have n3 : ((N2 : Int) != (M2 : Int)) = false := by simp [h2]
  rw [← h1] at y1
  rw [← h2] at y2
  clear h1 h2 hL1 hL2 HM1 HM2 hl' hl2'
  go_upto_region 3 with fail
  have HXY := Lib.hid (And.intro (And.intro x1 x2) (And.intro y1 y2))
  go_wp2_with fail
  clear n1 n2 n3
  go_loopw [5, 33] (fun _ v W => ∃ k : Nat, k ≤ N1 ∧ v = .int .i64 k ∧ Hid (eqTo yEq ys zs k = true) ∧ Hid (Below V.heap.size V W)) (fun _ i _ => N1 - (intOf i).toNat)
  case atStart => exact ⟨0, Nat.zero_le _, rfl, Lib.hid rfl, Lib.hid (Below.refl _ _)⟩
  case round =>
    obtain ⟨k1, hk, rfl, HP0, HB⟩ := hrel
    obtain ⟨W, hW⟩ : ∃ W : World, W = wr := ⟨_, rfl⟩
    subst hW
    have x1 : W.cell? ⟨w.heap.size, 1, none⟩ = _ := (HB.out.cell (World.block_lt_of_cell? V _ HXY.out.1.1)).trans HXY.out.1.1
    have y1 : W.cell? ⟨w.heap.size + 1, 1, none⟩ = _ := (HB.out.cell (World.block_lt_of_cell? V _ HXY.out.2.1)).trans HXY.out.2.1
    by_cases hlt0 : k1 < N1
    · have hlt : k1 < ys.length := by have := HN1.out; omega
      have hltm : k1 < zs.length := by have := HL1.out; omega
      have g1 := H1.out.1.up HB.out
      have g2 := H1.out.2.up HB.out
      obtain ⟨a, p1, rfl, hp, -, hcp⟩ := g1.row.at hlt
      obtain ⟨a', q1, rfl, hq, -, hcq⟩ := g2.row.at hltm
      obtain ⟨u, hu⟩ : ∃ u, u = ys[k1] := ⟨_, rfl⟩
      obtain ⟨v, hv⟩ : ∃ v, v = zs[k1] := ⟨_, rfl⟩
      have hs := eqTo_succ yEq ys zs k1 hlt hltm
      rw [HP0.out, Bool.true_and, ← hu, ← hv] at hs
      rw [← hu] at hcp
      rw [← hv] at hcq
      have ru : GRow W W.heap.size u := by rw [hu]; exact g1.all _ (List.getElem_mem _)
      have rv : GRow W W.heap.size v := by rw [hv]; exact g2.all _ (List.getElem_mem _)
      have HQ := Lib.hid (And.intro hcp hcq)
      have HSG := Lib.hid (rsameGuest_any u v W.drew (ru.up' (show Below W.heap.size W W.drew from VS.begin W)) (rv.up' (show Below W.heap.size W W.drew from VS.begin W)))
      obtain ⟨b, hb⟩ : ∃ b, b = yEq u v := ⟨_, rfl⟩
      rw [← hb] at hs
      rw [show gsEq u.g v.g = b from hb.symm] at HSG
      have hki : (k1 : Int) < (N1 : Int) := by omega
      have HSL := Lib.hid hlt
      clear g1 g2 hcp hcq ru rv hu hv hltm hlt hb
      cases b
      · have hno := eqL_no hs (show k1 + 1 ≤ ys.length from HSL.out)
        have HF : Hid (G = false) := Lib.hid (by rw [HGF.out, hno]; simp)
        clear hs hno
        go_upto_region 6 with fail
        refine wp_region_held_drew (S := fun Y => VS W Y) (by kernel_rfl) (VS.begin W) (fun hS => ?_)
        (refine held_take (i := 0) (oi := ?ot1) (v := ?vt1) ?at1 (by kernel_rfl) (by kernel_rfl) (by kernel_rfl) ?bt1 ?ct1 ?dt1 (by assumption) ?rt1; (case at1 => (simp only [List.getElem?_toArray, List.getElem?_cons_zero]; rfl)); (case bt1 => exact fun _ _ _ h => h); (case ct1 => kernel_rfl); (case dt1 => (intro W hW; (try dsimp only at hW); go_split_ands; go_simp; (try with_reducible rfl))); (case' rt1 => simp only [Act.put, List.setIfInBounds_toArray, List.set_cons_zero, List.set_cons_succ]))
        (refine held_take (i := 1) (oi := ?ot2) (v := ?vt2) ?at2 (by kernel_rfl) (by kernel_rfl) (by kernel_rfl) ?bt2 ?ct2 ?dt2 (by assumption) ?rt2; (case at2 => (simp only [List.getElem?_toArray, List.getElem?_cons_zero, List.getElem?_cons_succ]; rfl)); (case bt2 => exact fun _ _ _ h => h); (case ct2 => kernel_rfl); (case dt2 => (intro Z hZ; have k0 := ((show Below W.heap.size W Z from hZ).cell (World.block_lt_of_cell? W _ x1)).trans x1; go_simp; (try with_reducible rfl))); (case' rt2 => simp only [Act.put, List.setIfInBounds_toArray, List.set_cons_zero, List.set_cons_succ]))
        (refine held_take (i := 2) (oi := ?ot3) (v := ?vt3) ?at3 (by kernel_rfl) (by kernel_rfl) (by kernel_rfl) ?bt3 ?ct3 ?dt3 (by assumption) ?rt3; (case at3 => (simp only [List.getElem?_toArray, List.getElem?_cons_zero, List.getElem?_cons_succ]; rfl)); (case bt3 => exact fun _ _ _ h => h); (case ct3 => kernel_rfl); (case dt3 => (intro W hW; (try dsimp only at hW); go_split_ands; go_simp; (try with_reducible rfl))); (case' rt3 => simp only [Act.put, List.setIfInBounds_toArray, List.set_cons_zero, List.set_cons_succ]))
        (refine held_take (i := 3) (oi := ?ot4) (v := .pointer (some p1)) ?at4 (by kernel_rfl) (by kernel_rfl) (by kernel_rfl) ?bt4 ?ct4 ?dt4 (by assumption) ?rt4; (case at4 => (simp only [List.getElem?_toArray, List.getElem?_cons_zero, List.getElem?_cons_succ]; rfl)); (case bt4 => exact fun _ _ _ h => h); (case ct4 => kernel_rfl); (case dt4 => (intro W hW; clear hW; go_simp; (try with_reducible rfl); (try (intro h; omega)))); (case' rt4 => simp only [Act.put, List.setIfInBounds_toArray, List.set_cons_zero, List.set_cons_succ]))
        (refine held_take (i := 4) (oi := ?ot5) (v := .agg (vec 79 (guestE u))) ?at5 (by kernel_rfl) (by kernel_rfl) (by kernel_rfl) ?bt5 ?ct5 ?dt5 (by assumption) ?rt5; (case at5 => (simp only [List.getElem?_toArray, List.getElem?_cons_zero, List.getElem?_cons_succ]; rfl)); (case bt5 => exact fun _ _ _ h => h); (case ct5 => kernel_rfl); (case dt5 => (intro Z hZ; exact exec_load_q 64 _ rfl p1 rfl _ (run_load_q (fun i hi => ((show Below W.heap.size W Z from hZ).cell (World.block_lt_of_cell? W _ (HQ.out.1 i hi))).trans (HQ.out.1 i hi)) Tryd.underlying64 rfl infoGu))); (case' rt5 => simp only [Act.put, List.setIfInBounds_toArray, List.set_cons_zero, List.set_cons_succ]))
        (refine held_take (i := 5) (oi := ?ot6) (v := ?vt6) ?at6 (by kernel_rfl) (by kernel_rfl) (by kernel_rfl) ?bt6 ?ct6 ?dt6 (by assumption) ?rt6; (case at6 => (simp only [List.getElem?_toArray, List.getElem?_cons_zero, List.getElem?_cons_succ]; rfl)); (case bt6 => exact fun _ _ _ h => h); (case ct6 => kernel_rfl); (case dt6 => (intro W hW; (try dsimp only at hW); go_split_ands; go_simp; (try with_reducible rfl))); (case' rt6 => simp only [Act.put, List.setIfInBounds_toArray, List.set_cons_zero, List.set_cons_succ]))
        (refine held_take (i := 6) (oi := ?ot7) (v := ?vt7) ?at7 (by kernel_rfl) (by kernel_rfl) (by kernel_rfl) ?bt7 ?ct7 ?dt7 (by assumption) ?rt7; (case at7 => (simp only [List.getElem?_toArray, List.getElem?_cons_zero, List.getElem?_cons_succ]; rfl)); (case bt7 => exact fun _ _ _ h => h); (case ct7 => kernel_rfl); (case dt7 => (intro Z hZ; have k0 := ((show Below W.heap.size W Z from hZ).cell (World.block_lt_of_cell? W _ y1)).trans y1; go_simp; (try with_reducible rfl))); (case' rt7 => simp only [Act.put, List.setIfInBounds_toArray, List.set_cons_zero, List.set_cons_succ]))
        (refine held_take (i := 7) (oi := ?ot8) (v := ?vt8) ?at8 (by kernel_rfl) (by kernel_rfl) (by kernel_rfl) ?bt8 ?ct8 ?dt8 (by assumption) ?rt8; (case at8 => (simp only [List.getElem?_toArray, List.getElem?_cons_zero, List.getElem?_cons_succ]; rfl)); (case bt8 => exact fun _ _ _ h => h); (case ct8 => kernel_rfl); (case dt8 => (intro W hW; (try dsimp only at hW); go_split_ands; go_simp; (try with_reducible rfl))); (case' rt8 => simp only [Act.put, List.setIfInBounds_toArray, List.set_cons_zero, List.set_cons_succ]))
        (refine held_take (i := 8) (oi := ?ot9) (v := .pointer (some q1)) ?at9 (by kernel_rfl) (by kernel_rfl) (by kernel_rfl) ?bt9 ?ct9 ?dt9 (by assumption) ?rt9; (case at9 => (simp only [List.getElem?_toArray, List.getElem?_cons_zero, List.getElem?_cons_succ]; rfl)); (case bt9 => exact fun _ _ _ h => h); (case ct9 => kernel_rfl); (case dt9 => (intro W hW; clear hW; go_simp; (try with_reducible rfl); (try (intro h; omega)))); (case' rt9 => simp only [Act.put, List.setIfInBounds_toArray, List.set_cons_zero, List.set_cons_succ]))
        (refine held_take (i := 9) (oi := ?ot10) (v := .agg (vec 79 (guestE v))) ?at10 (by kernel_rfl) (by kernel_rfl) (by kernel_rfl) ?bt10 ?ct10 ?dt10 (by assumption) ?rt10; (case at10 => (simp only [List.getElem?_toArray, List.getElem?_cons_zero, List.getElem?_cons_succ]; rfl)); (case bt10 => exact fun _ _ _ h => h); (case ct10 => kernel_rfl); (case dt10 => (intro Z hZ; exact exec_load_q 64 _ rfl q1 rfl _ (run_load_q (fun i hi => ((show Below W.heap.size W Z from hZ).cell (World.block_lt_of_cell? W _ (HQ.out.2 i hi))).trans (HQ.out.2 i hi)) Tryd.underlying64 rfl infoGu))); (case' rt10 => simp only [Act.put, List.setIfInBounds_toArray, List.set_cons_zero, List.set_cons_succ]))
        refine held_one (i := 10) (oi := ?ot11) (by kernel_rfl) ?at11 ?ct11 (fun K10 hK10 => ?_)
        (case at11 => (simp only [List.getElem?_toArray, List.getElem?_cons_zero, List.getElem?_cons_succ]; rfl))
        (case ct11 => kernel_rfl)
        go_simp
        refine HSG.out.mono ?_
        rintro e y10 ⟨rfl, hd⟩
        have HDD : Hid (VS W y10) := Lib.hid ((VS.begin W).keep hd)
        refine hK10 _ _ HDD.out (fun hS10 => ?_)
        clear hd hK10 K10
        (refine held_take (i := 11) (oi := ?ot12) (v := ?vt12) ?at12 (by kernel_rfl) (by kernel_rfl) (by kernel_rfl) ?bt12 ?ct12 ?dt12 (by assumption) ?rt12; (case at12 => (simp only [List.getElem?_toArray, List.getElem?_cons_zero, List.getElem?_cons_succ]; rfl)); (case bt12 => exact fun _ _ _ h => h); (case ct12 => kernel_rfl); (case dt12 => (intro W hW; (try dsimp only at hW); go_split_ands; go_simp; (try with_reducible rfl))); (case' rt12 => simp only [Act.put, List.setIfInBounds_toArray, List.set_cons_zero, List.set_cons_succ]))
        refine wpAnyH_done (by kernel_rfl) ?_ _
        go_wp2
        go_ret
        exact ⟨by rw [HF.out]; rfl, HK.out.trans ((HB.out.trans ((show VS W y10 from HDD.out).mono HB.out.size)).mono HK.out.size)⟩
      · have HS := Lib.hid hs
        clear hs
        go_upto_region 6 with fail
        refine wp_region_held_drew (S := fun Y => VS W Y) (by kernel_rfl) (VS.begin W) (fun hS => ?_)
        (refine held_take (i := 0) (oi := ?ot13) (v := ?vt13) ?at13 (by kernel_rfl) (by kernel_rfl) (by kernel_rfl) ?bt13 ?ct13 ?dt13 (by assumption) ?rt13; (case at13 => (simp only [List.getElem?_toArray, List.getElem?_cons_zero]; rfl)); (case bt13 => exact fun _ _ _ h => h); (case ct13 => kernel_rfl); (case dt13 => (intro W hW; (try dsimp only at hW); go_split_ands; go_simp; (try with_reducible rfl))); (case' rt13 => simp only [Act.put, List.setIfInBounds_toArray, List.set_cons_zero, List.set_cons_succ]))
        (refine held_take (i := 1) (oi := ?ot14) (v := ?vt14) ?at14 (by kernel_rfl) (by kernel_rfl) (by kernel_rfl) ?bt14 ?ct14 ?dt14 (by assumption) ?rt14; (case at14 => (simp only [List.getElem?_toArray, List.getElem?_cons_zero, List.getElem?_cons_succ]; rfl)); (case bt14 => exact fun _ _ _ h => h); (case ct14 => kernel_rfl); (case dt14 => (intro Z hZ; have k0 := ((show Below W.heap.size W Z from hZ).cell (World.block_lt_of_cell? W _ x1)).trans x1; go_simp; (try with_reducible rfl))); (case' rt14 => simp only [Act.put, List.setIfInBounds_toArray, List.set_cons_zero, List.set_cons_succ]))
        (refine held_take (i := 2) (oi := ?ot15) (v := ?vt15) ?at15 (by kernel_rfl) (by kernel_rfl) (by kernel_rfl) ?bt15 ?ct15 ?dt15 (by assumption) ?rt15; (case at15 => (simp only [List.getElem?_toArray, List.getElem?_cons_zero, List.getElem?_cons_succ]; rfl)); (case bt15 => exact fun _ _ _ h => h); (case ct15 => kernel_rfl); (case dt15 => (intro W hW; (try dsimp only at hW); go_split_ands; go_simp; (try with_reducible rfl))); (case' rt15 => simp only [Act.put, List.setIfInBounds_toArray, List.set_cons_zero, List.set_cons_succ]))
        (refine held_take (i := 3) (oi := ?ot16) (v := .pointer (some p1)) ?at16 (by kernel_rfl) (by kernel_rfl) (by kernel_rfl) ?bt16 ?ct16 ?dt16 (by assumption) ?rt16; (case at16 => (simp only [List.getElem?_toArray, List.getElem?_cons_zero, List.getElem?_cons_succ]; rfl)); (case bt16 => exact fun _ _ _ h => h); (case ct16 => kernel_rfl); (case dt16 => (intro W hW; clear hW; go_simp; (try with_reducible rfl); (try (intro h; omega)))); (case' rt16 => simp only [Act.put, List.setIfInBounds_toArray, List.set_cons_zero, List.set_cons_succ]))
        (refine held_take (i := 4) (oi := ?ot17) (v := .agg (vec 79 (guestE u))) ?at17 (by kernel_rfl) (by kernel_rfl) (by kernel_rfl) ?bt17 ?ct17 ?dt17 (by assumption) ?rt17; (case at17 => (simp only [List.getElem?_toArray, List.getElem?_cons_zero, List.getElem?_cons_succ]; rfl)); (case bt17 => exact fun _ _ _ h => h); (case ct17 => kernel_rfl); (case dt17 => (intro Z hZ; exact exec_load_q 64 _ rfl p1 rfl _ (run_load_q (fun i hi => ((show Below W.heap.size W Z from hZ).cell (World.block_lt_of_cell? W _ (HQ.out.1 i hi))).trans (HQ.out.1 i hi)) Tryd.underlying64 rfl infoGu))); (case' rt17 => simp only [Act.put, List.setIfInBounds_toArray, List.set_cons_zero, List.set_cons_succ]))
        (refine held_take (i := 5) (oi := ?ot18) (v := ?vt18) ?at18 (by kernel_rfl) (by kernel_rfl) (by kernel_rfl) ?bt18 ?ct18 ?dt18 (by assumption) ?rt18; (case at18 => (simp only [List.getElem?_toArray, List.getElem?_cons_zero, List.getElem?_cons_succ]; rfl)); (case bt18 => exact fun _ _ _ h => h); (case ct18 => kernel_rfl); (case dt18 => (intro W hW; (try dsimp only at hW); go_split_ands; go_simp; (try with_reducible rfl))); (case' rt18 => simp only [Act.put, List.setIfInBounds_toArray, List.set_cons_zero, List.set_cons_succ]))
        (refine held_take (i := 6) (oi := ?ot19) (v := ?vt19) ?at19 (by kernel_rfl) (by kernel_rfl) (by kernel_rfl) ?bt19 ?ct19 ?dt19 (by assumption) ?rt19; (case at19 => (simp only [List.getElem?_toArray, List.getElem?_cons_zero, List.getElem?_cons_succ]; rfl)); (case bt19 => exact fun _ _ _ h => h); (case ct19 => kernel_rfl); (case dt19 => (intro Z hZ; have k0 := ((show Below W.heap.size W Z from hZ).cell (World.block_lt_of_cell? W _ y1)).trans y1; go_simp; (try with_reducible rfl))); (case' rt19 => simp only [Act.put, List.setIfInBounds_toArray, List.set_cons_zero, List.set_cons_succ]))
        (refine held_take (i := 7) (oi := ?ot20) (v := ?vt20) ?at20 (by kernel_rfl) (by kernel_rfl) (by kernel_rfl) ?bt20 ?ct20 ?dt20 (by assumption) ?rt20; (case at20 => (simp only [List.getElem?_toArray, List.getElem?_cons_zero, List.getElem?_cons_succ]; rfl)); (case bt20 => exact fun _ _ _ h => h); (case ct20 => kernel_rfl); (case dt20 => (intro W hW; (try dsimp only at hW); go_split_ands; go_simp; (try with_reducible rfl))); (case' rt20 => simp only [Act.put, List.setIfInBounds_toArray, List.set_cons_zero, List.set_cons_succ]))
        (refine held_take (i := 8) (oi := ?ot21) (v := .pointer (some q1)) ?at21 (by kernel_rfl) (by kernel_rfl) (by kernel_rfl) ?bt21 ?ct21 ?dt21 (by assumption) ?rt21; (case at21 => (simp only [List.getElem?_toArray, List.getElem?_cons_zero, List.getElem?_cons_succ]; rfl)); (case bt21 => exact fun _ _ _ h => h); (case ct21 => kernel_rfl); (case dt21 => (intro W hW; clear hW; go_simp; (try with_reducible rfl); (try (intro h; omega)))); (case' rt21 => simp only [Act.put, List.setIfInBounds_toArray, List.set_cons_zero, List.set_cons_succ]))
        (refine held_take (i := 9) (oi := ?ot22) (v := .agg (vec 79 (guestE v))) ?at22 (by kernel_rfl) (by kernel_rfl) (by kernel_rfl) ?bt22 ?ct22 ?dt22 (by assumption) ?rt22; (case at22 => (simp only [List.getElem?_toArray, List.getElem?_cons_zero, List.getElem?_cons_succ]; rfl)); (case bt22 => exact fun _ _ _ h => h); (case ct22 => kernel_rfl); (case dt22 => (intro Z hZ; exact exec_load_q 64 _ rfl q1 rfl _ (run_load_q (fun i hi => ((show Below W.heap.size W Z from hZ).cell (World.block_lt_of_cell? W _ (HQ.out.2 i hi))).trans (HQ.out.2 i hi)) Tryd.underlying64 rfl infoGu))); (case' rt22 => simp only [Act.put, List.setIfInBounds_toArray, List.set_cons_zero, List.set_cons_succ]))
        refine held_one (i := 10) (oi := ?ot23) (by kernel_rfl) ?at23 ?ct23 (fun K10 hK10 => ?_)
        (case at23 => (simp only [List.getElem?_toArray, List.getElem?_cons_zero, List.getElem?_cons_succ]; rfl))
        (case ct23 => kernel_rfl)
        go_simp
        refine HSG.out.mono ?_
        rintro e y10 ⟨rfl, hd⟩
        have HDD : Hid (VS W y10) := Lib.hid ((VS.begin W).keep hd)
        refine hK10 _ _ HDD.out (fun hS10 => ?_)
        clear hd hK10 K10
        (refine held_take (i := 11) (oi := ?ot24) (v := ?vt24) ?at24 (by kernel_rfl) (by kernel_rfl) (by kernel_rfl) ?bt24 ?ct24 ?dt24 (by assumption) ?rt24; (case at24 => (simp only [List.getElem?_toArray, List.getElem?_cons_zero, List.getElem?_cons_succ]; rfl)); (case bt24 => exact fun _ _ _ h => h); (case ct24 => kernel_rfl); (case dt24 => (intro W hW; (try dsimp only at hW); go_split_ands; go_simp; (try with_reducible rfl))); (case' rt24 => simp only [Act.put, List.setIfInBounds_toArray, List.set_cons_zero, List.set_cons_succ]))
        refine wpAnyH_done (by kernel_rfl) ?_ _
        go_wp2
        go_roundw
        case rel => exact ⟨k1 + 1, by omega, by go_num, HS, Lib.hid (HB.out.trans ((show VS W y10 from HDD.out).mono HB.out.size))⟩
        case measure => simp [intOf]; omega
    · obtain rfl : k1 = N1 := by omega
      have HT1 : Hid (eqL yEq ys zs = true) := Lib.hid (by rw [HE1.out, ← HN1.out, HP0.out])
      have HX2 := Lib.hid (And.intro (H2.out.1.up HB.out) (H2.out.2.up HB.out))
      have x2 : W.cell? ⟨w.heap.size, 2, none⟩ = _ := (HB.out.cell (World.block_lt_of_cell? V _ HXY.out.1.2)).trans HXY.out.1.2
      have y2 : W.cell? ⟨w.heap.size + 1, 2, none⟩ = _ := (HB.out.cell (World.block_lt_of_cell? V _ HXY.out.2.2)).trans HXY.out.2.2
      have HK := Lib.hid (HK.out.trans (HB.out.mono HK.out.size))
      clear hlt0 HP0 HE1 HN1 HL1 x1 y1 HXY HB H1
      go_wp2_with fail
      go_loopw [6, 52] (fun _ v X => ∃ k j : Nat, k ≤ N2 ∧ v = .int .i64 k ∧ Hid (eqTo chEq l2 m2 k = true) ∧ W.drewN j = X) (fun _ i _ => N2 - (intOf i).toNat)
      case atStart => exact ⟨0, 0, Nat.zero_le _, rfl, Lib.hid rfl, rfl⟩
      case round =>
        obtain ⟨k2, j2, hk, rfl, HP0, rfl⟩ := hrel
        by_cases hlt0 : k2 < N2
        · have hlt : k2 < l2.length := by have := HN2.out; omega
          have hltm : k2 < m2.length := by have := HL2.out; omega
          obtain ⟨a, p2, rfl, hp, -, hcp⟩ := HX2.out.1.at hlt
          obtain ⟨a', q2, rfl, hq, -, hcq⟩ := HX2.out.2.at hltm
          obtain ⟨u, hu⟩ : ∃ u, u = l2[k2] := ⟨_, rfl⟩
          obtain ⟨v, hv⟩ : ∃ v, v = m2[k2] := ⟨_, rfl⟩
          have hs := eqTo_succ chEq l2 m2 k2 hlt hltm
          rw [HP0.out, Bool.true_and, ← hu, ← hv] at hs
          rw [← hu] at hcp
          rw [← hv] at hcq
          have HQ := Lib.hid (And.intro hcp hcq)
          have HSL := Lib.hid hlt
          clear hcp hcq hu hv hltm hlt
          have hki : (k2 : Int) < (N2 : Int) := by omega
          obtain ⟨b, hb⟩ : ∃ b, b = chEq u v := ⟨_, rfl⟩
          rw [← hb] at hs
          cases b
          · have HB : Hid ((!chEq u v) = true) := Lib.hid (by rw [← hb]; rfl)
            have hno := eqL_no hs (show k2 + 1 ≤ l2.length from HSL.out)
            have HF : Hid (G = false) := Lib.hid (by rw [HGF.out, hno]; simp)
            clear hb hs hno
            go_upto_region 12 with fail
            refine wp_region_held_drew (S := fun Y => Y = (W.drewN j2).drew) (by kernel_rfl) rfl (fun hS => ?_)
            (refine held_take (i := 0) (oi := ?ot25) (v := ?vt25) ?at25 (by kernel_rfl) (by kernel_rfl) (by kernel_rfl) ?bt25 ?ct25 ?dt25 (by assumption) ?rt25; (case at25 => (simp only [List.getElem?_toArray, List.getElem?_cons_zero]; rfl)); (case bt25 => exact fun _ _ _ h => h); (case ct25 => kernel_rfl); (case dt25 => (intro W hW; (try dsimp only at hW); go_split_ands; go_simp; (try with_reducible rfl))); (case' rt25 => simp only [Act.put, List.setIfInBounds_toArray, List.set_cons_zero, List.set_cons_succ]))
            (refine held_take (i := 1) (oi := ?ot26) (v := ?vt26) ?at26 (by kernel_rfl) (by kernel_rfl) (by kernel_rfl) ?bt26 ?ct26 ?dt26 (by assumption) ?rt26; (case at26 => (simp only [List.getElem?_toArray, List.getElem?_cons_zero, List.getElem?_cons_succ]; rfl)); (case bt26 => exact fun _ _ _ h => h); (case ct26 => kernel_rfl); (case dt26 => (intro W hW; subst hW; go_simp; (try with_reducible rfl))); (case' rt26 => simp only [Act.put, List.setIfInBounds_toArray, List.set_cons_zero, List.set_cons_succ]))
            (refine held_take (i := 2) (oi := ?ot27) (v := ?vt27) ?at27 (by kernel_rfl) (by kernel_rfl) (by kernel_rfl) ?bt27 ?ct27 ?dt27 (by assumption) ?rt27; (case at27 => (simp only [List.getElem?_toArray, List.getElem?_cons_zero, List.getElem?_cons_succ]; rfl)); (case bt27 => exact fun _ _ _ h => h); (case ct27 => kernel_rfl); (case dt27 => (intro W hW; (try dsimp only at hW); go_split_ands; go_simp; (try with_reducible rfl))); (case' rt27 => simp only [Act.put, List.setIfInBounds_toArray, List.set_cons_zero, List.set_cons_succ]))
            (refine held_take (i := 3) (oi := ?ot28) (v := .pointer (some p2)) ?at28 (by kernel_rfl) (by kernel_rfl) (by kernel_rfl) ?bt28 ?ct28 ?dt28 (by assumption) ?rt28; (case at28 => (simp only [List.getElem?_toArray, List.getElem?_cons_zero, List.getElem?_cons_succ]; rfl)); (case bt28 => exact fun _ _ _ h => h); (case ct28 => kernel_rfl); (case dt28 => (intro W hW; clear hW; go_simp; (try with_reducible rfl); (try (intro h; omega)))); (case' rt28 => simp only [Act.put, List.setIfInBounds_toArray, List.set_cons_zero, List.set_cons_succ]))
            (refine held_take (i := 4) (oi := ?ot29) (v := .agg (vec 8 (chE u))) ?at29 (by kernel_rfl) (by kernel_rfl) (by kernel_rfl) ?bt29 ?ct29 ?dt29 (by assumption) ?rt29; (case at29 => (simp only [List.getElem?_toArray, List.getElem?_cons_zero, List.getElem?_cons_succ]; rfl)); (case bt29 => exact fun _ _ _ h => h); (case ct29 => kernel_rfl); (case dt29 => (intro Z hZ; subst hZ; exact exec_load_q 71 _ rfl p2 rfl _ (run_load_q HQ.out.1 Tryd.underlying71 rfl infoCh))); (case' rt29 => simp only [Act.put, List.setIfInBounds_toArray, List.set_cons_zero, List.set_cons_succ]))
            (refine held_take (i := 5) (oi := ?ot30) (v := ?vt30) ?at30 (by kernel_rfl) (by kernel_rfl) (by kernel_rfl) ?bt30 ?ct30 ?dt30 (by assumption) ?rt30; (case at30 => (simp only [List.getElem?_toArray, List.getElem?_cons_zero, List.getElem?_cons_succ]; rfl)); (case bt30 => exact fun _ _ _ h => h); (case ct30 => kernel_rfl); (case dt30 => (intro W hW; (try dsimp only at hW); go_split_ands; go_simp; (try with_reducible rfl))); (case' rt30 => simp only [Act.put, List.setIfInBounds_toArray, List.set_cons_zero, List.set_cons_succ]))
            (refine held_take (i := 6) (oi := ?ot31) (v := ?vt31) ?at31 (by kernel_rfl) (by kernel_rfl) (by kernel_rfl) ?bt31 ?ct31 ?dt31 (by assumption) ?rt31; (case at31 => (simp only [List.getElem?_toArray, List.getElem?_cons_zero, List.getElem?_cons_succ]; rfl)); (case bt31 => exact fun _ _ _ h => h); (case ct31 => kernel_rfl); (case dt31 => (intro W hW; subst hW; go_simp; (try with_reducible rfl))); (case' rt31 => simp only [Act.put, List.setIfInBounds_toArray, List.set_cons_zero, List.set_cons_succ]))
            (refine held_take (i := 7) (oi := ?ot32) (v := ?vt32) ?at32 (by kernel_rfl) (by kernel_rfl) (by kernel_rfl) ?bt32 ?ct32 ?dt32 (by assumption) ?rt32; (case at32 => (simp only [List.getElem?_toArray, List.getElem?_cons_zero, List.getElem?_cons_succ]; rfl)); (case bt32 => exact fun _ _ _ h => h); (case ct32 => kernel_rfl); (case dt32 => (intro W hW; (try dsimp only at hW); go_split_ands; go_simp; (try with_reducible rfl))); (case' rt32 => simp only [Act.put, List.setIfInBounds_toArray, List.set_cons_zero, List.set_cons_succ]))
            (refine held_take (i := 8) (oi := ?ot33) (v := .pointer (some q2)) ?at33 (by kernel_rfl) (by kernel_rfl) (by kernel_rfl) ?bt33 ?ct33 ?dt33 (by assumption) ?rt33; (case at33 => (simp only [List.getElem?_toArray, List.getElem?_cons_zero, List.getElem?_cons_succ]; rfl)); (case bt33 => exact fun _ _ _ h => h); (case ct33 => kernel_rfl); (case dt33 => (intro W hW; clear hW; go_simp; (try with_reducible rfl); (try (intro h; omega)))); (case' rt33 => simp only [Act.put, List.setIfInBounds_toArray, List.set_cons_zero, List.set_cons_succ]))
            (refine held_take (i := 9) (oi := ?ot34) (v := .agg (vec 8 (chE v))) ?at34 (by kernel_rfl) (by kernel_rfl) (by kernel_rfl) ?bt34 ?ct34 ?dt34 (by assumption) ?rt34; (case at34 => (simp only [List.getElem?_toArray, List.getElem?_cons_zero, List.getElem?_cons_succ]; rfl)); (case bt34 => exact fun _ _ _ h => h); (case ct34 => kernel_rfl); (case dt34 => (intro Z hZ; subst hZ; exact exec_load_q 71 _ rfl q2 rfl _ (run_load_q HQ.out.2 Tryd.underlying71 rfl infoCh))); (case' rt34 => simp only [Act.put, List.setIfInBounds_toArray, List.set_cons_zero, List.set_cons_succ]))
            (refine held_take (i := 10) (oi := ?ot35) (v := .bool true) ?at35 (by kernel_rfl) (by kernel_rfl) (by kernel_rfl) ?bt35 ?ct35 ?dt35 (by assumption) ?rt35; (case at35 => (simp only [List.getElem?_toArray, List.getElem?_cons_zero, List.getElem?_cons_succ]; rfl)); (case bt35 => exact fun _ _ _ h => h); (case ct35 => kernel_rfl); (case dt35 => (intro Z _; exact exec_neq_ch _ _ _ rfl u v rfl rfl Z HB.out)); (case' rt35 => simp only [Act.put, List.setIfInBounds_toArray, List.set_cons_zero, List.set_cons_succ]))
            refine wpAnyH_done (by kernel_rfl) ?_ _
            go_wp2
            go_ret
            exact ⟨by rw [HF.out]; rfl, below_drewN HK.out (j2 + 1)⟩
          · have HB : Hid ((!chEq u v) = false) := Lib.hid (by rw [← hb]; rfl)
            have HS := Lib.hid hs
            clear hb hs
            go_upto_region 12 with fail
            refine wp_region_held_drew (S := fun Y => Y = (W.drewN j2).drew) (by kernel_rfl) rfl (fun hS => ?_)
            (refine held_take (i := 0) (oi := ?ot36) (v := ?vt36) ?at36 (by kernel_rfl) (by kernel_rfl) (by kernel_rfl) ?bt36 ?ct36 ?dt36 (by assumption) ?rt36; (case at36 => (simp only [List.getElem?_toArray, List.getElem?_cons_zero]; rfl)); (case bt36 => exact fun _ _ _ h => h); (case ct36 => kernel_rfl); (case dt36 => (intro W hW; (try dsimp only at hW); go_split_ands; go_simp; (try with_reducible rfl))); (case' rt36 => simp only [Act.put, List.setIfInBounds_toArray, List.set_cons_zero, List.set_cons_succ]))
            (refine held_take (i := 1) (oi := ?ot37) (v := ?vt37) ?at37 (by kernel_rfl) (by kernel_rfl) (by kernel_rfl) ?bt37 ?ct37 ?dt37 (by assumption) ?rt37; (case at37 => (simp only [List.getElem?_toArray, List.getElem?_cons_zero, List.getElem?_cons_succ]; rfl)); (case bt37 => exact fun _ _ _ h => h); (case ct37 => kernel_rfl); (case dt37 => (intro W hW; subst hW; go_simp; (try with_reducible rfl))); (case' rt37 => simp only [Act.put, List.setIfInBounds_toArray, List.set_cons_zero, List.set_cons_succ]))
            (refine held_take (i := 2) (oi := ?ot38) (v := ?vt38) ?at38 (by kernel_rfl) (by kernel_rfl) (by kernel_rfl) ?bt38 ?ct38 ?dt38 (by assumption) ?rt38; (case at38 => (simp only [List.getElem?_toArray, List.getElem?_cons_zero, List.getElem?_cons_succ]; rfl)); (case bt38 => exact fun _ _ _ h => h); (case ct38 => kernel_rfl); (case dt38 => (intro W hW; (try dsimp only at hW); go_split_ands; go_simp; (try with_reducible rfl))); (case' rt38 => simp only [Act.put, List.setIfInBounds_toArray, List.set_cons_zero, List.set_cons_succ]))
            (refine held_take (i := 3) (oi := ?ot39) (v := .pointer (some p2)) ?at39 (by kernel_rfl) (by kernel_rfl) (by kernel_rfl) ?bt39 ?ct39 ?dt39 (by assumption) ?rt39; (case at39 => (simp only [List.getElem?_toArray, List.getElem?_cons_zero, List.getElem?_cons_succ]; rfl)); (case bt39 => exact fun _ _ _ h => h); (case ct39 => kernel_rfl); (case dt39 => (intro W hW; clear hW; go_simp; (try with_reducible rfl); (try (intro h; omega)))); (case' rt39 => simp only [Act.put, List.setIfInBounds_toArray, List.set_cons_zero, List.set_cons_succ]))
            (refine held_take (i := 4) (oi := ?ot40) (v := .agg (vec 8 (chE u))) ?at40 (by kernel_rfl) (by kernel_rfl) (by kernel_rfl) ?bt40 ?ct40 ?dt40 (by assumption) ?rt40; (case at40 => (simp only [List.getElem?_toArray, List.getElem?_cons_zero, List.getElem?_cons_succ]; rfl)); (case bt40 => exact fun _ _ _ h => h); (case ct40 => kernel_rfl); (case dt40 => (intro Z hZ; subst hZ; exact exec_load_q 71 _ rfl p2 rfl _ (run_load_q HQ.out.1 Tryd.underlying71 rfl infoCh))); (case' rt40 => simp only [Act.put, List.setIfInBounds_toArray, List.set_cons_zero, List.set_cons_succ]))
            (refine held_take (i := 5) (oi := ?ot41) (v := ?vt41) ?at41 (by kernel_rfl) (by kernel_rfl) (by kernel_rfl) ?bt41 ?ct41 ?dt41 (by assumption) ?rt41; (case at41 => (simp only [List.getElem?_toArray, List.getElem?_cons_zero, List.getElem?_cons_succ]; rfl)); (case bt41 => exact fun _ _ _ h => h); (case ct41 => kernel_rfl); (case dt41 => (intro W hW; (try dsimp only at hW); go_split_ands; go_simp; (try with_reducible rfl))); (case' rt41 => simp only [Act.put, List.setIfInBounds_toArray, List.set_cons_zero, List.set_cons_succ]))
            (refine held_take (i := 6) (oi := ?ot42) (v := ?vt42) ?at42 (by kernel_rfl) (by kernel_rfl) (by kernel_rfl) ?bt42 ?ct42 ?dt42 (by assumption) ?rt42; (case at42 => (simp only [List.getElem?_toArray, List.getElem?_cons_zero, List.getElem?_cons_succ]; rfl)); (case bt42 => exact fun _ _ _ h => h); (case ct42 => kernel_rfl); (case dt42 => (intro W hW; subst hW; go_simp; (try with_reducible rfl))); (case' rt42 => simp only [Act.put, List.setIfInBounds_toArray, List.set_cons_zero, List.set_cons_succ]))
            (refine held_take (i := 7) (oi := ?ot43) (v := ?vt43) ?at43 (by kernel_rfl) (by kernel_rfl) (by kernel_rfl) ?bt43 ?ct43 ?dt43 (by assumption) ?rt43; (case at43 => (simp only [List.getElem?_toArray, List.getElem?_cons_zero, List.getElem?_cons_succ]; rfl)); (case bt43 => exact fun _ _ _ h => h); (case ct43 => kernel_rfl); (case dt43 => (intro W hW; (try dsimp only at hW); go_split_ands; go_simp; (try with_reducible rfl))); (case' rt43 => simp only [Act.put, List.setIfInBounds_toArray, List.set_cons_zero, List.set_cons_succ]))
            (refine held_take (i := 8) (oi := ?ot44) (v := .pointer (some q2)) ?at44 (by kernel_rfl) (by kernel_rfl) (by kernel_rfl) ?bt44 ?ct44 ?dt44 (by assumption) ?rt44; (case at44 => (simp only [List.getElem?_toArray, List.getElem?_cons_zero, List.getElem?_cons_succ]; rfl)); (case bt44 => exact fun _ _ _ h => h); (case ct44 => kernel_rfl); (case dt44 => (intro W hW; clear hW; go_simp; (try with_reducible rfl); (try (intro h; omega)))); (case' rt44 => simp only [Act.put, List.setIfInBounds_toArray, List.set_cons_zero, List.set_cons_succ]))
            (refine held_take (i := 9) (oi := ?ot45) (v := .agg (vec 8 (chE v))) ?at45 (by kernel_rfl) (by kernel_rfl) (by kernel_rfl) ?bt45 ?ct45 ?dt45 (by assumption) ?rt45; (case at45 => (simp only [List.getElem?_toArray, List.getElem?_cons_zero, List.getElem?_cons_succ]; rfl)); (case bt45 => exact fun _ _ _ h => h); (case ct45 => kernel_rfl); (case dt45 => (intro Z hZ; subst hZ; exact exec_load_q 71 _ rfl q2 rfl _ (run_load_q HQ.out.2 Tryd.underlying71 rfl infoCh))); (case' rt45 => simp only [Act.put, List.setIfInBounds_toArray, List.set_cons_zero, List.set_cons_succ]))
            (refine held_take (i := 10) (oi := ?ot46) (v := .bool false) ?at46 (by kernel_rfl) (by kernel_rfl) (by kernel_rfl) ?bt46 ?ct46 ?dt46 (by assumption) ?rt46; (case at46 => (simp only [List.getElem?_toArray, List.getElem?_cons_zero, List.getElem?_cons_succ]; rfl)); (case bt46 => exact fun _ _ _ h => h); (case ct46 => kernel_rfl); (case dt46 => (intro Z _; exact exec_neq_ch _ _ _ rfl u v rfl rfl Z HB.out)); (case' rt46 => simp only [Act.put, List.setIfInBounds_toArray, List.set_cons_zero, List.set_cons_succ]))
            refine wpAnyH_done (by kernel_rfl) ?_ _
            go_wp2
            go_roundw
            case rel => exact ⟨k2 + 1, j2 + 1, by omega, by go_num, HS, rfl⟩
            case measure => simp [intOf]; omega
        · obtain rfl : k2 = N2 := by omega
          have HR : Hid (G = true) := Lib.hid (by rw [HGF.out, HV.out, HT1.out, HE2.out, ← HN2.out, HP0.out]; rfl)
          clear hlt0
          go_wp2_with fail
          go_ret
          exact ⟨by rw [HR.out]; rfl, below_drewN HK.out j2⟩
end Go.Proofs.YtmcpmcicolpoeaaDoor
