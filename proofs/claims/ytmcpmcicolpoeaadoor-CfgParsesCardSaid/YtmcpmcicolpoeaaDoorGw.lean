/- parser.guest. -/
import Derived.Test.YtmcpmcicolpoeaaDoorGu
import Derived.Deep.CutRange
namespace Go.Proofs.YtmcpmcicolpoeaaDoor
open Go.RowKit
attribute [local go_sem ↓ high] zeroGu

/-- A guest was read. -/
def guestV (base : Nat) (w : World) (x : Gs) (v : Value) : Prop := ∃ y : GV, y.g = x ∧ x.key.length = 68 ∧ v = .agg (vec 79 (guestE y)) ∧ GOwn w base y
set_option maxHeartbeats 4000000 in
set_option maxRecDepth 100000 in
theorem guest_any {w : World} {g c at_ q : Nat} {A : Option Addr} {b : By} (h : Cur w g A c b at_ q) : Calls Tryd.prog 44 #[.pointer (some ⟨g, 0, none⟩)] w (Rd (guestC kOk) (guestV w.heap.size) b q g A c w) := by
  obtain ⟨V, hV⟩ : ∃ V, V = w.alloc (.cells (vec 79 (guestE zGV)) 64) := ⟨_, rfl⟩
  have h0 : Arr V w.heap.size 64 79 (guestE zGV) := by rw [hV]; exact Arr.new w _ _ _
  have hB : Below w.heap.size w V := by rw [hV]; exact (Below.refl _ _).alloc (Nat.le_refl _) _
  have hVs : V.heap.size = w.heap.size + 1 := by rw [hV]; simp
  have hgw := h.lt
  have HGW := Lib.hid hgw
  have HR : Hid (w.heap.size ≠ g) := Lib.hid (by omega)
  have HC := Lib.hid ((h.under hB).drewN 1)
  have HA := Lib.hid (And.intro h0 (And.intro hB hVs))
  have HS : Hid (Save g V (V.drewN 1)) := Lib.hid ((Save.refl g V).drewN 1)
  have HW := Lib.hid hV
  unfold guestC
  clear hV h0 hB h hVs hgw
  go_enter Tryd.func44, Tryd.ntmps44
  go_upto_region 1 with fail
  rw [← HW.out]
  clear HW
  go_cut [3] from 8 to 66 (fun s3 wx => ∃ (r : Nat) (hd : GH) (p : Nat), s3 = .pointer (some ⟨r, 0, none⟩) ∧ Hid ((ghC kOk).get b q = .ok (hd, p) ∧ hd.2.2.2.2.2.2.2.length = 68) ∧ Hid (GuAt g A c b w wx r (headG hd) p))
  case first =>
    refine wp_region_held_drew (S := fun Y => True) (by kernel_rfl) trivial (fun hS => ?_)
    (refine held_take (i := 0) (oi := ?ot1) (v := ?vt1) ?at1 (by kernel_rfl) (by kernel_rfl) (by kernel_rfl) ?bt1 ?ct1 ?dt1 (by assumption) ?rt1; (case at1 => (simp only [List.getElem?_toArray, List.getElem?_cons_zero]; rfl)); (case bt1 => exact fun _ _ _ h => h); (case ct1 => kernel_rfl); (case dt1 => (intro W hW; (try dsimp only at hW); go_split_ands; go_simp; (try with_reducible rfl))); (case' rt1 => simp only [Act.put, List.setIfInBounds_toArray, List.set_cons_zero, List.set_cons_succ]))
    (refine held_take (i := 2) (oi := ?ot2) (v := ?vt2) ?at2 (by kernel_rfl) (by kernel_rfl) (by kernel_rfl) ?bt2 ?ct2 ?dt2 (by assumption) ?rt2; (case at2 => (simp only [List.getElem?_toArray, List.getElem?_cons_zero, List.getElem?_cons_succ]; rfl)); (case bt2 => exact fun _ _ _ h => h); (case ct2 => kernel_rfl); (case dt2 => (intro W hW; (try dsimp only at hW); go_split_ands; go_simp; (try with_reducible rfl))); (case' rt2 => simp only [Act.put, List.setIfInBounds_toArray, List.set_cons_zero, List.set_cons_succ]))
    (refine held_take (i := 4) (oi := ?ot3) (v := ?vt3) ?at3 (by kernel_rfl) (by kernel_rfl) (by kernel_rfl) ?bt3 ?ct3 ?dt3 (by assumption) ?rt3; (case at3 => (simp only [List.getElem?_toArray, List.getElem?_cons_zero, List.getElem?_cons_succ]; rfl)); (case bt3 => exact fun _ _ _ h => h); (case ct3 => kernel_rfl); (case dt3 => (intro W hW; (try dsimp only at hW); go_split_ands; go_simp; (try with_reducible rfl))); (case' rt3 => simp only [Act.put, List.setIfInBounds_toArray, List.set_cons_zero, List.set_cons_succ]))
    (refine held_take (i := 5) (oi := ?ot4) (v := ?vt4) ?at4 (by kernel_rfl) (by kernel_rfl) (by kernel_rfl) ?bt4 ?ct4 ?dt4 (by assumption) ?rt4; (case at4 => (simp only [List.getElem?_toArray, List.getElem?_cons_zero, List.getElem?_cons_succ]; rfl)); (case bt4 => exact fun _ _ _ h => h); (case ct4 => kernel_rfl); (case dt4 => (intro W hW; (try dsimp only at hW); go_split_ands; go_simp; (try with_reducible rfl))); (case' rt4 => simp only [Act.put, List.setIfInBounds_toArray, List.set_cons_zero, List.set_cons_succ]))
    (refine held_take (i := 6) (oi := ?ot5) (v := ?vt5) ?at5 (by kernel_rfl) (by kernel_rfl) (by kernel_rfl) ?bt5 ?ct5 ?dt5 (by assumption) ?rt5; (case at5 => (simp only [List.getElem?_toArray, List.getElem?_cons_zero, List.getElem?_cons_succ]; rfl)); (case bt5 => exact fun _ _ _ h => h); (case ct5 => kernel_rfl); (case dt5 => (intro W hW; (try dsimp only at hW); go_split_ands; go_simp; (try with_reducible rfl))); (case' rt5 => simp only [Act.put, List.setIfInBounds_toArray, List.set_cons_zero, List.set_cons_succ]))
    (refine held_take (i := 8) (oi := ?ot6) (v := ?vt6) ?at6 (by kernel_rfl) (by kernel_rfl) (by kernel_rfl) ?bt6 ?ct6 ?dt6 (by assumption) ?rt6; (case at6 => (simp only [List.getElem?_toArray, List.getElem?_cons_zero, List.getElem?_cons_succ]; rfl)); (case bt6 => exact fun _ _ _ h => h); (case ct6 => kernel_rfl); (case dt6 => (intro W hW; (try dsimp only at hW); go_split_ands; go_simp; (try with_reducible rfl))); (case' rt6 => simp only [Act.put, List.setIfInBounds_toArray, List.set_cons_zero, List.set_cons_succ]))
    (refine held_take (i := 9) (oi := ?ot7) (v := ?vt7) ?at7 (by kernel_rfl) (by kernel_rfl) (by kernel_rfl) ?bt7 ?ct7 ?dt7 (by assumption) ?rt7; (case at7 => (simp only [List.getElem?_toArray, List.getElem?_cons_zero, List.getElem?_cons_succ]; rfl)); (case bt7 => exact fun _ _ _ h => h); (case ct7 => kernel_rfl); (case dt7 => (intro W hW; (try dsimp only at hW); go_split_ands; go_simp; (try with_reducible rfl))); (case' rt7 => simp only [Act.put, List.setIfInBounds_toArray, List.set_cons_zero, List.set_cons_succ]))
    (refine held_take (i := 10) (oi := ?ot8) (v := ?vt8) ?at8 (by kernel_rfl) (by kernel_rfl) (by kernel_rfl) ?bt8 ?ct8 ?dt8 (by assumption) ?rt8; (case at8 => (simp only [List.getElem?_toArray, List.getElem?_cons_zero, List.getElem?_cons_succ]; rfl)); (case bt8 => exact fun _ _ _ h => h); (case ct8 => kernel_rfl); (case dt8 => (intro W hW; (try dsimp only at hW); go_split_ands; go_simp; (try with_reducible rfl))); (case' rt8 => simp only [Act.put, List.setIfInBounds_toArray, List.set_cons_zero, List.set_cons_succ]))
    (refine held_take (i := 12) (oi := ?ot9) (v := ?vt9) ?at9 (by kernel_rfl) (by kernel_rfl) (by kernel_rfl) ?bt9 ?ct9 ?dt9 (by assumption) ?rt9; (case at9 => (simp only [List.getElem?_toArray, List.getElem?_cons_zero, List.getElem?_cons_succ]; rfl)); (case bt9 => exact fun _ _ _ h => h); (case ct9 => kernel_rfl); (case dt9 => (intro W hW; (try dsimp only at hW); go_split_ands; go_simp; (try with_reducible rfl))); (case' rt9 => simp only [Act.put, List.setIfInBounds_toArray, List.set_cons_zero, List.set_cons_succ]))
    (refine held_take (i := 13) (oi := ?ot10) (v := ?vt10) ?at10 (by kernel_rfl) (by kernel_rfl) (by kernel_rfl) ?bt10 ?ct10 ?dt10 (by assumption) ?rt10; (case at10 => (simp only [List.getElem?_toArray, List.getElem?_cons_zero, List.getElem?_cons_succ]; rfl)); (case bt10 => exact fun _ _ _ h => h); (case ct10 => kernel_rfl); (case dt10 => (intro W hW; (try dsimp only at hW); go_split_ands; go_simp; (try with_reducible rfl))); (case' rt10 => simp only [Act.put, List.setIfInBounds_toArray, List.set_cons_zero, List.set_cons_succ]))
    (refine held_take (i := 14) (oi := ?ot11) (v := ?vt11) ?at11 (by kernel_rfl) (by kernel_rfl) (by kernel_rfl) ?bt11 ?ct11 ?dt11 (by assumption) ?rt11; (case at11 => (simp only [List.getElem?_toArray, List.getElem?_cons_zero, List.getElem?_cons_succ]; rfl)); (case bt11 => exact fun _ _ _ h => h); (case ct11 => kernel_rfl); (case dt11 => (intro W hW; (try dsimp only at hW); go_split_ands; go_simp; (try with_reducible rfl))); (case' rt11 => simp only [Act.put, List.setIfInBounds_toArray, List.set_cons_zero, List.set_cons_succ]))
    (refine held_take (i := 16) (oi := ?ot12) (v := ?vt12) ?at12 (by kernel_rfl) (by kernel_rfl) (by kernel_rfl) ?bt12 ?ct12 ?dt12 (by assumption) ?rt12; (case at12 => (simp only [List.getElem?_toArray, List.getElem?_cons_zero, List.getElem?_cons_succ]; rfl)); (case bt12 => exact fun _ _ _ h => h); (case ct12 => kernel_rfl); (case dt12 => (intro W hW; (try dsimp only at hW); go_split_ands; go_simp; (try with_reducible rfl))); (case' rt12 => simp only [Act.put, List.setIfInBounds_toArray, List.set_cons_zero, List.set_cons_succ]))
    (refine held_take (i := 17) (oi := ?ot13) (v := ?vt13) ?at13 (by kernel_rfl) (by kernel_rfl) (by kernel_rfl) ?bt13 ?ct13 ?dt13 (by assumption) ?rt13; (case at13 => (simp only [List.getElem?_toArray, List.getElem?_cons_zero, List.getElem?_cons_succ]; rfl)); (case bt13 => exact fun _ _ _ h => h); (case ct13 => kernel_rfl); (case dt13 => (intro W hW; (try dsimp only at hW); go_split_ands; go_simp; (try with_reducible rfl))); (case' rt13 => simp only [Act.put, List.setIfInBounds_toArray, List.set_cons_zero, List.set_cons_succ]))
    (refine held_take (i := 18) (oi := ?ot14) (v := ?vt14) ?at14 (by kernel_rfl) (by kernel_rfl) (by kernel_rfl) ?bt14 ?ct14 ?dt14 (by assumption) ?rt14; (case at14 => (simp only [List.getElem?_toArray, List.getElem?_cons_zero, List.getElem?_cons_succ]; rfl)); (case bt14 => exact fun _ _ _ h => h); (case ct14 => kernel_rfl); (case dt14 => (intro W hW; (try dsimp only at hW); go_split_ands; go_simp; (try with_reducible rfl))); (case' rt14 => simp only [Act.put, List.setIfInBounds_toArray, List.set_cons_zero, List.set_cons_succ]))
    (refine held_take (i := 20) (oi := ?ot15) (v := ?vt15) ?at15 (by kernel_rfl) (by kernel_rfl) (by kernel_rfl) ?bt15 ?ct15 ?dt15 (by assumption) ?rt15; (case at15 => (simp only [List.getElem?_toArray, List.getElem?_cons_zero, List.getElem?_cons_succ]; rfl)); (case bt15 => exact fun _ _ _ h => h); (case ct15 => kernel_rfl); (case dt15 => (intro W hW; (try dsimp only at hW); go_split_ands; go_simp; (try with_reducible rfl))); (case' rt15 => simp only [Act.put, List.setIfInBounds_toArray, List.set_cons_zero, List.set_cons_succ]))
    (refine held_take (i := 21) (oi := ?ot16) (v := ?vt16) ?at16 (by kernel_rfl) (by kernel_rfl) (by kernel_rfl) ?bt16 ?ct16 ?dt16 (by assumption) ?rt16; (case at16 => (simp only [List.getElem?_toArray, List.getElem?_cons_zero, List.getElem?_cons_succ]; rfl)); (case bt16 => exact fun _ _ _ h => h); (case ct16 => kernel_rfl); (case dt16 => (intro W hW; (try dsimp only at hW); go_split_ands; go_simp; (try with_reducible rfl))); (case' rt16 => simp only [Act.put, List.setIfInBounds_toArray, List.set_cons_zero, List.set_cons_succ]))
    (refine held_take (i := 22) (oi := ?ot17) (v := ?vt17) ?at17 (by kernel_rfl) (by kernel_rfl) (by kernel_rfl) ?bt17 ?ct17 ?dt17 (by assumption) ?rt17; (case at17 => (simp only [List.getElem?_toArray, List.getElem?_cons_zero, List.getElem?_cons_succ]; rfl)); (case bt17 => exact fun _ _ _ h => h); (case ct17 => kernel_rfl); (case dt17 => (intro W hW; (try dsimp only at hW); go_split_ands; go_simp; (try with_reducible rfl))); (case' rt17 => simp only [Act.put, List.setIfInBounds_toArray, List.set_cons_zero, List.set_cons_succ]))
    (refine held_take (i := 24) (oi := ?ot18) (v := ?vt18) ?at18 (by kernel_rfl) (by kernel_rfl) (by kernel_rfl) ?bt18 ?ct18 ?dt18 (by assumption) ?rt18; (case at18 => (simp only [List.getElem?_toArray, List.getElem?_cons_zero, List.getElem?_cons_succ]; rfl)); (case bt18 => exact fun _ _ _ h => h); (case ct18 => kernel_rfl); (case dt18 => (intro W hW; (try dsimp only at hW); go_split_ands; go_simp; (try with_reducible rfl))); (case' rt18 => simp only [Act.put, List.setIfInBounds_toArray, List.set_cons_zero, List.set_cons_succ]))
    refine held_two (i := 1) (j := 27) (oi := ?oit81) (oj := ?ojt81) (by kernel_rfl) ?ait81 ?ajt81 ?cit81 ?cjt81 (fun K1 hK1 => ?hit81) (fun K27 hK27 => ?hjt81)
    (case ait81 => (simp only [List.getElem?_toArray, List.getElem?_cons_zero, List.getElem?_cons_succ]; rfl))
    (case ajt81 => (simp only [List.getElem?_toArray, List.getElem?_cons_zero, List.getElem?_cons_succ]; rfl))
    (case cit81 => kernel_rfl)
    (case cjt81 => kernel_rfl)
    case hit81 =>
      go_simp
      refine (pname_any HC.out).mono ?_
      intro e y1 hh
      rcases hh with hh | hh
      rotate_left
      · obtain ⟨er, pl, hg, rfl, hs⟩ := hh
        exact ⟨rfl, .no (map_no (dep_no (dep_no (hg)))) rfl (Save.left HA.out.2.1 (HS.out.trans hs))⟩
      obtain ⟨x1, q1, v1, t1, hg1, rfl, hv, hc, hs⟩ := hh
      obtain rfl : v1 = .string (strOf x1) := hv
      have HS := Lib.hid (HS.out.trans hs)
      have HC := Lib.hid hc
      have HG1 := Lib.hid hg1
      (try have HGB := Lib.hid (And.intro (HGB.out.1.save hs HGB.out.2.1) HGB.out.2))
      refine hK1 _ _ trivial (fun hS1 => ?_)
      clear hg1 hc hs hS hK1 K1
      refine held_two (i := 3) (j := 27) (oi := ?oit70) (oj := ?ojt70) (by kernel_rfl) ?ait70 ?ajt70 ?cit70 ?cjt70 (fun K3 hK3 => ?hit70) (fun K27 hK27 => ?hjt70)
      (case ait70 => (simp only [List.getElem?_toArray, List.getElem?_cons_zero, List.getElem?_cons_succ]; rfl))
      (case ajt70 => (simp only [List.getElem?_toArray, List.getElem?_cons_zero, List.getElem?_cons_succ]; rfl))
      (case cit70 => kernel_rfl)
      (case cjt70 => kernel_rfl)
      case hit70 =>
        go_simp
        refine (flag_any HC.out).mono ?_
        intro e y3 hh
        rcases hh with hh | hh
        rotate_left
        · obtain ⟨er, pl, hg, rfl, hs⟩ := hh
          exact ⟨rfl, .no (map_no (dep_no (dep_on HG1.out (dep_no (hg))))) rfl (Save.left HA.out.2.1 (HS.out.trans hs))⟩
        obtain ⟨x3, q3, v3, t3, hg3, rfl, hv, hc, hs⟩ := hh
        obtain rfl : v3 = .bool x3 := hv
        have HS := Lib.hid (HS.out.trans hs)
        have HC := Lib.hid hc
        have HG3 := Lib.hid hg3
        (try have HGB := Lib.hid (And.intro (HGB.out.1.save hs HGB.out.2.1) HGB.out.2))
        refine hK3 _ _ trivial (fun hS3 => ?_)
        clear hg3 hc hs hS1 hK3 K3
        refine held_two (i := 7) (j := 27) (oi := ?oit60) (oj := ?ojt60) (by kernel_rfl) ?ait60 ?ajt60 ?cit60 ?cjt60 (fun K7 hK7 => ?hit60) (fun K27 hK27 => ?hjt60)
        (case ait60 => (simp only [List.getElem?_toArray, List.getElem?_cons_zero, List.getElem?_cons_succ]; rfl))
        (case ajt60 => (simp only [List.getElem?_toArray, List.getElem?_cons_zero, List.getElem?_cons_succ]; rfl))
        (case cit60 => kernel_rfl)
        (case cjt60 => kernel_rfl)
        case hit60 =>
          go_simp
          refine (long_rd HC.out).mono ?_
          intro e y7 hh
          rcases hh with hh | hh
          rotate_left
          · obtain ⟨er, pl, hg, rfl, hs⟩ := hh
            exact ⟨rfl, .no (map_no (dep_no (dep_on HG1.out (dep_on HG3.out (dep_no (hg)))))) rfl (Save.left HA.out.2.1 (HS.out.trans hs))⟩
          obtain ⟨x7, q7, v7, t7, hg7, rfl, hv, hc, hs⟩ := hh
          obtain rfl : v7 = .int .u32 x7 := hv
          have HS := Lib.hid (HS.out.trans hs)
          have HC := Lib.hid hc
          have HG7 := Lib.hid hg7
          (try have HGB := Lib.hid (And.intro (HGB.out.1.save hs HGB.out.2.1) HGB.out.2))
          refine hK7 _ _ trivial (fun hS7 => ?_)
          clear hg7 hc hs hS3 hK7 K7
          refine held_two (i := 11) (j := 27) (oi := ?oit51) (oj := ?ojt51) (by kernel_rfl) ?ait51 ?ajt51 ?cit51 ?cjt51 (fun K11 hK11 => ?hit51) (fun K27 hK27 => ?hjt51)
          (case ait51 => (simp only [List.getElem?_toArray, List.getElem?_cons_zero, List.getElem?_cons_succ]; rfl))
          (case ajt51 => (simp only [List.getElem?_toArray, List.getElem?_cons_zero, List.getElem?_cons_succ]; rfl))
          (case cit51 => kernel_rfl)
          (case cjt51 => kernel_rfl)
          case hit51 =>
            go_simp
            refine (long_rd HC.out).mono ?_
            intro e y11 hh
            rcases hh with hh | hh
            rotate_left
            · obtain ⟨er, pl, hg, rfl, hs⟩ := hh
              exact ⟨rfl, .no (map_no (dep_no (dep_on HG1.out (dep_on HG3.out (dep_on HG7.out (dep_no (hg))))))) rfl (Save.left HA.out.2.1 (HS.out.trans hs))⟩
            obtain ⟨x11, q11, v11, t11, hg11, rfl, hv, hc, hs⟩ := hh
            obtain rfl : v11 = .int .u32 x11 := hv
            have HS := Lib.hid (HS.out.trans hs)
            have HC := Lib.hid hc
            have HG11 := Lib.hid hg11
            (try have HGB := Lib.hid (And.intro (HGB.out.1.save hs HGB.out.2.1) HGB.out.2))
            refine hK11 _ _ trivial (fun hS11 => ?_)
            clear hg11 hc hs hS7 hK11 K11
            refine held_two (i := 15) (j := 27) (oi := ?oit43) (oj := ?ojt43) (by kernel_rfl) ?ait43 ?ajt43 ?cit43 ?cjt43 (fun K15 hK15 => ?hit43) (fun K27 hK27 => ?hjt43)
            (case ait43 => (simp only [List.getElem?_toArray, List.getElem?_cons_zero, List.getElem?_cons_succ]; rfl))
            (case ajt43 => (simp only [List.getElem?_toArray, List.getElem?_cons_zero, List.getElem?_cons_succ]; rfl))
            (case cit43 => kernel_rfl)
            (case cjt43 => kernel_rfl)
            case hit43 =>
              go_simp
              refine (long_rd HC.out).mono ?_
              intro e y15 hh
              rcases hh with hh | hh
              rotate_left
              · obtain ⟨er, pl, hg, rfl, hs⟩ := hh
                exact ⟨rfl, .no (map_no (dep_no (dep_on HG1.out (dep_on HG3.out (dep_on HG7.out (dep_on HG11.out (dep_no (hg)))))))) rfl (Save.left HA.out.2.1 (HS.out.trans hs))⟩
              obtain ⟨x15, q15, v15, t15, hg15, rfl, hv, hc, hs⟩ := hh
              obtain rfl : v15 = .int .u32 x15 := hv
              have HS := Lib.hid (HS.out.trans hs)
              have HC := Lib.hid hc
              have HG15 := Lib.hid hg15
              (try have HGB := Lib.hid (And.intro (HGB.out.1.save hs HGB.out.2.1) HGB.out.2))
              refine hK15 _ _ trivial (fun hS15 => ?_)
              clear hg15 hc hs hS11 hK15 K15
              refine held_two (i := 19) (j := 27) (oi := ?oit36) (oj := ?ojt36) (by kernel_rfl) ?ait36 ?ajt36 ?cit36 ?cjt36 (fun K19 hK19 => ?hit36) (fun K27 hK27 => ?hjt36)
              (case ait36 => (simp only [List.getElem?_toArray, List.getElem?_cons_zero, List.getElem?_cons_succ]; rfl))
              (case ajt36 => (simp only [List.getElem?_toArray, List.getElem?_cons_zero, List.getElem?_cons_succ]; rfl))
              (case cit36 => kernel_rfl)
              (case cjt36 => kernel_rfl)
              case hit36 =>
                go_simp
                refine (wide_rd HC.out).mono ?_
                intro e y19 hh
                rcases hh with hh | hh
                rotate_left
                · obtain ⟨er, pl, hg, rfl, hs⟩ := hh
                  exact ⟨rfl, .no (map_no (dep_no (dep_on HG1.out (dep_on HG3.out (dep_on HG7.out (dep_on HG11.out (dep_on HG15.out (dep_no (hg))))))))) rfl (Save.left HA.out.2.1 (HS.out.trans hs))⟩
                obtain ⟨x19, q19, v19, t19, hg19, rfl, hv, hc, hs⟩ := hh
                obtain rfl : v19 = .int .u64 x19 := hv
                have HS := Lib.hid (HS.out.trans hs)
                have HC := Lib.hid hc
                have HG19 := Lib.hid hg19
                (try have HGB := Lib.hid (And.intro (HGB.out.1.save hs HGB.out.2.1) HGB.out.2))
                refine hK19 _ _ trivial (fun hS19 => ?_)
                clear hg19 hc hs hS15 hK19 K19
                refine held_two (i := 23) (j := 27) (oi := ?oit30) (oj := ?ojt30) (by kernel_rfl) ?ait30 ?ajt30 ?cit30 ?cjt30 (fun K23 hK23 => ?hit30) (fun K27 hK27 => ?hjt30)
                (case ait30 => (simp only [List.getElem?_toArray, List.getElem?_cons_zero, List.getElem?_cons_succ]; rfl))
                (case ajt30 => (simp only [List.getElem?_toArray, List.getElem?_cons_zero, List.getElem?_cons_succ]; rfl))
                (case cit30 => kernel_rfl)
                (case cjt30 => kernel_rfl)
                case hit30 =>
                  go_simp
                  refine (wide_rd HC.out).mono ?_
                  intro e y23 hh
                  rcases hh with hh | hh
                  rotate_left
                  · obtain ⟨er, pl, hg, rfl, hs⟩ := hh
                    exact ⟨rfl, .no (map_no (dep_no (dep_on HG1.out (dep_on HG3.out (dep_on HG7.out (dep_on HG11.out (dep_on HG15.out (dep_on HG19.out (dep_no (hg)))))))))) rfl (Save.left HA.out.2.1 (HS.out.trans hs))⟩
                  obtain ⟨x23, q23, v23, t23, hg23, rfl, hv, hc, hs⟩ := hh
                  obtain rfl : v23 = .int .u64 x23 := hv
                  have HS := Lib.hid (HS.out.trans hs)
                  have HC := Lib.hid hc
                  have HG23 := Lib.hid hg23
                  (try have HGB := Lib.hid (And.intro (HGB.out.1.save hs HGB.out.2.1) HGB.out.2))
                  refine hK23 _ _ trivial (fun hS23 => ?_)
                  clear hg23 hc hs hS19 hK23 K23
                  refine held_two (i := 25) (j := 27) (oi := ?oit25) (oj := ?ojt25) (by kernel_rfl) ?ait25 ?ajt25 ?cit25 ?cjt25 (fun K25 hK25 => ?hit25) (fun K27 hK27 => ?hjt25)
                  (case ait25 => (simp only [List.getElem?_toArray, List.getElem?_cons_zero, List.getElem?_cons_succ]; rfl))
                  (case ajt25 => (simp only [List.getElem?_toArray, List.getElem?_cons_zero, List.getElem?_cons_succ]; rfl))
                  (case cit25 => kernel_rfl)
                  (case cjt25 => kernel_rfl)
                  case hit25 =>
                    go_simp
                    refine (pkey_any HC.out).mono ?_
                    intro e y25 hh
                    rcases hh with hh | hh
                    rotate_left
                    · obtain ⟨er, pl, hg, rfl, hs⟩ := hh
                      exact ⟨rfl, .no (map_no (dep_no (dep_on HG1.out (dep_on HG3.out (dep_on HG7.out (dep_on HG11.out (dep_on HG15.out (dep_on HG19.out (dep_on HG23.out (hg)))))))))) rfl (Save.left HA.out.2.1 (HS.out.trans hs))⟩
                    obtain ⟨x25, q25, v25, t25, hg25, rfl, hv, hc, hs⟩ := hh
                    obtain ⟨hkl, hvk⟩ : x25.length = 68 ∧ v25 = .agg (vec 68 (bys (kF x25))) := hv
                    subst hvk
                    have HKL := Lib.hid hkl
                    have HS := Lib.hid (HS.out.trans hs)
                    have HC := Lib.hid hc
                    have HG25 := Lib.hid hg25
                    (try have HGB := Lib.hid (And.intro (HGB.out.1.save hs HGB.out.2.1) HGB.out.2))
                    refine hK25 _ _ trivial (fun hS25 => ?_)
                    clear hg25 hc hs hS23 hK25 K25
                    (refine held_take (i := 26) (oi := ?ot19) (v := .agg (vec 79 (guestE (headG (x1, x3, x7, x11, x15, x19, x23, x25))))) ?at19 (by kernel_rfl) (by kernel_rfl) (by kernel_rfl) ?bt19 ?ct19 ?dt19 (by assumption) ?rt19; (case at19 => (simp only [List.getElem?_toArray, List.getElem?_cons_zero, List.getElem?_cons_succ]; rfl)); (case bt19 => exact fun _ _ _ h => h); (case ct19 => kernel_rfl); (case dt19 => (intro W _; exact exec_build 64 _ rfl (vec 79 (guestE (headG (x1, x3, x7, x11, x15, x19, x23, x25)))) (by kernel_rfl) W)); (case' rt19 => simp only [Act.put, List.setIfInBounds_toArray, List.set_cons_zero, List.set_cons_succ]))
                    refine held_one (i := 27) (oi := ?ot20) (by kernel_rfl) ?at20 ?ct20 (fun K27 hK27 => ?_)
                    (case at20 => (simp only [List.getElem?_toArray, List.getElem?_cons_zero, List.getElem?_cons_succ]; rfl))
                    (case ct20 => kernel_rfl)
                    go_simp
                    obtain ⟨y27, hy⟩ : ∃ y, y = (y25.alloc (.cells (vec 79 (guestE zGV)) 64)) := ⟨_, rfl⟩
                    have hd : Below y25.heap.size y25 y27 := by rw [hy]; exact (show Below y25.heap.size y25 (y25.alloc (.cells (vec 79 (guestE zGV)) 64)) from (Below.refl _ _).alloc (Nat.le_refl _) _)
                    obtain ⟨r, hr⟩ : ∃ r, r = y25.heap.size := ⟨_, rfl⟩
                    have hga : Arr y27 r 64 79 (guestE zGV) := by rw [hy, hr]; exact Arr.new y25 _ _ _
                    have hgl : w.heap.size < r := by have h1 : V.heap.size ≤ y25.heap.size := HS.out.size; have := HA.out.2.2; omega
                    have hrg : r ≠ g := by have := HGW.out; omega
                    have HGB := Lib.hid (And.intro hga (And.intro hrg hgl))
                    have HC := Lib.hid (HC.out.under hd)
                    have HS := Lib.hid (HS.out.trans (Save.of_below hd))
                    clear hd hgl hga hrg
                    rw [← hy, ← hr]
                    clear hy hr
                    refine hK27 _ _ trivial (fun hS27 => ?_)
                    clear hS25 hK27 K27
                    refine held_one (i := 28) (oi := ?ot21) (by kernel_rfl) ?at21 ?ct21 (fun K28 hK28 => ?_)
                    (case at21 => (simp only [List.getElem?_toArray, List.getElem?_cons_zero, List.getElem?_cons_succ]; rfl))
                    (case ct21 => kernel_rfl)
                    refine ow_store 64 _ _ rfl _ rfl _ rfl (run_store_arr HGB.out.1 (guestE (headG (x1, x3, x7, x11, x15, x19, x23, x25))) infoGu (guestE_one _ (GOwn.head w 0 _).one _)) ?_
                    obtain ⟨X, hX⟩ : ∃ Z, Z = World.setRow y27 r (vec 79 (guestE (headG (x1, x3, x7, x11, x15, x19, x23, x25)))) := ⟨_, rfl⟩
                    have hb2 : Below r y27 X := by rw [hX]; exact below_row (Below.refl _ _) (Nat.le_refl _) _
                    have hGU : GuAt g A c b w X r (headG (x1, x3, x7, x11, x15, x19, x23, x25)) q25 := ⟨by rw [hX]; exact HGB.out.1.row _, (HA.out.1.save HS.out HR.out).below hb2 HGB.out.2.2, ⟨_, HC.out.on hb2 (Nat.lt_trans HGW.out HGB.out.2.2)⟩, (Save.left HA.out.2.1 HS.out).on hb2 (Nat.le_of_lt HGB.out.2.2), HGW.out, HGB.out.2.2, GOwn.head _ _ _⟩
                    have HGU := Lib.hid hGU
                    have HHD := Lib.hid (And.intro (show (ghC kOk).get b q = .ok ((x1, x3, x7, x11, x15, x19, x23, x25), q25) from dep_ye HG1.out (dep_ye HG3.out (dep_ye HG7.out (dep_ye HG11.out (dep_ye HG15.out (dep_ye HG19.out (dep_ye HG23.out (HG25.out)))))))) HKL.out)
                    rw [← hX]
                    clear hX hb2 hGU
                    refine hK28 _ _ trivial (fun hS28 => ?_)
                    clear hS27 hK28 K28
                    refine wpAnyH_done (by kernel_rfl) ?_ _
                    go_wp2_with fail
                    go_meet
                    exact ⟨r, (x1, x3, x7, x11, x15, x19, x23, x25), q25, rfl, HHD, HGU⟩
                  case hjt25 =>
                    go_simp
                    obtain ⟨y27, hy⟩ : ∃ y, y = (y23.alloc (.cells (vec 79 (guestE zGV)) 64)) := ⟨_, rfl⟩
                    have hd : Below y23.heap.size y23 y27 := by rw [hy]; exact (show Below y23.heap.size y23 (y23.alloc (.cells (vec 79 (guestE zGV)) 64)) from (Below.refl _ _).alloc (Nat.le_refl _) _)
                    obtain ⟨r, hr⟩ : ∃ r, r = y23.heap.size := ⟨_, rfl⟩
                    have hga : Arr y27 r 64 79 (guestE zGV) := by rw [hy, hr]; exact Arr.new y23 _ _ _
                    have hgl : w.heap.size < r := by have h1 : V.heap.size ≤ y23.heap.size := HS.out.size; have := HA.out.2.2; omega
                    have hrg : r ≠ g := by have := HGW.out; omega
                    have HGB := Lib.hid (And.intro hga (And.intro hrg hgl))
                    have HC := Lib.hid (HC.out.under hd)
                    have HS := Lib.hid (HS.out.trans (Save.of_below hd))
                    clear hd hgl hga hrg
                    rw [← hy, ← hr]
                    clear hy hr
                    refine hK27 _ _ trivial (fun hS27 => ?_)
                    clear hS23 hK27 K27
                    refine held_one (i := 25) (oi := ?ot22) (by kernel_rfl) ?at22 ?ct22 (fun K25 hK25 => ?_)
                    (case at22 => (simp only [List.getElem?_toArray, List.getElem?_cons_zero, List.getElem?_cons_succ]; rfl))
                    (case ct22 => kernel_rfl)
                    go_simp
                    refine (pkey_any HC.out).mono ?_
                    intro e y25 hh
                    rcases hh with hh | hh
                    rotate_left
                    · obtain ⟨er, pl, hg, rfl, hs⟩ := hh
                      exact ⟨rfl, .no (map_no (dep_no (dep_on HG1.out (dep_on HG3.out (dep_on HG7.out (dep_on HG11.out (dep_on HG15.out (dep_on HG19.out (dep_on HG23.out (hg)))))))))) rfl (Save.left HA.out.2.1 (HS.out.trans hs))⟩
                    obtain ⟨x25, q25, v25, t25, hg25, rfl, hv, hc, hs⟩ := hh
                    obtain ⟨hkl, hvk⟩ : x25.length = 68 ∧ v25 = .agg (vec 68 (bys (kF x25))) := hv
                    subst hvk
                    have HKL := Lib.hid hkl
                    have HS := Lib.hid (HS.out.trans hs)
                    have HC := Lib.hid hc
                    have HG25 := Lib.hid hg25
                    (try have HGB := Lib.hid (And.intro (HGB.out.1.save hs HGB.out.2.1) HGB.out.2))
                    refine hK25 _ _ trivial (fun hS25 => ?_)
                    clear hg25 hc hs hS27 hK25 K25
                    (refine held_take (i := 26) (oi := ?ot23) (v := .agg (vec 79 (guestE (headG (x1, x3, x7, x11, x15, x19, x23, x25))))) ?at23 (by kernel_rfl) (by kernel_rfl) (by kernel_rfl) ?bt23 ?ct23 ?dt23 (by assumption) ?rt23; (case at23 => (simp only [List.getElem?_toArray, List.getElem?_cons_zero, List.getElem?_cons_succ]; rfl)); (case bt23 => exact fun _ _ _ h => h); (case ct23 => kernel_rfl); (case dt23 => (intro W _; exact exec_build 64 _ rfl (vec 79 (guestE (headG (x1, x3, x7, x11, x15, x19, x23, x25)))) (by kernel_rfl) W)); (case' rt23 => simp only [Act.put, List.setIfInBounds_toArray, List.set_cons_zero, List.set_cons_succ]))
                    refine held_one (i := 28) (oi := ?ot24) (by kernel_rfl) ?at24 ?ct24 (fun K28 hK28 => ?_)
                    (case at24 => (simp only [List.getElem?_toArray, List.getElem?_cons_zero, List.getElem?_cons_succ]; rfl))
                    (case ct24 => kernel_rfl)
                    refine ow_store 64 _ _ rfl _ rfl _ rfl (run_store_arr HGB.out.1 (guestE (headG (x1, x3, x7, x11, x15, x19, x23, x25))) infoGu (guestE_one _ (GOwn.head w 0 _).one _)) ?_
                    obtain ⟨X, hX⟩ : ∃ Z, Z = World.setRow y25 r (vec 79 (guestE (headG (x1, x3, x7, x11, x15, x19, x23, x25)))) := ⟨_, rfl⟩
                    have hb2 : Below r y25 X := by rw [hX]; exact below_row (Below.refl _ _) (Nat.le_refl _) _
                    have hGU : GuAt g A c b w X r (headG (x1, x3, x7, x11, x15, x19, x23, x25)) q25 := ⟨by rw [hX]; exact HGB.out.1.row _, (HA.out.1.save HS.out HR.out).below hb2 HGB.out.2.2, ⟨_, HC.out.on hb2 (Nat.lt_trans HGW.out HGB.out.2.2)⟩, (Save.left HA.out.2.1 HS.out).on hb2 (Nat.le_of_lt HGB.out.2.2), HGW.out, HGB.out.2.2, GOwn.head _ _ _⟩
                    have HGU := Lib.hid hGU
                    have HHD := Lib.hid (And.intro (show (ghC kOk).get b q = .ok ((x1, x3, x7, x11, x15, x19, x23, x25), q25) from dep_ye HG1.out (dep_ye HG3.out (dep_ye HG7.out (dep_ye HG11.out (dep_ye HG15.out (dep_ye HG19.out (dep_ye HG23.out (HG25.out)))))))) HKL.out)
                    rw [← hX]
                    clear hX hb2 hGU
                    refine hK28 _ _ trivial (fun hS28 => ?_)
                    clear hS25 hK28 K28
                    refine wpAnyH_done (by kernel_rfl) ?_ _
                    go_wp2_with fail
                    go_meet
                    exact ⟨r, (x1, x3, x7, x11, x15, x19, x23, x25), q25, rfl, HHD, HGU⟩
                case hjt30 =>
                  go_simp
                  obtain ⟨y27, hy⟩ : ∃ y, y = (y19.alloc (.cells (vec 79 (guestE zGV)) 64)) := ⟨_, rfl⟩
                  have hd : Below y19.heap.size y19 y27 := by rw [hy]; exact (show Below y19.heap.size y19 (y19.alloc (.cells (vec 79 (guestE zGV)) 64)) from (Below.refl _ _).alloc (Nat.le_refl _) _)
                  obtain ⟨r, hr⟩ : ∃ r, r = y19.heap.size := ⟨_, rfl⟩
                  have hga : Arr y27 r 64 79 (guestE zGV) := by rw [hy, hr]; exact Arr.new y19 _ _ _
                  have hgl : w.heap.size < r := by have h1 : V.heap.size ≤ y19.heap.size := HS.out.size; have := HA.out.2.2; omega
                  have hrg : r ≠ g := by have := HGW.out; omega
                  have HGB := Lib.hid (And.intro hga (And.intro hrg hgl))
                  have HC := Lib.hid (HC.out.under hd)
                  have HS := Lib.hid (HS.out.trans (Save.of_below hd))
                  clear hd hgl hga hrg
                  rw [← hy, ← hr]
                  clear hy hr
                  refine hK27 _ _ trivial (fun hS27 => ?_)
                  clear hS19 hK27 K27
                  refine held_one (i := 23) (oi := ?ot26) (by kernel_rfl) ?at26 ?ct26 (fun K23 hK23 => ?_)
                  (case at26 => (simp only [List.getElem?_toArray, List.getElem?_cons_zero, List.getElem?_cons_succ]; rfl))
                  (case ct26 => kernel_rfl)
                  go_simp
                  refine (wide_rd HC.out).mono ?_
                  intro e y23 hh
                  rcases hh with hh | hh
                  rotate_left
                  · obtain ⟨er, pl, hg, rfl, hs⟩ := hh
                    exact ⟨rfl, .no (map_no (dep_no (dep_on HG1.out (dep_on HG3.out (dep_on HG7.out (dep_on HG11.out (dep_on HG15.out (dep_on HG19.out (dep_no (hg)))))))))) rfl (Save.left HA.out.2.1 (HS.out.trans hs))⟩
                  obtain ⟨x23, q23, v23, t23, hg23, rfl, hv, hc, hs⟩ := hh
                  obtain rfl : v23 = .int .u64 x23 := hv
                  have HS := Lib.hid (HS.out.trans hs)
                  have HC := Lib.hid hc
                  have HG23 := Lib.hid hg23
                  (try have HGB := Lib.hid (And.intro (HGB.out.1.save hs HGB.out.2.1) HGB.out.2))
                  refine hK23 _ _ trivial (fun hS23 => ?_)
                  clear hg23 hc hs hS27 hK23 K23
                  refine held_one (i := 25) (oi := ?ot27) (by kernel_rfl) ?at27 ?ct27 (fun K25 hK25 => ?_)
                  (case at27 => (simp only [List.getElem?_toArray, List.getElem?_cons_zero, List.getElem?_cons_succ]; rfl))
                  (case ct27 => kernel_rfl)
                  go_simp
                  refine (pkey_any HC.out).mono ?_
                  intro e y25 hh
                  rcases hh with hh | hh
                  rotate_left
                  · obtain ⟨er, pl, hg, rfl, hs⟩ := hh
                    exact ⟨rfl, .no (map_no (dep_no (dep_on HG1.out (dep_on HG3.out (dep_on HG7.out (dep_on HG11.out (dep_on HG15.out (dep_on HG19.out (dep_on HG23.out (hg)))))))))) rfl (Save.left HA.out.2.1 (HS.out.trans hs))⟩
                  obtain ⟨x25, q25, v25, t25, hg25, rfl, hv, hc, hs⟩ := hh
                  obtain ⟨hkl, hvk⟩ : x25.length = 68 ∧ v25 = .agg (vec 68 (bys (kF x25))) := hv
                  subst hvk
                  have HKL := Lib.hid hkl
                  have HS := Lib.hid (HS.out.trans hs)
                  have HC := Lib.hid hc
                  have HG25 := Lib.hid hg25
                  (try have HGB := Lib.hid (And.intro (HGB.out.1.save hs HGB.out.2.1) HGB.out.2))
                  refine hK25 _ _ trivial (fun hS25 => ?_)
                  clear hg25 hc hs hS23 hK25 K25
                  (refine held_take (i := 26) (oi := ?ot28) (v := .agg (vec 79 (guestE (headG (x1, x3, x7, x11, x15, x19, x23, x25))))) ?at28 (by kernel_rfl) (by kernel_rfl) (by kernel_rfl) ?bt28 ?ct28 ?dt28 (by assumption) ?rt28; (case at28 => (simp only [List.getElem?_toArray, List.getElem?_cons_zero, List.getElem?_cons_succ]; rfl)); (case bt28 => exact fun _ _ _ h => h); (case ct28 => kernel_rfl); (case dt28 => (intro W _; exact exec_build 64 _ rfl (vec 79 (guestE (headG (x1, x3, x7, x11, x15, x19, x23, x25)))) (by kernel_rfl) W)); (case' rt28 => simp only [Act.put, List.setIfInBounds_toArray, List.set_cons_zero, List.set_cons_succ]))
                  refine held_one (i := 28) (oi := ?ot29) (by kernel_rfl) ?at29 ?ct29 (fun K28 hK28 => ?_)
                  (case at29 => (simp only [List.getElem?_toArray, List.getElem?_cons_zero, List.getElem?_cons_succ]; rfl))
                  (case ct29 => kernel_rfl)
                  refine ow_store 64 _ _ rfl _ rfl _ rfl (run_store_arr HGB.out.1 (guestE (headG (x1, x3, x7, x11, x15, x19, x23, x25))) infoGu (guestE_one _ (GOwn.head w 0 _).one _)) ?_
                  obtain ⟨X, hX⟩ : ∃ Z, Z = World.setRow y25 r (vec 79 (guestE (headG (x1, x3, x7, x11, x15, x19, x23, x25)))) := ⟨_, rfl⟩
                  have hb2 : Below r y25 X := by rw [hX]; exact below_row (Below.refl _ _) (Nat.le_refl _) _
                  have hGU : GuAt g A c b w X r (headG (x1, x3, x7, x11, x15, x19, x23, x25)) q25 := ⟨by rw [hX]; exact HGB.out.1.row _, (HA.out.1.save HS.out HR.out).below hb2 HGB.out.2.2, ⟨_, HC.out.on hb2 (Nat.lt_trans HGW.out HGB.out.2.2)⟩, (Save.left HA.out.2.1 HS.out).on hb2 (Nat.le_of_lt HGB.out.2.2), HGW.out, HGB.out.2.2, GOwn.head _ _ _⟩
                  have HGU := Lib.hid hGU
                  have HHD := Lib.hid (And.intro (show (ghC kOk).get b q = .ok ((x1, x3, x7, x11, x15, x19, x23, x25), q25) from dep_ye HG1.out (dep_ye HG3.out (dep_ye HG7.out (dep_ye HG11.out (dep_ye HG15.out (dep_ye HG19.out (dep_ye HG23.out (HG25.out)))))))) HKL.out)
                  rw [← hX]
                  clear hX hb2 hGU
                  refine hK28 _ _ trivial (fun hS28 => ?_)
                  clear hS25 hK28 K28
                  refine wpAnyH_done (by kernel_rfl) ?_ _
                  go_wp2_with fail
                  go_meet
                  exact ⟨r, (x1, x3, x7, x11, x15, x19, x23, x25), q25, rfl, HHD, HGU⟩
              case hjt36 =>
                go_simp
                obtain ⟨y27, hy⟩ : ∃ y, y = (y15.alloc (.cells (vec 79 (guestE zGV)) 64)) := ⟨_, rfl⟩
                have hd : Below y15.heap.size y15 y27 := by rw [hy]; exact (show Below y15.heap.size y15 (y15.alloc (.cells (vec 79 (guestE zGV)) 64)) from (Below.refl _ _).alloc (Nat.le_refl _) _)
                obtain ⟨r, hr⟩ : ∃ r, r = y15.heap.size := ⟨_, rfl⟩
                have hga : Arr y27 r 64 79 (guestE zGV) := by rw [hy, hr]; exact Arr.new y15 _ _ _
                have hgl : w.heap.size < r := by have h1 : V.heap.size ≤ y15.heap.size := HS.out.size; have := HA.out.2.2; omega
                have hrg : r ≠ g := by have := HGW.out; omega
                have HGB := Lib.hid (And.intro hga (And.intro hrg hgl))
                have HC := Lib.hid (HC.out.under hd)
                have HS := Lib.hid (HS.out.trans (Save.of_below hd))
                clear hd hgl hga hrg
                rw [← hy, ← hr]
                clear hy hr
                refine hK27 _ _ trivial (fun hS27 => ?_)
                clear hS15 hK27 K27
                refine held_one (i := 19) (oi := ?ot31) (by kernel_rfl) ?at31 ?ct31 (fun K19 hK19 => ?_)
                (case at31 => (simp only [List.getElem?_toArray, List.getElem?_cons_zero, List.getElem?_cons_succ]; rfl))
                (case ct31 => kernel_rfl)
                go_simp
                refine (wide_rd HC.out).mono ?_
                intro e y19 hh
                rcases hh with hh | hh
                rotate_left
                · obtain ⟨er, pl, hg, rfl, hs⟩ := hh
                  exact ⟨rfl, .no (map_no (dep_no (dep_on HG1.out (dep_on HG3.out (dep_on HG7.out (dep_on HG11.out (dep_on HG15.out (dep_no (hg))))))))) rfl (Save.left HA.out.2.1 (HS.out.trans hs))⟩
                obtain ⟨x19, q19, v19, t19, hg19, rfl, hv, hc, hs⟩ := hh
                obtain rfl : v19 = .int .u64 x19 := hv
                have HS := Lib.hid (HS.out.trans hs)
                have HC := Lib.hid hc
                have HG19 := Lib.hid hg19
                (try have HGB := Lib.hid (And.intro (HGB.out.1.save hs HGB.out.2.1) HGB.out.2))
                refine hK19 _ _ trivial (fun hS19 => ?_)
                clear hg19 hc hs hS27 hK19 K19
                refine held_one (i := 23) (oi := ?ot32) (by kernel_rfl) ?at32 ?ct32 (fun K23 hK23 => ?_)
                (case at32 => (simp only [List.getElem?_toArray, List.getElem?_cons_zero, List.getElem?_cons_succ]; rfl))
                (case ct32 => kernel_rfl)
                go_simp
                refine (wide_rd HC.out).mono ?_
                intro e y23 hh
                rcases hh with hh | hh
                rotate_left
                · obtain ⟨er, pl, hg, rfl, hs⟩ := hh
                  exact ⟨rfl, .no (map_no (dep_no (dep_on HG1.out (dep_on HG3.out (dep_on HG7.out (dep_on HG11.out (dep_on HG15.out (dep_on HG19.out (dep_no (hg)))))))))) rfl (Save.left HA.out.2.1 (HS.out.trans hs))⟩
                obtain ⟨x23, q23, v23, t23, hg23, rfl, hv, hc, hs⟩ := hh
                obtain rfl : v23 = .int .u64 x23 := hv
                have HS := Lib.hid (HS.out.trans hs)
                have HC := Lib.hid hc
                have HG23 := Lib.hid hg23
                (try have HGB := Lib.hid (And.intro (HGB.out.1.save hs HGB.out.2.1) HGB.out.2))
                refine hK23 _ _ trivial (fun hS23 => ?_)
                clear hg23 hc hs hS19 hK23 K23
                refine held_one (i := 25) (oi := ?ot33) (by kernel_rfl) ?at33 ?ct33 (fun K25 hK25 => ?_)
                (case at33 => (simp only [List.getElem?_toArray, List.getElem?_cons_zero, List.getElem?_cons_succ]; rfl))
                (case ct33 => kernel_rfl)
                go_simp
                refine (pkey_any HC.out).mono ?_
                intro e y25 hh
                rcases hh with hh | hh
                rotate_left
                · obtain ⟨er, pl, hg, rfl, hs⟩ := hh
                  exact ⟨rfl, .no (map_no (dep_no (dep_on HG1.out (dep_on HG3.out (dep_on HG7.out (dep_on HG11.out (dep_on HG15.out (dep_on HG19.out (dep_on HG23.out (hg)))))))))) rfl (Save.left HA.out.2.1 (HS.out.trans hs))⟩
                obtain ⟨x25, q25, v25, t25, hg25, rfl, hv, hc, hs⟩ := hh
                obtain ⟨hkl, hvk⟩ : x25.length = 68 ∧ v25 = .agg (vec 68 (bys (kF x25))) := hv
                subst hvk
                have HKL := Lib.hid hkl
                have HS := Lib.hid (HS.out.trans hs)
                have HC := Lib.hid hc
                have HG25 := Lib.hid hg25
                (try have HGB := Lib.hid (And.intro (HGB.out.1.save hs HGB.out.2.1) HGB.out.2))
                refine hK25 _ _ trivial (fun hS25 => ?_)
                clear hg25 hc hs hS23 hK25 K25
                (refine held_take (i := 26) (oi := ?ot34) (v := .agg (vec 79 (guestE (headG (x1, x3, x7, x11, x15, x19, x23, x25))))) ?at34 (by kernel_rfl) (by kernel_rfl) (by kernel_rfl) ?bt34 ?ct34 ?dt34 (by assumption) ?rt34; (case at34 => (simp only [List.getElem?_toArray, List.getElem?_cons_zero, List.getElem?_cons_succ]; rfl)); (case bt34 => exact fun _ _ _ h => h); (case ct34 => kernel_rfl); (case dt34 => (intro W _; exact exec_build 64 _ rfl (vec 79 (guestE (headG (x1, x3, x7, x11, x15, x19, x23, x25)))) (by kernel_rfl) W)); (case' rt34 => simp only [Act.put, List.setIfInBounds_toArray, List.set_cons_zero, List.set_cons_succ]))
                refine held_one (i := 28) (oi := ?ot35) (by kernel_rfl) ?at35 ?ct35 (fun K28 hK28 => ?_)
                (case at35 => (simp only [List.getElem?_toArray, List.getElem?_cons_zero, List.getElem?_cons_succ]; rfl))
                (case ct35 => kernel_rfl)
                refine ow_store 64 _ _ rfl _ rfl _ rfl (run_store_arr HGB.out.1 (guestE (headG (x1, x3, x7, x11, x15, x19, x23, x25))) infoGu (guestE_one _ (GOwn.head w 0 _).one _)) ?_
                obtain ⟨X, hX⟩ : ∃ Z, Z = World.setRow y25 r (vec 79 (guestE (headG (x1, x3, x7, x11, x15, x19, x23, x25)))) := ⟨_, rfl⟩
                have hb2 : Below r y25 X := by rw [hX]; exact below_row (Below.refl _ _) (Nat.le_refl _) _
                have hGU : GuAt g A c b w X r (headG (x1, x3, x7, x11, x15, x19, x23, x25)) q25 := ⟨by rw [hX]; exact HGB.out.1.row _, (HA.out.1.save HS.out HR.out).below hb2 HGB.out.2.2, ⟨_, HC.out.on hb2 (Nat.lt_trans HGW.out HGB.out.2.2)⟩, (Save.left HA.out.2.1 HS.out).on hb2 (Nat.le_of_lt HGB.out.2.2), HGW.out, HGB.out.2.2, GOwn.head _ _ _⟩
                have HGU := Lib.hid hGU
                have HHD := Lib.hid (And.intro (show (ghC kOk).get b q = .ok ((x1, x3, x7, x11, x15, x19, x23, x25), q25) from dep_ye HG1.out (dep_ye HG3.out (dep_ye HG7.out (dep_ye HG11.out (dep_ye HG15.out (dep_ye HG19.out (dep_ye HG23.out (HG25.out)))))))) HKL.out)
                rw [← hX]
                clear hX hb2 hGU
                refine hK28 _ _ trivial (fun hS28 => ?_)
                clear hS25 hK28 K28
                refine wpAnyH_done (by kernel_rfl) ?_ _
                go_wp2_with fail
                go_meet
                exact ⟨r, (x1, x3, x7, x11, x15, x19, x23, x25), q25, rfl, HHD, HGU⟩
            case hjt43 =>
              go_simp
              obtain ⟨y27, hy⟩ : ∃ y, y = (y11.alloc (.cells (vec 79 (guestE zGV)) 64)) := ⟨_, rfl⟩
              have hd : Below y11.heap.size y11 y27 := by rw [hy]; exact (show Below y11.heap.size y11 (y11.alloc (.cells (vec 79 (guestE zGV)) 64)) from (Below.refl _ _).alloc (Nat.le_refl _) _)
              obtain ⟨r, hr⟩ : ∃ r, r = y11.heap.size := ⟨_, rfl⟩
              have hga : Arr y27 r 64 79 (guestE zGV) := by rw [hy, hr]; exact Arr.new y11 _ _ _
              have hgl : w.heap.size < r := by have h1 : V.heap.size ≤ y11.heap.size := HS.out.size; have := HA.out.2.2; omega
              have hrg : r ≠ g := by have := HGW.out; omega
              have HGB := Lib.hid (And.intro hga (And.intro hrg hgl))
              have HC := Lib.hid (HC.out.under hd)
              have HS := Lib.hid (HS.out.trans (Save.of_below hd))
              clear hd hgl hga hrg
              rw [← hy, ← hr]
              clear hy hr
              refine hK27 _ _ trivial (fun hS27 => ?_)
              clear hS11 hK27 K27
              refine held_one (i := 15) (oi := ?ot37) (by kernel_rfl) ?at37 ?ct37 (fun K15 hK15 => ?_)
              (case at37 => (simp only [List.getElem?_toArray, List.getElem?_cons_zero, List.getElem?_cons_succ]; rfl))
              (case ct37 => kernel_rfl)
              go_simp
              refine (long_rd HC.out).mono ?_
              intro e y15 hh
              rcases hh with hh | hh
              rotate_left
              · obtain ⟨er, pl, hg, rfl, hs⟩ := hh
                exact ⟨rfl, .no (map_no (dep_no (dep_on HG1.out (dep_on HG3.out (dep_on HG7.out (dep_on HG11.out (dep_no (hg)))))))) rfl (Save.left HA.out.2.1 (HS.out.trans hs))⟩
              obtain ⟨x15, q15, v15, t15, hg15, rfl, hv, hc, hs⟩ := hh
              obtain rfl : v15 = .int .u32 x15 := hv
              have HS := Lib.hid (HS.out.trans hs)
              have HC := Lib.hid hc
              have HG15 := Lib.hid hg15
              (try have HGB := Lib.hid (And.intro (HGB.out.1.save hs HGB.out.2.1) HGB.out.2))
              refine hK15 _ _ trivial (fun hS15 => ?_)
              clear hg15 hc hs hS27 hK15 K15
              refine held_one (i := 19) (oi := ?ot38) (by kernel_rfl) ?at38 ?ct38 (fun K19 hK19 => ?_)
              (case at38 => (simp only [List.getElem?_toArray, List.getElem?_cons_zero, List.getElem?_cons_succ]; rfl))
              (case ct38 => kernel_rfl)
              go_simp
              refine (wide_rd HC.out).mono ?_
              intro e y19 hh
              rcases hh with hh | hh
              rotate_left
              · obtain ⟨er, pl, hg, rfl, hs⟩ := hh
                exact ⟨rfl, .no (map_no (dep_no (dep_on HG1.out (dep_on HG3.out (dep_on HG7.out (dep_on HG11.out (dep_on HG15.out (dep_no (hg))))))))) rfl (Save.left HA.out.2.1 (HS.out.trans hs))⟩
              obtain ⟨x19, q19, v19, t19, hg19, rfl, hv, hc, hs⟩ := hh
              obtain rfl : v19 = .int .u64 x19 := hv
              have HS := Lib.hid (HS.out.trans hs)
              have HC := Lib.hid hc
              have HG19 := Lib.hid hg19
              (try have HGB := Lib.hid (And.intro (HGB.out.1.save hs HGB.out.2.1) HGB.out.2))
              refine hK19 _ _ trivial (fun hS19 => ?_)
              clear hg19 hc hs hS15 hK19 K19
              refine held_one (i := 23) (oi := ?ot39) (by kernel_rfl) ?at39 ?ct39 (fun K23 hK23 => ?_)
              (case at39 => (simp only [List.getElem?_toArray, List.getElem?_cons_zero, List.getElem?_cons_succ]; rfl))
              (case ct39 => kernel_rfl)
              go_simp
              refine (wide_rd HC.out).mono ?_
              intro e y23 hh
              rcases hh with hh | hh
              rotate_left
              · obtain ⟨er, pl, hg, rfl, hs⟩ := hh
                exact ⟨rfl, .no (map_no (dep_no (dep_on HG1.out (dep_on HG3.out (dep_on HG7.out (dep_on HG11.out (dep_on HG15.out (dep_on HG19.out (dep_no (hg)))))))))) rfl (Save.left HA.out.2.1 (HS.out.trans hs))⟩
              obtain ⟨x23, q23, v23, t23, hg23, rfl, hv, hc, hs⟩ := hh
              obtain rfl : v23 = .int .u64 x23 := hv
              have HS := Lib.hid (HS.out.trans hs)
              have HC := Lib.hid hc
              have HG23 := Lib.hid hg23
              (try have HGB := Lib.hid (And.intro (HGB.out.1.save hs HGB.out.2.1) HGB.out.2))
              refine hK23 _ _ trivial (fun hS23 => ?_)
              clear hg23 hc hs hS19 hK23 K23
              refine held_one (i := 25) (oi := ?ot40) (by kernel_rfl) ?at40 ?ct40 (fun K25 hK25 => ?_)
              (case at40 => (simp only [List.getElem?_toArray, List.getElem?_cons_zero, List.getElem?_cons_succ]; rfl))
              (case ct40 => kernel_rfl)
              go_simp
              refine (pkey_any HC.out).mono ?_
              intro e y25 hh
              rcases hh with hh | hh
              rotate_left
              · obtain ⟨er, pl, hg, rfl, hs⟩ := hh
                exact ⟨rfl, .no (map_no (dep_no (dep_on HG1.out (dep_on HG3.out (dep_on HG7.out (dep_on HG11.out (dep_on HG15.out (dep_on HG19.out (dep_on HG23.out (hg)))))))))) rfl (Save.left HA.out.2.1 (HS.out.trans hs))⟩
              obtain ⟨x25, q25, v25, t25, hg25, rfl, hv, hc, hs⟩ := hh
              obtain ⟨hkl, hvk⟩ : x25.length = 68 ∧ v25 = .agg (vec 68 (bys (kF x25))) := hv
              subst hvk
              have HKL := Lib.hid hkl
              have HS := Lib.hid (HS.out.trans hs)
              have HC := Lib.hid hc
              have HG25 := Lib.hid hg25
              (try have HGB := Lib.hid (And.intro (HGB.out.1.save hs HGB.out.2.1) HGB.out.2))
              refine hK25 _ _ trivial (fun hS25 => ?_)
              clear hg25 hc hs hS23 hK25 K25
              (refine held_take (i := 26) (oi := ?ot41) (v := .agg (vec 79 (guestE (headG (x1, x3, x7, x11, x15, x19, x23, x25))))) ?at41 (by kernel_rfl) (by kernel_rfl) (by kernel_rfl) ?bt41 ?ct41 ?dt41 (by assumption) ?rt41; (case at41 => (simp only [List.getElem?_toArray, List.getElem?_cons_zero, List.getElem?_cons_succ]; rfl)); (case bt41 => exact fun _ _ _ h => h); (case ct41 => kernel_rfl); (case dt41 => (intro W _; exact exec_build 64 _ rfl (vec 79 (guestE (headG (x1, x3, x7, x11, x15, x19, x23, x25)))) (by kernel_rfl) W)); (case' rt41 => simp only [Act.put, List.setIfInBounds_toArray, List.set_cons_zero, List.set_cons_succ]))
              refine held_one (i := 28) (oi := ?ot42) (by kernel_rfl) ?at42 ?ct42 (fun K28 hK28 => ?_)
              (case at42 => (simp only [List.getElem?_toArray, List.getElem?_cons_zero, List.getElem?_cons_succ]; rfl))
              (case ct42 => kernel_rfl)
              refine ow_store 64 _ _ rfl _ rfl _ rfl (run_store_arr HGB.out.1 (guestE (headG (x1, x3, x7, x11, x15, x19, x23, x25))) infoGu (guestE_one _ (GOwn.head w 0 _).one _)) ?_
              obtain ⟨X, hX⟩ : ∃ Z, Z = World.setRow y25 r (vec 79 (guestE (headG (x1, x3, x7, x11, x15, x19, x23, x25)))) := ⟨_, rfl⟩
              have hb2 : Below r y25 X := by rw [hX]; exact below_row (Below.refl _ _) (Nat.le_refl _) _
              have hGU : GuAt g A c b w X r (headG (x1, x3, x7, x11, x15, x19, x23, x25)) q25 := ⟨by rw [hX]; exact HGB.out.1.row _, (HA.out.1.save HS.out HR.out).below hb2 HGB.out.2.2, ⟨_, HC.out.on hb2 (Nat.lt_trans HGW.out HGB.out.2.2)⟩, (Save.left HA.out.2.1 HS.out).on hb2 (Nat.le_of_lt HGB.out.2.2), HGW.out, HGB.out.2.2, GOwn.head _ _ _⟩
              have HGU := Lib.hid hGU
              have HHD := Lib.hid (And.intro (show (ghC kOk).get b q = .ok ((x1, x3, x7, x11, x15, x19, x23, x25), q25) from dep_ye HG1.out (dep_ye HG3.out (dep_ye HG7.out (dep_ye HG11.out (dep_ye HG15.out (dep_ye HG19.out (dep_ye HG23.out (HG25.out)))))))) HKL.out)
              rw [← hX]
              clear hX hb2 hGU
              refine hK28 _ _ trivial (fun hS28 => ?_)
              clear hS25 hK28 K28
              refine wpAnyH_done (by kernel_rfl) ?_ _
              go_wp2_with fail
              go_meet
              exact ⟨r, (x1, x3, x7, x11, x15, x19, x23, x25), q25, rfl, HHD, HGU⟩
          case hjt51 =>
            go_simp
            obtain ⟨y27, hy⟩ : ∃ y, y = (y7.alloc (.cells (vec 79 (guestE zGV)) 64)) := ⟨_, rfl⟩
            have hd : Below y7.heap.size y7 y27 := by rw [hy]; exact (show Below y7.heap.size y7 (y7.alloc (.cells (vec 79 (guestE zGV)) 64)) from (Below.refl _ _).alloc (Nat.le_refl _) _)
            obtain ⟨r, hr⟩ : ∃ r, r = y7.heap.size := ⟨_, rfl⟩
            have hga : Arr y27 r 64 79 (guestE zGV) := by rw [hy, hr]; exact Arr.new y7 _ _ _
            have hgl : w.heap.size < r := by have h1 : V.heap.size ≤ y7.heap.size := HS.out.size; have := HA.out.2.2; omega
            have hrg : r ≠ g := by have := HGW.out; omega
            have HGB := Lib.hid (And.intro hga (And.intro hrg hgl))
            have HC := Lib.hid (HC.out.under hd)
            have HS := Lib.hid (HS.out.trans (Save.of_below hd))
            clear hd hgl hga hrg
            rw [← hy, ← hr]
            clear hy hr
            refine hK27 _ _ trivial (fun hS27 => ?_)
            clear hS7 hK27 K27
            refine held_one (i := 11) (oi := ?ot44) (by kernel_rfl) ?at44 ?ct44 (fun K11 hK11 => ?_)
            (case at44 => (simp only [List.getElem?_toArray, List.getElem?_cons_zero, List.getElem?_cons_succ]; rfl))
            (case ct44 => kernel_rfl)
            go_simp
            refine (long_rd HC.out).mono ?_
            intro e y11 hh
            rcases hh with hh | hh
            rotate_left
            · obtain ⟨er, pl, hg, rfl, hs⟩ := hh
              exact ⟨rfl, .no (map_no (dep_no (dep_on HG1.out (dep_on HG3.out (dep_on HG7.out (dep_no (hg))))))) rfl (Save.left HA.out.2.1 (HS.out.trans hs))⟩
            obtain ⟨x11, q11, v11, t11, hg11, rfl, hv, hc, hs⟩ := hh
            obtain rfl : v11 = .int .u32 x11 := hv
            have HS := Lib.hid (HS.out.trans hs)
            have HC := Lib.hid hc
            have HG11 := Lib.hid hg11
            (try have HGB := Lib.hid (And.intro (HGB.out.1.save hs HGB.out.2.1) HGB.out.2))
            refine hK11 _ _ trivial (fun hS11 => ?_)
            clear hg11 hc hs hS27 hK11 K11
            refine held_one (i := 15) (oi := ?ot45) (by kernel_rfl) ?at45 ?ct45 (fun K15 hK15 => ?_)
            (case at45 => (simp only [List.getElem?_toArray, List.getElem?_cons_zero, List.getElem?_cons_succ]; rfl))
            (case ct45 => kernel_rfl)
            go_simp
            refine (long_rd HC.out).mono ?_
            intro e y15 hh
            rcases hh with hh | hh
            rotate_left
            · obtain ⟨er, pl, hg, rfl, hs⟩ := hh
              exact ⟨rfl, .no (map_no (dep_no (dep_on HG1.out (dep_on HG3.out (dep_on HG7.out (dep_on HG11.out (dep_no (hg)))))))) rfl (Save.left HA.out.2.1 (HS.out.trans hs))⟩
            obtain ⟨x15, q15, v15, t15, hg15, rfl, hv, hc, hs⟩ := hh
            obtain rfl : v15 = .int .u32 x15 := hv
            have HS := Lib.hid (HS.out.trans hs)
            have HC := Lib.hid hc
            have HG15 := Lib.hid hg15
            (try have HGB := Lib.hid (And.intro (HGB.out.1.save hs HGB.out.2.1) HGB.out.2))
            refine hK15 _ _ trivial (fun hS15 => ?_)
            clear hg15 hc hs hS11 hK15 K15
            refine held_one (i := 19) (oi := ?ot46) (by kernel_rfl) ?at46 ?ct46 (fun K19 hK19 => ?_)
            (case at46 => (simp only [List.getElem?_toArray, List.getElem?_cons_zero, List.getElem?_cons_succ]; rfl))
            (case ct46 => kernel_rfl)
            go_simp
            refine (wide_rd HC.out).mono ?_
            intro e y19 hh
            rcases hh with hh | hh
            rotate_left
            · obtain ⟨er, pl, hg, rfl, hs⟩ := hh
              exact ⟨rfl, .no (map_no (dep_no (dep_on HG1.out (dep_on HG3.out (dep_on HG7.out (dep_on HG11.out (dep_on HG15.out (dep_no (hg))))))))) rfl (Save.left HA.out.2.1 (HS.out.trans hs))⟩
            obtain ⟨x19, q19, v19, t19, hg19, rfl, hv, hc, hs⟩ := hh
            obtain rfl : v19 = .int .u64 x19 := hv
            have HS := Lib.hid (HS.out.trans hs)
            have HC := Lib.hid hc
            have HG19 := Lib.hid hg19
            (try have HGB := Lib.hid (And.intro (HGB.out.1.save hs HGB.out.2.1) HGB.out.2))
            refine hK19 _ _ trivial (fun hS19 => ?_)
            clear hg19 hc hs hS15 hK19 K19
            refine held_one (i := 23) (oi := ?ot47) (by kernel_rfl) ?at47 ?ct47 (fun K23 hK23 => ?_)
            (case at47 => (simp only [List.getElem?_toArray, List.getElem?_cons_zero, List.getElem?_cons_succ]; rfl))
            (case ct47 => kernel_rfl)
            go_simp
            refine (wide_rd HC.out).mono ?_
            intro e y23 hh
            rcases hh with hh | hh
            rotate_left
            · obtain ⟨er, pl, hg, rfl, hs⟩ := hh
              exact ⟨rfl, .no (map_no (dep_no (dep_on HG1.out (dep_on HG3.out (dep_on HG7.out (dep_on HG11.out (dep_on HG15.out (dep_on HG19.out (dep_no (hg)))))))))) rfl (Save.left HA.out.2.1 (HS.out.trans hs))⟩
            obtain ⟨x23, q23, v23, t23, hg23, rfl, hv, hc, hs⟩ := hh
            obtain rfl : v23 = .int .u64 x23 := hv
            have HS := Lib.hid (HS.out.trans hs)
            have HC := Lib.hid hc
            have HG23 := Lib.hid hg23
            (try have HGB := Lib.hid (And.intro (HGB.out.1.save hs HGB.out.2.1) HGB.out.2))
            refine hK23 _ _ trivial (fun hS23 => ?_)
            clear hg23 hc hs hS19 hK23 K23
            refine held_one (i := 25) (oi := ?ot48) (by kernel_rfl) ?at48 ?ct48 (fun K25 hK25 => ?_)
            (case at48 => (simp only [List.getElem?_toArray, List.getElem?_cons_zero, List.getElem?_cons_succ]; rfl))
            (case ct48 => kernel_rfl)
            go_simp
            refine (pkey_any HC.out).mono ?_
            intro e y25 hh
            rcases hh with hh | hh
            rotate_left
            · obtain ⟨er, pl, hg, rfl, hs⟩ := hh
              exact ⟨rfl, .no (map_no (dep_no (dep_on HG1.out (dep_on HG3.out (dep_on HG7.out (dep_on HG11.out (dep_on HG15.out (dep_on HG19.out (dep_on HG23.out (hg)))))))))) rfl (Save.left HA.out.2.1 (HS.out.trans hs))⟩
            obtain ⟨x25, q25, v25, t25, hg25, rfl, hv, hc, hs⟩ := hh
            obtain ⟨hkl, hvk⟩ : x25.length = 68 ∧ v25 = .agg (vec 68 (bys (kF x25))) := hv
            subst hvk
            have HKL := Lib.hid hkl
            have HS := Lib.hid (HS.out.trans hs)
            have HC := Lib.hid hc
            have HG25 := Lib.hid hg25
            (try have HGB := Lib.hid (And.intro (HGB.out.1.save hs HGB.out.2.1) HGB.out.2))
            refine hK25 _ _ trivial (fun hS25 => ?_)
            clear hg25 hc hs hS23 hK25 K25
            (refine held_take (i := 26) (oi := ?ot49) (v := .agg (vec 79 (guestE (headG (x1, x3, x7, x11, x15, x19, x23, x25))))) ?at49 (by kernel_rfl) (by kernel_rfl) (by kernel_rfl) ?bt49 ?ct49 ?dt49 (by assumption) ?rt49; (case at49 => (simp only [List.getElem?_toArray, List.getElem?_cons_zero, List.getElem?_cons_succ]; rfl)); (case bt49 => exact fun _ _ _ h => h); (case ct49 => kernel_rfl); (case dt49 => (intro W _; exact exec_build 64 _ rfl (vec 79 (guestE (headG (x1, x3, x7, x11, x15, x19, x23, x25)))) (by kernel_rfl) W)); (case' rt49 => simp only [Act.put, List.setIfInBounds_toArray, List.set_cons_zero, List.set_cons_succ]))
            refine held_one (i := 28) (oi := ?ot50) (by kernel_rfl) ?at50 ?ct50 (fun K28 hK28 => ?_)
            (case at50 => (simp only [List.getElem?_toArray, List.getElem?_cons_zero, List.getElem?_cons_succ]; rfl))
            (case ct50 => kernel_rfl)
            refine ow_store 64 _ _ rfl _ rfl _ rfl (run_store_arr HGB.out.1 (guestE (headG (x1, x3, x7, x11, x15, x19, x23, x25))) infoGu (guestE_one _ (GOwn.head w 0 _).one _)) ?_
            obtain ⟨X, hX⟩ : ∃ Z, Z = World.setRow y25 r (vec 79 (guestE (headG (x1, x3, x7, x11, x15, x19, x23, x25)))) := ⟨_, rfl⟩
            have hb2 : Below r y25 X := by rw [hX]; exact below_row (Below.refl _ _) (Nat.le_refl _) _
            have hGU : GuAt g A c b w X r (headG (x1, x3, x7, x11, x15, x19, x23, x25)) q25 := ⟨by rw [hX]; exact HGB.out.1.row _, (HA.out.1.save HS.out HR.out).below hb2 HGB.out.2.2, ⟨_, HC.out.on hb2 (Nat.lt_trans HGW.out HGB.out.2.2)⟩, (Save.left HA.out.2.1 HS.out).on hb2 (Nat.le_of_lt HGB.out.2.2), HGW.out, HGB.out.2.2, GOwn.head _ _ _⟩
            have HGU := Lib.hid hGU
            have HHD := Lib.hid (And.intro (show (ghC kOk).get b q = .ok ((x1, x3, x7, x11, x15, x19, x23, x25), q25) from dep_ye HG1.out (dep_ye HG3.out (dep_ye HG7.out (dep_ye HG11.out (dep_ye HG15.out (dep_ye HG19.out (dep_ye HG23.out (HG25.out)))))))) HKL.out)
            rw [← hX]
            clear hX hb2 hGU
            refine hK28 _ _ trivial (fun hS28 => ?_)
            clear hS25 hK28 K28
            refine wpAnyH_done (by kernel_rfl) ?_ _
            go_wp2_with fail
            go_meet
            exact ⟨r, (x1, x3, x7, x11, x15, x19, x23, x25), q25, rfl, HHD, HGU⟩
        case hjt60 =>
          go_simp
          obtain ⟨y27, hy⟩ : ∃ y, y = (y3.alloc (.cells (vec 79 (guestE zGV)) 64)) := ⟨_, rfl⟩
          have hd : Below y3.heap.size y3 y27 := by rw [hy]; exact (show Below y3.heap.size y3 (y3.alloc (.cells (vec 79 (guestE zGV)) 64)) from (Below.refl _ _).alloc (Nat.le_refl _) _)
          obtain ⟨r, hr⟩ : ∃ r, r = y3.heap.size := ⟨_, rfl⟩
          have hga : Arr y27 r 64 79 (guestE zGV) := by rw [hy, hr]; exact Arr.new y3 _ _ _
          have hgl : w.heap.size < r := by have h1 : V.heap.size ≤ y3.heap.size := HS.out.size; have := HA.out.2.2; omega
          have hrg : r ≠ g := by have := HGW.out; omega
          have HGB := Lib.hid (And.intro hga (And.intro hrg hgl))
          have HC := Lib.hid (HC.out.under hd)
          have HS := Lib.hid (HS.out.trans (Save.of_below hd))
          clear hd hgl hga hrg
          rw [← hy, ← hr]
          clear hy hr
          refine hK27 _ _ trivial (fun hS27 => ?_)
          clear hS3 hK27 K27
          refine held_one (i := 7) (oi := ?ot52) (by kernel_rfl) ?at52 ?ct52 (fun K7 hK7 => ?_)
          (case at52 => (simp only [List.getElem?_toArray, List.getElem?_cons_zero, List.getElem?_cons_succ]; rfl))
          (case ct52 => kernel_rfl)
          go_simp
          refine (long_rd HC.out).mono ?_
          intro e y7 hh
          rcases hh with hh | hh
          rotate_left
          · obtain ⟨er, pl, hg, rfl, hs⟩ := hh
            exact ⟨rfl, .no (map_no (dep_no (dep_on HG1.out (dep_on HG3.out (dep_no (hg)))))) rfl (Save.left HA.out.2.1 (HS.out.trans hs))⟩
          obtain ⟨x7, q7, v7, t7, hg7, rfl, hv, hc, hs⟩ := hh
          obtain rfl : v7 = .int .u32 x7 := hv
          have HS := Lib.hid (HS.out.trans hs)
          have HC := Lib.hid hc
          have HG7 := Lib.hid hg7
          (try have HGB := Lib.hid (And.intro (HGB.out.1.save hs HGB.out.2.1) HGB.out.2))
          refine hK7 _ _ trivial (fun hS7 => ?_)
          clear hg7 hc hs hS27 hK7 K7
          refine held_one (i := 11) (oi := ?ot53) (by kernel_rfl) ?at53 ?ct53 (fun K11 hK11 => ?_)
          (case at53 => (simp only [List.getElem?_toArray, List.getElem?_cons_zero, List.getElem?_cons_succ]; rfl))
          (case ct53 => kernel_rfl)
          go_simp
          refine (long_rd HC.out).mono ?_
          intro e y11 hh
          rcases hh with hh | hh
          rotate_left
          · obtain ⟨er, pl, hg, rfl, hs⟩ := hh
            exact ⟨rfl, .no (map_no (dep_no (dep_on HG1.out (dep_on HG3.out (dep_on HG7.out (dep_no (hg))))))) rfl (Save.left HA.out.2.1 (HS.out.trans hs))⟩
          obtain ⟨x11, q11, v11, t11, hg11, rfl, hv, hc, hs⟩ := hh
          obtain rfl : v11 = .int .u32 x11 := hv
          have HS := Lib.hid (HS.out.trans hs)
          have HC := Lib.hid hc
          have HG11 := Lib.hid hg11
          (try have HGB := Lib.hid (And.intro (HGB.out.1.save hs HGB.out.2.1) HGB.out.2))
          refine hK11 _ _ trivial (fun hS11 => ?_)
          clear hg11 hc hs hS7 hK11 K11
          refine held_one (i := 15) (oi := ?ot54) (by kernel_rfl) ?at54 ?ct54 (fun K15 hK15 => ?_)
          (case at54 => (simp only [List.getElem?_toArray, List.getElem?_cons_zero, List.getElem?_cons_succ]; rfl))
          (case ct54 => kernel_rfl)
          go_simp
          refine (long_rd HC.out).mono ?_
          intro e y15 hh
          rcases hh with hh | hh
          rotate_left
          · obtain ⟨er, pl, hg, rfl, hs⟩ := hh
            exact ⟨rfl, .no (map_no (dep_no (dep_on HG1.out (dep_on HG3.out (dep_on HG7.out (dep_on HG11.out (dep_no (hg)))))))) rfl (Save.left HA.out.2.1 (HS.out.trans hs))⟩
          obtain ⟨x15, q15, v15, t15, hg15, rfl, hv, hc, hs⟩ := hh
          obtain rfl : v15 = .int .u32 x15 := hv
          have HS := Lib.hid (HS.out.trans hs)
          have HC := Lib.hid hc
          have HG15 := Lib.hid hg15
          (try have HGB := Lib.hid (And.intro (HGB.out.1.save hs HGB.out.2.1) HGB.out.2))
          refine hK15 _ _ trivial (fun hS15 => ?_)
          clear hg15 hc hs hS11 hK15 K15
          refine held_one (i := 19) (oi := ?ot55) (by kernel_rfl) ?at55 ?ct55 (fun K19 hK19 => ?_)
          (case at55 => (simp only [List.getElem?_toArray, List.getElem?_cons_zero, List.getElem?_cons_succ]; rfl))
          (case ct55 => kernel_rfl)
          go_simp
          refine (wide_rd HC.out).mono ?_
          intro e y19 hh
          rcases hh with hh | hh
          rotate_left
          · obtain ⟨er, pl, hg, rfl, hs⟩ := hh
            exact ⟨rfl, .no (map_no (dep_no (dep_on HG1.out (dep_on HG3.out (dep_on HG7.out (dep_on HG11.out (dep_on HG15.out (dep_no (hg))))))))) rfl (Save.left HA.out.2.1 (HS.out.trans hs))⟩
          obtain ⟨x19, q19, v19, t19, hg19, rfl, hv, hc, hs⟩ := hh
          obtain rfl : v19 = .int .u64 x19 := hv
          have HS := Lib.hid (HS.out.trans hs)
          have HC := Lib.hid hc
          have HG19 := Lib.hid hg19
          (try have HGB := Lib.hid (And.intro (HGB.out.1.save hs HGB.out.2.1) HGB.out.2))
          refine hK19 _ _ trivial (fun hS19 => ?_)
          clear hg19 hc hs hS15 hK19 K19
          refine held_one (i := 23) (oi := ?ot56) (by kernel_rfl) ?at56 ?ct56 (fun K23 hK23 => ?_)
          (case at56 => (simp only [List.getElem?_toArray, List.getElem?_cons_zero, List.getElem?_cons_succ]; rfl))
          (case ct56 => kernel_rfl)
          go_simp
          refine (wide_rd HC.out).mono ?_
          intro e y23 hh
          rcases hh with hh | hh
          rotate_left
          · obtain ⟨er, pl, hg, rfl, hs⟩ := hh
            exact ⟨rfl, .no (map_no (dep_no (dep_on HG1.out (dep_on HG3.out (dep_on HG7.out (dep_on HG11.out (dep_on HG15.out (dep_on HG19.out (dep_no (hg)))))))))) rfl (Save.left HA.out.2.1 (HS.out.trans hs))⟩
          obtain ⟨x23, q23, v23, t23, hg23, rfl, hv, hc, hs⟩ := hh
          obtain rfl : v23 = .int .u64 x23 := hv
          have HS := Lib.hid (HS.out.trans hs)
          have HC := Lib.hid hc
          have HG23 := Lib.hid hg23
          (try have HGB := Lib.hid (And.intro (HGB.out.1.save hs HGB.out.2.1) HGB.out.2))
          refine hK23 _ _ trivial (fun hS23 => ?_)
          clear hg23 hc hs hS19 hK23 K23
          refine held_one (i := 25) (oi := ?ot57) (by kernel_rfl) ?at57 ?ct57 (fun K25 hK25 => ?_)
          (case at57 => (simp only [List.getElem?_toArray, List.getElem?_cons_zero, List.getElem?_cons_succ]; rfl))
          (case ct57 => kernel_rfl)
          go_simp
          refine (pkey_any HC.out).mono ?_
          intro e y25 hh
          rcases hh with hh | hh
          rotate_left
          · obtain ⟨er, pl, hg, rfl, hs⟩ := hh
            exact ⟨rfl, .no (map_no (dep_no (dep_on HG1.out (dep_on HG3.out (dep_on HG7.out (dep_on HG11.out (dep_on HG15.out (dep_on HG19.out (dep_on HG23.out (hg)))))))))) rfl (Save.left HA.out.2.1 (HS.out.trans hs))⟩
          obtain ⟨x25, q25, v25, t25, hg25, rfl, hv, hc, hs⟩ := hh
          obtain ⟨hkl, hvk⟩ : x25.length = 68 ∧ v25 = .agg (vec 68 (bys (kF x25))) := hv
          subst hvk
          have HKL := Lib.hid hkl
          have HS := Lib.hid (HS.out.trans hs)
          have HC := Lib.hid hc
          have HG25 := Lib.hid hg25
          (try have HGB := Lib.hid (And.intro (HGB.out.1.save hs HGB.out.2.1) HGB.out.2))
          refine hK25 _ _ trivial (fun hS25 => ?_)
          clear hg25 hc hs hS23 hK25 K25
          (refine held_take (i := 26) (oi := ?ot58) (v := .agg (vec 79 (guestE (headG (x1, x3, x7, x11, x15, x19, x23, x25))))) ?at58 (by kernel_rfl) (by kernel_rfl) (by kernel_rfl) ?bt58 ?ct58 ?dt58 (by assumption) ?rt58; (case at58 => (simp only [List.getElem?_toArray, List.getElem?_cons_zero, List.getElem?_cons_succ]; rfl)); (case bt58 => exact fun _ _ _ h => h); (case ct58 => kernel_rfl); (case dt58 => (intro W _; exact exec_build 64 _ rfl (vec 79 (guestE (headG (x1, x3, x7, x11, x15, x19, x23, x25)))) (by kernel_rfl) W)); (case' rt58 => simp only [Act.put, List.setIfInBounds_toArray, List.set_cons_zero, List.set_cons_succ]))
          refine held_one (i := 28) (oi := ?ot59) (by kernel_rfl) ?at59 ?ct59 (fun K28 hK28 => ?_)
          (case at59 => (simp only [List.getElem?_toArray, List.getElem?_cons_zero, List.getElem?_cons_succ]; rfl))
          (case ct59 => kernel_rfl)
          refine ow_store 64 _ _ rfl _ rfl _ rfl (run_store_arr HGB.out.1 (guestE (headG (x1, x3, x7, x11, x15, x19, x23, x25))) infoGu (guestE_one _ (GOwn.head w 0 _).one _)) ?_
          obtain ⟨X, hX⟩ : ∃ Z, Z = World.setRow y25 r (vec 79 (guestE (headG (x1, x3, x7, x11, x15, x19, x23, x25)))) := ⟨_, rfl⟩
          have hb2 : Below r y25 X := by rw [hX]; exact below_row (Below.refl _ _) (Nat.le_refl _) _
          have hGU : GuAt g A c b w X r (headG (x1, x3, x7, x11, x15, x19, x23, x25)) q25 := ⟨by rw [hX]; exact HGB.out.1.row _, (HA.out.1.save HS.out HR.out).below hb2 HGB.out.2.2, ⟨_, HC.out.on hb2 (Nat.lt_trans HGW.out HGB.out.2.2)⟩, (Save.left HA.out.2.1 HS.out).on hb2 (Nat.le_of_lt HGB.out.2.2), HGW.out, HGB.out.2.2, GOwn.head _ _ _⟩
          have HGU := Lib.hid hGU
          have HHD := Lib.hid (And.intro (show (ghC kOk).get b q = .ok ((x1, x3, x7, x11, x15, x19, x23, x25), q25) from dep_ye HG1.out (dep_ye HG3.out (dep_ye HG7.out (dep_ye HG11.out (dep_ye HG15.out (dep_ye HG19.out (dep_ye HG23.out (HG25.out)))))))) HKL.out)
          rw [← hX]
          clear hX hb2 hGU
          refine hK28 _ _ trivial (fun hS28 => ?_)
          clear hS25 hK28 K28
          refine wpAnyH_done (by kernel_rfl) ?_ _
          go_wp2_with fail
          go_meet
          exact ⟨r, (x1, x3, x7, x11, x15, x19, x23, x25), q25, rfl, HHD, HGU⟩
      case hjt70 =>
        go_simp
        obtain ⟨y27, hy⟩ : ∃ y, y = (y1.alloc (.cells (vec 79 (guestE zGV)) 64)) := ⟨_, rfl⟩
        have hd : Below y1.heap.size y1 y27 := by rw [hy]; exact (show Below y1.heap.size y1 (y1.alloc (.cells (vec 79 (guestE zGV)) 64)) from (Below.refl _ _).alloc (Nat.le_refl _) _)
        obtain ⟨r, hr⟩ : ∃ r, r = y1.heap.size := ⟨_, rfl⟩
        have hga : Arr y27 r 64 79 (guestE zGV) := by rw [hy, hr]; exact Arr.new y1 _ _ _
        have hgl : w.heap.size < r := by have h1 : V.heap.size ≤ y1.heap.size := HS.out.size; have := HA.out.2.2; omega
        have hrg : r ≠ g := by have := HGW.out; omega
        have HGB := Lib.hid (And.intro hga (And.intro hrg hgl))
        have HC := Lib.hid (HC.out.under hd)
        have HS := Lib.hid (HS.out.trans (Save.of_below hd))
        clear hd hgl hga hrg
        rw [← hy, ← hr]
        clear hy hr
        refine hK27 _ _ trivial (fun hS27 => ?_)
        clear hS1 hK27 K27
        refine held_one (i := 3) (oi := ?ot61) (by kernel_rfl) ?at61 ?ct61 (fun K3 hK3 => ?_)
        (case at61 => (simp only [List.getElem?_toArray, List.getElem?_cons_zero, List.getElem?_cons_succ]; rfl))
        (case ct61 => kernel_rfl)
        go_simp
        refine (flag_any HC.out).mono ?_
        intro e y3 hh
        rcases hh with hh | hh
        rotate_left
        · obtain ⟨er, pl, hg, rfl, hs⟩ := hh
          exact ⟨rfl, .no (map_no (dep_no (dep_on HG1.out (dep_no (hg))))) rfl (Save.left HA.out.2.1 (HS.out.trans hs))⟩
        obtain ⟨x3, q3, v3, t3, hg3, rfl, hv, hc, hs⟩ := hh
        obtain rfl : v3 = .bool x3 := hv
        have HS := Lib.hid (HS.out.trans hs)
        have HC := Lib.hid hc
        have HG3 := Lib.hid hg3
        (try have HGB := Lib.hid (And.intro (HGB.out.1.save hs HGB.out.2.1) HGB.out.2))
        refine hK3 _ _ trivial (fun hS3 => ?_)
        clear hg3 hc hs hS27 hK3 K3
        refine held_one (i := 7) (oi := ?ot62) (by kernel_rfl) ?at62 ?ct62 (fun K7 hK7 => ?_)
        (case at62 => (simp only [List.getElem?_toArray, List.getElem?_cons_zero, List.getElem?_cons_succ]; rfl))
        (case ct62 => kernel_rfl)
        go_simp
        refine (long_rd HC.out).mono ?_
        intro e y7 hh
        rcases hh with hh | hh
        rotate_left
        · obtain ⟨er, pl, hg, rfl, hs⟩ := hh
          exact ⟨rfl, .no (map_no (dep_no (dep_on HG1.out (dep_on HG3.out (dep_no (hg)))))) rfl (Save.left HA.out.2.1 (HS.out.trans hs))⟩
        obtain ⟨x7, q7, v7, t7, hg7, rfl, hv, hc, hs⟩ := hh
        obtain rfl : v7 = .int .u32 x7 := hv
        have HS := Lib.hid (HS.out.trans hs)
        have HC := Lib.hid hc
        have HG7 := Lib.hid hg7
        (try have HGB := Lib.hid (And.intro (HGB.out.1.save hs HGB.out.2.1) HGB.out.2))
        refine hK7 _ _ trivial (fun hS7 => ?_)
        clear hg7 hc hs hS3 hK7 K7
        refine held_one (i := 11) (oi := ?ot63) (by kernel_rfl) ?at63 ?ct63 (fun K11 hK11 => ?_)
        (case at63 => (simp only [List.getElem?_toArray, List.getElem?_cons_zero, List.getElem?_cons_succ]; rfl))
        (case ct63 => kernel_rfl)
        go_simp
        refine (long_rd HC.out).mono ?_
        intro e y11 hh
        rcases hh with hh | hh
        rotate_left
        · obtain ⟨er, pl, hg, rfl, hs⟩ := hh
          exact ⟨rfl, .no (map_no (dep_no (dep_on HG1.out (dep_on HG3.out (dep_on HG7.out (dep_no (hg))))))) rfl (Save.left HA.out.2.1 (HS.out.trans hs))⟩
        obtain ⟨x11, q11, v11, t11, hg11, rfl, hv, hc, hs⟩ := hh
        obtain rfl : v11 = .int .u32 x11 := hv
        have HS := Lib.hid (HS.out.trans hs)
        have HC := Lib.hid hc
        have HG11 := Lib.hid hg11
        (try have HGB := Lib.hid (And.intro (HGB.out.1.save hs HGB.out.2.1) HGB.out.2))
        refine hK11 _ _ trivial (fun hS11 => ?_)
        clear hg11 hc hs hS7 hK11 K11
        refine held_one (i := 15) (oi := ?ot64) (by kernel_rfl) ?at64 ?ct64 (fun K15 hK15 => ?_)
        (case at64 => (simp only [List.getElem?_toArray, List.getElem?_cons_zero, List.getElem?_cons_succ]; rfl))
        (case ct64 => kernel_rfl)
        go_simp
        refine (long_rd HC.out).mono ?_
        intro e y15 hh
        rcases hh with hh | hh
        rotate_left
        · obtain ⟨er, pl, hg, rfl, hs⟩ := hh
          exact ⟨rfl, .no (map_no (dep_no (dep_on HG1.out (dep_on HG3.out (dep_on HG7.out (dep_on HG11.out (dep_no (hg)))))))) rfl (Save.left HA.out.2.1 (HS.out.trans hs))⟩
        obtain ⟨x15, q15, v15, t15, hg15, rfl, hv, hc, hs⟩ := hh
        obtain rfl : v15 = .int .u32 x15 := hv
        have HS := Lib.hid (HS.out.trans hs)
        have HC := Lib.hid hc
        have HG15 := Lib.hid hg15
        (try have HGB := Lib.hid (And.intro (HGB.out.1.save hs HGB.out.2.1) HGB.out.2))
        refine hK15 _ _ trivial (fun hS15 => ?_)
        clear hg15 hc hs hS11 hK15 K15
        refine held_one (i := 19) (oi := ?ot65) (by kernel_rfl) ?at65 ?ct65 (fun K19 hK19 => ?_)
        (case at65 => (simp only [List.getElem?_toArray, List.getElem?_cons_zero, List.getElem?_cons_succ]; rfl))
        (case ct65 => kernel_rfl)
        go_simp
        refine (wide_rd HC.out).mono ?_
        intro e y19 hh
        rcases hh with hh | hh
        rotate_left
        · obtain ⟨er, pl, hg, rfl, hs⟩ := hh
          exact ⟨rfl, .no (map_no (dep_no (dep_on HG1.out (dep_on HG3.out (dep_on HG7.out (dep_on HG11.out (dep_on HG15.out (dep_no (hg))))))))) rfl (Save.left HA.out.2.1 (HS.out.trans hs))⟩
        obtain ⟨x19, q19, v19, t19, hg19, rfl, hv, hc, hs⟩ := hh
        obtain rfl : v19 = .int .u64 x19 := hv
        have HS := Lib.hid (HS.out.trans hs)
        have HC := Lib.hid hc
        have HG19 := Lib.hid hg19
        (try have HGB := Lib.hid (And.intro (HGB.out.1.save hs HGB.out.2.1) HGB.out.2))
        refine hK19 _ _ trivial (fun hS19 => ?_)
        clear hg19 hc hs hS15 hK19 K19
        refine held_one (i := 23) (oi := ?ot66) (by kernel_rfl) ?at66 ?ct66 (fun K23 hK23 => ?_)
        (case at66 => (simp only [List.getElem?_toArray, List.getElem?_cons_zero, List.getElem?_cons_succ]; rfl))
        (case ct66 => kernel_rfl)
        go_simp
        refine (wide_rd HC.out).mono ?_
        intro e y23 hh
        rcases hh with hh | hh
        rotate_left
        · obtain ⟨er, pl, hg, rfl, hs⟩ := hh
          exact ⟨rfl, .no (map_no (dep_no (dep_on HG1.out (dep_on HG3.out (dep_on HG7.out (dep_on HG11.out (dep_on HG15.out (dep_on HG19.out (dep_no (hg)))))))))) rfl (Save.left HA.out.2.1 (HS.out.trans hs))⟩
        obtain ⟨x23, q23, v23, t23, hg23, rfl, hv, hc, hs⟩ := hh
        obtain rfl : v23 = .int .u64 x23 := hv
        have HS := Lib.hid (HS.out.trans hs)
        have HC := Lib.hid hc
        have HG23 := Lib.hid hg23
        (try have HGB := Lib.hid (And.intro (HGB.out.1.save hs HGB.out.2.1) HGB.out.2))
        refine hK23 _ _ trivial (fun hS23 => ?_)
        clear hg23 hc hs hS19 hK23 K23
        refine held_one (i := 25) (oi := ?ot67) (by kernel_rfl) ?at67 ?ct67 (fun K25 hK25 => ?_)
        (case at67 => (simp only [List.getElem?_toArray, List.getElem?_cons_zero, List.getElem?_cons_succ]; rfl))
        (case ct67 => kernel_rfl)
        go_simp
        refine (pkey_any HC.out).mono ?_
        intro e y25 hh
        rcases hh with hh | hh
        rotate_left
        · obtain ⟨er, pl, hg, rfl, hs⟩ := hh
          exact ⟨rfl, .no (map_no (dep_no (dep_on HG1.out (dep_on HG3.out (dep_on HG7.out (dep_on HG11.out (dep_on HG15.out (dep_on HG19.out (dep_on HG23.out (hg)))))))))) rfl (Save.left HA.out.2.1 (HS.out.trans hs))⟩
        obtain ⟨x25, q25, v25, t25, hg25, rfl, hv, hc, hs⟩ := hh
        obtain ⟨hkl, hvk⟩ : x25.length = 68 ∧ v25 = .agg (vec 68 (bys (kF x25))) := hv
        subst hvk
        have HKL := Lib.hid hkl
        have HS := Lib.hid (HS.out.trans hs)
        have HC := Lib.hid hc
        have HG25 := Lib.hid hg25
        (try have HGB := Lib.hid (And.intro (HGB.out.1.save hs HGB.out.2.1) HGB.out.2))
        refine hK25 _ _ trivial (fun hS25 => ?_)
        clear hg25 hc hs hS23 hK25 K25
        (refine held_take (i := 26) (oi := ?ot68) (v := .agg (vec 79 (guestE (headG (x1, x3, x7, x11, x15, x19, x23, x25))))) ?at68 (by kernel_rfl) (by kernel_rfl) (by kernel_rfl) ?bt68 ?ct68 ?dt68 (by assumption) ?rt68; (case at68 => (simp only [List.getElem?_toArray, List.getElem?_cons_zero, List.getElem?_cons_succ]; rfl)); (case bt68 => exact fun _ _ _ h => h); (case ct68 => kernel_rfl); (case dt68 => (intro W _; exact exec_build 64 _ rfl (vec 79 (guestE (headG (x1, x3, x7, x11, x15, x19, x23, x25)))) (by kernel_rfl) W)); (case' rt68 => simp only [Act.put, List.setIfInBounds_toArray, List.set_cons_zero, List.set_cons_succ]))
        refine held_one (i := 28) (oi := ?ot69) (by kernel_rfl) ?at69 ?ct69 (fun K28 hK28 => ?_)
        (case at69 => (simp only [List.getElem?_toArray, List.getElem?_cons_zero, List.getElem?_cons_succ]; rfl))
        (case ct69 => kernel_rfl)
        refine ow_store 64 _ _ rfl _ rfl _ rfl (run_store_arr HGB.out.1 (guestE (headG (x1, x3, x7, x11, x15, x19, x23, x25))) infoGu (guestE_one _ (GOwn.head w 0 _).one _)) ?_
        obtain ⟨X, hX⟩ : ∃ Z, Z = World.setRow y25 r (vec 79 (guestE (headG (x1, x3, x7, x11, x15, x19, x23, x25)))) := ⟨_, rfl⟩
        have hb2 : Below r y25 X := by rw [hX]; exact below_row (Below.refl _ _) (Nat.le_refl _) _
        have hGU : GuAt g A c b w X r (headG (x1, x3, x7, x11, x15, x19, x23, x25)) q25 := ⟨by rw [hX]; exact HGB.out.1.row _, (HA.out.1.save HS.out HR.out).below hb2 HGB.out.2.2, ⟨_, HC.out.on hb2 (Nat.lt_trans HGW.out HGB.out.2.2)⟩, (Save.left HA.out.2.1 HS.out).on hb2 (Nat.le_of_lt HGB.out.2.2), HGW.out, HGB.out.2.2, GOwn.head _ _ _⟩
        have HGU := Lib.hid hGU
        have HHD := Lib.hid (And.intro (show (ghC kOk).get b q = .ok ((x1, x3, x7, x11, x15, x19, x23, x25), q25) from dep_ye HG1.out (dep_ye HG3.out (dep_ye HG7.out (dep_ye HG11.out (dep_ye HG15.out (dep_ye HG19.out (dep_ye HG23.out (HG25.out)))))))) HKL.out)
        rw [← hX]
        clear hX hb2 hGU
        refine hK28 _ _ trivial (fun hS28 => ?_)
        clear hS25 hK28 K28
        refine wpAnyH_done (by kernel_rfl) ?_ _
        go_wp2_with fail
        go_meet
        exact ⟨r, (x1, x3, x7, x11, x15, x19, x23, x25), q25, rfl, HHD, HGU⟩
    case hjt81 =>
      go_simp
      obtain ⟨y27, hy⟩ : ∃ y, y = (V.alloc (.cells (vec 79 (guestE zGV)) 64)).drew := ⟨_, rfl⟩
      have hd : Below V.heap.size V.drew y27 := by rw [hy]; exact (show Below V.drew.heap.size V.drew (V.drew.alloc (.cells (vec 79 (guestE zGV)) 64)) from (Below.refl _ _).alloc (Nat.le_refl _) _)
      obtain ⟨r, hr⟩ : ∃ r, r = V.heap.size := ⟨_, rfl⟩
      have hga : Arr y27 r 64 79 (guestE zGV) := by rw [hy, hr]; exact Arr.new V _ _ _
      have hgl : w.heap.size < r := by have h1 : V.heap.size ≤ V.heap.size := HS.out.size; have := HA.out.2.2; omega
      have hrg : r ≠ g := by have := HGW.out; omega
      have HGB := Lib.hid (And.intro hga (And.intro hrg hgl))
      have HC := Lib.hid (HC.out.under hd)
      have HS := Lib.hid (HS.out.trans (Save.of_below hd))
      clear hd hgl hga hrg
      rw [← hy, ← hr]
      clear hy hr
      refine hK27 _ _ trivial (fun hS27 => ?_)
      clear hS hK27 K27
      refine held_one (i := 1) (oi := ?ot71) (by kernel_rfl) ?at71 ?ct71 (fun K1 hK1 => ?_)
      (case at71 => (simp only [List.getElem?_toArray, List.getElem?_cons_zero, List.getElem?_cons_succ]; rfl))
      (case ct71 => kernel_rfl)
      go_simp
      refine (pname_any HC.out).mono ?_
      intro e y1 hh
      rcases hh with hh | hh
      rotate_left
      · obtain ⟨er, pl, hg, rfl, hs⟩ := hh
        exact ⟨rfl, .no (map_no (dep_no (dep_no (hg)))) rfl (Save.left HA.out.2.1 (HS.out.trans hs))⟩
      obtain ⟨x1, q1, v1, t1, hg1, rfl, hv, hc, hs⟩ := hh
      obtain rfl : v1 = .string (strOf x1) := hv
      have HS := Lib.hid (HS.out.trans hs)
      have HC := Lib.hid hc
      have HG1 := Lib.hid hg1
      (try have HGB := Lib.hid (And.intro (HGB.out.1.save hs HGB.out.2.1) HGB.out.2))
      refine hK1 _ _ trivial (fun hS1 => ?_)
      clear hg1 hc hs hS27 hK1 K1
      refine held_one (i := 3) (oi := ?ot72) (by kernel_rfl) ?at72 ?ct72 (fun K3 hK3 => ?_)
      (case at72 => (simp only [List.getElem?_toArray, List.getElem?_cons_zero, List.getElem?_cons_succ]; rfl))
      (case ct72 => kernel_rfl)
      go_simp
      refine (flag_any HC.out).mono ?_
      intro e y3 hh
      rcases hh with hh | hh
      rotate_left
      · obtain ⟨er, pl, hg, rfl, hs⟩ := hh
        exact ⟨rfl, .no (map_no (dep_no (dep_on HG1.out (dep_no (hg))))) rfl (Save.left HA.out.2.1 (HS.out.trans hs))⟩
      obtain ⟨x3, q3, v3, t3, hg3, rfl, hv, hc, hs⟩ := hh
      obtain rfl : v3 = .bool x3 := hv
      have HS := Lib.hid (HS.out.trans hs)
      have HC := Lib.hid hc
      have HG3 := Lib.hid hg3
      (try have HGB := Lib.hid (And.intro (HGB.out.1.save hs HGB.out.2.1) HGB.out.2))
      refine hK3 _ _ trivial (fun hS3 => ?_)
      clear hg3 hc hs hS1 hK3 K3
      refine held_one (i := 7) (oi := ?ot73) (by kernel_rfl) ?at73 ?ct73 (fun K7 hK7 => ?_)
      (case at73 => (simp only [List.getElem?_toArray, List.getElem?_cons_zero, List.getElem?_cons_succ]; rfl))
      (case ct73 => kernel_rfl)
      go_simp
      refine (long_rd HC.out).mono ?_
      intro e y7 hh
      rcases hh with hh | hh
      rotate_left
      · obtain ⟨er, pl, hg, rfl, hs⟩ := hh
        exact ⟨rfl, .no (map_no (dep_no (dep_on HG1.out (dep_on HG3.out (dep_no (hg)))))) rfl (Save.left HA.out.2.1 (HS.out.trans hs))⟩
      obtain ⟨x7, q7, v7, t7, hg7, rfl, hv, hc, hs⟩ := hh
      obtain rfl : v7 = .int .u32 x7 := hv
      have HS := Lib.hid (HS.out.trans hs)
      have HC := Lib.hid hc
      have HG7 := Lib.hid hg7
      (try have HGB := Lib.hid (And.intro (HGB.out.1.save hs HGB.out.2.1) HGB.out.2))
      refine hK7 _ _ trivial (fun hS7 => ?_)
      clear hg7 hc hs hS3 hK7 K7
      refine held_one (i := 11) (oi := ?ot74) (by kernel_rfl) ?at74 ?ct74 (fun K11 hK11 => ?_)
      (case at74 => (simp only [List.getElem?_toArray, List.getElem?_cons_zero, List.getElem?_cons_succ]; rfl))
      (case ct74 => kernel_rfl)
      go_simp
      refine (long_rd HC.out).mono ?_
      intro e y11 hh
      rcases hh with hh | hh
      rotate_left
      · obtain ⟨er, pl, hg, rfl, hs⟩ := hh
        exact ⟨rfl, .no (map_no (dep_no (dep_on HG1.out (dep_on HG3.out (dep_on HG7.out (dep_no (hg))))))) rfl (Save.left HA.out.2.1 (HS.out.trans hs))⟩
      obtain ⟨x11, q11, v11, t11, hg11, rfl, hv, hc, hs⟩ := hh
      obtain rfl : v11 = .int .u32 x11 := hv
      have HS := Lib.hid (HS.out.trans hs)
      have HC := Lib.hid hc
      have HG11 := Lib.hid hg11
      (try have HGB := Lib.hid (And.intro (HGB.out.1.save hs HGB.out.2.1) HGB.out.2))
      refine hK11 _ _ trivial (fun hS11 => ?_)
      clear hg11 hc hs hS7 hK11 K11
      refine held_one (i := 15) (oi := ?ot75) (by kernel_rfl) ?at75 ?ct75 (fun K15 hK15 => ?_)
      (case at75 => (simp only [List.getElem?_toArray, List.getElem?_cons_zero, List.getElem?_cons_succ]; rfl))
      (case ct75 => kernel_rfl)
      go_simp
      refine (long_rd HC.out).mono ?_
      intro e y15 hh
      rcases hh with hh | hh
      rotate_left
      · obtain ⟨er, pl, hg, rfl, hs⟩ := hh
        exact ⟨rfl, .no (map_no (dep_no (dep_on HG1.out (dep_on HG3.out (dep_on HG7.out (dep_on HG11.out (dep_no (hg)))))))) rfl (Save.left HA.out.2.1 (HS.out.trans hs))⟩
      obtain ⟨x15, q15, v15, t15, hg15, rfl, hv, hc, hs⟩ := hh
      obtain rfl : v15 = .int .u32 x15 := hv
      have HS := Lib.hid (HS.out.trans hs)
      have HC := Lib.hid hc
      have HG15 := Lib.hid hg15
      (try have HGB := Lib.hid (And.intro (HGB.out.1.save hs HGB.out.2.1) HGB.out.2))
      refine hK15 _ _ trivial (fun hS15 => ?_)
      clear hg15 hc hs hS11 hK15 K15
      refine held_one (i := 19) (oi := ?ot76) (by kernel_rfl) ?at76 ?ct76 (fun K19 hK19 => ?_)
      (case at76 => (simp only [List.getElem?_toArray, List.getElem?_cons_zero, List.getElem?_cons_succ]; rfl))
      (case ct76 => kernel_rfl)
      go_simp
      refine (wide_rd HC.out).mono ?_
      intro e y19 hh
      rcases hh with hh | hh
      rotate_left
      · obtain ⟨er, pl, hg, rfl, hs⟩ := hh
        exact ⟨rfl, .no (map_no (dep_no (dep_on HG1.out (dep_on HG3.out (dep_on HG7.out (dep_on HG11.out (dep_on HG15.out (dep_no (hg))))))))) rfl (Save.left HA.out.2.1 (HS.out.trans hs))⟩
      obtain ⟨x19, q19, v19, t19, hg19, rfl, hv, hc, hs⟩ := hh
      obtain rfl : v19 = .int .u64 x19 := hv
      have HS := Lib.hid (HS.out.trans hs)
      have HC := Lib.hid hc
      have HG19 := Lib.hid hg19
      (try have HGB := Lib.hid (And.intro (HGB.out.1.save hs HGB.out.2.1) HGB.out.2))
      refine hK19 _ _ trivial (fun hS19 => ?_)
      clear hg19 hc hs hS15 hK19 K19
      refine held_one (i := 23) (oi := ?ot77) (by kernel_rfl) ?at77 ?ct77 (fun K23 hK23 => ?_)
      (case at77 => (simp only [List.getElem?_toArray, List.getElem?_cons_zero, List.getElem?_cons_succ]; rfl))
      (case ct77 => kernel_rfl)
      go_simp
      refine (wide_rd HC.out).mono ?_
      intro e y23 hh
      rcases hh with hh | hh
      rotate_left
      · obtain ⟨er, pl, hg, rfl, hs⟩ := hh
        exact ⟨rfl, .no (map_no (dep_no (dep_on HG1.out (dep_on HG3.out (dep_on HG7.out (dep_on HG11.out (dep_on HG15.out (dep_on HG19.out (dep_no (hg)))))))))) rfl (Save.left HA.out.2.1 (HS.out.trans hs))⟩
      obtain ⟨x23, q23, v23, t23, hg23, rfl, hv, hc, hs⟩ := hh
      obtain rfl : v23 = .int .u64 x23 := hv
      have HS := Lib.hid (HS.out.trans hs)
      have HC := Lib.hid hc
      have HG23 := Lib.hid hg23
      (try have HGB := Lib.hid (And.intro (HGB.out.1.save hs HGB.out.2.1) HGB.out.2))
      refine hK23 _ _ trivial (fun hS23 => ?_)
      clear hg23 hc hs hS19 hK23 K23
      refine held_one (i := 25) (oi := ?ot78) (by kernel_rfl) ?at78 ?ct78 (fun K25 hK25 => ?_)
      (case at78 => (simp only [List.getElem?_toArray, List.getElem?_cons_zero, List.getElem?_cons_succ]; rfl))
      (case ct78 => kernel_rfl)
      go_simp
      refine (pkey_any HC.out).mono ?_
      intro e y25 hh
      rcases hh with hh | hh
      rotate_left
      · obtain ⟨er, pl, hg, rfl, hs⟩ := hh
        exact ⟨rfl, .no (map_no (dep_no (dep_on HG1.out (dep_on HG3.out (dep_on HG7.out (dep_on HG11.out (dep_on HG15.out (dep_on HG19.out (dep_on HG23.out (hg)))))))))) rfl (Save.left HA.out.2.1 (HS.out.trans hs))⟩
      obtain ⟨x25, q25, v25, t25, hg25, rfl, hv, hc, hs⟩ := hh
      obtain ⟨hkl, hvk⟩ : x25.length = 68 ∧ v25 = .agg (vec 68 (bys (kF x25))) := hv
      subst hvk
      have HKL := Lib.hid hkl
      have HS := Lib.hid (HS.out.trans hs)
      have HC := Lib.hid hc
      have HG25 := Lib.hid hg25
      (try have HGB := Lib.hid (And.intro (HGB.out.1.save hs HGB.out.2.1) HGB.out.2))
      refine hK25 _ _ trivial (fun hS25 => ?_)
      clear hg25 hc hs hS23 hK25 K25
      (refine held_take (i := 26) (oi := ?ot79) (v := .agg (vec 79 (guestE (headG (x1, x3, x7, x11, x15, x19, x23, x25))))) ?at79 (by kernel_rfl) (by kernel_rfl) (by kernel_rfl) ?bt79 ?ct79 ?dt79 (by assumption) ?rt79; (case at79 => (simp only [List.getElem?_toArray, List.getElem?_cons_zero, List.getElem?_cons_succ]; rfl)); (case bt79 => exact fun _ _ _ h => h); (case ct79 => kernel_rfl); (case dt79 => (intro W _; exact exec_build 64 _ rfl (vec 79 (guestE (headG (x1, x3, x7, x11, x15, x19, x23, x25)))) (by kernel_rfl) W)); (case' rt79 => simp only [Act.put, List.setIfInBounds_toArray, List.set_cons_zero, List.set_cons_succ]))
      refine held_one (i := 28) (oi := ?ot80) (by kernel_rfl) ?at80 ?ct80 (fun K28 hK28 => ?_)
      (case at80 => (simp only [List.getElem?_toArray, List.getElem?_cons_zero, List.getElem?_cons_succ]; rfl))
      (case ct80 => kernel_rfl)
      refine ow_store 64 _ _ rfl _ rfl _ rfl (run_store_arr HGB.out.1 (guestE (headG (x1, x3, x7, x11, x15, x19, x23, x25))) infoGu (guestE_one _ (GOwn.head w 0 _).one _)) ?_
      obtain ⟨X, hX⟩ : ∃ Z, Z = World.setRow y25 r (vec 79 (guestE (headG (x1, x3, x7, x11, x15, x19, x23, x25)))) := ⟨_, rfl⟩
      have hb2 : Below r y25 X := by rw [hX]; exact below_row (Below.refl _ _) (Nat.le_refl _) _
      have hGU : GuAt g A c b w X r (headG (x1, x3, x7, x11, x15, x19, x23, x25)) q25 := ⟨by rw [hX]; exact HGB.out.1.row _, (HA.out.1.save HS.out HR.out).below hb2 HGB.out.2.2, ⟨_, HC.out.on hb2 (Nat.lt_trans HGW.out HGB.out.2.2)⟩, (Save.left HA.out.2.1 HS.out).on hb2 (Nat.le_of_lt HGB.out.2.2), HGW.out, HGB.out.2.2, GOwn.head _ _ _⟩
      have HGU := Lib.hid hGU
      have HHD := Lib.hid (And.intro (show (ghC kOk).get b q = .ok ((x1, x3, x7, x11, x15, x19, x23, x25), q25) from dep_ye HG1.out (dep_ye HG3.out (dep_ye HG7.out (dep_ye HG11.out (dep_ye HG15.out (dep_ye HG19.out (dep_ye HG23.out (HG25.out)))))))) HKL.out)
      rw [← hX]
      clear hX hb2 hGU
      refine hK28 _ _ trivial (fun hS28 => ?_)
      clear hS25 hK28 K28
      refine wpAnyH_done (by kernel_rfl) ?_ _
      go_wp2_with fail
      go_meet
      exact ⟨r, (x1, x3, x7, x11, x15, x19, x23, x25), q25, rfl, HHD, HGU⟩
  case rest =>
    obtain ⟨r, hd, p, rfl, HD, HU⟩ := hcut
    obtain ⟨X, hX⟩ : ∃ X : World, X = wc := ⟨_, rfl⟩
    subst hX
    clear HC HA HS HR HGW
    obtain ⟨tc, hc0⟩ := HU.out.cur
    have HC := Lib.hid hc0
    clear hc0
    go_wp2_with (first
      | ((with_reducible show Calls _ _ #[_, .func (.func 74) _ _] _ _)
         refine (count_windowsFit HC.out).mono ?_
         intro e y1 hh
         rcases hh with hh | hh
         rotate_left
         · obtain ⟨er, pl, hg, rfl, hs⟩ := hh
           exact ⟨rfl, .no (map_no (dep_on HD.out.1 (dep_no (dep_no hg)))) rfl (HU.out.sv.trans hs)⟩
         obtain ⟨xx, p1, vv, tt, hg, rfl, hv, hc, hs⟩ := hh
         obtain ⟨n1, rfl, hn1⟩ := fld_nat hg
         obtain rfl : vv = .int .i64 (n1 : Int) := hv
         have HU := Lib.hid (HU.out.call hc hs)
         have HC := Lib.hid hc
         have HN1 := Lib.hid hg
         clear hg hc hs)
      | ((with_reducible show Calls _ _ #[_, .func (.func 75) _ _] _ _)
         refine (count_devicesFit HC.out).mono ?_
         intro e y2 hh
         rcases hh with hh | hh
         rotate_left
         · obtain ⟨er, pl, hg, rfl, hs⟩ := hh
           exact ⟨rfl, .no (map_no (dep_on HD.out.1 (dep_no (dep_on HN1.out (dep_no hg))))) rfl (HU.out.sv.trans hs)⟩
         obtain ⟨xx, p2, vv, tt, hg, rfl, hv, hc, hs⟩ := hh
         obtain ⟨n2, rfl, hn2⟩ := fld_nat hg
         obtain rfl : vv = .int .i64 (n2 : Int) := hv
         have HU := Lib.hid (HU.out.call hc hs)
         have HC := Lib.hid hc
         have HN2 := Lib.hid hg
         clear hg hc hs)
      | ((with_reducible show Calls _ _ #[_, .func (.func 76) _ _] _ _)
         refine (count_irqsFit HC.out).mono ?_
         intro e y3 hh
         rcases hh with hh | hh
         rotate_left
         · obtain ⟨er, pl, hg, rfl, hs⟩ := hh
           exact ⟨rfl, .no (map_no (dep_on HD.out.1 (dep_no (dep_on HN1.out (dep_on HN2.out (dep_no hg)))))) rfl (HU.out.sv.trans hs)⟩
         obtain ⟨xx, p3, vv, tt, hg, rfl, hv, hc, hs⟩ := hh
         obtain ⟨n3, rfl, hn3⟩ := fld_nat hg
         obtain rfl : vv = .int .i64 (n3 : Int) := hv
         have HU := Lib.hid (HU.out.call hc hs)
         have HC := Lib.hid hc
         have HN3 := Lib.hid hg
         clear hg hc hs)
      | ((with_reducible show Calls _ _ #[_, .func (.func 77) _ _] _ _)
         refine (count_streamsFit HC.out).mono ?_
         intro e y4 hh
         rcases hh with hh | hh
         rotate_left
         · obtain ⟨er, pl, hg, rfl, hs⟩ := hh
           exact ⟨rfl, .no (map_no (dep_on HD.out.1 (dep_no (dep_on HN1.out (dep_on HN2.out (dep_on HN3.out (hg))))))) rfl (HU.out.sv.trans hs)⟩
         obtain ⟨xx, p4, vv, tt, hg, rfl, hv, hc, hs⟩ := hh
         obtain ⟨n4, rfl, hn4⟩ := fld_nat hg
         obtain rfl : vv = .int .i64 (n4 : Int) := hv
         have HU := Lib.hid (HU.out.call hc hs)
         have HC := Lib.hid hc
         have HN4 := Lib.hid hg
         clear hg hc hs)
      | (go_at_call 78
         refine (list_window HC.out n1 (by omega)).mono ?_
         intro e z1 hh
         rcases hh with hh | hh
         rotate_left
         · obtain ⟨er, pl, hg, rfl, hs⟩ := hh
           exact ⟨rfl, .no (map_no (dep_on HD.out.1 (dep_on (dep_ye HN1.out (dep_ye HN2.out (dep_ye HN3.out HN4.out))) (dep_no hg)))) rfl (HU.out.sv.trans hs)⟩
         obtain ⟨l1, pp1, v1, tt, hg, rfl, hv, hc, hs⟩ := hh
         obtain ⟨B1, d1, rfl, -, -, -⟩ := (show OwnE _ _ _ _ _ _ _ from hv).form
         have hcell := (HU.out.call hc hs).arr.cell (i := 75) (by decide)
         have hfz := (HU.out.call hc hs).arr.frozen 75
         have HU := Lib.hid (HU.out.setW hc hs hv)
         obtain ⟨tc1, hcc⟩ := HU.out.cur
         have HC := Lib.hid hcc
         have HL1 := Lib.hid hg
         clear hg hc hs hv hcc)
      | (go_at_call 80
         refine (list_device HC.out n2 (by omega)).mono ?_
         intro e z2 hh
         rcases hh with hh | hh
         rotate_left
         · obtain ⟨er, pl, hg, rfl, hs⟩ := hh
           exact ⟨rfl, .no (map_no (dep_on HD.out.1 (dep_on (dep_ye HN1.out (dep_ye HN2.out (dep_ye HN3.out HN4.out))) (dep_on HL1.out (dep_no hg))))) rfl (HU.out.sv.trans hs)⟩
         obtain ⟨l2, pp2, v2, tt, hg, rfl, hv, hc, hs⟩ := hh
         obtain ⟨B2, d2, rfl, -, -, -⟩ := (show OwnE _ _ _ _ _ _ _ from hv).form
         have hcell := (HU.out.call hc hs).arr.cell (i := 76) (by decide)
         have hfz := (HU.out.call hc hs).arr.frozen 76
         have HU := Lib.hid (HU.out.setD hc hs hv)
         obtain ⟨tc2, hcc⟩ := HU.out.cur
         have HC := Lib.hid hcc
         have HL2 := Lib.hid hg
         clear hg hc hs hv hcc)
      | (go_at_call 82
         refine (list_irq HC.out n3 (by omega)).mono ?_
         intro e z3 hh
         rcases hh with hh | hh
         rotate_left
         · obtain ⟨er, pl, hg, rfl, hs⟩ := hh
           exact ⟨rfl, .no (map_no (dep_on HD.out.1 (dep_on (dep_ye HN1.out (dep_ye HN2.out (dep_ye HN3.out HN4.out))) (dep_on HL1.out (dep_on HL2.out (dep_no hg)))))) rfl (HU.out.sv.trans hs)⟩
         obtain ⟨l3, pp3, v3, tt, hg, rfl, hv, hc, hs⟩ := hh
         obtain ⟨B3, d3, rfl, -, -, -⟩ := (show OwnE _ _ _ _ _ _ _ from hv).form
         have hcell := (HU.out.call hc hs).arr.cell (i := 77) (by decide)
         have hfz := (HU.out.call hc hs).arr.frozen 77
         have HU := Lib.hid (HU.out.setI hc hs hv)
         obtain ⟨tc3, hcc⟩ := HU.out.cur
         have HC := Lib.hid hcc
         have HL3 := Lib.hid hg
         clear hg hc hs hv hcc)
      | (go_at_call 84
         refine (list_num HC.out n4 (by omega)).mono ?_
         intro e z4 hh
         rcases hh with hh | hh
         rotate_left
         · obtain ⟨er, pl, hg, rfl, hs⟩ := hh
           exact ⟨rfl, .no (map_no (dep_on HD.out.1 (dep_on (dep_ye HN1.out (dep_ye HN2.out (dep_ye HN3.out HN4.out))) (dep_on HL1.out (dep_on HL2.out (dep_on HL3.out (hg))))))) rfl (HU.out.sv.trans hs)⟩
         obtain ⟨l4, pp4, v4, tt, hg, rfl, hv, hc, hs⟩ := hh
         obtain ⟨B4, d4, rfl, -, -, -⟩ := (show OwnE _ _ _ _ _ _ _ from hv).form
         have hcell := (HU.out.call hc hs).arr.cell (i := 78) (by decide)
         have hfz := (HU.out.call hc hs).arr.frozen 78
         have HU := Lib.hid (HU.out.setS hc hs hv)
         obtain ⟨tc4, hcc⟩ := HU.out.cur
         have HC := Lib.hid hcc
         have HL4 := Lib.hid hg
         clear hg hc hs hv hcc)
      | ((with_reducible show wpList _ _ _ (Oper.mk _ (.load _ _) _ _ _ _ :: _) _ _); refine wl_load rfl 64 _ rfl r rfl _ (run_load_arr HU.out.arr Tryd.underlying64 rfl infoGu) ?_)
      | ((with_reducible show wpList _ _ _ (Oper.mk _ (.store 64 _ _) _ _ _ _ :: _) _ _); refine wl_store rfl 64 _ _ rfl _ rfl _ rfl (run_store_arr HU.out.res _ infoGu (guestE_one _ HU.out.own.one _)) ?_))
    refine bodyPost_ret (results_cell1 rfl _ _ _ rfl (run_load_arr (HU.out.res.row _) Tryd.underlying64 rfl infoGu)) rfl ?_
    refine .ok (t := tc4) (map_ye (dep_ye HD.out.1 (dep_ye (dep_ye HN1.out (dep_ye HN2.out (dep_ye HN3.out HN4.out))) (dep_ye HL1.out (dep_ye HL2.out (dep_ye HL3.out HL4.out)))))) rfl ⟨_, rfl, HD.out.2, rfl, ?_⟩ ?_ ?_
    · exact (HU.out.own.save ((Save.refl _ _).setRow _) (Nat.lt_succ_of_lt HU.out.ne)).low (by have := HU.out.ne; omega)
    · exact HC.out.on (below_row (Below.refl w.heap.size _) (Nat.le_refl _) _) HU.out.gw
    · exact HU.out.sv.on (below_row (Below.refl w.heap.size _) (Nat.le_refl _) _) (Nat.le_refl _)
end Go.Proofs.YtmcpmcicolpoeaaDoor
