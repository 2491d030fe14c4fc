/- The reference's Make. -/
import Derived.Test.YtfeiplaiekbdkaaGreatDoorXmake
import Derived.Test.YtfeiplaiekbdkaaGreatDoorWk
namespace Go.Proofs.YtfeiplaiekbdkaaGreatDoor
open Go.RowKit
attribute [local go_sem ↓ high] zeroV26 zeroKey

set_option maxHeartbeats 4000000 in
set_option maxRecDepth 100000 in
theorem rmake_x : MakeAns 9 := by
  intro oid secret seed idx A n2 c auth w hoid hidx ha hn2 h1 hT
  obtain ⟨V, hV⟩ : ∃ V, V = ((w.alloc (.cells (vec 32 (bys secret)) 30)).alloc (.cells (vec 32 (bys seed)) 30)).alloc (.cells (vec 65 (keyF 0 zb zb)) 33) := ⟨_, rfl⟩
  have k0 : Arr V w.heap.size 30 32 (bys secret) := by rw [hV]; exact ((Arr.newAt _ _ _ _ (by simp)).alloc _).alloc _
  have k1 : Arr V (w.heap.size + 1) 30 32 (bys seed) := by rw [hV]; exact (Arr.newAt _ _ _ _ (by simp)).alloc _
  have k2 : Arr V (w.heap.size + 2) 33 65 (keyF 0 zb zb) := by rw [hV]; exact Arr.newAt _ _ _ _ (by simp)
  have hB : Below w.heap.size w V := by rw [hV]; exact (((Below.refl _ _).alloc (by simp <;> omega) _).alloc (by simp <;> omega) _).alloc (by simp <;> omega) _
  have HA := Lib.hid (And.intro k0 (And.intro k1 (And.intro k2 hB)))
  have HR := Lib.hid (And.intro ((h1.below hB).wide hB.size) (tabs_below hT hB))
  have HW := Lib.hid hV
  have HO := Lib.hid (And.intro hidx (And.intro hn2 ha))
  have HH := Lib.hid (fun W => rheight_any oid hoid W)
  have HK := Lib.hid (And.intro k2 hB)
  have HRW0 := Lib.hid (And.intro h1 hT)
  cases his : isO oid with
  | false =>
    have e1 : psE oid idx 67 n2 = 80 := by unfold psE; rw [his]; rfl
    have e2 : mkF oid secret seed idx auth = keyF 0 zb zb := mkF_bad (by rw [← hn2, e1]; decide)
    rw [e1, e2]
    rw [his] at HH
    obtain ⟨h, hh⟩ : ∃ h, h = hgtO oid := ⟨_, rfl⟩
    rw [← hh] at HH
    clear hV k0 k1 k2 hB h1 hT hn2 ha e1 e2 his hh
    go_enter Tryz.func9, Tryz.ntmps9
    go_upto_region 1 with fail
    rw [← HW.out]
    clear HW
    go_wp2_with (first
      | (go_at_call 27; refine (HH.out _).mono ?_; rintro e w1 ⟨rfl, hw1⟩; rw [← hw1]; clear hw1)
      | ((with_reducible show wpList _ _ _ (Oper.mk _ (.build 33 _) _ _ _ _ :: _) _ _); refine wl_build rfl 33 _ rfl (vec 65 (keyF 0 zb zb)) (by kernel_rfl) ?_)
      | ((with_reducible show wpList _ _ _ (Oper.mk _ (.store 33 _ _) _ _ _ _ :: _) _ _); refine wl_store rfl 33 _ _ rfl _ rfl _ rfl (run_store_arr HK.out.1 (keyF 0 zb zb) infoKey (keyF_one _ _ _ _)) ?_))
    exact bodyPost_ret (results_ct rfl _ _ _ rfl (run_load_arr (HK.out.1.row _) Tryz.underlying33 rfl infoKey)) rfl ⟨rfl, below_row HK.out.2 (by omega) _⟩
  | true =>
    have hle := hgtO_le oid
    rw [his] at HH
    have hE : psE oid idx 67 n2 = (if plcd idx (hgtO oid) n2 then 0 else 81) := by unfold psE; rw [his, psOk_67]; rfl
    obtain ⟨q, hq⟩ : ∃ q, q = plcd idx (hgtO oid) n2 := ⟨_, rfl⟩
    rw [← hq] at hE
    obtain ⟨h, hh⟩ : ∃ h, h = hgtO oid := ⟨_, rfl⟩
    have hq2 : q = (decide (idx < 2 ^ h) && decide (n2 = h)) := by rw [hq, hh]; rfl
    rw [← hh] at HH hle
    obtain ⟨P, hP⟩ : ∃ P, P = 2 ^ h := ⟨_, rfl⟩
    have hP20 : P ≤ 1048576 := by rw [hP]; exact Nat.pow_le_pow_right (by decide) hle
    have hsh : IntKind.u32.wrap (2 ^ h) = (P : Int) := by
      have e : (2 : Int) ^ h = ((2 ^ h : Nat) : Int) := by rw [Int.natCast_pow]; rfl
      rw [e, ← hP, IntKind.wrap_u32]; omega
    rw [← hP] at hq2
    have hMK : mkF oid secret seed idx auth = (if q then keyF (oid : Int) (mkR oid secret seed idx auth) seed else keyF 0 zb zb) := by
      cases q
      · exact mkF_bad (by rw [← hn2, hE]; decide)
      · exact mkF_good (by rw [← hn2, hE]; rfl)
    obtain ⟨L, hL⟩ : ∃ L, L = endsF secret seed idx d15 := ⟨_, rfl⟩
    have hmr : mkR oid secret seed idx auth = rootD (leafD L seed idx) idx auth seed := by rw [hL]; rfl
    obtain ⟨RT, hRT⟩ : ∃ RT, RT = mkR oid secret seed idx auth := ⟨_, rfl⟩
    rw [← hRT] at hMK hmr
    have HEN := Lib.hid hL
    have HRT := Lib.hid hmr.symm
    rw [hE, hMK]
    clear hV k0 k1 k2 hB h1 hT hn2 ha his hh hq hE hMK hL hmr hRT hP
    by_cases g2 : n2 = h
    · have t2 : ((n2 : Int) != (h : Int)) = false := by rw [g2]; simp
      by_cases g3 : idx < P
      · have t3 : ¬ (P : Int) ≤ (idx : Int) := by omega
        rw [decide_eq_true g3, decide_eq_true g2] at hq2
        subst hq2
        clear g2 g3
        have HRW : Hid (NRow w w.heap.size A auth ∧ Tabs w) := HRW0
        go_enter Tryz.func9, Tryz.ntmps9
        go_upto_region 1 with fail
        rw [← HW.out]
        clear HW
        go_upto_region 6 with (go_at_call 27; refine (HH.out _).mono ?_; rintro e w1 ⟨rfl, hw1⟩; rw [← hw1]; clear hw1)
        refine wp_region_held_drew (S := fun Y => VS V Y) (by kernel_rfl) (VS.begin V) (fun hS => ?_)
        (refine held_take (i := 0) (oi := ?ot1) (v := .agg (vec 32 (bys secret))) ?at1 (by kernel_rfl) (by kernel_rfl) (by kernel_rfl) ?bt1 ?ct1 ?dt1 (by assumption) ?rt1; (case at1 => (simp only [List.getElem?_toArray, List.getElem?_cons_zero]; rfl)); (case bt1 => exact fun _ _ _ h => h); (case ct1 => kernel_rfl); (case dt1 => (intro W hW; exact exec_load 30 _ rfl _ rfl _ (run_load_arr (HA.out.1.under (show Below V.heap.size V W from hW)) Tryz.underlying30 rfl info26))); (case' rt1 => simp only [Act.put, List.setIfInBounds_toArray, List.set_cons_zero, List.set_cons_succ]))
        (refine held_take (i := 1) (oi := ?ot2) (v := .agg (vec 32 (bys seed))) ?at2 (by kernel_rfl) (by kernel_rfl) (by kernel_rfl) ?bt2 ?ct2 ?dt2 (by assumption) ?rt2; (case at2 => (simp only [List.getElem?_toArray, List.getElem?_cons_zero, List.getElem?_cons_succ]; rfl)); (case bt2 => exact fun _ _ _ h => h); (case ct2 => kernel_rfl); (case dt2 => (intro W hW; exact exec_load 30 _ rfl _ rfl _ (run_load_arr (HA.out.2.1.under (show Below V.heap.size V W from hW)) Tryz.underlying30 rfl info26))); (case' rt2 => simp only [Act.put, List.setIfInBounds_toArray, List.set_cons_zero, List.set_cons_succ]))
        (refine held_take (i := 2) (oi := ?ot3) (v := ?vt3) ?at3 (by kernel_rfl) (by kernel_rfl) (by kernel_rfl) ?bt3 ?ct3 ?dt3 (by assumption) ?rt3; (case at3 => (simp only [List.getElem?_toArray, List.getElem?_cons_zero, List.getElem?_cons_succ]; rfl)); (case bt3 => exact fun _ _ _ h => h); (case ct3 => kernel_rfl); (case dt3 => (intro W hW; (try dsimp only at hW); go_split_ands; go_simp; (try with_reducible rfl))); (case' rt3 => simp only [Act.put, List.setIfInBounds_toArray, List.set_cons_zero, List.set_cons_succ]))
        (refine held_take (i := 4) (oi := ?ot4) (v := .agg (vec 32 (bys seed))) ?at4 (by kernel_rfl) (by kernel_rfl) (by kernel_rfl) ?bt4 ?ct4 ?dt4 (by assumption) ?rt4; (case at4 => (simp only [List.getElem?_toArray, List.getElem?_cons_zero, List.getElem?_cons_succ]; rfl)); (case bt4 => exact fun _ _ _ h => h); (case ct4 => kernel_rfl); (case dt4 => (intro W hW; exact exec_load 30 _ rfl _ rfl _ (run_load_arr (HA.out.2.1.under (show Below V.heap.size V W from hW)) Tryz.underlying30 rfl info26))); (case' rt4 => simp only [Act.put, List.setIfInBounds_toArray, List.set_cons_zero, List.set_cons_succ]))
        (refine held_take (i := 5) (oi := ?ot5) (v := ?vt5) ?at5 (by kernel_rfl) (by kernel_rfl) (by kernel_rfl) ?bt5 ?ct5 ?dt5 (by assumption) ?rt5; (case at5 => (simp only [List.getElem?_toArray, List.getElem?_cons_zero, List.getElem?_cons_succ]; rfl)); (case bt5 => exact fun _ _ _ h => h); (case ct5 => kernel_rfl); (case dt5 => (intro W hW; (try dsimp only at hW); go_split_ands; go_simp; (try with_reducible rfl))); (case' rt5 => simp only [Act.put, List.setIfInBounds_toArray, List.set_cons_zero, List.set_cons_succ]))
        refine held_two (i := 3) (j := 7) (oi := ?oit44) (oj := ?ojt44) (by kernel_rfl) ?ait44 ?ajt44 ?cit44 ?cjt44 (fun K3 hK3 => ?hit44) (fun K7 hK7 => ?hjt44)
        (case ait44 => (simp only [List.getElem?_toArray, List.getElem?_cons_zero, List.getElem?_cons_succ]; rfl))
        (case ajt44 => (simp only [List.getElem?_toArray, List.getElem?_cons_zero, List.getElem?_cons_succ]; rfl))
        (case cit44 => kernel_rfl)
        (case cjt44 => kernel_rfl)
        case hit44 =>
          have hcall := rends_nil secret seed idx HO.out.1 _ (tabs_below HR.out.2 (show Below V.heap.size V _ from hS))
          rw [← HEN.out] at hcall
          go_simp
          refine hcall.mono ?_
          rintro e y3 ⟨v, rfl, ho, hd⟩
          (try have HE := Lib.hid ((HE.out.below hd).wide hd.size))
          (try have HG := Lib.hid (And.intro (HG.out.1.under hd) HG.out.2))
          obtain ⟨E, cE, rfl, -, hrow⟩ := ho.row
          have HE := Lib.hid hrow
          refine hK3 _ _ (hS.keep hd) (fun hS3 => ?_)
          clear hcall ho hrow hd hK3 K3
          refine held_two (i := 6) (j := 7) (oi := ?oit30) (oj := ?ojt30) (by kernel_rfl) ?ait30 ?ajt30 ?cit30 ?cjt30 (fun K6 hK6 => ?hit30) (fun K7 hK7 => ?hjt30)
          (case ait30 => (simp only [List.getElem?_toArray, List.getElem?_cons_zero, List.getElem?_cons_succ]; rfl))
          (case ajt30 => (simp only [List.getElem?_toArray, List.getElem?_cons_zero, List.getElem?_cons_succ]; rfl))
          (case cit30 => kernel_rfl)
          (case cjt30 => kernel_rfl)
          case hit30 =>
            have hcall := rleaf_any E cE L seed idx HO.out.1 _ HE.out (tabs_below HR.out.2 (show Below V.heap.size V _ from hS3))
            go_simp
            refine hcall.mono ?_
            rintro e y6 ⟨rfl, hd⟩
            (try have HE := Lib.hid ((HE.out.below hd).wide hd.size))
            (try have HG := Lib.hid (And.intro (HG.out.1.under hd) HG.out.2))
            refine hK6 _ _ (hS3.keep hd) (fun hS6 => ?_)
            clear hcall hd hK6 K6
            refine held_one (i := 7) (oi := ?ot6) (by kernel_rfl) ?at6 ?ct6 (fun K7 hK7 => ?_)
            (case at6 => (simp only [List.getElem?_toArray, List.getElem?_cons_zero, List.getElem?_cons_succ]; rfl))
            (case ct6 => kernel_rfl)
            go_simp
            obtain ⟨y7, hy⟩ : ∃ y, y = (y6.alloc (.cells (vec 32 (bys zb)) 30)) := ⟨_, rfl⟩
            have hd : Below y6.heap.size y6 y7 := by rw [hy]; exact (show Below y6.heap.size y6 (y6.alloc (.cells (vec 32 (bys zb)) 30)) from (Below.refl _ _).alloc (Nat.le_refl _) _)
            have hgl : V.heap.size ≤ y6.heap.size := (show Below V.heap.size V _ from hS6).size
            obtain ⟨g, hg⟩ : ∃ g, g = y6.heap.size := ⟨_, rfl⟩
            have hga : Arr y7 g 30 32 (bys zb) := by rw [hy, hg]; exact Arr.new y6 _ _ _
            have HG := Lib.hid (And.intro hga (by rw [hg]; exact hgl : V.heap.size ≤ g))
            (try have HE := Lib.hid ((HE.out.below hd).wide hd.size))
            have hSb := VS.keep hS6 hd
            have HGL := Lib.hid (show V.heap.size ≤ g by rw [hg]; exact hgl)
            clear hd hgl hga
            rw [← hy, ← hg]
            clear hy hg
            refine hK7 _ _ hSb (fun hS7 => ?_)
            clear hSb hK7 K7
            refine held_one (i := 8) (oi := ?ot7) (by kernel_rfl) ?at7 ?ct7 (fun K8 hK8 => ?_)
            (case at7 => (simp only [List.getElem?_toArray, List.getElem?_cons_zero, List.getElem?_cons_succ]; rfl))
            (case ct7 => kernel_rfl)
            refine ow_store 30 _ _ rfl _ rfl _ rfl (run_store_arr HG.out.1 (bys (leafD L seed idx)) info26 (bys_one _ _)) ?_
            have hga := HG.out.1.row (bys (leafD L seed idx))
            have hSb := below_row (show Below V.heap.size V _ from hS7) HG.out.2 (vec 32 (bys (leafD L seed idx)))
            obtain ⟨X8, hX8⟩ : ∃ Z, Z = World.setRow y7 g (vec 32 (bys (leafD L seed idx))) := ⟨_, rfl⟩
            rw [← hX8] at hga hSb
            have HG := Lib.hid hga
            rw [← hX8]
            clear hX8 hga
            refine hK8 _ _ hSb (fun hS8 => ?_)
            clear hSb hK8 K8
            refine wpAnyH_done (by kernel_rfl) ?_ _
            have hVX : Below V.heap.size V X8 := hS8
            have HX := Lib.hid (And.intro HG.out (And.intro (HA.out.2.1.under hVX) (And.intro (HA.out.2.2.1.under hVX) (And.intro (HA.out.2.2.2.trans (hVX.mono HA.out.2.2.2.size)) (And.intro ((HR.out.1.below hVX).wide hVX.size) (tabs_below HR.out.2 hVX))))))
            have HGV : Hid (V.heap.size ≤ g ∧ w.heap.size + 2 < V.heap.size) := Lib.hid ⟨HGL.out, HA.out.2.2.1.lt⟩
            clear hVX hS8 HG HK
            go_upto_region 7 with fail
            refine wp_region_held_drew (S := fun Y => Save (w.heap.size + 2) X8 Y ∧ ∃ f, Arr Y (w.heap.size + 2) 33 65 f) (by kernel_rfl) ⟨Save.of_below (VS.begin X8), _, HX.out.2.2.1⟩ (fun hS => ?_)
            (refine held_take (i := 0) (oi := ?ot8) (v := ?vt8) ?at8 (by kernel_rfl) (by kernel_rfl) (by kernel_rfl) ?bt8 ?ct8 ?dt8 (by assumption) ?rt8; (case at8 => (simp only [List.getElem?_toArray, List.getElem?_cons_zero]; rfl)); (case bt8 => exact fun _ _ _ h => h); (case ct8 => kernel_rfl); (case dt8 => (intro W hW; (try dsimp only at hW); go_split_ands; go_simp; (try with_reducible rfl))); (case' rt8 => simp only [Act.put, List.setIfInBounds_toArray, List.set_cons_zero, List.set_cons_succ]))
            (refine held_take (i := 1) (oi := ?ot9) (v := .agg (vec 32 (bys (leafD L seed idx)))) ?at9 (by kernel_rfl) (by kernel_rfl) (by kernel_rfl) ?bt9 ?ct9 ?dt9 (by assumption) ?rt9; (case at9 => (simp only [List.getElem?_toArray, List.getElem?_cons_zero, List.getElem?_cons_succ]; rfl)); (case bt9 => exact fun _ _ _ h => h); (case ct9 => kernel_rfl); (case dt9 => (intro W hW; exact exec_load 30 _ rfl _ rfl _ (run_load_arr (HX.out.1.save hW.1 (by have := HGV.out.1; have := HGV.out.2; omega)) Tryz.underlying30 rfl info26))); (case' rt9 => simp only [Act.put, List.setIfInBounds_toArray, List.set_cons_zero, List.set_cons_succ]))
            (refine held_take (i := 2) (oi := ?ot10) (v := ?vt10) ?at10 (by kernel_rfl) (by kernel_rfl) (by kernel_rfl) ?bt10 ?ct10 ?dt10 (by assumption) ?rt10; (case at10 => (simp only [List.getElem?_toArray, List.getElem?_cons_zero, List.getElem?_cons_succ]; rfl)); (case bt10 => exact fun _ _ _ h => h); (case ct10 => kernel_rfl); (case dt10 => (intro W hW; (try dsimp only at hW); go_split_ands; go_simp; (try with_reducible rfl))); (case' rt10 => simp only [Act.put, List.setIfInBounds_toArray, List.set_cons_zero, List.set_cons_succ]))
            (refine held_take (i := 3) (oi := ?ot11) (v := ?vt11) ?at11 (by kernel_rfl) (by kernel_rfl) (by kernel_rfl) ?bt11 ?ct11 ?dt11 (by assumption) ?rt11; (case at11 => (simp only [List.getElem?_toArray, List.getElem?_cons_zero, List.getElem?_cons_succ]; rfl)); (case bt11 => exact fun _ _ _ h => h); (case ct11 => kernel_rfl); (case dt11 => (intro W hW; (try dsimp only at hW); go_split_ands; go_simp; (try with_reducible rfl))); (case' rt11 => simp only [Act.put, List.setIfInBounds_toArray, List.set_cons_zero, List.set_cons_succ]))
            (refine held_take (i := 4) (oi := ?ot12) (v := .agg (vec 32 (bys seed))) ?at12 (by kernel_rfl) (by kernel_rfl) (by kernel_rfl) ?bt12 ?ct12 ?dt12 (by assumption) ?rt12; (case at12 => (simp only [List.getElem?_toArray, List.getElem?_cons_zero, List.getElem?_cons_succ]; rfl)); (case bt12 => exact fun _ _ _ h => h); (case ct12 => kernel_rfl); (case dt12 => (intro W hW; exact exec_load 30 _ rfl _ rfl _ (run_load_arr (HX.out.2.1.save hW.1 (by have := HGV.out.1; have := HGV.out.2; omega)) Tryz.underlying30 rfl info26))); (case' rt12 => simp only [Act.put, List.setIfInBounds_toArray, List.set_cons_zero, List.set_cons_succ]))
            (refine held_take (i := 6) (oi := ?ot13) (v := .agg (vec 32 (bys seed))) ?at13 (by kernel_rfl) (by kernel_rfl) (by kernel_rfl) ?bt13 ?ct13 ?dt13 (by assumption) ?rt13; (case at13 => (simp only [List.getElem?_toArray, List.getElem?_cons_zero, List.getElem?_cons_succ]; rfl)); (case bt13 => exact fun _ _ _ h => h); (case ct13 => kernel_rfl); (case dt13 => (intro W hW; exact exec_load 30 _ rfl _ rfl _ (run_load_arr (HX.out.2.1.save hW.1 (by have := HGV.out.1; have := HGV.out.2; omega)) Tryz.underlying30 rfl info26))); (case' rt13 => simp only [Act.put, List.setIfInBounds_toArray, List.set_cons_zero, List.set_cons_succ]))
            refine held_one (i := 5) (oi := ?ot14) (by kernel_rfl) ?at14 ?ct14 (fun K5 hK5 => ?_)
            (case at14 => (simp only [List.getElem?_toArray, List.getElem?_cons_zero, List.getElem?_cons_succ]; rfl))
            (case ct14 => kernel_rfl)
            have hbX : Below w.heap.size w _ := HX.out.2.2.2.1.trans (hS.1.below (B := w.heap.size) (by omega) HX.out.2.2.2.1.size)
            have hcall := rroot_any (leafD L seed idx) idx HO.out.1 A c auth seed _ ((HRW.out.1.below hbX).wide hbX.size) (tabs_below HRW.out.2 hbX)
            rw [← HO.out.2.1, HRT.out] at hcall
            go_simp
            refine hcall.mono ?_
            rintro e z5 ⟨rfl, hd⟩
            refine hK5 _ _ ⟨hS.1.trans (Save.of_below hd), hS.2.elim fun f hf => ⟨f, hf.under hd⟩⟩ (fun hS5 => ?_)
            clear hcall hbX hd hK5 K5
            (refine held_take (i := 7) (oi := ?ot15) (v := .agg (vec 65 (keyF (oid : Int) RT seed))) ?at15 (by kernel_rfl) (by kernel_rfl) (by kernel_rfl) ?bt15 ?ct15 ?dt15 (by assumption) ?rt15; (case at15 => (simp only [List.getElem?_toArray, List.getElem?_cons_zero, List.getElem?_cons_succ]; rfl)); (case bt15 => exact fun _ _ _ h => h); (case ct15 => kernel_rfl); (case dt15 => (intro W hW; exact exec_build 33 _ rfl (vec 65 (keyF (oid : Int) RT seed)) (by kernel_rfl) W)); (case' rt15 => simp only [Act.put, List.setIfInBounds_toArray, List.set_cons_zero, List.set_cons_succ]))
            refine held_one (i := 8) (oi := ?ot16) (by kernel_rfl) ?at16 ?ct16 (fun K8 hK8 => ?_)
            (case at16 => (simp only [List.getElem?_toArray, List.getElem?_cons_zero, List.getElem?_cons_succ]; rfl))
            (case ct16 => kernel_rfl)
            obtain ⟨fR, hR⟩ := hS5.2
            refine ow_store 33 _ _ rfl _ rfl _ rfl (run_store_arr hR (keyF (oid : Int) RT seed) infoKey (keyF_one _ _ _ _)) ?_
            have hRR := hR.row (keyF (oid : Int) RT seed)
            refine hK8 _ _ ⟨hS5.1.setRow _, _, hRR⟩ (fun hS8 => ?_)
            have HF := Lib.hid hRR
            clear hK8 K8 hRR
            (refine held_take (i := 9) (oi := ?ot17) (v := ?vt17) ?at17 (by kernel_rfl) (by kernel_rfl) (by kernel_rfl) ?bt17 ?ct17 ?dt17 (by assumption) ?rt17; (case at17 => (simp only [List.getElem?_toArray, List.getElem?_cons_zero, List.getElem?_cons_succ]; rfl)); (case bt17 => exact fun _ _ _ h => h); (case ct17 => kernel_rfl); (case dt17 => (intro W hW; (try dsimp only at hW); go_split_ands; go_simp; (try with_reducible rfl))); (case' rt17 => simp only [Act.put, List.setIfInBounds_toArray, List.set_cons_zero, List.set_cons_succ]))
            refine wpAnyH_done (by kernel_rfl) ?_ _
            go_wp2
            exact bodyPost_ret (results_ct rfl _ _ _ rfl (run_load_arr HF.out Tryz.underlying33 rfl infoKey)) rfl ⟨rfl, HX.out.2.2.2.1.trans (hS8.1.below (by omega) HX.out.2.2.2.1.size)⟩
          case hjt30 =>
            go_simp
            obtain ⟨y7, hy⟩ : ∃ y, y = (y3.alloc (.cells (vec 32 (bys zb)) 30)) := ⟨_, rfl⟩
            have hd : Below y3.heap.size y3 y7 := by rw [hy]; exact (show Below y3.heap.size y3 (y3.alloc (.cells (vec 32 (bys zb)) 30)) from (Below.refl _ _).alloc (Nat.le_refl _) _)
            have hgl : V.heap.size ≤ y3.heap.size := (show Below V.heap.size V _ from hS3).size
            obtain ⟨g, hg⟩ : ∃ g, g = y3.heap.size := ⟨_, rfl⟩
            have hga : Arr y7 g 30 32 (bys zb) := by rw [hy, hg]; exact Arr.new y3 _ _ _
            have HG := Lib.hid (And.intro hga (by rw [hg]; exact hgl : V.heap.size ≤ g))
            (try have HE := Lib.hid ((HE.out.below hd).wide hd.size))
            have hSb := VS.keep hS3 hd
            have HGL := Lib.hid (show V.heap.size ≤ g by rw [hg]; exact hgl)
            clear hd hgl hga
            rw [← hy, ← hg]
            clear hy hg
            refine hK7 _ _ hSb (fun hS7 => ?_)
            clear hSb hK7 K7
            refine held_one (i := 6) (oi := ?ot18) (by kernel_rfl) ?at18 ?ct18 (fun K6 hK6 => ?_)
            (case at18 => (simp only [List.getElem?_toArray, List.getElem?_cons_zero, List.getElem?_cons_succ]; rfl))
            (case ct18 => kernel_rfl)
            have hcall := rleaf_any E cE L seed idx HO.out.1 _ HE.out (tabs_below HR.out.2 (show Below V.heap.size V _ from hS7))
            go_simp
            refine hcall.mono ?_
            rintro e y6 ⟨rfl, hd⟩
            (try have HE := Lib.hid ((HE.out.below hd).wide hd.size))
            (try have HG := Lib.hid (And.intro (HG.out.1.under hd) HG.out.2))
            refine hK6 _ _ (hS7.keep hd) (fun hS6 => ?_)
            clear hcall hd hK6 K6
            refine held_one (i := 8) (oi := ?ot19) (by kernel_rfl) ?at19 ?ct19 (fun K8 hK8 => ?_)
            (case at19 => (simp only [List.getElem?_toArray, List.getElem?_cons_zero, List.getElem?_cons_succ]; rfl))
            (case ct19 => kernel_rfl)
            refine ow_store 30 _ _ rfl _ rfl _ rfl (run_store_arr HG.out.1 (bys (leafD L seed idx)) info26 (bys_one _ _)) ?_
            have hga := HG.out.1.row (bys (leafD L seed idx))
            have hSb := below_row (show Below V.heap.size V _ from hS6) HG.out.2 (vec 32 (bys (leafD L seed idx)))
            obtain ⟨X8, hX8⟩ : ∃ Z, Z = World.setRow y6 g (vec 32 (bys (leafD L seed idx))) := ⟨_, rfl⟩
            rw [← hX8] at hga hSb
            have HG := Lib.hid hga
            rw [← hX8]
            clear hX8 hga
            refine hK8 _ _ hSb (fun hS8 => ?_)
            clear hSb hK8 K8
            refine wpAnyH_done (by kernel_rfl) ?_ _
            have hVX : Below V.heap.size V X8 := hS8
            have HX := Lib.hid (And.intro HG.out (And.intro (HA.out.2.1.under hVX) (And.intro (HA.out.2.2.1.under hVX) (And.intro (HA.out.2.2.2.trans (hVX.mono HA.out.2.2.2.size)) (And.intro ((HR.out.1.below hVX).wide hVX.size) (tabs_below HR.out.2 hVX))))))
            have HGV : Hid (V.heap.size ≤ g ∧ w.heap.size + 2 < V.heap.size) := Lib.hid ⟨HGL.out, HA.out.2.2.1.lt⟩
            clear hVX hS8 HG HK
            go_upto_region 7 with fail
            refine wp_region_held_drew (S := fun Y => Save (w.heap.size + 2) X8 Y ∧ ∃ f, Arr Y (w.heap.size + 2) 33 65 f) (by kernel_rfl) ⟨Save.of_below (VS.begin X8), _, HX.out.2.2.1⟩ (fun hS => ?_)
            (refine held_take (i := 0) (oi := ?ot20) (v := ?vt20) ?at20 (by kernel_rfl) (by kernel_rfl) (by kernel_rfl) ?bt20 ?ct20 ?dt20 (by assumption) ?rt20; (case at20 => (simp only [List.getElem?_toArray, List.getElem?_cons_zero]; rfl)); (case bt20 => exact fun _ _ _ h => h); (case ct20 => kernel_rfl); (case dt20 => (intro W hW; (try dsimp only at hW); go_split_ands; go_simp; (try with_reducible rfl))); (case' rt20 => simp only [Act.put, List.setIfInBounds_toArray, List.set_cons_zero, List.set_cons_succ]))
            (refine held_take (i := 1) (oi := ?ot21) (v := .agg (vec 32 (bys (leafD L seed idx)))) ?at21 (by kernel_rfl) (by kernel_rfl) (by kernel_rfl) ?bt21 ?ct21 ?dt21 (by assumption) ?rt21; (case at21 => (simp only [List.getElem?_toArray, List.getElem?_cons_zero, List.getElem?_cons_succ]; rfl)); (case bt21 => exact fun _ _ _ h => h); (case ct21 => kernel_rfl); (case dt21 => (intro W hW; exact exec_load 30 _ rfl _ rfl _ (run_load_arr (HX.out.1.save hW.1 (by have := HGV.out.1; have := HGV.out.2; omega)) Tryz.underlying30 rfl info26))); (case' rt21 => simp only [Act.put, List.setIfInBounds_toArray, List.set_cons_zero, List.set_cons_succ]))
            (refine held_take (i := 2) (oi := ?ot22) (v := ?vt22) ?at22 (by kernel_rfl) (by kernel_rfl) (by kernel_rfl) ?bt22 ?ct22 ?dt22 (by assumption) ?rt22; (case at22 => (simp only [List.getElem?_toArray, List.getElem?_cons_zero, List.getElem?_cons_succ]; rfl)); (case bt22 => exact fun _ _ _ h => h); (case ct22 => kernel_rfl); (case dt22 => (intro W hW; (try dsimp only at hW); go_split_ands; go_simp; (try with_reducible rfl))); (case' rt22 => simp only [Act.put, List.setIfInBounds_toArray, List.set_cons_zero, List.set_cons_succ]))
            (refine held_take (i := 3) (oi := ?ot23) (v := ?vt23) ?at23 (by kernel_rfl) (by kernel_rfl) (by kernel_rfl) ?bt23 ?ct23 ?dt23 (by assumption) ?rt23; (case at23 => (simp only [List.getElem?_toArray, List.getElem?_cons_zero, List.getElem?_cons_succ]; rfl)); (case bt23 => exact fun _ _ _ h => h); (case ct23 => kernel_rfl); (case dt23 => (intro W hW; (try dsimp only at hW); go_split_ands; go_simp; (try with_reducible rfl))); (case' rt23 => simp only [Act.put, List.setIfInBounds_toArray, List.set_cons_zero, List.set_cons_succ]))
            (refine held_take (i := 4) (oi := ?ot24) (v := .agg (vec 32 (bys seed))) ?at24 (by kernel_rfl) (by kernel_rfl) (by kernel_rfl) ?bt24 ?ct24 ?dt24 (by assumption) ?rt24; (case at24 => (simp only [List.getElem?_toArray, List.getElem?_cons_zero, List.getElem?_cons_succ]; rfl)); (case bt24 => exact fun _ _ _ h => h); (case ct24 => kernel_rfl); (case dt24 => (intro W hW; exact exec_load 30 _ rfl _ rfl _ (run_load_arr (HX.out.2.1.save hW.1 (by have := HGV.out.1; have := HGV.out.2; omega)) Tryz.underlying30 rfl info26))); (case' rt24 => simp only [Act.put, List.setIfInBounds_toArray, List.set_cons_zero, List.set_cons_succ]))
            (refine held_take (i := 6) (oi := ?ot25) (v := .agg (vec 32 (bys seed))) ?at25 (by kernel_rfl) (by kernel_rfl) (by kernel_rfl) ?bt25 ?ct25 ?dt25 (by assumption) ?rt25; (case at25 => (simp only [List.getElem?_toArray, List.getElem?_cons_zero, List.getElem?_cons_succ]; rfl)); (case bt25 => exact fun _ _ _ h => h); (case ct25 => kernel_rfl); (case dt25 => (intro W hW; exact exec_load 30 _ rfl _ rfl _ (run_load_arr (HX.out.2.1.save hW.1 (by have := HGV.out.1; have := HGV.out.2; omega)) Tryz.underlying30 rfl info26))); (case' rt25 => simp only [Act.put, List.setIfInBounds_toArray, List.set_cons_zero, List.set_cons_succ]))
            refine held_one (i := 5) (oi := ?ot26) (by kernel_rfl) ?at26 ?ct26 (fun K5 hK5 => ?_)
            (case at26 => (simp only [List.getElem?_toArray, List.getElem?_cons_zero, List.getElem?_cons_succ]; rfl))
            (case ct26 => kernel_rfl)
            have hbX : Below w.heap.size w _ := HX.out.2.2.2.1.trans (hS.1.below (B := w.heap.size) (by omega) HX.out.2.2.2.1.size)
            have hcall := rroot_any (leafD L seed idx) idx HO.out.1 A c auth seed _ ((HRW.out.1.below hbX).wide hbX.size) (tabs_below HRW.out.2 hbX)
            rw [← HO.out.2.1, HRT.out] at hcall
            go_simp
            refine hcall.mono ?_
            rintro e z5 ⟨rfl, hd⟩
            refine hK5 _ _ ⟨hS.1.trans (Save.of_below hd), hS.2.elim fun f hf => ⟨f, hf.under hd⟩⟩ (fun hS5 => ?_)
            clear hcall hbX hd hK5 K5
            (refine held_take (i := 7) (oi := ?ot27) (v := .agg (vec 65 (keyF (oid : Int) RT seed))) ?at27 (by kernel_rfl) (by kernel_rfl) (by kernel_rfl) ?bt27 ?ct27 ?dt27 (by assumption) ?rt27; (case at27 => (simp only [List.getElem?_toArray, List.getElem?_cons_zero, List.getElem?_cons_succ]; rfl)); (case bt27 => exact fun _ _ _ h => h); (case ct27 => kernel_rfl); (case dt27 => (intro W hW; exact exec_build 33 _ rfl (vec 65 (keyF (oid : Int) RT seed)) (by kernel_rfl) W)); (case' rt27 => simp only [Act.put, List.setIfInBounds_toArray, List.set_cons_zero, List.set_cons_succ]))
            refine held_one (i := 8) (oi := ?ot28) (by kernel_rfl) ?at28 ?ct28 (fun K8 hK8 => ?_)
            (case at28 => (simp only [List.getElem?_toArray, List.getElem?_cons_zero, List.getElem?_cons_succ]; rfl))
            (case ct28 => kernel_rfl)
            obtain ⟨fR, hR⟩ := hS5.2
            refine ow_store 33 _ _ rfl _ rfl _ rfl (run_store_arr hR (keyF (oid : Int) RT seed) infoKey (keyF_one _ _ _ _)) ?_
            have hRR := hR.row (keyF (oid : Int) RT seed)
            refine hK8 _ _ ⟨hS5.1.setRow _, _, hRR⟩ (fun hS8 => ?_)
            have HF := Lib.hid hRR
            clear hK8 K8 hRR
            (refine held_take (i := 9) (oi := ?ot29) (v := ?vt29) ?at29 (by kernel_rfl) (by kernel_rfl) (by kernel_rfl) ?bt29 ?ct29 ?dt29 (by assumption) ?rt29; (case at29 => (simp only [List.getElem?_toArray, List.getElem?_cons_zero, List.getElem?_cons_succ]; rfl)); (case bt29 => exact fun _ _ _ h => h); (case ct29 => kernel_rfl); (case dt29 => (intro W hW; (try dsimp only at hW); go_split_ands; go_simp; (try with_reducible rfl))); (case' rt29 => simp only [Act.put, List.setIfInBounds_toArray, List.set_cons_zero, List.set_cons_succ]))
            refine wpAnyH_done (by kernel_rfl) ?_ _
            go_wp2
            exact bodyPost_ret (results_ct rfl _ _ _ rfl (run_load_arr HF.out Tryz.underlying33 rfl infoKey)) rfl ⟨rfl, HX.out.2.2.2.1.trans (hS8.1.below (by omega) HX.out.2.2.2.1.size)⟩
        case hjt44 =>
          go_simp
          obtain ⟨y7, hy⟩ : ∃ y, y = (V.alloc (.cells (vec 32 (bys zb)) 30)).drew := ⟨_, rfl⟩
          have hd : Below V.heap.size V.drew y7 := by rw [hy]; exact (show Below V.drew.heap.size V.drew (V.drew.alloc (.cells (vec 32 (bys zb)) 30)) from (Below.refl _ _).alloc (Nat.le_refl _) _)
          have hgl : V.heap.size ≤ V.heap.size := (show Below V.heap.size V _ from hS).size
          obtain ⟨g, hg⟩ : ∃ g, g = V.heap.size := ⟨_, rfl⟩
          have hga : Arr y7 g 30 32 (bys zb) := by rw [hy, hg]; exact Arr.new V _ _ _
          have HG := Lib.hid (And.intro hga (by rw [hg]; exact hgl : V.heap.size ≤ g))
          (try have HE := Lib.hid ((HE.out.below hd).wide hd.size))
          have hSb := VS.keep hS hd
          have HGL := Lib.hid (show V.heap.size ≤ g by rw [hg]; exact hgl)
          clear hd hgl hga
          rw [← hy, ← hg]
          clear hy hg
          refine hK7 _ _ hSb (fun hS7 => ?_)
          clear hSb hK7 K7
          refine held_one (i := 3) (oi := ?ot31) (by kernel_rfl) ?at31 ?ct31 (fun K3 hK3 => ?_)
          (case at31 => (simp only [List.getElem?_toArray, List.getElem?_cons_zero, List.getElem?_cons_succ]; rfl))
          (case ct31 => kernel_rfl)
          have hcall := rends_nil secret seed idx HO.out.1 _ (tabs_below HR.out.2 (show Below V.heap.size V _ from hS7))
          rw [← HEN.out] at hcall
          go_simp
          refine hcall.mono ?_
          rintro e y3 ⟨v, rfl, ho, hd⟩
          (try have HE := Lib.hid ((HE.out.below hd).wide hd.size))
          (try have HG := Lib.hid (And.intro (HG.out.1.under hd) HG.out.2))
          obtain ⟨E, cE, rfl, -, hrow⟩ := ho.row
          have HE := Lib.hid hrow
          refine hK3 _ _ (hS7.keep hd) (fun hS3 => ?_)
          clear hcall ho hrow hd hK3 K3
          refine held_one (i := 6) (oi := ?ot32) (by kernel_rfl) ?at32 ?ct32 (fun K6 hK6 => ?_)
          (case at32 => (simp only [List.getElem?_toArray, List.getElem?_cons_zero, List.getElem?_cons_succ]; rfl))
          (case ct32 => kernel_rfl)
          have hcall := rleaf_any E cE L seed idx HO.out.1 _ HE.out (tabs_below HR.out.2 (show Below V.heap.size V _ from hS3))
          go_simp
          refine hcall.mono ?_
          rintro e y6 ⟨rfl, hd⟩
          (try have HE := Lib.hid ((HE.out.below hd).wide hd.size))
          (try have HG := Lib.hid (And.intro (HG.out.1.under hd) HG.out.2))
          refine hK6 _ _ (hS3.keep hd) (fun hS6 => ?_)
          clear hcall hd hK6 K6
          refine held_one (i := 8) (oi := ?ot33) (by kernel_rfl) ?at33 ?ct33 (fun K8 hK8 => ?_)
          (case at33 => (simp only [List.getElem?_toArray, List.getElem?_cons_zero, List.getElem?_cons_succ]; rfl))
          (case ct33 => kernel_rfl)
          refine ow_store 30 _ _ rfl _ rfl _ rfl (run_store_arr HG.out.1 (bys (leafD L seed idx)) info26 (bys_one _ _)) ?_
          have hga := HG.out.1.row (bys (leafD L seed idx))
          have hSb := below_row (show Below V.heap.size V _ from hS6) HG.out.2 (vec 32 (bys (leafD L seed idx)))
          obtain ⟨X8, hX8⟩ : ∃ Z, Z = World.setRow y6 g (vec 32 (bys (leafD L seed idx))) := ⟨_, rfl⟩
          rw [← hX8] at hga hSb
          have HG := Lib.hid hga
          rw [← hX8]
          clear hX8 hga
          refine hK8 _ _ hSb (fun hS8 => ?_)
          clear hSb hK8 K8
          refine wpAnyH_done (by kernel_rfl) ?_ _
          have hVX : Below V.heap.size V X8 := hS8
          have HX := Lib.hid (And.intro HG.out (And.intro (HA.out.2.1.under hVX) (And.intro (HA.out.2.2.1.under hVX) (And.intro (HA.out.2.2.2.trans (hVX.mono HA.out.2.2.2.size)) (And.intro ((HR.out.1.below hVX).wide hVX.size) (tabs_below HR.out.2 hVX))))))
          have HGV : Hid (V.heap.size ≤ g ∧ w.heap.size + 2 < V.heap.size) := Lib.hid ⟨HGL.out, HA.out.2.2.1.lt⟩
          clear hVX hS8 HG HK
          go_upto_region 7 with fail
          refine wp_region_held_drew (S := fun Y => Save (w.heap.size + 2) X8 Y ∧ ∃ f, Arr Y (w.heap.size + 2) 33 65 f) (by kernel_rfl) ⟨Save.of_below (VS.begin X8), _, HX.out.2.2.1⟩ (fun hS => ?_)
          (refine held_take (i := 0) (oi := ?ot34) (v := ?vt34) ?at34 (by kernel_rfl) (by kernel_rfl) (by kernel_rfl) ?bt34 ?ct34 ?dt34 (by assumption) ?rt34; (case at34 => (simp only [List.getElem?_toArray, List.getElem?_cons_zero]; rfl)); (case bt34 => exact fun _ _ _ h => h); (case ct34 => kernel_rfl); (case dt34 => (intro W hW; (try dsimp only at hW); go_split_ands; go_simp; (try with_reducible rfl))); (case' rt34 => simp only [Act.put, List.setIfInBounds_toArray, List.set_cons_zero, List.set_cons_succ]))
          (refine held_take (i := 1) (oi := ?ot35) (v := .agg (vec 32 (bys (leafD L seed idx)))) ?at35 (by kernel_rfl) (by kernel_rfl) (by kernel_rfl) ?bt35 ?ct35 ?dt35 (by assumption) ?rt35; (case at35 => (simp only [List.getElem?_toArray, List.getElem?_cons_zero, List.getElem?_cons_succ]; rfl)); (case bt35 => exact fun _ _ _ h => h); (case ct35 => kernel_rfl); (case dt35 => (intro W hW; exact exec_load 30 _ rfl _ rfl _ (run_load_arr (HX.out.1.save hW.1 (by have := HGV.out.1; have := HGV.out.2; omega)) Tryz.underlying30 rfl info26))); (case' rt35 => simp only [Act.put, List.setIfInBounds_toArray, List.set_cons_zero, List.set_cons_succ]))
          (refine held_take (i := 2) (oi := ?ot36) (v := ?vt36) ?at36 (by kernel_rfl) (by kernel_rfl) (by kernel_rfl) ?bt36 ?ct36 ?dt36 (by assumption) ?rt36; (case at36 => (simp only [List.getElem?_toArray, List.getElem?_cons_zero, List.getElem?_cons_succ]; rfl)); (case bt36 => exact fun _ _ _ h => h); (case ct36 => kernel_rfl); (case dt36 => (intro W hW; (try dsimp only at hW); go_split_ands; go_simp; (try with_reducible rfl))); (case' rt36 => simp only [Act.put, List.setIfInBounds_toArray, List.set_cons_zero, List.set_cons_succ]))
          (refine held_take (i := 3) (oi := ?ot37) (v := ?vt37) ?at37 (by kernel_rfl) (by kernel_rfl) (by kernel_rfl) ?bt37 ?ct37 ?dt37 (by assumption) ?rt37; (case at37 => (simp only [List.getElem?_toArray, List.getElem?_cons_zero, List.getElem?_cons_succ]; rfl)); (case bt37 => exact fun _ _ _ h => h); (case ct37 => kernel_rfl); (case dt37 => (intro W hW; (try dsimp only at hW); go_split_ands; go_simp; (try with_reducible rfl))); (case' rt37 => simp only [Act.put, List.setIfInBounds_toArray, List.set_cons_zero, List.set_cons_succ]))
          (refine held_take (i := 4) (oi := ?ot38) (v := .agg (vec 32 (bys seed))) ?at38 (by kernel_rfl) (by kernel_rfl) (by kernel_rfl) ?bt38 ?ct38 ?dt38 (by assumption) ?rt38; (case at38 => (simp only [List.getElem?_toArray, List.getElem?_cons_zero, List.getElem?_cons_succ]; rfl)); (case bt38 => exact fun _ _ _ h => h); (case ct38 => kernel_rfl); (case dt38 => (intro W hW; exact exec_load 30 _ rfl _ rfl _ (run_load_arr (HX.out.2.1.save hW.1 (by have := HGV.out.1; have := HGV.out.2; omega)) Tryz.underlying30 rfl info26))); (case' rt38 => simp only [Act.put, List.setIfInBounds_toArray, List.set_cons_zero, List.set_cons_succ]))
          (refine held_take (i := 6) (oi := ?ot39) (v := .agg (vec 32 (bys seed))) ?at39 (by kernel_rfl) (by kernel_rfl) (by kernel_rfl) ?bt39 ?ct39 ?dt39 (by assumption) ?rt39; (case at39 => (simp only [List.getElem?_toArray, List.getElem?_cons_zero, List.getElem?_cons_succ]; rfl)); (case bt39 => exact fun _ _ _ h => h); (case ct39 => kernel_rfl); (case dt39 => (intro W hW; exact exec_load 30 _ rfl _ rfl _ (run_load_arr (HX.out.2.1.save hW.1 (by have := HGV.out.1; have := HGV.out.2; omega)) Tryz.underlying30 rfl info26))); (case' rt39 => simp only [Act.put, List.setIfInBounds_toArray, List.set_cons_zero, List.set_cons_succ]))
          refine held_one (i := 5) (oi := ?ot40) (by kernel_rfl) ?at40 ?ct40 (fun K5 hK5 => ?_)
          (case at40 => (simp only [List.getElem?_toArray, List.getElem?_cons_zero, List.getElem?_cons_succ]; rfl))
          (case ct40 => kernel_rfl)
          have hbX : Below w.heap.size w _ := HX.out.2.2.2.1.trans (hS.1.below (B := w.heap.size) (by omega) HX.out.2.2.2.1.size)
          have hcall := rroot_any (leafD L seed idx) idx HO.out.1 A c auth seed _ ((HRW.out.1.below hbX).wide hbX.size) (tabs_below HRW.out.2 hbX)
          rw [← HO.out.2.1, HRT.out] at hcall
          go_simp
          refine hcall.mono ?_
          rintro e z5 ⟨rfl, hd⟩
          refine hK5 _ _ ⟨hS.1.trans (Save.of_below hd), hS.2.elim fun f hf => ⟨f, hf.under hd⟩⟩ (fun hS5 => ?_)
          clear hcall hbX hd hK5 K5
          (refine held_take (i := 7) (oi := ?ot41) (v := .agg (vec 65 (keyF (oid : Int) RT seed))) ?at41 (by kernel_rfl) (by kernel_rfl) (by kernel_rfl) ?bt41 ?ct41 ?dt41 (by assumption) ?rt41; (case at41 => (simp only [List.getElem?_toArray, List.getElem?_cons_zero, List.getElem?_cons_succ]; rfl)); (case bt41 => exact fun _ _ _ h => h); (case ct41 => kernel_rfl); (case dt41 => (intro W hW; exact exec_build 33 _ rfl (vec 65 (keyF (oid : Int) RT seed)) (by kernel_rfl) W)); (case' rt41 => simp only [Act.put, List.setIfInBounds_toArray, List.set_cons_zero, List.set_cons_succ]))
          refine held_one (i := 8) (oi := ?ot42) (by kernel_rfl) ?at42 ?ct42 (fun K8 hK8 => ?_)
          (case at42 => (simp only [List.getElem?_toArray, List.getElem?_cons_zero, List.getElem?_cons_succ]; rfl))
          (case ct42 => kernel_rfl)
          obtain ⟨fR, hR⟩ := hS5.2
          refine ow_store 33 _ _ rfl _ rfl _ rfl (run_store_arr hR (keyF (oid : Int) RT seed) infoKey (keyF_one _ _ _ _)) ?_
          have hRR := hR.row (keyF (oid : Int) RT seed)
          refine hK8 _ _ ⟨hS5.1.setRow _, _, hRR⟩ (fun hS8 => ?_)
          have HF := Lib.hid hRR
          clear hK8 K8 hRR
          (refine held_take (i := 9) (oi := ?ot43) (v := ?vt43) ?at43 (by kernel_rfl) (by kernel_rfl) (by kernel_rfl) ?bt43 ?ct43 ?dt43 (by assumption) ?rt43; (case at43 => (simp only [List.getElem?_toArray, List.getElem?_cons_zero, List.getElem?_cons_succ]; rfl)); (case bt43 => exact fun _ _ _ h => h); (case ct43 => kernel_rfl); (case dt43 => (intro W hW; (try dsimp only at hW); go_split_ands; go_simp; (try with_reducible rfl))); (case' rt43 => simp only [Act.put, List.setIfInBounds_toArray, List.set_cons_zero, List.set_cons_succ]))
          refine wpAnyH_done (by kernel_rfl) ?_ _
          go_wp2
          exact bodyPost_ret (results_ct rfl _ _ _ rfl (run_load_arr HF.out Tryz.underlying33 rfl infoKey)) rfl ⟨rfl, HX.out.2.2.2.1.trans (hS8.1.below (by omega) HX.out.2.2.2.1.size)⟩
      · have t3 : (P : Int) ≤ (idx : Int) := by omega
        rw [decide_eq_false g3, Bool.false_and] at hq2
        subst hq2
        clear g2 g3
        go_enter Tryz.func9, Tryz.ntmps9
        go_upto_region 1 with fail
        rw [← HW.out]
        clear HW
        go_wp2_with (first
          | (go_at_call 27; refine (HH.out _).mono ?_; rintro e w1 ⟨rfl, hw1⟩; rw [← hw1]; clear hw1)
          | ((with_reducible show wpList _ _ _ (Oper.mk _ (.build 33 _) _ _ _ _ :: _) _ _); refine wl_build rfl 33 _ rfl (vec 65 (keyF 0 zb zb)) (by kernel_rfl) ?_)
          | ((with_reducible show wpList _ _ _ (Oper.mk _ (.store 33 _ _) _ _ _ _ :: _) _ _); refine wl_store rfl 33 _ _ rfl _ rfl _ rfl (run_store_arr HK.out.1 (keyF 0 zb zb) infoKey (keyF_one _ _ _ _)) ?_))
        exact bodyPost_ret (results_ct rfl _ _ _ rfl (run_load_arr (HK.out.1.row _) Tryz.underlying33 rfl infoKey)) rfl ⟨rfl, below_row HK.out.2 (by omega) _⟩
    · have t2 : ((n2 : Int) != (h : Int)) = true := bne_iff_ne.2 (by omega)
      rw [decide_eq_false g2, Bool.and_false] at hq2
      subst hq2
      clear g2
      go_enter Tryz.func9, Tryz.ntmps9
      go_upto_region 1 with fail
      rw [← HW.out]
      clear HW
      go_wp2_with (first
        | (go_at_call 27; refine (HH.out _).mono ?_; rintro e w1 ⟨rfl, hw1⟩; rw [← hw1]; clear hw1)
        | ((with_reducible show wpList _ _ _ (Oper.mk _ (.build 33 _) _ _ _ _ :: _) _ _); refine wl_build rfl 33 _ rfl (vec 65 (keyF 0 zb zb)) (by kernel_rfl) ?_)
        | ((with_reducible show wpList _ _ _ (Oper.mk _ (.store 33 _ _) _ _ _ _ :: _) _ _); refine wl_store rfl 33 _ _ rfl _ rfl _ rfl (run_store_arr HK.out.1 (keyF 0 zb zb) infoKey (keyF_one _ _ _ _)) ?_))
      exact bodyPost_ret (results_ct rfl _ _ _ rfl (run_load_arr (HK.out.1.row _) Tryz.underlying33 rfl infoKey)) rfl ⟨rfl, below_row HK.out.2 (by omega) _⟩
end Go.Proofs.YtfeiplaiekbdkaaGreatDoor
