/- The reference's Sign. -/
import Derived.Test.YtfeiplaiekbdkaaDoorXsign
import Derived.Test.YtfeiplaiekbdkaaDoorWx
import Derived.Test.YtfeiplaiekbdkaaDoorWd
import Derived.Test.YtfeiplaiekbdkaaDoorRPrfM
namespace Go.Proofs.YtfeiplaiekbdkaaDoor
open Go.RowKit
attribute [local go_sem ↓ high] zeroV26 zeroKey zeroSig zeroV67

set_option maxHeartbeats 2000000 in
set_option maxRecDepth 100000 in
theorem rsign_x : SigMake 6 := by
  intro oid root seed secret idx A n2 c auth rr M mn mc msg w hoid hidx ha hn2 h1 hmn hm hmc hml hT
  obtain ⟨V, hV⟩ : ∃ V, V = ((w.alloc (.cells (vec 65 (keyF (oid : Int) root seed)) 26)).alloc (.cells (vec 32 (bys secret)) 24)).alloc (.cells (vec 32 (bys rr)) 24) := ⟨_, rfl⟩
  have k0 : Arr V w.heap.size 26 65 (keyF (oid : Int) root seed) := by rw [hV]; exact ((Arr.newAt _ _ _ _ (by simp)).alloc _).alloc _
  have k1 : Arr V (w.heap.size + 1) 24 32 (bys secret) := by rw [hV]; exact (Arr.newAt _ _ _ _ (by simp)).alloc _
  have k2 : Arr V (w.heap.size + 2) 24 32 (bys rr) := by rw [hV]; exact Arr.newAt _ _ _ _ (by simp)
  have hB : Below w.heap.size w V := by rw [hV]; exact (((Below.refl _ _).alloc (by simp <;> omega) _).alloc (by simp <;> omega) _).alloc (by simp <;> omega) _
  have c0 := key_oid k0
  have HA := Lib.hid (And.intro k0 (And.intro k1 (And.intro k2 hB)))
  have HR := Lib.hid (And.intro ((h1.below hB).wide hB.size) (And.intro ((hm.below hB).wide hB.size) (tabs_below hT hB)))
  have HW := Lib.hid hV
  obtain ⟨L, hL⟩ : ∃ L, L = endsF secret seed idx (digN (msgF rr root idx msg)) := ⟨_, rfl⟩
  have hL67 : L.length = 67 := by rw [hL, endsF_length]
  rw [← hL]
  have HL := Lib.hid (And.intro hL hL67)
  have HM := Lib.hid (And.intro hmn (And.intro hmc hml))
  have HP := Lib.hid (fun E cE W q1 q2 => rputSig_any oid idx rr L auth E A L.length n2 cE c W hoid hidx (by omega) ha rfl hn2 q1 q2)
  have HO := Lib.hid hidx
  have HH := Lib.hid (fun W => rheight_any oid hoid W)
  cases his : isO oid with
  | false =>
    have e1 : psE oid idx 67 n2 = 80 := by unfold psE; rw [his]; rfl
    have e2 : psL oid idx rr L auth = [] := by unfold psL; rw [his]; rfl
    rw [e1, e2]
    rw [his] at HH
    obtain ⟨h, hh⟩ : ∃ h, h = hgtO oid := ⟨_, rfl⟩
    rw [← hh] at HH
    clear hV k0 k1 k2 hB h1 hm hT hL hL67 hmn hmc hml hn2 ha e1 e2 his hh
    go_enter Tryd.func6, Tryd.ntmps6
    go_upto_region 1 with fail
    rw [← HW.out]
    clear HW
    go_wp2_with (go_at_call 12; refine (HH.out _).mono ?_; rintro e w1 ⟨rfl, hw1⟩; rw [← hw1]; clear hw1)
    go_ret2
    exact ⟨_, rfl, World.ownsRow_nil _ _ _ _, HA.out.2.2.2⟩
  | true =>
    have hle := hgtO_le oid
    rw [his] at HH
    have hE : psE oid idx 67 n2 = (if psOk oid idx 67 n2 then 0 else 81) := by unfold psE; rw [his]; rfl
    have hPL : psL oid idx rr L auth = (if psOk oid idx 67 n2 then sigL idx rr L auth else []) := by unfold psL; rw [his, Bool.true_and, hL67, hn2]
    obtain ⟨h, hh⟩ : ∃ h, h = hgtO oid := ⟨_, rfl⟩
    have hq : psOk oid idx 67 n2 = (decide (idx < 2 ^ h) && decide (n2 = h)) := by unfold psOk plcd; rw [hh]; simp
    rw [← hh] at HH hle
    obtain ⟨P, hP⟩ : ∃ P, P = 2 ^ h := ⟨_, rfl⟩
    have hP20 : P ≤ 1048576 := by rw [hP]; exact Nat.pow_le_pow_right (by decide) hle
    have hsh : IntKind.u32.wrap (2 ^ h) = (P : Int) := by
      have e : (2 : Int) ^ h = ((2 ^ h : Nat) : Int) := by rw [Int.natCast_pow]; rfl
      rw [e, ← hP, IntKind.wrap_u32]; omega
    rw [← hP] at hq
    clear his hh hP
    by_cases g2 : n2 = h
    · have t2 : ((n2 : Int) != (h : Int)) = false := by rw [g2]; simp
      by_cases g3 : idx < P
      · have t3 : ¬ (P : Int) ≤ (idx : Int) := by omega
        clear hq hE hPL g2 g3
        clear hV k0 k1 k2 hB h1 hm hT hL hL67 hmn hmc hml hn2 ha
        go_enter Tryd.func6, Tryd.ntmps6
        go_upto_region 1 with fail
        rw [← HW.out]
        clear HW
        have HMs := Lib.hid (fun W q1 => rmsg_any rr root idx HO.out M mc msg W q1 (by rw [← HM.out.1]; exact HM.out.2.2))
        rw [← HM.out.1] at HMs
        go_upto_region 7 with (first
          | (go_at_call 12; refine (HH.out _).mono ?_; rintro e w1 ⟨rfl, hw1⟩; rw [← hw1]; clear hw1)
          | ((with_reducible show wpList _ _ _ (Oper.mk _ (.load 24 (.tmp 10)) _ _ _ _ :: _) _ _); refine wl_load rfl 24 _ rfl _ rfl _ (run_load_arr HA.out.2.2.1 Tryd.underlying24 rfl info26) ?_)
          | ((with_reducible show wpList _ _ _ (Oper.mk _ (.load 24 _) _ _ _ _ :: _) _ _); refine wl_load_at rfl 24 _ rfl _ _ rfl _ (key_root HA.out.1) ?_)
          | (go_at_call 14; refine (HMs.out _ HR.out.2.1).mono ?_; rintro e w2 ⟨rfl, hd⟩; have H2 := Lib.hid hd; clear hd)
          | (go_at_call 13; refine (rdigits_any (msgF rr root idx msg) _).mono ?_; rintro e w3 ⟨rfl, hd⟩; have H3 := Lib.hid (H2.out.trans (hd.mono H2.out.size)); clear hd)
          | ((with_reducible show wpList _ _ _ (Oper.mk _ (.store _ _ _) _ _ _ _ :: _) _ _); refine wl_store rfl 45 _ _ rfl _ rfl _ rfl (run_store_arr (Arr.new w3 _ _ _) (ints (digN (msgF rr root idx msg))) info67 (ints_one _ _)) ?_))
        obtain ⟨g, hg⟩ : ∃ g, g = w3.heap.size := ⟨_, rfl⟩
        obtain ⟨X, hX⟩ : ∃ X, X = (w3.alloc (.cells (vec 67 (ints z67)) 45)).setRow w3.heap.size (vec 67 (ints (digN (msgF rr root idx msg)))) := ⟨_, rfl⟩
        have hD : Arr X g 45 67 (ints (digN (msgF rr root idx msg))) := by rw [hX, hg]; exact (Arr.new w3 _ _ _).row _
        have hb : Below V.heap.size V X := by rw [hX]; exact below_row (H3.out.alloc H3.out.size _) H3.out.size _
        have HX := Lib.hid (And.intro (HA.out.1.under hb) (And.intro (HA.out.2.1.under hb) (And.intro (HA.out.2.2.1.under hb) (And.intro hD (And.intro (HA.out.2.2.2.trans (hb.mono HA.out.2.2.2.size)) (And.intro ((HR.out.1.below hb).wide hb.size) (tabs_below HR.out.2.2 hb)))))))
        rw [← hX, ← hg]
        clear hX hg hD hb H2 H3 HA HR HMs c0 t2 t3 hsh
        refine wp_region_held_drew (S := fun Y => VS X Y) (by kernel_rfl) (VS.begin X) (fun hS => ?_)
        (refine held_take (i := 0) (oi := ?ot1) (v := ?vt1) ?at1 (by kernel_rfl) (by kernel_rfl) (by kernel_rfl) ?bt1 ?ct1 ?dt1 (by assumption) ?rt1; (case at1 => (simp only [List.getElem?_toArray, List.getElem?_cons_zero]; rfl)); (case bt1 => exact fun _ _ _ h => h); (case ct1 => kernel_rfl); (case dt1 => (intro W hW; (try dsimp only at hW); go_split_ands; go_simp; (try with_reducible rfl))); (case' rt1 => simp only [Act.put, List.setIfInBounds_toArray, List.set_cons_zero, List.set_cons_succ]))
        (refine held_take (i := 1) (oi := ?ot2) (v := .agg (vec 32 (bys rr))) ?at2 (by kernel_rfl) (by kernel_rfl) (by kernel_rfl) ?bt2 ?ct2 ?dt2 (by assumption) ?rt2; (case at2 => (simp only [List.getElem?_toArray, List.getElem?_cons_zero, List.getElem?_cons_succ]; rfl)); (case bt2 => exact fun _ _ _ h => h); (case ct2 => kernel_rfl); (case dt2 => (intro W hW; exact exec_load 24 _ rfl _ rfl _ (run_load_arr ((HX.out.2.2.1.under hW)) Tryd.underlying24 rfl info26))); (case' rt2 => simp only [Act.put, List.setIfInBounds_toArray, List.set_cons_zero, List.set_cons_succ]))
        (refine held_take (i := 2) (oi := ?ot3) (v := .agg (vec 32 (bys secret))) ?at3 (by kernel_rfl) (by kernel_rfl) (by kernel_rfl) ?bt3 ?ct3 ?dt3 (by assumption) ?rt3; (case at3 => (simp only [List.getElem?_toArray, List.getElem?_cons_zero, List.getElem?_cons_succ]; rfl)); (case bt3 => exact fun _ _ _ h => h); (case ct3 => kernel_rfl); (case dt3 => (intro W hW; exact exec_load 24 _ rfl _ rfl _ (run_load_arr ((HX.out.2.1.under hW)) Tryd.underlying24 rfl info26))); (case' rt3 => simp only [Act.put, List.setIfInBounds_toArray, List.set_cons_zero, List.set_cons_succ]))
        (refine held_take (i := 3) (oi := ?ot4) (v := ?vt4) ?at4 (by kernel_rfl) (by kernel_rfl) (by kernel_rfl) ?bt4 ?ct4 ?dt4 (by assumption) ?rt4; (case at4 => (simp only [List.getElem?_toArray, List.getElem?_cons_zero, List.getElem?_cons_succ]; rfl)); (case bt4 => exact fun _ _ _ h => h); (case ct4 => kernel_rfl); (case dt4 => (intro W hW; (try dsimp only at hW); go_split_ands; go_simp; (try with_reducible rfl))); (case' rt4 => simp only [Act.put, List.setIfInBounds_toArray, List.set_cons_zero, List.set_cons_succ]))
        (refine held_take (i := 4) (oi := ?ot5) (v := .agg (vec 32 (bys seed))) ?at5 (by kernel_rfl) (by kernel_rfl) (by kernel_rfl) ?bt5 ?ct5 ?dt5 (by assumption) ?rt5; (case at5 => (simp only [List.getElem?_toArray, List.getElem?_cons_zero, List.getElem?_cons_succ]; rfl)); (case bt5 => exact fun _ _ _ h => h); (case ct5 => kernel_rfl); (case dt5 => (intro W hW; exact exec_load_at 24 _ rfl _ _ rfl _ (key_seed (HX.out.1.under hW)))); (case' rt5 => simp only [Act.put, List.setIfInBounds_toArray, List.set_cons_zero, List.set_cons_succ]))
        (refine held_take (i := 5) (oi := ?ot6) (v := ?vt6) ?at6 (by kernel_rfl) (by kernel_rfl) (by kernel_rfl) ?bt6 ?ct6 ?dt6 (by assumption) ?rt6; (case at6 => (simp only [List.getElem?_toArray, List.getElem?_cons_zero, List.getElem?_cons_succ]; rfl)); (case bt6 => exact fun _ _ _ h => h); (case ct6 => kernel_rfl); (case dt6 => (intro W hW; (try dsimp only at hW); go_split_ands; go_simp; (try with_reducible rfl))); (case' rt6 => simp only [Act.put, List.setIfInBounds_toArray, List.set_cons_zero, List.set_cons_succ]))
        (refine held_take (i := 6) (oi := ?ot7) (v := ?vt7) ?at7 (by kernel_rfl) (by kernel_rfl) (by kernel_rfl) ?bt7 ?ct7 ?dt7 (by assumption) ?rt7; (case at7 => (simp only [List.getElem?_toArray, List.getElem?_cons_zero, List.getElem?_cons_succ]; rfl)); (case bt7 => exact fun _ _ _ h => h); (case ct7 => kernel_rfl); (case dt7 => (intro W hW; (try dsimp only at hW); go_split_ands; go_simp; (try with_reducible rfl))); (case' rt7 => simp only [Act.put, List.setIfInBounds_toArray, List.set_cons_zero, List.set_cons_succ]))
        (refine held_take (i := 8) (oi := ?ot8) (v := ?vt8) ?at8 (by kernel_rfl) (by kernel_rfl) (by kernel_rfl) ?bt8 ?ct8 ?dt8 (by assumption) ?rt8; (case at8 => (simp only [List.getElem?_toArray, List.getElem?_cons_zero, List.getElem?_cons_succ]; rfl)); (case bt8 => exact fun _ _ _ h => h); (case ct8 => kernel_rfl); (case dt8 => (intro W hW; (try dsimp only at hW); go_split_ands; go_simp; (try with_reducible rfl))); (case' rt8 => simp only [Act.put, List.setIfInBounds_toArray, List.set_cons_zero, List.set_cons_succ]))
        (refine held_take (i := 10) (oi := ?ot9) (v := ?vt9) ?at9 (by kernel_rfl) (by kernel_rfl) (by kernel_rfl) ?bt9 ?ct9 ?dt9 (by assumption) ?rt9; (case at9 => (simp only [List.getElem?_toArray, List.getElem?_cons_zero, List.getElem?_cons_succ]; rfl)); (case bt9 => exact fun _ _ _ h => h); (case ct9 => kernel_rfl); (case dt9 => (intro W hW; (try dsimp only at hW); go_split_ands; go_simp; (try with_reducible rfl))); (case' rt9 => simp only [Act.put, List.setIfInBounds_toArray, List.set_cons_zero, List.set_cons_succ]))
        (refine held_take (i := 11) (oi := ?ot10) (v := .int .u32 (oid : Int)) ?at10 (by kernel_rfl) (by kernel_rfl) (by kernel_rfl) ?bt10 ?ct10 ?dt10 (by assumption) ?rt10; (case at10 => (simp only [List.getElem?_toArray, List.getElem?_cons_zero, List.getElem?_cons_succ]; rfl)); (case bt10 => exact fun _ _ _ h => h); (case ct10 => kernel_rfl); (case dt10 => (intro W hW; have hc := key_oid (HX.out.1.under hW); clear hW; go_simp; (try with_reducible rfl))); (case' rt10 => simp only [Act.put, List.setIfInBounds_toArray, List.set_cons_zero, List.set_cons_succ]))
        refine held_one (i := 7) (oi := ?ot11) (by kernel_rfl) ?at11 ?ct11 (fun K7 hK7 => ?_)
        (case at11 => (simp only [List.getElem?_toArray, List.getElem?_cons_zero, List.getElem?_cons_succ]; rfl))
        (case ct11 => kernel_rfl)
        have hcall := rends_any secret seed idx HO.out (digN (msgF rr root idx msg)) (digN_le _) g _ (HX.out.2.2.2.1.under (show Below _ _ _ from hS)) (tabs_below HX.out.2.2.2.2.2.2 (show Below _ _ _ from hS))
        rw [← HL.out.1] at hcall
        go_simp
        refine hcall.mono ?_
        rintro e y7 ⟨v, rfl, ho, hd⟩
        obtain ⟨E, cE, rfl, -, hrow⟩ := ho.row
        have HE := Lib.hid hrow
        refine hK7 _ _ (hS.keep hd) (fun hS7 => ?_)
        clear hcall ho hrow hd hK7 K7
        (refine held_take (i := 9) (oi := ?ot12) (v := .agg (vec 35 (sigF (idx : Int) rr (.slice E L.length cE) (.slice A n2 c)))) ?at12 (by kernel_rfl) (by kernel_rfl) (by kernel_rfl) ?bt12 ?ct12 ?dt12 (by assumption) ?rt12; (case at12 => (simp only [List.getElem?_toArray, List.getElem?_cons_zero, List.getElem?_cons_succ]; rfl)); (case bt12 => exact fun _ _ _ h => h); (case ct12 => kernel_rfl); (case dt12 => (intro W hW; exact exec_build 44 _ rfl (vec 35 (sigF (idx : Int) rr (.slice E L.length cE) (.slice A n2 c))) (by kernel_rfl) W)); (case' rt12 => simp only [Act.put, List.setIfInBounds_toArray, List.set_cons_zero, List.set_cons_succ]))
        refine held_one (i := 12) (oi := ?ot13) (by kernel_rfl) ?at13 ?ct13 (fun K12 hK12 => ?_)
        (case at13 => (simp only [List.getElem?_toArray, List.getElem?_cons_zero, List.getElem?_cons_succ]; rfl))
        (case ct13 => kernel_rfl)
        have hcall := HP.out E cE _ HE.out ((HX.out.2.2.2.2.2.1.below (show Below _ _ _ from hS7)).wide (show Below _ _ _ from hS7).size)
        go_simp
        refine hcall.mono ?_
        rintro e y12 ⟨v, rfl, ho, hd⟩
        have HB := Lib.hid (owns_mono ho (Nat.le_trans HX.out.2.2.2.2.1.size (show Below _ _ _ from hS7).size))
        refine hK12 _ _ (hS7.keep hd) (fun hS12 => ?_)
        clear hcall ho hd hK12 K12
        (refine held_take (i := 13) (oi := ?ot14) (v := ?vt14) ?at14 (by kernel_rfl) (by kernel_rfl) (by kernel_rfl) ?bt14 ?ct14 ?dt14 (by assumption) ?rt14; (case at14 => (simp only [List.getElem?_toArray, List.getElem?_cons_zero, List.getElem?_cons_succ]; rfl)); (case bt14 => exact fun _ _ _ h => h); (case ct14 => kernel_rfl); (case dt14 => (intro W hW; (try dsimp only at hW); go_split_ands; go_simp; (try with_reducible rfl))); (case' rt14 => simp only [Act.put, List.setIfInBounds_toArray, List.set_cons_zero, List.set_cons_succ]))
        (refine held_take (i := 14) (oi := ?ot15) (v := ?vt15) ?at15 (by kernel_rfl) (by kernel_rfl) (by kernel_rfl) ?bt15 ?ct15 ?dt15 (by assumption) ?rt15; (case at15 => (simp only [List.getElem?_toArray, List.getElem?_cons_zero, List.getElem?_cons_succ]; rfl)); (case bt15 => exact fun _ _ _ h => h); (case ct15 => kernel_rfl); (case dt15 => (intro W hW; (try dsimp only at hW); go_split_ands; go_simp; (try with_reducible rfl))); (case' rt15 => simp only [Act.put, List.setIfInBounds_toArray, List.set_cons_zero, List.set_cons_succ]))
        (refine held_take (i := 15) (oi := ?ot16) (v := ?vt16) ?at16 (by kernel_rfl) (by kernel_rfl) (by kernel_rfl) ?bt16 ?ct16 ?dt16 (by assumption) ?rt16; (case at16 => (simp only [List.getElem?_toArray, List.getElem?_cons_zero, List.getElem?_cons_succ]; rfl)); (case bt16 => exact fun _ _ _ h => h); (case ct16 => kernel_rfl); (case dt16 => (intro W hW; (try dsimp only at hW); go_split_ands; go_simp; (try with_reducible rfl))); (case' rt16 => simp only [Act.put, List.setIfInBounds_toArray, List.set_cons_zero, List.set_cons_succ]))
        (refine held_take (i := 16) (oi := ?ot17) (v := ?vt17) ?at17 (by kernel_rfl) (by kernel_rfl) (by kernel_rfl) ?bt17 ?ct17 ?dt17 (by assumption) ?rt17; (case at17 => (simp only [List.getElem?_toArray, List.getElem?_cons_zero, List.getElem?_cons_succ]; rfl)); (case bt17 => exact fun _ _ _ h => h); (case ct17 => kernel_rfl); (case dt17 => (intro W hW; (try dsimp only at hW); go_split_ands; go_simp; (try with_reducible rfl))); (case' rt17 => simp only [Act.put, List.setIfInBounds_toArray, List.set_cons_zero, List.set_cons_succ]))
        refine wpAnyH_done (by kernel_rfl) ?_ _
        go_wp2
        go_ret2
        exact ⟨_, by rw [HL.out.2]; rfl, HB.out, HX.out.2.2.2.2.1.trans ((show Below _ _ _ from hS12).mono HX.out.2.2.2.2.1.size)⟩
      · have t3 : (P : Int) ≤ (idx : Int) := by omega
        have hq2 : psOk oid idx 67 n2 = false := by rw [hq, decide_eq_false g3, Bool.false_and]
        rw [hE, hPL, hq2, if_neg (by decide), if_neg (by decide)]
        clear hq hq2 hE hPL g2 g3
        clear hV k0 k1 k2 hB h1 hm hT hL hL67 hmn hmc hml hn2 ha
        go_enter Tryd.func6, Tryd.ntmps6
        go_upto_region 1 with fail
        rw [← HW.out]
        clear HW
        go_wp2_with (go_at_call 12; refine (HH.out _).mono ?_; rintro e w1 ⟨rfl, hw1⟩; rw [← hw1]; clear hw1)
        go_ret2
        exact ⟨_, rfl, World.ownsRow_nil _ _ _ _, HA.out.2.2.2⟩
    · have t2 : ((n2 : Int) != (h : Int)) = true := bne_iff_ne.2 (by omega)
      have hq2 : psOk oid idx 67 n2 = false := by rw [hq, decide_eq_false g2, Bool.and_false]
      rw [hE, hPL, hq2, if_neg (by decide), if_neg (by decide)]
      clear hq hq2 hE hPL g2
      clear hV k0 k1 k2 hB h1 hm hT hL hL67 hmn hmc hml hn2 ha
      go_enter Tryd.func6, Tryd.ntmps6
      go_upto_region 1 with fail
      rw [← HW.out]
      clear HW
      go_wp2_with (go_at_call 12; refine (HH.out _).mono ?_; rintro e w1 ⟨rfl, hw1⟩; rw [← hw1]; clear hw1)
      go_ret2
      exact ⟨_, rfl, World.ownsRow_nil _ _ _ _, HA.out.2.2.2⟩
end Go.Proofs.YtfeiplaiekbdkaaDoor
