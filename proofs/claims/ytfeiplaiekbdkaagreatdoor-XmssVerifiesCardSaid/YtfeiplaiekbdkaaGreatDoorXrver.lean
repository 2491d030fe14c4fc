/- The reference's Verify. -/
import Derived.Test.YtfeiplaiekbdkaaGreatDoorXver
import Derived.Test.YtfeiplaiekbdkaaGreatDoorWt
import Derived.Test.YtfeiplaiekbdkaaGreatDoorRPrfM
import Derived.Test.YtfeiplaiekbdkaaGreatDoorWk
namespace Go.Proofs.YtfeiplaiekbdkaaGreatDoor
open Go.RowKit
attribute [local go_sem ↓ high] zeroV26 zeroKey zeroSig

set_option maxHeartbeats 4000000 in
set_option maxRecDepth 100000 in
theorem rver_any (key sig msg : List UInt8) (o : Nat) (r s : Nd) (k : Nat) (hk : KeyBoth 18 key o r s k) (idx : Nat) (rr : Nd) (ots auth : List Nd) (k2 : Nat) (hidx : idx < 4294967296) (hs : SigAns 19 sig o idx rr ots auth k2) :
    VerAns 7 key sig msg (verK k k2 (nodeEq (rootD (leafD (publicD ots (msgF rr r idx msg) s idx) s idx) idx auth s) r)) := by
  intro A M S c mc sc w hc hsc hmc hml hA hM hS hT
  have HL := Lib.hid (And.intro hA (And.intro hM (And.intro hS hT)))
  have HC := Lib.hid (And.intro hc (And.intro hsc (And.intro hmc hml)))
  have HK := Lib.hid hk
  have HS := Lib.hid hs
  have HM := Lib.hid (fun W q1 => rmsg_any rr r idx hidx M mc msg W q1 hml)
  obtain ⟨kn, hkn⟩ : ∃ kn, kn = key.length := ⟨_, rfl⟩
  obtain ⟨mn, hmn⟩ : ∃ mn, mn = msg.length := ⟨_, rfl⟩
  obtain ⟨sn, hsn⟩ : ∃ sn, sn = sig.length := ⟨_, rfl⟩
  unfold KeyBoth at HK
  unfold SigAns at HS
  rw [← hkn] at HL HC HK ⊢
  rw [← hmn] at HL HC HM ⊢
  rw [← hsn] at HL HC HS ⊢
  obtain ⟨m, hm⟩ : ∃ m, m = msgF rr r idx msg := ⟨_, rfl⟩
  rw [← hm] at HM ⊢
  obtain ⟨pk, hpk⟩ : ∃ pk, pk = publicD ots m s idx := ⟨_, rfl⟩
  rw [← hpk]
  have HPK := Lib.hid hpk
  obtain ⟨q, hq⟩ : ∃ q, q = nodeEq (rootD (leafD pk s idx) idx auth s) r := ⟨_, rfl⟩
  have HQ := Lib.hid hq.symm
  rw [← hq]
  have HO := Lib.hid hidx
  clear hc hsc hmc hml hA hM hS hT hk hs hkn hmn hsn hm hpk hq
  by_cases g1 : k = 0
  · subst g1
    by_cases g2 : k2 = 0
    · subst g2
      have e0 : verK 0 0 q = (if q then 0 else 82) := rfl
      rw [e0]
      clear e0
      go_enter Tryz.func7, Tryz.ntmps7
      go_upto_region 2 with (first
        | (go_at_call 18; refine (HK.out A c _ HC.out.1 HL.out.1).mono ?_; rintro e w1 ⟨rfl, hd⟩; have H1 := Lib.hid hd; clear hd)
        | ((with_reducible show wpList _ _ _ (Oper.mk _ (.store 33 _ _) _ _ _ _ :: _) _ _); refine wl_store rfl 33 _ _ rfl _ rfl _ rfl (run_store_arr (Arr.new w1 _ _ _) (keyF (o : Int) r s) infoKey (keyF_one _ _ _ _)) ?_))
      obtain ⟨g7, hg7⟩ : ∃ g, g = w1.heap.size := ⟨_, rfl⟩
      obtain ⟨V1, hV1⟩ : ∃ X, X = (w1.alloc (.cells (vec 65 (keyF 0 zb zb)) 33)).setRow w1.heap.size (vec 65 (keyF (o : Int) r s)) := ⟨_, rfl⟩
      have hb1 : Below w1.heap.size w1 V1 := by rw [hV1]; exact below_row ((Below.refl _ _).alloc (Nat.le_refl _) _) (Nat.le_refl _) _
      have hbw : Below w.heap.size w V1 := H1.out.trans (hb1.mono H1.out.size)
      have hk7 : Arr V1 g7 33 65 (keyF (o : Int) r s) := by rw [hV1, hg7]; exact (Arr.new w1 _ _ _).row _
      have c7 := key_oid hk7
      have HV1 := Lib.hid (And.intro hk7 (And.intro hbw (And.intro ((HL.out.2.1.below hbw).wide hbw.size) (And.intro ((HL.out.2.2.1.below hbw).wide hbw.size) (tabs_below HL.out.2.2.2 hbw)))))
      rw [← hV1, ← hg7]
      clear hV1 hg7 hb1 hbw hk7 H1
      go_upto_region 5 with (first
        | (go_at_call 19; refine (HS.out S sc _ HC.out.2.1 HV1.out.2.2.2.1).mono ?_; rintro e w2 ⟨B1, b1, B2, b2, rfl, q1, q2, hd⟩; have H2 := Lib.hid (And.intro hd (And.intro q1 q2)); clear hd q1 q2)
        | ((with_reducible show wpList _ _ _ (Oper.mk _ (.store 46 _ _) _ _ _ _ :: _) _ _); refine wl_store rfl 46 _ _ rfl _ rfl _ rfl (run_store_arr (Arr.new w2 _ _ _) (sigF (idx : Int) rr (.slice B1 ots.length b1) (.slice B2 auth.length b2)) infoSig (sigF_one _ _ _ _ rfl rfl _)) ?_))
      obtain ⟨g9, hg9⟩ : ∃ g, g = w2.heap.size := ⟨_, rfl⟩
      obtain ⟨V2, hV2⟩ : ∃ X, X = (w2.alloc (.cells (vec 35 (sigF 0 zb (.slice none 0 0) (.slice none 0 0))) 46)).setRow w2.heap.size (vec 35 (sigF (idx : Int) rr (.slice B1 ots.length b1) (.slice B2 auth.length b2))) := ⟨_, rfl⟩
      have hb2 : Below w2.heap.size w2 V2 := by rw [hV2]; exact below_row ((Below.refl _ _).alloc (Nat.le_refl _) _) (Nat.le_refl _) _
      have hv2 : Below V1.heap.size V1 V2 := H2.out.1.trans (hb2.mono H2.out.1.size)
      have hk9 : Arr V2 g9 46 35 (sigF (idx : Int) rr (.slice B1 ots.length b1) (.slice B2 auth.length b2)) := by rw [hV2, hg9]; exact (Arr.new w2 _ _ _).row _
      have c9 : V2.cell? ⟨g9, 0, none⟩ = some (.int .u32 (idx : Int)) := hk9.cell (i := 0) (by decide)
      have HV2 := Lib.hid (And.intro (HV1.out.1.under hv2) (And.intro hk9 (And.intro (HV1.out.2.1.trans (hv2.mono HV1.out.2.1.size)) (And.intro ((HV1.out.2.2.1.below hv2).wide hv2.size) (And.intro ((H2.out.2.1.below hb2).wide hb2.size) (And.intro ((H2.out.2.2.below hb2).wide hb2.size) (tabs_below HV1.out.2.2.2.2 hv2)))))))
      rw [← hV2, ← hg9]
      clear hV2 hg9 hb2 hv2 hk9 c7 H2 HV1
      go_upto_region 8 with (first
        | ((with_reducible show wpList _ _ _ (Oper.mk _ (.load 30 (.tmp 29)) _ _ _ _ :: _) _ _); refine wl_load_at rfl 30 _ rfl _ _ rfl _ (sig_r HV2.out.2.1 (fun _ _ => rfl) (by decide)) ?_)
        | ((with_reducible show wpList _ _ _ (Oper.mk _ (.load 30 (.tmp 31)) _ _ _ _ :: _) _ _); refine wl_load_at rfl 30 _ rfl _ _ rfl _ (key_root HV2.out.1) ?_)
        | (go_at_call 20; refine (HM.out _ HV2.out.2.2.2.1).mono ?_; rintro e w3 ⟨rfl, hd⟩; have H3 := Lib.hid hd; clear hd)
        | ((with_reducible show wpList _ _ _ (Oper.mk _ (.store _ _ _) _ _ _ _ :: _) _ _); refine wl_store rfl 30 _ _ rfl _ rfl _ rfl (run_store_arr (Arr.new w3 _ _ _) (bys m) info26 (bys_one _ _)) ?_))
      obtain ⟨g10, hg10⟩ : ∃ g, g = w3.heap.size := ⟨_, rfl⟩
      obtain ⟨X, hX⟩ : ∃ X, X = (w3.alloc (.cells (vec 32 (bys zb)) 30)).setRow w3.heap.size (vec 32 (bys m)) := ⟨_, rfl⟩
      have hmX : Arr X g10 30 32 (bys m) := by rw [hX, hg10]; exact (Arr.new w3 _ _ _).row _
      have hb : Below V2.heap.size V2 X := by rw [hX]; exact below_row (H3.out.alloc H3.out.size _) H3.out.size _
      have HX := Lib.hid (And.intro (HV2.out.1.under hb) (And.intro (HV2.out.2.1.under hb) (And.intro hmX (And.intro (HV2.out.2.2.1.trans (hb.mono HV2.out.2.2.1.size)) (And.intro ((HV2.out.2.2.2.2.1.below hb).wide hb.size) (And.intro ((HV2.out.2.2.2.2.2.1.below hb).wide hb.size) (tabs_below HV2.out.2.2.2.2.2.2 hb)))))))
      rw [← hX, ← hg10]
      clear hX hg10 hmX hb c9 H3 HV2 HL HC HK HS HM
      refine wp_region_held_drew (S := fun Y => VS X Y) (by kernel_rfl) (VS.begin X) (fun hS => ?_)
      (refine held_take (i := 0) (oi := ?ot19) (v := ?vt19) ?at19 (by kernel_rfl) (by kernel_rfl) (by kernel_rfl) ?bt19 ?ct19 ?dt19 (by assumption) ?rt19; (case at19 => (simp only [List.getElem?_toArray, List.getElem?_cons_zero]; rfl)); (case bt19 => exact fun _ _ _ h => h); (case ct19 => kernel_rfl); (case dt19 => (intro W hW; (try dsimp only at hW); go_split_ands; go_simp; (try with_reducible rfl))); (case' rt19 => simp only [Act.put, List.setIfInBounds_toArray, List.set_cons_zero, List.set_cons_succ]))
      (refine held_take (i := 1) (oi := ?ot20) (v := .slice B1 ots.length b1) ?at20 (by kernel_rfl) (by kernel_rfl) (by kernel_rfl) ?bt20 ?ct20 ?dt20 (by assumption) ?rt20; (case at20 => (simp only [List.getElem?_toArray, List.getElem?_cons_zero, List.getElem?_cons_succ]; rfl)); (case bt20 => exact fun _ _ _ h => h); (case ct20 => kernel_rfl); (case dt20 => (intro W hW; have hc : W.cell? ⟨g9, 33, none⟩ = some (.slice B1 ots.length b1) := (HX.out.2.1.under (show Below X.heap.size X W from hW)).cell (i := 33) (by decide); clear hW; go_simp; (try with_reducible rfl))); (case' rt20 => simp only [Act.put, List.setIfInBounds_toArray, List.set_cons_zero, List.set_cons_succ]))
      (refine held_take (i := 2) (oi := ?ot21) (v := .agg (vec 32 (bys m))) ?at21 (by kernel_rfl) (by kernel_rfl) (by kernel_rfl) ?bt21 ?ct21 ?dt21 (by assumption) ?rt21; (case at21 => (simp only [List.getElem?_toArray, List.getElem?_cons_zero, List.getElem?_cons_succ]; rfl)); (case bt21 => exact fun _ _ _ h => h); (case ct21 => kernel_rfl); (case dt21 => (intro W hW; exact exec_load 30 _ rfl _ rfl _ (run_load_arr (HX.out.2.2.1.under (show Below X.heap.size X W from hW)) Tryz.underlying30 rfl info26))); (case' rt21 => simp only [Act.put, List.setIfInBounds_toArray, List.set_cons_zero, List.set_cons_succ]))
      (refine held_take (i := 3) (oi := ?ot22) (v := ?vt22) ?at22 (by kernel_rfl) (by kernel_rfl) (by kernel_rfl) ?bt22 ?ct22 ?dt22 (by assumption) ?rt22; (case at22 => (simp only [List.getElem?_toArray, List.getElem?_cons_zero, List.getElem?_cons_succ]; rfl)); (case bt22 => exact fun _ _ _ h => h); (case ct22 => kernel_rfl); (case dt22 => (intro W hW; (try dsimp only at hW); go_split_ands; go_simp; (try with_reducible rfl))); (case' rt22 => simp only [Act.put, List.setIfInBounds_toArray, List.set_cons_zero, List.set_cons_succ]))
      (refine held_take (i := 4) (oi := ?ot23) (v := .agg (vec 32 (bys s))) ?at23 (by kernel_rfl) (by kernel_rfl) (by kernel_rfl) ?bt23 ?ct23 ?dt23 (by assumption) ?rt23; (case at23 => (simp only [List.getElem?_toArray, List.getElem?_cons_zero, List.getElem?_cons_succ]; rfl)); (case bt23 => exact fun _ _ _ h => h); (case ct23 => kernel_rfl); (case dt23 => (intro W hW; exact exec_load_at 30 _ rfl _ _ rfl _ (key_seed (HX.out.1.under (show Below X.heap.size X W from hW))))); (case' rt23 => simp only [Act.put, List.setIfInBounds_toArray, List.set_cons_zero, List.set_cons_succ]))
      (refine held_take (i := 5) (oi := ?ot24) (v := ?vt24) ?at24 (by kernel_rfl) (by kernel_rfl) (by kernel_rfl) ?bt24 ?ct24 ?dt24 (by assumption) ?rt24; (case at24 => (simp only [List.getElem?_toArray, List.getElem?_cons_zero, List.getElem?_cons_succ]; rfl)); (case bt24 => exact fun _ _ _ h => h); (case ct24 => kernel_rfl); (case dt24 => (intro W hW; (try dsimp only at hW); go_split_ands; go_simp; (try with_reducible rfl))); (case' rt24 => simp only [Act.put, List.setIfInBounds_toArray, List.set_cons_zero, List.set_cons_succ]))
      (refine held_take (i := 6) (oi := ?ot25) (v := .int .u32 (idx : Int)) ?at25 (by kernel_rfl) (by kernel_rfl) (by kernel_rfl) ?bt25 ?ct25 ?dt25 (by assumption) ?rt25; (case at25 => (simp only [List.getElem?_toArray, List.getElem?_cons_zero, List.getElem?_cons_succ]; rfl)); (case bt25 => exact fun _ _ _ h => h); (case ct25 => kernel_rfl); (case dt25 => (intro W hW; have hc : W.cell? ⟨g9, 0, none⟩ = some (.int .u32 (idx : Int)) := (HX.out.2.1.under (show Below X.heap.size X W from hW)).cell (i := 0) (by decide); clear hW; go_simp; (try with_reducible rfl))); (case' rt25 => simp only [Act.put, List.setIfInBounds_toArray, List.set_cons_zero, List.set_cons_succ]))
      (refine held_take (i := 8) (oi := ?ot26) (v := ?vt26) ?at26 (by kernel_rfl) (by kernel_rfl) (by kernel_rfl) ?bt26 ?ct26 ?dt26 (by assumption) ?rt26; (case at26 => (simp only [List.getElem?_toArray, List.getElem?_cons_zero, List.getElem?_cons_succ]; rfl)); (case bt26 => exact fun _ _ _ h => h); (case ct26 => kernel_rfl); (case dt26 => (intro W hW; (try dsimp only at hW); go_split_ands; go_simp; (try with_reducible rfl))); (case' rt26 => simp only [Act.put, List.setIfInBounds_toArray, List.set_cons_zero, List.set_cons_succ]))
      (refine held_take (i := 9) (oi := ?ot27) (v := .agg (vec 32 (bys s))) ?at27 (by kernel_rfl) (by kernel_rfl) (by kernel_rfl) ?bt27 ?ct27 ?dt27 (by assumption) ?rt27; (case at27 => (simp only [List.getElem?_toArray, List.getElem?_cons_zero, List.getElem?_cons_succ]; rfl)); (case bt27 => exact fun _ _ _ h => h); (case ct27 => kernel_rfl); (case dt27 => (intro W hW; exact exec_load_at 30 _ rfl _ _ rfl _ (key_seed (HX.out.1.under (show Below X.heap.size X W from hW))))); (case' rt27 => simp only [Act.put, List.setIfInBounds_toArray, List.set_cons_zero, List.set_cons_succ]))
      (refine held_take (i := 10) (oi := ?ot28) (v := ?vt28) ?at28 (by kernel_rfl) (by kernel_rfl) (by kernel_rfl) ?bt28 ?ct28 ?dt28 (by assumption) ?rt28; (case at28 => (simp only [List.getElem?_toArray, List.getElem?_cons_zero, List.getElem?_cons_succ]; rfl)); (case bt28 => exact fun _ _ _ h => h); (case ct28 => kernel_rfl); (case dt28 => (intro W hW; (try dsimp only at hW); go_split_ands; go_simp; (try with_reducible rfl))); (case' rt28 => simp only [Act.put, List.setIfInBounds_toArray, List.set_cons_zero, List.set_cons_succ]))
      (refine held_take (i := 11) (oi := ?ot29) (v := .int .u32 (idx : Int)) ?at29 (by kernel_rfl) (by kernel_rfl) (by kernel_rfl) ?bt29 ?ct29 ?dt29 (by assumption) ?rt29; (case at29 => (simp only [List.getElem?_toArray, List.getElem?_cons_zero, List.getElem?_cons_succ]; rfl)); (case bt29 => exact fun _ _ _ h => h); (case ct29 => kernel_rfl); (case dt29 => (intro W hW; have hc : W.cell? ⟨g9, 0, none⟩ = some (.int .u32 (idx : Int)) := (HX.out.2.1.under (show Below X.heap.size X W from hW)).cell (i := 0) (by decide); clear hW; go_simp; (try with_reducible rfl))); (case' rt29 => simp only [Act.put, List.setIfInBounds_toArray, List.set_cons_zero, List.set_cons_succ]))
      (refine held_take (i := 13) (oi := ?ot30) (v := ?vt30) ?at30 (by kernel_rfl) (by kernel_rfl) (by kernel_rfl) ?bt30 ?ct30 ?dt30 (by assumption) ?rt30; (case at30 => (simp only [List.getElem?_toArray, List.getElem?_cons_zero, List.getElem?_cons_succ]; rfl)); (case bt30 => exact fun _ _ _ h => h); (case ct30 => kernel_rfl); (case dt30 => (intro W hW; (try dsimp only at hW); go_split_ands; go_simp; (try with_reducible rfl))); (case' rt30 => simp only [Act.put, List.setIfInBounds_toArray, List.set_cons_zero, List.set_cons_succ]))
      (refine held_take (i := 14) (oi := ?ot31) (v := .int .u32 (idx : Int)) ?at31 (by kernel_rfl) (by kernel_rfl) (by kernel_rfl) ?bt31 ?ct31 ?dt31 (by assumption) ?rt31; (case at31 => (simp only [List.getElem?_toArray, List.getElem?_cons_zero, List.getElem?_cons_succ]; rfl)); (case bt31 => exact fun _ _ _ h => h); (case ct31 => kernel_rfl); (case dt31 => (intro W hW; have hc : W.cell? ⟨g9, 0, none⟩ = some (.int .u32 (idx : Int)) := (HX.out.2.1.under (show Below X.heap.size X W from hW)).cell (i := 0) (by decide); clear hW; go_simp; (try with_reducible rfl))); (case' rt31 => simp only [Act.put, List.setIfInBounds_toArray, List.set_cons_zero, List.set_cons_succ]))
      (refine held_take (i := 15) (oi := ?ot32) (v := ?vt32) ?at32 (by kernel_rfl) (by kernel_rfl) (by kernel_rfl) ?bt32 ?ct32 ?dt32 (by assumption) ?rt32; (case at32 => (simp only [List.getElem?_toArray, List.getElem?_cons_zero, List.getElem?_cons_succ]; rfl)); (case bt32 => exact fun _ _ _ h => h); (case ct32 => kernel_rfl); (case dt32 => (intro W hW; (try dsimp only at hW); go_split_ands; go_simp; (try with_reducible rfl))); (case' rt32 => simp only [Act.put, List.setIfInBounds_toArray, List.set_cons_zero, List.set_cons_succ]))
      (refine held_take (i := 16) (oi := ?ot33) (v := .slice B2 auth.length b2) ?at33 (by kernel_rfl) (by kernel_rfl) (by kernel_rfl) ?bt33 ?ct33 ?dt33 (by assumption) ?rt33; (case at33 => (simp only [List.getElem?_toArray, List.getElem?_cons_zero, List.getElem?_cons_succ]; rfl)); (case bt33 => exact fun _ _ _ h => h); (case ct33 => kernel_rfl); (case dt33 => (intro W hW; have hc : W.cell? ⟨g9, 34, none⟩ = some (.slice B2 auth.length b2) := (HX.out.2.1.under (show Below X.heap.size X W from hW)).cell (i := 34) (by decide); clear hW; go_simp; (try with_reducible rfl))); (case' rt33 => simp only [Act.put, List.setIfInBounds_toArray, List.set_cons_zero, List.set_cons_succ]))
      (refine held_take (i := 17) (oi := ?ot34) (v := ?vt34) ?at34 (by kernel_rfl) (by kernel_rfl) (by kernel_rfl) ?bt34 ?ct34 ?dt34 (by assumption) ?rt34; (case at34 => (simp only [List.getElem?_toArray, List.getElem?_cons_zero, List.getElem?_cons_succ]; rfl)); (case bt34 => exact fun _ _ _ h => h); (case ct34 => kernel_rfl); (case dt34 => (intro W hW; (try dsimp only at hW); go_split_ands; go_simp; (try with_reducible rfl))); (case' rt34 => simp only [Act.put, List.setIfInBounds_toArray, List.set_cons_zero, List.set_cons_succ]))
      (refine held_take (i := 18) (oi := ?ot35) (v := .agg (vec 32 (bys s))) ?at35 (by kernel_rfl) (by kernel_rfl) (by kernel_rfl) ?bt35 ?ct35 ?dt35 (by assumption) ?rt35; (case at35 => (simp only [List.getElem?_toArray, List.getElem?_cons_zero, List.getElem?_cons_succ]; rfl)); (case bt35 => exact fun _ _ _ h => h); (case ct35 => kernel_rfl); (case dt35 => (intro W hW; exact exec_load_at 30 _ rfl _ _ rfl _ (key_seed (HX.out.1.under (show Below X.heap.size X W from hW))))); (case' rt35 => simp only [Act.put, List.setIfInBounds_toArray, List.set_cons_zero, List.set_cons_succ]))
      (refine held_take (i := 20) (oi := ?ot36) (v := ?vt36) ?at36 (by kernel_rfl) (by kernel_rfl) (by kernel_rfl) ?bt36 ?ct36 ?dt36 (by assumption) ?rt36; (case at36 => (simp only [List.getElem?_toArray, List.getElem?_cons_zero, List.getElem?_cons_succ]; rfl)); (case bt36 => exact fun _ _ _ h => h); (case ct36 => kernel_rfl); (case dt36 => (intro W hW; (try dsimp only at hW); go_split_ands; go_simp; (try with_reducible rfl))); (case' rt36 => simp only [Act.put, List.setIfInBounds_toArray, List.set_cons_zero, List.set_cons_succ]))
      (refine held_take (i := 21) (oi := ?ot37) (v := .agg (vec 32 (bys r))) ?at37 (by kernel_rfl) (by kernel_rfl) (by kernel_rfl) ?bt37 ?ct37 ?dt37 (by assumption) ?rt37; (case at37 => (simp only [List.getElem?_toArray, List.getElem?_cons_zero, List.getElem?_cons_succ]; rfl)); (case bt37 => exact fun _ _ _ h => h); (case ct37 => kernel_rfl); (case dt37 => (intro W hW; exact exec_load_at 30 _ rfl _ _ rfl _ (key_root (HX.out.1.under (show Below X.heap.size X W from hW))))); (case' rt37 => simp only [Act.put, List.setIfInBounds_toArray, List.set_cons_zero, List.set_cons_succ]))
      refine held_one (i := 7) (oi := ?ot38) (by kernel_rfl) ?at38 ?ct38 (fun K7 hK7 => ?_)
      (case at38 => (simp only [List.getElem?_toArray, List.getElem?_cons_zero, List.getElem?_cons_succ]; rfl))
      (case ct38 => kernel_rfl)
      have hcall := rpublic_any B1 b1 ots m s idx HO.out _ ((HX.out.2.2.2.2.1.below (show Below X.heap.size X _ from hS)).wide (show Below X.heap.size X _ from hS).size) (tabs_below HX.out.2.2.2.2.2.2 (show Below X.heap.size X _ from hS))
      rw [← HPK.out] at hcall
      go_simp
      refine hcall.mono ?_
      rintro e y7 ⟨v, rfl, ho, hd⟩
      obtain ⟨E, cE, rfl, -, hrow⟩ := ho.row
      have HN := Lib.hid hrow
      refine hK7 _ _ (hS.keep hd) (fun hS7 => ?_)
      clear hcall ho hrow hd hK7 K7
      refine held_one (i := 12) (oi := ?ot39) (by kernel_rfl) ?at39 ?ct39 (fun K12 hK12 => ?_)
      (case at39 => (simp only [List.getElem?_toArray, List.getElem?_cons_zero, List.getElem?_cons_succ]; rfl))
      (case ct39 => kernel_rfl)
      have hcall := rleaf_any E cE pk s idx HO.out _ HN.out (tabs_below HX.out.2.2.2.2.2.2 (show Below X.heap.size X _ from hS7))
      go_simp
      refine hcall.mono ?_
      rintro e y12 ⟨rfl, hd⟩
      (try have HU := Lib.hid ((HU.out.below hd).wide hd.size))
      (try have HN := Lib.hid ((HN.out.below hd).wide hd.size))
      (try have HN2 := Lib.hid ((HN2.out.below hd).wide hd.size))
      (try have HN3 := Lib.hid ((HN3.out.below hd).wide hd.size))
      (try have HP := Lib.hid ((HP.out.below hd).wide hd.size))
      (try have HL := Lib.hid ((HL.out.below hd).wide hd.size))
      (try have HL2 := Lib.hid ((HL2.out.below hd).wide hd.size))
      (try have HL3 := Lib.hid ((HL3.out.below hd).wide hd.size))
      (try have HR := Lib.hid ((HR.out.below hd).wide hd.size))
      refine hK12 _ _ (hS7.keep hd) (fun hS12 => ?_)
      clear hcall hd hK12 K12
      refine held_one (i := 19) (oi := ?ot40) (by kernel_rfl) ?at40 ?ct40 (fun K19 hK19 => ?_)
      (case at40 => (simp only [List.getElem?_toArray, List.getElem?_cons_zero, List.getElem?_cons_succ]; rfl))
      (case ct40 => kernel_rfl)
      have hcall := rroot_any (leafD pk s idx) idx HO.out B2 b2 auth s _ ((HX.out.2.2.2.2.2.1.below (show Below X.heap.size X _ from hS12)).wide (show Below X.heap.size X _ from hS12).size) (tabs_below HX.out.2.2.2.2.2.2 (show Below X.heap.size X _ from hS12))
      go_simp
      refine hcall.mono ?_
      rintro e y19 ⟨rfl, hd⟩
      (try have HU := Lib.hid ((HU.out.below hd).wide hd.size))
      (try have HN := Lib.hid ((HN.out.below hd).wide hd.size))
      (try have HN2 := Lib.hid ((HN2.out.below hd).wide hd.size))
      (try have HN3 := Lib.hid ((HN3.out.below hd).wide hd.size))
      (try have HP := Lib.hid ((HP.out.below hd).wide hd.size))
      (try have HL := Lib.hid ((HL.out.below hd).wide hd.size))
      (try have HL2 := Lib.hid ((HL2.out.below hd).wide hd.size))
      (try have HL3 := Lib.hid ((HL3.out.below hd).wide hd.size))
      (try have HR := Lib.hid ((HR.out.below hd).wide hd.size))
      refine hK19 _ _ (hS12.keep hd) (fun hS19 => ?_)
      clear hcall hd hK19 K19
      (refine held_take (i := 22) (oi := ?ot41) (v := .bool (!q)) ?at41 (by kernel_rfl) (by kernel_rfl) (by kernel_rfl) ?bt41 ?ct41 ?dt41 (by assumption) ?rt41; (case at41 => (simp only [List.getElem?_toArray, List.getElem?_cons_zero, List.getElem?_cons_succ]; rfl)); (case bt41 => exact fun _ _ _ h => h); (case ct41 => kernel_rfl); (case dt41 => (intro W hW; exact exec_neq_q _ _ _ rfl (rootD (leafD pk s idx) idx auth s) r q HQ.out rfl rfl W)); (case' rt41 => simp only [Act.put, List.setIfInBounds_toArray, List.set_cons_zero, List.set_cons_succ]))
      refine wpAnyH_done (by kernel_rfl) ?_ _
      cases q
      · go_wp2
        go_ret
        exact ⟨rfl, HX.out.2.2.2.1.trans ((show Below X.heap.size X _ from hS19).mono HX.out.2.2.2.1.size)⟩
      · go_wp2
        go_ret
        exact ⟨rfl, HX.out.2.2.2.1.trans ((show Below X.heap.size X _ from hS19).mono HX.out.2.2.2.1.size)⟩
    · have t2 : ((k2 : Int) != 0) = true := bne_iff_ne.2 (by omega)
      have e0 : verK 0 k2 q = k2 := by unfold verK; rw [if_pos rfl, if_neg g2]
      rw [e0]
      clear e0 g2
      go_enter Tryz.func7, Tryz.ntmps7
      go_upto_region 2 with (first
        | (go_at_call 18; refine (HK.out A c _ HC.out.1 HL.out.1).mono ?_; rintro e w1 ⟨rfl, hd⟩; have H1 := Lib.hid hd; clear hd)
        | ((with_reducible show wpList _ _ _ (Oper.mk _ (.store 33 _ _) _ _ _ _ :: _) _ _); refine wl_store rfl 33 _ _ rfl _ rfl _ rfl (run_store_arr (Arr.new w1 _ _ _) (keyF (o : Int) r s) infoKey (keyF_one _ _ _ _)) ?_))
      obtain ⟨g7, hg7⟩ : ∃ g, g = w1.heap.size := ⟨_, rfl⟩
      obtain ⟨V1, hV1⟩ : ∃ X, X = (w1.alloc (.cells (vec 65 (keyF 0 zb zb)) 33)).setRow w1.heap.size (vec 65 (keyF (o : Int) r s)) := ⟨_, rfl⟩
      have hb1 : Below w1.heap.size w1 V1 := by rw [hV1]; exact below_row ((Below.refl _ _).alloc (Nat.le_refl _) _) (Nat.le_refl _) _
      have hbw : Below w.heap.size w V1 := H1.out.trans (hb1.mono H1.out.size)
      have hk7 : Arr V1 g7 33 65 (keyF (o : Int) r s) := by rw [hV1, hg7]; exact (Arr.new w1 _ _ _).row _
      have c7 := key_oid hk7
      have HV1 := Lib.hid (And.intro hk7 (And.intro hbw (And.intro ((HL.out.2.1.below hbw).wide hbw.size) (And.intro ((HL.out.2.2.1.below hbw).wide hbw.size) (tabs_below HL.out.2.2.2 hbw)))))
      rw [← hV1, ← hg7]
      clear hV1 hg7 hb1 hbw hk7 H1
      go_upto_region 5 with (first
        | (go_at_call 19; refine (HS.out S sc _ HC.out.2.1 HV1.out.2.2.2.1).mono ?_; rintro e w2 ⟨B1, b1, B2, b2, rfl, q1, q2, hd⟩; have H2 := Lib.hid (And.intro hd (And.intro q1 q2)); clear hd q1 q2)
        | ((with_reducible show wpList _ _ _ (Oper.mk _ (.store 46 _ _) _ _ _ _ :: _) _ _); refine wl_store rfl 46 _ _ rfl _ rfl _ rfl (run_store_arr (Arr.new w2 _ _ _) (sigF (idx : Int) rr (.slice B1 ots.length b1) (.slice B2 auth.length b2)) infoSig (sigF_one _ _ _ _ rfl rfl _)) ?_))
      obtain ⟨g9, hg9⟩ : ∃ g, g = w2.heap.size := ⟨_, rfl⟩
      obtain ⟨V2, hV2⟩ : ∃ X, X = (w2.alloc (.cells (vec 35 (sigF 0 zb (.slice none 0 0) (.slice none 0 0))) 46)).setRow w2.heap.size (vec 35 (sigF (idx : Int) rr (.slice B1 ots.length b1) (.slice B2 auth.length b2))) := ⟨_, rfl⟩
      have hb2 : Below w2.heap.size w2 V2 := by rw [hV2]; exact below_row ((Below.refl _ _).alloc (Nat.le_refl _) _) (Nat.le_refl _) _
      have hv2 : Below V1.heap.size V1 V2 := H2.out.1.trans (hb2.mono H2.out.1.size)
      have hk9 : Arr V2 g9 46 35 (sigF (idx : Int) rr (.slice B1 ots.length b1) (.slice B2 auth.length b2)) := by rw [hV2, hg9]; exact (Arr.new w2 _ _ _).row _
      have c9 : V2.cell? ⟨g9, 0, none⟩ = some (.int .u32 (idx : Int)) := hk9.cell (i := 0) (by decide)
      have HV2 := Lib.hid (And.intro (HV1.out.1.under hv2) (And.intro hk9 (And.intro (HV1.out.2.1.trans (hv2.mono HV1.out.2.1.size)) (And.intro ((HV1.out.2.2.1.below hv2).wide hv2.size) (And.intro ((H2.out.2.1.below hb2).wide hb2.size) (And.intro ((H2.out.2.2.below hb2).wide hb2.size) (tabs_below HV1.out.2.2.2.2 hv2)))))))
      rw [← hV2, ← hg9]
      clear hV2 hg9 hb2 hv2 hk9 c7 H2 HV1
      go_wp2
      go_ret
      exact ⟨rfl, HV2.out.2.2.1⟩
  · have t1 : ((k : Int) != 0) = true := bne_iff_ne.2 (by omega)
    have e0 : verK k k2 q = k := by unfold verK; rw [if_neg g1]
    rw [e0]
    clear e0 g1
    go_enter Tryz.func7, Tryz.ntmps7
    go_upto_region 2 with (first
      | (go_at_call 18; refine (HK.out A c _ HC.out.1 HL.out.1).mono ?_; rintro e w1 ⟨rfl, hd⟩; have H1 := Lib.hid hd; clear hd)
      | ((with_reducible show wpList _ _ _ (Oper.mk _ (.store 33 _ _) _ _ _ _ :: _) _ _); refine wl_store rfl 33 _ _ rfl _ rfl _ rfl (run_store_arr (Arr.new w1 _ _ _) (keyF (o : Int) r s) infoKey (keyF_one _ _ _ _)) ?_))
    obtain ⟨g7, hg7⟩ : ∃ g, g = w1.heap.size := ⟨_, rfl⟩
    obtain ⟨V1, hV1⟩ : ∃ X, X = (w1.alloc (.cells (vec 65 (keyF 0 zb zb)) 33)).setRow w1.heap.size (vec 65 (keyF (o : Int) r s)) := ⟨_, rfl⟩
    have hb1 : Below w1.heap.size w1 V1 := by rw [hV1]; exact below_row ((Below.refl _ _).alloc (Nat.le_refl _) _) (Nat.le_refl _) _
    have hbw : Below w.heap.size w V1 := H1.out.trans (hb1.mono H1.out.size)
    have hk7 : Arr V1 g7 33 65 (keyF (o : Int) r s) := by rw [hV1, hg7]; exact (Arr.new w1 _ _ _).row _
    have c7 := key_oid hk7
    have HV1 := Lib.hid (And.intro hk7 (And.intro hbw (And.intro ((HL.out.2.1.below hbw).wide hbw.size) (And.intro ((HL.out.2.2.1.below hbw).wide hbw.size) (tabs_below HL.out.2.2.2 hbw)))))
    rw [← hV1, ← hg7]
    clear hV1 hg7 hb1 hbw hk7 H1
    go_wp2
    go_ret
    exact ⟨rfl, HV1.out.2.1⟩
end Go.Proofs.YtfeiplaiekbdkaaGreatDoor
