/- Counts, of six kinds. -/
import Derived.Test.YtmcpmcicolpoeaaDoorMc
namespace Go.Proofs.YtmcpmcicolpoeaaDoor
open Go.RowKit
section
variable {w : World} {g c at_ q : Nat} {A : Option Addr} {b : By}
set_option maxHeartbeats 1000000 in
set_option maxRecDepth 100000 in
theorem count_guestsFit (h : Cur w g A c b at_ q) :
    Calls Tryd.prog 40 #[.pointer (some ⟨g, 0, none⟩), .func (.func 41) #[] #[]] w (Rd (fld 2 1 16 142) (intV .i64) b q g A c w) := by
  have hg := fld_get 2 1 16 142 b q
  by_cases hm : q + 2 ≤ b.length
  · rw [if_pos hm] at hg
    have HL : Hid (Calls Tryd.prog 39 #[.pointer (some ⟨g, 0, none⟩)] w fun e w' => e = .returned (.int .i64 (numAt b q 2 : Nat)) ∧ Cur w' g A c b q (q + 2) ∧ Save g w w') := Lib.hid ((short_any h).mono fun _ _ k => k.yes hm)
    obtain ⟨n, hn⟩ : ∃ n, n = numAt b q 2 := ⟨_, rfl⟩
    rw [← hn] at hg HL
    have hf := guestsFit_any (n : Int)
    have hb : inB (n : Int) 1 16 = decide (1 ≤ n ∧ n ≤ 16) := by unfold inB; congr 1; simp only [eq_iff_iff]; omega
    rw [hb] at hf
    by_cases h1 : 1 ≤ n ∧ n ≤ 16
    · rw [if_pos h1] at hg
      rw [decide_eq_true h1] at hf
      have HG := Lib.hid hg
      have HF := Lib.hid hf
      clear hg h hm hn hf hb h1
      go_enter Tryd.func40, Tryd.ntmps40
      go_upto_region 2 with (go_at_call 39; refine HL.out.mono ?_; rintro e w1 ⟨rfl, hk, hs⟩; have H1 := Lib.hid (And.intro hk hs); clear hk hs)
      refine wp_region_held_drew (S := fun Y => Y = w1.drew) (by kernel_rfl) rfl (fun hS => ?_)
      (refine held_take (i := 0) (oi := ?ot1) (v := ?vt1) ?at1 (by kernel_rfl) (by kernel_rfl) (by kernel_rfl) ?bt1 ?ct1 ?dt1 (by assumption) ?rt1; (case at1 => (simp only [List.getElem?_toArray, List.getElem?_cons_zero]; rfl)); (case bt1 => exact fun _ _ _ h => h); (case ct1 => kernel_rfl); (case dt1 => (intro W hW; subst hW; go_simp; (try with_reducible rfl))); (case' rt1 => simp only [Act.put, List.setIfInBounds_toArray, List.set_cons_zero, List.set_cons_succ]))
      (refine held_take (i := 1) (oi := ?ot2) (v := ?vt2) ?at2 (by kernel_rfl) (by kernel_rfl) (by kernel_rfl) ?bt2 ?ct2 ?dt2 (by assumption) ?rt2; (case at2 => (simp only [List.getElem?_toArray, List.getElem?_cons_zero, List.getElem?_cons_succ]; rfl)); (case bt2 => exact fun _ _ _ h => h); (case ct2 => kernel_rfl); (case dt2 => (intro W hW; subst hW; go_simp; (try with_reducible rfl))); (case' rt2 => simp only [Act.put, List.setIfInBounds_toArray, List.set_cons_zero, List.set_cons_succ]))
      (refine held_take (i := 2) (oi := ?ot3) (v := ?vt3) ?at3 (by kernel_rfl) (by kernel_rfl) (by kernel_rfl) ?bt3 ?ct3 ?dt3 (by assumption) ?rt3; (case at3 => (simp only [List.getElem?_toArray, List.getElem?_cons_zero, List.getElem?_cons_succ]; rfl)); (case bt3 => exact fun _ _ _ h => h); (case ct3 => kernel_rfl); (case dt3 => (intro W hW; subst hW; go_simp; (try with_reducible rfl))); (case' rt3 => simp only [Act.put, List.setIfInBounds_toArray, List.set_cons_zero, List.set_cons_succ]))
      (refine held_take (i := 3) (oi := ?ot4) (v := ?vt4) ?at4 (by kernel_rfl) (by kernel_rfl) (by kernel_rfl) ?bt4 ?ct4 ?dt4 (by assumption) ?rt4; (case at4 => (simp only [List.getElem?_toArray, List.getElem?_cons_zero, List.getElem?_cons_succ]; rfl)); (case bt4 => exact fun _ _ _ h => h); (case ct4 => kernel_rfl); (case dt4 => (intro W hW; subst hW; go_simp; (try with_reducible rfl))); (case' rt4 => simp only [Act.put, List.setIfInBounds_toArray, List.set_cons_zero, List.set_cons_succ]))
      (refine held_take (i := 4) (oi := ?ot5) (v := ?vt5) ?at5 (by kernel_rfl) (by kernel_rfl) (by kernel_rfl) ?bt5 ?ct5 ?dt5 (by assumption) ?rt5; (case at5 => (simp only [List.getElem?_toArray, List.getElem?_cons_zero, List.getElem?_cons_succ]; rfl)); (case bt5 => exact fun _ _ _ h => h); (case ct5 => kernel_rfl); (case dt5 => (intro W hW; subst hW; go_simp; (try with_reducible rfl))); (case' rt5 => simp only [Act.put, List.setIfInBounds_toArray, List.set_cons_zero, List.set_cons_succ]))
      refine held_one (i := 5) (oi := ?ot6) (by kernel_rfl) ?at6 ?ct6 (fun K5 hK5 => ?_)
      (case at6 => (simp only [List.getElem?_toArray, List.getElem?_cons_zero, List.getElem?_cons_succ]; rfl))
      (case ct6 => kernel_rfl)
      go_simp
      refine (HF.out _).mono ?_
      rintro e yy ⟨rfl, rfl⟩
      refine hK5 _ _ rfl (fun hS5 => ?_)
      clear hS hK5 K5
      refine held_one (i := 6) (oi := ?ot7) (by kernel_rfl) ?at7 ?ct7 (fun K6 hK6 => ?_)
      (case at7 => (simp only [List.getElem?_toArray, List.getElem?_cons_zero, List.getElem?_cons_succ]; rfl))
      (case ct7 => kernel_rfl)
      go_simp
      refine (must_yes _ _ _).mono ?_
      rintro e yy ⟨rfl, rfl⟩
      refine hK6 _ _ rfl (fun hS6 => ?_)
      clear hS5 hK6 K6
      refine wpAnyH_done (by kernel_rfl) ?_ _
      go_wp2
      go_ret
      exact .ok HG.out rfl rfl (H1.out.1.drewN 1) (H1.out.2.drewN 1)
    · rw [if_neg h1] at hg
      rw [decide_eq_false h1] at hf
      have HG := Lib.hid hg
      have HF := Lib.hid hf
      clear hg h hm hn hf hb h1
      go_enter Tryd.func40, Tryd.ntmps40
      go_upto_region 2 with (go_at_call 39; refine HL.out.mono ?_; rintro e w1 ⟨rfl, hk, hs⟩; have H1 := Lib.hid (And.intro hk hs); clear hk hs)
      refine wp_region_held_drew (S := fun Y => Y = w1.drew) (by kernel_rfl) rfl (fun hS => ?_)
      (refine held_take (i := 0) (oi := ?ot8) (v := ?vt8) ?at8 (by kernel_rfl) (by kernel_rfl) (by kernel_rfl) ?bt8 ?ct8 ?dt8 (by assumption) ?rt8; (case at8 => (simp only [List.getElem?_toArray, List.getElem?_cons_zero]; rfl)); (case bt8 => exact fun _ _ _ h => h); (case ct8 => kernel_rfl); (case dt8 => (intro W hW; subst hW; go_simp; (try with_reducible rfl))); (case' rt8 => simp only [Act.put, List.setIfInBounds_toArray, List.set_cons_zero, List.set_cons_succ]))
      (refine held_take (i := 1) (oi := ?ot9) (v := ?vt9) ?at9 (by kernel_rfl) (by kernel_rfl) (by kernel_rfl) ?bt9 ?ct9 ?dt9 (by assumption) ?rt9; (case at9 => (simp only [List.getElem?_toArray, List.getElem?_cons_zero, List.getElem?_cons_succ]; rfl)); (case bt9 => exact fun _ _ _ h => h); (case ct9 => kernel_rfl); (case dt9 => (intro W hW; subst hW; go_simp; (try with_reducible rfl))); (case' rt9 => simp only [Act.put, List.setIfInBounds_toArray, List.set_cons_zero, List.set_cons_succ]))
      (refine held_take (i := 2) (oi := ?ot10) (v := ?vt10) ?at10 (by kernel_rfl) (by kernel_rfl) (by kernel_rfl) ?bt10 ?ct10 ?dt10 (by assumption) ?rt10; (case at10 => (simp only [List.getElem?_toArray, List.getElem?_cons_zero, List.getElem?_cons_succ]; rfl)); (case bt10 => exact fun _ _ _ h => h); (case ct10 => kernel_rfl); (case dt10 => (intro W hW; subst hW; go_simp; (try with_reducible rfl))); (case' rt10 => simp only [Act.put, List.setIfInBounds_toArray, List.set_cons_zero, List.set_cons_succ]))
      (refine held_take (i := 3) (oi := ?ot11) (v := ?vt11) ?at11 (by kernel_rfl) (by kernel_rfl) (by kernel_rfl) ?bt11 ?ct11 ?dt11 (by assumption) ?rt11; (case at11 => (simp only [List.getElem?_toArray, List.getElem?_cons_zero, List.getElem?_cons_succ]; rfl)); (case bt11 => exact fun _ _ _ h => h); (case ct11 => kernel_rfl); (case dt11 => (intro W hW; subst hW; go_simp; (try with_reducible rfl))); (case' rt11 => simp only [Act.put, List.setIfInBounds_toArray, List.set_cons_zero, List.set_cons_succ]))
      (refine held_take (i := 4) (oi := ?ot12) (v := ?vt12) ?at12 (by kernel_rfl) (by kernel_rfl) (by kernel_rfl) ?bt12 ?ct12 ?dt12 (by assumption) ?rt12; (case at12 => (simp only [List.getElem?_toArray, List.getElem?_cons_zero, List.getElem?_cons_succ]; rfl)); (case bt12 => exact fun _ _ _ h => h); (case ct12 => kernel_rfl); (case dt12 => (intro W hW; subst hW; go_simp; (try with_reducible rfl))); (case' rt12 => simp only [Act.put, List.setIfInBounds_toArray, List.set_cons_zero, List.set_cons_succ]))
      refine held_one (i := 5) (oi := ?ot13) (by kernel_rfl) ?at13 ?ct13 (fun K5 hK5 => ?_)
      (case at13 => (simp only [List.getElem?_toArray, List.getElem?_cons_zero, List.getElem?_cons_succ]; rfl))
      (case ct13 => kernel_rfl)
      go_simp
      refine (HF.out _).mono ?_
      rintro e yy ⟨rfl, rfl⟩
      refine hK5 _ _ rfl (fun hS5 => ?_)
      clear hS hK5 K5
      refine held_one (i := 6) (oi := ?ot14) (by kernel_rfl) ?at14 ?ct14 (fun K6 hK6 => ?_)
      (case at14 => (simp only [List.getElem?_toArray, List.getElem?_cons_zero, List.getElem?_cons_succ]; rfl))
      (case ct14 => kernel_rfl)
      go_simp
      refine (must_no 142 (H1.out.1.drewN 1).at1).mono ?_
      rintro e yy ⟨rfl, rfl⟩
      exact ⟨rfl, .no HG.out rfl (H1.out.2.drewN 1)⟩
  · rw [if_neg hm] at hg
    have HL : Hid (Calls Tryd.prog 39 #[.pointer (some ⟨g, 0, none⟩)] w fun e w' => e = .panicked (faultC q 141) ∧ Save g w w') := Lib.hid ((short_any h).mono fun _ _ k => k.no hm)
    have HG := Lib.hid hg
    clear hg h hm
    go_enter Tryd.func40, Tryd.ntmps40
    go_wp2_with (go_at_call 39; refine HL.out.mono ?_; rintro e w1 ⟨rfl, hs⟩; exact ⟨rfl, .no HG.out rfl hs⟩)
set_option maxHeartbeats 1000000 in
set_option maxRecDepth 100000 in
theorem count_channelsFit (h : Cur w g A c b at_ q) :
    Calls Tryd.prog 40 #[.pointer (some ⟨g, 0, none⟩), .func (.func 42) #[] #[]] w (Rd (fld 2 0 32 142) (intV .i64) b q g A c w) := by
  have hg := fld_get 2 0 32 142 b q
  by_cases hm : q + 2 ≤ b.length
  · rw [if_pos hm] at hg
    have HL : Hid (Calls Tryd.prog 39 #[.pointer (some ⟨g, 0, none⟩)] w fun e w' => e = .returned (.int .i64 (numAt b q 2 : Nat)) ∧ Cur w' g A c b q (q + 2) ∧ Save g w w') := Lib.hid ((short_any h).mono fun _ _ k => k.yes hm)
    obtain ⟨n, hn⟩ : ∃ n, n = numAt b q 2 := ⟨_, rfl⟩
    rw [← hn] at hg HL
    have hf := channelsFit_any (n : Int)
    have hb : inB (n : Int) 0 32 = decide (0 ≤ n ∧ n ≤ 32) := by unfold inB; congr 1; simp only [eq_iff_iff]; omega
    rw [hb] at hf
    by_cases h1 : 0 ≤ n ∧ n ≤ 32
    · rw [if_pos h1] at hg
      rw [decide_eq_true h1] at hf
      have HG := Lib.hid hg
      have HF := Lib.hid hf
      clear hg h hm hn hf hb h1
      go_enter Tryd.func40, Tryd.ntmps40
      go_upto_region 2 with (go_at_call 39; refine HL.out.mono ?_; rintro e w1 ⟨rfl, hk, hs⟩; have H1 := Lib.hid (And.intro hk hs); clear hk hs)
      refine wp_region_held_drew (S := fun Y => Y = w1.drew) (by kernel_rfl) rfl (fun hS => ?_)
      (refine held_take (i := 0) (oi := ?ot15) (v := ?vt15) ?at15 (by kernel_rfl) (by kernel_rfl) (by kernel_rfl) ?bt15 ?ct15 ?dt15 (by assumption) ?rt15; (case at15 => (simp only [List.getElem?_toArray, List.getElem?_cons_zero]; rfl)); (case bt15 => exact fun _ _ _ h => h); (case ct15 => kernel_rfl); (case dt15 => (intro W hW; subst hW; go_simp; (try with_reducible rfl))); (case' rt15 => simp only [Act.put, List.setIfInBounds_toArray, List.set_cons_zero, List.set_cons_succ]))
      (refine held_take (i := 1) (oi := ?ot16) (v := ?vt16) ?at16 (by kernel_rfl) (by kernel_rfl) (by kernel_rfl) ?bt16 ?ct16 ?dt16 (by assumption) ?rt16; (case at16 => (simp only [List.getElem?_toArray, List.getElem?_cons_zero, List.getElem?_cons_succ]; rfl)); (case bt16 => exact fun _ _ _ h => h); (case ct16 => kernel_rfl); (case dt16 => (intro W hW; subst hW; go_simp; (try with_reducible rfl))); (case' rt16 => simp only [Act.put, List.setIfInBounds_toArray, List.set_cons_zero, List.set_cons_succ]))
      (refine held_take (i := 2) (oi := ?ot17) (v := ?vt17) ?at17 (by kernel_rfl) (by kernel_rfl) (by kernel_rfl) ?bt17 ?ct17 ?dt17 (by assumption) ?rt17; (case at17 => (simp only [List.getElem?_toArray, List.getElem?_cons_zero, List.getElem?_cons_succ]; rfl)); (case bt17 => exact fun _ _ _ h => h); (case ct17 => kernel_rfl); (case dt17 => (intro W hW; subst hW; go_simp; (try with_reducible rfl))); (case' rt17 => simp only [Act.put, List.setIfInBounds_toArray, List.set_cons_zero, List.set_cons_succ]))
      (refine held_take (i := 3) (oi := ?ot18) (v := ?vt18) ?at18 (by kernel_rfl) (by kernel_rfl) (by kernel_rfl) ?bt18 ?ct18 ?dt18 (by assumption) ?rt18; (case at18 => (simp only [List.getElem?_toArray, List.getElem?_cons_zero, List.getElem?_cons_succ]; rfl)); (case bt18 => exact fun _ _ _ h => h); (case ct18 => kernel_rfl); (case dt18 => (intro W hW; subst hW; go_simp; (try with_reducible rfl))); (case' rt18 => simp only [Act.put, List.setIfInBounds_toArray, List.set_cons_zero, List.set_cons_succ]))
      (refine held_take (i := 4) (oi := ?ot19) (v := ?vt19) ?at19 (by kernel_rfl) (by kernel_rfl) (by kernel_rfl) ?bt19 ?ct19 ?dt19 (by assumption) ?rt19; (case at19 => (simp only [List.getElem?_toArray, List.getElem?_cons_zero, List.getElem?_cons_succ]; rfl)); (case bt19 => exact fun _ _ _ h => h); (case ct19 => kernel_rfl); (case dt19 => (intro W hW; subst hW; go_simp; (try with_reducible rfl))); (case' rt19 => simp only [Act.put, List.setIfInBounds_toArray, List.set_cons_zero, List.set_cons_succ]))
      refine held_one (i := 5) (oi := ?ot20) (by kernel_rfl) ?at20 ?ct20 (fun K5 hK5 => ?_)
      (case at20 => (simp only [List.getElem?_toArray, List.getElem?_cons_zero, List.getElem?_cons_succ]; rfl))
      (case ct20 => kernel_rfl)
      go_simp
      refine (HF.out _).mono ?_
      rintro e yy ⟨rfl, rfl⟩
      refine hK5 _ _ rfl (fun hS5 => ?_)
      clear hS hK5 K5
      refine held_one (i := 6) (oi := ?ot21) (by kernel_rfl) ?at21 ?ct21 (fun K6 hK6 => ?_)
      (case at21 => (simp only [List.getElem?_toArray, List.getElem?_cons_zero, List.getElem?_cons_succ]; rfl))
      (case ct21 => kernel_rfl)
      go_simp
      refine (must_yes _ _ _).mono ?_
      rintro e yy ⟨rfl, rfl⟩
      refine hK6 _ _ rfl (fun hS6 => ?_)
      clear hS5 hK6 K6
      refine wpAnyH_done (by kernel_rfl) ?_ _
      go_wp2
      go_ret
      exact .ok HG.out rfl rfl (H1.out.1.drewN 1) (H1.out.2.drewN 1)
    · rw [if_neg h1] at hg
      rw [decide_eq_false h1] at hf
      have HG := Lib.hid hg
      have HF := Lib.hid hf
      clear hg h hm hn hf hb h1
      go_enter Tryd.func40, Tryd.ntmps40
      go_upto_region 2 with (go_at_call 39; refine HL.out.mono ?_; rintro e w1 ⟨rfl, hk, hs⟩; have H1 := Lib.hid (And.intro hk hs); clear hk hs)
      refine wp_region_held_drew (S := fun Y => Y = w1.drew) (by kernel_rfl) rfl (fun hS => ?_)
      (refine held_take (i := 0) (oi := ?ot22) (v := ?vt22) ?at22 (by kernel_rfl) (by kernel_rfl) (by kernel_rfl) ?bt22 ?ct22 ?dt22 (by assumption) ?rt22; (case at22 => (simp only [List.getElem?_toArray, List.getElem?_cons_zero]; rfl)); (case bt22 => exact fun _ _ _ h => h); (case ct22 => kernel_rfl); (case dt22 => (intro W hW; subst hW; go_simp; (try with_reducible rfl))); (case' rt22 => simp only [Act.put, List.setIfInBounds_toArray, List.set_cons_zero, List.set_cons_succ]))
      (refine held_take (i := 1) (oi := ?ot23) (v := ?vt23) ?at23 (by kernel_rfl) (by kernel_rfl) (by kernel_rfl) ?bt23 ?ct23 ?dt23 (by assumption) ?rt23; (case at23 => (simp only [List.getElem?_toArray, List.getElem?_cons_zero, List.getElem?_cons_succ]; rfl)); (case bt23 => exact fun _ _ _ h => h); (case ct23 => kernel_rfl); (case dt23 => (intro W hW; subst hW; go_simp; (try with_reducible rfl))); (case' rt23 => simp only [Act.put, List.setIfInBounds_toArray, List.set_cons_zero, List.set_cons_succ]))
      (refine held_take (i := 2) (oi := ?ot24) (v := ?vt24) ?at24 (by kernel_rfl) (by kernel_rfl) (by kernel_rfl) ?bt24 ?ct24 ?dt24 (by assumption) ?rt24; (case at24 => (simp only [List.getElem?_toArray, List.getElem?_cons_zero, List.getElem?_cons_succ]; rfl)); (case bt24 => exact fun _ _ _ h => h); (case ct24 => kernel_rfl); (case dt24 => (intro W hW; subst hW; go_simp; (try with_reducible rfl))); (case' rt24 => simp only [Act.put, List.setIfInBounds_toArray, List.set_cons_zero, List.set_cons_succ]))
      (refine held_take (i := 3) (oi := ?ot25) (v := ?vt25) ?at25 (by kernel_rfl) (by kernel_rfl) (by kernel_rfl) ?bt25 ?ct25 ?dt25 (by assumption) ?rt25; (case at25 => (simp only [List.getElem?_toArray, List.getElem?_cons_zero, List.getElem?_cons_succ]; rfl)); (case bt25 => exact fun _ _ _ h => h); (case ct25 => kernel_rfl); (case dt25 => (intro W hW; subst hW; go_simp; (try with_reducible rfl))); (case' rt25 => simp only [Act.put, List.setIfInBounds_toArray, List.set_cons_zero, List.set_cons_succ]))
      (refine held_take (i := 4) (oi := ?ot26) (v := ?vt26) ?at26 (by kernel_rfl) (by kernel_rfl) (by kernel_rfl) ?bt26 ?ct26 ?dt26 (by assumption) ?rt26; (case at26 => (simp only [List.getElem?_toArray, List.getElem?_cons_zero, List.getElem?_cons_succ]; rfl)); (case bt26 => exact fun _ _ _ h => h); (case ct26 => kernel_rfl); (case dt26 => (intro W hW; subst hW; go_simp; (try with_reducible rfl))); (case' rt26 => simp only [Act.put, List.setIfInBounds_toArray, List.set_cons_zero, List.set_cons_succ]))
      refine held_one (i := 5) (oi := ?ot27) (by kernel_rfl) ?at27 ?ct27 (fun K5 hK5 => ?_)
      (case at27 => (simp only [List.getElem?_toArray, List.getElem?_cons_zero, List.getElem?_cons_succ]; rfl))
      (case ct27 => kernel_rfl)
      go_simp
      refine (HF.out _).mono ?_
      rintro e yy ⟨rfl, rfl⟩
      refine hK5 _ _ rfl (fun hS5 => ?_)
      clear hS hK5 K5
      refine held_one (i := 6) (oi := ?ot28) (by kernel_rfl) ?at28 ?ct28 (fun K6 hK6 => ?_)
      (case at28 => (simp only [List.getElem?_toArray, List.getElem?_cons_zero, List.getElem?_cons_succ]; rfl))
      (case ct28 => kernel_rfl)
      go_simp
      refine (must_no 142 (H1.out.1.drewN 1).at1).mono ?_
      rintro e yy ⟨rfl, rfl⟩
      exact ⟨rfl, .no HG.out rfl (H1.out.2.drewN 1)⟩
  · rw [if_neg hm] at hg
    have HL : Hid (Calls Tryd.prog 39 #[.pointer (some ⟨g, 0, none⟩)] w fun e w' => e = .panicked (faultC q 141) ∧ Save g w w') := Lib.hid ((short_any h).mono fun _ _ k => k.no hm)
    have HG := Lib.hid hg
    clear hg h hm
    go_enter Tryd.func40, Tryd.ntmps40
    go_wp2_with (go_at_call 39; refine HL.out.mono ?_; rintro e w1 ⟨rfl, hs⟩; exact ⟨rfl, .no HG.out rfl hs⟩)
set_option maxHeartbeats 1000000 in
set_option maxRecDepth 100000 in
theorem count_windowsFit (h : Cur w g A c b at_ q) :
    Calls Tryd.prog 40 #[.pointer (some ⟨g, 0, none⟩), .func (.func 74) #[] #[]] w (Rd (fld 2 1 16 142) (intV .i64) b q g A c w) := by
  have hg := fld_get 2 1 16 142 b q
  by_cases hm : q + 2 ≤ b.length
  · rw [if_pos hm] at hg
    have HL : Hid (Calls Tryd.prog 39 #[.pointer (some ⟨g, 0, none⟩)] w fun e w' => e = .returned (.int .i64 (numAt b q 2 : Nat)) ∧ Cur w' g A c b q (q + 2) ∧ Save g w w') := Lib.hid ((short_any h).mono fun _ _ k => k.yes hm)
    obtain ⟨n, hn⟩ : ∃ n, n = numAt b q 2 := ⟨_, rfl⟩
    rw [← hn] at hg HL
    have hf := windowsFit_any (n : Int)
    have hb : inB (n : Int) 1 16 = decide (1 ≤ n ∧ n ≤ 16) := by unfold inB; congr 1; simp only [eq_iff_iff]; omega
    rw [hb] at hf
    by_cases h1 : 1 ≤ n ∧ n ≤ 16
    · rw [if_pos h1] at hg
      rw [decide_eq_true h1] at hf
      have HG := Lib.hid hg
      have HF := Lib.hid hf
      clear hg h hm hn hf hb h1
      go_enter Tryd.func40, Tryd.ntmps40
      go_upto_region 2 with (go_at_call 39; refine HL.out.mono ?_; rintro e w1 ⟨rfl, hk, hs⟩; have H1 := Lib.hid (And.intro hk hs); clear hk hs)
      refine wp_region_held_drew (S := fun Y => Y = w1.drew) (by kernel_rfl) rfl (fun hS => ?_)
      (refine held_take (i := 0) (oi := ?ot29) (v := ?vt29) ?at29 (by kernel_rfl) (by kernel_rfl) (by kernel_rfl) ?bt29 ?ct29 ?dt29 (by assumption) ?rt29; (case at29 => (simp only [List.getElem?_toArray, List.getElem?_cons_zero]; rfl)); (case bt29 => exact fun _ _ _ h => h); (case ct29 => kernel_rfl); (case dt29 => (intro W hW; subst hW; go_simp; (try with_reducible rfl))); (case' rt29 => simp only [Act.put, List.setIfInBounds_toArray, List.set_cons_zero, List.set_cons_succ]))
      (refine held_take (i := 1) (oi := ?ot30) (v := ?vt30) ?at30 (by kernel_rfl) (by kernel_rfl) (by kernel_rfl) ?bt30 ?ct30 ?dt30 (by assumption) ?rt30; (case at30 => (simp only [List.getElem?_toArray, List.getElem?_cons_zero, List.getElem?_cons_succ]; rfl)); (case bt30 => exact fun _ _ _ h => h); (case ct30 => kernel_rfl); (case dt30 => (intro W hW; subst hW; go_simp; (try with_reducible rfl))); (case' rt30 => simp only [Act.put, List.setIfInBounds_toArray, List.set_cons_zero, List.set_cons_succ]))
      (refine held_take (i := 2) (oi := ?ot31) (v := ?vt31) ?at31 (by kernel_rfl) (by kernel_rfl) (by kernel_rfl) ?bt31 ?ct31 ?dt31 (by assumption) ?rt31; (case at31 => (simp only [List.getElem?_toArray, List.getElem?_cons_zero, List.getElem?_cons_succ]; rfl)); (case bt31 => exact fun _ _ _ h => h); (case ct31 => kernel_rfl); (case dt31 => (intro W hW; subst hW; go_simp; (try with_reducible rfl))); (case' rt31 => simp only [Act.put, List.setIfInBounds_toArray, List.set_cons_zero, List.set_cons_succ]))
      (refine held_take (i := 3) (oi := ?ot32) (v := ?vt32) ?at32 (by kernel_rfl) (by kernel_rfl) (by kernel_rfl) ?bt32 ?ct32 ?dt32 (by assumption) ?rt32; (case at32 => (simp only [List.getElem?_toArray, List.getElem?_cons_zero, List.getElem?_cons_succ]; rfl)); (case bt32 => exact fun _ _ _ h => h); (case ct32 => kernel_rfl); (case dt32 => (intro W hW; subst hW; go_simp; (try with_reducible rfl))); (case' rt32 => simp only [Act.put, List.setIfInBounds_toArray, List.set_cons_zero, List.set_cons_succ]))
      (refine held_take (i := 4) (oi := ?ot33) (v := ?vt33) ?at33 (by kernel_rfl) (by kernel_rfl) (by kernel_rfl) ?bt33 ?ct33 ?dt33 (by assumption) ?rt33; (case at33 => (simp only [List.getElem?_toArray, List.getElem?_cons_zero, List.getElem?_cons_succ]; rfl)); (case bt33 => exact fun _ _ _ h => h); (case ct33 => kernel_rfl); (case dt33 => (intro W hW; subst hW; go_simp; (try with_reducible rfl))); (case' rt33 => simp only [Act.put, List.setIfInBounds_toArray, List.set_cons_zero, List.set_cons_succ]))
      refine held_one (i := 5) (oi := ?ot34) (by kernel_rfl) ?at34 ?ct34 (fun K5 hK5 => ?_)
      (case at34 => (simp only [List.getElem?_toArray, List.getElem?_cons_zero, List.getElem?_cons_succ]; rfl))
      (case ct34 => kernel_rfl)
      go_simp
      refine (HF.out _).mono ?_
      rintro e yy ⟨rfl, rfl⟩
      refine hK5 _ _ rfl (fun hS5 => ?_)
      clear hS hK5 K5
      refine held_one (i := 6) (oi := ?ot35) (by kernel_rfl) ?at35 ?ct35 (fun K6 hK6 => ?_)
      (case at35 => (simp only [List.getElem?_toArray, List.getElem?_cons_zero, List.getElem?_cons_succ]; rfl))
      (case ct35 => kernel_rfl)
      go_simp
      refine (must_yes _ _ _).mono ?_
      rintro e yy ⟨rfl, rfl⟩
      refine hK6 _ _ rfl (fun hS6 => ?_)
      clear hS5 hK6 K6
      refine wpAnyH_done (by kernel_rfl) ?_ _
      go_wp2
      go_ret
      exact .ok HG.out rfl rfl (H1.out.1.drewN 1) (H1.out.2.drewN 1)
    · rw [if_neg h1] at hg
      rw [decide_eq_false h1] at hf
      have HG := Lib.hid hg
      have HF := Lib.hid hf
      clear hg h hm hn hf hb h1
      go_enter Tryd.func40, Tryd.ntmps40
      go_upto_region 2 with (go_at_call 39; refine HL.out.mono ?_; rintro e w1 ⟨rfl, hk, hs⟩; have H1 := Lib.hid (And.intro hk hs); clear hk hs)
      refine wp_region_held_drew (S := fun Y => Y = w1.drew) (by kernel_rfl) rfl (fun hS => ?_)
      (refine held_take (i := 0) (oi := ?ot36) (v := ?vt36) ?at36 (by kernel_rfl) (by kernel_rfl) (by kernel_rfl) ?bt36 ?ct36 ?dt36 (by assumption) ?rt36; (case at36 => (simp only [List.getElem?_toArray, List.getElem?_cons_zero]; rfl)); (case bt36 => exact fun _ _ _ h => h); (case ct36 => kernel_rfl); (case dt36 => (intro W hW; subst hW; go_simp; (try with_reducible rfl))); (case' rt36 => simp only [Act.put, List.setIfInBounds_toArray, List.set_cons_zero, List.set_cons_succ]))
      (refine held_take (i := 1) (oi := ?ot37) (v := ?vt37) ?at37 (by kernel_rfl) (by kernel_rfl) (by kernel_rfl) ?bt37 ?ct37 ?dt37 (by assumption) ?rt37; (case at37 => (simp only [List.getElem?_toArray, List.getElem?_cons_zero, List.getElem?_cons_succ]; rfl)); (case bt37 => exact fun _ _ _ h => h); (case ct37 => kernel_rfl); (case dt37 => (intro W hW; subst hW; go_simp; (try with_reducible rfl))); (case' rt37 => simp only [Act.put, List.setIfInBounds_toArray, List.set_cons_zero, List.set_cons_succ]))
      (refine held_take (i := 2) (oi := ?ot38) (v := ?vt38) ?at38 (by kernel_rfl) (by kernel_rfl) (by kernel_rfl) ?bt38 ?ct38 ?dt38 (by assumption) ?rt38; (case at38 => (simp only [List.getElem?_toArray, List.getElem?_cons_zero, List.getElem?_cons_succ]; rfl)); (case bt38 => exact fun _ _ _ h => h); (case ct38 => kernel_rfl); (case dt38 => (intro W hW; subst hW; go_simp; (try with_reducible rfl))); (case' rt38 => simp only [Act.put, List.setIfInBounds_toArray, List.set_cons_zero, List.set_cons_succ]))
      (refine held_take (i := 3) (oi := ?ot39) (v := ?vt39) ?at39 (by kernel_rfl) (by kernel_rfl) (by kernel_rfl) ?bt39 ?ct39 ?dt39 (by assumption) ?rt39; (case at39 => (simp only [List.getElem?_toArray, List.getElem?_cons_zero, List.getElem?_cons_succ]; rfl)); (case bt39 => exact fun _ _ _ h => h); (case ct39 => kernel_rfl); (case dt39 => (intro W hW; subst hW; go_simp; (try with_reducible rfl))); (case' rt39 => simp only [Act.put, List.setIfInBounds_toArray, List.set_cons_zero, List.set_cons_succ]))
      (refine held_take (i := 4) (oi := ?ot40) (v := ?vt40) ?at40 (by kernel_rfl) (by kernel_rfl) (by kernel_rfl) ?bt40 ?ct40 ?dt40 (by assumption) ?rt40; (case at40 => (simp only [List.getElem?_toArray, List.getElem?_cons_zero, List.getElem?_cons_succ]; rfl)); (case bt40 => exact fun _ _ _ h => h); (case ct40 => kernel_rfl); (case dt40 => (intro W hW; subst hW; go_simp; (try with_reducible rfl))); (case' rt40 => simp only [Act.put, List.setIfInBounds_toArray, List.set_cons_zero, List.set_cons_succ]))
      refine held_one (i := 5) (oi := ?ot41) (by kernel_rfl) ?at41 ?ct41 (fun K5 hK5 => ?_)
      (case at41 => (simp only [List.getElem?_toArray, List.getElem?_cons_zero, List.getElem?_cons_succ]; rfl))
      (case ct41 => kernel_rfl)
      go_simp
      refine (HF.out _).mono ?_
      rintro e yy ⟨rfl, rfl⟩
      refine hK5 _ _ rfl (fun hS5 => ?_)
      clear hS hK5 K5
      refine held_one (i := 6) (oi := ?ot42) (by kernel_rfl) ?at42 ?ct42 (fun K6 hK6 => ?_)
      (case at42 => (simp only [List.getElem?_toArray, List.getElem?_cons_zero, List.getElem?_cons_succ]; rfl))
      (case ct42 => kernel_rfl)
      go_simp
      refine (must_no 142 (H1.out.1.drewN 1).at1).mono ?_
      rintro e yy ⟨rfl, rfl⟩
      exact ⟨rfl, .no HG.out rfl (H1.out.2.drewN 1)⟩
  · rw [if_neg hm] at hg
    have HL : Hid (Calls Tryd.prog 39 #[.pointer (some ⟨g, 0, none⟩)] w fun e w' => e = .panicked (faultC q 141) ∧ Save g w w') := Lib.hid ((short_any h).mono fun _ _ k => k.no hm)
    have HG := Lib.hid hg
    clear hg h hm
    go_enter Tryd.func40, Tryd.ntmps40
    go_wp2_with (go_at_call 39; refine HL.out.mono ?_; rintro e w1 ⟨rfl, hs⟩; exact ⟨rfl, .no HG.out rfl hs⟩)
set_option maxHeartbeats 1000000 in
set_option maxRecDepth 100000 in
theorem count_devicesFit (h : Cur w g A c b at_ q) :
    Calls Tryd.prog 40 #[.pointer (some ⟨g, 0, none⟩), .func (.func 75) #[] #[]] w (Rd (fld 2 0 16 142) (intV .i64) b q g A c w) := by
  have hg := fld_get 2 0 16 142 b q
  by_cases hm : q + 2 ≤ b.length
  · rw [if_pos hm] at hg
    have HL : Hid (Calls Tryd.prog 39 #[.pointer (some ⟨g, 0, none⟩)] w fun e w' => e = .returned (.int .i64 (numAt b q 2 : Nat)) ∧ Cur w' g A c b q (q + 2) ∧ Save g w w') := Lib.hid ((short_any h).mono fun _ _ k => k.yes hm)
    obtain ⟨n, hn⟩ : ∃ n, n = numAt b q 2 := ⟨_, rfl⟩
    rw [← hn] at hg HL
    have hf := devicesFit_any (n : Int)
    have hb : inB (n : Int) 0 16 = decide (0 ≤ n ∧ n ≤ 16) := by unfold inB; congr 1; simp only [eq_iff_iff]; omega
    rw [hb] at hf
    by_cases h1 : 0 ≤ n ∧ n ≤ 16
    · rw [if_pos h1] at hg
      rw [decide_eq_true h1] at hf
      have HG := Lib.hid hg
      have HF := Lib.hid hf
      clear hg h hm hn hf hb h1
      go_enter Tryd.func40, Tryd.ntmps40
      go_upto_region 2 with (go_at_call 39; refine HL.out.mono ?_; rintro e w1 ⟨rfl, hk, hs⟩; have H1 := Lib.hid (And.intro hk hs); clear hk hs)
      refine wp_region_held_drew (S := fun Y => Y = w1.drew) (by kernel_rfl) rfl (fun hS => ?_)
      (refine held_take (i := 0) (oi := ?ot43) (v := ?vt43) ?at43 (by kernel_rfl) (by kernel_rfl) (by kernel_rfl) ?bt43 ?ct43 ?dt43 (by assumption) ?rt43; (case at43 => (simp only [List.getElem?_toArray, List.getElem?_cons_zero]; rfl)); (case bt43 => exact fun _ _ _ h => h); (case ct43 => kernel_rfl); (case dt43 => (intro W hW; subst hW; go_simp; (try with_reducible rfl))); (case' rt43 => simp only [Act.put, List.setIfInBounds_toArray, List.set_cons_zero, List.set_cons_succ]))
      (refine held_take (i := 1) (oi := ?ot44) (v := ?vt44) ?at44 (by kernel_rfl) (by kernel_rfl) (by kernel_rfl) ?bt44 ?ct44 ?dt44 (by assumption) ?rt44; (case at44 => (simp only [List.getElem?_toArray, List.getElem?_cons_zero, List.getElem?_cons_succ]; rfl)); (case bt44 => exact fun _ _ _ h => h); (case ct44 => kernel_rfl); (case dt44 => (intro W hW; subst hW; go_simp; (try with_reducible rfl))); (case' rt44 => simp only [Act.put, List.setIfInBounds_toArray, List.set_cons_zero, List.set_cons_succ]))
      (refine held_take (i := 2) (oi := ?ot45) (v := ?vt45) ?at45 (by kernel_rfl) (by kernel_rfl) (by kernel_rfl) ?bt45 ?ct45 ?dt45 (by assumption) ?rt45; (case at45 => (simp only [List.getElem?_toArray, List.getElem?_cons_zero, List.getElem?_cons_succ]; rfl)); (case bt45 => exact fun _ _ _ h => h); (case ct45 => kernel_rfl); (case dt45 => (intro W hW; subst hW; go_simp; (try with_reducible rfl))); (case' rt45 => simp only [Act.put, List.setIfInBounds_toArray, List.set_cons_zero, List.set_cons_succ]))
      (refine held_take (i := 3) (oi := ?ot46) (v := ?vt46) ?at46 (by kernel_rfl) (by kernel_rfl) (by kernel_rfl) ?bt46 ?ct46 ?dt46 (by assumption) ?rt46; (case at46 => (simp only [List.getElem?_toArray, List.getElem?_cons_zero, List.getElem?_cons_succ]; rfl)); (case bt46 => exact fun _ _ _ h => h); (case ct46 => kernel_rfl); (case dt46 => (intro W hW; subst hW; go_simp; (try with_reducible rfl))); (case' rt46 => simp only [Act.put, List.setIfInBounds_toArray, List.set_cons_zero, List.set_cons_succ]))
      (refine held_take (i := 4) (oi := ?ot47) (v := ?vt47) ?at47 (by kernel_rfl) (by kernel_rfl) (by kernel_rfl) ?bt47 ?ct47 ?dt47 (by assumption) ?rt47; (case at47 => (simp only [List.getElem?_toArray, List.getElem?_cons_zero, List.getElem?_cons_succ]; rfl)); (case bt47 => exact fun _ _ _ h => h); (case ct47 => kernel_rfl); (case dt47 => (intro W hW; subst hW; go_simp; (try with_reducible rfl))); (case' rt47 => simp only [Act.put, List.setIfInBounds_toArray, List.set_cons_zero, List.set_cons_succ]))
      refine held_one (i := 5) (oi := ?ot48) (by kernel_rfl) ?at48 ?ct48 (fun K5 hK5 => ?_)
      (case at48 => (simp only [List.getElem?_toArray, List.getElem?_cons_zero, List.getElem?_cons_succ]; rfl))
      (case ct48 => kernel_rfl)
      go_simp
      refine (HF.out _).mono ?_
      rintro e yy ⟨rfl, rfl⟩
      refine hK5 _ _ rfl (fun hS5 => ?_)
      clear hS hK5 K5
      refine held_one (i := 6) (oi := ?ot49) (by kernel_rfl) ?at49 ?ct49 (fun K6 hK6 => ?_)
      (case at49 => (simp only [List.getElem?_toArray, List.getElem?_cons_zero, List.getElem?_cons_succ]; rfl))
      (case ct49 => kernel_rfl)
      go_simp
      refine (must_yes _ _ _).mono ?_
      rintro e yy ⟨rfl, rfl⟩
      refine hK6 _ _ rfl (fun hS6 => ?_)
      clear hS5 hK6 K6
      refine wpAnyH_done (by kernel_rfl) ?_ _
      go_wp2
      go_ret
      exact .ok HG.out rfl rfl (H1.out.1.drewN 1) (H1.out.2.drewN 1)
    · rw [if_neg h1] at hg
      rw [decide_eq_false h1] at hf
      have HG := Lib.hid hg
      have HF := Lib.hid hf
      clear hg h hm hn hf hb h1
      go_enter Tryd.func40, Tryd.ntmps40
      go_upto_region 2 with (go_at_call 39; refine HL.out.mono ?_; rintro e w1 ⟨rfl, hk, hs⟩; have H1 := Lib.hid (And.intro hk hs); clear hk hs)
      refine wp_region_held_drew (S := fun Y => Y = w1.drew) (by kernel_rfl) rfl (fun hS => ?_)
      (refine held_take (i := 0) (oi := ?ot50) (v := ?vt50) ?at50 (by kernel_rfl) (by kernel_rfl) (by kernel_rfl) ?bt50 ?ct50 ?dt50 (by assumption) ?rt50; (case at50 => (simp only [List.getElem?_toArray, List.getElem?_cons_zero]; rfl)); (case bt50 => exact fun _ _ _ h => h); (case ct50 => kernel_rfl); (case dt50 => (intro W hW; subst hW; go_simp; (try with_reducible rfl))); (case' rt50 => simp only [Act.put, List.setIfInBounds_toArray, List.set_cons_zero, List.set_cons_succ]))
      (refine held_take (i := 1) (oi := ?ot51) (v := ?vt51) ?at51 (by kernel_rfl) (by kernel_rfl) (by kernel_rfl) ?bt51 ?ct51 ?dt51 (by assumption) ?rt51; (case at51 => (simp only [List.getElem?_toArray, List.getElem?_cons_zero, List.getElem?_cons_succ]; rfl)); (case bt51 => exact fun _ _ _ h => h); (case ct51 => kernel_rfl); (case dt51 => (intro W hW; subst hW; go_simp; (try with_reducible rfl))); (case' rt51 => simp only [Act.put, List.setIfInBounds_toArray, List.set_cons_zero, List.set_cons_succ]))
      (refine held_take (i := 2) (oi := ?ot52) (v := ?vt52) ?at52 (by kernel_rfl) (by kernel_rfl) (by kernel_rfl) ?bt52 ?ct52 ?dt52 (by assumption) ?rt52; (case at52 => (simp only [List.getElem?_toArray, List.getElem?_cons_zero, List.getElem?_cons_succ]; rfl)); (case bt52 => exact fun _ _ _ h => h); (case ct52 => kernel_rfl); (case dt52 => (intro W hW; subst hW; go_simp; (try with_reducible rfl))); (case' rt52 => simp only [Act.put, List.setIfInBounds_toArray, List.set_cons_zero, List.set_cons_succ]))
      (refine held_take (i := 3) (oi := ?ot53) (v := ?vt53) ?at53 (by kernel_rfl) (by kernel_rfl) (by kernel_rfl) ?bt53 ?ct53 ?dt53 (by assumption) ?rt53; (case at53 => (simp only [List.getElem?_toArray, List.getElem?_cons_zero, List.getElem?_cons_succ]; rfl)); (case bt53 => exact fun _ _ _ h => h); (case ct53 => kernel_rfl); (case dt53 => (intro W hW; subst hW; go_simp; (try with_reducible rfl))); (case' rt53 => simp only [Act.put, List.setIfInBounds_toArray, List.set_cons_zero, List.set_cons_succ]))
      (refine held_take (i := 4) (oi := ?ot54) (v := ?vt54) ?at54 (by kernel_rfl) (by kernel_rfl) (by kernel_rfl) ?bt54 ?ct54 ?dt54 (by assumption) ?rt54; (case at54 => (simp only [List.getElem?_toArray, List.getElem?_cons_zero, List.getElem?_cons_succ]; rfl)); (case bt54 => exact fun _ _ _ h => h); (case ct54 => kernel_rfl); (case dt54 => (intro W hW; subst hW; go_simp; (try with_reducible rfl))); (case' rt54 => simp only [Act.put, List.setIfInBounds_toArray, List.set_cons_zero, List.set_cons_succ]))
      refine held_one (i := 5) (oi := ?ot55) (by kernel_rfl) ?at55 ?ct55 (fun K5 hK5 => ?_)
      (case at55 => (simp only [List.getElem?_toArray, List.getElem?_cons_zero, List.getElem?_cons_succ]; rfl))
      (case ct55 => kernel_rfl)
      go_simp
      refine (HF.out _).mono ?_
      rintro e yy ⟨rfl, rfl⟩
      refine hK5 _ _ rfl (fun hS5 => ?_)
      clear hS hK5 K5
      refine held_one (i := 6) (oi := ?ot56) (by kernel_rfl) ?at56 ?ct56 (fun K6 hK6 => ?_)
      (case at56 => (simp only [List.getElem?_toArray, List.getElem?_cons_zero, List.getElem?_cons_succ]; rfl))
      (case ct56 => kernel_rfl)
      go_simp
      refine (must_no 142 (H1.out.1.drewN 1).at1).mono ?_
      rintro e yy ⟨rfl, rfl⟩
      exact ⟨rfl, .no HG.out rfl (H1.out.2.drewN 1)⟩
  · rw [if_neg hm] at hg
    have HL : Hid (Calls Tryd.prog 39 #[.pointer (some ⟨g, 0, none⟩)] w fun e w' => e = .panicked (faultC q 141) ∧ Save g w w') := Lib.hid ((short_any h).mono fun _ _ k => k.no hm)
    have HG := Lib.hid hg
    clear hg h hm
    go_enter Tryd.func40, Tryd.ntmps40
    go_wp2_with (go_at_call 39; refine HL.out.mono ?_; rintro e w1 ⟨rfl, hs⟩; exact ⟨rfl, .no HG.out rfl hs⟩)
set_option maxHeartbeats 1000000 in
set_option maxRecDepth 100000 in
theorem count_irqsFit (h : Cur w g A c b at_ q) :
    Calls Tryd.prog 40 #[.pointer (some ⟨g, 0, none⟩), .func (.func 76) #[] #[]] w (Rd (fld 2 0 64 142) (intV .i64) b q g A c w) := by
  have hg := fld_get 2 0 64 142 b q
  by_cases hm : q + 2 ≤ b.length
  · rw [if_pos hm] at hg
    have HL : Hid (Calls Tryd.prog 39 #[.pointer (some ⟨g, 0, none⟩)] w fun e w' => e = .returned (.int .i64 (numAt b q 2 : Nat)) ∧ Cur w' g A c b q (q + 2) ∧ Save g w w') := Lib.hid ((short_any h).mono fun _ _ k => k.yes hm)
    obtain ⟨n, hn⟩ : ∃ n, n = numAt b q 2 := ⟨_, rfl⟩
    rw [← hn] at hg HL
    have hf := irqsFit_any (n : Int)
    have hb : inB (n : Int) 0 64 = decide (0 ≤ n ∧ n ≤ 64) := by unfold inB; congr 1; simp only [eq_iff_iff]; omega
    rw [hb] at hf
    by_cases h1 : 0 ≤ n ∧ n ≤ 64
    · rw [if_pos h1] at hg
      rw [decide_eq_true h1] at hf
      have HG := Lib.hid hg
      have HF := Lib.hid hf
      clear hg h hm hn hf hb h1
      go_enter Tryd.func40, Tryd.ntmps40
      go_upto_region 2 with (go_at_call 39; refine HL.out.mono ?_; rintro e w1 ⟨rfl, hk, hs⟩; have H1 := Lib.hid (And.intro hk hs); clear hk hs)
      refine wp_region_held_drew (S := fun Y => Y = w1.drew) (by kernel_rfl) rfl (fun hS => ?_)
      (refine held_take (i := 0) (oi := ?ot57) (v := ?vt57) ?at57 (by kernel_rfl) (by kernel_rfl) (by kernel_rfl) ?bt57 ?ct57 ?dt57 (by assumption) ?rt57; (case at57 => (simp only [List.getElem?_toArray, List.getElem?_cons_zero]; rfl)); (case bt57 => exact fun _ _ _ h => h); (case ct57 => kernel_rfl); (case dt57 => (intro W hW; subst hW; go_simp; (try with_reducible rfl))); (case' rt57 => simp only [Act.put, List.setIfInBounds_toArray, List.set_cons_zero, List.set_cons_succ]))
      (refine held_take (i := 1) (oi := ?ot58) (v := ?vt58) ?at58 (by kernel_rfl) (by kernel_rfl) (by kernel_rfl) ?bt58 ?ct58 ?dt58 (by assumption) ?rt58; (case at58 => (simp only [List.getElem?_toArray, List.getElem?_cons_zero, List.getElem?_cons_succ]; rfl)); (case bt58 => exact fun _ _ _ h => h); (case ct58 => kernel_rfl); (case dt58 => (intro W hW; subst hW; go_simp; (try with_reducible rfl))); (case' rt58 => simp only [Act.put, List.setIfInBounds_toArray, List.set_cons_zero, List.set_cons_succ]))
      (refine held_take (i := 2) (oi := ?ot59) (v := ?vt59) ?at59 (by kernel_rfl) (by kernel_rfl) (by kernel_rfl) ?bt59 ?ct59 ?dt59 (by assumption) ?rt59; (case at59 => (simp only [List.getElem?_toArray, List.getElem?_cons_zero, List.getElem?_cons_succ]; rfl)); (case bt59 => exact fun _ _ _ h => h); (case ct59 => kernel_rfl); (case dt59 => (intro W hW; subst hW; go_simp; (try with_reducible rfl))); (case' rt59 => simp only [Act.put, List.setIfInBounds_toArray, List.set_cons_zero, List.set_cons_succ]))
      (refine held_take (i := 3) (oi := ?ot60) (v := ?vt60) ?at60 (by kernel_rfl) (by kernel_rfl) (by kernel_rfl) ?bt60 ?ct60 ?dt60 (by assumption) ?rt60; (case at60 => (simp only [List.getElem?_toArray, List.getElem?_cons_zero, List.getElem?_cons_succ]; rfl)); (case bt60 => exact fun _ _ _ h => h); (case ct60 => kernel_rfl); (case dt60 => (intro W hW; subst hW; go_simp; (try with_reducible rfl))); (case' rt60 => simp only [Act.put, List.setIfInBounds_toArray, List.set_cons_zero, List.set_cons_succ]))
      (refine held_take (i := 4) (oi := ?ot61) (v := ?vt61) ?at61 (by kernel_rfl) (by kernel_rfl) (by kernel_rfl) ?bt61 ?ct61 ?dt61 (by assumption) ?rt61; (case at61 => (simp only [List.getElem?_toArray, List.getElem?_cons_zero, List.getElem?_cons_succ]; rfl)); (case bt61 => exact fun _ _ _ h => h); (case ct61 => kernel_rfl); (case dt61 => (intro W hW; subst hW; go_simp; (try with_reducible rfl))); (case' rt61 => simp only [Act.put, List.setIfInBounds_toArray, List.set_cons_zero, List.set_cons_succ]))
      refine held_one (i := 5) (oi := ?ot62) (by kernel_rfl) ?at62 ?ct62 (fun K5 hK5 => ?_)
      (case at62 => (simp only [List.getElem?_toArray, List.getElem?_cons_zero, List.getElem?_cons_succ]; rfl))
      (case ct62 => kernel_rfl)
      go_simp
      refine (HF.out _).mono ?_
      rintro e yy ⟨rfl, rfl⟩
      refine hK5 _ _ rfl (fun hS5 => ?_)
      clear hS hK5 K5
      refine held_one (i := 6) (oi := ?ot63) (by kernel_rfl) ?at63 ?ct63 (fun K6 hK6 => ?_)
      (case at63 => (simp only [List.getElem?_toArray, List.getElem?_cons_zero, List.getElem?_cons_succ]; rfl))
      (case ct63 => kernel_rfl)
      go_simp
      refine (must_yes _ _ _).mono ?_
      rintro e yy ⟨rfl, rfl⟩
      refine hK6 _ _ rfl (fun hS6 => ?_)
      clear hS5 hK6 K6
      refine wpAnyH_done (by kernel_rfl) ?_ _
      go_wp2
      go_ret
      exact .ok HG.out rfl rfl (H1.out.1.drewN 1) (H1.out.2.drewN 1)
    · rw [if_neg h1] at hg
      rw [decide_eq_false h1] at hf
      have HG := Lib.hid hg
      have HF := Lib.hid hf
      clear hg h hm hn hf hb h1
      go_enter Tryd.func40, Tryd.ntmps40
      go_upto_region 2 with (go_at_call 39; refine HL.out.mono ?_; rintro e w1 ⟨rfl, hk, hs⟩; have H1 := Lib.hid (And.intro hk hs); clear hk hs)
      refine wp_region_held_drew (S := fun Y => Y = w1.drew) (by kernel_rfl) rfl (fun hS => ?_)
      (refine held_take (i := 0) (oi := ?ot64) (v := ?vt64) ?at64 (by kernel_rfl) (by kernel_rfl) (by kernel_rfl) ?bt64 ?ct64 ?dt64 (by assumption) ?rt64; (case at64 => (simp only [List.getElem?_toArray, List.getElem?_cons_zero]; rfl)); (case bt64 => exact fun _ _ _ h => h); (case ct64 => kernel_rfl); (case dt64 => (intro W hW; subst hW; go_simp; (try with_reducible rfl))); (case' rt64 => simp only [Act.put, List.setIfInBounds_toArray, List.set_cons_zero, List.set_cons_succ]))
      (refine held_take (i := 1) (oi := ?ot65) (v := ?vt65) ?at65 (by kernel_rfl) (by kernel_rfl) (by kernel_rfl) ?bt65 ?ct65 ?dt65 (by assumption) ?rt65; (case at65 => (simp only [List.getElem?_toArray, List.getElem?_cons_zero, List.getElem?_cons_succ]; rfl)); (case bt65 => exact fun _ _ _ h => h); (case ct65 => kernel_rfl); (case dt65 => (intro W hW; subst hW; go_simp; (try with_reducible rfl))); (case' rt65 => simp only [Act.put, List.setIfInBounds_toArray, List.set_cons_zero, List.set_cons_succ]))
      (refine held_take (i := 2) (oi := ?ot66) (v := ?vt66) ?at66 (by kernel_rfl) (by kernel_rfl) (by kernel_rfl) ?bt66 ?ct66 ?dt66 (by assumption) ?rt66; (case at66 => (simp only [List.getElem?_toArray, List.getElem?_cons_zero, List.getElem?_cons_succ]; rfl)); (case bt66 => exact fun _ _ _ h => h); (case ct66 => kernel_rfl); (case dt66 => (intro W hW; subst hW; go_simp; (try with_reducible rfl))); (case' rt66 => simp only [Act.put, List.setIfInBounds_toArray, List.set_cons_zero, List.set_cons_succ]))
      (refine held_take (i := 3) (oi := ?ot67) (v := ?vt67) ?at67 (by kernel_rfl) (by kernel_rfl) (by kernel_rfl) ?bt67 ?ct67 ?dt67 (by assumption) ?rt67; (case at67 => (simp only [List.getElem?_toArray, List.getElem?_cons_zero, List.getElem?_cons_succ]; rfl)); (case bt67 => exact fun _ _ _ h => h); (case ct67 => kernel_rfl); (case dt67 => (intro W hW; subst hW; go_simp; (try with_reducible rfl))); (case' rt67 => simp only [Act.put, List.setIfInBounds_toArray, List.set_cons_zero, List.set_cons_succ]))
      (refine held_take (i := 4) (oi := ?ot68) (v := ?vt68) ?at68 (by kernel_rfl) (by kernel_rfl) (by kernel_rfl) ?bt68 ?ct68 ?dt68 (by assumption) ?rt68; (case at68 => (simp only [List.getElem?_toArray, List.getElem?_cons_zero, List.getElem?_cons_succ]; rfl)); (case bt68 => exact fun _ _ _ h => h); (case ct68 => kernel_rfl); (case dt68 => (intro W hW; subst hW; go_simp; (try with_reducible rfl))); (case' rt68 => simp only [Act.put, List.setIfInBounds_toArray, List.set_cons_zero, List.set_cons_succ]))
      refine held_one (i := 5) (oi := ?ot69) (by kernel_rfl) ?at69 ?ct69 (fun K5 hK5 => ?_)
      (case at69 => (simp only [List.getElem?_toArray, List.getElem?_cons_zero, List.getElem?_cons_succ]; rfl))
      (case ct69 => kernel_rfl)
      go_simp
      refine (HF.out _).mono ?_
      rintro e yy ⟨rfl, rfl⟩
      refine hK5 _ _ rfl (fun hS5 => ?_)
      clear hS hK5 K5
      refine held_one (i := 6) (oi := ?ot70) (by kernel_rfl) ?at70 ?ct70 (fun K6 hK6 => ?_)
      (case at70 => (simp only [List.getElem?_toArray, List.getElem?_cons_zero, List.getElem?_cons_succ]; rfl))
      (case ct70 => kernel_rfl)
      go_simp
      refine (must_no 142 (H1.out.1.drewN 1).at1).mono ?_
      rintro e yy ⟨rfl, rfl⟩
      exact ⟨rfl, .no HG.out rfl (H1.out.2.drewN 1)⟩
  · rw [if_neg hm] at hg
    have HL : Hid (Calls Tryd.prog 39 #[.pointer (some ⟨g, 0, none⟩)] w fun e w' => e = .panicked (faultC q 141) ∧ Save g w w') := Lib.hid ((short_any h).mono fun _ _ k => k.no hm)
    have HG := Lib.hid hg
    clear hg h hm
    go_enter Tryd.func40, Tryd.ntmps40
    go_wp2_with (go_at_call 39; refine HL.out.mono ?_; rintro e w1 ⟨rfl, hs⟩; exact ⟨rfl, .no HG.out rfl hs⟩)
set_option maxHeartbeats 1000000 in
set_option maxRecDepth 100000 in
theorem count_streamsFit (h : Cur w g A c b at_ q) :
    Calls Tryd.prog 40 #[.pointer (some ⟨g, 0, none⟩), .func (.func 77) #[] #[]] w (Rd (fld 2 0 32 142) (intV .i64) b q g A c w) := by
  have hg := fld_get 2 0 32 142 b q
  by_cases hm : q + 2 ≤ b.length
  · rw [if_pos hm] at hg
    have HL : Hid (Calls Tryd.prog 39 #[.pointer (some ⟨g, 0, none⟩)] w fun e w' => e = .returned (.int .i64 (numAt b q 2 : Nat)) ∧ Cur w' g A c b q (q + 2) ∧ Save g w w') := Lib.hid ((short_any h).mono fun _ _ k => k.yes hm)
    obtain ⟨n, hn⟩ : ∃ n, n = numAt b q 2 := ⟨_, rfl⟩
    rw [← hn] at hg HL
    have hf := streamsFit_any (n : Int)
    have hb : inB (n : Int) 0 32 = decide (0 ≤ n ∧ n ≤ 32) := by unfold inB; congr 1; simp only [eq_iff_iff]; omega
    rw [hb] at hf
    by_cases h1 : 0 ≤ n ∧ n ≤ 32
    · rw [if_pos h1] at hg
      rw [decide_eq_true h1] at hf
      have HG := Lib.hid hg
      have HF := Lib.hid hf
      clear hg h hm hn hf hb h1
      go_enter Tryd.func40, Tryd.ntmps40
      go_upto_region 2 with (go_at_call 39; refine HL.out.mono ?_; rintro e w1 ⟨rfl, hk, hs⟩; have H1 := Lib.hid (And.intro hk hs); clear hk hs)
      refine wp_region_held_drew (S := fun Y => Y = w1.drew) (by kernel_rfl) rfl (fun hS => ?_)
      (refine held_take (i := 0) (oi := ?ot71) (v := ?vt71) ?at71 (by kernel_rfl) (by kernel_rfl) (by kernel_rfl) ?bt71 ?ct71 ?dt71 (by assumption) ?rt71; (case at71 => (simp only [List.getElem?_toArray, List.getElem?_cons_zero]; rfl)); (case bt71 => exact fun _ _ _ h => h); (case ct71 => kernel_rfl); (case dt71 => (intro W hW; subst hW; go_simp; (try with_reducible rfl))); (case' rt71 => simp only [Act.put, List.setIfInBounds_toArray, List.set_cons_zero, List.set_cons_succ]))
      (refine held_take (i := 1) (oi := ?ot72) (v := ?vt72) ?at72 (by kernel_rfl) (by kernel_rfl) (by kernel_rfl) ?bt72 ?ct72 ?dt72 (by assumption) ?rt72; (case at72 => (simp only [List.getElem?_toArray, List.getElem?_cons_zero, List.getElem?_cons_succ]; rfl)); (case bt72 => exact fun _ _ _ h => h); (case ct72 => kernel_rfl); (case dt72 => (intro W hW; subst hW; go_simp; (try with_reducible rfl))); (case' rt72 => simp only [Act.put, List.setIfInBounds_toArray, List.set_cons_zero, List.set_cons_succ]))
      (refine held_take (i := 2) (oi := ?ot73) (v := ?vt73) ?at73 (by kernel_rfl) (by kernel_rfl) (by kernel_rfl) ?bt73 ?ct73 ?dt73 (by assumption) ?rt73; (case at73 => (simp only [List.getElem?_toArray, List.getElem?_cons_zero, List.getElem?_cons_succ]; rfl)); (case bt73 => exact fun _ _ _ h => h); (case ct73 => kernel_rfl); (case dt73 => (intro W hW; subst hW; go_simp; (try with_reducible rfl))); (case' rt73 => simp only [Act.put, List.setIfInBounds_toArray, List.set_cons_zero, List.set_cons_succ]))
      (refine held_take (i := 3) (oi := ?ot74) (v := ?vt74) ?at74 (by kernel_rfl) (by kernel_rfl) (by kernel_rfl) ?bt74 ?ct74 ?dt74 (by assumption) ?rt74; (case at74 => (simp only [List.getElem?_toArray, List.getElem?_cons_zero, List.getElem?_cons_succ]; rfl)); (case bt74 => exact fun _ _ _ h => h); (case ct74 => kernel_rfl); (case dt74 => (intro W hW; subst hW; go_simp; (try with_reducible rfl))); (case' rt74 => simp only [Act.put, List.setIfInBounds_toArray, List.set_cons_zero, List.set_cons_succ]))
      (refine held_take (i := 4) (oi := ?ot75) (v := ?vt75) ?at75 (by kernel_rfl) (by kernel_rfl) (by kernel_rfl) ?bt75 ?ct75 ?dt75 (by assumption) ?rt75; (case at75 => (simp only [List.getElem?_toArray, List.getElem?_cons_zero, List.getElem?_cons_succ]; rfl)); (case bt75 => exact fun _ _ _ h => h); (case ct75 => kernel_rfl); (case dt75 => (intro W hW; subst hW; go_simp; (try with_reducible rfl))); (case' rt75 => simp only [Act.put, List.setIfInBounds_toArray, List.set_cons_zero, List.set_cons_succ]))
      refine held_one (i := 5) (oi := ?ot76) (by kernel_rfl) ?at76 ?ct76 (fun K5 hK5 => ?_)
      (case at76 => (simp only [List.getElem?_toArray, List.getElem?_cons_zero, List.getElem?_cons_succ]; rfl))
      (case ct76 => kernel_rfl)
      go_simp
      refine (HF.out _).mono ?_
      rintro e yy ⟨rfl, rfl⟩
      refine hK5 _ _ rfl (fun hS5 => ?_)
      clear hS hK5 K5
      refine held_one (i := 6) (oi := ?ot77) (by kernel_rfl) ?at77 ?ct77 (fun K6 hK6 => ?_)
      (case at77 => (simp only [List.getElem?_toArray, List.getElem?_cons_zero, List.getElem?_cons_succ]; rfl))
      (case ct77 => kernel_rfl)
      go_simp
      refine (must_yes _ _ _).mono ?_
      rintro e yy ⟨rfl, rfl⟩
      refine hK6 _ _ rfl (fun hS6 => ?_)
      clear hS5 hK6 K6
      refine wpAnyH_done (by kernel_rfl) ?_ _
      go_wp2
      go_ret
      exact .ok HG.out rfl rfl (H1.out.1.drewN 1) (H1.out.2.drewN 1)
    · rw [if_neg h1] at hg
      rw [decide_eq_false h1] at hf
      have HG := Lib.hid hg
      have HF := Lib.hid hf
      clear hg h hm hn hf hb h1
      go_enter Tryd.func40, Tryd.ntmps40
      go_upto_region 2 with (go_at_call 39; refine HL.out.mono ?_; rintro e w1 ⟨rfl, hk, hs⟩; have H1 := Lib.hid (And.intro hk hs); clear hk hs)
      refine wp_region_held_drew (S := fun Y => Y = w1.drew) (by kernel_rfl) rfl (fun hS => ?_)
      (refine held_take (i := 0) (oi := ?ot78) (v := ?vt78) ?at78 (by kernel_rfl) (by kernel_rfl) (by kernel_rfl) ?bt78 ?ct78 ?dt78 (by assumption) ?rt78; (case at78 => (simp only [List.getElem?_toArray, List.getElem?_cons_zero]; rfl)); (case bt78 => exact fun _ _ _ h => h); (case ct78 => kernel_rfl); (case dt78 => (intro W hW; subst hW; go_simp; (try with_reducible rfl))); (case' rt78 => simp only [Act.put, List.setIfInBounds_toArray, List.set_cons_zero, List.set_cons_succ]))
      (refine held_take (i := 1) (oi := ?ot79) (v := ?vt79) ?at79 (by kernel_rfl) (by kernel_rfl) (by kernel_rfl) ?bt79 ?ct79 ?dt79 (by assumption) ?rt79; (case at79 => (simp only [List.getElem?_toArray, List.getElem?_cons_zero, List.getElem?_cons_succ]; rfl)); (case bt79 => exact fun _ _ _ h => h); (case ct79 => kernel_rfl); (case dt79 => (intro W hW; subst hW; go_simp; (try with_reducible rfl))); (case' rt79 => simp only [Act.put, List.setIfInBounds_toArray, List.set_cons_zero, List.set_cons_succ]))
      (refine held_take (i := 2) (oi := ?ot80) (v := ?vt80) ?at80 (by kernel_rfl) (by kernel_rfl) (by kernel_rfl) ?bt80 ?ct80 ?dt80 (by assumption) ?rt80; (case at80 => (simp only [List.getElem?_toArray, List.getElem?_cons_zero, List.getElem?_cons_succ]; rfl)); (case bt80 => exact fun _ _ _ h => h); (case ct80 => kernel_rfl); (case dt80 => (intro W hW; subst hW; go_simp; (try with_reducible rfl))); (case' rt80 => simp only [Act.put, List.setIfInBounds_toArray, List.set_cons_zero, List.set_cons_succ]))
      (refine held_take (i := 3) (oi := ?ot81) (v := ?vt81) ?at81 (by kernel_rfl) (by kernel_rfl) (by kernel_rfl) ?bt81 ?ct81 ?dt81 (by assumption) ?rt81; (case at81 => (simp only [List.getElem?_toArray, List.getElem?_cons_zero, List.getElem?_cons_succ]; rfl)); (case bt81 => exact fun _ _ _ h => h); (case ct81 => kernel_rfl); (case dt81 => (intro W hW; subst hW; go_simp; (try with_reducible rfl))); (case' rt81 => simp only [Act.put, List.setIfInBounds_toArray, List.set_cons_zero, List.set_cons_succ]))
      (refine held_take (i := 4) (oi := ?ot82) (v := ?vt82) ?at82 (by kernel_rfl) (by kernel_rfl) (by kernel_rfl) ?bt82 ?ct82 ?dt82 (by assumption) ?rt82; (case at82 => (simp only [List.getElem?_toArray, List.getElem?_cons_zero, List.getElem?_cons_succ]; rfl)); (case bt82 => exact fun _ _ _ h => h); (case ct82 => kernel_rfl); (case dt82 => (intro W hW; subst hW; go_simp; (try with_reducible rfl))); (case' rt82 => simp only [Act.put, List.setIfInBounds_toArray, List.set_cons_zero, List.set_cons_succ]))
      refine held_one (i := 5) (oi := ?ot83) (by kernel_rfl) ?at83 ?ct83 (fun K5 hK5 => ?_)
      (case at83 => (simp only [List.getElem?_toArray, List.getElem?_cons_zero, List.getElem?_cons_succ]; rfl))
      (case ct83 => kernel_rfl)
      go_simp
      refine (HF.out _).mono ?_
      rintro e yy ⟨rfl, rfl⟩
      refine hK5 _ _ rfl (fun hS5 => ?_)
      clear hS hK5 K5
      refine held_one (i := 6) (oi := ?ot84) (by kernel_rfl) ?at84 ?ct84 (fun K6 hK6 => ?_)
      (case at84 => (simp only [List.getElem?_toArray, List.getElem?_cons_zero, List.getElem?_cons_succ]; rfl))
      (case ct84 => kernel_rfl)
      go_simp
      refine (must_no 142 (H1.out.1.drewN 1).at1).mono ?_
      rintro e yy ⟨rfl, rfl⟩
      exact ⟨rfl, .no HG.out rfl (H1.out.2.drewN 1)⟩
  · rw [if_neg hm] at hg
    have HL : Hid (Calls Tryd.prog 39 #[.pointer (some ⟨g, 0, none⟩)] w fun e w' => e = .panicked (faultC q 141) ∧ Save g w w') := Lib.hid ((short_any h).mono fun _ _ k => k.no hm)
    have HG := Lib.hid hg
    clear hg h hm
    go_enter Tryd.func40, Tryd.ntmps40
    go_wp2_with (go_at_call 39; refine HL.out.mono ?_; rintro e w1 ⟨rfl, hs⟩; exact ⟨rfl, .no HG.out rfl hs⟩)
end
end Go.Proofs.YtmcpmcicolpoeaaDoor
