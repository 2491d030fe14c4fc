/- The walk of WordCats. -/
import Derived.Test.YtnjgneophllciaaDoorAwake
import Derived.Test.YtnjgneophllciaaDoorHeld
namespace Go.Proofs.YtnjgneophllciaaDoor
open Go.RowKit

theorem cat_three (a b c : List UInt8) (A B C : Option Addr) (ca cb cc d : Nat) (w w1 : World) (ha : Lies w w.heap.size 1 A a.length (u8s a)) (hb : Lies w w.heap.size 1 B b.length (u8s b)) (hc : Lies w w.heap.size 1 C c.length (u8s c))
    (hbel : Below w.heap.size w w1) (h1 : a.length ≤ 300) (h2 : b.length ≤ 300) (h3 : c.length ≤ 300) (L : List UInt8) (hL : Hid (L = a ++ b ++ c)) :
    Calls Tryd.prog 21 #[.slice (some ⟨w1.heap.size, 0, none⟩) 3 d] (w1.alloc (.cells #[.slice A a.length ca, .slice B b.length cb, .slice C c.length cc] 22)).drew (fun e w' => ∃ (E : Option Addr) (ce : Nat), e = .returned (.slice E L.length ce) ∧
      Lies w' w'.heap.size 1 E L.length (u8s L) ∧ Below w.heap.size w w') := by
  have hs := hbel.size
  have hcat := cat_any [(A, ca, a), (B, cb, b), (C, cc, c)] (some ⟨w1.heap.size, 0, none⟩) d (w1.heap.size + 1) (w1.alloc (.cells #[.slice A a.length ca, .slice B b.length cb, .slice C c.length cc] 22)).drew (by simp)
    (Lies.drew (lies_new _ _ _ _ _ rfl rfl)) (by
      intro p hp
      simp only [List.mem_cons, List.not_mem_nil, or_false] at hp
      rcases hp with rfl | rfl | rfl
      · exact ((ha.below hbel).alloc hs _).wide (by omega)
      · exact ((hb.below hbel).alloc hs _).wide (by omega)
      · exact ((hc.below hbel).alloc hs _).wide (by omega)) (by simp [catAll]; omega) (by simp [maxLen])
  have e : catAll [(A, ca, a), (B, cb, b), (C, cc, c)] = L := by rw [hL.out]; simp [catAll]
  rw [e] at hcat
  refine hcat.mono ?_
  rintro e w' ⟨v, rfl, hown, hbel2⟩
  obtain ⟨E, ce, rfl, hq⟩ := owns_form hown
  exact ⟨E, ce, rfl, hq, (hbel.alloc hs _).drew.trans (hbel2.mono (by simp; omega))⟩
theorem cat_empty (w : World) : Calls Tryd.prog 21 #[.slice none 0 0] w (fun e w' => ∃ (E : Option Addr) (ce : Nat), e = .returned (.slice E 0 ce) ∧ Below w.heap.size w w') := by
  refine (cat_any [] none 0 w.heap.size w (Nat.le_refl _) (Lies.nil _ _ _ _) (by simp) (by simp [catAll]) (by simp)).mono ?_
  rintro e w' ⟨v, rfl, hown, hbel⟩
  obtain ⟨E, ce, rfl, _⟩ := owns_form (n := 0) hown
  exact ⟨E, ce, rfl, hbel⟩

set_option maxHeartbeats 400000 in
theorem cats_small (A B C : Option Addr) (ca cb cc : Nat) (a b c : List UInt8) (w : World) (h1 : a.length ≤ 300) (h2 : b.length ≤ 300) (h3 : c.length ≤ 300)
    (ha : Lies w w.heap.size 1 A a.length (u8s a)) (hb : Lies w w.heap.size 1 B b.length (u8s b)) (hc : Lies w w.heap.size 1 C c.length (u8s c)) (hT : Tab16 w) :
    Calls Tryd.prog 6 #[.slice A a.length ca, .slice B b.length cb, .slice C c.length cc] w fun e w' => e = .returned (.bool true) ∧ Below w.heap.size w w' := by
  have HT := Lib.hid hT
  obtain ⟨L, hL⟩ : ∃ L, L = a ++ b ++ c := ⟨_, rfl⟩
  obtain ⟨sa, hsa⟩ : ∃ s, s = strOf a := ⟨_, rfl⟩
  obtain ⟨sb, hsb⟩ : ∃ s, s = strOf b := ⟨_, rfl⟩
  obtain ⟨sc, hsc⟩ : ∃ s, s = strOf c := ⟨_, rfl⟩
  obtain ⟨sab, hsab⟩ : ∃ s, s = strOf (a ++ b) := ⟨_, rfl⟩
  obtain ⟨sl, hsl⟩ : ∃ s, s = strOf L := ⟨_, rfl⟩
  have r1 : sa ++ sb = sab := by rw [hsa, hsb, hsab, strOf_append]
  have r2 : sab ++ sc = sl := by rw [hsab, hsc, hsl, strOf_append, hL]
  have z1 : sa.size ≤ 300 := by rw [hsa, strOf_size]; exact h1
  have z2 : sb.size ≤ 300 := by rw [hsb, strOf_size]; exact h2
  have z3 : sc.size ≤ 300 := by rw [hsc, strOf_size]; exact h3
  have z4 : sab.size ≤ 600 := by rw [hsab, strOf_size, List.length_append]; omega
  have y1 : ¬ (9223372036854775807 < sa.size + sb.size) := by omega
  have y2 : ¬ (9223372036854775807 < sab.size + sc.size) := by omega
  have keep : ∀ W, Below w.heap.size w W → (convert 22 9 (.slice A a.length ca)).run Tryd.prog W = .ok (.string sa) W ∧ (convert 22 9 (.slice B b.length cb)).run Tryd.prog W = .ok (.string sb) W ∧ (convert 22 9 (.slice C c.length cc)).run Tryd.prog W = .ok (.string sc) W := fun W hW => by
    rw [hsa, hsb, hsc]
    exact ⟨conv_str _ _ _ _ _ _ (ha.below hW), conv_str _ _ _ _ _ _ (hb.below hW), conv_str _ _ _ _ _ _ (hc.below hW)⟩
  have three := fun (w1 : World) (d : Nat) (hw : Below w.heap.size w w1) => cat_three a b c A B C ca cb cc d w w1 ha hb hc hw h1 h2 h3 L (Lib.hid hL)
  have cvl : ∀ (W : World) (B : Nat) (E : Option Addr) (ce : Nat), Lies W B 1 E L.length (u8s L) → (convert 22 9 (.slice E L.length ce)).run Tryd.prog W = .ok (.string sl) W := by
    rw [hsl]
    exact fun W B E ce h => conv_str W B E L.length ce L h
  have Cvl := Lib.hid cvl
  have Keep := Lib.hid keep
  have Three := Lib.hid three
  clear keep three cvl hT ha hb hc hL hsa hsb hsc hsab hsl
  go_enter Tryd.func6, Tryd.ntmps6
  go_wp2_with (go_at_call 10; refine (awake_any _ HT.out).mono ?_; rintro e w1 ⟨rfl, hd⟩; have H1 := Lib.hid hd; clear hd)
  refine wp_region_held_drew (S := fun W => (convert 22 9 (.slice A a.length ca)).run Tryd.prog W = .ok (.string sa) W ∧ (convert 22 9 (.slice B b.length cb)).run Tryd.prog W = .ok (.string sb) W ∧ (convert 22 9 (.slice C c.length cc)).run Tryd.prog W = .ok (.string sc) W) (by kernel_rfl) (Keep.out _ H1.out.drew) (fun hS => ?_)
  (refine held_take (i := 0) (oi := ?ot1) (v := ?vt1) ?at1 (by kernel_rfl) (by kernel_rfl) (by kernel_rfl) ?bt1 ?ct1 ?dt1 (by assumption) ?rt1; (case at1 => (simp only [List.getElem?_toArray, List.getElem?_cons_zero]; rfl)); (case bt1 => exact fun _ _ _ h => h); (case ct1 => rfl); (case dt1 => (intro W hW; (try dsimp only at hW); go_split_ands; go_simp; (try with_reducible rfl))); (case' rt1 => simp only [Act.put, List.setIfInBounds_toArray, List.set_cons_zero, List.set_cons_succ]))
  (refine held_take (i := 1) (oi := ?ot2) (v := ?vt2) ?at2 (by kernel_rfl) (by kernel_rfl) (by kernel_rfl) ?bt2 ?ct2 ?dt2 (by assumption) ?rt2; (case at2 => (simp only [List.getElem?_toArray, List.getElem?_cons_zero, List.getElem?_cons_succ]; rfl)); (case bt2 => exact fun _ _ _ h => h); (case ct2 => rfl); (case dt2 => (intro W hW; (try dsimp only at hW); go_split_ands; go_simp; (try with_reducible rfl))); (case' rt2 => simp only [Act.put, List.setIfInBounds_toArray, List.set_cons_zero, List.set_cons_succ]))
  (refine held_take (i := 2) (oi := ?ot3) (v := ?vt3) ?at3 (by kernel_rfl) (by kernel_rfl) (by kernel_rfl) ?bt3 ?ct3 ?dt3 (by assumption) ?rt3; (case at3 => (simp only [List.getElem?_toArray, List.getElem?_cons_zero, List.getElem?_cons_succ]; rfl)); (case bt3 => exact fun _ _ _ h => h); (case ct3 => rfl); (case dt3 => (intro W hW; (try dsimp only at hW); go_split_ands; go_simp; (try with_reducible rfl))); (case' rt3 => simp only [Act.put, List.setIfInBounds_toArray, List.set_cons_zero, List.set_cons_succ]))
  (refine held_take (i := 6) (oi := ?ot4) (v := ?vt4) ?at4 (by kernel_rfl) (by kernel_rfl) (by kernel_rfl) ?bt4 ?ct4 ?dt4 (by assumption) ?rt4; (case at4 => (simp only [List.getElem?_toArray, List.getElem?_cons_zero, List.getElem?_cons_succ]; rfl)); (case bt4 => exact fun _ _ _ h => h); (case ct4 => rfl); (case dt4 => (intro W hW; (try dsimp only at hW); go_split_ands; go_simp; (try with_reducible rfl))); (case' rt4 => simp only [Act.put, List.setIfInBounds_toArray, List.set_cons_zero, List.set_cons_succ]))
  (refine held_take (i := 7) (oi := ?ot5) (v := ?vt5) ?at5 (by kernel_rfl) (by kernel_rfl) (by kernel_rfl) ?bt5 ?ct5 ?dt5 (by assumption) ?rt5; (case at5 => (simp only [List.getElem?_toArray, List.getElem?_cons_zero, List.getElem?_cons_succ]; rfl)); (case bt5 => exact fun _ _ _ h => h); (case ct5 => rfl); (case dt5 => (intro W hW; (try dsimp only at hW); go_split_ands; go_simp; (try with_reducible rfl))); (case' rt5 => simp only [Act.put, List.setIfInBounds_toArray, List.set_cons_zero, List.set_cons_succ]))
  (refine held_take (i := 8) (oi := ?ot6) (v := ?vt6) ?at6 (by kernel_rfl) (by kernel_rfl) (by kernel_rfl) ?bt6 ?ct6 ?dt6 (by assumption) ?rt6; (case at6 => (simp only [List.getElem?_toArray, List.getElem?_cons_zero, List.getElem?_cons_succ]; rfl)); (case bt6 => exact fun _ _ _ h => h); (case ct6 => rfl); (case dt6 => (intro W hW; (try dsimp only at hW); go_split_ands; go_simp; (try with_reducible rfl))); (case' rt6 => simp only [Act.put, List.setIfInBounds_toArray, List.set_cons_zero, List.set_cons_succ]))
  (refine held_take (i := 9) (oi := ?ot7) (v := ?vt7) ?at7 (by kernel_rfl) (by kernel_rfl) (by kernel_rfl) ?bt7 ?ct7 ?dt7 (by assumption) ?rt7; (case at7 => (simp only [List.getElem?_toArray, List.getElem?_cons_zero, List.getElem?_cons_succ]; rfl)); (case bt7 => exact fun _ _ _ h => h); (case ct7 => rfl); (case dt7 => (intro W hW; (try dsimp only at hW); go_split_ands; go_simp; (try with_reducible rfl))); (case' rt7 => simp only [Act.put, List.setIfInBounds_toArray, List.set_cons_zero, List.set_cons_succ]))
  (refine held_take (i := 10) (oi := ?ot8) (v := ?vt8) ?at8 (by kernel_rfl) (by kernel_rfl) (by kernel_rfl) ?bt8 ?ct8 ?dt8 (by assumption) ?rt8; (case at8 => (simp only [List.getElem?_toArray, List.getElem?_cons_zero, List.getElem?_cons_succ]; rfl)); (case bt8 => exact fun _ _ _ h => h); (case ct8 => rfl); (case dt8 => (intro W hW; (try dsimp only at hW); go_split_ands; go_simp; (try with_reducible rfl))); (case' rt8 => simp only [Act.put, List.setIfInBounds_toArray, List.set_cons_zero, List.set_cons_succ]))
  (refine held_take (i := 11) (oi := ?ot9) (v := ?vt9) ?at9 (by kernel_rfl) (by kernel_rfl) (by kernel_rfl) ?bt9 ?ct9 ?dt9 (by assumption) ?rt9; (case at9 => (simp only [List.getElem?_toArray, List.getElem?_cons_zero, List.getElem?_cons_succ]; rfl)); (case bt9 => exact fun _ _ _ h => h); (case ct9 => rfl); (case dt9 => (intro W hW; (try dsimp only at hW); go_split_ands; go_simp; (try with_reducible rfl))); (case' rt9 => simp only [Act.put, List.setIfInBounds_toArray, List.set_cons_zero, List.set_cons_succ]))
  (refine held_take (i := 12) (oi := ?ot10) (v := ?vt10) ?at10 (by kernel_rfl) (by kernel_rfl) (by kernel_rfl) ?bt10 ?ct10 ?dt10 (by assumption) ?rt10; (case at10 => (simp only [List.getElem?_toArray, List.getElem?_cons_zero, List.getElem?_cons_succ]; rfl)); (case bt10 => exact fun _ _ _ h => h); (case ct10 => rfl); (case dt10 => (intro W hW; (try dsimp only at hW); go_split_ands; go_simp; (try with_reducible rfl))); (case' rt10 => simp only [Act.put, List.setIfInBounds_toArray, List.set_cons_zero, List.set_cons_succ]))
  (refine held_take (i := 13) (oi := ?ot11) (v := ?vt11) ?at11 (by kernel_rfl) (by kernel_rfl) (by kernel_rfl) ?bt11 ?ct11 ?dt11 (by assumption) ?rt11; (case at11 => (simp only [List.getElem?_toArray, List.getElem?_cons_zero, List.getElem?_cons_succ]; rfl)); (case bt11 => exact fun _ _ _ h => h); (case ct11 => rfl); (case dt11 => (intro W hW; (try dsimp only at hW); go_split_ands; go_simp; (try with_reducible rfl))); (case' rt11 => simp only [Act.put, List.setIfInBounds_toArray, List.set_cons_zero, List.set_cons_succ]))
  refine held_one (i := 3) (oi := ?ot12) (by kernel_rfl) ?at12 ?ct12 (fun K3 hK3 => ?_)
  (case at12 => (simp only [List.getElem?_toArray, List.getElem?_cons_zero, List.getElem?_cons_succ]; rfl))
  (case ct12 => rfl)
  go_simp
  refine hK3 _ _ (Keep.out _ (H1.out.alloc H1.out.size _).drew) (fun hS3 => ?_)
  clear hS hK3 K3
  refine held_one (i := 4) (oi := ?ot13) (by kernel_rfl) ?at13 ?ct13 (fun K4 hK4 => ?_)
  (case at13 => (simp only [List.getElem?_toArray, List.getElem?_cons_zero, List.getElem?_cons_succ]; rfl))
  (case ct13 => rfl)
  go_simp
  refine (Three.out _ _ H1.out).mono ?_
  rintro e w2 ⟨E, ce, rfl, hcv, hd⟩
  refine hK4 _ _ (Keep.out _ hd) (fun hS0 => ?_)
  refine held_and (T := fun W => (convert 22 9 (.slice E L.length ce)).run Tryd.prog W = .ok (.string sl) W) hS0 (Cvl.out _ _ E ce hcv) (fun hS4 => ?_)
  have H2 := Lib.hid hd
  have HE := Lib.hid hcv
  clear hK4 K4 hS3 hS0 hd hcv
  (refine held_take (i := 5) (oi := ?ot51) (v := ?vt51) ?at51 (by kernel_rfl) (by kernel_rfl) (by kernel_rfl) ?bt51 ?ct51 ?dt51 (by assumption) ?rt51; (case at51 => (simp only [List.getElem?_toArray, List.getElem?_cons_zero, List.getElem?_cons_succ]; rfl)); (case bt51 => exact fun _ _ _ h => h); (case ct51 => rfl); (case dt51 => (intro W hW; (try dsimp only at hW); go_split_ands; go_simp; (try with_reducible rfl))); (case' rt51 => simp only [Act.put, List.setIfInBounds_toArray, List.set_cons_zero, List.set_cons_succ]))
  (refine held_take (i := 14) (oi := ?ot52) (v := ?vt52) ?at52 (by kernel_rfl) (by kernel_rfl) (by kernel_rfl) ?bt52 ?ct52 ?dt52 (by assumption) ?rt52; (case at52 => (simp only [List.getElem?_toArray, List.getElem?_cons_zero, List.getElem?_cons_succ]; rfl)); (case bt52 => exact fun _ _ _ h => h); (case ct52 => rfl); (case dt52 => (intro W hW; (try dsimp only at hW); go_split_ands; go_simp; (try with_reducible rfl))); (case' rt52 => simp only [Act.put, List.setIfInBounds_toArray, List.set_cons_zero, List.set_cons_succ]))
  (refine held_take (i := 15) (oi := ?ot53) (v := ?vt53) ?at53 (by kernel_rfl) (by kernel_rfl) (by kernel_rfl) ?bt53 ?ct53 ?dt53 (by assumption) ?rt53; (case at53 => (simp only [List.getElem?_toArray, List.getElem?_cons_zero, List.getElem?_cons_succ]; rfl)); (case bt53 => exact fun _ _ _ h => h); (case ct53 => rfl); (case dt53 => (intro W hW; (try dsimp only at hW); go_split_ands; go_simp; (try with_reducible rfl))); (case' rt53 => simp only [Act.put, List.setIfInBounds_toArray, List.set_cons_zero, List.set_cons_succ]))
  refine held_one (i := 16) (oi := ?ot54) (by kernel_rfl) ?at54 ?ct54 (fun K16 hK16 => ?_)
  (case at54 => (simp only [List.getElem?_toArray, List.getElem?_cons_zero, List.getElem?_cons_succ]; rfl))
  (case ct54 => rfl)
  go_simp
  refine (cat_empty _).mono ?_
  rintro e w3 ⟨E3, ce3, rfl, hd⟩
  refine hK16 _ _ (And.intro (Keep.out _ (H2.out.trans (hd.mono H2.out.size))) (Cvl.out _ _ E ce (HE.out.below hd))) (fun hS16 => ?_)
  have H3 := Lib.hid (H2.out.trans (hd.mono H2.out.size))
  clear hK16 K16 hS4 hd
  (refine held_take (i := 17) (oi := ?ot55) (v := ?vt55) ?at55 (by kernel_rfl) (by kernel_rfl) (by kernel_rfl) ?bt55 ?ct55 ?dt55 (by assumption) ?rt55; (case at55 => (simp only [List.getElem?_toArray, List.getElem?_cons_zero, List.getElem?_cons_succ]; rfl)); (case bt55 => exact fun _ _ _ h => h); (case ct55 => rfl); (case dt55 => (intro W hW; (try dsimp only at hW); go_split_ands; go_simp; (try with_reducible rfl))); (case' rt55 => simp only [Act.put, List.setIfInBounds_toArray, List.set_cons_zero, List.set_cons_succ]))
  (refine held_take (i := 18) (oi := ?ot56) (v := ?vt56) ?at56 (by kernel_rfl) (by kernel_rfl) (by kernel_rfl) ?bt56 ?ct56 ?dt56 (by assumption) ?rt56; (case at56 => (simp only [List.getElem?_toArray, List.getElem?_cons_zero, List.getElem?_cons_succ]; rfl)); (case bt56 => exact fun _ _ _ h => h); (case ct56 => rfl); (case dt56 => (intro W hW; (try dsimp only at hW); go_split_ands; go_simp; (try with_reducible rfl))); (case' rt56 => simp only [Act.put, List.setIfInBounds_toArray, List.set_cons_zero, List.set_cons_succ]))
  (refine held_take (i := 19) (oi := ?ot57) (v := ?vt57) ?at57 (by kernel_rfl) (by kernel_rfl) (by kernel_rfl) ?bt57 ?ct57 ?dt57 (by assumption) ?rt57; (case at57 => (simp only [List.getElem?_toArray, List.getElem?_cons_zero, List.getElem?_cons_succ]; rfl)); (case bt57 => exact fun _ _ _ h => h); (case ct57 => rfl); (case dt57 => (intro W hW; (try dsimp only at hW); go_split_ands; go_simp; (try with_reducible rfl))); (case' rt57 => simp only [Act.put, List.setIfInBounds_toArray, List.set_cons_zero, List.set_cons_succ]))
  (refine held_take (i := 20) (oi := ?ot58) (v := ?vt58) ?at58 (by kernel_rfl) (by kernel_rfl) (by kernel_rfl) ?bt58 ?ct58 ?dt58 (by assumption) ?rt58; (case at58 => (simp only [List.getElem?_toArray, List.getElem?_cons_zero, List.getElem?_cons_succ]; rfl)); (case bt58 => exact fun _ _ _ h => h); (case ct58 => rfl); (case dt58 => (intro W hW; (try dsimp only at hW); go_split_ands; go_simp; (try with_reducible rfl))); (case' rt58 => simp only [Act.put, List.setIfInBounds_toArray, List.set_cons_zero, List.set_cons_succ]))
  refine wpAnyH_done (by kernel_rfl) ?_ _
  go_wp2
  go_ret
  exact ⟨rfl, H3.out⟩

theorem cats_walk (A : Option Addr) (ca : Nat) (a : List UInt8) (B : Option Addr) (cb : Nat) (b : List UInt8) (C : Option Addr) (cc : Nat) (c : List UInt8) (w : World) (l1 : a.length ≤ maxLen) (ha : Lies w w.heap.size 1 A a.length (u8s a))
    (l2 : b.length ≤ maxLen) (hb : Lies w w.heap.size 1 B b.length (u8s b)) (l3 : c.length ≤ maxLen) (hc : Lies w w.heap.size 1 C c.length (u8s c)) (hT : Tab16 w) :
    Calls Tryd.prog 6 #[.slice A a.length ca, .slice B b.length cb, .slice C c.length cc] w fun e w' => e = .returned (.bool true) ∧ Below w.heap.size w w' := by
  by_cases h : a.length ≤ 300 ∧ b.length ≤ 300 ∧ c.length ≤ 300
  · exact cats_small A B C ca cb cc a b c w h.1 h.2.1 h.2.2 ha hb hc hT
  · have HT := Lib.hid hT
    clear hT ha hb hc
    unfold maxLen at l1 l2 l3
    by_cases h1 : (300 : Int) < a.length
    · clear h
      go_enter Tryd.func6, Tryd.ntmps6
      go_wp2_with (go_at_call 10; refine (awake_any _ HT.out).mono ?_; rintro e w1 ⟨rfl, hd⟩; have H1 := Lib.hid hd; clear hd)
      go_ret
      exact ⟨rfl, H1.out⟩
    · by_cases h2 : (300 : Int) < b.length
      · clear h
        go_enter Tryd.func6, Tryd.ntmps6
        go_wp2_with (go_at_call 10; refine (awake_any _ HT.out).mono ?_; rintro e w1 ⟨rfl, hd⟩; have H1 := Lib.hid hd; clear hd)
        go_ret
        exact ⟨rfl, H1.out⟩
      · have h3 : (300 : Int) < c.length := by omega
        clear h
        go_enter Tryd.func6, Tryd.ntmps6
        go_wp2_with (go_at_call 10; refine (awake_any _ HT.out).mono ?_; rintro e w1 ⟨rfl, hd⟩; have H1 := Lib.hid hd; clear hd)
        go_ret
        exact ⟨rfl, H1.out⟩
end Go.Proofs.YtnjgneophllciaaDoor
