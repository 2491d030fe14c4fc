/- parser.config, cursor.over. -/
import Derived.Test.YtmcpmcicolpoeaaDoorLg
namespace Go.Proofs.YtmcpmcicolpoeaaDoor
open Go.RowKit

def cfE (ver : Int) (a c : Value) : Nat → Value
  | 0 => .int .u32 ver
  | 1 => a
  | _ => c
theorem cfE_one (ver : Int) (a c : Value) (ha : a.oneCell' = true) (hc : c.oneCell' = true) (n : Nat) : ∀ i, i < n → (cfE ver a c i).oneCell' = true := by
  intro i _
  match i with
  | 0 => rfl
  | 1 => exact ha
  | _ + 2 => exact hc
theorem infoCf : (Tryd.prog.info? 28).map (·.size) = some 3 := by kernel_rfl
theorem zeroCf (w : World) : (zeroValue 28).run Tryd.prog w = .ok (.agg (vec 3 (cfE 0 nilV nilV))) w :=
  (zero_of_info (P := Tryd.prog) (t := 28) (v := .agg (vec 3 (cfE 0 nilV nilV))) (n := 3) (by kernel_rfl)).1 w
attribute [local go_sem ↓ high] zeroCf
theorem guestsV.low {base base' : Nat} {w : World} {l : List Gs} {v : Value} (h : guestsV base w l v) (hb : base' ≤ base) : guestsV base' w l v := by
  obtain ⟨ys, h1, h2, h3, h4⟩ := h
  exact ⟨ys, h1, h2, h3.low hb, fun y hy => ⟨(h4 y hy).1.low hb, (h4 y hy).2⟩⟩
theorem Value.slice_one (A : Option Addr) (n c : Nat) : (Value.slice A n c).oneCell' = true := rfl
/-- A configuration was read. -/
def cfgV (base : Nat) (w : World) (x : Cf) (v : Value) : Prop := ∃ a c, v = .agg (vec 3 (cfE x.ver a c)) ∧ guestsV base w x.gs a ∧ OwnE 71 8 chE w base c x.chs
set_option maxHeartbeats 4000000 in
set_option maxRecDepth 100000 in
theorem config_any {w : World} {g c at_ q : Nat} {A : Option Addr} {b : By} (h : Cur w g A c b at_ q) : Calls Tryd.prog 19 #[.pointer (some ⟨g, 0, none⟩)] w (Rd (cfC kOk) (cfgV w.heap.size) b q g A c w) := by
  obtain ⟨V, hV⟩ : ∃ V, V = w.alloc (.cells (vec 3 (cfE 0 nilV nilV)) 28) := ⟨_, rfl⟩
  have h0 : Arr V w.heap.size 28 3 (cfE 0 nilV nilV) := by rw [hV]; exact Arr.new w _ _ _
  have hB : Below w.heap.size w V := by rw [hV]; exact (Below.refl _ _).alloc (Nat.le_refl _) _
  have hVs : V.heap.size = w.heap.size + 1 := by rw [hV]; simp
  have hgw := h.lt
  have HGW := Lib.hid hgw
  have HR : Hid (w.heap.size ≠ g) := Lib.hid (by omega)
  have HC := Lib.hid (h.under hB)
  have HA := Lib.hid (And.intro h0 (And.intro hB hVs))
  have HS : Hid (Save g V V) := Lib.hid (Save.refl _ _)
  have HW := Lib.hid hV
  unfold cfC
  clear hV h0 hB h hVs hgw
  go_enter Tryd.func19, Tryd.ntmps19
  go_upto_region 1 with fail
  rw [← HW.out]
  clear HW
  by_cases hm : q + 4 ≤ b.length
  rotate_left
  · have HM := Lib.hid hm
    clear hm
    have HC := Lib.hid (HC.out.drewN 1)
    have HS := Lib.hid (HS.out.drewN 1)
    refine wp_region_held_drew (S := fun Y => True) (by kernel_rfl) trivial (fun hS => ?_)
    (refine held_take (i := 0) (oi := ?ot1) (v := ?vt1) ?at1 (by kernel_rfl) (by kernel_rfl) (by kernel_rfl) ?bt1 ?ct1 ?dt1 (by assumption) ?rt1; (case at1 => (simp only [List.getElem?_toArray, List.getElem?_cons_zero]; rfl)); (case bt1 => exact fun _ _ _ h => h); (case ct1 => kernel_rfl); (case dt1 => (intro W hW; (try dsimp only at hW); go_split_ands; go_simp; (try with_reducible rfl))); (case' rt1 => simp only [Act.put, List.setIfInBounds_toArray, List.set_cons_zero, List.set_cons_succ]))
    (refine held_take (i := 1) (oi := ?ot2) (v := ?vt2) ?at2 (by kernel_rfl) (by kernel_rfl) (by kernel_rfl) ?bt2 ?ct2 ?dt2 (by assumption) ?rt2; (case at2 => (simp only [List.getElem?_toArray, List.getElem?_cons_zero, List.getElem?_cons_succ]; rfl)); (case bt2 => exact fun _ _ _ h => h); (case ct2 => kernel_rfl); (case dt2 => (intro W hW; (try dsimp only at hW); go_split_ands; go_simp; (try with_reducible rfl))); (case' rt2 => simp only [Act.put, List.setIfInBounds_toArray, List.set_cons_zero, List.set_cons_succ]))
    (refine held_take (i := 2) (oi := ?ot3) (v := ?vt3) ?at3 (by kernel_rfl) (by kernel_rfl) (by kernel_rfl) ?bt3 ?ct3 ?dt3 (by assumption) ?rt3; (case at3 => (simp only [List.getElem?_toArray, List.getElem?_cons_zero, List.getElem?_cons_succ]; rfl)); (case bt3 => exact fun _ _ _ h => h); (case ct3 => kernel_rfl); (case dt3 => (intro W hW; (try dsimp only at hW); go_split_ands; go_simp; (try with_reducible rfl))); (case' rt3 => simp only [Act.put, List.setIfInBounds_toArray, List.set_cons_zero, List.set_cons_succ]))
    (refine held_take (i := 3) (oi := ?ot4) (v := ?vt4) ?at4 (by kernel_rfl) (by kernel_rfl) (by kernel_rfl) ?bt4 ?ct4 ?dt4 (by assumption) ?rt4; (case at4 => (simp only [List.getElem?_toArray, List.getElem?_cons_zero, List.getElem?_cons_succ]; rfl)); (case bt4 => exact fun _ _ _ h => h); (case ct4 => kernel_rfl); (case dt4 => (intro W hW; (try dsimp only at hW); go_split_ands; go_simp; (try with_reducible rfl))); (case' rt4 => simp only [Act.put, List.setIfInBounds_toArray, List.set_cons_zero, List.set_cons_succ]))
    (refine held_take (i := 4) (oi := ?ot5) (v := ?vt5) ?at5 (by kernel_rfl) (by kernel_rfl) (by kernel_rfl) ?bt5 ?ct5 ?dt5 (by assumption) ?rt5; (case at5 => (simp only [List.getElem?_toArray, List.getElem?_cons_zero, List.getElem?_cons_succ]; rfl)); (case bt5 => exact fun _ _ _ h => h); (case ct5 => kernel_rfl); (case dt5 => (intro W hW; (try dsimp only at hW); go_split_ands; go_simp; (try with_reducible rfl))); (case' rt5 => simp only [Act.put, List.setIfInBounds_toArray, List.set_cons_zero, List.set_cons_succ]))
    (refine held_take (i := 5) (oi := ?ot6) (v := ?vt6) ?at6 (by kernel_rfl) (by kernel_rfl) (by kernel_rfl) ?bt6 ?ct6 ?dt6 (by assumption) ?rt6; (case at6 => (simp only [List.getElem?_toArray, List.getElem?_cons_zero, List.getElem?_cons_succ]; rfl)); (case bt6 => exact fun _ _ _ h => h); (case ct6 => kernel_rfl); (case dt6 => (intro W hW; (try dsimp only at hW); go_split_ands; go_simp; (try with_reducible rfl))); (case' rt6 => simp only [Act.put, List.setIfInBounds_toArray, List.set_cons_zero, List.set_cons_succ]))
    refine held_one (i := 6) (oi := ?ot7) (by kernel_rfl) ?at7 ?ct7 (fun K6 hK6 => ?_)
    (case at7 => (simp only [List.getElem?_toArray, List.getElem?_cons_zero, List.getElem?_cons_succ]; rfl))
    (case ct7 => kernel_rfl)
    go_simp
    refine (long_any HC.out).mono ?_
    intro e yy hh
    obtain ⟨rfl, hs⟩ := hh.no HM.out
    exact ⟨rfl, .no (map_no (dep_no (dep_no (fld_short _ _ _ _ _ _ HM.out)))) rfl (Save.left HA.out.2.1 (HS.out.trans hs))⟩
  obtain ⟨n, hn⟩ : ∃ n, n = numAt b (q) 4 := ⟨_, rfl⟩
  have HM := Lib.hid (And.intro hm hn)
  clear hm hn
  by_cases he : n = 1111705159
  rotate_left
  · have HE := Lib.hid he
    have hd : ((n : Int) == 1111705159) = false := by simp; omega
    clear he
    have HC := Lib.hid (HC.out.drewN 1)
    have HS := Lib.hid (HS.out.drewN 1)
    refine wp_region_held_drew (S := fun Y => True) (by kernel_rfl) trivial (fun hS => ?_)
    (refine held_take (i := 0) (oi := ?ot8) (v := ?vt8) ?at8 (by kernel_rfl) (by kernel_rfl) (by kernel_rfl) ?bt8 ?ct8 ?dt8 (by assumption) ?rt8; (case at8 => (simp only [List.getElem?_toArray, List.getElem?_cons_zero]; rfl)); (case bt8 => exact fun _ _ _ h => h); (case ct8 => kernel_rfl); (case dt8 => (intro W hW; (try dsimp only at hW); go_split_ands; go_simp; (try with_reducible rfl))); (case' rt8 => simp only [Act.put, List.setIfInBounds_toArray, List.set_cons_zero, List.set_cons_succ]))
    (refine held_take (i := 1) (oi := ?ot9) (v := ?vt9) ?at9 (by kernel_rfl) (by kernel_rfl) (by kernel_rfl) ?bt9 ?ct9 ?dt9 (by assumption) ?rt9; (case at9 => (simp only [List.getElem?_toArray, List.getElem?_cons_zero, List.getElem?_cons_succ]; rfl)); (case bt9 => exact fun _ _ _ h => h); (case ct9 => kernel_rfl); (case dt9 => (intro W hW; (try dsimp only at hW); go_split_ands; go_simp; (try with_reducible rfl))); (case' rt9 => simp only [Act.put, List.setIfInBounds_toArray, List.set_cons_zero, List.set_cons_succ]))
    (refine held_take (i := 2) (oi := ?ot10) (v := ?vt10) ?at10 (by kernel_rfl) (by kernel_rfl) (by kernel_rfl) ?bt10 ?ct10 ?dt10 (by assumption) ?rt10; (case at10 => (simp only [List.getElem?_toArray, List.getElem?_cons_zero, List.getElem?_cons_succ]; rfl)); (case bt10 => exact fun _ _ _ h => h); (case ct10 => kernel_rfl); (case dt10 => (intro W hW; (try dsimp only at hW); go_split_ands; go_simp; (try with_reducible rfl))); (case' rt10 => simp only [Act.put, List.setIfInBounds_toArray, List.set_cons_zero, List.set_cons_succ]))
    (refine held_take (i := 3) (oi := ?ot11) (v := ?vt11) ?at11 (by kernel_rfl) (by kernel_rfl) (by kernel_rfl) ?bt11 ?ct11 ?dt11 (by assumption) ?rt11; (case at11 => (simp only [List.getElem?_toArray, List.getElem?_cons_zero, List.getElem?_cons_succ]; rfl)); (case bt11 => exact fun _ _ _ h => h); (case ct11 => kernel_rfl); (case dt11 => (intro W hW; (try dsimp only at hW); go_split_ands; go_simp; (try with_reducible rfl))); (case' rt11 => simp only [Act.put, List.setIfInBounds_toArray, List.set_cons_zero, List.set_cons_succ]))
    (refine held_take (i := 4) (oi := ?ot12) (v := ?vt12) ?at12 (by kernel_rfl) (by kernel_rfl) (by kernel_rfl) ?bt12 ?ct12 ?dt12 (by assumption) ?rt12; (case at12 => (simp only [List.getElem?_toArray, List.getElem?_cons_zero, List.getElem?_cons_succ]; rfl)); (case bt12 => exact fun _ _ _ h => h); (case ct12 => kernel_rfl); (case dt12 => (intro W hW; (try dsimp only at hW); go_split_ands; go_simp; (try with_reducible rfl))); (case' rt12 => simp only [Act.put, List.setIfInBounds_toArray, List.set_cons_zero, List.set_cons_succ]))
    (refine held_take (i := 5) (oi := ?ot13) (v := ?vt13) ?at13 (by kernel_rfl) (by kernel_rfl) (by kernel_rfl) ?bt13 ?ct13 ?dt13 (by assumption) ?rt13; (case at13 => (simp only [List.getElem?_toArray, List.getElem?_cons_zero, List.getElem?_cons_succ]; rfl)); (case bt13 => exact fun _ _ _ h => h); (case ct13 => kernel_rfl); (case dt13 => (intro W hW; (try dsimp only at hW); go_split_ands; go_simp; (try with_reducible rfl))); (case' rt13 => simp only [Act.put, List.setIfInBounds_toArray, List.set_cons_zero, List.set_cons_succ]))
    refine held_one (i := 6) (oi := ?ot14) (by kernel_rfl) ?at14 ?ct14 (fun K6 hK6 => ?_)
    (case at14 => (simp only [List.getElem?_toArray, List.getElem?_cons_zero, List.getElem?_cons_succ]; rfl))
    (case ct14 => kernel_rfl)
    go_simp
    refine (long_any HC.out).mono ?_
    intro e ya hh
    obtain ⟨rfl, hc, hs⟩ := hh.yes HM.out.1
    rw [← HM.out.2]
    have HS := Lib.hid (HS.out.trans hs)
    have HC := Lib.hid hc
    refine hK6 _ _ trivial (fun hS6 => ?_)
    clear hc hs hS hK6 K6
    (refine held_take (i := 7) (oi := ?ot15) (v := .bool false) ?at15 (by kernel_rfl) (by kernel_rfl) (by kernel_rfl) ?bt15 ?ct15 ?dt15 (by assumption) ?rt15; (case at15 => (simp only [List.getElem?_toArray, List.getElem?_cons_zero, List.getElem?_cons_succ]; rfl)); (case bt15 => exact fun _ _ _ h => h); (case ct15 => kernel_rfl); (case dt15 => (intro W hW; clear hW; go_simp; (try with_reducible rfl))); (case' rt15 => simp only [Act.put, List.setIfInBounds_toArray, List.set_cons_zero, List.set_cons_succ]))
    refine held_one (i := 8) (oi := ?ot16) (by kernel_rfl) ?at16 ?ct16 (fun K8 hK8 => ?_)
    (case at16 => (simp only [List.getElem?_toArray, List.getElem?_cons_zero, List.getElem?_cons_succ]; rfl))
    (case ct16 => kernel_rfl)
    go_simp
    refine (must_no 140 HC.out.at1).mono ?_
    rintro e yy ⟨rfl, rfl⟩
    have hs : Save g ya ya := Save.refl _ _
    exact ⟨rfl, .no (map_no (dep_no (dep_no (fld_bad _ 1111705159 1111705159 _ _ _ n HM.out.1 HM.out.2 (fun h => HE.out (Nat.le_antisymm h.2 h.1)))))) rfl (Save.left HA.out.2.1 (HS.out.trans hs))⟩
  subst he
  have HNa := Lib.hid (fld_good 4 1111705159 1111705159 140 b (q) 1111705159 HM.out.1 HM.out.2 ⟨Nat.le_refl _, Nat.le_refl _⟩)
  have HC := Lib.hid (HC.out.drewN 1)
  have HS := Lib.hid (HS.out.drewN 1)
  refine wp_region_held_drew (S := fun Y => True) (by kernel_rfl) trivial (fun hS => ?_)
  (refine held_take (i := 0) (oi := ?ot17) (v := ?vt17) ?at17 (by kernel_rfl) (by kernel_rfl) (by kernel_rfl) ?bt17 ?ct17 ?dt17 (by assumption) ?rt17; (case at17 => (simp only [List.getElem?_toArray, List.getElem?_cons_zero]; rfl)); (case bt17 => exact fun _ _ _ h => h); (case ct17 => kernel_rfl); (case dt17 => (intro W hW; (try dsimp only at hW); go_split_ands; go_simp; (try with_reducible rfl))); (case' rt17 => simp only [Act.put, List.setIfInBounds_toArray, List.set_cons_zero, List.set_cons_succ]))
  (refine held_take (i := 1) (oi := ?ot18) (v := ?vt18) ?at18 (by kernel_rfl) (by kernel_rfl) (by kernel_rfl) ?bt18 ?ct18 ?dt18 (by assumption) ?rt18; (case at18 => (simp only [List.getElem?_toArray, List.getElem?_cons_zero, List.getElem?_cons_succ]; rfl)); (case bt18 => exact fun _ _ _ h => h); (case ct18 => kernel_rfl); (case dt18 => (intro W hW; (try dsimp only at hW); go_split_ands; go_simp; (try with_reducible rfl))); (case' rt18 => simp only [Act.put, List.setIfInBounds_toArray, List.set_cons_zero, List.set_cons_succ]))
  (refine held_take (i := 2) (oi := ?ot19) (v := ?vt19) ?at19 (by kernel_rfl) (by kernel_rfl) (by kernel_rfl) ?bt19 ?ct19 ?dt19 (by assumption) ?rt19; (case at19 => (simp only [List.getElem?_toArray, List.getElem?_cons_zero, List.getElem?_cons_succ]; rfl)); (case bt19 => exact fun _ _ _ h => h); (case ct19 => kernel_rfl); (case dt19 => (intro W hW; (try dsimp only at hW); go_split_ands; go_simp; (try with_reducible rfl))); (case' rt19 => simp only [Act.put, List.setIfInBounds_toArray, List.set_cons_zero, List.set_cons_succ]))
  (refine held_take (i := 3) (oi := ?ot20) (v := ?vt20) ?at20 (by kernel_rfl) (by kernel_rfl) (by kernel_rfl) ?bt20 ?ct20 ?dt20 (by assumption) ?rt20; (case at20 => (simp only [List.getElem?_toArray, List.getElem?_cons_zero, List.getElem?_cons_succ]; rfl)); (case bt20 => exact fun _ _ _ h => h); (case ct20 => kernel_rfl); (case dt20 => (intro W hW; (try dsimp only at hW); go_split_ands; go_simp; (try with_reducible rfl))); (case' rt20 => simp only [Act.put, List.setIfInBounds_toArray, List.set_cons_zero, List.set_cons_succ]))
  (refine held_take (i := 4) (oi := ?ot21) (v := ?vt21) ?at21 (by kernel_rfl) (by kernel_rfl) (by kernel_rfl) ?bt21 ?ct21 ?dt21 (by assumption) ?rt21; (case at21 => (simp only [List.getElem?_toArray, List.getElem?_cons_zero, List.getElem?_cons_succ]; rfl)); (case bt21 => exact fun _ _ _ h => h); (case ct21 => kernel_rfl); (case dt21 => (intro W hW; (try dsimp only at hW); go_split_ands; go_simp; (try with_reducible rfl))); (case' rt21 => simp only [Act.put, List.setIfInBounds_toArray, List.set_cons_zero, List.set_cons_succ]))
  (refine held_take (i := 5) (oi := ?ot22) (v := ?vt22) ?at22 (by kernel_rfl) (by kernel_rfl) (by kernel_rfl) ?bt22 ?ct22 ?dt22 (by assumption) ?rt22; (case at22 => (simp only [List.getElem?_toArray, List.getElem?_cons_zero, List.getElem?_cons_succ]; rfl)); (case bt22 => exact fun _ _ _ h => h); (case ct22 => kernel_rfl); (case dt22 => (intro W hW; (try dsimp only at hW); go_split_ands; go_simp; (try with_reducible rfl))); (case' rt22 => simp only [Act.put, List.setIfInBounds_toArray, List.set_cons_zero, List.set_cons_succ]))
  refine held_one (i := 6) (oi := ?ot23) (by kernel_rfl) ?at23 ?ct23 (fun K6 hK6 => ?_)
  (case at23 => (simp only [List.getElem?_toArray, List.getElem?_cons_zero, List.getElem?_cons_succ]; rfl))
  (case ct23 => kernel_rfl)
  go_simp
  refine (long_any HC.out).mono ?_
  intro e ya hh
  obtain ⟨rfl, hc, hs⟩ := hh.yes HM.out.1
  rw [← HM.out.2]
  have HS := Lib.hid (HS.out.trans hs)
  have HC := Lib.hid hc
  refine hK6 _ _ trivial (fun hS6 => ?_)
  clear hc hs hS hK6 K6
  (refine held_take (i := 7) (oi := ?ot24) (v := .bool true) ?at24 (by kernel_rfl) (by kernel_rfl) (by kernel_rfl) ?bt24 ?ct24 ?dt24 (by assumption) ?rt24; (case at24 => (simp only [List.getElem?_toArray, List.getElem?_cons_zero, List.getElem?_cons_succ]; rfl)); (case bt24 => exact fun _ _ _ h => h); (case ct24 => kernel_rfl); (case dt24 => (intro W hW; clear hW; go_simp; (try with_reducible rfl))); (case' rt24 => simp only [Act.put, List.setIfInBounds_toArray, List.set_cons_zero, List.set_cons_succ]))
  refine held_one (i := 8) (oi := ?ot25) (by kernel_rfl) ?at25 ?ct25 (fun K8 hK8 => ?_)
  (case at25 => (simp only [List.getElem?_toArray, List.getElem?_cons_zero, List.getElem?_cons_succ]; rfl))
  (case ct25 => kernel_rfl)
  go_simp
  refine (must_yes _ _ _).mono ?_
  rintro e yy ⟨rfl, rfl⟩
  refine hK8 _ _ trivial (fun hS8 => ?_)
  clear hS6 hK8 K8
  refine wpAnyH_done (by kernel_rfl) ?_ _
  clear HM
  go_upto_region 2 with fail
  by_cases hm : (q + 4) + 2 ≤ b.length
  rotate_left
  · have HM := Lib.hid hm
    clear hm
    have HC := Lib.hid (HC.out.drewN 1)
    have HS := Lib.hid (HS.out.drewN 1)
    refine wp_region_held_drew (S := fun Y => True) (by kernel_rfl) trivial (fun hS => ?_)
    (refine held_take (i := 0) (oi := ?ot26) (v := ?vt26) ?at26 (by kernel_rfl) (by kernel_rfl) (by kernel_rfl) ?bt26 ?ct26 ?dt26 (by assumption) ?rt26; (case at26 => (simp only [List.getElem?_toArray, List.getElem?_cons_zero]; rfl)); (case bt26 => exact fun _ _ _ h => h); (case ct26 => kernel_rfl); (case dt26 => (intro W hW; (try dsimp only at hW); go_split_ands; go_simp; (try with_reducible rfl))); (case' rt26 => simp only [Act.put, List.setIfInBounds_toArray, List.set_cons_zero, List.set_cons_succ]))
    (refine held_take (i := 1) (oi := ?ot27) (v := ?vt27) ?at27 (by kernel_rfl) (by kernel_rfl) (by kernel_rfl) ?bt27 ?ct27 ?dt27 (by assumption) ?rt27; (case at27 => (simp only [List.getElem?_toArray, List.getElem?_cons_zero, List.getElem?_cons_succ]; rfl)); (case bt27 => exact fun _ _ _ h => h); (case ct27 => kernel_rfl); (case dt27 => (intro W hW; (try dsimp only at hW); go_split_ands; go_simp; (try with_reducible rfl))); (case' rt27 => simp only [Act.put, List.setIfInBounds_toArray, List.set_cons_zero, List.set_cons_succ]))
    (refine held_take (i := 2) (oi := ?ot28) (v := ?vt28) ?at28 (by kernel_rfl) (by kernel_rfl) (by kernel_rfl) ?bt28 ?ct28 ?dt28 (by assumption) ?rt28; (case at28 => (simp only [List.getElem?_toArray, List.getElem?_cons_zero, List.getElem?_cons_succ]; rfl)); (case bt28 => exact fun _ _ _ h => h); (case ct28 => kernel_rfl); (case dt28 => (intro W hW; (try dsimp only at hW); go_split_ands; go_simp; (try with_reducible rfl))); (case' rt28 => simp only [Act.put, List.setIfInBounds_toArray, List.set_cons_zero, List.set_cons_succ]))
    (refine held_take (i := 3) (oi := ?ot29) (v := ?vt29) ?at29 (by kernel_rfl) (by kernel_rfl) (by kernel_rfl) ?bt29 ?ct29 ?dt29 (by assumption) ?rt29; (case at29 => (simp only [List.getElem?_toArray, List.getElem?_cons_zero, List.getElem?_cons_succ]; rfl)); (case bt29 => exact fun _ _ _ h => h); (case ct29 => kernel_rfl); (case dt29 => (intro W hW; (try dsimp only at hW); go_split_ands; go_simp; (try with_reducible rfl))); (case' rt29 => simp only [Act.put, List.setIfInBounds_toArray, List.set_cons_zero, List.set_cons_succ]))
    (refine held_take (i := 4) (oi := ?ot30) (v := ?vt30) ?at30 (by kernel_rfl) (by kernel_rfl) (by kernel_rfl) ?bt30 ?ct30 ?dt30 (by assumption) ?rt30; (case at30 => (simp only [List.getElem?_toArray, List.getElem?_cons_zero, List.getElem?_cons_succ]; rfl)); (case bt30 => exact fun _ _ _ h => h); (case ct30 => kernel_rfl); (case dt30 => (intro W hW; (try dsimp only at hW); go_split_ands; go_simp; (try with_reducible rfl))); (case' rt30 => simp only [Act.put, List.setIfInBounds_toArray, List.set_cons_zero, List.set_cons_succ]))
    (refine held_take (i := 5) (oi := ?ot31) (v := ?vt31) ?at31 (by kernel_rfl) (by kernel_rfl) (by kernel_rfl) ?bt31 ?ct31 ?dt31 (by assumption) ?rt31; (case at31 => (simp only [List.getElem?_toArray, List.getElem?_cons_zero, List.getElem?_cons_succ]; rfl)); (case bt31 => exact fun _ _ _ h => h); (case ct31 => kernel_rfl); (case dt31 => (intro W hW; (try dsimp only at hW); go_split_ands; go_simp; (try with_reducible rfl))); (case' rt31 => simp only [Act.put, List.setIfInBounds_toArray, List.set_cons_zero, List.set_cons_succ]))
    refine held_one (i := 6) (oi := ?ot32) (by kernel_rfl) ?at32 ?ct32 (fun K6 hK6 => ?_)
    (case at32 => (simp only [List.getElem?_toArray, List.getElem?_cons_zero, List.getElem?_cons_succ]; rfl))
    (case ct32 => kernel_rfl)
    go_simp
    refine (short_any HC.out).mono ?_
    intro e yy hh
    obtain ⟨rfl, hs⟩ := hh.no HM.out
    exact ⟨rfl, .no (map_no (dep_no (dep_on HNa.out (dep_no (fld_short _ _ _ _ _ _ HM.out))))) rfl (Save.left HA.out.2.1 (HS.out.trans hs))⟩
  obtain ⟨n, hn⟩ : ∃ n, n = numAt b ((q + 4)) 2 := ⟨_, rfl⟩
  have HM := Lib.hid (And.intro hm hn)
  clear hm hn
  by_cases he : n = 1
  rotate_left
  · have HE := Lib.hid he
    have hd : ((n : Int) == 1) = false := by simp; omega
    clear he
    have HC := Lib.hid (HC.out.drewN 1)
    have HS := Lib.hid (HS.out.drewN 1)
    refine wp_region_held_drew (S := fun Y => True) (by kernel_rfl) trivial (fun hS => ?_)
    (refine held_take (i := 0) (oi := ?ot33) (v := ?vt33) ?at33 (by kernel_rfl) (by kernel_rfl) (by kernel_rfl) ?bt33 ?ct33 ?dt33 (by assumption) ?rt33; (case at33 => (simp only [List.getElem?_toArray, List.getElem?_cons_zero]; rfl)); (case bt33 => exact fun _ _ _ h => h); (case ct33 => kernel_rfl); (case dt33 => (intro W hW; (try dsimp only at hW); go_split_ands; go_simp; (try with_reducible rfl))); (case' rt33 => simp only [Act.put, List.setIfInBounds_toArray, List.set_cons_zero, List.set_cons_succ]))
    (refine held_take (i := 1) (oi := ?ot34) (v := ?vt34) ?at34 (by kernel_rfl) (by kernel_rfl) (by kernel_rfl) ?bt34 ?ct34 ?dt34 (by assumption) ?rt34; (case at34 => (simp only [List.getElem?_toArray, List.getElem?_cons_zero, List.getElem?_cons_succ]; rfl)); (case bt34 => exact fun _ _ _ h => h); (case ct34 => kernel_rfl); (case dt34 => (intro W hW; (try dsimp only at hW); go_split_ands; go_simp; (try with_reducible rfl))); (case' rt34 => simp only [Act.put, List.setIfInBounds_toArray, List.set_cons_zero, List.set_cons_succ]))
    (refine held_take (i := 2) (oi := ?ot35) (v := ?vt35) ?at35 (by kernel_rfl) (by kernel_rfl) (by kernel_rfl) ?bt35 ?ct35 ?dt35 (by assumption) ?rt35; (case at35 => (simp only [List.getElem?_toArray, List.getElem?_cons_zero, List.getElem?_cons_succ]; rfl)); (case bt35 => exact fun _ _ _ h => h); (case ct35 => kernel_rfl); (case dt35 => (intro W hW; (try dsimp only at hW); go_split_ands; go_simp; (try with_reducible rfl))); (case' rt35 => simp only [Act.put, List.setIfInBounds_toArray, List.set_cons_zero, List.set_cons_succ]))
    (refine held_take (i := 3) (oi := ?ot36) (v := ?vt36) ?at36 (by kernel_rfl) (by kernel_rfl) (by kernel_rfl) ?bt36 ?ct36 ?dt36 (by assumption) ?rt36; (case at36 => (simp only [List.getElem?_toArray, List.getElem?_cons_zero, List.getElem?_cons_succ]; rfl)); (case bt36 => exact fun _ _ _ h => h); (case ct36 => kernel_rfl); (case dt36 => (intro W hW; (try dsimp only at hW); go_split_ands; go_simp; (try with_reducible rfl))); (case' rt36 => simp only [Act.put, List.setIfInBounds_toArray, List.set_cons_zero, List.set_cons_succ]))
    (refine held_take (i := 4) (oi := ?ot37) (v := ?vt37) ?at37 (by kernel_rfl) (by kernel_rfl) (by kernel_rfl) ?bt37 ?ct37 ?dt37 (by assumption) ?rt37; (case at37 => (simp only [List.getElem?_toArray, List.getElem?_cons_zero, List.getElem?_cons_succ]; rfl)); (case bt37 => exact fun _ _ _ h => h); (case ct37 => kernel_rfl); (case dt37 => (intro W hW; (try dsimp only at hW); go_split_ands; go_simp; (try with_reducible rfl))); (case' rt37 => simp only [Act.put, List.setIfInBounds_toArray, List.set_cons_zero, List.set_cons_succ]))
    (refine held_take (i := 5) (oi := ?ot38) (v := ?vt38) ?at38 (by kernel_rfl) (by kernel_rfl) (by kernel_rfl) ?bt38 ?ct38 ?dt38 (by assumption) ?rt38; (case at38 => (simp only [List.getElem?_toArray, List.getElem?_cons_zero, List.getElem?_cons_succ]; rfl)); (case bt38 => exact fun _ _ _ h => h); (case ct38 => kernel_rfl); (case dt38 => (intro W hW; (try dsimp only at hW); go_split_ands; go_simp; (try with_reducible rfl))); (case' rt38 => simp only [Act.put, List.setIfInBounds_toArray, List.set_cons_zero, List.set_cons_succ]))
    refine held_one (i := 6) (oi := ?ot39) (by kernel_rfl) ?at39 ?ct39 (fun K6 hK6 => ?_)
    (case at39 => (simp only [List.getElem?_toArray, List.getElem?_cons_zero, List.getElem?_cons_succ]; rfl))
    (case ct39 => kernel_rfl)
    go_simp
    refine (short_any HC.out).mono ?_
    intro e yb hh
    obtain ⟨rfl, hc, hs⟩ := hh.yes HM.out.1
    rw [← HM.out.2]
    have HS := Lib.hid (HS.out.trans hs)
    have HC := Lib.hid hc
    refine hK6 _ _ trivial (fun hS6 => ?_)
    clear hc hs hS hK6 K6
    (refine held_take (i := 7) (oi := ?ot40) (v := .bool false) ?at40 (by kernel_rfl) (by kernel_rfl) (by kernel_rfl) ?bt40 ?ct40 ?dt40 (by assumption) ?rt40; (case at40 => (simp only [List.getElem?_toArray, List.getElem?_cons_zero, List.getElem?_cons_succ]; rfl)); (case bt40 => exact fun _ _ _ h => h); (case ct40 => kernel_rfl); (case dt40 => (intro W hW; clear hW; go_simp; (try with_reducible rfl))); (case' rt40 => simp only [Act.put, List.setIfInBounds_toArray, List.set_cons_zero, List.set_cons_succ]))
    refine held_one (i := 8) (oi := ?ot41) (by kernel_rfl) ?at41 ?ct41 (fun K8 hK8 => ?_)
    (case at41 => (simp only [List.getElem?_toArray, List.getElem?_cons_zero, List.getElem?_cons_succ]; rfl))
    (case ct41 => kernel_rfl)
    go_simp
    refine (must_no 144 HC.out.at1).mono ?_
    rintro e yy ⟨rfl, rfl⟩
    have hs : Save g yb yb := Save.refl _ _
    exact ⟨rfl, .no (map_no (dep_no (dep_on HNa.out (dep_no (fld_bad _ 1 1 _ _ _ n HM.out.1 HM.out.2 (fun h => HE.out (Nat.le_antisymm h.2 h.1))))))) rfl (Save.left HA.out.2.1 (HS.out.trans hs))⟩
  subst he
  have HNb := Lib.hid (fld_good 2 1 1 144 b ((q + 4)) 1 HM.out.1 HM.out.2 ⟨Nat.le_refl _, Nat.le_refl _⟩)
  have HC := Lib.hid (HC.out.drewN 1)
  have HS := Lib.hid (HS.out.drewN 1)
  refine wp_region_held_drew (S := fun Y => True) (by kernel_rfl) trivial (fun hS => ?_)
  (refine held_take (i := 0) (oi := ?ot42) (v := ?vt42) ?at42 (by kernel_rfl) (by kernel_rfl) (by kernel_rfl) ?bt42 ?ct42 ?dt42 (by assumption) ?rt42; (case at42 => (simp only [List.getElem?_toArray, List.getElem?_cons_zero]; rfl)); (case bt42 => exact fun _ _ _ h => h); (case ct42 => kernel_rfl); (case dt42 => (intro W hW; (try dsimp only at hW); go_split_ands; go_simp; (try with_reducible rfl))); (case' rt42 => simp only [Act.put, List.setIfInBounds_toArray, List.set_cons_zero, List.set_cons_succ]))
  (refine held_take (i := 1) (oi := ?ot43) (v := ?vt43) ?at43 (by kernel_rfl) (by kernel_rfl) (by kernel_rfl) ?bt43 ?ct43 ?dt43 (by assumption) ?rt43; (case at43 => (simp only [List.getElem?_toArray, List.getElem?_cons_zero, List.getElem?_cons_succ]; rfl)); (case bt43 => exact fun _ _ _ h => h); (case ct43 => kernel_rfl); (case dt43 => (intro W hW; (try dsimp only at hW); go_split_ands; go_simp; (try with_reducible rfl))); (case' rt43 => simp only [Act.put, List.setIfInBounds_toArray, List.set_cons_zero, List.set_cons_succ]))
  (refine held_take (i := 2) (oi := ?ot44) (v := ?vt44) ?at44 (by kernel_rfl) (by kernel_rfl) (by kernel_rfl) ?bt44 ?ct44 ?dt44 (by assumption) ?rt44; (case at44 => (simp only [List.getElem?_toArray, List.getElem?_cons_zero, List.getElem?_cons_succ]; rfl)); (case bt44 => exact fun _ _ _ h => h); (case ct44 => kernel_rfl); (case dt44 => (intro W hW; (try dsimp only at hW); go_split_ands; go_simp; (try with_reducible rfl))); (case' rt44 => simp only [Act.put, List.setIfInBounds_toArray, List.set_cons_zero, List.set_cons_succ]))
  (refine held_take (i := 3) (oi := ?ot45) (v := ?vt45) ?at45 (by kernel_rfl) (by kernel_rfl) (by kernel_rfl) ?bt45 ?ct45 ?dt45 (by assumption) ?rt45; (case at45 => (simp only [List.getElem?_toArray, List.getElem?_cons_zero, List.getElem?_cons_succ]; rfl)); (case bt45 => exact fun _ _ _ h => h); (case ct45 => kernel_rfl); (case dt45 => (intro W hW; (try dsimp only at hW); go_split_ands; go_simp; (try with_reducible rfl))); (case' rt45 => simp only [Act.put, List.setIfInBounds_toArray, List.set_cons_zero, List.set_cons_succ]))
  (refine held_take (i := 4) (oi := ?ot46) (v := ?vt46) ?at46 (by kernel_rfl) (by kernel_rfl) (by kernel_rfl) ?bt46 ?ct46 ?dt46 (by assumption) ?rt46; (case at46 => (simp only [List.getElem?_toArray, List.getElem?_cons_zero, List.getElem?_cons_succ]; rfl)); (case bt46 => exact fun _ _ _ h => h); (case ct46 => kernel_rfl); (case dt46 => (intro W hW; (try dsimp only at hW); go_split_ands; go_simp; (try with_reducible rfl))); (case' rt46 => simp only [Act.put, List.setIfInBounds_toArray, List.set_cons_zero, List.set_cons_succ]))
  (refine held_take (i := 5) (oi := ?ot47) (v := ?vt47) ?at47 (by kernel_rfl) (by kernel_rfl) (by kernel_rfl) ?bt47 ?ct47 ?dt47 (by assumption) ?rt47; (case at47 => (simp only [List.getElem?_toArray, List.getElem?_cons_zero, List.getElem?_cons_succ]; rfl)); (case bt47 => exact fun _ _ _ h => h); (case ct47 => kernel_rfl); (case dt47 => (intro W hW; (try dsimp only at hW); go_split_ands; go_simp; (try with_reducible rfl))); (case' rt47 => simp only [Act.put, List.setIfInBounds_toArray, List.set_cons_zero, List.set_cons_succ]))
  refine held_one (i := 6) (oi := ?ot48) (by kernel_rfl) ?at48 ?ct48 (fun K6 hK6 => ?_)
  (case at48 => (simp only [List.getElem?_toArray, List.getElem?_cons_zero, List.getElem?_cons_succ]; rfl))
  (case ct48 => kernel_rfl)
  go_simp
  refine (short_any HC.out).mono ?_
  intro e yb hh
  obtain ⟨rfl, hc, hs⟩ := hh.yes HM.out.1
  rw [← HM.out.2]
  have HS := Lib.hid (HS.out.trans hs)
  have HC := Lib.hid hc
  refine hK6 _ _ trivial (fun hS6 => ?_)
  clear hc hs hS hK6 K6
  (refine held_take (i := 7) (oi := ?ot49) (v := .bool true) ?at49 (by kernel_rfl) (by kernel_rfl) (by kernel_rfl) ?bt49 ?ct49 ?dt49 (by assumption) ?rt49; (case at49 => (simp only [List.getElem?_toArray, List.getElem?_cons_zero, List.getElem?_cons_succ]; rfl)); (case bt49 => exact fun _ _ _ h => h); (case ct49 => kernel_rfl); (case dt49 => (intro W hW; clear hW; go_simp; (try with_reducible rfl))); (case' rt49 => simp only [Act.put, List.setIfInBounds_toArray, List.set_cons_zero, List.set_cons_succ]))
  refine held_one (i := 8) (oi := ?ot50) (by kernel_rfl) ?at50 ?ct50 (fun K8 hK8 => ?_)
  (case at50 => (simp only [List.getElem?_toArray, List.getElem?_cons_zero, List.getElem?_cons_succ]; rfl))
  (case ct50 => kernel_rfl)
  go_simp
  refine (must_yes _ _ _).mono ?_
  rintro e yy ⟨rfl, rfl⟩
  refine hK8 _ _ trivial (fun hS8 => ?_)
  clear hS6 hK8 K8
  refine wpAnyH_done (by kernel_rfl) ?_ _
  clear HM
  go_upto_region 4 with (first
    | ((with_reducible show Calls _ _ #[_, .func (.func 41) _ _] _ _)
       refine (count_guestsFit HC.out).mono ?_
       intro e z1 hh
       rcases hh with hh | hh
       rotate_left
       · obtain ⟨er, pl, hg, rfl, hs⟩ := hh
         exact ⟨rfl, .no (map_no (dep_no (dep_on HNa.out (dep_on HNb.out (dep_no (hg)))))) rfl (Save.left HA.out.2.1 (HS.out.trans hs))⟩
       obtain ⟨xx, p1, vv, tt, hg, rfl, hv, hc, hs⟩ := hh
       obtain ⟨n1, rfl, hn1⟩ := fld_nat hg
       obtain rfl : vv = .int .i64 (n1 : Int) := hv
       have HS := Lib.hid (HS.out.trans hs)
       have HC := Lib.hid hc
       have HQ1 := Lib.hid hg
       clear hg hc hs)
    | ((with_reducible show Calls _ _ #[_, .func (.func 42) _ _] _ _)
       refine (count_channelsFit HC.out).mono ?_
       intro e z2 hh
       rcases hh with hh | hh
       rotate_left
       · obtain ⟨er, pl, hg, rfl, hs⟩ := hh
         exact ⟨rfl, .no (map_no (dep_no (dep_on HNa.out (dep_on HNb.out (dep_on HQ1.out (dep_no (hg))))))) rfl (Save.left HA.out.2.1 (HS.out.trans hs))⟩
       obtain ⟨xx, p2, vv, tt, hg, rfl, hv, hc, hs⟩ := hh
       obtain ⟨n2, rfl, hn2⟩ := fld_nat hg
       obtain rfl : vv = .int .i64 (n2 : Int) := hv
       have HS := Lib.hid (HS.out.trans hs)
       have HC := Lib.hid hc
       have HQ2 := Lib.hid hg
       clear hg hc hs))
  by_cases hm : p2 + 2 ≤ b.length
  rotate_left
  · have HM := Lib.hid hm
    clear hm
    have HC := Lib.hid (HC.out.drewN 1)
    have HS := Lib.hid (HS.out.drewN 1)
    refine wp_region_held_drew (S := fun Y => True) (by kernel_rfl) trivial (fun hS => ?_)
    (refine held_take (i := 0) (oi := ?ot51) (v := ?vt51) ?at51 (by kernel_rfl) (by kernel_rfl) (by kernel_rfl) ?bt51 ?ct51 ?dt51 (by assumption) ?rt51; (case at51 => (simp only [List.getElem?_toArray, List.getElem?_cons_zero]; rfl)); (case bt51 => exact fun _ _ _ h => h); (case ct51 => kernel_rfl); (case dt51 => (intro W hW; (try dsimp only at hW); go_split_ands; go_simp; (try with_reducible rfl))); (case' rt51 => simp only [Act.put, List.setIfInBounds_toArray, List.set_cons_zero, List.set_cons_succ]))
    (refine held_take (i := 1) (oi := ?ot52) (v := ?vt52) ?at52 (by kernel_rfl) (by kernel_rfl) (by kernel_rfl) ?bt52 ?ct52 ?dt52 (by assumption) ?rt52; (case at52 => (simp only [List.getElem?_toArray, List.getElem?_cons_zero, List.getElem?_cons_succ]; rfl)); (case bt52 => exact fun _ _ _ h => h); (case ct52 => kernel_rfl); (case dt52 => (intro W hW; (try dsimp only at hW); go_split_ands; go_simp; (try with_reducible rfl))); (case' rt52 => simp only [Act.put, List.setIfInBounds_toArray, List.set_cons_zero, List.set_cons_succ]))
    (refine held_take (i := 2) (oi := ?ot53) (v := ?vt53) ?at53 (by kernel_rfl) (by kernel_rfl) (by kernel_rfl) ?bt53 ?ct53 ?dt53 (by assumption) ?rt53; (case at53 => (simp only [List.getElem?_toArray, List.getElem?_cons_zero, List.getElem?_cons_succ]; rfl)); (case bt53 => exact fun _ _ _ h => h); (case ct53 => kernel_rfl); (case dt53 => (intro W hW; (try dsimp only at hW); go_split_ands; go_simp; (try with_reducible rfl))); (case' rt53 => simp only [Act.put, List.setIfInBounds_toArray, List.set_cons_zero, List.set_cons_succ]))
    (refine held_take (i := 3) (oi := ?ot54) (v := ?vt54) ?at54 (by kernel_rfl) (by kernel_rfl) (by kernel_rfl) ?bt54 ?ct54 ?dt54 (by assumption) ?rt54; (case at54 => (simp only [List.getElem?_toArray, List.getElem?_cons_zero, List.getElem?_cons_succ]; rfl)); (case bt54 => exact fun _ _ _ h => h); (case ct54 => kernel_rfl); (case dt54 => (intro W hW; (try dsimp only at hW); go_split_ands; go_simp; (try with_reducible rfl))); (case' rt54 => simp only [Act.put, List.setIfInBounds_toArray, List.set_cons_zero, List.set_cons_succ]))
    (refine held_take (i := 4) (oi := ?ot55) (v := ?vt55) ?at55 (by kernel_rfl) (by kernel_rfl) (by kernel_rfl) ?bt55 ?ct55 ?dt55 (by assumption) ?rt55; (case at55 => (simp only [List.getElem?_toArray, List.getElem?_cons_zero, List.getElem?_cons_succ]; rfl)); (case bt55 => exact fun _ _ _ h => h); (case ct55 => kernel_rfl); (case dt55 => (intro W hW; (try dsimp only at hW); go_split_ands; go_simp; (try with_reducible rfl))); (case' rt55 => simp only [Act.put, List.setIfInBounds_toArray, List.set_cons_zero, List.set_cons_succ]))
    (refine held_take (i := 5) (oi := ?ot56) (v := ?vt56) ?at56 (by kernel_rfl) (by kernel_rfl) (by kernel_rfl) ?bt56 ?ct56 ?dt56 (by assumption) ?rt56; (case at56 => (simp only [List.getElem?_toArray, List.getElem?_cons_zero, List.getElem?_cons_succ]; rfl)); (case bt56 => exact fun _ _ _ h => h); (case ct56 => kernel_rfl); (case dt56 => (intro W hW; (try dsimp only at hW); go_split_ands; go_simp; (try with_reducible rfl))); (case' rt56 => simp only [Act.put, List.setIfInBounds_toArray, List.set_cons_zero, List.set_cons_succ]))
    refine held_one (i := 6) (oi := ?ot57) (by kernel_rfl) ?at57 ?ct57 (fun K6 hK6 => ?_)
    (case at57 => (simp only [List.getElem?_toArray, List.getElem?_cons_zero, List.getElem?_cons_succ]; rfl))
    (case ct57 => kernel_rfl)
    go_simp
    refine (short_any HC.out).mono ?_
    intro e yy hh
    obtain ⟨rfl, hs⟩ := hh.no HM.out
    exact ⟨rfl, .no (map_no (dep_no (dep_on HNa.out (dep_on HNb.out (dep_on HQ1.out (dep_on HQ2.out (dep_no (fld_short _ _ _ _ _ _ HM.out)))))))) rfl (Save.left HA.out.2.1 (HS.out.trans hs))⟩
  obtain ⟨n, hn⟩ : ∃ n, n = numAt b (p2) 2 := ⟨_, rfl⟩
  have HM := Lib.hid (And.intro hm hn)
  clear hm hn
  by_cases he : n = 0
  rotate_left
  · have HE := Lib.hid he
    have hd : ((n : Int) == 0) = false := by simp; omega
    clear he
    have HC := Lib.hid (HC.out.drewN 1)
    have HS := Lib.hid (HS.out.drewN 1)
    refine wp_region_held_drew (S := fun Y => True) (by kernel_rfl) trivial (fun hS => ?_)
    (refine held_take (i := 0) (oi := ?ot58) (v := ?vt58) ?at58 (by kernel_rfl) (by kernel_rfl) (by kernel_rfl) ?bt58 ?ct58 ?dt58 (by assumption) ?rt58; (case at58 => (simp only [List.getElem?_toArray, List.getElem?_cons_zero]; rfl)); (case bt58 => exact fun _ _ _ h => h); (case ct58 => kernel_rfl); (case dt58 => (intro W hW; (try dsimp only at hW); go_split_ands; go_simp; (try with_reducible rfl))); (case' rt58 => simp only [Act.put, List.setIfInBounds_toArray, List.set_cons_zero, List.set_cons_succ]))
    (refine held_take (i := 1) (oi := ?ot59) (v := ?vt59) ?at59 (by kernel_rfl) (by kernel_rfl) (by kernel_rfl) ?bt59 ?ct59 ?dt59 (by assumption) ?rt59; (case at59 => (simp only [List.getElem?_toArray, List.getElem?_cons_zero, List.getElem?_cons_succ]; rfl)); (case bt59 => exact fun _ _ _ h => h); (case ct59 => kernel_rfl); (case dt59 => (intro W hW; (try dsimp only at hW); go_split_ands; go_simp; (try with_reducible rfl))); (case' rt59 => simp only [Act.put, List.setIfInBounds_toArray, List.set_cons_zero, List.set_cons_succ]))
    (refine held_take (i := 2) (oi := ?ot60) (v := ?vt60) ?at60 (by kernel_rfl) (by kernel_rfl) (by kernel_rfl) ?bt60 ?ct60 ?dt60 (by assumption) ?rt60; (case at60 => (simp only [List.getElem?_toArray, List.getElem?_cons_zero, List.getElem?_cons_succ]; rfl)); (case bt60 => exact fun _ _ _ h => h); (case ct60 => kernel_rfl); (case dt60 => (intro W hW; (try dsimp only at hW); go_split_ands; go_simp; (try with_reducible rfl))); (case' rt60 => simp only [Act.put, List.setIfInBounds_toArray, List.set_cons_zero, List.set_cons_succ]))
    (refine held_take (i := 3) (oi := ?ot61) (v := ?vt61) ?at61 (by kernel_rfl) (by kernel_rfl) (by kernel_rfl) ?bt61 ?ct61 ?dt61 (by assumption) ?rt61; (case at61 => (simp only [List.getElem?_toArray, List.getElem?_cons_zero, List.getElem?_cons_succ]; rfl)); (case bt61 => exact fun _ _ _ h => h); (case ct61 => kernel_rfl); (case dt61 => (intro W hW; (try dsimp only at hW); go_split_ands; go_simp; (try with_reducible rfl))); (case' rt61 => simp only [Act.put, List.setIfInBounds_toArray, List.set_cons_zero, List.set_cons_succ]))
    (refine held_take (i := 4) (oi := ?ot62) (v := ?vt62) ?at62 (by kernel_rfl) (by kernel_rfl) (by kernel_rfl) ?bt62 ?ct62 ?dt62 (by assumption) ?rt62; (case at62 => (simp only [List.getElem?_toArray, List.getElem?_cons_zero, List.getElem?_cons_succ]; rfl)); (case bt62 => exact fun _ _ _ h => h); (case ct62 => kernel_rfl); (case dt62 => (intro W hW; (try dsimp only at hW); go_split_ands; go_simp; (try with_reducible rfl))); (case' rt62 => simp only [Act.put, List.setIfInBounds_toArray, List.set_cons_zero, List.set_cons_succ]))
    (refine held_take (i := 5) (oi := ?ot63) (v := ?vt63) ?at63 (by kernel_rfl) (by kernel_rfl) (by kernel_rfl) ?bt63 ?ct63 ?dt63 (by assumption) ?rt63; (case at63 => (simp only [List.getElem?_toArray, List.getElem?_cons_zero, List.getElem?_cons_succ]; rfl)); (case bt63 => exact fun _ _ _ h => h); (case ct63 => kernel_rfl); (case dt63 => (intro W hW; (try dsimp only at hW); go_split_ands; go_simp; (try with_reducible rfl))); (case' rt63 => simp only [Act.put, List.setIfInBounds_toArray, List.set_cons_zero, List.set_cons_succ]))
    refine held_one (i := 6) (oi := ?ot64) (by kernel_rfl) ?at64 ?ct64 (fun K6 hK6 => ?_)
    (case at64 => (simp only [List.getElem?_toArray, List.getElem?_cons_zero, List.getElem?_cons_succ]; rfl))
    (case ct64 => kernel_rfl)
    go_simp
    refine (short_any HC.out).mono ?_
    intro e yc hh
    obtain ⟨rfl, hc, hs⟩ := hh.yes HM.out.1
    rw [← HM.out.2]
    have HS := Lib.hid (HS.out.trans hs)
    have HC := Lib.hid hc
    refine hK6 _ _ trivial (fun hS6 => ?_)
    clear hc hs hS hK6 K6
    (refine held_take (i := 7) (oi := ?ot65) (v := .bool false) ?at65 (by kernel_rfl) (by kernel_rfl) (by kernel_rfl) ?bt65 ?ct65 ?dt65 (by assumption) ?rt65; (case at65 => (simp only [List.getElem?_toArray, List.getElem?_cons_zero, List.getElem?_cons_succ]; rfl)); (case bt65 => exact fun _ _ _ h => h); (case ct65 => kernel_rfl); (case dt65 => (intro W hW; clear hW; go_simp; (try with_reducible rfl))); (case' rt65 => simp only [Act.put, List.setIfInBounds_toArray, List.set_cons_zero, List.set_cons_succ]))
    refine held_one (i := 8) (oi := ?ot66) (by kernel_rfl) ?at66 ?ct66 (fun K8 hK8 => ?_)
    (case at66 => (simp only [List.getElem?_toArray, List.getElem?_cons_zero, List.getElem?_cons_succ]; rfl))
    (case ct66 => kernel_rfl)
    go_simp
    refine (must_no 144 HC.out.at1).mono ?_
    rintro e yy ⟨rfl, rfl⟩
    have hs : Save g yc yc := Save.refl _ _
    exact ⟨rfl, .no (map_no (dep_no (dep_on HNa.out (dep_on HNb.out (dep_on HQ1.out (dep_on HQ2.out (dep_no (fld_bad _ 0 0 _ _ _ n HM.out.1 HM.out.2 (fun h => HE.out (Nat.le_antisymm h.2 h.1)))))))))) rfl (Save.left HA.out.2.1 (HS.out.trans hs))⟩
  subst he
  have HNc := Lib.hid (fld_good 2 0 0 144 b (p2) 0 HM.out.1 HM.out.2 ⟨Nat.le_refl _, Nat.le_refl _⟩)
  have HC := Lib.hid (HC.out.drewN 1)
  have HS := Lib.hid (HS.out.drewN 1)
  refine wp_region_held_drew (S := fun Y => True) (by kernel_rfl) trivial (fun hS => ?_)
  (refine held_take (i := 0) (oi := ?ot67) (v := ?vt67) ?at67 (by kernel_rfl) (by kernel_rfl) (by kernel_rfl) ?bt67 ?ct67 ?dt67 (by assumption) ?rt67; (case at67 => (simp only [List.getElem?_toArray, List.getElem?_cons_zero]; rfl)); (case bt67 => exact fun _ _ _ h => h); (case ct67 => kernel_rfl); (case dt67 => (intro W hW; (try dsimp only at hW); go_split_ands; go_simp; (try with_reducible rfl))); (case' rt67 => simp only [Act.put, List.setIfInBounds_toArray, List.set_cons_zero, List.set_cons_succ]))
  (refine held_take (i := 1) (oi := ?ot68) (v := ?vt68) ?at68 (by kernel_rfl) (by kernel_rfl) (by kernel_rfl) ?bt68 ?ct68 ?dt68 (by assumption) ?rt68; (case at68 => (simp only [List.getElem?_toArray, List.getElem?_cons_zero, List.getElem?_cons_succ]; rfl)); (case bt68 => exact fun _ _ _ h => h); (case ct68 => kernel_rfl); (case dt68 => (intro W hW; (try dsimp only at hW); go_split_ands; go_simp; (try with_reducible rfl))); (case' rt68 => simp only [Act.put, List.setIfInBounds_toArray, List.set_cons_zero, List.set_cons_succ]))
  (refine held_take (i := 2) (oi := ?ot69) (v := ?vt69) ?at69 (by kernel_rfl) (by kernel_rfl) (by kernel_rfl) ?bt69 ?ct69 ?dt69 (by assumption) ?rt69; (case at69 => (simp only [List.getElem?_toArray, List.getElem?_cons_zero, List.getElem?_cons_succ]; rfl)); (case bt69 => exact fun _ _ _ h => h); (case ct69 => kernel_rfl); (case dt69 => (intro W hW; (try dsimp only at hW); go_split_ands; go_simp; (try with_reducible rfl))); (case' rt69 => simp only [Act.put, List.setIfInBounds_toArray, List.set_cons_zero, List.set_cons_succ]))
  (refine held_take (i := 3) (oi := ?ot70) (v := ?vt70) ?at70 (by kernel_rfl) (by kernel_rfl) (by kernel_rfl) ?bt70 ?ct70 ?dt70 (by assumption) ?rt70; (case at70 => (simp only [List.getElem?_toArray, List.getElem?_cons_zero, List.getElem?_cons_succ]; rfl)); (case bt70 => exact fun _ _ _ h => h); (case ct70 => kernel_rfl); (case dt70 => (intro W hW; (try dsimp only at hW); go_split_ands; go_simp; (try with_reducible rfl))); (case' rt70 => simp only [Act.put, List.setIfInBounds_toArray, List.set_cons_zero, List.set_cons_succ]))
  (refine held_take (i := 4) (oi := ?ot71) (v := ?vt71) ?at71 (by kernel_rfl) (by kernel_rfl) (by kernel_rfl) ?bt71 ?ct71 ?dt71 (by assumption) ?rt71; (case at71 => (simp only [List.getElem?_toArray, List.getElem?_cons_zero, List.getElem?_cons_succ]; rfl)); (case bt71 => exact fun _ _ _ h => h); (case ct71 => kernel_rfl); (case dt71 => (intro W hW; (try dsimp only at hW); go_split_ands; go_simp; (try with_reducible rfl))); (case' rt71 => simp only [Act.put, List.setIfInBounds_toArray, List.set_cons_zero, List.set_cons_succ]))
  (refine held_take (i := 5) (oi := ?ot72) (v := ?vt72) ?at72 (by kernel_rfl) (by kernel_rfl) (by kernel_rfl) ?bt72 ?ct72 ?dt72 (by assumption) ?rt72; (case at72 => (simp only [List.getElem?_toArray, List.getElem?_cons_zero, List.getElem?_cons_succ]; rfl)); (case bt72 => exact fun _ _ _ h => h); (case ct72 => kernel_rfl); (case dt72 => (intro W hW; (try dsimp only at hW); go_split_ands; go_simp; (try with_reducible rfl))); (case' rt72 => simp only [Act.put, List.setIfInBounds_toArray, List.set_cons_zero, List.set_cons_succ]))
  refine held_one (i := 6) (oi := ?ot73) (by kernel_rfl) ?at73 ?ct73 (fun K6 hK6 => ?_)
  (case at73 => (simp only [List.getElem?_toArray, List.getElem?_cons_zero, List.getElem?_cons_succ]; rfl))
  (case ct73 => kernel_rfl)
  go_simp
  refine (short_any HC.out).mono ?_
  intro e yc hh
  obtain ⟨rfl, hc, hs⟩ := hh.yes HM.out.1
  rw [← HM.out.2]
  have HS := Lib.hid (HS.out.trans hs)
  have HC := Lib.hid hc
  refine hK6 _ _ trivial (fun hS6 => ?_)
  clear hc hs hS hK6 K6
  (refine held_take (i := 7) (oi := ?ot74) (v := .bool true) ?at74 (by kernel_rfl) (by kernel_rfl) (by kernel_rfl) ?bt74 ?ct74 ?dt74 (by assumption) ?rt74; (case at74 => (simp only [List.getElem?_toArray, List.getElem?_cons_zero, List.getElem?_cons_succ]; rfl)); (case bt74 => exact fun _ _ _ h => h); (case ct74 => kernel_rfl); (case dt74 => (intro W hW; clear hW; go_simp; (try with_reducible rfl))); (case' rt74 => simp only [Act.put, List.setIfInBounds_toArray, List.set_cons_zero, List.set_cons_succ]))
  refine held_one (i := 8) (oi := ?ot75) (by kernel_rfl) ?at75 ?ct75 (fun K8 hK8 => ?_)
  (case at75 => (simp only [List.getElem?_toArray, List.getElem?_cons_zero, List.getElem?_cons_succ]; rfl))
  (case ct75 => kernel_rfl)
  go_simp
  refine (must_yes _ _ _).mono ?_
  rintro e yy ⟨rfl, rfl⟩
  refine hK8 _ _ trivial (fun hS8 => ?_)
  clear hS6 hK8 K8
  refine wpAnyH_done (by kernel_rfl) ?_ _
  clear HM
  go_wp2_with (first
    | (go_at_call 38
       refine (long_rd HC.out).mono ?_
       intro e z3 hh
       rcases hh with hh | hh
       rotate_left
       · obtain ⟨er, pl, hg, rfl, hs⟩ := hh
         exact ⟨rfl, .no (map_no (dep_no (dep_on HNa.out (dep_on HNb.out (dep_on HQ1.out (dep_on HQ2.out (dep_on HNc.out (hg)))))))) rfl (Save.left HA.out.2.1 (HS.out.trans hs))⟩
       obtain ⟨xv, p3, vv, tt, hg, rfl, hv, hc, hs⟩ := hh
       obtain rfl : vv = .int .u32 xv := hv
       have HS := Lib.hid (HS.out.trans hs)
       have HC := Lib.hid hc
       have HV := Lib.hid hg
       clear hg hc hs)
    | (go_at_call 43
       refine (list_guest HC.out n1 (by omega)).mono ?_
       intro e z4 hh
       rcases hh with hh | hh
       rotate_left
       · obtain ⟨er, pl, hg, rfl, hs⟩ := hh
         exact ⟨rfl, .no (map_no (dep_on (dep_ye HNa.out (dep_ye HNb.out (dep_ye HQ1.out (dep_ye HQ2.out (dep_ye HNc.out HV.out))))) (dep_no (hg)))) rfl (Save.left HA.out.2.1 (HS.out.trans hs))⟩
       obtain ⟨l1, p4, v4, tt, hg, rfl, hv, hc, hs⟩ := hh
       obtain ⟨B4, d4, rfl⟩ := hv.form
       have hbs : w.heap.size < z3.heap.size := by have := HS.out.size; have := HA.out.2.2; omega
       have HGS := Lib.hid (And.intro hv hbs)
       have HS := Lib.hid (HS.out.trans hs)
       have HC := Lib.hid hc
       have HL1 := Lib.hid hg
       clear hg hc hs hv hbs)
    | (go_at_call 45
       refine (list_channel HC.out n2 (by omega)).mono ?_
       intro e z5 hh
       rcases hh with hh | hh
       rotate_left
       · obtain ⟨er, pl, hg, rfl, hs⟩ := hh
         exact ⟨rfl, .no (map_no (dep_on (dep_ye HNa.out (dep_ye HNb.out (dep_ye HQ1.out (dep_ye HQ2.out (dep_ye HNc.out HV.out))))) (dep_on HL1.out (hg)))) rfl (Save.left HA.out.2.1 (HS.out.trans hs))⟩
       obtain ⟨l2, p5, v5, tt5, hg, rfl, hv, hc, hs⟩ := hh
       obtain ⟨B5, d5, rfl, -, -, -⟩ := (show OwnE _ _ _ _ _ _ _ from hv).form
       have hbs : w.heap.size < z4.heap.size := by have := HS.out.size; have := HA.out.2.2; omega
       have HCH := Lib.hid (And.intro (show OwnE _ _ _ _ _ _ _ from hv) hbs)
       have HGS := Lib.hid (And.intro (HGS.out.1.save hs (Nat.lt_trans HGW.out HGS.out.2)) HGS.out.2)
       have HS := Lib.hid (HS.out.trans hs)
       have HC := Lib.hid hc
       have HL2 := Lib.hid hg
       clear hg hc hs hv hbs)
    | ((with_reducible show wpList _ _ _ (Oper.mk _ (.build _ _) _ _ _ _ :: _) _ _); refine wl_build rfl 28 _ rfl (vec 3 (cfE xv (.slice B4 l1.length d4) (.slice B5 l2.length d5))) (by kernel_rfl) ?_)
    | ((with_reducible show wpList _ _ _ (Oper.mk _ (.store 28 _ _) _ _ _ _ :: _) _ _); refine wl_store rfl 28 _ _ rfl _ rfl _ rfl (run_store_arr (HA.out.1.save HS.out HR.out) _ infoCf (cfE_one _ _ _ rfl rfl _)) ?_))
  have hs5 : Save w.heap.size z5 (z5.setRow w.heap.size (vec 3 (cfE xv (.slice B4 l1.length d4) (.slice B5 l2.length d5)))) := (Save.refl _ _).setRow _
  have hb5 : Below w.heap.size z5 (z5.setRow w.heap.size (vec 3 (cfE xv (.slice B4 l1.length d4) (.slice B5 l2.length d5)))) := below_row (Below.refl _ _) (Nat.le_refl _) _
  refine bodyPost_ret (results_cell1 rfl _ _ _ rfl (run_load_arr ((HA.out.1.save HS.out HR.out).row _) Tryd.underlying28 rfl infoCf)) rfl ?_
  refine .ok (t := tt5) (map_ye (dep_ye (dep_ye HNa.out (dep_ye HNb.out (dep_ye HQ1.out (dep_ye HQ2.out (dep_ye HNc.out HV.out))))) (dep_ye HL1.out HL2.out))) rfl ⟨_, _, rfl, ?_, ?_⟩ (HC.out.on hb5 HGW.out) ((Save.left HA.out.2.1 HS.out).on hb5 (Nat.le_refl _))
  · exact (HGS.out.1.save hs5 HGS.out.2).low (Nat.le_of_lt HGS.out.2)
  · exact (HCH.out.1.save hs5 HCH.out.2).low (Nat.le_of_lt HCH.out.2)
set_option maxHeartbeats 1000000 in
set_option maxRecDepth 100000 in
theorem over_any {w : World} {g c at_ q : Nat} {A : Option Addr} {b : By} (h : Cur w g A c b at_ q) : Calls Tryd.prog 20 #[.pointer (some ⟨g, 0, none⟩)] w fun e w' => (e = if q = b.length then .returned (.tuple #[]) else .panicked (faultC q 145)) ∧ Save g w w' := by
  obtain ⟨V, hV⟩ : ∃ V, V = w.setCell ⟨g, 1, none⟩ (.int .i64 (q : Int)) := ⟨_, rfl⟩
  have h1 : Cur V g A c b q q := by rw [hV]; exact h.step
  have h2 : Save g w V := by rw [hV]; exact (Save.refl _ _).setCell 1 _
  have c1 := h.at1
  have c2 := h.at2
  have z1 := h.blk.free 1
  have d0 := h1.at0
  have d1 := h1.at1
  have HV := Lib.hid (And.intro h1 h2)
  have HW := Lib.hid hV
  obtain ⟨L, hL⟩ : ∃ L, L = b.length := ⟨_, rfl⟩
  rw [← hL] at d0 ⊢
  clear h h1 h2 hV hL
  by_cases he : q = L
  · rw [if_pos he]
    have hd : ((q : Int) == (L : Int)) = true := by simp [he]
    clear he
    go_enter Tryd.func20, Tryd.ntmps20
    go_upto_region 1 with fail
    rw [← HW.out]
    clear HW
    refine wp_region_held_drew (S := fun Y => Y = V.drew) (by kernel_rfl) rfl (fun hS => ?_)
    (refine held_take (i := 0) (oi := ?ot76) (v := ?vt76) ?at76 (by kernel_rfl) (by kernel_rfl) (by kernel_rfl) ?bt76 ?ct76 ?dt76 (by assumption) ?rt76; (case at76 => (simp only [List.getElem?_toArray, List.getElem?_cons_zero]; rfl)); (case bt76 => exact fun _ _ _ h => h); (case ct76 => kernel_rfl); (case dt76 => (intro W hW; subst hW; go_simp; (try with_reducible rfl))); (case' rt76 => simp only [Act.put, List.setIfInBounds_toArray, List.set_cons_zero, List.set_cons_succ]))
    (refine held_take (i := 1) (oi := ?ot77) (v := ?vt77) ?at77 (by kernel_rfl) (by kernel_rfl) (by kernel_rfl) ?bt77 ?ct77 ?dt77 (by assumption) ?rt77; (case at77 => (simp only [List.getElem?_toArray, List.getElem?_cons_zero, List.getElem?_cons_succ]; rfl)); (case bt77 => exact fun _ _ _ h => h); (case ct77 => kernel_rfl); (case dt77 => (intro W hW; subst hW; go_simp; (try with_reducible rfl))); (case' rt77 => simp only [Act.put, List.setIfInBounds_toArray, List.set_cons_zero, List.set_cons_succ]))
    (refine held_take (i := 2) (oi := ?ot78) (v := ?vt78) ?at78 (by kernel_rfl) (by kernel_rfl) (by kernel_rfl) ?bt78 ?ct78 ?dt78 (by assumption) ?rt78; (case at78 => (simp only [List.getElem?_toArray, List.getElem?_cons_zero, List.getElem?_cons_succ]; rfl)); (case bt78 => exact fun _ _ _ h => h); (case ct78 => kernel_rfl); (case dt78 => (intro W hW; subst hW; go_simp; (try with_reducible rfl))); (case' rt78 => simp only [Act.put, List.setIfInBounds_toArray, List.set_cons_zero, List.set_cons_succ]))
    (refine held_take (i := 3) (oi := ?ot79) (v := ?vt79) ?at79 (by kernel_rfl) (by kernel_rfl) (by kernel_rfl) ?bt79 ?ct79 ?dt79 (by assumption) ?rt79; (case at79 => (simp only [List.getElem?_toArray, List.getElem?_cons_zero, List.getElem?_cons_succ]; rfl)); (case bt79 => exact fun _ _ _ h => h); (case ct79 => kernel_rfl); (case dt79 => (intro W hW; subst hW; go_simp; (try with_reducible rfl))); (case' rt79 => simp only [Act.put, List.setIfInBounds_toArray, List.set_cons_zero, List.set_cons_succ]))
    (refine held_take (i := 4) (oi := ?ot80) (v := ?vt80) ?at80 (by kernel_rfl) (by kernel_rfl) (by kernel_rfl) ?bt80 ?ct80 ?dt80 (by assumption) ?rt80; (case at80 => (simp only [List.getElem?_toArray, List.getElem?_cons_zero, List.getElem?_cons_succ]; rfl)); (case bt80 => exact fun _ _ _ h => h); (case ct80 => kernel_rfl); (case dt80 => (intro W hW; subst hW; go_simp; (try with_reducible rfl))); (case' rt80 => simp only [Act.put, List.setIfInBounds_toArray, List.set_cons_zero, List.set_cons_succ]))
    (refine held_take (i := 5) (oi := ?ot81) (v := ?vt81) ?at81 (by kernel_rfl) (by kernel_rfl) (by kernel_rfl) ?bt81 ?ct81 ?dt81 (by assumption) ?rt81; (case at81 => (simp only [List.getElem?_toArray, List.getElem?_cons_zero, List.getElem?_cons_succ]; rfl)); (case bt81 => exact fun _ _ _ h => h); (case ct81 => kernel_rfl); (case dt81 => (intro W hW; subst hW; go_simp; (try with_reducible rfl))); (case' rt81 => simp only [Act.put, List.setIfInBounds_toArray, List.set_cons_zero, List.set_cons_succ]))
    (refine held_take (i := 6) (oi := ?ot82) (v := ?vt82) ?at82 (by kernel_rfl) (by kernel_rfl) (by kernel_rfl) ?bt82 ?ct82 ?dt82 (by assumption) ?rt82; (case at82 => (simp only [List.getElem?_toArray, List.getElem?_cons_zero, List.getElem?_cons_succ]; rfl)); (case bt82 => exact fun _ _ _ h => h); (case ct82 => kernel_rfl); (case dt82 => (intro W hW; subst hW; go_simp; (try with_reducible rfl))); (case' rt82 => simp only [Act.put, List.setIfInBounds_toArray, List.set_cons_zero, List.set_cons_succ]))
    (refine held_take (i := 7) (oi := ?ot83) (v := ?vt83) ?at83 (by kernel_rfl) (by kernel_rfl) (by kernel_rfl) ?bt83 ?ct83 ?dt83 (by assumption) ?rt83; (case at83 => (simp only [List.getElem?_toArray, List.getElem?_cons_zero, List.getElem?_cons_succ]; rfl)); (case bt83 => exact fun _ _ _ h => h); (case ct83 => kernel_rfl); (case dt83 => (intro W hW; subst hW; go_simp; (try with_reducible rfl))); (case' rt83 => simp only [Act.put, List.setIfInBounds_toArray, List.set_cons_zero, List.set_cons_succ]))
    (refine held_take (i := 8) (oi := ?ot84) (v := ?vt84) ?at84 (by kernel_rfl) (by kernel_rfl) (by kernel_rfl) ?bt84 ?ct84 ?dt84 (by assumption) ?rt84; (case at84 => (simp only [List.getElem?_toArray, List.getElem?_cons_zero, List.getElem?_cons_succ]; rfl)); (case bt84 => exact fun _ _ _ h => h); (case ct84 => kernel_rfl); (case dt84 => (intro W hW; subst hW; go_simp; (try with_reducible rfl))); (case' rt84 => simp only [Act.put, List.setIfInBounds_toArray, List.set_cons_zero, List.set_cons_succ]))
    (refine held_take (i := 9) (oi := ?ot85) (v := ?vt85) ?at85 (by kernel_rfl) (by kernel_rfl) (by kernel_rfl) ?bt85 ?ct85 ?dt85 (by assumption) ?rt85; (case at85 => (simp only [List.getElem?_toArray, List.getElem?_cons_zero, List.getElem?_cons_succ]; rfl)); (case bt85 => exact fun _ _ _ h => h); (case ct85 => kernel_rfl); (case dt85 => (intro W hW; subst hW; go_simp; (try with_reducible rfl))); (case' rt85 => simp only [Act.put, List.setIfInBounds_toArray, List.set_cons_zero, List.set_cons_succ]))
    (refine held_take (i := 10) (oi := ?ot86) (v := ?vt86) ?at86 (by kernel_rfl) (by kernel_rfl) (by kernel_rfl) ?bt86 ?ct86 ?dt86 (by assumption) ?rt86; (case at86 => (simp only [List.getElem?_toArray, List.getElem?_cons_zero, List.getElem?_cons_succ]; rfl)); (case bt86 => exact fun _ _ _ h => h); (case ct86 => kernel_rfl); (case dt86 => (intro W hW; subst hW; go_simp; (try with_reducible rfl))); (case' rt86 => simp only [Act.put, List.setIfInBounds_toArray, List.set_cons_zero, List.set_cons_succ]))
    refine held_one (i := 11) (oi := ?ot87) (by kernel_rfl) ?at87 ?ct87 (fun K11 hK11 => ?_)
    (case at87 => (simp only [List.getElem?_toArray, List.getElem?_cons_zero, List.getElem?_cons_succ]; rfl))
    (case ct87 => kernel_rfl)
    go_simp
    refine (must_yes _ _ _).mono ?_
    rintro e yy ⟨rfl, rfl⟩
    refine hK11 _ _ rfl (fun hS11 => ?_)
    clear hS hK11 K11
    refine wpAnyH_done (by kernel_rfl) ?_ _
    go_wp2
    go_end0
    exact ⟨rfl, HV.out.2.drewN 1⟩
  · rw [if_neg he]
    have hd : ((q : Int) == (L : Int)) = false := by simp; omega
    clear he
    go_enter Tryd.func20, Tryd.ntmps20
    go_upto_region 1 with fail
    rw [← HW.out]
    clear HW
    refine wp_region_held_drew (S := fun Y => Y = V.drew) (by kernel_rfl) rfl (fun hS => ?_)
    (refine held_take (i := 0) (oi := ?ot88) (v := ?vt88) ?at88 (by kernel_rfl) (by kernel_rfl) (by kernel_rfl) ?bt88 ?ct88 ?dt88 (by assumption) ?rt88; (case at88 => (simp only [List.getElem?_toArray, List.getElem?_cons_zero]; rfl)); (case bt88 => exact fun _ _ _ h => h); (case ct88 => kernel_rfl); (case dt88 => (intro W hW; subst hW; go_simp; (try with_reducible rfl))); (case' rt88 => simp only [Act.put, List.setIfInBounds_toArray, List.set_cons_zero, List.set_cons_succ]))
    (refine held_take (i := 1) (oi := ?ot89) (v := ?vt89) ?at89 (by kernel_rfl) (by kernel_rfl) (by kernel_rfl) ?bt89 ?ct89 ?dt89 (by assumption) ?rt89; (case at89 => (simp only [List.getElem?_toArray, List.getElem?_cons_zero, List.getElem?_cons_succ]; rfl)); (case bt89 => exact fun _ _ _ h => h); (case ct89 => kernel_rfl); (case dt89 => (intro W hW; subst hW; go_simp; (try with_reducible rfl))); (case' rt89 => simp only [Act.put, List.setIfInBounds_toArray, List.set_cons_zero, List.set_cons_succ]))
    (refine held_take (i := 2) (oi := ?ot90) (v := ?vt90) ?at90 (by kernel_rfl) (by kernel_rfl) (by kernel_rfl) ?bt90 ?ct90 ?dt90 (by assumption) ?rt90; (case at90 => (simp only [List.getElem?_toArray, List.getElem?_cons_zero, List.getElem?_cons_succ]; rfl)); (case bt90 => exact fun _ _ _ h => h); (case ct90 => kernel_rfl); (case dt90 => (intro W hW; subst hW; go_simp; (try with_reducible rfl))); (case' rt90 => simp only [Act.put, List.setIfInBounds_toArray, List.set_cons_zero, List.set_cons_succ]))
    (refine held_take (i := 3) (oi := ?ot91) (v := ?vt91) ?at91 (by kernel_rfl) (by kernel_rfl) (by kernel_rfl) ?bt91 ?ct91 ?dt91 (by assumption) ?rt91; (case at91 => (simp only [List.getElem?_toArray, List.getElem?_cons_zero, List.getElem?_cons_succ]; rfl)); (case bt91 => exact fun _ _ _ h => h); (case ct91 => kernel_rfl); (case dt91 => (intro W hW; subst hW; go_simp; (try with_reducible rfl))); (case' rt91 => simp only [Act.put, List.setIfInBounds_toArray, List.set_cons_zero, List.set_cons_succ]))
    (refine held_take (i := 4) (oi := ?ot92) (v := ?vt92) ?at92 (by kernel_rfl) (by kernel_rfl) (by kernel_rfl) ?bt92 ?ct92 ?dt92 (by assumption) ?rt92; (case at92 => (simp only [List.getElem?_toArray, List.getElem?_cons_zero, List.getElem?_cons_succ]; rfl)); (case bt92 => exact fun _ _ _ h => h); (case ct92 => kernel_rfl); (case dt92 => (intro W hW; subst hW; go_simp; (try with_reducible rfl))); (case' rt92 => simp only [Act.put, List.setIfInBounds_toArray, List.set_cons_zero, List.set_cons_succ]))
    (refine held_take (i := 5) (oi := ?ot93) (v := ?vt93) ?at93 (by kernel_rfl) (by kernel_rfl) (by kernel_rfl) ?bt93 ?ct93 ?dt93 (by assumption) ?rt93; (case at93 => (simp only [List.getElem?_toArray, List.getElem?_cons_zero, List.getElem?_cons_succ]; rfl)); (case bt93 => exact fun _ _ _ h => h); (case ct93 => kernel_rfl); (case dt93 => (intro W hW; subst hW; go_simp; (try with_reducible rfl))); (case' rt93 => simp only [Act.put, List.setIfInBounds_toArray, List.set_cons_zero, List.set_cons_succ]))
    (refine held_take (i := 6) (oi := ?ot94) (v := ?vt94) ?at94 (by kernel_rfl) (by kernel_rfl) (by kernel_rfl) ?bt94 ?ct94 ?dt94 (by assumption) ?rt94; (case at94 => (simp only [List.getElem?_toArray, List.getElem?_cons_zero, List.getElem?_cons_succ]; rfl)); (case bt94 => exact fun _ _ _ h => h); (case ct94 => kernel_rfl); (case dt94 => (intro W hW; subst hW; go_simp; (try with_reducible rfl))); (case' rt94 => simp only [Act.put, List.setIfInBounds_toArray, List.set_cons_zero, List.set_cons_succ]))
    (refine held_take (i := 7) (oi := ?ot95) (v := ?vt95) ?at95 (by kernel_rfl) (by kernel_rfl) (by kernel_rfl) ?bt95 ?ct95 ?dt95 (by assumption) ?rt95; (case at95 => (simp only [List.getElem?_toArray, List.getElem?_cons_zero, List.getElem?_cons_succ]; rfl)); (case bt95 => exact fun _ _ _ h => h); (case ct95 => kernel_rfl); (case dt95 => (intro W hW; subst hW; go_simp; (try with_reducible rfl))); (case' rt95 => simp only [Act.put, List.setIfInBounds_toArray, List.set_cons_zero, List.set_cons_succ]))
    (refine held_take (i := 8) (oi := ?ot96) (v := ?vt96) ?at96 (by kernel_rfl) (by kernel_rfl) (by kernel_rfl) ?bt96 ?ct96 ?dt96 (by assumption) ?rt96; (case at96 => (simp only [List.getElem?_toArray, List.getElem?_cons_zero, List.getElem?_cons_succ]; rfl)); (case bt96 => exact fun _ _ _ h => h); (case ct96 => kernel_rfl); (case dt96 => (intro W hW; subst hW; go_simp; (try with_reducible rfl))); (case' rt96 => simp only [Act.put, List.setIfInBounds_toArray, List.set_cons_zero, List.set_cons_succ]))
    (refine held_take (i := 9) (oi := ?ot97) (v := ?vt97) ?at97 (by kernel_rfl) (by kernel_rfl) (by kernel_rfl) ?bt97 ?ct97 ?dt97 (by assumption) ?rt97; (case at97 => (simp only [List.getElem?_toArray, List.getElem?_cons_zero, List.getElem?_cons_succ]; rfl)); (case bt97 => exact fun _ _ _ h => h); (case ct97 => kernel_rfl); (case dt97 => (intro W hW; subst hW; go_simp; (try with_reducible rfl))); (case' rt97 => simp only [Act.put, List.setIfInBounds_toArray, List.set_cons_zero, List.set_cons_succ]))
    (refine held_take (i := 10) (oi := ?ot98) (v := ?vt98) ?at98 (by kernel_rfl) (by kernel_rfl) (by kernel_rfl) ?bt98 ?ct98 ?dt98 (by assumption) ?rt98; (case at98 => (simp only [List.getElem?_toArray, List.getElem?_cons_zero, List.getElem?_cons_succ]; rfl)); (case bt98 => exact fun _ _ _ h => h); (case ct98 => kernel_rfl); (case dt98 => (intro W hW; subst hW; go_simp; (try with_reducible rfl))); (case' rt98 => simp only [Act.put, List.setIfInBounds_toArray, List.set_cons_zero, List.set_cons_succ]))
    refine held_one (i := 11) (oi := ?ot99) (by kernel_rfl) ?at99 ?ct99 (fun K11 hK11 => ?_)
    (case at99 => (simp only [List.getElem?_toArray, List.getElem?_cons_zero, List.getElem?_cons_succ]; rfl))
    (case ct99 => kernel_rfl)
    go_simp
    refine (must_no 145 (HV.out.1.drewN 1).at1).mono ?_
    rintro e yy ⟨rfl, rfl⟩
    exact ⟨rfl, rfl, HV.out.2.drewN 1⟩
end Go.Proofs.YtmcpmcicolpoeaaDoor
