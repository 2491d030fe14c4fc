/- The cursor's steps: field, over. -/
import Derived.Test.YtmcpmcicolpoeaaDoorCu
import Derived.Test.YtmcpmcicolpoeaaDoorCat
namespace Go.Proofs.YtmcpmcicolpoeaaDoor
open Go.RowKit
section
variable {w : World} {g c at_ q : Nat} {A : Option Addr} {b : By}
theorem u8s_drop (l : By) (n : Nat) : u8s (l.drop n) = (u8s l).drop n := by simp [u8s]
theorem u8s_take (l : By) (n : Nat) : u8s (l.take n) = (u8s l).take n := by simp [u8s]
/-- Some of the bytes. -/
theorem lies_cut {w : World} {B n : Nat} {a : Addr} {b : By} (h : Lies w B 1 (some a) n (u8s b)) (q m : Nat) (hm : q + m ≤ n) (hn : b.length = n) : Lies w B 1 (some (a.add q)) m (u8s ((b.drop q).take m)) := by
  refine ⟨by simp [u8s_length]; omega, fun h0 => ?_⟩
  obtain ⟨a', e, hb, hc⟩ := h.2 (by omega)
  injection e with e
  subst e
  refine ⟨_, rfl, by rw [addr_add_block]; exact hb, fun j hj => ?_⟩
  have hj2 : j < m := by simp [u8s_length] at hj; omega
  rw [addr_add_add]
  have hlt : q + j < (u8s b).length := by rw [u8s_length]; omega
  rw [hc (q + j) hlt]
  congr 1
  simp [u8s]
theorem Cur.step (h : Cur w g A c b at_ q) : Cur (w.setCell ⟨g, 1, none⟩ (.int .i64 (q : Int))) g A c b q q := by
  have hb := h.blk.setAt 1 (.int .i64 (q : Int))
  exact ⟨hb, h.lies.set (Nat.le_refl _) _, h.cap, h.len, Nat.le_refl _, h.le⟩
theorem Cur.step2 (h : Cur w g A c b q q) (m : Nat) (hm : q + m ≤ b.length) : Cur (w.setCell ⟨g, 2, none⟩ (.int .i64 ((q + m : Nat) : Int))) g A c b q (q + m) := by
  have hb := h.blk.setAt 2 (.int .i64 ((q + m : Nat) : Int))
  exact ⟨hb, h.lies.set (Nat.le_refl _) _, h.cap, h.len, Nat.le_add_right _ _, hm⟩
set_option maxHeartbeats 1000000 in
set_option maxRecDepth 100000 in
theorem field_no (h : Cur w g A c b at_ q) (m : Nat) (hm : ¬ q + m ≤ b.length) (hm2 : m ≤ 1000) :
    Calls Tryd.prog 69 #[.pointer (some ⟨g, 0, none⟩), .int .i64 (m : Int)] w fun e w' => e = .panicked (faultC q 141) ∧ Save g w w' := by
  obtain ⟨V, hV⟩ : ∃ V, V = w.setCell ⟨g, 1, none⟩ (.int .i64 (q : Int)) := ⟨_, rfl⟩
  have h1 : Cur V g A c b q q := by rw [hV]; exact h.step
  have h2 : Save g w V := by rw [hV]; exact (Save.refl _ _).setCell 1 _
  have c1 := h.at1
  have c2 := h.at2
  have z1 := h.blk.free 1
  have d0 := h1.at0
  have d1 := h1.at1
  have hl := h.len
  have hq := h.le
  obtain ⟨L, hL⟩ : ∃ L, L = b.length := ⟨_, rfl⟩
  rw [← hL] at d0 hm hl hq
  have HV := Lib.hid (And.intro h1 h2)
  have HW := Lib.hid hV
  have hlt : ¬ (m : Int) ≤ (L : Int) - (q : Int) := by omega
  have hdec : decide ((m : Int) ≤ (L : Int) - (q : Int)) = false := decide_eq_false hlt
  have hwi : IntKind.i64.wrap ((L : Int) - (q : Int)) = (L : Int) - (q : Int) := by rw [IntKind.wrap_i64]; omega
  clear hlt
  have hwr : wrap64 ((L : Int) - (q : Int)) = (L : Int) - (q : Int) := by unfold wrap64; omega
  clear h h1 h2 hV hL
  go_enter Tryd.func69, Tryd.ntmps69
  go_upto_region 2 with fail
  rw [← HW.out]
  clear HW
  refine wp_region_held_drew (S := fun Y => Y = V.drew) (by kernel_rfl) rfl (fun hS => ?_)
  (refine held_take (i := 0) (oi := ?ot1) (v := ?vt1) ?at1 (by kernel_rfl) (by kernel_rfl) (by kernel_rfl) ?bt1 ?ct1 ?dt1 (by assumption) ?rt1; (case at1 => (simp only [List.getElem?_toArray, List.getElem?_cons_zero]; rfl)); (case bt1 => exact fun _ _ _ h => h); (case ct1 => kernel_rfl); (case dt1 => (intro W hW; subst hW; go_simp; (try with_reducible rfl))); (case' rt1 => simp only [Act.put, List.setIfInBounds_toArray, List.set_cons_zero, List.set_cons_succ]))
  (refine held_take (i := 1) (oi := ?ot2) (v := ?vt2) ?at2 (by kernel_rfl) (by kernel_rfl) (by kernel_rfl) ?bt2 ?ct2 ?dt2 (by assumption) ?rt2; (case at2 => (simp only [List.getElem?_toArray, List.getElem?_cons_zero, List.getElem?_cons_succ]; rfl)); (case bt2 => exact fun _ _ _ h => h); (case ct2 => kernel_rfl); (case dt2 => (intro W hW; subst hW; go_simp; (try with_reducible rfl))); (case' rt2 => simp only [Act.put, List.setIfInBounds_toArray, List.set_cons_zero, List.set_cons_succ]))
  (refine held_take (i := 2) (oi := ?ot3) (v := ?vt3) ?at3 (by kernel_rfl) (by kernel_rfl) (by kernel_rfl) ?bt3 ?ct3 ?dt3 (by assumption) ?rt3; (case at3 => (simp only [List.getElem?_toArray, List.getElem?_cons_zero, List.getElem?_cons_succ]; rfl)); (case bt3 => exact fun _ _ _ h => h); (case ct3 => kernel_rfl); (case dt3 => (intro W hW; subst hW; go_simp; (try with_reducible rfl))); (case' rt3 => simp only [Act.put, List.setIfInBounds_toArray, List.set_cons_zero, List.set_cons_succ]))
  (refine held_take (i := 3) (oi := ?ot4) (v := ?vt4) ?at4 (by kernel_rfl) (by kernel_rfl) (by kernel_rfl) ?bt4 ?ct4 ?dt4 (by assumption) ?rt4; (case at4 => (simp only [List.getElem?_toArray, List.getElem?_cons_zero, List.getElem?_cons_succ]; rfl)); (case bt4 => exact fun _ _ _ h => h); (case ct4 => kernel_rfl); (case dt4 => (intro W hW; subst hW; go_simp; (try with_reducible rfl))); (case' rt4 => simp only [Act.put, List.setIfInBounds_toArray, List.set_cons_zero, List.set_cons_succ]))
  (refine held_take (i := 4) (oi := ?ot5) (v := ?vt5) ?at5 (by kernel_rfl) (by kernel_rfl) (by kernel_rfl) ?bt5 ?ct5 ?dt5 (by assumption) ?rt5; (case at5 => (simp only [List.getElem?_toArray, List.getElem?_cons_zero, List.getElem?_cons_succ]; rfl)); (case bt5 => exact fun _ _ _ h => h); (case ct5 => kernel_rfl); (case dt5 => (intro W hW; subst hW; go_simp; (try with_reducible rfl))); (case' rt5 => simp only [Act.put, List.setIfInBounds_toArray, List.set_cons_zero, List.set_cons_succ]))
  (refine held_take (i := 5) (oi := ?ot6) (v := ?vt6) ?at6 (by kernel_rfl) (by kernel_rfl) (by kernel_rfl) ?bt6 ?ct6 ?dt6 (by assumption) ?rt6; (case at6 => (simp only [List.getElem?_toArray, List.getElem?_cons_zero, List.getElem?_cons_succ]; rfl)); (case bt6 => exact fun _ _ _ h => h); (case ct6 => kernel_rfl); (case dt6 => (intro W hW; subst hW; go_simp; (try with_reducible rfl))); (case' rt6 => simp only [Act.put, List.setIfInBounds_toArray, List.set_cons_zero, List.set_cons_succ]))
  (refine held_take (i := 6) (oi := ?ot7) (v := ?vt7) ?at7 (by kernel_rfl) (by kernel_rfl) (by kernel_rfl) ?bt7 ?ct7 ?dt7 (by assumption) ?rt7; (case at7 => (simp only [List.getElem?_toArray, List.getElem?_cons_zero, List.getElem?_cons_succ]; rfl)); (case bt7 => exact fun _ _ _ h => h); (case ct7 => kernel_rfl); (case dt7 => (intro W hW; subst hW; go_simp; (try with_reducible rfl))); (case' rt7 => simp only [Act.put, List.setIfInBounds_toArray, List.set_cons_zero, List.set_cons_succ]))
  (refine held_take (i := 7) (oi := ?ot8) (v := ?vt8) ?at8 (by kernel_rfl) (by kernel_rfl) (by kernel_rfl) ?bt8 ?ct8 ?dt8 (by assumption) ?rt8; (case at8 => (simp only [List.getElem?_toArray, List.getElem?_cons_zero, List.getElem?_cons_succ]; rfl)); (case bt8 => exact fun _ _ _ h => h); (case ct8 => kernel_rfl); (case dt8 => (intro W hW; subst hW; go_simp; (try with_reducible rfl))); (case' rt8 => simp only [Act.put, List.setIfInBounds_toArray, List.set_cons_zero, List.set_cons_succ]))
  (refine held_take (i := 8) (oi := ?ot9) (v := ?vt9) ?at9 (by kernel_rfl) (by kernel_rfl) (by kernel_rfl) ?bt9 ?ct9 ?dt9 (by assumption) ?rt9; (case at9 => (simp only [List.getElem?_toArray, List.getElem?_cons_zero, List.getElem?_cons_succ]; rfl)); (case bt9 => exact fun _ _ _ h => h); (case ct9 => kernel_rfl); (case dt9 => (intro W hW; subst hW; go_simp; (try with_reducible rfl))); (case' rt9 => simp only [Act.put, List.setIfInBounds_toArray, List.set_cons_zero, List.set_cons_succ]))
  (refine held_take (i := 9) (oi := ?ot10) (v := ?vt10) ?at10 (by kernel_rfl) (by kernel_rfl) (by kernel_rfl) ?bt10 ?ct10 ?dt10 (by assumption) ?rt10; (case at10 => (simp only [List.getElem?_toArray, List.getElem?_cons_zero, List.getElem?_cons_succ]; rfl)); (case bt10 => exact fun _ _ _ h => h); (case ct10 => kernel_rfl); (case dt10 => (intro W hW; subst hW; go_simp; (try with_reducible rfl))); (case' rt10 => simp only [Act.put, List.setIfInBounds_toArray, List.set_cons_zero, List.set_cons_succ]))
  (refine held_take (i := 10) (oi := ?ot11) (v := ?vt11) ?at11 (by kernel_rfl) (by kernel_rfl) (by kernel_rfl) ?bt11 ?ct11 ?dt11 (by assumption) ?rt11; (case at11 => (simp only [List.getElem?_toArray, List.getElem?_cons_zero, List.getElem?_cons_succ]; rfl)); (case bt11 => exact fun _ _ _ h => h); (case ct11 => kernel_rfl); (case dt11 => (intro W hW; subst hW; go_simp; (try with_reducible rfl))); (case' rt11 => simp only [Act.put, List.setIfInBounds_toArray, List.set_cons_zero, List.set_cons_succ]))
  (refine held_take (i := 11) (oi := ?ot12) (v := ?vt12) ?at12 (by kernel_rfl) (by kernel_rfl) (by kernel_rfl) ?bt12 ?ct12 ?dt12 (by assumption) ?rt12; (case at12 => (simp only [List.getElem?_toArray, List.getElem?_cons_zero, List.getElem?_cons_succ]; rfl)); (case bt12 => exact fun _ _ _ h => h); (case ct12 => kernel_rfl); (case dt12 => (intro W hW; subst hW; go_simp; (try with_reducible rfl))); (case' rt12 => simp only [Act.put, List.setIfInBounds_toArray, List.set_cons_zero, List.set_cons_succ]))
  (refine held_take (i := 12) (oi := ?ot13) (v := ?vt13) ?at13 (by kernel_rfl) (by kernel_rfl) (by kernel_rfl) ?bt13 ?ct13 ?dt13 (by assumption) ?rt13; (case at13 => (simp only [List.getElem?_toArray, List.getElem?_cons_zero, List.getElem?_cons_succ]; rfl)); (case bt13 => exact fun _ _ _ h => h); (case ct13 => kernel_rfl); (case dt13 => (intro W hW; subst hW; go_simp; (try with_reducible rfl))); (case' rt13 => simp only [Act.put, List.setIfInBounds_toArray, List.set_cons_zero, List.set_cons_succ]))
  refine held_one (i := 13) (oi := ?ot14) (by kernel_rfl) ?at14 ?ct14 (fun K13 hK13 => ?_)
  (case at14 => (simp only [List.getElem?_toArray, List.getElem?_cons_zero, List.getElem?_cons_succ]; rfl))
  (case ct14 => kernel_rfl)
  go_simp
  refine (must_no (at_ := q) 141 (HV.out.1.drewN 1).at1).mono ?_
  rintro e yy ⟨rfl, rfl⟩
  exact ⟨rfl, rfl, HV.out.2.drewN 1⟩
set_option maxHeartbeats 1000000 in
set_option maxRecDepth 100000 in
theorem field_yes (h : Cur w g A c b at_ q) (m : Nat) (hm : q + m ≤ b.length) (hm0 : 0 < m) (hm2 : m ≤ 1000) :
    Calls Tryd.prog 69 #[.pointer (some ⟨g, 0, none⟩), .int .i64 (m : Int)] w fun e w' => ∃ A' c', e = .returned (.slice A' m c') ∧ m ≤ c' ∧ Lies w' g 1 A' m (u8s ((b.drop q).take m)) ∧ Cur w' g A c b q (q + m) ∧ Save g w w' := by
  obtain ⟨V, hV⟩ : ∃ V, V = w.setCell ⟨g, 1, none⟩ (.int .i64 (q : Int)) := ⟨_, rfl⟩
  have h1 : Cur V g A c b q q := by rw [hV]; exact h.step
  have h2 : Save g w V := by rw [hV]; exact (Save.refl _ _).setCell 1 _
  obtain ⟨a, rfl, -, -⟩ := h.lies.2 (by omega)
  have c1 := h.at1
  have c2 := h.at2
  have z1 := h.blk.free 1
  have d0 := h1.at0
  have d1 := h1.at1
  have z2 := h1.blk.free 2
  have hl := h.len
  have hq := h.le
  have hcap := h.cap
  obtain ⟨L, hL⟩ : ∃ L, L = b.length := ⟨_, rfl⟩
  have HC := Lib.hid (lies_cut h1.lies q m hm rfl)
  have HM := Lib.hid hm
  have HL := Lib.hid hL
  rw [← hL] at d0 hm hl hq hcap
  have HV := Lib.hid (And.intro h1 h2)
  have HW := Lib.hid hV
  have hlt : (m : Int) ≤ (L : Int) - (q : Int) := by omega
  have hwr : wrap64 ((L : Int) - (q : Int)) = (L : Int) - (q : Int) := by unfold wrap64; omega
  have hwm : wrap64 ((q : Int) + (m : Int)) = ((q + m : Nat) : Int) := by unfold wrap64; omega
  have hn1 : ((q + m : Nat) : Int).toNat - (q : Int).toNat = m := by omega
  clear h h1 h2 hV hL
  go_enter Tryd.func69, Tryd.ntmps69
  go_upto_region 2 with fail
  rw [← HW.out]
  clear HW c1 c2 z1
  go_quiet ((go_at_call 37; exact quiet_eq (must_yes _ _ _)))
  have d2 : (V.drewN nq).cell? ⟨g, 2, none⟩ = some (.int .i64 (q : Int)) := HV.out.1.at2
  go_upto_region 4 with fail
  obtain ⟨X, hX⟩ : ∃ X, X = (V.drewN nq).setCell ⟨g, 2, none⟩ (.int .i64 (((q + m : Nat)) : Int)) := ⟨_, rfl⟩
  have k1 : Cur X g (some a) c b q (q + m) := by rw [hX]; exact (HV.out.1.drewN nq).step2 m HM.out
  have k2 : Save g w X := by rw [hX]; exact (HV.out.2.drewN nq).setCell 2 _
  have k3 : Lies X g 1 (some (a.add q)) m (u8s ((b.drop q).take m)) := lies_cut k1.lies q m HM.out rfl
  rw [show (((q + m : Nat)) : Int) = (q : Int) + (m : Int) by simp] at hX
  rw [← hX]
  have e0 := k1.at0
  have e1 := k1.at1
  have e2 := k1.at2
  rw [← HL.out] at e0
  have HK := Lib.hid (And.intro k1 (And.intro k2 k3))
  clear hX k1 k2 k3 d0 d1 d2 z2 HV HM HC HL
  have i1 : (q : Int) ≤ ((q + m : Nat) : Int) := by omega
  have i2 : ((q + m : Nat) : Int) ≤ (c : Int) := by omega
  have i3 : q + m - q = m := by omega
  go_quiet (fail)
  go_wp2
  go_ret
  exact ⟨some (a.add q), c - q, (by show Ending.returned (Value.slice (some (a.add q)) (q + m - q) (c - q)) = _; rw [i3]), by omega, HK.out.2.2.drewN _, HK.out.1.drewN _, HK.out.2.1.drewN _⟩
end
end Go.Proofs.YtmcpmcicolpoeaaDoor
