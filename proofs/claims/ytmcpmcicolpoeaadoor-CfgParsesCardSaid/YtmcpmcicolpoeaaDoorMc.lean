/- Merged: Cu, Cv, Cn1, Kd, Nm, Na, Tr, Gl, Pr, Ky, Ec. -/
import Derived.WalkLawsBesides
import Derived.Laws.BitsAllLaws
import Derived.Test.YtmcpmcicolpoeaaDoorMa
import Derived.Test.YtmcpmcicolpoeaaDoorMb
import Derived.Test.YtmcpmcicolpoeaaDoorMn
/- The cursor: a place in bytes; what gives a parse up. -/
namespace Go.Proofs.YtmcpmcicolpoeaaDoor
open Go.RowKit

theorem Blk.setAt {w : World} {g : Nat} {t : TypeId} {cs : Array Value} (h : Blk w g t cs) (i : Nat) (u : Value) : Blk (w.setCell ⟨g, i, none⟩ u) g t (cs.setIfInBounds i u) := by
  unfold Blk at h ⊢
  simp [World.setCell, Array.getElem?_modify, h]
theorem Blk.free {w : World} {g : Nat} {t : TypeId} {cs : Array Value} (h : Blk w g t cs) (i : Nat) : w.frozen? ⟨g, i, none⟩ = false := by
  unfold Blk at h; simp [World.frozen?, h]
/-- What a parse is given up with. -/
def faultV (at_ e : Nat) : Value := .iface 45 (.agg #[.int .i64 (at_ : Int), .int .i64 (e : Int)])
def faultC (at_ e : Nat) : List PanicEntry := [{ v := faultV at_ e, recovered := false }]
/-- Block g holds a parser that goes through the bytes b: the field that was read last stands from at_ up to q. -/
structure Cur (w : World) (g : Nat) (A : Option Addr) (c : Nat) (b : By) (at_ q : Nat) : Prop where
  blk : Blk w g 50 #[.slice A b.length c, .int .i64 (at_ : Int), .int .i64 (q : Int)]
  lies : Lies w g 1 A b.length (u8s b)
  cap : b.length ≤ c
  len : b.length ≤ 65536
  ge : at_ ≤ q
  le : q ≤ b.length
section
variable {w w' : World} {g c at_ q : Nat} {A : Option Addr} {b : By}
theorem Cur.at0 (h : Cur w g A c b at_ q) : w.cell? ⟨g, 0, none⟩ = some (.slice A b.length c) := h.blk.cellAt 0 rfl
theorem Cur.at1 (h : Cur w g A c b at_ q) : w.cell? ⟨g, 1, none⟩ = some (.int .i64 (at_ : Int)) := h.blk.cellAt 1 rfl
theorem Cur.at2 (h : Cur w g A c b at_ q) : w.cell? ⟨g, 2, none⟩ = some (.int .i64 (q : Int)) := h.blk.cellAt 2 rfl
theorem Cur.lt (h : Cur w g A c b at_ q) : g < w.heap.size := h.blk.lt
theorem Cur.under (h : Cur w g A c b at_ q) (hb : Below w.heap.size w w') : Cur w' g A c b at_ q := ⟨h.blk.under hb, h.lies.below (hb.mono (Nat.le_of_lt h.lt)), h.cap, h.len, h.ge, h.le⟩
theorem Cur.drewN (h : Cur w g A c b at_ q) (k : Nat) : Cur (w.drewN k) g A c b at_ q := ⟨h.blk.drewN k, h.lies.drewN k, h.cap, h.len, h.ge, h.le⟩
end
section
variable {w : World} {g at_ : Nat}
set_option maxRecDepth 100000 in
theorem must_yes (e : Int) (w : World) (p : Option Addr) : Calls Tryd.prog 37 #[.pointer p, .bool true, .int .i64 e] w fun r w' => r = .returned (.tuple #[]) ∧ w = w' := by
  go_enter Tryd.func37, Tryd.ntmps37
  go_wp2
  go_end0
  exact ⟨rfl, rfl⟩
set_option maxRecDepth 100000 in
theorem must_no (e : Nat) (h1 : w.cell? ⟨g, 1, none⟩ = some (.int .i64 (at_ : Int))) : Calls Tryd.prog 37 #[.pointer (some ⟨g, 0, none⟩), .bool false, .int .i64 (e : Int)] w fun r w' => r = .panicked (faultC at_ e) ∧ w = w' := by
  unfold faultC faultV
  go_enter Tryd.func37, Tryd.ntmps37
  go_wp2
  trace_state
  exact ⟨rfl, rfl, rfl⟩
end
end Go.Proofs.YtmcpmcicolpoeaaDoor
/- The cursor's steps: field, over. -/
namespace Go.Proofs.YtmcpmcicolpoeaaDoor
open Go.RowKit
section
variable {w : World} {g c at_ q : Nat} {A : Option Addr} {b : By}
theorem u8s_drop (l : By) (n : Nat) : u8s (l.drop n) = (u8s l).drop n := by simp [u8s]
theorem u8s_take (l : By) (n : Nat) : u8s (l.take n) = (u8s l).take n := by simp [u8s]
/-- Some of the bytes. -/
theorem lies_cut {w : World} {B n : Nat} {a : Addr} {b : By} (h : Lies w B 1 (some a) n (u8s b)) (q m : Nat) (hm : q + m ≤ n) (hn : b.length = n) : Lies w B 1 (some (a.add q)) m (u8s ((b.drop q).take m)) := by
  refine ⟨by simp [u8s_length]; omega, fun h0 => ?_⟩
  obtain ⟨a', e, hb, hc⟩ := h.2 (by omega)
  injection e with e
  subst e
  refine ⟨_, rfl, by rw [addr_add_block]; exact hb, fun j hj => ?_⟩
  have hj2 : j < m := by simp [u8s_length] at hj; omega
  rw [addr_add_add]
  have hlt : q + j < (u8s b).length := by rw [u8s_length]; omega
  rw [hc (q + j) hlt]
  congr 1
  simp [u8s]
theorem Cur.step (h : Cur w g A c b at_ q) : Cur (w.setCell ⟨g, 1, none⟩ (.int .i64 (q : Int))) g A c b q q := by
  have hb := h.blk.setAt 1 (.int .i64 (q : Int))
  exact ⟨hb, h.lies.set (Nat.le_refl _) _, h.cap, h.len, Nat.le_refl _, h.le⟩
theorem Cur.step2 (h : Cur w g A c b q q) (m : Nat) (hm : q + m ≤ b.length) : Cur (w.setCell ⟨g, 2, none⟩ (.int .i64 ((q + m : Nat) : Int))) g A c b q (q + m) := by
  have hb := h.blk.setAt 2 (.int .i64 ((q + m : Nat) : Int))
  exact ⟨hb, h.lies.set (Nat.le_refl _) _, h.cap, h.len, Nat.le_add_right _ _, hm⟩
set_option maxHeartbeats 1000000 in
set_option maxRecDepth 100000 in
theorem field_no (h : Cur w g A c b at_ q) (m : Nat) (hm : ¬ q + m ≤ b.length) (hm2 : m ≤ 1000) :
    Calls Tryd.prog 69 #[.pointer (some ⟨g, 0, none⟩), .int .i64 (m : Int)] w fun e w' => e = .panicked (faultC q 141) ∧ Save g w w' := by
  obtain ⟨V, hV⟩ : ∃ V, V = w.setCell ⟨g, 1, none⟩ (.int .i64 (q : Int)) := ⟨_, rfl⟩
  have h1 : Cur V g A c b q q := by rw [hV]; exact h.step
  have h2 : Save g w V := by rw [hV]; exact (Save.refl _ _).setCell 1 _
  have c1 := h.at1
  have c2 := h.at2
  have z1 := h.blk.free 1
  have d0 := h1.at0
  have d1 := h1.at1
  have hl := h.len
  have hq := h.le
  obtain ⟨L, hL⟩ : ∃ L, L = b.length := ⟨_, rfl⟩
  rw [← hL] at d0 hm hl hq
  have HV := Lib.hid (And.intro h1 h2)
  have HW := Lib.hid hV
  have hlt : ¬ (m : Int) ≤ (L : Int) - (q : Int) := by omega
  have hdec : decide ((m : Int) ≤ (L : Int) - (q : Int)) = false := decide_eq_false hlt
  have hwi : IntKind.i64.wrap ((L : Int) - (q : Int)) = (L : Int) - (q : Int) := by rw [IntKind.wrap_i64]; omega
  clear hlt
  have hwr : wrap64 ((L : Int) - (q : Int)) = (L : Int) - (q : Int) := by unfold wrap64; omega
  clear h h1 h2 hV hL
  go_enter Tryd.func69, Tryd.ntmps69
  go_upto_region 2 with fail
  rw [← HW.out]
  clear HW
  refine wp_region_held_drew (S := fun Y => Y = V.drew) (by kernel_rfl) rfl (fun hS => ?_)
  (refine held_take (i := 0) (oi := ?ot1) (v := ?vt1) ?at1 (by kernel_rfl) (by kernel_rfl) (by kernel_rfl) ?bt1 ?ct1 ?dt1 (by assumption) ?rt1; (case at1 => (simp only [List.getElem?_toArray, List.getElem?_cons_zero]; rfl)); (case bt1 => exact fun _ _ _ h => h); (case ct1 => kernel_rfl); (case dt1 => (intro W hW; subst hW; go_simp; (try with_reducible rfl))); (case' rt1 => simp only [Act.put, List.setIfInBounds_toArray, List.set_cons_zero, List.set_cons_succ]))
  (refine held_take (i := 1) (oi := ?ot2) (v := ?vt2) ?at2 (by kernel_rfl) (by kernel_rfl) (by kernel_rfl) ?bt2 ?ct2 ?dt2 (by assumption) ?rt2; (case at2 => (simp only [List.getElem?_toArray, List.getElem?_cons_zero, List.getElem?_cons_succ]; rfl)); (case bt2 => exact fun _ _ _ h => h); (case ct2 => kernel_rfl); (case dt2 => (intro W hW; subst hW; go_simp; (try with_reducible rfl))); (case' rt2 => simp only [Act.put, List.setIfInBounds_toArray, List.set_cons_zero, List.set_cons_succ]))
  (refine held_take (i := 2) (oi := ?ot3) (v := ?vt3) ?at3 (by kernel_rfl) (by kernel_rfl) (by kernel_rfl) ?bt3 ?ct3 ?dt3 (by assumption) ?rt3; (case at3 => (simp only [List.getElem?_toArray, List.getElem?_cons_zero, List.getElem?_cons_succ]; rfl)); (case bt3 => exact fun _ _ _ h => h); (case ct3 => kernel_rfl); (case dt3 => (intro W hW; subst hW; go_simp; (try with_reducible rfl))); (case' rt3 => simp only [Act.put, List.setIfInBounds_toArray, List.set_cons_zero, List.set_cons_succ]))
  (refine held_take (i := 3) (oi := ?ot4) (v := ?vt4) ?at4 (by kernel_rfl) (by kernel_rfl) (by kernel_rfl) ?bt4 ?ct4 ?dt4 (by assumption) ?rt4; (case at4 => (simp only [List.getElem?_toArray, List.getElem?_cons_zero, List.getElem?_cons_succ]; rfl)); (case bt4 => exact fun _ _ _ h => h); (case ct4 => kernel_rfl); (case dt4 => (intro W hW; subst hW; go_simp; (try with_reducible rfl))); (case' rt4 => simp only [Act.put, List.setIfInBounds_toArray, List.set_cons_zero, List.set_cons_succ]))
  (refine held_take (i := 4) (oi := ?ot5) (v := ?vt5) ?at5 (by kernel_rfl) (by kernel_rfl) (by kernel_rfl) ?bt5 ?ct5 ?dt5 (by assumption) ?rt5; (case at5 => (simp only [List.getElem?_toArray, List.getElem?_cons_zero, List.getElem?_cons_succ]; rfl)); (case bt5 => exact fun _ _ _ h => h); (case ct5 => kernel_rfl); (case dt5 => (intro W hW; subst hW; go_simp; (try with_reducible rfl))); (case' rt5 => simp only [Act.put, List.setIfInBounds_toArray, List.set_cons_zero, List.set_cons_succ]))
  (refine held_take (i := 5) (oi := ?ot6) (v := ?vt6) ?at6 (by kernel_rfl) (by kernel_rfl) (by kernel_rfl) ?bt6 ?ct6 ?dt6 (by assumption) ?rt6; (case at6 => (simp only [List.getElem?_toArray, List.getElem?_cons_zero, List.getElem?_cons_succ]; rfl)); (case bt6 => exact fun _ _ _ h => h); (case ct6 => kernel_rfl); (case dt6 => (intro W hW; subst hW; go_simp; (try with_reducible rfl))); (case' rt6 => simp only [Act.put, List.setIfInBounds_toArray, List.set_cons_zero, List.set_cons_succ]))
  (refine held_take (i := 6) (oi := ?ot7) (v := ?vt7) ?at7 (by kernel_rfl) (by kernel_rfl) (by kernel_rfl) ?bt7 ?ct7 ?dt7 (by assumption) ?rt7; (case at7 => (simp only [List.getElem?_toArray, List.getElem?_cons_zero, List.getElem?_cons_succ]; rfl)); (case bt7 => exact fun _ _ _ h => h); (case ct7 => kernel_rfl); (case dt7 => (intro W hW; subst hW; go_simp; (try with_reducible rfl))); (case' rt7 => simp only [Act.put, List.setIfInBounds_toArray, List.set_cons_zero, List.set_cons_succ]))
  (refine held_take (i := 7) (oi := ?ot8) (v := ?vt8) ?at8 (by kernel_rfl) (by kernel_rfl) (by kernel_rfl) ?bt8 ?ct8 ?dt8 (by assumption) ?rt8; (case at8 => (simp only [List.getElem?_toArray, List.getElem?_cons_zero, List.getElem?_cons_succ]; rfl)); (case bt8 => exact fun _ _ _ h => h); (case ct8 => kernel_rfl); (case dt8 => (intro W hW; subst hW; go_simp; (try with_reducible rfl))); (case' rt8 => simp only [Act.put, List.setIfInBounds_toArray, List.set_cons_zero, List.set_cons_succ]))
  (refine held_take (i := 8) (oi := ?ot9) (v := ?vt9) ?at9 (by kernel_rfl) (by kernel_rfl) (by kernel_rfl) ?bt9 ?ct9 ?dt9 (by assumption) ?rt9; (case at9 => (simp only [List.getElem?_toArray, List.getElem?_cons_zero, List.getElem?_cons_succ]; rfl)); (case bt9 => exact fun _ _ _ h => h); (case ct9 => kernel_rfl); (case dt9 => (intro W hW; subst hW; go_simp; (try with_reducible rfl))); (case' rt9 => simp only [Act.put, List.setIfInBounds_toArray, List.set_cons_zero, List.set_cons_succ]))
  (refine held_take (i := 9) (oi := ?ot10) (v := ?vt10) ?at10 (by kernel_rfl) (by kernel_rfl) (by kernel_rfl) ?bt10 ?ct10 ?dt10 (by assumption) ?rt10; (case at10 => (simp only [List.getElem?_toArray, List.getElem?_cons_zero, List.getElem?_cons_succ]; rfl)); (case bt10 => exact fun _ _ _ h => h); (case ct10 => kernel_rfl); (case dt10 => (intro W hW; subst hW; go_simp; (try with_reducible rfl))); (case' rt10 => simp only [Act.put, List.setIfInBounds_toArray, List.set_cons_zero, List.set_cons_succ]))
  (refine held_take (i := 10) (oi := ?ot11) (v := ?vt11) ?at11 (by kernel_rfl) (by kernel_rfl) (by kernel_rfl) ?bt11 ?ct11 ?dt11 (by assumption) ?rt11; (case at11 => (simp only [List.getElem?_toArray, List.getElem?_cons_zero, List.getElem?_cons_succ]; rfl)); (case bt11 => exact fun _ _ _ h => h); (case ct11 => kernel_rfl); (case dt11 => (intro W hW; subst hW; go_simp; (try with_reducible rfl))); (case' rt11 => simp only [Act.put, List.setIfInBounds_toArray, List.set_cons_zero, List.set_cons_succ]))
  (refine held_take (i := 11) (oi := ?ot12) (v := ?vt12) ?at12 (by kernel_rfl) (by kernel_rfl) (by kernel_rfl) ?bt12 ?ct12 ?dt12 (by assumption) ?rt12; (case at12 => (simp only [List.getElem?_toArray, List.getElem?_cons_zero, List.getElem?_cons_succ]; rfl)); (case bt12 => exact fun _ _ _ h => h); (case ct12 => kernel_rfl); (case dt12 => (intro W hW; subst hW; go_simp; (try with_reducible rfl))); (case' rt12 => simp only [Act.put, List.setIfInBounds_toArray, List.set_cons_zero, List.set_cons_succ]))
  (refine held_take (i := 12) (oi := ?ot13) (v := ?vt13) ?at13 (by kernel_rfl) (by kernel_rfl) (by kernel_rfl) ?bt13 ?ct13 ?dt13 (by assumption) ?rt13; (case at13 => (simp only [List.getElem?_toArray, List.getElem?_cons_zero, List.getElem?_cons_succ]; rfl)); (case bt13 => exact fun _ _ _ h => h); (case ct13 => kernel_rfl); (case dt13 => (intro W hW; subst hW; go_simp; (try with_reducible rfl))); (case' rt13 => simp only [Act.put, List.setIfInBounds_toArray, List.set_cons_zero, List.set_cons_succ]))
  refine held_one (i := 13) (oi := ?ot14) (by kernel_rfl) ?at14 ?ct14 (fun K13 hK13 => ?_)
  (case at14 => (simp only [List.getElem?_toArray, List.getElem?_cons_zero, List.getElem?_cons_succ]; rfl))
  (case ct14 => kernel_rfl)
  go_simp
  refine (must_no (at_ := q) 141 (HV.out.1.drewN 1).at1).mono ?_
  rintro e yy ⟨rfl, rfl⟩
  exact ⟨rfl, rfl, HV.out.2.drewN 1⟩
set_option maxHeartbeats 1000000 in
set_option maxRecDepth 100000 in
theorem field_yes (h : Cur w g A c b at_ q) (m : Nat) (hm : q + m ≤ b.length) (hm0 : 0 < m) (hm2 : m ≤ 1000) :
    Calls Tryd.prog 69 #[.pointer (some ⟨g, 0, none⟩), .int .i64 (m : Int)] w fun e w' => ∃ A' c', e = .returned (.slice A' m c') ∧ m ≤ c' ∧ Lies w' g 1 A' m (u8s ((b.drop q).take m)) ∧ Cur w' g A c b q (q + m) ∧ Save g w w' := by
  obtain ⟨V, hV⟩ : ∃ V, V = w.setCell ⟨g, 1, none⟩ (.int .i64 (q : Int)) := ⟨_, rfl⟩
  have h1 : Cur V g A c b q q := by rw [hV]; exact h.step
  have h2 : Save g w V := by rw [hV]; exact (Save.refl _ _).setCell 1 _
  obtain ⟨a, rfl, -, -⟩ := h.lies.2 (by omega)
  have c1 := h.at1
  have c2 := h.at2
  have z1 := h.blk.free 1
  have d0 := h1.at0
  have d1 := h1.at1
  have z2 := h1.blk.free 2
  have hl := h.len
  have hq := h.le
  have hcap := h.cap
  obtain ⟨L, hL⟩ : ∃ L, L = b.length := ⟨_, rfl⟩
  have HC := Lib.hid (lies_cut h1.lies q m hm rfl)
  have HM := Lib.hid hm
  have HL := Lib.hid hL
  rw [← hL] at d0 hm hl hq hcap
  have HV := Lib.hid (And.intro h1 h2)
  have HW := Lib.hid hV
  have hlt : (m : Int) ≤ (L : Int) - (q : Int) := by omega
  have hwr : wrap64 ((L : Int) - (q : Int)) = (L : Int) - (q : Int) := by unfold wrap64; omega
  have hwm : wrap64 ((q : Int) + (m : Int)) = ((q + m : Nat) : Int) := by unfold wrap64; omega
  have hn1 : ((q + m : Nat) : Int).toNat - (q : Int).toNat = m := by omega
  clear h h1 h2 hV hL
  go_enter Tryd.func69, Tryd.ntmps69
  go_upto_region 2 with fail
  rw [← HW.out]
  clear HW c1 c2 z1
  go_quiet ((go_at_call 37; exact quiet_eq (must_yes _ _ _)))
  have d2 : (V.drewN nq).cell? ⟨g, 2, none⟩ = some (.int .i64 (q : Int)) := HV.out.1.at2
  go_upto_region 4 with fail
  obtain ⟨X, hX⟩ : ∃ X, X = (V.drewN nq).setCell ⟨g, 2, none⟩ (.int .i64 (((q + m : Nat)) : Int)) := ⟨_, rfl⟩
  have k1 : Cur X g (some a) c b q (q + m) := by rw [hX]; exact (HV.out.1.drewN nq).step2 m HM.out
  have k2 : Save g w X := by rw [hX]; exact (HV.out.2.drewN nq).setCell 2 _
  have k3 : Lies X g 1 (some (a.add q)) m (u8s ((b.drop q).take m)) := lies_cut k1.lies q m HM.out rfl
  rw [show (((q + m : Nat)) : Int) = (q : Int) + (m : Int) by simp] at hX
  rw [← hX]
  have e0 := k1.at0
  have e1 := k1.at1
  have e2 := k1.at2
  rw [← HL.out] at e0
  have HK := Lib.hid (And.intro k1 (And.intro k2 k3))
  clear hX k1 k2 k3 d0 d1 d2 z2 HV HM HC HL
  have i1 : (q : Int) ≤ ((q + m : Nat) : Int) := by omega
  have i2 : ((q + m : Nat) : Int) ≤ (c : Int) := by omega
  have i3 : q + m - q = m := by omega
  go_quiet (fail)
  go_wp2
  go_ret
  exact ⟨some (a.add q), c - q, (by show Ending.returned (Value.slice (some (a.add q)) (q + m - q) (c - q)) = _; rw [i3]), by omega, HK.out.2.2.drewN _, HK.out.1.drewN _, HK.out.2.1.drewN _⟩
end
end Go.Proofs.YtmcpmcicolpoeaaDoor
/- Numbers that the cursor reads: long, wide, short. -/
namespace Go.Proofs.YtmcpmcicolpoeaaDoor
open Go.RowKit
/-- The number of m bytes from place q on. -/
def numAt (b : By) (q m : Nat) : Nat := val ((b.drop q).take m)
theorem numAt_lt (b : By) (q m : Nat) : numAt b q m < 256 ^ m := by
  have h := val_lt ((b.drop q).take m)
  have h2 : ((b.drop q).take m).length ≤ m := by simp; omega
  exact Nat.lt_of_lt_of_le h (Nat.pow_le_pow_right (by decide) h2)
theorem val_fold (l : By) (b : Nat → UInt8) (h : ∀ i (hi : i < l.length), b i = l[i]) : val l = accB b l.length := by
  have e : l = (List.range l.length).map b := List.ext_getElem (by simp) fun i h1 h2 => by simp [h i h1]
  have : ∀ k, val ((List.range k).map b) = accB b k := by
    intro k
    induction k with
    | zero => rfl
    | succ k ih =>
      rw [List.range_succ, List.map_append, List.map_cons, List.map_nil, val_snoc, ih]; rfl
  rw [← this, ← e]
theorem numOf_val (l : By) (m : Nat) (h : l.length = m) : numOf l 0 m false = val l := by
  unfold numOf
  rw [if_pos (by omega), if_neg (by decide), ← h]
  refine (val_fold l _ fun i hi => ?_).symm
  unfold bAt
  simp [hi]
theorem numHas_m (m : Nat) : numHas m 0 m = true := by simp [numHas]
/-- A number was read, or the bytes ended ahead of it. -/
def NumP (b : By) (q m : Nat) (k : IntKind) (g : Nat) (A : Option Addr) (c : Nat) (w : World) (e : Ending) (w' : World) : Prop :=
  (q + m ≤ b.length ∧ e = .returned (.int k (numAt b q m : Nat)) ∧ Cur w' g A c b q (q + m) ∧ Save g w w') ∨ (¬ q + m ≤ b.length ∧ e = .panicked (faultC q 141) ∧ Save g w w')
section
variable {w : World} {g c at_ q : Nat} {A : Option Addr} {b : By}
theorem cut_len (b : By) (q m : Nat) (h : q + m ≤ b.length) : ((b.drop q).take m).length = m := by simp; omega
theorem Save.drew_of {g : Nat} {w w1 w2 : World} (h : Save g w w1) (k : ∃ n, w2 = w1.drewN n) : Save g w w2 := by obtain ⟨n, rfl⟩ := k; exact h.drewN n
theorem Cur.drew_of {w1 w2 : World} (h : Cur w1 g A c b at_ q) (k : ∃ n, w2 = w1.drewN n) : Cur w2 g A c b at_ q := by obtain ⟨n, rfl⟩ := k; exact h.drewN n
set_option maxHeartbeats 1000000 in
set_option maxRecDepth 100000 in
theorem long_any (h : Cur w g A c b at_ q) : Calls Tryd.prog 38 #[.pointer (some ⟨g, 0, none⟩)] w (NumP b q 4 .u32 g A c w) := by
  by_cases hm : q + 4 ≤ b.length
  · have HF := Lib.hid (field_yes h 4 hm (by decide) (by decide))
    have HB : Hid (∀ A' c' W, Lies W g 1 A' 4 (u8s ((b.drop q).take 4)) → Calls Tryd.prog 68 #[.slice A' 4 c', .int .i64 0] W fun e w' => e = .returned (.tuple #[.int .u32 (numAt b q 4 : Nat), .bool true]) ∧ ∃ n, w' = W.drewN n) := Lib.hid fun A' c' W hl => by
      have hn := cut_len b q 4 hm
      obtain ⟨l, hl0⟩ : ∃ l, l = (b.drop q).take 4 := ⟨_, rfl⟩
      unfold numAt
      rw [← hl0] at hn hl ⊢
      have := be32_any l A' c' g 0 W (by rw [hn]; decide) (by rw [hn]; exact hl)
      rw [hn, numOf_val l 4 hn, numHas_m] at this
      exact this
    have HM := Lib.hid hm
    clear h hm
    go_enter Tryd.func38, Tryd.ntmps38
    go_wp2_with (first
      | (go_at_call 69; refine HF.out.mono ?_; rintro e w1 ⟨A', c', rfl, hc', hl, hk, hs⟩; have H1 := Lib.hid (And.intro hl (And.intro hk hs)); clear hl hk hs)
      | (go_at_call 68; refine (HB.out _ _ _ H1.out.1).mono ?_; rintro e w2 ⟨rfl, hw⟩; have H2 := Lib.hid hw; clear hw))
    go_ret
    exact .inl ⟨HM.out, rfl, H1.out.2.1.drew_of H2.out, H1.out.2.2.drew_of H2.out⟩
  · have HF := Lib.hid (field_no h 4 hm (by decide))
    have HM := Lib.hid hm
    clear h hm
    go_enter Tryd.func38, Tryd.ntmps38
    go_wp2_with (go_at_call 69; refine HF.out.mono ?_; rintro e w1 ⟨rfl, hs⟩)
    exact ⟨rfl, .inr ⟨HM.out, rfl, hs⟩⟩
set_option maxHeartbeats 1000000 in
set_option maxRecDepth 100000 in
theorem wide_any (h : Cur w g A c b at_ q) : Calls Tryd.prog 72 #[.pointer (some ⟨g, 0, none⟩)] w (NumP b q 8 .u64 g A c w) := by
  by_cases hm : q + 8 ≤ b.length
  · have HF := Lib.hid (field_yes h 8 hm (by decide) (by decide))
    have HB : Hid (∀ A' c' W, Lies W g 1 A' 8 (u8s ((b.drop q).take 8)) → Calls Tryd.prog 109 #[.slice A' 8 c', .int .i64 0] W fun e w' => e = .returned (.tuple #[.int .u64 (numAt b q 8 : Nat), .bool true]) ∧ ∃ n, w' = W.drewN n) := Lib.hid fun A' c' W hl => by
      have hn := cut_len b q 8 hm
      obtain ⟨l, hl0⟩ : ∃ l, l = (b.drop q).take 8 := ⟨_, rfl⟩
      unfold numAt
      rw [← hl0] at hn hl ⊢
      have := be64_any l A' c' g 0 W (by rw [hn]; decide) (by rw [hn]; exact hl)
      rw [hn, numOf_val l 8 hn, numHas_m] at this
      exact this
    have HM := Lib.hid hm
    clear h hm
    go_enter Tryd.func72, Tryd.ntmps72
    go_wp2_with (first
      | (go_at_call 69; refine HF.out.mono ?_; rintro e w1 ⟨A', c', rfl, hc', hl, hk, hs⟩; have H1 := Lib.hid (And.intro hl (And.intro hk hs)); clear hl hk hs)
      | (go_at_call 109; refine (HB.out _ _ _ H1.out.1).mono ?_; rintro e w2 ⟨rfl, hw⟩; have H2 := Lib.hid hw; clear hw))
    go_ret
    exact .inl ⟨HM.out, rfl, H1.out.2.1.drew_of H2.out, H1.out.2.2.drew_of H2.out⟩
  · have HF := Lib.hid (field_no h 8 hm (by decide))
    have HM := Lib.hid hm
    clear h hm
    go_enter Tryd.func72, Tryd.ntmps72
    go_wp2_with (go_at_call 69; refine HF.out.mono ?_; rintro e w1 ⟨rfl, hs⟩)
    exact ⟨rfl, .inr ⟨HM.out, rfl, hs⟩⟩
theorem i64_or_nat (a b : Nat) (ha : a < 65536) (hb : b < 65536) : bits .or .i64 (a : Int) (b : Int) = ((a ||| b : Nat) : Int) := by
  have hx : a ||| b < 2 ^ 16 := Nat.or_lt_two_pow (by omega) (by omega)
  show IntKind.i64.wrap ((BitVec.ofInt 64 (a : Int) ||| BitVec.ofInt 64 (b : Int)).toNat : Int) = _
  rw [BitVec.toNat_or, ofInt_u64 a (by omega), ofInt_u64 b (by omega), IntKind.wrap_i64]
  omega
theorem shl_or (x y : UInt8) : bits .or .i64 ((x.toNat : Int) * 256) (y.toNat : Int) = ((x.toNat * 256 + y.toNat : Nat) : Int) := by
  have h1 := x.toNat_lt
  have h2 := y.toNat_lt
  have := i64_or_nat (x.toNat * 256) y.toNat (by omega) (by omega)
  rw [show ((x.toNat * 256 : Nat) : Int) = (x.toNat : Int) * 256 by simp] at this
  rw [this]
  congr 1
  rw [Nat.mul_comm, ← Nat.two_pow_add_eq_or_of_lt (i := 8) (by omega)]
theorem num2 (l : By) (h : l.length = 2) : val l = (l[0]'(by omega)).toNat * 256 + (l[1]'(by omega)).toNat := by
  match l, h with
  | [x, y], _ => simp [val]
set_option maxHeartbeats 1000000 in
set_option maxRecDepth 100000 in
theorem short_any (h : Cur w g A c b at_ q) : Calls Tryd.prog 39 #[.pointer (some ⟨g, 0, none⟩)] w (NumP b q 2 .i64 g A c w) := by
  by_cases hm : q + 2 ≤ b.length
  · have HF := Lib.hid (field_yes h 2 hm (by decide) (by decide))
    have HM := Lib.hid hm
    have hn := cut_len b q 2 hm
    unfold NumP numAt
    obtain ⟨l, hl0⟩ : ∃ l, l = (b.drop q).take 2 := ⟨_, rfl⟩
    rw [← hl0] at hn HF ⊢
    have hv := num2 l hn
    rw [hv]
    have hs := shl_or l[0] l[1]
    have b0 := u8_lt l[0]
    have b1 := u8_lt l[1]
    have HN := Lib.hid hn
    obtain ⟨x, hx⟩ : ∃ x, x = l[0] := ⟨_, rfl⟩
    obtain ⟨y, hy⟩ : ∃ y, y = l[1] := ⟨_, rfl⟩
    rw [← hx] at hs b0 ⊢
    rw [← hy] at hs b1 ⊢
    have HX := Lib.hid (And.intro hx hy)
    clear h hm hv hl0 hx hy
    go_enter Tryd.func39, Tryd.ntmps39
    go_upto_region 2 with (go_at_call 69; refine HF.out.mono ?_; rintro e w1 ⟨A', c', rfl, hc', hl, hk, hs⟩; have H1 := Lib.hid (And.intro hl (And.intro hk hs)); clear hl hk hs)
    obtain ⟨a, rfl, -, hc⟩ := H1.out.1.2 (by decide)
    have c0 := hc 0 (by rw [u8s_length, HN.out]; decide)
    have c1 := hc 1 (by rw [u8s_length, HN.out]; decide)
    have c0 : w1.cell? a = some (.int .u8 (x.toNat : Int)) := by rw [HX.out.1]; simpa [u8s, Addr.add] using c0
    have c1 : w1.cell? ⟨a.block, a.off + 1, none⟩ = some (.int .u8 (y.toNat : Int)) := by rw [HX.out.2]; simpa [u8s, Addr.add] using c1
    clear hc
    go_quiet (fail)
    go_wp2
    go_ret
    exact .inl ⟨HM.out, rfl, H1.out.2.1.drewN _, H1.out.2.2.drewN _⟩
  · have HF := Lib.hid (field_no h 2 hm (by decide))
    have HM := Lib.hid hm
    clear h hm
    go_enter Tryd.func39, Tryd.ntmps39
    go_upto_region 2 with (go_at_call 69; refine HF.out.mono ?_; rintro e w1 ⟨rfl, hs⟩; exact ⟨rfl, .inr ⟨HM.out, rfl, hs⟩⟩)
end
end Go.Proofs.YtmcpmcicolpoeaaDoor
/- Kinds of keys; Height, of the code and of the reference; a key's bytes. -/
namespace Go.Proofs.YtmcpmcicolpoeaaDoor
open Go.RowKit

/-- The height that a kind has; 0 for none. -/
def hgtO (oid : Nat) : Nat := if oid = 1 then 10 else if oid = 2 then 16 else if oid = 3 then 20 else 0
def isO (oid : Nat) : Bool := decide (1 ≤ oid ∧ oid ≤ 3)
theorem isO_off {oid : Nat} (h : isO oid = false) : oid ≠ 1 ∧ oid ≠ 2 ∧ oid ≠ 3 := by
  unfold isO at h
  have h := of_decide_eq_false h
  omega
theorem hgtO_off {oid : Nat} (h : isO oid = false) : hgtO oid = 0 := by
  obtain ⟨h1, h2, h3⟩ := isO_off h
  simp [hgtO, h1, h2, h3]
set_option maxRecDepth 100000 in
theorem height_any (oid : Nat) (_hoid : oid < 4294967296) (w : World) :
    Calls Tryd.prog 111 #[.int .u32 (oid : Int)] w fun e w' => e = .returned (.tuple #[.int .i64 ((hgtO oid : Nat) : Int), .bool (isO oid)]) ∧ w = w' := by
  by_cases h1 : oid = 1
  · subst h1
    go_enter Tryd.func111, Tryd.ntmps111
    go_wp2
    go_ret2
    exact ⟨rfl, rfl⟩
  by_cases h2 : oid = 2
  · subst h2
    go_enter Tryd.func111, Tryd.ntmps111
    go_wp2
    go_ret2
    exact ⟨rfl, rfl⟩
  by_cases h3 : oid = 3
  · subst h3
    go_enter Tryd.func111, Tryd.ntmps111
    go_wp2
    go_ret2
    exact ⟨rfl, rfl⟩
  have e1 : ((oid : Int) == 1) = false := by simp; omega
  have e2 : ((oid : Int) == 2) = false := by simp; omega
  have e3 : ((oid : Int) == 3) = false := by simp; omega
  have e0 : isO oid = false := by unfold isO; exact decide_eq_false (by omega)
  rw [hgtO_off e0, e0]
  go_enter Tryd.func111, Tryd.ntmps111
  go_wp2
  go_ret2
  exact ⟨rfl, rfl⟩
set_option maxRecDepth 100000 in
theorem rheight_any (oid : Nat) (_hoid : oid < 4294967296) (w : World) :
    Calls Tryd.prog 86 #[.int .u32 (oid : Int)] w fun e w' => e = .returned (.tuple #[.int .i64 ((hgtO oid : Nat) : Int), .bool (isO oid)]) ∧ w = w' := by
  by_cases h1 : oid = 1
  · subst h1
    go_enter Tryd.func86, Tryd.ntmps86
    go_wp2
    go_ret2
    exact ⟨rfl, rfl⟩
  by_cases h2 : oid = 2
  · subst h2
    go_enter Tryd.func86, Tryd.ntmps86
    go_wp2
    go_ret2
    exact ⟨rfl, rfl⟩
  by_cases h3 : oid = 3
  · subst h3
    go_enter Tryd.func86, Tryd.ntmps86
    go_wp2
    go_ret2
    exact ⟨rfl, rfl⟩
  have e1 : ((oid : Int) == 1) = false := by simp; omega
  have e2 : ((oid : Int) == 2) = false := by simp; omega
  have e3 : ((oid : Int) == 3) = false := by simp; omega
  have e0 : isO oid = false := by unfold isO; exact decide_eq_false (by omega)
  rw [hgtO_off e0, e0]
  go_enter Tryd.func86, Tryd.ntmps86
  go_wp2
  go_ret2
  exact ⟨rfl, rfl⟩
/-- Whether 68 bytes are a key; its cells. -/
def kOk (k : By) : Bool := isO (val (k.take 4))
def kF (k : By) : Nat → UInt8 := fun i => k.getD i 0
def zb : Nat → UInt8 := fun _ => 0
theorem info_key : (Tryd.prog.info? 58).map (·.size) = some 68 := by kernel_rfl
theorem zeroKeyB (w : World) : (zeroValue 58).run Tryd.prog w = .ok (.agg (vec 68 (bys zb))) w :=
  (zero_of_info (P := Tryd.prog) (t := 58) (v := .agg (vec 68 (bys zb))) (n := 68) (by kernel_rfl)).1 w
theorem key_lies {w : World} {g : Nat} {t : TypeId} {k : By} (h : Arr w g t 68 (bys (kF k))) (hk : k.length = 68) : Lies w w.heap.size 1 (some ⟨g, 0, none⟩) 68 (u8s k) := by
  have hl := h.lies h.lt 0 68 (by decide)
  have e : ((List.range 68).map fun i => bys (kF k) (0 + i)) = u8s k := by
    refine List.ext_getElem (by simp [u8s, hk]) fun i h1 h2 => ?_
    have hi : i < k.length := by simp at h1; omega
    simp [bys, kF, u8s, hi]
  rw [e] at hl
  exact hl
theorem accB_congr (a b : Nat → UInt8) : ∀ k, (∀ i, i < k → a i = b i) → accB a k = accB b k
  | 0, _ => rfl
  | k + 1, h => by rw [accB, accB, accB_congr a b k (fun i hi => h i (by omega)), h k (by omega)]
theorem numHas_m68 : numHas 68 0 4 = true := by decide
theorem numOf_key (k : By) (hk : k.length = 68) : numOf k 0 4 false = val (k.take 4) := by
  have h4 : (k.take 4).length = 4 := by simp; omega
  rw [← numOf_val (k.take 4) 4 h4]
  unfold numOf
  rw [if_pos (by omega), if_neg (by decide), if_pos (by omega), if_neg (by decide)]
  refine accB_congr _ _ 4 fun i hi => ?_
  unfold bAt
  rw [show (0 : Int).toNat + i = i by simp, List.getD_eq_getElem?_getD, List.getD_eq_getElem?_getD, List.getElem?_take, if_pos hi]
set_option maxRecDepth 100000 in
set_option maxHeartbeats 1000000 in
theorem keyed_any (k : By) (hk : k.length = 68) (w : World) : Calls Tryd.prog 87 #[.agg (vec 68 (bys (kF k)))] w fun e w' => e = .returned (.bool (kOk k)) ∧ Below w.heap.size w w' := by
  obtain ⟨V, hV⟩ : ∃ V, V = w.alloc (.cells (vec 68 (bys (kF k))) 58) := ⟨_, rfl⟩
  have h0 : Arr V w.heap.size 58 68 (bys (kF k)) := by rw [hV]; exact Arr.new w _ _ _
  have hB : Below w.heap.size w V := by rw [hV]; exact (Below.refl _ _).alloc (Nat.le_refl _) _
  have hb := be32_any k (some ⟨w.heap.size, 0, none⟩) 68 V.heap.size 0 V (by rw [hk]; decide) (by rw [hk]; exact key_lies h0 hk)
  rw [hk, numOf_key k hk, numHas_m68] at hb
  obtain ⟨n, hn⟩ : ∃ n, n = val (k.take 4) := ⟨_, rfl⟩
  have hn4 : n < 4294967296 := by
    have := val_lt (k.take 4)
    rw [← hn] at this
    refine Nat.lt_of_lt_of_le this ?_
    have : (k.take 4).length = 4 := by simp; omega
    rw [this]; decide
  have hko : kOk k = isO n := by rw [hn]; rfl
  rw [hko]
  rw [← hn] at hb
  have HK := Lib.hid hb
  have HH := Lib.hid (height_any n hn4)
  have HW := Lib.hid hV
  have HB := Lib.hid hB
  obtain ⟨ht, hht⟩ : ∃ ht, ht = hgtO n := ⟨_, rfl⟩
  obtain ⟨is, his⟩ : ∃ is, is = isO n := ⟨_, rfl⟩
  rw [← hht, ← his] at HH
  rw [← his]
  clear hV h0 hB hb hn hko hht his hk
  go_enter Tryd.func87, Tryd.ntmps87
  go_upto_region 1 with fail
  rw [← HW.out]
  clear HW
  go_wp2_with (first
    | (go_at_call 68; refine HK.out.mono ?_; rintro e w1 ⟨rfl, hw⟩; have H1 := Lib.hid hw; clear hw)
    | (go_at_call 111; refine (HH.out _).mono ?_; rintro e w2 ⟨rfl, rfl⟩))
  go_ret
  obtain ⟨j, rfl⟩ := H1.out
  exact ⟨rfl, below_drewN HB.out j⟩
end Go.Proofs.YtmcpmcicolpoeaaDoor
/- Bounds; signs; names: of the code and of the reference. -/
namespace Go.Proofs.YtmcpmcicolpoeaaDoor
open Go.RowKit

def inB (n lo hi : Int) : Bool := decide (lo ≤ n ∧ n ≤ hi)
set_option maxRecDepth 100000 in
theorem among_any (n lo hi : Int) (w : World) : Calls Tryd.prog 33 #[.int .i64 n, .int .i64 lo, .int .i64 hi] w fun e w' => e = .returned (.bool (inB n lo hi)) ∧ w = w' := by
  unfold inB
  by_cases h1 : lo ≤ n
  · by_cases h2 : n ≤ hi
    · rw [decide_eq_true (show lo ≤ n ∧ n ≤ hi from ⟨h1, h2⟩)]
      have d1 := decide_eq_true h1
      have d2 := decide_eq_true h2
      clear h1 h2
      go_enter Tryd.func33, Tryd.ntmps33
      go_wp2
      go_ret
      exact ⟨rfl, rfl⟩
    · rw [decide_eq_false (show ¬ (lo ≤ n ∧ n ≤ hi) from fun h => h2 h.2)]
      have d1 := decide_eq_true h1
      have d2 := decide_eq_false h2
      clear h1 h2
      go_enter Tryd.func33, Tryd.ntmps33
      go_wp2
      go_ret
      exact ⟨rfl, rfl⟩
  · rw [decide_eq_false (show ¬ (lo ≤ n ∧ n ≤ hi) from fun h => h1 h.1)]
    have d1 := decide_eq_false h1
    clear h1
    go_enter Tryd.func33, Tryd.ntmps33
    go_wp2
    go_ret
    exact ⟨rfl, rfl⟩
set_option maxRecDepth 100000 in
theorem guestsFit_any (n : Int) (w : World) : Calls Tryd.prog 41 #[.int .i64 n] w fun e w' => e = .returned (.bool (inB n 1 16)) ∧ w = w' := by
  have HA := Lib.hid (among_any n 1 16)
  obtain ⟨r, hr⟩ : ∃ r, r = inB n 1 16 := ⟨_, rfl⟩
  rw [← hr] at HA ⊢
  clear hr
  go_enter Tryd.func41, Tryd.ntmps41
  go_wp2_with (go_at_call 33; refine (HA.out _).mono ?_; rintro e w1 ⟨rfl, rfl⟩)
  go_ret
  exact ⟨rfl, rfl⟩
set_option maxRecDepth 100000 in
theorem channelsFit_any (n : Int) (w : World) : Calls Tryd.prog 42 #[.int .i64 n] w fun e w' => e = .returned (.bool (inB n 0 32)) ∧ w = w' := by
  have HA := Lib.hid (among_any n 0 32)
  obtain ⟨r, hr⟩ : ∃ r, r = inB n 0 32 := ⟨_, rfl⟩
  rw [← hr] at HA ⊢
  clear hr
  go_enter Tryd.func42, Tryd.ntmps42
  go_wp2_with (go_at_call 33; refine (HA.out _).mono ?_; rintro e w1 ⟨rfl, rfl⟩)
  go_ret
  exact ⟨rfl, rfl⟩
set_option maxRecDepth 100000 in
theorem windowsFit_any (n : Int) (w : World) : Calls Tryd.prog 74 #[.int .i64 n] w fun e w' => e = .returned (.bool (inB n 1 16)) ∧ w = w' := by
  have HA := Lib.hid (among_any n 1 16)
  obtain ⟨r, hr⟩ : ∃ r, r = inB n 1 16 := ⟨_, rfl⟩
  rw [← hr] at HA ⊢
  clear hr
  go_enter Tryd.func74, Tryd.ntmps74
  go_wp2_with (go_at_call 33; refine (HA.out _).mono ?_; rintro e w1 ⟨rfl, rfl⟩)
  go_ret
  exact ⟨rfl, rfl⟩
set_option maxRecDepth 100000 in
theorem devicesFit_any (n : Int) (w : World) : Calls Tryd.prog 75 #[.int .i64 n] w fun e w' => e = .returned (.bool (inB n 0 16)) ∧ w = w' := by
  have HA := Lib.hid (among_any n 0 16)
  obtain ⟨r, hr⟩ : ∃ r, r = inB n 0 16 := ⟨_, rfl⟩
  rw [← hr] at HA ⊢
  clear hr
  go_enter Tryd.func75, Tryd.ntmps75
  go_wp2_with (go_at_call 33; refine (HA.out _).mono ?_; rintro e w1 ⟨rfl, rfl⟩)
  go_ret
  exact ⟨rfl, rfl⟩
set_option maxRecDepth 100000 in
theorem irqsFit_any (n : Int) (w : World) : Calls Tryd.prog 76 #[.int .i64 n] w fun e w' => e = .returned (.bool (inB n 0 64)) ∧ w = w' := by
  have HA := Lib.hid (among_any n 0 64)
  obtain ⟨r, hr⟩ : ∃ r, r = inB n 0 64 := ⟨_, rfl⟩
  rw [← hr] at HA ⊢
  clear hr
  go_enter Tryd.func76, Tryd.ntmps76
  go_wp2_with (go_at_call 33; refine (HA.out _).mono ?_; rintro e w1 ⟨rfl, rfl⟩)
  go_ret
  exact ⟨rfl, rfl⟩
set_option maxRecDepth 100000 in
theorem streamsFit_any (n : Int) (w : World) : Calls Tryd.prog 77 #[.int .i64 n] w fun e w' => e = .returned (.bool (inB n 0 32)) ∧ w = w' := by
  have HA := Lib.hid (among_any n 0 32)
  obtain ⟨r, hr⟩ : ∃ r, r = inB n 0 32 := ⟨_, rfl⟩
  rw [← hr] at HA ⊢
  clear hr
  go_enter Tryd.func77, Tryd.ntmps77
  go_wp2_with (go_at_call 33; refine (HA.out _).mono ?_; rintro e w1 ⟨rfl, rfl⟩)
  go_ret
  exact ⟨rfl, rfl⟩
set_option maxRecDepth 100000 in
theorem permFits_any (n : Int) (w : World) : Calls Tryd.prog 113 #[.int .i64 n] w fun e w' => e = .returned (.bool (inB n 0 7)) ∧ w = w' := by
  have HA := Lib.hid (among_any n 0 7)
  obtain ⟨r, hr⟩ : ∃ r, r = inB n 0 7 := ⟨_, rfl⟩
  rw [← hr] at HA ⊢
  clear hr
  go_enter Tryd.func113, Tryd.ntmps113
  go_wp2_with (go_at_call 33; refine (HA.out _).mono ?_; rintro e w1 ⟨rfl, rfl⟩)
  go_ret
  exact ⟨rfl, rfl⟩
set_option maxRecDepth 100000 in
theorem shortFits_any (n : Int) (w : World) : Calls Tryd.prog 115 #[.int .i64 n] w fun e w' => e = .returned (.bool (inB n 0 65535)) ∧ w = w' := by
  have HA := Lib.hid (among_any n 0 65535)
  obtain ⟨r, hr⟩ : ∃ r, r = inB n 0 65535 := ⟨_, rfl⟩
  rw [← hr] at HA ⊢
  clear hr
  go_enter Tryd.func115, Tryd.ntmps115
  go_wp2_with (go_at_call 33; refine (HA.out _).mono ?_; rintro e w1 ⟨rfl, rfl⟩)
  go_ret
  exact ⟨rfl, rfl⟩
theorem sign_of (n : Nat) (h : n < 256) : sign (UInt8.ofNat n) = (decide (97 ≤ n) && decide (n ≤ 122) || decide (48 ≤ n) && decide (n ≤ 57) || decide (n = 45)) := by
  revert n; decide +kernel
theorem sign_eq (c : UInt8) : sign c = (decide (97 ≤ c.toNat) && decide (c.toNat ≤ 122) || decide (48 ≤ c.toNat) && decide (c.toNat ≤ 57) || decide (c.toNat = 45)) := by
  have := sign_of c.toNat c.toNat_lt
  rwa [UInt8.ofNat_toNat] at this
/-- Which of the intervals a sign lies in. -/
theorem sign_cases (c : UInt8) : (97 ≤ c.toNat ∧ c.toNat ≤ 122 ∧ sign c = true) ∨ (48 ≤ c.toNat ∧ c.toNat ≤ 57 ∧ sign c = true) ∨ (c.toNat = 45 ∧ sign c = true) ∨ (122 < c.toNat ∧ sign c = false) ∨ (57 < c.toNat ∧ c.toNat < 97 ∧ sign c = false) ∨ (c.toNat < 48 ∧ c.toNat ≠ 45 ∧ sign c = false) := by
  have h := sign_eq c
  have := c.toNat_lt
  by_cases h1 : 97 ≤ c.toNat
  · by_cases h2 : c.toNat ≤ 122
    · exact .inl ⟨h1, h2, by rw [h]; simp [h1, h2]⟩
    · refine .inr (.inr (.inr (.inl ⟨by omega, ?_⟩)))
      rw [h]; simp; omega
  · by_cases h3 : 48 ≤ c.toNat
    · by_cases h4 : c.toNat ≤ 57
      · exact .inr (.inl ⟨h3, h4, by rw [h]; simp [h3, h4]⟩)
      · refine .inr (.inr (.inr (.inr (.inl ⟨by omega, by omega, ?_⟩))))
        rw [h]; simp; omega
    · by_cases h5 : c.toNat = 45
      · exact .inr (.inr (.inl ⟨h5, by rw [h]; simp [h5]⟩))
      · refine .inr (.inr (.inr (.inr (.inr ⟨by omega, h5, ?_⟩))))
        rw [h]; simp; omega
set_option maxRecDepth 100000 in
theorem sign_any (c : UInt8) (w : World) : Calls Tryd.prog 32 #[.int .u8 (c.toNat : Int)] w fun e w' => e = .returned (.bool (sign c)) ∧ w = w' := by
  obtain ⟨n, hn⟩ : ∃ n, n = c.toNat := ⟨_, rfl⟩
  have hc := sign_cases c
  rw [← hn] at hc ⊢
  clear hn
  rcases hc with ⟨h1, h2, h⟩ | ⟨h1, h2, h⟩ | ⟨h1, h⟩ | ⟨h1, h⟩ | ⟨h1, h2, h⟩ | ⟨h1, h2, h⟩
  all_goals
    rw [h]
    clear h
    try subst h1
  · have d1 : decide ((97 : Int) ≤ n) = true := by simp; omega
    have d2 : decide ((n : Int) ≤ 122) = true := by simp; omega
    clear h1 h2
    go_enter Tryd.func32, Tryd.ntmps32
    go_wp2
    go_ret
    exact ⟨rfl, rfl⟩
  · have d1 : decide ((97 : Int) ≤ n) = false := by simp; omega
    have d2 : decide ((48 : Int) ≤ n) = true := by simp; omega
    have d3 : decide ((n : Int) ≤ 57) = true := by simp; omega
    clear h1 h2
    go_enter Tryd.func32, Tryd.ntmps32
    go_wp2
    go_ret
    exact ⟨rfl, rfl⟩
  · go_enter Tryd.func32, Tryd.ntmps32
    go_wp2
    go_ret
    exact ⟨rfl, rfl⟩
  · have d1 : decide ((97 : Int) ≤ n) = true := by simp; omega
    have d2 : decide ((n : Int) ≤ 122) = false := by simp; omega
    have d3 : decide ((48 : Int) ≤ n) = true := by simp; omega
    have d4 : decide ((n : Int) ≤ 57) = false := by simp; omega
    have d5 : ((n : Int) == 45) = false := by simp; omega
    clear h1
    go_enter Tryd.func32, Tryd.ntmps32
    go_wp2
    go_ret
    exact ⟨rfl, rfl⟩
  · have d1 : decide ((97 : Int) ≤ n) = false := by simp; omega
    have d3 : decide ((48 : Int) ≤ n) = true := by simp; omega
    have d4 : decide ((n : Int) ≤ 57) = false := by simp; omega
    have d5 : ((n : Int) == 45) = false := by simp; omega
    clear h1 h2
    go_enter Tryd.func32, Tryd.ntmps32
    go_wp2
    go_ret
    exact ⟨rfl, rfl⟩
  · have d1 : decide ((97 : Int) ≤ n) = false := by simp; omega
    have d3 : decide ((48 : Int) ≤ n) = false := by simp; omega
    have d5 : ((n : Int) == 45) = false := by simp; omega
    clear h1 h2
    go_enter Tryd.func32, Tryd.ntmps32
    go_wp2
    go_ret
    exact ⟨rfl, rfl⟩
end Go.Proofs.YtmcpmcicolpoeaaDoor
/- Names: of the code and of the reference. -/
namespace Go.Proofs.YtmcpmcicolpoeaaDoor
open Go.RowKit

theorem strOf_size (s : By) : (strOf s).size = s.length := by simp [strOf, ByteArray.size]
theorem all_take_succ (s : By) (k : Nat) (hk : k < s.length) : (s.take (k + 1)).all sign = ((s.take k).all sign && sign s[k]) := by
  rw [List.take_succ_eq_append_getElem hk, List.all_append]; simp
theorem all_take_no (s : By) (k : Nat) (h : (s.take k).all sign = false) : nameOk s = false := by
  unfold nameOk
  have : s.all sign = false := by
    rw [← List.take_append_drop k s, List.all_append, h]; rfl
  rw [this]; rfl
theorem nameOk_all (s : By) (h : s.all sign = true) : nameOk s = inB (s.length : Int) 1 16 := by
  unfold nameOk inB
  rw [h, Bool.true_and, ← Bool.decide_and]
  congr 1
  simp only [eq_iff_iff]
  omega
set_option maxRecDepth 100000 in
set_option maxHeartbeats 1000000 in
theorem name_any (s : By) (hl : s.length ≤ 1000000) (w : World) : Calls Tryd.prog 14 #[.string (strOf s)] w fun e w' => e = .returned (.bool (nameOk s)) ∧ w = w' := by
  obtain ⟨S, hS⟩ : ∃ S, S = strOf s := ⟨_, rfl⟩
  rw [← hS]
  have hsz : S.size = s.length := by rw [hS, strOf_size]
  have HS := Lib.hid hS
  have HZ := Lib.hid hsz
  clear hS
  go_enter Tryd.func14, Tryd.ntmps14
  go_wp2
  go_loopw [3, 6] (fun _ j W => ∃ k : Nat, k ≤ s.length ∧ j = .int .i64 k ∧ Hid ((s.take k).all sign = true) ∧ w = W) (fun _ i _ => s.length - (intOf i).toNat)
  case atStart => exact ⟨0, Nat.zero_le _, rfl, Lib.hid (by simp), rfl⟩
  case round =>
    obtain ⟨k, hk, rfl, HA, rfl⟩ := hrel
    by_cases hlt : k < s.length
    · have hkI : (k : Int) < (s.length : Int) := by omega
      have hkS : k < S.size := by omega
      have hc : S[k] = s[k] := by
        have h0 := HS.out
        subst h0
        rfl
      have HG := Lib.hid (sign_any (S[k]'hkS))
      have hall := all_take_succ s k hlt
      rw [HA.out, Bool.true_and] at hall
      rw [hc] at HG
      rw [← hc] at HG
      obtain ⟨r, hr⟩ : ∃ r, r = sign (S[k]'hkS) := ⟨_, rfl⟩
      rw [← hc, ← hr] at hall
      rw [← hr] at HG
      clear hr hc
      cases r
      · have HNO := Lib.hid (all_take_no s (k + 1) hall)
        clear hall
        go_wp2_with (go_at_call 32; refine (HG.out _).mono ?_; rintro e w1 ⟨rfl, rfl⟩)
        go_ret
        exact ⟨by rw [HNO.out]; rfl, rfl⟩
      · have HYE := Lib.hid hall
        clear hall
        go_wp2_with (go_at_call 32; refine (HG.out _).mono ?_; rintro e w1 ⟨rfl, rfl⟩)
        go_roundw
        case rel => exact ⟨k + 1, by omega, by go_num, HYE, trivial⟩
        case measure => simp [intOf]; omega
    · obtain rfl : k = s.length := by omega
      have hall := HA.out
      rw [List.take_length] at hall
      have HN := Lib.hid (nameOk_all s hall)
      have HAM := Lib.hid (among_any (s.length : Int) 1 16)
      obtain ⟨r, hr⟩ : ∃ r, r = nameOk s := ⟨_, rfl⟩
      rw [← hr] at HN
      rw [← HN.out] at HAM
      have HR := Lib.hid hr
      clear hall hr hlt HN
      go_wp2_with (go_at_call 33; refine (HAM.out _).mono ?_; rintro e w1 ⟨rfl, rfl⟩)
      go_ret
      exact ⟨by rw [← HR.out]; rfl, rfl⟩
set_option maxRecDepth 100000 in
set_option maxHeartbeats 1000000 in
theorem rname_any (s : By) (hl : s.length ≤ 1000000) (w : World) : Calls Tryd.prog 15 #[.string (strOf s)] w fun e w' => e = .returned (.bool (nameOk s)) ∧ w = w' := by
  obtain ⟨S, hS⟩ : ∃ S, S = strOf s := ⟨_, rfl⟩
  rw [← hS]
  have hsz : S.size = s.length := by rw [hS, strOf_size]
  have HS := Lib.hid hS
  have HZ := Lib.hid hsz
  clear hS
  go_enter Tryd.func15, Tryd.ntmps15
  go_wp2
  go_loopw [3, 4] (fun j _ W => ∃ k : Nat, k ≤ s.length ∧ j = .int .i64 k ∧ Hid ((s.take k).all sign = true) ∧ w = W) (fun i _ _ => s.length - (intOf i).toNat)
  case atStart => exact ⟨0, Nat.zero_le _, rfl, Lib.hid (by simp), rfl⟩
  case round =>
    obtain ⟨k, hk, rfl, HA, rfl⟩ := hrel
    by_cases hlt : k < s.length
    · have hkI : (k : Int) < (s.length : Int) := by omega
      have hkS : k < S.size := by omega
      have hc : S[k] = s[k] := by
        have h0 := HS.out
        subst h0
        rfl
      have hall := all_take_succ s k hlt
      rw [HA.out, Bool.true_and, ← hc] at hall
      have hcs := sign_cases (S[k]'hkS)
      clear hc
      rcases hcs with ⟨h1, h2, h⟩ | ⟨h1, h2, h⟩ | ⟨h1, h⟩ | ⟨h1, h⟩ | ⟨h1, h2, h⟩ | ⟨h1, h2, h⟩
      all_goals rw [h] at hall
      all_goals clear h
      · have da : decide ((97 : Int) ≤ ((S[k]'hkS).toNat : Int)) = true := by simp; omega
        have db : decide (((S[k]'hkS).toNat : Int) ≤ 122) = true := by simp; omega
        clear h1 h2
        have HYE := Lib.hid hall
        clear hall
        go_wp2_with fail
        go_roundw
        case rel => exact ⟨k + 1, by omega, by go_num, HYE, trivial⟩
        case measure => simp [intOf]; omega
      · have da : decide ((97 : Int) ≤ ((S[k]'hkS).toNat : Int)) = false := by simp; omega
        have dc : decide ((48 : Int) ≤ ((S[k]'hkS).toNat : Int)) = true := by simp; omega
        have dd : decide (((S[k]'hkS).toNat : Int) ≤ 57) = true := by simp; omega
        clear h1 h2
        have HYE := Lib.hid hall
        clear hall
        go_wp2_with fail
        go_roundw
        case rel => exact ⟨k + 1, by omega, by go_num, HYE, trivial⟩
        case measure => simp [intOf]; omega
      · have da : decide ((97 : Int) ≤ ((S[k]'hkS).toNat : Int)) = false := by simp; omega
        have dc : decide ((48 : Int) ≤ ((S[k]'hkS).toNat : Int)) = false := by simp; omega
        have de : (((S[k]'hkS).toNat : Int) == 45) = true := by simp; omega
        clear h1
        have HYE := Lib.hid hall
        clear hall
        go_wp2_with fail
        go_roundw
        case rel => exact ⟨k + 1, by omega, by go_num, HYE, trivial⟩
        case measure => simp [intOf]; omega
      · have da : decide ((97 : Int) ≤ ((S[k]'hkS).toNat : Int)) = true := by simp; omega
        have db : decide (((S[k]'hkS).toNat : Int) ≤ 122) = false := by simp; omega
        have dc : decide ((48 : Int) ≤ ((S[k]'hkS).toNat : Int)) = true := by simp; omega
        have dd : decide (((S[k]'hkS).toNat : Int) ≤ 57) = false := by simp; omega
        have de : (((S[k]'hkS).toNat : Int) == 45) = false := by simp; omega
        clear h1
        have HNO := Lib.hid (all_take_no s (k + 1) hall)
        clear hall
        go_wp2_with fail
        go_ret
        exact ⟨by rw [HNO.out]; rfl, rfl⟩
      · have da : decide ((97 : Int) ≤ ((S[k]'hkS).toNat : Int)) = false := by simp; omega
        have dc : decide ((48 : Int) ≤ ((S[k]'hkS).toNat : Int)) = true := by simp; omega
        have dd : decide (((S[k]'hkS).toNat : Int) ≤ 57) = false := by simp; omega
        have de : (((S[k]'hkS).toNat : Int) == 45) = false := by simp; omega
        clear h1 h2
        have HNO := Lib.hid (all_take_no s (k + 1) hall)
        clear hall
        go_wp2_with fail
        go_ret
        exact ⟨by rw [HNO.out]; rfl, rfl⟩
      · have da : decide ((97 : Int) ≤ ((S[k]'hkS).toNat : Int)) = false := by simp; omega
        have dc : decide ((48 : Int) ≤ ((S[k]'hkS).toNat : Int)) = false := by simp; omega
        have de : (((S[k]'hkS).toNat : Int) == 45) = false := by simp; omega
        clear h1 h2
        have HNO := Lib.hid (all_take_no s (k + 1) hall)
        clear hall
        go_wp2_with fail
        go_ret
        exact ⟨by rw [HNO.out]; rfl, rfl⟩
    · obtain rfl : k = s.length := by omega
      have hall := HA.out
      rw [List.take_length] at hall
      have hN := nameOk_all s hall
      unfold inB at hN
      obtain ⟨r, hr⟩ : ∃ r, r = nameOk s := ⟨_, rfl⟩
      rw [← hr] at hN
      have HR := Lib.hid hr
      clear hall hr hlt
      by_cases h1 : 1 ≤ s.length
      · by_cases h2 : s.length ≤ 16
        · obtain rfl : r = true := by rw [hN]; simp; omega
          have d1 : decide ((1 : Int) ≤ (s.length : Int)) = true := by simp; omega
          have d2 : decide ((s.length : Int) ≤ 16) = true := by simp; omega
          clear h1 h2 hN
          go_wp2_with fail
          go_ret
          exact ⟨by rw [← HR.out]; rfl, rfl⟩
        · obtain rfl : r = false := by rw [hN]; simp; omega
          have d1 : decide ((1 : Int) ≤ (s.length : Int)) = true := by simp; omega
          have d2 : decide ((s.length : Int) ≤ 16) = false := by simp; omega
          clear h1 h2 hN
          go_wp2_with fail
          go_ret
          exact ⟨by rw [← HR.out]; rfl, rfl⟩
      · obtain rfl : r = false := by rw [hN]; simp; omega
        have d1 : decide ((1 : Int) ≤ (s.length : Int)) = false := by simp; omega
        clear h1 hN
        go_wp2_with fail
        go_ret
        exact ⟨by rw [← HR.out]; rfl, rfl⟩
end Go.Proofs.YtmcpmcicolpoeaaDoor
/- bytes.TrimRight at one byte 0. -/
namespace Go.Proofs.YtmcpmcicolpoeaaDoor
open Go.RowKit

/-- m bytes are left of l: behind them stands nothing but 0, the last of them isn't 0. -/
structure Trim (l : By) (m : Nat) : Prop where
  le : m ≤ l.length
  zeros : ∀ j (h : j < l.length), m ≤ j → l[j] = 0
  last : ∀ (h : 0 < m), l[m - 1]'(by omega) ≠ 0
theorem Trim.drop {l : By} {m : Nat} (h : Trim l m) : (l.drop m).all (fun c => c == 0) = true := by
  rw [List.all_eq_true]
  intro x hx
  obtain ⟨j, hj, rfl⟩ := List.getElem_of_mem hx
  have hj2 : m + j < l.length := by simp at hj; omega
  have := h.zeros (m + j) hj2 (by omega)
  simp [this]
theorem nameOk_ne {s : By} (h : nameOk s = true) : (∀ c ∈ s, c ≠ 0) ∧ 1 ≤ s.length ∧ s.length ≤ 16 := by
  simp only [nameOk, Bool.and_eq_true, decide_eq_true_eq] at h
  exact ⟨fun c hc => sign_ne (List.all_eq_true.1 h.1.1 c hc), h.1.2, h.2⟩
/-- A trimmed name. -/
theorem trim_name {l : By} {m : Nat} (hl : l.length = 16) (h : Trim l m) :
    (if nameOk (nameD l) = true ∧ (l.drop (nameD l).length).all (fun c => c == 0) = true then (Except.ok (nameD l) : Except Nat By) else .error 143) = if nameOk (l.take m) = true then .ok (l.take m) else .error 143 := by
  have hz := h.drop
  have hm : (l.take m).length = m := by rw [List.length_take, Nat.min_eq_left h.le]
  by_cases h1 : nameOk (l.take m) = true
  · have hne := (nameOk_ne h1).1
    have e : l = l.take m ++ List.replicate (l.drop m).length 0 := by
      rw [← zeros_of _ hz, List.take_append_drop]
    have e2 : nameD l = l.take m := by
      conv => lhs; rw [e]
      exact nameD_of _ _ hne
    rw [e2, hm, if_pos ⟨h1, hz⟩, if_pos h1]
  · rw [if_neg h1]
    refine if_neg fun h2 => h1 ?_
    have e := takeWhile_pre (fun c => c != 0) l
    have hn := nameOk_ne h2.1
    have hle : (nameD l).length ≤ l.length := by
      have := congrArg List.length e
      rw [List.length_append, List.length_drop] at this
      unfold nameD at *
      omega
    have hget : ∀ j (hj : j < (nameD l).length), l[j]'(by omega) = (nameD l)[j] := fun j hj => by
      have e' : (nameD l ++ l.drop (nameD l).length) = l := e
      have h3 : (nameD l ++ l.drop (nameD l).length)[j]? = l[j]? := by rw [e']
      rw [List.getElem?_append_left hj, List.getElem?_eq_getElem hj, List.getElem?_eq_getElem (by omega)] at h3
      exact (Option.some.inj h3).symm
    have hrest : ∀ j (hj : j < l.length), (nameD l).length ≤ j → l[j] = 0 := fun j hj hle => by
      have h3 := List.all_eq_true.1 h2.2 (l[j]) (by
        rw [List.mem_iff_getElem]
        exact ⟨j - (nameD l).length, by simp; omega, by simp [Nat.add_sub_cancel' hle]⟩)
      simpa using h3
    have em : m = (nameD l).length := by
      rcases Nat.lt_trichotomy m (nameD l).length with hlt | heq | hgt
      · have h3 := h.zeros m (by omega) (Nat.le_refl _)
        rw [hget m hlt] at h3
        exact absurd h3 (hn.1 _ (List.getElem_mem _))
      · exact heq
      · exact absurd (hrest (m - 1) (by have := h.le; omega) (by omega)) (h.last (by omega))
    have e' : (nameD l ++ l.drop (nameD l).length) = l := e
    have e3 : l.take m = nameD l := by
      rw [em]
      exact (congrArg (List.take (nameD l).length) e'.symm).trans List.take_left
    rw [e3]
    exact h2.1
set_option maxRecDepth 100000 in
set_option maxHeartbeats 1000000 in
theorem trimByte_any (A : Option Addr) (c B : Nat) (l : By) (w : World) (hl : l.length ≤ 1000000) (hc : l.length ≤ c) (h : Lies w B 1 A l.length (u8s l)) :
    Calls Tryd.prog 120 #[.slice A l.length c, .int .u8 0] w fun e w' => ∃ m, e = .returned (.slice A m c) ∧ Trim l m ∧ w = w' := by
  have HL := Lib.hid h
  clear h
  go_enter Tryd.func120, Tryd.ntmps120
  go_wp2
  go_loopw [0] (fun v W => ∃ k : Nat, k ≤ l.length ∧ v = .slice A k c ∧ Hid (∀ j (h : j < l.length), k ≤ j → l[j] = 0) ∧ w = W) (fun v _ => match v with | .slice _ k _ => k | _ => 0)
  case atStart => exact ⟨l.length, Nat.le_refl _, rfl, Lib.hid (fun j h1 h2 => absurd h1 (by omega)), rfl⟩
  case round =>
    obtain ⟨k, hk, rfl, HZ, rfl⟩ := hrel
    by_cases h0 : k = 0
    · subst h0
      go_wp2_with fail
      go_ret
      exact ⟨0, rfl, ⟨Nat.zero_le _, HZ.out, fun h => absurd h (by omega)⟩, rfl⟩
    · obtain ⟨q, rfl⟩ : ∃ q, k = q + 1 := ⟨k - 1, by omega⟩
      obtain ⟨a, hx, rfl, hb, hcell⟩ := HL.out.atMap (f := fun b : UInt8 => Value.int .u8 (b.toNat : Int)) (k := q) (by omega)
      obtain ⟨x, hx2⟩ : ∃ x, x = l[q] := ⟨_, rfl⟩
      rw [← hx2] at hcell
      have e1 : (((q + 1 : Nat) : Int) - 1) = (q : Int) := by omega
      have e2 : (0 : Int) < ((q + 1 : Nat) : Int) := by omega
      have e3 : ((q : Nat) : Int) < ((q + 1 : Nat) : Int) := by omega
      have HX := Lib.hid hx2
      clear hx2 hb
      by_cases hz : x = 0
      · subst hz
        have HZ2 : Hid (∀ j (h : j < l.length), q ≤ j → l[j] = 0) := Lib.hid fun j h1 h2 => by
          rcases Nat.lt_or_ge q j with h3 | h3
          · exact HZ.out j h1 h3
          · obtain rfl : j = q := by omega
            exact HX.out.symm
        go_wp2_with fail
        go_roundw
        case rel => exact ⟨q, by omega, rfl, HZ2, trivial⟩
        case measure => simp
      · have d1 : ((x.toNat : Int) == 0) = false := by
          have : x.toNat ≠ 0 := fun h => hz (by rw [← UInt8.ofNat_toNat (x := x), h]; rfl)
          simp; omega
        have HNZ := Lib.hid hz
        clear hz
        go_wp2_with fail
        go_ret
        exact ⟨q + 1, rfl, ⟨by omega, HZ.out, fun h => by have := HNZ.out; rw [HX.out] at this; simpa using this⟩, rfl⟩
set_option maxRecDepth 100000 in
set_option maxHeartbeats 1000000 in
theorem trim_any (A : Option Addr) (c B : Nat) (l : By) (w : World) (hl : l.length = 16) (hc : 16 ≤ c) (h : Lies w B 1 A 16 (u8s l)) :
    Calls Tryd.prog 108 #[.slice A 16 c, .string ⟨#[0]⟩] w fun e w' => ∃ m, e = .returned (.slice A m c) ∧ Trim l m ∧ w = w' := by
  have HT := Lib.hid (trimByte_any A c B l w (by omega) (by omega) (by rw [hl]; exact h))
  rw [hl] at HT
  clear h
  go_enter Tryd.func108, Tryd.ntmps108
  go_wp2_with (go_at_call 120; refine HT.out.mono ?_; rintro e w1 ⟨m, rfl, hm, rfl⟩; have HM := Lib.hid hm; clear hm)
  go_ret
  exact ⟨m, rfl, HM.out, rfl⟩
end Go.Proofs.YtmcpmcicolpoeaaDoor
/- Numbers as bytes: what Gk's be and val are in the words of the texts that walk package word. -/
namespace Go.Proofs.YtmcpmcicolpoeaaDoor

theorem val_map (b : Nat → UInt8) : ∀ k, val ((List.range k).map b) = accB b k
  | 0 => rfl
  | k + 1 => by
    rw [List.range_succ, List.map_append, List.map_cons, List.map_nil, val_snoc, val_map b k]
    rfl
/-- So many bytes from a place on. -/
theorem val_cut (l : By) (p m : Nat) (h : p + m ≤ l.length) : val ((l.drop p).take m) = accB (fun i => l[p + i]?.getD 0) m := by
  rw [← val_map]
  refine congrArg val (List.ext_getElem (by simp; omega) fun i h1 h2 => ?_)
  have hi : i < m := by simpa using h2
  simp [List.getElem?_eq_getElem (show p + i < l.length by omega)]
/-- Byte i of m: the highest ahead. -/
theorem be_map : ∀ m n, be m n = (List.range m).map fun i => UInt8.ofNat (n / 2 ^ (8 * (m - 1 - i)) % 256)
  | 0, _ => rfl
  | m + 1, n => by
    rw [be, be_map m (n / 256), List.range_succ, List.map_append, List.map_cons, List.map_nil]
    have e0 : n / 2 ^ (8 * (m + 1 - 1 - m)) % 256 = n % 256 := by
      rw [show 8 * (m + 1 - 1 - m) = 0 by omega, Nat.pow_zero, Nat.div_one]
    rw [e0]
    congr 1
    refine List.map_congr_left fun i hi => ?_
    have hi : i < m := List.mem_range.1 hi
    rw [show 8 * (m + 1 - 1 - i) = 8 + 8 * (m - 1 - i) by omega, Nat.pow_add, ← Nat.div_div_eq_div_mul]
theorem be_byte (m n i : Nat) (hi : i < m) : (be m n)[i]? = some (UInt8.ofNat (n / 2 ^ (8 * (m - 1 - i)) % 256)) := by
  rw [be_map]
  simp [hi]
end Go.Proofs.YtmcpmcicolpoeaaDoor
/- What a reader answers; flags, permissions, counts, names. -/
namespace Go.Proofs.YtmcpmcicolpoeaaDoor
open Go.RowKit

/-- A value was read, or the parse was given up. -/
def Rd {α : Type} (c : Cod α) (val : World → α → Value → Prop) (b : By) (q g : Nat) (A : Option Addr) (cp : Nat) (w : World) (e : Ending) (w' : World) : Prop :=
  (∃ x r v t, c.get b q = .ok (x, r) ∧ e = .returned v ∧ val w' x v ∧ Cur w' g A cp b t r ∧ Save g w w') ∨ (∃ er pl, c.get b q = .error (er, pl) ∧ e = .panicked (faultC pl er) ∧ Save g w w')
theorem Rd.ok {α : Type} {c : Cod α} {val : World → α → Value → Prop} {b : By} {q g : Nat} {A : Option Addr} {cp : Nat} {w w' : World} {e : Ending} {x : α} {r t : Nat} {v : Value} (h : c.get b q = .ok (x, r)) (he : e = .returned v) (hv : val w' x v) (hc : Cur w' g A cp b t r) (hs : Save g w w') : Rd c val b q g A cp w e w' := .inl ⟨x, r, v, t, h, he, hv, hc, hs⟩
theorem Rd.no {α : Type} {c : Cod α} {val : World → α → Value → Prop} {b : By} {q g : Nat} {A : Option Addr} {cp : Nat} {w w' : World} {e : Ending} {er pl : Nat} (h : c.get b q = .error (er, pl)) (he : e = .panicked (faultC pl er)) (hs : Save g w w') : Rd c val b q g A cp w e w' := .inr ⟨er, pl, h, he, hs⟩
theorem fld_get (m lo hi e : Nat) (b : By) (q : Nat) : (fld m lo hi e).get b q = if q + m ≤ b.length then (if lo ≤ numAt b q m ∧ numAt b q m ≤ hi then .ok ((numAt b q m : Int), q + m) else .error (e, q)) else .error (141, q) := by
  unfold fld raw numAt
  dsimp only
  by_cases h : q + m ≤ b.length
  · rw [if_pos h, if_pos h]
    by_cases h2 : lo ≤ val ((b.drop q).take m) ∧ val ((b.drop q).take m) ≤ hi
    · rw [if_pos h2, if_pos h2]
    · rw [if_neg h2, if_neg h2]
  · rw [if_neg h, if_neg h]
theorem bool_get (b : By) (q : Nat) : boolC.get b q = if q + 4 ≤ b.length then (if numAt b q 4 ≤ 1 then .ok (decide ((numAt b q 4 : Int) = 1), q + 4) else .error (144, q)) else .error (141, q) := by
  unfold boolC Cod.map
  dsimp only
  rw [fld_get]
  by_cases h : q + 4 ≤ b.length
  · rw [if_pos h, if_pos h]
    by_cases h2 : numAt b q 4 ≤ 1
    · rw [if_pos h2, if_pos ⟨Nat.zero_le _, h2⟩]
    · rw [if_neg h2, if_neg (fun h3 => h2 h3.2)]
  · rw [if_neg h, if_neg h]
theorem name_short (b : By) (q : Nat) (h : ¬ q + 16 ≤ b.length) : nameC.get b q = .error (141, q) := by
  unfold nameC raw
  dsimp only
  rw [if_neg h]
theorem name_get (b : By) (q m : Nat) (h : q + 16 ≤ b.length) (l : By) (hl : l = (b.drop q).take 16) (ht : Trim l m) : nameC.get b q = if nameOk (l.take m) = true then .ok (l.take m, q + 16) else .error (143, q) := by
  have hn : l.length = 16 := by rw [hl]; exact cut_len b q 16 h
  have t := trim_name hn ht
  unfold nameC raw
  dsimp only
  rw [if_pos h, ← hl]
  by_cases h1 : nameOk (nameD l) = true ∧ (l.drop (nameD l).length).all (fun c => c == 0) = true
  · rw [if_pos h1] at t ⊢
    dsimp only
    by_cases h2 : nameOk (l.take m) = true
    · rw [if_pos h2] at t ⊢
      injection t with t
      rw [t]
    · rw [if_neg h2] at t; cases t
  · rw [if_neg h1] at t ⊢
    dsimp only
    by_cases h2 : nameOk (l.take m) = true
    · rw [if_pos h2] at t; cases t
    · rw [if_neg h2]
theorem NumP.yes {b : By} {q m : Nat} {k : IntKind} {g : Nat} {A : Option Addr} {c : Nat} {w w' : World} {e : Ending} (h : NumP b q m k g A c w e w') (hm : q + m ≤ b.length) : e = .returned (.int k (numAt b q m : Nat)) ∧ Cur w' g A c b q (q + m) ∧ Save g w w' := by
  rcases h with h | h
  · exact h.2
  · exact absurd hm h.1
theorem NumP.no {b : By} {q m : Nat} {k : IntKind} {g : Nat} {A : Option Addr} {c : Nat} {w w' : World} {e : Ending} (h : NumP b q m k g A c w e w') (hm : ¬ q + m ≤ b.length) : e = .panicked (faultC q 141) ∧ Save g w w' := by
  rcases h with h | h
  · exact absurd h.1 hm
  · exact h.2
def intV (k : IntKind) (_ : World) (x : Int) (v : Value) : Prop := v = .int k x
def boolV (_ : World) (x : Bool) (v : Value) : Prop := v = .bool x
def strV (_ : World) (x : By) (v : Value) : Prop := v = .string (strOf x)
/-- Plain numbers are read. -/
theorem NumP.rd {b : By} {q m hi : Nat} {k : IntKind} {g : Nat} {A : Option Addr} {c : Nat} {w w' : World} {e : Ending} (h : NumP b q m k g A c w e w') (hhi : 256 ^ m ≤ hi + 1) (er : Nat) : Rd (fld m 0 hi er) (intV k) b q g A c w e w' := by
  rcases h with ⟨h1, h2, h3, h4⟩ | ⟨h1, h2, h3⟩
  · refine .ok (x := (numAt b q m : Int)) (r := q + m) ?_ h2 rfl h3 h4
    rw [fld_get, if_pos h1, if_pos ⟨Nat.zero_le _, by have := numAt_lt b q m; omega⟩]
  · refine .no ?_ h2 h3
    rw [fld_get, if_neg h1]
section
variable {w : World} {g c at_ q : Nat} {A : Option Addr} {b : By}
theorem long_rd (h : Cur w g A c b at_ q) : Calls Tryd.prog 38 #[.pointer (some ⟨g, 0, none⟩)] w (Rd u32C (intV .u32) b q g A c w) := (long_any h).mono fun _ _ h => h.rd (by decide) 144
theorem wide_rd (h : Cur w g A c b at_ q) : Calls Tryd.prog 72 #[.pointer (some ⟨g, 0, none⟩)] w (Rd u64C (intV .u64) b q g A c w) := (wide_any h).mono fun _ _ h => h.rd (by decide) 144
theorem short_rd (h : Cur w g A c b at_ q) : Calls Tryd.prog 39 #[.pointer (some ⟨g, 0, none⟩)] w (Rd (fld 2 0 65535 144) (intV .i64) b q g A c w) := (short_any h).mono fun _ _ h => h.rd (by decide) 144
set_option maxHeartbeats 1000000 in
set_option maxRecDepth 100000 in
theorem flag_any (h : Cur w g A c b at_ q) : Calls Tryd.prog 71 #[.pointer (some ⟨g, 0, none⟩)] w (Rd boolC boolV b q g A c w) := by
  have hg := bool_get b q
  by_cases hm : q + 4 ≤ b.length
  · rw [if_pos hm] at hg
    have HL : Hid (Calls Tryd.prog 38 #[.pointer (some ⟨g, 0, none⟩)] w fun e w' => e = .returned (.int .u32 (numAt b q 4 : Nat)) ∧ Cur w' g A c b q (q + 4) ∧ Save g w w') := Lib.hid ((long_any h).mono fun _ _ k => k.yes hm)
    obtain ⟨n, hn⟩ : ∃ n, n = numAt b q 4 := ⟨_, rfl⟩
    rw [← hn] at hg HL
    by_cases h1 : n ≤ 1
    · rw [if_pos h1] at hg
      have HG := Lib.hid hg
      clear hg h hm hn
      have hn2 : n = 0 ∨ n = 1 := by omega
      rcases hn2 with rfl | rfl
      all_goals
        clear h1
        go_enter Tryd.func71, Tryd.ntmps71
        go_wp2_with (first
          | (go_at_call 38; refine HL.out.mono ?_; rintro e w1 ⟨rfl, hk, hs⟩; have H1 := Lib.hid (And.intro hk hs); clear hk hs)
          | (go_at_call 37; refine (must_yes _ _ _).mono ?_; rintro e w2 ⟨rfl, rfl⟩))
        go_ret
        exact .ok HG.out rfl rfl H1.out.1 H1.out.2
    · rw [if_neg h1] at hg
      have HG := Lib.hid hg
      have hd : decide ((n : Int) ≤ 1) = false := by simp; omega
      clear hg h hm hn h1
      go_enter Tryd.func71, Tryd.ntmps71
      go_wp2_with (first
        | (go_at_call 38; refine HL.out.mono ?_; rintro e w1 ⟨rfl, hk, hs⟩; have H1 := Lib.hid (And.intro hk hs); clear hk hs)
        | (go_at_call 37; refine (must_no 144 H1.out.1.at1).mono ?_; rintro e w2 ⟨rfl, rfl⟩; exact ⟨rfl, .no HG.out rfl H1.out.2⟩))
  · rw [if_neg hm] at hg
    have HL : Hid (Calls Tryd.prog 38 #[.pointer (some ⟨g, 0, none⟩)] w fun e w' => e = .panicked (faultC q 141) ∧ Save g w w') := Lib.hid ((long_any h).mono fun _ _ k => k.no hm)
    have HG := Lib.hid hg
    clear hg h hm
    go_enter Tryd.func71, Tryd.ntmps71
    go_wp2_with (go_at_call 38; refine HL.out.mono ?_; rintro e w1 ⟨rfl, hs⟩; exact ⟨rfl, .no HG.out rfl hs⟩)
set_option maxHeartbeats 1000000 in
set_option maxRecDepth 100000 in
theorem perm_any (h : Cur w g A c b at_ q) (n : Nat) (hn : n < 4294967296) : Calls Tryd.prog 110 #[.pointer (some ⟨g, 0, none⟩), .int .u32 (n : Int)] w fun e w' => (∃ k, w' = w.drewN k) ∧ e = if n ≤ 7 then .returned (.int .i64 (n : Int)) else .panicked (faultC at_ 144) := by
  have HF := Lib.hid (permFits_any (n : Int))
  have HC := Lib.hid h
  have hwn : IntKind.i64.wrap (n : Int) = (n : Int) := by rw [IntKind.wrap_i64]; omega
  have hb : inB (n : Int) 0 7 = decide (n ≤ 7) := by unfold inB; congr 1; simp only [eq_iff_iff]; omega
  rw [hb] at HF
  clear hb h
  by_cases h7 : n ≤ 7
  · rw [if_pos h7]
    rw [decide_eq_true h7] at HF
    go_enter Tryd.func110, Tryd.ntmps110
    go_upto_region 1 with fail
    refine wp_region_held_drew (S := fun Y => Y = w.drew) (by kernel_rfl) rfl (fun hS => ?_)
    (refine held_take (i := 0) (oi := ?ot1) (v := ?vt1) ?at1 (by kernel_rfl) (by kernel_rfl) (by kernel_rfl) ?bt1 ?ct1 ?dt1 (by assumption) ?rt1; (case at1 => (simp only [List.getElem?_toArray, List.getElem?_cons_zero]; rfl)); (case bt1 => exact fun _ _ _ h => h); (case ct1 => kernel_rfl); (case dt1 => (intro W hW; subst hW; go_simp; (try with_reducible rfl))); (case' rt1 => simp only [Act.put, List.setIfInBounds_toArray, List.set_cons_zero, List.set_cons_succ]))
    (refine held_take (i := 1) (oi := ?ot2) (v := ?vt2) ?at2 (by kernel_rfl) (by kernel_rfl) (by kernel_rfl) ?bt2 ?ct2 ?dt2 (by assumption) ?rt2; (case at2 => (simp only [List.getElem?_toArray, List.getElem?_cons_zero, List.getElem?_cons_succ]; rfl)); (case bt2 => exact fun _ _ _ h => h); (case ct2 => kernel_rfl); (case dt2 => (intro W hW; subst hW; go_simp; (try with_reducible rfl))); (case' rt2 => simp only [Act.put, List.setIfInBounds_toArray, List.set_cons_zero, List.set_cons_succ]))
    (refine held_take (i := 2) (oi := ?ot3) (v := ?vt3) ?at3 (by kernel_rfl) (by kernel_rfl) (by kernel_rfl) ?bt3 ?ct3 ?dt3 (by assumption) ?rt3; (case at3 => (simp only [List.getElem?_toArray, List.getElem?_cons_zero, List.getElem?_cons_succ]; rfl)); (case bt3 => exact fun _ _ _ h => h); (case ct3 => kernel_rfl); (case dt3 => (intro W hW; subst hW; go_simp; (try with_reducible rfl))); (case' rt3 => simp only [Act.put, List.setIfInBounds_toArray, List.set_cons_zero, List.set_cons_succ]))
    (refine held_take (i := 3) (oi := ?ot4) (v := ?vt4) ?at4 (by kernel_rfl) (by kernel_rfl) (by kernel_rfl) ?bt4 ?ct4 ?dt4 (by assumption) ?rt4; (case at4 => (simp only [List.getElem?_toArray, List.getElem?_cons_zero, List.getElem?_cons_succ]; rfl)); (case bt4 => exact fun _ _ _ h => h); (case ct4 => kernel_rfl); (case dt4 => (intro W hW; subst hW; go_simp; (try with_reducible rfl))); (case' rt4 => simp only [Act.put, List.setIfInBounds_toArray, List.set_cons_zero, List.set_cons_succ]))
    (refine held_take (i := 4) (oi := ?ot5) (v := ?vt5) ?at5 (by kernel_rfl) (by kernel_rfl) (by kernel_rfl) ?bt5 ?ct5 ?dt5 (by assumption) ?rt5; (case at5 => (simp only [List.getElem?_toArray, List.getElem?_cons_zero, List.getElem?_cons_succ]; rfl)); (case bt5 => exact fun _ _ _ h => h); (case ct5 => kernel_rfl); (case dt5 => (intro W hW; subst hW; go_simp; (try with_reducible rfl))); (case' rt5 => simp only [Act.put, List.setIfInBounds_toArray, List.set_cons_zero, List.set_cons_succ]))
    refine held_one (i := 5) (oi := ?ot6) (by kernel_rfl) ?at6 ?ct6 (fun K5 hK5 => ?_)
    (case at6 => (simp only [List.getElem?_toArray, List.getElem?_cons_zero, List.getElem?_cons_succ]; rfl))
    (case ct6 => kernel_rfl)
    go_simp
    refine (HF.out _).mono ?_
    rintro e yy ⟨rfl, rfl⟩
    refine hK5 _ _ rfl (fun hS5 => ?_)
    clear hS hK5 K5
    refine held_one (i := 6) (oi := ?ot7) (by kernel_rfl) ?at7 ?ct7 (fun K6 hK6 => ?_)
    (case at7 => (simp only [List.getElem?_toArray, List.getElem?_cons_zero, List.getElem?_cons_succ]; rfl))
    (case ct7 => kernel_rfl)
    go_simp
    refine (must_yes _ _ _).mono ?_
    rintro e yy ⟨rfl, rfl⟩
    refine hK6 _ _ rfl (fun hS6 => ?_)
    clear hS5 hK6 K6
    refine wpAnyH_done (by kernel_rfl) ?_ _
    go_wp2
    go_ret
    exact ⟨⟨1, rfl⟩, rfl⟩
  · rw [if_neg h7]
    rw [decide_eq_false h7] at HF
    go_enter Tryd.func110, Tryd.ntmps110
    go_upto_region 1 with fail
    refine wp_region_held_drew (S := fun Y => Y = w.drew) (by kernel_rfl) rfl (fun hS => ?_)
    (refine held_take (i := 0) (oi := ?ot8) (v := ?vt8) ?at8 (by kernel_rfl) (by kernel_rfl) (by kernel_rfl) ?bt8 ?ct8 ?dt8 (by assumption) ?rt8; (case at8 => (simp only [List.getElem?_toArray, List.getElem?_cons_zero]; rfl)); (case bt8 => exact fun _ _ _ h => h); (case ct8 => kernel_rfl); (case dt8 => (intro W hW; subst hW; go_simp; (try with_reducible rfl))); (case' rt8 => simp only [Act.put, List.setIfInBounds_toArray, List.set_cons_zero, List.set_cons_succ]))
    (refine held_take (i := 1) (oi := ?ot9) (v := ?vt9) ?at9 (by kernel_rfl) (by kernel_rfl) (by kernel_rfl) ?bt9 ?ct9 ?dt9 (by assumption) ?rt9; (case at9 => (simp only [List.getElem?_toArray, List.getElem?_cons_zero, List.getElem?_cons_succ]; rfl)); (case bt9 => exact fun _ _ _ h => h); (case ct9 => kernel_rfl); (case dt9 => (intro W hW; subst hW; go_simp; (try with_reducible rfl))); (case' rt9 => simp only [Act.put, List.setIfInBounds_toArray, List.set_cons_zero, List.set_cons_succ]))
    (refine held_take (i := 2) (oi := ?ot10) (v := ?vt10) ?at10 (by kernel_rfl) (by kernel_rfl) (by kernel_rfl) ?bt10 ?ct10 ?dt10 (by assumption) ?rt10; (case at10 => (simp only [List.getElem?_toArray, List.getElem?_cons_zero, List.getElem?_cons_succ]; rfl)); (case bt10 => exact fun _ _ _ h => h); (case ct10 => kernel_rfl); (case dt10 => (intro W hW; subst hW; go_simp; (try with_reducible rfl))); (case' rt10 => simp only [Act.put, List.setIfInBounds_toArray, List.set_cons_zero, List.set_cons_succ]))
    (refine held_take (i := 3) (oi := ?ot11) (v := ?vt11) ?at11 (by kernel_rfl) (by kernel_rfl) (by kernel_rfl) ?bt11 ?ct11 ?dt11 (by assumption) ?rt11; (case at11 => (simp only [List.getElem?_toArray, List.getElem?_cons_zero, List.getElem?_cons_succ]; rfl)); (case bt11 => exact fun _ _ _ h => h); (case ct11 => kernel_rfl); (case dt11 => (intro W hW; subst hW; go_simp; (try with_reducible rfl))); (case' rt11 => simp only [Act.put, List.setIfInBounds_toArray, List.set_cons_zero, List.set_cons_succ]))
    (refine held_take (i := 4) (oi := ?ot12) (v := ?vt12) ?at12 (by kernel_rfl) (by kernel_rfl) (by kernel_rfl) ?bt12 ?ct12 ?dt12 (by assumption) ?rt12; (case at12 => (simp only [List.getElem?_toArray, List.getElem?_cons_zero, List.getElem?_cons_succ]; rfl)); (case bt12 => exact fun _ _ _ h => h); (case ct12 => kernel_rfl); (case dt12 => (intro W hW; subst hW; go_simp; (try with_reducible rfl))); (case' rt12 => simp only [Act.put, List.setIfInBounds_toArray, List.set_cons_zero, List.set_cons_succ]))
    refine held_one (i := 5) (oi := ?ot13) (by kernel_rfl) ?at13 ?ct13 (fun K5 hK5 => ?_)
    (case at13 => (simp only [List.getElem?_toArray, List.getElem?_cons_zero, List.getElem?_cons_succ]; rfl))
    (case ct13 => kernel_rfl)
    go_simp
    refine (HF.out _).mono ?_
    rintro e yy ⟨rfl, rfl⟩
    refine hK5 _ _ rfl (fun hS5 => ?_)
    clear hS hK5 K5
    refine held_one (i := 6) (oi := ?ot14) (by kernel_rfl) ?at14 ?ct14 (fun K6 hK6 => ?_)
    (case at14 => (simp only [List.getElem?_toArray, List.getElem?_cons_zero, List.getElem?_cons_succ]; rfl))
    (case ct14 => kernel_rfl)
    go_simp
    refine (must_no 144 (HC.out.drewN 1).at1).mono ?_
    rintro e yy ⟨rfl, rfl⟩
    exact ⟨rfl, ⟨1, rfl⟩, rfl⟩

theorem lies_take {w : World} {B n m : Nat} {A : Option Addr} {l : By} (h : Lies w B 1 A n (u8s l)) (hm : m ≤ n) (hn : l.length = n) : Lies w B 1 A m (u8s (l.take m)) := by
  refine ⟨by simp [u8s_length]; omega, fun h0 => ?_⟩
  obtain ⟨a, e, hb, hc⟩ := h.2 (by omega)
  refine ⟨a, e, hb, fun j hj => ?_⟩
  have hj2 : j < (u8s l).length := by simp [u8s_length] at hj ⊢; omega
  rw [hc j hj2]
  simp [u8s]
set_option maxHeartbeats 1000000 in
set_option maxRecDepth 100000 in
theorem pname_any (h : Cur w g A c b at_ q) : Calls Tryd.prog 70 #[.pointer (some ⟨g, 0, none⟩)] w (Rd nameC strV b q g A c w) := by
  by_cases hm : q + 16 ≤ b.length
  · have HFI := Lib.hid (field_yes h 16 hm (by decide) (by decide))
    have hn := cut_len b q 16 hm
    have HNG := Lib.hid (fun m => name_get b q m hm _ rfl)
    obtain ⟨l, hl0⟩ : ∃ l, l = (b.drop q).take 16 := ⟨_, rfl⟩
    rw [← hl0] at hn HFI HNG
    have HLN := Lib.hid hn
    clear h hm hl0 hn
    go_enter Tryd.func70, Tryd.ntmps70
    go_upto_region 2 with (first
      | (go_at_call 69; refine HFI.out.mono ?_; rintro e w1 ⟨A', c', rfl, hc', hl, hk, hs⟩; have H1 := Lib.hid (And.intro hl (And.intro hk hs)); clear hl hk hs)
      | (go_at_call 108; refine (trim_any _ _ _ _ _ HLN.out hc' H1.out.1).mono ?_; rintro e w2 ⟨m, rfl, hm2, rfl⟩
         have hcv := conv_str w1 g A' m c' (l.take m) (lies_take H1.out.1 (by have := hm2.le; have := HLN.out; omega) HLN.out); have HTR := Lib.hid hm2; clear hm2))
    have hg := HNG.out m HTR.out
    have hsl : (l.take m).length ≤ 1000000 := by have := HLN.out; simp; omega
    obtain ⟨s, hs⟩ : ∃ s, s = l.take m := ⟨_, rfl⟩
    rw [← hs] at hg hsl ⊢
    have HN := Lib.hid (name_any s hsl)
    clear hcv hs hsl
    by_cases h1 : nameOk s = true
    · rw [if_pos h1] at hg
      rw [h1] at HN
      have HG := Lib.hid hg
      clear hg h1
      refine wp_region_held_drew (S := fun Y => Y = w1.drew) (by kernel_rfl) rfl (fun hS => ?_)
      (refine held_take (i := 0) (oi := ?ot15) (v := ?vt15) ?at15 (by kernel_rfl) (by kernel_rfl) (by kernel_rfl) ?bt15 ?ct15 ?dt15 (by assumption) ?rt15; (case at15 => (simp only [List.getElem?_toArray, List.getElem?_cons_zero]; rfl)); (case bt15 => exact fun _ _ _ h => h); (case ct15 => kernel_rfl); (case dt15 => (intro W hW; subst hW; go_simp; (try with_reducible rfl))); (case' rt15 => simp only [Act.put, List.setIfInBounds_toArray, List.set_cons_zero, List.set_cons_succ]))
      (refine held_take (i := 1) (oi := ?ot16) (v := ?vt16) ?at16 (by kernel_rfl) (by kernel_rfl) (by kernel_rfl) ?bt16 ?ct16 ?dt16 (by assumption) ?rt16; (case at16 => (simp only [List.getElem?_toArray, List.getElem?_cons_zero, List.getElem?_cons_succ]; rfl)); (case bt16 => exact fun _ _ _ h => h); (case ct16 => kernel_rfl); (case dt16 => (intro W hW; subst hW; go_simp; (try with_reducible rfl))); (case' rt16 => simp only [Act.put, List.setIfInBounds_toArray, List.set_cons_zero, List.set_cons_succ]))
      (refine held_take (i := 2) (oi := ?ot17) (v := ?vt17) ?at17 (by kernel_rfl) (by kernel_rfl) (by kernel_rfl) ?bt17 ?ct17 ?dt17 (by assumption) ?rt17; (case at17 => (simp only [List.getElem?_toArray, List.getElem?_cons_zero, List.getElem?_cons_succ]; rfl)); (case bt17 => exact fun _ _ _ h => h); (case ct17 => kernel_rfl); (case dt17 => (intro W hW; subst hW; go_simp; (try with_reducible rfl))); (case' rt17 => simp only [Act.put, List.setIfInBounds_toArray, List.set_cons_zero, List.set_cons_succ]))
      (refine held_take (i := 3) (oi := ?ot18) (v := ?vt18) ?at18 (by kernel_rfl) (by kernel_rfl) (by kernel_rfl) ?bt18 ?ct18 ?dt18 (by assumption) ?rt18; (case at18 => (simp only [List.getElem?_toArray, List.getElem?_cons_zero, List.getElem?_cons_succ]; rfl)); (case bt18 => exact fun _ _ _ h => h); (case ct18 => kernel_rfl); (case dt18 => (intro W hW; subst hW; go_simp; (try with_reducible rfl))); (case' rt18 => simp only [Act.put, List.setIfInBounds_toArray, List.set_cons_zero, List.set_cons_succ]))
      refine held_one (i := 4) (oi := ?ot19) (by kernel_rfl) ?at19 ?ct19 (fun K4 hK4 => ?_)
      (case at19 => (simp only [List.getElem?_toArray, List.getElem?_cons_zero, List.getElem?_cons_succ]; rfl))
      (case ct19 => kernel_rfl)
      go_simp
      refine (HN.out _).mono ?_
      rintro e yy ⟨rfl, rfl⟩
      refine hK4 _ _ rfl (fun hS4 => ?_)
      clear hS hK4 K4
      refine held_one (i := 5) (oi := ?ot20) (by kernel_rfl) ?at20 ?ct20 (fun K5 hK5 => ?_)
      (case at20 => (simp only [List.getElem?_toArray, List.getElem?_cons_zero, List.getElem?_cons_succ]; rfl))
      (case ct20 => kernel_rfl)
      go_simp
      refine (must_yes _ _ _).mono ?_
      rintro e yy ⟨rfl, rfl⟩
      refine hK5 _ _ rfl (fun hS5 => ?_)
      clear hS4 hK5 K5
      refine wpAnyH_done (by kernel_rfl) ?_ _
      go_wp2
      go_ret
      exact .ok HG.out rfl rfl (H1.out.2.1.drewN 1) (H1.out.2.2.drewN 1)
    · rw [if_neg h1] at hg
      rw [Bool.eq_false_iff.2 h1] at HN
      have HG := Lib.hid hg
      clear hg h1
      refine wp_region_held_drew (S := fun Y => Y = w1.drew) (by kernel_rfl) rfl (fun hS => ?_)
      (refine held_take (i := 0) (oi := ?ot21) (v := ?vt21) ?at21 (by kernel_rfl) (by kernel_rfl) (by kernel_rfl) ?bt21 ?ct21 ?dt21 (by assumption) ?rt21; (case at21 => (simp only [List.getElem?_toArray, List.getElem?_cons_zero]; rfl)); (case bt21 => exact fun _ _ _ h => h); (case ct21 => kernel_rfl); (case dt21 => (intro W hW; subst hW; go_simp; (try with_reducible rfl))); (case' rt21 => simp only [Act.put, List.setIfInBounds_toArray, List.set_cons_zero, List.set_cons_succ]))
      (refine held_take (i := 1) (oi := ?ot22) (v := ?vt22) ?at22 (by kernel_rfl) (by kernel_rfl) (by kernel_rfl) ?bt22 ?ct22 ?dt22 (by assumption) ?rt22; (case at22 => (simp only [List.getElem?_toArray, List.getElem?_cons_zero, List.getElem?_cons_succ]; rfl)); (case bt22 => exact fun _ _ _ h => h); (case ct22 => kernel_rfl); (case dt22 => (intro W hW; subst hW; go_simp; (try with_reducible rfl))); (case' rt22 => simp only [Act.put, List.setIfInBounds_toArray, List.set_cons_zero, List.set_cons_succ]))
      (refine held_take (i := 2) (oi := ?ot23) (v := ?vt23) ?at23 (by kernel_rfl) (by kernel_rfl) (by kernel_rfl) ?bt23 ?ct23 ?dt23 (by assumption) ?rt23; (case at23 => (simp only [List.getElem?_toArray, List.getElem?_cons_zero, List.getElem?_cons_succ]; rfl)); (case bt23 => exact fun _ _ _ h => h); (case ct23 => kernel_rfl); (case dt23 => (intro W hW; subst hW; go_simp; (try with_reducible rfl))); (case' rt23 => simp only [Act.put, List.setIfInBounds_toArray, List.set_cons_zero, List.set_cons_succ]))
      (refine held_take (i := 3) (oi := ?ot24) (v := ?vt24) ?at24 (by kernel_rfl) (by kernel_rfl) (by kernel_rfl) ?bt24 ?ct24 ?dt24 (by assumption) ?rt24; (case at24 => (simp only [List.getElem?_toArray, List.getElem?_cons_zero, List.getElem?_cons_succ]; rfl)); (case bt24 => exact fun _ _ _ h => h); (case ct24 => kernel_rfl); (case dt24 => (intro W hW; subst hW; go_simp; (try with_reducible rfl))); (case' rt24 => simp only [Act.put, List.setIfInBounds_toArray, List.set_cons_zero, List.set_cons_succ]))
      refine held_one (i := 4) (oi := ?ot25) (by kernel_rfl) ?at25 ?ct25 (fun K4 hK4 => ?_)
      (case at25 => (simp only [List.getElem?_toArray, List.getElem?_cons_zero, List.getElem?_cons_succ]; rfl))
      (case ct25 => kernel_rfl)
      go_simp
      refine (HN.out _).mono ?_
      rintro e yy ⟨rfl, rfl⟩
      refine hK4 _ _ rfl (fun hS4 => ?_)
      clear hS hK4 K4
      refine held_one (i := 5) (oi := ?ot26) (by kernel_rfl) ?at26 ?ct26 (fun K5 hK5 => ?_)
      (case at26 => (simp only [List.getElem?_toArray, List.getElem?_cons_zero, List.getElem?_cons_succ]; rfl))
      (case ct26 => kernel_rfl)
      go_simp
      refine (must_no 143 (H1.out.2.1.drewN 1).at1).mono ?_
      rintro e yy ⟨rfl, rfl⟩
      exact ⟨rfl, .no HG.out rfl (H1.out.2.2.drewN 1)⟩
  · have hg := name_short b q hm
    have HFI := Lib.hid (field_no h 16 hm (by decide))
    have HG := Lib.hid hg
    clear hg h hm
    go_enter Tryd.func70, Tryd.ntmps70
    go_upto_region 2 with (go_at_call 69; refine HFI.out.mono ?_; rintro e w1 ⟨rfl, hs⟩; exact ⟨rfl, .no HG.out rfl hs⟩)
end
end Go.Proofs.YtmcpmcicolpoeaaDoor
/- parser.key. -/
namespace Go.Proofs.YtmcpmcicolpoeaaDoor
open Go.RowKit
attribute [local go_sem ↓ high] zeroKeyB

theorem arr_at_key (a : Addr) (c : Nat) (w : World) : (Instr.arrayAt 58 (.slice (some a) 68 c)).run Tryd.prog w = .ok (.pointer (some a)) w := by
  simp [Instr.arrayAt, run_underlying Tryd.underlying58]
def keyV (_ : World) (x : By) (v : Value) : Prop := x.length = 68 ∧ v = .agg (vec 68 (bys (kF x)))
section
variable {P : Program} {w : World} {ops : Array Oper} {rest : List Oper} {o : Oper} {a : Act} {Q : Exit → Act → World → Prop}
theorem run_load_q {n : Nat} {f : Nat → Value} {p : Addr} {ty : TypeId} {d : TypeDesc} (h : ∀ i, i < n → w.cell? (p.add i) = some (f i)) (hu : P.underlying ty = some d)
    (hd : (match d with | .struct _ | .array _ _ => true | _ => false) = true) (hi : (P.info? ty).map (·.size) = some n) :
    (loadVar ty p).run P w = .ok (.agg (vec n f)) w := by
  have hl : (loadCells p (vec n f).toList.length).run P w = .ok (vec n f).toList.toArray w :=
    run_loadCells_list (P := P) w p (vec n f).toList (fun j v hv => by
      have hj : j < n := by
        have := (List.getElem?_eq_some_iff.1 hv).1
        simpa [vec] using this
      have hv2 : (vec n f)[j]? = some v := by simpa using hv
      rw [vec_at n f j hj] at hv2
      rw [h j hj, hv2])
  cases hq : P.info? ty with
  | none => simp [hq] at hi
  | some i =>
    have hs : i.size = n := by simpa [hq] using hi
    have hagg : (isAgg ty).run P w = .ok true w := by
      unfold isAgg
      rw [Sem.run_bind, run_underlying hu w]
      cases d <;> simp_all
    have hz : (vec n f).size = n := vec_size n f
    simp only [Array.length_toList, Array.toArray_toList] at hl
    rw [hz] at hl
    simp [loadVar, Sem.run_bind, hagg, sizeOf, typeInfo, hq, hs, hl]
theorem exec_load_q (ty : TypeId) (x : Operand) (ho : o.op = .load ty x) (p : Addr) (hx : a.eval x = .pointer (some p)) (v : Value)
    (hl : (loadVar ty p).run P w = .ok v w) : (execOp a.eval o).run P w = .ok (.value v) w := by
  unfold execOp
  simp only [ho, hx, Instr.loadAt, Instr.sureAddr, Sem.run_bind, Sem.run_pure, Result.andThen_ok, hl]
theorem wl_load_q (hgd : o.guard = none) (ty : TypeId) (x : Operand) (ho : o.op = .load ty x) (p : Addr) (hx : a.eval x = .pointer (some p)) (v : Value)
    (hl : (loadVar ty p).run P w = .ok v w) (h : wpList P ops Q rest (a.put o.dst v) w) : wpList P ops Q (o :: rest) a w :=
  wpList_plain hgd fun _ hK => by
    unfold Oper.wp
    rw [exec_load_q ty x ho p hx v hl]
    exact hK _ _ h
end
theorem lies_key {w : World} {B : Nat} {A : Option Addr} {k : By} (h : Lies w B 1 A 68 (u8s k)) (hk : k.length = 68) : ∃ a, A = some a ∧ ∀ i, i < 68 → w.cell? (a.add i) = some (bys (kF k) i) := by
  obtain ⟨a, e, hb, hc⟩ := h.2 (by decide)
  refine ⟨a, e, fun i hi => ?_⟩
  rw [hc i (by rw [u8s_length, hk]; exact hi)]
  have hi2 : i < k.length := by omega
  simp [u8s, bys, kF, hi2]
theorem key_short (b : By) (q : Nat) (h : ¬ q + 68 ≤ b.length) : (keyC kOk).get b q = .error (141, q) := by
  unfold keyC raw
  dsimp only
  rw [if_neg h]
theorem key_get (b : By) (q : Nat) (h : q + 68 ≤ b.length) : (keyC kOk).get b q = if kOk ((b.drop q).take 68) = true then .ok ((b.drop q).take 68, q + 68) else .error (144, q) := by
  unfold keyC raw
  dsimp only
  rw [if_pos h]
  by_cases h2 : kOk ((b.drop q).take 68) = true
  · rw [if_pos h2, if_pos h2]
  · rw [if_neg h2, if_neg h2]
/-- A world that goes on: all below n is as it was. -/
theorem Save.on {g n : Nat} {V Y Z : World} (h : Save g V Y) (hd : Below n Y Z) (hn : V.heap.size ≤ n) : Save g V Z :=
  ⟨hd.os.trans h.os, hd.tape.trans h.tape, hd.output.trans h.output, Nat.le_trans h.size hd.size, fun k hk hkr => (hd.block k (by omega)).trans (h.block k hk hkr)⟩
theorem Cur.on {g n c at_ q : Nat} {A : Option Addr} {b : By} {Y Z : World} (h : Cur Y g A c b at_ q) (hd : Below n Y Z) (hn : g < n) : Cur Z g A c b at_ q :=
  ⟨h.blk.below hd hn, h.lies.below (hd.mono (Nat.le_of_lt hn)), h.cap, h.len, h.ge, h.le⟩
theorem Save.left {g : Nat} {w V W : World} (h1 : Below w.heap.size w V) (h2 : Save g V W) : Save g w W := ⟨h2.os.trans h1.os, h2.tape.trans h1.tape, h2.output.trans h1.output, Nat.le_trans h1.size h2.size, fun k hk hg => (h2.block k (Nat.lt_of_lt_of_le hk h1.size) hg).trans (h1.block k hk)⟩
set_option maxHeartbeats 2000000 in
set_option maxRecDepth 100000 in
theorem pkey_any {w : World} {g c at_ q : Nat} {A : Option Addr} {b : By} (h : Cur w g A c b at_ q) : Calls Tryd.prog 73 #[.pointer (some ⟨g, 0, none⟩)] w (Rd (keyC kOk) keyV b q g A c w) := by
  obtain ⟨V, hV⟩ : ∃ V, V = w.alloc (.cells (vec 68 (bys zb)) 58) := ⟨_, rfl⟩
  have h0 : Arr V w.heap.size 58 68 (bys zb) := by rw [hV]; exact Arr.new w _ _ _
  have hB : Below w.heap.size w V := by rw [hV]; exact (Below.refl _ _).alloc (Nat.le_refl _) _
  have hVs : V.heap.size = w.heap.size + 1 := by rw [hV]; simp
  have HGW := Lib.hid h.lt
  have hcur : Cur V g A c b at_ q := h.under hB
  have HA := Lib.hid (And.intro h0 (And.intro hB hVs))
  have HW := Lib.hid hV
  clear hV h0 hB h hVs
  by_cases hm : q + 68 ≤ b.length
  · have hg := key_get b q hm
    have HFI := Lib.hid (field_yes hcur 68 hm (by decide) (by decide))
    have hn := cut_len b q 68 hm
    obtain ⟨k, hk0⟩ : ∃ k, k = (b.drop q).take 68 := ⟨_, rfl⟩
    rw [← hk0] at hn HFI hg
    have HKL := Lib.hid hn
    have HG1 := Lib.hid hg
    have har := fun a c => arr_at_key a c
    clear hcur hm hk0 hn hg
    go_enter Tryd.func73, Tryd.ntmps73
    go_upto_region 1 with fail
    rw [← HW.out]
    clear HW
    go_upto_region 2 with (first
      | (go_at_call 69; refine HFI.out.mono ?_; rintro e w1 ⟨A', c', rfl, hc', hl, hk, hs⟩; obtain ⟨a, rfl, hcl⟩ := lies_key hl HKL.out; have H1 := Lib.hid (And.intro hcl (And.intro hk hs)); clear hl hk hs hcl)
      | ((with_reducible show wpList _ _ _ (Oper.mk _ (.load _ _) _ _ _ _ :: _) _ _); refine wl_load_q rfl 58 _ rfl a rfl _ (run_load_q H1.out.1 Tryd.underlying58 rfl info_key) ?_)
      | ((with_reducible show wpList _ _ _ (Oper.mk _ (.store _ _ _) _ _ _ _ :: _) _ _); refine wl_store rfl 58 _ _ rfl _ rfl _ rfl (run_store_arr (Arr.new w1 _ _ _) (bys (kF k)) info_key (bys_one _ _)) ?_))
    obtain ⟨r, hr⟩ : ∃ r, r = w1.heap.size := ⟨_, rfl⟩
    obtain ⟨X, hX⟩ : ∃ X, X = (w1.alloc (.cells (vec 68 (bys zb)) 58)).setRow w1.heap.size (vec 68 (bys (kF k))) := ⟨_, rfl⟩
    have hb1 : Below w1.heap.size w1 X := by rw [hX]; exact below_row ((Below.refl _ _).alloc (Nat.le_refl _) _) (Nat.le_refl _) _
    have k1 : Cur X g A c b q (q + 68) := H1.out.2.1.under hb1
    have k2 : Save g w X := Save.left HA.out.2.1 (H1.out.2.2.trans (Save.of_below hb1))
    have hgr : g ≠ w.heap.size := by have := HGW.out; omega
    have k3 : Arr X w.heap.size 58 68 (bys zb) := (HA.out.1.save H1.out.2.2 (Ne.symm hgr)).under hb1
    have k4 : Arr X r 58 68 (bys (kF k)) := by rw [hX, hr]; exact (Arr.new w1 _ _ _).row _
    have hrw : r ≠ w.heap.size := by have := H1.out.2.2.size; have := HA.out.2.2; omega
    have HR := Lib.hid (And.intro hrw HGW.out)
    have HX := Lib.hid (And.intro k1 (And.intro k2 (And.intro k3 k4)))
    rw [← hX, ← hr]
    clear hX hr hb1 k1 k2 k3 k4 H1 HA HGW hgr hrw
    by_cases h1 : kOk k = true
    · have hg := HG1.out
      rw [if_pos h1] at hg
      have HG := Lib.hid hg
      have hko := h1
      clear hg HG1 h1
      refine wp_region_held_drew (S := fun Y => VS X Y) (by kernel_rfl) (VS.begin X) (fun hS => ?_)
      (refine held_take (i := 0) (oi := ?ot1) (v := ?vt1) ?at1 (by kernel_rfl) (by kernel_rfl) (by kernel_rfl) ?bt1 ?ct1 ?dt1 (by assumption) ?rt1; (case at1 => (simp only [List.getElem?_toArray, List.getElem?_cons_zero]; rfl)); (case bt1 => exact fun _ _ _ h => h); (case ct1 => kernel_rfl); (case dt1 => (intro W hW; (try dsimp only at hW); go_split_ands; go_simp; (try with_reducible rfl))); (case' rt1 => simp only [Act.put, List.setIfInBounds_toArray, List.set_cons_zero, List.set_cons_succ]))
      (refine held_take (i := 1) (oi := ?ot2) (v := ?vt2) ?at2 (by kernel_rfl) (by kernel_rfl) (by kernel_rfl) ?bt2 ?ct2 ?dt2 (by assumption) ?rt2; (case at2 => (simp only [List.getElem?_toArray, List.getElem?_cons_zero, List.getElem?_cons_succ]; rfl)); (case bt2 => exact fun _ _ _ h => h); (case ct2 => kernel_rfl); (case dt2 => (intro W hW; (try dsimp only at hW); go_split_ands; go_simp; (try with_reducible rfl))); (case' rt2 => simp only [Act.put, List.setIfInBounds_toArray, List.set_cons_zero, List.set_cons_succ]))
      (refine held_take (i := 2) (oi := ?ot3) (v := ?vt3) ?at3 (by kernel_rfl) (by kernel_rfl) (by kernel_rfl) ?bt3 ?ct3 ?dt3 (by assumption) ?rt3; (case at3 => (simp only [List.getElem?_toArray, List.getElem?_cons_zero, List.getElem?_cons_succ]; rfl)); (case bt3 => exact fun _ _ _ h => h); (case ct3 => kernel_rfl); (case dt3 => (intro W hW; (try dsimp only at hW); go_split_ands; go_simp; (try with_reducible rfl))); (case' rt3 => simp only [Act.put, List.setIfInBounds_toArray, List.set_cons_zero, List.set_cons_succ]))
      (refine held_take (i := 3) (oi := ?ot4) (v := .agg (vec 68 (bys (kF k)))) ?at4 (by kernel_rfl) (by kernel_rfl) (by kernel_rfl) ?bt4 ?ct4 ?dt4 (by assumption) ?rt4; (case at4 => (simp only [List.getElem?_toArray, List.getElem?_cons_zero, List.getElem?_cons_succ]; rfl)); (case bt4 => exact fun _ _ _ h => h); (case ct4 => kernel_rfl); (case dt4 => (intro W hW; exact exec_load 58 _ rfl _ rfl _ (run_load_arr (HX.out.2.2.2.under (show Below X.heap.size X W from hW)) Tryd.underlying58 rfl info_key))); (case' rt4 => simp only [Act.put, List.setIfInBounds_toArray, List.set_cons_zero, List.set_cons_succ]))
      refine held_one (i := 4) (oi := ?ot5) (by kernel_rfl) ?at5 ?ct5 (fun K4 hK4 => ?_)
      (case at5 => (simp only [List.getElem?_toArray, List.getElem?_cons_zero, List.getElem?_cons_succ]; rfl))
      (case ct5 => kernel_rfl)
      go_simp
      refine (keyed_any k HKL.out _).mono ?_
      rintro e y4 ⟨rfl, hd⟩
      have HD := Lib.hid ((show VS X _ from hS).keep hd)
      refine hK4 _ _ HD.out (fun hS4 => ?_)
      clear hS hd hK4 K4
      refine held_one (i := 5) (oi := ?ot6) (by kernel_rfl) ?at6 ?ct6 (fun K5 hK5 => ?_)
      (case at6 => (simp only [List.getElem?_toArray, List.getElem?_cons_zero, List.getElem?_cons_succ]; rfl))
      (case ct6 => kernel_rfl)
      go_simp
      refine (must_yes _ _ _).mono ?_
      rintro e yy ⟨rfl, rfl⟩
      refine hK5 _ _ HD.out (fun hS5 => ?_)
      clear hS4 hK5 K5
      refine wpAnyH_done (by kernel_rfl) ?_ _
      go_wp2_with (first
        | ((with_reducible show wpList _ _ _ (Oper.mk _ (.load _ _) _ _ _ _ :: _) _ _); refine wl_load rfl 58 _ rfl r rfl _ (run_load_arr (HX.out.2.2.2.under HD.out) Tryd.underlying58 rfl info_key) ?_)
        | ((with_reducible show wpList _ _ _ (Oper.mk _ (.store _ _ _) _ _ _ _ :: _) _ _); refine wl_store rfl 58 _ _ rfl _ rfl _ rfl (run_store_arr (HX.out.2.2.1.under HD.out) (bys (kF k)) info_key (bys_one _ _)) ?_))
      have hb2 : Below (w.heap.size) y4 (y4.setRow w.heap.size (vec 68 (bys (kF k)))) := below_row (Below.refl _ _) (Nat.le_refl _) _
      refine bodyPost_ret (results_cell1 rfl _ _ _ rfl (run_load_arr ((HX.out.2.2.1.under HD.out).row _) Tryd.underlying58 rfl info_key)) rfl (.ok HG.out rfl ⟨HKL.out, rfl⟩ (t := q) ?_ ?_)
      · exact (HX.out.1.under HD.out).on hb2 HR.out.2
      · exact (HX.out.2.1.trans (Save.of_below HD.out)).on hb2 (Nat.le_refl _)
    · have hg := HG1.out
      rw [if_neg h1] at hg
      have HG := Lib.hid hg
      have hko := Bool.eq_false_iff.2 h1
      clear hg HG1 h1
      refine wp_region_held_drew (S := fun Y => VS X Y) (by kernel_rfl) (VS.begin X) (fun hS => ?_)
      (refine held_take (i := 0) (oi := ?ot7) (v := ?vt7) ?at7 (by kernel_rfl) (by kernel_rfl) (by kernel_rfl) ?bt7 ?ct7 ?dt7 (by assumption) ?rt7; (case at7 => (simp only [List.getElem?_toArray, List.getElem?_cons_zero]; rfl)); (case bt7 => exact fun _ _ _ h => h); (case ct7 => kernel_rfl); (case dt7 => (intro W hW; (try dsimp only at hW); go_split_ands; go_simp; (try with_reducible rfl))); (case' rt7 => simp only [Act.put, List.setIfInBounds_toArray, List.set_cons_zero, List.set_cons_succ]))
      (refine held_take (i := 1) (oi := ?ot8) (v := ?vt8) ?at8 (by kernel_rfl) (by kernel_rfl) (by kernel_rfl) ?bt8 ?ct8 ?dt8 (by assumption) ?rt8; (case at8 => (simp only [List.getElem?_toArray, List.getElem?_cons_zero, List.getElem?_cons_succ]; rfl)); (case bt8 => exact fun _ _ _ h => h); (case ct8 => kernel_rfl); (case dt8 => (intro W hW; (try dsimp only at hW); go_split_ands; go_simp; (try with_reducible rfl))); (case' rt8 => simp only [Act.put, List.setIfInBounds_toArray, List.set_cons_zero, List.set_cons_succ]))
      (refine held_take (i := 2) (oi := ?ot9) (v := ?vt9) ?at9 (by kernel_rfl) (by kernel_rfl) (by kernel_rfl) ?bt9 ?ct9 ?dt9 (by assumption) ?rt9; (case at9 => (simp only [List.getElem?_toArray, List.getElem?_cons_zero, List.getElem?_cons_succ]; rfl)); (case bt9 => exact fun _ _ _ h => h); (case ct9 => kernel_rfl); (case dt9 => (intro W hW; (try dsimp only at hW); go_split_ands; go_simp; (try with_reducible rfl))); (case' rt9 => simp only [Act.put, List.setIfInBounds_toArray, List.set_cons_zero, List.set_cons_succ]))
      (refine held_take (i := 3) (oi := ?ot10) (v := .agg (vec 68 (bys (kF k)))) ?at10 (by kernel_rfl) (by kernel_rfl) (by kernel_rfl) ?bt10 ?ct10 ?dt10 (by assumption) ?rt10; (case at10 => (simp only [List.getElem?_toArray, List.getElem?_cons_zero, List.getElem?_cons_succ]; rfl)); (case bt10 => exact fun _ _ _ h => h); (case ct10 => kernel_rfl); (case dt10 => (intro W hW; exact exec_load 58 _ rfl _ rfl _ (run_load_arr (HX.out.2.2.2.under (show Below X.heap.size X W from hW)) Tryd.underlying58 rfl info_key))); (case' rt10 => simp only [Act.put, List.setIfInBounds_toArray, List.set_cons_zero, List.set_cons_succ]))
      refine held_one (i := 4) (oi := ?ot11) (by kernel_rfl) ?at11 ?ct11 (fun K4 hK4 => ?_)
      (case at11 => (simp only [List.getElem?_toArray, List.getElem?_cons_zero, List.getElem?_cons_succ]; rfl))
      (case ct11 => kernel_rfl)
      go_simp
      refine (keyed_any k HKL.out _).mono ?_
      rintro e y4 ⟨rfl, hd⟩
      have HD := Lib.hid ((show VS X _ from hS).keep hd)
      refine hK4 _ _ HD.out (fun hS4 => ?_)
      clear hS hd hK4 K4
      refine held_one (i := 5) (oi := ?ot12) (by kernel_rfl) ?at12 ?ct12 (fun K5 hK5 => ?_)
      (case at12 => (simp only [List.getElem?_toArray, List.getElem?_cons_zero, List.getElem?_cons_succ]; rfl))
      (case ct12 => kernel_rfl)
      go_simp
      refine (must_no 144 (HX.out.1.under HD.out).at1).mono ?_
      rintro e yy ⟨rfl, rfl⟩
      exact ⟨rfl, .no HG.out rfl (HX.out.2.1.trans (Save.of_below HD.out))⟩
  · have hg := key_short b q hm
    have HFI := Lib.hid (field_no hcur 68 hm (by decide))
    have HG := Lib.hid hg
    clear hg hcur hm
    go_enter Tryd.func73, Tryd.ntmps73
    go_upto_region 1 with fail
    rw [← HW.out]
    clear HW
    go_upto_region 2 with (go_at_call 69; refine HFI.out.mono ?_; rintro e w1 ⟨rfl, hs⟩; exact ⟨rfl, .no HG.out rfl (Save.left HA.out.2.1 hs)⟩)
end Go.Proofs.YtmcpmcicolpoeaaDoor
/- What guests and channels are made of, as cells; zeros and sizes; reading one behind the other. -/
namespace Go.Proofs.YtmcpmcicolpoeaaDoor
open Go.RowKit

def winE (x : Wi) : Nat → Value
  | 0 => .int .u64 x.ipa
  | 1 => .int .u64 x.pa
  | 2 => .int .u64 x.size
  | _ => .int .i64 x.perm
def devE (x : De) : Nat → Value
  | 0 => .int .u64 x.ipa
  | 1 => .int .u64 x.pa
  | _ => .int .u64 x.size
def irqE (x : Ir) : Nat → Value
  | 0 => .int .i64 x.number
  | 1 => .int .i64 x.cpu
  | _ => .bool x.edge
def endE (x : En) : Nat → Value
  | 0 => .int .i64 x.guest
  | 1 => .int .i64 x.perm
  | _ => .int .u64 x.ipa
def chE (x : Ch) : Nat → Value
  | 0 => .int .u64 x.pa
  | 1 => .int .u64 x.size
  | i + 2 => if i < 3 then endE x.a i else endE x.b (i - 3)
def twoE (a b : En) : Nat → Value := fun i => if i < 3 then endE a i else endE b (i - 3)
def numE (x : Int) : Nat → Value := fun _ => .int .u32 x
theorem winE_one (x : Wi) (n : Nat) : ∀ i, i < n → (winE x i).oneCell' = true := by
  intro i _; match i with | 0 => rfl | 1 => rfl | 2 => rfl | _ + 3 => rfl
theorem devE_one (x : De) (n : Nat) : ∀ i, i < n → (devE x i).oneCell' = true := by
  intro i _; match i with | 0 => rfl | 1 => rfl | _ + 2 => rfl
theorem irqE_one (x : Ir) (n : Nat) : ∀ i, i < n → (irqE x i).oneCell' = true := by
  intro i _; match i with | 0 => rfl | 1 => rfl | _ + 2 => rfl
theorem endE_one (x : En) (n : Nat) : ∀ i, i < n → (endE x i).oneCell' = true := by
  intro i _; match i with | 0 => rfl | 1 => rfl | _ + 2 => rfl
theorem chE_one (x : Ch) (n : Nat) : ∀ i, i < n → (chE x i).oneCell' = true := by
  intro i _
  match i with
  | 0 => rfl
  | 1 => rfl
  | i + 2 =>
    show (if i < 3 then endE x.a i else endE x.b (i - 3)).oneCell' = true
    split
    · exact endE_one x.a (i + 1) i (Nat.lt_succ_self _)
    · exact endE_one x.b (i - 3 + 1) (i - 3) (Nat.lt_succ_self _)
theorem numE_one (x : Int) (n : Nat) : ∀ i, i < n → (numE x i).oneCell' = true := fun _ _ => rfl
def zWi : Wi := ⟨0, 0, 0, 0⟩
def zDe : De := ⟨0, 0, 0⟩
def zIr : Ir := ⟨0, 0, false⟩
def zEn : En := ⟨0, 0, 0⟩
def zCh : Ch := ⟨0, 0, zEn, zEn⟩
theorem infoWi : (Tryd.prog.info? 108).map (·.size) = some 4 := by kernel_rfl
theorem infoDe : (Tryd.prog.info? 110).map (·.size) = some 3 := by kernel_rfl
theorem infoIr : (Tryd.prog.info? 112).map (·.size) = some 3 := by kernel_rfl
theorem infoEn : (Tryd.prog.info? 68).map (·.size) = some 3 := by kernel_rfl
theorem infoCh : (Tryd.prog.info? 71).map (·.size) = some 8 := by kernel_rfl
theorem zeroWi (w : World) : (zeroValue 108).run Tryd.prog w = .ok (.agg (vec 4 (winE zWi))) w :=
  (zero_of_info (P := Tryd.prog) (t := 108) (v := .agg (vec 4 (winE zWi))) (n := 4) (by kernel_rfl)).1 w
theorem zeroDe (w : World) : (zeroValue 110).run Tryd.prog w = .ok (.agg (vec 3 (devE zDe))) w :=
  (zero_of_info (P := Tryd.prog) (t := 110) (v := .agg (vec 3 (devE zDe))) (n := 3) (by kernel_rfl)).1 w
theorem zeroIr (w : World) : (zeroValue 112).run Tryd.prog w = .ok (.agg (vec 3 (irqE zIr))) w :=
  (zero_of_info (P := Tryd.prog) (t := 112) (v := .agg (vec 3 (irqE zIr))) (n := 3) (by kernel_rfl)).1 w
theorem zeroEn (w : World) : (zeroValue 68).run Tryd.prog w = .ok (.agg (vec 3 (endE zEn))) w :=
  (zero_of_info (P := Tryd.prog) (t := 68) (v := .agg (vec 3 (endE zEn))) (n := 3) (by kernel_rfl)).1 w
theorem zeroCh (w : World) : (zeroValue 71).run Tryd.prog w = .ok (.agg (vec 8 (chE zCh))) w :=
  (zero_of_info (P := Tryd.prog) (t := 71) (v := .agg (vec 8 (chE zCh))) (n := 8) (by kernel_rfl)).1 w
def rowV {α : Type} (n : Nat) (enc : α → Nat → Value) (_ : World) (x : α) (v : Value) : Prop := v = .agg (vec n (enc x))
section
variable {α β : Type} {b : By} {p q r : Nat} {e : Nat × Nat}
theorem dep_no {c : Cod α} {d : α → Cod β} (h : c.get b p = .error e) : (c.dep d).get b p = .error e := by
  unfold Cod.dep; dsimp only; rw [h]
theorem dep_on {c : Cod α} {d : α → Cod β} {x : α} (h : c.get b p = .ok (x, q)) (h2 : (d x).get b q = .error e) : (c.dep d).get b p = .error e := by
  unfold Cod.dep; dsimp only; rw [h]; dsimp only; rw [h2]
theorem dep_ye {c : Cod α} {d : α → Cod β} {x : α} {y : β} (h : c.get b p = .ok (x, q)) (h2 : (d x).get b q = .ok (y, r)) : (c.dep d).get b p = .ok ((x, y), r) := by
  unfold Cod.dep; dsimp only; rw [h]; dsimp only; rw [h2]
theorem map_no {c : Cod α} {f : α → β} {g : β → α} (h : c.get b p = .error e) : (c.map f g).get b p = .error e := by
  unfold Cod.map; dsimp only; rw [h]
theorem map_ye {c : Cod α} {f : α → β} {g : β → α} {x : α} (h : c.get b p = .ok (x, q)) : (c.map f g).get b p = .ok (f x, q) := by
  unfold Cod.map; dsimp only; rw [h]
end
theorem fld_short (m lo hi e : Nat) (b : By) (q : Nat) (h : ¬ q + m ≤ b.length) : (fld m lo hi e).get b q = .error (141, q) := by rw [fld_get, if_neg h]
theorem fld_bad (m lo hi e : Nat) (b : By) (q n : Nat) (h : q + m ≤ b.length) (hn : n = numAt b q m) (h2 : ¬ (lo ≤ n ∧ n ≤ hi)) : (fld m lo hi e).get b q = .error (e, q) := by rw [fld_get, if_pos h, ← hn, if_neg h2]
theorem fld_good (m lo hi e : Nat) (b : By) (q n : Nat) (h : q + m ≤ b.length) (hn : n = numAt b q m) (h2 : lo ≤ n ∧ n ≤ hi) : (fld m lo hi e).get b q = .ok ((n : Int), q + m) := by rw [fld_get, if_pos h, ← hn, if_pos h2]
end Go.Proofs.YtmcpmcicolpoeaaDoor
