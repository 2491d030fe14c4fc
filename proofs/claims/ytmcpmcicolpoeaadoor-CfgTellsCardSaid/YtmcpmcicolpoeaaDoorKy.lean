/- parser.key. -/
import Derived.Test.YtmcpmcicolpoeaaDoorKd
import Derived.Test.YtmcpmcicolpoeaaDoorPr
namespace Go.Proofs.YtmcpmcicolpoeaaDoor
open Go.RowKit
attribute [local go_sem ↓ high] zeroKeyB

theorem arr_at_key (a : Addr) (c : Nat) (w : World) : (Instr.arrayAt 58 (.slice (some a) 68 c)).run Tryd.prog w = .ok (.pointer (some a)) w := by
  simp [Instr.arrayAt, run_underlying Tryd.underlying58]
def keyV (_ : World) (x : By) (v : Value) : Prop := x.length = 68 ∧ v = .agg (vec 68 (bys (kF x)))
section
variable {P : Program} {w : World} {ops : Array Oper} {rest : List Oper} {o : Oper} {a : Act} {Q : Exit → Act → World → Prop}
theorem run_load_q {n : Nat} {f : Nat → Value} {p : Addr} {ty : TypeId} {d : TypeDesc} (h : ∀ i, i < n → w.cell? (p.add i) = some (f i)) (hu : P.underlying ty = some d)
    (hd : (match d with | .struct _ | .array _ _ => true | _ => false) = true) (hi : (P.info? ty).map (·.size) = some n) :
    (loadVar ty p).run P w = .ok (.agg (vec n f)) w := by
  have hl : (loadCells p (vec n f).toList.length).run P w = .ok (vec n f).toList.toArray w :=
    run_loadCells_list (P := P) w p (vec n f).toList (fun j v hv => by
      have hj : j < n := by
        have := (List.getElem?_eq_some_iff.1 hv).1
        simpa [vec] using this
      have hv2 : (vec n f)[j]? = some v := by simpa using hv
      rw [vec_at n f j hj] at hv2
      rw [h j hj, hv2])
  cases hq : P.info? ty with
  | none => simp [hq] at hi
  | some i =>
    have hs : i.size = n := by simpa [hq] using hi
    have hagg : (isAgg ty).run P w = .ok true w := by
      unfold isAgg
      rw [Sem.run_bind, run_underlying hu w]
      cases d <;> simp_all
    have hz : (vec n f).size = n := vec_size n f
    simp only [Array.length_toList, Array.toArray_toList] at hl
    rw [hz] at hl
    simp [loadVar, Sem.run_bind, hagg, sizeOf, typeInfo, hq, hs, hl]
theorem exec_load_q (ty : TypeId) (x : Operand) (ho : o.op = .load ty x) (p : Addr) (hx : a.eval x = .pointer (some p)) (v : Value)
    (hl : (loadVar ty p).run P w = .ok v w) : (execOp a.eval o).run P w = .ok (.value v) w := by
  unfold execOp
  simp only [ho, hx, Instr.loadAt, Instr.sureAddr, Sem.run_bind, Sem.run_pure, Result.andThen_ok, hl]
theorem wl_load_q (hgd : o.guard = none) (ty : TypeId) (x : Operand) (ho : o.op = .load ty x) (p : Addr) (hx : a.eval x = .pointer (some p)) (v : Value)
    (hl : (loadVar ty p).run P w = .ok v w) (h : wpList P ops Q rest (a.put o.dst v) w) : wpList P ops Q (o :: rest) a w :=
  wpList_plain hgd fun _ hK => by
    unfold Oper.wp
    rw [exec_load_q ty x ho p hx v hl]
    exact hK _ _ h
end
theorem lies_key {w : World} {B : Nat} {A : Option Addr} {k : By} (h : Lies w B 1 A 68 (u8s k)) (hk : k.length = 68) : ∃ a, A = some a ∧ ∀ i, i < 68 → w.cell? (a.add i) = some (bys (kF k) i) := by
  obtain ⟨a, e, hb, hc⟩ := h.2 (by decide)
  refine ⟨a, e, fun i hi => ?_⟩
  rw [hc i (by rw [u8s_length, hk]; exact hi)]
  have hi2 : i < k.length := by omega
  simp [u8s, bys, kF, hi2]
theorem key_short (b : By) (q : Nat) (h : ¬ q + 68 ≤ b.length) : (keyC kOk).get b q = .error (141, q) := by
  unfold keyC raw
  dsimp only
  rw [if_neg h]
theorem key_get (b : By) (q : Nat) (h : q + 68 ≤ b.length) : (keyC kOk).get b q = if kOk ((b.drop q).take 68) = true then .ok ((b.drop q).take 68, q + 68) else .error (144, q) := by
  unfold keyC raw
  dsimp only
  rw [if_pos h]
  by_cases h2 : kOk ((b.drop q).take 68) = true
  · rw [if_pos h2, if_pos h2]
  · rw [if_neg h2, if_neg h2]
/-- A world that goes on: all below n is as it was. -/
theorem Save.on {g n : Nat} {V Y Z : World} (h : Save g V Y) (hd : Below n Y Z) (hn : V.heap.size ≤ n) : Save g V Z :=
  ⟨hd.os.trans h.os, hd.tape.trans h.tape, hd.output.trans h.output, Nat.le_trans h.size hd.size, fun k hk hkr => (hd.block k (by omega)).trans (h.block k hk hkr)⟩
theorem Cur.on {g n c at_ q : Nat} {A : Option Addr} {b : By} {Y Z : World} (h : Cur Y g A c b at_ q) (hd : Below n Y Z) (hn : g < n) : Cur Z g A c b at_ q :=
  ⟨h.blk.below hd hn, h.lies.below (hd.mono (Nat.le_of_lt hn)), h.cap, h.len, h.ge, h.le⟩
theorem Save.left {g : Nat} {w V W : World} (h1 : Below w.heap.size w V) (h2 : Save g V W) : Save g w W := ⟨h2.os.trans h1.os, h2.tape.trans h1.tape, h2.output.trans h1.output, Nat.le_trans h1.size h2.size, fun k hk hg => (h2.block k (Nat.lt_of_lt_of_le hk h1.size) hg).trans (h1.block k hk)⟩
set_option maxHeartbeats 2000000 in
set_option maxRecDepth 100000 in
theorem pkey_any {w : World} {g c at_ q : Nat} {A : Option Addr} {b : By} (h : Cur w g A c b at_ q) : Calls Tryd.prog 73 #[.pointer (some ⟨g, 0, none⟩)] w (Rd (keyC kOk) keyV b q g A c w) := by
  obtain ⟨V, hV⟩ : ∃ V, V = w.alloc (.cells (vec 68 (bys zb)) 58) := ⟨_, rfl⟩
  have h0 : Arr V w.heap.size 58 68 (bys zb) := by rw [hV]; exact Arr.new w _ _ _
  have hB : Below w.heap.size w V := by rw [hV]; exact (Below.refl _ _).alloc (Nat.le_refl _) _
  have hVs : V.heap.size = w.heap.size + 1 := by rw [hV]; simp
  have HGW := Lib.hid h.lt
  have hcur : Cur V g A c b at_ q := h.under hB
  have HA := Lib.hid (And.intro h0 (And.intro hB hVs))
  have HW := Lib.hid hV
  clear hV h0 hB h hVs
  by_cases hm : q + 68 ≤ b.length
  · have hg := key_get b q hm
    have HFI := Lib.hid (field_yes hcur 68 hm (by decide) (by decide))
    have hn := cut_len b q 68 hm
    obtain ⟨k, hk0⟩ : ∃ k, k = (b.drop q).take 68 := ⟨_, rfl⟩
    rw [← hk0] at hn HFI hg
    have HKL := Lib.hid hn
    have HG1 := Lib.hid hg
    have har := fun a c => arr_at_key a c
    clear hcur hm hk0 hn hg
    go_enter Tryd.func73, Tryd.ntmps73
    go_upto_region 1 with fail
    rw [← HW.out]
    clear HW
    go_upto_region 2 with (first
      | (go_at_call 69; refine HFI.out.mono ?_; rintro e w1 ⟨A', c', rfl, hc', hl, hk, hs⟩; obtain ⟨a, rfl, hcl⟩ := lies_key hl HKL.out; have H1 := Lib.hid (And.intro hcl (And.intro hk hs)); clear hl hk hs hcl)
      | ((with_reducible show wpList _ _ _ (Oper.mk _ (.load _ _) _ _ _ _ :: _) _ _); refine wl_load_q rfl 58 _ rfl a rfl _ (run_load_q H1.out.1 Tryd.underlying58 rfl info_key) ?_)
      | ((with_reducible show wpList _ _ _ (Oper.mk _ (.store _ _ _) _ _ _ _ :: _) _ _); refine wl_store rfl 58 _ _ rfl _ rfl _ rfl (run_store_arr (Arr.new w1 _ _ _) (bys (kF k)) info_key (bys_one _ _)) ?_))
    obtain ⟨r, hr⟩ : ∃ r, r = w1.heap.size := ⟨_, rfl⟩
    obtain ⟨X, hX⟩ : ∃ X, X = (w1.alloc (.cells (vec 68 (bys zb)) 58)).setRow w1.heap.size (vec 68 (bys (kF k))) := ⟨_, rfl⟩
    have hb1 : Below w1.heap.size w1 X := by rw [hX]; exact below_row ((Below.refl _ _).alloc (Nat.le_refl _) _) (Nat.le_refl _) _
    have k1 : Cur X g A c b q (q + 68) := H1.out.2.1.under hb1
    have k2 : Save g w X := Save.left HA.out.2.1 (H1.out.2.2.trans (Save.of_below hb1))
    have hgr : g ≠ w.heap.size := by have := HGW.out; omega
    have k3 : Arr X w.heap.size 58 68 (bys zb) := (HA.out.1.save H1.out.2.2 (Ne.symm hgr)).under hb1
    have k4 : Arr X r 58 68 (bys (kF k)) := by rw [hX, hr]; exact (Arr.new w1 _ _ _).row _
    have hrw : r ≠ w.heap.size := by have := H1.out.2.2.size; have := HA.out.2.2; omega
    have HR := Lib.hid (And.intro hrw HGW.out)
    have HX := Lib.hid (And.intro k1 (And.intro k2 (And.intro k3 k4)))
    rw [← hX, ← hr]
    clear hX hr hb1 k1 k2 k3 k4 H1 HA HGW hgr hrw
    by_cases h1 : kOk k = true
    · have hg := HG1.out
      rw [if_pos h1] at hg
      have HG := Lib.hid hg
      have hko := h1
      clear hg HG1 h1
      refine wp_region_held_drew (S := fun Y => VS X Y) (by kernel_rfl) (VS.begin X) (fun hS => ?_)
      (refine held_take (i := 0) (oi := ?ot1) (v := ?vt1) ?at1 (by kernel_rfl) (by kernel_rfl) (by kernel_rfl) ?bt1 ?ct1 ?dt1 (by assumption) ?rt1; (case at1 => (simp only [List.getElem?_toArray, List.getElem?_cons_zero]; rfl)); (case bt1 => exact fun _ _ _ h => h); (case ct1 => kernel_rfl); (case dt1 => (intro W hW; (try dsimp only at hW); go_split_ands; go_simp; (try with_reducible rfl))); (case' rt1 => simp only [Act.put, List.setIfInBounds_toArray, List.set_cons_zero, List.set_cons_succ]))
      (refine held_take (i := 1) (oi := ?ot2) (v := ?vt2) ?at2 (by kernel_rfl) (by kernel_rfl) (by kernel_rfl) ?bt2 ?ct2 ?dt2 (by assumption) ?rt2; (case at2 => (simp only [List.getElem?_toArray, List.getElem?_cons_zero, List.getElem?_cons_succ]; rfl)); (case bt2 => exact fun _ _ _ h => h); (case ct2 => kernel_rfl); (case dt2 => (intro W hW; (try dsimp only at hW); go_split_ands; go_simp; (try with_reducible rfl))); (case' rt2 => simp only [Act.put, List.setIfInBounds_toArray, List.set_cons_zero, List.set_cons_succ]))
      (refine held_take (i := 2) (oi := ?ot3) (v := ?vt3) ?at3 (by kernel_rfl) (by kernel_rfl) (by kernel_rfl) ?bt3 ?ct3 ?dt3 (by assumption) ?rt3; (case at3 => (simp only [List.getElem?_toArray, List.getElem?_cons_zero, List.getElem?_cons_succ]; rfl)); (case bt3 => exact fun _ _ _ h => h); (case ct3 => kernel_rfl); (case dt3 => (intro W hW; (try dsimp only at hW); go_split_ands; go_simp; (try with_reducible rfl))); (case' rt3 => simp only [Act.put, List.setIfInBounds_toArray, List.set_cons_zero, List.set_cons_succ]))
      (refine held_take (i := 3) (oi := ?ot4) (v := .agg (vec 68 (bys (kF k)))) ?at4 (by kernel_rfl) (by kernel_rfl) (by kernel_rfl) ?bt4 ?ct4 ?dt4 (by assumption) ?rt4; (case at4 => (simp only [List.getElem?_toArray, List.getElem?_cons_zero, List.getElem?_cons_succ]; rfl)); (case bt4 => exact fun _ _ _ h => h); (case ct4 => kernel_rfl); (case dt4 => (intro W hW; exact exec_load 58 _ rfl _ rfl _ (run_load_arr (HX.out.2.2.2.under (show Below X.heap.size X W from hW)) Tryd.underlying58 rfl info_key))); (case' rt4 => simp only [Act.put, List.setIfInBounds_toArray, List.set_cons_zero, List.set_cons_succ]))
      refine held_one (i := 4) (oi := ?ot5) (by kernel_rfl) ?at5 ?ct5 (fun K4 hK4 => ?_)
      (case at5 => (simp only [List.getElem?_toArray, List.getElem?_cons_zero, List.getElem?_cons_succ]; rfl))
      (case ct5 => kernel_rfl)
      go_simp
      refine (keyed_any k HKL.out _).mono ?_
      rintro e y4 ⟨rfl, hd⟩
      have HD := Lib.hid ((show VS X _ from hS).keep hd)
      refine hK4 _ _ HD.out (fun hS4 => ?_)
      clear hS hd hK4 K4
      refine held_one (i := 5) (oi := ?ot6) (by kernel_rfl) ?at6 ?ct6 (fun K5 hK5 => ?_)
      (case at6 => (simp only [List.getElem?_toArray, List.getElem?_cons_zero, List.getElem?_cons_succ]; rfl))
      (case ct6 => kernel_rfl)
      go_simp
      refine (must_yes _ _ _).mono ?_
      rintro e yy ⟨rfl, rfl⟩
      refine hK5 _ _ HD.out (fun hS5 => ?_)
      clear hS4 hK5 K5
      refine wpAnyH_done (by kernel_rfl) ?_ _
      go_wp2_with (first
        | ((with_reducible show wpList _ _ _ (Oper.mk _ (.load _ _) _ _ _ _ :: _) _ _); refine wl_load rfl 58 _ rfl r rfl _ (run_load_arr (HX.out.2.2.2.under HD.out) Tryd.underlying58 rfl info_key) ?_)
        | ((with_reducible show wpList _ _ _ (Oper.mk _ (.store _ _ _) _ _ _ _ :: _) _ _); refine wl_store rfl 58 _ _ rfl _ rfl _ rfl (run_store_arr (HX.out.2.2.1.under HD.out) (bys (kF k)) info_key (bys_one _ _)) ?_))
      have hb2 : Below (w.heap.size) y4 (y4.setRow w.heap.size (vec 68 (bys (kF k)))) := below_row (Below.refl _ _) (Nat.le_refl _) _
      refine bodyPost_ret (results_cell1 rfl _ _ _ rfl (run_load_arr ((HX.out.2.2.1.under HD.out).row _) Tryd.underlying58 rfl info_key)) rfl (.ok HG.out rfl ⟨HKL.out, rfl⟩ (t := q) ?_ ?_)
      · exact (HX.out.1.under HD.out).on hb2 HR.out.2
      · exact (HX.out.2.1.trans (Save.of_below HD.out)).on hb2 (Nat.le_refl _)
    · have hg := HG1.out
      rw [if_neg h1] at hg
      have HG := Lib.hid hg
      have hko := Bool.eq_false_iff.2 h1
      clear hg HG1 h1
      refine wp_region_held_drew (S := fun Y => VS X Y) (by kernel_rfl) (VS.begin X) (fun hS => ?_)
      (refine held_take (i := 0) (oi := ?ot7) (v := ?vt7) ?at7 (by kernel_rfl) (by kernel_rfl) (by kernel_rfl) ?bt7 ?ct7 ?dt7 (by assumption) ?rt7; (case at7 => (simp only [List.getElem?_toArray, List.getElem?_cons_zero]; rfl)); (case bt7 => exact fun _ _ _ h => h); (case ct7 => kernel_rfl); (case dt7 => (intro W hW; (try dsimp only at hW); go_split_ands; go_simp; (try with_reducible rfl))); (case' rt7 => simp only [Act.put, List.setIfInBounds_toArray, List.set_cons_zero, List.set_cons_succ]))
      (refine held_take (i := 1) (oi := ?ot8) (v := ?vt8) ?at8 (by kernel_rfl) (by kernel_rfl) (by kernel_rfl) ?bt8 ?ct8 ?dt8 (by assumption) ?rt8; (case at8 => (simp only [List.getElem?_toArray, List.getElem?_cons_zero, List.getElem?_cons_succ]; rfl)); (case bt8 => exact fun _ _ _ h => h); (case ct8 => kernel_rfl); (case dt8 => (intro W hW; (try dsimp only at hW); go_split_ands; go_simp; (try with_reducible rfl))); (case' rt8 => simp only [Act.put, List.setIfInBounds_toArray, List.set_cons_zero, List.set_cons_succ]))
      (refine held_take (i := 2) (oi := ?ot9) (v := ?vt9) ?at9 (by kernel_rfl) (by kernel_rfl) (by kernel_rfl) ?bt9 ?ct9 ?dt9 (by assumption) ?rt9; (case at9 => (simp only [List.getElem?_toArray, List.getElem?_cons_zero, List.getElem?_cons_succ]; rfl)); (case bt9 => exact fun _ _ _ h => h); (case ct9 => kernel_rfl); (case dt9 => (intro W hW; (try dsimp only at hW); go_split_ands; go_simp; (try with_reducible rfl))); (case' rt9 => simp only [Act.put, List.setIfInBounds_toArray, List.set_cons_zero, List.set_cons_succ]))
      (refine held_take (i := 3) (oi := ?ot10) (v := .agg (vec 68 (bys (kF k)))) ?at10 (by kernel_rfl) (by kernel_rfl) (by kernel_rfl) ?bt10 ?ct10 ?dt10 (by assumption) ?rt10; (case at10 => (simp only [List.getElem?_toArray, List.getElem?_cons_zero, List.getElem?_cons_succ]; rfl)); (case bt10 => exact fun _ _ _ h => h); (case ct10 => kernel_rfl); (case dt10 => (intro W hW; exact exec_load 58 _ rfl _ rfl _ (run_load_arr (HX.out.2.2.2.under (show Below X.heap.size X W from hW)) Tryd.underlying58 rfl info_key))); (case' rt10 => simp only [Act.put, List.setIfInBounds_toArray, List.set_cons_zero, List.set_cons_succ]))
      refine held_one (i := 4) (oi := ?ot11) (by kernel_rfl) ?at11 ?ct11 (fun K4 hK4 => ?_)
      (case at11 => (simp only [List.getElem?_toArray, List.getElem?_cons_zero, List.getElem?_cons_succ]; rfl))
      (case ct11 => kernel_rfl)
      go_simp
      refine (keyed_any k HKL.out _).mono ?_
      rintro e y4 ⟨rfl, hd⟩
      have HD := Lib.hid ((show VS X _ from hS).keep hd)
      refine hK4 _ _ HD.out (fun hS4 => ?_)
      clear hS hd hK4 K4
      refine held_one (i := 5) (oi := ?ot12) (by kernel_rfl) ?at12 ?ct12 (fun K5 hK5 => ?_)
      (case at12 => (simp only [List.getElem?_toArray, List.getElem?_cons_zero, List.getElem?_cons_succ]; rfl))
      (case ct12 => kernel_rfl)
      go_simp
      refine (must_no 144 (HX.out.1.under HD.out).at1).mono ?_
      rintro e yy ⟨rfl, rfl⟩
      exact ⟨rfl, .no HG.out rfl (HX.out.2.1.trans (Save.of_below HD.out))⟩
  · have hg := key_short b q hm
    have HFI := Lib.hid (field_no hcur 68 hm (by decide))
    have HG := Lib.hid hg
    clear hg hcur hm
    go_enter Tryd.func73, Tryd.ntmps73
    go_upto_region 1 with fail
    rw [← HW.out]
    clear HW
    go_upto_region 2 with (go_at_call 69; refine HFI.out.mono ?_; rintro e w1 ⟨rfl, hs⟩; exact ⟨rfl, .no HG.out rfl (Save.left HA.out.2.1 hs)⟩)
end Go.Proofs.YtmcpmcicolpoeaaDoor
