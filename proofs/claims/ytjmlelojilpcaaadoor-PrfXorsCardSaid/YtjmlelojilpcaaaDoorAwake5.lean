/- The chapter's example: awake. -/
import Derived.Test.YtjmlelojilpcaaaDoorRRand
namespace Go.Proofs.YtjmlelojilpcaaaDoor
open Go.RowKit
attribute [local go_sem ↓ high] zeroV26

theorem exec_build {P : Program} {o : Oper} {a : Act} (t : TypeId) (parts : Array (Nat × Operand)) (ho : o.op = .build t parts) (cs : Array Value)
    (hb : P.built t (parts.map fun (i, x) => (i, a.eval x)).toList = some cs) (w : World) : (execOp a.eval o).run P w = .ok (.value (.agg cs)) w := by
  unfold execOp
  simp only [ho, Sem.run_bind, run_build w t _ cs hb, Result.andThen_ok, Sem.run_pure]
theorem make96 (w : World) : (Instr.makeSlice 25 (.int .i64 96) (.int .i64 96)).run Tryd.prog w = .ok (.slice (some ⟨w.heap.size, 0, none⟩) 96 96) (w.alloc (.cells (vec 96 bz) 5)) := make_i 96 (by decide) w
theorem zeros96 : wideL 0 ++ (nodeL zb ++ nodeL zb) = zerosL 96 := by decide +kernel
theorem f_zeros (w : World) (hT : Tabs w) :
    Calls Tryd.prog 12 #[.agg (vec 32 (bys zb)), .agg (vec 32 (bys zb))] w fun e w' => e = .returned (.agg (vec 32 (bys (shaL (zerosL 96))))) ∧ Below w.heap.size w w' := by
  have h := f_any zb zb w hT
  unfold fF at h
  rw [zeros96] at h
  exact h
theorem sum_zeros (A : Option Addr) (c : Nat) (w : World) (hl : Lies w w.heap.size 1 A 96 (u8s (zerosL 96))) :
    Calls Tryd.prog 24 #[.slice A 96 c] w fun e w' => e = .returned (.agg (vec 32 (bys (shaL (zerosL 96))))) ∧ Below w.heap.size w w' := by
  have h96 : (zerosL 96).length = 96 := by simp [zerosL]
  have h := rsum_any (zerosL 96) A c w (by rw [h96]; exact hl) (by rw [h96]; decide)
  rw [h96] at h
  exact h
theorem zeros_at (W : World) : Lies (W.alloc (.cells (vec 96 bz) 5)) (W.alloc (.cells (vec 96 bz) 5)).heap.size 1 (some ⟨W.heap.size, 0, none⟩) 96 (u8s (zerosL 96)) :=
  (lies_zeros W 96 5).wide (by simp)
/-- A region that leaves all as it was in V. -/
def VS (V Y : World) : Prop := Below V.heap.size V Y
theorem VS.keep {V Y Z : World} (h : VS V Y) (hd : Below Y.heap.size Y Z) : VS V Z := Below.trans h (hd.mono h.size)
theorem VS.begin (V : World) : VS V V.drew := below_drew V
theorem VS.below0 {w V Y : World} (h : VS V Y) (hV : Below w.heap.size w V) : Below w.heap.size w Y := hV.trans (Below.mono h hV.size)
set_option maxHeartbeats 1000000 in
set_option maxRecDepth 100000 in
theorem awake5_any (w : World) (hT : Tabs w) :
    Calls Tryd.prog 8 #[] w fun e w' => e = .returned (.bool true) ∧ Below w.heap.size w w' := by
  have HT := Lib.hid hT
  clear hT
  have hmk := make96
  go_enter Tryd.func8, Tryd.ntmps8
  go_upto_region 1 with fail
  refine wp_region_held_drew (S := fun Y => VS w Y) (by kernel_rfl) (VS.begin w) (fun hS => ?_)
  (refine held_take (i := 0) (oi := ?ot1) (v := .agg (vec 32 (bys zb))) ?at1 (by kernel_rfl) (by kernel_rfl) (by kernel_rfl) ?bt1 ?ct1 ?dt1 (by assumption) ?rt1; (case at1 => (simp only [List.getElem?_toArray, List.getElem?_cons_zero]; rfl)); (case bt1 => exact fun _ _ _ h => h); (case ct1 => kernel_rfl); (case dt1 => (intro W hW; exact exec_build 27 _ rfl (vec 32 (bys zb)) (by kernel_rfl) W)); (case' rt1 => simp only [Act.put, List.setIfInBounds_toArray, List.set_cons_zero, List.set_cons_succ]))
  (refine held_take (i := 1) (oi := ?ot2) (v := .agg (vec 32 (bys zb))) ?at2 (by kernel_rfl) (by kernel_rfl) (by kernel_rfl) ?bt2 ?ct2 ?dt2 (by assumption) ?rt2; (case at2 => (simp only [List.getElem?_toArray, List.getElem?_cons_zero, List.getElem?_cons_succ]; rfl)); (case bt2 => exact fun _ _ _ h => h); (case ct2 => kernel_rfl); (case dt2 => (intro W hW; exact exec_build 27 _ rfl (vec 32 (bys zb)) (by kernel_rfl) W)); (case' rt2 => simp only [Act.put, List.setIfInBounds_toArray, List.set_cons_zero, List.set_cons_succ]))
  refine held_two (i := 2) (j := 3) (oi := ?oit11) (oj := ?ojt11) (by kernel_rfl) ?ait11 ?ajt11 ?cit11 ?cjt11 (fun K2 hK2 => ?hit11) (fun K3 hK3 => ?hjt11)
  (case ait11 => (simp only [List.getElem?_toArray, List.getElem?_cons_zero, List.getElem?_cons_succ]; rfl))
  (case ajt11 => (simp only [List.getElem?_toArray, List.getElem?_cons_zero, List.getElem?_cons_succ]; rfl))
  (case cit11 => kernel_rfl)
  (case cjt11 => kernel_rfl)
  case hit11 =>
    have hSb := hS
    go_simp
    refine (f_zeros _ (tabs_below HT.out hSb)).mono ?_
    rintro e y2 ⟨rfl, hd⟩
    (first | (have HZ2 := Lib.hid ((HZ.out.below hd).wide hd.size)) | skip)
    refine hK2 _ _ (hSb.keep hd) (fun hS2 => ?_)
    clear hd hK2 K2
    refine held_one (i := 3) (oi := ?ot3) (by kernel_rfl) ?at3 ?ct3 (fun K3 hK3 => ?_)
    (case at3 => (simp only [List.getElem?_toArray, List.getElem?_cons_zero, List.getElem?_cons_succ]; rfl))
    (case ct3 => kernel_rfl)
    have hSb := hS2
    go_simp
    refine hK3 _ _ (hSb.keep (below_alloc1 _ _)) (fun hS3 => ?_)
    clear hK3 K3
    have HZ := Lib.hid (zeros_at y2)
    refine held_one (i := 4) (oi := ?ot4) (by kernel_rfl) ?at4 ?ct4 (fun K4 hK4 => ?_)
    (case at4 => (simp only [List.getElem?_toArray, List.getElem?_cons_zero, List.getElem?_cons_succ]; rfl))
    (case ct4 => kernel_rfl)
    have hSb := hS3
    go_simp
    refine (sum_zeros _ _ _ (by first | exact HZ2.out | exact HZ.out)).mono ?_
    rintro e y4 ⟨rfl, hd⟩
    refine hK4 _ _ (hSb.keep hd) (fun hS4 => ?_)
    clear hd hK4 K4
    (refine held_take (i := 5) (oi := ?ot5) (v := .bool true) ?at5 (by kernel_rfl) (by kernel_rfl) (by kernel_rfl) ?bt5 ?ct5 ?dt5 (by assumption) ?rt5; (case at5 => (simp only [List.getElem?_toArray, List.getElem?_cons_zero, List.getElem?_cons_succ]; rfl)); (case bt5 => exact fun _ _ _ h => h); (case ct5 => kernel_rfl); (case dt5 => (intro W hW; exact exec_eql32 _ _ _ rfl (shaL (zerosL 96)) rfl rfl W)); (case' rt5 => simp only [Act.put, List.setIfInBounds_toArray, List.set_cons_zero, List.set_cons_succ]))
    (refine held_take (i := 6) (oi := ?ot6) (v := ?vt6) ?at6 (by kernel_rfl) (by kernel_rfl) (by kernel_rfl) ?bt6 ?ct6 ?dt6 (by assumption) ?rt6; (case at6 => (simp only [List.getElem?_toArray, List.getElem?_cons_zero, List.getElem?_cons_succ]; rfl)); (case bt6 => exact fun _ _ _ h => h); (case ct6 => kernel_rfl); (case dt6 => (intro W hW; (try dsimp only at hW); go_split_ands; go_simp; (try with_reducible rfl))); (case' rt6 => simp only [Act.put, List.setIfInBounds_toArray, List.set_cons_zero]))
    refine wpAnyH_done (by kernel_rfl) ?_ _
    go_wp2
    go_ret
    exact ⟨rfl, hS4⟩
  case hjt11 =>
    have hSb := hS
    go_simp
    refine hK3 _ _ (hSb.keep (below_alloc1 _ _)) (fun hS3 => ?_)
    clear hK3 K3
    have HZ := Lib.hid (zeros_at w.drew)
    refine held_one (i := 2) (oi := ?ot7) (by kernel_rfl) ?at7 ?ct7 (fun K2 hK2 => ?_)
    (case at7 => (simp only [List.getElem?_toArray, List.getElem?_cons_zero, List.getElem?_cons_succ]; rfl))
    (case ct7 => kernel_rfl)
    have hSb := hS3
    go_simp
    refine (f_zeros _ (tabs_below HT.out hSb)).mono ?_
    rintro e y2 ⟨rfl, hd⟩
    (first | (have HZ2 := Lib.hid ((HZ.out.below hd).wide hd.size)) | skip)
    refine hK2 _ _ (hSb.keep hd) (fun hS2 => ?_)
    clear hd hK2 K2
    refine held_one (i := 4) (oi := ?ot8) (by kernel_rfl) ?at8 ?ct8 (fun K4 hK4 => ?_)
    (case at8 => (simp only [List.getElem?_toArray, List.getElem?_cons_zero, List.getElem?_cons_succ]; rfl))
    (case ct8 => kernel_rfl)
    have hSb := hS2
    go_simp
    refine (sum_zeros _ _ _ (by first | exact HZ2.out | exact HZ.out)).mono ?_
    rintro e y4 ⟨rfl, hd⟩
    refine hK4 _ _ (hSb.keep hd) (fun hS4 => ?_)
    clear hd hK4 K4
    (refine held_take (i := 5) (oi := ?ot9) (v := .bool true) ?at9 (by kernel_rfl) (by kernel_rfl) (by kernel_rfl) ?bt9 ?ct9 ?dt9 (by assumption) ?rt9; (case at9 => (simp only [List.getElem?_toArray, List.getElem?_cons_zero, List.getElem?_cons_succ]; rfl)); (case bt9 => exact fun _ _ _ h => h); (case ct9 => kernel_rfl); (case dt9 => (intro W hW; exact exec_eql32 _ _ _ rfl (shaL (zerosL 96)) rfl rfl W)); (case' rt9 => simp only [Act.put, List.setIfInBounds_toArray, List.set_cons_zero, List.set_cons_succ]))
    (refine held_take (i := 6) (oi := ?ot10) (v := ?vt10) ?at10 (by kernel_rfl) (by kernel_rfl) (by kernel_rfl) ?bt10 ?ct10 ?dt10 (by assumption) ?rt10; (case at10 => (simp only [List.getElem?_toArray, List.getElem?_cons_zero, List.getElem?_cons_succ]; rfl)); (case bt10 => exact fun _ _ _ h => h); (case ct10 => kernel_rfl); (case dt10 => (intro W hW; (try dsimp only at hW); go_split_ands; go_simp; (try with_reducible rfl))); (case' rt10 => simp only [Act.put, List.setIfInBounds_toArray, List.set_cons_zero]))
    refine wpAnyH_done (by kernel_rfl) ?_ _
    go_wp2
    go_ret
    exact ⟨rfl, hS4⟩
end Go.Proofs.YtjmlelojilpcaaaDoor
