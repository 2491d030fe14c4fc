/- A place of a chain: its methods, placed, Secret. -/
import Derived.Deep.Cut
import Derived.Test.YtepgndgelfkcnaaDoorChn
import Derived.Test.YtepgndgelfkcnaaDoorAdrsO
import Derived.Test.YtepgndgelfkcnaaDoorHalf
namespace Go.Proofs.YtepgndgelfkcnaaDoor
open Go.RowKit

/-- A place of a chain: its address, its seed. -/
def plF (a b c : Int) (s : Nat → UInt8) : Nat → Value
  | 0 => .int .u32 0
  | 1 => .int .u64 0
  | 2 => .int .u32 0
  | 3 => .int .u32 a
  | 4 => .int .u32 b
  | 5 => .int .u32 c
  | 6 => .int .u32 0
  | i + 7 => bys s i
theorem plF_one (a b c : Int) (s : Nat → UInt8) (n : Nat) : ∀ i, i < n → (plF a b c s i).oneCell' = true := by
  intro i _
  unfold plF
  split <;> rfl
theorem plF_c (a b c d : Int) (s : Nat → UInt8) : upd (plF a b c s) 5 (.int .u32 d) = plF a b d s := by
  funext j
  by_cases e : j = 5
  · subst e; simp [upd, plF]
  · unfold upd; rw [if_neg e]
    match j, e with
    | 0, _ => rfl
    | 1, _ => rfl
    | 2, _ => rfl
    | 3, _ => rfl
    | 4, _ => rfl
    | 6, _ => rfl
    | j + 7, _ => rfl
theorem info45 : (Tryd.prog.info? 45).map (·.size) = some 39 := by kernel_rfl
theorem zeroV45 (w : World) : (zeroValue 45).run Tryd.prog w = .ok (.agg (vec 39 (plF 0 0 0 zb))) w :=
  (zero_of_info (P := Tryd.prog) (t := 45) (v := .agg (vec 39 (plF 0 0 0 zb))) (n := 39) (by kernel_rfl)).1 w
attribute [local go_sem ↓ high] zeroV26 zeroV45
set_option maxRecDepth 100000 in
theorem load_adrs {w : World} {g : Nat} {a b c : Int} {s : Nat → UInt8} (h : Arr w g 45 39 (plF a b c s)) : (loadVar 43 ⟨g, 0, none⟩).run Tryd.prog w = .ok (adV 0 0 0 a b c 0) w :=
  (run_load_cells (n := 7) (f := plF a b c s) (fun i hi => h.cell (by omega)) Tryd.underlying43 rfl infoAd).trans rfl
set_option maxRecDepth 100000 in
theorem load_seed {w : World} {g : Nat} {a b c : Int} {s : Nat → UInt8} (h : Arr w g 45 39 (plF a b c s)) : (loadVar 23 ⟨g, 7, none⟩).run Tryd.prog w = .ok (.agg (vec 32 (bys s))) w :=
  run_load_spl (n := 32) (f := bys s) (fun i hi => (h.cell (i := 7 + i) (by omega)).trans (by rw [Nat.add_comm]; rfl)) Tryd.underlying23 rfl info26
theorem results_cell_tmp {fn : Func} {p q : Tmp} {ty : TypeId} {P : Program} {w : World} (h : fn.results = #[.cell p ty, .tmp q]) (tmps : Array Value) (g : Nat) (v : Value)
    (ha : tmps.getD p undef = .pointer (some ⟨g, 0, none⟩)) (hl : (loadVar ty ⟨g, 0, none⟩).run P w = .ok v w) : (results fn tmps).run P w = .ok (.tuple #[v, tmps.getD q undef]) w := by
  have hp' : tmps[p]?.getD undef = .pointer (some ⟨g, 0, none⟩) := by simpa using ha
  simp [results, h, hp', asAddr, hl]

set_option maxHeartbeats 1000000 in
set_option maxRecDepth 100000 in
theorem at_any (a b c : Int) (s : Nat → UInt8) (i : Nat) (hi : i < 4294967296) (w : World) :
    Calls Tryd.prog 22 #[.agg (vec 39 (plF a b c s)), .int .i64 (i : Int)] w fun e w' => e = .returned (.agg (vec 39 (plF a b (i : Int) s))) ∧ Below w.heap.size w w' := by
  obtain ⟨V, hV⟩ : ∃ V, V = (w.alloc (.cells (vec 39 (plF a b c s)) 45)).alloc (.cells (vec 39 (plF 0 0 0 zb)) 45) := ⟨_, rfl⟩
  have hA : Arr V w.heap.size 45 39 (plF a b c s) := by rw [hV]; exact (Arr.newAt _ _ _ _ (by simp)).alloc _
  have hR : Arr V (w.heap.size + 1) 45 39 (plF 0 0 0 zb) := by rw [hV]; exact Arr.newAt _ _ _ _ (by simp)
  have hB : Below w.heap.size w V := by rw [hV]; exact (((Below.refl _ _).alloc (by simp <;> omega) _).alloc (by simp <;> omega) _)
  have hc := hA.cell (i := 5) (by decide)
  have hf := hA.frozen 5
  have HA := Lib.hid (And.intro (plF_c a b c i s ▸ hA.set 5 (.int .u32 (i : Int))) (And.intro (hR.far (p := ⟨w.heap.size, 5, none⟩) (show w.heap.size + 1 ≠ w.heap.size by omega) (.int .u32 (i : Int))) (hB.setCell (p := ⟨w.heap.size, 5, none⟩) (Nat.le_refl _) (.int .u32 (i : Int)))))
  have HW := Lib.hid hV
  clear hV hA hR hB
  go_enter Tryd.func22, Tryd.ntmps22
  go_upto_region 1 with fail
  rw [← HW.out]
  clear HW
  go_wp2_with (first
    | ((with_reducible show wpList _ _ _ (Oper.mk _ (.load _ _) _ _ _ _ :: _) _ _); refine wl_load rfl 45 _ rfl _ rfl _ (run_load_arr HA.out.1 Tryd.underlying45 rfl info45) ?_)
    | ((with_reducible show wpList _ _ _ (Oper.mk _ (.store 45 _ _) _ _ _ _ :: _) _ _); refine wl_store rfl 45 _ _ rfl _ rfl _ rfl (run_store_arr HA.out.2.1 (plF a b (i : Int) s) info45 (plF_one _ _ _ _ _)) ?_))
  exact bodyPost_ret (results_cell1 rfl _ _ _ rfl (run_load_arr (HA.out.2.1.row _) Tryd.underlying45 rfl info45)) rfl ⟨rfl, below_row HA.out.2.2 (by omega) _⟩

set_option maxHeartbeats 1000000 in
set_option maxRecDepth 100000 in
theorem kept_any (a b c m : Nat) (s : Nat → UInt8) (ha : a < 4294967296) (hb : b < 4294967296) (hc : c < 4294967296) (hm : m < 4294967296) (w : World) (hT : Tabs w) :
    Calls Tryd.prog 32 #[.agg (vec 39 (plF (a : Int) (b : Int) (c : Int) s)), .int .u32 (m : Int)] w fun e w' => e = .returned (.agg (vec 32 (bys (prfF s 0 0 0 a b c m)))) ∧ Below w.heap.size w w' := by
  obtain ⟨V, hV⟩ : ∃ V, V = (w.alloc (.cells (vec 39 (plF (a : Int) (b : Int) (c : Int) s)) 45)).alloc (.cells (vec 32 (bys zb)) 23) := ⟨_, rfl⟩
  have hA0 : Arr V w.heap.size 45 39 (plF (a : Int) (b : Int) (c : Int) s) := by rw [hV]; exact ((Arr.newAt _ _ _ _ (by simp)).alloc _)
  have hA1 : Arr V (w.heap.size + 1) 23 32 (bys zb) := by rw [hV]; exact (Arr.newAt _ _ _ _ (by simp))
  have hB : Below w.heap.size w V := by rw [hV]; exact (((Below.refl _ _).alloc (by simp <;> omega) _).alloc (by simp <;> omega) _)
  have hsz : V.heap.size = w.heap.size + 2 := by rw [hV]; simp
  have HA := Lib.hid (Ahead.mk (r := w.heap.size + 1) hB (tabs_below hT hB) (tabs_far hT (by omega)))
  have HA0 := Lib.hid hA0
  have HA1 := Lib.hid hA1
  have HW := Lib.hid hV
  clear hV hB hsz hT hA0 hA1
  have HO : Hid (AdOk 0 0 0 a b c m) := Lib.hid ⟨by decide, by decide, by decide, ha, hb, hc, hm⟩
  clear ha hb hc hm
  go_enter Tryd.func32, Tryd.ntmps32
  go_upto_region 1 with fail
  rw [← HW.out]
  clear HW
  refine wp_region_held_drew (S := fun Y => SR V (w.heap.size + 1) Y) (by kernel_rfl) (SR.begin HA1.out) (fun hS => ?_)
  (refine held_take (i := 0) (oi := ?ot1) (v := ?vt1) ?at1 (by kernel_rfl) (by kernel_rfl) (by kernel_rfl) ?bt1 ?ct1 ?dt1 (by assumption) ?rt1; (case at1 => (simp only [List.getElem?_toArray, List.getElem?_cons_zero]; rfl)); (case bt1 => exact fun _ _ _ h => h); (case ct1 => kernel_rfl); (case dt1 => (intro W hW; (try dsimp only at hW); go_split_ands; go_simp; (try with_reducible rfl))); (case' rt1 => simp only [Act.put, List.setIfInBounds_toArray, List.set_cons_zero, List.set_cons_succ]))
  (refine held_take (i := 1) (oi := ?ot2) (v := .agg (vec 32 (bys s))) ?at2 (by kernel_rfl) (by kernel_rfl) (by kernel_rfl) ?bt2 ?ct2 ?dt2 (by assumption) ?rt2; (case at2 => (simp only [List.getElem?_toArray, List.getElem?_cons_zero, List.getElem?_cons_succ]; rfl)); (case bt2 => exact fun _ _ _ h => h); (case ct2 => kernel_rfl); (case dt2 => (intro W hW; exact exec_load_at 23 _ rfl _ _ rfl _ (load_seed (hW.arr HA0.out (by omega))))); (case' rt2 => simp only [Act.put, List.setIfInBounds_toArray, List.set_cons_zero, List.set_cons_succ]))
  (refine held_take (i := 2) (oi := ?ot3) (v := ?vt3) ?at3 (by kernel_rfl) (by kernel_rfl) (by kernel_rfl) ?bt3 ?ct3 ?dt3 (by assumption) ?rt3; (case at3 => (simp only [List.getElem?_toArray, List.getElem?_cons_zero, List.getElem?_cons_succ]; rfl)); (case bt3 => exact fun _ _ _ h => h); (case ct3 => kernel_rfl); (case dt3 => (intro W hW; (try dsimp only at hW); go_split_ands; go_simp; (try with_reducible rfl))); (case' rt3 => simp only [Act.put, List.setIfInBounds_toArray, List.set_cons_zero, List.set_cons_succ]))
  (refine held_take (i := 3) (oi := ?ot4) (v := adV 0 0 0 (a : Int) (b : Int) (c : Int) 0) ?at4 (by kernel_rfl) (by kernel_rfl) (by kernel_rfl) ?bt4 ?ct4 ?dt4 (by assumption) ?rt4; (case at4 => (simp only [List.getElem?_toArray, List.getElem?_cons_zero, List.getElem?_cons_succ]; rfl)); (case bt4 => exact fun _ _ _ h => h); (case ct4 => kernel_rfl); (case dt4 => (intro W hW; exact exec_load 43 _ rfl _ rfl _ (load_adrs (hW.arr HA0.out (by omega))))); (case' rt4 => simp only [Act.put, List.setIfInBounds_toArray, List.set_cons_zero, List.set_cons_succ]))
  (refine held_take (i := 4) (oi := ?ot5) (v := ?vt5) ?at5 (by kernel_rfl) (by kernel_rfl) (by kernel_rfl) ?bt5 ?ct5 ?dt5 (by assumption) ?rt5; (case at5 => (simp only [List.getElem?_toArray, List.getElem?_cons_zero, List.getElem?_cons_succ]; rfl)); (case bt5 => exact fun _ _ _ h => h); (case ct5 => kernel_rfl); (case dt5 => (intro W hW; (try dsimp only at hW); go_split_ands; go_simp; (try with_reducible rfl))); (case' rt5 => simp only [Act.put, List.setIfInBounds_toArray, List.set_cons_zero, List.set_cons_succ]))
  refine held_one (i := 5) (oi := ?ot6) (by kernel_rfl) ?at6 ?ct6 (fun K5 hK5 => ?_)
  (case at6 => (simp only [List.getElem?_toArray, List.getElem?_cons_zero, List.getElem?_cons_succ]; rfl))
  (case ct6 => kernel_rfl)
  go_simp
  refine (masked_any 0 0 0 (a : Int) (b : Int) (c : Int) 0 (m : Int) _).mono ?_
  rintro e y5 ⟨rfl, hd⟩
  refine hK5 _ _ (hS.keep hd) (fun hS5 => ?_)
  clear hS hd hK5 K5
  refine held_one (i := 6) (oi := ?ot7) (by kernel_rfl) ?at7 ?ct7 (fun K6 hK6 => ?_)
  (case at7 => (simp only [List.getElem?_toArray, List.getElem?_cons_zero, List.getElem?_cons_succ]; rfl))
  (case ct7 => kernel_rfl)
  go_simp
  refine (prf_any s 0 0 0 a b c m HO.out _ (hS5.tabs HA.out.tabs HA.out.far.1 HA.out.far.2)).mono ?_
  rintro e y6 ⟨rfl, hd⟩
  refine hK6 _ _ (hS5.keep hd) (fun hS6 => ?_)
  clear hS5 hd hK6 K6
  refine held_one (i := 7) (oi := ?ot8) (by kernel_rfl) ?at8 ?ct8 (fun K7 hK7 => ?_)
  (case at8 => (simp only [List.getElem?_toArray, List.getElem?_cons_zero, List.getElem?_cons_succ]; rfl))
  (case ct8 => kernel_rfl)
  obtain ⟨f0, hf0⟩ := hS6.res
  refine ow_store 23 _ _ rfl _ rfl _ rfl (run_store_arr hf0 (bys (prfF s 0 0 0 a b c m)) info26 (bys_one _ _)) ?_
  refine hK7 _ _ (hS6.put _) (fun hS7 => ?_)
  clear hK7 K7
  refine wpAnyH_done (by kernel_rfl) ?_ _
  go_wp2
  refine bodyPost_ret (results_cell1 rfl _ _ _ rfl (run_load_arr (hf0.row _) Tryd.underlying23 rfl info26)) rfl ⟨rfl, hS7.below HA.out.below (by omega)⟩

set_option maxHeartbeats 1000000 in
set_option maxRecDepth 100000 in
theorem step_any (a b c : Nat) (s x : Nat → UInt8) (ha : a < 4294967296) (hb : b < 4294967296) (hc : c < 4294967296) (w : World) (hT : Tabs w) :
    Calls Tryd.prog 23 #[.agg (vec 39 (plF (a : Int) (b : Int) (c : Int) s)), .agg (vec 32 (bys x))] w fun e w' => e = .returned (.agg (vec 32 (bys (stepF s a b c x)))) ∧ Below w.heap.size w w' := by
  obtain ⟨V, hV⟩ : ∃ V, V = ((w.alloc (.cells (vec 39 (plF (a : Int) (b : Int) (c : Int) s)) 45)).alloc (.cells (vec 32 (bys x)) 23)).alloc (.cells (vec 32 (bys zb)) 23) := ⟨_, rfl⟩
  have hA0 : Arr V w.heap.size 45 39 (plF (a : Int) (b : Int) (c : Int) s) := by rw [hV]; exact (((Arr.newAt _ _ _ _ (by simp)).alloc _).alloc _)
  have hA1 : Arr V (w.heap.size + 1) 23 32 (bys x) := by rw [hV]; exact ((Arr.newAt _ _ _ _ (by simp)).alloc _)
  have hA2 : Arr V (w.heap.size + 2) 23 32 (bys zb) := by rw [hV]; exact (Arr.newAt _ _ _ _ (by simp))
  have hB : Below w.heap.size w V := by rw [hV]; exact ((((Below.refl _ _).alloc (by simp <;> omega) _).alloc (by simp <;> omega) _).alloc (by simp <;> omega) _)
  have hsz : V.heap.size = w.heap.size + 3 := by rw [hV]; simp
  have HA := Lib.hid (Ahead.mk (r := w.heap.size + 2) hB (tabs_below hT hB) (tabs_far hT (by omega)))
  have HA0 := Lib.hid hA0
  have HA1 := Lib.hid hA1
  have HA2 := Lib.hid hA2
  have HW := Lib.hid hV
  clear hV hB hsz hT hA0 hA1 hA2
  have HO := Lib.hid (And.intro ha (And.intro hb hc))
  clear ha hb hc
  go_enter Tryd.func23, Tryd.ntmps23
  go_upto_region 1 with fail
  rw [← HW.out]
  clear HW
  refine wp_region_held_drew (S := fun Y => SR V (w.heap.size + 2) Y) (by kernel_rfl) (SR.begin HA2.out) (fun hS => ?_)
  (refine held_take (i := 0) (oi := ?ot9) (v := .agg (vec 39 (plF (a : Int) (b : Int) (c : Int) s))) ?at9 (by kernel_rfl) (by kernel_rfl) (by kernel_rfl) ?bt9 ?ct9 ?dt9 (by assumption) ?rt9; (case at9 => (simp only [List.getElem?_toArray, List.getElem?_cons_zero]; rfl)); (case bt9 => exact fun _ _ _ h => h); (case ct9 => kernel_rfl); (case dt9 => (intro W hW; exact exec_load 45 _ rfl _ rfl _ (run_load_arr (hW.arr HA0.out (by omega)) Tryd.underlying45 rfl info45))); (case' rt9 => simp only [Act.put, List.setIfInBounds_toArray, List.set_cons_zero, List.set_cons_succ]))
  (refine held_take (i := 2) (oi := ?ot10) (v := .agg (vec 32 (bys x))) ?at10 (by kernel_rfl) (by kernel_rfl) (by kernel_rfl) ?bt10 ?ct10 ?dt10 (by assumption) ?rt10; (case at10 => (simp only [List.getElem?_toArray, List.getElem?_cons_zero, List.getElem?_cons_succ]; rfl)); (case bt10 => exact fun _ _ _ h => h); (case ct10 => kernel_rfl); (case dt10 => (intro W hW; exact exec_load 23 _ rfl _ rfl _ (run_load_arr (hW.arr HA1.out (by omega)) Tryd.underlying23 rfl info26))); (case' rt10 => simp only [Act.put, List.setIfInBounds_toArray, List.set_cons_zero, List.set_cons_succ]))
  (refine held_take (i := 3) (oi := ?ot11) (v := .agg (vec 39 (plF (a : Int) (b : Int) (c : Int) s))) ?at11 (by kernel_rfl) (by kernel_rfl) (by kernel_rfl) ?bt11 ?ct11 ?dt11 (by assumption) ?rt11; (case at11 => (simp only [List.getElem?_toArray, List.getElem?_cons_zero, List.getElem?_cons_succ]; rfl)); (case bt11 => exact fun _ _ _ h => h); (case ct11 => kernel_rfl); (case dt11 => (intro W hW; exact exec_load 45 _ rfl _ rfl _ (run_load_arr (hW.arr HA0.out (by omega)) Tryd.underlying45 rfl info45))); (case' rt11 => simp only [Act.put, List.setIfInBounds_toArray, List.set_cons_zero, List.set_cons_succ]))
  refine held_one (i := 1) (oi := ?ot12) (by kernel_rfl) ?at12 ?ct12 (fun K1 hK1 => ?_)
  (case at12 => (simp only [List.getElem?_toArray, List.getElem?_cons_zero, List.getElem?_cons_succ]; rfl))
  (case ct12 => kernel_rfl)
  go_simp
  refine (kept_any a b c 0 s HO.out.1 HO.out.2.1 HO.out.2.2 (by decide) _ (hS.tabs HA.out.tabs HA.out.far.1 HA.out.far.2)).mono ?_
  rintro e y1 ⟨rfl, hd⟩
  refine hK1 _ _ (hS.keep hd) (fun hS1 => ?_)
  clear hS hd hK1 K1
  refine held_one (i := 4) (oi := ?ot13) (by kernel_rfl) ?at13 ?ct13 (fun K4 hK4 => ?_)
  (case at13 => (simp only [List.getElem?_toArray, List.getElem?_cons_zero, List.getElem?_cons_succ]; rfl))
  (case ct13 => kernel_rfl)
  go_simp
  refine (kept_any a b c 1 s HO.out.1 HO.out.2.1 HO.out.2.2 (by decide) _ (hS1.tabs HA.out.tabs HA.out.far.1 HA.out.far.2)).mono ?_
  rintro e y4 ⟨rfl, hd⟩
  refine hK4 _ _ (hS1.keep hd) (fun hS4 => ?_)
  clear hS1 hd hK4 K4
  refine held_one (i := 5) (oi := ?ot14) (by kernel_rfl) ?at14 ?ct14 (fun K5 hK5 => ?_)
  (case at14 => (simp only [List.getElem?_toArray, List.getElem?_cons_zero, List.getElem?_cons_succ]; rfl))
  (case ct14 => kernel_rfl)
  go_simp
  refine (xor_any x (prfF s 0 0 0 a b c 1) _).mono ?_
  rintro e y5 ⟨rfl, hd⟩
  refine hK5 _ _ (hS4.keep hd) (fun hS5 => ?_)
  clear hS4 hd hK5 K5
  refine held_one (i := 6) (oi := ?ot15) (by kernel_rfl) ?at15 ?ct15 (fun K6 hK6 => ?_)
  (case at15 => (simp only [List.getElem?_toArray, List.getElem?_cons_zero, List.getElem?_cons_succ]; rfl))
  (case ct15 => kernel_rfl)
  go_simp
  refine (f_any (prfF s 0 0 0 a b c 0) (xorF x (prfF s 0 0 0 a b c 1)) _ (hS5.tabs HA.out.tabs HA.out.far.1 HA.out.far.2)).mono ?_
  rintro e y6 ⟨rfl, hd⟩
  refine hK6 _ _ (hS5.keep hd) (fun hS6 => ?_)
  clear hS5 hd hK6 K6
  refine held_one (i := 7) (oi := ?ot16) (by kernel_rfl) ?at16 ?ct16 (fun K7 hK7 => ?_)
  (case at16 => (simp only [List.getElem?_toArray, List.getElem?_cons_zero, List.getElem?_cons_succ]; rfl))
  (case ct16 => kernel_rfl)
  obtain ⟨f0, hf0⟩ := hS6.res
  refine ow_store 23 _ _ rfl _ rfl _ rfl (run_store_arr hf0 (bys (stepF s a b c x)) info26 (bys_one _ _)) ?_
  refine hK7 _ _ (hS6.put _) (fun hS7 => ?_)
  clear hK7 K7
  refine wpAnyH_done (by kernel_rfl) ?_ _
  go_wp2
  refine bodyPost_ret (results_cell1 rfl _ _ _ rfl (run_load_arr (hf0.row _) Tryd.underlying23 rfl info26)) rfl ⟨rfl, hS7.below HA.out.below (by omega)⟩
end Go.Proofs.YtepgndgelfkcnaaDoor
