/- Merged: Place, Placed, Chain, Each, Grow, Pub, RChain, REnds, RPub, KeyW. -/
import Derived.Deep.Cut
import Derived.Sort.CutIn
import Derived.Test.YtfeiplaiekbdkaaGreatDoorChn
import Derived.Test.YtfeiplaiekbdkaaGreatDoorPrfF
import Derived.Test.YtfeiplaiekbdkaaGreatDoorAdrsO
import Derived.Test.YtfeiplaiekbdkaaGreatDoorWd
import Derived.Test.YtfeiplaiekbdkaaGreatDoorVs
import Derived.Test.YtfeiplaiekbdkaaGreatDoorWx
import Derived.Test.YtfeiplaiekbdkaaGreatDoorRPrfF
import Derived.Test.YtfeiplaiekbdkaaGreatDoorRPrf
import Derived.Test.YtfeiplaiekbdkaaGreatDoorBlk
/- A place of a chain: its methods, placed, Secret. -/
namespace Go.Proofs.YtfeiplaiekbdkaaGreatDoor
open Go.RowKit

/-- A place of a chain: its address, its seed. -/
def plF (a b c : Int) (s : Nat → UInt8) : Nat → Value
  | 0 => .int .u32 0
  | 1 => .int .u64 0
  | 2 => .int .u32 0
  | 3 => .int .u32 a
  | 4 => .int .u32 b
  | 5 => .int .u32 c
  | 6 => .int .u32 0
  | i + 7 => bys s i
theorem plF_one (a b c : Int) (s : Nat → UInt8) (n : Nat) : ∀ i, i < n → (plF a b c s i).oneCell' = true := by
  intro i _
  unfold plF
  split <;> rfl
theorem plF_c (a b c d : Int) (s : Nat → UInt8) : upd (plF a b c s) 5 (.int .u32 d) = plF a b d s := by
  funext j
  by_cases e : j = 5
  · subst e; simp [upd, plF]
  · unfold upd; rw [if_neg e]
    match j, e with
    | 0, _ => rfl
    | 1, _ => rfl
    | 2, _ => rfl
    | 3, _ => rfl
    | 4, _ => rfl
    | 6, _ => rfl
    | j + 7, _ => rfl
theorem info45 : (Tryz.prog.info? 116).map (·.size) = some 39 := by kernel_rfl
theorem zeroV45 (w : World) : (zeroValue 116).run Tryz.prog w = .ok (.agg (vec 39 (plF 0 0 0 zb))) w :=
  (zero_of_info (P := Tryz.prog) (t := 116) (v := .agg (vec 39 (plF 0 0 0 zb))) (n := 39) (by kernel_rfl)).1 w
attribute [local go_sem ↓ high] zeroV26 zeroV45
set_option maxRecDepth 100000 in
theorem load_adrs {w : World} {g : Nat} {a b c : Int} {s : Nat → UInt8} (h : Arr w g 116 39 (plF a b c s)) : (loadVar 86 ⟨g, 0, none⟩).run Tryz.prog w = .ok (adV 0 0 0 a b c 0) w :=
  (run_load_cells (n := 7) (f := plF a b c s) (fun i hi => h.cell (by omega)) Tryz.underlying86 rfl infoAd).trans rfl
set_option maxRecDepth 100000 in
theorem load_seed {w : World} {g : Nat} {a b c : Int} {s : Nat → UInt8} (h : Arr w g 116 39 (plF a b c s)) : (loadVar 30 ⟨g, 7, none⟩).run Tryz.prog w = .ok (.agg (vec 32 (bys s))) w :=
  run_load_spl (n := 32) (f := bys s) (fun i hi => (h.cell (i := 7 + i) (by omega)).trans (by rw [Nat.add_comm]; rfl)) Tryz.underlying30 rfl info26
theorem results_cell_tmp {fn : Func} {p q : Tmp} {ty : TypeId} {P : Program} {w : World} (h : fn.results = #[.cell p ty, .tmp q]) (tmps : Array Value) (g : Nat) (v : Value)
    (ha : tmps.getD p undef = .pointer (some ⟨g, 0, none⟩)) (hl : (loadVar ty ⟨g, 0, none⟩).run P w = .ok v w) : (results fn tmps).run P w = .ok (.tuple #[v, tmps.getD q undef]) w := by
  have hp' : tmps[p]?.getD undef = .pointer (some ⟨g, 0, none⟩) := by simpa using ha
  simp [results, h, hp', asAddr, hl]

set_option maxHeartbeats 1000000 in
set_option maxRecDepth 100000 in
theorem at_any (a b c : Int) (s : Nat → UInt8) (i : Nat) (hi : i < 4294967296) (w : World) :
    Calls Tryz.prog 70 #[.agg (vec 39 (plF a b c s)), .int .i64 (i : Int)] w fun e w' => e = .returned (.agg (vec 39 (plF a b (i : Int) s))) ∧ Below w.heap.size w w' := by
  obtain ⟨V, hV⟩ : ∃ V, V = (w.alloc (.cells (vec 39 (plF a b c s)) 116)).alloc (.cells (vec 39 (plF 0 0 0 zb)) 116) := ⟨_, rfl⟩
  have hA : Arr V w.heap.size 116 39 (plF a b c s) := by rw [hV]; exact (Arr.newAt _ _ _ _ (by simp)).alloc _
  have hR : Arr V (w.heap.size + 1) 116 39 (plF 0 0 0 zb) := by rw [hV]; exact Arr.newAt _ _ _ _ (by simp)
  have hB : Below w.heap.size w V := by rw [hV]; exact (((Below.refl _ _).alloc (by simp <;> omega) _).alloc (by simp <;> omega) _)
  have hc := hA.cell (i := 5) (by decide)
  have hf := hA.frozen 5
  have HA := Lib.hid (And.intro (plF_c a b c i s ▸ hA.set 5 (.int .u32 (i : Int))) (And.intro (hR.far (p := ⟨w.heap.size, 5, none⟩) (show w.heap.size + 1 ≠ w.heap.size by omega) (.int .u32 (i : Int))) (hB.setCell (p := ⟨w.heap.size, 5, none⟩) (Nat.le_refl _) (.int .u32 (i : Int)))))
  have HW := Lib.hid hV
  clear hV hA hR hB
  go_enter Tryz.func70, Tryz.ntmps70
  go_upto_region 1 with fail
  rw [← HW.out]
  clear HW
  go_wp2_with (first
    | ((with_reducible show wpList _ _ _ (Oper.mk _ (.load _ _) _ _ _ _ :: _) _ _); refine wl_load rfl 116 _ rfl _ rfl _ (run_load_arr HA.out.1 Tryz.underlying116 rfl info45) ?_)
    | ((with_reducible show wpList _ _ _ (Oper.mk _ (.store 116 _ _) _ _ _ _ :: _) _ _); refine wl_store rfl 116 _ _ rfl _ rfl _ rfl (run_store_arr HA.out.2.1 (plF a b (i : Int) s) info45 (plF_one _ _ _ _ _)) ?_))
  exact bodyPost_ret (results_cell1 rfl _ _ _ rfl (run_load_arr (HA.out.2.1.row _) Tryz.underlying116 rfl info45)) rfl ⟨rfl, below_row HA.out.2.2 (by omega) _⟩

set_option maxHeartbeats 1000000 in
set_option maxRecDepth 100000 in
theorem kept_any (a b c m : Nat) (s : Nat → UInt8) (ha : a < 4294967296) (hb : b < 4294967296) (hc : c < 4294967296) (hm : m < 4294967296) (w : World) (hT : Tabs w) :
    Calls Tryz.prog 94 #[.agg (vec 39 (plF (a : Int) (b : Int) (c : Int) s)), .int .u32 (m : Int)] w fun e w' => e = .returned (.agg (vec 32 (bys (prfF s 0 0 0 a b c m)))) ∧ Below w.heap.size w w' := by
  obtain ⟨V, hV⟩ : ∃ V, V = (w.alloc (.cells (vec 39 (plF (a : Int) (b : Int) (c : Int) s)) 116)).alloc (.cells (vec 32 (bys zb)) 30) := ⟨_, rfl⟩
  have hA0 : Arr V w.heap.size 116 39 (plF (a : Int) (b : Int) (c : Int) s) := by rw [hV]; exact ((Arr.newAt _ _ _ _ (by simp)).alloc _)
  have hA1 : Arr V (w.heap.size + 1) 30 32 (bys zb) := by rw [hV]; exact (Arr.newAt _ _ _ _ (by simp))
  have hB : Below w.heap.size w V := by rw [hV]; exact (((Below.refl _ _).alloc (by simp <;> omega) _).alloc (by simp <;> omega) _)
  have hsz : V.heap.size = w.heap.size + 2 := by rw [hV]; simp
  have HA := Lib.hid (Ahead.mk (r := w.heap.size + 1) hB (tabs_below hT hB) (tabs_far hT (by omega)))
  have HA0 := Lib.hid hA0
  have HA1 := Lib.hid hA1
  have HW := Lib.hid hV
  clear hV hB hsz hT hA0 hA1
  have HO : Hid (AdOk 0 0 0 a b c m) := Lib.hid ⟨by decide, by decide, by decide, ha, hb, hc, hm⟩
  clear ha hb hc hm
  go_enter Tryz.func94, Tryz.ntmps94
  go_upto_region 1 with fail
  rw [← HW.out]
  clear HW
  refine wp_region_held_drew (S := fun Y => SR V (w.heap.size + 1) Y) (by kernel_rfl) (SR.begin HA1.out) (fun hS => ?_)
  (refine held_take (i := 0) (oi := ?ot1) (v := ?vt1) ?at1 (by kernel_rfl) (by kernel_rfl) (by kernel_rfl) ?bt1 ?ct1 ?dt1 (by assumption) ?rt1; (case at1 => (simp only [List.getElem?_toArray, List.getElem?_cons_zero]; rfl)); (case bt1 => exact fun _ _ _ h => h); (case ct1 => kernel_rfl); (case dt1 => (intro W hW; (try dsimp only at hW); go_split_ands; go_simp; (try with_reducible rfl))); (case' rt1 => simp only [Act.put, List.setIfInBounds_toArray, List.set_cons_zero, List.set_cons_succ]))
  (refine held_take (i := 1) (oi := ?ot2) (v := .agg (vec 32 (bys s))) ?at2 (by kernel_rfl) (by kernel_rfl) (by kernel_rfl) ?bt2 ?ct2 ?dt2 (by assumption) ?rt2; (case at2 => (simp only [List.getElem?_toArray, List.getElem?_cons_zero, List.getElem?_cons_succ]; rfl)); (case bt2 => exact fun _ _ _ h => h); (case ct2 => kernel_rfl); (case dt2 => (intro W hW; exact exec_load_at 30 _ rfl _ _ rfl _ (load_seed (hW.arr HA0.out (by omega))))); (case' rt2 => simp only [Act.put, List.setIfInBounds_toArray, List.set_cons_zero, List.set_cons_succ]))
  (refine held_take (i := 2) (oi := ?ot3) (v := ?vt3) ?at3 (by kernel_rfl) (by kernel_rfl) (by kernel_rfl) ?bt3 ?ct3 ?dt3 (by assumption) ?rt3; (case at3 => (simp only [List.getElem?_toArray, List.getElem?_cons_zero, List.getElem?_cons_succ]; rfl)); (case bt3 => exact fun _ _ _ h => h); (case ct3 => kernel_rfl); (case dt3 => (intro W hW; (try dsimp only at hW); go_split_ands; go_simp; (try with_reducible rfl))); (case' rt3 => simp only [Act.put, List.setIfInBounds_toArray, List.set_cons_zero, List.set_cons_succ]))
  (refine held_take (i := 3) (oi := ?ot4) (v := adV 0 0 0 (a : Int) (b : Int) (c : Int) 0) ?at4 (by kernel_rfl) (by kernel_rfl) (by kernel_rfl) ?bt4 ?ct4 ?dt4 (by assumption) ?rt4; (case at4 => (simp only [List.getElem?_toArray, List.getElem?_cons_zero, List.getElem?_cons_succ]; rfl)); (case bt4 => exact fun _ _ _ h => h); (case ct4 => kernel_rfl); (case dt4 => (intro W hW; exact exec_load 86 _ rfl _ rfl _ (load_adrs (hW.arr HA0.out (by omega))))); (case' rt4 => simp only [Act.put, List.setIfInBounds_toArray, List.set_cons_zero, List.set_cons_succ]))
  (refine held_take (i := 4) (oi := ?ot5) (v := ?vt5) ?at5 (by kernel_rfl) (by kernel_rfl) (by kernel_rfl) ?bt5 ?ct5 ?dt5 (by assumption) ?rt5; (case at5 => (simp only [List.getElem?_toArray, List.getElem?_cons_zero, List.getElem?_cons_succ]; rfl)); (case bt5 => exact fun _ _ _ h => h); (case ct5 => kernel_rfl); (case dt5 => (intro W hW; (try dsimp only at hW); go_split_ands; go_simp; (try with_reducible rfl))); (case' rt5 => simp only [Act.put, List.setIfInBounds_toArray, List.set_cons_zero, List.set_cons_succ]))
  refine held_one (i := 5) (oi := ?ot6) (by kernel_rfl) ?at6 ?ct6 (fun K5 hK5 => ?_)
  (case at6 => (simp only [List.getElem?_toArray, List.getElem?_cons_zero, List.getElem?_cons_succ]; rfl))
  (case ct6 => kernel_rfl)
  go_simp
  refine (masked_any 0 0 0 (a : Int) (b : Int) (c : Int) 0 (m : Int) _).mono ?_
  rintro e y5 ⟨rfl, hd⟩
  refine hK5 _ _ (hS.keep hd) (fun hS5 => ?_)
  clear hS hd hK5 K5
  refine held_one (i := 6) (oi := ?ot7) (by kernel_rfl) ?at7 ?ct7 (fun K6 hK6 => ?_)
  (case at7 => (simp only [List.getElem?_toArray, List.getElem?_cons_zero, List.getElem?_cons_succ]; rfl))
  (case ct7 => kernel_rfl)
  go_simp
  refine (prf_any s 0 0 0 a b c m HO.out _ (hS5.tabs HA.out.tabs HA.out.far.1 HA.out.far.2)).mono ?_
  rintro e y6 ⟨rfl, hd⟩
  refine hK6 _ _ (hS5.keep hd) (fun hS6 => ?_)
  clear hS5 hd hK6 K6
  refine held_one (i := 7) (oi := ?ot8) (by kernel_rfl) ?at8 ?ct8 (fun K7 hK7 => ?_)
  (case at8 => (simp only [List.getElem?_toArray, List.getElem?_cons_zero, List.getElem?_cons_succ]; rfl))
  (case ct8 => kernel_rfl)
  obtain ⟨f0, hf0⟩ := hS6.res
  refine ow_store 30 _ _ rfl _ rfl _ rfl (run_store_arr hf0 (bys (prfF s 0 0 0 a b c m)) info26 (bys_one _ _)) ?_
  refine hK7 _ _ (hS6.put _) (fun hS7 => ?_)
  clear hK7 K7
  refine wpAnyH_done (by kernel_rfl) ?_ _
  go_wp2
  refine bodyPost_ret (results_cell1 rfl _ _ _ rfl (run_load_arr (hf0.row _) Tryz.underlying30 rfl info26)) rfl ⟨rfl, hS7.below HA.out.below (by omega)⟩

set_option maxHeartbeats 1000000 in
set_option maxRecDepth 100000 in
theorem step_any (a b c : Nat) (s x : Nat → UInt8) (ha : a < 4294967296) (hb : b < 4294967296) (hc : c < 4294967296) (w : World) (hT : Tabs w) :
    Calls Tryz.prog 71 #[.agg (vec 39 (plF (a : Int) (b : Int) (c : Int) s)), .agg (vec 32 (bys x))] w fun e w' => e = .returned (.agg (vec 32 (bys (stepF s a b c x)))) ∧ Below w.heap.size w w' := by
  obtain ⟨V, hV⟩ : ∃ V, V = ((w.alloc (.cells (vec 39 (plF (a : Int) (b : Int) (c : Int) s)) 116)).alloc (.cells (vec 32 (bys x)) 30)).alloc (.cells (vec 32 (bys zb)) 30) := ⟨_, rfl⟩
  have hA0 : Arr V w.heap.size 116 39 (plF (a : Int) (b : Int) (c : Int) s) := by rw [hV]; exact (((Arr.newAt _ _ _ _ (by simp)).alloc _).alloc _)
  have hA1 : Arr V (w.heap.size + 1) 30 32 (bys x) := by rw [hV]; exact ((Arr.newAt _ _ _ _ (by simp)).alloc _)
  have hA2 : Arr V (w.heap.size + 2) 30 32 (bys zb) := by rw [hV]; exact (Arr.newAt _ _ _ _ (by simp))
  have hB : Below w.heap.size w V := by rw [hV]; exact ((((Below.refl _ _).alloc (by simp <;> omega) _).alloc (by simp <;> omega) _).alloc (by simp <;> omega) _)
  have hsz : V.heap.size = w.heap.size + 3 := by rw [hV]; simp
  have HA := Lib.hid (Ahead.mk (r := w.heap.size + 2) hB (tabs_below hT hB) (tabs_far hT (by omega)))
  have HA0 := Lib.hid hA0
  have HA1 := Lib.hid hA1
  have HA2 := Lib.hid hA2
  have HW := Lib.hid hV
  clear hV hB hsz hT hA0 hA1 hA2
  have HO := Lib.hid (And.intro ha (And.intro hb hc))
  clear ha hb hc
  go_enter Tryz.func71, Tryz.ntmps71
  go_upto_region 1 with fail
  rw [← HW.out]
  clear HW
  refine wp_region_held_drew (S := fun Y => SR V (w.heap.size + 2) Y) (by kernel_rfl) (SR.begin HA2.out) (fun hS => ?_)
  (refine held_take (i := 0) (oi := ?ot9) (v := .agg (vec 39 (plF (a : Int) (b : Int) (c : Int) s))) ?at9 (by kernel_rfl) (by kernel_rfl) (by kernel_rfl) ?bt9 ?ct9 ?dt9 (by assumption) ?rt9; (case at9 => (simp only [List.getElem?_toArray, List.getElem?_cons_zero]; rfl)); (case bt9 => exact fun _ _ _ h => h); (case ct9 => kernel_rfl); (case dt9 => (intro W hW; exact exec_load 116 _ rfl _ rfl _ (run_load_arr (hW.arr HA0.out (by omega)) Tryz.underlying116 rfl info45))); (case' rt9 => simp only [Act.put, List.setIfInBounds_toArray, List.set_cons_zero, List.set_cons_succ]))
  (refine held_take (i := 2) (oi := ?ot10) (v := .agg (vec 32 (bys x))) ?at10 (by kernel_rfl) (by kernel_rfl) (by kernel_rfl) ?bt10 ?ct10 ?dt10 (by assumption) ?rt10; (case at10 => (simp only [List.getElem?_toArray, List.getElem?_cons_zero, List.getElem?_cons_succ]; rfl)); (case bt10 => exact fun _ _ _ h => h); (case ct10 => kernel_rfl); (case dt10 => (intro W hW; exact exec_load 30 _ rfl _ rfl _ (run_load_arr (hW.arr HA1.out (by omega)) Tryz.underlying30 rfl info26))); (case' rt10 => simp only [Act.put, List.setIfInBounds_toArray, List.set_cons_zero, List.set_cons_succ]))
  (refine held_take (i := 3) (oi := ?ot11) (v := .agg (vec 39 (plF (a : Int) (b : Int) (c : Int) s))) ?at11 (by kernel_rfl) (by kernel_rfl) (by kernel_rfl) ?bt11 ?ct11 ?dt11 (by assumption) ?rt11; (case at11 => (simp only [List.getElem?_toArray, List.getElem?_cons_zero, List.getElem?_cons_succ]; rfl)); (case bt11 => exact fun _ _ _ h => h); (case ct11 => kernel_rfl); (case dt11 => (intro W hW; exact exec_load 116 _ rfl _ rfl _ (run_load_arr (hW.arr HA0.out (by omega)) Tryz.underlying116 rfl info45))); (case' rt11 => simp only [Act.put, List.setIfInBounds_toArray, List.set_cons_zero, List.set_cons_succ]))
  refine held_one (i := 1) (oi := ?ot12) (by kernel_rfl) ?at12 ?ct12 (fun K1 hK1 => ?_)
  (case at12 => (simp only [List.getElem?_toArray, List.getElem?_cons_zero, List.getElem?_cons_succ]; rfl))
  (case ct12 => kernel_rfl)
  go_simp
  refine (kept_any a b c 0 s HO.out.1 HO.out.2.1 HO.out.2.2 (by decide) _ (hS.tabs HA.out.tabs HA.out.far.1 HA.out.far.2)).mono ?_
  rintro e y1 ⟨rfl, hd⟩
  refine hK1 _ _ (hS.keep hd) (fun hS1 => ?_)
  clear hS hd hK1 K1
  refine held_one (i := 4) (oi := ?ot13) (by kernel_rfl) ?at13 ?ct13 (fun K4 hK4 => ?_)
  (case at13 => (simp only [List.getElem?_toArray, List.getElem?_cons_zero, List.getElem?_cons_succ]; rfl))
  (case ct13 => kernel_rfl)
  go_simp
  refine (kept_any a b c 1 s HO.out.1 HO.out.2.1 HO.out.2.2 (by decide) _ (hS1.tabs HA.out.tabs HA.out.far.1 HA.out.far.2)).mono ?_
  rintro e y4 ⟨rfl, hd⟩
  refine hK4 _ _ (hS1.keep hd) (fun hS4 => ?_)
  clear hS1 hd hK4 K4
  refine held_one (i := 5) (oi := ?ot14) (by kernel_rfl) ?at14 ?ct14 (fun K5 hK5 => ?_)
  (case at14 => (simp only [List.getElem?_toArray, List.getElem?_cons_zero, List.getElem?_cons_succ]; rfl))
  (case ct14 => kernel_rfl)
  go_simp
  refine (xor_any x (prfF s 0 0 0 a b c 1) _).mono ?_
  rintro e y5 ⟨rfl, hd⟩
  refine hK5 _ _ (hS4.keep hd) (fun hS5 => ?_)
  clear hS4 hd hK5 K5
  refine held_one (i := 6) (oi := ?ot15) (by kernel_rfl) ?at15 ?ct15 (fun K6 hK6 => ?_)
  (case at15 => (simp only [List.getElem?_toArray, List.getElem?_cons_zero, List.getElem?_cons_succ]; rfl))
  (case ct15 => kernel_rfl)
  go_simp
  refine (f_any (prfF s 0 0 0 a b c 0) (xorF x (prfF s 0 0 0 a b c 1)) _ (hS5.tabs HA.out.tabs HA.out.far.1 HA.out.far.2)).mono ?_
  rintro e y6 ⟨rfl, hd⟩
  refine hK6 _ _ (hS5.keep hd) (fun hS6 => ?_)
  clear hS5 hd hK6 K6
  refine held_one (i := 7) (oi := ?ot16) (by kernel_rfl) ?at16 ?ct16 (fun K7 hK7 => ?_)
  (case at16 => (simp only [List.getElem?_toArray, List.getElem?_cons_zero, List.getElem?_cons_succ]; rfl))
  (case ct16 => kernel_rfl)
  obtain ⟨f0, hf0⟩ := hS6.res
  refine ow_store 30 _ _ rfl _ rfl _ rfl (run_store_arr hf0 (bys (stepF s a b c x)) info26 (bys_one _ _)) ?_
  refine hK7 _ _ (hS6.put _) (fun hS7 => ?_)
  clear hK7 K7
  refine wpAnyH_done (by kernel_rfl) ?_ _
  go_wp2
  refine bodyPost_ret (results_cell1 rfl _ _ _ rfl (run_load_arr (hf0.row _) Tryz.underlying30 rfl info26)) rfl ⟨rfl, hS7.below HA.out.below (by omega)⟩
end Go.Proofs.YtfeiplaiekbdkaaGreatDoor
/- wots.placed, wots.Secret. -/
namespace Go.Proofs.YtfeiplaiekbdkaaGreatDoor
open Go.RowKit
attribute [local go_sem ↓ high] zeroV26 zeroV45

/-- What a region knows whose result, an array, lies in block r. -/
structure SA (t : TypeId) (n : Nat) (V : World) (r : Nat) (Y : World) : Prop where
  save : Save r V Y
  res : ∃ f, Arr Y r t n f
section
variable {V Y Z w : World} {r n : Nat} {t : TypeId}
theorem SA.begin {f : Nat → Value} (h : Arr V r t n f) : SA t n V r V.drew := ⟨(Save.refl _ _).drewN 1, f, h.drewN 1⟩
theorem SA.keep (h : SA t n V r Y) (hd : Below Y.heap.size Y Z) : SA t n V r Z := ⟨h.save.trans (Save.of_below hd), h.res.elim fun f hf => ⟨f, hf.under hd⟩⟩
theorem SA.put (h : SA t n V r Y) (f : Nat → Value) : SA t n V r (Y.setRow r (vec n f)) := ⟨h.save.setRow _, f, h.res.elim fun _ hf => hf.row _⟩
theorem SA.arr (h : SA t n V r Y) {g m : Nat} {t' : TypeId} {f : Nat → Value} (ha : Arr V g t' m f) (hg : g ≠ r) : Arr Y g t' m f := ha.save h.save hg
end
/-- Whether there is such a chain. -/
def isCh (chain : Int) : Bool := decide (0 ≤ chain ∧ chain ≤ 66)
/-- What placed answers. -/
def placedV (seed : Nat → UInt8) (idx : Nat) (chain : Int) : Nat → Value := if isCh chain = true then plF (idx : Int) chain 0 seed else plF 0 0 0 zb

set_option maxHeartbeats 1000000 in
set_option maxRecDepth 100000 in
theorem placed_any (seed : Nat → UInt8) (idx : Nat) (chain : Int) (w : World) :
    Calls Tryz.prog 69 #[.agg (vec 32 (bys seed)), .int .u32 (idx : Int), .int .i64 chain] w fun e w' => e = .returned (.tuple #[.agg (vec 39 (placedV seed idx chain)), .bool (isCh chain)]) ∧ Below w.heap.size w w' := by
  obtain ⟨V, hV⟩ : ∃ V, V = (w.alloc (.cells (vec 32 (bys seed)) 30)).alloc (.cells (vec 39 (plF 0 0 0 zb)) 116) := ⟨_, rfl⟩
  have hA : Arr V w.heap.size 30 32 (bys seed) := by rw [hV]; exact (Arr.newAt _ _ _ _ (by simp)).alloc _
  have hR : Arr V (w.heap.size + 1) 116 39 (plF 0 0 0 zb) := by rw [hV]; exact Arr.newAt _ _ _ _ (by simp)
  have hB : Below w.heap.size w V := by rw [hV]; exact (((Below.refl _ _).alloc (by simp <;> omega) _).alloc (by simp <;> omega) _)
  have HA := Lib.hid (And.intro hA (And.intro hR hB))
  have HW := Lib.hid hV
  clear hV hA hR hB
  by_cases hc : 0 ≤ chain ∧ chain ≤ 66
  · obtain ⟨n, rfl⟩ := Int.eq_ofNat_of_zero_le hc.1
    have hn : n ≤ 66 := by omega
    have e1 : isCh (n : Int) = true := decide_eq_true hc
    have e2 : placedV seed idx (n : Int) = plF (idx : Int) (n : Int) 0 seed := by unfold placedV; rw [if_pos e1]
    rw [e1, e2]
    have hwn : IntKind.u32.wrap (n : Int) = (n : Int) := by rw [IntKind.wrap_u32']; omega
    have t1 : decide ((n : Int) < 0) = false := by simp
    have t2 : ¬ ((n : Int) < 0) := by omega
    have t3 : decide (67 ≤ (n : Int)) = false := by simp; omega
    have t4 : ¬ (67 ≤ (n : Int)) := by omega
    clear e1 e2 hc
    go_enter Tryz.func69, Tryz.ntmps69
    go_upto_region 1 with fail
    rw [← HW.out]
    clear HW
    go_upto_region 3 with fail
    refine wp_region_held_drew (S := fun Y => SA 116 39 V (w.heap.size + 1) Y) (by kernel_rfl) (SA.begin HA.out.2.1) (fun hS => ?_)
    (refine held_take (i := 0) (oi := ?ot1) (v := ?vt1) ?at1 (by kernel_rfl) (by kernel_rfl) (by kernel_rfl) ?bt1 ?ct1 ?dt1 (by assumption) ?rt1; (case at1 => (simp only [List.getElem?_toArray, List.getElem?_cons_zero]; rfl)); (case bt1 => exact fun _ _ _ h => h); (case ct1 => kernel_rfl); (case dt1 => (intro W hW; (try dsimp only at hW); go_split_ands; go_simp; (try with_reducible rfl))); (case' rt1 => simp only [Act.put, List.setIfInBounds_toArray, List.set_cons_zero, List.set_cons_succ]))
    (refine held_take (i := 1) (oi := ?ot2) (v := ?vt2) ?at2 (by kernel_rfl) (by kernel_rfl) (by kernel_rfl) ?bt2 ?ct2 ?dt2 (by assumption) ?rt2; (case at2 => (simp only [List.getElem?_toArray, List.getElem?_cons_zero, List.getElem?_cons_succ]; rfl)); (case bt2 => exact fun _ _ _ h => h); (case ct2 => kernel_rfl); (case dt2 => (intro W hW; (try dsimp only at hW); go_split_ands; go_simp; (try with_reducible rfl))); (case' rt2 => simp only [Act.put, List.setIfInBounds_toArray, List.set_cons_zero, List.set_cons_succ]))
    (refine held_take (i := 2) (oi := ?ot3) (v := ?vt3) ?at3 (by kernel_rfl) (by kernel_rfl) (by kernel_rfl) ?bt3 ?ct3 ?dt3 (by assumption) ?rt3; (case at3 => (simp only [List.getElem?_toArray, List.getElem?_cons_zero, List.getElem?_cons_succ]; rfl)); (case bt3 => exact fun _ _ _ h => h); (case ct3 => kernel_rfl); (case dt3 => (intro W hW; (try dsimp only at hW); go_split_ands; go_simp; (try with_reducible rfl))); (case' rt3 => simp only [Act.put, List.setIfInBounds_toArray, List.set_cons_zero, List.set_cons_succ]))
    (refine held_take (i := 4) (oi := ?ot4) (v := .agg (vec 32 (bys seed))) ?at4 (by kernel_rfl) (by kernel_rfl) (by kernel_rfl) ?bt4 ?ct4 ?dt4 (by assumption) ?rt4; (case at4 => (simp only [List.getElem?_toArray, List.getElem?_cons_zero, List.getElem?_cons_succ]; rfl)); (case bt4 => exact fun _ _ _ h => h); (case ct4 => kernel_rfl); (case dt4 => (intro W hW; exact exec_load 30 _ rfl _ rfl _ (run_load_arr (hW.arr HA.out.1 (by omega)) Tryz.underlying30 rfl info26))); (case' rt4 => simp only [Act.put, List.setIfInBounds_toArray, List.set_cons_zero, List.set_cons_succ]))
    refine held_one (i := 3) (oi := ?ot5) (by kernel_rfl) ?at5 ?ct5 (fun K3 hK3 => ?_)
    (case at5 => (simp only [List.getElem?_toArray, List.getElem?_cons_zero, List.getElem?_cons_succ]; rfl))
    (case ct5 => kernel_rfl)
    go_simp
    refine (ots_any (idx : Int) (n : Int) 0 _).mono ?_
    rintro e y3 ⟨rfl, hd⟩
    refine hK3 _ _ (hS.keep hd) (fun hS3 => ?_)
    clear hS hd hK3 K3
    (refine held_take (i := 5) (oi := ?ot6) (v := .agg (vec 39 (plF (idx : Int) (n : Int) 0 seed))) ?at6 (by kernel_rfl) (by kernel_rfl) (by kernel_rfl) ?bt6 ?ct6 ?dt6 (by assumption) ?rt6; (case at6 => (simp only [List.getElem?_toArray, List.getElem?_cons_zero, List.getElem?_cons_succ]; rfl)); (case bt6 => exact fun _ _ _ h => h); (case ct6 => kernel_rfl); (case dt6 => (intro W hW; exact exec_build 116 _ rfl (vec 39 (plF (idx : Int) (n : Int) 0 seed)) (by kernel_rfl) W)); (case' rt6 => simp only [Act.put, List.setIfInBounds_toArray, List.set_cons_zero, List.set_cons_succ]))
    refine held_one (i := 6) (oi := ?ot7) (by kernel_rfl) ?at7 ?ct7 (fun K6 hK6 => ?_)
    (case at7 => (simp only [List.getElem?_toArray, List.getElem?_cons_zero, List.getElem?_cons_succ]; rfl))
    (case ct7 => kernel_rfl)
    obtain ⟨f0, hf0⟩ := hS3.res
    refine ow_store 116 _ _ rfl _ rfl _ rfl (run_store_arr hf0 (plF (idx : Int) (n : Int) 0 seed) info45 (plF_one _ _ _ _ _)) ?_
    refine hK6 _ _ (hS3.put _) (fun hS6 => ?_)
    clear hK6 K6
    (refine held_take (i := 7) (oi := ?ot8) (v := ?vt8) ?at8 (by kernel_rfl) (by kernel_rfl) (by kernel_rfl) ?bt8 ?ct8 ?dt8 (by assumption) ?rt8; (case at8 => (simp only [List.getElem?_toArray, List.getElem?_cons_zero, List.getElem?_cons_succ]; rfl)); (case bt8 => exact fun _ _ _ h => h); (case ct8 => kernel_rfl); (case dt8 => (intro W hW; (try dsimp only at hW); go_split_ands; go_simp; (try with_reducible rfl))); (case' rt8 => simp only [Act.put, List.setIfInBounds_toArray, List.set_cons_zero, List.set_cons_succ]))
    refine wpAnyH_done (by kernel_rfl) ?_ _
    go_wp2
    exact bodyPost_ret (results_cell_tmp rfl _ _ _ rfl (run_load_arr (hf0.row _) Tryz.underlying116 rfl info45)) rfl ⟨rfl, HA.out.2.2.trans (hS6.save.below (by omega) HA.out.2.2.size)⟩
  · have e1 : isCh chain = false := decide_eq_false hc
    have e2 : placedV seed idx chain = plF 0 0 0 zb := by unfold placedV; rw [e1]; rfl
    rw [e1, e2]
    by_cases h0 : chain < 0
    · have t1 : decide (chain < 0) = true := by simp [h0]
      clear e1 e2 hc
      go_enter Tryz.func69, Tryz.ntmps69
      go_upto_region 1 with fail
      rw [← HW.out]
      clear HW
      go_wp2_with (first
        | ((with_reducible show wpList _ _ _ (Oper.mk _ (.build _ _) _ _ _ _ :: _) _ _); refine wl_build rfl 116 _ rfl (vec 39 (plF 0 0 0 zb)) (by kernel_rfl) ?_)
        | ((with_reducible show wpList _ _ _ (Oper.mk _ (.store _ _ _) _ _ _ _ :: _) _ _); refine wl_store rfl 116 _ _ rfl _ rfl _ rfl (run_store_arr HA.out.2.1 (plF 0 0 0 zb) info45 (plF_one _ _ _ _ _)) ?_))
      exact bodyPost_ret (results_cell_tmp rfl _ _ _ rfl (run_load_arr (HA.out.2.1.row _) Tryz.underlying116 rfl info45)) rfl ⟨rfl, below_row HA.out.2.2 (by omega) _⟩
    · have t1 : decide (chain < 0) = false := by simp; omega
      have t3 : decide (67 ≤ chain) = true := by simp; omega
      have t4 : 67 ≤ chain := by omega
      clear e1 e2 hc
      go_enter Tryz.func69, Tryz.ntmps69
      go_upto_region 1 with fail
      rw [← HW.out]
      clear HW
      go_wp2_with (first
        | ((with_reducible show wpList _ _ _ (Oper.mk _ (.build _ _) _ _ _ _ :: _) _ _); refine wl_build rfl 116 _ rfl (vec 39 (plF 0 0 0 zb)) (by kernel_rfl) ?_)
        | ((with_reducible show wpList _ _ _ (Oper.mk _ (.store _ _ _) _ _ _ _ :: _) _ _); refine wl_store rfl 116 _ _ rfl _ rfl _ rfl (run_store_arr HA.out.2.1 (plF 0 0 0 zb) info45 (plF_one _ _ _ _ _)) ?_))
      exact bodyPost_ret (results_cell_tmp rfl _ _ _ rfl (run_load_arr (HA.out.2.1.row _) Tryz.underlying116 rfl info45)) rfl ⟨rfl, below_row HA.out.2.2 (by omega) _⟩

theorem placedV_one (seed : Nat → UInt8) (idx : Nat) (chain : Int) (n : Nat) : ∀ i, i < n → (placedV seed idx chain i).oneCell' = true := by
  unfold placedV; split
  · exact plF_one _ _ _ _ _
  · exact plF_one _ _ _ _ _
set_option maxHeartbeats 1000000 in
set_option maxRecDepth 100000 in
theorem secret_any (secret : Nat → UInt8) (idx : Nat) (hidx : idx < 4294967296) (chain : Int) (w : World) (hT : Tabs w) :
    Calls Tryz.prog 78 #[.agg (vec 32 (bys secret)), .int .u32 (idx : Int), .int .i64 chain] w fun e w' => e = .returned (.agg (vec 32 (bys (secretF secret idx chain)))) ∧ Below w.heap.size w w' := by
  obtain ⟨V, hV⟩ : ∃ V, V = (w.alloc (.cells (vec 32 (bys secret)) 30)).alloc (.cells (vec 32 (bys zb)) 30) := ⟨_, rfl⟩
  have hA : Arr V w.heap.size 30 32 (bys secret) := by rw [hV]; exact (Arr.newAt _ _ _ _ (by simp)).alloc _
  have hR : Arr V (w.heap.size + 1) 30 32 (bys zb) := by rw [hV]; exact Arr.newAt _ _ _ _ (by simp)
  have hB : Below w.heap.size w V := by rw [hV]; exact (((Below.refl _ _).alloc (by simp <;> omega) _).alloc (by simp <;> omega) _)
  have HA := Lib.hid (And.intro hA (And.intro hR (And.intro hB hT)))
  have HW := Lib.hid hV
  clear hV hA hR hB hT
  obtain ⟨pf, hpf⟩ : ∃ pf, pf = placedV secret idx chain := ⟨_, rfl⟩
  have hone : ∀ i, i < 39 → (pf i).oneCell' = true := by rw [hpf]; exact placedV_one _ _ _ _
  have hpl := fun W => placed_any secret idx chain W
  rw [← hpf] at hpl
  have HPL := Lib.hid (And.intro hpl (And.intro hone hpf))
  clear hpl hone hpf
  have mk : ∀ b : Bool, isCh chain = b → Calls Tryz.prog 78 #[.agg (vec 32 (bys secret)), .int .u32 (idx : Int), .int .i64 chain] w fun e w' => e = .returned (.agg (vec 32 (bys (secretF secret idx chain)))) ∧ Below w.heap.size w w' := by
    intro b hb
    have HPL2 := Lib.hid (And.intro (fun W => hb ▸ HPL.out.1 W) HPL.out.2)
    have HB := Lib.hid hb
    clear HPL hb
    go_enter Tryz.func78, Tryz.ntmps78
    go_upto_region 1 with fail
    rw [← HW.out]
    clear HW
    go_upto_region 2 with (first
      | ((with_reducible show wpList _ _ _ (Oper.mk _ (.load _ _) _ _ _ _ :: _) _ _); refine wl_load rfl 30 _ rfl _ rfl _ (run_load_arr HA.out.1 Tryz.underlying30 rfl info26) ?_)
      | (go_at_call 69; refine (HPL2.out.1 _).mono ?_; rintro e w1 ⟨rfl, hd⟩; have H1 := Lib.hid hd; clear hd)
      | ((with_reducible show wpList _ _ _ (Oper.mk _ (.store _ _ _) _ _ _ _ :: _) _ _); refine wl_store rfl 116 _ _ rfl _ rfl _ rfl (run_store_arr (Arr.new w1 _ _ _) pf info45 HPL2.out.2.1) ?_))
    obtain ⟨V2, hV2⟩ : ∃ V2, V2 = (w1.alloc (.cells (vec 39 (plF 0 0 0 zb)) 116)).setRow w1.heap.size (vec 39 pf) := ⟨_, rfl⟩
    rw [← hV2]
    have hP : Arr V2 w1.heap.size 116 39 pf := by rw [hV2]; exact (Arr.new w1 _ _ _).row _
    have hb2 : Below V.heap.size V V2 := by rw [hV2]; exact below_row (H1.out.alloc H1.out.size _) H1.out.size _
    have hB2 : Below w.heap.size w V2 := HA.out.2.2.1.trans (hb2.mono HA.out.2.2.1.size)
    have H2 := Lib.hid (And.intro hP (And.intro (HA.out.2.1.under hb2) (And.intro hB2 (tabs_below HA.out.2.2.2 hB2))))
    clear hV2 hP hb2 hB2 H1
    cases b with
    | false =>
      go_wp2_with (first
        | ((with_reducible show wpList _ _ _ (Oper.mk _ (.build _ _) _ _ _ _ :: _) _ _); refine wl_build rfl 30 _ rfl (vec 32 (bys zb)) (by kernel_rfl) ?_)
        | ((with_reducible show wpList _ _ _ (Oper.mk _ (.store _ _ _) _ _ _ _ :: _) _ _); refine wl_store rfl 30 _ _ rfl _ rfl _ rfl (run_store_arr H2.out.2.1 (bys zb) info26 (bys_one _ _)) ?_))
      refine bodyPost_ret (results_cell1 rfl _ _ _ rfl (run_load_arr (H2.out.2.1.row _) Tryz.underlying30 rfl info26)) rfl ⟨?_, below_row H2.out.2.2.1 (by omega) _⟩
      have : ¬ (0 ≤ chain ∧ chain ≤ 66) := of_decide_eq_false HB.out
      unfold secretF
      rw [if_neg this]
    | true =>
      have hc : 0 ≤ chain ∧ chain ≤ 66 := of_decide_eq_true HB.out
      obtain ⟨n, rfl⟩ := Int.eq_ofNat_of_zero_le hc.1
      have hn : n ≤ 66 := by omega
      have hP : Arr V2 w1.heap.size 116 39 (plF (idx : Int) (n : Int) ((0 : Nat) : Int) secret) := by
        have := H2.out.1
        rw [HPL2.out.2.2] at this
        unfold placedV at this
        rw [if_pos HB.out] at this
        exact this
      have HK := Lib.hid (And.intro hP (kept_any idx n 0 0 secret hidx (by omega) (by decide) (by decide) V2 H2.out.2.2.2))
      clear hP hc
      go_wp2_with (first
        | ((with_reducible show wpList _ _ _ (Oper.mk _ (.load _ _) _ _ _ _ :: _) _ _); refine wl_load rfl 116 _ rfl _ rfl _ (run_load_arr HK.out.1 Tryz.underlying116 rfl info45) ?_)
        | (go_at_call 94; refine HK.out.2.mono ?_; rintro e w3 ⟨rfl, hd⟩; have H3 := Lib.hid (And.intro (H2.out.2.1.under hd) (H2.out.2.2.1.trans (hd.mono H2.out.2.2.1.size))); clear hd)
        | ((with_reducible show wpList _ _ _ (Oper.mk _ (.store _ _ _) _ _ _ _ :: _) _ _); refine wl_store rfl 30 _ _ rfl _ rfl _ rfl (run_store_arr H3.out.1 (bys (prfF secret 0 0 0 idx n 0 0)) info26 (bys_one _ _)) ?_))
      refine bodyPost_ret (results_cell1 rfl _ _ _ rfl (run_load_arr (H3.out.1.row _) Tryz.underlying30 rfl info26)) rfl ⟨?_, below_row H3.out.2 (by omega) _⟩
      rw [secretF_nat _ _ _ hn]
  exact mk _ rfl
end Go.Proofs.YtfeiplaiekbdkaaGreatDoor
/- wots.Chain. -/
namespace Go.Proofs.YtfeiplaiekbdkaaGreatDoor
open Go.RowKit
attribute [local go_sem ↓ high] zeroV26 zeroV45

/-- What Chain's loop keeps. -/
structure CL (w : World) (g : Nat) (seed : Nat → UInt8) (idx n : Nat) (x : Nat → UInt8) (W : World) : Prop where
  x : Arr W w.heap.size 30 32 (bys x)
  r : Arr W (w.heap.size + 2) 30 32 (bys zb)
  p : Arr W g 116 39 (plF (idx : Int) (n : Int) ((0 : Nat) : Int) seed)
  b : Below w.heap.size w W
  far : w.heap.size + 2 < g
set_option maxHeartbeats 2000000 in
set_option maxRecDepth 100000 in
theorem chain_any (x : Nat → UInt8) (i k : Int) (seed : Nat → UInt8) (idx : Nat) (hidx : idx < 4294967296) (chain : Int) (bi : -9223372036854775808 ≤ i ∧ i ≤ 9223372036854775807) (bk : -9223372036854775808 ≤ k ∧ k ≤ 9223372036854775807) (w : World) (hT : Tabs w) :
    Calls Tryz.prog 46 #[.agg (vec 32 (bys x)), .int .i64 i, .int .i64 k, .agg (vec 32 (bys seed)), .int .u32 (idx : Int), .int .i64 chain] w fun e w' => e = .returned (.agg (vec 32 (bys (chainF x i k seed idx chain)))) ∧ Below w.heap.size w w' := by
  obtain ⟨V, hV⟩ : ∃ V, V = ((w.alloc (.cells (vec 32 (bys x)) 30)).alloc (.cells (vec 32 (bys seed)) 30)).alloc (.cells (vec 32 (bys zb)) 30) := ⟨_, rfl⟩
  have hA : Arr V w.heap.size 30 32 (bys x) := by rw [hV]; exact ((Arr.newAt _ _ _ _ (by simp)).alloc _).alloc _
  have hS : Arr V (w.heap.size + 1) 30 32 (bys seed) := by rw [hV]; exact (Arr.newAt _ _ _ _ (by simp)).alloc _
  have hR : Arr V (w.heap.size + 2) 30 32 (bys zb) := by rw [hV]; exact Arr.newAt _ _ _ _ (by simp)
  have hB : Below w.heap.size w V := by rw [hV]; exact ((((Below.refl _ _).alloc (by simp <;> omega) _).alloc (by simp <;> omega) _).alloc (by simp <;> omega) _)
  have hsz : V.heap.size = w.heap.size + 3 := by rw [hV]; simp
  have HA := Lib.hid (And.intro hA (And.intro hS (And.intro hR (And.intro hB (And.intro hsz hT)))))
  have HW := Lib.hid hV
  clear hV hA hS hR hB hsz hT
  obtain ⟨pf, hpf⟩ : ∃ pf, pf = placedV seed idx chain := ⟨_, rfl⟩
  have hone : ∀ i, i < 39 → (pf i).oneCell' = true := by rw [hpf]; exact placedV_one _ _ _ _
  have hpl := fun W => placed_any seed idx chain W
  rw [← hpf] at hpl
  have HPL := Lib.hid (And.intro hpl (And.intro hone hpf))
  clear hpl hone hpf
  have mk : ∀ b : Bool, isCh chain = b → Calls Tryz.prog 46 #[.agg (vec 32 (bys x)), .int .i64 i, .int .i64 k, .agg (vec 32 (bys seed)), .int .u32 (idx : Int), .int .i64 chain] w fun e w' => e = .returned (.agg (vec 32 (bys (chainF x i k seed idx chain)))) ∧ Below w.heap.size w w' := by
    intro b hb
    have HPL2 := Lib.hid (And.intro (fun W => hb ▸ HPL.out.1 W) HPL.out.2)
    have HB := Lib.hid hb
    clear HPL hb
    go_enter Tryz.func46, Tryz.ntmps46
    go_upto_region 1 with fail
    rw [← HW.out]
    clear HW
    go_upto_region 2 with (first
      | ((with_reducible show wpList _ _ _ (Oper.mk _ (.load _ _) _ _ _ _ :: _) _ _); refine wl_load rfl 30 _ rfl _ rfl _ (run_load_arr HA.out.2.1 Tryz.underlying30 rfl info26) ?_)
      | (go_at_call 69; refine (HPL2.out.1 _).mono ?_; rintro e w1 ⟨rfl, hd⟩; have H1 := Lib.hid hd; clear hd)
      | ((with_reducible show wpList _ _ _ (Oper.mk _ (.store _ _ _) _ _ _ _ :: _) _ _); refine wl_store rfl 116 _ _ rfl _ rfl _ rfl (run_store_arr (Arr.new w1 _ _ _) pf info45 HPL2.out.2.1) ?_))
    obtain ⟨g, hg⟩ : ∃ g, g = w1.heap.size := ⟨_, rfl⟩
    obtain ⟨V2, hV2⟩ : ∃ V2, V2 = (w1.alloc (.cells (vec 39 (plF 0 0 0 zb)) 116)).setRow w1.heap.size (vec 39 pf) := ⟨_, rfl⟩
    have hP : Arr V2 g 116 39 pf := by rw [hV2, hg]; exact (Arr.new w1 _ _ _).row _
    have hb2 : Below V.heap.size V V2 := by rw [hV2]; exact below_row (H1.out.alloc H1.out.size _) H1.out.size _
    have hB2 : Below w.heap.size w V2 := HA.out.2.2.2.1.trans (hb2.mono HA.out.2.2.2.1.size)
    have hfar : w.heap.size + 2 < g := by have := H1.out.size; have := HA.out.2.2.2.2.1; omega
    rw [← hV2, ← hg]
    have H2 := Lib.hid (And.intro hP (And.intro (HA.out.1.under hb2) (And.intro (HA.out.2.2.1.under hb2) (And.intro hB2 (And.intro hfar HA.out.2.2.2.2.2)))))
    clear hV2 hP hb2 hB2 H1 hg hfar HA
    cases b with
    | false =>
      have hc : ¬ (0 ≤ chain ∧ chain ≤ 66) := of_decide_eq_false HB.out
      have HST : Hid (steppy i k chain = false) := Lib.hid (decide_eq_false (by omega))
      go_wp2_with (first
        | ((with_reducible show wpList _ _ _ (Oper.mk _ (.build _ _) _ _ _ _ :: _) _ _); refine wl_build rfl 30 _ rfl (vec 32 (bys zb)) (by kernel_rfl) ?_)
        | ((with_reducible show wpList _ _ _ (Oper.mk _ (.store _ _ _) _ _ _ _ :: _) _ _); refine wl_store rfl 30 _ _ rfl _ rfl _ rfl (run_store_arr H2.out.2.2.1 (bys zb) info26 (bys_one _ _)) ?_))
      refine bodyPost_ret (results_cell1 rfl _ _ _ rfl (run_load_arr (H2.out.2.2.1.row _) Tryz.underlying30 rfl info26)) rfl ⟨?_, below_row H2.out.2.2.2.1 (by omega) _⟩
      unfold chainF
      rw [HST.out]
      rfl
    | true =>
      have hc : 0 ≤ chain ∧ chain ≤ 66 := of_decide_eq_true HB.out
      by_cases hi : i < 0
      · have t1 : decide (i < 0) = true := by simp [hi]
        have HST : Hid (steppy i k chain = false) := Lib.hid (decide_eq_false (by omega))
        go_wp2_with (first
          | ((with_reducible show wpList _ _ _ (Oper.mk _ (.build _ _) _ _ _ _ :: _) _ _); refine wl_build rfl 30 _ rfl (vec 32 (bys zb)) (by kernel_rfl) ?_)
          | ((with_reducible show wpList _ _ _ (Oper.mk _ (.store _ _ _) _ _ _ _ :: _) _ _); refine wl_store rfl 30 _ _ rfl _ rfl _ rfl (run_store_arr H2.out.2.2.1 (bys zb) info26 (bys_one _ _)) ?_))
        refine bodyPost_ret (results_cell1 rfl _ _ _ rfl (run_load_arr (H2.out.2.2.1.row _) Tryz.underlying30 rfl info26)) rfl ⟨?_, below_row H2.out.2.2.2.1 (by omega) _⟩
        unfold chainF
        rw [HST.out]
        rfl
      · have t1 : decide (i < 0) = false := by simp; omega
        by_cases hk : k < 0
        · have t2 : decide (k < 0) = true := by simp [hk]
          have HST : Hid (steppy i k chain = false) := Lib.hid (decide_eq_false (by omega))
          go_wp2_with (first
            | ((with_reducible show wpList _ _ _ (Oper.mk _ (.build _ _) _ _ _ _ :: _) _ _); refine wl_build rfl 30 _ rfl (vec 32 (bys zb)) (by kernel_rfl) ?_)
            | ((with_reducible show wpList _ _ _ (Oper.mk _ (.store _ _ _) _ _ _ _ :: _) _ _); refine wl_store rfl 30 _ _ rfl _ rfl _ rfl (run_store_arr H2.out.2.2.1 (bys zb) info26 (bys_one _ _)) ?_))
          refine bodyPost_ret (results_cell1 rfl _ _ _ rfl (run_load_arr (H2.out.2.2.1.row _) Tryz.underlying30 rfl info26)) rfl ⟨?_, below_row H2.out.2.2.2.1 (by omega) _⟩
          unfold chainF
          rw [HST.out]
          rfl
        · have t2 : decide (k < 0) = false := by simp; omega
          by_cases hs : 15 - i < k
          · have t3 : decide (15 - i < k) = true := by simp [hs]
            have HST : Hid (steppy i k chain = false) := Lib.hid (decide_eq_false (by omega))
            go_wp2_with (first
              | ((with_reducible show wpList _ _ _ (Oper.mk _ (.build _ _) _ _ _ _ :: _) _ _); refine wl_build rfl 30 _ rfl (vec 32 (bys zb)) (by kernel_rfl) ?_)
              | ((with_reducible show wpList _ _ _ (Oper.mk _ (.store _ _ _) _ _ _ _ :: _) _ _); refine wl_store rfl 30 _ _ rfl _ rfl _ rfl (run_store_arr H2.out.2.2.1 (bys zb) info26 (bys_one _ _)) ?_))
            refine bodyPost_ret (results_cell1 rfl _ _ _ rfl (run_load_arr (H2.out.2.2.1.row _) Tryz.underlying30 rfl info26)) rfl ⟨?_, below_row H2.out.2.2.2.1 (by omega) _⟩
            unfold chainF
            rw [HST.out]
            rfl
          · have t3 : decide (15 - i < k) = false := by simp; omega
            obtain ⟨n, rfl⟩ := Int.eq_ofNat_of_zero_le hc.1
            obtain ⟨i, rfl⟩ := Int.eq_ofNat_of_zero_le (Int.not_lt.1 hi)
            obtain ⟨k, rfl⟩ := Int.eq_ofNat_of_zero_le (Int.not_lt.1 hk)
            have hn : n ≤ 66 := by omega
            have hik : i + k ≤ 15 := by omega
            have HCH := Lib.hid (chainF_nat x i k seed idx n hn hik)
            have hP : Arr V2 g 116 39 (plF (idx : Int) (n : Int) ((0 : Nat) : Int) seed) := by
              have := H2.out.1
              rw [HPL2.out.2.2] at this
              unfold placedV at this
              rw [if_pos HB.out] at this
              exact this
            have HC : Hid (CL w g seed idx n x V2 ∧ Tabs w) := Lib.hid ⟨⟨H2.out.2.1, H2.out.2.2.1, hP, H2.out.2.2.2.1, H2.out.2.2.2.2.1⟩, H2.out.2.2.2.2.2⟩
            clear hP H2 HPL2 HB hc hi hk
            go_wp2_with fail
            go_loopw [41] (fun j W => ∃ q : Nat, q ≤ k ∧ j = .int .i64 q ∧ Hid (CL w g seed idx n (chF seed idx n x i q) W)) (fun j _ => k - (intOf j).toNat)
            case atStart => exact ⟨0, Nat.zero_le _, rfl, Lib.hid HC.out.1⟩
            case round =>
              obtain ⟨q, hq, rfl, hR⟩ := hrel
              by_cases hlt : q < k
              · have hwn : IntKind.i64.wrap ((i : Int) + (q : Int)) = ((i + q : Nat) : Int) := by rw [IntKind.wrap_i64]; omega
                have HTw := Lib.hid (tabs_below HC.out.2 hR.out.b)
                have HF := Lib.hid (tabs_far HC.out.2 (Nat.le_refl _))
                have hltI : (q : Int) < (k : Int) := by omega
                go_upto_region 7 with fail
                have HX : Hid (Arr wr.drew w.heap.size 30 32 (bys (chF seed idx n x i q))) := Lib.hid (hR.out.x.drewN 1)
                refine wp_region_held_drew (S := fun Y => SR wr w.heap.size Y) (by kernel_rfl) (SR.begin hR.out.x) (fun hS => ?_)
                (refine held_take (i := 0) (oi := ?ot9) (v := .agg (vec 39 (plF (idx : Int) (n : Int) ((0 : Nat) : Int) seed))) ?at9 (by kernel_rfl) (by kernel_rfl) (by kernel_rfl) ?bt9 ?ct9 ?dt9 (by assumption) ?rt9; (case at9 => (simp only [List.getElem?_toArray, List.getElem?_cons_zero]; rfl)); (case bt9 => exact fun _ _ _ h => h); (case ct9 => kernel_rfl); (case dt9 => (intro W hW; exact exec_load 116 _ rfl _ rfl _ (run_load_arr (hW.arr hR.out.p (by have := hR.out.far; omega)) Tryz.underlying116 rfl info45))); (case' rt9 => simp only [Act.put, List.setIfInBounds_toArray, List.set_cons_zero, List.set_cons_succ]))
                (refine held_take (i := 1) (oi := ?ot10) (v := ?vt10) ?at10 (by kernel_rfl) (by kernel_rfl) (by kernel_rfl) ?bt10 ?ct10 ?dt10 (by assumption) ?rt10; (case at10 => (simp only [List.getElem?_toArray, List.getElem?_cons_zero, List.getElem?_cons_succ]; rfl)); (case bt10 => exact fun _ _ _ h => h); (case ct10 => kernel_rfl); (case dt10 => (intro W hW; (try dsimp only at hW); go_split_ands; go_simp; (try with_reducible rfl))); (case' rt10 => simp only [Act.put, List.setIfInBounds_toArray, List.set_cons_zero, List.set_cons_succ]))
                (refine held_take (i := 2) (oi := ?ot11) (v := ?vt11) ?at11 (by kernel_rfl) (by kernel_rfl) (by kernel_rfl) ?bt11 ?ct11 ?dt11 (by assumption) ?rt11; (case at11 => (simp only [List.getElem?_toArray, List.getElem?_cons_zero, List.getElem?_cons_succ]; rfl)); (case bt11 => exact fun _ _ _ h => h); (case ct11 => kernel_rfl); (case dt11 => (intro W hW; (try dsimp only at hW); go_split_ands; go_simp; (try with_reducible rfl))); (case' rt11 => simp only [Act.put, List.setIfInBounds_toArray, List.set_cons_zero, List.set_cons_succ]))
                (refine held_take (i := 3) (oi := ?ot12) (v := ?vt12) ?at12 (by kernel_rfl) (by kernel_rfl) (by kernel_rfl) ?bt12 ?ct12 ?dt12 (by assumption) ?rt12; (case at12 => (simp only [List.getElem?_toArray, List.getElem?_cons_zero, List.getElem?_cons_succ]; rfl)); (case bt12 => exact fun _ _ _ h => h); (case ct12 => kernel_rfl); (case dt12 => (intro W hW; (try dsimp only at hW); go_split_ands; go_simp; (try with_reducible rfl))); (case' rt12 => simp only [Act.put, List.setIfInBounds_toArray, List.set_cons_zero, List.set_cons_succ]))
                refine held_two (i := 4) (j := 5) (oi := ?oit19) (oj := ?ojt19) (by kernel_rfl) ?ait19 ?ajt19 ?cit19 ?cjt19 (fun K4 hK4 => ?hit19) (fun K5 hK5 => ?hjt19)
                (case ait19 => (simp only [List.getElem?_toArray, List.getElem?_cons_zero, List.getElem?_cons_succ]; rfl))
                (case ajt19 => (simp only [List.getElem?_toArray, List.getElem?_cons_zero, List.getElem?_cons_succ]; rfl))
                (case cit19 => kernel_rfl)
                (case cjt19 => kernel_rfl)
                case hit19 =>
                  go_simp
                  refine (at_any (idx : Int) (n : Int) ((0 : Nat) : Int) seed (i + q) (by omega) _).mono ?_
                  rintro e y4 ⟨rfl, hd⟩
                  have HX := Lib.hid (HX.out.under hd)
                  refine hK4 _ _ (hS.keep hd) (fun hS4 => ?_)
                  clear hS hd hK4 K4
                  refine held_one (i := 5) (oi := ?ot13) (by kernel_rfl) ?at13 ?ct13 (fun K5 hK5 => ?_)
                  (case at13 => (simp only [List.getElem?_toArray, List.getElem?_cons_zero, List.getElem?_cons_succ]; rfl))
                  (case ct13 => kernel_rfl)
                  refine ow_load 30 _ rfl _ _ rfl _ (run_load_arr HX.out Tryz.underlying30 rfl info26) ?_
                  refine hK5 _ _ hS4 (fun hS5 => ?_)
                  clear hK5 K5
                  refine held_one (i := 6) (oi := ?ot14) (by kernel_rfl) ?at14 ?ct14 (fun K6 hK6 => ?_)
                  (case at14 => (simp only [List.getElem?_toArray, List.getElem?_cons_zero, List.getElem?_cons_succ]; rfl))
                  (case ct14 => kernel_rfl)
                  go_simp
                  refine (step_any idx n (i + q) seed (chF seed idx n x i q) hidx (by omega) (by omega) _ (hS5.tabs HTw.out HF.out.1 HF.out.2)).mono ?_
                  rintro e y6 ⟨rfl, hd⟩
                  refine hK6 _ _ (hS5.keep hd) (fun hS6 => ?_)
                  clear hS5 hd hK6 K6
                  refine held_one (i := 7) (oi := ?ot15) (by kernel_rfl) ?at15 ?ct15 (fun K7 hK7 => ?_)
                  (case at15 => (simp only [List.getElem?_toArray, List.getElem?_cons_zero, List.getElem?_cons_succ]; rfl))
                  (case ct15 => kernel_rfl)
                  obtain ⟨f0, hf0⟩ := hS6.res
                  refine ow_store 30 _ _ rfl _ rfl _ rfl (run_store_arr hf0 (bys (chF seed idx n x i (q + 1))) info26 (bys_one _ _)) ?_
                  refine hK7 _ _ (hS6.put _) (fun hS7 => ?_)
                  clear hK7 K7
                  refine wpAnyH_done (by kernel_rfl) ?_ _
                  have HN : Hid (CL w g seed idx n (chF seed idx n x i (q + 1)) _) := Lib.hid ⟨hf0.row _, hS7.arr hR.out.r (by omega), hS7.arr hR.out.p (by have := hR.out.far; omega), hS7.below hR.out.b (Nat.le_refl _), hR.out.far⟩
                  clear hf0 hS7 HX
                  go_wp2
                  go_roundw
                  case rel => exact ⟨q + 1, by omega, by go_num, Lib.hid HN.out⟩
                  case measure => simp [intOf]; omega
                case hjt19 =>
                  refine ow_load 30 _ rfl _ _ rfl _ (run_load_arr HX.out Tryz.underlying30 rfl info26) ?_
                  refine hK5 _ _ hS (fun hS5 => ?_)
                  clear hK5 K5
                  refine held_one (i := 4) (oi := ?ot16) (by kernel_rfl) ?at16 ?ct16 (fun K4 hK4 => ?_)
                  (case at16 => (simp only [List.getElem?_toArray, List.getElem?_cons_zero, List.getElem?_cons_succ]; rfl))
                  (case ct16 => kernel_rfl)
                  go_simp
                  refine (at_any (idx : Int) (n : Int) ((0 : Nat) : Int) seed (i + q) (by omega) _).mono ?_
                  rintro e y4 ⟨rfl, hd⟩
                  have HX := Lib.hid (HX.out.under hd)
                  refine hK4 _ _ (hS5.keep hd) (fun hS4 => ?_)
                  clear hS5 hd hK4 K4
                  refine held_one (i := 6) (oi := ?ot17) (by kernel_rfl) ?at17 ?ct17 (fun K6 hK6 => ?_)
                  (case at17 => (simp only [List.getElem?_toArray, List.getElem?_cons_zero, List.getElem?_cons_succ]; rfl))
                  (case ct17 => kernel_rfl)
                  go_simp
                  refine (step_any idx n (i + q) seed (chF seed idx n x i q) hidx (by omega) (by omega) _ (hS4.tabs HTw.out HF.out.1 HF.out.2)).mono ?_
                  rintro e y6 ⟨rfl, hd⟩
                  refine hK6 _ _ (hS4.keep hd) (fun hS6 => ?_)
                  clear hS4 hd hK6 K6
                  refine held_one (i := 7) (oi := ?ot18) (by kernel_rfl) ?at18 ?ct18 (fun K7 hK7 => ?_)
                  (case at18 => (simp only [List.getElem?_toArray, List.getElem?_cons_zero, List.getElem?_cons_succ]; rfl))
                  (case ct18 => kernel_rfl)
                  obtain ⟨f0, hf0⟩ := hS6.res
                  refine ow_store 30 _ _ rfl _ rfl _ rfl (run_store_arr hf0 (bys (chF seed idx n x i (q + 1))) info26 (bys_one _ _)) ?_
                  refine hK7 _ _ (hS6.put _) (fun hS7 => ?_)
                  clear hK7 K7
                  refine wpAnyH_done (by kernel_rfl) ?_ _
                  have HN : Hid (CL w g seed idx n (chF seed idx n x i (q + 1)) _) := Lib.hid ⟨hf0.row _, hS7.arr hR.out.r (by omega), hS7.arr hR.out.p (by have := hR.out.far; omega), hS7.below hR.out.b (Nat.le_refl _), hR.out.far⟩
                  clear hf0 hS7 HX
                  go_wp2
                  go_roundw
                  case rel => exact ⟨q + 1, by omega, by go_num, Lib.hid HN.out⟩
                  case measure => simp [intOf]; omega
              · obtain rfl : q = k := by omega
                have hltI : ¬ ((q : Int) < (q : Int)) := by omega
                go_wp2_with (first
                  | ((with_reducible show wpList _ _ _ (Oper.mk _ (.load _ _) _ _ _ _ :: _) _ _); refine wl_load rfl 30 _ rfl _ rfl _ (run_load_arr hR.out.x Tryz.underlying30 rfl info26) ?_)
                  | ((with_reducible show wpList _ _ _ (Oper.mk _ (.store _ _ _) _ _ _ _ :: _) _ _); refine wl_store rfl 30 _ _ rfl _ rfl _ rfl (run_store_arr hR.out.r (bys (chF seed idx n x i q)) info26 (bys_one _ _)) ?_))
                exact bodyPost_ret (results_cell1 rfl _ _ _ rfl (run_load_arr (hR.out.r.row _) Tryz.underlying30 rfl info26)) rfl ⟨by rw [HCH.out], below_row hR.out.b (by omega) _⟩
  exact mk _ rfl
end Go.Proofs.YtfeiplaiekbdkaaGreatDoor
/- wots.each: what is made of each chain and its digit. -/
namespace Go.Proofs.YtfeiplaiekbdkaaGreatDoor
open Go.RowKit Go.Shelf
attribute [local go_sem] Oper.semAt_some
attribute [local go_sem ↓ high] zeroV26

theorem make67 : ∃ C : Array Value, C.size = 67 * 32 ∧ ∀ w : World, (Instr.makeSlice 31 (.int .i64 0) (.int .i64 67)).run Tryz.prog w = .ok (.slice (some ⟨w.heap.size, 0, none⟩) 0 67) (w.alloc (.cells C 30)) := by
  obtain ⟨i0, hi, hz0, hz1, hz2⟩ := info_parts infoN
  refine ⟨madeCells (Value.agg (vec 32 (bys zb))).cells (67 * 32), size_madeCells _ _, fun w => ?_⟩
  have h := run_make (P := Tryz.prog) (w := w) 31 30 i0 (.agg (vec 32 (bys zb))) Tryz.underlying31 hi hz0 .i64 .i64 0 67 (by omega) (by omega) (by rw [hz2]; omega) (by omega)
  rw [hz1] at h
  exact h
theorem made_owns (w : World) (base : Nat) (hb : base ≤ w.heap.size) (C : Array Value) (hC : C.size = 67 * 32) : (w.alloc (.cells C 30)).ownsRow base 30 32 (.slice (some ⟨w.heap.size, 0, none⟩) 0 67) 0 [] :=
  ⟨rfl, .inr ⟨w.heap.size, 67, C, rfl, hb, heap_alloc_new w _, Nat.zero_le _, by decide, hC, by simp⟩⟩
theorem keepsOthers_below {W W' : World} (h : Below W.heap.size W W') : KeepsOthers W W' := ⟨h.size, fun k _ hk _ => (h.block k (Array.getElem?_eq_some_iff.1 hk).1).trans hk⟩

theorem boxed_under {W W' : World} {B : Nat} {t : TypeId} {v : Value} (h : Boxed W B t v) (hb : Below W.heap.size W W') : Boxed W' B t v := (hb.block B h.lt).trans h
/-- What a closure makes of any chain and digit. -/
def DoOk (df : Nat) (cap : Array Value) (w0 : World) (R : Nat → Nat → Nd) : Prop :=
  ∀ (x : CD) (W : World), Below w0.heap.size w0 W → Calls Tryz.prog df (#[.int .i64 (x.1.1 : Int), .int .i64 (x.1.2 : Int)] ++ cap) W fun e W' => e = .returned (.agg (vec 32 (bys (R x.1.1 x.1.2)))) ∧ Below W.heap.size W W'
def madeOf (R : Nat → Nat → Nd) (pre : List CD) : List Nd := pre.map fun x => R x.1.1 x.1.2
theorem madeOf_snoc (R : Nat → Nat → Nd) (pre : List CD) (x : CD) : madeOf R (pre ++ [x]) = madeOf R pre ++ [R x.1.1 x.1.2] := by simp [madeOf]

/-- What each keeps from round to round. -/
def EI (w : World) (R : Nat → Nat → Nd) (dov : Value) (pre : List CD) (W : World) : Prop :=
  (∃ v, Boxed W (w.heap.size + 1 + 1) 31 v ∧ W.ownsRow w.heap.size 30 32 v pre.length (cellsN (madeOf R pre)) ∧ True) ∧ Boxed W w.heap.size 79 dov ∧ Below w.heap.size w W
theorem ei_own (w : World) (R : Nat → Nat → Nd) (dov : Value) (B : Nat) (hB : w.heap.size ≤ B) : OwnFrom B (EI w R dov) := fun s X Y row hs hg hr =>
  ⟨holdsRow_own w.heap.size (w.heap.size + 1 + 1) 31 30 32 (fun pre : List CD => pre.length) (fun pre => cellsN (madeOf R pre)) (fun _ _ => True) s X Y row hs.1 hg (fun r e => (hr r e).2),
   boxed_own w.heap.size 79 (fun _ : List CD => dov) s X Y row hs.2.1 hg (fun r e => (hr r e).2), hs.2.2.grown hg hs.2.2.size (fun k e => Nat.le_trans hB (hr k e).1)⟩

set_option maxRecDepth 100000 in
set_option maxHeartbeats 2000000 in
theorem each_any (gf : Nat) (lb : Array Value) (eg : ∀ args W, (callFunc gf args).run Tryz.prog W = .ok (.enter gf args) W) (df : Nat) (cap : Array Value) (ed : ∀ args W, (callFunc df args).run Tryz.prog W = .ok (.enter df args) W)
    (ds : List CD) (Bm : Nat) (w : World) (hBm : Bm < w.heap.size) (Spp : List CD → Prop) (R : Nat → Nat → Nd)
    (hseq : SeqStopsK Fence.wide 9 Tryz.prog gf lb encCD (KB Bm) (fun ys => ys = ds) Spp 67 w) (hdo : DoOk df cap w R) :
    Calls Tryz.prog 43 #[.func (.func gf) #[] lb, .func (.func df) #[] cap] w fun e W' => ∃ v, e = .returned v ∧ OwnN W' w.heap.size v (madeOf R ds) ∧ Below w.heap.size w W' := by
  obtain ⟨C, hC, hmk⟩ := make67
  have HDO := Lib.hid hdo
  have HSQ := Lib.hid hseq
  clear hdo hseq
  refine (callsIn_wide (n := 10)).1 ?_
  refine callsIn_of_wp_marks Tryz.func43 rfl trivial ?_ rfl
  simp only [Tryz.ntmps43, List.size_toArray, List.length_cons, List.length_nil, Nat.reduceAdd, Nat.reduceSub, Array.replicate_succ, Array.replicate_zero, List.push_toArray, List.append_toArray, List.nil_append, List.cons_append]
  gi_wp2
  obtain ⟨V, hV⟩ : ∃ V, V = ((w.alloc (.cells #[(.func (.func df) #[] cap)] 79)).alloc (.cells C 30)).alloc (.cells #[.slice (some ⟨w.heap.size + 1, 0, none⟩) 0 67] 31) := ⟨_, rfl⟩
  have hD : Boxed V w.heap.size 79 (.func (.func df) #[] cap) := by rw [hV]; exact ((Boxed.new w _ _).alloc _).alloc _
  have hO : V.ownsRow w.heap.size 30 32 (.slice (some ⟨w.heap.size + 1, 0, none⟩) 0 67) 0 [] := by
    have := ownsN_below (made_owns (w.alloc (.cells #[(.func (.func df) #[] cap)] 79)) w.heap.size (by simp) C hC) ((Below.refl _ _).alloc (Nat.le_refl _) (.cells #[.slice (some ⟨w.heap.size + 1, 0, none⟩) 0 67] 31))
    rw [hV]
    simpa using this
  have hX : Boxed V (w.heap.size + 1 + 1) 31 (.slice (some ⟨w.heap.size + 1, 0, none⟩) 0 67) := by
    have := Boxed.new ((w.alloc (.cells #[(.func (.func df) #[] cap)] 79)).alloc (.cells C 30)) 31 (.slice (some ⟨w.heap.size + 1, 0, none⟩) 0 67)
    rw [hV]
    simpa using this
  have hB : Below w.heap.size w V := by rw [hV]; exact ((((Below.refl _ _).alloc (by simp <;> omega) _).alloc (by simp <;> omega) _).alloc (by simp <;> omega) _)
  have hsz : V.heap.size = w.heap.size + 3 := by rw [hV]; simp
  rw [← hV]
  clear hV hmk hC
  refine wpIn_rangeFunc_ownH rfl (by omega) (gf := gf) (lb := lb) rfl trivial eg HSQ.out
    KB.trans (fun W l o o' hl _ _ _ => KB.putObj _ (by omega)) hB (fun _ => rfl)
    (EI w R (.func (.func df) #[] cap))
    (fun _ _ _ => False)
    (ei_own w R (.func (.func df) #[] cap) V.heap.size hB.size)
    (fun _ _ _ _ _ hs _ _ => hs)
    ⟨⟨_, hX, hO, trivial⟩, hD, hB⟩
    (fun x a' _ => a' = { tmps := #[.func (.func gf) #[] lb, (.func (.func df) #[] cap), undef, .pointer (some ⟨w.heap.size, 0, none⟩), .slice none 0 0, .pointer (some ⟨w.heap.size + 1 + 1, 0, none⟩), .int .i64 (x.1.1 : Int), .int .i64 (x.1.2 : Int), .slice (some ⟨w.heap.size + 1, 0, none⟩) 0 67, .func (.func gf) #[] lb, .int .i64 (x.1.1 : Int), .int .i64 (x.1.2 : Int), undef, undef, undef, undef, undef, undef, undef, undef], defers := [] })
    (fun _ _ _ _ _ _ hs _ _ => hs)
    ?assign ?body ?done ?stop
  case assign =>
    rintro l pre ⟨⟨c, d⟩, hx⟩ W K hI hK
    unfold encCD
    gi_wp2
    exact hK _ _ (KeepsFrom.refl _ _) (KB.refl _ _) hI rfl
  case body =>
    rintro l pre ⟨⟨c, d⟩, hx⟩ a' W hl ⟨r, hr⟩ ⟨⟨v, hv, hrow, _⟩, hdo, hbl⟩ rfl hlt
    have hle : w.heap.size ≤ W.heap.size := hbl.size
    have HI := Lib.hid (And.intro hbl hle)
    have HD0 := Lib.hid hdo
    have HV : Hid (Boxed W.drew (w.heap.size + 1 + 1) 31 v) := Lib.hid hv
    have HR := Lib.hid hrow
    have HH := Lib.hid hdo.cell
    have hne : (31 : TypeId) ≠ 30 := by decide
    have hnf : (79 : TypeId) ≠ 30 := by decide
    clear hv hrow hdo hbl hr hl hle
    gi_upto_region 5 with fail
    refine wpIn_region_held_drew (S := fun Y => Boxed Y w.heap.size 79 (.func (.func df) #[] cap)) (by kernel_rfl) (by kernel_rfl) (by rintro ⟨_, _, h⟩; exact h) (show Boxed W.drew w.heap.size 79 (.func (.func df) #[] cap) from HD0.out) (fun hS => ?_)
    (refine held_take (i := 1) (oi := ?ot1) (v := (.func (.func df) #[] cap)) ?at1 (by kernel_rfl) (by kernel_rfl) (by kernel_rfl) ?bt1 ?ct1 ?dt1 (by assumption) ?rt1; (case at1 => (simp only [List.getElem?_toArray, List.getElem?_cons_zero, List.getElem?_cons_succ]; rfl)); (case bt1 => exact fun _ _ _ h => h); (case ct1 => kernel_rfl); (case dt1 => (intro W hW; have hc := hW.cell; clear hW; go_simp; (try with_reducible rfl))); (case' rt1 => simp only [Act.put, List.setIfInBounds_toArray, List.set_cons_zero, List.set_cons_succ]))
    (refine held_take (i := 2) (oi := ?ot2) (v := ?vt2) ?at2 (by kernel_rfl) (by kernel_rfl) (by kernel_rfl) ?bt2 ?ct2 ?dt2 (by assumption) ?rt2; (case at2 => (simp only [List.getElem?_toArray, List.getElem?_cons_zero, List.getElem?_cons_succ]; rfl)); (case bt2 => exact fun _ _ _ h => h); (case ct2 => kernel_rfl); (case dt2 => (intro W hW; (try dsimp only at hW); go_split_ands; go_simp; (try with_reducible rfl))); (case' rt2 => simp only [Act.put, List.setIfInBounds_toArray, List.set_cons_zero, List.set_cons_succ]))
    (refine held_take (i := 3) (oi := ?ot3) (v := ?vt3) ?at3 (by kernel_rfl) (by kernel_rfl) (by kernel_rfl) ?bt3 ?ct3 ?dt3 (by assumption) ?rt3; (case at3 => (simp only [List.getElem?_toArray, List.getElem?_cons_zero, List.getElem?_cons_succ]; rfl)); (case bt3 => exact fun _ _ _ h => h); (case ct3 => kernel_rfl); (case dt3 => (intro W hW; (try dsimp only at hW); go_split_ands; go_simp; (try with_reducible rfl))); (case' rt3 => simp only [Act.put, List.setIfInBounds_toArray, List.set_cons_zero, List.set_cons_succ]))
    refine held_two (i := 0) (j := 4) (oi := ?oit15) (oj := ?ojt15) (by kernel_rfl) ?ait15 ?ajt15 ?cit15 ?cjt15 (fun K0 hK0 => ?hit15) (fun K4 hK4 => ?hjt15)
    (case ait15 => (simp only [List.getElem?_toArray, List.getElem?_cons_zero]; rfl))
    (case ajt15 => (simp only [List.getElem?_toArray, List.getElem?_cons_zero, List.getElem?_cons_succ]; rfl))
    (case cit15 => kernel_rfl)
    (case cjt15 => kernel_rfl)
    case hit15 =>
      have hc := HV.out.cell
      go_simp
      refine hK0 _ _ hS (fun hS0 => ?_)
      clear hc hK0 K0
      refine held_one (i := 4) (oi := ?ot4) (by kernel_rfl) ?at4 ?ct4 (fun K4 hK4 => ?_)
      (case at4 => (simp only [List.getElem?_toArray, List.getElem?_cons_zero, List.getElem?_cons_succ]; rfl))
      (case ct4 => kernel_rfl)
      go_simp
      refine (HDO.out ⟨(c, d), hx⟩ _ (below_drewN HI.out.1 1)).mono ?_
      rintro e y4 ⟨rfl, hd⟩
      have HV := Lib.hid (boxed_under HV.out hd)
      have HR4 := Lib.hid (ownsN_below (w := W.drew) HR.out hd)
      have HD4 := Lib.hid (show Below W.heap.size W y4 from ⟨hd.1, hd.2, hd.3, hd.4, hd.5⟩)
      refine hK4 _ _ (boxed_under hS0 hd) (fun hS4 => ?_)
      clear hd hK4 K4
      refine held_one (i := 5) (oi := ?ot5) (by kernel_rfl) ?at5 ?ct5 (fun K5 hK5 => ?_)
      (case at5 => (simp only [List.getElem?_toArray, List.getElem?_cons_zero, List.getElem?_cons_succ]; rfl))
      (case ct5 => kernel_rfl)
      refine ow_build1 _ rfl (R c d) rfl ?_
      refine hK5 _ _ (hS4.alloc _) (fun hS5 => ?_)
      clear hK5 K5
      have HV4 := HV
      have HV := Lib.hid (HV4.out.alloc (.cells (vec 32 (bys (R c d))) 30))
      refine held_one (i := 6) (oi := ?ot6) (by kernel_rfl) ?at6 ?ct6 (fun K6 hK6 => ?_)
      (case at6 => (simp only [List.getElem?_toArray, List.getElem?_cons_zero, List.getElem?_cons_succ]; rfl))
      (case ct6 => kernel_rfl)
      obtain ⟨v6, y6, hr6, hown6, hg6⟩ := app_own (HR4.out.alloc (.cells (vec 32 (bys (R c d))) 30)) (Arr.new y4 30 32 (bys (R c d))) (by omega) (by have := HI.out.2; have := HD4.out.size; simp; omega) 31
      have hap := Boxed.appended HV4.out hne HR4.out (Nat.le_trans HI.out.2 HD4.out.size) (show w.heap.size ≤ w.heap.size + 1 + 1 by omega) hown6 hg6
      have hdk : Boxed y6 w.heap.size 79 (.func (.func df) #[] cap) := hS5.kept hg6 (hS5.not_row hnf (HR4.out.alloc (.cells (vec 32 (bys (R c d))) 30)))
      refine Lib.wp_append_run _ _ _ _ _ rfl _ _ rfl rfl _ _ hr6 ?_
      refine hK6 _ _ hdk (fun hS6 => ?_)
      have HAP := Lib.hid hap
      clear hK6 K6 hr6 hdk hap hg6
      refine held_one (i := 7) (oi := ?ot7) (by kernel_rfl) ?at7 ?ct7 (fun K7 hK7 => ?_)
      (case at7 => (simp only [List.getElem?_toArray, List.getElem?_cons_zero, List.getElem?_cons_succ]; rfl))
      (case ct7 => kernel_rfl)
      obtain ⟨g7, c7, rfl⟩ := ownsRow_succ hown6
      have hc := HAP.out.1.cell
      have hf := HAP.out.1.frozen
      have hSb := hS6
      go_simp
      refine hK7 _ _ (hSb.other (show w.heap.size ≠ w.heap.size + 1 + 1 by omega) _) (fun hS7 => ?_)
      clear hK7 K7 hc hf
      refine wpAnyH_done (by kernel_rfl) ?_ _
      refine ⟨((keepsOthers_below HD4.out).trans HAP.out.2.2.2.1).from _, KB.of_below ((HD4.out.mono HI.out.2).trans HAP.out.2.2.2.2) hBm, ⟨_, HAP.out.2.1, ?_, trivial⟩, hS7, HI.out.1.trans ((HD4.out.mono HI.out.2).trans HAP.out.2.2.2.2)⟩
      rw [madeOf_snoc, cellsN_snoc, List.length_append]
      exact HAP.out.2.2.1
    case hjt15 =>
      go_simp
      refine (HDO.out ⟨(c, d), hx⟩ _ (below_drewN HI.out.1 1)).mono ?_
      rintro e y4 ⟨rfl, hd⟩
      have HV := Lib.hid (boxed_under HV.out hd)
      have HR4 := Lib.hid (ownsN_below (w := W.drew) HR.out hd)
      have HD4 := Lib.hid (show Below W.heap.size W y4 from ⟨hd.1, hd.2, hd.3, hd.4, hd.5⟩)
      refine hK4 _ _ (boxed_under hS hd) (fun hS4 => ?_)
      clear hd hK4 K4
      refine held_two (i := 0) (j := 5) (oi := ?oit14) (oj := ?ojt14) (by kernel_rfl) ?ait14 ?ajt14 ?cit14 ?cjt14 (fun K0 hK0 => ?hit14) (fun K5 hK5 => ?hjt14)
      (case ait14 => (simp only [List.getElem?_toArray, List.getElem?_cons_zero]; rfl))
      (case ajt14 => (simp only [List.getElem?_toArray, List.getElem?_cons_zero, List.getElem?_cons_succ]; rfl))
      (case cit14 => kernel_rfl)
      (case cjt14 => kernel_rfl)
      case hit14 =>
        have hc := HV.out.cell
        go_simp
        refine hK0 _ _ hS4 (fun hS0 => ?_)
        clear hc hK0 K0
        refine held_one (i := 5) (oi := ?ot8) (by kernel_rfl) ?at8 ?ct8 (fun K5 hK5 => ?_)
        (case at8 => (simp only [List.getElem?_toArray, List.getElem?_cons_zero, List.getElem?_cons_succ]; rfl))
        (case ct8 => kernel_rfl)
        refine ow_build1 _ rfl (R c d) rfl ?_
        refine hK5 _ _ (hS0.alloc _) (fun hS5 => ?_)
        clear hK5 K5
        have HV4 := HV
        have HV := Lib.hid (HV4.out.alloc (.cells (vec 32 (bys (R c d))) 30))
        refine held_one (i := 6) (oi := ?ot9) (by kernel_rfl) ?at9 ?ct9 (fun K6 hK6 => ?_)
        (case at9 => (simp only [List.getElem?_toArray, List.getElem?_cons_zero, List.getElem?_cons_succ]; rfl))
        (case ct9 => kernel_rfl)
        obtain ⟨v6, y6, hr6, hown6, hg6⟩ := app_own (HR4.out.alloc (.cells (vec 32 (bys (R c d))) 30)) (Arr.new y4 30 32 (bys (R c d))) (by omega) (by have := HI.out.2; have := HD4.out.size; simp; omega) 31
        have hap := Boxed.appended HV4.out hne HR4.out (Nat.le_trans HI.out.2 HD4.out.size) (show w.heap.size ≤ w.heap.size + 1 + 1 by omega) hown6 hg6
        have hdk : Boxed y6 w.heap.size 79 (.func (.func df) #[] cap) := hS5.kept hg6 (hS5.not_row hnf (HR4.out.alloc (.cells (vec 32 (bys (R c d))) 30)))
        refine Lib.wp_append_run _ _ _ _ _ rfl _ _ rfl rfl _ _ hr6 ?_
        refine hK6 _ _ hdk (fun hS6 => ?_)
        have HAP := Lib.hid hap
        clear hK6 K6 hr6 hdk hap hg6
        refine held_one (i := 7) (oi := ?ot10) (by kernel_rfl) ?at10 ?ct10 (fun K7 hK7 => ?_)
        (case at10 => (simp only [List.getElem?_toArray, List.getElem?_cons_zero, List.getElem?_cons_succ]; rfl))
        (case ct10 => kernel_rfl)
        obtain ⟨g7, c7, rfl⟩ := ownsRow_succ hown6
        have hc := HAP.out.1.cell
        have hf := HAP.out.1.frozen
        have hSb := hS6
        go_simp
        refine hK7 _ _ (hSb.other (show w.heap.size ≠ w.heap.size + 1 + 1 by omega) _) (fun hS7 => ?_)
        clear hK7 K7 hc hf
        refine wpAnyH_done (by kernel_rfl) ?_ _
        refine ⟨((keepsOthers_below HD4.out).trans HAP.out.2.2.2.1).from _, KB.of_below ((HD4.out.mono HI.out.2).trans HAP.out.2.2.2.2) hBm, ⟨_, HAP.out.2.1, ?_, trivial⟩, hS7, HI.out.1.trans ((HD4.out.mono HI.out.2).trans HAP.out.2.2.2.2)⟩
        rw [madeOf_snoc, cellsN_snoc, List.length_append]
        exact HAP.out.2.2.1
      case hjt14 =>
        refine ow_build1 _ rfl (R c d) rfl ?_
        refine hK5 _ _ (hS4.alloc _) (fun hS5 => ?_)
        clear hK5 K5
        have HV4 := HV
        have HV := Lib.hid (HV4.out.alloc (.cells (vec 32 (bys (R c d))) 30))
        refine held_one (i := 0) (oi := ?ot11) (by kernel_rfl) ?at11 ?ct11 (fun K0 hK0 => ?_)
        (case at11 => (simp only [List.getElem?_toArray, List.getElem?_cons_zero]; rfl))
        (case ct11 => kernel_rfl)
        have hc := HV.out.cell
        go_simp
        refine hK0 _ _ hS5 (fun hS0 => ?_)
        clear hc hK0 K0
        refine held_one (i := 6) (oi := ?ot12) (by kernel_rfl) ?at12 ?ct12 (fun K6 hK6 => ?_)
        (case at12 => (simp only [List.getElem?_toArray, List.getElem?_cons_zero, List.getElem?_cons_succ]; rfl))
        (case ct12 => kernel_rfl)
        obtain ⟨v6, y6, hr6, hown6, hg6⟩ := app_own (HR4.out.alloc (.cells (vec 32 (bys (R c d))) 30)) (Arr.new y4 30 32 (bys (R c d))) (by omega) (by have := HI.out.2; have := HD4.out.size; simp; omega) 31
        have hap := Boxed.appended HV4.out hne HR4.out (Nat.le_trans HI.out.2 HD4.out.size) (show w.heap.size ≤ w.heap.size + 1 + 1 by omega) hown6 hg6
        have hdk : Boxed y6 w.heap.size 79 (.func (.func df) #[] cap) := hS0.kept hg6 (hS0.not_row hnf (HR4.out.alloc (.cells (vec 32 (bys (R c d))) 30)))
        refine Lib.wp_append_run _ _ _ _ _ rfl _ _ rfl rfl _ _ hr6 ?_
        refine hK6 _ _ hdk (fun hS6 => ?_)
        have HAP := Lib.hid hap
        clear hK6 K6 hr6 hdk hap hg6
        refine held_one (i := 7) (oi := ?ot13) (by kernel_rfl) ?at13 ?ct13 (fun K7 hK7 => ?_)
        (case at13 => (simp only [List.getElem?_toArray, List.getElem?_cons_zero, List.getElem?_cons_succ]; rfl))
        (case ct13 => kernel_rfl)
        obtain ⟨g7, c7, rfl⟩ := ownsRow_succ hown6
        have hc := HAP.out.1.cell
        have hf := HAP.out.1.frozen
        have hSb := hS6
        go_simp
        refine hK7 _ _ (hSb.other (show w.heap.size ≠ w.heap.size + 1 + 1 by omega) _) (fun hS7 => ?_)
        clear hK7 K7 hc hf
        refine wpAnyH_done (by kernel_rfl) ?_ _
        refine ⟨((keepsOthers_below HD4.out).trans HAP.out.2.2.2.1).from _, KB.of_below ((HD4.out.mono HI.out.2).trans HAP.out.2.2.2.2) hBm, ⟨_, HAP.out.2.1, ?_, trivial⟩, hS7, HI.out.1.trans ((HD4.out.mono HI.out.2).trans HAP.out.2.2.2.2)⟩
        rw [madeOf_snoc, cellsN_snoc, List.length_append]
        exact HAP.out.2.2.1
  case done =>
    rintro D ys W hD rfl ⟨⟨v, hv, hrow, _⟩, hdo, hbl⟩ hK
    have hc := hv.cell
    have HZ := Lib.hid (And.intro hrow hbl)
    clear hv hrow hdo hbl
    gi_wp2
    refine ⟨by simp, .inl ⟨_, _, rfl, run_takeDeferred hK, ?_⟩⟩
    refine ⟨_, results_tmp rfl _ _ _, v, rfl, ?_, HZ.out.2.trans (belowK_b (w := w) (Nat.le_refl _) W D _ _ (by omega) hK rfl rfl)⟩
    have h2 := ownsRow_putObj HZ.out.1 (.deferred none) hK rfl
    unfold OwnN
    rw [show (madeOf R ys).length = ys.length by simp [madeOf]]
    exact h2
  case stop =>
    rintro D c pre W _ _ h _
    exact h.elim
end Go.Proofs.YtfeiplaiekbdkaaGreatDoor
/- wots.grow with its closure, Key, Sign. -/
namespace Go.Proofs.YtfeiplaiekbdkaaGreatDoor
open Go.RowKit
attribute [local go_sem ↓ high] zeroV26

theorem SeqStopsK.later {α : Type} {F : Fence} {n : Nat} {P : Program} {g : Nat} {lb : Array Value} {encs : α → Array Value} {Kp : World → World → Prop} {S Sp : List α → Prop} {N : Nat} {w V : World}
    (h : SeqStopsK F n P g lb encs Kp S Sp N w) (hb : Below w.heap.size w V) : SeqStopsK F n P g lb encs Kp S Sp N V := fun l J Jx W hW hJ hx hY h0 => h l J Jx W (hb.trans (hW.mono hb.size)) hJ hx hY h0
theorem secret_nat (secret : Nat → UInt8) (idx : Nat) (hidx : idx < 4294967296) (n : Nat) (hn : n ≤ 66) (w : World) (hT : Tabs w) :
    Calls Tryz.prog 78 #[.agg (vec 32 (bys secret)), .int .u32 (idx : Int), .int .i64 (n : Int)] w fun e w' => e = .returned (.agg (vec 32 (bys (prfF secret 0 0 0 idx n 0 0)))) ∧ Below w.heap.size w w' := by
  have h := secret_any secret idx hidx (n : Int) w hT
  rw [secretF_nat secret idx n hn] at h
  exact h
theorem chainN_any (x : Nat → UInt8) (i k : Nat) (seed : Nat → UInt8) (idx : Nat) (hidx : idx < 4294967296) (n : Nat) (hn : n ≤ 66) (hik : i + k ≤ 15) (w : World) (hT : Tabs w) :
    Calls Tryz.prog 46 #[.agg (vec 32 (bys x)), .int .i64 (i : Int), .int .i64 (k : Int), .agg (vec 32 (bys seed)), .int .u32 (idx : Int), .int .i64 (n : Int)] w fun e w' => e = .returned (.agg (vec 32 (bys (chF seed idx n x i k)))) ∧ Below w.heap.size w w' := by
  have h := chain_any x (i : Int) (k : Int) seed idx hidx (n : Int) (by omega) (by omega) w hT
  rw [chainF_nat x i k seed idx n hn hik] at h
  exact h
/-- What grow makes of a chain and its digit. -/
def growR (secret seed : Nat → UInt8) (idx : Nat) : Nat → Nat → Nd := fun c d => chF seed idx c (prfF secret 0 0 0 idx c 0 0) 0 d
theorem made_grow (secret seed : Nat → UInt8) (idx : Nat) (d : Nat → Nat) (h : ∀ i, d i ≤ 15) : madeOf (growR secret seed idx) (cds d h 67) = endsF secret seed idx d := by
  unfold madeOf cds endsF
  rw [List.map_map]
  refine List.map_congr_left fun i hi => ?_
  simp only [Function.comp]
  rw [cdOf_val (List.mem_range.1 hi)]
  rfl
def ptr (g : Nat) : Value := .pointer (some ⟨g, 0, none⟩)

set_option maxHeartbeats 1000000 in
set_option maxRecDepth 100000 in
theorem grow1_any (c d : Nat) (hc : c < 67) (hd15 : d ≤ 15) (secret seed : Nat → UInt8) (idx : Nat) (hidx : idx < 4294967296) (gs gi gd : Nat) (w : World) (h1 : Arr w gs 30 32 (bys secret)) (h2 : Blk w gi 28 #[.int .u32 (idx : Int)]) (h3 : Arr w gd 30 32 (bys seed)) (hT : Tabs w) :
    Calls Tryz.prog 77 #[.int .i64 (c : Int), .int .i64 (d : Int), .pointer (some ⟨gs, 0, none⟩), .pointer (some ⟨gi, 0, none⟩), .pointer (some ⟨gd, 0, none⟩)] w fun e w' => e = .returned (.agg (vec 32 (bys (growR secret seed idx c d)))) ∧ Below w.heap.size w w' := by
  obtain ⟨V, hV⟩ : ∃ V, V = w.alloc (.cells (vec 32 (bys zb)) 30) := ⟨_, rfl⟩
  have hR : Arr V w.heap.size 30 32 (bys zb) := by rw [hV]; exact Arr.new w _ _ _
  have hB : Below w.heap.size w V := by rw [hV]; exact (Below.refl _ _).alloc (Nat.le_refl _) _
  have hg1 := h1.lt
  have hg2 := h2.lt
  have hg3 := h3.lt
  have hn : c ≤ 66 := by omega
  have h15 : 0 + d ≤ 15 := by omega
  have HA := Lib.hid (Ahead.mk (r := w.heap.size) hB (tabs_below hT hB) (tabs_far hT (Nat.le_refl _)))
  have H1 := Lib.hid (h1.under hB)
  have H2 := Lib.hid (h2.under hB)
  have H3 := Lib.hid (h3.under hB)
  have HR := Lib.hid hR
  have HW := Lib.hid hV
  clear hV hR hB h1 h2 h3 hT
  go_enter Tryz.func77, Tryz.ntmps77
  go_upto_region 1 with fail
  rw [← HW.out]
  clear HW
  refine wp_region_held_drew (S := fun Y => SR V w.heap.size Y) (by kernel_rfl) (SR.begin HR.out) (fun hS => ?_)
  (refine held_take (i := 0) (oi := ?ot1) (v := .agg (vec 32 (bys secret))) ?at1 (by kernel_rfl) (by kernel_rfl) (by kernel_rfl) ?bt1 ?ct1 ?dt1 (by assumption) ?rt1; (case at1 => (simp only [List.getElem?_toArray, List.getElem?_cons_zero]; rfl)); (case bt1 => exact fun _ _ _ h => h); (case ct1 => kernel_rfl); (case dt1 => (intro W hW; exact exec_load 30 _ rfl _ rfl _ (run_load_arr (hW.arr H1.out (by omega)) Tryz.underlying30 rfl info26))); (case' rt1 => simp only [Act.put, List.setIfInBounds_toArray, List.set_cons_zero, List.set_cons_succ]))
  (refine held_take (i := 1) (oi := ?ot2) (v := .int .u32 (idx : Int)) ?at2 (by kernel_rfl) (by kernel_rfl) (by kernel_rfl) ?bt2 ?ct2 ?dt2 (by assumption) ?rt2; (case at2 => (simp only [List.getElem?_toArray, List.getElem?_cons_zero, List.getElem?_cons_succ]; rfl)); (case bt2 => exact fun _ _ _ h => h); (case ct2 => kernel_rfl); (case dt2 => (intro W hW; have hc := (hW.blk H2.out (by omega)).cellAt 0 rfl; clear hW; go_simp; (try with_reducible rfl))); (case' rt2 => simp only [Act.put, List.setIfInBounds_toArray, List.set_cons_zero, List.set_cons_succ]))
  (refine held_take (i := 2) (oi := ?ot3) (v := ?vt3) ?at3 (by kernel_rfl) (by kernel_rfl) (by kernel_rfl) ?bt3 ?ct3 ?dt3 (by assumption) ?rt3; (case at3 => (simp only [List.getElem?_toArray, List.getElem?_cons_zero, List.getElem?_cons_succ]; rfl)); (case bt3 => exact fun _ _ _ h => h); (case ct3 => kernel_rfl); (case dt3 => (intro W hW; (try dsimp only at hW); go_split_ands; go_simp; (try with_reducible rfl))); (case' rt3 => simp only [Act.put, List.setIfInBounds_toArray, List.set_cons_zero, List.set_cons_succ]))
  (refine held_take (i := 4) (oi := ?ot4) (v := ?vt4) ?at4 (by kernel_rfl) (by kernel_rfl) (by kernel_rfl) ?bt4 ?ct4 ?dt4 (by assumption) ?rt4; (case at4 => (simp only [List.getElem?_toArray, List.getElem?_cons_zero, List.getElem?_cons_succ]; rfl)); (case bt4 => exact fun _ _ _ h => h); (case ct4 => kernel_rfl); (case dt4 => (intro W hW; (try dsimp only at hW); go_split_ands; go_simp; (try with_reducible rfl))); (case' rt4 => simp only [Act.put, List.setIfInBounds_toArray, List.set_cons_zero, List.set_cons_succ]))
  (refine held_take (i := 5) (oi := ?ot5) (v := .agg (vec 32 (bys seed))) ?at5 (by kernel_rfl) (by kernel_rfl) (by kernel_rfl) ?bt5 ?ct5 ?dt5 (by assumption) ?rt5; (case at5 => (simp only [List.getElem?_toArray, List.getElem?_cons_zero, List.getElem?_cons_succ]; rfl)); (case bt5 => exact fun _ _ _ h => h); (case ct5 => kernel_rfl); (case dt5 => (intro W hW; exact exec_load 30 _ rfl _ rfl _ (run_load_arr (hW.arr H3.out (by omega)) Tryz.underlying30 rfl info26))); (case' rt5 => simp only [Act.put, List.setIfInBounds_toArray, List.set_cons_zero, List.set_cons_succ]))
  (refine held_take (i := 6) (oi := ?ot6) (v := .int .u32 (idx : Int)) ?at6 (by kernel_rfl) (by kernel_rfl) (by kernel_rfl) ?bt6 ?ct6 ?dt6 (by assumption) ?rt6; (case at6 => (simp only [List.getElem?_toArray, List.getElem?_cons_zero, List.getElem?_cons_succ]; rfl)); (case bt6 => exact fun _ _ _ h => h); (case ct6 => kernel_rfl); (case dt6 => (intro W hW; have hc := (hW.blk H2.out (by omega)).cellAt 0 rfl; clear hW; go_simp; (try with_reducible rfl))); (case' rt6 => simp only [Act.put, List.setIfInBounds_toArray, List.set_cons_zero, List.set_cons_succ]))
  (refine held_take (i := 7) (oi := ?ot7) (v := ?vt7) ?at7 (by kernel_rfl) (by kernel_rfl) (by kernel_rfl) ?bt7 ?ct7 ?dt7 (by assumption) ?rt7; (case at7 => (simp only [List.getElem?_toArray, List.getElem?_cons_zero, List.getElem?_cons_succ]; rfl)); (case bt7 => exact fun _ _ _ h => h); (case ct7 => kernel_rfl); (case dt7 => (intro W hW; (try dsimp only at hW); go_split_ands; go_simp; (try with_reducible rfl))); (case' rt7 => simp only [Act.put, List.setIfInBounds_toArray, List.set_cons_zero, List.set_cons_succ]))
  refine held_one (i := 3) (oi := ?ot8) (by kernel_rfl) ?at8 ?ct8 (fun K3 hK3 => ?_)
  (case at8 => (simp only [List.getElem?_toArray, List.getElem?_cons_zero, List.getElem?_cons_succ]; rfl))
  (case ct8 => kernel_rfl)
  go_simp
  refine (secret_nat secret idx hidx c hn _ (hS.tabs HA.out.tabs HA.out.far.1 HA.out.far.2)).mono ?_
  rintro e y3 ⟨rfl, hd⟩
  refine hK3 _ _ (hS.keep hd) (fun hS3 => ?_)
  clear hS hd hK3 K3
  refine held_one (i := 8) (oi := ?ot9) (by kernel_rfl) ?at9 ?ct9 (fun K8 hK8 => ?_)
  (case at9 => (simp only [List.getElem?_toArray, List.getElem?_cons_zero, List.getElem?_cons_succ]; rfl))
  (case ct9 => kernel_rfl)
  go_simp
  refine (chainN_any (prfF secret 0 0 0 idx c 0 0) 0 d seed idx hidx c hn h15 _ (hS3.tabs HA.out.tabs HA.out.far.1 HA.out.far.2)).mono ?_
  rintro e y8 ⟨rfl, hd⟩
  refine hK8 _ _ (hS3.keep hd) (fun hS8 => ?_)
  clear hS3 hd hK8 K8
  refine held_one (i := 9) (oi := ?ot10) (by kernel_rfl) ?at10 ?ct10 (fun K9 hK9 => ?_)
  (case at10 => (simp only [List.getElem?_toArray, List.getElem?_cons_zero, List.getElem?_cons_succ]; rfl))
  (case ct10 => kernel_rfl)
  obtain ⟨f0, hf0⟩ := hS8.res
  refine ow_store 30 _ _ rfl _ rfl _ rfl (run_store_arr hf0 (bys (growR secret seed idx c d)) info26 (bys_one _ _)) ?_
  refine hK9 _ _ (hS8.put _) (fun hS9 => ?_)
  clear hK9 K9
  refine wpAnyH_done (by kernel_rfl) ?_ _
  go_wp2
  refine bodyPost_ret (results_cell1 rfl _ _ _ rfl (run_load_arr (hf0.row _) Tryz.underlying30 rfl info26)) rfl ⟨rfl, hS9.below HA.out.below (Nat.le_refl _)⟩

set_option maxHeartbeats 1000000 in
set_option maxRecDepth 100000 in
theorem grow_any (secret seed : Nat → UInt8) (idx : Nat) (hidx : idx < 4294967296) (gf : Nat) (lb : Array Value) (eg : ∀ args W, (callFunc gf args).run Tryz.prog W = .ok (.enter gf args) W) (ds : List CD) (Bm : Nat) (w : World) (hBm : Bm < w.heap.size) (Spp : List CD → Prop)
    (hseq : SeqStopsK Fence.wide 9 Tryz.prog gf lb encCD (KB Bm) (fun ys => ys = ds) Spp 67 w) (hT : Tabs w) :
    Calls Tryz.prog 53 #[.agg (vec 32 (bys secret)), .agg (vec 32 (bys seed)), .int .u32 (idx : Int), .func (.func gf) #[] lb] w fun e W' => ∃ v, e = .returned v ∧ OwnN W' w.heap.size v (madeOf (growR secret seed idx) ds) ∧ Below w.heap.size w W' := by
  obtain ⟨V, hV⟩ : ∃ V, V = ((w.alloc (.cells (vec 32 (bys secret)) 30)).alloc (.cells (vec 32 (bys seed)) 30)).alloc (.cells #[.int .u32 (idx : Int)] 28) := ⟨_, rfl⟩
  have h1 : Arr V w.heap.size 30 32 (bys secret) := by rw [hV]; exact ((Arr.newAt _ _ _ _ (by simp)).alloc _).alloc _
  have h2 : Arr V (w.heap.size + 1) 30 32 (bys seed) := by rw [hV]; exact (Arr.newAt _ _ _ _ (by simp)).alloc _
  have h3 : Blk V (w.heap.size + 2) 28 #[.int .u32 (idx : Int)] := by rw [hV]; exact Blk.new _ _ _ (by simp)
  have hB : Below w.heap.size w V := by rw [hV]; exact ((((Below.refl _ _).alloc (by simp <;> omega) _).alloc (by simp <;> omega) _).alloc (by simp <;> omega) _)
  have hdo : DoOk 77 #[.pointer (some ⟨w.heap.size, 0, none⟩), .pointer (some ⟨w.heap.size + 2, 0, none⟩), .pointer (some ⟨w.heap.size + 1, 0, none⟩)] V (growR secret seed idx) := fun x W hW =>
    grow1_any x.1.1 x.1.2 x.2.1 x.2.2 secret seed idx hidx w.heap.size (w.heap.size + 2) (w.heap.size + 1) W (h1.under hW) (h3.under hW) (h2.under hW) (tabs_below hT (hB.trans (hW.mono hB.size)))
  have hea := each_any gf lb eg 77 #[.pointer (some ⟨w.heap.size, 0, none⟩), .pointer (some ⟨w.heap.size + 2, 0, none⟩), .pointer (some ⟨w.heap.size + 1, 0, none⟩)] (fun _ _ => rfl) ds Bm V (Nat.lt_of_lt_of_le hBm hB.size) Spp (growR secret seed idx) (SeqStopsK.later hseq hB) hdo
  have HE := Lib.hid (And.intro hea hB)
  have hmf := make_func
  have HW := Lib.hid hV
  clear hV h1 h2 h3 hB hdo hea hseq hT
  go_enter Tryz.func53, Tryz.ntmps53
  go_upto_region 1 with fail
  rw [← HW.out]
  clear HW
  go_wp2_with (go_at_call 43; refine HE.out.1.mono ?_; rintro e w1 ⟨v, rfl, ho, hd⟩; have HO := Lib.hid (And.intro ho hd); clear ho hd)
  go_ret
  exact ⟨v, rfl, HO.out.1.low HE.out.2.size, HE.out.2.trans (HO.out.2.mono HE.out.2.size)⟩

set_option maxHeartbeats 1000000 in
set_option maxRecDepth 100000 in
theorem sign_any (secret m seed : Nat → UInt8) (idx : Nat) (hidx : idx < 4294967296) (w : World) (hT : Tabs w) :
    Calls Tryz.prog 29 #[.agg (vec 32 (bys secret)), .agg (vec 32 (bys m)), .agg (vec 32 (bys seed)), .int .u32 (idx : Int)] w fun e W' => ∃ v, e = .returned v ∧ OwnN W' w.heap.size v (endsF secret seed idx (digN m)) ∧ Below w.heap.size w W' := by
  obtain ⟨V, hV⟩ : ∃ V, V = ((w.alloc (.cells (vec 32 (bys secret)) 30)).alloc (.cells (vec 32 (bys m)) 30)).alloc (.cells (vec 32 (bys seed)) 30) := ⟨_, rfl⟩
  have hA0 : Arr V w.heap.size 30 32 (bys secret) := by rw [hV]; exact (((Arr.newAt _ _ _ _ (by simp)).alloc _).alloc _)
  have hA1 : Arr V (w.heap.size + 1) 30 32 (bys m) := by rw [hV]; exact ((Arr.newAt _ _ _ _ (by simp)).alloc _)
  have hA2 : Arr V (w.heap.size + 2) 30 32 (bys seed) := by rw [hV]; exact (Arr.newAt _ _ _ _ (by simp))
  have hB : Below w.heap.size w V := by rw [hV]; exact ((((Below.refl _ _).alloc (by simp <;> omega) _).alloc (by simp <;> omega) _).alloc (by simp <;> omega) _)
  have hsz : w.heap.size < V.heap.size := by rw [hV]; simp <;> omega
  have HQ0 := Lib.hid hA0
  have HQ1 := Lib.hid hA1
  have HQ2 := Lib.hid hA2
  have HB := Lib.hid (And.intro hB (And.intro hT hsz))
  rw [← made_grow secret seed idx (digN m) (digN_le m)]
  have HW := Lib.hid hV
  clear hV hB hT hsz hA0 hA1 hA2
  go_enter Tryz.func29, Tryz.ntmps29
  go_upto_region 1 with fail
  rw [← HW.out]
  clear HW
  refine wp_region_held_drew (S := fun Y => VS V Y) (by kernel_rfl) (VS.begin V) (fun hS => ?_)
  (refine held_take (i := 0) (oi := ?ot17) (v := .agg (vec 32 (bys secret))) ?at17 (by kernel_rfl) (by kernel_rfl) (by kernel_rfl) ?bt17 ?ct17 ?dt17 (by assumption) ?rt17; (case at17 => (simp only [List.getElem?_toArray, List.getElem?_cons_zero]; rfl)); (case bt17 => exact fun _ _ _ h => h); (case ct17 => kernel_rfl); (case dt17 => (intro W hW; exact exec_load 30 _ rfl _ rfl _ (run_load_arr (HQ0.out.under hW) Tryz.underlying30 rfl info26))); (case' rt17 => simp only [Act.put, List.setIfInBounds_toArray, List.set_cons_zero, List.set_cons_succ]))
  (refine held_take (i := 1) (oi := ?ot18) (v := .agg (vec 32 (bys seed))) ?at18 (by kernel_rfl) (by kernel_rfl) (by kernel_rfl) ?bt18 ?ct18 ?dt18 (by assumption) ?rt18; (case at18 => (simp only [List.getElem?_toArray, List.getElem?_cons_zero, List.getElem?_cons_succ]; rfl)); (case bt18 => exact fun _ _ _ h => h); (case ct18 => kernel_rfl); (case dt18 => (intro W hW; exact exec_load 30 _ rfl _ rfl _ (run_load_arr (HQ2.out.under hW) Tryz.underlying30 rfl info26))); (case' rt18 => simp only [Act.put, List.setIfInBounds_toArray, List.set_cons_zero, List.set_cons_succ]))
  (refine held_take (i := 2) (oi := ?ot19) (v := ?vt19) ?at19 (by kernel_rfl) (by kernel_rfl) (by kernel_rfl) ?bt19 ?ct19 ?dt19 (by assumption) ?rt19; (case at19 => (simp only [List.getElem?_toArray, List.getElem?_cons_zero, List.getElem?_cons_succ]; rfl)); (case bt19 => exact fun _ _ _ h => h); (case ct19 => kernel_rfl); (case dt19 => (intro W hW; (try dsimp only at hW); go_split_ands; go_simp; (try with_reducible rfl))); (case' rt19 => simp only [Act.put, List.setIfInBounds_toArray, List.set_cons_zero, List.set_cons_succ]))
  (refine held_take (i := 3) (oi := ?ot20) (v := .agg (vec 32 (bys m))) ?at20 (by kernel_rfl) (by kernel_rfl) (by kernel_rfl) ?bt20 ?ct20 ?dt20 (by assumption) ?rt20; (case at20 => (simp only [List.getElem?_toArray, List.getElem?_cons_zero, List.getElem?_cons_succ]; rfl)); (case bt20 => exact fun _ _ _ h => h); (case ct20 => kernel_rfl); (case dt20 => (intro W hW; exact exec_load 30 _ rfl _ rfl _ (run_load_arr (HQ1.out.under hW) Tryz.underlying30 rfl info26))); (case' rt20 => simp only [Act.put, List.setIfInBounds_toArray, List.set_cons_zero, List.set_cons_succ]))
  refine held_one (i := 4) (oi := ?ot21) (by kernel_rfl) ?at21 ?ct21 (fun K4 hK4 => ?_)
  (case at21 => (simp only [List.getElem?_toArray, List.getElem?_cons_zero, List.getElem?_cons_succ]; rfl))
  (case ct21 => kernel_rfl)
  have hSb := hS
  go_simp
  refine (digits_any m _).mono ?_
  rintro e y4 ⟨rfl, rfl⟩
  have HM := Lib.hid (Arr.new V.drew 30 32 (bys m))
  refine hK4 _ _ (hSb.keep ((Below.refl _ _).alloc (Nat.le_refl _) _)) (fun hS4 => ?_)
  clear hK4 K4
  refine held_one (i := 5) (oi := ?ot22) (by kernel_rfl) ?at22 ?ct22 (fun K5 hK5 => ?_)
  (case at22 => (simp only [List.getElem?_toArray, List.getElem?_cons_zero, List.getElem?_cons_succ]; rfl))
  (case ct22 => kernel_rfl)
  go_simp
  refine (grow_any secret seed idx hidx 67 _ (fun _ _ => rfl) (cds (digN m) (digN_le m) 67) _ _ HM.out.lt (fun _ => True) (digits_stops 9 (by decide) _ m _ HM.out) (tabs_below HB.out.2.1 (hS4.below0 HB.out.1))).mono ?_
  rintro e y5 ⟨v, rfl, ho, hd⟩
  have HO := Lib.hid (And.intro (ho.low (Nat.le_trans HB.out.1.size (show Below _ _ _ from hS4).size)) hd)
  clear ho
  refine hK5 _ _ (hS4.keep hd) (fun hS5 => ?_)
  clear hS4 hd hK5 K5
  (refine held_take (i := 6) (oi := ?ot23) (v := ?vt23) ?at23 (by kernel_rfl) (by kernel_rfl) (by kernel_rfl) ?bt23 ?ct23 ?dt23 (by assumption) ?rt23; (case at23 => (simp only [List.getElem?_toArray, List.getElem?_cons_zero, List.getElem?_cons_succ]; rfl)); (case bt23 => exact fun _ _ _ h => h); (case ct23 => kernel_rfl); (case dt23 => (intro W hW; (try dsimp only at hW); go_split_ands; go_simp; (try with_reducible rfl))); (case' rt23 => simp only [Act.put, List.setIfInBounds_toArray, List.set_cons_zero, List.set_cons_succ]))
  refine wpAnyH_done (by kernel_rfl) ?_ _
  go_wp2
  go_ret
  exact ⟨v, rfl, HO.out.1, hS5.below0 HB.out.1⟩

end Go.Proofs.YtfeiplaiekbdkaaGreatDoor
/- wots.Public with its closure. -/
namespace Go.Proofs.YtfeiplaiekbdkaaGreatDoor
open Go.RowKit
attribute [local go_sem ↓ high] zeroV26

/-- What Public makes of a chain and its digit. -/
def pubR (sig : List Nd) (seed : Nat → UInt8) (idx : Nat) : Nat → Nat → Nd := fun c d => chF seed idx c (sig.getD c zb) d (15 - d)
theorem made_pub (sig : List Nd) (m seed : Nat → UInt8) (idx : Nat) : madeOf (pubR sig seed idx) (cds (digN m) (digN_le m) 67) = publicF sig m seed idx := by
  unfold madeOf cds publicF
  rw [List.map_map]
  refine List.map_congr_left fun i hi => ?_
  simp only [Function.comp]
  rw [cdOf_val (List.mem_range.1 hi)]
  rfl
set_option maxHeartbeats 1000000 in
set_option maxRecDepth 100000 in
theorem pub1_any (c d : Nat) (hc : c < 67) (hd15 : d ≤ 15) (A : Option Addr) (cap : Nat) (sig : List Nd) (hl : sig.length = 67) (seed : Nat → UInt8) (idx : Nat) (hidx : idx < 4294967296) (gs gi gd : Nat) (w : World) (h1 : Blk w gs 31 #[.slice A 67 cap]) (h2 : Blk w gi 28 #[.int .u32 (idx : Int)]) (h3 : Arr w gd 30 32 (bys seed)) (hr : NRow w w.heap.size A sig) (hT : Tabs w) :
    Calls Tryz.prog 45 #[.int .i64 (c : Int), .int .i64 (d : Int), .pointer (some ⟨gs, 0, none⟩), .pointer (some ⟨gd, 0, none⟩), .pointer (some ⟨gi, 0, none⟩)] w fun e w' => e = .returned (.agg (vec 32 (bys (pubR sig seed idx c d)))) ∧ Below w.heap.size w w' := by
  obtain ⟨V, hV⟩ : ∃ V, V = w.alloc (.cells (vec 32 (bys zb)) 30) := ⟨_, rfl⟩
  have hR : Arr V w.heap.size 30 32 (bys zb) := by rw [hV]; exact Arr.new w _ _ _
  have hB : Below w.heap.size w V := by rw [hV]; exact (Below.refl _ _).alloc (Nat.le_refl _) _
  have hg1 := h1.lt
  have hg2 := h2.lt
  have hg3 := h3.lt
  have hn : c ≤ 66 := by omega
  have hcl : c < sig.length := by omega
  have h15 : d + (15 - d) ≤ 15 := by omega
  have hwn : IntKind.i64.wrap (15 - (d : Int)) = ((15 - d : Nat) : Int) := by rw [IntKind.wrap_i64]; omega
  obtain ⟨a, p, rfl, hp, hpb, hcells⟩ := (hr.below hB).at hcl
  obtain ⟨x, hx⟩ : ∃ x, x = sig[c] := ⟨_, rfl⟩
  rw [← hx] at hcells
  have hres : pubR sig seed idx c d = chF seed idx c x d (15 - d) := by
    unfold pubR
    rw [List.getD_eq_getElem?_getD, List.getElem?_eq_getElem hcl, hx]; rfl
  have HRES := Lib.hid hres
  have HC := Lib.hid hcells
  have HA := Lib.hid (Ahead.mk (r := w.heap.size) hB (tabs_below hT hB) (tabs_far hT (Nat.le_refl _)))
  have HZ : Hid (w.heap.size < V.heap.size) := Lib.hid hR.lt
  have H1 := Lib.hid (h1.under hB)
  have H2 := Lib.hid (h2.under hB)
  have H3 := Lib.hid (h3.under hB)
  have HR := Lib.hid hR
  have HW := Lib.hid hV
  clear hV hR hB h1 h2 h3 hT hr hcells hx hres hcl hl
  go_enter Tryz.func45, Tryz.ntmps45
  go_upto_region 1 with fail
  rw [← HW.out]
  clear HW
  refine wp_region_held_drew (S := fun Y => SR V w.heap.size Y) (by kernel_rfl) (SR.begin HR.out) (fun hS => ?_)
  (refine held_take (i := 0) (oi := ?ot1) (v := .slice (some a) 67 cap) ?at1 (by kernel_rfl) (by kernel_rfl) (by kernel_rfl) ?bt1 ?ct1 ?dt1 (by assumption) ?rt1; (case at1 => (simp only [List.getElem?_toArray, List.getElem?_cons_zero]; rfl)); (case bt1 => exact fun _ _ _ h => h); (case ct1 => kernel_rfl); (case dt1 => (intro W hW; have hc := (hW.blk H1.out (by omega)).cellAt 0 rfl; clear hW; go_simp; (try with_reducible rfl))); (case' rt1 => simp only [Act.put, List.setIfInBounds_toArray, List.set_cons_zero, List.set_cons_succ]))
  (refine held_take (i := 1) (oi := ?ot2) (v := ?vt2) ?at2 (by kernel_rfl) (by kernel_rfl) (by kernel_rfl) ?bt2 ?ct2 ?dt2 (by assumption) ?rt2; (case at2 => (simp only [List.getElem?_toArray, List.getElem?_cons_zero, List.getElem?_cons_succ]; rfl)); (case bt2 => exact fun _ _ _ h => h); (case ct2 => kernel_rfl); (case dt2 => (intro W hW; (try dsimp only at hW); go_split_ands; go_simp; (try with_reducible rfl))); (case' rt2 => simp only [Act.put, List.setIfInBounds_toArray, List.set_cons_zero, List.set_cons_succ]))
  (refine held_take (i := 2) (oi := ?ot3) (v := .pointer (some p)) ?at3 (by kernel_rfl) (by kernel_rfl) (by kernel_rfl) ?bt3 ?ct3 ?dt3 (by assumption) ?rt3; (case at3 => (simp only [List.getElem?_toArray, List.getElem?_cons_zero, List.getElem?_cons_succ]; rfl)); (case bt3 => exact fun _ _ _ h => h); (case ct3 => kernel_rfl); (case dt3 => (intro W hW; clear hW; go_simp; (try with_reducible rfl); (try (intro h; omega)))); (case' rt3 => simp only [Act.put, List.setIfInBounds_toArray, List.set_cons_zero, List.set_cons_succ]))
  (refine held_take (i := 3) (oi := ?ot4) (v := .agg (vec 32 (bys x))) ?at4 (by kernel_rfl) (by kernel_rfl) (by kernel_rfl) ?bt4 ?ct4 ?dt4 (by assumption) ?rt4; (case at4 => (simp only [List.getElem?_toArray, List.getElem?_cons_zero, List.getElem?_cons_succ]; rfl)); (case bt4 => exact fun _ _ _ h => h); (case ct4 => kernel_rfl); (case dt4 => (intro W hW; exact exec_load_p 30 _ rfl p rfl _ (load_p fun i hi => (hW.save.cell (p := p.add i) (by rw [addr_add_block]; have := HZ.out; omega) (by rw [addr_add_block]; omega)).trans (HC.out i hi)))); (case' rt4 => simp only [Act.put, List.setIfInBounds_toArray, List.set_cons_zero, List.set_cons_succ]))
  (refine held_take (i := 4) (oi := ?ot5) (v := ?vt5) ?at5 (by kernel_rfl) (by kernel_rfl) (by kernel_rfl) ?bt5 ?ct5 ?dt5 (by assumption) ?rt5; (case at5 => (simp only [List.getElem?_toArray, List.getElem?_cons_zero, List.getElem?_cons_succ]; rfl)); (case bt5 => exact fun _ _ _ h => h); (case ct5 => kernel_rfl); (case dt5 => (intro W hW; (try dsimp only at hW); go_split_ands; go_simp; (try with_reducible rfl))); (case' rt5 => simp only [Act.put, List.setIfInBounds_toArray, List.set_cons_zero, List.set_cons_succ]))
  (refine held_take (i := 5) (oi := ?ot6) (v := ?vt6) ?at6 (by kernel_rfl) (by kernel_rfl) (by kernel_rfl) ?bt6 ?ct6 ?dt6 (by assumption) ?rt6; (case at6 => (simp only [List.getElem?_toArray, List.getElem?_cons_zero, List.getElem?_cons_succ]; rfl)); (case bt6 => exact fun _ _ _ h => h); (case ct6 => kernel_rfl); (case dt6 => (intro W hW; (try dsimp only at hW); go_split_ands; go_simp; (try with_reducible rfl))); (case' rt6 => simp only [Act.put, List.setIfInBounds_toArray, List.set_cons_zero, List.set_cons_succ]))
  (refine held_take (i := 6) (oi := ?ot7) (v := ?vt7) ?at7 (by kernel_rfl) (by kernel_rfl) (by kernel_rfl) ?bt7 ?ct7 ?dt7 (by assumption) ?rt7; (case at7 => (simp only [List.getElem?_toArray, List.getElem?_cons_zero, List.getElem?_cons_succ]; rfl)); (case bt7 => exact fun _ _ _ h => h); (case ct7 => kernel_rfl); (case dt7 => (intro W hW; (try dsimp only at hW); go_split_ands; go_simp; (try with_reducible rfl))); (case' rt7 => simp only [Act.put, List.setIfInBounds_toArray, List.set_cons_zero, List.set_cons_succ]))
  (refine held_take (i := 7) (oi := ?ot8) (v := .agg (vec 32 (bys seed))) ?at8 (by kernel_rfl) (by kernel_rfl) (by kernel_rfl) ?bt8 ?ct8 ?dt8 (by assumption) ?rt8; (case at8 => (simp only [List.getElem?_toArray, List.getElem?_cons_zero, List.getElem?_cons_succ]; rfl)); (case bt8 => exact fun _ _ _ h => h); (case ct8 => kernel_rfl); (case dt8 => (intro W hW; exact exec_load 30 _ rfl _ rfl _ (run_load_arr (hW.arr H3.out (by omega)) Tryz.underlying30 rfl info26))); (case' rt8 => simp only [Act.put, List.setIfInBounds_toArray, List.set_cons_zero, List.set_cons_succ]))
  (refine held_take (i := 8) (oi := ?ot9) (v := .int .u32 (idx : Int)) ?at9 (by kernel_rfl) (by kernel_rfl) (by kernel_rfl) ?bt9 ?ct9 ?dt9 (by assumption) ?rt9; (case at9 => (simp only [List.getElem?_toArray, List.getElem?_cons_zero, List.getElem?_cons_succ]; rfl)); (case bt9 => exact fun _ _ _ h => h); (case ct9 => kernel_rfl); (case dt9 => (intro W hW; have hc := (hW.blk H2.out (by omega)).cellAt 0 rfl; clear hW; go_simp; (try with_reducible rfl))); (case' rt9 => simp only [Act.put, List.setIfInBounds_toArray, List.set_cons_zero, List.set_cons_succ]))
  (refine held_take (i := 9) (oi := ?ot10) (v := ?vt10) ?at10 (by kernel_rfl) (by kernel_rfl) (by kernel_rfl) ?bt10 ?ct10 ?dt10 (by assumption) ?rt10; (case at10 => (simp only [List.getElem?_toArray, List.getElem?_cons_zero, List.getElem?_cons_succ]; rfl)); (case bt10 => exact fun _ _ _ h => h); (case ct10 => kernel_rfl); (case dt10 => (intro W hW; (try dsimp only at hW); go_split_ands; go_simp; (try with_reducible rfl))); (case' rt10 => simp only [Act.put, List.setIfInBounds_toArray, List.set_cons_zero, List.set_cons_succ]))
  refine held_one (i := 10) (oi := ?ot11) (by kernel_rfl) ?at11 ?ct11 (fun K10 hK10 => ?_)
  (case at11 => (simp only [List.getElem?_toArray, List.getElem?_cons_zero, List.getElem?_cons_succ]; rfl))
  (case ct11 => kernel_rfl)
  go_simp
  refine (chainN_any x d (15 - d) seed idx hidx c hn h15 _ (hS.tabs HA.out.tabs HA.out.far.1 HA.out.far.2)).mono ?_
  rintro e y10 ⟨rfl, hd⟩
  refine hK10 _ _ (hS.keep hd) (fun hS10 => ?_)
  clear hS hd hK10 K10
  refine held_one (i := 11) (oi := ?ot12) (by kernel_rfl) ?at12 ?ct12 (fun K11 hK11 => ?_)
  (case at12 => (simp only [List.getElem?_toArray, List.getElem?_cons_zero, List.getElem?_cons_succ]; rfl))
  (case ct12 => kernel_rfl)
  obtain ⟨f0, hf0⟩ := hS10.res
  refine ow_store 30 _ _ rfl _ rfl _ rfl (run_store_arr hf0 (bys (chF seed idx c x d (15 - d))) info26 (bys_one _ _)) ?_
  refine hK11 _ _ (hS10.put _) (fun hS11 => ?_)
  clear hK11 K11
  refine wpAnyH_done (by kernel_rfl) ?_ _
  go_wp2
  refine bodyPost_ret (results_cell1 rfl _ _ _ rfl (run_load_arr (hf0.row _) Tryz.underlying30 rfl info26)) rfl ⟨by rw [HRES.out], hS11.below HA.out.below (Nat.le_refl _)⟩

/-- The document's Public. -/
def publicD (sig : List Nd) (m seed : Nat → UInt8) (idx : Nat) : List Nd := if sig.length = 67 then publicF sig m seed idx else []
set_option maxHeartbeats 1000000 in
set_option maxRecDepth 100000 in
theorem public_any (A : Option Addr) (cap : Nat) (sig : List Nd) (m seed : Nat → UInt8) (idx : Nat) (hidx : idx < 4294967296) (w : World) (hr : NRow w w.heap.size A sig) (hT : Tabs w) :
    Calls Tryz.prog 17 #[.slice A sig.length cap, .agg (vec 32 (bys m)), .agg (vec 32 (bys seed)), .int .u32 (idx : Int)] w fun e W' => ∃ v, e = .returned v ∧ OwnN W' w.heap.size v (publicD sig m seed idx) ∧ Below w.heap.size w W' := by

  obtain ⟨V, hV⟩ : ∃ V, V = (((w.alloc (.cells #[.slice A sig.length cap] 31)).alloc (.cells (vec 32 (bys m)) 30)).alloc (.cells (vec 32 (bys seed)) 30)).alloc (.cells #[.int .u32 (idx : Int)] 28) := ⟨_, rfl⟩
  have h1 : Blk V w.heap.size 31 #[.slice A sig.length cap] := by rw [hV]; exact (((Blk.new _ _ _ rfl).alloc _).alloc _).alloc _
  have h2 : Arr V (w.heap.size + 1) 30 32 (bys m) := by rw [hV]; exact ((Arr.newAt _ _ _ _ (by simp)).alloc _).alloc _
  have h3 : Arr V (w.heap.size + 2) 30 32 (bys seed) := by rw [hV]; exact (Arr.newAt _ _ _ _ (by simp)).alloc _
  have h4 : Blk V (w.heap.size + 3) 28 #[.int .u32 (idx : Int)] := by rw [hV]; exact Blk.new _ _ _ (by simp)
  have hB : Below w.heap.size w V := by rw [hV]; exact (((((Below.refl _ _).alloc (by simp <;> omega) _).alloc (by simp <;> omega) _).alloc (by simp <;> omega) _).alloc (by simp <;> omega) _)
  have hc1 := h1.cellAt 0 rfl
  by_cases hl : sig.length = 67
  · have hdo : ∀ U, Below V.heap.size V U → DoOk 45 #[.pointer (some ⟨w.heap.size, 0, none⟩), .pointer (some ⟨w.heap.size + 2, 0, none⟩), .pointer (some ⟨w.heap.size + 3, 0, none⟩)] U (pubR sig seed idx) := fun U hU x W hW =>
      have hVW := hU.trans (hW.mono hU.size)
      pub1_any x.1.1 x.1.2 x.2.1 x.2.2 A cap sig hl seed idx hidx w.heap.size (w.heap.size + 3) (w.heap.size + 2) W (hl ▸ h1.under hVW) (h4.under hVW) (h3.under hVW)
        ((hr.below (hB.trans (hVW.mono hB.size))).wide (Nat.le_trans hB.size hVW.size)) (tabs_below hT (hB.trans (hVW.mono hB.size)))
    obtain ⟨V2, hV2⟩ : ∃ V2, V2 = V.alloc (.cells (vec 32 (bys m)) 30) := ⟨_, rfl⟩
    have hb2 : Below V.heap.size V V2 := by rw [hV2]; exact (Below.refl _ _).alloc (Nat.le_refl _) _
    have hM2 : Arr V2 V.heap.size 30 32 (bys m) := by rw [hV2]; exact Arr.new V _ _ _
    have hea := each_any 67 #[.pointer (some ⟨V.heap.size, 0, none⟩)] (fun _ _ => rfl) 45 #[.pointer (some ⟨w.heap.size, 0, none⟩), .pointer (some ⟨w.heap.size + 2, 0, none⟩), .pointer (some ⟨w.heap.size + 3, 0, none⟩)] (fun _ _ => rfl) (cds (digN m) (digN_le m) 67) V.heap.size V2 hM2.lt (fun _ => True) (pubR sig seed idx)
      (digits_stops 9 (by decide) _ m V2 hM2) (hdo V2 hb2)
    rw [made_pub] at hea
    have hB2 := hB.trans (hb2.mono hB.size)
    have HE := Lib.hid (And.intro hea (And.intro hB2 (show w.heap.size ≤ V2.heap.size from hB2.size)))
    have HM := Lib.hid h2
    have HV2 := Lib.hid hV2
    have HP : Hid (publicD sig m seed idx = publicF sig m seed idx) := Lib.hid (if_pos hl)
    have hmf := make_func
    have HW := Lib.hid hV
    have t1 : ((sig.length : Int) == 67) = true := by simp; omega
    have t2 : ((sig.length : Int) != 67) = false := by simp; omega
    have t3 : (sig.length : Int) = 67 := by omega
    clear hV hV2 h1 h2 h3 h4 hB hdo hb2 hM2 hea hB2 hr hT hl
    go_enter Tryz.func17, Tryz.ntmps17
    go_upto_region 1 with fail
    rw [← HW.out]
    clear HW
    go_wp2_with (first
      | ((with_reducible show wpList _ _ _ (Oper.mk _ (.load 30 _) _ _ _ _ :: _) _ _); refine wl_load rfl 30 _ rfl _ rfl _ (run_load_arr HM.out Tryz.underlying30 rfl info26) ?_)
      | (go_at_call 44; refine (digits_any m _).mono ?_; rintro e w1 ⟨rfl, rfl⟩)
      | (go_at_call 43; rw [← HV2.out]; refine HE.out.1.mono ?_; rintro e w2 ⟨v, rfl, ho, hd⟩; have HO := Lib.hid (And.intro ho hd); clear ho hd))
    go_ret
    exact ⟨v, rfl, by rw [HP.out]; exact HO.out.1.low HE.out.2.2, HE.out.2.1.trans (HO.out.2.mono HE.out.2.2)⟩
  · have HP : Hid (publicD sig m seed idx = []) := Lib.hid (if_neg hl)
    have HB := Lib.hid hB
    have HW := Lib.hid hV
    have t1 : ((sig.length : Int) == 67) = false := by simp; omega
    have t2 : ((sig.length : Int) != 67) = true := by simp; omega
    clear hV h1 h2 h3 h4 hB hr hT
    go_enter Tryz.func17, Tryz.ntmps17
    go_upto_region 1 with fail
    rw [← HW.out]
    clear HW
    go_wp2
    go_ret
    exact ⟨_, rfl, by rw [HP.out]; exact World.ownsRow_nil _ _ _ _, HB.out⟩
end Go.Proofs.YtfeiplaiekbdkaaGreatDoor
/- The reference's Secret, Chain. -/
namespace Go.Proofs.YtfeiplaiekbdkaaGreatDoor
open Go.RowKit
attribute [local go_sem ↓ high] zeroV26

set_option maxHeartbeats 1000000 in
set_option maxRecDepth 100000 in
theorem rsecret_any (secret : Nat → UInt8) (idx : Nat) (hidx : idx < 4294967296) (chain : Int) (w : World) (hT : Tabs w) :
    Calls Tryz.prog 55 #[.agg (vec 32 (bys secret)), .int .u32 (idx : Int), .int .i64 chain] w fun e w' => e = .returned (.agg (vec 32 (bys (secretF secret idx chain)))) ∧ Below w.heap.size w w' := by
  obtain ⟨V, hV⟩ : ∃ V, V = (w.alloc (.cells (vec 32 (bys secret)) 30)).alloc (.cells (vec 32 (bys zb)) 30) := ⟨_, rfl⟩
  have hA : Arr V w.heap.size 30 32 (bys secret) := by rw [hV]; exact (Arr.newAt _ _ _ _ (by simp)).alloc _
  have hR : Arr V (w.heap.size + 1) 30 32 (bys zb) := by rw [hV]; exact Arr.newAt _ _ _ _ (by simp)
  have hB : Below w.heap.size w V := by rw [hV]; exact (((Below.refl _ _).alloc (by simp <;> omega) _).alloc (by simp <;> omega) _)
  have HA := Lib.hid (And.intro hA (And.intro hR (And.intro hB (tabs_below hT hB))))
  have HW := Lib.hid hV
  clear hV hA hR hB hT
  by_cases h0 : chain < 0
  · have t1 : decide (chain < 0) = true := by simp [h0]
    go_enter Tryz.func55, Tryz.ntmps55
    go_upto_region 1 with fail
    rw [← HW.out]
    clear HW
    go_wp2_with (first
      | ((with_reducible show wpList _ _ _ (Oper.mk _ (.build _ _) _ _ _ _ :: _) _ _); refine wl_build rfl 30 _ rfl (vec 32 (bys zb)) (by kernel_rfl) ?_)
      | ((with_reducible show wpList _ _ _ (Oper.mk _ (.store _ _ _) _ _ _ _ :: _) _ _); refine wl_store rfl 30 _ _ rfl _ rfl _ rfl (run_store_arr HA.out.2.1 (bys zb) info26 (bys_one _ _)) ?_))
    refine bodyPost_ret (results_cell1 rfl _ _ _ rfl (run_load_arr (HA.out.2.1.row _) Tryz.underlying30 rfl info26)) rfl ⟨?_, below_row HA.out.2.2.1 (by omega) _⟩
    have : ¬ (0 ≤ chain ∧ chain ≤ 66) := by omega
    unfold secretF
    rw [if_neg this]
  · have t1 : decide (chain < 0) = false := by simp; omega
    by_cases h1 : 66 < chain
    · have t2 : decide (66 < chain) = true := by simp [h1]
      go_enter Tryz.func55, Tryz.ntmps55
      go_upto_region 1 with fail
      rw [← HW.out]
      clear HW
      go_wp2_with (first
        | ((with_reducible show wpList _ _ _ (Oper.mk _ (.build _ _) _ _ _ _ :: _) _ _); refine wl_build rfl 30 _ rfl (vec 32 (bys zb)) (by kernel_rfl) ?_)
        | ((with_reducible show wpList _ _ _ (Oper.mk _ (.store _ _ _) _ _ _ _ :: _) _ _); refine wl_store rfl 30 _ _ rfl _ rfl _ rfl (run_store_arr HA.out.2.1 (bys zb) info26 (bys_one _ _)) ?_))
      refine bodyPost_ret (results_cell1 rfl _ _ _ rfl (run_load_arr (HA.out.2.1.row _) Tryz.underlying30 rfl info26)) rfl ⟨?_, below_row HA.out.2.2.1 (by omega) _⟩
      have : ¬ (0 ≤ chain ∧ chain ≤ 66) := by omega
      unfold secretF
      rw [if_neg this]
    · have t2 : decide (66 < chain) = false := by simp; omega
      obtain ⟨n, rfl⟩ := Int.eq_ofNat_of_zero_le (Int.not_lt.1 h0)
      have hn : n ≤ 66 := by omega
      have HS := Lib.hid (secretF_nat secret idx n hn)
      have HP := Lib.hid (rprf_any secret 0 0 0 idx n 0 0 ⟨by decide, by decide, by decide, hidx, by omega, by decide, by decide⟩ V HA.out.2.2.2)
      have hwn : IntKind.u32.wrap (n : Int) = (n : Int) := by rw [IntKind.wrap_u32']; omega
      clear h0 h1
      go_enter Tryz.func55, Tryz.ntmps55
      go_upto_region 1 with fail
      rw [← HW.out]
      clear HW
      go_wp2_with (first
        | ((with_reducible show wpList _ _ _ (Oper.mk _ (.load _ _) _ _ _ _ :: _) _ _); refine wl_load rfl 30 _ rfl _ rfl _ (run_load_arr HA.out.1 Tryz.underlying30 rfl info26) ?_)
        | (go_at_call 73; refine HP.out.mono ?_; rintro e w3 ⟨rfl, hd⟩; have H3 := Lib.hid (And.intro (HA.out.2.1.under hd) (HA.out.2.2.1.trans (hd.mono HA.out.2.2.1.size))); clear hd)
        | ((with_reducible show wpList _ _ _ (Oper.mk _ (.store _ _ _) _ _ _ _ :: _) _ _); refine wl_store rfl 30 _ _ rfl _ rfl _ rfl (run_store_arr H3.out.1 (bys (prfF secret 0 0 0 idx n 0 0)) info26 (bys_one _ _)) ?_))
      exact bodyPost_ret (results_cell1 rfl _ _ _ rfl (run_load_arr (H3.out.1.row _) Tryz.underlying30 rfl info26)) rfl ⟨by rw [HS.out], below_row H3.out.2 (by omega) _⟩

theorem chF_succ (seed : Nat → UInt8) (idx chain : Nat) (x : Nat → UInt8) (i k : Nat) : chF seed idx chain x i (k + 1) = stepF seed idx chain (i + k) (chF seed idx chain x i k) := rfl
/-- What the reference's loop keeps. -/
structure RL (w : World) (seed x : Nat → UInt8) (W : World) : Prop where
  x : Arr W w.heap.size 30 32 (bys x)
  s : Arr W (w.heap.size + 1) 30 32 (bys seed)
  r : Arr W (w.heap.size + 2) 30 32 (bys zb)
  b : Below w.heap.size w W
theorem RL.keep {w W Z : World} {seed x : Nat → UInt8} (h : RL w seed x W) (hd : Below W.heap.size W Z) : RL w seed x Z := ⟨h.x.under hd, h.s.under hd, h.r.under hd, h.b.trans (hd.mono h.b.size)⟩
theorem RL.lt {w W : World} {seed x : Nat → UInt8} (h : RL w seed x W) : w.heap.size + 2 < W.heap.size := h.r.lt
set_option maxHeartbeats 2000000 in
set_option maxRecDepth 100000 in
theorem rchain_any (x : Nat → UInt8) (i k : Int) (seed : Nat → UInt8) (idx : Nat) (hidx : idx < 4294967296) (chain : Int) (bi : -9223372036854775808 ≤ i ∧ i ≤ 9223372036854775807) (bk : -9223372036854775808 ≤ k ∧ k ≤ 9223372036854775807) (w : World) (hT : Tabs w) :
    Calls Tryz.prog 52 #[.agg (vec 32 (bys x)), .int .i64 i, .int .i64 k, .agg (vec 32 (bys seed)), .int .u32 (idx : Int), .int .i64 chain] w fun e w' => e = .returned (.agg (vec 32 (bys (chainF x i k seed idx chain)))) ∧ Below w.heap.size w w' := by
  obtain ⟨V, hV⟩ : ∃ V, V = ((w.alloc (.cells (vec 32 (bys x)) 30)).alloc (.cells (vec 32 (bys seed)) 30)).alloc (.cells (vec 32 (bys zb)) 30) := ⟨_, rfl⟩
  have hA : Arr V w.heap.size 30 32 (bys x) := by rw [hV]; exact ((Arr.newAt _ _ _ _ (by simp)).alloc _).alloc _
  have hS : Arr V (w.heap.size + 1) 30 32 (bys seed) := by rw [hV]; exact (Arr.newAt _ _ _ _ (by simp)).alloc _
  have hR : Arr V (w.heap.size + 2) 30 32 (bys zb) := by rw [hV]; exact Arr.newAt _ _ _ _ (by simp)
  have hB : Below w.heap.size w V := by rw [hV]; exact ((((Below.refl _ _).alloc (by simp <;> omega) _).alloc (by simp <;> omega) _).alloc (by simp <;> omega) _)
  have HA : Hid (RL w seed x V ∧ Tabs w) := Lib.hid ⟨⟨hA, hS, hR, hB⟩, hT⟩
  have HW := Lib.hid hV
  clear hV hA hS hR hB hT
  by_cases a1 : i < 0
  · have ta1 : decide (i < 0) = true := by simp [a1]
    go_enter Tryz.func52, Tryz.ntmps52
    go_upto_region 1 with fail
    rw [← HW.out]
    clear HW
    go_wp2_with (first
      | ((with_reducible show wpList _ _ _ (Oper.mk _ (.build _ _) _ _ _ _ :: _) _ _); refine wl_build rfl 30 _ rfl (vec 32 (bys zb)) (by kernel_rfl) ?_)
      | ((with_reducible show wpList _ _ _ (Oper.mk _ (.store _ _ _) _ _ _ _ :: _) _ _); refine wl_store rfl 30 _ _ rfl _ rfl _ rfl (run_store_arr HA.out.1.r (bys zb) info26 (bys_one _ _)) ?_))
    refine bodyPost_ret (results_cell1 rfl _ _ _ rfl (run_load_arr (HA.out.1.r.row _) Tryz.underlying30 rfl info26)) rfl ⟨?_, below_row HA.out.1.b (by omega) _⟩
    have : steppy i k chain = false := decide_eq_false (by omega)
    unfold chainF
    rw [this]
    rfl
  · have ta1 : decide (i < 0) = false := by simp; omega
    by_cases a2 : k < 0
    · have ta2 : decide (k < 0) = true := by simp [a2]
      go_enter Tryz.func52, Tryz.ntmps52
      go_upto_region 1 with fail
      rw [← HW.out]
      clear HW
      go_wp2_with (first
        | ((with_reducible show wpList _ _ _ (Oper.mk _ (.build _ _) _ _ _ _ :: _) _ _); refine wl_build rfl 30 _ rfl (vec 32 (bys zb)) (by kernel_rfl) ?_)
        | ((with_reducible show wpList _ _ _ (Oper.mk _ (.store _ _ _) _ _ _ _ :: _) _ _); refine wl_store rfl 30 _ _ rfl _ rfl _ rfl (run_store_arr HA.out.1.r (bys zb) info26 (bys_one _ _)) ?_))
      refine bodyPost_ret (results_cell1 rfl _ _ _ rfl (run_load_arr (HA.out.1.r.row _) Tryz.underlying30 rfl info26)) rfl ⟨?_, below_row HA.out.1.b (by omega) _⟩
      have : steppy i k chain = false := decide_eq_false (by omega)
      unfold chainF
      rw [this]
      rfl
    · have ta2 : decide (k < 0) = false := by simp; omega
      by_cases a3 : 15 < i
      · have ta3 : decide (15 < i) = true := by simp [a3]
        go_enter Tryz.func52, Tryz.ntmps52
        go_upto_region 1 with fail
        rw [← HW.out]
        clear HW
        go_wp2_with (first
          | ((with_reducible show wpList _ _ _ (Oper.mk _ (.build _ _) _ _ _ _ :: _) _ _); refine wl_build rfl 30 _ rfl (vec 32 (bys zb)) (by kernel_rfl) ?_)
          | ((with_reducible show wpList _ _ _ (Oper.mk _ (.store _ _ _) _ _ _ _ :: _) _ _); refine wl_store rfl 30 _ _ rfl _ rfl _ rfl (run_store_arr HA.out.1.r (bys zb) info26 (bys_one _ _)) ?_))
        refine bodyPost_ret (results_cell1 rfl _ _ _ rfl (run_load_arr (HA.out.1.r.row _) Tryz.underlying30 rfl info26)) rfl ⟨?_, below_row HA.out.1.b (by omega) _⟩
        have : steppy i k chain = false := decide_eq_false (by omega)
        unfold chainF
        rw [this]
        rfl
      · have ta3 : decide (15 < i) = false := by simp; omega
        by_cases a4 : 15 - i < k
        · have ta4 : decide (15 - i < k) = true := by simp [a4]
          go_enter Tryz.func52, Tryz.ntmps52
          go_upto_region 1 with fail
          rw [← HW.out]
          clear HW
          go_wp2_with (first
            | ((with_reducible show wpList _ _ _ (Oper.mk _ (.build _ _) _ _ _ _ :: _) _ _); refine wl_build rfl 30 _ rfl (vec 32 (bys zb)) (by kernel_rfl) ?_)
            | ((with_reducible show wpList _ _ _ (Oper.mk _ (.store _ _ _) _ _ _ _ :: _) _ _); refine wl_store rfl 30 _ _ rfl _ rfl _ rfl (run_store_arr HA.out.1.r (bys zb) info26 (bys_one _ _)) ?_))
          refine bodyPost_ret (results_cell1 rfl _ _ _ rfl (run_load_arr (HA.out.1.r.row _) Tryz.underlying30 rfl info26)) rfl ⟨?_, below_row HA.out.1.b (by omega) _⟩
          have : steppy i k chain = false := decide_eq_false (by omega)
          unfold chainF
          rw [this]
          rfl
        · have ta4 : decide (15 - i < k) = false := by simp; omega
          by_cases a5 : chain < 0
          · have ta5 : decide (chain < 0) = true := by simp [a5]
            go_enter Tryz.func52, Tryz.ntmps52
            go_upto_region 1 with fail
            rw [← HW.out]
            clear HW
            go_wp2_with (first
              | ((with_reducible show wpList _ _ _ (Oper.mk _ (.build _ _) _ _ _ _ :: _) _ _); refine wl_build rfl 30 _ rfl (vec 32 (bys zb)) (by kernel_rfl) ?_)
              | ((with_reducible show wpList _ _ _ (Oper.mk _ (.store _ _ _) _ _ _ _ :: _) _ _); refine wl_store rfl 30 _ _ rfl _ rfl _ rfl (run_store_arr HA.out.1.r (bys zb) info26 (bys_one _ _)) ?_))
            refine bodyPost_ret (results_cell1 rfl _ _ _ rfl (run_load_arr (HA.out.1.r.row _) Tryz.underlying30 rfl info26)) rfl ⟨?_, below_row HA.out.1.b (by omega) _⟩
            have : steppy i k chain = false := decide_eq_false (by omega)
            unfold chainF
            rw [this]
            rfl
          · have ta5 : decide (chain < 0) = false := by simp; omega
            by_cases a6 : 66 < chain
            · have ta6 : decide (66 < chain) = true := by simp [a6]
              go_enter Tryz.func52, Tryz.ntmps52
              go_upto_region 1 with fail
              rw [← HW.out]
              clear HW
              go_wp2_with (first
                | ((with_reducible show wpList _ _ _ (Oper.mk _ (.build _ _) _ _ _ _ :: _) _ _); refine wl_build rfl 30 _ rfl (vec 32 (bys zb)) (by kernel_rfl) ?_)
                | ((with_reducible show wpList _ _ _ (Oper.mk _ (.store _ _ _) _ _ _ _ :: _) _ _); refine wl_store rfl 30 _ _ rfl _ rfl _ rfl (run_store_arr HA.out.1.r (bys zb) info26 (bys_one _ _)) ?_))
              refine bodyPost_ret (results_cell1 rfl _ _ _ rfl (run_load_arr (HA.out.1.r.row _) Tryz.underlying30 rfl info26)) rfl ⟨?_, below_row HA.out.1.b (by omega) _⟩
              have : steppy i k chain = false := decide_eq_false (by omega)
              unfold chainF
              rw [this]
              rfl
            · have ta6 : decide (66 < chain) = false := by simp; omega
              obtain ⟨n, rfl⟩ := Int.eq_ofNat_of_zero_le (Int.not_lt.1 a5)
              obtain ⟨i, rfl⟩ := Int.eq_ofNat_of_zero_le (Int.not_lt.1 a1)
              obtain ⟨k, rfl⟩ := Int.eq_ofNat_of_zero_le (Int.not_lt.1 a2)
              have hn : n ≤ 66 := by omega
              have hik : i + k ≤ 15 := by omega
              have HCH := Lib.hid (chainF_nat x i k seed idx n hn hik)
              clear a1 a2 a3 a4 a5 a6
              go_enter Tryz.func52, Tryz.ntmps52
              go_upto_region 1 with fail
              rw [← HW.out]
              clear HW
              go_wp2_with fail
              go_loopw [13] (fun j W => ∃ q : Nat, q ≤ k ∧ j = .int .i64 ((i + q : Nat) : Int) ∧ Hid (RL w seed (chF seed idx n x i q) W)) (fun j _ => i + k - (intOf j).toNat)
              case atStart => exact ⟨0, Nat.zero_le _, rfl, Lib.hid HA.out.1⟩
              case round =>
                obtain ⟨q, hq, rfl, hR⟩ := hrel
                by_cases hlt : q < k
                · have HOK : Hid (∀ m, m < 4294967296 → AdOk 0 0 0 idx n (i + q) m) := Lib.hid fun m hm => ⟨by decide, by decide, by decide, hidx, by omega, by omega, hm⟩
                  have HTw := Lib.hid (tabs_below HA.out.2 hR.out.b)
                  have HF := Lib.hid (tabs_far HA.out.2 (Nat.le_refl _))
                  have hltI : ((i + q : Nat) : Int) < (i : Int) + (k : Int) := by omega
                  have hltD : decide (((i + q : Nat) : Int) < (i : Int) + (k : Int)) = true := by simp; omega
                  have hw1 : IntKind.u32.wrap ((i + q : Nat) : Int) = ((i + q : Nat) : Int) := by rw [IntKind.wrap_u32']; omega
                  have hw2 : IntKind.u32.wrap (n : Int) = (n : Int) := by rw [IntKind.wrap_u32']; omega
                  obtain ⟨c, hc⟩ : ∃ c, c = i + q := ⟨_, rfl⟩
                  rw [← hc] at hltI hltD hw1 HOK ⊢
                  have hcb : c ≤ 15 := by omega
                  have HC := Lib.hid hc
                  clear hc
                  go_upto_region 7 with fail
                  obtain ⟨xq, hxq⟩ : ∃ xq, xq = chF seed idx n x i q := ⟨_, rfl⟩
                  have hR1 := hR.out
                  rw [← hxq] at hR1
                  obtain ⟨g, hg⟩ : ∃ g, g = wr.heap.size := ⟨_, rfl⟩
                  obtain ⟨V1, hV1⟩ : ∃ V1, V1 = wr.alloc (.cells (adA 0 0 0 (idx : Int) (n : Int) (c : Int) 0) 86) := ⟨_, rfl⟩
                  have hAd : Blk V1 g 86 (adA 0 0 0 (idx : Int) (n : Int) (c : Int) 0) := by rw [hV1, hg]; exact Blk.new _ _ _ rfl
                  have hL1 : RL w seed xq V1 := by rw [hV1]; exact hR1.keep ((Below.refl _ _).alloc (Nat.le_refl _) _)
                  have hT1 : Tabs V1 := tabs_below HA.out.2 hL1.b
                  have hgl : w.heap.size + 2 < g := by have := hR1.lt; omega
                  rw [← hV1, ← hg]
                  have HL1 := Lib.hid (And.intro hL1 (And.intro hAd (And.intro hT1 hgl)))
                  have HQ := Lib.hid hxq
                  clear hg hV1 hAd hL1 hT1 hgl hxq hR1 hR HTw
                  go_upto_region 8 with (first
                    | ((with_reducible show wpList _ _ _ (Oper.mk _ (.load 30 _) _ _ _ _ :: _) _ _); refine wl_load rfl 30 _ rfl _ rfl _ (run_load_arr HL1.out.1.s Tryz.underlying30 rfl info26) ?_)
                    | ((with_reducible show wpList _ _ _ (Oper.mk _ (.load 86 _) _ _ _ _ :: _) _ _); refine wl_load rfl 86 _ rfl _ rfl _ (HL1.out.2.1.load Tryz.underlying86 rfl infoAd) ?_)
                    | (go_at_call 73; refine (rprf_any seed 0 0 0 idx n c 0 (HOK.out 0 (by decide)) _ HL1.out.2.2.1).mono ?_; rintro e w1 ⟨rfl, hd⟩; have H1 := Lib.hid hd; clear hd)
                    | ((with_reducible show wpList _ _ _ (Oper.mk _ (.store 30 _ _) _ _ _ _ :: _) _ _); refine wl_store rfl 30 _ _ rfl _ rfl _ rfl (run_store_arr (Arr.new w1 _ _ _) (bys (prfF seed 0 0 0 idx n c 0)) info26 (bys_one _ _)) ?_))
                  obtain ⟨gk, hgk⟩ : ∃ gk, gk = w1.heap.size := ⟨_, rfl⟩
                  obtain ⟨V3, hV3⟩ : ∃ V3, V3 = (w1.alloc (.cells (vec 32 (bys zb)) 30)).setRow w1.heap.size (vec 32 (bys (prfF seed 0 0 0 idx n c 0))) := ⟨_, rfl⟩
                  have hK3 : Arr V3 gk 30 32 (bys (prfF seed 0 0 0 idx n c 0)) := by rw [hV3, hgk]; exact (Arr.new w1 _ _ _).row _
                  have hb3 : Below V1.heap.size V1 V3 := by rw [hV3]; exact below_row (H1.out.alloc H1.out.size _) H1.out.size _
                  have hAd3 := HL1.out.2.1.under hb3
                  have hL3 := HL1.out.1.keep hb3
                  have hggk : g < gk := by have := HL1.out.2.1.lt; have := H1.out.size; omega
                  have hc6 := hAd3.cellAt 6 rfl
                  have hf6 := hAd3.frozen 6
                  rw [← hV3, ← hgk]
                  have HL3 := Lib.hid (And.intro hL3 (And.intro hAd3 (And.intro hK3 (And.intro hggk HL1.out.2.2.2))))
                  clear hgk hV3 hK3 hb3 hAd3 hL3 hggk H1 HL1
                  go_upto_region 9 with fail
                  obtain ⟨V4, hV4⟩ : ∃ V4, V4 = V3.setCell ⟨g, 6, none⟩ (.int .u32 1) := ⟨_, rfl⟩
                  have hAd4 : Blk V4 g 86 (adA 0 0 0 (idx : Int) (n : Int) (c : Int) 1) := by rw [hV4]; exact HL3.out.2.1.set 6 _
                  have hgl := HL3.out.2.2.2.2
                  have hggk := HL3.out.2.2.2.1
                  have hL4 : RL w seed xq V4 := by
                    rw [hV4]
                    exact ⟨HL3.out.1.x.far (p := ⟨g, 6, none⟩) (show w.heap.size ≠ g by omega) _, HL3.out.1.s.far (p := ⟨g, 6, none⟩) (show w.heap.size + 1 ≠ g by omega) _, HL3.out.1.r.far (p := ⟨g, 6, none⟩) (show w.heap.size + 2 ≠ g by omega) _, HL3.out.1.b.setCell (p := ⟨g, 6, none⟩) (show w.heap.size ≤ g by omega) _⟩
                  have hK4 : Arr V4 gk 30 32 (bys (prfF seed 0 0 0 idx n c 0)) := by rw [hV4]; exact HL3.out.2.2.1.far (p := ⟨g, 6, none⟩) (show gk ≠ g by omega) _
                  rw [← hV4]
                  have HT4 := Lib.hid (tabs_below HA.out.2 hL4.b)
                  have HX : Hid (Arr V4.drew w.heap.size 30 32 (bys xq)) := Lib.hid (hL4.x.drewN 1)
                  have HL4 := Lib.hid (And.intro hL4 (And.intro hAd4 hK4))
                  clear hV4 hAd4 hL4 hK4 HL3 hc6 hf6
                  refine wp_region_held_drew (S := fun Y => SR V4 w.heap.size Y) (by kernel_rfl) (SR.begin HL4.out.1.x) (fun hS => ?_)
                  (refine held_take (i := 0) (oi := ?ot1) (v := .agg (vec 32 (bys (prfF seed 0 0 0 idx n c 0)))) ?at1 (by kernel_rfl) (by kernel_rfl) (by kernel_rfl) ?bt1 ?ct1 ?dt1 (by assumption) ?rt1; (case at1 => (simp only [List.getElem?_toArray, List.getElem?_cons_zero]; rfl)); (case bt1 => exact fun _ _ _ h => h); (case ct1 => kernel_rfl); (case dt1 => (intro W hW; exact exec_load 30 _ rfl _ rfl _ (run_load_arr (hW.arr HL4.out.2.2 (by omega)) Tryz.underlying30 rfl info26))); (case' rt1 => simp only [Act.put, List.setIfInBounds_toArray, List.set_cons_zero, List.set_cons_succ]))
                  (refine held_take (i := 2) (oi := ?ot2) (v := .agg (vec 32 (bys seed))) ?at2 (by kernel_rfl) (by kernel_rfl) (by kernel_rfl) ?bt2 ?ct2 ?dt2 (by assumption) ?rt2; (case at2 => (simp only [List.getElem?_toArray, List.getElem?_cons_zero, List.getElem?_cons_succ]; rfl)); (case bt2 => exact fun _ _ _ h => h); (case ct2 => kernel_rfl); (case dt2 => (intro W hW; exact exec_load 30 _ rfl _ rfl _ (run_load_arr (hW.arr HL4.out.1.s (by omega)) Tryz.underlying30 rfl info26))); (case' rt2 => simp only [Act.put, List.setIfInBounds_toArray, List.set_cons_zero, List.set_cons_succ]))
                  (refine held_take (i := 3) (oi := ?ot3) (v := adV 0 0 0 (idx : Int) (n : Int) (c : Int) 1) ?at3 (by kernel_rfl) (by kernel_rfl) (by kernel_rfl) ?bt3 ?ct3 ?dt3 (by assumption) ?rt3; (case at3 => (simp only [List.getElem?_toArray, List.getElem?_cons_zero, List.getElem?_cons_succ]; rfl)); (case bt3 => exact fun _ _ _ h => h); (case ct3 => kernel_rfl); (case dt3 => (intro W hW; exact exec_load 86 _ rfl _ rfl _ ((hW.blk HL4.out.2.1 (by omega)).load Tryz.underlying86 rfl infoAd))); (case' rt3 => simp only [Act.put, List.setIfInBounds_toArray, List.set_cons_zero, List.set_cons_succ]))
                  refine held_two (i := 1) (j := 4) (oi := ?oit12) (oj := ?ojt12) (by kernel_rfl) ?ait12 ?ajt12 ?cit12 ?cjt12 (fun K1 hK1 => ?hit12) (fun K4 hK4 => ?hjt12)
                  (case ait12 => (simp only [List.getElem?_toArray, List.getElem?_cons_zero, List.getElem?_cons_succ]; rfl))
                  (case ajt12 => (simp only [List.getElem?_toArray, List.getElem?_cons_zero, List.getElem?_cons_succ]; rfl))
                  (case cit12 => kernel_rfl)
                  (case cjt12 => kernel_rfl)
                  case hit12 =>
                    refine ow_load 30 _ rfl _ _ rfl _ (run_load_arr HX.out Tryz.underlying30 rfl info26) ?_
                    refine hK1 _ _ hS (fun hS1 => ?_)
                    clear hK1 K1
                    refine held_one (i := 4) (oi := ?ot4) (by kernel_rfl) ?at4 ?ct4 (fun K4 hK4 => ?_)
                    (case at4 => (simp only [List.getElem?_toArray, List.getElem?_cons_zero, List.getElem?_cons_succ]; rfl))
                    (case ct4 => kernel_rfl)
                    go_simp
                    refine (rprf_any seed 0 0 0 idx n c 1 (HOK.out 1 (by decide)) _ (hS1.tabs HT4.out HF.out.1 HF.out.2)).mono ?_
                    rintro e y4 ⟨rfl, hd⟩
                    have HX := Lib.hid (HX.out.under hd)
                    refine hK4 _ _ (hS1.keep hd) (fun hS4 => ?_)
                    clear hS1 hd hK4 K4
                    refine held_one (i := 5) (oi := ?ot5) (by kernel_rfl) ?at5 ?ct5 (fun K5 hK5 => ?_)
                    (case at5 => (simp only [List.getElem?_toArray, List.getElem?_cons_zero, List.getElem?_cons_succ]; rfl))
                    (case ct5 => kernel_rfl)
                    go_simp
                    refine (rxor_any xq (prfF seed 0 0 0 idx n c 1) _).mono ?_
                    rintro e y5 ⟨rfl, hd⟩
                    refine hK5 _ _ (hS4.keep hd) (fun hS5 => ?_)
                    clear hS4 hd hK5 K5
                    refine held_one (i := 6) (oi := ?ot6) (by kernel_rfl) ?at6 ?ct6 (fun K6 hK6 => ?_)
                    (case at6 => (simp only [List.getElem?_toArray, List.getElem?_cons_zero, List.getElem?_cons_succ]; rfl))
                    (case ct6 => kernel_rfl)
                    go_simp
                    refine (rf_any (prfF seed 0 0 0 idx n c 0) (xorF xq (prfF seed 0 0 0 idx n c 1)) _).mono ?_
                    rintro e y6 ⟨rfl, hd⟩
                    refine hK6 _ _ (hS5.keep hd) (fun hS6 => ?_)
                    clear hS5 hd hK6 K6
                    refine held_one (i := 7) (oi := ?ot7) (by kernel_rfl) ?at7 ?ct7 (fun K7 hK7 => ?_)
                    (case at7 => (simp only [List.getElem?_toArray, List.getElem?_cons_zero, List.getElem?_cons_succ]; rfl))
                    (case ct7 => kernel_rfl)
                    obtain ⟨f0, hf0⟩ := hS6.res
                    refine ow_store 30 _ _ rfl _ rfl _ rfl (run_store_arr hf0 (bys (stepF seed idx n c xq)) info26 (bys_one _ _)) ?_
                    refine hK7 _ _ (hS6.put _) (fun hS7 => ?_)
                    clear hK7 K7
                    refine wpAnyH_done (by kernel_rfl) ?_ _
                    have HN : Hid (RL w seed (stepF seed idx n c xq) _) := Lib.hid ⟨hf0.row _, hS7.arr HL4.out.1.s (by omega), hS7.arr HL4.out.1.r (by omega), hS7.below HL4.out.1.b (Nat.le_refl _)⟩
                    clear hf0 hS7 HX
                    go_wp2
                    go_roundw
                    case rel => exact ⟨q + 1, by omega, by have := HC.out; congr 1; omega, Lib.hid (by rw [chF_succ, ← HQ.out, ← HC.out]; exact HN.out)⟩
                    case measure => have := HC.out; simp [intOf]; omega
                  case hjt12 =>
                    go_simp
                    refine (rprf_any seed 0 0 0 idx n c 1 (HOK.out 1 (by decide)) _ (hS.tabs HT4.out HF.out.1 HF.out.2)).mono ?_
                    rintro e y4 ⟨rfl, hd⟩
                    have HX := Lib.hid (HX.out.under hd)
                    refine hK4 _ _ (hS.keep hd) (fun hS4 => ?_)
                    clear hS hd hK4 K4
                    refine held_one (i := 1) (oi := ?ot8) (by kernel_rfl) ?at8 ?ct8 (fun K1 hK1 => ?_)
                    (case at8 => (simp only [List.getElem?_toArray, List.getElem?_cons_zero, List.getElem?_cons_succ]; rfl))
                    (case ct8 => kernel_rfl)
                    refine ow_load 30 _ rfl _ _ rfl _ (run_load_arr HX.out Tryz.underlying30 rfl info26) ?_
                    refine hK1 _ _ hS4 (fun hS1 => ?_)
                    clear hK1 K1
                    refine held_one (i := 5) (oi := ?ot9) (by kernel_rfl) ?at9 ?ct9 (fun K5 hK5 => ?_)
                    (case at9 => (simp only [List.getElem?_toArray, List.getElem?_cons_zero, List.getElem?_cons_succ]; rfl))
                    (case ct9 => kernel_rfl)
                    go_simp
                    refine (rxor_any xq (prfF seed 0 0 0 idx n c 1) _).mono ?_
                    rintro e y5 ⟨rfl, hd⟩
                    refine hK5 _ _ (hS1.keep hd) (fun hS5 => ?_)
                    clear hS1 hd hK5 K5
                    refine held_one (i := 6) (oi := ?ot10) (by kernel_rfl) ?at10 ?ct10 (fun K6 hK6 => ?_)
                    (case at10 => (simp only [List.getElem?_toArray, List.getElem?_cons_zero, List.getElem?_cons_succ]; rfl))
                    (case ct10 => kernel_rfl)
                    go_simp
                    refine (rf_any (prfF seed 0 0 0 idx n c 0) (xorF xq (prfF seed 0 0 0 idx n c 1)) _).mono ?_
                    rintro e y6 ⟨rfl, hd⟩
                    refine hK6 _ _ (hS5.keep hd) (fun hS6 => ?_)
                    clear hS5 hd hK6 K6
                    refine held_one (i := 7) (oi := ?ot11) (by kernel_rfl) ?at11 ?ct11 (fun K7 hK7 => ?_)
                    (case at11 => (simp only [List.getElem?_toArray, List.getElem?_cons_zero, List.getElem?_cons_succ]; rfl))
                    (case ct11 => kernel_rfl)
                    obtain ⟨f0, hf0⟩ := hS6.res
                    refine ow_store 30 _ _ rfl _ rfl _ rfl (run_store_arr hf0 (bys (stepF seed idx n c xq)) info26 (bys_one _ _)) ?_
                    refine hK7 _ _ (hS6.put _) (fun hS7 => ?_)
                    clear hK7 K7
                    refine wpAnyH_done (by kernel_rfl) ?_ _
                    have HN : Hid (RL w seed (stepF seed idx n c xq) _) := Lib.hid ⟨hf0.row _, hS7.arr HL4.out.1.s (by omega), hS7.arr HL4.out.1.r (by omega), hS7.below HL4.out.1.b (Nat.le_refl _)⟩
                    clear hf0 hS7 HX
                    go_wp2
                    go_roundw
                    case rel => exact ⟨q + 1, by omega, by have := HC.out; congr 1; omega, Lib.hid (by rw [chF_succ, ← HQ.out, ← HC.out]; exact HN.out)⟩
                    case measure => have := HC.out; simp [intOf]; omega
                · obtain rfl : q = k := by omega
                  have hltI : ¬ (((i + q : Nat) : Int) < (i : Int) + (q : Int)) := by omega
                  go_wp2_with (first
                    | ((with_reducible show wpList _ _ _ (Oper.mk _ (.load _ _) _ _ _ _ :: _) _ _); refine wl_load rfl 30 _ rfl _ rfl _ (run_load_arr hR.out.x Tryz.underlying30 rfl info26) ?_)
                    | ((with_reducible show wpList _ _ _ (Oper.mk _ (.store _ _ _) _ _ _ _ :: _) _ _); refine wl_store rfl 30 _ _ rfl _ rfl _ rfl (run_store_arr hR.out.r (bys (chF seed idx n x i q)) info26 (bys_one _ _)) ?_))
                  exact bodyPost_ret (results_cell1 rfl _ _ _ rfl (run_load_arr (hR.out.r.row _) Tryz.underlying30 rfl info26)) rfl ⟨by rw [HCH.out], below_row hR.out.b (by omega) _⟩
end Go.Proofs.YtfeiplaiekbdkaaGreatDoor
/- The reference's Ends. -/
namespace Go.Proofs.YtfeiplaiekbdkaaGreatDoor
open Go.RowKit
attribute [local go_sem ↓ high] zeroV26 zeroV67

theorem rsecretN_any (secret : Nat → UInt8) (idx : Nat) (hidx : idx < 4294967296) (n : Nat) (hn : n ≤ 66) (w : World) (hT : Tabs w) :
    Calls Tryz.prog 55 #[.agg (vec 32 (bys secret)), .int .u32 (idx : Int), .int .i64 (n : Int)] w fun e w' => e = .returned (.agg (vec 32 (bys (prfF secret 0 0 0 idx n 0 0)))) ∧ Below w.heap.size w w' := by
  have h := rsecret_any secret idx hidx (n : Int) w hT
  rw [secretF_nat secret idx n hn] at h
  exact h
theorem rchainN_any (x : Nat → UInt8) (i k : Nat) (seed : Nat → UInt8) (idx : Nat) (hidx : idx < 4294967296) (n : Nat) (hn : n ≤ 66) (hik : i + k ≤ 15) (w : World) (hT : Tabs w) :
    Calls Tryz.prog 52 #[.agg (vec 32 (bys x)), .int .i64 (i : Int), .int .i64 (k : Int), .agg (vec 32 (bys seed)), .int .u32 (idx : Int), .int .i64 (n : Int)] w fun e w' => e = .returned (.agg (vec 32 (bys (chF seed idx n x i k)))) ∧ Below w.heap.size w w' := by
  have h := rchain_any x (i : Int) (k : Int) seed idx hidx (n : Int) (by omega) (by omega) w hT
  rw [chainF_nat x i k seed idx n hn hik] at h
  exact h
/-- The ends of the first k chains. -/
def endsK (secret seed : Nat → UInt8) (idx : Nat) (d : Nat → Nat) (k : Nat) : List Nd := (List.range k).map fun i => chF seed idx i (prfF secret 0 0 0 idx i 0 0) 0 (d i)
theorem endsK_succ (secret seed : Nat → UInt8) (idx : Nat) (d : Nat → Nat) (k : Nat) : endsK secret seed idx d (k + 1) = endsK secret seed idx d k ++ [chF seed idx k (prfF secret 0 0 0 idx k 0 0) 0 (d k)] := by simp [endsK, List.range_succ]
theorem endsF_length (secret seed : Nat → UInt8) (idx : Nat) (d : Nat → Nat) : (endsF secret seed idx d).length = 67 := by simp [endsF]
theorem below_drewV (V Y : World) (h : VS V Y) : VS V Y.drew := ⟨h.1, h.2, h.3, h.4, h.5⟩

set_option maxHeartbeats 1000000 in
set_option maxRecDepth 100000 in
theorem rends_any (secret seed : Nat → UInt8) (idx : Nat) (hidx : idx < 4294967296) (d : Nat → Nat) (hd15 : ∀ i, d i ≤ 15) (g : Nat) (w : World) (hg : Arr w g 88 67 (ints d)) (hT : Tabs w) :
    Calls Tryz.prog 28 #[.agg (vec 32 (bys secret)), .agg (vec 32 (bys seed)), .int .u32 (idx : Int), .slice (some ⟨g, 0, none⟩) 67 67] w fun e W' => ∃ v, e = .returned v ∧ OwnN W' w.heap.size v (endsF secret seed idx d) ∧ Below w.heap.size w W' := by
  obtain ⟨V, hV⟩ : ∃ V, V = (w.alloc (.cells (vec 32 (bys secret)) 30)).alloc (.cells (vec 32 (bys seed)) 30) := ⟨_, rfl⟩
  have h1 : Arr V w.heap.size 30 32 (bys secret) := by rw [hV]; exact (Arr.newAt _ _ _ _ (by simp)).alloc _
  have h2 : Arr V (w.heap.size + 1) 30 32 (bys seed) := by rw [hV]; exact Arr.newAt _ _ _ _ (by simp)
  have hB : Below w.heap.size w V := by rw [hV]; exact (((Below.refl _ _).alloc (by simp <;> omega) _).alloc (by simp <;> omega) _)
  have HA := Lib.hid (And.intro h1 (And.intro h2 (And.intro hB (tabs_below hT hB))))
  have HG := Lib.hid (hg.under hB)
  have HW := Lib.hid hV
  clear hV h1 h2 hB hT hg
  go_enter Tryz.func28, Tryz.ntmps28
  go_upto_region 1 with fail
  rw [← HW.out]
  clear HW
  go_wp2
  go_loopw [9, 10] (fun v i W => ∃ k : Nat, k ≤ 67 ∧ i = .int .i64 k ∧ Hid (W.ownsRow V.heap.size 30 32 v k (cellsN (endsK secret seed idx d k)) ∧ VS V W)) (fun _ i _ => 67 - (intOf i).toNat)
  case atStart => exact ⟨0, Nat.zero_le _, rfl, Lib.hid ⟨World.ownsRow_nil _ _ _ _, Below.refl _ _⟩⟩
  case round =>
    obtain ⟨k, hk, rfl, hR⟩ := hrel
    by_cases hlt : k < 67
    · have hn : k ≤ 66 := by omega
      have HR : Hid (wr.drew.ownsRow V.heap.size 30 32 _ k (cellsN (endsK secret seed idx d k))) := Lib.hid hR.out.1
      have HS := Lib.hid (below_drewV V wr hR.out.2)
      have hc := (HG.out.under hR.out.2).cell (i := k) hlt
      unfold ints at hc
      have h15 : 0 + d k ≤ 15 := by have := hd15 k; omega
      have hadd : (⟨g, 0, none⟩ : Addr).add k = ⟨g, k, none⟩ := by unfold Addr.add; by_cases h0 : k = 0 <;> simp [h0]
      clear hR
      go_upto_region 8 with fail
      refine wp_region_held_drew (S := fun Y => VS V Y) (by kernel_rfl) HS.out (fun hS => ?_)
      (refine held_take (i := 0) (oi := ?ot1) (v := ?vt1) ?at1 (by kernel_rfl) (by kernel_rfl) (by kernel_rfl) ?bt1 ?ct1 ?dt1 (by assumption) ?rt1; (case at1 => (simp only [List.getElem?_toArray, List.getElem?_cons_zero]; rfl)); (case bt1 => exact fun _ _ _ h => h); (case ct1 => kernel_rfl); (case dt1 => (intro W hW; (try dsimp only at hW); go_split_ands; go_simp; (try with_reducible rfl))); (case' rt1 => simp only [Act.put, List.setIfInBounds_toArray, List.set_cons_zero, List.set_cons_succ]))
      (refine held_take (i := 1) (oi := ?ot2) (v := .agg (vec 32 (bys secret))) ?at2 (by kernel_rfl) (by kernel_rfl) (by kernel_rfl) ?bt2 ?ct2 ?dt2 (by assumption) ?rt2; (case at2 => (simp only [List.getElem?_toArray, List.getElem?_cons_zero, List.getElem?_cons_succ]; rfl)); (case bt2 => exact fun _ _ _ h => h); (case ct2 => kernel_rfl); (case dt2 => (intro W hW; exact exec_load 30 _ rfl _ rfl _ (run_load_arr (HA.out.1.under hW) Tryz.underlying30 rfl info26))); (case' rt2 => simp only [Act.put, List.setIfInBounds_toArray, List.set_cons_zero, List.set_cons_succ]))
      (refine held_take (i := 2) (oi := ?ot3) (v := ?vt3) ?at3 (by kernel_rfl) (by kernel_rfl) (by kernel_rfl) ?bt3 ?ct3 ?dt3 (by assumption) ?rt3; (case at3 => (simp only [List.getElem?_toArray, List.getElem?_cons_zero, List.getElem?_cons_succ]; rfl)); (case bt3 => exact fun _ _ _ h => h); (case ct3 => kernel_rfl); (case dt3 => (intro W hW; (try dsimp only at hW); go_split_ands; go_simp; (try with_reducible rfl))); (case' rt3 => simp only [Act.put, List.setIfInBounds_toArray, List.set_cons_zero, List.set_cons_succ]))
      (refine held_take (i := 3) (oi := ?ot4) (v := ?vt4) ?at4 (by kernel_rfl) (by kernel_rfl) (by kernel_rfl) ?bt4 ?ct4 ?dt4 (by assumption) ?rt4; (case at4 => (simp only [List.getElem?_toArray, List.getElem?_cons_zero, List.getElem?_cons_succ]; rfl)); (case bt4 => exact fun _ _ _ h => h); (case ct4 => kernel_rfl); (case dt4 => (intro W hW; (try dsimp only at hW); go_split_ands; go_simp; (try with_reducible rfl))); (case' rt4 => simp only [Act.put, List.setIfInBounds_toArray, List.set_cons_zero, List.set_cons_succ]))
      (refine held_take (i := 5) (oi := ?ot5) (v := ?vt5) ?at5 (by kernel_rfl) (by kernel_rfl) (by kernel_rfl) ?bt5 ?ct5 ?dt5 (by assumption) ?rt5; (case at5 => (simp only [List.getElem?_toArray, List.getElem?_cons_zero, List.getElem?_cons_succ]; rfl)); (case bt5 => exact fun _ _ _ h => h); (case ct5 => kernel_rfl); (case dt5 => (intro W hW; (try dsimp only at hW); go_split_ands; go_simp; (try with_reducible rfl))); (case' rt5 => simp only [Act.put, List.setIfInBounds_toArray, List.set_cons_zero, List.set_cons_succ]))
      (refine held_take (i := 6) (oi := ?ot6) (v := .agg (vec 32 (bys seed))) ?at6 (by kernel_rfl) (by kernel_rfl) (by kernel_rfl) ?bt6 ?ct6 ?dt6 (by assumption) ?rt6; (case at6 => (simp only [List.getElem?_toArray, List.getElem?_cons_zero, List.getElem?_cons_succ]; rfl)); (case bt6 => exact fun _ _ _ h => h); (case ct6 => kernel_rfl); (case dt6 => (intro W hW; exact exec_load 30 _ rfl _ rfl _ (run_load_arr (HA.out.2.1.under hW) Tryz.underlying30 rfl info26))); (case' rt6 => simp only [Act.put, List.setIfInBounds_toArray, List.set_cons_zero, List.set_cons_succ]))
      (refine held_take (i := 7) (oi := ?ot7) (v := ?vt7) ?at7 (by kernel_rfl) (by kernel_rfl) (by kernel_rfl) ?bt7 ?ct7 ?dt7 (by assumption) ?rt7; (case at7 => (simp only [List.getElem?_toArray, List.getElem?_cons_zero, List.getElem?_cons_succ]; rfl)); (case bt7 => exact fun _ _ _ h => h); (case ct7 => kernel_rfl); (case dt7 => (intro W hW; (try dsimp only at hW); go_split_ands; go_simp; (try with_reducible rfl))); (case' rt7 => simp only [Act.put, List.setIfInBounds_toArray, List.set_cons_zero, List.set_cons_succ]))
      (refine held_take (i := 8) (oi := ?ot8) (v := ?vt8) ?at8 (by kernel_rfl) (by kernel_rfl) (by kernel_rfl) ?bt8 ?ct8 ?dt8 (by assumption) ?rt8; (case at8 => (simp only [List.getElem?_toArray, List.getElem?_cons_zero, List.getElem?_cons_succ]; rfl)); (case bt8 => exact fun _ _ _ h => h); (case ct8 => kernel_rfl); (case dt8 => (intro W hW; (try dsimp only at hW); go_split_ands; go_simp; (try with_reducible rfl))); (case' rt8 => simp only [Act.put, List.setIfInBounds_toArray, List.set_cons_zero, List.set_cons_succ]))
      refine held_one (i := 4) (oi := ?ot9) (by kernel_rfl) ?at9 ?ct9 (fun K4 hK4 => ?_)
      (case at9 => (simp only [List.getElem?_toArray, List.getElem?_cons_zero, List.getElem?_cons_succ]; rfl))
      (case ct9 => kernel_rfl)
      go_simp
      refine (rsecretN_any secret idx hidx k hn _ (tabs_below HA.out.2.2.2 hS)).mono ?_
      rintro e y4 ⟨rfl, hd⟩
      have HR := Lib.hid (ownsN_below HR.out hd)
      refine hK4 _ _ (hS.keep hd) (fun hS4 => ?_)
      clear hS hd hK4 K4
      refine held_one (i := 9) (oi := ?ot10) (by kernel_rfl) ?at10 ?ct10 (fun K9 hK9 => ?_)
      (case at10 => (simp only [List.getElem?_toArray, List.getElem?_cons_zero, List.getElem?_cons_succ]; rfl))
      (case ct10 => kernel_rfl)
      go_simp
      refine (rchainN_any (prfF secret 0 0 0 idx k 0 0) 0 (d k) seed idx hidx k hn h15 _ (tabs_below HA.out.2.2.2 hS4)).mono ?_
      rintro e y9c ⟨rfl, hd⟩
      have HR := Lib.hid (ownsN_below HR.out hd)
      refine hK9 _ _ (hS4.keep hd) (fun hS9 => ?_)
      clear hS4 hd hK9 K9
      refine held_one (i := 10) (oi := ?ot11) (by kernel_rfl) ?at11 ?ct11 (fun K10 hK10 => ?_)
      (case at11 => (simp only [List.getElem?_toArray, List.getElem?_cons_zero, List.getElem?_cons_succ]; rfl))
      (case ct11 => kernel_rfl)
      refine ow_build1 _ rfl (chF seed idx k (prfF secret 0 0 0 idx k 0 0) 0 (d k)) rfl ?_
      refine hK10 _ _ (hS9.keep ((Below.refl _ _).alloc (Nat.le_refl _) _)) (fun hS10 => ?_)
      clear hK10 K10
      refine held_one (i := 11) (oi := ?ot12) (by kernel_rfl) ?at12 ?ct12 (fun K11 hK11 => ?_)
      (case at12 => (simp only [List.getElem?_toArray, List.getElem?_cons_zero, List.getElem?_cons_succ]; rfl))
      (case ct12 => kernel_rfl)
      obtain ⟨v9, y9, hr9, hown9, hg9⟩ := app_own (HR.out.alloc (.cells (vec 32 (bys (chF seed idx k (prfF secret 0 0 0 idx k 0 0) 0 (d k)))) 30)) (Arr.new y9c 30 32 (bys (chF seed idx k (prfF secret 0 0 0 idx k 0 0) 0 (d k)))) (by omega) (show Below _ _ _ from hS10).size 31
      have hbl9 : VS V y9 := Below.grown hS10 hg9 (show Below _ _ _ from hS10).size (fun q hq => ((HR.out.alloc (.cells (vec 32 (bys (chF seed idx k (prfF secret 0 0 0 idx k 0 0) 0 (d k)))) 30)).lt q hq).1)
      refine Lib.wp_append_run _ _ _ _ _ rfl _ _ rfl rfl _ _ hr9 ?_
      refine hK11 _ _ hbl9 (fun hS11 => ?_)
      have HN := Lib.hid (And.intro hown9 hbl9)
      clear hK11 K11 hr9 hown9 hg9 hbl9
      (refine held_take (i := 12) (oi := ?ot13) (v := ?vt13) ?at13 (by kernel_rfl) (by kernel_rfl) (by kernel_rfl) ?bt13 ?ct13 ?dt13 (by assumption) ?rt13; (case at13 => (simp only [List.getElem?_toArray, List.getElem?_cons_zero, List.getElem?_cons_succ]; rfl)); (case bt13 => exact fun _ _ _ h => h); (case ct13 => kernel_rfl); (case dt13 => (intro W hW; (try dsimp only at hW); go_split_ands; go_simp; (try with_reducible rfl))); (case' rt13 => simp only [Act.put, List.setIfInBounds_toArray, List.set_cons_zero, List.set_cons_succ]))
      refine wpAnyH_done (by kernel_rfl) ?_ _
      go_wp2
      go_roundw
      case rel => exact ⟨k + 1, by omega, by simp, Lib.hid ⟨by rw [endsK_succ, cellsN_snoc]; exact HN.out.1, HN.out.2⟩⟩
      case measure => simp [intOf]; omega
    · obtain rfl : k = 67 := by omega
      go_wp2
      go_ret
      refine ⟨_, rfl, ?_, hR.out.2.below0 HA.out.2.2.1⟩
      have h := hR.out.1
      refine OwnN.low (base := V.heap.size) ?_ HA.out.2.2.1.size
      unfold OwnN
      rw [endsF_length]
      exact h

set_option maxHeartbeats 1000000 in
set_option maxRecDepth 100000 in
theorem rends_nil (secret seed : Nat → UInt8) (idx : Nat) (hidx : idx < 4294967296) (w : World) (hT : Tabs w) :
    Calls Tryz.prog 28 #[.agg (vec 32 (bys secret)), .agg (vec 32 (bys seed)), .int .u32 (idx : Int), .slice none 0 0] w fun e W' => ∃ v, e = .returned v ∧ OwnN W' w.heap.size v (endsF secret seed idx d15) ∧ Below w.heap.size w W' := by
  obtain ⟨V, hV⟩ : ∃ V, V = (w.alloc (.cells (vec 32 (bys secret)) 30)).alloc (.cells (vec 32 (bys seed)) 30) := ⟨_, rfl⟩
  have h1 : Arr V w.heap.size 30 32 (bys secret) := by rw [hV]; exact (Arr.newAt _ _ _ _ (by simp)).alloc _
  have h2 : Arr V (w.heap.size + 1) 30 32 (bys seed) := by rw [hV]; exact Arr.newAt _ _ _ _ (by simp)
  have hB : Below w.heap.size w V := by rw [hV]; exact (((Below.refl _ _).alloc (by simp <;> omega) _).alloc (by simp <;> omega) _)
  have HA := Lib.hid (And.intro h1 (And.intro h2 (And.intro hB (tabs_below hT hB))))
  have HW := Lib.hid hV
  clear hV h1 h2 hB hT
  go_enter Tryz.func28, Tryz.ntmps28
  go_upto_region 1 with fail
  rw [← HW.out]
  clear HW
  go_wp2
  go_loopw [9, 10] (fun v i W => ∃ k : Nat, k ≤ 67 ∧ i = .int .i64 k ∧ Hid (W.ownsRow V.heap.size 30 32 v k (cellsN (endsK secret seed idx d15 k)) ∧ VS V W)) (fun _ i _ => 67 - (intOf i).toNat)
  case atStart => exact ⟨0, Nat.zero_le _, rfl, Lib.hid ⟨World.ownsRow_nil _ _ _ _, Below.refl _ _⟩⟩
  case round =>
    obtain ⟨k, hk, rfl, hR⟩ := hrel
    by_cases hlt : k < 67
    · have hn : k ≤ 66 := by omega
      have HR : Hid (wr.drew.ownsRow V.heap.size 30 32 _ k (cellsN (endsK secret seed idx d15 k))) := Lib.hid hR.out.1
      have HS := Lib.hid (below_drewV V wr hR.out.2)
      have h15 : 0 + d15 k ≤ 15 := Nat.le_refl 15
      have ht : decide ((k : Int) < 0) = false := by simp
      clear hR
      go_upto_region 8 with fail
      refine wp_region_held_drew (S := fun Y => VS V Y) (by kernel_rfl) HS.out (fun hS => ?_)
      (refine held_take (i := 0) (oi := ?ot14) (v := ?vt14) ?at14 (by kernel_rfl) (by kernel_rfl) (by kernel_rfl) ?bt14 ?ct14 ?dt14 (by assumption) ?rt14; (case at14 => (simp only [List.getElem?_toArray, List.getElem?_cons_zero]; rfl)); (case bt14 => exact fun _ _ _ h => h); (case ct14 => kernel_rfl); (case dt14 => (intro W hW; (try dsimp only at hW); go_split_ands; go_simp; (try with_reducible rfl))); (case' rt14 => simp only [Act.put, List.setIfInBounds_toArray, List.set_cons_zero, List.set_cons_succ]))
      (refine held_take (i := 1) (oi := ?ot15) (v := .agg (vec 32 (bys secret))) ?at15 (by kernel_rfl) (by kernel_rfl) (by kernel_rfl) ?bt15 ?ct15 ?dt15 (by assumption) ?rt15; (case at15 => (simp only [List.getElem?_toArray, List.getElem?_cons_zero, List.getElem?_cons_succ]; rfl)); (case bt15 => exact fun _ _ _ h => h); (case ct15 => kernel_rfl); (case dt15 => (intro W hW; exact exec_load 30 _ rfl _ rfl _ (run_load_arr (HA.out.1.under hW) Tryz.underlying30 rfl info26))); (case' rt15 => simp only [Act.put, List.setIfInBounds_toArray, List.set_cons_zero, List.set_cons_succ]))
      (refine held_take (i := 2) (oi := ?ot16) (v := ?vt16) ?at16 (by kernel_rfl) (by kernel_rfl) (by kernel_rfl) ?bt16 ?ct16 ?dt16 (by assumption) ?rt16; (case at16 => (simp only [List.getElem?_toArray, List.getElem?_cons_zero, List.getElem?_cons_succ]; rfl)); (case bt16 => exact fun _ _ _ h => h); (case ct16 => kernel_rfl); (case dt16 => (intro W hW; (try dsimp only at hW); go_split_ands; go_simp; (try with_reducible rfl))); (case' rt16 => simp only [Act.put, List.setIfInBounds_toArray, List.set_cons_zero, List.set_cons_succ]))
      (refine held_take (i := 3) (oi := ?ot17) (v := ?vt17) ?at17 (by kernel_rfl) (by kernel_rfl) (by kernel_rfl) ?bt17 ?ct17 ?dt17 (by assumption) ?rt17; (case at17 => (simp only [List.getElem?_toArray, List.getElem?_cons_zero, List.getElem?_cons_succ]; rfl)); (case bt17 => exact fun _ _ _ h => h); (case ct17 => kernel_rfl); (case dt17 => (intro W hW; (try dsimp only at hW); go_split_ands; go_simp; (try with_reducible rfl))); (case' rt17 => simp only [Act.put, List.setIfInBounds_toArray, List.set_cons_zero, List.set_cons_succ]))
      (refine held_take (i := 5) (oi := ?ot18) (v := ?vt18) ?at18 (by kernel_rfl) (by kernel_rfl) (by kernel_rfl) ?bt18 ?ct18 ?dt18 (by assumption) ?rt18; (case at18 => (simp only [List.getElem?_toArray, List.getElem?_cons_zero, List.getElem?_cons_succ]; rfl)); (case bt18 => exact fun _ _ _ h => h); (case ct18 => kernel_rfl); (case dt18 => (intro W hW; (try dsimp only at hW); go_split_ands; go_simp; (try with_reducible rfl))); (case' rt18 => simp only [Act.put, List.setIfInBounds_toArray, List.set_cons_zero, List.set_cons_succ]))
      (refine held_take (i := 6) (oi := ?ot19) (v := .agg (vec 32 (bys seed))) ?at19 (by kernel_rfl) (by kernel_rfl) (by kernel_rfl) ?bt19 ?ct19 ?dt19 (by assumption) ?rt19; (case at19 => (simp only [List.getElem?_toArray, List.getElem?_cons_zero, List.getElem?_cons_succ]; rfl)); (case bt19 => exact fun _ _ _ h => h); (case ct19 => kernel_rfl); (case dt19 => (intro W hW; exact exec_load 30 _ rfl _ rfl _ (run_load_arr (HA.out.2.1.under hW) Tryz.underlying30 rfl info26))); (case' rt19 => simp only [Act.put, List.setIfInBounds_toArray, List.set_cons_zero, List.set_cons_succ]))
      (refine held_take (i := 7) (oi := ?ot20) (v := ?vt20) ?at20 (by kernel_rfl) (by kernel_rfl) (by kernel_rfl) ?bt20 ?ct20 ?dt20 (by assumption) ?rt20; (case at20 => (simp only [List.getElem?_toArray, List.getElem?_cons_zero, List.getElem?_cons_succ]; rfl)); (case bt20 => exact fun _ _ _ h => h); (case ct20 => kernel_rfl); (case dt20 => (intro W hW; (try dsimp only at hW); go_split_ands; go_simp; (try with_reducible rfl))); (case' rt20 => simp only [Act.put, List.setIfInBounds_toArray, List.set_cons_zero, List.set_cons_succ]))
      (refine held_take (i := 8) (oi := ?ot21) (v := ?vt21) ?at21 (by kernel_rfl) (by kernel_rfl) (by kernel_rfl) ?bt21 ?ct21 ?dt21 (by assumption) ?rt21; (case at21 => (simp only [List.getElem?_toArray, List.getElem?_cons_zero, List.getElem?_cons_succ]; rfl)); (case bt21 => exact fun _ _ _ h => h); (case ct21 => kernel_rfl); (case dt21 => (intro W hW; (try dsimp only at hW); go_split_ands; go_simp; (try with_reducible rfl))); (case' rt21 => simp only [Act.put, List.setIfInBounds_toArray, List.set_cons_zero, List.set_cons_succ]))
      refine held_one (i := 4) (oi := ?ot22) (by kernel_rfl) ?at22 ?ct22 (fun K4 hK4 => ?_)
      (case at22 => (simp only [List.getElem?_toArray, List.getElem?_cons_zero, List.getElem?_cons_succ]; rfl))
      (case ct22 => kernel_rfl)
      go_simp
      refine (rsecretN_any secret idx hidx k hn _ (tabs_below HA.out.2.2.2 hS)).mono ?_
      rintro e y4 ⟨rfl, hd⟩
      have HR := Lib.hid (ownsN_below HR.out hd)
      refine hK4 _ _ (hS.keep hd) (fun hS4 => ?_)
      clear hS hd hK4 K4
      refine held_one (i := 9) (oi := ?ot23) (by kernel_rfl) ?at23 ?ct23 (fun K9 hK9 => ?_)
      (case at23 => (simp only [List.getElem?_toArray, List.getElem?_cons_zero, List.getElem?_cons_succ]; rfl))
      (case ct23 => kernel_rfl)
      go_simp
      refine (rchainN_any (prfF secret 0 0 0 idx k 0 0) 0 (d15 k) seed idx hidx k hn h15 _ (tabs_below HA.out.2.2.2 hS4)).mono ?_
      rintro e y9c ⟨rfl, hd⟩
      have HR := Lib.hid (ownsN_below HR.out hd)
      refine hK9 _ _ (hS4.keep hd) (fun hS9 => ?_)
      clear hS4 hd hK9 K9
      refine held_one (i := 10) (oi := ?ot24) (by kernel_rfl) ?at24 ?ct24 (fun K10 hK10 => ?_)
      (case at24 => (simp only [List.getElem?_toArray, List.getElem?_cons_zero, List.getElem?_cons_succ]; rfl))
      (case ct24 => kernel_rfl)
      refine ow_build1 _ rfl (chF seed idx k (prfF secret 0 0 0 idx k 0 0) 0 (d15 k)) rfl ?_
      refine hK10 _ _ (hS9.keep ((Below.refl _ _).alloc (Nat.le_refl _) _)) (fun hS10 => ?_)
      clear hK10 K10
      refine held_one (i := 11) (oi := ?ot25) (by kernel_rfl) ?at25 ?ct25 (fun K11 hK11 => ?_)
      (case at25 => (simp only [List.getElem?_toArray, List.getElem?_cons_zero, List.getElem?_cons_succ]; rfl))
      (case ct25 => kernel_rfl)
      obtain ⟨v9, y9, hr9, hown9, hg9⟩ := app_own (HR.out.alloc (.cells (vec 32 (bys (chF seed idx k (prfF secret 0 0 0 idx k 0 0) 0 (d15 k)))) 30)) (Arr.new y9c 30 32 (bys (chF seed idx k (prfF secret 0 0 0 idx k 0 0) 0 (d15 k)))) (by omega) (show Below _ _ _ from hS10).size 31
      have hbl9 : VS V y9 := Below.grown hS10 hg9 (show Below _ _ _ from hS10).size (fun q hq => ((HR.out.alloc (.cells (vec 32 (bys (chF seed idx k (prfF secret 0 0 0 idx k 0 0) 0 (d15 k)))) 30)).lt q hq).1)
      refine Lib.wp_append_run _ _ _ _ _ rfl _ _ rfl rfl _ _ hr9 ?_
      refine hK11 _ _ hbl9 (fun hS11 => ?_)
      have HN := Lib.hid (And.intro hown9 hbl9)
      clear hK11 K11 hr9 hown9 hg9 hbl9
      (refine held_take (i := 12) (oi := ?ot26) (v := ?vt26) ?at26 (by kernel_rfl) (by kernel_rfl) (by kernel_rfl) ?bt26 ?ct26 ?dt26 (by assumption) ?rt26; (case at26 => (simp only [List.getElem?_toArray, List.getElem?_cons_zero, List.getElem?_cons_succ]; rfl)); (case bt26 => exact fun _ _ _ h => h); (case ct26 => kernel_rfl); (case dt26 => (intro W hW; (try dsimp only at hW); go_split_ands; go_simp; (try with_reducible rfl))); (case' rt26 => simp only [Act.put, List.setIfInBounds_toArray, List.set_cons_zero, List.set_cons_succ]))
      refine wpAnyH_done (by kernel_rfl) ?_ _
      go_wp2
      go_roundw
      case rel => exact ⟨k + 1, by omega, by simp, Lib.hid ⟨by rw [endsK_succ, cellsN_snoc]; exact HN.out.1, HN.out.2⟩⟩
      case measure => simp [intOf]; omega
    · obtain rfl : k = 67 := by omega
      go_wp2
      go_ret
      refine ⟨_, rfl, ?_, hR.out.2.below0 HA.out.2.2.1⟩
      have h := hR.out.1
      refine OwnN.low (base := V.heap.size) ?_ HA.out.2.2.1.size
      unfold OwnN
      rw [endsF_length]
      exact h

end Go.Proofs.YtfeiplaiekbdkaaGreatDoor
/- The reference's Public. -/
namespace Go.Proofs.YtfeiplaiekbdkaaGreatDoor
open Go.RowKit
attribute [local go_sem ↓ high] zeroV26 zeroV67

/-- The first k nodes of the key that a signature leads to. -/
def pubK (sig : List Nd) (m seed : Nat → UInt8) (idx : Nat) (k : Nat) : List Nd := (List.range k).map fun i => chF seed idx i (sig.getD i zb) (digN m i) (15 - digN m i)
theorem pubK_succ (sig : List Nd) (m seed : Nat → UInt8) (idx : Nat) (k : Nat) : pubK sig m seed idx (k + 1) = pubK sig m seed idx k ++ [chF seed idx k (sig.getD k zb) (digN m k) (15 - digN m k)] := by simp [pubK, List.range_succ]
theorem publicF_length (sig : List Nd) (m seed : Nat → UInt8) (idx : Nat) : (publicF sig m seed idx).length = 67 := by simp [publicF]
set_option maxHeartbeats 1000000 in
set_option maxRecDepth 100000 in
theorem rpublic67_any (A : Option Addr) (cap : Nat) (sig : List Nd) (hl : sig.length = 67) (m seed : Nat → UInt8) (idx : Nat) (hidx : idx < 4294967296) (w : World) (hr : NRow w w.heap.size A sig) (hT : Tabs w) :
    Calls Tryz.prog 23 #[.slice A 67 cap, .agg (vec 32 (bys m)), .agg (vec 32 (bys seed)), .int .u32 (idx : Int)] w fun e W' => ∃ v, e = .returned v ∧ OwnN W' w.heap.size v (publicF sig m seed idx) ∧ Below w.heap.size w W' := by
  obtain ⟨V0, hV0⟩ : ∃ V, V = (w.alloc (.cells (vec 32 (bys m)) 30)).alloc (.cells (vec 32 (bys seed)) 30) := ⟨_, rfl⟩
  have h1 : Arr V0 w.heap.size 30 32 (bys m) := by rw [hV0]; exact (Arr.newAt _ _ _ _ (by simp)).alloc _
  have h2 : Arr V0 (w.heap.size + 1) 30 32 (bys seed) := by rw [hV0]; exact Arr.newAt _ _ _ _ (by simp)
  have hB : Below w.heap.size w V0 := by rw [hV0]; exact (((Below.refl _ _).alloc (by simp <;> omega) _).alloc (by simp <;> omega) _)
  have H0 := Lib.hid (And.intro h1 (And.intro h2 (And.intro hB (And.intro hr hT))))
  have HW := Lib.hid hV0
  clear hV0 h1 h2 hB hr hT
  go_enter Tryz.func23, Tryz.ntmps23
  go_upto_region 1 with fail
  rw [← HW.out]
  clear HW
  go_upto_region 4 with (first
    | ((with_reducible show wpList _ _ _ (Oper.mk _ (.load 30 _) _ _ _ _ :: _) _ _); refine wl_load rfl 30 _ rfl _ rfl _ (run_load_arr H0.out.1 Tryz.underlying30 rfl info26) ?_)
    | (go_at_call 51; refine (rdigits_any m _).mono ?_; rintro e w1 ⟨rfl, hd⟩; have H1 := Lib.hid hd; clear hd)
    | ((with_reducible show wpList _ _ _ (Oper.mk _ (.store _ _ _) _ _ _ _ :: _) _ _); refine wl_store rfl 88 _ _ rfl _ rfl _ rfl (run_store_arr (Arr.new w1 _ _ _) (ints (digN m)) info67 (ints_one _ _)) ?_))
  obtain ⟨g, hg⟩ : ∃ g, g = w1.heap.size := ⟨_, rfl⟩
  obtain ⟨V, hV⟩ : ∃ V, V = (w1.alloc (.cells (vec 67 (ints z67)) 88)).setRow w1.heap.size (vec 67 (ints (digN m))) := ⟨_, rfl⟩
  have hD : Arr V g 88 67 (ints (digN m)) := by rw [hV, hg]; exact (Arr.new w1 _ _ _).row _
  have hb : Below V0.heap.size V0 V := by rw [hV]; exact below_row (H1.out.alloc H1.out.size _) H1.out.size _
  have hB := H0.out.2.2.1.trans (hb.mono H0.out.2.2.1.size)
  have hT := tabs_below H0.out.2.2.2.2 hB
  have hr := (H0.out.2.2.2.1.below hB).wide hB.size
  rw [← hV, ← hg]
  have HA := Lib.hid (And.intro (H0.out.2.1.under hb) (And.intro hD (And.intro hB (And.intro hr hT))))
  clear hV hg hD hb hB hT hr H1 H0
  go_wp2
  go_loopw [10, 19] (fun v i W => ∃ k : Nat, k ≤ 67 ∧ i = .int .i64 k ∧ Hid (W.ownsRow V.heap.size 30 32 v k (cellsN (pubK sig m seed idx k)) ∧ VS V W)) (fun _ i _ => 67 - (intOf i).toNat)
  case atStart => exact ⟨0, Nat.zero_le _, rfl, Lib.hid ⟨World.ownsRow_nil _ _ _ _, Below.refl _ _⟩⟩
  case round =>
    obtain ⟨k, hk, rfl, hR⟩ := hrel
    by_cases hlt : k < 67
    · have hn : k ≤ 66 := by omega
      have HR : Hid (wr.drew.ownsRow V.heap.size 30 32 _ k (cellsN (pubK sig m seed idx k))) := Lib.hid hR.out.1
      have HS := Lib.hid (below_drewV V wr hR.out.2)
      have h15 := digN_le m k
      have hst : digN m k + (15 - digN m k) ≤ 15 := by omega
      have hwn : IntKind.i64.wrap (15 - (digN m k : Int)) = ((15 - digN m k : Nat) : Int) := by rw [IntKind.wrap_i64]; omega
      obtain ⟨a, p, rfl, hp, hpb, hcells⟩ := HA.out.2.2.2.1.at (show k < sig.length by omega)
      obtain ⟨x, hx⟩ : ∃ x, x = sig[k] := ⟨_, rfl⟩
      have hgx : sig.getD k zb = x := by rw [List.getD_eq_getElem?_getD, List.getElem?_eq_getElem (show k < sig.length by omega), hx]; rfl
      rw [← hx] at hcells
      have HC := Lib.hid (And.intro hcells hgx)
      clear hR hcells hx hgx
      go_upto_region 8 with fail
      refine wp_region_held_drew (S := fun Y => VS V Y) (by kernel_rfl) HS.out (fun hS => ?_)
      (refine held_take (i := 0) (oi := ?ot27) (v := ?vt27) ?at27 (by kernel_rfl) (by kernel_rfl) (by kernel_rfl) ?bt27 ?ct27 ?dt27 (by assumption) ?rt27; (case at27 => (simp only [List.getElem?_toArray, List.getElem?_cons_zero]; rfl)); (case bt27 => exact fun _ _ _ h => h); (case ct27 => kernel_rfl); (case dt27 => (intro W hW; (try dsimp only at hW); go_split_ands; go_simp; (try with_reducible rfl))); (case' rt27 => simp only [Act.put, List.setIfInBounds_toArray, List.set_cons_zero, List.set_cons_succ]))
      (refine held_take (i := 1) (oi := ?ot28) (v := ?vt28) ?at28 (by kernel_rfl) (by kernel_rfl) (by kernel_rfl) ?bt28 ?ct28 ?dt28 (by assumption) ?rt28; (case at28 => (simp only [List.getElem?_toArray, List.getElem?_cons_zero, List.getElem?_cons_succ]; rfl)); (case bt28 => exact fun _ _ _ h => h); (case ct28 => kernel_rfl); (case dt28 => (intro W hW; (try dsimp only at hW); go_split_ands; go_simp; (try with_reducible rfl))); (case' rt28 => simp only [Act.put, List.setIfInBounds_toArray, List.set_cons_zero, List.set_cons_succ]))
      (refine held_take (i := 2) (oi := ?ot29) (v := ?vt29) ?at29 (by kernel_rfl) (by kernel_rfl) (by kernel_rfl) ?bt29 ?ct29 ?dt29 (by assumption) ?rt29; (case at29 => (simp only [List.getElem?_toArray, List.getElem?_cons_zero, List.getElem?_cons_succ]; rfl)); (case bt29 => exact fun _ _ _ h => h); (case ct29 => kernel_rfl); (case dt29 => (intro W hW; (try dsimp only at hW); go_split_ands; go_simp; (try with_reducible rfl))); (case' rt29 => simp only [Act.put, List.setIfInBounds_toArray, List.set_cons_zero, List.set_cons_succ]))
      (refine held_take (i := 3) (oi := ?ot30) (v := .pointer (some p)) ?at30 (by kernel_rfl) (by kernel_rfl) (by kernel_rfl) ?bt30 ?ct30 ?dt30 (by assumption) ?rt30; (case at30 => (simp only [List.getElem?_toArray, List.getElem?_cons_zero, List.getElem?_cons_succ]; rfl)); (case bt30 => exact fun _ _ _ h => h); (case ct30 => kernel_rfl); (case dt30 => (intro W hW; clear hW; go_simp; (try with_reducible rfl); (try (intro h; omega)))); (case' rt30 => simp only [Act.put, List.setIfInBounds_toArray, List.set_cons_zero, List.set_cons_succ]))
      (refine held_take (i := 4) (oi := ?ot31) (v := .agg (vec 32 (bys x))) ?at31 (by kernel_rfl) (by kernel_rfl) (by kernel_rfl) ?bt31 ?ct31 ?dt31 (by assumption) ?rt31; (case at31 => (simp only [List.getElem?_toArray, List.getElem?_cons_zero, List.getElem?_cons_succ]; rfl)); (case bt31 => exact fun _ _ _ h => h); (case ct31 => kernel_rfl); (case dt31 => (intro W hW; exact exec_load_p 30 _ rfl p rfl _ (load_p fun i hi => (Below.cell hW (p := p.add i) (by rw [addr_add_block]; exact hpb)).trans (HC.out.1 i hi)))); (case' rt31 => simp only [Act.put, List.setIfInBounds_toArray, List.set_cons_zero, List.set_cons_succ]))
      (refine held_take (i := 5) (oi := ?ot32) (v := ?vt32) ?at32 (by kernel_rfl) (by kernel_rfl) (by kernel_rfl) ?bt32 ?ct32 ?dt32 (by assumption) ?rt32; (case at32 => (simp only [List.getElem?_toArray, List.getElem?_cons_zero, List.getElem?_cons_succ]; rfl)); (case bt32 => exact fun _ _ _ h => h); (case ct32 => kernel_rfl); (case dt32 => (intro W hW; (try dsimp only at hW); go_split_ands; go_simp; (try with_reducible rfl))); (case' rt32 => simp only [Act.put, List.setIfInBounds_toArray, List.set_cons_zero, List.set_cons_succ]))
      (refine held_take (i := 6) (oi := ?ot33) (v := .pointer (some ⟨g, k, none⟩)) ?at33 (by kernel_rfl) (by kernel_rfl) (by kernel_rfl) ?bt33 ?ct33 ?dt33 (by assumption) ?rt33; (case at33 => (simp only [List.getElem?_toArray, List.getElem?_cons_zero, List.getElem?_cons_succ]; rfl)); (case bt33 => exact fun _ _ _ h => h); (case ct33 => kernel_rfl); (case dt33 => (intro W hW; clear hW; go_simp; (try with_reducible rfl); (try (intro h; omega)))); (case' rt33 => simp only [Act.put, List.setIfInBounds_toArray, List.set_cons_zero, List.set_cons_succ]))
      (refine held_take (i := 7) (oi := ?ot34) (v := .int .i64 (digN m k : Int)) ?at34 (by kernel_rfl) (by kernel_rfl) (by kernel_rfl) ?bt34 ?ct34 ?dt34 (by assumption) ?rt34; (case at34 => (simp only [List.getElem?_toArray, List.getElem?_cons_zero, List.getElem?_cons_succ]; rfl)); (case bt34 => exact fun _ _ _ h => h); (case ct34 => kernel_rfl); (case dt34 => (intro W hW; have hc : W.cell? ⟨g, k, none⟩ = some (.int .i64 (digN m k : Int)) := (HA.out.2.1.under hW).cell hlt; clear hW; go_simp; (try with_reducible rfl))); (case' rt34 => simp only [Act.put, List.setIfInBounds_toArray, List.set_cons_zero, List.set_cons_succ]))
      (refine held_take (i := 8) (oi := ?ot35) (v := ?vt35) ?at35 (by kernel_rfl) (by kernel_rfl) (by kernel_rfl) ?bt35 ?ct35 ?dt35 (by assumption) ?rt35; (case at35 => (simp only [List.getElem?_toArray, List.getElem?_cons_zero, List.getElem?_cons_succ]; rfl)); (case bt35 => exact fun _ _ _ h => h); (case ct35 => kernel_rfl); (case dt35 => (intro W hW; (try dsimp only at hW); go_split_ands; go_simp; (try with_reducible rfl))); (case' rt35 => simp only [Act.put, List.setIfInBounds_toArray, List.set_cons_zero, List.set_cons_succ]))
      (refine held_take (i := 9) (oi := ?ot36) (v := .pointer (some ⟨g, k, none⟩)) ?at36 (by kernel_rfl) (by kernel_rfl) (by kernel_rfl) ?bt36 ?ct36 ?dt36 (by assumption) ?rt36; (case at36 => (simp only [List.getElem?_toArray, List.getElem?_cons_zero, List.getElem?_cons_succ]; rfl)); (case bt36 => exact fun _ _ _ h => h); (case ct36 => kernel_rfl); (case dt36 => (intro W hW; clear hW; go_simp; (try with_reducible rfl); (try (intro h; omega)))); (case' rt36 => simp only [Act.put, List.setIfInBounds_toArray, List.set_cons_zero, List.set_cons_succ]))
      (refine held_take (i := 10) (oi := ?ot37) (v := .int .i64 (digN m k : Int)) ?at37 (by kernel_rfl) (by kernel_rfl) (by kernel_rfl) ?bt37 ?ct37 ?dt37 (by assumption) ?rt37; (case at37 => (simp only [List.getElem?_toArray, List.getElem?_cons_zero, List.getElem?_cons_succ]; rfl)); (case bt37 => exact fun _ _ _ h => h); (case ct37 => kernel_rfl); (case dt37 => (intro W hW; have hc : W.cell? ⟨g, k, none⟩ = some (.int .i64 (digN m k : Int)) := (HA.out.2.1.under hW).cell hlt; clear hW; go_simp; (try with_reducible rfl))); (case' rt37 => simp only [Act.put, List.setIfInBounds_toArray, List.set_cons_zero, List.set_cons_succ]))
      (refine held_take (i := 11) (oi := ?ot38) (v := ?vt38) ?at38 (by kernel_rfl) (by kernel_rfl) (by kernel_rfl) ?bt38 ?ct38 ?dt38 (by assumption) ?rt38; (case at38 => (simp only [List.getElem?_toArray, List.getElem?_cons_zero, List.getElem?_cons_succ]; rfl)); (case bt38 => exact fun _ _ _ h => h); (case ct38 => kernel_rfl); (case dt38 => (intro W hW; (try dsimp only at hW); go_split_ands; go_simp; (try with_reducible rfl))); (case' rt38 => simp only [Act.put, List.setIfInBounds_toArray, List.set_cons_zero, List.set_cons_succ]))
      (refine held_take (i := 12) (oi := ?ot39) (v := .agg (vec 32 (bys seed))) ?at39 (by kernel_rfl) (by kernel_rfl) (by kernel_rfl) ?bt39 ?ct39 ?dt39 (by assumption) ?rt39; (case at39 => (simp only [List.getElem?_toArray, List.getElem?_cons_zero, List.getElem?_cons_succ]; rfl)); (case bt39 => exact fun _ _ _ h => h); (case ct39 => kernel_rfl); (case dt39 => (intro W hW; exact exec_load 30 _ rfl _ rfl _ (run_load_arr (HA.out.1.under hW) Tryz.underlying30 rfl info26))); (case' rt39 => simp only [Act.put, List.setIfInBounds_toArray, List.set_cons_zero, List.set_cons_succ]))
      (refine held_take (i := 13) (oi := ?ot40) (v := ?vt40) ?at40 (by kernel_rfl) (by kernel_rfl) (by kernel_rfl) ?bt40 ?ct40 ?dt40 (by assumption) ?rt40; (case at40 => (simp only [List.getElem?_toArray, List.getElem?_cons_zero, List.getElem?_cons_succ]; rfl)); (case bt40 => exact fun _ _ _ h => h); (case ct40 => kernel_rfl); (case dt40 => (intro W hW; (try dsimp only at hW); go_split_ands; go_simp; (try with_reducible rfl))); (case' rt40 => simp only [Act.put, List.setIfInBounds_toArray, List.set_cons_zero, List.set_cons_succ]))
      (refine held_take (i := 14) (oi := ?ot41) (v := ?vt41) ?at41 (by kernel_rfl) (by kernel_rfl) (by kernel_rfl) ?bt41 ?ct41 ?dt41 (by assumption) ?rt41; (case at41 => (simp only [List.getElem?_toArray, List.getElem?_cons_zero, List.getElem?_cons_succ]; rfl)); (case bt41 => exact fun _ _ _ h => h); (case ct41 => kernel_rfl); (case dt41 => (intro W hW; (try dsimp only at hW); go_split_ands; go_simp; (try with_reducible rfl))); (case' rt41 => simp only [Act.put, List.setIfInBounds_toArray, List.set_cons_zero, List.set_cons_succ]))
      refine held_one (i := 15) (oi := ?ot42) (by kernel_rfl) ?at42 ?ct42 (fun K15 hK15 => ?_)
      (case at42 => (simp only [List.getElem?_toArray, List.getElem?_cons_zero, List.getElem?_cons_succ]; rfl))
      (case ct42 => kernel_rfl)
      go_simp
      refine (rchainN_any x (digN m k) (15 - digN m k) seed idx hidx k hn hst _ (tabs_below HA.out.2.2.2.2 hS)).mono ?_
      rintro e y9c ⟨rfl, hd⟩
      have HR := Lib.hid (ownsN_below HR.out hd)
      refine hK15 _ _ (hS.keep hd) (fun hS15 => ?_)
      clear hS hd hK15 K15
      refine held_one (i := 16) (oi := ?ot43) (by kernel_rfl) ?at43 ?ct43 (fun K16 hK16 => ?_)
      (case at43 => (simp only [List.getElem?_toArray, List.getElem?_cons_zero, List.getElem?_cons_succ]; rfl))
      (case ct43 => kernel_rfl)
      refine ow_build1 _ rfl (chF seed idx k x (digN m k) (15 - digN m k)) rfl ?_
      refine hK16 _ _ (hS15.keep ((Below.refl _ _).alloc (Nat.le_refl _) _)) (fun hS16 => ?_)
      clear hK16 K16
      refine held_one (i := 17) (oi := ?ot44) (by kernel_rfl) ?at44 ?ct44 (fun K17 hK17 => ?_)
      (case at44 => (simp only [List.getElem?_toArray, List.getElem?_cons_zero, List.getElem?_cons_succ]; rfl))
      (case ct44 => kernel_rfl)
      obtain ⟨v9, y9, hr9, hown9, hg9⟩ := app_own (HR.out.alloc (.cells (vec 32 (bys (chF seed idx k x (digN m k) (15 - digN m k)))) 30)) (Arr.new y9c 30 32 (bys (chF seed idx k x (digN m k) (15 - digN m k)))) (by omega) (show Below _ _ _ from hS16).size 31
      have hbl9 : VS V y9 := Below.grown hS16 hg9 (show Below _ _ _ from hS16).size (fun q hq => ((HR.out.alloc (.cells (vec 32 (bys (chF seed idx k x (digN m k) (15 - digN m k)))) 30)).lt q hq).1)
      refine Lib.wp_append_run _ _ _ _ _ rfl _ _ rfl rfl _ _ hr9 ?_
      refine hK17 _ _ hbl9 (fun hS17 => ?_)
      have HN := Lib.hid (And.intro hown9 hbl9)
      clear hK17 K17 hr9 hown9 hg9 hbl9
      (refine held_take (i := 18) (oi := ?ot45) (v := ?vt45) ?at45 (by kernel_rfl) (by kernel_rfl) (by kernel_rfl) ?bt45 ?ct45 ?dt45 (by assumption) ?rt45; (case at45 => (simp only [List.getElem?_toArray, List.getElem?_cons_zero, List.getElem?_cons_succ]; rfl)); (case bt45 => exact fun _ _ _ h => h); (case ct45 => kernel_rfl); (case dt45 => (intro W hW; (try dsimp only at hW); go_split_ands; go_simp; (try with_reducible rfl))); (case' rt45 => simp only [Act.put, List.setIfInBounds_toArray, List.set_cons_zero, List.set_cons_succ]))
      refine wpAnyH_done (by kernel_rfl) ?_ _
      go_wp2
      go_roundw
      case rel => exact ⟨k + 1, by omega, by simp, Lib.hid ⟨by rw [pubK_succ, cellsN_snoc, HC.out.2]; exact HN.out.1, HN.out.2⟩⟩
      case measure => simp [intOf]; omega
    · obtain rfl : k = 67 := by omega
      go_wp2
      go_ret
      refine ⟨_, rfl, ?_, hR.out.2.below0 HA.out.2.2.1⟩
      have h := hR.out.1
      refine OwnN.low (base := V.heap.size) ?_ HA.out.2.2.1.size
      unfold OwnN
      rw [publicF_length]
      exact h

set_option maxHeartbeats 1000000 in
set_option maxRecDepth 100000 in
theorem rpublic_any (A : Option Addr) (cap : Nat) (sig : List Nd) (m seed : Nat → UInt8) (idx : Nat) (hidx : idx < 4294967296) (w : World) (hr : NRow w w.heap.size A sig) (hT : Tabs w) :
    Calls Tryz.prog 23 #[.slice A sig.length cap, .agg (vec 32 (bys m)), .agg (vec 32 (bys seed)), .int .u32 (idx : Int)] w fun e W' => ∃ v, e = .returned v ∧ OwnN W' w.heap.size v (publicD sig m seed idx) ∧ Below w.heap.size w W' := by
  by_cases hl : sig.length = 67
  · have h := rpublic67_any A cap sig hl m seed idx hidx w hr hT
    rw [show publicD sig m seed idx = publicF sig m seed idx from if_pos hl, hl]
    exact h
  · have HP : Hid (publicD sig m seed idx = []) := Lib.hid (if_neg hl)
    obtain ⟨V, hV⟩ : ∃ V, V = (w.alloc (.cells (vec 32 (bys m)) 30)).alloc (.cells (vec 32 (bys seed)) 30) := ⟨_, rfl⟩
    have hB : Below w.heap.size w V := by rw [hV]; exact (((Below.refl _ _).alloc (by simp <;> omega) _).alloc (by simp <;> omega) _)
    have HB := Lib.hid hB
    have HW := Lib.hid hV
    have t1 : ((sig.length : Int) == 67) = false := by simp; omega
    have t2 : ((sig.length : Int) != 67) = true := by simp; omega
    clear hV hB hr hT
    go_enter Tryz.func23, Tryz.ntmps23
    go_upto_region 1 with fail
    rw [← HW.out]
    clear HW
    go_wp2
    go_ret
    exact ⟨_, rfl, by rw [HP.out]; exact World.ownsRow_nil _ _ _ _, HB.out⟩
end Go.Proofs.YtfeiplaiekbdkaaGreatDoor
/- wots.Key. -/
namespace Go.Proofs.YtfeiplaiekbdkaaGreatDoor
open Go.RowKit
attribute [local go_sem ↓ high] zeroV26

set_option maxHeartbeats 1000000 in
set_option maxRecDepth 100000 in
theorem key_any (secret seed : Nat → UInt8) (idx : Nat) (hidx : idx < 4294967296) (w : World) (hT : Tabs w) :
    Calls Tryz.prog 26 #[.agg (vec 32 (bys secret)), .agg (vec 32 (bys seed)), .int .u32 (idx : Int)] w fun e W' => ∃ v, e = .returned v ∧ OwnN W' w.heap.size v (endsF secret seed idx d15) ∧ Below w.heap.size w W' := by
  obtain ⟨V, hV⟩ : ∃ V, V = (w.alloc (.cells (vec 32 (bys secret)) 30)).alloc (.cells (vec 32 (bys seed)) 30) := ⟨_, rfl⟩
  have hA0 : Arr V w.heap.size 30 32 (bys secret) := by rw [hV]; exact ((Arr.newAt _ _ _ _ (by simp)).alloc _)
  have hA1 : Arr V (w.heap.size + 1) 30 32 (bys seed) := by rw [hV]; exact (Arr.newAt _ _ _ _ (by simp))
  have hB : Below w.heap.size w V := by rw [hV]; exact (((Below.refl _ _).alloc (by simp <;> omega) _).alloc (by simp <;> omega) _)
  have hsz : w.heap.size < V.heap.size := by rw [hV]; simp <;> omega
  have HQ0 := Lib.hid hA0
  have HQ1 := Lib.hid hA1
  have HB := Lib.hid (And.intro hB (And.intro hT hsz))
  rw [← made_grow secret seed idx d15 d15_le]
  have HW := Lib.hid hV
  clear hV hB hT hsz hA0 hA1
  go_enter Tryz.func26, Tryz.ntmps26
  go_upto_region 1 with fail
  rw [← HW.out]
  clear HW
  refine wp_region_held_drew (S := fun Y => VS V Y) (by kernel_rfl) (VS.begin V) (fun hS => ?_)
  (refine held_take (i := 0) (oi := ?ot11) (v := .agg (vec 32 (bys secret))) ?at11 (by kernel_rfl) (by kernel_rfl) (by kernel_rfl) ?bt11 ?ct11 ?dt11 (by assumption) ?rt11; (case at11 => (simp only [List.getElem?_toArray, List.getElem?_cons_zero]; rfl)); (case bt11 => exact fun _ _ _ h => h); (case ct11 => kernel_rfl); (case dt11 => (intro W hW; exact exec_load 30 _ rfl _ rfl _ (run_load_arr (HQ0.out.under hW) Tryz.underlying30 rfl info26))); (case' rt11 => simp only [Act.put, List.setIfInBounds_toArray, List.set_cons_zero, List.set_cons_succ]))
  (refine held_take (i := 1) (oi := ?ot12) (v := .agg (vec 32 (bys seed))) ?at12 (by kernel_rfl) (by kernel_rfl) (by kernel_rfl) ?bt12 ?ct12 ?dt12 (by assumption) ?rt12; (case at12 => (simp only [List.getElem?_toArray, List.getElem?_cons_zero, List.getElem?_cons_succ]; rfl)); (case bt12 => exact fun _ _ _ h => h); (case ct12 => kernel_rfl); (case dt12 => (intro W hW; exact exec_load 30 _ rfl _ rfl _ (run_load_arr (HQ1.out.under hW) Tryz.underlying30 rfl info26))); (case' rt12 => simp only [Act.put, List.setIfInBounds_toArray, List.set_cons_zero, List.set_cons_succ]))
  (refine held_take (i := 2) (oi := ?ot13) (v := ?vt13) ?at13 (by kernel_rfl) (by kernel_rfl) (by kernel_rfl) ?bt13 ?ct13 ?dt13 (by assumption) ?rt13; (case at13 => (simp only [List.getElem?_toArray, List.getElem?_cons_zero, List.getElem?_cons_succ]; rfl)); (case bt13 => exact fun _ _ _ h => h); (case ct13 => kernel_rfl); (case dt13 => (intro W hW; (try dsimp only at hW); go_split_ands; go_simp; (try with_reducible rfl))); (case' rt13 => simp only [Act.put, List.setIfInBounds_toArray, List.set_cons_zero, List.set_cons_succ]))
  refine held_one (i := 3) (oi := ?ot14) (by kernel_rfl) ?at14 ?ct14 (fun K3 hK3 => ?_)
  (case at14 => (simp only [List.getElem?_toArray, List.getElem?_cons_zero, List.getElem?_cons_succ]; rfl))
  (case ct14 => kernel_rfl)
  go_simp
  refine (ends_any _).mono ?_
  rintro e y3 ⟨rfl, rfl⟩
  refine hK3 _ _ hS (fun hS3 => ?_)
  clear hK3 K3
  refine held_one (i := 4) (oi := ?ot15) (by kernel_rfl) ?at15 ?ct15 (fun K4 hK4 => ?_)
  (case at15 => (simp only [List.getElem?_toArray, List.getElem?_cons_zero, List.getElem?_cons_succ]; rfl))
  (case ct15 => kernel_rfl)
  go_simp
  refine (grow_any secret seed idx hidx 79 #[] (fun _ _ => rfl) (cds d15 d15_le 67) w.heap.size _ (Nat.lt_of_lt_of_le HB.out.2.2 (show Below _ _ _ from hS3).size) (fun _ => True) (ends_stops 9 (by decide) _ _) (tabs_below HB.out.2.1 (hS3.below0 HB.out.1))).mono ?_
  rintro e y4 ⟨v, rfl, ho, hd⟩
  have HO := Lib.hid (And.intro (ho.low (Nat.le_trans HB.out.1.size (show Below _ _ _ from hS3).size)) hd)
  clear ho
  refine hK4 _ _ (hS3.keep hd) (fun hS4 => ?_)
  clear hS3 hd hK4 K4
  (refine held_take (i := 5) (oi := ?ot16) (v := ?vt16) ?at16 (by kernel_rfl) (by kernel_rfl) (by kernel_rfl) ?bt16 ?ct16 ?dt16 (by assumption) ?rt16; (case at16 => (simp only [List.getElem?_toArray, List.getElem?_cons_zero, List.getElem?_cons_succ]; rfl)); (case bt16 => exact fun _ _ _ h => h); (case ct16 => kernel_rfl); (case dt16 => (intro W hW; (try dsimp only at hW); go_split_ands; go_simp; (try with_reducible rfl))); (case' rt16 => simp only [Act.put, List.setIfInBounds_toArray, List.set_cons_zero, List.set_cons_succ]))
  refine wpAnyH_done (by kernel_rfl) ?_ _
  go_wp2
  go_ret
  exact ⟨v, rfl, HO.out.1, hS4.below0 HB.out.1⟩
end Go.Proofs.YtfeiplaiekbdkaaGreatDoor
