/- prf.keys, its closure, prf.Rand, and the reference's. -/
import Derived.Test.YtfeiplaiekbdkaaGreatDoorXor
import Derived.Test.YtfeiplaiekbdkaaGreatDoorRPrf
import Derived.Test.YtfeiplaiekbdkaaGreatDoorPrfH
namespace Go.Proofs.YtfeiplaiekbdkaaGreatDoor
open Go.RowKit
attribute [local go_sem ↓ high] zeroV26

def randF (x y seed : Nat → UInt8) (l t k a b c : Nat) : Nat → UInt8 := hF (prfF seed l t k a b c 0) (xorF x (prfF seed l t k a b c 1)) (xorF y (prfF seed l t k a b c 2))
theorem AdOk.mask {l t k a b c m : Nat} (h : AdOk l t k a b c m) {n : Nat} (hn : n < 4294967296) : AdOk l t k a b c n := ⟨h.l, h.t, h.k, h.a, h.b, h.c, hn⟩
def keysV (g : Nat) : Value := .func (.func 116) #[] #[.pointer (some ⟨g, 0, none⟩), .pointer (some ⟨g + 1, 0, none⟩)]
set_option maxHeartbeats 400000 in
theorem keys_any (key : Nat → UInt8) (l t k a b c m : Nat) (w : World) :
    Calls Tryz.prog 104 #[.agg (vec 32 (bys key)), adV l t k a b c m] w fun e w' => e = .returned (keysV w.heap.size) ∧
      Arr w' w.heap.size 30 32 (bys key) ∧ Blk w' (w.heap.size + 1) 86 (adA l t k a b c m) ∧ Below w.heap.size w w' := by
  have hmf := make_func
  go_enter Tryz.func104, Tryz.ntmps104
  go_wp2
  go_ret
  exact ⟨rfl, (Arr.new w _ _ _).alloc _, Blk.new _ _ _ (by simp), ((Below.refl _ _).alloc (by simp) _).alloc (by simp) _⟩

set_option maxHeartbeats 1000000 in
set_option maxRecDepth 100000 in
theorem keyOf_any (key : Nat → UInt8) (l t k a b c m n : Nat) (hok : AdOk l t k a b c m) (hn : n < 4294967296) (g1 g2 : Nat) (w : World) (h1 : Arr w g1 30 32 (bys key)) (h2 : Blk w g2 86 (adA l t k a b c m)) (hT : Tabs w) :
    Calls Tryz.prog 116 #[.int .u32 (n : Int), .pointer (some ⟨g1, 0, none⟩), .pointer (some ⟨g2, 0, none⟩)] w fun e w' => e = .returned (.agg (vec 32 (bys (prfF key l t k a b c n)))) ∧ Below w.heap.size w w' := by
  obtain ⟨V, hV⟩ : ∃ V, V = w.alloc (.cells (vec 32 (bys zb)) 30) := ⟨_, rfl⟩
  have hR : Arr V w.heap.size 30 32 (bys zb) := by rw [hV]; exact Arr.new w _ _ _
  have hB : Below w.heap.size w V := by rw [hV]; exact (Below.refl _ _).alloc (Nat.le_refl _) _
  have hg1 := h1.lt
  have hg2 := h2.lt
  have HA := Lib.hid (Ahead.mk (r := w.heap.size) hB (tabs_below hT hB) (tabs_far hT (Nat.le_refl _)))
  have HK := Lib.hid (h1.under hB)
  have HD := Lib.hid (h2.under hB)
  have HR := Lib.hid hR
  have HO := Lib.hid (hok.mask hn)
  have HW := Lib.hid hV
  clear hV hR hB h1 h2 hT hok
  go_enter Tryz.func116, Tryz.ntmps116
  go_upto_region 1 with fail
  rw [← HW.out]
  clear HW
  refine wp_region_held_drew (S := fun Y => SR V w.heap.size Y) (by kernel_rfl) (SR.begin HR.out) (fun hS => ?_)
  (refine held_take (i := 0) (oi := ?ot1) (v := .agg (vec 32 (bys key))) ?at1 (by kernel_rfl) (by kernel_rfl) (by kernel_rfl) ?bt1 ?ct1 ?dt1 (by assumption) ?rt1; (case at1 => (simp only [List.getElem?_toArray, List.getElem?_cons_zero]; rfl)); (case bt1 => exact fun _ _ _ h => h); (case ct1 => kernel_rfl); (case dt1 => (intro W hW; exact exec_load 30 _ rfl _ rfl _ (run_load_arr (hW.arr HK.out (by omega)) Tryz.underlying30 rfl info26))); (case' rt1 => simp only [Act.put, List.setIfInBounds_toArray, List.set_cons_zero, List.set_cons_succ]))
  (refine held_take (i := 1) (oi := ?ot2) (v := adV l t k a b c m) ?at2 (by kernel_rfl) (by kernel_rfl) (by kernel_rfl) ?bt2 ?ct2 ?dt2 (by assumption) ?rt2; (case at2 => (simp only [List.getElem?_toArray, List.getElem?_cons_zero, List.getElem?_cons_succ]; rfl)); (case bt2 => exact fun _ _ _ h => h); (case ct2 => kernel_rfl); (case dt2 => (intro W hW; exact exec_load 86 _ rfl _ rfl _ ((hW.blk HD.out (by omega)).load Tryz.underlying86 rfl infoAd))); (case' rt2 => simp only [Act.put, List.setIfInBounds_toArray, List.set_cons_zero, List.set_cons_succ]))
  (refine held_take (i := 2) (oi := ?ot3) (v := ?vt3) ?at3 (by kernel_rfl) (by kernel_rfl) (by kernel_rfl) ?bt3 ?ct3 ?dt3 (by assumption) ?rt3; (case at3 => (simp only [List.getElem?_toArray, List.getElem?_cons_zero, List.getElem?_cons_succ]; rfl)); (case bt3 => exact fun _ _ _ h => h); (case ct3 => kernel_rfl); (case dt3 => (intro W hW; (try dsimp only at hW); go_split_ands; go_simp; (try with_reducible rfl))); (case' rt3 => simp only [Act.put, List.setIfInBounds_toArray, List.set_cons_zero, List.set_cons_succ]))
  refine held_one (i := 3) (oi := ?ot4) (by kernel_rfl) ?at4 ?ct4 (fun K3 hK3 => ?_)
  (case at4 => (simp only [List.getElem?_toArray, List.getElem?_cons_zero, List.getElem?_cons_succ]; rfl))
  (case ct4 => kernel_rfl)
  go_simp
  refine (masked_any l t k a b c m n _).mono ?_
  rintro e y3 ⟨rfl, hd⟩
  refine hK3 _ _ (hS.keep hd) (fun hS3 => ?_)
  clear hS hd hK3 K3
  refine held_one (i := 4) (oi := ?ot5) (by kernel_rfl) ?at5 ?ct5 (fun K4 hK4 => ?_)
  (case at5 => (simp only [List.getElem?_toArray, List.getElem?_cons_zero, List.getElem?_cons_succ]; rfl))
  (case ct5 => kernel_rfl)
  go_simp
  refine (prf_any key l t k a b c n HO.out _ (hS3.tabs HA.out.tabs HA.out.far.1 HA.out.far.2)).mono ?_
  rintro e y4 ⟨rfl, hd⟩
  refine hK4 _ _ (hS3.keep hd) (fun hS4 => ?_)
  clear hS3 hd hK4 K4
  refine held_one (i := 5) (oi := ?ot6) (by kernel_rfl) ?at6 ?ct6 (fun K5 hK5 => ?_)
  (case at6 => (simp only [List.getElem?_toArray, List.getElem?_cons_zero, List.getElem?_cons_succ]; rfl))
  (case ct6 => kernel_rfl)
  obtain ⟨f0, hf0⟩ := hS4.res
  refine ow_store 30 _ _ rfl _ rfl _ rfl (run_store_arr hf0 (bys (prfF key l t k a b c n)) info26 (bys_one _ _)) ?_
  refine hK5 _ _ (hS4.put _) (fun hS5 => ?_)
  clear hK5 K5
  refine wpAnyH_done (by kernel_rfl) ?_ _
  go_wp2
  refine bodyPost_ret (results_cell1 rfl _ _ _ rfl (run_load_arr (hf0.row _) Tryz.underlying30 rfl info26)) rfl ⟨rfl, hS5.below HA.out.below (Nat.le_refl _)⟩

set_option maxHeartbeats 1000000 in
set_option maxRecDepth 100000 in
theorem rand_any (x y seed : Nat → UInt8) (l t k a b c m : Nat) (hok : AdOk l t k a b c m) (w : World) (hT : Tabs w) :
    Calls Tryz.prog 87 #[.agg (vec 32 (bys x)), .agg (vec 32 (bys y)), .agg (vec 32 (bys seed)), adV l t k a b c m] w fun e w' => e = .returned (.agg (vec 32 (bys (randF x y seed l t k a b c)))) ∧ Below w.heap.size w w' := by
  obtain ⟨V, hV⟩ : ∃ V, V = ((((w.alloc (.cells (vec 32 (bys x)) 30)).alloc (.cells (vec 32 (bys y)) 30)).alloc (.cells (vec 32 (bys seed)) 30)).alloc (.cells (adA l t k a b c m) 86)).alloc (.cells (vec 32 (bys zb)) 30) := ⟨_, rfl⟩
  have hA0 : Arr V w.heap.size 30 32 (bys x) := by rw [hV]; exact (((((Arr.newAt _ _ _ _ (by simp)).alloc _).alloc _).alloc _).alloc _)
  have hA1 : Arr V (w.heap.size + 1) 30 32 (bys y) := by rw [hV]; exact ((((Arr.newAt _ _ _ _ (by simp)).alloc _).alloc _).alloc _)
  have hA2 : Arr V (w.heap.size + 2) 30 32 (bys seed) := by rw [hV]; exact (((Arr.newAt _ _ _ _ (by simp)).alloc _).alloc _)
  have hA3 : Blk V (w.heap.size + 3) 86 (adA l t k a b c m) := by rw [hV]; exact ((Blk.new _ _ _ (by simp)).alloc _)
  have hA4 : Arr V (w.heap.size + 4) 30 32 (bys zb) := by rw [hV]; exact (Arr.newAt _ _ _ _ (by simp))
  have hB : Below w.heap.size w V := by rw [hV]; exact ((((((Below.refl _ _).alloc (by simp <;> omega) _).alloc (by simp <;> omega) _).alloc (by simp <;> omega) _).alloc (by simp <;> omega) _).alloc (by simp <;> omega) _)
  have hsz : V.heap.size = w.heap.size + 5 := by rw [hV]; simp
  have HB1 := Lib.hid (And.intro hB (And.intro hT hok))
  have HA0 := Lib.hid hA0
  have HA1 := Lib.hid hA1
  have HA2 := Lib.hid hA2
  have HA3 := Lib.hid hA3
  have HA4 := Lib.hid hA4
  have HW := Lib.hid hV
  have HZ := Lib.hid hsz
  clear hV hB hsz hT hok hA0 hA1 hA2 hA3 hA4
  go_enter Tryz.func87, Tryz.ntmps87
  go_upto_region 1 with fail
  rw [← HW.out]
  clear HW
  go_upto_region 2 with (first
    | ((with_reducible show wpList _ _ _ (Oper.mk _ (.load 30 _) _ _ _ _ :: _) _ _); refine wl_load rfl 30 _ rfl _ rfl _ (run_load_arr HA2.out Tryz.underlying30 rfl info26) ?_)
    | ((with_reducible show wpList _ _ _ (Oper.mk _ (.load 86 _) _ _ _ _ :: _) _ _); refine wl_load rfl 86 _ rfl _ rfl _ (HA3.out.load Tryz.underlying86 rfl infoAd) ?_)
    | (go_at_call 104; refine (keys_any seed l t k a b c m _).mono ?_; rintro e w1 ⟨rfl, hk1, hk2, hd⟩; have H1 := Lib.hid (And.intro hk1 (And.intro hk2 hd)); clear hk1 hk2 hd))
  obtain ⟨g, hg⟩ : ∃ g, g = V.heap.size := ⟨_, rfl⟩
  have hBw : Below w.heap.size w w1 := HB1.out.1.trans (H1.out.2.2.mono HB1.out.1.size)
  have HA := Lib.hid (Ahead.mk (r := w.heap.size + 4) hBw (tabs_below HB1.out.2.1 hBw) (tabs_far HB1.out.2.1 (by omega)))
  have HX := Lib.hid (HA0.out.under H1.out.2.2)
  have HY := Lib.hid (HA1.out.under H1.out.2.2)
  have HR := Lib.hid (HA4.out.under H1.out.2.2)
  have HG := Lib.hid (And.intro (show w.heap.size + 4 < g by have := HZ.out; omega) HB1.out.2.2)
  have hk1 := H1.out.1
  have hk2 := H1.out.2.1
  rw [← hg] at hk1 hk2 ⊢
  have HK := Lib.hid (And.intro hk1 hk2)
  clear hBw hk1 hk2 hg H1 HA0 HA1 HA2 HA3 HA4 HZ HB1
  refine wp_region_held_drew (S := fun Y => SR w1 (w.heap.size + 4) Y) (by kernel_rfl) (SR.begin HR.out) (fun hS => ?_)
  (refine held_take (i := 0) (oi := ?ot7) (v := ?vt7) ?at7 (by kernel_rfl) (by kernel_rfl) (by kernel_rfl) ?bt7 ?ct7 ?dt7 (by assumption) ?rt7; (case at7 => (simp only [List.getElem?_toArray, List.getElem?_cons_zero]; rfl)); (case bt7 => exact fun _ _ _ h => h); (case ct7 => kernel_rfl); (case dt7 => (intro W hW; (try dsimp only at hW); go_split_ands; go_simp; (try with_reducible rfl))); (case' rt7 => simp only [Act.put, List.setIfInBounds_toArray, List.set_cons_zero, List.set_cons_succ]))
  (refine held_take (i := 2) (oi := ?ot8) (v := .agg (vec 32 (bys x))) ?at8 (by kernel_rfl) (by kernel_rfl) (by kernel_rfl) ?bt8 ?ct8 ?dt8 (by assumption) ?rt8; (case at8 => (simp only [List.getElem?_toArray, List.getElem?_cons_zero, List.getElem?_cons_succ]; rfl)); (case bt8 => exact fun _ _ _ h => h); (case ct8 => kernel_rfl); (case dt8 => (intro W hW; exact exec_load 30 _ rfl _ rfl _ (run_load_arr (hW.arr HX.out (by omega)) Tryz.underlying30 rfl info26))); (case' rt8 => simp only [Act.put, List.setIfInBounds_toArray, List.set_cons_zero, List.set_cons_succ]))
  (refine held_take (i := 3) (oi := ?ot9) (v := ?vt9) ?at9 (by kernel_rfl) (by kernel_rfl) (by kernel_rfl) ?bt9 ?ct9 ?dt9 (by assumption) ?rt9; (case at9 => (simp only [List.getElem?_toArray, List.getElem?_cons_zero, List.getElem?_cons_succ]; rfl)); (case bt9 => exact fun _ _ _ h => h); (case ct9 => kernel_rfl); (case dt9 => (intro W hW; (try dsimp only at hW); go_split_ands; go_simp; (try with_reducible rfl))); (case' rt9 => simp only [Act.put, List.setIfInBounds_toArray, List.set_cons_zero, List.set_cons_succ]))
  (refine held_take (i := 6) (oi := ?ot10) (v := .agg (vec 32 (bys y))) ?at10 (by kernel_rfl) (by kernel_rfl) (by kernel_rfl) ?bt10 ?ct10 ?dt10 (by assumption) ?rt10; (case at10 => (simp only [List.getElem?_toArray, List.getElem?_cons_zero, List.getElem?_cons_succ]; rfl)); (case bt10 => exact fun _ _ _ h => h); (case ct10 => kernel_rfl); (case dt10 => (intro W hW; exact exec_load 30 _ rfl _ rfl _ (run_load_arr (hW.arr HY.out (by omega)) Tryz.underlying30 rfl info26))); (case' rt10 => simp only [Act.put, List.setIfInBounds_toArray, List.set_cons_zero, List.set_cons_succ]))
  (refine held_take (i := 7) (oi := ?ot11) (v := ?vt11) ?at11 (by kernel_rfl) (by kernel_rfl) (by kernel_rfl) ?bt11 ?ct11 ?dt11 (by assumption) ?rt11; (case at11 => (simp only [List.getElem?_toArray, List.getElem?_cons_zero, List.getElem?_cons_succ]; rfl)); (case bt11 => exact fun _ _ _ h => h); (case ct11 => kernel_rfl); (case dt11 => (intro W hW; (try dsimp only at hW); go_split_ands; go_simp; (try with_reducible rfl))); (case' rt11 => simp only [Act.put, List.setIfInBounds_toArray, List.set_cons_zero, List.set_cons_succ]))
  refine held_one (i := 1) (oi := ?ot12) (by kernel_rfl) ?at12 ?ct12 (fun K1 hK1 => ?_)
  (case at12 => (simp only [List.getElem?_toArray, List.getElem?_cons_zero, List.getElem?_cons_succ]; rfl))
  (case ct12 => kernel_rfl)
  go_simp
  refine (keyOf_any seed l t k a b c m 0 HG.out.2 (by decide) g (g + 1) _ (hS.arr HK.out.1 (by have := HG.out.1; omega)) (hS.blk HK.out.2 (by have := HG.out.1; omega)) (hS.tabs HA.out.tabs HA.out.far.1 HA.out.far.2)).mono ?_
  rintro e y1 ⟨rfl, hd⟩
  refine hK1 _ _ (hS.keep hd) (fun hS1 => ?_)
  clear hS hd hK1 K1
  refine held_one (i := 4) (oi := ?ot13) (by kernel_rfl) ?at13 ?ct13 (fun K4 hK4 => ?_)
  (case at13 => (simp only [List.getElem?_toArray, List.getElem?_cons_zero, List.getElem?_cons_succ]; rfl))
  (case ct13 => kernel_rfl)
  go_simp
  refine (keyOf_any seed l t k a b c m 1 HG.out.2 (by decide) g (g + 1) _ (hS1.arr HK.out.1 (by have := HG.out.1; omega)) (hS1.blk HK.out.2 (by have := HG.out.1; omega)) (hS1.tabs HA.out.tabs HA.out.far.1 HA.out.far.2)).mono ?_
  rintro e y4 ⟨rfl, hd⟩
  refine hK4 _ _ (hS1.keep hd) (fun hS4 => ?_)
  clear hS1 hd hK4 K4
  refine held_one (i := 5) (oi := ?ot14) (by kernel_rfl) ?at14 ?ct14 (fun K5 hK5 => ?_)
  (case at14 => (simp only [List.getElem?_toArray, List.getElem?_cons_zero, List.getElem?_cons_succ]; rfl))
  (case ct14 => kernel_rfl)
  go_simp
  refine (xor_any x (prfF seed l t k a b c 1) _).mono ?_
  rintro e y5 ⟨rfl, hd⟩
  refine hK5 _ _ (hS4.keep hd) (fun hS5 => ?_)
  clear hS4 hd hK5 K5
  refine held_one (i := 8) (oi := ?ot15) (by kernel_rfl) ?at15 ?ct15 (fun K8 hK8 => ?_)
  (case at15 => (simp only [List.getElem?_toArray, List.getElem?_cons_zero, List.getElem?_cons_succ]; rfl))
  (case ct15 => kernel_rfl)
  go_simp
  refine (keyOf_any seed l t k a b c m 2 HG.out.2 (by decide) g (g + 1) _ (hS5.arr HK.out.1 (by have := HG.out.1; omega)) (hS5.blk HK.out.2 (by have := HG.out.1; omega)) (hS5.tabs HA.out.tabs HA.out.far.1 HA.out.far.2)).mono ?_
  rintro e y8 ⟨rfl, hd⟩
  refine hK8 _ _ (hS5.keep hd) (fun hS8 => ?_)
  clear hS5 hd hK8 K8
  refine held_one (i := 9) (oi := ?ot16) (by kernel_rfl) ?at16 ?ct16 (fun K9 hK9 => ?_)
  (case at16 => (simp only [List.getElem?_toArray, List.getElem?_cons_zero, List.getElem?_cons_succ]; rfl))
  (case ct16 => kernel_rfl)
  go_simp
  refine (xor_any y (prfF seed l t k a b c 2) _).mono ?_
  rintro e y9 ⟨rfl, hd⟩
  refine hK9 _ _ (hS8.keep hd) (fun hS9 => ?_)
  clear hS8 hd hK9 K9
  refine held_one (i := 10) (oi := ?ot17) (by kernel_rfl) ?at17 ?ct17 (fun K10 hK10 => ?_)
  (case at17 => (simp only [List.getElem?_toArray, List.getElem?_cons_zero, List.getElem?_cons_succ]; rfl))
  (case ct17 => kernel_rfl)
  go_simp
  refine (h_any (prfF seed l t k a b c 0) (xorF x (prfF seed l t k a b c 1)) (xorF y (prfF seed l t k a b c 2)) _ (hS9.tabs HA.out.tabs HA.out.far.1 HA.out.far.2)).mono ?_
  rintro e y10 ⟨rfl, hd⟩
  refine hK10 _ _ (hS9.keep hd) (fun hS10 => ?_)
  clear hS9 hd hK10 K10
  refine held_one (i := 11) (oi := ?ot18) (by kernel_rfl) ?at18 ?ct18 (fun K11 hK11 => ?_)
  (case at18 => (simp only [List.getElem?_toArray, List.getElem?_cons_zero, List.getElem?_cons_succ]; rfl))
  (case ct18 => kernel_rfl)
  obtain ⟨f0, hf0⟩ := hS10.res
  refine ow_store 30 _ _ rfl _ rfl _ rfl (run_store_arr hf0 (bys (randF x y seed l t k a b c)) info26 (bys_one _ _)) ?_
  refine hK11 _ _ (hS10.put _) (fun hS11 => ?_)
  clear hK11 K11
  refine wpAnyH_done (by kernel_rfl) ?_ _
  go_wp2
  refine bodyPost_ret (results_cell1 rfl _ _ _ rfl (run_load_arr (hf0.row _) Tryz.underlying30 rfl info26)) rfl ⟨rfl, hS11.below HA.out.below (by omega)⟩
end Go.Proofs.YtfeiplaiekbdkaaGreatDoor
