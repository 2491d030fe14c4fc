/- The walk of AdrsBack. -/
import Derived.Test.YtaopggcfaoabaaaOf
import Derived.Test.YtaopggcfaoabaaaLaw4B
namespace Go.Proofs.Ytaopggcfaoabaaa
open Go.RowKit

/-- What AdrsBack's region knows. -/
def S5 (w : World) (cs : Array Value) (f : Nat → UInt8) (Y : World) : Prop := Blk Y w.heap.size 25 cs ∧ Arr Y (w.heap.size + 1) 28 32 (bys f) ∧ Below w.heap.size w Y
theorem S5.keep {w : World} {cs : Array Value} {f : Nat → UInt8} {Y Z : World} (h : S5 w cs f Y) (hd : Below Y.heap.size Y Z) : S5 w cs f Z := ⟨h.1.under hd, h.2.1.under hd, h.2.2.trans (hd.mono h.2.2.size)⟩
theorem of_back (l t k a b c m : Nat) (hok : AdOk l t k a b c m) (w : World) :
    Calls Try.prog 10 #[.agg (vec 32 (bys (adB l t k a b c m)))] w fun e w' => e = .returned (adV l t k a b c m) ∧ Below w.heap.size w w' := by
  have h := of_any (adB l t k a b c m) w
  have e0 : wdN (adB l t k a b c m) 0 = l := wdN_adB l t k a b c m hok 0 (by decide)
  have e1 : wdN (adB l t k a b c m) 1 = t / 4294967296 := wdN_adB l t k a b c m hok 1 (by decide)
  have e2 : wdN (adB l t k a b c m) 2 = t % 4294967296 := wdN_adB l t k a b c m hok 2 (by decide)
  have e3 : wdN (adB l t k a b c m) 3 = k := wdN_adB l t k a b c m hok 3 (by decide)
  have e4 : wdN (adB l t k a b c m) 4 = a := wdN_adB l t k a b c m hok 4 (by decide)
  have e5 : wdN (adB l t k a b c m) 5 = b := wdN_adB l t k a b c m hok 5 (by decide)
  have e6 : wdN (adB l t k a b c m) 6 = c := wdN_adB l t k a b c m hok 6 (by decide)
  have e7 : wdN (adB l t k a b c m) 7 = m := wdN_adB l t k a b c m hok 7 (by decide)
  rw [e0, e1, e2, e3, e4, e5, e6, e7, show t / 4294967296 * 4294967296 + t % 4294967296 = t by omega] at h
  exact h
theorem bytes_back (f : Nat → UInt8) (y : Nat) (hy : Hid (y = wdN f 1 * 4294967296 + wdN f 2)) (w : World) :
    Calls Try.prog 8 #[adV (wdN f 0) y (wdN f 3) (wdN f 4) (wdN f 5) (wdN f 6) (wdN f 7)] w fun e w' => e = .returned (.agg (vec 32 (bys f))) ∧ Below w.heap.size w w' := by
  have h := bytes_any (wdN f 0) (wdN f 1 * 4294967296 + wdN f 2) (wdN f 3) (wdN f 4) (wdN f 5) (wdN f 6) (wdN f 7) (ok_wdN f) w
  have e : vec 32 (bys (adB (wdN f 0) (wdN f 1 * 4294967296 + wdN f 2) (wdN f 3) (wdN f 4) (wdN f 5) (wdN f 6) (wdN f 7))) = vec 32 (bys f) := vec_congr fun i hi => by simp only [bys]; rw [adB_wdN f i hi]
  rw [e, ← hy.out] at h
  exact h
set_option maxHeartbeats 1000000 in
set_option maxRecDepth 100000 in
theorem adrsBack_walk (l t k a b c m : Nat) (f : Nat → UInt8) (w : World) (hok : AdOk l t k a b c m) :
    Calls Try.prog 4 #[adV l t k a b c m, .agg (vec 32 (bys f))] w fun e w' => e = .returned (.bool true) ∧ Below w.heap.size w w' := by
  obtain ⟨W0, hW0⟩ : ∃ W0, W0 = (w.alloc (.cells (adA l t k a b c m) 25)).alloc (.cells (vec 32 (bys f)) 28) := ⟨_, rfl⟩
  have hI : S5 w (adA l t k a b c m) f W0 := by
    rw [hW0]
    exact ⟨(Blk.new w _ _ rfl).alloc _, Arr.newAt _ _ _ _ (by simp), ((Below.refl _ _).alloc (Nat.le_refl _) _).alloc (by simp) _⟩
  obtain ⟨y, hy⟩ : ∃ y, y = wdN f 1 * 4294967296 + wdN f 2 := ⟨_, rfl⟩
  have HY := Lib.hid hy
  have HI := Lib.hid hI
  have HO := Lib.hid hok
  have HW := Lib.hid hW0
  clear hI hok hW0 hy
  go_enter Try.func4, Try.ntmps4
  go_upto_region 1 with fail
  rw [← HW.out]
  clear HW
  go_upto_region 3 with (go_at_call 7; refine (awake4_any _).mono ?_; rintro e w1 ⟨rfl, hd⟩; have H1 := Lib.hid (HI.out.keep hd); clear hd)
  refine wp_region_held_drew (S := fun Y => S5 w (adA l t k a b c m) f Y) (by kernel_rfl) (H1.out.keep ⟨rfl, rfl, rfl, Nat.le_refl _, fun _ _ => rfl⟩) (fun hS => ?_)
  (refine held_take (i := 0) (oi := ?ot1) (v := adV l t k a b c m) ?at1 (by kernel_rfl) (by kernel_rfl) (by kernel_rfl) ?bt1 ?ct1 ?dt1 (by assumption) ?rt1; (case at1 => (simp only [List.getElem?_toArray, List.getElem?_cons_zero]; rfl)); (case bt1 => exact fun _ _ _ h => h); (case ct1 => kernel_rfl); (case dt1 => (intro W hW; exact exec_load 25 _ rfl _ rfl _ (hW.1.load Try.underlying25 rfl infoAd))); (case' rt1 => simp only [Act.put, List.setIfInBounds_toArray, List.set_cons_zero, List.set_cons_succ]))
  (refine held_take (i := 3) (oi := ?ot2) (v := adV l t k a b c m) ?at2 (by kernel_rfl) (by kernel_rfl) (by kernel_rfl) ?bt2 ?ct2 ?dt2 (by assumption) ?rt2; (case at2 => (simp only [List.getElem?_toArray, List.getElem?_cons_zero, List.getElem?_cons_succ]; rfl)); (case bt2 => exact fun _ _ _ h => h); (case ct2 => kernel_rfl); (case dt2 => (intro W hW; exact exec_load 25 _ rfl _ rfl _ (hW.1.load Try.underlying25 rfl infoAd))); (case' rt2 => simp only [Act.put, List.setIfInBounds_toArray, List.set_cons_zero, List.set_cons_succ]))
  refine held_one (i := 1) (oi := ?ot3) (by kernel_rfl) ?at3 ?ct3 (fun K1 hK1 => ?_)
  (case at3 => (simp only [List.getElem?_toArray, List.getElem?_cons_zero, List.getElem?_cons_succ]; rfl))
  (case ct3 => kernel_rfl)
  go_simp
  refine (bytes_any l t k a b c m HO.out _).mono ?_
  rintro e y1 ⟨rfl, hd⟩
  refine hK1 _ _ (hS.keep hd) (fun hS1 => ?_)
  clear hS hd hK1 K1
  refine held_one (i := 2) (oi := ?ot4) (by kernel_rfl) ?at4 ?ct4 (fun K2 hK2 => ?_)
  (case at4 => (simp only [List.getElem?_toArray, List.getElem?_cons_zero, List.getElem?_cons_succ]; rfl))
  (case ct4 => kernel_rfl)
  go_simp
  refine (of_back l t k a b c m HO.out _).mono ?_
  rintro e y2 ⟨rfl, hd⟩
  refine hK2 _ _ (hS1.keep hd) (fun hS2 => ?_)
  clear hS1 hd hK2 K2
  (refine held_take (i := 4) (oi := ?ot5) (v := .bool true) ?at5 (by kernel_rfl) (by kernel_rfl) (by kernel_rfl) ?bt5 ?ct5 ?dt5 (by assumption) ?rt5; (case at5 => (simp only [List.getElem?_toArray, List.getElem?_cons_zero, List.getElem?_cons_succ]; rfl)); (case bt5 => exact fun _ _ _ h => h); (case ct5 => kernel_rfl); (case dt5 => (intro W hW; exact exec_eqlAd _ _ _ rfl l t k a b c m rfl rfl W)); (case' rt5 => simp only [Act.put, List.setIfInBounds_toArray, List.set_cons_zero, List.set_cons_succ]))
  (refine held_take (i := 5) (oi := ?ot6) (v := ?vt6) ?at6 (by kernel_rfl) (by kernel_rfl) (by kernel_rfl) ?bt6 ?ct6 ?dt6 (by assumption) ?rt6; (case at6 => (simp only [List.getElem?_toArray, List.getElem?_cons_zero, List.getElem?_cons_succ]; rfl)); (case bt6 => exact fun _ _ _ h => h); (case ct6 => kernel_rfl); (case dt6 => (intro W hW; (try dsimp only at hW); go_split_ands; go_simp; (try with_reducible rfl))); (case' rt6 => simp only [Act.put, List.setIfInBounds_toArray, List.set_cons_zero, List.set_cons_succ]))
  (refine held_take (i := 6) (oi := ?ot7) (v := .agg (vec 32 (bys f))) ?at7 (by kernel_rfl) (by kernel_rfl) (by kernel_rfl) ?bt7 ?ct7 ?dt7 (by assumption) ?rt7; (case at7 => (simp only [List.getElem?_toArray, List.getElem?_cons_zero, List.getElem?_cons_succ]; rfl)); (case bt7 => exact fun _ _ _ h => h); (case ct7 => kernel_rfl); (case dt7 => (intro W hW; exact exec_load 28 _ rfl _ rfl _ (run_load_arr hW.2.1 Try.underlying28 rfl info26))); (case' rt7 => simp only [Act.put, List.setIfInBounds_toArray, List.set_cons_zero, List.set_cons_succ]))
  (refine held_take (i := 9) (oi := ?ot8) (v := .agg (vec 32 (bys f))) ?at8 (by kernel_rfl) (by kernel_rfl) (by kernel_rfl) ?bt8 ?ct8 ?dt8 (by assumption) ?rt8; (case at8 => (simp only [List.getElem?_toArray, List.getElem?_cons_zero, List.getElem?_cons_succ]; rfl)); (case bt8 => exact fun _ _ _ h => h); (case ct8 => kernel_rfl); (case dt8 => (intro W hW; exact exec_load 28 _ rfl _ rfl _ (run_load_arr hW.2.1 Try.underlying28 rfl info26))); (case' rt8 => simp only [Act.put, List.setIfInBounds_toArray, List.set_cons_zero, List.set_cons_succ]))
  refine held_one (i := 7) (oi := ?ot9) (by kernel_rfl) ?at9 ?ct9 (fun K7 hK7 => ?_)
  (case at9 => (simp only [List.getElem?_toArray, List.getElem?_cons_zero, List.getElem?_cons_succ]; rfl))
  (case ct9 => kernel_rfl)
  go_simp
  refine (of_y f y HY _).mono ?_
  rintro e y7 ⟨rfl, hd⟩
  refine hK7 _ _ (hS2.keep hd) (fun hS7 => ?_)
  clear hS2 hd hK7 K7
  refine held_one (i := 8) (oi := ?ot10) (by kernel_rfl) ?at10 ?ct10 (fun K8 hK8 => ?_)
  (case at10 => (simp only [List.getElem?_toArray, List.getElem?_cons_zero, List.getElem?_cons_succ]; rfl))
  (case ct10 => kernel_rfl)
  go_simp
  refine (bytes_back f y HY _).mono ?_
  rintro e y8 ⟨rfl, hd⟩
  refine hK8 _ _ (hS7.keep hd) (fun hS8 => ?_)
  clear hS7 hd hK8 K8
  (refine held_take (i := 10) (oi := ?ot11) (v := .bool true) ?at11 (by kernel_rfl) (by kernel_rfl) (by kernel_rfl) ?bt11 ?ct11 ?dt11 (by assumption) ?rt11; (case at11 => (simp only [List.getElem?_toArray, List.getElem?_cons_zero, List.getElem?_cons_succ]; rfl)); (case bt11 => exact fun _ _ _ h => h); (case ct11 => kernel_rfl); (case dt11 => (intro W hW; exact exec_eql32 _ _ _ rfl f rfl rfl W)); (case' rt11 => simp only [Act.put, List.setIfInBounds_toArray, List.set_cons_zero, List.set_cons_succ]))
  (refine held_take (i := 11) (oi := ?ot12) (v := ?vt12) ?at12 (by kernel_rfl) (by kernel_rfl) (by kernel_rfl) ?bt12 ?ct12 ?dt12 (by assumption) ?rt12; (case at12 => (simp only [List.getElem?_toArray, List.getElem?_cons_zero, List.getElem?_cons_succ]; rfl)); (case bt12 => exact fun _ _ _ h => h); (case ct12 => kernel_rfl); (case dt12 => (intro W hW; (try dsimp only at hW); go_split_ands; go_simp; (try with_reducible rfl))); (case' rt12 => simp only [Act.put, List.setIfInBounds_toArray, List.set_cons_zero, List.set_cons_succ]))
  (refine held_take (i := 12) (oi := ?ot13) (v := ?vt13) ?at13 (by kernel_rfl) (by kernel_rfl) (by kernel_rfl) ?bt13 ?ct13 ?dt13 (by assumption) ?rt13; (case at13 => (simp only [List.getElem?_toArray, List.getElem?_cons_zero, List.getElem?_cons_succ]; rfl)); (case bt13 => exact fun _ _ _ h => h); (case ct13 => kernel_rfl); (case dt13 => (intro W hW; (try dsimp only at hW); go_split_ands; go_simp; (try with_reducible rfl))); (case' rt13 => simp only [Act.put, List.setIfInBounds_toArray, List.set_cons_zero, List.set_cons_succ]))
  refine wpAnyH_done (by kernel_rfl) ?_ _
  go_wp2
  go_ret
  exact ⟨rfl, hS8.2.2⟩
end Go.Proofs.Ytaopggcfaoabaaa
