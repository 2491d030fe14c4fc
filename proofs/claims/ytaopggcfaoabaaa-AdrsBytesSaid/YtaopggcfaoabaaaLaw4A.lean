/- The walk of AdrsBytes. -/
import Derived.Test.YtaopggcfaoabaaaRBytes
import Derived.Test.YtaopggcfaoabaaaAwake4
namespace Go.Proofs.Ytaopggcfaoabaaa
open Go.RowKit

/-- What AdrsBytes' region knows. -/
def S4 (w : World) (cs : Array Value) (Y : World) : Prop := Blk Y w.heap.size 25 cs ∧ Below w.heap.size w Y
theorem S4.keep {w : World} {cs : Array Value} {Y Z : World} (h : S4 w cs Y) (hd : Below Y.heap.size Y Z) : S4 w cs Z := ⟨h.1.under hd, h.2.trans (hd.mono h.2.size)⟩
set_option maxHeartbeats 1000000 in
set_option maxRecDepth 100000 in
theorem adrsBytes_walk (l t k a b c m : Nat) (w : World) (hok : AdOk l t k a b c m) :
    Calls Try.prog 3 #[adV l t k a b c m] w fun e w' => e = .returned (.bool true) ∧ Below w.heap.size w w' := by
  have HI : Hid (S4 w (adA l t k a b c m) (w.alloc (.cells (adA l t k a b c m) 25))) := Lib.hid ⟨Blk.new w _ _ rfl, below_alloc1 _ _⟩
  have HO := Lib.hid hok
  clear hok
  go_enter Try.func3, Try.ntmps3
  go_upto_region 3 with (go_at_call 7; refine (awake4_any _).mono ?_; rintro e w1 ⟨rfl, hd⟩; have H1 := Lib.hid (HI.out.keep hd); clear hd)
  refine wp_region_held_drew (S := fun Y => S4 w (adA l t k a b c m) Y) (by kernel_rfl) (H1.out.keep ⟨rfl, rfl, rfl, Nat.le_refl _, fun _ _ => rfl⟩) (fun hS => ?_)
  (refine held_take (i := 0) (oi := ?ot1) (v := adV l t k a b c m) ?at1 (by kernel_rfl) (by kernel_rfl) (by kernel_rfl) ?bt1 ?ct1 ?dt1 (by assumption) ?rt1; (case at1 => (simp only [List.getElem?_toArray, List.getElem?_cons_zero]; rfl)); (case bt1 => exact fun _ _ _ h => h); (case ct1 => kernel_rfl); (case dt1 => (intro W hW; exact exec_load 25 _ rfl _ rfl _ (hW.1.load Try.underlying25 rfl infoAd))); (case' rt1 => simp only [Act.put, List.setIfInBounds_toArray, List.set_cons_zero, List.set_cons_succ]))
  (refine held_take (i := 2) (oi := ?ot2) (v := adV l t k a b c m) ?at2 (by kernel_rfl) (by kernel_rfl) (by kernel_rfl) ?bt2 ?ct2 ?dt2 (by assumption) ?rt2; (case at2 => (simp only [List.getElem?_toArray, List.getElem?_cons_zero, List.getElem?_cons_succ]; rfl)); (case bt2 => exact fun _ _ _ h => h); (case ct2 => kernel_rfl); (case dt2 => (intro W hW; exact exec_load 25 _ rfl _ rfl _ (hW.1.load Try.underlying25 rfl infoAd))); (case' rt2 => simp only [Act.put, List.setIfInBounds_toArray, List.set_cons_zero, List.set_cons_succ]))
  refine held_one (i := 1) (oi := ?ot3) (by kernel_rfl) ?at3 ?ct3 (fun K1 hK1 => ?_)
  (case at3 => (simp only [List.getElem?_toArray, List.getElem?_cons_zero, List.getElem?_cons_succ]; rfl))
  (case ct3 => kernel_rfl)
  go_simp
  refine (bytes_any l t k a b c m HO.out _).mono ?_
  rintro e y1 ⟨rfl, hd⟩
  refine hK1 _ _ (hS.keep hd) (fun hS1 => ?_)
  clear hS hd hK1 K1
  refine held_one (i := 3) (oi := ?ot4) (by kernel_rfl) ?at4 ?ct4 (fun K3 hK3 => ?_)
  (case at4 => (simp only [List.getElem?_toArray, List.getElem?_cons_zero, List.getElem?_cons_succ]; rfl))
  (case ct4 => kernel_rfl)
  go_simp
  refine (rbytes_any l t k a b c m HO.out _).mono ?_
  rintro e y3 ⟨rfl, hd⟩
  refine hK3 _ _ (hS1.keep hd) (fun hS3 => ?_)
  clear hS1 hd hK3 K3
  (refine held_take (i := 4) (oi := ?ot5) (v := .bool true) ?at5 (by kernel_rfl) (by kernel_rfl) (by kernel_rfl) ?bt5 ?ct5 ?dt5 (by assumption) ?rt5; (case at5 => (simp only [List.getElem?_toArray, List.getElem?_cons_zero, List.getElem?_cons_succ]; rfl)); (case bt5 => exact fun _ _ _ h => h); (case ct5 => kernel_rfl); (case dt5 => (intro W hW; exact exec_eql32 _ _ _ rfl (adB l t k a b c m) rfl rfl W)); (case' rt5 => simp only [Act.put, List.setIfInBounds_toArray, List.set_cons_zero, List.set_cons_succ]))
  (refine held_take (i := 5) (oi := ?ot6) (v := ?vt6) ?at6 (by kernel_rfl) (by kernel_rfl) (by kernel_rfl) ?bt6 ?ct6 ?dt6 (by assumption) ?rt6; (case at6 => (simp only [List.getElem?_toArray, List.getElem?_cons_zero, List.getElem?_cons_succ]; rfl)); (case bt6 => exact fun _ _ _ h => h); (case ct6 => kernel_rfl); (case dt6 => (intro W hW; (try dsimp only at hW); go_split_ands; go_simp; (try with_reducible rfl))); (case' rt6 => simp only [Act.put, List.setIfInBounds_toArray, List.set_cons_zero, List.set_cons_succ]))
  refine wpAnyH_done (by kernel_rfl) ?_ _
  go_wp2
  go_ret
  exact ⟨rfl, hS3.2⟩
end Go.Proofs.Ytaopggcfaoabaaa
