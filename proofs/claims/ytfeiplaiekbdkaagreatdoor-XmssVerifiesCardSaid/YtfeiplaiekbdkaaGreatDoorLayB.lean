/- adrs.Bytes. -/
import Derived.Test.YtfeiplaiekbdkaaGreatDoorLayA
namespace Go.Proofs.YtfeiplaiekbdkaaGreatDoor
open Go.RowKit
attribute [local go_sem ↓ high] zeroV26

def adB (l t k a b c m : Nat) : Nat → UInt8 := lB (putAll 0 4 (adWs l t k a b c m))
/-- Bounds of an address. -/
structure AdOk (l t k a b c m : Nat) : Prop where
  l : l < 4294967296
  t : t < 18446744073709551616
  k : k < 4294967296
  a : a < 4294967296
  b : b < 4294967296
  c : c < 4294967296
  m : m < 4294967296
/-- What the region of Bytes knows. -/
def SB (w : World) (l t k a b c m : Nat) (Y : World) : Prop :=
  Blk Y w.heap.size 86 (adA l t k a b c m) ∧ (∃ f, Arr Y (w.heap.size + 1) 30 32 (bys f)) ∧ Below w.heap.size w Y
theorem SB.keep {w : World} {l t k a b c m : Nat} {Y Z : World} (h : SB w l t k a b c m Y) (hd : Below Y.heap.size Y Z) : SB w l t k a b c m Z :=
  ⟨h.1.under hd, h.2.1.elim fun f hf => ⟨f, hf.under hd⟩, h.2.2.trans (hd.mono h.2.2.size)⟩
theorem SB.put {w : World} {l t k a b c m : Nat} {Y : World} (h : SB w l t k a b c m Y) (f : Nat → UInt8) : SB w l t k a b c m (Y.setRow (w.heap.size + 1) (vec 32 (bys f))) :=
  ⟨h.1.rowFar (by omega) _, ⟨f, h.2.1.elim fun f0 hf => hf.row _⟩, below_row h.2.2 (by omega) _⟩
theorem below_alloc1 (Y : World) (o : Obj) : Below Y.heap.size Y (Y.alloc o) := (Below.refl _ _).alloc (Nat.le_refl _) _
theorem lies3 (Y : World) (a b c : Nat) : Lies (Y.alloc (.cells #[.int .u32 (a : Int), .int .u32 (b : Int), .int .u32 (c : Int)] 28)) (Y.alloc (.cells #[.int .u32 (a : Int), .int .u32 (b : Int), .int .u32 (c : Int)] 28)).heap.size 1 (some ⟨Y.heap.size, 0, none⟩) 3 (u32s [a, b, c]) := by
  have := lies_new Y #[.int .u32 (a : Int), .int .u32 (b : Int), .int .u32 (c : Int)] 28 3 (u32s [a, b, c]) rfl rfl
  simpa using this

set_option maxHeartbeats 1000000 in
set_option maxRecDepth 100000 in
theorem bytes_any (l t k a b c m : Nat) (hok : AdOk l t k a b c m) (w : World) :
    Calls Tryz.prog 118 #[adV l t k a b c m] w fun e w' => e = .returned (.agg (vec 32 (bys (adB l t k a b c m)))) ∧ Below w.heap.size w w' := by
  obtain ⟨W0, hW0⟩ : ∃ W0, W0 = (w.alloc (.cells (adA l t k a b c m) 86)).alloc (.cells (vec 32 (bys zb)) 30) := ⟨_, rfl⟩
  have hI : SB w l t k a b c m W0 := by
    rw [hW0]
    exact ⟨(Blk.new w _ _ rfl).alloc _, ⟨zb, Arr.newAt _ _ _ _ (by simp)⟩, ((Below.refl _ _).alloc (Nat.le_refl _) _).alloc (by simp) _⟩
  have HI := Lib.hid hI
  have HO := Lib.hid hok
  have HW := Lib.hid hW0
  clear hI hok hW0
  go_enter Tryz.func118, Tryz.ntmps118
  go_upto_region 1 with fail
  rw [← HW.out]
  clear HW
  refine wp_region_held_drew (S := SB w l t k a b c m) (by kernel_rfl) (HI.out.keep ⟨rfl, rfl, rfl, Nat.le_refl _, fun _ _ => rfl⟩) (fun hS => ?_)
  (refine held_take (i := 0) (oi := ?ot1) (v := adV l t k a b c m) ?at1 (by kernel_rfl) (by kernel_rfl) (by kernel_rfl) ?bt1 ?ct1 ?dt1 (by assumption) ?rt1; (case at1 => (simp only [List.getElem?_toArray, List.getElem?_cons_zero]; rfl)); (case bt1 => exact fun _ _ _ h => h); (case ct1 => kernel_rfl); (case dt1 => (intro W hW; exact exec_load 86 _ rfl _ rfl _ (hW.1.load Tryz.underlying86 rfl infoAd))); (case' rt1 => simp only [Act.put, List.setIfInBounds_toArray, List.set_cons_zero, List.set_cons_succ]))
  (refine held_take (i := 2) (oi := ?ot2) (v := ?vt2) ?at2 (by kernel_rfl) (by kernel_rfl) (by kernel_rfl) ?bt2 ?ct2 ?dt2 (by assumption) ?rt2; (case at2 => (simp only [List.getElem?_toArray, List.getElem?_cons_zero, List.getElem?_cons_succ]; rfl)); (case bt2 => exact fun _ _ _ h => h); (case ct2 => kernel_rfl); (case dt2 => (intro W hW; (try dsimp only at hW); go_split_ands; go_simp; (try with_reducible rfl))); (case' rt2 => simp only [Act.put, List.setIfInBounds_toArray, List.set_cons_zero, List.set_cons_succ]))
  (refine held_take (i := 3) (oi := ?ot3) (v := .int .u32 (a : Int)) ?at3 (by kernel_rfl) (by kernel_rfl) (by kernel_rfl) ?bt3 ?ct3 ?dt3 (by assumption) ?rt3; (case at3 => (simp only [List.getElem?_toArray, List.getElem?_cons_zero, List.getElem?_cons_succ]; rfl)); (case bt3 => exact fun _ _ _ h => h); (case ct3 => kernel_rfl); (case dt3 => (intro W hW; have hc : W.cell? ⟨w.heap.size, 3, none⟩ = some (.int .u32 (a : Int)) := hW.1.cellAt 3 rfl; clear hW; go_simp; (try with_reducible rfl))); (case' rt3 => simp only [Act.put, List.setIfInBounds_toArray, List.set_cons_zero, List.set_cons_succ]))
  (refine held_take (i := 4) (oi := ?ot4) (v := ?vt4) ?at4 (by kernel_rfl) (by kernel_rfl) (by kernel_rfl) ?bt4 ?ct4 ?dt4 (by assumption) ?rt4; (case at4 => (simp only [List.getElem?_toArray, List.getElem?_cons_zero, List.getElem?_cons_succ]; rfl)); (case bt4 => exact fun _ _ _ h => h); (case ct4 => kernel_rfl); (case dt4 => (intro W hW; (try dsimp only at hW); go_split_ands; go_simp; (try with_reducible rfl))); (case' rt4 => simp only [Act.put, List.setIfInBounds_toArray, List.set_cons_zero, List.set_cons_succ]))
  (refine held_take (i := 5) (oi := ?ot5) (v := .int .u32 (b : Int)) ?at5 (by kernel_rfl) (by kernel_rfl) (by kernel_rfl) ?bt5 ?ct5 ?dt5 (by assumption) ?rt5; (case at5 => (simp only [List.getElem?_toArray, List.getElem?_cons_zero, List.getElem?_cons_succ]; rfl)); (case bt5 => exact fun _ _ _ h => h); (case ct5 => kernel_rfl); (case dt5 => (intro W hW; have hc : W.cell? ⟨w.heap.size, 4, none⟩ = some (.int .u32 (b : Int)) := hW.1.cellAt 4 rfl; clear hW; go_simp; (try with_reducible rfl))); (case' rt5 => simp only [Act.put, List.setIfInBounds_toArray, List.set_cons_zero, List.set_cons_succ]))
  (refine held_take (i := 6) (oi := ?ot6) (v := ?vt6) ?at6 (by kernel_rfl) (by kernel_rfl) (by kernel_rfl) ?bt6 ?ct6 ?dt6 (by assumption) ?rt6; (case at6 => (simp only [List.getElem?_toArray, List.getElem?_cons_zero, List.getElem?_cons_succ]; rfl)); (case bt6 => exact fun _ _ _ h => h); (case ct6 => kernel_rfl); (case dt6 => (intro W hW; (try dsimp only at hW); go_split_ands; go_simp; (try with_reducible rfl))); (case' rt6 => simp only [Act.put, List.setIfInBounds_toArray, List.set_cons_zero, List.set_cons_succ]))
  (refine held_take (i := 7) (oi := ?ot7) (v := .int .u32 (c : Int)) ?at7 (by kernel_rfl) (by kernel_rfl) (by kernel_rfl) ?bt7 ?ct7 ?dt7 (by assumption) ?rt7; (case at7 => (simp only [List.getElem?_toArray, List.getElem?_cons_zero, List.getElem?_cons_succ]; rfl)); (case bt7 => exact fun _ _ _ h => h); (case ct7 => kernel_rfl); (case dt7 => (intro W hW; have hc : W.cell? ⟨w.heap.size, 5, none⟩ = some (.int .u32 (c : Int)) := hW.1.cellAt 5 rfl; clear hW; go_simp; (try with_reducible rfl))); (case' rt7 => simp only [Act.put, List.setIfInBounds_toArray, List.set_cons_zero, List.set_cons_succ]))
  refine held_two (i := 1) (j := 8) (oi := ?oit14) (oj := ?ojt14) (by kernel_rfl) ?ait14 ?ajt14 ?cit14 ?cjt14 (fun K1 hK1 => ?hit14) (fun K8 hK8 => ?hjt14)
  (case ait14 => (simp only [List.getElem?_toArray, List.getElem?_cons_zero, List.getElem?_cons_succ]; rfl))
  (case ajt14 => (simp only [List.getElem?_toArray, List.getElem?_cons_zero, List.getElem?_cons_succ]; rfl))
  (case cit14 => kernel_rfl)
  (case cjt14 => kernel_rfl)
  case hit14 =>
    go_simp
    refine (commonOf_any l t k a b c m _).mono ?_
    rintro e y1 ⟨rfl, hd⟩
    have hd1 := hd
    refine hK1 _ _ (hS.keep hd) (fun hS1 => ?_)
    clear hK1 K1
    refine held_one (i := 8) (oi := ?ot8) (by kernel_rfl) ?at8 ?ct8 (fun K8 hK8 => ?_)
    (case at8 => (simp only [List.getElem?_toArray, List.getElem?_cons_zero, List.getElem?_cons_succ]; rfl))
    (case ct8 => kernel_rfl)
    go_simp
    refine hK8 _ _ (hS1.keep (below_alloc1 _ _)) (fun hS8 => ?_)
    clear hK8 K8
    refine held_one (i := 9) (oi := ?ot9) (by kernel_rfl) ?at9 ?ct9 (fun K9 hK9 => ?_)
    (case at9 => (simp only [List.getElem?_toArray, List.getElem?_cons_zero, List.getElem?_cons_succ]; rfl))
    (case ct9 => kernel_rfl)
    go_simp
    refine (lay_any l t k m a b c HO.out.l HO.out.t HO.out.k HO.out.m HO.out.a HO.out.b HO.out.c _ 3 _ (lies3 _ a b c)).mono ?_
    rintro e y9 ⟨rfl, hd9⟩
    obtain ⟨f9, hf9⟩ := (hS8.keep hd9).2.1
    refine hK9 _ _ (hS8.keep hd9) (fun hS9 => ?_)
    clear hK9 K9
    refine held_one (i := 10) (oi := ?ot10) (by kernel_rfl) ?at10 ?ct10 (fun K10 hK10 => ?_)
    (case at10 => (simp only [List.getElem?_toArray, List.getElem?_cons_zero, List.getElem?_cons_succ]; rfl))
    (case ct10 => kernel_rfl)
    refine ow_store 30 _ _ rfl _ rfl _ rfl (run_store_arr hf9 (bys (adB l t k a b c m)) info26 (bys_one _ _)) ?_
    refine hK10 _ _ (hS9.put _) (fun hS10 => ?_)
    clear hK10 K10
    refine wpAnyH_done (by kernel_rfl) ?_ _
    go_wp2
    refine bodyPost_ret (results_cell1 rfl _ _ _ rfl (run_load_arr (hf9.row _) Tryz.underlying30 rfl info26)) rfl ⟨rfl, hS10.2.2⟩
  case hjt14 =>
    go_simp
    refine hK8 _ _ (hS.keep (below_alloc1 _ _)) (fun hS8 => ?_)
    clear hK8 K8
    refine held_one (i := 1) (oi := ?ot11) (by kernel_rfl) ?at11 ?ct11 (fun K1 hK1 => ?_)
    (case at11 => (simp only [List.getElem?_toArray, List.getElem?_cons_zero, List.getElem?_cons_succ]; rfl))
    (case ct11 => kernel_rfl)
    go_simp
    refine (commonOf_any l t k a b c m _).mono ?_
    rintro e y1 ⟨rfl, hd⟩
    have hd1 := hd
    refine hK1 _ _ (hS8.keep hd) (fun hS1 => ?_)
    clear hK1 K1
    refine held_one (i := 9) (oi := ?ot12) (by kernel_rfl) ?at12 ?ct12 (fun K9 hK9 => ?_)
    (case at12 => (simp only [List.getElem?_toArray, List.getElem?_cons_zero, List.getElem?_cons_succ]; rfl))
    (case ct12 => kernel_rfl)
    go_simp
    refine (lay_any l t k m a b c HO.out.l HO.out.t HO.out.k HO.out.m HO.out.a HO.out.b HO.out.c _ 3 _ (((lies3 W0 a b c).drew.below hd1).wide hd1.size)).mono ?_
    rintro e y9 ⟨rfl, hd9⟩
    obtain ⟨f9, hf9⟩ := (hS1.keep hd9).2.1
    refine hK9 _ _ (hS1.keep hd9) (fun hS9 => ?_)
    clear hK9 K9
    refine held_one (i := 10) (oi := ?ot13) (by kernel_rfl) ?at13 ?ct13 (fun K10 hK10 => ?_)
    (case at13 => (simp only [List.getElem?_toArray, List.getElem?_cons_zero, List.getElem?_cons_succ]; rfl))
    (case ct13 => kernel_rfl)
    refine ow_store 30 _ _ rfl _ rfl _ rfl (run_store_arr hf9 (bys (adB l t k a b c m)) info26 (bys_one _ _)) ?_
    refine hK10 _ _ (hS9.put _) (fun hS10 => ?_)
    clear hK10 K10
    refine wpAnyH_done (by kernel_rfl) ?_ _
    go_wp2
    refine bodyPost_ret (results_cell1 rfl _ _ _ rfl (run_load_arr (hf9.row _) Tryz.underlying30 rfl info26)) rfl ⟨rfl, hS10.2.2⟩
end Go.Proofs.YtfeiplaiekbdkaaGreatDoor
