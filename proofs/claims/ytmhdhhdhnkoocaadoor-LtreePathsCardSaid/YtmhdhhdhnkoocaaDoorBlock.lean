/- sha.Block. -/
import Derived.Test.YtmhdhhdhnkoocaaDoorWork
namespace Go.Proofs.YtmhdhhdhnkoocaaDoor
open Go.RowKit
attribute [local go_sem ↓ high] zeroV32 zeroV34
attribute [local go_sem] num_add
theorem info39 : (Tryd.prog.info? 94).map (·.size) = some 64 := by kernel_rfl
/-- The first k words are added up. -/
def mix (h v : Nat → W32) (k : Nat) : Nat → W32 := fun j => if j < k then h j + v j else h j
theorem mix_zero (h v : Nat → W32) : mix h v 0 = h := rfl
theorem mix_all (h v : Nat → W32) : ∀ j, j < 8 → mix h v 8 j = h j + v j := fun j hj => by simp [mix, hj]
theorem mix_at (h v : Nat → W32) (k : Nat) : mix h v k k = h k := by simp [mix]
theorem mix_upd (h v : Nat → W32) (k : Nat) : upd (mix h v k) k (h k + v k) = mix h v (k + 1) := by
  funext j
  unfold upd mix
  by_cases e : j = k
  · subst e; simp
  · by_cases h2 : j < k
    · simp [e, h2, show j < k + 1 by omega]
    · simp [e, h2, show ¬ j < k + 1 by omega]
/-- What Block's region knows. -/
def BlkS (w : World) (h : Nat → W32) (b : Nat → UInt8) (Y : World) : Prop :=
  Arr Y w.heap.size 82 8 (wds h) ∧ Arr Y (w.heap.size + 1) 94 64 (bys b) ∧ Arr Y (w.heap.size + 1 + 1) 82 8 (wds zw) ∧ Below w.heap.size w Y
theorem BlkS.keep {w : World} {h : Nat → W32} {b : Nat → UInt8} {Y Z : World} (H : BlkS w h b Y) (hb : Below Y.heap.size Y Z) : BlkS w h b Z :=
  ⟨H.1.under hb, H.2.1.under hb, H.2.2.1.under hb, H.2.2.2.trans (hb.mono H.2.2.2.size)⟩

set_option maxHeartbeats 1000000 in
set_option maxRecDepth 100000 in
theorem block_any (h : Nat → W32) (b : Nat → UInt8) (w : World) (hT : Tabs w) :
    Calls Tryd.prog 65 #[.agg (vec 8 (wds h)), .agg (vec 64 (bys b))] w fun e w' => e = .returned (.agg (vec 8 (wds (comp h b)))) ∧ Below w.heap.size w w' := by
  obtain ⟨W0, hW0⟩ : ∃ W0, W0 = ((w.alloc (.cells (vec 8 (wds h)) 82)).alloc (.cells (vec 64 (bys b)) 94)).alloc (.cells (vec 8 (wds zw)) 82) := ⟨_, rfl⟩
  have hA : Arr W0 w.heap.size 82 8 (wds h) := by rw [hW0]; exact ((Arr.new w _ _ _).alloc _).alloc _
  have hM : Arr W0 (w.heap.size + 1) 94 64 (bys b) := by rw [hW0]; exact (Arr.newAt (w.alloc (.cells (vec 8 (wds h)) 82)) 94 64 (bys b) (by simp)).alloc _
  have hR : Arr W0 (w.heap.size + 1 + 1) 82 8 (wds zw) := by rw [hW0]; exact Arr.newAt ((w.alloc (.cells (vec 8 (wds h)) 82)).alloc (.cells (vec 64 (bys b)) 94)) 82 8 (wds zw) (by simp)
  have hB : Below w.heap.size w W0 := by rw [hW0]; exact (((Below.refl _ _).alloc (Nat.le_refl _) _).alloc (by simp) _).alloc (by simp; omega) _
  have HI : Hid (BlkS w h b W0) := Lib.hid ⟨hA, hM, hR, hB⟩
  have HT := Lib.hid hT
  have HW := Lib.hid hW0
  clear hA hM hR hB hT hW0
  go_enter Tryd.func65, Tryd.ntmps65
  go_upto_region 1 with fail
  rw [← HW.out]
  clear HW
  refine wp_region_held_drew (S := fun Y => BlkS w h b Y) (by kernel_rfl) (HI.out.keep ⟨rfl, rfl, rfl, Nat.le_refl _, fun _ _ => rfl⟩) (fun hS => ?_)
  (refine held_take (i := 0) (oi := ?ot1) (v := Value.agg (vec 8 (wds h))) ?at1 (by kernel_rfl) (by kernel_rfl) (by kernel_rfl) ?bt1 ?ct1 ?dt1 (by assumption) ?rt1; (case at1 => (simp only [List.getElem?_toArray, List.getElem?_cons_zero]; rfl)); (case bt1 => exact fun _ _ _ h => h); (case ct1 => kernel_rfl); (case dt1 => (intro W hW; exact exec_load 82 _ rfl _ rfl _ (run_load_arr hW.1 Tryd.underlying82 rfl info34))); (case' rt1 => simp only [Act.put, List.setIfInBounds_toArray, List.set_cons_zero, List.set_cons_succ]))
  (refine held_take (i := 1) (oi := ?ot2) (v := Value.agg (vec 64 (bys b))) ?at2 (by kernel_rfl) (by kernel_rfl) (by kernel_rfl) ?bt2 ?ct2 ?dt2 (by assumption) ?rt2; (case at2 => (simp only [List.getElem?_toArray, List.getElem?_cons_zero, List.getElem?_cons_succ]; rfl)); (case bt2 => exact fun _ _ _ h => h); (case ct2 => kernel_rfl); (case dt2 => (intro W hW; exact exec_load 94 _ rfl _ rfl _ (run_load_arr hW.2.1 Tryd.underlying94 rfl info39))); (case' rt2 => simp only [Act.put, List.setIfInBounds_toArray, List.set_cons_zero, List.set_cons_succ]))
  (refine held_take (i := 4) (oi := ?ot3) (v := ?vt3) ?at3 (by kernel_rfl) (by kernel_rfl) (by kernel_rfl) ?bt3 ?ct3 ?dt3 (by assumption) ?rt3; (case at3 => (simp only [List.getElem?_toArray, List.getElem?_cons_zero, List.getElem?_cons_succ]; rfl)); (case bt3 => exact fun _ _ _ h => h); (case ct3 => kernel_rfl); (case dt3 => (intro W hW; (try dsimp only at hW); go_split_ands; go_simp; (try with_reducible rfl))); (case' rt3 => simp only [Act.put, List.setIfInBounds_toArray, List.set_cons_zero, List.set_cons_succ]))
  refine held_one (i := 2) (oi := ?ot4) (by kernel_rfl) ?at4 ?ct4 (fun K2 hK2 => ?_)
  (case at4 => (simp only [List.getElem?_toArray, List.getElem?_cons_zero, List.getElem?_cons_succ]; rfl))
  (case ct4 => kernel_rfl)
  go_simp
  refine (schedule_any _ _).mono ?_
  rintro e w1 ⟨rfl, hd⟩
  refine hK2 _ _ (BlkS.keep hS hd) (fun hS2 => ?_)
  clear hS hd hK2 K2
  refine held_one (i := 3) (oi := ?ot5) (by kernel_rfl) ?at5 ?ct5 (fun K3 hK3 => ?_)
  (case at5 => (simp only [List.getElem?_toArray, List.getElem?_cons_zero, List.getElem?_cons_succ]; rfl))
  (case ct5 => kernel_rfl)
  go_simp
  refine (work_any _ _ _ (tabs_below HT.out hS2.2.2.2)).mono ?_
  rintro e w1 ⟨rfl, hd⟩
  refine hK3 _ _ (BlkS.keep hS2 hd) (fun hS3 => ?_)
  clear hS2 hd hK3 K3
  refine wpAnyH_done (by kernel_rfl) ?_ _
  have hS : BlkS w h b w1 := hS3
  clear hS3 HI
  obtain ⟨v, hv⟩ : ∃ v, rounds Kt (sch (mW b) 48) h 64 = v := ⟨_, rfl⟩
  rw [hv]
  have HV := Lib.hid hv
  have HS := Lib.hid hS
  clear hv hS
  go_wp2_with fail
  go_loopw [11] (fun i W => ∃ k : Nat, k ≤ 8 ∧ i = .int .i64 k ∧ Arr W w.heap.size 82 8 (wds (mix h v k)) ∧ Arr W (w.heap.size + 1 + 1) 82 8 (wds zw) ∧ Below w.heap.size w W) (fun i _ => 8 - (intOf i).toNat)
  case atStart => exact ⟨0, by decide, rfl, HS.out.1, HS.out.2.2.1, HS.out.2.2.2⟩
  case round =>
    obtain ⟨k, hk, rfl, hA, hR, hB⟩ := hrel
    by_cases hlt : k < 8
    · have hix := fun W => index8 v k hlt W
      have hc : wr.cell? ⟨w.heap.size, k, none⟩ = some (.int .u32 (num (h k))) := by
        have := hA.cell (i := k) hlt
        rw [wds, mix_at] at this
        exact this
      have hf := hA.frozen k
      have HAl := Lib.hid (And.intro hA (And.intro hR hB))
      clear hA hR hB hk
      go_wp2
      go_roundw
      case rel =>
        obtain ⟨hA, hR, hB⟩ := HAl.out
        have hA2 := hA.set k (.int .u32 (num (h k + v k)))
        rw [wds_upd, mix_upd] at hA2
        exact ⟨k + 1, by omega, by go_num, hA2, hR.far (p := ⟨w.heap.size, k, none⟩) (show w.heap.size + 1 + 1 ≠ w.heap.size by omega) _, hB.setCell (show w.heap.size ≤ w.heap.size by omega) _⟩
      case measure => simp [intOf]; omega
    · obtain rfl : k = 8 := by omega
      have hA2 : Arr wr w.heap.size 82 8 (wds (comp h b)) := hA.congr fun j hj => by simp only [wds, mix_all h v j hj, comp]; rw [HV.out]
      have HL := Lib.hid (run_load_arr (P := Tryd.prog) hA2 Tryd.underlying82 rfl info34)
      have HW := Lib.hid (run_store_arr (P := Tryd.prog) hR (wds (comp h b)) info34 (wds_one _ _))
      have HR2 := Lib.hid (run_load_arr (P := Tryd.prog) (hR.row (wds (comp h b))) Tryd.underlying82 rfl info34)
      have HB := Lib.hid (below_row hB (show w.heap.size ≤ w.heap.size + 1 + 1 by omega) (vec 8 (wds (comp h b))))
      clear hA hR hB hA2 hlt hk
      go_wp2_with (first
        | (refine wl_load rfl 82 _ rfl _ rfl _ HL.out ?_)
        | (refine wl_store rfl 82 _ _ rfl _ rfl _ rfl HW.out ?_))
      exact bodyPost_ret (results_cell1 rfl _ _ _ rfl HR2.out) rfl ⟨rfl, HB.out⟩
end Go.Proofs.YtmhdhhdhnkoocaaDoor
