/- The walk of LtreePaths. -/
import Derived.Test.YtmhdhhdhnkoocaaDoorSame
import Derived.Test.YtmhdhhdhnkoocaaDoorWp
import Derived.Test.YtmhdhhdhnkoocaaDoorWk
namespace Go.Proofs.YtmhdhhdhnkoocaaDoor
open Go.RowKit
attribute [local go_sem ↓ high] zeroV26

/-- An operation that looks at the world, its guard met or none. -/
theorem wl_exec {P : Program} {ops : Array Oper} {Q : Exit → Act → World → Prop} {a : Act} {w : World} {rest : List Oper} {o : Oper} {v : Value} (hw : Region.wanted o (yielded ops a.tmps) = true)
    (he : (execOp a.eval o).run P w = .ok (.value v) w) (h : wpList P ops Q rest (a.put o.dst v) w) : wpList P ops Q (o :: rest) a w :=
  wpList_step fun K hK => by
    simp only [hw, if_true]
    unfold Oper.wp
    rw [he]
    exact hK _ _ h
theorem pathA_le (l : List Nd) (idx : Nat) (seed : Nat → UInt8) : (pathA l idx seed).length ≤ 1000 := by
  unfold pathA
  split
  · rw [authF_length]
    unfold hgt
    repeat' split
    all_goals decide
  · decide
theorem path_lt {n idx : Nat} (h : isPath n idx = true) : idx < n := by
  unfold isPath at h
  simp only [Bool.and_eq_true, decide_eq_true_eq] at h
  exact h.2
set_option maxHeartbeats 1000000 in
set_option maxRecDepth 100000 in
theorem ltreePaths_walk (Al : Option Addr) (cl : Nat) (l : List Nd) (idx : Nat) (seed : Nat → UInt8) (w : World) (_hl : l.length ≤ maxLen) (hrl : NRow w w.heap.size Al l) (hidx : idx < 4294967296) (hT : Tabs w) :
    Calls Tryd.prog 5 #[.slice Al l.length cl, .int .u32 (idx : Int), .agg (vec 32 (bys seed))] w fun e w' => e = .returned (.bool true) ∧ Below w.heap.size w w' := by
  obtain ⟨V, hV⟩ : ∃ V, V = w.alloc (.cells (vec 32 (bys seed)) 24) := ⟨_, rfl⟩
  have hA0 : Arr V w.heap.size 24 32 (bys seed) := by rw [hV]; exact (Arr.newAt _ _ _ _ (by simp))
  have hB : Below w.heap.size w V := by rw [hV]; exact ((Below.refl _ _).alloc (by simp <;> omega) _)
  have HB0 := Lib.hid hB
  have HT := Lib.hid hT
  have HP0 := Lib.hid hA0
  have HRl := Lib.hid hrl
  have HW := Lib.hid hV
  clear hV hB hT hA0 hrl
  by_cases hlen : 40 < l.length
  · have t1 : (40 : Int) < (l.length : Int) := by omega
    go_enter Tryd.func5, Tryd.ntmps5
    go_upto_region 1 with fail
    rw [← HW.out]
    clear HW
    go_upto_region 3 with (go_at_call 8; refine (awake7_any _ (tabs_below HT.out HB0.out)).mono ?_; rintro e V1 ⟨rfl, hd⟩; have HD := Lib.hid hd; clear hd)
    have HB := Lib.hid (HB0.out.trans (HD.out.mono HB0.out.size))
    have HQ0 := Lib.hid (HP0.out.under HD.out)
    have HSl : Hid (NRow V1 V1.heap.size Al l) := Lib.hid ((HRl.out.below HB.out).wide HB.out.size)
    have HT1 := Lib.hid (tabs_below HT.out HB.out)
    clear HD HP0
    go_wp2
    go_ret
    exact ⟨rfl, HB.out⟩
  · have t1 : ¬ (40 : Int) < (l.length : Int) := by omega
    have hl40 : l.length ≤ 40 := by omega
    go_enter Tryd.func5, Tryd.ntmps5
    go_upto_region 1 with fail
    rw [← HW.out]
    clear HW
    go_upto_region 5 with (go_at_call 8; refine (awake7_any _ (tabs_below HT.out HB0.out)).mono ?_; rintro e V1 ⟨rfl, hd⟩; have HD := Lib.hid hd; clear hd)
    have HB := Lib.hid (HB0.out.trans (HD.out.mono HB0.out.size))
    have HQ0 := Lib.hid (HP0.out.under HD.out)
    have HSl : Hid (NRow V1 V1.heap.size Al l) := Lib.hid ((HRl.out.below HB.out).wide HB.out.size)
    have HT1 := Lib.hid (tabs_below HT.out HB.out)
    clear HD HP0
    go_upto_region 6 with (first
      | ((with_reducible show wpList _ _ _ (Oper.mk _ (.load _ _) _ _ _ _ :: _) _ _); refine wl_load rfl 24 _ rfl _ rfl _ (run_load_arr HQ0.out Tryd.underlying24 rfl info26) ?_)
      | (go_at_call 13; refine (path_any Al cl l hl40 idx hidx seed _ HSl.out HT1.out).mono ?_; rintro e U1 ⟨v, rfl, ho, hd⟩; obtain ⟨E1, c1, rfl, -, hrow⟩ := ho.row; have HU1 := Lib.hid (And.intro hrow hd); clear ho hrow hd)
      | ((with_reducible show wpList _ _ _ (Oper.mk _ (.store _ _ _) _ _ _ _ :: _) _ _); refine wl_store rfl 24 _ _ rfl _ rfl _ rfl (run_store_arr (Arr.new U1 _ _ _) (bys (pathR l idx seed)) info26 (bys_one _ _)) ?_))
    obtain ⟨g1, hg1⟩ : ∃ g, g = U1.heap.size := ⟨_, rfl⟩
    obtain ⟨V2, hV2⟩ : ∃ X, X = (U1.alloc (.cells (vec 32 (bys zb)) 24)).setRow U1.heap.size (vec 32 (bys (pathR l idx seed))) := ⟨_, rfl⟩
    have hA : Arr V2 g1 24 32 (bys (pathR l idx seed)) := by rw [hV2, hg1]; exact (Arr.new U1 _ _ _).row _
    have hb2 : Below U1.heap.size U1 V2 := by rw [hV2]; exact below_row ((Below.refl _ _).alloc (Nat.le_refl _) _) (Nat.le_refl _) _
    have hb : Below V1.heap.size V1 V2 := HU1.out.2.trans (hb2.mono HU1.out.2.size)
    have HX1 : Hid (NRow V2 V2.heap.size E1 (pathA l idx seed) ∧ Arr V2 g1 24 32 (bys (pathR l idx seed)) ∧ Below V1.heap.size V1 V2) := Lib.hid ⟨(HU1.out.1.below hb2).wide hb2.size, hA, hb⟩
    rw [← hV2, ← hg1]
    clear hV2 hg1 hA hb2 hb HU1
    go_upto_region 7 with (first
      | ((with_reducible show wpList _ _ _ (Oper.mk _ (.load _ _) _ _ _ _ :: _) _ _); refine wl_load rfl 24 _ rfl _ rfl _ (run_load_arr (HQ0.out.under HX1.out.2.2) Tryd.underlying24 rfl info26) ?_)
      | (go_at_call 14; refine (rpath_any Al cl l hl40 idx hidx seed _ ((HSl.out.below HX1.out.2.2).wide HX1.out.2.2.size) (tabs_below HT1.out HX1.out.2.2)).mono ?_; rintro e U2 ⟨v, rfl, ho, hd⟩; obtain ⟨E5, c5, rfl, -, hrow⟩ := ho.row; have HU2 := Lib.hid (And.intro hrow hd); clear ho hrow hd)
      | ((with_reducible show wpList _ _ _ (Oper.mk _ (.store _ _ _) _ _ _ _ :: _) _ _); refine wl_store rfl 24 _ _ rfl _ rfl _ rfl (run_store_arr (Arr.new U2 _ _ _) (bys (pathR l idx seed)) info26 (bys_one _ _)) ?_))
    obtain ⟨g2, hg2⟩ : ∃ g, g = U2.heap.size := ⟨_, rfl⟩
    obtain ⟨V3, hV3⟩ : ∃ X, X = (U2.alloc (.cells (vec 32 (bys zb)) 24)).setRow U2.heap.size (vec 32 (bys (pathR l idx seed))) := ⟨_, rfl⟩
    have hA : Arr V3 g2 24 32 (bys (pathR l idx seed)) := by rw [hV3, hg2]; exact (Arr.new U2 _ _ _).row _
    have hb2 : Below U2.heap.size U2 V3 := by rw [hV3]; exact below_row ((Below.refl _ _).alloc (Nat.le_refl _) _) (Nat.le_refl _) _
    have hb : Below V2.heap.size V2 V3 := HU2.out.2.trans (hb2.mono HU2.out.2.size)
    have HX2 : Hid (NRow V3 V3.heap.size E5 (pathA l idx seed) ∧ Arr V3 g2 24 32 (bys (pathR l idx seed)) ∧ Below V2.heap.size V2 V3) := Lib.hid ⟨(HU2.out.1.below hb2).wide hb2.size, hA, hb⟩
    rw [← hV3, ← hg2]
    clear hV3 hg2 hA hb2 hb HU2
    have HY : Hid (NRow V3 V3.heap.size E1 (pathA l idx seed) ∧ NRow V3 V3.heap.size E5 (pathA l idx seed) ∧ Arr V3 g1 24 32 (bys (pathR l idx seed)) ∧ Arr V3 g2 24 32 (bys (pathR l idx seed)) ∧ Below w.heap.size w V3) :=
      Lib.hid ⟨(HX1.out.1.below HX2.out.2.2).wide HX2.out.2.2.size, HX2.out.1, HX1.out.2.1.under HX2.out.2.2, HX2.out.2.1, HB.out.trans ((HX1.out.2.2.trans (HX2.out.2.2.mono HX1.out.2.2.size)).mono HB.out.size)⟩
    obtain ⟨f, hf⟩ : ∃ f, f = pathR l idx seed := ⟨_, rfl⟩
    obtain ⟨b, hb⟩ : ∃ b, b = isPath l.length idx := ⟨_, rfl⟩
    rw [← hf] at HY
    rw [← hb]
    clear HX1 HX2 HB HT1 HSl HQ0 hf hb
    cases b
    · go_wp2_with (first
        | ((with_reducible show wpList _ _ _ (Oper.mk _ (.load _ (.tmp 8)) _ _ _ _ :: _) _ _); refine wl_exec (by kernel_rfl) (exec_load 24 _ rfl _ rfl _ (run_load_arr HY.out.2.2.1 Tryd.underlying24 rfl info26)) ?_)
        | ((with_reducible show wpList _ _ _ (Oper.mk _ (.load _ (.tmp 11)) _ _ _ _ :: _) _ _); refine wl_exec (by kernel_rfl) (exec_load 24 _ rfl _ rfl _ (run_load_arr HY.out.2.2.2.1 Tryd.underlying24 rfl info26)) ?_)
        | ((with_reducible show wpList _ _ _ (Oper.mk _ (.binOp _ _ (.tmp 38) (.tmp 39) _) _ _ _ _ :: _) _ _); refine wl_exec (by kernel_rfl) (exec_eql32 _ _ _ rfl f rfl rfl _) ?_)
        | (go_at_call 15; refine (same_any E1 E5 c1 c5 (pathA l idx seed) (pathA_le _ _ _) _ HY.out.1 HY.out.2.1).mono ?_; rintro e V4 ⟨rfl, hd⟩; have H4 := Lib.hid hd; clear hd))
      go_ret
      exact ⟨rfl, HY.out.2.2.2.2.trans (H4.out.mono HY.out.2.2.2.2.size)⟩
    · go_wp2_with (first
        | ((with_reducible show wpList _ _ _ (Oper.mk _ (.load _ (.tmp 8)) _ _ _ _ :: _) _ _); refine wl_exec (by kernel_rfl) (exec_load 24 _ rfl _ rfl _ (run_load_arr HY.out.2.2.1 Tryd.underlying24 rfl info26)) ?_)
        | ((with_reducible show wpList _ _ _ (Oper.mk _ (.load _ (.tmp 11)) _ _ _ _ :: _) _ _); refine wl_exec (by kernel_rfl) (exec_load 24 _ rfl _ rfl _ (run_load_arr HY.out.2.2.2.1 Tryd.underlying24 rfl info26)) ?_)
        | ((with_reducible show wpList _ _ _ (Oper.mk _ (.binOp _ _ (.tmp 38) (.tmp 39) _) _ _ _ _ :: _) _ _); refine wl_exec (by kernel_rfl) (exec_eql32 _ _ _ rfl f rfl rfl _) ?_)
        | (go_at_call 15; refine (same_any E1 E5 c1 c5 (pathA l idx seed) (pathA_le _ _ _) _ HY.out.1 HY.out.2.1).mono ?_; rintro e V4 ⟨rfl, hd⟩; have H4 := Lib.hid hd; clear hd))
      go_ret
      exact ⟨rfl, HY.out.2.2.2.2.trans (H4.out.mono HY.out.2.2.2.2.size)⟩
end Go.Proofs.YtmhdhhdhnkoocaaDoor
