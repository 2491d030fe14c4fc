/- The law ImgSplits: the parts of any image, or that it is none. -/
import Derived.Test.YtgoblolbkchggaaDoorLw15
namespace Go.Proofs.YtgoblolbkchggaaDoor
open Go.RowKit
attribute [local go_sem ↓ high] zeroHd

set_option maxHeartbeats 1000000 in
set_option maxRecDepth 100000 in
theorem imgSplits_walk (A : Option Addr) (c : Nat) (b : By) (oid : Nat) (w : World) (hc : b.length ≤ c) (hl : Lies w w.heap.size 1 A b.length (u8s b)) (ho : oid < 4294967296) :
    Calls Tryd.prog 5 #[.slice A b.length c, .int .u32 (oid : Int)] w fun e w' => e = .returned (.bool true) ∧ Below w.heap.size w w' := by
  obtain ⟨NB, hNB⟩ : ∃ n, n = b.length := ⟨_, rfl⟩
  have HOF : Hid (NB ≤ 6000 → ∀ W, Below w.heap.size w W → Calls Tryd.prog 12 #[.slice A NB c, .int .u32 (oid : Int)] W (PartsE (sH (splitP b oid)) (s1 (splitP b oid)) (s2 (splitP b oid)) (s3 (splitP b oid)) (s1 (splitP b oid)).length (s2 (splitP b oid)).length (s3 (splitP b oid)).length (sE (splitP b oid)) W)) := Lib.hid (fun hn W hW => by rw [hNB]; exact (split_any b A c hc (by omega) oid ho W ((hl.below hW).wide hW.size)).mono fun e w' => SpP.gen)
  have HRO : Hid (NB ≤ 6000 → ∀ W, Below w.heap.size w W → Calls Tryd.prog 13 #[.slice A NB c, .int .u32 (oid : Int)] W (PartsE (sH (splitP b oid)) (s1 (splitP b oid)) (s2 (splitP b oid)) (s3 (splitP b oid)) (s1 (splitP b oid)).length (s2 (splitP b oid)).length (s3 (splitP b oid)).length (sE (splitP b oid)) W)) := Lib.hid (fun hn W hW => by rw [hNB]; exact (rsplit_any b A c hc (by omega) oid ho W ((hl.below hW).wide hW.size)).mono fun e w' => SpP.gen)
  obtain ⟨OH, hOH⟩ : ∃ x, x = sH (splitP b oid) := ⟨_, rfl⟩
  obtain ⟨oe, hoe⟩ : ∃ x, x = sE (splitP b oid) := ⟨_, rfl⟩
  obtain ⟨L1, hL1⟩ : ∃ x, x = s1 (splitP b oid) := ⟨_, rfl⟩
  obtain ⟨L2, hL2⟩ : ∃ x, x = s2 (splitP b oid) := ⟨_, rfl⟩
  obtain ⟨L3, hL3⟩ : ∃ x, x = s3 (splitP b oid) := ⟨_, rfl⟩
  rw [← hOH, ← hoe, ← hL1, ← hL2, ← hL3] at HOF HRO
  obtain ⟨N1, hN1⟩ : ∃ x, x = L1.length := ⟨_, rfl⟩
  obtain ⟨N2, hN2⟩ : ∃ x, x = L2.length := ⟨_, rfl⟩
  obtain ⟨N3, hN3⟩ : ∃ x, x = L3.length := ⟨_, rfl⟩
  rw [← hN1, ← hN2, ← hN3] at HOF HRO
  rw [← hNB]
  unfold PartsE at HOF HRO
  have o1 : (oe == oe) = true := by simp
  clear hl hc hNB hOH hoe hL1 hL2 hL3 hN1 hN2 hN3
  go_enter Tryd.func5, Tryd.ntmps5
  go_upto_region 3 with (go_at_call 7; refine (awake_any _).mono ?_; rintro e V ⟨rfl, hd⟩; have HV := Lib.hid hd; clear hd)
  by_cases s2 : (6000 : Int) < (NB : Int)
  · clear HOF HRO
    go_wp2_with fail
    go_ret
    exact ⟨rfl, HV.out⟩
  have HOF := Lib.hid (HOF.out (by omega))
  have HRO := Lib.hid (HRO.out (by omega))
  go_upto_region 5 with fail
  clear s2
  go_upto_region 6 with (first
    | (go_at_call 12; refine (HOF.out _ HV.out).mono ?_; rintro e w3 ⟨A1, c1, A2, c2, A3, c3, rfl, l1, l2, l3, hd⟩; have HD3 := Lib.hid hd; have HL := Lib.hid (And.intro l1 (And.intro l2 l3)); clear hd l1 l2 l3)
    | ((with_reducible show wpList _ _ _ (Oper.mk _ (.store _ _ _) _ _ _ _ :: _) _ _); refine wl_store rfl 26 _ _ rfl _ rfl _ rfl (run_store_arr (Arr.new w3 _ _ _) (hdF OH) infoHd (hdF_one _ _)) ?_))
  obtain ⟨r3, X3, hX3, hr3, x1, x2, x3, x4⟩ := hd_new (h := OH) HD3.out
  rw [← hX3, ← hr3]
  have HX3 := Lib.hid x1
  have HV3 := Lib.hid (HV.out.trans (x2.mono HV.out.size))
  have HL := Lib.hid (And.intro (lies_on2 HL.out.1 x3) (And.intro (lies_on2 HL.out.2.1 x3) (lies_on2 HL.out.2.2 x3)))
  clear hX3 hr3 x1 x2 x3 x4 HD3
  go_upto_region 7 with (first
    | (go_at_call 13; refine (HRO.out _ HV3.out).mono ?_; rintro e w4 ⟨B1, d1, B2, d2, B3, d3, rfl, l1, l2, l3, hd⟩; have HD4 := Lib.hid hd; have HM := Lib.hid (And.intro l1 (And.intro l2 l3)); clear hd l1 l2 l3)
    | ((with_reducible show wpList _ _ _ (Oper.mk _ (.store _ _ _) _ _ _ _ :: _) _ _); refine wl_store rfl 26 _ _ rfl _ rfl _ rfl (run_store_arr (Arr.new w4 _ _ _) (hdF OH) infoHd (hdF_one _ _)) ?_))
  obtain ⟨r4, X4, hX4, hr4, x1, x2, x3, x4⟩ := hd_new (h := OH) HD4.out
  rw [← hX4, ← hr4]
  have HX4 := Lib.hid (And.intro x1 (HX3.out.under x2))
  have HV4 := Lib.hid (HV3.out.trans (x2.mono HV3.out.size))
  obtain ⟨S1, hS1⟩ : ∃ S, S = strOf L1 := ⟨_, rfl⟩
  obtain ⟨S2, hS2⟩ : ∃ S, S = strOf L2 := ⟨_, rfl⟩
  obtain ⟨S3, hS3⟩ : ∃ S, S = strOf L3 := ⟨_, rfl⟩
  have cv1 := conv_str X4 X4.heap.size A1 N1 c1 L1 (lies_on2 HL.out.1 x2)
  have cv2 := conv_str X4 X4.heap.size A2 N2 c2 L2 (lies_on2 HL.out.2.1 x2)
  have cv3 := conv_str X4 X4.heap.size A3 N3 c3 L3 (lies_on2 HL.out.2.2 x2)
  have dv1 := conv_str X4 X4.heap.size B1 N1 d1 L1 (lies_on2 HM.out.1 x3)
  have dv2 := conv_str X4 X4.heap.size B2 N2 d2 L2 (lies_on2 HM.out.2.1 x3)
  have dv3 := conv_str X4 X4.heap.size B3 N3 d3 L3 (lies_on2 HM.out.2.2 x3)
  rw [← hS1] at cv1 dv1
  rw [← hS2] at cv2 dv2
  rw [← hS3] at cv3 dv3
  clear hX4 hr4 x1 x2 x3 x4 HD4 HX3 HL HM hS1 hS2 hS3 HOF HRO
  go_wp2_with (first
    | ((with_reducible show wpList _ _ _ (Oper.mk (some 38) (.load _ _) _ _ _ _ :: _) _ _); refine wl_execG (by kernel_rfl) (exec_load_at 26 _ rfl r3 0 rfl _ (run_load_arr HX4.out.2 Tryd.underlying26 rfl infoHd)) ?_)
    | ((with_reducible show wpList _ _ _ (Oper.mk (some 39) (.load _ _) _ _ _ _ :: _) _ _); refine wl_execG (by kernel_rfl) (exec_load_at 26 _ rfl r4 0 rfl _ (run_load_arr HX4.out.1 Tryd.underlying26 rfl infoHd)) ?_)
    | ((with_reducible show wpList _ _ _ (Oper.mk _ (.binOp _ 26 _ _ _) _ _ _ _ :: _) _ _); refine wl_execG (by kernel_rfl) (exec_eql_hd _ _ _ rfl OH rfl rfl _) ?_))
  go_ret
  exact ⟨rfl, HV4.out⟩
end Go.Proofs.YtgoblolbkchggaaDoor
