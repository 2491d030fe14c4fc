/- The law ImgHeaders: any header as bytes, the header that any bytes are. -/
import Derived.Test.YtgoblolbkchggaaDoorLw15
namespace Go.Proofs.YtgoblolbkchggaaDoor
open Go.RowKit
attribute [local go_sem ↓ high] zeroHd

set_option maxHeartbeats 1000000 in
set_option maxRecDepth 100000 in
theorem imgHeaders_walk (h : Hd) (A : Option Addr) (c : Nat) (b : By) (w : World) (hb : HdB h) (hc : b.length ≤ c) (hl : Lies w w.heap.size 1 A b.length (u8s b)) :
    Calls Tryd.prog 3 #[.agg (vec 35 (hdF h)), .slice A b.length c] w fun e w' => e = .returned (.bool true) ∧ Below w.heap.size w w' := by
  obtain ⟨q, hq⟩ : ∃ q, q = w.heap.size := ⟨_, rfl⟩
  obtain ⟨V0, hV0⟩ : ∃ V, V = w.alloc (.cells (vec 35 (hdF h)) 26) := ⟨_, rfl⟩
  have k0 : Arr V0 q 26 35 (hdF h) := by rw [hV0, hq]; exact Arr.new w _ _ _
  have hB : Below w.heap.size w V0 := by rw [hV0]; exact (Below.refl _ _).alloc (Nat.le_refl _) _
  obtain ⟨S0, hS0, hsz⟩ := strS h.name
  have k2 : V0.cell? ⟨q, 2, none⟩ = some (.string S0) := by rw [hS0]; exact k0.cell (i := 2) (by decide)
  obtain ⟨NN, hNN⟩ : ∃ n, n = h.name.length := ⟨_, rfl⟩
  rw [← hNN] at hsz
  obtain ⟨NB, hNB⟩ : ∃ n, n = b.length := ⟨_, rfl⟩
  have HOF : Hid (∀ W, Below w.heap.size w W → Calls Tryd.prog 10 #[.slice A NB c] W (HeadE (oH (ofH b)) (oE (ofH b)) W)) := Lib.hid (fun W hW => by rw [hNB]; exact (of_any b A c W ((hl.below hW).wide hW.size)).mono fun e w' => OfP.gen)
  have HRO : Hid (∀ W, Below w.heap.size w W → Calls Tryd.prog 11 #[.slice A NB c] W (HeadE (oH (ofH b)) (oE (ofH b)) W)) := Lib.hid (fun W hW => by rw [hNB]; exact (rof_any b A c hc W ((hl.below hW).wide hW.size)).mono fun e w' => OfP.gen)
  have HPU : Hid (NN ≤ 200 → ∀ W, Calls Tryd.prog 8 #[.agg (vec 35 (hdF h))] W (BytesE (oL (putP h)) (oL (putP h)).length (oE (putP h)) W)) := Lib.hid (fun hn W => (put_any h hb (by omega) W).mono fun e w' => OptP.gen)
  have HRP : Hid (NN ≤ 200 → ∀ W, Calls Tryd.prog 9 #[.agg (vec 35 (hdF h))] W (BytesE (oL (putP h)) (oL (putP h)).length (oE (putP h)) W)) := Lib.hid (fun hn W => (rput_h h hb (by omega) W).mono fun e w' => OptP.gen)
  obtain ⟨OH, hOH⟩ : ∃ x, x = oH (ofH b) := ⟨_, rfl⟩
  obtain ⟨oe, hoe⟩ : ∃ x, x = oE (ofH b) := ⟨_, rfl⟩
  obtain ⟨PL, hPL⟩ : ∃ x, x = oL (putP h) := ⟨_, rfl⟩
  obtain ⟨pe, hpe⟩ : ∃ x, x = oE (putP h) := ⟨_, rfl⟩
  rw [← hOH, ← hoe] at HOF HRO
  rw [← hPL, ← hpe] at HPU HRP
  obtain ⟨PN, hPN⟩ : ∃ x, x = PL.length := ⟨_, rfl⟩
  rw [← hPN] at HPU HRP
  rw [← hNB]
  unfold HeadE at HOF HRO
  unfold BytesE at HPU HRP
  have H0 := Lib.hid (And.intro k0 (And.intro hB k2))
  have HW := Lib.hid hV0
  have HQ := Lib.hid hq
  have p1 : (pe == pe) = true := by simp
  have o1 : (oe == oe) = true := by simp
  clear hV0 k0 hB hl hq hb hc hS0 hNN hNB hOH hoe hPL hpe hPN k2
  go_enter Tryd.func3, Tryd.ntmps3
  go_upto_region 1 with fail
  rw [← HW.out, ← HQ.out]
  clear HW
  go_upto_region 3 with (go_at_call 7; refine (awake_any _).mono ?_; rintro e V ⟨rfl, hd⟩; have HAW := Lib.hid hd; clear hd)
  have HV : Hid (Below w.heap.size w V) := Lib.hid (H0.out.2.1.trans (HAW.out.mono H0.out.2.1.size))
  have HA := Lib.hid (H0.out.1.under HAW.out)
  have c2 : V.cell? ⟨q, 2, none⟩ = some (.string S0) := (HAW.out.cell (World.block_lt_of_cell? V0 _ H0.out.2.2)).trans H0.out.2.2
  clear H0 HAW
  by_cases s1 : (200 : Int) < (NN : Int)
  · clear HPU HRP HOF HRO
    go_wp2_with fail
    go_ret
    exact ⟨rfl, HV.out⟩
  by_cases s2 : (200 : Int) < (NB : Int)
  · clear HPU HRP HOF HRO
    go_wp2_with fail
    go_ret
    exact ⟨rfl, HV.out⟩
  have HPU := Lib.hid (HPU.out (by omega))
  have HRP := Lib.hid (HRP.out (by omega))
  go_upto_region 5 with fail
  clear s1 s2 c2 hsz
  go_upto_region 6 with (first
    | ((with_reducible show wpList _ _ _ (Oper.mk (some 25) (.load _ _) _ _ _ _ :: _) _ _); refine wl_load rfl 26 _ rfl q rfl _ (run_load_arr HA.out Tryd.underlying26 rfl infoHd) ?_)
    | (go_at_call 8; refine (HPU.out _).mono ?_; rintro e w1 ⟨A1, c1, rfl, -, hl1, hd⟩; have HD := Lib.hid hd; have HL1 := Lib.hid hl1; clear hd hl1))
  go_upto_region 7 with (first
    | ((with_reducible show wpList _ _ _ (Oper.mk (some 30) (.load _ _) _ _ _ _ :: _) _ _); refine wl_load rfl 26 _ rfl q rfl _ (run_load_arr (HA.out.under HD.out) Tryd.underlying26 rfl infoHd) ?_)
    | (go_at_call 9; refine (HRP.out _).mono ?_; rintro e w2 ⟨A2, c2, rfl, -, hl2, hd⟩; have HL1 := Lib.hid (lies_on2 HL1.out hd); have HD := Lib.hid (HD.out.trans (hd.mono HD.out.size)); have HL2 := Lib.hid hl2; clear hd hl2))
  have HV2 := Lib.hid (HV.out.trans (HD.out.mono HV.out.size))
  go_upto_region 8 with (first
    | (go_at_call 10; refine (HOF.out _ HV2.out).mono ?_; rintro e w3 ⟨rfl, hd⟩; have HD3 := Lib.hid hd; clear hd)
    | ((with_reducible show wpList _ _ _ (Oper.mk _ (.store _ _ _) _ _ _ _ :: _) _ _); refine wl_store rfl 26 _ _ rfl _ rfl _ rfl (run_store_arr (Arr.new w3 _ _ _) (hdF OH) infoHd (hdF_one _ _)) ?_))
  obtain ⟨r3, X3, hX3, hr3, x1, x2, x3, x4⟩ := hd_new (h := OH) HD3.out
  rw [← hX3, ← hr3]
  have HX3 := Lib.hid (And.intro x1 x2)
  have HV3 := Lib.hid (HV2.out.trans (x2.mono HV2.out.size))
  have HL1 := Lib.hid (lies_on2 HL1.out x2)
  have HL2 := Lib.hid (lies_on2 HL2.out x2)
  clear hX3 hr3 x1 x2 x3 x4 HD3 HD
  go_upto_region 9 with (first
    | (go_at_call 11; refine (HRO.out _ HV3.out).mono ?_; rintro e w4 ⟨rfl, hd⟩; have HD4 := Lib.hid hd; clear hd)
    | ((with_reducible show wpList _ _ _ (Oper.mk _ (.store _ _ _) _ _ _ _ :: _) _ _); refine wl_store rfl 26 _ _ rfl _ rfl _ rfl (run_store_arr (Arr.new w4 _ _ _) (hdF OH) infoHd (hdF_one _ _)) ?_))
  obtain ⟨r4, X4, hX4, hr4, x1, x2, x3, x4⟩ := hd_new (h := OH) HD4.out
  rw [← hX4, ← hr4]
  have HX4 := Lib.hid (And.intro x1 (HX3.out.1.under x2))
  have HV4 := Lib.hid (HV3.out.trans (x2.mono HV3.out.size))
  obtain ⟨S, hS⟩ : ∃ S, S = strOf PL := ⟨_, rfl⟩
  have cv1 := conv_str X4 X4.heap.size A1 PN c1 PL (lies_on2 HL1.out x2)
  have cv2 := conv_str X4 X4.heap.size A2 PN c2 PL (lies_on2 HL2.out x2)
  rw [← hS] at cv1 cv2
  clear hX4 hr4 x1 x2 x3 x4 HD4 HX3 HL1 HL2 hS HPU HRP HOF HRO
  go_wp2_with (first
    | ((with_reducible show wpList _ _ _ (Oper.mk (some 55) (.load _ _) _ _ _ _ :: _) _ _); refine wl_execG (by kernel_rfl) (exec_load_at 26 _ rfl r3 0 rfl _ (run_load_arr HX4.out.2 Tryd.underlying26 rfl infoHd)) ?_)
    | ((with_reducible show wpList _ _ _ (Oper.mk (some 56) (.load _ _) _ _ _ _ :: _) _ _); refine wl_execG (by kernel_rfl) (exec_load_at 26 _ rfl r4 0 rfl _ (run_load_arr HX4.out.1 Tryd.underlying26 rfl infoHd)) ?_)
    | ((with_reducible show wpList _ _ _ (Oper.mk _ (.binOp _ 26 _ _ _) _ _ _ _ :: _) _ _); refine wl_execG (by kernel_rfl) (exec_eql_hd _ _ _ rfl OH rfl rfl _) ?_))
  go_ret
  exact ⟨rfl, HV4.out⟩
end Go.Proofs.YtgoblolbkchggaaDoor
