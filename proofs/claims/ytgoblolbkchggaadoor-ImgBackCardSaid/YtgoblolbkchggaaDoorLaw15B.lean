/- The law ImgBack: a header that is put is read as it was; one that is read is put as it was. -/
import Derived.Test.YtgoblolbkchggaaDoorLw15
namespace Go.Proofs.YtgoblolbkchggaaDoor
open Go.RowKit
attribute [local go_sem ↓ high] zeroHd

theorem oH_b (b : By) : HdB (oH (ofH b)) ∧ (oH (ofH b)).name.length ≤ 16 := by
  cases e : ofH b with
  | none => exact ⟨zHd_b, by decide⟩
  | some h =>
    obtain ⟨-, h2, h3, -⟩ := of_some e
    exact ⟨h2, nameOk_len h3⟩
set_option maxHeartbeats 1000000 in
set_option maxRecDepth 100000 in
theorem imgBack_walk (h : Hd) (A : Option Addr) (c : Nat) (b : By) (w : World) (hb : HdB h) (_hc : b.length ≤ c) (hl : Lies w w.heap.size 1 A b.length (u8s b)) :
    Calls Tryd.prog 4 #[.agg (vec 35 (hdF h)), .slice A b.length c] w fun e w' => e = .returned (.bool true) ∧ Below w.heap.size w w' := by
  obtain ⟨q, hq⟩ : ∃ q, q = w.heap.size := ⟨_, rfl⟩
  obtain ⟨V0, hV0⟩ : ∃ V, V = w.alloc (.cells (vec 35 (hdF h)) 26) := ⟨_, rfl⟩
  have k0 : Arr V0 q 26 35 (hdF h) := by rw [hV0, hq]; exact Arr.new w _ _ _
  have hB : Below w.heap.size w V0 := by rw [hV0]; exact (Below.refl _ _).alloc (Nat.le_refl _) _
  obtain ⟨S0, hS0, hsz⟩ := strS h.name
  have k2 : V0.cell? ⟨q, 2, none⟩ = some (.string S0) := by rw [hS0]; exact k0.cell (i := 2) (by decide)
  obtain ⟨NN, hNN⟩ : ∃ n, n = h.name.length := ⟨_, rfl⟩
  rw [← hNN] at hsz
  obtain ⟨NB, hNB⟩ : ∃ n, n = b.length := ⟨_, rfl⟩
  have HOF : Hid (∀ W, Below w.heap.size w W → Calls Tryd.prog 10 #[.slice A NB c] W (HeadE (oH (ofH b)) (oE (ofH b)) W)) := Lib.hid (fun W hW => by rw [hNB]; exact (of_any b A c W ((hl.below hW).wide hW.size)).mono fun e w' => OfP.gen)
  have HPU : Hid (NN ≤ 200 → ∀ W, Calls Tryd.prog 8 #[.agg (vec 35 (hdF h))] W (BytesE (oL (putP h)) (oL (putP h)).length (oE (putP h)) W)) := Lib.hid (fun hn W => (put_any h hb (by omega) W).mono fun e w' => OptP.gen)
  have HO1 : Hid (∀ W A' c', Lies W W.heap.size 1 A' (oL (putP h)).length (u8s (oL (putP h))) → Calls Tryd.prog 10 #[.slice A' (oL (putP h)).length c'] W (HeadE (oH (ofH (oL (putP h)))) (oE (ofH (oL (putP h)))) W)) := Lib.hid (fun W A' c' hl => (of_any _ A' c' W hl).mono fun e w' => OfP.gen)
  have HP2 : Hid (∀ W, Calls Tryd.prog 8 #[.agg (vec 35 (hdF (oH (ofH b))))] W (BytesE (oL (putP (oH (ofH b)))) (oL (putP (oH (ofH b)))).length (oE (putP (oH (ofH b)))) W)) := Lib.hid (fun W => (put_any _ (oH_b b).1 (by have := (oH_b b).2; omega) W).mono fun e w' => OptP.gen)
  have HLB : Hid (∀ W, Below w.heap.size w W → Lies W W.heap.size 1 A NB (u8s b)) := Lib.hid (fun W hW => by rw [hNB]; exact (hl.below hW).wide hW.size)
  have hput : (putP h = some (layH h) ∧ ofH (layH h) = some h) ∨ putP h = none := by
    unfold putP
    by_cases hn : nameOk h.name = true
    · rw [if_pos hn]; exact Or.inl ⟨rfl, of_lay hb hn⟩
    · rw [if_neg hn]; exact Or.inr rfl
  have hofb : (∃ h2, ofH b = some h2 ∧ putP h2 = some b) ∨ ofH b = none := by
    cases e : ofH b with
    | none => exact Or.inr rfl
    | some h2 =>
      obtain ⟨-, q2, q3, q4⟩ := of_some e
      exact Or.inl ⟨h2, rfl, by unfold putP; rw [if_pos q3, q4]⟩
  have H0 := Lib.hid (And.intro k0 (And.intro hB k2))
  have HW := Lib.hid hV0
  have HQ := Lib.hid hq
  rw [← hNB]
  have HNB := Lib.hid hNB
  clear hV0 k0 hB hl hq hb hS0 hNN hNB k2
  rcases hput with ⟨hp1, hp2⟩ | hp1
  · rw [hp1] at HPU HO1
    unfold oL oE at HPU HO1
    simp only [Option.getD_some] at HPU HO1
    rw [hp2] at HO1
    unfold oH at HO1
    simp only [Option.getD_some] at HO1
    unfold HeadE at HO1
    unfold BytesE at HPU
    obtain ⟨PL, hPL⟩ : ∃ x, x = layH h := ⟨_, rfl⟩
    rw [← hPL] at HPU HO1
    obtain ⟨PN, hPN⟩ : ∃ x, x = PL.length := ⟨_, rfl⟩
    rw [← hPN] at HPU HO1
    clear hp1 hp2 hPL hPN
    rcases hofb with ⟨h2, ho1, ho2⟩ | ho1
    · rw [ho1] at HOF HP2
      unfold oH oE at HOF HP2
      simp only [Option.getD_some] at HOF HP2
      rw [ho2] at HP2
      unfold oL at HP2
      simp only [Option.getD_some] at HP2
      unfold HeadE at HOF
      unfold BytesE at HP2
      rw [← HNB.out] at HP2
      clear ho1 ho2 HNB
      go_enter Tryd.func4, Tryd.ntmps4
      go_upto_region 1 with fail
      rw [← HW.out, ← HQ.out]
      clear HW
      go_upto_region 3 with (go_at_call 7; refine (awake_any _).mono ?_; rintro e V ⟨rfl, hd⟩; have HAW := Lib.hid hd; clear hd)
      have HV : Hid (Below w.heap.size w V) := Lib.hid (H0.out.2.1.trans (HAW.out.mono H0.out.2.1.size))
      have HA := Lib.hid (H0.out.1.under HAW.out)
      have c2 : V.cell? ⟨q, 2, none⟩ = some (.string S0) := (HAW.out.cell (World.block_lt_of_cell? V0 _ H0.out.2.2)).trans H0.out.2.2
      clear H0 HAW
      by_cases s1 : (200 : Int) < (NN : Int)
      · clear HPU HOF HO1 HP2
        go_wp2_with fail
        go_ret
        exact ⟨rfl, HV.out⟩
      by_cases s2 : (200 : Int) < (NB : Int)
      · clear HPU HOF HO1 HP2
        go_wp2_with fail
        go_ret
        exact ⟨rfl, HV.out⟩
      have HPU := Lib.hid (HPU.out (by omega))
      go_upto_region 5 with fail
      clear s1 s2 c2 hsz
      go_upto_region 6 with (first
        | ((with_reducible show wpList _ _ _ (Oper.mk (some 25) (.load _ _) _ _ _ _ :: _) _ _); refine wl_load rfl 26 _ rfl q rfl _ (run_load_arr HA.out Tryd.underlying26 rfl infoHd) ?_)
        | (go_at_call 8; refine (HPU.out _).mono ?_; rintro e w1 ⟨A1, c1, rfl, -, hl1, hd⟩; have HD := Lib.hid hd; have HL1 := Lib.hid hl1; clear hd hl1))
      go_upto_region 7 with (first
        | (go_at_call 10; refine (HO1.out _ A1 c1 HL1.out).mono ?_; rintro e w3 ⟨rfl, hd⟩; have HD3 := Lib.hid hd; clear hd)
        | ((with_reducible show wpList _ _ _ (Oper.mk _ (.store _ _ _) _ _ _ _ :: _) _ _); refine wl_store rfl 26 _ _ rfl _ rfl _ rfl (run_store_arr (Arr.new w3 _ _ _) (hdF h) infoHd (hdF_one _ _)) ?_))
      obtain ⟨r3, X3, hX3, hr3, x1, x2, x3, x4⟩ := hd_new (h := h) HD3.out
      rw [← hX3, ← hr3]
      have HX3 := Lib.hid x1
      have HD4 := Lib.hid (HD.out.trans (x2.mono HD.out.size))
      have HV3 := Lib.hid (HV.out.trans (HD4.out.mono HV.out.size))
      clear hX3 hr3 x1 x2 x3 x4 HD3 HL1 HO1 HPU
      go_upto_region 9 with (first
          | ((with_reducible show wpList _ _ _ (Oper.mk (some 40) (.load _ _) _ _ _ _ :: _) _ _); refine wl_execG (by kernel_rfl) (exec_load_at 26 _ rfl r3 0 rfl _ (run_load_arr HX3.out Tryd.underlying26 rfl infoHd)) ?_)
          | ((with_reducible show wpList _ _ _ (Oper.mk (some 41) (.load _ _) _ _ _ _ :: _) _ _); refine wl_execG (by kernel_rfl) (exec_load_at 26 _ rfl q 0 rfl _ (run_load_arr (HA.out.under HD4.out) Tryd.underlying26 rfl infoHd)) ?_)
          | ((with_reducible show wpList _ _ _ (Oper.mk _ (.binOp _ 26 _ _ _) _ _ _ _ :: _) _ _); refine wl_execG (by kernel_rfl) (exec_neq_hd _ _ _ rfl h rfl rfl _) ?_))
      clear HX3
      go_upto_region 10 with (first
        | (go_at_call 10; refine (HOF.out _ HV3.out).mono ?_; rintro e w4 ⟨rfl, hd⟩; have HD5 := Lib.hid hd; clear hd)
        | ((with_reducible show wpList _ _ _ (Oper.mk _ (.store _ _ _) _ _ _ _ :: _) _ _); refine wl_store rfl 26 _ _ rfl _ rfl _ rfl (run_store_arr (Arr.new w4 _ _ _) (hdF h2) infoHd (hdF_one _ _)) ?_))
      obtain ⟨r4, X4, hX4, hr4, x1, x2, x3, x4⟩ := hd_new (h := h2) HD5.out
      rw [← hX4, ← hr4]
      have HX4 := Lib.hid x1
      have HV4 := Lib.hid (HV3.out.trans (x2.mono HV3.out.size))
      clear hX4 hr4 x1 x2 x3 x4 HD5 HOF
      go_upto_region 11 with (first
        | ((with_reducible show wpList _ _ _ (Oper.mk (some 51) (.load _ _) _ _ _ _ :: _) _ _); refine wl_load rfl 26 _ rfl r4 rfl _ (run_load_arr HX4.out Tryd.underlying26 rfl infoHd) ?_)
        | (go_at_call 8; refine (HP2.out _).mono ?_; rintro e w5 ⟨A5, c5, rfl, -, hl5, hd⟩; have HV5 := Lib.hid (HV4.out.trans (hd.mono HV4.out.size)); have HL5 := Lib.hid hl5; clear hd hl5))
      have cv1 := conv_str w5 w5.heap.size A5 NB c5 b HL5.out
      have cv2 := conv_str w5 w5.heap.size A NB c b (HLB.out _ HV5.out)
      obtain ⟨S, hS⟩ : ∃ S, S = strOf b := ⟨_, rfl⟩
      rw [← hS] at cv1 cv2
      clear hS
      go_wp2_with fail
      go_ret
      exact ⟨rfl, HV5.out⟩
    · rw [ho1] at HOF HP2
      unfold oH oE at HOF
      simp only [Option.getD_none] at HOF
      unfold oH at HP2
      simp only [Option.getD_none] at HP2
      unfold HeadE at HOF
      unfold BytesE at HP2
      obtain ⟨L2, hL2⟩ : ∃ x, x = oL (putP zHd) := ⟨_, rfl⟩
      obtain ⟨e2, he2⟩ : ∃ x, x = oE (putP zHd) := ⟨_, rfl⟩
      rw [← hL2, ← he2] at HP2
      obtain ⟨N2, hN2⟩ : ∃ x, x = L2.length := ⟨_, rfl⟩
      rw [← hN2] at HP2
      clear ho1 hL2 he2 hN2 HNB
      go_enter Tryd.func4, Tryd.ntmps4
      go_upto_region 1 with fail
      rw [← HW.out, ← HQ.out]
      clear HW
      go_upto_region 3 with (go_at_call 7; refine (awake_any _).mono ?_; rintro e V ⟨rfl, hd⟩; have HAW := Lib.hid hd; clear hd)
      have HV : Hid (Below w.heap.size w V) := Lib.hid (H0.out.2.1.trans (HAW.out.mono H0.out.2.1.size))
      have HA := Lib.hid (H0.out.1.under HAW.out)
      have c2 : V.cell? ⟨q, 2, none⟩ = some (.string S0) := (HAW.out.cell (World.block_lt_of_cell? V0 _ H0.out.2.2)).trans H0.out.2.2
      clear H0 HAW
      by_cases s1 : (200 : Int) < (NN : Int)
      · clear HPU HOF HO1 HP2
        go_wp2_with fail
        go_ret
        exact ⟨rfl, HV.out⟩
      by_cases s2 : (200 : Int) < (NB : Int)
      · clear HPU HOF HO1 HP2
        go_wp2_with fail
        go_ret
        exact ⟨rfl, HV.out⟩
      have HPU := Lib.hid (HPU.out (by omega))
      go_upto_region 5 with fail
      clear s1 s2 c2 hsz
      go_upto_region 6 with (first
        | ((with_reducible show wpList _ _ _ (Oper.mk (some 25) (.load _ _) _ _ _ _ :: _) _ _); refine wl_load rfl 26 _ rfl q rfl _ (run_load_arr HA.out Tryd.underlying26 rfl infoHd) ?_)
        | (go_at_call 8; refine (HPU.out _).mono ?_; rintro e w1 ⟨A1, c1, rfl, -, hl1, hd⟩; have HD := Lib.hid hd; have HL1 := Lib.hid hl1; clear hd hl1))
      go_upto_region 7 with (first
        | (go_at_call 10; refine (HO1.out _ A1 c1 HL1.out).mono ?_; rintro e w3 ⟨rfl, hd⟩; have HD3 := Lib.hid hd; clear hd)
        | ((with_reducible show wpList _ _ _ (Oper.mk _ (.store _ _ _) _ _ _ _ :: _) _ _); refine wl_store rfl 26 _ _ rfl _ rfl _ rfl (run_store_arr (Arr.new w3 _ _ _) (hdF h) infoHd (hdF_one _ _)) ?_))
      obtain ⟨r3, X3, hX3, hr3, x1, x2, x3, x4⟩ := hd_new (h := h) HD3.out
      rw [← hX3, ← hr3]
      have HX3 := Lib.hid x1
      have HD4 := Lib.hid (HD.out.trans (x2.mono HD.out.size))
      have HV3 := Lib.hid (HV.out.trans (HD4.out.mono HV.out.size))
      clear hX3 hr3 x1 x2 x3 x4 HD3 HL1 HO1 HPU
      go_upto_region 9 with (first
          | ((with_reducible show wpList _ _ _ (Oper.mk (some 40) (.load _ _) _ _ _ _ :: _) _ _); refine wl_execG (by kernel_rfl) (exec_load_at 26 _ rfl r3 0 rfl _ (run_load_arr HX3.out Tryd.underlying26 rfl infoHd)) ?_)
          | ((with_reducible show wpList _ _ _ (Oper.mk (some 41) (.load _ _) _ _ _ _ :: _) _ _); refine wl_execG (by kernel_rfl) (exec_load_at 26 _ rfl q 0 rfl _ (run_load_arr (HA.out.under HD4.out) Tryd.underlying26 rfl infoHd)) ?_)
          | ((with_reducible show wpList _ _ _ (Oper.mk _ (.binOp _ 26 _ _ _) _ _ _ _ :: _) _ _); refine wl_execG (by kernel_rfl) (exec_neq_hd _ _ _ rfl h rfl rfl _) ?_))
      clear HX3
      go_upto_region 10 with (first
        | (go_at_call 10; refine (HOF.out _ HV3.out).mono ?_; rintro e w4 ⟨rfl, hd⟩; have HD5 := Lib.hid hd; clear hd)
        | ((with_reducible show wpList _ _ _ (Oper.mk _ (.store _ _ _) _ _ _ _ :: _) _ _); refine wl_store rfl 26 _ _ rfl _ rfl _ rfl (run_store_arr (Arr.new w4 _ _ _) (hdF zHd) infoHd (hdF_one _ _)) ?_))
      obtain ⟨r4, X4, hX4, hr4, x1, x2, x3, x4⟩ := hd_new (h := zHd) HD5.out
      rw [← hX4, ← hr4]
      have HX4 := Lib.hid x1
      have HV4 := Lib.hid (HV3.out.trans (x2.mono HV3.out.size))
      clear hX4 hr4 x1 x2 x3 x4 HD5 HOF
      go_upto_region 11 with (first
        | ((with_reducible show wpList _ _ _ (Oper.mk (some 51) (.load _ _) _ _ _ _ :: _) _ _); refine wl_load rfl 26 _ rfl r4 rfl _ (run_load_arr HX4.out Tryd.underlying26 rfl infoHd) ?_)
        | (go_at_call 8; refine (HP2.out _).mono ?_; rintro e w5 ⟨A5, c5, rfl, -, hl5, hd⟩; have HV5 := Lib.hid (HV4.out.trans (hd.mono HV4.out.size)); have HL5 := Lib.hid hl5; clear hd hl5))
      go_wp2_with fail
      go_ret
      exact ⟨rfl, HV5.out⟩
  · rw [hp1] at HPU HO1
    unfold oL oE at HPU HO1
    simp only [Option.getD_none, List.length_nil] at HPU HO1
    rw [ofH_no (isH_off (b := []) (by decide))] at HO1
    unfold oH at HO1
    simp only [Option.getD_none] at HO1
    unfold HeadE at HO1
    unfold BytesE at HPU
    clear hp1
    rcases hofb with ⟨h2, ho1, ho2⟩ | ho1
    · rw [ho1] at HOF HP2
      unfold oH oE at HOF HP2
      simp only [Option.getD_some] at HOF HP2
      rw [ho2] at HP2
      unfold oL at HP2
      simp only [Option.getD_some] at HP2
      unfold HeadE at HOF
      unfold BytesE at HP2
      rw [← HNB.out] at HP2
      clear ho1 ho2 HNB
      go_enter Tryd.func4, Tryd.ntmps4
      go_upto_region 1 with fail
      rw [← HW.out, ← HQ.out]
      clear HW
      go_upto_region 3 with (go_at_call 7; refine (awake_any _).mono ?_; rintro e V ⟨rfl, hd⟩; have HAW := Lib.hid hd; clear hd)
      have HV : Hid (Below w.heap.size w V) := Lib.hid (H0.out.2.1.trans (HAW.out.mono H0.out.2.1.size))
      have HA := Lib.hid (H0.out.1.under HAW.out)
      have c2 : V.cell? ⟨q, 2, none⟩ = some (.string S0) := (HAW.out.cell (World.block_lt_of_cell? V0 _ H0.out.2.2)).trans H0.out.2.2
      clear H0 HAW
      by_cases s1 : (200 : Int) < (NN : Int)
      · clear HPU HOF HO1 HP2
        go_wp2_with fail
        go_ret
        exact ⟨rfl, HV.out⟩
      by_cases s2 : (200 : Int) < (NB : Int)
      · clear HPU HOF HO1 HP2
        go_wp2_with fail
        go_ret
        exact ⟨rfl, HV.out⟩
      have HPU := Lib.hid (HPU.out (by omega))
      go_upto_region 5 with fail
      clear s1 s2 c2 hsz
      go_upto_region 6 with (first
        | ((with_reducible show wpList _ _ _ (Oper.mk (some 25) (.load _ _) _ _ _ _ :: _) _ _); refine wl_load rfl 26 _ rfl q rfl _ (run_load_arr HA.out Tryd.underlying26 rfl infoHd) ?_)
        | (go_at_call 8; refine (HPU.out _).mono ?_; rintro e w1 ⟨A1, c1, rfl, -, hl1, hd⟩; have HD := Lib.hid hd; have HL1 := Lib.hid hl1; clear hd hl1))
      go_upto_region 7 with (first
        | (go_at_call 10; refine (HO1.out _ A1 c1 HL1.out).mono ?_; rintro e w3 ⟨rfl, hd⟩; have HD3 := Lib.hid hd; clear hd)
        | ((with_reducible show wpList _ _ _ (Oper.mk _ (.store _ _ _) _ _ _ _ :: _) _ _); refine wl_store rfl 26 _ _ rfl _ rfl _ rfl (run_store_arr (Arr.new w3 _ _ _) (hdF zHd) infoHd (hdF_one _ _)) ?_))
      obtain ⟨r3, X3, hX3, hr3, x1, x2, x3, x4⟩ := hd_new (h := zHd) HD3.out
      rw [← hX3, ← hr3]
      have HX3 := Lib.hid x1
      have HD4 := Lib.hid (HD.out.trans (x2.mono HD.out.size))
      have HV3 := Lib.hid (HV.out.trans (HD4.out.mono HV.out.size))
      clear hX3 hr3 x1 x2 x3 x4 HD3 HL1 HO1 HPU
      go_upto_region 9 with fail
      clear HX3
      go_upto_region 10 with (first
        | (go_at_call 10; refine (HOF.out _ HV3.out).mono ?_; rintro e w4 ⟨rfl, hd⟩; have HD5 := Lib.hid hd; clear hd)
        | ((with_reducible show wpList _ _ _ (Oper.mk _ (.store _ _ _) _ _ _ _ :: _) _ _); refine wl_store rfl 26 _ _ rfl _ rfl _ rfl (run_store_arr (Arr.new w4 _ _ _) (hdF h2) infoHd (hdF_one _ _)) ?_))
      obtain ⟨r4, X4, hX4, hr4, x1, x2, x3, x4⟩ := hd_new (h := h2) HD5.out
      rw [← hX4, ← hr4]
      have HX4 := Lib.hid x1
      have HV4 := Lib.hid (HV3.out.trans (x2.mono HV3.out.size))
      clear hX4 hr4 x1 x2 x3 x4 HD5 HOF
      go_upto_region 11 with (first
        | ((with_reducible show wpList _ _ _ (Oper.mk (some 51) (.load _ _) _ _ _ _ :: _) _ _); refine wl_load rfl 26 _ rfl r4 rfl _ (run_load_arr HX4.out Tryd.underlying26 rfl infoHd) ?_)
        | (go_at_call 8; refine (HP2.out _).mono ?_; rintro e w5 ⟨A5, c5, rfl, -, hl5, hd⟩; have HV5 := Lib.hid (HV4.out.trans (hd.mono HV4.out.size)); have HL5 := Lib.hid hl5; clear hd hl5))
      have cv1 := conv_str w5 w5.heap.size A5 NB c5 b HL5.out
      have cv2 := conv_str w5 w5.heap.size A NB c b (HLB.out _ HV5.out)
      obtain ⟨S, hS⟩ : ∃ S, S = strOf b := ⟨_, rfl⟩
      rw [← hS] at cv1 cv2
      clear hS
      go_wp2_with fail
      go_ret
      exact ⟨rfl, HV5.out⟩
    · rw [ho1] at HOF HP2
      unfold oH oE at HOF
      simp only [Option.getD_none] at HOF
      unfold oH at HP2
      simp only [Option.getD_none] at HP2
      unfold HeadE at HOF
      unfold BytesE at HP2
      obtain ⟨L2, hL2⟩ : ∃ x, x = oL (putP zHd) := ⟨_, rfl⟩
      obtain ⟨e2, he2⟩ : ∃ x, x = oE (putP zHd) := ⟨_, rfl⟩
      rw [← hL2, ← he2] at HP2
      obtain ⟨N2, hN2⟩ : ∃ x, x = L2.length := ⟨_, rfl⟩
      rw [← hN2] at HP2
      clear ho1 hL2 he2 hN2 HNB
      go_enter Tryd.func4, Tryd.ntmps4
      go_upto_region 1 with fail
      rw [← HW.out, ← HQ.out]
      clear HW
      go_upto_region 3 with (go_at_call 7; refine (awake_any _).mono ?_; rintro e V ⟨rfl, hd⟩; have HAW := Lib.hid hd; clear hd)
      have HV : Hid (Below w.heap.size w V) := Lib.hid (H0.out.2.1.trans (HAW.out.mono H0.out.2.1.size))
      have HA := Lib.hid (H0.out.1.under HAW.out)
      have c2 : V.cell? ⟨q, 2, none⟩ = some (.string S0) := (HAW.out.cell (World.block_lt_of_cell? V0 _ H0.out.2.2)).trans H0.out.2.2
      clear H0 HAW
      by_cases s1 : (200 : Int) < (NN : Int)
      · clear HPU HOF HO1 HP2
        go_wp2_with fail
        go_ret
        exact ⟨rfl, HV.out⟩
      by_cases s2 : (200 : Int) < (NB : Int)
      · clear HPU HOF HO1 HP2
        go_wp2_with fail
        go_ret
        exact ⟨rfl, HV.out⟩
      have HPU := Lib.hid (HPU.out (by omega))
      go_upto_region 5 with fail
      clear s1 s2 c2 hsz
      go_upto_region 6 with (first
        | ((with_reducible show wpList _ _ _ (Oper.mk (some 25) (.load _ _) _ _ _ _ :: _) _ _); refine wl_load rfl 26 _ rfl q rfl _ (run_load_arr HA.out Tryd.underlying26 rfl infoHd) ?_)
        | (go_at_call 8; refine (HPU.out _).mono ?_; rintro e w1 ⟨A1, c1, rfl, -, hl1, hd⟩; have HD := Lib.hid hd; have HL1 := Lib.hid hl1; clear hd hl1))
      go_upto_region 7 with (first
        | (go_at_call 10; refine (HO1.out _ A1 c1 HL1.out).mono ?_; rintro e w3 ⟨rfl, hd⟩; have HD3 := Lib.hid hd; clear hd)
        | ((with_reducible show wpList _ _ _ (Oper.mk _ (.store _ _ _) _ _ _ _ :: _) _ _); refine wl_store rfl 26 _ _ rfl _ rfl _ rfl (run_store_arr (Arr.new w3 _ _ _) (hdF zHd) infoHd (hdF_one _ _)) ?_))
      obtain ⟨r3, X3, hX3, hr3, x1, x2, x3, x4⟩ := hd_new (h := zHd) HD3.out
      rw [← hX3, ← hr3]
      have HX3 := Lib.hid x1
      have HD4 := Lib.hid (HD.out.trans (x2.mono HD.out.size))
      have HV3 := Lib.hid (HV.out.trans (HD4.out.mono HV.out.size))
      clear hX3 hr3 x1 x2 x3 x4 HD3 HL1 HO1 HPU
      go_upto_region 9 with fail
      clear HX3
      go_upto_region 10 with (first
        | (go_at_call 10; refine (HOF.out _ HV3.out).mono ?_; rintro e w4 ⟨rfl, hd⟩; have HD5 := Lib.hid hd; clear hd)
        | ((with_reducible show wpList _ _ _ (Oper.mk _ (.store _ _ _) _ _ _ _ :: _) _ _); refine wl_store rfl 26 _ _ rfl _ rfl _ rfl (run_store_arr (Arr.new w4 _ _ _) (hdF zHd) infoHd (hdF_one _ _)) ?_))
      obtain ⟨r4, X4, hX4, hr4, x1, x2, x3, x4⟩ := hd_new (h := zHd) HD5.out
      rw [← hX4, ← hr4]
      have HX4 := Lib.hid x1
      have HV4 := Lib.hid (HV3.out.trans (x2.mono HV3.out.size))
      clear hX4 hr4 x1 x2 x3 x4 HD5 HOF
      go_upto_region 11 with (first
        | ((with_reducible show wpList _ _ _ (Oper.mk (some 51) (.load _ _) _ _ _ _ :: _) _ _); refine wl_load rfl 26 _ rfl r4 rfl _ (run_load_arr HX4.out Tryd.underlying26 rfl infoHd) ?_)
        | (go_at_call 8; refine (HP2.out _).mono ?_; rintro e w5 ⟨A5, c5, rfl, -, hl5, hd⟩; have HV5 := Lib.hid (HV4.out.trans (hd.mono HV4.out.size)); have HL5 := Lib.hid hl5; clear hd hl5))
      go_wp2_with fail
      go_ret
      exact ⟨rfl, HV5.out⟩
end Go.Proofs.YtgoblolbkchggaaDoor
