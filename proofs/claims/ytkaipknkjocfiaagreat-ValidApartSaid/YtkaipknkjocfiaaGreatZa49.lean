import Derived.Test.YtkaipknkjocfiaaGreatZa48
namespace Go.Proofs.YtkaipknkjocfiaaGreat
open Go.RowKit Go.Maps
attribute [local go_sem ↓ high] zeroSp zeroCf zeroBd zeroCh
theorem other_no {b : Bd} {x : Cf} (h : CheckOk b x) {g i : Nat} (hg : g < x.gs.length) (hi : i < g) : ∀ s ∈ physG x (g : Int), ∀ t ∈ physG x (i : Int), overlap s t = false := fun s hs t ht => by
 have h1 := phys_other h hg hi s hs
 unfold olapsB at h1
 cases ho : overlap s t with
 | false => rfl
 | true => rw [List.any_eq_true.2 ⟨t, ht, ho⟩] at h1; cases h1
theorem bd_ld {Y : World} {r : Nat} {b : Bd} (h : Arr Y r 26 7 (bdE b)) : ∀ i, i < 2 → Y.cell? ((⟨r, 2, none⟩ : Addr).add i) = some (spE b.l i) := fun i hi => by
 rw [add_atM, h.cell (by omega)]
 rcases (by omega : i = 0 ∨ i = 1) with rfl | rfl <;> rfl
set_option maxHeartbeats 8000000 in
set_option maxRecDepth 100000 in
theorem validApart_walk (b : Bd) (x : Cf) (a c : Value) (w : World) (hr : fit b.r) (hl : fit b.l) (hx : CfRW w w.heap.size x a c) (hb : CfB x) :
   Calls Tryz.prog 4 #[.agg (vec 7 (bdE b)), cfVal x a c] w fun e w' => e = .returned (.bool true) ∧ Below w.heap.size w w' := by
 obtain ⟨A, d, A2, d2, rfl, rfl, hch, hgu⟩ := cf_guest hx.1
 obtain ⟨NG, hNG⟩ : ∃ n, n = x.gs.length := ⟨_, rfl⟩
 obtain ⟨NC, hNC⟩ : ∃ n, n = x.chs.length := ⟨_, rfl⟩
 obtain ⟨V0, hV0⟩ : ∃ V, V = (w.alloc (.cells (vec 7 (bdE b)) 26)).alloc (.cells (vec 3 (cfE x.ver (.slice A NG d) (.slice A2 NC d2))) 31) := ⟨_, rfl⟩
 obtain ⟨r2, hr2⟩ : ∃ r, r = w.heap.size := ⟨_, rfl⟩
 obtain ⟨r3, hr3⟩ : ∃ r, r = w.heap.size + 1 := ⟨_, rfl⟩
 have k2 : Arr V0 r2 26 7 (bdE b) := by rw [hV0, hr2]; exact (Arr.new w _ _ _).alloc _
 have k3 : Arr V0 r3 31 3 (cfE x.ver (.slice A NG d) (.slice A2 NC d2)) := by rw [hV0, hr3]; exact Arr.newAt _ _ _ _ (by simp)
 have hB : Below w.heap.size w V0 := by rw [hV0]; exact (Below.alloc_own w _).alloc (by simp) _
 unfold cfVal
 rw [← hNG, ← hNC] at hx ⊢
 have HW := Lib.hid hV0
 have HR := Lib.hid (And.intro hr2 hr3)
 have H0 := Lib.hid (And.intro hB (And.intro (And.intro k2 k3) (fun (Y : World) (hY : Below V0.heap.size V0 Y) => (hx.below (hB.trans (hY.mono hB.size))).wide (Nat.le_trans hB.size hY.size))))
 have HCB := Lib.hid hb
 have HFIT := Lib.hid (And.intro hr hl)
 have HNG := Lib.hid (And.intro hNG hNC)
 clear hV0 k2 k3 hB hx hb hr2 hr3 hr hl hNG hNC hch hgu
 go_enter Tryz.func4, Tryz.ntmps4
 go_upto_region 1 with fail
 rw [← HW.out, ← HR.out.2, ← HR.out.1]
 clear HW HR
 go_upto_region 3 with (go_at_call 8; refine (awake17 _).mono ?_; rintro e V ⟨rfl, hd⟩; have HAW := Lib.hid hd; clear hd)
 have HV : Hid (Below w.heap.size w V) := Lib.hid (H0.out.1.trans (HAW.out.mono H0.out.1.size))
 have HK2 := Lib.hid (H0.out.2.1.1.under HAW.out)
 have HK3 := Lib.hid (H0.out.2.1.2.under HAW.out)
 have HX : Hid (∀ Y, Below V.heap.size V Y → CfRW Y Y.heap.size x (.slice A NG d) (.slice A2 NC d2)) := Lib.hid fun Y hY => H0.out.2.2 Y (HAW.out.trans (Below.mono hY HAW.out.size))
 have HD : Hid (Below V.heap.size V V) := Lib.hid (Below.refl _ _)
 clear H0 HAW
 obtain ⟨fx, hfx⟩ : ∃ f, f = fewC x := ⟨_, rfl⟩
 have HFA : Hid (∀ Y, Below V.heap.size V Y → Calls Tryz.prog 9 #[.agg (vec 3 (cfE x.ver (.slice A NG d) (.slice A2 NC d2)))] Y (FewP fx Y)) := Lib.hid (fun Y hY => by rw [hfx]; exact few_any x _ _ Y (HX.out Y hY).1)
 unfold FewP at HFA
 cases fx
 · clear hfx
   go_wp2_with (first
     | ((with_reducible show wpList _ _ _ (Oper.mk _ (.load 31 _) _ _ _ _ :: _) _ _); refine wl_load rfl 31 _ rfl r3 rfl _ (run_load_arr (HK3.out.under HD.out) Tryz.underlying31 rfl infoCf) ?_)
     | (go_at_call 9; refine (HFA.out _ HD.out).mono ?_; rintro e w1 ⟨rfl, hd⟩; have HD := Lib.hid hd; clear hd))
   go_ret
   exact ⟨rfl, HV.out.trans (HD.out.mono HV.out.size)⟩
 have HFW := Lib.hid hfx.symm
 clear hfx
 have hN20 : NG ≤ 20 := by rw [HNG.out.1]; exact (few_gs HFW.out).1
 have hC40 : NC ≤ 40 := by rw [HNG.out.2]; exact (few_gs HFW.out).2.1
 obtain ⟨R0, hR0⟩ : ∃ R, R = checkP b x := ⟨_, rfl⟩
 have HCK : Hid (∀ Y, Below V.heap.size V Y → Calls Tryz.prog 10 #[.agg (vec 7 (bdE b)), .agg (vec 3 (cfE x.ver (.slice A NG d) (.slice A2 NC d2)))] Y fun e w' => e = .returned (.tuple #[.int .i64 (R0.1 : Int), .int .i64 (R0.2.1 : Int), .int .i64 (R0.2.2 : Int)]) ∧ Below Y.heap.size Y w') := Lib.hid fun Y hY => by
   rw [hR0]
   exact kcheck_any x _ _ b Y (HX.out Y hY) HCB.out HFW.out HFIT.out.1 HFIT.out.2
 have HR0 := Lib.hid hR0
 clear hR0
 obtain ⟨q0, q1, q2⟩ := R0
 go_upto_region 5 with (first
     | ((with_reducible show wpList _ _ _ (Oper.mk _ (.load 31 _) _ _ _ _ :: _) _ _); refine wl_load rfl 31 _ rfl r3 rfl _ (run_load_arr (HK3.out.under HD.out) Tryz.underlying31 rfl infoCf) ?_)
     | (go_at_call 9; refine (HFA.out _ HD.out).mono ?_; rintro e w1 ⟨rfl, hd⟩; have HD := Lib.hid hd; clear hd))
 clear HFA
 by_cases hq : q2 = 0
 case neg =>
   have hq2 : ((q2 : Int) == 0) = false := by rw [beq_eq_false_iff_ne]; omega
   have hq3 : ¬ (q2 : Int) = 0 := by omega
   go_upto_region 6 with (first
     | ((with_reducible show wpList _ _ _ (Oper.mk _ (.load 26 _) _ _ _ _ :: _) _ _); refine wl_load rfl 26 _ rfl r2 rfl _ (run_load_arr (HK2.out.under HD.out) Tryz.underlying26 rfl infoBd) ?_)
     | ((with_reducible show wpList _ _ _ (Oper.mk _ (.load 31 _) _ _ _ _ :: _) _ _); refine wl_load rfl 31 _ rfl r3 rfl _ (run_load_arr (HK3.out.under HD.out) Tryz.underlying31 rfl infoCf) ?_)
     | (go_at_call 10; refine (HCK.out _ HD.out).mono ?_; rintro e w2 ⟨rfl, hd⟩; have HD := Lib.hid (HD.out.trans (Below.mono hd HD.out.size)); clear hd))
   go_wp2_with fail
   go_ret
   exact ⟨rfl, HV.out.trans (HD.out.mono HV.out.size)⟩
 subst hq
 have HOK : Hid (CheckOk b x) := Lib.hid (check_ok (by rw [← HR0.out]))
 go_upto_region 6 with (first
     | ((with_reducible show wpList _ _ _ (Oper.mk _ (.load 26 _) _ _ _ _ :: _) _ _); refine wl_load rfl 26 _ rfl r2 rfl _ (run_load_arr (HK2.out.under HD.out) Tryz.underlying26 rfl infoBd) ?_)
     | ((with_reducible show wpList _ _ _ (Oper.mk _ (.load 31 _) _ _ _ _ :: _) _ _); refine wl_load rfl 31 _ rfl r3 rfl _ (run_load_arr (HK3.out.under HD.out) Tryz.underlying31 rfl infoCf) ?_)
     | (go_at_call 10; refine (HCK.out _ HD.out).mono ?_; rintro e w2 ⟨rfl, hd⟩; have HD := Lib.hid (HD.out.trans (Below.mono hd HD.out.size)); clear hd))
 clear HCK
 go_upto_region 8 with fail
 have HCF1 : Hid (∀ Y, Below V.heap.size V Y → Y.cell? ⟨r3, 1, none⟩ = some (.slice A NG d)) := Lib.hid fun Y hY => (HK3.out.under hY).cell (i := 1) (by decide)
 have HCF2 : Hid (∀ Y, Below V.heap.size V Y → Y.cell? ⟨r3, 2, none⟩ = some (.slice A2 NC d2)) := Lib.hid fun Y hY => (HK3.out.under hY).cell (i := 2) (by decide)
 have HPH : Hid (∀ (i : Nat) Y, Below V.heap.size V Y → Calls Tryz.prog 12 #[.agg (vec 3 (cfE x.ver (.slice A NG d) (.slice A2 NC d2))), .int .i64 (i : Int)] Y (SpansP (physG x (i : Int)) Y)) := Lib.hid fun i Y hY => rphys_any x _ _ (i : Int) Y (HX.out Y hY).1 HCB.out HFW.out
 have HCH : Hid (∀ Y, Below V.heap.size V Y → RowE 8 chE Y Y.heap.size A2 x.chs) := Lib.hid (by
   obtain ⟨A', d', A3, d3, e1, e2, h1, h2⟩ := cf_guest (HX.out V (Below.refl _ _)).1
   injection e2 with e2 e3 e4
   subst e2
   exact h1)
 have HPL := Lib.hid (fun (i : Nat) => physG_len (x := x) (i : Int) HFW.out)
 have HPF := Lib.hid (fun (i : Nat) => physG_fit HCB.out (i : Int))
 clear HX
 have c1 := HCF1.out _ HD.out
 go_upto_region 9 with fail
 clear c1
 go_loopw [30] (fun v W => ∃ i : Nat, i ≤ NG ∧ v = .int .i64 i ∧ Hid (Below V.heap.size V W)) (fun v _ => NG - (intOf v).toNat)
 case atStart => exact ⟨0, Nat.zero_le _, rfl, HD⟩
 case round =>
   clear HD
   obtain ⟨i, hi, rfl, HD⟩ := hrel
   by_cases hlt : i < NG
   · have hig : (i : Int) < (NG : Int) := by omega
     obtain ⟨W, hW⟩ : ∃ W : World, W = wr := ⟨_, rfl⟩
     subst hW
     have HIG : Hid (i < x.gs.length) := Lib.hid (by rw [← HNG.out.1]; exact hlt)
     obtain ⟨l, hl⟩ : ∃ l, l = physG x (i : Int) := ⟨_, rfl⟩
     have HL : Hid ((l.length ≤ 1000000 ∧ ∀ y ∈ l, fit y) ∧ (∀ s ∈ l, overlap s b.l = false) ∧ (∀ (k : Nat) (hk : k < x.chs.length), ∀ s ∈ l, overlap s (spC x.chs[k]) = false) ∧ ∀ (j : Nat), j < i → ∀ s ∈ l, ∀ t ∈ physG x (j : Int), overlap s t = false) := Lib.hid (by
      rw [hl]
      exact ⟨⟨HPL.out i, HPF.out i⟩, phys_loader HOK.out HIG.out, fun k hk => phys_chan HOK.out HIG.out hk, fun j hj => other_no HOK.out HIG.out hj⟩)
     have HP1 : Hid (Calls Tryz.prog 12 #[.agg (vec 3 (cfE x.ver (.slice A NG d) (.slice A2 NC d2))), .int .i64 (i : Int)] W (SpansP l W)) := Lib.hid (by rw [hl]; exact HPH.out i W HD.out)
     clear hl
     go_upto_region 12 with (first
      | ((with_reducible show wpList _ _ _ (Oper.mk _ (.load 31 _) _ _ _ _ :: _) _ _); refine wl_load rfl 31 _ rfl r3 rfl _ (run_load_arr (HK3.out.under HD.out) Tryz.underlying31 rfl infoCf) ?_)
      | (go_at_call 12; refine HP1.out.mono ?_; rintro e w3 ⟨v, rfl, ho, hd⟩; have HO := Lib.hid (And.intro ho (HD.out.trans (Below.mono hd HD.out.size))); clear ho hd))
     obtain ⟨B, e4, rfl, -, hrow, -⟩ := HO.out.1.form
     obtain ⟨N, hN⟩ : ∃ N, N = l.length := ⟨_, rfl⟩
     have HROW : Hid (∀ Y, Below w3.heap.size w3 Y → RowE 2 spE Y Y.heap.size B l) := Lib.hid fun Y hY => hrow.up hY
     have HLN := Lib.hid hN
     rw [← hN]
     have HOV : Hid (∀ (k : List Sp) (C : Option Addr) (c : Nat) Y, Below w3.heap.size w3 Y → k.length ≤ 1000000 → (∀ y ∈ k, fit y) → RowE 2 spE Y Y.heap.size C k → (∀ s ∈ l, ∀ t ∈ k, overlap s t = false) → Calls Tryz.prog 13 #[.slice B N e4, .slice C k.length c] Y (EqV false Y)) := Lib.hid fun k C c Y hY h1 h2 h3 h4 => by
      rw [hN]
      exact lawOverlap_no l k B C e4 c Y HL.out.1.1 h1 HL.out.1.2 h2 (hrow.up hY) h3 h4
     unfold EqV at HOV
     have HO1 : Hid (Calls Tryz.prog 13 #[.slice B N e4, .slice (some ⟨w3.heap.size, 0, none⟩) 1 1] (w3.alloc (.cells (vec 2 (spE b.l)) 24)) fun e w' => e = .returned (.bool false) ∧ Below (w3.alloc (.cells (vec 2 (spE b.l)) 24)).heap.size (w3.alloc (.cells (vec 2 (spE b.l)) 24)) w') := Lib.hid (HOV.out [b.l] _ 1 _ (Below.alloc_own _ _) (by show 1 ≤ 1000000; decide) (fun y hy => by obtain rfl := List.mem_singleton.1 hy; exact HFIT.out.2) (row_new1 b.l w3) (fun s hs t ht => by obtain rfl := List.mem_singleton.1 ht; exact HL.out.2.1 s hs))
     have HAL : Hid (Below w3.heap.size w3 (w3.alloc (.cells (vec 2 (spE b.l)) 24))) := Lib.hid (Below.alloc_own _ _)
     have HBL := Lib.hid (bd_ld (HK2.out.under HO.out.2))
     clear hN hrow HP1
     go_upto_region 14 with (first
      | ((with_reducible show wpList _ _ _ (Oper.mk _ (.load 24 _) _ _ _ _ :: _) _ _); refine wl_load_q rfl 24 _ rfl ⟨r2, 2, none⟩ rfl _ (run_load_q HBL.out Tryz.underlying24 rfl infoSp) ?_)
      | ((with_reducible show wpList _ _ _ (Oper.mk _ (.buildSlice _ _ _) _ _ _ _ :: _) _ _); refine wl_bs1 rfl _ rfl (.agg (vec 2 (spE b.l))) rfl (build_span b.l _) ?_)
      | (go_at_call 13; refine HO1.out.mono ?_; rintro e w4 ⟨rfl, hd⟩; have HD4 := Lib.hid (HAL.out.trans (Below.mono hd HAL.out.size)); clear hd))
     go_upto_region 15 with fail
     have h3 : Hid (Below V.heap.size V w3) := Lib.hid HO.out.2
     clear HO1 HAL HBL HO HD
     go_loopw [10] (fun v W => ∃ j : Nat, j ≤ i ∧ v = .int .i64 j ∧ Hid (Below w3.heap.size w3 W)) (fun v _ => i - (intOf v).toNat)
     case atStart => exact ⟨0, Nat.zero_le _, rfl, HD4⟩
     case round =>
      clear HD4
      obtain ⟨j, hj, rfl, HR⟩ := hrel
      obtain ⟨W, hW⟩ : ∃ W : World, W = wr := ⟨_, rfl⟩
      subst hW
      by_cases hlt2 : j < i
      · have hji : (j : Int) < (i : Int) := by omega
        have HD : Hid (Below V.heap.size V W) := Lib.hid (h3.out.trans (HR.out.mono h3.out.size))
        obtain ⟨k, hk⟩ : ∃ k, k = physG x (j : Int) := ⟨_, rfl⟩
        have HP2 : Hid (Calls Tryz.prog 12 #[.agg (vec 3 (cfE x.ver (.slice A NG d) (.slice A2 NC d2))), .int .i64 (j : Int)] W (SpansP k W)) := Lib.hid (by rw [hk]; exact HPH.out j W HD.out)
        have HO2 : Hid (∀ C c Y, Below w3.heap.size w3 Y → RowE 2 spE Y Y.heap.size C k → Calls Tryz.prog 13 #[.slice B N e4, .slice C k.length c] Y fun e w' => e = .returned (.bool false) ∧ Below Y.heap.size Y w') := Lib.hid fun C c Y hY h1 => HOV.out k C c Y hY (by rw [hk]; exact HPL.out j) (by rw [hk]; exact HPF.out j) h1 (by rw [hk]; exact HL.out.2.2.2 j hlt2)
        clear hk
        go_wp2_with (first
         | ((with_reducible show wpList _ _ _ (Oper.mk _ (.load 31 _) _ _ _ _ :: _) _ _); refine wl_load rfl 31 _ rfl r3 rfl _ (run_load_arr (HK3.out.under HD.out) Tryz.underlying31 rfl infoCf) ?_)
         | (go_at_call 12; refine HP2.out.mono ?_; rintro e w5 ⟨v5, rfl, ho, hd⟩; obtain ⟨A5, c5, rfl, -, hr5, -⟩ := ho.form; have HR5 := Lib.hid (And.intro hr5 (HR.out.trans (Below.mono hd HR.out.size))); clear hd ho hr5)
         | (go_at_call 13; refine (HO2.out _ _ _ HR5.out.2 HR5.out.1).mono ?_; rintro e w6 ⟨rfl, hd⟩; have HE := Lib.hid (HR5.out.2.trans (Below.mono hd HR5.out.2.size)); clear hd))
        go_roundw
        case rel => exact ⟨j + 1, by omega, by go_num, HE⟩
        case measure => simp [intOf]; omega
      · obtain rfl : j = i := by omega
        have hjj : ¬ (j : Int) < (j : Int) := by omega
        have c2 := HCF2.out W (h3.out.trans (HR.out.mono h3.out.size))
        go_upto_region 20 with fail
        clear c2 hjj
        go_loopw [54] (fun v W => ∃ k : Nat, k ≤ NC ∧ v = .int .i64 k ∧ Hid (Below w3.heap.size w3 W)) (fun v _ => NC - (intOf v).toNat)
        case atStart => exact ⟨0, Nat.zero_le _, rfl, HR⟩
        case round =>
         clear HR
         obtain ⟨k, hk, rfl, HR⟩ := hrel
         obtain ⟨W, hW⟩ : ∃ W : World, W = wr := ⟨_, rfl⟩
         subst hW
         by_cases hlt3 : k < NC
         · have hkc : (k : Int) < (NC : Int) := by omega
           have HD : Hid (Below V.heap.size V W) := Lib.hid (h3.out.trans (HR.out.mono h3.out.size))
           have hkl : k < x.chs.length := by have := HNG.out.2; omega
           obtain ⟨b1, q1, eb, hq1, -, hcp⟩ := (HCH.out W HD.out).at hkl
           have hno := HL.out.2.2.1 k hkl
           have hyB := HCB.out.chs _ (List.getElem_mem hkl)
           obtain ⟨y, hy⟩ : ∃ y, y = x.chs[k] := ⟨_, rfl⟩
           rw [← hy] at hcp hno hyB
           have hpa := u64Z_nat (u64BZ hyB.1)
           have hsz := u64Z_nat (u64BZ hyB.2.1)
           obtain ⟨s, hs⟩ : ∃ s, s = spC y := ⟨_, rfl⟩
           rw [← hs] at hno
           have e0 : chE y 0 = .int .u64 (s.1 : Int) := by rw [hs]; show Value.int _ _ = Value.int _ _; rw [← hpa.1]; rfl
           have e1 : chE y 1 = .int .u64 (s.2 : Int) := by rw [hs]; show Value.int _ _ = Value.int _ _; rw [← hsz.1]; rfl
           have HSF : Hid (fit s) := Lib.hid (by rw [hs]; exact ⟨hpa.2, hsz.2⟩)
           have HNO := Lib.hid hno
           have HCP := Lib.hid hcp
           subst eb
           clear hcp hno hyB hy hpa hsz hs hkl
           go_upto_region 22 with (first
            | ((with_reducible show wpList _ _ _ (Oper.mk _ (.load 47 _) _ _ _ _ :: _) _ _); refine wl_load_q rfl 47 _ rfl q1 rfl _ (run_load_q HCP.out Tryz.underlying47 rfl infoCh) ?_)
            | ((with_reducible show wpList _ _ _ (Oper.mk _ (.store _ _ _) _ _ _ _ :: _) _ _); refine wl_store rfl 47 _ _ rfl _ rfl _ rfl (run_store_arr (Arr.new W _ _ _) (chE y) infoCh (chE_one _ _)) ?_))
           obtain ⟨t, ht⟩ : ∃ t, t = W.heap.size := ⟨_, rfl⟩
           obtain ⟨X, hX⟩ : ∃ X, X = (W.alloc (.cells (vec 8 (chE zCh)) 47)).setRow W.heap.size (vec 8 (chE y)) := ⟨_, rfl⟩
           have bx : Below W.heap.size W X := by rw [hX]; exact below_row ((Below.refl _ _).alloc (Nat.le_refl _) _) (Nat.le_refl _) _
           have at1 : Arr X t 47 8 (chE y) := by rw [hX, ht]; exact (Arr.new W _ _ _).row _
           rw [← hX, ← ht]
           have HX1 : Hid (Below w3.heap.size w3 X) := Lib.hid (HR.out.trans (bx.mono HR.out.size))
           have d0 : X.cell? ⟨t, 0, none⟩ = some (.int .u64 (s.1 : Int)) := by rw [← e0]; exact at1.cell (i := 0) (by decide)
           have d1 : X.cell? ⟨t, 1, none⟩ = some (.int .u64 (s.2 : Int)) := by rw [← e1]; exact at1.cell (i := 1) (by decide)
           have HAL : Hid (Below w3.heap.size w3 (X.alloc (.cells (vec 2 (spE s)) 24))) := Lib.hid (HX1.out.trans ((Below.alloc_own X _).mono HX1.out.size))
           have HO1 : Hid (Calls Tryz.prog 13 #[.slice B N e4, .slice (some ⟨X.heap.size, 0, none⟩) 1 1] (X.alloc (.cells (vec 2 (spE s)) 24)) fun e w' => e = .returned (.bool false) ∧ Below (X.alloc (.cells (vec 2 (spE s)) 24)).heap.size (X.alloc (.cells (vec 2 (spE s)) 24)) w') := Lib.hid (HOV.out [s] _ 1 _ HAL.out (by show 1 ≤ 1000000; decide) (fun y hy => by obtain rfl := List.mem_singleton.1 hy; exact HSF.out) (row_new1 s X) (fun u hu t ht => by obtain rfl := List.mem_singleton.1 ht; exact HNO.out u hu))
           clear hX ht bx at1 HCP e0 e1
           go_wp2_with (first
            | ((with_reducible show wpList _ _ _ (Oper.mk _ (.build _ _) _ _ _ _ :: _) _ _); refine wl_build rfl 24 _ rfl (vec 2 (spE s)) (by kernel_rfl) ?_)
            | ((with_reducible show wpList _ _ _ (Oper.mk _ (.buildSlice _ _ _) _ _ _ _ :: _) _ _); refine wl_bs1 rfl _ rfl (.agg (vec 2 (spE s))) rfl (build_span s _) ?_)
            | (go_at_call 13; refine HO1.out.mono ?_; rintro e w6 ⟨rfl, hd⟩; have HE := Lib.hid (HAL.out.trans (Below.mono hd HAL.out.size)); clear hd))
           go_roundw
           case rel => exact ⟨k + 1, by omega, by go_num, HE⟩
           case measure => simp [intOf]; omega
         · obtain rfl : k = NC := by omega
           go_wp2_with fail
           go_roundw
           case rel => exact ⟨j + 1, by omega, by go_num, Lib.hid (h3.out.trans (HR.out.mono h3.out.size))⟩
           case measure => simp [intOf]; omega
   · obtain rfl : i = NG := by omega
     go_wp2_with fail
     go_ret
     exact ⟨rfl, HV.out.trans (HD.out.mono HV.out.size)⟩
end Go.Proofs.YtkaipknkjocfiaaGreat
