import Derived.Test.YtkaipknkjocfiaaGreatZm48
namespace Go.Proofs.YtkaipknkjocfiaaGreat
open Go.RowKit Go.Maps
attribute [local go_sem ↓ high] zeroCf zeroBd
theorem perms_ok {x : Cf} {b : Bd} (h : CheckOk b x) {g : Nat} (hg : g < x.gs.length) : ∀ y ∈ (x.gs[g]).wins, 0 ≤ y.perm ∧ y.perm ≤ 7 := fun y hy => by
 have := (put_ok (errP_guest h.err _ (List.getElem_mem hg))).wins y hy
 unfold badWi inB at this
 simpa using this
theorem maps_okL {x : Cf} {b : Bd} (h : CheckOk b x) (hb : CfB x) (hf : fewC x = true) {g : Nat} (hg : g < x.gs.length) : ∃ l, mapsP x (g : Int) = .ok l ∧ goodL l = true ∧ l.length ≤ 1000000 ∧ ∀ y ∈ l, MpB y := by
 obtain ⟨l, h1, h2⟩ := maps_good h hb hg (perms_ok h hg)
 refine ⟨l, h1, h2, by have := mapsP_len h1 hf; omega, ?_⟩
 obtain ⟨i, hi, -, rfl, -⟩ := mapsP_is h1
 have hgb := hb.gs _ (List.getElem_mem hi)
 exact parts_B hgb.wins hgb.devs hb.chs
set_option maxHeartbeats 8000000 in
set_option maxRecDepth 100000 in
theorem validMaps_walk (b : Bd) (x : Cf) (a c : Value) (w : World) (hr : fit b.r) (hl : fit b.l) (hx : CfRW w w.heap.size x a c) (hb : CfB x) :
   Calls Tryz.prog 5 #[.agg (vec 7 (bdE b)), cfVal x a c] w fun e w' => e = .returned (.bool true) ∧ Below w.heap.size w w' := by
 obtain ⟨A, d, A2, d2, rfl, rfl, hch, hgu⟩ := cf_guest hx.1
 obtain ⟨NG, hNG⟩ : ∃ n, n = x.gs.length := ⟨_, rfl⟩
 obtain ⟨NC, hNC⟩ : ∃ n, n = x.chs.length := ⟨_, rfl⟩
 obtain ⟨V0, hV0⟩ : ∃ V, V = (w.alloc (.cells (vec 7 (bdE b)) 26)).alloc (.cells (vec 3 (cfE x.ver (.slice A NG d) (.slice A2 NC d2))) 31) := ⟨_, rfl⟩
 obtain ⟨r2, hr2⟩ : ∃ r, r = w.heap.size := ⟨_, rfl⟩
 obtain ⟨r3, hr3⟩ : ∃ r, r = w.heap.size + 1 := ⟨_, rfl⟩
 have k2 : Arr V0 r2 26 7 (bdE b) := by rw [hV0, hr2]; exact (Arr.new w _ _ _).alloc _
 have k3 : Arr V0 r3 31 3 (cfE x.ver (.slice A NG d) (.slice A2 NC d2)) := by rw [hV0, hr3]; exact Arr.newAt _ _ _ _ (by simp)
 have hB : Below w.heap.size w V0 := by rw [hV0]; exact (Below.alloc_own w _).alloc (by simp) _
 unfold cfVal
 rw [← hNG, ← hNC] at hx ⊢
 have HW := Lib.hid hV0
 have HR := Lib.hid (And.intro hr2 hr3)
 have H0 := Lib.hid (And.intro hB (And.intro (And.intro k2 k3) (fun (Y : World) (hY : Below V0.heap.size V0 Y) => (hx.below (hB.trans (hY.mono hB.size))).wide (Nat.le_trans hB.size hY.size))))
 have HCB := Lib.hid hb
 have HFIT := Lib.hid (And.intro hr hl)
 have HNG := Lib.hid (And.intro hNG hNC)
 clear hV0 k2 k3 hB hx hb hr2 hr3 hr hl hNG hNC hch hgu
 go_enter Tryz.func5, Tryz.ntmps5
 go_upto_region 1 with fail
 rw [← HW.out, ← HR.out.2, ← HR.out.1]
 clear HW HR
 go_upto_region 3 with (go_at_call 8; refine (awake17 _).mono ?_; rintro e V ⟨rfl, hd⟩; have HAW := Lib.hid hd; clear hd)
 have HV : Hid (Below w.heap.size w V) := Lib.hid (H0.out.1.trans (HAW.out.mono H0.out.1.size))
 have HK2 := Lib.hid (H0.out.2.1.1.under HAW.out)
 have HK3 := Lib.hid (H0.out.2.1.2.under HAW.out)
 have HX : Hid (∀ Y, Below V.heap.size V Y → CfRW Y Y.heap.size x (.slice A NG d) (.slice A2 NC d2)) := Lib.hid fun Y hY => H0.out.2.2 Y (HAW.out.trans (Below.mono hY HAW.out.size))
 have HD : Hid (Below V.heap.size V V) := Lib.hid (Below.refl _ _)
 clear H0 HAW
 obtain ⟨fx, hfx⟩ : ∃ f, f = fewC x := ⟨_, rfl⟩
 have HFA : Hid (∀ Y, Below V.heap.size V Y → Calls Tryz.prog 9 #[.agg (vec 3 (cfE x.ver (.slice A NG d) (.slice A2 NC d2)))] Y (FewP fx Y)) := Lib.hid (fun Y hY => by rw [hfx]; exact few_any x _ _ Y (HX.out Y hY).1)
 unfold FewP at HFA
 cases fx
 · clear hfx
   go_wp2_with (first
     | ((with_reducible show wpList _ _ _ (Oper.mk _ (.load 31 _) _ _ _ _ :: _) _ _); refine wl_load rfl 31 _ rfl r3 rfl _ (run_load_arr (HK3.out.under HD.out) Tryz.underlying31 rfl infoCf) ?_)
     | (go_at_call 9; refine (HFA.out _ HD.out).mono ?_; rintro e w1 ⟨rfl, hd⟩; have HD := Lib.hid hd; clear hd))
   go_ret
   exact ⟨rfl, HV.out.trans (HD.out.mono HV.out.size)⟩
 have HFW := Lib.hid hfx.symm
 clear hfx
 have hN20 : NG ≤ 20 := by rw [HNG.out.1]; exact (few_gs HFW.out).1
 have hC40 : NC ≤ 40 := by rw [HNG.out.2]; exact (few_gs HFW.out).2.1
 obtain ⟨R0, hR0⟩ : ∃ R, R = checkP b x := ⟨_, rfl⟩
 have HCK : Hid (∀ Y, Below V.heap.size V Y → Calls Tryz.prog 10 #[.agg (vec 7 (bdE b)), .agg (vec 3 (cfE x.ver (.slice A NG d) (.slice A2 NC d2)))] Y fun e w' => e = .returned (.tuple #[.int .i64 (R0.1 : Int), .int .i64 (R0.2.1 : Int), .int .i64 (R0.2.2 : Int)]) ∧ Below Y.heap.size Y w') := Lib.hid fun Y hY => by
   rw [hR0]
   exact kcheck_any x _ _ b Y (HX.out Y hY) HCB.out HFW.out HFIT.out.1 HFIT.out.2
 have HR0 := Lib.hid hR0
 clear hR0
 obtain ⟨q0, q1, q2⟩ := R0
 go_upto_region 5 with (first
     | ((with_reducible show wpList _ _ _ (Oper.mk _ (.load 31 _) _ _ _ _ :: _) _ _); refine wl_load rfl 31 _ rfl r3 rfl _ (run_load_arr (HK3.out.under HD.out) Tryz.underlying31 rfl infoCf) ?_)
     | (go_at_call 9; refine (HFA.out _ HD.out).mono ?_; rintro e w1 ⟨rfl, hd⟩; have HD := Lib.hid hd; clear hd))
 clear HFA
 by_cases hq : q2 = 0
 case neg =>
   have hq2 : ((q2 : Int) == 0) = false := by rw [beq_eq_false_iff_ne]; omega
   have hq3 : ¬ (q2 : Int) = 0 := by omega
   go_upto_region 6 with (first
     | ((with_reducible show wpList _ _ _ (Oper.mk _ (.load 26 _) _ _ _ _ :: _) _ _); refine wl_load rfl 26 _ rfl r2 rfl _ (run_load_arr (HK2.out.under HD.out) Tryz.underlying26 rfl infoBd) ?_)
     | ((with_reducible show wpList _ _ _ (Oper.mk _ (.load 31 _) _ _ _ _ :: _) _ _); refine wl_load rfl 31 _ rfl r3 rfl _ (run_load_arr (HK3.out.under HD.out) Tryz.underlying31 rfl infoCf) ?_)
     | (go_at_call 10; refine (HCK.out _ HD.out).mono ?_; rintro e w2 ⟨rfl, hd⟩; have HD := Lib.hid (HD.out.trans (Below.mono hd HD.out.size)); clear hd))
   go_wp2_with fail
   go_ret
   exact ⟨rfl, HV.out.trans (HD.out.mono HV.out.size)⟩
 subst hq
 have HOK : Hid (CheckOk b x) := Lib.hid (check_ok (by rw [← HR0.out]))
 go_upto_region 6 with (first
     | ((with_reducible show wpList _ _ _ (Oper.mk _ (.load 26 _) _ _ _ _ :: _) _ _); refine wl_load rfl 26 _ rfl r2 rfl _ (run_load_arr (HK2.out.under HD.out) Tryz.underlying26 rfl infoBd) ?_)
     | ((with_reducible show wpList _ _ _ (Oper.mk _ (.load 31 _) _ _ _ _ :: _) _ _); refine wl_load rfl 31 _ rfl r3 rfl _ (run_load_arr (HK3.out.under HD.out) Tryz.underlying31 rfl infoCf) ?_)
     | (go_at_call 10; refine (HCK.out _ HD.out).mono ?_; rintro e w2 ⟨rfl, hd⟩; have HD := Lib.hid (HD.out.trans (Below.mono hd HD.out.size)); clear hd))
 clear HCK
 go_upto_region 8 with fail
 have hcf : ∀ Y, Below V.heap.size V Y → Y.cell? ⟨r3, 1, none⟩ = some (.slice A NG d) := fun Y hY => (HK3.out.under hY).cell (i := 1) (by decide)
 have c1 := hcf _ HD.out
 have HMP : Hid (∀ (i : Nat) Y, i < NG → Below V.heap.size V Y → ∃ l, goodL l = true ∧ l.length ≤ 1000000 ∧ (∀ y ∈ l, MpB y) ∧ Calls Tryz.prog 14 #[.agg (vec 3 (cfE x.ver (.slice A NG d) (.slice A2 NC d2))), .int .i64 (i : Int)] Y fun e w' => ∃ v, e = .returned (.tuple #[v, .int .i64 0]) ∧ OwnM w' Y.heap.size v l ∧ Below Y.heap.size Y w') := Lib.hid fun i Y hi hY => by
   obtain ⟨l, h1, h2, h3, h4⟩ := maps_okL HOK.out HCB.out HFW.out (g := i) (by rw [← HNG.out.1]; exact hi)
   have hm := rmaps_any x _ _ (i : Int) Y (HX.out Y hY).1 HCB.out HFW.out
   rw [h1] at hm
   exact ⟨l, h2, h3, h4, hm⟩
 clear hcf HOK HX
 go_upto_region 9 with fail
 clear c1
 go_loopw [28] (fun v W => ∃ i : Nat, i ≤ NG ∧ v = .int .i64 i ∧ Hid (Below V.heap.size V W)) (fun v _ => NG - (intOf v).toNat)
 case atStart => exact ⟨0, Nat.zero_le _, rfl, HD⟩
 case round =>
   clear HD
   obtain ⟨i, hi, rfl, HD⟩ := hrel
   by_cases hlt : i < NG
   · have hig : (i : Int) < (NG : Int) := by omega
     obtain ⟨W, hW⟩ : ∃ W : World, W = wr := ⟨_, rfl⟩
     subst hW
     obtain ⟨l, hl1, hl2, hl3, hm⟩ := HMP.out i W hlt HD.out
     have HL := Lib.hid (And.intro hl1 (And.intro hl2 hl3))
     have HM := Lib.hid hm
     clear hl1 hl2 hl3 hm
     go_upto_region 12 with (first
      | ((with_reducible show wpList _ _ _ (Oper.mk _ (.load 31 _) _ _ _ _ :: _) _ _); refine wl_load rfl 31 _ rfl r3 rfl _ (run_load_arr (HK3.out.under HD.out) Tryz.underlying31 rfl infoCf) ?_)
      | (go_at_call 14; refine HM.out.mono ?_; rintro e w3 ⟨v, rfl, ho, hd⟩; have HO := Lib.hid (And.intro ho (HD.out.trans (Below.mono hd HD.out.size))); clear ho hd))
     obtain ⟨B, e4, rfl, -, hrow, -⟩ := HO.out.1.form
     have hgd := rgoodM_any l B e4 HL.out.2.1 w3 hrow HL.out.2.2
     rw [HL.out.1] at hgd
     unfold EqV at hgd
     have HGD := Lib.hid hgd
     clear hrow hgd
     go_wp2_with (go_at_call 15; refine HGD.out.mono ?_; rintro e w4 ⟨rfl, hd⟩; have HD4 := Lib.hid (HO.out.2.trans (Below.mono hd HO.out.2.size)); clear hd)
     go_roundw
     case rel => exact ⟨i + 1, by omega, by go_num, HD4⟩
     case measure => simp [intOf]; omega
   · obtain rfl : i = NG := by omega
     go_wp2_with fail
     go_ret
     exact ⟨rfl, HV.out.trans (HD.out.mono HV.out.size)⟩
end Go.Proofs.YtkaipknkjocfiaaGreat
