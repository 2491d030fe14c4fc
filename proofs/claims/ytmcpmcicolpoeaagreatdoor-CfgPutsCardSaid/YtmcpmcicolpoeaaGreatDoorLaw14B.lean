/- The walk of CfgBack. -/
import Derived.Test.YtmcpmcicolpoeaaGreatDoorMg
import Derived.Test.YtmcpmcicolpoeaaGreatDoorFw
import Derived.Test.YtmcpmcicolpoeaaGreatDoorMr
import Derived.Test.YtmcpmcicolpoeaaGreatDoorLz
import Derived.Test.YtmcpmcicolpoeaaGreatDoorOk
namespace Go.Proofs.YtmcpmcicolpoeaaGreatDoor
open Go.RowKit
attribute [local go_sem ↓ high] zeroCf

theorem few_nmK {x : Cf} (hb : CfB x) (h : fewC x = true) : NmK x := hb.nmK fun g hg => by
  have := (gFew_iff ((few_gs h).2.2 g hg)).2.2.2.2
  omega
theorem put_yes {x : Cf} {a c : Value} {w : World} (hx : CfR w w.heap.size x a c) (hb : CfB x) (hn : NmK x) (he : errP x = 0) : Calls Tryz.prog 7 #[.agg (vec 3 (cfE x.ver a c))] w fun e w' => ∃ A d, e = .returned (.tuple #[.slice A (layC x).length d, .int .i64 0]) ∧ (layC x).length ≤ d ∧ Lies w' w'.heap.size 1 A (layC x).length (u8s (layC x)) ∧ Below w.heap.size w w' := by
  refine (put_any x a c w hx hb hn).mono ?_
  rintro e w' ⟨h, hd⟩
  rw [if_pos he] at h
  obtain ⟨v, rfl, hv⟩ := h
  obtain ⟨A, d, rfl, hc, hl⟩ := (own_of hv).lies
  exact ⟨A, d, rfl, hc, hl, hd⟩
theorem put_no {x : Cf} {a c : Value} {w : World} (hx : CfR w w.heap.size x a c) (hb : CfB x) (hn : NmK x) (he : errP x ≠ 0) : Calls Tryz.prog 7 #[.agg (vec 3 (cfE x.ver a c))] w fun e w' => e = .returned (.tuple #[.slice none 0 0, .int .i64 (errP x : Int)]) ∧ Below w.heap.size w w' := by
  refine (put_any x a c w hx hb hn).mono ?_
  rintro e w' ⟨h, hd⟩
  rw [if_neg he] at h
  exact ⟨h, hd⟩
theorem parse_yes {A : Option Addr} {c : Nat} {b : By} {w : World} {x : Cf} (hbc : b.length ≤ c) (hl : Lies w w.heap.size 1 A b.length (u8s b)) (h : getC kOk b = .ok x) (hn : Lens x) : Calls Tryz.prog 9 #[.slice A b.length c] w fun e w' => ∃ a c', e = .returned (.tuple #[.agg (vec 3 (cfE x.ver a c')), .int .i64 0, .int .i64 0]) ∧ CfR w' w'.heap.size x a c' ∧ Below w.heap.size w w' := by
  refine (parse_any A c b w hbc hl).mono ?_
  intro e w' hh
  unfold ParseP at hh
  rw [h] at hh
  obtain ⟨v, rfl, hv, hd⟩ := hh
  obtain ⟨a, c', rfl, hr⟩ := cfgV_read hv hn
  exact ⟨a, c', rfl, hr, hd⟩
theorem cf_one {w : World} {B : Nat} {x : Cf} {a c : Value} (h : CfR w B x a c) (n : Nat) : ∀ i, i < n → (cfE x.ver a c i).oneCell' = true := by
  obtain ⟨⟨A, d, ys, rfl, _⟩, ⟨A2, d2, rfl, _⟩⟩ := h
  exact cfE_one _ _ _ rfl rfl n
set_option maxHeartbeats 8000000 in
set_option maxRecDepth 100000 in
theorem cfgBack_walk (x : Cf) (a c : Value) (w : World) (hx : CfR w w.heap.size x a c) (hb : CfB x) :
    Calls Tryz.prog 4 #[.agg (vec 3 (cfE x.ver a c))] w fun e w' => e = .returned (.bool true) ∧ Below w.heap.size w w' := by
  obtain ⟨V0, hV0⟩ : ∃ V, V = w.alloc (.cells (vec 3 (cfE x.ver a c)) 26) := ⟨_, rfl⟩
  have k1 : Arr V0 w.heap.size 26 3 (cfE x.ver a c) := by rw [hV0]; exact Arr.new w _ _ _
  have hB : Below w.heap.size w V0 := by rw [hV0]; exact (Below.refl _ _).alloc (Nat.le_refl _) _
  have HW := Lib.hid hV0
  have H0 := Lib.hid (And.intro hB (And.intro k1 (hx.up hB)))
  have HCB := Lib.hid hb
  clear hV0 k1 hB hx hb
  go_enter Tryz.func4, Tryz.ntmps4
  go_upto_region 1 with fail
  rw [← HW.out]
  clear HW
  go_upto_region 3 with (go_at_call 5; refine (awake_any _).mono ?_; rintro e V ⟨rfl, hd⟩; have HAW := Lib.hid hd; clear hd)
  have HV : Hid (Below w.heap.size w V) := Lib.hid (H0.out.1.trans (HAW.out.mono H0.out.1.size))
  have HA := Lib.hid (H0.out.2.1.under HAW.out)
  have HCX := Lib.hid (H0.out.2.2.up HAW.out)
  have HD : Hid (Below V.heap.size V V) := Lib.hid (Below.refl _ _)
  clear H0 HAW
  obtain ⟨fx, hfx⟩ : ∃ f, f = fewC x := ⟨_, rfl⟩
  have HFA : Hid (∀ Y, Below V.heap.size V Y → Calls Tryz.prog 6 #[.agg (vec 3 (cfE x.ver a c))] Y (FewP fx Y)) := Lib.hid (fun Y hY => by rw [hfx]; exact few_any x a c Y (HCX.out.up hY))
  cases fx
  · clear hfx
    go_wp2_with (first
      | ((with_reducible show wpList _ _ _ (Oper.mk _ (.load _ _) _ _ _ _ :: _) _ _); refine wl_load rfl 26 _ rfl _ rfl _ (run_load_arr HA.out Tryz.underlying26 rfl infoCf) ?_)
      | (go_at_call 6; refine (HFA.out _ HD.out).mono ?_; rintro e w1 ⟨rfl, hd⟩; have HD := Lib.hid hd; clear hd))
    go_ret
    exact ⟨rfl, HV.out.trans (HD.out.mono HV.out.size)⟩
  have HNK := Lib.hid (few_nmK HCB.out hfx.symm)
  clear hfx
  go_upto_region 5 with (first
      | ((with_reducible show wpList _ _ _ (Oper.mk _ (.load _ _) _ _ _ _ :: _) _ _); refine wl_load rfl 26 _ rfl _ rfl _ (run_load_arr HA.out Tryz.underlying26 rfl infoCf) ?_)
      | (go_at_call 6; refine (HFA.out _ HD.out).mono ?_; rintro e w1 ⟨rfl, hd⟩; have HD := Lib.hid hd; clear hd))
  by_cases he : errP x = 0
  rotate_left
  · have HPN := Lib.hid (put_no (HCX.out.up HD.out) HCB.out HNK.out he)
    obtain ⟨n, hn⟩ : ∃ n, n = errP x := ⟨_, rfl⟩
    rw [← hn] at HPN he
    have n1 : ((n : Int) != 0) = true := bne_iff_ne.2 (by omega)
    have n2 : ¬ (n : Int) = 0 := by omega
    clear he hn
    go_wp2_with (first
      | ((with_reducible show wpList _ _ _ (Oper.mk _ (.load _ _) _ _ _ _ :: _) _ _); refine wl_load rfl 26 _ rfl _ rfl _ (run_load_arr (HA.out.under HD.out) Tryz.underlying26 rfl infoCf) ?_)
      | (go_at_call 7; refine HPN.out.mono ?_; rintro e w2 ⟨rfl, hd⟩; have HD := Lib.hid (HD.out.trans (hd.mono HD.out.size)); clear hd))
    go_ret
    exact ⟨rfl, HV.out.trans (HD.out.mono HV.out.size)⟩
  have HPY := Lib.hid (put_yes (HCX.out.up HD.out) HCB.out HNK.out he)
  have HPG := Lib.hid (And.intro (put_back kOk (errP_put HCB.out he).1) (errP_put HCB.out he).2)
  obtain ⟨LZ, hLZ⟩ : ∃ l, l = layC x := ⟨_, rfl⟩
  rw [← hLZ] at HPY HPG
  clear he hLZ
  go_upto_region 9 with (first
      | ((with_reducible show wpList _ _ _ (Oper.mk _ (.load _ _) _ _ _ _ :: _) _ _); refine wl_load rfl 26 _ rfl _ rfl _ (run_load_arr (HA.out.under HD.out) Tryz.underlying26 rfl infoCf) ?_)
      | (go_at_call 7; refine HPY.out.mono ?_; rintro e w2 ⟨A, dd, rfl, hc, hl, hd⟩; have HD := Lib.hid (HD.out.trans (hd.mono HD.out.size)); have HPS := Lib.hid (parse_yes hc hl HPG.out.1 HPG.out.2); clear hd hc hl)
      | (go_at_call 9; refine HPS.out.mono ?_; rintro e w3 ⟨a', c', rfl, hr, hd⟩; have HD := Lib.hid (HD.out.trans (hd.mono HD.out.size)); have HR := Lib.hid hr; have HO := Lib.hid (cf_one hr 3); clear hd hr)
      | ((with_reducible show wpList _ _ _ (Oper.mk _ (.store _ _ _) _ _ _ _ :: _) _ _); refine wl_store rfl 26 _ _ rfl _ rfl _ rfl (run_store_arr (Arr.new w3 _ _ _) (cfE x.ver a' c') infoCf HO.out) ?_))
  obtain ⟨W, hW⟩ : ∃ W, W = (w3.alloc (.cells (vec 3 (cfE 0 nilV nilV)) 26)).setRow w3.heap.size (vec 3 (cfE x.ver a' c')) := ⟨_, rfl⟩
  have b1 : Below w3.heap.size w3 W := by rw [hW]; exact below_row ((Below.refl _ _).alloc (Nat.le_refl _) _) (Nat.le_refl _) _
  have a1 : Arr W w3.heap.size 26 3 (cfE x.ver a' c') := by rw [hW]; exact (Arr.new w3 _ _ _).row _
  have HR := Lib.hid (HR.out.up b1)
  have HD := Lib.hid (HD.out.trans (b1.mono HD.out.size))
  have HCX := Lib.hid (HCX.out.up HD.out)
  have HA := Lib.hid (HA.out.under HD.out)
  have HA1 := Lib.hid a1
  have HS1 := Lib.hid (fun Y (hY : Below W.heap.size W Y) => same_any x x a' c' a c Y (HR.out.up hY) (HCX.out.up hY))
  have HS2 := Lib.hid (fun Y (hY : Below W.heap.size W Y) => rsame_any x x a' c' a c Y (HR.out.up hY) (HCX.out.up hY))
  rw [cfEq_self] at HS1 HS2
  unfold cfVal at HS1 HS2
  have HE : Hid (Below W.heap.size W W) := Lib.hid (Below.refl _ _)
  rw [← hW]
  clear hW b1 a1
  go_wp2_with (first
      | ((with_reducible show wpList _ _ _ (Oper.mk _ (.load _ (.tmp 5)) _ _ _ _ :: _) _ _); refine wl_execG (by kernel_rfl) (exec_load_at 26 _ rfl _ _ rfl _ (run_load_arr (HA1.out.under HE.out) Tryz.underlying26 rfl infoCf)) ?_)
      | ((with_reducible show wpList _ _ _ (Oper.mk _ (.load _ (.tmp 1)) _ _ _ _ :: _) _ _); refine wl_execG (by kernel_rfl) (exec_load_at 26 _ rfl _ _ rfl _ (run_load_arr (HA.out.under HE.out) Tryz.underlying26 rfl infoCf)) ?_)
      | (go_at_call 10; refine (HS1.out _ HE.out).mono ?_; rintro e w5 ⟨rfl, hd⟩; have HE := Lib.hid hd; clear hd)
      | (go_at_call 11; refine (HS2.out _ HE.out).mono ?_; rintro e w6 ⟨rfl, hd⟩; have HE := Lib.hid (HE.out.trans (hd.mono HE.out.size)); clear hd))
  go_ret
  exact ⟨rfl, HV.out.trans ((HD.out.trans (HE.out.mono HD.out.size)).mono HV.out.size)⟩
end Go.Proofs.YtmcpmcicolpoeaaGreatDoor
