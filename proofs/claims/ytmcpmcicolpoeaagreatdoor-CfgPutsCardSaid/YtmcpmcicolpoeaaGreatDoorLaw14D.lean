/- The walk of CfgPuts. -/
import Derived.Test.YtmcpmcicolpoeaaGreatDoorLaw14B
import Derived.Test.YtmcpmcicolpoeaaGreatDoorWq
namespace Go.Proofs.YtmcpmcicolpoeaaGreatDoor
open Go.RowKit
attribute [local go_sem ↓ high] zeroCf

set_option maxHeartbeats 8000000 in
set_option maxRecDepth 100000 in
theorem cfgPuts_walk (x : Cf) (a c : Value) (w : World) (hx : CfR w w.heap.size x a c) (hb : CfB x) :
    Calls Tryz.prog 3 #[.agg (vec 3 (cfE x.ver a c))] w fun e w' => e = .returned (.bool true) ∧ Below w.heap.size w w' := by
  obtain ⟨V0, hV0⟩ : ∃ V, V = w.alloc (.cells (vec 3 (cfE x.ver a c)) 26) := ⟨_, rfl⟩
  have k1 : Arr V0 w.heap.size 26 3 (cfE x.ver a c) := by rw [hV0]; exact Arr.new w _ _ _
  have hB : Below w.heap.size w V0 := by rw [hV0]; exact (Below.refl _ _).alloc (Nat.le_refl _) _
  have HW := Lib.hid hV0
  have H0 := Lib.hid (And.intro hB (And.intro k1 (hx.up hB)))
  have HCB := Lib.hid hb
  clear hV0 k1 hB hx hb
  go_enter Tryz.func3, Tryz.ntmps3
  go_upto_region 1 with fail
  rw [← HW.out]
  clear HW
  go_upto_region 3 with (go_at_call 5; refine (awake_any _).mono ?_; rintro e V ⟨rfl, hd⟩; have HAW := Lib.hid hd; clear hd)
  have HV : Hid (Below w.heap.size w V) := Lib.hid (H0.out.1.trans (HAW.out.mono H0.out.1.size))
  have HA := Lib.hid (H0.out.2.1.under HAW.out)
  have HCX := Lib.hid (H0.out.2.2.up HAW.out)
  have HD : Hid (Below V.heap.size V V) := Lib.hid (Below.refl _ _)
  clear H0 HAW
  obtain ⟨fx, hfx⟩ : ∃ f, f = fewC x := ⟨_, rfl⟩
  have HFA : Hid (∀ Y, Below V.heap.size V Y → Calls Tryz.prog 6 #[.agg (vec 3 (cfE x.ver a c))] Y (FewP fx Y)) := Lib.hid (fun Y hY => by rw [hfx]; exact few_any x a c Y (HCX.out.up hY))
  cases fx
  · clear hfx
    go_wp2_with (first
      | ((with_reducible show wpList _ _ _ (Oper.mk _ (.load _ _) _ _ _ _ :: _) _ _); refine wl_load rfl 26 _ rfl _ rfl _ (run_load_arr HA.out Tryz.underlying26 rfl infoCf) ?_)
      | (go_at_call 6; refine (HFA.out _ HD.out).mono ?_; rintro e w1 ⟨rfl, hd⟩; have HD := Lib.hid hd; clear hd))
    go_ret
    exact ⟨rfl, HV.out.trans (HD.out.mono HV.out.size)⟩
  have HNK := Lib.hid (few_nmK HCB.out hfx.symm)
  clear hfx
  go_upto_region 5 with (first
      | ((with_reducible show wpList _ _ _ (Oper.mk _ (.load _ _) _ _ _ _ :: _) _ _); refine wl_load rfl 26 _ rfl _ rfl _ (run_load_arr HA.out Tryz.underlying26 rfl infoCf) ?_)
      | (go_at_call 6; refine (HFA.out _ HD.out).mono ?_; rintro e w1 ⟨rfl, hd⟩; have HD := Lib.hid hd; clear hd))
  clear HFA
  by_cases he : errP x = 0
  rotate_left
  · have HP1 := Lib.hid (fun Y (hY : Below V.heap.size V Y) => put_no (HCX.out.up hY) HCB.out HNK.out he)
    have HP2 := Lib.hid (fun Y (hY : Below V.heap.size V Y) => rput_no (HCX.out.up hY) HCB.out (fun g hg => (HNK.out g hg).2) he)
    obtain ⟨n, hn⟩ : ∃ n, n = errP x := ⟨_, rfl⟩
    rw [← hn] at HP1 HP2
    obtain ⟨S, hS⟩ : ∃ S, S = strOf [] := ⟨_, rfl⟩
    have HCV : Hid (∀ (Y : World), (convert 29 9 (.slice none 0 0)).run Tryz.prog Y = .ok (.string S) Y) := Lib.hid (fun Y => by rw [hS]; exact conv_str Y Y.heap.size none 0 0 [] (Lies.nil _ _ _ _))
    clear he hn hS
    go_upto_region 7 with (first
      | ((with_reducible show wpList _ _ _ (Oper.mk _ (.load _ _) _ _ _ _ :: _) _ _); refine wl_load rfl 26 _ rfl _ rfl _ (run_load_arr (HA.out.under HD.out) Tryz.underlying26 rfl infoCf) ?_)
      | (go_at_call 7; refine (HP1.out _ HD.out).mono ?_; rintro e w2 ⟨rfl, hd⟩; have HD := Lib.hid (HD.out.trans (hd.mono HD.out.size)); clear hd)
      | (go_at_call 8; refine (HP2.out _ HD.out).mono ?_; rintro e w3 ⟨rfl, hd⟩; have HD := Lib.hid (HD.out.trans (hd.mono HD.out.size)); clear hd))
    have hcv := HCV.out w3
    go_wp2_with fail
    go_ret
    exact ⟨rfl, HV.out.trans (HD.out.mono HV.out.size)⟩
  have HP1 := Lib.hid (fun Y (hY : Below V.heap.size V Y) => put_yes (HCX.out.up hY) HCB.out HNK.out he)
  have HP2 := Lib.hid (fun Y (hY : Below V.heap.size V Y) => rput_yes (HCX.out.up hY) HCB.out (fun g hg => (HNK.out g hg).2) he)
  obtain ⟨LZ, hLZ⟩ : ∃ l, l = layC x := ⟨_, rfl⟩
  obtain ⟨NZ, hNZ⟩ : ∃ n, n = LZ.length := ⟨_, rfl⟩
  rw [← hLZ, ← hNZ] at HP1 HP2
  obtain ⟨S, hS⟩ : ∃ S, S = strOf LZ := ⟨_, rfl⟩
  have HCV : Hid (∀ (Y : World) (B : Option Addr) (d : Nat), Lies Y Y.heap.size 1 B NZ (u8s LZ) → (convert 29 9 (.slice B NZ d)).run Tryz.prog Y = .ok (.string S) Y) := Lib.hid (fun Y B d h => by rw [hS]; exact conv_str Y _ B NZ d LZ h)
  clear he hLZ hNZ hS
  go_upto_region 6 with (first
      | ((with_reducible show wpList _ _ _ (Oper.mk _ (.load _ _) _ _ _ _ :: _) _ _); refine wl_load rfl 26 _ rfl _ rfl _ (run_load_arr (HA.out.under HD.out) Tryz.underlying26 rfl infoCf) ?_)
      | (go_at_call 7; refine (HP1.out _ HD.out).mono ?_; rintro e w2 ⟨A1, d1, rfl, hc, hl, hd⟩; have HL1 := Lib.hid hl; have HD := Lib.hid (HD.out.trans (hd.mono HD.out.size)); clear hd hc hl))
  go_upto_region 7 with (first
      | ((with_reducible show wpList _ _ _ (Oper.mk _ (.load _ _) _ _ _ _ :: _) _ _); refine wl_load rfl 26 _ rfl _ rfl _ (run_load_arr (HA.out.under HD.out) Tryz.underlying26 rfl infoCf) ?_)
      | (go_at_call 8; refine (HP2.out _ HD.out).mono ?_; rintro e w3 ⟨A2, d2, rfl, hc, hl, hd⟩; have HL2 := Lib.hid hl; have HL3 := Lib.hid ((HL1.out.below hd).wide hd.size); have HD := Lib.hid (HD.out.trans (hd.mono HD.out.size)); clear hd hc hl))
  have hcv1 := HCV.out w3 A1 d1 HL3.out
  have hcv2 := HCV.out w3 A2 d2 HL2.out
  go_wp2_with fail
  go_ret
  exact ⟨rfl, HV.out.trans (HD.out.mono HV.out.size)⟩
end Go.Proofs.YtmcpmcicolpoeaaGreatDoor
