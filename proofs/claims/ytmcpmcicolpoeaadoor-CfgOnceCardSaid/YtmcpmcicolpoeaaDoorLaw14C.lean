/- The walk of CfgOnce. -/
import Derived.Test.YtmcpmcicolpoeaaDoorMg
import Derived.Test.YtmcpmcicolpoeaaDoorLz
import Derived.Test.YtmcpmcicolpoeaaDoorOk
import Derived.Test.YtmcpmcicolpoeaaDoorNz
namespace Go.Proofs.YtmcpmcicolpoeaaDoor
open Go.RowKit
attribute [local go_sem ↓ high] zeroCf

theorem put_read {x : Cf} {a c : Value} {w : World} (hx : CfR w w.heap.size x a c) (hb : CfB x) (hn : NmK x) (he : errP x = 0) {b : By} (hl : layC x = b) : Calls Tryd.prog 11 #[.agg (vec 3 (cfE x.ver a c))] w fun e w' => ∃ A d, e = .returned (.tuple #[.slice A b.length d, .int .i64 0]) ∧ Lies w' w'.heap.size 1 A b.length (u8s b) ∧ Below w.heap.size w w' := by
  refine (put_any x a c w hx hb hn).mono ?_
  rintro e w' ⟨h, hd⟩
  rw [if_pos he, hl] at h
  obtain ⟨v, rfl, hv⟩ := h
  obtain ⟨A, d, rfl, hc, hl⟩ := (own_of hv).lies
  exact ⟨A, d, rfl, hl, hd⟩
theorem parse_read {A : Option Addr} {c : Nat} {b : By} {w : World} {x : Cf} (hbc : b.length ≤ c) (hl : Lies w w.heap.size 1 A b.length (u8s b)) (h : getC kOk b = .ok x) (hn : Lens x) : Calls Tryd.prog 8 #[.slice A b.length c] w fun e w' => ∃ a c', e = .returned (.tuple #[.agg (vec 3 (cfE x.ver a c')), .int .i64 0, .int .i64 0]) ∧ CfR w' w'.heap.size x a c' ∧ Below w.heap.size w w' := by
  refine (parse_any A c b w hbc hl).mono ?_
  intro e w' hh
  unfold ParseP at hh
  rw [h] at hh
  obtain ⟨v, rfl, hv, hd⟩ := hh
  obtain ⟨a, c', rfl, hr⟩ := cfgV_read hv hn
  exact ⟨a, c', rfl, hr, hd⟩
theorem cf_one' {w : World} {B : Nat} {x : Cf} {a c : Value} (h : CfR w B x a c) (n : Nat) : ∀ i, i < n → (cfE x.ver a c i).oneCell' = true := by
  obtain ⟨⟨A, d, ys, rfl, _⟩, ⟨A2, d2, rfl, _⟩⟩ := h
  exact cfE_one _ _ _ rfl rfl n
set_option maxHeartbeats 8000000 in
set_option maxRecDepth 100000 in
theorem cfgOnce_walk (A : Option Addr) (c : Nat) (b : By) (w : World) (hc : b.length ≤ c) (hl : Lies w w.heap.size 1 A b.length (u8s b)) :
    Calls Tryd.prog 4 #[.slice A b.length c] w fun e w' => e = .returned (.bool true) ∧ Below w.heap.size w w' := by
  have HL := Lib.hid hl
  obtain ⟨N, hN⟩ : ∃ N, N = b.length := ⟨_, rfl⟩
  have HNB := Lib.hid hN
  rw [← hN]
  clear hl hN
  go_enter Tryd.func4, Tryd.ntmps4
  go_upto_region 3 with (go_at_call 7; refine (awake_any _).mono ?_; rintro e V ⟨rfl, hd⟩; have HV := Lib.hid hd; clear hd)
  by_cases h5 : 5000 < N
  · have e1 : (5000 : Int) < (N : Int) := by omega
    go_wp2_with fail
    go_ret
    exact ⟨rfl, HV.out⟩
  have e1 : ¬ (5000 : Int) < (N : Int) := by omega
  have HLV := Lib.hid ((HL.out.below HV.out).wide HV.out.size)
  cases hg : getC kOk b with
  | error x =>
    obtain ⟨er, pl⟩ := x
    have HP := Lib.hid (parse_err hc HLV.out hg)
    rw [← HNB.out] at HP
    have hnz := getC_nz hg
    have n1 : ((er : Int) != 0) = true := bne_iff_ne.2 (by omega)
    have n2 : ¬ (er : Int) = 0 := by omega
    clear hnz hg hc
    go_upto_region 6 with (first
      | (go_at_call 8; refine HP.out.mono ?_; rintro e w1 ⟨rfl, hd⟩; have HD := Lib.hid (HV.out.trans (hd.mono HV.out.size)); clear hd)
      | ((with_reducible show wpList _ _ _ (Oper.mk _ (.store _ _ _) _ _ _ _ :: _) _ _); refine wl_store rfl 28 _ _ rfl _ rfl _ rfl (run_store_arr (Arr.new w1 _ _ _) (cfE 0 nilV nilV) infoCf (cfE_one _ _ _ rfl rfl _)) ?_))
    obtain ⟨W, hW⟩ : ∃ W, W = (w1.alloc (.cells (vec 3 (cfE 0 nilV nilV)) 28)).setRow w1.heap.size (vec 3 (cfE 0 nilV nilV)) := ⟨_, rfl⟩
    have a1 : Arr W w1.heap.size 28 3 (cfE 0 nilV nilV) := by rw [hW]; exact (Arr.new w1 _ _ _).row _
    have HB : Hid (Below w.heap.size w W) := Lib.hid (by rw [hW]; exact below_row (HD.out.alloc HD.out.size _) HD.out.size _)
    have c1 : W.cell? ⟨w1.heap.size, 1, none⟩ = some (.slice none 0 0) := a1.cell (i := 1) (by decide)
    rw [← hW]
    clear hW a1
    go_wp2_with fail
    go_ret
    exact ⟨rfl, HB.out⟩
  | ok x =>
    obtain ⟨hcb, hep, hly, hln, hnk⟩ := put_errP (get_once kOk hg)
    have HP := Lib.hid (parse_read hc HLV.out hg hln)
    rw [← HNB.out] at HP
    have HPU : Hid (∀ (Y : World) (a' c' : Value), CfR Y Y.heap.size x a' c' → Calls Tryd.prog 11 #[.agg (vec 3 (cfE x.ver a' c'))] Y fun e w' => ∃ A d, e = .returned (.tuple #[.slice A N d, .int .i64 0]) ∧ Lies w' w'.heap.size 1 A N (u8s b) ∧ Below Y.heap.size Y w') := Lib.hid (fun Y a' c' h => by
      have := put_read h hcb hnk hep hly
      rw [← HNB.out] at this
      exact this)
    rw [← HNB.out] at HLV
    obtain ⟨S, hS⟩ : ∃ S, S = strOf b := ⟨_, rfl⟩
    have HCV : Hid (∀ (Y : World) (B : Option Addr) (d : Nat), Lies Y Y.heap.size 1 B N (u8s b) → (convert 22 9 (.slice B N d)).run Tryd.prog Y = .ok (.string S) Y) := Lib.hid (fun Y B d h => by rw [hS]; exact conv_str Y _ B N d b h)
    clear hcb hep hly hln hnk hg hc hS
    go_upto_region 6 with (first
      | (go_at_call 8; refine HP.out.mono ?_; rintro e w1 ⟨a', c', rfl, hr, hd⟩; have HD := Lib.hid hd; have HR := Lib.hid hr; have HO := Lib.hid (cf_one' hr 3); clear hd hr)
      | ((with_reducible show wpList _ _ _ (Oper.mk _ (.store _ _ _) _ _ _ _ :: _) _ _); refine wl_store rfl 28 _ _ rfl _ rfl _ rfl (run_store_arr (Arr.new w1 _ _ _) (cfE x.ver a' c') infoCf HO.out) ?_))
    obtain ⟨W, hW⟩ : ∃ W, W = (w1.alloc (.cells (vec 3 (cfE 0 nilV nilV)) 28)).setRow w1.heap.size (vec 3 (cfE x.ver a' c')) := ⟨_, rfl⟩
    have b1 : Below w1.heap.size w1 W := by rw [hW]; exact below_row ((Below.refl _ _).alloc (Nat.le_refl _) _) (Nat.le_refl _) _
    have a1 : Arr W w1.heap.size 28 3 (cfE x.ver a' c') := by rw [hW]; exact (Arr.new w1 _ _ _).row _
    have HR := Lib.hid (HR.out.up b1)
    have HD := Lib.hid (HD.out.trans (b1.mono HD.out.size))
    have HA1 := Lib.hid a1
    have HLW := Lib.hid ((HLV.out.below HD.out).wide HD.out.size)
    rw [← hW]
    clear hW b1 a1
    go_wp2_with (first
      | ((with_reducible show wpList _ _ _ (Oper.mk _ (.load 28 _) _ _ _ _ :: _) _ _); refine wl_load rfl 28 _ rfl _ rfl _ (run_load_arr HA1.out Tryd.underlying28 rfl infoCf) ?_)
      | (go_at_call 11; refine (HPU.out _ _ _ HR.out).mono ?_; rintro e w2 ⟨A2, dd, rfl, hl2, hd⟩; have hcv1 := HCV.out w2 A2 dd hl2; have hcv2 := HCV.out w2 A c ((HLW.out.below hd).wide hd.size); have HD := Lib.hid (HD.out.trans (hd.mono HD.out.size)); clear hl2 hd))
    go_ret
    exact ⟨rfl, HV.out.trans (HD.out.mono HV.out.size)⟩
end Go.Proofs.YtmcpmcicolpoeaaDoor
