/- The walk of CfgParses. -/
import Derived.Test.YtmcpmcicolpoeaaDoorMg
import Derived.Test.YtmcpmcicolpoeaaDoorMr
import Derived.Test.YtmcpmcicolpoeaaDoorOk
import Derived.Test.YtmcpmcicolpoeaaDoorXr5
namespace Go.Proofs.YtmcpmcicolpoeaaDoor
open Go.RowKit
attribute [local go_sem ↓ high] zeroCf

/-- What both readers answer, of the same bytes. -/
theorem parseP_read (b : By) : ∃ (x : Cf) (pl er : Nat), ∀ (w : World) (e : Ending) (w' : World), ParseP b w e w' → ∃ a c', e = .returned (.tuple #[.agg (vec 3 (cfE x.ver a c')), .int .i64 (pl : Int), .int .i64 (er : Int)]) ∧ CfR w' w'.heap.size x a c' ∧ Below w.heap.size w w' := by
  cases hg : getC kOk b with
  | error y =>
    obtain ⟨er, pl⟩ := y
    refine ⟨⟨0, [], []⟩, pl, er, fun w e w' hh => ?_⟩
    unfold ParseP at hh
    rw [hg] at hh
    exact ⟨nilV, nilV, hh.1, ⟨⟨none, 0, [], rfl, rfl, ⟨RowE.nil _ _ _, fun y hy => by cases hy⟩, by decide⟩, ⟨none, 0, rfl, RowE.nil _ _ _, by decide⟩⟩, hh.2⟩
  | ok x =>
    obtain ⟨-, -, -, hln, -⟩ := put_errP (get_once kOk hg)
    refine ⟨x, 0, 0, fun w e w' hh => ?_⟩
    unfold ParseP at hh
    rw [hg] at hh
    obtain ⟨v, rfl, hv, hd⟩ := hh
    obtain ⟨a, c', rfl, hr⟩ := cfgV_read hv hln
    exact ⟨a, c', rfl, hr, hd⟩
theorem cf_one3 {w : World} {B : Nat} {x : Cf} {a c : Value} (h : CfR w B x a c) (n : Nat) : ∀ i, i < n → (cfE x.ver a c i).oneCell' = true := by
  obtain ⟨⟨A, d, ys, rfl, _⟩, ⟨A2, d2, rfl, _⟩⟩ := h
  exact cfE_one _ _ _ rfl rfl n
set_option maxHeartbeats 8000000 in
set_option maxRecDepth 100000 in
theorem cfgParses_walk (A : Option Addr) (c : Nat) (b : By) (w : World) (hc : b.length ≤ c) (hl : Lies w w.heap.size 1 A b.length (u8s b)) :
    Calls Tryd.prog 3 #[.slice A b.length c] w fun e w' => e = .returned (.bool true) ∧ Below w.heap.size w w' := by
  have HL := Lib.hid hl
  obtain ⟨x, pl, er, hrd⟩ := parseP_read b
  have HP : Hid (∀ Y, Below w.heap.size w Y → Calls Tryd.prog 8 #[.slice A b.length c] Y fun e w' => ∃ a c', e = .returned (.tuple #[.agg (vec 3 (cfE x.ver a c')), .int .i64 (pl : Int), .int .i64 (er : Int)]) ∧ CfR w' w'.heap.size x a c' ∧ Below Y.heap.size Y w') := Lib.hid (fun Y hY => (parse_any A c b Y hc ((hl.below hY).wide hY.size)).mono (fun e w' h => hrd Y e w' h))
  have HQ : Hid (∀ Y, Below w.heap.size w Y → Calls Tryd.prog 9 #[.slice A b.length c] Y fun e w' => ∃ a c', e = .returned (.tuple #[.agg (vec 3 (cfE x.ver a c')), .int .i64 (pl : Int), .int .i64 (er : Int)]) ∧ CfR w' w'.heap.size x a c' ∧ Below Y.heap.size Y w') := Lib.hid (fun Y hY => (rparse14_any A c b Y hc ((hl.below hY).wide hY.size)).mono (fun e w' h => hrd Y e w' h))
  obtain ⟨N, hN⟩ : ∃ N, N = b.length := ⟨_, rfl⟩
  rw [← hN] at HP HQ ⊢
  clear hl hN hc hrd HL
  go_enter Tryd.func3, Tryd.ntmps3
  go_upto_region 3 with (go_at_call 7; refine (awake_any _).mono ?_; rintro e V ⟨rfl, hd⟩; have HV := Lib.hid hd; clear hd)
  by_cases h5 : 5000 < N
  · have e1 : (5000 : Int) < (N : Int) := by omega
    go_wp2_with fail
    go_ret
    exact ⟨rfl, HV.out⟩
  have e1 : ¬ (5000 : Int) < (N : Int) := by omega
  go_upto_region 6 with (first
    | (go_at_call 8; refine (HP.out _ HV.out).mono ?_; rintro e w1 ⟨a1, c1, rfl, hr, hd⟩; have HD1 := Lib.hid hd; have HR1 := Lib.hid hr; have HO1 := Lib.hid (cf_one3 hr 3); clear hd hr)
    | ((with_reducible show wpList _ _ _ (Oper.mk _ (.store _ _ _) _ _ _ _ :: _) _ _); refine wl_store rfl 28 _ _ rfl _ rfl _ rfl (run_store_arr (Arr.new w1 _ _ _) (cfE x.ver a1 c1) infoCf HO1.out) ?_))
  obtain ⟨W, hW⟩ : ∃ W, W = (w1.alloc (.cells (vec 3 (cfE 0 nilV nilV)) 28)).setRow w1.heap.size (vec 3 (cfE x.ver a1 c1)) := ⟨_, rfl⟩
  have b1 : Below w1.heap.size w1 W := by rw [hW]; exact below_row ((Below.refl _ _).alloc (Nat.le_refl _) _) (Nat.le_refl _) _
  have k1 : Arr W w1.heap.size 28 3 (cfE x.ver a1 c1) := by rw [hW]; exact (Arr.new w1 _ _ _).row _
  obtain ⟨g1, hg1⟩ : ∃ g, g = w1.heap.size := ⟨_, rfl⟩
  rw [← hg1] at k1
  have HR1 := Lib.hid (HR1.out.up b1)
  have HW : Hid (Below w.heap.size w W) := Lib.hid ((HV.out.trans (HD1.out.mono HV.out.size)).trans (b1.mono (Nat.le_trans HV.out.size HD1.out.size)))
  have HA1 := Lib.hid k1
  rw [← hW, ← hg1]
  clear hW b1 k1 hg1 HD1 HO1
  go_upto_region 7 with (first
    | (go_at_call 9; refine (HQ.out _ HW.out).mono ?_; rintro e w2 ⟨a2, c2, rfl, hr, hd⟩; have HD2 := Lib.hid hd; have HR2 := Lib.hid hr; have HO2 := Lib.hid (cf_one3 hr 3); clear hd hr)
    | ((with_reducible show wpList _ _ _ (Oper.mk _ (.store _ _ _) _ _ _ _ :: _) _ _); refine wl_store rfl 28 _ _ rfl _ rfl _ rfl (run_store_arr (Arr.new w2 _ _ _) (cfE x.ver a2 c2) infoCf HO2.out) ?_))
  obtain ⟨Z, hZ⟩ : ∃ W, W = (w2.alloc (.cells (vec 3 (cfE 0 nilV nilV)) 28)).setRow w2.heap.size (vec 3 (cfE x.ver a2 c2)) := ⟨_, rfl⟩
  have b2 : Below w2.heap.size w2 Z := by rw [hZ]; exact below_row ((Below.refl _ _).alloc (Nat.le_refl _) _) (Nat.le_refl _) _
  have k2 : Arr Z w2.heap.size 28 3 (cfE x.ver a2 c2) := by rw [hZ]; exact (Arr.new w2 _ _ _).row _
  obtain ⟨g2, hg2⟩ : ∃ g, g = w2.heap.size := ⟨_, rfl⟩
  rw [← hg2] at k2
  have b3 : Below W.heap.size W Z := HD2.out.trans (b2.mono HD2.out.size)
  have HA1 := Lib.hid (HA1.out.under b3)
  have HR1 := Lib.hid (HR1.out.up b3)
  have HR2 := Lib.hid (HR2.out.up b2)
  have HZ : Hid (Below w.heap.size w Z) := Lib.hid (HW.out.trans (b3.mono HW.out.size))
  have HA2 := Lib.hid k2
  rw [← hZ, ← hg2]
  clear hZ b2 b3 k2 hg2 HD2 HO2 HW
  have HS := Lib.hid (rsame_any x x a1 c1 a2 c2 Z HR1.out HR2.out)
  rw [cfEq_self] at HS
  unfold cfVal at HS
  go_wp2_with (first
    | ((with_reducible show wpList _ _ _ (Oper.mk _ (.load _ (.tmp 3)) _ _ _ _ :: _) _ _); refine wl_execG (by kernel_rfl) (exec_load_at 28 _ rfl _ _ rfl _ (run_load_arr HA1.out Tryd.underlying28 rfl infoCf)) ?_)
    | ((with_reducible show wpList _ _ _ (Oper.mk _ (.load _ (.tmp 6)) _ _ _ _ :: _) _ _); refine wl_execG (by kernel_rfl) (exec_load_at 28 _ rfl _ _ rfl _ (run_load_arr HA2.out Tryd.underlying28 rfl infoCf)) ?_)
    | (go_at_call 10; refine HS.out.mono ?_; rintro e w3 ⟨rfl, hd⟩; have HD3 := Lib.hid hd; clear hd))
  go_ret
  exact ⟨rfl, HZ.out.trans (HD3.out.mono HZ.out.size)⟩
end Go.Proofs.YtmcpmcicolpoeaaDoor
