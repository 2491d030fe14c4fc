/- The law portreevelaw08.XmssSigns holds: for every input that can be read its call returns true, and every argument reads as it did. Condition: the listed package variables of the library hold what their text lays (the card ties them). -/
import Derived.Test.YtfeiplaiekbdkaaGreatDoorCards
import Derived.Test.YtfeiplaiekbdkaaGreatDoorTie
import Derived.Test.YtfeiplaiekbdkaaGreatDoorLaw
import Derived.Test.YtfeiplaiekbdkaaGreatDoorOpen3
import Derived.Test.YtfeiplaiekbdkaaGreatDoorOpenN
import Derived.Test.YtfeiplaiekbdkaaGreatDoorXopen
import Derived.Test.YtfeiplaiekbdkaaGreatDoorXlawW
import Derived.LaidMore
import Derived.Stop.Joined
namespace Go.Proofs.YtfeiplaiekbdkaaGreatDoor.cXmssSigns
open Go.ChangeShapes Go.WideShapes Go.ChangeAt Go.RowKit Go.WideElems
open Go.ChangeMaps (open_string)

set_option maxRecDepth 100000 in
theorem own : ownKnob Tryz.prog.godebug = none := by kernel_rfl
set_option maxRecDepth 100000 in
theorem laidOut : laidOutB Tryz.prog = true := by kernel_rfl
set_option maxRecDepth 100000 in
theorem table {W : World} (h : laidMetH Tryz.prog Rows.xmssSignsRow.laid W) : Tabs W := by
  have e : laidMet Tryz.prog Rows.xmssSignsRow.laid W := h
  have e0 : (Rows.laid_portreeve_sha_table : DataW Unit) = Lib.tabData .u32 (Kl.map num) := by kernel_rfl
  have e1 : (Rows.laid_portreeve_sha_first : DataW Unit) = Lib.tabData .u32 (Hl.map num) := by kernel_rfl
  refine tabs_laid e ?_ ?_
  · rw [← e0]; simp only [Rows.xmssSignsRow]; exact List.mem_cons_of_mem _ (List.mem_cons_self ..)
  · rw [← e1]; simp only [Rows.xmssSignsRow]; exact List.mem_cons_self ..

set_option maxRecDepth 100000 in
theorem contract (H : Type) (enc : TypeId × Value → H) (W : World) (base : Nat) (args : Array Value) (ds gs : List (DataW H)) (before : List MemPlace)
    (hval : ∀ (j : Nat) t v, Tryz.f4.params[j]? = some t → args[j]? = some v → Value.okWide Tryz.prog W .any base t v)
    (hW : DataW.Whole enc Tryz.prog Tryz.f4.params.toList Rows.xmssSignsSpec.vars false W args.toList ds gs before) (hL : laidMetH Tryz.prog Rows.xmssSignsRow.laid W) :
    Calls Tryz.prog 4 args W fun e W' => ∃ v, e = .returned v ∧ Rows.xmssSignsSpec.post enc Tryz.prog Tryz.f4 false true false false W args v W' := by
  have hW' := hW
  obtain ⟨p, q, hA0, hV, rfl, hfz, hnd⟩ := hW
  have hA : DataW.TrodAll enc Tryz.prog W 0 (fun _ => true) true Tryz.f4.params.toList args.toList ds p := hA0
  rw [Tryz.params4] at hA hval
  obtain ⟨v0, vs0, d0, ds0, p0, q0, hargs, rfl, rfl, h0, r0⟩ := trodAll_cons hA
  obtain ⟨v1, vs1, d1, ds1, p1, q1, rfl, rfl, rfl, h1, r1⟩ := trodAll_cons r0
  obtain ⟨v2, vs2, d2, ds2, p2, q2, rfl, rfl, rfl, h2, r2⟩ := trodAll_cons r1
  obtain ⟨v3, vs3, d3, ds3, p3, q3, rfl, rfl, rfl, h3, r3⟩ := trodAll_cons r2
  obtain ⟨v4, vs4, d4, ds4, p4, q4, rfl, rfl, rfl, h4, r4⟩ := trodAll_cons r3
  obtain ⟨v5, vs5, d5, ds5, p5, q5, rfl, rfl, rfl, h5, r5⟩ := trodAll_cons r4
  obtain ⟨v6, vs6, d6, ds6, p6, q6, rfl, rfl, rfl, h6, r6⟩ := trodAll_cons r5
  obtain ⟨rfl, rfl, rfl⟩ := trodAll_nil r6
  obtain rfl : args = #[v0, v1, v2, v3, v4, v5, v6] := by cases args; simp_all
  obtain ⟨x0, rfl, rfl, rfl, wf0⟩ := open_int Tryz.underlying28 (hval 0 28 v0 rfl rfl) h0
  have bd0 := bounds_u32 wf0
  obtain ⟨n0, rfl⟩ := Int.eq_ofNat_of_zero_le bd0.1
  obtain ⟨f1, rfl⟩ := open_node (hval 1 30 v1 rfl rfl) h1
  obtain ⟨f2, rfl⟩ := open_node (hval 2 30 v2 rfl rfl) h2
  obtain ⟨x3, rfl, rfl, rfl, wf3⟩ := open_int Tryz.underlying28 (hval 3 28 v3 rfl rfl) h3
  have bd3 := bounds_u32 wf3
  obtain ⟨n3, rfl⟩ := Int.eq_ofNat_of_zero_le bd3.1
  obtain ⟨A4, c4, l4, rfl, hl4, hr4⟩ := open_nodes (hval 4 31 v4 rfl rfl) h4
  obtain ⟨f5, rfl⟩ := open_node (hval 5 30 v5 rfl rfl) h5
  obtain ⟨A6, c6, l6, rfl, -, hc6, hr6⟩ := open_bytes_cap Tryz.underlying22 Tryz.underlying5 (by kernel_rfl) (hval 6 22 v6 rfl rfl) h6
  refine (xmssSigns_walk n0 f1 f2 n3 A4 c4 l4 f5 A6 c6 l6 W (by first | omega | omega) (by first | omega | omega) hl4 hr4 hc6 hr6 (table hL)).mono fun e W' ⟨he, hb⟩ => ⟨_, he, ?_⟩
  refine law_post (tb := 4) laidOut (fun t ht => ?_) rfl (by kernel_rfl) Tryz.underlying4 (fun _ => ⟨rfl, rfl, rfl⟩) hW' hb
  rw [Tryz.params4] at ht
  simp only [List.mem_cons, List.not_mem_nil, or_false] at ht
  rcases ht with rfl | rfl | rfl | rfl | rfl | rfl | rfl
  · exact ⟨by kernel_rfl, by decide +kernel⟩
  · exact ⟨by kernel_rfl, by decide +kernel⟩
  · exact ⟨by kernel_rfl, by decide +kernel⟩
  · exact ⟨by kernel_rfl, by decide +kernel⟩
  · exact ⟨by kernel_rfl, by decide +kernel⟩
  · exact ⟨by kernel_rfl, by decide +kernel⟩
  · exact ⟨by kernel_rfl, by decide +kernel⟩

set_option maxRecDepth 100000 in
theorem laid_met (os : Os) : laidMet Tryz.prog Rows.xmssSignsRow.laid ((World.doorLaid Tryz.prog 400 os).forCall (fun _ _ => 0) ⟨#[], #[.int .u32 0, .agg (vec 32 (bys zb)), .agg (vec 32 (bys zb)), .int .u32 0, .slice none 0 0, .agg (vec 32 (bys zb)), .slice none 0 0], []⟩).memory :=
  laidMet_of_run' 8 (by kernel_rfl) (by kernel_rfl)
set_option maxRecDepth 100000 in
theorem reads (os : Os) {H : Type} (enc : TypeId × Value → H) : ∃ places, DataW.whole enc Tryz.prog ((World.doorLaid Tryz.prog 400 os).forCall (fun _ _ => 0) ⟨#[], #[.int .u32 0, .agg (vec 32 (bys zb)), .agg (vec 32 (bys zb)), .int .u32 0, .slice none 0 0, .agg (vec 32 (bys zb)), .slice none 0 0], []⟩).memory Tryz.f4.params.toList Rows.xmssSignsSpec.vars false #[Value.int .u32 0, Value.agg (vec 32 (bys zb)), Value.agg (vec 32 (bys zb)), Value.int .u32 0, Value.slice none 0 0, Value.agg (vec 32 (bys zb)), Value.slice none 0 0].toList 8 = some ([.lit (.int .u32 0), .agg (List.replicate 32 (.lit (.int .u8 0))), .agg (List.replicate 32 (.lit (.int .u8 0))), .lit (.int .u32 0), .nil, .agg (List.replicate 32 (.lit (.int .u8 0))), .nil], [], places) :=
  ⟨[], by kernel_rfl⟩

set_option maxRecDepth 100000 in
theorem lifted (os : Os) (started : os.Started) (H : Type) (enc : TypeId × Value → H) (F : Stop.Interp) :
    ReturnsInHanded {} Tryz.checked os 4 .any ((OpenSpec.ofChange Rows.xmssSignsSpec).preRow enc Tryz.prog Tryz.f4 Rows.xmssSignsRow.domain false Rows.xmssSignsRow.laid) (((OpenSpec.ofChange Rows.xmssSignsSpec).at F).post enc Tryz.prog Tryz.f4 false true false false) := by
  obtain ⟨places, hx⟩ := reads os enc
  refine returnsInHanded_of_row (C := Tryz.checked) (s := OpenSpec.ofChange Rows.xmssSignsSpec) own started (by kernel_rfl) Tryz.func4
    (witness_row_at (enc := enc) (C := Tryz.checked) false (World.doorLaid Tryz.prog 400 os) #[.int .u32 0, .agg (vec 32 (bys zb)), .agg (vec 32 (bys zb)), .int .u32 0, .slice none 0 0, .agg (vec 32 (bys zb)), .slice none 0 0] rfl (by kernel_rfl) (by kernel_rfl) (by kernel_rfl)
      (OpenSpec.preRow_of_cond 8 hx (by kernel_rfl) (fun k hk => by cases hk) (by kernel_rfl) (laid_met os))) ?_
  intro W base args ds gs before hval hW _ _ _ hL _ _
  exact contract H enc W base args ds gs before hval hW hL

set_option maxRecDepth 100000 in
theorem said : Rows.XmssSignsSaid :=
  OpenClaim.holds_of_cond 4 Tryz.f4 rfl rfl rfl rfl rfl rfl rfl ⟨rfl, rfl, rfl, rfl, rfl⟩ rfl rfl rfl rfl rfl (by kernel_rfl) Tryz.func4 (by kernel_rfl)
    (of_decide_eq_true (by kernel_rfl)) (by unfold Func.isWrapper; first | (rw [if_pos (by decide +kernel)]; kernel_rfl) | (rw [if_neg (by decide +kernel)]; exact ⟨rfl, rfl⟩))
    (fun os started H enc _ F => by rw [OpenClaim.pre_eq_preRow]; exact lifted os started H enc F)

set_option maxRecDepth 100000 in
theorem plain (f : FuncId) (fn : Func) (hf : Tryz.pinned.checked.prog.funcNamed "portreeve/portreevelaw08.XmssSigns" = some f) (hfn : Tryz.pinned.checked.prog.funcs[f]? = some fn) :
    false = Tryz.pinned.checked.prog.looks [] ∧ ∀ (j : Nat) t, fn.params[j]? = some t → Tryz.pinned.checked.prog.wantsStandIn t = false := by
  obtain rfl : f = 4 := Option.some.inj ((show Tryz.prog.funcNamed "portreeve/portreevelaw08.XmssSigns" = some 4 by kernel_rfl).symm.trans hf) |>.symm
  obtain rfl : fn = Tryz.f4 := (Option.some.inj (Tryz.func4.symm.trans hfn)).symm
  refine ⟨by kernel_rfl, fun j t ht => ?_⟩
  rw [Tryz.params4] at ht
  have hm := Array.mem_of_getElem? ht
  simp only [List.mem_toArray, List.mem_cons, List.not_mem_nil, or_false] at hm
  rcases hm with rfl | rfl | rfl | rfl | rfl | rfl | rfl
  · exact (show Tryz.prog.wantsStandIn 28 = false by kernel_rfl)
  · exact (show Tryz.prog.wantsStandIn 30 = false by kernel_rfl)
  · exact (show Tryz.prog.wantsStandIn 30 = false by kernel_rfl)
  · exact (show Tryz.prog.wantsStandIn 28 = false by kernel_rfl)
  · exact (show Tryz.prog.wantsStandIn 31 = false by kernel_rfl)
  · exact (show Tryz.prog.wantsStandIn 30 = false by kernel_rfl)
  · exact (show Tryz.prog.wantsStandIn 22 = false by kernel_rfl)

set_option maxRecDepth 100000 in
/-- The card. -/
theorem card : Rows.XmssSignsCardSaid :=
  Claim7.holds_tied_plain_at .later [] _ _ _ _ said (fun _ h => by cases h) (by kernel_rfl) (fun _ h => by cases h) xmssSigns_row_tie rfl ⟨rfl, rfl⟩ (by kernel_rfl) rfl plain (by kernel_rfl)
end Go.Proofs.YtfeiplaiekbdkaaGreatDoor.cXmssSigns
