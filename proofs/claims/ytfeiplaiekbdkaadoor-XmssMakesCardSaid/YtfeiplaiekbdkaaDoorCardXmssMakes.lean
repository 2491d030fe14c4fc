/- The law portreevelaw08.XmssMakes holds: for every input that can be read its call returns true, and every argument reads as it did. Condition: the listed package variables of the library hold what their text lays (the card ties them). -/
import Derived.Test.YtfeiplaiekbdkaaDoorCards
import Derived.Test.YtfeiplaiekbdkaaDoorTie
import Derived.Test.YtfeiplaiekbdkaaDoorLaw
import Derived.Test.YtfeiplaiekbdkaaDoorOpen3
import Derived.Test.YtfeiplaiekbdkaaDoorOpenN
import Derived.Test.YtfeiplaiekbdkaaDoorXopen
import Derived.Test.YtfeiplaiekbdkaaDoorXlawM
import Derived.LaidMore
import Derived.Stop.Joined
namespace Go.Proofs.YtfeiplaiekbdkaaDoor.cXmssMakes
open Go.ChangeShapes Go.WideShapes Go.ChangeAt Go.RowKit Go.WideElems
open Go.ChangeMaps (open_string)

set_option maxRecDepth 100000 in
theorem own : ownKnob Tryd.prog.godebug = none := by kernel_rfl
set_option maxRecDepth 100000 in
theorem laidOut : laidOutB Tryd.prog = true := by kernel_rfl
set_option maxRecDepth 100000 in
theorem table {W : World} (h : laidMetH Tryd.prog Rows.xmssMakesRow.laid W) : Tabs W := by
  have e : laidMet Tryd.prog Rows.xmssMakesRow.laid W := h
  have e0 : (Rows.laid_portreeve_sha_table : DataW Unit) = Lib.tabData .u32 (Kl.map num) := by kernel_rfl
  have e1 : (Rows.laid_portreeve_sha_first : DataW Unit) = Lib.tabData .u32 (Hl.map num) := by kernel_rfl
  refine tabs_laid e ?_ ?_
  · rw [← e0]; simp only [Rows.xmssMakesRow]; exact List.mem_cons_of_mem _ (List.mem_cons_self ..)
  · rw [← e1]; simp only [Rows.xmssMakesRow]; exact List.mem_cons_self ..

set_option maxRecDepth 100000 in
theorem contract (H : Type) (enc : TypeId × Value → H) (W : World) (base : Nat) (args : Array Value) (ds gs : List (DataW H)) (before : List MemPlace)
    (hval : ∀ (j : Nat) t v, Tryd.f3.params[j]? = some t → args[j]? = some v → Value.okWide Tryd.prog W .any base t v)
    (hW : DataW.Whole enc Tryd.prog Tryd.f3.params.toList Rows.xmssMakesSpec.vars false W args.toList ds gs before) (hL : laidMetH Tryd.prog Rows.xmssMakesRow.laid W) :
    Calls Tryd.prog 3 args W fun e W' => ∃ v, e = .returned v ∧ Rows.xmssMakesSpec.post enc Tryd.prog Tryd.f3 false true false false W args v W' := by
  have hW' := hW
  obtain ⟨p, q, hA0, hV, rfl, hfz, hnd⟩ := hW
  have hA : DataW.TrodAll enc Tryd.prog W 0 (fun _ => true) true Tryd.f3.params.toList args.toList ds p := hA0
  rw [Tryd.params3] at hA hval
  obtain ⟨v0, vs0, d0, ds0, p0, q0, hargs, rfl, rfl, h0, r0⟩ := trodAll_cons hA
  obtain ⟨v1, vs1, d1, ds1, p1, q1, rfl, rfl, rfl, h1, r1⟩ := trodAll_cons r0
  obtain ⟨v2, vs2, d2, ds2, p2, q2, rfl, rfl, rfl, h2, r2⟩ := trodAll_cons r1
  obtain ⟨v3, vs3, d3, ds3, p3, q3, rfl, rfl, rfl, h3, r3⟩ := trodAll_cons r2
  obtain ⟨v4, vs4, d4, ds4, p4, q4, rfl, rfl, rfl, h4, r4⟩ := trodAll_cons r3
  obtain ⟨v5, vs5, d5, ds5, p5, q5, rfl, rfl, rfl, h5, r5⟩ := trodAll_cons r4
  obtain ⟨rfl, rfl, rfl⟩ := trodAll_nil r5
  obtain rfl : args = #[v0, v1, v2, v3, v4, v5] := by cases args; simp_all
  obtain ⟨oid0, ro0, se0, rfl, hk0⟩ := open_key (hval 0 26 v0 rfl rfl) h0
  obtain ⟨f1, rfl⟩ := open_node (hval 1 24 v1 rfl rfl) h1
  obtain ⟨x2, rfl, rfl, rfl, wf2⟩ := open_int Tryd.underlying22 (hval 2 22 v2 rfl rfl) h2
  have bd2 := bounds_u32 wf2
  obtain ⟨n2, rfl⟩ := Int.eq_ofNat_of_zero_le bd2.1
  obtain ⟨A3, c3, l3, rfl, hl3, hr3⟩ := open_nodes (hval 3 27 v3 rfl rfl) h3
  obtain ⟨f4, rfl⟩ := open_node (hval 4 24 v4 rfl rfl) h4
  obtain ⟨A5, c5, l5, rfl, -, hc5, hr5⟩ := open_bytes_cap Tryd.underlying28 Tryd.underlying5 (by kernel_rfl) (hval 5 28 v5 rfl rfl) h5
  refine (xmssMakes_walk oid0 ro0 se0 f1 n2 A3 c3 l3 f4 A5 c5 l5 W hk0 (by first | omega | omega) hl3 hr3 hc5 hr5 (table hL)).mono fun e W' ⟨he, hb⟩ => ⟨_, he, ?_⟩
  refine law_post (tb := 4) laidOut (fun t ht => ?_) rfl (by kernel_rfl) Tryd.underlying4 (fun _ => ⟨rfl, rfl, rfl⟩) hW' hb
  rw [Tryd.params3] at ht
  simp only [List.mem_cons, List.not_mem_nil, or_false] at ht
  rcases ht with rfl | rfl | rfl | rfl | rfl | rfl
  · exact ⟨by kernel_rfl, by decide +kernel⟩
  · exact ⟨by kernel_rfl, by decide +kernel⟩
  · exact ⟨by kernel_rfl, by decide +kernel⟩
  · exact ⟨by kernel_rfl, by decide +kernel⟩
  · exact ⟨by kernel_rfl, by decide +kernel⟩
  · exact ⟨by kernel_rfl, by decide +kernel⟩

set_option maxRecDepth 100000 in
theorem laid_met (os : Os) : laidMet Tryd.prog Rows.xmssMakesRow.laid ((World.doorLaid Tryd.prog 400 os).forCall (fun _ _ => 0) ⟨#[], #[.agg (vec 65 (keyF 0 zb zb)), .agg (vec 32 (bys zb)), .int .u32 0, .slice none 0 0, .agg (vec 32 (bys zb)), .slice none 0 0], []⟩).memory :=
  laidMet_of_run' 8 (by kernel_rfl) (by kernel_rfl)
set_option maxRecDepth 100000 in
theorem reads (os : Os) {H : Type} (enc : TypeId × Value → H) : ∃ places, DataW.whole enc Tryd.prog ((World.doorLaid Tryd.prog 400 os).forCall (fun _ _ => 0) ⟨#[], #[.agg (vec 65 (keyF 0 zb zb)), .agg (vec 32 (bys zb)), .int .u32 0, .slice none 0 0, .agg (vec 32 (bys zb)), .slice none 0 0], []⟩).memory Tryd.f3.params.toList Rows.xmssMakesSpec.vars false #[Value.agg (vec 65 (keyF 0 zb zb)), Value.agg (vec 32 (bys zb)), Value.int .u32 0, Value.slice none 0 0, Value.agg (vec 32 (bys zb)), Value.slice none 0 0].toList 8 = some ([.agg [.lit (.int .u32 0), .agg (List.replicate 32 (.lit (.int .u8 0))), .agg (List.replicate 32 (.lit (.int .u8 0)))], .agg (List.replicate 32 (.lit (.int .u8 0))), .lit (.int .u32 0), .nil, .agg (List.replicate 32 (.lit (.int .u8 0))), .nil], [], places) :=
  ⟨[], by kernel_rfl⟩

set_option maxRecDepth 100000 in
theorem lifted (os : Os) (started : os.Started) (H : Type) (enc : TypeId × Value → H) (F : Stop.Interp) :
    ReturnsInHanded {} Tryd.checked os 3 .any ((OpenSpec.ofChange Rows.xmssMakesSpec).preRow enc Tryd.prog Tryd.f3 Rows.xmssMakesRow.domain false Rows.xmssMakesRow.laid) (((OpenSpec.ofChange Rows.xmssMakesSpec).at F).post enc Tryd.prog Tryd.f3 false true false false) := by
  obtain ⟨places, hx⟩ := reads os enc
  refine returnsInHanded_of_row (C := Tryd.checked) (s := OpenSpec.ofChange Rows.xmssMakesSpec) own started (by kernel_rfl) Tryd.func3
    (witness_row_at (enc := enc) (C := Tryd.checked) false (World.doorLaid Tryd.prog 400 os) #[.agg (vec 65 (keyF 0 zb zb)), .agg (vec 32 (bys zb)), .int .u32 0, .slice none 0 0, .agg (vec 32 (bys zb)), .slice none 0 0] rfl (by kernel_rfl) (by kernel_rfl) (by kernel_rfl)
      (OpenSpec.preRow_of_cond 8 hx (by kernel_rfl) (fun k hk => by cases hk) (by kernel_rfl) (laid_met os))) ?_
  intro W base args ds gs before hval hW _ _ _ hL _ _
  exact contract H enc W base args ds gs before hval hW hL

set_option maxRecDepth 100000 in
theorem said : Rows.XmssMakesSaid :=
  OpenClaim.holds_of_cond 3 Tryd.f3 rfl rfl rfl rfl rfl rfl rfl ⟨rfl, rfl, rfl, rfl, rfl⟩ rfl rfl rfl rfl rfl (by kernel_rfl) Tryd.func3 (by kernel_rfl)
    (of_decide_eq_true (by kernel_rfl)) (by unfold Func.isWrapper; first | (rw [if_pos (by decide +kernel)]; kernel_rfl) | (rw [if_neg (by decide +kernel)]; exact ⟨rfl, rfl⟩))
    (fun os started H enc _ F => by rw [OpenClaim.pre_eq_preRow]; exact lifted os started H enc F)

set_option maxRecDepth 100000 in
theorem plain (f : FuncId) (fn : Func) (hf : Tryd.pinned.checked.prog.funcNamed "portreeve/portreevelaw08.XmssMakes" = some f) (hfn : Tryd.pinned.checked.prog.funcs[f]? = some fn) :
    false = Tryd.pinned.checked.prog.looks [] ∧ ∀ (j : Nat) t, fn.params[j]? = some t → Tryd.pinned.checked.prog.wantsStandIn t = false := by
  obtain rfl : f = 3 := Option.some.inj ((show Tryd.prog.funcNamed "portreeve/portreevelaw08.XmssMakes" = some 3 by kernel_rfl).symm.trans hf) |>.symm
  obtain rfl : fn = Tryd.f3 := (Option.some.inj (Tryd.func3.symm.trans hfn)).symm
  refine ⟨by kernel_rfl, fun j t ht => ?_⟩
  rw [Tryd.params3] at ht
  have hm := Array.mem_of_getElem? ht
  simp only [List.mem_toArray, List.mem_cons, List.not_mem_nil, or_false] at hm
  rcases hm with rfl | rfl | rfl | rfl | rfl | rfl
  · exact (show Tryd.prog.wantsStandIn 26 = false by kernel_rfl)
  · exact (show Tryd.prog.wantsStandIn 24 = false by kernel_rfl)
  · exact (show Tryd.prog.wantsStandIn 22 = false by kernel_rfl)
  · exact (show Tryd.prog.wantsStandIn 27 = false by kernel_rfl)
  · exact (show Tryd.prog.wantsStandIn 24 = false by kernel_rfl)
  · exact (show Tryd.prog.wantsStandIn 28 = false by kernel_rfl)

set_option maxRecDepth 100000 in
/-- The card. -/
theorem card : Rows.XmssMakesCardSaid :=
  Claim7.holds_tied_plain_at .later [] _ _ _ _ said (fun _ h => by cases h) (by kernel_rfl) (fun _ h => by cases h) xmssMakes_row_tie rfl ⟨rfl, rfl⟩ (by kernel_rfl) rfl plain (by kernel_rfl)
end Go.Proofs.YtfeiplaiekbdkaaDoor.cXmssMakes
