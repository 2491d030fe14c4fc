/- Merged: In, Tail, One, TwoA, TwoC. -/
import Derived.RangeFuncNested
import Derived.RangeFuncBound
import Derived.RangeFuncCalls
import Derived.RangeFuncLeaves
import Derived.TacticsInMore
import Derived.OrdersIn
import Derived.StillTailTactics
import Derived.Deep.RegionWith
import Derived.Test.YtbemphfijkcbhaaWa
import Derived.Test.YtbemphfijkcbhaaProg
/- A region that draws, within a round of a range over a function: walked by the words of Held. -/
namespace Go.Proofs.Ytbemphfijkcbhaa
open Go.RowKit
section
variable {P : Program} {ops : Array Oper} {Q : Exit → Act → World → Prop} {md : Region.Mode} {S : World → Prop} {l n : Nat}

theorem oper_round {o : Oper} {a : Act} {w : World} {K : Act → World → Prop} (hd : ∀ c, o.op ≠ .defer c) (h : o.wp P a w K Q) : o.wpIn (Fence.wide.inRound l) n P a w K Q := by
  refine ⟨fun _ _ => trivial, ?_⟩
  show o.uponIn (Fence.wide.inRound l) n P a K Q ((Oper.semAt (some l) a.eval o).run P w)
  rw [Oper.semAt_some l _ _ hd]
  unfold Oper.wp at h
  generalize (execOp a.eval o).run P w = r at h ⊢
  cases r with
  | ok x w' =>
    cases x with
    | enter f args => exact ⟨fun h => by simp [Fence.wide] at h, callsIn_wide.2 h⟩
    | row rw args => exact ⟨fun h => by simp [Fence.wide] at h, fun c cs _ => let ⟨v, w', r, s⟩ := h c cs; ⟨v, w', r, stepsIn_wide.2 s⟩⟩
    | round l' f tmps assign body => exact h.elim
    | _ => exact h
  | halt x w' => cases x <;> exact h
/-- No operation defers. -/
def noDefer (ops : Array Oper) : Bool := ops.all fun o => match o.op with | .defer _ => false | _ => true
theorem noDefer_at {i : Nat} {o : Oper} (h : noDefer ops = true) (hi : ops[i]? = some o) : ∀ c, o.op ≠ .defer c := fun c e => by
  obtain ⟨hlt, hx⟩ := Array.getElem?_eq_some_iff.1 hi
  have := (Array.all_eq_true.1 h) i hlt
  rw [hx, e] at this
  cases this
theorem any_round (hd : noDefer ops = true) (hq : ¬ LetsOut Q) : ∀ (fuel : Nat) (listed : Array Bool) (a : Act) (w : World), wpAny P md ops Q fuel listed a w → wpAnyIn (Fence.wide.inRound l) n P md ops Q fuel listed a w
  | 0, _, _, _, h => h
  | fuel + 1, listed, a, w, h => ⟨h.1, fun i hi => by
      have h2 := h.2 i hi
      unfold wpOp at h2
      unfold wpOpIn
      cases ho : ops[i]? with
      | none => rw [ho] at h2; exact any_round hd hq fuel _ a w h2
      | some o =>
        rw [ho] at h2
        simp only at h2 ⊢
        by_cases hw : Region.wanted o (yielded ops a.tmps) = true
        · rw [if_pos hw] at h2 ⊢
          exact Oper.wpIn_mono (fun a w h => any_round hd hq fuel _ a w h) (oper_round (noDefer_at hd ho) (h2.resolve_right fun hh => hq hh.2))
        · rw [if_neg hw] at h2 ⊢
          exact ⟨fun _ _ => trivial, any_round hd hq fuel _ _ w h2⟩⟩
theorem wpIn_region_held_drew {id : Nat} {a : Act} {w : World} (hm : P.follows .mixedOrders = true) (hd : noDefer ops = true) (hq : ¬ LetsOut Q) (hS : S w.drew)
    (h : S w.drew → wpAnyH P .any ops Q S ops.size (Array.replicate ops.size false) a w.drew) : (Code.region id ops true).wpIn (Fence.wide.inRound l) n P Q a w :=
  wpIn_region_any hm (any_round hd hq _ _ _ _ (wpAny_of_held _ _ _ _ (h hS)))
end
section
variable {F : Fence} {n : Nat} {P : Program} {w w' : World} {ops : Array Oper} {rest : List Oper} {o : Oper} {a : Act} {Q : Exit → Act → World → Prop}
theorem semAt_not (ro : Option Nat) {o : Oper} {ρ : Operand → Value} (h : ∀ c, o.op ≠ .defer c) : Oper.semAt ro ρ o = execOp ρ o := Oper.semAt_eq ro ρ o h
/-- A whole array is loaded, stored: in a fence. -/
theorem wli_load (hgd : o.guard = none) (ty : TypeId) (x : Operand) (ho : o.op = .load ty x) (g : Nat) (hx : a.eval x = .pointer (some ⟨g, 0, none⟩)) (v : Value)
    (hl : (loadVar ty ⟨g, 0, none⟩).run P w = .ok v w) (h : wpListIn F n P ops Q rest (a.put o.dst v) w) : wpListIn F n P ops Q (o :: rest) a w :=
  wpListIn_plain hgd fun K hK => by
    refine ⟨fun f hf => by simp [Oper.about, ho] at hf, ?_⟩
    rw [semAt_not _ (fun c e => by rw [ho] at e; cases e), exec_load ty x ho g hx v hl]
    exact hK _ _ h
theorem wli_store (hgd : o.guard = none) (ty : TypeId) (x y : Operand) (ho : o.op = .store ty x y) (g : Nat) (hx : a.eval x = .pointer (some ⟨g, 0, none⟩)) (v : Value) (hy : a.eval y = v)
    (hs : (storeVar ty ⟨g, 0, none⟩ v).run P w = .ok () w') (h : wpListIn F n P ops Q rest (a.put o.dst undef) w') : wpListIn F n P ops Q (o :: rest) a w :=
  wpListIn_plain hgd fun K hK => by
    refine ⟨fun f hf => by simp [Oper.about, ho] at hf, ?_⟩
    rw [semAt_not _ (fun c e => by rw [ho] at e; cases e)]
    unfold execOp
    simp only [ho, hx, hy, Instr.storeAt, Instr.sureAddr, Sem.run_bind, Sem.run_pure, Result.andThen_ok, hs]
    exact hK _ _ h
theorem grown_of_below (h : Below w.heap.size w w') : w.grownBy w' none := ⟨h.1, h.2, h.3, h.4, fun k hk _ => h.5 k hk⟩
end
end Go.Proofs.Ytbemphfijkcbhaa
/- A region that draws its order, all of whose operations but the last few only read: within a fence (one of the last may be a yield). -/
namespace Go.Proofs.Ytbemphfijkcbhaa
open Go.RowKit
section
variable {n : Nat} {P : Program} {ops : Array Oper} {Q : Exit → Act → World → Prop} {md : Region.Mode} {w : World}

/-- A reading operation yields v. -/
theorem still_value {o : Oper} {rest : List Oper} {a : Act} {K : Act → Prop} {v : Value} (hw : Region.wanted o (yielded ops a.tmps) = true) (hy : (execOp a.eval o).run P w = .ok (.value v) w)
    (h : wpStill P ops w K rest (a.put o.dst v)) : wpStill P ops w K (o :: rest) a := by
  unfold wpStill
  rw [if_pos hw]
  unfold Oper.still
  rw [hy]
  exact ⟨rfl, h⟩
theorem oper_plain {o : Oper} {a : Act} {K : Act → World → Prop} (h : o.wp P a w K Q) : o.wpIn Fence.wide n P a w K Q := by
  refine ⟨fun _ _ => trivial, ?_⟩
  show o.uponIn Fence.wide n P a K Q ((Oper.semAt none a.eval o).run P w)
  rw [Oper.semAt_none]
  unfold Oper.wp at h
  generalize (execOp a.eval o).run P w = r at h ⊢
  cases r with
  | ok x w' =>
    cases x with
    | enter f args => exact ⟨fun h => by simp [Fence.wide] at h, callsIn_wide.2 h⟩
    | row rw args => exact ⟨fun h => by simp [Fence.wide] at h, fun c cs _ => let ⟨v, w', r, s⟩ := h c cs; ⟨v, w', r, stepsIn_wide.2 s⟩⟩
    | round l' f tmps assign body => exact h.elim
    | _ => exact h
  | halt x w' => cases x <;> exact h
theorem any_plain (hq : ¬ LetsOut Q) : ∀ (fuel : Nat) (listed : Array Bool) (a : Act) (w : World), wpAny P md ops Q fuel listed a w → wpAnyIn Fence.wide n P md ops Q fuel listed a w
  | 0, _, _, _, h => h
  | fuel + 1, listed, a, w, h => ⟨h.1, fun i hi => by
      have h2 := h.2 i hi
      unfold wpOp at h2
      unfold wpOpIn
      cases ho : ops[i]? with
      | none => rw [ho] at h2; exact any_plain hq fuel _ a w h2
      | some o =>
        rw [ho] at h2
        simp only at h2 ⊢
        by_cases hw : Region.wanted o (yielded ops a.tmps) = true
        · rw [if_pos hw] at h2 ⊢
          exact Oper.wpIn_mono (fun a w h => any_plain hq fuel _ a w h) (oper_plain (h2.resolve_right fun hh => hq hh.2))
        · rw [if_neg hw] at h2 ⊢
          exact ⟨fun _ _ => trivial, any_plain hq fuel _ _ w h2⟩⟩
/-- A region that draws its order, outside a round, by the held words; the world behind the draw has a letter. -/
theorem wpIn_region_held_wide {S : World → Prop} {id : Nat} {a : Act} (hm : P.follows .mixedOrders = true) (hq : ¬ LetsOut Q) (hS : S w.drew)
    (h : ∀ Y, Y = w.drew → S Y → wpAnyH P .any ops Q S ops.size (Array.replicate ops.size false) a Y) : (Code.region id ops true).wpIn Fence.wide n P Q a w :=
  wpIn_region_any hm (any_plain hq _ _ _ _ (wpAny_of_held _ _ _ _ (h _ rfl hS)))
/-- A piece of code that only goes on. -/
theorem wpIn_then_false {F : Fence} {c : Code} {a : Act} {K : Act → World → Prop} (h : c.wpIn F n P (Exit.then K (fun _ _ _ => False)) a w) : c.wpIn F n P (Exit.then K Q) a w :=
  wpIn_mono h fun e a' w' he => by
    cases e with
    | normal => exact he
    | _ => exact (he : False).elim
/-- An operation of a list, by its own law. -/
theorem wli_of {o : Oper} {rest : List Oper} {a : Act} (hg : o.guard = none) (h : ∀ K : Act → World → Prop, (∀ a w, wpListIn Fence.wide n P ops Q rest a w → K a w) → o.wp P a w K Q) : wpListIn Fence.wide n P ops Q (o :: rest) a w :=
  wpListIn_plain hg fun K hK => oper_plain (h K hK)
theorem operIn_of_still {o : Oper} {a : Act} {K : Act → Prop} {K' : Act → World → Prop} (h : ∀ a, K a → K' a w) (hh : o.still P a w K) : o.wpIn Fence.wide n P a w K' Q := by
  refine ⟨fun _ _ => trivial, ?_⟩
  show o.uponIn Fence.wide n P a K' Q ((Oper.semAt none a.eval o).run P w)
  rw [Oper.semAt_none]
  unfold Oper.still at hh
  generalize (execOp a.eval o).run P w = r at hh ⊢
  cases r with
  | ok x w' =>
    cases x with
    | value v => obtain ⟨rfl, hn⟩ := hh; exact h _ hn
    | skip => obtain ⟨rfl, hn⟩ := hh; exact h _ hn
    | enter f args =>
      obtain ⟨rfl, v, hc, hn⟩ := hh
      exact ⟨fun h => by simp [Fence.wide] at h, callsIn_wide.2 (hc.mono fun e w'' ⟨he, hw⟩ => by subst he; subst hw; exact h _ hn)⟩
    | _ => exact hh.elim
  | halt x w' => exact hh.elim
theorem opIn_of_still {i : Nat} {a : Act} {K : Act → Prop} {K' : Act → World → Prop} (h : ∀ a, K a → K' a w) (hh : stOp P ops w i K a) : wpOpIn Fence.wide n P ops Q i K' a w := by
  unfold stOp at hh
  unfold wpOpIn
  cases ho : ops[i]? with
  | none => rw [ho] at hh; exact h _ hh
  | some o =>
    rw [ho] at hh
    simp only at hh ⊢
    by_cases hw : Region.wanted o (yielded ops a.tmps) = true
    · rw [if_pos hw] at hh ⊢; exact operIn_of_still h hh
    · rw [if_neg hw] at hh ⊢; exact ⟨fun _ _ => trivial, h _ hh⟩
theorem anyIn_of_head {m g : Nat} {L : Array Bool → Act → Prop} (hL : ∀ listed a, L listed a → wpAnyIn Fence.wide n P md ops Q g listed a w) :
    ∀ (f : Nat) (listed : Array Bool) (a : Act), wpAnyL P md ops w m L f listed a → wpAnyIn Fence.wide n P md ops Q (f + g) listed a w
  | 0, listed, a, h => by rw [Nat.zero_add]; exact hL _ _ h
  | f + 1, listed, a, h => by
    rw [Nat.add_right_comm]
    exact ⟨fun h0 => absurd h0 h.1, fun i hi => opIn_of_still (fun a' h' => anyIn_of_head hL f _ a' h') (h.2 i hi).2⟩
theorem anyIn_of_seq : ∀ (l : List Oper) (k : Nat) (listed : Array Bool) (a : Act) (w : World), (∀ j, l[j]? = ops[k + j]?) →
    Region.seqB md ops l.length k listed = true → wpListIn Fence.wide n P ops Q l a w → wpAnyIn Fence.wide n P md ops Q l.length listed a w
  | [], _, _, _, _, _, hB, h => ⟨by simpa [Region.seqB] using hB, h⟩
  | o :: l, k, listed, a, w, hl, hB, h => by
    have h0 : ops[k]? = some o := by simpa using (hl 0).symm
    simp only [List.length_cons, Region.seqB, Bool.and_eq_true, decide_eq_true_eq] at hB
    refine ⟨fun h1 => (by rw [hB.1] at h1; cases h1), fun i hi => ?_⟩
    obtain rfl : i = k := by rw [hB.1] at hi; simpa using hi
    have hw : wpOpIn Fence.wide n P ops Q i (wpListIn Fence.wide n P ops Q l) a w := by unfold wpOpIn; simp only [h0]; exact h
    exact wpOpIn_mono (fun a' w' h' => anyIn_of_seq l (i + 1) _ a' w' (fun j => by have := hl (j + 1); simpa [Nat.add_assoc, Nat.add_comm 1 j] using this) hB.2 h') hw
/-- The first m operations only read, the others come in their order. -/
theorem wpIn_region_tail {id : Nat} {a : Act} {l : List Oper} (m : Nat) (hm : P.follows .mixedOrders = true) (hB : Region.lexTailB .any l.toArray m = true)
    (h : wpStill P l.toArray w.drew (fun a' => wpListIn Fence.wide n P l.toArray Q (l.drop m) a' w.drew) (l.take m) a) : (Code.region id l.toArray true).wpIn Fence.wide n P Q a w := by
  simp only [Region.lexTailB, Bool.and_eq_true, decide_eq_true_eq] at hB
  obtain ⟨⟨⟨⟨hsel, hlt⟩, hs⟩, hc⟩, hlex⟩ := hB
  have hlt' : m < l.length := by simpa using hlt
  have ht : (l.take m).length = m := by simp; omega
  have hd : (l.drop m).length = l.toArray.size - m := by simp
  have h0 : HeadInv .any l.toArray m (Array.replicate l.toArray.size false) :=
    ⟨by simp, fun j oj _ hl => (by rw [getD_replicate_false] at hl; cases hl), fun t _ ht => getD_in (by simpa using ht) (getD_replicate_false _ _)⟩
  have H := wpAnyL_lex (md := .any) (g := l.toArray.size - m) hsel hs hc hlt (l.take m) 0 _ a (fun j hj => by
    have hj' : j < m := by rw [ht] at hj; exact hj
    simp [hj']) (by simpa using ht) h0 (by rw [ht]; exact hlex) h
  have T := anyIn_of_head (n := n) (Q := Q) (g := l.toArray.size - m) (fun listed a' hL => by
    have := anyIn_of_seq (n := n) (md := .any) (Q := Q) (l.drop m) m listed a' w.drew (fun j => by simp [List.getElem?_drop]) (by rw [hd]; exact hL.1) hL.2
    rwa [hd] at this) _ _ _ H
  rw [ht, show m + (l.toArray.size - m) = l.toArray.size by omega] at T
  exact wpIn_region_any hm T
end
end Go.Proofs.Ytbemphfijkcbhaa
/- The calls on one span or two: the program's and the reference's. -/
namespace Go.Proofs.Ytbemphfijkcbhaa
open Go.RowKit

abbrev spv (x : Sp) : Value := .agg #[.int .u64 (x.1 : Int), .int .u64 (x.2 : Int)]
abbrev spo (a b : Nat) : Obj := .cells #[.int .u64 (a : Int), .int .u64 (b : Int)] 24
theorem wrap_sub1 {b : Nat} (h : 0 < b) (h2 : b < 18446744073709551616) : IntKind.u64.wrap ((b : Int) - 1) = (b : Int) - 1 := by simp [IntKind.wrap, IntKind.bits, IntKind.signed]; omega
theorem wrap_top {a : Nat} (h : a < 18446744073709551616) : IntKind.u64.wrap (18446744073709551615 - (a : Int)) = 18446744073709551615 - (a : Int) := by simp [IntKind.wrap, IntKind.bits, IntKind.signed]; omega

set_option maxHeartbeats 400000 in
theorem good_any (a b : Nat) (hx : fit (a, b)) (w : World) :
    Calls Try.prog 59 #[.agg #[.int .u64 (a : Int), .int .u64 (b : Int)]] w fun e w' => e = .returned (.bool (good (a, b))) ∧ w' = w.alloc (spo a b) := by
  have Hx := Lib.hid hx
  obtain ⟨h1, h2⟩ := hx
  simp only at h1 h2
  by_cases h : 0 < b
  · have h' : (0 : Int) < b := by omega
    have e1 := wrap_sub1 h h2
    have e2 := wrap_top h1
    by_cases h3 : (b : Int) - 1 ≤ 18446744073709551615 - a
    · have e3 : good (a, b) = true := (good_iff _).2 ⟨h, by simp only; omega⟩
      rw [e3]
      clear h h1 h2
      go_enter Try.func59, Try.ntmps59
      go_wp2
      go_ret
      exact ⟨rfl, rfl⟩
    · have e3 : good (a, b) = false := by rw [← Bool.not_eq_true, good_iff]; simp only; omega
      rw [e3]
      clear h h1 h2
      go_enter Try.func59, Try.ntmps59
      go_wp2
      go_ret
      exact ⟨rfl, rfl⟩
  · obtain rfl : b = 0 := by omega
    have e3 : good (a, 0) = false := by simp [good]
    rw [e3]
    go_enter Try.func59, Try.ntmps59
    go_wp2
    go_ret
    exact ⟨rfl, rfl⟩
set_option maxHeartbeats 400000 in
theorem last_any (a b : Nat) (hx : fit (a, b)) (w : World) :
    Calls Try.prog 58 #[.agg #[.int .u64 (a : Int), .int .u64 (b : Int)]] w fun e w' => e = .returned (.int .u64 (last (a, b) : Nat)) ∧ w' = (w.alloc (spo a b)).alloc (spo a b) := by
  have Hx := Lib.hid hx
  obtain ⟨h1, h2⟩ := hx
  simp only at h1 h2
  by_cases h : good (a, b) = true
  · have hg := (good_iff _).1 h
    have hl := last_good h
    simp only at hg hl
    have e1 := wrap_sub1 hg.1 h2
    have e2 : IntKind.u64.wrap ((a : Int) + ((b : Int) - 1)) = (last (a, b) : Nat) := by simp [IntKind.wrap, IntKind.bits, IntKind.signed]; omega
    clear h1 h2 hg hl
    go_enter Try.func58, Try.ntmps58
    go_wp2_with (go_at_call 59; refine (good_any a b Hx.out _).mono ?_; rintro e w1 ⟨rfl, rfl⟩)
    go_ret
    exact ⟨rfl, rfl⟩
  · have h' : good (a, b) = false := by simpa using h
    have e2 : last (a, b) = 0 := last_bad h'
    rw [e2]
    clear h h1 h2
    go_enter Try.func58, Try.ntmps58
    go_wp2_with (go_at_call 59; refine (good_any a b Hx.out _).mono ?_; rintro e w1 ⟨rfl, rfl⟩)
    go_ret
    exact ⟨rfl, rfl⟩
set_option maxHeartbeats 400000 in
theorem rgood_any (a b : Nat) (hx : fit (a, b)) (w : World) :
    Calls Try.prog 49 #[.agg #[.int .u64 (a : Int), .int .u64 (b : Int)]] w fun e w' => e = .returned (.bool (good (a, b))) ∧ w' = w.alloc (spo a b) := by
  obtain ⟨h1, h2⟩ := hx
  simp only at h1 h2
  by_cases h : 0 < b
  · have h' : (0 : Int) < b := by omega
    have e1 := wrap_sub1 h h2
    have e2 : IntKind.u64.wrap (18446744073709551615 - ((b : Int) - 1)) = 18446744073709551615 - ((b : Int) - 1) := by simp [IntKind.wrap, IntKind.bits, IntKind.signed]; omega
    by_cases h3 : (a : Int) ≤ 18446744073709551615 - ((b : Int) - 1)
    · have e3 : good (a, b) = true := (good_iff _).2 ⟨h, by simp only; omega⟩
      rw [e3]
      clear h h1 h2
      go_enter Try.func49, Try.ntmps49
      go_wp2
      go_ret
      exact ⟨rfl, rfl⟩
    · have e3 : good (a, b) = false := by rw [← Bool.not_eq_true, good_iff]; simp only; omega
      rw [e3]
      clear h h1 h2
      go_enter Try.func49, Try.ntmps49
      go_wp2
      go_ret
      exact ⟨rfl, rfl⟩
  · obtain rfl : b = 0 := by omega
    have e3 : good (a, 0) = false := by simp [good]
    rw [e3]
    go_enter Try.func49, Try.ntmps49
    go_wp2
    go_ret
    exact ⟨rfl, rfl⟩
set_option maxHeartbeats 400000 in
theorem rlast_any (a b : Nat) (hx : fit (a, b)) (w : World) :
    Calls Try.prog 38 #[.agg #[.int .u64 (a : Int), .int .u64 (b : Int)]] w fun e w' => e = .returned (.int .u64 (last (a, b) : Nat)) ∧ w' = (w.alloc (spo a b)).alloc (spo a b) := by
  have Hx := Lib.hid hx
  obtain ⟨h1, h2⟩ := hx
  simp only at h1 h2
  by_cases h : good (a, b) = true
  · have hg := (good_iff _).1 h
    have hl := last_good h
    simp only at hg hl
    have e1 := wrap_sub1 hg.1 h2
    have e2 : IntKind.u64.wrap ((a : Int) + ((b : Int) - 1)) = (last (a, b) : Nat) := by simp [IntKind.wrap, IntKind.bits, IntKind.signed]; omega
    clear h1 h2 hg hl
    go_enter Try.func38, Try.ntmps38
    go_wp2_with (go_at_call 49; refine (rgood_any a b Hx.out _).mono ?_; rintro e w1 ⟨rfl, rfl⟩)
    go_ret
    exact ⟨rfl, rfl⟩
  · have h' : good (a, b) = false := by simpa using h
    have e2 : last (a, b) = 0 := last_bad h'
    rw [e2]
    clear h h1 h2
    go_enter Try.func38, Try.ntmps38
    go_wp2_with (go_at_call 49; refine (rgood_any a b Hx.out _).mono ?_; rintro e w1 ⟨rfl, rfl⟩)
    go_ret
    exact ⟨rfl, rfl⟩

/-- The boxes that a call lays. -/
def Laid (w w' : World) : Prop := ∃ os : List Obj, w' = os.foldl World.alloc w
theorem Laid.below {w w' : World} (h : Laid w w') : Below w.heap.size w w' := by
  obtain ⟨os, rfl⟩ := h
  have : ∀ (os : List Obj) (a : World), Below w.heap.size w a → Below w.heap.size w (os.foldl World.alloc a) := by
    intro os
    induction os with
    | nil => intro a h; exact h
    | cons o os ih => intro a h; exact ih _ (h.alloc h.size o)
  exact this os w (Below.refl _ _)

set_option maxHeartbeats 400000 in
theorem has_any (a b p : Nat) (hx : fit (a, b)) (w : World) :
    Calls Try.prog 60 #[.agg #[.int .u64 (a : Int), .int .u64 (b : Int)], .int .u64 (p : Int)] w fun e w' => e = .returned (.bool (has (a, b) p)) ∧ Below w.heap.size w w' := by
  have Hx := Lib.hid hx
  by_cases h : good (a, b) = true
  · have hg := (good_iff _).1 h
    have hl := last_good h
    simp only at hg hl
    by_cases h1 : a ≤ p
    · by_cases h2 : p ≤ last (a, b)
      · have e : has (a, b) p = true := (has_iff _ _).2 ⟨h, by simp only; omega, by simp only; omega⟩
        rw [e]
        clear hg hl
        go_enter Try.func60, Try.ntmps60
        go_wp2_with (first
          | (go_at_call 59; refine (good_any a b Hx.out _).mono ?_; rintro e w1 ⟨rfl, rfl⟩)
          | (go_at_call 58; refine (last_any a b Hx.out _).mono ?_; rintro e w1 ⟨rfl, rfl⟩))
        go_ret
        exact ⟨rfl, Laid.below ⟨[_, _, _, _], rfl⟩⟩
      · have e : has (a, b) p = false := by rw [← Bool.not_eq_true, has_iff]; simp only; omega
        rw [e]
        clear hg hl
        go_enter Try.func60, Try.ntmps60
        go_wp2_with (first
          | (go_at_call 59; refine (good_any a b Hx.out _).mono ?_; rintro e w1 ⟨rfl, rfl⟩)
          | (go_at_call 58; refine (last_any a b Hx.out _).mono ?_; rintro e w1 ⟨rfl, rfl⟩))
        go_ret
        exact ⟨rfl, Laid.below ⟨[_, _, _, _], rfl⟩⟩
    · have e : has (a, b) p = false := by rw [← Bool.not_eq_true, has_iff]; simp only; omega
      rw [e]
      clear hg hl
      go_enter Try.func60, Try.ntmps60
      go_wp2_with (go_at_call 59; refine (good_any a b Hx.out _).mono ?_; rintro e w1 ⟨rfl, rfl⟩)
      go_ret
      exact ⟨rfl, Laid.below ⟨[_, _], rfl⟩⟩
  · have h' : good (a, b) = false := by simpa using h
    have e : has (a, b) p = false := by simp [has, h']
    rw [e]
    go_enter Try.func60, Try.ntmps60
    go_wp2_with (go_at_call 59; refine (good_any a b Hx.out _).mono ?_; rintro e w1 ⟨rfl, rfl⟩)
    go_ret
    exact ⟨rfl, Laid.below ⟨[_, _], rfl⟩⟩
set_option maxHeartbeats 400000 in
theorem rhas_any (a b p : Nat) (hx : fit (a, b)) (hp : p < 18446744073709551616) (w : World) :
    Calls Try.prog 22 #[.agg #[.int .u64 (a : Int), .int .u64 (b : Int)], .int .u64 (p : Int)] w fun e w' => e = .returned (.bool (has (a, b) p)) ∧ Below w.heap.size w w' := by
  have Hx := Lib.hid hx
  by_cases h : good (a, b) = true
  · have hg := (good_iff _).1 h
    simp only at hg
    by_cases h1 : a ≤ p
    · have e1 : IntKind.u64.wrap ((p : Int) - a) = (p - a : Nat) := by simp [IntKind.wrap, IntKind.bits, IntKind.signed]; omega
      by_cases h2 : p - a < b
      · have e : has (a, b) p = true := (has_iff _ _).2 ⟨h, by simp only; omega, by simp only; omega⟩
        rw [e]
        clear hg
        go_enter Try.func22, Try.ntmps22
        go_wp2_with (go_at_call 49; refine (rgood_any a b Hx.out _).mono ?_; rintro e w1 ⟨rfl, rfl⟩)
        go_ret
        exact ⟨rfl, Laid.below ⟨[_, _], rfl⟩⟩
      · have e : has (a, b) p = false := by rw [← Bool.not_eq_true, has_iff]; simp only; omega
        rw [e]
        clear hg
        go_enter Try.func22, Try.ntmps22
        go_wp2_with (go_at_call 49; refine (rgood_any a b Hx.out _).mono ?_; rintro e w1 ⟨rfl, rfl⟩)
        go_ret
        exact ⟨rfl, Laid.below ⟨[_, _], rfl⟩⟩
    · have e : has (a, b) p = false := by rw [← Bool.not_eq_true, has_iff]; simp only; omega
      rw [e]
      clear hg
      go_enter Try.func22, Try.ntmps22
      go_wp2_with (go_at_call 49; refine (rgood_any a b Hx.out _).mono ?_; rintro e w1 ⟨rfl, rfl⟩)
      go_ret
      exact ⟨rfl, Laid.below ⟨[_, _], rfl⟩⟩
  · have h' : good (a, b) = false := by simpa using h
    have e : has (a, b) p = false := by simp [has, h']
    rw [e]
    go_enter Try.func22, Try.ntmps22
    go_wp2_with (go_at_call 49; refine (rgood_any a b Hx.out _).mono ?_; rintro e w1 ⟨rfl, rfl⟩)
    go_ret
    exact ⟨rfl, Laid.below ⟨[_, _], rfl⟩⟩

theorem good_bel (a b : Nat) (hx : fit (a, b)) (w : World) :
    Calls Try.prog 59 #[.agg #[.int .u64 (a : Int), .int .u64 (b : Int)]] w fun e w' => e = .returned (.bool (good (a, b))) ∧ Below w.heap.size w w' :=
  (good_any a b hx w).mono fun _ _ ⟨h1, h2⟩ => ⟨h1, Laid.below ⟨[_], h2⟩⟩
theorem last_bel (a b : Nat) (hx : fit (a, b)) (w : World) :
    Calls Try.prog 58 #[.agg #[.int .u64 (a : Int), .int .u64 (b : Int)]] w fun e w' => e = .returned (.int .u64 (last (a, b) : Nat)) ∧ Below w.heap.size w w' :=
  (last_any a b hx w).mono fun _ _ ⟨h1, h2⟩ => ⟨h1, Laid.below ⟨[_, _], h2⟩⟩
theorem rgood_bel (a b : Nat) (hx : fit (a, b)) (w : World) :
    Calls Try.prog 49 #[.agg #[.int .u64 (a : Int), .int .u64 (b : Int)]] w fun e w' => e = .returned (.bool (good (a, b))) ∧ Below w.heap.size w w' :=
  (rgood_any a b hx w).mono fun _ _ ⟨h1, h2⟩ => ⟨h1, Laid.below ⟨[_], h2⟩⟩
theorem rlast_bel (a b : Nat) (hx : fit (a, b)) (w : World) :
    Calls Try.prog 38 #[.agg #[.int .u64 (a : Int), .int .u64 (b : Int)]] w fun e w' => e = .returned (.int .u64 (last (a, b) : Nat)) ∧ Below w.heap.size w w' :=
  (rlast_any a b hx w).mono fun _ _ ⟨h1, h2⟩ => ⟨h1, Laid.below ⟨[_, _], h2⟩⟩
/-- The two boxes of a call on two spans, behind a call that leaves what was there. -/
theorem keep4 {w W W1 : World} {p q r s : Addr} {x y z u : Value} (hd : Below W.heap.size W W1)
    (h : Below w.heap.size w W ∧ W.cell? p = some x ∧ W.cell? q = some y ∧ W.cell? r = some z ∧ W.cell? s = some u) :
    Below w.heap.size w W1 ∧ W1.cell? p = some x ∧ W1.cell? q = some y ∧ W1.cell? r = some z ∧ W1.cell? s = some u := by
  obtain ⟨h0, h1, h2, h3, h4⟩ := h
  exact ⟨h0.trans (hd.mono h0.size), (hd.cell (World.block_lt_of_cell? W p h1)).trans h1, (hd.cell (World.block_lt_of_cell? W q h2)).trans h2, (hd.cell (World.block_lt_of_cell? W r h3)).trans h3, (hd.cell (World.block_lt_of_cell? W s h4)).trans h4⟩
theorem keep4_start (w : World) (a b c d : Nat) (W : World) (hW : W = ((w.alloc (spo a b)).alloc (spo c d)).drew) :
    Below w.heap.size w W ∧ W.cell? ⟨w.heap.size, 0, none⟩ = some (.int .u64 (a : Int)) ∧ W.cell? ⟨w.heap.size, 1, none⟩ = some (.int .u64 (b : Int)) ∧
      W.cell? ⟨w.heap.size + 1, 0, none⟩ = some (.int .u64 (c : Int)) ∧ W.cell? ⟨w.heap.size + 1, 1, none⟩ = some (.int .u64 (d : Int)) := by
  subst hW
  refine ⟨(Laid.below ⟨[_, _], rfl⟩).drew, ?_, ?_, ?_, ?_⟩ <;> simp
end Go.Proofs.Ytbemphfijkcbhaa
/- Overlap: the program's. -/
namespace Go.Proofs.Ytbemphfijkcbhaa
open Go.RowKit

set_option maxHeartbeats 1000000 in
theorem overlap_any (a b c d : Nat) (hx : fit (a, b)) (hy : fit (c, d)) (w : World) :
    Calls Try.prog 76 #[.agg #[.int .u64 (a : Int), .int .u64 (b : Int)], .agg #[.int .u64 (c : Int), .int .u64 (d : Int)]] w fun e w' => e = .returned (.bool (overlap (a, b) (c, d))) ∧ Below w.heap.size w w' := by
  have Hx := Lib.hid hx
  have Hy := Lib.hid hy
  by_cases h : good (a, b) = true
  · by_cases k : good (c, d) = true
    · have E := Lib.hid (show overlap (a, b) (c, d) = (decide (a ≤ last (c, d)) && decide (c ≤ last (a, b))) by
        have hl := last_good h
        have kl := last_good k
        have hg := (good_iff _).1 h
        have kg := (good_iff _).1 k
        simp only at hl kl hg kg
        rw [Bool.eq_iff_iff]; simp [overlap, h, k]; omega)
      by_cases h1 : a ≤ last (c, d)
      · by_cases h2 : c ≤ last (a, b)
        · rw [show overlap (a, b) (c, d) = true from by first | (rw [E.out]; simp [h1, h2]) | (rw [E.out]; simp [h1]) | simp [overlap, h, k] | simp [overlap, h]]
          go_enter Try.func76, Try.ntmps76
          go_wp2
          refine wp_region_held_drew (S := fun W => Below w.heap.size w W ∧ W.cell? ⟨w.heap.size, 0, none⟩ = some (.int .u64 (a : Int)) ∧ W.cell? ⟨w.heap.size, 1, none⟩ = some (.int .u64 (b : Int)) ∧ W.cell? ⟨w.heap.size + 1, 0, none⟩ = some (.int .u64 (c : Int)) ∧ W.cell? ⟨w.heap.size + 1, 1, none⟩ = some (.int .u64 (d : Int))) (by kernel_rfl) (keep4_start w a b c d _ rfl) (fun hS => ?_)
          (refine held_take (i := 0) (oi := ?ot1) (v := ?vt1) ?at1 (by kernel_rfl) (by kernel_rfl) (by kernel_rfl) ?bt1 ?ct1 ?dt1 (by assumption) ?rt1; (case at1 => (simp only [List.getElem?_toArray, List.getElem?_cons_zero]; rfl)); (case bt1 => exact fun _ _ _ h => h); (case ct1 => kernel_rfl); (case dt1 => (intro W hW; (try dsimp only at hW); go_split_ands; go_simp; (try with_reducible rfl))); (case' rt1 => simp only [Act.put, List.setIfInBounds_toArray, List.set_cons_zero, List.set_cons_succ]))
          refine held_one (i := 1) (oi := ?ot2) (by kernel_rfl) ?at2 ?ct2 (fun K1 hK1 => ?_)
          (case at2 => (simp only [List.getElem?_toArray, List.getElem?_cons_zero, List.getElem?_cons_succ]; rfl))
          (case ct2 => kernel_rfl)
          go_simp
          refine (good_bel a b Hx.out _).mono ?_
          rintro e w1 ⟨rfl, hd⟩
          refine hK1 _ _ (keep4 hd hS) (fun hS1 => ?_)
          clear hS hd hK1 K1
          (refine held_take (i := 2) (oi := ?ot3) (v := ?vt3) ?at3 (by kernel_rfl) (by kernel_rfl) (by kernel_rfl) ?bt3 ?ct3 ?dt3 (by assumption) ?rt3; (case at3 => (simp only [List.getElem?_toArray, List.getElem?_cons_zero, List.getElem?_cons_succ]; rfl)); (case bt3 => exact fun _ _ _ h => h); (case ct3 => kernel_rfl); (case dt3 => (intro W hW; (try dsimp only at hW); go_split_ands; go_simp; (try with_reducible rfl))); (case' rt3 => simp only [Act.put, List.setIfInBounds_toArray, List.set_cons_zero, List.set_cons_succ]))
          (refine held_take (i := 3) (oi := ?ot4) (v := ?vt4) ?at4 (by kernel_rfl) (by kernel_rfl) (by kernel_rfl) ?bt4 ?ct4 ?dt4 (by assumption) ?rt4; (case at4 => (simp only [List.getElem?_toArray, List.getElem?_cons_zero, List.getElem?_cons_succ]; rfl)); (case bt4 => exact fun _ _ _ h => h); (case ct4 => kernel_rfl); (case dt4 => (intro W hW; (try dsimp only at hW); go_split_ands; go_simp; (try with_reducible rfl))); (case' rt4 => simp only [Act.put, List.setIfInBounds_toArray, List.set_cons_zero, List.set_cons_succ]))
          refine held_one (i := 4) (oi := ?ot5) (by kernel_rfl) ?at5 ?ct5 (fun K4 hK4 => ?_)
          (case at5 => (simp only [List.getElem?_toArray, List.getElem?_cons_zero, List.getElem?_cons_succ]; rfl))
          (case ct5 => kernel_rfl)
          go_simp
          refine (good_bel c d Hy.out _).mono ?_
          rintro e w1 ⟨rfl, hd⟩
          refine hK4 _ _ (keep4 hd hS1) (fun hS4 => ?_)
          clear hS1 hd hK4 K4
          (refine held_take (i := 5) (oi := ?ot6) (v := ?vt6) ?at6 (by kernel_rfl) (by kernel_rfl) (by kernel_rfl) ?bt6 ?ct6 ?dt6 (by assumption) ?rt6; (case at6 => (simp only [List.getElem?_toArray, List.getElem?_cons_zero, List.getElem?_cons_succ]; rfl)); (case bt6 => exact fun _ _ _ h => h); (case ct6 => kernel_rfl); (case dt6 => (intro W hW; (try dsimp only at hW); go_split_ands; go_simp; (try with_reducible rfl))); (case' rt6 => simp only [Act.put, List.setIfInBounds_toArray, List.set_cons_zero, List.set_cons_succ]))
          (refine held_take (i := 6) (oi := ?ot7) (v := ?vt7) ?at7 (by kernel_rfl) (by kernel_rfl) (by kernel_rfl) ?bt7 ?ct7 ?dt7 (by assumption) ?rt7; (case at7 => (simp only [List.getElem?_toArray, List.getElem?_cons_zero, List.getElem?_cons_succ]; rfl)); (case bt7 => exact fun _ _ _ h => h); (case ct7 => kernel_rfl); (case dt7 => (intro W hW; (try dsimp only at hW); go_split_ands; go_simp; (try with_reducible rfl))); (case' rt7 => simp only [Act.put, List.setIfInBounds_toArray, List.set_cons_zero, List.set_cons_succ]))
          (refine held_take (i := 7) (oi := ?ot8) (v := ?vt8) ?at8 (by kernel_rfl) (by kernel_rfl) (by kernel_rfl) ?bt8 ?ct8 ?dt8 (by assumption) ?rt8; (case at8 => (simp only [List.getElem?_toArray, List.getElem?_cons_zero, List.getElem?_cons_succ]; rfl)); (case bt8 => exact fun _ _ _ h => h); (case ct8 => kernel_rfl); (case dt8 => (intro W hW; (try dsimp only at hW); go_split_ands; go_simp; (try with_reducible rfl))); (case' rt8 => simp only [Act.put, List.setIfInBounds_toArray, List.set_cons_zero, List.set_cons_succ]))
          (refine held_take (i := 8) (oi := ?ot9) (v := ?vt9) ?at9 (by kernel_rfl) (by kernel_rfl) (by kernel_rfl) ?bt9 ?ct9 ?dt9 (by assumption) ?rt9; (case at9 => (simp only [List.getElem?_toArray, List.getElem?_cons_zero, List.getElem?_cons_succ]; rfl)); (case bt9 => exact fun _ _ _ h => h); (case ct9 => kernel_rfl); (case dt9 => (intro W hW; (try dsimp only at hW); go_split_ands; go_simp; (try with_reducible rfl))); (case' rt9 => simp only [Act.put, List.setIfInBounds_toArray, List.set_cons_zero, List.set_cons_succ]))
          (refine held_take (i := 9) (oi := ?ot10) (v := ?vt10) ?at10 (by kernel_rfl) (by kernel_rfl) (by kernel_rfl) ?bt10 ?ct10 ?dt10 (by assumption) ?rt10; (case at10 => (simp only [List.getElem?_toArray, List.getElem?_cons_zero, List.getElem?_cons_succ]; rfl)); (case bt10 => exact fun _ _ _ h => h); (case ct10 => kernel_rfl); (case dt10 => (intro W hW; (try dsimp only at hW); go_split_ands; go_simp; (try with_reducible rfl))); (case' rt10 => simp only [Act.put, List.setIfInBounds_toArray, List.set_cons_zero, List.set_cons_succ]))
          refine held_one (i := 10) (oi := ?ot11) (by kernel_rfl) ?at11 ?ct11 (fun K10 hK10 => ?_)
          (case at11 => (simp only [List.getElem?_toArray, List.getElem?_cons_zero, List.getElem?_cons_succ]; rfl))
          (case ct11 => kernel_rfl)
          go_simp
          refine (last_bel c d Hy.out _).mono ?_
          rintro e w1 ⟨rfl, hd⟩
          refine hK10 _ _ (keep4 hd hS4) (fun hS10 => ?_)
          clear hS4 hd hK10 K10
          (refine held_take (i := 11) (oi := ?ot12) (v := ?vt12) ?at12 (by kernel_rfl) (by kernel_rfl) (by kernel_rfl) ?bt12 ?ct12 ?dt12 (by assumption) ?rt12; (case at12 => (simp only [List.getElem?_toArray, List.getElem?_cons_zero, List.getElem?_cons_succ]; rfl)); (case bt12 => exact fun _ _ _ h => h); (case ct12 => kernel_rfl); (case dt12 => (intro W hW; (try dsimp only at hW); go_split_ands; go_simp; (try with_reducible rfl))); (case' rt12 => simp only [Act.put, List.setIfInBounds_toArray, List.set_cons_zero, List.set_cons_succ]))
          (refine held_take (i := 12) (oi := ?ot13) (v := ?vt13) ?at13 (by kernel_rfl) (by kernel_rfl) (by kernel_rfl) ?bt13 ?ct13 ?dt13 (by assumption) ?rt13; (case at13 => (simp only [List.getElem?_toArray, List.getElem?_cons_zero, List.getElem?_cons_succ]; rfl)); (case bt13 => exact fun _ _ _ h => h); (case ct13 => kernel_rfl); (case dt13 => (intro W hW; (try dsimp only at hW); go_split_ands; go_simp; (try with_reducible rfl))); (case' rt13 => simp only [Act.put, List.setIfInBounds_toArray, List.set_cons_zero, List.set_cons_succ]))
          (refine held_take (i := 13) (oi := ?ot14) (v := ?vt14) ?at14 (by kernel_rfl) (by kernel_rfl) (by kernel_rfl) ?bt14 ?ct14 ?dt14 (by assumption) ?rt14; (case at14 => (simp only [List.getElem?_toArray, List.getElem?_cons_zero, List.getElem?_cons_succ]; rfl)); (case bt14 => exact fun _ _ _ h => h); (case ct14 => kernel_rfl); (case dt14 => (intro W hW; (try dsimp only at hW); go_split_ands; go_simp; (try with_reducible rfl))); (case' rt14 => simp only [Act.put, List.setIfInBounds_toArray, List.set_cons_zero, List.set_cons_succ]))
          (refine held_take (i := 14) (oi := ?ot15) (v := ?vt15) ?at15 (by kernel_rfl) (by kernel_rfl) (by kernel_rfl) ?bt15 ?ct15 ?dt15 (by assumption) ?rt15; (case at15 => (simp only [List.getElem?_toArray, List.getElem?_cons_zero, List.getElem?_cons_succ]; rfl)); (case bt15 => exact fun _ _ _ h => h); (case ct15 => kernel_rfl); (case dt15 => (intro W hW; (try dsimp only at hW); go_split_ands; go_simp; (try with_reducible rfl))); (case' rt15 => simp only [Act.put, List.setIfInBounds_toArray, List.set_cons_zero, List.set_cons_succ]))
          (refine held_take (i := 15) (oi := ?ot16) (v := ?vt16) ?at16 (by kernel_rfl) (by kernel_rfl) (by kernel_rfl) ?bt16 ?ct16 ?dt16 (by assumption) ?rt16; (case at16 => (simp only [List.getElem?_toArray, List.getElem?_cons_zero, List.getElem?_cons_succ]; rfl)); (case bt16 => exact fun _ _ _ h => h); (case ct16 => kernel_rfl); (case dt16 => (intro W hW; (try dsimp only at hW); go_split_ands; go_simp; (try with_reducible rfl))); (case' rt16 => simp only [Act.put, List.setIfInBounds_toArray, List.set_cons_zero, List.set_cons_succ]))
          (refine held_take (i := 16) (oi := ?ot17) (v := ?vt17) ?at17 (by kernel_rfl) (by kernel_rfl) (by kernel_rfl) ?bt17 ?ct17 ?dt17 (by assumption) ?rt17; (case at17 => (simp only [List.getElem?_toArray, List.getElem?_cons_zero, List.getElem?_cons_succ]; rfl)); (case bt17 => exact fun _ _ _ h => h); (case ct17 => kernel_rfl); (case dt17 => (intro W hW; (try dsimp only at hW); go_split_ands; go_simp; (try with_reducible rfl))); (case' rt17 => simp only [Act.put, List.setIfInBounds_toArray, List.set_cons_zero, List.set_cons_succ]))
          refine held_one (i := 17) (oi := ?ot18) (by kernel_rfl) ?at18 ?ct18 (fun K17 hK17 => ?_)
          (case at18 => (simp only [List.getElem?_toArray, List.getElem?_cons_zero, List.getElem?_cons_succ]; rfl))
          (case ct18 => kernel_rfl)
          go_simp
          refine (last_bel a b Hx.out _).mono ?_
          rintro e w1 ⟨rfl, hd⟩
          refine hK17 _ _ (keep4 hd hS10) (fun hS17 => ?_)
          clear hS10 hd hK17 K17
          (refine held_take (i := 18) (oi := ?ot19) (v := ?vt19) ?at19 (by kernel_rfl) (by kernel_rfl) (by kernel_rfl) ?bt19 ?ct19 ?dt19 (by assumption) ?rt19; (case at19 => (simp only [List.getElem?_toArray, List.getElem?_cons_zero, List.getElem?_cons_succ]; rfl)); (case bt19 => exact fun _ _ _ h => h); (case ct19 => kernel_rfl); (case dt19 => (intro W hW; (try dsimp only at hW); go_split_ands; go_simp; (try with_reducible rfl))); (case' rt19 => simp only [Act.put, List.setIfInBounds_toArray, List.set_cons_zero, List.set_cons_succ]))
          (refine held_take (i := 19) (oi := ?ot20) (v := ?vt20) ?at20 (by kernel_rfl) (by kernel_rfl) (by kernel_rfl) ?bt20 ?ct20 ?dt20 (by assumption) ?rt20; (case at20 => (simp only [List.getElem?_toArray, List.getElem?_cons_zero, List.getElem?_cons_succ]; rfl)); (case bt20 => exact fun _ _ _ h => h); (case ct20 => kernel_rfl); (case dt20 => (intro W hW; (try dsimp only at hW); go_split_ands; go_simp; (try with_reducible rfl))); (case' rt20 => simp only [Act.put, List.setIfInBounds_toArray, List.set_cons_zero, List.set_cons_succ]))
          (refine held_take (i := 20) (oi := ?ot21) (v := ?vt21) ?at21 (by kernel_rfl) (by kernel_rfl) (by kernel_rfl) ?bt21 ?ct21 ?dt21 (by assumption) ?rt21; (case at21 => (simp only [List.getElem?_toArray, List.getElem?_cons_zero, List.getElem?_cons_succ]; rfl)); (case bt21 => exact fun _ _ _ h => h); (case ct21 => kernel_rfl); (case dt21 => (intro W hW; (try dsimp only at hW); go_split_ands; go_simp; (try with_reducible rfl))); (case' rt21 => simp only [Act.put, List.setIfInBounds_toArray, List.set_cons_zero, List.set_cons_succ]))
          refine wpAnyH_done (by kernel_rfl) ?_ _
          go_wp2
          go_ret
          exact ⟨rfl, hS17.1⟩
        · rw [show overlap (a, b) (c, d) = false from by first | (rw [E.out]; simp [h1, h2]) | (rw [E.out]; simp [h1]) | simp [overlap, h, k] | simp [overlap, h]]
          go_enter Try.func76, Try.ntmps76
          go_wp2
          refine wp_region_held_drew (S := fun W => Below w.heap.size w W ∧ W.cell? ⟨w.heap.size, 0, none⟩ = some (.int .u64 (a : Int)) ∧ W.cell? ⟨w.heap.size, 1, none⟩ = some (.int .u64 (b : Int)) ∧ W.cell? ⟨w.heap.size + 1, 0, none⟩ = some (.int .u64 (c : Int)) ∧ W.cell? ⟨w.heap.size + 1, 1, none⟩ = some (.int .u64 (d : Int))) (by kernel_rfl) (keep4_start w a b c d _ rfl) (fun hS => ?_)
          (refine held_take (i := 0) (oi := ?ot22) (v := ?vt22) ?at22 (by kernel_rfl) (by kernel_rfl) (by kernel_rfl) ?bt22 ?ct22 ?dt22 (by assumption) ?rt22; (case at22 => (simp only [List.getElem?_toArray, List.getElem?_cons_zero]; rfl)); (case bt22 => exact fun _ _ _ h => h); (case ct22 => kernel_rfl); (case dt22 => (intro W hW; (try dsimp only at hW); go_split_ands; go_simp; (try with_reducible rfl))); (case' rt22 => simp only [Act.put, List.setIfInBounds_toArray, List.set_cons_zero, List.set_cons_succ]))
          refine held_one (i := 1) (oi := ?ot23) (by kernel_rfl) ?at23 ?ct23 (fun K1 hK1 => ?_)
          (case at23 => (simp only [List.getElem?_toArray, List.getElem?_cons_zero, List.getElem?_cons_succ]; rfl))
          (case ct23 => kernel_rfl)
          go_simp
          refine (good_bel a b Hx.out _).mono ?_
          rintro e w1 ⟨rfl, hd⟩
          refine hK1 _ _ (keep4 hd hS) (fun hS1 => ?_)
          clear hS hd hK1 K1
          (refine held_take (i := 2) (oi := ?ot24) (v := ?vt24) ?at24 (by kernel_rfl) (by kernel_rfl) (by kernel_rfl) ?bt24 ?ct24 ?dt24 (by assumption) ?rt24; (case at24 => (simp only [List.getElem?_toArray, List.getElem?_cons_zero, List.getElem?_cons_succ]; rfl)); (case bt24 => exact fun _ _ _ h => h); (case ct24 => kernel_rfl); (case dt24 => (intro W hW; (try dsimp only at hW); go_split_ands; go_simp; (try with_reducible rfl))); (case' rt24 => simp only [Act.put, List.setIfInBounds_toArray, List.set_cons_zero, List.set_cons_succ]))
          (refine held_take (i := 3) (oi := ?ot25) (v := ?vt25) ?at25 (by kernel_rfl) (by kernel_rfl) (by kernel_rfl) ?bt25 ?ct25 ?dt25 (by assumption) ?rt25; (case at25 => (simp only [List.getElem?_toArray, List.getElem?_cons_zero, List.getElem?_cons_succ]; rfl)); (case bt25 => exact fun _ _ _ h => h); (case ct25 => kernel_rfl); (case dt25 => (intro W hW; (try dsimp only at hW); go_split_ands; go_simp; (try with_reducible rfl))); (case' rt25 => simp only [Act.put, List.setIfInBounds_toArray, List.set_cons_zero, List.set_cons_succ]))
          refine held_one (i := 4) (oi := ?ot26) (by kernel_rfl) ?at26 ?ct26 (fun K4 hK4 => ?_)
          (case at26 => (simp only [List.getElem?_toArray, List.getElem?_cons_zero, List.getElem?_cons_succ]; rfl))
          (case ct26 => kernel_rfl)
          go_simp
          refine (good_bel c d Hy.out _).mono ?_
          rintro e w1 ⟨rfl, hd⟩
          refine hK4 _ _ (keep4 hd hS1) (fun hS4 => ?_)
          clear hS1 hd hK4 K4
          (refine held_take (i := 5) (oi := ?ot27) (v := ?vt27) ?at27 (by kernel_rfl) (by kernel_rfl) (by kernel_rfl) ?bt27 ?ct27 ?dt27 (by assumption) ?rt27; (case at27 => (simp only [List.getElem?_toArray, List.getElem?_cons_zero, List.getElem?_cons_succ]; rfl)); (case bt27 => exact fun _ _ _ h => h); (case ct27 => kernel_rfl); (case dt27 => (intro W hW; (try dsimp only at hW); go_split_ands; go_simp; (try with_reducible rfl))); (case' rt27 => simp only [Act.put, List.setIfInBounds_toArray, List.set_cons_zero, List.set_cons_succ]))
          (refine held_take (i := 6) (oi := ?ot28) (v := ?vt28) ?at28 (by kernel_rfl) (by kernel_rfl) (by kernel_rfl) ?bt28 ?ct28 ?dt28 (by assumption) ?rt28; (case at28 => (simp only [List.getElem?_toArray, List.getElem?_cons_zero, List.getElem?_cons_succ]; rfl)); (case bt28 => exact fun _ _ _ h => h); (case ct28 => kernel_rfl); (case dt28 => (intro W hW; (try dsimp only at hW); go_split_ands; go_simp; (try with_reducible rfl))); (case' rt28 => simp only [Act.put, List.setIfInBounds_toArray, List.set_cons_zero, List.set_cons_succ]))
          (refine held_take (i := 7) (oi := ?ot29) (v := ?vt29) ?at29 (by kernel_rfl) (by kernel_rfl) (by kernel_rfl) ?bt29 ?ct29 ?dt29 (by assumption) ?rt29; (case at29 => (simp only [List.getElem?_toArray, List.getElem?_cons_zero, List.getElem?_cons_succ]; rfl)); (case bt29 => exact fun _ _ _ h => h); (case ct29 => kernel_rfl); (case dt29 => (intro W hW; (try dsimp only at hW); go_split_ands; go_simp; (try with_reducible rfl))); (case' rt29 => simp only [Act.put, List.setIfInBounds_toArray, List.set_cons_zero, List.set_cons_succ]))
          (refine held_take (i := 8) (oi := ?ot30) (v := ?vt30) ?at30 (by kernel_rfl) (by kernel_rfl) (by kernel_rfl) ?bt30 ?ct30 ?dt30 (by assumption) ?rt30; (case at30 => (simp only [List.getElem?_toArray, List.getElem?_cons_zero, List.getElem?_cons_succ]; rfl)); (case bt30 => exact fun _ _ _ h => h); (case ct30 => kernel_rfl); (case dt30 => (intro W hW; (try dsimp only at hW); go_split_ands; go_simp; (try with_reducible rfl))); (case' rt30 => simp only [Act.put, List.setIfInBounds_toArray, List.set_cons_zero, List.set_cons_succ]))
          (refine held_take (i := 9) (oi := ?ot31) (v := ?vt31) ?at31 (by kernel_rfl) (by kernel_rfl) (by kernel_rfl) ?bt31 ?ct31 ?dt31 (by assumption) ?rt31; (case at31 => (simp only [List.getElem?_toArray, List.getElem?_cons_zero, List.getElem?_cons_succ]; rfl)); (case bt31 => exact fun _ _ _ h => h); (case ct31 => kernel_rfl); (case dt31 => (intro W hW; (try dsimp only at hW); go_split_ands; go_simp; (try with_reducible rfl))); (case' rt31 => simp only [Act.put, List.setIfInBounds_toArray, List.set_cons_zero, List.set_cons_succ]))
          refine held_one (i := 10) (oi := ?ot32) (by kernel_rfl) ?at32 ?ct32 (fun K10 hK10 => ?_)
          (case at32 => (simp only [List.getElem?_toArray, List.getElem?_cons_zero, List.getElem?_cons_succ]; rfl))
          (case ct32 => kernel_rfl)
          go_simp
          refine (last_bel c d Hy.out _).mono ?_
          rintro e w1 ⟨rfl, hd⟩
          refine hK10 _ _ (keep4 hd hS4) (fun hS10 => ?_)
          clear hS4 hd hK10 K10
          (refine held_take (i := 11) (oi := ?ot33) (v := ?vt33) ?at33 (by kernel_rfl) (by kernel_rfl) (by kernel_rfl) ?bt33 ?ct33 ?dt33 (by assumption) ?rt33; (case at33 => (simp only [List.getElem?_toArray, List.getElem?_cons_zero, List.getElem?_cons_succ]; rfl)); (case bt33 => exact fun _ _ _ h => h); (case ct33 => kernel_rfl); (case dt33 => (intro W hW; (try dsimp only at hW); go_split_ands; go_simp; (try with_reducible rfl))); (case' rt33 => simp only [Act.put, List.setIfInBounds_toArray, List.set_cons_zero, List.set_cons_succ]))
          (refine held_take (i := 12) (oi := ?ot34) (v := ?vt34) ?at34 (by kernel_rfl) (by kernel_rfl) (by kernel_rfl) ?bt34 ?ct34 ?dt34 (by assumption) ?rt34; (case at34 => (simp only [List.getElem?_toArray, List.getElem?_cons_zero, List.getElem?_cons_succ]; rfl)); (case bt34 => exact fun _ _ _ h => h); (case ct34 => kernel_rfl); (case dt34 => (intro W hW; (try dsimp only at hW); go_split_ands; go_simp; (try with_reducible rfl))); (case' rt34 => simp only [Act.put, List.setIfInBounds_toArray, List.set_cons_zero, List.set_cons_succ]))
          (refine held_take (i := 13) (oi := ?ot35) (v := ?vt35) ?at35 (by kernel_rfl) (by kernel_rfl) (by kernel_rfl) ?bt35 ?ct35 ?dt35 (by assumption) ?rt35; (case at35 => (simp only [List.getElem?_toArray, List.getElem?_cons_zero, List.getElem?_cons_succ]; rfl)); (case bt35 => exact fun _ _ _ h => h); (case ct35 => kernel_rfl); (case dt35 => (intro W hW; (try dsimp only at hW); go_split_ands; go_simp; (try with_reducible rfl))); (case' rt35 => simp only [Act.put, List.setIfInBounds_toArray, List.set_cons_zero, List.set_cons_succ]))
          (refine held_take (i := 14) (oi := ?ot36) (v := ?vt36) ?at36 (by kernel_rfl) (by kernel_rfl) (by kernel_rfl) ?bt36 ?ct36 ?dt36 (by assumption) ?rt36; (case at36 => (simp only [List.getElem?_toArray, List.getElem?_cons_zero, List.getElem?_cons_succ]; rfl)); (case bt36 => exact fun _ _ _ h => h); (case ct36 => kernel_rfl); (case dt36 => (intro W hW; (try dsimp only at hW); go_split_ands; go_simp; (try with_reducible rfl))); (case' rt36 => simp only [Act.put, List.setIfInBounds_toArray, List.set_cons_zero, List.set_cons_succ]))
          (refine held_take (i := 15) (oi := ?ot37) (v := ?vt37) ?at37 (by kernel_rfl) (by kernel_rfl) (by kernel_rfl) ?bt37 ?ct37 ?dt37 (by assumption) ?rt37; (case at37 => (simp only [List.getElem?_toArray, List.getElem?_cons_zero, List.getElem?_cons_succ]; rfl)); (case bt37 => exact fun _ _ _ h => h); (case ct37 => kernel_rfl); (case dt37 => (intro W hW; (try dsimp only at hW); go_split_ands; go_simp; (try with_reducible rfl))); (case' rt37 => simp only [Act.put, List.setIfInBounds_toArray, List.set_cons_zero, List.set_cons_succ]))
          (refine held_take (i := 16) (oi := ?ot38) (v := ?vt38) ?at38 (by kernel_rfl) (by kernel_rfl) (by kernel_rfl) ?bt38 ?ct38 ?dt38 (by assumption) ?rt38; (case at38 => (simp only [List.getElem?_toArray, List.getElem?_cons_zero, List.getElem?_cons_succ]; rfl)); (case bt38 => exact fun _ _ _ h => h); (case ct38 => kernel_rfl); (case dt38 => (intro W hW; (try dsimp only at hW); go_split_ands; go_simp; (try with_reducible rfl))); (case' rt38 => simp only [Act.put, List.setIfInBounds_toArray, List.set_cons_zero, List.set_cons_succ]))
          refine held_one (i := 17) (oi := ?ot39) (by kernel_rfl) ?at39 ?ct39 (fun K17 hK17 => ?_)
          (case at39 => (simp only [List.getElem?_toArray, List.getElem?_cons_zero, List.getElem?_cons_succ]; rfl))
          (case ct39 => kernel_rfl)
          go_simp
          refine (last_bel a b Hx.out _).mono ?_
          rintro e w1 ⟨rfl, hd⟩
          refine hK17 _ _ (keep4 hd hS10) (fun hS17 => ?_)
          clear hS10 hd hK17 K17
          (refine held_take (i := 18) (oi := ?ot40) (v := ?vt40) ?at40 (by kernel_rfl) (by kernel_rfl) (by kernel_rfl) ?bt40 ?ct40 ?dt40 (by assumption) ?rt40; (case at40 => (simp only [List.getElem?_toArray, List.getElem?_cons_zero, List.getElem?_cons_succ]; rfl)); (case bt40 => exact fun _ _ _ h => h); (case ct40 => kernel_rfl); (case dt40 => (intro W hW; (try dsimp only at hW); go_split_ands; go_simp; (try with_reducible rfl))); (case' rt40 => simp only [Act.put, List.setIfInBounds_toArray, List.set_cons_zero, List.set_cons_succ]))
          (refine held_take (i := 19) (oi := ?ot41) (v := ?vt41) ?at41 (by kernel_rfl) (by kernel_rfl) (by kernel_rfl) ?bt41 ?ct41 ?dt41 (by assumption) ?rt41; (case at41 => (simp only [List.getElem?_toArray, List.getElem?_cons_zero, List.getElem?_cons_succ]; rfl)); (case bt41 => exact fun _ _ _ h => h); (case ct41 => kernel_rfl); (case dt41 => (intro W hW; (try dsimp only at hW); go_split_ands; go_simp; (try with_reducible rfl))); (case' rt41 => simp only [Act.put, List.setIfInBounds_toArray, List.set_cons_zero, List.set_cons_succ]))
          (refine held_take (i := 20) (oi := ?ot42) (v := ?vt42) ?at42 (by kernel_rfl) (by kernel_rfl) (by kernel_rfl) ?bt42 ?ct42 ?dt42 (by assumption) ?rt42; (case at42 => (simp only [List.getElem?_toArray, List.getElem?_cons_zero, List.getElem?_cons_succ]; rfl)); (case bt42 => exact fun _ _ _ h => h); (case ct42 => kernel_rfl); (case dt42 => (intro W hW; (try dsimp only at hW); go_split_ands; go_simp; (try with_reducible rfl))); (case' rt42 => simp only [Act.put, List.setIfInBounds_toArray, List.set_cons_zero, List.set_cons_succ]))
          refine wpAnyH_done (by kernel_rfl) ?_ _
          go_wp2
          go_ret
          exact ⟨rfl, hS17.1⟩
      · rw [show overlap (a, b) (c, d) = false from by first | (rw [E.out]; simp [h1, h2]) | (rw [E.out]; simp [h1]) | simp [overlap, h, k] | simp [overlap, h]]
        go_enter Try.func76, Try.ntmps76
        go_wp2
        refine wp_region_held_drew (S := fun W => Below w.heap.size w W ∧ W.cell? ⟨w.heap.size, 0, none⟩ = some (.int .u64 (a : Int)) ∧ W.cell? ⟨w.heap.size, 1, none⟩ = some (.int .u64 (b : Int)) ∧ W.cell? ⟨w.heap.size + 1, 0, none⟩ = some (.int .u64 (c : Int)) ∧ W.cell? ⟨w.heap.size + 1, 1, none⟩ = some (.int .u64 (d : Int))) (by kernel_rfl) (keep4_start w a b c d _ rfl) (fun hS => ?_)
        (refine held_take (i := 0) (oi := ?ot43) (v := ?vt43) ?at43 (by kernel_rfl) (by kernel_rfl) (by kernel_rfl) ?bt43 ?ct43 ?dt43 (by assumption) ?rt43; (case at43 => (simp only [List.getElem?_toArray, List.getElem?_cons_zero]; rfl)); (case bt43 => exact fun _ _ _ h => h); (case ct43 => kernel_rfl); (case dt43 => (intro W hW; (try dsimp only at hW); go_split_ands; go_simp; (try with_reducible rfl))); (case' rt43 => simp only [Act.put, List.setIfInBounds_toArray, List.set_cons_zero, List.set_cons_succ]))
        refine held_one (i := 1) (oi := ?ot44) (by kernel_rfl) ?at44 ?ct44 (fun K1 hK1 => ?_)
        (case at44 => (simp only [List.getElem?_toArray, List.getElem?_cons_zero, List.getElem?_cons_succ]; rfl))
        (case ct44 => kernel_rfl)
        go_simp
        refine (good_bel a b Hx.out _).mono ?_
        rintro e w1 ⟨rfl, hd⟩
        refine hK1 _ _ (keep4 hd hS) (fun hS1 => ?_)
        clear hS hd hK1 K1
        (refine held_take (i := 2) (oi := ?ot45) (v := ?vt45) ?at45 (by kernel_rfl) (by kernel_rfl) (by kernel_rfl) ?bt45 ?ct45 ?dt45 (by assumption) ?rt45; (case at45 => (simp only [List.getElem?_toArray, List.getElem?_cons_zero, List.getElem?_cons_succ]; rfl)); (case bt45 => exact fun _ _ _ h => h); (case ct45 => kernel_rfl); (case dt45 => (intro W hW; (try dsimp only at hW); go_split_ands; go_simp; (try with_reducible rfl))); (case' rt45 => simp only [Act.put, List.setIfInBounds_toArray, List.set_cons_zero, List.set_cons_succ]))
        (refine held_take (i := 3) (oi := ?ot46) (v := ?vt46) ?at46 (by kernel_rfl) (by kernel_rfl) (by kernel_rfl) ?bt46 ?ct46 ?dt46 (by assumption) ?rt46; (case at46 => (simp only [List.getElem?_toArray, List.getElem?_cons_zero, List.getElem?_cons_succ]; rfl)); (case bt46 => exact fun _ _ _ h => h); (case ct46 => kernel_rfl); (case dt46 => (intro W hW; (try dsimp only at hW); go_split_ands; go_simp; (try with_reducible rfl))); (case' rt46 => simp only [Act.put, List.setIfInBounds_toArray, List.set_cons_zero, List.set_cons_succ]))
        refine held_one (i := 4) (oi := ?ot47) (by kernel_rfl) ?at47 ?ct47 (fun K4 hK4 => ?_)
        (case at47 => (simp only [List.getElem?_toArray, List.getElem?_cons_zero, List.getElem?_cons_succ]; rfl))
        (case ct47 => kernel_rfl)
        go_simp
        refine (good_bel c d Hy.out _).mono ?_
        rintro e w1 ⟨rfl, hd⟩
        refine hK4 _ _ (keep4 hd hS1) (fun hS4 => ?_)
        clear hS1 hd hK4 K4
        (refine held_take (i := 5) (oi := ?ot48) (v := ?vt48) ?at48 (by kernel_rfl) (by kernel_rfl) (by kernel_rfl) ?bt48 ?ct48 ?dt48 (by assumption) ?rt48; (case at48 => (simp only [List.getElem?_toArray, List.getElem?_cons_zero, List.getElem?_cons_succ]; rfl)); (case bt48 => exact fun _ _ _ h => h); (case ct48 => kernel_rfl); (case dt48 => (intro W hW; (try dsimp only at hW); go_split_ands; go_simp; (try with_reducible rfl))); (case' rt48 => simp only [Act.put, List.setIfInBounds_toArray, List.set_cons_zero, List.set_cons_succ]))
        (refine held_take (i := 6) (oi := ?ot49) (v := ?vt49) ?at49 (by kernel_rfl) (by kernel_rfl) (by kernel_rfl) ?bt49 ?ct49 ?dt49 (by assumption) ?rt49; (case at49 => (simp only [List.getElem?_toArray, List.getElem?_cons_zero, List.getElem?_cons_succ]; rfl)); (case bt49 => exact fun _ _ _ h => h); (case ct49 => kernel_rfl); (case dt49 => (intro W hW; (try dsimp only at hW); go_split_ands; go_simp; (try with_reducible rfl))); (case' rt49 => simp only [Act.put, List.setIfInBounds_toArray, List.set_cons_zero, List.set_cons_succ]))
        (refine held_take (i := 7) (oi := ?ot50) (v := ?vt50) ?at50 (by kernel_rfl) (by kernel_rfl) (by kernel_rfl) ?bt50 ?ct50 ?dt50 (by assumption) ?rt50; (case at50 => (simp only [List.getElem?_toArray, List.getElem?_cons_zero, List.getElem?_cons_succ]; rfl)); (case bt50 => exact fun _ _ _ h => h); (case ct50 => kernel_rfl); (case dt50 => (intro W hW; (try dsimp only at hW); go_split_ands; go_simp; (try with_reducible rfl))); (case' rt50 => simp only [Act.put, List.setIfInBounds_toArray, List.set_cons_zero, List.set_cons_succ]))
        (refine held_take (i := 8) (oi := ?ot51) (v := ?vt51) ?at51 (by kernel_rfl) (by kernel_rfl) (by kernel_rfl) ?bt51 ?ct51 ?dt51 (by assumption) ?rt51; (case at51 => (simp only [List.getElem?_toArray, List.getElem?_cons_zero, List.getElem?_cons_succ]; rfl)); (case bt51 => exact fun _ _ _ h => h); (case ct51 => kernel_rfl); (case dt51 => (intro W hW; (try dsimp only at hW); go_split_ands; go_simp; (try with_reducible rfl))); (case' rt51 => simp only [Act.put, List.setIfInBounds_toArray, List.set_cons_zero, List.set_cons_succ]))
        (refine held_take (i := 9) (oi := ?ot52) (v := ?vt52) ?at52 (by kernel_rfl) (by kernel_rfl) (by kernel_rfl) ?bt52 ?ct52 ?dt52 (by assumption) ?rt52; (case at52 => (simp only [List.getElem?_toArray, List.getElem?_cons_zero, List.getElem?_cons_succ]; rfl)); (case bt52 => exact fun _ _ _ h => h); (case ct52 => kernel_rfl); (case dt52 => (intro W hW; (try dsimp only at hW); go_split_ands; go_simp; (try with_reducible rfl))); (case' rt52 => simp only [Act.put, List.setIfInBounds_toArray, List.set_cons_zero, List.set_cons_succ]))
        refine held_one (i := 10) (oi := ?ot53) (by kernel_rfl) ?at53 ?ct53 (fun K10 hK10 => ?_)
        (case at53 => (simp only [List.getElem?_toArray, List.getElem?_cons_zero, List.getElem?_cons_succ]; rfl))
        (case ct53 => kernel_rfl)
        go_simp
        refine (last_bel c d Hy.out _).mono ?_
        rintro e w1 ⟨rfl, hd⟩
        refine hK10 _ _ (keep4 hd hS4) (fun hS10 => ?_)
        clear hS4 hd hK10 K10
        (refine held_take (i := 11) (oi := ?ot54) (v := ?vt54) ?at54 (by kernel_rfl) (by kernel_rfl) (by kernel_rfl) ?bt54 ?ct54 ?dt54 (by assumption) ?rt54; (case at54 => (simp only [List.getElem?_toArray, List.getElem?_cons_zero, List.getElem?_cons_succ]; rfl)); (case bt54 => exact fun _ _ _ h => h); (case ct54 => kernel_rfl); (case dt54 => (intro W hW; (try dsimp only at hW); go_split_ands; go_simp; (try with_reducible rfl))); (case' rt54 => simp only [Act.put, List.setIfInBounds_toArray, List.set_cons_zero, List.set_cons_succ]))
        (refine held_take (i := 12) (oi := ?ot55) (v := ?vt55) ?at55 (by kernel_rfl) (by kernel_rfl) (by kernel_rfl) ?bt55 ?ct55 ?dt55 (by assumption) ?rt55; (case at55 => (simp only [List.getElem?_toArray, List.getElem?_cons_zero, List.getElem?_cons_succ]; rfl)); (case bt55 => exact fun _ _ _ h => h); (case ct55 => kernel_rfl); (case dt55 => (intro W hW; (try dsimp only at hW); go_split_ands; go_simp; (try with_reducible rfl))); (case' rt55 => simp only [Act.put, List.setIfInBounds_toArray, List.set_cons_zero, List.set_cons_succ]))
        (refine held_take (i := 13) (oi := ?ot56) (v := ?vt56) ?at56 (by kernel_rfl) (by kernel_rfl) (by kernel_rfl) ?bt56 ?ct56 ?dt56 (by assumption) ?rt56; (case at56 => (simp only [List.getElem?_toArray, List.getElem?_cons_zero, List.getElem?_cons_succ]; rfl)); (case bt56 => exact fun _ _ _ h => h); (case ct56 => kernel_rfl); (case dt56 => (intro W hW; (try dsimp only at hW); go_split_ands; go_simp; (try with_reducible rfl))); (case' rt56 => simp only [Act.put, List.setIfInBounds_toArray, List.set_cons_zero, List.set_cons_succ]))
        (refine held_skip (i := 14) (oi := ?ot57) ?at57 (by kernel_rfl) (by kernel_rfl) (by kernel_rfl) ?bt57 ?ct57 (by assumption) ?rt57; (case at57 => (simp only [List.getElem?_toArray, List.getElem?_cons_zero, List.getElem?_cons_succ]; rfl)); (case bt57 => exact fun _ _ _ h => h); (case ct57 => kernel_rfl); (case' rt57 => simp only [Act.put, List.setIfInBounds_toArray, List.set_cons_zero, List.set_cons_succ]))
        (refine held_skip (i := 15) (oi := ?ot58) ?at58 (by kernel_rfl) (by kernel_rfl) (by kernel_rfl) ?bt58 ?ct58 (by assumption) ?rt58; (case at58 => (simp only [List.getElem?_toArray, List.getElem?_cons_zero, List.getElem?_cons_succ]; rfl)); (case bt58 => exact fun _ _ _ h => h); (case ct58 => kernel_rfl); (case' rt58 => simp only [Act.put, List.setIfInBounds_toArray, List.set_cons_zero, List.set_cons_succ]))
        (refine held_skip (i := 16) (oi := ?ot59) ?at59 (by kernel_rfl) (by kernel_rfl) (by kernel_rfl) ?bt59 ?ct59 (by assumption) ?rt59; (case at59 => (simp only [List.getElem?_toArray, List.getElem?_cons_zero, List.getElem?_cons_succ]; rfl)); (case bt59 => exact fun _ _ _ h => h); (case ct59 => kernel_rfl); (case' rt59 => simp only [Act.put, List.setIfInBounds_toArray, List.set_cons_zero, List.set_cons_succ]))
        (refine held_skip (i := 17) (oi := ?ot60) ?at60 (by kernel_rfl) (by kernel_rfl) (by kernel_rfl) ?bt60 ?ct60 (by assumption) ?rt60; (case at60 => (simp only [List.getElem?_toArray, List.getElem?_cons_zero, List.getElem?_cons_succ]; rfl)); (case bt60 => exact fun _ _ _ h => h); (case ct60 => kernel_rfl); (case' rt60 => simp only [Act.put, List.setIfInBounds_toArray, List.set_cons_zero, List.set_cons_succ]))
        (refine held_skip (i := 18) (oi := ?ot61) ?at61 (by kernel_rfl) (by kernel_rfl) (by kernel_rfl) ?bt61 ?ct61 (by assumption) ?rt61; (case at61 => (simp only [List.getElem?_toArray, List.getElem?_cons_zero, List.getElem?_cons_succ]; rfl)); (case bt61 => exact fun _ _ _ h => h); (case ct61 => kernel_rfl); (case' rt61 => simp only [Act.put, List.setIfInBounds_toArray, List.set_cons_zero, List.set_cons_succ]))
        (refine held_take (i := 19) (oi := ?ot62) (v := ?vt62) ?at62 (by kernel_rfl) (by kernel_rfl) (by kernel_rfl) ?bt62 ?ct62 ?dt62 (by assumption) ?rt62; (case at62 => (simp only [List.getElem?_toArray, List.getElem?_cons_zero, List.getElem?_cons_succ]; rfl)); (case bt62 => exact fun _ _ _ h => h); (case ct62 => kernel_rfl); (case dt62 => (intro W hW; (try dsimp only at hW); go_split_ands; go_simp; (try with_reducible rfl))); (case' rt62 => simp only [Act.put, List.setIfInBounds_toArray, List.set_cons_zero, List.set_cons_succ]))
        (refine held_take (i := 20) (oi := ?ot63) (v := ?vt63) ?at63 (by kernel_rfl) (by kernel_rfl) (by kernel_rfl) ?bt63 ?ct63 ?dt63 (by assumption) ?rt63; (case at63 => (simp only [List.getElem?_toArray, List.getElem?_cons_zero, List.getElem?_cons_succ]; rfl)); (case bt63 => exact fun _ _ _ h => h); (case ct63 => kernel_rfl); (case dt63 => (intro W hW; (try dsimp only at hW); go_split_ands; go_simp; (try with_reducible rfl))); (case' rt63 => simp only [Act.put, List.setIfInBounds_toArray, List.set_cons_zero, List.set_cons_succ]))
        refine wpAnyH_done (by kernel_rfl) ?_ _
        go_wp2
        go_ret
        exact ⟨rfl, hS10.1⟩
    · rw [show overlap (a, b) (c, d) = false from by first | (rw [E.out]; simp [h1, h2]) | (rw [E.out]; simp [h1]) | simp [overlap, h, k] | simp [overlap, h]]
      go_enter Try.func76, Try.ntmps76
      go_wp2
      refine wp_region_held_drew (S := fun W => Below w.heap.size w W ∧ W.cell? ⟨w.heap.size, 0, none⟩ = some (.int .u64 (a : Int)) ∧ W.cell? ⟨w.heap.size, 1, none⟩ = some (.int .u64 (b : Int)) ∧ W.cell? ⟨w.heap.size + 1, 0, none⟩ = some (.int .u64 (c : Int)) ∧ W.cell? ⟨w.heap.size + 1, 1, none⟩ = some (.int .u64 (d : Int))) (by kernel_rfl) (keep4_start w a b c d _ rfl) (fun hS => ?_)
      (refine held_take (i := 0) (oi := ?ot64) (v := ?vt64) ?at64 (by kernel_rfl) (by kernel_rfl) (by kernel_rfl) ?bt64 ?ct64 ?dt64 (by assumption) ?rt64; (case at64 => (simp only [List.getElem?_toArray, List.getElem?_cons_zero]; rfl)); (case bt64 => exact fun _ _ _ h => h); (case ct64 => kernel_rfl); (case dt64 => (intro W hW; (try dsimp only at hW); go_split_ands; go_simp; (try with_reducible rfl))); (case' rt64 => simp only [Act.put, List.setIfInBounds_toArray, List.set_cons_zero, List.set_cons_succ]))
      refine held_one (i := 1) (oi := ?ot65) (by kernel_rfl) ?at65 ?ct65 (fun K1 hK1 => ?_)
      (case at65 => (simp only [List.getElem?_toArray, List.getElem?_cons_zero, List.getElem?_cons_succ]; rfl))
      (case ct65 => kernel_rfl)
      go_simp
      refine (good_bel a b Hx.out _).mono ?_
      rintro e w1 ⟨rfl, hd⟩
      refine hK1 _ _ (keep4 hd hS) (fun hS1 => ?_)
      clear hS hd hK1 K1
      (refine held_take (i := 2) (oi := ?ot66) (v := ?vt66) ?at66 (by kernel_rfl) (by kernel_rfl) (by kernel_rfl) ?bt66 ?ct66 ?dt66 (by assumption) ?rt66; (case at66 => (simp only [List.getElem?_toArray, List.getElem?_cons_zero, List.getElem?_cons_succ]; rfl)); (case bt66 => exact fun _ _ _ h => h); (case ct66 => kernel_rfl); (case dt66 => (intro W hW; (try dsimp only at hW); go_split_ands; go_simp; (try with_reducible rfl))); (case' rt66 => simp only [Act.put, List.setIfInBounds_toArray, List.set_cons_zero, List.set_cons_succ]))
      (refine held_take (i := 3) (oi := ?ot67) (v := ?vt67) ?at67 (by kernel_rfl) (by kernel_rfl) (by kernel_rfl) ?bt67 ?ct67 ?dt67 (by assumption) ?rt67; (case at67 => (simp only [List.getElem?_toArray, List.getElem?_cons_zero, List.getElem?_cons_succ]; rfl)); (case bt67 => exact fun _ _ _ h => h); (case ct67 => kernel_rfl); (case dt67 => (intro W hW; (try dsimp only at hW); go_split_ands; go_simp; (try with_reducible rfl))); (case' rt67 => simp only [Act.put, List.setIfInBounds_toArray, List.set_cons_zero, List.set_cons_succ]))
      refine held_one (i := 4) (oi := ?ot68) (by kernel_rfl) ?at68 ?ct68 (fun K4 hK4 => ?_)
      (case at68 => (simp only [List.getElem?_toArray, List.getElem?_cons_zero, List.getElem?_cons_succ]; rfl))
      (case ct68 => kernel_rfl)
      go_simp
      refine (good_bel c d Hy.out _).mono ?_
      rintro e w1 ⟨rfl, hd⟩
      refine hK4 _ _ (keep4 hd hS1) (fun hS4 => ?_)
      clear hS1 hd hK4 K4
      (refine held_take (i := 5) (oi := ?ot69) (v := ?vt69) ?at69 (by kernel_rfl) (by kernel_rfl) (by kernel_rfl) ?bt69 ?ct69 ?dt69 (by assumption) ?rt69; (case at69 => (simp only [List.getElem?_toArray, List.getElem?_cons_zero, List.getElem?_cons_succ]; rfl)); (case bt69 => exact fun _ _ _ h => h); (case ct69 => kernel_rfl); (case dt69 => (intro W hW; (try dsimp only at hW); go_split_ands; go_simp; (try with_reducible rfl))); (case' rt69 => simp only [Act.put, List.setIfInBounds_toArray, List.set_cons_zero, List.set_cons_succ]))
      (refine held_take (i := 6) (oi := ?ot70) (v := ?vt70) ?at70 (by kernel_rfl) (by kernel_rfl) (by kernel_rfl) ?bt70 ?ct70 ?dt70 (by assumption) ?rt70; (case at70 => (simp only [List.getElem?_toArray, List.getElem?_cons_zero, List.getElem?_cons_succ]; rfl)); (case bt70 => exact fun _ _ _ h => h); (case ct70 => kernel_rfl); (case dt70 => (intro W hW; (try dsimp only at hW); go_split_ands; go_simp; (try with_reducible rfl))); (case' rt70 => simp only [Act.put, List.setIfInBounds_toArray, List.set_cons_zero, List.set_cons_succ]))
      (refine held_skip (i := 7) (oi := ?ot71) ?at71 (by kernel_rfl) (by kernel_rfl) (by kernel_rfl) ?bt71 ?ct71 (by assumption) ?rt71; (case at71 => (simp only [List.getElem?_toArray, List.getElem?_cons_zero, List.getElem?_cons_succ]; rfl)); (case bt71 => exact fun _ _ _ h => h); (case ct71 => kernel_rfl); (case' rt71 => simp only [Act.put, List.setIfInBounds_toArray, List.set_cons_zero, List.set_cons_succ]))
      (refine held_skip (i := 8) (oi := ?ot72) ?at72 (by kernel_rfl) (by kernel_rfl) (by kernel_rfl) ?bt72 ?ct72 (by assumption) ?rt72; (case at72 => (simp only [List.getElem?_toArray, List.getElem?_cons_zero, List.getElem?_cons_succ]; rfl)); (case bt72 => exact fun _ _ _ h => h); (case ct72 => kernel_rfl); (case' rt72 => simp only [Act.put, List.setIfInBounds_toArray, List.set_cons_zero, List.set_cons_succ]))
      (refine held_skip (i := 9) (oi := ?ot73) ?at73 (by kernel_rfl) (by kernel_rfl) (by kernel_rfl) ?bt73 ?ct73 (by assumption) ?rt73; (case at73 => (simp only [List.getElem?_toArray, List.getElem?_cons_zero, List.getElem?_cons_succ]; rfl)); (case bt73 => exact fun _ _ _ h => h); (case ct73 => kernel_rfl); (case' rt73 => simp only [Act.put, List.setIfInBounds_toArray, List.set_cons_zero, List.set_cons_succ]))
      (refine held_skip (i := 10) (oi := ?ot74) ?at74 (by kernel_rfl) (by kernel_rfl) (by kernel_rfl) ?bt74 ?ct74 (by assumption) ?rt74; (case at74 => (simp only [List.getElem?_toArray, List.getElem?_cons_zero, List.getElem?_cons_succ]; rfl)); (case bt74 => exact fun _ _ _ h => h); (case ct74 => kernel_rfl); (case' rt74 => simp only [Act.put, List.setIfInBounds_toArray, List.set_cons_zero, List.set_cons_succ]))
      (refine held_skip (i := 11) (oi := ?ot75) ?at75 (by kernel_rfl) (by kernel_rfl) (by kernel_rfl) ?bt75 ?ct75 (by assumption) ?rt75; (case at75 => (simp only [List.getElem?_toArray, List.getElem?_cons_zero, List.getElem?_cons_succ]; rfl)); (case bt75 => exact fun _ _ _ h => h); (case ct75 => kernel_rfl); (case' rt75 => simp only [Act.put, List.setIfInBounds_toArray, List.set_cons_zero, List.set_cons_succ]))
      (refine held_take (i := 12) (oi := ?ot76) (v := ?vt76) ?at76 (by kernel_rfl) (by kernel_rfl) (by kernel_rfl) ?bt76 ?ct76 ?dt76 (by assumption) ?rt76; (case at76 => (simp only [List.getElem?_toArray, List.getElem?_cons_zero, List.getElem?_cons_succ]; rfl)); (case bt76 => exact fun _ _ _ h => h); (case ct76 => kernel_rfl); (case dt76 => (intro W hW; (try dsimp only at hW); go_split_ands; go_simp; (try with_reducible rfl))); (case' rt76 => simp only [Act.put, List.setIfInBounds_toArray, List.set_cons_zero, List.set_cons_succ]))
      (refine held_take (i := 13) (oi := ?ot77) (v := ?vt77) ?at77 (by kernel_rfl) (by kernel_rfl) (by kernel_rfl) ?bt77 ?ct77 ?dt77 (by assumption) ?rt77; (case at77 => (simp only [List.getElem?_toArray, List.getElem?_cons_zero, List.getElem?_cons_succ]; rfl)); (case bt77 => exact fun _ _ _ h => h); (case ct77 => kernel_rfl); (case dt77 => (intro W hW; (try dsimp only at hW); go_split_ands; go_simp; (try with_reducible rfl))); (case' rt77 => simp only [Act.put, List.setIfInBounds_toArray, List.set_cons_zero, List.set_cons_succ]))
      (refine held_skip (i := 14) (oi := ?ot78) ?at78 (by kernel_rfl) (by kernel_rfl) (by kernel_rfl) ?bt78 ?ct78 (by assumption) ?rt78; (case at78 => (simp only [List.getElem?_toArray, List.getElem?_cons_zero, List.getElem?_cons_succ]; rfl)); (case bt78 => exact fun _ _ _ h => h); (case ct78 => kernel_rfl); (case' rt78 => simp only [Act.put, List.setIfInBounds_toArray, List.set_cons_zero, List.set_cons_succ]))
      (refine held_skip (i := 15) (oi := ?ot79) ?at79 (by kernel_rfl) (by kernel_rfl) (by kernel_rfl) ?bt79 ?ct79 (by assumption) ?rt79; (case at79 => (simp only [List.getElem?_toArray, List.getElem?_cons_zero, List.getElem?_cons_succ]; rfl)); (case bt79 => exact fun _ _ _ h => h); (case ct79 => kernel_rfl); (case' rt79 => simp only [Act.put, List.setIfInBounds_toArray, List.set_cons_zero, List.set_cons_succ]))
      (refine held_skip (i := 16) (oi := ?ot80) ?at80 (by kernel_rfl) (by kernel_rfl) (by kernel_rfl) ?bt80 ?ct80 (by assumption) ?rt80; (case at80 => (simp only [List.getElem?_toArray, List.getElem?_cons_zero, List.getElem?_cons_succ]; rfl)); (case bt80 => exact fun _ _ _ h => h); (case ct80 => kernel_rfl); (case' rt80 => simp only [Act.put, List.setIfInBounds_toArray, List.set_cons_zero, List.set_cons_succ]))
      (refine held_skip (i := 17) (oi := ?ot81) ?at81 (by kernel_rfl) (by kernel_rfl) (by kernel_rfl) ?bt81 ?ct81 (by assumption) ?rt81; (case at81 => (simp only [List.getElem?_toArray, List.getElem?_cons_zero, List.getElem?_cons_succ]; rfl)); (case bt81 => exact fun _ _ _ h => h); (case ct81 => kernel_rfl); (case' rt81 => simp only [Act.put, List.setIfInBounds_toArray, List.set_cons_zero, List.set_cons_succ]))
      (refine held_skip (i := 18) (oi := ?ot82) ?at82 (by kernel_rfl) (by kernel_rfl) (by kernel_rfl) ?bt82 ?ct82 (by assumption) ?rt82; (case at82 => (simp only [List.getElem?_toArray, List.getElem?_cons_zero, List.getElem?_cons_succ]; rfl)); (case bt82 => exact fun _ _ _ h => h); (case ct82 => kernel_rfl); (case' rt82 => simp only [Act.put, List.setIfInBounds_toArray, List.set_cons_zero, List.set_cons_succ]))
      (refine held_take (i := 19) (oi := ?ot83) (v := ?vt83) ?at83 (by kernel_rfl) (by kernel_rfl) (by kernel_rfl) ?bt83 ?ct83 ?dt83 (by assumption) ?rt83; (case at83 => (simp only [List.getElem?_toArray, List.getElem?_cons_zero, List.getElem?_cons_succ]; rfl)); (case bt83 => exact fun _ _ _ h => h); (case ct83 => kernel_rfl); (case dt83 => (intro W hW; (try dsimp only at hW); go_split_ands; go_simp; (try with_reducible rfl))); (case' rt83 => simp only [Act.put, List.setIfInBounds_toArray, List.set_cons_zero, List.set_cons_succ]))
      (refine held_take (i := 20) (oi := ?ot84) (v := ?vt84) ?at84 (by kernel_rfl) (by kernel_rfl) (by kernel_rfl) ?bt84 ?ct84 ?dt84 (by assumption) ?rt84; (case at84 => (simp only [List.getElem?_toArray, List.getElem?_cons_zero, List.getElem?_cons_succ]; rfl)); (case bt84 => exact fun _ _ _ h => h); (case ct84 => kernel_rfl); (case dt84 => (intro W hW; (try dsimp only at hW); go_split_ands; go_simp; (try with_reducible rfl))); (case' rt84 => simp only [Act.put, List.setIfInBounds_toArray, List.set_cons_zero, List.set_cons_succ]))
      refine wpAnyH_done (by kernel_rfl) ?_ _
      go_wp2
      go_ret
      exact ⟨rfl, hS4.1⟩
  · rw [show overlap (a, b) (c, d) = false from by first | (rw [E.out]; simp [h1, h2]) | (rw [E.out]; simp [h1]) | simp [overlap, h, k] | simp [overlap, h]]
    go_enter Try.func76, Try.ntmps76
    go_wp2
    refine wp_region_held_drew (S := fun W => Below w.heap.size w W ∧ W.cell? ⟨w.heap.size, 0, none⟩ = some (.int .u64 (a : Int)) ∧ W.cell? ⟨w.heap.size, 1, none⟩ = some (.int .u64 (b : Int)) ∧ W.cell? ⟨w.heap.size + 1, 0, none⟩ = some (.int .u64 (c : Int)) ∧ W.cell? ⟨w.heap.size + 1, 1, none⟩ = some (.int .u64 (d : Int))) (by kernel_rfl) (keep4_start w a b c d _ rfl) (fun hS => ?_)
    (refine held_take (i := 0) (oi := ?ot85) (v := ?vt85) ?at85 (by kernel_rfl) (by kernel_rfl) (by kernel_rfl) ?bt85 ?ct85 ?dt85 (by assumption) ?rt85; (case at85 => (simp only [List.getElem?_toArray, List.getElem?_cons_zero]; rfl)); (case bt85 => exact fun _ _ _ h => h); (case ct85 => kernel_rfl); (case dt85 => (intro W hW; (try dsimp only at hW); go_split_ands; go_simp; (try with_reducible rfl))); (case' rt85 => simp only [Act.put, List.setIfInBounds_toArray, List.set_cons_zero, List.set_cons_succ]))
    refine held_one (i := 1) (oi := ?ot86) (by kernel_rfl) ?at86 ?ct86 (fun K1 hK1 => ?_)
    (case at86 => (simp only [List.getElem?_toArray, List.getElem?_cons_zero, List.getElem?_cons_succ]; rfl))
    (case ct86 => kernel_rfl)
    go_simp
    refine (good_bel a b Hx.out _).mono ?_
    rintro e w1 ⟨rfl, hd⟩
    refine hK1 _ _ (keep4 hd hS) (fun hS1 => ?_)
    clear hS hd hK1 K1
    (refine held_take (i := 2) (oi := ?ot87) (v := ?vt87) ?at87 (by kernel_rfl) (by kernel_rfl) (by kernel_rfl) ?bt87 ?ct87 ?dt87 (by assumption) ?rt87; (case at87 => (simp only [List.getElem?_toArray, List.getElem?_cons_zero, List.getElem?_cons_succ]; rfl)); (case bt87 => exact fun _ _ _ h => h); (case ct87 => kernel_rfl); (case dt87 => (intro W hW; (try dsimp only at hW); go_split_ands; go_simp; (try with_reducible rfl))); (case' rt87 => simp only [Act.put, List.setIfInBounds_toArray, List.set_cons_zero, List.set_cons_succ]))
    (refine held_skip (i := 3) (oi := ?ot88) ?at88 (by kernel_rfl) (by kernel_rfl) (by kernel_rfl) ?bt88 ?ct88 (by assumption) ?rt88; (case at88 => (simp only [List.getElem?_toArray, List.getElem?_cons_zero, List.getElem?_cons_succ]; rfl)); (case bt88 => exact fun _ _ _ h => h); (case ct88 => kernel_rfl); (case' rt88 => simp only [Act.put, List.setIfInBounds_toArray, List.set_cons_zero, List.set_cons_succ]))
    (refine held_skip (i := 4) (oi := ?ot89) ?at89 (by kernel_rfl) (by kernel_rfl) (by kernel_rfl) ?bt89 ?ct89 (by assumption) ?rt89; (case at89 => (simp only [List.getElem?_toArray, List.getElem?_cons_zero, List.getElem?_cons_succ]; rfl)); (case bt89 => exact fun _ _ _ h => h); (case ct89 => kernel_rfl); (case' rt89 => simp only [Act.put, List.setIfInBounds_toArray, List.set_cons_zero, List.set_cons_succ]))
    (refine held_take (i := 5) (oi := ?ot90) (v := ?vt90) ?at90 (by kernel_rfl) (by kernel_rfl) (by kernel_rfl) ?bt90 ?ct90 ?dt90 (by assumption) ?rt90; (case at90 => (simp only [List.getElem?_toArray, List.getElem?_cons_zero, List.getElem?_cons_succ]; rfl)); (case bt90 => exact fun _ _ _ h => h); (case ct90 => kernel_rfl); (case dt90 => (intro W hW; (try dsimp only at hW); go_split_ands; go_simp; (try with_reducible rfl))); (case' rt90 => simp only [Act.put, List.setIfInBounds_toArray, List.set_cons_zero, List.set_cons_succ]))
    (refine held_take (i := 6) (oi := ?ot91) (v := ?vt91) ?at91 (by kernel_rfl) (by kernel_rfl) (by kernel_rfl) ?bt91 ?ct91 ?dt91 (by assumption) ?rt91; (case at91 => (simp only [List.getElem?_toArray, List.getElem?_cons_zero, List.getElem?_cons_succ]; rfl)); (case bt91 => exact fun _ _ _ h => h); (case ct91 => kernel_rfl); (case dt91 => (intro W hW; (try dsimp only at hW); go_split_ands; go_simp; (try with_reducible rfl))); (case' rt91 => simp only [Act.put, List.setIfInBounds_toArray, List.set_cons_zero, List.set_cons_succ]))
    (refine held_skip (i := 7) (oi := ?ot92) ?at92 (by kernel_rfl) (by kernel_rfl) (by kernel_rfl) ?bt92 ?ct92 (by assumption) ?rt92; (case at92 => (simp only [List.getElem?_toArray, List.getElem?_cons_zero, List.getElem?_cons_succ]; rfl)); (case bt92 => exact fun _ _ _ h => h); (case ct92 => kernel_rfl); (case' rt92 => simp only [Act.put, List.setIfInBounds_toArray, List.set_cons_zero, List.set_cons_succ]))
    (refine held_skip (i := 8) (oi := ?ot93) ?at93 (by kernel_rfl) (by kernel_rfl) (by kernel_rfl) ?bt93 ?ct93 (by assumption) ?rt93; (case at93 => (simp only [List.getElem?_toArray, List.getElem?_cons_zero, List.getElem?_cons_succ]; rfl)); (case bt93 => exact fun _ _ _ h => h); (case ct93 => kernel_rfl); (case' rt93 => simp only [Act.put, List.setIfInBounds_toArray, List.set_cons_zero, List.set_cons_succ]))
    (refine held_skip (i := 9) (oi := ?ot94) ?at94 (by kernel_rfl) (by kernel_rfl) (by kernel_rfl) ?bt94 ?ct94 (by assumption) ?rt94; (case at94 => (simp only [List.getElem?_toArray, List.getElem?_cons_zero, List.getElem?_cons_succ]; rfl)); (case bt94 => exact fun _ _ _ h => h); (case ct94 => kernel_rfl); (case' rt94 => simp only [Act.put, List.setIfInBounds_toArray, List.set_cons_zero, List.set_cons_succ]))
    (refine held_skip (i := 10) (oi := ?ot95) ?at95 (by kernel_rfl) (by kernel_rfl) (by kernel_rfl) ?bt95 ?ct95 (by assumption) ?rt95; (case at95 => (simp only [List.getElem?_toArray, List.getElem?_cons_zero, List.getElem?_cons_succ]; rfl)); (case bt95 => exact fun _ _ _ h => h); (case ct95 => kernel_rfl); (case' rt95 => simp only [Act.put, List.setIfInBounds_toArray, List.set_cons_zero, List.set_cons_succ]))
    (refine held_skip (i := 11) (oi := ?ot96) ?at96 (by kernel_rfl) (by kernel_rfl) (by kernel_rfl) ?bt96 ?ct96 (by assumption) ?rt96; (case at96 => (simp only [List.getElem?_toArray, List.getElem?_cons_zero, List.getElem?_cons_succ]; rfl)); (case bt96 => exact fun _ _ _ h => h); (case ct96 => kernel_rfl); (case' rt96 => simp only [Act.put, List.setIfInBounds_toArray, List.set_cons_zero, List.set_cons_succ]))
    (refine held_take (i := 12) (oi := ?ot97) (v := ?vt97) ?at97 (by kernel_rfl) (by kernel_rfl) (by kernel_rfl) ?bt97 ?ct97 ?dt97 (by assumption) ?rt97; (case at97 => (simp only [List.getElem?_toArray, List.getElem?_cons_zero, List.getElem?_cons_succ]; rfl)); (case bt97 => exact fun _ _ _ h => h); (case ct97 => kernel_rfl); (case dt97 => (intro W hW; (try dsimp only at hW); go_split_ands; go_simp; (try with_reducible rfl))); (case' rt97 => simp only [Act.put, List.setIfInBounds_toArray, List.set_cons_zero, List.set_cons_succ]))
    (refine held_take (i := 13) (oi := ?ot98) (v := ?vt98) ?at98 (by kernel_rfl) (by kernel_rfl) (by kernel_rfl) ?bt98 ?ct98 ?dt98 (by assumption) ?rt98; (case at98 => (simp only [List.getElem?_toArray, List.getElem?_cons_zero, List.getElem?_cons_succ]; rfl)); (case bt98 => exact fun _ _ _ h => h); (case ct98 => kernel_rfl); (case dt98 => (intro W hW; (try dsimp only at hW); go_split_ands; go_simp; (try with_reducible rfl))); (case' rt98 => simp only [Act.put, List.setIfInBounds_toArray, List.set_cons_zero, List.set_cons_succ]))
    (refine held_skip (i := 14) (oi := ?ot99) ?at99 (by kernel_rfl) (by kernel_rfl) (by kernel_rfl) ?bt99 ?ct99 (by assumption) ?rt99; (case at99 => (simp only [List.getElem?_toArray, List.getElem?_cons_zero, List.getElem?_cons_succ]; rfl)); (case bt99 => exact fun _ _ _ h => h); (case ct99 => kernel_rfl); (case' rt99 => simp only [Act.put, List.setIfInBounds_toArray, List.set_cons_zero, List.set_cons_succ]))
    (refine held_skip (i := 15) (oi := ?ot100) ?at100 (by kernel_rfl) (by kernel_rfl) (by kernel_rfl) ?bt100 ?ct100 (by assumption) ?rt100; (case at100 => (simp only [List.getElem?_toArray, List.getElem?_cons_zero, List.getElem?_cons_succ]; rfl)); (case bt100 => exact fun _ _ _ h => h); (case ct100 => kernel_rfl); (case' rt100 => simp only [Act.put, List.setIfInBounds_toArray, List.set_cons_zero, List.set_cons_succ]))
    (refine held_skip (i := 16) (oi := ?ot101) ?at101 (by kernel_rfl) (by kernel_rfl) (by kernel_rfl) ?bt101 ?ct101 (by assumption) ?rt101; (case at101 => (simp only [List.getElem?_toArray, List.getElem?_cons_zero, List.getElem?_cons_succ]; rfl)); (case bt101 => exact fun _ _ _ h => h); (case ct101 => kernel_rfl); (case' rt101 => simp only [Act.put, List.setIfInBounds_toArray, List.set_cons_zero, List.set_cons_succ]))
    (refine held_skip (i := 17) (oi := ?ot102) ?at102 (by kernel_rfl) (by kernel_rfl) (by kernel_rfl) ?bt102 ?ct102 (by assumption) ?rt102; (case at102 => (simp only [List.getElem?_toArray, List.getElem?_cons_zero, List.getElem?_cons_succ]; rfl)); (case bt102 => exact fun _ _ _ h => h); (case ct102 => kernel_rfl); (case' rt102 => simp only [Act.put, List.setIfInBounds_toArray, List.set_cons_zero, List.set_cons_succ]))
    (refine held_skip (i := 18) (oi := ?ot103) ?at103 (by kernel_rfl) (by kernel_rfl) (by kernel_rfl) ?bt103 ?ct103 (by assumption) ?rt103; (case at103 => (simp only [List.getElem?_toArray, List.getElem?_cons_zero, List.getElem?_cons_succ]; rfl)); (case bt103 => exact fun _ _ _ h => h); (case ct103 => kernel_rfl); (case' rt103 => simp only [Act.put, List.setIfInBounds_toArray, List.set_cons_zero, List.set_cons_succ]))
    (refine held_take (i := 19) (oi := ?ot104) (v := ?vt104) ?at104 (by kernel_rfl) (by kernel_rfl) (by kernel_rfl) ?bt104 ?ct104 ?dt104 (by assumption) ?rt104; (case at104 => (simp only [List.getElem?_toArray, List.getElem?_cons_zero, List.getElem?_cons_succ]; rfl)); (case bt104 => exact fun _ _ _ h => h); (case ct104 => kernel_rfl); (case dt104 => (intro W hW; (try dsimp only at hW); go_split_ands; go_simp; (try with_reducible rfl))); (case' rt104 => simp only [Act.put, List.setIfInBounds_toArray, List.set_cons_zero, List.set_cons_succ]))
    (refine held_take (i := 20) (oi := ?ot105) (v := ?vt105) ?at105 (by kernel_rfl) (by kernel_rfl) (by kernel_rfl) ?bt105 ?ct105 ?dt105 (by assumption) ?rt105; (case at105 => (simp only [List.getElem?_toArray, List.getElem?_cons_zero, List.getElem?_cons_succ]; rfl)); (case bt105 => exact fun _ _ _ h => h); (case ct105 => kernel_rfl); (case dt105 => (intro W hW; (try dsimp only at hW); go_split_ands; go_simp; (try with_reducible rfl))); (case' rt105 => simp only [Act.put, List.setIfInBounds_toArray, List.set_cons_zero, List.set_cons_succ]))
    refine wpAnyH_done (by kernel_rfl) ?_ _
    go_wp2
    go_ret
    exact ⟨rfl, hS1.1⟩
end Go.Proofs.Ytbemphfijkcbhaa
/- Within: the program's. -/
namespace Go.Proofs.Ytbemphfijkcbhaa
open Go.RowKit

theorem has_bel (a b p : Nat) (hx : fit (a, b)) (w : World) :
    Calls Try.prog 60 #[.agg #[.int .u64 (a : Int), .int .u64 (b : Int)], .int .u64 (p : Int)] w fun e w' => e = .returned (.bool (has (a, b) p)) ∧ Below w.heap.size w w' := has_any a b p hx w
theorem within_eq (a b c d : Nat) (h : good (a, b) = true) : within (a, b) (c, d) = (has (c, d) a && has (c, d) (last (a, b))) := by
  have hl := last_good h
  have hg := (good_iff _).1 h
  simp only at hl hg
  rw [Bool.eq_iff_iff]
  simp only [within, has, h, Bool.true_and, Bool.and_eq_true, decide_eq_true_eq]
  constructor
  · rintro ⟨h1, h2, h3⟩; exact ⟨⟨h1, by omega, by omega⟩, h1, by omega, by omega⟩
  · rintro ⟨⟨h1, h2, h3⟩, h4, h5, h6⟩; exact ⟨h1, by omega, by omega⟩
set_option maxHeartbeats 1000000 in
theorem within_any (a b c d : Nat) (hx : fit (a, b)) (hy : fit (c, d)) (w : World) :
    Calls Try.prog 35 #[.agg #[.int .u64 (a : Int), .int .u64 (b : Int)], .agg #[.int .u64 (c : Int), .int .u64 (d : Int)]] w fun e w' => e = .returned (.bool (within (a, b) (c, d))) ∧ Below w.heap.size w w' := by
  have Hx := Lib.hid hx
  have Hy := Lib.hid hy
  by_cases h : good (a, b) = true
  · rw [within_eq a b c d h]
    by_cases h1 : has (c, d) a = true
    · rw [h1, Bool.true_and]
      go_enter Try.func35, Try.ntmps35
      go_wp2
      refine wp_region_held_drew (S := fun W => Below w.heap.size w W ∧ W.cell? ⟨w.heap.size, 0, none⟩ = some (.int .u64 (a : Int)) ∧ W.cell? ⟨w.heap.size, 1, none⟩ = some (.int .u64 (b : Int)) ∧ W.cell? ⟨w.heap.size + 1, 0, none⟩ = some (.int .u64 (c : Int)) ∧ W.cell? ⟨w.heap.size + 1, 1, none⟩ = some (.int .u64 (d : Int))) (by kernel_rfl) (keep4_start w a b c d _ rfl) (fun hS => ?_)
      (refine held_take (i := 0) (oi := ?ot316) (v := ?vt316) ?at316 (by kernel_rfl) (by kernel_rfl) (by kernel_rfl) ?bt316 ?ct316 ?dt316 (by assumption) ?rt316; (case at316 => (simp only [List.getElem?_toArray, List.getElem?_cons_zero]; rfl)); (case bt316 => exact fun _ _ _ h => h); (case ct316 => kernel_rfl); (case dt316 => (intro W hW; (try dsimp only at hW); go_split_ands; go_simp; (try with_reducible rfl))); (case' rt316 => simp only [Act.put, List.setIfInBounds_toArray, List.set_cons_zero, List.set_cons_succ]))
      refine held_one (i := 1) (oi := ?ot317) (by kernel_rfl) ?at317 ?ct317 (fun K1 hK1 => ?_)
      (case at317 => (simp only [List.getElem?_toArray, List.getElem?_cons_zero, List.getElem?_cons_succ]; rfl))
      (case ct317 => kernel_rfl)
      go_simp
      refine (good_bel a b Hx.out _).mono ?_
      rintro e w1 ⟨rfl, hd⟩
      refine hK1 _ _ (keep4 hd hS) (fun hS1 => ?_)
      clear hS hd hK1 K1
      (refine held_take (i := 2) (oi := ?ot318) (v := ?vt318) ?at318 (by kernel_rfl) (by kernel_rfl) (by kernel_rfl) ?bt318 ?ct318 ?dt318 (by assumption) ?rt318; (case at318 => (simp only [List.getElem?_toArray, List.getElem?_cons_zero, List.getElem?_cons_succ]; rfl)); (case bt318 => exact fun _ _ _ h => h); (case ct318 => kernel_rfl); (case dt318 => (intro W hW; (try dsimp only at hW); go_split_ands; go_simp; (try with_reducible rfl))); (case' rt318 => simp only [Act.put, List.setIfInBounds_toArray, List.set_cons_zero, List.set_cons_succ]))
      (refine held_take (i := 3) (oi := ?ot319) (v := ?vt319) ?at319 (by kernel_rfl) (by kernel_rfl) (by kernel_rfl) ?bt319 ?ct319 ?dt319 (by assumption) ?rt319; (case at319 => (simp only [List.getElem?_toArray, List.getElem?_cons_zero, List.getElem?_cons_succ]; rfl)); (case bt319 => exact fun _ _ _ h => h); (case ct319 => kernel_rfl); (case dt319 => (intro W hW; (try dsimp only at hW); go_split_ands; go_simp; (try with_reducible rfl))); (case' rt319 => simp only [Act.put, List.setIfInBounds_toArray, List.set_cons_zero, List.set_cons_succ]))
      (refine held_take (i := 4) (oi := ?ot320) (v := ?vt320) ?at320 (by kernel_rfl) (by kernel_rfl) (by kernel_rfl) ?bt320 ?ct320 ?dt320 (by assumption) ?rt320; (case at320 => (simp only [List.getElem?_toArray, List.getElem?_cons_zero, List.getElem?_cons_succ]; rfl)); (case bt320 => exact fun _ _ _ h => h); (case ct320 => kernel_rfl); (case dt320 => (intro W hW; (try dsimp only at hW); go_split_ands; go_simp; (try with_reducible rfl))); (case' rt320 => simp only [Act.put, List.setIfInBounds_toArray, List.set_cons_zero, List.set_cons_succ]))
      (refine held_take (i := 5) (oi := ?ot321) (v := ?vt321) ?at321 (by kernel_rfl) (by kernel_rfl) (by kernel_rfl) ?bt321 ?ct321 ?dt321 (by assumption) ?rt321; (case at321 => (simp only [List.getElem?_toArray, List.getElem?_cons_zero, List.getElem?_cons_succ]; rfl)); (case bt321 => exact fun _ _ _ h => h); (case ct321 => kernel_rfl); (case dt321 => (intro W hW; (try dsimp only at hW); go_split_ands; go_simp; (try with_reducible rfl))); (case' rt321 => simp only [Act.put, List.setIfInBounds_toArray, List.set_cons_zero, List.set_cons_succ]))
      refine held_one (i := 6) (oi := ?ot322) (by kernel_rfl) ?at322 ?ct322 (fun K6 hK6 => ?_)
      (case at322 => (simp only [List.getElem?_toArray, List.getElem?_cons_zero, List.getElem?_cons_succ]; rfl))
      (case ct322 => kernel_rfl)
      go_simp
      refine (has_bel c d a Hy.out _).mono ?_
      rintro e w1 ⟨rfl, hd⟩
      refine hK6 _ _ (keep4 hd hS1) (fun hS6 => ?_)
      clear hS1 hd hK6 K6
      (refine held_take (i := 7) (oi := ?ot323) (v := ?vt323) ?at323 (by kernel_rfl) (by kernel_rfl) (by kernel_rfl) ?bt323 ?ct323 ?dt323 (by assumption) ?rt323; (case at323 => (simp only [List.getElem?_toArray, List.getElem?_cons_zero, List.getElem?_cons_succ]; rfl)); (case bt323 => exact fun _ _ _ h => h); (case ct323 => kernel_rfl); (case dt323 => (intro W hW; (try dsimp only at hW); go_split_ands; go_simp; (try with_reducible rfl))); (case' rt323 => simp only [Act.put, List.setIfInBounds_toArray, List.set_cons_zero, List.set_cons_succ]))
      (refine held_take (i := 8) (oi := ?ot324) (v := ?vt324) ?at324 (by kernel_rfl) (by kernel_rfl) (by kernel_rfl) ?bt324 ?ct324 ?dt324 (by assumption) ?rt324; (case at324 => (simp only [List.getElem?_toArray, List.getElem?_cons_zero, List.getElem?_cons_succ]; rfl)); (case bt324 => exact fun _ _ _ h => h); (case ct324 => kernel_rfl); (case dt324 => (intro W hW; (try dsimp only at hW); go_split_ands; go_simp; (try with_reducible rfl))); (case' rt324 => simp only [Act.put, List.setIfInBounds_toArray, List.set_cons_zero, List.set_cons_succ]))
      (refine held_take (i := 9) (oi := ?ot325) (v := ?vt325) ?at325 (by kernel_rfl) (by kernel_rfl) (by kernel_rfl) ?bt325 ?ct325 ?dt325 (by assumption) ?rt325; (case at325 => (simp only [List.getElem?_toArray, List.getElem?_cons_zero, List.getElem?_cons_succ]; rfl)); (case bt325 => exact fun _ _ _ h => h); (case ct325 => kernel_rfl); (case dt325 => (intro W hW; (try dsimp only at hW); go_split_ands; go_simp; (try with_reducible rfl))); (case' rt325 => simp only [Act.put, List.setIfInBounds_toArray, List.set_cons_zero, List.set_cons_succ]))
      (refine held_take (i := 10) (oi := ?ot326) (v := ?vt326) ?at326 (by kernel_rfl) (by kernel_rfl) (by kernel_rfl) ?bt326 ?ct326 ?dt326 (by assumption) ?rt326; (case at326 => (simp only [List.getElem?_toArray, List.getElem?_cons_zero, List.getElem?_cons_succ]; rfl)); (case bt326 => exact fun _ _ _ h => h); (case ct326 => kernel_rfl); (case dt326 => (intro W hW; (try dsimp only at hW); go_split_ands; go_simp; (try with_reducible rfl))); (case' rt326 => simp only [Act.put, List.setIfInBounds_toArray, List.set_cons_zero, List.set_cons_succ]))
      refine held_one (i := 11) (oi := ?ot327) (by kernel_rfl) ?at327 ?ct327 (fun K11 hK11 => ?_)
      (case at327 => (simp only [List.getElem?_toArray, List.getElem?_cons_zero, List.getElem?_cons_succ]; rfl))
      (case ct327 => kernel_rfl)
      go_simp
      refine (last_bel a b Hx.out _).mono ?_
      rintro e w1 ⟨rfl, hd⟩
      refine hK11 _ _ (keep4 hd hS6) (fun hS11 => ?_)
      clear hS6 hd hK11 K11
      refine held_one (i := 12) (oi := ?ot328) (by kernel_rfl) ?at328 ?ct328 (fun K12 hK12 => ?_)
      (case at328 => (simp only [List.getElem?_toArray, List.getElem?_cons_zero, List.getElem?_cons_succ]; rfl))
      (case ct328 => kernel_rfl)
      go_simp
      refine (has_bel c d (last (a, b)) Hy.out _).mono ?_
      rintro e w1 ⟨rfl, hd⟩
      refine hK12 _ _ (keep4 hd hS11) (fun hS12 => ?_)
      clear hS11 hd hK12 K12
      (refine held_take (i := 13) (oi := ?ot329) (v := ?vt329) ?at329 (by kernel_rfl) (by kernel_rfl) (by kernel_rfl) ?bt329 ?ct329 ?dt329 (by assumption) ?rt329; (case at329 => (simp only [List.getElem?_toArray, List.getElem?_cons_zero, List.getElem?_cons_succ]; rfl)); (case bt329 => exact fun _ _ _ h => h); (case ct329 => kernel_rfl); (case dt329 => (intro W hW; (try dsimp only at hW); go_split_ands; go_simp; (try with_reducible rfl))); (case' rt329 => simp only [Act.put, List.setIfInBounds_toArray, List.set_cons_zero, List.set_cons_succ]))
      (refine held_take (i := 14) (oi := ?ot330) (v := ?vt330) ?at330 (by kernel_rfl) (by kernel_rfl) (by kernel_rfl) ?bt330 ?ct330 ?dt330 (by assumption) ?rt330; (case at330 => (simp only [List.getElem?_toArray, List.getElem?_cons_zero, List.getElem?_cons_succ]; rfl)); (case bt330 => exact fun _ _ _ h => h); (case ct330 => kernel_rfl); (case dt330 => (intro W hW; (try dsimp only at hW); go_split_ands; go_simp; (try with_reducible rfl))); (case' rt330 => simp only [Act.put, List.setIfInBounds_toArray, List.set_cons_zero, List.set_cons_succ]))
      refine wpAnyH_done (by kernel_rfl) ?_ _
      go_wp2
      go_ret
      exact ⟨rfl, hS12.1⟩
    · have h1' : has (c, d) a = false := by simpa using h1
      clear h1
      rw [h1', Bool.false_and]
      go_enter Try.func35, Try.ntmps35
      go_wp2
      refine wp_region_held_drew (S := fun W => Below w.heap.size w W ∧ W.cell? ⟨w.heap.size, 0, none⟩ = some (.int .u64 (a : Int)) ∧ W.cell? ⟨w.heap.size, 1, none⟩ = some (.int .u64 (b : Int)) ∧ W.cell? ⟨w.heap.size + 1, 0, none⟩ = some (.int .u64 (c : Int)) ∧ W.cell? ⟨w.heap.size + 1, 1, none⟩ = some (.int .u64 (d : Int))) (by kernel_rfl) (keep4_start w a b c d _ rfl) (fun hS => ?_)
      (refine held_take (i := 0) (oi := ?ot331) (v := ?vt331) ?at331 (by kernel_rfl) (by kernel_rfl) (by kernel_rfl) ?bt331 ?ct331 ?dt331 (by assumption) ?rt331; (case at331 => (simp only [List.getElem?_toArray, List.getElem?_cons_zero]; rfl)); (case bt331 => exact fun _ _ _ h => h); (case ct331 => kernel_rfl); (case dt331 => (intro W hW; (try dsimp only at hW); go_split_ands; go_simp; (try with_reducible rfl))); (case' rt331 => simp only [Act.put, List.setIfInBounds_toArray, List.set_cons_zero, List.set_cons_succ]))
      refine held_one (i := 1) (oi := ?ot332) (by kernel_rfl) ?at332 ?ct332 (fun K1 hK1 => ?_)
      (case at332 => (simp only [List.getElem?_toArray, List.getElem?_cons_zero, List.getElem?_cons_succ]; rfl))
      (case ct332 => kernel_rfl)
      go_simp
      refine (good_bel a b Hx.out _).mono ?_
      rintro e w1 ⟨rfl, hd⟩
      refine hK1 _ _ (keep4 hd hS) (fun hS1 => ?_)
      clear hS hd hK1 K1
      (refine held_take (i := 2) (oi := ?ot333) (v := ?vt333) ?at333 (by kernel_rfl) (by kernel_rfl) (by kernel_rfl) ?bt333 ?ct333 ?dt333 (by assumption) ?rt333; (case at333 => (simp only [List.getElem?_toArray, List.getElem?_cons_zero, List.getElem?_cons_succ]; rfl)); (case bt333 => exact fun _ _ _ h => h); (case ct333 => kernel_rfl); (case dt333 => (intro W hW; (try dsimp only at hW); go_split_ands; go_simp; (try with_reducible rfl))); (case' rt333 => simp only [Act.put, List.setIfInBounds_toArray, List.set_cons_zero, List.set_cons_succ]))
      (refine held_take (i := 3) (oi := ?ot334) (v := ?vt334) ?at334 (by kernel_rfl) (by kernel_rfl) (by kernel_rfl) ?bt334 ?ct334 ?dt334 (by assumption) ?rt334; (case at334 => (simp only [List.getElem?_toArray, List.getElem?_cons_zero, List.getElem?_cons_succ]; rfl)); (case bt334 => exact fun _ _ _ h => h); (case ct334 => kernel_rfl); (case dt334 => (intro W hW; (try dsimp only at hW); go_split_ands; go_simp; (try with_reducible rfl))); (case' rt334 => simp only [Act.put, List.setIfInBounds_toArray, List.set_cons_zero, List.set_cons_succ]))
      (refine held_take (i := 4) (oi := ?ot335) (v := ?vt335) ?at335 (by kernel_rfl) (by kernel_rfl) (by kernel_rfl) ?bt335 ?ct335 ?dt335 (by assumption) ?rt335; (case at335 => (simp only [List.getElem?_toArray, List.getElem?_cons_zero, List.getElem?_cons_succ]; rfl)); (case bt335 => exact fun _ _ _ h => h); (case ct335 => kernel_rfl); (case dt335 => (intro W hW; (try dsimp only at hW); go_split_ands; go_simp; (try with_reducible rfl))); (case' rt335 => simp only [Act.put, List.setIfInBounds_toArray, List.set_cons_zero, List.set_cons_succ]))
      (refine held_take (i := 5) (oi := ?ot336) (v := ?vt336) ?at336 (by kernel_rfl) (by kernel_rfl) (by kernel_rfl) ?bt336 ?ct336 ?dt336 (by assumption) ?rt336; (case at336 => (simp only [List.getElem?_toArray, List.getElem?_cons_zero, List.getElem?_cons_succ]; rfl)); (case bt336 => exact fun _ _ _ h => h); (case ct336 => kernel_rfl); (case dt336 => (intro W hW; (try dsimp only at hW); go_split_ands; go_simp; (try with_reducible rfl))); (case' rt336 => simp only [Act.put, List.setIfInBounds_toArray, List.set_cons_zero, List.set_cons_succ]))
      refine held_one (i := 6) (oi := ?ot337) (by kernel_rfl) ?at337 ?ct337 (fun K6 hK6 => ?_)
      (case at337 => (simp only [List.getElem?_toArray, List.getElem?_cons_zero, List.getElem?_cons_succ]; rfl))
      (case ct337 => kernel_rfl)
      go_simp
      refine (has_bel c d a Hy.out _).mono ?_
      rintro e w1 ⟨rfl, hd⟩
      refine hK6 _ _ (keep4 hd hS1) (fun hS6 => ?_)
      clear hS1 hd hK6 K6
      (refine held_take (i := 7) (oi := ?ot338) (v := ?vt338) ?at338 (by kernel_rfl) (by kernel_rfl) (by kernel_rfl) ?bt338 ?ct338 ?dt338 (by assumption) ?rt338; (case at338 => (simp only [List.getElem?_toArray, List.getElem?_cons_zero, List.getElem?_cons_succ]; rfl)); (case bt338 => exact fun _ _ _ h => h); (case ct338 => kernel_rfl); (case dt338 => (intro W hW; (try dsimp only at hW); go_split_ands; go_simp; (try with_reducible rfl))); (case' rt338 => simp only [Act.put, List.setIfInBounds_toArray, List.set_cons_zero, List.set_cons_succ]))
      (refine held_take (i := 8) (oi := ?ot339) (v := ?vt339) ?at339 (by kernel_rfl) (by kernel_rfl) (by kernel_rfl) ?bt339 ?ct339 ?dt339 (by assumption) ?rt339; (case at339 => (simp only [List.getElem?_toArray, List.getElem?_cons_zero, List.getElem?_cons_succ]; rfl)); (case bt339 => exact fun _ _ _ h => h); (case ct339 => kernel_rfl); (case dt339 => (intro W hW; (try dsimp only at hW); go_split_ands; go_simp; (try with_reducible rfl))); (case' rt339 => simp only [Act.put, List.setIfInBounds_toArray, List.set_cons_zero, List.set_cons_succ]))
      (refine held_skip (i := 9) (oi := ?ot340) ?at340 (by kernel_rfl) (by kernel_rfl) (by kernel_rfl) ?bt340 ?ct340 (by assumption) ?rt340; (case at340 => (simp only [List.getElem?_toArray, List.getElem?_cons_zero, List.getElem?_cons_succ]; rfl)); (case bt340 => exact fun _ _ _ h => h); (case ct340 => kernel_rfl); (case' rt340 => simp only [Act.put, List.setIfInBounds_toArray, List.set_cons_zero, List.set_cons_succ]))
      (refine held_skip (i := 10) (oi := ?ot341) ?at341 (by kernel_rfl) (by kernel_rfl) (by kernel_rfl) ?bt341 ?ct341 (by assumption) ?rt341; (case at341 => (simp only [List.getElem?_toArray, List.getElem?_cons_zero, List.getElem?_cons_succ]; rfl)); (case bt341 => exact fun _ _ _ h => h); (case ct341 => kernel_rfl); (case' rt341 => simp only [Act.put, List.setIfInBounds_toArray, List.set_cons_zero, List.set_cons_succ]))
      (refine held_skip (i := 11) (oi := ?ot342) ?at342 (by kernel_rfl) (by kernel_rfl) (by kernel_rfl) ?bt342 ?ct342 (by assumption) ?rt342; (case at342 => (simp only [List.getElem?_toArray, List.getElem?_cons_zero, List.getElem?_cons_succ]; rfl)); (case bt342 => exact fun _ _ _ h => h); (case ct342 => kernel_rfl); (case' rt342 => simp only [Act.put, List.setIfInBounds_toArray, List.set_cons_zero, List.set_cons_succ]))
      (refine held_skip (i := 12) (oi := ?ot343) ?at343 (by kernel_rfl) (by kernel_rfl) (by kernel_rfl) ?bt343 ?ct343 (by assumption) ?rt343; (case at343 => (simp only [List.getElem?_toArray, List.getElem?_cons_zero, List.getElem?_cons_succ]; rfl)); (case bt343 => exact fun _ _ _ h => h); (case ct343 => kernel_rfl); (case' rt343 => simp only [Act.put, List.setIfInBounds_toArray, List.set_cons_zero, List.set_cons_succ]))
      (refine held_take (i := 13) (oi := ?ot344) (v := ?vt344) ?at344 (by kernel_rfl) (by kernel_rfl) (by kernel_rfl) ?bt344 ?ct344 ?dt344 (by assumption) ?rt344; (case at344 => (simp only [List.getElem?_toArray, List.getElem?_cons_zero, List.getElem?_cons_succ]; rfl)); (case bt344 => exact fun _ _ _ h => h); (case ct344 => kernel_rfl); (case dt344 => (intro W hW; (try dsimp only at hW); go_split_ands; go_simp; (try with_reducible rfl))); (case' rt344 => simp only [Act.put, List.setIfInBounds_toArray, List.set_cons_zero, List.set_cons_succ]))
      (refine held_take (i := 14) (oi := ?ot345) (v := ?vt345) ?at345 (by kernel_rfl) (by kernel_rfl) (by kernel_rfl) ?bt345 ?ct345 ?dt345 (by assumption) ?rt345; (case at345 => (simp only [List.getElem?_toArray, List.getElem?_cons_zero, List.getElem?_cons_succ]; rfl)); (case bt345 => exact fun _ _ _ h => h); (case ct345 => kernel_rfl); (case dt345 => (intro W hW; (try dsimp only at hW); go_split_ands; go_simp; (try with_reducible rfl))); (case' rt345 => simp only [Act.put, List.setIfInBounds_toArray, List.set_cons_zero, List.set_cons_succ]))
      refine wpAnyH_done (by kernel_rfl) ?_ _
      go_wp2
      go_ret
      exact ⟨rfl, hS6.1⟩
  · have h' : good (a, b) = false := by simpa using h
    clear h
    rw [show within (a, b) (c, d) = false from by simp [within, h']]
    go_enter Try.func35, Try.ntmps35
    go_wp2
    refine wp_region_held_drew (S := fun W => Below w.heap.size w W ∧ W.cell? ⟨w.heap.size, 0, none⟩ = some (.int .u64 (a : Int)) ∧ W.cell? ⟨w.heap.size, 1, none⟩ = some (.int .u64 (b : Int)) ∧ W.cell? ⟨w.heap.size + 1, 0, none⟩ = some (.int .u64 (c : Int)) ∧ W.cell? ⟨w.heap.size + 1, 1, none⟩ = some (.int .u64 (d : Int))) (by kernel_rfl) (keep4_start w a b c d _ rfl) (fun hS => ?_)
    (refine held_take (i := 0) (oi := ?ot346) (v := ?vt346) ?at346 (by kernel_rfl) (by kernel_rfl) (by kernel_rfl) ?bt346 ?ct346 ?dt346 (by assumption) ?rt346; (case at346 => (simp only [List.getElem?_toArray, List.getElem?_cons_zero]; rfl)); (case bt346 => exact fun _ _ _ h => h); (case ct346 => kernel_rfl); (case dt346 => (intro W hW; (try dsimp only at hW); go_split_ands; go_simp; (try with_reducible rfl))); (case' rt346 => simp only [Act.put, List.setIfInBounds_toArray, List.set_cons_zero, List.set_cons_succ]))
    refine held_one (i := 1) (oi := ?ot347) (by kernel_rfl) ?at347 ?ct347 (fun K1 hK1 => ?_)
    (case at347 => (simp only [List.getElem?_toArray, List.getElem?_cons_zero, List.getElem?_cons_succ]; rfl))
    (case ct347 => kernel_rfl)
    go_simp
    refine (good_bel a b Hx.out _).mono ?_
    rintro e w1 ⟨rfl, hd⟩
    refine hK1 _ _ (keep4 hd hS) (fun hS1 => ?_)
    clear hS hd hK1 K1
    (refine held_take (i := 2) (oi := ?ot348) (v := ?vt348) ?at348 (by kernel_rfl) (by kernel_rfl) (by kernel_rfl) ?bt348 ?ct348 ?dt348 (by assumption) ?rt348; (case at348 => (simp only [List.getElem?_toArray, List.getElem?_cons_zero, List.getElem?_cons_succ]; rfl)); (case bt348 => exact fun _ _ _ h => h); (case ct348 => kernel_rfl); (case dt348 => (intro W hW; (try dsimp only at hW); go_split_ands; go_simp; (try with_reducible rfl))); (case' rt348 => simp only [Act.put, List.setIfInBounds_toArray, List.set_cons_zero, List.set_cons_succ]))
    (refine held_skip (i := 3) (oi := ?ot349) ?at349 (by kernel_rfl) (by kernel_rfl) (by kernel_rfl) ?bt349 ?ct349 (by assumption) ?rt349; (case at349 => (simp only [List.getElem?_toArray, List.getElem?_cons_zero, List.getElem?_cons_succ]; rfl)); (case bt349 => exact fun _ _ _ h => h); (case ct349 => kernel_rfl); (case' rt349 => simp only [Act.put, List.setIfInBounds_toArray, List.set_cons_zero, List.set_cons_succ]))
    (refine held_skip (i := 4) (oi := ?ot350) ?at350 (by kernel_rfl) (by kernel_rfl) (by kernel_rfl) ?bt350 ?ct350 (by assumption) ?rt350; (case at350 => (simp only [List.getElem?_toArray, List.getElem?_cons_zero, List.getElem?_cons_succ]; rfl)); (case bt350 => exact fun _ _ _ h => h); (case ct350 => kernel_rfl); (case' rt350 => simp only [Act.put, List.setIfInBounds_toArray, List.set_cons_zero, List.set_cons_succ]))
    (refine held_skip (i := 5) (oi := ?ot351) ?at351 (by kernel_rfl) (by kernel_rfl) (by kernel_rfl) ?bt351 ?ct351 (by assumption) ?rt351; (case at351 => (simp only [List.getElem?_toArray, List.getElem?_cons_zero, List.getElem?_cons_succ]; rfl)); (case bt351 => exact fun _ _ _ h => h); (case ct351 => kernel_rfl); (case' rt351 => simp only [Act.put, List.setIfInBounds_toArray, List.set_cons_zero, List.set_cons_succ]))
    (refine held_skip (i := 6) (oi := ?ot352) ?at352 (by kernel_rfl) (by kernel_rfl) (by kernel_rfl) ?bt352 ?ct352 (by assumption) ?rt352; (case at352 => (simp only [List.getElem?_toArray, List.getElem?_cons_zero, List.getElem?_cons_succ]; rfl)); (case bt352 => exact fun _ _ _ h => h); (case ct352 => kernel_rfl); (case' rt352 => simp only [Act.put, List.setIfInBounds_toArray, List.set_cons_zero, List.set_cons_succ]))
    (refine held_take (i := 7) (oi := ?ot353) (v := ?vt353) ?at353 (by kernel_rfl) (by kernel_rfl) (by kernel_rfl) ?bt353 ?ct353 ?dt353 (by assumption) ?rt353; (case at353 => (simp only [List.getElem?_toArray, List.getElem?_cons_zero, List.getElem?_cons_succ]; rfl)); (case bt353 => exact fun _ _ _ h => h); (case ct353 => kernel_rfl); (case dt353 => (intro W hW; (try dsimp only at hW); go_split_ands; go_simp; (try with_reducible rfl))); (case' rt353 => simp only [Act.put, List.setIfInBounds_toArray, List.set_cons_zero, List.set_cons_succ]))
    (refine held_take (i := 8) (oi := ?ot354) (v := ?vt354) ?at354 (by kernel_rfl) (by kernel_rfl) (by kernel_rfl) ?bt354 ?ct354 ?dt354 (by assumption) ?rt354; (case at354 => (simp only [List.getElem?_toArray, List.getElem?_cons_zero, List.getElem?_cons_succ]; rfl)); (case bt354 => exact fun _ _ _ h => h); (case ct354 => kernel_rfl); (case dt354 => (intro W hW; (try dsimp only at hW); go_split_ands; go_simp; (try with_reducible rfl))); (case' rt354 => simp only [Act.put, List.setIfInBounds_toArray, List.set_cons_zero, List.set_cons_succ]))
    (refine held_skip (i := 9) (oi := ?ot355) ?at355 (by kernel_rfl) (by kernel_rfl) (by kernel_rfl) ?bt355 ?ct355 (by assumption) ?rt355; (case at355 => (simp only [List.getElem?_toArray, List.getElem?_cons_zero, List.getElem?_cons_succ]; rfl)); (case bt355 => exact fun _ _ _ h => h); (case ct355 => kernel_rfl); (case' rt355 => simp only [Act.put, List.setIfInBounds_toArray, List.set_cons_zero, List.set_cons_succ]))
    (refine held_skip (i := 10) (oi := ?ot356) ?at356 (by kernel_rfl) (by kernel_rfl) (by kernel_rfl) ?bt356 ?ct356 (by assumption) ?rt356; (case at356 => (simp only [List.getElem?_toArray, List.getElem?_cons_zero, List.getElem?_cons_succ]; rfl)); (case bt356 => exact fun _ _ _ h => h); (case ct356 => kernel_rfl); (case' rt356 => simp only [Act.put, List.setIfInBounds_toArray, List.set_cons_zero, List.set_cons_succ]))
    (refine held_skip (i := 11) (oi := ?ot357) ?at357 (by kernel_rfl) (by kernel_rfl) (by kernel_rfl) ?bt357 ?ct357 (by assumption) ?rt357; (case at357 => (simp only [List.getElem?_toArray, List.getElem?_cons_zero, List.getElem?_cons_succ]; rfl)); (case bt357 => exact fun _ _ _ h => h); (case ct357 => kernel_rfl); (case' rt357 => simp only [Act.put, List.setIfInBounds_toArray, List.set_cons_zero, List.set_cons_succ]))
    (refine held_skip (i := 12) (oi := ?ot358) ?at358 (by kernel_rfl) (by kernel_rfl) (by kernel_rfl) ?bt358 ?ct358 (by assumption) ?rt358; (case at358 => (simp only [List.getElem?_toArray, List.getElem?_cons_zero, List.getElem?_cons_succ]; rfl)); (case bt358 => exact fun _ _ _ h => h); (case ct358 => kernel_rfl); (case' rt358 => simp only [Act.put, List.setIfInBounds_toArray, List.set_cons_zero, List.set_cons_succ]))
    (refine held_take (i := 13) (oi := ?ot359) (v := ?vt359) ?at359 (by kernel_rfl) (by kernel_rfl) (by kernel_rfl) ?bt359 ?ct359 ?dt359 (by assumption) ?rt359; (case at359 => (simp only [List.getElem?_toArray, List.getElem?_cons_zero, List.getElem?_cons_succ]; rfl)); (case bt359 => exact fun _ _ _ h => h); (case ct359 => kernel_rfl); (case dt359 => (intro W hW; (try dsimp only at hW); go_split_ands; go_simp; (try with_reducible rfl))); (case' rt359 => simp only [Act.put, List.setIfInBounds_toArray, List.set_cons_zero, List.set_cons_succ]))
    (refine held_take (i := 14) (oi := ?ot360) (v := ?vt360) ?at360 (by kernel_rfl) (by kernel_rfl) (by kernel_rfl) ?bt360 ?ct360 ?dt360 (by assumption) ?rt360; (case at360 => (simp only [List.getElem?_toArray, List.getElem?_cons_zero, List.getElem?_cons_succ]; rfl)); (case bt360 => exact fun _ _ _ h => h); (case ct360 => kernel_rfl); (case dt360 => (intro W hW; (try dsimp only at hW); go_split_ands; go_simp; (try with_reducible rfl))); (case' rt360 => simp only [Act.put, List.setIfInBounds_toArray, List.set_cons_zero, List.set_cons_succ]))
    refine wpAnyH_done (by kernel_rfl) ?_ _
    go_wp2
    go_ret
    exact ⟨rfl, hS1.1⟩
end Go.Proofs.Ytbemphfijkcbhaa
