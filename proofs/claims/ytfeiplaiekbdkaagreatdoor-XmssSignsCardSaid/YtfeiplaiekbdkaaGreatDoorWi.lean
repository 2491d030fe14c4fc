/- Merged: Rng, Tail, Join, Pairs, Raise, Hts, Leaf. -/
import Derived.StillTailTactics
import Derived.RangeFuncNested
import Derived.RangeFuncBound
import Derived.RangeFuncCalls
import Derived.RangeFuncLeaves
import Derived.Shelf.Abstract
import Derived.Shelf.RegionOpen
import Derived.WalkKit
import Derived.OwnWalkIn
import Derived.TacticsInMore
import Derived.LoopNIn
import Derived.LoopIn
import Derived.Sort.CutIn
import Derived.Test.YtfeiplaiekbdkaaGreatDoorIn
import Derived.Test.YtfeiplaiekbdkaaGreatDoorRRand
import Derived.Test.YtfeiplaiekbdkaaGreatDoorAdrsL
import Derived.Test.YtfeiplaiekbdkaaGreatDoorAdrsT
import Derived.Test.YtfeiplaiekbdkaaGreatDoorWx
import Derived.Test.YtfeiplaiekbdkaaGreatDoorVs
/- A range over a function whose elements lie in memory: what a round is told of them, and the statement's law. -/
namespace Go.Proofs.YtfeiplaiekbdkaaGreatDoor
open Go.RowKit

/-- Between two rounds: what lay below n0, the blocks of D apart, and block g, lies as it lay. -/
structure KX (n0 : Nat) (D : Nat → Prop) (g : Nat) (W W' : World) : Prop where
  size : W.heap.size ≤ W'.heap.size
  low : ∀ k, k < n0 → ¬ D k → W'.heap[k]? = W.heap[k]?
  own : W'.heap[g]? = W.heap[g]?
theorem KX.refl (n0 : Nat) (D : Nat → Prop) (g : Nat) (W : World) : KX n0 D g W W := ⟨Nat.le_refl _, fun _ _ _ => rfl, rfl⟩
theorem KX.trans {n0 : Nat} {D : Nat → Prop} {g : Nat} {A B C : World} (h : KX n0 D g A B) (k : KX n0 D g B C) : KX n0 D g A C :=
  ⟨Nat.le_trans h.size k.size, fun i hi hd => (k.low i hi hd).trans (h.low i hi hd), k.own.trans h.own⟩
theorem KX.of_below {n0 n : Nat} {D : Nat → Prop} {g : Nat} {A B : World} (h : Below n A B) (h0 : n0 ≤ n) (hg : g < n) : KX n0 D g A B :=
  ⟨h.size, fun k hk _ => h.block k (Nat.lt_of_lt_of_le hk h0), h.block g hg⟩
theorem KX.put {n0 : Nat} {D : Nat → Prop} {g : Nat} {W : World} {l : Nat} (o : Obj) (hl : n0 ≤ l) (hg : g ≠ l) : KX n0 D g W (W.putObj l o) :=
  ⟨by simp, fun k hk _ => World.putObj_heap_other (by omega), World.putObj_heap_other hg⟩

section
variable {α : Type}
/-- An element as it is told at W, the last round having ended in Wm: its block is an old one, or newer than Wm. -/
structure Told (n0 : Nat) (D : Nat → Prop) (gb : α → Nat) (Rw : α → World → Prop) (Wm W : World) (x : α) : Prop where
  grown : Below Wm.heap.size Wm W
  blk : (gb x < n0 ∧ ¬ D (gb x)) ∨ Wm.heap.size ≤ gb x
  row : Rw x W
/-- What an iterator of such elements promises. -/
def SeqRows (F : Fence) (n : Nat) (P : Program) (g : Nat) (lb : Array Value) (encs : α → Array Value) (n0 : Nat) (D : Nat → Prop) (gb : α → Nat) (Rw : α → World → Prop) (S : List α → Prop) (N : Nat) (w : World) : Prop :=
  ∀ (l : Nat) (J : List α → World → Prop) (W : World), Below w.heap.size w W →
    (∀ pre x Wm W1, J pre Wm → pre.length < N → Told n0 D gb Rw Wm W1 x →
      YieldAt F (n - 1) P l (encs x) W1 fun e W' => e = .returned (.bool true) ∧ J (pre ++ [x]) W' ∧ KX n0 D (gb x) W1 W') →
    J [] W →
    CallsIn F n P g (#[.func (.yield l) #[] #[]] ++ lb) W fun e W' => (∃ v, e = .returned v) ∧ ∃ xs Wm, S xs ∧ J xs Wm ∧ Below Wm.heap.size Wm W'

/-- How the body of a round is left. -/
def rowPost (B n0 : Nat) (D : Nat → Prop) (g : Nat) (R : World → Prop) (W : World) : Exit → Act → World → Prop
  | .normal, _, W' => KeepsFrom B W W' ∧ KX n0 D g W W' ∧ R W'
  | _, _, _ => False

variable {F : Fence} {n : Nat} {P : Program}
theorem round_rows {ps : Array Tmp} {assign body : Code} {tmps : Array Value} {B : Nat} {fn : FuncId} {rc : LoopState → Loop} {encs : α → Array Value} {n0 : Nat} {D : Nat → Prop} {gb : α → Nat} {Rw : α → World → Prop} {N : Nat}
    (hn0 : n0 ≤ B) (hps : ∀ x, (encs x).size = ps.size)
    (hRc : ∀ x W, Rw x W → ∃ o, W.heap[gb x]? = some o ∧ o.isCells = true) (hRk : ∀ x W W', Rw x W → W.heap.size ≤ W'.heap.size → W'.heap[gb x]? = W.heap[gb x]? → Rw x W')
    {I : List α → World → Prop} (hI : OwnFrom B I) {a₁ : α → Act}
    (hassign : ∀ (l : Nat) (x : α) (W : World) (K : Act → World → Prop), K (a₁ x) W →
      assign.wpIn (F.inRound l) (n - 1 - 1) P (Exit.then K (fun _ _ _ => False)) { tmps := (ps.zip (encs x)).foldl (fun t (p, v) => t.setIfInBounds p v) tmps, defers := [] } W)
    (hbody : ∀ (l : Nat) (pre : List α) (x : α) (Wm W : World), I pre Wm → B ≤ Wm.heap.size → pre.length < N → Told n0 D gb Rw Wm W x →
      body.wpIn (F.inRound l) (n - 1 - 1) P (rowPost B n0 D (gb x) (I (pre ++ [x])) W) (a₁ x) W) (hfn : F.fn fn)
    (hrc : rc = fun s => { state := s, pending := none, fn := fn, tmps := tmps, params := ps, assign := assign, body := body, defers := B }) :
    ∀ pre x Wm W, (I pre Wm ∧ Wm.heap[B + 1]? = some (.loop (rc .ready)) ∧ Wm.heap[B]? = some (.deferred (some []))) → pre.length < N → Told n0 D gb Rw Wm W x →
      YieldAt F (n - 1 - 1) P (B + 1) (encs x) W fun e W' => e = .returned (.bool true) ∧ (I (pre ++ [x]) W' ∧ W'.heap[B + 1]? = some (.loop (rc .ready)) ∧ W'.heap[B]? = some (.deferred (some []))) ∧ KX n0 D (gb x) W W' := by
  have hrs : ∀ s s', { rc s with state := s' } = rc s' := fun s s' => by rw [hrc]
  rintro pre x Wm W ⟨hi, hl, hd⟩ hN hT
  have hlW : W.heap[B + 1]? = some (.loop (rc .ready)) := (hT.grown.block _ (Array.getElem?_eq_some_iff.1 hl).1).trans hl
  have hdW : W.heap[B]? = some (.deferred (some [])) := (hT.grown.block _ (Array.getElem?_eq_some_iff.1 hd).1).trans hd
  have hgl : gb x ≠ B + 1 := fun e => by
    obtain ⟨o, ho, hc⟩ := hRc x W hT.row
    rw [e, hlW] at ho; cases ho; cases hc
  have hy := run_yield (P := P) (args := encs x) hlW (by rw [hrc]; exact hps x)
  rw [hrc] at hy
  refine ⟨fn, _, assign, body, hy, roundIn_of_wpIn hfn (hassign _ x W _ ⟨_, run_beginRound hlW (by rw [hrc]), ?_⟩)⟩
  rw [hrs]
  have hk1 : KX n0 D (gb x) W (W.putObj (B + 1) (.loop (rc .busy))) := KX.put _ (by omega) hgl
  have hl2 : (W.putObj (B + 1) (.loop (rc .busy))).heap[B + 1]? = some (.loop (rc .busy)) := World.putObj_heap_same (Array.getElem?_eq_some_iff.1 hlW).1
  have hd2 : (W.putObj (B + 1) (.loop (rc .busy))).heap[B]? = some (.deferred (some [])) := (World.putObj_heap_other (by omega)).trans hdW
  have hi2 : I pre (Wm.putObj (B + 1) (.loop (rc .busy))) := hI.putObj _ hi (by omega) hl rfl
  have hT2 : Told n0 D gb Rw (Wm.putObj (B + 1) (.loop (rc .busy))) (W.putObj (B + 1) (.loop (rc .busy))) x :=
    ⟨⟨hT.grown.os, hT.grown.tape, hT.grown.output, by simpa using hT.grown.size, fun k hk => by
        by_cases e : k = B + 1
        · rw [e, hl2, World.putObj_heap_same (Array.getElem?_eq_some_iff.1 hl).1]
        · rw [World.putObj_heap_other e, World.putObj_heap_other e]; exact hT.grown.block k (by simpa using hk)⟩,
      by simpa using hT.blk, hRk x W _ hT.row (by simp) hk1.own⟩
  refine wpIn_mono (hbody _ pre x _ _ hi2 (by have := (Array.getElem?_eq_some_iff.1 hl).1; simp; omega) hN hT2) ?_
  rintro e a3 W3 hp
  cases e with
  | normal =>
    obtain ⟨hf, hk, hi3⟩ := hp
    have hl3 := hf.same _ _ (by omega) hl2 rfl
    have hd3 := hf.same _ _ (Nat.le_refl _) hd2 rfl
    have hend := run_endRound (P := P) none hl3
    have hrn : { rc .busy with state := .ready, pending := none } = rc .ready := by rw [hrc]
    refine ⟨_, _, hend, rfl, ?_, (hk1.trans hk).trans (KX.put _ (by omega) hgl)⟩
    exact ⟨hI.putObj _ hi3 (by omega) hl3 rfl, (World.putObj_heap_same (Array.getElem?_eq_some_iff.1 hl3).1).trans (by simp [hrc]), (World.putObj_heap_other (by omega)).trans hd3⟩
  | _ => exact hp.elim

set_option maxHeartbeats 1000000 in
theorem wpIn_range_rows {g : Operand} {ps : Array Tmp} {assign body : Code} {Q : Exit → Act → World → Prop} {a : Act} {w : World}
    (hro : F.round = none) (h1 : 1 ≤ n) {gf : Nat} {lb : Array Value} (hg : a.eval g = .func (.func gf) #[] lb) (hFg : F.fn gf) (eg : ∀ args w, (callFunc gf args).run P w = .ok (.enter gf args) w)
    {encs : α → Array Value} {n0 : Nat} {D : Nat → Prop} {gb : α → Nat} {Rw : α → World → Prop} {S : List α → Prop} {N : Nat} {w0 : World}
    (hseq : SeqRows F (n - 1) P gf lb encs n0 D gb Rw S N w0) (hb0 : Below w0.heap.size w0 w) (hn0 : n0 ≤ w.heap.size) (hps : ∀ x, (encs x).size = ps.size)
    (hRc : ∀ x W, Rw x W → ∃ o, W.heap[gb x]? = some o ∧ o.isCells = true) (hRk : ∀ x W W', Rw x W → W.heap.size ≤ W'.heap.size → W'.heap[gb x]? = W.heap[gb x]? → Rw x W')
    (I : List α → World → Prop) (hI : OwnFrom w.heap.size I) (h0 : I [] w) (a₁ : α → Act)
    (hassign : ∀ (l : Nat) (x : α) (W : World) (K : Act → World → Prop), K (a₁ x) W →
      assign.wpIn (F.inRound l) (n - 1 - 1) P (Exit.then K (fun _ _ _ => False)) { tmps := (ps.zip (encs x)).foldl (fun t (p, v) => t.setIfInBounds p v) a.tmps, defers := [] } W)
    (hbody : ∀ (l : Nat) (pre : List α) (x : α) (Wm W : World), I pre Wm → w.heap.size ≤ Wm.heap.size → pre.length < N → Told n0 D gb Rw Wm W x →
      body.wpIn (F.inRound l) (n - 1 - 1) P (rowPost w.heap.size n0 D (gb x) (I (pre ++ [x])) W) (a₁ x) W)
    (hdone : ∀ (d : Nat) (xs : List α) (W : World), w.heap.size ≤ d → S xs → I xs W → W.heap[d]? = some (.deferred (some [])) → Q .normal { a with defers := { target := .collected d, args := #[] } :: a.defers } W) :
    (Code.rangeFunc g ps assign body).wpIn F n P Q a w := by
  refine wpIn_rangeFunc ?_
  intro fn hfn
  rw [hro]
  -- the record, in each of its states; the world with the two new blocks
  obtain ⟨rc, hrc⟩ : ∃ rc : LoopState → Loop, rc = fun s => { state := s, pending := none, fn := fn, tmps := a.tmps, params := ps, assign := assign, body := body, defers := w.heap.size } := ⟨_, rfl⟩
  obtain ⟨U, hU⟩ : ∃ U, U = (w.alloc (.deferred (some []))).alloc (.loop (rc .ready)) := ⟨_, rfl⟩
  have hbU : Below w.heap.size w U := by rw [hU]; exact ((Below.refl _ _).alloc (Nat.le_refl _) _).alloc (by simp) _
  have hUl : U.heap[w.heap.size + 1]? = some (.loop (rc .ready)) := by
    have := World.alloc_heap_new (w.alloc (.deferred (some []))) (.loop (rc .ready))
    rw [World.size_alloc] at this
    rw [hU]; exact this
  have hUd : U.heap[w.heap.size]? = some (.deferred (some [])) := by
    rw [hU]; exact (Below.heap_alloc _ _ _ (by simp)).trans (World.alloc_heap_new w _)
  have hUI : I [] U := by rw [hU]; exact hI.alloc _ (hI.alloc _ h0)
  -- what is known between two rounds
  obtain ⟨J, hJ⟩ : ∃ J : List α → World → Prop, J = fun pre W => I pre W ∧ W.heap[w.heap.size + 1]? = some (.loop (rc .ready)) ∧ W.heap[w.heap.size]? = some (.deferred (some [])) := ⟨_, rfl⟩
  have hJ0 : J [] U := by rw [hJ]; exact ⟨hUI, hUl, hUd⟩
  have hcall := hseq (w.heap.size + 1) J U (hb0.trans (hbU.mono hb0.size)) ?round hJ0
  case round =>
    rw [hJ]
    exact round_rows hn0 hps hRc hRk hI hassign hbody hfn hrc
  rw [hJ] at hcall
  refine ⟨w.heap.size + 1, [{ target := .collected w.heap.size, args := #[] }], U, { target := .fn (.func gf) lb, args := #[.func (.yield (w.heap.size + 1)) #[] #[]] }, U, gf,
    #[.func (.yield (w.heap.size + 1)) #[] #[]] ++ lb, U, ?_, ?_, ?_, ?_, fun _ => h1, ?_⟩
  · rw [hU, hrc]; exact run_enterLoop_outer _ _ _ _ _
  · simp only [resolve, hg]; simp [go_sem]
  · intro f' hf'; simp [Target.leads] at hf'; subst hf'; exact hFg
  · simp [invoke, go_sem, eg]
  · refine CallsIn.mono hcall ?_
    rintro e W2 ⟨⟨v, rfl⟩, xs, Wm, hS, ⟨hi, hl, hd⟩, hb⟩
    have hi2 : I xs W2 := hI xs Wm W2 none hi (grown_of_below hb) (fun r e => by cases e)
    have hl2 := (hb.block _ (Array.getElem?_eq_some_iff.1 hl).1).trans hl
    have hd2 := (hb.block _ (Array.getElem?_eq_some_iff.1 hd).1).trans hd
    refine ⟨none, _, ?_, hdone _ xs _ (Nat.le_refl _) hS (hI.putObj (.loop { rc .ready with state := .exhausted }) hi2 (by omega) hl2 rfl) ((World.putObj_heap_other (by omega)).trans hd2)⟩
    have := run_endLoop (P := P) hl2 (by rw [hrc]; simp)
    rw [this]; simp [hrc]
end
end Go.Proofs.YtfeiplaiekbdkaaGreatDoor
/- A region that draws its order, all of whose operations but the last few only read: within a fence (one of the last may be a yield). -/
namespace Go.Proofs.YtfeiplaiekbdkaaGreatDoor
open Go.RowKit
section
variable {n : Nat} {P : Program} {ops : Array Oper} {Q : Exit → Act → World → Prop} {md : Region.Mode} {w : World}

/-- A reading operation yields v. -/
theorem still_value {o : Oper} {rest : List Oper} {a : Act} {K : Act → Prop} {v : Value} (hw : Region.wanted o (yielded ops a.tmps) = true) (hy : (execOp a.eval o).run P w = .ok (.value v) w)
    (h : wpStill P ops w K rest (a.put o.dst v)) : wpStill P ops w K (o :: rest) a := by
  unfold wpStill
  rw [if_pos hw]
  unfold Oper.still
  rw [hy]
  exact ⟨rfl, h⟩
theorem oper_plain {o : Oper} {a : Act} {K : Act → World → Prop} (h : o.wp P a w K Q) : o.wpIn Fence.wide n P a w K Q := by
  refine ⟨fun _ _ => trivial, ?_⟩
  show o.uponIn Fence.wide n P a K Q ((Oper.semAt none a.eval o).run P w)
  rw [Oper.semAt_none]
  unfold Oper.wp at h
  generalize (execOp a.eval o).run P w = r at h ⊢
  cases r with
  | ok x w' =>
    cases x with
    | enter f args => exact ⟨fun h => by simp [Fence.wide] at h, callsIn_wide.2 h⟩
    | row rw args => exact ⟨fun h => by simp [Fence.wide] at h, fun c cs _ => let ⟨v, w', r, s⟩ := h c cs; ⟨v, w', r, stepsIn_wide.2 s⟩⟩
    | round l' f tmps assign body => exact h.elim
    | _ => exact h
  | halt x w' => cases x <;> exact h
theorem any_plain (hq : ¬ LetsOut Q) : ∀ (fuel : Nat) (listed : Array Bool) (a : Act) (w : World), wpAny P md ops Q fuel listed a w → wpAnyIn Fence.wide n P md ops Q fuel listed a w
  | 0, _, _, _, h => h
  | fuel + 1, listed, a, w, h => ⟨h.1, fun i hi => by
      have h2 := h.2 i hi
      unfold wpOp at h2
      unfold wpOpIn
      cases ho : ops[i]? with
      | none => rw [ho] at h2; exact any_plain hq fuel _ a w h2
      | some o =>
        rw [ho] at h2
        simp only at h2 ⊢
        by_cases hw : Region.wanted o (yielded ops a.tmps) = true
        · rw [if_pos hw] at h2 ⊢
          exact Oper.wpIn_mono (fun a w h => any_plain hq fuel _ a w h) (oper_plain (h2.resolve_right fun hh => hq hh.2))
        · rw [if_neg hw] at h2 ⊢
          exact ⟨fun _ _ => trivial, any_plain hq fuel _ _ w h2⟩⟩
/-- A region that draws its order, outside a round, by the held words; the world behind the draw has a letter. -/
theorem wpIn_region_held_wide {S : World → Prop} {id : Nat} {a : Act} (hm : P.follows .mixedOrders = true) (hq : ¬ LetsOut Q) (hS : S w.drew)
    (h : ∀ Y, Y = w.drew → S Y → wpAnyH P .any ops Q S ops.size (Array.replicate ops.size false) a Y) : (Code.region id ops true).wpIn Fence.wide n P Q a w :=
  wpIn_region_any hm (any_plain hq _ _ _ _ (wpAny_of_held _ _ _ _ (h _ rfl hS)))
/-- A piece of code that only goes on. -/
theorem wpIn_then_false {F : Fence} {c : Code} {a : Act} {K : Act → World → Prop} (h : c.wpIn F n P (Exit.then K (fun _ _ _ => False)) a w) : c.wpIn F n P (Exit.then K Q) a w :=
  wpIn_mono h fun e a' w' he => by
    cases e with
    | normal => exact he
    | _ => exact (he : False).elim
/-- An operation of a list, by its own law. -/
theorem wli_of {o : Oper} {rest : List Oper} {a : Act} (hg : o.guard = none) (h : ∀ K : Act → World → Prop, (∀ a w, wpListIn Fence.wide n P ops Q rest a w → K a w) → o.wp P a w K Q) : wpListIn Fence.wide n P ops Q (o :: rest) a w :=
  wpListIn_plain hg fun K hK => oper_plain (h K hK)
theorem operIn_of_still {o : Oper} {a : Act} {K : Act → Prop} {K' : Act → World → Prop} (h : ∀ a, K a → K' a w) (hh : o.still P a w K) : o.wpIn Fence.wide n P a w K' Q := by
  refine ⟨fun _ _ => trivial, ?_⟩
  show o.uponIn Fence.wide n P a K' Q ((Oper.semAt none a.eval o).run P w)
  rw [Oper.semAt_none]
  unfold Oper.still at hh
  generalize (execOp a.eval o).run P w = r at hh ⊢
  cases r with
  | ok x w' =>
    cases x with
    | value v => obtain ⟨rfl, hn⟩ := hh; exact h _ hn
    | skip => obtain ⟨rfl, hn⟩ := hh; exact h _ hn
    | enter f args =>
      obtain ⟨rfl, v, hc, hn⟩ := hh
      exact ⟨fun h => by simp [Fence.wide] at h, callsIn_wide.2 (hc.mono fun e w'' ⟨he, hw⟩ => by subst he; subst hw; exact h _ hn)⟩
    | _ => exact hh.elim
  | halt x w' => exact hh.elim
theorem opIn_of_still {i : Nat} {a : Act} {K : Act → Prop} {K' : Act → World → Prop} (h : ∀ a, K a → K' a w) (hh : stOp P ops w i K a) : wpOpIn Fence.wide n P ops Q i K' a w := by
  unfold stOp at hh
  unfold wpOpIn
  cases ho : ops[i]? with
  | none => rw [ho] at hh; exact h _ hh
  | some o =>
    rw [ho] at hh
    simp only at hh ⊢
    by_cases hw : Region.wanted o (yielded ops a.tmps) = true
    · rw [if_pos hw] at hh ⊢; exact operIn_of_still h hh
    · rw [if_neg hw] at hh ⊢; exact ⟨fun _ _ => trivial, h _ hh⟩
theorem anyIn_of_head {m g : Nat} {L : Array Bool → Act → Prop} (hL : ∀ listed a, L listed a → wpAnyIn Fence.wide n P md ops Q g listed a w) :
    ∀ (f : Nat) (listed : Array Bool) (a : Act), wpAnyL P md ops w m L f listed a → wpAnyIn Fence.wide n P md ops Q (f + g) listed a w
  | 0, listed, a, h => by rw [Nat.zero_add]; exact hL _ _ h
  | f + 1, listed, a, h => by
    rw [Nat.add_right_comm]
    exact ⟨fun h0 => absurd h0 h.1, fun i hi => opIn_of_still (fun a' h' => anyIn_of_head hL f _ a' h') (h.2 i hi).2⟩
theorem anyIn_of_seq : ∀ (l : List Oper) (k : Nat) (listed : Array Bool) (a : Act) (w : World), (∀ j, l[j]? = ops[k + j]?) →
    Region.seqB md ops l.length k listed = true → wpListIn Fence.wide n P ops Q l a w → wpAnyIn Fence.wide n P md ops Q l.length listed a w
  | [], _, _, _, _, _, hB, h => ⟨by simpa [Region.seqB] using hB, h⟩
  | o :: l, k, listed, a, w, hl, hB, h => by
    have h0 : ops[k]? = some o := by simpa using (hl 0).symm
    simp only [List.length_cons, Region.seqB, Bool.and_eq_true, decide_eq_true_eq] at hB
    refine ⟨fun h1 => (by rw [hB.1] at h1; cases h1), fun i hi => ?_⟩
    obtain rfl : i = k := by rw [hB.1] at hi; simpa using hi
    have hw : wpOpIn Fence.wide n P ops Q i (wpListIn Fence.wide n P ops Q l) a w := by unfold wpOpIn; simp only [h0]; exact h
    exact wpOpIn_mono (fun a' w' h' => anyIn_of_seq l (i + 1) _ a' w' (fun j => by have := hl (j + 1); simpa [Nat.add_assoc, Nat.add_comm 1 j] using this) hB.2 h') hw
/-- The first m operations only read, the others come in their order. -/
theorem wpIn_region_tail {id : Nat} {a : Act} {l : List Oper} (m : Nat) (hm : P.follows .mixedOrders = true) (hB : Region.lexTailB .any l.toArray m = true)
    (h : wpStill P l.toArray w.drew (fun a' => wpListIn Fence.wide n P l.toArray Q (l.drop m) a' w.drew) (l.take m) a) : (Code.region id l.toArray true).wpIn Fence.wide n P Q a w := by
  simp only [Region.lexTailB, Bool.and_eq_true, decide_eq_true_eq] at hB
  obtain ⟨⟨⟨⟨hsel, hlt⟩, hs⟩, hc⟩, hlex⟩ := hB
  have hlt' : m < l.length := by simpa using hlt
  have ht : (l.take m).length = m := by simp; omega
  have hd : (l.drop m).length = l.toArray.size - m := by simp
  have h0 : HeadInv .any l.toArray m (Array.replicate l.toArray.size false) :=
    ⟨by simp, fun j oj _ hl => (by rw [getD_replicate_false] at hl; cases hl), fun t _ ht => getD_in (by simpa using ht) (getD_replicate_false _ _)⟩
  have H := wpAnyL_lex (md := .any) (g := l.toArray.size - m) hsel hs hc hlt (l.take m) 0 _ a (fun j hj => by
    have hj' : j < m := by rw [ht] at hj; exact hj
    simp [hj']) (by simpa using ht) h0 (by rw [ht]; exact hlex) h
  have T := anyIn_of_head (n := n) (Q := Q) (g := l.toArray.size - m) (fun listed a' hL => by
    have := anyIn_of_seq (n := n) (md := .any) (Q := Q) (l.drop m) m listed a' w.drew (fun j => by simp [List.getElem?_drop]) (by rw [hd]; exact hL.1) hL.2
    rwa [hd] at this) _ _ _ H
  rw [ht, show m + (l.toArray.size - m) = l.toArray.size by omega] at T
  exact wpIn_region_any hm T
end
end Go.Proofs.YtfeiplaiekbdkaaGreatDoor
/- ltree.joiner and its closure; the place of a leaf's trees. -/
namespace Go.Proofs.YtfeiplaiekbdkaaGreatDoor
open Go.RowKit
attribute [local go_sem ↓ high] zeroV26

/-- Two neighbours, as a struct's cells. -/
def prV (x y : Nat → UInt8) : Nat → Value := fun i => if i < 32 then bys x i else bys y (i - 32)
theorem prV_one (x y : Nat → UInt8) (n : Nat) : ∀ i, i < n → (prV x y i).oneCell' = true := by
  intro i _
  unfold prV
  split <;> rfl
theorem infoPr : (Tryz.prog.info? 108).map (·.size) = some 64 := by kernel_rfl
set_option maxRecDepth 100000 in
theorem zeroVPr (w : World) : (zeroValue 108).run Tryz.prog w = .ok (.agg (vec 64 (prV zb zb))) w :=
  (zero_of_info (P := Tryz.prog) (t := 108) (v := .agg (vec 64 (prV zb zb))) (n := 64) (by kernel_rfl)).1 w
set_option maxRecDepth 100000 in
theorem load_left {w : World} {g : Nat} {x y : Nat → UInt8} (h : Arr w g 108 64 (prV x y)) : (loadVar 30 ⟨g, 0, none⟩).run Tryz.prog w = .ok (.agg (vec 32 (bys x))) w :=
  run_load_cells (n := 32) (f := bys x) (fun i hi => (h.cell (i := i) (by omega)).trans (by unfold prV; rw [if_pos hi])) Tryz.underlying30 rfl info26
set_option maxRecDepth 100000 in
theorem load_right {w : World} {g : Nat} {x y : Nat → UInt8} (h : Arr w g 108 64 (prV x y)) : (loadVar 30 ⟨g, 32, none⟩).run Tryz.prog w = .ok (.agg (vec 32 (bys y))) w :=
  run_load_spl (n := 32) (f := bys y) (fun i hi => (h.cell (i := 32 + i) (by omega)).trans (by unfold prV; rw [if_neg (by omega), Nat.add_sub_cancel_left])) Tryz.underlying30 rfl info26

/-- What joins two nodes at a place. -/
def joinF (seed : Nat → UInt8) (kd a h i : Nat) (x y : Nat → UInt8) : Nat → UInt8 := randF x y seed 0 0 kd a h i
set_option maxHeartbeats 400000 in
theorem joiner_any (seed : Nat → UInt8) (pf : Nat) (pcap : Array Value) (w : World) :
    Calls Tryz.prog 62 #[.agg (vec 32 (bys seed)), .func (.func pf) #[] pcap] w fun e w' => e = .returned (.func (.func 86) #[] #[.pointer (some ⟨w.heap.size, 0, none⟩), .pointer (some ⟨w.heap.size + 1, 0, none⟩)]) ∧
      w' = (w.alloc (.cells (vec 32 (bys seed)) 30)).alloc (.cells #[.func (.func pf) #[] pcap] 106) := by
  have hmf := make_func
  go_enter Tryz.func62, Tryz.ntmps62
  go_wp2
  go_ret
  simp
set_option maxHeartbeats 1000000 in
set_option maxRecDepth 100000 in
theorem join1_any (seed : Nat → UInt8) (kd a h i : Nat) (hok : AdOk 0 0 kd a h i 0) (x y : Nat → UInt8) (gs gp : Nat) (pf : Nat) (pcap : Array Value) (ep : ∀ args W, (callFunc pf args).run Tryz.prog W = .ok (.enter pf args) W) (w : World)
    (h1 : Arr w gs 30 32 (bys seed)) (h2 : Blk w gp 106 #[.func (.func pf) #[] pcap]) (hT : Tabs w)
    (hp : ∀ Y, Below w.heap.size w Y → Calls Tryz.prog pf (#[.int .u32 (h : Int), .int .u32 (i : Int)] ++ pcap) Y fun e Y' => e = .returned (adV 0 0 kd a h i 0) ∧ Below Y.heap.size Y Y') :
    Calls Tryz.prog 86 #[.int .u32 (h : Int), .int .u32 (i : Int), .agg (vec 64 (prV x y)), .pointer (some ⟨gs, 0, none⟩), .pointer (some ⟨gp, 0, none⟩)] w fun e w' => e = .returned (.agg (vec 32 (bys (joinF seed kd a h i x y)))) ∧ Below w.heap.size w w' := by
  obtain ⟨V, hV⟩ : ∃ V, V = (w.alloc (.cells (vec 64 (prV x y)) 108)).alloc (.cells (vec 32 (bys zb)) 30) := ⟨_, rfl⟩
  have hA : Arr V w.heap.size 108 64 (prV x y) := by rw [hV]; exact (Arr.newAt _ _ _ _ (by simp)).alloc _
  have hR : Arr V (w.heap.size + 1) 30 32 (bys zb) := by rw [hV]; exact Arr.newAt _ _ _ _ (by simp)
  have hB : Below w.heap.size w V := by rw [hV]; exact (((Below.refl _ _).alloc (by simp <;> omega) _).alloc (by simp <;> omega) _)
  have hg1 := h1.lt
  have hg2 := h2.lt
  have HA := Lib.hid (Ahead.mk (r := w.heap.size + 1) hB (tabs_below hT hB) (tabs_far hT (by omega)))
  have HP := Lib.hid hA
  have HS := Lib.hid (h1.under hB)
  have HF := Lib.hid (h2.under hB)
  have HR := Lib.hid hR
  have HO := Lib.hid hok
  have HC := Lib.hid hp
  have HW := Lib.hid hV
  clear hV hA hR hB h1 h2 hT hok hp
  go_enter Tryz.func86, Tryz.ntmps86
  go_upto_region 1 with fail
  rw [← HW.out]
  clear HW
  refine wp_region_held_drew (S := fun Y => SR V (w.heap.size + 1) Y) (by kernel_rfl) (SR.begin HR.out) (fun hS => ?_)
  (refine held_take (i := 0) (oi := ?ot1) (v := ?vt1) ?at1 (by kernel_rfl) (by kernel_rfl) (by kernel_rfl) ?bt1 ?ct1 ?dt1 (by assumption) ?rt1; (case at1 => (simp only [List.getElem?_toArray, List.getElem?_cons_zero]; rfl)); (case bt1 => exact fun _ _ _ h => h); (case ct1 => kernel_rfl); (case dt1 => (intro W hW; (try dsimp only at hW); go_split_ands; go_simp; (try with_reducible rfl))); (case' rt1 => simp only [Act.put, List.setIfInBounds_toArray, List.set_cons_zero, List.set_cons_succ]))
  (refine held_take (i := 1) (oi := ?ot2) (v := .agg (vec 32 (bys x))) ?at2 (by kernel_rfl) (by kernel_rfl) (by kernel_rfl) ?bt2 ?ct2 ?dt2 (by assumption) ?rt2; (case at2 => (simp only [List.getElem?_toArray, List.getElem?_cons_zero, List.getElem?_cons_succ]; rfl)); (case bt2 => exact fun _ _ _ h => h); (case ct2 => kernel_rfl); (case dt2 => (intro W hW; exact exec_load_at 30 _ rfl _ _ rfl _ (load_left (hW.arr HP.out (by omega))))); (case' rt2 => simp only [Act.put, List.setIfInBounds_toArray, List.set_cons_zero, List.set_cons_succ]))
  (refine held_take (i := 2) (oi := ?ot3) (v := ?vt3) ?at3 (by kernel_rfl) (by kernel_rfl) (by kernel_rfl) ?bt3 ?ct3 ?dt3 (by assumption) ?rt3; (case at3 => (simp only [List.getElem?_toArray, List.getElem?_cons_zero, List.getElem?_cons_succ]; rfl)); (case bt3 => exact fun _ _ _ h => h); (case ct3 => kernel_rfl); (case dt3 => (intro W hW; (try dsimp only at hW); go_split_ands; go_simp; (try with_reducible rfl))); (case' rt3 => simp only [Act.put, List.setIfInBounds_toArray, List.set_cons_zero, List.set_cons_succ]))
  (refine held_take (i := 3) (oi := ?ot4) (v := .agg (vec 32 (bys y))) ?at4 (by kernel_rfl) (by kernel_rfl) (by kernel_rfl) ?bt4 ?ct4 ?dt4 (by assumption) ?rt4; (case at4 => (simp only [List.getElem?_toArray, List.getElem?_cons_zero, List.getElem?_cons_succ]; rfl)); (case bt4 => exact fun _ _ _ h => h); (case ct4 => kernel_rfl); (case dt4 => (intro W hW; exact exec_load_at 30 _ rfl _ _ rfl _ (load_right (hW.arr HP.out (by omega))))); (case' rt4 => simp only [Act.put, List.setIfInBounds_toArray, List.set_cons_zero, List.set_cons_succ]))
  (refine held_take (i := 4) (oi := ?ot5) (v := .agg (vec 32 (bys seed))) ?at5 (by kernel_rfl) (by kernel_rfl) (by kernel_rfl) ?bt5 ?ct5 ?dt5 (by assumption) ?rt5; (case at5 => (simp only [List.getElem?_toArray, List.getElem?_cons_zero, List.getElem?_cons_succ]; rfl)); (case bt5 => exact fun _ _ _ h => h); (case ct5 => kernel_rfl); (case dt5 => (intro W hW; exact exec_load 30 _ rfl _ rfl _ (run_load_arr (hW.arr HS.out (by omega)) Tryz.underlying30 rfl info26))); (case' rt5 => simp only [Act.put, List.setIfInBounds_toArray, List.set_cons_zero, List.set_cons_succ]))
  (refine held_take (i := 5) (oi := ?ot6) (v := (.func (.func pf) #[] pcap)) ?at6 (by kernel_rfl) (by kernel_rfl) (by kernel_rfl) ?bt6 ?ct6 ?dt6 (by assumption) ?rt6; (case at6 => (simp only [List.getElem?_toArray, List.getElem?_cons_zero, List.getElem?_cons_succ]; rfl)); (case bt6 => exact fun _ _ _ h => h); (case ct6 => kernel_rfl); (case dt6 => (intro W hW; have hc := (hW.blk HF.out (by omega)).cellAt 0 rfl; clear hW; go_simp; (try with_reducible rfl))); (case' rt6 => simp only [Act.put, List.setIfInBounds_toArray, List.set_cons_zero, List.set_cons_succ]))
  (refine held_take (i := 6) (oi := ?ot7) (v := ?vt7) ?at7 (by kernel_rfl) (by kernel_rfl) (by kernel_rfl) ?bt7 ?ct7 ?dt7 (by assumption) ?rt7; (case at7 => (simp only [List.getElem?_toArray, List.getElem?_cons_zero, List.getElem?_cons_succ]; rfl)); (case bt7 => exact fun _ _ _ h => h); (case ct7 => kernel_rfl); (case dt7 => (intro W hW; (try dsimp only at hW); go_split_ands; go_simp; (try with_reducible rfl))); (case' rt7 => simp only [Act.put, List.setIfInBounds_toArray, List.set_cons_zero, List.set_cons_succ]))
  (refine held_take (i := 7) (oi := ?ot8) (v := ?vt8) ?at8 (by kernel_rfl) (by kernel_rfl) (by kernel_rfl) ?bt8 ?ct8 ?dt8 (by assumption) ?rt8; (case at8 => (simp only [List.getElem?_toArray, List.getElem?_cons_zero, List.getElem?_cons_succ]; rfl)); (case bt8 => exact fun _ _ _ h => h); (case ct8 => kernel_rfl); (case dt8 => (intro W hW; (try dsimp only at hW); go_split_ands; go_simp; (try with_reducible rfl))); (case' rt8 => simp only [Act.put, List.setIfInBounds_toArray, List.set_cons_zero, List.set_cons_succ]))
  refine held_one (i := 8) (oi := ?ot9) (by kernel_rfl) ?at9 ?ct9 (fun K8 hK8 => ?_)
  (case at9 => (simp only [List.getElem?_toArray, List.getElem?_cons_zero, List.getElem?_cons_succ]; rfl))
  (case ct9 => kernel_rfl)
  go_simp
  refine (HC.out _ (hS.below HA.out.below (by omega))).mono ?_
  rintro e y8 ⟨rfl, hd⟩
  refine hK8 _ _ (hS.keep hd) (fun hS8 => ?_)
  clear hS hd hK8 K8
  refine held_one (i := 9) (oi := ?ot10) (by kernel_rfl) ?at10 ?ct10 (fun K9 hK9 => ?_)
  (case at10 => (simp only [List.getElem?_toArray, List.getElem?_cons_zero, List.getElem?_cons_succ]; rfl))
  (case ct10 => kernel_rfl)
  go_simp
  refine (rand_any x y seed 0 0 kd a h i 0 HO.out _ (hS8.tabs HA.out.tabs HA.out.far.1 HA.out.far.2)).mono ?_
  rintro e y9 ⟨rfl, hd⟩
  refine hK9 _ _ (hS8.keep hd) (fun hS9 => ?_)
  clear hS8 hd hK9 K9
  refine held_one (i := 10) (oi := ?ot11) (by kernel_rfl) ?at11 ?ct11 (fun K10 hK10 => ?_)
  (case at11 => (simp only [List.getElem?_toArray, List.getElem?_cons_zero, List.getElem?_cons_succ]; rfl))
  (case ct11 => kernel_rfl)
  obtain ⟨f0, hf0⟩ := hS9.res
  refine ow_store 30 _ _ rfl _ rfl _ rfl (run_store_arr hf0 (bys (randF x y seed 0 0 kd a h i)) info26 (bys_one _ _)) ?_
  refine hK10 _ _ (hS9.put _) (fun hS10 => ?_)
  clear hK10 K10
  refine wpAnyH_done (by kernel_rfl) ?_ _
  go_wp2
  refine bodyPost_ret (results_cell1 rfl _ _ _ rfl (run_load_arr (hf0.row _) Tryz.underlying30 rfl info26)) rfl ⟨rfl, hS10.below HA.out.below (by omega)⟩

set_option maxHeartbeats 400000 in
set_option maxRecDepth 100000 in
theorem leafPlace_any (idx h i : Nat) (gi : Nat) (w : World) (h1 : Blk w gi 28 #[.int .u32 (idx : Int)]) :
    Calls Tryz.prog 64 #[.int .u32 (h : Int), .int .u32 (i : Int), .pointer (some ⟨gi, 0, none⟩)] w fun e w' => e = .returned (adV 0 0 1 idx h i 0) ∧ Below w.heap.size w w' := by
  have hc := (h1.alloc (.cells (adA 0 0 0 0 0 0 0) 86)).cellAt 0 rfl
  have hf := (h1.alloc (.cells (adA 0 0 0 0 0 0 0) 86)).frozen 0
  go_enter Tryz.func64, Tryz.ntmps64
  go_wp2_with (first
    | (go_at_call 65; refine (ltree_any idx h i _).mono ?_; rintro e w1 ⟨rfl, hd⟩; have HD := Lib.hid hd; clear hd)
    | ((with_reducible show wpList _ _ _ (Oper.mk _ (.store _ _ _) _ _ _ _ :: _) _ _); refine wl_store rfl 86 _ _ rfl _ rfl _ rfl (Blk.store (Blk.under (Blk.new _ _ _ (by simp)) HD.out) (adA 0 0 1 idx h i 0) rfl infoAd rfl) ?_))
  refine bodyPost_ret (results_cell1 rfl _ _ _ rfl (Blk.load (Blk.row (Blk.under (Blk.new _ _ _ (by simp)) HD.out) (adA 0 0 1 idx h i 0)) Tryz.underlying86 rfl infoAd)) rfl ⟨rfl, ?_⟩
  exact below_row (((Below.refl _ _).alloc (Nat.le_refl _) _).trans (HD.out.mono (by simp))) (by omega) _
end Go.Proofs.YtfeiplaiekbdkaaGreatDoor
/- ltree.pairs: its iterator. -/
namespace Go.Proofs.YtfeiplaiekbdkaaGreatDoor
open Go.RowKit Go.Shelf
attribute [local go_sem] Oper.semAt_some
attribute [local go_sem ↓ high] zeroV26

/-- Two blocks are as they were. -/
structure K2 (B G : Nat) (W W' : World) : Prop where
  size : W.heap.size ≤ W'.heap.size
  b : W'.heap[B]? = W.heap[B]?
  g : W'.heap[G]? = W.heap[G]?
theorem K2.refl (B G : Nat) (W : World) : K2 B G W W := ⟨Nat.le_refl _, rfl, rfl⟩
theorem K2.trans {B G : Nat} {X Y Z : World} (h : K2 B G X Y) (k : K2 B G Y Z) : K2 B G X Z := ⟨Nat.le_trans h.size k.size, k.b.trans h.b, k.g.trans h.g⟩
theorem K2.of_below {n B G : Nat} {W W' : World} (h : Below n W W') (hB : B < n) (hG : G < n) : K2 B G W W' := ⟨h.size, h.block B hB, h.block G hG⟩
theorem K2.putObj {B G : Nat} {W : World} {l : Nat} (o' : Obj) (hB : B ≠ l) (hG : G ≠ l) : K2 B G W (W.putObj l o') := ⟨by simp, World.putObj_heap_other hB, World.putObj_heap_other hG⟩
theorem blk_same {W W' : World} {g : Nat} {t : TypeId} {cs : Array Value} (h : Blk W g t cs) (e : W'.heap[g]? = W.heap[g]?) : Blk W' g t cs := e.trans h
/-- The nodes at an address, told cell by cell. -/
def At (w : World) (a : Addr) (l : List Nd) : Prop := ∀ j (h : j < l.length) i, i < 32 → w.cell? (a.add (j * 32 + i)) = some (bys l[j] i)
theorem At.same {w w' : World} {a : Addr} {l : List Nd} (h : At w a l) (e : w'.heap[a.block]? = w.heap[a.block]?) : At w' a l := fun j hj i hi =>
  (World.cell?_of_block (a := a.add (j * 32 + i)) (by rw [addr_add_block]; exact e)).trans (h j hj i hi)
theorem At.get {w : World} {a : Addr} {l : List Nd} (h : At w a l) {k : Nat} (hk : k < l.length) : ∃ p, a.add (k * 32) = p ∧ ∀ i, i < 32 → w.cell? (p.add i) = some (bys (l.getD k zb) i) := by
  refine ⟨_, rfl, fun i hi => ?_⟩
  have h2 := h k hk i hi
  rw [← addr_add2] at h2
  rw [List.getD_eq_getElem?_getD, List.getElem?_eq_getElem hk]
  exact h2

/-- A number and two neighbours. -/
abbrev PX := { x : Nat × Nd × Nd // x.1 < 4294967296 }
def prOf (l : List Nd) (i : Nat) : PX := if h : i < 4294967296 then ⟨(i, l.getD (2 * i) zb, l.getD (2 * i + 1) zb), h⟩ else ⟨(0, zb, zb), by decide⟩
theorem prOf_val {l : List Nd} {i : Nat} (h : i < 4294967296) : (prOf l i).1 = (i, l.getD (2 * i) zb, l.getD (2 * i + 1) zb) := by unfold prOf; rw [dif_pos h]
def prs (l : List Nd) (k : Nat) : List PX := (List.range k).map (prOf l)
theorem prs_length (l : List Nd) (k : Nat) : (prs l k).length = k := by simp [prs]
theorem prs_succ (l : List Nd) (k : Nat) : prs l (k + 1) = prs l k ++ [prOf l k] := by simp [prs, List.range_succ]
def encP (x : PX) : Array Value := #[.int .u32 (x.1.1 : Int), .agg (vec 64 (prV x.1.2.1 x.1.2.2))]
theorem encP_of {l : List Nd} {i : Nat} (h : i < 4294967296) : encP (prOf l i) = #[.int .u32 (i : Int), .agg (vec 64 (prV (l.getD (2 * i) zb) (l.getD (2 * i + 1) zb)))] := by unfold encP; rw [prOf_val h]

theorem pairs_any (A : Option Addr) (n cap : Nat) (w : World) :
    Calls Tryz.prog 107 #[.slice A n cap] w fun e w' => e = .returned (.func (.func 117) #[] #[.pointer (some ⟨w.heap.size, 0, none⟩)]) ∧ w' = w.alloc (.cells #[.slice A n cap] 31) := by
  have hmf := make_func
  go_enter Tryz.func107, Tryz.ntmps107
  go_wp2
  go_ret
  exact ⟨rfl, rfl⟩

theorem built_pair (x y : Nat → UInt8) : Tryz.prog.built 108 [(0, .agg (vec 32 (bys x))), (1, .agg (vec 32 (bys y)))] = some (vec 64 (prV x y)) := by kernel_rfl
set_option maxRecDepth 100000 in
set_option maxHeartbeats 2000000 in
theorem pairs1_in (n : Nat) (hn : 1 ≤ n) (lp Bl : Nat) (a : Addr) (cap : Nat) (l : List Nd) (hl : l.length ≤ 1000000) (J Jx : List PX → World → Prop)
    (hY : ∀ pre (x : PX) W, J pre W → pre.length < l.length / 2 → YieldAt Fence.wide (n - 1) Tryz.prog lp (encP x) W fun e W' =>
      (e = .returned (.bool true) ∧ J (pre ++ [x]) W' ∧ K2 Bl a.block W W') ∨ (e = .returned (.bool false) ∧ Jx (pre ++ [x]) W'))
    (W : World) (hA : AbidesFrom W.heap.size J) (hB : Blk W Bl 31 #[.slice (some a) l.length cap]) (hR : At W a l) (h0 : J [] W) :
    CallsIn Fence.wide n Tryz.prog 117 #[.func (.yield lp) #[] #[], .pointer (some ⟨Bl, 0, none⟩)] W fun e W' => (∃ v, e = .returned v) ∧
      ((∃ ys, ys = prs l (l.length / 2) ∧ J ys W') ∨ (∃ pre, True ∧ Jx pre W')) := by
  have HJ := Lib.hid h0
  have HA := Lib.hid hA
  have HY := Lib.hid hY
  have HK : Hid (∀ X, K2 Bl a.block W X → Blk X Bl 31 #[.slice (some a) l.length cap] ∧ At X a l) := Lib.hid fun X hX => ⟨blk_same hB hX.b, hR.same hX.g⟩
  have HM := Lib.hid built_pair
  clear h0 hA hY hB hR
  refine callsIn_of_wp Tryz.func117 rfl trivial ?_ rfl
  simp only [Tryz.ntmps117, List.size_toArray, List.length_cons, List.length_nil, Nat.reduceAdd, Nat.reduceSub, Array.replicate_succ, Array.replicate_zero, List.push_toArray, List.append_toArray, List.nil_append, List.cons_append]
  gi_wp2
  gi_loopw [3] (fun i wr => ∃ k : Nat, k ≤ l.length / 2 ∧ i = .int .i64 k ∧ Hid (J (prs l k) wr ∧ K2 Bl a.block W wr)) (fun i _ => l.length / 2 - (intOf i).toNat)
  case atStart => exact ⟨0, Nat.zero_le _, rfl, Lib.hid ⟨HJ.out, K2.refl _ _ _⟩⟩
  case round =>
    obtain ⟨k, hk, rfl, hR⟩ := hrel
    obtain ⟨hB, hAt⟩ := HK.out wr hR.out.2
    have hc : wr.cell? ⟨Bl, 0, none⟩ = some (.slice (some a) l.length cap) := hB.cellAt 0 rfl
    by_cases hlt : 2 * k + 1 < l.length
    · have hltI : (2 : Int) * (k : Int) + 1 < (l.length : Int) := by omega
      obtain ⟨m, hm⟩ : ∃ m, m = 2 * k := ⟨_, rfl⟩
      obtain ⟨m1, hm1⟩ : ∃ m1, m1 = 2 * k + 1 := ⟨_, rfl⟩
      obtain ⟨p, hp, hpc⟩ := hAt.get (show m < l.length by omega)
      obtain ⟨q, hq, hqc⟩ := hAt.get (show m1 < l.length by omega)
      obtain ⟨x, hx⟩ : ∃ x, x = l.getD m zb := ⟨_, rfl⟩
      obtain ⟨y, hy⟩ : ∃ y, y = l.getD m1 zb := ⟨_, rfl⟩
      rw [← hx] at hpc
      rw [← hy] at hqc
      have HP := Lib.hid hpc
      have HQ := Lib.hid hqc
      have HXY : Hid (x = l.getD (2 * k) zb ∧ y = l.getD (2 * k + 1) zb) := Lib.hid ⟨by rw [hx, hm], by rw [hy, hm1]⟩
      clear hAt hB hpc hqc hx hy
      gi_wp2_with fail
      have hwn : IntKind.u32.wrap (k : Int) = (k : Int) := by rw [IntKind.wrap_u32']; omega
      have hw2 : IntKind.i64.wrap (2 * (k : Int)) = (m : Int) := by rw [IntKind.wrap_i64]; omega
      have hw3 : IntKind.i64.wrap ((m : Int) + 1) = (m1 : Int) := by rw [IntKind.wrap_i64]; omega
      have hlm : m < l.length := by omega
      have hlm1 : m1 < l.length := by omega
      clear hm hm1
      refine wpIn_region_tail 15 (by kernel_rfl) (by kernel_rfl) ?_
      simp only [List.take_succ_cons, List.take_zero, List.drop_succ_cons, List.drop_zero]
      (refine still_value (v := ?vq1) (by kernel_rfl) ?dq1 ?rq1; (case dq1 => (go_simp; (try with_reducible rfl))); (case' rq1 => simp only [Act.put, List.setIfInBounds_toArray, List.set_cons_zero, List.set_cons_succ]))
      (refine still_value (v := ?vq2) (by kernel_rfl) ?dq2 ?rq2; (case dq2 => (go_simp; (try with_reducible rfl))); (case' rq2 => simp only [Act.put, List.setIfInBounds_toArray, List.set_cons_zero, List.set_cons_succ]))
      (refine still_value (v := ?vq3) (by kernel_rfl) ?dq3 ?rq3; (case dq3 => (go_simp; (try with_reducible rfl))); (case' rq3 => simp only [Act.put, List.setIfInBounds_toArray, List.set_cons_zero, List.set_cons_succ]))
      (refine still_value (v := ?vq4) (by kernel_rfl) ?dq4 ?rq4; (case dq4 => (go_simp; (try with_reducible rfl))); (case' rq4 => simp only [Act.put, List.setIfInBounds_toArray, List.set_cons_zero, List.set_cons_succ]))
      (refine still_value (v := ?vq5) (by kernel_rfl) ?dq5 ?rq5; (case dq5 => (go_simp; (try with_reducible rfl))); (case' rq5 => simp only [Act.put, List.setIfInBounds_toArray, List.set_cons_zero, List.set_cons_succ]))
      (refine still_value (v := ?vq6) (by kernel_rfl) ?dq6 ?rq6; (case dq6 => (go_simp; (try with_reducible rfl))); (case' rq6 => simp only [Act.put, List.setIfInBounds_toArray, List.set_cons_zero, List.set_cons_succ]))
      (refine still_value (v := .pointer (some p)) (by kernel_rfl) ?dq7 ?rq7; (case dq7 => (go_simp; (try with_reducible rfl); (try (intro h; omega)))); (case' rq7 => simp only [Act.put, List.setIfInBounds_toArray, List.set_cons_zero, List.set_cons_succ]))
      (refine still_value (v := .agg (vec 32 (bys x))) (by kernel_rfl) ?dq8 ?rq8; (case dq8 => (exact exec_load_p 30 _ rfl _ rfl _ (load_p HP.out))); (case' rq8 => simp only [Act.put, List.setIfInBounds_toArray, List.set_cons_zero, List.set_cons_succ]))
      (refine still_value (v := ?vq9) (by kernel_rfl) ?dq9 ?rq9; (case dq9 => (go_simp; (try with_reducible rfl))); (case' rq9 => simp only [Act.put, List.setIfInBounds_toArray, List.set_cons_zero, List.set_cons_succ]))
      (refine still_value (v := ?vq10) (by kernel_rfl) ?dq10 ?rq10; (case dq10 => (go_simp; (try with_reducible rfl))); (case' rq10 => simp only [Act.put, List.setIfInBounds_toArray, List.set_cons_zero, List.set_cons_succ]))
      (refine still_value (v := ?vq11) (by kernel_rfl) ?dq11 ?rq11; (case dq11 => (go_simp; (try with_reducible rfl))); (case' rq11 => simp only [Act.put, List.setIfInBounds_toArray, List.set_cons_zero, List.set_cons_succ]))
      (refine still_value (v := ?vq12) (by kernel_rfl) ?dq12 ?rq12; (case dq12 => (go_simp; (try with_reducible rfl))); (case' rq12 => simp only [Act.put, List.setIfInBounds_toArray, List.set_cons_zero, List.set_cons_succ]))
      (refine still_value (v := .pointer (some q)) (by kernel_rfl) ?dq13 ?rq13; (case dq13 => (go_simp; (try with_reducible rfl); (try (intro h; omega)))); (case' rq13 => simp only [Act.put, List.setIfInBounds_toArray, List.set_cons_zero, List.set_cons_succ]))
      (refine still_value (v := .agg (vec 32 (bys y))) (by kernel_rfl) ?dq14 ?rq14; (case dq14 => (exact exec_load_p 30 _ rfl _ rfl _ (load_p HQ.out))); (case' rq14 => simp only [Act.put, List.setIfInBounds_toArray, List.set_cons_zero, List.set_cons_succ]))
      (refine still_value (v := .agg (vec 64 (prV x y))) (by kernel_rfl) ?dq15 ?rq15; (case dq15 => (exact exec_build 108 _ rfl (vec 64 (prV x y)) (by kernel_rfl) _)); (case' rq15 => simp only [Act.put, List.setIfInBounds_toArray, List.set_cons_zero, List.set_cons_succ]))
      refine wpStill_nil ?_
      have hJ1 : J (prs l k) wr.drew := HA.out _ _ _ none hR.out.1 (grown_of_below (below_drew wr)) (fun r e => by cases e)
      obtain ⟨fn, tmps, assign, body, hy, hRR⟩ := HY.out _ (prOf l k) wr.drew hJ1 (by rw [prs_length]; omega)
      rw [encP_of (show k < 4294967296 by omega), ← HXY.out.1, ← HXY.out.2] at hy
      have HR := Lib.hid hRR
      clear hRR hJ1
      gi_wp2
      refine HR.out.mono ?_
      rintro e W3 (⟨rfl, hJ3, hk3⟩ | ⟨rfl, hJx3⟩)
      · have HN := Lib.hid (And.intro hJ3 (K2.trans hR.out.2 (K2.trans (show K2 Bl a.block wr wr.drew from ⟨Nat.le_refl _, rfl, rfl⟩) hk3)))
        clear hJ3 hk3 hy
        gi_wp2
        go_roundw
        case rel => exact ⟨k + 1, by omega, by simp, Lib.hid ⟨by rw [prs_succ]; exact HN.out.1, HN.out.2⟩⟩
        case measure => simp [intOf]; omega
      · gi_wp2
        refine bodyPost_ret (results_none rfl _ _ _) rfl ?_
        exact ⟨⟨_, rfl⟩, .inr ⟨_, trivial, hJx3⟩⟩
    · obtain rfl : k = l.length / 2 := by omega
      have hltI : ¬ ((2 : Int) * ((l.length / 2 : Nat) : Int) + 1 < (l.length : Int)) := by omega
      clear hAt hB
      gi_wp2
      go_end0
      exact ⟨⟨_, rfl⟩, .inl (by first | exact hR.out.1 | exact ⟨_, rfl, hR.out.1⟩)⟩

theorem pairs_stops (n : Nat) (hn : 1 ≤ n) (Bl : Nat) (a : Addr) (cap : Nat) (l : List Nd) (hl : l.length ≤ 1000000) (w : World) (hB : Blk w Bl 31 #[.slice (some a) l.length cap]) (hR : At w a l) (ha : a.block < w.heap.size) :
    SeqStopsK Fence.wide n Tryz.prog 117 #[.pointer (some ⟨Bl, 0, none⟩)] encP (K2 Bl a.block) (fun ys => ys = prs l (l.length / 2)) (fun _ => True) (l.length / 2) w := fun lp J Jx W hW hJ _ hY h0 =>
  pairs1_in n hn lp Bl a cap l hl J Jx hY W hJ (hB.under hW) (hR.same (hW.block _ ha)) h0
end Go.Proofs.YtfeiplaiekbdkaaGreatDoor
/- ltree.raised: what the nodes of a height become. -/
namespace Go.Proofs.YtfeiplaiekbdkaaGreatDoor
open Go.RowKit Go.Shelf
attribute [local go_sem] Oper.semAt_some
attribute [local go_sem ↓ high] zeroV26 zeroVPr

theorem makeN (m : Nat) (hm : m ≤ 1000000) : ∃ C : Array Value, C.size = m * 32 ∧ ∀ w : World, (Instr.makeSlice 31 (.int .i64 0) (.int .i64 (m : Int))).run Tryz.prog w = .ok (.slice (some ⟨w.heap.size, 0, none⟩) 0 m) (w.alloc (.cells C 30)) := by
  obtain ⟨i0, hi, hz0, hz1, hz2⟩ := info_parts infoN
  refine ⟨madeCells (Value.agg (vec 32 (bys zb))).cells (m * 32), size_madeCells _ _, fun w => ?_⟩
  have h := run_make (P := Tryz.prog) (w := w) 31 30 i0 (.agg (vec 32 (bys zb))) Tryz.underlying31 hi hz0 .i64 .i64 0 m (by omega) (by omega) (by rw [hz2]; omega) (by omega)
  rw [hz1] at h
  exact h
theorem made_ownsN (w : World) (base : Nat) (hb : base ≤ w.heap.size) (m : Nat) (C : Array Value) (hC : C.size = m * 32) (hm : 1 ≤ m) (hm2 : m ≤ 1000000) : (w.alloc (.cells C 30)).ownsRow base 30 32 (.slice (some ⟨w.heap.size, 0, none⟩) 0 m) 0 [] :=
  ⟨rfl, .inr ⟨w.heap.size, m, C, rfl, hb, heap_alloc_new w _, Nat.zero_le _, by unfold maxLen; omega, hC, by simp⟩⟩
theorem keepsOthers_belowR {W W' : World} (h : Below W.heap.size W W') : KeepsOthers W W' := ⟨h.size, fun k _ hk _ => (h.block k (Array.getElem?_eq_some_iff.1 hk).1).trans hk⟩
theorem boxed_underR {W W' : World} {B : Nat} {t : TypeId} {v : Value} (h : Boxed W B t v) (hb : Below W.heap.size W W') : Boxed W' B t v := (hb.block B h.lt).trans h
theorem arr_not_row {W : World} {B n : Nat} {t e : TypeId} {f : Nat → Value} (h : Arr W B t n f) (hte : t ≠ e) {base size k : Nat} {v : Value} {xs : List Value} (hr : W.ownsRow base e size v k xs) : some B ≠ v.ownBlock := by
  rcases hr.2 with ⟨rfl, _⟩ | ⟨g, cap, cur, rfl, _, hgb, _⟩
  · simp [Value.ownBlock]
  · intro e'
    obtain rfl : B = g := by simpa [Value.ownBlock] using e'
    have := (show W.heap[B]? = _ from h).symm.trans hgb
    simp at this
    exact hte this.2

/-- What a closure makes of any two neighbours at a height. -/
def JoinOk (jf : Nat) (jcap : Array Value) (h : Nat) (w0 : World) (R : Nat → Nd → Nd → Nd) : Prop :=
  ∀ (i : Nat) (x y : Nd) (W : World), i < 4294967296 → Below w0.heap.size w0 W → Calls Tryz.prog jf (#[.int .u32 (h : Int), .int .u32 (i : Int), .agg (vec 64 (prV x y))] ++ jcap) W fun e W' => e = .returned (.agg (vec 32 (bys (R i x y)))) ∧ Below W.heap.size W W'
def madeP (R : Nat → Nd → Nd → Nd) (pre : List PX) : List Nd := pre.map fun x => R x.1.1 x.1.2.1 x.1.2.2
theorem madeP_snoc (R : Nat → Nd → Nd → Nd) (pre : List PX) (x : PX) : madeP R (pre ++ [x]) = madeP R pre ++ [R x.1.1 x.1.2.1 x.1.2.2] := by simp [madeP]
theorem madeP_length (R : Nat → Nd → Nd → Nd) (pre : List PX) : (madeP R pre).length = pre.length := by simp [madeP]
/-- The nodes of the next height. -/
def raise (R : Nat → Nd → Nd → Nd) (l : List Nd) : List Nd := madeP R (prs l (l.length / 2)) ++ (if l.length % 2 = 1 then [l.getD (l.length - 1) zb] else [])
theorem raise_length (R : Nat → Nd → Nd → Nd) (l : List Nd) : (raise R l).length = (l.length + 1) / 2 := by
  unfold raise
  rw [List.length_append, madeP_length, prs_length]
  split <;> simp <;> omega

/-- What raised keeps from round to round. -/
structure EIr (w : World) (R : Nat → Nd → Nd → Nd) (hv jv lv : Value) (pre : List PX) (W : World) : Prop where
  row : ∃ v, Boxed W (w.heap.size + 1 + 1 + 1) 31 v ∧ W.ownsRow w.heap.size 30 32 v pre.length (cellsN (madeP R pre)) ∧ True
  h : Boxed W w.heap.size 28 hv
  j : Boxed W (w.heap.size + 1) 104 jv
  l : Boxed W (w.heap.size + 1 + 1 + 1 + 1) 31 lv
  b : Below w.heap.size w W
theorem EIr.own (w : World) (R : Nat → Nd → Nd → Nd) (hv jv lv : Value) (B : Nat) (hB : w.heap.size ≤ B) : OwnFrom B (EIr w R hv jv lv) := fun s X Y row hs hg hr =>
  ⟨holdsRow_own w.heap.size (w.heap.size + 1 + 1 + 1) 31 30 32 (fun pre : List PX => pre.length) (fun pre => cellsN (madeP R pre)) (fun _ _ => True) s X Y row hs.row hg (fun r e => (hr r e).2),
   boxed_own w.heap.size 28 (fun _ : List PX => hv) s X Y row hs.h hg (fun r e => (hr r e).2), boxed_own (w.heap.size + 1) 104 (fun _ : List PX => jv) s X Y row hs.j hg (fun r e => (hr r e).2),
   boxed_own (w.heap.size + 1 + 1 + 1 + 1) 31 (fun _ : List PX => lv) s X Y row hs.l hg (fun r e => (hr r e).2), hs.b.grown hg hs.b.size (fun k e => Nat.le_trans hB (hr k e).1)⟩
/-- What a round knows of the boxes that it reads. -/
structure RS (w : World) (hv jv lv : Value) (gp : Nat) (x y : Nd) (Y : World) : Prop where
  h : Boxed Y w.heap.size 28 hv
  j : Boxed Y (w.heap.size + 1) 104 jv
  l : Boxed Y (w.heap.size + 1 + 1 + 1 + 1) 31 lv
  p : Arr Y gp 108 64 (prV x y)
section
variable {w Y Z : World} {hv jv lv : Value} {gp : Nat} {x y : Nd}
theorem RS.under (h : RS w hv jv lv gp x y Y) (hd : Below Y.heap.size Y Z) : RS w hv jv lv gp x y Z := ⟨boxed_underR h.h hd, boxed_underR h.j hd, boxed_underR h.l hd, h.p.under hd⟩
theorem RS.alloc (h : RS w hv jv lv gp x y Y) (o : Obj) : RS w hv jv lv gp x y (Y.alloc o) := ⟨h.h.alloc o, h.j.alloc o, h.l.alloc o, h.p.alloc o⟩
theorem RS.app {base k : Nat} {v : Value} {xs : List Value} (h : RS w hv jv lv gp x y Y) (hr : Y.ownsRow base 30 32 v k xs) (hg : Y.grownBy Z v.ownBlock) : RS w hv jv lv gp x y Z :=
  ⟨h.h.kept hg (h.h.not_row (by decide) hr), h.j.kept hg (h.j.not_row (by decide) hr), h.l.kept hg (h.l.not_row (by decide) hr), h.p.grown hg (arr_not_row h.p (by decide) hr)⟩
theorem RS.set (h : RS w hv jv lv gp x y Y) (hp : gp ≠ w.heap.size + 1 + 1 + 1) (u : Value) : RS w hv jv lv gp x y (Y.setCell ⟨w.heap.size + 1 + 1 + 1, 0, none⟩ u) :=
  ⟨h.h.other (by omega) u, h.j.other (by omega) u, h.l.other (by omega) u, h.p.far (p := ⟨w.heap.size + 1 + 1 + 1, 0, none⟩) hp u⟩
end
set_option maxRecDepth 100000 in
set_option maxHeartbeats 2000000 in
theorem raised_any (a : Addr) (cap : Nat) (l : List Nd) (hl1 : 1 ≤ l.length) (hl : l.length ≤ 1000000) (h : Nat) (jf : Nat) (jcap : Array Value) (ej : ∀ args W, (callFunc jf args).run Tryz.prog W = .ok (.enter jf args) W) (R : Nat → Nd → Nd → Nd) (w : World)
    (hr : At w a l) (ha : a.block < w.heap.size) (hj : JoinOk jf jcap h w R) :
    Calls Tryz.prog 91 #[.slice (some a) l.length cap, .int .u32 (h : Int), .func (.func jf) #[] jcap] w fun e W' => ∃ v, e = .returned v ∧ OwnN W' w.heap.size v (raise R l) ∧ Below w.heap.size w W' := by
  obtain ⟨m, hm⟩ : ∃ m, m = (l.length + 1) / 2 := ⟨_, rfl⟩
  obtain ⟨C, hC, hmk⟩ := makeN m (by omega)
  have hq : ((l.length : Int) + 1) / 2 = (m : Int) := by omega
  have hm1 : 1 ≤ m := by omega
  have HDO := Lib.hid hj
  have HAt := Lib.hid (And.intro hr ha)
  have HM := Lib.hid hm
  clear hj hr ha hm
  refine (callsIn_wide (n := 10)).1 ?_
  refine callsIn_of_wp_marks Tryz.func91 rfl trivial ?_ rfl
  simp only [Tryz.ntmps91, List.size_toArray, List.length_cons, List.length_nil, Nat.reduceAdd, Nat.reduceSub, Array.replicate_succ, Array.replicate_zero, List.push_toArray, List.append_toArray, List.nil_append, List.cons_append]
  gi_wp2_with (refine ⟨trivial, ?_⟩; gi_at_call 107; refine (callsIn_wide.2 (pairs_any (some a) l.length cap _)).mono ?_; rintro e w1 ⟨rfl, rfl⟩)
  obtain ⟨V, hV⟩ : ∃ V, V = ((((w.alloc (.cells #[(.int .u32 (h : Int))] 28)).alloc (.cells #[(.func (.func jf) #[] jcap)] 104)).alloc (.cells C 30)).alloc (.cells #[.slice (some ⟨w.heap.size + 1 + 1, 0, none⟩) 0 m] 31)).alloc (.cells #[(.slice (some a) l.length cap)] 31) := ⟨_, rfl⟩
  have hH : Boxed V w.heap.size 28 (.int .u32 (h : Int)) := by rw [hV]; exact ((((Boxed.new w _ _).alloc _).alloc _).alloc _).alloc _
  have hJ : Boxed V (w.heap.size + 1) 104 (.func (.func jf) #[] jcap) := by rw [hV]; have := (((Boxed.new (w.alloc (.cells #[(.int .u32 (h : Int))] 28)) 104 (.func (.func jf) #[] jcap)).alloc (.cells C 30)).alloc (.cells #[.slice (some ⟨w.heap.size + 1 + 1, 0, none⟩) 0 m] 31)).alloc (.cells #[(.slice (some a) l.length cap)] 31); simpa using this
  have hO : V.ownsRow w.heap.size 30 32 (.slice (some ⟨w.heap.size + 1 + 1, 0, none⟩) 0 m) 0 [] := by
    have := ownsN_below (ownsN_below (made_ownsN ((w.alloc (.cells #[(.int .u32 (h : Int))] 28)).alloc (.cells #[(.func (.func jf) #[] jcap)] 104)) w.heap.size (by simp; omega) m C hC hm1 (by omega)) ((Below.refl _ _).alloc (Nat.le_refl _) (.cells #[.slice (some ⟨w.heap.size + 1 + 1, 0, none⟩) 0 m] 31))) ((Below.refl _ _).alloc (Nat.le_refl _) (.cells #[(.slice (some a) l.length cap)] 31))
    rw [hV]
    simpa using this
  have hX : Boxed V (w.heap.size + 1 + 1 + 1) 31 (.slice (some ⟨w.heap.size + 1 + 1, 0, none⟩) 0 m) := by
    have := (Boxed.new (((w.alloc (.cells #[(.int .u32 (h : Int))] 28)).alloc (.cells #[(.func (.func jf) #[] jcap)] 104)).alloc (.cells C 30)) 31 (.slice (some ⟨w.heap.size + 1 + 1, 0, none⟩) 0 m)).alloc (.cells #[(.slice (some a) l.length cap)] 31)
    rw [hV]
    simpa using this
  have hL : Boxed V (w.heap.size + 1 + 1 + 1 + 1) 31 (.slice (some a) l.length cap) := by
    have := Boxed.new ((((w.alloc (.cells #[(.int .u32 (h : Int))] 28)).alloc (.cells #[(.func (.func jf) #[] jcap)] 104)).alloc (.cells C 30)).alloc (.cells #[.slice (some ⟨w.heap.size + 1 + 1, 0, none⟩) 0 m] 31)) 31 (.slice (some a) l.length cap)
    rw [hV]
    simpa using this
  have hB : Below w.heap.size w V := by rw [hV]; exact ((((((Below.refl _ _).alloc (by simp <;> omega) _).alloc (by simp <;> omega) _).alloc (by simp <;> omega) _).alloc (by simp <;> omega) _).alloc (by simp <;> omega) _)
  have hsz : V.heap.size = w.heap.size + 5 := by rw [hV]; simp
  have hLV : V = ((((w.alloc (.cells #[(.int .u32 (h : Int))] 28)).alloc (.cells #[(.func (.func jf) #[] jcap)] 104)).alloc (.cells C 30)).alloc (.cells #[.slice (some ⟨w.heap.size + 1 + 1, 0, none⟩) 0 m] 31)).alloc (.cells #[(.slice (some a) l.length cap)] 31) := hV
  have hsq := pairs_stops 9 (by decide) (w.heap.size + 1 + 1 + 1 + 1) a cap l hl V (show Blk V (w.heap.size + 1 + 1 + 1 + 1) 31 #[(.slice (some a) l.length cap)] from hL) (HAt.out.1.same (hB.block _ HAt.out.2)) (Nat.lt_of_lt_of_le HAt.out.2 hB.size)
  rw [← hV]
  clear hV hmk hC hLV
  refine wpIn_rangeFunc_ownH rfl (by omega) (gf := 117) (lb := #[.pointer (some ⟨w.heap.size + 1 + 1 + 1 + 1, 0, none⟩)]) rfl trivial (fun _ _ => rfl) hsq
    K2.trans (fun W l o o' hl _ _ _ => K2.putObj _ (by omega) (by have := HAt.out.2; omega)) (Below.refl _ _) (fun _ => rfl)
    (EIr w R (.int .u32 (h : Int)) (.func (.func jf) #[] jcap) (.slice (some a) l.length cap))
    (fun _ _ _ => False)
    (EIr.own w R (.int .u32 (h : Int)) (.func (.func jf) #[] jcap) (.slice (some a) l.length cap) V.heap.size hB.size)
    (fun _ _ _ _ _ hs _ _ => hs)
    ⟨⟨_, hX, hO, trivial⟩, hH, hJ, hL, hB⟩
    (fun x a' W' => ∃ gp, w.heap.size + 1 + 1 + 1 + 1 < gp ∧ Arr W' gp 108 64 (prV x.1.2.1 x.1.2.2) ∧ a' = { tmps := #[.slice (some a) l.length cap, .int .u32 (h : Int), .func (.func jf) #[] jcap, undef, .pointer (some ⟨w.heap.size, 0, none⟩), .pointer (some ⟨w.heap.size + 1, 0, none⟩), .slice none 0 0, .pointer (some ⟨w.heap.size + 1 + 1 + 1, 0, none⟩), .int .u32 (x.1.1 : Int), .pointer (some ⟨gp, 0, none⟩), .slice (some a) l.length cap, .int .i64 (l.length : Int), .int .i64 ((l.length : Int) + 1), .int .i64 (m : Int), .slice (some ⟨w.heap.size + 1 + 1, 0, none⟩) 0 m, .slice (some a) l.length cap, .func (.func 117) #[] #[.pointer (some ⟨w.heap.size + 1 + 1 + 1 + 1, 0, none⟩)], .int .u32 (x.1.1 : Int), .agg (vec 64 (prV x.1.2.1 x.1.2.2)), undef, undef, undef, undef, undef, undef, undef, undef, undef, undef, undef, undef, undef, undef, undef, undef, undef, undef, undef, undef, undef, undef], defers := [] })
    ?hax ?assign ?body ?done ?stop
  case hax =>
    rintro x a' _ X Y row ⟨gp, hgp, hp, ha⟩ hg hr
    refine ⟨gp, hgp, hp.grown hg (fun e => ?_), ha⟩
    obtain ⟨_, o, ho, hc⟩ := hr gp e.symm
    rw [show X.heap[gp]? = _ from hp] at ho; cases ho; cases hc
  case assign =>
    rintro lq pre ⟨⟨i, x, y⟩, hx⟩ W K hI hK
    unfold encP
    have hle : w.heap.size + 5 ≤ W.heap.size := by have := hI.l.lt; omega
    gi_wp2_with ((with_reducible show wpListIn _ _ _ _ _ (Oper.mk _ (.store _ _ _) _ _ _ _ :: _) _ _); refine wli_store rfl 108 _ _ rfl _ rfl _ rfl (run_store_arr (Arr.new W _ _ _) (prV x y) infoPr (prV_one _ _ _)) ?_)
    have hb : Below W.heap.size W ((W.alloc (.cells (vec 64 (prV zb zb)) 108)).setRow W.heap.size (vec 64 (prV x y))) := below_row ((Below.refl _ _).alloc (Nat.le_refl _) _) (Nat.le_refl _) _
    exact hK _ _ ((keepsOthers_belowR hb).from _) (K2.of_below hb (by omega) (by have := HAt.out.2; omega)) (EIr.own w R _ _ _ V.heap.size hB.size _ W _ none hI (grown_of_below hb) (fun r e => by cases e)) ⟨W.heap.size, by omega, (Arr.new W _ _ _).row _, rfl⟩
  case body =>
    rintro lq pre ⟨⟨i, x, y⟩, hx⟩ a' W hl' ⟨r, hr⟩ ⟨⟨v, hv, hrow, _⟩, hHb, hJb, hLb, hbl⟩ ⟨gp, hgp, hp, rfl⟩ hlt
    have hle : w.heap.size ≤ W.heap.size := hbl.size
    have HI := Lib.hid (And.intro hbl hle)
    have HV : Hid (Boxed W.drew (w.heap.size + 1 + 1 + 1) 31 v) := Lib.hid hv
    have HR := Lib.hid hrow
    have HL0 := Lib.hid hLb
    have HS : Hid (RS w (.int .u32 (h : Int)) (.func (.func jf) #[] jcap) (.slice (some a) l.length cap) gp x y W.drew) := Lib.hid ⟨hHb, hJb, hLb, hp⟩
    have HN : Hid (pre.length < 1000000 ∧ gp ≠ (w.heap.size + 1 + 1 + 1)) := Lib.hid ⟨by omega, by omega⟩
    have hne : (31 : TypeId) ≠ 30 := by decide
    clear hv hrow hHb hJb hLb hp hbl hr hl' hle hgp hlt
    gi_upto_region 5 with fail
    refine wpIn_region_held_drew (S := fun Y => RS w (.int .u32 (h : Int)) (.func (.func jf) #[] jcap) (.slice (some a) l.length cap) gp x y Y) (by kernel_rfl) (by kernel_rfl) (by rintro ⟨_, _, h⟩; exact h) HS.out (fun hS => ?_)
    (refine held_take (i := 1) (oi := ?ot1) (v := (.func (.func jf) #[] jcap)) ?at1 (by kernel_rfl) (by kernel_rfl) (by kernel_rfl) ?bt1 ?ct1 ?dt1 (by assumption) ?rt1; (case at1 => (simp only [List.getElem?_toArray, List.getElem?_cons_zero, List.getElem?_cons_succ]; rfl)); (case bt1 => exact fun _ _ _ h => h); (case ct1 => kernel_rfl); (case dt1 => (intro W hW; have hc := hW.j.cell; clear hW; go_simp; (try with_reducible rfl))); (case' rt1 => simp only [Act.put, List.setIfInBounds_toArray, List.set_cons_zero, List.set_cons_succ]))
    (refine held_take (i := 2) (oi := ?ot2) (v := (.int .u32 (h : Int))) ?at2 (by kernel_rfl) (by kernel_rfl) (by kernel_rfl) ?bt2 ?ct2 ?dt2 (by assumption) ?rt2; (case at2 => (simp only [List.getElem?_toArray, List.getElem?_cons_zero, List.getElem?_cons_succ]; rfl)); (case bt2 => exact fun _ _ _ h => h); (case ct2 => kernel_rfl); (case dt2 => (intro W hW; have hc := hW.h.cell; clear hW; go_simp; (try with_reducible rfl))); (case' rt2 => simp only [Act.put, List.setIfInBounds_toArray, List.set_cons_zero, List.set_cons_succ]))
    (refine held_take (i := 3) (oi := ?ot3) (v := ?vt3) ?at3 (by kernel_rfl) (by kernel_rfl) (by kernel_rfl) ?bt3 ?ct3 ?dt3 (by assumption) ?rt3; (case at3 => (simp only [List.getElem?_toArray, List.getElem?_cons_zero, List.getElem?_cons_succ]; rfl)); (case bt3 => exact fun _ _ _ h => h); (case ct3 => kernel_rfl); (case dt3 => (intro W hW; (try dsimp only at hW); go_split_ands; go_simp; (try with_reducible rfl))); (case' rt3 => simp only [Act.put, List.setIfInBounds_toArray, List.set_cons_zero, List.set_cons_succ]))
    (refine held_take (i := 4) (oi := ?ot4) (v := .agg (vec 64 (prV x y))) ?at4 (by kernel_rfl) (by kernel_rfl) (by kernel_rfl) ?bt4 ?ct4 ?dt4 (by assumption) ?rt4; (case at4 => (simp only [List.getElem?_toArray, List.getElem?_cons_zero, List.getElem?_cons_succ]; rfl)); (case bt4 => exact fun _ _ _ h => h); (case ct4 => kernel_rfl); (case dt4 => (intro W hW; exact exec_load 108 _ rfl _ rfl _ (run_load_arr hW.p Tryz.underlying108 rfl infoPr))); (case' rt4 => simp only [Act.put, List.setIfInBounds_toArray, List.set_cons_zero, List.set_cons_succ]))
    refine held_two (i := 0) (j := 5) (oi := ?oit16) (oj := ?ojt16) (by kernel_rfl) ?ait16 ?ajt16 ?cit16 ?cjt16 (fun K0 hK0 => ?hit16) (fun K5 hK5 => ?hjt16)
    (case ait16 => (simp only [List.getElem?_toArray, List.getElem?_cons_zero]; rfl))
    (case ajt16 => (simp only [List.getElem?_toArray, List.getElem?_cons_zero, List.getElem?_cons_succ]; rfl))
    (case cit16 => kernel_rfl)
    (case cjt16 => kernel_rfl)
    case hit16 =>
      have hc := HV.out.cell
      go_simp
      refine hK0 _ _ hS (fun hS0 => ?_)
      clear hc hK0 K0
      refine held_one (i := 5) (oi := ?ot5) (by kernel_rfl) ?at5 ?ct5 (fun K5 hK5 => ?_)
      (case at5 => (simp only [List.getElem?_toArray, List.getElem?_cons_zero, List.getElem?_cons_succ]; rfl))
      (case ct5 => kernel_rfl)
      go_simp
      refine (HDO.out i x y _ hx (below_drewN HI.out.1 1)).mono ?_
      rintro e y4 ⟨rfl, hd⟩
      have HV := Lib.hid (boxed_underR HV.out hd)
      have HR4 := Lib.hid (ownsN_below (w := W.drew) HR.out hd)
      have HD4 := Lib.hid (show Below W.heap.size W y4 from ⟨hd.1, hd.2, hd.3, hd.4, hd.5⟩)
      refine hK5 _ _ (hS0.under hd) (fun hS5 => ?_)
      clear hd hK5 K5
      refine held_one (i := 6) (oi := ?ot6) (by kernel_rfl) ?at6 ?ct6 (fun K6 hK6 => ?_)
      (case at6 => (simp only [List.getElem?_toArray, List.getElem?_cons_zero, List.getElem?_cons_succ]; rfl))
      (case ct6 => kernel_rfl)
      refine ow_build1 _ rfl (R i x y) rfl ?_
      refine hK6 _ _ (hS5.alloc _) (fun hS6 => ?_)
      clear hK6 K6
      have HV4 := HV
      have HV := Lib.hid (HV4.out.alloc (.cells (vec 32 (bys (R i x y))) 30))
      refine held_one (i := 7) (oi := ?ot7) (by kernel_rfl) ?at7 ?ct7 (fun K7 hK7 => ?_)
      (case at7 => (simp only [List.getElem?_toArray, List.getElem?_cons_zero, List.getElem?_cons_succ]; rfl))
      (case ct7 => kernel_rfl)
      obtain ⟨v6, y6, hr6, hown6, hg6⟩ := app_own (HR4.out.alloc (.cells (vec 32 (bys (R i x y))) 30)) (Arr.new y4 30 32 (bys (R i x y))) (Nat.le_of_lt HN.out.1) (by have := HI.out.2; have := HD4.out.size; simp; omega) 31
      have hap := Boxed.appended HV4.out hne HR4.out (Nat.le_trans HI.out.2 HD4.out.size) (show w.heap.size ≤ w.heap.size + 1 + 1 + 1 by omega) hown6 hg6
      refine Lib.wp_append_run _ _ _ _ _ rfl _ _ rfl rfl _ _ hr6 ?_
      refine hK7 _ _ (hS6.app (HR4.out.alloc (.cells (vec 32 (bys (R i x y))) 30)) hg6) (fun hS7 => ?_)
      have HAP := Lib.hid hap
      clear hK7 K7 hr6 hap hg6
      refine held_one (i := 8) (oi := ?ot8) (by kernel_rfl) ?at8 ?ct8 (fun K8 hK8 => ?_)
      (case at8 => (simp only [List.getElem?_toArray, List.getElem?_cons_zero, List.getElem?_cons_succ]; rfl))
      (case ct8 => kernel_rfl)
      obtain ⟨g7, c7, rfl⟩ := ownsRow_succ hown6
      have hc := HAP.out.1.cell
      have hf := HAP.out.1.frozen
      have hSb := hS7
      go_simp
      refine hK8 _ _ (hSb.set HN.out.2 _) (fun hS8 => ?_)
      clear hK8 K8 hc hf
      refine wpAnyH_done (by kernel_rfl) ?_ _
      refine ⟨((keepsOthers_belowR HD4.out).trans HAP.out.2.2.2.1).from _, ⟨Nat.le_trans HD4.out.size HAP.out.2.2.2.1.size, (show _ = _ from hS8.l).trans (show _ = _ from HL0.out).symm, ((HD4.out.mono HI.out.2).trans HAP.out.2.2.2.2).block _ HAt.out.2⟩, ⟨⟨_, HAP.out.2.1, ?_, trivial⟩, hS8.h, hS8.j, hS8.l, HI.out.1.trans ((HD4.out.mono HI.out.2).trans HAP.out.2.2.2.2)⟩⟩
      rw [madeP_snoc, cellsN_snoc, List.length_append]
      exact HAP.out.2.2.1
    case hjt16 =>
      go_simp
      refine (HDO.out i x y _ hx (below_drewN HI.out.1 1)).mono ?_
      rintro e y4 ⟨rfl, hd⟩
      have HV := Lib.hid (boxed_underR HV.out hd)
      have HR4 := Lib.hid (ownsN_below (w := W.drew) HR.out hd)
      have HD4 := Lib.hid (show Below W.heap.size W y4 from ⟨hd.1, hd.2, hd.3, hd.4, hd.5⟩)
      refine hK5 _ _ (hS.under hd) (fun hS5 => ?_)
      clear hd hK5 K5
      refine held_two (i := 0) (j := 6) (oi := ?oit15) (oj := ?ojt15) (by kernel_rfl) ?ait15 ?ajt15 ?cit15 ?cjt15 (fun K0 hK0 => ?hit15) (fun K6 hK6 => ?hjt15)
      (case ait15 => (simp only [List.getElem?_toArray, List.getElem?_cons_zero]; rfl))
      (case ajt15 => (simp only [List.getElem?_toArray, List.getElem?_cons_zero, List.getElem?_cons_succ]; rfl))
      (case cit15 => kernel_rfl)
      (case cjt15 => kernel_rfl)
      case hit15 =>
        have hc := HV.out.cell
        go_simp
        refine hK0 _ _ hS5 (fun hS0 => ?_)
        clear hc hK0 K0
        refine held_one (i := 6) (oi := ?ot9) (by kernel_rfl) ?at9 ?ct9 (fun K6 hK6 => ?_)
        (case at9 => (simp only [List.getElem?_toArray, List.getElem?_cons_zero, List.getElem?_cons_succ]; rfl))
        (case ct9 => kernel_rfl)
        refine ow_build1 _ rfl (R i x y) rfl ?_
        refine hK6 _ _ (hS0.alloc _) (fun hS6 => ?_)
        clear hK6 K6
        have HV4 := HV
        have HV := Lib.hid (HV4.out.alloc (.cells (vec 32 (bys (R i x y))) 30))
        refine held_one (i := 7) (oi := ?ot10) (by kernel_rfl) ?at10 ?ct10 (fun K7 hK7 => ?_)
        (case at10 => (simp only [List.getElem?_toArray, List.getElem?_cons_zero, List.getElem?_cons_succ]; rfl))
        (case ct10 => kernel_rfl)
        obtain ⟨v6, y6, hr6, hown6, hg6⟩ := app_own (HR4.out.alloc (.cells (vec 32 (bys (R i x y))) 30)) (Arr.new y4 30 32 (bys (R i x y))) (Nat.le_of_lt HN.out.1) (by have := HI.out.2; have := HD4.out.size; simp; omega) 31
        have hap := Boxed.appended HV4.out hne HR4.out (Nat.le_trans HI.out.2 HD4.out.size) (show w.heap.size ≤ w.heap.size + 1 + 1 + 1 by omega) hown6 hg6
        refine Lib.wp_append_run _ _ _ _ _ rfl _ _ rfl rfl _ _ hr6 ?_
        refine hK7 _ _ (hS6.app (HR4.out.alloc (.cells (vec 32 (bys (R i x y))) 30)) hg6) (fun hS7 => ?_)
        have HAP := Lib.hid hap
        clear hK7 K7 hr6 hap hg6
        refine held_one (i := 8) (oi := ?ot11) (by kernel_rfl) ?at11 ?ct11 (fun K8 hK8 => ?_)
        (case at11 => (simp only [List.getElem?_toArray, List.getElem?_cons_zero, List.getElem?_cons_succ]; rfl))
        (case ct11 => kernel_rfl)
        obtain ⟨g7, c7, rfl⟩ := ownsRow_succ hown6
        have hc := HAP.out.1.cell
        have hf := HAP.out.1.frozen
        have hSb := hS7
        go_simp
        refine hK8 _ _ (hSb.set HN.out.2 _) (fun hS8 => ?_)
        clear hK8 K8 hc hf
        refine wpAnyH_done (by kernel_rfl) ?_ _
        refine ⟨((keepsOthers_belowR HD4.out).trans HAP.out.2.2.2.1).from _, ⟨Nat.le_trans HD4.out.size HAP.out.2.2.2.1.size, (show _ = _ from hS8.l).trans (show _ = _ from HL0.out).symm, ((HD4.out.mono HI.out.2).trans HAP.out.2.2.2.2).block _ HAt.out.2⟩, ⟨⟨_, HAP.out.2.1, ?_, trivial⟩, hS8.h, hS8.j, hS8.l, HI.out.1.trans ((HD4.out.mono HI.out.2).trans HAP.out.2.2.2.2)⟩⟩
        rw [madeP_snoc, cellsN_snoc, List.length_append]
        exact HAP.out.2.2.1
      case hjt15 =>
        refine ow_build1 _ rfl (R i x y) rfl ?_
        refine hK6 _ _ (hS5.alloc _) (fun hS6 => ?_)
        clear hK6 K6
        have HV4 := HV
        have HV := Lib.hid (HV4.out.alloc (.cells (vec 32 (bys (R i x y))) 30))
        refine held_one (i := 0) (oi := ?ot12) (by kernel_rfl) ?at12 ?ct12 (fun K0 hK0 => ?_)
        (case at12 => (simp only [List.getElem?_toArray, List.getElem?_cons_zero]; rfl))
        (case ct12 => kernel_rfl)
        have hc := HV.out.cell
        go_simp
        refine hK0 _ _ hS6 (fun hS0 => ?_)
        clear hc hK0 K0
        refine held_one (i := 7) (oi := ?ot13) (by kernel_rfl) ?at13 ?ct13 (fun K7 hK7 => ?_)
        (case at13 => (simp only [List.getElem?_toArray, List.getElem?_cons_zero, List.getElem?_cons_succ]; rfl))
        (case ct13 => kernel_rfl)
        obtain ⟨v6, y6, hr6, hown6, hg6⟩ := app_own (HR4.out.alloc (.cells (vec 32 (bys (R i x y))) 30)) (Arr.new y4 30 32 (bys (R i x y))) (Nat.le_of_lt HN.out.1) (by have := HI.out.2; have := HD4.out.size; simp; omega) 31
        have hap := Boxed.appended HV4.out hne HR4.out (Nat.le_trans HI.out.2 HD4.out.size) (show w.heap.size ≤ w.heap.size + 1 + 1 + 1 by omega) hown6 hg6
        refine Lib.wp_append_run _ _ _ _ _ rfl _ _ rfl rfl _ _ hr6 ?_
        refine hK7 _ _ (hS0.app (HR4.out.alloc (.cells (vec 32 (bys (R i x y))) 30)) hg6) (fun hS7 => ?_)
        have HAP := Lib.hid hap
        clear hK7 K7 hr6 hap hg6
        refine held_one (i := 8) (oi := ?ot14) (by kernel_rfl) ?at14 ?ct14 (fun K8 hK8 => ?_)
        (case at14 => (simp only [List.getElem?_toArray, List.getElem?_cons_zero, List.getElem?_cons_succ]; rfl))
        (case ct14 => kernel_rfl)
        obtain ⟨g7, c7, rfl⟩ := ownsRow_succ hown6
        have hc := HAP.out.1.cell
        have hf := HAP.out.1.frozen
        have hSb := hS7
        go_simp
        refine hK8 _ _ (hSb.set HN.out.2 _) (fun hS8 => ?_)
        clear hK8 K8 hc hf
        refine wpAnyH_done (by kernel_rfl) ?_ _
        refine ⟨((keepsOthers_belowR HD4.out).trans HAP.out.2.2.2.1).from _, ⟨Nat.le_trans HD4.out.size HAP.out.2.2.2.1.size, (show _ = _ from hS8.l).trans (show _ = _ from HL0.out).symm, ((HD4.out.mono HI.out.2).trans HAP.out.2.2.2.2).block _ HAt.out.2⟩, ⟨⟨_, HAP.out.2.1, ?_, trivial⟩, hS8.h, hS8.j, hS8.l, HI.out.1.trans ((HD4.out.mono HI.out.2).trans HAP.out.2.2.2.2)⟩⟩
        rw [madeP_snoc, cellsN_snoc, List.length_append]
        exact HAP.out.2.2.1
  case done =>
    rintro D ys W hD rfl ⟨⟨v, hv, hrow, _⟩, hHb, hJb, hLb, hbl⟩ hK
    have hc := hv.cell
    have hf := hv.frozen
    have hAt : At W.drew a l := HAt.out.1.same (hbl.block _ HAt.out.2)
    by_cases hodd : l.length % 2 = 1
    · have hrem : (l.length : Int) % 2 = 1 := by omega
      obtain ⟨k0, hk0⟩ : ∃ k0, k0 = l.length - 1 := ⟨_, rfl⟩
      have hlk : k0 < l.length := by omega
      obtain ⟨p, hp, hpc⟩ := hAt.get hlk
      obtain ⟨x, hx⟩ : ∃ x, x = l.getD k0 zb := ⟨_, rfl⟩
      rw [← hx] at hpc
      have HP0 := Lib.hid hpc
      have HV0 : Hid (Boxed W.drew (w.heap.size + 1 + 1 + 1) 31 v) := Lib.hid hv
      have HR0 : Hid (W.drew.ownsRow w.heap.size 30 32 v (prs l (l.length / 2)).length (cellsN (madeP R (prs l (l.length / 2))))) := Lib.hid hrow
      have hle : w.heap.size ≤ W.heap.size := hbl.size
      have HB0 : Hid (Below w.heap.size w W.drew) := Lib.hid ⟨hbl.os, hbl.tape, hbl.output, hbl.size, hbl.block⟩
      have HN2 : Hid (p.block < w.heap.size) := Lib.hid (by rw [← hp, addr_add_block]; exact HAt.out.2)
      have HK0 : Hid (W.drew.heap[D]? = some (.deferred (some []))) := Lib.hid hK
      have HX : Hid (raise R l = madeP R (prs l (l.length / 2)) ++ [x]) := Lib.hid (by unfold raise; rw [if_pos hodd, hx, hk0])
      have hw : IntKind.i64.wrap ((l.length : Int) - 1) = (k0 : Int) := by rw [IntKind.wrap_i64]; omega
      have hne : (31 : TypeId) ≠ 30 := by decide
      have HD := Lib.hid hD
      have HN : Hid ((prs l (l.length / 2)).length ≤ 1000000) := Lib.hid (by rw [prs_length]; omega)
      clear hAt hpc hv hrow hHb hJb hLb hbl hK hx hk0 hle hD
      gi_wp2_with fail
      refine wpIn_then_false ?_
      refine wpIn_region_held_wide (S := fun Y => Below w.heap.size w Y) (by kernel_rfl) (by rintro ⟨_, _, h⟩; exact h) HB0.out (fun Wd hWd hS => ?_)
      have HV : Hid (Boxed Wd (w.heap.size + 1 + 1 + 1) 31 v) := Lib.hid (by rw [hWd]; exact HV0.out)
      have HR : Hid (Wd.ownsRow w.heap.size 30 32 v (prs l (l.length / 2)).length (cellsN (madeP R (prs l (l.length / 2))))) := Lib.hid (by rw [hWd]; exact HR0.out)
      have HK : Hid (Wd.heap[D]? = some (.deferred (some []))) := Lib.hid (by rw [hWd]; exact HK0.out)
      have HB : Hid (Below w.heap.size w Wd ∧ w.heap.size ≤ Wd.heap.size) := Lib.hid ⟨hS, hS.size⟩
      have HP : Hid (∀ i, i < 32 → Wd.cell? (p.add i) = some (bys x i)) := Lib.hid (by rw [hWd]; exact HP0.out)
      clear hWd HV0 HR0 HK0 HB0 HP0 hc hf
      (refine held_take (i := 1) (oi := ?ot17) (v := ?vt17) ?at17 (by kernel_rfl) (by kernel_rfl) (by kernel_rfl) ?bt17 ?ct17 ?dt17 (by assumption) ?rt17; (case at17 => (simp only [List.getElem?_toArray, List.getElem?_cons_zero, List.getElem?_cons_succ]; rfl)); (case bt17 => exact fun _ _ _ h => h); (case ct17 => kernel_rfl); (case dt17 => (intro W hW; (try dsimp only at hW); go_split_ands; go_simp; (try with_reducible rfl))); (case' rt17 => simp only [Act.put, List.setIfInBounds_toArray, List.set_cons_zero, List.set_cons_succ]))
      (refine held_take (i := 2) (oi := ?ot18) (v := ?vt18) ?at18 (by kernel_rfl) (by kernel_rfl) (by kernel_rfl) ?bt18 ?ct18 ?dt18 (by assumption) ?rt18; (case at18 => (simp only [List.getElem?_toArray, List.getElem?_cons_zero, List.getElem?_cons_succ]; rfl)); (case bt18 => exact fun _ _ _ h => h); (case ct18 => kernel_rfl); (case dt18 => (intro W hW; (try dsimp only at hW); go_split_ands; go_simp; (try with_reducible rfl))); (case' rt18 => simp only [Act.put, List.setIfInBounds_toArray, List.set_cons_zero, List.set_cons_succ]))
      (refine held_take (i := 3) (oi := ?ot19) (v := ?vt19) ?at19 (by kernel_rfl) (by kernel_rfl) (by kernel_rfl) ?bt19 ?ct19 ?dt19 (by assumption) ?rt19; (case at19 => (simp only [List.getElem?_toArray, List.getElem?_cons_zero, List.getElem?_cons_succ]; rfl)); (case bt19 => exact fun _ _ _ h => h); (case ct19 => kernel_rfl); (case dt19 => (intro W hW; (try dsimp only at hW); go_split_ands; go_simp; (try with_reducible rfl))); (case' rt19 => simp only [Act.put, List.setIfInBounds_toArray, List.set_cons_zero, List.set_cons_succ]))
      (refine held_take (i := 4) (oi := ?ot20) (v := ?vt20) ?at20 (by kernel_rfl) (by kernel_rfl) (by kernel_rfl) ?bt20 ?ct20 ?dt20 (by assumption) ?rt20; (case at20 => (simp only [List.getElem?_toArray, List.getElem?_cons_zero, List.getElem?_cons_succ]; rfl)); (case bt20 => exact fun _ _ _ h => h); (case ct20 => kernel_rfl); (case dt20 => (intro W hW; (try dsimp only at hW); go_split_ands; go_simp; (try with_reducible rfl))); (case' rt20 => simp only [Act.put, List.setIfInBounds_toArray, List.set_cons_zero, List.set_cons_succ]))
      (refine held_take (i := 5) (oi := ?ot21) (v := .pointer (some p)) ?at21 (by kernel_rfl) (by kernel_rfl) (by kernel_rfl) ?bt21 ?ct21 ?dt21 (by assumption) ?rt21; (case at21 => (simp only [List.getElem?_toArray, List.getElem?_cons_zero, List.getElem?_cons_succ]; rfl)); (case bt21 => exact fun _ _ _ h => h); (case ct21 => kernel_rfl); (case dt21 => (intro W hW; clear hW; go_simp; (try with_reducible rfl); (try (intro h; omega)))); (case' rt21 => simp only [Act.put, List.setIfInBounds_toArray, List.set_cons_zero, List.set_cons_succ]))
      (refine held_take (i := 6) (oi := ?ot22) (v := .agg (vec 32 (bys x))) ?at22 (by kernel_rfl) (by kernel_rfl) (by kernel_rfl) ?bt22 ?ct22 ?dt22 (by assumption) ?rt22; (case at22 => (simp only [List.getElem?_toArray, List.getElem?_cons_zero, List.getElem?_cons_succ]; rfl)); (case bt22 => exact fun _ _ _ h => h); (case ct22 => kernel_rfl); (case dt22 => (intro W hW; exact exec_load_p 30 _ rfl p rfl _ (load_p fun i hi => (World.cell?_of_block (a := p.add i) (by rw [addr_add_block]; exact (hW.block _ HN2.out).trans (HB.out.1.block _ HN2.out).symm)).trans (HP.out i hi)))); (case' rt22 => simp only [Act.put, List.setIfInBounds_toArray, List.set_cons_zero, List.set_cons_succ]))
      refine held_two (i := 0) (j := 7) (oi := ?oit29) (oj := ?ojt29) (by kernel_rfl) ?ait29 ?ajt29 ?cit29 ?cjt29 (fun K0 hK0 => ?hit29) (fun K7 hK7 => ?hjt29)
      (case ait29 => (simp only [List.getElem?_toArray, List.getElem?_cons_zero]; rfl))
      (case ajt29 => (simp only [List.getElem?_toArray, List.getElem?_cons_zero, List.getElem?_cons_succ]; rfl))
      (case cit29 => kernel_rfl)
      (case cjt29 => kernel_rfl)
      case hit29 =>
        have hc := HV.out.cell
        go_simp
        refine hK0 _ _ hS (fun hS0 => ?_)
        clear hc hK0 K0
        refine held_one (i := 7) (oi := ?ot23) (by kernel_rfl) ?at23 ?ct23 (fun K7 hK7 => ?_)
        (case at23 => (simp only [List.getElem?_toArray, List.getElem?_cons_zero, List.getElem?_cons_succ]; rfl))
        (case ct23 => kernel_rfl)
        refine ow_build1 _ rfl x rfl ?_
        refine hK7 _ _ (hS0.alloc HB.out.2 _) (fun hS7 => ?_)
        clear hK7 K7
        have HV4 := HV
        have HV := Lib.hid (HV4.out.alloc (.cells (vec 32 (bys x)) 30))
        refine held_one (i := 8) (oi := ?ot24) (by kernel_rfl) ?at24 ?ct24 (fun K8 hK8 => ?_)
        (case at24 => (simp only [List.getElem?_toArray, List.getElem?_cons_zero, List.getElem?_cons_succ]; rfl))
        (case ct24 => kernel_rfl)
        obtain ⟨v6, y6, hr6, hown6, hg6⟩ := app_own (HR.out.alloc (.cells (vec 32 (bys x)) 30)) (Arr.new Wd 30 32 (bys x)) HN.out (by have := HB.out.2; simp; omega) 31
        have hap := Boxed.appended HV4.out hne HR.out HB.out.2 (show w.heap.size ≤ w.heap.size + 1 + 1 + 1 by omega) hown6 hg6
        refine Lib.wp_append_run _ _ _ _ _ rfl _ _ rfl rfl _ _ hr6 ?_
        refine hK8 _ _ (Below.grown hS7 hg6 hS7.size (fun q hq => ((HR.out.alloc (.cells (vec 32 (bys x)) 30)).lt q hq).1)) (fun hS8 => ?_)
        have HAP := Lib.hid hap
        clear hK8 K8 hr6 hap hg6
        refine held_one (i := 9) (oi := ?ot25) (by kernel_rfl) ?at25 ?ct25 (fun K9 hK9 => ?_)
        (case at25 => (simp only [List.getElem?_toArray, List.getElem?_cons_zero, List.getElem?_cons_succ]; rfl))
        (case ct25 => kernel_rfl)
        obtain ⟨g7, c7, rfl⟩ := ownsRow_succ hown6
        have hc := HAP.out.1.cell
        have hf := HAP.out.1.frozen
        have hSb := hS8
        go_simp
        refine hK9 _ _ (hSb.setCell (p := ⟨w.heap.size + 1 + 1 + 1, 0, none⟩) (show w.heap.size ≤ w.heap.size + 1 + 1 + 1 by omega) _) (fun hS9 => ?_)
        clear hK9 K9 hc hf
        refine wpAnyH_done (by kernel_rfl) ?_ _
        have hc2 := HAP.out.2.1.cell
        gi_wp2
        have hK := HAP.out.2.2.2.1.same _ _ HK.out rfl
        refine ⟨by simp, .inl ⟨_, _, rfl, run_takeDeferred hK, ?_⟩⟩
        refine ⟨_, results_tmp rfl _ _ _, _, rfl, ?_, HB.out.1.trans (HAP.out.2.2.2.2.trans (belowK_b (w := w) (Nat.le_refl _) _ D _ _ (by have := HD.out; omega) hK rfl rfl))⟩
        have h2 := ownsRow_putObj HAP.out.2.2.1 (.deferred none) hK rfl
        unfold OwnN
        rw [HX.out, List.length_append, madeP_length, cellsN_snoc]
        exact h2
      case hjt29 =>
        refine ow_build1 _ rfl x rfl ?_
        refine hK7 _ _ (hS.alloc HB.out.2 _) (fun hS7 => ?_)
        clear hK7 K7
        have HV4 := HV
        have HV := Lib.hid (HV4.out.alloc (.cells (vec 32 (bys x)) 30))
        refine held_one (i := 0) (oi := ?ot26) (by kernel_rfl) ?at26 ?ct26 (fun K0 hK0 => ?_)
        (case at26 => (simp only [List.getElem?_toArray, List.getElem?_cons_zero]; rfl))
        (case ct26 => kernel_rfl)
        have hc := HV.out.cell
        go_simp
        refine hK0 _ _ hS7 (fun hS0 => ?_)
        clear hc hK0 K0
        refine held_one (i := 8) (oi := ?ot27) (by kernel_rfl) ?at27 ?ct27 (fun K8 hK8 => ?_)
        (case at27 => (simp only [List.getElem?_toArray, List.getElem?_cons_zero, List.getElem?_cons_succ]; rfl))
        (case ct27 => kernel_rfl)
        obtain ⟨v6, y6, hr6, hown6, hg6⟩ := app_own (HR.out.alloc (.cells (vec 32 (bys x)) 30)) (Arr.new Wd 30 32 (bys x)) HN.out (by have := HB.out.2; simp; omega) 31
        have hap := Boxed.appended HV4.out hne HR.out HB.out.2 (show w.heap.size ≤ w.heap.size + 1 + 1 + 1 by omega) hown6 hg6
        refine Lib.wp_append_run _ _ _ _ _ rfl _ _ rfl rfl _ _ hr6 ?_
        refine hK8 _ _ (Below.grown hS0 hg6 hS0.size (fun q hq => ((HR.out.alloc (.cells (vec 32 (bys x)) 30)).lt q hq).1)) (fun hS8 => ?_)
        have HAP := Lib.hid hap
        clear hK8 K8 hr6 hap hg6
        refine held_one (i := 9) (oi := ?ot28) (by kernel_rfl) ?at28 ?ct28 (fun K9 hK9 => ?_)
        (case at28 => (simp only [List.getElem?_toArray, List.getElem?_cons_zero, List.getElem?_cons_succ]; rfl))
        (case ct28 => kernel_rfl)
        obtain ⟨g7, c7, rfl⟩ := ownsRow_succ hown6
        have hc := HAP.out.1.cell
        have hf := HAP.out.1.frozen
        have hSb := hS8
        go_simp
        refine hK9 _ _ (hSb.setCell (p := ⟨w.heap.size + 1 + 1 + 1, 0, none⟩) (show w.heap.size ≤ w.heap.size + 1 + 1 + 1 by omega) _) (fun hS9 => ?_)
        clear hK9 K9 hc hf
        refine wpAnyH_done (by kernel_rfl) ?_ _
        have hc2 := HAP.out.2.1.cell
        gi_wp2
        have hK := HAP.out.2.2.2.1.same _ _ HK.out rfl
        refine ⟨by simp, .inl ⟨_, _, rfl, run_takeDeferred hK, ?_⟩⟩
        refine ⟨_, results_tmp rfl _ _ _, _, rfl, ?_, HB.out.1.trans (HAP.out.2.2.2.2.trans (belowK_b (w := w) (Nat.le_refl _) _ D _ _ (by have := HD.out; omega) hK rfl rfl))⟩
        have h2 := ownsRow_putObj HAP.out.2.2.1 (.deferred none) hK rfl
        unfold OwnN
        rw [HX.out, List.length_append, madeP_length, cellsN_snoc]
        exact h2
    · have hrem : (l.length : Int) % 2 = 0 := by omega
      have HX : Hid (raise R l = madeP R (prs l (l.length / 2))) := Lib.hid (by unfold raise; rw [if_neg hodd, List.append_nil])
      have HZ := Lib.hid (And.intro hrow hbl)
      clear hrow hHb hJb hLb hbl hAt hv
      gi_wp2
      refine ⟨by simp, .inl ⟨_, _, rfl, run_takeDeferred hK, ?_⟩⟩
      refine ⟨_, results_tmp rfl _ _ _, v, rfl, ?_, HZ.out.2.trans (belowK_b (w := w) (Nat.le_refl _) W D _ _ (by omega) hK rfl rfl)⟩
      have h2 := ownsRow_putObj HZ.out.1 (.deferred none) hK rfl
      unfold OwnN
      rw [HX.out, madeP_length]
      exact h2
  case stop =>
    rintro D c pre W _ _ h _
    exact h.elim
end Go.Proofs.YtfeiplaiekbdkaaGreatDoor
/- ltree.heights: its iterator, height by height. -/
namespace Go.Proofs.YtfeiplaiekbdkaaGreatDoor
open Go.RowKit Go.Shelf
attribute [local go_sem] Oper.semAt_some
attribute [local go_sem ↓ high] zeroV26

/-- What lay in w0 lies as it lay, the blocks of D apart. -/
structure Stat (w0 : World) (D : Nat → Prop) (W : World) : Prop where
  size : w0.heap.size ≤ W.heap.size
  low : ∀ q, q < w0.heap.size → ¬ D q → W.heap[q]? = w0.heap[q]?
theorem Stat.of_below {w0 W : World} {D : Nat → Prop} (h : Below w0.heap.size w0 W) : Stat w0 D W := ⟨h.size, fun q hq _ => h.block q hq⟩
theorem Stat.under {w0 W W' : World} {D : Nat → Prop} (h : Stat w0 D W) (hd : Below W.heap.size W W') : Stat w0 D W' :=
  ⟨Nat.le_trans h.size hd.size, fun q hq hD => (hd.block q (Nat.lt_of_lt_of_le hq h.size)).trans (h.low q hq hD)⟩
theorem Stat.kx {w0 W W' : World} {D : Nat → Prop} {g : Nat} (h : Stat w0 D W) (hd : KX w0.heap.size D g W W') : Stat w0 D W' :=
  ⟨Nat.le_trans h.size hd.size, fun q hq hD => (hd.low q hq hD).trans (h.low q hq hD)⟩
/-- What a closure makes of any two neighbours, at any height. -/
def JoinAll (jf : Nat) (jcap : Array Value) (D : Nat → Prop) (w0 : World) (R : Nat → Nat → Nd → Nd → Nd) : Prop :=
  ∀ (h i : Nat) (x y : Nd) (W : World), h < 4294967296 → i < 4294967296 → Stat w0 D W → Calls Tryz.prog jf (#[.int .u32 (h : Int), .int .u32 (i : Int), .agg (vec 64 (prV x y))] ++ jcap) W fun e W' => e = .returned (.agg (vec 32 (bys (R h i x y)))) ∧ Below W.heap.size W W'
theorem JoinAll.at {jf : Nat} {jcap : Array Value} {D : Nat → Prop} {w0 W : World} {R : Nat → Nat → Nd → Nd → Nd} (h : JoinAll jf jcap D w0 R) (hs : Stat w0 D W) (k : Nat) (hk : k < 4294967296) : JoinOk jf jcap k W (R k) :=
  fun i x y X hi hX => h k i x y X hk hi (hs.under hX)
/-- The nodes of each height. -/
def levs (R : Nat → Nat → Nd → Nd → Nd) (l : List Nd) : Nat → List Nd
  | 0 => l
  | k + 1 => raise (R k) (levs R l k)
theorem levs_succ (R : Nat → Nat → Nd → Nd → Nd) (l : List Nd) (k : Nat) : levs R l (k + 1) = raise (R k) (levs R l k) := rfl
/-- A height as it is told: its number, where its nodes lie, and they. -/
structure HX where
  h : Nat
  a : Addr
  cap : Nat
  ns : List Nd
def HX.key (x : HX) : Nat × List Nd := (x.h, x.ns)
def encH (x : HX) : Array Value := #[.int .u32 (x.h : Int), .slice (some x.a) x.ns.length x.cap]
def gbH (x : HX) : Nat := x.a.block
structure RwH (R : Nat → Nat → Nd → Nd → Nd) (l : List Nd) (x : HX) (W : World) : Prop where
  ne : x.ns ≠ []
  h : x.h < 4294967296
  len : x.ns.length ≤ 1000000
  lt : x.a.block < W.heap.size
  cells : At W x.a x.ns
  lev : x.ns = levs R l x.h
  up : ∀ j, j < x.h → 1 < (levs R l j).length
theorem RwH.cell {R : Nat → Nat → Nd → Nd → Nd} {l : List Nd} {x : HX} {W : World} (h : RwH R l x W) : ∃ o : Obj, W.heap[gbH x]? = some o ∧ o.isCells = true := by
  have hl : 0 < x.ns.length := List.length_pos_iff.2 h.ne
  have := h.cells 0 hl 0 (by decide)
  have := cells_of_cell this
  rwa [addr_add_block] at this
theorem RwH.keep {R : Nat → Nat → Nd → Nd → Nd} {l : List Nd} {x : HX} {W W' : World} (h : RwH R l x W) (hs : W.heap.size ≤ W'.heap.size) (e : W'.heap[gbH x]? = W.heap[gbH x]?) : RwH R l x W' := ⟨h.ne, h.h, h.len, Nat.lt_of_lt_of_le h.lt hs, h.cells.same e, h.lev, h.up⟩
def keysTo (R : Nat → Nat → Nd → Nd → Nd) (l : List Nd) (k : Nat) : List (Nat × List Nd) := (List.range k).map fun j => (j, levs R l j)
theorem keysTo_succ (R : Nat → Nat → Nd → Nd → Nd) (l : List Nd) (k : Nat) : keysTo R l (k + 1) = keysTo R l k ++ [(k, levs R l k)] := by simp [keysTo, List.range_succ]
theorem keysTo_length (R : Nat → Nat → Nd → Nd → Nd) (l : List Nd) (k : Nat) : (keysTo R l k).length = k := by simp [keysTo]
/-- All heights. -/
def AllH (R : Nat → Nat → Nd → Nd → Nd) (l : List Nd) (xs : List HX) : Prop :=
  (l = [] ∧ xs = []) ∨ ∃ k, xs.map HX.key = keysTo R l (k + 1) ∧ (levs R l k).length = 1 ∧ ∀ j, j < k → 1 < (levs R l j).length
theorem OwnN.at {w : World} {base : Nat} {v : Value} {l : List Nd} (h : OwnN w base v l) (hl : l ≠ []) : ∃ a cap, v = .slice (some a) l.length cap ∧ At w a l ∧ base ≤ a.block ∧ a.block < w.heap.size := by
  have h' := h
  rcases h.2 with ⟨rfl, h0⟩ | ⟨g, cap, cur, rfl, hb, hh, hnc, hr⟩
  · exact absurd (List.eq_nil_of_length_eq_zero h0) hl
  · refine ⟨_, cap, rfl, fun j hj i hi => ?_, hb, (Array.getElem?_eq_some_iff.1 hh).1⟩
    obtain ⟨q1, e1⟩ := List.getElem?_eq_some_iff.1 (cellsN_get l j hj i hi)
    exact (h'.cells (g := g) rfl (j * 32 + i) _ (List.getElem?_eq_getElem q1)).trans (by rw [e1])

theorem heights_any (A : Option Addr) (n cap : Nat) (jf : Nat) (jcap : Array Value) (w : World) :
    Calls Tryz.prog 66 #[.slice A n cap, .func (.func jf) #[] jcap] w fun e w' => e = .returned (.func (.func 90) #[] #[.pointer (some ⟨w.heap.size, 0, none⟩), .pointer (some ⟨w.heap.size + 1, 0, none⟩)]) ∧
      w' = (w.alloc (.cells #[.slice A n cap] 31)).alloc (.cells #[.func (.func jf) #[] jcap] 104) := by
  have hmf := make_func
  go_enter Tryz.func66, Tryz.ntmps66
  go_wp2
  go_ret
  exact ⟨rfl, rfl⟩

def lenOf : Value → Nat
  | .slice _ n _ => n
  | _ => 0
/-- What heights' loop keeps. -/
structure HL (w : World) (D : Nat → Prop) (R : Nat → Nat → Nd → Nd → Nd) (l : List Nd) (J : List HX → World → Prop) (k : Nat) (a : Addr) (wr : World) : Prop where
  pre : ∃ pre Wm, pre.map HX.key = keysTo R l k ∧ J pre Wm ∧ Below Wm.heap.size Wm wr ∧ ((a.block < w.heap.size ∧ ¬ D a.block) ∨ Wm.heap.size ≤ a.block)
  stat : Stat w D wr
  cells : At wr a (levs R l k)
  lt : a.block < wr.heap.size
  pos : 1 ≤ (levs R l k).length
  sum : k + (levs R l k).length ≤ l.length
  up : ∀ j, j < k → 1 < (levs R l j).length
set_option maxRecDepth 100000 in
set_option maxHeartbeats 2000000 in
theorem heights_rows (n : Nat) (hn : 1 ≤ n) (Bl Bj : Nat) (A : Option Addr) (cap : Nat) (l : List Nd) (hl : l.length ≤ 1000000) (jf : Nat) (jcap : Array Value) (ej : ∀ args W, (callFunc jf args).run Tryz.prog W = .ok (.enter jf args) W) (R : Nat → Nat → Nd → Nd → Nd) (D : Nat → Prop) (w : World)
    (hBl : Blk w Bl 31 #[.slice A l.length cap]) (hBj : Blk w Bj 104 #[.func (.func jf) #[] jcap]) (hDl : ¬ D Bl) (hDj : ¬ D Bj)
    (hr : l ≠ [] → ∃ a, A = some a ∧ At w a l ∧ a.block < w.heap.size ∧ ¬ D a.block) (hj : JoinAll jf jcap D w R) :
    SeqRows Fence.wide n Tryz.prog 90 #[.pointer (some ⟨Bl, 0, none⟩), .pointer (some ⟨Bj, 0, none⟩)] encH w.heap.size D gbH (RwH R l) (AllH R l) l.length w := by
  intro lp J W hW hY h0
  have HL1 : Hid (∀ X, Stat w D X → Blk X Bl 31 #[.slice A l.length cap] ∧ Blk X Bj 104 #[.func (.func jf) #[] jcap]) :=
    Lib.hid fun X hX => ⟨blk_same hBl (hX.low _ hBl.lt hDl), blk_same hBj (hX.low _ hBj.lt hDj)⟩
  have HY := Lib.hid hY
  have HJ := Lib.hid h0
  have HDO := Lib.hid hj
  have HS := Lib.hid (Stat.of_below (D := D) hW)
  have hc : W.cell? ⟨Bl, 0, none⟩ = some (.slice A l.length cap) := (HL1.out W HS.out).1.cellAt 0 rfl
  clear hY h0 hj hBl hBj hDl hDj
  by_cases hl0 : l = []
  · subst hl0
    refine callsIn_of_wp Tryz.func90 rfl trivial ?_ rfl
    simp only [Tryz.ntmps90, List.size_toArray, List.length_cons, List.length_nil, Nat.reduceAdd, Nat.reduceSub, Array.replicate_succ, Array.replicate_zero, List.push_toArray, List.append_toArray, List.nil_append, List.cons_append]
    gi_wp2
    gi_loopw [4, 5] (fun s i wr => s = .slice A 0 cap ∧ i = .int .u32 0 ∧ Hid (wr = W)) (fun _ _ _ => 0)
    case atStart => exact ⟨rfl, rfl, Lib.hid rfl⟩
    case round =>
      obtain ⟨rfl, rfl, hR⟩ := hrel
      gi_wp2
      refine ⟨fun _ _ => trivial, ?_⟩
      go_at_K
      gi_wp2
      go_end0
      rw [hR.out]
      exact ⟨⟨_, rfl⟩, [], W, .inl ⟨rfl, rfl⟩, HJ.out, Below.refl _ _⟩
  · obtain ⟨a, rfl, hat, hab, haD⟩ := hr hl0
    have hpos : 1 ≤ l.length := List.length_pos_iff.2 hl0
    have HI : Hid (HL w D R l J 0 a W) := Lib.hid ⟨⟨[], W, rfl, HJ.out, Below.refl _ _, .inl ⟨hab, haD⟩⟩, HS.out, hat.same (hW.block _ hab), Nat.lt_of_lt_of_le hab HS.out.size, hpos, by simp [levs], fun j hj => by omega⟩
    clear hat hab haD hr HJ HS
    refine callsIn_of_wp Tryz.func90 rfl trivial ?_ rfl
    simp only [Tryz.ntmps90, List.size_toArray, List.length_cons, List.length_nil, Nat.reduceAdd, Nat.reduceSub, Array.replicate_succ, Array.replicate_zero, List.push_toArray, List.append_toArray, List.nil_append, List.cons_append]
    gi_wp2
    gi_loopw [4, 5] (fun s i wr => ∃ (k : Nat) (a : Addr) (c m : Nat), s = .slice (some a) m c ∧ i = .int .u32 k ∧ Hid (HL w D R l J k a wr ∧ m = (levs R l k).length)) (fun s _ _ => lenOf s)
    case atStart => exact ⟨0, a, cap, l.length, rfl, rfl, Lib.hid ⟨HI.out, rfl⟩⟩
    case round =>
      clear hc HI
      obtain ⟨k, a, c, m, rfl, rfl, hR⟩ := hrel
      have hm1 : 1 ≤ m := by rw [hR.out.2]; exact hR.out.1.pos
      have hsum : k + m ≤ 1000000 := by rw [hR.out.2]; exact Nat.le_trans hR.out.1.sum hl
      have hk : k < 4294967296 := by omega
      have hmI : (0 : Int) < (m : Int) := by omega
      have hkl : k < l.length := by have := hR.out.1.sum; have := hR.out.1.pos; omega
      obtain ⟨pre, Wm, hpk, hJ, hb, hbk⟩ := hR.out.1.pre
      have hlen : pre.length = k := by have := congrArg List.length hpk; rwa [List.length_map, keysTo_length] at this
      obtain ⟨x, hx⟩ : ∃ x : HX, x = ⟨k, a, c, levs R l k⟩ := ⟨_, rfl⟩
      have hne : levs R l k ≠ [] := List.length_pos_iff.1 hR.out.1.pos
      have hT : Told w.heap.size D gbH (RwH R l) Wm wr x := ⟨hb, by rw [hx]; exact hbk, by rw [hx]; exact ⟨hne, hk, by have := hR.out.2; show (levs R l k).length ≤ 1000000; omega, hR.out.1.lt, hR.out.1.cells, rfl, hR.out.1.up⟩⟩
      obtain ⟨fn, tmps, assign, body, hy, hRR⟩ := HY.out pre x Wm wr hJ (by rw [hlen]; exact hkl) hT
      have HX0 := Lib.hid (And.intro hx hpk)
      replace hy : (Instr.yield lp #[.int .u32 (k : Int), .slice (some a) m c]).run Tryz.prog wr = .ok (.round lp fn tmps assign body) wr := by
        have e : encH x = #[.int .u32 (k : Int), .slice (some a) m c] := by rw [hx]; unfold encH; rw [hR.out.2]
        rw [← e]; exact hy
      have HR := Lib.hid hRR
      clear hRR hT hne hlen hpk hJ hb hbk hx
      gi_wp2
      refine HR.out.mono ?_
      rintro e W3 ⟨rfl, hJ3, hk3⟩
      have HN := Lib.hid (And.intro hJ3 hk3)
      have hS3 : Stat w D W3 := hR.out.1.stat.kx hk3
      have hA3 : At W3 a (levs R l k) := hR.out.1.cells.same (by have := hk3.own; rw [HX0.out.1] at this; exact this)
      have hl3 : a.block < W3.heap.size := Nat.lt_of_lt_of_le hR.out.1.lt hk3.size
      have HS3 := Lib.hid (And.intro hS3 (And.intro hA3 hl3))
      have hk3' : (pre ++ [x]).map HX.key = keysTo R l (k + 1) := by rw [List.map_append, HX0.out.2, keysTo_succ, HX0.out.1]; rfl
      have HK3 := Lib.hid hk3'
      clear hJ3 hk3 hS3 hA3 hl3 hk3' hy HR
      by_cases hm : 1 < m
      · have hmJ : (1 : Int) < (m : Int) := by omega
        have hc : W3.cell? ⟨Bj, 0, none⟩ = some (.func (.func jf) #[] jcap) := (HL1.out W3 HS3.out.1).2.cellAt 0 rfl
        have hwn : IntKind.u32.wrap ((k : Int) + 1) = ((k + 1 : Nat) : Int) := by rw [IntKind.wrap_u32']; omega
        have hra := raised_any a c (levs R l k) (by rw [← hR.out.2]; omega) (by rw [← hR.out.2]; omega) k jf jcap ej (R k) W3 HS3.out.2.1 HS3.out.2.2 (HDO.out.at HS3.out.1 k hk)
        rw [← hR.out.2] at hra
        have HRA := Lib.hid hra
        clear hra
        gi_wp2_with (refine ⟨trivial, ?_⟩; gi_at_call 91; refine (callsIn_wide.2 HRA.out).mono ?_; rintro e W4 ⟨v4, rfl, hO4, hd4⟩; have H4 := Lib.hid (And.intro hO4 hd4); clear hO4 hd4)
        have hml := hR.out.2
        have hne4 : raise (R k) (levs R l k) ≠ [] := List.length_pos_iff.1 (by rw [raise_length, ← hml]; omega)
        obtain ⟨a4, c4, rfl, hat4, hb4, hl4⟩ := H4.out.1.at hne4
        have hsm := hR.out.1.sum
        refine ⟨⟨k + 1, a4, c4, _, rfl, by simp, Lib.hid ⟨⟨⟨pre ++ [x], W3, HK3.out, HN.out.1, H4.out.2, .inr hb4⟩, HS3.out.1.under H4.out.2, hat4, hl4, ?_, ?_, ?_⟩, rfl⟩⟩, ?_⟩
        · rw [levs_succ, raise_length, ← hml]; omega
        · rw [levs_succ, raise_length, ← hml]; rw [← hml] at hsm; omega
        · intro j hj
          by_cases e : j = k
          · rw [e, ← hml]; exact hm
          · exact hR.out.1.up j (by omega)
        · simp only [lenOf]
          rw [raise_length, ← hml]; omega
      · have hmJ : ¬ (1 : Int) < (m : Int) := by omega
        have hml := hR.out.2
        gi_wp2
        go_end0
        exact ⟨⟨_, rfl⟩, pre ++ [x], W3, .inr ⟨k, HK3.out, by omega, hR.out.1.up⟩, HN.out.1, Below.refl _ _⟩
end Go.Proofs.YtfeiplaiekbdkaaGreatDoor
/- ltree.Leaf. -/
namespace Go.Proofs.YtfeiplaiekbdkaaGreatDoor
open Go.RowKit Go.Shelf
attribute [local go_sem] Oper.semAt_some
attribute [local go_sem ↓ high] zeroV26

theorem arr_keep {X Y : World} {row : Option Nat} {B n : Nat} {t : TypeId} {f : Nat → Value} (h : Arr X B t n f) (hg : X.grownBy Y row) (hr : ∀ r, row = some r → ∃ o : Obj, X.heap[r]? = some o ∧ o.isCells = false) : Arr Y B t n f :=
  h.grown hg fun e => by
    obtain ⟨o, ho, hc⟩ := hr B e.symm
    rw [show X.heap[B]? = _ from h] at ho; cases ho; cases hc
theorem arr_putObj {W : World} {B n D : Nat} {t : TypeId} {f : Nat → Value} {o : Obj} (h : Arr W B t n f) (o' : Obj) (hl : W.heap[D]? = some o) (ho : o.isCells = false) : Arr (W.putObj D o') B t n f :=
  arr_keep h (grownBy_putObj' W D o') (fun r e => by cases e; exact ⟨o, hl, ho⟩)
theorem arr_same {W W' : World} {g n : Nat} {t : TypeId} {f : Nat → Value} (h : Arr W g t n f) (e : W'.heap[g]? = W.heap[g]?) : Arr W' g t n f := e.trans h
theorem save_keeps {g B : Nat} {W W' : World} (h : Save g W W') (hg : g < B) : KeepsFrom B W W' :=
  ⟨h.size, fun k o hk ho _ => (h.block k (Array.getElem?_eq_some_iff.1 ho).1 (by omega)).trans ho⟩
theorem save_kx {g n0 gx : Nat} {D : Nat → Prop} {W W' : World} (h : Save g W W') (hn : n0 ≤ W.heap.size) (hD : D g) (hx : gx ≠ g) (hl : gx < W.heap.size) : KX n0 D gx W W' :=
  ⟨h.size, fun k hk hd => h.block k (by omega) (fun e => hd (e ▸ hD)), h.block gx hl hx⟩
theorem low_stat {w V W : World} {D : Nat → Prop} (hV : Below w.heap.size w V) (h : Stat V D W) (hD : ∀ k, D k → w.heap.size ≤ k) : ∀ q, q < w.heap.size → W.heap[q]? = w.heap[q]? := fun q hq =>
  (h.low q (Nat.lt_of_lt_of_le hq hV.size) (fun hd => by have := hD q hd; omega)).trans (hV.block q hq)
set_option maxRecDepth 100000 in
theorem tabs_low {w W : World} (hT : Tabs w) (h : ∀ q, q < w.heap.size → W.heap[q]? = w.heap[q]?) : Tabs W :=
  ⟨fun i hi => (World.cell?_of_block (h _ (World.block_lt_of_cell? w _ (hT.1 i hi)))).trans (hT.1 i hi), fun i hi => (World.cell?_of_block (h _ (World.block_lt_of_cell? w _ (hT.2 i hi)))).trans (hT.2 i hi)⟩

/-- What joins two nodes, at any place of a kind. -/
def joinR (seed : Nat → UInt8) (kd a : Nat) : Nat → Nat → Nd → Nd → Nd := fun h i x y => joinF seed kd a h i x y
theorem join_all (seed : Nat → UInt8) (kd a : Nat) (hkd : kd < 4294967296) (ha : a < 4294967296) (gs gp : Nat) (pf : Nat) (pcap : Array Value) (ep : ∀ args W, (callFunc pf args).run Tryz.prog W = .ok (.enter pf args) W) (w V : World) (D : Nat → Prop)
    (hV : Below w.heap.size w V) (hD : ∀ k, D k → w.heap.size ≤ k) (h1 : Arr V gs 30 32 (bys seed)) (h2 : Blk V gp 106 #[.func (.func pf) #[] pcap]) (hgs : ¬ D gs) (hgp : ¬ D gp) (hT : Tabs w)
    (hp : ∀ (h i : Nat) (Y : World), h < 4294967296 → i < 4294967296 → Stat V D Y → Calls Tryz.prog pf (#[.int .u32 (h : Int), .int .u32 (i : Int)] ++ pcap) Y fun e Y' => e = .returned (adV 0 0 kd a h i 0) ∧ Below Y.heap.size Y Y') :
    JoinAll 86 #[.pointer (some ⟨gs, 0, none⟩), .pointer (some ⟨gp, 0, none⟩)] D V (joinR seed kd a) := fun h i x y W hh hi hs =>
  join1_any seed kd a h i ⟨by decide, by decide, hkd, ha, hh, hi, by decide⟩ x y gs gp pf pcap ep W (arr_same h1 (hs.low gs h1.lt hgs)) (blk_same h2 (hs.low gp h2.lt hgp)) (tabs_low hT (low_stat hV hs hD)) (fun Y hY => hp h i Y hh hi (hs.under hY))

section
variable {F : Fence} {n : Nat} {P : Program} {w : World} {ops : Array Oper} {rest : List Oper} {o : Oper} {a : Act} {Q : Exit → Act → World → Prop}
theorem wli_load_p (hgd : o.guard = none) (ty : TypeId) (x : Operand) (ho : o.op = .load ty x) (p : Addr) (hx : a.eval x = .pointer (some p)) (v : Value)
    (hl : (loadVar ty p).run P w = .ok v w) (h : wpListIn F n P ops Q rest (a.put o.dst v) w) : wpListIn F n P ops Q (o :: rest) a w :=
  wpListIn_plain hgd fun K hK => by
    refine ⟨fun f hf => by simp [Oper.about, ho] at hf, ?_⟩
    rw [semAt_not _ (fun c e => by rw [ho] at e; cases e), exec_load_p ty x ho p hx v hl]
    exact hK _ _ h
end
theorem raise_one (R : Nat → Nd → Nd → Nd) (l : List Nd) (h : l.length = 1) : raise R l = l := by
  match l, h with
  | [x], _ => simp [raise, prs, madeP]
theorem levs_stay (R : Nat → Nat → Nd → Nd → Nd) (l : List Nd) (k : Nat) (h : (levs R l k).length = 1) : ∀ j, levs R l (k + j) = levs R l k
  | 0 => rfl
  | j + 1 => by
    rw [show k + (j + 1) = (k + j) + 1 by omega, levs_succ, levs_stay R l k h j]
    exact raise_one _ _ h
theorem levs_sum (R : Nat → Nat → Nd → Nd → Nd) (l : List Nd) : ∀ k, (∀ j, j < k → 1 < (levs R l j).length) → k + (levs R l k).length ≤ l.length
  | 0, _ => by simp [levs]
  | k + 1, h => by
    have ih := levs_sum R l k (fun j hj => h j (by omega))
    have hk := h k (by omega)
    rw [levs_succ, raise_length]
    omega
theorem levs_nil (R : Nat → Nat → Nd → Nd → Nd) : ∀ k, levs R [] k = []
  | 0 => rfl
  | k + 1 => by rw [levs_succ, levs_nil R k]; rfl
/-- What is left at last. -/
def topF (R : Nat → Nat → Nd → Nd → Nd) (l : List Nd) : Nd := (levs R l l.length).getD 0 zb
theorem topF_nil (R : Nat → Nat → Nd → Nd → Nd) : topF R [] = zb := rfl
theorem topF_at (R : Nat → Nat → Nd → Nd → Nd) (l : List Nd) (k : Nat) (h1 : (levs R l k).length = 1) (hk : ∀ j, j < k → 1 < (levs R l j).length) : topF R l = (levs R l k).getD 0 zb := by
  have hs := levs_sum R l k hk
  unfold topF
  rw [show l.length = k + (l.length - k) by omega, levs_stay R l k h1]
def topOf (pre : List HX) : Nd := match pre.getLast? with
  | none => zb
  | some x => x.ns.getD 0 zb
theorem topOf_snoc (pre : List HX) (x : HX) : topOf (pre ++ [x]) = x.ns.getD 0 zb := by simp [topOf]
theorem topOf_all {R : Nat → Nat → Nd → Nd → Nd} {l : List Nd} {xs : List HX} (h : AllH R l xs) : topOf xs = topF R l := by
  rcases h with ⟨rfl, rfl⟩ | ⟨k, hk, h1, h2⟩
  · rfl
  · rw [topF_at R l k h1 h2]
    rw [keysTo_succ] at hk
    have hl : (xs.map HX.key).getLast? = some (k, levs R l k) := by rw [hk]; simp
    rw [List.getLast?_map] at hl
    unfold topOf
    cases hx : xs.getLast? with
    | none => rw [hx] at hl; cases hl
    | some x =>
      rw [hx] at hl
      have e : x.key = (k, levs R l k) := by simpa using hl
      have e2 : x.ns = levs R l k := congrArg Prod.snd e
      simp only [e2]
/-- The document's Leaf. -/
def leafD (pk : List Nd) (seed : Nat → UInt8) (idx : Nat) : Nd := if pk.length ≤ 1000 then topF (joinR seed 1 idx) pk else zb

/-- What Leaf keeps from round to round. -/
structure LI (w : World) (pre : List HX) (W : World) : Prop where
  top : Arr W (w.heap.size + 3) 30 32 (bys (topOf pre))
  res : Arr W (w.heap.size + 2) 30 32 (bys zb)
  b : Below w.heap.size w W
theorem LI.own (w : World) (B : Nat) (hB : w.heap.size ≤ B) : OwnFrom B (LI w) := fun _ _ _ _ hs hg hr =>
  ⟨arr_keep hs.top hg (fun r e => (hr r e).2), arr_keep hs.res hg (fun r e => (hr r e).2), hs.b.grown hg hs.b.size (fun k e => Nat.le_trans hB (hr k e).1)⟩
theorem LI.under {w W W' : World} {pre : List HX} (h : LI w pre W) (hd : Below W.heap.size W W') : LI w pre W' := ⟨h.top.under hd, h.res.under hd, h.b.trans (hd.mono h.b.size)⟩

set_option maxRecDepth 100000 in
set_option maxHeartbeats 2000000 in
theorem leaf_any (A : Option Addr) (cap : Nat) (pk : List Nd) (seed : Nat → UInt8) (idx : Nat) (hidx : idx < 4294967296) (w : World) (hr : NRow w w.heap.size A pk) (hT : Tabs w) :
    Calls Tryz.prog 42 #[.slice A pk.length cap, .agg (vec 32 (bys seed)), .int .u32 (idx : Int)] w fun e W' => e = .returned (.agg (vec 32 (bys (leafD pk seed idx)))) ∧ Below w.heap.size w W' := by
  obtain ⟨V, hV⟩ : ∃ V, V = (((w.alloc (.cells (vec 32 (bys seed)) 30)).alloc (.cells #[.int .u32 (idx : Int)] 28)).alloc (.cells (vec 32 (bys zb)) 30)).alloc (.cells (vec 32 (bys zb)) 30) := ⟨_, rfl⟩
  have h0 : Arr V w.heap.size 30 32 (bys seed) := by rw [hV]; exact (((Arr.newAt _ _ _ _ (by simp)).alloc _).alloc _).alloc _
  have h1 : Blk V (w.heap.size + 1) 28 #[.int .u32 (idx : Int)] := by rw [hV]; exact ((Blk.new _ _ _ (by simp)).alloc _).alloc _
  have h2 : Arr V (w.heap.size + 2) 30 32 (bys zb) := by rw [hV]; exact (Arr.newAt _ _ _ _ (by simp)).alloc _
  have h3 : Arr V (w.heap.size + 3) 30 32 (bys zb) := by rw [hV]; exact Arr.newAt _ _ _ _ (by simp)
  have hB : Below w.heap.size w V := by rw [hV]; exact ((((Below.refl _ _).alloc (by simp <;> omega) _).alloc (by simp <;> omega) _).alloc (by simp <;> omega) _).alloc (by simp <;> omega) _
  have hsz : V.heap.size = w.heap.size + 4 := by rw [hV]; simp
  have HA := Lib.hid (And.intro h0 (And.intro h1 (And.intro h2 (And.intro h3 (And.intro hB hsz)))))
  have HT := Lib.hid hT
  have HR := Lib.hid hr
  have HW := Lib.hid hV
  have hmf := make_func
  clear hV h0 h1 h2 h3 hB hsz hT hr
  refine (callsIn_wide (n := 30)).1 ?_
  refine callsIn_of_wp_marks Tryz.func42 rfl trivial ?_ rfl
  simp only [Tryz.ntmps42, List.size_toArray, List.length_cons, List.length_nil, Nat.reduceAdd, Nat.reduceSub, Array.replicate_succ, Array.replicate_zero, List.push_toArray, List.append_toArray, List.nil_append, List.cons_append]
  gi_upto_region 2 with fail
  rw [← HW.out]
  clear HW
  by_cases hlen : pk.length ≤ 1000
  · have t1 : ¬ (1000 : Int) < (pk.length : Int) := by omega
    gi_wp2_with (first
      | ((with_reducible show wpListIn _ _ _ _ _ (Oper.mk _ (.load _ _) _ _ _ _ :: _) _ _); refine wli_load rfl 30 _ rfl _ rfl _ (run_load_arr HA.out.1 Tryz.underlying30 rfl info26) ?_)
      | (refine ⟨trivial, ?_⟩; gi_at_call 62; refine (callsIn_wide.2 (joiner_any seed _ _ _)).mono ?_; rintro e w1 ⟨rfl, rfl⟩)
      | (refine ⟨trivial, ?_⟩; gi_at_call 66; refine (callsIn_wide.2 (heights_any A pk.length cap _ _ _)).mono ?_; rintro e w1 ⟨rfl, rfl⟩))
    obtain ⟨U, hU⟩ : ∃ U, U = (((V.alloc (.cells (vec 32 (bys seed)) 30)).alloc (.cells #[(.func (.func 64) #[] #[.pointer (some ⟨w.heap.size + 1, 0, none⟩)])] 106)).alloc (.cells #[(.slice A pk.length cap)] 31)).alloc (.cells #[(.func (.func 86) #[] #[.pointer (some ⟨V.heap.size, 0, none⟩), .pointer (some ⟨V.heap.size + 1, 0, none⟩)])] 104) := ⟨_, rfl⟩
    have hs0 : Arr U V.heap.size 30 32 (bys seed) := by rw [hU]; exact (((Arr.newAt _ _ _ _ (by simp)).alloc _).alloc _).alloc _
    have hs1 : Blk U (V.heap.size + 1) 106 #[(.func (.func 64) #[] #[.pointer (some ⟨w.heap.size + 1, 0, none⟩)])] := by rw [hU]; exact ((Blk.new _ _ _ (by simp)).alloc _).alloc _
    have hs2 : Blk U (V.heap.size + 1 + 1) 31 #[(.slice A pk.length cap)] := by rw [hU]; exact (Blk.new _ _ _ (by simp)).alloc _
    have hs3 : Blk U (V.heap.size + 1 + 1 + 1) 104 #[(.func (.func 86) #[] #[.pointer (some ⟨V.heap.size, 0, none⟩), .pointer (some ⟨V.heap.size + 1, 0, none⟩)])] := by rw [hU]; exact Blk.new _ _ _ (by simp)
    have hbU : Below V.heap.size V U := by rw [hU]; exact ((((Below.refl _ _).alloc (by simp <;> omega) _).alloc (by simp <;> omega) _).alloc (by simp <;> omega) _).alloc (by simp <;> omega) _
    have hszU : U.heap.size = V.heap.size + 4 := by rw [hU]; simp
    rw [← hU]
    clear hU
    have hsV := HA.out.2.2.2.2.2
    have hBw := HA.out.2.2.2.2.1
    have hBU : Below w.heap.size w U := hBw.trans (hbU.mono hBw.size)
    obtain ⟨D, hD⟩ : ∃ D : Nat → Prop, D = fun k => k = w.heap.size + 3 := ⟨_, rfl⟩
    have hDk : ∀ k, D k → k = w.heap.size + 3 := fun k hk => by rw [hD] at hk; exact hk
    have hD3 : D (w.heap.size + 3) := by rw [hD]
    clear hD
    have hjoin := join_all seed 1 idx (by decide) hidx V.heap.size (V.heap.size + 1) 64 #[.pointer (some ⟨w.heap.size + 1, 0, none⟩)] (fun _ _ => rfl) w U D hBU (fun k hk => by have := hDk k hk; omega) hs0 hs1
      (fun hk => by have := hDk _ hk; omega) (fun hk => by have := hDk _ hk; omega) HT.out
      (fun h i Y _ _ hY => leafPlace_any idx h i (w.heap.size + 1) Y (blk_same (HA.out.2.1.under hbU) (hY.low _ (by omega) (fun hk => by have := hDk _ hk; omega))))
    have hrow : pk ≠ [] → ∃ a, A = some a ∧ At U a pk ∧ a.block < U.heap.size ∧ ¬ D a.block := fun hn => by
      obtain ⟨a, e, hb, hc⟩ := HR.out hn
      exact ⟨a, e, At.same (w := w) hc (hBU.block _ hb), by omega, fun hk => by have := hDk _ hk; omega⟩
    have hseq := heights_rows 29 (by decide) (V.heap.size + 1 + 1) (V.heap.size + 1 + 1 + 1) A cap pk (by omega) 86 #[.pointer (some ⟨V.heap.size, 0, none⟩), .pointer (some ⟨V.heap.size + 1, 0, none⟩)] (fun _ _ => rfl) (joinR seed 1 idx) D U hs2 hs3
      (fun hk => by have := hDk _ hk; omega) (fun hk => by have := hDk _ hk; omega) hrow hjoin
    have hLI : LI w [] U := ⟨HA.out.2.2.2.1.under hbU, HA.out.2.2.1.under hbU, hBU⟩
    have HZ := Lib.hid (show U.heap.size = w.heap.size + 8 by omega)
    have HD := Lib.hid (And.intro hDk hD3)
    have HP : Hid (leafD pk seed idx = topF (joinR seed 1 idx) pk) := Lib.hid (if_pos hlen)
    clear hs0 hs1 hs2 hs3 hbU hszU hsV hBw hDk hD3 hjoin hrow HA HR HT
    refine wpIn_range_rows rfl (by decide) (gf := 90) (lb := #[.pointer (some ⟨V.heap.size + 1 + 1, 0, none⟩), .pointer (some ⟨V.heap.size + 1 + 1 + 1, 0, none⟩)]) rfl trivial (fun _ _ => rfl) hseq (Below.refl _ _) (Nat.le_refl _) (fun _ => rfl)
      (fun _ _ h => h.cell) (fun _ _ _ h hs e => h.keep hs e) (LI w) (LI.own w U.heap.size hBU.size) hLI
      (fun x => { tmps := #[.slice A pk.length cap, .agg (vec 32 (bys seed)), .int .u32 (idx : Int), undef, .pointer (some ⟨w.heap.size, 0, none⟩), .pointer (some ⟨w.heap.size + 1, 0, none⟩), .pointer (some ⟨w.heap.size + 1 + 1, 0, none⟩), .pointer (some ⟨w.heap.size + 1 + 1 + 1, 0, none⟩), (.func (.func 64) #[] #[.pointer (some ⟨w.heap.size + 1, 0, none⟩)]), undef, .slice (some x.a) x.ns.length x.cap, .slice A pk.length cap, .int .i64 (pk.length : Int), .bool false, undef, (.func (.func 64) #[] #[.pointer (some ⟨w.heap.size + 1, 0, none⟩)]), .slice A pk.length cap, .agg (vec 32 (bys seed)), (.func (.func 64) #[] #[.pointer (some ⟨w.heap.size + 1, 0, none⟩)]), (.func (.func 86) #[] #[.pointer (some ⟨V.heap.size, 0, none⟩), .pointer (some ⟨V.heap.size + 1, 0, none⟩)]), .func (.func 90) #[] #[.pointer (some ⟨V.heap.size + 1 + 1, 0, none⟩), .pointer (some ⟨V.heap.size + 1 + 1 + 1, 0, none⟩)], .int .u32 (x.h : Int), .slice (some x.a) x.ns.length x.cap, undef, undef, undef, undef], defers := [] }) ?assign ?body ?done
    case assign =>
      intro lq x W K hK
      unfold encH
      gi_wp2
      exact hK
    case body =>
      intro lq pre x Wm W hI hle hN hT
      have hIW := hI.under hT.grown
      obtain ⟨p, hp, hpc⟩ := hT.row.cells.get (List.length_pos_iff.2 hT.row.ne)
      have hp0 : x.a.add 0 = p := by simpa using hp
      have hpos : (0 : Int) < (x.ns.length : Int) := by have := List.length_pos_iff.2 hT.row.ne; omega
      have HPC := Lib.hid hpc
      have HI := Lib.hid hIW
      have HT2 := Lib.hid hT
      have hlow : w.heap.size + 3 < Wm.heap.size := hI.top.lt
      clear hpc hIW hT hI hp
      gi_wp2_with (first
        | ((with_reducible show wpListIn _ _ _ _ _ (Oper.mk _ (.load _ _) _ _ _ _ :: _) _ _); refine wli_load_p rfl 30 _ rfl p rfl _ (load_p HPC.out) ?_)
        | ((with_reducible show wpListIn _ _ _ _ _ (Oper.mk _ (.store _ _ _) _ _ _ _ :: _) _ _); refine wli_store rfl 30 _ _ rfl _ rfl _ rfl (run_store_arr HI.out.top (bys (x.ns.getD 0 zb)) info26 (bys_one _ _)) ?_))
      have hsv : Save (w.heap.size + 3) W (W.setRow (w.heap.size + 3) (vec 32 (bys (x.ns.getD 0 zb)))) := (Save.refl _ _).setRow _
      have hUW : U.heap.size ≤ W.heap.size := Nat.le_trans hle HT2.out.grown.size
      refine ⟨save_keeps hsv (by have := HZ.out; omega), save_kx hsv hUW HD.out.2 ?_ HT2.out.row.lt, ?_⟩
      · intro e
        rcases HT2.out.blk with h | h
        · exact h.2 (e ▸ HD.out.2)
        · omega
      · refine ⟨?_, HI.out.res.rowFar (by omega) _, below_row HI.out.b (by omega) _⟩
        rw [topOf_snoc]; exact HI.out.top.row _
    case done =>
      intro d xs W hd hS hI hK
      have HI := Lib.hid hI
      have HK := Lib.hid (And.intro hK (And.intro hd hS))
      clear hI hK hd hS
      gi_wp2_with (first
        | ((with_reducible show wpListIn _ _ _ _ _ (Oper.mk _ (.load _ _) _ _ _ _ :: _) _ _); refine wli_load rfl 30 _ rfl _ rfl _ (run_load_arr HI.out.top Tryz.underlying30 rfl info26) ?_)
        | ((with_reducible show wpListIn _ _ _ _ _ (Oper.mk _ (.store _ _ _) _ _ _ _ :: _) _ _); refine wli_store rfl 30 _ _ rfl _ rfl _ rfl (run_store_arr HI.out.res (bys (topOf xs)) info26 (bys_one _ _)) ?_))
      have hdl : d ≠ w.heap.size + 2 := by have := HK.out.2.1; have := HZ.out; omega
      have hK : (W.setRow (w.heap.size + 2) (vec 32 (bys (topOf xs)))).heap[d]? = some (.deferred (some [])) := ((Save.refl (w.heap.size + 2) W).setRow _).block d (Array.getElem?_eq_some_iff.1 HK.out.1).1 hdl |>.trans HK.out.1
      refine ⟨by simp, .inl ⟨_, _, rfl, run_takeDeferred hK, ?_⟩⟩
      refine ⟨_, results_cell1 rfl _ _ _ rfl (run_load_arr (arr_putObj (HI.out.res.row _) _ hK rfl) Tryz.underlying30 rfl info26), ?_, ?_⟩
      · rw [HP.out, topOf_all HK.out.2.2]
      · exact (below_row HI.out.b (by omega) _).trans (belowK_b (w := w) (Nat.le_refl _) _ d _ _ (by have := HK.out.2.1; have := HZ.out; omega) hK rfl rfl)
  · have t1 : (1000 : Int) < (pk.length : Int) := by omega
    gi_wp2_with (first
      | ((with_reducible show wpListIn _ _ _ _ _ (Oper.mk _ (.load _ _) _ _ _ _ :: _) _ _); refine wli_load rfl 30 _ rfl _ rfl _ (run_load_arr HA.out.2.2.2.1 Tryz.underlying30 rfl info26) ?_)
      | ((with_reducible show wpListIn _ _ _ _ _ (Oper.mk _ (.store _ _ _) _ _ _ _ :: _) _ _); refine wli_store rfl 30 _ _ rfl _ rfl _ rfl (run_store_arr HA.out.2.2.1 (bys zb) info26 (bys_one _ _)) ?_))
    exact ⟨_, results_cell1 rfl _ _ _ rfl (run_load_arr (HA.out.2.2.1.row _) Tryz.underlying30 rfl info26), by unfold leafD; rw [if_neg hlen], below_row HA.out.2.2.2.2.1 (by omega) _⟩
end Go.Proofs.YtfeiplaiekbdkaaGreatDoor
