/- span.good: its iterator tells the good ones of a row, in their order. -/
import Derived.RangeFuncNested
import Derived.RangeFuncBound
import Derived.RangeFuncCalls
import Derived.RangeFuncLeaves
import Derived.Shelf.Abstract
import Derived.Shelf.RegionOpen
import Derived.WalkKit
import Derived.OwnWalkIn
import Derived.TacticsInMore
import Derived.LoopNIn
import Derived.LoopIn
import Derived.Test.YtmhhckpdhjnmeaaOne
import Derived.Test.YtmhhckpdhjnmeaaRow
namespace Go.Proofs.Ytmhhckpdhjnmeaa
open Go.RowKit Go.Shelf
attribute [local go_sem] Oper.semAt_some

instance (x : Sp) : Decidable (fit x) := by unfold fit; infer_instance
/-- A good span, its numbers within 64 bits. -/
abbrev GS := { x : Sp // fit x ∧ good x = true }
def goods (l : List Sp) : List GS := l.filterMap fun x => if h : fit x ∧ good x = true then some ⟨x, h⟩ else none
theorem goods_append (a b : List Sp) : goods (a ++ b) = goods a ++ goods b := by simp [goods]
theorem goods_yes {x : Sp} (h : fit x ∧ good x = true) : goods [x] = [⟨x, h⟩] := by simp [goods, h]
theorem goods_no {x : Sp} (h : good x = false) : goods [x] = [] := by simp [goods, h]
theorem goods_val {l : List Sp} (hl : ∀ x ∈ l, fit x) : (goods l).map (·.1) = l.filter good := by
  induction l with
  | nil => rfl
  | cons x r ih =>
    have e : x :: r = [x] ++ r := rfl
    rw [e, goods_append, List.map_append, List.filter_append, ih (fun y hy => hl y (by simp [hy]))]
    congr 1
    by_cases h : good x = true
    · rw [goods_yes ⟨hl x (by simp), h⟩]; simp [h]
    · rw [goods_no (by simpa using h)]; simp [h]
theorem take_snoc {l : List Sp} {k : Nat} (h : k < l.length) : l.take (k + 1) = l.take k ++ [l[k]] := by simp
theorem goods_len (l : List Sp) : (goods l).length ≤ l.length := List.length_filterMap_le _ _
theorem goods_take (l : List Sp) (k : Nat) : goods (l.take k) <+: goods l := by
  conv => rhs; rw [← List.take_append_drop k l]
  rw [goods_append]
  exact List.prefix_append _ _

set_option maxRecDepth 100000 in
set_option maxHeartbeats 2000000 in
theorem good1_in (n : Nat) (hn : 1 ≤ n) (lp Bs n₀ cap : Nat) (A : Option Addr) (l : List Sp) (hl : ∀ x ∈ l, fit x) (hlen : l.length ≤ 4611686018427387904) (J Jx : List GS → World → Prop)
    (hY : ∀ pre (x : GS) W, J pre W → pre.length < l.length → YieldAt Fence.wide (n - 1) Try.prog lp #[spv x.1] W fun e W' =>
      (e = .returned (.bool true) ∧ J (pre ++ [x]) W' ∧ Below n₀ W W') ∨ (e = .returned (.bool false) ∧ Jx (pre ++ [x]) W'))
    (W : World) (hA : AbidesFrom W.heap.size J) (hn₀ : n₀ ≤ W.heap.size) (hBs : W.cell? ⟨Bs, 0, none⟩ = some (.slice A l.length cap)) (hc : Row W n₀ A l) (h0 : J [] W) :
    CallsIn Fence.wide n Try.prog 66 #[.func (.yield lp) #[] #[], .pointer (some ⟨Bs, 0, none⟩)] W fun e W' => (∃ v, e = .returned v) ∧
      ((∃ ys, ys = goods l ∧ J ys W') ∨ (∃ pre, pre <+: goods l ∧ Jx pre W')) := by
  refine callsIn_of_wp Try.func66 rfl trivial ?_ rfl
  simp only [Try.ntmps66, List.size_toArray, List.length_cons, List.length_nil, Nat.reduceAdd, Nat.reduceSub, Array.replicate_succ, Array.replicate_zero, List.push_toArray, List.append_toArray, List.nil_append, List.cons_append]
  gi_wp2
  gi_loopw [7] (fun i wr => ∃ k : Nat, k ≤ l.length ∧ i = .int .i64 k ∧ J (goods (l.take k)) wr ∧ Below n₀ W wr ∧ n₀ ≤ wr.heap.size)
    (fun i _ => l.length - (intOf i).toNat)
  case atStart => exact ⟨0, Nat.zero_le _, rfl, by simpa [goods] using h0, Below.refl _ _, hn₀⟩
  case round =>
    obtain ⟨k, hk, rfl, hJs, hnx, hsz⟩ := hrel
    by_cases hlt : k < l.length
    · obtain ⟨a, p, rfl, hp, hpb, hc1, hc2⟩ := (hc.below hnx).at hlt
      have hfit := hl _ (List.getElem_mem hlt)
      obtain ⟨x, hx⟩ : ∃ x, l[k] = x := ⟨_, rfl⟩
      rw [hx] at hc1 hc2 hfit
      obtain ⟨b, s⟩ := x
      have Hx := Lib.hid hfit
      have Ht := Lib.hid (take_snoc hlt)
      have HX := Lib.hid hx
      clear hfit hx hpb
      have hJ2 : J (goods (l.take k)) ((wr.alloc (spo b s)).alloc (spo b s)) :=
        hA _ _ _ none (hA _ _ _ none hJs (World.grownBy_alloc _ _ none) (fun r e => by cases e)) (World.grownBy_alloc _ _ none) (fun r e => by cases e)
      have hB2 : Below n₀ W ((wr.alloc (spo b s)).alloc (spo b s)) := (hnx.alloc hsz _).alloc (by simp; omega) _
      have hpl : (goods (l.take k)).length < l.length := by
        have := goods_len (l.take k)
        rw [List.length_take] at this; omega
      by_cases hg : good (b, s) = true
      · obtain ⟨fn, tmps, assign, body, hy, hR⟩ := hY _ ⟨(b, s), Hx.out, hg⟩ _ hJ2 hpl
        dsimp only at hy
        have HB2 := Lib.hid hB2
        have HR := Lib.hid hR
        clear hJ2 hB2 hpl hR
        gi_wp2_with (refine ⟨trivial, ?_⟩; gi_at_call 42; refine (callsIn_wide.2 (good_any b s Hx.out _)).mono ?_; rintro e w1 ⟨rfl, rfl⟩)
        refine HR.out.mono ?_
        rintro e W3 (⟨rfl, hJ3, hk3⟩ | ⟨rfl, hJx3⟩)
        · gi_wp2
          go_roundw
          case rel => exact ⟨k + 1, by omega, by simp, by rw [Ht.out, HX.out, goods_append, goods_yes ⟨Hx.out, hg⟩]; exact hJ3, HB2.out.trans hk3, Nat.le_trans (Nat.le_trans hsz (by simp; omega)) hk3.size⟩
          case measure => simp [intOf]; omega
        · gi_wp2
          refine bodyPost_ret (results_none rfl _ _ _) rfl ?_
          refine ⟨⟨_, rfl⟩, .inr ⟨_, ?_, hJx3⟩⟩
          have := goods_take l (k + 1)
          rw [Ht.out, HX.out, goods_append, goods_yes ⟨Hx.out, hg⟩] at this
          exact this
      · have hg' : good (b, s) = false := by simpa using hg
        have HJ2 := Lib.hid hJ2
        have HB2 := Lib.hid hB2
        clear hJ2 hB2 hpl hg
        gi_wp2_with (refine ⟨trivial, ?_⟩; gi_at_call 42; refine (callsIn_wide.2 (good_any b s Hx.out _)).mono ?_; rintro e w1 ⟨rfl, rfl⟩)
        refine ⟨fun _ h => (by cases h), ?_⟩
        gi_wp2
        go_roundw
        case rel => exact ⟨k + 1, by omega, by simp, by rw [Ht.out, HX.out, goods_append, goods_no hg', List.append_nil]; exact HJ2.out, HB2.out, by simp; omega⟩
        case measure => simp [intOf]; omega
    · obtain rfl : k = l.length := by omega
      gi_wp2
      go_end0
      exact ⟨⟨_, rfl⟩, .inl ⟨_, by rw [List.take_length], hJs⟩⟩

/-- span.good: the slice is boxed; the function value captures the box. -/
theorem good_in (A : Option Addr) (len cap : Nat) (w : World) :
    Calls Try.prog 59 #[.slice A len cap] w fun e w' => e = .returned (.func (.func 66) #[] #[.pointer (some ⟨w.heap.size, 0, none⟩)]) ∧ w' = w.alloc (.cells #[.slice A len cap] 46) := by
  go_enter Try.func59, Try.ntmps59
  go_wp2
  go_ret
  exact ⟨rfl, rfl⟩
theorem good_stops (n : Nat) (hn : 1 ≤ n) (Bs n₀ cap : Nat) (A : Option Addr) (l : List Sp) (hl : ∀ x ∈ l, fit x) (hlen : l.length ≤ 4611686018427387904) (w : World) (hBs : Bs < w.heap.size) (hn₀ : n₀ ≤ w.heap.size)
    (hc : w.cell? ⟨Bs, 0, none⟩ = some (.slice A l.length cap)) (hR : Row w n₀ A l) :
    SeqStopsK Fence.wide n Try.prog 66 #[.pointer (some ⟨Bs, 0, none⟩)] (fun x : GS => #[spv x.1]) (Below n₀) (fun ys => ys = goods l) (fun pre => pre <+: goods l) l.length w := fun lp J Jx W hW hJ _ hY h0 =>
  good1_in n hn lp Bs n₀ cap A l hl hlen J Jx hY W hJ (Nat.le_trans hn₀ hW.size) ((hW.cell (p := ⟨Bs, 0, none⟩) hBs).trans hc) (hR.below (hW.mono hn₀)) h0
end Go.Proofs.Ytmhhckpdhjnmeaa
