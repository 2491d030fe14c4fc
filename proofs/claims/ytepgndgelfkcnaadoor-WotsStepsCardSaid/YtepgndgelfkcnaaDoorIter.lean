/- The iterators of wots.digits and wots.ends: what they tell, in order. -/
import Derived.RangeFuncNested
import Derived.RangeFuncBound
import Derived.RangeFuncCalls
import Derived.RangeFuncLeaves
import Derived.Shelf.Abstract
import Derived.Shelf.RegionOpen
import Derived.WalkKit
import Derived.OwnWalkIn
import Derived.TacticsInMore
import Derived.LoopNIn
import Derived.LoopIn
import Derived.Test.YtepgndgelfkcnaaDoorIn
import Derived.Test.YtepgndgelfkcnaaDoorHalf
namespace Go.Proofs.YtepgndgelfkcnaaDoor
open Go.RowKit Go.Shelf
attribute [local go_sem] Oper.semAt_some
attribute [local go_sem ↓ high] zeroV26

/-- Block B is as it was. -/
structure KB (B : Nat) (W W' : World) : Prop where
  size : W.heap.size ≤ W'.heap.size
  same : W'.heap[B]? = W.heap[B]?
theorem KB.refl (B : Nat) (W : World) : KB B W W := ⟨Nat.le_refl _, rfl⟩
theorem KB.trans {B : Nat} {X Y Z : World} (h : KB B X Y) (k : KB B Y Z) : KB B X Z := ⟨Nat.le_trans h.size k.size, k.same.trans h.same⟩
theorem KB.of_below {B n₀ : Nat} {W W' : World} (h : Below n₀ W W') (hB : B < n₀) : KB B W W' := ⟨h.size, h.block B hB⟩
theorem KB.putObj {B : Nat} {W : World} {l : Nat} (o' : Obj) (hB : B ≠ l) : KB B W (W.putObj l o') := ⟨(grownBy_putObj' W l o').size, World.putObj_heap_other hB⟩
theorem KB.arr {B n : Nat} {W W' : World} {t : TypeId} {f : Nat → Value} (h : KB B W W') (hA : Arr W B t n f) : Arr W' B t n f := h.same.trans hA

/-- A chain and its digit. -/
abbrev CD := { x : Nat × Nat // x.1 < 67 ∧ x.2 ≤ 15 }
def cdOf (d : Nat → Nat) (h : ∀ i, d i ≤ 15) (i : Nat) : CD := if hi : i < 67 then ⟨(i, d i), hi, h i⟩ else ⟨(0, 0), by decide, by decide⟩
theorem cdOf_val {d : Nat → Nat} {h : ∀ i, d i ≤ 15} {i : Nat} (hi : i < 67) : (cdOf d h i).1 = (i, d i) := by unfold cdOf; rw [dif_pos hi]
def cds (d : Nat → Nat) (h : ∀ i, d i ≤ 15) (k : Nat) : List CD := (List.range k).map (cdOf d h)
theorem cds_length (d : Nat → Nat) (h : ∀ i, d i ≤ 15) (k : Nat) : (cds d h k).length = k := by simp [cds]
theorem cds_succ (d : Nat → Nat) (h : ∀ i, d i ≤ 15) (k : Nat) : cds d h (k + 1) = cds d h k ++ [cdOf d h k] := by simp [cds, List.range_succ]
def encCD (x : CD) : Array Value := #[.int .i64 (x.1.1 : Int), .int .i64 (x.1.2 : Int)]
theorem encCD_of {d : Nat → Nat} {h : ∀ i, d i ≤ 15} {i : Nat} (hi : i < 67) : encCD (cdOf d h i) = #[.int .i64 (i : Int), .int .i64 (d i : Int)] := by unfold encCD; rw [cdOf_val hi]

theorem and15_i64 (x : Nat) (h : x < 1024) : bits .and .i64 (x : Int) 15 = ((x % 16 : Nat) : Int) := by
  have hall : ∀ y : Fin 1024, bits .and .i64 ((y.val : Nat) : Int) 15 = ((y.val % 16 : Nat) : Int) := by decide +kernel
  exact hall ⟨x, h⟩
theorem sumN_succ (m : Nat → UInt8) (k : Nat) : ((sumN m (k + 1) : Nat) : Int) = (sumN m k : Int) + (15 - (halfN m k : Int)) := by
  have := halfN_le m k
  show ((sumN m k + (15 - halfN m k) : Nat) : Int) = _
  omega
set_option maxRecDepth 100000 in
set_option maxHeartbeats 2000000 in
theorem digits1_in (n : Nat) (hn : 1 ≤ n) (lp Bm : Nat) (m : Nat → UInt8) (J Jx : List CD → World → Prop)
    (hY : ∀ pre (x : CD) W, J pre W → pre.length < 67 → YieldAt Fence.wide (n - 1) Tryd.prog lp (encCD x) W fun e W' =>
      (e = .returned (.bool true) ∧ J (pre ++ [x]) W' ∧ KB Bm W W') ∨ (e = .returned (.bool false) ∧ Jx (pre ++ [x]) W'))
    (W : World) (hA : AbidesFrom W.heap.size J) (hBm : Arr W Bm 23 32 (bys m)) (h0 : J [] W) :
    CallsIn Fence.wide n Tryd.prog 38 #[.func (.yield lp) #[] #[], .pointer (some ⟨Bm, 0, none⟩)] W fun e W' => (∃ v, e = .returned v) ∧
      ((∃ ys, ys = cds (digN m) (digN_le m) 67 ∧ J ys W') ∨ (∃ pre, True ∧ Jx pre W')) := by
  have HJ := Lib.hid h0
  have HM := Lib.hid hBm
  have HA := Lib.hid hA
  have HY := Lib.hid hY
  have hBm' : Hid (∀ X, KB Bm W X → Arr X Bm 23 32 (bys m)) := Lib.hid fun X hX => hX.arr hBm
  clear h0 hBm hA hY
  refine callsIn_of_wp Tryd.func38 rfl trivial ?_ rfl
  simp only [Tryd.ntmps38, List.size_toArray, List.length_cons, List.length_nil, Nat.reduceAdd, Nat.reduceSub, Array.replicate_succ, Array.replicate_zero, List.push_toArray, List.append_toArray, List.nil_append, List.cons_append]
  gi_wp2
  gi_loopw [3, 7] (fun s i wr => ∃ k : Nat, k ≤ 64 ∧ i = .int .i64 k ∧ s = .int .i64 (sumN m k : Int) ∧ Hid (J (cds (digN m) (digN_le m) k) wr ∧ KB Bm W wr))
    (fun _ i _ => 64 - (intOf i).toNat)
  case atStart => exact ⟨0, Nat.zero_le _, rfl, rfl, Lib.hid ⟨HJ.out, KB.refl _ _⟩⟩
  case round =>
    obtain ⟨k, hk, rfl, rfl, hR⟩ := hrel
    by_cases hlt : k < 64
    · have hs1 := sumN_le m k
      have hs2 := halfN_le m k
      have HM2 := Lib.hid (hBm'.out wr hR.out.2)
      gi_wp2_with (first
        | ((with_reducible show wpListIn _ _ _ _ _ (Oper.mk _ (.load _ _) _ _ _ _ :: _) _ _); refine wli_load rfl 23 _ rfl _ rfl _ (run_load_arr HM2.out Tryd.underlying23 rfl info26) ?_)
        | (refine ⟨trivial, ?_⟩
           gi_at_call 39
           refine (callsIn_wide.2 (half_any m k hlt _)).mono ?_
           rintro e w1 ⟨rfl, hd⟩
           have hJ1 := HA.out _ _ _ none hR.out.1 (grown_of_below hd) (fun r e => by cases e)
           have HB1 := Lib.hid (hR.out.2.trans (KB.of_below hd HM2.out.lt))
           obtain ⟨fn, tmps, assign, body, hy, hRR⟩ := HY.out _ (cdOf (digN m) (digN_le m) k) w1 hJ1 (by rw [cds_length]; omega)
           rw [encCD_of (show k < 67 by omega), digN_lo m hlt] at hy
           have HR := Lib.hid hRR
           clear hd hJ1 hRR))
      refine HR.out.mono ?_
      rintro e W3 (⟨rfl, hJ3, hk3⟩ | ⟨rfl, hJx3⟩)
      · have HN := Lib.hid (And.intro hJ3 (HB1.out.trans hk3))
        clear hJ3 hk3
        gi_wp2
        go_roundw
        case rel => exact ⟨k + 1, by omega, by simp, by rw [sumN_succ], Lib.hid ⟨by rw [cds_succ]; exact HN.out.1, HN.out.2⟩⟩
        case measure => simp [intOf]; omega
      · gi_wp2
        refine bodyPost_ret (results_none rfl _ _ _) rfl ?_
        exact ⟨⟨_, rfl⟩, .inr ⟨_, trivial, hJx3⟩⟩
    · obtain rfl : k = 64 := by omega
      have hs1 := sumN_le m 64
      have HR0 := Lib.hid hR.out
      clear hR hk hlt
      gi_wp2
      rw [show ((64 : Nat) : Int) = 64 from rfl]
      gi_loopw [23] (fun i wr => ∃ k : Nat, k ≤ 3 ∧ i = .int .i64 k ∧ Hid (J (cds (digN m) (digN_le m) (64 + k)) wr ∧ KB Bm W wr))
        (fun i _ => 3 - (intOf i).toNat)
      case atStart => exact ⟨0, Nat.zero_le _, rfl, Lib.hid HR0.out⟩
      case round =>
        obtain ⟨k, hk, rfl, hR⟩ := hrel
        by_cases hlt : k < 3
        · obtain rfl | rfl | rfl : k = 0 ∨ k = 1 ∨ k = 2 := by omega
          · have hb : bits .and .i64 ((sumN m 64 : Int) / 256) 15 = ((digN m 64 : Nat) : Int) := by
              rw [digN_64, ← and15_i64 _ (by omega)]; congr 1
            obtain ⟨fn, tmps, assign, body, hy, hRR⟩ := HY.out _ (cdOf (digN m) (digN_le m) 64) wr hR.out.1 (by rw [cds_length]; omega)
            rw [encCD_of (show 64 < 67 by decide)] at hy
            replace hy : (Instr.yield lp #[.int .i64 64, .int .i64 (digN m 64 : Int)]).run Tryd.prog wr = .ok (.round lp fn tmps assign body) wr := hy
            have HR := Lib.hid hRR
            clear hRR
            gi_wp2
            refine HR.out.mono ?_
            rintro e W3 (⟨rfl, hJ3, hk3⟩ | ⟨rfl, hJx3⟩)
            · have HN := Lib.hid (And.intro hJ3 (hR.out.2.trans hk3))
              clear hJ3 hk3 hy hb
              gi_wp2
              go_roundw
              case rel => exact ⟨0 + 1, by omega, by simp, Lib.hid ⟨by rw [show 64 + (0 + 1) = 64 + 1 by rfl, cds_succ]; exact HN.out.1, HN.out.2⟩⟩
              case measure => simp [intOf]
            · gi_wp2
              refine bodyPost_ret (results_none rfl _ _ _) rfl ?_
              exact ⟨⟨_, rfl⟩, .inr ⟨_, trivial, hJx3⟩⟩
          · have hb : bits .and .i64 ((sumN m 64 : Int) / 16) 15 = ((digN m 65 : Nat) : Int) := by
              rw [digN_65, ← and15_i64 _ (by omega)]; congr 1
            obtain ⟨fn, tmps, assign, body, hy, hRR⟩ := HY.out _ (cdOf (digN m) (digN_le m) 65) wr hR.out.1 (by rw [cds_length]; omega)
            rw [encCD_of (show 65 < 67 by decide)] at hy
            replace hy : (Instr.yield lp #[.int .i64 65, .int .i64 (digN m 65 : Int)]).run Tryd.prog wr = .ok (.round lp fn tmps assign body) wr := hy
            have HR := Lib.hid hRR
            clear hRR
            gi_wp2
            refine HR.out.mono ?_
            rintro e W3 (⟨rfl, hJ3, hk3⟩ | ⟨rfl, hJx3⟩)
            · have HN := Lib.hid (And.intro hJ3 (hR.out.2.trans hk3))
              clear hJ3 hk3 hy hb
              gi_wp2
              go_roundw
              case rel => exact ⟨1 + 1, by omega, by simp, Lib.hid ⟨by rw [show 64 + (1 + 1) = 65 + 1 by rfl, cds_succ]; exact HN.out.1, HN.out.2⟩⟩
              case measure => simp [intOf]
            · gi_wp2
              refine bodyPost_ret (results_none rfl _ _ _) rfl ?_
              exact ⟨⟨_, rfl⟩, .inr ⟨_, trivial, hJx3⟩⟩
          · have hb : bits .and .i64 ((sumN m 64 : Int)) 15 = ((digN m 66 : Nat) : Int) := by
              rw [digN_66, ← and15_i64 _ (by omega)]
            obtain ⟨fn, tmps, assign, body, hy, hRR⟩ := HY.out _ (cdOf (digN m) (digN_le m) 66) wr hR.out.1 (by rw [cds_length]; omega)
            rw [encCD_of (show 66 < 67 by decide)] at hy
            replace hy : (Instr.yield lp #[.int .i64 66, .int .i64 (digN m 66 : Int)]).run Tryd.prog wr = .ok (.round lp fn tmps assign body) wr := hy
            have HR := Lib.hid hRR
            clear hRR
            gi_wp2
            refine HR.out.mono ?_
            rintro e W3 (⟨rfl, hJ3, hk3⟩ | ⟨rfl, hJx3⟩)
            · have HN := Lib.hid (And.intro hJ3 (hR.out.2.trans hk3))
              clear hJ3 hk3 hy hb
              gi_wp2
              go_roundw
              case rel => exact ⟨2 + 1, by omega, by simp, Lib.hid ⟨by rw [show 64 + (2 + 1) = 66 + 1 by rfl, cds_succ]; exact HN.out.1, HN.out.2⟩⟩
              case measure => simp [intOf]
            · gi_wp2
              refine bodyPost_ret (results_none rfl _ _ _) rfl ?_
              exact ⟨⟨_, rfl⟩, .inr ⟨_, trivial, hJx3⟩⟩
        · obtain rfl : k = 3 := by omega
          gi_wp2
          go_end0
          exact ⟨⟨_, rfl⟩, .inl ⟨_, rfl, hR.out.1⟩⟩

theorem digits_stops (n : Nat) (hn : 1 ≤ n) (Bm : Nat) (m : Nat → UInt8) (w : World) (hBm : Arr w Bm 23 32 (bys m)) :
    SeqStopsK Fence.wide n Tryd.prog 38 #[.pointer (some ⟨Bm, 0, none⟩)] encCD (KB Bm) (fun ys => ys = cds (digN m) (digN_le m) 67) (fun _ => True) 67 w := fun lp J Jx W hW hJ _ hY h0 =>
  digits1_in n hn lp Bm m J Jx hY W hJ (hBm.under hW) h0
end Go.Proofs.YtepgndgelfkcnaaDoor
