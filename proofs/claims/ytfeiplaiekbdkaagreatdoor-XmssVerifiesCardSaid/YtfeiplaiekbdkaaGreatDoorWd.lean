/- Merged: Half, Iter, Ints, RDig, D15, Ends. -/
import Derived.Deep.Cut
import Derived.WalkSpells
import Derived.IntWalk
import Derived.RangeFuncNested
import Derived.RangeFuncBound
import Derived.RangeFuncCalls
import Derived.RangeFuncLeaves
import Derived.Shelf.Abstract
import Derived.Shelf.RegionOpen
import Derived.WalkKit
import Derived.OwnWalkIn
import Derived.TacticsInMore
import Derived.LoopNIn
import Derived.LoopIn
import Derived.BigQuiet
import Derived.Deep.QuietTactic
import Derived.Test.YtfeiplaiekbdkaaGreatDoorDig
import Derived.Test.YtfeiplaiekbdkaaGreatDoorPrf
import Derived.Test.YtfeiplaiekbdkaaGreatDoorIn
import Derived.Test.YtfeiplaiekbdkaaGreatDoorWa
/- wots.half, wots.digits, wots.ends. -/
namespace Go.Proofs.YtfeiplaiekbdkaaGreatDoor
open Go.RowKit
attribute [local go_sem ↓ high] zeroV26

theorem and15_u8 (x : Nat) (h : x < 256) : bits .and .u8 (x : Int) 15 = ((x % 16 : Nat) : Int) := by
  have hall : ∀ y : Fin 256, bits .and .u8 ((y.val : Nat) : Int) 15 = ((y.val % 16 : Nat) : Int) := by decide +kernel
  exact hall ⟨x, h⟩
theorem wrap64_nat (x : Nat) (h : x < 1000000) : wrap64 (x : Int) = (x : Int) := by
  unfold wrap64; omega
set_option maxHeartbeats 1000000 in
set_option maxRecDepth 100000 in
theorem half_any (m : Nat → UInt8) (i : Nat) (hi : i < 64) (w : World) :
    Calls Tryz.prog 68 #[.agg (vec 32 (bys m)), .int .i64 (i : Int)] w fun e w' => e = .returned (.int .i64 (halfN m i : Int)) ∧ Below w.heap.size w w' := by
  obtain ⟨V, hV⟩ : ∃ V, V = w.alloc (.cells (vec 32 (bys m)) 30) := ⟨_, rfl⟩
  have hA : Arr V w.heap.size 30 32 (bys m) := by rw [hV]; exact Arr.new w _ _ _
  have hB : Below w.heap.size w V := by rw [hV]; exact (Below.refl _ _).alloc (Nat.le_refl _) _
  have hc : V.cell? ⟨w.heap.size, i / 2, none⟩ = some (.int .u8 ((m (i / 2)).toNat : Int)) := hA.cell (i := i / 2) (by omega)
  have HB := Lib.hid hB
  have HW := Lib.hid hV
  clear hV hA hB
  go_enter Tryz.func68, Tryz.ntmps68
  go_upto_region 1 with fail
  rw [← HW.out]
  clear HW
  go_wp2
  all_goals rename_i h2
  all_goals have hm := (m (i / 2)).toNat_lt
  all_goals have e0 : (((m (i / 2)).toNat : Int) / 16) = (((m (i / 2)).toNat / 16 : Nat) : Int) := by omega
  · have h2 : i % 2 = 0 := by simp at h2; omega
    have e : wrap64 (bits .and .u8 (((m (i / 2)).toNat : Int) / 16) 15) = ((halfN m i : Nat) : Int) := by
      rw [e0, and15_u8 _ (by omega), wrap64_nat _ (by omega)]
      unfold halfN
      rw [if_pos h2, Nat.mod_eq_of_lt (by omega)]
    rw [e]
    exact bodyPost_ret (results_tmp rfl _ _ _) rfl ⟨rfl, HB.out⟩
  · have h2 : ¬ i % 2 = 0 := by simp at h2; omega
    have e : wrap64 (bits .and .u8 ((m (i / 2)).toNat : Int) 15) = ((halfN m i : Nat) : Int) := by
      rw [and15_u8 _ (by omega), wrap64_nat _ (by omega)]
      unfold halfN
      rw [if_neg h2]
    rw [e]
    exact bodyPost_ret (results_tmp rfl _ _ _) rfl ⟨rfl, HB.out⟩
set_option maxRecDepth 100000 in
theorem digits_any (m : Nat → UInt8) (w : World) :
    Calls Tryz.prog 44 #[.agg (vec 32 (bys m))] w fun e w' => e = .returned (.func (.func 67) #[] #[.pointer (some ⟨w.heap.size, 0, none⟩)]) ∧ w' = w.alloc (.cells (vec 32 (bys m)) 30) := by
  have hmf := make_func
  go_enter Tryz.func44, Tryz.ntmps44
  go_wp2
  go_ret
  exact ⟨rfl, rfl⟩
end Go.Proofs.YtfeiplaiekbdkaaGreatDoor
/- The iterators of wots.digits and wots.ends: what they tell, in order. -/
namespace Go.Proofs.YtfeiplaiekbdkaaGreatDoor
open Go.RowKit Go.Shelf
attribute [local go_sem] Oper.semAt_some
attribute [local go_sem ↓ high] zeroV26

/-- Block B is as it was. -/
structure KB (B : Nat) (W W' : World) : Prop where
  size : W.heap.size ≤ W'.heap.size
  same : W'.heap[B]? = W.heap[B]?
theorem KB.refl (B : Nat) (W : World) : KB B W W := ⟨Nat.le_refl _, rfl⟩
theorem KB.trans {B : Nat} {X Y Z : World} (h : KB B X Y) (k : KB B Y Z) : KB B X Z := ⟨Nat.le_trans h.size k.size, k.same.trans h.same⟩
theorem KB.of_below {B n₀ : Nat} {W W' : World} (h : Below n₀ W W') (hB : B < n₀) : KB B W W' := ⟨h.size, h.block B hB⟩
theorem KB.putObj {B : Nat} {W : World} {l : Nat} (o' : Obj) (hB : B ≠ l) : KB B W (W.putObj l o') := ⟨(grownBy_putObj' W l o').size, World.putObj_heap_other hB⟩
theorem KB.arr {B n : Nat} {W W' : World} {t : TypeId} {f : Nat → Value} (h : KB B W W') (hA : Arr W B t n f) : Arr W' B t n f := h.same.trans hA

/-- A chain and its digit. -/
abbrev CD := { x : Nat × Nat // x.1 < 67 ∧ x.2 ≤ 15 }
def cdOf (d : Nat → Nat) (h : ∀ i, d i ≤ 15) (i : Nat) : CD := if hi : i < 67 then ⟨(i, d i), hi, h i⟩ else ⟨(0, 0), by decide, by decide⟩
theorem cdOf_val {d : Nat → Nat} {h : ∀ i, d i ≤ 15} {i : Nat} (hi : i < 67) : (cdOf d h i).1 = (i, d i) := by unfold cdOf; rw [dif_pos hi]
def cds (d : Nat → Nat) (h : ∀ i, d i ≤ 15) (k : Nat) : List CD := (List.range k).map (cdOf d h)
theorem cds_length (d : Nat → Nat) (h : ∀ i, d i ≤ 15) (k : Nat) : (cds d h k).length = k := by simp [cds]
theorem cds_succ (d : Nat → Nat) (h : ∀ i, d i ≤ 15) (k : Nat) : cds d h (k + 1) = cds d h k ++ [cdOf d h k] := by simp [cds, List.range_succ]
def encCD (x : CD) : Array Value := #[.int .i64 (x.1.1 : Int), .int .i64 (x.1.2 : Int)]
theorem encCD_of {d : Nat → Nat} {h : ∀ i, d i ≤ 15} {i : Nat} (hi : i < 67) : encCD (cdOf d h i) = #[.int .i64 (i : Int), .int .i64 (d i : Int)] := by unfold encCD; rw [cdOf_val hi]

theorem and15_i64 (x : Nat) (h : x < 1024) : bits .and .i64 (x : Int) 15 = ((x % 16 : Nat) : Int) := by
  have hall : ∀ y : Fin 1024, bits .and .i64 ((y.val : Nat) : Int) 15 = ((y.val % 16 : Nat) : Int) := by decide +kernel
  exact hall ⟨x, h⟩
theorem sumN_succ (m : Nat → UInt8) (k : Nat) : ((sumN m (k + 1) : Nat) : Int) = (sumN m k : Int) + (15 - (halfN m k : Int)) := by
  have := halfN_le m k
  show ((sumN m k + (15 - halfN m k) : Nat) : Int) = _
  omega
set_option maxRecDepth 100000 in
set_option maxHeartbeats 2000000 in
theorem digits1_in (n : Nat) (hn : 1 ≤ n) (lp Bm : Nat) (m : Nat → UInt8) (J Jx : List CD → World → Prop)
    (hY : ∀ pre (x : CD) W, J pre W → pre.length < 67 → YieldAt Fence.wide (n - 1) Tryz.prog lp (encCD x) W fun e W' =>
      (e = .returned (.bool true) ∧ J (pre ++ [x]) W' ∧ KB Bm W W') ∨ (e = .returned (.bool false) ∧ Jx (pre ++ [x]) W'))
    (W : World) (hA : AbidesFrom W.heap.size J) (hBm : Arr W Bm 30 32 (bys m)) (h0 : J [] W) :
    CallsIn Fence.wide n Tryz.prog 67 #[.func (.yield lp) #[] #[], .pointer (some ⟨Bm, 0, none⟩)] W fun e W' => (∃ v, e = .returned v) ∧
      ((∃ ys, ys = cds (digN m) (digN_le m) 67 ∧ J ys W') ∨ (∃ pre, True ∧ Jx pre W')) := by
  have HJ := Lib.hid h0
  have HM := Lib.hid hBm
  have HA := Lib.hid hA
  have HY := Lib.hid hY
  have hBm' : Hid (∀ X, KB Bm W X → Arr X Bm 30 32 (bys m)) := Lib.hid fun X hX => hX.arr hBm
  clear h0 hBm hA hY
  refine callsIn_of_wp Tryz.func67 rfl trivial ?_ rfl
  simp only [Tryz.ntmps67, List.size_toArray, List.length_cons, List.length_nil, Nat.reduceAdd, Nat.reduceSub, Array.replicate_succ, Array.replicate_zero, List.push_toArray, List.append_toArray, List.nil_append, List.cons_append]
  gi_wp2
  gi_loopw [3, 7] (fun s i wr => ∃ k : Nat, k ≤ 64 ∧ i = .int .i64 k ∧ s = .int .i64 (sumN m k : Int) ∧ Hid (J (cds (digN m) (digN_le m) k) wr ∧ KB Bm W wr))
    (fun _ i _ => 64 - (intOf i).toNat)
  case atStart => exact ⟨0, Nat.zero_le _, rfl, rfl, Lib.hid ⟨HJ.out, KB.refl _ _⟩⟩
  case round =>
    obtain ⟨k, hk, rfl, rfl, hR⟩ := hrel
    by_cases hlt : k < 64
    · have hs1 := sumN_le m k
      have hs2 := halfN_le m k
      have HM2 := Lib.hid (hBm'.out wr hR.out.2)
      gi_wp2_with (first
        | ((with_reducible show wpListIn _ _ _ _ _ (Oper.mk _ (.load _ _) _ _ _ _ :: _) _ _); refine wli_load rfl 30 _ rfl _ rfl _ (run_load_arr HM2.out Tryz.underlying30 rfl info26) ?_)
        | (refine ⟨trivial, ?_⟩
           gi_at_call 68
           refine (callsIn_wide.2 (half_any m k hlt _)).mono ?_
           rintro e w1 ⟨rfl, hd⟩
           have hJ1 := HA.out _ _ _ none hR.out.1 (grown_of_below hd) (fun r e => by cases e)
           have HB1 := Lib.hid (hR.out.2.trans (KB.of_below hd HM2.out.lt))
           obtain ⟨fn, tmps, assign, body, hy, hRR⟩ := HY.out _ (cdOf (digN m) (digN_le m) k) w1 hJ1 (by rw [cds_length]; omega)
           rw [encCD_of (show k < 67 by omega), digN_lo m hlt] at hy
           have HR := Lib.hid hRR
           clear hd hJ1 hRR))
      refine HR.out.mono ?_
      rintro e W3 (⟨rfl, hJ3, hk3⟩ | ⟨rfl, hJx3⟩)
      · have HN := Lib.hid (And.intro hJ3 (HB1.out.trans hk3))
        clear hJ3 hk3
        gi_wp2
        go_roundw
        case rel => exact ⟨k + 1, by omega, by simp, by rw [sumN_succ], Lib.hid ⟨by rw [cds_succ]; exact HN.out.1, HN.out.2⟩⟩
        case measure => simp [intOf]; omega
      · gi_wp2
        refine bodyPost_ret (results_none rfl _ _ _) rfl ?_
        exact ⟨⟨_, rfl⟩, .inr ⟨_, trivial, hJx3⟩⟩
    · obtain rfl : k = 64 := by omega
      have hs1 := sumN_le m 64
      have HR0 := Lib.hid hR.out
      clear hR hk hlt
      gi_wp2
      rw [show ((64 : Nat) : Int) = 64 from rfl]
      gi_loopw [23] (fun i wr => ∃ k : Nat, k ≤ 3 ∧ i = .int .i64 k ∧ Hid (J (cds (digN m) (digN_le m) (64 + k)) wr ∧ KB Bm W wr))
        (fun i _ => 3 - (intOf i).toNat)
      case atStart => exact ⟨0, Nat.zero_le _, rfl, Lib.hid HR0.out⟩
      case round =>
        obtain ⟨k, hk, rfl, hR⟩ := hrel
        by_cases hlt : k < 3
        · obtain rfl | rfl | rfl : k = 0 ∨ k = 1 ∨ k = 2 := by omega
          · have hb : bits .and .i64 ((sumN m 64 : Int) / 256) 15 = ((digN m 64 : Nat) : Int) := by
              rw [digN_64, ← and15_i64 _ (by omega)]; congr 1
            obtain ⟨fn, tmps, assign, body, hy, hRR⟩ := HY.out _ (cdOf (digN m) (digN_le m) 64) wr hR.out.1 (by rw [cds_length]; omega)
            rw [encCD_of (show 64 < 67 by decide)] at hy
            replace hy : (Instr.yield lp #[.int .i64 64, .int .i64 (digN m 64 : Int)]).run Tryz.prog wr = .ok (.round lp fn tmps assign body) wr := hy
            have HR := Lib.hid hRR
            clear hRR
            gi_wp2
            refine HR.out.mono ?_
            rintro e W3 (⟨rfl, hJ3, hk3⟩ | ⟨rfl, hJx3⟩)
            · have HN := Lib.hid (And.intro hJ3 (hR.out.2.trans hk3))
              clear hJ3 hk3 hy hb
              gi_wp2
              go_roundw
              case rel => exact ⟨0 + 1, by omega, by simp, Lib.hid ⟨by rw [show 64 + (0 + 1) = 64 + 1 by rfl, cds_succ]; exact HN.out.1, HN.out.2⟩⟩
              case measure => simp [intOf]
            · gi_wp2
              refine bodyPost_ret (results_none rfl _ _ _) rfl ?_
              exact ⟨⟨_, rfl⟩, .inr ⟨_, trivial, hJx3⟩⟩
          · have hb : bits .and .i64 ((sumN m 64 : Int) / 16) 15 = ((digN m 65 : Nat) : Int) := by
              rw [digN_65, ← and15_i64 _ (by omega)]; congr 1
            obtain ⟨fn, tmps, assign, body, hy, hRR⟩ := HY.out _ (cdOf (digN m) (digN_le m) 65) wr hR.out.1 (by rw [cds_length]; omega)
            rw [encCD_of (show 65 < 67 by decide)] at hy
            replace hy : (Instr.yield lp #[.int .i64 65, .int .i64 (digN m 65 : Int)]).run Tryz.prog wr = .ok (.round lp fn tmps assign body) wr := hy
            have HR := Lib.hid hRR
            clear hRR
            gi_wp2
            refine HR.out.mono ?_
            rintro e W3 (⟨rfl, hJ3, hk3⟩ | ⟨rfl, hJx3⟩)
            · have HN := Lib.hid (And.intro hJ3 (hR.out.2.trans hk3))
              clear hJ3 hk3 hy hb
              gi_wp2
              go_roundw
              case rel => exact ⟨1 + 1, by omega, by simp, Lib.hid ⟨by rw [show 64 + (1 + 1) = 65 + 1 by rfl, cds_succ]; exact HN.out.1, HN.out.2⟩⟩
              case measure => simp [intOf]
            · gi_wp2
              refine bodyPost_ret (results_none rfl _ _ _) rfl ?_
              exact ⟨⟨_, rfl⟩, .inr ⟨_, trivial, hJx3⟩⟩
          · have hb : bits .and .i64 ((sumN m 64 : Int)) 15 = ((digN m 66 : Nat) : Int) := by
              rw [digN_66, ← and15_i64 _ (by omega)]
            obtain ⟨fn, tmps, assign, body, hy, hRR⟩ := HY.out _ (cdOf (digN m) (digN_le m) 66) wr hR.out.1 (by rw [cds_length]; omega)
            rw [encCD_of (show 66 < 67 by decide)] at hy
            replace hy : (Instr.yield lp #[.int .i64 66, .int .i64 (digN m 66 : Int)]).run Tryz.prog wr = .ok (.round lp fn tmps assign body) wr := hy
            have HR := Lib.hid hRR
            clear hRR
            gi_wp2
            refine HR.out.mono ?_
            rintro e W3 (⟨rfl, hJ3, hk3⟩ | ⟨rfl, hJx3⟩)
            · have HN := Lib.hid (And.intro hJ3 (hR.out.2.trans hk3))
              clear hJ3 hk3 hy hb
              gi_wp2
              go_roundw
              case rel => exact ⟨2 + 1, by omega, by simp, Lib.hid ⟨by rw [show 64 + (2 + 1) = 66 + 1 by rfl, cds_succ]; exact HN.out.1, HN.out.2⟩⟩
              case measure => simp [intOf]
            · gi_wp2
              refine bodyPost_ret (results_none rfl _ _ _) rfl ?_
              exact ⟨⟨_, rfl⟩, .inr ⟨_, trivial, hJx3⟩⟩
        · obtain rfl : k = 3 := by omega
          gi_wp2
          go_end0
          exact ⟨⟨_, rfl⟩, .inl ⟨_, rfl, hR.out.1⟩⟩

theorem digits_stops (n : Nat) (hn : 1 ≤ n) (Bm : Nat) (m : Nat → UInt8) (w : World) (hBm : Arr w Bm 30 32 (bys m)) :
    SeqStopsK Fence.wide n Tryz.prog 67 #[.pointer (some ⟨Bm, 0, none⟩)] encCD (KB Bm) (fun ys => ys = cds (digN m) (digN_le m) 67) (fun _ => True) 67 w := fun lp J Jx W hW hJ _ hY h0 =>
  digits1_in n hn lp Bm m J Jx hY W hJ (hBm.under hW) h0
end Go.Proofs.YtfeiplaiekbdkaaGreatDoor
/- Arrays of 67 numbers. -/
namespace Go.Proofs.YtfeiplaiekbdkaaGreatDoor
open Go.RowKit Go.Shelf
attribute [local go_sem] Oper.semAt_some

def ints (d : Nat → Nat) : Nat → Value := fun i => .int .i64 (d i : Int)
theorem ints_one (d : Nat → Nat) (n : Nat) : ∀ i, i < n → (ints d i).oneCell' = true := fun _ _ => rfl
theorem ints_upd (d : Nat → Nat) (i x : Nat) : upd (ints d) i (.int .i64 (x : Int)) = ints (upd d i x) := by
  funext j; by_cases e : j = i <;> simp [upd, ints, e]
def putD (pre : List CD) : Nat → Nat := pre.foldl (fun f x => upd f x.1.1 x.1.2) fun _ => 0
theorem putD_snoc (pre : List CD) (x : CD) : putD (pre ++ [x]) = upd (putD pre) x.1.1 x.1.2 := by simp [putD]
theorem putD_cds (d : Nat → Nat) (h : ∀ i, d i ≤ 15) (k : Nat) (hk : k ≤ 67) (i : Nat) : putD (cds d h k) i = if i < k then d i else 0 := by
  induction k with
  | zero => simp [cds, putD]
  | succ k ih =>
    rw [cds_succ, putD_snoc, cdOf_val (by omega)]
    by_cases e : i = k
    · subst e; simp [upd]
    · rw [upd_ne _ _ _ _ e, ih (by omega)]
      by_cases hlt : i < k
      · rw [if_pos hlt, if_pos (by omega)]
      · rw [if_neg hlt, if_neg (by omega)]
def z67 : Nat → Nat := fun _ => 0
theorem info67 : (Tryz.prog.info? 88).map (·.size) = some 67 := by kernel_rfl
theorem zeroV67 (w : World) : (zeroValue 88).run Tryz.prog w = .ok (.agg (vec 67 (ints z67))) w :=
  (zero_of_info (P := Tryz.prog) (t := 88) (v := .agg (vec 67 (ints z67))) (n := 67) (by kernel_rfl)).1 w
attribute [local go_sem ↓ high] zeroV26 zeroV67
theorem arr_own {β : Type} (B g n : Nat) (t : TypeId) (f : β → Nat → Value) : OwnFrom B (fun s W => Arr W g t n (f s)) := fun s X Y row hs hg hr => hs.grown hg fun e => by
  obtain ⟨_, o, ho, hc⟩ := hr g e.symm
  rw [show X.heap[g]? = _ from hs] at ho
  cases ho
  cases hc
theorem Arr.putObj {w : World} {g n l : Nat} {t : TypeId} {f : Nat → Value} {o : Obj} (h : Arr w g t n f) (o' : Obj) (hl : w.heap[l]? = some o) (ho : o.isCells = false) : Arr (w.putObj l o') g t n f :=
  h.grown (grownBy_putObj' w l o') fun e => by
    obtain rfl : g = l := Option.some.inj e
    rw [show w.heap[g]? = _ from h] at hl
    cases hl
    cases ho
end Go.Proofs.YtfeiplaiekbdkaaGreatDoor
/- The reference's Digits. -/
namespace Go.Proofs.YtfeiplaiekbdkaaGreatDoor
open Go.RowKit
attribute [local go_sem ↓ high] zeroV26 zeroV67

def rdTo (m : Nat → UInt8) (k : Nat) : Nat → Nat := fun i => if i < 2 * k then halfN m i else 0
theorem rdTo_next (m : Nat → UInt8) (k : Nat) : upd (upd (rdTo m k) (2 * k) ((m k).toNat / 16)) (2 * k + 1) ((m k).toNat % 16) = rdTo m (k + 1) := by
  funext j
  by_cases e1 : j = 2 * k + 1
  · subst e1; simp [upd, rdTo, ← halfN_odd, show 2 * k + 1 < 2 * (k + 1) by omega]
  · by_cases e0 : j = 2 * k
    · subst e0; simp [upd, rdTo, ← halfN_even, show 2 * k < 2 * (k + 1) by omega]
    · rw [upd_ne _ _ _ _ e1, upd_ne _ _ _ _ e0]
      unfold rdTo
      by_cases h : j < 2 * k
      · rw [if_pos h, if_pos (by omega)]
      · rw [if_neg h, if_neg (by omega)]
theorem rdTo_end (m : Nat → UInt8) : ∀ i, i < 67 → upd (upd (upd (rdTo m 32) 64 (digN m 64)) 65 (digN m 65)) 66 (digN m 66) i = digN m i := fun i hi => by
  by_cases e6 : i = 66
  · subst e6; simp [upd]
  · by_cases e5 : i = 65
    · subst e5; simp [upd]
    · by_cases e4 : i = 64
      · subst e4; simp [upd]
      · rw [upd_ne _ _ _ _ e6, upd_ne _ _ _ _ e5, upd_ne _ _ _ _ e4, digN_lo m (by omega)]
        exact if_pos (by omega)
theorem sumN_two (m : Nat → UInt8) (k : Nat) : ((sumN m (2 * (k + 1)) : Nat) : Int) = (sumN m (2 * k) : Int) + (30 - ((m k).toNat / 16 : Nat) - ((m k).toNat % 16 : Nat)) := by
  rw [show 2 * (k + 1) = 2 * k + 1 + 1 by omega, sumN_succ, sumN_succ, halfN_even, halfN_odd]
  omega
theorem idx32 (f : Nat → UInt8) (i : Nat) (hi : i < 32) (w : World) :
    (Instr.index 30 (.agg (vec 32 (bys f))) (.int .i64 (i : Int))).run Tryz.prog w = .ok (.int .u8 ((f i).toNat : Int)) w := by
  have hv := vec_at 32 (bys f) i hi
  simp [Instr.index, run_underlying Tryz.underlying30, asIntOf, go_sem, Tryz.sizeOf5, Tryz.isAgg5, hv, hi]
  rfl

set_option maxHeartbeats 1000000 in
set_option maxRecDepth 100000 in
theorem rdigits_any (m : Nat → UInt8) (w : World) :
    Calls Tryz.prog 51 #[.agg (vec 32 (bys m))] w fun e w' => e = .returned (.agg (vec 67 (ints (digN m)))) ∧ Below w.heap.size w w' := by
  obtain ⟨V, hV⟩ : ∃ V, V = ((w.alloc (.cells (vec 32 (bys m)) 30)).alloc (.cells (vec 67 (ints z67)) 88)).alloc (.cells (vec 67 (ints z67)) 88) := ⟨_, rfl⟩
  have hM : Arr V w.heap.size 30 32 (bys m) := by rw [hV]; exact ((Arr.newAt _ _ _ _ (by simp)).alloc _).alloc _
  have hR : Arr V (w.heap.size + 1) 88 67 (ints z67) := by rw [hV]; exact (Arr.newAt _ _ _ _ (by simp)).alloc _
  have hA : Arr V (w.heap.size + 1 + 1) 88 67 (ints z67) := by rw [hV]; exact Arr.newAt _ _ _ _ (by simp)
  have hB : Below w.heap.size w V := by rw [hV]; exact ((((Below.refl _ _).alloc (by simp <;> omega) _).alloc (by simp <;> omega) _).alloc (by simp <;> omega) _)
  have HA := Lib.hid (And.intro hM (And.intro hR (And.intro hA hB)))
  have HW := Lib.hid hV
  clear hV hM hR hA hB
  go_enter Tryz.func51, Tryz.ntmps51
  go_upto_region 2 with fail
  rw [← HW.out]
  clear HW
  go_wp2_with ((with_reducible show wpList _ _ _ (Oper.mk _ (.load _ _) _ _ _ _ :: _) _ _); refine wl_load rfl 30 _ rfl _ rfl _ (run_load_arr HA.out.1 Tryz.underlying30 rfl info26) ?_)
  go_loopw [4, 8] (fun s i W => ∃ k : Nat, k ≤ 32 ∧ i = .int .i64 k ∧ s = .int .i64 (sumN m (2 * k) : Int) ∧ Hid (Arr W (w.heap.size + 1) 88 67 (ints z67) ∧ Arr W (w.heap.size + 1 + 1) 88 67 (ints (rdTo m k)) ∧ Below w.heap.size w W)) (fun _ i _ => 32 - (intOf i).toNat)
  case atStart => exact ⟨0, Nat.zero_le _, rfl, rfl, Lib.hid ⟨HA.out.2.1, HA.out.2.2.1.congr fun i _ => by simp [ints, z67, rdTo], HA.out.2.2.2⟩⟩
  case round =>
    obtain ⟨k, hk, rfl, rfl, hR⟩ := hrel
    by_cases hlt : k < 32
    · have hix := fun W => idx32 m k hlt W
      have hm := (m k).toNat_lt
      have hs := sumN_le m (2 * k)
      have hA := hR.out.2.1
      have hc0 := hA.cell (i := 2 * k) (by omega)
      have hf0 := hA.frozen (2 * k)
      have hc1 : ∀ u, (wr.setCell ⟨w.heap.size + 1 + 1, 2 * k, none⟩ u).cell? ⟨w.heap.size + 1 + 1, 2 * k + 1, none⟩ = some _ := fun u => (hA.set (2 * k) u).cell (i := 2 * k + 1) (by omega)
      have hf1 : ∀ u, (wr.setCell ⟨w.heap.size + 1 + 1, 2 * k, none⟩ u).frozen? ⟨w.heap.size + 1 + 1, 2 * k + 1, none⟩ = false := fun u => (hA.set (2 * k) u).frozen (2 * k + 1)
      clear hA
      go_upto_region 7 with fail
      obtain ⟨V2, hV2⟩ : ∃ V2, V2 = (wr.setCell ⟨w.heap.size + 1 + 1, 2 * k, none⟩ (.int .i64 (((m k).toNat : Int) / 16))).setCell ⟨w.heap.size + 1 + 1, 2 * k + 1, none⟩ (.int .i64 (((m k).toNat : Int) % 16)) := ⟨_, rfl⟩
      have e0 : ((m k).toNat : Int) / 16 = (((m k).toNat / 16 : Nat) : Int) := by omega
      have e1 : ((m k).toNat : Int) % 16 = (((m k).toNat % 16 : Nat) : Int) := by omega
      have hA2 := (hR.out.2.1.set (2 * k) (.int .i64 (((m k).toNat : Int) / 16))).set (2 * k + 1) (.int .i64 (((m k).toNat : Int) % 16))
      rw [← hV2] at hA2 ⊢
      rw [e0, e1, ints_upd, ints_upd, rdTo_next] at hA2
      have d0 := hA2.cell (i := 2 * k) (by omega)
      have d1 := hA2.cell (i := 2 * k + 1) (by omega)
      unfold ints at d0 d1
      rw [show rdTo m (k + 1) (2 * k) = (m k).toNat / 16 by unfold rdTo; rw [if_pos (by omega), halfN_even], ← e0] at d0
      rw [show rdTo m (k + 1) (2 * k + 1) = (m k).toNat % 16 by unfold rdTo; rw [if_pos (by omega), halfN_odd], ← e1] at d1
      have hR2 : Arr V2 (w.heap.size + 1) 88 67 (ints z67) := by
        rw [hV2]; exact (hR.out.1.far (p := ⟨w.heap.size + 1 + 1, 2 * k, none⟩) (show w.heap.size + 1 ≠ w.heap.size + 1 + 1 by omega) _).far (p := ⟨w.heap.size + 1 + 1, 2 * k + 1, none⟩) (show w.heap.size + 1 ≠ w.heap.size + 1 + 1 by omega) _
      have hB2 : Below w.heap.size w V2 := by
        rw [hV2]; exact (hR.out.2.2.setCell (p := ⟨w.heap.size + 1 + 1, 2 * k, none⟩) (show w.heap.size ≤ w.heap.size + 1 + 1 by omega) _).setCell (p := ⟨w.heap.size + 1 + 1, 2 * k + 1, none⟩) (show w.heap.size ≤ w.heap.size + 1 + 1 by omega) _
      have HN := Lib.hid (And.intro hR2 (And.intro hA2 hB2))
      have HE := Lib.hid (And.intro e0 e1)
      clear hV2 hA2 hR2 hB2 hc0 hf0 hc1 hf1 hix hR e0 e1
      go_quiet (fail)
      go_wp2
      go_roundw
      case rel => exact ⟨k + 1, by omega, by simp, by rw [sumN_two, ← HE.out.1, ← HE.out.2], Lib.hid ⟨HN.out.1.drewN nq, HN.out.2.1.drewN nq, below_drewN HN.out.2.2 nq⟩⟩
      case measure => simp [intOf]; omega
    · obtain rfl : k = 32 := by omega
      rw [show 2 * 32 = 64 from rfl]
      have hs := sumN_le m 64
      have hA := hR.out.2.1
      have hc0 := hA.cell (i := 64) (by omega)
      have hf0 := hA.frozen 64
      have hc1 : ∀ u, (wr.setCell ⟨w.heap.size + 1 + 1, 64, none⟩ u).cell? ⟨w.heap.size + 1 + 1, 65, none⟩ = some _ := fun u => (hA.set 64 u).cell (i := 65) (by omega)
      have hf1 : ∀ u, (wr.setCell ⟨w.heap.size + 1 + 1, 64, none⟩ u).frozen? ⟨w.heap.size + 1 + 1, 65, none⟩ = false := fun u => (hA.set 64 u).frozen 65
      have hc2 : ∀ u v, ((wr.setCell ⟨w.heap.size + 1 + 1, 64, none⟩ u).setCell ⟨w.heap.size + 1 + 1, 65, none⟩ v).cell? ⟨w.heap.size + 1 + 1, 66, none⟩ = some _ := fun u v => ((hA.set 64 u).set 65 v).cell (i := 66) (by omega)
      have hf2 : ∀ u v, ((wr.setCell ⟨w.heap.size + 1 + 1, 64, none⟩ u).setCell ⟨w.heap.size + 1 + 1, 65, none⟩ v).frozen? ⟨w.heap.size + 1 + 1, 66, none⟩ = false := fun u v => ((hA.set 64 u).set 65 v).frozen 66
      have hb0 : bits .and .i64 ((sumN m 64 : Int) / 256) 15 = ((digN m 64 : Nat) : Int) := by rw [digN_64, ← and15_i64 _ (by omega)]; congr 1
      have hb1 : bits .and .i64 ((sumN m 64 : Int) / 16) 15 = ((digN m 65 : Nat) : Int) := by rw [digN_65, ← and15_i64 _ (by omega)]; congr 1
      have hb2 : bits .and .i64 (sumN m 64 : Int) 15 = ((digN m 66 : Nat) : Int) := by rw [digN_66, ← and15_i64 _ (by omega)]
      clear hA hk hlt
      go_upto_region 10 with fail
      obtain ⟨V3, hV3⟩ : ∃ V3, V3 = ((wr.setCell ⟨w.heap.size + 1 + 1, 64, none⟩ (.int .i64 (digN m 64 : Int))).setCell ⟨w.heap.size + 1 + 1, 65, none⟩ (.int .i64 (digN m 65 : Int))).setCell ⟨w.heap.size + 1 + 1, 66, none⟩ (.int .i64 (digN m 66 : Int)) := ⟨_, rfl⟩
      have h3 := ((hR.out.2.1.set 64 (.int .i64 (digN m 64 : Int))).set 65 (.int .i64 (digN m 65 : Int))).set 66 (.int .i64 (digN m 66 : Int))
      rw [← hV3, ints_upd, ints_upd, ints_upd] at h3
      rw [← hV3]
      have h3 : Arr V3 (w.heap.size + 1 + 1) 88 67 (ints (digN m)) := h3.congr fun i hi => by unfold ints; rw [rdTo_end m i hi]
      have ne : w.heap.size + 1 ≠ w.heap.size + 1 + 1 := by omega
      have le : w.heap.size ≤ w.heap.size + 1 + 1 := by omega
      have h4 : Arr V3 (w.heap.size + 1) 88 67 (ints z67) := by
        rw [hV3]; exact ((hR.out.1.far (p := ⟨w.heap.size + 1 + 1, 64, none⟩) ne _).far (p := ⟨w.heap.size + 1 + 1, 65, none⟩) ne _).far (p := ⟨w.heap.size + 1 + 1, 66, none⟩) ne _
      have h5 : Below w.heap.size w V3 := by
        rw [hV3]; exact ((hR.out.2.2.setCell (p := ⟨w.heap.size + 1 + 1, 64, none⟩) le _).setCell (p := ⟨w.heap.size + 1 + 1, 65, none⟩) le _).setCell (p := ⟨w.heap.size + 1 + 1, 66, none⟩) le _
      have HL := Lib.hid (And.intro h3 (And.intro h4 h5))
      clear hV3 h3 h4 h5 ne le hc0 hf0 hc1 hf1 hc2 hf2 hb0 hb1 hb2 hR
      go_wp2_with (first
        | ((with_reducible show wpList _ _ _ (Oper.mk _ (.load _ _) _ _ _ _ :: _) _ _); refine wl_load rfl 88 _ rfl _ rfl _ (run_load_arr HL.out.1 Tryz.underlying88 rfl info67) ?_)
        | ((with_reducible show wpList _ _ _ (Oper.mk _ (.store _ _ _) _ _ _ _ :: _) _ _); refine wl_store rfl 88 _ _ rfl _ rfl _ rfl (run_store_arr HL.out.2.1 (ints (digN m)) info67 (ints_one _ _)) ?_))
      exact bodyPost_ret (results_cell1 rfl _ _ _ rfl (run_load_arr (HL.out.2.1.row _) Tryz.underlying88 rfl info67)) rfl ⟨rfl, below_row HL.out.2.2 (by omega) _⟩
end Go.Proofs.YtfeiplaiekbdkaaGreatDoor
/- All digits 15. -/
namespace Go.Proofs.YtfeiplaiekbdkaaGreatDoor
open Go.RowKit
def d15 : Nat → Nat := fun _ => 15
theorem d15_le (i : Nat) : d15 i ≤ 15 := Nat.le_refl _
end Go.Proofs.YtfeiplaiekbdkaaGreatDoor
/- wots.ends: its iterator. -/
namespace Go.Proofs.YtfeiplaiekbdkaaGreatDoor
open Go.RowKit Go.Shelf
attribute [local go_sem] Oper.semAt_some

theorem ends_any (w : World) : Calls Tryz.prog 54 #[] w fun e w' => e = .returned (.func (.func 79) #[] #[]) ∧ w' = w := by
  go_enter Tryz.func54, Tryz.ntmps54
  go_wp2
  go_ret
  exact ⟨rfl, rfl⟩
set_option maxRecDepth 100000 in
set_option maxHeartbeats 1000000 in
theorem ends_stops (n : Nat) (hn : 1 ≤ n) (Bm : Nat) (w : World) :
    SeqStopsK Fence.wide n Tryz.prog 79 #[] encCD (KB Bm) (fun ys => ys = cds d15 d15_le 67) (fun _ => True) 67 w := by
  intro lp J Jx W _ hA _ hY h0
  have HJ := Lib.hid h0
  have HA := Lib.hid hA
  have HY := Lib.hid hY
  clear h0 hA hY
  refine callsIn_of_wp Tryz.func79 rfl trivial ?_ rfl
  simp only [Tryz.ntmps79, List.size_toArray, List.length_cons, List.length_nil, Nat.reduceAdd, Nat.reduceSub, Array.replicate_succ, Array.replicate_zero, List.push_toArray, List.append_toArray, List.nil_append, List.cons_append]
  gi_wp2
  gi_loopw [3] (fun i wr => ∃ k : Nat, k ≤ 67 ∧ i = .int .i64 k ∧ Hid (J (cds d15 d15_le k) wr)) (fun i _ => 67 - (intOf i).toNat)
  case atStart => exact ⟨0, Nat.zero_le _, rfl, Lib.hid HJ.out⟩
  case round =>
    obtain ⟨k, hk, rfl, hR⟩ := hrel
    by_cases hlt : k < 67
    · obtain ⟨fn, tmps, assign, body, hy, hRR⟩ := HY.out _ (cdOf d15 d15_le k) wr hR.out (by rw [cds_length]; omega)
      rw [encCD_of hlt] at hy
      replace hy : (Instr.yield lp #[.int .i64 (k : Int), .int .i64 15]).run Tryz.prog wr = .ok (.round lp fn tmps assign body) wr := hy
      have HR := Lib.hid hRR
      clear hRR
      gi_wp2
      refine HR.out.mono ?_
      rintro e W3 (⟨rfl, hJ3, hk3⟩ | ⟨rfl, hJx3⟩)
      · have HN := Lib.hid hJ3
        clear hJ3 hk3 hy
        gi_wp2
        go_roundw
        case rel => exact ⟨k + 1, by omega, by simp, Lib.hid (by rw [cds_succ]; exact HN.out)⟩
        case measure => simp [intOf]; omega
      · gi_wp2
        refine bodyPost_ret (results_none rfl _ _ _) rfl ?_
        exact ⟨⟨_, rfl⟩, .inr ⟨_, trivial, hJx3⟩⟩
    · obtain rfl : k = 67 := by omega
      gi_wp2
      go_end0
      exact ⟨⟨_, rfl⟩, .inl ⟨_, rfl, hR.out⟩⟩
end Go.Proofs.YtfeiplaiekbdkaaGreatDoor
