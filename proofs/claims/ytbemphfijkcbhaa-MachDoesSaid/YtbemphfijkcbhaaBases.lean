/- The iterator of mach.bases: the pages that a span has addresses of, in order. -/
import Derived.RangeFuncNested
import Derived.RangeFuncBound
import Derived.RangeFuncCalls
import Derived.RangeFuncLeaves
import Derived.Shelf.Abstract
import Derived.Shelf.RegionOpen
import Derived.WalkKit
import Derived.OwnWalkIn
import Derived.TacticsInMore
import Derived.LoopNIn
import Derived.LoopIn
import Derived.Test.YtbemphfijkcbhaaWb
import Derived.Test.YtbemphfijkcbhaaWa
import Derived.Test.YtbemphfijkcbhaaWhole9
namespace Go.Proofs.Ytbemphfijkcbhaa
open Go.RowKit Go.Shelf
attribute [local go_sem] Oper.semAt_some

/-- Block B is as it was. -/
structure KB (B : Nat) (W W' : World) : Prop where
  size : W.heap.size ≤ W'.heap.size
  same : W'.heap[B]? = W.heap[B]?
theorem KB.refl (B : Nat) (W : World) : KB B W W := ⟨Nat.le_refl _, rfl⟩
theorem KB.trans {B : Nat} {X Y Z : World} (h : KB B X Y) (k : KB B Y Z) : KB B X Z := ⟨Nat.le_trans h.size k.size, k.same.trans h.same⟩
theorem KB.of_below {B n₀ : Nat} {W W' : World} (h : Below n₀ W W') (hB : B < n₀) : KB B W W' := ⟨h.size, h.block B hB⟩
theorem KB.putObj {B : Nat} {W : World} {l : Nat} (o' : Obj) (hB : B ≠ l) : KB B W (W.putObj l o') := ⟨(grownBy_putObj' W l o').size, World.putObj_heap_other hB⟩
theorem KB.blk {B : Nat} {W W' : World} {t : TypeId} {cs : Array Value} (h : KB B W W') (hA : Blk W B t cs) : Blk W' B t cs := h.same.trans hA
theorem KB.turn {B : Nat} {G : Nat → Prop} {W W' : World} (h : Turn G W W') (hB : B < W.heap.size) (hg : ¬ G B) : KB B W W' := ⟨h.size, h.block B hB hg⟩

def encPB {s : Sp} (x : PB s) : Array Value := #[.int .u64 (x.1 : Int)]
theorem overlap_touch (a b x : Nat) (hab : a + b ≤ 1099511627776) (hx : x + 4096 ≤ 18446744073709551616) (hb : 0 < b) : overlap (x, 4096) (a, b) = (decide (x < a + b) && decide (a < x + 4096)) := by
  have h1 : good (x, 4096) = true := (good_iff _).2 ⟨by simp only; omega, by simp only; omega⟩
  have h2 : good (a, b) = true := (good_iff _).2 ⟨hb, by simp only; omega⟩
  unfold overlap
  rw [h1, h2]; rfl
theorem overlap_none (a x : Nat) : overlap (x, 4096) (a, 0) = false := by
  have h2 : good (a, 0) = false := by simp [good]
  unfold overlap
  rw [h2]; simp
theorem downN_pg (a : Nat) : downN a 4096 = pgOf a := by rw [downN_div]; rfl
set_option maxRecDepth 100000 in
set_option maxHeartbeats 2000000 in
theorem bases1_in (n : Nat) (hn : 1 ≤ n) (lp Bs a b : Nat) (hab : a < 18446744073709551616 ∧ (0 < b → a + b ≤ 1099511627776)) (J Jx : List (PB (a, b)) → World → Prop)
    (hY : ∀ pre (x : PB (a, b)) W, J pre W → pre.length < pcnt (a, b) → YieldAt Fence.wide (n - 1) Try.prog lp (encPB x) W fun e W' =>
      (e = .returned (.bool true) ∧ J (pre ++ [x]) W' ∧ KB Bs W W') ∨ (e = .returned (.bool false) ∧ Jx (pre ++ [x]) W'))
    (W : World) (hA : AbidesFrom W.heap.size J) (hB : Blk W Bs 24 (boxSp a b)) (h0 : J [] W) :
    CallsIn Fence.wide n Try.prog 74 #[.func (.yield lp) #[] #[], .pointer (some ⟨Bs, 0, none⟩)] W fun e W' => (∃ v, e = .returned v) ∧
      ((∃ ys, ys = basesL (a, b) (pcnt (a, b)) ∧ J ys W') ∨ (∃ pre, True ∧ Jx pre W')) := by
  have HJ := Lib.hid h0
  have HA := Lib.hid hA
  have HY := Lib.hid hY
  have HK : Hid (∀ X, KB Bs W X → Blk X Bs 24 (boxSp a b)) := Lib.hid fun X hX => hX.blk hB
  have HAB := Lib.hid hab
  have hc : W.cell? ⟨Bs, 0, none⟩ = some (.int .u64 (a : Int)) := hB.cellAt 0 rfl
  have HS : Hid (fit (a, b)) := Lib.hid ⟨hab.1, by have := hab.2; simp only; omega⟩
  have HD : Hid (∀ w, Calls Try.prog 75 #[.int .u64 (a : Int), .int .u64 4096] w fun e w' => e = .returned (.int .u64 (pgOf a : Int)) ∧ w = w') := Lib.hid fun w =>
    (down_any a 4096 (by unfold two64; omega) (by decide) w).mono fun e w' ⟨h1, h2⟩ => ⟨by rw [h1, downN_pg], h2⟩
  clear h0 hA hY hB hab
  refine callsIn_of_wp Try.func74 rfl trivial ?_ rfl
  simp only [Try.ntmps74, List.size_toArray, List.length_cons, List.length_nil, Nat.reduceAdd, Nat.reduceSub, Array.replicate_succ, Array.replicate_zero, List.push_toArray, List.append_toArray, List.nil_append, List.cons_append]
  gi_wp2_with (refine ⟨trivial, ?_⟩
               gi_at_call 75
               refine (callsIn_wide.2 (HD.out _)).mono ?_
               rintro e w1 ⟨rfl, rfl⟩)
  gi_loopw [3] (fun i wr => ∃ k x : Nat, k ≤ pcnt (a, b) ∧ x = pgOf a + 4096 * k ∧ i = .int .u64 (x : Int) ∧ Hid (J (basesL (a, b) k) wr ∧ KB Bs W wr)) (fun i _ => pgOf a + 4096 * pcnt (a, b) - (intOf i).toNat)
  case atStart => exact ⟨0, pgOf a, Nat.zero_le _, by omega, rfl, Lib.hid ⟨HJ.out, KB.refl _ _⟩⟩
  case round =>
    obtain ⟨k, x, hk, hx, rfl, hR⟩ := hrel
    have HB2 := Lib.hid (HK.out wr hR.out.2)
    have hxl : x < 18446744073709551616 ∧ (0 < b → x ≤ 1099511627776) := by
      obtain ⟨h0, h1⟩ := HAB.out
      rcases Nat.eq_zero_or_pos b with rfl | hb
      · have e : pcnt (a, 0) = 0 := by unfold pcnt; simp
        have := pgOf_le a
        exact ⟨by omega, fun h => absurd h (Nat.lt_irrefl _)⟩
      · have h1 := h1 hb
        have h2 : x ≤ 1099511627776 := by
          rcases Nat.eq_zero_or_pos k with rfl | hk0
          · have := pgOf_le a; omega
          · have := (touch_on (a, b) (k - 1) hb).1 (by omega)
            simp only at this
            have h3 : pgOf a % 4096 = 0 := pgOf_mod a
            omega
        exact ⟨by omega, fun _ => h2⟩
    have HX : Hid (fit (x, 4096)) := Lib.hid ⟨by simp only; omega, by simp only; omega⟩
    have HO : Hid (overlap (x, 4096) (a, b) = decide (k < pcnt (a, b))) := Lib.hid (by
      rcases Nat.eq_zero_or_pos b with rfl | hb
      · have e : pcnt (a, 0) = 0 := by unfold pcnt; simp
        rw [overlap_none, e]; simp
      · rw [overlap_touch a b x (HAB.out.2 hb) (by have := hxl.2 hb; omega) hb]
        have h1 := touch_on (a, b) k hb
        simp only at h1
        have h2 : a < x + 4096 := by have := pgOf_lt a; omega
        rw [Bool.eq_iff_iff]
        simp only [Bool.and_eq_true, decide_eq_true_eq]
        omega)
    have HXE := Lib.hid hx
    have HKL := Lib.hid hk
    have HXL := Lib.hid hxl
    clear hx hk hxl
    gi_wp2_with fail
    refine wpIn_then_false ?_
    refine wpIn_region_held_wide (S := fun Y => VS wr Y) (by kernel_rfl) (by rintro ⟨_, _, h⟩; exact h) (VS.begin wr) (fun Wd hWd hS => ?_)
    clear hWd
    (refine held_take (i := 0) (oi := ?ot1) (v := ?vt1) ?at1 (by kernel_rfl) (by kernel_rfl) (by kernel_rfl) ?bt1 ?ct1 ?dt1 (by assumption) ?rt1; (case at1 => (simp only [List.getElem?_toArray, List.getElem?_cons_zero]; rfl)); (case bt1 => exact fun _ _ _ h => h); (case ct1 => kernel_rfl); (case dt1 => (intro W hW; (try dsimp only at hW); go_split_ands; go_simp; (try with_reducible rfl))); (case' rt1 => simp only [Act.put, List.setIfInBounds_toArray, List.set_cons_zero, List.set_cons_succ]))
    (refine held_take (i := 2) (oi := ?ot2) (v := .agg (boxSp a b)) ?at2 (by kernel_rfl) (by kernel_rfl) (by kernel_rfl) ?bt2 ?ct2 ?dt2 (by assumption) ?rt2; (case at2 => (simp only [List.getElem?_toArray, List.getElem?_cons_zero, List.getElem?_cons_succ]; rfl)); (case bt2 => exact fun _ _ _ h => h); (case ct2 => kernel_rfl); (case dt2 => (intro W2 hW; exact exec_load_at 24 _ rfl Bs 0 rfl _ (Blk.load (Blk.under HB2.out hW) Try.underlying24 rfl infoSp))); (case' rt2 => simp only [Act.put, List.setIfInBounds_toArray, List.set_cons_zero, List.set_cons_succ]))
    refine held_one (i := 1) (oi := ?ot3) (by kernel_rfl) ?at3 ?ct3 (fun K1 hK1 => ?_)
    (case at3 => (simp only [List.getElem?_toArray, List.getElem?_cons_zero, List.getElem?_cons_succ]; rfl))
    (case ct3 => kernel_rfl)
    go_simp
    refine (whole_any x _).mono ?_
    rintro e w1 ⟨rfl, hd⟩
    refine hK1 _ _ (VS.keep hS hd) (fun hS1 => ?_)
    clear hS hd hK1 K1
    refine held_one (i := 3) (oi := ?ot4) (by kernel_rfl) ?at4 ?ct4 (fun K3 hK3 => ?_)
    (case at4 => (simp only [List.getElem?_toArray, List.getElem?_cons_zero, List.getElem?_cons_succ]; rfl))
    (case ct4 => kernel_rfl)
    go_simp
    refine (overlap_any x 4096 a b HX.out HS.out _).mono ?_
    rintro e w1 ⟨rfl, hd⟩
    refine hK3 _ _ (VS.keep hS1 hd) (fun hS3 => ?_)
    clear hS1 hd hK3 K3
    refine wpAnyH_done (by kernel_rfl) ?_ _
    rw [HO.out]
    have HW : Hid (J (basesL (a, b) k) w1 ∧ KB Bs W w1) := Lib.hid ⟨HA.out _ _ _ none hR.out.1 (grown_of_below hS3) (fun r e => by cases e), hR.out.2.trans (KB.of_below hS3 HB2.out.lt)⟩
    clear hR hS3
    by_cases hlt : k < pcnt (a, b)
    · rw [decide_eq_true hlt]
      obtain ⟨fn, tmps, assign, body, hy, hRR⟩ := HY.out _ (⟨x, by have h := touch_at (a, b) k hlt; rw [HXE.out]; exact h⟩ : PB (a, b)) w1 HW.out.1 (by rw [basesL_length _ _ (Nat.le_of_lt hlt)]; exact hlt)
      replace hy : (Instr.yield lp #[.int .u64 (x : Int)]).run Try.prog w1 = .ok (.round lp fn tmps assign body) w1 := hy
      have HR := Lib.hid hRR
      clear hRR
      gi_wp2
      refine HR.out.mono ?_
      rintro e W3 (⟨rfl, hJ3, hk3⟩ | ⟨rfl, hJx3⟩)
      · have HN := Lib.hid (And.intro hJ3 (HW.out.2.trans hk3))
        have hxl2 : (x : Int) + 4096 < 18446744073709551616 := by
          have h4 := touch_at (a, b) k hlt
          have := HXL.out.2 h4.2.2.2
          omega
        clear hJ3 hk3 hy
        gi_wp2
        go_roundw
        case rel =>
          refine ⟨k + 1, x + 4096, hlt, by rw [HXE.out]; omega, by go_num, Lib.hid ⟨?_, HN.out.2⟩⟩
          rw [basesL_succ _ _ hlt]
          have e : (⟨pgOf a + 4096 * k, touch_at (a, b) k hlt⟩ : PB (a, b)) = ⟨x, by have h := touch_at (a, b) k hlt; rw [HXE.out]; exact h⟩ := Subtype.ext HXE.out.symm
          rw [e]; exact HN.out.1
        case measure =>
          have := HXE.out
          simp [intOf]; omega
      · gi_wp2
        refine bodyPost_ret (results_none rfl _ _ _) rfl ?_
        exact ⟨⟨_, rfl⟩, .inr ⟨_, trivial, hJx3⟩⟩
    · rw [decide_eq_false hlt]
      have hke : k = pcnt (a, b) := by have := HKL.out; omega
      gi_wp2
      go_end0
      exact ⟨⟨_, rfl⟩, .inl ⟨_, rfl, by rw [← hke]; exact HW.out.1⟩⟩
theorem bases_stops (n : Nat) (hn : 1 ≤ n) (Bs a b : Nat) (hab : a < 18446744073709551616 ∧ (0 < b → a + b ≤ 1099511627776)) (w : World) (hB : Blk w Bs 24 (boxSp a b)) :
    SeqStopsK Fence.wide n Try.prog 74 #[.pointer (some ⟨Bs, 0, none⟩)] (encPB (s := (a, b))) (KB Bs) (fun ys => ys = basesL (a, b) (pcnt (a, b))) (fun _ => True) (pcnt (a, b)) w := fun lp J Jx W hW hJ _ hY h0 =>
  bases1_in n hn lp Bs a b hab J Jx hY W hJ (hB.under hW) h0
end Go.Proofs.Ytbemphfijkcbhaa
