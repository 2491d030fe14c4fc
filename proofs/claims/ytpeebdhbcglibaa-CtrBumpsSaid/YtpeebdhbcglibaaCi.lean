/- ctr: a counter's two slots, gone through by a range over a function. -/
import Derived.RangeFuncNested
import Derived.RangeFuncBound
import Derived.RangeFuncCalls
import Derived.RangeFuncLeaves
import Derived.Shelf.Abstract
import Derived.Shelf.RegionOpen
import Derived.WalkKit
import Derived.OwnWalkIn
import Derived.TacticsInMore
import Derived.LoopNIn
import Derived.LoopIn
import Derived.Test.YtpeebdhbcglibaaIn
import Derived.Test.YtpeebdhbcglibaaCo
import Derived.Test.YtpeebdhbcglibaaTurn
namespace Go.Proofs.Ytpeebdhbcglibaa
open Go.RowKit Go.Shelf
attribute [local go_sem] Oper.semAt_some

/-- Some blocks are as they were. -/
def KG (K : Nat → Prop) (W W' : World) : Prop := W.heap.size ≤ W'.heap.size ∧ ∀ k, K k → W'.heap[k]? = W.heap[k]?
theorem KG.refl (K : Nat → Prop) (W : World) : KG K W W := ⟨Nat.le_refl _, fun _ _ => rfl⟩
theorem KG.trans {K : Nat → Prop} {X Y Z : World} (h : KG K X Y) (k : KG K Y Z) : KG K X Z := ⟨Nat.le_trans h.1 k.1, fun i hi => (k.2 i hi).trans (h.2 i hi)⟩
theorem KG.of_below {K : Nat → Prop} {B : Nat} {W W' : World} (h : Below B W W') (hB : ∀ k, K k → k < B) : KG K W W' := ⟨h.size, fun k hk => h.block k (hB k hk)⟩
theorem KG.putObj {K : Nat → Prop} {W : World} {l : Nat} (o' : Obj) (hB : ∀ k, K k → k ≠ l) : KG K W (W.putObj l o') := ⟨(grownBy_putObj' W l o').size, fun k hk => World.putObj_heap_other (hB k hk)⟩
/-- The blocks that the slots are read from. -/
def KSl (Bs : Nat) (G : Nat → Prop) (A : Option Addr) (s : St) (k : Nat) : Prop := k = Bs ∨ G k ∨ ∃ a, A = some a ∧ s.cs.length ≠ 0 ∧ a.block = k
section
variable {w w' : World} {G : Nat → Prop} {p c : Nat} {s : St} {v : Value} {A : Option Addr}
theorem NC.same (h : NC w G p s v A c) (hz : w.heap.size ≤ w'.heap.size) (hs : ∀ i, G i → w'.heap[i]? = w.heap[i]?) (hc : ∀ a, A = some a → s.cs.length ≠ 0 → w'.heap[a.block]? = w.heap[a.block]?) : NC w' G p s v A c :=
  ⟨h.lay.same hz hs hc, (hs p h.lay.gp).trans h.blk⟩
theorem NC.kg {Bs : Nat} (h : NC w G p s v A c) (k : KG (KSl Bs G A s) w w') : NC w' G p s v A c :=
  h.same k.1 (fun i hi => k.2 i (.inr (.inl hi))) (fun a e hl => k.2 _ (.inr (.inr ⟨a, e, hl, rfl⟩)))
theorem NC.ksl_lt {Bs : Nat} (h : NC w G p s v A c) (hB : Bs < w.heap.size) {k : Nat} (hk : KSl Bs G A s k) : k < w.heap.size := by
  rcases hk with rfl | hk | ⟨a, e, hl, rfl⟩
  · exact hB
  · exact h.lay.lt _ hk
  · obtain ⟨b, e2, hb, _⟩ := h.lay.ct.2 hl
    rw [e] at e2; cases e2; exact hb
end
/-- A slot's place and words. -/
def encSl (ws : List W32) (id : Nat) (x : Fin 2) : Array Value := #[.int .i64 (x.1 : Int), .agg (vec 4 (wds (slotF ws id x.1)))]
def ns2 : Nat → List (Fin 2)
  | 0 => []
  | 1 => [0]
  | _ => [0, 1]
theorem ns2_succ {k : Nat} (h : k < 2) : ns2 (k + 1) = ns2 k ++ [⟨k, h⟩] := by
  match k, h with
  | 0, _ => rfl
  | 1, _ => rfl
theorem ns2_len {k : Nat} (h : k ≤ 2) : (ns2 k).length = k := by
  match k, h with
  | 0, _ => rfl
  | 1, _ => rfl
  | 2, _ => rfl
theorem slots_any (p : Nat) (id : Int) (w : World) : Calls Try.prog 48 #[.agg #[.pointer (some ⟨p, 0, none⟩), .int .i64 id]] w fun e w' => e = .returned (.func (.func 59) #[] #[.pointer (some ⟨w.heap.size, 0, none⟩)]) ∧ w' = w.alloc (.cells #[.pointer (some ⟨p, 0, none⟩), .int .i64 id] 71) := by
  go_enter Try.func48, Try.ntmps48
  go_wp2
  go_ret
  exact ⟨rfl, rfl⟩
set_option maxRecDepth 100000 in
set_option maxHeartbeats 2000000 in
theorem slots_stops (n : Nat) (hn : 1 ≤ n) (Bs id : Nat) {w : World} {G : Nat → Prop} {p c : Nat} {s : St} {v : Value} {A : Option Addr} (hB : Blk w Bs 71 #[.pointer (some ⟨p, 0, none⟩), .int .i64 (id : Int)])
    (h : NC w G p s v A c) (hl : s.ws.length ≤ 100000) (hi : id < s.ws.length / 8) :
    SeqStopsK Fence.wide n Try.prog 59 #[.pointer (some ⟨Bs, 0, none⟩)] (encSl s.ws id) (KG (KSl Bs G A s)) (fun ys => ys = ns2 2) (fun pre => ∃ k, k < 2 ∧ pre = ns2 (k + 1)) 2 w := by
  intro lp J Jx W hW hA _ hY h0
  have hPW := h.under hW
  have hBW := hB.under hW
  have HP := Lib.hid hPW
  have HJ := Lib.hid h0
  have HA := Lib.hid hA
  have HY := Lib.hid hY
  have HK : Hid (∀ k, KSl Bs G A s k → k < W.heap.size) := Lib.hid fun k hk => hPW.ksl_lt hBW.lt hk
  have HBK : Hid (∀ X, KG (KSl Bs G A s) W X → Blk X Bs 71 #[.pointer (some ⟨p, 0, none⟩), .int .i64 (id : Int)] ∧ NC X G p s v A c) := Lib.hid fun X hX => ⟨(hX.2 Bs (.inl rfl)).trans hBW, hPW.kg hX⟩
  clear h0 hA hY hB h hW hPW hBW
  refine callsIn_of_wp Try.func59 rfl trivial ?_ rfl
  simp only [Try.ntmps59, List.size_toArray, List.length_cons, List.length_nil, Nat.reduceAdd, Nat.reduceSub, Array.replicate_succ, Array.replicate_zero, List.push_toArray, List.append_toArray, List.nil_append, List.cons_append]
  gi_wp2
  gi_loopw [4] (fun i wr => ∃ k : Nat, k ≤ 2 ∧ i = .int .i64 k ∧ Hid (J (ns2 k) wr ∧ KG (KSl Bs G A s) W wr)) (fun i _ => 2 - (intOf i).toNat)
  case atStart => exact ⟨0, Nat.zero_le _, rfl, Lib.hid ⟨HJ.out, KG.refl _ _⟩⟩
  case round =>
    obtain ⟨k, hk, rfl, hR⟩ := hrel
    by_cases hlt : k < 2
    · have HX := Lib.hid (HBK.out wr hR.out.2)
      have HW1 := Lib.hid (words13_any HX.out.2 hl id k hi (by omega))
      obtain ⟨q, hq⟩ : ∃ q, q = vec 4 (wds (slotF s.ws id k)) := ⟨_, rfl⟩
      rw [← hq] at HW1
      have HQ := Lib.hid hq
      clear hq
      have HLT := Lib.hid hlt
      gi_wp2_with (first
        | ((with_reducible show wpListIn _ _ _ _ _ (Oper.mk _ (.load 71 _) _ _ _ _ :: _) _ _); refine wli_load rfl 71 _ rfl _ rfl _ (HX.out.1.load Try.underlying71 rfl infoC) ?_)
        | (refine ⟨trivial, ?_⟩
           gi_at_call 43
           refine (callsIn_wide.2 HW1.out).mono ?_
           rintro e w1 ⟨rfl, hd⟩
           have hJ1 := HA.out _ _ _ none hR.out.1 (grown_of_below hd) (fun r e => by cases e)
           have HB1 := Lib.hid (hR.out.2.trans (KG.of_below hd fun k hk => Nat.lt_of_lt_of_le (HK.out k hk) hR.out.2.1))
           obtain ⟨fn, tmps, assign, body, hy, hRR⟩ := HY.out _ ⟨k, HLT.out⟩ w1 hJ1 (by rw [ns2_len (by have := HLT.out; omega)]; exact HLT.out)
           unfold encSl at hy
           simp only at hy
           rw [← HQ.out] at hy
           have HR := Lib.hid hRR
           clear hd hJ1 hRR))
      refine HR.out.mono ?_
      rintro e W3 (⟨rfl, hJ3, hk3⟩ | ⟨rfl, hJx3⟩)
      · have HN := Lib.hid (And.intro hJ3 (HB1.out.trans hk3))
        clear hJ3 hk3
        gi_wp2
        go_roundw
        case rel => exact ⟨k + 1, by omega, by simp, Lib.hid ⟨by rw [ns2_succ hlt]; exact HN.out.1, HN.out.2⟩⟩
        case measure => simp [intOf]; omega
      · gi_wp2
        refine bodyPost_ret (results_none rfl _ _ _) rfl ?_
        exact ⟨⟨_, rfl⟩, .inr ⟨_, ⟨k, hlt, by rw [ns2_succ hlt]⟩, hJx3⟩⟩
    · obtain rfl : k = 2 := by omega
      gi_wp2
      go_end0
      exact ⟨⟨_, rfl⟩, .inl ⟨_, rfl, hR.out.1⟩⟩
end Go.Proofs.Ytpeebdhbcglibaa
