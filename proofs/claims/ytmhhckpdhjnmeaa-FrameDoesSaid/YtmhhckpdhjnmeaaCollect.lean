/- slices.AppendSeq, Collect over span.good's iterator: a row of the call's own with what has come. -/
import Derived.Maps.AppendAt
import Derived.RangeFuncBox
import Derived.Test.YtmhhckpdhjnmeaaSeq
namespace Go.Proofs.Ytmhhckpdhjnmeaa
open Go.RowKit Go.Shelf
attribute [local go_sem] Oper.semAt_some

/-- Spans as cells. -/
def cells2 (l : List Sp) : List Value := l.flatMap fun x => [Value.int .u64 (x.1 : Int), Value.int .u64 (x.2 : Int)]
theorem cells2_append (a b : List Sp) : cells2 (a ++ b) = cells2 a ++ cells2 b := by simp [cells2]
theorem cells2_length (l : List Sp) : (cells2 l).length = l.length * 2 := by
  induction l with
  | nil => rfl
  | cons x r ih =>
    have e : x :: r = [x] ++ r := rfl
    rw [e, cells2_append, List.length_append, ih]; simp [cells2]; omega
theorem cells2_get : ∀ (l : List Sp) (j : Nat) (h : j < l.length), (cells2 l)[j * 2]? = some (Value.int .u64 (l[j].1 : Int)) ∧ (cells2 l)[j * 2 + 1]? = some (Value.int .u64 (l[j].2 : Int))
  | [], j, h => by cases h
  | x :: r, 0, _ => ⟨rfl, rfl⟩
  | x :: r, j + 1, h => by
    have e : cells2 (x :: r) = Value.int .u64 (x.1 : Int) :: Value.int .u64 (x.2 : Int) :: cells2 r := rfl
    have ih := cells2_get r j (by simpa using h)
    rw [e, show (j + 1) * 2 = j * 2 + 1 + 1 by omega]
    simpa using ih
theorem cells2_one (l : List Sp) : ∀ u ∈ cells2 l, u.oneCell' = true := by
  intro u hu
  obtain ⟨x, _, h⟩ := List.mem_flatMap.1 hu
  simp at h
  rcases h with rfl | rfl <;> rfl
/-- A row of the call's own with the spans l. -/
def OwnS (w : World) (base : Nat) (v : Value) (l : List Sp) : Prop := w.ownsRow base 24 2 v l.length (cells2 l)
theorem OwnS.row {w : World} {base : Nat} {v : Value} {l : List Sp} (h : OwnS w base v l) : ∃ A c, v = .slice A l.length c ∧ Row w w.heap.size A l := by
  rcases h.2 with ⟨rfl, h0⟩ | ⟨g, cap, cur, rfl, _, hh, hr⟩
  · have : l = [] := List.eq_nil_of_length_eq_zero h0
    subst this
    exact ⟨none, 0, rfl, Row.nil _ _ _⟩
  · refine ⟨_, cap, rfl, fun _ => ⟨_, rfl, (Array.getElem?_eq_some_iff.1 hh).1, fun j hj => ?_⟩⟩
    have g2 := cells2_get l j hj
    obtain ⟨q1, e1⟩ := List.getElem?_eq_some_iff.1 g2.1
    obtain ⟨q2, e2⟩ := List.getElem?_eq_some_iff.1 g2.2
    exact ⟨(h.cells (g := g) rfl (j * 2) _ (List.getElem?_eq_getElem q1)).trans (by rw [e1]), (h.cells (g := g) rfl (j * 2 + 1) _ (List.getElem?_eq_getElem q2)).trans (by rw [e2])⟩
theorem OwnS.low {w : World} {base base' : Nat} {v : Value} {l : List Sp} (h : OwnS w base v l) (hb : base' ≤ base) : OwnS w base' v l := by
  refine ⟨h.1, ?_⟩
  rcases h.2 with h2 | ⟨g, cap, cur, hv, hg, r⟩
  · exact Or.inl h2
  · exact Or.inr ⟨g, cap, cur, hv, Nat.le_trans hb hg, r⟩
theorem OwnS.below {w w' : World} {base : Nat} {v : Value} {l : List Sp} (h : OwnS w base v l) (hb : Below w.heap.size w w') : OwnS w' base v l := by
  refine ⟨h.1, ?_⟩
  rcases h.2 with h2 | ⟨g, cap, cur, hv, hg, hh, r⟩
  · exact Or.inl h2
  · exact Or.inr ⟨g, cap, cur, hv, hg, (hb.block g (Array.getElem?_eq_some_iff.1 hh).1).trans hh, r⟩
theorem infoS : (Try.prog.info? 24).map (fun i => (i.zero, i.size, i.bytes)) = some (some (.agg #[.int .u64 0, .int .u64 0]), 2, 16) := by kernel_rfl
theorem cell_two_new (w : World) (a b : Value) (t : TypeId) : ∀ j u, [a, b][j]? = some u → (w.alloc (.cells #[a, b] t)).cell? ((⟨w.heap.size, 0, none⟩ : Addr).add j) = some u := by
  intro j u hj
  match j, hj with
  | 0, hj => simp at hj; subst hj; simp [Addr.add]
  | 1, hj => simp at hj; subst hj; simp [Addr.add]

/-- A box of a span. -/
def Boxed2 (W : World) (B : Nat) (x : Sp) : Prop := W.heap[B]? = some (spo x.1 x.2)
theorem Boxed2.own (B : Nat) (x : Sp) : Own (fun (_ : Unit) W => Boxed2 W B x) := fun _ _ _ _ hs hg hrow => (grownBy_keeps_cells hg hrow hs rfl).trans hs
theorem Boxed2.cell0 {W : World} {B : Nat} {x : Sp} (h : Boxed2 W B x) : W.cell? ⟨B, 0, none⟩ = some (.int .u64 (x.1 : Int)) := by simp [World.cell?, show W.heap[B]? = _ from h]
theorem Boxed2.cell1 {W : World} {B : Nat} {x : Sp} (h : Boxed2 W B x) : W.cell? ⟨B, 1, none⟩ = some (.int .u64 (x.2 : Int)) := by simp [World.cell?, show W.heap[B]? = _ from h]
def vals (l : List GS) : List Sp := l.map (·.1)
theorem vals_snoc (l : List GS) (x : GS) : vals (l ++ [x]) = vals l ++ [x.1] := by simp [vals]

set_option maxRecDepth 100000 in
set_option maxHeartbeats 2000000 in
theorem appendSeq_any (gf : Nat) (lb : Array Value) (eg : ∀ args w, (callFunc gf args).run Try.prog w = .ok (.enter gf args) w) (G : List GS) (Spp : List GS → Prop) (N n₀ : Nat) (hN : N ≤ 1000000) (w0 w : World) (hn : n₀ ≤ w.heap.size) (hw : Below w0.heap.size w0 w)
    (hseq : SeqStopsK Fence.wide 9 Try.prog gf lb (fun x : GS => #[spv x.1]) (Below n₀) (fun ys => ys = G) Spp N w0) :
    Calls Try.prog 84 #[.slice none 0 0, .func (.func gf) #[] lb] w fun e W' => ∃ v, e = .returned v ∧ OwnS W' w.heap.size v (vals G) ∧ Below w.heap.size w W' := by
  obtain ⟨i0, hi, hz0, hz1, hz2⟩ := info_parts infoS
  refine (callsIn_wide (n := 10)).1 ?_
  refine callsIn_of_wp_marks Try.func84 rfl trivial ?_ rfl
  simp only [Try.ntmps84, List.size_toArray, List.length_cons, List.length_nil, Nat.reduceAdd, Nat.reduceSub, Array.replicate_succ, Array.replicate_zero, List.push_toArray, List.append_toArray, List.nil_append, List.cons_append]
  gi_wp2
  have bO := Boxed.new w 46 (.slice none 0 0)
  have hB0 : Below w.heap.size w (w.alloc (.cells #[.slice none 0 0] 46)) := (Below.refl _ w).alloc (Nat.le_refl _) _
  refine wpIn_rangeFunc_ownH rfl (by omega) (gf := gf) (lb := lb) rfl trivial eg hseq belowK_t (belowK_b (by simp; omega)) (hw.trans (hB0.mono hw.size)) (fun _ => rfl)
    (fun pre W => (∃ v, Boxed W w.heap.size 46 v ∧ W.ownsRow w.heap.size 24 2 v (vals pre).length (cells2 (vals pre)) ∧ True) ∧ Below w.heap.size w W)
    (fun _ _ _ => False)
    (OwnFrom.and (Own.from (holdsRow_own w.heap.size w.heap.size 46 24 2 (fun pre => (vals pre).length) (fun pre => cells2 (vals pre)) (fun _ _ => True)) _) (ownFrom_below (Nat.le_refl _) (by simp)))
    (fun _ _ _ _ _ hs _ _ => hs)
    ⟨⟨_, bO, World.ownsRow_nil _ _ _ _, trivial⟩, hB0⟩
    (fun x a' W => ∃ Bx, w.heap.size < Bx ∧ Boxed2 W Bx x.1 ∧ a' = { tmps := #[.slice none 0 0, .func (.func gf) #[] lb, .pointer (some ⟨w.heap.size, 0, none⟩), undef, .slice none 0 0, .pointer (some ⟨Bx, 0, none⟩), .func (.func gf) #[] lb, spv x.1, undef, undef, undef, undef, undef], defers := [] })
    (fun x a' _ X Y row hs hg hr => by obtain ⟨Bx, h1, h2, h3⟩ := hs; exact ⟨Bx, h1, Boxed2.own Bx x.1 () X Y row h2 hg (fun r e => (hr r e).2), h3⟩)
    ?assign ?body ?done ?stop
  case assign =>
    rintro l pre ⟨⟨b, s⟩, hx⟩ W K ⟨⟨v, bO1, hrow, _⟩, hB1⟩ hK
    gi_wp2
    exact hK _ _ ((KeepsOthers.alloc _ _).from _) ((Below.refl n₀ W).alloc (Nat.le_trans hn hB1.size) _) ⟨⟨v, bO1.alloc _, hrow.alloc _, trivial⟩, hB1.alloc hB1.size _⟩ ⟨W.heap.size, bO1.lt, World.alloc_heap_new W _, rfl⟩
  case body =>
    rintro l pre ⟨⟨b, s⟩, hx⟩ a' W hl ⟨r, hr⟩ ⟨⟨v, hv, hrow, _⟩, hB⟩ ⟨Bx, hBx, bX, rfl⟩ hlt
    have hc := hv.cell
    have c0 := bX.cell0
    have c1 := bX.cell1
    have hb3 : (vals pre).length + 1 ≤ 1000000 := by simp [vals]; omega
    have hu : ∀ u ∈ [Value.int .u64 (b : Int), Value.int .u64 (s : Int)], u.oneCell' = true := by intro u h; simp at h; rcases h with rfl | rfl <;> rfl
    have hun := Try.underlying46
    gi_wp2_with (gi_at_builtin; refine wpListIn_append_own _ rfl _ _ 46 rfl w.heap.size 24 i0 (.agg #[.int .u64 0, .int .u64 0]) 2 16 hun hi hz0 hz1 hz2 rfl (by decide) _ _ _ rfl (hrow.alloc _) ⟨W.heap.size, 0, none⟩ 1 1 [.int .u64 (b : Int), .int .u64 (s : Int)] rfl rfl (cell_two_new _ _ _ _) hu (by unfold maxLen; omega) (by omega) (by have := hB.size; simp; omega) ?_; intro v' w1 hown' hgrow _; obtain ⟨g', cap', rfl⟩ := ownsRow_succ hown'; obtain ⟨hv1, hv2, hr2, hk2, hb2⟩ := hv.appended (by decide) hrow hB.size (Nat.le_refl _) hown' hgrow; have hc1 := hv1.cell; have hf1 := hv1.frozen)
    exact ⟨hk2.from _, hb2.mono hn, ⟨_, hv2, (by have e := cells2_append (vals pre) [(b, s)]; rw [vals_snoc, e, List.length_append]; exact hr2)⟩, hB.trans hb2⟩
  case done =>
    rintro D ys W hD rfl ⟨⟨v, hv, hrow, _⟩, hB⟩ hK
    have hc := hv.cell
    gi_wp2
    refine ⟨by simp, .inl ⟨_, _, rfl, run_takeDeferred hK, ?_⟩⟩
    exact ⟨_, results_tmp rfl _ _ _, v, rfl, ownsRow_putObj hrow _ hK rfl, hB.trans (belowK_b (w := w) (Nat.le_refl _) W D _ _ (by simp at hD; omega) hK rfl rfl)⟩
  case stop =>
    rintro D c pre W _ _ h _
    exact h.elim

theorem collect_any (gf : Nat) (lb : Array Value) (eg : ∀ args w, (callFunc gf args).run Try.prog w = .ok (.enter gf args) w) (G : List GS) (Spp : List GS → Prop) (N n₀ : Nat) (hN : N ≤ 1000000) (w : World) (hn : n₀ ≤ w.heap.size)
    (hseq : SeqStopsK Fence.wide 9 Try.prog gf lb (fun x : GS => #[spv x.1]) (Below n₀) (fun ys => ys = G) Spp N w) :
    Calls Try.prog 69 #[.func (.func gf) #[] lb] w fun e W' => ∃ v, e = .returned v ∧ OwnS W' w.heap.size v (vals G) ∧ Below w.heap.size w W' := by
  have hcon := Lib.hid (appendSeq_any gf lb eg G Spp N n₀ hN w w hn (Below.refl _ _) hseq)
  clear hseq
  go_enter Try.func69, Try.ntmps69
  go_wp2_with (go_at_call 84; go_loud (refine hcon.out.mono ?_; rintro e w1 ⟨v, rfl, h1, h2⟩))
  go_ret
  exact ⟨v, rfl, h1, h2⟩
end Go.Proofs.Ytmhhckpdhjnmeaa
