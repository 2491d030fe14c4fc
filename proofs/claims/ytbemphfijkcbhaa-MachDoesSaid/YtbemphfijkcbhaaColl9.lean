/- slices.AppendSeq, Collect over the keys' iterator: a row of the call's own with what has come. -/
import Derived.Maps.AppendAt
import Derived.RangeFuncBox
import Derived.Test.YtbemphfijkcbhaaKeys9
namespace Go.Proofs.Ytbemphfijkcbhaa
open Go.RowKit Go.Shelf
attribute [local go_sem] Oper.semAt_some

/-- A row of the call's own with the numbers l. -/
def OwnU (w : World) (base : Nat) (v : Value) (l : List Nat) : Prop := w.ownsRow base 22 1 v l.length (u64s l)
theorem u64s_append (a b : List Nat) : u64s (a ++ b) = u64s a ++ u64s b := by simp [u64s]
theorem infoU : (Try.prog.info? 22).map (fun i => (i.zero, i.size, i.bytes)) = some (some (.int .u64 0), 1, 8) := by kernel_rfl
/-- A box of a number. -/
def Boxed1 (W : World) (B : Nat) (x : Nat) : Prop := W.heap[B]? = some (.cells #[.int .u64 (x : Int)] 22 (0, 0))
theorem Boxed1.own (B : Nat) (x : Nat) : Own (fun (_ : Unit) W => Boxed1 W B x) := fun _ _ _ _ hs hg hrow => (grownBy_keeps_cells hg hrow hs rfl).trans hs
theorem Boxed1.cell {W : World} {B : Nat} {x : Nat} (h : Boxed1 W B x) : W.cell? ⟨B, 0, none⟩ = some (.int .u64 (x : Int)) := by simp [World.cell?, show W.heap[B]? = _ from h]
theorem cell_one_new (w : World) (a : Value) (t : TypeId) : ∀ j u, [a][j]? = some u → (w.alloc (.cells #[a] t)).cell? ((⟨w.heap.size, 0, none⟩ : Addr).add j) = some u := by
  intro j u hj
  match j, hj with
  | 0, hj => simp at hj; subst hj; simp [Addr.add]
theorem KeepsOthers.walks {W W' : World} (h : KeepsOthers W W') : KeepsWalks W W' := ⟨h.size, fun k o hk ho => h.same k o hk (Obj.not_cells_of_walk ho)⟩
set_option maxRecDepth 100000 in
set_option maxHeartbeats 2000000 in
theorem appendSeq_any (gf : Nat) (lb : Array Value) (eg : ∀ args w, (callFunc gf args).run Try.prog w = .ok (.enter gf args) w) (Spk Spp : List KU → Prop) (N : Nat) (hN : N ≤ 1000000) (w0 w : World) (hw : Below w0.heap.size w0 w)
    (hseq : SeqStopsK Fence.wide 9 Try.prog gf lb (fun x : KU => #[.int .u64 (x.1 : Int)]) KeepsWalks Spk Spp N w0) :
    Calls Try.prog 71 #[.slice none 0 0, .func (.func gf) #[] lb] w fun e W' => ∃ v ys, e = .returned v ∧ Spk ys ∧ OwnU W' w.heap.size v (kvals ys) ∧ Below w.heap.size w W' := by
  obtain ⟨i0, hi, hz0, hz1, hz2⟩ := info_parts infoU
  refine (callsIn_wide (n := 10)).1 ?_
  refine callsIn_of_wp_marks Try.func71 rfl trivial ?_ rfl
  simp only [Try.ntmps71, List.size_toArray, List.length_cons, List.length_nil, Nat.reduceAdd, Nat.reduceSub, Array.replicate_succ, Array.replicate_zero, List.push_toArray, List.append_toArray, List.nil_append, List.cons_append]
  gi_wp2
  have bO := Boxed.new w 46 (.slice none 0 0)
  have hB0 : Below w.heap.size w (w.alloc (.cells #[.slice none 0 0] 46)) := (Below.refl _ w).alloc (Nat.le_refl _) _
  refine wpIn_rangeFunc_ownH rfl (by omega) (gf := gf) (lb := lb) rfl trivial eg hseq (fun h k => h.trans k) (fun W l o o' _ h _ hw => KeepsWalks.putObj o' h hw) (hw.trans (hB0.mono hw.size)) (fun _ => rfl)
    (fun pre W => (∃ v, Boxed W w.heap.size 46 v ∧ W.ownsRow w.heap.size 22 1 v (kvals pre).length (u64s (kvals pre)) ∧ True) ∧ Below w.heap.size w W)
    (fun _ _ _ => False)
    (OwnFrom.and (Own.from (holdsRow_own w.heap.size w.heap.size 46 22 1 (fun pre => (kvals pre).length) (fun pre => u64s (kvals pre)) (fun _ _ => True)) _) (ownFrom_below (Nat.le_refl _) (by simp)))
    (fun _ _ _ _ _ hs _ _ => hs)
    ⟨⟨_, bO, World.ownsRow_nil _ _ _ _, trivial⟩, hB0⟩
    (fun x a' W => a' = { tmps := #[.slice none 0 0, .func (.func gf) #[] lb, .pointer (some ⟨w.heap.size, 0, none⟩), undef, .slice none 0 0, .int .u64 (x.1 : Int), .func (.func gf) #[] lb, .int .u64 (x.1 : Int), undef, undef, undef, undef, undef], defers := [] })
    (fun x a' _ X Y row hs hg hr => hs)
    ?assign ?body ?done ?stop
  case assign =>
    rintro l pre ⟨x, hx⟩ W K ⟨⟨v, bO1, hrow, _⟩, hB1⟩ hK
    gi_wp2
    exact hK _ _ (KeepsFrom.refl _ _) (KeepsWalks.refl _) ⟨⟨v, bO1, hrow, trivial⟩, hB1⟩ rfl
  case body =>
    rintro l pre ⟨x, hx⟩ a' W hl ⟨r, hr⟩ ⟨⟨v, hv, hrow, _⟩, hB⟩ rfl hlt
    have hc := hv.cell
    have hb3 : (kvals pre).length + 1 ≤ 1000000 := by simp [kvals]; omega
    have hu : ∀ u ∈ [Value.int .u64 (x : Int)], u.oneCell' = true := by intro u h; simp at h; rcases h with rfl; rfl
    have hun := Try.underlying46
    gi_wp2_with (gi_at_builtin; refine wpListIn_append_own _ rfl _ _ 46 rfl w.heap.size 22 i0 (.int .u64 0) 1 8 hun hi hz0 hz1 hz2 rfl (by decide) _ _ _ rfl (hrow.alloc _) ⟨W.heap.size, 0, none⟩ 1 1 [.int .u64 (x : Int)] rfl rfl (cell_one_new _ _ _) hu (by unfold maxLen; omega) (by omega) (by have := hB.size; simp; omega) ?_; intro v' w1 hown' hgrow _; obtain ⟨g', cap', rfl⟩ := ownsRow_succ hown'; obtain ⟨hv1, hv2, hr2, hk2, hb2⟩ := hv.appended (by decide) hrow hB.size (Nat.le_refl _) hown' hgrow; have hc1 := hv1.cell; have hf1 := hv1.frozen)
    exact ⟨hk2.from _, hk2.walks, ⟨_, hv2, (by have e := u64s_append (kvals pre) [x]; rw [kvals_snoc, e, List.length_append]; exact hr2)⟩, hB.trans hb2⟩
  case done =>
    rintro D ys W hD hys ⟨⟨v, hv, hrow, _⟩, hB⟩ hK
    have hc := hv.cell
    gi_wp2
    refine ⟨by simp, .inl ⟨_, _, rfl, run_takeDeferred hK, ?_⟩⟩
    exact ⟨_, results_tmp rfl _ _ _, v, ys, rfl, hys, ownsRow_putObj hrow _ hK rfl, hB.trans (belowK_b (w := w) (Nat.le_refl _) W D _ _ (by simp at hD; omega) hK rfl rfl)⟩
  case stop =>
    rintro D c pre W _ _ h _
    exact h.elim
theorem collect_any (gf : Nat) (lb : Array Value) (eg : ∀ args w, (callFunc gf args).run Try.prog w = .ok (.enter gf args) w) (Spk Spp : List KU → Prop) (N : Nat) (hN : N ≤ 1000000) (w : World)
    (hseq : SeqStopsK Fence.wide 9 Try.prog gf lb (fun x : KU => #[.int .u64 (x.1 : Int)]) KeepsWalks Spk Spp N w) :
    Calls Try.prog 62 #[.func (.func gf) #[] lb] w fun e W' => ∃ v ys, e = .returned v ∧ Spk ys ∧ OwnU W' w.heap.size v (kvals ys) ∧ Below w.heap.size w W' := by
  have hcon := Lib.hid (appendSeq_any gf lb eg Spk Spp N hN w w (Below.refl _ _) hseq)
  clear hseq
  go_enter Try.func62, Try.ntmps62
  go_wp2_with (go_at_call 71; refine hcon.out.mono ?_; rintro e w1 ⟨v, ys, rfl, h0, h1, h2⟩)
  go_ret
  exact ⟨v, ys, rfl, h0, h1, h2⟩
end Go.Proofs.Ytbemphfijkcbhaa
