import Derived.Maps.AppendAt
import Derived.RangeFuncBox
import Derived.Shelf.SlSortCmp.WholeK
import Derived.Shelf.SlSortCmp.NoneTotal
import Derived.Lib.SlBy
import Derived.Test.YtkaipknkjocfiaaGreatZo36
namespace Go.Proofs.YtkaipknkjocfiaaGreat
open Go.RowKit Go.Shelf
attribute [local go_sem] Oper.semAt_some
def cells2 (l : List Sp) : List Value := l.flatMap fun x => [Value.int .u64 (x.1 : Int), Value.int .u64 (x.2 : Int)]
theorem cells2_append (a b : List Sp) : cells2 (a ++ b) = cells2 a ++ cells2 b := by simp [cells2]
theorem cells2_length (l : List Sp) : (cells2 l).length = l.length * 2 := by
 induction l with
 | nil => rfl
 | cons x r ih =>
  have e : x :: r = [x] ++ r := rfl
  rw [e, cells2_append, List.length_append, ih]; simp [cells2]; omega
theorem cells2_get : ∀ (l : List Sp) (j : Nat) (h : j < l.length), (cells2 l)[j * 2]? = some (Value.int .u64 (l[j].1 : Int)) ∧ (cells2 l)[j * 2 + 1]? = some (Value.int .u64 (l[j].2 : Int))
 | [], j, h => by cases h
 | x :: r, 0, _ => ⟨rfl, rfl⟩
 | x :: r, j + 1, h => by
  have e : cells2 (x :: r) = Value.int .u64 (x.1 : Int) :: Value.int .u64 (x.2 : Int) :: cells2 r := rfl
  have ih := cells2_get r j (by simpa using h)
  rw [e, show (j + 1) * 2 = j * 2 + 1 + 1 by omega]
  simpa using ih
def OwnSq (w : World) (base : Nat) (v : Value) (l : List Sp) : Prop := w.ownsRow base 24 2 v l.length (cells2 l)
theorem OwnSq.row {w : World} {base : Nat} {v : Value} {l : List Sp} (h : OwnSq w base v l) : ∃ A c, v = .slice A l.length c ∧ Row w w.heap.size A l := by
 rcases h.2 with ⟨rfl, h0⟩ | ⟨g, cap, cur, rfl, _, hh, hr⟩
 · have : l = [] := List.eq_nil_of_length_eq_zero h0
   subst this
   exact ⟨none, 0, rfl, Row.nil _ _ _⟩
 · refine ⟨_, cap, rfl, fun _ => ⟨_, rfl, (Array.getElem?_eq_some_iff.1 hh).1, fun j hj => ?_⟩⟩
   have g2 := cells2_get l j hj
   obtain ⟨q1, e1⟩ := List.getElem?_eq_some_iff.1 g2.1
   obtain ⟨q2, e2⟩ := List.getElem?_eq_some_iff.1 g2.2
   exact ⟨(h.cells (g := g) rfl (j * 2) _ (List.getElem?_eq_getElem q1)).trans (by rw [e1]), (h.cells (g := g) rfl (j * 2 + 1) _ (List.getElem?_eq_getElem q2)).trans (by rw [e2])⟩
theorem OwnSq.low {w : World} {base base' : Nat} {v : Value} {l : List Sp} (h : OwnSq w base v l) (hb : base' ≤ base) : OwnSq w base' v l := by
 refine ⟨h.1, ?_⟩
 rcases h.2 with h2 | ⟨g, cap, cur, hv, hg, r⟩
 · exact Or.inl h2
 · exact Or.inr ⟨g, cap, cur, hv, Nat.le_trans hb hg, r⟩
theorem OwnSq.below {w w' : World} {base : Nat} {v : Value} {l : List Sp} (h : OwnSq w base v l) (hb : Below w.heap.size w w') : OwnSq w' base v l := by
 refine ⟨h.1, ?_⟩
 rcases h.2 with h2 | ⟨g, cap, cur, hv, hg, hh, r⟩
 · exact Or.inl h2
 · exact Or.inr ⟨g, cap, cur, hv, hg, (hb.block g (Array.getElem?_eq_some_iff.1 hh).1).trans hh, r⟩
theorem infoS : (Tryz.prog.info? 24).map (fun i => (i.zero, i.size, i.bytes)) = some (some (.agg #[.int .u64 0, .int .u64 0]), 2, 16) := by kernel_rfl
theorem cell_two_new (w : World) (a b : Value) (t : TypeId) : ∀ j u, [a, b][j]? = some u → (w.alloc (.cells #[a, b] t)).cell? ((⟨w.heap.size, 0, none⟩ : Addr).add j) = some u := by
 intro j u hj
 match j, hj with
 | 0, hj => simp at hj; subst hj; simp [Addr.add]
 | 1, hj => simp at hj; subst hj; simp [Addr.add]
def Boxed2 (W : World) (B : Nat) (x : Sp) : Prop := W.heap[B]? = some (spo x.1 x.2)
theorem Boxed2.own (B : Nat) (x : Sp) : Own (fun (_ : Unit) W => Boxed2 W B x) := fun _ _ _ _ hs hg hrow => (grownBy_keeps_cells hg hrow hs rfl).trans hs
theorem Boxed2.cell0 {W : World} {B : Nat} {x : Sp} (h : Boxed2 W B x) : W.cell? ⟨B, 0, none⟩ = some (.int .u64 (x.1 : Int)) := by simp [World.cell?, show W.heap[B]? = _ from h]
theorem Boxed2.cell1 {W : World} {B : Nat} {x : Sp} (h : Boxed2 W B x) : W.cell? ⟨B, 1, none⟩ = some (.int .u64 (x.2 : Int)) := by simp [World.cell?, show W.heap[B]? = _ from h]
def vals (l : List GS) : List Sp := l.map (·.1)
theorem vals_snoc (l : List GS) (x : GS) : vals (l ++ [x]) = vals l ++ [x.1] := by simp [vals]
set_option maxRecDepth 100000 in
set_option maxHeartbeats 2000000 in
theorem appendSeq_any (gf : Nat) (lb : Array Value) (eg : ∀ args w, (callFunc gf args).run Tryz.prog w = .ok (.enter gf args) w) (G : List GS) (Spp : List GS → Prop) (N n₀ : Nat) (hN : N ≤ 1000000) (w0 w : World) (hn : n₀ ≤ w.heap.size) (hw : Below w0.heap.size w0 w)
  (hseq : SeqStopsK Fence.wide 9 Tryz.prog gf lb (fun x : GS => #[spv x.1]) (Below n₀) (fun ys => ys = G) Spp N w0) :
  Calls Tryz.prog 195 #[.slice none 0 0, .func (.func gf) #[] lb] w fun e W' => ∃ v, e = .returned v ∧ OwnSq W' w.heap.size v (vals G) ∧ Below w.heap.size w W' := by
 obtain ⟨i0, hi, hz0, hz1, hz2⟩ := info_parts infoS
 refine (callsIn_wide (n := 10)).1 ?_
 refine callsIn_of_wp_marks Tryz.func195 rfl trivial ?_ rfl
 simp only [Tryz.ntmps195, List.size_toArray, List.length_cons, List.length_nil, Nat.reduceAdd, Nat.reduceSub, Array.replicate_succ, Array.replicate_zero, List.push_toArray, List.append_toArray, List.nil_append, List.cons_append]
 gi_wp2
 have bO := Boxed.new w 40 (.slice none 0 0)
 have hB0 : Below w.heap.size w (w.alloc (.cells #[.slice none 0 0] 40)) := (Below.refl _ w).alloc (Nat.le_refl _) _
 refine wpIn_rangeFunc_ownH rfl (by omega) (gf := gf) (lb := lb) rfl trivial eg hseq belowK_t (belowK_b (by simp; omega)) (hw.trans (hB0.mono hw.size)) (fun _ => rfl)
  (fun pre W => (∃ v, Boxed W w.heap.size 40 v ∧ W.ownsRow w.heap.size 24 2 v (vals pre).length (cells2 (vals pre)) ∧ True) ∧ Below w.heap.size w W)
  (fun _ _ _ => False)
  (OwnFrom.and (Own.from (holdsRow_own w.heap.size w.heap.size 40 24 2 (fun pre => (vals pre).length) (fun pre => cells2 (vals pre)) (fun _ _ => True)) _) (ownFrom_below (Nat.le_refl _) (by simp)))
  (fun _ _ _ _ _ hs _ _ => hs)
  ⟨⟨_, bO, World.ownsRow_nil _ _ _ _, trivial⟩, hB0⟩
  (fun x a' W => ∃ Bx, w.heap.size < Bx ∧ Boxed2 W Bx x.1 ∧ a' = { tmps := #[.slice none 0 0, .func (.func gf) #[] lb, .pointer (some ⟨w.heap.size, 0, none⟩), undef, .slice none 0 0, .pointer (some ⟨Bx, 0, none⟩), .func (.func gf) #[] lb, spv x.1, undef, undef, undef, undef, undef], defers := [] })
  (fun x a' _ X Y row hs hg hr => by obtain ⟨Bx, h1, h2, h3⟩ := hs; exact ⟨Bx, h1, Boxed2.own Bx x.1 () X Y row h2 hg (fun r e => (hr r e).2), h3⟩)
  ?assign ?body ?done ?stop
 case assign =>
  rintro l pre ⟨⟨b, s⟩, hx⟩ W K ⟨⟨v, bO1, hrow, _⟩, hB1⟩ hK
  gi_wp2
  exact hK _ _ ((KeepsOthers.alloc _ _).from _) ((Below.refl n₀ W).alloc (Nat.le_trans hn hB1.size) _) ⟨⟨v, bO1.alloc _, hrow.alloc _, trivial⟩, hB1.alloc hB1.size _⟩ ⟨W.heap.size, bO1.lt, World.alloc_heap_new W _, rfl⟩
 case body =>
  rintro l pre ⟨⟨b, s⟩, hx⟩ a' W hl ⟨r, hr⟩ ⟨⟨v, hv, hrow, _⟩, hB⟩ ⟨Bx, hBx, bX, rfl⟩ hlt
  have hc := hv.cell
  have c0 := bX.cell0
  have c1 := bX.cell1
  have hb3 : (vals pre).length + 1 ≤ 1000000 := by simp [vals]; omega
  have hu : ∀ u ∈ [Value.int .u64 (b : Int), Value.int .u64 (s : Int)], u.oneCell' = true := by intro u h; simp at h; rcases h with rfl | rfl <;> rfl
  have hun := Tryz.underlying40
  gi_wp2_with (gi_at_builtin; refine wpListIn_append_own _ rfl _ _ 40 rfl w.heap.size 24 i0 (.agg #[.int .u64 0, .int .u64 0]) 2 16 hun hi hz0 hz1 hz2 rfl (by decide) _ _ _ rfl (hrow.alloc _) ⟨W.heap.size, 0, none⟩ 1 1 [.int .u64 (b : Int), .int .u64 (s : Int)] rfl rfl (cell_two_new _ _ _ _) hu (by unfold maxLen; omega) (by omega) (by have := hB.size; simp; omega) ?_; intro v' w1 hown' hgrow _; obtain ⟨g', cap', rfl⟩ := ownsRow_succ hown'; obtain ⟨hv1, hv2, hr2, hk2, hb2⟩ := hv.appended (by decide) hrow hB.size (Nat.le_refl _) hown' hgrow; have hc1 := hv1.cell; have hf1 := hv1.frozen)
  exact ⟨hk2.from _, hb2.mono hn, ⟨_, hv2, (by have e := cells2_append (vals pre) [(b, s)]; rw [vals_snoc, e, List.length_append]; exact hr2)⟩, hB.trans hb2⟩
 case done =>
  rintro D ys W hD rfl ⟨⟨v, hv, hrow, _⟩, hB⟩ hK
  have hc := hv.cell
  gi_wp2
  refine ⟨by simp, .inl ⟨_, _, rfl, run_takeDeferred hK, ?_⟩⟩
  exact ⟨_, results_tmp rfl _ _ _, v, rfl, ownsRow_putObj hrow _ hK rfl, hB.trans (belowK_b (w := w) (Nat.le_refl _) W D _ _ (by simp at hD; omega) hK rfl rfl)⟩
 case stop =>
  rintro D c pre W _ _ h _
  exact h.elim
theorem collect_any (gf : Nat) (lb : Array Value) (eg : ∀ args w, (callFunc gf args).run Tryz.prog w = .ok (.enter gf args) w) (G : List GS) (Spp : List GS → Prop) (N n₀ : Nat) (hN : N ≤ 1000000) (w : World) (hn : n₀ ≤ w.heap.size)
  (hseq : SeqStopsK Fence.wide 9 Tryz.prog gf lb (fun x : GS => #[spv x.1]) (Below n₀) (fun ys => ys = G) Spp N w) :
  Calls Tryz.prog 191 #[.func (.func gf) #[] lb] w fun e W' => ∃ v, e = .returned v ∧ OwnSq W' w.heap.size v (vals G) ∧ Below w.heap.size w W' := by
 have hcon := Lib.hid (appendSeq_any gf lb eg G Spp N n₀ hN w w hn (Below.refl _ _) hseq)
 clear hseq
 go_enter Tryz.func191, Tryz.ntmps191
 go_wp2_with (go_at_call 195; go_loud (refine hcon.out.mono ?_; rintro e w1 ⟨v, rfl, h1, h2⟩))
 go_ret
 exact ⟨v, rfl, h1, h2⟩
end Go.Proofs.YtkaipknkjocfiaaGreat
namespace Go.Proofs.YtkaipknkjocfiaaGreat
open Go.RowKit Go.Shelf Go.Lib Go.Sort Go.Proofs
theorem isNaN_any (x : Int) (w : World) : Calls Tryz.prog 186 #[.int .u64 x] w fun e w' => e = .returned (.bool false) ∧ w' = w := by
 go_enter Tryz.func186, Tryz.ntmps186
 go_wp2
 go_ret
 exact ⟨by simp, rfl⟩
def cmpN2 (x y : Int) : Int := if x < y then -1 else if y < x then 1 else 0
theorem compare_any (x y : Int) (w : World) : Calls Tryz.prog 167 #[.int .u64 x, .int .u64 y] w fun e w' => e = .returned (.int .i64 (cmpN2 x y)) ∧ w' = w := by
 go_enter Tryz.func167, Tryz.ntmps167
 go_wp2_with (go_at_call 186; refine (isNaN_any _ _).mono ?_; rintro e w' ⟨rfl, rfl⟩)
 all_goals (go_ret; refine ⟨?_, rfl⟩; unfold cmpN2; (repeat' split) <;> first | rfl | (exfalso; omega))
abbrev enc2 (x : Sp) : List Value := [.int .u64 (x.1 : Int), .int .u64 (x.2 : Int)]
theorem byBase_any (x y : Sp) (W : World) : Calls Tryz.prog 183 #[spv x, spv y] W fun e w' => e = .returned (.int .i64 (cmpN2 x.1 y.1)) ∧ ∃ q os', w' = grow (W.drewN q) os' := by
 have hcon := fun W' => compare_any x.1 y.1 W'
 generalize cmpN2 x.1 y.1 = r at hcon ⊢
 have Hcon := Lib.hid hcon
 clear hcon
 go_enter Tryz.func183, Tryz.ntmps183
 go_wp2_with (go_at_call 167; refine (Hcon.out _).mono ?_; rintro e w' ⟨rfl, rfl⟩)
 go_ret
 exact ⟨rfl, 0, _, by rw [alloc_eq_grow, alloc_eq_grow, grow_grow]; rfl⟩
theorem ltBase (x y : Sp) : ltOf (fun x y : Sp => cmpN2 x.1 y.1) x y = decide (x.1 < y.1) := by
 unfold ltOf cmpN2
 by_cases h1 : (x.1 : Int) < y.1
 · have : x.1 < y.1 := by omega
   simp [this]
 · have : ¬ x.1 < y.1 := by omega
   by_cases h2 : y.1 < x.1 <;> simp [this, h2]
theorem swoBase : SWO (ltOf fun x y : Sp => cmpN2 x.1 y.1) where
 irrefl x := by rw [ltBase]; simp
 trans x y z h1 h2 := by rw [ltBase] at *; simp at *; omega
 ntrans x y z h1 h2 := by rw [ltBase] at *; simp at *; omega
theorem flat_cells (l : List Sp) : (flatK enc2 2 l.toArray).toList = cells2 l := by
 apply List.ext_getElem?
 intro j
 by_cases hj : j < l.length * 2
 · have h1 : j / 2 < l.length := by omega
   have g := cells2_get l (j / 2) h1
   have e : (flatK enc2 2 l.toArray).toList[j]? = some (enc2 l[j / 2])[j % 2]! := by
     have := get_flatK enc2 2 l.toArray j (by simpa using hj)
     rw [Array.getElem?_toList, Array.getElem?_eq_getElem (by simpa using hj), ← getElem!_pos (flatK enc2 2 l.toArray) j (by simpa using hj), this]
     simp [h1]
   rw [e]
   rcases Nat.mod_two_eq_zero_or_one j with h | h
   · have e3 : j / 2 * 2 = j := by omega
     rw [h]
     rw [e3] at g
     exact g.1.symm
   · have e3 : j / 2 * 2 + 1 = j := by omega
     rw [h]
     rw [e3] at g
     exact g.2.symm
 · rw [List.getElem?_eq_none (by simpa using hj), List.getElem?_eq_none (by rw [cells2_length]; omega)]
theorem holdsK_own {w : World} {g : Nat} {cur : Array Value} {l : List Sp} (hb : w.heap[g]? = some (.cells cur 24 (0, 0))) (ht : cur.toList.take (l.length * 2) = cells2 l) : HoldsK enc2 2 w g 0 l.toArray := by
 intro j hj
 have hj' : j < l.length * 2 := by simpa using hj
 refine ⟨?_, by simp [World.frozen?, hb]⟩
 have h1 : (cur.toList.take (l.length * 2))[j]? = (flatK enc2 2 l.toArray).toList[j]? := by rw [ht, flat_cells]
 rw [List.getElem?_take_of_lt hj'] at h1
 simp only [World.cell?, hb, Nat.zero_add]
 simp only [Option.isSome_none, Bool.false_eq_true, if_false]
 rw [← Array.getElem?_toList, h1, Array.getElem?_toList, Array.getElem?_eq_getElem hj, ← getElem!_pos (flatK enc2 2 l.toArray) j hj]
 rfl
theorem heap_put2 {w : World} {g n : Nat} {os : Array Obj} {cur : Array Value} {e : TypeId} {fr : Nat × Nat} (F : Array Value) (hb : w.heap[g]? = some (.cells cur e fr)) :
  (grow (putRow id (Sort.ahead w n) g 0 F) os).heap[g]? = some (.cells (putCells id 0 F cur) e fr) := by
 have hg : g < w.heap.size := (Array.getElem?_eq_some_iff.1 hb).1
 rw [heap_grow_old _ _ (by simpa using hg)]
 simp [putRow, mapBlock, Sort.ahead, Array.getElem?_modify, hb, onCells]
theorem take_put2 (cur F : Array Value) (h : F.size ≤ cur.size) : (putCells id 0 F cur).toList.take F.size = F.toList := by
 apply List.ext_getElem?
 intro j
 by_cases hj : j < F.size
 · rw [List.getElem?_take_of_lt hj, Array.getElem?_toList]
   simp [putCells, hj, show j < cur.size by omega]
 · rw [List.getElem?_take_eq_none (by omega), List.getElem?_eq_none (by simp; omega)]
theorem below_put2 {w : World} {g n B : Nat} {os : Array Obj} (F : Array Value) (hB : B ≤ g) (hBw : B ≤ w.heap.size) : Below B w (grow (putRow id (Sort.ahead w n) g 0 F) os) := by
 refine ⟨rfl, rfl, rfl, by simp, fun k hk => ?_⟩
 rw [heap_grow_old _ _ (by simp; omega)]
 have : g ≠ k := by omega
 simp [putRow, mapBlock, Sort.ahead, Array.getElem?_modify, this]
def Rising (l r : List Sp) : Prop := r.Perm l ∧ r.Pairwise fun x y => x.1 ≤ y.1
theorem rising_of {d d' : Array Sp} (hp : PermIn 0 d.size d d') (hs : SortedIn (ltOf fun x y : Sp => cmpN2 x.1 y.1) 0 d.size d') : Rising d.toList d'.toList := by
 obtain ⟨h1, _, h3⟩ := hp
 refine ⟨?_, ?_⟩
 · have e1 : (d'.extract 0 d.size).toList = d'.toList := by rw [← h1]; simp
   have e2 : (d.extract 0 d.size).toList = d.toList := by simp
   rwa [e1, e2] at h3
 · rw [List.pairwise_iff_getElem]
   intro i j hi hj hij
   have := hs i j (Nat.zero_le _) hij (by rw [← h1]; simpa using hj)
   rw [ltBase, getElem!_pos d' i (by simpa using hi), getElem!_pos d' j (by simpa using hj)] at this
   simp at this
   simpa using this
set_option maxHeartbeats 1000000 in
theorem sortFunc_any (l : List Sp) (base : Nat) (v : Value) (hlen : l.length ≤ 1000000) (w : World) (hbw : base ≤ w.heap.size) (hv : OwnSq w base v l) :
   Calls Tryz.prog 192 #[v, .func (.func 183) #[] #[]] w fun e w' => e = .returned (.tuple #[]) ∧ ∃ r, Rising l r ∧ OwnSq w' base v r ∧ Below base w w' := by
 rcases hv.2 with ⟨rfl, h0⟩ | ⟨g, cap, cur, rfl, hbase, hh, hle, hcap, hsz, ht⟩
 · obtain rfl : l = [] := List.eq_nil_of_length_eq_zero h0
   refine (AnyF.slices_SortFunc_none layF none 0 (.func (.func 183) #[] #[]) w).mono ?_
   rintro e w' ⟨rfl, rfl⟩
   exact ⟨rfl, [], ⟨List.Perm.refl _, List.Pairwise.nil⟩, hv, Below.refl _ _⟩
 · have eg : ∀ args w, (callFunc 183 args).run Tryz.prog w = .ok (.enter 183 args) w := enters_of Tryz.func183 (by kernel_rfl) rfl
   have hH := holdsK_own (l := l) hh ht
   have hcon := AnyQ.slices_SortFunc layF 2 Tryz.isAgg24 Tryz.sizeOf24 enc2 (fun _ => rfl) (fun x v hv => by simp at hv; rcases hv with rfl | rfl <;> rfl) (fun x y => cmpN2 x.1 y.1) swoBase 183 #[] g 0 cap l.toArray w eg
    (fun _ _ _ _ x y => byBase_any x y _) hH ((Array.getElem?_eq_some_iff.1 hh).1) (by simp; omega)
   refine hcon.mono ?_
   rintro e w' ⟨rfl, d', n, os, hp, hs, rfl⟩
   have hR := rising_of hp hs
   have hl : d'.toList.length = l.length := by have := hp.1; simpa using this
   refine ⟨rfl, d'.toList, hR, ?_, below_put2 _ hbase hbw⟩
   refine ⟨by rw [cells2_length], .inr ⟨g, cap, _, by rw [hl], hbase, heap_put2 _ hh, by omega, hcap, by simp [putCells, hsz], ?_⟩⟩
   have hF : (flatK enc2 2 d').size = d'.toList.length * 2 := by simp
   rw [← hF, take_put2 _ _ (by rw [hF, hsz]; omega)]
   have := flat_cells d'.toList
   simpa using this
set_option maxHeartbeats 1000000 in
theorem sortedFunc_any (gf : Nat) (lb : Array Value) (L : List Sp) (hlen : L.length ≤ 1000000) (w : World)
  (hcol : Calls Tryz.prog 191 #[.func (.func gf) #[] lb] w fun e W' => ∃ v, e = .returned v ∧ OwnSq W' w.heap.size v L ∧ Below w.heap.size w W') :
  Calls Tryz.prog 181 #[.func (.func gf) #[] lb, .func (.func 183) #[] #[]] w fun e w' => ∃ v r, e = .returned v ∧ Rising L r ∧ OwnSq w' w.heap.size v r ∧ Below w.heap.size w w' := by
 have Hc := Lib.hid hcol
 have Hl := Lib.hid hlen
 clear hcol hlen
 go_enter Tryz.func181, Tryz.ntmps181
 go_wp2_with (first
  | (go_at_call 191; refine Hc.out.mono ?_; rintro e w1 ⟨v, rfl, ho, hb⟩; have Ho := Lib.hid ho; have Hb := Lib.hid hb; clear ho hb)
  | (go_at_call 192; refine (sortFunc_any L _ v Hl.out w1 Hb.out.size Ho.out).mono ?_; rintro e w2 ⟨rfl, r, hr, ho, hb⟩))
 go_ret
 exact ⟨v, r, rfl, hr, ho, Hb.out.trans hb⟩
theorem goods_le {l : List Sp} (hlen : l.length ≤ 100000) : (vals (goods l)).length ≤ 1000000 := by
 have := goods_len l
 simp [vals]; omega
set_option maxHeartbeats 1000000 in
theorem rising_any (A : Option Addr) (cap : Nat) (l : List Sp) (hl : ∀ x ∈ l, fit x) (hlen : l.length ≤ 100000) (w : World) (hR : Row w w.heap.size A l) :
   Calls Tryz.prog 162 #[.slice A l.length cap] w fun e w' => ∃ v r, e = .returned v ∧ Rising (l.filter good) r ∧ OwnSq w' w.heap.size v r ∧ Below w.heap.size w w' := by
 have eg : ∀ args w, (callFunc 193 args).run Tryz.prog w = .ok (.enter 193 args) w := enters_of Tryz.func193 (by kernel_rfl) rfl
 obtain ⟨w1, hw1⟩ : ∃ w1, w1 = w.alloc (.cells #[.slice A l.length cap] 40) := ⟨_, rfl⟩
 have hb1 : Below w.heap.size w w1 := by rw [hw1]; exact (Below.refl _ w).alloc (Nat.le_refl _) _
 have hs1 : w1.heap.size = w.heap.size + 1 := by rw [hw1]; simp
 have hc1 : w1.cell? ⟨w.heap.size, 0, none⟩ = some (.slice A l.length cap) := by rw [hw1]; simp
 have hstop := good_stops 9 (by decide) w.heap.size w1.heap.size cap A l hl (by omega) w1 (by omega) (Nat.le_refl _) hc1 ((hR.below hb1).wide (by omega))
 have hcol := collect_any 193 #[.pointer (some ⟨w.heap.size, 0, none⟩)] eg (goods l) _ l.length w1.heap.size (by omega) w1 (Nat.le_refl _) hstop
 have Hso := Lib.hid (sortedFunc_any _ _ _ (goods_le hlen) w1 hcol)
 have Hval := Lib.hid (goods_val hl)
 have HB := Lib.hid hb1
 have HS := Lib.hid hs1
 have HW := Lib.hid hw1
 clear eg hstop hcol hb1 hs1 hc1 hR hl hlen hw1
 go_enter Tryz.func162, Tryz.ntmps162
 go_wp2_with (first
   | (go_at_call 182; refine (good_in _ _ _ _).mono ?_; rintro e w2 ⟨rfl, hw⟩; obtain rfl := hw.trans HW.out.symm; clear hw)
   | (go_at_call 181; refine Hso.out.mono ?_; rintro e w3 ⟨v, r, rfl, hr, ho, hb⟩))
 go_ret
 refine ⟨v, r, rfl, ?_, ?_, ?_⟩
 · have := Hval.out
   unfold vals at hr
   rwa [this] at hr
 · exact OwnSq.low ho (by rw [HS.out]; omega)
 · exact HB.out.trans (hb.mono HB.out.size)
end Go.Proofs.YtkaipknkjocfiaaGreat
namespace Go.Proofs.YtkaipknkjocfiaaGreat
theorem rising_len {l r : List Sp} (h : Rising (l.filter good) r) : r.length ≤ l.length := by
 rw [h.1.length_eq]; exact List.length_filter_le _ _
theorem rising_fit {l r : List Sp} (hl : ∀ x ∈ l, fit x) (h : Rising (l.filter good) r) : ∀ x ∈ r, fit x := fun x hx => hl x (List.mem_filter.1 (h.1.mem_iff.1 hx)).1
theorem overlap_bad {x y : Sp} (h : ¬ (good x = true ∧ good y = true)) : overlap x y = false := by
 rw [← Bool.not_eq_true]
 intro h2
 exact h ⟨((overlap_iff x y).1 h2).1, ((overlap_iff x y).1 h2).2.1⟩
theorem clash_perm {l r : List Sp} (h : Rising (l.filter good) r) : clashB l = false ↔ r.Pairwise (fun x y => overlap x y = false) := by
 rw [clashB_false, h.1.pairwise_iff (fun {x y} hxy => by rw [overlap_comm]; exact hxy), List.pairwise_filter]
 constructor
 · exact fun hp => hp.imp fun {a b} hab _ _ => hab
 · exact fun hp => hp.imp fun {a b} hab => by
    by_cases hg : good a = true ∧ good b = true
    · exact hab hg.1 hg.2
    · exact overlap_bad hg
theorem clash_near : ∀ r : List Sp, r.Pairwise (fun x y => x.1 ≤ y.1) → (∀ x ∈ r, good x = true) → (∀ i (h : i + 1 < r.length), overlap r[i] r[i + 1] = false) → r.Pairwise (fun x y => overlap x y = false)
 | [], _, _, _ => List.Pairwise.nil
 | [x], _, _, _ => by simp
 | x :: y :: t, hs, hg, hn => by
  obtain ⟨h1, h2⟩ := List.pairwise_cons.1 hs
  have ih := clash_near (y :: t) h2 (fun z hz => hg z (by simp [hz])) (fun i h => hn (i + 1) (by simp at h ⊢; omega))
  refine List.pairwise_cons.2 ⟨fun z hz => ?_, ih⟩
  have h0 := hn 0 (by simp)
  simp only [List.getElem_cons_zero, List.getElem_cons_succ, Nat.zero_add] at h0
  have gx := hg x (by simp)
  have gy := hg y (by simp)
  have gz := hg z (by simp [hz])
  have gx' := (good_iff x).1 gx
  have gy' := (good_iff y).1 gy
  have hxy := h1 y (by simp)
  have hyz : y.1 ≤ z.1 := by
   rcases List.mem_cons.1 hz with rfl | hz
   · exact Nat.le_refl _
   · exact (List.pairwise_cons.1 h2).1 z hz
  have e0 : ¬ (y.1 < x.1 + x.2) := fun h => by
   rw [(overlap_iff x y).2 ⟨gx, gy, by omega, h⟩] at h0; cases h0
  rw [← Bool.not_eq_true]
  intro h
  have := ((overlap_iff x z).1 h).2.2.2
  omega
theorem hitAt_take (l : List Sp) {n i j : Nat} (hi : i < n) (hj : j < n) : hitAt (l.take n) i j = hitAt l i j := by
 unfold hitAt
 simp only [List.getD_eq_getElem?_getD, List.getElem?_take_of_lt hi, List.getElem?_take_of_lt hj]
theorem clash_take (l : List Sp) {n : Nat} (hn : n ≤ l.length) : clashB (l.take n) = false ↔ ∀ i j, i < j → j < n → hitAt l i j = false := by
 rw [clashB_hit]
 have e : (l.take n).length = n := by simp [hn]
 rw [e]
 exact ⟨fun h i j hij hj => by rw [← hitAt_take l (n := n) (by omega) hj]; exact h i j hij hj, fun h i j hij hj => by rw [hitAt_take l (n := n) (by omega) hj]; exact h i j hij hj⟩
theorem clash_mono (l : List Sp) (a b : Nat) (hab : a ≤ b) (hb : b < l.length) (h : clashB (l.take (a + 1)) = true) : clashB (l.take (b + 1)) = true := by
 rw [← Bool.not_eq_false] at h ⊢
 intro h2
 apply h
 rw [clash_take l (by omega)] at h2 ⊢
 exact fun i j hij hj => h2 i j hij (by omega)
theorem least_hit (q : Nat → Bool) : ∀ n, (∃ i, i < n ∧ q i = true) → ∃ i, i < n ∧ q i = true ∧ ∀ i', i' < i → q i' = false
 | 0, ⟨_, h, _⟩ => absurd h (Nat.not_lt_zero _)
 | n + 1, ⟨i, hi, hq⟩ => by
  by_cases h : ∃ i, i < n ∧ q i = true
  · obtain ⟨i, h1, h2, h3⟩ := least_hit q n h
    exact ⟨i, by omega, h2, h3⟩
  · refine ⟨i, hi, hq, fun i' hi' => ?_⟩
    rw [← Bool.not_eq_true]
    exact fun h' => h ⟨i', by omega, h'⟩
def cut64 (x : Sp) : Sp := (x.1 % 18446744073709551616, x.2 % 18446744073709551616)
theorem cut64_fit (x : Sp) : fit (cut64 x) := ⟨Nat.mod_lt _ (by decide), Nat.mod_lt _ (by decide)⟩
theorem cut64_eq {x : Sp} (h : fit x) : cut64 x = x := by
 unfold cut64
 rw [Nat.mod_eq_of_lt h.1, Nat.mod_eq_of_lt h.2]
theorem search_none {l : List Sp} {k : Nat} (hk : k = l.length) (hf : ∀ t, t < k → clashB (l.take (t + 1)) = false) : FirstIs l 0 0 false := by
 refine .inr ⟨rfl, rfl, rfl, fun i j hij hj => ?_⟩
 have := hf (l.length - 1) (by omega)
 rw [clash_take l (by omega)] at this
 exact this i j hij (by omega)
theorem search_hit {l : List Sp} {k : Nat} (hk : k < l.length) (hfit : ∀ x ∈ l, fit x) (hf : ∀ t, t < k → clashB (l.take (t + 1)) = false) (ht : clashB (l.take (k + 1)) = true) :
   ∃ i, FirstIs l i k true ∧ Lib.idxBy (fun _ y => overlap (cut64 y) l[k]) (l.take l.length) default = (i : Nat) := by
 have hno : ∀ i' j', i' < j' → j' < k → hitAt l i' j' = false := by
   intro i j hij hj
   have := hf (k - 1) (by omega)
   rw [clash_take l (by omega)] at this
   exact this i j hij (by omega)
 have hex : ∃ i, i < k ∧ hitAt l i k = true := by
   apply Classical.byContradiction
   intro hc
   have : clashB (l.take (k + 1)) = false := by
    rw [clash_take l (by omega)]
    intro i j hij hj
    rcases Nat.lt_or_ge j k with h | h
    · exact hno i j hij h
    · obtain rfl : j = k := by omega
      rw [← Bool.not_eq_true]
      exact fun h' => hc ⟨i, hij, h'⟩
   rw [this] at ht
   cases ht
 obtain ⟨i, hi, hh, hm⟩ := least_hit (fun i => hitAt l i k) k hex
 refine ⟨i, .inl ⟨rfl, hi, hk, hh, hno, hm⟩, ?_⟩
 refine Lib.idxBy_hit _ l l.length i default (by omega) (Nat.le_refl _) ?_ (fun j hj => ?_)
 · have e : l[i]! = l[i] := getElem!_pos l i (by omega)
   simp only [e, cut64_eq (hfit _ (List.getElem_mem (show i < l.length by omega)))]
   rw [← hitAt_lt (by omega) hk]; exact hh
 · have e : l[j]! = l[j] := getElem!_pos l j (by omega)
   simp only [e, cut64_eq (hfit _ (List.getElem_mem (show j < l.length by omega)))]
   rw [← hitAt_lt (by omega) hk]; exact hm j hj
end Go.Proofs.YtkaipknkjocfiaaGreat
