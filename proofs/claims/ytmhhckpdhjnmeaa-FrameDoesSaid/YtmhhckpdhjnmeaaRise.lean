/- span.rising: the good ones of a row by their bases, in a row of the call's own. -/
import Derived.Shelf.SlSortCmp.WholeK
import Derived.Shelf.SlSortCmp.NoneTotal
import Derived.Test.YtmhhckpdhjnmeaaLay
import Derived.Test.YtmhhckpdhjnmeaaCollect
namespace Go.Proofs.Ytmhhckpdhjnmeaa
open Go.RowKit Go.Shelf Go.Lib Go.Sort Go.Proofs

theorem isNaN_any (x : Int) (w : World) : Calls Try.prog 71 #[.int .u64 x] w fun e w' => e = .returned (.bool false) ∧ w' = w := by
  go_enter Try.func71, Try.ntmps71
  go_wp2
  go_ret
  exact ⟨by simp, rfl⟩
def cmpN (x y : Int) : Int := if x < y then -1 else if y < x then 1 else 0
theorem compare_any (x y : Int) (w : World) : Calls Try.prog 64 #[.int .u64 x, .int .u64 y] w fun e w' => e = .returned (.int .i64 (cmpN x y)) ∧ w' = w := by
  go_enter Try.func64, Try.ntmps64
  go_wp2_with (go_at_call 71; refine (isNaN_any _ _).mono ?_; rintro e w' ⟨rfl, rfl⟩)
  all_goals (go_ret; refine ⟨?_, rfl⟩; unfold cmpN; (repeat' split) <;> first | rfl | (exfalso; omega))
abbrev enc2 (x : Sp) : List Value := [.int .u64 (x.1 : Int), .int .u64 (x.2 : Int)]
theorem byBase_any (x y : Sp) (W : World) : Calls Try.prog 63 #[spv x, spv y] W fun e w' => e = .returned (.int .i64 (cmpN x.1 y.1)) ∧ ∃ q os', w' = grow (W.drewN q) os' := by
  have hcon := fun W' => compare_any x.1 y.1 W'
  generalize cmpN x.1 y.1 = r at hcon ⊢
  have Hcon := Lib.hid hcon
  clear hcon
  go_enter Try.func63, Try.ntmps63
  go_wp2_with (go_at_call 64; refine (Hcon.out _).mono ?_; rintro e w' ⟨rfl, rfl⟩)
  go_ret
  exact ⟨rfl, 0, _, by rw [alloc_eq_grow, alloc_eq_grow, grow_grow]; rfl⟩
theorem ltBase (x y : Sp) : ltOf (fun x y : Sp => cmpN x.1 y.1) x y = decide (x.1 < y.1) := by
  unfold ltOf cmpN
  by_cases h1 : (x.1 : Int) < y.1
  · have : x.1 < y.1 := by omega
    simp [this]
  · have : ¬ x.1 < y.1 := by omega
    by_cases h2 : y.1 < x.1 <;> simp [this, h2]
theorem swoBase : SWO (ltOf fun x y : Sp => cmpN x.1 y.1) where
  irrefl x := by rw [ltBase]; simp
  trans x y z h1 h2 := by rw [ltBase] at *; simp at *; omega
  ntrans x y z h1 h2 := by rw [ltBase] at *; simp at *; omega

/-! ### an owned row, before the sort and behind it -/
theorem flat_cells (l : List Sp) : (flatK enc2 2 l.toArray).toList = cells2 l := by
  apply List.ext_getElem?
  intro j
  by_cases hj : j < l.length * 2
  · have h1 : j / 2 < l.length := by omega
    have g := cells2_get l (j / 2) h1
    have e : (flatK enc2 2 l.toArray).toList[j]? = some (enc2 l[j / 2])[j % 2]! := by
      have := get_flatK enc2 2 l.toArray j (by simpa using hj)
      rw [Array.getElem?_toList, Array.getElem?_eq_getElem (by simpa using hj), ← getElem!_pos (flatK enc2 2 l.toArray) j (by simpa using hj), this]
      simp [h1]
    rw [e]
    rcases Nat.mod_two_eq_zero_or_one j with h | h
    · have e3 : j / 2 * 2 = j := by omega
      rw [h]
      rw [e3] at g
      exact g.1.symm
    · have e3 : j / 2 * 2 + 1 = j := by omega
      rw [h]
      rw [e3] at g
      exact g.2.symm
  · rw [List.getElem?_eq_none (by simpa using hj), List.getElem?_eq_none (by rw [cells2_length]; omega)]
theorem holdsK_own {w : World} {g : Nat} {cur : Array Value} {l : List Sp} (hb : w.heap[g]? = some (.cells cur 24 (0, 0))) (ht : cur.toList.take (l.length * 2) = cells2 l) : HoldsK enc2 2 w g 0 l.toArray := by
  intro j hj
  have hj' : j < l.length * 2 := by simpa using hj
  refine ⟨?_, by simp [World.frozen?, hb]⟩
  have h1 : (cur.toList.take (l.length * 2))[j]? = (flatK enc2 2 l.toArray).toList[j]? := by rw [ht, flat_cells]
  rw [List.getElem?_take_of_lt hj'] at h1
  simp only [World.cell?, hb, Nat.zero_add]
  simp only [Option.isSome_none, Bool.false_eq_true, if_false]
  rw [← Array.getElem?_toList, h1, Array.getElem?_toList, Array.getElem?_eq_getElem hj, ← getElem!_pos (flatK enc2 2 l.toArray) j hj]
  rfl
theorem heap_put {w : World} {g n : Nat} {os : Array Obj} {cur : Array Value} {e : TypeId} {fr : Nat × Nat} (F : Array Value) (hb : w.heap[g]? = some (.cells cur e fr)) :
    (grow (putRow id (Sort.ahead w n) g 0 F) os).heap[g]? = some (.cells (putCells id 0 F cur) e fr) := by
  have hg : g < w.heap.size := (Array.getElem?_eq_some_iff.1 hb).1
  rw [heap_grow_old _ _ (by simpa using hg)]
  simp [putRow, mapBlock, Sort.ahead, Array.getElem?_modify, hb, onCells]
theorem take_put (cur F : Array Value) (h : F.size ≤ cur.size) : (putCells id 0 F cur).toList.take F.size = F.toList := by
  apply List.ext_getElem?
  intro j
  by_cases hj : j < F.size
  · rw [List.getElem?_take_of_lt hj, Array.getElem?_toList]
    simp [putCells, hj, show j < cur.size by omega]
  · rw [List.getElem?_take_eq_none (by omega), List.getElem?_eq_none (by simp; omega)]
theorem below_put {w : World} {g n B : Nat} {os : Array Obj} (F : Array Value) (hB : B ≤ g) (hBw : B ≤ w.heap.size) : Below B w (grow (putRow id (Sort.ahead w n) g 0 F) os) := by
  refine ⟨rfl, rfl, rfl, by simp, fun k hk => ?_⟩
  rw [heap_grow_old _ _ (by simp; omega)]
  have : g ≠ k := by omega
  simp [putRow, mapBlock, Sort.ahead, Array.getElem?_modify, this]

def Rising (l r : List Sp) : Prop := r.Perm l ∧ r.Pairwise fun x y => x.1 ≤ y.1
theorem rising_of {d d' : Array Sp} (hp : PermIn 0 d.size d d') (hs : SortedIn (ltOf fun x y : Sp => cmpN x.1 y.1) 0 d.size d') : Rising d.toList d'.toList := by
  obtain ⟨h1, _, h3⟩ := hp
  refine ⟨?_, ?_⟩
  · have e1 : (d'.extract 0 d.size).toList = d'.toList := by rw [← h1]; simp
    have e2 : (d.extract 0 d.size).toList = d.toList := by simp
    rwa [e1, e2] at h3
  · rw [List.pairwise_iff_getElem]
    intro i j hi hj hij
    have := hs i j (Nat.zero_le _) hij (by rw [← h1]; simpa using hj)
    rw [ltBase, getElem!_pos d' i (by simpa using hi), getElem!_pos d' j (by simpa using hj)] at this
    simp at this
    simpa using this

set_option maxHeartbeats 1000000 in
theorem sortFunc_any (l : List Sp) (base : Nat) (v : Value) (hlen : l.length ≤ 1000000) (w : World) (hbw : base ≤ w.heap.size) (hv : OwnS w base v l) :
    Calls Try.prog 70 #[v, .func (.func 63) #[] #[]] w fun e w' => e = .returned (.tuple #[]) ∧ ∃ r, Rising l r ∧ OwnS w' base v r ∧ Below base w w' := by
  rcases hv.2 with ⟨rfl, h0⟩ | ⟨g, cap, cur, rfl, hbase, hh, hle, hcap, hsz, ht⟩
  · obtain rfl : l = [] := List.eq_nil_of_length_eq_zero h0
    refine (AnyF.slices_SortFunc_none layF none 0 (.func (.func 63) #[] #[]) w).mono ?_
    rintro e w' ⟨rfl, rfl⟩
    exact ⟨rfl, [], ⟨List.Perm.refl _, List.Pairwise.nil⟩, hv, Below.refl _ _⟩
  · have eg : ∀ args w, (callFunc 63 args).run Try.prog w = .ok (.enter 63 args) w := enters_of Try.func63 (by kernel_rfl) rfl
    have hH := holdsK_own (l := l) hh ht
    have hcon := AnyQ.slices_SortFunc layF 2 Try.isAgg24 Try.sizeOf24 enc2 (fun _ => rfl) (fun x v hv => by simp at hv; rcases hv with rfl | rfl <;> rfl) (fun x y => cmpN x.1 y.1) swoBase 63 #[] g 0 cap l.toArray w eg
      (fun _ _ _ _ x y => byBase_any x y _) hH ((Array.getElem?_eq_some_iff.1 hh).1) (by simp; omega)
    refine hcon.mono ?_
    rintro e w' ⟨rfl, d', n, os, hp, hs, rfl⟩
    have hR := rising_of hp hs
    have hl : d'.toList.length = l.length := by have := hp.1; simpa using this
    refine ⟨rfl, d'.toList, hR, ?_, below_put _ hbase hbw⟩
    refine ⟨by rw [cells2_length], .inr ⟨g, cap, _, by rw [hl], hbase, heap_put _ hh, by omega, hcap, by simp [putCells, hsz], ?_⟩⟩
    have hF : (flatK enc2 2 d').size = d'.toList.length * 2 := by simp
    rw [← hF, take_put _ _ (by rw [hF, hsz]; omega)]
    have := flat_cells d'.toList
    simpa using this

set_option maxHeartbeats 1000000 in
theorem sortedFunc_any (gf : Nat) (lb : Array Value) (L : List Sp) (hlen : L.length ≤ 1000000) (w : World)
    (hcol : Calls Try.prog 69 #[.func (.func gf) #[] lb] w fun e W' => ∃ v, e = .returned v ∧ OwnS W' w.heap.size v L ∧ Below w.heap.size w W') :
    Calls Try.prog 62 #[.func (.func gf) #[] lb, .func (.func 63) #[] #[]] w fun e w' => ∃ v r, e = .returned v ∧ Rising L r ∧ OwnS w' w.heap.size v r ∧ Below w.heap.size w w' := by
  have Hc := Lib.hid hcol
  have Hl := Lib.hid hlen
  clear hcol hlen
  go_enter Try.func62, Try.ntmps62
  go_wp2_with (first
    | (go_at_call 69; refine Hc.out.mono ?_; rintro e w1 ⟨v, rfl, ho, hb⟩; have Ho := Lib.hid ho; have Hb := Lib.hid hb; clear ho hb)
    | (go_at_call 70; refine (sortFunc_any L _ v Hl.out w1 Hb.out.size Ho.out).mono ?_; rintro e w2 ⟨rfl, r, hr, ho, hb⟩))
  go_ret
  exact ⟨v, r, rfl, hr, ho, Hb.out.trans hb⟩
theorem goods_le {l : List Sp} (hlen : l.length ≤ 100000) : (vals (goods l)).length ≤ 1000000 := by
  have := goods_len l
  simp [vals]; omega
set_option maxHeartbeats 1000000 in
theorem rising_any (A : Option Addr) (cap : Nat) (l : List Sp) (hl : ∀ x ∈ l, fit x) (hlen : l.length ≤ 100000) (w : World) (hR : Row w w.heap.size A l) :
    Calls Try.prog 47 #[.slice A l.length cap] w fun e w' => ∃ v r, e = .returned v ∧ Rising (l.filter good) r ∧ OwnS w' w.heap.size v r ∧ Below w.heap.size w w' := by
  have eg : ∀ args w, (callFunc 66 args).run Try.prog w = .ok (.enter 66 args) w := enters_of Try.func66 (by kernel_rfl) rfl
  obtain ⟨w1, hw1⟩ : ∃ w1, w1 = w.alloc (.cells #[.slice A l.length cap] 46) := ⟨_, rfl⟩
  have hb1 : Below w.heap.size w w1 := by rw [hw1]; exact (Below.refl _ w).alloc (Nat.le_refl _) _
  have hs1 : w1.heap.size = w.heap.size + 1 := by rw [hw1]; simp
  have hc1 : w1.cell? ⟨w.heap.size, 0, none⟩ = some (.slice A l.length cap) := by rw [hw1]; simp
  have hstop := good_stops 9 (by decide) w.heap.size w1.heap.size cap A l hl (by omega) w1 (by omega) (Nat.le_refl _) hc1 ((hR.below hb1).wide (by omega))
  have hcol := collect_any 66 #[.pointer (some ⟨w.heap.size, 0, none⟩)] eg (goods l) _ l.length w1.heap.size (by omega) w1 (Nat.le_refl _) hstop
  have Hso := Lib.hid (sortedFunc_any _ _ _ (goods_le hlen) w1 hcol)
  have Hval := Lib.hid (goods_val hl)
  have HB := Lib.hid hb1
  have HS := Lib.hid hs1
  have HW := Lib.hid hw1
  clear eg hstop hcol hb1 hs1 hc1 hR hl hlen hw1
  go_enter Try.func47, Try.ntmps47
  go_wp2_with (first
    | (go_at_call 59; refine (good_in _ _ _ _).mono ?_; rintro e w2 ⟨rfl, hw⟩; obtain rfl := hw.trans HW.out.symm; clear hw)
    | (go_at_call 62; refine Hso.out.mono ?_; rintro e w3 ⟨v, r, rfl, hr, ho, hb⟩))
  go_ret
  refine ⟨v, r, rfl, ?_, ?_, ?_⟩
  · have := Hval.out
    unfold vals at hr
    rwa [this] at hr
  · exact OwnS.low ho (by rw [HS.out]; omega)
  · exact HB.out.trans (hb.mono HB.out.size)
end Go.Proofs.Ytmhhckpdhjnmeaa
