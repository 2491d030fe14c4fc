/- Rows of ranked parts of the call's own: put in order. -/
import Derived.Test.YtgnihceefpijiaaBf
import Derived.Test.YtgnihceefpijiaaLg
namespace Go.Proofs.Ytgnihceefpijiaa
open Go.RowKit Go.Shelf Go.Lib Go.Sort Go.Proofs

abbrev OwnR (w : World) (base : Nat) (v : Value) (l : List Rk) : Prop := OwnE 82 6 rkE w base v l
theorem enc6_get (x : Rk) (i : Nat) (h : i < 6) : (enc6 x)[i]! = rkE x i := by
  rcases (by omega : i = 0 ∨ i = 1 ∨ i = 2 ∨ i = 3 ∨ i = 4 ∨ i = 5) with rfl | rfl | rfl | rfl | rfl | rfl <;> rfl
theorem flat_rk (l : List Rk) : (flatK enc6 6 l.toArray).toList = cellsE 6 rkE l := by
  apply List.ext_getElem?
  intro j
  by_cases hj : j < l.length * 6
  · have h1 : j / 6 < l.length := by omega
    have g := cellsE_get (n := 6) (enc := rkE) l (j / 6) h1 (j % 6) (by omega)
    rw [show j / 6 * 6 + j % 6 = j by omega] at g
    have e : (flatK enc6 6 l.toArray).toList[j]? = some (enc6 l[j / 6])[j % 6]! := by
      have := get_flatK enc6 6 l.toArray j (by simpa using hj)
      rw [Array.getElem?_toList, Array.getElem?_eq_getElem (by simpa using hj), ← getElem!_pos (flatK enc6 6 l.toArray) j (by simpa using hj), this]
      simp [h1]
    rw [e, g, enc6_get _ _ (by omega)]
  · rw [List.getElem?_eq_none (by simpa using hj), List.getElem?_eq_none (by rw [cellsE_length]; omega)]
theorem holds_rk {w : World} {g : Nat} {cur : Array Value} {l : List Rk} (hb : w.heap[g]? = some (.cells cur 82 (0, 0))) (ht : cur.toList.take (l.length * 6) = cellsE 6 rkE l) : HoldsK enc6 6 w g 0 l.toArray := by
  intro j hj
  have hj' : j < l.length * 6 := by simpa using hj
  refine ⟨?_, by simp [World.frozen?, hb]⟩
  have h1 : (cur.toList.take (l.length * 6))[j]? = (flatK enc6 6 l.toArray).toList[j]? := by rw [ht, flat_rk]
  rw [List.getElem?_take_of_lt hj'] at h1
  simp only [World.cell?, hb, Nat.zero_add]
  simp only [Option.isSome_none, Bool.false_eq_true, if_false]
  rw [← Array.getElem?_toList, h1, Array.getElem?_toList, Array.getElem?_eq_getElem hj, ← getElem!_pos (flatK enc6 6 l.toArray) j hj]
  rfl
theorem heap_put {w : World} {g n : Nat} {os : Array Obj} {cur : Array Value} {e : TypeId} {fr : Nat × Nat} (F : Array Value) (hb : w.heap[g]? = some (.cells cur e fr)) :
    (grow (putRow id (Sort.ahead w n) g 0 F) os).heap[g]? = some (.cells (putCells id 0 F cur) e fr) := by
  have hg : g < w.heap.size := (Array.getElem?_eq_some_iff.1 hb).1
  rw [heap_grow_old _ _ (by simpa using hg)]
  simp [putRow, mapBlock, Sort.ahead, Array.getElem?_modify, hb, onCells]
theorem take_put (cur F : Array Value) (h : F.size ≤ cur.size) : (putCells id 0 F cur).toList.take F.size = F.toList := by
  apply List.ext_getElem?
  intro j
  by_cases hj : j < F.size
  · rw [List.getElem?_take_of_lt hj, Array.getElem?_toList]
    simp [putCells, hj, show j < cur.size by omega]
  · rw [List.getElem?_take_eq_none (by omega), List.getElem?_eq_none (by simp; omega)]
theorem below_put {w : World} {g n B : Nat} {os : Array Obj} (F : Array Value) (hB : B ≤ g) (hBw : B ≤ w.heap.size) : Below B w (grow (putRow id (Sort.ahead w n) g 0 F) os) := by
  refine ⟨rfl, rfl, rfl, by simp, fun k hk => ?_⟩
  rw [heap_grow_old _ _ (by simp; omega)]
  have : g ≠ k := by omega
  simp [putRow, mapBlock, Sort.ahead, Array.getElem?_modify, this]
theorem other_put {w : World} {g n k : Nat} {os : Array Obj} (F : Array Value) (hk : k < w.heap.size) (hne : k ≠ g) : (grow (putRow id (Sort.ahead w n) g 0 F) os).heap[k]? = w.heap[k]? := by
  rw [heap_grow_old _ _ (by simpa using hk)]
  simp [putRow, mapBlock, Sort.ahead, Array.getElem?_modify, show g ≠ k from fun e => hne e.symm]
theorem ltB_iff (x y : Rk) : ltOf ltB x y = decide (x.m.ipa < y.m.ipa ∨ (x.m.ipa = y.m.ipa ∧ x.r < y.r)) := by
  unfold ltOf ltB orN cmpN
  apply decide_eq_decide.2
  repeat' split
  all_goals omega
theorem swoB : SWO (ltOf ltB) where
  irrefl x := by rw [ltB_iff]; simp
  trans x y z h1 h2 := by rw [ltB_iff] at *; simp only [decide_eq_true_eq] at *; omega
  ntrans x y z h1 h2 := by rw [ltB_iff] at *; simp only [decide_eq_false_iff_not] at *; omega
def SortR (l : List Rk) : Prop := l.Pairwise fun x y => x.m.ipa ≤ y.m.ipa
theorem sorted_of {d d' : Array Rk} (h : MergeP (ltOf ltB) d d' 0 d.size) : d'.toList.Perm d.toList ∧ SortR d'.toList := by
  obtain ⟨⟨h1, _, h3⟩, hs⟩ := h
  refine ⟨?_, ?_⟩
  · have e1 : (d'.extract 0 d.size).toList = d'.toList := by rw [← h1]; simp
    have e2 : (d.extract 0 d.size).toList = d.toList := by simp
    rwa [e1, e2] at h3
  · unfold SortR
    rw [List.pairwise_iff_getElem]
    intro i j hi hj hij
    have := hs i j (Nat.zero_le _) hij (by rw [← h1]; simpa using hj)
    rw [ltB_iff, getElem!_pos d' i (by simpa using hi), getElem!_pos d' j (by simpa using hj)] at this
    simp only [decide_eq_false_iff_not] at this
    simp only [Array.getElem_toList]
    omega
set_option maxHeartbeats 1000000 in
theorem sortRk_any (l : List Rk) (base : Nat) (v : Value) (hlen : l.length ≤ 1000000) (w : World) (hbw : base ≤ w.heap.size) (hv : OwnR w base v l) :
    Calls Try.prog 37 #[v, .func (.func 38) #[] #[]] w fun e w' => e = .returned (.tuple #[]) ∧ ∃ r : List Rk, r.Perm l ∧ SortR r ∧ OwnR w' base v r ∧ Below base w w' ∧ ∀ k, k < w.heap.size → some k ≠ v.ownBlock → w'.heap[k]? = w.heap[k]? := by
  rcases hv.2 with ⟨rfl, h0⟩ | ⟨g, cap, cur, rfl, hbase, hh, hle, hcap, hsz, ht⟩
  · obtain rfl : l = [] := List.eq_nil_of_length_eq_zero h0
    refine (sortStable_none 0 (.func (.func 38) #[] #[]) w).mono ?_
    rintro e w' ⟨rfl, rfl⟩
    exact ⟨rfl, [], List.Perm.refl _, List.Pairwise.nil, hv, Below.refl _ _, fun _ _ _ => rfl⟩
  · have eg : ∀ args w, (callFunc 38 args).run Try.prog w = .ok (.enter 38 args) w := enters_of Try.func38 (by kernel_rfl) rfl
    have R : RowK enc6 6 w g 0 l.toArray := ⟨fun _ => rfl, fun x v hv => by simp at hv; rcases hv with rfl | rfl | rfl | rfl | rfl | rfl <;> rfl, holds_rk hh ht, (Array.getElem?_eq_some_iff.1 hh).1⟩
    have hcon := sortStable_k 6 Try.sizeOf82 enc6 ltB swoB 38 #[] g 0 cap l.toArray w eg (fun _ _ _ _ x y => before_any x y _) R (by simp; omega)
    refine Calls.mono (P := Try.prog) hcon ?_
    rintro e w' ⟨rfl, d', hm, n, os, rfl⟩
    obtain ⟨hp, hs⟩ := sorted_of hm
    have hl : d'.toList.length = l.length := by have := hm.size; simpa using this
    refine ⟨rfl, d'.toList, by simpa using hp, hs, ?_, below_put _ hbase hbw, fun k hk hne => other_put _ hk fun e => hne (by rw [e]; rfl)⟩
    refine ⟨by rw [cellsE_length], .inr ⟨g, cap, _, by rw [hl], hbase, heap_put _ hh, by omega, hcap, by simp [putCells, hsz], ?_⟩⟩
    have hF : (flatK enc6 6 d').size = d'.toList.length * 6 := by simp
    rw [← hF, take_put _ _ (by rw [hF, hsz]; omega)]
    have := flat_rk d'.toList
    simpa using this
end Go.Proofs.Ytgnihceefpijiaa
