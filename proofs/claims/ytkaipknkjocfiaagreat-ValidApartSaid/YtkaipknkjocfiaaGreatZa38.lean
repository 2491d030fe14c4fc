import Derived.Shelf.SlSortCmp.WholeK
import Derived.Shelf.SlSortCmp.NoneTotal
import Derived.Lib.SlBy
import Derived.Lib.Hide
import Derived.Shelf.AbstractIn
import Derived.Test.YtkaipknkjocfiaaGreatZa37
namespace Go.Proofs.YtkaipknkjocfiaaGreat
open Go.RowKit Go.Shelf Go.Lib Go.Sort Go.Proofs
theorem isNaN_any (x : Int) (w : World) : Calls Tryz.prog 186 #[.int .u64 x] w fun e w' => e = .returned (.bool false) ∧ w' = w := by
 go_enter Tryz.func186, Tryz.ntmps186
 go_wp2
 go_ret
 exact ⟨by simp, rfl⟩
def cmpN2 (x y : Int) : Int := if x < y then -1 else if y < x then 1 else 0
theorem compare_any (x y : Int) (w : World) : Calls Tryz.prog 167 #[.int .u64 x, .int .u64 y] w fun e w' => e = .returned (.int .i64 (cmpN2 x y)) ∧ w' = w := by
 go_enter Tryz.func167, Tryz.ntmps167
 go_wp2_with (go_at_call 186; refine (isNaN_any _ _).mono ?_; rintro e w' ⟨rfl, rfl⟩)
 all_goals (go_ret; refine ⟨?_, rfl⟩; unfold cmpN2; (repeat' split) <;> first | rfl | (exfalso; omega))
abbrev enc2 (x : Sp) : List Value := [.int .u64 (x.1 : Int), .int .u64 (x.2 : Int)]
theorem byBase_any (x y : Sp) (W : World) : Calls Tryz.prog 183 #[spv x, spv y] W fun e w' => e = .returned (.int .i64 (cmpN2 x.1 y.1)) ∧ ∃ q os', w' = grow (W.drewN q) os' := by
 have hcon := fun W' => compare_any x.1 y.1 W'
 generalize cmpN2 x.1 y.1 = r at hcon ⊢
 have Hcon := Lib.hid hcon
 clear hcon
 go_enter Tryz.func183, Tryz.ntmps183
 go_wp2_with (go_at_call 167; refine (Hcon.out _).mono ?_; rintro e w' ⟨rfl, rfl⟩)
 go_ret
 exact ⟨rfl, 0, _, by rw [alloc_eq_grow, alloc_eq_grow, grow_grow]; rfl⟩
theorem ltBase (x y : Sp) : ltOf (fun x y : Sp => cmpN2 x.1 y.1) x y = decide (x.1 < y.1) := by
 unfold ltOf cmpN2
 by_cases h1 : (x.1 : Int) < y.1
 · have : x.1 < y.1 := by omega
   simp [this]
 · have : ¬ x.1 < y.1 := by omega
   by_cases h2 : y.1 < x.1 <;> simp [this, h2]
theorem swoBase : SWO (ltOf fun x y : Sp => cmpN2 x.1 y.1) where
 irrefl x := by rw [ltBase]; simp
 trans x y z h1 h2 := by rw [ltBase] at *; simp at *; omega
 ntrans x y z h1 h2 := by rw [ltBase] at *; simp at *; omega
theorem flat_cells (l : List Sp) : (flatK enc2 2 l.toArray).toList = cells2 l := by
 apply List.ext_getElem?
 intro j
 by_cases hj : j < l.length * 2
 · have h1 : j / 2 < l.length := by omega
   have g := cells2_get l (j / 2) h1
   have e : (flatK enc2 2 l.toArray).toList[j]? = some (enc2 l[j / 2])[j % 2]! := by
     have := get_flatK enc2 2 l.toArray j (by simpa using hj)
     rw [Array.getElem?_toList, Array.getElem?_eq_getElem (by simpa using hj), ← getElem!_pos (flatK enc2 2 l.toArray) j (by simpa using hj), this]
     simp [h1]
   rw [e]
   rcases Nat.mod_two_eq_zero_or_one j with h | h
   · have e3 : j / 2 * 2 = j := by omega
     rw [h]
     rw [e3] at g
     exact g.1.symm
   · have e3 : j / 2 * 2 + 1 = j := by omega
     rw [h]
     rw [e3] at g
     exact g.2.symm
 · rw [List.getElem?_eq_none (by simpa using hj), List.getElem?_eq_none (by rw [cells2_length]; omega)]
theorem holdsK_own {w : World} {g : Nat} {cur : Array Value} {l : List Sp} (hb : w.heap[g]? = some (.cells cur 24 (0, 0))) (ht : cur.toList.take (l.length * 2) = cells2 l) : HoldsK enc2 2 w g 0 l.toArray := by
 intro j hj
 have hj' : j < l.length * 2 := by simpa using hj
 refine ⟨?_, by simp [World.frozen?, hb]⟩
 have h1 : (cur.toList.take (l.length * 2))[j]? = (flatK enc2 2 l.toArray).toList[j]? := by rw [ht, flat_cells]
 rw [List.getElem?_take_of_lt hj'] at h1
 simp only [World.cell?, hb, Nat.zero_add]
 simp only [Option.isSome_none, Bool.false_eq_true, if_false]
 rw [← Array.getElem?_toList, h1, Array.getElem?_toList, Array.getElem?_eq_getElem hj, ← getElem!_pos (flatK enc2 2 l.toArray) j hj]
 rfl
theorem heap_put2 {w : World} {g n : Nat} {os : Array Obj} {cur : Array Value} {e : TypeId} {fr : Nat × Nat} (F : Array Value) (hb : w.heap[g]? = some (.cells cur e fr)) :
  (grow (putRow id (Sort.ahead w n) g 0 F) os).heap[g]? = some (.cells (putCells id 0 F cur) e fr) := by
 have hg : g < w.heap.size := (Array.getElem?_eq_some_iff.1 hb).1
 rw [heap_grow_old _ _ (by simpa using hg)]
 simp [putRow, mapBlock, Sort.ahead, Array.getElem?_modify, hb, onCells]
theorem take_put2 (cur F : Array Value) (h : F.size ≤ cur.size) : (putCells id 0 F cur).toList.take F.size = F.toList := by
 apply List.ext_getElem?
 intro j
 by_cases hj : j < F.size
 · rw [List.getElem?_take_of_lt hj, Array.getElem?_toList]
   simp [putCells, hj, show j < cur.size by omega]
 · rw [List.getElem?_take_eq_none (by omega), List.getElem?_eq_none (by simp; omega)]
theorem below_put2 {w : World} {g n B : Nat} {os : Array Obj} (F : Array Value) (hB : B ≤ g) (hBw : B ≤ w.heap.size) : Below B w (grow (putRow id (Sort.ahead w n) g 0 F) os) := by
 refine ⟨rfl, rfl, rfl, by simp, fun k hk => ?_⟩
 rw [heap_grow_old _ _ (by simp; omega)]
 have : g ≠ k := by omega
 simp [putRow, mapBlock, Sort.ahead, Array.getElem?_modify, this]
def Rising (l r : List Sp) : Prop := r.Perm l ∧ r.Pairwise fun x y => x.1 ≤ y.1
theorem rising_of {d d' : Array Sp} (hp : PermIn 0 d.size d d') (hs : SortedIn (ltOf fun x y : Sp => cmpN2 x.1 y.1) 0 d.size d') : Rising d.toList d'.toList := by
 obtain ⟨h1, _, h3⟩ := hp
 refine ⟨?_, ?_⟩
 · have e1 : (d'.extract 0 d.size).toList = d'.toList := by rw [← h1]; simp
   have e2 : (d.extract 0 d.size).toList = d.toList := by simp
   rwa [e1, e2] at h3
 · rw [List.pairwise_iff_getElem]
   intro i j hi hj hij
   have := hs i j (Nat.zero_le _) hij (by rw [← h1]; simpa using hj)
   rw [ltBase, getElem!_pos d' i (by simpa using hi), getElem!_pos d' j (by simpa using hj)] at this
   simp at this
   simpa using this
set_option maxHeartbeats 1000000 in
theorem sortFunc_any (l : List Sp) (base : Nat) (v : Value) (hlen : l.length ≤ 1000000) (w : World) (hbw : base ≤ w.heap.size) (hv : OwnSq w base v l) :
   Calls Tryz.prog 192 #[v, .func (.func 183) #[] #[]] w fun e w' => e = .returned (.tuple #[]) ∧ ∃ r, Rising l r ∧ OwnSq w' base v r ∧ Below base w w' := by
 rcases hv.2 with ⟨rfl, h0⟩ | ⟨g, cap, cur, rfl, hbase, hh, hle, hcap, hsz, ht⟩
 · obtain rfl : l = [] := List.eq_nil_of_length_eq_zero h0
   refine (AnyF.slices_SortFunc_none layF none 0 (.func (.func 183) #[] #[]) w).mono ?_
   rintro e w' ⟨rfl, rfl⟩
   exact ⟨rfl, [], ⟨List.Perm.refl _, List.Pairwise.nil⟩, hv, Below.refl _ _⟩
 · have eg : ∀ args w, (callFunc 183 args).run Tryz.prog w = .ok (.enter 183 args) w := enters_of Tryz.func183 (by kernel_rfl) rfl
   have hH := holdsK_own (l := l) hh ht
   have hcon := AnyQ.slices_SortFunc layF 2 Tryz.isAgg24 Tryz.sizeOf24 enc2 (fun _ => rfl) (fun x v hv => by simp at hv; rcases hv with rfl | rfl <;> rfl) (fun x y => cmpN2 x.1 y.1) swoBase 183 #[] g 0 cap l.toArray w eg
    (fun _ _ _ _ x y => byBase_any x y _) hH ((Array.getElem?_eq_some_iff.1 hh).1) (by simp; omega)
   refine hcon.mono ?_
   rintro e w' ⟨rfl, d', n, os, hp, hs, rfl⟩
   have hR := rising_of hp hs
   have hl : d'.toList.length = l.length := by have := hp.1; simpa using this
   refine ⟨rfl, d'.toList, hR, ?_, below_put2 _ hbase hbw⟩
   refine ⟨by rw [cells2_length], .inr ⟨g, cap, _, by rw [hl], hbase, heap_put2 _ hh, by omega, hcap, by simp [putCells, hsz], ?_⟩⟩
   have hF : (flatK enc2 2 d').size = d'.toList.length * 2 := by simp
   rw [← hF, take_put2 _ _ (by rw [hF, hsz]; omega)]
   have := flat_cells d'.toList
   simpa using this
set_option maxHeartbeats 1000000 in
theorem sortedFunc_any (gf : Nat) (lb : Array Value) (L : List Sp) (hlen : L.length ≤ 1000000) (w : World)
  (hcol : Calls Tryz.prog 191 #[.func (.func gf) #[] lb] w fun e W' => ∃ v, e = .returned v ∧ OwnSq W' w.heap.size v L ∧ Below w.heap.size w W') :
  Calls Tryz.prog 181 #[.func (.func gf) #[] lb, .func (.func 183) #[] #[]] w fun e w' => ∃ v r, e = .returned v ∧ Rising L r ∧ OwnSq w' w.heap.size v r ∧ Below w.heap.size w w' := by
 have Hc := Lib.hid hcol
 have Hl := Lib.hid hlen
 clear hcol hlen
 go_enter Tryz.func181, Tryz.ntmps181
 go_wp2_with (first
  | (go_at_call 191; refine Hc.out.mono ?_; rintro e w1 ⟨v, rfl, ho, hb⟩; have Ho := Lib.hid ho; have Hb := Lib.hid hb; clear ho hb)
  | (go_at_call 192; refine (sortFunc_any L _ v Hl.out w1 Hb.out.size Ho.out).mono ?_; rintro e w2 ⟨rfl, r, hr, ho, hb⟩))
 go_ret
 exact ⟨v, r, rfl, hr, ho, Hb.out.trans hb⟩
theorem goods_le {l : List Sp} (hlen : l.length ≤ 100000) : (vals (goods l)).length ≤ 1000000 := by
 have := goods_len l
 simp [vals]; omega
set_option maxHeartbeats 1000000 in
theorem rising_any (A : Option Addr) (cap : Nat) (l : List Sp) (hl : ∀ x ∈ l, fit x) (hlen : l.length ≤ 100000) (w : World) (hR : Row w w.heap.size A l) :
   Calls Tryz.prog 162 #[.slice A l.length cap] w fun e w' => ∃ v r, e = .returned v ∧ Rising (l.filter good) r ∧ OwnSq w' w.heap.size v r ∧ Below w.heap.size w w' := by
 have eg : ∀ args w, (callFunc 193 args).run Tryz.prog w = .ok (.enter 193 args) w := enters_of Tryz.func193 (by kernel_rfl) rfl
 obtain ⟨w1, hw1⟩ : ∃ w1, w1 = w.alloc (.cells #[.slice A l.length cap] 40) := ⟨_, rfl⟩
 have hb1 : Below w.heap.size w w1 := by rw [hw1]; exact (Below.refl _ w).alloc (Nat.le_refl _) _
 have hs1 : w1.heap.size = w.heap.size + 1 := by rw [hw1]; simp
 have hc1 : w1.cell? ⟨w.heap.size, 0, none⟩ = some (.slice A l.length cap) := by rw [hw1]; simp
 have hstop := good_stops 9 (by decide) w.heap.size w1.heap.size cap A l hl (by omega) w1 (by omega) (Nat.le_refl _) hc1 ((hR.below hb1).wide (by omega))
 have hcol := collect_any 193 #[.pointer (some ⟨w.heap.size, 0, none⟩)] eg (goods l) _ l.length w1.heap.size (by omega) w1 (Nat.le_refl _) hstop
 have Hso := Lib.hid (sortedFunc_any _ _ _ (goods_le hlen) w1 hcol)
 have Hval := Lib.hid (goods_val hl)
 have HB := Lib.hid hb1
 have HS := Lib.hid hs1
 have HW := Lib.hid hw1
 clear eg hstop hcol hb1 hs1 hc1 hR hl hlen hw1
 go_enter Tryz.func162, Tryz.ntmps162
 go_wp2_with (first
   | (go_at_call 182; refine (good_in _ _ _ _).mono ?_; rintro e w2 ⟨rfl, hw⟩; obtain rfl := hw.trans HW.out.symm; clear hw)
   | (go_at_call 181; refine Hso.out.mono ?_; rintro e w3 ⟨v, r, rfl, hr, ho, hb⟩))
 go_ret
 refine ⟨v, r, rfl, ?_, ?_, ?_⟩
 · have := Hval.out
   unfold vals at hr
   rwa [this] at hr
 · exact OwnSq.low ho (by rw [HS.out]; omega)
 · exact HB.out.trans (hb.mono HB.out.size)
end Go.Proofs.YtkaipknkjocfiaaGreat
namespace Go.Proofs.YtkaipknkjocfiaaGreat
theorem rising_len {l r : List Sp} (h : Rising (l.filter good) r) : r.length ≤ l.length := by
 rw [h.1.length_eq]; exact List.length_filter_le _ _
theorem rising_fit {l r : List Sp} (hl : ∀ x ∈ l, fit x) (h : Rising (l.filter good) r) : ∀ x ∈ r, fit x := fun x hx => hl x (List.mem_filter.1 (h.1.mem_iff.1 hx)).1
theorem overlap_bad {x y : Sp} (h : ¬ (good x = true ∧ good y = true)) : overlap x y = false := by
 rw [← Bool.not_eq_true]
 intro h2
 exact h ⟨((overlap_iff x y).1 h2).1, ((overlap_iff x y).1 h2).2.1⟩
theorem clash_perm {l r : List Sp} (h : Rising (l.filter good) r) : clashB l = false ↔ r.Pairwise (fun x y => overlap x y = false) := by
 rw [clashB_false, h.1.pairwise_iff (fun {x y} hxy => by rw [overlap_comm]; exact hxy), List.pairwise_filter]
 constructor
 · exact fun hp => hp.imp fun {a b} hab _ _ => hab
 · exact fun hp => hp.imp fun {a b} hab => by
    by_cases hg : good a = true ∧ good b = true
    · exact hab hg.1 hg.2
    · exact overlap_bad hg
theorem clash_near : ∀ r : List Sp, r.Pairwise (fun x y => x.1 ≤ y.1) → (∀ x ∈ r, good x = true) → (∀ i (h : i + 1 < r.length), overlap r[i] r[i + 1] = false) → r.Pairwise (fun x y => overlap x y = false)
 | [], _, _, _ => List.Pairwise.nil
 | [x], _, _, _ => by simp
 | x :: y :: t, hs, hg, hn => by
  obtain ⟨h1, h2⟩ := List.pairwise_cons.1 hs
  have ih := clash_near (y :: t) h2 (fun z hz => hg z (by simp [hz])) (fun i h => hn (i + 1) (by simp at h ⊢; omega))
  refine List.pairwise_cons.2 ⟨fun z hz => ?_, ih⟩
  have h0 := hn 0 (by simp)
  simp only [List.getElem_cons_zero, List.getElem_cons_succ, Nat.zero_add] at h0
  have gx := hg x (by simp)
  have gy := hg y (by simp)
  have gz := hg z (by simp [hz])
  have gx' := (good_iff x).1 gx
  have gy' := (good_iff y).1 gy
  have hxy := h1 y (by simp)
  have hyz : y.1 ≤ z.1 := by
   rcases List.mem_cons.1 hz with rfl | hz
   · exact Nat.le_refl _
   · exact (List.pairwise_cons.1 h2).1 z hz
  have e0 : ¬ (y.1 < x.1 + x.2) := fun h => by
   rw [(overlap_iff x y).2 ⟨gx, gy, by omega, h⟩] at h0; cases h0
  rw [← Bool.not_eq_true]
  intro h
  have := ((overlap_iff x z).1 h).2.2.2
  omega
theorem hitAt_take (l : List Sp) {n i j : Nat} (hi : i < n) (hj : j < n) : hitAt (l.take n) i j = hitAt l i j := by
 unfold hitAt
 simp only [List.getD_eq_getElem?_getD, List.getElem?_take_of_lt hi, List.getElem?_take_of_lt hj]
theorem clash_take (l : List Sp) {n : Nat} (hn : n ≤ l.length) : clashB (l.take n) = false ↔ ∀ i j, i < j → j < n → hitAt l i j = false := by
 rw [clashB_hit]
 have e : (l.take n).length = n := by simp [hn]
 rw [e]
 exact ⟨fun h i j hij hj => by rw [← hitAt_take l (n := n) (by omega) hj]; exact h i j hij hj, fun h i j hij hj => by rw [hitAt_take l (n := n) (by omega) hj]; exact h i j hij hj⟩
theorem clash_mono (l : List Sp) (a b : Nat) (hab : a ≤ b) (hb : b < l.length) (h : clashB (l.take (a + 1)) = true) : clashB (l.take (b + 1)) = true := by
 rw [← Bool.not_eq_false] at h ⊢
 intro h2
 apply h
 rw [clash_take l (by omega)] at h2 ⊢
 exact fun i j hij hj => h2 i j hij (by omega)
theorem least_hit (q : Nat → Bool) : ∀ n, (∃ i, i < n ∧ q i = true) → ∃ i, i < n ∧ q i = true ∧ ∀ i', i' < i → q i' = false
 | 0, ⟨_, h, _⟩ => absurd h (Nat.not_lt_zero _)
 | n + 1, ⟨i, hi, hq⟩ => by
  by_cases h : ∃ i, i < n ∧ q i = true
  · obtain ⟨i, h1, h2, h3⟩ := least_hit q n h
    exact ⟨i, by omega, h2, h3⟩
  · refine ⟨i, hi, hq, fun i' hi' => ?_⟩
    rw [← Bool.not_eq_true]
    exact fun h' => h ⟨i', by omega, h'⟩
def cut64 (x : Sp) : Sp := (x.1 % 18446744073709551616, x.2 % 18446744073709551616)
theorem cut64_fit (x : Sp) : fit (cut64 x) := ⟨Nat.mod_lt _ (by decide), Nat.mod_lt _ (by decide)⟩
theorem cut64_eq {x : Sp} (h : fit x) : cut64 x = x := by
 unfold cut64
 rw [Nat.mod_eq_of_lt h.1, Nat.mod_eq_of_lt h.2]
theorem search_none {l : List Sp} {k : Nat} (hk : k = l.length) (hf : ∀ t, t < k → clashB (l.take (t + 1)) = false) : FirstIs l 0 0 false := by
 refine .inr ⟨rfl, rfl, rfl, fun i j hij hj => ?_⟩
 have := hf (l.length - 1) (by omega)
 rw [clash_take l (by omega)] at this
 exact this i j hij (by omega)
theorem search_hit {l : List Sp} {k : Nat} (hk : k < l.length) (hfit : ∀ x ∈ l, fit x) (hf : ∀ t, t < k → clashB (l.take (t + 1)) = false) (ht : clashB (l.take (k + 1)) = true) :
   ∃ i, FirstIs l i k true ∧ Lib.idxBy (fun _ y => overlap (cut64 y) l[k]) (l.take l.length) default = (i : Nat) := by
 have hno : ∀ i' j', i' < j' → j' < k → hitAt l i' j' = false := by
   intro i j hij hj
   have := hf (k - 1) (by omega)
   rw [clash_take l (by omega)] at this
   exact this i j hij (by omega)
 have hex : ∃ i, i < k ∧ hitAt l i k = true := by
   apply Classical.byContradiction
   intro hc
   have : clashB (l.take (k + 1)) = false := by
    rw [clash_take l (by omega)]
    intro i j hij hj
    rcases Nat.lt_or_ge j k with h | h
    · exact hno i j hij h
    · obtain rfl : j = k := by omega
      rw [← Bool.not_eq_true]
      exact fun h' => hc ⟨i, hij, h'⟩
   rw [this] at ht
   cases ht
 obtain ⟨i, hi, hh, hm⟩ := least_hit (fun i => hitAt l i k) k hex
 refine ⟨i, .inl ⟨rfl, hi, hk, hh, hno, hm⟩, ?_⟩
 refine Lib.idxBy_hit _ l l.length i default (by omega) (Nat.le_refl _) ?_ (fun j hj => ?_)
 · have e : l[i]! = l[i] := getElem!_pos l i (by omega)
   simp only [e, cut64_eq (hfit _ (List.getElem_mem (show i < l.length by omega)))]
   rw [← hitAt_lt (by omega) hk]; exact hh
 · have e : l[j]! = l[j] := getElem!_pos l j (by omega)
   simp only [e, cut64_eq (hfit _ (List.getElem_mem (show j < l.length by omega)))]
   rw [← hitAt_lt (by omega) hk]; exact hm j hj
end Go.Proofs.YtkaipknkjocfiaaGreat
namespace Go.Proofs.YtkaipknkjocfiaaGreat
open Go.RowKit
set_option maxHeartbeats 2000000 in
theorem clash_any (A : Option Addr) (cap : Nat) (l : List Sp) (hl : l.length ≤ 100000) (hf : ∀ x ∈ l, fit x) (w : World) (hR : Row w w.heap.size A l) :
  Calls Tryz.prog 127 #[.slice A l.length cap] w fun e w' => e = .returned (.bool (clashB l)) ∧ Below w.heap.size w w' := by
 have Hf := Lib.hid hf
 have Hl := Lib.hid hl
 have Hr := Lib.hid (rising_any A cap l hf hl w hR)
 obtain ⟨v0, hv0⟩ : ∃ v0, v0 = clashB l := ⟨_, rfl⟩
 rw [← hv0]
 have HV := Lib.hid hv0
 clear hl hf hR hv0
 go_enter Tryz.func127, Tryz.ntmps127
 go_wp2_with (go_at_call 162; refine Hr.out.mono ?_; rintro e w1 ⟨v, r, rfl, hri, ho, hb⟩; obtain ⟨A1, c1, rfl, hrow⟩ := ho.row; have hrl := Nat.le_trans (rising_len hri) Hl.out; have Hrl := Lib.hid hrl; have Hri := Lib.hid hri; have Hb := Lib.hid hb; have Hrow := Lib.hid hrow; clear hri hb hrow ho hrl)
 clear Hr
 go_loopw [4] (fun i W => ∃ m : Nat, (m = 0 ∨ m + 1 ≤ r.length) ∧ i = .int .i64 ((m : Int) + 1) ∧ RowKit.Hid (∀ i, i < m → hitAt r i (i + 1) = false) ∧ Below w1.heap.size w1 W) (fun i _ => r.length + 1 - (intOf i).toNat)
 case atStart => exact ⟨0, .inl rfl, by simp, Lib.hid fun _ h => absurd h (Nat.not_lt_zero _), Below.refl _ _⟩
 case round =>
  obtain ⟨m, hm, rfl, hno, hbel⟩ := hrel
  have hb3 : m + 1 ≤ 1000001 := by have := Hrl.out; omega
  by_cases hlt : m + 1 < r.length
  · have hml : m < r.length := by omega
    obtain ⟨a, p, rfl, hp, hpb, hc1, hc2⟩ := (Hrow.out.below hbel).at hml
    obtain ⟨a', q, ha, hq, hqb, hc3, hc4⟩ := (Hrow.out.below hbel).at hlt
    obtain rfl : a = a' := Option.some.inj ha
    have hfit := rising_fit Hf.out Hri.out _ (List.getElem_mem hml)
    have hfit2 := rising_fit Hf.out Hri.out _ (List.getElem_mem hlt)
    have hhit := hitAt_lt hml hlt
    obtain ⟨x, hx⟩ : ∃ x, r[m] = x := ⟨_, rfl⟩
    obtain ⟨y, hy⟩ : ∃ y, r[m + 1] = y := ⟨_, rfl⟩
    rw [hx] at hc1 hc2 hfit hhit
    rw [hy] at hc3 hc4 hfit2 hhit
    obtain ⟨b, s⟩ := x
    obtain ⟨c, d⟩ := y
    have HX := Lib.hid hx
    have HY := Lib.hid hy
    have Hbel := Lib.hid (show Below w.heap.size w wr from Hb.out.trans (hbel.mono Hb.out.size))
    have Hbel1 := Lib.hid hbel
    obtain ⟨o, ho⟩ : ∃ o, o = hitAt r m (m + 1) := ⟨_, rfl⟩
    have HO := Lib.hid (show ∀ w, Calls Tryz.prog 83 #[.agg #[.int .u64 (b : Int), .int .u64 (s : Int)], .agg #[.int .u64 (c : Int), .int .u64 (d : Int)]] w fun e w' => e = .returned (.bool o) ∧ Below w.heap.size w w' from fun w => by rw [ho, hhit]; exact overlap_any b s c d hfit hfit2 w)
    have HH := Lib.hid ho
    have hlt' : (m : Int) + 1 < (r.length : Int) := by omega
    have hml' : (m : Int) < (r.length : Int) := by omega
    have hlen' := Hrl.out
    have hw0 : IntKind.i64.wrap (m : Int) = m := by simp [IntKind.wrap, IntKind.bits, IntKind.signed]; omega
    have hz0 : (0 : Int) ≤ (m : Int) + 1 := by omega
    clear hx hy hpb hqb hbel hfit hfit2 hhit ha ho
    go_wp2
    refine wp_region_held_drew (S := fun W => Below w1.heap.size w1 W ∧ W.cell? p = some (.int .u64 (b : Int)) ∧ W.cell? ⟨p.block, p.off + 1, none⟩ = some (.int .u64 (s : Int)) ∧ W.cell? q = some (.int .u64 (c : Int)) ∧ W.cell? ⟨q.block, q.off + 1, none⟩ = some (.int .u64 (d : Int))) (by kernel_rfl) (by exact ⟨Hbel1.out.drew, hc1, hc2, hc3, hc4⟩) (fun hS => ?_)
    refine tA 0 (h := ?_)
    refine tA 1 (h := ?_)
    refine tA 2 (h := ?_)
    refine tA 3 (h := ?_)
    refine tA 4 (h := ?_)
    refine tA 5 (h := ?_)
    refine tA 6 (h := ?_)
    refine tA 7 (h := ?_)
    refine tA 8 (h := ?_)
    refine oQ 9 (h := fun K9 hK9 => ?_)
    go_simp
    refine (HO.out _).mono ?_
    rintro e w1 ⟨rfl, hd⟩
    refine hK9 _ _ (keep4 hd hS) (fun hS9 => ?_)
    clear hS hd hK9 K9
    refine wpAnyH_done (by kernel_rfl) ?_ _
    have HS := Lib.hid hS9
    clear hS9
    cases o
    · go_wp2
      go_roundw
      case rel =>
       refine ⟨m + 1, .inr (by omega), by go_num, Lib.hid fun i' hi' => ?_, ?_⟩
       · rcases Nat.lt_succ_iff_lt_or_eq.1 hi' with h | rfl
         · exact hno.out i' h
         · exact HH.out.symm
       · exact HS.out.1
      case measure => simp [intOf]; omega
    · have e : v0 = true := by
       rw [HV.out, ← Bool.not_eq_false, clash_perm Hri.out, ← clashB_false, clashB_hit]
       intro h
       have := h m (m + 1) (by omega) hlt
       rw [← HH.out] at this
       cases this
      have HE := Lib.hid e
      clear e
      go_wp2
      go_ret
      exact ⟨by rw [HE.out]; rfl, Hb.out.trans (HS.out.1.mono Hb.out.size)⟩
  · have e : v0 = false := by
      rw [HV.out, clash_perm Hri.out]
      refine clash_near r Hri.out.2 (fun x hx => (List.mem_filter.1 (Hri.out.1.mem_iff.1 hx)).2) (fun i hi => ?_)
      rw [← hitAt_lt (by omega) hi]
      exact hno.out i (by omega)
    have HE := Lib.hid e
    have Hbel := Lib.hid (show Below w.heap.size w wr from Hb.out.trans (hbel.mono Hb.out.size))
    clear e hbel
    have hlen' := Hrl.out
    go_wp2
    go_ret
    exact ⟨by rw [HE.out]; rfl, Hbel.out⟩
end Go.Proofs.YtkaipknkjocfiaaGreat
namespace Go.Proofs.YtkaipknkjocfiaaGreat
open Go.RowKit Go.Shelf
set_option maxHeartbeats 1000000 in
set_option maxRecDepth 100000 in
theorem search_below (g : Nat) (cb : Array Value) (n : Nat) (p : Nat → Bool) (w : World) (eg : ∀ args w, (callFunc g args).run Tryz.prog w = .ok (.enter g args) w) (hn : n ≤ 1000000)
  (hf : ∀ (W : World) (i : Nat), i < n → Below w.heap.size w W → Calls Tryz.prog g (#[.int .i64 (i : Int)] ++ cb) W fun e w' => e = .returned (.bool (p i)) ∧ Below W.heap.size W w')
  (hmono : ∀ a b, a ≤ b → b < n → p a = true → p b = true) :
  Calls Tryz.prog 125 #[.int .i64 (n : Int), .func (.func g) #[] cb] w fun e w' => ∃ k : Nat, e = .returned (.int .i64 (k : Int)) ∧ k ≤ n ∧ (∀ t, t < k → p t = false) ∧ (∀ t, k ≤ t → t < n → p t = true) ∧ Below w.heap.size w w' := by
 have HF := Lib.hid hf
 have HM := Lib.hid hmono
 have HN := Lib.hid hn
 clear hf hmono
 go_enter Tryz.func125, Tryz.ntmps125
 go_wp2
 go_loopw [5, 6] (fun s5 s6 wr => ∃ lo hi : Nat, s5 = .int .i64 (lo : Int) ∧ s6 = .int .i64 (hi : Int) ∧ lo ≤ hi ∧ hi ≤ n ∧ RowKit.Hid ((∀ t, t < lo → p t = false) ∧ (∀ t, hi ≤ t → t < n → p t = true)) ∧ Below w.heap.size w wr) (fun s5 s6 _ => (intOf s6).toNat - (intOf s5).toNat)
 case atStart => exact ⟨0, n, rfl, rfl, Nat.zero_le _, Nat.le_refl _, Lib.hid ⟨fun t ht => absurd ht (Nat.not_lt_zero _), fun t h1 h2 => by omega⟩, Below.refl _ _⟩
 case round =>
  obtain ⟨lo, hi, rfl, rfl, hlh, hin, I, hbel⟩ := hrel
  by_cases hlt : lo < hi
  · have hc := HF.out wr ((lo + hi) / 2) (by omega) hbel
    rw [show (((lo + hi) / 2 : Nat) : Int) = ((lo : Int) + (hi : Int)) / 2 by omega] at hc
    have Hbel := Lib.hid hbel
    clear hbel
    obtain ⟨b, hb⟩ : ∃ b, b = p ((lo + hi) / 2) := ⟨_, rfl⟩
    rw [← hb] at hc
    have HP := Lib.hid hb
    have HC := Lib.hid hc
    clear hb hc
    cases b
    · go_wp2_with (go_at_fn g; refine HC.out.mono ?_; rintro e w' ⟨rfl, hd⟩; have H1 := Lib.hid (Hbel.out.trans (hd.mono Hbel.out.size)); clear hd)
      go_roundw
      case rel =>
       refine ⟨(lo + hi) / 2 + 1, hi, by rw [show ((lo : Int) + (hi : Int)) / 2 + 1 = (((lo + hi) / 2 + 1 : Nat) : Int) by omega], rfl, by omega, hin, Lib.hid ⟨fun t ht => ?_, I.out.2⟩, H1.out⟩
       cases h : p t with
       | false => rfl
       | true => have := HM.out t ((lo + hi) / 2) (by omega) (by omega) h; rw [← HP.out] at this; cases this
      case measure => simp [intOf]; omega
    · go_wp2_with (go_at_fn g; refine HC.out.mono ?_; rintro e w' ⟨rfl, hd⟩; have H1 := Lib.hid (Hbel.out.trans (hd.mono Hbel.out.size)); clear hd)
      go_roundw
      case rel => exact ⟨lo, (lo + hi) / 2, rfl, by rw [show ((lo : Int) + (hi : Int)) / 2 = (((lo + hi) / 2 : Nat) : Int) by omega], by omega, by omega, Lib.hid ⟨I.out.1, fun t ht htn => HM.out ((lo + hi) / 2) t ht htn HP.out.symm⟩, H1.out⟩
      case measure => simp [intOf]; omega
  · obtain rfl : hi = lo := by omega
    have Hbel := Lib.hid hbel
    clear hbel
    go_wp2
    go_ret
    exact ⟨hi, rfl, hin, I.out.1, I.out.2, Hbel.out⟩
end Go.Proofs.YtkaipknkjocfiaaGreat
