import Derived.RangeFuncNested
import Derived.RangeFuncBound
import Derived.RangeFuncCalls
import Derived.RangeFuncLeaves
import Derived.TacticsInMore
import Derived.OrdersIn
import Derived.Test.YtkaipknkjocfiaaGreatZs20
import Derived.Test.YtkaipknkjocfiaaGreatZs12
namespace Go.Proofs.YtkaipknkjocfiaaGreat
open Go.RowKit Go.Shelf Go.Lib Go.Sort Go.Proofs
structure Rk where
 m : Mp
 r : Int
instance : Inhabited Rk := ⟨⟨zMp, 0⟩⟩
def rkE (x : Rk) : Nat → Value
 | 0 => .int .u64 x.m.ipa
 | 1 => .int .u64 x.m.pa
 | 2 => .int .u64 x.m.size
 | 3 => .int .i64 x.m.perm
 | 4 => .int .i64 x.m.kind
 | _ => .int .i64 x.r
theorem rkE_one (x : Rk) (n : Nat) : ∀ i, i < n → (rkE x i).oneCell' = true := by
 intro i _
 unfold rkE
 split <;> rfl
def zRk : Rk := ⟨zMp, 0⟩
theorem infoRk : (Tryz.prog.info? 145).map (·.size) = some 6 := by kernel_rfl
theorem zeroRk (w : World) : (zeroValue 145).run Tryz.prog w = .ok (.agg (vec 6 (rkE zRk))) w :=
 (zero_of_info (P := Tryz.prog) (t := 145) (v := .agg (vec 6 (rkE zRk))) (n := 6) (by kernel_rfl)).1 w
abbrev enc6 (x : Rk) : List Value := [.int .u64 x.m.ipa, .int .u64 x.m.pa, .int .u64 x.m.size, .int .i64 x.m.perm, .int .i64 x.m.kind, .int .i64 x.r]
def cmpN (x y : Int) : Int := if x < y then -1 else if y < x then 1 else 0
def orN (x y : Int) : Int := if x = 0 then y else x
theorem isNaNu_any (x : Int) (w : World) : Calls Tryz.prog 186 #[.int .u64 x] w fun e w' => e = .returned (.bool false) ∧ w' = w := by
 go_enter Tryz.func186, Tryz.ntmps186
 go_wp2
 go_ret
 exact ⟨by simp, rfl⟩
theorem isNaNi_any (x : Int) (w : World) : Calls Tryz.prog 187 #[.int .i64 x] w fun e w' => e = .returned (.bool false) ∧ w' = w := by
 go_enter Tryz.func187, Tryz.ntmps187
 go_wp2
 go_ret
 exact ⟨by simp, rfl⟩
theorem cmpu_any (x y : Int) (w : World) : Calls Tryz.prog 167 #[.int .u64 x, .int .u64 y] w fun e w' => e = .returned (.int .i64 (cmpN x y)) ∧ w' = w := by
 go_enter Tryz.func167, Tryz.ntmps167
 go_wp2_with (go_at_call 186; refine (isNaNu_any _ _).mono ?_; rintro e w' ⟨rfl, rfl⟩)
 all_goals (go_ret; refine ⟨?_, rfl⟩; unfold cmpN; (repeat' split) <;> first | rfl | (exfalso; omega))
theorem cmpi_any (x y : Int) (w : World) : Calls Tryz.prog 168 #[.int .i64 x, .int .i64 y] w fun e w' => e = .returned (.int .i64 (cmpN x y)) ∧ w' = w := by
 go_enter Tryz.func168, Tryz.ntmps168
 go_wp2_with (go_at_call 187; refine (isNaNi_any _ _).mono ?_; rintro e w' ⟨rfl, rfl⟩)
 all_goals (go_ret; refine ⟨?_, rfl⟩; unfold cmpN; (repeat' split) <;> first | rfl | (exfalso; omega))
set_option maxHeartbeats 1000000 in
theorem or_any (a b : Int) (B : Nat) (w : World) (c0 : w.cell? ⟨B, 0, none⟩ = some (.int .i64 a)) (c1 : w.cell? ⟨B, 1, none⟩ = some (.int .i64 b)) :
  Calls Tryz.prog 166 #[.slice (some ⟨B, 0, none⟩) 2 2] w fun e w' => e = .returned (.int .i64 (orN a b)) ∧ w' = w := by
 have HO : Hid (orN a b = if a = 0 then b else a) := Lib.hid rfl
 generalize orN a b = r at HO ⊢
 go_enter Tryz.func166, Tryz.ntmps166
 go_wp2
 go_loopg [8] 2 (fun kx s wr => ∃ k : Nat, s = .int .i64 (k : Int) ∧ k ≤ 2 ∧ 2 - k ≤ kx ∧ Aside ((1 ≤ k → a = 0) ∧ (2 ≤ k → b = 0)) ∧ wr = w)
 case atStart => exact ⟨0, rfl, by omega, by omega, ⟨(fun h => by omega), (fun h => by omega)⟩, rfl⟩
 case round =>
  obtain ⟨k, rfl, hk, hkx, HK, hwr⟩ := hrel
  subst hwr
  rcases (by omega : k = 0 ∨ k = 1 ∨ k = 2) with rfl | rfl | rfl
  · by_cases ha : a = 0
    · have ha2 : (a != 0) = false := by simp [ha]
      have HA := Lib.hid ha
      clear ha
      go_wp2_with fail
      go_roundg 1
      case measure => omega
      case rel => exact ⟨1, by first | rfl | go_num, by omega, by omega, ⟨fun _ => HA.out, fun h => by omega⟩, rfl⟩
    · have ha2 : (a != 0) = true := by simp [ha]
      have HR := Lib.hid (HO.out.trans (if_neg ha))
      clear ha
      go_wp2_with fail
      (try simp only [Exit.inBlock, Exit.then])
      go_ret
      exact ⟨by rw [HR.out]; rfl, rfl⟩
  · by_cases hb : b = 0
    · have hb2 : (b != 0) = false := by simp [hb]
      have HB := Lib.hid hb
      clear hb
      go_wp2_with fail
      go_roundg 0
      case measure => omega
      case rel => exact ⟨2, by first | rfl | go_num, by omega, by omega, ⟨fun _ => HK.out.1 (by omega), fun _ => HB.out⟩, rfl⟩
    · have hb2 : (b != 0) = true := by simp [hb]
      have HR := Lib.hid (HO.out.trans (if_pos (HK.out.1 (by omega))))
      clear hb
      go_wp2_with fail
      (try simp only [Exit.inBlock, Exit.then])
      go_ret
      exact ⟨by rw [HR.out]; rfl, rfl⟩
  · have HR := Lib.hid ((HO.out.trans (if_pos (HK.out.1 (by omega)))).trans (HK.out.2 (by omega)))
    go_wp2_with fail
    go_ret
    exact ⟨by rw [HR.out]; rfl, rfl⟩
def GR (V Y : World) : Prop := ∃ n os, Y = grow (V.drewN n) os
theorem GR.refl (V : World) : GR V V := ⟨0, #[], by rw [grow_empty]; rfl⟩
theorem GR.trans {X Y Z : World} (h : GR X Y) (k : GR Y Z) : GR X Z := by
 obtain ⟨n, os, rfl⟩ := h
 obtain ⟨m, os2, rfl⟩ := k
 exact ⟨n + m, os ++ os2, by
  show grow (grow ((X.drewN n).drewN m) os) os2 = _
  rw [grow_grow]
  show grow { X with drawn := X.drawn + n + m } _ = grow { X with drawn := X.drawn + (n + m) } _
  rw [Nat.add_assoc]⟩
theorem GR.alloc {V Y : World} (h : GR V Y) (o : Obj) : GR V (Y.alloc o) := h.trans ⟨0, #[o], by rw [alloc_eq_grow]; rfl⟩
theorem GR.drew {V Y : World} (h : GR V Y) : GR V Y.drew := h.trans ⟨1, #[], by rw [grow_empty]; rfl⟩
theorem GR.cell {V Y : World} (h : GR V Y) {p : Addr} {v : Value} (hc : V.cell? p = some v) : Y.cell? p = some v := by
 obtain ⟨n, os, rfl⟩ := h
 rw [cell?_grow _ _ _ (by exact World.block_lt_of_cell? V p hc)]
 exact hc
theorem infoInt : (Tryz.prog.info? 3).map (fun i => (i.zero, i.size, i.bytes)) = some (some (.int .i64 0), 1, 8) := by kernel_rfl
theorem build_ints (a b : Int) (w : World) : (Instr.buildSlice 165 2 #[(0, .int .i64 a), (1, .int .i64 b)]).run Tryz.prog w = .ok (.slice (some ⟨w.heap.size, 0, none⟩) 2 2) (w.alloc (.cells #[.int .i64 a, .int .i64 b] 3)) := by
 obtain ⟨i0, hi, hz0, hz1, hz2⟩ := info_parts infoInt
 refine run_buildSlice (P := Tryz.prog) w 165 3 2 _ _ i0 (.int .i64 0) Tryz.underlying165 hi hz0 (by rw [hz1]; decide) (by rw [hz1]; decide) ?_
 rw [hz1]
 kernel_rfl
def ltB (x y : Rk) : Int := orN (cmpN x.m.ipa y.m.ipa) (cmpN x.r y.r)
set_option maxHeartbeats 2000000 in
theorem before_any (x y : Rk) (w : World) : Calls Tryz.prog 137 #[.agg (enc6 x).toArray, .agg (enc6 y).toArray] w fun e w' => e = .returned (.int .i64 (ltB x y)) ∧ ∃ q os', w' = grow (w.drewN q) os' := by
 obtain ⟨⟨x0, x1, x2, x3, x4⟩, xr⟩ := x
 obtain ⟨⟨y0, y1, y2, y3, y4⟩, yr⟩ := y
 obtain ⟨r1, hr1⟩ : ∃ r, r = cmpN x0 y0 := ⟨_, rfl⟩
 obtain ⟨r2, hr2⟩ : ∃ r, r = cmpN xr yr := ⟨_, rfl⟩
 obtain ⟨r3, hr3⟩ : ∃ r, r = orN r1 r2 := ⟨_, rfl⟩
 have e3 : ltB ⟨⟨x0, x1, x2, x3, x4⟩, xr⟩ ⟨⟨y0, y1, y2, y3, y4⟩, yr⟩ = r3 := by unfold ltB; rw [hr3, hr1, hr2]
 rw [e3]
 have H1 := Lib.hid fun W => cmpu_any x0 y0 W
 have H2 := Lib.hid fun W => cmpi_any xr yr W
 have H3 := Lib.hid fun B W h1 h2 => or_any r1 r2 B W h1 h2
 rw [← hr1] at H1
 rw [← hr2] at H2
 rw [← hr3] at H3
 clear hr1 hr2 hr3 e3
 obtain ⟨V, hV⟩ : ∃ V, V = (w.alloc (.cells #[.int .u64 x0, .int .u64 x1, .int .u64 x2, .int .i64 x3, .int .i64 x4, .int .i64 xr] 145)).alloc (.cells #[.int .u64 y0, .int .u64 y1, .int .u64 y2, .int .i64 y3, .int .i64 y4, .int .i64 yr] 145) := ⟨_, rfl⟩
 have hG : GR w V := by rw [hV]; exact ((GR.refl w).alloc _).alloc _
 have HV := Lib.hid hV
 have HG := Lib.hid hG
 have q0 : V.cell? ⟨w.heap.size, 0, none⟩ = some (.int .u64 x0) := by rw [hV]; simp
 have q1 : V.cell? ⟨w.heap.size, 5, none⟩ = some (.int .i64 xr) := by rw [hV]; simp
 have q2 : V.cell? ⟨w.heap.size + 1, 0, none⟩ = some (.int .u64 y0) := by rw [hV]; simp
 have q3 : V.cell? ⟨w.heap.size + 1, 5, none⟩ = some (.int .i64 yr) := by rw [hV]; simp
 have HQ := Lib.hid (And.intro q0 (And.intro q1 (And.intro q2 q3)))
 obtain ⟨g, hg⟩ : ∃ g, g = w.heap.size := ⟨_, rfl⟩
 obtain ⟨h, hh⟩ : ∃ h, h = w.heap.size + 1 := ⟨_, rfl⟩
 have HGH := Lib.hid (And.intro hg hh)
 rw [← hh, ← hg] at HQ
 clear hV hG q0 q1 q2 q3 hg hh
 go_enter Tryz.func137, Tryz.ntmps137
 go_upto_region 1 with fail
 rw [← HV.out]
 rw [← HGH.out.2, ← HGH.out.1]
 refine wp_region_held_drew (S := fun Y => GR V Y) (by kernel_rfl) (GR.drew (GR.refl V)) (fun hS => ?_)
 refine tA 0 (h := ?_)
 refine tA 1 (h := ?_)
 refine tP 2 (hy := by (intro W hW; have hc := (show GR V W from hW).cell HQ.out.1; clear hW; go_simp; (try with_reducible rfl))) (h := ?_)
 refine tA 3 (h := ?_)
 refine tA 4 (h := ?_)
 refine tP 5 (hy := by (intro W hW; have hc := (show GR V W from hW).cell HQ.out.2.2.1; clear hW; go_simp; (try with_reducible rfl))) (h := ?_)
 refine tA 7 (h := ?_)
 refine tP 8 (hy := by (intro W hW; have hc := (show GR V W from hW).cell HQ.out.2.1; clear hW; go_simp; (try with_reducible rfl))) (h := ?_)
 refine tA 9 (h := ?_)
 refine tP 10 (hy := by (intro W hW; have hc := (show GR V W from hW).cell HQ.out.2.2.2; clear hW; go_simp; (try with_reducible rfl))) (h := ?_)
 refine oQ 6 (h := fun K6 hK6 => ?_)
 go_simp
 refine (H1.out _).mono ?_
 rintro e y6 ⟨rfl, rfl⟩
 refine hK6 _ _ hS (fun hS6 => ?_)
 clear hS hK6 K6
 refine oQ 11 (h := fun K11 hK11 => ?_)
 go_simp
 refine (H2.out _).mono ?_
 rintro e y11 ⟨rfl, rfl⟩
 refine hK11 _ _ hS6 (fun hS11 => ?_)
 clear hS6 hK11 K11
 refine oQ 12 (h := fun K12 hK12 => ?_)
 have hbs := fun W => build_ints r1 r2 W
 go_simp
 have c0 := World.cell?_alloc_new
 refine hK12 _ _ ((show GR V _ from hS11).alloc (.cells #[.int .i64 r1, .int .i64 r2] 3)) (fun hS12 => ?_)
 clear hbs hK12 K12 hS11
 refine oQ 13 (h := fun K13 hK13 => ?_)
 go_simp
 refine (H3.out _ _ (by simp) (by simp)).mono ?_
 rintro e y13 ⟨rfl, rfl⟩
 refine hK13 _ _ hS12 (fun hS13 => ?_)
 clear hS12 hK13 K13
 refine tA 14 (h := ?_)
 refine wpAnyH_done (by kernel_rfl) ?_ _
 go_wp2
 go_ret
 exact ⟨rfl, HG.out.trans hS13⟩
end Go.Proofs.YtkaipknkjocfiaaGreat
namespace Go.Proofs.YtkaipknkjocfiaaGreat
open Go.RowKit Go.Shelf Go.Lib Go.Sort Go.Proofs
abbrev OwnR (w : World) (base : Nat) (v : Value) (l : List Rk) : Prop := OwnE 145 6 rkE w base v l
theorem enc6_get (x : Rk) (i : Nat) (h : i < 6) : (enc6 x)[i]! = rkE x i := by
 rcases (by omega : i = 0 ∨ i = 1 ∨ i = 2 ∨ i = 3 ∨ i = 4 ∨ i = 5) with rfl | rfl | rfl | rfl | rfl | rfl <;> rfl
theorem flat_rk (l : List Rk) : (flatK enc6 6 l.toArray).toList = cellsE 6 rkE l := by
 apply List.ext_getElem?
 intro j
 by_cases hj : j < l.length * 6
 · have h1 : j / 6 < l.length := by omega
   have g := cellsE_get (n := 6) (enc := rkE) l (j / 6) h1 (j % 6) (by omega)
   rw [show j / 6 * 6 + j % 6 = j by omega] at g
   have e : (flatK enc6 6 l.toArray).toList[j]? = some (enc6 l[j / 6])[j % 6]! := by
    have := get_flatK enc6 6 l.toArray j (by simpa using hj)
    rw [Array.getElem?_toList, Array.getElem?_eq_getElem (by simpa using hj), ← getElem!_pos (flatK enc6 6 l.toArray) j (by simpa using hj), this]
    simp [h1]
   rw [e, g, enc6_get _ _ (by omega)]
 · rw [List.getElem?_eq_none (by simpa using hj), List.getElem?_eq_none (by rw [cellsE_length]; omega)]
theorem holds_rk {w : World} {g : Nat} {cur : Array Value} {l : List Rk} (hb : w.heap[g]? = some (.cells cur 145 (0, 0))) (ht : cur.toList.take (l.length * 6) = cellsE 6 rkE l) : HoldsK enc6 6 w g 0 l.toArray := by
 intro j hj
 have hj' : j < l.length * 6 := by simpa using hj
 refine ⟨?_, by simp [World.frozen?, hb]⟩
 have h1 : (cur.toList.take (l.length * 6))[j]? = (flatK enc6 6 l.toArray).toList[j]? := by rw [ht, flat_rk]
 rw [List.getElem?_take_of_lt hj'] at h1
 simp only [World.cell?, hb, Nat.zero_add]
 simp only [Option.isSome_none, Bool.false_eq_true, if_false]
 rw [← Array.getElem?_toList, h1, Array.getElem?_toList, Array.getElem?_eq_getElem hj, ← getElem!_pos (flatK enc6 6 l.toArray) j hj]
 rfl
theorem heap_put {w : World} {g n : Nat} {os : Array Obj} {cur : Array Value} {e : TypeId} {fr : Nat × Nat} (F : Array Value) (hb : w.heap[g]? = some (.cells cur e fr)) :
  (grow (putRow id (Sort.ahead w n) g 0 F) os).heap[g]? = some (.cells (putCells id 0 F cur) e fr) := by
 have hg : g < w.heap.size := (Array.getElem?_eq_some_iff.1 hb).1
 rw [heap_grow_old _ _ (by simpa using hg)]
 simp [putRow, mapBlock, Sort.ahead, Array.getElem?_modify, hb, onCells]
theorem take_put (cur F : Array Value) (h : F.size ≤ cur.size) : (putCells id 0 F cur).toList.take F.size = F.toList := by
 apply List.ext_getElem?
 intro j
 by_cases hj : j < F.size
 · rw [List.getElem?_take_of_lt hj, Array.getElem?_toList]
   simp [putCells, hj, show j < cur.size by omega]
 · rw [List.getElem?_take_eq_none (by omega), List.getElem?_eq_none (by simp; omega)]
theorem below_put {w : World} {g n B : Nat} {os : Array Obj} (F : Array Value) (hB : B ≤ g) (hBw : B ≤ w.heap.size) : Below B w (grow (putRow id (Sort.ahead w n) g 0 F) os) := by
 refine ⟨rfl, rfl, rfl, by simp, fun k hk => ?_⟩
 rw [heap_grow_old _ _ (by simp; omega)]
 have : g ≠ k := by omega
 simp [putRow, mapBlock, Sort.ahead, Array.getElem?_modify, this]
theorem other_put {w : World} {g n k : Nat} {os : Array Obj} (F : Array Value) (hk : k < w.heap.size) (hne : k ≠ g) : (grow (putRow id (Sort.ahead w n) g 0 F) os).heap[k]? = w.heap[k]? := by
 rw [heap_grow_old _ _ (by simpa using hk)]
 simp [putRow, mapBlock, Sort.ahead, Array.getElem?_modify, show g ≠ k from fun e => hne e.symm]
theorem ltB_iff (x y : Rk) : ltOf ltB x y = decide (x.m.ipa < y.m.ipa ∨ (x.m.ipa = y.m.ipa ∧ x.r < y.r)) := by
 unfold ltOf ltB orN cmpN
 apply decide_eq_decide.2
 repeat' split
 all_goals omega
theorem swoB : SWO (ltOf ltB) where
 irrefl x := by rw [ltB_iff]; simp
 trans x y z h1 h2 := by rw [ltB_iff] at *; simp only [decide_eq_true_eq] at *; omega
 ntrans x y z h1 h2 := by rw [ltB_iff] at *; simp only [decide_eq_false_iff_not] at *; omega
def SortR (l : List Rk) : Prop := l.Pairwise fun x y => x.m.ipa ≤ y.m.ipa
theorem sorted_of {d d' : Array Rk} (h : MergeP (ltOf ltB) d d' 0 d.size) : d'.toList.Perm d.toList ∧ SortR d'.toList := by
 obtain ⟨⟨h1, _, h3⟩, hs⟩ := h
 refine ⟨?_, ?_⟩
 · have e1 : (d'.extract 0 d.size).toList = d'.toList := by rw [← h1]; simp
   have e2 : (d.extract 0 d.size).toList = d.toList := by simp
   rwa [e1, e2] at h3
 · unfold SortR
   rw [List.pairwise_iff_getElem]
   intro i j hi hj hij
   have := hs i j (Nat.zero_le _) hij (by rw [← h1]; simpa using hj)
   rw [ltB_iff, getElem!_pos d' i (by simpa using hi), getElem!_pos d' j (by simpa using hj)] at this
   simp only [decide_eq_false_iff_not] at this
   simp only [Array.getElem_toList]
   omega
set_option maxHeartbeats 1000000 in
theorem sortRk_any (l : List Rk) (base : Nat) (v : Value) (hlen : l.length ≤ 1000000) (w : World) (hbw : base ≤ w.heap.size) (hv : OwnR w base v l) :
   Calls Tryz.prog 136 #[v, .func (.func 137) #[] #[]] w fun e w' => e = .returned (.tuple #[]) ∧ ∃ r : List Rk, r.Perm l ∧ SortR r ∧ OwnR w' base v r ∧ Below base w w' ∧ ∀ k, k < w.heap.size → some k ≠ v.ownBlock → w'.heap[k]? = w.heap[k]? := by
 rcases hv.2 with ⟨rfl, h0⟩ | ⟨g, cap, cur, rfl, hbase, hh, hle, hcap, hsz, ht⟩
 · obtain rfl : l = [] := List.eq_nil_of_length_eq_zero h0
   refine (sortStable_none 0 (.func (.func 137) #[] #[]) w).mono ?_
   rintro e w' ⟨rfl, rfl⟩
   exact ⟨rfl, [], List.Perm.refl _, List.Pairwise.nil, hv, Below.refl _ _, fun _ _ _ => rfl⟩
 · have eg : ∀ args w, (callFunc 137 args).run Tryz.prog w = .ok (.enter 137 args) w := enters_of Tryz.func137 (by kernel_rfl) rfl
   have R : RowK enc6 6 w g 0 l.toArray := ⟨fun _ => rfl, fun x v hv => by simp at hv; rcases hv with rfl | rfl | rfl | rfl | rfl | rfl <;> rfl, holds_rk hh ht, (Array.getElem?_eq_some_iff.1 hh).1⟩
   have hcon := sortStable_k 6 Tryz.sizeOf145 enc6 ltB swoB 137 #[] g 0 cap l.toArray w eg (fun _ _ _ _ x y => before_any x y _) R (by simp; omega)
   refine Calls.mono (P := Tryz.prog) hcon ?_
   rintro e w' ⟨rfl, d', hm, n, os, rfl⟩
   obtain ⟨hp, hs⟩ := sorted_of hm
   have hl : d'.toList.length = l.length := by have := hm.size; simpa using this
   refine ⟨rfl, d'.toList, by simpa using hp, hs, ?_, below_put _ hbase hbw, fun k hk hne => other_put _ hk fun e => hne (by rw [e]; rfl)⟩
   refine ⟨by rw [cellsE_length], .inr ⟨g, cap, _, by rw [hl], hbase, heap_put _ hh, by omega, hcap, by simp [putCells, hsz], ?_⟩⟩
   have hF : (flatK enc6 6 d').size = d'.toList.length * 6 := by simp
   rw [← hF, take_put _ _ (by rw [hF, hsz]; omega)]
   have := flat_rk d'.toList
   simpa using this
end Go.Proofs.YtkaipknkjocfiaaGreat
namespace Go.Proofs.YtkaipknkjocfiaaGreat
open Go.RowKit
attribute [local go_sem ↓ high] zeroSp zeroMp
theorem goodE (x : Sp) (hx : fit x) (w : World) : Calls Tryz.prog 106 #[.agg (vec 2 (spE x))] w (EqV (good x) w) := good_bel x.1 x.2 hx w
theorem overlapE (x y : Sp) (hx : fit x) (hy : fit y) (w : World) : Calls Tryz.prog 83 #[.agg (vec 2 (spE x)), .agg (vec 2 (spE y))] w (EqV (overlap x y) w) := overlap_any x.1 x.2 y.1 y.2 hx hy w
theorem seen_n (b p s : Nat) (q k : Int) (w : World) : Calls Tryz.prog 135 #[.agg (vec 5 (mpE ⟨(b : Int), (p : Int), (s : Int), q, k⟩))] w fun e w' => e = .returned (.agg (vec 2 (spE (b, s)))) ∧ Below w.heap.size w w' := by
 obtain ⟨g, hg⟩ : ∃ g, g = w.heap.size := ⟨_, rfl⟩
 obtain ⟨h, hh⟩ : ∃ h, h = w.heap.size + 1 := ⟨_, rfl⟩
 obtain ⟨m, hm⟩ : ∃ m : Mp, m = ⟨(b : Int), (p : Int), (s : Int), q, k⟩ := ⟨_, rfl⟩
 obtain ⟨V, hV⟩ : ∃ V, V = (w.alloc (.cells (vec 5 (mpE m)) 87)).alloc (.cells (vec 2 (spE (0, 0))) 24) := ⟨_, rfl⟩
 have k1 : Arr V g 87 5 (mpE m) := by rw [hV, hg]; exact (Arr.new w _ _ _).alloc _
 have k2 : Arr V h 24 2 (spE (0, 0)) := by rw [hV, hh]; exact Arr.newAt _ _ _ _ (by simp)
 have hB : Below w.heap.size w V := by rw [hV]; exact ((Below.refl _ _).alloc (Nat.le_refl _) _).alloc (by simp) _
 have x0 : V.cell? ⟨g, 0, none⟩ = some (.int .u64 (b : Int)) := by have := k1.cell (i := 0) (by decide); rw [hm] at this; exact this
 have x2 : V.cell? ⟨g, 2, none⟩ = some (.int .u64 (s : Int)) := by have := k1.cell (i := 2) (by decide); rw [hm] at this; exact this
 have HV := Lib.hid hV
 have HG := Lib.hid (And.intro hg hh)
 have HB := Lib.hid hB
 have HK := Lib.hid k2
 have HH : Hid (w.heap.size ≤ h) := Lib.hid (by omega)
 rw [← hm]
 clear hV hg hh k1 k2 hB hm
 go_enter Tryz.func135, Tryz.ntmps135
 go_upto_region 1 with fail
 rw [← HV.out, ← HG.out.2, ← HG.out.1]
 clear HV HG
 go_wp2_with (first
  | ((with_reducible show wpList _ _ _ (Oper.mk _ (.build _ _) _ _ _ _ :: _) _ _); refine wl_build rfl 24 _ rfl (vec 2 (spE (b, s))) (by kernel_rfl) ?_)
  | ((with_reducible show wpList _ _ _ (Oper.mk _ (.store _ _ _) _ _ _ _ :: _) _ _); refine wl_store rfl 24 _ _ rfl h rfl _ rfl (run_store_arr HK.out (spE (b, s)) infoSp (spE_one _ _)) ?_))
 refine bodyPost_ret (results_cell1 rfl _ _ _ rfl (run_load_arr (HK.out.row _) Tryz.underlying24 rfl infoSp)) rfl ?_
 exact ⟨rfl, below_row HB.out HH.out _⟩
theorem seen_any (m : Mp) (hm : MpB m) (w : World) : Calls Tryz.prog 135 #[.agg (vec 5 (mpE m))] w fun e w' => e = .returned (.agg (vec 2 (spE (ipaS m)))) ∧ Below w.heap.size w w' := by
 obtain ⟨mi, mp, ms, mq, mk⟩ := m
 obtain ⟨b, rfl⟩ := Int.eq_ofNat_of_zero_le hm.ipa.1
 obtain ⟨p, rfl⟩ := Int.eq_ofNat_of_zero_le hm.pa.1
 obtain ⟨s, rfl⟩ := Int.eq_ofNat_of_zero_le hm.size.1
 exact seen_n b p s mq mk w
theorem physical_n (b p s : Nat) (q k : Int) (w : World) : Calls Tryz.prog 94 #[.agg (vec 5 (mpE ⟨(b : Int), (p : Int), (s : Int), q, k⟩))] w fun e w' => e = .returned (.agg (vec 2 (spE (p, s)))) ∧ Below w.heap.size w w' := by
 obtain ⟨g, hg⟩ : ∃ g, g = w.heap.size := ⟨_, rfl⟩
 obtain ⟨h, hh⟩ : ∃ h, h = w.heap.size + 1 := ⟨_, rfl⟩
 obtain ⟨m, hm⟩ : ∃ m : Mp, m = ⟨(b : Int), (p : Int), (s : Int), q, k⟩ := ⟨_, rfl⟩
 obtain ⟨V, hV⟩ : ∃ V, V = (w.alloc (.cells (vec 5 (mpE m)) 87)).alloc (.cells (vec 2 (spE (0, 0))) 24) := ⟨_, rfl⟩
 have k1 : Arr V g 87 5 (mpE m) := by rw [hV, hg]; exact (Arr.new w _ _ _).alloc _
 have k2 : Arr V h 24 2 (spE (0, 0)) := by rw [hV, hh]; exact Arr.newAt _ _ _ _ (by simp)
 have hB : Below w.heap.size w V := by rw [hV]; exact ((Below.refl _ _).alloc (Nat.le_refl _) _).alloc (by simp) _
 have x0 : V.cell? ⟨g, 1, none⟩ = some (.int .u64 (p : Int)) := by have := k1.cell (i := 1) (by decide); rw [hm] at this; exact this
 have x2 : V.cell? ⟨g, 2, none⟩ = some (.int .u64 (s : Int)) := by have := k1.cell (i := 2) (by decide); rw [hm] at this; exact this
 have HV := Lib.hid hV
 have HG := Lib.hid (And.intro hg hh)
 have HB := Lib.hid hB
 have HK := Lib.hid k2
 have HH : Hid (w.heap.size ≤ h) := Lib.hid (by omega)
 rw [← hm]
 clear hV hg hh k1 k2 hB hm
 go_enter Tryz.func94, Tryz.ntmps94
 go_upto_region 1 with fail
 rw [← HV.out, ← HG.out.2, ← HG.out.1]
 clear HV HG
 go_wp2_with (first
  | ((with_reducible show wpList _ _ _ (Oper.mk _ (.build _ _) _ _ _ _ :: _) _ _); refine wl_build rfl 24 _ rfl (vec 2 (spE (p, s))) (by kernel_rfl) ?_)
  | ((with_reducible show wpList _ _ _ (Oper.mk _ (.store _ _ _) _ _ _ _ :: _) _ _); refine wl_store rfl 24 _ _ rfl h rfl _ rfl (run_store_arr HK.out (spE (p, s)) infoSp (spE_one _ _)) ?_))
 refine bodyPost_ret (results_cell1 rfl _ _ _ rfl (run_load_arr (HK.out.row _) Tryz.underlying24 rfl infoSp)) rfl ?_
 exact ⟨rfl, below_row HB.out HH.out _⟩
theorem physical_any (m : Mp) (hm : MpB m) (w : World) : Calls Tryz.prog 94 #[.agg (vec 5 (mpE m))] w fun e w' => e = .returned (.agg (vec 2 (spE (paS m)))) ∧ Below w.heap.size w w' := by
 obtain ⟨mi, mp, ms, mq, mk⟩ := m
 obtain ⟨b, rfl⟩ := Int.eq_ofNat_of_zero_le hm.ipa.1
 obtain ⟨p, rfl⟩ := Int.eq_ofNat_of_zero_le hm.pa.1
 obtain ⟨s, rfl⟩ := Int.eq_ofNat_of_zero_le hm.size.1
 exact physical_n b p s mq mk w
end Go.Proofs.YtkaipknkjocfiaaGreat
namespace Go.Proofs.YtkaipknkjocfiaaGreat
open Go.RowKit
section
variable {P : Program} {ops : Array Oper} {Q : Exit → Act → World → Prop} {md : Region.Mode} {S : World → Prop} {l n : Nat}
theorem oper_round {o : Oper} {a : Act} {w : World} {K : Act → World → Prop} (hd : ∀ c, o.op ≠ .defer c) (h : o.wp P a w K Q) : o.wpIn (Fence.wide.inRound l) n P a w K Q := by
 refine ⟨fun _ _ => trivial, ?_⟩
 show o.uponIn (Fence.wide.inRound l) n P a K Q ((Oper.semAt (some l) a.eval o).run P w)
 rw [Oper.semAt_some l _ _ hd]
 unfold Oper.wp at h
 generalize (execOp a.eval o).run P w = r at h ⊢
 cases r with
 | ok x w' =>
  cases x with
  | enter f args => exact ⟨fun h => by simp [Fence.wide] at h, callsIn_wide.2 h⟩
  | row rw args => exact ⟨fun h => by simp [Fence.wide] at h, fun c cs _ => let ⟨v, w', r, s⟩ := h c cs; ⟨v, w', r, stepsIn_wide.2 s⟩⟩
  | round l' f tmps assign body => exact h.elim
  | _ => exact h
 | halt x w' => cases x <;> exact h
def noDefer (ops : Array Oper) : Bool := ops.all fun o => match o.op with | .defer _ => false | _ => true
theorem noDefer_at {i : Nat} {o : Oper} (h : noDefer ops = true) (hi : ops[i]? = some o) : ∀ c, o.op ≠ .defer c := fun c e => by
 obtain ⟨hlt, hx⟩ := Array.getElem?_eq_some_iff.1 hi
 have := (Array.all_eq_true.1 h) i hlt
 rw [hx, e] at this
 cases this
theorem any_round (hd : noDefer ops = true) (hq : ¬ LetsOut Q) : ∀ (fuel : Nat) (listed : Array Bool) (a : Act) (w : World), wpAny P md ops Q fuel listed a w → wpAnyIn (Fence.wide.inRound l) n P md ops Q fuel listed a w
 | 0, _, _, _, h => h
 | fuel + 1, listed, a, w, h => ⟨h.1, fun i hi => by
  have h2 := h.2 i hi
  unfold wpOp at h2
  unfold wpOpIn
  cases ho : ops[i]? with
  | none => rw [ho] at h2; exact any_round hd hq fuel _ a w h2
  | some o =>
   rw [ho] at h2
   simp only at h2 ⊢
   by_cases hw : Region.wanted o (yielded ops a.tmps) = true
   · rw [if_pos hw] at h2 ⊢
     exact Oper.wpIn_mono (fun a w h => any_round hd hq fuel _ a w h) (oper_round (noDefer_at hd ho) (h2.resolve_right fun hh => hq hh.2))
   · rw [if_neg hw] at h2 ⊢
     exact ⟨fun _ _ => trivial, any_round hd hq fuel _ _ w h2⟩⟩
theorem wpIn_region_held_drew {id : Nat} {a : Act} {w : World} (hm : P.follows .mixedOrders = true) (hd : noDefer ops = true) (hq : ¬ LetsOut Q) (hS : S w.drew)
  (h : S w.drew → wpAnyH P .any ops Q S ops.size (Array.replicate ops.size false) a w.drew) : (Code.region id ops true).wpIn (Fence.wide.inRound l) n P Q a w :=
 wpIn_region_any hm (any_round hd hq _ _ _ _ (wpAny_of_held _ _ _ _ (h hS)))
end
section
variable {F : Fence} {n : Nat} {P : Program} {w w' : World} {ops : Array Oper} {rest : List Oper} {o : Oper} {a : Act} {Q : Exit → Act → World → Prop}
theorem semAt_not (ro : Option Nat) {o : Oper} {ρ : Operand → Value} (h : ∀ c, o.op ≠ .defer c) : Oper.semAt ro ρ o = execOp ρ o := Oper.semAt_eq ro ρ o h
theorem wli_store (hgd : o.guard = none) (ty : TypeId) (x y : Operand) (ho : o.op = .store ty x y) (g : Nat) (hx : a.eval x = .pointer (some ⟨g, 0, none⟩)) (v : Value) (hy : a.eval y = v)
  (hs : (storeVar ty ⟨g, 0, none⟩ v).run P w = .ok () w') (h : wpListIn F n P ops Q rest (a.put o.dst undef) w') : wpListIn F n P ops Q (o :: rest) a w :=
 wpListIn_plain hgd fun K hK => by
  refine ⟨fun f hf => by simp [Oper.about, ho] at hf, ?_⟩
  rw [semAt_not _ (fun c e => by rw [ho] at e; cases e)]
  unfold execOp
  simp only [ho, hx, hy, Instr.storeAt, Instr.sureAddr, Sem.run_bind, Sem.run_pure, Result.andThen_ok, hs]
  exact hK _ _ h
theorem grown_of_below (h : Below w.heap.size w w') : w.grownBy w' none := ⟨h.1, h.2, h.3, h.4, fun k hk _ => h.5 k hk⟩
end
end Go.Proofs.YtkaipknkjocfiaaGreat
