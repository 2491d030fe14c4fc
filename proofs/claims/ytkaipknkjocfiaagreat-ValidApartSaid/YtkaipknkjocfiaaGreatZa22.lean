import Derived.RangeFuncNested
import Derived.RangeFuncBound
import Derived.RangeFuncCalls
import Derived.RangeFuncLeaves
import Derived.TacticsInMore
import Derived.OrdersIn
import Derived.Shelf.Abstract
import Derived.Shelf.RegionOpen
import Derived.WalkKit
import Derived.OwnWalkIn
import Derived.BigFrameIn
import Derived.LoopNIn
import Derived.LoopIn
import Derived.Test.YtkaipknkjocfiaaGreatZa21
namespace Go.Proofs.YtkaipknkjocfiaaGreat
open Go.RowKit Go.Shelf Go.Lib Go.Sort Go.Proofs
abbrev OwnR (w : World) (base : Nat) (v : Value) (l : List Rk) : Prop := OwnE 145 6 rkE w base v l
theorem enc6_get (x : Rk) (i : Nat) (h : i < 6) : (enc6 x)[i]! = rkE x i := by
 rcases (by omega : i = 0 ∨ i = 1 ∨ i = 2 ∨ i = 3 ∨ i = 4 ∨ i = 5) with rfl | rfl | rfl | rfl | rfl | rfl <;> rfl
theorem flat_rk (l : List Rk) : (flatK enc6 6 l.toArray).toList = cellsE 6 rkE l := by
 apply List.ext_getElem?
 intro j
 by_cases hj : j < l.length * 6
 · have h1 : j / 6 < l.length := by omega
   have g := cellsE_get (n := 6) (enc := rkE) l (j / 6) h1 (j % 6) (by omega)
   rw [show j / 6 * 6 + j % 6 = j by omega] at g
   have e : (flatK enc6 6 l.toArray).toList[j]? = some (enc6 l[j / 6])[j % 6]! := by
    have := get_flatK enc6 6 l.toArray j (by simpa using hj)
    rw [Array.getElem?_toList, Array.getElem?_eq_getElem (by simpa using hj), ← getElem!_pos (flatK enc6 6 l.toArray) j (by simpa using hj), this]
    simp [h1]
   rw [e, g, enc6_get _ _ (by omega)]
 · rw [List.getElem?_eq_none (by simpa using hj), List.getElem?_eq_none (by rw [cellsE_length]; omega)]
theorem holds_rk {w : World} {g : Nat} {cur : Array Value} {l : List Rk} (hb : w.heap[g]? = some (.cells cur 145 (0, 0))) (ht : cur.toList.take (l.length * 6) = cellsE 6 rkE l) : HoldsK enc6 6 w g 0 l.toArray := by
 intro j hj
 have hj' : j < l.length * 6 := by simpa using hj
 refine ⟨?_, by simp [World.frozen?, hb]⟩
 have h1 : (cur.toList.take (l.length * 6))[j]? = (flatK enc6 6 l.toArray).toList[j]? := by rw [ht, flat_rk]
 rw [List.getElem?_take_of_lt hj'] at h1
 simp only [World.cell?, hb, Nat.zero_add]
 simp only [Option.isSome_none, Bool.false_eq_true, if_false]
 rw [← Array.getElem?_toList, h1, Array.getElem?_toList, Array.getElem?_eq_getElem hj, ← getElem!_pos (flatK enc6 6 l.toArray) j hj]
 rfl
theorem heap_put {w : World} {g n : Nat} {os : Array Obj} {cur : Array Value} {e : TypeId} {fr : Nat × Nat} (F : Array Value) (hb : w.heap[g]? = some (.cells cur e fr)) :
  (grow (putRow id (Sort.ahead w n) g 0 F) os).heap[g]? = some (.cells (putCells id 0 F cur) e fr) := by
 have hg : g < w.heap.size := (Array.getElem?_eq_some_iff.1 hb).1
 rw [heap_grow_old _ _ (by simpa using hg)]
 simp [putRow, mapBlock, Sort.ahead, Array.getElem?_modify, hb, onCells]
theorem take_put (cur F : Array Value) (h : F.size ≤ cur.size) : (putCells id 0 F cur).toList.take F.size = F.toList := by
 apply List.ext_getElem?
 intro j
 by_cases hj : j < F.size
 · rw [List.getElem?_take_of_lt hj, Array.getElem?_toList]
   simp [putCells, hj, show j < cur.size by omega]
 · rw [List.getElem?_take_eq_none (by omega), List.getElem?_eq_none (by simp; omega)]
theorem below_put {w : World} {g n B : Nat} {os : Array Obj} (F : Array Value) (hB : B ≤ g) (hBw : B ≤ w.heap.size) : Below B w (grow (putRow id (Sort.ahead w n) g 0 F) os) := by
 refine ⟨rfl, rfl, rfl, by simp, fun k hk => ?_⟩
 rw [heap_grow_old _ _ (by simp; omega)]
 have : g ≠ k := by omega
 simp [putRow, mapBlock, Sort.ahead, Array.getElem?_modify, this]
theorem other_put {w : World} {g n k : Nat} {os : Array Obj} (F : Array Value) (hk : k < w.heap.size) (hne : k ≠ g) : (grow (putRow id (Sort.ahead w n) g 0 F) os).heap[k]? = w.heap[k]? := by
 rw [heap_grow_old _ _ (by simpa using hk)]
 simp [putRow, mapBlock, Sort.ahead, Array.getElem?_modify, show g ≠ k from fun e => hne e.symm]
theorem ltB_iff (x y : Rk) : ltOf ltB x y = decide (x.m.ipa < y.m.ipa ∨ (x.m.ipa = y.m.ipa ∧ x.r < y.r)) := by
 unfold ltOf ltB orN cmpN
 apply decide_eq_decide.2
 repeat' split
 all_goals omega
theorem swoB : SWO (ltOf ltB) where
 irrefl x := by rw [ltB_iff]; simp
 trans x y z h1 h2 := by rw [ltB_iff] at *; simp only [decide_eq_true_eq] at *; omega
 ntrans x y z h1 h2 := by rw [ltB_iff] at *; simp only [decide_eq_false_iff_not] at *; omega
def SortR (l : List Rk) : Prop := l.Pairwise fun x y => x.m.ipa ≤ y.m.ipa
theorem sorted_of {d d' : Array Rk} (h : MergeP (ltOf ltB) d d' 0 d.size) : d'.toList.Perm d.toList ∧ SortR d'.toList := by
 obtain ⟨⟨h1, _, h3⟩, hs⟩ := h
 refine ⟨?_, ?_⟩
 · have e1 : (d'.extract 0 d.size).toList = d'.toList := by rw [← h1]; simp
   have e2 : (d.extract 0 d.size).toList = d.toList := by simp
   rwa [e1, e2] at h3
 · unfold SortR
   rw [List.pairwise_iff_getElem]
   intro i j hi hj hij
   have := hs i j (Nat.zero_le _) hij (by rw [← h1]; simpa using hj)
   rw [ltB_iff, getElem!_pos d' i (by simpa using hi), getElem!_pos d' j (by simpa using hj)] at this
   simp only [decide_eq_false_iff_not] at this
   simp only [Array.getElem_toList]
   omega
set_option maxHeartbeats 1000000 in
theorem sortRk_any (l : List Rk) (base : Nat) (v : Value) (hlen : l.length ≤ 1000000) (w : World) (hbw : base ≤ w.heap.size) (hv : OwnR w base v l) :
   Calls Tryz.prog 136 #[v, .func (.func 137) #[] #[]] w fun e w' => e = .returned (.tuple #[]) ∧ ∃ r : List Rk, r.Perm l ∧ SortR r ∧ OwnR w' base v r ∧ Below base w w' ∧ ∀ k, k < w.heap.size → some k ≠ v.ownBlock → w'.heap[k]? = w.heap[k]? := by
 rcases hv.2 with ⟨rfl, h0⟩ | ⟨g, cap, cur, rfl, hbase, hh, hle, hcap, hsz, ht⟩
 · obtain rfl : l = [] := List.eq_nil_of_length_eq_zero h0
   refine (sortStable_none 0 (.func (.func 137) #[] #[]) w).mono ?_
   rintro e w' ⟨rfl, rfl⟩
   exact ⟨rfl, [], List.Perm.refl _, List.Pairwise.nil, hv, Below.refl _ _, fun _ _ _ => rfl⟩
 · have eg : ∀ args w, (callFunc 137 args).run Tryz.prog w = .ok (.enter 137 args) w := enters_of Tryz.func137 (by kernel_rfl) rfl
   have R : RowK enc6 6 w g 0 l.toArray := ⟨fun _ => rfl, fun x v hv => by simp at hv; rcases hv with rfl | rfl | rfl | rfl | rfl | rfl <;> rfl, holds_rk hh ht, (Array.getElem?_eq_some_iff.1 hh).1⟩
   have hcon := sortStable_k 6 Tryz.sizeOf145 enc6 ltB swoB 137 #[] g 0 cap l.toArray w eg (fun _ _ _ _ x y => before_any x y _) R (by simp; omega)
   refine Calls.mono (P := Tryz.prog) hcon ?_
   rintro e w' ⟨rfl, d', hm, n, os, rfl⟩
   obtain ⟨hp, hs⟩ := sorted_of hm
   have hl : d'.toList.length = l.length := by have := hm.size; simpa using this
   refine ⟨rfl, d'.toList, by simpa using hp, hs, ?_, below_put _ hbase hbw, fun k hk hne => other_put _ hk fun e => hne (by rw [e]; rfl)⟩
   refine ⟨by rw [cellsE_length], .inr ⟨g, cap, _, by rw [hl], hbase, heap_put _ hh, by omega, hcap, by simp [putCells, hsz], ?_⟩⟩
   have hF : (flatK enc6 6 d').size = d'.toList.length * 6 := by simp
   rw [← hF, take_put _ _ (by rw [hF, hsz]; omega)]
   have := flat_rk d'.toList
   simpa using this
end Go.Proofs.YtkaipknkjocfiaaGreat
namespace Go.Proofs.YtkaipknkjocfiaaGreat
open Go.RowKit
attribute [local go_sem ↓ high] zeroSp zeroMp
theorem goodE (x : Sp) (hx : fit x) (w : World) : Calls Tryz.prog 106 #[.agg (vec 2 (spE x))] w (EqV (good x) w) := good_bel x.1 x.2 hx w
theorem overlapE (x y : Sp) (hx : fit x) (hy : fit y) (w : World) : Calls Tryz.prog 83 #[.agg (vec 2 (spE x)), .agg (vec 2 (spE y))] w (EqV (overlap x y) w) := overlap_any x.1 x.2 y.1 y.2 hx hy w
theorem seen_n (b p s : Nat) (q k : Int) (w : World) : Calls Tryz.prog 135 #[.agg (vec 5 (mpE ⟨(b : Int), (p : Int), (s : Int), q, k⟩))] w fun e w' => e = .returned (.agg (vec 2 (spE (b, s)))) ∧ Below w.heap.size w w' := by
 obtain ⟨g, hg⟩ : ∃ g, g = w.heap.size := ⟨_, rfl⟩
 obtain ⟨h, hh⟩ : ∃ h, h = w.heap.size + 1 := ⟨_, rfl⟩
 obtain ⟨m, hm⟩ : ∃ m : Mp, m = ⟨(b : Int), (p : Int), (s : Int), q, k⟩ := ⟨_, rfl⟩
 obtain ⟨V, hV⟩ : ∃ V, V = (w.alloc (.cells (vec 5 (mpE m)) 87)).alloc (.cells (vec 2 (spE (0, 0))) 24) := ⟨_, rfl⟩
 have k1 : Arr V g 87 5 (mpE m) := by rw [hV, hg]; exact (Arr.new w _ _ _).alloc _
 have k2 : Arr V h 24 2 (spE (0, 0)) := by rw [hV, hh]; exact Arr.newAt _ _ _ _ (by simp)
 have hB : Below w.heap.size w V := by rw [hV]; exact ((Below.refl _ _).alloc (Nat.le_refl _) _).alloc (by simp) _
 have x0 : V.cell? ⟨g, 0, none⟩ = some (.int .u64 (b : Int)) := by have := k1.cell (i := 0) (by decide); rw [hm] at this; exact this
 have x2 : V.cell? ⟨g, 2, none⟩ = some (.int .u64 (s : Int)) := by have := k1.cell (i := 2) (by decide); rw [hm] at this; exact this
 have HV := Lib.hid hV
 have HG := Lib.hid (And.intro hg hh)
 have HB := Lib.hid hB
 have HK := Lib.hid k2
 have HH : Hid (w.heap.size ≤ h) := Lib.hid (by omega)
 rw [← hm]
 clear hV hg hh k1 k2 hB hm
 go_enter Tryz.func135, Tryz.ntmps135
 go_upto_region 1 with fail
 rw [← HV.out, ← HG.out.2, ← HG.out.1]
 clear HV HG
 go_wp2_with (first
  | ((with_reducible show wpList _ _ _ (Oper.mk _ (.build _ _) _ _ _ _ :: _) _ _); refine wl_build rfl 24 _ rfl (vec 2 (spE (b, s))) (by kernel_rfl) ?_)
  | ((with_reducible show wpList _ _ _ (Oper.mk _ (.store _ _ _) _ _ _ _ :: _) _ _); refine wl_store rfl 24 _ _ rfl h rfl _ rfl (run_store_arr HK.out (spE (b, s)) infoSp (spE_one _ _)) ?_))
 refine bodyPost_ret (results_cell1 rfl _ _ _ rfl (run_load_arr (HK.out.row _) Tryz.underlying24 rfl infoSp)) rfl ?_
 exact ⟨rfl, below_row HB.out HH.out _⟩
theorem seen_any (m : Mp) (hm : MpB m) (w : World) : Calls Tryz.prog 135 #[.agg (vec 5 (mpE m))] w fun e w' => e = .returned (.agg (vec 2 (spE (ipaS m)))) ∧ Below w.heap.size w w' := by
 obtain ⟨mi, mp, ms, mq, mk⟩ := m
 obtain ⟨b, rfl⟩ := Int.eq_ofNat_of_zero_le hm.ipa.1
 obtain ⟨p, rfl⟩ := Int.eq_ofNat_of_zero_le hm.pa.1
 obtain ⟨s, rfl⟩ := Int.eq_ofNat_of_zero_le hm.size.1
 exact seen_n b p s mq mk w
theorem physical_n (b p s : Nat) (q k : Int) (w : World) : Calls Tryz.prog 94 #[.agg (vec 5 (mpE ⟨(b : Int), (p : Int), (s : Int), q, k⟩))] w fun e w' => e = .returned (.agg (vec 2 (spE (p, s)))) ∧ Below w.heap.size w w' := by
 obtain ⟨g, hg⟩ : ∃ g, g = w.heap.size := ⟨_, rfl⟩
 obtain ⟨h, hh⟩ : ∃ h, h = w.heap.size + 1 := ⟨_, rfl⟩
 obtain ⟨m, hm⟩ : ∃ m : Mp, m = ⟨(b : Int), (p : Int), (s : Int), q, k⟩ := ⟨_, rfl⟩
 obtain ⟨V, hV⟩ : ∃ V, V = (w.alloc (.cells (vec 5 (mpE m)) 87)).alloc (.cells (vec 2 (spE (0, 0))) 24) := ⟨_, rfl⟩
 have k1 : Arr V g 87 5 (mpE m) := by rw [hV, hg]; exact (Arr.new w _ _ _).alloc _
 have k2 : Arr V h 24 2 (spE (0, 0)) := by rw [hV, hh]; exact Arr.newAt _ _ _ _ (by simp)
 have hB : Below w.heap.size w V := by rw [hV]; exact ((Below.refl _ _).alloc (Nat.le_refl _) _).alloc (by simp) _
 have x0 : V.cell? ⟨g, 1, none⟩ = some (.int .u64 (p : Int)) := by have := k1.cell (i := 1) (by decide); rw [hm] at this; exact this
 have x2 : V.cell? ⟨g, 2, none⟩ = some (.int .u64 (s : Int)) := by have := k1.cell (i := 2) (by decide); rw [hm] at this; exact this
 have HV := Lib.hid hV
 have HG := Lib.hid (And.intro hg hh)
 have HB := Lib.hid hB
 have HK := Lib.hid k2
 have HH : Hid (w.heap.size ≤ h) := Lib.hid (by omega)
 rw [← hm]
 clear hV hg hh k1 k2 hB hm
 go_enter Tryz.func94, Tryz.ntmps94
 go_upto_region 1 with fail
 rw [← HV.out, ← HG.out.2, ← HG.out.1]
 clear HV HG
 go_wp2_with (first
  | ((with_reducible show wpList _ _ _ (Oper.mk _ (.build _ _) _ _ _ _ :: _) _ _); refine wl_build rfl 24 _ rfl (vec 2 (spE (p, s))) (by kernel_rfl) ?_)
  | ((with_reducible show wpList _ _ _ (Oper.mk _ (.store _ _ _) _ _ _ _ :: _) _ _); refine wl_store rfl 24 _ _ rfl h rfl _ rfl (run_store_arr HK.out (spE (p, s)) infoSp (spE_one _ _)) ?_))
 refine bodyPost_ret (results_cell1 rfl _ _ _ rfl (run_load_arr (HK.out.row _) Tryz.underlying24 rfl infoSp)) rfl ?_
 exact ⟨rfl, below_row HB.out HH.out _⟩
theorem physical_any (m : Mp) (hm : MpB m) (w : World) : Calls Tryz.prog 94 #[.agg (vec 5 (mpE m))] w fun e w' => e = .returned (.agg (vec 2 (spE (paS m)))) ∧ Below w.heap.size w w' := by
 obtain ⟨mi, mp, ms, mq, mk⟩ := m
 obtain ⟨b, rfl⟩ := Int.eq_ofNat_of_zero_le hm.ipa.1
 obtain ⟨p, rfl⟩ := Int.eq_ofNat_of_zero_le hm.pa.1
 obtain ⟨s, rfl⟩ := Int.eq_ofNat_of_zero_le hm.size.1
 exact physical_n b p s mq mk w
end Go.Proofs.YtkaipknkjocfiaaGreat
namespace Go.Proofs.YtkaipknkjocfiaaGreat
open Go.RowKit
section
variable {P : Program} {ops : Array Oper} {Q : Exit → Act → World → Prop} {md : Region.Mode} {S : World → Prop} {l n : Nat}
theorem oper_round {o : Oper} {a : Act} {w : World} {K : Act → World → Prop} (hd : ∀ c, o.op ≠ .defer c) (h : o.wp P a w K Q) : o.wpIn (Fence.wide.inRound l) n P a w K Q := by
 refine ⟨fun _ _ => trivial, ?_⟩
 show o.uponIn (Fence.wide.inRound l) n P a K Q ((Oper.semAt (some l) a.eval o).run P w)
 rw [Oper.semAt_some l _ _ hd]
 unfold Oper.wp at h
 generalize (execOp a.eval o).run P w = r at h ⊢
 cases r with
 | ok x w' =>
  cases x with
  | enter f args => exact ⟨fun h => by simp [Fence.wide] at h, callsIn_wide.2 h⟩
  | row rw args => exact ⟨fun h => by simp [Fence.wide] at h, fun c cs _ => let ⟨v, w', r, s⟩ := h c cs; ⟨v, w', r, stepsIn_wide.2 s⟩⟩
  | round l' f tmps assign body => exact h.elim
  | _ => exact h
 | halt x w' => cases x <;> exact h
def noDefer (ops : Array Oper) : Bool := ops.all fun o => match o.op with | .defer _ => false | _ => true
theorem noDefer_at {i : Nat} {o : Oper} (h : noDefer ops = true) (hi : ops[i]? = some o) : ∀ c, o.op ≠ .defer c := fun c e => by
 obtain ⟨hlt, hx⟩ := Array.getElem?_eq_some_iff.1 hi
 have := (Array.all_eq_true.1 h) i hlt
 rw [hx, e] at this
 cases this
theorem any_round (hd : noDefer ops = true) (hq : ¬ LetsOut Q) : ∀ (fuel : Nat) (listed : Array Bool) (a : Act) (w : World), wpAny P md ops Q fuel listed a w → wpAnyIn (Fence.wide.inRound l) n P md ops Q fuel listed a w
 | 0, _, _, _, h => h
 | fuel + 1, listed, a, w, h => ⟨h.1, fun i hi => by
  have h2 := h.2 i hi
  unfold wpOp at h2
  unfold wpOpIn
  cases ho : ops[i]? with
  | none => rw [ho] at h2; exact any_round hd hq fuel _ a w h2
  | some o =>
   rw [ho] at h2
   simp only at h2 ⊢
   by_cases hw : Region.wanted o (yielded ops a.tmps) = true
   · rw [if_pos hw] at h2 ⊢
     exact Oper.wpIn_mono (fun a w h => any_round hd hq fuel _ a w h) (oper_round (noDefer_at hd ho) (h2.resolve_right fun hh => hq hh.2))
   · rw [if_neg hw] at h2 ⊢
     exact ⟨fun _ _ => trivial, any_round hd hq fuel _ _ w h2⟩⟩
theorem wpIn_region_held_drew {id : Nat} {a : Act} {w : World} (hm : P.follows .mixedOrders = true) (hd : noDefer ops = true) (hq : ¬ LetsOut Q) (hS : S w.drew)
  (h : S w.drew → wpAnyH P .any ops Q S ops.size (Array.replicate ops.size false) a w.drew) : (Code.region id ops true).wpIn (Fence.wide.inRound l) n P Q a w :=
 wpIn_region_any hm (any_round hd hq _ _ _ _ (wpAny_of_held _ _ _ _ (h hS)))
end
section
variable {F : Fence} {n : Nat} {P : Program} {w w' : World} {ops : Array Oper} {rest : List Oper} {o : Oper} {a : Act} {Q : Exit → Act → World → Prop}
theorem semAt_not (ro : Option Nat) {o : Oper} {ρ : Operand → Value} (h : ∀ c, o.op ≠ .defer c) : Oper.semAt ro ρ o = execOp ρ o := Oper.semAt_eq ro ρ o h
theorem wli_store (hgd : o.guard = none) (ty : TypeId) (x y : Operand) (ho : o.op = .store ty x y) (g : Nat) (hx : a.eval x = .pointer (some ⟨g, 0, none⟩)) (v : Value) (hy : a.eval y = v)
  (hs : (storeVar ty ⟨g, 0, none⟩ v).run P w = .ok () w') (h : wpListIn F n P ops Q rest (a.put o.dst undef) w') : wpListIn F n P ops Q (o :: rest) a w :=
 wpListIn_plain hgd fun K hK => by
  refine ⟨fun f hf => by simp [Oper.about, ho] at hf, ?_⟩
  rw [semAt_not _ (fun c e => by rw [ho] at e; cases e)]
  unfold execOp
  simp only [ho, hx, hy, Instr.storeAt, Instr.sureAddr, Sem.run_bind, Sem.run_pure, Result.andThen_ok, hs]
  exact hK _ _ h
theorem grown_of_below (h : Below w.heap.size w w') : w.grownBy w' none := ⟨h.1, h.2, h.3, h.4, fun k hk _ => h.5 k hk⟩
end
end Go.Proofs.YtkaipknkjocfiaaGreat
namespace Go.Proofs.YtkaipknkjocfiaaGreat
open Go.RowKit
section
variable {F : Fence} {n : Nat} {P : Program} {w w' : World} {ops : Array Oper} {rest : List Oper} {o : Oper} {a : Act} {Q : Exit → Act → World → Prop}
theorem wli_val (hF : ∀ f, F.fn f) (hw : Region.wanted o (yielded ops a.tmps) = true) (hd : ∀ c, o.op ≠ .defer c) {v : Value} (he : (execOp a.eval o).run P w = .ok (.value v) w')
  (h : wpListIn F n P ops Q rest (a.put o.dst v) w') : wpListIn F n P ops Q (o :: rest) a w :=
 wpListIn_step fun K hK => by
  rw [if_pos hw]
  refine ⟨fun f _ => hF f, ?_⟩
  rw [semAt_not _ hd, he]
  exact hK _ _ h
theorem exec_indexM (ty : TypeId) (x y : Operand) (ho : o.op = .index ty x y) (cs : Array Value) (hx : a.eval x = .agg cs) (z : Int) (hy : a.eval y = .int .i64 z) (v : Value)
  (hr : (Instr.index ty (.agg cs) (.int .i64 z)).run P w = .ok v w) : (execOp a.eval o).run P w = .ok (.value v) w := by
 unfold execOp
 simp only [ho, hx, hy, Sem.run_bind, hr, Result.andThen_ok, Sem.run_pure]
end
theorem wide_fn : ∀ f, Fence.wide.fn f := fun _ => trivial
theorem round_fn (l : Nat) : ∀ f, (Fence.wide.inRound l).fn f := fun _ => trivial
theorem round_in {l l' m n : Nat} {P : Program} {f : FuncId} {tmps : Array Value} {assign body : Code} {w : World} {R : Ending → World → Prop} (h : RoundIn Fence.wide m P l f tmps assign body w R) : RoundIn (Fence.wide.inRound l') n P l f tmps assign body w R :=
 ⟨h.1, fun c cs _ => h.2 c cs (room_wide _)⟩
end Go.Proofs.YtkaipknkjocfiaaGreat
