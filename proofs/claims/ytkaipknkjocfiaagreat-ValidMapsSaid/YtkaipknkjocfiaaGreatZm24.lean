/- Merged: Bs, Fs, In, Ri, Rgo. -/
import Derived.RangeFuncNested
import Derived.RangeFuncBound
import Derived.RangeFuncCalls
import Derived.RangeFuncLeaves
import Derived.TacticsInMore
import Derived.OrdersIn
import Derived.Shelf.Abstract
import Derived.Shelf.RegionOpen
import Derived.WalkKit
import Derived.OwnWalkIn
import Derived.BigFrameIn
import Derived.LoopNIn
import Derived.LoopIn
import Derived.Test.YtkaipknkjocfiaaGreatZm23
import Derived.Test.YtkaipknkjocfiaaGreatZm4
import Derived.Test.YtkaipknkjocfiaaGreatZm16
import Derived.Test.YtkaipknkjocfiaaGreatZm8
import Derived.Test.YtkaipknkjocfiaaGreatZm10
import Derived.Test.YtkaipknkjocfiaaGreatZm0
import Derived.Test.YtkaipknkjocfiaaGreatZm3
import Derived.Test.YtkaipknkjocfiaaGreatProg
namespace Go.Proofs.YtkaipknkjocfiaaGreat
open Go.RowKit Go.Shelf Go.Lib Go.Sort Go.Proofs
abbrev OwnR (w : World) (base : Nat) (v : Value) (l : List Rk) : Prop := OwnE 145 6 rkE w base v l
theorem enc6_get (x : Rk) (i : Nat) (h : i < 6) : (enc6 x)[i]! = rkE x i := by
 rcases (by omega : i = 0 ∨ i = 1 ∨ i = 2 ∨ i = 3 ∨ i = 4 ∨ i = 5) with rfl | rfl | rfl | rfl | rfl | rfl <;> rfl
theorem flat_rk (l : List Rk) : (flatK enc6 6 l.toArray).toList = cellsE 6 rkE l := by
 apply List.ext_getElem?
 intro j
 by_cases hj : j < l.length * 6
 · have h1 : j / 6 < l.length := by omega
   have g := cellsE_get (n := 6) (enc := rkE) l (j / 6) h1 (j % 6) (by omega)
   rw [show j / 6 * 6 + j % 6 = j by omega] at g
   have e : (flatK enc6 6 l.toArray).toList[j]? = some (enc6 l[j / 6])[j % 6]! := by
    have := get_flatK enc6 6 l.toArray j (by simpa using hj)
    rw [Array.getElem?_toList, Array.getElem?_eq_getElem (by simpa using hj), ← getElem!_pos (flatK enc6 6 l.toArray) j (by simpa using hj), this]
    simp [h1]
   rw [e, g, enc6_get _ _ (by omega)]
 · rw [List.getElem?_eq_none (by simpa using hj), List.getElem?_eq_none (by rw [cellsE_length]; omega)]
theorem holds_rk {w : World} {g : Nat} {cur : Array Value} {l : List Rk} (hb : w.heap[g]? = some (.cells cur 145 (0, 0))) (ht : cur.toList.take (l.length * 6) = cellsE 6 rkE l) : HoldsK enc6 6 w g 0 l.toArray := by
 intro j hj
 have hj' : j < l.length * 6 := by simpa using hj
 refine ⟨?_, by simp [World.frozen?, hb]⟩
 have h1 : (cur.toList.take (l.length * 6))[j]? = (flatK enc6 6 l.toArray).toList[j]? := by rw [ht, flat_rk]
 rw [List.getElem?_take_of_lt hj'] at h1
 simp only [World.cell?, hb, Nat.zero_add]
 simp only [Option.isSome_none, Bool.false_eq_true, if_false]
 rw [← Array.getElem?_toList, h1, Array.getElem?_toList, Array.getElem?_eq_getElem hj, ← getElem!_pos (flatK enc6 6 l.toArray) j hj]
 rfl
theorem heap_put {w : World} {g n : Nat} {os : Array Obj} {cur : Array Value} {e : TypeId} {fr : Nat × Nat} (F : Array Value) (hb : w.heap[g]? = some (.cells cur e fr)) :
  (grow (putRow id (Sort.ahead w n) g 0 F) os).heap[g]? = some (.cells (putCells id 0 F cur) e fr) := by
 have hg : g < w.heap.size := (Array.getElem?_eq_some_iff.1 hb).1
 rw [heap_grow_old _ _ (by simpa using hg)]
 simp [putRow, mapBlock, Sort.ahead, Array.getElem?_modify, hb, onCells]
theorem take_put (cur F : Array Value) (h : F.size ≤ cur.size) : (putCells id 0 F cur).toList.take F.size = F.toList := by
 apply List.ext_getElem?
 intro j
 by_cases hj : j < F.size
 · rw [List.getElem?_take_of_lt hj, Array.getElem?_toList]
   simp [putCells, hj, show j < cur.size by omega]
 · rw [List.getElem?_take_eq_none (by omega), List.getElem?_eq_none (by simp; omega)]
theorem below_put {w : World} {g n B : Nat} {os : Array Obj} (F : Array Value) (hB : B ≤ g) (hBw : B ≤ w.heap.size) : Below B w (grow (putRow id (Sort.ahead w n) g 0 F) os) := by
 refine ⟨rfl, rfl, rfl, by simp, fun k hk => ?_⟩
 rw [heap_grow_old _ _ (by simp; omega)]
 have : g ≠ k := by omega
 simp [putRow, mapBlock, Sort.ahead, Array.getElem?_modify, this]
theorem other_put {w : World} {g n k : Nat} {os : Array Obj} (F : Array Value) (hk : k < w.heap.size) (hne : k ≠ g) : (grow (putRow id (Sort.ahead w n) g 0 F) os).heap[k]? = w.heap[k]? := by
 rw [heap_grow_old _ _ (by simpa using hk)]
 simp [putRow, mapBlock, Sort.ahead, Array.getElem?_modify, show g ≠ k from fun e => hne e.symm]
theorem ltB_iff (x y : Rk) : ltOf ltB x y = decide (x.m.ipa < y.m.ipa ∨ (x.m.ipa = y.m.ipa ∧ x.r < y.r)) := by
 unfold ltOf ltB orN cmpN
 apply decide_eq_decide.2
 repeat' split
 all_goals omega
theorem swoB : SWO (ltOf ltB) where
 irrefl x := by rw [ltB_iff]; simp
 trans x y z h1 h2 := by rw [ltB_iff] at *; simp only [decide_eq_true_eq] at *; omega
 ntrans x y z h1 h2 := by rw [ltB_iff] at *; simp only [decide_eq_false_iff_not] at *; omega
def SortR (l : List Rk) : Prop := l.Pairwise fun x y => x.m.ipa ≤ y.m.ipa
theorem sorted_of {d d' : Array Rk} (h : MergeP (ltOf ltB) d d' 0 d.size) : d'.toList.Perm d.toList ∧ SortR d'.toList := by
 obtain ⟨⟨h1, _, h3⟩, hs⟩ := h
 refine ⟨?_, ?_⟩
 · have e1 : (d'.extract 0 d.size).toList = d'.toList := by rw [← h1]; simp
   have e2 : (d.extract 0 d.size).toList = d.toList := by simp
   rwa [e1, e2] at h3
 · unfold SortR
   rw [List.pairwise_iff_getElem]
   intro i j hi hj hij
   have := hs i j (Nat.zero_le _) hij (by rw [← h1]; simpa using hj)
   rw [ltB_iff, getElem!_pos d' i (by simpa using hi), getElem!_pos d' j (by simpa using hj)] at this
   simp only [decide_eq_false_iff_not] at this
   simp only [Array.getElem_toList]
   omega
set_option maxHeartbeats 1000000 in
theorem sortRk_any (l : List Rk) (base : Nat) (v : Value) (hlen : l.length ≤ 1000000) (w : World) (hbw : base ≤ w.heap.size) (hv : OwnR w base v l) :
   Calls Tryz.prog 136 #[v, .func (.func 137) #[] #[]] w fun e w' => e = .returned (.tuple #[]) ∧ ∃ r : List Rk, r.Perm l ∧ SortR r ∧ OwnR w' base v r ∧ Below base w w' ∧ ∀ k, k < w.heap.size → some k ≠ v.ownBlock → w'.heap[k]? = w.heap[k]? := by
 rcases hv.2 with ⟨rfl, h0⟩ | ⟨g, cap, cur, rfl, hbase, hh, hle, hcap, hsz, ht⟩
 · obtain rfl : l = [] := List.eq_nil_of_length_eq_zero h0
   refine (sortStable_none 0 (.func (.func 137) #[] #[]) w).mono ?_
   rintro e w' ⟨rfl, rfl⟩
   exact ⟨rfl, [], List.Perm.refl _, List.Pairwise.nil, hv, Below.refl _ _, fun _ _ _ => rfl⟩
 · have eg : ∀ args w, (callFunc 137 args).run Tryz.prog w = .ok (.enter 137 args) w := enters_of Tryz.func137 (by kernel_rfl) rfl
   have R : RowK enc6 6 w g 0 l.toArray := ⟨fun _ => rfl, fun x v hv => by simp at hv; rcases hv with rfl | rfl | rfl | rfl | rfl | rfl <;> rfl, holds_rk hh ht, (Array.getElem?_eq_some_iff.1 hh).1⟩
   have hcon := sortStable_k 6 Tryz.sizeOf145 enc6 ltB swoB 137 #[] g 0 cap l.toArray w eg (fun _ _ _ _ x y => before_any x y _) R (by simp; omega)
   refine Calls.mono (P := Tryz.prog) hcon ?_
   rintro e w' ⟨rfl, d', hm, n, os, rfl⟩
   obtain ⟨hp, hs⟩ := sorted_of hm
   have hl : d'.toList.length = l.length := by have := hm.size; simpa using this
   refine ⟨rfl, d'.toList, by simpa using hp, hs, ?_, below_put _ hbase hbw, fun k hk hne => other_put _ hk fun e => hne (by rw [e]; rfl)⟩
   refine ⟨by rw [cellsE_length], .inr ⟨g, cap, _, by rw [hl], hbase, heap_put _ hh, by omega, hcap, by simp [putCells, hsz], ?_⟩⟩
   have hF : (flatK enc6 6 d').size = d'.toList.length * 6 := by simp
   rw [← hF, take_put _ _ (by rw [hF, hsz]; omega)]
   have := flat_rk d'.toList
   simpa using this
end Go.Proofs.YtkaipknkjocfiaaGreat
namespace Go.Proofs.YtkaipknkjocfiaaGreat
open Go.RowKit
attribute [local go_sem ↓ high] zeroSp zeroMp
theorem goodE (x : Sp) (hx : fit x) (w : World) : Calls Tryz.prog 106 #[.agg (vec 2 (spE x))] w (EqV (good x) w) := good_bel x.1 x.2 hx w
theorem overlapE (x y : Sp) (hx : fit x) (hy : fit y) (w : World) : Calls Tryz.prog 83 #[.agg (vec 2 (spE x)), .agg (vec 2 (spE y))] w (EqV (overlap x y) w) := overlap_any x.1 x.2 y.1 y.2 hx hy w
theorem seen_n (b p s : Nat) (q k : Int) (w : World) : Calls Tryz.prog 135 #[.agg (vec 5 (mpE ⟨(b : Int), (p : Int), (s : Int), q, k⟩))] w fun e w' => e = .returned (.agg (vec 2 (spE (b, s)))) ∧ Below w.heap.size w w' := by
 obtain ⟨g, hg⟩ : ∃ g, g = w.heap.size := ⟨_, rfl⟩
 obtain ⟨h, hh⟩ : ∃ h, h = w.heap.size + 1 := ⟨_, rfl⟩
 obtain ⟨m, hm⟩ : ∃ m : Mp, m = ⟨(b : Int), (p : Int), (s : Int), q, k⟩ := ⟨_, rfl⟩
 obtain ⟨V, hV⟩ : ∃ V, V = (w.alloc (.cells (vec 5 (mpE m)) 87)).alloc (.cells (vec 2 (spE (0, 0))) 24) := ⟨_, rfl⟩
 have k1 : Arr V g 87 5 (mpE m) := by rw [hV, hg]; exact (Arr.new w _ _ _).alloc _
 have k2 : Arr V h 24 2 (spE (0, 0)) := by rw [hV, hh]; exact Arr.newAt _ _ _ _ (by simp)
 have hB : Below w.heap.size w V := by rw [hV]; exact ((Below.refl _ _).alloc (Nat.le_refl _) _).alloc (by simp) _
 have x0 : V.cell? ⟨g, 0, none⟩ = some (.int .u64 (b : Int)) := by have := k1.cell (i := 0) (by decide); rw [hm] at this; exact this
 have x2 : V.cell? ⟨g, 2, none⟩ = some (.int .u64 (s : Int)) := by have := k1.cell (i := 2) (by decide); rw [hm] at this; exact this
 have HV := Lib.hid hV
 have HG := Lib.hid (And.intro hg hh)
 have HB := Lib.hid hB
 have HK := Lib.hid k2
 have HH : Hid (w.heap.size ≤ h) := Lib.hid (by omega)
 rw [← hm]
 clear hV hg hh k1 k2 hB hm
 go_enter Tryz.func135, Tryz.ntmps135
 go_upto_region 1 with fail
 rw [← HV.out, ← HG.out.2, ← HG.out.1]
 clear HV HG
 go_wp2_with (first
  | ((with_reducible show wpList _ _ _ (Oper.mk _ (.build _ _) _ _ _ _ :: _) _ _); refine wl_build rfl 24 _ rfl (vec 2 (spE (b, s))) (by kernel_rfl) ?_)
  | ((with_reducible show wpList _ _ _ (Oper.mk _ (.store _ _ _) _ _ _ _ :: _) _ _); refine wl_store rfl 24 _ _ rfl h rfl _ rfl (run_store_arr HK.out (spE (b, s)) infoSp (spE_one _ _)) ?_))
 refine bodyPost_ret (results_cell1 rfl _ _ _ rfl (run_load_arr (HK.out.row _) Tryz.underlying24 rfl infoSp)) rfl ?_
 exact ⟨rfl, below_row HB.out HH.out _⟩
theorem seen_any (m : Mp) (hm : MpB m) (w : World) : Calls Tryz.prog 135 #[.agg (vec 5 (mpE m))] w fun e w' => e = .returned (.agg (vec 2 (spE (ipaS m)))) ∧ Below w.heap.size w w' := by
 obtain ⟨mi, mp, ms, mq, mk⟩ := m
 obtain ⟨b, rfl⟩ := Int.eq_ofNat_of_zero_le hm.ipa.1
 obtain ⟨p, rfl⟩ := Int.eq_ofNat_of_zero_le hm.pa.1
 obtain ⟨s, rfl⟩ := Int.eq_ofNat_of_zero_le hm.size.1
 exact seen_n b p s mq mk w
theorem physical_n (b p s : Nat) (q k : Int) (w : World) : Calls Tryz.prog 94 #[.agg (vec 5 (mpE ⟨(b : Int), (p : Int), (s : Int), q, k⟩))] w fun e w' => e = .returned (.agg (vec 2 (spE (p, s)))) ∧ Below w.heap.size w w' := by
 obtain ⟨g, hg⟩ : ∃ g, g = w.heap.size := ⟨_, rfl⟩
 obtain ⟨h, hh⟩ : ∃ h, h = w.heap.size + 1 := ⟨_, rfl⟩
 obtain ⟨m, hm⟩ : ∃ m : Mp, m = ⟨(b : Int), (p : Int), (s : Int), q, k⟩ := ⟨_, rfl⟩
 obtain ⟨V, hV⟩ : ∃ V, V = (w.alloc (.cells (vec 5 (mpE m)) 87)).alloc (.cells (vec 2 (spE (0, 0))) 24) := ⟨_, rfl⟩
 have k1 : Arr V g 87 5 (mpE m) := by rw [hV, hg]; exact (Arr.new w _ _ _).alloc _
 have k2 : Arr V h 24 2 (spE (0, 0)) := by rw [hV, hh]; exact Arr.newAt _ _ _ _ (by simp)
 have hB : Below w.heap.size w V := by rw [hV]; exact ((Below.refl _ _).alloc (Nat.le_refl _) _).alloc (by simp) _
 have x0 : V.cell? ⟨g, 1, none⟩ = some (.int .u64 (p : Int)) := by have := k1.cell (i := 1) (by decide); rw [hm] at this; exact this
 have x2 : V.cell? ⟨g, 2, none⟩ = some (.int .u64 (s : Int)) := by have := k1.cell (i := 2) (by decide); rw [hm] at this; exact this
 have HV := Lib.hid hV
 have HG := Lib.hid (And.intro hg hh)
 have HB := Lib.hid hB
 have HK := Lib.hid k2
 have HH : Hid (w.heap.size ≤ h) := Lib.hid (by omega)
 rw [← hm]
 clear hV hg hh k1 k2 hB hm
 go_enter Tryz.func94, Tryz.ntmps94
 go_upto_region 1 with fail
 rw [← HV.out, ← HG.out.2, ← HG.out.1]
 clear HV HG
 go_wp2_with (first
  | ((with_reducible show wpList _ _ _ (Oper.mk _ (.build _ _) _ _ _ _ :: _) _ _); refine wl_build rfl 24 _ rfl (vec 2 (spE (p, s))) (by kernel_rfl) ?_)
  | ((with_reducible show wpList _ _ _ (Oper.mk _ (.store _ _ _) _ _ _ _ :: _) _ _); refine wl_store rfl 24 _ _ rfl h rfl _ rfl (run_store_arr HK.out (spE (p, s)) infoSp (spE_one _ _)) ?_))
 refine bodyPost_ret (results_cell1 rfl _ _ _ rfl (run_load_arr (HK.out.row _) Tryz.underlying24 rfl infoSp)) rfl ?_
 exact ⟨rfl, below_row HB.out HH.out _⟩
theorem physical_any (m : Mp) (hm : MpB m) (w : World) : Calls Tryz.prog 94 #[.agg (vec 5 (mpE m))] w fun e w' => e = .returned (.agg (vec 2 (spE (paS m)))) ∧ Below w.heap.size w w' := by
 obtain ⟨mi, mp, ms, mq, mk⟩ := m
 obtain ⟨b, rfl⟩ := Int.eq_ofNat_of_zero_le hm.ipa.1
 obtain ⟨p, rfl⟩ := Int.eq_ofNat_of_zero_le hm.pa.1
 obtain ⟨s, rfl⟩ := Int.eq_ofNat_of_zero_le hm.size.1
 exact physical_n b p s mq mk w
end Go.Proofs.YtkaipknkjocfiaaGreat
namespace Go.Proofs.YtkaipknkjocfiaaGreat
open Go.RowKit
section
variable {P : Program} {ops : Array Oper} {Q : Exit → Act → World → Prop} {md : Region.Mode} {S : World → Prop} {l n : Nat}
theorem oper_round {o : Oper} {a : Act} {w : World} {K : Act → World → Prop} (hd : ∀ c, o.op ≠ .defer c) (h : o.wp P a w K Q) : o.wpIn (Fence.wide.inRound l) n P a w K Q := by
 refine ⟨fun _ _ => trivial, ?_⟩
 show o.uponIn (Fence.wide.inRound l) n P a K Q ((Oper.semAt (some l) a.eval o).run P w)
 rw [Oper.semAt_some l _ _ hd]
 unfold Oper.wp at h
 generalize (execOp a.eval o).run P w = r at h ⊢
 cases r with
 | ok x w' =>
  cases x with
  | enter f args => exact ⟨fun h => by simp [Fence.wide] at h, callsIn_wide.2 h⟩
  | row rw args => exact ⟨fun h => by simp [Fence.wide] at h, fun c cs _ => let ⟨v, w', r, s⟩ := h c cs; ⟨v, w', r, stepsIn_wide.2 s⟩⟩
  | round l' f tmps assign body => exact h.elim
  | _ => exact h
 | halt x w' => cases x <;> exact h
def noDefer (ops : Array Oper) : Bool := ops.all fun o => match o.op with | .defer _ => false | _ => true
theorem noDefer_at {i : Nat} {o : Oper} (h : noDefer ops = true) (hi : ops[i]? = some o) : ∀ c, o.op ≠ .defer c := fun c e => by
 obtain ⟨hlt, hx⟩ := Array.getElem?_eq_some_iff.1 hi
 have := (Array.all_eq_true.1 h) i hlt
 rw [hx, e] at this
 cases this
theorem any_round (hd : noDefer ops = true) (hq : ¬ LetsOut Q) : ∀ (fuel : Nat) (listed : Array Bool) (a : Act) (w : World), wpAny P md ops Q fuel listed a w → wpAnyIn (Fence.wide.inRound l) n P md ops Q fuel listed a w
 | 0, _, _, _, h => h
 | fuel + 1, listed, a, w, h => ⟨h.1, fun i hi => by
  have h2 := h.2 i hi
  unfold wpOp at h2
  unfold wpOpIn
  cases ho : ops[i]? with
  | none => rw [ho] at h2; exact any_round hd hq fuel _ a w h2
  | some o =>
   rw [ho] at h2
   simp only at h2 ⊢
   by_cases hw : Region.wanted o (yielded ops a.tmps) = true
   · rw [if_pos hw] at h2 ⊢
     exact Oper.wpIn_mono (fun a w h => any_round hd hq fuel _ a w h) (oper_round (noDefer_at hd ho) (h2.resolve_right fun hh => hq hh.2))
   · rw [if_neg hw] at h2 ⊢
     exact ⟨fun _ _ => trivial, any_round hd hq fuel _ _ w h2⟩⟩
theorem wpIn_region_held_drew {id : Nat} {a : Act} {w : World} (hm : P.follows .mixedOrders = true) (hd : noDefer ops = true) (hq : ¬ LetsOut Q) (hS : S w.drew)
  (h : S w.drew → wpAnyH P .any ops Q S ops.size (Array.replicate ops.size false) a w.drew) : (Code.region id ops true).wpIn (Fence.wide.inRound l) n P Q a w :=
 wpIn_region_any hm (any_round hd hq _ _ _ _ (wpAny_of_held _ _ _ _ (h hS)))
end
section
variable {F : Fence} {n : Nat} {P : Program} {w w' : World} {ops : Array Oper} {rest : List Oper} {o : Oper} {a : Act} {Q : Exit → Act → World → Prop}
theorem semAt_not (ro : Option Nat) {o : Oper} {ρ : Operand → Value} (h : ∀ c, o.op ≠ .defer c) : Oper.semAt ro ρ o = execOp ρ o := Oper.semAt_eq ro ρ o h
theorem wli_store (hgd : o.guard = none) (ty : TypeId) (x y : Operand) (ho : o.op = .store ty x y) (g : Nat) (hx : a.eval x = .pointer (some ⟨g, 0, none⟩)) (v : Value) (hy : a.eval y = v)
  (hs : (storeVar ty ⟨g, 0, none⟩ v).run P w = .ok () w') (h : wpListIn F n P ops Q rest (a.put o.dst undef) w') : wpListIn F n P ops Q (o :: rest) a w :=
 wpListIn_plain hgd fun K hK => by
  refine ⟨fun f hf => by simp [Oper.about, ho] at hf, ?_⟩
  rw [semAt_not _ (fun c e => by rw [ho] at e; cases e)]
  unfold execOp
  simp only [ho, hx, hy, Instr.storeAt, Instr.sureAddr, Sem.run_bind, Sem.run_pure, Result.andThen_ok, hs]
  exact hK _ _ h
theorem grown_of_below (h : Below w.heap.size w w') : w.grownBy w' none := ⟨h.1, h.2, h.3, h.4, fun k hk _ => h.5 k hk⟩
end
end Go.Proofs.YtkaipknkjocfiaaGreat
namespace Go.Proofs.YtkaipknkjocfiaaGreat
open Go.RowKit
section
variable {F : Fence} {n : Nat} {P : Program} {w w' : World} {ops : Array Oper} {rest : List Oper} {o : Oper} {a : Act} {Q : Exit → Act → World → Prop}
theorem wli_val (hF : ∀ f, F.fn f) (hw : Region.wanted o (yielded ops a.tmps) = true) (hd : ∀ c, o.op ≠ .defer c) {v : Value} (he : (execOp a.eval o).run P w = .ok (.value v) w')
  (h : wpListIn F n P ops Q rest (a.put o.dst v) w') : wpListIn F n P ops Q (o :: rest) a w :=
 wpListIn_step fun K hK => by
  rw [if_pos hw]
  refine ⟨fun f _ => hF f, ?_⟩
  rw [semAt_not _ hd, he]
  exact hK _ _ h
theorem exec_indexM (ty : TypeId) (x y : Operand) (ho : o.op = .index ty x y) (cs : Array Value) (hx : a.eval x = .agg cs) (z : Int) (hy : a.eval y = .int .i64 z) (v : Value)
  (hr : (Instr.index ty (.agg cs) (.int .i64 z)).run P w = .ok v w) : (execOp a.eval o).run P w = .ok (.value v) w := by
 unfold execOp
 simp only [ho, hx, hy, Sem.run_bind, hr, Result.andThen_ok, Sem.run_pure]
end
theorem wide_fn : ∀ f, Fence.wide.fn f := fun _ => trivial
theorem round_fn (l : Nat) : ∀ f, (Fence.wide.inRound l).fn f := fun _ => trivial
theorem round_in {l l' m n : Nat} {P : Program} {f : FuncId} {tmps : Array Value} {assign body : Code} {w : World} {R : Ending → World → Prop} (h : RoundIn Fence.wide m P l f tmps assign body w R) : RoundIn (Fence.wide.inRound l') n P l f tmps assign body w R :=
 ⟨h.1, fun c cs _ => h.2 c cs (room_wide _)⟩
end Go.Proofs.YtkaipknkjocfiaaGreat
namespace Go.Proofs.YtkaipknkjocfiaaGreat
open Go.RowKit
section
variable {P : Program} {α : Type}
def SeqOwn (n : Nat) (P : Program) (g : Nat) (lb : Array Value) (encs : α → Array Value) (Kp : Nat → World → World → Prop) (S Sp : List α → Prop) (N : Nat) (w : World) : Prop :=
 ∀ (l : Nat) (J Jx : List α → World → Prop) (W : World), Below w.heap.size w W → OwnFrom W.heap.size J → OwnFrom W.heap.size Jx →
  (∀ pre x W1, J pre W1 → pre.length < N → YieldAt Fence.wide (n - 1) P l (encs x) W1 fun e W' =>
   (e = .returned (.bool true) ∧ J (pre ++ [x]) W' ∧ Kp W.heap.size W1 W') ∨ (e = .returned (.bool false) ∧ Jx (pre ++ [x]) W' ∧ KeepsFrom W.heap.size W1 W')) →
  J [] W → CallsIn Fence.wide n P g (#[.func (.yield l) #[] #[]] ++ lb) W fun e W' => (∃ v, e = .returned v) ∧ ((∃ xs, S xs ∧ J xs W') ∨ ∃ pre, Sp pre ∧ Jx pre W')
theorem keepsFrom_put {B : Nat} {W : World} {l : Nat} {o' : Obj} (hl : l < B) : KeepsFrom B W (W.putObj l o') :=
 ⟨(grownBy_putObj' W l o').size, fun k _ hk ho _ => (World.putObj_heap_other (by omega)).trans ho⟩
theorem keepsFrom_up {B B' : Nat} {W W' : World} (h : KeepsFrom B W W') (hB : B ≤ B') : KeepsFrom B' W W' := ⟨h.size, fun k o hk ho hc => h.same k o (Nat.le_trans hB hk) ho hc⟩
set_option maxHeartbeats 1000000 in
theorem range_own {g : Operand} {ps : Array Tmp} {assign body : Code} {Q : Exit → Act → World → Prop} {a : Act} {w : World} {n : Nat} (h1 : 1 ≤ n)
   {gf : Nat} {lb : Array Value} (hg : a.eval g = .func (.func gf) #[] lb) (eg : ∀ args w, (callFunc gf args).run P w = .ok (.enter gf args) w)
   {encs : α → Array Value} {Kp : Nat → World → World → Prop} {S Sp : List α → Prop} {N : Nat} {w0 : World} (hseq : SeqOwn (n - 1) P gf lb encs Kp S Sp N w0)
   (hKt : ∀ {A B C : World}, Kp (w.heap.size + 2) A B → Kp (w.heap.size + 2) B C → Kp (w.heap.size + 2) A C)
   (hKb : ∀ (W : World) (l : Nat) (o o' : Obj), w.heap.size ≤ l → l < w.heap.size + 2 → W.heap[l]? = some o → o.isCells = false → Kp (w.heap.size + 2) W (W.putObj l o'))
   (hb0 : Below w0.heap.size w0 w) (hps : ∀ x, (encs x).size = ps.size)
   (I : List α → World → Prop) (Ix : Code → List α → World → Prop) (hI : OwnFrom w.heap.size I) (hIx : ∀ c, OwnFrom w.heap.size (Ix c)) (h0 : I [] w) (Ax : α → Act → World → Prop) (hAx : ∀ x a', OwnFrom w.heap.size (fun (_ : Unit) W => Ax x a' W))
   (hassign : ∀ (l : Nat) (pre : List α) (x : α) (W : World) (K : Act → World → Prop), I pre W → (∀ a' W', KeepsFrom w.heap.size W W' → Kp (w.heap.size + 2) W W' → I pre W' → Ax x a' W' → K a' W') →
     assign.wpIn (Fence.wide.inRound l) (n - 1 - 1) P (Exit.then K (fun _ _ _ => False)) { tmps := (ps.zip (encs x)).foldl (fun t (p, v) => t.setIfInBounds p v) a.tmps, defers := [] } W)
   (hbody : ∀ (l : Nat) (pre : List α) (x : α) (a' : Act) (W : World), w.heap.size ≤ l → I pre W → Ax x a' W → pre.length < N → body.wpIn (Fence.wide.inRound l) (n - 1 - 1) P (ownPostG w.heap.size (Kp (w.heap.size + 2)) I Ix (pre ++ [x]) W) a' W)
   (hdone : ∀ (D : Nat) (xs : List α) (W : World), w.heap.size ≤ D → S xs → I xs W → W.heap[D]? = some (.deferred (some [])) → Q .normal { a with defers := { target := .collected D, args := #[] } :: a.defers } W)
   (hstop : ∀ (D : Nat) (c : Code) (pre : List α) (W : World), w.heap.size ≤ D → Sp pre → Ix c pre W → W.heap[D]? = some (.deferred (some [])) → c.wpIn Fence.wide n P Q { a with defers := { target := .collected D, args := #[] } :: a.defers } W) :
   (Code.rangeFunc g ps assign body).wpIn Fence.wide n P Q a w := by
 refine wpIn_rangeFunc fun fn hfn => ?_
 obtain ⟨R, hR⟩ : ∃ R : LoopState → Option Code → Loop, R = fun st pe => { state := st, pending := pe, fn, tmps := a.tmps, params := ps, assign, body, defers := w.heap.size } := ⟨_, rfl⟩
 have hbusy : ∀ st pe, { R st pe with state := .busy } = R .busy pe := fun _ _ => by rw [hR]
 have ps' : ∀ st pe, (R st pe).params = ps := fun _ _ => by rw [hR]
 obtain ⟨W1, hW1⟩ : ∃ W1, W1 = (w.alloc (.deferred (some []))).alloc (.loop (R .ready none)) := ⟨_, rfl⟩
 have hs1 : W1.heap.size = w.heap.size + 2 := by rw [hW1]; simp
 have hL1 : W1.heap[w.heap.size + 1]? = some (.loop (R .ready none)) := by
   have := World.alloc_heap_new (w.alloc (.deferred (some []))) (.loop (R .ready none))
   rw [World.size_alloc] at this
   rw [hW1]; exact this
 have hK1 : W1.heap[w.heap.size]? = some (.deferred (some [])) := by
   rw [hW1]; exact (Below.heap_alloc _ _ _ (by simp)).trans (World.alloc_heap_new w _)
 have hI1 : I [] W1 := by rw [hW1]; exact hI.alloc _ (hI.alloc _ h0)
 have hb1 : Below w0.heap.size w0 W1 := hb0.trans (by rw [hW1]; exact (((Below.refl _ w).alloc (Nat.le_refl _) _).alloc (by simp) _).mono hb0.size)
 refine ⟨w.heap.size + 1, [{ target := .collected w.heap.size, args := #[] }], W1, { target := .fn (.func gf) lb, args := #[.func (.yield (w.heap.size + 1)) #[] #[]] }, W1, gf, #[.func (.yield (w.heap.size + 1)) #[] #[]] ++ lb, W1, ?_, ?_, ?_, ?_, fun _ => h1, ?_⟩
 · rw [hW1, hR]; exact run_enterLoop_outer _ _ _ _ _
 · simp only [resolve, hg]
   simp [go_sem]
 · intro f' _; exact trivial
 · simp [invoke, go_sem, eg]
 have hput : ∀ {A B : World} {row : Option Nat}, (∀ r, row = some r → W1.heap.size ≤ r ∧ ∃ o : Obj, A.heap[r]? = some o ∧ o.isCells = false) → A.grownBy B row → ∀ {k : Nat} {o : Obj}, k < W1.heap.size → A.heap[k]? = some o → B.heap[k]? = some o :=
   fun hr hg' k _ hlt hk => (hg'.block k (Array.getElem?_eq_some_iff.1 hk).1 (fun e => by have := (hr k e.symm).1; omega)).trans hk
 have hlow : ∀ {A : World} {row : Option Nat}, (∀ r, row = some r → W1.heap.size ≤ r ∧ ∃ o : Obj, A.heap[r]? = some o ∧ o.isCells = false) → (∀ r, row = some r → w.heap.size ≤ r ∧ ∃ o : Obj, A.heap[r]? = some o ∧ o.isCells = false) :=
   fun hr r e => ⟨by have := (hr r e).1; omega, (hr r e).2⟩
 refine (hseq (w.heap.size + 1)
   (fun pre W => I pre W ∧ W.heap[w.heap.size + 1]? = some (.loop (R .ready none)) ∧ W.heap[w.heap.size]? = some (.deferred (some [])))
   (fun pre W => ∃ c, Ix c pre W ∧ W.heap[w.heap.size + 1]? = some (.loop (R .done (some c))) ∧ W.heap[w.heap.size]? = some (.deferred (some []))) W1 hb1
   (fun s A B row hs hg' hr => ⟨hI s A B row hs.1 hg' (hlow hr), hput hr hg' (by omega) hs.2.1, hput hr hg' (by omega) hs.2.2⟩)
   (fun s A B row hs hg' hr => by
     obtain ⟨c, hc, hl, hk⟩ := hs
     exact ⟨c, hIx c s A B row hc hg' (hlow hr), hput hr hg' (by omega) hl, hput hr hg' (by omega) hk⟩)
   ?_ ⟨hI1, hL1, hK1⟩).mono ?_
 · rintro pre x W ⟨hi, hl, hk⟩ hlen
   rw [hs1]
   have hy := run_yield (P := P) (args := encs x) hl (by rw [ps']; exact hps x)
   rw [hR] at hy
   refine ⟨fn, _, assign, body, hy, roundIn_of_wpIn hfn (hassign _ pre x W _ hi ?_)⟩
   clear hy
   intro a' Wa hkfa hkpa hia hax
   have hla := hkfa.same _ _ (by omega) hl rfl
   have hka := hkfa.same _ _ (Nat.le_refl _) hk rfl
   have hlt : w.heap.size + 1 < Wa.heap.size := (Array.getElem?_eq_some_iff.1 hla).1
   obtain ⟨W2, hW2⟩ : ∃ W2, W2 = Wa.putObj (w.heap.size + 1) (.loop (R .busy none)) := ⟨_, rfl⟩
   have hbeg := run_beginRound (P := P) hla (by rw [hR])
   rw [hbusy, ← hW2] at hbeg
   have hl2 : W2.heap[w.heap.size + 1]? = some (.loop (R .busy none)) := by rw [hW2]; exact World.putObj_heap_same hlt
   have hk2 : W2.heap[w.heap.size]? = some (.deferred (some [])) := by rw [hW2]; exact (World.putObj_heap_other (by omega)).trans hka
   have hi2 : I pre W2 := by rw [hW2]; exact hI.putObj _ hia (by omega) hla rfl
   have hax2 : Ax x a' W2 := by rw [hW2]; exact (hAx x a').putObj (s := ()) _ hax (by omega) hla rfl
   have hw2 : Kp (w.heap.size + 2) W W2 := by rw [hW2]; exact hKt hkpa (hKb _ _ _ _ (by omega) (by omega) hla rfl)
   have hf2 : KeepsFrom (w.heap.size + 2) W W2 := by rw [hW2]; exact (keepsFrom_up hkfa (by omega)).trans (keepsFrom_put (by omega))
   refine ⟨_, hbeg, wpIn_mono (hbody _ pre x a' _ (by omega) hi2 hax2 hlen) ?_⟩
   have fin : ∀ (jump : Option Code) (W3 : World), KeepsFrom w.heap.size W2 W3 →
      (Instr.endRound (w.heap.size + 1) jump).run P W3 = .ok (.bool jump.isNone) (W3.putObj (w.heap.size + 1) (.loop (R (if jump.isNone then .ready else .done) jump))) ∧
      W3.heap[w.heap.size + 1]? = some (.loop (R .busy none)) ∧
      (W3.putObj (w.heap.size + 1) (.loop (R (if jump.isNone then .ready else .done) jump))).heap[w.heap.size + 1]? = some (.loop (R (if jump.isNone then .ready else .done) jump)) ∧
      (W3.putObj (w.heap.size + 1) (.loop (R (if jump.isNone then .ready else .done) jump))).heap[w.heap.size]? = some (.deferred (some [])) ∧
      KeepsFrom (w.heap.size + 2) W (W3.putObj (w.heap.size + 1) (.loop (R (if jump.isNone then .ready else .done) jump))) := fun jump W3 hk3 => by
     have hl3 := hk3.same _ _ (by omega) hl2 rfl
     have hend := run_endRound (P := P) jump hl3
     refine ⟨?_, hl3, World.putObj_heap_same (Array.getElem?_eq_some_iff.1 hl3).1, (World.putObj_heap_other (by omega)).trans (hk3.same _ _ (Nat.le_refl _) hk2 rfl), (hf2.trans (keepsFrom_up hk3 (by omega))).trans (keepsFrom_put (by omega))⟩
     rw [hR] at hend ⊢
     exact hend
   have out : ∀ (c : Code) (W3 : World), KeepsFrom w.heap.size W2 W3 → Ix c (pre ++ [x]) W3 → ∃ v W4, (Instr.endRound (w.heap.size + 1) (some c)).run P W3 = .ok v W4 ∧
      ((Ending.returned v = .returned (.bool true) ∧ (I (pre ++ [x]) W4 ∧ W4.heap[w.heap.size + 1]? = some (.loop (R .ready none)) ∧ W4.heap[w.heap.size]? = some (.deferred (some []))) ∧ Kp (w.heap.size + 2) W W4) ∨
       (Ending.returned v = .returned (.bool false) ∧ (∃ c, Ix c (pre ++ [x]) W4 ∧ W4.heap[w.heap.size + 1]? = some (.loop (R .done (some c))) ∧ W4.heap[w.heap.size]? = some (.deferred (some []))) ∧ KeepsFrom (w.heap.size + 2) W W4)) := fun c W3 hk3 hi3 => by
     obtain ⟨hr, hl3, hl4, hk4, hkf⟩ := fin (some c) W3 hk3
     exact ⟨_, _, hr, .inr ⟨rfl, ⟨c, (hIx _).putObj _ hi3 (by omega) hl3 rfl, hl4, hk4⟩, hkf⟩⟩
   rintro e a3 W3 hp
   cases e with
   | normal =>
     obtain ⟨hk3, hkp3, hi3⟩ := hp
     obtain ⟨hr, hl3, hl4, hk4, -⟩ := fin none W3 hk3
     exact ⟨_, _, hr, .inl ⟨rfl, ⟨hI.putObj _ hi3 (by omega) hl3 rfl, hl4, hk4⟩, hKt (hKt hw2 hkp3) (hKb _ _ _ _ (by omega) (by omega) hl3 rfl)⟩⟩
   | ret => exact out .ret W3 hp.1 hp.2
   | exit id => exact out (.exit id) W3 hp.1 hp.2
   | goto t => exact out (.goto t) W3 hp.1 hp.2
   | panic ch => exact hp.elim
   | outgrown => exact hp.elim
 · rintro e W2 ⟨⟨v, rfl⟩, (⟨xs, hS, hi, hl, hk⟩ | ⟨pre, hSp, c, hi, hl, hk⟩)⟩
   · have hend := run_endLoop (P := P) hl (by rw [hR]; simp)
     have hpe : (R .ready none).pending = none := by rw [hR]
     rw [hpe] at hend
     exact ⟨none, _, hend, hdone _ xs _ (Nat.le_refl _) hS (hI.putObj _ hi (by omega) hl rfl) ((World.putObj_heap_other (by omega)).trans hk)⟩
   · have hend := run_endLoop (P := P) hl (by rw [hR]; simp)
     have hpe : (R .done (some c)).pending = some c := by rw [hR]
     rw [hpe] at hend
     exact ⟨some c, _, hend, hstop _ c pre _ (Nat.le_refl _) hSp ((hIx c).putObj _ hi (by omega) hl rfl) ((World.putObj_heap_other (by omega)).trans hk)⟩
end
def loudT (t : TypeId) : Prop := t = 145 ∨ t = 151 ∨ t = 24 ∨ t = 40
instance (t : TypeId) : Decidable (loudT t) := by unfold loudT; infer_instance
structure KN (n0 B : Nat) (W W' : World) : Prop where
 size : W.heap.size ≤ W'.heap.size
 low : ∀ k, k < n0 → W'.heap[k]? = W.heap[k]?
 cells : ∀ (k : Nat) (cs : Array Value) (t : TypeId) (fr : Nat × Nat), W.heap[k]? = some (.cells cs t fr) → ¬ loudT t → W'.heap[k]? = some (.cells cs t fr)
 others : ∀ (k : Nat) (o : Obj), B ≤ k → W.heap[k]? = some o → o.isCells = false → W'.heap[k]? = some o
theorem KN.refl (n0 B : Nat) (W : World) : KN n0 B W W := ⟨Nat.le_refl _, fun _ _ => rfl, fun _ _ _ _ h _ => h, fun _ _ _ h _ => h⟩
theorem KN.trans {n0 B : Nat} {X Y Z : World} (h : KN n0 B X Y) (k : KN n0 B Y Z) : KN n0 B X Z :=
 ⟨Nat.le_trans h.size k.size, fun i hi => (k.low i hi).trans (h.low i hi), fun i cs t fr hi ht => k.cells i cs t fr (h.cells i cs t fr hi ht) ht, fun i o hB hi ho => k.others i o hB (h.others i o hB hi ho) ho⟩
theorem KN.up {n0 B B' : Nat} {X Y : World} (h : KN n0 B X Y) (hB : B ≤ B') : KN n0 B' X Y := ⟨h.size, h.low, h.cells, fun k o hk => h.others k o (Nat.le_trans hB hk)⟩
theorem KN.put {n0 B : Nat} {W : World} {l : Nat} {o o' : Obj} (h0 : n0 ≤ l) (hB : l < B) (hl : W.heap[l]? = some o) (ho : o.isCells = false) : KN n0 B W (W.putObj l o') :=
 ⟨(grownBy_putObj' W l o').size, fun k hk => World.putObj_heap_other (by omega), fun k cs t fr hk _ => (World.putObj_heap_other (fun e => by subst e; rw [hl] at hk; cases hk; cases ho)).trans hk, fun k _ hk h _ => (World.putObj_heap_other (by omega)).trans h⟩
theorem KN.of_below {n0 B : Nat} {W W' : World} (h : Below W.heap.size W W') (h0 : n0 ≤ W.heap.size) : KN n0 B W W' :=
 ⟨h.size, fun k hk => h.block k (by omega), fun k cs t fr hk _ => (h.block k (Array.getElem?_eq_some_iff.1 hk).1).trans hk, fun k o _ hk _ => (h.block k (Array.getElem?_eq_some_iff.1 hk).1).trans hk⟩
theorem KN.from {n0 B : Nat} {W W' : World} (h : KN n0 B W W') : KeepsFrom B W W' := ⟨h.size, fun k o hB hk ho => h.others k o hB hk ho⟩
end Go.Proofs.YtkaipknkjocfiaaGreat
