import Derived.Test.YtkaipknkjocfiaaGreatZa22
import Derived.Test.YtkaipknkjocfiaaGreatZa23
namespace Go.Proofs.YtkaipknkjocfiaaGreat
open Go.RowKit Go.Shelf
attribute [local go_sem] Oper.semAt_some
attribute [local go_sem ↓ high] zeroCh zeroEn
abbrev MB := { m : Mp // MpB m }
def encM (x : MB) : Array Value := #[.agg (vec 5 (mpE x.1))]
def endsAt (g : Int) (c : Ch) : Nat → List Mp
 | 0 => []
 | 1 => if c.a.guest = g then [enM c c.a] else []
 | _ => chM g c
theorem endsAt_pre (g : Int) (c : Ch) {j : Nat} (hj : j ≤ 2) : endsAt g c j <+: chM g c := by
 match j, hj with
 | 0, _ => exact List.nil_prefix
 | 1, _ => exact List.prefix_append _ _
 | 2, _ => exact List.prefix_refl _
theorem ends_pre (g : Int) (chs : List Ch) {k j : Nat} (hk : k < chs.length) (hj : j ≤ 2) : (chs.take k).flatMap (chM g) ++ endsAt g chs[k] j <+: chs.flatMap (chM g) := by
 have e : chs.flatMap (chM g) = ((chs.take k).flatMap (chM g) ++ chM g chs[k]) ++ (chs.drop (k + 1)).flatMap (chM g) := by
  conv => lhs; rw [← List.take_append_drop (k + 1) chs]
  rw [List.flatMap_append, List.take_succ_eq_append_getElem hk, List.flatMap_append, List.flatMap_singleton]
 rw [e]
 exact ((List.prefix_append_right_inj _).2 (endsAt_pre g _ hj)).trans (List.prefix_append _ _)
theorem ends_next (g : Int) (chs : List Ch) {k : Nat} (hk : k < chs.length) : (chs.take (k + 1)).flatMap (chM g) = (chs.take k).flatMap (chM g) ++ endsAt g chs[k] 2 := by
 rw [List.take_succ_eq_append_getElem hk, List.flatMap_append, List.flatMap_singleton]; rfl
theorem ends_ya {g : Int} {y : Ch} (h : y.a.guest = g) : endsAt g y 1 = endsAt g y 0 ++ [enM y y.a] := if_pos h
theorem ends_na {g : Int} {y : Ch} (h : ¬ y.a.guest = g) : endsAt g y 1 = endsAt g y 0 := if_neg h
theorem ends_yb {g : Int} {y : Ch} (h : y.b.guest = g) : endsAt g y 2 = endsAt g y 1 ++ [enM y y.b] := by show chM g y = (if y.a.guest = g then [enM y y.a] else []) ++ [enM y y.b]; unfold chM; rw [if_pos h]
theorem ends_nb {g : Int} {y : Ch} (h : ¬ y.b.guest = g) : endsAt g y 2 = endsAt g y 1 := by show chM g y = (if y.a.guest = g then [enM y y.a] else []); unfold chM; rw [if_neg h, List.append_nil]
theorem enM_B {c : Ch} {e : En} (hc : ChB c) (he : EnB e) : MpB (enM c e) := ⟨u64BZ he.2.2, u64BZ hc.1, u64BZ hc.2.1⟩
theorem prefix_len {α : Type} {l k : List α} {x : α} (h : l ++ [x] <+: k) : l.length < k.length := by
 have := h.length_le
 rw [List.length_append, List.length_singleton] at this
 omega
theorem KN.blk {n0 B : Nat} {W X : World} {g : Nat} {t : TypeId} {cs : Array Value} (h : KN n0 B W X) (hb : Blk W g t cs) (ht : ¬ loudT t) : Blk X g t cs := h.cells _ _ _ _ hb ht
theorem KN.arr {n0 B n : Nat} {W X : World} {g : Nat} {t : TypeId} {f : Nat → Value} (h : KN n0 B W X) (hb : Arr W g t n f) (ht : ¬ loudT t) : Arr X g t n f := h.cells _ _ _ _ hb ht
theorem KN.row {α : Type} {n0 B n : Nat} {enc : α → Nat → Value} {W X : World} {A : Option Addr} {l : List α} (h : KN n0 B W X) (hr : RowE n enc W n0 A l) : RowE n enc X n0 A l := hr.same fun p hp => by unfold World.cell?; rw [h.low _ hp]
theorem own_below {J : List MB → World → Prop} {W X Y : World} {s : List MB} (hA : OwnFrom W.heap.size J) (h : J s X) (hb : Below X.heap.size X Y) : J s Y := hA _ _ _ none h (grown_of_below hb) (fun r e => by cases e)
theorem ends_any (v : Value) (g : Int) (w : World) (hv : v.oneCell' = true) : Calls Tryz.prog 131 #[v, .int .i64 g] w fun e w' => e = .returned (.func (.func 163) #[] #[.pointer (some ⟨w.heap.size, 0, none⟩), .pointer (some ⟨w.heap.size + 1, 0, none⟩)]) ∧ w' = (w.alloc (.cells #[v] 29)).alloc (.cells #[.int .i64 g] 3) := by
 go_enter Tryz.func131, Tryz.ntmps131
 go_wp2
 go_ret
 exact ⟨rfl, rfl⟩
set_option maxRecDepth 100000 in
set_option maxHeartbeats 4000000 in
theorem ends_seq (n : Nat) (n0 B3 B4 N : Nat) (A2 : Option Addr) (d : Nat) (chs : List Ch) (g : Int) (w : World) (hrow : RowE 8 chE w n0 A2 chs) (hn0 : n0 ≤ w.heap.size)
  (h3 : Blk w B3 29 #[.slice A2 chs.length d]) (h4 : Blk w B4 3 #[.int .i64 g]) (hb : ∀ c ∈ chs, ChB c) (hN : (chs.flatMap (chM g)).length ≤ N) (hl : chs.length ≤ 1000000) :
  SeqOwn n Tryz.prog 163 #[.pointer (some ⟨B3, 0, none⟩), .pointer (some ⟨B4, 0, none⟩)] encM (KN n0) (fun ys => ys.map Subtype.val = chs.flatMap (chM g)) (fun pre => pre.map Subtype.val <+: chs.flatMap (chM g)) N w := by
 intro lp J Jx W hW hA _ hY h0
 have hnW : n0 ≤ W.heap.size := Nat.le_trans hn0 hW.size
 have hrW : RowE 8 chE W n0 A2 chs := hrow.same fun p hp => hW.cell (by omega)
 have s0 := (h3.under hW).cellAt 0 (v := .slice A2 chs.length d) rfl
 have hB4 := h4.under hW
 obtain ⟨M, hM⟩ : ∃ M, M = chs.length := ⟨_, rfl⟩
 have HM := Lib.hid hM
 have hMl : M ≤ 1000000 := by omega
 have HJ := Lib.hid h0
 have HA := Lib.hid hA
 have HY := Lib.hid hY
 have HRW := Lib.hid hrW
 have HB4 := Lib.hid hB4
 have HCB := Lib.hid hb
 have HNN := Lib.hid hN
 rw [← hM] at s0
 clear h0 hA hY hW hB4 hrow h3 h4 hb hN hM hl hrW
 refine callsIn_of_wp Tryz.func163 rfl trivial ?_ rfl
 simp only [Tryz.ntmps163, List.size_toArray, List.length_cons, List.length_nil, Nat.reduceAdd, Nat.reduceSub, Array.replicate_succ, Array.replicate_zero, List.push_toArray, List.append_toArray, List.nil_append, List.cons_append]
 gi_wp2
 gi_loopw [10] (fun i wr => ∃ (k : Nat) (pre : List MB), k ≤ M ∧ i = .int .i64 k ∧ Hid (pre.map Subtype.val = (chs.take k).flatMap (chM g) ∧ J pre wr ∧ KN n0 W.heap.size W wr)) (fun i _ => M - (intOf i).toNat)
 case atStart => exact ⟨0, [], Nat.zero_le _, rfl, Lib.hid ⟨rfl, HJ.out, KN.refl _ _ _⟩⟩
 case round =>
  obtain ⟨k, pre, hk, rfl, hR⟩ := hrel
  obtain ⟨V, hV⟩ : ∃ V, V = wr := ⟨_, rfl⟩
  subst hV
  by_cases hlt : k < M
  · have hltc : k < chs.length := by rw [← HM.out]; exact hlt
    obtain ⟨a0, p, rfl, hp, -, hcp⟩ := (hR.out.2.2.row HRW.out).at hltc
    obtain ⟨y, hy⟩ : ∃ y, y = chs[k] := ⟨_, rfl⟩
    rw [← hy] at hcp
    have HYB : Hid (ChB y) := Lib.hid (by rw [hy]; exact HCB.out _ (List.getElem_mem hltc))
    have HPRE : Hid (∀ j, j ≤ 2 → (chs.take k).flatMap (chM g) ++ endsAt g y j <+: chs.flatMap (chM g)) := Lib.hid fun j hj => by rw [hy]; exact ends_pre g chs hltc hj
    have HNEXT : Hid ((chs.take (k + 1)).flatMap (chM g) = (chs.take k).flatMap (chM g) ++ endsAt g y 2) := Lib.hid (by rw [hy]; exact ends_next g chs hltc)
    obtain ⟨r, hr⟩ : ∃ r, r = V.heap.size := ⟨_, rfl⟩
    obtain ⟨X, hX⟩ : ∃ X, X = (V.alloc (.cells (vec 8 (chE zCh)) 47)).setRow V.heap.size (vec 8 (chE y)) := ⟨_, rfl⟩
    have b1 : Below V.heap.size V X := by rw [hX]; exact below_row ((Below.refl _ _).alloc (Nat.le_refl _) _) (Nat.le_refl _) _
    have a1 : Arr X r 47 8 (chE y) := by rw [hX, hr]; exact (Arr.new V _ _ _).row _
    have HKX : Hid (KN n0 W.heap.size W X) := Lib.hid (hR.out.2.2.trans (KN.of_below b1 (Nat.le_trans hnW hR.out.2.2.size)))
    have HJX : Hid (J pre X) := Lib.hid (own_below HA.out hR.out.2.1 b1)
    have HPV := Lib.hid hR.out.1
    have HAC := Lib.hid a1
    have HCP := Lib.hid hcp
    have HX := Lib.hid hX
    have HRR := Lib.hid hr
    have HTW : Hid (∀ i, i < 6 → X.cell? ((⟨r, 2, none⟩ : Addr).add i) = some (twoE y.a y.b i)) := Lib.hid (fun i hi => by
     rw [add_atM, HAC.out.cell (by omega), Nat.add_comm 2 i]
     rfl)
    have hki : (k : Int) < (M : Int) := by omega
    clear hcp hr hX b1 a1 hy hltc hR
    gi_wp2_with (first
     | ((with_reducible show wpListIn _ _ _ _ _ (Oper.mk _ (.load 47 _) _ _ _ _ :: _) _ _); refine wli_val wide_fn rfl (by intro c e; cases e) (exec_load_q 47 _ rfl p rfl _ (run_load_q HCP.out Tryz.underlying47 rfl infoCh)) ?_)
     | ((with_reducible show wpListIn _ _ _ _ _ (Oper.mk _ (.store 47 _ _) _ _ _ _ :: _) _ _); refine wli_store rfl 47 _ _ rfl _ rfl _ rfl (run_store_arr (Arr.new V _ _ _) (chE y) infoCh (chE_one _ _)) ?_; rw [← HX.out, ← HRR.out]; clear HX HRR)
     | ((with_reducible show wpListIn _ _ _ _ _ (Oper.mk _ (.load 45 _) _ _ _ _ :: _) _ _); refine wli_val wide_fn rfl (by intro c e; cases e) (exec_load_q 45 _ rfl ⟨r, 2, none⟩ rfl _ (run_load_q HTW.out Tryz.underlying45 rfl infoTw)) ?_))
    gi_loopw [16] (fun i wr => ∃ (j : Nat) (pre2 : List MB), j ≤ 2 ∧ i = .int .i64 j ∧ Hid (pre2.map Subtype.val = (chs.take k).flatMap (chM g) ++ endsAt g y j ∧ J pre2 wr ∧ KN n0 W.heap.size X wr)) (fun i _ => 2 - (intOf i).toNat)
    case atStart => exact ⟨0, pre, Nat.zero_le _, rfl, Lib.hid ⟨by rw [HPV.out]; exact (List.append_nil _).symm, HJX.out, KN.refl _ _ _⟩⟩
    case round =>
     obtain ⟨j, pre2, hj, rfl, hZ⟩ := hrel
     obtain ⟨Z, hZ0⟩ : ∃ Z, Z = wr := ⟨_, rfl⟩
     subst hZ0
     clear HJX HPV HCP HTW
     rcases (by omega : j = 0 ∨ j = 1 ∨ j = 2) with rfl | rfl | rfl
     · skip
       obtain ⟨z, hz⟩ : ∃ z, z = y.a := ⟨_, rfl⟩
       have HIX : Hid (∀ W : World, (Instr.index 45 (.agg (vec 6 (twoE y.a y.b))) (.int .i64 0)).run Tryz.prog W = .ok (.agg (vec 3 (endE z))) W) := Lib.hid (fun W => by rw [hz]; exact indexA y.a y.b W)
       have HYES : Hid (z.guest = g → endsAt g y 1 = endsAt g y 0 ++ [enM y z]) := Lib.hid (fun h => by rw [hz] at h ⊢; exact ends_ya h)
       have HNOT : Hid (¬ z.guest = g → endsAt g y 1 = endsAt g y 0) := Lib.hid (fun h => by rw [hz] at h; exact ends_na h)
       have HMB : Hid (MpB (enM y z)) := Lib.hid (enM_B HYB.out (by rw [hz]; exact HYB.out.2.2.1))
       obtain ⟨u, hu⟩ : ∃ u, u = Z.heap.size := ⟨_, rfl⟩
       obtain ⟨X3, hX3⟩ : ∃ X, X = (Z.alloc (.cells (vec 3 (endE zEn)) 44)).setRow Z.heap.size (vec 3 (endE z)) := ⟨_, rfl⟩
       have b3 : Below Z.heap.size Z X3 := by rw [hX3]; exact below_row ((Below.refl _ _).alloc (Nat.le_refl _) _) (Nat.le_refl _) _
       have a3 : Arr X3 u 44 3 (endE z) := by rw [hX3, hu]; exact (Arr.new Z _ _ _).row _
       have HK3 : Hid (KN n0 W.heap.size X X3) := Lib.hid (hZ.out.2.2.trans (KN.of_below b3 (Nat.le_trans (Nat.le_trans hnW HKX.out.size) hZ.out.2.2.size)))
       have HJ3 : Hid (J pre2 X3) := Lib.hid (own_below HA.out hZ.out.2.1 b3)
       have HPZ := Lib.hid hZ.out.1
       have a4 := HK3.out.arr HAC.out (by decide)
       have q4 : X3.cell? ⟨B4, 0, none⟩ = some (.int .i64 g) := (((HKX.out.trans HK3.out).blk HB4.out (by decide)).cellAt 0 rfl)
       have HX3 := Lib.hid hX3
       have HU := Lib.hid hu
       have c0 : X3.cell? ⟨r, 0, none⟩ = some (.int .u64 y.pa) := a4.cell (i := 0) (by decide)
       have c1 : X3.cell? ⟨r, 1, none⟩ = some (.int .u64 y.size) := a4.cell (i := 1) (by decide)
       have d0 : X3.cell? ⟨u, 0, none⟩ = some (.int .i64 z.guest) := a3.cell (i := 0) (by decide)
       have d1 : X3.cell? ⟨u, 1, none⟩ = some (.int .i64 z.perm) := a3.cell (i := 1) (by decide)
       have d2 : X3.cell? ⟨u, 2, none⟩ = some (.int .u64 z.ipa) := a3.cell (i := 2) (by decide)
       clear hz hu hX3 b3 a3 a4 hZ
       by_cases ta : z.guest = g
       · have ta1 : (z.guest == g) = true := by simpa using ta
         have HF := Lib.hid (HYES.out ta)
         have hpx : (pre2 ++ [(⟨enM y z, HMB.out⟩ : MB)]).map Subtype.val = (chs.take k).flatMap (chM g) ++ endsAt g y 1 := by rw [List.map_append, HPZ.out, HF.out, List.append_assoc]; rfl
         have hpp := HPRE.out 1 (by decide)
         rw [← hpx] at hpp
         obtain ⟨fn, tmps, assign, body, hy, hRR⟩ := HY.out pre2 ⟨enM y z, HMB.out⟩ X3 HJ3.out (by
           have := prefix_len (l := pre2.map Subtype.val) (x := enM y z) (by rw [List.map_append] at hpp; exact hpp)
           rw [List.length_map] at this
           exact Nat.lt_of_lt_of_le this HNN.out)
         replace hy : (Instr.yield lp #[.agg #[.int .u64 z.ipa, .int .u64 y.pa, .int .u64 y.size, .int .i64 z.perm, .int .i64 0]]).run Tryz.prog X3 = .ok (.round lp fn tmps assign body) X3 := hy
         have HR := Lib.hid hRR
         have HPP := Lib.hid hpp
         have HPX := Lib.hid hpx
         clear hRR hpp hpx HYES HNOT
         gi_wp2_with (first
           | ((with_reducible show wpListIn _ _ _ _ _ (Oper.mk _ (.index _ _ _) _ _ _ _ :: _) _ _); refine wli_val wide_fn rfl (by intro c e; cases e) (exec_indexM 45 _ _ rfl _ rfl _ rfl _ (HIX.out _)) ?_)
           | ((with_reducible show wpListIn _ _ _ _ _ (Oper.mk _ (.store 44 _ _) _ _ _ _ :: _) _ _); refine wli_store rfl 44 _ _ rfl _ rfl _ rfl (run_store_arr (Arr.new Z _ _ _) (endE z) infoEn (endE_one _ _)) ?_; rw [← HX3.out, ← HU.out]; clear HX3 HU))
         refine ⟨fun h => by simp [Fence.wide] at h, ?_⟩
         refine HR.out.mono ?_
         rintro e W3 (⟨rfl, hJ3, hk3⟩ | ⟨rfl, hJx3, -⟩)
         · have HN := Lib.hid (And.intro hJ3 (HK3.out.trans hk3))
           clear hJ3 hk3 hy
           gi_wp2
           go_roundw
           case rel => exact ⟨1, _, by omega, by go_num, Lib.hid ⟨HPX.out, HN.out.1, HN.out.2⟩⟩
           case measure => simp [intOf]
         · have HN := Lib.hid hJx3
           clear hJx3 hy
           gi_wp2
           (try simp only [Exit.inBlock, Exit.then])
           refine bodyPost_ret (results_none rfl _ _ _) rfl ?_
           exact ⟨⟨_, rfl⟩, .inr ⟨_, HPP.out, HN.out⟩⟩
       · have ta1 : (z.guest == g) = false := by simpa using ta
         have HF := Lib.hid (HNOT.out ta)
         clear HYES HNOT
         gi_wp2_with (first
           | ((with_reducible show wpListIn _ _ _ _ _ (Oper.mk _ (.index _ _ _) _ _ _ _ :: _) _ _); refine wli_val wide_fn rfl (by intro c e; cases e) (exec_indexM 45 _ _ rfl _ rfl _ rfl _ (HIX.out _)) ?_)
           | ((with_reducible show wpListIn _ _ _ _ _ (Oper.mk _ (.store 44 _ _) _ _ _ _ :: _) _ _); refine wli_store rfl 44 _ _ rfl _ rfl _ rfl (run_store_arr (Arr.new Z _ _ _) (endE z) infoEn (endE_one _ _)) ?_; rw [← HX3.out, ← HU.out]; clear HX3 HU))
         refine ⟨fun _ _ => trivial, ?_⟩
         go_at_K
         gi_wp2
         go_roundw
         case rel => exact ⟨1, pre2, by omega, by go_num, Lib.hid ⟨by rw [HF.out]; exact HPZ.out, HJ3.out, HK3.out⟩⟩
         case measure => simp [intOf]
     · skip
       obtain ⟨z, hz⟩ : ∃ z, z = y.b := ⟨_, rfl⟩
       have HIX : Hid (∀ W : World, (Instr.index 45 (.agg (vec 6 (twoE y.a y.b))) (.int .i64 1)).run Tryz.prog W = .ok (.agg (vec 3 (endE z))) W) := Lib.hid (fun W => by rw [hz]; exact indexB y.a y.b W)
       have HYES : Hid (z.guest = g → endsAt g y 2 = endsAt g y 1 ++ [enM y z]) := Lib.hid (fun h => by rw [hz] at h ⊢; exact ends_yb h)
       have HNOT : Hid (¬ z.guest = g → endsAt g y 2 = endsAt g y 1) := Lib.hid (fun h => by rw [hz] at h; exact ends_nb h)
       have HMB : Hid (MpB (enM y z)) := Lib.hid (enM_B HYB.out (by rw [hz]; exact HYB.out.2.2.2))
       obtain ⟨u, hu⟩ : ∃ u, u = Z.heap.size := ⟨_, rfl⟩
       obtain ⟨X3, hX3⟩ : ∃ X, X = (Z.alloc (.cells (vec 3 (endE zEn)) 44)).setRow Z.heap.size (vec 3 (endE z)) := ⟨_, rfl⟩
       have b3 : Below Z.heap.size Z X3 := by rw [hX3]; exact below_row ((Below.refl _ _).alloc (Nat.le_refl _) _) (Nat.le_refl _) _
       have a3 : Arr X3 u 44 3 (endE z) := by rw [hX3, hu]; exact (Arr.new Z _ _ _).row _
       have HK3 : Hid (KN n0 W.heap.size X X3) := Lib.hid (hZ.out.2.2.trans (KN.of_below b3 (Nat.le_trans (Nat.le_trans hnW HKX.out.size) hZ.out.2.2.size)))
       have HJ3 : Hid (J pre2 X3) := Lib.hid (own_below HA.out hZ.out.2.1 b3)
       have HPZ := Lib.hid hZ.out.1
       have a4 := HK3.out.arr HAC.out (by decide)
       have q4 : X3.cell? ⟨B4, 0, none⟩ = some (.int .i64 g) := (((HKX.out.trans HK3.out).blk HB4.out (by decide)).cellAt 0 rfl)
       have HX3 := Lib.hid hX3
       have HU := Lib.hid hu
       have c0 : X3.cell? ⟨r, 0, none⟩ = some (.int .u64 y.pa) := a4.cell (i := 0) (by decide)
       have c1 : X3.cell? ⟨r, 1, none⟩ = some (.int .u64 y.size) := a4.cell (i := 1) (by decide)
       have d0 : X3.cell? ⟨u, 0, none⟩ = some (.int .i64 z.guest) := a3.cell (i := 0) (by decide)
       have d1 : X3.cell? ⟨u, 1, none⟩ = some (.int .i64 z.perm) := a3.cell (i := 1) (by decide)
       have d2 : X3.cell? ⟨u, 2, none⟩ = some (.int .u64 z.ipa) := a3.cell (i := 2) (by decide)
       clear hz hu hX3 b3 a3 a4 hZ
       by_cases ta : z.guest = g
       · have ta1 : (z.guest == g) = true := by simpa using ta
         have HF := Lib.hid (HYES.out ta)
         have hpx : (pre2 ++ [(⟨enM y z, HMB.out⟩ : MB)]).map Subtype.val = (chs.take k).flatMap (chM g) ++ endsAt g y 2 := by rw [List.map_append, HPZ.out, HF.out, List.append_assoc]; rfl
         have hpp := HPRE.out 2 (by decide)
         rw [← hpx] at hpp
         obtain ⟨fn, tmps, assign, body, hy, hRR⟩ := HY.out pre2 ⟨enM y z, HMB.out⟩ X3 HJ3.out (by
           have := prefix_len (l := pre2.map Subtype.val) (x := enM y z) (by rw [List.map_append] at hpp; exact hpp)
           rw [List.length_map] at this
           exact Nat.lt_of_lt_of_le this HNN.out)
         replace hy : (Instr.yield lp #[.agg #[.int .u64 z.ipa, .int .u64 y.pa, .int .u64 y.size, .int .i64 z.perm, .int .i64 0]]).run Tryz.prog X3 = .ok (.round lp fn tmps assign body) X3 := hy
         have HR := Lib.hid hRR
         have HPP := Lib.hid hpp
         have HPX := Lib.hid hpx
         clear hRR hpp hpx HYES HNOT
         gi_wp2_with (first
           | ((with_reducible show wpListIn _ _ _ _ _ (Oper.mk _ (.index _ _ _) _ _ _ _ :: _) _ _); refine wli_val wide_fn rfl (by intro c e; cases e) (exec_indexM 45 _ _ rfl _ rfl _ rfl _ (HIX.out _)) ?_)
           | ((with_reducible show wpListIn _ _ _ _ _ (Oper.mk _ (.store 44 _ _) _ _ _ _ :: _) _ _); refine wli_store rfl 44 _ _ rfl _ rfl _ rfl (run_store_arr (Arr.new Z _ _ _) (endE z) infoEn (endE_one _ _)) ?_; rw [← HX3.out, ← HU.out]; clear HX3 HU))
         refine ⟨fun h => by simp [Fence.wide] at h, ?_⟩
         refine HR.out.mono ?_
         rintro e W3 (⟨rfl, hJ3, hk3⟩ | ⟨rfl, hJx3, -⟩)
         · have HN := Lib.hid (And.intro hJ3 (HK3.out.trans hk3))
           clear hJ3 hk3 hy
           gi_wp2
           go_roundw
           case rel => exact ⟨2, _, by omega, by go_num, Lib.hid ⟨HPX.out, HN.out.1, HN.out.2⟩⟩
           case measure => simp [intOf]
         · have HN := Lib.hid hJx3
           clear hJx3 hy
           gi_wp2
           (try simp only [Exit.inBlock, Exit.then])
           refine bodyPost_ret (results_none rfl _ _ _) rfl ?_
           exact ⟨⟨_, rfl⟩, .inr ⟨_, HPP.out, HN.out⟩⟩
       · have ta1 : (z.guest == g) = false := by simpa using ta
         have HF := Lib.hid (HNOT.out ta)
         clear HYES HNOT
         gi_wp2_with (first
           | ((with_reducible show wpListIn _ _ _ _ _ (Oper.mk _ (.index _ _ _) _ _ _ _ :: _) _ _); refine wli_val wide_fn rfl (by intro c e; cases e) (exec_indexM 45 _ _ rfl _ rfl _ rfl _ (HIX.out _)) ?_)
           | ((with_reducible show wpListIn _ _ _ _ _ (Oper.mk _ (.store 44 _ _) _ _ _ _ :: _) _ _); refine wli_store rfl 44 _ _ rfl _ rfl _ rfl (run_store_arr (Arr.new Z _ _ _) (endE z) infoEn (endE_one _ _)) ?_; rw [← HX3.out, ← HU.out]; clear HX3 HU))
         refine ⟨fun _ _ => trivial, ?_⟩
         go_at_K
         gi_wp2
         go_roundw
         case rel => exact ⟨2, pre2, by omega, by go_num, Lib.hid ⟨by rw [HF.out]; exact HPZ.out, HJ3.out, HK3.out⟩⟩
         case measure => simp [intOf]
     · gi_wp2
       go_roundw
       case rel => exact ⟨k + 1, pre2, by omega, by go_num, Lib.hid ⟨by rw [HNEXT.out]; exact hZ.out.1, hZ.out.2.1, HKX.out.trans hZ.out.2.2⟩⟩
       case measure => simp [intOf]; omega
  · obtain rfl : k = M := by omega
    gi_wp2
    go_end0
    exact ⟨⟨_, rfl⟩, .inl ⟨_, by have h := hR.out.1; rw [HM.out, List.take_length] at h; exact h, hR.out.2.1⟩⟩
end Go.Proofs.YtkaipknkjocfiaaGreat
namespace Go.Proofs.YtkaipknkjocfiaaGreat
open Go.RowKit
variable {P : Program} {α : Type}
theorem arr_own {B r m : Nat} {t : TypeId} {f : Nat → Value} : OwnFrom B (fun (_ : Unit) W => Arr W r t m f) := fun _ X Y row hs hg hr =>
 hs.grown hg fun e => by
  obtain ⟨_, o, ho, hc⟩ := hr r e.symm
  rw [show X.heap[r]? = _ from hs] at ho
  cases ho
  cases hc
set_option maxHeartbeats 1000000 in
theorem range_box {g : Operand} {ps : Array Tmp} {assign body : Code} {Q : Exit → Act → World → Prop} {a : Act} {w : World} {n n0 : Nat} (h1 : 1 ≤ n) (hn0 : n0 ≤ w.heap.size)
   {gf : Nat} {lb : Array Value} (hg : a.eval g = .func (.func gf) #[] lb) (eg : ∀ args w, (callFunc gf args).run P w = .ok (.enter gf args) w)
   {encs : α → Array Value} {S Sp : List α → Prop} {N : Nat} {w0 : World} (hseq : SeqOwn (n - 1) P gf lb encs (KN n0) S Sp N w0) (hb0 : Below w0.heap.size w0 w)
   (p d : Tmp) (hps : ps = #[p]) (ty : TypeId) (m : Nat) (f : α → Nat → Value) (henc : ∀ x, encs x = #[.agg (vec m (f x))])
   (I : List α → World → Prop) (Ix : Code → List α → World → Prop) (hI : OwnFrom w.heap.size I) (hIx : ∀ c, OwnFrom w.heap.size (Ix c)) (h0 : I [] w) (hlow : ∀ pre W, I pre W → w.heap.size ≤ W.heap.size)
   (hassign : ∀ (l : Nat) (x : α) (W : World) (K : Act → World → Prop), (∀ X, Below W.heap.size W X → Arr X W.heap.size ty m (f x) → K { tmps := (a.tmps.setIfInBounds p (.agg (vec m (f x)))).setIfInBounds d (.pointer (some ⟨W.heap.size, 0, none⟩)), defers := [] } X) →
    assign.wpIn (Fence.wide.inRound l) (n - 1 - 1) P (Exit.then K (fun _ _ _ => False)) { tmps := a.tmps.setIfInBounds p (.agg (vec m (f x))), defers := [] } W)
   (hbody : ∀ (l : Nat) (pre : List α) (x : α) (r : Nat) (W : World), w.heap.size ≤ r → I pre W → Arr W r ty m (f x) → pre.length < N →
    body.wpIn (Fence.wide.inRound l) (n - 1 - 1) P (ownPostG w.heap.size (KN n0 (w.heap.size + 2)) I Ix (pre ++ [x]) W) { tmps := (a.tmps.setIfInBounds p (.agg (vec m (f x)))).setIfInBounds d (.pointer (some ⟨r, 0, none⟩)), defers := [] } W)
   (hdone : ∀ (D : Nat) (xs : List α) (W : World), w.heap.size ≤ D → S xs → I xs W → W.heap[D]? = some (.deferred (some [])) → Q .normal { a with defers := { target := .collected D, args := #[] } :: a.defers } W)
   (hstop : ∀ (D : Nat) (c : Code) (pre : List α) (W : World), w.heap.size ≤ D → Sp pre → Ix c pre W → W.heap[D]? = some (.deferred (some [])) → c.wpIn Fence.wide n P Q { a with defers := { target := .collected D, args := #[] } :: a.defers } W) :
   (Code.rangeFunc g ps assign body).wpIn Fence.wide n P Q a w := by
 subst hps
 refine range_own h1 hg eg hseq KN.trans (fun W l o o' h1 h2 hl ho => KN.put (by omega) h2 hl ho) hb0 (fun x => by rw [henc]; rfl) I Ix hI hIx h0
   (fun x a' W => ∃ r, w.heap.size ≤ r ∧ a' = { tmps := (a.tmps.setIfInBounds p (.agg (vec m (f x)))).setIfInBounds d (.pointer (some ⟨r, 0, none⟩)), defers := [] } ∧ Arr W r ty m (f x))
   (fun x a' s X Y row hs hg hr => by obtain ⟨r, h1, h2, h3⟩ := hs; exact ⟨r, h1, h2, arr_own s X Y row h3 hg hr⟩) ?_ ?_ hdone hstop
 · intro l pre x W K hi hK
   have hw := hlow pre W hi
   have he : (#[p].zip (encs x)).foldl (fun t (p, v) => t.setIfInBounds p v) a.tmps = a.tmps.setIfInBounds p (.agg (vec m (f x))) := by rw [henc]; simp
   rw [he]
   refine hassign l x W K fun X hX hA => hK _ X ⟨hX.size, fun k o _ hk _ => (hX.block k (Array.getElem?_eq_some_iff.1 hk).1).trans hk⟩ (KN.of_below hX (by omega)) (hI _ _ _ none hi (grown_of_below hX) (fun r e => by cases e)) ⟨W.heap.size, hw, rfl, hA⟩
 · rintro l pre x a' W _ hi ⟨r, h1, rfl, h3⟩ hlen
   exact hbody l pre x r W h1 hi h3 hlen
end Go.Proofs.YtkaipknkjocfiaaGreat
