/- Merged: Qd, Rgd. -/
import Derived.BigQuiet
import Derived.Test.YtkaipknkjocfiaaGreatZm37
import Derived.Test.YtkaipknkjocfiaaGreatZm47
import Derived.Test.YtkaipknkjocfiaaGreatZm7
namespace Go.Proofs.YtkaipknkjocfiaaGreat
open Go.RowKit Go.Maps
attribute [local go_sem ↓ high] zeroSp zeroGu zeroWi zeroIr zeroKeyB zeroCf zeroCh zeroBd
theorem row_arr {α : Type} {n : Nat} {enc : α → Nat → Value} {Y : World} {g : Nat} {t : TypeId} {y : α} (h : Arr Y g t n (enc y)) : RowE n enc Y Y.heap.size (some ⟨g, 0, none⟩) [y] := fun _ =>
 ⟨_, rfl, h.lt, fun j hj i hi => by
  have hj : j < 1 := hj
  obtain rfl : j = 0 := by omega
  rw [add_atM, Nat.zero_add, Nat.zero_mul, Nat.zero_add]
  exact h.cell hi⟩
theorem row_heap {α : Type} {n : Nat} {enc : α → Nat → Value} {Y : World} {g : Nat} {t : TypeId} {l : List α} (h : Y.heap[g]? = some (.cells (cellsE n enc l).toArray t (0, 0))) : RowE n enc Y Y.heap.size (some ⟨g, 0, none⟩) l := fun _ =>
 ⟨_, rfl, lt_of_heap h, fun j hj i hi => by
  rw [add_atM, Nat.zero_add]
  refine (cell_of_row Y g _ _ t (0, 0) h).trans ?_
  rw [List.getElem?_toArray]
  exact cellsE_get l j hj i hi⟩
theorem small_row {Y : World} {B cpu pa g1 g3 g4 : Nat} (nm key : By) (h : GMade B Y cpu pa g1 g3 g4) : GRow Y Y.heap.size (gvS nm cpu pa key g1 g3 g4) :=
 ⟨⟨_, _, rfl, row_arr h.w, by show 1 ≤ 9223372036854775807; decide⟩, ⟨none, 0, rfl, RowE.nil _ _ _, by show 0 ≤ 9223372036854775807; decide⟩, ⟨_, _, rfl, row_arr h.i, by show 1 ≤ 9223372036854775807; decide⟩, ⟨_, _, rfl, row_arr h.s, by show 1 ≤ 9223372036854775807; decide⟩⟩
theorem small_cfr {Y : World} {B pages pa gG gC g1 g3 g4 h1 h3 h4 : Nat} {key : By} (hgs : Y.heap[gG]? = some (.cells (cellsE 79 guestE [gvS nm0 0 1074790400 key g1 g3 g4, gvS nm1 1 pa key h1 h3 h4]).toArray 63 (0, 0))) (hch : Arr Y gC 47 8 (chE (chS pages)))
   (m0 : GMade B Y 0 1074790400 g1 g3 g4) (m1 : GMade B Y 1 pa h1 h3 h4) : CfRW Y Y.heap.size (xSP pages key pa) (.slice (some ⟨gG, 0, none⟩) 2 2) (.slice (some ⟨gC, 0, none⟩) 1 1) := by
 have hg : GsR Y Y.heap.size (some ⟨gG, 0, none⟩) [gvS nm0 0 1074790400 key g1 g3 g4, gvS nm1 1 pa key h1 h3 h4] := ⟨row_heap hgs, fun y hy => by
   rcases List.mem_cons.1 hy with rfl | hy
   · exact small_row _ _ m0
   · obtain rfl := List.mem_singleton.1 hy
     exact small_row _ _ m1⟩
 refine ⟨⟨⟨_, _, _, rfl, rfl, hg, by show 2 ≤ 9223372036854775807; decide⟩, ⟨_, _, rfl, row_arr hch, by show 1 ≤ 9223372036854775807; decide⟩⟩, ⟨_, _, _, rfl, rfl, hg, fun y hy => ?_⟩⟩
 rcases List.mem_cons.1 hy with rfl | hy
 · exact ⟨_, _, rfl, Nat.le_refl 1⟩
 · obtain rfl := List.mem_singleton.1 hy
   exact ⟨_, _, rfl, Nat.le_refl 1⟩
theorem small_gsB (nm key : By) (hl : key.length = 68) (cpu pa : Nat) (hc : cpu ≤ 1) (hp : pa ≤ 18446744073709551615) : GsB (gsS nm cpu pa key) := by
 refine ⟨by show (0 : Int) ≤ 0 ∧ (0 : Int) ≤ 4294967295; decide, by show (0 : Int) ≤ 0 ∧ (0 : Int) ≤ 4294967295; decide, ?_, by show (0 : Int) ≤ 4096 ∧ (4096 : Int) ≤ 18446744073709551615; decide, by show (0 : Int) ≤ 0 ∧ (0 : Int) ≤ 18446744073709551615; decide, hl, fun y hy => ?_, (fun y hy => by cases hy), fun y hy => ?_, fun y hy => ?_⟩
 · show u32B (2 ^ cpu)
   rcases (by omega : cpu = 0 ∨ cpu = 1) with rfl | rfl <;> (unfold u32B; decide)
 · obtain rfl := List.mem_singleton.1 hy
   unfold WiB u64B i64B wiS
   simp only
   omega
 · obtain rfl := List.mem_singleton.1 hy
   unfold IrB i64B irS
   simp only
   omega
 · obtain rfl := List.mem_singleton.1 hy
   unfold u32B
   omega
theorem small_B (pages : Nat) (hp : pages ≤ 64) (key : By) (hl : key.length = 68) (pa : Nat) (hpa : pa ≤ 18446744073709551615) : CfB (xSP pages key pa) := by
 refine ⟨by show (0 : Int) ≤ 1 ∧ (1 : Int) ≤ 4294967295; decide, fun g hg => ?_, fun y hy => ?_⟩
 · rcases List.mem_cons.1 hg with rfl | hg
   · exact small_gsB _ _ hl _ _ (by decide) (by decide)
   · obtain rfl := List.mem_singleton.1 hg
     exact small_gsB _ _ hl _ _ (by decide) hpa
 · obtain rfl := List.mem_singleton.1 hy
   unfold ChB EnB u64B i64B chS
   simp only
   omega
theorem small_few (pages : Nat) (key : By) (pa : Nat) : fewC (xSP pages key pa) = true := by kernel_rfl
theorem fit_bS : fit bS.r ∧ fit bS.l := by unfold fit bS; decide
set_option maxHeartbeats 16000000 in
set_option maxRecDepth 100000 in
theorem awake17 (w : World) : Calls Tryz.prog 8 #[] w fun e w' => e = .returned (.bool true) ∧ Below w.heap.size w w' := by
 obtain ⟨r1, hr1⟩ : ∃ r, r = w.heap.size := ⟨_, rfl⟩
 obtain ⟨V, hV⟩ : ∃ V, V = (w.alloc (.cells (vec 68 (bys zb)) 52)).setRow w.heap.size (vec 68 (bys (kF keyA))) := ⟨_, rfl⟩
 have bV : Below w.heap.size w V := by rw [hV]; exact below_row ((Below.refl _ _).alloc (Nat.le_refl _) _) (Nat.le_refl _) _
 have HA1 : Hid (Arr V r1 52 68 (bys (kF keyA))) := Lib.hid (by rw [hV, hr1]; exact (Arr.new w _ _ _).row _)
 have HB := Lib.hid bV
 have HV := Lib.hid hV
 have HR1 := Lib.hid hr1
 have HSM : Hid (Calls Tryz.prog 16 #[.int .u64 1, .agg (vec 68 (bys (kF keyA)))] V (SmallC 1 keyA V)) := Lib.hid (small_any 1 (by decide) keyA V)
 clear hr1 hV bV
 go_enter Tryz.func8, Tryz.ntmps8
 go_upto_region 2 with (first
  | ((with_reducible show wpList _ _ _ (Oper.mk _ (.build _ _) _ _ _ _ :: _) _ _); refine wl_build rfl 52 _ rfl (vec 68 (bys (kF keyA))) (by kernel_rfl) ?_)
  | ((with_reducible show wpList _ _ _ (Oper.mk _ (.store _ _ _) _ _ _ _ :: _) _ _); refine wl_store rfl 52 _ _ rfl _ rfl _ rfl (run_store_arr (Arr.new w _ _ _) (bys (kF keyA)) info_key (fun _ _ => rfl)) ?_))
 rw [← HV.out, ← HR1.out]
 clear HV HR1
 go_upto_region 3 with (first
  | ((with_reducible show wpList _ _ _ (Oper.mk _ (.load _ _) _ _ _ _ :: _) _ _); refine wl_load rfl 52 _ rfl r1 rfl _ (run_load_arr HA1.out Tryz.underlying52 rfl info_key) ?_)
  | (go_at_call 16; refine HSM.out.mono ?_; rintro e w1 ⟨gG, gC, g1, g3, g4, h1, h3, h4, rfl, hsa, hd⟩; have HSA := Lib.hid hsa; have HD := Lib.hid hd; clear hsa hd)
  | ((with_reducible show wpList _ _ _ (Oper.mk _ (.store 26 _ _) _ _ _ _ :: _) _ _); refine wl_store rfl 26 _ _ rfl _ rfl _ rfl (run_store_arr ((Arr.new w1 _ _ _).alloc _) (bdE bS) infoBd (bdE_one _ _)) ?_)
  | ((with_reducible show wpList _ _ _ (Oper.mk _ (.store 31 _ _) _ _ _ _ :: _) _ _); refine wl_store rfl 31 _ _ rfl (w1.heap.size + 1) rfl _ rfl (run_store_arr ((Arr.newAt _ _ _ _ (by simp)).rowFar (by omega) _) (cfE 1 (.slice (some ⟨gG, 0, none⟩) 2 2) (.slice (some ⟨gC, 0, none⟩) 1 1)) infoCf (cfE_one _ _ _ rfl rfl _)) ?_))
 (try simp only [Act.put])
 obtain ⟨A9, hA9⟩ : ∃ v : Value, v = .slice (some ⟨gG, 0, none⟩) 2 2 := ⟨_, rfl⟩
 obtain ⟨C9, hC9⟩ : ∃ v : Value, v = .slice (some ⟨gC, 0, none⟩) 1 1 := ⟨_, rfl⟩
 obtain ⟨r3, hr3⟩ : ∃ r, r = w1.heap.size + 1 := ⟨_, rfl⟩
 obtain ⟨r2, hr2⟩ : ∃ r, r = w1.heap.size := ⟨_, rfl⟩
 obtain ⟨W2, hW2⟩ : ∃ W, W = (((w1.alloc (.cells (vec 7 (bdE zBd)) 26)).alloc (.cells (vec 3 (cfE 0 nilV nilV)) 31)).setRow w1.heap.size (vec 7 (bdE bS))).setRow (w1.heap.size + 1) (vec 3 (cfE 1 (.slice (some ⟨gG, 0, none⟩) 2 2) (.slice (some ⟨gC, 0, none⟩) 1 1))) := ⟨_, rfl⟩
 rw [← hW2, ← hr3, ← hr2]
 have b12 : Below w1.heap.size w1 W2 := by
  rw [hW2]
  exact below_row (below_row ((Below.alloc_own w1 _).alloc (by simp) _) (Nat.le_refl _) _) (by omega) _
 have k2 : Arr W2 r2 26 7 (bdE bS) := by rw [hW2, hr2]; exact (((Arr.new w1 _ _ _).alloc _).row _).rowFar (by omega) _
 have k3 : Arr W2 r3 31 3 (cfE 1 A9 C9) := by rw [hW2, hr3, hA9, hC9]; exact ((Arr.newAt _ _ _ _ (by simp)).rowFar (by omega) _).row _
 have hsa := HSA.out
 have q0 := hsa.m0.under b12
 have q1 := hsa.m1.under b12
 have qc := hsa.ch.under b12
 have qg := (b12.block _ (lt_of_heap hsa.gs)).trans hsa.gs
 have hc1 : CfRW W2 W2.heap.size (xSP 1 keyA 1075838976) A9 C9 := by rw [hA9, hC9]; exact small_cfr qg qc q0 q1
 have HC1 : Hid (Calls Tryz.prog 10 #[.agg (vec 7 (bdE bS)), .agg (vec 3 (cfE 1 A9 C9))] W2 fun e w' => e = .returned (.tuple #[.int .i64 0, .int .i64 0, .int .i64 0]) ∧ Below W2.heap.size W2 w') := Lib.hid (by
  refine (kcheck_any (xSP 1 keyA 1075838976) A9 C9 bS W2 hc1 (small_B 1 (by decide) keyA keyA_ok.2 _ (by decide)) (small_few _ _ _) fit_bS.1 fit_bS.2).mono fun e w' hh => ?_
  obtain ⟨h1, h2⟩ := hh
  rw [← xS_is, small_check 1 keyA (by decide) (by decide) keyA_ok.1 keyA_ok.2] at h1
  exact ⟨h1, h2⟩)
 have hne1 : gG ≠ h1 := fun e => by
  have hw := q1.w
  unfold Arr at hw
  rw [← e, qg] at hw
  injection hw with hw
  injection hw with _ hw _
  exact absurd hw (by decide)
 have HLT : Hid (w.heap.size ≤ V.heap.size ∧ V.heap.size ≤ w1.heap.size) := Lib.hid ⟨HB.out.size, HD.out.size⟩
 have HF : Hid (∀ w3, Below W2.heap.size W2 w3 → (w3.cell? ⟨r3, 1, none⟩ = some (.slice (some ⟨gG, 0, none⟩) 2 2) ∧ w3.cell? ⟨gG, 154, none⟩ = some (.slice (some ⟨h1, 0, none⟩) 1 1) ∧ w3.cell? ⟨h1, 1, none⟩ = some (.int .u64 1075838976) ∧ w3.frozen? ⟨h1, 1, none⟩ = false) ∧ Arr w3 r2 26 7 (bdE bS) ∧ Arr w3 r3 31 3 (cfE 1 A9 C9)) := Lib.hid fun w3 hw3 => by
  refine ⟨⟨by rw [← hA9]; exact (k3.under hw3).cell (i := 1) (by decide), ?_, (q1.w.under hw3).cell (i := 1) (by decide), (q1.w.under hw3).frozen 1⟩, k2.under hw3, k3.under hw3⟩
  have := (hw3.block _ (lt_of_heap qg)).trans qg
  exact (cell_of_row w3 gG 154 _ _ (0, 0) this).trans (by rw [List.getElem?_toArray]; exact cellsE_get (n := 79) (enc := guestE) [gvS nm0 0 1074790400 keyA g1 g3 g4, gvS nm1 1 1075838976 keyA h1 h3 h4] 1 (by simp) 75 (by decide))
 have HC2 : Hid (∀ w3 W4, Below W2.heap.size W2 w3 → W4 = w3.setCell ⟨h1, 1, none⟩ (.int .u64 1074786304) → (Calls Tryz.prog 10 #[.agg (vec 7 (bdE bS)), .agg (vec 3 (cfE 1 A9 C9))] W4 fun e w' => e = .returned (.tuple #[.int .i64 4, .int .i64 1, .int .i64 170]) ∧ Below W4.heap.size W4 w') ∧ Arr W4 r2 26 7 (bdE bS) ∧ Arr W4 r3 31 3 (cfE 1 A9 C9) ∧ Below w.heap.size w W4) := Lib.hid fun w3 W4 hw3 hW4 => by
  have p0 := q0.under hw3
  have p1 := q1.under hw3
  have pc := qc.under hw3
  have pg := (hw3.block _ (lt_of_heap qg)).trans qg
  have hlo := p1.lo
  have far : ∀ {g n : Nat} {t : TypeId} {f : Nat → Value}, Arr w3 g t n f → g ≠ h1 → Arr W4 g t n f := fun h hne => by rw [hW4]; exact h.far (p := ⟨h1, 1, none⟩) hne _
  have hIW : (65 : TypeId) ≠ 67 := by decide
  have hUW : (27 : TypeId) ≠ 67 := by decide
  have hCW : (47 : TypeId) ≠ 67 := by decide
  have p0' : GMade V.heap.size W4 0 1074790400 g1 g3 g4 := ⟨p0.lo, far p0.w hsa.lo.2.2, far p0.i (arr_ne p0.i p1.w hIW), far p0.s (arr_ne p0.s p1.w hUW)⟩
  have pw : Arr W4 h1 67 4 (winE (wiS 1074786304)) := by
    rw [hW4]
    refine (p1.w.set 1 _).congr fun i hi => ?_
    rcases (by omega : i = 0 ∨ i = 1 ∨ i = 2 ∨ i = 3) with rfl | rfl | rfl | rfl <;> rfl
  have p1' : GMade V.heap.size W4 1 1074786304 h1 h3 h4 := ⟨p1.lo, pw, far p1.i (arr_ne p1.i p1.w hIW), far p1.s (arr_ne p1.s p1.w hUW)⟩
  have pc' := far pc (arr_ne pc p1.w hCW)
  have pg' : W4.heap[gG]? = some (.cells (cellsE 79 guestE [gvS nm0 0 1074790400 keyA g1 g3 g4, gvS nm1 1 1074786304 keyA h1 h3 h4]).toArray 63 (0, 0)) := by
    rw [hW4]
    exact (Below.heap_setCell w3 ⟨h1, 1, none⟩ _ gG hne1).trans pg
  have hc2 : CfRW W4 W4.heap.size (xSP 1 keyA 1074786304) A9 C9 := by rw [hA9, hC9]; exact small_cfr pg' pc' p0' p1'
  have hr2l := (k2.under hw3).lt
  have n2 : r2 ≠ h1 := fun e => by have hz := hsa.m1.w.lt; omega
  have n3 : r3 ≠ h1 := fun e => by have hz := hsa.m1.w.lt; omega
  refine ⟨?_, far (k2.under hw3) n2, far (k3.under hw3) n3, ?_⟩
  · refine (kcheck_any (xSP 1 keyA 1074786304) A9 C9 bS W4 hc2 (small_B 1 (by decide) keyA keyA_ok.2 _ (by decide)) (small_few _ _ _) fit_bS.1 fit_bS.2).mono fun e w' hh => ?_
    obtain ⟨h1, h2⟩ := hh
    rw [bad_check] at h1
    exact ⟨h1, h2⟩
  · rw [hW4]
    have hl1 := HLT.out
    have hlo2 := hsa.m1.lo
    have hs2 := b12.size
    exact ((((HB.out.trans (HD.out.mono hl1.1)).trans (b12.mono (by omega))).trans (hw3.mono (by omega)))).setCell (p := ⟨h1, 1, none⟩) (by show w.heap.size ≤ h1; omega) _
 have HK2 := Lib.hid (And.intro k2 k3)
 clear hA9 hC9 hr3 hr2 hW2 b12 k2 k3 hsa q0 q1 qc qg hc1 hne1 HSA HA1 HSM
 obtain ⟨A8, hA8⟩ : ∃ v : Value, v = A9 := ⟨_, rfl⟩
 go_upto_region 4 with (first
  | ((with_reducible show wpList _ _ _ (Oper.mk _ (.load 26 _) _ _ _ _ :: _) _ _); refine wl_load rfl 26 _ rfl r2 rfl _ (run_load_arr HK2.out.1 Tryz.underlying26 rfl infoBd) ?_)
  | ((with_reducible show wpList _ _ _ (Oper.mk _ (.load 31 _) _ _ _ _ :: _) _ _); refine wl_load rfl 31 _ rfl r3 rfl _ (run_load_arr HK2.out.2 Tryz.underlying31 rfl infoCf) ?_)
  | (go_at_call 10; refine HC1.out.mono ?_; rintro e w3 ⟨rfl, hd⟩; have HD3 := Lib.hid hd; clear hd))
 clear hA8 A8
 obtain ⟨⟨x1, x2, x3, x4⟩, x5, x6⟩ := HF.out w3 HD3.out
 clear x5 x6
 go_upto_region 5 with fail
 (try simp only [Act.put])
 obtain ⟨W4, hW4⟩ : ∃ W, W = w3.setCell ⟨h1, 1, none⟩ (.int .u64 1074786304) := ⟨_, rfl⟩
 rw [← hW4]
 have HZ := Lib.hid (HC2.out w3 W4 HD3.out hW4)
 clear hW4 x1 x2 x3 x4
 go_wp2_with (first
  | ((with_reducible show wpList _ _ _ (Oper.mk _ (.load 26 _) _ _ _ _ :: _) _ _); refine wl_load rfl 26 _ rfl r2 rfl _ (run_load_arr HZ.out.2.1 Tryz.underlying26 rfl infoBd) ?_)
  | ((with_reducible show wpList _ _ _ (Oper.mk _ (.load 31 _) _ _ _ _ :: _) _ _); refine wl_load rfl 31 _ rfl r3 rfl _ (run_load_arr HZ.out.2.2.1 Tryz.underlying31 rfl infoCf) ?_)
  | (go_at_call 10; refine HZ.out.1.mono ?_; rintro e w5 ⟨rfl, hd⟩; have HD5 := Lib.hid hd; clear hd))
 go_ret
 exact ⟨rfl, HZ.out.2.2.2.trans (HD5.out.mono (HZ.out.2.2.2.size))⟩
end Go.Proofs.YtkaipknkjocfiaaGreat
namespace Go.Proofs.YtkaipknkjocfiaaGreat
open Go.RowKit
attribute [local go_sem ↓ high] zeroMp zeroSp
theorem gdM_page {x : Mp} (h : gdM x = true) (hb : MpB x) : x.ipa + x.size ≤ 1099511627776 := by
 unfold gdM pageB at h
 simp only [Bool.and_eq_true, decide_eq_true_eq] at h
 have h1 := h.1.2
 have e1 := (u64Z_nat hb.ipa).1
 have e2 := (u64Z_nat hb.size).1
 omega
set_option maxHeartbeats 1000000 in
set_option maxRecDepth 100000 in
theorem rgoodM_any (l : List Mp) (A : Option Addr) (c : Nat) (hlen : l.length ≤ 1000000) (w : World) (hr : RowE 5 mpE w w.heap.size A l) (hb : ∀ x ∈ l, MpB x) : Calls Tryz.prog 15 #[.slice A l.length c] w (EqV (goodL l) w) := by
  obtain ⟨N, hN⟩ : ∃ n, n = l.length := ⟨_, rfl⟩
  have HNL := Lib.hid hN
  have hN2 : N ≤ 1000000 := by rw [hN]; exact hlen
  have HR := Lib.hid hr
  have HMB := Lib.hid hb
  have HOF0 : Hid (∀ k, k < l.length → goodAt l k = false → goodL l = false) := Lib.hid (fun k hk h => range_off hk h)
  have HALL : Hid ((List.range l.length).all (goodAt l) = true → goodL l = true) := Lib.hid (fun h => h)
  obtain ⟨G, hG⟩ : ∃ G, G = goodL l := ⟨_, rfl⟩
  rw [← hG] at HOF0 HALL ⊢
  rw [← hN]
  unfold EqV
  clear hr hb hN hG
  go_enter Tryz.func15, Tryz.ntmps15
  go_wp2_with fail
  go_loopw [2, 3, 7] (fun _ _ v W => ∃ k : Nat, k ≤ N ∧ v = .int .i64 k ∧ Hid ((List.range k).all (goodAt l) = true) ∧ Hid (Below w.heap.size w W)) (fun _ _ i _ => N - (intOf i).toNat)
  case atStart => exact ⟨0, Nat.zero_le _, rfl, Lib.hid rfl, Lib.hid (Below.refl _ _)⟩
  case round =>
    obtain ⟨k, hk, rfl, HP0, HB⟩ := hrel
    obtain ⟨W, hW⟩ : ∃ W : World, W = wr := ⟨_, rfl⟩
    subst hW
    by_cases hlt0 : k < N
    · have hlt : k < l.length := by have := HNL.out; omega
      have g1 := HR.out.up HB.out
      obtain ⟨a, q, rfl, hq, -, hcp⟩ := g1.at hlt
      obtain ⟨y, hy⟩ : ∃ y, y = l[k] := ⟨_, rfl⟩
      rw [← hy] at hcp
      have hyb : MpB y := by rw [hy]; exact HMB.out _ (List.getElem_mem _)
      have HF0 : Hid (gdM y = false → G = false) := Lib.hid (fun h => HOF0.out k hlt (by rw [goodAt_some hlt, ← hy, h]; rfl))
      have HN0 : Hid (k = 0 → gdM y = true → (List.range (k + 1)).all (goodAt l) = true) := Lib.hid (fun h0 h => range_snoc HP0.out (by subst h0; rw [goodAt_zero hlt, ← hy]; exact h))
      have HS1 : Hid (∀ j (hj : j + 1 = k), ∃ (z : Mp) (q2 : Addr), a.add (j * 5) = q2 ∧ (∀ Y, Below w.heap.size w Y → Y.cell? q2 = some (.int .u64 z.ipa) ∧ Y.cell? ⟨q2.block, q2.off + 2, none⟩ = some (.int .u64 z.size)) ∧ 0 ≤ z.ipa ∧ 0 ≤ z.size ∧ z.ipa + z.size ≤ 1099511627776 ∧ (gdM y = true → z.ipa + z.size ≤ y.ipa → (List.range (k + 1)).all (goodAt l) = true) ∧ (¬ z.ipa + z.size ≤ y.ipa → G = false)) := Lib.hid (fun j hj => by
        subst hj
        have hjl : j < l.length := by omega
        have hz : gdM l[j] = true := by
          have h2 := range_all.1 HP0.out j (by omega)
          rw [goodAt_some hjl, Bool.and_eq_true] at h2
          exact h2.1
        have hzb := HMB.out _ (List.getElem_mem hjl)
        have e3 : goodAt l (j + 1) = (gdM y && decide (l[j].ipa + l[j].size ≤ y.ipa)) := by rw [goodAt_succ hlt, hy]
        refine ⟨l[j], _, rfl, fun Y hY => ?_, hzb.ipa.1, hzb.size.1, gdM_page hz hzb, fun h1 h2 => range_snoc HP0.out (by rw [e3, h1, decide_eq_true h2]; rfl), fun h => HOF0.out (j + 1) hlt (by rw [e3, decide_eq_false h, Bool.and_false])⟩
        obtain ⟨a', q', ea, hq', -, hcz⟩ := (HR.out.up hY).at hjl
        injection ea with ea
        subst ea
        rw [hq']
        exact ⟨by have := hcz 0 (by decide); have e0 : q'.add 0 = q' := by simp [Addr.add]
                  rw [e0] at this; exact this, hcz 2 (by decide)⟩)
      have hki : (k : Int) < (N : Int) := by omega
      obtain ⟨r, hr⟩ : ∃ r, r = W.heap.size := ⟨_, rfl⟩
      obtain ⟨X, hX⟩ : ∃ X, X = (W.alloc (.cells (vec 5 (mpE zMp)) 87)).setRow W.heap.size (vec 5 (mpE y)) := ⟨_, rfl⟩
      have b1 : Below W.heap.size W X := by rw [hX]; exact below_row ((Below.refl _ _).alloc (Nat.le_refl _) _) (Nat.le_refl _) _
      have a1 : Arr X r 87 5 (mpE y) := by rw [hX, hr]; exact (Arr.new W _ _ _).row _
      have HBX := Lib.hid (HB.out.trans (b1.mono HB.out.size))
      have HCP := Lib.hid hcp
      have HX := Lib.hid hX
      have HRR := Lib.hid hr
      have HA := Lib.hid a1
      have HP1 := Lib.hid (fun W => rpage_any y.ipa y.size hyb.ipa hyb.size W)
      have HP2 := Lib.hid (fun W => rpage_any y.pa y.size hyb.pa hyb.size W)
      have c0 : X.cell? ⟨r, 0, none⟩ = some (.int .u64 y.ipa) := a1.cell (i := 0) (by decide)
      have c2 : X.cell? ⟨r, 2, none⟩ = some (.int .u64 y.size) := a1.cell (i := 2) (by decide)
      have HGD : Hid (gdM y = (pageB y.ipa y.size && (pageB y.pa y.size && (decide (1 ≤ y.perm) && (decide (y.perm ≤ 7) && (decide (0 ≤ y.kind) && decide (y.kind ≤ 1))))))) := Lib.hid rfl
      obtain ⟨p1, hp1⟩ : ∃ p, p = pageB y.ipa y.size := ⟨_, rfl⟩
      obtain ⟨p2, hp2⟩ : ∃ p, p = pageB y.pa y.size := ⟨_, rfl⟩
      rw [← hp1] at HP1 HGD
      rw [← hp2] at HP2 HGD
      unfold EqV at HP1 HP2
      clear g1 hcp hlt hr hX b1 a1 hyb hy hp1 hp2 HOF0 HP0
      go_upto_region 4 with (first
        | ((with_reducible show wpList _ _ _ (Oper.mk _ (.load _ _) _ _ _ _ :: _) _ _); refine wl_load_q rfl 87 _ rfl q rfl _ (run_load_q HCP.out Tryz.underlying87 rfl infoMp) ?_)
        | ((with_reducible show wpList _ _ _ (Oper.mk _ (.store _ _ _) _ _ _ _ :: _) _ _); refine wl_store rfl 87 _ _ rfl _ rfl _ rfl (run_store_arr (Arr.new W _ _ _) (mpE y) infoMp (mpE_one _ _)) ?_))
      rw [← HX.out, ← HRR.out]
      clear HX HCP HRR
      cases p1
      · have HF := Lib.hid (HF0.out (by rw [HGD.out]; rfl))
        clear HF0 HN0 HS1
        go_wp2_with (first
          | (go_at_call 34; (with_reducible show Calls _ _ #[.int .u64 y.ipa, _] _ _); refine (HP1.out _).mono ?_; rintro e w2 ⟨rfl, hd⟩; have HD := Lib.hid (HBX.out.trans (hd.mono HBX.out.size)); clear hd))
        go_ret
        exact ⟨by rw [HF.out]; rfl, HD.out⟩
      have PCELL : ∀ Y, Arr Y r 87 5 (mpE y) → Y.cell? ⟨r, 1, none⟩ = some (.int .u64 y.pa) ∧ Y.cell? ⟨r, 2, none⟩ = some (.int .u64 y.size) ∧ Y.cell? ⟨r, 3, none⟩ = some (.int .i64 y.perm) ∧ Y.cell? ⟨r, 4, none⟩ = some (.int .i64 y.kind) ∧ Y.cell? ⟨r, 0, none⟩ = some (.int .u64 y.ipa) := fun Y h => ⟨h.cell (i := 1) (by decide), h.cell (i := 2) (by decide), h.cell (i := 3) (by decide), h.cell (i := 4) (by decide), h.cell (i := 0) (by decide)⟩
      have HPC := Lib.hid PCELL
      clear PCELL
      cases p2
      · have HF := Lib.hid (HF0.out (by rw [HGD.out]; rfl))
        clear HF0 HN0 HS1
        go_wp2_with (first
          | (go_at_call 34; (with_reducible show Calls _ _ #[.int .u64 y.ipa, _] _ _); refine (HP1.out _).mono ?_; rintro e w2 ⟨rfl, hd⟩; have HD := Lib.hid (HBX.out.trans (hd.mono HBX.out.size)); have HA := Lib.hid (HA.out.under hd); obtain ⟨z1, z2, -⟩ := HPC.out _ HA.out; clear hd)
          | (go_at_call 34; (with_reducible show Calls _ _ #[.int .u64 y.pa, _] _ _); refine (HP2.out _).mono ?_; rintro e w3 ⟨rfl, hd⟩; have HD := Lib.hid (HD.out.trans (hd.mono HD.out.size)); have HA := Lib.hid (HA.out.under hd); obtain ⟨-, -, z3, z4, z0⟩ := HPC.out _ HA.out; clear hd))
        go_ret
        exact ⟨by rw [HF.out]; rfl, HD.out⟩
      by_cases t1 : y.perm < 1
      · have HF := Lib.hid (HF0.out (by rw [HGD.out, decide_eq_false (p := 1 ≤ y.perm) (by omega)]; rfl))
        clear HF0 HN0 HS1
        go_wp2_with (first
          | (go_at_call 34; (with_reducible show Calls _ _ #[.int .u64 y.ipa, _] _ _); refine (HP1.out _).mono ?_; rintro e w2 ⟨rfl, hd⟩; have HD := Lib.hid (HBX.out.trans (hd.mono HBX.out.size)); have HA := Lib.hid (HA.out.under hd); obtain ⟨z1, z2, -⟩ := HPC.out _ HA.out; clear hd)
          | (go_at_call 34; (with_reducible show Calls _ _ #[.int .u64 y.pa, _] _ _); refine (HP2.out _).mono ?_; rintro e w3 ⟨rfl, hd⟩; have HD := Lib.hid (HD.out.trans (hd.mono HD.out.size)); have HA := Lib.hid (HA.out.under hd); obtain ⟨-, -, z3, z4, z0⟩ := HPC.out _ HA.out; clear hd))
        go_ret
        exact ⟨by rw [HF.out]; rfl, HD.out⟩
      by_cases t2 : 7 < y.perm
      · have HF := Lib.hid (HF0.out (by rw [HGD.out, decide_eq_false (p := y.perm ≤ 7) (by omega)]; simp))
        clear HF0 HN0 HS1
        go_wp2_with (first
          | (go_at_call 34; (with_reducible show Calls _ _ #[.int .u64 y.ipa, _] _ _); refine (HP1.out _).mono ?_; rintro e w2 ⟨rfl, hd⟩; have HD := Lib.hid (HBX.out.trans (hd.mono HBX.out.size)); have HA := Lib.hid (HA.out.under hd); obtain ⟨z1, z2, -⟩ := HPC.out _ HA.out; clear hd)
          | (go_at_call 34; (with_reducible show Calls _ _ #[.int .u64 y.pa, _] _ _); refine (HP2.out _).mono ?_; rintro e w3 ⟨rfl, hd⟩; have HD := Lib.hid (HD.out.trans (hd.mono HD.out.size)); have HA := Lib.hid (HA.out.under hd); obtain ⟨-, -, z3, z4, z0⟩ := HPC.out _ HA.out; clear hd))
        go_ret
        exact ⟨by rw [HF.out]; rfl, HD.out⟩
      by_cases t3 : y.kind < 0
      · have HF := Lib.hid (HF0.out (by rw [HGD.out, decide_eq_false (p := 0 ≤ y.kind) (by omega)]; simp))
        clear HF0 HN0 HS1
        go_wp2_with (first
          | (go_at_call 34; (with_reducible show Calls _ _ #[.int .u64 y.ipa, _] _ _); refine (HP1.out _).mono ?_; rintro e w2 ⟨rfl, hd⟩; have HD := Lib.hid (HBX.out.trans (hd.mono HBX.out.size)); have HA := Lib.hid (HA.out.under hd); obtain ⟨z1, z2, -⟩ := HPC.out _ HA.out; clear hd)
          | (go_at_call 34; (with_reducible show Calls _ _ #[.int .u64 y.pa, _] _ _); refine (HP2.out _).mono ?_; rintro e w3 ⟨rfl, hd⟩; have HD := Lib.hid (HD.out.trans (hd.mono HD.out.size)); have HA := Lib.hid (HA.out.under hd); obtain ⟨-, -, z3, z4, z0⟩ := HPC.out _ HA.out; clear hd))
        go_ret
        exact ⟨by rw [HF.out]; rfl, HD.out⟩
      by_cases t4 : 1 < y.kind
      · have HF := Lib.hid (HF0.out (by rw [HGD.out, decide_eq_false (p := y.kind ≤ 1) (by omega)]; simp))
        clear HF0 HN0 HS1
        go_wp2_with (first
          | (go_at_call 34; (with_reducible show Calls _ _ #[.int .u64 y.ipa, _] _ _); refine (HP1.out _).mono ?_; rintro e w2 ⟨rfl, hd⟩; have HD := Lib.hid (HBX.out.trans (hd.mono HBX.out.size)); have HA := Lib.hid (HA.out.under hd); obtain ⟨z1, z2, -⟩ := HPC.out _ HA.out; clear hd)
          | (go_at_call 34; (with_reducible show Calls _ _ #[.int .u64 y.pa, _] _ _); refine (HP2.out _).mono ?_; rintro e w3 ⟨rfl, hd⟩; have HD := Lib.hid (HD.out.trans (hd.mono HD.out.size)); have HA := Lib.hid (HA.out.under hd); obtain ⟨-, -, z3, z4, z0⟩ := HPC.out _ HA.out; clear hd))
        go_ret
        exact ⟨by rw [HF.out]; rfl, HD.out⟩
      have hgd : gdM y = true := by rw [HGD.out, decide_eq_true (p := 1 ≤ y.perm) (by omega), decide_eq_true (p := y.perm ≤ 7) (by omega), decide_eq_true (p := 0 ≤ y.kind) (by omega), decide_eq_true (p := y.kind ≤ 1) (by omega)]; rfl
      have HGG := Lib.hid hgd
      clear hgd HF0
      go_upto_region 6 with (first
          | (go_at_call 34; (with_reducible show Calls _ _ #[.int .u64 y.ipa, _] _ _); refine (HP1.out _).mono ?_; rintro e w2 ⟨rfl, hd⟩; have HD := Lib.hid (HBX.out.trans (hd.mono HBX.out.size)); have HA := Lib.hid (HA.out.under hd); obtain ⟨z1, z2, -⟩ := HPC.out _ HA.out; clear hd)
          | (go_at_call 34; (with_reducible show Calls _ _ #[.int .u64 y.pa, _] _ _); refine (HP2.out _).mono ?_; rintro e w3 ⟨rfl, hd⟩; have HD := Lib.hid (HD.out.trans (hd.mono HD.out.size)); have HA := Lib.hid (HA.out.under hd); obtain ⟨-, -, z3, z4, z0⟩ := HPC.out _ HA.out; clear hd))
      clear z0 z1 z2 z3 z4 t1 t2 t3 t4
      have z4 := (HPC.out _ HA.out).2.2.2.2
      by_cases hk0 : k = 0
      · have HS := Lib.hid (HN0.out hk0 HGG.out)
        clear HN0 HS1
        subst hk0
        go_quiet (fail)
        go_wp2_with fail
        go_roundw
        case rel => exact ⟨1, by omega, by go_num, HS, Lib.hid (below_drewN HD.out _)⟩
        case measure => simp [intOf]; omega
      · obtain ⟨j, hj⟩ : ∃ j, j + 1 = k := ⟨k - 1, by omega⟩
        obtain ⟨z, q2, hq2, hcz, u1, u2, u3, hyes, hno⟩ := HS1.out j hj
        obtain ⟨e0, e2⟩ := hcz _ HD.out
        have hk1 : (0 : Int) < (k : Int) := by omega
        have hk1n : 0 < k := by omega
        have hkd : decide (0 < k) = true := decide_eq_true hk1n
        have hkj : (k : Int) - 1 = (j : Int) := by omega
        have hjN : (j : Int) < (N : Int) := by omega
        have hjN2 : j < N := by omega
        have wz : IntKind.u64.wrap (z.ipa + z.size) = z.ipa + z.size := by rw [IntKind.wrap_u64]; omega
        have wj : IntKind.i64.wrap (j : Int) = (j : Int) := by rw [IntKind.wrap_i64]; omega
        clear HN0 HS1 hcz u1 u2 u3 hk0
        by_cases hle : z.ipa + z.size ≤ y.ipa
        · have HS := Lib.hid (hyes HGG.out hle)
          have hlt2 : ¬ y.ipa < z.ipa + z.size := by omega
          have HJ := Lib.hid hj
          clear hyes hno hle hj
          go_quiet (fail)
          go_wp2_with fail
          go_roundw
          case rel => exact ⟨k + 1, by omega, by go_num, HS, Lib.hid (below_drewN HD.out _)⟩
          case measure => simp [intOf]; omega
        · have HF := Lib.hid (hno (by omega))
          have hlt2 : y.ipa < z.ipa + z.size := by omega
          have HJ := Lib.hid hj
          clear hyes hno hle hj
          go_quiet (fail)
          go_wp2_with fail
          go_ret
          exact ⟨by rw [HF.out]; rfl, below_drewN HD.out _⟩
    · obtain rfl : k = N := by omega
      have HO := Lib.hid (HALL.out (by have h := HP0.out; rw [HNL.out] at h; exact h))
      clear hlt0
      go_wp2_with fail
      go_ret
      exact ⟨by rw [HO.out]; rfl, HB.out⟩
end Go.Proofs.YtkaipknkjocfiaaGreat
