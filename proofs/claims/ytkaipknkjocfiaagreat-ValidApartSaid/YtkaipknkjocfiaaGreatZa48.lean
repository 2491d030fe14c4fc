import Derived.Test.YtkaipknkjocfiaaGreatZa47
namespace Go.Proofs.YtkaipknkjocfiaaGreat
open Go.RowKit Go.Maps
attribute [local go_sem ↓ high] zeroSp zeroGu zeroWi zeroIr zeroKeyB zeroCf zeroCh zeroBd
theorem row_arr {α : Type} {n : Nat} {enc : α → Nat → Value} {Y : World} {g : Nat} {t : TypeId} {y : α} (h : Arr Y g t n (enc y)) : RowE n enc Y Y.heap.size (some ⟨g, 0, none⟩) [y] := fun _ =>
 ⟨_, rfl, h.lt, fun j hj i hi => by
  have hj : j < 1 := hj
  obtain rfl : j = 0 := by omega
  rw [add_atM, Nat.zero_add, Nat.zero_mul, Nat.zero_add]
  exact h.cell hi⟩
theorem row_heap {α : Type} {n : Nat} {enc : α → Nat → Value} {Y : World} {g : Nat} {t : TypeId} {l : List α} (h : Y.heap[g]? = some (.cells (cellsE n enc l).toArray t (0, 0))) : RowE n enc Y Y.heap.size (some ⟨g, 0, none⟩) l := fun _ =>
 ⟨_, rfl, lt_of_heap h, fun j hj i hi => by
  rw [add_atM, Nat.zero_add]
  refine (cell_of_row Y g _ _ t (0, 0) h).trans ?_
  rw [List.getElem?_toArray]
  exact cellsE_get l j hj i hi⟩
theorem small_row {Y : World} {B cpu pa g1 g3 g4 : Nat} (nm key : By) (h : GMade B Y cpu pa g1 g3 g4) : GRow Y Y.heap.size (gvS nm cpu pa key g1 g3 g4) :=
 ⟨⟨_, _, rfl, row_arr h.w, by show 1 ≤ 9223372036854775807; decide⟩, ⟨none, 0, rfl, RowE.nil _ _ _, by show 0 ≤ 9223372036854775807; decide⟩, ⟨_, _, rfl, row_arr h.i, by show 1 ≤ 9223372036854775807; decide⟩, ⟨_, _, rfl, row_arr h.s, by show 1 ≤ 9223372036854775807; decide⟩⟩
theorem small_cfr {Y : World} {B pages pa gG gC g1 g3 g4 h1 h3 h4 : Nat} {key : By} (hgs : Y.heap[gG]? = some (.cells (cellsE 79 guestE [gvS nm0 0 1074790400 key g1 g3 g4, gvS nm1 1 pa key h1 h3 h4]).toArray 63 (0, 0))) (hch : Arr Y gC 47 8 (chE (chS pages)))
   (m0 : GMade B Y 0 1074790400 g1 g3 g4) (m1 : GMade B Y 1 pa h1 h3 h4) : CfRW Y Y.heap.size (xSP pages key pa) (.slice (some ⟨gG, 0, none⟩) 2 2) (.slice (some ⟨gC, 0, none⟩) 1 1) := by
 have hg : GsR Y Y.heap.size (some ⟨gG, 0, none⟩) [gvS nm0 0 1074790400 key g1 g3 g4, gvS nm1 1 pa key h1 h3 h4] := ⟨row_heap hgs, fun y hy => by
   rcases List.mem_cons.1 hy with rfl | hy
   · exact small_row _ _ m0
   · obtain rfl := List.mem_singleton.1 hy
     exact small_row _ _ m1⟩
 refine ⟨⟨⟨_, _, _, rfl, rfl, hg, by show 2 ≤ 9223372036854775807; decide⟩, ⟨_, _, rfl, row_arr hch, by show 1 ≤ 9223372036854775807; decide⟩⟩, ⟨_, _, _, rfl, rfl, hg, fun y hy => ?_⟩⟩
 rcases List.mem_cons.1 hy with rfl | hy
 · exact ⟨_, _, rfl, Nat.le_refl 1⟩
 · obtain rfl := List.mem_singleton.1 hy
   exact ⟨_, _, rfl, Nat.le_refl 1⟩
theorem small_gsB (nm key : By) (hl : key.length = 68) (cpu pa : Nat) (hc : cpu ≤ 1) (hp : pa ≤ 18446744073709551615) : GsB (gsS nm cpu pa key) := by
 refine ⟨by show (0 : Int) ≤ 0 ∧ (0 : Int) ≤ 4294967295; decide, by show (0 : Int) ≤ 0 ∧ (0 : Int) ≤ 4294967295; decide, ?_, by show (0 : Int) ≤ 4096 ∧ (4096 : Int) ≤ 18446744073709551615; decide, by show (0 : Int) ≤ 0 ∧ (0 : Int) ≤ 18446744073709551615; decide, hl, fun y hy => ?_, (fun y hy => by cases hy), fun y hy => ?_, fun y hy => ?_⟩
 · show u32B (2 ^ cpu)
   rcases (by omega : cpu = 0 ∨ cpu = 1) with rfl | rfl <;> (unfold u32B; decide)
 · obtain rfl := List.mem_singleton.1 hy
   unfold WiB u64B i64B wiS
   simp only
   omega
 · obtain rfl := List.mem_singleton.1 hy
   unfold IrB i64B irS
   simp only
   omega
 · obtain rfl := List.mem_singleton.1 hy
   unfold u32B
   omega
theorem small_B (pages : Nat) (hp : pages ≤ 64) (key : By) (hl : key.length = 68) (pa : Nat) (hpa : pa ≤ 18446744073709551615) : CfB (xSP pages key pa) := by
 refine ⟨by show (0 : Int) ≤ 1 ∧ (1 : Int) ≤ 4294967295; decide, fun g hg => ?_, fun y hy => ?_⟩
 · rcases List.mem_cons.1 hg with rfl | hg
   · exact small_gsB _ _ hl _ _ (by decide) (by decide)
   · obtain rfl := List.mem_singleton.1 hg
     exact small_gsB _ _ hl _ _ (by decide) hpa
 · obtain rfl := List.mem_singleton.1 hy
   unfold ChB EnB u64B i64B chS
   simp only
   omega
theorem small_few (pages : Nat) (key : By) (pa : Nat) : fewC (xSP pages key pa) = true := by kernel_rfl
theorem fit_bS : fit bS.r ∧ fit bS.l := by unfold fit bS; decide
set_option maxHeartbeats 16000000 in
set_option maxRecDepth 100000 in
theorem awake17 (w : World) : Calls Tryz.prog 8 #[] w fun e w' => e = .returned (.bool true) ∧ Below w.heap.size w w' := by
 obtain ⟨r1, hr1⟩ : ∃ r, r = w.heap.size := ⟨_, rfl⟩
 obtain ⟨V, hV⟩ : ∃ V, V = (w.alloc (.cells (vec 68 (bys zb)) 52)).setRow w.heap.size (vec 68 (bys (kF keyA))) := ⟨_, rfl⟩
 have bV : Below w.heap.size w V := by rw [hV]; exact below_row ((Below.refl _ _).alloc (Nat.le_refl _) _) (Nat.le_refl _) _
 have HA1 : Hid (Arr V r1 52 68 (bys (kF keyA))) := Lib.hid (by rw [hV, hr1]; exact (Arr.new w _ _ _).row _)
 have HB := Lib.hid bV
 have HV := Lib.hid hV
 have HR1 := Lib.hid hr1
 have HSM : Hid (Calls Tryz.prog 16 #[.int .u64 1, .agg (vec 68 (bys (kF keyA)))] V (SmallC 1 keyA V)) := Lib.hid (small_any 1 (by decide) keyA V)
 clear hr1 hV bV
 go_enter Tryz.func8, Tryz.ntmps8
 go_upto_region 2 with (first
  | ((with_reducible show wpList _ _ _ (Oper.mk _ (.build _ _) _ _ _ _ :: _) _ _); refine wl_build rfl 52 _ rfl (vec 68 (bys (kF keyA))) (by kernel_rfl) ?_)
  | ((with_reducible show wpList _ _ _ (Oper.mk _ (.store _ _ _) _ _ _ _ :: _) _ _); refine wl_store rfl 52 _ _ rfl _ rfl _ rfl (run_store_arr (Arr.new w _ _ _) (bys (kF keyA)) info_key (fun _ _ => rfl)) ?_))
 rw [← HV.out, ← HR1.out]
 clear HV HR1
 go_upto_region 3 with (first
  | ((with_reducible show wpList _ _ _ (Oper.mk _ (.load _ _) _ _ _ _ :: _) _ _); refine wl_load rfl 52 _ rfl r1 rfl _ (run_load_arr HA1.out Tryz.underlying52 rfl info_key) ?_)
  | (go_at_call 16; refine HSM.out.mono ?_; rintro e w1 ⟨gG, gC, g1, g3, g4, h1, h3, h4, rfl, hsa, hd⟩; have HSA := Lib.hid hsa; have HD := Lib.hid hd; clear hsa hd)
  | ((with_reducible show wpList _ _ _ (Oper.mk _ (.store 26 _ _) _ _ _ _ :: _) _ _); refine wl_store rfl 26 _ _ rfl _ rfl _ rfl (run_store_arr ((Arr.new w1 _ _ _).alloc _) (bdE bS) infoBd (bdE_one _ _)) ?_)
  | ((with_reducible show wpList _ _ _ (Oper.mk _ (.store 31 _ _) _ _ _ _ :: _) _ _); refine wl_store rfl 31 _ _ rfl (w1.heap.size + 1) rfl _ rfl (run_store_arr ((Arr.newAt _ _ _ _ (by simp)).rowFar (by omega) _) (cfE 1 (.slice (some ⟨gG, 0, none⟩) 2 2) (.slice (some ⟨gC, 0, none⟩) 1 1)) infoCf (cfE_one _ _ _ rfl rfl _)) ?_))
 (try simp only [Act.put])
 obtain ⟨A9, hA9⟩ : ∃ v : Value, v = .slice (some ⟨gG, 0, none⟩) 2 2 := ⟨_, rfl⟩
 obtain ⟨C9, hC9⟩ : ∃ v : Value, v = .slice (some ⟨gC, 0, none⟩) 1 1 := ⟨_, rfl⟩
 obtain ⟨r3, hr3⟩ : ∃ r, r = w1.heap.size + 1 := ⟨_, rfl⟩
 obtain ⟨r2, hr2⟩ : ∃ r, r = w1.heap.size := ⟨_, rfl⟩
 obtain ⟨W2, hW2⟩ : ∃ W, W = (((w1.alloc (.cells (vec 7 (bdE zBd)) 26)).alloc (.cells (vec 3 (cfE 0 nilV nilV)) 31)).setRow w1.heap.size (vec 7 (bdE bS))).setRow (w1.heap.size + 1) (vec 3 (cfE 1 (.slice (some ⟨gG, 0, none⟩) 2 2) (.slice (some ⟨gC, 0, none⟩) 1 1))) := ⟨_, rfl⟩
 rw [← hW2, ← hr3, ← hr2]
 have b12 : Below w1.heap.size w1 W2 := by
  rw [hW2]
  exact below_row (below_row ((Below.alloc_own w1 _).alloc (by simp) _) (Nat.le_refl _) _) (by omega) _
 have k2 : Arr W2 r2 26 7 (bdE bS) := by rw [hW2, hr2]; exact (((Arr.new w1 _ _ _).alloc _).row _).rowFar (by omega) _
 have k3 : Arr W2 r3 31 3 (cfE 1 A9 C9) := by rw [hW2, hr3, hA9, hC9]; exact ((Arr.newAt _ _ _ _ (by simp)).rowFar (by omega) _).row _
 have hsa := HSA.out
 have q0 := hsa.m0.under b12
 have q1 := hsa.m1.under b12
 have qc := hsa.ch.under b12
 have qg := (b12.block _ (lt_of_heap hsa.gs)).trans hsa.gs
 have hc1 : CfRW W2 W2.heap.size (xSP 1 keyA 1075838976) A9 C9 := by rw [hA9, hC9]; exact small_cfr qg qc q0 q1
 have HC1 : Hid (Calls Tryz.prog 10 #[.agg (vec 7 (bdE bS)), .agg (vec 3 (cfE 1 A9 C9))] W2 fun e w' => e = .returned (.tuple #[.int .i64 0, .int .i64 0, .int .i64 0]) ∧ Below W2.heap.size W2 w') := Lib.hid (by
  refine (kcheck_any (xSP 1 keyA 1075838976) A9 C9 bS W2 hc1 (small_B 1 (by decide) keyA keyA_ok.2 _ (by decide)) (small_few _ _ _) fit_bS.1 fit_bS.2).mono fun e w' hh => ?_
  obtain ⟨h1, h2⟩ := hh
  rw [← xS_is, small_check 1 keyA (by decide) (by decide) keyA_ok.1 keyA_ok.2] at h1
  exact ⟨h1, h2⟩)
 have hne1 : gG ≠ h1 := fun e => by
  have hw := q1.w
  unfold Arr at hw
  rw [← e, qg] at hw
  injection hw with hw
  injection hw with _ hw _
  exact absurd hw (by decide)
 have HLT : Hid (w.heap.size ≤ V.heap.size ∧ V.heap.size ≤ w1.heap.size) := Lib.hid ⟨HB.out.size, HD.out.size⟩
 have HF : Hid (∀ w3, Below W2.heap.size W2 w3 → (w3.cell? ⟨r3, 1, none⟩ = some (.slice (some ⟨gG, 0, none⟩) 2 2) ∧ w3.cell? ⟨gG, 154, none⟩ = some (.slice (some ⟨h1, 0, none⟩) 1 1) ∧ w3.cell? ⟨h1, 1, none⟩ = some (.int .u64 1075838976) ∧ w3.frozen? ⟨h1, 1, none⟩ = false) ∧ Arr w3 r2 26 7 (bdE bS) ∧ Arr w3 r3 31 3 (cfE 1 A9 C9)) := Lib.hid fun w3 hw3 => by
  refine ⟨⟨by rw [← hA9]; exact (k3.under hw3).cell (i := 1) (by decide), ?_, (q1.w.under hw3).cell (i := 1) (by decide), (q1.w.under hw3).frozen 1⟩, k2.under hw3, k3.under hw3⟩
  have := (hw3.block _ (lt_of_heap qg)).trans qg
  exact (cell_of_row w3 gG 154 _ _ (0, 0) this).trans (by rw [List.getElem?_toArray]; exact cellsE_get (n := 79) (enc := guestE) [gvS nm0 0 1074790400 keyA g1 g3 g4, gvS nm1 1 1075838976 keyA h1 h3 h4] 1 (by simp) 75 (by decide))
 have HC2 : Hid (∀ w3 W4, Below W2.heap.size W2 w3 → W4 = w3.setCell ⟨h1, 1, none⟩ (.int .u64 1074786304) → (Calls Tryz.prog 10 #[.agg (vec 7 (bdE bS)), .agg (vec 3 (cfE 1 A9 C9))] W4 fun e w' => e = .returned (.tuple #[.int .i64 4, .int .i64 1, .int .i64 170]) ∧ Below W4.heap.size W4 w') ∧ Arr W4 r2 26 7 (bdE bS) ∧ Arr W4 r3 31 3 (cfE 1 A9 C9) ∧ Below w.heap.size w W4) := Lib.hid fun w3 W4 hw3 hW4 => by
  have p0 := q0.under hw3
  have p1 := q1.under hw3
  have pc := qc.under hw3
  have pg := (hw3.block _ (lt_of_heap qg)).trans qg
  have hlo := p1.lo
  have far : ∀ {g n : Nat} {t : TypeId} {f : Nat → Value}, Arr w3 g t n f → g ≠ h1 → Arr W4 g t n f := fun h hne => by rw [hW4]; exact h.far (p := ⟨h1, 1, none⟩) hne _
  have hIW : (65 : TypeId) ≠ 67 := by decide
  have hUW : (27 : TypeId) ≠ 67 := by decide
  have hCW : (47 : TypeId) ≠ 67 := by decide
  have p0' : GMade V.heap.size W4 0 1074790400 g1 g3 g4 := ⟨p0.lo, far p0.w hsa.lo.2.2, far p0.i (arr_ne p0.i p1.w hIW), far p0.s (arr_ne p0.s p1.w hUW)⟩
  have pw : Arr W4 h1 67 4 (winE (wiS 1074786304)) := by
    rw [hW4]
    refine (p1.w.set 1 _).congr fun i hi => ?_
    rcases (by omega : i = 0 ∨ i = 1 ∨ i = 2 ∨ i = 3) with rfl | rfl | rfl | rfl <;> rfl
  have p1' : GMade V.heap.size W4 1 1074786304 h1 h3 h4 := ⟨p1.lo, pw, far p1.i (arr_ne p1.i p1.w hIW), far p1.s (arr_ne p1.s p1.w hUW)⟩
  have pc' := far pc (arr_ne pc p1.w hCW)
  have pg' : W4.heap[gG]? = some (.cells (cellsE 79 guestE [gvS nm0 0 1074790400 keyA g1 g3 g4, gvS nm1 1 1074786304 keyA h1 h3 h4]).toArray 63 (0, 0)) := by
    rw [hW4]
    exact (Below.heap_setCell w3 ⟨h1, 1, none⟩ _ gG hne1).trans pg
  have hc2 : CfRW W4 W4.heap.size (xSP 1 keyA 1074786304) A9 C9 := by rw [hA9, hC9]; exact small_cfr pg' pc' p0' p1'
  have hr2l := (k2.under hw3).lt
  have n2 : r2 ≠ h1 := fun e => by have hz := hsa.m1.w.lt; omega
  have n3 : r3 ≠ h1 := fun e => by have hz := hsa.m1.w.lt; omega
  refine ⟨?_, far (k2.under hw3) n2, far (k3.under hw3) n3, ?_⟩
  · refine (kcheck_any (xSP 1 keyA 1074786304) A9 C9 bS W4 hc2 (small_B 1 (by decide) keyA keyA_ok.2 _ (by decide)) (small_few _ _ _) fit_bS.1 fit_bS.2).mono fun e w' hh => ?_
    obtain ⟨h1, h2⟩ := hh
    rw [bad_check] at h1
    exact ⟨h1, h2⟩
  · rw [hW4]
    have hl1 := HLT.out
    have hlo2 := hsa.m1.lo
    have hs2 := b12.size
    exact ((((HB.out.trans (HD.out.mono hl1.1)).trans (b12.mono (by omega))).trans (hw3.mono (by omega)))).setCell (p := ⟨h1, 1, none⟩) (by show w.heap.size ≤ h1; omega) _
 have HK2 := Lib.hid (And.intro k2 k3)
 clear hA9 hC9 hr3 hr2 hW2 b12 k2 k3 hsa q0 q1 qc qg hc1 hne1 HSA HA1 HSM
 obtain ⟨A8, hA8⟩ : ∃ v : Value, v = A9 := ⟨_, rfl⟩
 go_upto_region 4 with (first
  | ((with_reducible show wpList _ _ _ (Oper.mk _ (.load 26 _) _ _ _ _ :: _) _ _); refine wl_load rfl 26 _ rfl r2 rfl _ (run_load_arr HK2.out.1 Tryz.underlying26 rfl infoBd) ?_)
  | ((with_reducible show wpList _ _ _ (Oper.mk _ (.load 31 _) _ _ _ _ :: _) _ _); refine wl_load rfl 31 _ rfl r3 rfl _ (run_load_arr HK2.out.2 Tryz.underlying31 rfl infoCf) ?_)
  | (go_at_call 10; refine HC1.out.mono ?_; rintro e w3 ⟨rfl, hd⟩; have HD3 := Lib.hid hd; clear hd))
 clear hA8 A8
 obtain ⟨⟨x1, x2, x3, x4⟩, x5, x6⟩ := HF.out w3 HD3.out
 clear x5 x6
 go_upto_region 5 with fail
 (try simp only [Act.put])
 obtain ⟨W4, hW4⟩ : ∃ W, W = w3.setCell ⟨h1, 1, none⟩ (.int .u64 1074786304) := ⟨_, rfl⟩
 rw [← hW4]
 have HZ := Lib.hid (HC2.out w3 W4 HD3.out hW4)
 clear hW4 x1 x2 x3 x4
 go_wp2_with (first
  | ((with_reducible show wpList _ _ _ (Oper.mk _ (.load 26 _) _ _ _ _ :: _) _ _); refine wl_load rfl 26 _ rfl r2 rfl _ (run_load_arr HZ.out.2.1 Tryz.underlying26 rfl infoBd) ?_)
  | ((with_reducible show wpList _ _ _ (Oper.mk _ (.load 31 _) _ _ _ _ :: _) _ _); refine wl_load rfl 31 _ rfl r3 rfl _ (run_load_arr HZ.out.2.2.1 Tryz.underlying31 rfl infoCf) ?_)
  | (go_at_call 10; refine HZ.out.1.mono ?_; rintro e w5 ⟨rfl, hd⟩; have HD5 := Lib.hid hd; clear hd))
 go_ret
 exact ⟨rfl, HZ.out.2.2.2.trans (HD5.out.mono (HZ.out.2.2.2.size))⟩
end Go.Proofs.YtkaipknkjocfiaaGreat
namespace Go.Proofs.YtkaipknkjocfiaaGreat
open Go.RowKit Go.Maps
attribute [local go_sem ↓ high] zeroSp zeroCf zeroBd zeroCh
set_option maxHeartbeats 8000000 in
set_option maxRecDepth 100000 in
theorem lawOverlap_no (l k : List Sp) (A B : Option Addr) (c d : Nat) (w : World) (hl : l.length ≤ 1000000) (hk : k.length ≤ 1000000) (hfl : ∀ x ∈ l, fit x) (hfk : ∀ x ∈ k, fit x) (h1 : RowE 2 spE w w.heap.size A l) (h2 : RowE 2 spE w w.heap.size B k)
  (hno : ∀ x ∈ l, ∀ y ∈ k, overlap x y = false) : Calls Tryz.prog 13 #[.slice A l.length c, .slice B k.length d] w (EqV false w) := by
 have HA : Hid (∀ Y, Below w.heap.size w Y → RowE 2 spE Y Y.heap.size A l) := Lib.hid fun Y hY => h1.up hY
 have HB : Hid (∀ Y, Below w.heap.size w Y → RowE 2 spE Y Y.heap.size B k) := Lib.hid fun Y hY => h2.up hY
 have HNO := Lib.hid hno
 have HFL := Lib.hid (And.intro hfl hfk)
 obtain ⟨N, hN⟩ : ∃ N, N = l.length := ⟨_, rfl⟩
 obtain ⟨M, hM⟩ : ∃ N, N = k.length := ⟨_, rfl⟩
 rw [← hN] at hl ⊢
 rw [← hM] at hk ⊢
 have HN := Lib.hid (And.intro hN hM)
 clear hN hM hno hfl hfk h1 h2
 unfold EqV
 go_enter Tryz.func13, Tryz.ntmps13
 go_upto_region 2 with fail
 go_loopw [11] (fun v W => ∃ i : Nat, i ≤ N ∧ v = .int .i64 i ∧ Hid (Below w.heap.size w W)) (fun v _ => N - (intOf v).toNat)
 case atStart => exact ⟨0, Nat.zero_le _, rfl, Lib.hid (Below.refl _ _)⟩
 case round =>
  obtain ⟨i, hi, rfl, HR⟩ := hrel
  by_cases hlt : i < N
  · have hig : (i : Int) < (N : Int) := by omega
    obtain ⟨W, hW⟩ : ∃ W : World, W = wr := ⟨_, rfl⟩
    subst hW
    have hil : i < l.length := by have := HN.out.1; omega
    obtain ⟨b0, q, ea, hq, -, hcp⟩ := (HA.out W HR.out).at hil
    obtain ⟨x, hx⟩ : ∃ x, x = l[i] := ⟨_, rfl⟩
    rw [← hx] at hcp
    have HXM : Hid (x ∈ l) := Lib.hid (by rw [hx]; exact List.getElem_mem hil)
    have HCP := Lib.hid hcp
    subst ea
    clear hcp hx hil
    go_upto_region 4 with (first
     | ((with_reducible show wpList _ _ _ (Oper.mk _ (.load _ _) _ _ _ _ :: _) _ _); refine wl_load_q rfl 24 _ rfl q rfl _ (run_load_q HCP.out Tryz.underlying24 rfl infoSp) ?_)
     | ((with_reducible show wpList _ _ _ (Oper.mk _ (.store _ _ _) _ _ _ _ :: _) _ _); refine wl_store rfl 24 _ _ rfl _ rfl _ rfl (run_store_arr (Arr.new W _ _ _) (spE x) infoSp (spE_one _ _)) ?_))
    obtain ⟨t, ht⟩ : ∃ t, t = W.heap.size := ⟨_, rfl⟩
    obtain ⟨X1, hX⟩ : ∃ X, X = (W.alloc (.cells (vec 2 (spE (0, 0))) 24)).setRow W.heap.size (vec 2 (spE x)) := ⟨_, rfl⟩
    have bx : Below W.heap.size W X1 := by rw [hX]; exact below_row ((Below.refl _ _).alloc (Nat.le_refl _) _) (Nat.le_refl _) _
    have at1 : Arr X1 t 24 2 (spE x) := by rw [hX, ht]; exact (Arr.new W _ _ _).row _
    rw [← hX, ← ht]
    have HX1 := Lib.hid (And.intro at1 (HR.out.trans (bx.mono HR.out.size)))
    clear hX ht bx at1 HCP
    go_upto_region 5 with fail
    go_loopw [17] (fun v W => ∃ j : Nat, j ≤ M ∧ v = .int .i64 j ∧ Hid (Arr W t 24 2 (spE x) ∧ Below w.heap.size w W)) (fun v _ => M - (intOf v).toNat)
    case atStart => exact ⟨0, Nat.zero_le _, rfl, HX1⟩
    case round =>
     clear HX1
     obtain ⟨j, hj, rfl, HR⟩ := hrel
     obtain ⟨W, hW⟩ : ∃ W : World, W = wr := ⟨_, rfl⟩
     subst hW
     by_cases hlt2 : j < M
     · have hji : (j : Int) < (M : Int) := by omega
       have hjl : j < k.length := by have := HN.out.2; omega
       obtain ⟨b1, q1, eb, hq1, -, hcp⟩ := (HB.out W HR.out.2).at hjl
       obtain ⟨y, hy⟩ : ∃ x, x = k[j] := ⟨_, rfl⟩
       rw [← hy] at hcp
       have HYM : Hid (y ∈ k) := Lib.hid (by rw [hy]; exact List.getElem_mem hjl)
       have HCP := Lib.hid hcp
       subst eb
       clear hcp hy hjl
       go_upto_region 7 with (first
        | ((with_reducible show wpList _ _ _ (Oper.mk _ (.load _ _) _ _ _ _ :: _) _ _); refine wl_load_q rfl 24 _ rfl q1 rfl _ (run_load_q HCP.out Tryz.underlying24 rfl infoSp) ?_)
        | ((with_reducible show wpList _ _ _ (Oper.mk _ (.store _ _ _) _ _ _ _ :: _) _ _); refine wl_store rfl 24 _ _ rfl _ rfl _ rfl (run_store_arr (Arr.new W _ _ _) (spE y) infoSp (spE_one _ _)) ?_))
       obtain ⟨t2, ht2⟩ : ∃ t, t = W.heap.size := ⟨_, rfl⟩
       obtain ⟨X2, hX⟩ : ∃ X, X = (W.alloc (.cells (vec 2 (spE (0, 0))) 24)).setRow W.heap.size (vec 2 (spE y)) := ⟨_, rfl⟩
       have bx : Below W.heap.size W X2 := by rw [hX]; exact below_row ((Below.refl _ _).alloc (Nat.le_refl _) _) (Nat.le_refl _) _
       have at2 : Arr X2 t2 24 2 (spE y) := by rw [hX, ht2]; exact (Arr.new W _ _ _).row _
       rw [← hX, ← ht2]
       have HX2 := Lib.hid (And.intro (HR.out.1.under bx) (And.intro at2 (HR.out.2.trans (bx.mono HR.out.2.size))))
       have hov := roverlapE x y (HFL.out.1 x HXM.out) (HFL.out.2 y HYM.out) X2
       rw [HNO.out x HXM.out y HYM.out] at hov
       unfold EqV at hov
       have HOV := Lib.hid hov
       clear hX ht2 bx at2 HCP hov
       go_wp2_with (first
        | ((with_reducible show wpList _ _ _ (Oper.mk _ (.load _ (.tmp 6)) _ _ _ _ :: _) _ _); refine wl_load rfl 24 _ rfl t rfl _ (run_load_arr HX2.out.1 Tryz.underlying24 rfl infoSp) ?_)
        | ((with_reducible show wpList _ _ _ (Oper.mk _ (.load _ (.tmp 8)) _ _ _ _ :: _) _ _); refine wl_load rfl 24 _ rfl t2 rfl _ (run_load_arr HX2.out.2.1 Tryz.underlying24 rfl infoSp) ?_)
        | (go_at_call 31; refine HOV.out.mono ?_; rintro e w3 ⟨rfl, hd⟩; have HE := Lib.hid (And.intro (HX2.out.1.under hd) (HX2.out.2.2.trans (hd.mono HX2.out.2.2.size))); clear hd))
       go_roundw
       case rel => exact ⟨j + 1, by omega, by go_num, HE⟩
       case measure => simp [intOf]; omega
     · obtain rfl : j = M := by omega
       go_wp2_with fail
       go_roundw
       case rel => exact ⟨i + 1, by omega, by go_num, Lib.hid HR.out.2⟩
       case measure => simp [intOf]; omega
  · obtain rfl : i = N := by omega
    go_wp2_with fail
    go_ret
    exact ⟨rfl, HR.out⟩
end Go.Proofs.YtkaipknkjocfiaaGreat
