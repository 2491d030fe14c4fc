import Derived.Test.YtkaipknkjocfiaaGreatZa28
import Derived.Test.YtkaipknkjocfiaaGreatZa36
namespace Go.Proofs.YtkaipknkjocfiaaGreat
open Go.RowKit Go.Maps
attribute [local go_sem ↓ high] zeroSp zeroGu zeroCf
def nmK (t : Gs) : Lit := .string (strOf t.name).data.toList
def nmL (x : Cf) (n : Nat) : List Lit := (x.gs.take n).map nmK
theorem name_is (x : Cf) (n : Nat) (hn : n < x.gs.length) : nameB x n = !inL (nmL x n) (nmK x.gs[n]) := by
 have e : nmL x n = ((x.gs.take n).map Gs.name).map fun s => Lit.string (strOf s).data.toList := by unfold nmL nmK; rw [List.map_map]; rfl
 rw [e]
 unfold nmK
 rw [inL_str]
 unfold nameB
 rw [Bool.eq_iff_iff, List.all_eq_true]
 simp only [List.mem_range, Bool.not_eq_true']
 constructor
 · intro h
   rw [← Bool.not_eq_true, List.contains_iff_mem]
   intro hm
   obtain ⟨t, ht, hte⟩ := List.mem_map.1 hm
   obtain ⟨k, hk, rfl⟩ := List.mem_take_iff_getElem.1 ht
   have hk1 : k < n := by omega
   have := h k hk1
   rw [nmEq_iff, List.getD_eq_getElem?_getD, List.getD_eq_getElem?_getD, List.getElem?_eq_getElem hn, List.getElem?_eq_getElem (show k < x.gs.length by omega), Option.getD_some, Option.getD_some, hte] at this
   simp at this
 · intro h k hk
   rw [nmEq_iff, List.getD_eq_getElem?_getD, List.getD_eq_getElem?_getD, List.getElem?_eq_getElem hn, List.getElem?_eq_getElem (show k < x.gs.length by omega), Option.getD_some, Option.getD_some]
   rw [← Bool.not_eq_true, beq_iff_eq]
   intro e
   rw [← Bool.not_eq_true, List.contains_iff_mem] at h
   refine h (List.mem_map.2 ⟨x.gs[k], List.mem_take_iff_getElem.2 ⟨k, by omega, rfl⟩, e.symm⟩)
theorem nmL_succ (x : Cf) (n : Nat) (hn : n < x.gs.length) : nmL x (n + 1) = nmL x n ++ [nmK x.gs[n]] := by
 unfold nmL
 rw [List.take_succ_eq_append_getElem hn, List.map_append]
 rfl
def wholeS (b : Bd) (x : Cf) : Nat × Nat := upto x.gs.length (fun i => mustP (nameB x i) 2 i) (headP b x)
theorem nmK_of {x : Cf} (hb : CfB x) (hf : fewC x = true) : NmK x := fun g hg => ⟨(hb.gs g hg).key, Nat.le_trans (gFew_iff ((few_gs hf).2.2 g hg)).2.2.2.2 (by decide)⟩
set_option maxHeartbeats 8000000 in
set_option maxRecDepth 100000 in
theorem kwhole_any (x : Cf) (a c : Value) (b : Bd) (B p m1 m2 m3 m4 base : Nat) (w : World) (hx : CfRW w B x a c) (hb : CfB x) (hf : fewC x = true) (hr : fit b.r) (hl : fit b.l) (hs : KSt B w p m1 m2 m3 m4 base b 0 0 [] [] [] [] []) :
  Calls Tryz.prog 19 #[.pointer (some ⟨p, 0, none⟩), cfVal x a c] w (AskP B (wholeS b x) (fun w' => ∃ wh, KSt B w' p m1 m2 m3 m4 base b wh x.gs.length (nmL x x.gs.length) [] [] [] []) w) := by
 have hBw : B ≤ w.heap.size := by have := hs.ord; omega
 obtain ⟨hx1, A, d, ys, ha, hm, hg, -⟩ := hx
 have hlen : ys.length = x.gs.length := by rw [← hm, List.length_map]
 obtain ⟨N, hN⟩ : ∃ n, n = x.gs.length := ⟨_, rfl⟩
 have hN20 : N ≤ 20 := by rw [hN]; exact (few_gs hf).1
 obtain ⟨F, hF⟩ : ∃ F : Int, F = ((fitE b.r.1 b.r.2 b.l.1 b.l.2 b.irqs b.strs b.cpus : Nat) : Int) := ⟨_, rfl⟩
 obtain ⟨E, hE⟩ : ∃ E : Int, E = ((errP x : Nat) : Int) := ⟨_, rfl⟩
 obtain ⟨z1, hz1⟩ : ∃ z, z = fitB b := ⟨_, rfl⟩
 obtain ⟨z2, hz2⟩ : ∃ z, z = decide (errP x = 0) := ⟨_, rfl⟩
 have kF : (F == 0) = z1 := by rw [hz1, hF]; unfold fitB; exact Bool.eq_iff_iff.2 (by simp)
 have kE : (E == 0) = z2 := by rw [hz2, hE]; exact Bool.eq_iff_iff.2 (by simp)
 have HFIT : Hid (∀ W, Calls Tryz.prog 37 #[.agg (vec 7 (bdE b))] W fun e w' => e = .returned (.int .i64 F) ∧ Below W.heap.size W w') := Lib.hid fun W => by rw [hF]; exact fit_any b.r.1 b.r.2 b.l.1 b.l.2 b.irqs b.strs b.cpus hr hl W
 have HPUT : Hid (∀ W, Below w.heap.size w W → Calls Tryz.prog 38 #[.agg (vec 3 (cfE x.ver a c))] W fun e w' => ∃ v, e = .returned (.tuple #[v, .int .i64 E]) ∧ Below W.heap.size W w') := Lib.hid fun W hW => by
  refine (cput_any x a c W ((hx1.below (hW.mono hBw)).wide (Nat.le_trans hBw hW.size)) hb (nmK_of hb hf)).mono fun e w' hh => ?_
  obtain ⟨h1, h2⟩ := hh
  by_cases he : errP x = 0
  · rw [if_pos he] at h1
    obtain ⟨v, rfl, -⟩ := h1
    exact ⟨v, by rw [hE, he]; rfl, h2⟩
  · rw [if_neg he] at h1
    exact ⟨_, by rw [h1, hE], h2⟩
 have HNO1 : Hid (z1 = false → wholeS b x = (1, 0)) := Lib.hid fun h => by
  have e : headP b x = (1, 0) := by unfold headP; rw [← hz1, h, must_first, must_sticky (by decide)]
  unfold wholeS
  rw [e]
  exact upto_sticky (fun i s h => must_sticky h) (by decide) _
 have HNO2 : Hid (z1 = true → z2 = false → wholeS b x = (2, 0)) := Lib.hid fun h h2 => by
  have e : headP b x = (2, 0) := by unfold headP; rw [← hz1, h, mustP_true, ← hz2, h2, must_first]
  unfold wholeS
  rw [e]
  exact upto_sticky (fun i s h => must_sticky h) (by decide) _
 have HHD : Hid (z1 = true → z2 = true → headP b x = (0, 0)) := Lib.hid fun h h2 => by unfold headP; rw [← hz1, h, mustP_true, ← hz2, h2, mustP_true]
 have HNO3 : Hid (∀ n, headP b x = (0, 0) → n < N → upto n (fun i => mustP (nameB x i) 2 i) (0, 0) = (0, 0) → nameB x n = false → wholeS b x = (2, n)) := Lib.hid fun n hh hn h0 h1 => by
  unfold wholeS
  rw [hh, ← hN]
  exact upto_stop (f := fun i => mustP (nameB x i) 2 i) (fun i s h => must_sticky h) h0 (show mustP (nameB x n) 2 n (0, 0) = _ by rw [h1]; exact must_first) (by decide) hn
 obtain ⟨r3, hr3⟩ : ∃ r, r = w.heap.size := ⟨_, rfl⟩
 obtain ⟨V, hV⟩ : ∃ V, V = w.alloc (.cells (vec 3 (cfE x.ver a c)) 31) := ⟨_, rfl⟩
 have bV : Below w.heap.size w V := by rw [hV]; exact Below.alloc_own _ _
 have HA3 : Hid (∀ Y, Below V.heap.size V Y → Arr Y r3 31 3 (cfE x.ver a c)) := Lib.hid fun Y hY => by have : Arr V r3 31 3 (cfE x.ver a c) := (by rw [hV, hr3]; exact Arr.new _ _ _ _); exact this.under hY
 have hsV := hs.under bV
 have HSV := Lib.hid hsV
 have HC7 : Hid (∀ Y, Below V.heap.size V Y → Y.cell? ⟨p, 7, none⟩ = some (.int .i64 ((0 : Nat) : Int))) := Lib.hid fun Y hY => (hsV.under hY).cell.1
 have HKB : Hid (∀ i, i < 7 → V.cell? ((⟨p, 0, none⟩ : Addr).add i) = some (bdE b i)) := Lib.hid fun i hi => by rw [add_atM, Nat.zero_add]; exact hsV.kb.2 i hi
 have HA1 : Hid (∀ Y, Below V.heap.size V Y → Y.cell? ⟨r3, 1, none⟩ = some (.slice A N d)) := Lib.hid fun Y hY => by
  have h := (HA3.out Y hY).cell (i := 1) (by decide)
  rw [h, hN]; exact congrArg some ha
 have HBV := Lib.hid bV
 have HBW := Lib.hid hBw
 have HRW : Hid (∀ Y, Below B w Y → GsR Y B A ys) := Lib.hid fun Y hY => hg.below hY
 have HNM : Hid (∀ k (hk : k < ys.length) (hk2 : k < x.gs.length), ys[k].g = x.gs[k]) := Lib.hid fun k hk hk2 => by simp [← hm]
 have HLEN := Lib.hid (And.intro hlen hN)
 have HSZ : Hid (∀ t ∈ x.gs, (strOf t.name).size ≤ maxLen) := Lib.hid fun t ht => by rw [strOf_size]; have := (gFew_iff ((few_gs hf).2.2 t ht)).2.2.2.2; unfold maxLen; omega
 have HV := Lib.hid hV
 have HR3 := Lib.hid hr3
 have HN := Lib.hid hN
 unfold cfVal
 rw [← hN]
 clear hx1 ha hm hg hlen hF hE hz1 hz2 hV bV hsV hr3 hb hf hr hl hs hBw hN
 go_enter Tryz.func19, Tryz.ntmps19
 go_upto_region 1 with fail
 rw [← HV.out, ← HR3.out]
 clear HV HR3
 go_upto_region 2 with (first
  | ((with_reducible show wpList _ _ _ (Oper.mk _ (.load 26 _) _ _ _ _ :: _) _ _); refine wl_load_q rfl 26 _ rfl ⟨p, 0, none⟩ rfl _ (run_load_q HKB.out Tryz.underlying26 rfl infoBd) ?_)
  | (go_at_call 37; refine (HFIT.out _).mono ?_; rintro e w1 ⟨rfl, hd⟩; have H1 := Lib.hid hd; clear hd)
  | (go_at_call 36; refine (mustK_any z1 1 0 p _ (HC7.out _ H1.out)).mono ?_; rintro e y ⟨⟨hz, rfl⟩ | ⟨hz, rfl⟩, rfl⟩; rotate_left; (exact ⟨rfl, .no (HNO1.out hz) (by decide) ((HBV.out.trans (H1.out.mono HBV.out.size)).mono HBW.out)⟩); have HZ1 := Lib.hid hz; clear hz))
 clear HFIT HKB kF
 go_upto_region 3 with (first
  | ((with_reducible show wpList _ _ _ (Oper.mk _ (.load 31 _) _ _ _ _ :: _) _ _); refine wl_load rfl 31 _ rfl r3 rfl _ (run_load_arr (HA3.out _ H1.out) Tryz.underlying31 rfl infoCf) ?_)
  | (go_at_call 38; refine (HPUT.out _ (HBV.out.trans (H1.out.mono HBV.out.size))).mono ?_; rintro e w2 ⟨v, rfl, hd⟩; have H2 := Lib.hid (H1.out.trans (hd.mono H1.out.size)); clear hd))
 go_upto_region 4 with (go_at_call 36; refine (mustK_any z2 2 0 p _ (HC7.out _ H2.out)).mono ?_; rintro e y ⟨⟨hz, rfl⟩ | ⟨hz, rfl⟩, rfl⟩; rotate_left; (exact ⟨rfl, .no (HNO2.out HZ1.out hz) (by decide) ((HBV.out.trans (H2.out.mono HBV.out.size)).mono HBW.out)⟩); have HZ2 := Lib.hid hz; clear hz)
 have c1 := HA1.out _ H2.out
 have HHEAD := Lib.hid (HHD.out HZ1.out HZ2.out)
 have HST : Hid ((∃ wh, KSt B w2 p m1 m2 m3 m4 base b wh 0 (nmL x 0) [] [] [] []) ∧ Below B w w2 ∧ upto 0 (fun i => mustP (nameB x i) 2 i) (0, 0) = (0, 0)) := Lib.hid ⟨⟨0, HSV.out.under H2.out⟩, (HBV.out.trans (H2.out.mono HBV.out.size)).mono HBW.out, rfl⟩
 clear kE HNO1 HNO2 HHD HZ1 HZ2 HPUT HC7 HA3 HA1 HSV HBV
 go_upto_region 5 with fail
 clear c1
 go_loopw [28] (fun v W => ∃ n : Nat, n ≤ N ∧ v = .int .i64 n ∧ Hid ((∃ wh, KSt B W p m1 m2 m3 m4 base b wh n (nmL x n) [] [] [] []) ∧ Below B w W ∧ upto n (fun i => mustP (nameB x i) 2 i) (0, 0) = (0, 0))) (fun v _ => N - (intOf v).toNat)
 case atStart => exact ⟨0, Nat.zero_le _, rfl, HST⟩
 case round =>
  clear HST
  obtain ⟨n, hn, rfl, HR⟩ := hrel
  obtain ⟨W, hW⟩ : ∃ W : World, W = wr := ⟨_, rfl⟩
  subst hW
  by_cases hlt : n < N
  · have hnN : (n : Int) < (N : Int) := by omega
    have hny : n < ys.length := by have := HLEN.out; omega
    have hnx : n < x.gs.length := by have := HLEN.out; omega
    obtain ⟨⟨wh, hK⟩, hBB, hU⟩ := HR.out
    obtain ⟨a0, q, rfl, hq, -, hcp⟩ := (HRW.out W hBB).row.at hny
    obtain ⟨y, hy⟩ : ∃ y, y = ys[n] := ⟨_, rfl⟩
    rw [← hy] at hcp
    have hone : GV1 y := by rw [hy]; exact ((HRW.out W hBB).all _ (List.getElem_mem _)).one
    obtain ⟨S, hS⟩ : ∃ S, S = strOf y.g.name := ⟨_, rfl⟩
    have hyg : y.g = x.gs[n] := by rw [hy]; exact HNM.out n hny hnx
    have hSz : S.size ≤ maxLen := by rw [hS, hyg]; exact HSZ.out _ (List.getElem_mem _)
    obtain ⟨zn, hzn⟩ : ∃ z, z = nameB x n := ⟨_, rfl⟩
    have hzi : zn = !inL (nmL x n) (.string S.data.toList) := by rw [hzn, name_is x n hnx, hS, hyg]; rfl
    have hsucc : nmL x (n + 1) = nmL x n ++ [.string S.data.toList] := by rw [nmL_succ x n hnx, hS, hyg]; rfl
    obtain ⟨r7, hr7⟩ : ∃ r, r = W.heap.size := ⟨_, rfl⟩
    obtain ⟨X, hX⟩ : ∃ X, X = (W.alloc (.cells (vec 79 (guestE zGV)) 63)).setRow W.heap.size (vec 79 (guestE y)) := ⟨_, rfl⟩
    have bX : Below W.heap.size W X := by rw [hX]; exact below_row ((Below.refl _ _).alloc (Nat.le_refl _) _) (Nat.le_refl _) _
    have aX : Arr X r7 63 79 (guestE y) := by rw [hX, hr7]; exact (Arr.new W _ _ _).row _
    have kX := hK.under bX
    obtain ⟨X2, hX2⟩ : ∃ Y, Y = X.setCell ⟨p, 7, none⟩ (.int .i64 (n : Int)) := ⟨_, rfl⟩
    have kX2 : KSt B X2 p m1 m2 m3 m4 base b (n : Int) n (nmL x n) [] [] [] [] := by rw [hX2]; exact kX.setWhere _
    have hord := hK.ord
    have hpr : p ≠ r7 := by omega
    have aX2 : Arr X2 r7 63 79 (guestE y) := by rw [hX2]; exact aX.far (p := ⟨p, 7, none⟩) hpr.symm _
    have bX2 : Below B w X2 := by
      rw [hX2]
      exact (hBB.trans (bX.mono (by omega))).setCell (p := ⟨p, 7, none⟩) (by show B ≤ p; omega) _
    have f7 := kX.cell.2.2.2.2.2
    have e7 := kX.cell.1
    have HCL : Hid (∀ Y, Save m1 X2 Y → Y.cell? ⟨p, 8, none⟩ = some (.map (some m1)) ∧ Y.cell? ⟨r7, 0, none⟩ = some (.string S) ∧ Y.cell? ⟨p, 7, none⟩ = some (.int .i64 (n : Int))) := Lib.hid fun Y hY => by
      have hpl : p < X2.heap.size := kX2.kb.1
      refine ⟨(hY.cell (p := ⟨p, 8, none⟩) hpl (by show p ≠ m1; omega)).trans kX2.cell.2.1, ?_, (hY.cell (p := ⟨p, 7, none⟩) hpl (by show p ≠ m1; omega)).trans kX2.cell.1⟩
      rw [hS]
      exact (aX2.save hY (by omega)).cell (i := 0) (by decide)
    have HTAKE : Hid (∀ Y, SetM 9 Y m1 n (nmL x n) → Calls Tryz.prog 39 #[.map (some m1), .string S] Y fun e w' => e = .returned (.bool zn) ∧ SetM 9 w' m1 (n + 1) (nmL x (n + 1)) ∧ Save m1 Y w') := Lib.hid fun Y hY => by rw [hzi, hsucc]; exact take_str m1 n (nmL x n) S hSz Y hY (by omega)
    have HE7 : Hid (∃ v, X.cell? ⟨p, 7, none⟩ = some v) := Lib.hid ⟨_, e7⟩
    have HF7 := Lib.hid f7
    have HKX := Lib.hid kX2
    have HBX := Lib.hid bX2
    have HX := Lib.hid hX
    have HX2 := Lib.hid hX2
    have HR7 := Lib.hid hr7
    have HCP := Lib.hid hcp
    have HONE := Lib.hid hone
    have HZN := Lib.hid hzn
    have HORD := Lib.hid hord
    have HU := Lib.hid hU
    have HBB := Lib.hid hBB
    clear hK hBB hU hcp hy hone hS hyg hSz hzn hzi hsucc hr7 hX bX aX kX hX2 kX2 hord hpr aX2 bX2 HR hnx hny f7 e7
    go_upto_region 7 with (first
      | ((with_reducible show wpList _ _ _ (Oper.mk _ (.load 63 _) _ _ _ _ :: _) _ _); refine wl_load_q rfl 63 _ rfl q rfl _ (run_load_q HCP.out Tryz.underlying63 rfl infoGu) ?_)
      | ((with_reducible show wpList _ _ _ (Oper.mk _ (.store 63 _ _) _ _ _ _ :: _) _ _); refine wl_store rfl 63 _ _ rfl _ rfl _ rfl (run_store_arr (Arr.new W _ _ _) (guestE y) infoGu (guestE_one _ HONE.out _)) ?_))
    rw [← HX.out, ← HR7.out]
    have f7 := HF7.out
    obtain ⟨v7, e7⟩ := HE7.out
    clear HX HCP HR7 HONE
    go_upto_region 8 with fail
    rw [← HX2.out]
    clear HX2 f7 e7
    refine wp_region_held_drew (S := fun Y => Save m1 X2 Y) (by kernel_rfl) (show Save m1 X2 X2.drew from (Save.refl m1 X2).drewN 1) (fun hS => ?_)
    obtain ⟨Y0, hY0⟩ : ∃ Y, Y = X2.drew := ⟨_, rfl⟩
    rw [← hY0] at hS ⊢
    have HST : Hid (KSt B Y0 p m1 m2 m3 m4 base b (n : Int) n (nmL x n) [] [] [] []) := Lib.hid (by rw [hY0]; exact HKX.out.drewN 1)
    clear hY0
    refine tP 0 (h := ?_)
    refine tP 1 (h := ?_)
    refine tP 2 (h := ?_)
    refine tP 3 (h := ?_)
    refine tP 4 (hy := by (intro W hW; obtain ⟨z0, z1⟩ := And.intro (HCL.out W hW) True.intro; clear hW; go_split_ands; go_simp; (try with_reducible rfl))) (h := ?_)
    refine tP 5 (h := ?_)
    refine tP 6 (hy := by (intro W hW; obtain ⟨z0, z1⟩ := And.intro (HCL.out W hW) True.intro; clear hW; go_split_ands; go_simp; (try with_reducible rfl))) (h := ?_)
    refine oQ 7 (h := fun K7 hK7 => ?_)
    go_simp
    refine (HTAKE.out _ HST.out.s1).mono ?_
    rintro e y7 ⟨rfl, ha, hb⟩
    have HK1 : Hid (KSt B y7 p m1 m2 m3 m4 base b (n : Int) (n + 1) (nmL x (n + 1)) [] [] [] [] ∧ Below B w y7) := Lib.hid ⟨HST.out.take1 (Nat.le_succ _) hb ha, (HBX.out.trans (Save.below (Save.trans hS hb) (by have := HORD.out; omega) (by have := HKX.out.ord; omega)))⟩
    refine hK7 _ _ (Save.trans hS hb) (fun hS7 => ?_)
    clear hS ha hb hK7 K7
    refine oQ 8 (h := fun K8 hK8 => ?_)
    go_simp
    refine (mustK_any zn 2 n p _ (HCL.out _ hS7).2.2).mono ?_
    rintro e y8 ⟨⟨hz, rfl⟩ | ⟨hz, rfl⟩, rfl⟩
    rotate_left
    · exact ⟨rfl, .no (HNO3.out n HHEAD.out hlt HU.out (by rw [← HZN.out]; exact hz)) (by decide) HK1.out.2⟩
    have HZ := Lib.hid hz
    clear hz
    refine hK8 _ _ hS7 (fun hS8 => ?_)
    clear hS7 hK8 K8
    refine wpAnyH_done (by kernel_rfl) ?_ _
    go_wp2_with fail
    go_roundw
    case rel => exact ⟨n + 1, by omega, by go_num, Lib.hid ⟨⟨_, HK1.out.1⟩, HK1.out.2, by rw [upto_succ, HU.out, show mustP (nameB x n) 2 n (0, 0) = (0, 0) by rw [← HZN.out, HZ.out]; exact mustP_true _ _ _]⟩⟩
    case measure => simp [intOf]; omega
  · obtain rfl : n = N := by omega
    go_wp2_with fail
    go_end0
    exact .yes (by unfold wholeS; rw [HHEAD.out, ← HN.out]; exact HR.out.2.2) HR.out.1 HR.out.2.1
end Go.Proofs.YtkaipknkjocfiaaGreat
namespace Go.Proofs.YtkaipknkjocfiaaGreat
open Go.RowKit Go.Maps
attribute [local go_sem ↓ high] zeroSp
set_option maxHeartbeats 1000000 in
set_option maxRecDepth 100000 in
theorem knew_any (b : Bd) (w : World) : Calls Tryz.prog 18 #[.agg (vec 7 (bdE b))] w fun e w' => e = .returned (.pointer (some ⟨w.heap.size + 5, 0, none⟩)) ∧ KSt w.heap.size w' (w.heap.size + 5) (w.heap.size + 1) (w.heap.size + 2) (w.heap.size + 3) (w.heap.size + 4) (w.heap.size + 6) b 0 0 [] [] [] [] [] ∧ Below w.heap.size w w' := by
 have hmm := @run_makeMap Tryz.prog
 obtain ⟨s0, hs0⟩ : ∃ s, s = w.heap.size := ⟨_, rfl⟩
 obtain ⟨V0, hV0⟩ : ∃ V, V = w.alloc (.cells (vec 7 (bdE b)) 26) := ⟨_, rfl⟩
 obtain ⟨V1, hV1⟩ : ∃ V, V = V0.alloc (.map #[] 0) := ⟨_, rfl⟩
 obtain ⟨V2, hV2⟩ : ∃ V, V = V1.alloc (.map #[] 0) := ⟨_, rfl⟩
 obtain ⟨V3, hV3⟩ : ∃ V, V = V2.alloc (.map #[] 0) := ⟨_, rfl⟩
 obtain ⟨V4, hV4⟩ : ∃ V, V = V3.alloc (.map #[] 0) := ⟨_, rfl⟩
 obtain ⟨V5, hV5⟩ : ∃ V, V = V4.alloc (.cells (vec 13 (kE b 0 (s0 + 1) (s0 + 2) (s0 + 3) (s0 + 4) (.slice none 0 0))) 98) := ⟨_, rfl⟩
 have z0 : V0.heap.size = s0 + 1 := by rw [hV0, hs0]; simp
 have z1 : V1.heap.size = s0 + 2 := by rw [hV1]; simp [z0]
 have z2 : V2.heap.size = s0 + 3 := by rw [hV2]; simp [z1]
 have z3 : V3.heap.size = s0 + 4 := by rw [hV3]; simp [z2]
 have z4 : V4.heap.size = s0 + 5 := by rw [hV4]; simp [z3]
 have z5 : V5.heap.size = s0 + 6 := by rw [hV5]; simp [z4]
 have b0 : Below w.heap.size w V0 := by rw [hV0]; exact Below.alloc_own _ _
 have b1 : Below V0.heap.size V0 V1 := by rw [hV1]; exact Below.alloc_own _ _
 have b2 : Below V1.heap.size V1 V2 := by rw [hV2]; exact Below.alloc_own _ _
 have b3 : Below V2.heap.size V2 V3 := by rw [hV3]; exact Below.alloc_own _ _
 have b4 : Below V3.heap.size V3 V4 := by rw [hV4]; exact Below.alloc_own _ _
 have b5 : Below V4.heap.size V4 V5 := by rw [hV5]; exact Below.alloc_own _ _
 have q1 : SetM 9 V1 (s0 + 1) 0 [] := by rw [← z0, hV1]; exact SetM.begin _ _
 have q2 : SetM 3 V2 (s0 + 2) 0 [] := by rw [← z1, hV2]; exact SetM.begin _ _
 have q3 : SetM 3 V3 (s0 + 3) 0 [] := by rw [← z2, hV3]; exact SetM.begin _ _
 have q4 : SetM 27 V4 (s0 + 4) 0 [] := by rw [← z3, hV4]; exact SetM.begin _ _
 have q5 : Arr V5 (s0 + 5) 98 13 (kE b 0 (s0 + 1) (s0 + 2) (s0 + 3) (s0 + 4) (.slice none 0 0)) := by rw [← z4, hV5]; exact Arr.new _ _ _ _
 have HK : Hid (KSt w.heap.size V5 (w.heap.size + 5) (w.heap.size + 1) (w.heap.size + 2) (w.heap.size + 3) (w.heap.size + 4) (w.heap.size + 6) b 0 0 [] [] [] [] [] ∧ Below w.heap.size w V5) := Lib.hid (by
  rw [← hs0]
  refine ⟨⟨by omega, ⟨none, 0, q5, OwnE.nil _ _⟩, (((q1.under b2).under b3).under b4).under b5, ((q2.under b3).under b4).under b5, (q3.under b4).under b5, q4.under b5⟩, ?_⟩
  have k1 := b0.trans (b1.mono (by omega))
  have k2 := k1.trans (b2.mono (by omega))
  have k3 := k2.trans (b3.mono (by omega))
  have k4 := k3.trans (b4.mono (by omega))
  have k5 := k4.trans (b5.mono (by omega))
  rw [hs0]; exact k5)
 have HA : Hid (Arr V0 s0 26 7 (bdE b)) := Lib.hid (by rw [hV0, hs0]; exact Arr.new _ _ _ _)
 have H0 := Lib.hid (And.intro hV0 hs0)
 have H1 := Lib.hid (And.intro hV1 z0)
 have H2 := Lib.hid (And.intro hV2 z1)
 have H3 := Lib.hid (And.intro hV3 z2)
 have H4 := Lib.hid (And.intro hV4 z3)
 have H5 := Lib.hid (And.intro hV5 z4)
 clear hs0 hV0 hV1 hV2 hV3 hV4 hV5 z0 z1 z2 z3 z4 z5 b0 b1 b2 b3 b4 b5 q1 q2 q3 q4 q5
 go_enter Tryz.func18, Tryz.ntmps18
 go_upto_region 1 with fail
 rw [← H0.out.1, ← H0.out.2]
 go_wp2_with (first
  | ((with_reducible show wpList _ _ _ (Oper.mk _ (.load 26 _) _ _ _ _ :: _) _ _); refine wl_load rfl 26 _ rfl s0 rfl _ (run_load_arr HA.out Tryz.underlying26 rfl infoBd) ?_)
  | ((with_reducible show wpList _ _ _ (Oper.mk _ (.build _ _) _ _ _ _ :: _) _ _); rw [H1.out.2, ← H1.out.1, ← H2.out.1, ← H3.out.1, ← H4.out.1]; refine wl_build rfl 98 _ rfl (vec 13 (kE b 0 (s0 + 1) (s0 + 2) (s0 + 3) (s0 + 4) (.slice none 0 0))) (by kernel_rfl) ?_))
 go_ret
 rw [← H5.out.1, H5.out.2]
 exact ⟨by rw [H0.out.2]; rfl, HK.out⟩
end Go.Proofs.YtkaipknkjocfiaaGreat
