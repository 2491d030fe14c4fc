import Derived.Test.YtkaipknkjocfiaaGreatZa15
namespace Go.Proofs.YtkaipknkjocfiaaGreat
open Go.RowKit Go.Maps
attribute [local go_sem ↓ high] zeroSp zeroWi zeroDe
set_option maxRecDepth 100000 in
theorem kbuild2 (x y : Sp) (w : World) : (Instr.buildSlice 40 2 #[(0, .agg (vec 2 (spE x))), (1, .agg (vec 2 (spE y)))]).run Tryz.prog w = .ok (.slice (some ⟨w.heap.size, 0, none⟩) 2 2) (w.alloc (.cells (cellsE 2 spE [x, y]).toArray 24)) := by
 obtain ⟨i0, hi, hz0, hz1, hz2⟩ := info_parts info_span
 refine run_buildSlice (P := Tryz.prog) w 40 24 2 _ _ i0 (.agg (vec 2 (spE (0, 0)))) Tryz.underlying40 hi hz0 (by rw [hz1]; decide) (by rw [hz1]; decide) ?_
 rw [hz1]
 kernel_rfl
theorem kow_bs2 {o : Oper} {a : Act} {w w' : World} {K : Act → World → Prop} {Q : Exit → Act → World → Prop} (t : TypeId) (x y : Operand) (ho : o.op = .buildSlice t 2 #[(0, x), (1, y)]) (v0 v1 : Value) (hx : a.eval x = v0) (hy : a.eval y = v1) {v : Value}
  (hr : (Instr.buildSlice t 2 #[(0, v0), (1, v1)]).run Tryz.prog w = .ok v w') (h : K (a.put o.dst v) w') : Oper.wp Tryz.prog o a w K Q := by
 subst hx hy
 unfold Oper.wp execOp
 simp only [ho, Sem.run_bind, List.map_toArray, List.map_cons, List.map_nil, hr, Result.andThen_ok, Sem.run_pure]
 exact h
theorem kow_bs1 {o : Oper} {a : Act} {w w' : World} {K : Act → World → Prop} {Q : Exit → Act → World → Prop} (t : TypeId) (x : Operand) (ho : o.op = .buildSlice t 1 #[(0, x)]) (v0 : Value) (hx : a.eval x = v0) {v : Value}
  (hr : (Instr.buildSlice t 1 #[(0, v0)]).run Tryz.prog w = .ok v w') (h : K (a.put o.dst v) w') : Oper.wp Tryz.prog o a w K Q := by
 subst hx
 unfold Oper.wp execOp
 simp only [ho, Sem.run_bind, List.map_toArray, List.map_cons, List.map_nil, hr, Result.andThen_ok, Sem.run_pure]
 exact h
theorem krow_lit {α : Type} {n : Nat} {enc : α → Nat → Value} (l : List α) (c : Array Value) (t : TypeId) (w : World) (hc : ∀ j (hj : j < l.length) i, i < n → c[j * n + i]? = some (enc l[j] i)) : RowE n enc (w.alloc (.cells c t)) (w.alloc (.cells c t)).heap.size (some ⟨w.heap.size, 0, none⟩) l := fun _ =>
 ⟨_, rfl, by simp, fun j hj i hi => by rw [add_atM, Nat.zero_add]; exact (cell_of_row _ _ _ _ _ _ (heap_alloc_new w _)).trans (hc j hj i hi)⟩
theorem row_new2 (x y : Sp) (w : World) : RowE 2 spE (w.alloc (.cells (cellsE 2 spE [x, y]).toArray 24)) (w.alloc (.cells (cellsE 2 spE [x, y]).toArray 24)).heap.size (some ⟨w.heap.size, 0, none⟩) [x, y] := krow_lit _ _ _ _ fun j hj i hi => by
 have hj : j < 2 := hj
 rcases (by omega : j = 0 ∨ j = 1) with rfl | rfl <;> rcases (by omega : i = 0 ∨ i = 1) with rfl | rfl <;> rfl
theorem row_new1 (x : Sp) (w : World) : RowE 2 spE (w.alloc (.cells (vec 2 (spE x)) 24)) (w.alloc (.cells (vec 2 (spE x)) 24)).heap.size (some ⟨w.heap.size, 0, none⟩) [x] := krow_lit _ _ _ _ fun j hj i hi => by
 have hj : j < 1 := hj
 obtain rfl : j = 0 := by omega
 rcases (by omega : i = 0 ∨ i = 1) with rfl | rfl <;> rfl
set_option maxHeartbeats 4000000 in
set_option maxRecDepth 100000 in
theorem kwindow_any (p : Nat) (b : Bd) (y : Wi) (hy : WiB y) (hr : fit b.r) (hl : fit b.l) (w : World) (h : KB w p b) : Calls Tryz.prog 42 #[.pointer (some ⟨p, 0, none⟩), .agg (vec 4 (winE y))] w (EqV (winK b y) w) := by
 obtain ⟨z1, hz1⟩ : ∃ z, z = lowL [ipaW y, spW y] := ⟨_, rfl⟩
 obtain ⟨z2, hz2⟩ : ∃ z, z = !(y.perm == 0) := ⟨_, rfl⟩
 obtain ⟨z3, hz3⟩ : ∃ z, z = oursB b (spW y) := ⟨_, rfl⟩
 have e : winK b y = (z1 && (z2 && z3)) := by unfold winK; rw [← hz1, ← hz2, ← hz3]
 rw [e]
 obtain ⟨q1, hq1⟩ : ∃ q, q = ipaW y := ⟨_, rfl⟩
 obtain ⟨q2, hq2⟩ : ∃ q, q = spW y := ⟨_, rfl⟩
 obtain ⟨P, hP⟩ : ∃ q, q = y.perm := ⟨_, rfl⟩
 have hfy := wiB_fit hy
 obtain ⟨pn, hpn⟩ := Int.eq_ofNat_of_zero_le hy.2.1.1
 obtain ⟨sn, hsn⟩ := Int.eq_ofNat_of_zero_le hy.2.2.1.1
 have hqs : q2 = (pn, sn) := by rw [hq2]; unfold spW; rw [hpn, hsn]; rfl
 rw [← hq1, ← hq2] at hfy hz1
 rw [← hq2] at hz3
 rw [← hP] at hz2
 have HSEEN : Hid (∀ W, Calls Tryz.prog 79 #[.agg (vec 4 (winE y))] W fun e w' => e = .returned (.agg (vec 2 (spE q1))) ∧ Below W.heap.size W w') := Lib.hid (by rw [hq1]; exact fun W => kseen_any y hy W)
 have HLOW : Hid (∀ A W, RowE 2 spE W W.heap.size A [q1, q2] → Calls Tryz.prog 78 #[.slice A 2 2] W (EqV z1 W)) := Lib.hid (by
  rw [hz1]
  exact fun A W hR => klow_any A 2 [q1, q2] (by simp) (fun x hx => by
   rcases List.mem_cons.1 hx with rfl | hx
   · exact hfy.1
   · rw [List.mem_singleton.1 hx]; exact hfy.2) W hR)
 have HOURS : Hid (∀ W, KB W p b → Calls Tryz.prog 80 #[.pointer (some ⟨p, 0, none⟩), .agg (vec 2 (spE q2))] W (EqV z3 W)) := Lib.hid (by rw [hz3]; exact fun W hW => kours_any p b q2 hfy.2 hr hl W hW)
 unfold EqV at HLOW HOURS ⊢
 obtain ⟨r3, hr3⟩ : ∃ r, r = w.heap.size := ⟨_, rfl⟩
 obtain ⟨r5, hr5⟩ : ∃ r, r = w.heap.size + 1 := ⟨_, rfl⟩
 obtain ⟨W1, hW1⟩ : ∃ V, V = w.alloc (.cells (vec 4 (winE y)) 67) := ⟨_, rfl⟩
 have hb1 : Below w.heap.size w W1 := by rw [hW1]; exact Below.alloc_own w _
 have ha1 : Arr W1 r3 67 4 (winE y) := by rw [hW1, hr3]; exact Arr.new _ _ _ _
 have hs1 : W1.heap.size = r5 := by rw [hW1, hr5]; simp
 obtain ⟨V, hV⟩ : ∃ V, V = (W1.alloc (.cells (vec 2 (spE (0, 0))) 24)).setRow W1.heap.size (vec 2 (spE q2)) := ⟨_, rfl⟩
 have hb2 : Below W1.heap.size W1 V := by rw [hV]; exact below_row ((Below.refl _ _).alloc (Nat.le_refl _) _) (Nat.le_refl _) _
 have HA : Hid (Arr V r3 67 4 (winE y)) := Lib.hid (ha1.under hb2)
 have HP5 : Hid (Arr V r5 24 2 (spE q2)) := Lib.hid (by rw [hV, ← hs1]; exact (Arr.new W1 _ _ _).row _)
 have HK := Lib.hid ((h.under hb1).under hb2)
 have HB := Lib.hid (hb1.trans (hb2.mono hb1.size))
 have c1 : W1.cell? ⟨r3, 1, none⟩ = some (.int .u64 (pn : Int)) := by rw [← hpn]; exact ha1.cell (i := 1) (by decide)
 have c2 : W1.cell? ⟨r3, 2, none⟩ = some (.int .u64 (sn : Int)) := by rw [← hsn]; exact ha1.cell (i := 2) (by decide)
 have HCP : Hid (∀ Y, Below V.heap.size V Y → Y.cell? ⟨r3, 3, none⟩ = some (.int .i64 P)) := Lib.hid fun Y hY => by rw [hP]; exact (HA.out.under hY).cell (i := 3) (by decide)
 have hpz : (P != 0) = z2 := by rw [hz2]; rfl
 have HV := Lib.hid hV
 have HW1 := Lib.hid hW1
 have HR3 := Lib.hid hr3
 have HS1 := Lib.hid hs1
 rw [hqs] at HV
 have HQS := Lib.hid hqs
 clear hz1 hz2 hz3 e hq1 hq2 hP hfy hpn hsn hy hr hl h hb1 hb2 ha1 hs1 hV hW1 hr3 hr5 hqs
 go_enter Tryz.func42, Tryz.ntmps42
 go_upto_region 1 with fail
 rw [← HW1.out, ← HR3.out]
 clear HW1 HR3
 go_upto_region 2 with (first
  | ((with_reducible show wpList _ _ _ (Oper.mk _ (.build _ _) _ _ _ _ :: _) _ _); refine wl_build rfl 24 _ rfl (vec 2 (spE (pn, sn))) (by kernel_rfl) ?_)
  | ((with_reducible show wpList _ _ _ (Oper.mk _ (.store _ _ _) _ _ _ _ :: _) _ _); refine wl_store rfl 24 _ _ rfl _ rfl _ rfl (run_store_arr (Arr.new W1 _ _ _) (spE (pn, sn)) infoSp (spE_one _ _)) ?_))
 rw [← HV.out, HS1.out]
 clear HV HS1 c1 c2
 cases z1
 case false =>
  refine wp_region_held_drew (S := fun Y => Below V.heap.size V Y) (by kernel_rfl) (show Below V.heap.size V V.drew from below_drewN (Below.refl _ _) 1) (fun hS => ?_)
  obtain ⟨Y0, hY0⟩ : ∃ Y, Y = V.drew := ⟨_, rfl⟩
  rw [← hY0] at hS ⊢
  clear hY0
  refine tP 0 (v := .agg (vec 4 (winE y))) (hy := by (intro W hW; exact exec_load 67 _ rfl r3 rfl _ (run_load_arr (HA.out.under hW) Tryz.underlying67 rfl infoWi))) (h := ?_)
  refine tP 2 (v := .agg (vec 2 (spE q2))) (hy := by (intro W hW; exact exec_load 24 _ rfl r5 rfl _ (run_load_arr (HP5.out.under hW) Tryz.underlying24 rfl infoSp))) (h := ?_)
  refine oQ 1 (h := fun K1 hK1 => ?_)
  go_simp
  refine (HSEEN.out _).mono ?_
  rintro e y1 ⟨rfl, hd⟩
  refine hK1 _ _ (Below.trans hS (hd.mono (Below.size hS))) (fun hS1 => ?_)
  clear hS hd hK1 K1
  refine oQ 3 (h := fun K3 hK3 => ?_)
  refine kow_bs2 40 _ _ rfl (.agg (vec 2 (spE q1))) (.agg (vec 2 (spE q2))) rfl rfl (kbuild2 q1 q2 y1) ?_
  obtain ⟨y3, hy3⟩ : ∃ Y, Y = y1.alloc (.cells ((cellsE 2 spE [q1, q2]).toArray) 24) := ⟨_, rfl⟩
  have hd : Below y1.heap.size y1 y3 := by rw [hy3]; exact Below.alloc_own _ _
  have HR3 : Hid (RowE 2 spE y3 y3.heap.size (some ⟨y1.heap.size, 0, none⟩) [q1, q2]) := Lib.hid (by rw [hy3]; exact row_new2 _ _ _)
  rw [← hy3]
  refine hK3 _ _ (Below.trans hS1 (hd.mono (Below.size hS1))) (fun hS3 => ?_)
  clear hS1 hd hy3 hK3 K3
  refine oQ 4 (h := fun K4 hK4 => ?_)
  go_simp
  refine (HLOW.out _ _ HR3.out).mono ?_
  rintro e y4 ⟨rfl, hd⟩
  refine hK4 _ _ (Below.trans hS3 (hd.mono (Below.size hS3))) (fun hS4 => ?_)
  clear hS3 hd hK4 K4
  refine tP 5 (h := ?_)
  refine sQ 6 (h := ?_)
  refine sQ 7 (h := ?_)
  refine sQ 8 (h := ?_)
  refine tP 9 (h := ?_)
  refine tP 10 (h := ?_)
  refine sQ 11 (h := ?_)
  refine sQ 12 (h := ?_)
  refine sQ 13 (h := ?_)
  refine tP 14 (h := ?_)
  refine tP 15 (h := ?_)
  refine wpAnyH_done (by kernel_rfl) ?_ _
  go_wp2_with fail
  go_ret
  exact ⟨rfl, HB.out.trans (hS4.mono HB.out.size)⟩
 case true =>
  cases z2
  case false =>
   refine wp_region_held_drew (S := fun Y => Below V.heap.size V Y) (by kernel_rfl) (show Below V.heap.size V V.drew from below_drewN (Below.refl _ _) 1) (fun hS => ?_)
   obtain ⟨Y0, hY0⟩ : ∃ Y, Y = V.drew := ⟨_, rfl⟩
   rw [← hY0] at hS ⊢
   clear hY0
   refine tP 0 (v := .agg (vec 4 (winE y))) (hy := by (intro W hW; exact exec_load 67 _ rfl r3 rfl _ (run_load_arr (HA.out.under hW) Tryz.underlying67 rfl infoWi))) (h := ?_)
   refine tP 2 (v := .agg (vec 2 (spE q2))) (hy := by (intro W hW; exact exec_load 24 _ rfl r5 rfl _ (run_load_arr (HP5.out.under hW) Tryz.underlying24 rfl infoSp))) (h := ?_)
   refine oQ 1 (h := fun K1 hK1 => ?_)
   go_simp
   refine (HSEEN.out _).mono ?_
   rintro e y1 ⟨rfl, hd⟩
   refine hK1 _ _ (Below.trans hS (hd.mono (Below.size hS))) (fun hS1 => ?_)
   clear hS hd hK1 K1
   refine oQ 3 (h := fun K3 hK3 => ?_)
   refine kow_bs2 40 _ _ rfl (.agg (vec 2 (spE q1))) (.agg (vec 2 (spE q2))) rfl rfl (kbuild2 q1 q2 y1) ?_
   obtain ⟨y3, hy3⟩ : ∃ Y, Y = y1.alloc (.cells ((cellsE 2 spE [q1, q2]).toArray) 24) := ⟨_, rfl⟩
   have hd : Below y1.heap.size y1 y3 := by rw [hy3]; exact Below.alloc_own _ _
   have HR3 : Hid (RowE 2 spE y3 y3.heap.size (some ⟨y1.heap.size, 0, none⟩) [q1, q2]) := Lib.hid (by rw [hy3]; exact row_new2 _ _ _)
   rw [← hy3]
   refine hK3 _ _ (Below.trans hS1 (hd.mono (Below.size hS1))) (fun hS3 => ?_)
   clear hS1 hd hy3 hK3 K3
   refine oQ 4 (h := fun K4 hK4 => ?_)
   go_simp
   refine (HLOW.out _ _ HR3.out).mono ?_
   rintro e y4 ⟨rfl, hd⟩
   refine hK4 _ _ (Below.trans hS3 (hd.mono (Below.size hS3))) (fun hS4 => ?_)
   clear hS3 hd hK4 K4
   refine tP 5 (h := ?_)
   refine tP 6 (h := ?_)
   refine tP 7 (hy := by (intro W hW; obtain ⟨z0, z1⟩ := And.intro (HCP.out W hW) True.intro; clear hW; go_split_ands; go_simp; (try with_reducible rfl))) (h := ?_)
   refine tP 8 (h := ?_)
   refine tP 9 (h := ?_)
   refine tP 10 (h := ?_)
   refine sQ 11 (h := ?_)
   refine sQ 12 (h := ?_)
   refine sQ 13 (h := ?_)
   refine tP 14 (h := ?_)
   refine tP 15 (h := ?_)
   refine wpAnyH_done (by kernel_rfl) ?_ _
   go_wp2_with fail
   go_ret
   exact ⟨rfl, HB.out.trans (hS4.mono HB.out.size)⟩
  case true =>
   refine wp_region_held_drew (S := fun Y => Below V.heap.size V Y) (by kernel_rfl) (show Below V.heap.size V V.drew from below_drewN (Below.refl _ _) 1) (fun hS => ?_)
   obtain ⟨Y0, hY0⟩ : ∃ Y, Y = V.drew := ⟨_, rfl⟩
   rw [← hY0] at hS ⊢
   clear hY0
   refine tP 0 (v := .agg (vec 4 (winE y))) (hy := by (intro W hW; exact exec_load 67 _ rfl r3 rfl _ (run_load_arr (HA.out.under hW) Tryz.underlying67 rfl infoWi))) (h := ?_)
   refine tP 2 (v := .agg (vec 2 (spE q2))) (hy := by (intro W hW; exact exec_load 24 _ rfl r5 rfl _ (run_load_arr (HP5.out.under hW) Tryz.underlying24 rfl infoSp))) (h := ?_)
   refine oQ 1 (h := fun K1 hK1 => ?_)
   go_simp
   refine (HSEEN.out _).mono ?_
   rintro e y1 ⟨rfl, hd⟩
   refine hK1 _ _ (Below.trans hS (hd.mono (Below.size hS))) (fun hS1 => ?_)
   clear hS hd hK1 K1
   refine oQ 3 (h := fun K3 hK3 => ?_)
   refine kow_bs2 40 _ _ rfl (.agg (vec 2 (spE q1))) (.agg (vec 2 (spE q2))) rfl rfl (kbuild2 q1 q2 y1) ?_
   obtain ⟨y3, hy3⟩ : ∃ Y, Y = y1.alloc (.cells ((cellsE 2 spE [q1, q2]).toArray) 24) := ⟨_, rfl⟩
   have hd : Below y1.heap.size y1 y3 := by rw [hy3]; exact Below.alloc_own _ _
   have HR3 : Hid (RowE 2 spE y3 y3.heap.size (some ⟨y1.heap.size, 0, none⟩) [q1, q2]) := Lib.hid (by rw [hy3]; exact row_new2 _ _ _)
   rw [← hy3]
   refine hK3 _ _ (Below.trans hS1 (hd.mono (Below.size hS1))) (fun hS3 => ?_)
   clear hS1 hd hy3 hK3 K3
   refine oQ 4 (h := fun K4 hK4 => ?_)
   go_simp
   refine (HLOW.out _ _ HR3.out).mono ?_
   rintro e y4 ⟨rfl, hd⟩
   refine hK4 _ _ (Below.trans hS3 (hd.mono (Below.size hS3))) (fun hS4 => ?_)
   clear hS3 hd hK4 K4
   refine tP 5 (h := ?_)
   refine tP 6 (h := ?_)
   refine tP 7 (hy := by (intro W hW; obtain ⟨z0, z1⟩ := And.intro (HCP.out W hW) True.intro; clear hW; go_split_ands; go_simp; (try with_reducible rfl))) (h := ?_)
   refine tP 8 (h := ?_)
   refine tP 9 (h := ?_)
   refine tP 10 (h := ?_)
   refine tP 11 (h := ?_)
   refine tP 12 (v := .agg (vec 2 (spE q2))) (hy := by (intro W hW; exact exec_load 24 _ rfl r5 rfl _ (run_load_arr (HP5.out.under hW) Tryz.underlying24 rfl infoSp))) (h := ?_)
   refine oQ 13 (h := fun K13 hK13 => ?_)
   go_simp
   refine (HOURS.out _ (HK.out.under hS4)).mono ?_
   rintro e y13 ⟨rfl, hd⟩
   refine hK13 _ _ (Below.trans hS4 (hd.mono (Below.size hS4))) (fun hS13 => ?_)
   clear hS4 hd hK13 K13
   refine tP 14 (h := ?_)
   refine tP 15 (h := ?_)
   refine wpAnyH_done (by kernel_rfl) ?_ _
   go_wp2_with fail
   go_ret
   exact ⟨rfl, HB.out.trans (hS13.mono HB.out.size)⟩
set_option maxHeartbeats 4000000 in
set_option maxRecDepth 100000 in
theorem kdevice_any (p : Nat) (b : Bd) (y : De) (hy : DeB y) (hr : fit b.r) (w : World) (h : KB w p b) : Calls Tryz.prog 44 #[.pointer (some ⟨p, 0, none⟩), .agg (vec 3 (devE y))] w (EqV (devK b y) w) := by
 obtain ⟨z1, hz1⟩ : ∃ z, z = lowL [ipaD y, spD y] := ⟨_, rfl⟩
 obtain ⟨z2, hz2⟩ : ∃ z, z = overlap (spD y) b.r := ⟨_, rfl⟩
 have e : devK b y = (z1 && !z2) := by unfold devK; rw [← hz1, ← hz2]
 rw [e]
 obtain ⟨q1, hq1⟩ : ∃ q, q = ipaD y := ⟨_, rfl⟩
 obtain ⟨q2, hq2⟩ : ∃ q, q = spD y := ⟨_, rfl⟩
 have hfy := deB_fit hy
 obtain ⟨im, him⟩ := Int.eq_ofNat_of_zero_le hy.1.1
 obtain ⟨pn, hpn⟩ := Int.eq_ofNat_of_zero_le hy.2.1.1
 obtain ⟨sn, hsn⟩ := Int.eq_ofNat_of_zero_le hy.2.2.1
 have hqs : q2 = (pn, sn) := by rw [hq2]; unfold spD; rw [hpn, hsn]; rfl
 have hqi : q1 = (im, sn) := by rw [hq1]; unfold ipaD; rw [him, hsn]; rfl
 rw [← hq1, ← hq2] at hfy hz1
 rw [← hq2] at hz2
 rw [hqs] at hz1 hz2 hfy
 rw [hqi] at hz1 hfy
 have HLOW : Hid (∀ A W, RowE 2 spE W W.heap.size A [(im, sn), (pn, sn)] → Calls Tryz.prog 78 #[.slice A 2 2] W (EqV z1 W)) := Lib.hid (by
  rw [hz1]
  exact fun A W hR => klow_any A 2 [(im, sn), (pn, sn)] (by simp) (fun x hx => by
   rcases List.mem_cons.1 hx with rfl | hx
   · exact hfy.1
   · rw [List.mem_singleton.1 hx]; exact hfy.2) W hR)
 have HOVL : Hid (∀ W, Calls Tryz.prog 83 #[.agg (vec 2 (spE (pn, sn))), .agg (vec 2 (spE b.r))] W (EqV z2 W)) := Lib.hid (by rw [hz2]; exact fun W => koverlapE (pn, sn) b.r hfy.2 hr W)
 unfold EqV at HLOW HOVL ⊢
 obtain ⟨r3, hr3⟩ : ∃ r, r = w.heap.size := ⟨_, rfl⟩
 obtain ⟨r5, hr5⟩ : ∃ r, r = w.heap.size + 1 := ⟨_, rfl⟩
 obtain ⟨W1, hW1⟩ : ∃ V, V = w.alloc (.cells (vec 3 (devE y)) 83) := ⟨_, rfl⟩
 have hb1 : Below w.heap.size w W1 := by rw [hW1]; exact Below.alloc_own w _
 have ha1 : Arr W1 r3 83 3 (devE y) := by rw [hW1, hr3]; exact Arr.new _ _ _ _
 have hs1 : W1.heap.size = r5 := by rw [hW1, hr5]; simp
 obtain ⟨V, hV⟩ : ∃ V, V = (W1.alloc (.cells (vec 2 (spE (0, 0))) 24)).setRow W1.heap.size (vec 2 (spE (pn, sn))) := ⟨_, rfl⟩
 have hb2 : Below W1.heap.size W1 V := by rw [hV]; exact below_row ((Below.refl _ _).alloc (Nat.le_refl _) _) (Nat.le_refl _) _
 have HA : Hid (Arr V r3 83 3 (devE y)) := Lib.hid (ha1.under hb2)
 have HP5 : Hid (Arr V r5 24 2 (spE (pn, sn))) := Lib.hid (by rw [hV, ← hs1]; exact (Arr.new W1 _ _ _).row _)
 have HK := Lib.hid ((h.under hb1).under hb2)
 have HB := Lib.hid (hb1.trans (hb2.mono hb1.size))
 have c1 : W1.cell? ⟨r3, 1, none⟩ = some (.int .u64 (pn : Int)) := by rw [← hpn]; exact ha1.cell (i := 1) (by decide)
 have c2 : W1.cell? ⟨r3, 2, none⟩ = some (.int .u64 (sn : Int)) := by rw [← hsn]; exact ha1.cell (i := 2) (by decide)
 have HCP : Hid (∀ Y, Below V.heap.size V Y → Y.cell? ⟨r3, 0, none⟩ = some (.int .u64 (im : Int)) ∧ Y.cell? ⟨r3, 2, none⟩ = some (.int .u64 (sn : Int))) := Lib.hid fun Y hY => by
  rw [← him, ← hsn]
  exact ⟨(HA.out.under hY).cell (i := 0) (by decide), (HA.out.under hY).cell (i := 2) (by decide)⟩
 have HV := Lib.hid hV
 have HW1 := Lib.hid hW1
 have HR3 := Lib.hid hr3
 have HS1 := Lib.hid hs1
 clear hz1 hz2 e hq1 hq2 hfy him hpn hsn hy hr h hb1 hb2 ha1 hs1 hV hW1 hr3 hr5 hqs hqi
 go_enter Tryz.func44, Tryz.ntmps44
 go_upto_region 1 with fail
 rw [← HW1.out, ← HR3.out]
 clear HW1 HR3
 go_upto_region 2 with (first
  | ((with_reducible show wpList _ _ _ (Oper.mk _ (.build _ _) _ _ _ _ :: _) _ _); refine wl_build rfl 24 _ rfl (vec 2 (spE (pn, sn))) (by kernel_rfl) ?_)
  | ((with_reducible show wpList _ _ _ (Oper.mk _ (.store _ _ _) _ _ _ _ :: _) _ _); refine wl_store rfl 24 _ _ rfl _ rfl _ rfl (run_store_arr (Arr.new W1 _ _ _) (spE (pn, sn)) infoSp (spE_one _ _)) ?_))
 rw [← HV.out, HS1.out]
 clear HV HS1 c1 c2
 cases z1
 case false =>
  refine wp_region_held_drew (S := fun Y => Below V.heap.size V Y) (by kernel_rfl) (show Below V.heap.size V V.drew from below_drewN (Below.refl _ _) 1) (fun hS => ?_)
  obtain ⟨Y0, hY0⟩ : ∃ Y, Y = V.drew := ⟨_, rfl⟩
  rw [← hY0] at hS ⊢
  clear hY0
  refine tP 0 (h := ?_)
  refine tP 1 (hy := by (intro W hW; obtain ⟨z0, z1⟩ := And.intro (HCP.out W hW) True.intro; clear hW; go_split_ands; go_simp; (try with_reducible rfl))) (h := ?_)
  refine tP 2 (h := ?_)
  refine tP 3 (hy := by (intro W hW; obtain ⟨z0, z1⟩ := And.intro (HCP.out W hW) True.intro; clear hW; go_split_ands; go_simp; (try with_reducible rfl))) (h := ?_)
  refine tP 4 (v := .agg (vec 2 (spE (im, sn)))) (hy := by (intro W hW; exact exec_build 24 _ rfl (vec 2 (spE (im, sn))) (by kernel_rfl) W)) (h := ?_)
  refine tP 5 (v := .agg (vec 2 (spE (pn, sn)))) (hy := by (intro W hW; exact exec_load 24 _ rfl r5 rfl _ (run_load_arr (HP5.out.under hW) Tryz.underlying24 rfl infoSp))) (h := ?_)
  refine oQ 6 (h := fun K6 hK6 => ?_)
  refine kow_bs2 40 _ _ rfl (.agg (vec 2 (spE (im, sn)))) (.agg (vec 2 (spE (pn, sn)))) rfl rfl (kbuild2 (im,sn) (pn,sn) Y0) ?_
  obtain ⟨y6, hy6⟩ : ∃ Y, Y = Y0.alloc (.cells ((cellsE 2 spE [(im,sn), (pn,sn)]).toArray) 24) := ⟨_, rfl⟩
  have hd : Below Y0.heap.size Y0 y6 := by rw [hy6]; exact Below.alloc_own _ _
  have HR6 : Hid (RowE 2 spE y6 y6.heap.size (some ⟨Y0.heap.size, 0, none⟩) [(im,sn), (pn,sn)]) := Lib.hid (by rw [hy6]; exact row_new2 _ _ _)
  rw [← hy6]
  refine hK6 _ _ (Below.trans hS (hd.mono (Below.size hS))) (fun hS6 => ?_)
  clear hS hd hy6 hK6 K6
  refine oQ 7 (h := fun K7 hK7 => ?_)
  go_simp
  refine (HLOW.out _ _ HR6.out).mono ?_
  rintro e y7 ⟨rfl, hd⟩
  refine hK7 _ _ (Below.trans hS6 (hd.mono (Below.size hS6))) (fun hS7 => ?_)
  clear hS6 hd hK7 K7
  refine tP 8 (h := ?_)
  refine sQ 9 (h := ?_)
  refine sQ 10 (h := ?_)
  refine sQ 11 (h := ?_)
  refine sQ 12 (h := ?_)
  refine sQ 13 (h := ?_)
  refine sQ 14 (h := ?_)
  refine sQ 15 (h := ?_)
  refine sQ 16 (h := ?_)
  refine tP 17 (h := ?_)
  refine tP 18 (h := ?_)
  refine wpAnyH_done (by kernel_rfl) ?_ _
  go_wp2_with fail
  go_ret
  exact ⟨rfl, HB.out.trans (hS7.mono HB.out.size)⟩
 case true =>
  refine wp_region_held_drew (S := fun Y => Below V.heap.size V Y) (by kernel_rfl) (show Below V.heap.size V V.drew from below_drewN (Below.refl _ _) 1) (fun hS => ?_)
  obtain ⟨Y0, hY0⟩ : ∃ Y, Y = V.drew := ⟨_, rfl⟩
  rw [← hY0] at hS ⊢
  clear hY0
  refine tP 0 (h := ?_)
  refine tP 1 (hy := by (intro W hW; obtain ⟨z0, z1⟩ := And.intro (HCP.out W hW) True.intro; clear hW; go_split_ands; go_simp; (try with_reducible rfl))) (h := ?_)
  refine tP 2 (h := ?_)
  refine tP 3 (hy := by (intro W hW; obtain ⟨z0, z1⟩ := And.intro (HCP.out W hW) True.intro; clear hW; go_split_ands; go_simp; (try with_reducible rfl))) (h := ?_)
  refine tP 4 (v := .agg (vec 2 (spE (im, sn)))) (hy := by (intro W hW; exact exec_build 24 _ rfl (vec 2 (spE (im, sn))) (by kernel_rfl) W)) (h := ?_)
  refine tP 5 (v := .agg (vec 2 (spE (pn, sn)))) (hy := by (intro W hW; exact exec_load 24 _ rfl r5 rfl _ (run_load_arr (HP5.out.under hW) Tryz.underlying24 rfl infoSp))) (h := ?_)
  refine oQ 6 (h := fun K6 hK6 => ?_)
  refine kow_bs2 40 _ _ rfl (.agg (vec 2 (spE (im, sn)))) (.agg (vec 2 (spE (pn, sn)))) rfl rfl (kbuild2 (im,sn) (pn,sn) Y0) ?_
  obtain ⟨y6, hy6⟩ : ∃ Y, Y = Y0.alloc (.cells ((cellsE 2 spE [(im,sn), (pn,sn)]).toArray) 24) := ⟨_, rfl⟩
  have hd : Below Y0.heap.size Y0 y6 := by rw [hy6]; exact Below.alloc_own _ _
  have HR6 : Hid (RowE 2 spE y6 y6.heap.size (some ⟨Y0.heap.size, 0, none⟩) [(im,sn), (pn,sn)]) := Lib.hid (by rw [hy6]; exact row_new2 _ _ _)
  rw [← hy6]
  refine hK6 _ _ (Below.trans hS (hd.mono (Below.size hS))) (fun hS6 => ?_)
  clear hS hd hy6 hK6 K6
  refine oQ 7 (h := fun K7 hK7 => ?_)
  go_simp
  refine (HLOW.out _ _ HR6.out).mono ?_
  rintro e y7 ⟨rfl, hd⟩
  refine hK7 _ _ (Below.trans hS6 (hd.mono (Below.size hS6))) (fun hS7 => ?_)
  clear hS6 hd hK7 K7
  refine tP 8 (h := ?_)
  refine tP 9 (v := .agg (vec 2 (spE (pn, sn)))) (hy := by (intro W hW; exact exec_load 24 _ rfl r5 rfl _ (run_load_arr (HP5.out.under hW) Tryz.underlying24 rfl infoSp))) (h := ?_)
  refine tP 10 (h := ?_)
  refine tP 11 (h := ?_)
  refine tP 12 (h := ?_)
  refine tP 13 (h := ?_)
  refine tP 14 (v := .agg (vec 2 (spE b.r))) (hy := by (intro W hW; exact exec_load_q 24 _ rfl ⟨p, 0, none⟩ (by first | rfl | (simp; done)) _ (run_load_q ((HK.out.under hW).ram) Tryz.underlying24 rfl infoSp))) (h := ?_)
  refine oQ 15 (h := fun K15 hK15 => ?_)
  go_simp
  refine (HOVL.out _).mono ?_
  rintro e y15 ⟨rfl, hd⟩
  refine hK15 _ _ (Below.trans hS7 (hd.mono (Below.size hS7))) (fun hS15 => ?_)
  clear hS7 hd hK15 K15
  refine tP 16 (h := ?_)
  refine tP 17 (h := ?_)
  refine tP 18 (h := ?_)
  refine wpAnyH_done (by kernel_rfl) ?_ _
  go_wp2_with fail
  go_ret
  exact ⟨rfl, HB.out.trans (hS15.mono HB.out.size)⟩
end Go.Proofs.YtkaipknkjocfiaaGreat
