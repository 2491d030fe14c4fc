import Derived.Test.YtkaipknkjocfiaaGreatZa16
namespace Go.Proofs.YtkaipknkjocfiaaGreat
open Go.RowKit Go.Maps
attribute [local go_sem ↓ high] zeroSp zeroWi zeroGu
theorem khasE (x : Sp) (hx : fit x) (p : Nat) (w : World) : Calls Tryz.prog 84 #[.agg (vec 2 (spE x)), .int .u64 (p : Int)] w (EqV (has x p) w) := has_bel x.1 x.2 p hx w
set_option maxHeartbeats 4000000 in
set_option maxRecDepth 100000 in
theorem kentered_any (X : GV) (y : Wi) (l : List Wi) (hw : X.g.wins = y :: l) (hy : WiB y) (he : u64B X.g.entry) (B : Nat) (w : World) (hG : GRow w B X) (hBw : B ≤ w.heap.size) : Calls Tryz.prog 45 #[.agg (vec 79 (guestE X))] w (EqV (entryK X.g y) w) := by
 obtain ⟨en, hen⟩ := Int.eq_ofNat_of_zero_le he.1
 obtain ⟨P, hP⟩ : ∃ q, q = y.perm := ⟨_, rfl⟩
 obtain ⟨q1, hq1⟩ : ∃ q, q = ipaW y := ⟨_, rfl⟩
 obtain ⟨z1, hz1⟩ : ∃ z, z = ((en : Int) % 4 == 0) := ⟨_, rfl⟩
 obtain ⟨z2, hz2⟩ : ∃ z, z = has q1 en := ⟨_, rfl⟩
 obtain ⟨z3, hz3⟩ : ∃ z, z = allowB P 5 := ⟨_, rfl⟩
 have e : entryK X.g y = (z1 && (z2 && z3)) := by unfold entryK; rw [hen, ← hz1, ← hq1, ← hP, ← hz3]; show (_ && (has q1 en && _)) = _; rw [← hz2]
 rw [e]
 have hfy : fit q1 := by rw [hq1]; exact (wiB_fit hy).1
 have HSEEN : Hid (∀ W, Calls Tryz.prog 79 #[.agg (vec 4 (winE y))] W fun e w' => e = .returned (.agg (vec 2 (spE q1))) ∧ Below W.heap.size W w') := Lib.hid (by rw [hq1]; exact fun W => kseen_any y hy W)
 have HHAS : Hid (∀ W, Calls Tryz.prog 84 #[.agg (vec 2 (spE q1)), .int .u64 (en : Int)] W (EqV z2 W)) := Lib.hid (by rw [hz2]; exact fun W => khasE q1 hfy en W)
 have HALL : Hid (∀ W, Calls Tryz.prog 85 #[.int .i64 P, .int .i64 5] W (EqV z3 W)) := Lib.hid (by rw [hz3]; exact fun W => allows_any P 5 W)
 unfold EqV at HHAS HALL ⊢
 obtain ⟨r1, hr1⟩ : ∃ r, r = w.heap.size := ⟨_, rfl⟩
 obtain ⟨r3, hr3⟩ : ∃ r, r = w.heap.size + 1 := ⟨_, rfl⟩
 obtain ⟨W1, hW1⟩ : ∃ V, V = w.alloc (.cells (vec 79 (guestE X)) 63) := ⟨_, rfl⟩
 have hb1 : Below w.heap.size w W1 := by rw [hW1]; exact Below.alloc_own w _
 have ha1 : Arr W1 r1 63 79 (guestE X) := by rw [hW1, hr1]; exact Arr.new _ _ _ _
 have hs1 : W1.heap.size = r3 := by rw [hW1, hr3]; simp
 obtain ⟨A1, d1, ew, hrow, -⟩ := hG.wi
 have hn1 : 0 < X.g.wins.length := by rw [hw]; simp
 obtain ⟨a0, q, rfl, hq, -, hcp⟩ := (hrow.below (hb1.mono hBw)).at hn1
 have hw0 : X.g.wins[0] = y := by simp [hw]
 rw [hw0] at hcp
 rw [Nat.zero_mul] at hq
 obtain ⟨n, hn⟩ : ∃ n, n = X.g.wins.length := ⟨_, rfl⟩
 rw [← hn] at ew hn1
 have hn1i : (0 : Int) < (n : Int) := by omega
 obtain ⟨V, hV⟩ : ∃ V, V = (W1.alloc (.cells (vec 4 (winE zWi)) 67)).setRow W1.heap.size (vec 4 (winE y)) := ⟨_, rfl⟩
 have hb2 : Below W1.heap.size W1 V := by rw [hV]; exact below_row ((Below.refl _ _).alloc (Nat.le_refl _) _) (Nat.le_refl _) _
 have HA : Hid (Arr V r1 63 79 (guestE X)) := Lib.hid (ha1.under hb2)
 have HA3 : Hid (Arr V r3 67 4 (winE y)) := Lib.hid (by rw [hV, ← hs1]; exact (Arr.new W1 _ _ _).row _)
 have HB := Lib.hid (hb1.trans (hb2.mono hb1.size))
 have c75 : W1.cell? ⟨r1, 75, none⟩ = some (.slice (some a0) n d1) := by rw [← ew]; exact ha1.cell (i := 75) (by decide)
 have HCE : Hid (∀ Y, Below V.heap.size V Y → Y.cell? ⟨r1, 5, none⟩ = some (.int .u64 (en : Int))) := Lib.hid fun Y hY => by rw [← hen]; exact (HA.out.under hY).cell (i := 5) (by decide)
 have HCP : Hid (∀ Y, Below V.heap.size V Y → Y.cell? ⟨r3, 3, none⟩ = some (.int .i64 P)) := Lib.hid fun Y hY => by rw [hP]; exact (HA3.out.under hY).cell (i := 3) (by decide)
 have HQ := Lib.hid hcp
 have HV := Lib.hid hV
 have HW1 := Lib.hid hW1
 have HR1 := Lib.hid hr1
 have HS1 := Lib.hid hs1
 have hez : ((en : Int) % 4 == 0) = z1 := hz1.symm
 have het : ((en : Int).tmod 4 == 0) = z1 := by rw [hz1]; rfl
 clear hz1 hz2 hz3 e hq1 hP hfy hen hy he hw hb1 hb2 ha1 hs1 hV hW1 hr1 hr3 hG hBw hrow ew hcp hw0 hn
 go_enter Tryz.func45, Tryz.ntmps45
 go_upto_region 1 with fail
 rw [← HW1.out, ← HR1.out]
 clear HW1 HR1
 go_upto_region 2 with (first
  | ((with_reducible show wpList _ _ _ (Oper.mk _ (.load 67 _) _ _ _ _ :: _) _ _); refine wl_load_q rfl 67 _ rfl q rfl _ (run_load_q HQ.out Tryz.underlying67 rfl infoWi) ?_)
  | ((with_reducible show wpList _ _ _ (Oper.mk _ (.store _ _ _) _ _ _ _ :: _) _ _); refine wl_store rfl 67 _ _ rfl _ rfl _ rfl (run_store_arr (Arr.new W1 _ _ _) (winE y) infoWi (winE_one _ _)) ?_))
 rw [← HV.out, HS1.out]
 clear HV HS1 c75 HQ
 cases z1
 case false =>
  refine wp_region_held_drew (S := fun Y => Below V.heap.size V Y) (by kernel_rfl) (show Below V.heap.size V V.drew from below_drewN (Below.refl _ _) 1) (fun hS => ?_)
  refine tP 0 (h := ?_)
  refine tP 1 (hy := by (intro W hW; obtain ⟨z0, z1⟩ := And.intro (HCE.out W hW) True.intro; clear hW; go_split_ands; go_simp; (try with_reducible rfl))) (h := ?_)
  refine tP 2 (h := ?_)
  refine tP 3 (h := ?_)
  refine tP 4 (h := ?_)
  refine sQ 5 (h := ?_)
  refine sQ 6 (h := ?_)
  refine sQ 7 (h := ?_)
  refine sQ 8 (h := ?_)
  refine sQ 9 (h := ?_)
  refine tP 10 (h := ?_)
  refine tP 11 (h := ?_)
  refine sQ 12 (h := ?_)
  refine sQ 13 (h := ?_)
  refine sQ 14 (h := ?_)
  refine tP 15 (h := ?_)
  refine tP 16 (h := ?_)
  refine wpAnyH_done (by kernel_rfl) ?_ _
  go_wp2_with fail
  go_ret
  exact ⟨rfl, HB.out.trans (hS.mono HB.out.size)⟩
 case true =>
  cases z2
  case false =>
   refine wp_region_held_drew (S := fun Y => Below V.heap.size V Y) (by kernel_rfl) (show Below V.heap.size V V.drew from below_drewN (Below.refl _ _) 1) (fun hS => ?_)
   refine tP 0 (h := ?_)
   refine tP 1 (hy := by (intro W hW; obtain ⟨z0, z1⟩ := And.intro (HCE.out W hW) True.intro; clear hW; go_split_ands; go_simp; (try with_reducible rfl))) (h := ?_)
   refine tP 2 (h := ?_)
   refine tP 3 (h := ?_)
   refine tP 4 (h := ?_)
   refine tP 5 (v := .agg (vec 4 (winE y))) (hy := by (intro W hW; exact exec_load 67 _ rfl r3 rfl _ (run_load_arr (HA3.out.under hW) Tryz.underlying67 rfl infoWi))) (h := ?_)
   refine tP 7 (h := ?_)
   refine tP 8 (hy := by (intro W hW; obtain ⟨z0, z1⟩ := And.intro (HCE.out W hW) True.intro; clear hW; go_split_ands; go_simp; (try with_reducible rfl))) (h := ?_)
   refine oQ 6 (h := fun K6 hK6 => ?_)
   go_simp
   refine (HSEEN.out _).mono ?_
   rintro e y6 ⟨rfl, hd⟩
   refine hK6 _ _ (Below.trans hS (hd.mono (Below.size hS))) (fun hS6 => ?_)
   clear hS hd hK6 K6
   refine oQ 9 (h := fun K9 hK9 => ?_)
   go_simp
   refine (HHAS.out _).mono ?_
   rintro e y9 ⟨rfl, hd⟩
   refine hK9 _ _ (Below.trans hS6 (hd.mono (Below.size hS6))) (fun hS9 => ?_)
   clear hS6 hd hK9 K9
   refine tP 10 (h := ?_)
   refine tP 11 (h := ?_)
   refine sQ 12 (h := ?_)
   refine sQ 13 (h := ?_)
   refine sQ 14 (h := ?_)
   refine tP 15 (h := ?_)
   refine tP 16 (h := ?_)
   refine wpAnyH_done (by kernel_rfl) ?_ _
   go_wp2_with fail
   go_ret
   exact ⟨rfl, HB.out.trans (hS9.mono HB.out.size)⟩
  case true =>
   refine wp_region_held_drew (S := fun Y => Below V.heap.size V Y) (by kernel_rfl) (show Below V.heap.size V V.drew from below_drewN (Below.refl _ _) 1) (fun hS => ?_)
   refine tP 0 (h := ?_)
   refine tP 1 (hy := by (intro W hW; obtain ⟨z0, z1⟩ := And.intro (HCE.out W hW) True.intro; clear hW; go_split_ands; go_simp; (try with_reducible rfl))) (h := ?_)
   refine tP 2 (h := ?_)
   refine tP 3 (h := ?_)
   refine tP 4 (h := ?_)
   refine tP 5 (v := .agg (vec 4 (winE y))) (hy := by (intro W hW; exact exec_load 67 _ rfl r3 rfl _ (run_load_arr (HA3.out.under hW) Tryz.underlying67 rfl infoWi))) (h := ?_)
   refine tP 7 (h := ?_)
   refine tP 8 (hy := by (intro W hW; obtain ⟨z0, z1⟩ := And.intro (HCE.out W hW) True.intro; clear hW; go_split_ands; go_simp; (try with_reducible rfl))) (h := ?_)
   refine oQ 6 (h := fun K6 hK6 => ?_)
   go_simp
   refine (HSEEN.out _).mono ?_
   rintro e y6 ⟨rfl, hd⟩
   refine hK6 _ _ (Below.trans hS (hd.mono (Below.size hS))) (fun hS6 => ?_)
   clear hS hd hK6 K6
   refine oQ 9 (h := fun K9 hK9 => ?_)
   go_simp
   refine (HHAS.out _).mono ?_
   rintro e y9 ⟨rfl, hd⟩
   refine hK9 _ _ (Below.trans hS6 (hd.mono (Below.size hS6))) (fun hS9 => ?_)
   clear hS6 hd hK9 K9
   refine tP 10 (h := ?_)
   refine tP 11 (h := ?_)
   refine tP 12 (h := ?_)
   refine tP 13 (hy := by (intro W hW; obtain ⟨z0, z1⟩ := And.intro (HCP.out W hW) True.intro; clear hW; go_split_ands; go_simp; (try with_reducible rfl))) (h := ?_)
   refine oQ 14 (h := fun K14 hK14 => ?_)
   go_simp
   refine (HALL.out _).mono ?_
   rintro e y14 ⟨rfl, hd⟩
   refine hK14 _ _ (Below.trans hS9 (hd.mono (Below.size hS9))) (fun hS14 => ?_)
   clear hS9 hd hK14 K14
   refine tP 15 (h := ?_)
   refine tP 16 (h := ?_)
   refine wpAnyH_done (by kernel_rfl) ?_ _
   go_wp2_with fail
   go_ret
   exact ⟨rfl, HB.out.trans (hS14.mono HB.out.size)⟩
set_option maxHeartbeats 2000000 in
set_option maxRecDepth 100000 in
theorem kheld_any (t : Gs) (y : Wi) (hy : WiB y) (ht : fit (treeS t)) (g : Nat) (w : World) (hg : Arr w g 24 2 (spE (treeS t))) : Calls Tryz.prog 86 #[.agg (vec 4 (winE y)), .pointer (some ⟨g, 0, none⟩)] w (EqV (heldK t y) w) := by
 obtain ⟨P, hP⟩ : ∃ q, q = y.perm := ⟨_, rfl⟩
 obtain ⟨q1, hq1⟩ : ∃ q, q = ipaW y := ⟨_, rfl⟩
 obtain ⟨T0, hT0⟩ : ∃ q, q = treeS t := ⟨_, rfl⟩
 obtain ⟨z1, hz1⟩ : ∃ z, z = allowB P 1 := ⟨_, rfl⟩
 obtain ⟨z2, hz2⟩ : ∃ z, z = within T0 q1 := ⟨_, rfl⟩
 have e : heldK t y = (z1 && z2) := by unfold heldK; rw [← hq1, ← hT0, ← hz2, ← hP, ← hz1]
 rw [e]
 rw [← hT0] at hg ht
 have hfy : fit q1 := by rw [hq1]; exact (wiB_fit hy).1
 have HSEEN : Hid (∀ W, Calls Tryz.prog 79 #[.agg (vec 4 (winE y))] W fun e w' => e = .returned (.agg (vec 2 (spE q1))) ∧ Below W.heap.size W w') := Lib.hid (by rw [hq1]; exact fun W => kseen_any y hy W)
 have HWIT : Hid (∀ W, Calls Tryz.prog 69 #[.agg (vec 2 (spE T0)), .agg (vec 2 (spE q1))] W (EqV z2 W)) := Lib.hid (by rw [hz2]; exact fun W => kwithinE T0 q1 ht hfy W)
 have HALL : Hid (∀ W, Calls Tryz.prog 85 #[.int .i64 P, .int .i64 1] W (EqV z1 W)) := Lib.hid (by rw [hz1]; exact fun W => allows_any P 1 W)
 unfold EqV at HWIT HALL ⊢
 obtain ⟨r3, hr3⟩ : ∃ r, r = w.heap.size := ⟨_, rfl⟩
 obtain ⟨V, hV⟩ : ∃ V, V = w.alloc (.cells (vec 4 (winE y)) 67) := ⟨_, rfl⟩
 have hb : Below w.heap.size w V := by rw [hV]; exact Below.alloc_own w _
 have HA : Hid (Arr V r3 67 4 (winE y)) := Lib.hid (by rw [hV, hr3]; exact Arr.new _ _ _ _)
 have HG := Lib.hid (hg.under hb)
 have HB := Lib.hid hb
 have HCP : Hid (∀ Y, Below V.heap.size V Y → Y.cell? ⟨r3, 3, none⟩ = some (.int .i64 P)) := Lib.hid fun Y hY => by rw [hP]; exact (HA.out.under hY).cell (i := 3) (by decide)
 have HV := Lib.hid hV
 have HR3 := Lib.hid hr3
 clear hz1 hz2 e hq1 hP hT0 hfy hy ht hg hb hV hr3
 go_enter Tryz.func86, Tryz.ntmps86
 go_upto_region 1 with fail
 rw [← HV.out, ← HR3.out]
 clear HV HR3
 cases z1
 case false =>
  refine wp_region_held_drew (S := fun Y => Below V.heap.size V Y) (by kernel_rfl) (show Below V.heap.size V V.drew from below_drewN (Below.refl _ _) 1) (fun hS => ?_)
  refine tP 0 (h := ?_)
  refine tP 1 (hy := by (intro W hW; obtain ⟨z0, z1⟩ := And.intro (HCP.out W hW) True.intro; clear hW; go_split_ands; go_simp; (try with_reducible rfl))) (h := ?_)
  refine oQ 2 (h := fun K2 hK2 => ?_)
  go_simp
  refine (HALL.out _).mono ?_
  rintro e y2 ⟨rfl, hd⟩
  refine hK2 _ _ (Below.trans hS (hd.mono (Below.size hS))) (fun hS2 => ?_)
  clear hS hd hK2 K2
  refine tP 3 (h := ?_)
  refine sQ 4 (h := ?_)
  refine sQ 5 (h := ?_)
  refine sQ 6 (h := ?_)
  refine sQ 7 (h := ?_)
  refine tP 8 (h := ?_)
  refine tP 9 (h := ?_)
  refine wpAnyH_done (by kernel_rfl) ?_ _
  go_wp2_with fail
  go_ret
  exact ⟨rfl, HB.out.trans (hS2.mono HB.out.size)⟩
 case true =>
  refine wp_region_held_drew (S := fun Y => Below V.heap.size V Y) (by kernel_rfl) (show Below V.heap.size V V.drew from below_drewN (Below.refl _ _) 1) (fun hS => ?_)
  refine tP 0 (h := ?_)
  refine tP 1 (hy := by (intro W hW; obtain ⟨z0, z1⟩ := And.intro (HCP.out W hW) True.intro; clear hW; go_split_ands; go_simp; (try with_reducible rfl))) (h := ?_)
  refine oQ 2 (h := fun K2 hK2 => ?_)
  go_simp
  refine (HALL.out _).mono ?_
  rintro e y2 ⟨rfl, hd⟩
  refine hK2 _ _ (Below.trans hS (hd.mono (Below.size hS))) (fun hS2 => ?_)
  clear hS hd hK2 K2
  refine tP 3 (h := ?_)
  refine tP 4 (v := .agg (vec 2 (spE T0))) (hy := by (intro W hW; exact exec_load 24 _ rfl g rfl _ (run_load_arr (HG.out.under hW) Tryz.underlying24 rfl infoSp))) (h := ?_)
  refine tP 5 (v := .agg (vec 4 (winE y))) (hy := by (intro W hW; exact exec_load 67 _ rfl r3 rfl _ (run_load_arr (HA.out.under hW) Tryz.underlying67 rfl infoWi))) (h := ?_)
  refine oQ 6 (h := fun K6 hK6 => ?_)
  go_simp
  refine (HSEEN.out _).mono ?_
  rintro e y6 ⟨rfl, hd⟩
  refine hK6 _ _ (Below.trans hS2 (hd.mono (Below.size hS2))) (fun hS6 => ?_)
  clear hS2 hd hK6 K6
  refine oQ 7 (h := fun K7 hK7 => ?_)
  go_simp
  refine (HWIT.out _).mono ?_
  rintro e y7 ⟨rfl, hd⟩
  refine hK7 _ _ (Below.trans hS6 (hd.mono (Below.size hS6))) (fun hS7 => ?_)
  clear hS6 hd hK7 K7
  refine tP 8 (h := ?_)
  refine tP 9 (h := ?_)
  refine wpAnyH_done (by kernel_rfl) ?_ _
  go_wp2_with fail
  go_ret
  exact ⟨rfl, HB.out.trans (hS7.mono HB.out.size)⟩
def cutW (B : Addr) (d k : Nat) : Addr := if d = k then B else B.add (k * 4)
theorem wi_elem : Tryz.prog.underlying 58 = some (.slice (Tryz.prog.elem 58)) := by kernel_rfl
theorem wi_size (W : World) : (sizeOf (Tryz.prog.elem 58)).run Tryz.prog W = .ok 4 W := by kernel_rfl
set_option maxRecDepth 100000 in
theorem wslice_lo (B : Addr) (N d k : Nat) (hk : k ≤ N) (W : World) : (Instr.sliceAt 58 (.slice (some B) N d) (some (.int .i64 (k : Int))) none none).run Tryz.prog W = .ok (.slice (some (cutW B d k)) (N - k) (d - k)) W := by
 rw [run_sliceAt_slice W _ _ _ _ _ wi_elem, run_slice_l W _ _ _ _ wi_elem .i64 (k : Int) (by omega) (by omega), wi_size]
 simp only [Result.andThen_ok, sliced, Int.toNat_natCast]
 unfold cutW
 by_cases hdk : d = k
 · rw [if_pos hdk, if_pos hdk]
 · rw [if_neg hdk, if_neg hdk]; rfl
theorem row_cut {w : World} {B : Nat} {a : Addr} {l : List Wi} {d : Nat} (h : RowE 4 winE w B (some a) l) (hd : l.length ≤ d) : RowE 4 winE w B (some (cutW a d 1)) (l.drop 1) := fun hn => by
 have hl : 1 < l.length := by
  rcases Nat.lt_or_ge 1 l.length with h1 | h1
  · exact h1
  · exact absurd (List.drop_eq_nil_of_le h1) hn
 obtain ⟨a', e, hb, hc⟩ := h (fun e => by rw [e] at hl; cases hl)
 injection e with e
 subst e
 have hc1 : cutW a d 1 = a.add 4 := by unfold cutW; rw [if_neg (by omega)]
 rw [hc1]
 refine ⟨_, rfl, by rw [addr_add_block]; exact hb, fun j hj i hi => ?_⟩
 have hj2 : j + 1 < l.length := by rw [List.length_drop] at hj; omega
 rw [addr_add_add, show 4 + (j * 4 + i) = (j + 1) * 4 + i by omega, hc (j + 1) hj2 i hi, List.getElem_drop]
 congr 2
 simp [Nat.add_comm]
set_option maxHeartbeats 4000000 in
set_option maxRecDepth 100000 in
theorem kdescribed_any (X : GV) (hw0 : X.g.wins ≠ []) (hwl : X.g.wins.length ≤ 1000000) (hy : ∀ y ∈ X.g.wins, WiB y) (he : u64B X.g.dtb) (B d1 : Nat) (A1 : Option Addr) (w : World) (ew : X.wv = .slice A1 X.g.wins.length d1) (hd1 : X.g.wins.length ≤ d1) (hrow : RowE 4 winE w B A1 X.g.wins) (hBw : B ≤ w.heap.size) :
  Calls Tryz.prog 46 #[.agg (vec 79 (guestE X))] w (EqV (dtbK X.g) w) := by
 obtain ⟨dn, hdn⟩ := Int.eq_ofNat_of_zero_le he.1
 obtain ⟨z1, hz1⟩ : ∃ z, z = ((dn : Int) == 0) := ⟨_, rfl⟩
 obtain ⟨z2, hz2⟩ : ∃ z, z = ((dn : Int) % 4096 == 0) := ⟨_, rfl⟩
 obtain ⟨z3, hz3⟩ : ∃ z, z = (X.g.wins.drop 1).any (heldK X.g) := ⟨_, rfl⟩
 have e : dtbK X.g = (z1 || (z2 && z3)) := by unfold dtbK; rw [← hz3, hdn, ← hz1, ← hz2]
 rw [e]
 have htr : treeS X.g = (dn, 16384) := by unfold treeS; rw [hdn]; rfl
 have htf : fit (treeS X.g) := by rw [htr]; exact ⟨by have := he.2; omega, show (16384 : Nat) < 18446744073709551616 by decide⟩
 obtain ⟨r1, hr1⟩ : ∃ r, r = w.heap.size := ⟨_, rfl⟩
 obtain ⟨r3, hr3⟩ : ∃ r, r = w.heap.size + 1 := ⟨_, rfl⟩
 obtain ⟨W1, hW1⟩ : ∃ V, V = w.alloc (.cells (vec 79 (guestE X)) 63) := ⟨_, rfl⟩
 have hb1 : Below w.heap.size w W1 := by rw [hW1]; exact Below.alloc_own w _
 have ha1 : Arr W1 r1 63 79 (guestE X) := by rw [hW1, hr1]; exact Arr.new _ _ _ _
 have hs1 : W1.heap.size = r3 := by rw [hW1, hr3]; simp
 obtain ⟨a0, rfl⟩ : ∃ a, A1 = some a := by obtain ⟨a, e, -⟩ := hrow hw0; exact ⟨a, e⟩
 obtain ⟨V, hV⟩ : ∃ V, V = (W1.alloc (.cells (vec 2 (spE (0, 0))) 24)).setRow W1.heap.size (vec 2 (spE (dn, 16384))) := ⟨_, rfl⟩
 have hb2 : Below W1.heap.size W1 V := by rw [hV]; exact below_row ((Below.refl _ _).alloc (Nat.le_refl _) _) (Nat.le_refl _) _
 have ha3 : Arr V r3 24 2 (spE (treeS X.g)) := by rw [htr, hV, ← hs1]; exact (Arr.new W1 _ _ _).row _
 have HB := Lib.hid (hb1.trans (hb2.mono hb1.size))
 have eL : ∀ args w, (callFunc 86 args).run Tryz.prog w = .ok (.enter 86 args) w := enters_of Tryz.func86 (by kernel_rfl) rfl
 have hrv : RowE 4 winE V V.heap.size (some (cutW a0 d1 1)) (X.g.wins.drop 1) := (row_cut ((hrow.below (hb1.mono hBw)).below (hb2.mono (Nat.le_trans hBw hb1.size))) hd1).wide (Nat.le_trans hBw HB.out.size)
 have HC : Hid (Calls Tryz.prog 76 #[.slice (some (cutW a0 d1 1)) (X.g.wins.length - 1) (d1 - 1), .func (.func 86) #[] #[.pointer (some ⟨r3, 0, none⟩)]] V (EqV z3 V)) := Lib.hid (by
  have hq := cont_Wi (some (cutW a0 d1 1)) V.heap.size (d1 - 1) (X.g.wins.drop 1) (by rw [List.length_drop]; omega) 86 #[] #[.pointer (some ⟨r3, 0, none⟩)] V.heap.size _ _ (Asks.pure (V := V) (q := heldK X.g) (n0 := V.heap.size) (Rw := fun Y => RowE 4 winE Y V.heap.size (some (cutW a0 d1 1)) (X.g.wins.drop 1)) true
   (fun Y hY => hrv.below hY) eL
   (fun i hi Y hY => kheld_any X.g (X.g.wins.drop 1)[i] (hy _ (List.mem_of_mem_drop (List.getElem_mem hi))) htf r3 Y (ha3.under hY))) V ⟨Below.refl _ _, fun j _ hj => by omega⟩
  rw [← show (X.g.wins.drop 1).length = X.g.wins.length - 1 from List.length_drop]
  refine hq.mono ?_
  rintro e w' ⟨r, rfl, -, h1, h2⟩
  cases r with
  | true =>
   obtain ⟨i, hi, hB, hi2, hq⟩ := h1 rfl
   exact ⟨by rw [hz3, List.any_eq_true.2 ⟨_, List.getElem_mem hi2, hq⟩], hB⟩
  | false =>
   refine ⟨?_, (h2 rfl).1⟩
   have : z3 = false := by
    rw [hz3, ← Bool.not_eq_true, List.any_eq_true]
    rintro ⟨x, hx, hxx⟩
    obtain ⟨i, hi, rfl⟩ := List.getElem_of_mem hx
    have := (h2 rfl).2 i hi hi
    rw [hxx] at this
    cases this
   rw [this])
 unfold EqV at HC ⊢
 obtain ⟨n, hn⟩ : ∃ n, n = X.g.wins.length := ⟨_, rfl⟩
 have hn1 : 1 ≤ n := by rw [hn]; exact Nat.pos_of_ne_zero fun h => hw0 (List.length_eq_zero_iff.1 h)
 rw [← hn] at HC ew
 have c6 : W1.cell? ⟨r1, 6, none⟩ = some (.int .u64 (dn : Int)) := by rw [← hdn]; exact ha1.cell (i := 6) (by decide)
 have HCV : Hid (V.cell? ⟨r1, 6, none⟩ = some (.int .u64 (dn : Int)) ∧ V.cell? ⟨r1, 75, none⟩ = some (.slice (some a0) n d1)) := Lib.hid ⟨by rw [← hdn]; exact (ha1.under hb2).cell (i := 6) (by decide), by rw [← ew]; exact (ha1.under hb2).cell (i := 75) (by decide)⟩
 have HV := Lib.hid hV
 have HW1 := Lib.hid hW1
 have HR1 := Lib.hid hr1
 have HS1 := Lib.hid hs1
 have HSL : Hid (∀ W, (Instr.sliceAt 58 (.slice (some a0) n d1) (some (.int .i64 1)) none none).run Tryz.prog W = .ok (.slice (some (cutW a0 d1 1)) (n - 1) (d1 - 1)) W) := Lib.hid fun W => wslice_lo a0 n d1 1 hn1 W
 have hez : ((dn : Int) == 0) = z1 := hz1.symm
 have hey : ((dn : Int) % 4096 == 0) = z2 := hz2.symm
 have het : ((dn : Int).tmod 4096 == 0) = z2 := by rw [hz2]; rfl
 have hmf : ∀ (fn : Fn) (first cap : Array Value) (w : World), (Instr.makeFunc fn first cap).run Tryz.prog w = .ok (.func fn first cap) w := fun _ _ _ _ => rfl
 clear hz1 hz2 hz3 e hdn hy he hb1 hb2 ha1 ha3 hs1 hV hW1 hr1 hr3 hBw hrow hrv ew hn hw0 hwl hd1 eL htr htf hn1
 go_enter Tryz.func46, Tryz.ntmps46
 go_upto_region 1 with fail
 rw [← HW1.out, ← HR1.out]
 clear HW1 HR1
 go_upto_region 2 with (first
  | ((with_reducible show wpList _ _ _ (Oper.mk _ (.build _ _) _ _ _ _ :: _) _ _); refine wl_build rfl 24 _ rfl (vec 2 (spE (dn, 16384))) (by kernel_rfl) ?_)
  | ((with_reducible show wpList _ _ _ (Oper.mk _ (.store _ _ _) _ _ _ _ :: _) _ _); refine wl_store rfl 24 _ _ rfl _ rfl _ rfl (run_store_arr (Arr.new W1 _ _ _) (spE (dn, 16384)) infoSp (spE_one _ _)) ?_))
 rw [← HV.out, HS1.out]
 clear HV HS1 c6
 obtain ⟨d6, d75⟩ := HCV.out
 have hsl := HSL.out
 clear HSL HCV
 cases z1
 case true =>
  go_wp2_with fail
  go_ret
  exact ⟨rfl, HB.out⟩
 case false =>
  cases z2
  case false =>
   go_wp2_with fail
   go_ret
   exact ⟨rfl, HB.out⟩
  case true =>
   go_wp2_with (go_at_call 76; refine HC.out.mono ?_; rintro e w2 ⟨rfl, hd⟩; have HD := Lib.hid hd; clear hd)
   go_ret
   exact ⟨rfl, HB.out.trans (HD.out.mono HB.out.size)⟩
end Go.Proofs.YtkaipknkjocfiaaGreat
