import Derived.Test.YtkaipknkjocfiaaGreatZa41
namespace Go.Proofs.YtkaipknkjocfiaaGreat
open Go.RowKit
attribute [local go_sem ↓ high] builtin_appS
attribute [local go_sem ↓ high] zeroRk zeroMp
def apAt (l : List Rk) (i : Nat) : Bool := match l[i - 1]?, l[i]? with
 | some x, some y => decide (i = 0) || !overlap (ipaS x.m) (ipaS y.m)
 | _, _ => true
def apartB (l : List Rk) : Bool := (List.range l.length).all (apAt l)
theorem apAt_zero (l : List Rk) : apAt l 0 = true := by
 unfold apAt
 cases l with
 | nil => rfl
 | cons x l => rfl
theorem apAt_succ {l : List Rk} {i : Nat} (h : i + 1 < l.length) : apAt l (i + 1) = !overlap (ipaS (l[i]'(by omega)).m) (ipaS l[i + 1].m) := by
 unfold apAt
 rw [Nat.add_sub_cancel, List.getElem?_eq_getElem (show i < l.length by omega), List.getElem?_eq_getElem h]
 simp
theorem apart_ok {l : List Rk} (hb : ∀ y ∈ l, MpB y.m) (hg : ∀ y ∈ l, gdS y.m = true) (hs : SortR l) : apartB l = okM (l.map Rk.m) := by
 rw [Bool.eq_iff_iff, okM_iff]
 unfold apartB
 rw [range_all]
 constructor
 · intro h
   refine ⟨fun x hx => ?_, ?_⟩
   · obtain ⟨y, hy, rfl⟩ := List.mem_map.1 hx
     exact hg y hy
   · have hstep : ∀ i (hi : i + 1 < l.length), (l[i]'(by omega)).m.ipa + (l[i]'(by omega)).m.size ≤ l[i + 1].m.ipa ∧ 0 < (l[i]'(by omega)).m.size := fun i hi => by
      have h1 := h (i + 1) hi
      rw [apAt_succ hi] at h1
      have h2 := List.pairwise_iff_getElem.1 hs i (i + 1) (by omega) hi (by omega)
      exact ok_rise (hb _ (List.getElem_mem _)) (hb _ (List.getElem_mem _)) (hg _ (List.getElem_mem _)) (hg _ (List.getElem_mem _)) (by simpa using h1) h2
     have hfar : ∀ d i (hi : i + d + 1 < l.length), (l[i]'(by omega)).m.ipa + (l[i]'(by omega)).m.size ≤ (l[i + d + 1]'hi).m.ipa := by
      intro d
      induction d with
      | zero => intro i hi; exact (hstep i hi).1
      | succ d ih =>
       intro i hi
       have h1 := ih i (by omega)
       have h2 := hstep (i + d + 1) (by omega)
       have e : l[i + (d + 1) + 1] = l[i + d + 1 + 1] := by congr 1
       rw [e]
       omega
     rw [List.pairwise_iff_getElem]
     intro i j hi hj hij
     rw [List.length_map] at hi hj
     rw [List.getElem_map, List.getElem_map]
     have h1 := hfar (j - i - 1) i (by omega)
     have e : l[i + (j - i - 1) + 1]'(by omega) = l[j] := by congr 1; omega
     rw [e] at h1
     have b1 := hb _ (List.getElem_mem hi)
     have b2 := hb _ (List.getElem_mem hj)
     rw [← Bool.not_eq_true, overlap_iff]
     rintro ⟨_, _, h3, h4⟩
     have z1 := b1.ipa.1
     have z2 := b1.size.1
     have z3 := b2.ipa.1
     unfold ipaS at h3 h4
     simp only at h3 h4
     have g1 := hg _ (List.getElem_mem hi)
     unfold gdS at g1
     rw [Bool.and_eq_true] at g1
     have g2 := (good_iff _).1 g1.1
     unfold ipaS at g2
     simp only at g2
     omega
 · rintro ⟨_, h⟩ i hi
   cases i with
   | zero => exact apAt_zero l
   | succ i =>
     rw [apAt_succ hi]
     have := List.pairwise_iff_getElem.1 h i (i + 1) (by rw [List.length_map]; omega) (by rw [List.length_map]; omega) (by omega)
     rw [List.getElem_map, List.getElem_map] at this
     rw [this]; rfl
theorem RowE.atM {w : World} {A : Option Addr} {l : List Rk} (h : RowE 6 rkE w w.heap.size A l) {k : Nat} (hk : k < l.length) : ∃ a p, A = some a ∧ a.add (k * 6) = p ∧ ∀ Y, Below w.heap.size w Y → ∀ i, i < 5 → Y.cell? (p.add i) = some (mpE l[k].m i) := by
 obtain ⟨a, p, e1, e2, e3, e4⟩ := h.at hk
 refine ⟨a, p, e1, e2, fun Y hY i hi => ?_⟩
 rw [hY.cell (p := p.add i) (by rw [addr_add_block]; exact e3), e4 i (by omega)]
 rcases (by omega : i = 0 ∨ i = 1 ∨ i = 2 ∨ i = 3 ∨ i = 4) with rfl | rfl | rfl | rfl | rfl <;> rfl
set_option maxHeartbeats 4000000 in
set_option maxRecDepth 100000 in
theorem apart_any (l : List Rk) (A : Option Addr) (c : Nat) (w : World) (hb : ∀ y ∈ l, MpB y.m) (hr : RowE 6 rkE w w.heap.size A l) (hl : l.length ≤ 1000000) : Calls Tryz.prog 99 #[.slice A l.length c] w (EqV (apartB l) w) := by
 obtain ⟨N, hN⟩ : ∃ n, n = l.length := ⟨_, rfl⟩
 have HN := Lib.hid hN
 have HR := Lib.hid hr
 have HB := Lib.hid hb
 have hNl : N ≤ 1000000 := by omega
 have HA : Hid ((List.range N).all (apAt l) = apartB l) := Lib.hid (by rw [hN]; rfl)
 generalize apartB l = q at HA ⊢
 unfold EqV
 rw [← hN]
 clear hN hr hb hl
 go_enter Tryz.func99, Tryz.ntmps99
 go_wp2
 go_loopw [3] (fun v W => ∃ k : Nat, v = .int .i64 k ∧ 1 ≤ k ∧ k ≤ N + 1 ∧ Hid ((List.range (min k N)).all (apAt l) = true) ∧ Hid (Below w.heap.size w W)) (fun v _ => N + 1 - (intOf v).toNat)
 case atStart => exact ⟨1, by first | rfl | go_num, Nat.le_refl _, by omega, Lib.hid (by
  rw [range_all]
  intro i hi
  obtain rfl : i = 0 := by omega
  exact apAt_zero l), Lib.hid (Below.refl _ _)⟩
 case round =>
  obtain ⟨k, rfl, hk1, hkN, HQ, HBW⟩ := hrel
  obtain ⟨V, hV⟩ : ∃ V : World, V = wr := ⟨_, rfl⟩
  subst hV
  by_cases hlt : k < N
  · have hlz : (k : Int) < (N : Int) := by omega
    obtain ⟨m, rfl⟩ : ∃ m, k = m + 1 := ⟨k - 1, by omega⟩
    have hmN : m + 1 < l.length := by rw [← HN.out]; exact hlt
    obtain ⟨a1, p1, ea, hp1, hc1⟩ := (HR.out.up HBW.out).atM (k := m) (by omega)
    subst ea
    obtain ⟨a2, p2, ea, hp2, hc2⟩ := (HR.out.up HBW.out).atM (k := m + 1) hmN
    injection ea with ea
    subst ea
    obtain ⟨x, hx⟩ : ∃ x, x = l[m] := ⟨_, rfl⟩
    obtain ⟨y, hy⟩ : ∃ y, y = l[m + 1] := ⟨_, rfl⟩
    have hbx : MpB x.m := by rw [hx]; exact HB.out _ (List.getElem_mem _)
    have hby : MpB y.m := by rw [hy]; exact HB.out _ (List.getElem_mem _)
    have hap := apAt_succ hmN
    rw [← hx, ← hy] at hap
    rw [← hx] at hc1
    rw [← hy] at hc2
    obtain ⟨o, ho⟩ : ∃ o, o = overlap (ipaS x.m) (ipaS y.m) := ⟨_, rfl⟩
    have HS1 := Lib.hid (fun W => seen_any x.m hbx W)
    have HS2 := Lib.hid (fun W => seen_any y.m hby W)
    have HOV := Lib.hid (fun W => overlapE (ipaS x.m) (ipaS y.m) (fit_ipa hbx) (fit_ipa hby) W)
    rw [← ho] at HOV hap
    unfold EqV at HOV
    have HC1 := Lib.hid hc1
    have HC2 := Lib.hid hc2
    have HAP := Lib.hid hap
    have wm : IntKind.i64.wrap (((m + 1 : Nat) : Int) - 1) = (m : Int) := by rw [IntKind.wrap_i64] <;> omega
    have wm2 : IntKind.i64.wrap ((m : Int) + 1 - 1) = (m : Int) := by rw [IntKind.wrap_i64] <;> omega
    have wm3 : IntKind.i64.wrap (m : Int) = (m : Int) := by rw [IntKind.wrap_i64] <;> omega
    have hmz : (m : Int) < (N : Int) := by omega
    have hm0 : (0 : Int) ≤ (m : Int) := by omega
    have hmt : ((m : Int)).toNat = m := by omega
    have hm1 : (0 : Int) ≤ (m : Int) + 1 := by omega
    have hmt1 : ((m : Int) + 1).toNat = m + 1 := by omega
    have hmz1 : (m : Int) + 1 < (N : Int) := by omega
    have hmin : min (m + 1) N = m + 1 := by omega
    have HMIN := Lib.hid hmin
    have HLT := Lib.hid hmN
    clear hc1 hc2 hap ho hx hy hbx hby hmN hmin
    cases o
    · go_upto_region 4 with fail
      refine wp_region_held_drew (S := fun Y => VS V Y) (by kernel_rfl) (VS.begin V) (fun hS => ?_)
      refine tA 0 (h := ?_)
      refine tA 1 (h := ?_)
      refine tA 2 (h := ?_)
      refine tP 3 (hy := by (intro W hW; clear hW; go_simp; (try with_reducible rfl); (try (intro h; omega)))) (h := ?_)
      refine tA 4 (h := ?_)
      refine tP 5 (v := .agg (vec 5 (mpE x.m))) (hy := by (intro W hW; exact exec_load_q 87 _ rfl p1 (by first | rfl | (simp; done)) _ (run_load_q (HC1.out W (show Below V.heap.size V W from hW)) Tryz.underlying87 rfl infoMp))) (h := ?_)
      refine tA 7 (h := ?_)
      refine tA 8 (h := ?_)
      refine tP 9 (hy := by (intro W hW; clear hW; go_simp; (try with_reducible rfl); (try (intro h; omega)))) (h := ?_)
      refine tA 10 (h := ?_)
      refine tP 11 (v := .agg (vec 5 (mpE y.m))) (hy := by (intro W hW; exact exec_load_q 87 _ rfl p2 (by first | rfl | (simp; done)) _ (run_load_q (HC2.out W (show Below V.heap.size V W from hW)) Tryz.underlying87 rfl infoMp))) (h := ?_)
      refine oQ 6 (h := fun K6 hK6 => ?_)
      go_simp
      refine (HS1.out _).mono ?_
      rintro e y6 ⟨rfl, hd⟩
      refine hK6 _ _ ((show VS V _ from hS).keep hd) (fun hS6 => ?_)
      clear hd hS hK6 K6
      refine oQ 12 (h := fun K12 hK12 => ?_)
      go_simp
      refine (HS2.out _).mono ?_
      rintro e y12 ⟨rfl, hd⟩
      refine hK12 _ _ ((show VS V _ from hS6).keep hd) (fun hS12 => ?_)
      clear hd hS6 hK12 K12
      refine oQ 13 (h := fun K13 hK13 => ?_)
      go_simp
      refine (HOV.out _).mono ?_
      rintro e y13 ⟨rfl, hd⟩
      refine hK13 _ _ ((show VS V _ from hS12).keep hd) (fun hS13 => ?_)
      clear hd hS12 hK13 K13
      refine wpAnyH_done (by kernel_rfl) ?_ _
      have HS := Lib.hid (show Below V.heap.size V _ from hS13)
      clear hS13
      go_wp2_with fail
      go_roundw
      case rel => exact ⟨m + 1 + 1, by go_num, by omega, by omega, Lib.hid (by rw [show min (m + 1 + 1) N = min (m + 1) N + 1 by omega]; refine range_snoc HQ.out ?_; rw [HMIN.out]; exact HAP.out), Lib.hid (HBW.out.trans (HS.out.mono HBW.out.size))⟩
      case measure => simp [intOf]; omega
    · go_upto_region 4 with fail
      refine wp_region_held_drew (S := fun Y => VS V Y) (by kernel_rfl) (VS.begin V) (fun hS => ?_)
      refine tA 0 (h := ?_)
      refine tA 1 (h := ?_)
      refine tA 2 (h := ?_)
      refine tP 3 (hy := by (intro W hW; clear hW; go_simp; (try with_reducible rfl); (try (intro h; omega)))) (h := ?_)
      refine tA 4 (h := ?_)
      refine tP 5 (v := .agg (vec 5 (mpE x.m))) (hy := by (intro W hW; exact exec_load_q 87 _ rfl p1 (by first | rfl | (simp; done)) _ (run_load_q (HC1.out W (show Below V.heap.size V W from hW)) Tryz.underlying87 rfl infoMp))) (h := ?_)
      refine tA 7 (h := ?_)
      refine tA 8 (h := ?_)
      refine tP 9 (hy := by (intro W hW; clear hW; go_simp; (try with_reducible rfl); (try (intro h; omega)))) (h := ?_)
      refine tA 10 (h := ?_)
      refine tP 11 (v := .agg (vec 5 (mpE y.m))) (hy := by (intro W hW; exact exec_load_q 87 _ rfl p2 (by first | rfl | (simp; done)) _ (run_load_q (HC2.out W (show Below V.heap.size V W from hW)) Tryz.underlying87 rfl infoMp))) (h := ?_)
      refine oQ 6 (h := fun K6 hK6 => ?_)
      go_simp
      refine (HS1.out _).mono ?_
      rintro e y6 ⟨rfl, hd⟩
      refine hK6 _ _ ((show VS V _ from hS).keep hd) (fun hS6 => ?_)
      clear hd hS hK6 K6
      refine oQ 12 (h := fun K12 hK12 => ?_)
      go_simp
      refine (HS2.out _).mono ?_
      rintro e y12 ⟨rfl, hd⟩
      refine hK12 _ _ ((show VS V _ from hS6).keep hd) (fun hS12 => ?_)
      clear hd hS6 hK12 K12
      refine oQ 13 (h := fun K13 hK13 => ?_)
      go_simp
      refine (HOV.out _).mono ?_
      rintro e y13 ⟨rfl, hd⟩
      refine hK13 _ _ ((show VS V _ from hS12).keep hd) (fun hS13 => ?_)
      clear hd hS12 hK13 K13
      refine wpAnyH_done (by kernel_rfl) ?_ _
      have HS := Lib.hid (show Below V.heap.size V _ from hS13)
      clear hS13
      have HF := Lib.hid (show q = false by rw [← HA.out]; exact range_off (k := m + 1) hlt HAP.out)
      go_wp2_with fail
      (try simp only [Exit.inBlock, Exit.then])
      go_ret
      exact ⟨by rw [HF.out]; rfl, HBW.out.trans (HS.out.mono HBW.out.size)⟩
  · have hlz : ¬ (k : Int) < (N : Int) := by omega
    have HF := Lib.hid (show q = true by rw [← HA.out]; have h := HQ.out; rwa [show min k N = N by omega] at h)
    go_wp2_with fail
    go_ret
    exact ⟨by rw [HF.out]; rfl, HBW.out⟩
theorem bare_next (l : List Rk) {k : Nat} (h : k < l.length) : (l.take (k + 1)).map Rk.m = (l.take k).map Rk.m ++ [l[k].m] := by
 rw [List.take_succ_eq_append_getElem h, List.map_append]; rfl
set_option maxHeartbeats 4000000 in
set_option maxRecDepth 100000 in
theorem bare_any (l : List Rk) (A : Option Addr) (c : Nat) (w : World) (hr : RowE 6 rkE w w.heap.size A l) (hl : l.length ≤ 1000000) : Calls Tryz.prog 100 #[.slice A l.length c] w fun e w' => ∃ v, e = .returned v ∧ OwnM w' w.heap.size v (l.map Rk.m) ∧ Below w.heap.size w w' := by
 obtain ⟨N, hN⟩ : ∃ n, n = l.length := ⟨_, rfl⟩
 have HN := Lib.hid hN
 have HR := Lib.hid hr
 have hNl : N ≤ 1000000 := by omega
 rw [← hN]
 clear hN hr hl
 go_enter Tryz.func100, Tryz.ntmps100
 go_wp2
 go_loopw [3, 8] (fun s v W => ∃ (k e : Nat) (B : Option Addr), k ≤ N ∧ v = .int .i64 k ∧ s = .slice B k e ∧ Hid (OwnM W w.heap.size (.slice B k e) ((l.take k).map Rk.m)) ∧ Hid (Below w.heap.size w W)) (fun _ v _ => N - (intOf v).toNat)
 case atStart => exact ⟨0, 0, none, Nat.zero_le _, rfl, rfl, Lib.hid (OwnE.nil _ _), Lib.hid (Below.refl _ _)⟩
 case round =>
  obtain ⟨k, e, B, hk, rfl, rfl, HO, HB⟩ := hrel
  obtain ⟨V, hV⟩ : ∃ V : World, V = wr := ⟨_, rfl⟩
  subst hV
  by_cases hlt0 : k < N
  · have hlt : k < l.length := by rw [← HN.out]; exact hlt0
    obtain ⟨b0, p, ea, hp, -, hcp⟩ := (HR.out.up HB.out).at hlt
    obtain ⟨y, hy⟩ : ∃ y, y = l[k] := ⟨_, rfl⟩
    rw [← hy] at hcp
    have hki : (k : Int) < (N : Int) := by omega
    obtain ⟨r, hr⟩ : ∃ r, r = V.heap.size := ⟨_, rfl⟩
    obtain ⟨X, hX⟩ : ∃ X, X = (V.alloc (.cells (vec 6 (rkE zRk)) 145)).setRow V.heap.size (vec 6 (rkE y)) := ⟨_, rfl⟩
    have b1 : Below V.heap.size V X := by rw [hX]; exact below_row ((Below.refl _ _).alloc (Nat.le_refl _) _) (Nat.le_refl _) _
    have a1 : Arr X r 145 6 (rkE y) := by rw [hX, hr]; exact (Arr.new V _ _ _).row _
    have hm5 : ∀ i, i < 5 → X.cell? ((⟨r, 0, none⟩ : Addr).add i) = some (mpE y.m i) := fun i hi => by
     rw [add_atM, Nat.zero_add, a1.cell (by omega)]
     rcases (by omega : i = 0 ∨ i = 1 ∨ i = 2 ∨ i = 3 ∨ i = 4) with rfl | rfl | rfl | rfl | rfl <;> rfl
    have HBX := Lib.hid (HB.out.trans (b1.mono HB.out.size))
    have HOX := Lib.hid (OwnE.on HO.out b1 (Nat.le_refl _))
    have hlen : ((l.take k).map Rk.m).length = k := by rw [List.length_map, List.length_take]; omega
    obtain ⟨B4, e4, w4, hrun, ho4, hb4⟩ := app_E (P := Tryz.prog) Tryz.underlying48 info_map (vec_size _ _) (by decide) (fun x => mpE_one x 5) y.m HOX.out HBX.out.size (by rw [hlen]; omega) (by decide) 48
    have hsn := bare_next l hlt
    rw [← hy] at hsn
    rw [hlen, ← hsn] at ho4
    rw [hlen] at hrun
    have hbs := build_map y.m X
    have HO4 := Lib.hid ho4
    have HB4 := Lib.hid (HBX.out.trans hb4)
    have HCP := Lib.hid hcp
    have HX := Lib.hid hX
    have HRR := Lib.hid hr
    have HM5 := Lib.hid hm5
    subst ea
    clear hcp hlt hr hX b1 a1 hy ho4 hb4 hm5 hlen hsn
    go_upto_region 5 with (first
     | ((with_reducible show wpList _ _ _ (Oper.mk _ (.load _ _) _ _ _ _ :: _) _ _); refine wl_load_q rfl 145 _ rfl p rfl _ (run_load_q HCP.out Tryz.underlying145 rfl infoRk) ?_)
     | ((with_reducible show wpList _ _ _ (Oper.mk _ (.store _ _ _) _ _ _ _ :: _) _ _); refine wl_store rfl 145 _ _ rfl _ rfl _ rfl (run_store_arr (Arr.new V _ _ _) (rkE y) infoRk (rkE_one _ _)) ?_))
    rw [← HX.out, ← HRR.out]
    clear HX HCP HRR
    go_wp2_with (first
     | ((with_reducible show wpList _ _ _ (Oper.mk _ (.load 87 _) _ _ _ _ :: _) _ _); refine wl_load_q rfl 87 _ rfl ⟨r, 0, none⟩ rfl _ (run_load_q HM5.out Tryz.underlying87 rfl infoMp) ?_)
     | ((with_reducible show wpList _ _ _ (Oper.mk _ (.buildSlice _ _ _) _ _ _ _ :: _) _ _); refine wl_bs1 rfl _ rfl (.agg (vec 5 (mpE y.m))) rfl hbs ?_))
    go_roundw
    case rel => exact ⟨k + 1, e4, B4, by omega, by go_num, rfl, HO4, HB4⟩
    case measure => simp [intOf]; omega
  · obtain rfl : k = N := by omega
    go_wp2_with fail
    go_ret
    exact ⟨_, rfl, by have h := HO.out; rw [HN.out, List.take_length] at h; rw [HN.out]; exact h, HB.out⟩
end Go.Proofs.YtkaipknkjocfiaaGreat
namespace Go.Proofs.YtkaipknkjocfiaaGreat
open Go.RowKit
attribute [local go_sem ↓ high] zeroCf
theorem partsR_B {t : Gs} {chs : List Ch} {g : Int} (hw : ∀ y ∈ t.wins, WiB y) (hd : ∀ y ∈ t.devs, DeB y) (hc : ∀ y ∈ chs, ChB y) : ∀ y ∈ partsR t chs g, MpB y.m := fun y hy => by
 have h : y.m ∈ partsP t chs g := by rw [← parts_m]; exact List.mem_map.2 ⟨y, hy, rfl⟩
 exact parts_B hw hd hc _ ((sortP_perm _).mem_iff.2 h)
theorem gdAll_no {t : Gs} {chs : List Ch} {g : Int} (h : (partsR t chs g).all (fun y => gdS y.m) = false) : okM (sortP (partsP t chs g)) = false := by
 rw [← Bool.not_eq_true, okM_perm (sortP_perm _), okM_iff]
 rintro ⟨h1, -⟩
 rw [← Bool.not_eq_true, List.all_eq_true] at h
 refine h fun y hy => h1 _ ?_
 rw [← parts_m]
 exact List.mem_map.2 ⟨y, hy, rfl⟩
theorem sorted_m {r : List Rk} (h : SortR r) : Sorted (r.map Rk.m) := by
 unfold Sorted
 rw [List.pairwise_map]
 exact h
theorem maps_ok {t : Gs} {chs : List Ch} {g : Int} {r : List Rk} (hB : ∀ y ∈ partsR t chs g, MpB y.m) (hg : (partsR t chs g).all (fun y => gdS y.m) = true) (hp : r.Perm (partsR t chs g)) (hs : SortR r) :
  apartB r = okM (sortP (partsP t chs g)) ∧ (apartB r = true → r.map Rk.m = sortP (partsP t chs g)) := by
 have hm : (r.map Rk.m).Perm (partsP t chs g) := by rw [← parts_m]; exact hp.map _
 have h1 : apartB r = okM (r.map Rk.m) := apart_ok (fun y hy => hB y (hp.mem_iff.1 hy)) (fun y hy => List.all_eq_true.1 hg y (hp.mem_iff.1 hy)) hs
 have h2 : okM (r.map Rk.m) = okM (partsP t chs g) := okM_perm hm
 refine ⟨by rw [h1, h2, okM_perm (sortP_perm _)], fun h => ?_⟩
 refine sort_unique (fun z hz => ?_) hm (sorted_m hs) (by rw [← h2, ← h1]; exact h)
 rw [← parts_m] at hz
 obtain ⟨y, hy, rfl⟩ := List.mem_map.1 hz
 exact hB y hy
set_option maxHeartbeats 4000000 in
set_option maxRecDepth 100000 in
theorem codeMaps : CodeMaps := fun x a c g w hx hb hf => by
 obtain ⟨q0, hq0⟩ : ∃ q, q = w.heap.size := ⟨_, rfl⟩
 obtain ⟨V, hV⟩ : ∃ V, V = w.alloc (.cells (vec 3 (cfE x.ver a c)) 31) := ⟨_, rfl⟩
 have k1 : Arr V q0 31 3 (cfE x.ver a c) := by rw [hV, hq0]; exact Arr.new w _ _ _
 have hB : Below w.heap.size w V := by rw [hV]; exact (Below.refl _ _).alloc (Nat.le_refl _) _
 obtain ⟨A, d, A2, d2, rfl, rfl, hch, hgu⟩ := cf_guest hx
 have HV := Lib.hid hV
 have HQ0 := Lib.hid hq0
 have HB := Lib.hid hB
 have HK := Lib.hid k1
 have HX := Lib.hid hx
 have HCB := Lib.hid hb
 have HF := Lib.hid hf
 obtain ⟨Q, hQ⟩ : ∃ Q, Q = MapsC (mapsP x g) w := ⟨_, rfl⟩
 have HQE : Hid (∀ (n : Nat) (W : World), mapsP x g = .error n → Below w.heap.size w W → Q (.returned (.tuple #[.slice none 0 0, .int .i64 (n : Int)])) W) := Lib.hid (fun n W h1 h2 => by rw [hQ]; unfold MapsC; rw [h1]; exact ⟨none, 0, rfl, h2⟩)
 have HQO : Hid (∀ (l : List Mp) (v : Value) (W : World), mapsP x g = .ok l → OwnM W w.heap.size v l → Below w.heap.size w W → Q (.returned (.tuple #[v, .int .i64 0])) W) := Lib.hid (fun l v W h1 h2 h3 => by rw [hQ]; unfold MapsC; rw [h1]; exact ⟨v, rfl, h2, h3⟩)
 obtain ⟨NG, hNG⟩ : ∃ n, n = x.gs.length := ⟨_, rfl⟩
 obtain ⟨NC, hNC⟩ : ∃ n, n = x.chs.length := ⟨_, rfl⟩
 have HTH := Lib.hid (fun W => there_any x.ver A NG d (.slice A2 NC d2) g W)
 rw [← hQ]
 unfold cfVal
 rw [← hNG, ← hNC] at HK HV ⊢
 unfold EqV at HTH
 by_cases hno : g < 0 ∨ (x.gs.length : Int) ≤ g
 · have hm : mapsP x g = .error 1 := by unfold mapsP; rw [guestAt_no hno]
   rw [← hNG] at hno
   rw [thereB_no hno] at HTH
   have HM := Lib.hid hm
   clear hx hb hf hV hq0 k1 hB hQ hch hgu hno hm hNG hNC
   go_enter Tryz.func56, Tryz.ntmps56
   go_upto_region 1 with fail
   rw [← HV.out, ← HQ0.out]
   clear HV HQ0
   go_wp2_with (first
     | ((with_reducible show wpList _ _ _ (Oper.mk (some 8) (.load 31 _) _ _ _ _ :: _) _ _); refine wl_load rfl 31 _ rfl q0 rfl _ (run_load_arr HK.out Tryz.underlying31 rfl infoCf) ?_)
     | (go_at_call 97; refine (HTH.out _).mono ?_; rintro e w1 ⟨rfl, hd⟩; have HD1 := Lib.hid hd; clear hd))
   exact HQE.out 1 _ HM.out (HB.out.trans (HD1.out.mono HB.out.size))
 · obtain ⟨i, rfl⟩ := Int.eq_ofNat_of_zero_le (show 0 ≤ g by omega)
   have hi : i < x.gs.length := by omega
   have hga := guestAt_yes hi
   rw [thereB_yes (by omega)] at HTH
   have hgb := hb.gs _ (List.getElem_mem hi)
   obtain ⟨t, ht⟩ : ∃ t, t = x.gs[i] := ⟨_, rfl⟩
   rw [← ht] at hga hgb
   have hpg : partsG x (i : Int) = partsR t x.chs (i : Int) := by unfold partsG; rw [hga]
   have hpb := partsR_B (t := t) (chs := x.chs) (g := (i : Int)) hgb.wins hgb.devs hb.chs
   have hmp : mapsP x (i : Int) = if okM (sortP (partsP t x.chs (i : Int))) = true then .ok (sortP (partsP t x.chs (i : Int))) else .error 160 := by unfold mapsP; rw [hga]
   have hpl := partsG_len (i : Int) hf
   have HGA : Hid (∀ W, Below V.heap.size V W → Calls Tryz.prog 98 #[.agg (vec 3 (cfE x.ver (.slice A NG d) (.slice A2 NC d2))), .int .i64 (i : Int)] W (GathP x (i : Int) W)) := Lib.hid fun W hW => by
     have h := gathered_any x _ _ (i : Int) W (hx.up (hB.trans (hW.mono hB.size))) hb hf
     unfold cfVal at h
     rw [← hNG, ← hNC] at h
     exact h
   have HPG := Lib.hid hpg
   have HPB := Lib.hid hpb
   have HMP := Lib.hid hmp
   have HPL := Lib.hid hpl
   obtain ⟨b, hgd⟩ : ∃ b, b = gdAll x (i : Int) := ⟨_, rfl⟩
   unfold GathP at HGA
   rw [← hgd] at HGA
   have HGD := Lib.hid hgd
   clear hx hb hf hV hq0 k1 hB hQ hch hgu hno hNG hNC hi hga hgb ht hpg hpb hmp hpl hgd
   cases b
   · have hno := gdAll_no (t := t) (chs := x.chs) (g := (i : Int)) (by rw [← HPG.out]; exact HGD.out.symm)
     have HM : Hid (mapsP x (i : Int) = .error 160) := Lib.hid (by rw [HMP.out, hno]; rfl)
     clear hno
     go_enter Tryz.func56, Tryz.ntmps56
     go_upto_region 1 with fail
     rw [← HV.out, ← HQ0.out]
     clear HV HQ0
     go_wp2_with (first
       | ((with_reducible show wpList _ _ _ (Oper.mk (some 8) (.load 31 _) _ _ _ _ :: _) _ _); refine wl_load rfl 31 _ rfl q0 rfl _ (run_load_arr HK.out Tryz.underlying31 rfl infoCf) ?_)
       | ((with_reducible show wpList _ _ _ (Oper.mk (some 13) (.load 31 _) _ _ _ _ :: _) _ _); refine wl_load rfl 31 _ rfl q0 rfl _ (run_load_arr (HK.out.under HD1.out) Tryz.underlying31 rfl infoCf) ?_)
       | (go_at_call 97; refine (HTH.out _).mono ?_; rintro e w1 ⟨rfl, hd⟩; have HD1 := Lib.hid hd; clear hd)
       | (go_at_call 98; refine (HGA.out _ HD1.out).mono ?_; intro e w2 hg; rw [if_neg (by decide)] at hg; obtain ⟨rfl, hd⟩ := hg; have HD2 := Lib.hid (HD1.out.trans (hd.mono HD1.out.size)); clear hd HGA))
     exact HQE.out 160 _ HM.out (HB.out.trans (HD2.out.mono HB.out.size))
   · have HGA2 := Lib.hid (fun W hW => (HGA.out W hW).mono (fun e w' h => (show (∃ (v : Value) (r : List Rk), e = .returned (.tuple #[v, .bool true]) ∧ r.Perm (partsG x (i : Int)) ∧ SortR r ∧ OwnR w' W.heap.size v r ∧ Below W.heap.size W w') by simpa using h)))
     clear HGA
     have HOKR : Hid (∀ r : List Rk, r.Perm (partsG x (i : Int)) → SortR r → apartB r = okM (sortP (partsP t x.chs (i : Int))) ∧ (apartB r = true → r.map Rk.m = sortP (partsP t x.chs (i : Int)))) := Lib.hid fun r h1 h2 => maps_ok HPB.out (by rw [← HPG.out]; exact HGD.out.symm) (by rw [← HPG.out]; exact h1) h2
     go_enter Tryz.func56, Tryz.ntmps56
     go_upto_region 1 with fail
     rw [← HV.out, ← HQ0.out]
     clear HV HQ0
     go_upto_region 4 with (first
       | ((with_reducible show wpList _ _ _ (Oper.mk (some 8) (.load 31 _) _ _ _ _ :: _) _ _); refine wl_load rfl 31 _ rfl q0 rfl _ (run_load_arr HK.out Tryz.underlying31 rfl infoCf) ?_)
       | ((with_reducible show wpList _ _ _ (Oper.mk (some 13) (.load 31 _) _ _ _ _ :: _) _ _); refine wl_load rfl 31 _ rfl q0 rfl _ (run_load_arr (HK.out.under HD1.out) Tryz.underlying31 rfl infoCf) ?_)
       | (go_at_call 97; refine (HTH.out _).mono ?_; rintro e w1 ⟨rfl, hd⟩; have HD1 := Lib.hid hd; clear hd)
       | (go_at_call 98; refine (HGA2.out _ HD1.out).mono ?_; rintro e w2 ⟨v, r, rfl, hp, hs, ho, hd⟩; have HD2 := Lib.hid (HD1.out.trans (hd.mono HD1.out.size)); have HR := Lib.hid (And.intro hp (And.intro hs ho)); clear hd hp hs ho HGA2))
     obtain ⟨h1, h2⟩ := HOKR.out r HR.out.1 HR.out.2.1
     obtain ⟨B, e4, rfl, -, hrow, -⟩ := HR.out.2.2.form
     have hrl : r.length ≤ 1000000 := by rw [HR.out.1.length_eq]; have := HPL.out; omega
     have HRL := Lib.hid hrl
     have HROW := Lib.hid hrow
     have HAPA := Lib.hid (apart_any r B e4 w2 (fun y hy => HPB.out y (by rw [← HPG.out]; exact HR.out.1.mem_iff.1 hy)) hrow hrl)
     obtain ⟨ab, hab⟩ : ∃ b, b = apartB r := ⟨_, rfl⟩
     rw [← hab] at h1 h2 HAPA
     have H1 := Lib.hid h1
     have H2 := Lib.hid h2
     unfold EqV at HAPA
     clear h1 h2 hrow hrl hab HOKR
     cases ab
     · have HM : Hid (mapsP x (i : Int) = .error 160) := Lib.hid (by rw [HMP.out, ← H1.out]; rfl)
       go_wp2_with (go_at_call 99; refine HAPA.out.mono ?_; rintro e w3 ⟨rfl, hd⟩; have HD3 := Lib.hid (HD2.out.trans (hd.mono HD2.out.size)); clear hd)
       exact HQE.out 160 _ HM.out (HB.out.trans (HD3.out.mono HB.out.size))
     · have HM : Hid (mapsP x (i : Int) = .ok (r.map Rk.m)) := Lib.hid (by rw [HMP.out, ← H1.out, H2.out rfl]; rfl)
       go_wp2_with (first
        | (go_at_call 99; refine HAPA.out.mono ?_; rintro e w3 ⟨rfl, hd⟩; have HD3 := Lib.hid (HD2.out.trans (hd.mono HD2.out.size)); have HBA := Lib.hid (bare_any r B e4 w3 (HROW.out.up hd) HRL.out); clear hd)
        | (go_at_call 100; refine HBA.out.mono ?_; rintro e w4 ⟨v4, rfl, ho4, hd4⟩; have HD4 := Lib.hid (And.intro (HD3.out.trans (hd4.mono HD3.out.size)) ho4); clear hd4 ho4))
       exact HQO.out _ _ _ HM.out (HD4.out.2.low (Nat.le_trans HB.out.size HD3.out.size)) (HB.out.trans (HD4.out.1.mono HB.out.size))
end Go.Proofs.YtkaipknkjocfiaaGreat
