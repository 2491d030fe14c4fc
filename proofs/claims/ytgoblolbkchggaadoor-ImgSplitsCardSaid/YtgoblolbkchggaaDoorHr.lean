/- read: any 64 bytes as a header with its bytes. -/
import Derived.Test.YtgoblolbkchggaaDoorHc
import Derived.Test.YtgoblolbkchggaaDoorXr1
namespace Go.Proofs.YtgoblolbkchggaaDoor
open Go.RowKit
attribute [local go_sem ↓ high] zeroHv zeroHd

theorem numOf_cut (l : By) (k m : Nat) (h : k + m ≤ l.length) : numOf l (k : Int) m false = val (cutB l k m) := by
  unfold numOf cutB
  rw [if_pos (by omega), if_neg (by decide), val_cut l k m h]
  refine accB_congr _ _ m fun i hi => ?_
  unfold bAt
  rw [Int.toNat_natCast, List.getD_eq_getElem?_getD]
theorem numHas_in (n k m : Nat) (h : k + m ≤ n) : numHas n (k : Int) m = true := by simp only [numHas, decide_eq_true_eq]; omega
/-- What a trimmed name makes of 64 bytes: the header, if they are one. -/
theorem trim_read {b : By} (hb : b.length = 64) {m : Nat} (ht : Trim (cutB b 16 16) m) {h : Hd} (hh : h = ⟨(val (cutB b 4 4) : Nat), (val (cutB b 8 4) : Nat), (cutB b 16 16).take m, b.drop 32⟩) :
    HdB h ∧ (nameOk h.name && decide (layL h = b)) = isH b ∧ (isH b = true → h = readH b) := by
  have hB : HdB h := by
    have h1 := bound4 b 4
    have h2 := bound4 b 8
    rw [hh]
    refine ⟨⟨by simp, ?_⟩, ⟨by simp, ?_⟩, by simp [hb]⟩
    · show ((val (cutB b 4 4) : Nat) : Int) < 4294967296; omega
    · show ((val (cutB b 8 4) : Nat) : Int) < 4294967296; omega
  have key : isH b = true → h = readH b := by
    intro hi
    obtain ⟨-, -, k3, k4⟩ := (isH_iff hb).1 hi
    have hl : (cutB b 16 16).length = 16 := cutB_len _ _ _ (by omega)
    have tn := trim_name hl ht
    rw [if_pos ⟨k3, k4⟩] at tn
    have e : (cutB b 16 16).take m = nameD (cutB b 16 16) := by
      by_cases hq : nameOk ((cutB b 16 16).take m) = true
      · rw [if_pos hq] at tn
        injection tn with tn
        exact tn.symm
      · rw [if_neg hq] at tn; cases tn
    rw [hh, e]; rfl
  refine ⟨hB, ?_, key⟩
  cases hi : isH b
  · cases hx : (nameOk h.name && decide (layL h = b))
    · rfl
    · exfalso
      simp only [Bool.and_eq_true, decide_eq_true_eq] at hx
      have ho := of_is (b := b) hB hx.1 (by rw [← layL_ok hx.1]; exact hx.2)
      unfold ofH at ho
      rw [hi] at ho
      cases ho
  · have e := key hi
    obtain ⟨-, h2, h3⟩ := isH_len hi
    rw [← e] at h2 h3
    simp only [Bool.and_eq_true, decide_eq_true_eq]
    exact ⟨h2, by rw [layL_ok h2]; exact h3⟩
/-- What read tells of 64 bytes. -/
def ReP (b : By) (w : World) (e : Ending) (w' : World) : Prop := ∃ h, e = .returned (.agg (vec 99 (hvF h b))) ∧ HdB h ∧ h.name.length ≤ 16 ∧ (nameOk h.name && decide (layL h = b)) = isH b ∧ (isH b = true → h = readH b) ∧ Below w.heap.size w w'
set_option maxHeartbeats 4000000 in
set_option maxRecDepth 100000 in
theorem read_any (b : By) (hb : b.length = 64) (w : World) : Calls Tryd.prog 20 #[.agg (vec 64 (bys (kF b)))] w (ReP b w) := by
  obtain ⟨g0, hg0⟩ : ∃ g, g = w.heap.size := ⟨_, rfl⟩
  obtain ⟨V, hV⟩ : ∃ V, V = (w.alloc (.cells (vec 64 (bys (kF b))) 47)).alloc (.cells (vec 99 (hvF zHd (zs 64))) 49) := ⟨_, rfl⟩
  have k0 : Arr V g0 47 64 (bys (kF b)) := by rw [hV, hg0]; exact (Arr.new w _ _ _).alloc _
  have k1 : Arr V (g0 + 1) 49 99 (hvF zHd (zs 64)) := by rw [hV]; exact Arr.newAt _ _ _ _ (by simp [hg0])
  have hB : Below w.heap.size w V := by rw [hV]; exact ((Below.refl _ _).alloc (Nat.le_refl _) _).alloc (by simp <;> omega) _
  have hl : Lies V (g0 + 1) 1 (some ⟨g0, 0, none⟩) 64 (u8s b) := by
    have := k0.lies (Nat.lt_succ_self g0) 0 64 (by decide)
    rw [show (List.range 64).map (fun i => bys (kF b) (0 + i)) = u8s b from by rw [← u8s_kF hb]; exact List.map_congr_left fun i _ => by rw [Nat.zero_add]] at this
    exact this
  have h16 : Lies V (g0 + 1) 1 (some ⟨g0, 16, none⟩) 16 (u8s (cutB b 16 16)) := lies_sub hl 16 16 (by decide)
  obtain ⟨vn, hvn⟩ : ∃ n, n = val (cutB b 4 4) := ⟨_, rfl⟩
  obtain ⟨sn, hsn⟩ : ∃ n, n = val (cutB b 8 4) := ⟨_, rfl⟩
  obtain ⟨l, hll⟩ : ∃ l, l = cutB b 16 16 := ⟨_, rfl⟩
  obtain ⟨D, hD⟩ : ∃ d, d = b.drop 32 := ⟨_, rfl⟩
  have hl16 : l.length = 16 := by rw [hll]; exact cutB_len _ _ _ (by omega)
  have c4 : ∀ n, Calls Tryd.prog 33 #[.slice (some ⟨g0, 0, none⟩) 64 64, .int .i64 4] (V.drewN n) fun e w' => e = .returned (.tuple #[.int .u32 (vn : Int), .bool true]) ∧ ∃ k, w' = (V.drewN n).drewN k := fun n => by
    have := be32_any b (some ⟨g0, 0, none⟩) 64 (g0 + 1) ((4 : Nat) : Int) (V.drewN n) (by rw [hb]; decide) (by rw [hb]; exact hl.drewN n)
    rw [numOf_cut b 4 4 (by omega), ← hvn, hb, numHas_in 64 4 4 (by decide)] at this
    exact this
  have c8 : ∀ n, Calls Tryd.prog 33 #[.slice (some ⟨g0, 0, none⟩) 64 64, .int .i64 8] (V.drewN n) fun e w' => e = .returned (.tuple #[.int .u32 (sn : Int), .bool true]) ∧ ∃ k, w' = (V.drewN n).drewN k := fun n => by
    have := be32_any b (some ⟨g0, 0, none⟩) 64 (g0 + 1) ((8 : Nat) : Int) (V.drewN n) (by rw [hb]; decide) (by rw [hb]; exact hl.drewN n)
    rw [numOf_cut b 8 4 (by omega), ← hsn, hb, numHas_in 64 8 4 (by decide)] at this
    exact this
  have d32 : ∀ i, i < 32 → V.cell? ⟨g0, 32 + i, none⟩ = some (bys (kF D) i) := fun i hi => by
    rw [k0.cell (by omega), hD]
    simp [bys, kF, List.getD_eq_getElem?_getD]
  have HC4 := Lib.hid c4
  have HC8 := Lib.hid c8
  rw [← hll] at h16
  have HTR : Hid (∀ n, Calls Tryd.prog 34 #[.slice (some ⟨g0, 16, none⟩) 16 48, .string ⟨#[0]⟩] (V.drewN n) fun e w' => ∃ m, e = .returned (.slice (some ⟨g0, 16, none⟩) m 48) ∧ Trim l m ∧ V.drewN n = w') := Lib.hid (fun n => trim_any _ _ (g0 + 1) l _ hl16 (by decide) (h16.drewN n))
  have HEND : Hid (∀ m, Trim l m → ∀ W e, e = .returned (.agg (vec 99 (hvF (⟨(vn : Int), (sn : Int), l.take m, D⟩ : Hd) b))) → Below w.heap.size w W → ReP b w e W) := Lib.hid (fun m hm W e he hW => by
    rw [hll] at hm
    obtain ⟨t1, t2, t3⟩ := trim_read hb hm (h := ⟨(vn : Int), (sn : Int), l.take m, D⟩) (by rw [hvn, hsn, hll, hD])
    exact ⟨_, he, t1, by show (l.take m).length ≤ 16; rw [List.length_take, hl16]; exact Nat.min_le_right _ _, t2, t3, hW⟩)
  have HK := Lib.hid (And.intro k0 (And.intro k1 (And.intro hB (And.intro h16 (And.intro hl16 d32)))))
  have HG := Lib.hid (show w.heap.size ≤ g0 + 1 by omega)
  have HW : Hid (V = (w.alloc (.cells (vec 64 (bys (kF b))) 47)).alloc (.cells (vec 99 (hvF zHd (zs 64))) 49)) := Lib.hid hV
  have hga := Lib.hid hg0
  obtain ⟨Q, hQ⟩ : ∃ Q, Q = ReP b w := ⟨_, rfl⟩
  rw [← hQ] at HEND ⊢
  clear hV k0 k1 hB hl h16 c4 c8 d32 hvn hsn hll hD hl16 hg0 hQ hb
  go_enter Tryd.func20, Tryd.ntmps20
  go_upto_region 1 with fail
  rw [← HW.out, ← hga.out]
  clear HW
  go_upto_region 2 with (go_at_call 33; refine (HC4.out 0).mono ?_; rintro e w1 ⟨rfl, n1, rfl⟩)
  go_upto_region 3 with (go_at_call 33; refine (HC8.out _).mono ?_; rintro e w1 ⟨rfl, n2, rfl⟩)
  go_upto_region 4 with (go_at_call 34; refine (HTR.out _).mono ?_; rintro e w1 ⟨m, rfl, hm, rfl⟩; have HM := Lib.hid hm; clear hm)
  obtain ⟨X, hX⟩ : ∃ X, X = V.drewN (n1 + n2) := ⟨_, rfl⟩
  have hVX : Below V.heap.size V X := by rw [hX]; exact below_drewN (Below.refl _ _) _
  obtain ⟨nm, hnm⟩ : ∃ x, x = l.take m := ⟨_, rfl⟩
  have q0 : Arr X g0 47 64 (bys (kF b)) := HK.out.1.under hVX
  have q1 : Arr X (g0 + 1) 49 99 (hvF zHd (zs 64)) := HK.out.2.1.under hVX
  have qn : Lies X (g0 + 1) 1 (some ⟨g0, 16, none⟩) m (u8s nm) := by
    rw [hnm]
    exact lies_take (HK.out.2.2.2.1.below (hVX.mono HK.out.1.lt)) (by have := HM.out.le; have := HK.out.2.2.2.2.1; omega) HK.out.2.2.2.2.1
  have qd : ∀ i, i < 32 → X.cell? ⟨g0, 32 + i, none⟩ = some (bys (kF D) i) := fun i hi => (hVX.cell (show g0 < _ from HK.out.1.lt)).trans (HK.out.2.2.2.2.2 i hi)
  have hwX : Below w.heap.size w X := HK.out.2.2.1.trans (hVX.mono HK.out.2.2.1.size)
  have hE := HEND.out m HM.out
  rw [← hnm] at hE
  have HE := Lib.hid hE
  have HX := Lib.hid (And.intro q0 (And.intro q1 (And.intro qn (And.intro qd hwX))))
  rw [← hX]
  clear hX hVX hnm q0 q1 qn qd hwX hE HEND HK HM HC4 HC8 HTR hga
  refine wp_region_held_drew (S := fun Y => VS X Y) (by kernel_rfl) (VS.begin X) (fun hS => ?_)
  (refine held_take (i := 0) (oi := ?ot1) (v := ?vt1) ?at1 (by kernel_rfl) (by kernel_rfl) (by kernel_rfl) ?bt1 ?ct1 ?dt1 (by assumption) ?rt1; (case at1 => (simp only [List.getElem?_toArray, List.getElem?_cons_zero]; rfl)); (case bt1 => exact fun _ _ _ h => h); (case ct1 => kernel_rfl); (case dt1 => (intro W hW; (try dsimp only at hW); go_split_ands; go_simp; (try with_reducible rfl))); (case' rt1 => simp only [Act.put, List.setIfInBounds_toArray, List.set_cons_zero, List.set_cons_succ]))
  (refine held_take (i := 1) (oi := ?ot2) (v := ?vt2) ?at2 (by kernel_rfl) (by kernel_rfl) (by kernel_rfl) ?bt2 ?ct2 ?dt2 (by assumption) ?rt2; (case at2 => (simp only [List.getElem?_toArray, List.getElem?_cons_zero, List.getElem?_cons_succ]; rfl)); (case bt2 => exact fun _ _ _ h => h); (case ct2 => kernel_rfl); (case dt2 => (intro W hW; (try dsimp only at hW); go_split_ands; go_simp; (try with_reducible rfl))); (case' rt2 => simp only [Act.put, List.setIfInBounds_toArray, List.set_cons_zero, List.set_cons_succ]))
  (refine held_take (i := 2) (oi := ?ot3) (v := ?vt3) ?at3 (by kernel_rfl) (by kernel_rfl) (by kernel_rfl) ?bt3 ?ct3 ?dt3 (by assumption) ?rt3; (case at3 => (simp only [List.getElem?_toArray, List.getElem?_cons_zero, List.getElem?_cons_succ]; rfl)); (case bt3 => exact fun _ _ _ h => h); (case ct3 => kernel_rfl); (case dt3 => (intro W hW; (try dsimp only at hW); go_split_ands; go_simp; (try with_reducible rfl))); (case' rt3 => simp only [Act.put, List.setIfInBounds_toArray, List.set_cons_zero, List.set_cons_succ]))
  (refine held_take (i := 3) (oi := ?ot4) (v := .string (strOf nm)) ?at4 (by kernel_rfl) (by kernel_rfl) (by kernel_rfl) ?bt4 ?ct4 ?dt4 (by assumption) ?rt4; (case at4 => (simp only [List.getElem?_toArray, List.getElem?_cons_zero, List.getElem?_cons_succ]; rfl)); (case bt4 => exact fun _ _ _ h => h); (case ct4 => kernel_rfl); (case dt4 => (intro W hW; have hcv := conv_str W (g0 + 1) (some ⟨g0, 16, none⟩) m 48 nm (HX.out.2.2.1.below ((show Below X.heap.size X W from hW).mono HX.out.1.lt)); go_simp; (try with_reducible rfl))); (case' rt4 => simp only [Act.put, List.setIfInBounds_toArray, List.set_cons_zero, List.set_cons_succ]))
  (refine held_take (i := 4) (oi := ?ot5) (v := ?vt5) ?at5 (by kernel_rfl) (by kernel_rfl) (by kernel_rfl) ?bt5 ?ct5 ?dt5 (by assumption) ?rt5; (case at5 => (simp only [List.getElem?_toArray, List.getElem?_cons_zero, List.getElem?_cons_succ]; rfl)); (case bt5 => exact fun _ _ _ h => h); (case ct5 => kernel_rfl); (case dt5 => (intro W hW; (try dsimp only at hW); go_split_ands; go_simp; (try with_reducible rfl))); (case' rt5 => simp only [Act.put, List.setIfInBounds_toArray, List.set_cons_zero, List.set_cons_succ]))
  (refine held_take (i := 5) (oi := ?ot6) (v := .pointer (some ⟨g0, 32, none⟩)) ?at6 (by kernel_rfl) (by kernel_rfl) (by kernel_rfl) ?bt6 ?ct6 ?dt6 (by assumption) ?rt6; (case at6 => (simp only [List.getElem?_toArray, List.getElem?_cons_zero, List.getElem?_cons_succ]; rfl)); (case bt6 => exact fun _ _ _ h => h); (case ct6 => kernel_rfl); (case dt6 => (intro W hW; clear hW; have har := arr_at32 ⟨g0, 32, none⟩ 32 32 (by decide) W; go_simp; (try with_reducible rfl))); (case' rt6 => simp only [Act.put, List.setIfInBounds_toArray, List.set_cons_zero, List.set_cons_succ]))
  (refine held_take (i := 6) (oi := ?ot7) (v := .agg (vec 32 (bys (kF D)))) ?at7 (by kernel_rfl) (by kernel_rfl) (by kernel_rfl) ?bt7 ?ct7 ?dt7 (by assumption) ?rt7; (case at7 => (simp only [List.getElem?_toArray, List.getElem?_cons_zero, List.getElem?_cons_succ]; rfl)); (case bt7 => exact fun _ _ _ h => h); (case ct7 => kernel_rfl); (case dt7 => (intro W hW; exact exec_load_at 24 _ rfl _ _ rfl _ (run_load_spl (fun i hi => ((show Below X.heap.size X W from hW).cell (show g0 < _ from HX.out.1.lt)).trans (HX.out.2.2.2.1 i hi)) Tryd.underlying24 rfl info32))); (case' rt7 => simp only [Act.put, List.setIfInBounds_toArray, List.set_cons_zero, List.set_cons_succ]))
  (refine held_take (i := 7) (oi := ?ot8) (v := .agg (vec 35 (hdF (⟨(vn : Int), (sn : Int), nm, D⟩ : Hd)))) ?at8 (by kernel_rfl) (by kernel_rfl) (by kernel_rfl) ?bt8 ?ct8 ?dt8 (by assumption) ?rt8; (case at8 => (simp only [List.getElem?_toArray, List.getElem?_cons_zero, List.getElem?_cons_succ]; rfl)); (case bt8 => exact fun _ _ _ h => h); (case ct8 => kernel_rfl); (case dt8 => (intro W hW; exact exec_build 26 _ rfl (vec 35 (hdF (⟨(vn : Int), (sn : Int), nm, D⟩ : Hd))) (by kernel_rfl) W)); (case' rt8 => simp only [Act.put, List.setIfInBounds_toArray, List.set_cons_zero, List.set_cons_succ]))
  refine held_one (i := 8) (oi := ?ot9) (by kernel_rfl) ?at9 ?ct9 (fun K8 hK8 => ?_)
  (case at9 => (simp only [List.getElem?_toArray, List.getElem?_cons_zero, List.getElem?_cons_succ]; rfl))
  (case ct9 => kernel_rfl)
  go_simp
  obtain ⟨y8, hy⟩ : ∃ y, y = (X.alloc (.cells (vec 35 (hdF zHd)) 26)).drew := ⟨_, rfl⟩
  have hd : Below X.heap.size X y8 := by rw [hy]; exact ((Below.refl X.heap.size X).alloc (Nat.le_refl _) (.cells (vec 35 (hdF zHd)) 26)).trans ((show Below _ _ (World.drew _) from VS.begin (X.alloc (.cells (vec 35 (hdF zHd)) 26))).mono (by simp))
  obtain ⟨g, hg⟩ : ∃ g, g = X.heap.size := ⟨_, rfl⟩
  have hga : Arr y8 g 26 35 (hdF zHd) := by rw [hy, hg]; exact Arr.new X _ _ _
  have HGA := Lib.hid (And.intro hga (by rw [hg]; exact Nat.le_refl _ : X.heap.size ≤ g))
  have hSb : VS X y8 := hd
  clear hd hga
  rw [← hy, ← hg]
  clear hy hg
  refine hK8 _ _ hSb (fun hS8 => ?_)
  clear hSb hK8 K8 hS
  refine held_one (i := 9) (oi := ?ot10) (by kernel_rfl) ?at10 ?ct10 (fun K9 hK9 => ?_)
  (case at10 => (simp only [List.getElem?_toArray, List.getElem?_cons_zero, List.getElem?_cons_succ]; rfl))
  (case ct10 => kernel_rfl)
  refine ow_store 26 _ _ rfl _ rfl _ rfl (run_store_arr HGA.out.1 (hdF (⟨(vn : Int), (sn : Int), nm, D⟩ : Hd)) infoHd (hdF_one _ _)) ?_
  have hga := HGA.out.1.row (hdF (⟨(vn : Int), (sn : Int), nm, D⟩ : Hd))
  have hSb := below_row (show Below X.heap.size X _ from hS8) HGA.out.2 (vec 35 (hdF (⟨(vn : Int), (sn : Int), nm, D⟩ : Hd)))
  obtain ⟨Z, hZ⟩ : ∃ Z, Z = World.setRow y8 g (vec 35 (hdF (⟨(vn : Int), (sn : Int), nm, D⟩ : Hd))) := ⟨_, rfl⟩
  rw [← hZ] at hga hSb
  have HZ := Lib.hid (And.intro hga (And.intro hSb HGA.out.2))
  rw [← hZ]
  clear hZ hga
  refine hK9 _ _ hSb (fun hS9 => ?_)
  clear hSb hK9 K9 HGA hS8 hS9
  refine wpAnyH_done (by kernel_rfl) ?_ _
  have z0 : Arr Z g0 47 64 (bys (kF b)) := HX.out.1.under HZ.out.2.1
  have z1 : Arr Z (g0 + 1) 49 99 (hvF zHd (zs 64)) := HX.out.2.1.under HZ.out.2.1
  have hwZ : Below w.heap.size w Z := HX.out.2.2.2.2.trans (HZ.out.2.1.mono HX.out.2.2.2.2.size)
  have HA := Lib.hid (And.intro z0 (And.intro z1 (And.intro HZ.out.1 hwZ)))
  clear z0 z1 hwZ HZ HX
  go_wp2_with (first
    | ((with_reducible show wpList _ _ _ (Oper.mk _ (.load 26 _) _ _ _ _ :: _) _ _); refine wl_load rfl 26 _ rfl g rfl _ (run_load_arr HA.out.2.2.1 Tryd.underlying26 rfl infoHd) ?_)
    | ((with_reducible show wpList _ _ _ (Oper.mk _ (.load 47 _) _ _ _ _ :: _) _ _); refine wl_load rfl 47 _ rfl g0 rfl _ (run_load_arr HA.out.1 Tryd.underlying47 rfl info64) ?_)
    | ((with_reducible show wpList _ _ _ (Oper.mk _ (.build _ _) _ _ _ _ :: _) _ _); refine wl_build rfl 49 _ rfl (vec 99 (hvF (⟨(vn : Int), (sn : Int), nm, D⟩ : Hd) b)) (by kernel_rfl) ?_)
    | ((with_reducible show wpList _ _ _ (Oper.mk _ (.store _ _ _) _ _ _ _ :: _) _ _); refine wl_store rfl 49 _ _ rfl (g0 + 1) rfl _ rfl (run_store_arr HA.out.2.1 (hvF (⟨(vn : Int), (sn : Int), nm, D⟩ : Hd) b) infoHv (hvF_one _ _ _)) ?_))
  exact bodyPost_ret (results_cell1 rfl _ _ _ rfl (run_load_arr (HA.out.2.1.row _) Tryd.underlying49 rfl infoHv)) rfl (HE.out _ _ rfl (below_row HA.out.2.2.2 HG.out _))
end Go.Proofs.YtgoblolbkchggaaDoor
