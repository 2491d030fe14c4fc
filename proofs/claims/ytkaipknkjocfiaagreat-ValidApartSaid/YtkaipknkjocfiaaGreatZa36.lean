import Derived.Test.YtkaipknkjocfiaaGreatZa34
import Derived.Test.YtkaipknkjocfiaaGreatZa35
namespace Go.Proofs.YtkaipknkjocfiaaGreat
open Go.RowKit
set_option maxRecDepth 100000 in
theorem errL_zero {α : Type} {e : α → Nat} : ∀ {l : List α}, errL e l = 0 → ∀ x ∈ l, e x = 0
 | [], _, x, hx => by cases hx
 | y :: ys, h, x, hx => by
  have h : (if e y = 0 then errL e ys else e y) = 0 := h
  by_cases h0 : e y = 0
  · rw [if_pos h0] at h
    rcases List.mem_cons.1 hx with rfl | hx
    · exact h0
    · exact errL_zero h x hx
  · rw [if_neg h0] at h; exact absurd h h0
set_option maxRecDepth 100000 in
theorem flat_le {α : Type} (f : α → By) (m : Nat) : ∀ l : List α, (∀ x ∈ l, (f x).length ≤ m) → (l.flatMap f).length ≤ l.length * m
 | [], _ => by simp
 | x :: xs, h => by
  have h1 := h x (by simp)
  have h2 := flat_le f m xs fun y hy => h y (by simp [hy])
  rw [List.flatMap_cons, List.length_append, List.length_cons, Nat.succ_mul]; omega
set_option maxRecDepth 100000 in
theorem layCh_len (x : Ch) : (layCh x).length = 40 := by simp [layCh, layEn_len, be_len]
theorem layG_len {g : Gs} (hb : g.key.length = 68) (he : errG g = 0) : (layG g).length ≤ 2000 := by
 obtain ⟨hnm, -, hct, -, -⟩ := errG_ok he
 obtain ⟨q0, q1, q2, q3⟩ := cnt_bounds hct
 have hnl : g.name.length ≤ 16 := by
  unfold nameOk at hnm
  simp only [Bool.and_eq_true, decide_eq_true_eq] at hnm
  exact hnm.2
 unfold layG layHd layCt layLs nameE
 simp only [List.length_append, be_len, List.length_replicate, hb, flat_len layWi 28 layWi_len, flat_len layDe 24 layDe_len, flat_len layIr 8 layIr_len, flat_len layNu 4 layNu_len]
 omega
set_option maxRecDepth 100000 in
theorem errC_ok {x : Cf} (h : errC x = 0) : (1 ≤ x.gs.length ∧ x.gs.length ≤ 16) ∧ x.chs.length ≤ 32 ∧ errL errG x.gs = 0 ∧ x.chs.any badCh = false := by
 unfold errC at h
 by_cases h1 : (inB (x.gs.length : Int) 1 16 && inB (x.chs.length : Int) 0 32) = false
 · rw [if_pos h1] at h; cases h
 rw [if_neg h1] at h
 have h1 : (inB (x.gs.length : Int) 1 16 && inB (x.chs.length : Int) 0 32) = true := by simpa using h1
 unfold inB at h1
 simp only [Bool.and_eq_true, decide_eq_true_eq] at h1
 by_cases h2 : errL errG x.gs = 0
 · rw [if_pos h2] at h
   refine ⟨by omega, by omega, h2, ?_⟩
   unfold e144 at h
   cases h3 : x.chs.any badCh
   · rfl
   · rw [h3] at h; cases h
 · rw [if_neg h2] at h; exact absurd h h2
set_option maxRecDepth 100000 in
set_option maxHeartbeats 16000000 in
theorem laid_any (x : Cf) (a c : Value) (w : World) (hx : CfR w w.heap.size x a c) (hb : CfB x) (he : errC x = 0) : Calls Tryz.prog 72 #[cfVal x a c] w (Bytes w (layC x)) := by
 obtain ⟨q0, q1, q2, q3⟩ := errC_ok he
 obtain ⟨V, hV⟩ : ∃ V, V = w.alloc (.cells (vec 3 (cfE x.ver a c)) 31) := ⟨_, rfl⟩
 have k1 : Arr V w.heap.size 31 3 (cfE x.ver a c) := by rw [hV]; exact Arr.new w _ _ _
 have hB : Below w.heap.size w V := by rw [hV]; exact (Below.refl _ _).alloc (Nat.le_refl _) _
 have HK := Lib.hid hB
 obtain ⟨x0, x1, x2⟩ := cf_cells k1
 obtain ⟨⟨A, d, ys, rfl, hm, hr, hl⟩, ⟨A2, d2, rfl, hr2, hl2⟩⟩ := hx.up hB
 obtain ⟨vn, hvn⟩ := Int.eq_ofNat_of_zero_le hb.ver.1
 have hlen : ys.length = x.gs.length := by rw [← hm, List.length_map]
 have hyb : ∀ y ∈ ys, GsB y.g ∧ errG y.g = 0 := fun y hy => by
  have hmem : y.g ∈ x.gs := by rw [← hm]; exact List.mem_map_of_mem hy
  exact ⟨hb.gs _ hmem, errL_zero q2 _ hmem⟩
 have hfl : ys.flatMap (fun y => layG y.g) = x.gs.flatMap layG := by rw [← hm, List.flatMap_map]
 have hgl : (x.gs.flatMap layG).length ≤ 32000 := by
  have := flat_le layG 2000 x.gs fun g hg => layG_len (hb.gs g hg).key (errL_zero q2 g hg)
  omega
 have HW0 : Hid (∀ Y, VS V Y → Calls Tryz.prog 115 #[.slice A x.gs.length d, .func (.func 116) #[] #[]] Y (Bytes Y (x.gs.flatMap layG))) := Lib.hid (fun Y hY => by
  have hg := hr.up hY
  have := row_gu ys A d Y (by omega) hg.row (fun y hy => (hg.all y hy).one) (by rw [hfl]; omega) (fun j h Z hZ => layGuest_any _ Z (((hg.all _ (List.getElem_mem h)).below hZ).wide hZ.size) (hyb _ (List.getElem_mem h)).1 (hyb _ (List.getElem_mem h)).2)
  rw [hfl, hlen] at this
  exact this)
 have HW1 : Hid (∀ Y, VS V Y → Calls Tryz.prog 117 #[.slice A2 x.chs.length d2, .func (.func 118) #[] #[]] Y (Bytes Y (x.chs.flatMap layCh))) := Lib.hid (fun Y hY => row_ch x.chs A2 d2 Y (by omega) (hr2.up hY) (by rw [flat_len layCh 40 layCh_len]; omega) (fun j h Z _ => layCh_any _ (hb.chs _ (List.getElem_mem h)) (by have := List.any_eq_false.1 q3 _ (List.getElem_mem h); simpa using this) Z))
 have hcl : (x.chs.flatMap layCh).length ≤ 32000 := by rw [flat_len layCh 40 layCh_len]; omega
 obtain ⟨LZ, hLZ⟩ : ∃ l, l = layC x := ⟨_, rfl⟩
 rw [← hLZ]
 unfold cfVal
 obtain ⟨N, hN⟩ : ∃ N, N = x.gs.length := ⟨_, rfl⟩
 obtain ⟨M, hM⟩ : ∃ M, M = x.chs.length := ⟨_, rfl⟩
 have hLZE : LZ = [1111705159].flatMap (be 4) ++ ([1, N, M, 0].flatMap (be 2) ++ ([vn].flatMap (be 4) ++ (x.gs.flatMap layG ++ x.chs.flatMap layCh))) := by
  rw [hLZ, hN, hM]
  simp [layC, hvn]
 have HN := Lib.hid (show (∀ n ∈ [1111705159], n < 4294967296) ∧ (∀ n ∈ [vn], n < 4294967296) ∧ (∀ n ∈ [1, N, M, 0], n < 65536) by have := hb.ver.2; simp; omega)
 rw [← hN] at x1 hV HW0 ⊢
 rw [← hM] at x2 hV HW1 ⊢
 rw [hvn] at x0
 have HC0 := Lib.hid x0
 have HG0 := Lib.hid x1
 have HG1 := Lib.hid x2
 obtain ⟨L0, u0⟩ : ∃ l, l = x.gs.flatMap layG := ⟨_, rfl⟩
 obtain ⟨L1, u1⟩ : ∃ l, l = x.chs.flatMap layCh := ⟨_, rfl⟩
 rw [← u0, ← u1] at hLZE
 rw [← u0] at HW0 hgl
 rw [← u1] at HW1 hcl
 have HLL := Lib.hid (And.intro hgl hcl)
 have HEND : Hid (∀ (Y Y' : World) (v : Value) (a1 a9 a13 a16 a19 : Option Addr) (c1 c9 c13 c16 c19 : Nat), Y'.ownsRow Y.heap.size 5 1 v (catAll [(a1, c1, [] ++ [1111705159].flatMap (be 4)), (a9, c9, [1, N, M, 0].flatMap (be 2)), (a13, c13, [] ++ [vn].flatMap (be 4)), (a16, c16, L0), (a19, c19, L1)]).length (u8s (catAll [(a1, c1, [] ++ [1111705159].flatMap (be 4)), (a9, c9, [1, N, M, 0].flatMap (be 2)), (a13, c13, [] ++ [vn].flatMap (be 4)), (a16, c16, L0), (a19, c19, L1)])) → VS V Y → Below Y.heap.size Y Y' → ∃ u, Ending.returned v = .returned u ∧ Y'.ownsRow w.heap.size 5 1 u LZ.length (u8s LZ) ∧ Below w.heap.size w Y') := Lib.hid (fun Y Y' v a1 a9 a13 a16 a19 c1 c9 c13 c16 c19 hv1 hv2 hv3 => by
  have hb : Below w.heap.size w Y := HK.out.trans ((show Below V.heap.size V Y from hv2).mono HK.out.size)
  refine ⟨v, rfl, ?_, hb.trans (hv3.mono hb.size)⟩
  rw [show LZ = catAll [(a1, c1, [] ++ [1111705159].flatMap (be 4)), (a9, c9, [1, N, M, 0].flatMap (be 2)), (a13, c13, [] ++ [vn].flatMap (be 4)), (a16, c16, L0), (a19, c19, L1)] by rw [hLZE]; simp [catAll]]
  exact owns_mono hv1 hb.size)
 have HW := Lib.hid hV
 clear hV k1 hB hx hb he q0 q1 q2 q3 x0 x1 x2 hm hr hl hr2 hl2 hvn hlen hyb hfl hgl hcl hLZ hLZE hN hM u0 u1
 unfold Bytes
 go_enter Tryz.func72, Tryz.ntmps72
 go_upto_region 1 with fail
 rw [← HW.out]
 clear HW
 refine wp_region_held_drew (S := fun Y => VS V Y) (by kernel_rfl) (VS.begin V) (fun hS => ?_)
 revert hS
 apply tail_of
 case h =>
  intro tail hS
  refine tA 2 (h := ?_)
  refine tP 3 (hy := by (intro Z hZ; have k0 := ((show Below V.heap.size V Z from hZ).cell (World.block_lt_of_cell? V _ HG0.out)).trans HG0.out; go_simp; (try with_reducible rfl))) (h := ?_)
  refine tA 4 (h := ?_)
  refine tA 5 (h := ?_)
  refine tP 6 (hy := by (intro Z hZ; have k0 := ((show Below V.heap.size V Z from hZ).cell (World.block_lt_of_cell? V _ HG1.out)).trans HG1.out; go_simp; (try with_reducible rfl))) (h := ?_)
  refine tA 7 (h := ?_)
  refine tA 10 (h := ?_)
  refine tP 11 (hy := by (intro Z hZ; have k0 := ((show Below V.heap.size V Z from hZ).cell (World.block_lt_of_cell? V _ HC0.out)).trans HC0.out; go_simp; (try with_reducible rfl))) (h := ?_)
  refine tA 14 (h := ?_)
  refine tP 15 (hy := by (intro Z hZ; have k0 := ((show Below V.heap.size V Z from hZ).cell (World.block_lt_of_cell? V _ HG0.out)).trans HG0.out; go_simp; (try with_reducible rfl))) (h := ?_)
  refine tA 17 (h := ?_)
  refine tP 18 (hy := by (intro Z hZ; have k0 := ((show Below V.heap.size V Z from hZ).cell (World.block_lt_of_cell? V _ HG1.out)).trans HG1.out; go_simp; (try with_reducible rfl))) (h := ?_)
  refine held_three (i := 0) (j := 8) (k := 12) (oi := ?oit65) (oj := ?ojt65) (ok := ?okt65) (by kernel_rfl) ?ait65 ?ajt65 ?akt65 ?cit65 ?cjt65 ?ckt65 (fun K0 hK0 => ?hit65) (fun K8 hK8 => ?hjt65) (fun K12 hK12 => ?hkt65)
  (case ait65 => (simp only [List.getElem?_toArray, List.getElem?_cons_zero]; rfl))
  (case ajt65 => (simp only [List.getElem?_toArray, List.getElem?_cons_zero, List.getElem?_cons_succ]; rfl))
  (case akt65 => (simp only [List.getElem?_toArray, List.getElem?_cons_zero, List.getElem?_cons_succ]; rfl))
  (case cit65 => kernel_rfl)
  (case cjt65 => kernel_rfl)
  (case ckt65 => kernel_rfl)
  case hit65 =>
   refine ow_u32_1 _ rfl 1111705159 rfl ?_
   intro y0 p0 hl hd
   have F0 := Lib.hid hl
   refine hK0 _ _ ((show VS V _ from hS).keep hd) (fun hS0 => ?_)
   clear hl hd hS hK0 K0
   refine held_three (i := 1) (j := 8) (k := 12) (oi := ?oit38) (oj := ?ojt38) (ok := ?okt38) (by kernel_rfl) ?ait38 ?ajt38 ?akt38 ?cit38 ?cjt38 ?ckt38 (fun K1 hK1 => ?hit38) (fun K8 hK8 => ?hjt38) (fun K12 hK12 => ?hkt38)
   (case ait38 => (simp only [List.getElem?_toArray, List.getElem?_cons_zero, List.getElem?_cons_succ]; rfl))
   (case ajt38 => (simp only [List.getElem?_toArray, List.getElem?_cons_zero, List.getElem?_cons_succ]; rfl))
   (case akt38 => (simp only [List.getElem?_toArray, List.getElem?_cons_zero, List.getElem?_cons_succ]; rfl))
   (case cit38 => kernel_rfl)
   (case cjt38 => kernel_rfl)
   (case ckt38 => kernel_rfl)
   case hit38 =>
    go_simp
    refine (pb32 [] [1111705159] HN.out.1 none _ 0 _ _ (Lies.nil _ _ _ _) F0.out (by simp) (by simp)).mono ?_
    rintro e y1 ⟨v1, rfl, hv, hd⟩
    obtain ⟨A1, c1, rfl, -, hl⟩ := (own_of hv).lies
    replace F0 := Lib.hid (lies_on2 F0.out hd)
    have F1 := Lib.hid hl
    refine hK1 _ _ ((show VS V _ from hS0).keep hd) (fun hS1 => ?_)
    clear hv hd hl hS0 hK1 K1
    refine wQ 8 12 (h1 := fun K8 hK8 => ?hit21) (h2 := fun K12 hK12 => ?hjt21)
    case hit21 =>
     refine ow_i64_4 _ _ _ _ rfl 1 N M 0 rfl rfl rfl rfl ?_
     intro y8 p8 hl hd
     replace F0 := Lib.hid (lies_on2 F0.out hd)
     replace F1 := Lib.hid (lies_on2 F1.out hd)
     have F8 := Lib.hid hl
     refine hK8 _ _ ((show VS V _ from hS1).keep hd) (fun hS8 => ?_)
     clear hl hd hS1 hK8 K8
     refine wQ 9 12 (h1 := fun K9 hK9 => ?hit17) (h2 := fun K12 hK12 => ?hjt17)
     case hit17 =>
      go_simp
      refine (shorts_any [1, N, M, 0] HN.out.2.2 _ _ _ (by simp) F8.out).mono ?_
      rintro e y9 ⟨v9, rfl, hv, hd⟩
      obtain ⟨A9, c9, rfl, -, hl⟩ := (own_of hv).lies
      replace F0 := Lib.hid (lies_on2 F0.out hd)
      replace F1 := Lib.hid (lies_on2 F1.out hd)
      replace F8 := Lib.hid (lies_on2 F8.out hd)
      have F9 := Lib.hid hl
      refine hK9 _ _ ((show VS V _ from hS8).keep hd) (fun hS9 => ?_)
      clear hv hd hl hS8 hK9 K9
      refine oQ 12 (h := fun K12 hK12 => ?_)
      refine ow_u32_1 _ rfl vn rfl ?_
      intro y12 p12 hl hd
      replace F0 := Lib.hid (lies_on2 F0.out hd)
      replace F1 := Lib.hid (lies_on2 F1.out hd)
      replace F8 := Lib.hid (lies_on2 F8.out hd)
      replace F9 := Lib.hid (lies_on2 F9.out hd)
      have F12 := Lib.hid hl
      refine hK12 _ _ ((show VS V _ from hS9).keep hd) (fun hS12 => ?_)
      clear hl hd hS9 hK12 K12
      refine oQ 13 (h := fun K13 hK13 => ?_)
      go_simp
      refine (pb32 [] [vn] HN.out.2.1 none _ 0 _ _ (Lies.nil _ _ _ _) F12.out (by simp) (by simp)).mono ?_
      rintro e y13 ⟨v13, rfl, hv, hd⟩
      obtain ⟨A13, c13, rfl, -, hl⟩ := (own_of hv).lies
      replace F0 := Lib.hid (lies_on2 F0.out hd)
      replace F1 := Lib.hid (lies_on2 F1.out hd)
      replace F8 := Lib.hid (lies_on2 F8.out hd)
      replace F9 := Lib.hid (lies_on2 F9.out hd)
      replace F12 := Lib.hid (lies_on2 F12.out hd)
      have F13 := Lib.hid hl
      refine hK13 _ _ ((show VS V _ from hS12).keep hd) (fun hS13 => ?_)
      clear hv hd hl hS12 hK13 K13
      clear F0 F8 F12
      revert hS13
      revert F13
      revert F9
      revert F1
      revert c13
      revert A13
      revert c9
      revert A9
      revert c1
      revert A1
      revert p12
      revert p8
      revert p0
      revert y13
      exact tail 0
     case hjt17 =>
      refine ow_u32_1 _ rfl vn rfl ?_
      intro y12 p12 hl hd
      replace F0 := Lib.hid (lies_on2 F0.out hd)
      replace F1 := Lib.hid (lies_on2 F1.out hd)
      replace F8 := Lib.hid (lies_on2 F8.out hd)
      have F12 := Lib.hid hl
      refine hK12 _ _ ((show VS V _ from hS8).keep hd) (fun hS12 => ?_)
      clear hl hd hS8 hK12 K12
      refine oQ 9 (h := fun K9 hK9 => ?_)
      go_simp
      refine (shorts_any [1, N, M, 0] HN.out.2.2 _ _ _ (by simp) F8.out).mono ?_
      rintro e y9 ⟨v9, rfl, hv, hd⟩
      obtain ⟨A9, c9, rfl, -, hl⟩ := (own_of hv).lies
      replace F0 := Lib.hid (lies_on2 F0.out hd)
      replace F1 := Lib.hid (lies_on2 F1.out hd)
      replace F8 := Lib.hid (lies_on2 F8.out hd)
      replace F12 := Lib.hid (lies_on2 F12.out hd)
      have F9 := Lib.hid hl
      refine hK9 _ _ ((show VS V _ from hS12).keep hd) (fun hS9 => ?_)
      clear hv hd hl hS12 hK9 K9
      refine oQ 13 (h := fun K13 hK13 => ?_)
      go_simp
      refine (pb32 [] [vn] HN.out.2.1 none _ 0 _ _ (Lies.nil _ _ _ _) F12.out (by simp) (by simp)).mono ?_
      rintro e y13 ⟨v13, rfl, hv, hd⟩
      obtain ⟨A13, c13, rfl, -, hl⟩ := (own_of hv).lies
      replace F0 := Lib.hid (lies_on2 F0.out hd)
      replace F1 := Lib.hid (lies_on2 F1.out hd)
      replace F8 := Lib.hid (lies_on2 F8.out hd)
      replace F12 := Lib.hid (lies_on2 F12.out hd)
      replace F9 := Lib.hid (lies_on2 F9.out hd)
      have F13 := Lib.hid hl
      refine hK13 _ _ ((show VS V _ from hS9).keep hd) (fun hS13 => ?_)
      clear hv hd hl hS9 hK13 K13
      clear F0 F8 F12
      revert hS13
      revert F13
      revert F9
      revert F1
      revert c13
      revert A13
      revert c9
      revert A9
      revert c1
      revert A1
      revert p12
      revert p8
      revert p0
      revert y13
      exact tail 0
    case hjt21 =>
     refine ow_u32_1 _ rfl vn rfl ?_
     intro y12 p12 hl hd
     replace F0 := Lib.hid (lies_on2 F0.out hd)
     replace F1 := Lib.hid (lies_on2 F1.out hd)
     have F12 := Lib.hid hl
     refine hK12 _ _ ((show VS V _ from hS1).keep hd) (fun hS12 => ?_)
     clear hl hd hS1 hK12 K12
     refine oQ 8 (h := fun K8 hK8 => ?_)
     refine ow_i64_4 _ _ _ _ rfl 1 N M 0 rfl rfl rfl rfl ?_
     intro y8 p8 hl hd
     replace F0 := Lib.hid (lies_on2 F0.out hd)
     replace F1 := Lib.hid (lies_on2 F1.out hd)
     replace F12 := Lib.hid (lies_on2 F12.out hd)
     have F8 := Lib.hid hl
     refine hK8 _ _ ((show VS V _ from hS12).keep hd) (fun hS8 => ?_)
     clear hl hd hS12 hK8 K8
     refine oQ 9 (h := fun K9 hK9 => ?_)
     go_simp
     refine (shorts_any [1, N, M, 0] HN.out.2.2 _ _ _ (by simp) F8.out).mono ?_
     rintro e y9 ⟨v9, rfl, hv, hd⟩
     obtain ⟨A9, c9, rfl, -, hl⟩ := (own_of hv).lies
     replace F0 := Lib.hid (lies_on2 F0.out hd)
     replace F1 := Lib.hid (lies_on2 F1.out hd)
     replace F12 := Lib.hid (lies_on2 F12.out hd)
     replace F8 := Lib.hid (lies_on2 F8.out hd)
     have F9 := Lib.hid hl
     refine hK9 _ _ ((show VS V _ from hS8).keep hd) (fun hS9 => ?_)
     clear hv hd hl hS8 hK9 K9
     refine oQ 13 (h := fun K13 hK13 => ?_)
     go_simp
     refine (pb32 [] [vn] HN.out.2.1 none _ 0 _ _ (Lies.nil _ _ _ _) F12.out (by simp) (by simp)).mono ?_
     rintro e y13 ⟨v13, rfl, hv, hd⟩
     obtain ⟨A13, c13, rfl, -, hl⟩ := (own_of hv).lies
     replace F0 := Lib.hid (lies_on2 F0.out hd)
     replace F1 := Lib.hid (lies_on2 F1.out hd)
     replace F12 := Lib.hid (lies_on2 F12.out hd)
     replace F8 := Lib.hid (lies_on2 F8.out hd)
     replace F9 := Lib.hid (lies_on2 F9.out hd)
     have F13 := Lib.hid hl
     refine hK13 _ _ ((show VS V _ from hS9).keep hd) (fun hS13 => ?_)
     clear hv hd hl hS9 hK13 K13
     clear F0 F8 F12
     revert hS13
     revert F13
     revert F9
     revert F1
     revert c13
     revert A13
     revert c9
     revert A9
     revert c1
     revert A1
     revert p12
     revert p8
     revert p0
     revert y13
     exact tail 0
   case hjt38 =>
    refine ow_i64_4 _ _ _ _ rfl 1 N M 0 rfl rfl rfl rfl ?_
    intro y8 p8 hl hd
    replace F0 := Lib.hid (lies_on2 F0.out hd)
    have F8 := Lib.hid hl
    refine hK8 _ _ ((show VS V _ from hS0).keep hd) (fun hS8 => ?_)
    clear hl hd hS0 hK8 K8
    refine wQ 1 12 (h1 := fun K1 hK1 => ?hit30) (h2 := fun K12 hK12 => ?hjt30)
    case hit30 =>
     go_simp
     refine (pb32 [] [1111705159] HN.out.1 none _ 0 _ _ (Lies.nil _ _ _ _) F0.out (by simp) (by simp)).mono ?_
     rintro e y1 ⟨v1, rfl, hv, hd⟩
     obtain ⟨A1, c1, rfl, -, hl⟩ := (own_of hv).lies
     replace F0 := Lib.hid (lies_on2 F0.out hd)
     replace F8 := Lib.hid (lies_on2 F8.out hd)
     have F1 := Lib.hid hl
     refine hK1 _ _ ((show VS V _ from hS8).keep hd) (fun hS1 => ?_)
     clear hv hd hl hS8 hK1 K1
     refine wQ 9 12 (h1 := fun K9 hK9 => ?hit26) (h2 := fun K12 hK12 => ?hjt26)
     case hit26 =>
      go_simp
      refine (shorts_any [1, N, M, 0] HN.out.2.2 _ _ _ (by simp) F8.out).mono ?_
      rintro e y9 ⟨v9, rfl, hv, hd⟩
      obtain ⟨A9, c9, rfl, -, hl⟩ := (own_of hv).lies
      replace F0 := Lib.hid (lies_on2 F0.out hd)
      replace F8 := Lib.hid (lies_on2 F8.out hd)
      replace F1 := Lib.hid (lies_on2 F1.out hd)
      have F9 := Lib.hid hl
      refine hK9 _ _ ((show VS V _ from hS1).keep hd) (fun hS9 => ?_)
      clear hv hd hl hS1 hK9 K9
      refine oQ 12 (h := fun K12 hK12 => ?_)
      refine ow_u32_1 _ rfl vn rfl ?_
      intro y12 p12 hl hd
      replace F0 := Lib.hid (lies_on2 F0.out hd)
      replace F8 := Lib.hid (lies_on2 F8.out hd)
      replace F1 := Lib.hid (lies_on2 F1.out hd)
      replace F9 := Lib.hid (lies_on2 F9.out hd)
      have F12 := Lib.hid hl
      refine hK12 _ _ ((show VS V _ from hS9).keep hd) (fun hS12 => ?_)
      clear hl hd hS9 hK12 K12
      refine oQ 13 (h := fun K13 hK13 => ?_)
      go_simp
      refine (pb32 [] [vn] HN.out.2.1 none _ 0 _ _ (Lies.nil _ _ _ _) F12.out (by simp) (by simp)).mono ?_
      rintro e y13 ⟨v13, rfl, hv, hd⟩
      obtain ⟨A13, c13, rfl, -, hl⟩ := (own_of hv).lies
      replace F0 := Lib.hid (lies_on2 F0.out hd)
      replace F8 := Lib.hid (lies_on2 F8.out hd)
      replace F1 := Lib.hid (lies_on2 F1.out hd)
      replace F9 := Lib.hid (lies_on2 F9.out hd)
      replace F12 := Lib.hid (lies_on2 F12.out hd)
      have F13 := Lib.hid hl
      refine hK13 _ _ ((show VS V _ from hS12).keep hd) (fun hS13 => ?_)
      clear hv hd hl hS12 hK13 K13
      clear F0 F8 F12
      revert hS13
      revert F13
      revert F9
      revert F1
      revert c13
      revert A13
      revert c9
      revert A9
      revert c1
      revert A1
      revert p12
      revert p8
      revert p0
      revert y13
      exact tail 0
     case hjt26 =>
      refine ow_u32_1 _ rfl vn rfl ?_
      intro y12 p12 hl hd
      replace F0 := Lib.hid (lies_on2 F0.out hd)
      replace F8 := Lib.hid (lies_on2 F8.out hd)
      replace F1 := Lib.hid (lies_on2 F1.out hd)
      have F12 := Lib.hid hl
      refine hK12 _ _ ((show VS V _ from hS1).keep hd) (fun hS12 => ?_)
      clear hl hd hS1 hK12 K12
      refine oQ 9 (h := fun K9 hK9 => ?_)
      go_simp
      refine (shorts_any [1, N, M, 0] HN.out.2.2 _ _ _ (by simp) F8.out).mono ?_
      rintro e y9 ⟨v9, rfl, hv, hd⟩
      obtain ⟨A9, c9, rfl, -, hl⟩ := (own_of hv).lies
      replace F0 := Lib.hid (lies_on2 F0.out hd)
      replace F8 := Lib.hid (lies_on2 F8.out hd)
      replace F1 := Lib.hid (lies_on2 F1.out hd)
      replace F12 := Lib.hid (lies_on2 F12.out hd)
      have F9 := Lib.hid hl
      refine hK9 _ _ ((show VS V _ from hS12).keep hd) (fun hS9 => ?_)
      clear hv hd hl hS12 hK9 K9
      refine oQ 13 (h := fun K13 hK13 => ?_)
      go_simp
      refine (pb32 [] [vn] HN.out.2.1 none _ 0 _ _ (Lies.nil _ _ _ _) F12.out (by simp) (by simp)).mono ?_
      rintro e y13 ⟨v13, rfl, hv, hd⟩
      obtain ⟨A13, c13, rfl, -, hl⟩ := (own_of hv).lies
      replace F0 := Lib.hid (lies_on2 F0.out hd)
      replace F8 := Lib.hid (lies_on2 F8.out hd)
      replace F1 := Lib.hid (lies_on2 F1.out hd)
      replace F12 := Lib.hid (lies_on2 F12.out hd)
      replace F9 := Lib.hid (lies_on2 F9.out hd)
      have F13 := Lib.hid hl
      refine hK13 _ _ ((show VS V _ from hS9).keep hd) (fun hS13 => ?_)
      clear hv hd hl hS9 hK13 K13
      clear F0 F8 F12
      revert hS13
      revert F13
      revert F9
      revert F1
      revert c13
      revert A13
      revert c9
      revert A9
      revert c1
      revert A1
      revert p12
      revert p8
      revert p0
      revert y13
      exact tail 0
    case hjt30 =>
     refine ow_u32_1 _ rfl vn rfl ?_
     intro y12 p12 hl hd
     replace F0 := Lib.hid (lies_on2 F0.out hd)
     replace F8 := Lib.hid (lies_on2 F8.out hd)
     have F12 := Lib.hid hl
     refine hK12 _ _ ((show VS V _ from hS8).keep hd) (fun hS12 => ?_)
     clear hl hd hS8 hK12 K12
     refine oQ 1 (h := fun K1 hK1 => ?_)
     go_simp
     refine (pb32 [] [1111705159] HN.out.1 none _ 0 _ _ (Lies.nil _ _ _ _) F0.out (by simp) (by simp)).mono ?_
     rintro e y1 ⟨v1, rfl, hv, hd⟩
     obtain ⟨A1, c1, rfl, -, hl⟩ := (own_of hv).lies
     replace F0 := Lib.hid (lies_on2 F0.out hd)
     replace F8 := Lib.hid (lies_on2 F8.out hd)
     replace F12 := Lib.hid (lies_on2 F12.out hd)
     have F1 := Lib.hid hl
     refine hK1 _ _ ((show VS V _ from hS12).keep hd) (fun hS1 => ?_)
     clear hv hd hl hS12 hK1 K1
     refine oQ 9 (h := fun K9 hK9 => ?_)
     go_simp
     refine (shorts_any [1, N, M, 0] HN.out.2.2 _ _ _ (by simp) F8.out).mono ?_
     rintro e y9 ⟨v9, rfl, hv, hd⟩
     obtain ⟨A9, c9, rfl, -, hl⟩ := (own_of hv).lies
     replace F0 := Lib.hid (lies_on2 F0.out hd)
     replace F8 := Lib.hid (lies_on2 F8.out hd)
     replace F12 := Lib.hid (lies_on2 F12.out hd)
     replace F1 := Lib.hid (lies_on2 F1.out hd)
     have F9 := Lib.hid hl
     refine hK9 _ _ ((show VS V _ from hS1).keep hd) (fun hS9 => ?_)
     clear hv hd hl hS1 hK9 K9
     refine oQ 13 (h := fun K13 hK13 => ?_)
     go_simp
     refine (pb32 [] [vn] HN.out.2.1 none _ 0 _ _ (Lies.nil _ _ _ _) F12.out (by simp) (by simp)).mono ?_
     rintro e y13 ⟨v13, rfl, hv, hd⟩
     obtain ⟨A13, c13, rfl, -, hl⟩ := (own_of hv).lies
     replace F0 := Lib.hid (lies_on2 F0.out hd)
     replace F8 := Lib.hid (lies_on2 F8.out hd)
     replace F12 := Lib.hid (lies_on2 F12.out hd)
     replace F1 := Lib.hid (lies_on2 F1.out hd)
     replace F9 := Lib.hid (lies_on2 F9.out hd)
     have F13 := Lib.hid hl
     refine hK13 _ _ ((show VS V _ from hS9).keep hd) (fun hS13 => ?_)
     clear hv hd hl hS9 hK13 K13
     clear F0 F8 F12
     revert hS13
     revert F13
     revert F9
     revert F1
     revert c13
     revert A13
     revert c9
     revert A9
     revert c1
     revert A1
     revert p12
     revert p8
     revert p0
     revert y13
     exact tail 0
   case hkt38 =>
    refine ow_u32_1 _ rfl vn rfl ?_
    intro y12 p12 hl hd
    replace F0 := Lib.hid (lies_on2 F0.out hd)
    have F12 := Lib.hid hl
    refine hK12 _ _ ((show VS V _ from hS0).keep hd) (fun hS12 => ?_)
    clear hl hd hS0 hK12 K12
    refine wQ 1 8 (h1 := fun K1 hK1 => ?hit37) (h2 := fun K8 hK8 => ?hjt37)
    case hit37 =>
     go_simp
     refine (pb32 [] [1111705159] HN.out.1 none _ 0 _ _ (Lies.nil _ _ _ _) F0.out (by simp) (by simp)).mono ?_
     rintro e y1 ⟨v1, rfl, hv, hd⟩
     obtain ⟨A1, c1, rfl, -, hl⟩ := (own_of hv).lies
     replace F0 := Lib.hid (lies_on2 F0.out hd)
     replace F12 := Lib.hid (lies_on2 F12.out hd)
     have F1 := Lib.hid hl
     refine hK1 _ _ ((show VS V _ from hS12).keep hd) (fun hS1 => ?_)
     clear hv hd hl hS12 hK1 K1
     refine oQ 8 (h := fun K8 hK8 => ?_)
     refine ow_i64_4 _ _ _ _ rfl 1 N M 0 rfl rfl rfl rfl ?_
     intro y8 p8 hl hd
     replace F0 := Lib.hid (lies_on2 F0.out hd)
     replace F12 := Lib.hid (lies_on2 F12.out hd)
     replace F1 := Lib.hid (lies_on2 F1.out hd)
     have F8 := Lib.hid hl
     refine hK8 _ _ ((show VS V _ from hS1).keep hd) (fun hS8 => ?_)
     clear hl hd hS1 hK8 K8
     refine oQ 9 (h := fun K9 hK9 => ?_)
     go_simp
     refine (shorts_any [1, N, M, 0] HN.out.2.2 _ _ _ (by simp) F8.out).mono ?_
     rintro e y9 ⟨v9, rfl, hv, hd⟩
     obtain ⟨A9, c9, rfl, -, hl⟩ := (own_of hv).lies
     replace F0 := Lib.hid (lies_on2 F0.out hd)
     replace F12 := Lib.hid (lies_on2 F12.out hd)
     replace F1 := Lib.hid (lies_on2 F1.out hd)
     replace F8 := Lib.hid (lies_on2 F8.out hd)
     have F9 := Lib.hid hl
     refine hK9 _ _ ((show VS V _ from hS8).keep hd) (fun hS9 => ?_)
     clear hv hd hl hS8 hK9 K9
     refine oQ 13 (h := fun K13 hK13 => ?_)
     go_simp
     refine (pb32 [] [vn] HN.out.2.1 none _ 0 _ _ (Lies.nil _ _ _ _) F12.out (by simp) (by simp)).mono ?_
     rintro e y13 ⟨v13, rfl, hv, hd⟩
     obtain ⟨A13, c13, rfl, -, hl⟩ := (own_of hv).lies
     replace F0 := Lib.hid (lies_on2 F0.out hd)
     replace F12 := Lib.hid (lies_on2 F12.out hd)
     replace F1 := Lib.hid (lies_on2 F1.out hd)
     replace F8 := Lib.hid (lies_on2 F8.out hd)
     replace F9 := Lib.hid (lies_on2 F9.out hd)
     have F13 := Lib.hid hl
     refine hK13 _ _ ((show VS V _ from hS9).keep hd) (fun hS13 => ?_)
     clear hv hd hl hS9 hK13 K13
     clear F0 F8 F12
     revert hS13
     revert F13
     revert F9
     revert F1
     revert c13
     revert A13
     revert c9
     revert A9
     revert c1
     revert A1
     revert p12
     revert p8
     revert p0
     revert y13
     exact tail 0
    case hjt37 =>
     refine ow_i64_4 _ _ _ _ rfl 1 N M 0 rfl rfl rfl rfl ?_
     intro y8 p8 hl hd
     replace F0 := Lib.hid (lies_on2 F0.out hd)
     replace F12 := Lib.hid (lies_on2 F12.out hd)
     have F8 := Lib.hid hl
     refine hK8 _ _ ((show VS V _ from hS12).keep hd) (fun hS8 => ?_)
     clear hl hd hS12 hK8 K8
     refine oQ 1 (h := fun K1 hK1 => ?_)
     go_simp
     refine (pb32 [] [1111705159] HN.out.1 none _ 0 _ _ (Lies.nil _ _ _ _) F0.out (by simp) (by simp)).mono ?_
     rintro e y1 ⟨v1, rfl, hv, hd⟩
     obtain ⟨A1, c1, rfl, -, hl⟩ := (own_of hv).lies
     replace F0 := Lib.hid (lies_on2 F0.out hd)
     replace F12 := Lib.hid (lies_on2 F12.out hd)
     replace F8 := Lib.hid (lies_on2 F8.out hd)
     have F1 := Lib.hid hl
     refine hK1 _ _ ((show VS V _ from hS8).keep hd) (fun hS1 => ?_)
     clear hv hd hl hS8 hK1 K1
     refine oQ 9 (h := fun K9 hK9 => ?_)
     go_simp
     refine (shorts_any [1, N, M, 0] HN.out.2.2 _ _ _ (by simp) F8.out).mono ?_
     rintro e y9 ⟨v9, rfl, hv, hd⟩
     obtain ⟨A9, c9, rfl, -, hl⟩ := (own_of hv).lies
     replace F0 := Lib.hid (lies_on2 F0.out hd)
     replace F12 := Lib.hid (lies_on2 F12.out hd)
     replace F8 := Lib.hid (lies_on2 F8.out hd)
     replace F1 := Lib.hid (lies_on2 F1.out hd)
     have F9 := Lib.hid hl
     refine hK9 _ _ ((show VS V _ from hS1).keep hd) (fun hS9 => ?_)
     clear hv hd hl hS1 hK9 K9
     refine oQ 13 (h := fun K13 hK13 => ?_)
     go_simp
     refine (pb32 [] [vn] HN.out.2.1 none _ 0 _ _ (Lies.nil _ _ _ _) F12.out (by simp) (by simp)).mono ?_
     rintro e y13 ⟨v13, rfl, hv, hd⟩
     obtain ⟨A13, c13, rfl, -, hl⟩ := (own_of hv).lies
     replace F0 := Lib.hid (lies_on2 F0.out hd)
     replace F12 := Lib.hid (lies_on2 F12.out hd)
     replace F8 := Lib.hid (lies_on2 F8.out hd)
     replace F1 := Lib.hid (lies_on2 F1.out hd)
     replace F9 := Lib.hid (lies_on2 F9.out hd)
     have F13 := Lib.hid hl
     refine hK13 _ _ ((show VS V _ from hS9).keep hd) (fun hS13 => ?_)
     clear hv hd hl hS9 hK13 K13
     clear F0 F8 F12
     revert hS13
     revert F13
     revert F9
     revert F1
     revert c13
     revert A13
     revert c9
     revert A9
     revert c1
     revert A1
     revert p12
     revert p8
     revert p0
     revert y13
     exact tail 0
  case hjt65 =>
   refine ow_i64_4 _ _ _ _ rfl 1 N M 0 rfl rfl rfl rfl ?_
   intro y8 p8 hl hd
   have F8 := Lib.hid hl
   refine hK8 _ _ ((show VS V _ from hS).keep hd) (fun hS8 => ?_)
   clear hl hd hS hK8 K8
   refine wQ 0 12 (h1 := fun K0 hK0 => ?hit52) (h2 := fun K12 hK12 => ?hjt52)
   case hit52 =>
    refine ow_u32_1 _ rfl 1111705159 rfl ?_
    intro y0 p0 hl hd
    replace F8 := Lib.hid (lies_on2 F8.out hd)
    have F0 := Lib.hid hl
    refine hK0 _ _ ((show VS V _ from hS8).keep hd) (fun hS0 => ?_)
    clear hl hd hS8 hK0 K0
    refine wQ 1 12 (h1 := fun K1 hK1 => ?hit47) (h2 := fun K12 hK12 => ?hjt47)
    case hit47 =>
     go_simp
     refine (pb32 [] [1111705159] HN.out.1 none _ 0 _ _ (Lies.nil _ _ _ _) F0.out (by simp) (by simp)).mono ?_
     rintro e y1 ⟨v1, rfl, hv, hd⟩
     obtain ⟨A1, c1, rfl, -, hl⟩ := (own_of hv).lies
     replace F8 := Lib.hid (lies_on2 F8.out hd)
     replace F0 := Lib.hid (lies_on2 F0.out hd)
     have F1 := Lib.hid hl
     refine hK1 _ _ ((show VS V _ from hS0).keep hd) (fun hS1 => ?_)
     clear hv hd hl hS0 hK1 K1
     refine wQ 9 12 (h1 := fun K9 hK9 => ?hit43) (h2 := fun K12 hK12 => ?hjt43)
     case hit43 =>
      go_simp
      refine (shorts_any [1, N, M, 0] HN.out.2.2 _ _ _ (by simp) F8.out).mono ?_
      rintro e y9 ⟨v9, rfl, hv, hd⟩
      obtain ⟨A9, c9, rfl, -, hl⟩ := (own_of hv).lies
      replace F8 := Lib.hid (lies_on2 F8.out hd)
      replace F0 := Lib.hid (lies_on2 F0.out hd)
      replace F1 := Lib.hid (lies_on2 F1.out hd)
      have F9 := Lib.hid hl
      refine hK9 _ _ ((show VS V _ from hS1).keep hd) (fun hS9 => ?_)
      clear hv hd hl hS1 hK9 K9
      refine oQ 12 (h := fun K12 hK12 => ?_)
      refine ow_u32_1 _ rfl vn rfl ?_
      intro y12 p12 hl hd
      replace F8 := Lib.hid (lies_on2 F8.out hd)
      replace F0 := Lib.hid (lies_on2 F0.out hd)
      replace F1 := Lib.hid (lies_on2 F1.out hd)
      replace F9 := Lib.hid (lies_on2 F9.out hd)
      have F12 := Lib.hid hl
      refine hK12 _ _ ((show VS V _ from hS9).keep hd) (fun hS12 => ?_)
      clear hl hd hS9 hK12 K12
      refine oQ 13 (h := fun K13 hK13 => ?_)
      go_simp
      refine (pb32 [] [vn] HN.out.2.1 none _ 0 _ _ (Lies.nil _ _ _ _) F12.out (by simp) (by simp)).mono ?_
      rintro e y13 ⟨v13, rfl, hv, hd⟩
      obtain ⟨A13, c13, rfl, -, hl⟩ := (own_of hv).lies
      replace F8 := Lib.hid (lies_on2 F8.out hd)
      replace F0 := Lib.hid (lies_on2 F0.out hd)
      replace F1 := Lib.hid (lies_on2 F1.out hd)
      replace F9 := Lib.hid (lies_on2 F9.out hd)
      replace F12 := Lib.hid (lies_on2 F12.out hd)
      have F13 := Lib.hid hl
      refine hK13 _ _ ((show VS V _ from hS12).keep hd) (fun hS13 => ?_)
      clear hv hd hl hS12 hK13 K13
      clear F0 F8 F12
      revert hS13
      revert F13
      revert F9
      revert F1
      revert c13
      revert A13
      revert c9
      revert A9
      revert c1
      revert A1
      revert p12
      revert p8
      revert p0
      revert y13
      exact tail 0
     case hjt43 =>
      refine ow_u32_1 _ rfl vn rfl ?_
      intro y12 p12 hl hd
      replace F8 := Lib.hid (lies_on2 F8.out hd)
      replace F0 := Lib.hid (lies_on2 F0.out hd)
      replace F1 := Lib.hid (lies_on2 F1.out hd)
      have F12 := Lib.hid hl
      refine hK12 _ _ ((show VS V _ from hS1).keep hd) (fun hS12 => ?_)
      clear hl hd hS1 hK12 K12
      refine oQ 9 (h := fun K9 hK9 => ?_)
      go_simp
      refine (shorts_any [1, N, M, 0] HN.out.2.2 _ _ _ (by simp) F8.out).mono ?_
      rintro e y9 ⟨v9, rfl, hv, hd⟩
      obtain ⟨A9, c9, rfl, -, hl⟩ := (own_of hv).lies
      replace F8 := Lib.hid (lies_on2 F8.out hd)
      replace F0 := Lib.hid (lies_on2 F0.out hd)
      replace F1 := Lib.hid (lies_on2 F1.out hd)
      replace F12 := Lib.hid (lies_on2 F12.out hd)
      have F9 := Lib.hid hl
      refine hK9 _ _ ((show VS V _ from hS12).keep hd) (fun hS9 => ?_)
      clear hv hd hl hS12 hK9 K9
      refine oQ 13 (h := fun K13 hK13 => ?_)
      go_simp
      refine (pb32 [] [vn] HN.out.2.1 none _ 0 _ _ (Lies.nil _ _ _ _) F12.out (by simp) (by simp)).mono ?_
      rintro e y13 ⟨v13, rfl, hv, hd⟩
      obtain ⟨A13, c13, rfl, -, hl⟩ := (own_of hv).lies
      replace F8 := Lib.hid (lies_on2 F8.out hd)
      replace F0 := Lib.hid (lies_on2 F0.out hd)
      replace F1 := Lib.hid (lies_on2 F1.out hd)
      replace F12 := Lib.hid (lies_on2 F12.out hd)
      replace F9 := Lib.hid (lies_on2 F9.out hd)
      have F13 := Lib.hid hl
      refine hK13 _ _ ((show VS V _ from hS9).keep hd) (fun hS13 => ?_)
      clear hv hd hl hS9 hK13 K13
      clear F0 F8 F12
      revert hS13
      revert F13
      revert F9
      revert F1
      revert c13
      revert A13
      revert c9
      revert A9
      revert c1
      revert A1
      revert p12
      revert p8
      revert p0
      revert y13
      exact tail 0
    case hjt47 =>
     refine ow_u32_1 _ rfl vn rfl ?_
     intro y12 p12 hl hd
     replace F8 := Lib.hid (lies_on2 F8.out hd)
     replace F0 := Lib.hid (lies_on2 F0.out hd)
     have F12 := Lib.hid hl
     refine hK12 _ _ ((show VS V _ from hS0).keep hd) (fun hS12 => ?_)
     clear hl hd hS0 hK12 K12
     refine oQ 1 (h := fun K1 hK1 => ?_)
     go_simp
     refine (pb32 [] [1111705159] HN.out.1 none _ 0 _ _ (Lies.nil _ _ _ _) F0.out (by simp) (by simp)).mono ?_
     rintro e y1 ⟨v1, rfl, hv, hd⟩
     obtain ⟨A1, c1, rfl, -, hl⟩ := (own_of hv).lies
     replace F8 := Lib.hid (lies_on2 F8.out hd)
     replace F0 := Lib.hid (lies_on2 F0.out hd)
     replace F12 := Lib.hid (lies_on2 F12.out hd)
     have F1 := Lib.hid hl
     refine hK1 _ _ ((show VS V _ from hS12).keep hd) (fun hS1 => ?_)
     clear hv hd hl hS12 hK1 K1
     refine oQ 9 (h := fun K9 hK9 => ?_)
     go_simp
     refine (shorts_any [1, N, M, 0] HN.out.2.2 _ _ _ (by simp) F8.out).mono ?_
     rintro e y9 ⟨v9, rfl, hv, hd⟩
     obtain ⟨A9, c9, rfl, -, hl⟩ := (own_of hv).lies
     replace F8 := Lib.hid (lies_on2 F8.out hd)
     replace F0 := Lib.hid (lies_on2 F0.out hd)
     replace F12 := Lib.hid (lies_on2 F12.out hd)
     replace F1 := Lib.hid (lies_on2 F1.out hd)
     have F9 := Lib.hid hl
     refine hK9 _ _ ((show VS V _ from hS1).keep hd) (fun hS9 => ?_)
     clear hv hd hl hS1 hK9 K9
     refine oQ 13 (h := fun K13 hK13 => ?_)
     go_simp
     refine (pb32 [] [vn] HN.out.2.1 none _ 0 _ _ (Lies.nil _ _ _ _) F12.out (by simp) (by simp)).mono ?_
     rintro e y13 ⟨v13, rfl, hv, hd⟩
     obtain ⟨A13, c13, rfl, -, hl⟩ := (own_of hv).lies
     replace F8 := Lib.hid (lies_on2 F8.out hd)
     replace F0 := Lib.hid (lies_on2 F0.out hd)
     replace F12 := Lib.hid (lies_on2 F12.out hd)
     replace F1 := Lib.hid (lies_on2 F1.out hd)
     replace F9 := Lib.hid (lies_on2 F9.out hd)
     have F13 := Lib.hid hl
     refine hK13 _ _ ((show VS V _ from hS9).keep hd) (fun hS13 => ?_)
     clear hv hd hl hS9 hK13 K13
     clear F0 F8 F12
     revert hS13
     revert F13
     revert F9
     revert F1
     revert c13
     revert A13
     revert c9
     revert A9
     revert c1
     revert A1
     revert p12
     revert p8
     revert p0
     revert y13
     exact tail 0
   case hjt52 =>
    refine ow_u32_1 _ rfl vn rfl ?_
    intro y12 p12 hl hd
    replace F8 := Lib.hid (lies_on2 F8.out hd)
    have F12 := Lib.hid hl
    refine hK12 _ _ ((show VS V _ from hS8).keep hd) (fun hS12 => ?_)
    clear hl hd hS8 hK12 K12
    refine oQ 0 (h := fun K0 hK0 => ?_)
    refine ow_u32_1 _ rfl 1111705159 rfl ?_
    intro y0 p0 hl hd
    replace F8 := Lib.hid (lies_on2 F8.out hd)
    replace F12 := Lib.hid (lies_on2 F12.out hd)
    have F0 := Lib.hid hl
    refine hK0 _ _ ((show VS V _ from hS12).keep hd) (fun hS0 => ?_)
    clear hl hd hS12 hK0 K0
    refine oQ 1 (h := fun K1 hK1 => ?_)
    go_simp
    refine (pb32 [] [1111705159] HN.out.1 none _ 0 _ _ (Lies.nil _ _ _ _) F0.out (by simp) (by simp)).mono ?_
    rintro e y1 ⟨v1, rfl, hv, hd⟩
    obtain ⟨A1, c1, rfl, -, hl⟩ := (own_of hv).lies
    replace F8 := Lib.hid (lies_on2 F8.out hd)
    replace F12 := Lib.hid (lies_on2 F12.out hd)
    replace F0 := Lib.hid (lies_on2 F0.out hd)
    have F1 := Lib.hid hl
    refine hK1 _ _ ((show VS V _ from hS0).keep hd) (fun hS1 => ?_)
    clear hv hd hl hS0 hK1 K1
    refine oQ 9 (h := fun K9 hK9 => ?_)
    go_simp
    refine (shorts_any [1, N, M, 0] HN.out.2.2 _ _ _ (by simp) F8.out).mono ?_
    rintro e y9 ⟨v9, rfl, hv, hd⟩
    obtain ⟨A9, c9, rfl, -, hl⟩ := (own_of hv).lies
    replace F8 := Lib.hid (lies_on2 F8.out hd)
    replace F12 := Lib.hid (lies_on2 F12.out hd)
    replace F0 := Lib.hid (lies_on2 F0.out hd)
    replace F1 := Lib.hid (lies_on2 F1.out hd)
    have F9 := Lib.hid hl
    refine hK9 _ _ ((show VS V _ from hS1).keep hd) (fun hS9 => ?_)
    clear hv hd hl hS1 hK9 K9
    refine oQ 13 (h := fun K13 hK13 => ?_)
    go_simp
    refine (pb32 [] [vn] HN.out.2.1 none _ 0 _ _ (Lies.nil _ _ _ _) F12.out (by simp) (by simp)).mono ?_
    rintro e y13 ⟨v13, rfl, hv, hd⟩
    obtain ⟨A13, c13, rfl, -, hl⟩ := (own_of hv).lies
    replace F8 := Lib.hid (lies_on2 F8.out hd)
    replace F12 := Lib.hid (lies_on2 F12.out hd)
    replace F0 := Lib.hid (lies_on2 F0.out hd)
    replace F1 := Lib.hid (lies_on2 F1.out hd)
    replace F9 := Lib.hid (lies_on2 F9.out hd)
    have F13 := Lib.hid hl
    refine hK13 _ _ ((show VS V _ from hS9).keep hd) (fun hS13 => ?_)
    clear hv hd hl hS9 hK13 K13
    clear F0 F8 F12
    revert hS13
    revert F13
    revert F9
    revert F1
    revert c13
    revert A13
    revert c9
    revert A9
    revert c1
    revert A1
    revert p12
    revert p8
    revert p0
    revert y13
    exact tail 0
  case hkt65 =>
   refine ow_u32_1 _ rfl vn rfl ?_
   intro y12 p12 hl hd
   have F12 := Lib.hid hl
   refine hK12 _ _ ((show VS V _ from hS).keep hd) (fun hS12 => ?_)
   clear hl hd hS hK12 K12
   refine wQ 0 8 (h1 := fun K0 hK0 => ?hit64) (h2 := fun K8 hK8 => ?hjt64)
   case hit64 =>
    refine ow_u32_1 _ rfl 1111705159 rfl ?_
    intro y0 p0 hl hd
    replace F12 := Lib.hid (lies_on2 F12.out hd)
    have F0 := Lib.hid hl
    refine hK0 _ _ ((show VS V _ from hS12).keep hd) (fun hS0 => ?_)
    clear hl hd hS12 hK0 K0
    refine wQ 1 8 (h1 := fun K1 hK1 => ?hit59) (h2 := fun K8 hK8 => ?hjt59)
    case hit59 =>
     go_simp
     refine (pb32 [] [1111705159] HN.out.1 none _ 0 _ _ (Lies.nil _ _ _ _) F0.out (by simp) (by simp)).mono ?_
     rintro e y1 ⟨v1, rfl, hv, hd⟩
     obtain ⟨A1, c1, rfl, -, hl⟩ := (own_of hv).lies
     replace F12 := Lib.hid (lies_on2 F12.out hd)
     replace F0 := Lib.hid (lies_on2 F0.out hd)
     have F1 := Lib.hid hl
     refine hK1 _ _ ((show VS V _ from hS0).keep hd) (fun hS1 => ?_)
     clear hv hd hl hS0 hK1 K1
     refine oQ 8 (h := fun K8 hK8 => ?_)
     refine ow_i64_4 _ _ _ _ rfl 1 N M 0 rfl rfl rfl rfl ?_
     intro y8 p8 hl hd
     replace F12 := Lib.hid (lies_on2 F12.out hd)
     replace F0 := Lib.hid (lies_on2 F0.out hd)
     replace F1 := Lib.hid (lies_on2 F1.out hd)
     have F8 := Lib.hid hl
     refine hK8 _ _ ((show VS V _ from hS1).keep hd) (fun hS8 => ?_)
     clear hl hd hS1 hK8 K8
     refine oQ 9 (h := fun K9 hK9 => ?_)
     go_simp
     refine (shorts_any [1, N, M, 0] HN.out.2.2 _ _ _ (by simp) F8.out).mono ?_
     rintro e y9 ⟨v9, rfl, hv, hd⟩
     obtain ⟨A9, c9, rfl, -, hl⟩ := (own_of hv).lies
     replace F12 := Lib.hid (lies_on2 F12.out hd)
     replace F0 := Lib.hid (lies_on2 F0.out hd)
     replace F1 := Lib.hid (lies_on2 F1.out hd)
     replace F8 := Lib.hid (lies_on2 F8.out hd)
     have F9 := Lib.hid hl
     refine hK9 _ _ ((show VS V _ from hS8).keep hd) (fun hS9 => ?_)
     clear hv hd hl hS8 hK9 K9
     refine oQ 13 (h := fun K13 hK13 => ?_)
     go_simp
     refine (pb32 [] [vn] HN.out.2.1 none _ 0 _ _ (Lies.nil _ _ _ _) F12.out (by simp) (by simp)).mono ?_
     rintro e y13 ⟨v13, rfl, hv, hd⟩
     obtain ⟨A13, c13, rfl, -, hl⟩ := (own_of hv).lies
     replace F12 := Lib.hid (lies_on2 F12.out hd)
     replace F0 := Lib.hid (lies_on2 F0.out hd)
     replace F1 := Lib.hid (lies_on2 F1.out hd)
     replace F8 := Lib.hid (lies_on2 F8.out hd)
     replace F9 := Lib.hid (lies_on2 F9.out hd)
     have F13 := Lib.hid hl
     refine hK13 _ _ ((show VS V _ from hS9).keep hd) (fun hS13 => ?_)
     clear hv hd hl hS9 hK13 K13
     clear F0 F8 F12
     revert hS13
     revert F13
     revert F9
     revert F1
     revert c13
     revert A13
     revert c9
     revert A9
     revert c1
     revert A1
     revert p12
     revert p8
     revert p0
     revert y13
     exact tail 0
    case hjt59 =>
     refine ow_i64_4 _ _ _ _ rfl 1 N M 0 rfl rfl rfl rfl ?_
     intro y8 p8 hl hd
     replace F12 := Lib.hid (lies_on2 F12.out hd)
     replace F0 := Lib.hid (lies_on2 F0.out hd)
     have F8 := Lib.hid hl
     refine hK8 _ _ ((show VS V _ from hS0).keep hd) (fun hS8 => ?_)
     clear hl hd hS0 hK8 K8
     refine oQ 1 (h := fun K1 hK1 => ?_)
     go_simp
     refine (pb32 [] [1111705159] HN.out.1 none _ 0 _ _ (Lies.nil _ _ _ _) F0.out (by simp) (by simp)).mono ?_
     rintro e y1 ⟨v1, rfl, hv, hd⟩
     obtain ⟨A1, c1, rfl, -, hl⟩ := (own_of hv).lies
     replace F12 := Lib.hid (lies_on2 F12.out hd)
     replace F0 := Lib.hid (lies_on2 F0.out hd)
     replace F8 := Lib.hid (lies_on2 F8.out hd)
     have F1 := Lib.hid hl
     refine hK1 _ _ ((show VS V _ from hS8).keep hd) (fun hS1 => ?_)
     clear hv hd hl hS8 hK1 K1
     refine oQ 9 (h := fun K9 hK9 => ?_)
     go_simp
     refine (shorts_any [1, N, M, 0] HN.out.2.2 _ _ _ (by simp) F8.out).mono ?_
     rintro e y9 ⟨v9, rfl, hv, hd⟩
     obtain ⟨A9, c9, rfl, -, hl⟩ := (own_of hv).lies
     replace F12 := Lib.hid (lies_on2 F12.out hd)
     replace F0 := Lib.hid (lies_on2 F0.out hd)
     replace F8 := Lib.hid (lies_on2 F8.out hd)
     replace F1 := Lib.hid (lies_on2 F1.out hd)
     have F9 := Lib.hid hl
     refine hK9 _ _ ((show VS V _ from hS1).keep hd) (fun hS9 => ?_)
     clear hv hd hl hS1 hK9 K9
     refine oQ 13 (h := fun K13 hK13 => ?_)
     go_simp
     refine (pb32 [] [vn] HN.out.2.1 none _ 0 _ _ (Lies.nil _ _ _ _) F12.out (by simp) (by simp)).mono ?_
     rintro e y13 ⟨v13, rfl, hv, hd⟩
     obtain ⟨A13, c13, rfl, -, hl⟩ := (own_of hv).lies
     replace F12 := Lib.hid (lies_on2 F12.out hd)
     replace F0 := Lib.hid (lies_on2 F0.out hd)
     replace F8 := Lib.hid (lies_on2 F8.out hd)
     replace F1 := Lib.hid (lies_on2 F1.out hd)
     replace F9 := Lib.hid (lies_on2 F9.out hd)
     have F13 := Lib.hid hl
     refine hK13 _ _ ((show VS V _ from hS9).keep hd) (fun hS13 => ?_)
     clear hv hd hl hS9 hK13 K13
     clear F0 F8 F12
     revert hS13
     revert F13
     revert F9
     revert F1
     revert c13
     revert A13
     revert c9
     revert A9
     revert c1
     revert A1
     revert p12
     revert p8
     revert p0
     revert y13
     exact tail 0
   case hjt64 =>
    refine ow_i64_4 _ _ _ _ rfl 1 N M 0 rfl rfl rfl rfl ?_
    intro y8 p8 hl hd
    replace F12 := Lib.hid (lies_on2 F12.out hd)
    have F8 := Lib.hid hl
    refine hK8 _ _ ((show VS V _ from hS12).keep hd) (fun hS8 => ?_)
    clear hl hd hS12 hK8 K8
    refine oQ 0 (h := fun K0 hK0 => ?_)
    refine ow_u32_1 _ rfl 1111705159 rfl ?_
    intro y0 p0 hl hd
    replace F12 := Lib.hid (lies_on2 F12.out hd)
    replace F8 := Lib.hid (lies_on2 F8.out hd)
    have F0 := Lib.hid hl
    refine hK0 _ _ ((show VS V _ from hS8).keep hd) (fun hS0 => ?_)
    clear hl hd hS8 hK0 K0
    refine oQ 1 (h := fun K1 hK1 => ?_)
    go_simp
    refine (pb32 [] [1111705159] HN.out.1 none _ 0 _ _ (Lies.nil _ _ _ _) F0.out (by simp) (by simp)).mono ?_
    rintro e y1 ⟨v1, rfl, hv, hd⟩
    obtain ⟨A1, c1, rfl, -, hl⟩ := (own_of hv).lies
    replace F12 := Lib.hid (lies_on2 F12.out hd)
    replace F8 := Lib.hid (lies_on2 F8.out hd)
    replace F0 := Lib.hid (lies_on2 F0.out hd)
    have F1 := Lib.hid hl
    refine hK1 _ _ ((show VS V _ from hS0).keep hd) (fun hS1 => ?_)
    clear hv hd hl hS0 hK1 K1
    refine oQ 9 (h := fun K9 hK9 => ?_)
    go_simp
    refine (shorts_any [1, N, M, 0] HN.out.2.2 _ _ _ (by simp) F8.out).mono ?_
    rintro e y9 ⟨v9, rfl, hv, hd⟩
    obtain ⟨A9, c9, rfl, -, hl⟩ := (own_of hv).lies
    replace F12 := Lib.hid (lies_on2 F12.out hd)
    replace F8 := Lib.hid (lies_on2 F8.out hd)
    replace F0 := Lib.hid (lies_on2 F0.out hd)
    replace F1 := Lib.hid (lies_on2 F1.out hd)
    have F9 := Lib.hid hl
    refine hK9 _ _ ((show VS V _ from hS1).keep hd) (fun hS9 => ?_)
    clear hv hd hl hS1 hK9 K9
    refine oQ 13 (h := fun K13 hK13 => ?_)
    go_simp
    refine (pb32 [] [vn] HN.out.2.1 none _ 0 _ _ (Lies.nil _ _ _ _) F12.out (by simp) (by simp)).mono ?_
    rintro e y13 ⟨v13, rfl, hv, hd⟩
    obtain ⟨A13, c13, rfl, -, hl⟩ := (own_of hv).lies
    replace F12 := Lib.hid (lies_on2 F12.out hd)
    replace F8 := Lib.hid (lies_on2 F8.out hd)
    replace F0 := Lib.hid (lies_on2 F0.out hd)
    replace F1 := Lib.hid (lies_on2 F1.out hd)
    replace F9 := Lib.hid (lies_on2 F9.out hd)
    have F13 := Lib.hid hl
    refine hK13 _ _ ((show VS V _ from hS9).keep hd) (fun hS13 => ?_)
    clear hv hd hl hS9 hK13 K13
    clear F0 F8 F12
    revert hS13
    revert F13
    revert F9
    revert F1
    revert c13
    revert A13
    revert c9
    revert A9
    revert c1
    revert A1
    revert p12
    revert p8
    revert p0
    revert y13
    exact tail 0
 case t =>
  intro y13 p0 p8 p12 A1 c1 A9 c9 A13 c13 F1 F9 F13 hS13
  refine oQ 16 (h := fun K16 hK16 => ?_)
  go_simp
  refine (HW0.out _ (show VS V _ from hS13)).mono ?_
  rintro e y16 ⟨v16, rfl, hv, hd⟩
  obtain ⟨A16, c16, rfl, -, hl⟩ := (own_of hv).lies
  replace F1 := Lib.hid (lies_on2 F1.out hd)
  replace F9 := Lib.hid (lies_on2 F9.out hd)
  replace F13 := Lib.hid (lies_on2 F13.out hd)
  have F16 := Lib.hid hl
  refine hK16 _ _ ((show VS V _ from hS13).keep hd) (fun hS16 => ?_)
  clear hv hd hl hS13 hK16 K16
  refine oQ 19 (h := fun K19 hK19 => ?_)
  go_simp
  refine (HW1.out _ (show VS V _ from hS16)).mono ?_
  rintro e y19 ⟨v19, rfl, hv, hd⟩
  obtain ⟨A19, c19, rfl, -, hl⟩ := (own_of hv).lies
  replace F1 := Lib.hid (lies_on2 F1.out hd)
  replace F9 := Lib.hid (lies_on2 F9.out hd)
  replace F13 := Lib.hid (lies_on2 F13.out hd)
  replace F16 := Lib.hid (lies_on2 F16.out hd)
  have F19 := Lib.hid hl
  refine hK19 _ _ ((show VS V _ from hS16).keep hd) (fun hS19 => ?_)
  clear hv hd hl hS16 hK19 K19
  refine oQ 20 (h := fun K20 hK20 => ?_)
  refine ow_pt_5 _ _ _ _ _ rfl (A1, c1, [] ++ [1111705159].flatMap (be 4)) (A9, c9, [1, N, M, 0].flatMap (be 2)) (A13, c13, [] ++ [vn].flatMap (be 4)) (A16, c16, L0) (A19, c19, L1) rfl rfl rfl rfl rfl ?_
  intro y20 p20 hl hd
  replace F1 := Lib.hid (lies_on2 F1.out hd)
  replace F9 := Lib.hid (lies_on2 F9.out hd)
  replace F13 := Lib.hid (lies_on2 F13.out hd)
  replace F16 := Lib.hid (lies_on2 F16.out hd)
  replace F19 := Lib.hid (lies_on2 F19.out hd)
  have F20 := Lib.hid hl
  refine hK20 _ _ ((show VS V _ from hS19).keep hd) (fun hS20 => ?_)
  clear hl hd hS19 hK20 K20
  refine oQ 21 (h := fun K21 hK21 => ?_)
  go_simp
  refine (cat_any [(A1, c1, [] ++ [1111705159].flatMap (be 4)), (A9, c9, [1, N, M, 0].flatMap (be 2)), (A13, c13, [] ++ [vn].flatMap (be 4)), (A16, c16, L0), (A19, c19, L1)] _ _ _ _ (Nat.le_refl _) F20.out (allc F1.out (allc F9.out (allc F13.out (allc F16.out (allc F19.out (fun _ h => nomatch h)))))) (by have h1 := HLL.out; simp [catAll, be_len]; omega) (by simp [maxLen])).mono ?_
  rintro e y21 ⟨v21, rfl, hv, hd⟩
  have HFIN := Lib.hid (And.intro hv (And.intro (show VS V _ from hS20) hd))
  refine hK21 _ _ ((show VS V _ from hS20).keep hd) (fun hS21 => ?_)
  clear hv hd  hS20 hK21 K21
  refine tA 22 (h := ?_)
  refine wpAnyH_done (by kernel_rfl) ?_ _
  clear hS21
  go_wp2
  go_ret
  exact HEND.out _ _ _ _ _ _ _ _ _ _ _ _ _ HFIN.out.1 HFIN.out.2.1 HFIN.out.2.2
def PutP (x : Cf) (w : World) (e : Ending) (w' : World) : Prop := (if errP x = 0 then ∃ v, e = .returned (.tuple #[v, .int .i64 0]) ∧ w'.ownsRow w.heap.size 5 1 v (layC x).length (u8s (layC x)) else e = .returned (.tuple #[.slice none 0 0, .int .i64 (errP x : Int)])) ∧ Below w.heap.size w w'
set_option maxRecDepth 100000 in
theorem PutP.no {x : Cf} {w w' : World} {n : Nat} (h : errP x = n) (hn : n ≠ 0) (hb : Below w.heap.size w w') : PutP x w (.returned (.tuple #[.slice none 0 0, .int .i64 (n : Int)])) w' := ⟨by rw [if_neg (by omega), h], hb⟩
theorem PutP.yes {x : Cf} {w w' : World} {v : Value} (h : errP x = 0) (hv : w'.ownsRow w.heap.size 5 1 v (layC x).length (u8s (layC x))) (hb : Below w.heap.size w w') : PutP x w (.returned (.tuple #[v, .int .i64 0])) w' := ⟨by rw [if_pos h]; exact ⟨v, rfl, hv⟩, hb⟩
set_option maxRecDepth 100000 in
set_option maxHeartbeats 4000000 in
theorem cput_any (x : Cf) (a c : Value) (w : World) (hx : CfR w w.heap.size x a c) (hb : CfB x) (hnk : NmK x) : Calls Tryz.prog 38 #[cfVal x a c] w (PutP x w) := by
 obtain ⟨V, hV⟩ : ∃ V, V = w.alloc (.cells (vec 3 (cfE x.ver a c)) 31) := ⟨_, rfl⟩
 have k1 : Arr V w.heap.size 31 3 (cfE x.ver a c) := by rw [hV]; exact Arr.new w _ _ _
 have hB : Below w.heap.size w V := by rw [hV]; exact (Below.refl _ _).alloc (Nat.le_refl _) _
 have HK := Lib.hid hB
 have HA := Lib.hid k1
 have HCX := Lib.hid (hx.up hB)
 have HRF := Lib.hid (refused_any x a c V (hx.up hB) hnk)
 have HLA : Hid (errC x = 0 → ∀ Y, Below V.heap.size V Y → Calls Tryz.prog 72 #[cfVal x a c] Y (Bytes Y (layC x))) := Lib.hid (fun h Y hY => laid_any x a c Y (HCX.out.up hY) hb h)
 have HEP : Hid (errP x = if errC x = 0 then (if (layC x).length ≤ 65536 then 0 else 2) else errC x) := Lib.hid rfl
 have HYES : Hid (∀ (v : Value) (W : World), errP x = 0 → W.ownsRow w.heap.size 5 1 v (layC x).length (u8s (layC x)) → Below w.heap.size w W → PutP x w (.returned (.tuple #[v, .int .i64 0])) W) := Lib.hid (fun v W h1 h2 h3 => PutP.yes h1 h2 h3)
 have HNO : Hid (∀ (n : Nat) (W : World), errP x = n → n ≠ 0 → Below w.heap.size w W → PutP x w (.returned (.tuple #[.slice none 0 0, .int .i64 (n : Int)])) W) := Lib.hid (fun n W h1 h2 h3 => PutP.no h1 h2 h3)
 obtain ⟨Q, hQ⟩ : ∃ Q, Q = PutP x w := ⟨_, rfl⟩
 rw [← hQ] at HYES HNO ⊢
 have HW := Lib.hid hV
 unfold cfVal at HRF HLA ⊢
 obtain ⟨n, hn⟩ : ∃ n, n = errC x := ⟨_, rfl⟩
 rw [← hn] at HRF HLA HEP
 obtain ⟨LZ, hLZ⟩ : ∃ l, l = layC x := ⟨_, rfl⟩
 rw [← hLZ] at HLA HEP HYES
 clear hV k1 hB hx hb hnk hQ hn hLZ
 go_enter Tryz.func38, Tryz.ntmps38
 go_upto_region 1 with fail
 rw [← HW.out]
 clear HW
 by_cases hn : n = 0
 rotate_left
 · have n1 : ((n : Int) != 0) = true := bne_iff_ne.2 (by omega)
   have n2 : ¬ (n : Int) = 0 := by omega
   have HE : Hid (errP x = n ∧ n ≠ 0) := Lib.hid ⟨by rw [HEP.out, if_neg hn], hn⟩
   clear hn
   go_wp2_with (first
    | ((with_reducible show wpList _ _ _ (Oper.mk _ (.load _ _) _ _ _ _ :: _) _ _); refine wl_load rfl 31 _ rfl _ rfl _ (run_load_arr HA.out Tryz.underlying31 rfl infoCf) ?_)
    | (go_at_call 71; refine HRF.out.mono ?_; rintro e w1 ⟨rfl, hd⟩; have HD := Lib.hid hd; clear hd))
   exact HNO.out n _ HE.out.1 HE.out.2 (HK.out.trans (HD.out.mono HK.out.size))
 subst hn
 have HL := Lib.hid (HLA.out rfl)
 have HE : Hid (errP x = if LZ.length ≤ 65536 then 0 else 2) := Lib.hid (by rw [HEP.out, if_pos rfl])
 clear HEP HLA HCX
 go_upto_region 5 with (first
    | ((with_reducible show wpList _ _ _ (Oper.mk (some 6) (.load _ _) _ _ _ _ :: _) _ _); refine wl_load rfl 31 _ rfl _ rfl _ (run_load_arr HA.out Tryz.underlying31 rfl infoCf) ?_)
    | ((with_reducible show wpList _ _ _ (Oper.mk _ (.load _ _) _ _ _ _ :: _) _ _); refine wl_load rfl 31 _ rfl _ rfl _ (run_load_arr (HA.out.under HD.out) Tryz.underlying31 rfl infoCf) ?_)
    | (go_at_call 71; refine HRF.out.mono ?_; rintro e w1 ⟨rfl, hd⟩; have HD := Lib.hid hd; clear hd)
    | (go_at_call 72; refine (HL.out _ HD.out).mono ?_; rintro e w2 ⟨v, rfl, hv, hd⟩; obtain ⟨A, cc, rfl, -, -⟩ := (own_of hv).lies; have HV := Lib.hid (And.intro hv hd); clear hv hd))
 have HT := Lib.hid (tooLong_any A LZ.length cc)
 have HB : Hid (Below w.heap.size w w2) := Lib.hid ((HK.out.trans (HD.out.mono HK.out.size)).trans (HV.out.2.mono (HK.out.trans (HD.out.mono HK.out.size)).size))
 have HO : Hid (w2.ownsRow w.heap.size 5 1 (.slice A LZ.length cc) LZ.length (u8s LZ)) := Lib.hid (owns_mono HV.out.1 (HK.out.trans (HD.out.mono HK.out.size)).size)
 clear HV HD
 by_cases hlong : 65536 < LZ.length
 · rw [decide_eq_true hlong] at HT
   have HE2 : Hid (errP x = 2) := Lib.hid (by rw [HE.out, if_neg (by omega)])
   clear hlong HE
   go_wp2_with (go_at_call 73; refine (HT.out _).mono ?_; rintro e w3 ⟨rfl, rfl⟩)
   exact HNO.out 2 _ HE2.out (by decide) HB.out
 · rw [decide_eq_false hlong] at HT
   have HE2 : Hid (errP x = 0) := Lib.hid (by rw [HE.out, if_pos (by omega)])
   clear hlong HE
   go_wp2_with (go_at_call 73; refine (HT.out _).mono ?_; rintro e w3 ⟨rfl, rfl⟩)
   exact HYES.out _ _ HE2.out HO.out HB.out
end Go.Proofs.YtkaipknkjocfiaaGreat
