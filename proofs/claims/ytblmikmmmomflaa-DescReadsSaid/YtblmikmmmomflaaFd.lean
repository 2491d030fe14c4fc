/- The code's Put; the laws of stage 18. -/
import Derived.Test.YtblmikmmmomflaaFc
namespace Go.Proofs.Ytblmikmmmomflaa
open Go.RowKit
attribute [local go_sem ↓ high] zeroDs zeroPl zeroFld builtin_appS
def fieldsF (d : Ds) : List (Nat × Nat) := if d.kind = 1 then [(d.pa, 0), (3, 0)] else if d.kind = 2 then mapF d ++ [(1, 0)] else if d.kind = 3 then mapF d ++ [(3, 0)] else []
theorem info_fld2 : (Try.prog.info? 48).map (fun i => (i.zero, i.size, i.bytes)) = some (some (.agg (vec 2 (fldE (0, 0)))), 2, 16) := by kernel_rfl
theorem app_fld {w : World} {base : Nat} {v : Value} {l : List (Nat × Nat)} (x : Nat × Nat) (hown : OwnF w base v l) (hb : base ≤ w.heap.size) (hl : l.length ≤ 1000000) :
    ∃ B d w', (appS #[39, 39] 39 #[v, .slice (some ⟨w.heap.size, 0, none⟩) 1 1]).run Try.prog (w.alloc (.cells (vec 2 (fldE x)) 48)) = .ok (.slice B (l.length + 1) d) w' ∧ OwnF w' base (.slice B (l.length + 1) d) (l ++ [x]) ∧ Below base w w' :=
  app_E (P := Try.prog) Try.underlying39 info_fld2 (vec_size _ _) (by decide) (fun x => fldE_one x 2) x hown hb hl (by decide) 39
set_option maxRecDepth 100000 in
set_option maxHeartbeats 1000000 in
theorem fields1 (pa : Nat) (pm mm : Int) (af : Bool) (L : Int) (W : World) : Calls Try.prog 16 #[.agg (vec 6 (plE ⟨1, pa, pm, mm, af⟩ L))] W fun e w' => ∃ A c, e = .returned (.slice A (fieldsF ⟨1, pa, pm, mm, af⟩).length c) ∧ OwnF w' W.heap.size (.slice A (fieldsF ⟨1, pa, pm, mm, af⟩).length c) (fieldsF ⟨1, pa, pm, mm, af⟩) ∧ Below W.heap.size W w' := by
  rw [show fieldsF ⟨1, pa, pm, mm, af⟩ = [(pa, 0), (3, 0)] from rfl]
  obtain ⟨r, hr⟩ : ∃ r, r = W.heap.size := ⟨_, rfl⟩
  obtain ⟨V1, hV⟩ : ∃ V, V = W.alloc (.cells (vec 6 (plE ⟨1, pa, pm, mm, af⟩ L)) 35) := ⟨_, rfl⟩
  have ar : Arr V1 r 35 6 (plE ⟨1, pa, pm, mm, af⟩ L) := by rw [hV, hr]; exact Arr.new _ _ _ _
  have HAR := Lib.hid ar
  have HB0 : Hid (Below W.heap.size W V1) := Lib.hid (by rw [hV]; exact (Below.refl _ _).alloc (Nat.le_refl _) _)
  have c0 : V1.cell? ⟨r, 0, none⟩ = some (.int .i64 1) := ar.cell (i := 0) (by decide)
  have c1 : V1.cell? ⟨r, 1, none⟩ = some (.int .u64 (pa : Int)) := ar.cell (i := 1) (by decide)
  have c2 : V1.cell? ⟨r, 2, none⟩ = some (.int .i64 pm) := ar.cell (i := 2) (by decide)
  have c3 : V1.cell? ⟨r, 3, none⟩ = some (.int .i64 mm) := ar.cell (i := 3) (by decide)
  have c4 : V1.cell? ⟨r, 4, none⟩ = some (.bool af) := ar.cell (i := 4) (by decide)
  have c5 : V1.cell? ⟨r, 5, none⟩ = some (.int .i64 L) := ar.cell (i := 5) (by decide)
  have HV := Lib.hid hV
  have HR := Lib.hid hr
  clear hV hr ar
  go_enter Try.func16, Try.ntmps16
  go_upto_region 1 with fail
  rw [← HV.out, ← HR.out]
  clear HV HR
  go_wp2_with (first
    | ((with_reducible show wpList _ _ _ (Oper.mk _ (.build _ #[(0, .tmp 10), _]) _ _ _ _ :: _) _ _); refine wl_build rfl 48 _ rfl (vec 2 (fldE (pa, 0))) (by kernel_rfl) ?_)
    | ((with_reducible show wpList _ _ _ (Oper.mk _ (.build _ #[(0, .const _), _]) _ _ _ _ :: _) _ _); refine wl_build rfl 48 _ rfl (vec 2 (fldE (3, 0))) (by kernel_rfl) ?_)
    | ((with_reducible show wpList _ _ _ (Oper.mk _ (.buildSlice _ _ _) _ _ _ _ :: _) _ _); refine wpList_plain rfl fun K hK => ow_2 _ _ rfl (pa, 0) (3, 0) rfl rfl (hK _ _ ?_)))
  go_ret
  exact ⟨_, _, rfl, (own_lit [(pa, 0), (3, 0)] 2 rfl V1 (by decide)).low HB0.out.size, HB0.out.trans (((Below.refl _ _).alloc (Nat.le_refl _) _).mono HB0.out.size)⟩
set_option maxRecDepth 100000 in
set_option maxHeartbeats 1000000 in
theorem fields2 (pa : Nat) (pm mm : Int) (af : Bool) (L : Int) (W : World) (hp : 0 ≤ pm ∧ pm ≤ 7) : Calls Try.prog 16 #[.agg (vec 6 (plE ⟨2, pa, pm, mm, af⟩ L))] W fun e w' => ∃ A c, e = .returned (.slice A (fieldsF ⟨2, pa, pm, mm, af⟩).length c) ∧ OwnF w' W.heap.size (.slice A (fieldsF ⟨2, pa, pm, mm, af⟩).length c) (fieldsF ⟨2, pa, pm, mm, af⟩) ∧ Below W.heap.size W w' := by
  rw [show fieldsF ⟨2, pa, pm, mm, af⟩ = mapF ⟨2, pa, pm, mm, af⟩ ++ [(1, 0)] from rfl]
  have HM := Lib.hid fun (W : World) => mapping_any ⟨2, pa, pm, mm, af⟩ L W hp
  obtain ⟨M, hM⟩ : ∃ M, M = mapF ⟨2, pa, pm, mm, af⟩ := ⟨_, rfl⟩
  have HL : Hid (M.length = 7) := Lib.hid (by rw [hM]; rfl)
  rw [← hM] at HM ⊢
  have HLL : Hid ((M ++ [(1, 0)]).length = 8) := Lib.hid (by rw [List.length_append, HL.out]; rfl)
  rw [HLL.out]
  clear hM hp
  obtain ⟨r, hr⟩ : ∃ r, r = W.heap.size := ⟨_, rfl⟩
  obtain ⟨V1, hV⟩ : ∃ V, V = W.alloc (.cells (vec 6 (plE ⟨2, pa, pm, mm, af⟩ L)) 35) := ⟨_, rfl⟩
  have ar : Arr V1 r 35 6 (plE ⟨2, pa, pm, mm, af⟩ L) := by rw [hV, hr]; exact Arr.new _ _ _ _
  have HAR := Lib.hid ar
  have HB0 : Hid (Below W.heap.size W V1) := Lib.hid (by rw [hV]; exact (Below.refl _ _).alloc (Nat.le_refl _) _)
  have c0 : V1.cell? ⟨r, 0, none⟩ = some (.int .i64 2) := ar.cell (i := 0) (by decide)
  have c1 : V1.cell? ⟨r, 1, none⟩ = some (.int .u64 (pa : Int)) := ar.cell (i := 1) (by decide)
  have c2 : V1.cell? ⟨r, 2, none⟩ = some (.int .i64 pm) := ar.cell (i := 2) (by decide)
  have c3 : V1.cell? ⟨r, 3, none⟩ = some (.int .i64 mm) := ar.cell (i := 3) (by decide)
  have c4 : V1.cell? ⟨r, 4, none⟩ = some (.bool af) := ar.cell (i := 4) (by decide)
  have c5 : V1.cell? ⟨r, 5, none⟩ = some (.int .i64 L) := ar.cell (i := 5) (by decide)
  have HV := Lib.hid hV
  have HR := Lib.hid hr
  clear hV hr ar
  go_enter Try.func16, Try.ntmps16
  go_upto_region 1 with fail
  rw [← HV.out, ← HR.out]
  clear HV HR
  go_wp2_with (first
    | ((with_reducible show wpList _ _ _ (Oper.mk _ (.load 35 _) _ _ _ _ :: _) _ _); refine wl_load rfl 35 _ rfl r rfl _ (run_load_arr HAR.out Try.underlying35 rfl infoPl) ?_)
    | (go_at_call 25; refine (HM.out _).mono ?_; rintro e y ⟨A, rfl, ho, hd⟩; have HO := Lib.hid ho; have HD := Lib.hid (HB0.out.trans (hd.mono HB0.out.size)); obtain ⟨B, c, w4, hrun, ho4, hb4⟩ := app_fld (1, 0) ho hd.size (by rw [HL.out]; decide); rw [HL.out] at hrun ho4; have HO4 := Lib.hid ho4; have HB4 := Lib.hid hb4; have hbs := build_1 (1, 0) y; clear ho hd ho4 hb4)
    | ((with_reducible show wpList _ _ _ (Oper.mk _ (.build _ _) _ _ _ _ :: _) _ _); refine wl_build rfl 48 _ rfl (vec 2 (fldE (1, 0))) (by kernel_rfl) ?_)
    | ((with_reducible show wpList _ _ _ (Oper.mk _ (.buildSlice _ _ _) _ _ _ _ :: _) _ _); refine wl_bs1 rfl _ rfl (.agg (vec 2 (fldE (1, 0)))) rfl hbs ?_))
  go_ret
  exact ⟨_, _, rfl, HO4.out.low HB0.out.size, HD.out.trans ((HB4.out.mono HB0.out.size))⟩
set_option maxRecDepth 100000 in
set_option maxHeartbeats 1000000 in
theorem fields3 (pa : Nat) (pm mm : Int) (af : Bool) (L : Int) (W : World) (hp : 0 ≤ pm ∧ pm ≤ 7) : Calls Try.prog 16 #[.agg (vec 6 (plE ⟨3, pa, pm, mm, af⟩ L))] W fun e w' => ∃ A c, e = .returned (.slice A (fieldsF ⟨3, pa, pm, mm, af⟩).length c) ∧ OwnF w' W.heap.size (.slice A (fieldsF ⟨3, pa, pm, mm, af⟩).length c) (fieldsF ⟨3, pa, pm, mm, af⟩) ∧ Below W.heap.size W w' := by
  rw [show fieldsF ⟨3, pa, pm, mm, af⟩ = mapF ⟨3, pa, pm, mm, af⟩ ++ [(3, 0)] from rfl]
  have HM := Lib.hid fun (W : World) => mapping_any ⟨3, pa, pm, mm, af⟩ L W hp
  obtain ⟨M, hM⟩ : ∃ M, M = mapF ⟨3, pa, pm, mm, af⟩ := ⟨_, rfl⟩
  have HL : Hid (M.length = 7) := Lib.hid (by rw [hM]; rfl)
  rw [← hM] at HM ⊢
  have HLL : Hid ((M ++ [(3, 0)]).length = 8) := Lib.hid (by rw [List.length_append, HL.out]; rfl)
  rw [HLL.out]
  clear hM hp
  obtain ⟨r, hr⟩ : ∃ r, r = W.heap.size := ⟨_, rfl⟩
  obtain ⟨V1, hV⟩ : ∃ V, V = W.alloc (.cells (vec 6 (plE ⟨3, pa, pm, mm, af⟩ L)) 35) := ⟨_, rfl⟩
  have ar : Arr V1 r 35 6 (plE ⟨3, pa, pm, mm, af⟩ L) := by rw [hV, hr]; exact Arr.new _ _ _ _
  have HAR := Lib.hid ar
  have HB0 : Hid (Below W.heap.size W V1) := Lib.hid (by rw [hV]; exact (Below.refl _ _).alloc (Nat.le_refl _) _)
  have c0 : V1.cell? ⟨r, 0, none⟩ = some (.int .i64 3) := ar.cell (i := 0) (by decide)
  have c1 : V1.cell? ⟨r, 1, none⟩ = some (.int .u64 (pa : Int)) := ar.cell (i := 1) (by decide)
  have c2 : V1.cell? ⟨r, 2, none⟩ = some (.int .i64 pm) := ar.cell (i := 2) (by decide)
  have c3 : V1.cell? ⟨r, 3, none⟩ = some (.int .i64 mm) := ar.cell (i := 3) (by decide)
  have c4 : V1.cell? ⟨r, 4, none⟩ = some (.bool af) := ar.cell (i := 4) (by decide)
  have c5 : V1.cell? ⟨r, 5, none⟩ = some (.int .i64 L) := ar.cell (i := 5) (by decide)
  have HV := Lib.hid hV
  have HR := Lib.hid hr
  clear hV hr ar
  go_enter Try.func16, Try.ntmps16
  go_upto_region 1 with fail
  rw [← HV.out, ← HR.out]
  clear HV HR
  go_wp2_with (first
    | ((with_reducible show wpList _ _ _ (Oper.mk _ (.load 35 _) _ _ _ _ :: _) _ _); refine wl_load rfl 35 _ rfl r rfl _ (run_load_arr HAR.out Try.underlying35 rfl infoPl) ?_)
    | (go_at_call 25; refine (HM.out _).mono ?_; rintro e y ⟨A, rfl, ho, hd⟩; have HO := Lib.hid ho; have HD := Lib.hid (HB0.out.trans (hd.mono HB0.out.size)); obtain ⟨B, c, w4, hrun, ho4, hb4⟩ := app_fld (3, 0) ho hd.size (by rw [HL.out]; decide); rw [HL.out] at hrun ho4; have HO4 := Lib.hid ho4; have HB4 := Lib.hid hb4; have hbs := build_1 (3, 0) y; clear ho hd ho4 hb4)
    | ((with_reducible show wpList _ _ _ (Oper.mk _ (.build _ _) _ _ _ _ :: _) _ _); refine wl_build rfl 48 _ rfl (vec 2 (fldE (3, 0))) (by kernel_rfl) ?_)
    | ((with_reducible show wpList _ _ _ (Oper.mk _ (.buildSlice _ _ _) _ _ _ _ :: _) _ _); refine wl_bs1 rfl _ rfl (.agg (vec 2 (fldE (3, 0)))) rfl hbs ?_))
  go_ret
  exact ⟨_, _, rfl, HO4.out.low HB0.out.size, HD.out.trans ((HB4.out.mono HB0.out.size))⟩
def mapB (L : Int) (d : Ds) : Bool := d.pa % sizeP L == 0 && ((decide (0 ≤ d.perm) && decide (d.perm ≤ 7)) && (d.mem == 0 || d.mem == 1))
set_option maxRecDepth 100000 in
set_option maxHeartbeats 2000000 in
theorem mayMap_any (L : Int) (hL : 1 ≤ L ∧ L ≤ 3) (d : Ds) (W : World) : Calls Try.prog 24 #[.agg (vec 6 (plE d L))] W fun e w' => e = .returned (.bool (mapB L d)) ∧ Below W.heap.size W w' := by
  have HS := Lib.hid (size_any L)
  have hs : 0 < sizeP L := by rcases (by omega : L = 1 ∨ L = 2 ∨ L = 3) with rfl | rfl | rfl <;> decide
  unfold mapB
  obtain ⟨kd, pa, pm, mm, af⟩ := d
  simp only
  obtain ⟨s, hs2⟩ : ∃ s, s = sizeP L := ⟨_, rfl⟩
  rw [← hs2] at HS hs ⊢
  obtain ⟨rr, hrr⟩ : ∃ x, x = pa % s := ⟨_, rfl⟩
  have er : ((pa : Int) % (s : Int)) = (rr : Int) := by rw [hrr]; norm_cast
  have er2 : ((pa : Int).tmod (s : Int)) = (rr : Int) := by rw [Int.tmod_eq_emod_of_nonneg (by omega)]; exact er
  have hs0 : ((s : Int) == 0) = false := by simp; omega
  have hsi : ¬ (s : Int) = 0 := by omega
  have hsn : ¬ s = 0 := by omega
  obtain ⟨z, hz⟩ : ∃ z, z = (rr == 0) := ⟨_, rfl⟩
  have ez : ((rr : Int) == 0) = z := by rw [hz]; exact Bool.eq_iff_iff.2 (by simp only [beq_iff_eq]; omega)
  obtain ⟨p0, h0⟩ : ∃ b, b = decide (0 ≤ pm) := ⟨_, rfl⟩
  obtain ⟨p7, h7⟩ : ∃ b, b = decide (pm ≤ 7) := ⟨_, rfl⟩
  obtain ⟨m0, hm0⟩ : ∃ b, b = (mm == 0) := ⟨_, rfl⟩
  obtain ⟨m1, hm1⟩ : ∃ b, b = (mm == 1) := ⟨_, rfl⟩
  rw [← hrr, ← hz, ← h0, ← h7, ← hm0, ← hm1]
  have e0 := h0.symm
  have e7 := h7.symm
  have f0 := hm0.symm
  have f1 := hm1.symm
  obtain ⟨r, hr⟩ : ∃ r, r = W.heap.size := ⟨_, rfl⟩
  obtain ⟨V1, hV⟩ : ∃ V, V = W.alloc (.cells (vec 6 (plE ⟨kd, pa, pm, mm, af⟩ L)) 35) := ⟨_, rfl⟩
  have ar : Arr V1 r 35 6 (plE ⟨kd, pa, pm, mm, af⟩ L) := by rw [hV, hr]; exact Arr.new _ _ _ _
  have HAR := Lib.hid ar
  have HB0 : Hid (Below W.heap.size W V1) := Lib.hid (by rw [hV]; exact (Below.refl _ _).alloc (Nat.le_refl _) _)
  have c0 : V1.cell? ⟨r, 0, none⟩ = some (.int .i64 kd) := ar.cell (i := 0) (by decide)
  have c1 : V1.cell? ⟨r, 1, none⟩ = some (.int .u64 (pa : Int)) := ar.cell (i := 1) (by decide)
  have c2 : V1.cell? ⟨r, 2, none⟩ = some (.int .i64 pm) := ar.cell (i := 2) (by decide)
  have c3 : V1.cell? ⟨r, 3, none⟩ = some (.int .i64 mm) := ar.cell (i := 3) (by decide)
  have c4 : V1.cell? ⟨r, 4, none⟩ = some (.bool af) := ar.cell (i := 4) (by decide)
  have c5 : V1.cell? ⟨r, 5, none⟩ = some (.int .i64 L) := ar.cell (i := 5) (by decide)
  have HV := Lib.hid hV
  have HR := Lib.hid hr
  clear hV hr ar
  clear hs2 hrr hz h0 h7 hm0 hm1 hL
  rcases z with _ | _ <;> rcases p0 with _ | _
  · rcases m0 with _ | _
    · go_enter Try.func24, Try.ntmps24
      go_upto_region 1 with fail
      rw [← HV.out, ← HR.out]
      clear HV HR
      go_upto_region 3 with fail
      refine wp_region_held_drew (S := fun Y => Below V1.heap.size V1 Y ∧ Y.cell? ⟨r, 1, none⟩ = some (.int .u64 (pa : Int)) ∧ Y.cell? ⟨r, 5, none⟩ = some (.int .i64 L)) (by kernel_rfl) ⟨below_drewN (Below.refl _ _) 1, c1, c5⟩ (fun hS => ?_)
      (refine held_take (i := 0) (oi := ?ot1) (v := ?vt1) ?at1 (by kernel_rfl) (by kernel_rfl) (by kernel_rfl) ?bt1 ?ct1 ?dt1 (by assumption) ?rt1; (case at1 => (simp only [List.getElem?_toArray, List.getElem?_cons_zero]; rfl)); (case bt1 => exact fun _ _ _ h => h); (case ct1 => kernel_rfl); (case dt1 => (intro W hW; (try dsimp only at hW); go_split_ands; go_simp; (try with_reducible rfl))); (case' rt1 => simp only [Act.put, List.setIfInBounds_toArray, List.set_cons_zero, List.set_cons_succ]))
      (refine held_take (i := 1) (oi := ?ot2) (v := ?vt2) ?at2 (by kernel_rfl) (by kernel_rfl) (by kernel_rfl) ?bt2 ?ct2 ?dt2 (by assumption) ?rt2; (case at2 => (simp only [List.getElem?_toArray, List.getElem?_cons_zero, List.getElem?_cons_succ]; rfl)); (case bt2 => exact fun _ _ _ h => h); (case ct2 => kernel_rfl); (case dt2 => (intro W hW; (try dsimp only at hW); go_split_ands; go_simp; (try with_reducible rfl))); (case' rt2 => simp only [Act.put, List.setIfInBounds_toArray, List.set_cons_zero, List.set_cons_succ]))
      (refine held_take (i := 2) (oi := ?ot3) (v := ?vt3) ?at3 (by kernel_rfl) (by kernel_rfl) (by kernel_rfl) ?bt3 ?ct3 ?dt3 (by assumption) ?rt3; (case at3 => (simp only [List.getElem?_toArray, List.getElem?_cons_zero, List.getElem?_cons_succ]; rfl)); (case bt3 => exact fun _ _ _ h => h); (case ct3 => kernel_rfl); (case dt3 => (intro W hW; (try dsimp only at hW); go_split_ands; go_simp; (try with_reducible rfl))); (case' rt3 => simp only [Act.put, List.setIfInBounds_toArray, List.set_cons_zero, List.set_cons_succ]))
      (refine held_take (i := 3) (oi := ?ot4) (v := ?vt4) ?at4 (by kernel_rfl) (by kernel_rfl) (by kernel_rfl) ?bt4 ?ct4 ?dt4 (by assumption) ?rt4; (case at4 => (simp only [List.getElem?_toArray, List.getElem?_cons_zero, List.getElem?_cons_succ]; rfl)); (case bt4 => exact fun _ _ _ h => h); (case ct4 => kernel_rfl); (case dt4 => (intro W hW; (try dsimp only at hW); go_split_ands; go_simp; (try with_reducible rfl))); (case' rt4 => simp only [Act.put, List.setIfInBounds_toArray, List.set_cons_zero, List.set_cons_succ]))
      (refine held_take (i := 4) (oi := ?ot5) (v := ?vt5) ?at5 (by kernel_rfl) (by kernel_rfl) (by kernel_rfl) ?bt5 ?ct5 ?dt5 (by assumption) ?rt5; (case at5 => (simp only [List.getElem?_toArray, List.getElem?_cons_zero, List.getElem?_cons_succ]; rfl)); (case bt5 => exact fun _ _ _ h => h); (case ct5 => kernel_rfl); (case dt5 => (intro W hW; (try dsimp only at hW); go_split_ands; go_simp; (try with_reducible rfl))); (case' rt5 => simp only [Act.put, List.setIfInBounds_toArray, List.set_cons_zero, List.set_cons_succ]))
      refine held_one (i := 5) (oi := ?ot6) (by kernel_rfl) ?at6 ?ct6 (fun K5 hK5 => ?_)
      (case at6 => (simp only [List.getElem?_toArray, List.getElem?_cons_zero, List.getElem?_cons_succ]; rfl))
      (case ct6 => kernel_rfl)
      go_simp
      refine (HS.out _).mono ?_
      rintro e y5 ⟨rfl, rfl⟩
      refine hK5 _ _ hS (fun hS5 => ?_)
      clear hS hK5 K5
      (refine held_take (i := 6) (oi := ?ot7) (v := .int .u64 (rr : Int)) ?at7 (by kernel_rfl) (by kernel_rfl) (by kernel_rfl) ?bt7 ?ct7 ?dt7 (by assumption) ?rt7; (case at7 => (simp only [List.getElem?_toArray, List.getElem?_cons_zero, List.getElem?_cons_succ]; rfl)); (case bt7 => exact fun _ _ _ h => h); (case ct7 => kernel_rfl); (case dt7 => (intro W hW; clear hW; go_simp; (try with_reducible rfl))); (case' rt7 => simp only [Act.put, List.setIfInBounds_toArray, List.set_cons_zero, List.set_cons_succ]))
      (refine held_take (i := 7) (oi := ?ot8) (v := .bool false) ?at8 (by kernel_rfl) (by kernel_rfl) (by kernel_rfl) ?bt8 ?ct8 ?dt8 (by assumption) ?rt8; (case at8 => (simp only [List.getElem?_toArray, List.getElem?_cons_zero, List.getElem?_cons_succ]; rfl)); (case bt8 => exact fun _ _ _ h => h); (case ct8 => kernel_rfl); (case dt8 => (intro W hW; clear hW; go_simp; (try with_reducible rfl))); (case' rt8 => simp only [Act.put, List.setIfInBounds_toArray, List.set_cons_zero, List.set_cons_succ]))
      (refine held_take (i := 8) (oi := ?ot9) (v := ?vt9) ?at9 (by kernel_rfl) (by kernel_rfl) (by kernel_rfl) ?bt9 ?ct9 ?dt9 (by assumption) ?rt9; (case at9 => (simp only [List.getElem?_toArray, List.getElem?_cons_zero, List.getElem?_cons_succ]; rfl)); (case bt9 => exact fun _ _ _ h => h); (case ct9 => kernel_rfl); (case dt9 => (intro W hW; (try dsimp only at hW); go_split_ands; go_simp; (try with_reducible rfl))); (case' rt9 => simp only [Act.put, List.setIfInBounds_toArray, List.set_cons_zero, List.set_cons_succ]))
      (refine held_skip (i := 9) (oi := ?ot10) ?at10 (by kernel_rfl) (by kernel_rfl) (by kernel_rfl) ?bt10 ?ct10 (by assumption) ?rt10; (case at10 => (simp only [List.getElem?_toArray, List.getElem?_cons_zero, List.getElem?_cons_succ]; rfl)); (case bt10 => exact fun _ _ _ h => h); (case ct10 => kernel_rfl); (case' rt10 => simp only [Act.put, List.setIfInBounds_toArray, List.set_cons_zero, List.set_cons_succ]))
      (refine held_take (i := 10) (oi := ?ot11) (v := ?vt11) ?at11 (by kernel_rfl) (by kernel_rfl) (by kernel_rfl) ?bt11 ?ct11 ?dt11 (by assumption) ?rt11; (case at11 => (simp only [List.getElem?_toArray, List.getElem?_cons_zero, List.getElem?_cons_succ]; rfl)); (case bt11 => exact fun _ _ _ h => h); (case ct11 => kernel_rfl); (case dt11 => (intro W hW; (try dsimp only at hW); go_split_ands; go_simp; (try with_reducible rfl))); (case' rt11 => simp only [Act.put, List.setIfInBounds_toArray, List.set_cons_zero, List.set_cons_succ]))
      (refine held_take (i := 11) (oi := ?ot12) (v := ?vt12) ?at12 (by kernel_rfl) (by kernel_rfl) (by kernel_rfl) ?bt12 ?ct12 ?dt12 (by assumption) ?rt12; (case at12 => (simp only [List.getElem?_toArray, List.getElem?_cons_zero, List.getElem?_cons_succ]; rfl)); (case bt12 => exact fun _ _ _ h => h); (case ct12 => kernel_rfl); (case dt12 => (intro W hW; (try dsimp only at hW); go_split_ands; go_simp; (try with_reducible rfl))); (case' rt12 => simp only [Act.put, List.setIfInBounds_toArray, List.set_cons_zero, List.set_cons_succ]))
      (refine held_skip (i := 12) (oi := ?ot13) ?at13 (by kernel_rfl) (by kernel_rfl) (by kernel_rfl) ?bt13 ?ct13 (by assumption) ?rt13; (case at13 => (simp only [List.getElem?_toArray, List.getElem?_cons_zero, List.getElem?_cons_succ]; rfl)); (case bt13 => exact fun _ _ _ h => h); (case ct13 => kernel_rfl); (case' rt13 => simp only [Act.put, List.setIfInBounds_toArray, List.set_cons_zero, List.set_cons_succ]))
      (refine held_take (i := 13) (oi := ?ot14) (v := ?vt14) ?at14 (by kernel_rfl) (by kernel_rfl) (by kernel_rfl) ?bt14 ?ct14 ?dt14 (by assumption) ?rt14; (case at14 => (simp only [List.getElem?_toArray, List.getElem?_cons_zero, List.getElem?_cons_succ]; rfl)); (case bt14 => exact fun _ _ _ h => h); (case ct14 => kernel_rfl); (case dt14 => (intro W hW; (try dsimp only at hW); go_split_ands; go_simp; (try with_reducible rfl))); (case' rt14 => simp only [Act.put, List.setIfInBounds_toArray, List.set_cons_zero, List.set_cons_succ]))
      (refine held_take (i := 14) (oi := ?ot15) (v := ?vt15) ?at15 (by kernel_rfl) (by kernel_rfl) (by kernel_rfl) ?bt15 ?ct15 ?dt15 (by assumption) ?rt15; (case at15 => (simp only [List.getElem?_toArray, List.getElem?_cons_zero, List.getElem?_cons_succ]; rfl)); (case bt15 => exact fun _ _ _ h => h); (case ct15 => kernel_rfl); (case dt15 => (intro W hW; (try dsimp only at hW); go_split_ands; go_simp; (try with_reducible rfl))); (case' rt15 => simp only [Act.put, List.setIfInBounds_toArray, List.set_cons_zero, List.set_cons_succ]))
      refine wpAnyH_done (by kernel_rfl) ?_ _
      have HY := Lib.hid (hS5.1)
      clear hS5
      go_wp2_with fail
      go_ret
      exact ⟨rfl, HB0.out.trans (HY.out.mono HB0.out.size)⟩
    · go_enter Try.func24, Try.ntmps24
      go_upto_region 1 with fail
      rw [← HV.out, ← HR.out]
      clear HV HR
      go_upto_region 3 with fail
      refine wp_region_held_drew (S := fun Y => Below V1.heap.size V1 Y ∧ Y.cell? ⟨r, 1, none⟩ = some (.int .u64 (pa : Int)) ∧ Y.cell? ⟨r, 5, none⟩ = some (.int .i64 L)) (by kernel_rfl) ⟨below_drewN (Below.refl _ _) 1, c1, c5⟩ (fun hS => ?_)
      (refine held_take (i := 0) (oi := ?ot16) (v := ?vt16) ?at16 (by kernel_rfl) (by kernel_rfl) (by kernel_rfl) ?bt16 ?ct16 ?dt16 (by assumption) ?rt16; (case at16 => (simp only [List.getElem?_toArray, List.getElem?_cons_zero]; rfl)); (case bt16 => exact fun _ _ _ h => h); (case ct16 => kernel_rfl); (case dt16 => (intro W hW; (try dsimp only at hW); go_split_ands; go_simp; (try with_reducible rfl))); (case' rt16 => simp only [Act.put, List.setIfInBounds_toArray, List.set_cons_zero, List.set_cons_succ]))
      (refine held_take (i := 1) (oi := ?ot17) (v := ?vt17) ?at17 (by kernel_rfl) (by kernel_rfl) (by kernel_rfl) ?bt17 ?ct17 ?dt17 (by assumption) ?rt17; (case at17 => (simp only [List.getElem?_toArray, List.getElem?_cons_zero, List.getElem?_cons_succ]; rfl)); (case bt17 => exact fun _ _ _ h => h); (case ct17 => kernel_rfl); (case dt17 => (intro W hW; (try dsimp only at hW); go_split_ands; go_simp; (try with_reducible rfl))); (case' rt17 => simp only [Act.put, List.setIfInBounds_toArray, List.set_cons_zero, List.set_cons_succ]))
      (refine held_take (i := 2) (oi := ?ot18) (v := ?vt18) ?at18 (by kernel_rfl) (by kernel_rfl) (by kernel_rfl) ?bt18 ?ct18 ?dt18 (by assumption) ?rt18; (case at18 => (simp only [List.getElem?_toArray, List.getElem?_cons_zero, List.getElem?_cons_succ]; rfl)); (case bt18 => exact fun _ _ _ h => h); (case ct18 => kernel_rfl); (case dt18 => (intro W hW; (try dsimp only at hW); go_split_ands; go_simp; (try with_reducible rfl))); (case' rt18 => simp only [Act.put, List.setIfInBounds_toArray, List.set_cons_zero, List.set_cons_succ]))
      (refine held_take (i := 3) (oi := ?ot19) (v := ?vt19) ?at19 (by kernel_rfl) (by kernel_rfl) (by kernel_rfl) ?bt19 ?ct19 ?dt19 (by assumption) ?rt19; (case at19 => (simp only [List.getElem?_toArray, List.getElem?_cons_zero, List.getElem?_cons_succ]; rfl)); (case bt19 => exact fun _ _ _ h => h); (case ct19 => kernel_rfl); (case dt19 => (intro W hW; (try dsimp only at hW); go_split_ands; go_simp; (try with_reducible rfl))); (case' rt19 => simp only [Act.put, List.setIfInBounds_toArray, List.set_cons_zero, List.set_cons_succ]))
      (refine held_take (i := 4) (oi := ?ot20) (v := ?vt20) ?at20 (by kernel_rfl) (by kernel_rfl) (by kernel_rfl) ?bt20 ?ct20 ?dt20 (by assumption) ?rt20; (case at20 => (simp only [List.getElem?_toArray, List.getElem?_cons_zero, List.getElem?_cons_succ]; rfl)); (case bt20 => exact fun _ _ _ h => h); (case ct20 => kernel_rfl); (case dt20 => (intro W hW; (try dsimp only at hW); go_split_ands; go_simp; (try with_reducible rfl))); (case' rt20 => simp only [Act.put, List.setIfInBounds_toArray, List.set_cons_zero, List.set_cons_succ]))
      refine held_one (i := 5) (oi := ?ot21) (by kernel_rfl) ?at21 ?ct21 (fun K5 hK5 => ?_)
      (case at21 => (simp only [List.getElem?_toArray, List.getElem?_cons_zero, List.getElem?_cons_succ]; rfl))
      (case ct21 => kernel_rfl)
      go_simp
      refine (HS.out _).mono ?_
      rintro e y5 ⟨rfl, rfl⟩
      refine hK5 _ _ hS (fun hS5 => ?_)
      clear hS hK5 K5
      (refine held_take (i := 6) (oi := ?ot22) (v := .int .u64 (rr : Int)) ?at22 (by kernel_rfl) (by kernel_rfl) (by kernel_rfl) ?bt22 ?ct22 ?dt22 (by assumption) ?rt22; (case at22 => (simp only [List.getElem?_toArray, List.getElem?_cons_zero, List.getElem?_cons_succ]; rfl)); (case bt22 => exact fun _ _ _ h => h); (case ct22 => kernel_rfl); (case dt22 => (intro W hW; clear hW; go_simp; (try with_reducible rfl))); (case' rt22 => simp only [Act.put, List.setIfInBounds_toArray, List.set_cons_zero, List.set_cons_succ]))
      (refine held_take (i := 7) (oi := ?ot23) (v := .bool false) ?at23 (by kernel_rfl) (by kernel_rfl) (by kernel_rfl) ?bt23 ?ct23 ?dt23 (by assumption) ?rt23; (case at23 => (simp only [List.getElem?_toArray, List.getElem?_cons_zero, List.getElem?_cons_succ]; rfl)); (case bt23 => exact fun _ _ _ h => h); (case ct23 => kernel_rfl); (case dt23 => (intro W hW; clear hW; go_simp; (try with_reducible rfl))); (case' rt23 => simp only [Act.put, List.setIfInBounds_toArray, List.set_cons_zero, List.set_cons_succ]))
      (refine held_take (i := 8) (oi := ?ot24) (v := ?vt24) ?at24 (by kernel_rfl) (by kernel_rfl) (by kernel_rfl) ?bt24 ?ct24 ?dt24 (by assumption) ?rt24; (case at24 => (simp only [List.getElem?_toArray, List.getElem?_cons_zero, List.getElem?_cons_succ]; rfl)); (case bt24 => exact fun _ _ _ h => h); (case ct24 => kernel_rfl); (case dt24 => (intro W hW; (try dsimp only at hW); go_split_ands; go_simp; (try with_reducible rfl))); (case' rt24 => simp only [Act.put, List.setIfInBounds_toArray, List.set_cons_zero, List.set_cons_succ]))
      (refine held_skip (i := 9) (oi := ?ot25) ?at25 (by kernel_rfl) (by kernel_rfl) (by kernel_rfl) ?bt25 ?ct25 (by assumption) ?rt25; (case at25 => (simp only [List.getElem?_toArray, List.getElem?_cons_zero, List.getElem?_cons_succ]; rfl)); (case bt25 => exact fun _ _ _ h => h); (case ct25 => kernel_rfl); (case' rt25 => simp only [Act.put, List.setIfInBounds_toArray, List.set_cons_zero, List.set_cons_succ]))
      (refine held_take (i := 10) (oi := ?ot26) (v := ?vt26) ?at26 (by kernel_rfl) (by kernel_rfl) (by kernel_rfl) ?bt26 ?ct26 ?dt26 (by assumption) ?rt26; (case at26 => (simp only [List.getElem?_toArray, List.getElem?_cons_zero, List.getElem?_cons_succ]; rfl)); (case bt26 => exact fun _ _ _ h => h); (case ct26 => kernel_rfl); (case dt26 => (intro W hW; (try dsimp only at hW); go_split_ands; go_simp; (try with_reducible rfl))); (case' rt26 => simp only [Act.put, List.setIfInBounds_toArray, List.set_cons_zero, List.set_cons_succ]))
      (refine held_take (i := 11) (oi := ?ot27) (v := ?vt27) ?at27 (by kernel_rfl) (by kernel_rfl) (by kernel_rfl) ?bt27 ?ct27 ?dt27 (by assumption) ?rt27; (case at27 => (simp only [List.getElem?_toArray, List.getElem?_cons_zero, List.getElem?_cons_succ]; rfl)); (case bt27 => exact fun _ _ _ h => h); (case ct27 => kernel_rfl); (case dt27 => (intro W hW; (try dsimp only at hW); go_split_ands; go_simp; (try with_reducible rfl))); (case' rt27 => simp only [Act.put, List.setIfInBounds_toArray, List.set_cons_zero, List.set_cons_succ]))
      (refine held_skip (i := 12) (oi := ?ot28) ?at28 (by kernel_rfl) (by kernel_rfl) (by kernel_rfl) ?bt28 ?ct28 (by assumption) ?rt28; (case at28 => (simp only [List.getElem?_toArray, List.getElem?_cons_zero, List.getElem?_cons_succ]; rfl)); (case bt28 => exact fun _ _ _ h => h); (case ct28 => kernel_rfl); (case' rt28 => simp only [Act.put, List.setIfInBounds_toArray, List.set_cons_zero, List.set_cons_succ]))
      (refine held_take (i := 13) (oi := ?ot29) (v := ?vt29) ?at29 (by kernel_rfl) (by kernel_rfl) (by kernel_rfl) ?bt29 ?ct29 ?dt29 (by assumption) ?rt29; (case at29 => (simp only [List.getElem?_toArray, List.getElem?_cons_zero, List.getElem?_cons_succ]; rfl)); (case bt29 => exact fun _ _ _ h => h); (case ct29 => kernel_rfl); (case dt29 => (intro W hW; (try dsimp only at hW); go_split_ands; go_simp; (try with_reducible rfl))); (case' rt29 => simp only [Act.put, List.setIfInBounds_toArray, List.set_cons_zero, List.set_cons_succ]))
      (refine held_take (i := 14) (oi := ?ot30) (v := ?vt30) ?at30 (by kernel_rfl) (by kernel_rfl) (by kernel_rfl) ?bt30 ?ct30 ?dt30 (by assumption) ?rt30; (case at30 => (simp only [List.getElem?_toArray, List.getElem?_cons_zero, List.getElem?_cons_succ]; rfl)); (case bt30 => exact fun _ _ _ h => h); (case ct30 => kernel_rfl); (case dt30 => (intro W hW; (try dsimp only at hW); go_split_ands; go_simp; (try with_reducible rfl))); (case' rt30 => simp only [Act.put, List.setIfInBounds_toArray, List.set_cons_zero, List.set_cons_succ]))
      refine wpAnyH_done (by kernel_rfl) ?_ _
      have HY := Lib.hid (hS5.1)
      clear hS5
      go_wp2_with fail
      go_ret
      exact ⟨rfl, HB0.out.trans (HY.out.mono HB0.out.size)⟩
  · rcases p7 with _ | _ <;> rcases m0 with _ | _
    · go_enter Try.func24, Try.ntmps24
      go_upto_region 1 with fail
      rw [← HV.out, ← HR.out]
      clear HV HR
      go_upto_region 3 with fail
      refine wp_region_held_drew (S := fun Y => Below V1.heap.size V1 Y ∧ Y.cell? ⟨r, 1, none⟩ = some (.int .u64 (pa : Int)) ∧ Y.cell? ⟨r, 5, none⟩ = some (.int .i64 L)) (by kernel_rfl) ⟨below_drewN (Below.refl _ _) 1, c1, c5⟩ (fun hS => ?_)
      (refine held_take (i := 0) (oi := ?ot31) (v := ?vt31) ?at31 (by kernel_rfl) (by kernel_rfl) (by kernel_rfl) ?bt31 ?ct31 ?dt31 (by assumption) ?rt31; (case at31 => (simp only [List.getElem?_toArray, List.getElem?_cons_zero]; rfl)); (case bt31 => exact fun _ _ _ h => h); (case ct31 => kernel_rfl); (case dt31 => (intro W hW; (try dsimp only at hW); go_split_ands; go_simp; (try with_reducible rfl))); (case' rt31 => simp only [Act.put, List.setIfInBounds_toArray, List.set_cons_zero, List.set_cons_succ]))
      (refine held_take (i := 1) (oi := ?ot32) (v := ?vt32) ?at32 (by kernel_rfl) (by kernel_rfl) (by kernel_rfl) ?bt32 ?ct32 ?dt32 (by assumption) ?rt32; (case at32 => (simp only [List.getElem?_toArray, List.getElem?_cons_zero, List.getElem?_cons_succ]; rfl)); (case bt32 => exact fun _ _ _ h => h); (case ct32 => kernel_rfl); (case dt32 => (intro W hW; (try dsimp only at hW); go_split_ands; go_simp; (try with_reducible rfl))); (case' rt32 => simp only [Act.put, List.setIfInBounds_toArray, List.set_cons_zero, List.set_cons_succ]))
      (refine held_take (i := 2) (oi := ?ot33) (v := ?vt33) ?at33 (by kernel_rfl) (by kernel_rfl) (by kernel_rfl) ?bt33 ?ct33 ?dt33 (by assumption) ?rt33; (case at33 => (simp only [List.getElem?_toArray, List.getElem?_cons_zero, List.getElem?_cons_succ]; rfl)); (case bt33 => exact fun _ _ _ h => h); (case ct33 => kernel_rfl); (case dt33 => (intro W hW; (try dsimp only at hW); go_split_ands; go_simp; (try with_reducible rfl))); (case' rt33 => simp only [Act.put, List.setIfInBounds_toArray, List.set_cons_zero, List.set_cons_succ]))
      (refine held_take (i := 3) (oi := ?ot34) (v := ?vt34) ?at34 (by kernel_rfl) (by kernel_rfl) (by kernel_rfl) ?bt34 ?ct34 ?dt34 (by assumption) ?rt34; (case at34 => (simp only [List.getElem?_toArray, List.getElem?_cons_zero, List.getElem?_cons_succ]; rfl)); (case bt34 => exact fun _ _ _ h => h); (case ct34 => kernel_rfl); (case dt34 => (intro W hW; (try dsimp only at hW); go_split_ands; go_simp; (try with_reducible rfl))); (case' rt34 => simp only [Act.put, List.setIfInBounds_toArray, List.set_cons_zero, List.set_cons_succ]))
      (refine held_take (i := 4) (oi := ?ot35) (v := ?vt35) ?at35 (by kernel_rfl) (by kernel_rfl) (by kernel_rfl) ?bt35 ?ct35 ?dt35 (by assumption) ?rt35; (case at35 => (simp only [List.getElem?_toArray, List.getElem?_cons_zero, List.getElem?_cons_succ]; rfl)); (case bt35 => exact fun _ _ _ h => h); (case ct35 => kernel_rfl); (case dt35 => (intro W hW; (try dsimp only at hW); go_split_ands; go_simp; (try with_reducible rfl))); (case' rt35 => simp only [Act.put, List.setIfInBounds_toArray, List.set_cons_zero, List.set_cons_succ]))
      refine held_one (i := 5) (oi := ?ot36) (by kernel_rfl) ?at36 ?ct36 (fun K5 hK5 => ?_)
      (case at36 => (simp only [List.getElem?_toArray, List.getElem?_cons_zero, List.getElem?_cons_succ]; rfl))
      (case ct36 => kernel_rfl)
      go_simp
      refine (HS.out _).mono ?_
      rintro e y5 ⟨rfl, rfl⟩
      refine hK5 _ _ hS (fun hS5 => ?_)
      clear hS hK5 K5
      (refine held_take (i := 6) (oi := ?ot37) (v := .int .u64 (rr : Int)) ?at37 (by kernel_rfl) (by kernel_rfl) (by kernel_rfl) ?bt37 ?ct37 ?dt37 (by assumption) ?rt37; (case at37 => (simp only [List.getElem?_toArray, List.getElem?_cons_zero, List.getElem?_cons_succ]; rfl)); (case bt37 => exact fun _ _ _ h => h); (case ct37 => kernel_rfl); (case dt37 => (intro W hW; clear hW; go_simp; (try with_reducible rfl))); (case' rt37 => simp only [Act.put, List.setIfInBounds_toArray, List.set_cons_zero, List.set_cons_succ]))
      (refine held_take (i := 7) (oi := ?ot38) (v := .bool false) ?at38 (by kernel_rfl) (by kernel_rfl) (by kernel_rfl) ?bt38 ?ct38 ?dt38 (by assumption) ?rt38; (case at38 => (simp only [List.getElem?_toArray, List.getElem?_cons_zero, List.getElem?_cons_succ]; rfl)); (case bt38 => exact fun _ _ _ h => h); (case ct38 => kernel_rfl); (case dt38 => (intro W hW; clear hW; go_simp; (try with_reducible rfl))); (case' rt38 => simp only [Act.put, List.setIfInBounds_toArray, List.set_cons_zero, List.set_cons_succ]))
      (refine held_take (i := 8) (oi := ?ot39) (v := ?vt39) ?at39 (by kernel_rfl) (by kernel_rfl) (by kernel_rfl) ?bt39 ?ct39 ?dt39 (by assumption) ?rt39; (case at39 => (simp only [List.getElem?_toArray, List.getElem?_cons_zero, List.getElem?_cons_succ]; rfl)); (case bt39 => exact fun _ _ _ h => h); (case ct39 => kernel_rfl); (case dt39 => (intro W hW; (try dsimp only at hW); go_split_ands; go_simp; (try with_reducible rfl))); (case' rt39 => simp only [Act.put, List.setIfInBounds_toArray, List.set_cons_zero, List.set_cons_succ]))
      (refine held_skip (i := 9) (oi := ?ot40) ?at40 (by kernel_rfl) (by kernel_rfl) (by kernel_rfl) ?bt40 ?ct40 (by assumption) ?rt40; (case at40 => (simp only [List.getElem?_toArray, List.getElem?_cons_zero, List.getElem?_cons_succ]; rfl)); (case bt40 => exact fun _ _ _ h => h); (case ct40 => kernel_rfl); (case' rt40 => simp only [Act.put, List.setIfInBounds_toArray, List.set_cons_zero, List.set_cons_succ]))
      (refine held_take (i := 10) (oi := ?ot41) (v := ?vt41) ?at41 (by kernel_rfl) (by kernel_rfl) (by kernel_rfl) ?bt41 ?ct41 ?dt41 (by assumption) ?rt41; (case at41 => (simp only [List.getElem?_toArray, List.getElem?_cons_zero, List.getElem?_cons_succ]; rfl)); (case bt41 => exact fun _ _ _ h => h); (case ct41 => kernel_rfl); (case dt41 => (intro W hW; (try dsimp only at hW); go_split_ands; go_simp; (try with_reducible rfl))); (case' rt41 => simp only [Act.put, List.setIfInBounds_toArray, List.set_cons_zero, List.set_cons_succ]))
      (refine held_take (i := 11) (oi := ?ot42) (v := ?vt42) ?at42 (by kernel_rfl) (by kernel_rfl) (by kernel_rfl) ?bt42 ?ct42 ?dt42 (by assumption) ?rt42; (case at42 => (simp only [List.getElem?_toArray, List.getElem?_cons_zero, List.getElem?_cons_succ]; rfl)); (case bt42 => exact fun _ _ _ h => h); (case ct42 => kernel_rfl); (case dt42 => (intro W hW; (try dsimp only at hW); go_split_ands; go_simp; (try with_reducible rfl))); (case' rt42 => simp only [Act.put, List.setIfInBounds_toArray, List.set_cons_zero, List.set_cons_succ]))
      (refine held_skip (i := 12) (oi := ?ot43) ?at43 (by kernel_rfl) (by kernel_rfl) (by kernel_rfl) ?bt43 ?ct43 (by assumption) ?rt43; (case at43 => (simp only [List.getElem?_toArray, List.getElem?_cons_zero, List.getElem?_cons_succ]; rfl)); (case bt43 => exact fun _ _ _ h => h); (case ct43 => kernel_rfl); (case' rt43 => simp only [Act.put, List.setIfInBounds_toArray, List.set_cons_zero, List.set_cons_succ]))
      (refine held_take (i := 13) (oi := ?ot44) (v := ?vt44) ?at44 (by kernel_rfl) (by kernel_rfl) (by kernel_rfl) ?bt44 ?ct44 ?dt44 (by assumption) ?rt44; (case at44 => (simp only [List.getElem?_toArray, List.getElem?_cons_zero, List.getElem?_cons_succ]; rfl)); (case bt44 => exact fun _ _ _ h => h); (case ct44 => kernel_rfl); (case dt44 => (intro W hW; (try dsimp only at hW); go_split_ands; go_simp; (try with_reducible rfl))); (case' rt44 => simp only [Act.put, List.setIfInBounds_toArray, List.set_cons_zero, List.set_cons_succ]))
      (refine held_take (i := 14) (oi := ?ot45) (v := ?vt45) ?at45 (by kernel_rfl) (by kernel_rfl) (by kernel_rfl) ?bt45 ?ct45 ?dt45 (by assumption) ?rt45; (case at45 => (simp only [List.getElem?_toArray, List.getElem?_cons_zero, List.getElem?_cons_succ]; rfl)); (case bt45 => exact fun _ _ _ h => h); (case ct45 => kernel_rfl); (case dt45 => (intro W hW; (try dsimp only at hW); go_split_ands; go_simp; (try with_reducible rfl))); (case' rt45 => simp only [Act.put, List.setIfInBounds_toArray, List.set_cons_zero, List.set_cons_succ]))
      refine wpAnyH_done (by kernel_rfl) ?_ _
      have HY := Lib.hid (hS5.1)
      clear hS5
      go_wp2_with fail
      go_ret
      exact ⟨rfl, HB0.out.trans (HY.out.mono HB0.out.size)⟩
    · go_enter Try.func24, Try.ntmps24
      go_upto_region 1 with fail
      rw [← HV.out, ← HR.out]
      clear HV HR
      go_upto_region 3 with fail
      refine wp_region_held_drew (S := fun Y => Below V1.heap.size V1 Y ∧ Y.cell? ⟨r, 1, none⟩ = some (.int .u64 (pa : Int)) ∧ Y.cell? ⟨r, 5, none⟩ = some (.int .i64 L)) (by kernel_rfl) ⟨below_drewN (Below.refl _ _) 1, c1, c5⟩ (fun hS => ?_)
      (refine held_take (i := 0) (oi := ?ot46) (v := ?vt46) ?at46 (by kernel_rfl) (by kernel_rfl) (by kernel_rfl) ?bt46 ?ct46 ?dt46 (by assumption) ?rt46; (case at46 => (simp only [List.getElem?_toArray, List.getElem?_cons_zero]; rfl)); (case bt46 => exact fun _ _ _ h => h); (case ct46 => kernel_rfl); (case dt46 => (intro W hW; (try dsimp only at hW); go_split_ands; go_simp; (try with_reducible rfl))); (case' rt46 => simp only [Act.put, List.setIfInBounds_toArray, List.set_cons_zero, List.set_cons_succ]))
      (refine held_take (i := 1) (oi := ?ot47) (v := ?vt47) ?at47 (by kernel_rfl) (by kernel_rfl) (by kernel_rfl) ?bt47 ?ct47 ?dt47 (by assumption) ?rt47; (case at47 => (simp only [List.getElem?_toArray, List.getElem?_cons_zero, List.getElem?_cons_succ]; rfl)); (case bt47 => exact fun _ _ _ h => h); (case ct47 => kernel_rfl); (case dt47 => (intro W hW; (try dsimp only at hW); go_split_ands; go_simp; (try with_reducible rfl))); (case' rt47 => simp only [Act.put, List.setIfInBounds_toArray, List.set_cons_zero, List.set_cons_succ]))
      (refine held_take (i := 2) (oi := ?ot48) (v := ?vt48) ?at48 (by kernel_rfl) (by kernel_rfl) (by kernel_rfl) ?bt48 ?ct48 ?dt48 (by assumption) ?rt48; (case at48 => (simp only [List.getElem?_toArray, List.getElem?_cons_zero, List.getElem?_cons_succ]; rfl)); (case bt48 => exact fun _ _ _ h => h); (case ct48 => kernel_rfl); (case dt48 => (intro W hW; (try dsimp only at hW); go_split_ands; go_simp; (try with_reducible rfl))); (case' rt48 => simp only [Act.put, List.setIfInBounds_toArray, List.set_cons_zero, List.set_cons_succ]))
      (refine held_take (i := 3) (oi := ?ot49) (v := ?vt49) ?at49 (by kernel_rfl) (by kernel_rfl) (by kernel_rfl) ?bt49 ?ct49 ?dt49 (by assumption) ?rt49; (case at49 => (simp only [List.getElem?_toArray, List.getElem?_cons_zero, List.getElem?_cons_succ]; rfl)); (case bt49 => exact fun _ _ _ h => h); (case ct49 => kernel_rfl); (case dt49 => (intro W hW; (try dsimp only at hW); go_split_ands; go_simp; (try with_reducible rfl))); (case' rt49 => simp only [Act.put, List.setIfInBounds_toArray, List.set_cons_zero, List.set_cons_succ]))
      (refine held_take (i := 4) (oi := ?ot50) (v := ?vt50) ?at50 (by kernel_rfl) (by kernel_rfl) (by kernel_rfl) ?bt50 ?ct50 ?dt50 (by assumption) ?rt50; (case at50 => (simp only [List.getElem?_toArray, List.getElem?_cons_zero, List.getElem?_cons_succ]; rfl)); (case bt50 => exact fun _ _ _ h => h); (case ct50 => kernel_rfl); (case dt50 => (intro W hW; (try dsimp only at hW); go_split_ands; go_simp; (try with_reducible rfl))); (case' rt50 => simp only [Act.put, List.setIfInBounds_toArray, List.set_cons_zero, List.set_cons_succ]))
      refine held_one (i := 5) (oi := ?ot51) (by kernel_rfl) ?at51 ?ct51 (fun K5 hK5 => ?_)
      (case at51 => (simp only [List.getElem?_toArray, List.getElem?_cons_zero, List.getElem?_cons_succ]; rfl))
      (case ct51 => kernel_rfl)
      go_simp
      refine (HS.out _).mono ?_
      rintro e y5 ⟨rfl, rfl⟩
      refine hK5 _ _ hS (fun hS5 => ?_)
      clear hS hK5 K5
      (refine held_take (i := 6) (oi := ?ot52) (v := .int .u64 (rr : Int)) ?at52 (by kernel_rfl) (by kernel_rfl) (by kernel_rfl) ?bt52 ?ct52 ?dt52 (by assumption) ?rt52; (case at52 => (simp only [List.getElem?_toArray, List.getElem?_cons_zero, List.getElem?_cons_succ]; rfl)); (case bt52 => exact fun _ _ _ h => h); (case ct52 => kernel_rfl); (case dt52 => (intro W hW; clear hW; go_simp; (try with_reducible rfl))); (case' rt52 => simp only [Act.put, List.setIfInBounds_toArray, List.set_cons_zero, List.set_cons_succ]))
      (refine held_take (i := 7) (oi := ?ot53) (v := .bool false) ?at53 (by kernel_rfl) (by kernel_rfl) (by kernel_rfl) ?bt53 ?ct53 ?dt53 (by assumption) ?rt53; (case at53 => (simp only [List.getElem?_toArray, List.getElem?_cons_zero, List.getElem?_cons_succ]; rfl)); (case bt53 => exact fun _ _ _ h => h); (case ct53 => kernel_rfl); (case dt53 => (intro W hW; clear hW; go_simp; (try with_reducible rfl))); (case' rt53 => simp only [Act.put, List.setIfInBounds_toArray, List.set_cons_zero, List.set_cons_succ]))
      (refine held_take (i := 8) (oi := ?ot54) (v := ?vt54) ?at54 (by kernel_rfl) (by kernel_rfl) (by kernel_rfl) ?bt54 ?ct54 ?dt54 (by assumption) ?rt54; (case at54 => (simp only [List.getElem?_toArray, List.getElem?_cons_zero, List.getElem?_cons_succ]; rfl)); (case bt54 => exact fun _ _ _ h => h); (case ct54 => kernel_rfl); (case dt54 => (intro W hW; (try dsimp only at hW); go_split_ands; go_simp; (try with_reducible rfl))); (case' rt54 => simp only [Act.put, List.setIfInBounds_toArray, List.set_cons_zero, List.set_cons_succ]))
      (refine held_skip (i := 9) (oi := ?ot55) ?at55 (by kernel_rfl) (by kernel_rfl) (by kernel_rfl) ?bt55 ?ct55 (by assumption) ?rt55; (case at55 => (simp only [List.getElem?_toArray, List.getElem?_cons_zero, List.getElem?_cons_succ]; rfl)); (case bt55 => exact fun _ _ _ h => h); (case ct55 => kernel_rfl); (case' rt55 => simp only [Act.put, List.setIfInBounds_toArray, List.set_cons_zero, List.set_cons_succ]))
      (refine held_take (i := 10) (oi := ?ot56) (v := ?vt56) ?at56 (by kernel_rfl) (by kernel_rfl) (by kernel_rfl) ?bt56 ?ct56 ?dt56 (by assumption) ?rt56; (case at56 => (simp only [List.getElem?_toArray, List.getElem?_cons_zero, List.getElem?_cons_succ]; rfl)); (case bt56 => exact fun _ _ _ h => h); (case ct56 => kernel_rfl); (case dt56 => (intro W hW; (try dsimp only at hW); go_split_ands; go_simp; (try with_reducible rfl))); (case' rt56 => simp only [Act.put, List.setIfInBounds_toArray, List.set_cons_zero, List.set_cons_succ]))
      (refine held_take (i := 11) (oi := ?ot57) (v := ?vt57) ?at57 (by kernel_rfl) (by kernel_rfl) (by kernel_rfl) ?bt57 ?ct57 ?dt57 (by assumption) ?rt57; (case at57 => (simp only [List.getElem?_toArray, List.getElem?_cons_zero, List.getElem?_cons_succ]; rfl)); (case bt57 => exact fun _ _ _ h => h); (case ct57 => kernel_rfl); (case dt57 => (intro W hW; (try dsimp only at hW); go_split_ands; go_simp; (try with_reducible rfl))); (case' rt57 => simp only [Act.put, List.setIfInBounds_toArray, List.set_cons_zero, List.set_cons_succ]))
      (refine held_skip (i := 12) (oi := ?ot58) ?at58 (by kernel_rfl) (by kernel_rfl) (by kernel_rfl) ?bt58 ?ct58 (by assumption) ?rt58; (case at58 => (simp only [List.getElem?_toArray, List.getElem?_cons_zero, List.getElem?_cons_succ]; rfl)); (case bt58 => exact fun _ _ _ h => h); (case ct58 => kernel_rfl); (case' rt58 => simp only [Act.put, List.setIfInBounds_toArray, List.set_cons_zero, List.set_cons_succ]))
      (refine held_take (i := 13) (oi := ?ot59) (v := ?vt59) ?at59 (by kernel_rfl) (by kernel_rfl) (by kernel_rfl) ?bt59 ?ct59 ?dt59 (by assumption) ?rt59; (case at59 => (simp only [List.getElem?_toArray, List.getElem?_cons_zero, List.getElem?_cons_succ]; rfl)); (case bt59 => exact fun _ _ _ h => h); (case ct59 => kernel_rfl); (case dt59 => (intro W hW; (try dsimp only at hW); go_split_ands; go_simp; (try with_reducible rfl))); (case' rt59 => simp only [Act.put, List.setIfInBounds_toArray, List.set_cons_zero, List.set_cons_succ]))
      (refine held_take (i := 14) (oi := ?ot60) (v := ?vt60) ?at60 (by kernel_rfl) (by kernel_rfl) (by kernel_rfl) ?bt60 ?ct60 ?dt60 (by assumption) ?rt60; (case at60 => (simp only [List.getElem?_toArray, List.getElem?_cons_zero, List.getElem?_cons_succ]; rfl)); (case bt60 => exact fun _ _ _ h => h); (case ct60 => kernel_rfl); (case dt60 => (intro W hW; (try dsimp only at hW); go_split_ands; go_simp; (try with_reducible rfl))); (case' rt60 => simp only [Act.put, List.setIfInBounds_toArray, List.set_cons_zero, List.set_cons_succ]))
      refine wpAnyH_done (by kernel_rfl) ?_ _
      have HY := Lib.hid (hS5.1)
      clear hS5
      go_wp2_with fail
      go_ret
      exact ⟨rfl, HB0.out.trans (HY.out.mono HB0.out.size)⟩
    · go_enter Try.func24, Try.ntmps24
      go_upto_region 1 with fail
      rw [← HV.out, ← HR.out]
      clear HV HR
      go_upto_region 3 with fail
      refine wp_region_held_drew (S := fun Y => Below V1.heap.size V1 Y ∧ Y.cell? ⟨r, 1, none⟩ = some (.int .u64 (pa : Int)) ∧ Y.cell? ⟨r, 5, none⟩ = some (.int .i64 L)) (by kernel_rfl) ⟨below_drewN (Below.refl _ _) 1, c1, c5⟩ (fun hS => ?_)
      (refine held_take (i := 0) (oi := ?ot61) (v := ?vt61) ?at61 (by kernel_rfl) (by kernel_rfl) (by kernel_rfl) ?bt61 ?ct61 ?dt61 (by assumption) ?rt61; (case at61 => (simp only [List.getElem?_toArray, List.getElem?_cons_zero]; rfl)); (case bt61 => exact fun _ _ _ h => h); (case ct61 => kernel_rfl); (case dt61 => (intro W hW; (try dsimp only at hW); go_split_ands; go_simp; (try with_reducible rfl))); (case' rt61 => simp only [Act.put, List.setIfInBounds_toArray, List.set_cons_zero, List.set_cons_succ]))
      (refine held_take (i := 1) (oi := ?ot62) (v := ?vt62) ?at62 (by kernel_rfl) (by kernel_rfl) (by kernel_rfl) ?bt62 ?ct62 ?dt62 (by assumption) ?rt62; (case at62 => (simp only [List.getElem?_toArray, List.getElem?_cons_zero, List.getElem?_cons_succ]; rfl)); (case bt62 => exact fun _ _ _ h => h); (case ct62 => kernel_rfl); (case dt62 => (intro W hW; (try dsimp only at hW); go_split_ands; go_simp; (try with_reducible rfl))); (case' rt62 => simp only [Act.put, List.setIfInBounds_toArray, List.set_cons_zero, List.set_cons_succ]))
      (refine held_take (i := 2) (oi := ?ot63) (v := ?vt63) ?at63 (by kernel_rfl) (by kernel_rfl) (by kernel_rfl) ?bt63 ?ct63 ?dt63 (by assumption) ?rt63; (case at63 => (simp only [List.getElem?_toArray, List.getElem?_cons_zero, List.getElem?_cons_succ]; rfl)); (case bt63 => exact fun _ _ _ h => h); (case ct63 => kernel_rfl); (case dt63 => (intro W hW; (try dsimp only at hW); go_split_ands; go_simp; (try with_reducible rfl))); (case' rt63 => simp only [Act.put, List.setIfInBounds_toArray, List.set_cons_zero, List.set_cons_succ]))
      (refine held_take (i := 3) (oi := ?ot64) (v := ?vt64) ?at64 (by kernel_rfl) (by kernel_rfl) (by kernel_rfl) ?bt64 ?ct64 ?dt64 (by assumption) ?rt64; (case at64 => (simp only [List.getElem?_toArray, List.getElem?_cons_zero, List.getElem?_cons_succ]; rfl)); (case bt64 => exact fun _ _ _ h => h); (case ct64 => kernel_rfl); (case dt64 => (intro W hW; (try dsimp only at hW); go_split_ands; go_simp; (try with_reducible rfl))); (case' rt64 => simp only [Act.put, List.setIfInBounds_toArray, List.set_cons_zero, List.set_cons_succ]))
      (refine held_take (i := 4) (oi := ?ot65) (v := ?vt65) ?at65 (by kernel_rfl) (by kernel_rfl) (by kernel_rfl) ?bt65 ?ct65 ?dt65 (by assumption) ?rt65; (case at65 => (simp only [List.getElem?_toArray, List.getElem?_cons_zero, List.getElem?_cons_succ]; rfl)); (case bt65 => exact fun _ _ _ h => h); (case ct65 => kernel_rfl); (case dt65 => (intro W hW; (try dsimp only at hW); go_split_ands; go_simp; (try with_reducible rfl))); (case' rt65 => simp only [Act.put, List.setIfInBounds_toArray, List.set_cons_zero, List.set_cons_succ]))
      refine held_one (i := 5) (oi := ?ot66) (by kernel_rfl) ?at66 ?ct66 (fun K5 hK5 => ?_)
      (case at66 => (simp only [List.getElem?_toArray, List.getElem?_cons_zero, List.getElem?_cons_succ]; rfl))
      (case ct66 => kernel_rfl)
      go_simp
      refine (HS.out _).mono ?_
      rintro e y5 ⟨rfl, rfl⟩
      refine hK5 _ _ hS (fun hS5 => ?_)
      clear hS hK5 K5
      (refine held_take (i := 6) (oi := ?ot67) (v := .int .u64 (rr : Int)) ?at67 (by kernel_rfl) (by kernel_rfl) (by kernel_rfl) ?bt67 ?ct67 ?dt67 (by assumption) ?rt67; (case at67 => (simp only [List.getElem?_toArray, List.getElem?_cons_zero, List.getElem?_cons_succ]; rfl)); (case bt67 => exact fun _ _ _ h => h); (case ct67 => kernel_rfl); (case dt67 => (intro W hW; clear hW; go_simp; (try with_reducible rfl))); (case' rt67 => simp only [Act.put, List.setIfInBounds_toArray, List.set_cons_zero, List.set_cons_succ]))
      (refine held_take (i := 7) (oi := ?ot68) (v := .bool false) ?at68 (by kernel_rfl) (by kernel_rfl) (by kernel_rfl) ?bt68 ?ct68 ?dt68 (by assumption) ?rt68; (case at68 => (simp only [List.getElem?_toArray, List.getElem?_cons_zero, List.getElem?_cons_succ]; rfl)); (case bt68 => exact fun _ _ _ h => h); (case ct68 => kernel_rfl); (case dt68 => (intro W hW; clear hW; go_simp; (try with_reducible rfl))); (case' rt68 => simp only [Act.put, List.setIfInBounds_toArray, List.set_cons_zero, List.set_cons_succ]))
      (refine held_take (i := 8) (oi := ?ot69) (v := ?vt69) ?at69 (by kernel_rfl) (by kernel_rfl) (by kernel_rfl) ?bt69 ?ct69 ?dt69 (by assumption) ?rt69; (case at69 => (simp only [List.getElem?_toArray, List.getElem?_cons_zero, List.getElem?_cons_succ]; rfl)); (case bt69 => exact fun _ _ _ h => h); (case ct69 => kernel_rfl); (case dt69 => (intro W hW; (try dsimp only at hW); go_split_ands; go_simp; (try with_reducible rfl))); (case' rt69 => simp only [Act.put, List.setIfInBounds_toArray, List.set_cons_zero, List.set_cons_succ]))
      (refine held_skip (i := 9) (oi := ?ot70) ?at70 (by kernel_rfl) (by kernel_rfl) (by kernel_rfl) ?bt70 ?ct70 (by assumption) ?rt70; (case at70 => (simp only [List.getElem?_toArray, List.getElem?_cons_zero, List.getElem?_cons_succ]; rfl)); (case bt70 => exact fun _ _ _ h => h); (case ct70 => kernel_rfl); (case' rt70 => simp only [Act.put, List.setIfInBounds_toArray, List.set_cons_zero, List.set_cons_succ]))
      (refine held_take (i := 10) (oi := ?ot71) (v := ?vt71) ?at71 (by kernel_rfl) (by kernel_rfl) (by kernel_rfl) ?bt71 ?ct71 ?dt71 (by assumption) ?rt71; (case at71 => (simp only [List.getElem?_toArray, List.getElem?_cons_zero, List.getElem?_cons_succ]; rfl)); (case bt71 => exact fun _ _ _ h => h); (case ct71 => kernel_rfl); (case dt71 => (intro W hW; (try dsimp only at hW); go_split_ands; go_simp; (try with_reducible rfl))); (case' rt71 => simp only [Act.put, List.setIfInBounds_toArray, List.set_cons_zero, List.set_cons_succ]))
      (refine held_take (i := 11) (oi := ?ot72) (v := ?vt72) ?at72 (by kernel_rfl) (by kernel_rfl) (by kernel_rfl) ?bt72 ?ct72 ?dt72 (by assumption) ?rt72; (case at72 => (simp only [List.getElem?_toArray, List.getElem?_cons_zero, List.getElem?_cons_succ]; rfl)); (case bt72 => exact fun _ _ _ h => h); (case ct72 => kernel_rfl); (case dt72 => (intro W hW; (try dsimp only at hW); go_split_ands; go_simp; (try with_reducible rfl))); (case' rt72 => simp only [Act.put, List.setIfInBounds_toArray, List.set_cons_zero, List.set_cons_succ]))
      (refine held_skip (i := 12) (oi := ?ot73) ?at73 (by kernel_rfl) (by kernel_rfl) (by kernel_rfl) ?bt73 ?ct73 (by assumption) ?rt73; (case at73 => (simp only [List.getElem?_toArray, List.getElem?_cons_zero, List.getElem?_cons_succ]; rfl)); (case bt73 => exact fun _ _ _ h => h); (case ct73 => kernel_rfl); (case' rt73 => simp only [Act.put, List.setIfInBounds_toArray, List.set_cons_zero, List.set_cons_succ]))
      (refine held_take (i := 13) (oi := ?ot74) (v := ?vt74) ?at74 (by kernel_rfl) (by kernel_rfl) (by kernel_rfl) ?bt74 ?ct74 ?dt74 (by assumption) ?rt74; (case at74 => (simp only [List.getElem?_toArray, List.getElem?_cons_zero, List.getElem?_cons_succ]; rfl)); (case bt74 => exact fun _ _ _ h => h); (case ct74 => kernel_rfl); (case dt74 => (intro W hW; (try dsimp only at hW); go_split_ands; go_simp; (try with_reducible rfl))); (case' rt74 => simp only [Act.put, List.setIfInBounds_toArray, List.set_cons_zero, List.set_cons_succ]))
      (refine held_take (i := 14) (oi := ?ot75) (v := ?vt75) ?at75 (by kernel_rfl) (by kernel_rfl) (by kernel_rfl) ?bt75 ?ct75 ?dt75 (by assumption) ?rt75; (case at75 => (simp only [List.getElem?_toArray, List.getElem?_cons_zero, List.getElem?_cons_succ]; rfl)); (case bt75 => exact fun _ _ _ h => h); (case ct75 => kernel_rfl); (case dt75 => (intro W hW; (try dsimp only at hW); go_split_ands; go_simp; (try with_reducible rfl))); (case' rt75 => simp only [Act.put, List.setIfInBounds_toArray, List.set_cons_zero, List.set_cons_succ]))
      refine wpAnyH_done (by kernel_rfl) ?_ _
      have HY := Lib.hid (hS5.1)
      clear hS5
      go_wp2_with fail
      go_ret
      exact ⟨rfl, HB0.out.trans (HY.out.mono HB0.out.size)⟩
    · go_enter Try.func24, Try.ntmps24
      go_upto_region 1 with fail
      rw [← HV.out, ← HR.out]
      clear HV HR
      go_upto_region 3 with fail
      refine wp_region_held_drew (S := fun Y => Below V1.heap.size V1 Y ∧ Y.cell? ⟨r, 1, none⟩ = some (.int .u64 (pa : Int)) ∧ Y.cell? ⟨r, 5, none⟩ = some (.int .i64 L)) (by kernel_rfl) ⟨below_drewN (Below.refl _ _) 1, c1, c5⟩ (fun hS => ?_)
      (refine held_take (i := 0) (oi := ?ot76) (v := ?vt76) ?at76 (by kernel_rfl) (by kernel_rfl) (by kernel_rfl) ?bt76 ?ct76 ?dt76 (by assumption) ?rt76; (case at76 => (simp only [List.getElem?_toArray, List.getElem?_cons_zero]; rfl)); (case bt76 => exact fun _ _ _ h => h); (case ct76 => kernel_rfl); (case dt76 => (intro W hW; (try dsimp only at hW); go_split_ands; go_simp; (try with_reducible rfl))); (case' rt76 => simp only [Act.put, List.setIfInBounds_toArray, List.set_cons_zero, List.set_cons_succ]))
      (refine held_take (i := 1) (oi := ?ot77) (v := ?vt77) ?at77 (by kernel_rfl) (by kernel_rfl) (by kernel_rfl) ?bt77 ?ct77 ?dt77 (by assumption) ?rt77; (case at77 => (simp only [List.getElem?_toArray, List.getElem?_cons_zero, List.getElem?_cons_succ]; rfl)); (case bt77 => exact fun _ _ _ h => h); (case ct77 => kernel_rfl); (case dt77 => (intro W hW; (try dsimp only at hW); go_split_ands; go_simp; (try with_reducible rfl))); (case' rt77 => simp only [Act.put, List.setIfInBounds_toArray, List.set_cons_zero, List.set_cons_succ]))
      (refine held_take (i := 2) (oi := ?ot78) (v := ?vt78) ?at78 (by kernel_rfl) (by kernel_rfl) (by kernel_rfl) ?bt78 ?ct78 ?dt78 (by assumption) ?rt78; (case at78 => (simp only [List.getElem?_toArray, List.getElem?_cons_zero, List.getElem?_cons_succ]; rfl)); (case bt78 => exact fun _ _ _ h => h); (case ct78 => kernel_rfl); (case dt78 => (intro W hW; (try dsimp only at hW); go_split_ands; go_simp; (try with_reducible rfl))); (case' rt78 => simp only [Act.put, List.setIfInBounds_toArray, List.set_cons_zero, List.set_cons_succ]))
      (refine held_take (i := 3) (oi := ?ot79) (v := ?vt79) ?at79 (by kernel_rfl) (by kernel_rfl) (by kernel_rfl) ?bt79 ?ct79 ?dt79 (by assumption) ?rt79; (case at79 => (simp only [List.getElem?_toArray, List.getElem?_cons_zero, List.getElem?_cons_succ]; rfl)); (case bt79 => exact fun _ _ _ h => h); (case ct79 => kernel_rfl); (case dt79 => (intro W hW; (try dsimp only at hW); go_split_ands; go_simp; (try with_reducible rfl))); (case' rt79 => simp only [Act.put, List.setIfInBounds_toArray, List.set_cons_zero, List.set_cons_succ]))
      (refine held_take (i := 4) (oi := ?ot80) (v := ?vt80) ?at80 (by kernel_rfl) (by kernel_rfl) (by kernel_rfl) ?bt80 ?ct80 ?dt80 (by assumption) ?rt80; (case at80 => (simp only [List.getElem?_toArray, List.getElem?_cons_zero, List.getElem?_cons_succ]; rfl)); (case bt80 => exact fun _ _ _ h => h); (case ct80 => kernel_rfl); (case dt80 => (intro W hW; (try dsimp only at hW); go_split_ands; go_simp; (try with_reducible rfl))); (case' rt80 => simp only [Act.put, List.setIfInBounds_toArray, List.set_cons_zero, List.set_cons_succ]))
      refine held_one (i := 5) (oi := ?ot81) (by kernel_rfl) ?at81 ?ct81 (fun K5 hK5 => ?_)
      (case at81 => (simp only [List.getElem?_toArray, List.getElem?_cons_zero, List.getElem?_cons_succ]; rfl))
      (case ct81 => kernel_rfl)
      go_simp
      refine (HS.out _).mono ?_
      rintro e y5 ⟨rfl, rfl⟩
      refine hK5 _ _ hS (fun hS5 => ?_)
      clear hS hK5 K5
      (refine held_take (i := 6) (oi := ?ot82) (v := .int .u64 (rr : Int)) ?at82 (by kernel_rfl) (by kernel_rfl) (by kernel_rfl) ?bt82 ?ct82 ?dt82 (by assumption) ?rt82; (case at82 => (simp only [List.getElem?_toArray, List.getElem?_cons_zero, List.getElem?_cons_succ]; rfl)); (case bt82 => exact fun _ _ _ h => h); (case ct82 => kernel_rfl); (case dt82 => (intro W hW; clear hW; go_simp; (try with_reducible rfl))); (case' rt82 => simp only [Act.put, List.setIfInBounds_toArray, List.set_cons_zero, List.set_cons_succ]))
      (refine held_take (i := 7) (oi := ?ot83) (v := .bool false) ?at83 (by kernel_rfl) (by kernel_rfl) (by kernel_rfl) ?bt83 ?ct83 ?dt83 (by assumption) ?rt83; (case at83 => (simp only [List.getElem?_toArray, List.getElem?_cons_zero, List.getElem?_cons_succ]; rfl)); (case bt83 => exact fun _ _ _ h => h); (case ct83 => kernel_rfl); (case dt83 => (intro W hW; clear hW; go_simp; (try with_reducible rfl))); (case' rt83 => simp only [Act.put, List.setIfInBounds_toArray, List.set_cons_zero, List.set_cons_succ]))
      (refine held_take (i := 8) (oi := ?ot84) (v := ?vt84) ?at84 (by kernel_rfl) (by kernel_rfl) (by kernel_rfl) ?bt84 ?ct84 ?dt84 (by assumption) ?rt84; (case at84 => (simp only [List.getElem?_toArray, List.getElem?_cons_zero, List.getElem?_cons_succ]; rfl)); (case bt84 => exact fun _ _ _ h => h); (case ct84 => kernel_rfl); (case dt84 => (intro W hW; (try dsimp only at hW); go_split_ands; go_simp; (try with_reducible rfl))); (case' rt84 => simp only [Act.put, List.setIfInBounds_toArray, List.set_cons_zero, List.set_cons_succ]))
      (refine held_skip (i := 9) (oi := ?ot85) ?at85 (by kernel_rfl) (by kernel_rfl) (by kernel_rfl) ?bt85 ?ct85 (by assumption) ?rt85; (case at85 => (simp only [List.getElem?_toArray, List.getElem?_cons_zero, List.getElem?_cons_succ]; rfl)); (case bt85 => exact fun _ _ _ h => h); (case ct85 => kernel_rfl); (case' rt85 => simp only [Act.put, List.setIfInBounds_toArray, List.set_cons_zero, List.set_cons_succ]))
      (refine held_take (i := 10) (oi := ?ot86) (v := ?vt86) ?at86 (by kernel_rfl) (by kernel_rfl) (by kernel_rfl) ?bt86 ?ct86 ?dt86 (by assumption) ?rt86; (case at86 => (simp only [List.getElem?_toArray, List.getElem?_cons_zero, List.getElem?_cons_succ]; rfl)); (case bt86 => exact fun _ _ _ h => h); (case ct86 => kernel_rfl); (case dt86 => (intro W hW; (try dsimp only at hW); go_split_ands; go_simp; (try with_reducible rfl))); (case' rt86 => simp only [Act.put, List.setIfInBounds_toArray, List.set_cons_zero, List.set_cons_succ]))
      (refine held_take (i := 11) (oi := ?ot87) (v := ?vt87) ?at87 (by kernel_rfl) (by kernel_rfl) (by kernel_rfl) ?bt87 ?ct87 ?dt87 (by assumption) ?rt87; (case at87 => (simp only [List.getElem?_toArray, List.getElem?_cons_zero, List.getElem?_cons_succ]; rfl)); (case bt87 => exact fun _ _ _ h => h); (case ct87 => kernel_rfl); (case dt87 => (intro W hW; (try dsimp only at hW); go_split_ands; go_simp; (try with_reducible rfl))); (case' rt87 => simp only [Act.put, List.setIfInBounds_toArray, List.set_cons_zero, List.set_cons_succ]))
      (refine held_skip (i := 12) (oi := ?ot88) ?at88 (by kernel_rfl) (by kernel_rfl) (by kernel_rfl) ?bt88 ?ct88 (by assumption) ?rt88; (case at88 => (simp only [List.getElem?_toArray, List.getElem?_cons_zero, List.getElem?_cons_succ]; rfl)); (case bt88 => exact fun _ _ _ h => h); (case ct88 => kernel_rfl); (case' rt88 => simp only [Act.put, List.setIfInBounds_toArray, List.set_cons_zero, List.set_cons_succ]))
      (refine held_take (i := 13) (oi := ?ot89) (v := ?vt89) ?at89 (by kernel_rfl) (by kernel_rfl) (by kernel_rfl) ?bt89 ?ct89 ?dt89 (by assumption) ?rt89; (case at89 => (simp only [List.getElem?_toArray, List.getElem?_cons_zero, List.getElem?_cons_succ]; rfl)); (case bt89 => exact fun _ _ _ h => h); (case ct89 => kernel_rfl); (case dt89 => (intro W hW; (try dsimp only at hW); go_split_ands; go_simp; (try with_reducible rfl))); (case' rt89 => simp only [Act.put, List.setIfInBounds_toArray, List.set_cons_zero, List.set_cons_succ]))
      (refine held_take (i := 14) (oi := ?ot90) (v := ?vt90) ?at90 (by kernel_rfl) (by kernel_rfl) (by kernel_rfl) ?bt90 ?ct90 ?dt90 (by assumption) ?rt90; (case at90 => (simp only [List.getElem?_toArray, List.getElem?_cons_zero, List.getElem?_cons_succ]; rfl)); (case bt90 => exact fun _ _ _ h => h); (case ct90 => kernel_rfl); (case dt90 => (intro W hW; (try dsimp only at hW); go_split_ands; go_simp; (try with_reducible rfl))); (case' rt90 => simp only [Act.put, List.setIfInBounds_toArray, List.set_cons_zero, List.set_cons_succ]))
      refine wpAnyH_done (by kernel_rfl) ?_ _
      have HY := Lib.hid (hS5.1)
      clear hS5
      go_wp2_with fail
      go_ret
      exact ⟨rfl, HB0.out.trans (HY.out.mono HB0.out.size)⟩
  · rcases m0 with _ | _
    · go_enter Try.func24, Try.ntmps24
      go_upto_region 1 with fail
      rw [← HV.out, ← HR.out]
      clear HV HR
      go_upto_region 3 with fail
      refine wp_region_held_drew (S := fun Y => Below V1.heap.size V1 Y ∧ Y.cell? ⟨r, 1, none⟩ = some (.int .u64 (pa : Int)) ∧ Y.cell? ⟨r, 5, none⟩ = some (.int .i64 L)) (by kernel_rfl) ⟨below_drewN (Below.refl _ _) 1, c1, c5⟩ (fun hS => ?_)
      (refine held_take (i := 0) (oi := ?ot91) (v := ?vt91) ?at91 (by kernel_rfl) (by kernel_rfl) (by kernel_rfl) ?bt91 ?ct91 ?dt91 (by assumption) ?rt91; (case at91 => (simp only [List.getElem?_toArray, List.getElem?_cons_zero]; rfl)); (case bt91 => exact fun _ _ _ h => h); (case ct91 => kernel_rfl); (case dt91 => (intro W hW; (try dsimp only at hW); go_split_ands; go_simp; (try with_reducible rfl))); (case' rt91 => simp only [Act.put, List.setIfInBounds_toArray, List.set_cons_zero, List.set_cons_succ]))
      (refine held_take (i := 1) (oi := ?ot92) (v := ?vt92) ?at92 (by kernel_rfl) (by kernel_rfl) (by kernel_rfl) ?bt92 ?ct92 ?dt92 (by assumption) ?rt92; (case at92 => (simp only [List.getElem?_toArray, List.getElem?_cons_zero, List.getElem?_cons_succ]; rfl)); (case bt92 => exact fun _ _ _ h => h); (case ct92 => kernel_rfl); (case dt92 => (intro W hW; (try dsimp only at hW); go_split_ands; go_simp; (try with_reducible rfl))); (case' rt92 => simp only [Act.put, List.setIfInBounds_toArray, List.set_cons_zero, List.set_cons_succ]))
      (refine held_take (i := 2) (oi := ?ot93) (v := ?vt93) ?at93 (by kernel_rfl) (by kernel_rfl) (by kernel_rfl) ?bt93 ?ct93 ?dt93 (by assumption) ?rt93; (case at93 => (simp only [List.getElem?_toArray, List.getElem?_cons_zero, List.getElem?_cons_succ]; rfl)); (case bt93 => exact fun _ _ _ h => h); (case ct93 => kernel_rfl); (case dt93 => (intro W hW; (try dsimp only at hW); go_split_ands; go_simp; (try with_reducible rfl))); (case' rt93 => simp only [Act.put, List.setIfInBounds_toArray, List.set_cons_zero, List.set_cons_succ]))
      (refine held_take (i := 3) (oi := ?ot94) (v := ?vt94) ?at94 (by kernel_rfl) (by kernel_rfl) (by kernel_rfl) ?bt94 ?ct94 ?dt94 (by assumption) ?rt94; (case at94 => (simp only [List.getElem?_toArray, List.getElem?_cons_zero, List.getElem?_cons_succ]; rfl)); (case bt94 => exact fun _ _ _ h => h); (case ct94 => kernel_rfl); (case dt94 => (intro W hW; (try dsimp only at hW); go_split_ands; go_simp; (try with_reducible rfl))); (case' rt94 => simp only [Act.put, List.setIfInBounds_toArray, List.set_cons_zero, List.set_cons_succ]))
      (refine held_take (i := 4) (oi := ?ot95) (v := ?vt95) ?at95 (by kernel_rfl) (by kernel_rfl) (by kernel_rfl) ?bt95 ?ct95 ?dt95 (by assumption) ?rt95; (case at95 => (simp only [List.getElem?_toArray, List.getElem?_cons_zero, List.getElem?_cons_succ]; rfl)); (case bt95 => exact fun _ _ _ h => h); (case ct95 => kernel_rfl); (case dt95 => (intro W hW; (try dsimp only at hW); go_split_ands; go_simp; (try with_reducible rfl))); (case' rt95 => simp only [Act.put, List.setIfInBounds_toArray, List.set_cons_zero, List.set_cons_succ]))
      refine held_one (i := 5) (oi := ?ot96) (by kernel_rfl) ?at96 ?ct96 (fun K5 hK5 => ?_)
      (case at96 => (simp only [List.getElem?_toArray, List.getElem?_cons_zero, List.getElem?_cons_succ]; rfl))
      (case ct96 => kernel_rfl)
      go_simp
      refine (HS.out _).mono ?_
      rintro e y5 ⟨rfl, rfl⟩
      refine hK5 _ _ hS (fun hS5 => ?_)
      clear hS hK5 K5
      (refine held_take (i := 6) (oi := ?ot97) (v := .int .u64 (rr : Int)) ?at97 (by kernel_rfl) (by kernel_rfl) (by kernel_rfl) ?bt97 ?ct97 ?dt97 (by assumption) ?rt97; (case at97 => (simp only [List.getElem?_toArray, List.getElem?_cons_zero, List.getElem?_cons_succ]; rfl)); (case bt97 => exact fun _ _ _ h => h); (case ct97 => kernel_rfl); (case dt97 => (intro W hW; clear hW; go_simp; (try with_reducible rfl))); (case' rt97 => simp only [Act.put, List.setIfInBounds_toArray, List.set_cons_zero, List.set_cons_succ]))
      (refine held_take (i := 7) (oi := ?ot98) (v := .bool true) ?at98 (by kernel_rfl) (by kernel_rfl) (by kernel_rfl) ?bt98 ?ct98 ?dt98 (by assumption) ?rt98; (case at98 => (simp only [List.getElem?_toArray, List.getElem?_cons_zero, List.getElem?_cons_succ]; rfl)); (case bt98 => exact fun _ _ _ h => h); (case ct98 => kernel_rfl); (case dt98 => (intro W hW; clear hW; go_simp; (try with_reducible rfl))); (case' rt98 => simp only [Act.put, List.setIfInBounds_toArray, List.set_cons_zero, List.set_cons_succ]))
      (refine held_take (i := 8) (oi := ?ot99) (v := ?vt99) ?at99 (by kernel_rfl) (by kernel_rfl) (by kernel_rfl) ?bt99 ?ct99 ?dt99 (by assumption) ?rt99; (case at99 => (simp only [List.getElem?_toArray, List.getElem?_cons_zero, List.getElem?_cons_succ]; rfl)); (case bt99 => exact fun _ _ _ h => h); (case ct99 => kernel_rfl); (case dt99 => (intro W hW; (try dsimp only at hW); go_split_ands; go_simp; (try with_reducible rfl))); (case' rt99 => simp only [Act.put, List.setIfInBounds_toArray, List.set_cons_zero, List.set_cons_succ]))
      (refine held_take (i := 9) (oi := ?ot100) (v := .bool false) ?at100 (by kernel_rfl) (by kernel_rfl) (by kernel_rfl) ?bt100 ?ct100 ?dt100 (by assumption) ?rt100; (case at100 => (simp only [List.getElem?_toArray, List.getElem?_cons_zero, List.getElem?_cons_succ]; rfl)); (case bt100 => exact fun _ _ _ h => h); (case ct100 => kernel_rfl); (case dt100 => (intro W hW; clear hW; go_simp; (try with_reducible rfl))); (case' rt100 => simp only [Act.put, List.setIfInBounds_toArray, List.set_cons_zero, List.set_cons_succ]))
      (refine held_take (i := 10) (oi := ?ot101) (v := ?vt101) ?at101 (by kernel_rfl) (by kernel_rfl) (by kernel_rfl) ?bt101 ?ct101 ?dt101 (by assumption) ?rt101; (case at101 => (simp only [List.getElem?_toArray, List.getElem?_cons_zero, List.getElem?_cons_succ]; rfl)); (case bt101 => exact fun _ _ _ h => h); (case ct101 => kernel_rfl); (case dt101 => (intro W hW; (try dsimp only at hW); go_split_ands; go_simp; (try with_reducible rfl))); (case' rt101 => simp only [Act.put, List.setIfInBounds_toArray, List.set_cons_zero, List.set_cons_succ]))
      (refine held_take (i := 11) (oi := ?ot102) (v := ?vt102) ?at102 (by kernel_rfl) (by kernel_rfl) (by kernel_rfl) ?bt102 ?ct102 ?dt102 (by assumption) ?rt102; (case at102 => (simp only [List.getElem?_toArray, List.getElem?_cons_zero, List.getElem?_cons_succ]; rfl)); (case bt102 => exact fun _ _ _ h => h); (case ct102 => kernel_rfl); (case dt102 => (intro W hW; (try dsimp only at hW); go_split_ands; go_simp; (try with_reducible rfl))); (case' rt102 => simp only [Act.put, List.setIfInBounds_toArray, List.set_cons_zero, List.set_cons_succ]))
      (refine held_skip (i := 12) (oi := ?ot103) ?at103 (by kernel_rfl) (by kernel_rfl) (by kernel_rfl) ?bt103 ?ct103 (by assumption) ?rt103; (case at103 => (simp only [List.getElem?_toArray, List.getElem?_cons_zero, List.getElem?_cons_succ]; rfl)); (case bt103 => exact fun _ _ _ h => h); (case ct103 => kernel_rfl); (case' rt103 => simp only [Act.put, List.setIfInBounds_toArray, List.set_cons_zero, List.set_cons_succ]))
      (refine held_take (i := 13) (oi := ?ot104) (v := ?vt104) ?at104 (by kernel_rfl) (by kernel_rfl) (by kernel_rfl) ?bt104 ?ct104 ?dt104 (by assumption) ?rt104; (case at104 => (simp only [List.getElem?_toArray, List.getElem?_cons_zero, List.getElem?_cons_succ]; rfl)); (case bt104 => exact fun _ _ _ h => h); (case ct104 => kernel_rfl); (case dt104 => (intro W hW; (try dsimp only at hW); go_split_ands; go_simp; (try with_reducible rfl))); (case' rt104 => simp only [Act.put, List.setIfInBounds_toArray, List.set_cons_zero, List.set_cons_succ]))
      (refine held_take (i := 14) (oi := ?ot105) (v := ?vt105) ?at105 (by kernel_rfl) (by kernel_rfl) (by kernel_rfl) ?bt105 ?ct105 ?dt105 (by assumption) ?rt105; (case at105 => (simp only [List.getElem?_toArray, List.getElem?_cons_zero, List.getElem?_cons_succ]; rfl)); (case bt105 => exact fun _ _ _ h => h); (case ct105 => kernel_rfl); (case dt105 => (intro W hW; (try dsimp only at hW); go_split_ands; go_simp; (try with_reducible rfl))); (case' rt105 => simp only [Act.put, List.setIfInBounds_toArray, List.set_cons_zero, List.set_cons_succ]))
      refine wpAnyH_done (by kernel_rfl) ?_ _
      have HY := Lib.hid (hS5.1)
      clear hS5
      go_wp2_with fail
      go_ret
      exact ⟨rfl, HB0.out.trans (HY.out.mono HB0.out.size)⟩
    · go_enter Try.func24, Try.ntmps24
      go_upto_region 1 with fail
      rw [← HV.out, ← HR.out]
      clear HV HR
      go_upto_region 3 with fail
      refine wp_region_held_drew (S := fun Y => Below V1.heap.size V1 Y ∧ Y.cell? ⟨r, 1, none⟩ = some (.int .u64 (pa : Int)) ∧ Y.cell? ⟨r, 5, none⟩ = some (.int .i64 L)) (by kernel_rfl) ⟨below_drewN (Below.refl _ _) 1, c1, c5⟩ (fun hS => ?_)
      (refine held_take (i := 0) (oi := ?ot106) (v := ?vt106) ?at106 (by kernel_rfl) (by kernel_rfl) (by kernel_rfl) ?bt106 ?ct106 ?dt106 (by assumption) ?rt106; (case at106 => (simp only [List.getElem?_toArray, List.getElem?_cons_zero]; rfl)); (case bt106 => exact fun _ _ _ h => h); (case ct106 => kernel_rfl); (case dt106 => (intro W hW; (try dsimp only at hW); go_split_ands; go_simp; (try with_reducible rfl))); (case' rt106 => simp only [Act.put, List.setIfInBounds_toArray, List.set_cons_zero, List.set_cons_succ]))
      (refine held_take (i := 1) (oi := ?ot107) (v := ?vt107) ?at107 (by kernel_rfl) (by kernel_rfl) (by kernel_rfl) ?bt107 ?ct107 ?dt107 (by assumption) ?rt107; (case at107 => (simp only [List.getElem?_toArray, List.getElem?_cons_zero, List.getElem?_cons_succ]; rfl)); (case bt107 => exact fun _ _ _ h => h); (case ct107 => kernel_rfl); (case dt107 => (intro W hW; (try dsimp only at hW); go_split_ands; go_simp; (try with_reducible rfl))); (case' rt107 => simp only [Act.put, List.setIfInBounds_toArray, List.set_cons_zero, List.set_cons_succ]))
      (refine held_take (i := 2) (oi := ?ot108) (v := ?vt108) ?at108 (by kernel_rfl) (by kernel_rfl) (by kernel_rfl) ?bt108 ?ct108 ?dt108 (by assumption) ?rt108; (case at108 => (simp only [List.getElem?_toArray, List.getElem?_cons_zero, List.getElem?_cons_succ]; rfl)); (case bt108 => exact fun _ _ _ h => h); (case ct108 => kernel_rfl); (case dt108 => (intro W hW; (try dsimp only at hW); go_split_ands; go_simp; (try with_reducible rfl))); (case' rt108 => simp only [Act.put, List.setIfInBounds_toArray, List.set_cons_zero, List.set_cons_succ]))
      (refine held_take (i := 3) (oi := ?ot109) (v := ?vt109) ?at109 (by kernel_rfl) (by kernel_rfl) (by kernel_rfl) ?bt109 ?ct109 ?dt109 (by assumption) ?rt109; (case at109 => (simp only [List.getElem?_toArray, List.getElem?_cons_zero, List.getElem?_cons_succ]; rfl)); (case bt109 => exact fun _ _ _ h => h); (case ct109 => kernel_rfl); (case dt109 => (intro W hW; (try dsimp only at hW); go_split_ands; go_simp; (try with_reducible rfl))); (case' rt109 => simp only [Act.put, List.setIfInBounds_toArray, List.set_cons_zero, List.set_cons_succ]))
      (refine held_take (i := 4) (oi := ?ot110) (v := ?vt110) ?at110 (by kernel_rfl) (by kernel_rfl) (by kernel_rfl) ?bt110 ?ct110 ?dt110 (by assumption) ?rt110; (case at110 => (simp only [List.getElem?_toArray, List.getElem?_cons_zero, List.getElem?_cons_succ]; rfl)); (case bt110 => exact fun _ _ _ h => h); (case ct110 => kernel_rfl); (case dt110 => (intro W hW; (try dsimp only at hW); go_split_ands; go_simp; (try with_reducible rfl))); (case' rt110 => simp only [Act.put, List.setIfInBounds_toArray, List.set_cons_zero, List.set_cons_succ]))
      refine held_one (i := 5) (oi := ?ot111) (by kernel_rfl) ?at111 ?ct111 (fun K5 hK5 => ?_)
      (case at111 => (simp only [List.getElem?_toArray, List.getElem?_cons_zero, List.getElem?_cons_succ]; rfl))
      (case ct111 => kernel_rfl)
      go_simp
      refine (HS.out _).mono ?_
      rintro e y5 ⟨rfl, rfl⟩
      refine hK5 _ _ hS (fun hS5 => ?_)
      clear hS hK5 K5
      (refine held_take (i := 6) (oi := ?ot112) (v := .int .u64 (rr : Int)) ?at112 (by kernel_rfl) (by kernel_rfl) (by kernel_rfl) ?bt112 ?ct112 ?dt112 (by assumption) ?rt112; (case at112 => (simp only [List.getElem?_toArray, List.getElem?_cons_zero, List.getElem?_cons_succ]; rfl)); (case bt112 => exact fun _ _ _ h => h); (case ct112 => kernel_rfl); (case dt112 => (intro W hW; clear hW; go_simp; (try with_reducible rfl))); (case' rt112 => simp only [Act.put, List.setIfInBounds_toArray, List.set_cons_zero, List.set_cons_succ]))
      (refine held_take (i := 7) (oi := ?ot113) (v := .bool true) ?at113 (by kernel_rfl) (by kernel_rfl) (by kernel_rfl) ?bt113 ?ct113 ?dt113 (by assumption) ?rt113; (case at113 => (simp only [List.getElem?_toArray, List.getElem?_cons_zero, List.getElem?_cons_succ]; rfl)); (case bt113 => exact fun _ _ _ h => h); (case ct113 => kernel_rfl); (case dt113 => (intro W hW; clear hW; go_simp; (try with_reducible rfl))); (case' rt113 => simp only [Act.put, List.setIfInBounds_toArray, List.set_cons_zero, List.set_cons_succ]))
      (refine held_take (i := 8) (oi := ?ot114) (v := ?vt114) ?at114 (by kernel_rfl) (by kernel_rfl) (by kernel_rfl) ?bt114 ?ct114 ?dt114 (by assumption) ?rt114; (case at114 => (simp only [List.getElem?_toArray, List.getElem?_cons_zero, List.getElem?_cons_succ]; rfl)); (case bt114 => exact fun _ _ _ h => h); (case ct114 => kernel_rfl); (case dt114 => (intro W hW; (try dsimp only at hW); go_split_ands; go_simp; (try with_reducible rfl))); (case' rt114 => simp only [Act.put, List.setIfInBounds_toArray, List.set_cons_zero, List.set_cons_succ]))
      (refine held_take (i := 9) (oi := ?ot115) (v := .bool false) ?at115 (by kernel_rfl) (by kernel_rfl) (by kernel_rfl) ?bt115 ?ct115 ?dt115 (by assumption) ?rt115; (case at115 => (simp only [List.getElem?_toArray, List.getElem?_cons_zero, List.getElem?_cons_succ]; rfl)); (case bt115 => exact fun _ _ _ h => h); (case ct115 => kernel_rfl); (case dt115 => (intro W hW; clear hW; go_simp; (try with_reducible rfl))); (case' rt115 => simp only [Act.put, List.setIfInBounds_toArray, List.set_cons_zero, List.set_cons_succ]))
      (refine held_take (i := 10) (oi := ?ot116) (v := ?vt116) ?at116 (by kernel_rfl) (by kernel_rfl) (by kernel_rfl) ?bt116 ?ct116 ?dt116 (by assumption) ?rt116; (case at116 => (simp only [List.getElem?_toArray, List.getElem?_cons_zero, List.getElem?_cons_succ]; rfl)); (case bt116 => exact fun _ _ _ h => h); (case ct116 => kernel_rfl); (case dt116 => (intro W hW; (try dsimp only at hW); go_split_ands; go_simp; (try with_reducible rfl))); (case' rt116 => simp only [Act.put, List.setIfInBounds_toArray, List.set_cons_zero, List.set_cons_succ]))
      (refine held_take (i := 11) (oi := ?ot117) (v := ?vt117) ?at117 (by kernel_rfl) (by kernel_rfl) (by kernel_rfl) ?bt117 ?ct117 ?dt117 (by assumption) ?rt117; (case at117 => (simp only [List.getElem?_toArray, List.getElem?_cons_zero, List.getElem?_cons_succ]; rfl)); (case bt117 => exact fun _ _ _ h => h); (case ct117 => kernel_rfl); (case dt117 => (intro W hW; (try dsimp only at hW); go_split_ands; go_simp; (try with_reducible rfl))); (case' rt117 => simp only [Act.put, List.setIfInBounds_toArray, List.set_cons_zero, List.set_cons_succ]))
      (refine held_skip (i := 12) (oi := ?ot118) ?at118 (by kernel_rfl) (by kernel_rfl) (by kernel_rfl) ?bt118 ?ct118 (by assumption) ?rt118; (case at118 => (simp only [List.getElem?_toArray, List.getElem?_cons_zero, List.getElem?_cons_succ]; rfl)); (case bt118 => exact fun _ _ _ h => h); (case ct118 => kernel_rfl); (case' rt118 => simp only [Act.put, List.setIfInBounds_toArray, List.set_cons_zero, List.set_cons_succ]))
      (refine held_take (i := 13) (oi := ?ot119) (v := ?vt119) ?at119 (by kernel_rfl) (by kernel_rfl) (by kernel_rfl) ?bt119 ?ct119 ?dt119 (by assumption) ?rt119; (case at119 => (simp only [List.getElem?_toArray, List.getElem?_cons_zero, List.getElem?_cons_succ]; rfl)); (case bt119 => exact fun _ _ _ h => h); (case ct119 => kernel_rfl); (case dt119 => (intro W hW; (try dsimp only at hW); go_split_ands; go_simp; (try with_reducible rfl))); (case' rt119 => simp only [Act.put, List.setIfInBounds_toArray, List.set_cons_zero, List.set_cons_succ]))
      (refine held_take (i := 14) (oi := ?ot120) (v := ?vt120) ?at120 (by kernel_rfl) (by kernel_rfl) (by kernel_rfl) ?bt120 ?ct120 ?dt120 (by assumption) ?rt120; (case at120 => (simp only [List.getElem?_toArray, List.getElem?_cons_zero, List.getElem?_cons_succ]; rfl)); (case bt120 => exact fun _ _ _ h => h); (case ct120 => kernel_rfl); (case dt120 => (intro W hW; (try dsimp only at hW); go_split_ands; go_simp; (try with_reducible rfl))); (case' rt120 => simp only [Act.put, List.setIfInBounds_toArray, List.set_cons_zero, List.set_cons_succ]))
      refine wpAnyH_done (by kernel_rfl) ?_ _
      have HY := Lib.hid (hS5.1)
      clear hS5
      go_wp2_with fail
      go_ret
      exact ⟨rfl, HB0.out.trans (HY.out.mono HB0.out.size)⟩
  · rcases p7 with _ | _ <;> rcases m0 with _ | _
    · go_enter Try.func24, Try.ntmps24
      go_upto_region 1 with fail
      rw [← HV.out, ← HR.out]
      clear HV HR
      go_upto_region 3 with fail
      refine wp_region_held_drew (S := fun Y => Below V1.heap.size V1 Y ∧ Y.cell? ⟨r, 1, none⟩ = some (.int .u64 (pa : Int)) ∧ Y.cell? ⟨r, 5, none⟩ = some (.int .i64 L)) (by kernel_rfl) ⟨below_drewN (Below.refl _ _) 1, c1, c5⟩ (fun hS => ?_)
      (refine held_take (i := 0) (oi := ?ot121) (v := ?vt121) ?at121 (by kernel_rfl) (by kernel_rfl) (by kernel_rfl) ?bt121 ?ct121 ?dt121 (by assumption) ?rt121; (case at121 => (simp only [List.getElem?_toArray, List.getElem?_cons_zero]; rfl)); (case bt121 => exact fun _ _ _ h => h); (case ct121 => kernel_rfl); (case dt121 => (intro W hW; (try dsimp only at hW); go_split_ands; go_simp; (try with_reducible rfl))); (case' rt121 => simp only [Act.put, List.setIfInBounds_toArray, List.set_cons_zero, List.set_cons_succ]))
      (refine held_take (i := 1) (oi := ?ot122) (v := ?vt122) ?at122 (by kernel_rfl) (by kernel_rfl) (by kernel_rfl) ?bt122 ?ct122 ?dt122 (by assumption) ?rt122; (case at122 => (simp only [List.getElem?_toArray, List.getElem?_cons_zero, List.getElem?_cons_succ]; rfl)); (case bt122 => exact fun _ _ _ h => h); (case ct122 => kernel_rfl); (case dt122 => (intro W hW; (try dsimp only at hW); go_split_ands; go_simp; (try with_reducible rfl))); (case' rt122 => simp only [Act.put, List.setIfInBounds_toArray, List.set_cons_zero, List.set_cons_succ]))
      (refine held_take (i := 2) (oi := ?ot123) (v := ?vt123) ?at123 (by kernel_rfl) (by kernel_rfl) (by kernel_rfl) ?bt123 ?ct123 ?dt123 (by assumption) ?rt123; (case at123 => (simp only [List.getElem?_toArray, List.getElem?_cons_zero, List.getElem?_cons_succ]; rfl)); (case bt123 => exact fun _ _ _ h => h); (case ct123 => kernel_rfl); (case dt123 => (intro W hW; (try dsimp only at hW); go_split_ands; go_simp; (try with_reducible rfl))); (case' rt123 => simp only [Act.put, List.setIfInBounds_toArray, List.set_cons_zero, List.set_cons_succ]))
      (refine held_take (i := 3) (oi := ?ot124) (v := ?vt124) ?at124 (by kernel_rfl) (by kernel_rfl) (by kernel_rfl) ?bt124 ?ct124 ?dt124 (by assumption) ?rt124; (case at124 => (simp only [List.getElem?_toArray, List.getElem?_cons_zero, List.getElem?_cons_succ]; rfl)); (case bt124 => exact fun _ _ _ h => h); (case ct124 => kernel_rfl); (case dt124 => (intro W hW; (try dsimp only at hW); go_split_ands; go_simp; (try with_reducible rfl))); (case' rt124 => simp only [Act.put, List.setIfInBounds_toArray, List.set_cons_zero, List.set_cons_succ]))
      (refine held_take (i := 4) (oi := ?ot125) (v := ?vt125) ?at125 (by kernel_rfl) (by kernel_rfl) (by kernel_rfl) ?bt125 ?ct125 ?dt125 (by assumption) ?rt125; (case at125 => (simp only [List.getElem?_toArray, List.getElem?_cons_zero, List.getElem?_cons_succ]; rfl)); (case bt125 => exact fun _ _ _ h => h); (case ct125 => kernel_rfl); (case dt125 => (intro W hW; (try dsimp only at hW); go_split_ands; go_simp; (try with_reducible rfl))); (case' rt125 => simp only [Act.put, List.setIfInBounds_toArray, List.set_cons_zero, List.set_cons_succ]))
      refine held_one (i := 5) (oi := ?ot126) (by kernel_rfl) ?at126 ?ct126 (fun K5 hK5 => ?_)
      (case at126 => (simp only [List.getElem?_toArray, List.getElem?_cons_zero, List.getElem?_cons_succ]; rfl))
      (case ct126 => kernel_rfl)
      go_simp
      refine (HS.out _).mono ?_
      rintro e y5 ⟨rfl, rfl⟩
      refine hK5 _ _ hS (fun hS5 => ?_)
      clear hS hK5 K5
      (refine held_take (i := 6) (oi := ?ot127) (v := .int .u64 (rr : Int)) ?at127 (by kernel_rfl) (by kernel_rfl) (by kernel_rfl) ?bt127 ?ct127 ?dt127 (by assumption) ?rt127; (case at127 => (simp only [List.getElem?_toArray, List.getElem?_cons_zero, List.getElem?_cons_succ]; rfl)); (case bt127 => exact fun _ _ _ h => h); (case ct127 => kernel_rfl); (case dt127 => (intro W hW; clear hW; go_simp; (try with_reducible rfl))); (case' rt127 => simp only [Act.put, List.setIfInBounds_toArray, List.set_cons_zero, List.set_cons_succ]))
      (refine held_take (i := 7) (oi := ?ot128) (v := .bool true) ?at128 (by kernel_rfl) (by kernel_rfl) (by kernel_rfl) ?bt128 ?ct128 ?dt128 (by assumption) ?rt128; (case at128 => (simp only [List.getElem?_toArray, List.getElem?_cons_zero, List.getElem?_cons_succ]; rfl)); (case bt128 => exact fun _ _ _ h => h); (case ct128 => kernel_rfl); (case dt128 => (intro W hW; clear hW; go_simp; (try with_reducible rfl))); (case' rt128 => simp only [Act.put, List.setIfInBounds_toArray, List.set_cons_zero, List.set_cons_succ]))
      (refine held_take (i := 8) (oi := ?ot129) (v := ?vt129) ?at129 (by kernel_rfl) (by kernel_rfl) (by kernel_rfl) ?bt129 ?ct129 ?dt129 (by assumption) ?rt129; (case at129 => (simp only [List.getElem?_toArray, List.getElem?_cons_zero, List.getElem?_cons_succ]; rfl)); (case bt129 => exact fun _ _ _ h => h); (case ct129 => kernel_rfl); (case dt129 => (intro W hW; (try dsimp only at hW); go_split_ands; go_simp; (try with_reducible rfl))); (case' rt129 => simp only [Act.put, List.setIfInBounds_toArray, List.set_cons_zero, List.set_cons_succ]))
      (refine held_take (i := 9) (oi := ?ot130) (v := .bool false) ?at130 (by kernel_rfl) (by kernel_rfl) (by kernel_rfl) ?bt130 ?ct130 ?dt130 (by assumption) ?rt130; (case at130 => (simp only [List.getElem?_toArray, List.getElem?_cons_zero, List.getElem?_cons_succ]; rfl)); (case bt130 => exact fun _ _ _ h => h); (case ct130 => kernel_rfl); (case dt130 => (intro W hW; clear hW; go_simp; (try with_reducible rfl))); (case' rt130 => simp only [Act.put, List.setIfInBounds_toArray, List.set_cons_zero, List.set_cons_succ]))
      (refine held_take (i := 10) (oi := ?ot131) (v := ?vt131) ?at131 (by kernel_rfl) (by kernel_rfl) (by kernel_rfl) ?bt131 ?ct131 ?dt131 (by assumption) ?rt131; (case at131 => (simp only [List.getElem?_toArray, List.getElem?_cons_zero, List.getElem?_cons_succ]; rfl)); (case bt131 => exact fun _ _ _ h => h); (case ct131 => kernel_rfl); (case dt131 => (intro W hW; (try dsimp only at hW); go_split_ands; go_simp; (try with_reducible rfl))); (case' rt131 => simp only [Act.put, List.setIfInBounds_toArray, List.set_cons_zero, List.set_cons_succ]))
      (refine held_take (i := 11) (oi := ?ot132) (v := ?vt132) ?at132 (by kernel_rfl) (by kernel_rfl) (by kernel_rfl) ?bt132 ?ct132 ?dt132 (by assumption) ?rt132; (case at132 => (simp only [List.getElem?_toArray, List.getElem?_cons_zero, List.getElem?_cons_succ]; rfl)); (case bt132 => exact fun _ _ _ h => h); (case ct132 => kernel_rfl); (case dt132 => (intro W hW; (try dsimp only at hW); go_split_ands; go_simp; (try with_reducible rfl))); (case' rt132 => simp only [Act.put, List.setIfInBounds_toArray, List.set_cons_zero, List.set_cons_succ]))
      (refine held_skip (i := 12) (oi := ?ot133) ?at133 (by kernel_rfl) (by kernel_rfl) (by kernel_rfl) ?bt133 ?ct133 (by assumption) ?rt133; (case at133 => (simp only [List.getElem?_toArray, List.getElem?_cons_zero, List.getElem?_cons_succ]; rfl)); (case bt133 => exact fun _ _ _ h => h); (case ct133 => kernel_rfl); (case' rt133 => simp only [Act.put, List.setIfInBounds_toArray, List.set_cons_zero, List.set_cons_succ]))
      (refine held_take (i := 13) (oi := ?ot134) (v := ?vt134) ?at134 (by kernel_rfl) (by kernel_rfl) (by kernel_rfl) ?bt134 ?ct134 ?dt134 (by assumption) ?rt134; (case at134 => (simp only [List.getElem?_toArray, List.getElem?_cons_zero, List.getElem?_cons_succ]; rfl)); (case bt134 => exact fun _ _ _ h => h); (case ct134 => kernel_rfl); (case dt134 => (intro W hW; (try dsimp only at hW); go_split_ands; go_simp; (try with_reducible rfl))); (case' rt134 => simp only [Act.put, List.setIfInBounds_toArray, List.set_cons_zero, List.set_cons_succ]))
      (refine held_take (i := 14) (oi := ?ot135) (v := ?vt135) ?at135 (by kernel_rfl) (by kernel_rfl) (by kernel_rfl) ?bt135 ?ct135 ?dt135 (by assumption) ?rt135; (case at135 => (simp only [List.getElem?_toArray, List.getElem?_cons_zero, List.getElem?_cons_succ]; rfl)); (case bt135 => exact fun _ _ _ h => h); (case ct135 => kernel_rfl); (case dt135 => (intro W hW; (try dsimp only at hW); go_split_ands; go_simp; (try with_reducible rfl))); (case' rt135 => simp only [Act.put, List.setIfInBounds_toArray, List.set_cons_zero, List.set_cons_succ]))
      refine wpAnyH_done (by kernel_rfl) ?_ _
      have HY := Lib.hid (hS5.1)
      clear hS5
      go_wp2_with fail
      go_ret
      exact ⟨rfl, HB0.out.trans (HY.out.mono HB0.out.size)⟩
    · go_enter Try.func24, Try.ntmps24
      go_upto_region 1 with fail
      rw [← HV.out, ← HR.out]
      clear HV HR
      go_upto_region 3 with fail
      refine wp_region_held_drew (S := fun Y => Below V1.heap.size V1 Y ∧ Y.cell? ⟨r, 1, none⟩ = some (.int .u64 (pa : Int)) ∧ Y.cell? ⟨r, 5, none⟩ = some (.int .i64 L)) (by kernel_rfl) ⟨below_drewN (Below.refl _ _) 1, c1, c5⟩ (fun hS => ?_)
      (refine held_take (i := 0) (oi := ?ot136) (v := ?vt136) ?at136 (by kernel_rfl) (by kernel_rfl) (by kernel_rfl) ?bt136 ?ct136 ?dt136 (by assumption) ?rt136; (case at136 => (simp only [List.getElem?_toArray, List.getElem?_cons_zero]; rfl)); (case bt136 => exact fun _ _ _ h => h); (case ct136 => kernel_rfl); (case dt136 => (intro W hW; (try dsimp only at hW); go_split_ands; go_simp; (try with_reducible rfl))); (case' rt136 => simp only [Act.put, List.setIfInBounds_toArray, List.set_cons_zero, List.set_cons_succ]))
      (refine held_take (i := 1) (oi := ?ot137) (v := ?vt137) ?at137 (by kernel_rfl) (by kernel_rfl) (by kernel_rfl) ?bt137 ?ct137 ?dt137 (by assumption) ?rt137; (case at137 => (simp only [List.getElem?_toArray, List.getElem?_cons_zero, List.getElem?_cons_succ]; rfl)); (case bt137 => exact fun _ _ _ h => h); (case ct137 => kernel_rfl); (case dt137 => (intro W hW; (try dsimp only at hW); go_split_ands; go_simp; (try with_reducible rfl))); (case' rt137 => simp only [Act.put, List.setIfInBounds_toArray, List.set_cons_zero, List.set_cons_succ]))
      (refine held_take (i := 2) (oi := ?ot138) (v := ?vt138) ?at138 (by kernel_rfl) (by kernel_rfl) (by kernel_rfl) ?bt138 ?ct138 ?dt138 (by assumption) ?rt138; (case at138 => (simp only [List.getElem?_toArray, List.getElem?_cons_zero, List.getElem?_cons_succ]; rfl)); (case bt138 => exact fun _ _ _ h => h); (case ct138 => kernel_rfl); (case dt138 => (intro W hW; (try dsimp only at hW); go_split_ands; go_simp; (try with_reducible rfl))); (case' rt138 => simp only [Act.put, List.setIfInBounds_toArray, List.set_cons_zero, List.set_cons_succ]))
      (refine held_take (i := 3) (oi := ?ot139) (v := ?vt139) ?at139 (by kernel_rfl) (by kernel_rfl) (by kernel_rfl) ?bt139 ?ct139 ?dt139 (by assumption) ?rt139; (case at139 => (simp only [List.getElem?_toArray, List.getElem?_cons_zero, List.getElem?_cons_succ]; rfl)); (case bt139 => exact fun _ _ _ h => h); (case ct139 => kernel_rfl); (case dt139 => (intro W hW; (try dsimp only at hW); go_split_ands; go_simp; (try with_reducible rfl))); (case' rt139 => simp only [Act.put, List.setIfInBounds_toArray, List.set_cons_zero, List.set_cons_succ]))
      (refine held_take (i := 4) (oi := ?ot140) (v := ?vt140) ?at140 (by kernel_rfl) (by kernel_rfl) (by kernel_rfl) ?bt140 ?ct140 ?dt140 (by assumption) ?rt140; (case at140 => (simp only [List.getElem?_toArray, List.getElem?_cons_zero, List.getElem?_cons_succ]; rfl)); (case bt140 => exact fun _ _ _ h => h); (case ct140 => kernel_rfl); (case dt140 => (intro W hW; (try dsimp only at hW); go_split_ands; go_simp; (try with_reducible rfl))); (case' rt140 => simp only [Act.put, List.setIfInBounds_toArray, List.set_cons_zero, List.set_cons_succ]))
      refine held_one (i := 5) (oi := ?ot141) (by kernel_rfl) ?at141 ?ct141 (fun K5 hK5 => ?_)
      (case at141 => (simp only [List.getElem?_toArray, List.getElem?_cons_zero, List.getElem?_cons_succ]; rfl))
      (case ct141 => kernel_rfl)
      go_simp
      refine (HS.out _).mono ?_
      rintro e y5 ⟨rfl, rfl⟩
      refine hK5 _ _ hS (fun hS5 => ?_)
      clear hS hK5 K5
      (refine held_take (i := 6) (oi := ?ot142) (v := .int .u64 (rr : Int)) ?at142 (by kernel_rfl) (by kernel_rfl) (by kernel_rfl) ?bt142 ?ct142 ?dt142 (by assumption) ?rt142; (case at142 => (simp only [List.getElem?_toArray, List.getElem?_cons_zero, List.getElem?_cons_succ]; rfl)); (case bt142 => exact fun _ _ _ h => h); (case ct142 => kernel_rfl); (case dt142 => (intro W hW; clear hW; go_simp; (try with_reducible rfl))); (case' rt142 => simp only [Act.put, List.setIfInBounds_toArray, List.set_cons_zero, List.set_cons_succ]))
      (refine held_take (i := 7) (oi := ?ot143) (v := .bool true) ?at143 (by kernel_rfl) (by kernel_rfl) (by kernel_rfl) ?bt143 ?ct143 ?dt143 (by assumption) ?rt143; (case at143 => (simp only [List.getElem?_toArray, List.getElem?_cons_zero, List.getElem?_cons_succ]; rfl)); (case bt143 => exact fun _ _ _ h => h); (case ct143 => kernel_rfl); (case dt143 => (intro W hW; clear hW; go_simp; (try with_reducible rfl))); (case' rt143 => simp only [Act.put, List.setIfInBounds_toArray, List.set_cons_zero, List.set_cons_succ]))
      (refine held_take (i := 8) (oi := ?ot144) (v := ?vt144) ?at144 (by kernel_rfl) (by kernel_rfl) (by kernel_rfl) ?bt144 ?ct144 ?dt144 (by assumption) ?rt144; (case at144 => (simp only [List.getElem?_toArray, List.getElem?_cons_zero, List.getElem?_cons_succ]; rfl)); (case bt144 => exact fun _ _ _ h => h); (case ct144 => kernel_rfl); (case dt144 => (intro W hW; (try dsimp only at hW); go_split_ands; go_simp; (try with_reducible rfl))); (case' rt144 => simp only [Act.put, List.setIfInBounds_toArray, List.set_cons_zero, List.set_cons_succ]))
      (refine held_take (i := 9) (oi := ?ot145) (v := .bool false) ?at145 (by kernel_rfl) (by kernel_rfl) (by kernel_rfl) ?bt145 ?ct145 ?dt145 (by assumption) ?rt145; (case at145 => (simp only [List.getElem?_toArray, List.getElem?_cons_zero, List.getElem?_cons_succ]; rfl)); (case bt145 => exact fun _ _ _ h => h); (case ct145 => kernel_rfl); (case dt145 => (intro W hW; clear hW; go_simp; (try with_reducible rfl))); (case' rt145 => simp only [Act.put, List.setIfInBounds_toArray, List.set_cons_zero, List.set_cons_succ]))
      (refine held_take (i := 10) (oi := ?ot146) (v := ?vt146) ?at146 (by kernel_rfl) (by kernel_rfl) (by kernel_rfl) ?bt146 ?ct146 ?dt146 (by assumption) ?rt146; (case at146 => (simp only [List.getElem?_toArray, List.getElem?_cons_zero, List.getElem?_cons_succ]; rfl)); (case bt146 => exact fun _ _ _ h => h); (case ct146 => kernel_rfl); (case dt146 => (intro W hW; (try dsimp only at hW); go_split_ands; go_simp; (try with_reducible rfl))); (case' rt146 => simp only [Act.put, List.setIfInBounds_toArray, List.set_cons_zero, List.set_cons_succ]))
      (refine held_take (i := 11) (oi := ?ot147) (v := ?vt147) ?at147 (by kernel_rfl) (by kernel_rfl) (by kernel_rfl) ?bt147 ?ct147 ?dt147 (by assumption) ?rt147; (case at147 => (simp only [List.getElem?_toArray, List.getElem?_cons_zero, List.getElem?_cons_succ]; rfl)); (case bt147 => exact fun _ _ _ h => h); (case ct147 => kernel_rfl); (case dt147 => (intro W hW; (try dsimp only at hW); go_split_ands; go_simp; (try with_reducible rfl))); (case' rt147 => simp only [Act.put, List.setIfInBounds_toArray, List.set_cons_zero, List.set_cons_succ]))
      (refine held_skip (i := 12) (oi := ?ot148) ?at148 (by kernel_rfl) (by kernel_rfl) (by kernel_rfl) ?bt148 ?ct148 (by assumption) ?rt148; (case at148 => (simp only [List.getElem?_toArray, List.getElem?_cons_zero, List.getElem?_cons_succ]; rfl)); (case bt148 => exact fun _ _ _ h => h); (case ct148 => kernel_rfl); (case' rt148 => simp only [Act.put, List.setIfInBounds_toArray, List.set_cons_zero, List.set_cons_succ]))
      (refine held_take (i := 13) (oi := ?ot149) (v := ?vt149) ?at149 (by kernel_rfl) (by kernel_rfl) (by kernel_rfl) ?bt149 ?ct149 ?dt149 (by assumption) ?rt149; (case at149 => (simp only [List.getElem?_toArray, List.getElem?_cons_zero, List.getElem?_cons_succ]; rfl)); (case bt149 => exact fun _ _ _ h => h); (case ct149 => kernel_rfl); (case dt149 => (intro W hW; (try dsimp only at hW); go_split_ands; go_simp; (try with_reducible rfl))); (case' rt149 => simp only [Act.put, List.setIfInBounds_toArray, List.set_cons_zero, List.set_cons_succ]))
      (refine held_take (i := 14) (oi := ?ot150) (v := ?vt150) ?at150 (by kernel_rfl) (by kernel_rfl) (by kernel_rfl) ?bt150 ?ct150 ?dt150 (by assumption) ?rt150; (case at150 => (simp only [List.getElem?_toArray, List.getElem?_cons_zero, List.getElem?_cons_succ]; rfl)); (case bt150 => exact fun _ _ _ h => h); (case ct150 => kernel_rfl); (case dt150 => (intro W hW; (try dsimp only at hW); go_split_ands; go_simp; (try with_reducible rfl))); (case' rt150 => simp only [Act.put, List.setIfInBounds_toArray, List.set_cons_zero, List.set_cons_succ]))
      refine wpAnyH_done (by kernel_rfl) ?_ _
      have HY := Lib.hid (hS5.1)
      clear hS5
      go_wp2_with fail
      go_ret
      exact ⟨rfl, HB0.out.trans (HY.out.mono HB0.out.size)⟩
    · go_enter Try.func24, Try.ntmps24
      go_upto_region 1 with fail
      rw [← HV.out, ← HR.out]
      clear HV HR
      go_upto_region 3 with fail
      refine wp_region_held_drew (S := fun Y => Below V1.heap.size V1 Y ∧ Y.cell? ⟨r, 1, none⟩ = some (.int .u64 (pa : Int)) ∧ Y.cell? ⟨r, 5, none⟩ = some (.int .i64 L)) (by kernel_rfl) ⟨below_drewN (Below.refl _ _) 1, c1, c5⟩ (fun hS => ?_)
      (refine held_take (i := 0) (oi := ?ot151) (v := ?vt151) ?at151 (by kernel_rfl) (by kernel_rfl) (by kernel_rfl) ?bt151 ?ct151 ?dt151 (by assumption) ?rt151; (case at151 => (simp only [List.getElem?_toArray, List.getElem?_cons_zero]; rfl)); (case bt151 => exact fun _ _ _ h => h); (case ct151 => kernel_rfl); (case dt151 => (intro W hW; (try dsimp only at hW); go_split_ands; go_simp; (try with_reducible rfl))); (case' rt151 => simp only [Act.put, List.setIfInBounds_toArray, List.set_cons_zero, List.set_cons_succ]))
      (refine held_take (i := 1) (oi := ?ot152) (v := ?vt152) ?at152 (by kernel_rfl) (by kernel_rfl) (by kernel_rfl) ?bt152 ?ct152 ?dt152 (by assumption) ?rt152; (case at152 => (simp only [List.getElem?_toArray, List.getElem?_cons_zero, List.getElem?_cons_succ]; rfl)); (case bt152 => exact fun _ _ _ h => h); (case ct152 => kernel_rfl); (case dt152 => (intro W hW; (try dsimp only at hW); go_split_ands; go_simp; (try with_reducible rfl))); (case' rt152 => simp only [Act.put, List.setIfInBounds_toArray, List.set_cons_zero, List.set_cons_succ]))
      (refine held_take (i := 2) (oi := ?ot153) (v := ?vt153) ?at153 (by kernel_rfl) (by kernel_rfl) (by kernel_rfl) ?bt153 ?ct153 ?dt153 (by assumption) ?rt153; (case at153 => (simp only [List.getElem?_toArray, List.getElem?_cons_zero, List.getElem?_cons_succ]; rfl)); (case bt153 => exact fun _ _ _ h => h); (case ct153 => kernel_rfl); (case dt153 => (intro W hW; (try dsimp only at hW); go_split_ands; go_simp; (try with_reducible rfl))); (case' rt153 => simp only [Act.put, List.setIfInBounds_toArray, List.set_cons_zero, List.set_cons_succ]))
      (refine held_take (i := 3) (oi := ?ot154) (v := ?vt154) ?at154 (by kernel_rfl) (by kernel_rfl) (by kernel_rfl) ?bt154 ?ct154 ?dt154 (by assumption) ?rt154; (case at154 => (simp only [List.getElem?_toArray, List.getElem?_cons_zero, List.getElem?_cons_succ]; rfl)); (case bt154 => exact fun _ _ _ h => h); (case ct154 => kernel_rfl); (case dt154 => (intro W hW; (try dsimp only at hW); go_split_ands; go_simp; (try with_reducible rfl))); (case' rt154 => simp only [Act.put, List.setIfInBounds_toArray, List.set_cons_zero, List.set_cons_succ]))
      (refine held_take (i := 4) (oi := ?ot155) (v := ?vt155) ?at155 (by kernel_rfl) (by kernel_rfl) (by kernel_rfl) ?bt155 ?ct155 ?dt155 (by assumption) ?rt155; (case at155 => (simp only [List.getElem?_toArray, List.getElem?_cons_zero, List.getElem?_cons_succ]; rfl)); (case bt155 => exact fun _ _ _ h => h); (case ct155 => kernel_rfl); (case dt155 => (intro W hW; (try dsimp only at hW); go_split_ands; go_simp; (try with_reducible rfl))); (case' rt155 => simp only [Act.put, List.setIfInBounds_toArray, List.set_cons_zero, List.set_cons_succ]))
      refine held_one (i := 5) (oi := ?ot156) (by kernel_rfl) ?at156 ?ct156 (fun K5 hK5 => ?_)
      (case at156 => (simp only [List.getElem?_toArray, List.getElem?_cons_zero, List.getElem?_cons_succ]; rfl))
      (case ct156 => kernel_rfl)
      go_simp
      refine (HS.out _).mono ?_
      rintro e y5 ⟨rfl, rfl⟩
      refine hK5 _ _ hS (fun hS5 => ?_)
      clear hS hK5 K5
      (refine held_take (i := 6) (oi := ?ot157) (v := .int .u64 (rr : Int)) ?at157 (by kernel_rfl) (by kernel_rfl) (by kernel_rfl) ?bt157 ?ct157 ?dt157 (by assumption) ?rt157; (case at157 => (simp only [List.getElem?_toArray, List.getElem?_cons_zero, List.getElem?_cons_succ]; rfl)); (case bt157 => exact fun _ _ _ h => h); (case ct157 => kernel_rfl); (case dt157 => (intro W hW; clear hW; go_simp; (try with_reducible rfl))); (case' rt157 => simp only [Act.put, List.setIfInBounds_toArray, List.set_cons_zero, List.set_cons_succ]))
      (refine held_take (i := 7) (oi := ?ot158) (v := .bool true) ?at158 (by kernel_rfl) (by kernel_rfl) (by kernel_rfl) ?bt158 ?ct158 ?dt158 (by assumption) ?rt158; (case at158 => (simp only [List.getElem?_toArray, List.getElem?_cons_zero, List.getElem?_cons_succ]; rfl)); (case bt158 => exact fun _ _ _ h => h); (case ct158 => kernel_rfl); (case dt158 => (intro W hW; clear hW; go_simp; (try with_reducible rfl))); (case' rt158 => simp only [Act.put, List.setIfInBounds_toArray, List.set_cons_zero, List.set_cons_succ]))
      (refine held_take (i := 8) (oi := ?ot159) (v := ?vt159) ?at159 (by kernel_rfl) (by kernel_rfl) (by kernel_rfl) ?bt159 ?ct159 ?dt159 (by assumption) ?rt159; (case at159 => (simp only [List.getElem?_toArray, List.getElem?_cons_zero, List.getElem?_cons_succ]; rfl)); (case bt159 => exact fun _ _ _ h => h); (case ct159 => kernel_rfl); (case dt159 => (intro W hW; (try dsimp only at hW); go_split_ands; go_simp; (try with_reducible rfl))); (case' rt159 => simp only [Act.put, List.setIfInBounds_toArray, List.set_cons_zero, List.set_cons_succ]))
      (refine held_take (i := 9) (oi := ?ot160) (v := .bool true) ?at160 (by kernel_rfl) (by kernel_rfl) (by kernel_rfl) ?bt160 ?ct160 ?dt160 (by assumption) ?rt160; (case at160 => (simp only [List.getElem?_toArray, List.getElem?_cons_zero, List.getElem?_cons_succ]; rfl)); (case bt160 => exact fun _ _ _ h => h); (case ct160 => kernel_rfl); (case dt160 => (intro W hW; clear hW; go_simp; (try with_reducible rfl))); (case' rt160 => simp only [Act.put, List.setIfInBounds_toArray, List.set_cons_zero, List.set_cons_succ]))
      (refine held_take (i := 10) (oi := ?ot161) (v := ?vt161) ?at161 (by kernel_rfl) (by kernel_rfl) (by kernel_rfl) ?bt161 ?ct161 ?dt161 (by assumption) ?rt161; (case at161 => (simp only [List.getElem?_toArray, List.getElem?_cons_zero, List.getElem?_cons_succ]; rfl)); (case bt161 => exact fun _ _ _ h => h); (case ct161 => kernel_rfl); (case dt161 => (intro W hW; (try dsimp only at hW); go_split_ands; go_simp; (try with_reducible rfl))); (case' rt161 => simp only [Act.put, List.setIfInBounds_toArray, List.set_cons_zero, List.set_cons_succ]))
      (refine held_take (i := 11) (oi := ?ot162) (v := ?vt162) ?at162 (by kernel_rfl) (by kernel_rfl) (by kernel_rfl) ?bt162 ?ct162 ?dt162 (by assumption) ?rt162; (case at162 => (simp only [List.getElem?_toArray, List.getElem?_cons_zero, List.getElem?_cons_succ]; rfl)); (case bt162 => exact fun _ _ _ h => h); (case ct162 => kernel_rfl); (case dt162 => (intro W hW; (try dsimp only at hW); go_split_ands; go_simp; (try with_reducible rfl))); (case' rt162 => simp only [Act.put, List.setIfInBounds_toArray, List.set_cons_zero, List.set_cons_succ]))
      (refine held_take (i := 12) (oi := ?ot163) (v := ?vt163) ?at163 (by kernel_rfl) (by kernel_rfl) (by kernel_rfl) ?bt163 ?ct163 ?dt163 (by assumption) ?rt163; (case at163 => (simp only [List.getElem?_toArray, List.getElem?_cons_zero, List.getElem?_cons_succ]; rfl)); (case bt163 => exact fun _ _ _ h => h); (case ct163 => kernel_rfl); (case dt163 => (intro W hW; (try dsimp only at hW); go_split_ands; go_simp; (try with_reducible rfl))); (case' rt163 => simp only [Act.put, List.setIfInBounds_toArray, List.set_cons_zero, List.set_cons_succ]))
      (refine held_take (i := 13) (oi := ?ot164) (v := ?vt164) ?at164 (by kernel_rfl) (by kernel_rfl) (by kernel_rfl) ?bt164 ?ct164 ?dt164 (by assumption) ?rt164; (case at164 => (simp only [List.getElem?_toArray, List.getElem?_cons_zero, List.getElem?_cons_succ]; rfl)); (case bt164 => exact fun _ _ _ h => h); (case ct164 => kernel_rfl); (case dt164 => (intro W hW; (try dsimp only at hW); go_split_ands; go_simp; (try with_reducible rfl))); (case' rt164 => simp only [Act.put, List.setIfInBounds_toArray, List.set_cons_zero, List.set_cons_succ]))
      (refine held_take (i := 14) (oi := ?ot165) (v := ?vt165) ?at165 (by kernel_rfl) (by kernel_rfl) (by kernel_rfl) ?bt165 ?ct165 ?dt165 (by assumption) ?rt165; (case at165 => (simp only [List.getElem?_toArray, List.getElem?_cons_zero, List.getElem?_cons_succ]; rfl)); (case bt165 => exact fun _ _ _ h => h); (case ct165 => kernel_rfl); (case dt165 => (intro W hW; (try dsimp only at hW); go_split_ands; go_simp; (try with_reducible rfl))); (case' rt165 => simp only [Act.put, List.setIfInBounds_toArray, List.set_cons_zero, List.set_cons_succ]))
      refine wpAnyH_done (by kernel_rfl) ?_ _
      have HY := Lib.hid (hS5.1)
      clear hS5
      go_wp2_with fail
      go_ret
      exact ⟨rfl, HB0.out.trans (HY.out.mono HB0.out.size)⟩
    · go_enter Try.func24, Try.ntmps24
      go_upto_region 1 with fail
      rw [← HV.out, ← HR.out]
      clear HV HR
      go_upto_region 3 with fail
      refine wp_region_held_drew (S := fun Y => Below V1.heap.size V1 Y ∧ Y.cell? ⟨r, 1, none⟩ = some (.int .u64 (pa : Int)) ∧ Y.cell? ⟨r, 5, none⟩ = some (.int .i64 L)) (by kernel_rfl) ⟨below_drewN (Below.refl _ _) 1, c1, c5⟩ (fun hS => ?_)
      (refine held_take (i := 0) (oi := ?ot166) (v := ?vt166) ?at166 (by kernel_rfl) (by kernel_rfl) (by kernel_rfl) ?bt166 ?ct166 ?dt166 (by assumption) ?rt166; (case at166 => (simp only [List.getElem?_toArray, List.getElem?_cons_zero]; rfl)); (case bt166 => exact fun _ _ _ h => h); (case ct166 => kernel_rfl); (case dt166 => (intro W hW; (try dsimp only at hW); go_split_ands; go_simp; (try with_reducible rfl))); (case' rt166 => simp only [Act.put, List.setIfInBounds_toArray, List.set_cons_zero, List.set_cons_succ]))
      (refine held_take (i := 1) (oi := ?ot167) (v := ?vt167) ?at167 (by kernel_rfl) (by kernel_rfl) (by kernel_rfl) ?bt167 ?ct167 ?dt167 (by assumption) ?rt167; (case at167 => (simp only [List.getElem?_toArray, List.getElem?_cons_zero, List.getElem?_cons_succ]; rfl)); (case bt167 => exact fun _ _ _ h => h); (case ct167 => kernel_rfl); (case dt167 => (intro W hW; (try dsimp only at hW); go_split_ands; go_simp; (try with_reducible rfl))); (case' rt167 => simp only [Act.put, List.setIfInBounds_toArray, List.set_cons_zero, List.set_cons_succ]))
      (refine held_take (i := 2) (oi := ?ot168) (v := ?vt168) ?at168 (by kernel_rfl) (by kernel_rfl) (by kernel_rfl) ?bt168 ?ct168 ?dt168 (by assumption) ?rt168; (case at168 => (simp only [List.getElem?_toArray, List.getElem?_cons_zero, List.getElem?_cons_succ]; rfl)); (case bt168 => exact fun _ _ _ h => h); (case ct168 => kernel_rfl); (case dt168 => (intro W hW; (try dsimp only at hW); go_split_ands; go_simp; (try with_reducible rfl))); (case' rt168 => simp only [Act.put, List.setIfInBounds_toArray, List.set_cons_zero, List.set_cons_succ]))
      (refine held_take (i := 3) (oi := ?ot169) (v := ?vt169) ?at169 (by kernel_rfl) (by kernel_rfl) (by kernel_rfl) ?bt169 ?ct169 ?dt169 (by assumption) ?rt169; (case at169 => (simp only [List.getElem?_toArray, List.getElem?_cons_zero, List.getElem?_cons_succ]; rfl)); (case bt169 => exact fun _ _ _ h => h); (case ct169 => kernel_rfl); (case dt169 => (intro W hW; (try dsimp only at hW); go_split_ands; go_simp; (try with_reducible rfl))); (case' rt169 => simp only [Act.put, List.setIfInBounds_toArray, List.set_cons_zero, List.set_cons_succ]))
      (refine held_take (i := 4) (oi := ?ot170) (v := ?vt170) ?at170 (by kernel_rfl) (by kernel_rfl) (by kernel_rfl) ?bt170 ?ct170 ?dt170 (by assumption) ?rt170; (case at170 => (simp only [List.getElem?_toArray, List.getElem?_cons_zero, List.getElem?_cons_succ]; rfl)); (case bt170 => exact fun _ _ _ h => h); (case ct170 => kernel_rfl); (case dt170 => (intro W hW; (try dsimp only at hW); go_split_ands; go_simp; (try with_reducible rfl))); (case' rt170 => simp only [Act.put, List.setIfInBounds_toArray, List.set_cons_zero, List.set_cons_succ]))
      refine held_one (i := 5) (oi := ?ot171) (by kernel_rfl) ?at171 ?ct171 (fun K5 hK5 => ?_)
      (case at171 => (simp only [List.getElem?_toArray, List.getElem?_cons_zero, List.getElem?_cons_succ]; rfl))
      (case ct171 => kernel_rfl)
      go_simp
      refine (HS.out _).mono ?_
      rintro e y5 ⟨rfl, rfl⟩
      refine hK5 _ _ hS (fun hS5 => ?_)
      clear hS hK5 K5
      (refine held_take (i := 6) (oi := ?ot172) (v := .int .u64 (rr : Int)) ?at172 (by kernel_rfl) (by kernel_rfl) (by kernel_rfl) ?bt172 ?ct172 ?dt172 (by assumption) ?rt172; (case at172 => (simp only [List.getElem?_toArray, List.getElem?_cons_zero, List.getElem?_cons_succ]; rfl)); (case bt172 => exact fun _ _ _ h => h); (case ct172 => kernel_rfl); (case dt172 => (intro W hW; clear hW; go_simp; (try with_reducible rfl))); (case' rt172 => simp only [Act.put, List.setIfInBounds_toArray, List.set_cons_zero, List.set_cons_succ]))
      (refine held_take (i := 7) (oi := ?ot173) (v := .bool true) ?at173 (by kernel_rfl) (by kernel_rfl) (by kernel_rfl) ?bt173 ?ct173 ?dt173 (by assumption) ?rt173; (case at173 => (simp only [List.getElem?_toArray, List.getElem?_cons_zero, List.getElem?_cons_succ]; rfl)); (case bt173 => exact fun _ _ _ h => h); (case ct173 => kernel_rfl); (case dt173 => (intro W hW; clear hW; go_simp; (try with_reducible rfl))); (case' rt173 => simp only [Act.put, List.setIfInBounds_toArray, List.set_cons_zero, List.set_cons_succ]))
      (refine held_take (i := 8) (oi := ?ot174) (v := ?vt174) ?at174 (by kernel_rfl) (by kernel_rfl) (by kernel_rfl) ?bt174 ?ct174 ?dt174 (by assumption) ?rt174; (case at174 => (simp only [List.getElem?_toArray, List.getElem?_cons_zero, List.getElem?_cons_succ]; rfl)); (case bt174 => exact fun _ _ _ h => h); (case ct174 => kernel_rfl); (case dt174 => (intro W hW; (try dsimp only at hW); go_split_ands; go_simp; (try with_reducible rfl))); (case' rt174 => simp only [Act.put, List.setIfInBounds_toArray, List.set_cons_zero, List.set_cons_succ]))
      (refine held_take (i := 9) (oi := ?ot175) (v := .bool true) ?at175 (by kernel_rfl) (by kernel_rfl) (by kernel_rfl) ?bt175 ?ct175 ?dt175 (by assumption) ?rt175; (case at175 => (simp only [List.getElem?_toArray, List.getElem?_cons_zero, List.getElem?_cons_succ]; rfl)); (case bt175 => exact fun _ _ _ h => h); (case ct175 => kernel_rfl); (case dt175 => (intro W hW; clear hW; go_simp; (try with_reducible rfl))); (case' rt175 => simp only [Act.put, List.setIfInBounds_toArray, List.set_cons_zero, List.set_cons_succ]))
      (refine held_take (i := 10) (oi := ?ot176) (v := ?vt176) ?at176 (by kernel_rfl) (by kernel_rfl) (by kernel_rfl) ?bt176 ?ct176 ?dt176 (by assumption) ?rt176; (case at176 => (simp only [List.getElem?_toArray, List.getElem?_cons_zero, List.getElem?_cons_succ]; rfl)); (case bt176 => exact fun _ _ _ h => h); (case ct176 => kernel_rfl); (case dt176 => (intro W hW; (try dsimp only at hW); go_split_ands; go_simp; (try with_reducible rfl))); (case' rt176 => simp only [Act.put, List.setIfInBounds_toArray, List.set_cons_zero, List.set_cons_succ]))
      (refine held_take (i := 11) (oi := ?ot177) (v := ?vt177) ?at177 (by kernel_rfl) (by kernel_rfl) (by kernel_rfl) ?bt177 ?ct177 ?dt177 (by assumption) ?rt177; (case at177 => (simp only [List.getElem?_toArray, List.getElem?_cons_zero, List.getElem?_cons_succ]; rfl)); (case bt177 => exact fun _ _ _ h => h); (case ct177 => kernel_rfl); (case dt177 => (intro W hW; (try dsimp only at hW); go_split_ands; go_simp; (try with_reducible rfl))); (case' rt177 => simp only [Act.put, List.setIfInBounds_toArray, List.set_cons_zero, List.set_cons_succ]))
      (refine held_take (i := 12) (oi := ?ot178) (v := ?vt178) ?at178 (by kernel_rfl) (by kernel_rfl) (by kernel_rfl) ?bt178 ?ct178 ?dt178 (by assumption) ?rt178; (case at178 => (simp only [List.getElem?_toArray, List.getElem?_cons_zero, List.getElem?_cons_succ]; rfl)); (case bt178 => exact fun _ _ _ h => h); (case ct178 => kernel_rfl); (case dt178 => (intro W hW; (try dsimp only at hW); go_split_ands; go_simp; (try with_reducible rfl))); (case' rt178 => simp only [Act.put, List.setIfInBounds_toArray, List.set_cons_zero, List.set_cons_succ]))
      (refine held_take (i := 13) (oi := ?ot179) (v := ?vt179) ?at179 (by kernel_rfl) (by kernel_rfl) (by kernel_rfl) ?bt179 ?ct179 ?dt179 (by assumption) ?rt179; (case at179 => (simp only [List.getElem?_toArray, List.getElem?_cons_zero, List.getElem?_cons_succ]; rfl)); (case bt179 => exact fun _ _ _ h => h); (case ct179 => kernel_rfl); (case dt179 => (intro W hW; (try dsimp only at hW); go_split_ands; go_simp; (try with_reducible rfl))); (case' rt179 => simp only [Act.put, List.setIfInBounds_toArray, List.set_cons_zero, List.set_cons_succ]))
      (refine held_take (i := 14) (oi := ?ot180) (v := ?vt180) ?at180 (by kernel_rfl) (by kernel_rfl) (by kernel_rfl) ?bt180 ?ct180 ?dt180 (by assumption) ?rt180; (case at180 => (simp only [List.getElem?_toArray, List.getElem?_cons_zero, List.getElem?_cons_succ]; rfl)); (case bt180 => exact fun _ _ _ h => h); (case ct180 => kernel_rfl); (case dt180 => (intro W hW; (try dsimp only at hW); go_split_ands; go_simp; (try with_reducible rfl))); (case' rt180 => simp only [Act.put, List.setIfInBounds_toArray, List.set_cons_zero, List.set_cons_succ]))
      refine wpAnyH_done (by kernel_rfl) ?_ _
      have HY := Lib.hid (hS5.1)
      clear hS5
      go_wp2_with fail
      go_ret
      exact ⟨rfl, HB0.out.trans (HY.out.mono HB0.out.size)⟩
end Go.Proofs.Ytblmikmmmomflaa
