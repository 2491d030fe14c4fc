/- Merged: Ho, Gd. -/
import Derived.Test.YtgnihceefpijiaaCat
import Derived.Test.YtgnihceefpijiaaWp
import Derived.Test.YtgnihceefpijiaaWx
/- room.holds: what Good asks of a part by itself. -/
namespace Go.Proofs.Ytgnihceefpijiaa
open Go.RowKit
attribute [local go_sem ↓ high] zeroMp zeroSp

theorem pagesE (A : Option Addr) (c : Nat) (l : List Sp) (hl : l.length ≤ 1000000) (hf : ∀ x ∈ l, fit x) (w : World) (hR : Row w w.heap.size A l) : Calls Try.prog 42 #[.slice A l.length c] w (EqV (l.all paged) w) := pages_any A c l hl hf w hR
def allS : Sp := (0, 1099511627776)
theorem within_all {x : Sp} (h : good x = true) : within x allS = decide (x.1 + x.2 ≤ 1099511627776) := by
  have hg := (good_iff _).1 h
  unfold within allS
  rw [h, Bool.eq_iff_iff]
  simp [good]
theorem pageB_eq (b s : Int) : pageB b s = (paged (b.toNat, s.toNat) && within (b.toNat, s.toNat) allS) := by
  unfold pageB
  cases hp : paged (b.toNat, s.toNat)
  · rfl
  · have hg : good (b.toNat, s.toNat) = true := by unfold paged at hp; rw [Bool.and_eq_true] at hp; exact hp.1
    rw [within_all hg]
theorem gdM_eq (m : Mp) : gdM m = ([ipaS m, paS m].all paged && (within (ipaS m) allS && (within (paS m) allS && (decide (1 ≤ m.perm) && (decide (m.perm ≤ 7) && (decide (m.kind = 0) || decide (m.kind = 1))))))) := by
  have hk : (decide (0 ≤ m.kind) && decide (m.kind ≤ 1)) = (decide (m.kind = 0) || decide (m.kind = 1)) := by
    rw [Bool.eq_iff_iff]
    simp only [Bool.and_eq_true, Bool.or_eq_true, decide_eq_true_eq]
    omega
  unfold gdM
  rw [pageB_eq, pageB_eq, hk]
  show (paged (ipaS m) && within (ipaS m) allS && (paged (paS m) && within (paS m) allS && _)) = _
  simp only [List.all_cons, List.all_nil, Bool.and_true]
  generalize paged (ipaS m) = p1
  generalize paged (paS m) = p2
  generalize within (ipaS m) allS = p3
  generalize within (paS m) allS = p4
  cases p1 <;> cases p2 <;> cases p3 <;> cases p4 <;> rfl
set_option maxRecDepth 100000 in
theorem build_two (x y : Sp) (w : World) : (Instr.buildSlice 45 2 #[(0, .agg (vec 2 (spE x))), (1, .agg (vec 2 (spE y)))]).run Try.prog w = .ok (.slice (some ⟨w.heap.size, 0, none⟩) 2 2) (w.alloc (.cells (cellsE 2 spE [x, y]).toArray 49)) := by
  obtain ⟨i0, hi, hz0, hz1, hz2⟩ := info_parts info_span
  refine run_buildSlice (P := Try.prog) w 45 49 2 _ _ i0 (.agg (vec 2 (spE (0, 0)))) Try.underlying45 hi hz0 (by rw [hz1]; decide) (by rw [hz1]; decide) ?_
  rw [hz1]
  kernel_rfl
theorem row_two (x y : Sp) (w : World) : Row (w.alloc (.cells (cellsE 2 spE [x, y]).toArray 49)) (w.alloc (.cells (cellsE 2 spE [x, y]).toArray 49)).heap.size (some ⟨w.heap.size, 0, none⟩) [x, y] := by
  have h := World.ownsRow_lit (base := w.heap.size) (e := 49) (size := 2) w (cellsE 2 spE [x, y]).toArray 2 (Nat.le_refl _) (by decide) (by rfl)
  have ho : OwnS (w.alloc (.cells (cellsE 2 spE [x, y]).toArray 49)) w.heap.size (.slice (some ⟨w.heap.size, 0, none⟩) 2 2) [x, y] := h
  obtain ⟨A, c, e, -, hr, -⟩ := ho.form
  injection e with e _ _
  subst e
  exact RowE.row hr
theorem ow_bs2 {o : Oper} {a : Act} {w w' : World} {K : Act → World → Prop} {Q : Exit → Act → World → Prop} (t : TypeId) (x y : Operand) (ho : o.op = .buildSlice t 2 #[(0, x), (1, y)]) (v0 v1 : Value) (hx : a.eval x = v0) (hy : a.eval y = v1) {v : Value} (hr : (Instr.buildSlice t 2 #[(0, v0), (1, v1)]).run Try.prog w = .ok v w') (h : K (a.put o.dst v) w') : o.wp Try.prog a w K Q := by
  unfold Oper.wp execOp
  subst hx hy
  simp only [ho, Sem.run_bind, List.map_toArray, List.map_cons, List.map_nil, hr, Result.andThen_ok, Sem.run_pure]
  exact h
set_option maxHeartbeats 8000000 in
set_option maxRecDepth 100000 in
theorem holds_any (m : Mp) (hm : MpB m) (w : World) : Calls Try.prog 31 #[.agg (vec 5 (mpE m))] w (EqV (gdM m) w) := by
  obtain ⟨g, hg⟩ : ∃ g, g = w.heap.size := ⟨_, rfl⟩
  obtain ⟨h, hh⟩ : ∃ h, h = w.heap.size + 1 := ⟨_, rfl⟩
  obtain ⟨V, hV⟩ : ∃ V, V = ((w.alloc (.cells (vec 5 (mpE m)) 39)).alloc (.cells (vec 2 (spE (0, 0))) 49)).setRow (w.heap.size + 1) (vec 2 (spE allS)) := ⟨_, rfl⟩
  have k1 : Arr V g 39 5 (mpE m) := by rw [hV, hg]; exact ((Arr.new w _ _ _).alloc _).rowFar (by omega) _
  have k2 : Arr V h 49 2 (spE allS) := by rw [hV, hh]; exact (Arr.newAt _ _ _ _ (by simp)).row _
  have hB : Below w.heap.size w V := by rw [hV]; exact below_row (((Below.refl _ _).alloc (Nat.le_refl _) _).alloc (by simp) _) (by omega) _
  have HV := Lib.hid hV
  have HG := Lib.hid (And.intro hg hh)
  have HB := Lib.hid hB
  have HA := Lib.hid k1
  have HS := Lib.hid k2
  have HSE := Lib.hid (fun W => seen_any m hm W)
  have HPH := Lib.hid (fun W => physical_any m hm W)
  have HWI := Lib.hid (fun W => withinE (ipaS m) allS (fit_ipa hm) (by unfold fit allS; decide) W)
  have HWP := Lib.hid (fun W => withinE (paS m) allS (fit_pa hm) (by unfold fit allS; decide) W)
  have HPA : Hid (∀ W : World, Calls Try.prog 42 #[.slice (some ⟨W.heap.size, 0, none⟩) 2 2] (W.alloc (.cells (cellsE 2 spE [ipaS m, paS m]).toArray 49)) (EqV ([ipaS m, paS m].all paged) (W.alloc (.cells (cellsE 2 spE [ipaS m, paS m]).toArray 49)))) := Lib.hid fun W =>
    pagesE _ 2 [ipaS m, paS m] (by simp) (fun x hx => by
      rcases List.mem_cons.1 hx with rfl | hx
      · exact fit_ipa hm
      · obtain rfl := List.mem_singleton.1 hx
        exact fit_pa hm) _ (row_two _ _ W)
  have hgm := gdM_eq m
  have hbt := fun W => build_two (ipaS m) (paS m) W
  obtain ⟨si, hsi⟩ : ∃ s, s = ipaS m := ⟨_, rfl⟩
  obtain ⟨sp, hsp⟩ : ∃ s, s = paS m := ⟨_, rfl⟩
  obtain ⟨b1, hb1⟩ : ∃ b, b = [ipaS m, paS m].all paged := ⟨_, rfl⟩
  obtain ⟨b2, hb2⟩ : ∃ b, b = within (ipaS m) allS := ⟨_, rfl⟩
  obtain ⟨b3, hb3⟩ : ∃ b, b = within (paS m) allS := ⟨_, rfl⟩
  rw [← hb1, ← hb2, ← hb3] at hgm
  rw [← hb1] at HPA
  rw [← hb2] at HWI
  rw [← hb3] at HWP
  rw [← hsi] at HSE HWI HPA hbt
  rw [← hsp] at HPH HWP HPA hbt
  rw [hgm]
  obtain ⟨mq, hmq⟩ : ∃ q, q = m.perm := ⟨_, rfl⟩
  obtain ⟨mk, hmk⟩ : ∃ q, q = m.kind := ⟨_, rfl⟩
  rw [← hmq, ← hmk]
  obtain ⟨r, hr⟩ : ∃ r, r = (b1 && (b2 && (b3 && (decide (1 ≤ mq) && (decide (mq ≤ 7) && (decide (mk = 0) || decide (mk = 1))))))) := ⟨_, rfl⟩
  rw [← hr]
  have HRR := Lib.hid hr
  unfold EqV at HPA HWI HWP ⊢
  have HBT := Lib.hid hbt
  have hcell : ∀ W, Below V.heap.size V W → W.cell? ⟨g, 3, none⟩ = some (.int .i64 mq) ∧ W.cell? ⟨g, 4, none⟩ = some (.int .i64 mk) := fun W hW => by
    have h := k1.under hW
    rw [hmq, hmk]
    exact ⟨h.cell (i := 3) (by decide), h.cell (i := 4) (by decide)⟩
  have HC := Lib.hid hcell
  clear hV hg hh k1 k2 hB hm hgm hsi hsp hb1 hb2 hb3 hbt hcell hmq hmk hr
  go_enter Try.func31, Try.ntmps31
  go_upto_region 2 with (first
    | ((with_reducible show wpList _ _ _ (Oper.mk _ (.build _ _) _ _ _ _ :: _) _ _); refine wl_build rfl 49 _ rfl (vec 2 (spE allS)) (by kernel_rfl) ?_)
    | ((with_reducible show wpList _ _ _ (Oper.mk _ (.store _ _ _) _ _ _ _ :: _) _ _); refine wl_store rfl 49 _ _ rfl (w.heap.size + 1) rfl _ rfl (run_store_arr (Arr.newAt _ _ _ _ (by simp)) (spE allS) infoSp (spE_one _ _)) ?_))
  rw [← HV.out, ← HG.out.2, ← HG.out.1]
  clear HV HG
  cases b1
  · skip
    have HR : Hid (r = false) := Lib.hid (by rw [HRR.out]; simp [])
    refine wp_region_held_drew (S := fun Y => VS V Y) (by kernel_rfl) (VS.begin V) (fun hS => ?_)
    (refine held_take (i := 0) (oi := ?ot1) (v := .agg (vec 5 (mpE m))) ?at1 (by kernel_rfl) (by kernel_rfl) (by kernel_rfl) ?bt1 ?ct1 ?dt1 (by assumption) ?rt1; (case at1 => (simp only [List.getElem?_toArray, List.getElem?_cons_zero]; rfl)); (case bt1 => exact fun _ _ _ h => h); (case ct1 => kernel_rfl); (case dt1 => (intro W hW; exact exec_load_at 39 _ rfl g 0 rfl _ (run_load_arr (HA.out.under (show Below V.heap.size V W from hW)) Try.underlying39 rfl infoMp))); (case' rt1 => simp only [Act.put, List.setIfInBounds_toArray, List.set_cons_zero, List.set_cons_succ]))
    (refine held_take (i := 2) (oi := ?ot2) (v := .agg (vec 5 (mpE m))) ?at2 (by kernel_rfl) (by kernel_rfl) (by kernel_rfl) ?bt2 ?ct2 ?dt2 (by assumption) ?rt2; (case at2 => (simp only [List.getElem?_toArray, List.getElem?_cons_zero, List.getElem?_cons_succ]; rfl)); (case bt2 => exact fun _ _ _ h => h); (case ct2 => kernel_rfl); (case dt2 => (intro W hW; exact exec_load_at 39 _ rfl g 0 rfl _ (run_load_arr (HA.out.under (show Below V.heap.size V W from hW)) Try.underlying39 rfl infoMp))); (case' rt2 => simp only [Act.put, List.setIfInBounds_toArray, List.set_cons_zero, List.set_cons_succ]))
    refine held_one (i := 1) (oi := ?ot3) (by kernel_rfl) ?at3 ?ct3 (fun K1 hK1 => ?_)
    (case at3 => (simp only [List.getElem?_toArray, List.getElem?_cons_zero, List.getElem?_cons_succ]; rfl))
    (case ct3 => kernel_rfl)
    go_simp
    refine (HSE.out _).mono ?_
    rintro e y1 ⟨rfl, hd⟩
    refine hK1 _ _ ((show VS V _ from hS).keep hd) (fun hS1 => ?_)
    clear hd hS hK1 K1
    refine held_one (i := 3) (oi := ?ot4) (by kernel_rfl) ?at4 ?ct4 (fun K3 hK3 => ?_)
    (case at4 => (simp only [List.getElem?_toArray, List.getElem?_cons_zero, List.getElem?_cons_succ]; rfl))
    (case ct4 => kernel_rfl)
    go_simp
    refine (HPH.out _).mono ?_
    rintro e y3 ⟨rfl, hd⟩
    refine hK3 _ _ ((show VS V _ from hS1).keep hd) (fun hS3 => ?_)
    clear hd hS1 hK3 K3
    refine held_one (i := 4) (oi := ?ot5) (by kernel_rfl) ?at5 ?ct5 (fun K4 hK4 => ?_)
    (case at5 => (simp only [List.getElem?_toArray, List.getElem?_cons_zero, List.getElem?_cons_succ]; rfl))
    (case ct5 => kernel_rfl)
    refine ow_bs2 45 _ _ rfl (.agg (vec 2 (spE si))) (.agg (vec 2 (spE sp))) rfl rfl (HBT.out _) ?_
    obtain ⟨Y4, hY4⟩ : ∃ Y : World, Y = y3 := ⟨_, rfl⟩
    refine hK4 _ _ ((show VS V _ from hS3).keep ((Below.refl _ _).alloc (Nat.le_refl _) _)) (fun hS4 => ?_)
    clear hS3 hK4 K4 hY4
    refine held_one (i := 5) (oi := ?ot6) (by kernel_rfl) ?at6 ?ct6 (fun K5 hK5 => ?_)
    (case at6 => (simp only [List.getElem?_toArray, List.getElem?_cons_zero, List.getElem?_cons_succ]; rfl))
    (case ct6 => kernel_rfl)
    go_simp
    refine (HPA.out _).mono ?_
    rintro e y5 ⟨rfl, hd⟩
    refine hK5 _ _ ((show VS V _ from hS4).keep hd) (fun hS5 => ?_)
    clear hd hS4 hK5 K5
    (refine held_take (i := 6) (oi := ?ot7) (v := ?vt7) ?at7 (by kernel_rfl) (by kernel_rfl) (by kernel_rfl) ?bt7 ?ct7 ?dt7 (by assumption) ?rt7; (case at7 => (simp only [List.getElem?_toArray, List.getElem?_cons_zero, List.getElem?_cons_succ]; rfl)); (case bt7 => exact fun _ _ _ h => h); (case ct7 => kernel_rfl); (case dt7 => (intro W hW; (try dsimp only at hW); go_split_ands; go_simp; (try with_reducible rfl))); (case' rt7 => simp only [Act.put, List.setIfInBounds_toArray, List.set_cons_zero, List.set_cons_succ]))
    (refine held_skip (i := 7) (oi := ?ot8) ?at8 (by kernel_rfl) (by kernel_rfl) (by kernel_rfl) ?bt8 ?ct8 (by assumption) ?rt8; (case at8 => (simp only [List.getElem?_toArray, List.getElem?_cons_zero, List.getElem?_cons_succ]; rfl)); (case bt8 => exact fun _ _ _ h => h); (case ct8 => kernel_rfl); (case' rt8 => simp only [Act.put, List.setIfInBounds_toArray, List.set_cons_zero, List.set_cons_succ]))
    (refine held_skip (i := 8) (oi := ?ot9) ?at9 (by kernel_rfl) (by kernel_rfl) (by kernel_rfl) ?bt9 ?ct9 (by assumption) ?rt9; (case at9 => (simp only [List.getElem?_toArray, List.getElem?_cons_zero, List.getElem?_cons_succ]; rfl)); (case bt9 => exact fun _ _ _ h => h); (case ct9 => kernel_rfl); (case' rt9 => simp only [Act.put, List.setIfInBounds_toArray, List.set_cons_zero, List.set_cons_succ]))
    (refine held_skip (i := 9) (oi := ?ot10) ?at10 (by kernel_rfl) (by kernel_rfl) (by kernel_rfl) ?bt10 ?ct10 (by assumption) ?rt10; (case at10 => (simp only [List.getElem?_toArray, List.getElem?_cons_zero, List.getElem?_cons_succ]; rfl)); (case bt10 => exact fun _ _ _ h => h); (case ct10 => kernel_rfl); (case' rt10 => simp only [Act.put, List.setIfInBounds_toArray, List.set_cons_zero, List.set_cons_succ]))
    (refine held_skip (i := 10) (oi := ?ot11) ?at11 (by kernel_rfl) (by kernel_rfl) (by kernel_rfl) ?bt11 ?ct11 (by assumption) ?rt11; (case at11 => (simp only [List.getElem?_toArray, List.getElem?_cons_zero, List.getElem?_cons_succ]; rfl)); (case bt11 => exact fun _ _ _ h => h); (case ct11 => kernel_rfl); (case' rt11 => simp only [Act.put, List.setIfInBounds_toArray, List.set_cons_zero, List.set_cons_succ]))
    (refine held_take (i := 11) (oi := ?ot12) (v := ?vt12) ?at12 (by kernel_rfl) (by kernel_rfl) (by kernel_rfl) ?bt12 ?ct12 ?dt12 (by assumption) ?rt12; (case at12 => (simp only [List.getElem?_toArray, List.getElem?_cons_zero, List.getElem?_cons_succ]; rfl)); (case bt12 => exact fun _ _ _ h => h); (case ct12 => kernel_rfl); (case dt12 => (intro W hW; (try dsimp only at hW); go_split_ands; go_simp; (try with_reducible rfl))); (case' rt12 => simp only [Act.put, List.setIfInBounds_toArray, List.set_cons_zero, List.set_cons_succ]))
    (refine held_take (i := 12) (oi := ?ot13) (v := ?vt13) ?at13 (by kernel_rfl) (by kernel_rfl) (by kernel_rfl) ?bt13 ?ct13 ?dt13 (by assumption) ?rt13; (case at13 => (simp only [List.getElem?_toArray, List.getElem?_cons_zero, List.getElem?_cons_succ]; rfl)); (case bt13 => exact fun _ _ _ h => h); (case ct13 => kernel_rfl); (case dt13 => (intro W hW; (try dsimp only at hW); go_split_ands; go_simp; (try with_reducible rfl))); (case' rt13 => simp only [Act.put, List.setIfInBounds_toArray, List.set_cons_zero, List.set_cons_succ]))
    (refine held_skip (i := 13) (oi := ?ot14) ?at14 (by kernel_rfl) (by kernel_rfl) (by kernel_rfl) ?bt14 ?ct14 (by assumption) ?rt14; (case at14 => (simp only [List.getElem?_toArray, List.getElem?_cons_zero, List.getElem?_cons_succ]; rfl)); (case bt14 => exact fun _ _ _ h => h); (case ct14 => kernel_rfl); (case' rt14 => simp only [Act.put, List.setIfInBounds_toArray, List.set_cons_zero, List.set_cons_succ]))
    (refine held_skip (i := 14) (oi := ?ot15) ?at15 (by kernel_rfl) (by kernel_rfl) (by kernel_rfl) ?bt15 ?ct15 (by assumption) ?rt15; (case at15 => (simp only [List.getElem?_toArray, List.getElem?_cons_zero, List.getElem?_cons_succ]; rfl)); (case bt15 => exact fun _ _ _ h => h); (case ct15 => kernel_rfl); (case' rt15 => simp only [Act.put, List.setIfInBounds_toArray, List.set_cons_zero, List.set_cons_succ]))
    (refine held_skip (i := 15) (oi := ?ot16) ?at16 (by kernel_rfl) (by kernel_rfl) (by kernel_rfl) ?bt16 ?ct16 (by assumption) ?rt16; (case at16 => (simp only [List.getElem?_toArray, List.getElem?_cons_zero, List.getElem?_cons_succ]; rfl)); (case bt16 => exact fun _ _ _ h => h); (case ct16 => kernel_rfl); (case' rt16 => simp only [Act.put, List.setIfInBounds_toArray, List.set_cons_zero, List.set_cons_succ]))
    (refine held_skip (i := 16) (oi := ?ot17) ?at17 (by kernel_rfl) (by kernel_rfl) (by kernel_rfl) ?bt17 ?ct17 (by assumption) ?rt17; (case at17 => (simp only [List.getElem?_toArray, List.getElem?_cons_zero, List.getElem?_cons_succ]; rfl)); (case bt17 => exact fun _ _ _ h => h); (case ct17 => kernel_rfl); (case' rt17 => simp only [Act.put, List.setIfInBounds_toArray, List.set_cons_zero, List.set_cons_succ]))
    (refine held_take (i := 17) (oi := ?ot18) (v := ?vt18) ?at18 (by kernel_rfl) (by kernel_rfl) (by kernel_rfl) ?bt18 ?ct18 ?dt18 (by assumption) ?rt18; (case at18 => (simp only [List.getElem?_toArray, List.getElem?_cons_zero, List.getElem?_cons_succ]; rfl)); (case bt18 => exact fun _ _ _ h => h); (case ct18 => kernel_rfl); (case dt18 => (intro W hW; (try dsimp only at hW); go_split_ands; go_simp; (try with_reducible rfl))); (case' rt18 => simp only [Act.put, List.setIfInBounds_toArray, List.set_cons_zero, List.set_cons_succ]))
    (refine held_take (i := 18) (oi := ?ot19) (v := ?vt19) ?at19 (by kernel_rfl) (by kernel_rfl) (by kernel_rfl) ?bt19 ?ct19 ?dt19 (by assumption) ?rt19; (case at19 => (simp only [List.getElem?_toArray, List.getElem?_cons_zero, List.getElem?_cons_succ]; rfl)); (case bt19 => exact fun _ _ _ h => h); (case ct19 => kernel_rfl); (case dt19 => (intro W hW; (try dsimp only at hW); go_split_ands; go_simp; (try with_reducible rfl))); (case' rt19 => simp only [Act.put, List.setIfInBounds_toArray, List.set_cons_zero, List.set_cons_succ]))
    (refine held_skip (i := 19) (oi := ?ot20) ?at20 (by kernel_rfl) (by kernel_rfl) (by kernel_rfl) ?bt20 ?ct20 (by assumption) ?rt20; (case at20 => (simp only [List.getElem?_toArray, List.getElem?_cons_zero, List.getElem?_cons_succ]; rfl)); (case bt20 => exact fun _ _ _ h => h); (case ct20 => kernel_rfl); (case' rt20 => simp only [Act.put, List.setIfInBounds_toArray, List.set_cons_zero, List.set_cons_succ]))
    (refine held_skip (i := 20) (oi := ?ot21) ?at21 (by kernel_rfl) (by kernel_rfl) (by kernel_rfl) ?bt21 ?ct21 (by assumption) ?rt21; (case at21 => (simp only [List.getElem?_toArray, List.getElem?_cons_zero, List.getElem?_cons_succ]; rfl)); (case bt21 => exact fun _ _ _ h => h); (case ct21 => kernel_rfl); (case' rt21 => simp only [Act.put, List.setIfInBounds_toArray, List.set_cons_zero, List.set_cons_succ]))
    (refine held_skip (i := 21) (oi := ?ot22) ?at22 (by kernel_rfl) (by kernel_rfl) (by kernel_rfl) ?bt22 ?ct22 (by assumption) ?rt22; (case at22 => (simp only [List.getElem?_toArray, List.getElem?_cons_zero, List.getElem?_cons_succ]; rfl)); (case bt22 => exact fun _ _ _ h => h); (case ct22 => kernel_rfl); (case' rt22 => simp only [Act.put, List.setIfInBounds_toArray, List.set_cons_zero, List.set_cons_succ]))
    (refine held_take (i := 22) (oi := ?ot23) (v := ?vt23) ?at23 (by kernel_rfl) (by kernel_rfl) (by kernel_rfl) ?bt23 ?ct23 ?dt23 (by assumption) ?rt23; (case at23 => (simp only [List.getElem?_toArray, List.getElem?_cons_zero, List.getElem?_cons_succ]; rfl)); (case bt23 => exact fun _ _ _ h => h); (case ct23 => kernel_rfl); (case dt23 => (intro W hW; (try dsimp only at hW); go_split_ands; go_simp; (try with_reducible rfl))); (case' rt23 => simp only [Act.put, List.setIfInBounds_toArray, List.set_cons_zero, List.set_cons_succ]))
    (refine held_take (i := 23) (oi := ?ot24) (v := ?vt24) ?at24 (by kernel_rfl) (by kernel_rfl) (by kernel_rfl) ?bt24 ?ct24 ?dt24 (by assumption) ?rt24; (case at24 => (simp only [List.getElem?_toArray, List.getElem?_cons_zero, List.getElem?_cons_succ]; rfl)); (case bt24 => exact fun _ _ _ h => h); (case ct24 => kernel_rfl); (case dt24 => (intro W hW; (try dsimp only at hW); go_split_ands; go_simp; (try with_reducible rfl))); (case' rt24 => simp only [Act.put, List.setIfInBounds_toArray, List.set_cons_zero, List.set_cons_succ]))
    (refine held_skip (i := 24) (oi := ?ot25) ?at25 (by kernel_rfl) (by kernel_rfl) (by kernel_rfl) ?bt25 ?ct25 (by assumption) ?rt25; (case at25 => (simp only [List.getElem?_toArray, List.getElem?_cons_zero, List.getElem?_cons_succ]; rfl)); (case bt25 => exact fun _ _ _ h => h); (case ct25 => kernel_rfl); (case' rt25 => simp only [Act.put, List.setIfInBounds_toArray, List.set_cons_zero, List.set_cons_succ]))
    (refine held_skip (i := 25) (oi := ?ot26) ?at26 (by kernel_rfl) (by kernel_rfl) (by kernel_rfl) ?bt26 ?ct26 (by assumption) ?rt26; (case at26 => (simp only [List.getElem?_toArray, List.getElem?_cons_zero, List.getElem?_cons_succ]; rfl)); (case bt26 => exact fun _ _ _ h => h); (case ct26 => kernel_rfl); (case' rt26 => simp only [Act.put, List.setIfInBounds_toArray, List.set_cons_zero, List.set_cons_succ]))
    (refine held_skip (i := 26) (oi := ?ot27) ?at27 (by kernel_rfl) (by kernel_rfl) (by kernel_rfl) ?bt27 ?ct27 (by assumption) ?rt27; (case at27 => (simp only [List.getElem?_toArray, List.getElem?_cons_zero, List.getElem?_cons_succ]; rfl)); (case bt27 => exact fun _ _ _ h => h); (case ct27 => kernel_rfl); (case' rt27 => simp only [Act.put, List.setIfInBounds_toArray, List.set_cons_zero, List.set_cons_succ]))
    (refine held_take (i := 27) (oi := ?ot28) (v := ?vt28) ?at28 (by kernel_rfl) (by kernel_rfl) (by kernel_rfl) ?bt28 ?ct28 ?dt28 (by assumption) ?rt28; (case at28 => (simp only [List.getElem?_toArray, List.getElem?_cons_zero, List.getElem?_cons_succ]; rfl)); (case bt28 => exact fun _ _ _ h => h); (case ct28 => kernel_rfl); (case dt28 => (intro W hW; (try dsimp only at hW); go_split_ands; go_simp; (try with_reducible rfl))); (case' rt28 => simp only [Act.put, List.setIfInBounds_toArray, List.set_cons_zero, List.set_cons_succ]))
    (refine held_take (i := 28) (oi := ?ot29) (v := ?vt29) ?at29 (by kernel_rfl) (by kernel_rfl) (by kernel_rfl) ?bt29 ?ct29 ?dt29 (by assumption) ?rt29; (case at29 => (simp only [List.getElem?_toArray, List.getElem?_cons_zero, List.getElem?_cons_succ]; rfl)); (case bt29 => exact fun _ _ _ h => h); (case ct29 => kernel_rfl); (case dt29 => (intro W hW; (try dsimp only at hW); go_split_ands; go_simp; (try with_reducible rfl))); (case' rt29 => simp only [Act.put, List.setIfInBounds_toArray, List.set_cons_zero, List.set_cons_succ]))
    (refine held_skip (i := 29) (oi := ?ot30) ?at30 (by kernel_rfl) (by kernel_rfl) (by kernel_rfl) ?bt30 ?ct30 (by assumption) ?rt30; (case at30 => (simp only [List.getElem?_toArray, List.getElem?_cons_zero, List.getElem?_cons_succ]; rfl)); (case bt30 => exact fun _ _ _ h => h); (case ct30 => kernel_rfl); (case' rt30 => simp only [Act.put, List.setIfInBounds_toArray, List.set_cons_zero, List.set_cons_succ]))
    (refine held_skip (i := 30) (oi := ?ot31) ?at31 (by kernel_rfl) (by kernel_rfl) (by kernel_rfl) ?bt31 ?ct31 (by assumption) ?rt31; (case at31 => (simp only [List.getElem?_toArray, List.getElem?_cons_zero, List.getElem?_cons_succ]; rfl)); (case bt31 => exact fun _ _ _ h => h); (case ct31 => kernel_rfl); (case' rt31 => simp only [Act.put, List.setIfInBounds_toArray, List.set_cons_zero, List.set_cons_succ]))
    (refine held_skip (i := 31) (oi := ?ot32) ?at32 (by kernel_rfl) (by kernel_rfl) (by kernel_rfl) ?bt32 ?ct32 (by assumption) ?rt32; (case at32 => (simp only [List.getElem?_toArray, List.getElem?_cons_zero, List.getElem?_cons_succ]; rfl)); (case bt32 => exact fun _ _ _ h => h); (case ct32 => kernel_rfl); (case' rt32 => simp only [Act.put, List.setIfInBounds_toArray, List.set_cons_zero, List.set_cons_succ]))
    (refine held_skip (i := 32) (oi := ?ot33) ?at33 (by kernel_rfl) (by kernel_rfl) (by kernel_rfl) ?bt33 ?ct33 (by assumption) ?rt33; (case at33 => (simp only [List.getElem?_toArray, List.getElem?_cons_zero, List.getElem?_cons_succ]; rfl)); (case bt33 => exact fun _ _ _ h => h); (case ct33 => kernel_rfl); (case' rt33 => simp only [Act.put, List.setIfInBounds_toArray, List.set_cons_zero, List.set_cons_succ]))
    (refine held_skip (i := 33) (oi := ?ot34) ?at34 (by kernel_rfl) (by kernel_rfl) (by kernel_rfl) ?bt34 ?ct34 (by assumption) ?rt34; (case at34 => (simp only [List.getElem?_toArray, List.getElem?_cons_zero, List.getElem?_cons_succ]; rfl)); (case bt34 => exact fun _ _ _ h => h); (case ct34 => kernel_rfl); (case' rt34 => simp only [Act.put, List.setIfInBounds_toArray, List.set_cons_zero, List.set_cons_succ]))
    (refine held_skip (i := 34) (oi := ?ot35) ?at35 (by kernel_rfl) (by kernel_rfl) (by kernel_rfl) ?bt35 ?ct35 (by assumption) ?rt35; (case at35 => (simp only [List.getElem?_toArray, List.getElem?_cons_zero, List.getElem?_cons_succ]; rfl)); (case bt35 => exact fun _ _ _ h => h); (case ct35 => kernel_rfl); (case' rt35 => simp only [Act.put, List.setIfInBounds_toArray, List.set_cons_zero, List.set_cons_succ]))
    (refine held_skip (i := 35) (oi := ?ot36) ?at36 (by kernel_rfl) (by kernel_rfl) (by kernel_rfl) ?bt36 ?ct36 (by assumption) ?rt36; (case at36 => (simp only [List.getElem?_toArray, List.getElem?_cons_zero, List.getElem?_cons_succ]; rfl)); (case bt36 => exact fun _ _ _ h => h); (case ct36 => kernel_rfl); (case' rt36 => simp only [Act.put, List.setIfInBounds_toArray, List.set_cons_zero, List.set_cons_succ]))
    (refine held_skip (i := 36) (oi := ?ot37) ?at37 (by kernel_rfl) (by kernel_rfl) (by kernel_rfl) ?bt37 ?ct37 (by assumption) ?rt37; (case at37 => (simp only [List.getElem?_toArray, List.getElem?_cons_zero, List.getElem?_cons_succ]; rfl)); (case bt37 => exact fun _ _ _ h => h); (case ct37 => kernel_rfl); (case' rt37 => simp only [Act.put, List.setIfInBounds_toArray, List.set_cons_zero, List.set_cons_succ]))
    (refine held_take (i := 37) (oi := ?ot38) (v := ?vt38) ?at38 (by kernel_rfl) (by kernel_rfl) (by kernel_rfl) ?bt38 ?ct38 ?dt38 (by assumption) ?rt38; (case at38 => (simp only [List.getElem?_toArray, List.getElem?_cons_zero, List.getElem?_cons_succ]; rfl)); (case bt38 => exact fun _ _ _ h => h); (case ct38 => kernel_rfl); (case dt38 => (intro W hW; (try dsimp only at hW); go_split_ands; go_simp; (try with_reducible rfl))); (case' rt38 => simp only [Act.put, List.setIfInBounds_toArray, List.set_cons_zero, List.set_cons_succ]))
    (refine held_take (i := 38) (oi := ?ot39) (v := ?vt39) ?at39 (by kernel_rfl) (by kernel_rfl) (by kernel_rfl) ?bt39 ?ct39 ?dt39 (by assumption) ?rt39; (case at39 => (simp only [List.getElem?_toArray, List.getElem?_cons_zero, List.getElem?_cons_succ]; rfl)); (case bt39 => exact fun _ _ _ h => h); (case ct39 => kernel_rfl); (case dt39 => (intro W hW; (try dsimp only at hW); go_split_ands; go_simp; (try with_reducible rfl))); (case' rt39 => simp only [Act.put, List.setIfInBounds_toArray, List.set_cons_zero, List.set_cons_succ]))
    refine wpAnyH_done (by kernel_rfl) ?_ _
    go_wp2
    go_ret
    exact ⟨by rw [HR.out]; rfl, HB.out.trans ((show Below V.heap.size V _ from hS5).mono HB.out.size)⟩
  · cases b2
    · skip
      have HR : Hid (r = false) := Lib.hid (by rw [HRR.out]; simp [])
      refine wp_region_held_drew (S := fun Y => VS V Y) (by kernel_rfl) (VS.begin V) (fun hS => ?_)
      (refine held_take (i := 0) (oi := ?ot40) (v := .agg (vec 5 (mpE m))) ?at40 (by kernel_rfl) (by kernel_rfl) (by kernel_rfl) ?bt40 ?ct40 ?dt40 (by assumption) ?rt40; (case at40 => (simp only [List.getElem?_toArray, List.getElem?_cons_zero]; rfl)); (case bt40 => exact fun _ _ _ h => h); (case ct40 => kernel_rfl); (case dt40 => (intro W hW; exact exec_load_at 39 _ rfl g 0 rfl _ (run_load_arr (HA.out.under (show Below V.heap.size V W from hW)) Try.underlying39 rfl infoMp))); (case' rt40 => simp only [Act.put, List.setIfInBounds_toArray, List.set_cons_zero, List.set_cons_succ]))
      (refine held_take (i := 2) (oi := ?ot41) (v := .agg (vec 5 (mpE m))) ?at41 (by kernel_rfl) (by kernel_rfl) (by kernel_rfl) ?bt41 ?ct41 ?dt41 (by assumption) ?rt41; (case at41 => (simp only [List.getElem?_toArray, List.getElem?_cons_zero, List.getElem?_cons_succ]; rfl)); (case bt41 => exact fun _ _ _ h => h); (case ct41 => kernel_rfl); (case dt41 => (intro W hW; exact exec_load_at 39 _ rfl g 0 rfl _ (run_load_arr (HA.out.under (show Below V.heap.size V W from hW)) Try.underlying39 rfl infoMp))); (case' rt41 => simp only [Act.put, List.setIfInBounds_toArray, List.set_cons_zero, List.set_cons_succ]))
      refine held_one (i := 1) (oi := ?ot42) (by kernel_rfl) ?at42 ?ct42 (fun K1 hK1 => ?_)
      (case at42 => (simp only [List.getElem?_toArray, List.getElem?_cons_zero, List.getElem?_cons_succ]; rfl))
      (case ct42 => kernel_rfl)
      go_simp
      refine (HSE.out _).mono ?_
      rintro e y1 ⟨rfl, hd⟩
      refine hK1 _ _ ((show VS V _ from hS).keep hd) (fun hS1 => ?_)
      clear hd hS hK1 K1
      refine held_one (i := 3) (oi := ?ot43) (by kernel_rfl) ?at43 ?ct43 (fun K3 hK3 => ?_)
      (case at43 => (simp only [List.getElem?_toArray, List.getElem?_cons_zero, List.getElem?_cons_succ]; rfl))
      (case ct43 => kernel_rfl)
      go_simp
      refine (HPH.out _).mono ?_
      rintro e y3 ⟨rfl, hd⟩
      refine hK3 _ _ ((show VS V _ from hS1).keep hd) (fun hS3 => ?_)
      clear hd hS1 hK3 K3
      refine held_one (i := 4) (oi := ?ot44) (by kernel_rfl) ?at44 ?ct44 (fun K4 hK4 => ?_)
      (case at44 => (simp only [List.getElem?_toArray, List.getElem?_cons_zero, List.getElem?_cons_succ]; rfl))
      (case ct44 => kernel_rfl)
      refine ow_bs2 45 _ _ rfl (.agg (vec 2 (spE si))) (.agg (vec 2 (spE sp))) rfl rfl (HBT.out _) ?_
      obtain ⟨Y4, hY4⟩ : ∃ Y : World, Y = y3 := ⟨_, rfl⟩
      refine hK4 _ _ ((show VS V _ from hS3).keep ((Below.refl _ _).alloc (Nat.le_refl _) _)) (fun hS4 => ?_)
      clear hS3 hK4 K4 hY4
      refine held_one (i := 5) (oi := ?ot45) (by kernel_rfl) ?at45 ?ct45 (fun K5 hK5 => ?_)
      (case at45 => (simp only [List.getElem?_toArray, List.getElem?_cons_zero, List.getElem?_cons_succ]; rfl))
      (case ct45 => kernel_rfl)
      go_simp
      refine (HPA.out _).mono ?_
      rintro e y5 ⟨rfl, hd⟩
      refine hK5 _ _ ((show VS V _ from hS4).keep hd) (fun hS5 => ?_)
      clear hd hS4 hK5 K5
      (refine held_take (i := 6) (oi := ?ot46) (v := ?vt46) ?at46 (by kernel_rfl) (by kernel_rfl) (by kernel_rfl) ?bt46 ?ct46 ?dt46 (by assumption) ?rt46; (case at46 => (simp only [List.getElem?_toArray, List.getElem?_cons_zero, List.getElem?_cons_succ]; rfl)); (case bt46 => exact fun _ _ _ h => h); (case ct46 => kernel_rfl); (case dt46 => (intro W hW; (try dsimp only at hW); go_split_ands; go_simp; (try with_reducible rfl))); (case' rt46 => simp only [Act.put, List.setIfInBounds_toArray, List.set_cons_zero, List.set_cons_succ]))
      (refine held_take (i := 7) (oi := ?ot47) (v := .agg (vec 5 (mpE m))) ?at47 (by kernel_rfl) (by kernel_rfl) (by kernel_rfl) ?bt47 ?ct47 ?dt47 (by assumption) ?rt47; (case at47 => (simp only [List.getElem?_toArray, List.getElem?_cons_zero, List.getElem?_cons_succ]; rfl)); (case bt47 => exact fun _ _ _ h => h); (case ct47 => kernel_rfl); (case dt47 => (intro W hW; exact exec_load_at 39 _ rfl g 0 rfl _ (run_load_arr (HA.out.under (show Below V.heap.size V W from hW)) Try.underlying39 rfl infoMp))); (case' rt47 => simp only [Act.put, List.setIfInBounds_toArray, List.set_cons_zero, List.set_cons_succ]))
      (refine held_take (i := 9) (oi := ?ot48) (v := .agg (vec 2 (spE allS))) ?at48 (by kernel_rfl) (by kernel_rfl) (by kernel_rfl) ?bt48 ?ct48 ?dt48 (by assumption) ?rt48; (case at48 => (simp only [List.getElem?_toArray, List.getElem?_cons_zero, List.getElem?_cons_succ]; rfl)); (case bt48 => exact fun _ _ _ h => h); (case ct48 => kernel_rfl); (case dt48 => (intro W hW; exact exec_load_at 49 _ rfl h 0 rfl _ (run_load_arr (HS.out.under (show Below V.heap.size V W from hW)) Try.underlying49 rfl infoSp))); (case' rt48 => simp only [Act.put, List.setIfInBounds_toArray, List.set_cons_zero, List.set_cons_succ]))
      refine held_one (i := 8) (oi := ?ot49) (by kernel_rfl) ?at49 ?ct49 (fun K8 hK8 => ?_)
      (case at49 => (simp only [List.getElem?_toArray, List.getElem?_cons_zero, List.getElem?_cons_succ]; rfl))
      (case ct49 => kernel_rfl)
      go_simp
      refine (HSE.out _).mono ?_
      rintro e y8 ⟨rfl, hd⟩
      refine hK8 _ _ ((show VS V _ from hS5).keep hd) (fun hS8 => ?_)
      clear hd hS5 hK8 K8
      refine held_one (i := 10) (oi := ?ot50) (by kernel_rfl) ?at50 ?ct50 (fun K10 hK10 => ?_)
      (case at50 => (simp only [List.getElem?_toArray, List.getElem?_cons_zero, List.getElem?_cons_succ]; rfl))
      (case ct50 => kernel_rfl)
      go_simp
      refine (HWI.out _).mono ?_
      rintro e y10 ⟨rfl, hd⟩
      refine hK10 _ _ ((show VS V _ from hS8).keep hd) (fun hS10 => ?_)
      clear hd hS8 hK10 K10
      (refine held_take (i := 11) (oi := ?ot51) (v := ?vt51) ?at51 (by kernel_rfl) (by kernel_rfl) (by kernel_rfl) ?bt51 ?ct51 ?dt51 (by assumption) ?rt51; (case at51 => (simp only [List.getElem?_toArray, List.getElem?_cons_zero, List.getElem?_cons_succ]; rfl)); (case bt51 => exact fun _ _ _ h => h); (case ct51 => kernel_rfl); (case dt51 => (intro W hW; (try dsimp only at hW); go_split_ands; go_simp; (try with_reducible rfl))); (case' rt51 => simp only [Act.put, List.setIfInBounds_toArray, List.set_cons_zero, List.set_cons_succ]))
      (refine held_take (i := 12) (oi := ?ot52) (v := ?vt52) ?at52 (by kernel_rfl) (by kernel_rfl) (by kernel_rfl) ?bt52 ?ct52 ?dt52 (by assumption) ?rt52; (case at52 => (simp only [List.getElem?_toArray, List.getElem?_cons_zero, List.getElem?_cons_succ]; rfl)); (case bt52 => exact fun _ _ _ h => h); (case ct52 => kernel_rfl); (case dt52 => (intro W hW; (try dsimp only at hW); go_split_ands; go_simp; (try with_reducible rfl))); (case' rt52 => simp only [Act.put, List.setIfInBounds_toArray, List.set_cons_zero, List.set_cons_succ]))
      (refine held_skip (i := 13) (oi := ?ot53) ?at53 (by kernel_rfl) (by kernel_rfl) (by kernel_rfl) ?bt53 ?ct53 (by assumption) ?rt53; (case at53 => (simp only [List.getElem?_toArray, List.getElem?_cons_zero, List.getElem?_cons_succ]; rfl)); (case bt53 => exact fun _ _ _ h => h); (case ct53 => kernel_rfl); (case' rt53 => simp only [Act.put, List.setIfInBounds_toArray, List.set_cons_zero, List.set_cons_succ]))
      (refine held_skip (i := 14) (oi := ?ot54) ?at54 (by kernel_rfl) (by kernel_rfl) (by kernel_rfl) ?bt54 ?ct54 (by assumption) ?rt54; (case at54 => (simp only [List.getElem?_toArray, List.getElem?_cons_zero, List.getElem?_cons_succ]; rfl)); (case bt54 => exact fun _ _ _ h => h); (case ct54 => kernel_rfl); (case' rt54 => simp only [Act.put, List.setIfInBounds_toArray, List.set_cons_zero, List.set_cons_succ]))
      (refine held_skip (i := 15) (oi := ?ot55) ?at55 (by kernel_rfl) (by kernel_rfl) (by kernel_rfl) ?bt55 ?ct55 (by assumption) ?rt55; (case at55 => (simp only [List.getElem?_toArray, List.getElem?_cons_zero, List.getElem?_cons_succ]; rfl)); (case bt55 => exact fun _ _ _ h => h); (case ct55 => kernel_rfl); (case' rt55 => simp only [Act.put, List.setIfInBounds_toArray, List.set_cons_zero, List.set_cons_succ]))
      (refine held_skip (i := 16) (oi := ?ot56) ?at56 (by kernel_rfl) (by kernel_rfl) (by kernel_rfl) ?bt56 ?ct56 (by assumption) ?rt56; (case at56 => (simp only [List.getElem?_toArray, List.getElem?_cons_zero, List.getElem?_cons_succ]; rfl)); (case bt56 => exact fun _ _ _ h => h); (case ct56 => kernel_rfl); (case' rt56 => simp only [Act.put, List.setIfInBounds_toArray, List.set_cons_zero, List.set_cons_succ]))
      (refine held_take (i := 17) (oi := ?ot57) (v := ?vt57) ?at57 (by kernel_rfl) (by kernel_rfl) (by kernel_rfl) ?bt57 ?ct57 ?dt57 (by assumption) ?rt57; (case at57 => (simp only [List.getElem?_toArray, List.getElem?_cons_zero, List.getElem?_cons_succ]; rfl)); (case bt57 => exact fun _ _ _ h => h); (case ct57 => kernel_rfl); (case dt57 => (intro W hW; (try dsimp only at hW); go_split_ands; go_simp; (try with_reducible rfl))); (case' rt57 => simp only [Act.put, List.setIfInBounds_toArray, List.set_cons_zero, List.set_cons_succ]))
      (refine held_take (i := 18) (oi := ?ot58) (v := ?vt58) ?at58 (by kernel_rfl) (by kernel_rfl) (by kernel_rfl) ?bt58 ?ct58 ?dt58 (by assumption) ?rt58; (case at58 => (simp only [List.getElem?_toArray, List.getElem?_cons_zero, List.getElem?_cons_succ]; rfl)); (case bt58 => exact fun _ _ _ h => h); (case ct58 => kernel_rfl); (case dt58 => (intro W hW; (try dsimp only at hW); go_split_ands; go_simp; (try with_reducible rfl))); (case' rt58 => simp only [Act.put, List.setIfInBounds_toArray, List.set_cons_zero, List.set_cons_succ]))
      (refine held_skip (i := 19) (oi := ?ot59) ?at59 (by kernel_rfl) (by kernel_rfl) (by kernel_rfl) ?bt59 ?ct59 (by assumption) ?rt59; (case at59 => (simp only [List.getElem?_toArray, List.getElem?_cons_zero, List.getElem?_cons_succ]; rfl)); (case bt59 => exact fun _ _ _ h => h); (case ct59 => kernel_rfl); (case' rt59 => simp only [Act.put, List.setIfInBounds_toArray, List.set_cons_zero, List.set_cons_succ]))
      (refine held_skip (i := 20) (oi := ?ot60) ?at60 (by kernel_rfl) (by kernel_rfl) (by kernel_rfl) ?bt60 ?ct60 (by assumption) ?rt60; (case at60 => (simp only [List.getElem?_toArray, List.getElem?_cons_zero, List.getElem?_cons_succ]; rfl)); (case bt60 => exact fun _ _ _ h => h); (case ct60 => kernel_rfl); (case' rt60 => simp only [Act.put, List.setIfInBounds_toArray, List.set_cons_zero, List.set_cons_succ]))
      (refine held_skip (i := 21) (oi := ?ot61) ?at61 (by kernel_rfl) (by kernel_rfl) (by kernel_rfl) ?bt61 ?ct61 (by assumption) ?rt61; (case at61 => (simp only [List.getElem?_toArray, List.getElem?_cons_zero, List.getElem?_cons_succ]; rfl)); (case bt61 => exact fun _ _ _ h => h); (case ct61 => kernel_rfl); (case' rt61 => simp only [Act.put, List.setIfInBounds_toArray, List.set_cons_zero, List.set_cons_succ]))
      (refine held_take (i := 22) (oi := ?ot62) (v := ?vt62) ?at62 (by kernel_rfl) (by kernel_rfl) (by kernel_rfl) ?bt62 ?ct62 ?dt62 (by assumption) ?rt62; (case at62 => (simp only [List.getElem?_toArray, List.getElem?_cons_zero, List.getElem?_cons_succ]; rfl)); (case bt62 => exact fun _ _ _ h => h); (case ct62 => kernel_rfl); (case dt62 => (intro W hW; (try dsimp only at hW); go_split_ands; go_simp; (try with_reducible rfl))); (case' rt62 => simp only [Act.put, List.setIfInBounds_toArray, List.set_cons_zero, List.set_cons_succ]))
      (refine held_take (i := 23) (oi := ?ot63) (v := ?vt63) ?at63 (by kernel_rfl) (by kernel_rfl) (by kernel_rfl) ?bt63 ?ct63 ?dt63 (by assumption) ?rt63; (case at63 => (simp only [List.getElem?_toArray, List.getElem?_cons_zero, List.getElem?_cons_succ]; rfl)); (case bt63 => exact fun _ _ _ h => h); (case ct63 => kernel_rfl); (case dt63 => (intro W hW; (try dsimp only at hW); go_split_ands; go_simp; (try with_reducible rfl))); (case' rt63 => simp only [Act.put, List.setIfInBounds_toArray, List.set_cons_zero, List.set_cons_succ]))
      (refine held_skip (i := 24) (oi := ?ot64) ?at64 (by kernel_rfl) (by kernel_rfl) (by kernel_rfl) ?bt64 ?ct64 (by assumption) ?rt64; (case at64 => (simp only [List.getElem?_toArray, List.getElem?_cons_zero, List.getElem?_cons_succ]; rfl)); (case bt64 => exact fun _ _ _ h => h); (case ct64 => kernel_rfl); (case' rt64 => simp only [Act.put, List.setIfInBounds_toArray, List.set_cons_zero, List.set_cons_succ]))
      (refine held_skip (i := 25) (oi := ?ot65) ?at65 (by kernel_rfl) (by kernel_rfl) (by kernel_rfl) ?bt65 ?ct65 (by assumption) ?rt65; (case at65 => (simp only [List.getElem?_toArray, List.getElem?_cons_zero, List.getElem?_cons_succ]; rfl)); (case bt65 => exact fun _ _ _ h => h); (case ct65 => kernel_rfl); (case' rt65 => simp only [Act.put, List.setIfInBounds_toArray, List.set_cons_zero, List.set_cons_succ]))
      (refine held_skip (i := 26) (oi := ?ot66) ?at66 (by kernel_rfl) (by kernel_rfl) (by kernel_rfl) ?bt66 ?ct66 (by assumption) ?rt66; (case at66 => (simp only [List.getElem?_toArray, List.getElem?_cons_zero, List.getElem?_cons_succ]; rfl)); (case bt66 => exact fun _ _ _ h => h); (case ct66 => kernel_rfl); (case' rt66 => simp only [Act.put, List.setIfInBounds_toArray, List.set_cons_zero, List.set_cons_succ]))
      (refine held_take (i := 27) (oi := ?ot67) (v := ?vt67) ?at67 (by kernel_rfl) (by kernel_rfl) (by kernel_rfl) ?bt67 ?ct67 ?dt67 (by assumption) ?rt67; (case at67 => (simp only [List.getElem?_toArray, List.getElem?_cons_zero, List.getElem?_cons_succ]; rfl)); (case bt67 => exact fun _ _ _ h => h); (case ct67 => kernel_rfl); (case dt67 => (intro W hW; (try dsimp only at hW); go_split_ands; go_simp; (try with_reducible rfl))); (case' rt67 => simp only [Act.put, List.setIfInBounds_toArray, List.set_cons_zero, List.set_cons_succ]))
      (refine held_take (i := 28) (oi := ?ot68) (v := ?vt68) ?at68 (by kernel_rfl) (by kernel_rfl) (by kernel_rfl) ?bt68 ?ct68 ?dt68 (by assumption) ?rt68; (case at68 => (simp only [List.getElem?_toArray, List.getElem?_cons_zero, List.getElem?_cons_succ]; rfl)); (case bt68 => exact fun _ _ _ h => h); (case ct68 => kernel_rfl); (case dt68 => (intro W hW; (try dsimp only at hW); go_split_ands; go_simp; (try with_reducible rfl))); (case' rt68 => simp only [Act.put, List.setIfInBounds_toArray, List.set_cons_zero, List.set_cons_succ]))
      (refine held_skip (i := 29) (oi := ?ot69) ?at69 (by kernel_rfl) (by kernel_rfl) (by kernel_rfl) ?bt69 ?ct69 (by assumption) ?rt69; (case at69 => (simp only [List.getElem?_toArray, List.getElem?_cons_zero, List.getElem?_cons_succ]; rfl)); (case bt69 => exact fun _ _ _ h => h); (case ct69 => kernel_rfl); (case' rt69 => simp only [Act.put, List.setIfInBounds_toArray, List.set_cons_zero, List.set_cons_succ]))
      (refine held_skip (i := 30) (oi := ?ot70) ?at70 (by kernel_rfl) (by kernel_rfl) (by kernel_rfl) ?bt70 ?ct70 (by assumption) ?rt70; (case at70 => (simp only [List.getElem?_toArray, List.getElem?_cons_zero, List.getElem?_cons_succ]; rfl)); (case bt70 => exact fun _ _ _ h => h); (case ct70 => kernel_rfl); (case' rt70 => simp only [Act.put, List.setIfInBounds_toArray, List.set_cons_zero, List.set_cons_succ]))
      (refine held_skip (i := 31) (oi := ?ot71) ?at71 (by kernel_rfl) (by kernel_rfl) (by kernel_rfl) ?bt71 ?ct71 (by assumption) ?rt71; (case at71 => (simp only [List.getElem?_toArray, List.getElem?_cons_zero, List.getElem?_cons_succ]; rfl)); (case bt71 => exact fun _ _ _ h => h); (case ct71 => kernel_rfl); (case' rt71 => simp only [Act.put, List.setIfInBounds_toArray, List.set_cons_zero, List.set_cons_succ]))
      (refine held_skip (i := 32) (oi := ?ot72) ?at72 (by kernel_rfl) (by kernel_rfl) (by kernel_rfl) ?bt72 ?ct72 (by assumption) ?rt72; (case at72 => (simp only [List.getElem?_toArray, List.getElem?_cons_zero, List.getElem?_cons_succ]; rfl)); (case bt72 => exact fun _ _ _ h => h); (case ct72 => kernel_rfl); (case' rt72 => simp only [Act.put, List.setIfInBounds_toArray, List.set_cons_zero, List.set_cons_succ]))
      (refine held_skip (i := 33) (oi := ?ot73) ?at73 (by kernel_rfl) (by kernel_rfl) (by kernel_rfl) ?bt73 ?ct73 (by assumption) ?rt73; (case at73 => (simp only [List.getElem?_toArray, List.getElem?_cons_zero, List.getElem?_cons_succ]; rfl)); (case bt73 => exact fun _ _ _ h => h); (case ct73 => kernel_rfl); (case' rt73 => simp only [Act.put, List.setIfInBounds_toArray, List.set_cons_zero, List.set_cons_succ]))
      (refine held_skip (i := 34) (oi := ?ot74) ?at74 (by kernel_rfl) (by kernel_rfl) (by kernel_rfl) ?bt74 ?ct74 (by assumption) ?rt74; (case at74 => (simp only [List.getElem?_toArray, List.getElem?_cons_zero, List.getElem?_cons_succ]; rfl)); (case bt74 => exact fun _ _ _ h => h); (case ct74 => kernel_rfl); (case' rt74 => simp only [Act.put, List.setIfInBounds_toArray, List.set_cons_zero, List.set_cons_succ]))
      (refine held_skip (i := 35) (oi := ?ot75) ?at75 (by kernel_rfl) (by kernel_rfl) (by kernel_rfl) ?bt75 ?ct75 (by assumption) ?rt75; (case at75 => (simp only [List.getElem?_toArray, List.getElem?_cons_zero, List.getElem?_cons_succ]; rfl)); (case bt75 => exact fun _ _ _ h => h); (case ct75 => kernel_rfl); (case' rt75 => simp only [Act.put, List.setIfInBounds_toArray, List.set_cons_zero, List.set_cons_succ]))
      (refine held_skip (i := 36) (oi := ?ot76) ?at76 (by kernel_rfl) (by kernel_rfl) (by kernel_rfl) ?bt76 ?ct76 (by assumption) ?rt76; (case at76 => (simp only [List.getElem?_toArray, List.getElem?_cons_zero, List.getElem?_cons_succ]; rfl)); (case bt76 => exact fun _ _ _ h => h); (case ct76 => kernel_rfl); (case' rt76 => simp only [Act.put, List.setIfInBounds_toArray, List.set_cons_zero, List.set_cons_succ]))
      (refine held_take (i := 37) (oi := ?ot77) (v := ?vt77) ?at77 (by kernel_rfl) (by kernel_rfl) (by kernel_rfl) ?bt77 ?ct77 ?dt77 (by assumption) ?rt77; (case at77 => (simp only [List.getElem?_toArray, List.getElem?_cons_zero, List.getElem?_cons_succ]; rfl)); (case bt77 => exact fun _ _ _ h => h); (case ct77 => kernel_rfl); (case dt77 => (intro W hW; (try dsimp only at hW); go_split_ands; go_simp; (try with_reducible rfl))); (case' rt77 => simp only [Act.put, List.setIfInBounds_toArray, List.set_cons_zero, List.set_cons_succ]))
      (refine held_take (i := 38) (oi := ?ot78) (v := ?vt78) ?at78 (by kernel_rfl) (by kernel_rfl) (by kernel_rfl) ?bt78 ?ct78 ?dt78 (by assumption) ?rt78; (case at78 => (simp only [List.getElem?_toArray, List.getElem?_cons_zero, List.getElem?_cons_succ]; rfl)); (case bt78 => exact fun _ _ _ h => h); (case ct78 => kernel_rfl); (case dt78 => (intro W hW; (try dsimp only at hW); go_split_ands; go_simp; (try with_reducible rfl))); (case' rt78 => simp only [Act.put, List.setIfInBounds_toArray, List.set_cons_zero, List.set_cons_succ]))
      refine wpAnyH_done (by kernel_rfl) ?_ _
      go_wp2
      go_ret
      exact ⟨by rw [HR.out]; rfl, HB.out.trans ((show Below V.heap.size V _ from hS10).mono HB.out.size)⟩
    · cases b3
      · skip
        have HR : Hid (r = false) := Lib.hid (by rw [HRR.out]; simp [])
        refine wp_region_held_drew (S := fun Y => VS V Y) (by kernel_rfl) (VS.begin V) (fun hS => ?_)
        (refine held_take (i := 0) (oi := ?ot79) (v := .agg (vec 5 (mpE m))) ?at79 (by kernel_rfl) (by kernel_rfl) (by kernel_rfl) ?bt79 ?ct79 ?dt79 (by assumption) ?rt79; (case at79 => (simp only [List.getElem?_toArray, List.getElem?_cons_zero]; rfl)); (case bt79 => exact fun _ _ _ h => h); (case ct79 => kernel_rfl); (case dt79 => (intro W hW; exact exec_load_at 39 _ rfl g 0 rfl _ (run_load_arr (HA.out.under (show Below V.heap.size V W from hW)) Try.underlying39 rfl infoMp))); (case' rt79 => simp only [Act.put, List.setIfInBounds_toArray, List.set_cons_zero, List.set_cons_succ]))
        (refine held_take (i := 2) (oi := ?ot80) (v := .agg (vec 5 (mpE m))) ?at80 (by kernel_rfl) (by kernel_rfl) (by kernel_rfl) ?bt80 ?ct80 ?dt80 (by assumption) ?rt80; (case at80 => (simp only [List.getElem?_toArray, List.getElem?_cons_zero, List.getElem?_cons_succ]; rfl)); (case bt80 => exact fun _ _ _ h => h); (case ct80 => kernel_rfl); (case dt80 => (intro W hW; exact exec_load_at 39 _ rfl g 0 rfl _ (run_load_arr (HA.out.under (show Below V.heap.size V W from hW)) Try.underlying39 rfl infoMp))); (case' rt80 => simp only [Act.put, List.setIfInBounds_toArray, List.set_cons_zero, List.set_cons_succ]))
        refine held_one (i := 1) (oi := ?ot81) (by kernel_rfl) ?at81 ?ct81 (fun K1 hK1 => ?_)
        (case at81 => (simp only [List.getElem?_toArray, List.getElem?_cons_zero, List.getElem?_cons_succ]; rfl))
        (case ct81 => kernel_rfl)
        go_simp
        refine (HSE.out _).mono ?_
        rintro e y1 ⟨rfl, hd⟩
        refine hK1 _ _ ((show VS V _ from hS).keep hd) (fun hS1 => ?_)
        clear hd hS hK1 K1
        refine held_one (i := 3) (oi := ?ot82) (by kernel_rfl) ?at82 ?ct82 (fun K3 hK3 => ?_)
        (case at82 => (simp only [List.getElem?_toArray, List.getElem?_cons_zero, List.getElem?_cons_succ]; rfl))
        (case ct82 => kernel_rfl)
        go_simp
        refine (HPH.out _).mono ?_
        rintro e y3 ⟨rfl, hd⟩
        refine hK3 _ _ ((show VS V _ from hS1).keep hd) (fun hS3 => ?_)
        clear hd hS1 hK3 K3
        refine held_one (i := 4) (oi := ?ot83) (by kernel_rfl) ?at83 ?ct83 (fun K4 hK4 => ?_)
        (case at83 => (simp only [List.getElem?_toArray, List.getElem?_cons_zero, List.getElem?_cons_succ]; rfl))
        (case ct83 => kernel_rfl)
        refine ow_bs2 45 _ _ rfl (.agg (vec 2 (spE si))) (.agg (vec 2 (spE sp))) rfl rfl (HBT.out _) ?_
        obtain ⟨Y4, hY4⟩ : ∃ Y : World, Y = y3 := ⟨_, rfl⟩
        refine hK4 _ _ ((show VS V _ from hS3).keep ((Below.refl _ _).alloc (Nat.le_refl _) _)) (fun hS4 => ?_)
        clear hS3 hK4 K4 hY4
        refine held_one (i := 5) (oi := ?ot84) (by kernel_rfl) ?at84 ?ct84 (fun K5 hK5 => ?_)
        (case at84 => (simp only [List.getElem?_toArray, List.getElem?_cons_zero, List.getElem?_cons_succ]; rfl))
        (case ct84 => kernel_rfl)
        go_simp
        refine (HPA.out _).mono ?_
        rintro e y5 ⟨rfl, hd⟩
        refine hK5 _ _ ((show VS V _ from hS4).keep hd) (fun hS5 => ?_)
        clear hd hS4 hK5 K5
        (refine held_take (i := 6) (oi := ?ot85) (v := ?vt85) ?at85 (by kernel_rfl) (by kernel_rfl) (by kernel_rfl) ?bt85 ?ct85 ?dt85 (by assumption) ?rt85; (case at85 => (simp only [List.getElem?_toArray, List.getElem?_cons_zero, List.getElem?_cons_succ]; rfl)); (case bt85 => exact fun _ _ _ h => h); (case ct85 => kernel_rfl); (case dt85 => (intro W hW; (try dsimp only at hW); go_split_ands; go_simp; (try with_reducible rfl))); (case' rt85 => simp only [Act.put, List.setIfInBounds_toArray, List.set_cons_zero, List.set_cons_succ]))
        (refine held_take (i := 7) (oi := ?ot86) (v := .agg (vec 5 (mpE m))) ?at86 (by kernel_rfl) (by kernel_rfl) (by kernel_rfl) ?bt86 ?ct86 ?dt86 (by assumption) ?rt86; (case at86 => (simp only [List.getElem?_toArray, List.getElem?_cons_zero, List.getElem?_cons_succ]; rfl)); (case bt86 => exact fun _ _ _ h => h); (case ct86 => kernel_rfl); (case dt86 => (intro W hW; exact exec_load_at 39 _ rfl g 0 rfl _ (run_load_arr (HA.out.under (show Below V.heap.size V W from hW)) Try.underlying39 rfl infoMp))); (case' rt86 => simp only [Act.put, List.setIfInBounds_toArray, List.set_cons_zero, List.set_cons_succ]))
        (refine held_take (i := 9) (oi := ?ot87) (v := .agg (vec 2 (spE allS))) ?at87 (by kernel_rfl) (by kernel_rfl) (by kernel_rfl) ?bt87 ?ct87 ?dt87 (by assumption) ?rt87; (case at87 => (simp only [List.getElem?_toArray, List.getElem?_cons_zero, List.getElem?_cons_succ]; rfl)); (case bt87 => exact fun _ _ _ h => h); (case ct87 => kernel_rfl); (case dt87 => (intro W hW; exact exec_load_at 49 _ rfl h 0 rfl _ (run_load_arr (HS.out.under (show Below V.heap.size V W from hW)) Try.underlying49 rfl infoSp))); (case' rt87 => simp only [Act.put, List.setIfInBounds_toArray, List.set_cons_zero, List.set_cons_succ]))
        refine held_one (i := 8) (oi := ?ot88) (by kernel_rfl) ?at88 ?ct88 (fun K8 hK8 => ?_)
        (case at88 => (simp only [List.getElem?_toArray, List.getElem?_cons_zero, List.getElem?_cons_succ]; rfl))
        (case ct88 => kernel_rfl)
        go_simp
        refine (HSE.out _).mono ?_
        rintro e y8 ⟨rfl, hd⟩
        refine hK8 _ _ ((show VS V _ from hS5).keep hd) (fun hS8 => ?_)
        clear hd hS5 hK8 K8
        refine held_one (i := 10) (oi := ?ot89) (by kernel_rfl) ?at89 ?ct89 (fun K10 hK10 => ?_)
        (case at89 => (simp only [List.getElem?_toArray, List.getElem?_cons_zero, List.getElem?_cons_succ]; rfl))
        (case ct89 => kernel_rfl)
        go_simp
        refine (HWI.out _).mono ?_
        rintro e y10 ⟨rfl, hd⟩
        refine hK10 _ _ ((show VS V _ from hS8).keep hd) (fun hS10 => ?_)
        clear hd hS8 hK10 K10
        (refine held_take (i := 11) (oi := ?ot90) (v := ?vt90) ?at90 (by kernel_rfl) (by kernel_rfl) (by kernel_rfl) ?bt90 ?ct90 ?dt90 (by assumption) ?rt90; (case at90 => (simp only [List.getElem?_toArray, List.getElem?_cons_zero, List.getElem?_cons_succ]; rfl)); (case bt90 => exact fun _ _ _ h => h); (case ct90 => kernel_rfl); (case dt90 => (intro W hW; (try dsimp only at hW); go_split_ands; go_simp; (try with_reducible rfl))); (case' rt90 => simp only [Act.put, List.setIfInBounds_toArray, List.set_cons_zero, List.set_cons_succ]))
        (refine held_take (i := 12) (oi := ?ot91) (v := ?vt91) ?at91 (by kernel_rfl) (by kernel_rfl) (by kernel_rfl) ?bt91 ?ct91 ?dt91 (by assumption) ?rt91; (case at91 => (simp only [List.getElem?_toArray, List.getElem?_cons_zero, List.getElem?_cons_succ]; rfl)); (case bt91 => exact fun _ _ _ h => h); (case ct91 => kernel_rfl); (case dt91 => (intro W hW; (try dsimp only at hW); go_split_ands; go_simp; (try with_reducible rfl))); (case' rt91 => simp only [Act.put, List.setIfInBounds_toArray, List.set_cons_zero, List.set_cons_succ]))
        (refine held_take (i := 13) (oi := ?ot92) (v := .agg (vec 5 (mpE m))) ?at92 (by kernel_rfl) (by kernel_rfl) (by kernel_rfl) ?bt92 ?ct92 ?dt92 (by assumption) ?rt92; (case at92 => (simp only [List.getElem?_toArray, List.getElem?_cons_zero, List.getElem?_cons_succ]; rfl)); (case bt92 => exact fun _ _ _ h => h); (case ct92 => kernel_rfl); (case dt92 => (intro W hW; exact exec_load_at 39 _ rfl g 0 rfl _ (run_load_arr (HA.out.under (show Below V.heap.size V W from hW)) Try.underlying39 rfl infoMp))); (case' rt92 => simp only [Act.put, List.setIfInBounds_toArray, List.set_cons_zero, List.set_cons_succ]))
        (refine held_take (i := 15) (oi := ?ot93) (v := .agg (vec 2 (spE allS))) ?at93 (by kernel_rfl) (by kernel_rfl) (by kernel_rfl) ?bt93 ?ct93 ?dt93 (by assumption) ?rt93; (case at93 => (simp only [List.getElem?_toArray, List.getElem?_cons_zero, List.getElem?_cons_succ]; rfl)); (case bt93 => exact fun _ _ _ h => h); (case ct93 => kernel_rfl); (case dt93 => (intro W hW; exact exec_load_at 49 _ rfl h 0 rfl _ (run_load_arr (HS.out.under (show Below V.heap.size V W from hW)) Try.underlying49 rfl infoSp))); (case' rt93 => simp only [Act.put, List.setIfInBounds_toArray, List.set_cons_zero, List.set_cons_succ]))
        refine held_one (i := 14) (oi := ?ot94) (by kernel_rfl) ?at94 ?ct94 (fun K14 hK14 => ?_)
        (case at94 => (simp only [List.getElem?_toArray, List.getElem?_cons_zero, List.getElem?_cons_succ]; rfl))
        (case ct94 => kernel_rfl)
        go_simp
        refine (HPH.out _).mono ?_
        rintro e y14 ⟨rfl, hd⟩
        refine hK14 _ _ ((show VS V _ from hS10).keep hd) (fun hS14 => ?_)
        clear hd hS10 hK14 K14
        refine held_one (i := 16) (oi := ?ot95) (by kernel_rfl) ?at95 ?ct95 (fun K16 hK16 => ?_)
        (case at95 => (simp only [List.getElem?_toArray, List.getElem?_cons_zero, List.getElem?_cons_succ]; rfl))
        (case ct95 => kernel_rfl)
        go_simp
        refine (HWP.out _).mono ?_
        rintro e y16 ⟨rfl, hd⟩
        refine hK16 _ _ ((show VS V _ from hS14).keep hd) (fun hS16 => ?_)
        clear hd hS14 hK16 K16
        (refine held_take (i := 17) (oi := ?ot96) (v := ?vt96) ?at96 (by kernel_rfl) (by kernel_rfl) (by kernel_rfl) ?bt96 ?ct96 ?dt96 (by assumption) ?rt96; (case at96 => (simp only [List.getElem?_toArray, List.getElem?_cons_zero, List.getElem?_cons_succ]; rfl)); (case bt96 => exact fun _ _ _ h => h); (case ct96 => kernel_rfl); (case dt96 => (intro W hW; (try dsimp only at hW); go_split_ands; go_simp; (try with_reducible rfl))); (case' rt96 => simp only [Act.put, List.setIfInBounds_toArray, List.set_cons_zero, List.set_cons_succ]))
        (refine held_take (i := 18) (oi := ?ot97) (v := ?vt97) ?at97 (by kernel_rfl) (by kernel_rfl) (by kernel_rfl) ?bt97 ?ct97 ?dt97 (by assumption) ?rt97; (case at97 => (simp only [List.getElem?_toArray, List.getElem?_cons_zero, List.getElem?_cons_succ]; rfl)); (case bt97 => exact fun _ _ _ h => h); (case ct97 => kernel_rfl); (case dt97 => (intro W hW; (try dsimp only at hW); go_split_ands; go_simp; (try with_reducible rfl))); (case' rt97 => simp only [Act.put, List.setIfInBounds_toArray, List.set_cons_zero, List.set_cons_succ]))
        (refine held_skip (i := 19) (oi := ?ot98) ?at98 (by kernel_rfl) (by kernel_rfl) (by kernel_rfl) ?bt98 ?ct98 (by assumption) ?rt98; (case at98 => (simp only [List.getElem?_toArray, List.getElem?_cons_zero, List.getElem?_cons_succ]; rfl)); (case bt98 => exact fun _ _ _ h => h); (case ct98 => kernel_rfl); (case' rt98 => simp only [Act.put, List.setIfInBounds_toArray, List.set_cons_zero, List.set_cons_succ]))
        (refine held_skip (i := 20) (oi := ?ot99) ?at99 (by kernel_rfl) (by kernel_rfl) (by kernel_rfl) ?bt99 ?ct99 (by assumption) ?rt99; (case at99 => (simp only [List.getElem?_toArray, List.getElem?_cons_zero, List.getElem?_cons_succ]; rfl)); (case bt99 => exact fun _ _ _ h => h); (case ct99 => kernel_rfl); (case' rt99 => simp only [Act.put, List.setIfInBounds_toArray, List.set_cons_zero, List.set_cons_succ]))
        (refine held_skip (i := 21) (oi := ?ot100) ?at100 (by kernel_rfl) (by kernel_rfl) (by kernel_rfl) ?bt100 ?ct100 (by assumption) ?rt100; (case at100 => (simp only [List.getElem?_toArray, List.getElem?_cons_zero, List.getElem?_cons_succ]; rfl)); (case bt100 => exact fun _ _ _ h => h); (case ct100 => kernel_rfl); (case' rt100 => simp only [Act.put, List.setIfInBounds_toArray, List.set_cons_zero, List.set_cons_succ]))
        (refine held_take (i := 22) (oi := ?ot101) (v := ?vt101) ?at101 (by kernel_rfl) (by kernel_rfl) (by kernel_rfl) ?bt101 ?ct101 ?dt101 (by assumption) ?rt101; (case at101 => (simp only [List.getElem?_toArray, List.getElem?_cons_zero, List.getElem?_cons_succ]; rfl)); (case bt101 => exact fun _ _ _ h => h); (case ct101 => kernel_rfl); (case dt101 => (intro W hW; (try dsimp only at hW); go_split_ands; go_simp; (try with_reducible rfl))); (case' rt101 => simp only [Act.put, List.setIfInBounds_toArray, List.set_cons_zero, List.set_cons_succ]))
        (refine held_take (i := 23) (oi := ?ot102) (v := ?vt102) ?at102 (by kernel_rfl) (by kernel_rfl) (by kernel_rfl) ?bt102 ?ct102 ?dt102 (by assumption) ?rt102; (case at102 => (simp only [List.getElem?_toArray, List.getElem?_cons_zero, List.getElem?_cons_succ]; rfl)); (case bt102 => exact fun _ _ _ h => h); (case ct102 => kernel_rfl); (case dt102 => (intro W hW; (try dsimp only at hW); go_split_ands; go_simp; (try with_reducible rfl))); (case' rt102 => simp only [Act.put, List.setIfInBounds_toArray, List.set_cons_zero, List.set_cons_succ]))
        (refine held_skip (i := 24) (oi := ?ot103) ?at103 (by kernel_rfl) (by kernel_rfl) (by kernel_rfl) ?bt103 ?ct103 (by assumption) ?rt103; (case at103 => (simp only [List.getElem?_toArray, List.getElem?_cons_zero, List.getElem?_cons_succ]; rfl)); (case bt103 => exact fun _ _ _ h => h); (case ct103 => kernel_rfl); (case' rt103 => simp only [Act.put, List.setIfInBounds_toArray, List.set_cons_zero, List.set_cons_succ]))
        (refine held_skip (i := 25) (oi := ?ot104) ?at104 (by kernel_rfl) (by kernel_rfl) (by kernel_rfl) ?bt104 ?ct104 (by assumption) ?rt104; (case at104 => (simp only [List.getElem?_toArray, List.getElem?_cons_zero, List.getElem?_cons_succ]; rfl)); (case bt104 => exact fun _ _ _ h => h); (case ct104 => kernel_rfl); (case' rt104 => simp only [Act.put, List.setIfInBounds_toArray, List.set_cons_zero, List.set_cons_succ]))
        (refine held_skip (i := 26) (oi := ?ot105) ?at105 (by kernel_rfl) (by kernel_rfl) (by kernel_rfl) ?bt105 ?ct105 (by assumption) ?rt105; (case at105 => (simp only [List.getElem?_toArray, List.getElem?_cons_zero, List.getElem?_cons_succ]; rfl)); (case bt105 => exact fun _ _ _ h => h); (case ct105 => kernel_rfl); (case' rt105 => simp only [Act.put, List.setIfInBounds_toArray, List.set_cons_zero, List.set_cons_succ]))
        (refine held_take (i := 27) (oi := ?ot106) (v := ?vt106) ?at106 (by kernel_rfl) (by kernel_rfl) (by kernel_rfl) ?bt106 ?ct106 ?dt106 (by assumption) ?rt106; (case at106 => (simp only [List.getElem?_toArray, List.getElem?_cons_zero, List.getElem?_cons_succ]; rfl)); (case bt106 => exact fun _ _ _ h => h); (case ct106 => kernel_rfl); (case dt106 => (intro W hW; (try dsimp only at hW); go_split_ands; go_simp; (try with_reducible rfl))); (case' rt106 => simp only [Act.put, List.setIfInBounds_toArray, List.set_cons_zero, List.set_cons_succ]))
        (refine held_take (i := 28) (oi := ?ot107) (v := ?vt107) ?at107 (by kernel_rfl) (by kernel_rfl) (by kernel_rfl) ?bt107 ?ct107 ?dt107 (by assumption) ?rt107; (case at107 => (simp only [List.getElem?_toArray, List.getElem?_cons_zero, List.getElem?_cons_succ]; rfl)); (case bt107 => exact fun _ _ _ h => h); (case ct107 => kernel_rfl); (case dt107 => (intro W hW; (try dsimp only at hW); go_split_ands; go_simp; (try with_reducible rfl))); (case' rt107 => simp only [Act.put, List.setIfInBounds_toArray, List.set_cons_zero, List.set_cons_succ]))
        (refine held_skip (i := 29) (oi := ?ot108) ?at108 (by kernel_rfl) (by kernel_rfl) (by kernel_rfl) ?bt108 ?ct108 (by assumption) ?rt108; (case at108 => (simp only [List.getElem?_toArray, List.getElem?_cons_zero, List.getElem?_cons_succ]; rfl)); (case bt108 => exact fun _ _ _ h => h); (case ct108 => kernel_rfl); (case' rt108 => simp only [Act.put, List.setIfInBounds_toArray, List.set_cons_zero, List.set_cons_succ]))
        (refine held_skip (i := 30) (oi := ?ot109) ?at109 (by kernel_rfl) (by kernel_rfl) (by kernel_rfl) ?bt109 ?ct109 (by assumption) ?rt109; (case at109 => (simp only [List.getElem?_toArray, List.getElem?_cons_zero, List.getElem?_cons_succ]; rfl)); (case bt109 => exact fun _ _ _ h => h); (case ct109 => kernel_rfl); (case' rt109 => simp only [Act.put, List.setIfInBounds_toArray, List.set_cons_zero, List.set_cons_succ]))
        (refine held_skip (i := 31) (oi := ?ot110) ?at110 (by kernel_rfl) (by kernel_rfl) (by kernel_rfl) ?bt110 ?ct110 (by assumption) ?rt110; (case at110 => (simp only [List.getElem?_toArray, List.getElem?_cons_zero, List.getElem?_cons_succ]; rfl)); (case bt110 => exact fun _ _ _ h => h); (case ct110 => kernel_rfl); (case' rt110 => simp only [Act.put, List.setIfInBounds_toArray, List.set_cons_zero, List.set_cons_succ]))
        (refine held_skip (i := 32) (oi := ?ot111) ?at111 (by kernel_rfl) (by kernel_rfl) (by kernel_rfl) ?bt111 ?ct111 (by assumption) ?rt111; (case at111 => (simp only [List.getElem?_toArray, List.getElem?_cons_zero, List.getElem?_cons_succ]; rfl)); (case bt111 => exact fun _ _ _ h => h); (case ct111 => kernel_rfl); (case' rt111 => simp only [Act.put, List.setIfInBounds_toArray, List.set_cons_zero, List.set_cons_succ]))
        (refine held_skip (i := 33) (oi := ?ot112) ?at112 (by kernel_rfl) (by kernel_rfl) (by kernel_rfl) ?bt112 ?ct112 (by assumption) ?rt112; (case at112 => (simp only [List.getElem?_toArray, List.getElem?_cons_zero, List.getElem?_cons_succ]; rfl)); (case bt112 => exact fun _ _ _ h => h); (case ct112 => kernel_rfl); (case' rt112 => simp only [Act.put, List.setIfInBounds_toArray, List.set_cons_zero, List.set_cons_succ]))
        (refine held_skip (i := 34) (oi := ?ot113) ?at113 (by kernel_rfl) (by kernel_rfl) (by kernel_rfl) ?bt113 ?ct113 (by assumption) ?rt113; (case at113 => (simp only [List.getElem?_toArray, List.getElem?_cons_zero, List.getElem?_cons_succ]; rfl)); (case bt113 => exact fun _ _ _ h => h); (case ct113 => kernel_rfl); (case' rt113 => simp only [Act.put, List.setIfInBounds_toArray, List.set_cons_zero, List.set_cons_succ]))
        (refine held_skip (i := 35) (oi := ?ot114) ?at114 (by kernel_rfl) (by kernel_rfl) (by kernel_rfl) ?bt114 ?ct114 (by assumption) ?rt114; (case at114 => (simp only [List.getElem?_toArray, List.getElem?_cons_zero, List.getElem?_cons_succ]; rfl)); (case bt114 => exact fun _ _ _ h => h); (case ct114 => kernel_rfl); (case' rt114 => simp only [Act.put, List.setIfInBounds_toArray, List.set_cons_zero, List.set_cons_succ]))
        (refine held_skip (i := 36) (oi := ?ot115) ?at115 (by kernel_rfl) (by kernel_rfl) (by kernel_rfl) ?bt115 ?ct115 (by assumption) ?rt115; (case at115 => (simp only [List.getElem?_toArray, List.getElem?_cons_zero, List.getElem?_cons_succ]; rfl)); (case bt115 => exact fun _ _ _ h => h); (case ct115 => kernel_rfl); (case' rt115 => simp only [Act.put, List.setIfInBounds_toArray, List.set_cons_zero, List.set_cons_succ]))
        (refine held_take (i := 37) (oi := ?ot116) (v := ?vt116) ?at116 (by kernel_rfl) (by kernel_rfl) (by kernel_rfl) ?bt116 ?ct116 ?dt116 (by assumption) ?rt116; (case at116 => (simp only [List.getElem?_toArray, List.getElem?_cons_zero, List.getElem?_cons_succ]; rfl)); (case bt116 => exact fun _ _ _ h => h); (case ct116 => kernel_rfl); (case dt116 => (intro W hW; (try dsimp only at hW); go_split_ands; go_simp; (try with_reducible rfl))); (case' rt116 => simp only [Act.put, List.setIfInBounds_toArray, List.set_cons_zero, List.set_cons_succ]))
        (refine held_take (i := 38) (oi := ?ot117) (v := ?vt117) ?at117 (by kernel_rfl) (by kernel_rfl) (by kernel_rfl) ?bt117 ?ct117 ?dt117 (by assumption) ?rt117; (case at117 => (simp only [List.getElem?_toArray, List.getElem?_cons_zero, List.getElem?_cons_succ]; rfl)); (case bt117 => exact fun _ _ _ h => h); (case ct117 => kernel_rfl); (case dt117 => (intro W hW; (try dsimp only at hW); go_split_ands; go_simp; (try with_reducible rfl))); (case' rt117 => simp only [Act.put, List.setIfInBounds_toArray, List.set_cons_zero, List.set_cons_succ]))
        refine wpAnyH_done (by kernel_rfl) ?_ _
        go_wp2
        go_ret
        exact ⟨by rw [HR.out]; rfl, HB.out.trans ((show Below V.heap.size V _ from hS16).mono HB.out.size)⟩
      · by_cases h1 : (1 : Int) ≤ mq
        · have z1 : decide ((1 : Int) ≤ mq) = true := decide_eq_true h1
          by_cases h7 : mq ≤ 7
          · have z7 : decide (mq ≤ 7) = true := decide_eq_true h7
            by_cases hk : mk = 0
            · have zk : (mk == 0) = true := by simp [hk]
              have zl : (mk == 1) = false := by simp [hk]
              have HR0 : Hid (r = true) := Lib.hid (by rw [HRR.out]; simp [h1, h7, hk])
              clear hk
              refine wp_region_held_drew (S := fun Y => VS V Y) (by kernel_rfl) (VS.begin V) (fun hS => ?_)
              (refine held_take (i := 0) (oi := ?ot118) (v := .agg (vec 5 (mpE m))) ?at118 (by kernel_rfl) (by kernel_rfl) (by kernel_rfl) ?bt118 ?ct118 ?dt118 (by assumption) ?rt118; (case at118 => (simp only [List.getElem?_toArray, List.getElem?_cons_zero]; rfl)); (case bt118 => exact fun _ _ _ h => h); (case ct118 => kernel_rfl); (case dt118 => (intro W hW; exact exec_load_at 39 _ rfl g 0 rfl _ (run_load_arr (HA.out.under (show Below V.heap.size V W from hW)) Try.underlying39 rfl infoMp))); (case' rt118 => simp only [Act.put, List.setIfInBounds_toArray, List.set_cons_zero, List.set_cons_succ]))
              (refine held_take (i := 2) (oi := ?ot119) (v := .agg (vec 5 (mpE m))) ?at119 (by kernel_rfl) (by kernel_rfl) (by kernel_rfl) ?bt119 ?ct119 ?dt119 (by assumption) ?rt119; (case at119 => (simp only [List.getElem?_toArray, List.getElem?_cons_zero, List.getElem?_cons_succ]; rfl)); (case bt119 => exact fun _ _ _ h => h); (case ct119 => kernel_rfl); (case dt119 => (intro W hW; exact exec_load_at 39 _ rfl g 0 rfl _ (run_load_arr (HA.out.under (show Below V.heap.size V W from hW)) Try.underlying39 rfl infoMp))); (case' rt119 => simp only [Act.put, List.setIfInBounds_toArray, List.set_cons_zero, List.set_cons_succ]))
              refine held_one (i := 1) (oi := ?ot120) (by kernel_rfl) ?at120 ?ct120 (fun K1 hK1 => ?_)
              (case at120 => (simp only [List.getElem?_toArray, List.getElem?_cons_zero, List.getElem?_cons_succ]; rfl))
              (case ct120 => kernel_rfl)
              go_simp
              refine (HSE.out _).mono ?_
              rintro e y1 ⟨rfl, hd⟩
              refine hK1 _ _ ((show VS V _ from hS).keep hd) (fun hS1 => ?_)
              clear hd hS hK1 K1
              refine held_one (i := 3) (oi := ?ot121) (by kernel_rfl) ?at121 ?ct121 (fun K3 hK3 => ?_)
              (case at121 => (simp only [List.getElem?_toArray, List.getElem?_cons_zero, List.getElem?_cons_succ]; rfl))
              (case ct121 => kernel_rfl)
              go_simp
              refine (HPH.out _).mono ?_
              rintro e y3 ⟨rfl, hd⟩
              refine hK3 _ _ ((show VS V _ from hS1).keep hd) (fun hS3 => ?_)
              clear hd hS1 hK3 K3
              refine held_one (i := 4) (oi := ?ot122) (by kernel_rfl) ?at122 ?ct122 (fun K4 hK4 => ?_)
              (case at122 => (simp only [List.getElem?_toArray, List.getElem?_cons_zero, List.getElem?_cons_succ]; rfl))
              (case ct122 => kernel_rfl)
              refine ow_bs2 45 _ _ rfl (.agg (vec 2 (spE si))) (.agg (vec 2 (spE sp))) rfl rfl (HBT.out _) ?_
              obtain ⟨Y4, hY4⟩ : ∃ Y : World, Y = y3 := ⟨_, rfl⟩
              refine hK4 _ _ ((show VS V _ from hS3).keep ((Below.refl _ _).alloc (Nat.le_refl _) _)) (fun hS4 => ?_)
              clear hS3 hK4 K4 hY4
              refine held_one (i := 5) (oi := ?ot123) (by kernel_rfl) ?at123 ?ct123 (fun K5 hK5 => ?_)
              (case at123 => (simp only [List.getElem?_toArray, List.getElem?_cons_zero, List.getElem?_cons_succ]; rfl))
              (case ct123 => kernel_rfl)
              go_simp
              refine (HPA.out _).mono ?_
              rintro e y5 ⟨rfl, hd⟩
              refine hK5 _ _ ((show VS V _ from hS4).keep hd) (fun hS5 => ?_)
              clear hd hS4 hK5 K5
              (refine held_take (i := 6) (oi := ?ot124) (v := ?vt124) ?at124 (by kernel_rfl) (by kernel_rfl) (by kernel_rfl) ?bt124 ?ct124 ?dt124 (by assumption) ?rt124; (case at124 => (simp only [List.getElem?_toArray, List.getElem?_cons_zero, List.getElem?_cons_succ]; rfl)); (case bt124 => exact fun _ _ _ h => h); (case ct124 => kernel_rfl); (case dt124 => (intro W hW; (try dsimp only at hW); go_split_ands; go_simp; (try with_reducible rfl))); (case' rt124 => simp only [Act.put, List.setIfInBounds_toArray, List.set_cons_zero, List.set_cons_succ]))
              (refine held_take (i := 7) (oi := ?ot125) (v := .agg (vec 5 (mpE m))) ?at125 (by kernel_rfl) (by kernel_rfl) (by kernel_rfl) ?bt125 ?ct125 ?dt125 (by assumption) ?rt125; (case at125 => (simp only [List.getElem?_toArray, List.getElem?_cons_zero, List.getElem?_cons_succ]; rfl)); (case bt125 => exact fun _ _ _ h => h); (case ct125 => kernel_rfl); (case dt125 => (intro W hW; exact exec_load_at 39 _ rfl g 0 rfl _ (run_load_arr (HA.out.under (show Below V.heap.size V W from hW)) Try.underlying39 rfl infoMp))); (case' rt125 => simp only [Act.put, List.setIfInBounds_toArray, List.set_cons_zero, List.set_cons_succ]))
              (refine held_take (i := 9) (oi := ?ot126) (v := .agg (vec 2 (spE allS))) ?at126 (by kernel_rfl) (by kernel_rfl) (by kernel_rfl) ?bt126 ?ct126 ?dt126 (by assumption) ?rt126; (case at126 => (simp only [List.getElem?_toArray, List.getElem?_cons_zero, List.getElem?_cons_succ]; rfl)); (case bt126 => exact fun _ _ _ h => h); (case ct126 => kernel_rfl); (case dt126 => (intro W hW; exact exec_load_at 49 _ rfl h 0 rfl _ (run_load_arr (HS.out.under (show Below V.heap.size V W from hW)) Try.underlying49 rfl infoSp))); (case' rt126 => simp only [Act.put, List.setIfInBounds_toArray, List.set_cons_zero, List.set_cons_succ]))
              refine held_one (i := 8) (oi := ?ot127) (by kernel_rfl) ?at127 ?ct127 (fun K8 hK8 => ?_)
              (case at127 => (simp only [List.getElem?_toArray, List.getElem?_cons_zero, List.getElem?_cons_succ]; rfl))
              (case ct127 => kernel_rfl)
              go_simp
              refine (HSE.out _).mono ?_
              rintro e y8 ⟨rfl, hd⟩
              refine hK8 _ _ ((show VS V _ from hS5).keep hd) (fun hS8 => ?_)
              clear hd hS5 hK8 K8
              refine held_one (i := 10) (oi := ?ot128) (by kernel_rfl) ?at128 ?ct128 (fun K10 hK10 => ?_)
              (case at128 => (simp only [List.getElem?_toArray, List.getElem?_cons_zero, List.getElem?_cons_succ]; rfl))
              (case ct128 => kernel_rfl)
              go_simp
              refine (HWI.out _).mono ?_
              rintro e y10 ⟨rfl, hd⟩
              refine hK10 _ _ ((show VS V _ from hS8).keep hd) (fun hS10 => ?_)
              clear hd hS8 hK10 K10
              (refine held_take (i := 11) (oi := ?ot129) (v := ?vt129) ?at129 (by kernel_rfl) (by kernel_rfl) (by kernel_rfl) ?bt129 ?ct129 ?dt129 (by assumption) ?rt129; (case at129 => (simp only [List.getElem?_toArray, List.getElem?_cons_zero, List.getElem?_cons_succ]; rfl)); (case bt129 => exact fun _ _ _ h => h); (case ct129 => kernel_rfl); (case dt129 => (intro W hW; (try dsimp only at hW); go_split_ands; go_simp; (try with_reducible rfl))); (case' rt129 => simp only [Act.put, List.setIfInBounds_toArray, List.set_cons_zero, List.set_cons_succ]))
              (refine held_take (i := 12) (oi := ?ot130) (v := ?vt130) ?at130 (by kernel_rfl) (by kernel_rfl) (by kernel_rfl) ?bt130 ?ct130 ?dt130 (by assumption) ?rt130; (case at130 => (simp only [List.getElem?_toArray, List.getElem?_cons_zero, List.getElem?_cons_succ]; rfl)); (case bt130 => exact fun _ _ _ h => h); (case ct130 => kernel_rfl); (case dt130 => (intro W hW; (try dsimp only at hW); go_split_ands; go_simp; (try with_reducible rfl))); (case' rt130 => simp only [Act.put, List.setIfInBounds_toArray, List.set_cons_zero, List.set_cons_succ]))
              (refine held_take (i := 13) (oi := ?ot131) (v := .agg (vec 5 (mpE m))) ?at131 (by kernel_rfl) (by kernel_rfl) (by kernel_rfl) ?bt131 ?ct131 ?dt131 (by assumption) ?rt131; (case at131 => (simp only [List.getElem?_toArray, List.getElem?_cons_zero, List.getElem?_cons_succ]; rfl)); (case bt131 => exact fun _ _ _ h => h); (case ct131 => kernel_rfl); (case dt131 => (intro W hW; exact exec_load_at 39 _ rfl g 0 rfl _ (run_load_arr (HA.out.under (show Below V.heap.size V W from hW)) Try.underlying39 rfl infoMp))); (case' rt131 => simp only [Act.put, List.setIfInBounds_toArray, List.set_cons_zero, List.set_cons_succ]))
              (refine held_take (i := 15) (oi := ?ot132) (v := .agg (vec 2 (spE allS))) ?at132 (by kernel_rfl) (by kernel_rfl) (by kernel_rfl) ?bt132 ?ct132 ?dt132 (by assumption) ?rt132; (case at132 => (simp only [List.getElem?_toArray, List.getElem?_cons_zero, List.getElem?_cons_succ]; rfl)); (case bt132 => exact fun _ _ _ h => h); (case ct132 => kernel_rfl); (case dt132 => (intro W hW; exact exec_load_at 49 _ rfl h 0 rfl _ (run_load_arr (HS.out.under (show Below V.heap.size V W from hW)) Try.underlying49 rfl infoSp))); (case' rt132 => simp only [Act.put, List.setIfInBounds_toArray, List.set_cons_zero, List.set_cons_succ]))
              refine held_one (i := 14) (oi := ?ot133) (by kernel_rfl) ?at133 ?ct133 (fun K14 hK14 => ?_)
              (case at133 => (simp only [List.getElem?_toArray, List.getElem?_cons_zero, List.getElem?_cons_succ]; rfl))
              (case ct133 => kernel_rfl)
              go_simp
              refine (HPH.out _).mono ?_
              rintro e y14 ⟨rfl, hd⟩
              refine hK14 _ _ ((show VS V _ from hS10).keep hd) (fun hS14 => ?_)
              clear hd hS10 hK14 K14
              refine held_one (i := 16) (oi := ?ot134) (by kernel_rfl) ?at134 ?ct134 (fun K16 hK16 => ?_)
              (case at134 => (simp only [List.getElem?_toArray, List.getElem?_cons_zero, List.getElem?_cons_succ]; rfl))
              (case ct134 => kernel_rfl)
              go_simp
              refine (HWP.out _).mono ?_
              rintro e y16 ⟨rfl, hd⟩
              refine hK16 _ _ ((show VS V _ from hS14).keep hd) (fun hS16 => ?_)
              clear hd hS14 hK16 K16
              (refine held_take (i := 17) (oi := ?ot135) (v := ?vt135) ?at135 (by kernel_rfl) (by kernel_rfl) (by kernel_rfl) ?bt135 ?ct135 ?dt135 (by assumption) ?rt135; (case at135 => (simp only [List.getElem?_toArray, List.getElem?_cons_zero, List.getElem?_cons_succ]; rfl)); (case bt135 => exact fun _ _ _ h => h); (case ct135 => kernel_rfl); (case dt135 => (intro W hW; (try dsimp only at hW); go_split_ands; go_simp; (try with_reducible rfl))); (case' rt135 => simp only [Act.put, List.setIfInBounds_toArray, List.set_cons_zero, List.set_cons_succ]))
              (refine held_take (i := 18) (oi := ?ot136) (v := ?vt136) ?at136 (by kernel_rfl) (by kernel_rfl) (by kernel_rfl) ?bt136 ?ct136 ?dt136 (by assumption) ?rt136; (case at136 => (simp only [List.getElem?_toArray, List.getElem?_cons_zero, List.getElem?_cons_succ]; rfl)); (case bt136 => exact fun _ _ _ h => h); (case ct136 => kernel_rfl); (case dt136 => (intro W hW; (try dsimp only at hW); go_split_ands; go_simp; (try with_reducible rfl))); (case' rt136 => simp only [Act.put, List.setIfInBounds_toArray, List.set_cons_zero, List.set_cons_succ]))
              (refine held_take (i := 19) (oi := ?ot137) (v := ?vt137) ?at137 (by kernel_rfl) (by kernel_rfl) (by kernel_rfl) ?bt137 ?ct137 ?dt137 (by assumption) ?rt137; (case at137 => (simp only [List.getElem?_toArray, List.getElem?_cons_zero, List.getElem?_cons_succ]; rfl)); (case bt137 => exact fun _ _ _ h => h); (case ct137 => kernel_rfl); (case dt137 => (intro W hW; (try dsimp only at hW); go_split_ands; go_simp; (try with_reducible rfl))); (case' rt137 => simp only [Act.put, List.setIfInBounds_toArray, List.set_cons_zero, List.set_cons_succ]))
              (refine held_take (i := 20) (oi := ?ot138) (v := .int .i64 mq) ?at138 (by kernel_rfl) (by kernel_rfl) (by kernel_rfl) ?bt138 ?ct138 ?dt138 (by assumption) ?rt138; (case at138 => (simp only [List.getElem?_toArray, List.getElem?_cons_zero, List.getElem?_cons_succ]; rfl)); (case bt138 => exact fun _ _ _ h => h); (case ct138 => kernel_rfl); (case dt138 => (intro W hW; have hc := (HC.out W (show Below V.heap.size V W from hW)).1; clear hW; go_simp; (try with_reducible rfl))); (case' rt138 => simp only [Act.put, List.setIfInBounds_toArray, List.set_cons_zero, List.set_cons_succ]))
              (refine held_take (i := 21) (oi := ?ot139) (v := .bool true) ?at139 (by kernel_rfl) (by kernel_rfl) (by kernel_rfl) ?bt139 ?ct139 ?dt139 (by assumption) ?rt139; (case at139 => (simp only [List.getElem?_toArray, List.getElem?_cons_zero, List.getElem?_cons_succ]; rfl)); (case bt139 => exact fun _ _ _ h => h); (case ct139 => kernel_rfl); (case dt139 => (intro W hW; clear hW; go_simp; (first | done | rfl | (rw [z1]; rfl) | (simp only [z1]; rfl) | simp [z1]))); (case' rt139 => simp only [Act.put, List.setIfInBounds_toArray, List.set_cons_zero, List.set_cons_succ]))
              (refine held_take (i := 22) (oi := ?ot140) (v := ?vt140) ?at140 (by kernel_rfl) (by kernel_rfl) (by kernel_rfl) ?bt140 ?ct140 ?dt140 (by assumption) ?rt140; (case at140 => (simp only [List.getElem?_toArray, List.getElem?_cons_zero, List.getElem?_cons_succ]; rfl)); (case bt140 => exact fun _ _ _ h => h); (case ct140 => kernel_rfl); (case dt140 => (intro W hW; (try dsimp only at hW); go_split_ands; go_simp; (try with_reducible rfl))); (case' rt140 => simp only [Act.put, List.setIfInBounds_toArray, List.set_cons_zero, List.set_cons_succ]))
              (refine held_take (i := 23) (oi := ?ot141) (v := ?vt141) ?at141 (by kernel_rfl) (by kernel_rfl) (by kernel_rfl) ?bt141 ?ct141 ?dt141 (by assumption) ?rt141; (case at141 => (simp only [List.getElem?_toArray, List.getElem?_cons_zero, List.getElem?_cons_succ]; rfl)); (case bt141 => exact fun _ _ _ h => h); (case ct141 => kernel_rfl); (case dt141 => (intro W hW; (try dsimp only at hW); go_split_ands; go_simp; (try with_reducible rfl))); (case' rt141 => simp only [Act.put, List.setIfInBounds_toArray, List.set_cons_zero, List.set_cons_succ]))
              (refine held_take (i := 24) (oi := ?ot142) (v := ?vt142) ?at142 (by kernel_rfl) (by kernel_rfl) (by kernel_rfl) ?bt142 ?ct142 ?dt142 (by assumption) ?rt142; (case at142 => (simp only [List.getElem?_toArray, List.getElem?_cons_zero, List.getElem?_cons_succ]; rfl)); (case bt142 => exact fun _ _ _ h => h); (case ct142 => kernel_rfl); (case dt142 => (intro W hW; (try dsimp only at hW); go_split_ands; go_simp; (try with_reducible rfl))); (case' rt142 => simp only [Act.put, List.setIfInBounds_toArray, List.set_cons_zero, List.set_cons_succ]))
              (refine held_take (i := 25) (oi := ?ot143) (v := .int .i64 mq) ?at143 (by kernel_rfl) (by kernel_rfl) (by kernel_rfl) ?bt143 ?ct143 ?dt143 (by assumption) ?rt143; (case at143 => (simp only [List.getElem?_toArray, List.getElem?_cons_zero, List.getElem?_cons_succ]; rfl)); (case bt143 => exact fun _ _ _ h => h); (case ct143 => kernel_rfl); (case dt143 => (intro W hW; have hc := (HC.out W (show Below V.heap.size V W from hW)).1; clear hW; go_simp; (try with_reducible rfl))); (case' rt143 => simp only [Act.put, List.setIfInBounds_toArray, List.set_cons_zero, List.set_cons_succ]))
              (refine held_take (i := 26) (oi := ?ot144) (v := .bool true) ?at144 (by kernel_rfl) (by kernel_rfl) (by kernel_rfl) ?bt144 ?ct144 ?dt144 (by assumption) ?rt144; (case at144 => (simp only [List.getElem?_toArray, List.getElem?_cons_zero, List.getElem?_cons_succ]; rfl)); (case bt144 => exact fun _ _ _ h => h); (case ct144 => kernel_rfl); (case dt144 => (intro W hW; clear hW; go_simp; (first | done | rfl | (rw [z7]; rfl) | (simp only [z7]; rfl) | simp [z7]))); (case' rt144 => simp only [Act.put, List.setIfInBounds_toArray, List.set_cons_zero, List.set_cons_succ]))
              (refine held_take (i := 27) (oi := ?ot145) (v := ?vt145) ?at145 (by kernel_rfl) (by kernel_rfl) (by kernel_rfl) ?bt145 ?ct145 ?dt145 (by assumption) ?rt145; (case at145 => (simp only [List.getElem?_toArray, List.getElem?_cons_zero, List.getElem?_cons_succ]; rfl)); (case bt145 => exact fun _ _ _ h => h); (case ct145 => kernel_rfl); (case dt145 => (intro W hW; (try dsimp only at hW); go_split_ands; go_simp; (try with_reducible rfl))); (case' rt145 => simp only [Act.put, List.setIfInBounds_toArray, List.set_cons_zero, List.set_cons_succ]))
              (refine held_take (i := 28) (oi := ?ot146) (v := ?vt146) ?at146 (by kernel_rfl) (by kernel_rfl) (by kernel_rfl) ?bt146 ?ct146 ?dt146 (by assumption) ?rt146; (case at146 => (simp only [List.getElem?_toArray, List.getElem?_cons_zero, List.getElem?_cons_succ]; rfl)); (case bt146 => exact fun _ _ _ h => h); (case ct146 => kernel_rfl); (case dt146 => (intro W hW; (try dsimp only at hW); go_split_ands; go_simp; (try with_reducible rfl))); (case' rt146 => simp only [Act.put, List.setIfInBounds_toArray, List.set_cons_zero, List.set_cons_succ]))
              (refine held_take (i := 29) (oi := ?ot147) (v := ?vt147) ?at147 (by kernel_rfl) (by kernel_rfl) (by kernel_rfl) ?bt147 ?ct147 ?dt147 (by assumption) ?rt147; (case at147 => (simp only [List.getElem?_toArray, List.getElem?_cons_zero, List.getElem?_cons_succ]; rfl)); (case bt147 => exact fun _ _ _ h => h); (case ct147 => kernel_rfl); (case dt147 => (intro W hW; (try dsimp only at hW); go_split_ands; go_simp; (try with_reducible rfl))); (case' rt147 => simp only [Act.put, List.setIfInBounds_toArray, List.set_cons_zero, List.set_cons_succ]))
              (refine held_take (i := 30) (oi := ?ot148) (v := .int .i64 mk) ?at148 (by kernel_rfl) (by kernel_rfl) (by kernel_rfl) ?bt148 ?ct148 ?dt148 (by assumption) ?rt148; (case at148 => (simp only [List.getElem?_toArray, List.getElem?_cons_zero, List.getElem?_cons_succ]; rfl)); (case bt148 => exact fun _ _ _ h => h); (case ct148 => kernel_rfl); (case dt148 => (intro W hW; have hc := (HC.out W (show Below V.heap.size V W from hW)).2; clear hW; go_simp; (try with_reducible rfl))); (case' rt148 => simp only [Act.put, List.setIfInBounds_toArray, List.set_cons_zero, List.set_cons_succ]))
              (refine held_take (i := 31) (oi := ?ot149) (v := .bool true) ?at149 (by kernel_rfl) (by kernel_rfl) (by kernel_rfl) ?bt149 ?ct149 ?dt149 (by assumption) ?rt149; (case at149 => (simp only [List.getElem?_toArray, List.getElem?_cons_zero, List.getElem?_cons_succ]; rfl)); (case bt149 => exact fun _ _ _ h => h); (case ct149 => kernel_rfl); (case dt149 => (intro W hW; clear hW; go_simp; (first | done | rfl | (rw [zk]; rfl) | (simp only [zk]; rfl) | simp [zk]))); (case' rt149 => simp only [Act.put, List.setIfInBounds_toArray, List.set_cons_zero, List.set_cons_succ]))
              (refine held_take (i := 32) (oi := ?ot150) (v := ?vt150) ?at150 (by kernel_rfl) (by kernel_rfl) (by kernel_rfl) ?bt150 ?ct150 ?dt150 (by assumption) ?rt150; (case at150 => (simp only [List.getElem?_toArray, List.getElem?_cons_zero, List.getElem?_cons_succ]; rfl)); (case bt150 => exact fun _ _ _ h => h); (case ct150 => kernel_rfl); (case dt150 => (intro W hW; (try dsimp only at hW); go_split_ands; go_simp; (try with_reducible rfl))); (case' rt150 => simp only [Act.put, List.setIfInBounds_toArray, List.set_cons_zero, List.set_cons_succ]))
              (refine held_skip (i := 33) (oi := ?ot151) ?at151 (by kernel_rfl) (by kernel_rfl) (by kernel_rfl) ?bt151 ?ct151 (by assumption) ?rt151; (case at151 => (simp only [List.getElem?_toArray, List.getElem?_cons_zero, List.getElem?_cons_succ]; rfl)); (case bt151 => exact fun _ _ _ h => h); (case ct151 => kernel_rfl); (case' rt151 => simp only [Act.put, List.setIfInBounds_toArray, List.set_cons_zero, List.set_cons_succ]))
              (refine held_skip (i := 34) (oi := ?ot152) ?at152 (by kernel_rfl) (by kernel_rfl) (by kernel_rfl) ?bt152 ?ct152 (by assumption) ?rt152; (case at152 => (simp only [List.getElem?_toArray, List.getElem?_cons_zero, List.getElem?_cons_succ]; rfl)); (case bt152 => exact fun _ _ _ h => h); (case ct152 => kernel_rfl); (case' rt152 => simp only [Act.put, List.setIfInBounds_toArray, List.set_cons_zero, List.set_cons_succ]))
              (refine held_skip (i := 35) (oi := ?ot153) ?at153 (by kernel_rfl) (by kernel_rfl) (by kernel_rfl) ?bt153 ?ct153 (by assumption) ?rt153; (case at153 => (simp only [List.getElem?_toArray, List.getElem?_cons_zero, List.getElem?_cons_succ]; rfl)); (case bt153 => exact fun _ _ _ h => h); (case ct153 => kernel_rfl); (case' rt153 => simp only [Act.put, List.setIfInBounds_toArray, List.set_cons_zero, List.set_cons_succ]))
              (refine held_take (i := 36) (oi := ?ot154) (v := ?vt154) ?at154 (by kernel_rfl) (by kernel_rfl) (by kernel_rfl) ?bt154 ?ct154 ?dt154 (by assumption) ?rt154; (case at154 => (simp only [List.getElem?_toArray, List.getElem?_cons_zero, List.getElem?_cons_succ]; rfl)); (case bt154 => exact fun _ _ _ h => h); (case ct154 => kernel_rfl); (case dt154 => (intro W hW; (try dsimp only at hW); go_split_ands; go_simp; (try with_reducible rfl))); (case' rt154 => simp only [Act.put, List.setIfInBounds_toArray, List.set_cons_zero, List.set_cons_succ]))
              (refine held_take (i := 37) (oi := ?ot155) (v := ?vt155) ?at155 (by kernel_rfl) (by kernel_rfl) (by kernel_rfl) ?bt155 ?ct155 ?dt155 (by assumption) ?rt155; (case at155 => (simp only [List.getElem?_toArray, List.getElem?_cons_zero, List.getElem?_cons_succ]; rfl)); (case bt155 => exact fun _ _ _ h => h); (case ct155 => kernel_rfl); (case dt155 => (intro W hW; (try dsimp only at hW); go_split_ands; go_simp; (try with_reducible rfl))); (case' rt155 => simp only [Act.put, List.setIfInBounds_toArray, List.set_cons_zero, List.set_cons_succ]))
              (refine held_take (i := 38) (oi := ?ot156) (v := ?vt156) ?at156 (by kernel_rfl) (by kernel_rfl) (by kernel_rfl) ?bt156 ?ct156 ?dt156 (by assumption) ?rt156; (case at156 => (simp only [List.getElem?_toArray, List.getElem?_cons_zero, List.getElem?_cons_succ]; rfl)); (case bt156 => exact fun _ _ _ h => h); (case ct156 => kernel_rfl); (case dt156 => (intro W hW; (try dsimp only at hW); go_split_ands; go_simp; (try with_reducible rfl))); (case' rt156 => simp only [Act.put, List.setIfInBounds_toArray, List.set_cons_zero, List.set_cons_succ]))
              refine wpAnyH_done (by kernel_rfl) ?_ _
              go_wp2
              go_ret
              exact ⟨by rw [HR0.out]; rfl, HB.out.trans ((show Below V.heap.size V _ from hS16).mono HB.out.size)⟩
            · have zk : (mk == 0) = false := by simp [hk]
              by_cases hl : mk = 1
              · have zl : (mk == 1) = true := by simp [hl]
                have HR0 : Hid (r = true) := Lib.hid (by rw [HRR.out]; simp [h1, h7, hl])
                clear hl hk
                refine wp_region_held_drew (S := fun Y => VS V Y) (by kernel_rfl) (VS.begin V) (fun hS => ?_)
                (refine held_take (i := 0) (oi := ?ot157) (v := .agg (vec 5 (mpE m))) ?at157 (by kernel_rfl) (by kernel_rfl) (by kernel_rfl) ?bt157 ?ct157 ?dt157 (by assumption) ?rt157; (case at157 => (simp only [List.getElem?_toArray, List.getElem?_cons_zero]; rfl)); (case bt157 => exact fun _ _ _ h => h); (case ct157 => kernel_rfl); (case dt157 => (intro W hW; exact exec_load_at 39 _ rfl g 0 rfl _ (run_load_arr (HA.out.under (show Below V.heap.size V W from hW)) Try.underlying39 rfl infoMp))); (case' rt157 => simp only [Act.put, List.setIfInBounds_toArray, List.set_cons_zero, List.set_cons_succ]))
                (refine held_take (i := 2) (oi := ?ot158) (v := .agg (vec 5 (mpE m))) ?at158 (by kernel_rfl) (by kernel_rfl) (by kernel_rfl) ?bt158 ?ct158 ?dt158 (by assumption) ?rt158; (case at158 => (simp only [List.getElem?_toArray, List.getElem?_cons_zero, List.getElem?_cons_succ]; rfl)); (case bt158 => exact fun _ _ _ h => h); (case ct158 => kernel_rfl); (case dt158 => (intro W hW; exact exec_load_at 39 _ rfl g 0 rfl _ (run_load_arr (HA.out.under (show Below V.heap.size V W from hW)) Try.underlying39 rfl infoMp))); (case' rt158 => simp only [Act.put, List.setIfInBounds_toArray, List.set_cons_zero, List.set_cons_succ]))
                refine held_one (i := 1) (oi := ?ot159) (by kernel_rfl) ?at159 ?ct159 (fun K1 hK1 => ?_)
                (case at159 => (simp only [List.getElem?_toArray, List.getElem?_cons_zero, List.getElem?_cons_succ]; rfl))
                (case ct159 => kernel_rfl)
                go_simp
                refine (HSE.out _).mono ?_
                rintro e y1 ⟨rfl, hd⟩
                refine hK1 _ _ ((show VS V _ from hS).keep hd) (fun hS1 => ?_)
                clear hd hS hK1 K1
                refine held_one (i := 3) (oi := ?ot160) (by kernel_rfl) ?at160 ?ct160 (fun K3 hK3 => ?_)
                (case at160 => (simp only [List.getElem?_toArray, List.getElem?_cons_zero, List.getElem?_cons_succ]; rfl))
                (case ct160 => kernel_rfl)
                go_simp
                refine (HPH.out _).mono ?_
                rintro e y3 ⟨rfl, hd⟩
                refine hK3 _ _ ((show VS V _ from hS1).keep hd) (fun hS3 => ?_)
                clear hd hS1 hK3 K3
                refine held_one (i := 4) (oi := ?ot161) (by kernel_rfl) ?at161 ?ct161 (fun K4 hK4 => ?_)
                (case at161 => (simp only [List.getElem?_toArray, List.getElem?_cons_zero, List.getElem?_cons_succ]; rfl))
                (case ct161 => kernel_rfl)
                refine ow_bs2 45 _ _ rfl (.agg (vec 2 (spE si))) (.agg (vec 2 (spE sp))) rfl rfl (HBT.out _) ?_
                obtain ⟨Y4, hY4⟩ : ∃ Y : World, Y = y3 := ⟨_, rfl⟩
                refine hK4 _ _ ((show VS V _ from hS3).keep ((Below.refl _ _).alloc (Nat.le_refl _) _)) (fun hS4 => ?_)
                clear hS3 hK4 K4 hY4
                refine held_one (i := 5) (oi := ?ot162) (by kernel_rfl) ?at162 ?ct162 (fun K5 hK5 => ?_)
                (case at162 => (simp only [List.getElem?_toArray, List.getElem?_cons_zero, List.getElem?_cons_succ]; rfl))
                (case ct162 => kernel_rfl)
                go_simp
                refine (HPA.out _).mono ?_
                rintro e y5 ⟨rfl, hd⟩
                refine hK5 _ _ ((show VS V _ from hS4).keep hd) (fun hS5 => ?_)
                clear hd hS4 hK5 K5
                (refine held_take (i := 6) (oi := ?ot163) (v := ?vt163) ?at163 (by kernel_rfl) (by kernel_rfl) (by kernel_rfl) ?bt163 ?ct163 ?dt163 (by assumption) ?rt163; (case at163 => (simp only [List.getElem?_toArray, List.getElem?_cons_zero, List.getElem?_cons_succ]; rfl)); (case bt163 => exact fun _ _ _ h => h); (case ct163 => kernel_rfl); (case dt163 => (intro W hW; (try dsimp only at hW); go_split_ands; go_simp; (try with_reducible rfl))); (case' rt163 => simp only [Act.put, List.setIfInBounds_toArray, List.set_cons_zero, List.set_cons_succ]))
                (refine held_take (i := 7) (oi := ?ot164) (v := .agg (vec 5 (mpE m))) ?at164 (by kernel_rfl) (by kernel_rfl) (by kernel_rfl) ?bt164 ?ct164 ?dt164 (by assumption) ?rt164; (case at164 => (simp only [List.getElem?_toArray, List.getElem?_cons_zero, List.getElem?_cons_succ]; rfl)); (case bt164 => exact fun _ _ _ h => h); (case ct164 => kernel_rfl); (case dt164 => (intro W hW; exact exec_load_at 39 _ rfl g 0 rfl _ (run_load_arr (HA.out.under (show Below V.heap.size V W from hW)) Try.underlying39 rfl infoMp))); (case' rt164 => simp only [Act.put, List.setIfInBounds_toArray, List.set_cons_zero, List.set_cons_succ]))
                (refine held_take (i := 9) (oi := ?ot165) (v := .agg (vec 2 (spE allS))) ?at165 (by kernel_rfl) (by kernel_rfl) (by kernel_rfl) ?bt165 ?ct165 ?dt165 (by assumption) ?rt165; (case at165 => (simp only [List.getElem?_toArray, List.getElem?_cons_zero, List.getElem?_cons_succ]; rfl)); (case bt165 => exact fun _ _ _ h => h); (case ct165 => kernel_rfl); (case dt165 => (intro W hW; exact exec_load_at 49 _ rfl h 0 rfl _ (run_load_arr (HS.out.under (show Below V.heap.size V W from hW)) Try.underlying49 rfl infoSp))); (case' rt165 => simp only [Act.put, List.setIfInBounds_toArray, List.set_cons_zero, List.set_cons_succ]))
                refine held_one (i := 8) (oi := ?ot166) (by kernel_rfl) ?at166 ?ct166 (fun K8 hK8 => ?_)
                (case at166 => (simp only [List.getElem?_toArray, List.getElem?_cons_zero, List.getElem?_cons_succ]; rfl))
                (case ct166 => kernel_rfl)
                go_simp
                refine (HSE.out _).mono ?_
                rintro e y8 ⟨rfl, hd⟩
                refine hK8 _ _ ((show VS V _ from hS5).keep hd) (fun hS8 => ?_)
                clear hd hS5 hK8 K8
                refine held_one (i := 10) (oi := ?ot167) (by kernel_rfl) ?at167 ?ct167 (fun K10 hK10 => ?_)
                (case at167 => (simp only [List.getElem?_toArray, List.getElem?_cons_zero, List.getElem?_cons_succ]; rfl))
                (case ct167 => kernel_rfl)
                go_simp
                refine (HWI.out _).mono ?_
                rintro e y10 ⟨rfl, hd⟩
                refine hK10 _ _ ((show VS V _ from hS8).keep hd) (fun hS10 => ?_)
                clear hd hS8 hK10 K10
                (refine held_take (i := 11) (oi := ?ot168) (v := ?vt168) ?at168 (by kernel_rfl) (by kernel_rfl) (by kernel_rfl) ?bt168 ?ct168 ?dt168 (by assumption) ?rt168; (case at168 => (simp only [List.getElem?_toArray, List.getElem?_cons_zero, List.getElem?_cons_succ]; rfl)); (case bt168 => exact fun _ _ _ h => h); (case ct168 => kernel_rfl); (case dt168 => (intro W hW; (try dsimp only at hW); go_split_ands; go_simp; (try with_reducible rfl))); (case' rt168 => simp only [Act.put, List.setIfInBounds_toArray, List.set_cons_zero, List.set_cons_succ]))
                (refine held_take (i := 12) (oi := ?ot169) (v := ?vt169) ?at169 (by kernel_rfl) (by kernel_rfl) (by kernel_rfl) ?bt169 ?ct169 ?dt169 (by assumption) ?rt169; (case at169 => (simp only [List.getElem?_toArray, List.getElem?_cons_zero, List.getElem?_cons_succ]; rfl)); (case bt169 => exact fun _ _ _ h => h); (case ct169 => kernel_rfl); (case dt169 => (intro W hW; (try dsimp only at hW); go_split_ands; go_simp; (try with_reducible rfl))); (case' rt169 => simp only [Act.put, List.setIfInBounds_toArray, List.set_cons_zero, List.set_cons_succ]))
                (refine held_take (i := 13) (oi := ?ot170) (v := .agg (vec 5 (mpE m))) ?at170 (by kernel_rfl) (by kernel_rfl) (by kernel_rfl) ?bt170 ?ct170 ?dt170 (by assumption) ?rt170; (case at170 => (simp only [List.getElem?_toArray, List.getElem?_cons_zero, List.getElem?_cons_succ]; rfl)); (case bt170 => exact fun _ _ _ h => h); (case ct170 => kernel_rfl); (case dt170 => (intro W hW; exact exec_load_at 39 _ rfl g 0 rfl _ (run_load_arr (HA.out.under (show Below V.heap.size V W from hW)) Try.underlying39 rfl infoMp))); (case' rt170 => simp only [Act.put, List.setIfInBounds_toArray, List.set_cons_zero, List.set_cons_succ]))
                (refine held_take (i := 15) (oi := ?ot171) (v := .agg (vec 2 (spE allS))) ?at171 (by kernel_rfl) (by kernel_rfl) (by kernel_rfl) ?bt171 ?ct171 ?dt171 (by assumption) ?rt171; (case at171 => (simp only [List.getElem?_toArray, List.getElem?_cons_zero, List.getElem?_cons_succ]; rfl)); (case bt171 => exact fun _ _ _ h => h); (case ct171 => kernel_rfl); (case dt171 => (intro W hW; exact exec_load_at 49 _ rfl h 0 rfl _ (run_load_arr (HS.out.under (show Below V.heap.size V W from hW)) Try.underlying49 rfl infoSp))); (case' rt171 => simp only [Act.put, List.setIfInBounds_toArray, List.set_cons_zero, List.set_cons_succ]))
                refine held_one (i := 14) (oi := ?ot172) (by kernel_rfl) ?at172 ?ct172 (fun K14 hK14 => ?_)
                (case at172 => (simp only [List.getElem?_toArray, List.getElem?_cons_zero, List.getElem?_cons_succ]; rfl))
                (case ct172 => kernel_rfl)
                go_simp
                refine (HPH.out _).mono ?_
                rintro e y14 ⟨rfl, hd⟩
                refine hK14 _ _ ((show VS V _ from hS10).keep hd) (fun hS14 => ?_)
                clear hd hS10 hK14 K14
                refine held_one (i := 16) (oi := ?ot173) (by kernel_rfl) ?at173 ?ct173 (fun K16 hK16 => ?_)
                (case at173 => (simp only [List.getElem?_toArray, List.getElem?_cons_zero, List.getElem?_cons_succ]; rfl))
                (case ct173 => kernel_rfl)
                go_simp
                refine (HWP.out _).mono ?_
                rintro e y16 ⟨rfl, hd⟩
                refine hK16 _ _ ((show VS V _ from hS14).keep hd) (fun hS16 => ?_)
                clear hd hS14 hK16 K16
                (refine held_take (i := 17) (oi := ?ot174) (v := ?vt174) ?at174 (by kernel_rfl) (by kernel_rfl) (by kernel_rfl) ?bt174 ?ct174 ?dt174 (by assumption) ?rt174; (case at174 => (simp only [List.getElem?_toArray, List.getElem?_cons_zero, List.getElem?_cons_succ]; rfl)); (case bt174 => exact fun _ _ _ h => h); (case ct174 => kernel_rfl); (case dt174 => (intro W hW; (try dsimp only at hW); go_split_ands; go_simp; (try with_reducible rfl))); (case' rt174 => simp only [Act.put, List.setIfInBounds_toArray, List.set_cons_zero, List.set_cons_succ]))
                (refine held_take (i := 18) (oi := ?ot175) (v := ?vt175) ?at175 (by kernel_rfl) (by kernel_rfl) (by kernel_rfl) ?bt175 ?ct175 ?dt175 (by assumption) ?rt175; (case at175 => (simp only [List.getElem?_toArray, List.getElem?_cons_zero, List.getElem?_cons_succ]; rfl)); (case bt175 => exact fun _ _ _ h => h); (case ct175 => kernel_rfl); (case dt175 => (intro W hW; (try dsimp only at hW); go_split_ands; go_simp; (try with_reducible rfl))); (case' rt175 => simp only [Act.put, List.setIfInBounds_toArray, List.set_cons_zero, List.set_cons_succ]))
                (refine held_take (i := 19) (oi := ?ot176) (v := ?vt176) ?at176 (by kernel_rfl) (by kernel_rfl) (by kernel_rfl) ?bt176 ?ct176 ?dt176 (by assumption) ?rt176; (case at176 => (simp only [List.getElem?_toArray, List.getElem?_cons_zero, List.getElem?_cons_succ]; rfl)); (case bt176 => exact fun _ _ _ h => h); (case ct176 => kernel_rfl); (case dt176 => (intro W hW; (try dsimp only at hW); go_split_ands; go_simp; (try with_reducible rfl))); (case' rt176 => simp only [Act.put, List.setIfInBounds_toArray, List.set_cons_zero, List.set_cons_succ]))
                (refine held_take (i := 20) (oi := ?ot177) (v := .int .i64 mq) ?at177 (by kernel_rfl) (by kernel_rfl) (by kernel_rfl) ?bt177 ?ct177 ?dt177 (by assumption) ?rt177; (case at177 => (simp only [List.getElem?_toArray, List.getElem?_cons_zero, List.getElem?_cons_succ]; rfl)); (case bt177 => exact fun _ _ _ h => h); (case ct177 => kernel_rfl); (case dt177 => (intro W hW; have hc := (HC.out W (show Below V.heap.size V W from hW)).1; clear hW; go_simp; (try with_reducible rfl))); (case' rt177 => simp only [Act.put, List.setIfInBounds_toArray, List.set_cons_zero, List.set_cons_succ]))
                (refine held_take (i := 21) (oi := ?ot178) (v := .bool true) ?at178 (by kernel_rfl) (by kernel_rfl) (by kernel_rfl) ?bt178 ?ct178 ?dt178 (by assumption) ?rt178; (case at178 => (simp only [List.getElem?_toArray, List.getElem?_cons_zero, List.getElem?_cons_succ]; rfl)); (case bt178 => exact fun _ _ _ h => h); (case ct178 => kernel_rfl); (case dt178 => (intro W hW; clear hW; go_simp; (first | done | rfl | (rw [z1]; rfl) | (simp only [z1]; rfl) | simp [z1]))); (case' rt178 => simp only [Act.put, List.setIfInBounds_toArray, List.set_cons_zero, List.set_cons_succ]))
                (refine held_take (i := 22) (oi := ?ot179) (v := ?vt179) ?at179 (by kernel_rfl) (by kernel_rfl) (by kernel_rfl) ?bt179 ?ct179 ?dt179 (by assumption) ?rt179; (case at179 => (simp only [List.getElem?_toArray, List.getElem?_cons_zero, List.getElem?_cons_succ]; rfl)); (case bt179 => exact fun _ _ _ h => h); (case ct179 => kernel_rfl); (case dt179 => (intro W hW; (try dsimp only at hW); go_split_ands; go_simp; (try with_reducible rfl))); (case' rt179 => simp only [Act.put, List.setIfInBounds_toArray, List.set_cons_zero, List.set_cons_succ]))
                (refine held_take (i := 23) (oi := ?ot180) (v := ?vt180) ?at180 (by kernel_rfl) (by kernel_rfl) (by kernel_rfl) ?bt180 ?ct180 ?dt180 (by assumption) ?rt180; (case at180 => (simp only [List.getElem?_toArray, List.getElem?_cons_zero, List.getElem?_cons_succ]; rfl)); (case bt180 => exact fun _ _ _ h => h); (case ct180 => kernel_rfl); (case dt180 => (intro W hW; (try dsimp only at hW); go_split_ands; go_simp; (try with_reducible rfl))); (case' rt180 => simp only [Act.put, List.setIfInBounds_toArray, List.set_cons_zero, List.set_cons_succ]))
                (refine held_take (i := 24) (oi := ?ot181) (v := ?vt181) ?at181 (by kernel_rfl) (by kernel_rfl) (by kernel_rfl) ?bt181 ?ct181 ?dt181 (by assumption) ?rt181; (case at181 => (simp only [List.getElem?_toArray, List.getElem?_cons_zero, List.getElem?_cons_succ]; rfl)); (case bt181 => exact fun _ _ _ h => h); (case ct181 => kernel_rfl); (case dt181 => (intro W hW; (try dsimp only at hW); go_split_ands; go_simp; (try with_reducible rfl))); (case' rt181 => simp only [Act.put, List.setIfInBounds_toArray, List.set_cons_zero, List.set_cons_succ]))
                (refine held_take (i := 25) (oi := ?ot182) (v := .int .i64 mq) ?at182 (by kernel_rfl) (by kernel_rfl) (by kernel_rfl) ?bt182 ?ct182 ?dt182 (by assumption) ?rt182; (case at182 => (simp only [List.getElem?_toArray, List.getElem?_cons_zero, List.getElem?_cons_succ]; rfl)); (case bt182 => exact fun _ _ _ h => h); (case ct182 => kernel_rfl); (case dt182 => (intro W hW; have hc := (HC.out W (show Below V.heap.size V W from hW)).1; clear hW; go_simp; (try with_reducible rfl))); (case' rt182 => simp only [Act.put, List.setIfInBounds_toArray, List.set_cons_zero, List.set_cons_succ]))
                (refine held_take (i := 26) (oi := ?ot183) (v := .bool true) ?at183 (by kernel_rfl) (by kernel_rfl) (by kernel_rfl) ?bt183 ?ct183 ?dt183 (by assumption) ?rt183; (case at183 => (simp only [List.getElem?_toArray, List.getElem?_cons_zero, List.getElem?_cons_succ]; rfl)); (case bt183 => exact fun _ _ _ h => h); (case ct183 => kernel_rfl); (case dt183 => (intro W hW; clear hW; go_simp; (first | done | rfl | (rw [z7]; rfl) | (simp only [z7]; rfl) | simp [z7]))); (case' rt183 => simp only [Act.put, List.setIfInBounds_toArray, List.set_cons_zero, List.set_cons_succ]))
                (refine held_take (i := 27) (oi := ?ot184) (v := ?vt184) ?at184 (by kernel_rfl) (by kernel_rfl) (by kernel_rfl) ?bt184 ?ct184 ?dt184 (by assumption) ?rt184; (case at184 => (simp only [List.getElem?_toArray, List.getElem?_cons_zero, List.getElem?_cons_succ]; rfl)); (case bt184 => exact fun _ _ _ h => h); (case ct184 => kernel_rfl); (case dt184 => (intro W hW; (try dsimp only at hW); go_split_ands; go_simp; (try with_reducible rfl))); (case' rt184 => simp only [Act.put, List.setIfInBounds_toArray, List.set_cons_zero, List.set_cons_succ]))
                (refine held_take (i := 28) (oi := ?ot185) (v := ?vt185) ?at185 (by kernel_rfl) (by kernel_rfl) (by kernel_rfl) ?bt185 ?ct185 ?dt185 (by assumption) ?rt185; (case at185 => (simp only [List.getElem?_toArray, List.getElem?_cons_zero, List.getElem?_cons_succ]; rfl)); (case bt185 => exact fun _ _ _ h => h); (case ct185 => kernel_rfl); (case dt185 => (intro W hW; (try dsimp only at hW); go_split_ands; go_simp; (try with_reducible rfl))); (case' rt185 => simp only [Act.put, List.setIfInBounds_toArray, List.set_cons_zero, List.set_cons_succ]))
                (refine held_take (i := 29) (oi := ?ot186) (v := ?vt186) ?at186 (by kernel_rfl) (by kernel_rfl) (by kernel_rfl) ?bt186 ?ct186 ?dt186 (by assumption) ?rt186; (case at186 => (simp only [List.getElem?_toArray, List.getElem?_cons_zero, List.getElem?_cons_succ]; rfl)); (case bt186 => exact fun _ _ _ h => h); (case ct186 => kernel_rfl); (case dt186 => (intro W hW; (try dsimp only at hW); go_split_ands; go_simp; (try with_reducible rfl))); (case' rt186 => simp only [Act.put, List.setIfInBounds_toArray, List.set_cons_zero, List.set_cons_succ]))
                (refine held_take (i := 30) (oi := ?ot187) (v := .int .i64 mk) ?at187 (by kernel_rfl) (by kernel_rfl) (by kernel_rfl) ?bt187 ?ct187 ?dt187 (by assumption) ?rt187; (case at187 => (simp only [List.getElem?_toArray, List.getElem?_cons_zero, List.getElem?_cons_succ]; rfl)); (case bt187 => exact fun _ _ _ h => h); (case ct187 => kernel_rfl); (case dt187 => (intro W hW; have hc := (HC.out W (show Below V.heap.size V W from hW)).2; clear hW; go_simp; (try with_reducible rfl))); (case' rt187 => simp only [Act.put, List.setIfInBounds_toArray, List.set_cons_zero, List.set_cons_succ]))
                (refine held_take (i := 31) (oi := ?ot188) (v := .bool false) ?at188 (by kernel_rfl) (by kernel_rfl) (by kernel_rfl) ?bt188 ?ct188 ?dt188 (by assumption) ?rt188; (case at188 => (simp only [List.getElem?_toArray, List.getElem?_cons_zero, List.getElem?_cons_succ]; rfl)); (case bt188 => exact fun _ _ _ h => h); (case ct188 => kernel_rfl); (case dt188 => (intro W hW; clear hW; go_simp; (first | done | rfl | (rw [zk]; rfl) | (simp only [zk]; rfl) | simp [zk]))); (case' rt188 => simp only [Act.put, List.setIfInBounds_toArray, List.set_cons_zero, List.set_cons_succ]))
                (refine held_take (i := 32) (oi := ?ot189) (v := ?vt189) ?at189 (by kernel_rfl) (by kernel_rfl) (by kernel_rfl) ?bt189 ?ct189 ?dt189 (by assumption) ?rt189; (case at189 => (simp only [List.getElem?_toArray, List.getElem?_cons_zero, List.getElem?_cons_succ]; rfl)); (case bt189 => exact fun _ _ _ h => h); (case ct189 => kernel_rfl); (case dt189 => (intro W hW; (try dsimp only at hW); go_split_ands; go_simp; (try with_reducible rfl))); (case' rt189 => simp only [Act.put, List.setIfInBounds_toArray, List.set_cons_zero, List.set_cons_succ]))
                (refine held_take (i := 33) (oi := ?ot190) (v := ?vt190) ?at190 (by kernel_rfl) (by kernel_rfl) (by kernel_rfl) ?bt190 ?ct190 ?dt190 (by assumption) ?rt190; (case at190 => (simp only [List.getElem?_toArray, List.getElem?_cons_zero, List.getElem?_cons_succ]; rfl)); (case bt190 => exact fun _ _ _ h => h); (case ct190 => kernel_rfl); (case dt190 => (intro W hW; (try dsimp only at hW); go_split_ands; go_simp; (try with_reducible rfl))); (case' rt190 => simp only [Act.put, List.setIfInBounds_toArray, List.set_cons_zero, List.set_cons_succ]))
                (refine held_take (i := 34) (oi := ?ot191) (v := .int .i64 mk) ?at191 (by kernel_rfl) (by kernel_rfl) (by kernel_rfl) ?bt191 ?ct191 ?dt191 (by assumption) ?rt191; (case at191 => (simp only [List.getElem?_toArray, List.getElem?_cons_zero, List.getElem?_cons_succ]; rfl)); (case bt191 => exact fun _ _ _ h => h); (case ct191 => kernel_rfl); (case dt191 => (intro W hW; have hc := (HC.out W (show Below V.heap.size V W from hW)).2; clear hW; go_simp; (try with_reducible rfl))); (case' rt191 => simp only [Act.put, List.setIfInBounds_toArray, List.set_cons_zero, List.set_cons_succ]))
                (refine held_take (i := 35) (oi := ?ot192) (v := .bool true) ?at192 (by kernel_rfl) (by kernel_rfl) (by kernel_rfl) ?bt192 ?ct192 ?dt192 (by assumption) ?rt192; (case at192 => (simp only [List.getElem?_toArray, List.getElem?_cons_zero, List.getElem?_cons_succ]; rfl)); (case bt192 => exact fun _ _ _ h => h); (case ct192 => kernel_rfl); (case dt192 => (intro W hW; clear hW; go_simp; (first | done | rfl | (rw [zl]; rfl) | (simp only [zl]; rfl) | simp [zl]))); (case' rt192 => simp only [Act.put, List.setIfInBounds_toArray, List.set_cons_zero, List.set_cons_succ]))
                (refine held_take (i := 36) (oi := ?ot193) (v := ?vt193) ?at193 (by kernel_rfl) (by kernel_rfl) (by kernel_rfl) ?bt193 ?ct193 ?dt193 (by assumption) ?rt193; (case at193 => (simp only [List.getElem?_toArray, List.getElem?_cons_zero, List.getElem?_cons_succ]; rfl)); (case bt193 => exact fun _ _ _ h => h); (case ct193 => kernel_rfl); (case dt193 => (intro W hW; (try dsimp only at hW); go_split_ands; go_simp; (try with_reducible rfl))); (case' rt193 => simp only [Act.put, List.setIfInBounds_toArray, List.set_cons_zero, List.set_cons_succ]))
                (refine held_take (i := 37) (oi := ?ot194) (v := ?vt194) ?at194 (by kernel_rfl) (by kernel_rfl) (by kernel_rfl) ?bt194 ?ct194 ?dt194 (by assumption) ?rt194; (case at194 => (simp only [List.getElem?_toArray, List.getElem?_cons_zero, List.getElem?_cons_succ]; rfl)); (case bt194 => exact fun _ _ _ h => h); (case ct194 => kernel_rfl); (case dt194 => (intro W hW; (try dsimp only at hW); go_split_ands; go_simp; (try with_reducible rfl))); (case' rt194 => simp only [Act.put, List.setIfInBounds_toArray, List.set_cons_zero, List.set_cons_succ]))
                (refine held_take (i := 38) (oi := ?ot195) (v := ?vt195) ?at195 (by kernel_rfl) (by kernel_rfl) (by kernel_rfl) ?bt195 ?ct195 ?dt195 (by assumption) ?rt195; (case at195 => (simp only [List.getElem?_toArray, List.getElem?_cons_zero, List.getElem?_cons_succ]; rfl)); (case bt195 => exact fun _ _ _ h => h); (case ct195 => kernel_rfl); (case dt195 => (intro W hW; (try dsimp only at hW); go_split_ands; go_simp; (try with_reducible rfl))); (case' rt195 => simp only [Act.put, List.setIfInBounds_toArray, List.set_cons_zero, List.set_cons_succ]))
                refine wpAnyH_done (by kernel_rfl) ?_ _
                go_wp2
                go_ret
                exact ⟨by rw [HR0.out]; rfl, HB.out.trans ((show Below V.heap.size V _ from hS16).mono HB.out.size)⟩
              · have zl : (mk == 1) = false := by simp [hl]
                have HR : Hid (r = false) := Lib.hid (by rw [HRR.out]; simp [hk, hl])
                refine wp_region_held_drew (S := fun Y => VS V Y) (by kernel_rfl) (VS.begin V) (fun hS => ?_)
                (refine held_take (i := 0) (oi := ?ot196) (v := .agg (vec 5 (mpE m))) ?at196 (by kernel_rfl) (by kernel_rfl) (by kernel_rfl) ?bt196 ?ct196 ?dt196 (by assumption) ?rt196; (case at196 => (simp only [List.getElem?_toArray, List.getElem?_cons_zero]; rfl)); (case bt196 => exact fun _ _ _ h => h); (case ct196 => kernel_rfl); (case dt196 => (intro W hW; exact exec_load_at 39 _ rfl g 0 rfl _ (run_load_arr (HA.out.under (show Below V.heap.size V W from hW)) Try.underlying39 rfl infoMp))); (case' rt196 => simp only [Act.put, List.setIfInBounds_toArray, List.set_cons_zero, List.set_cons_succ]))
                (refine held_take (i := 2) (oi := ?ot197) (v := .agg (vec 5 (mpE m))) ?at197 (by kernel_rfl) (by kernel_rfl) (by kernel_rfl) ?bt197 ?ct197 ?dt197 (by assumption) ?rt197; (case at197 => (simp only [List.getElem?_toArray, List.getElem?_cons_zero, List.getElem?_cons_succ]; rfl)); (case bt197 => exact fun _ _ _ h => h); (case ct197 => kernel_rfl); (case dt197 => (intro W hW; exact exec_load_at 39 _ rfl g 0 rfl _ (run_load_arr (HA.out.under (show Below V.heap.size V W from hW)) Try.underlying39 rfl infoMp))); (case' rt197 => simp only [Act.put, List.setIfInBounds_toArray, List.set_cons_zero, List.set_cons_succ]))
                refine held_one (i := 1) (oi := ?ot198) (by kernel_rfl) ?at198 ?ct198 (fun K1 hK1 => ?_)
                (case at198 => (simp only [List.getElem?_toArray, List.getElem?_cons_zero, List.getElem?_cons_succ]; rfl))
                (case ct198 => kernel_rfl)
                go_simp
                refine (HSE.out _).mono ?_
                rintro e y1 ⟨rfl, hd⟩
                refine hK1 _ _ ((show VS V _ from hS).keep hd) (fun hS1 => ?_)
                clear hd hS hK1 K1
                refine held_one (i := 3) (oi := ?ot199) (by kernel_rfl) ?at199 ?ct199 (fun K3 hK3 => ?_)
                (case at199 => (simp only [List.getElem?_toArray, List.getElem?_cons_zero, List.getElem?_cons_succ]; rfl))
                (case ct199 => kernel_rfl)
                go_simp
                refine (HPH.out _).mono ?_
                rintro e y3 ⟨rfl, hd⟩
                refine hK3 _ _ ((show VS V _ from hS1).keep hd) (fun hS3 => ?_)
                clear hd hS1 hK3 K3
                refine held_one (i := 4) (oi := ?ot200) (by kernel_rfl) ?at200 ?ct200 (fun K4 hK4 => ?_)
                (case at200 => (simp only [List.getElem?_toArray, List.getElem?_cons_zero, List.getElem?_cons_succ]; rfl))
                (case ct200 => kernel_rfl)
                refine ow_bs2 45 _ _ rfl (.agg (vec 2 (spE si))) (.agg (vec 2 (spE sp))) rfl rfl (HBT.out _) ?_
                obtain ⟨Y4, hY4⟩ : ∃ Y : World, Y = y3 := ⟨_, rfl⟩
                refine hK4 _ _ ((show VS V _ from hS3).keep ((Below.refl _ _).alloc (Nat.le_refl _) _)) (fun hS4 => ?_)
                clear hS3 hK4 K4 hY4
                refine held_one (i := 5) (oi := ?ot201) (by kernel_rfl) ?at201 ?ct201 (fun K5 hK5 => ?_)
                (case at201 => (simp only [List.getElem?_toArray, List.getElem?_cons_zero, List.getElem?_cons_succ]; rfl))
                (case ct201 => kernel_rfl)
                go_simp
                refine (HPA.out _).mono ?_
                rintro e y5 ⟨rfl, hd⟩
                refine hK5 _ _ ((show VS V _ from hS4).keep hd) (fun hS5 => ?_)
                clear hd hS4 hK5 K5
                (refine held_take (i := 6) (oi := ?ot202) (v := ?vt202) ?at202 (by kernel_rfl) (by kernel_rfl) (by kernel_rfl) ?bt202 ?ct202 ?dt202 (by assumption) ?rt202; (case at202 => (simp only [List.getElem?_toArray, List.getElem?_cons_zero, List.getElem?_cons_succ]; rfl)); (case bt202 => exact fun _ _ _ h => h); (case ct202 => kernel_rfl); (case dt202 => (intro W hW; (try dsimp only at hW); go_split_ands; go_simp; (try with_reducible rfl))); (case' rt202 => simp only [Act.put, List.setIfInBounds_toArray, List.set_cons_zero, List.set_cons_succ]))
                (refine held_take (i := 7) (oi := ?ot203) (v := .agg (vec 5 (mpE m))) ?at203 (by kernel_rfl) (by kernel_rfl) (by kernel_rfl) ?bt203 ?ct203 ?dt203 (by assumption) ?rt203; (case at203 => (simp only [List.getElem?_toArray, List.getElem?_cons_zero, List.getElem?_cons_succ]; rfl)); (case bt203 => exact fun _ _ _ h => h); (case ct203 => kernel_rfl); (case dt203 => (intro W hW; exact exec_load_at 39 _ rfl g 0 rfl _ (run_load_arr (HA.out.under (show Below V.heap.size V W from hW)) Try.underlying39 rfl infoMp))); (case' rt203 => simp only [Act.put, List.setIfInBounds_toArray, List.set_cons_zero, List.set_cons_succ]))
                (refine held_take (i := 9) (oi := ?ot204) (v := .agg (vec 2 (spE allS))) ?at204 (by kernel_rfl) (by kernel_rfl) (by kernel_rfl) ?bt204 ?ct204 ?dt204 (by assumption) ?rt204; (case at204 => (simp only [List.getElem?_toArray, List.getElem?_cons_zero, List.getElem?_cons_succ]; rfl)); (case bt204 => exact fun _ _ _ h => h); (case ct204 => kernel_rfl); (case dt204 => (intro W hW; exact exec_load_at 49 _ rfl h 0 rfl _ (run_load_arr (HS.out.under (show Below V.heap.size V W from hW)) Try.underlying49 rfl infoSp))); (case' rt204 => simp only [Act.put, List.setIfInBounds_toArray, List.set_cons_zero, List.set_cons_succ]))
                refine held_one (i := 8) (oi := ?ot205) (by kernel_rfl) ?at205 ?ct205 (fun K8 hK8 => ?_)
                (case at205 => (simp only [List.getElem?_toArray, List.getElem?_cons_zero, List.getElem?_cons_succ]; rfl))
                (case ct205 => kernel_rfl)
                go_simp
                refine (HSE.out _).mono ?_
                rintro e y8 ⟨rfl, hd⟩
                refine hK8 _ _ ((show VS V _ from hS5).keep hd) (fun hS8 => ?_)
                clear hd hS5 hK8 K8
                refine held_one (i := 10) (oi := ?ot206) (by kernel_rfl) ?at206 ?ct206 (fun K10 hK10 => ?_)
                (case at206 => (simp only [List.getElem?_toArray, List.getElem?_cons_zero, List.getElem?_cons_succ]; rfl))
                (case ct206 => kernel_rfl)
                go_simp
                refine (HWI.out _).mono ?_
                rintro e y10 ⟨rfl, hd⟩
                refine hK10 _ _ ((show VS V _ from hS8).keep hd) (fun hS10 => ?_)
                clear hd hS8 hK10 K10
                (refine held_take (i := 11) (oi := ?ot207) (v := ?vt207) ?at207 (by kernel_rfl) (by kernel_rfl) (by kernel_rfl) ?bt207 ?ct207 ?dt207 (by assumption) ?rt207; (case at207 => (simp only [List.getElem?_toArray, List.getElem?_cons_zero, List.getElem?_cons_succ]; rfl)); (case bt207 => exact fun _ _ _ h => h); (case ct207 => kernel_rfl); (case dt207 => (intro W hW; (try dsimp only at hW); go_split_ands; go_simp; (try with_reducible rfl))); (case' rt207 => simp only [Act.put, List.setIfInBounds_toArray, List.set_cons_zero, List.set_cons_succ]))
                (refine held_take (i := 12) (oi := ?ot208) (v := ?vt208) ?at208 (by kernel_rfl) (by kernel_rfl) (by kernel_rfl) ?bt208 ?ct208 ?dt208 (by assumption) ?rt208; (case at208 => (simp only [List.getElem?_toArray, List.getElem?_cons_zero, List.getElem?_cons_succ]; rfl)); (case bt208 => exact fun _ _ _ h => h); (case ct208 => kernel_rfl); (case dt208 => (intro W hW; (try dsimp only at hW); go_split_ands; go_simp; (try with_reducible rfl))); (case' rt208 => simp only [Act.put, List.setIfInBounds_toArray, List.set_cons_zero, List.set_cons_succ]))
                (refine held_take (i := 13) (oi := ?ot209) (v := .agg (vec 5 (mpE m))) ?at209 (by kernel_rfl) (by kernel_rfl) (by kernel_rfl) ?bt209 ?ct209 ?dt209 (by assumption) ?rt209; (case at209 => (simp only [List.getElem?_toArray, List.getElem?_cons_zero, List.getElem?_cons_succ]; rfl)); (case bt209 => exact fun _ _ _ h => h); (case ct209 => kernel_rfl); (case dt209 => (intro W hW; exact exec_load_at 39 _ rfl g 0 rfl _ (run_load_arr (HA.out.under (show Below V.heap.size V W from hW)) Try.underlying39 rfl infoMp))); (case' rt209 => simp only [Act.put, List.setIfInBounds_toArray, List.set_cons_zero, List.set_cons_succ]))
                (refine held_take (i := 15) (oi := ?ot210) (v := .agg (vec 2 (spE allS))) ?at210 (by kernel_rfl) (by kernel_rfl) (by kernel_rfl) ?bt210 ?ct210 ?dt210 (by assumption) ?rt210; (case at210 => (simp only [List.getElem?_toArray, List.getElem?_cons_zero, List.getElem?_cons_succ]; rfl)); (case bt210 => exact fun _ _ _ h => h); (case ct210 => kernel_rfl); (case dt210 => (intro W hW; exact exec_load_at 49 _ rfl h 0 rfl _ (run_load_arr (HS.out.under (show Below V.heap.size V W from hW)) Try.underlying49 rfl infoSp))); (case' rt210 => simp only [Act.put, List.setIfInBounds_toArray, List.set_cons_zero, List.set_cons_succ]))
                refine held_one (i := 14) (oi := ?ot211) (by kernel_rfl) ?at211 ?ct211 (fun K14 hK14 => ?_)
                (case at211 => (simp only [List.getElem?_toArray, List.getElem?_cons_zero, List.getElem?_cons_succ]; rfl))
                (case ct211 => kernel_rfl)
                go_simp
                refine (HPH.out _).mono ?_
                rintro e y14 ⟨rfl, hd⟩
                refine hK14 _ _ ((show VS V _ from hS10).keep hd) (fun hS14 => ?_)
                clear hd hS10 hK14 K14
                refine held_one (i := 16) (oi := ?ot212) (by kernel_rfl) ?at212 ?ct212 (fun K16 hK16 => ?_)
                (case at212 => (simp only [List.getElem?_toArray, List.getElem?_cons_zero, List.getElem?_cons_succ]; rfl))
                (case ct212 => kernel_rfl)
                go_simp
                refine (HWP.out _).mono ?_
                rintro e y16 ⟨rfl, hd⟩
                refine hK16 _ _ ((show VS V _ from hS14).keep hd) (fun hS16 => ?_)
                clear hd hS14 hK16 K16
                (refine held_take (i := 17) (oi := ?ot213) (v := ?vt213) ?at213 (by kernel_rfl) (by kernel_rfl) (by kernel_rfl) ?bt213 ?ct213 ?dt213 (by assumption) ?rt213; (case at213 => (simp only [List.getElem?_toArray, List.getElem?_cons_zero, List.getElem?_cons_succ]; rfl)); (case bt213 => exact fun _ _ _ h => h); (case ct213 => kernel_rfl); (case dt213 => (intro W hW; (try dsimp only at hW); go_split_ands; go_simp; (try with_reducible rfl))); (case' rt213 => simp only [Act.put, List.setIfInBounds_toArray, List.set_cons_zero, List.set_cons_succ]))
                (refine held_take (i := 18) (oi := ?ot214) (v := ?vt214) ?at214 (by kernel_rfl) (by kernel_rfl) (by kernel_rfl) ?bt214 ?ct214 ?dt214 (by assumption) ?rt214; (case at214 => (simp only [List.getElem?_toArray, List.getElem?_cons_zero, List.getElem?_cons_succ]; rfl)); (case bt214 => exact fun _ _ _ h => h); (case ct214 => kernel_rfl); (case dt214 => (intro W hW; (try dsimp only at hW); go_split_ands; go_simp; (try with_reducible rfl))); (case' rt214 => simp only [Act.put, List.setIfInBounds_toArray, List.set_cons_zero, List.set_cons_succ]))
                (refine held_take (i := 19) (oi := ?ot215) (v := ?vt215) ?at215 (by kernel_rfl) (by kernel_rfl) (by kernel_rfl) ?bt215 ?ct215 ?dt215 (by assumption) ?rt215; (case at215 => (simp only [List.getElem?_toArray, List.getElem?_cons_zero, List.getElem?_cons_succ]; rfl)); (case bt215 => exact fun _ _ _ h => h); (case ct215 => kernel_rfl); (case dt215 => (intro W hW; (try dsimp only at hW); go_split_ands; go_simp; (try with_reducible rfl))); (case' rt215 => simp only [Act.put, List.setIfInBounds_toArray, List.set_cons_zero, List.set_cons_succ]))
                (refine held_take (i := 20) (oi := ?ot216) (v := .int .i64 mq) ?at216 (by kernel_rfl) (by kernel_rfl) (by kernel_rfl) ?bt216 ?ct216 ?dt216 (by assumption) ?rt216; (case at216 => (simp only [List.getElem?_toArray, List.getElem?_cons_zero, List.getElem?_cons_succ]; rfl)); (case bt216 => exact fun _ _ _ h => h); (case ct216 => kernel_rfl); (case dt216 => (intro W hW; have hc := (HC.out W (show Below V.heap.size V W from hW)).1; clear hW; go_simp; (try with_reducible rfl))); (case' rt216 => simp only [Act.put, List.setIfInBounds_toArray, List.set_cons_zero, List.set_cons_succ]))
                (refine held_take (i := 21) (oi := ?ot217) (v := .bool true) ?at217 (by kernel_rfl) (by kernel_rfl) (by kernel_rfl) ?bt217 ?ct217 ?dt217 (by assumption) ?rt217; (case at217 => (simp only [List.getElem?_toArray, List.getElem?_cons_zero, List.getElem?_cons_succ]; rfl)); (case bt217 => exact fun _ _ _ h => h); (case ct217 => kernel_rfl); (case dt217 => (intro W hW; clear hW; go_simp; (first | done | rfl | (rw [z1]; rfl) | (simp only [z1]; rfl) | simp [z1]))); (case' rt217 => simp only [Act.put, List.setIfInBounds_toArray, List.set_cons_zero, List.set_cons_succ]))
                (refine held_take (i := 22) (oi := ?ot218) (v := ?vt218) ?at218 (by kernel_rfl) (by kernel_rfl) (by kernel_rfl) ?bt218 ?ct218 ?dt218 (by assumption) ?rt218; (case at218 => (simp only [List.getElem?_toArray, List.getElem?_cons_zero, List.getElem?_cons_succ]; rfl)); (case bt218 => exact fun _ _ _ h => h); (case ct218 => kernel_rfl); (case dt218 => (intro W hW; (try dsimp only at hW); go_split_ands; go_simp; (try with_reducible rfl))); (case' rt218 => simp only [Act.put, List.setIfInBounds_toArray, List.set_cons_zero, List.set_cons_succ]))
                (refine held_take (i := 23) (oi := ?ot219) (v := ?vt219) ?at219 (by kernel_rfl) (by kernel_rfl) (by kernel_rfl) ?bt219 ?ct219 ?dt219 (by assumption) ?rt219; (case at219 => (simp only [List.getElem?_toArray, List.getElem?_cons_zero, List.getElem?_cons_succ]; rfl)); (case bt219 => exact fun _ _ _ h => h); (case ct219 => kernel_rfl); (case dt219 => (intro W hW; (try dsimp only at hW); go_split_ands; go_simp; (try with_reducible rfl))); (case' rt219 => simp only [Act.put, List.setIfInBounds_toArray, List.set_cons_zero, List.set_cons_succ]))
                (refine held_take (i := 24) (oi := ?ot220) (v := ?vt220) ?at220 (by kernel_rfl) (by kernel_rfl) (by kernel_rfl) ?bt220 ?ct220 ?dt220 (by assumption) ?rt220; (case at220 => (simp only [List.getElem?_toArray, List.getElem?_cons_zero, List.getElem?_cons_succ]; rfl)); (case bt220 => exact fun _ _ _ h => h); (case ct220 => kernel_rfl); (case dt220 => (intro W hW; (try dsimp only at hW); go_split_ands; go_simp; (try with_reducible rfl))); (case' rt220 => simp only [Act.put, List.setIfInBounds_toArray, List.set_cons_zero, List.set_cons_succ]))
                (refine held_take (i := 25) (oi := ?ot221) (v := .int .i64 mq) ?at221 (by kernel_rfl) (by kernel_rfl) (by kernel_rfl) ?bt221 ?ct221 ?dt221 (by assumption) ?rt221; (case at221 => (simp only [List.getElem?_toArray, List.getElem?_cons_zero, List.getElem?_cons_succ]; rfl)); (case bt221 => exact fun _ _ _ h => h); (case ct221 => kernel_rfl); (case dt221 => (intro W hW; have hc := (HC.out W (show Below V.heap.size V W from hW)).1; clear hW; go_simp; (try with_reducible rfl))); (case' rt221 => simp only [Act.put, List.setIfInBounds_toArray, List.set_cons_zero, List.set_cons_succ]))
                (refine held_take (i := 26) (oi := ?ot222) (v := .bool true) ?at222 (by kernel_rfl) (by kernel_rfl) (by kernel_rfl) ?bt222 ?ct222 ?dt222 (by assumption) ?rt222; (case at222 => (simp only [List.getElem?_toArray, List.getElem?_cons_zero, List.getElem?_cons_succ]; rfl)); (case bt222 => exact fun _ _ _ h => h); (case ct222 => kernel_rfl); (case dt222 => (intro W hW; clear hW; go_simp; (first | done | rfl | (rw [z7]; rfl) | (simp only [z7]; rfl) | simp [z7]))); (case' rt222 => simp only [Act.put, List.setIfInBounds_toArray, List.set_cons_zero, List.set_cons_succ]))
                (refine held_take (i := 27) (oi := ?ot223) (v := ?vt223) ?at223 (by kernel_rfl) (by kernel_rfl) (by kernel_rfl) ?bt223 ?ct223 ?dt223 (by assumption) ?rt223; (case at223 => (simp only [List.getElem?_toArray, List.getElem?_cons_zero, List.getElem?_cons_succ]; rfl)); (case bt223 => exact fun _ _ _ h => h); (case ct223 => kernel_rfl); (case dt223 => (intro W hW; (try dsimp only at hW); go_split_ands; go_simp; (try with_reducible rfl))); (case' rt223 => simp only [Act.put, List.setIfInBounds_toArray, List.set_cons_zero, List.set_cons_succ]))
                (refine held_take (i := 28) (oi := ?ot224) (v := ?vt224) ?at224 (by kernel_rfl) (by kernel_rfl) (by kernel_rfl) ?bt224 ?ct224 ?dt224 (by assumption) ?rt224; (case at224 => (simp only [List.getElem?_toArray, List.getElem?_cons_zero, List.getElem?_cons_succ]; rfl)); (case bt224 => exact fun _ _ _ h => h); (case ct224 => kernel_rfl); (case dt224 => (intro W hW; (try dsimp only at hW); go_split_ands; go_simp; (try with_reducible rfl))); (case' rt224 => simp only [Act.put, List.setIfInBounds_toArray, List.set_cons_zero, List.set_cons_succ]))
                (refine held_take (i := 29) (oi := ?ot225) (v := ?vt225) ?at225 (by kernel_rfl) (by kernel_rfl) (by kernel_rfl) ?bt225 ?ct225 ?dt225 (by assumption) ?rt225; (case at225 => (simp only [List.getElem?_toArray, List.getElem?_cons_zero, List.getElem?_cons_succ]; rfl)); (case bt225 => exact fun _ _ _ h => h); (case ct225 => kernel_rfl); (case dt225 => (intro W hW; (try dsimp only at hW); go_split_ands; go_simp; (try with_reducible rfl))); (case' rt225 => simp only [Act.put, List.setIfInBounds_toArray, List.set_cons_zero, List.set_cons_succ]))
                (refine held_take (i := 30) (oi := ?ot226) (v := .int .i64 mk) ?at226 (by kernel_rfl) (by kernel_rfl) (by kernel_rfl) ?bt226 ?ct226 ?dt226 (by assumption) ?rt226; (case at226 => (simp only [List.getElem?_toArray, List.getElem?_cons_zero, List.getElem?_cons_succ]; rfl)); (case bt226 => exact fun _ _ _ h => h); (case ct226 => kernel_rfl); (case dt226 => (intro W hW; have hc := (HC.out W (show Below V.heap.size V W from hW)).2; clear hW; go_simp; (try with_reducible rfl))); (case' rt226 => simp only [Act.put, List.setIfInBounds_toArray, List.set_cons_zero, List.set_cons_succ]))
                (refine held_take (i := 31) (oi := ?ot227) (v := .bool false) ?at227 (by kernel_rfl) (by kernel_rfl) (by kernel_rfl) ?bt227 ?ct227 ?dt227 (by assumption) ?rt227; (case at227 => (simp only [List.getElem?_toArray, List.getElem?_cons_zero, List.getElem?_cons_succ]; rfl)); (case bt227 => exact fun _ _ _ h => h); (case ct227 => kernel_rfl); (case dt227 => (intro W hW; clear hW; go_simp; (first | done | rfl | (rw [zk]; rfl) | (simp only [zk]; rfl) | simp [zk]))); (case' rt227 => simp only [Act.put, List.setIfInBounds_toArray, List.set_cons_zero, List.set_cons_succ]))
                (refine held_take (i := 32) (oi := ?ot228) (v := ?vt228) ?at228 (by kernel_rfl) (by kernel_rfl) (by kernel_rfl) ?bt228 ?ct228 ?dt228 (by assumption) ?rt228; (case at228 => (simp only [List.getElem?_toArray, List.getElem?_cons_zero, List.getElem?_cons_succ]; rfl)); (case bt228 => exact fun _ _ _ h => h); (case ct228 => kernel_rfl); (case dt228 => (intro W hW; (try dsimp only at hW); go_split_ands; go_simp; (try with_reducible rfl))); (case' rt228 => simp only [Act.put, List.setIfInBounds_toArray, List.set_cons_zero, List.set_cons_succ]))
                (refine held_take (i := 33) (oi := ?ot229) (v := ?vt229) ?at229 (by kernel_rfl) (by kernel_rfl) (by kernel_rfl) ?bt229 ?ct229 ?dt229 (by assumption) ?rt229; (case at229 => (simp only [List.getElem?_toArray, List.getElem?_cons_zero, List.getElem?_cons_succ]; rfl)); (case bt229 => exact fun _ _ _ h => h); (case ct229 => kernel_rfl); (case dt229 => (intro W hW; (try dsimp only at hW); go_split_ands; go_simp; (try with_reducible rfl))); (case' rt229 => simp only [Act.put, List.setIfInBounds_toArray, List.set_cons_zero, List.set_cons_succ]))
                (refine held_take (i := 34) (oi := ?ot230) (v := .int .i64 mk) ?at230 (by kernel_rfl) (by kernel_rfl) (by kernel_rfl) ?bt230 ?ct230 ?dt230 (by assumption) ?rt230; (case at230 => (simp only [List.getElem?_toArray, List.getElem?_cons_zero, List.getElem?_cons_succ]; rfl)); (case bt230 => exact fun _ _ _ h => h); (case ct230 => kernel_rfl); (case dt230 => (intro W hW; have hc := (HC.out W (show Below V.heap.size V W from hW)).2; clear hW; go_simp; (try with_reducible rfl))); (case' rt230 => simp only [Act.put, List.setIfInBounds_toArray, List.set_cons_zero, List.set_cons_succ]))
                (refine held_take (i := 35) (oi := ?ot231) (v := .bool false) ?at231 (by kernel_rfl) (by kernel_rfl) (by kernel_rfl) ?bt231 ?ct231 ?dt231 (by assumption) ?rt231; (case at231 => (simp only [List.getElem?_toArray, List.getElem?_cons_zero, List.getElem?_cons_succ]; rfl)); (case bt231 => exact fun _ _ _ h => h); (case ct231 => kernel_rfl); (case dt231 => (intro W hW; clear hW; go_simp; (first | done | rfl | (rw [zl]; rfl) | (simp only [zl]; rfl) | simp [zl]))); (case' rt231 => simp only [Act.put, List.setIfInBounds_toArray, List.set_cons_zero, List.set_cons_succ]))
                (refine held_take (i := 36) (oi := ?ot232) (v := ?vt232) ?at232 (by kernel_rfl) (by kernel_rfl) (by kernel_rfl) ?bt232 ?ct232 ?dt232 (by assumption) ?rt232; (case at232 => (simp only [List.getElem?_toArray, List.getElem?_cons_zero, List.getElem?_cons_succ]; rfl)); (case bt232 => exact fun _ _ _ h => h); (case ct232 => kernel_rfl); (case dt232 => (intro W hW; (try dsimp only at hW); go_split_ands; go_simp; (try with_reducible rfl))); (case' rt232 => simp only [Act.put, List.setIfInBounds_toArray, List.set_cons_zero, List.set_cons_succ]))
                (refine held_take (i := 37) (oi := ?ot233) (v := ?vt233) ?at233 (by kernel_rfl) (by kernel_rfl) (by kernel_rfl) ?bt233 ?ct233 ?dt233 (by assumption) ?rt233; (case at233 => (simp only [List.getElem?_toArray, List.getElem?_cons_zero, List.getElem?_cons_succ]; rfl)); (case bt233 => exact fun _ _ _ h => h); (case ct233 => kernel_rfl); (case dt233 => (intro W hW; (try dsimp only at hW); go_split_ands; go_simp; (try with_reducible rfl))); (case' rt233 => simp only [Act.put, List.setIfInBounds_toArray, List.set_cons_zero, List.set_cons_succ]))
                (refine held_take (i := 38) (oi := ?ot234) (v := ?vt234) ?at234 (by kernel_rfl) (by kernel_rfl) (by kernel_rfl) ?bt234 ?ct234 ?dt234 (by assumption) ?rt234; (case at234 => (simp only [List.getElem?_toArray, List.getElem?_cons_zero, List.getElem?_cons_succ]; rfl)); (case bt234 => exact fun _ _ _ h => h); (case ct234 => kernel_rfl); (case dt234 => (intro W hW; (try dsimp only at hW); go_split_ands; go_simp; (try with_reducible rfl))); (case' rt234 => simp only [Act.put, List.setIfInBounds_toArray, List.set_cons_zero, List.set_cons_succ]))
                refine wpAnyH_done (by kernel_rfl) ?_ _
                go_wp2
                go_ret
                exact ⟨by rw [HR.out]; rfl, HB.out.trans ((show Below V.heap.size V _ from hS16).mono HB.out.size)⟩
          · have z7 : decide (mq ≤ 7) = false := decide_eq_false h7
            have HR : Hid (r = false) := Lib.hid (by rw [HRR.out]; simp [h7])
            refine wp_region_held_drew (S := fun Y => VS V Y) (by kernel_rfl) (VS.begin V) (fun hS => ?_)
            (refine held_take (i := 0) (oi := ?ot235) (v := .agg (vec 5 (mpE m))) ?at235 (by kernel_rfl) (by kernel_rfl) (by kernel_rfl) ?bt235 ?ct235 ?dt235 (by assumption) ?rt235; (case at235 => (simp only [List.getElem?_toArray, List.getElem?_cons_zero]; rfl)); (case bt235 => exact fun _ _ _ h => h); (case ct235 => kernel_rfl); (case dt235 => (intro W hW; exact exec_load_at 39 _ rfl g 0 rfl _ (run_load_arr (HA.out.under (show Below V.heap.size V W from hW)) Try.underlying39 rfl infoMp))); (case' rt235 => simp only [Act.put, List.setIfInBounds_toArray, List.set_cons_zero, List.set_cons_succ]))
            (refine held_take (i := 2) (oi := ?ot236) (v := .agg (vec 5 (mpE m))) ?at236 (by kernel_rfl) (by kernel_rfl) (by kernel_rfl) ?bt236 ?ct236 ?dt236 (by assumption) ?rt236; (case at236 => (simp only [List.getElem?_toArray, List.getElem?_cons_zero, List.getElem?_cons_succ]; rfl)); (case bt236 => exact fun _ _ _ h => h); (case ct236 => kernel_rfl); (case dt236 => (intro W hW; exact exec_load_at 39 _ rfl g 0 rfl _ (run_load_arr (HA.out.under (show Below V.heap.size V W from hW)) Try.underlying39 rfl infoMp))); (case' rt236 => simp only [Act.put, List.setIfInBounds_toArray, List.set_cons_zero, List.set_cons_succ]))
            refine held_one (i := 1) (oi := ?ot237) (by kernel_rfl) ?at237 ?ct237 (fun K1 hK1 => ?_)
            (case at237 => (simp only [List.getElem?_toArray, List.getElem?_cons_zero, List.getElem?_cons_succ]; rfl))
            (case ct237 => kernel_rfl)
            go_simp
            refine (HSE.out _).mono ?_
            rintro e y1 ⟨rfl, hd⟩
            refine hK1 _ _ ((show VS V _ from hS).keep hd) (fun hS1 => ?_)
            clear hd hS hK1 K1
            refine held_one (i := 3) (oi := ?ot238) (by kernel_rfl) ?at238 ?ct238 (fun K3 hK3 => ?_)
            (case at238 => (simp only [List.getElem?_toArray, List.getElem?_cons_zero, List.getElem?_cons_succ]; rfl))
            (case ct238 => kernel_rfl)
            go_simp
            refine (HPH.out _).mono ?_
            rintro e y3 ⟨rfl, hd⟩
            refine hK3 _ _ ((show VS V _ from hS1).keep hd) (fun hS3 => ?_)
            clear hd hS1 hK3 K3
            refine held_one (i := 4) (oi := ?ot239) (by kernel_rfl) ?at239 ?ct239 (fun K4 hK4 => ?_)
            (case at239 => (simp only [List.getElem?_toArray, List.getElem?_cons_zero, List.getElem?_cons_succ]; rfl))
            (case ct239 => kernel_rfl)
            refine ow_bs2 45 _ _ rfl (.agg (vec 2 (spE si))) (.agg (vec 2 (spE sp))) rfl rfl (HBT.out _) ?_
            obtain ⟨Y4, hY4⟩ : ∃ Y : World, Y = y3 := ⟨_, rfl⟩
            refine hK4 _ _ ((show VS V _ from hS3).keep ((Below.refl _ _).alloc (Nat.le_refl _) _)) (fun hS4 => ?_)
            clear hS3 hK4 K4 hY4
            refine held_one (i := 5) (oi := ?ot240) (by kernel_rfl) ?at240 ?ct240 (fun K5 hK5 => ?_)
            (case at240 => (simp only [List.getElem?_toArray, List.getElem?_cons_zero, List.getElem?_cons_succ]; rfl))
            (case ct240 => kernel_rfl)
            go_simp
            refine (HPA.out _).mono ?_
            rintro e y5 ⟨rfl, hd⟩
            refine hK5 _ _ ((show VS V _ from hS4).keep hd) (fun hS5 => ?_)
            clear hd hS4 hK5 K5
            (refine held_take (i := 6) (oi := ?ot241) (v := ?vt241) ?at241 (by kernel_rfl) (by kernel_rfl) (by kernel_rfl) ?bt241 ?ct241 ?dt241 (by assumption) ?rt241; (case at241 => (simp only [List.getElem?_toArray, List.getElem?_cons_zero, List.getElem?_cons_succ]; rfl)); (case bt241 => exact fun _ _ _ h => h); (case ct241 => kernel_rfl); (case dt241 => (intro W hW; (try dsimp only at hW); go_split_ands; go_simp; (try with_reducible rfl))); (case' rt241 => simp only [Act.put, List.setIfInBounds_toArray, List.set_cons_zero, List.set_cons_succ]))
            (refine held_take (i := 7) (oi := ?ot242) (v := .agg (vec 5 (mpE m))) ?at242 (by kernel_rfl) (by kernel_rfl) (by kernel_rfl) ?bt242 ?ct242 ?dt242 (by assumption) ?rt242; (case at242 => (simp only [List.getElem?_toArray, List.getElem?_cons_zero, List.getElem?_cons_succ]; rfl)); (case bt242 => exact fun _ _ _ h => h); (case ct242 => kernel_rfl); (case dt242 => (intro W hW; exact exec_load_at 39 _ rfl g 0 rfl _ (run_load_arr (HA.out.under (show Below V.heap.size V W from hW)) Try.underlying39 rfl infoMp))); (case' rt242 => simp only [Act.put, List.setIfInBounds_toArray, List.set_cons_zero, List.set_cons_succ]))
            (refine held_take (i := 9) (oi := ?ot243) (v := .agg (vec 2 (spE allS))) ?at243 (by kernel_rfl) (by kernel_rfl) (by kernel_rfl) ?bt243 ?ct243 ?dt243 (by assumption) ?rt243; (case at243 => (simp only [List.getElem?_toArray, List.getElem?_cons_zero, List.getElem?_cons_succ]; rfl)); (case bt243 => exact fun _ _ _ h => h); (case ct243 => kernel_rfl); (case dt243 => (intro W hW; exact exec_load_at 49 _ rfl h 0 rfl _ (run_load_arr (HS.out.under (show Below V.heap.size V W from hW)) Try.underlying49 rfl infoSp))); (case' rt243 => simp only [Act.put, List.setIfInBounds_toArray, List.set_cons_zero, List.set_cons_succ]))
            refine held_one (i := 8) (oi := ?ot244) (by kernel_rfl) ?at244 ?ct244 (fun K8 hK8 => ?_)
            (case at244 => (simp only [List.getElem?_toArray, List.getElem?_cons_zero, List.getElem?_cons_succ]; rfl))
            (case ct244 => kernel_rfl)
            go_simp
            refine (HSE.out _).mono ?_
            rintro e y8 ⟨rfl, hd⟩
            refine hK8 _ _ ((show VS V _ from hS5).keep hd) (fun hS8 => ?_)
            clear hd hS5 hK8 K8
            refine held_one (i := 10) (oi := ?ot245) (by kernel_rfl) ?at245 ?ct245 (fun K10 hK10 => ?_)
            (case at245 => (simp only [List.getElem?_toArray, List.getElem?_cons_zero, List.getElem?_cons_succ]; rfl))
            (case ct245 => kernel_rfl)
            go_simp
            refine (HWI.out _).mono ?_
            rintro e y10 ⟨rfl, hd⟩
            refine hK10 _ _ ((show VS V _ from hS8).keep hd) (fun hS10 => ?_)
            clear hd hS8 hK10 K10
            (refine held_take (i := 11) (oi := ?ot246) (v := ?vt246) ?at246 (by kernel_rfl) (by kernel_rfl) (by kernel_rfl) ?bt246 ?ct246 ?dt246 (by assumption) ?rt246; (case at246 => (simp only [List.getElem?_toArray, List.getElem?_cons_zero, List.getElem?_cons_succ]; rfl)); (case bt246 => exact fun _ _ _ h => h); (case ct246 => kernel_rfl); (case dt246 => (intro W hW; (try dsimp only at hW); go_split_ands; go_simp; (try with_reducible rfl))); (case' rt246 => simp only [Act.put, List.setIfInBounds_toArray, List.set_cons_zero, List.set_cons_succ]))
            (refine held_take (i := 12) (oi := ?ot247) (v := ?vt247) ?at247 (by kernel_rfl) (by kernel_rfl) (by kernel_rfl) ?bt247 ?ct247 ?dt247 (by assumption) ?rt247; (case at247 => (simp only [List.getElem?_toArray, List.getElem?_cons_zero, List.getElem?_cons_succ]; rfl)); (case bt247 => exact fun _ _ _ h => h); (case ct247 => kernel_rfl); (case dt247 => (intro W hW; (try dsimp only at hW); go_split_ands; go_simp; (try with_reducible rfl))); (case' rt247 => simp only [Act.put, List.setIfInBounds_toArray, List.set_cons_zero, List.set_cons_succ]))
            (refine held_take (i := 13) (oi := ?ot248) (v := .agg (vec 5 (mpE m))) ?at248 (by kernel_rfl) (by kernel_rfl) (by kernel_rfl) ?bt248 ?ct248 ?dt248 (by assumption) ?rt248; (case at248 => (simp only [List.getElem?_toArray, List.getElem?_cons_zero, List.getElem?_cons_succ]; rfl)); (case bt248 => exact fun _ _ _ h => h); (case ct248 => kernel_rfl); (case dt248 => (intro W hW; exact exec_load_at 39 _ rfl g 0 rfl _ (run_load_arr (HA.out.under (show Below V.heap.size V W from hW)) Try.underlying39 rfl infoMp))); (case' rt248 => simp only [Act.put, List.setIfInBounds_toArray, List.set_cons_zero, List.set_cons_succ]))
            (refine held_take (i := 15) (oi := ?ot249) (v := .agg (vec 2 (spE allS))) ?at249 (by kernel_rfl) (by kernel_rfl) (by kernel_rfl) ?bt249 ?ct249 ?dt249 (by assumption) ?rt249; (case at249 => (simp only [List.getElem?_toArray, List.getElem?_cons_zero, List.getElem?_cons_succ]; rfl)); (case bt249 => exact fun _ _ _ h => h); (case ct249 => kernel_rfl); (case dt249 => (intro W hW; exact exec_load_at 49 _ rfl h 0 rfl _ (run_load_arr (HS.out.under (show Below V.heap.size V W from hW)) Try.underlying49 rfl infoSp))); (case' rt249 => simp only [Act.put, List.setIfInBounds_toArray, List.set_cons_zero, List.set_cons_succ]))
            refine held_one (i := 14) (oi := ?ot250) (by kernel_rfl) ?at250 ?ct250 (fun K14 hK14 => ?_)
            (case at250 => (simp only [List.getElem?_toArray, List.getElem?_cons_zero, List.getElem?_cons_succ]; rfl))
            (case ct250 => kernel_rfl)
            go_simp
            refine (HPH.out _).mono ?_
            rintro e y14 ⟨rfl, hd⟩
            refine hK14 _ _ ((show VS V _ from hS10).keep hd) (fun hS14 => ?_)
            clear hd hS10 hK14 K14
            refine held_one (i := 16) (oi := ?ot251) (by kernel_rfl) ?at251 ?ct251 (fun K16 hK16 => ?_)
            (case at251 => (simp only [List.getElem?_toArray, List.getElem?_cons_zero, List.getElem?_cons_succ]; rfl))
            (case ct251 => kernel_rfl)
            go_simp
            refine (HWP.out _).mono ?_
            rintro e y16 ⟨rfl, hd⟩
            refine hK16 _ _ ((show VS V _ from hS14).keep hd) (fun hS16 => ?_)
            clear hd hS14 hK16 K16
            (refine held_take (i := 17) (oi := ?ot252) (v := ?vt252) ?at252 (by kernel_rfl) (by kernel_rfl) (by kernel_rfl) ?bt252 ?ct252 ?dt252 (by assumption) ?rt252; (case at252 => (simp only [List.getElem?_toArray, List.getElem?_cons_zero, List.getElem?_cons_succ]; rfl)); (case bt252 => exact fun _ _ _ h => h); (case ct252 => kernel_rfl); (case dt252 => (intro W hW; (try dsimp only at hW); go_split_ands; go_simp; (try with_reducible rfl))); (case' rt252 => simp only [Act.put, List.setIfInBounds_toArray, List.set_cons_zero, List.set_cons_succ]))
            (refine held_take (i := 18) (oi := ?ot253) (v := ?vt253) ?at253 (by kernel_rfl) (by kernel_rfl) (by kernel_rfl) ?bt253 ?ct253 ?dt253 (by assumption) ?rt253; (case at253 => (simp only [List.getElem?_toArray, List.getElem?_cons_zero, List.getElem?_cons_succ]; rfl)); (case bt253 => exact fun _ _ _ h => h); (case ct253 => kernel_rfl); (case dt253 => (intro W hW; (try dsimp only at hW); go_split_ands; go_simp; (try with_reducible rfl))); (case' rt253 => simp only [Act.put, List.setIfInBounds_toArray, List.set_cons_zero, List.set_cons_succ]))
            (refine held_take (i := 19) (oi := ?ot254) (v := ?vt254) ?at254 (by kernel_rfl) (by kernel_rfl) (by kernel_rfl) ?bt254 ?ct254 ?dt254 (by assumption) ?rt254; (case at254 => (simp only [List.getElem?_toArray, List.getElem?_cons_zero, List.getElem?_cons_succ]; rfl)); (case bt254 => exact fun _ _ _ h => h); (case ct254 => kernel_rfl); (case dt254 => (intro W hW; (try dsimp only at hW); go_split_ands; go_simp; (try with_reducible rfl))); (case' rt254 => simp only [Act.put, List.setIfInBounds_toArray, List.set_cons_zero, List.set_cons_succ]))
            (refine held_take (i := 20) (oi := ?ot255) (v := .int .i64 mq) ?at255 (by kernel_rfl) (by kernel_rfl) (by kernel_rfl) ?bt255 ?ct255 ?dt255 (by assumption) ?rt255; (case at255 => (simp only [List.getElem?_toArray, List.getElem?_cons_zero, List.getElem?_cons_succ]; rfl)); (case bt255 => exact fun _ _ _ h => h); (case ct255 => kernel_rfl); (case dt255 => (intro W hW; have hc := (HC.out W (show Below V.heap.size V W from hW)).1; clear hW; go_simp; (try with_reducible rfl))); (case' rt255 => simp only [Act.put, List.setIfInBounds_toArray, List.set_cons_zero, List.set_cons_succ]))
            (refine held_take (i := 21) (oi := ?ot256) (v := .bool true) ?at256 (by kernel_rfl) (by kernel_rfl) (by kernel_rfl) ?bt256 ?ct256 ?dt256 (by assumption) ?rt256; (case at256 => (simp only [List.getElem?_toArray, List.getElem?_cons_zero, List.getElem?_cons_succ]; rfl)); (case bt256 => exact fun _ _ _ h => h); (case ct256 => kernel_rfl); (case dt256 => (intro W hW; clear hW; go_simp; (first | done | rfl | (rw [z1]; rfl) | (simp only [z1]; rfl) | simp [z1]))); (case' rt256 => simp only [Act.put, List.setIfInBounds_toArray, List.set_cons_zero, List.set_cons_succ]))
            (refine held_take (i := 22) (oi := ?ot257) (v := ?vt257) ?at257 (by kernel_rfl) (by kernel_rfl) (by kernel_rfl) ?bt257 ?ct257 ?dt257 (by assumption) ?rt257; (case at257 => (simp only [List.getElem?_toArray, List.getElem?_cons_zero, List.getElem?_cons_succ]; rfl)); (case bt257 => exact fun _ _ _ h => h); (case ct257 => kernel_rfl); (case dt257 => (intro W hW; (try dsimp only at hW); go_split_ands; go_simp; (try with_reducible rfl))); (case' rt257 => simp only [Act.put, List.setIfInBounds_toArray, List.set_cons_zero, List.set_cons_succ]))
            (refine held_take (i := 23) (oi := ?ot258) (v := ?vt258) ?at258 (by kernel_rfl) (by kernel_rfl) (by kernel_rfl) ?bt258 ?ct258 ?dt258 (by assumption) ?rt258; (case at258 => (simp only [List.getElem?_toArray, List.getElem?_cons_zero, List.getElem?_cons_succ]; rfl)); (case bt258 => exact fun _ _ _ h => h); (case ct258 => kernel_rfl); (case dt258 => (intro W hW; (try dsimp only at hW); go_split_ands; go_simp; (try with_reducible rfl))); (case' rt258 => simp only [Act.put, List.setIfInBounds_toArray, List.set_cons_zero, List.set_cons_succ]))
            (refine held_take (i := 24) (oi := ?ot259) (v := ?vt259) ?at259 (by kernel_rfl) (by kernel_rfl) (by kernel_rfl) ?bt259 ?ct259 ?dt259 (by assumption) ?rt259; (case at259 => (simp only [List.getElem?_toArray, List.getElem?_cons_zero, List.getElem?_cons_succ]; rfl)); (case bt259 => exact fun _ _ _ h => h); (case ct259 => kernel_rfl); (case dt259 => (intro W hW; (try dsimp only at hW); go_split_ands; go_simp; (try with_reducible rfl))); (case' rt259 => simp only [Act.put, List.setIfInBounds_toArray, List.set_cons_zero, List.set_cons_succ]))
            (refine held_take (i := 25) (oi := ?ot260) (v := .int .i64 mq) ?at260 (by kernel_rfl) (by kernel_rfl) (by kernel_rfl) ?bt260 ?ct260 ?dt260 (by assumption) ?rt260; (case at260 => (simp only [List.getElem?_toArray, List.getElem?_cons_zero, List.getElem?_cons_succ]; rfl)); (case bt260 => exact fun _ _ _ h => h); (case ct260 => kernel_rfl); (case dt260 => (intro W hW; have hc := (HC.out W (show Below V.heap.size V W from hW)).1; clear hW; go_simp; (try with_reducible rfl))); (case' rt260 => simp only [Act.put, List.setIfInBounds_toArray, List.set_cons_zero, List.set_cons_succ]))
            (refine held_take (i := 26) (oi := ?ot261) (v := .bool false) ?at261 (by kernel_rfl) (by kernel_rfl) (by kernel_rfl) ?bt261 ?ct261 ?dt261 (by assumption) ?rt261; (case at261 => (simp only [List.getElem?_toArray, List.getElem?_cons_zero, List.getElem?_cons_succ]; rfl)); (case bt261 => exact fun _ _ _ h => h); (case ct261 => kernel_rfl); (case dt261 => (intro W hW; clear hW; go_simp; (first | done | rfl | (rw [z7]; rfl) | (simp only [z7]; rfl) | simp [z7]))); (case' rt261 => simp only [Act.put, List.setIfInBounds_toArray, List.set_cons_zero, List.set_cons_succ]))
            (refine held_take (i := 27) (oi := ?ot262) (v := ?vt262) ?at262 (by kernel_rfl) (by kernel_rfl) (by kernel_rfl) ?bt262 ?ct262 ?dt262 (by assumption) ?rt262; (case at262 => (simp only [List.getElem?_toArray, List.getElem?_cons_zero, List.getElem?_cons_succ]; rfl)); (case bt262 => exact fun _ _ _ h => h); (case ct262 => kernel_rfl); (case dt262 => (intro W hW; (try dsimp only at hW); go_split_ands; go_simp; (try with_reducible rfl))); (case' rt262 => simp only [Act.put, List.setIfInBounds_toArray, List.set_cons_zero, List.set_cons_succ]))
            (refine held_take (i := 28) (oi := ?ot263) (v := ?vt263) ?at263 (by kernel_rfl) (by kernel_rfl) (by kernel_rfl) ?bt263 ?ct263 ?dt263 (by assumption) ?rt263; (case at263 => (simp only [List.getElem?_toArray, List.getElem?_cons_zero, List.getElem?_cons_succ]; rfl)); (case bt263 => exact fun _ _ _ h => h); (case ct263 => kernel_rfl); (case dt263 => (intro W hW; (try dsimp only at hW); go_split_ands; go_simp; (try with_reducible rfl))); (case' rt263 => simp only [Act.put, List.setIfInBounds_toArray, List.set_cons_zero, List.set_cons_succ]))
            (refine held_skip (i := 29) (oi := ?ot264) ?at264 (by kernel_rfl) (by kernel_rfl) (by kernel_rfl) ?bt264 ?ct264 (by assumption) ?rt264; (case at264 => (simp only [List.getElem?_toArray, List.getElem?_cons_zero, List.getElem?_cons_succ]; rfl)); (case bt264 => exact fun _ _ _ h => h); (case ct264 => kernel_rfl); (case' rt264 => simp only [Act.put, List.setIfInBounds_toArray, List.set_cons_zero, List.set_cons_succ]))
            (refine held_skip (i := 30) (oi := ?ot265) ?at265 (by kernel_rfl) (by kernel_rfl) (by kernel_rfl) ?bt265 ?ct265 (by assumption) ?rt265; (case at265 => (simp only [List.getElem?_toArray, List.getElem?_cons_zero, List.getElem?_cons_succ]; rfl)); (case bt265 => exact fun _ _ _ h => h); (case ct265 => kernel_rfl); (case' rt265 => simp only [Act.put, List.setIfInBounds_toArray, List.set_cons_zero, List.set_cons_succ]))
            (refine held_skip (i := 31) (oi := ?ot266) ?at266 (by kernel_rfl) (by kernel_rfl) (by kernel_rfl) ?bt266 ?ct266 (by assumption) ?rt266; (case at266 => (simp only [List.getElem?_toArray, List.getElem?_cons_zero, List.getElem?_cons_succ]; rfl)); (case bt266 => exact fun _ _ _ h => h); (case ct266 => kernel_rfl); (case' rt266 => simp only [Act.put, List.setIfInBounds_toArray, List.set_cons_zero, List.set_cons_succ]))
            (refine held_skip (i := 32) (oi := ?ot267) ?at267 (by kernel_rfl) (by kernel_rfl) (by kernel_rfl) ?bt267 ?ct267 (by assumption) ?rt267; (case at267 => (simp only [List.getElem?_toArray, List.getElem?_cons_zero, List.getElem?_cons_succ]; rfl)); (case bt267 => exact fun _ _ _ h => h); (case ct267 => kernel_rfl); (case' rt267 => simp only [Act.put, List.setIfInBounds_toArray, List.set_cons_zero, List.set_cons_succ]))
            (refine held_skip (i := 33) (oi := ?ot268) ?at268 (by kernel_rfl) (by kernel_rfl) (by kernel_rfl) ?bt268 ?ct268 (by assumption) ?rt268; (case at268 => (simp only [List.getElem?_toArray, List.getElem?_cons_zero, List.getElem?_cons_succ]; rfl)); (case bt268 => exact fun _ _ _ h => h); (case ct268 => kernel_rfl); (case' rt268 => simp only [Act.put, List.setIfInBounds_toArray, List.set_cons_zero, List.set_cons_succ]))
            (refine held_skip (i := 34) (oi := ?ot269) ?at269 (by kernel_rfl) (by kernel_rfl) (by kernel_rfl) ?bt269 ?ct269 (by assumption) ?rt269; (case at269 => (simp only [List.getElem?_toArray, List.getElem?_cons_zero, List.getElem?_cons_succ]; rfl)); (case bt269 => exact fun _ _ _ h => h); (case ct269 => kernel_rfl); (case' rt269 => simp only [Act.put, List.setIfInBounds_toArray, List.set_cons_zero, List.set_cons_succ]))
            (refine held_skip (i := 35) (oi := ?ot270) ?at270 (by kernel_rfl) (by kernel_rfl) (by kernel_rfl) ?bt270 ?ct270 (by assumption) ?rt270; (case at270 => (simp only [List.getElem?_toArray, List.getElem?_cons_zero, List.getElem?_cons_succ]; rfl)); (case bt270 => exact fun _ _ _ h => h); (case ct270 => kernel_rfl); (case' rt270 => simp only [Act.put, List.setIfInBounds_toArray, List.set_cons_zero, List.set_cons_succ]))
            (refine held_skip (i := 36) (oi := ?ot271) ?at271 (by kernel_rfl) (by kernel_rfl) (by kernel_rfl) ?bt271 ?ct271 (by assumption) ?rt271; (case at271 => (simp only [List.getElem?_toArray, List.getElem?_cons_zero, List.getElem?_cons_succ]; rfl)); (case bt271 => exact fun _ _ _ h => h); (case ct271 => kernel_rfl); (case' rt271 => simp only [Act.put, List.setIfInBounds_toArray, List.set_cons_zero, List.set_cons_succ]))
            (refine held_take (i := 37) (oi := ?ot272) (v := ?vt272) ?at272 (by kernel_rfl) (by kernel_rfl) (by kernel_rfl) ?bt272 ?ct272 ?dt272 (by assumption) ?rt272; (case at272 => (simp only [List.getElem?_toArray, List.getElem?_cons_zero, List.getElem?_cons_succ]; rfl)); (case bt272 => exact fun _ _ _ h => h); (case ct272 => kernel_rfl); (case dt272 => (intro W hW; (try dsimp only at hW); go_split_ands; go_simp; (try with_reducible rfl))); (case' rt272 => simp only [Act.put, List.setIfInBounds_toArray, List.set_cons_zero, List.set_cons_succ]))
            (refine held_take (i := 38) (oi := ?ot273) (v := ?vt273) ?at273 (by kernel_rfl) (by kernel_rfl) (by kernel_rfl) ?bt273 ?ct273 ?dt273 (by assumption) ?rt273; (case at273 => (simp only [List.getElem?_toArray, List.getElem?_cons_zero, List.getElem?_cons_succ]; rfl)); (case bt273 => exact fun _ _ _ h => h); (case ct273 => kernel_rfl); (case dt273 => (intro W hW; (try dsimp only at hW); go_split_ands; go_simp; (try with_reducible rfl))); (case' rt273 => simp only [Act.put, List.setIfInBounds_toArray, List.set_cons_zero, List.set_cons_succ]))
            refine wpAnyH_done (by kernel_rfl) ?_ _
            go_wp2
            go_ret
            exact ⟨by rw [HR.out]; rfl, HB.out.trans ((show Below V.heap.size V _ from hS16).mono HB.out.size)⟩
        · have z1 : decide ((1 : Int) ≤ mq) = false := decide_eq_false h1
          have HR : Hid (r = false) := Lib.hid (by rw [HRR.out]; simp [h1])
          refine wp_region_held_drew (S := fun Y => VS V Y) (by kernel_rfl) (VS.begin V) (fun hS => ?_)
          (refine held_take (i := 0) (oi := ?ot274) (v := .agg (vec 5 (mpE m))) ?at274 (by kernel_rfl) (by kernel_rfl) (by kernel_rfl) ?bt274 ?ct274 ?dt274 (by assumption) ?rt274; (case at274 => (simp only [List.getElem?_toArray, List.getElem?_cons_zero]; rfl)); (case bt274 => exact fun _ _ _ h => h); (case ct274 => kernel_rfl); (case dt274 => (intro W hW; exact exec_load_at 39 _ rfl g 0 rfl _ (run_load_arr (HA.out.under (show Below V.heap.size V W from hW)) Try.underlying39 rfl infoMp))); (case' rt274 => simp only [Act.put, List.setIfInBounds_toArray, List.set_cons_zero, List.set_cons_succ]))
          (refine held_take (i := 2) (oi := ?ot275) (v := .agg (vec 5 (mpE m))) ?at275 (by kernel_rfl) (by kernel_rfl) (by kernel_rfl) ?bt275 ?ct275 ?dt275 (by assumption) ?rt275; (case at275 => (simp only [List.getElem?_toArray, List.getElem?_cons_zero, List.getElem?_cons_succ]; rfl)); (case bt275 => exact fun _ _ _ h => h); (case ct275 => kernel_rfl); (case dt275 => (intro W hW; exact exec_load_at 39 _ rfl g 0 rfl _ (run_load_arr (HA.out.under (show Below V.heap.size V W from hW)) Try.underlying39 rfl infoMp))); (case' rt275 => simp only [Act.put, List.setIfInBounds_toArray, List.set_cons_zero, List.set_cons_succ]))
          refine held_one (i := 1) (oi := ?ot276) (by kernel_rfl) ?at276 ?ct276 (fun K1 hK1 => ?_)
          (case at276 => (simp only [List.getElem?_toArray, List.getElem?_cons_zero, List.getElem?_cons_succ]; rfl))
          (case ct276 => kernel_rfl)
          go_simp
          refine (HSE.out _).mono ?_
          rintro e y1 ⟨rfl, hd⟩
          refine hK1 _ _ ((show VS V _ from hS).keep hd) (fun hS1 => ?_)
          clear hd hS hK1 K1
          refine held_one (i := 3) (oi := ?ot277) (by kernel_rfl) ?at277 ?ct277 (fun K3 hK3 => ?_)
          (case at277 => (simp only [List.getElem?_toArray, List.getElem?_cons_zero, List.getElem?_cons_succ]; rfl))
          (case ct277 => kernel_rfl)
          go_simp
          refine (HPH.out _).mono ?_
          rintro e y3 ⟨rfl, hd⟩
          refine hK3 _ _ ((show VS V _ from hS1).keep hd) (fun hS3 => ?_)
          clear hd hS1 hK3 K3
          refine held_one (i := 4) (oi := ?ot278) (by kernel_rfl) ?at278 ?ct278 (fun K4 hK4 => ?_)
          (case at278 => (simp only [List.getElem?_toArray, List.getElem?_cons_zero, List.getElem?_cons_succ]; rfl))
          (case ct278 => kernel_rfl)
          refine ow_bs2 45 _ _ rfl (.agg (vec 2 (spE si))) (.agg (vec 2 (spE sp))) rfl rfl (HBT.out _) ?_
          obtain ⟨Y4, hY4⟩ : ∃ Y : World, Y = y3 := ⟨_, rfl⟩
          refine hK4 _ _ ((show VS V _ from hS3).keep ((Below.refl _ _).alloc (Nat.le_refl _) _)) (fun hS4 => ?_)
          clear hS3 hK4 K4 hY4
          refine held_one (i := 5) (oi := ?ot279) (by kernel_rfl) ?at279 ?ct279 (fun K5 hK5 => ?_)
          (case at279 => (simp only [List.getElem?_toArray, List.getElem?_cons_zero, List.getElem?_cons_succ]; rfl))
          (case ct279 => kernel_rfl)
          go_simp
          refine (HPA.out _).mono ?_
          rintro e y5 ⟨rfl, hd⟩
          refine hK5 _ _ ((show VS V _ from hS4).keep hd) (fun hS5 => ?_)
          clear hd hS4 hK5 K5
          (refine held_take (i := 6) (oi := ?ot280) (v := ?vt280) ?at280 (by kernel_rfl) (by kernel_rfl) (by kernel_rfl) ?bt280 ?ct280 ?dt280 (by assumption) ?rt280; (case at280 => (simp only [List.getElem?_toArray, List.getElem?_cons_zero, List.getElem?_cons_succ]; rfl)); (case bt280 => exact fun _ _ _ h => h); (case ct280 => kernel_rfl); (case dt280 => (intro W hW; (try dsimp only at hW); go_split_ands; go_simp; (try with_reducible rfl))); (case' rt280 => simp only [Act.put, List.setIfInBounds_toArray, List.set_cons_zero, List.set_cons_succ]))
          (refine held_take (i := 7) (oi := ?ot281) (v := .agg (vec 5 (mpE m))) ?at281 (by kernel_rfl) (by kernel_rfl) (by kernel_rfl) ?bt281 ?ct281 ?dt281 (by assumption) ?rt281; (case at281 => (simp only [List.getElem?_toArray, List.getElem?_cons_zero, List.getElem?_cons_succ]; rfl)); (case bt281 => exact fun _ _ _ h => h); (case ct281 => kernel_rfl); (case dt281 => (intro W hW; exact exec_load_at 39 _ rfl g 0 rfl _ (run_load_arr (HA.out.under (show Below V.heap.size V W from hW)) Try.underlying39 rfl infoMp))); (case' rt281 => simp only [Act.put, List.setIfInBounds_toArray, List.set_cons_zero, List.set_cons_succ]))
          (refine held_take (i := 9) (oi := ?ot282) (v := .agg (vec 2 (spE allS))) ?at282 (by kernel_rfl) (by kernel_rfl) (by kernel_rfl) ?bt282 ?ct282 ?dt282 (by assumption) ?rt282; (case at282 => (simp only [List.getElem?_toArray, List.getElem?_cons_zero, List.getElem?_cons_succ]; rfl)); (case bt282 => exact fun _ _ _ h => h); (case ct282 => kernel_rfl); (case dt282 => (intro W hW; exact exec_load_at 49 _ rfl h 0 rfl _ (run_load_arr (HS.out.under (show Below V.heap.size V W from hW)) Try.underlying49 rfl infoSp))); (case' rt282 => simp only [Act.put, List.setIfInBounds_toArray, List.set_cons_zero, List.set_cons_succ]))
          refine held_one (i := 8) (oi := ?ot283) (by kernel_rfl) ?at283 ?ct283 (fun K8 hK8 => ?_)
          (case at283 => (simp only [List.getElem?_toArray, List.getElem?_cons_zero, List.getElem?_cons_succ]; rfl))
          (case ct283 => kernel_rfl)
          go_simp
          refine (HSE.out _).mono ?_
          rintro e y8 ⟨rfl, hd⟩
          refine hK8 _ _ ((show VS V _ from hS5).keep hd) (fun hS8 => ?_)
          clear hd hS5 hK8 K8
          refine held_one (i := 10) (oi := ?ot284) (by kernel_rfl) ?at284 ?ct284 (fun K10 hK10 => ?_)
          (case at284 => (simp only [List.getElem?_toArray, List.getElem?_cons_zero, List.getElem?_cons_succ]; rfl))
          (case ct284 => kernel_rfl)
          go_simp
          refine (HWI.out _).mono ?_
          rintro e y10 ⟨rfl, hd⟩
          refine hK10 _ _ ((show VS V _ from hS8).keep hd) (fun hS10 => ?_)
          clear hd hS8 hK10 K10
          (refine held_take (i := 11) (oi := ?ot285) (v := ?vt285) ?at285 (by kernel_rfl) (by kernel_rfl) (by kernel_rfl) ?bt285 ?ct285 ?dt285 (by assumption) ?rt285; (case at285 => (simp only [List.getElem?_toArray, List.getElem?_cons_zero, List.getElem?_cons_succ]; rfl)); (case bt285 => exact fun _ _ _ h => h); (case ct285 => kernel_rfl); (case dt285 => (intro W hW; (try dsimp only at hW); go_split_ands; go_simp; (try with_reducible rfl))); (case' rt285 => simp only [Act.put, List.setIfInBounds_toArray, List.set_cons_zero, List.set_cons_succ]))
          (refine held_take (i := 12) (oi := ?ot286) (v := ?vt286) ?at286 (by kernel_rfl) (by kernel_rfl) (by kernel_rfl) ?bt286 ?ct286 ?dt286 (by assumption) ?rt286; (case at286 => (simp only [List.getElem?_toArray, List.getElem?_cons_zero, List.getElem?_cons_succ]; rfl)); (case bt286 => exact fun _ _ _ h => h); (case ct286 => kernel_rfl); (case dt286 => (intro W hW; (try dsimp only at hW); go_split_ands; go_simp; (try with_reducible rfl))); (case' rt286 => simp only [Act.put, List.setIfInBounds_toArray, List.set_cons_zero, List.set_cons_succ]))
          (refine held_take (i := 13) (oi := ?ot287) (v := .agg (vec 5 (mpE m))) ?at287 (by kernel_rfl) (by kernel_rfl) (by kernel_rfl) ?bt287 ?ct287 ?dt287 (by assumption) ?rt287; (case at287 => (simp only [List.getElem?_toArray, List.getElem?_cons_zero, List.getElem?_cons_succ]; rfl)); (case bt287 => exact fun _ _ _ h => h); (case ct287 => kernel_rfl); (case dt287 => (intro W hW; exact exec_load_at 39 _ rfl g 0 rfl _ (run_load_arr (HA.out.under (show Below V.heap.size V W from hW)) Try.underlying39 rfl infoMp))); (case' rt287 => simp only [Act.put, List.setIfInBounds_toArray, List.set_cons_zero, List.set_cons_succ]))
          (refine held_take (i := 15) (oi := ?ot288) (v := .agg (vec 2 (spE allS))) ?at288 (by kernel_rfl) (by kernel_rfl) (by kernel_rfl) ?bt288 ?ct288 ?dt288 (by assumption) ?rt288; (case at288 => (simp only [List.getElem?_toArray, List.getElem?_cons_zero, List.getElem?_cons_succ]; rfl)); (case bt288 => exact fun _ _ _ h => h); (case ct288 => kernel_rfl); (case dt288 => (intro W hW; exact exec_load_at 49 _ rfl h 0 rfl _ (run_load_arr (HS.out.under (show Below V.heap.size V W from hW)) Try.underlying49 rfl infoSp))); (case' rt288 => simp only [Act.put, List.setIfInBounds_toArray, List.set_cons_zero, List.set_cons_succ]))
          refine held_one (i := 14) (oi := ?ot289) (by kernel_rfl) ?at289 ?ct289 (fun K14 hK14 => ?_)
          (case at289 => (simp only [List.getElem?_toArray, List.getElem?_cons_zero, List.getElem?_cons_succ]; rfl))
          (case ct289 => kernel_rfl)
          go_simp
          refine (HPH.out _).mono ?_
          rintro e y14 ⟨rfl, hd⟩
          refine hK14 _ _ ((show VS V _ from hS10).keep hd) (fun hS14 => ?_)
          clear hd hS10 hK14 K14
          refine held_one (i := 16) (oi := ?ot290) (by kernel_rfl) ?at290 ?ct290 (fun K16 hK16 => ?_)
          (case at290 => (simp only [List.getElem?_toArray, List.getElem?_cons_zero, List.getElem?_cons_succ]; rfl))
          (case ct290 => kernel_rfl)
          go_simp
          refine (HWP.out _).mono ?_
          rintro e y16 ⟨rfl, hd⟩
          refine hK16 _ _ ((show VS V _ from hS14).keep hd) (fun hS16 => ?_)
          clear hd hS14 hK16 K16
          (refine held_take (i := 17) (oi := ?ot291) (v := ?vt291) ?at291 (by kernel_rfl) (by kernel_rfl) (by kernel_rfl) ?bt291 ?ct291 ?dt291 (by assumption) ?rt291; (case at291 => (simp only [List.getElem?_toArray, List.getElem?_cons_zero, List.getElem?_cons_succ]; rfl)); (case bt291 => exact fun _ _ _ h => h); (case ct291 => kernel_rfl); (case dt291 => (intro W hW; (try dsimp only at hW); go_split_ands; go_simp; (try with_reducible rfl))); (case' rt291 => simp only [Act.put, List.setIfInBounds_toArray, List.set_cons_zero, List.set_cons_succ]))
          (refine held_take (i := 18) (oi := ?ot292) (v := ?vt292) ?at292 (by kernel_rfl) (by kernel_rfl) (by kernel_rfl) ?bt292 ?ct292 ?dt292 (by assumption) ?rt292; (case at292 => (simp only [List.getElem?_toArray, List.getElem?_cons_zero, List.getElem?_cons_succ]; rfl)); (case bt292 => exact fun _ _ _ h => h); (case ct292 => kernel_rfl); (case dt292 => (intro W hW; (try dsimp only at hW); go_split_ands; go_simp; (try with_reducible rfl))); (case' rt292 => simp only [Act.put, List.setIfInBounds_toArray, List.set_cons_zero, List.set_cons_succ]))
          (refine held_take (i := 19) (oi := ?ot293) (v := ?vt293) ?at293 (by kernel_rfl) (by kernel_rfl) (by kernel_rfl) ?bt293 ?ct293 ?dt293 (by assumption) ?rt293; (case at293 => (simp only [List.getElem?_toArray, List.getElem?_cons_zero, List.getElem?_cons_succ]; rfl)); (case bt293 => exact fun _ _ _ h => h); (case ct293 => kernel_rfl); (case dt293 => (intro W hW; (try dsimp only at hW); go_split_ands; go_simp; (try with_reducible rfl))); (case' rt293 => simp only [Act.put, List.setIfInBounds_toArray, List.set_cons_zero, List.set_cons_succ]))
          (refine held_take (i := 20) (oi := ?ot294) (v := .int .i64 mq) ?at294 (by kernel_rfl) (by kernel_rfl) (by kernel_rfl) ?bt294 ?ct294 ?dt294 (by assumption) ?rt294; (case at294 => (simp only [List.getElem?_toArray, List.getElem?_cons_zero, List.getElem?_cons_succ]; rfl)); (case bt294 => exact fun _ _ _ h => h); (case ct294 => kernel_rfl); (case dt294 => (intro W hW; have hc := (HC.out W (show Below V.heap.size V W from hW)).1; clear hW; go_simp; (try with_reducible rfl))); (case' rt294 => simp only [Act.put, List.setIfInBounds_toArray, List.set_cons_zero, List.set_cons_succ]))
          (refine held_take (i := 21) (oi := ?ot295) (v := .bool false) ?at295 (by kernel_rfl) (by kernel_rfl) (by kernel_rfl) ?bt295 ?ct295 ?dt295 (by assumption) ?rt295; (case at295 => (simp only [List.getElem?_toArray, List.getElem?_cons_zero, List.getElem?_cons_succ]; rfl)); (case bt295 => exact fun _ _ _ h => h); (case ct295 => kernel_rfl); (case dt295 => (intro W hW; clear hW; go_simp; (first | done | rfl | (rw [z1]; rfl) | (simp only [z1]; rfl) | simp [z1]))); (case' rt295 => simp only [Act.put, List.setIfInBounds_toArray, List.set_cons_zero, List.set_cons_succ]))
          (refine held_take (i := 22) (oi := ?ot296) (v := ?vt296) ?at296 (by kernel_rfl) (by kernel_rfl) (by kernel_rfl) ?bt296 ?ct296 ?dt296 (by assumption) ?rt296; (case at296 => (simp only [List.getElem?_toArray, List.getElem?_cons_zero, List.getElem?_cons_succ]; rfl)); (case bt296 => exact fun _ _ _ h => h); (case ct296 => kernel_rfl); (case dt296 => (intro W hW; (try dsimp only at hW); go_split_ands; go_simp; (try with_reducible rfl))); (case' rt296 => simp only [Act.put, List.setIfInBounds_toArray, List.set_cons_zero, List.set_cons_succ]))
          (refine held_take (i := 23) (oi := ?ot297) (v := ?vt297) ?at297 (by kernel_rfl) (by kernel_rfl) (by kernel_rfl) ?bt297 ?ct297 ?dt297 (by assumption) ?rt297; (case at297 => (simp only [List.getElem?_toArray, List.getElem?_cons_zero, List.getElem?_cons_succ]; rfl)); (case bt297 => exact fun _ _ _ h => h); (case ct297 => kernel_rfl); (case dt297 => (intro W hW; (try dsimp only at hW); go_split_ands; go_simp; (try with_reducible rfl))); (case' rt297 => simp only [Act.put, List.setIfInBounds_toArray, List.set_cons_zero, List.set_cons_succ]))
          (refine held_skip (i := 24) (oi := ?ot298) ?at298 (by kernel_rfl) (by kernel_rfl) (by kernel_rfl) ?bt298 ?ct298 (by assumption) ?rt298; (case at298 => (simp only [List.getElem?_toArray, List.getElem?_cons_zero, List.getElem?_cons_succ]; rfl)); (case bt298 => exact fun _ _ _ h => h); (case ct298 => kernel_rfl); (case' rt298 => simp only [Act.put, List.setIfInBounds_toArray, List.set_cons_zero, List.set_cons_succ]))
          (refine held_skip (i := 25) (oi := ?ot299) ?at299 (by kernel_rfl) (by kernel_rfl) (by kernel_rfl) ?bt299 ?ct299 (by assumption) ?rt299; (case at299 => (simp only [List.getElem?_toArray, List.getElem?_cons_zero, List.getElem?_cons_succ]; rfl)); (case bt299 => exact fun _ _ _ h => h); (case ct299 => kernel_rfl); (case' rt299 => simp only [Act.put, List.setIfInBounds_toArray, List.set_cons_zero, List.set_cons_succ]))
          (refine held_skip (i := 26) (oi := ?ot300) ?at300 (by kernel_rfl) (by kernel_rfl) (by kernel_rfl) ?bt300 ?ct300 (by assumption) ?rt300; (case at300 => (simp only [List.getElem?_toArray, List.getElem?_cons_zero, List.getElem?_cons_succ]; rfl)); (case bt300 => exact fun _ _ _ h => h); (case ct300 => kernel_rfl); (case' rt300 => simp only [Act.put, List.setIfInBounds_toArray, List.set_cons_zero, List.set_cons_succ]))
          (refine held_take (i := 27) (oi := ?ot301) (v := ?vt301) ?at301 (by kernel_rfl) (by kernel_rfl) (by kernel_rfl) ?bt301 ?ct301 ?dt301 (by assumption) ?rt301; (case at301 => (simp only [List.getElem?_toArray, List.getElem?_cons_zero, List.getElem?_cons_succ]; rfl)); (case bt301 => exact fun _ _ _ h => h); (case ct301 => kernel_rfl); (case dt301 => (intro W hW; (try dsimp only at hW); go_split_ands; go_simp; (try with_reducible rfl))); (case' rt301 => simp only [Act.put, List.setIfInBounds_toArray, List.set_cons_zero, List.set_cons_succ]))
          (refine held_take (i := 28) (oi := ?ot302) (v := ?vt302) ?at302 (by kernel_rfl) (by kernel_rfl) (by kernel_rfl) ?bt302 ?ct302 ?dt302 (by assumption) ?rt302; (case at302 => (simp only [List.getElem?_toArray, List.getElem?_cons_zero, List.getElem?_cons_succ]; rfl)); (case bt302 => exact fun _ _ _ h => h); (case ct302 => kernel_rfl); (case dt302 => (intro W hW; (try dsimp only at hW); go_split_ands; go_simp; (try with_reducible rfl))); (case' rt302 => simp only [Act.put, List.setIfInBounds_toArray, List.set_cons_zero, List.set_cons_succ]))
          (refine held_skip (i := 29) (oi := ?ot303) ?at303 (by kernel_rfl) (by kernel_rfl) (by kernel_rfl) ?bt303 ?ct303 (by assumption) ?rt303; (case at303 => (simp only [List.getElem?_toArray, List.getElem?_cons_zero, List.getElem?_cons_succ]; rfl)); (case bt303 => exact fun _ _ _ h => h); (case ct303 => kernel_rfl); (case' rt303 => simp only [Act.put, List.setIfInBounds_toArray, List.set_cons_zero, List.set_cons_succ]))
          (refine held_skip (i := 30) (oi := ?ot304) ?at304 (by kernel_rfl) (by kernel_rfl) (by kernel_rfl) ?bt304 ?ct304 (by assumption) ?rt304; (case at304 => (simp only [List.getElem?_toArray, List.getElem?_cons_zero, List.getElem?_cons_succ]; rfl)); (case bt304 => exact fun _ _ _ h => h); (case ct304 => kernel_rfl); (case' rt304 => simp only [Act.put, List.setIfInBounds_toArray, List.set_cons_zero, List.set_cons_succ]))
          (refine held_skip (i := 31) (oi := ?ot305) ?at305 (by kernel_rfl) (by kernel_rfl) (by kernel_rfl) ?bt305 ?ct305 (by assumption) ?rt305; (case at305 => (simp only [List.getElem?_toArray, List.getElem?_cons_zero, List.getElem?_cons_succ]; rfl)); (case bt305 => exact fun _ _ _ h => h); (case ct305 => kernel_rfl); (case' rt305 => simp only [Act.put, List.setIfInBounds_toArray, List.set_cons_zero, List.set_cons_succ]))
          (refine held_skip (i := 32) (oi := ?ot306) ?at306 (by kernel_rfl) (by kernel_rfl) (by kernel_rfl) ?bt306 ?ct306 (by assumption) ?rt306; (case at306 => (simp only [List.getElem?_toArray, List.getElem?_cons_zero, List.getElem?_cons_succ]; rfl)); (case bt306 => exact fun _ _ _ h => h); (case ct306 => kernel_rfl); (case' rt306 => simp only [Act.put, List.setIfInBounds_toArray, List.set_cons_zero, List.set_cons_succ]))
          (refine held_skip (i := 33) (oi := ?ot307) ?at307 (by kernel_rfl) (by kernel_rfl) (by kernel_rfl) ?bt307 ?ct307 (by assumption) ?rt307; (case at307 => (simp only [List.getElem?_toArray, List.getElem?_cons_zero, List.getElem?_cons_succ]; rfl)); (case bt307 => exact fun _ _ _ h => h); (case ct307 => kernel_rfl); (case' rt307 => simp only [Act.put, List.setIfInBounds_toArray, List.set_cons_zero, List.set_cons_succ]))
          (refine held_skip (i := 34) (oi := ?ot308) ?at308 (by kernel_rfl) (by kernel_rfl) (by kernel_rfl) ?bt308 ?ct308 (by assumption) ?rt308; (case at308 => (simp only [List.getElem?_toArray, List.getElem?_cons_zero, List.getElem?_cons_succ]; rfl)); (case bt308 => exact fun _ _ _ h => h); (case ct308 => kernel_rfl); (case' rt308 => simp only [Act.put, List.setIfInBounds_toArray, List.set_cons_zero, List.set_cons_succ]))
          (refine held_skip (i := 35) (oi := ?ot309) ?at309 (by kernel_rfl) (by kernel_rfl) (by kernel_rfl) ?bt309 ?ct309 (by assumption) ?rt309; (case at309 => (simp only [List.getElem?_toArray, List.getElem?_cons_zero, List.getElem?_cons_succ]; rfl)); (case bt309 => exact fun _ _ _ h => h); (case ct309 => kernel_rfl); (case' rt309 => simp only [Act.put, List.setIfInBounds_toArray, List.set_cons_zero, List.set_cons_succ]))
          (refine held_skip (i := 36) (oi := ?ot310) ?at310 (by kernel_rfl) (by kernel_rfl) (by kernel_rfl) ?bt310 ?ct310 (by assumption) ?rt310; (case at310 => (simp only [List.getElem?_toArray, List.getElem?_cons_zero, List.getElem?_cons_succ]; rfl)); (case bt310 => exact fun _ _ _ h => h); (case ct310 => kernel_rfl); (case' rt310 => simp only [Act.put, List.setIfInBounds_toArray, List.set_cons_zero, List.set_cons_succ]))
          (refine held_take (i := 37) (oi := ?ot311) (v := ?vt311) ?at311 (by kernel_rfl) (by kernel_rfl) (by kernel_rfl) ?bt311 ?ct311 ?dt311 (by assumption) ?rt311; (case at311 => (simp only [List.getElem?_toArray, List.getElem?_cons_zero, List.getElem?_cons_succ]; rfl)); (case bt311 => exact fun _ _ _ h => h); (case ct311 => kernel_rfl); (case dt311 => (intro W hW; (try dsimp only at hW); go_split_ands; go_simp; (try with_reducible rfl))); (case' rt311 => simp only [Act.put, List.setIfInBounds_toArray, List.set_cons_zero, List.set_cons_succ]))
          (refine held_take (i := 38) (oi := ?ot312) (v := ?vt312) ?at312 (by kernel_rfl) (by kernel_rfl) (by kernel_rfl) ?bt312 ?ct312 ?dt312 (by assumption) ?rt312; (case at312 => (simp only [List.getElem?_toArray, List.getElem?_cons_zero, List.getElem?_cons_succ]; rfl)); (case bt312 => exact fun _ _ _ h => h); (case ct312 => kernel_rfl); (case dt312 => (intro W hW; (try dsimp only at hW); go_split_ands; go_simp; (try with_reducible rfl))); (case' rt312 => simp only [Act.put, List.setIfInBounds_toArray, List.set_cons_zero, List.set_cons_succ]))
          refine wpAnyH_done (by kernel_rfl) ?_ _
          go_wp2
          go_ret
          exact ⟨by rw [HR.out]; rfl, HB.out.trans ((show Below V.heap.size V _ from hS16).mono HB.out.size)⟩
end Go.Proofs.Ytgnihceefpijiaa
/- room.Good: parts that may be mapped. -/
namespace Go.Proofs.Ytgnihceefpijiaa
open Go.RowKit
attribute [local go_sem ↓ high] zeroMp zeroSp

/-- Where the part ahead ends. -/
def endP (l : List Mp) : Nat → Int
  | 0 => 0
  | k + 1 => match l[k]? with
    | some y => y.ipa + y.size
    | none => 0
theorem endP_succ {l : List Mp} {k : Nat} (h : k < l.length) : endP l (k + 1) = l[k].ipa + l[k].size := by
  show (match l[k]? with | some y => y.ipa + y.size | none => 0) = _
  rw [List.getElem?_eq_getElem h]
theorem goodAt_end {l : List Mp} (hb : ∀ x ∈ l, MpB x) {k : Nat} (h : k < l.length) : goodAt l k = (gdM l[k] && !decide (l[k].ipa < endP l k)) := by
  cases k with
  | zero =>
    have := (hb _ (List.getElem_mem h)).ipa.1
    rw [goodAt_zero h, show decide (l[0].ipa < endP l 0) = false from decide_eq_false (by show ¬ l[0].ipa < 0; omega)]
    simp
  | succ k =>
    rw [goodAt_succ h, endP_succ (by omega)]
    congr 1
    rw [Bool.eq_iff_iff]
    simp
theorem gdM_lt {m : Mp} (hm : MpB m) (h : gdM m = true) : m.ipa + m.size ≤ 1099511627776 := by
  unfold gdM pageB at h
  simp only [Bool.and_eq_true, decide_eq_true_eq] at h
  have h1 := h.1.2
  have z1 := hm.ipa.1
  have z2 := hm.size.1
  omega
set_option maxHeartbeats 4000000 in
set_option maxRecDepth 100000 in
theorem codeGood : CodeGood := fun l A c hlen w hr hb => by
  obtain ⟨N, hN⟩ : ∃ n, n = l.length := ⟨_, rfl⟩
  have HN := Lib.hid hN
  have HR := Lib.hid hr
  have HB := Lib.hid hb
  have hNl : N ≤ 1000000 := by omega
  have HA : Hid ((List.range N).all (goodAt l) = goodL l) := Lib.hid (by rw [hN]; rfl)
  generalize goodL l = q at HA ⊢
  unfold EqV
  rw [← hN]
  clear hN hr hb hlen
  go_enter Try.func14, Try.ntmps14
  go_wp2
  go_loopw [3, 8] (fun s v W => ∃ (k : Nat) (E : Int), k ≤ N ∧ v = .int .i64 k ∧ s = .int .u64 E ∧ Hid (E = endP l k) ∧ Hid ((List.range k).all (goodAt l) = true) ∧ Hid (Below w.heap.size w W)) (fun _ v _ => N - (intOf v).toNat)
  case atStart => exact ⟨0, 0, Nat.zero_le _, rfl, rfl, Lib.hid rfl, Lib.hid rfl, Lib.hid (Below.refl _ _)⟩
  case round =>
    obtain ⟨k, E, hk, rfl, rfl, HE, HQ, HBW⟩ := hrel
    obtain ⟨V, hV⟩ : ∃ V : World, V = wr := ⟨_, rfl⟩
    subst hV
    by_cases hlt : k < N
    · have hki : (k : Int) < (N : Int) := by omega
      have hltc : k < l.length := by rw [← HN.out]; exact hlt
      obtain ⟨b0, p, ea, hp, -, hcp⟩ := (HR.out.up HBW.out).at hltc
      obtain ⟨y, hy⟩ : ∃ y, y = l[k] := ⟨_, rfl⟩
      have hyb : MpB y := by rw [hy]; exact HB.out _ (List.getElem_mem hltc)
      have hga := goodAt_end HB.out hltc
      have hes := endP_succ hltc
      rw [← hy] at hcp hga hes
      rw [← HE.out] at hga
      obtain ⟨r, hr⟩ : ∃ r, r = V.heap.size := ⟨_, rfl⟩
      obtain ⟨X, hX⟩ : ∃ X, X = (V.alloc (.cells (vec 5 (mpE zMp)) 39)).setRow V.heap.size (vec 5 (mpE y)) := ⟨_, rfl⟩
      have b1 : Below V.heap.size V X := by rw [hX]; exact below_row ((Below.refl _ _).alloc (Nat.le_refl _) _) (Nat.le_refl _) _
      have a1 : Arr X r 39 5 (mpE y) := by rw [hX, hr]; exact (Arr.new V _ _ _).row _
      have HBX := Lib.hid (HBW.out.trans (b1.mono HBW.out.size))
      have HCP := Lib.hid hcp
      have HX := Lib.hid hX
      have HRR := Lib.hid hr
      have HAR := Lib.hid a1
      have HGA := Lib.hid hga
      have HES := Lib.hid hes
      have HHO := Lib.hid (fun W => holds_any y hyb W)
      have HLT := Lib.hid (gdM_lt hyb)
      have HYB := Lib.hid hyb
      obtain ⟨b, hbb⟩ : ∃ b, b = gdM y := ⟨_, rfl⟩
      rw [← hbb] at HHO HGA HLT
      unfold EqV at HHO
      subst ea
      clear hcp hr hX b1 a1 hy hga hes hyb hbb hltc
      go_upto_region 5 with (first
        | ((with_reducible show wpList _ _ _ (Oper.mk _ (.load _ _) _ _ _ _ :: _) _ _); refine wl_load_q rfl 39 _ rfl p rfl _ (run_load_q HCP.out Try.underlying39 rfl infoMp) ?_)
        | ((with_reducible show wpList _ _ _ (Oper.mk _ (.store _ _ _) _ _ _ _ :: _) _ _); refine wl_store rfl 39 _ _ rfl _ rfl _ rfl (run_store_arr (Arr.new V _ _ _) (mpE y) infoMp (mpE_one _ _)) ?_))
      rw [← HX.out, ← HRR.out]
      clear HX HCP HRR
      cases b
      · have HF := Lib.hid (show q = false by rw [← HA.out]; exact range_off (k := k) hlt (by rw [HGA.out, Bool.false_and]))
        go_wp2_with (first
          | ((with_reducible show wpList _ _ _ (Oper.mk _ (.load 39 _) _ _ _ _ :: _) _ _); refine wl_load rfl 39 _ rfl r rfl _ (run_load_arr HAR.out Try.underlying39 rfl infoMp) ?_)
          | (go_at_call 31; refine (HHO.out _).mono ?_; rintro e w2 ⟨rfl, hd2⟩; have HD := Lib.hid (HBX.out.trans (hd2.mono HBX.out.size)); clear hd2))
        (try simp only [Exit.inBlock, Exit.then])
        go_ret
        exact ⟨by rw [HF.out]; rfl, HD.out⟩
      · by_cases hl : y.ipa < E
        · have HF := Lib.hid (show q = false by rw [← HA.out]; exact range_off (k := k) hlt (by rw [HGA.out, decide_eq_true hl]; rfl))
          have hd : decide (y.ipa < E) = true := decide_eq_true hl
          go_wp2_with (first
            | ((with_reducible show wpList _ _ _ (Oper.mk _ (.load 39 _) _ _ _ _ :: _) _ _); refine wl_load rfl 39 _ rfl r rfl _ (run_load_arr HAR.out Try.underlying39 rfl infoMp) ?_)
            | (go_at_call 31; refine (HHO.out _).mono ?_; rintro e w2 ⟨rfl, hd2⟩; have HD := Lib.hid (HBX.out.trans (hd2.mono HBX.out.size)); have a2 := HAR.out.under hd2; have c0 : w2.cell? ⟨r, 0, none⟩ = some (.int .u64 y.ipa) := a2.cell (i := 0) (by decide); have c2 : w2.cell? ⟨r, 2, none⟩ = some (.int .u64 y.size) := a2.cell (i := 2) (by decide); clear a2; clear hd2))
          (try simp only [Exit.inBlock, Exit.then])
          go_ret
          exact ⟨by rw [HF.out]; rfl, HD.out⟩
        · have hd : decide (y.ipa < E) = false := decide_eq_false hl
          have HG := Lib.hid (show goodAt l k = true by rw [HGA.out, hd]; rfl)
          have hlt2 := HLT.out rfl
          have z1 := HYB.out.ipa.1
          have z2 := HYB.out.size.1
          have wr1 : IntKind.u64.wrap (y.ipa + y.size) = y.ipa + y.size := by rw [IntKind.wrap_u64]; omega
          clear hlt2 z1 z2
          go_wp2_with (first
            | ((with_reducible show wpList _ _ _ (Oper.mk _ (.load 39 _) _ _ _ _ :: _) _ _); refine wl_load rfl 39 _ rfl r rfl _ (run_load_arr HAR.out Try.underlying39 rfl infoMp) ?_)
            | (go_at_call 31; refine (HHO.out _).mono ?_; rintro e w2 ⟨rfl, hd2⟩; have HD := Lib.hid (HBX.out.trans (hd2.mono HBX.out.size)); have a2 := HAR.out.under hd2; have c0 : w2.cell? ⟨r, 0, none⟩ = some (.int .u64 y.ipa) := a2.cell (i := 0) (by decide); have c2 : w2.cell? ⟨r, 2, none⟩ = some (.int .u64 y.size) := a2.cell (i := 2) (by decide); clear a2; clear hd2))
          go_roundw
          case rel => exact ⟨k + 1, y.ipa + y.size, by omega, by go_num, rfl, Lib.hid HES.out.symm, Lib.hid (range_snoc HQ.out HG.out), HD⟩
          case measure => simp [intOf]; omega
    · obtain rfl : k = N := by omega
      have HF := Lib.hid (show q = true by rw [← HA.out]; exact HQ.out)
      go_wp2_with fail
      go_ret
      exact ⟨by rw [HF.out]; rfl, HBW.out⟩
end Go.Proofs.Ytgnihceefpijiaa
