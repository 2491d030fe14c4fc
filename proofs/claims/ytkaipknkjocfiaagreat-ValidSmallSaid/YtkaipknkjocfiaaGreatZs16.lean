import Derived.Test.YtkaipknkjocfiaaGreatZs15
namespace Go.Proofs.YtkaipknkjocfiaaGreat
open Go.RowKit Go.Maps
attribute [local go_sem ↓ high] zeroSp zeroWi zeroGu zeroCh zeroEn
theorem wl_bs1G {P : Program} {w w' : World} {ops : Array Oper} {rest : List Oper} {o : Oper} {a : Act} {Q : Exit → Act → World → Prop} (hw : Region.wanted o (yielded ops a.tmps) = true) {t : TypeId} {n : Nat} (y : Operand) (ho : o.op = .buildSlice t n #[(0, y)]) (v0 : Value) (hy : a.eval y = v0) {v : Value} (hr : (Instr.buildSlice t n #[(0, v0)]).run P w = .ok v w')
  (h : wpList P ops Q rest (a.put o.dst v) w') : wpList P ops Q (o :: rest) a w :=
 wpList_step fun K hK => by
  simp only [hw, if_true]
  unfold Oper.wp execOp
  subst hy
  simp only [ho, Sem.run_bind, List.map_toArray, List.map_cons, List.map_nil, hr, Result.andThen_ok, Sem.run_pure]
  exact hK _ _ h
set_option maxHeartbeats 4000000 in
set_option maxRecDepth 100000 in
theorem kend_any (n : Nat) (y : Ch) (e : En) (hy : ChB y) (he : EnB e) (gn gc : Nat) (w : World) (hn : w.cell? ⟨gn, 0, none⟩ = some (.int .i64 (n : Int))) (hc : Arr w gc 47 8 (chE y)) : Calls Tryz.prog 95 #[.agg (vec 3 (endE e)), .pointer (some ⟨gn, 0, none⟩), .pointer (some ⟨gc, 0, none⟩)] w (EqV (endK n y e) w) := by
 obtain ⟨im, him⟩ := Int.eq_ofNat_of_zero_le he.2.2.1
 obtain ⟨sn, hsn⟩ := Int.eq_ofNat_of_zero_le hy.2.1.1
 obtain ⟨G, hG⟩ : ∃ q, q = e.guest := ⟨_, rfl⟩
 obtain ⟨P, hP⟩ : ∃ q, q = e.perm := ⟨_, rfl⟩
 obtain ⟨z0, hz0⟩ : ∃ z, z = decide (G < (n : Int)) := ⟨_, rfl⟩
 obtain ⟨z1, hz1⟩ : ∃ z, z = !(P == 0) := ⟨_, rfl⟩
 obtain ⟨z2, hz2⟩ : ∃ z, z = allowB P 4 := ⟨_, rfl⟩
 obtain ⟨z3, hz3⟩ : ∃ z, z = lowL [(im, sn)] := ⟨_, rfl⟩
 have ee : endK n y e = (z0 && ((z1 && !z2) && z3)) := by unfold endK; rw [him, hsn, ← hG, ← hP, ← hz0, ← hz1, ← hz2]; show (_ && (_ && lowL [(im, sn)])) = _; rw [← hz3]
 rw [ee]
 have hfy : fit (im, sn) := ⟨by have := he.2.2.2; rw [him] at this; show im < _; omega, by have := hy.2.1.2; rw [hsn] at this; show sn < _; omega⟩
 have HLOW : Hid (∀ A W, RowE 2 spE W W.heap.size A [(im, sn)] → Calls Tryz.prog 78 #[.slice A 1 1] W (EqV z3 W)) := Lib.hid (by
  rw [hz3]
  exact fun A W hR => klow_any A 1 [(im, sn)] (by simp) (fun x hx => by rw [List.mem_singleton.1 hx]; exact hfy) W hR)
 have HALL : Hid (∀ W, Calls Tryz.prog 85 #[.int .i64 P, .int .i64 4] W (EqV z2 W)) := Lib.hid (by rw [hz2]; exact fun W => allows_any P 4 W)
 unfold EqV at HLOW HALL ⊢
 obtain ⟨r3, hr3⟩ : ∃ r, r = w.heap.size := ⟨_, rfl⟩
 obtain ⟨V, hV⟩ : ∃ V, V = w.alloc (.cells (vec 3 (endE e)) 44) := ⟨_, rfl⟩
 have hb : Below w.heap.size w V := by rw [hV]; exact Below.alloc_own w _
 have ha : Arr V r3 44 3 (endE e) := by rw [hV, hr3]; exact Arr.new _ _ _ _
 have HCL : Hid (∀ Y, Below V.heap.size V Y → (Y.cell? ⟨r3, 0, none⟩ = some (.int .i64 G) ∧ Y.cell? ⟨r3, 1, none⟩ = some (.int .i64 P) ∧ Y.cell? ⟨r3, 2, none⟩ = some (.int .u64 (im : Int))) ∧ Y.cell? ⟨gn, 0, none⟩ = some (.int .i64 (n : Int)) ∧ Y.cell? ⟨gc, 1, none⟩ = some (.int .u64 (sn : Int))) := Lib.hid fun Y hY => by
  rw [hG, hP, ← him, ← hsn]
  refine ⟨⟨(ha.under hY).cell (i := 0) (by decide), (ha.under hY).cell (i := 1) (by decide), (ha.under hY).cell (i := 2) (by decide)⟩, ?_, ((hc.under hb).under hY).cell (i := 1) (by decide)⟩
  have hgl : gn < w.heap.size := lt_of_cell hn
  exact (hY.cell (p := ⟨gn, 0, none⟩) (Nat.lt_of_lt_of_le hgl hb.size)).trans ((hb.cell (p := ⟨gn, 0, none⟩) hgl).trans hn)
 have HB := Lib.hid hb
 have HV := Lib.hid hV
 have HR3 := Lib.hid hr3
 have k0 : decide (G < (n : Int)) = z0 := hz0.symm
 have k1 : (P != 0) = z1 := by rw [hz1]; rfl
 obtain ⟨⟨c0, c1, c2⟩, c3, c4⟩ := HCL.out V (Below.refl _ _)
 clear hz0 hz1 hz2 hz3 ee him hsn hG hP hfy hy he hn hc hb ha hV hr3
 go_enter Tryz.func95, Tryz.ntmps95
 go_upto_region 1 with fail
 rw [← HV.out, ← HR3.out]
 clear HV HR3
 cases z0
 case false =>
  go_wp2_with fail
  go_ret
  exact ⟨rfl, HB.out⟩
 case true =>
  cases z1
  case false =>
   go_wp2_with fail
   go_ret
   exact ⟨rfl, HB.out⟩
  case true =>
   cases z2
   case true =>
    go_wp2_with (go_at_call 85; refine (HALL.out _).mono ?_; rintro e w1 ⟨rfl, hd⟩; have HD := Lib.hid hd; obtain ⟨⟨c0, c1, c2⟩, c3, c4⟩ := HCL.out w1 hd; clear hd)
    go_ret
    exact ⟨rfl, HB.out.trans (HD.out.mono HB.out.size)⟩
   case false =>
    go_wp2_with (first
     | (go_at_call 85; refine (HALL.out _).mono ?_; rintro e w1 ⟨rfl, hd⟩; have HD := Lib.hid hd; obtain ⟨⟨c0, c1, c2⟩, c3, c4⟩ := HCL.out w1 hd; clear hd)
     | ((with_reducible show wpList _ _ _ (Oper.mk _ (.build _ _) _ _ _ _ :: _) _ _); refine wl_execG (by kernel_rfl) (exec_build 24 _ rfl (vec 2 (spE (im, sn))) (by kernel_rfl) _) ?_)
     | ((with_reducible show wpList _ _ _ (Oper.mk _ (.buildSlice _ _ _) _ _ _ _ :: _) _ _); refine wl_bs1G (by kernel_rfl) _ rfl (.agg (vec 2 (spE (im, sn)))) rfl (build_span (im, sn) _) ?_)
     | (go_at_call 78; refine (HLOW.out _ _ (row_new1 (im, sn) _)).mono ?_; rintro e w2 ⟨rfl, hd⟩; have HD2 := Lib.hid ((HD.out.trans ((Below.alloc_own _ _).mono HD.out.size)).trans (hd.mono (Nat.le_trans HD.out.size (by simp)))); clear hd))
    go_ret
    exact ⟨rfl, HB.out.trans (HD2.out.mono HB.out.size)⟩
theorem kends_row {Y : World} {g : Nat} {t : TypeId} {y : Ch} (h : Arr Y g t 8 (chE y)) : RowE 3 endE Y Y.heap.size (some ⟨g, 2, none⟩) [y.a, y.b] := fun _ =>
 ⟨_, rfl, h.lt, fun j hj i hi => by
  rw [add_atM]
  have hj : j < 2 := hj
  rcases (by omega : j = 0 ∨ j = 1) with rfl | rfl <;> rcases (by omega : i = 0 ∨ i = 1 ∨ i = 2) with rfl | rfl | rfl
  · exact h.cell (i := 2) (by decide)
  · exact h.cell (i := 3) (by decide)
  · exact h.cell (i := 4) (by decide)
  · exact h.cell (i := 5) (by decide)
  · exact h.cell (i := 6) (by decide)
  · exact h.cell (i := 7) (by decide)⟩
theorem RowE.down {α : Type} {n : Nat} {enc : α → Nat → Value} {w : World} {B B' : Nat} {A : Option Addr} {l : List α} (h : RowE n enc w B A l) (hb : ∀ a, A = some a → a.block < B') : RowE n enc w B' A l := fun hn => by
 obtain ⟨a, e, _, hc⟩ := h hn
 exact ⟨a, e, hb a e, hc⟩
set_option maxHeartbeats 4000000 in
set_option maxRecDepth 100000 in
theorem kjoined_any (n : Nat) (y : Ch) (hy : ChB y) (w : World) : Calls Tryz.prog 55 #[.agg (vec 8 (chE y)), .int .i64 (n : Int)] w (EqV (joinK n y) w) := by
 obtain ⟨GA, hGA⟩ : ∃ q, q = y.a.guest := ⟨_, rfl⟩
 obtain ⟨GB, hGB⟩ : ∃ q, q = y.b.guest := ⟨_, rfl⟩
 obtain ⟨z0, hz0⟩ : ∃ z, z = decide (GA ≠ GB) := ⟨_, rfl⟩
 obtain ⟨z1, hz1⟩ : ∃ z, z = [y.a, y.b].all (endK n y) := ⟨_, rfl⟩
 have ee : joinK n y = (z0 && z1) := by unfold joinK; rw [hz1, ← hGA, ← hGB, ← hz0]; simp
 rw [ee]
 obtain ⟨r2, hr2⟩ : ∃ r, r = w.heap.size := ⟨_, rfl⟩
 obtain ⟨r3, hr3⟩ : ∃ r, r = w.heap.size + 1 := ⟨_, rfl⟩
 obtain ⟨V, hV⟩ : ∃ V, V = (w.alloc (.cells (vec 8 (chE y)) 47)).alloc (.cells #[.int .i64 (n : Int)] 3) := ⟨_, rfl⟩
 have hb : Below w.heap.size w V := by rw [hV]; exact (Below.alloc_own w _).alloc (by simp) _
 have ha : Arr V r2 47 8 (chE y) := by rw [hV, hr2]; exact (Arr.new w _ _ _).alloc _
 have hbn : Blk V r3 3 #[.int .i64 (n : Int)] := by rw [hV]; exact Blk.new _ _ _ (by rw [hr3]; simp)
 have eL : ∀ args w, (callFunc 95 args).run Tryz.prog w = .ok (.enter 95 args) w := enters_of Tryz.func95 (by kernel_rfl) rfl
 have HE : Hid (Calls Tryz.prog 96 #[.slice (some ⟨r2, 2, none⟩) 2 2, .func (.func 95) #[] #[.pointer (some ⟨r3, 0, none⟩), .pointer (some ⟨r2, 0, none⟩)]] V (EqV z1 V)) := Lib.hid (by
  have hq := each_En (some ⟨r2, 2, none⟩) V.heap.size 2 [y.a, y.b] (by simp) 95 #[] #[.pointer (some ⟨r3, 0, none⟩), .pointer (some ⟨r2, 0, none⟩)] V.heap.size _ _ (Asks.pure (V := V) (q := endK n y) (n0 := V.heap.size) (Rw := fun Y => RowE 3 endE Y V.heap.size (some ⟨r2, 2, none⟩) [y.a, y.b]) false
   (fun Y hY => (kends_row (ha.under hY)).down fun a e => by injection e with e; subst e; exact ha.lt) eL
   (fun i hi Y hY => kend_any n y [y.a, y.b][i] hy (by
    have hi : i < 2 := hi
    rcases (by omega : i = 0 ∨ i = 1) with rfl | rfl
    · exact hy.2.2.1
    · exact hy.2.2.2) r3 r2 Y ((hbn.under hY).cellAt 0 rfl) (ha.under hY))) V (Nat.le_refl _) ⟨Below.refl _ _, fun j _ hj => by omega⟩
  refine hq.mono ?_
  rintro e w' ⟨r, rfl, -, h1, h2⟩
  cases r with
  | true => exact ⟨by rw [hz1, all_of fun i hi => (h1 rfl).2 i hi hi], (h1 rfl).1⟩
  | false =>
   obtain ⟨i, hi, hB, hi2, hq⟩ := h2 rfl
   exact ⟨by rw [hz1, all_miss (f := endK n y) hi2 hq], hB⟩)
 unfold EqV at HE ⊢
 have c2 : V.cell? ⟨r2, 2, none⟩ = some (.int .i64 GA) := by rw [hGA]; exact ha.cell (i := 2) (by decide)
 have c5 : V.cell? ⟨r2, 5, none⟩ = some (.int .i64 GB) := by rw [hGB]; exact ha.cell (i := 5) (by decide)
 have k0 : (GA != GB) = z0 := by rw [hz0]; by_cases h : GA = GB <;> simp [h]
 have hmf : ∀ (fn : Fn) (first cap : Array Value) (w : World), (Instr.makeFunc fn first cap).run Tryz.prog w = .ok (.func fn first cap) w := fun _ _ _ _ => rfl
 have HB := Lib.hid hb
 have HV := Lib.hid hV
 have HR := Lib.hid (And.intro hr2 hr3)
 clear hz0 hz1 ee hGA hGB hy hb ha hbn hV hr2 hr3 eL
 go_enter Tryz.func55, Tryz.ntmps55
 go_upto_region 1 with fail
 rw [← HV.out, ← HR.out.2, ← HR.out.1]
 clear HV HR
 cases z0
 case false =>
  go_wp2_with fail
  go_ret
  exact ⟨rfl, HB.out⟩
 case true =>
  go_wp2_with (go_at_call 96; refine HE.out.mono ?_; rintro e w2 ⟨rfl, hd⟩; have HD := Lib.hid hd; clear hd)
  go_ret
  exact ⟨rfl, HB.out.trans (HD.out.mono HB.out.size)⟩
end Go.Proofs.YtkaipknkjocfiaaGreat
