import Derived.ArgAppend
import Derived.BigQuiet
import Derived.Deep.QuietTactic
import Derived.Test.YtkaipknkjocfiaaGreatProg
import Derived.Test.YtkaipknkjocfiaaGreatZa10
namespace Go.Proofs.YtkaipknkjocfiaaGreat
open Go.RowKit
attribute [local go_sem ↓ high] zeroWi zeroDe zeroSp builtin_appS
def spW (x : Wi) : Sp := (x.pa.toNat, x.size.toNat)
def spD (x : De) : Sp := (x.pa.toNat, x.size.toNat)
theorem physP_is (t : Gs) : physP t = t.wins.map spW ++ t.devs.map spD := rfl
theorem take_snoc_map {α β : Type} (f : α → β) (l : List α) (k : Nat) (h : k < l.length) : (l.take (k + 1)).map f = (l.take k).map f ++ [f l[k]] := by
 rw [List.take_succ_eq_append_getElem h, List.map_append]; rfl
def physG (x : Cf) (g : Int) : List Sp := match guestAt x g with
 | none => []
 | some t => physP t
theorem guestAt_no {x : Cf} {g : Int} (h : g < 0 ∨ (x.gs.length : Int) ≤ g) : guestAt x g = none := by
 unfold guestAt
 by_cases h0 : g < 0
 · rw [if_pos h0]
 · rw [if_neg h0, List.getElem?_eq_none (by omega)]
theorem guestAt_yes {x : Cf} {i : Nat} (h : i < x.gs.length) : guestAt x (i : Int) = some x.gs[i] := by
 unfold guestAt
 rw [if_neg (by omega), Int.toNat_natCast, List.getElem?_eq_getElem h]
set_option maxHeartbeats 2000000 in
set_option maxRecDepth 100000 in
theorem rphys_any (x : Cf) (a c : Value) (g : Int) (w : World) (hx : CfR w w.heap.size x a c) (hb : CfB x) (hf : fewC x = true) : Calls Tryz.prog 12 #[cfVal x a c, .int .i64 g] w (SpansP (physG x g) w) := by
 obtain ⟨q0, hq0⟩ : ∃ q, q = w.heap.size := ⟨_, rfl⟩
 obtain ⟨V, hV⟩ : ∃ V, V = w.alloc (.cells (vec 3 (cfE x.ver a c)) 31) := ⟨_, rfl⟩
 have k1 : Arr V q0 31 3 (cfE x.ver a c) := by rw [hV, hq0]; exact Arr.new w _ _ _
 have hB : Below w.heap.size w V := by rw [hV]; exact (Below.refl _ _).alloc (Nat.le_refl _) _
 obtain ⟨hfg, hfc, hfa⟩ := few_gs hf
 obtain ⟨A, d, A2, d2, rfl, rfl, hch, hgu⟩ := cf_guest (hx.up hB)
 obtain ⟨x0, x1, x2⟩ := cf_cells k1
 obtain ⟨N, hN⟩ : ∃ N, N = x.gs.length := ⟨_, rfl⟩
 obtain ⟨M, hM⟩ : ∃ M, M = x.chs.length := ⟨_, rfl⟩
 unfold cfVal
 rw [← hN] at x1 hV ⊢
 rw [← hM] at x2 hV ⊢
 rw [← hN, ← hM] at k1
 have hNb : N ≤ 20 := by rw [hN]; exact hfg
 have hMb : M ≤ 40 := by rw [hM]; exact hfc
 have HW := Lib.hid hV
 have HQ := Lib.hid hq0
 have HB0 := Lib.hid hB
 have HCELL : Hid (∀ Y, Below V.heap.size V Y → Y.cell? ⟨q0, 1, none⟩ = some (.slice A N d) ∧ Y.cell? ⟨q0, 2, none⟩ = some (.slice A2 M d2)) := Lib.hid (fun Y hY => by
   have h := k1.under hY
   exact ⟨h.cell (i := 1) (by decide), h.cell (i := 2) (by decide)⟩)
 have HEND : Hid (∀ v W L, OwnS W V.heap.size v L → Below V.heap.size V W → SpansP L w (.returned v) W) := Lib.hid (fun v W L h1 h2 => ⟨v, rfl, h1.low hB.size, hB.trans (h2.mono hB.size)⟩)
 by_cases hno : g < 0 ∨ (x.gs.length : Int) ≤ g
 · have hg0 : physG x g = [] := by unfold physG; rw [guestAt_no hno]
   rw [hg0]
   have HE := Lib.hid (HEND.out (.slice none 0 0) V [] (OwnE.nil _ _) (Below.refl _ _))
   have y1 := (HCELL.out V (Below.refl _ _)).1
   rw [← hN] at hno
   clear hgu hch hV k1 hB hx hb hf hfg hfc hfa x0 x1 x2 hN hM hq0 hg0 HEND HCELL
   by_cases h0 : g < 0
   · clear hno
     go_enter Tryz.func12, Tryz.ntmps12
     go_upto_region 1 with fail
     rw [← HW.out, ← HQ.out]
     clear HW
     go_wp2_with fail
     go_ret
     exact HE.out
   · have h1 : (N : Int) ≤ g := by omega
     clear hno
     go_enter Tryz.func12, Tryz.ntmps12
     go_upto_region 1 with fail
     rw [← HW.out, ← HQ.out]
     clear HW
     go_wp2_with fail
     go_ret
     exact HE.out
 · obtain ⟨i, rfl⟩ := Int.eq_ofNat_of_zero_le (show 0 ≤ g by omega)
   have hi : i < x.gs.length := by omega
   have hpg : physG x (i : Int) = x.gs[i].wins.map spW ++ x.gs[i].devs.map spD := by
     unfold physG
     rw [guestAt_yes hi]
     exact physP_is _
   rw [hpg]
   obtain ⟨a0, q, A1, e1, A3, e3, rfl, hq, hcell⟩ := hgu i hi
   have hgb := hb.gs _ (List.getElem_mem hi)
   have hfew := gFew_iff (hfa _ (List.getElem_mem hi))
   obtain ⟨lw, hlw⟩ : ∃ l, l = x.gs[i].wins := ⟨_, rfl⟩
   obtain ⟨ld, hld⟩ : ∃ l, l = x.gs[i].devs := ⟨_, rfl⟩
   have hwb : ∀ y ∈ lw, WiB y := by rw [hlw]; exact hgb.wins
   have hdb : ∀ y ∈ ld, DeB y := by rw [hld]; exact hgb.devs
   have hwl : lw.length ≤ 20 := by rw [hlw]; exact hfew.1
   have hdl : ld.length ≤ 20 := by rw [hld]; exact hfew.2.1
   rw [← hlw, ← hld] at hcell ⊢
   obtain ⟨NW, hNW⟩ : ∃ n, n = lw.length := ⟨_, rfl⟩
   obtain ⟨ND, hND⟩ : ∃ n, n = ld.length := ⟨_, rfl⟩
   have hNWb : NW ≤ 20 := by rw [hNW]; exact hwl
   have hNDb : ND ≤ 20 := by rw [hND]; exact hdl
   rw [← hNW, ← hND] at hcell
   have HG := Lib.hid hcell
   have HWB := Lib.hid hwb
   have HDB := Lib.hid hdb
   have HNW := Lib.hid hNW
   have HND := Lib.hid hND
   obtain ⟨RES, hRES⟩ : ∃ l, l = lw.map spW ++ ld.map spD := ⟨_, rfl⟩
   have HRES := Lib.hid hRES
   rw [← hRES]
   have hiN : (i : Int) < (N : Int) := by omega
   have hiN2 : i < N := by omega
   have hi0 : ¬ (i : Int) < 0 := by omega
   have hiG : ¬ (N : Int) ≤ (i : Int) := by omega
   have y1 := (HCELL.out V (Below.refl _ _)).1
   obtain ⟨⟨z1, z2⟩, -⟩ := hcell V (Below.refl _ _)
   clear hgu hch hV k1 hB hx hb hf hfg hfc hfa x0 x1 x2 hN hM hq0 hno hpg hcell hgb hfew hlw hld hwb hdb hwl hdl hNW hND hRES hi
   go_enter Tryz.func12, Tryz.ntmps12
   go_upto_region 1 with fail
   rw [← HW.out, ← HQ.out]
   clear HW
   go_upto_region 3 with fail
   clear hiG
   go_wp2_with fail
   clear z1 z2
   go_loopw [5, 26] (fun s v W => ∃ (k e : Nat) (B : Option Addr), k ≤ NW ∧ v = .int .i64 k ∧ s = .slice B k e ∧ Hid (OwnS W V.heap.size (.slice B k e) ((lw.take k).map spW)) ∧ Hid (Below V.heap.size V W)) (fun _ v _ => NW - (intOf v).toNat)
   case atStart => exact ⟨0, 0, none, Nat.zero_le _, rfl, rfl, Lib.hid (OwnE.nil _ _), Lib.hid (Below.refl _ _)⟩
   case round =>
     obtain ⟨k, e, B, hk, rfl, rfl, HO, HB⟩ := hrel
     obtain ⟨W, hW⟩ : ∃ W : World, W = wr := ⟨_, rfl⟩
     subst hW
     by_cases hlt0 : k < NW
     · have hlt : k < lw.length := by have := HNW.out; omega
       have g1 := (HG.out W HB.out).2.1
       have hcl := HG.out W HB.out
       obtain ⟨b0, p, ea, hp, -, hcp⟩ := g1.at hlt
       obtain ⟨y, hy⟩ : ∃ y, y = lw[k] := ⟨_, rfl⟩
       rw [← hy] at hcp
       have hyb := HWB.out y (by rw [hy]; exact List.getElem_mem _)
       obtain ⟨pn, hpn⟩ := Int.eq_ofNat_of_zero_le hyb.2.1.1
       obtain ⟨sn, hsn⟩ := Int.eq_ofNat_of_zero_le hyb.2.2.1.1
       have hsp : spW y = (pn, sn) := by unfold spW; rw [hpn, hsn]; rfl
       have HSNOC : Hid ( (lw.take (k + 1)).map spW = ( (lw.take k).map spW) ++ [(pn, sn)]) := Lib.hid (by rw [take_snoc_map spW lw k hlt, ← hy, hsp]; try rw [List.append_assoc])
       have hki : (k : Int) < (NW : Int) := by omega
       obtain ⟨r, hr⟩ : ∃ r, r = W.heap.size := ⟨_, rfl⟩
       obtain ⟨X, hX⟩ : ∃ X, X = (W.alloc (.cells (vec 4 (winE zWi)) 67)).setRow W.heap.size (vec 4 (winE y)) := ⟨_, rfl⟩
       have b1 : Below W.heap.size W X := by rw [hX]; exact below_row ((Below.refl _ _).alloc (Nat.le_refl _) _) (Nat.le_refl _) _
       have a1 : Arr X r 67 4 (winE y) := by rw [hX, hr]; exact (Arr.new W _ _ _).row _
       have HBX := Lib.hid (HB.out.trans (b1.mono HB.out.size))
       have HOX := Lib.hid (OwnE.on HO.out b1 (Nat.le_refl _))
       have HLEN : Hid (( (lw.take k).map spW).length = k) := Lib.hid (by rw [List.length_map, List.length_take]; omega)
       have HCP := Lib.hid hcp
       have HX := Lib.hid hX
       have HRR := Lib.hid hr
       have c1 : X.cell? ⟨r, 1, none⟩ = some (.int .u64 (pn : Int)) := by rw [← hpn]; exact a1.cell (i := 1) (by decide)
       have c2 : X.cell? ⟨r, 2, none⟩ = some (.int .u64 (sn : Int)) := by rw [← hsn]; exact a1.cell (i := 2) (by decide)
       subst ea
       obtain ⟨B4, e4, w4, hrun, ho4, hb4⟩ := app_span (pn, sn) HOX.out HBX.out.size (by rw [HLEN.out]; omega)
       rw [HLEN.out, ← HSNOC.out] at ho4
       rw [HLEN.out] at hrun
       have hbs := build_span (pn, sn) X
       have HO4 := Lib.hid ho4
       have HB4 := Lib.hid (HBX.out.trans hb4)
       clear g1 hcl hcp hlt hr hX b1 a1 hyb hy hpn hsn hsp ho4 hb4 HSNOC
       go_upto_region 7 with (first
        | ((with_reducible show wpList _ _ _ (Oper.mk _ (.load _ _) _ _ _ _ :: _) _ _); refine wl_load_q rfl 67 _ rfl p rfl _ (run_load_q HCP.out Tryz.underlying67 rfl infoWi) ?_)
        | ((with_reducible show wpList _ _ _ (Oper.mk _ (.store _ _ _) _ _ _ _ :: _) _ _); refine wl_store rfl 67 _ _ rfl _ rfl _ rfl (run_store_arr (Arr.new W _ _ _) (winE y) infoWi (winE_one _ _)) ?_))
       rw [← HX.out, ← HRR.out]
       clear HX HCP HRR
       go_wp2_with (first
        | ((with_reducible show wpList _ _ _ (Oper.mk _ (.build _ _) _ _ _ _ :: _) _ _); refine wl_build rfl 24 _ rfl (vec 2 (spE (pn, sn))) (by kernel_rfl) ?_)
        | ((with_reducible show wpList _ _ _ (Oper.mk _ (.buildSlice _ _ _) _ _ _ _ :: _) _ _); refine wl_bs1 rfl _ rfl (.agg (vec 2 (spE (pn, sn)))) rfl hbs ?_))
       go_roundw
       case rel => exact ⟨k + 1, e4, B4, by omega, by go_num, rfl, HO4, HB4⟩
       case measure => simp [intOf]; omega
     · obtain rfl : k = NW := by omega
       clear hlt0
       obtain ⟨⟨z1, z2⟩, -⟩ := HG.out W HB.out
       have y1 := (HCELL.out W HB.out).1
       go_wp2_with fail
       clear z1 z2 y1
       obtain ⟨PW, hPW⟩ : ∃ l, l = lw.map spW := ⟨_, rfl⟩
       have HOW : Hid (OwnS W V.heap.size (.slice B k e) PW) := Lib.hid (by rw [hPW]; have h := HO.out; rw [HNW.out, List.take_length] at h; rw [HNW.out]; exact h)
       have HR2 : Hid (RES = PW ++ ld.map spD) := Lib.hid (by rw [hPW]; exact HRES.out)
       have HPL : Hid (PW.length = k) := Lib.hid (by rw [hPW, List.length_map]; exact HNW.out.symm)
       clear hPW HO
       go_loopw [5, 46] (fun s v Y => ∃ (m e2 : Nat) (B3 : Option Addr), m ≤ ND ∧ v = .int .i64 m ∧ s = .slice B3 (k + m) e2 ∧ Hid (OwnS Y V.heap.size (.slice B3 (k + m) e2) (PW ++ (ld.take m).map spD)) ∧ Hid (Below V.heap.size V Y)) (fun _ v _ => ND - (intOf v).toNat)
       case atStart => exact ⟨0, e, B, Nat.zero_le _, rfl, rfl, Lib.hid (by rw [List.take_zero, List.map_nil, List.append_nil]; exact HOW.out), HB⟩
       case round =>
        obtain ⟨m, e2, B3, hm, rfl, rfl, HO, HB⟩ := hrel
        obtain ⟨Y, hY⟩ : ∃ Y : World, Y = wr := ⟨_, rfl⟩
        subst hY
        by_cases hlt0 : m < ND
        · have hlt : m < ld.length := by have := HND.out; omega
          have g1 := (HG.out Y HB.out).2.2
          have hcl := HG.out Y HB.out
          obtain ⟨b0, p, ea, hp, -, hcp⟩ := g1.at hlt
          obtain ⟨y, hy⟩ : ∃ y, y = ld[m] := ⟨_, rfl⟩
          rw [← hy] at hcp
          have hyb := HDB.out y (by rw [hy]; exact List.getElem_mem _)
          obtain ⟨pn, hpn⟩ := Int.eq_ofNat_of_zero_le hyb.2.1.1
          obtain ⟨sn, hsn⟩ := Int.eq_ofNat_of_zero_le hyb.2.2.1
          have hsp : spD y = (pn, sn) := by unfold spD; rw [hpn, hsn]; rfl
          have HSNOC : Hid (PW ++  (ld.take (m + 1)).map spD = (PW ++  (ld.take m).map spD) ++ [(pn, sn)]) := Lib.hid (by rw [take_snoc_map spD ld m hlt, ← hy, hsp]; try rw [List.append_assoc])
          have hki : (m : Int) < (ND : Int) := by omega
          obtain ⟨r, hr⟩ : ∃ r, r = Y.heap.size := ⟨_, rfl⟩
          obtain ⟨X, hX⟩ : ∃ X, X = (Y.alloc (.cells (vec 3 (devE zDe)) 83)).setRow Y.heap.size (vec 3 (devE y)) := ⟨_, rfl⟩
          have b1 : Below Y.heap.size Y X := by rw [hX]; exact below_row ((Below.refl _ _).alloc (Nat.le_refl _) _) (Nat.le_refl _) _
          have a1 : Arr X r 83 3 (devE y) := by rw [hX, hr]; exact (Arr.new Y _ _ _).row _
          have HBX := Lib.hid (HB.out.trans (b1.mono HB.out.size))
          have HOX := Lib.hid (OwnE.on HO.out b1 (Nat.le_refl _))
          have HLEN : Hid ((PW ++  (ld.take m).map spD).length = k + m) := Lib.hid (by rw [List.length_append, List.length_map, List.length_take, HPL.out]; omega)
          have HCP := Lib.hid hcp
          have HX := Lib.hid hX
          have HRR := Lib.hid hr
          have c1 : X.cell? ⟨r, 1, none⟩ = some (.int .u64 (pn : Int)) := by rw [← hpn]; exact a1.cell (i := 1) (by decide)
          have c2 : X.cell? ⟨r, 2, none⟩ = some (.int .u64 (sn : Int)) := by rw [← hsn]; exact a1.cell (i := 2) (by decide)
          subst ea
          obtain ⟨B4, e4, w4, hrun, ho4, hb4⟩ := app_span (pn, sn) HOX.out HBX.out.size (by rw [HLEN.out]; omega)
          rw [HLEN.out, ← HSNOC.out] at ho4
          rw [HLEN.out] at hrun
          have hbs := build_span (pn, sn) X
          have HO4 := Lib.hid ho4
          have HB4 := Lib.hid (HBX.out.trans hb4)
          clear g1 hcl hcp hlt hr hX b1 a1 hyb hy hpn hsn hsp ho4 hb4 HSNOC
          go_upto_region 12 with (first
           | ((with_reducible show wpList _ _ _ (Oper.mk _ (.load _ _) _ _ _ _ :: _) _ _); refine wl_load_q rfl 83 _ rfl p rfl _ (run_load_q HCP.out Tryz.underlying83 rfl infoDe) ?_)
           | ((with_reducible show wpList _ _ _ (Oper.mk _ (.store _ _ _) _ _ _ _ :: _) _ _); refine wl_store rfl 83 _ _ rfl _ rfl _ rfl (run_store_arr (Arr.new Y _ _ _) (devE y) infoDe (devE_one _ _)) ?_))
          rw [← HX.out, ← HRR.out]
          clear HX HCP HRR
          go_wp2_with (first
           | ((with_reducible show wpList _ _ _ (Oper.mk _ (.build _ _) _ _ _ _ :: _) _ _); refine wl_build rfl 24 _ rfl (vec 2 (spE (pn, sn))) (by kernel_rfl) ?_)
           | ((with_reducible show wpList _ _ _ (Oper.mk _ (.buildSlice _ _ _) _ _ _ _ :: _) _ _); refine wl_bs1 rfl _ rfl (.agg (vec 2 (spE (pn, sn)))) rfl hbs ?_))
          go_roundw
          case rel => exact ⟨m + 1, e4, B4, by omega, by go_num, rfl, HO4, HB4⟩
          case measure => simp [intOf]; omega
        · obtain rfl : m = ND := by omega
          clear hlt0
          have HO2 : Hid (OwnS Y V.heap.size (.slice B3 (k + m) e2) RES) := Lib.hid (by have h := HO.out; rw [HND.out, List.take_length] at h; rw [HR2.out, HND.out]; exact h)
          clear HO
          go_wp2_with fail
          go_ret
          exact HEND.out _ _ _ HO2.out HB.out
end Go.Proofs.YtkaipknkjocfiaaGreat
namespace Go.Proofs.YtkaipknkjocfiaaGreat
open Go.RowKit
attribute [local go_sem ↓ high] zeroCh zeroSp builtin_appS
def spC (c : Ch) : Sp := (c.pa.toNat, c.size.toNat)
end Go.Proofs.YtkaipknkjocfiaaGreat
namespace Go.Proofs.YtkaipknkjocfiaaGreat
open Go.RowKit
abbrev OwnM (w : World) (base : Nat) (v : Value) (l : List Mp) : Prop := OwnE 87 5 mpE w base v l
theorem info_map : (Tryz.prog.info? 87).map (fun i => (i.zero, i.size, i.bytes)) = some (some (.agg (vec 5 (mpE zMp))), 5, 40) := by kernel_rfl
set_option maxRecDepth 100000 in
theorem build_map (x : Mp) (w : World) : (Instr.buildSlice 48 1 #[(0, .agg (vec 5 (mpE x)))]).run Tryz.prog w = .ok (.slice (some ⟨w.heap.size, 0, none⟩) 1 1) (w.alloc (.cells (vec 5 (mpE x)) 87)) := by
 obtain ⟨i0, hi, hz0, hz1, hz2⟩ := info_parts info_map
 refine run_buildSlice (P := Tryz.prog) w 48 87 1 _ _ i0 (.agg (vec 5 (mpE zMp))) Tryz.underlying48 hi hz0 (by rw [hz1]; decide) (by rw [hz1]; decide) ?_
 rw [hz1]
 kernel_rfl
theorem ow_bsM {o : Oper} {a : Act} {w w' : World} {K : Act → World → Prop} {Q : Exit → Act → World → Prop} (t : TypeId) (x : Operand) (ho : o.op = .buildSlice t 1 #[(0, x)]) (v0 : Value) (hy : a.eval x = v0) {v : Value} (hr : (Instr.buildSlice t 1 #[(0, v0)]).run Tryz.prog w = .ok v w') (h : K (a.put o.dst v) w') : o.wp Tryz.prog a w K Q := by
 unfold Oper.wp execOp
 subst hy
 simp only [ho, Sem.run_bind, List.map_toArray, List.map_cons, List.map_nil, hr, Result.andThen_ok, Sem.run_pure]
 exact h
theorem ow_app {P : Program} {w w' : World} {o : Oper} {a : Act} {K : Act → World → Prop} {Q : Exit → Act → World → Prop} (s x : Operand) (t : TypeId) (ho : o.op = .call { callee := .builtin .append, args := #[s, x], argTypes := #[t, t] }) (v u : Value) (hs : a.eval s = v) (hx : a.eval x = u) {v' : Value}
  (hr : (Builtin.append_ #[t, t] o.type #[v, u]).run P w = .ok v' w') (h : K (a.put o.dst v') w') : o.wp P a w K Q := by
 unfold Oper.wp execOp
 simp only [ho, resolve, invoke, builtin, Sem.run_bind, Sem.run_pure, Result.andThen_ok, List.map_toArray, List.map_cons, List.map_nil, hs, hx, hr]
 exact h
end Go.Proofs.YtkaipknkjocfiaaGreat
namespace Go.Proofs.YtkaipknkjocfiaaGreat
open Go.RowKit
attribute [local go_sem ↓ high] zeroMp
theorem RowE.take {w : World} {B : Nat} {a : Addr} {l : List Mp} (h : RowE 5 mpE w B (some a) l) (k : Nat) : RowE 5 mpE w B (some a) (l.take k) := fun hne => by
 have hl : l ≠ [] := fun e => hne (by rw [e]; exact List.take_nil)
 obtain ⟨a', e, hb, hc⟩ := h hl
 refine ⟨a', e, hb, fun j hj i hi => ?_⟩
 rw [List.length_take] at hj
 rw [List.getElem_take]
 exact hc j (by omega) i hi
def cut5 (a : Addr) (c k : Nat) : Addr := if c = k then a else a.add (k * 5)
theorem RowE.drop {w : World} {B : Nat} {a : Addr} {l : List Mp} {c k : Nat} (h : RowE 5 mpE w B (some a) l) (hc : l.length ≤ c) : RowE 5 mpE w B (some (cut5 a c k)) (l.drop k) := fun hne => by
 have hkl : k < l.length := by
  by_cases hh : k < l.length
  · exact hh
  · exact absurd (List.drop_eq_nil_of_le (by omega)) hne
 obtain ⟨a', e, hb, hcc⟩ := h (fun e => by rw [e] at hkl; cases hkl)
 injection e with e
 subst e
 unfold cut5
 rw [if_neg (by omega)]
 refine ⟨_, rfl, by rw [addr_add_block]; exact hb, fun j hj i hi => ?_⟩
 rw [List.length_drop] at hj
 rw [addr_add_add, List.getElem_drop]
 have := hcc (k + j) (by omega) i hi
 rw [show k * 5 + (j * 5 + i) = (k + j) * 5 + i by omega]
 exact this
end Go.Proofs.YtkaipknkjocfiaaGreat
namespace Go.Proofs.YtkaipknkjocfiaaGreat
open Go.RowKit
attribute [local go_sem ↓ high] zeroWi zeroDe zeroCh zeroEn zeroMp zeroSp
theorem flat_lenC (gi : Int) : ∀ l : List Ch, (l.flatMap (chM gi)).length ≤ 2 * l.length
 | [] => by simp
 | c :: l => by
  rw [List.flatMap_cons, List.length_append, List.length_cons]
  have h := flat_lenC gi l
  have h2 := chM_len gi c
  have h3 : (chM gi c).length ≤ 2 := by rw [h2]; split <;> split <;> omega
  omega
theorem u64BZ {z : Int} (h : u64B z) : u64Z z := by unfold u64B at h; unfold u64Z; omega
theorem parts_B {t : Gs} {chs : List Ch} {g : Int} (hw : ∀ y ∈ t.wins, WiB y) (hd : ∀ y ∈ t.devs, DeB y) (hc : ∀ y ∈ chs, ChB y) : ∀ y ∈ sortP (partsP t chs g), MpB y := fun y hy => by
 have hy := (sortP_perm _).mem_iff.1 hy
 unfold partsP at hy
 rcases List.mem_append.1 hy with h | h
 · obtain ⟨z, hz, rfl⟩ := List.mem_map.1 h
   exact ⟨u64BZ (hw z hz).1, u64BZ (hw z hz).2.1, u64BZ (hw z hz).2.2.1⟩
 rcases List.mem_append.1 h with h | h
 · obtain ⟨z, hz, rfl⟩ := List.mem_map.1 h
   exact ⟨u64BZ (hd z hz).1, u64BZ (hd z hz).2.1, u64BZ (hd z hz).2.2⟩
 · obtain ⟨z, hz, h⟩ := List.mem_flatMap.1 h
   have hb := hc z hz
   unfold chM at h
   rcases List.mem_append.1 h with h | h
   · split at h
     · obtain rfl := List.mem_singleton.1 h
       exact ⟨u64BZ hb.2.2.1.2.2, u64BZ hb.1, u64BZ hb.2.1⟩
     · cases h
   · split at h
     · obtain rfl := List.mem_singleton.1 h
       exact ⟨u64BZ hb.2.2.2.2.2, u64BZ hb.1, u64BZ hb.2.1⟩
     · cases h
set_option maxRecDepth 100000 in
theorem indexA (a b : En) (w : World) : (Instr.index 45 (.agg (vec 6 (twoE a b))) (.int .i64 0)).run Tryz.prog w = .ok (.agg (vec 3 (endE a))) w := by kernel_rfl
set_option maxRecDepth 100000 in
theorem indexB (a b : En) (w : World) : (Instr.index 45 (.agg (vec 6 (twoE a b))) (.int .i64 1)).run Tryz.prog w = .ok (.agg (vec 3 (endE b))) w := by kernel_rfl
theorem infoTw : (Tryz.prog.info? 45).map (·.size) = some 6 := by kernel_rfl
theorem add_atM (b o i : Nat) : ((⟨b, o, none⟩ : Addr).add i) = ⟨b, o + i, none⟩ := by simp [Addr.add]
end Go.Proofs.YtkaipknkjocfiaaGreat
namespace Go.Proofs.YtkaipknkjocfiaaGreat
open Go.RowKit
end Go.Proofs.YtkaipknkjocfiaaGreat
namespace Go.Proofs.YtkaipknkjocfiaaGreat
open Go.RowKit
attribute [local go_sem ↓ high] zeroCf
def MapsC (r : Except Nat (List Mp)) (w : World) (e : Ending) (w' : World) : Prop := match r with
 | .error n => ∃ A c, e = .returned (.tuple #[.slice A 0 c, .int .i64 (n : Nat)]) ∧ Below w.heap.size w w'
 | .ok l => ∃ v, e = .returned (.tuple #[v, .int .i64 0]) ∧ OwnM w' w.heap.size v l ∧ Below w.heap.size w w'
def CodeMaps : Prop := ∀ (x : Cf) (a c : Value) (g : Int) (w : World), CfR w w.heap.size x a c → CfB x → fewC x = true → Calls Tryz.prog 56 #[cfVal x a c, .int .i64 g] w (MapsC (mapsP x g) w)
end Go.Proofs.YtkaipknkjocfiaaGreat
namespace Go.Proofs.YtkaipknkjocfiaaGreat
open Go.RowKit
end Go.Proofs.YtkaipknkjocfiaaGreat
namespace Go.Proofs.YtkaipknkjocfiaaGreat
open Go.RowKit
attribute [local go_sem ↓ high] zeroCf
def CodePhys : Prop := ∀ (x : Cf) (a c : Value) (g : Int) (w : World), CfR w w.heap.size x a c → CfB x → fewC x = true → Calls Tryz.prog 53 #[cfVal x a c, .int .i64 g] w (SpansP (physG x g) w)
theorem guestAt_is {x : Cf} {g : Int} {t : Gs} (h : guestAt x g = some t) : t ∈ x.gs := by
 unfold guestAt at h
 split at h
 · cases h
 · exact List.mem_of_getElem? h
theorem physG_len {x : Cf} (g : Int) (hf : fewC x = true) : (physG x g).length ≤ 1000000 := by
 unfold physG
 cases h : guestAt x g with
 | none => simp
 | some t =>
  obtain ⟨-, -, hfa⟩ := few_gs hf
  have hfew := gFew_iff (hfa _ (guestAt_is h))
  simp only
  rw [physP_is, List.length_append, List.length_map, List.length_map]
  have := hfew.1
  have := hfew.2.1
  omega
theorem RowE.row {w : World} {B : Nat} {A : Option Addr} {l : List Sp} (h : RowE 2 spE w B A l) : Row w B A l := fun hne => by
 obtain ⟨a, rfl, hb, hc⟩ := h hne
 exact ⟨a, rfl, hb, fun j hj => ⟨hc j hj 0 (by decide), hc j hj 1 (by decide)⟩⟩
end Go.Proofs.YtkaipknkjocfiaaGreat
namespace Go.Proofs.YtkaipknkjocfiaaGreat
open Go.RowKit
attribute [local go_sem ↓ high] zeroSp
theorem physG_fit {x : Cf} (hb : CfB x) (g : Int) : ∀ s ∈ physG x g, fit s := by
 unfold physG
 cases h : guestAt x g with
 | none => intro s hs; cases hs
 | some t =>
  have ht := hb.gs t (guestAt_is h)
  simp only
  rw [physP_is]
  intro s hs
  rcases List.mem_append.1 hs with h | h
  · obtain ⟨y, hy, rfl⟩ := List.mem_map.1 h
    have := ht.wins y hy
    exact ⟨(u64Z_nat (u64BZ this.2.1)).2, (u64Z_nat (u64BZ this.2.2.1)).2⟩
  · obtain ⟨y, hy, rfl⟩ := List.mem_map.1 h
    have := ht.devs y hy
    exact ⟨(u64Z_nat (u64BZ this.2.1)).2, (u64Z_nat (u64BZ this.2.2)).2⟩
def ownedB (x : Cf) (g : Nat) : Bool := !clashB (physG x g) && (List.range g).all fun (i : Nat) => (List.range (physG x g).length).all fun j => !olapsB ((physG x g).getD j (0, 0)) (physG x i)
end Go.Proofs.YtkaipknkjocfiaaGreat
namespace Go.Proofs.YtkaipknkjocfiaaGreat
open Go.RowKit
def ipaW (y : Wi) : Sp := (y.ipa.toNat, y.size.toNat)
def winB (b : Bd) (y : Wi) : Bool := pageB y.ipa y.size && (paged (spW y) && (decide (y.perm ≠ 0) && (within (spW y) b.r && !overlap (spW y) b.l)))
def devB (b : Bd) (y : De) : Bool := pageB y.ipa y.size && (pageB y.pa y.size && !overlap (spD y) b.r)
def bitB (n : Int) (k : Nat) : Bool := decide (n / 2 ^ k % 2 = 1)
def entryB (t : Gs) : Bool := match t.wins with
 | [] => false
 | y :: _ => decide (t.entry % 4 = 0) && (has (ipaW y) t.entry.toNat && (bitB y.perm 0 && bitB y.perm 2))
def dtbW (t : Gs) (y : Wi) : Bool := has (ipaW y) t.dtb.toNat && (decide (16384 ≤ y.size.toNat - (t.dtb.toNat - y.ipa.toNat)) && bitB y.perm 0)
def dtbB (t : Gs) : Bool := decide (t.dtb = 0) || ((t.wins.drop 1).any (dtbW t) && decide (t.dtb % 4096 = 0))
def roomsP (b : Bd) (x : Cf) (g : Nat) (s : Nat × Nat) : Nat × Nat := match x.gs[g]? with
 | none => s
 | some t => mustP (dtbB t) 7 g (mustP (entryB t) 6 g (mustP (t.devs.all (devB b)) 5 g (mustP (t.wins.all (winB b)) 4 g s)))
def irqB (b : Bd) (t : Gs) (q : Ir) : Bool := decide (32 ≤ q.number) && (decide (q.number < b.irqs) && (decide (0 ≤ q.cpu) && (decide (q.cpu ≤ 31) && bitB t.cpus q.cpu.toNat)))
def onceB {α : Type} [BEq α] (ls : List (List α)) (g i : Nat) (v : α) : Bool := (List.range (g + 1)).all fun k => (List.range (ls.getD k []).length).all fun j => (decide (k = g) && decide (i ≤ j)) || !((ls.getD k [])[j]? == some v)
def irqsB (b : Bd) (x : Cf) (g : Nat) (t : Gs) : Bool := (List.range t.irqs.length).all fun i => match t.irqs[i]? with
 | none => true
 | some q => irqB b t q && onceB (x.gs.map fun u => u.irqs.map Ir.number) g i q.number
def strsB (b : Bd) (x : Cf) (g : Nat) (t : Gs) : Bool := (List.range t.strs.length).all fun i => match t.strs[i]? with
 | none => true
 | some q => decide (q < b.strs) && onceB (x.gs.map Gs.strs) g i q
def linesP (b : Bd) (x : Cf) (g : Nat) (s : Nat × Nat) : Nat × Nat := match x.gs[g]? with
 | none => s
 | some t => mustP (strsB b x g t) 9 g (mustP (irqsB b x g t) 8 g s)
def chanB (b : Bd) (x : Cf) (k : Nat) (y : Ch) : Bool := (paged (spC y) && (within (spC y) b.r && !overlap (spC y) b.l)) && ((x.gs.all fun t => t.wins.all fun v => !overlap (spC y) (spW v)) && (x.chs.take k).all fun u => !overlap (spC y) (spC u))
def endB (x : Cf) (y : Ch) (e : En) : Bool := decide (0 ≤ e.guest) && (decide (e.guest < (x.gs.length : Int)) && (decide (1 ≤ e.perm) && (decide (e.perm ≤ 3) && pageB e.ipa y.size)))
def chanP (b : Bd) (x : Cf) (k : Nat) (s : Nat × Nat) : Nat × Nat := match x.chs[k]? with
 | none => s
 | some y => mustP (decide (y.a.guest ≠ y.b.guest) && (endB x y y.a && endB x y y.b)) 12 k (mustP (chanB b x k y) 11 k s)
def fitB (b : Bd) : Bool := fitE b.r.1 b.r.2 b.l.1 b.l.2 b.irqs b.strs b.cpus == 0
def nameB (x : Cf) (i : Nat) : Bool := (List.range i).all fun k => !nmEq (x.gs.getD i zGV.g).name (x.gs.getD k zGV.g).name
def mapsB (x : Cf) (g : Nat) : Bool := match mapsP x (g : Int) with
 | .ok _ => true
 | .error _ => false
def guestP (b : Bd) (x : Cf) (g : Nat) (s : Nat × Nat) : Nat × Nat := mustP (ownedB x g) 10 g (linesP b x g (roomsP b x g (mustP (cpusB b x g) 3 g s)))
def upto (n : Nat) (f : Nat → Nat × Nat → Nat × Nat) (s : Nat × Nat) : Nat × Nat := (List.range n).foldl (fun s i => f i s) s
theorem upto_succ (n : Nat) (f : Nat → Nat × Nat → Nat × Nat) (s : Nat × Nat) : upto (n + 1) f s = f n (upto n f s) := by unfold upto; rw [List.range_succ, List.foldl_append]; rfl
def headP (b : Bd) (x : Cf) : Nat × Nat := mustP (decide (errP x = 0)) 2 0 (mustP (fitB b) 1 0 (0, 0))
def bodyP (b : Bd) (x : Cf) : Nat × Nat := upto x.gs.length (fun g => mustP (mapsB x g) 13 g) (upto x.chs.length (chanP b x) (upto x.gs.length (guestP b x) (upto x.gs.length (fun i => mustP (nameB x i) 2 i) (headP b x))))
def checkP (b : Bd) (x : Cf) : Nat × Nat × Nat := if (headP b x).1 ≠ 0 then ((headP b x).1, (headP b x).2, 170) else if (bodyP b x).1 ≠ 0 then ((bodyP b x).1, (bodyP b x).2, 170) else (0, 0, 0)
end Go.Proofs.YtkaipknkjocfiaaGreat
