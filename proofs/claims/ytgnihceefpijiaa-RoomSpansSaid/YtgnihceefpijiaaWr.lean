/- Merged: Rph, Rsh. -/
import Derived.Test.YtgnihceefpijiaaRcf
/- The reference's Physical: the spans of a guest's windows and devices. -/
namespace Go.Proofs.Ytgnihceefpijiaa
open Go.RowKit
attribute [local go_sem ↓ high] zeroWi zeroDe zeroSp builtin_appS

def spW (x : Wi) : Sp := (x.pa.toNat, x.size.toNat)
def spD (x : De) : Sp := (x.pa.toNat, x.size.toNat)
theorem physP_is (t : Gs) : physP t = t.wins.map spW ++ t.devs.map spD := rfl
theorem take_snoc_map {α β : Type} (f : α → β) (l : List α) (k : Nat) (h : k < l.length) : (l.take (k + 1)).map f = (l.take k).map f ++ [f l[k]] := by
  rw [List.take_succ_eq_append_getElem h, List.map_append]; rfl
def physG (x : Cf) (g : Int) : List Sp := match guestAt x g with
  | none => []
  | some t => physP t
theorem guestAt_no {x : Cf} {g : Int} (h : g < 0 ∨ (x.gs.length : Int) ≤ g) : guestAt x g = none := by
  unfold guestAt
  by_cases h0 : g < 0
  · rw [if_pos h0]
  · rw [if_neg h0, List.getElem?_eq_none (by omega)]
theorem guestAt_yes {x : Cf} {i : Nat} (h : i < x.gs.length) : guestAt x (i : Int) = some x.gs[i] := by
  unfold guestAt
  rw [if_neg (by omega), Int.toNat_natCast, List.getElem?_eq_getElem h]
set_option maxHeartbeats 2000000 in
set_option maxRecDepth 100000 in
theorem rphys_any (x : Cf) (a c : Value) (g : Int) (w : World) (hx : CfR w w.heap.size x a c) (hb : CfB x) (hf : fewC x = true) : Calls Try.prog 18 #[cfVal x a c, .int .i64 g] w (SpansP (physG x g) w) := by
  obtain ⟨q0, hq0⟩ : ∃ q, q = w.heap.size := ⟨_, rfl⟩
  obtain ⟨V, hV⟩ : ∃ V, V = w.alloc (.cells (vec 3 (cfE x.ver a c)) 26) := ⟨_, rfl⟩
  have k1 : Arr V q0 26 3 (cfE x.ver a c) := by rw [hV, hq0]; exact Arr.new w _ _ _
  have hB : Below w.heap.size w V := by rw [hV]; exact (Below.refl _ _).alloc (Nat.le_refl _) _
  obtain ⟨hfg, hfc, hfa⟩ := few_gs hf
  obtain ⟨A, d, A2, d2, rfl, rfl, hch, hgu⟩ := cf_guest (hx.up hB)
  obtain ⟨x0, x1, x2⟩ := cf_cells k1
  obtain ⟨N, hN⟩ : ∃ N, N = x.gs.length := ⟨_, rfl⟩
  obtain ⟨M, hM⟩ : ∃ M, M = x.chs.length := ⟨_, rfl⟩
  unfold cfVal
  rw [← hN] at x1 hV ⊢
  rw [← hM] at x2 hV ⊢
  rw [← hN, ← hM] at k1
  have hNb : N ≤ 20 := by rw [hN]; exact hfg
  have hMb : M ≤ 40 := by rw [hM]; exact hfc
  have HW := Lib.hid hV
  have HQ := Lib.hid hq0
  have HB0 := Lib.hid hB
  have HCELL : Hid (∀ Y, Below V.heap.size V Y → Y.cell? ⟨q0, 1, none⟩ = some (.slice A N d) ∧ Y.cell? ⟨q0, 2, none⟩ = some (.slice A2 M d2)) := Lib.hid (fun Y hY => by
    have h := k1.under hY
    exact ⟨h.cell (i := 1) (by decide), h.cell (i := 2) (by decide)⟩)
  have HEND : Hid (∀ v W L, OwnS W V.heap.size v L → Below V.heap.size V W → SpansP L w (.returned v) W) := Lib.hid (fun v W L h1 h2 => ⟨v, rfl, h1.low hB.size, hB.trans (h2.mono hB.size)⟩)
  by_cases hno : g < 0 ∨ (x.gs.length : Int) ≤ g
  · have hg0 : physG x g = [] := by unfold physG; rw [guestAt_no hno]
    rw [hg0]
    have HE := Lib.hid (HEND.out (.slice none 0 0) V [] (OwnE.nil _ _) (Below.refl _ _))
    have y1 := (HCELL.out V (Below.refl _ _)).1
    rw [← hN] at hno
    clear hgu hch hV k1 hB hx hb hf hfg hfc hfa x0 x1 x2 hN hM hq0 hg0 HEND HCELL
    by_cases h0 : g < 0
    · clear hno
      go_enter Try.func18, Try.ntmps18
      go_upto_region 1 with fail
      rw [← HW.out, ← HQ.out]
      clear HW
      go_wp2_with fail
      go_ret
      exact HE.out
    · have h1 : (N : Int) ≤ g := by omega
      clear hno
      go_enter Try.func18, Try.ntmps18
      go_upto_region 1 with fail
      rw [← HW.out, ← HQ.out]
      clear HW
      go_wp2_with fail
      go_ret
      exact HE.out
  · obtain ⟨i, rfl⟩ := Int.eq_ofNat_of_zero_le (show 0 ≤ g by omega)
    have hi : i < x.gs.length := by omega
    have hpg : physG x (i : Int) = x.gs[i].wins.map spW ++ x.gs[i].devs.map spD := by
      unfold physG
      rw [guestAt_yes hi]
      exact physP_is _
    rw [hpg]
    obtain ⟨a0, q, A1, e1, A3, e3, rfl, hq, hcell⟩ := hgu i hi
    have hgb := hb.gs _ (List.getElem_mem hi)
    have hfew := gFew_iff (hfa _ (List.getElem_mem hi))
    obtain ⟨lw, hlw⟩ : ∃ l, l = x.gs[i].wins := ⟨_, rfl⟩
    obtain ⟨ld, hld⟩ : ∃ l, l = x.gs[i].devs := ⟨_, rfl⟩
    have hwb : ∀ y ∈ lw, WiB y := by rw [hlw]; exact hgb.wins
    have hdb : ∀ y ∈ ld, DeB y := by rw [hld]; exact hgb.devs
    have hwl : lw.length ≤ 20 := by rw [hlw]; exact hfew.1
    have hdl : ld.length ≤ 20 := by rw [hld]; exact hfew.2.1
    rw [← hlw, ← hld] at hcell ⊢
    obtain ⟨NW, hNW⟩ : ∃ n, n = lw.length := ⟨_, rfl⟩
    obtain ⟨ND, hND⟩ : ∃ n, n = ld.length := ⟨_, rfl⟩
    have hNWb : NW ≤ 20 := by rw [hNW]; exact hwl
    have hNDb : ND ≤ 20 := by rw [hND]; exact hdl
    rw [← hNW, ← hND] at hcell
    have HG := Lib.hid hcell
    have HWB := Lib.hid hwb
    have HDB := Lib.hid hdb
    have HNW := Lib.hid hNW
    have HND := Lib.hid hND
    obtain ⟨RES, hRES⟩ : ∃ l, l = lw.map spW ++ ld.map spD := ⟨_, rfl⟩
    have HRES := Lib.hid hRES
    rw [← hRES]
    have hiN : (i : Int) < (N : Int) := by omega
    have hiN2 : i < N := by omega
    have hi0 : ¬ (i : Int) < 0 := by omega
    have hiG : ¬ (N : Int) ≤ (i : Int) := by omega
    have y1 := (HCELL.out V (Below.refl _ _)).1
    obtain ⟨⟨z1, z2⟩, -⟩ := hcell V (Below.refl _ _)
    clear hgu hch hV k1 hB hx hb hf hfg hfc hfa x0 x1 x2 hN hM hq0 hno hpg hcell hgb hfew hlw hld hwb hdb hwl hdl hNW hND hRES hi
    go_enter Try.func18, Try.ntmps18
    go_upto_region 1 with fail
    rw [← HW.out, ← HQ.out]
    clear HW
    go_upto_region 3 with fail
    clear hiG
    go_wp2_with fail
    clear z1 z2
    go_loopw [5, 26] (fun s v W => ∃ (k e : Nat) (B : Option Addr), k ≤ NW ∧ v = .int .i64 k ∧ s = .slice B k e ∧ Hid (OwnS W V.heap.size (.slice B k e) ((lw.take k).map spW)) ∧ Hid (Below V.heap.size V W)) (fun _ v _ => NW - (intOf v).toNat)
    case atStart => exact ⟨0, 0, none, Nat.zero_le _, rfl, rfl, Lib.hid (OwnE.nil _ _), Lib.hid (Below.refl _ _)⟩
    case round =>
      obtain ⟨k, e, B, hk, rfl, rfl, HO, HB⟩ := hrel
      obtain ⟨W, hW⟩ : ∃ W : World, W = wr := ⟨_, rfl⟩
      subst hW
      by_cases hlt0 : k < NW
      · have hlt : k < lw.length := by have := HNW.out; omega
        have g1 := (HG.out W HB.out).2.1
        have hcl := HG.out W HB.out
        obtain ⟨b0, p, ea, hp, -, hcp⟩ := g1.at hlt
        obtain ⟨y, hy⟩ : ∃ y, y = lw[k] := ⟨_, rfl⟩
        rw [← hy] at hcp
        have hyb := HWB.out y (by rw [hy]; exact List.getElem_mem _)
        obtain ⟨pn, hpn⟩ := Int.eq_ofNat_of_zero_le hyb.2.1.1
        obtain ⟨sn, hsn⟩ := Int.eq_ofNat_of_zero_le hyb.2.2.1.1
        have hsp : spW y = (pn, sn) := by unfold spW; rw [hpn, hsn]; rfl
        have HSNOC : Hid ( (lw.take (k + 1)).map spW = ( (lw.take k).map spW) ++ [(pn, sn)]) := Lib.hid (by rw [take_snoc_map spW lw k hlt, ← hy, hsp]; try rw [List.append_assoc])
        have hki : (k : Int) < (NW : Int) := by omega
        obtain ⟨r, hr⟩ : ∃ r, r = W.heap.size := ⟨_, rfl⟩
        obtain ⟨X, hX⟩ : ∃ X, X = (W.alloc (.cells (vec 4 (winE zWi)) 64)).setRow W.heap.size (vec 4 (winE y)) := ⟨_, rfl⟩
        have b1 : Below W.heap.size W X := by rw [hX]; exact below_row ((Below.refl _ _).alloc (Nat.le_refl _) _) (Nat.le_refl _) _
        have a1 : Arr X r 64 4 (winE y) := by rw [hX, hr]; exact (Arr.new W _ _ _).row _
        have HBX := Lib.hid (HB.out.trans (b1.mono HB.out.size))
        have HOX := Lib.hid (OwnE.on HO.out b1 (Nat.le_refl _))
        have HLEN : Hid (( (lw.take k).map spW).length = k) := Lib.hid (by rw [List.length_map, List.length_take]; omega)
        have HCP := Lib.hid hcp
        have HX := Lib.hid hX
        have HRR := Lib.hid hr
        have c1 : X.cell? ⟨r, 1, none⟩ = some (.int .u64 (pn : Int)) := by rw [← hpn]; exact a1.cell (i := 1) (by decide)
        have c2 : X.cell? ⟨r, 2, none⟩ = some (.int .u64 (sn : Int)) := by rw [← hsn]; exact a1.cell (i := 2) (by decide)
        subst ea
        obtain ⟨B4, e4, w4, hrun, ho4, hb4⟩ := app_span (pn, sn) HOX.out HBX.out.size (by rw [HLEN.out]; omega)
        rw [HLEN.out, ← HSNOC.out] at ho4
        rw [HLEN.out] at hrun
        have hbs := build_span (pn, sn) X
        have HO4 := Lib.hid ho4
        have HB4 := Lib.hid (HBX.out.trans hb4)
        clear g1 hcl hcp hlt hr hX b1 a1 hyb hy hpn hsn hsp ho4 hb4 HSNOC
        go_upto_region 7 with (first
          | ((with_reducible show wpList _ _ _ (Oper.mk _ (.load _ _) _ _ _ _ :: _) _ _); refine wl_load_q rfl 64 _ rfl p rfl _ (run_load_q HCP.out Try.underlying64 rfl infoWi) ?_)
          | ((with_reducible show wpList _ _ _ (Oper.mk _ (.store _ _ _) _ _ _ _ :: _) _ _); refine wl_store rfl 64 _ _ rfl _ rfl _ rfl (run_store_arr (Arr.new W _ _ _) (winE y) infoWi (winE_one _ _)) ?_))
        rw [← HX.out, ← HRR.out]
        clear HX HCP HRR
        go_wp2_with (first
          | ((with_reducible show wpList _ _ _ (Oper.mk _ (.build _ _) _ _ _ _ :: _) _ _); refine wl_build rfl 49 _ rfl (vec 2 (spE (pn, sn))) (by kernel_rfl) ?_)
          | ((with_reducible show wpList _ _ _ (Oper.mk _ (.buildSlice _ _ _) _ _ _ _ :: _) _ _); refine wl_bs1 rfl _ rfl (.agg (vec 2 (spE (pn, sn)))) rfl hbs ?_))
        go_roundw
        case rel => exact ⟨k + 1, e4, B4, by omega, by go_num, rfl, HO4, HB4⟩
        case measure => simp [intOf]; omega
      · obtain rfl : k = NW := by omega
        clear hlt0
        obtain ⟨⟨z1, z2⟩, -⟩ := HG.out W HB.out
        have y1 := (HCELL.out W HB.out).1
        go_wp2_with fail
        clear z1 z2 y1
        obtain ⟨PW, hPW⟩ : ∃ l, l = lw.map spW := ⟨_, rfl⟩
        have HOW : Hid (OwnS W V.heap.size (.slice B k e) PW) := Lib.hid (by rw [hPW]; have h := HO.out; rw [HNW.out, List.take_length] at h; rw [HNW.out]; exact h)
        have HR2 : Hid (RES = PW ++ ld.map spD) := Lib.hid (by rw [hPW]; exact HRES.out)
        have HPL : Hid (PW.length = k) := Lib.hid (by rw [hPW, List.length_map]; exact HNW.out.symm)
        clear hPW HO
        go_loopw [5, 46] (fun s v Y => ∃ (m e2 : Nat) (B3 : Option Addr), m ≤ ND ∧ v = .int .i64 m ∧ s = .slice B3 (k + m) e2 ∧ Hid (OwnS Y V.heap.size (.slice B3 (k + m) e2) (PW ++ (ld.take m).map spD)) ∧ Hid (Below V.heap.size V Y)) (fun _ v _ => ND - (intOf v).toNat)
        case atStart => exact ⟨0, e, B, Nat.zero_le _, rfl, rfl, Lib.hid (by rw [List.take_zero, List.map_nil, List.append_nil]; exact HOW.out), HB⟩
        case round =>
          obtain ⟨m, e2, B3, hm, rfl, rfl, HO, HB⟩ := hrel
          obtain ⟨Y, hY⟩ : ∃ Y : World, Y = wr := ⟨_, rfl⟩
          subst hY
          by_cases hlt0 : m < ND
          · have hlt : m < ld.length := by have := HND.out; omega
            have g1 := (HG.out Y HB.out).2.2
            have hcl := HG.out Y HB.out
            obtain ⟨b0, p, ea, hp, -, hcp⟩ := g1.at hlt
            obtain ⟨y, hy⟩ : ∃ y, y = ld[m] := ⟨_, rfl⟩
            rw [← hy] at hcp
            have hyb := HDB.out y (by rw [hy]; exact List.getElem_mem _)
            obtain ⟨pn, hpn⟩ := Int.eq_ofNat_of_zero_le hyb.2.1.1
            obtain ⟨sn, hsn⟩ := Int.eq_ofNat_of_zero_le hyb.2.2.1
            have hsp : spD y = (pn, sn) := by unfold spD; rw [hpn, hsn]; rfl
            have HSNOC : Hid (PW ++  (ld.take (m + 1)).map spD = (PW ++  (ld.take m).map spD) ++ [(pn, sn)]) := Lib.hid (by rw [take_snoc_map spD ld m hlt, ← hy, hsp]; try rw [List.append_assoc])
            have hki : (m : Int) < (ND : Int) := by omega
            obtain ⟨r, hr⟩ : ∃ r, r = Y.heap.size := ⟨_, rfl⟩
            obtain ⟨X, hX⟩ : ∃ X, X = (Y.alloc (.cells (vec 3 (devE zDe)) 72)).setRow Y.heap.size (vec 3 (devE y)) := ⟨_, rfl⟩
            have b1 : Below Y.heap.size Y X := by rw [hX]; exact below_row ((Below.refl _ _).alloc (Nat.le_refl _) _) (Nat.le_refl _) _
            have a1 : Arr X r 72 3 (devE y) := by rw [hX, hr]; exact (Arr.new Y _ _ _).row _
            have HBX := Lib.hid (HB.out.trans (b1.mono HB.out.size))
            have HOX := Lib.hid (OwnE.on HO.out b1 (Nat.le_refl _))
            have HLEN : Hid ((PW ++  (ld.take m).map spD).length = k + m) := Lib.hid (by rw [List.length_append, List.length_map, List.length_take, HPL.out]; omega)
            have HCP := Lib.hid hcp
            have HX := Lib.hid hX
            have HRR := Lib.hid hr
            have c1 : X.cell? ⟨r, 1, none⟩ = some (.int .u64 (pn : Int)) := by rw [← hpn]; exact a1.cell (i := 1) (by decide)
            have c2 : X.cell? ⟨r, 2, none⟩ = some (.int .u64 (sn : Int)) := by rw [← hsn]; exact a1.cell (i := 2) (by decide)
            subst ea
            obtain ⟨B4, e4, w4, hrun, ho4, hb4⟩ := app_span (pn, sn) HOX.out HBX.out.size (by rw [HLEN.out]; omega)
            rw [HLEN.out, ← HSNOC.out] at ho4
            rw [HLEN.out] at hrun
            have hbs := build_span (pn, sn) X
            have HO4 := Lib.hid ho4
            have HB4 := Lib.hid (HBX.out.trans hb4)
            clear g1 hcl hcp hlt hr hX b1 a1 hyb hy hpn hsn hsp ho4 hb4 HSNOC
            go_upto_region 12 with (first
              | ((with_reducible show wpList _ _ _ (Oper.mk _ (.load _ _) _ _ _ _ :: _) _ _); refine wl_load_q rfl 72 _ rfl p rfl _ (run_load_q HCP.out Try.underlying72 rfl infoDe) ?_)
              | ((with_reducible show wpList _ _ _ (Oper.mk _ (.store _ _ _) _ _ _ _ :: _) _ _); refine wl_store rfl 72 _ _ rfl _ rfl _ rfl (run_store_arr (Arr.new Y _ _ _) (devE y) infoDe (devE_one _ _)) ?_))
            rw [← HX.out, ← HRR.out]
            clear HX HCP HRR
            go_wp2_with (first
              | ((with_reducible show wpList _ _ _ (Oper.mk _ (.build _ _) _ _ _ _ :: _) _ _); refine wl_build rfl 49 _ rfl (vec 2 (spE (pn, sn))) (by kernel_rfl) ?_)
              | ((with_reducible show wpList _ _ _ (Oper.mk _ (.buildSlice _ _ _) _ _ _ _ :: _) _ _); refine wl_bs1 rfl _ rfl (.agg (vec 2 (spE (pn, sn)))) rfl hbs ?_))
            go_roundw
            case rel => exact ⟨m + 1, e4, B4, by omega, by go_num, rfl, HO4, HB4⟩
            case measure => simp [intOf]; omega
          · obtain rfl : m = ND := by omega
            clear hlt0
            have HO2 : Hid (OwnS Y V.heap.size (.slice B3 (k + m) e2) RES) := Lib.hid (by have h := HO.out; rw [HND.out, List.take_length] at h; rw [HR2.out, HND.out]; exact h)
            clear HO
            go_wp2_with fail
            go_ret
            exact HEND.out _ _ _ HO2.out HB.out
end Go.Proofs.Ytgnihceefpijiaa
/- The reference's Shared: the spans of the channels that name a guest. -/
namespace Go.Proofs.Ytgnihceefpijiaa
open Go.RowKit
attribute [local go_sem ↓ high] zeroCh zeroSp builtin_appS

def spC (c : Ch) : Sp := (c.pa.toNat, c.size.toNat)
theorem sharedP_is (l : List Ch) (g : Int) : sharedP l g = (l.filter (namesC g)).map spC := rfl
def sharedG (x : Cf) (g : Int) : List Sp := match guestAt x g with
  | none => []
  | some _ => sharedP x.chs g
theorem take_filter {α β : Type} (p : α → Bool) (f : α → β) (l : List α) (k : Nat) (h : k < l.length) : ((l.take (k + 1)).filter p).map f = ((l.take k).filter p).map f ++ (if p l[k] = true then [f l[k]] else []) := by
  rw [List.take_succ_eq_append_getElem h, List.filter_append, List.map_append]
  by_cases hp : p l[k] = true
  · rw [if_pos hp]; simp [hp]
  · rw [if_neg hp]; simp [hp]
set_option maxHeartbeats 2000000 in
set_option maxRecDepth 100000 in
theorem rshared_any (x : Cf) (a c : Value) (g : Int) (w : World) (hx : CfR w w.heap.size x a c) (hb : CfB x) (hf : fewC x = true) : Calls Try.prog 20 #[cfVal x a c, .int .i64 g] w (SpansP (sharedG x g) w) := by
  obtain ⟨q0, hq0⟩ : ∃ q, q = w.heap.size := ⟨_, rfl⟩
  obtain ⟨V, hV⟩ : ∃ V, V = w.alloc (.cells (vec 3 (cfE x.ver a c)) 26) := ⟨_, rfl⟩
  have k1 : Arr V q0 26 3 (cfE x.ver a c) := by rw [hV, hq0]; exact Arr.new w _ _ _
  have hB : Below w.heap.size w V := by rw [hV]; exact (Below.refl _ _).alloc (Nat.le_refl _) _
  obtain ⟨hfg, hfc, hfa⟩ := few_gs hf
  obtain ⟨A, d, A2, d2, rfl, rfl, hch, hgu⟩ := cf_guest (hx.up hB)
  obtain ⟨x0, x1, x2⟩ := cf_cells k1
  obtain ⟨N, hN⟩ : ∃ N, N = x.gs.length := ⟨_, rfl⟩
  obtain ⟨M, hM⟩ : ∃ M, M = x.chs.length := ⟨_, rfl⟩
  unfold cfVal
  rw [← hN] at x1 hV ⊢
  rw [← hM] at x2 hV ⊢
  rw [← hN, ← hM] at k1
  have hNb : N ≤ 20 := by rw [hN]; exact hfg
  have hMb : M ≤ 40 := by rw [hM]; exact hfc
  have HW := Lib.hid hV
  have HQ := Lib.hid hq0
  have HB0 := Lib.hid hB
  have HCELL : Hid (∀ Y, Below V.heap.size V Y → Y.cell? ⟨q0, 1, none⟩ = some (.slice A N d) ∧ Y.cell? ⟨q0, 2, none⟩ = some (.slice A2 M d2)) := Lib.hid (fun Y hY => by
    have h := k1.under hY
    exact ⟨h.cell (i := 1) (by decide), h.cell (i := 2) (by decide)⟩)
  have HEND : Hid (∀ v W L, OwnS W V.heap.size v L → Below V.heap.size V W → SpansP L w (.returned v) W) := Lib.hid (fun v W L h1 h2 => ⟨v, rfl, h1.low hB.size, hB.trans (h2.mono hB.size)⟩)
  by_cases hno : g < 0 ∨ (x.gs.length : Int) ≤ g
  · have hg0 : sharedG x g = [] := by unfold sharedG; rw [guestAt_no hno]
    rw [hg0]
    have HE := Lib.hid (HEND.out (.slice none 0 0) V [] (OwnE.nil _ _) (Below.refl _ _))
    have y1 := (HCELL.out V (Below.refl _ _)).1
    rw [← hN] at hno
    clear hgu hch hV k1 hB hx hb hf hfg hfc hfa x0 x1 x2 hN hM hq0 hg0 HEND HCELL
    by_cases h0 : g < 0
    · clear hno
      go_enter Try.func20, Try.ntmps20
      go_upto_region 1 with fail
      rw [← HW.out, ← HQ.out]
      clear HW
      go_wp2_with fail
      go_ret
      exact HE.out
    · have h1 : (N : Int) ≤ g := by omega
      clear hno
      go_enter Try.func20, Try.ntmps20
      go_upto_region 1 with fail
      rw [← HW.out, ← HQ.out]
      clear HW
      go_wp2_with fail
      go_ret
      exact HE.out
  · obtain ⟨i, rfl⟩ := Int.eq_ofNat_of_zero_le (show 0 ≤ g by omega)
    have hi : i < x.gs.length := by omega
    have hpg : sharedG x (i : Int) = (x.chs.filter (namesC (i : Int))).map spC := by unfold sharedG; rw [guestAt_yes hi]; exact sharedP_is _ _
    rw [hpg]
    obtain ⟨lc, hlc⟩ : ∃ l, l = x.chs := ⟨_, rfl⟩
    have hcb : ∀ y ∈ lc, ChB y := by rw [hlc]; exact hb.chs
    rw [← hlc] at hch hM ⊢
    have HG := Lib.hid hch
    have HCB := Lib.hid hcb
    have HM := Lib.hid hM
    obtain ⟨gi, hgi⟩ : ∃ z : Int, z = (i : Int) := ⟨_, rfl⟩
    obtain ⟨pf, hpf⟩ : ∃ f : Ch → Bool, f = namesC gi := ⟨_, rfl⟩
    have HPF : Hid (∀ y, pf y = (decide (y.a.guest = gi) || decide (y.b.guest = gi))) := Lib.hid (fun y => by rw [hpf]; rfl)
    have hi0 : ¬ gi < 0 := by omega
    have hiG : ¬ (N : Int) ≤ gi := by omega
    rw [← hgi, ← hpf]
    obtain ⟨RES, hRES⟩ : ∃ l, l = (lc.filter pf).map spC := ⟨_, rfl⟩
    have HRES := Lib.hid hRES
    rw [← hRES]
    have y1 := (HCELL.out V (Below.refl _ _)).1
    have y2 := (HCELL.out V (Below.refl _ _)).2
    clear hgu hch hV k1 hB hx hb hf hfg hfc hfa x0 x1 x2 hN hM hq0 hno hpg hcb hlc hRES hi hgi hpf
    go_enter Try.func20, Try.ntmps20
    go_upto_region 1 with fail
    rw [← HW.out, ← HQ.out]
    clear HW
    go_wp2_with fail
    clear y1 y2
    go_loopw [5, 20] (fun s v W => ∃ (k n e : Nat) (B : Option Addr), k ≤ M ∧ n ≤ k ∧ v = .int .i64 k ∧ s = .slice B n e ∧ Hid (OwnS W V.heap.size (.slice B n e) (((lc.take k).filter pf).map spC)) ∧ Hid ((((lc.take k).filter pf).map spC).length = n) ∧ Hid (Below V.heap.size V W)) (fun _ v _ => M - (intOf v).toNat)
    case atStart => exact ⟨0, 0, 0, none, Nat.zero_le _, Nat.le_refl _, rfl, rfl, Lib.hid (OwnE.nil _ _), Lib.hid rfl, Lib.hid (Below.refl _ _)⟩
    case round =>
      obtain ⟨k, n, e, B, hk, hnk, rfl, rfl, HO, HLN, HB⟩ := hrel
      obtain ⟨W, hW⟩ : ∃ W : World, W = wr := ⟨_, rfl⟩
      subst hW
      by_cases hlt0 : k < M
      · have hlt : k < lc.length := by have := HM.out; omega
        have g1 := HG.out W HB.out
        obtain ⟨b0, p, ea, hp, -, hcp⟩ := g1.at hlt
        obtain ⟨y, hy⟩ : ∃ y, y = lc[k] := ⟨_, rfl⟩
        rw [← hy] at hcp
        have hyb := HCB.out y (by rw [hy]; exact List.getElem_mem _)
        obtain ⟨pn, hpn⟩ := Int.eq_ofNat_of_zero_le hyb.1.1
        obtain ⟨sn, hsn⟩ := Int.eq_ofNat_of_zero_le hyb.2.1.1
        have hsp : spC y = (pn, sn) := by unfold spC; rw [hpn, hsn]; rfl
        have HSNOC : Hid (((lc.take (k + 1)).filter pf).map spC = ((lc.take k).filter pf).map spC ++ (if pf y = true then [(pn, sn)] else [])) := Lib.hid (by rw [take_filter pf spC lc k hlt, ← hy, hsp])
        have hki : (k : Int) < (M : Int) := by omega
        obtain ⟨r, hr⟩ : ∃ r, r = W.heap.size := ⟨_, rfl⟩
        obtain ⟨X, hX⟩ : ∃ X, X = (W.alloc (.cells (vec 8 (chE zCh)) 54)).setRow W.heap.size (vec 8 (chE y)) := ⟨_, rfl⟩
        have b1 : Below W.heap.size W X := by rw [hX]; exact below_row ((Below.refl _ _).alloc (Nat.le_refl _) _) (Nat.le_refl _) _
        have a1 : Arr X r 54 8 (chE y) := by rw [hX, hr]; exact (Arr.new W _ _ _).row _
        have HBX := Lib.hid (HB.out.trans (b1.mono HB.out.size))
        have HOX := Lib.hid (OwnE.on HO.out b1 (Nat.le_refl _))
        have HCP := Lib.hid hcp
        have HX := Lib.hid hX
        have HRR := Lib.hid hr
        have c0 : X.cell? ⟨r, 0, none⟩ = some (.int .u64 (pn : Int)) := by rw [← hpn]; exact a1.cell (i := 0) (by decide)
        have c1 : X.cell? ⟨r, 1, none⟩ = some (.int .u64 (sn : Int)) := by rw [← hsn]; exact a1.cell (i := 1) (by decide)
        have c2 : X.cell? ⟨r, 2, none⟩ = some (.int .i64 y.a.guest) := a1.cell (i := 2) (by decide)
        have c5 : X.cell? ⟨r, 5, none⟩ = some (.int .i64 y.b.guest) := a1.cell (i := 5) (by decide)
        have HPY := Lib.hid (HPF.out y)
        subst ea
        obtain ⟨ga, hga⟩ : ∃ z, z = y.a.guest := ⟨_, rfl⟩
        obtain ⟨gb, hgb⟩ : ∃ z, z = y.b.guest := ⟨_, rfl⟩
        rw [← hga] at c2 HPY
        rw [← hgb] at c5 HPY
        clear g1 hcp hlt hr hX b1 a1 hyb hy hpn hsn hsp hga hgb
        go_upto_region 7 with (first
          | ((with_reducible show wpList _ _ _ (Oper.mk _ (.load _ _) _ _ _ _ :: _) _ _); refine wl_load_q rfl 54 _ rfl p rfl _ (run_load_q HCP.out Try.underlying54 rfl infoCh) ?_)
          | ((with_reducible show wpList _ _ _ (Oper.mk _ (.store _ _ _) _ _ _ _ :: _) _ _); refine wl_store rfl 54 _ _ rfl _ rfl _ rfl (run_store_arr (Arr.new W _ _ _) (chE y) infoCh (chE_one _ _)) ?_))
        rw [← HX.out, ← HRR.out]
        clear HX HCP HRR
        by_cases ta : ga = gi
        · have hpy : pf y = true := by rw [HPY.out, decide_eq_true ta]; rfl
          have ta1 : (ga == gi) = true := by simpa using ta
          obtain ⟨B4, e4, w4, hrun, ho4, hb4⟩ := app_span (pn, sn) HOX.out HBX.out.size (by rw [HLN.out]; omega)
          have hs2 : ((lc.take (k + 1)).filter pf).map spC = ((lc.take k).filter pf).map spC ++ [(pn, sn)] := by rw [HSNOC.out, if_pos hpy]
          rw [HLN.out, ← hs2] at ho4
          rw [HLN.out] at hrun
          have HL4 : Hid ((((lc.take (k + 1)).filter pf).map spC).length = n + 1) := Lib.hid (by rw [hs2, List.length_append, HLN.out]; rfl)
          have hbs := build_span (pn, sn) X
          have HO4 := Lib.hid ho4
          have HB4 := Lib.hid (HBX.out.trans hb4)
          clear ho4 hb4 HSNOC hs2 hpy HPY
          go_wp2_with (first
            | ((with_reducible show wpList _ _ _ (Oper.mk _ (.build _ _) _ _ _ _ :: _) _ _); refine wl_build rfl 49 _ rfl (vec 2 (spE (pn, sn))) (by kernel_rfl) ?_)
            | ((with_reducible show wpList _ _ _ (Oper.mk _ (.buildSlice _ _ _) _ _ _ _ :: _) _ _); refine wl_bs1 rfl _ rfl (.agg (vec 2 (spE (pn, sn)))) rfl hbs ?_))
          go_roundw
          case rel => exact ⟨k + 1, n + 1, e4, B4, by omega, by omega, by go_num, rfl, HO4, HL4, HB4⟩
          case measure => simp [intOf]; omega
        have ta1 : (ga == gi) = false := by simpa using ta
        by_cases tb : gb = gi
        · have hpy : pf y = true := by rw [HPY.out, decide_eq_true tb, Bool.or_true]
          have tb1 : (gb == gi) = true := by simpa using tb
          clear tb
          obtain ⟨B4, e4, w4, hrun, ho4, hb4⟩ := app_span (pn, sn) HOX.out HBX.out.size (by rw [HLN.out]; omega)
          have hs2 : ((lc.take (k + 1)).filter pf).map spC = ((lc.take k).filter pf).map spC ++ [(pn, sn)] := by rw [HSNOC.out, if_pos hpy]
          rw [HLN.out, ← hs2] at ho4
          rw [HLN.out] at hrun
          have HL4 : Hid ((((lc.take (k + 1)).filter pf).map spC).length = n + 1) := Lib.hid (by rw [hs2, List.length_append, HLN.out]; rfl)
          have hbs := build_span (pn, sn) X
          have HO4 := Lib.hid ho4
          have HB4 := Lib.hid (HBX.out.trans hb4)
          clear ho4 hb4 HSNOC hs2 hpy HPY
          go_wp2_with (first
            | ((with_reducible show wpList _ _ _ (Oper.mk _ (.build _ _) _ _ _ _ :: _) _ _); refine wl_build rfl 49 _ rfl (vec 2 (spE (pn, sn))) (by kernel_rfl) ?_)
            | ((with_reducible show wpList _ _ _ (Oper.mk _ (.buildSlice _ _ _) _ _ _ _ :: _) _ _); refine wl_bs1 rfl _ rfl (.agg (vec 2 (spE (pn, sn)))) rfl hbs ?_))
          go_roundw
          case rel => exact ⟨k + 1, n + 1, e4, B4, by omega, by omega, by go_num, rfl, HO4, HL4, HB4⟩
          case measure => simp [intOf]; omega
        · have hpy : pf y = false := by rw [HPY.out, decide_eq_false ta, decide_eq_false tb]; rfl
          have tb1 : (gb == gi) = false := by simpa using tb
          have HO4 : Hid (OwnS X V.heap.size (.slice B n e) (((lc.take (k + 1)).filter pf).map spC)) := Lib.hid (by rw [HSNOC.out, if_neg (by rw [hpy]; decide), List.append_nil]; exact HOX.out)
          have HL4 : Hid ((((lc.take (k + 1)).filter pf).map spC).length = n) := Lib.hid (by rw [HSNOC.out, if_neg (by rw [hpy]; decide), List.append_nil]; exact HLN.out)
          clear HSNOC hpy HPY
          go_wp2_with fail
          go_roundw
          case rel => exact ⟨k + 1, n, e, B, by omega, by omega, by go_num, rfl, HO4, HL4, HBX⟩
          case measure => simp [intOf]; omega
      · obtain rfl : k = M := by omega
        have HO2 : Hid (OwnS W V.heap.size (.slice B n e) RES) := Lib.hid (by have h := HO.out; rw [HM.out, List.take_length] at h; rw [HRES.out]; exact h)
        clear hlt0 HO
        go_wp2_with fail
        go_ret
        exact HEND.out _ _ _ HO2.out HB.out
end Go.Proofs.Ytgnihceefpijiaa
