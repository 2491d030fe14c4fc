/- Merged: Rmp. -/
import Derived.Test.YtkaipknkjocfiaaGreatZm10
import Derived.Test.YtkaipknkjocfiaaGreatZm11
namespace Go.Proofs.YtkaipknkjocfiaaGreat
open Go.RowKit
attribute [local go_sem ↓ high] zeroWi zeroDe zeroCh zeroEn zeroMp zeroSp
theorem fold_len (l k : List Mp) : (l.foldl insP k).length = k.length + l.length := by rw [(fold_perm l k).length_eq, List.length_append]
theorem take_fold {α : Type} (f : α → Mp) (l : List α) (P : List Mp) (k : Nat) (h : k < l.length) : ((l.take (k + 1)).map f).foldl insP P = insP (((l.take k).map f).foldl insP P) (f l[k]) := by
 rw [take_snoc_map f l k h, List.foldl_append]; rfl
theorem take_foldC (gi : Int) (l : List Ch) (P : List Mp) (k : Nat) (h : k < l.length) : ((l.take (k + 1)).flatMap (chM gi)).foldl insP P = (chM gi l[k]).foldl insP (((l.take k).flatMap (chM gi)).foldl insP P) := by
 rw [List.take_succ_eq_append_getElem h, List.flatMap_append, List.foldl_append]; simp
theorem flat_lenC (gi : Int) : ∀ l : List Ch, (l.flatMap (chM gi)).length ≤ 2 * l.length
 | [] => by simp
 | c :: l => by
  rw [List.flatMap_cons, List.length_append, List.length_cons]
  have h := flat_lenC gi l
  have h2 := chM_len gi c
  have h3 : (chM gi c).length ≤ 2 := by rw [h2]; split <;> split <;> omega
  omega
theorem parts_sort (t : Gs) (chs : List Ch) (g : Int) : sortP (partsP t chs g) = (chs.flatMap (chM g)).foldl insP ((t.devs.map deM).foldl insP ((t.wins.map wiM).foldl insP [])) := by
 unfold sortP partsP; rw [List.foldl_append, List.foldl_append]
theorem u64BZ {z : Int} (h : u64B z) : u64Z z := by unfold u64B at h; unfold u64Z; omega
theorem parts_B {t : Gs} {chs : List Ch} {g : Int} (hw : ∀ y ∈ t.wins, WiB y) (hd : ∀ y ∈ t.devs, DeB y) (hc : ∀ y ∈ chs, ChB y) : ∀ y ∈ sortP (partsP t chs g), MpB y := fun y hy => by
 have hy := (sortP_perm _).mem_iff.1 hy
 unfold partsP at hy
 rcases List.mem_append.1 hy with h | h
 · obtain ⟨z, hz, rfl⟩ := List.mem_map.1 h
   exact ⟨u64BZ (hw z hz).1, u64BZ (hw z hz).2.1, u64BZ (hw z hz).2.2.1⟩
 rcases List.mem_append.1 h with h | h
 · obtain ⟨z, hz, rfl⟩ := List.mem_map.1 h
   exact ⟨u64BZ (hd z hz).1, u64BZ (hd z hz).2.1, u64BZ (hd z hz).2.2⟩
 · obtain ⟨z, hz, h⟩ := List.mem_flatMap.1 h
   have hb := hc z hz
   unfold chM at h
   rcases List.mem_append.1 h with h | h
   · split at h
     · obtain rfl := List.mem_singleton.1 h
       exact ⟨u64BZ hb.2.2.1.2.2, u64BZ hb.1, u64BZ hb.2.1⟩
     · cases h
   · split at h
     · obtain rfl := List.mem_singleton.1 h
       exact ⟨u64BZ hb.2.2.2.2.2, u64BZ hb.1, u64BZ hb.2.1⟩
     · cases h
def chF (gi : Int) (y : Ch) (P : List Mp) : Nat → List Mp
 | 0 => P
 | 1 => if y.a.guest = gi then insP P (enM y y.a) else P
 | _ => if y.b.guest = gi then insP (if y.a.guest = gi then insP P (enM y y.a) else P) (enM y y.b) else (if y.a.guest = gi then insP P (enM y y.a) else P)
theorem chF_two (gi : Int) (y : Ch) (P : List Mp) : chF gi y P 2 = (chM gi y).foldl insP P := by
 unfold chF chM
 by_cases h1 : y.a.guest = gi <;> by_cases h2 : y.b.guest = gi <;> simp [h1, h2]
theorem chF_len (gi : Int) (y : Ch) (P : List Mp) (i : Nat) : (chF gi y P i).length ≤ P.length + 2 := by
 have hins : ∀ (l : List Mp) (x : Mp), (insP l x).length = l.length + 1 := fun l x => by rw [(insP_perm l x).length_eq, List.length_cons]
 unfold chF
 split
 · omega
 · split
   · rw [hins]; omega
   · omega
 · split <;> split <;> (try rw [hins]) <;> (try rw [hins]) <;> omega
def MapsP (r : Except Nat (List Mp)) (w : World) (e : Ending) (w' : World) : Prop := match r with
 | .error n => e = .returned (.tuple #[.slice none 0 0, .int .i64 (n : Nat)]) ∧ Below w.heap.size w w'
 | .ok l => ∃ v, e = .returned (.tuple #[v, .int .i64 0]) ∧ OwnM w' w.heap.size v l ∧ Below w.heap.size w w'
set_option maxRecDepth 100000 in
theorem indexA (a b : En) (w : World) : (Instr.index 45 (.agg (vec 6 (twoE a b))) (.int .i64 0)).run Tryz.prog w = .ok (.agg (vec 3 (endE a))) w := by kernel_rfl
set_option maxRecDepth 100000 in
theorem indexB (a b : En) (w : World) : (Instr.index 45 (.agg (vec 6 (twoE a b))) (.int .i64 1)).run Tryz.prog w = .ok (.agg (vec 3 (endE b))) w := by kernel_rfl
theorem infoTw : (Tryz.prog.info? 45).map (·.size) = some 6 := by kernel_rfl
theorem add_atM (b o i : Nat) : ((⟨b, o, none⟩ : Addr).add i) = ⟨b, o + i, none⟩ := by simp [Addr.add]
theorem chF_yA {gi : Int} {y : Ch} (P : List Mp) (h : y.a.guest = gi) : chF gi y P 1 = insP (chF gi y P 0) (enM y y.a) := by
 show (if y.a.guest = gi then insP P (enM y y.a) else P) = insP P (enM y y.a)
 exact if_pos h
theorem chF_nA {gi : Int} {y : Ch} (P : List Mp) (h : ¬ y.a.guest = gi) : chF gi y P 1 = chF gi y P 0 := by
 show (if y.a.guest = gi then insP P (enM y y.a) else P) = P
 exact if_neg h
theorem chF_yB {gi : Int} {y : Ch} (P : List Mp) (h : y.b.guest = gi) : chF gi y P 2 = insP (chF gi y P 1) (enM y y.b) := by
 show (if y.b.guest = gi then insP (if y.a.guest = gi then insP P (enM y y.a) else P) (enM y y.b) else (if y.a.guest = gi then insP P (enM y y.a) else P)) = insP (if y.a.guest = gi then insP P (enM y y.a) else P) (enM y y.b)
 exact if_pos h
theorem chF_nB {gi : Int} {y : Ch} (P : List Mp) (h : ¬ y.b.guest = gi) : chF gi y P 2 = chF gi y P 1 := by
 show (if y.b.guest = gi then insP (if y.a.guest = gi then insP P (enM y y.a) else P) (enM y y.b) else (if y.a.guest = gi then insP P (enM y y.a) else P)) = (if y.a.guest = gi then insP P (enM y y.a) else P)
 exact if_neg h
theorem wl_slh {P : Program} {w : World} {ops : Array Oper} {rest : List Oper} {o : Oper} {a : Act} {Q : Exit → Act → World → Prop} (hgd : o.guard = none) (t : TypeId) (x hi : Operand) (ho : o.op = .slice t x none (some hi) none) (vx vh : Value) (hx : a.eval x = vx) (hh : a.eval hi = vh) {v : Value}
  (hr : (Instr.sliceAt t vx none (some vh) none).run P w = .ok v w) (h : wpList P ops Q rest (a.put o.dst v) w) : wpList P ops Q (o :: rest) a w :=
 wpList_plain hgd fun K hK => by
  unfold Oper.wp execOp
  simp only [ho, Option.map_none, Option.map_some, hx, hh, Sem.run_bind, hr, Result.andThen_ok, Sem.run_pure]
  exact hK _ _ h
set_option maxRecDepth 100000 in
theorem slice5_hi (a : Addr) (N c k : Nat) (hk : k ≤ c) (W : World) : (Instr.sliceAt 48 (.slice (some a) N c) none (some (.int .i64 (k : Int))) none).run Tryz.prog W = .ok (.slice (some a) k c) W := by
 rw [run_sliceAt_slice W _ _ _ _ _ mp_elem, run_slice_h W _ _ _ _ mp_elem .i64 (k : Int) (by omega) (by omega), mp_size]
 simp [Result.andThen_ok, sliced, Addr.add]
set_option maxHeartbeats 4000000 in
set_option maxRecDepth 100000 in
theorem rmaps_any (x : Cf) (a c : Value) (g : Int) (w : World) (hx : CfR w w.heap.size x a c) (hb : CfB x) (hf : fewC x = true) : Calls Tryz.prog 14 #[cfVal x a c, .int .i64 g] w (MapsP (mapsP x g) w) := by
 obtain ⟨q0, hq0⟩ : ∃ q, q = w.heap.size := ⟨_, rfl⟩
 obtain ⟨V, hV⟩ : ∃ V, V = w.alloc (.cells (vec 3 (cfE x.ver a c)) 31) := ⟨_, rfl⟩
 have k1 : Arr V q0 31 3 (cfE x.ver a c) := by rw [hV, hq0]; exact Arr.new w _ _ _
 have hB : Below w.heap.size w V := by rw [hV]; exact (Below.refl _ _).alloc (Nat.le_refl _) _
 obtain ⟨hfg, hfc, hfa⟩ := few_gs hf
 obtain ⟨A, d, A2, d2, rfl, rfl, hch, hgu⟩ := cf_guest (hx.up hB)
 obtain ⟨x0, x1, x2⟩ := cf_cells k1
 obtain ⟨N, hN⟩ : ∃ N, N = x.gs.length := ⟨_, rfl⟩
 obtain ⟨M, hM⟩ : ∃ M, M = x.chs.length := ⟨_, rfl⟩
 unfold cfVal
 rw [← hN] at x1 hV ⊢
 rw [← hM] at x2 hV ⊢
 rw [← hN, ← hM] at k1
 have hNb : N ≤ 20 := by rw [hN]; exact hfg
 have hMb : M ≤ 40 := by rw [hM]; exact hfc
 have HW := Lib.hid hV
 have HQ := Lib.hid hq0
 have HB0 := Lib.hid hB
 have HCELL : Hid (∀ Y, Below V.heap.size V Y → Y.cell? ⟨q0, 1, none⟩ = some (.slice A N d) ∧ Y.cell? ⟨q0, 2, none⟩ = some (.slice A2 M d2)) := Lib.hid (fun Y hY => by
   have h := k1.under hY
   exact ⟨h.cell (i := 1) (by decide), h.cell (i := 2) (by decide)⟩)
 have HERR : Hid (∀ n W, Below V.heap.size V W → MapsP (.error n) w (.returned (.tuple #[.slice none 0 0, .int .i64 (n : Nat)])) W) := Lib.hid (fun n W h => ⟨rfl, hB.trans (h.mono hB.size)⟩)
 have HEND : Hid (∀ v W L, OwnM W V.heap.size v L → Below V.heap.size V W → MapsP (.ok L) w (.returned (.tuple #[v, .int .i64 0])) W) := Lib.hid (fun v W L h1 h2 => ⟨v, rfl, h1.low hB.size, hB.trans (h2.mono hB.size)⟩)
 by_cases hno : g < 0 ∨ (x.gs.length : Int) ≤ g
 · have hg0 : mapsP x g = .error 1 := by unfold mapsP; rw [guestAt_no hno]
   rw [hg0]
   have HE := Lib.hid (HERR.out 1 V (Below.refl _ _))
   have y1 := (HCELL.out V (Below.refl _ _)).1
   rw [← hN] at hno
   clear hgu hch hV k1 hB hx hb hf hfg hfc hfa x0 x1 x2 hN hM hq0 hg0 HEND HERR HCELL
   by_cases h0 : g < 0
   · clear hno
     go_enter Tryz.func14, Tryz.ntmps14
     go_upto_region 1 with fail
     rw [← HW.out, ← HQ.out]
     clear HW
     go_wp2_with fail
     go_ret2
     exact HE.out
   · have h1 : (N : Int) ≤ g := by omega
     clear hno
     go_enter Tryz.func14, Tryz.ntmps14
     go_upto_region 1 with fail
     rw [← HW.out, ← HQ.out]
     clear HW
     go_wp2_with fail
     go_ret2
     exact HE.out
 · obtain ⟨i, rfl⟩ := Int.eq_ofNat_of_zero_le (show 0 ≤ g by omega)
   have hi : i < x.gs.length := by omega
   have hpg : mapsP x (i : Int) = if okM (sortP (partsP x.gs[i] x.chs (i : Int))) = true then .ok (sortP (partsP x.gs[i] x.chs (i : Int))) else .error 160 := by
     unfold mapsP
     rw [guestAt_yes hi]
   rw [hpg]
   obtain ⟨a0, q, A1, e1, A3, e3, rfl, hq, hcell⟩ := hgu i hi
   have hgb := hb.gs _ (List.getElem_mem hi)
   have hfew := gFew_iff (hfa _ (List.getElem_mem hi))
   have hSB := parts_B (g := (i : Int)) hgb.wins hgb.devs hb.chs
   have hSE := parts_sort x.gs[i] x.chs (i : Int)
   obtain ⟨S, hS⟩ : ∃ S, S = sortP (partsP x.gs[i] x.chs (i : Int)) := ⟨_, rfl⟩
   rw [← hS] at hSB hSE ⊢
   obtain ⟨lw, hlw⟩ : ∃ l, l = x.gs[i].wins := ⟨_, rfl⟩
   obtain ⟨ld, hld⟩ : ∃ l, l = x.gs[i].devs := ⟨_, rfl⟩
   obtain ⟨lc, hlc⟩ : ∃ l, l = x.chs := ⟨_, rfl⟩
   have hwb : ∀ y ∈ lw, WiB y := by rw [hlw]; exact hgb.wins
   have hdb : ∀ y ∈ ld, DeB y := by rw [hld]; exact hgb.devs
   have hcb : ∀ y ∈ lc, ChB y := by rw [hlc]; exact hb.chs
   have hwl : lw.length ≤ 20 := by rw [hlw]; exact hfew.1
   have hdl : ld.length ≤ 20 := by rw [hld]; exact hfew.2.1
   rw [← hlw, ← hld] at hcell
   rw [← hlw, ← hld, ← hlc] at hSE
   rw [← hlc] at hch hM
   obtain ⟨NW, hNW⟩ : ∃ n, n = lw.length := ⟨_, rfl⟩
   obtain ⟨ND, hND⟩ : ∃ n, n = ld.length := ⟨_, rfl⟩
   have hNWb : NW ≤ 20 := by rw [hNW]; exact hwl
   have hNDb : ND ≤ 20 := by rw [hND]; exact hdl
   rw [← hNW, ← hND] at hcell
   obtain ⟨gi, hgi⟩ : ∃ z : Int, z = (i : Int) := ⟨_, rfl⟩
   rw [← hgi] at hSE
   have HSL : Hid (S.length ≤ 120) := Lib.hid (by rw [hSE, fold_len, fold_len, fold_len, List.length_map, List.length_map, List.length_nil]; have := flat_lenC gi lc; omega)
   obtain ⟨Q, hQ⟩ : ∃ Q, Q = MapsP (if okM S = true then .ok S else .error 160) w := ⟨_, rfl⟩
   have HGOOD : Hid (okM S = true → ∀ v W, OwnM W V.heap.size v S → Below V.heap.size V W → Q (.returned (.tuple #[v, .int .i64 0])) W) := Lib.hid (fun h v W h1 h2 => by rw [hQ, if_pos h]; exact HEND.out v W S h1 h2)
   have HBAD : Hid (okM S = false → ∀ W, Below V.heap.size V W → Q (.returned (.tuple #[.slice none 0 0, .int .i64 160])) W) := Lib.hid (fun h W h2 => by rw [hQ, if_neg (by rw [h]; decide)]; exact HERR.out 160 W h2)
   rw [← hQ]
   have HG := Lib.hid hcell
   have HCH := Lib.hid hch
   have HNW := Lib.hid hNW
   have HND := Lib.hid hND
   have HNM := Lib.hid hM
   have HSE := Lib.hid hSE
   have HSB := Lib.hid hSB
   have hiN : (i : Int) < (N : Int) := by omega
   have hiN2 : i < N := by omega
   have hi0 : ¬ (i : Int) < 0 := by omega
   have hiG : ¬ (N : Int) ≤ (i : Int) := by omega
   have HGI := Lib.hid hgi
   have y1 := (HCELL.out V (Below.refl _ _)).1
   obtain ⟨⟨z1, z2⟩, -⟩ := hcell V (Below.refl _ _)
   clear hgu hch hV k1 hB hx hb hf hfg hfc hfa x0 x1 x2 hN hM hq0 hno hpg hcell hgb hfew hlw hld hlc hwb hdb hcb hwl hdl hNW hND hi HEND HERR hQ hS hSE hSB hgi
   go_enter Tryz.func14, Tryz.ntmps14
   go_upto_region 1 with fail
   rw [← HW.out, ← HQ.out]
   clear HW
   go_upto_region 4 with fail
   clear hiG
   go_wp2_with fail
   clear z1 z2 y1
   go_loopw [6, 35] (fun s v W => ∃ (k : Nat) (v0 : Value), k ≤ NW ∧ v = .int .i64 k ∧ v0 = s ∧ Hid (OwnM W V.heap.size v0 (((lw.take k).map wiM).foldl insP [])) ∧ Hid (Below V.heap.size V W)) (fun _ v _ => NW - (intOf v).toNat)
   case atStart => exact ⟨0, _, Nat.zero_le _, rfl, rfl, Lib.hid (OwnE.nil _ _), Lib.hid (Below.refl _ _)⟩
   case round =>
     obtain ⟨k, v0, hk, rfl, rfl, HO, HB⟩ := hrel
     obtain ⟨W, hW⟩ : ∃ W : World, W = wr := ⟨_, rfl⟩
     subst hW
     by_cases hlt0 : k < NW
     · have hlt : k < lw.length := by have := HNW.out; omega
       have g1 := (HG.out W HB.out).2.1
       obtain ⟨b0, p, ea, hp, -, hcp⟩ := g1.at hlt
       obtain ⟨y, hy⟩ : ∃ y, y = lw[k] := ⟨_, rfl⟩
       rw [← hy] at hcp
       have HNEXT : Hid (((lw.take (k + 1)).map wiM).foldl insP [] = insP (((lw.take k).map wiM).foldl insP []) (wiM y)) := Lib.hid (by rw [take_fold wiM lw [] k hlt, ← hy])
       have hki : (k : Int) < (NW : Int) := by omega
       have hlen1 : (((lw.take k).map wiM).foldl insP []).length ≤ 1000 := by rw [fold_len, List.length_map, List.length_take]; simp only [List.length_nil]; omega
       obtain ⟨r, hr⟩ : ∃ r, r = W.heap.size := ⟨_, rfl⟩
       obtain ⟨X, hX⟩ : ∃ X, X = (W.alloc (.cells (vec 4 (winE zWi)) 67)).setRow W.heap.size (vec 4 (winE y)) := ⟨_, rfl⟩
       have b1 : Below W.heap.size W X := by rw [hX]; exact below_row ((Below.refl _ _).alloc (Nat.le_refl _) _) (Nat.le_refl _) _
       have a1 : Arr X r 67 4 (winE y) := by rw [hX, hr]; exact (Arr.new W _ _ _).row _
       have HBX := Lib.hid (HB.out.trans (b1.mono HB.out.size))
       have HPUT := Lib.hid (rput16_any (wiM y) (OwnE.on HO.out b1 (Nat.le_refl _)) hlen1)
       have HCP := Lib.hid hcp
       have HX := Lib.hid hX
       have HRR := Lib.hid hr
       have c0 : X.cell? ⟨r, 0, none⟩ = some (.int .u64 y.ipa) := a1.cell (i := 0) (by decide)
       have c1 : X.cell? ⟨r, 1, none⟩ = some (.int .u64 y.pa) := a1.cell (i := 1) (by decide)
       have c2 : X.cell? ⟨r, 2, none⟩ = some (.int .u64 y.size) := a1.cell (i := 2) (by decide)
       have c3 : X.cell? ⟨r, 3, none⟩ = some (.int .i64 y.perm) := a1.cell (i := 3) (by decide)
       subst ea
       clear g1 hcp hlt hr hX b1 a1 hy hlen1 HO
       go_upto_region 7 with (first
        | ((with_reducible show wpList _ _ _ (Oper.mk _ (.load _ _) _ _ _ _ :: _) _ _); refine wl_load_q rfl 67 _ rfl p rfl _ (run_load_q HCP.out Tryz.underlying67 rfl infoWi) ?_)
        | ((with_reducible show wpList _ _ _ (Oper.mk _ (.store _ _ _) _ _ _ _ :: _) _ _); refine wl_store rfl 67 _ _ rfl _ rfl _ rfl (run_store_arr (Arr.new W _ _ _) (winE y) infoWi (winE_one _ _)) ?_))
       rw [← HX.out, ← HRR.out]
       clear HX HCP HRR
       go_wp2_with (first
        | ((with_reducible show wpList _ _ _ (Oper.mk _ (.build _ _) _ _ _ _ :: _) _ _); refine wl_build rfl 87 _ rfl (vec 5 (mpE (wiM y))) (by kernel_rfl) ?_)
        | (go_at_call 32; refine HPUT.out.mono ?_; rintro e w2 ⟨v2, rfl, ho, hd⟩; have HO2 := Lib.hid ho; have HD := Lib.hid hd; clear ho hd))
       go_roundw
       case rel => exact ⟨k + 1, v2, by omega, by go_num, rfl, Lib.hid (by rw [HNEXT.out]; exact HO2.out.low HBX.out.size), Lib.hid (HBX.out.trans (HD.out.mono HBX.out.size))⟩
       case measure => simp [intOf]; omega
     · obtain rfl : k = NW := by omega
       clear hlt0
       obtain ⟨⟨z1, z2⟩, -⟩ := HG.out W HB.out
       have y1 := (HCELL.out W HB.out).1
       go_wp2_with fail
       clear z1 z2 y1
       obtain ⟨PW, hPW⟩ : ∃ l, l = (lw.map wiM).foldl insP [] := ⟨_, rfl⟩
       have HOW : Hid (OwnM W V.heap.size v0 PW) := Lib.hid (by rw [hPW]; have h := HO.out; rw [HNW.out, List.take_length] at h; exact h)
       have HPL : Hid (PW.length = k) := Lib.hid (by rw [hPW, fold_len, List.length_map, List.length_nil, HNW.out, Nat.zero_add])
       have HSE2 : Hid (S = (lc.flatMap (chM gi)).foldl insP ((ld.map deM).foldl insP PW)) := Lib.hid (by rw [hPW]; exact HSE.out)
       clear hPW HO HSE
       go_loopw [6, 58] (fun s v Y => ∃ (m : Nat) (v0 : Value), m ≤ ND ∧ v = .int .i64 m ∧ v0 = s ∧ Hid (OwnM Y V.heap.size v0 (((ld.take m).map deM).foldl insP PW)) ∧ Hid (Below V.heap.size V Y)) (fun _ v _ => ND - (intOf v).toNat)
       case atStart => exact ⟨0, _, Nat.zero_le _, rfl, rfl, Lib.hid (by rw [List.take_zero, List.map_nil]; exact HOW.out), HB⟩
       case round =>
        obtain ⟨m, v0, hm, rfl, rfl, HO, HB⟩ := hrel
        obtain ⟨Y, hY⟩ : ∃ Y : World, Y = wr := ⟨_, rfl⟩
        subst hY
        by_cases hlt0 : m < ND
        · have hlt : m < ld.length := by have := HND.out; omega
          have g1 := (HG.out Y HB.out).2.2
          obtain ⟨b0, p, ea, hp, -, hcp⟩ := g1.at hlt
          obtain ⟨y, hy⟩ : ∃ y, y = ld[m] := ⟨_, rfl⟩
          rw [← hy] at hcp
          have HNEXT : Hid (((ld.take (m + 1)).map deM).foldl insP PW = insP (((ld.take m).map deM).foldl insP PW) (deM y)) := Lib.hid (by rw [take_fold deM ld PW m hlt, ← hy])
          have hki : (m : Int) < (ND : Int) := by omega
          have hlen1 : (((ld.take m).map deM).foldl insP PW).length ≤ 1000 := by rw [fold_len, List.length_map, List.length_take]; rw [HPL.out]; omega
          obtain ⟨r, hr⟩ : ∃ r, r = Y.heap.size := ⟨_, rfl⟩
          obtain ⟨X, hX⟩ : ∃ X, X = (Y.alloc (.cells (vec 3 (devE zDe)) 83)).setRow Y.heap.size (vec 3 (devE y)) := ⟨_, rfl⟩
          have b1 : Below Y.heap.size Y X := by rw [hX]; exact below_row ((Below.refl _ _).alloc (Nat.le_refl _) _) (Nat.le_refl _) _
          have a1 : Arr X r 83 3 (devE y) := by rw [hX, hr]; exact (Arr.new Y _ _ _).row _
          have HBX := Lib.hid (HB.out.trans (b1.mono HB.out.size))
          have HPUT := Lib.hid (rput16_any (deM y) (OwnE.on HO.out b1 (Nat.le_refl _)) hlen1)
          have HCP := Lib.hid hcp
          have HX := Lib.hid hX
          have HRR := Lib.hid hr
          have c0 : X.cell? ⟨r, 0, none⟩ = some (.int .u64 y.ipa) := a1.cell (i := 0) (by decide)
          have c1 : X.cell? ⟨r, 1, none⟩ = some (.int .u64 y.pa) := a1.cell (i := 1) (by decide)
          have c2 : X.cell? ⟨r, 2, none⟩ = some (.int .u64 y.size) := a1.cell (i := 2) (by decide)
          subst ea
          clear g1 hcp hlt hr hX b1 a1 hy hlen1 HO
          go_upto_region 12 with (first
           | ((with_reducible show wpList _ _ _ (Oper.mk _ (.load _ _) _ _ _ _ :: _) _ _); refine wl_load_q rfl 83 _ rfl p rfl _ (run_load_q HCP.out Tryz.underlying83 rfl infoDe) ?_)
           | ((with_reducible show wpList _ _ _ (Oper.mk _ (.store _ _ _) _ _ _ _ :: _) _ _); refine wl_store rfl 83 _ _ rfl _ rfl _ rfl (run_store_arr (Arr.new Y _ _ _) (devE y) infoDe (devE_one _ _)) ?_))
          rw [← HX.out, ← HRR.out]
          clear HX HCP HRR
          go_wp2_with (first
           | ((with_reducible show wpList _ _ _ (Oper.mk _ (.build _ _) _ _ _ _ :: _) _ _); refine wl_build rfl 87 _ rfl (vec 5 (mpE (deM y))) (by kernel_rfl) ?_)
           | (go_at_call 32; refine HPUT.out.mono ?_; rintro e w2 ⟨v2, rfl, ho, hd⟩; have HO2 := Lib.hid ho; have HD := Lib.hid hd; clear ho hd))
          go_roundw
          case rel => exact ⟨m + 1, v2, by omega, by go_num, rfl, Lib.hid (by rw [HNEXT.out]; exact HO2.out.low HBX.out.size), Lib.hid (HBX.out.trans (HD.out.mono HBX.out.size))⟩
          case measure => simp [intOf]; omega
        · obtain rfl : m = ND := by omega
          clear hlt0
          obtain ⟨PD, hPD⟩ : ∃ l, l = (ld.map deM).foldl insP PW := ⟨_, rfl⟩
          have HOD : Hid (OwnM Y V.heap.size v0 PD) := Lib.hid (by rw [hPD]; have h := HO.out; rw [HND.out, List.take_length] at h; exact h)
          have HDL : Hid (PD.length ≤ 40) := Lib.hid (by rw [hPD, fold_len, List.length_map, HPL.out]; have := HND.out; omega)
          have HSE3 : Hid (S = (lc.flatMap (chM gi)).foldl insP PD) := Lib.hid (by rw [hPD]; exact HSE2.out)
          have y2 := (HCELL.out Y HB.out).2
          clear hPD HO HSE2 HOW
          go_wp2_with fail
          clear y2
          rw [← HGI.out]
          go_loopw [6, 75] (fun s v W => ∃ (n : Nat) (v0 : Value), n ≤ M ∧ v = .int .i64 n ∧ v0 = s ∧ Hid (OwnM W V.heap.size v0 (((lc.take n).flatMap (chM gi)).foldl insP PD)) ∧ Hid (Below V.heap.size V W)) (fun _ v _ => M - (intOf v).toNat)
          case atStart => exact ⟨0, _, Nat.zero_le _, rfl, rfl, Lib.hid (by rw [List.take_zero, List.flatMap_nil]; exact HOD.out), HB⟩
          case round =>
           obtain ⟨n, v0, hn, rfl, rfl, HO, HB⟩ := hrel
           obtain ⟨W1, hW1⟩ : ∃ Y : World, Y = wr := ⟨_, rfl⟩
           subst hW1
           by_cases hlt0 : n < M
           · have hlt : n < lc.length := by have := HNM.out; omega
             have g1 := HCH.out W1 HB.out
             obtain ⟨b0, p, ea, hp, -, hcp⟩ := g1.at hlt
             obtain ⟨y, hy⟩ : ∃ y, y = lc[n] := ⟨_, rfl⟩
             rw [← hy] at hcp
             obtain ⟨PK, hPK⟩ : ∃ l, l = ((lc.take n).flatMap (chM gi)).foldl insP PD := ⟨_, rfl⟩
             have HNEXT : Hid (((lc.take (n + 1)).flatMap (chM gi)).foldl insP PD = chF gi y PK 2) := Lib.hid (by rw [take_foldC gi lc PD n hlt, ← hy, chF_two, hPK])
             have HPKL : Hid (PK.length ≤ 120) := Lib.hid (by rw [hPK, fold_len]; have h1 := flat_lenC gi (lc.take n); rw [List.length_take] at h1; have := HDL.out; omega)
             rw [← hPK] at HO
             have hki : (n : Int) < (M : Int) := by omega
             obtain ⟨r, hr⟩ : ∃ r, r = W1.heap.size := ⟨_, rfl⟩
             obtain ⟨X, hX⟩ : ∃ X, X = (W1.alloc (.cells (vec 8 (chE zCh)) 47)).setRow W1.heap.size (vec 8 (chE y)) := ⟨_, rfl⟩
             have b1 : Below W1.heap.size W1 X := by rw [hX]; exact below_row ((Below.refl _ _).alloc (Nat.le_refl _) _) (Nat.le_refl _) _
             have a1 : Arr X r 47 8 (chE y) := by rw [hX, hr]; exact (Arr.new W1 _ _ _).row _
             have HBX := Lib.hid (HB.out.trans (b1.mono HB.out.size))
             have HOX := Lib.hid (OwnE.on HO.out b1 (Nat.le_refl _))
             have HAC := Lib.hid a1
             have HCP := Lib.hid hcp
             have HX := Lib.hid hX
             have HRR := Lib.hid hr
             have HTW : Hid (∀ i, i < 6 → X.cell? ((⟨r, 2, none⟩ : Addr).add i) = some (twoE y.a y.b i)) := Lib.hid (fun i hi => by
              rw [add_atM, HAC.out.cell (by omega), Nat.add_comm 2 i]
              rfl)
             subst ea
             clear g1 hcp hlt hr hX b1 a1 hy hPK HO
             go_upto_region 17 with (first
              | ((with_reducible show wpList _ _ _ (Oper.mk _ (.load _ _) _ _ _ _ :: _) _ _); refine wl_load_q rfl 47 _ rfl p rfl _ (run_load_q HCP.out Tryz.underlying47 rfl infoCh) ?_)
              | ((with_reducible show wpList _ _ _ (Oper.mk _ (.store _ _ _) _ _ _ _ :: _) _ _); refine wl_store rfl 47 _ _ rfl _ rfl _ rfl (run_store_arr (Arr.new W1 _ _ _) (chE y) infoCh (chE_one _ _)) ?_))
             rw [← HX.out, ← HRR.out]
             clear HX HCP HRR
             go_wp2_with ((with_reducible show wpList _ _ _ (Oper.mk _ (.load _ _) _ _ _ _ :: _) _ _); refine wl_load_q rfl 45 _ rfl ⟨r, 2, none⟩ rfl _ (run_load_q HTW.out Tryz.underlying45 rfl infoTw) ?_)
             clear HTW
             go_loopw [6, 81] (fun s j Y => ∃ (i : Nat) (v1 : Value), i ≤ 2 ∧ j = .int .i64 i ∧ v1 = s ∧ Hid (OwnM Y V.heap.size v1 (chF gi y PK i)) ∧ Hid (Below X.heap.size X Y)) (fun _ j _ => 2 - (intOf j).toNat)
             case atStart => exact ⟨0, _, Nat.zero_le _, rfl, rfl, HOX, Lib.hid (Below.refl _ _)⟩
             case round =>
              obtain ⟨i2, v1, hi2, rfl, rfl, HOZ, HBZ⟩ := hrel
              obtain ⟨Z, hZ⟩ : ∃ Y : World, Y = wr := ⟨_, rfl⟩
              subst hZ
              clear HOX
              rcases (by omega : i2 = 0 ∨ i2 = 1 ∨ i2 = 2) with rfl | rfl | rfl
              · obtain ⟨z, hz⟩ : ∃ z, z = y.a := ⟨_, rfl⟩
                have HIX : Hid (∀ W : World, (Instr.index 45 (.agg (vec 6 (twoE y.a y.b))) (.int .i64 0)).run Tryz.prog W = .ok (.agg (vec 3 (endE z))) W) := Lib.hid (fun W => by rw [hz]; exact indexA y.a y.b W)
                have HYES : Hid (z.guest = gi → chF gi y PK 1 = insP (chF gi y PK 0) (enM y z)) := Lib.hid (fun h => by rw [hz] at h ⊢; exact chF_yA PK h)
                have HNOT : Hid (¬ z.guest = gi → chF gi y PK 1 = chF gi y PK 0) := Lib.hid (fun h => by rw [hz] at h; exact chF_nA PK h)
                have hlen1 : (chF gi y PK 0).length ≤ 1000 := by have := chF_len gi y PK 0; have := HPKL.out; omega
                obtain ⟨u, hu⟩ : ∃ u, u = Z.heap.size := ⟨_, rfl⟩
                obtain ⟨X3, hX3⟩ : ∃ X, X = (Z.alloc (.cells (vec 3 (endE zEn)) 44)).setRow Z.heap.size (vec 3 (endE z)) := ⟨_, rfl⟩
                have b3 : Below Z.heap.size Z X3 := by rw [hX3]; exact below_row ((Below.refl _ _).alloc (Nat.le_refl _) _) (Nat.le_refl _) _
                have a3 : Arr X3 u 44 3 (endE z) := by rw [hX3, hu]; exact (Arr.new Z _ _ _).row _
                have HB3 := Lib.hid (HBZ.out.trans (b3.mono HBZ.out.size))
                have a4 := HAC.out.under HB3.out
                have HO3 := Lib.hid (OwnE.on HOZ.out b3 (Nat.le_refl _))
                have HPUT := Lib.hid (rput16_any (enM y z) HO3.out hlen1)
                have HX3 := Lib.hid hX3
                have HU := Lib.hid hu
                have c0 : X3.cell? ⟨r, 0, none⟩ = some (.int .u64 y.pa) := a4.cell (i := 0) (by decide)
                have c1 : X3.cell? ⟨r, 1, none⟩ = some (.int .u64 y.size) := a4.cell (i := 1) (by decide)
                have d0 : X3.cell? ⟨u, 0, none⟩ = some (.int .i64 z.guest) := a3.cell (i := 0) (by decide)
                have d1 : X3.cell? ⟨u, 1, none⟩ = some (.int .i64 z.perm) := a3.cell (i := 1) (by decide)
                have d2 : X3.cell? ⟨u, 2, none⟩ = some (.int .u64 z.ipa) := a3.cell (i := 2) (by decide)
                clear hz hu hX3 b3 a3 a4 hlen1 HOZ
                have hix := HIX.out Z
                go_upto_region 20 with ((with_reducible show wpList _ _ _ (Oper.mk _ (.store _ _ _) _ _ _ _ :: _) _ _); refine wl_store rfl 44 _ _ rfl _ rfl _ rfl (run_store_arr (Arr.new Z _ _ _) (endE z) infoEn (endE_one _ _)) ?_)
                rw [← HX3.out, ← HU.out]
                clear HX3 HU HIX hix
                by_cases ta : z.guest = gi
                · have ta1 : (z.guest == gi) = true := by simpa using ta
                  have HF := Lib.hid (HYES.out ta)
                  clear HYES HNOT
                  go_wp2_with (first
                    | ((with_reducible show wpList _ _ _ (Oper.mk _ (.build _ _) _ _ _ _ :: _) _ _); refine wl_build rfl 87 _ rfl (vec 5 (mpE (enM y z))) (by kernel_rfl) ?_)
                    | (go_at_call 32; refine HPUT.out.mono ?_; rintro e w2 ⟨v2, rfl, ho, hd⟩; have HO2 := Lib.hid ho; have HD := Lib.hid hd; clear ho hd))
                  go_roundw
                  case rel => exact ⟨1, v2, by omega, by go_num, rfl, Lib.hid (by rw [HF.out]; exact HO2.out.low (Nat.le_trans HBX.out.size HB3.out.size)), Lib.hid (HB3.out.trans (HD.out.mono HB3.out.size))⟩
                  case measure => simp [intOf]
                · have ta1 : (z.guest == gi) = false := by simpa using ta
                  have HF := Lib.hid (HNOT.out ta)
                  clear HYES HNOT
                  go_wp2_with fail
                  go_roundw
                  case rel => exact ⟨1, _, by omega, by go_num, rfl, Lib.hid (by rw [HF.out]; exact HO3.out), HB3⟩
                  case measure => simp [intOf]
              · obtain ⟨z, hz⟩ : ∃ z, z = y.b := ⟨_, rfl⟩
                have HIX : Hid (∀ W : World, (Instr.index 45 (.agg (vec 6 (twoE y.a y.b))) (.int .i64 1)).run Tryz.prog W = .ok (.agg (vec 3 (endE z))) W) := Lib.hid (fun W => by rw [hz]; exact indexB y.a y.b W)
                have HYES : Hid (z.guest = gi → chF gi y PK 2 = insP (chF gi y PK 1) (enM y z)) := Lib.hid (fun h => by rw [hz] at h ⊢; exact chF_yB PK h)
                have HNOT : Hid (¬ z.guest = gi → chF gi y PK 2 = chF gi y PK 1) := Lib.hid (fun h => by rw [hz] at h; exact chF_nB PK h)
                have hlen1 : (chF gi y PK 1).length ≤ 1000 := by have := chF_len gi y PK 1; have := HPKL.out; omega
                obtain ⟨u, hu⟩ : ∃ u, u = Z.heap.size := ⟨_, rfl⟩
                obtain ⟨X3, hX3⟩ : ∃ X, X = (Z.alloc (.cells (vec 3 (endE zEn)) 44)).setRow Z.heap.size (vec 3 (endE z)) := ⟨_, rfl⟩
                have b3 : Below Z.heap.size Z X3 := by rw [hX3]; exact below_row ((Below.refl _ _).alloc (Nat.le_refl _) _) (Nat.le_refl _) _
                have a3 : Arr X3 u 44 3 (endE z) := by rw [hX3, hu]; exact (Arr.new Z _ _ _).row _
                have HB3 := Lib.hid (HBZ.out.trans (b3.mono HBZ.out.size))
                have a4 := HAC.out.under HB3.out
                have HO3 := Lib.hid (OwnE.on HOZ.out b3 (Nat.le_refl _))
                have HPUT := Lib.hid (rput16_any (enM y z) HO3.out hlen1)
                have HX3 := Lib.hid hX3
                have HU := Lib.hid hu
                have c0 : X3.cell? ⟨r, 0, none⟩ = some (.int .u64 y.pa) := a4.cell (i := 0) (by decide)
                have c1 : X3.cell? ⟨r, 1, none⟩ = some (.int .u64 y.size) := a4.cell (i := 1) (by decide)
                have d0 : X3.cell? ⟨u, 0, none⟩ = some (.int .i64 z.guest) := a3.cell (i := 0) (by decide)
                have d1 : X3.cell? ⟨u, 1, none⟩ = some (.int .i64 z.perm) := a3.cell (i := 1) (by decide)
                have d2 : X3.cell? ⟨u, 2, none⟩ = some (.int .u64 z.ipa) := a3.cell (i := 2) (by decide)
                clear hz hu hX3 b3 a3 a4 hlen1 HOZ
                have hix := HIX.out Z
                go_upto_region 20 with ((with_reducible show wpList _ _ _ (Oper.mk _ (.store _ _ _) _ _ _ _ :: _) _ _); refine wl_store rfl 44 _ _ rfl _ rfl _ rfl (run_store_arr (Arr.new Z _ _ _) (endE z) infoEn (endE_one _ _)) ?_)
                rw [← HX3.out, ← HU.out]
                clear HX3 HU HIX hix
                by_cases ta : z.guest = gi
                · have ta1 : (z.guest == gi) = true := by simpa using ta
                  have HF := Lib.hid (HYES.out ta)
                  clear HYES HNOT
                  go_wp2_with (first
                    | ((with_reducible show wpList _ _ _ (Oper.mk _ (.build _ _) _ _ _ _ :: _) _ _); refine wl_build rfl 87 _ rfl (vec 5 (mpE (enM y z))) (by kernel_rfl) ?_)
                    | (go_at_call 32; refine HPUT.out.mono ?_; rintro e w2 ⟨v2, rfl, ho, hd⟩; have HO2 := Lib.hid ho; have HD := Lib.hid hd; clear ho hd))
                  go_roundw
                  case rel => exact ⟨2, v2, by omega, by go_num, rfl, Lib.hid (by rw [HF.out]; exact HO2.out.low (Nat.le_trans HBX.out.size HB3.out.size)), Lib.hid (HB3.out.trans (HD.out.mono HB3.out.size))⟩
                  case measure => simp [intOf]
                · have ta1 : (z.guest == gi) = false := by simpa using ta
                  have HF := Lib.hid (HNOT.out ta)
                  clear HYES HNOT
                  go_wp2_with fail
                  go_roundw
                  case rel => exact ⟨2, _, by omega, by go_num, rfl, Lib.hid (by rw [HF.out]; exact HO3.out), HB3⟩
                  case measure => simp [intOf]
              · go_wp2_with fail
                go_roundw
                case rel => exact ⟨n + 1, _, by omega, by go_num, rfl, Lib.hid (by rw [HNEXT.out]; exact HOZ.out), Lib.hid (HBX.out.trans (HBZ.out.mono HBX.out.size))⟩
                case measure => simp [intOf]; omega
           · obtain rfl : n = M := by omega
             clear hlt0
             have HOS : Hid (OwnM W1 V.heap.size v0 S) := Lib.hid (by have h := HO.out; rw [HNM.out, List.take_length] at h; rw [HSE3.out]; exact h)
             clear HO HSE3 HOD
             obtain ⟨A5, c5, hv5, hc5, hr5, -⟩ := HOS.out.form
             obtain ⟨N5, hN5⟩ : ∃ n, n = S.length := ⟨_, rfl⟩
             rw [← hN5] at hv5 hc5
             subst hv5
             have HN5 := Lib.hid hN5
             have hN5b : N5 ≤ 120 := by rw [hN5]; exact HSL.out
             have HR5 := Lib.hid hr5
             have HOF : Hid (∀ k, k < S.length → okAt S k = false → okM S = false) := Lib.hid (fun k hk h => range_off hk h)
             have HON : Hid ((List.range S.length).all (okAt S) = true → okM S = true) := Lib.hid (fun h => h)
             obtain ⟨G, hG⟩ : ∃ G, G = okM S := ⟨_, rfl⟩
             rw [← hG] at HOF HON HGOOD HBAD
             clear hr5 hN5 hG
             go_wp2_with fail
             go_loopw [4, 5, 103] (fun _ _ v Y => ∃ k : Nat, k ≤ N5 ∧ v = .int .i64 k ∧ Hid ((List.range k).all (okAt S) = true) ∧ Hid (Below W1.heap.size W1 Y)) (fun _ _ v _ => N5 - (intOf v).toNat)
             case atStart => exact ⟨0, Nat.zero_le _, rfl, Lib.hid rfl, Lib.hid (Below.refl _ _)⟩
             case round =>
              obtain ⟨k, hk, rfl, HP0, HB6⟩ := hrel
              obtain ⟨W6, hW6⟩ : ∃ Y : World, Y = wr := ⟨_, rfl⟩
              subst hW6
              by_cases hlt0 : k < N5
              · have hlt : k < S.length := by have := HN5.out; omega
                have g1 := HR5.out.up HB6.out
                obtain ⟨b0, p, ea, hp, -, hcp⟩ := g1.at hlt
                obtain ⟨y, hy⟩ : ∃ y, y = S[k] := ⟨_, rfl⟩
                rw [← hy] at hcp
                have hyb : MpB y := by rw [hy]; exact HSB.out _ (List.getElem_mem _)
                obtain ⟨pi, hpi⟩ := Int.eq_ofNat_of_zero_le hyb.ipa.1
                obtain ⟨pp, hpp⟩ := Int.eq_ofNat_of_zero_le hyb.pa.1
                obtain ⟨sn, hsn⟩ := Int.eq_ofNat_of_zero_le hyb.size.1
                have e1 : ipaS y = (pi, sn) := by unfold ipaS; rw [hpi, hsn]; rfl
                have e2 : paS y = (pp, sn) := by unfold paS; rw [hpp, hsn]; rfl
                have hf1 : fit (pi, sn) := e1 ▸ fit_ipa hyb
                have hf2 : fit (pp, sn) := e2 ▸ fit_pa hyb
                obtain ⟨fov, hfov⟩ : ∃ f : Mp → Bool, f = fun z => !overlap (pi, sn) (ipaS z) := ⟨_, rfl⟩
                have HFO : Hid (∀ z, fov z = !overlap (pi, sn) (ipaS z)) := Lib.hid (fun z => by rw [hfov])
                have HOKK : Hid (okAt S k = ((good (pi, sn) && good (pp, sn)) && (S.take k).all fov)) := Lib.hid (by rw [okAt_some hlt, ← hy, hfov]; unfold gdS; rw [e1, e2])
                have HNX : Hid (okAt S k = true → (List.range (k + 1)).all (okAt S) = true) := Lib.hid (fun h => range_snoc HP0.out h)
                have HFF : Hid (okAt S k = false → G = false) := Lib.hid (HOF.out k hlt)
                have HGA := Lib.hid (fun W => rgoodE (pi, sn) hf1 W)
                have HGB := Lib.hid (fun W => rgoodE (pp, sn) hf2 W)
                have HF1 := Lib.hid hf1
                obtain ⟨q1, hq1⟩ : ∃ b, b = good (pi, sn) := ⟨_, rfl⟩
                obtain ⟨q2, hq2⟩ : ∃ b, b = good (pp, sn) := ⟨_, rfl⟩
                rw [← hq1, ← hq2] at HOKK
                rw [← hq1] at HGA
                rw [← hq2] at HGB
                unfold EqV at HGA HGB
                have hki : (k : Int) < (N5 : Int) := by omega
                obtain ⟨r, hr⟩ : ∃ r, r = W6.heap.size := ⟨_, rfl⟩
                obtain ⟨X, hX⟩ : ∃ X, X = (W6.alloc (.cells (vec 5 (mpE zMp)) 87)).setRow W6.heap.size (vec 5 (mpE y)) := ⟨_, rfl⟩
                have b1 : Below W6.heap.size W6 X := by rw [hX]; exact below_row ((Below.refl _ _).alloc (Nat.le_refl _) _) (Nat.le_refl _) _
                have a1 : Arr X r 87 5 (mpE y) := by rw [hX, hr]; exact (Arr.new W6 _ _ _).row _
                have HBX := Lib.hid (HB6.out.trans (b1.mono HB6.out.size))
                have HCP := Lib.hid hcp
                have HX := Lib.hid hX
                have HRR := Lib.hid hr
                have HA := Lib.hid a1
                have HPC : Hid (∀ Y, Arr Y r 87 5 (mpE y) → Y.cell? ⟨r, 0, none⟩ = some (.int .u64 (pi : Int)) ∧ Y.cell? ⟨r, 1, none⟩ = some (.int .u64 (pp : Int)) ∧ Y.cell? ⟨r, 2, none⟩ = some (.int .u64 (sn : Int))) := Lib.hid (fun Y h => ⟨by rw [← hpi]; exact h.cell (i := 0) (by decide), by rw [← hpp]; exact h.cell (i := 1) (by decide), by rw [← hsn]; exact h.cell (i := 2) (by decide)⟩)
                obtain ⟨x0, x1, x2⟩ := HPC.out _ a1
                subst ea
                clear g1 hcp hlt hr hX b1 a1 hyb hy hpi hpp hsn e1 e2 hf1 hf2 hfov hq1 hq2 HP0
                go_upto_region 27 with (first
                  | ((with_reducible show wpList _ _ _ (Oper.mk _ (.load _ _) _ _ _ _ :: _) _ _); refine wl_load_q rfl 87 _ rfl p rfl _ (run_load_q HCP.out Tryz.underlying87 rfl infoMp) ?_)
                  | ((with_reducible show wpList _ _ _ (Oper.mk _ (.store _ _ _) _ _ _ _ :: _) _ _); refine wl_store rfl 87 _ _ rfl _ rfl _ rfl (run_store_arr (Arr.new W6 _ _ _) (mpE y) infoMp (mpE_one _ _)) ?_))
                rw [← HX.out, ← HRR.out]
                clear HX HCP HRR
                cases q1
                · have HE := Lib.hid (HBAD.out (HFF.out (by rw [HOKK.out]; rfl)))
                  clear HNX HFF HOKK
                  go_wp2_with (first
                    | ((with_reducible show wpList _ _ _ (Oper.mk _ (.build _ _) _ _ _ _ :: _) _ _); refine wl_build rfl 24 _ rfl (vec 2 (spE (pi, sn))) (by kernel_rfl) ?_)
                    | (go_at_call 33; (with_reducible show Calls _ _ #[.agg (vec 2 (spE (pi, sn)))] _ _); refine (HGA.out _).mono ?_; rintro e w2 ⟨rfl, hd⟩; have HD := Lib.hid (HBX.out.trans (hd.mono HBX.out.size)); have HA2 := Lib.hid (HA.out.under hd); obtain ⟨y0, y1, y2⟩ := HPC.out _ HA2.out; clear hd))
                  exact HE.out _ (HB.out.trans (HD.out.mono HB.out.size))
                cases q2
                · have HE := Lib.hid (HBAD.out (HFF.out (by rw [HOKK.out]; rfl)))
                  clear HNX HFF HOKK
                  go_wp2_with (first
                    | ((with_reducible show wpList _ _ _ (Oper.mk _ (.build _ _) _ _ _ _ :: _) _ _); refine wl_build rfl 24 _ rfl (vec 2 (spE (pi, sn))) (by kernel_rfl) ?_)
                    | (go_at_call 33; (with_reducible show Calls _ _ #[.agg (vec 2 (spE (pi, sn)))] _ _); refine (HGA.out _).mono ?_; rintro e w2 ⟨rfl, hd⟩; have HD := Lib.hid (HBX.out.trans (hd.mono HBX.out.size)); have HA2 := Lib.hid (HA.out.under hd); obtain ⟨y0, y1, y2⟩ := HPC.out _ HA2.out; clear hd)
                    | ((with_reducible show wpList _ _ _ (Oper.mk _ (.build _ _) _ _ _ _ :: _) _ _); refine wl_build rfl 24 _ rfl (vec 2 (spE (pp, sn))) (by kernel_rfl) ?_)
                    | (go_at_call 33; (show Calls _ _ #[.agg (vec 2 (spE (pp, sn)))] _ _); refine (HGB.out _).mono ?_; rintro e w3 ⟨rfl, hd⟩; have HD := Lib.hid (HD.out.trans (hd.mono HD.out.size)); have HA3 := Lib.hid (HA2.out.under hd); clear hd))
                  exact HE.out _ (HB.out.trans (HD.out.mono HB.out.size))
                have HOK2 : Hid (okAt S k = (S.take k).all fov) := Lib.hid (by rw [HOKK.out]; rfl)
                clear HOKK
                go_upto_region 29 with (first
                  | ((with_reducible show wpList _ _ _ (Oper.mk _ (.build _ _) _ _ _ _ :: _) _ _); refine wl_build rfl 24 _ rfl (vec 2 (spE (pi, sn))) (by kernel_rfl) ?_)
                  | (go_at_call 33; (with_reducible show Calls _ _ #[.agg (vec 2 (spE (pi, sn)))] _ _); refine (HGA.out _).mono ?_; rintro e w2 ⟨rfl, hd⟩; have HD := Lib.hid (HBX.out.trans (hd.mono HBX.out.size)); have HA2 := Lib.hid (HA.out.under hd); obtain ⟨y0, y1, y2⟩ := HPC.out _ HA2.out; clear hd)
                  | ((with_reducible show wpList _ _ _ (Oper.mk _ (.build _ _) _ _ _ _ :: _) _ _); refine wl_build rfl 24 _ rfl (vec 2 (spE (pp, sn))) (by kernel_rfl) ?_)
                  | (go_at_call 33; (show Calls _ _ #[.agg (vec 2 (spE (pp, sn)))] _ _); refine (HGB.out _).mono ?_; rintro e w3 ⟨rfl, hd⟩; have HD := Lib.hid (HD.out.trans (hd.mono HD.out.size)); have HA3 := Lib.hid (HA2.out.under hd); clear hd))
                clear x0 x1 x2 y0 y1 y2
                have HSL5 := Lib.hid (fun W => slice5_hi b0 N5 c5 k (by omega) W)
                go_wp2_with ((with_reducible show wpList _ _ _ (Oper.mk _ (.slice _ _ _ _ _) _ _ _ _ :: _) _ _); refine wl_slh rfl 48 _ _ rfl _ _ rfl rfl (HSL5.out _) ?_)
                clear HSL5
                go_loopw [4, 5, 128] (fun _ _ v Z => ∃ j : Nat, j ≤ k ∧ v = .int .i64 j ∧ Hid ((S.take j).all fov = true) ∧ Hid (Below w3.heap.size w3 Z)) (fun _ _ v _ => k - (intOf v).toNat)
                case atStart => exact ⟨0, Nat.zero_le _, rfl, Lib.hid rfl, Lib.hid (Below.refl _ _)⟩
                case round =>
                  obtain ⟨j, hj, rfl, HQ0, HB7⟩ := hrel
                  obtain ⟨W7, hW7⟩ : ∃ Y : World, Y = wr := ⟨_, rfl⟩
                  subst hW7
                  by_cases hlt1 : j < k
                  · have hlt : j < S.length := by have := HN5.out; omega
                    have hb7 := HD.out.trans (HB7.out.mono HD.out.size)
                    have g1 := HR5.out.up hb7
                    obtain ⟨b2, p2, ea, hp2, -, hcp⟩ := g1.at hlt
                    injection ea with ea
                    subst ea
                    obtain ⟨z, hz⟩ : ∃ z, z = S[j] := ⟨_, rfl⟩
                    rw [← hz] at hcp
                    have hzb : MpB z := by rw [hz]; exact HSB.out _ (List.getElem_mem _)
                    obtain ⟨zi, hzi⟩ := Int.eq_ofNat_of_zero_le hzb.ipa.1
                    obtain ⟨zs, hzs⟩ := Int.eq_ofNat_of_zero_le hzb.size.1
                    have e1 : ipaS z = (zi, zs) := by unfold ipaS; rw [hzi, hzs]; rfl
                    have hf2 : fit (zi, zs) := e1 ▸ fit_ipa hzb
                    have HVC := Lib.hid (fun W => roverlapE (pi, sn) (zi, zs) HF1.out hf2 W)
                    have HFZ : Hid (fov z = !overlap (pi, sn) (zi, zs)) := Lib.hid (by rw [HFO.out, e1])
                    obtain ⟨q3, hq3⟩ : ∃ b, b = overlap (pi, sn) (zi, zs) := ⟨_, rfl⟩
                    rw [← hq3] at HVC HFZ
                    unfold EqV at HVC
                    have HNJ : Hid (fov z = true → (S.take (j + 1)).all fov = true) := Lib.hid (fun h => by rw [List.take_succ_eq_append_getElem hlt, List.all_append, HQ0.out, List.all_cons, ← hz, h]; rfl)
                    have HFJ : Hid (fov z = false → (S.take k).all fov = false) := Lib.hid (fun h => by
                      rw [← Bool.not_eq_true, List.all_eq_true]
                      intro hall
                      have := hall z (by rw [List.mem_iff_getElem]; exact ⟨j, by rw [List.length_take]; omega, by rw [List.getElem_take]; exact hz.symm⟩)
                      rw [h] at this
                      cases this)
                    have hji : (j : Int) < (k : Int) := by omega
                    obtain ⟨r2, hr2⟩ : ∃ r, r = W7.heap.size := ⟨_, rfl⟩
                    obtain ⟨X2, hX2⟩ : ∃ X, X = (W7.alloc (.cells (vec 5 (mpE zMp)) 87)).setRow W7.heap.size (vec 5 (mpE z)) := ⟨_, rfl⟩
                    have b1 : Below W7.heap.size W7 X2 := by rw [hX2]; exact below_row ((Below.refl _ _).alloc (Nat.le_refl _) _) (Nat.le_refl _) _
                    have a1 : Arr X2 r2 87 5 (mpE z) := by rw [hX2, hr2]; exact (Arr.new W7 _ _ _).row _
                    have HBX2 := Lib.hid (HB7.out.trans (b1.mono HB7.out.size))
                    have HCP := Lib.hid hcp
                    have HX2 := Lib.hid hX2
                    have HRR := Lib.hid hr2
                    obtain ⟨x0, -, x2⟩ := HPC.out _ (HA3.out.under HBX2.out)
                    have z0 : X2.cell? ⟨r2, 0, none⟩ = some (.int .u64 (zi : Int)) := by rw [← hzi]; exact a1.cell (i := 0) (by decide)
                    have z2 : X2.cell? ⟨r2, 2, none⟩ = some (.int .u64 (zs : Int)) := by rw [← hzs]; exact a1.cell (i := 2) (by decide)
                    clear hb7 g1 hcp hlt hr2 hX2 b1 a1 hzb hz hzi hzs e1 hf2 hq3 HQ0
                    go_upto_region 32 with (first
                      | ((with_reducible show wpList _ _ _ (Oper.mk _ (.load _ _) _ _ _ _ :: _) _ _); refine wl_load_q rfl 87 _ rfl p2 rfl _ (run_load_q HCP.out Tryz.underlying87 rfl infoMp) ?_)
                      | ((with_reducible show wpList _ _ _ (Oper.mk _ (.store _ _ _) _ _ _ _ :: _) _ _); refine wl_store rfl 87 _ _ rfl _ rfl _ rfl (run_store_arr (Arr.new W7 _ _ _) (mpE z) infoMp (mpE_one _ _)) ?_))
                    rw [← HX2.out, ← HRR.out]
                    clear HX2 HCP HRR
                    cases q3
                    · have HS := Lib.hid (HNJ.out (by rw [HFZ.out]; rfl))
                      clear HNJ HFJ HFZ
                      go_wp2_with (first
                       | ((with_reducible show wpList _ _ _ (Oper.mk _ (.build _ #[(0, .tmp 133), (1, .tmp 135)]) _ _ _ _ :: _) _ _); refine wl_build rfl 24 _ rfl (vec 2 (spE (pi, sn))) (by kernel_rfl) ?_)
                       | ((with_reducible show wpList _ _ _ (Oper.mk _ (.build _ #[(0, .tmp 138), (1, .tmp 140)]) _ _ _ _ :: _) _ _); refine wl_build rfl 24 _ rfl (vec 2 (spE (zi, zs))) (by kernel_rfl) ?_)
                       | (go_at_call 31; refine (HVC.out _).mono ?_; rintro e w4 ⟨rfl, hd⟩; have HD4 := Lib.hid (HBX2.out.trans (hd.mono HBX2.out.size)); clear hd))
                      go_roundw
                      case rel => exact ⟨j + 1, by omega, by go_num, HS, HD4⟩
                      case measure => simp [intOf]; omega
                    · have HE := Lib.hid (HBAD.out (HFF.out (by rw [HOK2.out]; exact HFJ.out (by rw [HFZ.out]; rfl))))
                      clear HNJ HFJ HFZ HNX HFF
                      go_wp2_with (first
                       | ((with_reducible show wpList _ _ _ (Oper.mk _ (.build _ #[(0, .tmp 133), (1, .tmp 135)]) _ _ _ _ :: _) _ _); refine wl_build rfl 24 _ rfl (vec 2 (spE (pi, sn))) (by kernel_rfl) ?_)
                       | ((with_reducible show wpList _ _ _ (Oper.mk _ (.build _ #[(0, .tmp 138), (1, .tmp 140)]) _ _ _ _ :: _) _ _); refine wl_build rfl 24 _ rfl (vec 2 (spE (zi, zs))) (by kernel_rfl) ?_)
                       | (go_at_call 31; refine (HVC.out _).mono ?_; rintro e w4 ⟨rfl, hd⟩; have HD4 := Lib.hid (HBX2.out.trans (hd.mono HBX2.out.size)); clear hd))
                      exact HE.out _ (HB.out.trans ((HD.out.trans (HD4.out.mono HD.out.size)).mono HB.out.size))
                  · obtain rfl : j = k := by omega
                    have HS := Lib.hid (HNX.out (by rw [HOK2.out]; exact HQ0.out))
                    clear hlt1 HNX HOK2 HQ0
                    go_wp2_with fail
                    go_roundw
                    case rel => exact ⟨j + 1, by omega, by go_num, HS, Lib.hid (HD.out.trans (HB7.out.mono HD.out.size))⟩
                    case measure => simp [intOf]; omega
              · obtain rfl : k = N5 := by omega
                have HE := Lib.hid (HGOOD.out (HON.out (by have h := HP0.out; rw [HN5.out] at h; exact h)) _ _ (OwnE.on HOS.out HB6.out (Nat.le_refl _)) (HB.out.trans (HB6.out.mono HB.out.size)))
                clear hlt0
                go_wp2_with fail
                exact HE.out
end Go.Proofs.YtkaipknkjocfiaaGreat
