/- Merged: Rmp, Rms. -/
import Derived.Test.YtgnihceefpijiaaWr
import Derived.Test.YtgnihceefpijiaaRpu
import Derived.Test.YtgnihceefpijiaaRp
import Derived.Test.YtgnihceefpijiaaMe
/- The reference's Maps: the parts of a guest's addresses, in order, or why there are none. -/
namespace Go.Proofs.Ytgnihceefpijiaa
open Go.RowKit
attribute [local go_sem ↓ high] zeroWi zeroDe zeroCh zeroEn zeroMp zeroSp

theorem fold_len (l k : List Mp) : (l.foldl insP k).length = k.length + l.length := by rw [(fold_perm l k).length_eq, List.length_append]
theorem take_fold {α : Type} (f : α → Mp) (l : List α) (P : List Mp) (k : Nat) (h : k < l.length) : ((l.take (k + 1)).map f).foldl insP P = insP (((l.take k).map f).foldl insP P) (f l[k]) := by
  rw [take_snoc_map f l k h, List.foldl_append]; rfl
theorem take_foldC (gi : Int) (l : List Ch) (P : List Mp) (k : Nat) (h : k < l.length) : ((l.take (k + 1)).flatMap (chM gi)).foldl insP P = (chM gi l[k]).foldl insP (((l.take k).flatMap (chM gi)).foldl insP P) := by
  rw [List.take_succ_eq_append_getElem h, List.flatMap_append, List.foldl_append]; simp
theorem flat_len (gi : Int) : ∀ l : List Ch, (l.flatMap (chM gi)).length ≤ 2 * l.length
  | [] => by simp
  | c :: l => by
    rw [List.flatMap_cons, List.length_append, List.length_cons]
    have h := flat_len gi l
    have h2 := chM_len gi c
    have h3 : (chM gi c).length ≤ 2 := by rw [h2]; split <;> split <;> omega
    omega
theorem parts_sort (t : Gs) (chs : List Ch) (g : Int) : sortP (partsP t chs g) = (chs.flatMap (chM g)).foldl insP ((t.devs.map deM).foldl insP ((t.wins.map wiM).foldl insP [])) := by
  unfold sortP partsP; rw [List.foldl_append, List.foldl_append]
theorem u64BZ {z : Int} (h : u64B z) : u64Z z := by unfold u64B at h; unfold u64Z; omega
theorem parts_B {t : Gs} {chs : List Ch} {g : Int} (hw : ∀ y ∈ t.wins, WiB y) (hd : ∀ y ∈ t.devs, DeB y) (hc : ∀ y ∈ chs, ChB y) : ∀ y ∈ sortP (partsP t chs g), MpB y := fun y hy => by
  have hy := (sortP_perm _).mem_iff.1 hy
  unfold partsP at hy
  rcases List.mem_append.1 hy with h | h
  · obtain ⟨z, hz, rfl⟩ := List.mem_map.1 h
    exact ⟨u64BZ (hw z hz).1, u64BZ (hw z hz).2.1, u64BZ (hw z hz).2.2.1⟩
  rcases List.mem_append.1 h with h | h
  · obtain ⟨z, hz, rfl⟩ := List.mem_map.1 h
    exact ⟨u64BZ (hd z hz).1, u64BZ (hd z hz).2.1, u64BZ (hd z hz).2.2⟩
  · obtain ⟨z, hz, h⟩ := List.mem_flatMap.1 h
    have hb := hc z hz
    unfold chM at h
    rcases List.mem_append.1 h with h | h
    · split at h
      · obtain rfl := List.mem_singleton.1 h
        exact ⟨u64BZ hb.2.2.1.2.2, u64BZ hb.1, u64BZ hb.2.1⟩
      · cases h
    · split at h
      · obtain rfl := List.mem_singleton.1 h
        exact ⟨u64BZ hb.2.2.2.2.2, u64BZ hb.1, u64BZ hb.2.1⟩
      · cases h
/-- The parts of a channel's first ends. -/
def chF (gi : Int) (y : Ch) (P : List Mp) : Nat → List Mp
  | 0 => P
  | 1 => if y.a.guest = gi then insP P (enM y y.a) else P
  | _ => if y.b.guest = gi then insP (if y.a.guest = gi then insP P (enM y y.a) else P) (enM y y.b) else (if y.a.guest = gi then insP P (enM y y.a) else P)
theorem chF_two (gi : Int) (y : Ch) (P : List Mp) : chF gi y P 2 = (chM gi y).foldl insP P := by
  unfold chF chM
  by_cases h1 : y.a.guest = gi <;> by_cases h2 : y.b.guest = gi <;> simp [h1, h2]
theorem chF_len (gi : Int) (y : Ch) (P : List Mp) (i : Nat) : (chF gi y P i).length ≤ P.length + 2 := by
  have hins : ∀ (l : List Mp) (x : Mp), (insP l x).length = l.length + 1 := fun l x => by rw [(insP_perm l x).length_eq, List.length_cons]
  unfold chF
  split
  · omega
  · split
    · rw [hins]; omega
    · omega
  · split <;> split <;> (try rw [hins]) <;> (try rw [hins]) <;> omega
def MapsP (r : Except Nat (List Mp)) (w : World) (e : Ending) (w' : World) : Prop := match r with
  | .error n => e = .returned (.tuple #[.slice none 0 0, .int .i64 (n : Nat)]) ∧ Below w.heap.size w w'
  | .ok l => ∃ v, e = .returned (.tuple #[v, .int .i64 0]) ∧ OwnM w' w.heap.size v l ∧ Below w.heap.size w w'
theorem wl_indexM {P : Program} {w : World} {ops : Array Oper} {rest : List Oper} {o : Oper} {a : Act} {Q : Exit → Act → World → Prop} (hgd : o.guard = none) (ty : TypeId) (x y : Operand) (ho : o.op = .index ty x y) (cs : Array Value) (hx : a.eval x = .agg cs) (z : Int) (hy : a.eval y = .int .i64 z) (v : Value)
    (hr : (Instr.index ty (.agg cs) (.int .i64 z)).run P w = .ok v w) (h : wpList P ops Q rest (a.put o.dst v) w) : wpList P ops Q (o :: rest) a w :=
  wpList_plain hgd fun K hK => by
    unfold Oper.wp execOp
    simp only [ho, hx, hy, Sem.run_bind, hr, Result.andThen_ok, Sem.run_pure]
    exact hK _ _ h
set_option maxRecDepth 100000 in
theorem indexA (a b : En) (w : World) : (Instr.index 52 (.agg (vec 6 (twoE a b))) (.int .i64 0)).run Try.prog w = .ok (.agg (vec 3 (endE a))) w := by kernel_rfl
set_option maxRecDepth 100000 in
theorem indexB (a b : En) (w : World) : (Instr.index 52 (.agg (vec 6 (twoE a b))) (.int .i64 1)).run Try.prog w = .ok (.agg (vec 3 (endE b))) w := by kernel_rfl
theorem infoTw : (Try.prog.info? 52).map (·.size) = some 6 := by kernel_rfl
theorem add_atM (b o i : Nat) : ((⟨b, o, none⟩ : Addr).add i) = ⟨b, o + i, none⟩ := by simp [Addr.add]
theorem chF_yA {gi : Int} {y : Ch} (P : List Mp) (h : y.a.guest = gi) : chF gi y P 1 = insP (chF gi y P 0) (enM y y.a) := by
  show (if y.a.guest = gi then insP P (enM y y.a) else P) = insP P (enM y y.a)
  exact if_pos h
theorem chF_nA {gi : Int} {y : Ch} (P : List Mp) (h : ¬ y.a.guest = gi) : chF gi y P 1 = chF gi y P 0 := by
  show (if y.a.guest = gi then insP P (enM y y.a) else P) = P
  exact if_neg h
theorem chF_yB {gi : Int} {y : Ch} (P : List Mp) (h : y.b.guest = gi) : chF gi y P 2 = insP (chF gi y P 1) (enM y y.b) := by
  show (if y.b.guest = gi then insP (if y.a.guest = gi then insP P (enM y y.a) else P) (enM y y.b) else (if y.a.guest = gi then insP P (enM y y.a) else P)) = insP (if y.a.guest = gi then insP P (enM y y.a) else P) (enM y y.b)
  exact if_pos h
theorem chF_nB {gi : Int} {y : Ch} (P : List Mp) (h : ¬ y.b.guest = gi) : chF gi y P 2 = chF gi y P 1 := by
  show (if y.b.guest = gi then insP (if y.a.guest = gi then insP P (enM y y.a) else P) (enM y y.b) else (if y.a.guest = gi then insP P (enM y y.a) else P)) = (if y.a.guest = gi then insP P (enM y y.a) else P)
  exact if_neg h
theorem wl_slh {P : Program} {w : World} {ops : Array Oper} {rest : List Oper} {o : Oper} {a : Act} {Q : Exit → Act → World → Prop} (hgd : o.guard = none) (t : TypeId) (x hi : Operand) (ho : o.op = .slice t x none (some hi) none) (vx vh : Value) (hx : a.eval x = vx) (hh : a.eval hi = vh) {v : Value}
    (hr : (Instr.sliceAt t vx none (some vh) none).run P w = .ok v w) (h : wpList P ops Q rest (a.put o.dst v) w) : wpList P ops Q (o :: rest) a w :=
  wpList_plain hgd fun K hK => by
    unfold Oper.wp execOp
    simp only [ho, Option.map_none, Option.map_some, hx, hh, Sem.run_bind, hr, Result.andThen_ok, Sem.run_pure]
    exact hK _ _ h
set_option maxRecDepth 100000 in
theorem slice5_hi (a : Addr) (N c k : Nat) (hk : k ≤ c) (W : World) : (Instr.sliceAt 29 (.slice (some a) N c) none (some (.int .i64 (k : Int))) none).run Try.prog W = .ok (.slice (some a) k c) W := by
  rw [run_sliceAt_slice W _ _ _ _ _ mp_elem, run_slice_h W _ _ _ _ mp_elem .i64 (k : Int) (by omega) (by omega), mp_size]
  simp [Result.andThen_ok, sliced, Addr.add]
set_option maxHeartbeats 4000000 in
set_option maxRecDepth 100000 in
theorem rmaps_any (x : Cf) (a c : Value) (g : Int) (w : World) (hx : CfR w w.heap.size x a c) (hb : CfB x) (hf : fewC x = true) : Calls Try.prog 10 #[cfVal x a c, .int .i64 g] w (MapsP (mapsP x g) w) := by
  obtain ⟨q0, hq0⟩ : ∃ q, q = w.heap.size := ⟨_, rfl⟩
  obtain ⟨V, hV⟩ : ∃ V, V = w.alloc (.cells (vec 3 (cfE x.ver a c)) 26) := ⟨_, rfl⟩
  have k1 : Arr V q0 26 3 (cfE x.ver a c) := by rw [hV, hq0]; exact Arr.new w _ _ _
  have hB : Below w.heap.size w V := by rw [hV]; exact (Below.refl _ _).alloc (Nat.le_refl _) _
  obtain ⟨hfg, hfc, hfa⟩ := few_gs hf
  obtain ⟨A, d, A2, d2, rfl, rfl, hch, hgu⟩ := cf_guest (hx.up hB)
  obtain ⟨x0, x1, x2⟩ := cf_cells k1
  obtain ⟨N, hN⟩ : ∃ N, N = x.gs.length := ⟨_, rfl⟩
  obtain ⟨M, hM⟩ : ∃ M, M = x.chs.length := ⟨_, rfl⟩
  unfold cfVal
  rw [← hN] at x1 hV ⊢
  rw [← hM] at x2 hV ⊢
  rw [← hN, ← hM] at k1
  have hNb : N ≤ 20 := by rw [hN]; exact hfg
  have hMb : M ≤ 40 := by rw [hM]; exact hfc
  have HW := Lib.hid hV
  have HQ := Lib.hid hq0
  have HB0 := Lib.hid hB
  have HCELL : Hid (∀ Y, Below V.heap.size V Y → Y.cell? ⟨q0, 1, none⟩ = some (.slice A N d) ∧ Y.cell? ⟨q0, 2, none⟩ = some (.slice A2 M d2)) := Lib.hid (fun Y hY => by
    have h := k1.under hY
    exact ⟨h.cell (i := 1) (by decide), h.cell (i := 2) (by decide)⟩)
  have HERR : Hid (∀ n W, Below V.heap.size V W → MapsP (.error n) w (.returned (.tuple #[.slice none 0 0, .int .i64 (n : Nat)])) W) := Lib.hid (fun n W h => ⟨rfl, hB.trans (h.mono hB.size)⟩)
  have HEND : Hid (∀ v W L, OwnM W V.heap.size v L → Below V.heap.size V W → MapsP (.ok L) w (.returned (.tuple #[v, .int .i64 0])) W) := Lib.hid (fun v W L h1 h2 => ⟨v, rfl, h1.low hB.size, hB.trans (h2.mono hB.size)⟩)
  by_cases hno : g < 0 ∨ (x.gs.length : Int) ≤ g
  · have hg0 : mapsP x g = .error 1 := by unfold mapsP; rw [guestAt_no hno]
    rw [hg0]
    have HE := Lib.hid (HERR.out 1 V (Below.refl _ _))
    have y1 := (HCELL.out V (Below.refl _ _)).1
    rw [← hN] at hno
    clear hgu hch hV k1 hB hx hb hf hfg hfc hfa x0 x1 x2 hN hM hq0 hg0 HEND HERR HCELL
    by_cases h0 : g < 0
    · clear hno
      go_enter Try.func10, Try.ntmps10
      go_upto_region 1 with fail
      rw [← HW.out, ← HQ.out]
      clear HW
      go_wp2_with fail
      go_ret2
      exact HE.out
    · have h1 : (N : Int) ≤ g := by omega
      clear hno
      go_enter Try.func10, Try.ntmps10
      go_upto_region 1 with fail
      rw [← HW.out, ← HQ.out]
      clear HW
      go_wp2_with fail
      go_ret2
      exact HE.out
  · obtain ⟨i, rfl⟩ := Int.eq_ofNat_of_zero_le (show 0 ≤ g by omega)
    have hi : i < x.gs.length := by omega
    have hpg : mapsP x (i : Int) = if okM (sortP (partsP x.gs[i] x.chs (i : Int))) = true then .ok (sortP (partsP x.gs[i] x.chs (i : Int))) else .error 160 := by
      unfold mapsP
      rw [guestAt_yes hi]
    rw [hpg]
    obtain ⟨a0, q, A1, e1, A3, e3, rfl, hq, hcell⟩ := hgu i hi
    have hgb := hb.gs _ (List.getElem_mem hi)
    have hfew := gFew_iff (hfa _ (List.getElem_mem hi))
    have hSB := parts_B (g := (i : Int)) hgb.wins hgb.devs hb.chs
    have hSE := parts_sort x.gs[i] x.chs (i : Int)
    obtain ⟨S, hS⟩ : ∃ S, S = sortP (partsP x.gs[i] x.chs (i : Int)) := ⟨_, rfl⟩
    rw [← hS] at hSB hSE ⊢
    obtain ⟨lw, hlw⟩ : ∃ l, l = x.gs[i].wins := ⟨_, rfl⟩
    obtain ⟨ld, hld⟩ : ∃ l, l = x.gs[i].devs := ⟨_, rfl⟩
    obtain ⟨lc, hlc⟩ : ∃ l, l = x.chs := ⟨_, rfl⟩
    have hwb : ∀ y ∈ lw, WiB y := by rw [hlw]; exact hgb.wins
    have hdb : ∀ y ∈ ld, DeB y := by rw [hld]; exact hgb.devs
    have hcb : ∀ y ∈ lc, ChB y := by rw [hlc]; exact hb.chs
    have hwl : lw.length ≤ 20 := by rw [hlw]; exact hfew.1
    have hdl : ld.length ≤ 20 := by rw [hld]; exact hfew.2.1
    rw [← hlw, ← hld] at hcell
    rw [← hlw, ← hld, ← hlc] at hSE
    rw [← hlc] at hch hM
    obtain ⟨NW, hNW⟩ : ∃ n, n = lw.length := ⟨_, rfl⟩
    obtain ⟨ND, hND⟩ : ∃ n, n = ld.length := ⟨_, rfl⟩
    have hNWb : NW ≤ 20 := by rw [hNW]; exact hwl
    have hNDb : ND ≤ 20 := by rw [hND]; exact hdl
    rw [← hNW, ← hND] at hcell
    obtain ⟨gi, hgi⟩ : ∃ z : Int, z = (i : Int) := ⟨_, rfl⟩
    rw [← hgi] at hSE
    have HSL : Hid (S.length ≤ 120) := Lib.hid (by rw [hSE, fold_len, fold_len, fold_len, List.length_map, List.length_map, List.length_nil]; have := flat_len gi lc; omega)
    obtain ⟨Q, hQ⟩ : ∃ Q, Q = MapsP (if okM S = true then .ok S else .error 160) w := ⟨_, rfl⟩
    have HGOOD : Hid (okM S = true → ∀ v W, OwnM W V.heap.size v S → Below V.heap.size V W → Q (.returned (.tuple #[v, .int .i64 0])) W) := Lib.hid (fun h v W h1 h2 => by rw [hQ, if_pos h]; exact HEND.out v W S h1 h2)
    have HBAD : Hid (okM S = false → ∀ W, Below V.heap.size V W → Q (.returned (.tuple #[.slice none 0 0, .int .i64 160])) W) := Lib.hid (fun h W h2 => by rw [hQ, if_neg (by rw [h]; decide)]; exact HERR.out 160 W h2)
    rw [← hQ]
    have HG := Lib.hid hcell
    have HCH := Lib.hid hch
    have HNW := Lib.hid hNW
    have HND := Lib.hid hND
    have HNM := Lib.hid hM
    have HSE := Lib.hid hSE
    have HSB := Lib.hid hSB
    have hiN : (i : Int) < (N : Int) := by omega
    have hiN2 : i < N := by omega
    have hi0 : ¬ (i : Int) < 0 := by omega
    have hiG : ¬ (N : Int) ≤ (i : Int) := by omega
    have HGI := Lib.hid hgi
    have y1 := (HCELL.out V (Below.refl _ _)).1
    obtain ⟨⟨z1, z2⟩, -⟩ := hcell V (Below.refl _ _)
    clear hgu hch hV k1 hB hx hb hf hfg hfc hfa x0 x1 x2 hN hM hq0 hno hpg hcell hgb hfew hlw hld hlc hwb hdb hcb hwl hdl hNW hND hi HEND HERR hQ hS hSE hSB hgi
    go_enter Try.func10, Try.ntmps10
    go_upto_region 1 with fail
    rw [← HW.out, ← HQ.out]
    clear HW
    go_upto_region 4 with fail
    clear hiG
    go_wp2_with fail
    clear z1 z2 y1
    go_loopw [6, 35] (fun s v W => ∃ (k : Nat) (v0 : Value), k ≤ NW ∧ v = .int .i64 k ∧ v0 = s ∧ Hid (OwnM W V.heap.size v0 (((lw.take k).map wiM).foldl insP [])) ∧ Hid (Below V.heap.size V W)) (fun _ v _ => NW - (intOf v).toNat)
    case atStart => exact ⟨0, _, Nat.zero_le _, rfl, rfl, Lib.hid (OwnE.nil _ _), Lib.hid (Below.refl _ _)⟩
    case round =>
      obtain ⟨k, v0, hk, rfl, rfl, HO, HB⟩ := hrel
      obtain ⟨W, hW⟩ : ∃ W : World, W = wr := ⟨_, rfl⟩
      subst hW
      by_cases hlt0 : k < NW
      · have hlt : k < lw.length := by have := HNW.out; omega
        have g1 := (HG.out W HB.out).2.1
        obtain ⟨b0, p, ea, hp, -, hcp⟩ := g1.at hlt
        obtain ⟨y, hy⟩ : ∃ y, y = lw[k] := ⟨_, rfl⟩
        rw [← hy] at hcp
        have HNEXT : Hid (((lw.take (k + 1)).map wiM).foldl insP [] = insP (((lw.take k).map wiM).foldl insP []) (wiM y)) := Lib.hid (by rw [take_fold wiM lw [] k hlt, ← hy])
        have hki : (k : Int) < (NW : Int) := by omega
        have hlen1 : (((lw.take k).map wiM).foldl insP []).length ≤ 1000 := by rw [fold_len, List.length_map, List.length_take]; simp only [List.length_nil]; omega
        obtain ⟨r, hr⟩ : ∃ r, r = W.heap.size := ⟨_, rfl⟩
        obtain ⟨X, hX⟩ : ∃ X, X = (W.alloc (.cells (vec 4 (winE zWi)) 64)).setRow W.heap.size (vec 4 (winE y)) := ⟨_, rfl⟩
        have b1 : Below W.heap.size W X := by rw [hX]; exact below_row ((Below.refl _ _).alloc (Nat.le_refl _) _) (Nat.le_refl _) _
        have a1 : Arr X r 64 4 (winE y) := by rw [hX, hr]; exact (Arr.new W _ _ _).row _
        have HBX := Lib.hid (HB.out.trans (b1.mono HB.out.size))
        have HPUT := Lib.hid (rput16_any (wiM y) (OwnE.on HO.out b1 (Nat.le_refl _)) hlen1)
        have HCP := Lib.hid hcp
        have HX := Lib.hid hX
        have HRR := Lib.hid hr
        have c0 : X.cell? ⟨r, 0, none⟩ = some (.int .u64 y.ipa) := a1.cell (i := 0) (by decide)
        have c1 : X.cell? ⟨r, 1, none⟩ = some (.int .u64 y.pa) := a1.cell (i := 1) (by decide)
        have c2 : X.cell? ⟨r, 2, none⟩ = some (.int .u64 y.size) := a1.cell (i := 2) (by decide)
        have c3 : X.cell? ⟨r, 3, none⟩ = some (.int .i64 y.perm) := a1.cell (i := 3) (by decide)
        subst ea
        clear g1 hcp hlt hr hX b1 a1 hy hlen1 HO
        go_upto_region 7 with (first
          | ((with_reducible show wpList _ _ _ (Oper.mk _ (.load _ _) _ _ _ _ :: _) _ _); refine wl_load_q rfl 64 _ rfl p rfl _ (run_load_q HCP.out Try.underlying64 rfl infoWi) ?_)
          | ((with_reducible show wpList _ _ _ (Oper.mk _ (.store _ _ _) _ _ _ _ :: _) _ _); refine wl_store rfl 64 _ _ rfl _ rfl _ rfl (run_store_arr (Arr.new W _ _ _) (winE y) infoWi (winE_one _ _)) ?_))
        rw [← HX.out, ← HRR.out]
        clear HX HCP HRR
        go_wp2_with (first
          | ((with_reducible show wpList _ _ _ (Oper.mk _ (.build _ _) _ _ _ _ :: _) _ _); refine wl_build rfl 39 _ rfl (vec 5 (mpE (wiM y))) (by kernel_rfl) ?_)
          | (go_at_call 26; refine HPUT.out.mono ?_; rintro e w2 ⟨v2, rfl, ho, hd⟩; have HO2 := Lib.hid ho; have HD := Lib.hid hd; clear ho hd))
        go_roundw
        case rel => exact ⟨k + 1, v2, by omega, by go_num, rfl, Lib.hid (by rw [HNEXT.out]; exact HO2.out.low HBX.out.size), Lib.hid (HBX.out.trans (HD.out.mono HBX.out.size))⟩
        case measure => simp [intOf]; omega
      · obtain rfl : k = NW := by omega
        clear hlt0
        obtain ⟨⟨z1, z2⟩, -⟩ := HG.out W HB.out
        have y1 := (HCELL.out W HB.out).1
        go_wp2_with fail
        clear z1 z2 y1
        obtain ⟨PW, hPW⟩ : ∃ l, l = (lw.map wiM).foldl insP [] := ⟨_, rfl⟩
        have HOW : Hid (OwnM W V.heap.size v0 PW) := Lib.hid (by rw [hPW]; have h := HO.out; rw [HNW.out, List.take_length] at h; exact h)
        have HPL : Hid (PW.length = k) := Lib.hid (by rw [hPW, fold_len, List.length_map, List.length_nil, HNW.out, Nat.zero_add])
        have HSE2 : Hid (S = (lc.flatMap (chM gi)).foldl insP ((ld.map deM).foldl insP PW)) := Lib.hid (by rw [hPW]; exact HSE.out)
        clear hPW HO HSE
        go_loopw [6, 58] (fun s v Y => ∃ (m : Nat) (v0 : Value), m ≤ ND ∧ v = .int .i64 m ∧ v0 = s ∧ Hid (OwnM Y V.heap.size v0 (((ld.take m).map deM).foldl insP PW)) ∧ Hid (Below V.heap.size V Y)) (fun _ v _ => ND - (intOf v).toNat)
        case atStart => exact ⟨0, _, Nat.zero_le _, rfl, rfl, Lib.hid (by rw [List.take_zero, List.map_nil]; exact HOW.out), HB⟩
        case round =>
          obtain ⟨m, v0, hm, rfl, rfl, HO, HB⟩ := hrel
          obtain ⟨Y, hY⟩ : ∃ Y : World, Y = wr := ⟨_, rfl⟩
          subst hY
          by_cases hlt0 : m < ND
          · have hlt : m < ld.length := by have := HND.out; omega
            have g1 := (HG.out Y HB.out).2.2
            obtain ⟨b0, p, ea, hp, -, hcp⟩ := g1.at hlt
            obtain ⟨y, hy⟩ : ∃ y, y = ld[m] := ⟨_, rfl⟩
            rw [← hy] at hcp
            have HNEXT : Hid (((ld.take (m + 1)).map deM).foldl insP PW = insP (((ld.take m).map deM).foldl insP PW) (deM y)) := Lib.hid (by rw [take_fold deM ld PW m hlt, ← hy])
            have hki : (m : Int) < (ND : Int) := by omega
            have hlen1 : (((ld.take m).map deM).foldl insP PW).length ≤ 1000 := by rw [fold_len, List.length_map, List.length_take]; rw [HPL.out]; omega
            obtain ⟨r, hr⟩ : ∃ r, r = Y.heap.size := ⟨_, rfl⟩
            obtain ⟨X, hX⟩ : ∃ X, X = (Y.alloc (.cells (vec 3 (devE zDe)) 72)).setRow Y.heap.size (vec 3 (devE y)) := ⟨_, rfl⟩
            have b1 : Below Y.heap.size Y X := by rw [hX]; exact below_row ((Below.refl _ _).alloc (Nat.le_refl _) _) (Nat.le_refl _) _
            have a1 : Arr X r 72 3 (devE y) := by rw [hX, hr]; exact (Arr.new Y _ _ _).row _
            have HBX := Lib.hid (HB.out.trans (b1.mono HB.out.size))
            have HPUT := Lib.hid (rput16_any (deM y) (OwnE.on HO.out b1 (Nat.le_refl _)) hlen1)
            have HCP := Lib.hid hcp
            have HX := Lib.hid hX
            have HRR := Lib.hid hr
            have c0 : X.cell? ⟨r, 0, none⟩ = some (.int .u64 y.ipa) := a1.cell (i := 0) (by decide)
            have c1 : X.cell? ⟨r, 1, none⟩ = some (.int .u64 y.pa) := a1.cell (i := 1) (by decide)
            have c2 : X.cell? ⟨r, 2, none⟩ = some (.int .u64 y.size) := a1.cell (i := 2) (by decide)
            subst ea
            clear g1 hcp hlt hr hX b1 a1 hy hlen1 HO
            go_upto_region 12 with (first
              | ((with_reducible show wpList _ _ _ (Oper.mk _ (.load _ _) _ _ _ _ :: _) _ _); refine wl_load_q rfl 72 _ rfl p rfl _ (run_load_q HCP.out Try.underlying72 rfl infoDe) ?_)
              | ((with_reducible show wpList _ _ _ (Oper.mk _ (.store _ _ _) _ _ _ _ :: _) _ _); refine wl_store rfl 72 _ _ rfl _ rfl _ rfl (run_store_arr (Arr.new Y _ _ _) (devE y) infoDe (devE_one _ _)) ?_))
            rw [← HX.out, ← HRR.out]
            clear HX HCP HRR
            go_wp2_with (first
              | ((with_reducible show wpList _ _ _ (Oper.mk _ (.build _ _) _ _ _ _ :: _) _ _); refine wl_build rfl 39 _ rfl (vec 5 (mpE (deM y))) (by kernel_rfl) ?_)
              | (go_at_call 26; refine HPUT.out.mono ?_; rintro e w2 ⟨v2, rfl, ho, hd⟩; have HO2 := Lib.hid ho; have HD := Lib.hid hd; clear ho hd))
            go_roundw
            case rel => exact ⟨m + 1, v2, by omega, by go_num, rfl, Lib.hid (by rw [HNEXT.out]; exact HO2.out.low HBX.out.size), Lib.hid (HBX.out.trans (HD.out.mono HBX.out.size))⟩
            case measure => simp [intOf]; omega
          · obtain rfl : m = ND := by omega
            clear hlt0
            obtain ⟨PD, hPD⟩ : ∃ l, l = (ld.map deM).foldl insP PW := ⟨_, rfl⟩
            have HOD : Hid (OwnM Y V.heap.size v0 PD) := Lib.hid (by rw [hPD]; have h := HO.out; rw [HND.out, List.take_length] at h; exact h)
            have HDL : Hid (PD.length ≤ 40) := Lib.hid (by rw [hPD, fold_len, List.length_map, HPL.out]; have := HND.out; omega)
            have HSE3 : Hid (S = (lc.flatMap (chM gi)).foldl insP PD) := Lib.hid (by rw [hPD]; exact HSE2.out)
            have y2 := (HCELL.out Y HB.out).2
            clear hPD HO HSE2 HOW
            go_wp2_with fail
            clear y2
            rw [← HGI.out]
            go_loopw [6, 75] (fun s v W => ∃ (n : Nat) (v0 : Value), n ≤ M ∧ v = .int .i64 n ∧ v0 = s ∧ Hid (OwnM W V.heap.size v0 (((lc.take n).flatMap (chM gi)).foldl insP PD)) ∧ Hid (Below V.heap.size V W)) (fun _ v _ => M - (intOf v).toNat)
            case atStart => exact ⟨0, _, Nat.zero_le _, rfl, rfl, Lib.hid (by rw [List.take_zero, List.flatMap_nil]; exact HOD.out), HB⟩
            case round =>
              obtain ⟨n, v0, hn, rfl, rfl, HO, HB⟩ := hrel
              obtain ⟨W1, hW1⟩ : ∃ Y : World, Y = wr := ⟨_, rfl⟩
              subst hW1
              by_cases hlt0 : n < M
              · have hlt : n < lc.length := by have := HNM.out; omega
                have g1 := HCH.out W1 HB.out
                obtain ⟨b0, p, ea, hp, -, hcp⟩ := g1.at hlt
                obtain ⟨y, hy⟩ : ∃ y, y = lc[n] := ⟨_, rfl⟩
                rw [← hy] at hcp
                obtain ⟨PK, hPK⟩ : ∃ l, l = ((lc.take n).flatMap (chM gi)).foldl insP PD := ⟨_, rfl⟩
                have HNEXT : Hid (((lc.take (n + 1)).flatMap (chM gi)).foldl insP PD = chF gi y PK 2) := Lib.hid (by rw [take_foldC gi lc PD n hlt, ← hy, chF_two, hPK])
                have HPKL : Hid (PK.length ≤ 120) := Lib.hid (by rw [hPK, fold_len]; have h1 := flat_len gi (lc.take n); rw [List.length_take] at h1; have := HDL.out; omega)
                rw [← hPK] at HO
                have hki : (n : Int) < (M : Int) := by omega
                obtain ⟨r, hr⟩ : ∃ r, r = W1.heap.size := ⟨_, rfl⟩
                obtain ⟨X, hX⟩ : ∃ X, X = (W1.alloc (.cells (vec 8 (chE zCh)) 54)).setRow W1.heap.size (vec 8 (chE y)) := ⟨_, rfl⟩
                have b1 : Below W1.heap.size W1 X := by rw [hX]; exact below_row ((Below.refl _ _).alloc (Nat.le_refl _) _) (Nat.le_refl _) _
                have a1 : Arr X r 54 8 (chE y) := by rw [hX, hr]; exact (Arr.new W1 _ _ _).row _
                have HBX := Lib.hid (HB.out.trans (b1.mono HB.out.size))
                have HOX := Lib.hid (OwnE.on HO.out b1 (Nat.le_refl _))
                have HAC := Lib.hid a1
                have HCP := Lib.hid hcp
                have HX := Lib.hid hX
                have HRR := Lib.hid hr
                have HTW : Hid (∀ i, i < 6 → X.cell? ((⟨r, 2, none⟩ : Addr).add i) = some (twoE y.a y.b i)) := Lib.hid (fun i hi => by
                  rw [add_atM, HAC.out.cell (by omega), Nat.add_comm 2 i]
                  rfl)
                subst ea
                clear g1 hcp hlt hr hX b1 a1 hy hPK HO
                go_upto_region 17 with (first
                  | ((with_reducible show wpList _ _ _ (Oper.mk _ (.load _ _) _ _ _ _ :: _) _ _); refine wl_load_q rfl 54 _ rfl p rfl _ (run_load_q HCP.out Try.underlying54 rfl infoCh) ?_)
                  | ((with_reducible show wpList _ _ _ (Oper.mk _ (.store _ _ _) _ _ _ _ :: _) _ _); refine wl_store rfl 54 _ _ rfl _ rfl _ rfl (run_store_arr (Arr.new W1 _ _ _) (chE y) infoCh (chE_one _ _)) ?_))
                rw [← HX.out, ← HRR.out]
                clear HX HCP HRR
                go_wp2_with ((with_reducible show wpList _ _ _ (Oper.mk _ (.load _ _) _ _ _ _ :: _) _ _); refine wl_load_q rfl 52 _ rfl ⟨r, 2, none⟩ rfl _ (run_load_q HTW.out Try.underlying52 rfl infoTw) ?_)
                clear HTW
                go_loopw [6, 81] (fun s j Y => ∃ (i : Nat) (v1 : Value), i ≤ 2 ∧ j = .int .i64 i ∧ v1 = s ∧ Hid (OwnM Y V.heap.size v1 (chF gi y PK i)) ∧ Hid (Below X.heap.size X Y)) (fun _ j _ => 2 - (intOf j).toNat)
                case atStart => exact ⟨0, _, Nat.zero_le _, rfl, rfl, HOX, Lib.hid (Below.refl _ _)⟩
                case round =>
                  obtain ⟨i2, v1, hi2, rfl, rfl, HOZ, HBZ⟩ := hrel
                  obtain ⟨Z, hZ⟩ : ∃ Y : World, Y = wr := ⟨_, rfl⟩
                  subst hZ
                  clear HOX
                  rcases (by omega : i2 = 0 ∨ i2 = 1 ∨ i2 = 2) with rfl | rfl | rfl
                  · obtain ⟨z, hz⟩ : ∃ z, z = y.a := ⟨_, rfl⟩
                    have HIX : Hid (∀ W : World, (Instr.index 52 (.agg (vec 6 (twoE y.a y.b))) (.int .i64 0)).run Try.prog W = .ok (.agg (vec 3 (endE z))) W) := Lib.hid (fun W => by rw [hz]; exact indexA y.a y.b W)
                    have HYES : Hid (z.guest = gi → chF gi y PK 1 = insP (chF gi y PK 0) (enM y z)) := Lib.hid (fun h => by rw [hz] at h ⊢; exact chF_yA PK h)
                    have HNOT : Hid (¬ z.guest = gi → chF gi y PK 1 = chF gi y PK 0) := Lib.hid (fun h => by rw [hz] at h; exact chF_nA PK h)
                    have hlen1 : (chF gi y PK 0).length ≤ 1000 := by have := chF_len gi y PK 0; have := HPKL.out; omega
                    obtain ⟨u, hu⟩ : ∃ u, u = Z.heap.size := ⟨_, rfl⟩
                    obtain ⟨X3, hX3⟩ : ∃ X, X = (Z.alloc (.cells (vec 3 (endE zEn)) 51)).setRow Z.heap.size (vec 3 (endE z)) := ⟨_, rfl⟩
                    have b3 : Below Z.heap.size Z X3 := by rw [hX3]; exact below_row ((Below.refl _ _).alloc (Nat.le_refl _) _) (Nat.le_refl _) _
                    have a3 : Arr X3 u 51 3 (endE z) := by rw [hX3, hu]; exact (Arr.new Z _ _ _).row _
                    have HB3 := Lib.hid (HBZ.out.trans (b3.mono HBZ.out.size))
                    have a4 := HAC.out.under HB3.out
                    have HO3 := Lib.hid (OwnE.on HOZ.out b3 (Nat.le_refl _))
                    have HPUT := Lib.hid (rput16_any (enM y z) HO3.out hlen1)
                    have HX3 := Lib.hid hX3
                    have HU := Lib.hid hu
                    have c0 : X3.cell? ⟨r, 0, none⟩ = some (.int .u64 y.pa) := a4.cell (i := 0) (by decide)
                    have c1 : X3.cell? ⟨r, 1, none⟩ = some (.int .u64 y.size) := a4.cell (i := 1) (by decide)
                    have d0 : X3.cell? ⟨u, 0, none⟩ = some (.int .i64 z.guest) := a3.cell (i := 0) (by decide)
                    have d1 : X3.cell? ⟨u, 1, none⟩ = some (.int .i64 z.perm) := a3.cell (i := 1) (by decide)
                    have d2 : X3.cell? ⟨u, 2, none⟩ = some (.int .u64 z.ipa) := a3.cell (i := 2) (by decide)
                    clear hz hu hX3 b3 a3 a4 hlen1 HOZ
                    have hix := HIX.out Z
                    go_upto_region 20 with ((with_reducible show wpList _ _ _ (Oper.mk _ (.store _ _ _) _ _ _ _ :: _) _ _); refine wl_store rfl 51 _ _ rfl _ rfl _ rfl (run_store_arr (Arr.new Z _ _ _) (endE z) infoEn (endE_one _ _)) ?_)
                    rw [← HX3.out, ← HU.out]
                    clear HX3 HU HIX hix
                    by_cases ta : z.guest = gi
                    · have ta1 : (z.guest == gi) = true := by simpa using ta
                      have HF := Lib.hid (HYES.out ta)
                      clear HYES HNOT
                      go_wp2_with (first
                        | ((with_reducible show wpList _ _ _ (Oper.mk _ (.build _ _) _ _ _ _ :: _) _ _); refine wl_build rfl 39 _ rfl (vec 5 (mpE (enM y z))) (by kernel_rfl) ?_)
                        | (go_at_call 26; refine HPUT.out.mono ?_; rintro e w2 ⟨v2, rfl, ho, hd⟩; have HO2 := Lib.hid ho; have HD := Lib.hid hd; clear ho hd))
                      go_roundw
                      case rel => exact ⟨1, v2, by omega, by go_num, rfl, Lib.hid (by rw [HF.out]; exact HO2.out.low (Nat.le_trans HBX.out.size HB3.out.size)), Lib.hid (HB3.out.trans (HD.out.mono HB3.out.size))⟩
                      case measure => simp [intOf]
                    · have ta1 : (z.guest == gi) = false := by simpa using ta
                      have HF := Lib.hid (HNOT.out ta)
                      clear HYES HNOT
                      go_wp2_with fail
                      go_roundw
                      case rel => exact ⟨1, _, by omega, by go_num, rfl, Lib.hid (by rw [HF.out]; exact HO3.out), HB3⟩
                      case measure => simp [intOf]
                  · obtain ⟨z, hz⟩ : ∃ z, z = y.b := ⟨_, rfl⟩
                    have HIX : Hid (∀ W : World, (Instr.index 52 (.agg (vec 6 (twoE y.a y.b))) (.int .i64 1)).run Try.prog W = .ok (.agg (vec 3 (endE z))) W) := Lib.hid (fun W => by rw [hz]; exact indexB y.a y.b W)
                    have HYES : Hid (z.guest = gi → chF gi y PK 2 = insP (chF gi y PK 1) (enM y z)) := Lib.hid (fun h => by rw [hz] at h ⊢; exact chF_yB PK h)
                    have HNOT : Hid (¬ z.guest = gi → chF gi y PK 2 = chF gi y PK 1) := Lib.hid (fun h => by rw [hz] at h; exact chF_nB PK h)
                    have hlen1 : (chF gi y PK 1).length ≤ 1000 := by have := chF_len gi y PK 1; have := HPKL.out; omega
                    obtain ⟨u, hu⟩ : ∃ u, u = Z.heap.size := ⟨_, rfl⟩
                    obtain ⟨X3, hX3⟩ : ∃ X, X = (Z.alloc (.cells (vec 3 (endE zEn)) 51)).setRow Z.heap.size (vec 3 (endE z)) := ⟨_, rfl⟩
                    have b3 : Below Z.heap.size Z X3 := by rw [hX3]; exact below_row ((Below.refl _ _).alloc (Nat.le_refl _) _) (Nat.le_refl _) _
                    have a3 : Arr X3 u 51 3 (endE z) := by rw [hX3, hu]; exact (Arr.new Z _ _ _).row _
                    have HB3 := Lib.hid (HBZ.out.trans (b3.mono HBZ.out.size))
                    have a4 := HAC.out.under HB3.out
                    have HO3 := Lib.hid (OwnE.on HOZ.out b3 (Nat.le_refl _))
                    have HPUT := Lib.hid (rput16_any (enM y z) HO3.out hlen1)
                    have HX3 := Lib.hid hX3
                    have HU := Lib.hid hu
                    have c0 : X3.cell? ⟨r, 0, none⟩ = some (.int .u64 y.pa) := a4.cell (i := 0) (by decide)
                    have c1 : X3.cell? ⟨r, 1, none⟩ = some (.int .u64 y.size) := a4.cell (i := 1) (by decide)
                    have d0 : X3.cell? ⟨u, 0, none⟩ = some (.int .i64 z.guest) := a3.cell (i := 0) (by decide)
                    have d1 : X3.cell? ⟨u, 1, none⟩ = some (.int .i64 z.perm) := a3.cell (i := 1) (by decide)
                    have d2 : X3.cell? ⟨u, 2, none⟩ = some (.int .u64 z.ipa) := a3.cell (i := 2) (by decide)
                    clear hz hu hX3 b3 a3 a4 hlen1 HOZ
                    have hix := HIX.out Z
                    go_upto_region 20 with ((with_reducible show wpList _ _ _ (Oper.mk _ (.store _ _ _) _ _ _ _ :: _) _ _); refine wl_store rfl 51 _ _ rfl _ rfl _ rfl (run_store_arr (Arr.new Z _ _ _) (endE z) infoEn (endE_one _ _)) ?_)
                    rw [← HX3.out, ← HU.out]
                    clear HX3 HU HIX hix
                    by_cases ta : z.guest = gi
                    · have ta1 : (z.guest == gi) = true := by simpa using ta
                      have HF := Lib.hid (HYES.out ta)
                      clear HYES HNOT
                      go_wp2_with (first
                        | ((with_reducible show wpList _ _ _ (Oper.mk _ (.build _ _) _ _ _ _ :: _) _ _); refine wl_build rfl 39 _ rfl (vec 5 (mpE (enM y z))) (by kernel_rfl) ?_)
                        | (go_at_call 26; refine HPUT.out.mono ?_; rintro e w2 ⟨v2, rfl, ho, hd⟩; have HO2 := Lib.hid ho; have HD := Lib.hid hd; clear ho hd))
                      go_roundw
                      case rel => exact ⟨2, v2, by omega, by go_num, rfl, Lib.hid (by rw [HF.out]; exact HO2.out.low (Nat.le_trans HBX.out.size HB3.out.size)), Lib.hid (HB3.out.trans (HD.out.mono HB3.out.size))⟩
                      case measure => simp [intOf]
                    · have ta1 : (z.guest == gi) = false := by simpa using ta
                      have HF := Lib.hid (HNOT.out ta)
                      clear HYES HNOT
                      go_wp2_with fail
                      go_roundw
                      case rel => exact ⟨2, _, by omega, by go_num, rfl, Lib.hid (by rw [HF.out]; exact HO3.out), HB3⟩
                      case measure => simp [intOf]
                  · go_wp2_with fail
                    go_roundw
                    case rel => exact ⟨n + 1, _, by omega, by go_num, rfl, Lib.hid (by rw [HNEXT.out]; exact HOZ.out), Lib.hid (HBX.out.trans (HBZ.out.mono HBX.out.size))⟩
                    case measure => simp [intOf]; omega
              · obtain rfl : n = M := by omega
                clear hlt0
                have HOS : Hid (OwnM W1 V.heap.size v0 S) := Lib.hid (by have h := HO.out; rw [HNM.out, List.take_length] at h; rw [HSE3.out]; exact h)
                clear HO HSE3 HOD
                obtain ⟨A5, c5, hv5, hc5, hr5, -⟩ := HOS.out.form
                obtain ⟨N5, hN5⟩ : ∃ n, n = S.length := ⟨_, rfl⟩
                rw [← hN5] at hv5 hc5
                subst hv5
                have HN5 := Lib.hid hN5
                have hN5b : N5 ≤ 120 := by rw [hN5]; exact HSL.out
                have HR5 := Lib.hid hr5
                have HOF : Hid (∀ k, k < S.length → okAt S k = false → okM S = false) := Lib.hid (fun k hk h => range_off hk h)
                have HON : Hid ((List.range S.length).all (okAt S) = true → okM S = true) := Lib.hid (fun h => h)
                obtain ⟨G, hG⟩ : ∃ G, G = okM S := ⟨_, rfl⟩
                rw [← hG] at HOF HON HGOOD HBAD
                clear hr5 hN5 hG
                go_wp2_with fail
                go_loopw [4, 5, 103] (fun _ _ v Y => ∃ k : Nat, k ≤ N5 ∧ v = .int .i64 k ∧ Hid ((List.range k).all (okAt S) = true) ∧ Hid (Below W1.heap.size W1 Y)) (fun _ _ v _ => N5 - (intOf v).toNat)
                case atStart => exact ⟨0, Nat.zero_le _, rfl, Lib.hid rfl, Lib.hid (Below.refl _ _)⟩
                case round =>
                  obtain ⟨k, hk, rfl, HP0, HB6⟩ := hrel
                  obtain ⟨W6, hW6⟩ : ∃ Y : World, Y = wr := ⟨_, rfl⟩
                  subst hW6
                  by_cases hlt0 : k < N5
                  · have hlt : k < S.length := by have := HN5.out; omega
                    have g1 := HR5.out.up HB6.out
                    obtain ⟨b0, p, ea, hp, -, hcp⟩ := g1.at hlt
                    obtain ⟨y, hy⟩ : ∃ y, y = S[k] := ⟨_, rfl⟩
                    rw [← hy] at hcp
                    have hyb : MpB y := by rw [hy]; exact HSB.out _ (List.getElem_mem _)
                    obtain ⟨pi, hpi⟩ := Int.eq_ofNat_of_zero_le hyb.ipa.1
                    obtain ⟨pp, hpp⟩ := Int.eq_ofNat_of_zero_le hyb.pa.1
                    obtain ⟨sn, hsn⟩ := Int.eq_ofNat_of_zero_le hyb.size.1
                    have e1 : ipaS y = (pi, sn) := by unfold ipaS; rw [hpi, hsn]; rfl
                    have e2 : paS y = (pp, sn) := by unfold paS; rw [hpp, hsn]; rfl
                    have hf1 : fit (pi, sn) := e1 ▸ fit_ipa hyb
                    have hf2 : fit (pp, sn) := e2 ▸ fit_pa hyb
                    obtain ⟨fov, hfov⟩ : ∃ f : Mp → Bool, f = fun z => !overlap (pi, sn) (ipaS z) := ⟨_, rfl⟩
                    have HFO : Hid (∀ z, fov z = !overlap (pi, sn) (ipaS z)) := Lib.hid (fun z => by rw [hfov])
                    have HOKK : Hid (okAt S k = ((good (pi, sn) && good (pp, sn)) && (S.take k).all fov)) := Lib.hid (by rw [okAt_some hlt, ← hy, hfov]; unfold gdS; rw [e1, e2])
                    have HNX : Hid (okAt S k = true → (List.range (k + 1)).all (okAt S) = true) := Lib.hid (fun h => range_snoc HP0.out h)
                    have HFF : Hid (okAt S k = false → G = false) := Lib.hid (HOF.out k hlt)
                    have HGA := Lib.hid (fun W => rgoodE (pi, sn) hf1 W)
                    have HGB := Lib.hid (fun W => rgoodE (pp, sn) hf2 W)
                    have HF1 := Lib.hid hf1
                    obtain ⟨q1, hq1⟩ : ∃ b, b = good (pi, sn) := ⟨_, rfl⟩
                    obtain ⟨q2, hq2⟩ : ∃ b, b = good (pp, sn) := ⟨_, rfl⟩
                    rw [← hq1, ← hq2] at HOKK
                    rw [← hq1] at HGA
                    rw [← hq2] at HGB
                    unfold EqV at HGA HGB
                    have hki : (k : Int) < (N5 : Int) := by omega
                    obtain ⟨r, hr⟩ : ∃ r, r = W6.heap.size := ⟨_, rfl⟩
                    obtain ⟨X, hX⟩ : ∃ X, X = (W6.alloc (.cells (vec 5 (mpE zMp)) 39)).setRow W6.heap.size (vec 5 (mpE y)) := ⟨_, rfl⟩
                    have b1 : Below W6.heap.size W6 X := by rw [hX]; exact below_row ((Below.refl _ _).alloc (Nat.le_refl _) _) (Nat.le_refl _) _
                    have a1 : Arr X r 39 5 (mpE y) := by rw [hX, hr]; exact (Arr.new W6 _ _ _).row _
                    have HBX := Lib.hid (HB6.out.trans (b1.mono HB6.out.size))
                    have HCP := Lib.hid hcp
                    have HX := Lib.hid hX
                    have HRR := Lib.hid hr
                    have HA := Lib.hid a1
                    have HPC : Hid (∀ Y, Arr Y r 39 5 (mpE y) → Y.cell? ⟨r, 0, none⟩ = some (.int .u64 (pi : Int)) ∧ Y.cell? ⟨r, 1, none⟩ = some (.int .u64 (pp : Int)) ∧ Y.cell? ⟨r, 2, none⟩ = some (.int .u64 (sn : Int))) := Lib.hid (fun Y h => ⟨by rw [← hpi]; exact h.cell (i := 0) (by decide), by rw [← hpp]; exact h.cell (i := 1) (by decide), by rw [← hsn]; exact h.cell (i := 2) (by decide)⟩)
                    obtain ⟨x0, x1, x2⟩ := HPC.out _ a1
                    subst ea
                    clear g1 hcp hlt hr hX b1 a1 hyb hy hpi hpp hsn e1 e2 hf1 hf2 hfov hq1 hq2 HP0
                    go_upto_region 27 with (first
                      | ((with_reducible show wpList _ _ _ (Oper.mk _ (.load _ _) _ _ _ _ :: _) _ _); refine wl_load_q rfl 39 _ rfl p rfl _ (run_load_q HCP.out Try.underlying39 rfl infoMp) ?_)
                      | ((with_reducible show wpList _ _ _ (Oper.mk _ (.store _ _ _) _ _ _ _ :: _) _ _); refine wl_store rfl 39 _ _ rfl _ rfl _ rfl (run_store_arr (Arr.new W6 _ _ _) (mpE y) infoMp (mpE_one _ _)) ?_))
                    rw [← HX.out, ← HRR.out]
                    clear HX HCP HRR
                    cases q1
                    · have HE := Lib.hid (HBAD.out (HFF.out (by rw [HOKK.out]; rfl)))
                      clear HNX HFF HOKK
                      go_wp2_with (first
                        | ((with_reducible show wpList _ _ _ (Oper.mk _ (.build _ _) _ _ _ _ :: _) _ _); refine wl_build rfl 49 _ rfl (vec 2 (spE (pi, sn))) (by kernel_rfl) ?_)
                        | (go_at_call 27; (with_reducible show Calls _ _ #[.agg (vec 2 (spE (pi, sn)))] _ _); refine (HGA.out _).mono ?_; rintro e w2 ⟨rfl, hd⟩; have HD := Lib.hid (HBX.out.trans (hd.mono HBX.out.size)); have HA2 := Lib.hid (HA.out.under hd); obtain ⟨y0, y1, y2⟩ := HPC.out _ HA2.out; clear hd))
                      exact HE.out _ (HB.out.trans (HD.out.mono HB.out.size))
                    cases q2
                    · have HE := Lib.hid (HBAD.out (HFF.out (by rw [HOKK.out]; rfl)))
                      clear HNX HFF HOKK
                      go_wp2_with (first
                        | ((with_reducible show wpList _ _ _ (Oper.mk _ (.build _ _) _ _ _ _ :: _) _ _); refine wl_build rfl 49 _ rfl (vec 2 (spE (pi, sn))) (by kernel_rfl) ?_)
                        | (go_at_call 27; (with_reducible show Calls _ _ #[.agg (vec 2 (spE (pi, sn)))] _ _); refine (HGA.out _).mono ?_; rintro e w2 ⟨rfl, hd⟩; have HD := Lib.hid (HBX.out.trans (hd.mono HBX.out.size)); have HA2 := Lib.hid (HA.out.under hd); obtain ⟨y0, y1, y2⟩ := HPC.out _ HA2.out; clear hd)
                        | ((with_reducible show wpList _ _ _ (Oper.mk _ (.build _ _) _ _ _ _ :: _) _ _); refine wl_build rfl 49 _ rfl (vec 2 (spE (pp, sn))) (by kernel_rfl) ?_)
                        | (go_at_call 27; (show Calls _ _ #[.agg (vec 2 (spE (pp, sn)))] _ _); refine (HGB.out _).mono ?_; rintro e w3 ⟨rfl, hd⟩; have HD := Lib.hid (HD.out.trans (hd.mono HD.out.size)); have HA3 := Lib.hid (HA2.out.under hd); clear hd))
                      exact HE.out _ (HB.out.trans (HD.out.mono HB.out.size))
                    have HOK2 : Hid (okAt S k = (S.take k).all fov) := Lib.hid (by rw [HOKK.out]; rfl)
                    clear HOKK
                    go_upto_region 29 with (first
                      | ((with_reducible show wpList _ _ _ (Oper.mk _ (.build _ _) _ _ _ _ :: _) _ _); refine wl_build rfl 49 _ rfl (vec 2 (spE (pi, sn))) (by kernel_rfl) ?_)
                      | (go_at_call 27; (with_reducible show Calls _ _ #[.agg (vec 2 (spE (pi, sn)))] _ _); refine (HGA.out _).mono ?_; rintro e w2 ⟨rfl, hd⟩; have HD := Lib.hid (HBX.out.trans (hd.mono HBX.out.size)); have HA2 := Lib.hid (HA.out.under hd); obtain ⟨y0, y1, y2⟩ := HPC.out _ HA2.out; clear hd)
                      | ((with_reducible show wpList _ _ _ (Oper.mk _ (.build _ _) _ _ _ _ :: _) _ _); refine wl_build rfl 49 _ rfl (vec 2 (spE (pp, sn))) (by kernel_rfl) ?_)
                      | (go_at_call 27; (show Calls _ _ #[.agg (vec 2 (spE (pp, sn)))] _ _); refine (HGB.out _).mono ?_; rintro e w3 ⟨rfl, hd⟩; have HD := Lib.hid (HD.out.trans (hd.mono HD.out.size)); have HA3 := Lib.hid (HA2.out.under hd); clear hd))
                    clear x0 x1 x2 y0 y1 y2
                    have HSL5 := Lib.hid (fun W => slice5_hi b0 N5 c5 k (by omega) W)
                    go_wp2_with ((with_reducible show wpList _ _ _ (Oper.mk _ (.slice _ _ _ _ _) _ _ _ _ :: _) _ _); refine wl_slh rfl 29 _ _ rfl _ _ rfl rfl (HSL5.out _) ?_)
                    clear HSL5
                    go_loopw [4, 5, 128] (fun _ _ v Z => ∃ j : Nat, j ≤ k ∧ v = .int .i64 j ∧ Hid ((S.take j).all fov = true) ∧ Hid (Below w3.heap.size w3 Z)) (fun _ _ v _ => k - (intOf v).toNat)
                    case atStart => exact ⟨0, Nat.zero_le _, rfl, Lib.hid rfl, Lib.hid (Below.refl _ _)⟩
                    case round =>
                      obtain ⟨j, hj, rfl, HQ0, HB7⟩ := hrel
                      obtain ⟨W7, hW7⟩ : ∃ Y : World, Y = wr := ⟨_, rfl⟩
                      subst hW7
                      by_cases hlt1 : j < k
                      · have hlt : j < S.length := by have := HN5.out; omega
                        have hb7 := HD.out.trans (HB7.out.mono HD.out.size)
                        have g1 := HR5.out.up hb7
                        obtain ⟨b2, p2, ea, hp2, -, hcp⟩ := g1.at hlt
                        injection ea with ea
                        subst ea
                        obtain ⟨z, hz⟩ : ∃ z, z = S[j] := ⟨_, rfl⟩
                        rw [← hz] at hcp
                        have hzb : MpB z := by rw [hz]; exact HSB.out _ (List.getElem_mem _)
                        obtain ⟨zi, hzi⟩ := Int.eq_ofNat_of_zero_le hzb.ipa.1
                        obtain ⟨zs, hzs⟩ := Int.eq_ofNat_of_zero_le hzb.size.1
                        have e1 : ipaS z = (zi, zs) := by unfold ipaS; rw [hzi, hzs]; rfl
                        have hf2 : fit (zi, zs) := e1 ▸ fit_ipa hzb
                        have HVC := Lib.hid (fun W => roverlapE (pi, sn) (zi, zs) HF1.out hf2 W)
                        have HFZ : Hid (fov z = !overlap (pi, sn) (zi, zs)) := Lib.hid (by rw [HFO.out, e1])
                        obtain ⟨q3, hq3⟩ : ∃ b, b = overlap (pi, sn) (zi, zs) := ⟨_, rfl⟩
                        rw [← hq3] at HVC HFZ
                        unfold EqV at HVC
                        have HNJ : Hid (fov z = true → (S.take (j + 1)).all fov = true) := Lib.hid (fun h => by rw [List.take_succ_eq_append_getElem hlt, List.all_append, HQ0.out, List.all_cons, ← hz, h]; rfl)
                        have HFJ : Hid (fov z = false → (S.take k).all fov = false) := Lib.hid (fun h => by
                          rw [← Bool.not_eq_true, List.all_eq_true]
                          intro hall
                          have := hall z (by rw [List.mem_iff_getElem]; exact ⟨j, by rw [List.length_take]; omega, by rw [List.getElem_take]; exact hz.symm⟩)
                          rw [h] at this
                          cases this)
                        have hji : (j : Int) < (k : Int) := by omega
                        obtain ⟨r2, hr2⟩ : ∃ r, r = W7.heap.size := ⟨_, rfl⟩
                        obtain ⟨X2, hX2⟩ : ∃ X, X = (W7.alloc (.cells (vec 5 (mpE zMp)) 39)).setRow W7.heap.size (vec 5 (mpE z)) := ⟨_, rfl⟩
                        have b1 : Below W7.heap.size W7 X2 := by rw [hX2]; exact below_row ((Below.refl _ _).alloc (Nat.le_refl _) _) (Nat.le_refl _) _
                        have a1 : Arr X2 r2 39 5 (mpE z) := by rw [hX2, hr2]; exact (Arr.new W7 _ _ _).row _
                        have HBX2 := Lib.hid (HB7.out.trans (b1.mono HB7.out.size))
                        have HCP := Lib.hid hcp
                        have HX2 := Lib.hid hX2
                        have HRR := Lib.hid hr2
                        obtain ⟨x0, -, x2⟩ := HPC.out _ (HA3.out.under HBX2.out)
                        have z0 : X2.cell? ⟨r2, 0, none⟩ = some (.int .u64 (zi : Int)) := by rw [← hzi]; exact a1.cell (i := 0) (by decide)
                        have z2 : X2.cell? ⟨r2, 2, none⟩ = some (.int .u64 (zs : Int)) := by rw [← hzs]; exact a1.cell (i := 2) (by decide)
                        clear hb7 g1 hcp hlt hr2 hX2 b1 a1 hzb hz hzi hzs e1 hf2 hq3 HQ0
                        go_upto_region 32 with (first
                          | ((with_reducible show wpList _ _ _ (Oper.mk _ (.load _ _) _ _ _ _ :: _) _ _); refine wl_load_q rfl 39 _ rfl p2 rfl _ (run_load_q HCP.out Try.underlying39 rfl infoMp) ?_)
                          | ((with_reducible show wpList _ _ _ (Oper.mk _ (.store _ _ _) _ _ _ _ :: _) _ _); refine wl_store rfl 39 _ _ rfl _ rfl _ rfl (run_store_arr (Arr.new W7 _ _ _) (mpE z) infoMp (mpE_one _ _)) ?_))
                        rw [← HX2.out, ← HRR.out]
                        clear HX2 HCP HRR
                        cases q3
                        · have HS := Lib.hid (HNJ.out (by rw [HFZ.out]; rfl))
                          clear HNJ HFJ HFZ
                          go_wp2_with (first
                            | ((with_reducible show wpList _ _ _ (Oper.mk _ (.build _ #[(0, .tmp 133), (1, .tmp 135)]) _ _ _ _ :: _) _ _); refine wl_build rfl 49 _ rfl (vec 2 (spE (pi, sn))) (by kernel_rfl) ?_)
                            | ((with_reducible show wpList _ _ _ (Oper.mk _ (.build _ #[(0, .tmp 138), (1, .tmp 140)]) _ _ _ _ :: _) _ _); refine wl_build rfl 49 _ rfl (vec 2 (spE (zi, zs))) (by kernel_rfl) ?_)
                            | (go_at_call 28; refine (HVC.out _).mono ?_; rintro e w4 ⟨rfl, hd⟩; have HD4 := Lib.hid (HBX2.out.trans (hd.mono HBX2.out.size)); clear hd))
                          go_roundw
                          case rel => exact ⟨j + 1, by omega, by go_num, HS, HD4⟩
                          case measure => simp [intOf]; omega
                        · have HE := Lib.hid (HBAD.out (HFF.out (by rw [HOK2.out]; exact HFJ.out (by rw [HFZ.out]; rfl))))
                          clear HNJ HFJ HFZ HNX HFF
                          go_wp2_with (first
                            | ((with_reducible show wpList _ _ _ (Oper.mk _ (.build _ #[(0, .tmp 133), (1, .tmp 135)]) _ _ _ _ :: _) _ _); refine wl_build rfl 49 _ rfl (vec 2 (spE (pi, sn))) (by kernel_rfl) ?_)
                            | ((with_reducible show wpList _ _ _ (Oper.mk _ (.build _ #[(0, .tmp 138), (1, .tmp 140)]) _ _ _ _ :: _) _ _); refine wl_build rfl 49 _ rfl (vec 2 (spE (zi, zs))) (by kernel_rfl) ?_)
                            | (go_at_call 28; refine (HVC.out _).mono ?_; rintro e w4 ⟨rfl, hd⟩; have HD4 := Lib.hid (HBX2.out.trans (hd.mono HBX2.out.size)); clear hd))
                          exact HE.out _ (HB.out.trans ((HD.out.trans (HD4.out.mono HD.out.size)).mono HB.out.size))
                      · obtain rfl : j = k := by omega
                        have HS := Lib.hid (HNX.out (by rw [HOK2.out]; exact HQ0.out))
                        clear hlt1 HNX HOK2 HQ0
                        go_wp2_with fail
                        go_roundw
                        case rel => exact ⟨j + 1, by omega, by go_num, HS, Lib.hid (HD.out.trans (HB7.out.mono HD.out.size))⟩
                        case measure => simp [intOf]; omega
                  · obtain rfl : k = N5 := by omega
                    have HE := Lib.hid (HGOOD.out (HON.out (by have h := HP0.out; rw [HN5.out] at h; exact h)) _ _ (OwnE.on HOS.out HB6.out (Nat.le_refl _)) (HB.out.trans (HB6.out.mono HB.out.size)))
                    clear hlt0
                    go_wp2_with fail
                    exact HE.out
end Go.Proofs.Ytgnihceefpijiaa
/- Parts alike or not; the reference's SameMaps. -/
namespace Go.Proofs.Ytgnihceefpijiaa
open Go.RowKit

def mpEq (x y : Mp) : Bool := x.ipa == y.ipa && (x.pa == y.pa && (x.size == y.size && (x.perm == y.perm && (x.kind == y.kind && true))))
theorem mpEq_self (x : Mp) : mpEq x x = true := by simp [mpEq]
theorem mpEq_eq {x y : Mp} (h : mpEq x y = true) : x = y := by
  simp [mpEq] at h
  obtain ⟨h1, h2, h3, h4, h5⟩ := h
  cases x; cases y
  simp only at h1 h2 h3 h4 h5
  subst h1 h2 h3 h4 h5
  rfl
set_option maxRecDepth 100000 in
theorem equalIn_mp (d : Nat) (x y : Mp) (w : World) : (Op.equalIn (d + 2) 39 (.agg (vec 5 (mpE x))) (.agg (vec 5 (mpE y)))).run Try.prog w = .ok (mpEq x y) w := by
  rw [run_equalIn_struct (P := Try.prog) w (d + 1) 39 _ _ (by kernel_rfl) (by kernel_rfl)]
  unfold Program.fieldsOf
  rw [Try.underlying39]
  exact eqF_cons _ _ _ w _ _ (by decide) _ _ _ _ (partU64 _ 0 _ (vec_at 5 _ 0 (by decide)) w) (partU64 _ 0 _ (vec_at 5 _ 0 (by decide)) w) (run_equalIn_int (P := Try.prog) w _ 37 .u64 .u64 _ _ Try.underlying37) (eqF_cons _ _ _ w _ _ (by decide) _ _ _ _ (partU64 _ 1 _ (vec_at 5 _ 1 (by decide)) w) (partU64 _ 1 _ (vec_at 5 _ 1 (by decide)) w) (run_equalIn_int (P := Try.prog) w _ 37 .u64 .u64 _ _ Try.underlying37) (eqF_cons _ _ _ w _ _ (by decide) _ _ _ _ (partU64 _ 2 _ (vec_at 5 _ 2 (by decide)) w) (partU64 _ 2 _ (vec_at 5 _ 2 (by decide)) w) (run_equalIn_int (P := Try.prog) w _ 37 .u64 .u64 _ _ Try.underlying37) (eqF_cons _ _ _ w _ _ (by decide) _ _ _ _ (partI _ 3 _ (vec_at 5 _ 3 (by decide)) w) (partI _ 3 _ (vec_at 5 _ 3 (by decide)) w) (run_equalIn_int (P := Try.prog) w _ 3 .i64 .i64 _ _ Try.underlying3) (eqF_cons _ _ _ w _ _ (by decide) _ _ _ _ (partI _ 4 _ (vec_at 5 _ 4 (by decide)) w) (partI _ 4 _ (vec_at 5 _ 4 (by decide)) w) (run_equalIn_int (P := Try.prog) w _ 3 .i64 .i64 _ _ Try.underlying3) (eqF_nil _ _ _ w)))))
theorem neq_mp (x y : Mp) (w : World) : (binOp .neq 39 (.agg (vec 5 (mpE x))) (.agg (vec 5 (mpE y)))).run Try.prog w = .ok (.bool (!mpEq x y)) w := by
  rw [run_neq_struct, equalIn_mp 9998]; rfl
theorem exec_neq_mp {o : Oper} {a : Act} (x y : Operand) (t : TypeId) (ho : o.op = .binOp .neq 39 x y t) (p q : Mp) (hx : a.eval x = .agg (vec 5 (mpE p))) (hy : a.eval y = .agg (vec 5 (mpE q))) (w : World) {b : Bool} (hb : (!mpEq p q) = b) :
    (execOp a.eval o).run Try.prog w = .ok (.value (.bool b)) w := by
  subst hb
  unfold execOp
  simp only [ho, hx, hy, Sem.run_bind, Sem.run_pure, run_eqGuard_agg (P := Try.prog) w .neq 39 x y _ _ (by kernel_rfl), neq_mp, Result.andThen_ok]
/-- Lists alike, or not. -/
def EqQ (r : Bool) (w : World) (e : Ending) (w' : World) : Prop := e = .returned (.bool r) ∧ ∃ k, w' = w.drewN k
set_option maxRecDepth 100000 in
set_option maxHeartbeats 2000000 in
theorem sameMaps_any (l m : List Mp) (A B : Option Addr) (c d : Nat) (w : World) (hl : l.length ≤ 9223372036854775807) (h1 : RowE 5 mpE w w.heap.size A l) (h2 : RowE 5 mpE w w.heap.size B m) :
    Calls Try.prog 11 #[.slice A l.length c, .slice B m.length d] w (EqQ (eqL mpEq l m) w) := by
  by_cases hlen : l.length = m.length
  case neg =>
    rw [eqL_len hlen]
    have d1 : ((l.length : Int) != (m.length : Int)) = true := bne_iff_ne.2 (by omega)
    have d2 : ¬ (l.length : Int) = (m.length : Int) := by omega
    unfold EqQ
    clear hlen h1 h2
    go_enter Try.func11, Try.ntmps11
    go_wp2
    go_ret
    exact ⟨rfl, 0, rfl⟩
  have HE := Lib.hid (eqL_all (f := mpEq) hlen)
  have HNO := Lib.hid (fun k (h : eqTo mpEq l m k = false) (hk : k ≤ l.length) => eqL_no h hk)
  have HL := Lib.hid hlen
  have H1 := Lib.hid h1
  have H2 := Lib.hid h2
  obtain ⟨rr, hrr⟩ : ∃ rr, rr = eqL mpEq l m := ⟨_, rfl⟩
  rw [← hrr] at HE HNO ⊢
  rw [← hlen]
  obtain ⟨N, hN⟩ : ∃ N, N = l.length := ⟨_, rfl⟩
  rw [← hN] at hl HE ⊢
  have HNL := Lib.hid hN
  have HNO := Lib.hid (fun k (h : eqTo mpEq l m k = false) (hk : k ≤ N) => HNO.out k h (by omega))
  clear h1 h2 hrr hlen hN
  unfold EqQ
  go_enter Try.func11, Try.ntmps11
  go_wp2
  go_loopw [5, 13] (fun _ v W => ∃ k j : Nat, k ≤ N ∧ v = .int .i64 k ∧ Hid (eqTo mpEq l m k = true) ∧ w.drewN j = W) (fun _ i _ => N - (intOf i).toNat)
  case atStart => exact ⟨0, 0, Nat.zero_le _, rfl, Lib.hid rfl, rfl⟩
  case round =>
    obtain ⟨k, j, hk, rfl, HP0, rfl⟩ := hrel
    by_cases hlt0 : k < N
    · have hlt : k < l.length := by have := HNL.out; omega
      have hltm : k < m.length := by have := HL.out; omega
      obtain ⟨a, p, rfl, hp, -, hcp⟩ := H1.out.at hlt
      obtain ⟨a', q, rfl, hq, -, hcq⟩ := H2.out.at hltm
      obtain ⟨x, hx⟩ : ∃ x, x = l[k] := ⟨_, rfl⟩
      obtain ⟨y, hy⟩ : ∃ y, y = m[k] := ⟨_, rfl⟩
      have hs := eqTo_succ mpEq l m k hlt hltm
      rw [HP0.out, Bool.true_and, ← hx, ← hy] at hs
      rw [← hx] at hcp
      rw [← hy] at hcq
      have HP := Lib.hid (And.intro hcp hcq)
      clear hcp hcq hx hy hltm hlt
      have hki : (k : Int) < (N : Int) := by omega
      obtain ⟨b, hb⟩ : ∃ b, b = mpEq x y := ⟨_, rfl⟩
      rw [← hb] at hs
      cases b
      · have HB : Hid ((!mpEq x y) = true) := Lib.hid (by rw [← hb]; rfl)
        have HN := Lib.hid (HNO.out (k + 1) hs (by omega))
        clear hb hs
        go_upto_region 6 with fail
        refine wp_region_held_drew (S := fun Y => Y = (w.drewN j).drew) (by kernel_rfl) rfl (fun hS => ?_)
        (refine held_take (i := 0) (oi := ?ot1) (v := ?vt1) ?at1 (by kernel_rfl) (by kernel_rfl) (by kernel_rfl) ?bt1 ?ct1 ?dt1 (by assumption) ?rt1; (case at1 => (simp only [List.getElem?_toArray, List.getElem?_cons_zero]; rfl)); (case bt1 => exact fun _ _ _ h => h); (case ct1 => kernel_rfl); (case dt1 => (intro W hW; (try dsimp only at hW); go_split_ands; go_simp; (try with_reducible rfl))); (case' rt1 => simp only [Act.put, List.setIfInBounds_toArray, List.set_cons_zero, List.set_cons_succ]))
        (refine held_take (i := 1) (oi := ?ot2) (v := ?vt2) ?at2 (by kernel_rfl) (by kernel_rfl) (by kernel_rfl) ?bt2 ?ct2 ?dt2 (by assumption) ?rt2; (case at2 => (simp only [List.getElem?_toArray, List.getElem?_cons_zero, List.getElem?_cons_succ]; rfl)); (case bt2 => exact fun _ _ _ h => h); (case ct2 => kernel_rfl); (case dt2 => (intro W hW; (try dsimp only at hW); go_split_ands; go_simp; (try with_reducible rfl))); (case' rt2 => simp only [Act.put, List.setIfInBounds_toArray, List.set_cons_zero, List.set_cons_succ]))
        (refine held_take (i := 2) (oi := ?ot3) (v := .pointer (some p)) ?at3 (by kernel_rfl) (by kernel_rfl) (by kernel_rfl) ?bt3 ?ct3 ?dt3 (by assumption) ?rt3; (case at3 => (simp only [List.getElem?_toArray, List.getElem?_cons_zero, List.getElem?_cons_succ]; rfl)); (case bt3 => exact fun _ _ _ h => h); (case ct3 => kernel_rfl); (case dt3 => (intro W hW; clear hW; go_simp; (try with_reducible rfl); (try (intro h; omega)))); (case' rt3 => simp only [Act.put, List.setIfInBounds_toArray, List.set_cons_zero, List.set_cons_succ]))
        (refine held_take (i := 3) (oi := ?ot4) (v := .agg (vec 5 (mpE x))) ?at4 (by kernel_rfl) (by kernel_rfl) (by kernel_rfl) ?bt4 ?ct4 ?dt4 (by assumption) ?rt4; (case at4 => (simp only [List.getElem?_toArray, List.getElem?_cons_zero, List.getElem?_cons_succ]; rfl)); (case bt4 => exact fun _ _ _ h => h); (case ct4 => kernel_rfl); (case dt4 => (intro W hW; subst hW; exact exec_load_q 39 _ rfl p rfl _ (run_load_q HP.out.1 Try.underlying39 rfl infoMp))); (case' rt4 => simp only [Act.put, List.setIfInBounds_toArray, List.set_cons_zero, List.set_cons_succ]))
        (refine held_take (i := 4) (oi := ?ot5) (v := ?vt5) ?at5 (by kernel_rfl) (by kernel_rfl) (by kernel_rfl) ?bt5 ?ct5 ?dt5 (by assumption) ?rt5; (case at5 => (simp only [List.getElem?_toArray, List.getElem?_cons_zero, List.getElem?_cons_succ]; rfl)); (case bt5 => exact fun _ _ _ h => h); (case ct5 => kernel_rfl); (case dt5 => (intro W hW; (try dsimp only at hW); go_split_ands; go_simp; (try with_reducible rfl))); (case' rt5 => simp only [Act.put, List.setIfInBounds_toArray, List.set_cons_zero, List.set_cons_succ]))
        (refine held_take (i := 5) (oi := ?ot6) (v := ?vt6) ?at6 (by kernel_rfl) (by kernel_rfl) (by kernel_rfl) ?bt6 ?ct6 ?dt6 (by assumption) ?rt6; (case at6 => (simp only [List.getElem?_toArray, List.getElem?_cons_zero, List.getElem?_cons_succ]; rfl)); (case bt6 => exact fun _ _ _ h => h); (case ct6 => kernel_rfl); (case dt6 => (intro W hW; (try dsimp only at hW); go_split_ands; go_simp; (try with_reducible rfl))); (case' rt6 => simp only [Act.put, List.setIfInBounds_toArray, List.set_cons_zero, List.set_cons_succ]))
        (refine held_take (i := 6) (oi := ?ot7) (v := .pointer (some q)) ?at7 (by kernel_rfl) (by kernel_rfl) (by kernel_rfl) ?bt7 ?ct7 ?dt7 (by assumption) ?rt7; (case at7 => (simp only [List.getElem?_toArray, List.getElem?_cons_zero, List.getElem?_cons_succ]; rfl)); (case bt7 => exact fun _ _ _ h => h); (case ct7 => kernel_rfl); (case dt7 => (intro W hW; clear hW; go_simp; (try with_reducible rfl); (try (intro h; omega)))); (case' rt7 => simp only [Act.put, List.setIfInBounds_toArray, List.set_cons_zero, List.set_cons_succ]))
        (refine held_take (i := 7) (oi := ?ot8) (v := .agg (vec 5 (mpE y))) ?at8 (by kernel_rfl) (by kernel_rfl) (by kernel_rfl) ?bt8 ?ct8 ?dt8 (by assumption) ?rt8; (case at8 => (simp only [List.getElem?_toArray, List.getElem?_cons_zero, List.getElem?_cons_succ]; rfl)); (case bt8 => exact fun _ _ _ h => h); (case ct8 => kernel_rfl); (case dt8 => (intro W hW; subst hW; exact exec_load_q 39 _ rfl q rfl _ (run_load_q HP.out.2 Try.underlying39 rfl infoMp))); (case' rt8 => simp only [Act.put, List.setIfInBounds_toArray, List.set_cons_zero, List.set_cons_succ]))
        (refine held_take (i := 8) (oi := ?ot9) (v := .bool true) ?at9 (by kernel_rfl) (by kernel_rfl) (by kernel_rfl) ?bt9 ?ct9 ?dt9 (by assumption) ?rt9; (case at9 => (simp only [List.getElem?_toArray, List.getElem?_cons_zero, List.getElem?_cons_succ]; rfl)); (case bt9 => exact fun _ _ _ h => h); (case ct9 => kernel_rfl); (case dt9 => (intro W _; exact exec_neq_mp _ _ _ rfl x y rfl rfl W HB.out)); (case' rt9 => simp only [Act.put, List.setIfInBounds_toArray, List.set_cons_zero, List.set_cons_succ]))
        refine wpAnyH_done (by kernel_rfl) ?_ _
        go_wp2
        go_ret
        exact ⟨by rw [HN.out]; rfl, j + 1, rfl⟩
      · have HB : Hid ((!mpEq x y) = false) := Lib.hid (by rw [← hb]; rfl)
        have HN := Lib.hid hs
        clear hb hs
        go_upto_region 6 with fail
        refine wp_region_held_drew (S := fun Y => Y = (w.drewN j).drew) (by kernel_rfl) rfl (fun hS => ?_)
        (refine held_take (i := 0) (oi := ?ot10) (v := ?vt10) ?at10 (by kernel_rfl) (by kernel_rfl) (by kernel_rfl) ?bt10 ?ct10 ?dt10 (by assumption) ?rt10; (case at10 => (simp only [List.getElem?_toArray, List.getElem?_cons_zero]; rfl)); (case bt10 => exact fun _ _ _ h => h); (case ct10 => kernel_rfl); (case dt10 => (intro W hW; (try dsimp only at hW); go_split_ands; go_simp; (try with_reducible rfl))); (case' rt10 => simp only [Act.put, List.setIfInBounds_toArray, List.set_cons_zero, List.set_cons_succ]))
        (refine held_take (i := 1) (oi := ?ot11) (v := ?vt11) ?at11 (by kernel_rfl) (by kernel_rfl) (by kernel_rfl) ?bt11 ?ct11 ?dt11 (by assumption) ?rt11; (case at11 => (simp only [List.getElem?_toArray, List.getElem?_cons_zero, List.getElem?_cons_succ]; rfl)); (case bt11 => exact fun _ _ _ h => h); (case ct11 => kernel_rfl); (case dt11 => (intro W hW; (try dsimp only at hW); go_split_ands; go_simp; (try with_reducible rfl))); (case' rt11 => simp only [Act.put, List.setIfInBounds_toArray, List.set_cons_zero, List.set_cons_succ]))
        (refine held_take (i := 2) (oi := ?ot12) (v := .pointer (some p)) ?at12 (by kernel_rfl) (by kernel_rfl) (by kernel_rfl) ?bt12 ?ct12 ?dt12 (by assumption) ?rt12; (case at12 => (simp only [List.getElem?_toArray, List.getElem?_cons_zero, List.getElem?_cons_succ]; rfl)); (case bt12 => exact fun _ _ _ h => h); (case ct12 => kernel_rfl); (case dt12 => (intro W hW; clear hW; go_simp; (try with_reducible rfl); (try (intro h; omega)))); (case' rt12 => simp only [Act.put, List.setIfInBounds_toArray, List.set_cons_zero, List.set_cons_succ]))
        (refine held_take (i := 3) (oi := ?ot13) (v := .agg (vec 5 (mpE x))) ?at13 (by kernel_rfl) (by kernel_rfl) (by kernel_rfl) ?bt13 ?ct13 ?dt13 (by assumption) ?rt13; (case at13 => (simp only [List.getElem?_toArray, List.getElem?_cons_zero, List.getElem?_cons_succ]; rfl)); (case bt13 => exact fun _ _ _ h => h); (case ct13 => kernel_rfl); (case dt13 => (intro W hW; subst hW; exact exec_load_q 39 _ rfl p rfl _ (run_load_q HP.out.1 Try.underlying39 rfl infoMp))); (case' rt13 => simp only [Act.put, List.setIfInBounds_toArray, List.set_cons_zero, List.set_cons_succ]))
        (refine held_take (i := 4) (oi := ?ot14) (v := ?vt14) ?at14 (by kernel_rfl) (by kernel_rfl) (by kernel_rfl) ?bt14 ?ct14 ?dt14 (by assumption) ?rt14; (case at14 => (simp only [List.getElem?_toArray, List.getElem?_cons_zero, List.getElem?_cons_succ]; rfl)); (case bt14 => exact fun _ _ _ h => h); (case ct14 => kernel_rfl); (case dt14 => (intro W hW; (try dsimp only at hW); go_split_ands; go_simp; (try with_reducible rfl))); (case' rt14 => simp only [Act.put, List.setIfInBounds_toArray, List.set_cons_zero, List.set_cons_succ]))
        (refine held_take (i := 5) (oi := ?ot15) (v := ?vt15) ?at15 (by kernel_rfl) (by kernel_rfl) (by kernel_rfl) ?bt15 ?ct15 ?dt15 (by assumption) ?rt15; (case at15 => (simp only [List.getElem?_toArray, List.getElem?_cons_zero, List.getElem?_cons_succ]; rfl)); (case bt15 => exact fun _ _ _ h => h); (case ct15 => kernel_rfl); (case dt15 => (intro W hW; (try dsimp only at hW); go_split_ands; go_simp; (try with_reducible rfl))); (case' rt15 => simp only [Act.put, List.setIfInBounds_toArray, List.set_cons_zero, List.set_cons_succ]))
        (refine held_take (i := 6) (oi := ?ot16) (v := .pointer (some q)) ?at16 (by kernel_rfl) (by kernel_rfl) (by kernel_rfl) ?bt16 ?ct16 ?dt16 (by assumption) ?rt16; (case at16 => (simp only [List.getElem?_toArray, List.getElem?_cons_zero, List.getElem?_cons_succ]; rfl)); (case bt16 => exact fun _ _ _ h => h); (case ct16 => kernel_rfl); (case dt16 => (intro W hW; clear hW; go_simp; (try with_reducible rfl); (try (intro h; omega)))); (case' rt16 => simp only [Act.put, List.setIfInBounds_toArray, List.set_cons_zero, List.set_cons_succ]))
        (refine held_take (i := 7) (oi := ?ot17) (v := .agg (vec 5 (mpE y))) ?at17 (by kernel_rfl) (by kernel_rfl) (by kernel_rfl) ?bt17 ?ct17 ?dt17 (by assumption) ?rt17; (case at17 => (simp only [List.getElem?_toArray, List.getElem?_cons_zero, List.getElem?_cons_succ]; rfl)); (case bt17 => exact fun _ _ _ h => h); (case ct17 => kernel_rfl); (case dt17 => (intro W hW; subst hW; exact exec_load_q 39 _ rfl q rfl _ (run_load_q HP.out.2 Try.underlying39 rfl infoMp))); (case' rt17 => simp only [Act.put, List.setIfInBounds_toArray, List.set_cons_zero, List.set_cons_succ]))
        (refine held_take (i := 8) (oi := ?ot18) (v := .bool false) ?at18 (by kernel_rfl) (by kernel_rfl) (by kernel_rfl) ?bt18 ?ct18 ?dt18 (by assumption) ?rt18; (case at18 => (simp only [List.getElem?_toArray, List.getElem?_cons_zero, List.getElem?_cons_succ]; rfl)); (case bt18 => exact fun _ _ _ h => h); (case ct18 => kernel_rfl); (case dt18 => (intro W _; exact exec_neq_mp _ _ _ rfl x y rfl rfl W HB.out)); (case' rt18 => simp only [Act.put, List.setIfInBounds_toArray, List.set_cons_zero, List.set_cons_succ]))
        refine wpAnyH_done (by kernel_rfl) ?_ _
        go_wp2
        go_roundw
        case rel => exact ⟨k + 1, j + 1, by omega, by go_num, HN, rfl⟩
        case measure => simp [intOf]; omega
    · obtain rfl : k = N := by omega
      have HR : Hid (rr = true) := Lib.hid (by rw [HE.out, HP0.out])
      clear hlt0
      go_wp2_with fail
      go_ret
      exact ⟨by rw [HR.out]; rfl, j, rfl⟩
end Go.Proofs.Ytgnihceefpijiaa
