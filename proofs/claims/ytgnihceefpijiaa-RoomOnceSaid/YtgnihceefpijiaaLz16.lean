/- The law RoomOnce, over what the code's functions keep. -/
import Derived.Test.YtgnihceefpijiaaLw16
import Derived.BigQuiet
namespace Go.Proofs.Ytgnihceefpijiaa
open Go.RowKit
attribute [local go_sem ↓ high] zeroCf zeroMp zeroCh zeroEn zeroSp

theorem take_filter_len (f : Mp → Bool) (l : List Mp) (k : Nat) (h : k < l.length) : ((l.take (k + 1)).filter f).length = ((l.take k).filter f).length + (if f l[k] = true then 1 else 0) := by
  rw [List.take_succ_eq_append_getElem h, List.filter_append, List.length_append]
  by_cases hp : f l[k] = true
  · rw [if_pos hp]; simp [hp]
  · rw [if_neg hp]; simp [hp]
/-- How many of a channel's first ends name a guest. -/
def cntE (gi : Int) (y : Ch) : Nat → Nat
  | 0 => 0
  | 1 => if y.a.guest = gi then 1 else 0
  | _ => (if y.a.guest = gi then 1 else 0) + (if y.b.guest = gi then 1 else 0)
theorem cntE_le (gi : Int) (y : Ch) (i : Nat) : cntE gi y i ≤ 2 := by
  unfold cntE
  split
  · omega
  · split <;> omega
  · split <;> split <;> omega
theorem take_flat_len (gi : Int) (l : List Ch) (k : Nat) (h : k < l.length) : ((l.take (k + 1)).flatMap (chM gi)).length = ((l.take k).flatMap (chM gi)).length + cntE gi l[k] 2 := by
  rw [List.take_succ_eq_append_getElem h, List.flatMap_append, List.length_append]
  have e : cntE gi l[k] 2 = (chM gi l[k]).length := (chM_len gi l[k]).symm
  rw [e]
  simp
set_option maxHeartbeats 8000000 in
set_option maxRecDepth 100000 in
theorem roomOnce_walk (HAWK : Awake16) (HCM : CodeMaps) (x : Cf) (a c : Value) (g : Int) (p : Nat) (hp : p < 18446744073709551616) (w : World) (hx : CfR w w.heap.size x a c) (hb : CfB x) :
    Calls Try.prog 6 #[cfVal x a c, .int .i64 g, .int .u64 (p : Int)] w fun e w' => e = .returned (.bool true) ∧ Below w.heap.size w w' := by
  obtain ⟨V0, hV0⟩ : ∃ V, V = w.alloc (.cells (vec 3 (cfE x.ver a c)) 26) := ⟨_, rfl⟩
  have k1 : Arr V0 w.heap.size 26 3 (cfE x.ver a c) := by rw [hV0]; exact Arr.new w _ _ _
  have hB : Below w.heap.size w V0 := by rw [hV0]; exact (Below.refl _ _).alloc (Nat.le_refl _) _
  have HW := Lib.hid hV0
  have H0 := Lib.hid (And.intro hB (And.intro k1 (hx.up hB)))
  have HCB := Lib.hid hb
  clear hV0 k1 hB hx hb
  unfold cfVal
  go_enter Try.func6, Try.ntmps6
  go_upto_region 1 with fail
  rw [← HW.out]
  clear HW
  go_upto_region 3 with (go_at_call 7; refine (HAWK _).mono ?_; rintro e V ⟨rfl, hd⟩; have HAW := Lib.hid hd; clear hd)
  have HV : Hid (Below w.heap.size w V) := Lib.hid (H0.out.1.trans (HAW.out.mono H0.out.1.size))
  have HA := Lib.hid (H0.out.2.1.under HAW.out)
  have HCX := Lib.hid (H0.out.2.2.up HAW.out)
  have HD : Hid (Below V.heap.size V V) := Lib.hid (Below.refl _ _)
  clear H0 HAW
  obtain ⟨fx, hfx⟩ : ∃ f, f = fewC x := ⟨_, rfl⟩
  have HFA : Hid (∀ Y, Below V.heap.size V Y → Calls Try.prog 8 #[.agg (vec 3 (cfE x.ver a c))] Y (FewP fx Y)) := Lib.hid (fun Y hY => by rw [hfx]; exact few_any x a c Y (HCX.out.up hY))
  cases fx
  · clear hfx
    go_wp2_with (first
      | ((with_reducible show wpList _ _ _ (Oper.mk _ (.load _ _) _ _ _ _ :: _) _ _); refine wl_load rfl 26 _ rfl _ rfl _ (run_load_arr (HA.out.under HD.out) Try.underlying26 rfl infoCf) ?_)
      | (go_at_call 8; refine (HFA.out _ HD.out).mono ?_; rintro e w1 ⟨rfl, hd⟩; have HD := Lib.hid hd; clear hd))
    go_ret
    exact ⟨rfl, HV.out.trans (HD.out.mono HV.out.size)⟩
  have HFW := Lib.hid hfx.symm
  clear hfx
  go_upto_region 5 with (first
      | ((with_reducible show wpList _ _ _ (Oper.mk _ (.load _ _) _ _ _ _ :: _) _ _); refine wl_load rfl 26 _ rfl _ rfl _ (run_load_arr (HA.out.under HD.out) Try.underlying26 rfl infoCf) ?_)
      | (go_at_call 8; refine (HFA.out _ HD.out).mono ?_; rintro e w1 ⟨rfl, hd⟩; have HD := Lib.hid hd; clear hd))
  clear HFA
  obtain ⟨R, hR⟩ : ∃ R, R = mapsP x g := ⟨_, rfl⟩
  have HM1 := Lib.hid (fun Y (hY : Below V.heap.size V Y) => HCM x a c g Y (HCX.out.up hY) HCB.out HFW.out)
  rw [← hR] at HM1
  unfold cfVal at HM1
  cases R with
  | error n =>
    have HN1 : Hid (∀ Y, Below V.heap.size V Y → Calls Try.prog 9 #[.agg (vec 3 (cfE x.ver a c)), .int .i64 g] Y (fun e w' => ∃ A c, e = .returned (.tuple #[.slice A 0 c, .int .i64 (n : Nat)]) ∧ Below Y.heap.size Y w')) := HM1
    have hn0 : ((n : Int) != 0) = true := by
      have : n = 1 ∨ n = 160 := by
        have h := hR
        unfold mapsP at h
        split at h
        · injection h with h; exact Or.inl h
        · split at h
          · cases h
          · injection h with h; exact Or.inr h
      simp; omega
    clear HM1 hR HAWK HCM
    go_wp2_with (first
      | ((with_reducible show wpList _ _ _ (Oper.mk _ (.load _ _) _ _ _ _ :: _) _ _); refine wl_load rfl 26 _ rfl _ rfl _ (run_load_arr (HA.out.under HD.out) Try.underlying26 rfl infoCf) ?_)
      | (go_at_call 9; refine (HN1.out _ HD.out).mono ?_; rintro e w2 ⟨A1, c1, rfl, hd⟩; have HD := Lib.hid (HD.out.trans (hd.mono HD.out.size)); clear hd))
    go_ret
    exact ⟨rfl, HV.out.trans (HD.out.mono HV.out.size)⟩
  | ok l =>
    have HN1 : Hid (∀ Y, Below V.heap.size V Y → Calls Try.prog 9 #[.agg (vec 3 (cfE x.ver a c)), .int .i64 g] Y (fun e w' => ∃ v, e = .returned (.tuple #[v, .int .i64 0]) ∧ OwnM w' Y.heap.size v l ∧ Below Y.heap.size Y w')) := HM1
    obtain ⟨i, hi, hgi, hl, hok⟩ := mapsP_is hR.symm
    have hll := mapsP_len hR.symm HFW.out
    obtain ⟨hfg, hfc, hfa⟩ := few_gs HFW.out
    obtain ⟨A, d, A2, d2, ea, ec, hch, hgu⟩ := cf_guest HCX.out
    obtain ⟨a0, q, A1, e1, A3, e3, rfl, hq, hcell⟩ := hgu i hi
    have hgb := HCB.out.gs _ (List.getElem_mem hi)
    have hfew := gFew_iff (hfa _ (List.getElem_mem hi))
    have hSB := parts_B (g := g) hgb.wins hgb.devs HCB.out.chs
    rw [← hl] at hSB
    have hso : l.Pairwise fun x y => x.ipa + x.size ≤ y.ipa ∧ x.ipa < y.ipa := sorted_ok hSB (by rw [hl]; exact sortP_sorted _) hok
    have hon := once hok p
    have hlen : l.length = x.gs[i].wins.length + (x.gs[i].devs.length + (x.chs.flatMap (chM g)).length) := by
      rw [hl, sortP_len]; unfold partsP; rw [List.length_append, List.length_append, List.length_map, List.length_map]
    obtain ⟨lc, hlc⟩ : ∃ l, l = x.chs := ⟨_, rfl⟩
    rw [← hlc] at hch hlen hfc ec
    obtain ⟨NW, hNW⟩ : ∃ n, n = x.gs[i].wins.length := ⟨_, rfl⟩
    obtain ⟨ND, hND⟩ : ∃ n, n = x.gs[i].devs.length := ⟨_, rfl⟩
    have hNWb : NW ≤ 20 := by rw [hNW]; exact hfew.1
    have hNDb : ND ≤ 20 := by rw [hND]; exact hfew.2.1
    rw [← hNW, ← hND] at hcell hlen
    obtain ⟨NG, hNG⟩ : ∃ n, n = x.gs.length := ⟨_, rfl⟩
    rw [← hNG] at hi hfg ea
    obtain ⟨M, hM⟩ : ∃ n, n = lc.length := ⟨_, rfl⟩
    rw [← hM] at hfc ec
    obtain ⟨N, hN⟩ : ∃ n, n = l.length := ⟨_, rfl⟩
    rw [← hN] at hll hlen
    have HNL := Lib.hid hN
    have HNM := Lib.hid hM
    have HSB := Lib.hid hSB
    have HSO : Hid (∀ j k (hj : j < l.length) (hk : k < l.length), j < k → l[j].ipa < l[k].ipa) := Lib.hid (fun j k hj hk h => (List.pairwise_iff_getElem.1 hso j k hj hk h).2)
    obtain ⟨fh, hfh⟩ : ∃ f : Mp → Bool, f = fun z => has (ipaS z) p := ⟨_, rfl⟩
    have HFH : Hid (∀ z, fh z = has (ipaS z) p) := Lib.hid (fun z => by rw [hfh])
    have HON : Hid ((l.filter fh).length ≤ 1) := Lib.hid (by rw [hfh]; exact hon)
    have HLEN := Lib.hid hlen
    have HG := Lib.hid hcell
    have HCH := Lib.hid hch
    have HP := Lib.hid hp
    obtain ⟨r0, hr0⟩ : ∃ r, r = w.heap.size := ⟨_, rfl⟩
    rw [← hr0] at HA
    subst ea ec
    have HCELL : Hid (∀ Y, Below V.heap.size V Y → Y.cell? ⟨r0, 1, none⟩ = some (.slice (some a0) NG d) ∧ Y.cell? ⟨r0, 2, none⟩ = some (.slice A2 M d2)) := Lib.hid (fun Y hY => by
      have h := HA.out.under hY
      exact ⟨h.cell (i := 1) (by decide), h.cell (i := 2) (by decide)⟩)
    rw [← hr0]
    have hiN : (i : Int) < (NG : Int) := by omega
    have hiN2 : i < NG := by omega
    have hi0 : (0 : Int) ≤ (i : Int) := by omega
    clear HM1 hR HAWK HCM hl hok hfa hgu hgb hfew hSB hso hon hlen hlc hNW hND hNG hM hN hfh hch hcell hp hr0 hi
    subst hgi
    obtain ⟨gi, hgi⟩ : ∃ z : Int, z = (i : Int) := ⟨_, rfl⟩
    rw [← hgi] at HLEN HN1
    have HGI := Lib.hid hgi
    rw [← hgi]
    clear hgi
    go_upto_region 8 with (first
      | ((with_reducible show wpList _ _ _ (Oper.mk _ (.load _ _) _ _ _ _ :: _) _ _); refine wl_load rfl 26 _ rfl _ rfl _ (run_load_arr (HA.out.under HD.out) Try.underlying26 rfl infoCf) ?_)
      | (go_at_call 9; refine (HN1.out _ HD.out).mono ?_; rintro e w2 ⟨v1, rfl, ho, hd⟩; obtain ⟨A5, c5, rfl, -, hr1, -⟩ := ho.form; have HR1 := Lib.hid hr1; have HD := Lib.hid (HD.out.trans (hd.mono HD.out.size)); clear hd ho hr1))
    clear HN1
    rw [← HNL.out]
    go_wp2_with fail
    go_loopw [6, 9, 35] (fun _ s v W => ∃ k nn : Nat, k ≤ N ∧ v = .int .i64 k ∧ s = .int .i64 nn ∧ nn ≤ k ∧ Hid (nn = ((l.take k).filter fh).length) ∧ Hid (Below w2.heap.size w2 W)) (fun _ _ v _ => N - (intOf v).toNat)
    case atStart => exact ⟨0, 0, Nat.zero_le _, rfl, rfl, Nat.le_refl _, Lib.hid rfl, Lib.hid (Below.refl _ _)⟩
    case round =>
      obtain ⟨k, nn, hk, rfl, rfl, hnk, HCN, HB⟩ := hrel
      obtain ⟨W, hW⟩ : ∃ Y : World, Y = wr := ⟨_, rfl⟩
      subst hW
      by_cases hlt0 : k < N
      · have hlt : k < l.length := by have := HNL.out; omega
        have g1 := HR1.out.up HB.out
        obtain ⟨b0, q1, ea, hq1, -, hcp⟩ := g1.at hlt
        obtain ⟨y, hy⟩ : ∃ y, y = l[k] := ⟨_, rfl⟩
        rw [← hy] at hcp
        have hyb : MpB y := by rw [hy]; exact HSB.out _ (List.getElem_mem _)
        obtain ⟨pi, hpi⟩ := Int.eq_ofNat_of_zero_le hyb.ipa.1
        obtain ⟨sn, hsn⟩ := Int.eq_ofNat_of_zero_le hyb.size.1
        have e5 : ipaS y = (pi, sn) := by unfold ipaS; rw [hpi, hsn]; rfl
        have hf1 : fit (pi, sn) := e5 ▸ fit_ipa hyb
        have HGA := Lib.hid (fun W => rhasE (pi, sn) hf1 p HP.out W)
        obtain ⟨qh, hqh⟩ : ∃ b, b = has (pi, sn) p := ⟨_, rfl⟩
        have HSN : Hid (((l.take (k + 1)).filter fh).length = nn + (if qh = true then 1 else 0)) := Lib.hid (by rw [take_filter_len fh l k hlt, ← hy, HFH.out, e5, ← hqh, ← HCN.out])
        rw [← hqh] at HGA
        unfold EqV at HGA
        have HPRE : Hid (∀ j (hj : j + 1 = k), ∃ (z : Int) (q2 : Addr), b0.add (j * 5) = q2 ∧ (∀ Y, Below w2.heap.size w2 Y → Y.cell? q2 = some (.int .u64 z)) ∧ z < (pi : Int)) := Lib.hid (fun j hj => by
          subst hj
          have hjl : j < l.length := by omega
          refine ⟨l[j].ipa, _, rfl, fun Y hY => ?_, by rw [← hpi, hy]; exact HSO.out j (j + 1) hjl hlt (by omega)⟩
          obtain ⟨a', q', ea', hq', -, hcz⟩ := (HR1.out.up hY).at hjl
          rw [ea] at ea'
          injection ea' with ea'
          subst ea'
          rw [hq']
          have := hcz 0 (by decide)
          have e0 : q'.add 0 = q' := by simp [Addr.add]
          rw [e0] at this; exact this)
        have hki : (k : Int) < (N : Int) := by omega
        obtain ⟨r, hr⟩ : ∃ r, r = W.heap.size := ⟨_, rfl⟩
        obtain ⟨X, hX⟩ : ∃ X, X = (W.alloc (.cells (vec 5 (mpE zMp)) 39)).setRow W.heap.size (vec 5 (mpE y)) := ⟨_, rfl⟩
        have b1 : Below W.heap.size W X := by rw [hX]; exact below_row ((Below.refl _ _).alloc (Nat.le_refl _) _) (Nat.le_refl _) _
        have a1 : Arr X r 39 5 (mpE y) := by rw [hX, hr]; exact (Arr.new W _ _ _).row _
        have HBX := Lib.hid (HB.out.trans (b1.mono HB.out.size))
        have HCP := Lib.hid hcp
        have HX := Lib.hid hX
        have HRR := Lib.hid hr
        have HAM := Lib.hid a1
        have HPC : Hid (∀ Y, Arr Y r 39 5 (mpE y) → Y.cell? ⟨r, 0, none⟩ = some (.int .u64 (pi : Int)) ∧ Y.cell? ⟨r, 2, none⟩ = some (.int .u64 (sn : Int))) := Lib.hid (fun Y h => ⟨by rw [← hpi]; exact h.cell (i := 0) (by decide), by rw [← hsn]; exact h.cell (i := 2) (by decide)⟩)
        obtain ⟨x0, x2⟩ := HPC.out _ a1
        subst ea
        clear g1 hcp hlt hr hX b1 a1 hyb hy hpi hsn e5 hf1 hqh HCN
        go_upto_region 12 with (first
          | ((with_reducible show wpList _ _ _ (Oper.mk _ (.load _ _) _ _ _ _ :: _) _ _); refine wl_load_q rfl 39 _ rfl q1 rfl _ (run_load_q HCP.out Try.underlying39 rfl infoMp) ?_)
          | ((with_reducible show wpList _ _ _ (Oper.mk _ (.store _ _ _) _ _ _ _ :: _) _ _); refine wl_store rfl 39 _ _ rfl _ rfl _ rfl (run_store_arr (Arr.new W _ _ _) (mpE y) infoMp (mpE_one _ _)) ?_))
        rw [← HX.out, ← HRR.out]
        clear HX HCP HRR
        have hnb : nn ≤ 200 := by omega
        cases qh
        · have HCN2 : Hid (nn = ((l.take (k + 1)).filter fh).length) := Lib.hid (by rw [HSN.out]; rfl)
          clear HSN
          go_upto_region 14 with (first
            | ((with_reducible show wpList _ _ _ (Oper.mk _ (.build _ _) _ _ _ _ :: _) _ _); refine wl_build rfl 49 _ rfl (vec 2 (spE (pi, sn))) (by kernel_rfl) ?_)
            | (go_at_call 21; refine (HGA.out _).mono ?_; rintro e w4 ⟨rfl, hd⟩; have HD4 := Lib.hid (HBX.out.trans (hd.mono HBX.out.size)); have HAM := Lib.hid (HAM.out.under hd); clear hd))
          clear x0 x2
          obtain ⟨x0, x2⟩ := HPC.out _ HAM.out
          by_cases hk0 : k = 0
          · subst hk0
            clear HPRE
            go_quiet (fail)
            go_wp2_with fail
            go_roundw
            case rel => exact ⟨1, nn, by omega, by go_num, by go_num, by omega, HCN2, Lib.hid (below_dq HD4.out _)⟩
            case measure => simp [intOf]; omega
          · obtain ⟨j, hj⟩ : ∃ j, j + 1 = k := ⟨k - 1, by omega⟩
            obtain ⟨z, q2, hq2, hcz, hzp⟩ := HPRE.out j hj
            have c2 := hcz _ HD4.out
            have hk1 : (0 : Int) < (k : Int) := by omega
            have hk1n : 0 < k := by omega
            have hkd : decide (0 < k) = true := decide_eq_true hk1n
            have hkj : (k : Int) - 1 = (j : Int) := by omega
            have hjN : (j : Int) < (N : Int) := by omega
            have hjN2 : j < N := by omega
            have wj : IntKind.i64.wrap (j : Int) = (j : Int) := by rw [IntKind.wrap_i64]; omega
            have hge : ¬ (pi : Int) ≤ z := by omega
            have HJ := Lib.hid hj
            clear HPRE hcz hk0 hj
            go_quiet (fail)
            go_wp2_with fail
            go_roundw
            case rel => exact ⟨k + 1, nn, by omega, by go_num, by go_num, by omega, HCN2, Lib.hid (below_dq HD4.out _)⟩
            case measure => simp [intOf]; omega
        · have HCN2 : Hid (nn + 1 = ((l.take (k + 1)).filter fh).length) := Lib.hid (by rw [HSN.out]; rfl)
          clear HSN
          go_upto_region 14 with (first
            | ((with_reducible show wpList _ _ _ (Oper.mk _ (.build _ _) _ _ _ _ :: _) _ _); refine wl_build rfl 49 _ rfl (vec 2 (spE (pi, sn))) (by kernel_rfl) ?_)
            | (go_at_call 21; refine (HGA.out _).mono ?_; rintro e w4 ⟨rfl, hd⟩; have HD4 := Lib.hid (HBX.out.trans (hd.mono HBX.out.size)); have HAM := Lib.hid (HAM.out.under hd); clear hd))
          clear x0 x2
          obtain ⟨x0, x2⟩ := HPC.out _ HAM.out
          by_cases hk0 : k = 0
          · subst hk0
            clear HPRE
            go_quiet (fail)
            go_wp2_with fail
            go_roundw
            case rel => exact ⟨1, nn + 1, by omega, by go_num, by go_num, by omega, HCN2, Lib.hid (below_dq HD4.out _)⟩
            case measure => simp [intOf]; omega
          · obtain ⟨j, hj⟩ : ∃ j, j + 1 = k := ⟨k - 1, by omega⟩
            obtain ⟨z, q2, hq2, hcz, hzp⟩ := HPRE.out j hj
            have c2 := hcz _ HD4.out
            have hk1 : (0 : Int) < (k : Int) := by omega
            have hk1n : 0 < k := by omega
            have hkd : decide (0 < k) = true := decide_eq_true hk1n
            have hkj : (k : Int) - 1 = (j : Int) := by omega
            have hjN : (j : Int) < (N : Int) := by omega
            have hjN2 : j < N := by omega
            have wj : IntKind.i64.wrap (j : Int) = (j : Int) := by rw [IntKind.wrap_i64]; omega
            have hge : ¬ (pi : Int) ≤ z := by omega
            have HJ := Lib.hid hj
            clear HPRE hcz hk0 hj
            go_quiet (fail)
            go_wp2_with fail
            go_roundw
            case rel => exact ⟨k + 1, nn + 1, by omega, by go_num, by go_num, by omega, HCN2, Lib.hid (below_dq HD4.out _)⟩
            case measure => simp [intOf]; omega
      · obtain rfl : k = N := by omega
        clear hlt0
        have HN1 : Hid (nn ≤ 1) := Lib.hid (by have h := HCN.out; rw [HNL.out, List.take_length] at h; rw [h]; exact HON.out)
        have HDW := Lib.hid (HD.out.trans (HB.out.mono HD.out.size))
        have y2 := (HCELL.out W HDW.out).2
        clear HCN
        go_wp2_with fail
        clear y2
        go_loopw [12, 66] (fun s v Y => ∃ m E : Nat, m ≤ M ∧ v = .int .i64 m ∧ s = .int .i64 E ∧ E ≤ 2 * m ∧ Hid (E = ((lc.take m).flatMap (chM gi)).length) ∧ Hid (Below V.heap.size V Y)) (fun _ v _ => M - (intOf v).toNat)
        case atStart => exact ⟨0, 0, Nat.zero_le _, rfl, rfl, Nat.le_refl _, Lib.hid rfl, HDW⟩
        case round =>
          obtain ⟨m, E, hm, rfl, rfl, hEm, HEC, HB9⟩ := hrel
          obtain ⟨W1, hW1⟩ : ∃ Y : World, Y = wr := ⟨_, rfl⟩
          subst hW1
          by_cases hlt0 : m < M
          · have hlt : m < lc.length := by have := HNM.out; omega
            have g1 := HCH.out W1 HB9.out
            obtain ⟨b0, q1, ea, hq1, -, hcp⟩ := g1.at hlt
            obtain ⟨y, hy⟩ : ∃ y, y = lc[m] := ⟨_, rfl⟩
            rw [← hy] at hcp
            have HNEXT : Hid (((lc.take (m + 1)).flatMap (chM gi)).length = E + cntE gi y 2) := Lib.hid (by rw [take_flat_len gi lc m hlt, ← hy, ← HEC.out])
            have hki : (m : Int) < (M : Int) := by omega
            obtain ⟨r, hr⟩ : ∃ r, r = W1.heap.size := ⟨_, rfl⟩
            obtain ⟨X, hX⟩ : ∃ X, X = (W1.alloc (.cells (vec 8 (chE zCh)) 54)).setRow W1.heap.size (vec 8 (chE y)) := ⟨_, rfl⟩
            have b1 : Below W1.heap.size W1 X := by rw [hX]; exact below_row ((Below.refl _ _).alloc (Nat.le_refl _) _) (Nat.le_refl _) _
            have a1 : Arr X r 54 8 (chE y) := by rw [hX, hr]; exact (Arr.new W1 _ _ _).row _
            have HBX := Lib.hid (HB9.out.trans (b1.mono HB9.out.size))
            have HAC := Lib.hid a1
            have HCP := Lib.hid hcp
            have HX := Lib.hid hX
            have HRR := Lib.hid hr
            have HTW : Hid (∀ i, i < 6 → X.cell? ((⟨r, 2, none⟩ : Addr).add i) = some (twoE y.a y.b i)) := Lib.hid (fun i hi => by
              rw [add_atM, HAC.out.cell (by omega), Nat.add_comm 2 i]
              rfl)
            subst ea
            clear g1 hcp hlt hr hX b1 a1 hy HEC
            go_upto_region 21 with (first
              | ((with_reducible show wpList _ _ _ (Oper.mk _ (.load _ _) _ _ _ _ :: _) _ _); refine wl_load_q rfl 54 _ rfl q1 rfl _ (run_load_q HCP.out Try.underlying54 rfl infoCh) ?_)
              | ((with_reducible show wpList _ _ _ (Oper.mk _ (.store _ _ _) _ _ _ _ :: _) _ _); refine wl_store rfl 54 _ _ rfl _ rfl _ rfl (run_store_arr (Arr.new W1 _ _ _) (chE y) infoCh (chE_one _ _)) ?_))
            rw [← HX.out, ← HRR.out]
            clear HX HCP HRR
            go_wp2_with ((with_reducible show wpList _ _ _ (Oper.mk _ (.load _ _) _ _ _ _ :: _) _ _); refine wl_load_q rfl 52 _ rfl ⟨r, 2, none⟩ rfl _ (run_load_q HTW.out Try.underlying52 rfl infoTw) ?_)
            clear HTW
            go_loopw [12, 72] (fun s j Y => ∃ i2 F : Nat, i2 ≤ 2 ∧ j = .int .i64 i2 ∧ s = .int .i64 F ∧ F = E + cntE gi y i2 ∧ Hid (Below X.heap.size X Y)) (fun _ j _ => 2 - (intOf j).toNat)
            case atStart => exact ⟨0, E, Nat.zero_le _, rfl, rfl, rfl, Lib.hid (Below.refl _ _)⟩
            case round =>
              obtain ⟨i2, F, hi2, rfl, rfl, hF, HBZ⟩ := hrel
              obtain ⟨Z, hZ⟩ : ∃ Y : World, Y = wr := ⟨_, rfl⟩
              subst hZ
              have hFb : F ≤ 1000 := by have := cntE_le gi y i2; omega
              rcases (by omega : i2 = 0 ∨ i2 = 1 ∨ i2 = 2) with rfl | rfl | rfl
              · obtain ⟨z, hz⟩ : ∃ z, z = y.a := ⟨_, rfl⟩
                have HIX : Hid (∀ W : World, (Instr.index 52 (.agg (vec 6 (twoE y.a y.b))) (.int .i64 0)).run Try.prog W = .ok (.agg (vec 3 (endE z))) W) := Lib.hid (fun W => by rw [hz]; exact indexA y.a y.b W)
                have hcs : cntE gi y 1 = cntE gi y 0 + (if z.guest = gi then 1 else 0) := by rw [hz]; simp [cntE]
                have hc2 := cntE_le gi y 0
                obtain ⟨u, hu⟩ : ∃ u, u = Z.heap.size := ⟨_, rfl⟩
                obtain ⟨X3, hX3⟩ : ∃ X, X = (Z.alloc (.cells (vec 3 (endE zEn)) 51)).setRow Z.heap.size (vec 3 (endE z)) := ⟨_, rfl⟩
                have b3 : Below Z.heap.size Z X3 := by rw [hX3]; exact below_row ((Below.refl _ _).alloc (Nat.le_refl _) _) (Nat.le_refl _) _
                have a3 : Arr X3 u 51 3 (endE z) := by rw [hX3, hu]; exact (Arr.new Z _ _ _).row _
                have HB3 := Lib.hid (HBZ.out.trans (b3.mono HBZ.out.size))
                have HX3 := Lib.hid hX3
                have HU := Lib.hid hu
                have d0 : X3.cell? ⟨u, 0, none⟩ = some (.int .i64 z.guest) := a3.cell (i := 0) (by decide)
                clear hz hu hX3 b3 a3
                have hix := HIX.out Z
                go_upto_region 24 with ((with_reducible show wpList _ _ _ (Oper.mk _ (.store _ _ _) _ _ _ _ :: _) _ _); refine wl_store rfl 51 _ _ rfl _ rfl _ rfl (run_store_arr (Arr.new Z _ _ _) (endE z) infoEn (endE_one _ _)) ?_)
                rw [← HX3.out, ← HU.out]
                clear HX3 HU HIX hix
                by_cases ta : z.guest = gi
                · have ta1 : (z.guest == gi) = true := by simpa using ta
                  rw [if_pos ta] at hcs
                  have HCS := Lib.hid hcs
                  clear hcs
                  go_wp2_with fail
                  go_roundw
                  case rel => exact ⟨1, F + 1, by omega, by go_num, by go_num, by rw [hF, HCS.out]; omega, HB3⟩
                  case measure => simp [intOf]
                · have ta1 : (z.guest == gi) = false := by simpa using ta
                  rw [if_neg ta] at hcs
                  have HCS := Lib.hid hcs
                  clear hcs
                  go_wp2_with fail
                  go_roundw
                  case rel => exact ⟨1, F, by omega, by go_num, by first | rfl | (congr 1; omega), by rw [hF, HCS.out]; omega, HB3⟩
                  case measure => simp [intOf]
              · obtain ⟨z, hz⟩ : ∃ z, z = y.b := ⟨_, rfl⟩
                have HIX : Hid (∀ W : World, (Instr.index 52 (.agg (vec 6 (twoE y.a y.b))) (.int .i64 1)).run Try.prog W = .ok (.agg (vec 3 (endE z))) W) := Lib.hid (fun W => by rw [hz]; exact indexB y.a y.b W)
                have hcs : cntE gi y 2 = cntE gi y 1 + (if z.guest = gi then 1 else 0) := by rw [hz]; simp [cntE]
                have hc2 := cntE_le gi y 1
                obtain ⟨u, hu⟩ : ∃ u, u = Z.heap.size := ⟨_, rfl⟩
                obtain ⟨X3, hX3⟩ : ∃ X, X = (Z.alloc (.cells (vec 3 (endE zEn)) 51)).setRow Z.heap.size (vec 3 (endE z)) := ⟨_, rfl⟩
                have b3 : Below Z.heap.size Z X3 := by rw [hX3]; exact below_row ((Below.refl _ _).alloc (Nat.le_refl _) _) (Nat.le_refl _) _
                have a3 : Arr X3 u 51 3 (endE z) := by rw [hX3, hu]; exact (Arr.new Z _ _ _).row _
                have HB3 := Lib.hid (HBZ.out.trans (b3.mono HBZ.out.size))
                have HX3 := Lib.hid hX3
                have HU := Lib.hid hu
                have d0 : X3.cell? ⟨u, 0, none⟩ = some (.int .i64 z.guest) := a3.cell (i := 0) (by decide)
                clear hz hu hX3 b3 a3
                have hix := HIX.out Z
                go_upto_region 24 with ((with_reducible show wpList _ _ _ (Oper.mk _ (.store _ _ _) _ _ _ _ :: _) _ _); refine wl_store rfl 51 _ _ rfl _ rfl _ rfl (run_store_arr (Arr.new Z _ _ _) (endE z) infoEn (endE_one _ _)) ?_)
                rw [← HX3.out, ← HU.out]
                clear HX3 HU HIX hix
                by_cases ta : z.guest = gi
                · have ta1 : (z.guest == gi) = true := by simpa using ta
                  rw [if_pos ta] at hcs
                  have HCS := Lib.hid hcs
                  clear hcs
                  go_wp2_with fail
                  go_roundw
                  case rel => exact ⟨2, F + 1, by omega, by go_num, by go_num, by rw [hF, HCS.out]; omega, HB3⟩
                  case measure => simp [intOf]
                · have ta1 : (z.guest == gi) = false := by simpa using ta
                  rw [if_neg ta] at hcs
                  have HCS := Lib.hid hcs
                  clear hcs
                  go_wp2_with fail
                  go_roundw
                  case rel => exact ⟨2, F, by omega, by go_num, by first | rfl | (congr 1; omega), by rw [hF, HCS.out]; omega, HB3⟩
                  case measure => simp [intOf]
              · have hcl := cntE_le gi y 2
                have HF2 := Lib.hid (show F = ((lc.take (m + 1)).flatMap (chM gi)).length by rw [HNEXT.out]; exact hF)
                go_wp2_with fail
                go_roundw
                case rel => exact ⟨m + 1, F, by omega, by go_num, rfl, by omega, HF2, Lib.hid (HBX.out.trans (HBZ.out.mono HBX.out.size))⟩
                case measure => simp [intOf]; omega
          · obtain rfl : m = M := by omega
            clear hlt0
            have hE : k = NW + (ND + E) := by have h := HEC.out; rw [HNM.out, List.take_length] at h; rw [HLEN.out, h]
            obtain ⟨⟨z1, z2⟩, -⟩ := HG.out W1 HB9.out
            have y1 := (HCELL.out W1 HB9.out).1
            have n1 : (nn : Int) ≤ 1 := by have := HN1.out; omega
            have wa : IntKind.i64.wrap ((NW : Int) + (ND : Int)) = (NW : Int) + (ND : Int) := by rw [IntKind.wrap_i64]; omega
            have wb : IntKind.i64.wrap ((NW : Int) + (ND : Int) + (E : Int)) = (k : Int) := by rw [IntKind.wrap_i64]; omega
            have wk : ((k : Int) == (k : Int)) = true := by simp
            rw [HGI.out]
            clear hE
            go_upto_region 28 with fail
            go_quiet (fail)
            go_wp2_with fail
            go_ret
            exact ⟨by rfl, HV.out.trans ((below_dq HB9.out _).mono HV.out.size)⟩
end Go.Proofs.Ytgnihceefpijiaa
