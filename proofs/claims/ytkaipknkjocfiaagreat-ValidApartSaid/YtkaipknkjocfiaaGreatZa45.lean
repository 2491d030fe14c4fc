import Derived.Test.YtkaipknkjocfiaaGreatZa43
import Derived.Test.YtkaipknkjocfiaaGreatZa44
namespace Go.Proofs.YtkaipknkjocfiaaGreat
open Go.RowKit Go.Maps
attribute [local go_sem ↓ high] zeroSp zeroCh zeroCf
def Fc (p r3 r5 n : Nat) (cf : Nat → Value) (y : Ch) (Y : World) : Prop := Y.cell? ⟨p, 7, none⟩ = some (.int .i64 (n : Int)) ∧ Arr Y r3 31 3 cf ∧ Arr Y r5 47 8 (chE y)
section
variable {p r3 r5 n : Nat} {cf : Nat → Value} {y : Ch} {Y Y' : World}
theorem Fc.under (h : Fc p r3 r5 n cf y Y) (hb : Below Y.heap.size Y Y') : Fc p r3 r5 n cf y Y' := ⟨(hb.cell (p := ⟨p, 7, none⟩) (lt_of_cell h.1)).trans h.1, h.2.1.under hb, h.2.2.under hb⟩
theorem Fc.putF {v : Value} {bs : Nat} {l : List Sp} (h : Fc p r3 r5 n cf y Y) (ho : OwnS Y bs v l) (hb : PutF p v Y Y') (h3 : r3 ≠ p) (h5 : r5 ≠ p) (h7 : Y'.cell? ⟨p, 7, none⟩ = some (.int .i64 (n : Int))) : Fc p r3 r5 n cf y Y' :=
 ⟨h7, (hb.block _ h.2.1.lt h3 (own_ne ho h.2.1 (by decide))).trans h.2.1, (hb.block _ h.2.2.lt h5 (own_ne ho h.2.2 (by decide))).trans h.2.2⟩
end
theorem chan_eq {b : Bd} {x : Cf} {k : Nat} (hk : k < x.chs.length) (s : Nat × Nat) : chanP b x k s = mustP (decide (x.chs[k].a.guest ≠ x.chs[k].b.guest) && (endB x x.chs[k] x.chs[k].a && endB x x.chs[k] x.chs[k].b)) 12 k (mustP (chanB b x k x.chs[k]) 11 k s) := by
 unfold chanP
 rw [List.getElem?_eq_getElem hk]
theorem chan_sticky {b : Bd} {x : Cf} (i : Nat) (s : Nat × Nat) (h : s.1 ≠ 0) : chanP b x i s = s := by
 unfold chanP
 cases x.chs[i]? with
 | none => rfl
 | some t => simp only; rw [must_sticky (by rw [must_sticky h]; exact h), must_sticky h]
def chansS (b : Bd) (x : Cf) : Nat × Nat := upto x.chs.length (chanP b x) (0, 0)
theorem join_is {x : Cf} {y : Ch} (h : badCh y = false) : joinK x.gs.length y = (decide (y.a.guest ≠ y.b.guest) && (endB x y y.a && endB x y y.b)) := by
 unfold badCh badEn inB at h
 simp only [Bool.or_eq_false_iff, Bool.not_eq_false', decide_eq_true_eq] at h
 unfold joinK
 rw [end_is h.1.1.1 h.1.2, end_is h.2.1.1 h.2.2]
theorem errP_chs {x : Cf} (h : errP x = 0) : ∀ y ∈ x.chs, badCh y = false := fun y hy => by
 have hc : errC x = 0 := by
  unfold errP at h
  split at h
  · assumption
  · exact h
 have := (errC_ok hc).2.2.2
 rw [← Bool.not_eq_true]
 intro hh
 rw [List.any_eq_true.2 ⟨y, hy, hh⟩] at this
 cases this
set_option maxHeartbeats 8000000 in
set_option maxRecDepth 100000 in
theorem kchans_any (x : Cf) (a c : Value) (b : Bd) (B p m1 m2 m3 m4 base N0 : Nat) (wh0 : Int) (L1 L2 L3 L4 : List Lit) (w : World) (hx : CfRW w B x a c) (hb : CfB x) (hf : fewC x = true) (hr : fit b.r) (hl : fit b.l) (her : errP x = 0) (hgs : guestsS b x = (0, 0)) (hs : KSt B w p m1 m2 m3 m4 base b wh0 N0 L1 L2 L3 L4 (memS x x.gs.length)) :
  Calls Tryz.prog 21 #[.pointer (some ⟨p, 0, none⟩), cfVal x a c] w (AskP B (chansS b x) (fun w' => ∃ wh mem, KSt B w' p m1 m2 m3 m4 base b wh N0 L1 L2 L3 L4 mem) w) := by
 have hBw : B ≤ w.heap.size := by have := hs.ord; omega
 have hbw : base ≤ w.heap.size := by have := hs.ord; omega
 have hgok : ∀ i (hi : i < x.gs.length), GuestOk b x i x.gs[i] := fun i hi => (upto_zero (f := guestP b x) (P := fun g => ∀ (hg : g < x.gs.length), GuestOk b x g x.gs[g]) (fun i s hs => guest_zero hs) x.gs.length (0, 0) (by show (guestsS b x).1 = 0; rw [hgs])).2 i hi hi
 have hap : ApartS (memS x x.gs.length) := mem_apart _ fun i hi => (hgok i hi).owned
 have hdv : ∀ t ∈ x.gs, t.devs.all (devB b) = true := fun t ht => by
  obtain ⟨i, hi, rfl⟩ := List.getElem_of_mem ht
  exact (hgok i hi).devs
 obtain ⟨hx1, -⟩ := hx
 obtain ⟨⟨A, d, ys, ha, hm, hg, -⟩, ⟨A2, d2, hc, hch, -⟩⟩ := hx1
 obtain ⟨NG, hNG⟩ : ∃ n, n = x.gs.length := ⟨_, rfl⟩
 obtain ⟨NC, hNC⟩ : ∃ n, n = x.chs.length := ⟨_, rfl⟩
 have hN20 : NG ≤ 20 := by rw [hNG]; exact (few_gs hf).1
 have hN40 : NC ≤ 40 := by rw [hNC]; exact (few_gs hf).2.1
 obtain ⟨r3, hr3⟩ : ∃ r, r = w.heap.size := ⟨_, rfl⟩
 obtain ⟨V, hV⟩ : ∃ V, V = w.alloc (.cells (vec 3 (cfE x.ver a c)) 31) := ⟨_, rfl⟩
 have bV : Below w.heap.size w V := by rw [hV]; exact Below.alloc_own _ _
 have v3 : Arr V r3 31 3 (cfE x.ver a c) := by rw [hV, hr3]; exact Arr.new _ _ _ _
 have hsV := hs.under bV
 have c2 : V.cell? ⟨r3, 2, none⟩ = some (.slice A2 NC d2) := by rw [v3.cell (i := 2) (by decide), hNC]; exact congrArg some hc
 have HST : Hid ((∃ wh, KSt B V p m1 m2 m3 m4 base b wh N0 L1 L2 L3 L4 (memC x 0)) ∧ Below B w V ∧ upto 0 (chanP b x) (0, 0) = (0, 0) ∧ Arr V r3 31 3 (cfE x.ver a c)) := Lib.hid ⟨⟨wh0, by have e : memC x 0 = memS x x.gs.length := (by unfold memC; simp); rw [e]; exact hsV⟩, bV.mono hBw, rfl, v3⟩
 have HRW : Hid (∀ Y, Below B w Y → RowE 8 chE Y B A2 x.chs) := Lib.hid fun Y hY => hch.below hY
 have HBB := Lib.hid hb
 have HFE := Lib.hid hf
 have HFT := Lib.hid (And.intro hr hl)
 have HER := Lib.hid (errP_chs her)
 have HAP := Lib.hid hap
 have HDV := Lib.hid hdv
 have HA1 : Hid (∀ Y, Arr Y r3 31 3 (cfE x.ver a c) → Y.cell? ⟨r3, 1, none⟩ = some (.slice A NG d)) := Lib.hid fun Y hY => by rw [hY.cell (i := 1) (by decide), hNG]; exact congrArg some ha
 have HORD : Hid (B ≤ m1 ∧ m1 < m2 ∧ m2 < m3 ∧ m3 < m4 ∧ m4 < p ∧ p < base ∧ base ≤ r3 ∧ r3 = w.heap.size) := Lib.hid (by have := hs.ord; omega)
 have HV := Lib.hid hV
 have HR := Lib.hid hr3
 have HNN := Lib.hid (And.intro hNG hNC)
 unfold cfVal
 clear ha hm hg hc hch hgok hap hdv hgs hV hr3 bV v3 hsV hb hf hr hl her hs hBw hbw hNG hNC
 go_enter Tryz.func21, Tryz.ntmps21
 go_upto_region 1 with fail
 rw [← HV.out, ← HR.out]
 clear HV HR
 go_upto_region 2 with fail
 clear c2
 go_loopw [9] (fun v W => ∃ n : Nat, n ≤ NC ∧ v = .int .i64 n ∧ Hid ((∃ wh, KSt B W p m1 m2 m3 m4 base b wh N0 L1 L2 L3 L4 (memC x n)) ∧ Below B w W ∧ upto n (chanP b x) (0, 0) = (0, 0) ∧ Arr W r3 31 3 (cfE x.ver a c))) (fun v _ => NC - (intOf v).toNat)
 case atStart => exact ⟨0, Nat.zero_le _, rfl, HST⟩
 case round =>
  clear HST
  obtain ⟨n, hn, rfl, HR⟩ := hrel
  obtain ⟨W, hW⟩ : ∃ W : World, W = wr := ⟨_, rfl⟩
  subst hW
  by_cases hlt : n < NC
  · have hnN : (n : Int) < (NC : Int) := by omega
    have hnx : n < x.chs.length := by have := HNN.out; omega
    obtain ⟨⟨wh, hK⟩, hBel, hU, hk3⟩ := HR.out
    obtain ⟨a0, q, rfl, hq, -, hcp⟩ := (HRW.out W hBel).at hnx
    obtain ⟨y, hy⟩ : ∃ y, y = x.chs[n] := ⟨_, rfl⟩
    rw [← hy] at hcp
    have hym : y ∈ x.chs := by rw [hy]; exact List.getElem_mem _
    have hyb := HBB.out.chs y hym
    obtain ⟨pn, hpn⟩ := Int.eq_ofNat_of_zero_le hyb.1.1
    obtain ⟨sn, hsn⟩ := Int.eq_ofNat_of_zero_le hyb.2.1.1
    have hsp : spC y = (pn, sn) := by unfold spC; rw [hpn, hsn]; rfl
    have hfs : fit (pn, sn) := by rw [← hsp]; exact ⟨(u64Z_nat (u64BZ hyb.1)).2, (u64Z_nat (u64BZ hyb.2.1)).2⟩
    obtain ⟨c11, hc11⟩ : ∃ z, z = chanB b x n x.chs[n] := ⟨_, rfl⟩
    obtain ⟨c12, hc12⟩ : ∃ z, z = (decide (x.chs[n].a.guest ≠ x.chs[n].b.guest) && (endB x x.chs[n] x.chs[n].a && endB x x.chs[n] x.chs[n].b)) := ⟨_, rfl⟩
    have hge : chanP b x n (0, 0) = mustP c12 12 n (mustP c11 11 n (0, 0)) := by rw [chan_eq hnx, hc11, hc12]
    have HNO11 : Hid (c11 = false → chansS b x = (11, n)) := Lib.hid fun h => upto_stop chan_sticky hU (by rw [hge, h, must_first, must_pair (r1 := 11) (by decide)]) (by decide) hnx
    have HNO12 : Hid (c11 = true → c12 = false → chansS b x = (12, n)) := Lib.hid fun h1 h => upto_stop chan_sticky hU (by rw [hge, h1, h, mustP_true, must_first]) (by decide) hnx
    have HYES : Hid (c11 = true → c12 = true → upto (n + 1) (chanP b x) (0, 0) = (0, 0)) := Lib.hid fun h1 h2 => by rw [upto_succ, hU, hge, h1, h2]; rfl
    have hapn : ApartS (memC x n) := memC_apart (b := b) HAP.out n (by omega) fun i hi hlt => by
     have hz := (upto_zero (f := chanP b x) (P := fun k => ∀ (hk : k < x.chs.length), ChanOk b x k x.chs[k]) (fun i s hs => chan_zero hs) n (0, 0) (by rw [hU])).2
     have hall : ∀ j, j ≤ n → ∀ i (hi : i < x.chs.length), i < j → chanK b x i (spC x.chs[i]) = true := fun j => by
       induction j with
       | zero => intro _ i _ h; omega
       | succ j ih =>
         intro hj i hi hij
         rw [chan_is HDV.out i hi (memC_apart (b := b) HAP.out i (by omega) fun k hk hki => ih (by omega) k hk (by omega))]
         exact (hz i (by omega) hi).chan
     exact hall n (Nat.le_refl _) i hi hlt
    obtain ⟨r5, hr5⟩ : ∃ r, r = W.heap.size := ⟨_, rfl⟩
    obtain ⟨X, hX⟩ : ∃ X, X = (W.alloc (.cells (vec 8 (chE zCh)) 47)).setRow W.heap.size (vec 8 (chE y)) := ⟨_, rfl⟩
    have bX : Below W.heap.size W X := by rw [hX]; exact below_row ((Below.refl _ _).alloc (Nat.le_refl _) _) (Nat.le_refl _) _
    have aX : Arr X r5 47 8 (chE y) := by rw [hX, hr5]; exact (Arr.new W _ _ _).row _
    have kX := hK.under bX
    obtain ⟨X2, hX2⟩ : ∃ Y, Y = X.setCell ⟨p, 7, none⟩ (.int .i64 (n : Int)) := ⟨_, rfl⟩
    have kX2 : KSt B X2 p m1 m2 m3 m4 base b (n : Int) N0 L1 L2 L3 L4 (memC x n) := by rw [hX2]; exact kX.setWhere _
    have hord := hK.ord
    have hor := HORD.out
    have FX : Fc p r3 r5 n (cfE x.ver a c) y X2 := ⟨kX2.cell.1, by rw [hX2]; exact (hk3.under bX).far (p := ⟨p, 7, none⟩) (by show r3 ≠ p; omega) _, by rw [hX2]; exact aX.far (p := ⟨p, 7, none⟩) (by show r5 ≠ p; omega) _⟩
    have bX2 : Below B w X2 := by
     rw [hX2]
     exact (hBel.trans (bX.mono (by omega))).setCell (p := ⟨p, 7, none⟩) (by show B ≤ p; omega) _
    have f7 := kX.cell.2.2.2.2.2
    have e7 := kX.cell.1
    have y0 : X2.cell? ⟨r5, 0, none⟩ = some (.int .u64 (pn : Int)) := by rw [← hpn]; exact FX.2.2.cell (i := 0) (by decide)
    have y1 : X2.cell? ⟨r5, 1, none⟩ = some (.int .u64 (sn : Int)) := by rw [← hsn]; exact FX.2.2.cell (i := 1) (by decide)
    have HSHA : Hid (Calls Tryz.prog 54 #[.pointer (some ⟨p, 0, none⟩), .agg (vec 2 (spE (pn, sn)))] X2 fun e w' => ∃ r, e = .returned (.bool r) ∧ r = c11 ∧ (r = true → KSt B w' p m1 m2 m3 m4 base b (n : Int) N0 L1 L2 L3 L4 (memC x (n + 1))) ∧ (w'.cell? ⟨p, 7, none⟩ = some (.int .i64 (n : Int)) ∧ (r = true → Fc p r3 r5 n (cfE x.ver a c) y w') ∧ Below B X2 w')) := Lib.hid (by
     obtain ⟨Am, cm, hbox, hown⟩ := kX2.box
     have hko := kX2.ord
     have hml : (memC x n).length ≤ 840 := by
       unfold memC
       rw [List.length_append, List.length_map, List.length_take]
       have := memS_len HFE.out x.gs.length (Nat.le_refl _)
       have := HNN.out
       omega
     refine (kshared_any codeFirst p b (n : Int) m1 m2 m3 m4 base cm Am (memC x n) (pn, sn) hfs HFT.out.1 HFT.out.2 X2 hbox hown (by omega) (by omega) (by omega) (fun s hs => ?_)).mono fun e w' hh => ?_
     · rcases List.mem_append.1 hs with h | h
       · unfold memC at h
         rcases List.mem_append.1 h with h | h
         · exact memS_fit HBB.out _ s h
         · obtain ⟨u, hu, rfl⟩ := List.mem_map.1 h
           have hub := HBB.out.chs u (List.mem_of_mem_take hu)
           exact ⟨(u64Z_nat (u64BZ hub.1)).2, (u64Z_nat (u64BZ hub.2.1)).2⟩
       · rw [List.mem_singleton.1 h]; exact hfs
     · obtain ⟨r, h1, h2, h3, h4, h5⟩ := hh
       have hms : memC x n ++ [(pn, sn)] = memC x (n + 1) := by rw [memC_succ x n hnx, ← hy, hsp]
       rw [hms] at h3 h2
       have hkk : r = true → KSt B w' p m1 m2 m3 m4 base b (n : Int) N0 L1 L2 L3 L4 (memC x (n + 1)) := fun e => kX2.own hown h4 (h3 e)
       have h7 : w'.cell? ⟨p, 7, none⟩ = some (.int .i64 (n : Int)) := h5
       refine ⟨r, h1, ?_, hkk, h7, fun e => FX.putF hown h4 (by omega) (by omega) h7, h4.belowS hown (by omega) (by omega) (by omega)⟩
       rw [h2, hc11, ← chan_is HDV.out n hnx hapn]
       unfold chanK
       rw [← hms, ← hy, hsp])
    have HJOI : Hid (∀ Y, Calls Tryz.prog 55 #[.agg (vec 8 (chE y)), .int .i64 (NG : Int)] Y (EqV c12 Y)) := Lib.hid fun Y => by
     have := kjoined_any NG y hyb Y
     rw [HNN.out.1, join_is (HER.out y hym), hy, ← hc12, ← HNN.out.1, ← hy] at this
     exact this
    unfold EqV at HJOI
    have HFX := Lib.hid FX
    have HBX := Lib.hid bX2
    have HX := Lib.hid hX
    have HX2 := Lib.hid hX2
    have HR5 := Lib.hid hr5
    have HCP := Lib.hid hcp
    have HBs : Hid (B ≤ w.heap.size) := Lib.hid (by omega)
    have hbX := bX
    clear hK hBel hU hk3 hcp hy hym hyb hpn hsn hsp hfs hc11 hc12 hge hapn hr5 hX bX aX kX hX2 kX2 hord hor FX bX2 HR hnx hbX
    go_upto_region 4 with (first
     | ((with_reducible show wpList _ _ _ (Oper.mk _ (.load 47 _) _ _ _ _ :: _) _ _); refine wl_load_q rfl 47 _ rfl q rfl _ (run_load_q HCP.out Tryz.underlying47 rfl infoCh) ?_)
     | ((with_reducible show wpList _ _ _ (Oper.mk _ (.store 47 _ _) _ _ _ _ :: _) _ _); refine wl_store rfl 47 _ _ rfl _ rfl _ rfl (run_store_arr (Arr.new W _ _ _) (chE y) infoCh (chE_one _ _)) ?_))
    rw [← HX.out, ← HR5.out]
    clear HX HCP HR5
    go_upto_region 5 with fail
    rw [← HX2.out]
    clear HX2 f7 e7
    go_upto_region 6 with (first
     | ((with_reducible show wpList _ _ _ (Oper.mk _ (.build _ _) _ _ _ _ :: _) _ _); refine wl_build rfl 24 _ rfl (vec 2 (spE (pn, sn))) (by kernel_rfl) ?_)
     | (go_at_call 54; refine HSHA.out.mono ?_; rintro e w1 ⟨r, rfl, hre, hk, h7, hfx, hbb⟩; have HRE := Lib.hid hre; have HKR := Lib.hid (And.intro hk hfx); have H7 := Lib.hid h7; have HBX := Lib.hid (HBX.out.trans hbb); clear hre hk h7 hfx hbb)
     | (go_at_call 36; refine (mustK_any r 11 n p _ H7.out).mono ?_; rintro e y3 ⟨⟨hz, rfl⟩ | ⟨hz, rfl⟩, rfl⟩; rotate_left; (exact ⟨rfl, .no (HNO11.out (by rw [← HRE.out]; exact hz)) (by decide) HBX.out⟩); have HZ1 := Lib.hid hz; clear hz))
    have HK1 := Lib.hid (HKR.out.1 HZ1.out)
    have HF1 := Lib.hid (HKR.out.2 HZ1.out)
    have HC1 : Hid (c11 = true) := Lib.hid (by rw [← HRE.out]; exact HZ1.out)
    have d1 := HA1.out _ HF1.out.2.1
    clear HSHA HKR HZ1 HRE y0 y1
    go_upto_region 7 with (first
     | ((with_reducible show wpList _ _ _ (Oper.mk _ (.load 47 _) _ _ _ _ :: _) _ _); refine wl_load rfl 47 _ rfl r5 rfl _ (run_load_arr HF1.out.2.2 Tryz.underlying47 rfl infoCh) ?_)
     | (go_at_call 55; refine (HJOI.out _).mono ?_; rintro e w2 ⟨rfl, hd⟩; have HK2 := Lib.hid (HK1.out.under hd); have HF2 := Lib.hid (HF1.out.under hd); have HB2 := Lib.hid (HBX.out.trans (hd.mono (Nat.le_trans HBs.out HBX.out.size))); clear hd)
     | (go_at_call 36; refine (mustK_any c12 12 n p _ HF2.out.1).mono ?_; rintro e y3 ⟨⟨hz, rfl⟩ | ⟨hz, rfl⟩, rfl⟩; rotate_left; (exact ⟨rfl, .no (HNO12.out HC1.out hz) (by decide) HB2.out⟩); have HZ2 := Lib.hid hz; clear hz))
    clear d1
    go_wp2_with fail
    go_roundw
    case rel => exact ⟨n + 1, by omega, by go_num, Lib.hid ⟨⟨_, HK2.out⟩, HB2.out, HYES.out HC1.out HZ2.out, HF2.out.2.1⟩⟩
    case measure => simp [intOf]; omega
  · obtain rfl : n = NC := by omega
    go_wp2_with fail
    go_end0
    have hR := HR.out
    obtain ⟨⟨wh, hk⟩, hB, hU, -⟩ := hR
    rw [HNN.out.2] at hU
    exact .yes hU ⟨wh, _, hk⟩ hB
theorem maps_errK {x : Cf} {g : Int} {n : Nat} (h : mapsP x g = .error n) : n ≠ 0 := by
 unfold mapsP at h
 split at h
 · injection h with h; omega
 · split at h
   · cases h
   · injection h with h; omega
def roomsS (x : Cf) : Nat × Nat := upto x.gs.length (fun g => mustP (mapsB x g) 13 g) (0, 0)
set_option maxHeartbeats 8000000 in
set_option maxRecDepth 100000 in
theorem krooms_any (x : Cf) (a c : Value) (b : Bd) (B p m1 m2 m3 m4 base N0 : Nat) (wh0 : Int) (L1 L2 L3 L4 : List Lit) (mem : List Sp) (w : World) (hx : CfRW w B x a c) (hb : CfB x) (hf : fewC x = true) (hs : KSt B w p m1 m2 m3 m4 base b wh0 N0 L1 L2 L3 L4 mem) :
  Calls Tryz.prog 22 #[.pointer (some ⟨p, 0, none⟩), cfVal x a c] w (AskP B (roomsS x) (fun _ => True) w) := by
 have hBw : B ≤ w.heap.size := by have := hs.ord; omega
 obtain ⟨hx1, -⟩ := hx
 have hx2 := hx1
 obtain ⟨⟨A, d, ys, ha, hm, hg, -⟩, -⟩ := hx2
 obtain ⟨NG, hNG⟩ : ∃ n, n = x.gs.length := ⟨_, rfl⟩
 have hN20 : NG ≤ 20 := by rw [hNG]; exact (few_gs hf).1
 obtain ⟨r3, hr3⟩ : ∃ r, r = w.heap.size := ⟨_, rfl⟩
 obtain ⟨V, hV⟩ : ∃ V, V = w.alloc (.cells (vec 3 (cfE x.ver a c)) 31) := ⟨_, rfl⟩
 have bV : Below w.heap.size w V := by rw [hV]; exact Below.alloc_own _ _
 have v3 : Arr V r3 31 3 (cfE x.ver a c) := by rw [hV, hr3]; exact Arr.new _ _ _ _
 have hsV := hs.under bV
 have c1 : V.cell? ⟨r3, 1, none⟩ = some (.slice A NG d) := by rw [v3.cell (i := 1) (by decide), hNG]; exact congrArg some ha
 have HST : Hid ((∃ wh, KSt B V p m1 m2 m3 m4 base b wh N0 L1 L2 L3 L4 mem) ∧ Below B w V ∧ upto 0 (fun g => mustP (mapsB x g) 13 g) (0, 0) = (0, 0) ∧ Arr V r3 31 3 (cfE x.ver a c)) := Lib.hid ⟨⟨wh0, hsV⟩, bV.mono hBw, rfl, v3⟩
 have HMAP : Hid (∀ (n : Nat) Y, Below B w Y → Calls Tryz.prog 56 #[.agg (vec 3 (cfE x.ver a c)), .int .i64 (n : Int)] Y fun e w' => ∃ v E, e = .returned (.tuple #[v, .int .i64 E]) ∧ (E == 0) = mapsB x n ∧ Below Y.heap.size Y w') := Lib.hid fun n Y hY => by
  refine (codeMaps x a c (n : Int) Y ((hx1.below hY).wide (by have := hY.size; omega)) hb hf).mono fun e w' hh => ?_
  unfold mapsB
  cases hmp : mapsP x (n : Int) with
  | ok l =>
    rw [hmp] at hh
    obtain ⟨v, h1, -, h2⟩ := hh
    exact ⟨v, 0, h1, rfl, h2⟩
  | error m =>
    rw [hmp] at hh
    obtain ⟨A', c', h1, h2⟩ := hh
    exact ⟨_, _, h1, by simpa using maps_errK hmp, h2⟩
 have HORD : Hid (B ≤ m1 ∧ m1 < m2 ∧ m2 < m3 ∧ m3 < m4 ∧ m4 < p ∧ p < r3 ∧ B ≤ w.heap.size) := Lib.hid (by have := hs.ord; omega)
 have HV := Lib.hid hV
 have HR := Lib.hid hr3
 have HNN := Lib.hid hNG
 unfold cfVal
 clear ha hm hg hx1 hV hr3 bV v3 hsV hb hf hs hBw hNG
 go_enter Tryz.func22, Tryz.ntmps22
 go_upto_region 1 with fail
 rw [← HV.out, ← HR.out]
 clear HV HR
 go_upto_region 2 with fail
 clear c1
 go_loopw [10] (fun v W => ∃ n : Nat, n ≤ NG ∧ v = .int .i64 n ∧ Hid ((∃ wh, KSt B W p m1 m2 m3 m4 base b wh N0 L1 L2 L3 L4 mem) ∧ Below B w W ∧ upto n (fun g => mustP (mapsB x g) 13 g) (0, 0) = (0, 0) ∧ Arr W r3 31 3 (cfE x.ver a c))) (fun v _ => NG - (intOf v).toNat)
 case atStart => exact ⟨0, Nat.zero_le _, rfl, HST⟩
 case round =>
  clear HST
  obtain ⟨n, hn, rfl, HR⟩ := hrel
  obtain ⟨W, hW⟩ : ∃ W : World, W = wr := ⟨_, rfl⟩
  subst hW
  by_cases hlt : n < NG
  · have hnN : (n : Int) < (NG : Int) := by omega
    have hnx : n < x.gs.length := by have := HNN.out; omega
    obtain ⟨⟨wh, hK⟩, hBel, hU, hk3⟩ := HR.out
    obtain ⟨c13, hc13⟩ : ∃ z, z = mapsB x n := ⟨_, rfl⟩
    have HNO : Hid (c13 = false → roomsS x = (13, n)) := Lib.hid fun h => upto_stop (f := fun g => mustP (mapsB x g) 13 g) (fun i s h => must_sticky h) hU (show mustP (mapsB x n) 13 n (0, 0) = _ by rw [← hc13, h, must_first]) (by decide) hnx
    have HYES : Hid (c13 = true → upto (n + 1) (fun g => mustP (mapsB x g) 13 g) (0, 0) = (0, 0)) := Lib.hid fun h => by rw [upto_succ, hU, ← hc13, h]; rfl
    obtain ⟨X2, hX2⟩ : ∃ Y, Y = W.setCell ⟨p, 7, none⟩ (.int .i64 (n : Int)) := ⟨_, rfl⟩
    have kX2 : KSt B X2 p m1 m2 m3 m4 base b (n : Int) N0 L1 L2 L3 L4 mem := by rw [hX2]; exact hK.setWhere _
    have hor := HORD.out
    have a3 : Arr X2 r3 31 3 (cfE x.ver a c) := by rw [hX2]; exact hk3.far (p := ⟨p, 7, none⟩) (by show r3 ≠ p; omega) _
    have bX2 : Below B w X2 := by rw [hX2]; exact hBel.setCell (p := ⟨p, 7, none⟩) (by show B ≤ p; omega) _
    have f7 := hK.cell.2.2.2.2.2
    have e7 := hK.cell.1
    have HM := Lib.hid (HMAP.out n X2 bX2)
    rw [← hc13] at HM
    have HKX := Lib.hid kX2
    have HA3 := Lib.hid a3
    have HBX := Lib.hid bX2
    have HX2 := Lib.hid hX2
    clear hK hBel hU hk3 hc13 hX2 kX2 hor a3 bX2 HR hnx
    go_upto_region 5 with fail
    rw [← HX2.out]
    clear HX2 f7 e7
    go_upto_region 6 with (first
     | ((with_reducible show wpList _ _ _ (Oper.mk _ (.load 31 _) _ _ _ _ :: _) _ _); refine wl_load rfl 31 _ rfl r3 rfl _ (run_load_arr HA3.out Tryz.underlying31 rfl infoCf) ?_)
     | (go_at_call 56; refine HM.out.mono ?_; rintro e w1 ⟨v, E, rfl, hE, hd⟩; have HE := Lib.hid hE; have HK1 := Lib.hid (HKX.out.under hd); have HA1 := Lib.hid (HA3.out.under hd); have HB1 := Lib.hid (HBX.out.trans (hd.mono (Nat.le_trans HORD.out.2.2.2.2.2.2 HBX.out.size))); clear hd hE))
    have kE := HE.out
    go_upto_region 7 with (go_at_call 36; refine (mustK_any c13 13 n p _ HK1.out.cell.1).mono ?_; rintro e y3 ⟨⟨hz, rfl⟩ | ⟨hz, rfl⟩, rfl⟩; rotate_left; (exact ⟨rfl, .no (HNO.out hz) (by decide) HB1.out⟩); have HZ := Lib.hid hz; clear hz)
    clear kE
    go_wp2_with fail
    go_roundw
    case rel => exact ⟨n + 1, by omega, by go_num, Lib.hid ⟨⟨_, HK1.out⟩, HB1.out, HYES.out HZ.out, HA1.out⟩⟩
    case measure => simp [intOf]; omega
  · obtain rfl : n = NG := by omega
    go_wp2_with fail
    go_end0
    have hR := HR.out
    obtain ⟨-, hB, hU, -⟩ := hR
    rw [HNN.out] at hU
    exact .yes hU trivial hB
end Go.Proofs.YtkaipknkjocfiaaGreat
