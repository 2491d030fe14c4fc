import Derived.Test.YtkaipknkjocfiaaGreatZo23
namespace Go.Proofs.YtkaipknkjocfiaaGreat
open Go.RowKit
attribute [local go_sem ↓ high] builtin_appS
attribute [local go_sem ↓ high] zeroMp zeroRk
theorem info_rk : (Tryz.prog.info? 145).map (fun i => (i.zero, i.size, i.bytes)) = some (some (.agg (vec 6 (rkE zRk))), 6, 48) := by kernel_rfl
set_option maxRecDepth 100000 in
theorem build_rk (x : Rk) (w : World) : (Instr.buildSlice 151 1 #[(0, .agg (vec 6 (rkE x)))]).run Tryz.prog w = .ok (.slice (some ⟨w.heap.size, 0, none⟩) 1 1) (w.alloc (.cells (vec 6 (rkE x)) 145)) := by
 obtain ⟨i0, hi, hz0, hz1, hz2⟩ := info_parts info_rk
 refine run_buildSlice (P := Tryz.prog) w 151 145 1 _ _ i0 (.agg (vec 6 (rkE zRk))) Tryz.underlying151 hi hz0 (by rw [hz1]; decide) (by rw [hz1]; decide) ?_
 rw [hz1]
 kernel_rfl
structure PutF (Bl : Nat) (v : Value) (w w' : World) : Prop where
 os : w'.os = w.os
 tape : w'.tape = w.tape
 output : w'.output = w.output
 size : w.heap.size ≤ w'.heap.size
 block : ∀ k, k < w.heap.size → k ≠ Bl → some k ≠ v.ownBlock → w'.heap[k]? = w.heap[k]?
theorem PutF.of_below {Bl : Nat} {v : Value} {w w' : World} (h : Below w.heap.size w w') : PutF Bl v w w' := ⟨h.os, h.tape, h.output, h.size, fun k hk _ _ => h.block k hk⟩
theorem PutF.below {Bl base : Nat} {v : Value} {l : List Rk} {w w' : World} (h : PutF Bl v w w') (ho : OwnR w base v l) {n : Nat} (h1 : n ≤ Bl) (h2 : n ≤ base) (h3 : n ≤ w.heap.size) : Below n w w' :=
 ⟨h.os, h.tape, h.output, h.size, fun k hk => h.block k (by omega) (by omega) fun e => by have := (ho.bnd e.symm).1; omega⟩
theorem PutF.kn {Bl base n0 B : Nat} {v u : Value} {l : List Rk} {w w' : World} (h : PutF Bl v w w') (ho : OwnR w base v l) (hb : Blk w Bl 151 #[u]) (h1 : n0 ≤ Bl) (h2 : n0 ≤ base) (h3 : n0 ≤ w.heap.size) : KN n0 B w w' := by
 have hown : ∀ k, some k = v.ownBlock → ∃ cs fr, w.heap[k]? = some (.cells cs 145 fr) := fun k hk => by
   rcases ho.2 with ⟨rfl, _⟩ | ⟨g, cap, cur, rfl, _, hg, _⟩
   · simp [Value.ownBlock] at hk
   · simp [Value.ownBlock] at hk
     subst hk
     exact ⟨_, _, hg⟩
 refine ⟨h.size, (h.below ho h1 h2 h3).block, fun k cs t fr hk ht => ?_, fun k o _ hk hc => ?_⟩
 · refine (h.block k (Array.getElem?_eq_some_iff.1 hk).1 (fun e => ?_) fun e => ?_).trans hk
   · subst e
     rw [show w.heap[k]? = _ from hb] at hk
     injection hk with hk
     injection hk with _ hk _
     exact ht (by rw [← hk]; unfold loudT; decide)
   · obtain ⟨c2, f2, hc⟩ := hown k e
     rw [hc] at hk
     injection hk with hk
     injection hk with _ hk _
     exact ht (by rw [← hk]; unfold loudT; decide)
 · refine (h.block k (Array.getElem?_eq_some_iff.1 hk).1 (fun e => ?_) fun e => ?_).trans hk
   · subst e
     rw [show w.heap[k]? = _ from hb] at hk
     cases hk
     cases hc
   · obtain ⟨c2, f2, hcc⟩ := hown k e
     rw [hcc] at hk
     cases hk
     cases hc
set_option maxHeartbeats 4000000 in
set_option maxRecDepth 100000 in
theorem put_any (x : Rk) (hx : MpB x.m) (Bl base : Nat) (v : Value) (l : List Rk) (w : World) (hbl : Blk w Bl 151 #[v]) (hown : OwnR w base v l) (hbw : base ≤ w.heap.size) (hlen : l.length ≤ 100000) (hne : Bl < base) :
   Calls Tryz.prog 134 #[.agg (vec 6 (rkE x)), .pointer (some ⟨Bl, 0, none⟩)] w fun e w' => e = .returned (.bool (gdS x.m)) ∧ PutF Bl v w w' ∧ ∃ v', Blk w' Bl 151 #[v'] ∧ OwnR w' base v' (if gdS x.m = true then l ++ [x] else l) := by
 obtain ⟨A, c, rfl, hlc, -, hbk⟩ := hown.form
 obtain ⟨g, hg⟩ : ∃ g, g = w.heap.size := ⟨_, rfl⟩
 obtain ⟨V, hV⟩ : ∃ V, V = w.alloc (.cells (vec 6 (rkE x)) 145) := ⟨_, rfl⟩
 have k1 : Arr V g 145 6 (rkE x) := by rw [hV, hg]; exact Arr.new w _ _ _
 have hB : Below w.heap.size w V := by rw [hV]; exact (Below.refl _ _).alloc (Nat.le_refl _) _
 have HV := Lib.hid hV
 have HG := Lib.hid hg
 have HB := Lib.hid hB
 have HK := Lib.hid k1
 have HBL := Lib.hid hbl
 have HO := Lib.hid hown
 have HM : Hid (∀ Y, Below V.heap.size V Y → ∀ i, i < 5 → Y.cell? ((⟨g, 0, none⟩ : Addr).add i) = some (mpE x.m i)) := Lib.hid fun Y hY i hi => by
   rw [add_atM, Nat.zero_add, (k1.under hY).cell (by omega)]
   rcases (by omega : i = 0 ∨ i = 1 ∨ i = 2 ∨ i = 3 ∨ i = 4) with rfl | rfl | rfl | rfl | rfl <;> rfl
 have HSE := Lib.hid (fun W => seen_any x.m hx W)
 have HPH := Lib.hid (fun W => physical_any x.m hx W)
 have HGI := Lib.hid (fun W => goodE (ipaS x.m) (fit_ipa hx) W)
 have HGP := Lib.hid (fun W => goodE (paS x.m) (fit_pa hx) W)
 have HGD : Hid (gdS x.m = (good (ipaS x.m) && good (paS x.m))) := Lib.hid rfl
 obtain ⟨si, hsi⟩ : ∃ s, s = ipaS x.m := ⟨_, rfl⟩
 obtain ⟨sp, hsp⟩ : ∃ s, s = paS x.m := ⟨_, rfl⟩
 rw [← hsi] at HSE HGI HGD
 rw [← hsp] at HPH HGP HGD
 obtain ⟨gi, hgi⟩ : ∃ b, b = good si := ⟨_, rfl⟩
 obtain ⟨gp, hgp⟩ : ∃ b, b = good sp := ⟨_, rfl⟩
 rw [← hgi] at HGI HGD
 rw [← hgp] at HGP HGD
 obtain ⟨r, hr⟩ : ∃ r, r = gdS x.m := ⟨_, rfl⟩
 rw [← hr] at HGD ⊢
 unfold EqV at HGI HGP
 clear hV hg k1 hB hbl hown hx hsi hsp hgi hgp hr
 have m1 := HM.out V (Below.refl _ _)
 cases gi
 · obtain rfl : r = false := HGD.out
   go_enter Tryz.func134, Tryz.ntmps134
   go_upto_region 1 with fail
   rw [← HV.out, ← HG.out]
   clear HV HG
   go_wp2_with (first
     | ((with_reducible show wpList _ _ _ (Oper.mk (some 5) (.load 87 _) _ _ _ _ :: _) _ _); refine wl_load_q rfl 87 _ rfl ⟨g, 0, none⟩ rfl _ (run_load_q m1 Tryz.underlying87 rfl infoMp) ?_)
     | (go_at_call 135; refine (HSE.out _).mono ?_; rintro e w1 ⟨rfl, hd⟩; have HD1 := Lib.hid hd; clear hd)
     | (go_at_call 106; refine (HGI.out _).mono ?_; rintro e w2 ⟨rfl, hd⟩; have HD2 := Lib.hid (HD1.out.trans (hd.mono HD1.out.size)); clear hd HGI))
   go_ret
   have hb := HB.out.trans (HD2.out.mono HB.out.size)
   exact ⟨rfl, PutF.of_below hb, _, HBL.out.under hb, HO.out.on hb (Nat.le_refl _)⟩
 · cases gp
   · obtain rfl : r = false := HGD.out
     go_enter Tryz.func134, Tryz.ntmps134
     go_upto_region 1 with fail
     rw [← HV.out, ← HG.out]
     clear HV HG
     go_wp2_with (first
      | ((with_reducible show wpList _ _ _ (Oper.mk (some 5) (.load 87 _) _ _ _ _ :: _) _ _); refine wl_load_q rfl 87 _ rfl ⟨g, 0, none⟩ rfl _ (run_load_q m1 Tryz.underlying87 rfl infoMp) ?_)
      | ((with_reducible show wpList _ _ _ (Oper.mk (some 11) (.load 87 _) _ _ _ _ :: _) _ _); refine wl_execG (by kernel_rfl) (exec_load_q 87 _ rfl ⟨g, 0, none⟩ rfl _ (run_load_q (HM.out _ HD2.out) Tryz.underlying87 rfl infoMp)) ?_)
      | (go_at_call 135; refine (HSE.out _).mono ?_; rintro e w1 ⟨rfl, hd⟩; have HD1 := Lib.hid hd; clear hd)
      | (go_at_call 94; refine (HPH.out _).mono ?_; rintro e w3 ⟨rfl, hd⟩; have HD3 := Lib.hid (HD2.out.trans (hd.mono HD2.out.size)); clear hd)
      | (go_at_call 106; refine (HGI.out _).mono ?_; rintro e w2 ⟨rfl, hd⟩; have HD2 := Lib.hid (HD1.out.trans (hd.mono HD1.out.size)); clear hd HGI)
      | (go_at_call 106; refine (HGP.out _).mono ?_; rintro e w4 ⟨rfl, hd⟩; have HD4 := Lib.hid (HD3.out.trans (hd.mono HD3.out.size)); clear hd))
     go_ret
     have hb := HB.out.trans (HD4.out.mono HB.out.size)
     exact ⟨rfl, PutF.of_below hb, _, HBL.out.under hb, HO.out.on hb (Nat.le_refl _)⟩
   · obtain rfl : r = true := HGD.out
     go_enter Tryz.func134, Tryz.ntmps134
     go_upto_region 1 with fail
     rw [← HV.out, ← HG.out]
     clear HV HG
     go_upto_region 3 with (first
      | ((with_reducible show wpList _ _ _ (Oper.mk (some 5) (.load 87 _) _ _ _ _ :: _) _ _); refine wl_load_q rfl 87 _ rfl ⟨g, 0, none⟩ rfl _ (run_load_q m1 Tryz.underlying87 rfl infoMp) ?_)
      | ((with_reducible show wpList _ _ _ (Oper.mk (some 11) (.load 87 _) _ _ _ _ :: _) _ _); refine wl_execG (by kernel_rfl) (exec_load_q 87 _ rfl ⟨g, 0, none⟩ rfl _ (run_load_q (HM.out _ HD2.out) Tryz.underlying87 rfl infoMp)) ?_)
      | (go_at_call 135; refine (HSE.out _).mono ?_; rintro e w1 ⟨rfl, hd⟩; have HD1 := Lib.hid hd; clear hd)
      | (go_at_call 94; refine (HPH.out _).mono ?_; rintro e w3 ⟨rfl, hd⟩; have HD3 := Lib.hid (HD2.out.trans (hd.mono HD2.out.size)); clear hd)
      | (go_at_call 106; refine (HGI.out _).mono ?_; rintro e w2 ⟨rfl, hd⟩; have HD2 := Lib.hid (HD1.out.trans (hd.mono HD1.out.size)); clear hd HGI)
      | (go_at_call 106; refine (HGP.out _).mono ?_; rintro e w4 ⟨rfl, hd⟩; have HD4 := Lib.hid (HD3.out.trans (hd.mono HD3.out.size)); clear hd))
     have hb := HB.out.trans (HD4.out.mono HB.out.size)
     have ho := HO.out.on hb (Nat.le_refl _)
     have hbl := HBL.out.under hb
     have hxx := HK.out.under HD4.out
     obtain ⟨B4, e4, w5, hrun, ho4, hb4, hs4, hk4, hn4⟩ := app_E1 (P := Tryz.prog) (enc := rkE) Tryz.underlying151 info_rk (vec_size _ _) (by decide) x (fun i hi => rkE_one x 6 i hi) ho (Nat.le_trans hbw hb.size) (by omega) (by decide) 151
     have hbs := build_rk x w4
     have c0 := hbl.cellAt 0 rfl
     have hbl5 : Blk w5 Bl 151 #[.slice A l.length c] := (hk4 Bl hbl.lt (fun e => by have := (hbk Bl e.symm).1; omega)).trans hbl
     have q0 := hbl5.cellAt 0 rfl
     have q1 : w5.frozen? ⟨Bl, 0, none⟩ = false := by unfold Blk at hbl5; simp [World.frozen?, hbl5]
     have HEND : Hid (PutF Bl (.slice A l.length c) w (w5.setCell ⟨Bl, 0, none⟩ (.slice B4 (l.length + 1) e4)) ∧ Blk (w5.setCell ⟨Bl, 0, none⟩ (.slice B4 (l.length + 1) e4)) Bl 151 #[.slice B4 (l.length + 1) e4] ∧ OwnR (w5.setCell ⟨Bl, 0, none⟩ (.slice B4 (l.length + 1) e4)) base (.slice B4 (l.length + 1) e4) (l ++ [x])) := Lib.hid (by
      refine ⟨⟨hb4.os.trans hb.os, hb4.tape.trans hb.tape, hb4.output.trans hb.output, Nat.le_trans hb.size (by simpa using hs4), fun k hk h1 h2 => ?_⟩, ?_, ?_⟩
      · rw [Below.heap_setCell w5 ⟨Bl, 0, none⟩ _ k (by first | exact h1 | exact fun e => h1 e.symm), hk4 k (Nat.lt_of_lt_of_le hk hb.size) h2, hb.block k hk]
      · unfold Blk at hbl5 ⊢
        simp [World.setCell, Array.getElem?_modify, hbl5]
      · refine ho4.grown (o := some Bl) (fun k _ h2 => Below.heap_setCell w5 ⟨Bl, 0, none⟩ _ k fun e => h2 (by simp only at e; rw [e])) ?_
        rcases hn4 with h | h
        · rw [h]
          refine .inr fun e => ?_
          have := (hbk Bl e).1
          omega
        · rw [h]
          refine .inr fun e => ?_
          have := Option.some.inj e
          have := hb.size
          omega)
     have HXX := Lib.hid hxx
     clear hb ho hbl hxx ho4 hb4 hs4 hk4 hn4 hbl5
     go_wp2_with (first
      | ((with_reducible show wpList _ _ _ (Oper.mk _ (.load 145 _) _ _ _ _ :: _) _ _); refine wl_load rfl 145 _ rfl g rfl _ (run_load_arr HXX.out Tryz.underlying145 rfl infoRk) ?_)
      | ((with_reducible show wpList _ _ _ (Oper.mk _ (.buildSlice _ _ _) _ _ _ _ :: _) _ _); refine wl_bs1 rfl _ rfl (.agg (vec 6 (rkE x))) rfl hbs ?_))
     go_ret
     exact ⟨rfl, HEND.out.1, _, HEND.out.2.1, HEND.out.2.2⟩
end Go.Proofs.YtkaipknkjocfiaaGreat
