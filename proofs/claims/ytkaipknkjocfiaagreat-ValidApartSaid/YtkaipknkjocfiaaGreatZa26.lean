import Derived.Maps.AppendAt
import Derived.Test.YtkaipknkjocfiaaGreatZa25
namespace Go.Proofs.YtkaipknkjocfiaaGreat
open Go.RowKit
attribute [local go_sem ↓ high] builtin_appS
attribute [local go_sem ↓ high] zeroMp zeroRk
theorem info_rk : (Tryz.prog.info? 145).map (fun i => (i.zero, i.size, i.bytes)) = some (some (.agg (vec 6 (rkE zRk))), 6, 48) := by kernel_rfl
set_option maxRecDepth 100000 in
theorem build_rk (x : Rk) (w : World) : (Instr.buildSlice 151 1 #[(0, .agg (vec 6 (rkE x)))]).run Tryz.prog w = .ok (.slice (some ⟨w.heap.size, 0, none⟩) 1 1) (w.alloc (.cells (vec 6 (rkE x)) 145)) := by
 obtain ⟨i0, hi, hz0, hz1, hz2⟩ := info_parts info_rk
 refine run_buildSlice (P := Tryz.prog) w 151 145 1 _ _ i0 (.agg (vec 6 (rkE zRk))) Tryz.underlying151 hi hz0 (by rw [hz1]; decide) (by rw [hz1]; decide) ?_
 rw [hz1]
 kernel_rfl
structure PutF (Bl : Nat) (v : Value) (w w' : World) : Prop where
 os : w'.os = w.os
 tape : w'.tape = w.tape
 output : w'.output = w.output
 size : w.heap.size ≤ w'.heap.size
 block : ∀ k, k < w.heap.size → k ≠ Bl → some k ≠ v.ownBlock → w'.heap[k]? = w.heap[k]?
theorem PutF.of_below {Bl : Nat} {v : Value} {w w' : World} (h : Below w.heap.size w w') : PutF Bl v w w' := ⟨h.os, h.tape, h.output, h.size, fun k hk _ _ => h.block k hk⟩
theorem PutF.below {Bl base : Nat} {v : Value} {l : List Rk} {w w' : World} (h : PutF Bl v w w') (ho : OwnR w base v l) {n : Nat} (h1 : n ≤ Bl) (h2 : n ≤ base) (h3 : n ≤ w.heap.size) : Below n w w' :=
 ⟨h.os, h.tape, h.output, h.size, fun k hk => h.block k (by omega) (by omega) fun e => by have := (ho.bnd e.symm).1; omega⟩
theorem PutF.kn {Bl base n0 B : Nat} {v u : Value} {l : List Rk} {w w' : World} (h : PutF Bl v w w') (ho : OwnR w base v l) (hb : Blk w Bl 151 #[u]) (h1 : n0 ≤ Bl) (h2 : n0 ≤ base) (h3 : n0 ≤ w.heap.size) : KN n0 B w w' := by
 have hown : ∀ k, some k = v.ownBlock → ∃ cs fr, w.heap[k]? = some (.cells cs 145 fr) := fun k hk => by
   rcases ho.2 with ⟨rfl, _⟩ | ⟨g, cap, cur, rfl, _, hg, _⟩
   · simp [Value.ownBlock] at hk
   · simp [Value.ownBlock] at hk
     subst hk
     exact ⟨_, _, hg⟩
 refine ⟨h.size, (h.below ho h1 h2 h3).block, fun k cs t fr hk ht => ?_, fun k o _ hk hc => ?_⟩
 · refine (h.block k (Array.getElem?_eq_some_iff.1 hk).1 (fun e => ?_) fun e => ?_).trans hk
   · subst e
     rw [show w.heap[k]? = _ from hb] at hk
     injection hk with hk
     injection hk with _ hk _
     exact ht (by rw [← hk]; unfold loudT; decide)
   · obtain ⟨c2, f2, hc⟩ := hown k e
     rw [hc] at hk
     injection hk with hk
     injection hk with _ hk _
     exact ht (by rw [← hk]; unfold loudT; decide)
 · refine (h.block k (Array.getElem?_eq_some_iff.1 hk).1 (fun e => ?_) fun e => ?_).trans hk
   · subst e
     rw [show w.heap[k]? = _ from hb] at hk
     cases hk
     cases hc
   · obtain ⟨c2, f2, hcc⟩ := hown k e
     rw [hcc] at hk
     cases hk
     cases hc
set_option maxHeartbeats 4000000 in
set_option maxRecDepth 100000 in
theorem put_any (x : Rk) (hx : MpB x.m) (Bl base : Nat) (v : Value) (l : List Rk) (w : World) (hbl : Blk w Bl 151 #[v]) (hown : OwnR w base v l) (hbw : base ≤ w.heap.size) (hlen : l.length ≤ 100000) (hne : Bl < base) :
   Calls Tryz.prog 134 #[.agg (vec 6 (rkE x)), .pointer (some ⟨Bl, 0, none⟩)] w fun e w' => e = .returned (.bool (gdS x.m)) ∧ PutF Bl v w w' ∧ ∃ v', Blk w' Bl 151 #[v'] ∧ OwnR w' base v' (if gdS x.m = true then l ++ [x] else l) := by
 obtain ⟨A, c, rfl, hlc, -, hbk⟩ := hown.form
 obtain ⟨g, hg⟩ : ∃ g, g = w.heap.size := ⟨_, rfl⟩
 obtain ⟨V, hV⟩ : ∃ V, V = w.alloc (.cells (vec 6 (rkE x)) 145) := ⟨_, rfl⟩
 have k1 : Arr V g 145 6 (rkE x) := by rw [hV, hg]; exact Arr.new w _ _ _
 have hB : Below w.heap.size w V := by rw [hV]; exact (Below.refl _ _).alloc (Nat.le_refl _) _
 have HV := Lib.hid hV
 have HG := Lib.hid hg
 have HB := Lib.hid hB
 have HK := Lib.hid k1
 have HBL := Lib.hid hbl
 have HO := Lib.hid hown
 have HM : Hid (∀ Y, Below V.heap.size V Y → ∀ i, i < 5 → Y.cell? ((⟨g, 0, none⟩ : Addr).add i) = some (mpE x.m i)) := Lib.hid fun Y hY i hi => by
   rw [add_atM, Nat.zero_add, (k1.under hY).cell (by omega)]
   rcases (by omega : i = 0 ∨ i = 1 ∨ i = 2 ∨ i = 3 ∨ i = 4) with rfl | rfl | rfl | rfl | rfl <;> rfl
 have HSE := Lib.hid (fun W => seen_any x.m hx W)
 have HPH := Lib.hid (fun W => physical_any x.m hx W)
 have HGI := Lib.hid (fun W => goodE (ipaS x.m) (fit_ipa hx) W)
 have HGP := Lib.hid (fun W => goodE (paS x.m) (fit_pa hx) W)
 have HGD : Hid (gdS x.m = (good (ipaS x.m) && good (paS x.m))) := Lib.hid rfl
 obtain ⟨si, hsi⟩ : ∃ s, s = ipaS x.m := ⟨_, rfl⟩
 obtain ⟨sp, hsp⟩ : ∃ s, s = paS x.m := ⟨_, rfl⟩
 rw [← hsi] at HSE HGI HGD
 rw [← hsp] at HPH HGP HGD
 obtain ⟨gi, hgi⟩ : ∃ b, b = good si := ⟨_, rfl⟩
 obtain ⟨gp, hgp⟩ : ∃ b, b = good sp := ⟨_, rfl⟩
 rw [← hgi] at HGI HGD
 rw [← hgp] at HGP HGD
 obtain ⟨r, hr⟩ : ∃ r, r = gdS x.m := ⟨_, rfl⟩
 rw [← hr] at HGD ⊢
 unfold EqV at HGI HGP
 clear hV hg k1 hB hbl hown hx hsi hsp hgi hgp hr
 have m1 := HM.out V (Below.refl _ _)
 cases gi
 · obtain rfl : r = false := HGD.out
   go_enter Tryz.func134, Tryz.ntmps134
   go_upto_region 1 with fail
   rw [← HV.out, ← HG.out]
   clear HV HG
   go_wp2_with (first
     | ((with_reducible show wpList _ _ _ (Oper.mk (some 5) (.load 87 _) _ _ _ _ :: _) _ _); refine wl_load_q rfl 87 _ rfl ⟨g, 0, none⟩ rfl _ (run_load_q m1 Tryz.underlying87 rfl infoMp) ?_)
     | (go_at_call 135; refine (HSE.out _).mono ?_; rintro e w1 ⟨rfl, hd⟩; have HD1 := Lib.hid hd; clear hd)
     | (go_at_call 106; refine (HGI.out _).mono ?_; rintro e w2 ⟨rfl, hd⟩; have HD2 := Lib.hid (HD1.out.trans (hd.mono HD1.out.size)); clear hd HGI))
   go_ret
   have hb := HB.out.trans (HD2.out.mono HB.out.size)
   exact ⟨rfl, PutF.of_below hb, _, HBL.out.under hb, HO.out.on hb (Nat.le_refl _)⟩
 · cases gp
   · obtain rfl : r = false := HGD.out
     go_enter Tryz.func134, Tryz.ntmps134
     go_upto_region 1 with fail
     rw [← HV.out, ← HG.out]
     clear HV HG
     go_wp2_with (first
      | ((with_reducible show wpList _ _ _ (Oper.mk (some 5) (.load 87 _) _ _ _ _ :: _) _ _); refine wl_load_q rfl 87 _ rfl ⟨g, 0, none⟩ rfl _ (run_load_q m1 Tryz.underlying87 rfl infoMp) ?_)
      | ((with_reducible show wpList _ _ _ (Oper.mk (some 11) (.load 87 _) _ _ _ _ :: _) _ _); refine wl_execG (by kernel_rfl) (exec_load_q 87 _ rfl ⟨g, 0, none⟩ rfl _ (run_load_q (HM.out _ HD2.out) Tryz.underlying87 rfl infoMp)) ?_)
      | (go_at_call 135; refine (HSE.out _).mono ?_; rintro e w1 ⟨rfl, hd⟩; have HD1 := Lib.hid hd; clear hd)
      | (go_at_call 94; refine (HPH.out _).mono ?_; rintro e w3 ⟨rfl, hd⟩; have HD3 := Lib.hid (HD2.out.trans (hd.mono HD2.out.size)); clear hd)
      | (go_at_call 106; refine (HGI.out _).mono ?_; rintro e w2 ⟨rfl, hd⟩; have HD2 := Lib.hid (HD1.out.trans (hd.mono HD1.out.size)); clear hd HGI)
      | (go_at_call 106; refine (HGP.out _).mono ?_; rintro e w4 ⟨rfl, hd⟩; have HD4 := Lib.hid (HD3.out.trans (hd.mono HD3.out.size)); clear hd))
     go_ret
     have hb := HB.out.trans (HD4.out.mono HB.out.size)
     exact ⟨rfl, PutF.of_below hb, _, HBL.out.under hb, HO.out.on hb (Nat.le_refl _)⟩
   · obtain rfl : r = true := HGD.out
     go_enter Tryz.func134, Tryz.ntmps134
     go_upto_region 1 with fail
     rw [← HV.out, ← HG.out]
     clear HV HG
     go_upto_region 3 with (first
      | ((with_reducible show wpList _ _ _ (Oper.mk (some 5) (.load 87 _) _ _ _ _ :: _) _ _); refine wl_load_q rfl 87 _ rfl ⟨g, 0, none⟩ rfl _ (run_load_q m1 Tryz.underlying87 rfl infoMp) ?_)
      | ((with_reducible show wpList _ _ _ (Oper.mk (some 11) (.load 87 _) _ _ _ _ :: _) _ _); refine wl_execG (by kernel_rfl) (exec_load_q 87 _ rfl ⟨g, 0, none⟩ rfl _ (run_load_q (HM.out _ HD2.out) Tryz.underlying87 rfl infoMp)) ?_)
      | (go_at_call 135; refine (HSE.out _).mono ?_; rintro e w1 ⟨rfl, hd⟩; have HD1 := Lib.hid hd; clear hd)
      | (go_at_call 94; refine (HPH.out _).mono ?_; rintro e w3 ⟨rfl, hd⟩; have HD3 := Lib.hid (HD2.out.trans (hd.mono HD2.out.size)); clear hd)
      | (go_at_call 106; refine (HGI.out _).mono ?_; rintro e w2 ⟨rfl, hd⟩; have HD2 := Lib.hid (HD1.out.trans (hd.mono HD1.out.size)); clear hd HGI)
      | (go_at_call 106; refine (HGP.out _).mono ?_; rintro e w4 ⟨rfl, hd⟩; have HD4 := Lib.hid (HD3.out.trans (hd.mono HD3.out.size)); clear hd))
     have hb := HB.out.trans (HD4.out.mono HB.out.size)
     have ho := HO.out.on hb (Nat.le_refl _)
     have hbl := HBL.out.under hb
     have hxx := HK.out.under HD4.out
     obtain ⟨B4, e4, w5, hrun, ho4, hb4, hs4, hk4, hn4⟩ := app_E1 (P := Tryz.prog) (enc := rkE) Tryz.underlying151 info_rk (vec_size _ _) (by decide) x (fun i hi => rkE_one x 6 i hi) ho (Nat.le_trans hbw hb.size) (by omega) (by decide) 151
     have hbs := build_rk x w4
     have c0 := hbl.cellAt 0 rfl
     have hbl5 : Blk w5 Bl 151 #[.slice A l.length c] := (hk4 Bl hbl.lt (fun e => by have := (hbk Bl e.symm).1; omega)).trans hbl
     have q0 := hbl5.cellAt 0 rfl
     have q1 : w5.frozen? ⟨Bl, 0, none⟩ = false := by unfold Blk at hbl5; simp [World.frozen?, hbl5]
     have HEND : Hid (PutF Bl (.slice A l.length c) w (w5.setCell ⟨Bl, 0, none⟩ (.slice B4 (l.length + 1) e4)) ∧ Blk (w5.setCell ⟨Bl, 0, none⟩ (.slice B4 (l.length + 1) e4)) Bl 151 #[.slice B4 (l.length + 1) e4] ∧ OwnR (w5.setCell ⟨Bl, 0, none⟩ (.slice B4 (l.length + 1) e4)) base (.slice B4 (l.length + 1) e4) (l ++ [x])) := Lib.hid (by
      refine ⟨⟨hb4.os.trans hb.os, hb4.tape.trans hb.tape, hb4.output.trans hb.output, Nat.le_trans hb.size (by simpa using hs4), fun k hk h1 h2 => ?_⟩, ?_, ?_⟩
      · rw [Below.heap_setCell w5 ⟨Bl, 0, none⟩ _ k (by first | exact h1 | exact fun e => h1 e.symm), hk4 k (Nat.lt_of_lt_of_le hk hb.size) h2, hb.block k hk]
      · unfold Blk at hbl5 ⊢
        simp [World.setCell, Array.getElem?_modify, hbl5]
      · refine ho4.grown (o := some Bl) (fun k _ h2 => Below.heap_setCell w5 ⟨Bl, 0, none⟩ _ k fun e => h2 (by simp only at e; rw [e])) ?_
        rcases hn4 with h | h
        · rw [h]
          refine .inr fun e => ?_
          have := (hbk Bl e).1
          omega
        · rw [h]
          refine .inr fun e => ?_
          have := Option.some.inj e
          have := hb.size
          omega)
     have HXX := Lib.hid hxx
     clear hb ho hbl hxx ho4 hb4 hs4 hk4 hn4 hbl5
     go_wp2_with (first
      | ((with_reducible show wpList _ _ _ (Oper.mk _ (.load 145 _) _ _ _ _ :: _) _ _); refine wl_load rfl 145 _ rfl g rfl _ (run_load_arr HXX.out Tryz.underlying145 rfl infoRk) ?_)
      | ((with_reducible show wpList _ _ _ (Oper.mk _ (.buildSlice _ _ _) _ _ _ _ :: _) _ _); refine wl_bs1 rfl _ rfl (.agg (vec 6 (rkE x))) rfl hbs ?_))
     go_ret
     exact ⟨rfl, HEND.out.1, _, HEND.out.2.1, HEND.out.2.2⟩
end Go.Proofs.YtkaipknkjocfiaaGreat
namespace Go.Proofs.YtkaipknkjocfiaaGreat
open Go.RowKit Go.Maps
attribute [local go_sem ↓ high] builtin_appS
attribute [local go_sem ↓ high] zeroSp
def FirstC (l : List Sp) (w : World) (e : Ending) (w' : World) : Prop := ∃ i j : Nat, e = .returned (.tuple #[.int .i64 i, .int .i64 j, .bool (clashB l)]) ∧ Below w.heap.size w w'
def CodeFirst : Prop := ∀ (A : Option Addr) (cap : Nat) (l : List Sp) (w : World), l.length ≤ 100000 → l.length ≤ cap → cap ≤ maxLen → (∀ x ∈ l, fit x) → RowE 2 spE w w.heap.size A l → Calls Tryz.prog 92 #[.slice A l.length cap] w (FirstC l w)
theorem row_news {α : Type} {n : Nat} {enc : α → Nat → Value} {w : World} {B : Nat} {a : Addr} {l : List α} (hn : 0 < n) (h : RowE n enc w B (some a) l) : ∀ j u, (cellsE n enc l)[j]? = some u → w.cell? (a.add j) = some u := by
 intro j u hu
 have hj : j < l.length * n := by have := (List.getElem?_eq_some_iff.1 hu).1; rwa [cellsE_length] at this
 have hl : l ≠ [] := fun e => by rw [e] at hj; simp at hj
 obtain ⟨a', e, _, hc⟩ := h hl
 injection e with e
 subst e
 have hq : j / n < l.length := (Nat.div_lt_iff_lt_mul hn).2 hj
 have hr : j % n < n := Nat.mod_lt _ hn
 have hd : j / n * n + j % n = j := by rw [Nat.mul_comm]; exact Nat.div_add_mod j n
 have h1 := hc (j / n) hq (j % n) hr
 have h2 := cellsE_get (enc := enc) l (j / n) hq (j % n) hr
 rw [hd] at h1 h2
 rw [h2] at hu
 injection hu with hu
 rw [← hu]; exact h1
theorem app_row {w : World} {base cm : Nat} {Am : Option Addr} {mem l : List Sp} (ho : OwnS w base (.slice Am mem.length cm) mem) (hb : base ≤ w.heap.size) {a : Addr} {B c : Nat} (hr : RowE 2 spE w B (some a) l) (hlen : mem.length + l.length ≤ 100000) :
  ∃ A' d w', (appS #[40, 40] 40 #[.slice Am mem.length cm, .slice (some a) l.length c]).run Tryz.prog w = .ok (.slice A' (mem.length + l.length) d) w' ∧ OwnS w' base (.slice A' (mem.length + l.length) d) (mem ++ l) ∧ w.grownBy w' (Value.slice Am mem.length cm).ownBlock ∧ (mem.length + l.length ≤ d ∧ d ≤ maxLen) := by
 obtain ⟨i0, hi, hz0, hz1, hz2⟩ := info_parts info_span
 obtain ⟨v', w', hrun, h2, h3, -, -⟩ := run_append_own_at (P := Tryz.prog) w base 40 40 24 i0 (.agg (vec 2 (spE (0, 0)))) 2 16 Tryz.underlying40 hi hz0 hz1 hz2 (vec_size _ _) (by decide) _ _ (cellsE 2 spE mem) ho a l.length c (cellsE 2 spE l) (cellsE_length _) (row_news (by decide) hr) (cellsE_one (fun x i hi => spE_one x 2 i hi) l) (by unfold maxLen; omega) (by omega) hb
 have ho2 : OwnS w' base v' (mem ++ l) := by
  unfold OwnS OwnE
  rw [cellsE_append, List.length_append]
  exact h2
 have hcap : ∃ A' d, v' = .slice A' (mem.length + l.length) d ∧ mem.length + l.length ≤ d ∧ d ≤ maxLen := by
  rcases h2.2 with ⟨rfl, h0⟩ | ⟨g, cap, cur, rfl, _, _, h5, h6, _⟩
  · exact ⟨none, 0, by rw [h0], by omega, by decide⟩
  · exact ⟨_, cap, rfl, h5, h6⟩
 obtain ⟨A', d, rfl, hc1, hc2⟩ := hcap
 exact ⟨A', d, w', hrun, ho2, h3, hc1, hc2⟩
theorem kE_set {w : World} {p : Nat} {t : TypeId} {b : Bd} {wh : Int} {m1 m2 m3 m4 : Nat} {mv mv' : Value} (h : Arr w p t 13 (kE b wh m1 m2 m3 m4 mv)) : Arr (w.setCell ⟨p, 12, none⟩ mv') p t 13 (kE b wh m1 m2 m3 m4 mv') := by
 refine (h.set 12 mv').congr fun i hi => ?_
 unfold upd kE
 by_cases h12 : i = 12
 · subst h12; rfl
 · rw [if_neg h12]
   by_cases h7 : i < 7
   · rw [if_pos h7, if_pos h7]
   · rcases (by omega : i = 7 ∨ i = 8 ∨ i = 9 ∨ i = 10 ∨ i = 11) with rfl | rfl | rfl | rfl | rfl <;> rfl
theorem OwnE.setFar {α : Type} {t : TypeId} {n : Nat} {enc : α → Nat → Value} {w : World} {base : Nat} {v : Value} {l : List α} (h : OwnE t n enc w base v l) {p : Addr} (hp : p.block < base) (u : Value) : OwnE t n enc (w.setCell p u) base v l := by
 refine ⟨h.1, ?_⟩
 rcases h.2 with h2 | ⟨k, cap, cur, hv, hk, hh, r⟩
 · exact Or.inl h2
 · exact Or.inr ⟨k, cap, cur, hv, hk, (Below.heap_setCell w p u k (by omega)).trans hh, r⟩
def OwnC (p : Nat) (b : Bd) (wh : Int) (m1 m2 m3 m4 base : Nat) (mem l : List Sp) (mv : Value) (w : World) (e : Ending) (w' : World) : Prop := e = .returned (.bool (!clashB (mem ++ l))) ∧ (∃ B d, Arr w' p 98 13 (kE b wh m1 m2 m3 m4 (.slice B (mem ++ l).length d)) ∧ OwnS w' base (.slice B (mem ++ l).length d) (mem ++ l)) ∧ PutF p mv w w'
theorem PutF.trans_below {Bl : Nat} {v : Value} {a b c : World} (h : PutF Bl v a b) (k : Below b.heap.size b c) : PutF Bl v a c := ⟨k.os.trans h.os, k.tape.trans h.tape, k.output.trans h.output, Nat.le_trans h.size k.size, fun g hg h1 h2 => (k.block g (Nat.lt_of_lt_of_le hg h.size)).trans (h.block g hg h1 h2)⟩
theorem PutF.below_trans {Bl : Nat} {v : Value} {a b c : World} (h : Below a.heap.size a b) (k : PutF Bl v b c) : PutF Bl v a c := ⟨k.os.trans h.os, k.tape.trans h.tape, k.output.trans h.output, Nat.le_trans h.size k.size, fun g hg h1 h2 => (k.block g (Nat.lt_of_lt_of_le hg h.size) h1 h2).trans (h.block g hg)⟩
set_option maxHeartbeats 4000000 in
set_option maxRecDepth 100000 in
theorem kown_any (HF : CodeFirst) (p : Nat) (b : Bd) (wh : Int) (m1 m2 m3 m4 base cm c : Nat) (Am A : Option Addr) (mem l : List Sp) (w : World) (h : Arr w p 98 13 (kE b wh m1 m2 m3 m4 (.slice Am mem.length cm))) (ho : OwnS w base (.slice Am mem.length cm) mem) (hpb : p < base) (hb : base ≤ w.heap.size)
  (hl0 : l ≠ []) (hrow : RowE 2 spE w w.heap.size A l) (hlen : mem.length + l.length ≤ 100000) (hfm : ∀ x ∈ mem ++ l, fit x) :
  Calls Tryz.prog 52 #[.pointer (some ⟨p, 0, none⟩), .slice A l.length c] w (OwnC p b wh m1 m2 m3 m4 base mem l (.slice Am mem.length cm) w) := by
 obtain ⟨a, rfl⟩ : ∃ a, A = some a := by obtain ⟨a, e, -⟩ := hrow hl0; exact ⟨a, e⟩
 obtain ⟨A', d, w1, hrun, ho1, hg, hd1, hd2⟩ := app_row ho hb (c := c) hrow hlen
 obtain ⟨mv, hmv⟩ : ∃ mv, mv = Value.slice Am mem.length cm := ⟨_, rfl⟩
 obtain ⟨N, hN⟩ : ∃ N, N = mem.length + l.length := ⟨_, rfl⟩
 obtain ⟨n0, hn0⟩ : ∃ N, N = mem.length := ⟨_, rfl⟩
 obtain ⟨n1, hn1⟩ : ∃ N, N = l.length := ⟨_, rfl⟩
 obtain ⟨W2, hW2⟩ : ∃ W, W = w1.setCell ⟨p, 12, none⟩ (.slice A' N d) := ⟨_, rfl⟩
 have hnp : some p ≠ (Value.slice Am mem.length cm).ownBlock := fun e => by
  obtain ⟨_, _, _, _, _, hq⟩ := ho.form
  have := (hq p e.symm).1
  omega
 have h1 : Arr w1 p 98 13 (kE b wh m1 m2 m3 m4 (.slice Am mem.length cm)) := h.grown hg hnp
 have h2 : Arr W2 p 98 13 (kE b wh m1 m2 m3 m4 (.slice A' N d)) := by rw [hW2]; exact kE_set h1
 have ho2 : OwnS W2 base (.slice A' N d) (mem ++ l) := by rw [hW2, hN]; exact ho1.setFar (p := ⟨p, 12, none⟩) hpb _
 have hput : PutF p mv w W2 := by
  rw [hW2, hmv]
  refine ⟨hg.os, hg.tape, hg.output, by have := hg.size; simpa using this, fun k hk h1 h2 => ?_⟩
  exact (Below.heap_setCell w1 ⟨p, 12, none⟩ _ k h1).trans (hg.block k hk h2)
 have hrow2 : RowE 2 spE W2 W2.heap.size (A') (mem ++ l) := by
  obtain ⟨B, c2, e, _, hr, _⟩ := ho2.form
  injection e with e1 e2 e3
  subst e1
  exact hr
 have HC := Lib.hid (HF A' d (mem ++ l) W2 (by rw [List.length_append]; omega) (by rw [List.length_append]; omega) hd2 hfm hrow2)
 rw [List.length_append, ← hN] at HC
 obtain ⟨z, hz⟩ : ∃ z, z = clashB (mem ++ l) := ⟨_, rfl⟩
 have HP : Hid (∀ e w', (e = .returned (.bool (!z)) ∧ Below W2.heap.size W2 w') → OwnC p b wh m1 m2 m3 m4 base mem l (.slice Am mem.length cm) w e w') := Lib.hid fun e w' ⟨he, hB⟩ =>
  ⟨by rw [he, hz], ⟨A', d, by rw [List.length_append, ← hN]; exact h2.under hB, by rw [List.length_append, ← hN]; exact ho2.on hB (Nat.le_refl _)⟩, by rw [← hmv]; exact hput.trans_below hB⟩
 unfold FirstC at HC
 rw [← hz] at HC
 have c12 : w.cell? ⟨p, 12, none⟩ = some (.slice Am n0 cm) := by rw [hn0]; exact h.cell (i := 12) (by decide)
 have f12 : w1.frozen? ⟨p, 12, none⟩ = false := h1.frozen 12
 have d12 : w1.cell? ⟨p, 12, none⟩ = some (.slice Am n0 cm) := by rw [hn0]; exact h1.cell (i := 12) (by decide)
 have e12 : W2.cell? ⟨p, 12, none⟩ = some (.slice A' N d) := h2.cell (i := 12) (by decide)
 have HW2 := Lib.hid hW2
 refine Calls.mono ?_ fun e w' hh => HP.out e w' hh
 rw [← hN, ← hn0, ← hn1] at hrun
 rw [← hn1]
 clear HP h ho hpb hb hl0 hrow hlen hfm ho1 hg hd1 hd2 hmv hN hnp h1 h2 ho2 hput hrow2 hW2 hz hn0 hn1
 go_enter Tryz.func52, Tryz.ntmps52
 go_upto_region 2 with fail
 rw [← HW2.out]
 clear HW2 c12 f12 d12 hrun
 go_wp2_with (go_at_call 92; refine HC.out.mono ?_; rintro e w3 ⟨i, j, rfl, hd⟩; have HD := Lib.hid hd; clear hd)
 go_ret
 exact ⟨rfl, HD.out⟩
def ShaC (p : Nat) (b : Bd) (wh : Int) (m1 m2 m3 m4 base : Nat) (mem : List Sp) (s : Sp) (mv : Value) (w : World) (e : Ending) (w' : World) : Prop := ∃ r, e = .returned (.bool r) ∧ r = (paged s && (oursB b s && !clashB (mem ++ [s]))) ∧ (r = true → ∃ B d, Arr w' p 98 13 (kE b wh m1 m2 m3 m4 (.slice B (mem ++ [s]).length d)) ∧ OwnS w' base (.slice B (mem ++ [s]).length d) (mem ++ [s])) ∧ PutF p mv w w' ∧ w'.cell? ⟨p, 7, none⟩ = some (.int .i64 wh)
set_option maxHeartbeats 4000000 in
set_option maxRecDepth 100000 in
theorem kshared_any (HF : CodeFirst) (p : Nat) (b : Bd) (wh : Int) (m1 m2 m3 m4 base cm : Nat) (Am : Option Addr) (mem : List Sp) (s : Sp) (hs : fit s) (hr : fit b.r) (hl : fit b.l) (w : World) (h : Arr w p 98 13 (kE b wh m1 m2 m3 m4 (.slice Am mem.length cm))) (ho : OwnS w base (.slice Am mem.length cm) mem) (hpb : p < base) (hb : base ≤ w.heap.size)
  (hlen : mem.length + 1 ≤ 100000) (hfm : ∀ x ∈ mem ++ [s], fit x) :
  Calls Tryz.prog 54 #[.pointer (some ⟨p, 0, none⟩), .agg (vec 2 (spE s))] w (ShaC p b wh m1 m2 m3 m4 base mem s (.slice Am mem.length cm) w) := by
 obtain ⟨z1, hz1⟩ : ∃ z, z = paged s := ⟨_, rfl⟩
 obtain ⟨z2, hz2⟩ : ∃ z, z = oursB b s := ⟨_, rfl⟩
 obtain ⟨z3, hz3⟩ : ∃ z, z = clashB (mem ++ [s]) := ⟨_, rfl⟩
 have HPAG : Hid (∀ A W, RowE 2 spE W W.heap.size A [s] → Calls Tryz.prog 68 #[.slice A 1 1] W (EqV z1 W)) := Lib.hid fun A W hR => by
  have := kpagesE A 1 [s] (by simp) (fun x hx => by rw [List.mem_singleton.1 hx]; exact hs) W hR
  rw [show [s].all paged = z1 by rw [hz1]; simp] at this
  exact this
 have HOURS : Hid (∀ W, KB W p b → Calls Tryz.prog 80 #[.pointer (some ⟨p, 0, none⟩), .agg (vec 2 (spE s))] W (EqV z2 W)) := Lib.hid (by rw [hz2]; exact fun W hW => kours_any p b s hs hr hl W hW)
 obtain ⟨mv, hmv⟩ : ∃ mv, mv = Value.slice Am mem.length cm := ⟨_, rfl⟩
 have HOWN : Hid (∀ A W, Below w.heap.size w W → RowE 2 spE W W.heap.size A [s] → Calls Tryz.prog 52 #[.pointer (some ⟨p, 0, none⟩), .slice A 1 1] W (OwnC p b wh m1 m2 m3 m4 base mem [s] mv W)) := Lib.hid fun A W hW hR => by
  rw [hmv]
  exact kown_any HF p b wh m1 m2 m3 m4 base cm 1 Am A mem [s] W (h.under hW) (ho.on hW (Nat.le_refl _)) hpb (Nat.le_trans hb hW.size) (by simp) hR hlen hfm
 unfold EqV at HPAG HOURS
 unfold OwnC at HOWN
 rw [← hz3] at HOWN
 obtain ⟨r3, hr3⟩ : ∃ r, r = w.heap.size := ⟨_, rfl⟩
 obtain ⟨V, hV⟩ : ∃ V, V = w.alloc (.cells (vec 2 (spE s)) 24) := ⟨_, rfl⟩
 have hbV : Below w.heap.size w V := by rw [hV]; exact Below.alloc_own w _
 have HA : Hid (∀ Y, Below V.heap.size V Y → Arr Y r3 24 2 (spE s)) := Lib.hid (by rw [hV, hr3]; exact fun Y hY => (Arr.new _ _ _ _).under hY)
 have HK : Hid (KB V p b) := Lib.hid ((KB.of h).under hbV)
 have HB := Lib.hid hbV
 have HPOST : Hid (∀ (r : Bool) w', r = (z1 && (z2 && !z3)) → (r = true → ∃ B d, Arr w' p 98 13 (kE b wh m1 m2 m3 m4 (.slice B (mem ++ [s]).length d)) ∧ OwnS w' base (.slice B (mem ++ [s]).length d) (mem ++ [s])) → PutF p mv w w' → w'.cell? ⟨p, 7, none⟩ = some (.int .i64 wh) → ShaC p b wh m1 m2 m3 m4 base mem s (.slice Am mem.length cm) w (.returned (.bool r)) w') := Lib.hid fun r w' h1 h2 h3 h4 => ⟨r, rfl, by rw [h1, hz1, hz2, hz3], h2, by rw [← hmv]; exact h3, h4⟩
 have HC7 : Hid (∀ Y, Below w.heap.size w Y → Y.cell? ⟨p, 7, none⟩ = some (.int .i64 wh)) := Lib.hid fun Y hY => (h.under hY).cell (i := 7) (by decide)
 have HV := Lib.hid hV
 have HR3 := Lib.hid hr3
 obtain ⟨Q, hQ⟩ : ∃ Q, Q = ShaC p b wh m1 m2 m3 m4 base mem s (.slice Am mem.length cm) w := ⟨_, rfl⟩
 rw [← hQ] at HPOST ⊢
 clear hz1 hz2 hz3 hs hr hl h ho hpb hb hlen hfm hmv hbV hV hr3 hQ
 go_enter Tryz.func54, Tryz.ntmps54
 go_upto_region 1 with fail
 rw [← HV.out, ← HR3.out]
 clear HV HR3
 cases z1
 case false =>
  go_wp2_with (first
   | ((with_reducible show wpList _ _ _ (Oper.mk _ (.load 24 _) _ _ _ _ :: _) _ _); refine wl_load rfl 24 _ rfl r3 rfl _ (run_load_arr (HA.out _ (Below.refl _ _)) Tryz.underlying24 rfl infoSp) ?_)
   | ((with_reducible show wpList _ _ _ (Oper.mk _ (.buildSlice _ _ _) _ _ _ _ :: _) _ _); refine wl_bs1G (by kernel_rfl) _ rfl (.agg (vec 2 (spE s))) rfl (build_span s _) ?_)
   | (go_at_call 68; refine (HPAG.out _ _ (row_new1 s _)).mono ?_; rintro e w1 ⟨rfl, hd⟩; have HD := Lib.hid ((Below.alloc_own V _).trans (hd.mono (by simp))); clear hd))
  exact HPOST.out false _ rfl (fun h => by cases h) (PutF.of_below (HB.out.trans (HD.out.mono HB.out.size))) (HC7.out _ (HB.out.trans (HD.out.mono HB.out.size)))
 case true =>
  cases z2
  case false =>
   go_wp2_with (first
    | ((with_reducible show wpList _ _ _ (Oper.mk (some 5) (.load 24 _) _ _ _ _ :: _) _ _); refine wl_load rfl 24 _ rfl r3 rfl _ (run_load_arr (HA.out _ (Below.refl _ _)) Tryz.underlying24 rfl infoSp) ?_)
    | ((with_reducible show wpList _ _ _ (Oper.mk _ (.buildSlice _ _ _) _ _ _ _ :: _) _ _); refine wl_bs1G (by kernel_rfl) _ rfl (.agg (vec 2 (spE s))) rfl (build_span s _) ?_)
    | (go_at_call 68; refine (HPAG.out _ _ (row_new1 s _)).mono ?_; rintro e w1 ⟨rfl, hd⟩; have HD := Lib.hid ((Below.alloc_own V _).trans (hd.mono (by simp))); clear hd)
    | ((with_reducible show wpList _ _ _ (Oper.mk (some 10) (.load 24 _) _ _ _ _ :: _) _ _); refine wl_execG (by kernel_rfl) (exec_load 24 _ rfl r3 rfl _ (run_load_arr (HA.out _ HD.out) Tryz.underlying24 rfl infoSp)) ?_)
    | (go_at_call 80; refine (HOURS.out _ (HK.out.under HD.out)).mono ?_; rintro e w2 ⟨rfl, hd⟩; have HD2 := Lib.hid (HD.out.trans (hd.mono HD.out.size)); clear hd))
   exact HPOST.out false _ rfl (fun h => by cases h) (PutF.of_below (HB.out.trans (HD2.out.mono HB.out.size))) (HC7.out _ (HB.out.trans (HD2.out.mono HB.out.size)))
  case true =>
   go_wp2_with (first
    | ((with_reducible show wpList _ _ _ (Oper.mk (some 5) (.load 24 _) _ _ _ _ :: _) _ _); refine wl_load rfl 24 _ rfl r3 rfl _ (run_load_arr (HA.out _ (Below.refl _ _)) Tryz.underlying24 rfl infoSp) ?_)
    | ((with_reducible show wpList _ _ _ (Oper.mk _ (.buildSlice _ _ _) _ _ _ _ :: _) _ _); refine wl_bs1G (by kernel_rfl) _ rfl (.agg (vec 2 (spE s))) rfl (build_span s _) ?_)
    | (go_at_call 68; refine (HPAG.out _ _ (row_new1 s _)).mono ?_; rintro e w1 ⟨rfl, hd⟩; have HD := Lib.hid ((Below.alloc_own V _).trans (hd.mono (by simp))); clear hd)
    | ((with_reducible show wpList _ _ _ (Oper.mk (some 10) (.load 24 _) _ _ _ _ :: _) _ _); refine wl_execG (by kernel_rfl) (exec_load 24 _ rfl r3 rfl _ (run_load_arr (HA.out _ HD.out) Tryz.underlying24 rfl infoSp)) ?_)
    | (go_at_call 80; refine (HOURS.out _ (HK.out.under HD.out)).mono ?_; rintro e w2 ⟨rfl, hd⟩; have HD2 := Lib.hid (HD.out.trans (hd.mono HD.out.size)); clear hd)
    | ((with_reducible show wpList _ _ _ (Oper.mk (some 15) (.load 24 _) _ _ _ _ :: _) _ _); refine wl_execG (by kernel_rfl) (exec_load 24 _ rfl r3 rfl _ (run_load_arr (HA.out _ HD2.out) Tryz.underlying24 rfl infoSp)) ?_)
    | (go_at_call 52; refine (HOWN.out _ _ ((HB.out.trans (HD2.out.mono HB.out.size)).trans ((Below.alloc_own w2 _).mono (HB.out.trans (HD2.out.mono HB.out.size)).size)) (row_new1 s _)).mono ?_; rintro e w3 ⟨rfl, hx, hp⟩; have HX := Lib.hid (And.intro hx (PutF.below_trans ((HB.out.trans (HD2.out.mono HB.out.size)).trans ((Below.alloc_own w2 _).mono (HB.out.trans (HD2.out.mono HB.out.size)).size)) hp)); clear hx hp))
   exact HPOST.out _ _ (by simp) (fun _ => HX.out.1) HX.out.2 (by obtain ⟨B9, d9, h9, -⟩ := HX.out.1; exact h9.cell (i := 7) (by decide))
end Go.Proofs.YtkaipknkjocfiaaGreat
