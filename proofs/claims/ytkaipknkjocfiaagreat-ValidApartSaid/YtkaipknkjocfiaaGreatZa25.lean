import Derived.Sort.CutIn
import Derived.Test.YtkaipknkjocfiaaGreatZa24
namespace Go.Proofs.YtkaipknkjocfiaaGreat
open Go.RowKit Go.Shelf
attribute [local go_sem] Oper.semAt_some
attribute [local go_sem ↓ high] zeroCf zeroWi zeroDe zeroMp zeroRk
abbrev RB := { x : Rk // MpB x.m }
def encR (x : RB) : Array Value := #[.agg (vec 6 (rkE x.1))]
def rkW (y : Wi) : Rk := ⟨wiM y, 0⟩
def rkD (y : De) : Rk := ⟨deM y, 1⟩
def rkM (m : Mp) : Rk := ⟨m, 2⟩
def partsR (t : Gs) (chs : List Ch) (g : Int) : List Rk := t.wins.map rkW ++ (t.devs.map rkD ++ (chs.flatMap (chM g)).map rkM)
def partsG (x : Cf) (g : Int) : List Rk := match guestAt x g with
 | none => []
 | some t => partsR t x.chs g
def thereB (N : Nat) (g : Int) : Bool := decide (0 ≤ g) && decide (g < (N : Int))
theorem parts_m (t : Gs) (chs : List Ch) (g : Int) : (partsR t chs g).map Rk.m = partsP t chs g := by
 unfold partsR partsP
 simp only [List.map_append, List.map_map]
 congr 1
 congr 1
 exact (List.map_congr_left fun _ _ => rfl).trans (List.map_id _)
theorem there_any (ver : Int) (A : Option Addr) (N d : Nat) (c : Value) (g : Int) (w : World) : Calls Tryz.prog 97 #[.agg (vec 3 (cfE ver (.slice A N d) c)), .int .i64 g] w (EqV (thereB N g) w) := by
 have HT : Hid (thereB N g = (decide (0 ≤ g) && decide (g < (N : Int)))) := Lib.hid rfl
 generalize thereB N g = r at HT ⊢
 obtain ⟨q0, hq0⟩ : ∃ q, q = w.heap.size := ⟨_, rfl⟩
 obtain ⟨V, hV⟩ : ∃ V, V = w.alloc (.cells (vec 3 (cfE ver (.slice A N d) c)) 31) := ⟨_, rfl⟩
 have k1 : Arr V q0 31 3 (cfE ver (.slice A N d) c) := by rw [hV, hq0]; exact Arr.new w _ _ _
 have hB : Below w.heap.size w V := by rw [hV]; exact (Below.refl _ _).alloc (Nat.le_refl _) _
 have x1 : V.cell? ⟨q0, 1, none⟩ = some (.slice A N d) := k1.cell (i := 1) (by decide)
 have HW := Lib.hid hV
 have HQ := Lib.hid hq0
 have HB := Lib.hid hB
 clear hV hq0 k1 hB
 unfold EqV
 by_cases h0 : (0 : Int) ≤ g
 · have z0 : decide ((0 : Int) ≤ g) = true := decide_eq_true h0
   by_cases h1 : g < (N : Int)
   · have z1 : decide (g < (N : Int)) = true := decide_eq_true h1
     have HR := Lib.hid (HT.out.trans (by rw [z0, z1]; first | done | rfl))
     go_enter Tryz.func97, Tryz.ntmps97
     go_upto_region 1 with fail
     rw [← HW.out, ← HQ.out]
     go_wp2_with fail
     go_ret
     exact ⟨by rw [HR.out]; rfl, HB.out⟩
   · have z1 : decide (g < (N : Int)) = false := decide_eq_false h1
     have HR := Lib.hid (HT.out.trans (by rw [z0, z1]; first | done | rfl))
     go_enter Tryz.func97, Tryz.ntmps97
     go_upto_region 1 with fail
     rw [← HW.out, ← HQ.out]
     go_wp2_with fail
     go_ret
     exact ⟨by rw [HR.out]; rfl, HB.out⟩
 · have z0 : decide ((0 : Int) ≤ g) = false := decide_eq_false h0
   have HR := Lib.hid (HT.out.trans (by rw [z0]; first | done | rfl))
   go_enter Tryz.func97, Tryz.ntmps97
   go_upto_region 1 with fail
   rw [← HW.out, ← HQ.out]
   go_wp2_with fail
   go_ret
   exact ⟨by rw [HR.out]; rfl, HB.out⟩
theorem thereB_no {N : Nat} {g : Int} (h : g < 0 ∨ (N : Int) ≤ g) : thereB N g = false := by
 unfold thereB
 rcases h with h | h
 · rw [decide_eq_false (by omega)]; rfl
 · rw [show decide (g < (N : Int)) = false from decide_eq_false (by omega), Bool.and_false]
theorem thereB_yes {N i : Nat} (h : i < N) : thereB N (i : Int) = true := by
 unfold thereB
 rw [decide_eq_true (by omega), decide_eq_true (by omega)]; rfl
theorem parts_any (v : Value) (f : Nat → Value) (hv : v = .agg (vec 3 f)) (g : Int) (w : World) : Calls Tryz.prog 93 #[v, .int .i64 g] w fun e w' => e = .returned (.func (.func 130) #[] #[.pointer (some ⟨w.heap.size, 0, none⟩), .pointer (some ⟨w.heap.size + 1, 0, none⟩)]) ∧ w' = (w.alloc (.cells (vec 3 f) 31)).alloc (.cells #[.int .i64 g] 3) := by
 subst hv
 go_enter Tryz.func93, Tryz.ntmps93
 go_wp2
 go_ret
 exact ⟨rfl, rfl⟩
theorem wi_B {y : Wi} (h : WiB y) : MpB (rkW y).m := ⟨u64BZ h.1, u64BZ h.2.1, u64BZ h.2.2.1⟩
theorem de_B {y : De} (h : DeB y) : MpB (rkD y).m := ⟨u64BZ h.1, u64BZ h.2.1, u64BZ h.2.2⟩
def toE (m : MB) : RB := ⟨rkM m.1, m.2⟩
theorem toE_map (l : List MB) : (l.map toE).map Subtype.val = (l.map Subtype.val).map rkM := by rw [List.map_map, List.map_map]; rfl
theorem own_kn {β : Type} {n0 B B' : Nat} {w : World} (hn : n0 ≤ w.heap.size) (h : w.heap.size ≤ B') : OwnFrom B' (fun (_ : β) W => KN n0 B w W) := fun s X Y row hs hg hr =>
 ⟨Nat.le_trans hs.size hg.size, fun k hk => (hg.block k (by have := hs.size; omega) fun e => by have := (hr k e.symm).1; omega).trans (hs.low k hk),
  fun k cs t fr hk ht => (hg.block k (Array.getElem?_eq_some_iff.1 (hs.cells k cs t fr hk ht)).1 fun e => by
   have h1 := (hr k e.symm).1
   have h2 := (Array.getElem?_eq_some_iff.1 hk).1
   omega).trans (hs.cells k cs t fr hk ht), fun k o hB hk ho => (hg.block k (Array.getElem?_eq_some_iff.1 (hs.others k o hB hk ho)).1 fun e => by
   have h1 := (hr k e.symm).1
   have h2 := (Array.getElem?_eq_some_iff.1 hk).1
   omega).trans (hs.others k o hB hk ho)⟩
theorem own_belowG {β : Type} {B : Nat} {J : β → World → Prop} {X Y : World} {s : β} (hA : OwnFrom B J) (h : J s X) (hb : Below X.heap.size X Y) : J s Y := hA _ _ _ none h (grown_of_below hb) (fun r e => by cases e)
theorem pre_len {L : List Rk} {pre : List RB} {x : RB} {N : Nat} (h : (pre ++ [x]).map Subtype.val <+: L) (hN : L.length ≤ N) : pre.length < N := by
 rw [List.map_append] at h
 have := prefix_len (l := pre.map Subtype.val) (x := x.1) h
 rw [List.length_map] at this
 omega
theorem pre_w {t : Gs} {chs : List Ch} {g : Int} (k : Nat) : (t.wins.take k).map rkW <+: partsR t chs g := by
 unfold partsR
 exact ((List.take_prefix k t.wins).map rkW).trans (List.prefix_append _ _)
theorem pre_d {t : Gs} {chs : List Ch} {g : Int} (k : Nat) : t.wins.map rkW ++ (t.devs.take k).map rkD <+: partsR t chs g := by
 unfold partsR
 exact (List.prefix_append_right_inj _).2 (((List.take_prefix k t.devs).map rkD).trans (List.prefix_append _ _))
theorem pre_e {t : Gs} {chs : List Ch} {g : Int} {l : List Mp} (h : l <+: chs.flatMap (chM g)) : (t.wins.map rkW ++ t.devs.map rkD) ++ l.map rkM <+: partsR t chs g := by
 unfold partsR
 rw [List.append_assoc]
 exact (List.prefix_append_right_inj _).2 ((List.prefix_append_right_inj _).2 (h.map rkM))
set_option maxRecDepth 100000 in
set_option maxHeartbeats 8000000 in
theorem parts_seq (n : Nat) (hn : 1 ≤ n) (x : Cf) (a c : Value) (g : Int) (w0 w : World) (hx : CfR w0 w0.heap.size x a c) (hb : CfB x) (hf : fewC x = true) (hbw : Below w0.heap.size w0 w) (B1 B2 N : Nat)
   (h1 : Arr w B1 31 3 (cfE x.ver a c)) (h2 : Blk w B2 3 #[.int .i64 g]) (hN : (partsG x g).length ≤ N) :
   SeqOwn n Tryz.prog 130 #[.pointer (some ⟨B1, 0, none⟩), .pointer (some ⟨B2, 0, none⟩)] encR (KN w0.heap.size) (fun ys => ys.map Subtype.val = partsG x g) (fun pre => pre.map Subtype.val <+: partsG x g) N w := by
 intro lp J Jx W hW hA hAx hY h0
 obtain ⟨n0, hn0⟩ : ∃ n, n = w0.heap.size := ⟨_, rfl⟩
 rw [← hn0] at hY
 have hnW : n0 ≤ W.heap.size := by rw [hn0]; exact Nat.le_trans hbw.size hW.size
 obtain ⟨hfg, hfc, hfa⟩ := few_gs hf
 obtain ⟨A, d, A2, d2, rfl, rfl, hch, hgu⟩ := cf_guest hx
 obtain ⟨By, hBy⟩ : ∃ b, b = W.heap.size := ⟨_, rfl⟩
 obtain ⟨V, hV⟩ : ∃ V, V = W.alloc (.cells #[.func (.yield lp) #[] #[]] 183) := ⟨_, rfl⟩
 have bV : Below W.heap.size W V := by rw [hV]; exact (Below.refl _ _).alloc (Nat.le_refl _) _
 have kV : KN n0 W.heap.size W V := KN.of_below bV hnW
 have yV : Blk V By 183 #[.func (.yield lp) #[] #[]] := by rw [hV]; exact Blk.new _ _ _ hBy
 have aV : Arr V B1 31 3 (cfE x.ver (.slice A x.gs.length d) (.slice A2 x.chs.length d2)) := (h1.under hW).under bV
 have gV : Blk V B2 3 #[.int .i64 g] := (h2.under hW).under bV
 have lV : ∀ k, k < n0 → V.heap[k]? = w0.heap[k]? := fun k hk => by
   rw [kV.low k hk, hW.block k (by have := hbw.size; omega), hbw.block k (by omega)]
 have jV : J [] V := by rw [hV]; exact hA.alloc _ h0
 have hgl : x.gs.length ≤ 1000000 := by omega
 have HV := Lib.hid hV
 have HBY := Lib.hid hBy
 have HA := Lib.hid hA
 have HAX := Lib.hid hAx
 have HY := Lib.hid hY
 have HJ := Lib.hid jV
 have HAV := Lib.hid (And.intro aV (And.intro gV yV))
 have HLV := Lib.hid lV
 have HNN := Lib.hid hN
 have HKV := Lib.hid kV
 have b2 := gV.cellAt 0 rfl
 obtain ⟨NG, hNG⟩ : ∃ m, m = x.gs.length := ⟨_, rfl⟩
 obtain ⟨NC, hNC⟩ : ∃ m, m = x.chs.length := ⟨_, rfl⟩
 rw [← hNG, ← hNC] at HAV
 have HTH := Lib.hid (fun X => there_any x.ver A NG d (.slice A2 NC d2) g X)
 by_cases hno : g < 0 ∨ (x.gs.length : Int) ≤ g
 · have hpg : partsG x g = [] := by unfold partsG; rw [guestAt_no hno]
   rw [← hNG] at hno
   rw [thereB_no hno] at HTH
   have HPG := Lib.hid hpg
   clear hx hb hf hbw h1 h2 hN hW hA hAx hY h0 hfg hfc hfa hch hgu hBy hV bV kV yV aV gV lV jV hgl hNG hNC hno hpg
   unfold EqV at HTH
   refine callsIn_of_wp Tryz.func130 rfl trivial ?_ rfl
   simp only [Tryz.ntmps130, List.size_toArray, List.length_cons, List.length_nil, Nat.reduceAdd, Nat.reduceSub, Array.replicate_succ, Array.replicate_zero, List.push_toArray, List.append_toArray, List.nil_append, List.cons_append]
   gi_wp2_with (first
    | ((with_reducible show wpListIn _ _ _ _ _ (Oper.mk _ (.load 31 _) _ _ _ _ :: _) _ _); rw [← HV.out, ← HBY.out]; refine wli_val wide_fn rfl (by intro c e; cases e) (exec_load 31 _ rfl B1 rfl _ (run_load_arr HAV.out.1 Tryz.underlying31 rfl infoCf)) ?_; clear HV HBY)
    | (refine ⟨trivial, ?_⟩; gi_at_call 97; refine (callsIn_wide.2 (HTH.out _)).mono ?_; rintro e X1 ⟨rfl, hd⟩; have HD := Lib.hid hd; clear hd))
   (try simp only [Exit.inBlock, Exit.then])
   refine bodyPost_ret (results_none rfl _ _ _) rfl ?_
   exact ⟨⟨_, rfl⟩, .inl ⟨[], by rw [HPG.out]; rfl, own_belowG HA.out HJ.out HD.out⟩⟩
 · obtain ⟨i, rfl⟩ := Int.eq_ofNat_of_zero_le (show 0 ≤ g by omega)
   have hi : i < x.gs.length := by omega
   have hpg : partsG x (i : Int) = partsR x.gs[i] x.chs (i : Int) := by unfold partsG; rw [guestAt_yes hi]
   obtain ⟨a0, q, A1, e1, A3, e3, rfl, hq, hcell⟩ := hgu i hi
   obtain ⟨⟨z1, z2⟩, r1, r3⟩ := hcell w0 (Below.refl _ _)
   have r2 := hch w0 (Below.refl _ _)
   have hgb := hb.gs _ (List.getElem_mem hi)
   have hfew := gFew_iff (hfa _ (List.getElem_mem hi))
   obtain ⟨tg, htg⟩ : ∃ t, t = x.gs[i] := ⟨_, rfl⟩
   rw [← htg] at hpg hgb hfew z1 z2 r1 r3
   have hthr := thereB_yes (N := NG) (i := i) (by omega)
   rw [hthr] at HTH
   unfold EqV at HTH
   obtain ⟨NW, hNW⟩ : ∃ m, m = tg.wins.length := ⟨_, rfl⟩
   obtain ⟨ND, hND⟩ : ∃ m, m = tg.devs.length := ⟨_, rfl⟩
   have hNWb : NW ≤ 20 := by rw [hNW]; exact hfew.1
   have hNDb : ND ≤ 20 := by rw [hND]; exact hfew.2.1
   have hNCb : NC ≤ 40 := by rw [hNC]; exact hfc
   rw [← hNW] at z1
   rw [← hND] at z2
   have q1 := World.block_lt_of_cell? w0 _ z1
   rw [hn0.symm] at r1 r2 r3 q1
   have HLOW : Hid (∀ Y : World, (∀ k, k < n0 → Y.heap[k]? = w0.heap[k]?) → (Y.cell? ⟨q.block, q.off + 75, none⟩ = some (.slice A1 NW e1) ∧ Y.cell? ⟨q.block, q.off + 76, none⟩ = some (.slice A3 ND e3)) ∧ RowE 4 winE Y n0 A1 tg.wins ∧ RowE 3 devE Y n0 A3 tg.devs ∧ RowE 8 chE Y n0 A2 x.chs) := Lib.hid fun Y hY =>
    have hc : ∀ p : Addr, p.block < n0 → Y.cell? p = w0.cell? p := fun p hp => by unfold World.cell?; rw [hY _ hp]
    ⟨⟨(hc ⟨q.block, q.off + 75, none⟩ q1).trans z1, (hc ⟨q.block, q.off + 76, none⟩ q1).trans z2⟩, r1.same hc, r3.same hc, r2.same hc⟩
   have HWB := Lib.hid hgb.wins
   have HDB := Lib.hid hgb.devs
   have HCB := Lib.hid hb.chs
   have HNW := Lib.hid hNW
   have HND := Lib.hid hND
   have HNC := Lib.hid hNC
   have HPG := Lib.hid hpg
   have HQ := Lib.hid hq
   have hiN : (i : Int) < (NG : Int) := by omega
   have hiN2 : i < NG := by omega
   have HSZ : Hid (W.heap.size ≤ V.heap.size) := Lib.hid kV.size
   clear hx hb hf hbw h1 h2 hN hW hA hAx hY h0 hfg hfc hfa hch hgu hBy hV bV kV yV aV gV lV jV hgl hno hpg hcell z1 z2 r1 r2 r3 q1 hgb hfew htg hthr hNW hND hNC hNG hi hq
   refine callsIn_of_wp_marks Tryz.func130 rfl trivial ?_ rfl
   simp only [Tryz.ntmps130, List.size_toArray, List.length_cons, List.length_nil, Nat.reduceAdd, Nat.reduceSub, Array.replicate_succ, Array.replicate_zero, List.push_toArray, List.append_toArray, List.nil_append, List.cons_append]
   gi_upto_region 2 with (first
    | ((with_reducible show wpListIn _ _ _ _ _ (Oper.mk _ (.load 31 _) _ _ _ _ :: _) _ _); rw [← HV.out, ← HBY.out]; refine wli_val wide_fn rfl (by intro c e; cases e) (exec_load 31 _ rfl B1 rfl _ (run_load_arr HAV.out.1 Tryz.underlying31 rfl infoCf)) ?_; clear HV HBY)
    | (refine ⟨trivial, ?_⟩; gi_at_call 97; refine (callsIn_wide.2 (HTH.out _)).mono ?_; rintro e X1 ⟨rfl, hd⟩; have HD := Lib.hid hd; clear hd))
   have KX : Hid (KN n0 W.heap.size W X1) := Lib.hid (HKV.out.trans (KN.of_below HD.out (by have := HSZ.out; omega)))
   have HJ1 : Hid (J [] X1) := Lib.hid (own_belowG HA.out HJ.out HD.out)
   have HL1 : Hid (∀ k, k < n0 → X1.heap[k]? = w0.heap[k]?) := Lib.hid fun k hk => (HD.out.block k (by have := HSZ.out; omega)).trans (HLV.out k hk)
   have HA1 : Hid (Arr X1 B1 31 3 (cfE x.ver (.slice (some a0) NG d) (.slice A2 NC d2)) ∧ Blk X1 B2 3 #[.int .i64 (i : Int)] ∧ Blk X1 By 183 #[.func (.yield lp) #[] #[]]) := Lib.hid ⟨HAV.out.1.under HD.out, HAV.out.2.1.under HD.out, HAV.out.2.2.under HD.out⟩
   have HFACT : Hid (∀ Y : World, KN n0 W.heap.size X1 Y → (Y.cell? ⟨B1, 1, none⟩ = some (.slice (some a0) NG d) ∧ Y.cell? ⟨B1, 2, none⟩ = some (.slice A2 NC d2) ∧ Y.cell? ⟨B2, 0, none⟩ = some (.int .i64 (i : Int)) ∧ Y.cell? ⟨By, 0, none⟩ = some (.func (.yield lp) #[] #[])) ∧
      (Y.cell? ⟨q.block, q.off + 75, none⟩ = some (.slice A1 NW e1) ∧ Y.cell? ⟨q.block, q.off + 76, none⟩ = some (.slice A3 ND e3)) ∧ RowE 4 winE Y n0 A1 tg.wins ∧ RowE 3 devE Y n0 A3 tg.devs ∧ RowE 8 chE Y n0 A2 x.chs) := Lib.hid fun Y hY =>
    have hl := HLOW.out Y fun k hk => (hY.low k hk).trans (HL1.out k hk)
    have ha := hY.arr HA1.out.1 (by decide)
    ⟨⟨ha.cell (i := 1) (by decide), ha.cell (i := 2) (by decide), (hY.blk HA1.out.2.1 (by decide)).cellAt 0 rfl, (hY.blk HA1.out.2.2 (by decide)).cellAt 0 rfl⟩, hl⟩
   clear HKV HJ HLV HAV HLOW HL1 HA1 HTH b2
   obtain ⟨⟨f1, f2, f3, f4⟩, ⟨f5, f6⟩, -⟩ := HFACT.out X1 (KN.refl _ _ _)
   have hq := HQ.out
   gi_wp2
   clear f1 f2 f3 f4 f5 f6
   gi_loopw [20] (fun v wr => ∃ (k : Nat) (pre : List RB), k ≤ NW ∧ v = .int .i64 k ∧ Hid (pre.map Subtype.val = (tg.wins.take k).map rkW ∧ J pre wr ∧ KN n0 W.heap.size X1 wr)) (fun v _ => NW - (intOf v).toNat)
   case atStart => exact ⟨0, [], Nat.zero_le _, rfl, Lib.hid ⟨rfl, HJ1.out, KN.refl _ _ _⟩⟩
   case round =>
    obtain ⟨k, pre, hk, rfl, hR⟩ := hrel
    obtain ⟨Z, hZ0⟩ : ∃ Z, Z = wr := ⟨_, rfl⟩
    subst hZ0
    by_cases hlt : k < NW
    · have hltc : k < tg.wins.length := by rw [← HNW.out]; exact hlt
      obtain ⟨⟨-, -, -, f4⟩, -, rw1, rw3, -⟩ := HFACT.out Z hR.out.2.2
      obtain ⟨b0, p, ea, hp, -, hcp⟩ := rw1.at hltc
      obtain ⟨y, hy0⟩ : ∃ y, y = tg.wins[k] := ⟨_, rfl⟩
      rw [← hy0] at hcp
      have HMB : Hid (MpB (rkW y).m) := Lib.hid (wi_B (HWB.out y (by rw [hy0]; exact List.getElem_mem hltc)))
      have hnx : (tg.wins.take (k + 1)).map rkW = ((tg.wins.take k).map rkW) ++ [rkW y] := by rw [List.take_succ_eq_append_getElem hltc, List.map_append, ← hy0]; rfl
      obtain ⟨r, hr⟩ : ∃ r, r = Z.heap.size := ⟨_, rfl⟩
      obtain ⟨X, hX⟩ : ∃ X, X = (Z.alloc (.cells (vec 4 (winE zWi)) 67)).setRow Z.heap.size (vec 4 (winE y)) := ⟨_, rfl⟩
      have bx : Below Z.heap.size Z X := by rw [hX]; exact below_row ((Below.refl _ _).alloc (Nat.le_refl _) _) (Nat.le_refl _) _
      have ax : Arr X r 67 4 (winE y) := by rw [hX, hr]; exact (Arr.new Z _ _ _).row _
      have HKX : Hid (KN n0 W.heap.size X1 X) := Lib.hid (hR.out.2.2.trans (KN.of_below bx (Nat.le_trans (Nat.le_trans hnW KX.out.size) hR.out.2.2.size)))
      have HJX := Lib.hid (own_belowG HA.out hR.out.2.1 bx)
      obtain ⟨⟨-, -, -, g4⟩, -⟩ := HFACT.out X HKX.out
      have HPX : Hid ((pre ++ [(⟨rkW y, HMB.out⟩ : RB)]).map Subtype.val = (tg.wins.take (k + 1)).map rkW) := Lib.hid (by rw [List.map_append, hR.out.1, hnx]; rfl)
      have HPP : Hid ((pre ++ [(⟨rkW y, HMB.out⟩ : RB)]).map Subtype.val <+: partsG x (i : Int)) := Lib.hid (by rw [HPX.out, HPG.out]; exact pre_w (k + 1))
      obtain ⟨fn, tmps, assign, body, hy, hRR⟩ := HY.out pre ⟨rkW y, HMB.out⟩ X HJX.out (pre_len HPP.out HNN.out)
      replace hy : (Instr.yield lp #[.agg (vec 6 (rkE (rkW y)))]).run Tryz.prog X = .ok (.round lp fn tmps assign body) X := hy
      have HYR := Lib.hid hRR
      have HX := Lib.hid hX
      have HRR := Lib.hid hr
      have HCP := Lib.hid hcp
      have c0 := ax.cell (i := 0) (by decide)
      have c1 := ax.cell (i := 1) (by decide)
      have c2 := ax.cell (i := 2) (by decide)
      have c3 := ax.cell (i := 3) (by decide)
      rw [show winE y 0 = .int .u64 y.ipa from rfl] at c0
      rw [show winE y 1 = .int .u64 y.pa from rfl] at c1
      rw [show winE y 2 = .int .u64 y.size from rfl] at c2
      rw [show winE y 3 = .int .i64 y.perm from rfl] at c3
      have hki : (k : Int) < (NW : Int) := by omega
      subst ea
      clear hcp hr hX bx ax hy0 hltc hR hRR hnx f4 rw1 rw3
      gi_wp2_with (first
        | ((with_reducible show wpListIn _ _ _ _ _ (Oper.mk _ (.load 67 _) _ _ _ _ :: _) _ _); refine wli_val wide_fn rfl (by intro c e; cases e) (exec_load_q 67 _ rfl p rfl _ (run_load_q HCP.out Tryz.underlying67 rfl infoWi)) ?_)
        | ((with_reducible show wpListIn _ _ _ _ _ (Oper.mk _ (.store 67 _ _) _ _ _ _ :: _) _ _); refine wli_store rfl 67 _ _ rfl _ rfl _ rfl (run_store_arr (Arr.new Z _ _ _) (winE y) infoWi (winE_one _ _)) ?_; rw [← HX.out, ← HRR.out]; clear HX HRR)
        | ((with_reducible show wpListIn _ _ _ _ _ (Oper.mk _ (.build 87 _) _ _ _ _ :: _) _ _); refine wli_val wide_fn rfl (by intro c e; cases e) (exec_build 87 _ rfl (vec 5 (mpE (rkW y).m)) (by kernel_rfl) _) ?_)
        | ((with_reducible show wpListIn _ _ _ _ _ (Oper.mk _ (.build 145 _) _ _ _ _ :: _) _ _); refine wli_val wide_fn rfl (by intro c e; cases e) (exec_build 145 _ rfl (vec 6 (rkE (rkW y))) (by kernel_rfl) _) ?_))
      refine HYR.out.mono ?_
      rintro e W3 (⟨rfl, hJ3, hk3⟩ | ⟨rfl, hJx3, -⟩)
      · have HN := Lib.hid (And.intro hJ3 (HKX.out.trans hk3))
        clear hJ3 hk3 hy
        gi_wp2
        go_roundw
        case rel => exact ⟨k + 1, _, by omega, by go_num, Lib.hid ⟨HPX.out, HN.out.1, HN.out.2⟩⟩
        case measure => simp [intOf]; omega
      · have HN := Lib.hid hJx3
        clear hJx3 hy
        gi_wp2
        (try simp only [Exit.inBlock, Exit.then])
        exact ⟨_, results_none rfl _ _ _, ⟨_, rfl⟩, .inr ⟨_, HPP.out, HN.out⟩⟩
    · obtain rfl : k = NW := by omega
      have HP0 : Hid (pre.map Subtype.val = tg.wins.map rkW ∧ J pre Z ∧ KN n0 W.heap.size X1 Z) := Lib.hid ⟨by have h := hR.out.1; rw [HNW.out, List.take_length] at h; exact h, hR.out.2⟩
      obtain ⟨⟨f1, f2, f3, f4⟩, ⟨f5, f6⟩, -⟩ := HFACT.out Z hR.out.2.2
      have hq := HQ.out
      clear hR hlt
      gi_wp2
      clear f1 f2 f3 f4 f5 f6
      gi_loopw [45] (fun v wr => ∃ (k : Nat) (pre2 : List RB), k ≤ ND ∧ v = .int .i64 k ∧ Hid (pre2.map Subtype.val = tg.wins.map rkW ++ (tg.devs.take k).map rkD ∧ J pre2 wr ∧ KN n0 W.heap.size X1 wr)) (fun v _ => ND - (intOf v).toNat)
      case atStart => exact ⟨0, pre, Nat.zero_le _, rfl, Lib.hid ⟨by rw [HP0.out.1]; exact (List.append_nil _).symm, HP0.out.2⟩⟩
      case round =>
        obtain ⟨k, pre, hk, rfl, hR⟩ := hrel
        obtain ⟨Z, hZ0⟩ : ∃ Z, Z = wr := ⟨_, rfl⟩
        subst hZ0
        by_cases hlt : k < ND
        · have hltc : k < tg.devs.length := by rw [← HND.out]; exact hlt
          obtain ⟨⟨-, -, -, f4⟩, -, rw1, rw3, -⟩ := HFACT.out Z hR.out.2.2
          obtain ⟨b0, p, ea, hp, -, hcp⟩ := rw3.at hltc
          obtain ⟨y, hy0⟩ : ∃ y, y = tg.devs[k] := ⟨_, rfl⟩
          rw [← hy0] at hcp
          have HMB : Hid (MpB (rkD y).m) := Lib.hid (de_B (HDB.out y (by rw [hy0]; exact List.getElem_mem hltc)))
          have hnx : tg.wins.map rkW ++ (tg.devs.take (k + 1)).map rkD = (tg.wins.map rkW ++ (tg.devs.take k).map rkD) ++ [rkD y] := by rw [List.take_succ_eq_append_getElem hltc, List.map_append, ← hy0]; rw [← List.append_assoc]; rfl
          obtain ⟨r, hr⟩ : ∃ r, r = Z.heap.size := ⟨_, rfl⟩
          obtain ⟨X, hX⟩ : ∃ X, X = (Z.alloc (.cells (vec 3 (devE zDe)) 83)).setRow Z.heap.size (vec 3 (devE y)) := ⟨_, rfl⟩
          have bx : Below Z.heap.size Z X := by rw [hX]; exact below_row ((Below.refl _ _).alloc (Nat.le_refl _) _) (Nat.le_refl _) _
          have ax : Arr X r 83 3 (devE y) := by rw [hX, hr]; exact (Arr.new Z _ _ _).row _
          have HKX : Hid (KN n0 W.heap.size X1 X) := Lib.hid (hR.out.2.2.trans (KN.of_below bx (Nat.le_trans (Nat.le_trans hnW KX.out.size) hR.out.2.2.size)))
          have HJX := Lib.hid (own_belowG HA.out hR.out.2.1 bx)
          obtain ⟨⟨-, -, -, g4⟩, -⟩ := HFACT.out X HKX.out
          have HPX : Hid ((pre ++ [(⟨rkD y, HMB.out⟩ : RB)]).map Subtype.val = tg.wins.map rkW ++ (tg.devs.take (k + 1)).map rkD) := Lib.hid (by rw [List.map_append, hR.out.1, hnx]; rfl)
          have HPP : Hid ((pre ++ [(⟨rkD y, HMB.out⟩ : RB)]).map Subtype.val <+: partsG x (i : Int)) := Lib.hid (by rw [HPX.out, HPG.out]; exact pre_d (k + 1))
          obtain ⟨fn, tmps, assign, body, hy, hRR⟩ := HY.out pre ⟨rkD y, HMB.out⟩ X HJX.out (pre_len HPP.out HNN.out)
          replace hy : (Instr.yield lp #[.agg (vec 6 (rkE (rkD y)))]).run Tryz.prog X = .ok (.round lp fn tmps assign body) X := hy
          have HYR := Lib.hid hRR
          have HX := Lib.hid hX
          have HRR := Lib.hid hr
          have HCP := Lib.hid hcp
          have c0 := ax.cell (i := 0) (by decide)
          have c1 := ax.cell (i := 1) (by decide)
          have c2 := ax.cell (i := 2) (by decide)
          rw [show devE y 0 = .int .u64 y.ipa from rfl] at c0
          rw [show devE y 1 = .int .u64 y.pa from rfl] at c1
          rw [show devE y 2 = .int .u64 y.size from rfl] at c2
          have hki : (k : Int) < (ND : Int) := by omega
          subst ea
          clear hcp hr hX bx ax hy0 hltc hR hRR hnx f4 rw1 rw3
          gi_wp2_with (first
            | ((with_reducible show wpListIn _ _ _ _ _ (Oper.mk _ (.load 83 _) _ _ _ _ :: _) _ _); refine wli_val wide_fn rfl (by intro c e; cases e) (exec_load_q 83 _ rfl p rfl _ (run_load_q HCP.out Tryz.underlying83 rfl infoDe)) ?_)
            | ((with_reducible show wpListIn _ _ _ _ _ (Oper.mk _ (.store 83 _ _) _ _ _ _ :: _) _ _); refine wli_store rfl 83 _ _ rfl _ rfl _ rfl (run_store_arr (Arr.new Z _ _ _) (devE y) infoDe (devE_one _ _)) ?_; rw [← HX.out, ← HRR.out]; clear HX HRR)
            | ((with_reducible show wpListIn _ _ _ _ _ (Oper.mk _ (.build 87 _) _ _ _ _ :: _) _ _); refine wli_val wide_fn rfl (by intro c e; cases e) (exec_build 87 _ rfl (vec 5 (mpE (rkD y).m)) (by kernel_rfl) _) ?_)
            | ((with_reducible show wpListIn _ _ _ _ _ (Oper.mk _ (.build 145 _) _ _ _ _ :: _) _ _); refine wli_val wide_fn rfl (by intro c e; cases e) (exec_build 145 _ rfl (vec 6 (rkE (rkD y))) (by kernel_rfl) _) ?_))
          refine HYR.out.mono ?_
          rintro e W3 (⟨rfl, hJ3, hk3⟩ | ⟨rfl, hJx3, -⟩)
          · have HN := Lib.hid (And.intro hJ3 (HKX.out.trans hk3))
            clear hJ3 hk3 hy
            gi_wp2
            go_roundw
            case rel => exact ⟨k + 1, _, by omega, by go_num, Lib.hid ⟨HPX.out, HN.out.1, HN.out.2⟩⟩
            case measure => simp [intOf]; omega
          · have HN := Lib.hid hJx3
            clear hJx3 hy
            gi_wp2
            (try simp only [Exit.inBlock, Exit.then])
            exact ⟨_, results_none rfl _ _ _, ⟨_, rfl⟩, .inr ⟨_, HPP.out, HN.out⟩⟩
        · obtain rfl : k = ND := by omega
          have hPD : pre.map Subtype.val = tg.wins.map rkW ++ tg.devs.map rkD := by have h := hR.out.1; rw [HND.out, List.take_length] at h; exact h
          obtain ⟨⟨f1, f2, f3, f4⟩, ⟨f5, f6⟩, -, -, rw2⟩ := HFACT.out Z hR.out.2.2
          have HZ : Hid (J pre Z ∧ KN n0 W.heap.size X1 Z) := Lib.hid hR.out.2
          have HPD := Lib.hid hPD
          have HR2 := Lib.hid rw2
          clear hR hlt hPD rw2
          gi_wp2_with (refine ⟨trivial, ?_⟩; gi_at_call 131; refine (callsIn_wide.2 (ends_any _ _ _ rfl)).mono ?_; rintro e Y1 ⟨rfl, hY1⟩; have HY1 := Lib.hid hY1; clear hY1)
          clear f1 f2 f3 f4 f5 f6
          have bY : Below Z.heap.size Z Y1 := by rw [HY1.out]; exact ((Below.refl _ _).alloc (Nat.le_refl _) _).alloc (by simp) _
          have h3 : Blk Y1 Z.heap.size 29 #[.slice A2 x.chs.length d2] := by rw [HY1.out, ← HNC.out]; exact (Blk.new _ _ _ rfl).alloc _
          have h4 : Blk Y1 (Z.heap.size + 1) 3 #[.int .i64 (i : Int)] := by rw [HY1.out]; exact Blk.new _ _ _ (by simp)
          have hsW : W.heap.size ≤ Z.heap.size := Nat.le_trans KX.out.size HZ.out.2.size
          have hnZ : n0 ≤ Z.heap.size := Nat.le_trans hnW hsW
          have KY : KN n0 W.heap.size X1 Y1 := HZ.out.2.trans (KN.of_below bY hnZ)
          have jY : J pre Y1 := own_belowG HA.out HZ.out.1 bY
          have hrow : RowE 8 chE Y1 n0 A2 x.chs := HR2.out.same fun p hp => bY.cell (by omega)
          have hcl : x.chs.length ≤ 1000000 := by rw [← HNC.out]; omega
          have hsY := bY.size
          have HKY := Lib.hid KY
          have hpl : pre.length = tg.wins.length + tg.devs.length := by have h := congrArg List.length HPD.out; rw [List.length_map, List.length_append, List.length_map, List.length_map] at h; exact h
          have hgl : (partsG x (i : Int)).length = tg.wins.length + (tg.devs.length + (x.chs.flatMap (chM (i : Int))).length) := by rw [HPG.out]; unfold partsR; rw [List.length_append, List.length_append, List.length_map, List.length_map, List.length_map]
          have hNN := HNN.out
          clear HJ1 HD HY1 HZ HR2 bY KY hk hq
          refine range_box (n := n) (n0 := n0) hn (by omega) (gf := 163) (lb := #[.pointer (some ⟨Z.heap.size, 0, none⟩), .pointer (some ⟨Z.heap.size + 1, 0, none⟩)]) rfl (by intro args W; rfl)
            (ends_seq (n - 1) n0 Z.heap.size (Z.heap.size + 1) (x.chs.flatMap (chM (i : Int))).length A2 d2 x.chs (i : Int) Y1 hrow (by omega) h3 h4 HCB.out (Nat.le_refl _) hcl) (Below.refl _ _)
            65 8 rfl 87 5 (fun z => mpE z.1) (fun _ => rfl) (fun l W' => J (pre ++ l.map toE) W' ∧ KN n0 W.heap.size Y1 W') (fun cd l W' => cd = .ret ∧ Jx (pre ++ l.map toE) W')
            (fun s X Y row hs hg hr => ⟨HA.out _ _ _ row hs.1 hg (fun r e => ⟨by have := (hr r e).1; omega, (hr r e).2⟩), own_kn (by omega) (Nat.le_refl _) s X Y row hs.2 hg hr⟩)
            (fun cd s X Y row hs hg hr => ⟨hs.1, HAX.out _ _ _ row hs.2 hg (fun r e => ⟨by have := (hr r e).1; omega, (hr r e).2⟩)⟩)
            ⟨by rw [List.map_nil, List.append_nil]; exact jY, KN.refl _ _ _⟩ (fun l W' h => h.2.size) ?assign ?body ?done ?stop
          case assign =>
            intro l z W' K hK
            simp only [List.setIfInBounds_toArray, List.set_cons_zero, List.set_cons_succ] at hK ⊢
            have HK := Lib.hid hK
            clear hK
            gi_wp2_with ((with_reducible show wpListIn _ _ _ _ _ (Oper.mk _ (.store 87 _ _) _ _ _ _ :: _) _ _); refine wli_store rfl 87 _ _ rfl _ rfl _ rfl (run_store_arr (Arr.new W' _ _ _) (mpE z.1) infoMp (mpE_one _ _)) ?_)
            exact HK.out _ (below_row ((Below.refl _ _).alloc (Nat.le_refl _) _) (Nat.le_refl _) _) ((Arr.new W' _ _ _).row _)
          case body =>
            intro l pre2 z r W' hr hi ha hlen
            simp only [List.setIfInBounds_toArray, List.set_cons_zero, List.set_cons_succ]
            have kW := HKY.out.trans hi.2
            obtain ⟨⟨-, -, -, g4⟩, -⟩ := HFACT.out W' kW
            obtain ⟨fn, tmps, assign, body, hy, hRR⟩ := HY.out (pre ++ pre2.map toE) (toE z) W' hi.1 (by rw [List.length_append, List.length_map]; omega)
            replace hy : (Instr.yield lp #[.agg (vec 6 (rkE (rkM z.1)))]).run Tryz.prog W' = .ok (.round lp fn tmps assign body) W' := hy
            have HYR := Lib.hid hRR
            have HAR := Lib.hid ha
            have HI2 := Lib.hid hi.2
            clear hRR ha hi kW hlen hr
            gi_wp2_with (first
              | ((with_reducible show wpListIn _ _ _ _ _ (Oper.mk _ (.load 87 _) _ _ _ _ :: _) _ _); refine wli_val (round_fn _) rfl (by intro c e; cases e) (exec_load 87 _ rfl r rfl _ (run_load_arr HAR.out Tryz.underlying87 rfl infoMp)) ?_)
              | ((with_reducible show wpListIn _ _ _ _ _ (Oper.mk _ (.build 145 _) _ _ _ _ :: _) _ _); refine wli_val (round_fn _) rfl (by intro c e; cases e) (exec_build 145 _ rfl (vec 6 (rkE (rkM z.1))) (by kernel_rfl) _) ?_))
            refine ⟨fun h => by simp [Fence.wide] at h, ?_⟩
            refine (round_in HYR.out).mono ?_
            rintro e W3 (⟨rfl, hJ3, hk3⟩ | ⟨rfl, hJx3, hkf⟩)
            · have HN : Hid (J (pre ++ (pre2 ++ [z]).map toE) W3 ∧ KN n0 W.heap.size W' W3) := Lib.hid ⟨by rw [List.map_append, ← List.append_assoc]; exact hJ3, hk3⟩
              clear hJ3 hk3 hy
              gi_wp2
              exact ⟨(HN.out.2.up (by omega)).from, HN.out.2.up (by omega), HN.out.1, HI2.out.trans HN.out.2⟩
            · have HN : Hid (Jx (pre ++ (pre2 ++ [z]).map toE) W3 ∧ KeepsFrom W.heap.size W' W3) := Lib.hid ⟨by rw [List.map_append, ← List.append_assoc]; exact hJx3, hkf⟩
              clear hJx3 hkf hy
              gi_wp2
              exact ⟨keepsFrom_up HN.out.2 (by omega), rfl, HN.out.1⟩
          case done =>
            intro D ys W' hD hS hi hdef
            have hj := (HA.out).putObj (.deferred none) hi.1 (by omega) hdef rfl
            have HJD := Lib.hid hj
            have HS := Lib.hid hS
            clear hj hS hi
            gi_wp2
            refine ⟨by simp, .inl ⟨_, _, rfl, run_takeDeferred hdef, ?_⟩⟩
            refine ⟨_, results_none rfl _ _ _, ⟨_, rfl⟩, .inl ⟨pre ++ ys.map toE, ?_, HJD.out⟩⟩
            rw [List.map_append, toE_map, HS.out, HPD.out, HPG.out, List.append_assoc]
            rfl
          case stop =>
            intro D cd pre2 W' hD hSp hi hdef
            obtain ⟨rfl, hjx⟩ := hi
            have hj := (HAX.out).putObj (.deferred none) hjx (by omega) hdef rfl
            have HJD := Lib.hid hj
            have HS := Lib.hid hSp
            clear hj hSp hjx
            gi_wp2
            refine ⟨by simp, .inl ⟨_, _, rfl, run_takeDeferred hdef, ?_⟩⟩
            refine ⟨_, results_none rfl _ _ _, ⟨_, rfl⟩, .inr ⟨pre ++ pre2.map toE, ?_, HJD.out⟩⟩
            rw [List.map_append, toE_map, HPD.out, HPG.out]
            exact pre_e HS.out
end Go.Proofs.YtkaipknkjocfiaaGreat
