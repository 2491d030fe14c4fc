import Derived.Test.YtkaipknkjocfiaaGreatZa40
import Derived.Test.YtkaipknkjocfiaaGreatZa42
namespace Go.Proofs.YtkaipknkjocfiaaGreat
open Go.RowKit Go.Maps
attribute [local go_sem ↓ high] zeroSp zeroGu zeroCf
def Fx (p r2 r3 r5 n : Nat) (cf : Nat → Value) (y : GV) (Y : World) : Prop := Y.cell? ⟨p, 7, none⟩ = some (.int .i64 (n : Int)) ∧ Blk Y r2 70 #[.pointer (some ⟨p, 0, none⟩)] ∧ Arr Y r3 31 3 cf ∧ Arr Y r5 63 79 (guestE y)
section
variable {p r2 r3 r5 n : Nat} {cf : Nat → Value} {y : GV} {Y Y' : World}
theorem Fx.of (h : Fx p r2 r3 r5 n cf y Y) (h2 : Y'.heap[r2]? = Y.heap[r2]?) (h3 : Y'.heap[r3]? = Y.heap[r3]?) (h5 : Y'.heap[r5]? = Y.heap[r5]?) (h7 : Y'.cell? ⟨p, 7, none⟩ = some (.int .i64 (n : Int))) : Fx p r2 r3 r5 n cf y Y' := ⟨h7, h2.trans h.2.1, h3.trans h.2.2.1, h5.trans h.2.2.2⟩
theorem Fx.under (h : Fx p r2 r3 r5 n cf y Y) (hb : Below Y.heap.size Y Y') : Fx p r2 r3 r5 n cf y Y' := h.of (hb.block _ h.2.1.lt) (hb.block _ h.2.2.1.lt) (hb.block _ h.2.2.2.lt) ((hb.cell (p := ⟨p, 7, none⟩) (lt_of_cell h.1)).trans h.1)
theorem Fx.save {m : Nat} (h : Fx p r2 r3 r5 n cf y Y) (hb : Save m Y Y') (h0 : p ≠ m) (h2 : r2 ≠ m) (h3 : r3 ≠ m) (h5 : r5 ≠ m) : Fx p r2 r3 r5 n cf y Y' := h.of (hb.block _ h.2.1.lt h2) (hb.block _ h.2.2.1.lt h3) (hb.block _ h.2.2.2.lt h5) ((hb.cell (p := ⟨p, 7, none⟩) (lt_of_cell h.1) h0).trans h.1)
theorem Fx.putF {v : Value} {bs : Nat} {l : List Sp} (h : Fx p r2 r3 r5 n cf y Y) (ho : OwnS Y bs v l) (hb : PutF p v Y Y') (h2 : r2 ≠ p) (h3 : r3 ≠ p) (h5 : r5 ≠ p) (h7 : Y'.cell? ⟨p, 7, none⟩ = some (.int .i64 (n : Int))) : Fx p r2 r3 r5 n cf y Y' :=
 h.of (hb.block _ h.2.1.lt h2 (own_ne ho h.2.1 (by decide))) (hb.block _ h.2.2.1.lt h3 (own_ne ho h.2.2.1 (by decide))) (hb.block _ h.2.2.2.lt h5 (own_ne ho h.2.2.2 (by decide))) h7
end
theorem guest_eq {b : Bd} {x : Cf} {n : Nat} (hn : n < x.gs.length) (s : Nat × Nat) : guestP b x n s = mustP (ownedB x n) 10 n (mustP (strsB b x n x.gs[n]) 9 n (mustP (irqsB b x n x.gs[n]) 8 n (mustP (dtbB x.gs[n]) 7 n (mustP (entryB x.gs[n]) 6 n (mustP (x.gs[n].devs.all (devB b)) 5 n (mustP (x.gs[n].wins.all (winB b)) 4 n (mustP (cpusB b x n) 3 n s))))))) := by
 unfold guestP linesP roomsP
 rw [List.getElem?_eq_getElem hn]
theorem must_pair {is : Bool} {r k r1 n1 : Nat} (h : r1 ≠ 0) : mustP is r k (r1, n1) = (r1, n1) := must_sticky h
theorem guest_sticky {b : Bd} {x : Cf} (i : Nat) (s : Nat × Nat) (h : s.1 ≠ 0) : guestP b x i s = s := by
 unfold guestP linesP roomsP
 cases x.gs[i]? with
 | none => simp only; rw [must_sticky (by rw [must_sticky h]; exact h), must_sticky h]
 | some t =>
  simp only
  rw [must_sticky (s := s) h, must_sticky h, must_sticky h, must_sticky h, must_sticky h, must_sticky h, must_sticky h, must_sticky h]
def guestsS (b : Bd) (x : Cf) : Nat × Nat := upto x.gs.length (guestP b x) (0, 0)
theorem phys_len {x : Cf} (hf : fewC x = true) {n : Nat} (hn : n < x.gs.length) : (physG x (n : Int)).length ≤ 40 := by
 unfold physG
 rw [guestAt_yes hn]
 simp only
 rw [physP_is, List.length_append, List.length_map, List.length_map]
 have := gFew_iff ((few_gs hf).2.2 _ (List.getElem_mem hn))
 omega
theorem memS_len {x : Cf} (hf : fewC x = true) : ∀ n, n ≤ x.gs.length → (memS x n).length ≤ 40 * n
 | 0, _ => by unfold memS; simp
 | n + 1, h => by
  rw [memS_succ, List.length_append]
  have := memS_len hf n (by omega)
  have := phys_len hf (show n < x.gs.length by omega)
  omega
theorem memS_fit {x : Cf} (hb : CfB x) (n : Nat) : ∀ s ∈ memS x n, fit s := fun s hs => by
 obtain ⟨i, _, hi⟩ := mem_in.1 hs
 exact physG_fit hb _ s hi
theorem phys_ne {x : Cf} {n : Nat} (hn : n < x.gs.length) (hw : x.gs[n].wins ≠ []) : physG x (n : Int) ≠ [] := by
 unfold physG
 rw [guestAt_yes hn]
 simp only
 rw [physP_is]
 intro e
 exact hw (List.map_eq_nil_iff.1 (List.append_eq_nil_iff.1 e).1)
set_option maxHeartbeats 16000000 in
set_option maxRecDepth 100000 in
theorem kguests_any (x : Cf) (a c : Value) (b : Bd) (B p m1 m2 m3 m4 base N0 : Nat) (wh0 : Int) (L1 : List Lit) (w : World) (hx : CfRW w B x a c) (hb : CfB x) (hf : fewC x = true) (hr : fit b.r) (hl : fit b.l) (hft : fitB b = true) (her : errP x = 0) (hN0 : N0 ≤ 1000) (hs : KSt B w p m1 m2 m3 m4 base b wh0 N0 L1 [] [] [] []) :
  Calls Tryz.prog 20 #[.pointer (some ⟨p, 0, none⟩), cfVal x a c] w (AskP B (guestsS b x) (fun w' => ∃ wh N', N' ≤ 10000 ∧ KSt B w' p m1 m2 m3 m4 base b wh N' L1 (cpuS x x.gs.length) (irqN x x.gs.length) (strN x x.gs.length) (memS x x.gs.length)) w) := by
 have hBw : B ≤ w.heap.size := by have := hs.ord; omega
 have hbw : base ≤ w.heap.size := by have := hs.ord; omega
 obtain ⟨hx1, A, d, ys, ha, hm, hg, hcap⟩ := hx
 have hlen : ys.length = x.gs.length := by rw [← hm, List.length_map]
 obtain ⟨NG, hNG⟩ : ∃ n, n = x.gs.length := ⟨_, rfl⟩
 have hN20 : NG ≤ 20 := by rw [hNG]; exact (few_gs hf).1
 obtain ⟨r2, hr2⟩ : ∃ r, r = w.heap.size := ⟨_, rfl⟩
 obtain ⟨r3, hr3⟩ : ∃ r, r = w.heap.size + 1 := ⟨_, rfl⟩
 obtain ⟨V, hV⟩ : ∃ V, V = (w.alloc (.cells #[.pointer (some ⟨p, 0, none⟩)] 70)).alloc (.cells (vec 3 (cfE x.ver a c)) 31) := ⟨_, rfl⟩
 have bV : Below w.heap.size w V := by rw [hV]; exact (Below.alloc_own w _).alloc (by simp) _
 have v2 : Blk V r2 70 #[.pointer (some ⟨p, 0, none⟩)] := by rw [hV]; exact (Blk.new w _ _ hr2).alloc _
 have v3 : Arr V r3 31 3 (cfE x.ver a c) := by rw [hV, hr3]; exact Arr.newAt _ _ _ _ (by simp)
 have hsV := hs.under bV
 have c1 : V.cell? ⟨r3, 1, none⟩ = some (.slice A NG d) := by
  rw [v3.cell (i := 1) (by decide), hNG]; exact congrArg some ha
 have HST : Hid ((∃ wh, KSt B V p m1 m2 m3 m4 base b wh (N0 + 300 * 0) L1 (cpuS x 0) (irqN x 0) (strN x 0) (memS x 0)) ∧ Below B w V ∧ upto 0 (guestP b x) (0, 0) = (0, 0) ∧ Blk V r2 70 #[.pointer (some ⟨p, 0, none⟩)] ∧ Arr V r3 31 3 (cfE x.ver a c)) := Lib.hid ⟨⟨wh0, hsV⟩, bV.mono hBw, rfl, v2, v3⟩
 have HRW : Hid (∀ Y, Below B w Y → GsR Y B A ys) := Lib.hid fun Y hY => hg.below hY
 have HCAP : Hid (∀ y ∈ ys, CapW y) := Lib.hid hcap
 have HNM : Hid (∀ k (hk : k < ys.length) (hk2 : k < x.gs.length), ys[k].g = x.gs[k]) := Lib.hid fun k hk hk2 => by simp [← hm]
 have HLEN := Lib.hid (And.intro hlen hNG)
 have HBB := Lib.hid hb
 have HFE := Lib.hid hf
 have HFT := Lib.hid (And.intro hft (And.intro hr hl))
 have HER : Hid (∀ g ∈ x.gs, PutOk g) := Lib.hid fun g hg => put_ok (errP_guest her g hg)
 have HCF : Hid (∀ Y, Below B w Y → CfR Y B x a c) := Lib.hid fun Y hY => hx1.below hY
 have HORD : Hid (B ≤ m1 ∧ m1 < m2 ∧ m2 < m3 ∧ m3 < m4 ∧ m4 < p ∧ p < base ∧ base ≤ r2 ∧ r3 = r2 + 1 ∧ N0 ≤ 1000 ∧ r2 = w.heap.size) := Lib.hid (by have := hs.ord; omega)
 have HV := Lib.hid hV
 have HR := Lib.hid (And.intro hr2 hr3)
 have HNGH := Lib.hid hNG
 unfold cfVal
 clear hx1 ha hm hg hcap hlen hV hr2 hr3 bV v2 v3 hsV hb hf hr hl hft her hN0 hs hBw hbw hNG
 go_enter Tryz.func20, Tryz.ntmps20
 go_upto_region 1 with fail
 rw [← HV.out, ← HR.out.2, ← HR.out.1]
 clear HV HR
 go_upto_region 2 with fail
 clear c1
 go_loopw [9] (fun v W => ∃ n : Nat, n ≤ NG ∧ v = .int .i64 n ∧ Hid ((∃ wh, KSt B W p m1 m2 m3 m4 base b wh (N0 + 300 * n) L1 (cpuS x n) (irqN x n) (strN x n) (memS x n)) ∧ Below B w W ∧ upto n (guestP b x) (0, 0) = (0, 0) ∧ Blk W r2 70 #[.pointer (some ⟨p, 0, none⟩)] ∧ Arr W r3 31 3 (cfE x.ver a c))) (fun v _ => NG - (intOf v).toNat)
 case atStart => exact ⟨0, Nat.zero_le _, rfl, HST⟩
 case round =>
  clear HST
  obtain ⟨n, hn, rfl, HR⟩ := hrel
  obtain ⟨W, hW⟩ : ∃ W : World, W = wr := ⟨_, rfl⟩
  subst hW
  by_cases hlt : n < NG
  · have hnN : (n : Int) < (NG : Int) := by omega
    have hny : n < ys.length := by have := HLEN.out; omega
    have hnx : n < x.gs.length := by have := HLEN.out; omega
    obtain ⟨⟨wh, hK⟩, hBel, hU, hk2, hk3⟩ := HR.out
    obtain ⟨a0, q, rfl, hq, -, hcp⟩ := (HRW.out W hBel).row.at hny
    obtain ⟨y, hy⟩ : ∃ y, y = ys[n] := ⟨_, rfl⟩
    rw [← hy] at hcp
    have hyg : y.g = x.gs[n] := by rw [hy]; exact HNM.out n hny hnx
    have hgr : ∀ Y, Below B w Y → GRow Y B y := fun Y hY => by rw [hy]; exact (HRW.out Y hY).all _ (List.getElem_mem _)
    have hone : GV1 y := (hgr W hBel).one
    obtain ⟨t, ht⟩ : ∃ t, t = x.gs[n] := ⟨_, rfl⟩
    have htm : t ∈ x.gs := by rw [ht]; exact List.getElem_mem _
    obtain ⟨A1, e1, w1, hw1⟩ : ∃ A1 e1, y.wv = .slice A1 t.wins.length e1 ∧ t.wins.length ≤ e1 := by
      have := HCAP.out y (by rw [hy]; exact List.getElem_mem _)
      obtain ⟨A1, e1, h1, h2⟩ := this
      exact ⟨A1, e1, by rw [h1, hyg, ht], by rw [ht, ← hyg]; exact h2⟩
    obtain ⟨A2, e2, w2, -, -⟩ := (hgr W hBel).de
    obtain ⟨A3, e3, w3, -, -⟩ := (hgr W hBel).ir
    obtain ⟨A4, e4, w4, -, -⟩ := (hgr W hBel).st
    have HROW : Hid (∀ Y, Below B w Y → RowE 4 winE Y B A1 t.wins ∧ RowE 3 devE Y B A2 t.devs ∧ RowE 3 irqE Y B A3 t.irqs ∧ RowE 1 numE Y B A4 t.strs) := Lib.hid fun Y hY => by
      obtain ⟨⟨_, _, f1, g1, _⟩, ⟨_, _, f2, g2, _⟩, ⟨_, _, f3, g3, _⟩, ⟨_, _, f4, g4, _⟩⟩ := hgr Y hY
      rw [w1] at f1
      rw [w2] at f2
      rw [w3] at f3
      rw [w4] at f4
      injection f1 with f1
      injection f2 with f2
      injection f3 with f3
      injection f4 with f4
      rw [ht, ← hyg, f1, f2, f3, f4]
      exact ⟨g1, g2, g3, g4⟩
    have HGR := Lib.hid hgr
    rw [hyg, ← ht] at w2 w3 w4
    have hpo := HER.out t htm
    have hfw := gFew_iff ((few_gs HFE.out).2.2 t htm)
    have htb := HBB.out.gs t htm
    have hperm : ∀ v ∈ t.wins, 0 ≤ v.perm ∧ v.perm ≤ 7 := fun v hv => by
      have := hpo.wins v hv
      unfold badWi inB at this
      simpa using this
    have hcpu : ∀ v ∈ t.irqs, 0 ≤ v.cpu ∧ v.cpu ≤ 65535 := fun v hv => by
      have := hpo.irqs v hv
      unfold badIr inB at this
      simp at this
      omega
    have hwne : t.wins ≠ [] := by
      have := hpo.cnt
      unfold cntOk inB at this
      simp only [Bool.and_eq_true, decide_eq_true_eq] at this
      intro e
      rw [e] at this
      simp at this
    obtain ⟨c3, hc3⟩ : ∃ z, z = cpusB b x n := ⟨_, rfl⟩
    obtain ⟨c4, hc4⟩ : ∃ z, z = t.wins.all (winB b) := ⟨_, rfl⟩
    obtain ⟨c5, hc5⟩ : ∃ z, z = t.devs.all (devB b) := ⟨_, rfl⟩
    obtain ⟨c6, hc6⟩ : ∃ z, z = entryB t := ⟨_, rfl⟩
    obtain ⟨c7, hc7⟩ : ∃ z, z = dtbB t := ⟨_, rfl⟩
    obtain ⟨c8, hc8⟩ : ∃ z, z = irqsB b x n x.gs[n] := ⟨_, rfl⟩
    obtain ⟨c9, hc9⟩ : ∃ z, z = strsB b x n x.gs[n] := ⟨_, rfl⟩
    obtain ⟨c10, hc10⟩ : ∃ z, z = ownedB x n := ⟨_, rfl⟩
    have hge : guestP b x n (0, 0) = mustP c10 10 n (mustP c9 9 n (mustP c8 8 n (mustP c7 7 n (mustP c6 6 n (mustP c5 5 n (mustP c4 4 n (mustP c3 3 n (0, 0)))))))) := by rw [guest_eq hnx, hc3, hc4, hc5, hc6, hc7, hc8, hc9, hc10, ht]
    have hstop : ∀ r, r ≠ 0 → guestP b x n (0, 0) = (r, n) → guestsS b x = (r, n) := fun r hr0 he => upto_stop guest_sticky hU he hr0 hnx
    have HNO3 : Hid (c3 = false → guestsS b x = (3, n)) := Lib.hid fun h3 => hstop 3 (by decide) (by rw [hge, h3]; simp only [must_first]; rw [must_pair (r1 := 3) (by decide), must_pair (r1 := 3) (by decide), must_pair (r1 := 3) (by decide), must_pair (r1 := 3) (by decide), must_pair (r1 := 3) (by decide), must_pair (r1 := 3) (by decide), must_pair (r1 := 3) (by decide)])
    have HNO4 : Hid (c3 = true → c4 = false → guestsS b x = (4, n)) := Lib.hid fun h3 h4 => hstop 4 (by decide) (by rw [hge, h3, h4]; simp only [mustP_true, must_first]; rw [must_pair (r1 := 4) (by decide), must_pair (r1 := 4) (by decide), must_pair (r1 := 4) (by decide), must_pair (r1 := 4) (by decide), must_pair (r1 := 4) (by decide), must_pair (r1 := 4) (by decide)])
    have HNO5 : Hid (c3 = true → c4 = true → c5 = false → guestsS b x = (5, n)) := Lib.hid fun h3 h4 h5 => hstop 5 (by decide) (by rw [hge, h3, h4, h5]; simp only [mustP_true, must_first]; rw [must_pair (r1 := 5) (by decide), must_pair (r1 := 5) (by decide), must_pair (r1 := 5) (by decide), must_pair (r1 := 5) (by decide), must_pair (r1 := 5) (by decide)])
    have HNO6 : Hid (c3 = true → c4 = true → c5 = true → c6 = false → guestsS b x = (6, n)) := Lib.hid fun h3 h4 h5 h6 => hstop 6 (by decide) (by rw [hge, h3, h4, h5, h6]; simp only [mustP_true, must_first]; rw [must_pair (r1 := 6) (by decide), must_pair (r1 := 6) (by decide), must_pair (r1 := 6) (by decide), must_pair (r1 := 6) (by decide)])
    have HNO7 : Hid (c3 = true → c4 = true → c5 = true → c6 = true → c7 = false → guestsS b x = (7, n)) := Lib.hid fun h3 h4 h5 h6 h7 => hstop 7 (by decide) (by rw [hge, h3, h4, h5, h6, h7]; simp only [mustP_true, must_first]; rw [must_pair (r1 := 7) (by decide), must_pair (r1 := 7) (by decide), must_pair (r1 := 7) (by decide)])
    have HNO8 : Hid (c3 = true → c4 = true → c5 = true → c6 = true → c7 = true → c8 = false → guestsS b x = (8, n)) := Lib.hid fun h3 h4 h5 h6 h7 h8 => hstop 8 (by decide) (by rw [hge, h3, h4, h5, h6, h7, h8]; simp only [mustP_true, must_first]; rw [must_pair (r1 := 8) (by decide), must_pair (r1 := 8) (by decide)])
    have HNO9 : Hid (c3 = true → c4 = true → c5 = true → c6 = true → c7 = true → c8 = true → c9 = false → guestsS b x = (9, n)) := Lib.hid fun h3 h4 h5 h6 h7 h8 h9 => hstop 9 (by decide) (by rw [hge, h3, h4, h5, h6, h7, h8, h9]; simp only [mustP_true, must_first]; rw [must_pair (r1 := 9) (by decide)])
    have HNO10 : Hid (c3 = true → c4 = true → c5 = true → c6 = true → c7 = true → c8 = true → c9 = true → c10 = false → guestsS b x = (10, n)) := Lib.hid fun h3 h4 h5 h6 h7 h8 h9 h10 => hstop 10 (by decide) (by rw [hge, h3, h4, h5, h6, h7, h8, h9, h10]; simp only [mustP_true, must_first])
    have HYES : Hid (c3 = true → c4 = true → c5 = true → c6 = true → c7 = true → c8 = true → c9 = true → c10 = true → upto (n + 1) (guestP b x) (0, 0) = (0, 0)) := Lib.hid fun h3 h4 h5 h6 h7 h8 h9 h10 => by rw [upto_succ, hU, hge, h3, h4, h5, h6, h7, h8, h9, h10]; rfl
    have hapart : (c10 = true ∨ True) → ApartS (memS x n) := fun _ => mem_apart n fun i hi => by
      have := (upto_zero (f := guestP b x) (P := fun g => ∀ (hg : g < x.gs.length), GuestOk b x g x.gs[g]) (fun i s hs => guest_zero hs) n (0, 0) (by rw [hU])).2 i hi (by omega)
      exact this.owned
    obtain ⟨r5, hr5⟩ : ∃ r, r = W.heap.size := ⟨_, rfl⟩
    obtain ⟨X, hX⟩ : ∃ X, X = (W.alloc (.cells (vec 79 (guestE zGV)) 63)).setRow W.heap.size (vec 79 (guestE y)) := ⟨_, rfl⟩
    have bX : Below W.heap.size W X := by rw [hX]; exact below_row ((Below.refl _ _).alloc (Nat.le_refl _) _) (Nat.le_refl _) _
    have aX : Arr X r5 63 79 (guestE y) := by rw [hX, hr5]; exact (Arr.new W _ _ _).row _
    have kX := hK.under bX
    obtain ⟨X2, hX2⟩ : ∃ Y, Y = X.setCell ⟨p, 7, none⟩ (.int .i64 (n : Int)) := ⟨_, rfl⟩
    have kX2 : KSt B X2 p m1 m2 m3 m4 base b (n : Int) (N0 + 300 * n) L1 (cpuS x n) (irqN x n) (strN x n) (memS x n) := by rw [hX2]; exact kX.setWhere _
    have hord := hK.ord
    have hor := HORD.out
    have hr2W : r2 < W.heap.size := hk2.lt
    have hr3W : r3 < W.heap.size := hk3.lt
    have FX : Fx p r2 r3 r5 n (cfE x.ver a c) y X2 := ⟨kX2.cell.1, by rw [hX2]; exact (Below.heap_setCell X ⟨p, 7, none⟩ _ r2 (by show r2 ≠ p; omega)).trans (hk2.under bX), by rw [hX2]; exact (hk3.under bX).far (p := ⟨p, 7, none⟩) (by show r3 ≠ p; omega) _, by rw [hX2]; exact aX.far (p := ⟨p, 7, none⟩) (by show r5 ≠ p; omega) _⟩
    have bX2 : Below B w X2 := by
      rw [hX2]
      exact (hBel.trans (bX.mono (by omega))).setCell (p := ⟨p, 7, none⟩) (by show B ≤ p; omega) _
    have x2 : X.cell? ⟨r2, 0, none⟩ = some (.pointer (some ⟨p, 0, none⟩)) := (hk2.under bX).cellAt 0 rfl
    have f7 := kX.cell.2.2.2.2.2
    have e7 := kX.cell.1
    obtain ⟨C, hC⟩ : ∃ C, C = t.cpus := ⟨_, rfl⟩
    obtain ⟨n1, hn1⟩ : ∃ C, C = t.wins.length := ⟨_, rfl⟩
    obtain ⟨n2, hn2⟩ : ∃ C, C = t.devs.length := ⟨_, rfl⟩
    obtain ⟨n3, hn3⟩ : ∃ C, C = t.irqs.length := ⟨_, rfl⟩
    obtain ⟨n4, hn4⟩ : ∃ C, C = t.strs.length := ⟨_, rfl⟩
    have HFC : Hid (∀ Y, Fx p r2 r3 r5 n (cfE x.ver a c) y Y → Y.cell? ⟨r2, 0, none⟩ = some (.pointer (some ⟨p, 0, none⟩)) ∧ Y.cell? ⟨r5, 4, none⟩ = some (.int .u32 C) ∧ Y.cell? ⟨r5, 75, none⟩ = some (.slice A1 n1 e1) ∧ Y.cell? ⟨r5, 76, none⟩ = some (.slice A2 n2 e2) ∧ Y.cell? ⟨r5, 77, none⟩ = some (.slice A3 n3 e3) ∧ Y.cell? ⟨r5, 78, none⟩ = some (.slice A4 n4 e4)) := Lib.hid fun Y hY => by
      rw [hn1, hn2, hn3, hn4, ← w1, ← w2, ← w3, ← w4, hC, ht, ← hyg]
      exact ⟨hY.2.1.cellAt 0 rfl, hY.2.2.2.cell (i := 4) (by decide), hY.2.2.2.cell (i := 75) (by decide), hY.2.2.2.cell (i := 76) (by decide), hY.2.2.2.cell (i := 77) (by decide), hY.2.2.2.cell (i := 78) (by decide)⟩
    have hcb : 0 ≤ b.cpus ∧ b.cpus ≤ 32 := by have := fitB_rest HFT.out.1; omega
    have hsb : 0 ≤ b.strs ∧ b.strs ≤ 256 := by have := fitB_rest HFT.out.1; omega
    have hmk : 0 ≤ t.cpus ∧ t.cpus ≤ 4294967295 := htb.cpus
    have HC3 : Hid (∀ Y, KSt B Y p m1 m2 m3 m4 base b (n : Int) (N0 + 300 * n) L1 (cpuS x n) (irqN x n) (strN x n) (memS x n) → Calls Tryz.prog 40 #[.pointer (some ⟨p, 0, none⟩), .int .u32 C] Y fun e w' => ∃ r, e = .returned (.bool r) ∧ r = c3 ∧ Save m2 Y w' ∧ (r = true → KSt B w' p m1 m2 m3 m4 base b (n : Int) (N0 + 300 * n + 32) L1 (cpuS x (n + 1)) (irqN x n) (strN x n) (memS x n))) := Lib.hid fun Y hY => by
      have := kcpus_any p b t.cpus hmk m2 (N0 + 300 * n) (cpuS x n) Y hY.kb hY.ne.2.1 hY.cell.2.2.1 hY.s2 (by omega)
      rw [hC]
      refine this.mono fun e w' hh => ?_
      obtain ⟨r, h1, h2, h3, h4⟩ := hh
      refine ⟨r, h1, by rw [h2, hc3, ht]; exact cpus_is HBB.out hcb hnx, h4, fun e => ?_⟩
      have h3 := h3 e
      rw [show cpuS x n ++ cpuL t.cpus 32 = cpuS x (n + 1) by rw [ht]; exact (cpuS_succ x n hnx).symm] at h3
      exact hY.take2 (by omega) h4 h3
    have HC4 : Hid (∀ Y, KB Y p b → Below B w Y → Calls Tryz.prog 41 #[.slice A1 n1 e1, .func (.func 42) #[.pointer (some ⟨p, 0, none⟩)] #[]] Y (EqV c4 Y)) := Lib.hid fun Y hY hB => by
      rw [hc4, hn1]
      exact kwins_any p b HFT.out.1 HFT.out.2.1 HFT.out.2.2 t.wins (by omega) htb.wins A1 B e1 Y hY (HROW.out Y hB).1 (by have := hB.size; omega)
    have HC5 : Hid (∀ Y, KB Y p b → Below B w Y → Calls Tryz.prog 43 #[.slice A2 n2 e2, .func (.func 44) #[.pointer (some ⟨p, 0, none⟩)] #[]] Y (EqV c5 Y)) := Lib.hid fun Y hY hB => by
      rw [hc5, hn2]
      exact kdevs_any p b HFT.out.2.1 t.devs (by omega) htb.devs A2 B e2 Y hY (HROW.out Y hB).2.1 (by have := hB.size; omega)
    have HC6 : Hid (∀ Y, Below B w Y → Calls Tryz.prog 45 #[.agg (vec 79 (guestE y))] Y (EqV c6 Y)) := Lib.hid fun Y hB => by
      obtain ⟨y0, l0, hl0⟩ : ∃ y0 l0, t.wins = y0 :: l0 := by
       cases hw : t.wins with
       | nil => exact absurd hw hwne
       | cons y0 l0 => exact ⟨y0, l0, rfl⟩
      have hy0 : y0 ∈ t.wins := by rw [hl0]; exact List.mem_cons_self ..
      have := kentered_any y y0 l0 (by rw [hyg, ← ht]; exact hl0) (htb.wins y0 hy0) (by rw [hyg, ← ht]; exact htb.entry) B Y (HGR.out Y hB) (by have := hB.size; omega)
      rw [hyg, ← ht, entry_is hl0 (hperm y0 hy0), ← hc6] at this
      exact this
    have HC7 : Hid (∀ Y, Below B w Y → Calls Tryz.prog 46 #[.agg (vec 79 (guestE y))] Y (EqV c7 Y)) := Lib.hid fun Y hB => by
      have := kdescribed_any y (by rw [hyg, ← ht]; exact hwne) (by rw [hyg, ← ht]; omega) (by rw [hyg, ← ht]; exact htb.wins) (by rw [hyg, ← ht]; exact htb.dtb) B e1 A1 Y (by rw [hyg, ← ht]; exact w1) (by rw [hyg, ← ht]; exact hw1) (by rw [hyg, ← ht]; exact (HROW.out Y hB).1) (by have := hB.size; omega)
      rw [hyg, ← ht, dtb_is hperm, ← hc7] at this
      exact this
    have HC8 : Hid (∀ Y, KSt B Y p m1 m2 m3 m4 base b (n : Int) (N0 + 300 * n + 32) L1 (cpuS x (n + 1)) (irqN x n) (strN x n) (memS x n) → Below B w Y → Fx p r2 r3 r5 n (cfE x.ver a c) y Y → Calls Tryz.prog 47 #[.slice A3 n3 e3, .func (.func 48) #[] #[.pointer (some ⟨r2, 0, none⟩), .pointer (some ⟨r5, 0, none⟩)]] Y fun e w' => ∃ r, e = .returned (.bool r) ∧ r = c8 ∧ Save m3 Y w' ∧ (r = true → KSt B w' p m1 m2 m3 m4 base b (n : Int) (N0 + 300 * n + 132) L1 (cpuS x (n + 1)) (irqN x (n + 1)) (strN x n) (memS x n))) := Lib.hid fun Y hY hB hF => by
      have := kirqs_any HBB.out n hnx (by rw [← ht]; omega) (by rw [← ht]; exact hcpu) r2 r5 e3 A3 Y hY (by omega) (by rw [← ht]; exact (HROW.out Y hB).2.2.1) (by omega) (by omega) (HFC.out Y hF).1 (by rw [← ht, ← hC]; exact (HFC.out Y hF).2.1)
      rw [hn3, hc8]
      rw [← ht] at this ⊢
      exact this
    have HC9 : Hid (∀ Y, KSt B Y p m1 m2 m3 m4 base b (n : Int) (N0 + 300 * n + 132) L1 (cpuS x (n + 1)) (irqN x (n + 1)) (strN x n) (memS x n) → Below B w Y → Calls Tryz.prog 50 #[.slice A4 n4 e4, .func (.func 51) #[.pointer (some ⟨p, 0, none⟩)] #[]] Y fun e w' => ∃ r, e = .returned (.bool r) ∧ r = c9 ∧ Save m4 Y w' ∧ (r = true → KSt B w' p m1 m2 m3 m4 base b (n : Int) (N0 + 300 * n + 232) L1 (cpuS x (n + 1)) (irqN x (n + 1)) (strN x (n + 1)) (memS x n))) := Lib.hid fun Y hY hB => by
      have := kstrs_any HBB.out n hnx (by rw [← ht]; omega) hsb e4 A4 Y hY (by omega) (by rw [← ht]; exact (HROW.out Y hB).2.2.2)
      rw [hn4, hc9]
      rw [← ht] at this ⊢
      exact this
    have HPHY : Hid (∀ Y, Below B w Y → Calls Tryz.prog 53 #[.agg (vec 3 (cfE x.ver a c)), .int .i64 (n : Int)] Y (SpansP (physG x (n : Int)) Y)) := Lib.hid fun Y hB => codePhys x a c (n : Int) Y ((HCF.out Y hB).wide (by have := hB.size; omega)) HBB.out HFE.out
    have HOWN : Hid (∀ (A' : Option Addr) (c' : Nat) Y, KSt B Y p m1 m2 m3 m4 base b (n : Int) (N0 + 300 * n + 232) L1 (cpuS x (n + 1)) (irqN x (n + 1)) (strN x (n + 1)) (memS x n) → Below B w Y → Fx p r2 r3 r5 n (cfE x.ver a c) y Y → RowE 2 spE Y Y.heap.size A' (physG x (n : Int)) → Calls Tryz.prog 52 #[.pointer (some ⟨p, 0, none⟩), .slice A' (physG x (n : Int)).length c'] Y fun e w' => e = .returned (.bool c10) ∧ KSt B w' p m1 m2 m3 m4 base b (n : Int) (N0 + 300 * n + 232) L1 (cpuS x (n + 1)) (irqN x (n + 1)) (strN x (n + 1)) (memS x (n + 1)) ∧ Fx p r2 r3 r5 n (cfE x.ver a c) y w' ∧ Below B Y w') := Lib.hid fun A' c' Y hY hB hF hrow => by
      obtain ⟨Am, cm, hbox, hown⟩ := hY.box
      have hyo := hY.ord
      have hml := memS_len HFE.out n (by omega)
      have hpl := phys_len HFE.out hnx
      refine (kown_any codeFirst p b (n : Int) m1 m2 m3 m4 base cm c' Am A' (memS x n) (physG x (n : Int)) Y hbox hown (by omega) (by omega) (phys_ne hnx (by rw [← ht]; exact hwne)) hrow (by omega) (fun s hs => (List.mem_append.1 hs).elim (memS_fit HBB.out n s) (physG_fit HBB.out _ s))).mono fun e w' hh => ?_
      obtain ⟨h1, h2, h3⟩ := hh
      rw [own_is (hapart (.inr trivial))] at h1
      rw [← memS_succ] at h2
      have hk := hY.own hown h3 h2
      exact ⟨by rw [h1, hc10], hk, hF.putF hown h3 (by omega) (by omega) (by omega) hk.cell.1, h3.belowS hown (by omega) (by omega) (by omega)⟩
    have HKX := Lib.hid kX2
    have HFX := Lib.hid FX
    have HBX := Lib.hid bX2
    have HX := Lib.hid hX
    have HX2 := Lib.hid hX2
    have HR5 := Lib.hid hr5
    have HCP := Lib.hid hcp
    have HONE := Lib.hid hone
    have HRR : Hid (r2 ≠ m2 ∧ r3 ≠ m2 ∧ r5 ≠ m2 ∧ r2 ≠ m3 ∧ r3 ≠ m3 ∧ r5 ≠ m3 ∧ r2 ≠ m4 ∧ r3 ≠ m4 ∧ r5 ≠ m4 ∧ p ≠ m2 ∧ p ≠ m3 ∧ p ≠ m4 ∧ B ≤ m2 ∧ B ≤ m3 ∧ B ≤ m4 ∧ B ≤ w.heap.size) := Lib.hid (by omega)
    clear hK hBel hU hk2 hk3 hcp hy hyg hgr hone w1 w2 w3 w4 hw1 hpo hfw htb hperm hcpu hwne hc3 hc4 hc5 hc6 hc7 hc8 hc9 hc10 hge hstop hapart hr5 hX bX aX kX hX2 kX2 hord hor hr2W hr3W FX bX2 hC hn1 hn2 hn3 hn4 hcb hsb hmk HR htm ht hny hnx HROW HGR
    go_upto_region 4 with (first
      | ((with_reducible show wpList _ _ _ (Oper.mk _ (.load 63 _) _ _ _ _ :: _) _ _); refine wl_load_q rfl 63 _ rfl q rfl _ (run_load_q HCP.out Tryz.underlying63 rfl infoGu) ?_)
      | ((with_reducible show wpList _ _ _ (Oper.mk _ (.store 63 _ _) _ _ _ _ :: _) _ _); refine wl_store rfl 63 _ _ rfl _ rfl _ rfl (run_store_arr (Arr.new W _ _ _) (guestE y) infoGu (guestE_one _ HONE.out _)) ?_))
    rw [← HX.out, ← HR5.out]
    clear HX HCP HR5 HONE
    go_upto_region 5 with fail
    rw [← HX2.out]
    clear HX2 f7 e7 x2
    refine wp_region_held_drew (S := fun Y => Fx p r2 r3 r5 n (cfE x.ver a c) y Y) (by kernel_rfl) (HFX.out.under (show Below X2.heap.size X2 X2.drew from below_drewN (Below.refl _ _) 1)) (fun hS => ?_)
    obtain ⟨Y0, hY0⟩ : ∃ Y, Y = X2.drew := ⟨_, rfl⟩
    rw [← hY0] at hS ⊢
    have HKX := Lib.hid (show KSt _ Y0 _ _ _ _ _ _ _ _ _ _ _ _ _ _ by rw [hY0]; exact HKX.out.drewN 1)
    have HBX : Hid (Below B w Y0) := Lib.hid (by rw [hY0]; exact below_drewN HBX.out 1)
    clear hY0
    refine tP 0 (hy := by (intro W hW; obtain ⟨z0, z1⟩ := And.intro (HFC.out W hW) True.intro; clear hW; go_split_ands; go_simp; (try with_reducible rfl))) (h := ?_)
    refine tP 1 (hy := by (intro W hW; obtain ⟨z0, z1⟩ := And.intro (HFC.out W hW) True.intro; clear hW; go_split_ands; go_simp; (try with_reducible rfl))) (h := ?_)
    refine tP 2 (h := ?_)
    refine tP 3 (hy := by (intro W hW; obtain ⟨z0, z1⟩ := And.intro (HFC.out W hW) True.intro; clear hW; go_split_ands; go_simp; (try with_reducible rfl))) (h := ?_)
    refine oQ 4 (h := fun K4 hK4 => ?_)
    go_simp
    refine (HC3.out _ HKX.out).mono ?_
    rintro e y4 ⟨r, rfl, hre, hsv, hset⟩
    have HRE := Lib.hid hre
    have HSET := Lib.hid hset
    have HBX := Lib.hid (HBX.out.trans (hsv.below HRR.out.2.2.2.2.2.2.2.2.2.2.2.2.1 (Nat.le_trans HRR.out.2.2.2.2.2.2.2.2.2.2.2.2.2.2.2 HBX.out.size)))
    refine hK4 _ _ (Fx.save hS hsv HRR.out.2.2.2.2.2.2.2.2.2.1 HRR.out.1 HRR.out.2.1 HRR.out.2.2.1) (fun hS4 => ?_)
    clear hS hre hsv hset hK4 K4
    refine oQ 5 (h := fun K5 hK5 => ?_)
    go_simp
    refine (mustK_any r 3 n p _ hS4.1).mono ?_
    rintro e y5 ⟨⟨hz, rfl⟩ | ⟨hz, rfl⟩, rfl⟩
    rotate_left
    · exact ⟨rfl, .no (HNO3.out  (by first | exact hz | (rw [← HRE.out]; exact hz))) (by decide) HBX.out⟩
    have HZ3 : Hid (c3 = true) := Lib.hid (by first | exact hz | (rw [← HRE.out]; exact hz))
    have HKX := Lib.hid (HSET.out hz)
    clear HSET HRE
    clear hz
    refine hK5 _ _ hS4 (fun hS5 => ?_)
    clear hS4 hK5 K5
    refine wpAnyH_done (by kernel_rfl) ?_ _
    have HFX := Lib.hid hS5
    clear hS5
    obtain ⟨U5, hU5⟩ : ∃ U, U = y4 := ⟨_, rfl⟩
    rw [← hU5] at HFX HKX HBX ⊢
    clear hU5
    go_upto_region 6 with fail
    refine wp_region_held_drew (S := fun Y => Fx p r2 r3 r5 n (cfE x.ver a c) y Y) (by kernel_rfl) (HFX.out.under (show Below U5.heap.size U5 U5.drew from below_drewN (Below.refl _ _) 1)) (fun hS => ?_)
    obtain ⟨Y0, hY0⟩ : ∃ Y, Y = U5.drew := ⟨_, rfl⟩
    rw [← hY0] at hS ⊢
    have HKX := Lib.hid (show KSt _ Y0 _ _ _ _ _ _ _ _ _ _ _ _ _ _ by rw [hY0]; exact HKX.out.drewN 1)
    have HBX : Hid (Below B w Y0) := Lib.hid (by rw [hY0]; exact below_drewN HBX.out 1)
    clear hY0
    refine tP 0 (hy := by (intro W hW; obtain ⟨z0, z1⟩ := And.intro (HFC.out W hW) True.intro; clear hW; go_split_ands; go_simp; (try with_reducible rfl))) (h := ?_)
    refine tP 1 (h := ?_)
    refine tP 2 (hy := by (intro W hW; obtain ⟨z0, z1⟩ := And.intro (HFC.out W hW) True.intro; clear hW; go_split_ands; go_simp; (try with_reducible rfl))) (h := ?_)
    refine tP 3 (hy := by (intro W hW; obtain ⟨z0, z1⟩ := And.intro (HFC.out W hW) True.intro; clear hW; go_split_ands; go_simp; (try with_reducible rfl))) (h := ?_)
    refine tP 4 (h := ?_)
    refine oQ 5 (h := fun K5 hK5 => ?_)
    go_simp
    have hcon := HC4.out _ HKX.out.kb HBX.out
    unfold EqV at hcon
    refine hcon.mono ?_
    clear hcon
    rintro e y5 ⟨rfl, hd⟩
    have HKX := Lib.hid (HKX.out.under hd)
    have HBX := Lib.hid (HBX.out.trans (hd.mono (Nat.le_trans HRR.out.2.2.2.2.2.2.2.2.2.2.2.2.2.2.2 HBX.out.size)))
    refine hK5 _ _ (Fx.under hS hd) (fun hS5 => ?_)
    clear hS hd hK5 K5
    refine oQ 6 (h := fun K6 hK6 => ?_)
    go_simp
    refine (mustK_any c4 4 n p _ hS5.1).mono ?_
    rintro e y6 ⟨⟨hz, rfl⟩ | ⟨hz, rfl⟩, rfl⟩
    rotate_left
    · exact ⟨rfl, .no (HNO4.out HZ3.out (by first | exact hz | (rw [← HRE.out]; exact hz))) (by decide) HBX.out⟩
    have HZ4 : Hid (c4 = true) := Lib.hid (by first | exact hz | (rw [← HRE.out]; exact hz))
    clear hz
    refine hK6 _ _ hS5 (fun hS6 => ?_)
    clear hS5 hK6 K6
    refine wpAnyH_done (by kernel_rfl) ?_ _
    have HFX := Lib.hid hS6
    clear hS6
    obtain ⟨U6, hU6⟩ : ∃ U, U = y5 := ⟨_, rfl⟩
    rw [← hU6] at HFX HKX HBX ⊢
    clear hU6
    go_upto_region 7 with fail
    refine wp_region_held_drew (S := fun Y => Fx p r2 r3 r5 n (cfE x.ver a c) y Y) (by kernel_rfl) (HFX.out.under (show Below U6.heap.size U6 U6.drew from below_drewN (Below.refl _ _) 1)) (fun hS => ?_)
    obtain ⟨Y0, hY0⟩ : ∃ Y, Y = U6.drew := ⟨_, rfl⟩
    rw [← hY0] at hS ⊢
    have HKX := Lib.hid (show KSt _ Y0 _ _ _ _ _ _ _ _ _ _ _ _ _ _ by rw [hY0]; exact HKX.out.drewN 1)
    have HBX : Hid (Below B w Y0) := Lib.hid (by rw [hY0]; exact below_drewN HBX.out 1)
    clear hY0
    refine tP 0 (hy := by (intro W hW; obtain ⟨z0, z1⟩ := And.intro (HFC.out W hW) True.intro; clear hW; go_split_ands; go_simp; (try with_reducible rfl))) (h := ?_)
    refine tP 1 (h := ?_)
    refine tP 2 (hy := by (intro W hW; obtain ⟨z0, z1⟩ := And.intro (HFC.out W hW) True.intro; clear hW; go_split_ands; go_simp; (try with_reducible rfl))) (h := ?_)
    refine tP 3 (hy := by (intro W hW; obtain ⟨z0, z1⟩ := And.intro (HFC.out W hW) True.intro; clear hW; go_split_ands; go_simp; (try with_reducible rfl))) (h := ?_)
    refine tP 4 (h := ?_)
    refine oQ 5 (h := fun K5 hK5 => ?_)
    go_simp
    have hcon := HC5.out _ HKX.out.kb HBX.out
    unfold EqV at hcon
    refine hcon.mono ?_
    clear hcon
    rintro e y5 ⟨rfl, hd⟩
    have HKX := Lib.hid (HKX.out.under hd)
    have HBX := Lib.hid (HBX.out.trans (hd.mono (Nat.le_trans HRR.out.2.2.2.2.2.2.2.2.2.2.2.2.2.2.2 HBX.out.size)))
    refine hK5 _ _ (Fx.under hS hd) (fun hS5 => ?_)
    clear hS hd hK5 K5
    refine oQ 6 (h := fun K6 hK6 => ?_)
    go_simp
    refine (mustK_any c5 5 n p _ hS5.1).mono ?_
    rintro e y6 ⟨⟨hz, rfl⟩ | ⟨hz, rfl⟩, rfl⟩
    rotate_left
    · exact ⟨rfl, .no (HNO5.out HZ3.out HZ4.out (by first | exact hz | (rw [← HRE.out]; exact hz))) (by decide) HBX.out⟩
    have HZ5 : Hid (c5 = true) := Lib.hid (by first | exact hz | (rw [← HRE.out]; exact hz))
    clear hz
    refine hK6 _ _ hS5 (fun hS6 => ?_)
    clear hS5 hK6 K6
    refine wpAnyH_done (by kernel_rfl) ?_ _
    have HFX := Lib.hid hS6
    clear hS6
    obtain ⟨U7, hU7⟩ : ∃ U, U = y5 := ⟨_, rfl⟩
    rw [← hU7] at HFX HKX HBX ⊢
    clear hU7
    go_upto_region 8 with fail
    refine wp_region_held_drew (S := fun Y => Fx p r2 r3 r5 n (cfE x.ver a c) y Y) (by kernel_rfl) (HFX.out.under (show Below U7.heap.size U7 U7.drew from below_drewN (Below.refl _ _) 1)) (fun hS => ?_)
    obtain ⟨Y0, hY0⟩ : ∃ Y, Y = U7.drew := ⟨_, rfl⟩
    rw [← hY0] at hS ⊢
    have HKX := Lib.hid (show KSt _ Y0 _ _ _ _ _ _ _ _ _ _ _ _ _ _ by rw [hY0]; exact HKX.out.drewN 1)
    have HBX : Hid (Below B w Y0) := Lib.hid (by rw [hY0]; exact below_drewN HBX.out 1)
    clear hY0
    refine tP 0 (hy := by (intro W hW; obtain ⟨z0, z1⟩ := And.intro (HFC.out W hW) True.intro; clear hW; go_split_ands; go_simp; (try with_reducible rfl))) (h := ?_)
    refine tP 1 (v := .agg (vec 79 (guestE y))) (hy := by (intro W hW; exact exec_load 63 _ rfl r5 rfl _ (run_load_arr (hW.2.2.2) Tryz.underlying63 rfl infoGu))) (h := ?_)
    refine oQ 2 (h := fun K2 hK2 => ?_)
    go_simp
    have hcon := HC6.out _ HBX.out
    unfold EqV at hcon
    refine hcon.mono ?_
    clear hcon
    rintro e y2 ⟨rfl, hd⟩
    have HKX := Lib.hid (HKX.out.under hd)
    have HBX := Lib.hid (HBX.out.trans (hd.mono (Nat.le_trans HRR.out.2.2.2.2.2.2.2.2.2.2.2.2.2.2.2 HBX.out.size)))
    refine hK2 _ _ (Fx.under hS hd) (fun hS2 => ?_)
    clear hS hd hK2 K2
    refine oQ 3 (h := fun K3 hK3 => ?_)
    go_simp
    refine (mustK_any c6 6 n p _ hS2.1).mono ?_
    rintro e y3 ⟨⟨hz, rfl⟩ | ⟨hz, rfl⟩, rfl⟩
    rotate_left
    · exact ⟨rfl, .no (HNO6.out HZ3.out HZ4.out HZ5.out (by first | exact hz | (rw [← HRE.out]; exact hz))) (by decide) HBX.out⟩
    have HZ6 : Hid (c6 = true) := Lib.hid (by first | exact hz | (rw [← HRE.out]; exact hz))
    clear hz
    refine hK3 _ _ hS2 (fun hS3 => ?_)
    clear hS2 hK3 K3
    refine wpAnyH_done (by kernel_rfl) ?_ _
    have HFX := Lib.hid hS3
    clear hS3
    obtain ⟨U8, hU8⟩ : ∃ U, U = y2 := ⟨_, rfl⟩
    rw [← hU8] at HFX HKX HBX ⊢
    clear hU8
    go_upto_region 9 with fail
    refine wp_region_held_drew (S := fun Y => Fx p r2 r3 r5 n (cfE x.ver a c) y Y) (by kernel_rfl) (HFX.out.under (show Below U8.heap.size U8 U8.drew from below_drewN (Below.refl _ _) 1)) (fun hS => ?_)
    obtain ⟨Y0, hY0⟩ : ∃ Y, Y = U8.drew := ⟨_, rfl⟩
    rw [← hY0] at hS ⊢
    have HKX := Lib.hid (show KSt _ Y0 _ _ _ _ _ _ _ _ _ _ _ _ _ _ by rw [hY0]; exact HKX.out.drewN 1)
    have HBX : Hid (Below B w Y0) := Lib.hid (by rw [hY0]; exact below_drewN HBX.out 1)
    clear hY0
    refine tP 0 (hy := by (intro W hW; obtain ⟨z0, z1⟩ := And.intro (HFC.out W hW) True.intro; clear hW; go_split_ands; go_simp; (try with_reducible rfl))) (h := ?_)
    refine tP 1 (v := .agg (vec 79 (guestE y))) (hy := by (intro W hW; exact exec_load 63 _ rfl r5 rfl _ (run_load_arr (hW.2.2.2) Tryz.underlying63 rfl infoGu))) (h := ?_)
    refine oQ 2 (h := fun K2 hK2 => ?_)
    go_simp
    have hcon := HC7.out _ HBX.out
    unfold EqV at hcon
    refine hcon.mono ?_
    clear hcon
    rintro e y2 ⟨rfl, hd⟩
    have HKX := Lib.hid (HKX.out.under hd)
    have HBX := Lib.hid (HBX.out.trans (hd.mono (Nat.le_trans HRR.out.2.2.2.2.2.2.2.2.2.2.2.2.2.2.2 HBX.out.size)))
    refine hK2 _ _ (Fx.under hS hd) (fun hS2 => ?_)
    clear hS hd hK2 K2
    refine oQ 3 (h := fun K3 hK3 => ?_)
    go_simp
    refine (mustK_any c7 7 n p _ hS2.1).mono ?_
    rintro e y3 ⟨⟨hz, rfl⟩ | ⟨hz, rfl⟩, rfl⟩
    rotate_left
    · exact ⟨rfl, .no (HNO7.out HZ3.out HZ4.out HZ5.out HZ6.out (by first | exact hz | (rw [← HRE.out]; exact hz))) (by decide) HBX.out⟩
    have HZ7 : Hid (c7 = true) := Lib.hid (by first | exact hz | (rw [← HRE.out]; exact hz))
    clear hz
    refine hK3 _ _ hS2 (fun hS3 => ?_)
    clear hS2 hK3 K3
    refine wpAnyH_done (by kernel_rfl) ?_ _
    have HFX := Lib.hid hS3
    clear hS3
    obtain ⟨U9, hU9⟩ : ∃ U, U = y2 := ⟨_, rfl⟩
    rw [← hU9] at HFX HKX HBX ⊢
    clear hU9
    go_upto_region 10 with fail
    refine wp_region_held_drew (S := fun Y => Fx p r2 r3 r5 n (cfE x.ver a c) y Y) (by kernel_rfl) (HFX.out.under (show Below U9.heap.size U9 U9.drew from below_drewN (Below.refl _ _) 1)) (fun hS => ?_)
    obtain ⟨Y0, hY0⟩ : ∃ Y, Y = U9.drew := ⟨_, rfl⟩
    rw [← hY0] at hS ⊢
    have HKX := Lib.hid (show KSt _ Y0 _ _ _ _ _ _ _ _ _ _ _ _ _ _ by rw [hY0]; exact HKX.out.drewN 1)
    have HBX : Hid (Below B w Y0) := Lib.hid (by rw [hY0]; exact below_drewN HBX.out 1)
    clear hY0
    refine tP 0 (hy := by (intro W hW; obtain ⟨z0, z1⟩ := And.intro (HFC.out W hW) True.intro; clear hW; go_split_ands; go_simp; (try with_reducible rfl))) (h := ?_)
    refine tP 1 (h := ?_)
    refine tP 2 (hy := by (intro W hW; obtain ⟨z0, z1⟩ := And.intro (HFC.out W hW) True.intro; clear hW; go_split_ands; go_simp; (try with_reducible rfl))) (h := ?_)
    refine tP 3 (h := ?_)
    refine oQ 4 (h := fun K4 hK4 => ?_)
    go_simp
    refine (HC8.out _ HKX.out HBX.out hS).mono ?_
    rintro e y4 ⟨r, rfl, hre, hsv, hset⟩
    have HRE := Lib.hid hre
    have HSET := Lib.hid hset
    have HBX := Lib.hid (HBX.out.trans (hsv.below HRR.out.2.2.2.2.2.2.2.2.2.2.2.2.2.1 (Nat.le_trans HRR.out.2.2.2.2.2.2.2.2.2.2.2.2.2.2.2 HBX.out.size)))
    refine hK4 _ _ (Fx.save hS hsv HRR.out.2.2.2.2.2.2.2.2.2.2.1 HRR.out.2.2.2.1 HRR.out.2.2.2.2.1 HRR.out.2.2.2.2.2.1) (fun hS4 => ?_)
    clear hS hre hsv hset hK4 K4
    refine oQ 5 (h := fun K5 hK5 => ?_)
    go_simp
    refine (mustK_any r 8 n p _ hS4.1).mono ?_
    rintro e y5 ⟨⟨hz, rfl⟩ | ⟨hz, rfl⟩, rfl⟩
    rotate_left
    · exact ⟨rfl, .no (HNO8.out HZ3.out HZ4.out HZ5.out HZ6.out HZ7.out (by first | exact hz | (rw [← HRE.out]; exact hz))) (by decide) HBX.out⟩
    have HZ8 : Hid (c8 = true) := Lib.hid (by first | exact hz | (rw [← HRE.out]; exact hz))
    have HKX := Lib.hid (HSET.out hz)
    clear HSET HRE
    clear hz
    refine hK5 _ _ hS4 (fun hS5 => ?_)
    clear hS4 hK5 K5
    refine wpAnyH_done (by kernel_rfl) ?_ _
    have HFX := Lib.hid hS5
    clear hS5
    obtain ⟨U10, hU10⟩ : ∃ U, U = y4 := ⟨_, rfl⟩
    rw [← hU10] at HFX HKX HBX ⊢
    clear hU10
    go_upto_region 11 with fail
    refine wp_region_held_drew (S := fun Y => Fx p r2 r3 r5 n (cfE x.ver a c) y Y) (by kernel_rfl) (HFX.out.under (show Below U10.heap.size U10 U10.drew from below_drewN (Below.refl _ _) 1)) (fun hS => ?_)
    obtain ⟨Y0, hY0⟩ : ∃ Y, Y = U10.drew := ⟨_, rfl⟩
    rw [← hY0] at hS ⊢
    have HKX := Lib.hid (show KSt _ Y0 _ _ _ _ _ _ _ _ _ _ _ _ _ _ by rw [hY0]; exact HKX.out.drewN 1)
    have HBX : Hid (Below B w Y0) := Lib.hid (by rw [hY0]; exact below_drewN HBX.out 1)
    clear hY0
    refine tP 0 (hy := by (intro W hW; obtain ⟨z0, z1⟩ := And.intro (HFC.out W hW) True.intro; clear hW; go_split_ands; go_simp; (try with_reducible rfl))) (h := ?_)
    refine tP 1 (h := ?_)
    refine tP 2 (hy := by (intro W hW; obtain ⟨z0, z1⟩ := And.intro (HFC.out W hW) True.intro; clear hW; go_split_ands; go_simp; (try with_reducible rfl))) (h := ?_)
    refine tP 3 (hy := by (intro W hW; obtain ⟨z0, z1⟩ := And.intro (HFC.out W hW) True.intro; clear hW; go_split_ands; go_simp; (try with_reducible rfl))) (h := ?_)
    refine tP 4 (h := ?_)
    refine oQ 5 (h := fun K5 hK5 => ?_)
    go_simp
    refine (HC9.out _ HKX.out HBX.out).mono ?_
    rintro e y5 ⟨r, rfl, hre, hsv, hset⟩
    have HRE := Lib.hid hre
    have HSET := Lib.hid hset
    have HBX := Lib.hid (HBX.out.trans (hsv.below HRR.out.2.2.2.2.2.2.2.2.2.2.2.2.2.2.1 (Nat.le_trans HRR.out.2.2.2.2.2.2.2.2.2.2.2.2.2.2.2 HBX.out.size)))
    refine hK5 _ _ (Fx.save hS hsv HRR.out.2.2.2.2.2.2.2.2.2.2.2.1 HRR.out.2.2.2.2.2.2.1 HRR.out.2.2.2.2.2.2.2.1 HRR.out.2.2.2.2.2.2.2.2.1) (fun hS5 => ?_)
    clear hS hre hsv hset hK5 K5
    refine oQ 6 (h := fun K6 hK6 => ?_)
    go_simp
    refine (mustK_any r 9 n p _ hS5.1).mono ?_
    rintro e y6 ⟨⟨hz, rfl⟩ | ⟨hz, rfl⟩, rfl⟩
    rotate_left
    · exact ⟨rfl, .no (HNO9.out HZ3.out HZ4.out HZ5.out HZ6.out HZ7.out HZ8.out (by first | exact hz | (rw [← HRE.out]; exact hz))) (by decide) HBX.out⟩
    have HZ9 : Hid (c9 = true) := Lib.hid (by first | exact hz | (rw [← HRE.out]; exact hz))
    have HKX := Lib.hid (HSET.out hz)
    clear HSET HRE
    clear hz
    refine hK6 _ _ hS5 (fun hS6 => ?_)
    clear hS5 hK6 K6
    refine wpAnyH_done (by kernel_rfl) ?_ _
    have HFX := Lib.hid hS6
    clear hS6
    obtain ⟨U11, hU11⟩ : ∃ U, U = y5 := ⟨_, rfl⟩
    rw [← hU11] at HFX HKX HBX ⊢
    clear hU11
    go_upto_region 12 with fail
    refine wp_region_held_drew (S := fun Y => Fx p r2 r3 r5 n (cfE x.ver a c) y Y) (by kernel_rfl) (HFX.out.under (show Below U11.heap.size U11 U11.drew from below_drewN (Below.refl _ _) 1)) (fun hS => ?_)
    obtain ⟨Y0, hY0⟩ : ∃ Y, Y = U11.drew := ⟨_, rfl⟩
    rw [← hY0] at hS ⊢
    have HKX := Lib.hid (show KSt _ Y0 _ _ _ _ _ _ _ _ _ _ _ _ _ _ by rw [hY0]; exact HKX.out.drewN 1)
    have HBX : Hid (Below B w Y0) := Lib.hid (by rw [hY0]; exact below_drewN HBX.out 1)
    clear hY0
    refine tP 0 (hy := by (intro W hW; obtain ⟨z0, z1⟩ := And.intro (HFC.out W hW) True.intro; clear hW; go_split_ands; go_simp; (try with_reducible rfl))) (h := ?_)
    refine tP 1 (hy := by (intro W hW; obtain ⟨z0, z1⟩ := And.intro (HFC.out W hW) True.intro; clear hW; go_split_ands; go_simp; (try with_reducible rfl))) (h := ?_)
    refine tP 2 (v := .agg (vec 3 (cfE x.ver a c))) (hy := by (intro W hW; exact exec_load 31 _ rfl r3 rfl _ (run_load_arr (hW.2.2.1) Tryz.underlying31 rfl infoCf))) (h := ?_)
    refine tP 3 (h := ?_)
    refine oQ 4 (h := fun K4 hK4 => ?_)
    go_simp
    refine (HPHY.out _ HBX.out).mono ?_
    rintro e y4 ⟨v, rfl, hov, hd⟩
    obtain ⟨A9, c9v, rfl, -, hrow, -⟩ := hov.form
    have HROW9 := Lib.hid hrow
    have HKX := Lib.hid (HKX.out.under hd)
    have HBX := Lib.hid (HBX.out.trans (hd.mono (Nat.le_trans HRR.out.2.2.2.2.2.2.2.2.2.2.2.2.2.2.2 HBX.out.size)))
    refine hK4 _ _ (Fx.under hS hd) (fun hS4 => ?_)
    clear hS hd hov hrow hK4 K4
    refine oQ 5 (h := fun K5 hK5 => ?_)
    go_simp
    refine (HOWN.out _ _ _ HKX.out HBX.out hS4 HROW9.out).mono ?_
    rintro e y5 ⟨rfl, hk, hfx, hbb⟩
    have HKX := Lib.hid hk
    have HBX := Lib.hid (HBX.out.trans hbb)
    refine hK5 _ _ hfx (fun hS5 => ?_)
    clear hS4 hk hfx hbb hK5 K5
    refine oQ 6 (h := fun K6 hK6 => ?_)
    go_simp
    refine (mustK_any c10 10 n p _ hS5.1).mono ?_
    rintro e y6 ⟨⟨hz, rfl⟩ | ⟨hz, rfl⟩, rfl⟩
    rotate_left
    · exact ⟨rfl, .no (HNO10.out HZ3.out HZ4.out HZ5.out HZ6.out HZ7.out HZ8.out HZ9.out (by first | exact hz | (rw [← HRE.out]; exact hz))) (by decide) HBX.out⟩
    have HZ10 : Hid (c10 = true) := Lib.hid (by first | exact hz | (rw [← HRE.out]; exact hz))
    clear hz
    refine hK6 _ _ hS5 (fun hS6 => ?_)
    clear hS5 hK6 K6
    refine wpAnyH_done (by kernel_rfl) ?_ _
    have HFX := Lib.hid hS6
    clear hS6
    obtain ⟨U12, hU12⟩ : ∃ U, U = y5 := ⟨_, rfl⟩
    rw [← hU12] at HFX HKX HBX ⊢
    clear hU12
    go_wp2_with fail
    go_roundw
    case rel => exact ⟨n + 1, by omega, by go_num, Lib.hid ⟨⟨_, HKX.out.wide (by omega)⟩, HBX.out, HYES.out HZ3.out HZ4.out HZ5.out HZ6.out HZ7.out HZ8.out HZ9.out HZ10.out, HFX.out.2.1, HFX.out.2.2.1⟩⟩
    case measure => simp [intOf]; omega
  · obtain rfl : n = NG := by omega
    go_wp2_with fail
    go_end0
    have hR := HR.out
    rw [HNGH.out] at hR
    obtain ⟨⟨wh, hk⟩, hB, hU, -, -⟩ := hR
    exact .yes hU ⟨wh, _, by have := HORD.out; have := HNGH.out; omega, hk⟩ hB
end Go.Proofs.YtkaipknkjocfiaaGreat
