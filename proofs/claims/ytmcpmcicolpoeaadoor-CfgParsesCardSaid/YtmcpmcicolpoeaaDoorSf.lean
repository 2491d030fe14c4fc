/- slices.EqualFunc at guests; Same. -/
import Derived.Test.YtmcpmcicolpoeaaDoorSg
import Derived.Test.YtmcpmcicolpoeaaDoorCg
namespace Go.Proofs.YtmcpmcicolpoeaaDoor
open Go.RowKit
attribute [local go_sem ↓ high] zeroGu

theorem GRow.one {w : World} {B : Nat} {x : GV} (h : GRow w B x) : GV1 x := by
  obtain ⟨⟨A, c, e, _, _⟩, ⟨A2, c2, e2, _, _⟩, ⟨A3, c3, e3, _, _⟩, ⟨A4, c4, e4, _, _⟩⟩ := h
  exact ⟨by rw [e]; rfl, by rw [e2]; rfl, by rw [e3]; rfl, by rw [e4]; rfl⟩
/-- Guests in a row that can be read. -/
structure GsR (w : World) (B : Nat) (A : Option Addr) (ys : List GV) : Prop where
  row : RowE 79 guestE w B A ys
  all : ∀ y ∈ ys, GRow w B y
theorem GsR.below {w w' : World} {B : Nat} {A : Option Addr} {ys : List GV} (h : GsR w B A ys) (hb : Below B w w') : GsR w' B A ys := ⟨h.row.below hb, fun y hy => (h.all y hy).below hb⟩
theorem GsR.wide {w : World} {B B' : Nat} {A : Option Addr} {ys : List GV} (h : GsR w B A ys) (hb : B ≤ B') : GsR w B' A ys := ⟨h.row.wide hb, fun y hy => (h.all y hy).wide hb⟩
theorem GsR.up {w w' : World} {A : Option Addr} {ys : List GV} (h : GsR w w.heap.size A ys) (hb : Below w.heap.size w w') : GsR w' w'.heap.size A ys := (h.below hb).wide hb.size
def yEq (x y : GV) : Bool := gsEq x.g y.g
theorem eqTo_map (l m : List GV) (k : Nat) : eqTo yEq l m k = eqTo gsEq (l.map GV.g) (m.map GV.g) k := by
  unfold eqTo
  refine congrArg (fun f => (List.range k).all f) (funext fun j => ?_)
  simp only [List.getElem?_map]
  cases l[j]? <;> cases m[j]? <;> rfl
theorem eqL_map (l m : List GV) : eqL yEq l m = eqL gsEq (l.map GV.g) (m.map GV.g) := by
  unfold eqL
  rw [eqTo_map, List.length_map, List.length_map]
set_option maxRecDepth 100000 in
set_option maxHeartbeats 4000000 in
theorem equalFunc_any (l m : List GV) (A B : Option Addr) (c d : Nat) (w : World) (hl : l.length ≤ 9223372036854775807) (h1 : GsR w w.heap.size A l) (h2 : GsR w w.heap.size B m) :
    Calls Tryd.prog 34 #[.slice A l.length c, .slice B m.length d, .func (.func 35) #[] #[]] w (EqV (eqL yEq l m) w) := by
  by_cases hlen : l.length = m.length
  case neg =>
    rw [eqL_len hlen]
    have d1 : ((l.length : Int) != (m.length : Int)) = true := bne_iff_ne.2 (by omega)
    have d2 : ¬ (l.length : Int) = (m.length : Int) := by omega
    unfold EqV
    clear hlen h1 h2
    go_enter Tryd.func34, Tryd.ntmps34
    go_wp2
    go_ret
    exact ⟨rfl, Below.refl _ _⟩
  have HE := Lib.hid (eqL_all (f := yEq) hlen)
  have HNO := Lib.hid (fun k (h : eqTo yEq l m k = false) (hk : k ≤ l.length) => eqL_no h hk)
  have HL := Lib.hid hlen
  have H1 := Lib.hid h1
  have H2 := Lib.hid h2
  obtain ⟨rr, hrr⟩ : ∃ rr, rr = eqL yEq l m := ⟨_, rfl⟩
  rw [← hrr] at HE HNO ⊢
  rw [← hlen]
  obtain ⟨N, hN⟩ : ∃ N, N = l.length := ⟨_, rfl⟩
  rw [← hN] at hl HE ⊢
  have HNL := Lib.hid hN
  have HNO := Lib.hid (fun k (h : eqTo yEq l m k = false) (hk : k ≤ N) => HNO.out k h (by omega))
  clear h1 h2 hrr hlen hN
  unfold EqV
  go_enter Tryd.func34, Tryd.ntmps34
  go_wp2
  go_loopw [7, 8, 9, 17] (fun _ _ _ v W => ∃ k : Nat, k ≤ N ∧ v = .int .i64 k ∧ Hid (eqTo yEq l m k = true) ∧ Hid (Below w.heap.size w W)) (fun _ _ _ i _ => N - (intOf i).toNat)
  case atStart => exact ⟨0, Nat.zero_le _, rfl, Lib.hid rfl, Lib.hid (Below.refl _ _)⟩
  case round =>
    obtain ⟨k, hk, rfl, HP0, HB⟩ := hrel
    by_cases hlt0 : k < N
    · have hlt : k < l.length := by have := HNL.out; omega
      have hltm : k < m.length := by have := HL.out; omega
      obtain ⟨W, hW⟩ : ∃ W : World, W = wr := ⟨_, rfl⟩
      subst hW
      have g1 := H1.out.up HB.out
      have g2 := H2.out.up HB.out
      obtain ⟨a, p, rfl, hp, hpb, hcp⟩ := g1.row.at hlt
      obtain ⟨a', q, rfl, hq, hqb, hcq⟩ := g2.row.at hltm
      obtain ⟨x, hx⟩ : ∃ x, x = l[k] := ⟨_, rfl⟩
      obtain ⟨y, hy⟩ : ∃ y, y = m[k] := ⟨_, rfl⟩
      have hs := eqTo_succ yEq l m k hlt hltm
      rw [HP0.out, Bool.true_and, ← hx, ← hy] at hs
      rw [← hx] at hcp
      rw [← hy] at hcq
      have rx : GRow W W.heap.size x := by rw [hx]; exact g1.all _ (List.getElem_mem _)
      have ry : GRow W W.heap.size y := by rw [hy]; exact g2.all _ (List.getElem_mem _)
      obtain ⟨X1, hX1⟩ : ∃ X, X = (W.alloc (.cells (vec 79 (guestE zGV)) 64)).setRow W.heap.size (vec 79 (guestE x)) := ⟨_, rfl⟩
      have b1 : Below W.heap.size W X1 := by rw [hX1]; exact below_row ((Below.refl _ _).alloc (Nat.le_refl _) _) (Nat.le_refl _) _
      have a1 : Arr X1 W.heap.size 64 79 (guestE x) := by rw [hX1]; exact (Arr.new W _ _ _).row _
      obtain ⟨X2, hX2⟩ : ∃ X, X = (X1.alloc (.cells (vec 79 (guestE zGV)) 64)).setRow X1.heap.size (vec 79 (guestE y)) := ⟨_, rfl⟩
      have b2 : Below X1.heap.size X1 X2 := by rw [hX2]; exact below_row ((Below.refl _ _).alloc (Nat.le_refl _) _) (Nat.le_refl _) _
      have a2 : Arr X2 X1.heap.size 64 79 (guestE y) := by rw [hX2]; exact (Arr.new X1 _ _ _).row _
      have b12 : Below W.heap.size W X2 := b1.trans (b2.mono b1.size)
      obtain ⟨e1, he1⟩ : ∃ e, e = W.heap.size := ⟨_, rfl⟩
      obtain ⟨e2, he2⟩ : ∃ e, e = X1.heap.size := ⟨_, rfl⟩
      have HP := Lib.hid (And.intro hcp (And.intro (fun i hi => (b1.cell (by rw [addr_add_block]; exact hqb)).trans (hcq i hi)) (And.intro rx.one ry.one)))
      have HA : Hid (Arr X2 e1 64 79 (guestE x) ∧ Arr X2 e2 64 79 (guestE y)) := Lib.hid ⟨by rw [he1]; exact a1.under b2, by rw [he2]; exact a2⟩
      have HX1 := Lib.hid hX1
      have HX2 := Lib.hid hX2
      have HE1 := Lib.hid he1
      have HE2 := Lib.hid he2
      have HC := Lib.hid (sameGuest_any x y X2 ((rx.below b12).wide b12.size) ((ry.below b12).wide b12.size))
      have HB2 := Lib.hid (HB.out.trans (b12.mono HB.out.size))
      have hki : (k : Int) < (N : Int) := by omega
      obtain ⟨b, hb⟩ : ∃ b, b = yEq x y := ⟨_, rfl⟩
      rw [← hb] at hs
      rw [show gsEq x.g y.g = b from hb.symm] at HC
      have HN := Lib.hid (fun (h : b = false) => HNO.out (k + 1) (by rw [hs, h]) (by omega))
      have HS := Lib.hid hs
      clear g1 g2 hpb hqb hcp hcq rx ry hX1 hX2 b1 b2 b12 a1 a2 he1 he2 hx hy hltm hlt hb hs
      go_upto_region 6 with (first
        | ((with_reducible show wpList _ _ _ (Oper.mk _ (.load _ _) _ _ _ _ :: _) _ _); refine wl_load_q rfl 64 _ rfl p rfl _ (run_load_q HP.out.1 Tryd.underlying64 rfl infoGu) ?_)
        | ((with_reducible show wpList _ _ _ (Oper.mk _ (.store _ _ _) _ _ _ _ :: _) _ _); refine wl_store rfl 64 _ _ rfl _ rfl _ rfl (run_store_arr (Arr.new W _ _ _) (guestE x) infoGu (guestE_one _ HP.out.2.2.1 _)) ?_))
      rw [← HX1.out, ← HE1.out]
      clear HX1 HE1
      go_upto_region 7 with (first
        | ((with_reducible show wpList _ _ _ (Oper.mk _ (.load _ _) _ _ _ _ :: _) _ _); refine wl_load_q rfl 64 _ rfl q rfl _ (run_load_q HP.out.2.1 Tryd.underlying64 rfl infoGu) ?_)
        | ((with_reducible show wpList _ _ _ (Oper.mk _ (.store _ _ _) _ _ _ _ :: _) _ _); refine wl_store rfl 64 _ _ rfl _ rfl _ rfl (run_store_arr (Arr.new X1 _ _ _) (guestE y) infoGu (guestE_one _ HP.out.2.2.2 _)) ?_))
      rw [← HX2.out, ← HE2.out]
      clear HX2 HE2
      cases b
      · have HN2 := Lib.hid (HN.out rfl)
        clear HN
        go_wp2_with (first
          | ((with_reducible show wpList _ _ _ (Oper.mk _ (.load _ (.tmp 8)) _ _ _ _ :: _) _ _); refine wl_load rfl 64 _ rfl _ rfl _ (run_load_arr HA.out.1 Tryd.underlying64 rfl infoGu) ?_)
          | ((with_reducible show wpList _ _ _ (Oper.mk _ (.load _ (.tmp 9)) _ _ _ _ :: _) _ _); refine wl_load rfl 64 _ rfl _ rfl _ (run_load_arr HA.out.2 Tryd.underlying64 rfl infoGu) ?_)
          | (go_at_call 35; refine HC.out.mono ?_; rintro e w1 ⟨rfl, hd⟩; have HD := Lib.hid hd; clear hd))
        go_ret
        exact ⟨by rw [HN2.out]; rfl, HB2.out.trans (HD.out.mono HB2.out.size)⟩
      · go_wp2_with (first
          | ((with_reducible show wpList _ _ _ (Oper.mk _ (.load _ (.tmp 8)) _ _ _ _ :: _) _ _); refine wl_load rfl 64 _ rfl _ rfl _ (run_load_arr HA.out.1 Tryd.underlying64 rfl infoGu) ?_)
          | ((with_reducible show wpList _ _ _ (Oper.mk _ (.load _ (.tmp 9)) _ _ _ _ :: _) _ _); refine wl_load rfl 64 _ rfl _ rfl _ (run_load_arr HA.out.2 Tryd.underlying64 rfl infoGu) ?_)
          | (go_at_call 35; refine HC.out.mono ?_; rintro e w1 ⟨rfl, hd⟩; have HD := Lib.hid hd; clear hd))
        go_roundw
        case rel => exact ⟨k + 1, by omega, by go_num, HS, Lib.hid (HB2.out.trans (HD.out.mono HB2.out.size))⟩
        case measure => simp [intOf]; omega
    · obtain rfl : k = N := by omega
      have HR : Hid (rr = true) := Lib.hid (by rw [HE.out, HP0.out])
      clear hlt0
      go_wp2_with fail
      go_ret
      exact ⟨by rw [HR.out]; rfl, HB.out⟩
/-- A configuration that can be read. -/
structure CfR (w : World) (B : Nat) (x : Cf) (a c : Value) : Prop where
  gs : ∃ A d ys, a = .slice A x.gs.length d ∧ ys.map GV.g = x.gs ∧ GsR w B A ys ∧ x.gs.length ≤ 9223372036854775807
  chs : ∃ A d, c = .slice A x.chs.length d ∧ RowE 8 chE w B A x.chs ∧ x.chs.length ≤ 9223372036854775807
theorem CfR.below {w w' : World} {B : Nat} {x : Cf} {a c : Value} (h : CfR w B x a c) (hb : Below B w w') : CfR w' B x a c := by
  obtain ⟨⟨A, d, ys, e, hm, hr, hl⟩, ⟨A2, d2, e2, hr2, hl2⟩⟩ := h
  exact ⟨⟨A, d, ys, e, hm, hr.below hb, hl⟩, ⟨A2, d2, e2, hr2.below hb, hl2⟩⟩
theorem CfR.wide {w : World} {B B' : Nat} {x : Cf} {a c : Value} (h : CfR w B x a c) (hb : B ≤ B') : CfR w B' x a c := by
  obtain ⟨⟨A, d, ys, e, hm, hr, hl⟩, ⟨A2, d2, e2, hr2, hl2⟩⟩ := h
  exact ⟨⟨A, d, ys, e, hm, hr.wide hb, hl⟩, ⟨A2, d2, e2, hr2.wide hb, hl2⟩⟩
theorem CfR.up {w w' : World} {x : Cf} {a c : Value} (h : CfR w w.heap.size x a c) (hb : Below w.heap.size w w') : CfR w' w'.heap.size x a c := (h.below hb).wide hb.size
def cfEq (x y : Cf) : Bool := x.ver == y.ver && (eqL gsEq x.gs y.gs && eqL chEq x.chs y.chs)
theorem cfEq_self (x : Cf) : cfEq x x = true := by simp [cfEq, eqL_self gsEq_self, eqL_self chEq_self]
def cfVal (x : Cf) (a c : Value) : Value := .agg (vec 3 (cfE x.ver a c))
theorem cf_cells {w : World} {g : Nat} {t : TypeId} {x : Cf} {a c : Value} (h : Arr w g t 3 (cfE x.ver a c)) : w.cell? ⟨g, 0, none⟩ = some (.int .u32 x.ver) ∧ w.cell? ⟨g, 1, none⟩ = some a ∧ w.cell? ⟨g, 2, none⟩ = some c := ⟨h.cell (i := 0) (by decide), h.cell (i := 1) (by decide), h.cell (i := 2) (by decide)⟩
set_option maxRecDepth 100000 in
set_option maxHeartbeats 4000000 in
theorem same_any (x y : Cf) (a c a' c' : Value) (w : World) (hx : CfR w w.heap.size x a c) (hy : CfR w w.heap.size y a' c') : Calls Tryd.prog 16 #[cfVal x a c, cfVal y a' c'] w (EqV (cfEq x y) w) := by
  obtain ⟨V, hV⟩ : ∃ V, V = (w.alloc (.cells (vec 3 (cfE x.ver a c)) 28)).alloc (.cells (vec 3 (cfE y.ver a' c')) 28) := ⟨_, rfl⟩
  have k1 : Arr V w.heap.size 28 3 (cfE x.ver a c) := by rw [hV]; exact (Arr.new w _ _ _).alloc _
  have k2 : Arr V (w.heap.size + 1) 28 3 (cfE y.ver a' c') := by rw [hV]; exact Arr.newAt _ _ _ _ (by simp)
  have hB : Below w.heap.size w V := by rw [hV]; exact ((Below.refl _ _).alloc (by simp <;> omega) _).alloc (by simp <;> omega) _
  obtain ⟨x0, x1, x2⟩ := cf_cells k1
  obtain ⟨y0, y1, y2⟩ := cf_cells k2
  obtain ⟨⟨A, d, ys, rfl, hm, hr, hl⟩, ⟨A2, d2, rfl, hr2, hl2⟩⟩ := hx.up hB
  obtain ⟨⟨B, e, zs, rfl, hm', hr', hl'⟩, ⟨B2, e2, rfl, hr2', hl2'⟩⟩ := hy.up hB
  have hlen : ys.length = x.gs.length := by rw [← hm, List.length_map]
  have hlen' : zs.length = y.gs.length := by rw [← hm', List.length_map]
  have hq := equalFunc_any ys zs A B d e V (by rw [hlen]; exact hl) hr hr'
  rw [eqL_map, hm, hm', hlen, hlen'] at hq
  have HQ := Lib.hid hq
  have HC := Lib.hid (fun (W : World) (hb : Below V.heap.size V W) => equal_ch x.chs y.chs A2 B2 d2 e2 W hl2 (hr2.up hb) (hr2'.up hb))
  have HK := Lib.hid (And.intro k1 (And.intro k2 hB))
  have HW := Lib.hid hV
  unfold cfEq EqV cfVal
  obtain ⟨q1, hq1⟩ : ∃ q, q = eqL gsEq x.gs y.gs := ⟨_, rfl⟩
  obtain ⟨q2, hq2⟩ : ∃ q, q = eqL chEq x.chs y.chs := ⟨_, rfl⟩
  rw [← hq1] at HQ ⊢
  rw [← hq2] at HC ⊢
  have hc := and3 (x.ver == y.ver) q1 q2
  clear hV k1 k2 hB hq hq1 hq2 hr hr' hr2 hr2' hx hy hm hm'
  go_enter Tryd.func16, Tryd.ntmps16
  go_upto_region 1 with fail
  rw [← HW.out]
  clear HW
  rcases hc with ⟨e1, e⟩ | ⟨e1, e2, e⟩ | ⟨e1, e2, e3, e⟩ | ⟨e1, e2, e3, e⟩
  all_goals (have HEE := Lib.hid e; clear e)
  · go_wp2_with fail
    go_ret
    exact ⟨by rw [HEE.out]; rfl, HK.out.2.2⟩
  · subst e2
    go_wp2_with (go_at_call 34; refine HQ.out.mono ?_; rintro e w1 ⟨rfl, hd⟩; have HD := Lib.hid hd; clear hd)
    go_ret
    exact ⟨by rw [HEE.out]; rfl, HK.out.2.2.trans (HD.out.mono HK.out.2.2.size)⟩
  all_goals
    subst e2
    subst e3
    go_wp2_with (first
      | (go_at_call 34; refine HQ.out.mono ?_; rintro e w1 ⟨rfl, hd⟩
         have x2 : w1.cell? ⟨w.heap.size, 2, none⟩ = some (.slice A2 x.chs.length d2) := (HK.out.1.under hd).cell (i := 2) (by decide)
         have y2 : w1.cell? ⟨w.heap.size + 1, 2, none⟩ = some (.slice B2 y.chs.length e2) := (HK.out.2.1.under hd).cell (i := 2) (by decide)
         have HD := Lib.hid hd; clear hd)
      | (go_at_call 36; refine (HC.out _ HD.out).mono ?_; rintro e w2 ⟨rfl, n, rfl⟩))
    go_ret
    exact ⟨by rw [HEE.out]; rfl, below_drewN (HK.out.2.2.trans (HD.out.mono HK.out.2.2.size)) n⟩
end Go.Proofs.YtmcpmcicolpoeaaDoor
