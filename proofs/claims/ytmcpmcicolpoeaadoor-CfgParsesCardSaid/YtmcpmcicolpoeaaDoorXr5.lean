/- The reference's Parse. -/
import Derived.Test.YtmcpmcicolpoeaaDoorXr4
import Derived.Test.YtmcpmcicolpoeaaDoorMg
namespace Go.Proofs.YtmcpmcicolpoeaaDoor
open Go.RowKit
attribute [local go_sem ↓ high] zeroCf zeroCh zeroEn builtin_appS

set_option maxRecDepth 100000 in
theorem results_ctt {fn : Func} {p q r : Tmp} {ty : TypeId} {P : Program} {w : World} (h : fn.results = #[.cell p ty, .tmp q, .tmp r]) (tmps : Array Value) (g : Nat) (v : Value)
    (ha : tmps.getD p undef = .pointer (some ⟨g, 0, none⟩)) (hl : (loadVar ty ⟨g, 0, none⟩).run P w = .ok v w) : (results fn tmps).run P w = .ok (.tuple #[v, tmps.getD q undef, tmps.getD r undef]) w := by
  have hp' : tmps[p]?.getD undef = .pointer (some ⟨g, 0, none⟩) := by simpa using ha
  simp [results, h, hp', asAddr, hl]
/-- A configuration that is being read, in block q; the result's block r. -/
structure PS (w : World) (g : Nat) (A : Option Addr) (c : Nat) (b : By) (r q : Nat) (ver : Int) (W : World) (s : Rs) (x y : Value) : Prop where
  rq : RQ W g A c b s
  box : Arr W q 28 3 (cfE ver x y)
  res : Arr W r 28 3 (cfE 0 nilV nilV)
  bel : Below w.heap.size w W
  wr : w.heap.size = r
  rg : r < g
  gq : g < q
section
variable {w W W' : World} {g c r q : Nat} {A : Option Addr} {b : By} {ver : Int} {s s' : Rs} {x y x' y' : Value}
set_option maxRecDepth 100000 in
theorem PS.call (h : PS w g A c b r q ver W s x y) (hr : RQ W' g A c b s') (hs : Save g W W') : PS w g A c b r q ver W' s' x y :=
  ⟨hr, h.box.save hs (by have := h.gq; omega), h.res.save hs (by have := h.rg; omega), h.bel.trans (hs.below (by have := h.wr; have := h.rg; omega) h.bel.size), h.wr, h.rg, h.gq⟩
set_option maxRecDepth 100000 in
theorem PS.on (h : PS w g A c b r q ver W s x y) (hb : Below W.heap.size W W') : PS w g A c b r q ver W' s x y := ⟨h.rq.under hb, h.box.under hb, h.res.under hb, h.bel.trans (hb.mono h.bel.size), h.wr, h.rg, h.gq⟩
theorem PS.deep (h : PS w g A c b r q ver W s x y) (hb : Below (q + 1) W W') : PS w g A c b r q ver W' s x y := by
  have h1 := h.gq
  have h2 := h.rg
  have h3 := h.wr
  exact ⟨⟨h.rq.arr.below hb (by omega), h.rq.lies.below (hb.mono (by omega)), h.rq.cap, h.rq.len, h.rq.at_, h.rq.err⟩, h.box.below hb (by omega), h.res.below hb (by omega), h.bel.trans (hb.mono (by omega)), h.wr, h.rg, h.gq⟩
set_option maxRecDepth 100000 in
theorem PS.set (h : PS w g A c b r q ver W s x y) (i : Nat) (v : Value) (hy : ∀ j, j < 3 → upd (cfE ver x y) i v j = cfE ver x' y' j) : PS w g A c b r q ver (W.setCell ⟨q, i, none⟩ v) s x' y' := by
  have hs : Save q W (W.setCell ⟨q, i, none⟩ v) := (Save.refl _ _).setCell i _
  have h1 := h.gq
  have h2 := h.rg
  have h3 := h.wr
  exact ⟨h.rq.save hs h1, (h.box.set i v).congr hy, h.res.save hs (by omega), h.bel.trans (hs.below (by omega) h.bel.size), h.wr, h.rg, h.gq⟩
set_option maxRecDepth 100000 in
theorem PS.cells (h : PS w g A c b r q ver W s x y) : (W.cell? ⟨q, 1, none⟩ = some x ∧ W.cell? ⟨q, 2, none⟩ = some y) ∧ W.frozen? ⟨q, 1, none⟩ = false ∧ W.frozen? ⟨q, 2, none⟩ = false := ⟨⟨h.box.cell (i := 1) (by decide), h.box.cell (i := 2) (by decide)⟩, h.box.frozen 1, h.box.frozen 2⟩
end
set_option maxRecDepth 100000 in
theorem guestsV.ft {base g u : Nat} {w w' : World} {l : List Gs} {v : Value} (h : guestsV base w l v) (k : FT g u w w') (hg : g < base) (hu : u < base) : guestsV base w' l v := by
  obtain ⟨ys, h1, h2, h3, h4⟩ := h
  exact ⟨ys, h1, h2, h3.ft k hg hu, fun y hy => ⟨⟨(h4 y hy).1.wi.ft k hg hu, (h4 y hy).1.de.ft k hg hu, (h4 y hy).1.ir.ft k hg hu, (h4 y hy).1.st.ft k hg hu⟩, (h4 y hy).2⟩⟩
set_option maxRecDepth 100000 in
theorem upd_cf1 (ver : Int) (x y v : Value) : ∀ j, j < 3 → upd (cfE ver x y) 1 v j = cfE ver v y j := by
  intro j hj
  rcases (by omega : j = 0 ∨ j = 1 ∨ j = 2) with rfl | rfl | rfl <;> rfl
set_option maxRecDepth 100000 in
theorem upd_cf2 (ver : Int) (x y v : Value) : ∀ j, j < 3 → upd (cfE ver x y) 2 v j = cfE ver x v j := by
  intro j hj
  rcases (by omega : j = 0 ∨ j = 1 ∨ j = 2) with rfl | rfl | rfl <;> rfl
set_option maxRecDepth 100000 in
theorem spl_a (p s : Int) (a b e : En) : ∀ j, j < 8 → spl 2 3 (endE e) (chE ⟨p, s, a, b⟩) j = chE ⟨p, s, e, b⟩ j := by
  intro j hj
  rcases (by omega : j = 0 ∨ j = 1 ∨ j = 2 ∨ j = 3 ∨ j = 4 ∨ j = 5 ∨ j = 6 ∨ j = 7) with rfl | rfl | rfl | rfl | rfl | rfl | rfl | rfl <;> rfl
set_option maxRecDepth 100000 in
theorem spl_b (p s : Int) (a b e : En) : ∀ j, j < 8 → spl 5 3 (endE e) (chE ⟨p, s, a, b⟩) j = chE ⟨p, s, a, e⟩ j := by
  intro j hj
  rcases (by omega : j = 0 ∨ j = 1 ∨ j = 2 ∨ j = 3 ∨ j = 4 ∨ j = 5 ∨ j = 6 ∨ j = 7) with rfl | rfl | rfl | rfl | rfl | rfl | rfl | rfl <;> rfl
set_option maxRecDepth 100000 in
theorem step_cf {b : By} {st s1 s2 s3 s4 s5 s6 s7 s8 : Rs} {n1 n2 : Int} {n3 n4 : Nat} {n5 n6 : Int} {l : List Gs} {m : List Ch} (h1 : StepP (fld 4 1111705159 1111705159 140) b st n1 s1) (h2 : StepP (fld 2 1 1 144) b s1 n2 s2) (h3 : StepP (fld 2 1 16 142) b s2 (n3 : Int) s3) (h4 : StepP (fld 2 0 32 142) b s3 (n4 : Int) s4) (h5 : StepP (fld 2 0 0 144) b s4 n5 s5) (h6 : StepP u32C b s5 n6 s6)
    (k1 : StepP (listC (guestC kOk) n3) b s6 l s7) (k2 : StepP (listC chC n4) b s7 m s8) : StepP (cfC kOk) b st ⟨n6, l, m⟩ s8 := by
  unfold cfC
  have hh : StepP headC b st (n1, n2, (n3 : Int), (n4 : Int), n5, n6) s6 := StepP.dep (d := fun _ => (fld 2 1 1 144).dep fun _ => (fld 2 1 16 142).dep fun _ => (fld 2 0 32 142).dep fun _ => (fld 2 0 0 144).dep fun _ => u32C) h1 (StepP.dep (d := fun _ => (fld 2 1 16 142).dep fun _ => (fld 2 0 32 142).dep fun _ => (fld 2 0 0 144).dep fun _ => u32C) h2
    (StepP.dep (d := fun _ => (fld 2 0 32 142).dep fun _ => (fld 2 0 0 144).dep fun _ => u32C) h3 (StepP.dep (d := fun _ => (fld 2 0 0 144).dep fun _ => u32C) h4 (StepP.dep (d := fun _ => u32C) h5 h6))))
  exact StepP.map (f := fun x : (Int × Int × Int × Int × Int × Int) × List Gs × List Ch => (⟨x.1.2.2.2.2.2, x.2.1, x.2.2⟩ : Cf)) (StepP.dep (d := fun h => (listC (guestC kOk) h.2.2.1.toNat).dep fun _ => listC chC h.2.2.2.1.toNat) hh (StepP.dep (c := listC (guestC kOk) n3) (d := fun _ => listC chC n4) k1 k2))
/-- The first i ends were read. -/
def EndP (b : By) (s0 : Rs) (i : Nat) (e1 e2 : En) (s : Rs) : Prop := match i with
  | 0 => s = s0
  | 1 => StepP endC b s0 e1 s
  | _ => ∃ sm, StepP endC b s0 e1 sm ∧ StepP endC b sm e2 s
/-- What is left behind the reading. -/
def endR (b : By) (s : Rs) : Rs := if s.err = none ∧ s.at_ < b.length then s.fail 145 s.at_ else s
set_option maxRecDepth 100000 in
theorem getC_is {b : By} (hb : b.length ≤ 65536) : getC kOk b = match (cfC kOk).get b 0 with
    | .ok (c, q) => if q < b.length then .error (145, q) else .ok c
    | .error e => .error e := by
  unfold getC
  rw [if_neg (by omega)]
  cases (cfC kOk).get b 0 with
  | ok x => rfl
  | error e => rfl
set_option maxRecDepth 100000 in
theorem getC_endN {b : By} {x : Cf} {s : Rs} (hb : b.length ≤ 65536) (h : StepP (cfC kOk) b ⟨0, none⟩ x s) (hn : (endR b s).err = none) : getC kOk b = .ok x := by
  unfold endR at hn
  cases he : s.err with
  | some e =>
    rw [if_neg (by rw [he]; simp), he] at hn
    cases hn
  | none =>
    obtain ⟨_, hg⟩ := h.on he
    by_cases hl : s.at_ < b.length
    · rw [if_pos ⟨he, hl⟩, Rs.fail_none _ _ he] at hn
      cases hn
    · rw [getC_is hb, hg]
      exact if_neg hl
set_option maxRecDepth 100000 in
theorem getC_endS {b : By} {x : Cf} {s : Rs} {e : Nat × Nat} (hb : b.length ≤ 65536) (h : StepP (cfC kOk) b ⟨0, none⟩ x s) (hn : (endR b s).err = some e) : getC kOk b = .error e := by
  unfold endR at hn
  cases he : s.err with
  | some e' =>
    rw [if_neg (by rw [he]; simp), he] at hn
    cases hn
    rw [getC_is hb, h.fails rfl he]
  | none =>
    obtain ⟨_, hg⟩ := h.on he
    by_cases hl : s.at_ < b.length
    · rw [if_pos ⟨he, hl⟩, Rs.fail_none _ _ he] at hn
      cases hn
      rw [getC_is hb, hg]
      exact if_pos hl
    · rw [if_neg (by rintro ⟨_, h2⟩; exact hl h2), he] at hn
      cases hn
set_option maxHeartbeats 32000000 in
set_option maxRecDepth 100000 in
theorem rparse14_any (A : Option Addr) (c : Nat) (b : By) (w : World) (hbc : b.length ≤ c) (hl : Lies w w.heap.size 1 A b.length (u8s b)) : Calls Tryd.prog 9 #[.slice A b.length c] w (ParseP b w) := by
  obtain ⟨V0, hV0⟩ : ∃ V, V = w.alloc (.cells (vec 3 (cfE 0 nilV nilV)) 28) := ⟨_, rfl⟩
  have hB : Below w.heap.size w V0 := by rw [hV0]; exact (Below.refl _ _).alloc (Nat.le_refl _) _
  have hR0 : Arr V0 w.heap.size 28 3 (cfE 0 nilV nilV) := by rw [hV0]; exact Arr.new w _ _ _
  obtain ⟨r, hr⟩ : ∃ r, r = w.heap.size := ⟨_, rfl⟩
  rw [← hr] at hR0
  obtain ⟨N, hN⟩ : ∃ N, N = b.length := ⟨_, rfl⟩
  obtain ⟨Q, hQ⟩ : ∃ Q, Q = ParseP b w := ⟨_, rfl⟩
  have HQE : Hid (∀ (er pl : Nat) (W' : World), getC kOk b = .error (er, pl) → Below w.heap.size w W' → Q (.returned (.tuple #[.agg (vec 3 (cfE 0 nilV nilV)), .int .i64 (pl : Int), .int .i64 (er : Int)])) W') := Lib.hid (fun er pl W' h1 h2 => by rw [hQ]; unfold ParseP; rw [h1]; exact ⟨rfl, h2⟩)
  have HQO : Hid (∀ (x : Cf) (v : Value) (W' : World), getC kOk b = .ok x → cfgV w.heap.size W' x v → Below w.heap.size w W' → Q (.returned (.tuple #[v, .int .i64 0, .int .i64 0])) W') := Lib.hid (fun x v W' h1 h2 h3 => by rw [hQ]; unfold ParseP; rw [h1]; exact ⟨v, rfl, h2, h3⟩)
  rw [← hQ, ← hN]
  have HW0 := Lib.hid hV0
  have HR := Lib.hid hr
  have HB := Lib.hid hB
  have HRA := Lib.hid hR0
  by_cases hlong : 65536 < N
  · have z0 : decide ((65536 : Int) < (N : Int)) = true := decide_eq_true (by omega)
    have z1 : decide (65536 < N) = true := decide_eq_true hlong
    have HE : Hid (getC kOk b = .error (2, 0)) := Lib.hid (by unfold getC; rw [if_pos (by omega)])
    clear hV0 hB hR0 hr hN hQ hbc hl hlong
    go_enter Tryd.func9, Tryd.ntmps9
    go_upto_region 1 with fail
    rw [← HW0.out, ← HR.out]
    go_wp2_with (first
      | ((with_reducible show wpList _ _ _ (Oper.mk _ (.build _ _) _ _ _ _ :: _) _ _); refine wl_build rfl 28 _ rfl (vec 3 (cfE 0 nilV nilV)) (by kernel_rfl) ?_)
      | ((with_reducible show wpList _ _ _ (Oper.mk _ (.store _ _ _) _ _ _ _ :: _) _ _); refine wl_store rfl 28 _ _ rfl _ rfl _ rfl (run_store_arr HRA.out (cfE 0 nilV nilV) infoCf (cfE_one _ _ _ rfl rfl _)) ?_))
    exact bodyPost_ret (results_ctt rfl _ _ _ rfl (run_load_arr (HRA.out.row _) Tryd.underlying28 rfl infoCf)) rfl (by exact HQE.out 2 0 _ HE.out (below_row HB.out (by have := HR.out; omega) _))
  have z0 : decide ((65536 : Int) < (N : Int)) = false := decide_eq_false (by omega)
  have z1 : decide (65536 < N) = false := decide_eq_false hlong
  have HLEN : Hid (b.length ≤ 65536) := Lib.hid (by omega)
  obtain ⟨g, hg⟩ : ∃ g, g = V0.heap.size := ⟨_, rfl⟩
  obtain ⟨V1, hV1⟩ : ∃ V, V = V0.alloc (.cells #[.slice A N c, .int .i64 0, .int .i64 0, .int .i64 0] 54) := ⟨_, rfl⟩
  have hB1 : Below V0.heap.size V0 V1 := by rw [hV1]; exact (Below.refl _ _).alloc (Nat.le_refl _) _
  have hA1 : Arr V1 g 54 4 (rdF A N c 0 0 0) := by rw [hV1, hg]; exact Arr.new' V0 54 4 (rdF A N c 0 0 0) _ rfl
  have HRQ : Hid (RQ V1 g A c b ⟨0, none⟩) := Lib.hid ⟨by rw [← hN]; exact hA1, by rw [hg]; exact ((hl.below hB).wide hB.size).below hB1, hbc, by omega, Nat.zero_le _, fun x hx => by cases hx⟩
  have HSP : Hid ((Arr V1 r 28 3 (cfE 0 nilV nilV) ∧ Below w.heap.size w V1) ∧ r < g ∧ w.heap.size = r) := Lib.hid ⟨⟨hR0.under hB1, hB.trans (hB1.mono hB.size)⟩, by rw [hg]; exact hR0.lt, hr.symm⟩
  have HV1 := Lib.hid hV1
  have HGG := Lib.hid hg
  have HNB := Lib.hid hN
  clear hV0 hB hR0 hr hN hQ hbc hl hlong hg hV1 hB1 hA1
  go_enter Tryd.func9, Tryd.ntmps9
  go_upto_region 1 with fail
  rw [← HW0.out, ← HR.out]
  go_upto_region 4 with fail
  rw [← HV1.out, ← HGG.out]
  clear HW0 HV1 HGG z0 z1 HRA HB
  have HSV : Hid (Save g V1 V1) := Lib.hid (Save.refl _ _)
  go_upto_if 22 with (go_at_call 21; refine (rnum_any 4 4294967295 144 (by decide) (by decide) (by decide) HRQ.out).mono ?_; rintro x w1 ⟨n1, t1, rfl, hn, hst, hr, hsv⟩; replace HRQ := Lib.hid hr; have HT1 := Lib.hid hst; have HSV := Lib.hid (HSV.out.trans hsv); have HNN1 := Lib.hid hn; clear hn hst hr hsv; obtain ⟨nb1, hnb0⟩ : ∃ x, x = ((n1 : Int) != 1111705159) := ⟨_, rfl⟩; have hnb1 := hnb0.symm; clear hnb0)
  have HTI1 := Lib.hid (HT1.out.tight (lo' := 1111705159) (hi' := 1111705159) (e' := 140) (pl := 0) (by omega) (by omega) (Or.inr ⟨rfl, by decide⟩) (fun _ => rfl))
  go_cut [] from 23 to 24 (fun wx => ∃ s : Rs, Hid (RQ wx g A c b s ∧ Save g V1 wx ∧ StepP (fld 4 1111705159 1111705159 140) b ⟨0, none⟩ (n1 : Int) s))
  case first =>
    cases nb1
    · have HK := Lib.hid (show n1 = 1111705159 from by have h : (n1 : Int) = 1111705159 := bne_eq_false_iff_eq.1 hnb1; omega)
      clear hnb1
      go_wp2_with fail
      go_meet
      exact ⟨_, Lib.hid ⟨HRQ.out, HSV.out, by have h := HTI1.out; rw [if_pos (by have := HK.out; omega)] at h; exact h⟩⟩
    · have HK := Lib.hid (show ¬ n1 = 1111705159 from by have h : (n1 : Int) ≠ 1111705159 := bne_iff_ne.1 hnb1; omega)
      have HF := Lib.hid (rfail_any 140 0 (by decide) HRQ.out)
      clear hnb1
      go_wp2_with (go_at_call 22; refine HF.out.mono ?_; rintro x wf ⟨rfl, hr, hsv⟩; have HR2 := Lib.hid (And.intro hr (HSV.out.trans hsv)); clear hr hsv)
      go_meet
      exact ⟨_, Lib.hid ⟨HR2.out.1, HR2.out.2, by have h := HTI1.out; rw [if_neg (by have := HK.out; omega)] at h; exact h⟩⟩
  obtain ⟨s1, HH⟩ := hcut
  obtain ⟨x1, hwx⟩ : ∃ W : World, W = wc := ⟨_, rfl⟩
  subst hwx
  have HRQ := Lib.hid HH.out.1
  have HSV := Lib.hid HH.out.2.1
  have HS1 := Lib.hid HH.out.2.2
  clear HH hnb1
  have HA1 : Hid (s1.err = none → s1.at_ = 4) := Lib.hid (fun h => by have := HS1.out.fldAt h; simpa using this)
  go_upto_if 27 with (go_at_call 21; refine (rnum_any 2 65535 144 (by decide) (by decide) (by decide) HRQ.out).mono ?_; rintro x w2 ⟨n2, t2, rfl, hn, hst, hr, hsv⟩; replace HRQ := Lib.hid hr; have HT2 := Lib.hid hst; have HSV := Lib.hid (HSV.out.trans hsv); have HNN2 := Lib.hid hn; clear hn hst hr hsv; obtain ⟨nb2, hnb0⟩ : ∃ x, x = ((n2 : Int) != 1) := ⟨_, rfl⟩; have hnb2 := hnb0.symm; clear hnb0)
  have HTI2 := Lib.hid (HT2.out.tight (lo' := 1) (hi' := 1) (e' := 144) (pl := 4) (by omega) (by omega) (Or.inl rfl) (fun h => (HA1.out h).symm))
  go_cut [] from 28 to 29 (fun wx => ∃ s : Rs, Hid (RQ wx g A c b s ∧ Save g V1 wx ∧ StepP (fld 2 1 1 144) b s1 (n2 : Int) s))
  case first =>
    cases nb2
    · have HK := Lib.hid (show n2 = 1 from by have h : (n2 : Int) = 1 := bne_eq_false_iff_eq.1 hnb2; omega)
      clear hnb2
      go_wp2_with fail
      go_meet
      exact ⟨_, Lib.hid ⟨HRQ.out, HSV.out, by have h := HTI2.out; rw [if_pos (by have := HK.out; omega)] at h; exact h⟩⟩
    · have HK := Lib.hid (show ¬ n2 = 1 from by have h : (n2 : Int) ≠ 1 := bne_iff_ne.1 hnb2; omega)
      have HF := Lib.hid (rfail_any 144 4 (by decide) HRQ.out)
      clear hnb2
      go_wp2_with (go_at_call 22; refine HF.out.mono ?_; rintro x wf ⟨rfl, hr, hsv⟩; have HR2 := Lib.hid (And.intro hr (HSV.out.trans hsv)); clear hr hsv)
      go_meet
      exact ⟨_, Lib.hid ⟨HR2.out.1, HR2.out.2, by have h := HTI2.out; rw [if_neg (by have := HK.out; omega)] at h; exact h⟩⟩
  obtain ⟨s2, HH⟩ := hcut
  obtain ⟨x2, hwx⟩ : ∃ W : World, W = wc := ⟨_, rfl⟩
  subst hwx
  have HRQ := Lib.hid HH.out.1
  have HSV := Lib.hid HH.out.2.1
  have HS2 := Lib.hid HH.out.2.2
  clear HH hnb2
  have HA2 : Hid (s2.err = none → s2.at_ = 6) := Lib.hid (fun h => by have h1 := HS2.out.fldAt h; have h2 := HA1.out (HS2.out.on h).1; omega)
  go_upto_if 34 with (go_at_call 21; refine (rnum_any 2 16 142 (by decide) (by decide) (by decide) HRQ.out).mono ?_; rintro x w3 ⟨n3, t3, rfl, hn, hst, hr, hsv⟩; replace HRQ := Lib.hid hr; have HT3 := Lib.hid hst; have HSV := Lib.hid (HSV.out.trans hsv); have HNN3 := Lib.hid hn; clear hn hst hr hsv; have hw3 : IntKind.i64.wrap (n3 : Int) = (n3 : Int) := (by rw [IntKind.wrap_i64]; have := lt2 HNN3.out; omega); obtain ⟨nb3, hnb0⟩ : ∃ x, x = ((n3 : Int) == 0) := ⟨_, rfl⟩; have hnb3 := hnb0.symm; clear hnb0)
  clear hw3
  have HTI3 := Lib.hid (HT3.out.tight (lo' := 1) (hi' := 16) (e' := 142) (pl := 6) (by omega) (by omega) (Or.inl rfl) (fun h => (HA2.out h).symm))
  go_cut [] from 35 to 36 (fun wx => ∃ s : Rs, Hid (RQ wx g A c b s ∧ Save g V1 wx ∧ StepP (fld 2 1 16 142) b s2 (n3 : Int) s))
  case first =>
    cases nb3
    · have HK := Lib.hid (show ¬ n3 = 0 from by have h : (n3 : Int) ≠ 0 := beq_eq_false_iff_ne.1 hnb3; omega)
      clear hnb3
      go_wp2_with fail
      go_meet
      exact ⟨_, Lib.hid ⟨HRQ.out, HSV.out, by
      have h := HTI3.out
      have hz := HK.out
      by_cases hle : n3 ≤ 16
      · rw [if_pos ⟨by omega, hle⟩] at h; exact h
      · rw [if_neg (by omega)] at h
        cases he : t3.err with
        | none => have := (HT3.out.inB he).2; omega
        | some x => rw [Rs.fail_some _ _ he] at h; exact h⟩⟩
    · have HK := Lib.hid (show n3 = 0 from by have h : (n3 : Int) = 0 := beq_iff_eq.1 hnb3; omega)
      have HF := Lib.hid (rfail_any 142 6 (by decide) HRQ.out)
      clear hnb3
      go_wp2_with (go_at_call 22; refine HF.out.mono ?_; rintro x wf ⟨rfl, hr, hsv⟩; have HR2 := Lib.hid (And.intro hr (HSV.out.trans hsv)); clear hr hsv)
      go_meet
      exact ⟨_, Lib.hid ⟨HR2.out.1, HR2.out.2, by have h := HTI3.out; rw [if_neg (by have := HK.out; omega)] at h; exact h⟩⟩
  obtain ⟨s3, HH⟩ := hcut
  obtain ⟨x3, hwx⟩ : ∃ W : World, W = wc := ⟨_, rfl⟩
  subst hwx
  have HRQ := Lib.hid HH.out.1
  have HSV := Lib.hid HH.out.2.1
  have HS3 := Lib.hid HH.out.2.2
  clear HH hnb3
  go_upto_region 12 with (go_at_call 21; refine (rnum_any 2 32 142 (by decide) (by decide) (by decide) HRQ.out).mono ?_; rintro x w4 ⟨n4, t4, rfl, hn, hst, hr, hsv⟩; replace HRQ := Lib.hid hr; have HT4 := Lib.hid hst; have HSV := Lib.hid (HSV.out.trans hsv); have HNN4 := Lib.hid hn; clear hn hst hr hsv; have hw4 : IntKind.i64.wrap (n4 : Int) = (n4 : Int) := (by rw [IntKind.wrap_i64]; have := lt2 HNN4.out; omega))
  clear hw4
  go_upto_region 13 with (go_at_call 21; refine (rnum_any 2 0 144 (by decide) (by decide) (by decide) HRQ.out).mono ?_; rintro x w5 ⟨n5, t5, rfl, hn, hst, hr, hsv⟩; replace HRQ := Lib.hid hr; have HT5 := Lib.hid hst; have HSV := Lib.hid (HSV.out.trans hsv); have HNN5 := Lib.hid hn; clear hn hst hr hsv)
  go_upto_region 14 with (first
    | (go_at_call 21; refine (rnum_any 4 4294967295 144 (by decide) (by decide) (by decide) HRQ.out).mono ?_; rintro x w6 ⟨n6, t6, rfl, hn, hst, hr, hsv⟩; replace HRQ := Lib.hid hr; have HT6 := Lib.hid hst; have HSV := Lib.hid (HSV.out.trans hsv); have HNN6 := Lib.hid hn; clear hn hst hr hsv; have hw6 : IntKind.u32.wrap (n6 : Int) = (n6 : Int) := (by rw [IntKind.wrap_u32]; have := lt4 HNN6.out; omega))
    | ((with_reducible show wpList _ _ _ (Oper.mk _ (.build _ _) _ _ _ _ :: _) _ _); refine wl_build rfl 28 _ rfl (vec 3 (cfE (n6 : Int) nilV nilV)) (by kernel_rfl) ?_)
    | ((with_reducible show wpList _ _ _ (Oper.mk _ (.store _ _ _) _ _ _ _ :: _) _ _); refine wl_store rfl 28 _ _ rfl _ rfl _ rfl (run_store_arr (Arr.new w6 _ _ _) (cfE (n6 : Int) nilV nilV) infoCf (cfE_one _ _ _ rfl rfl _)) ?_))
  clear hw6
  obtain ⟨q, hq⟩ : ∃ q, q = w6.heap.size := ⟨_, rfl⟩
  obtain ⟨W0, hW0⟩ : ∃ W, W = (w6.alloc (.cells (vec 3 (cfE 0 nilV nilV)) 28)).setRow w6.heap.size (vec 3 (cfE (n6 : Int) nilV nilV)) := ⟨_, rfl⟩
  have hb0 : Below w6.heap.size w6 W0 := by rw [hW0]; exact below_row ((Below.refl _ _).alloc (Nat.le_refl _) _) (Nat.le_refl _) _
  have ha0 : Arr W0 w6.heap.size 28 3 (cfE (n6 : Int) nilV nilV) := by rw [hW0]; exact (Arr.new w6 _ _ _).row _
  rw [← hq] at ha0
  have HP : Hid (PS w g A c b r q (n6 : Int) W0 t6 nilV nilV) := Lib.hid ⟨HRQ.out.under hb0, ha0, (HSP.out.1.1.save HSV.out (by have := HSP.out.2; omega)).under hb0, (HSP.out.1.2.trans ((HSV.out.below (by have := HSP.out.2; omega) HSP.out.1.2.size))).trans (hb0.mono (by have h1 := HSV.out.size; have h2 := HSP.out.1.2.size; omega)), HSP.out.2.2, HSP.out.2.1, by rw [hq]; exact HRQ.out.lt⟩
  have HWW := Lib.hid hW0
  have HQQ := Lib.hid hq
  clear hq hW0 hb0 ha0 HRQ HSV HSP
  rw [← HWW.out, ← HQQ.out]
  clear HWW HQQ
  have HB3 : Hid (t6.err = none → n3 ≤ 16 ∧ n4 ≤ 32) := Lib.hid (fun h => by
    have e5 := (HT6.out.on h).1
    have e4 := (HT5.out.on e5).1
    have h4 := HT4.out.inB e4
    have h3 := HS3.out.inB h4.1
    omega)
  go_upto_block 0 with fail
  go_cut [9] from 46 to 64 (fun _ wx => ∃ (v : Value) (l : List Gs) (s : Rs), Hid (PS w g A c b r q (n6 : Int) wx s v nilV ∧ guestsV (q + 1) wx l v ∧ StepP (listC (guestC kOk) n3) b t6 l s))
  case first =>
    go_wp2_with fail
    go_loopw [9] (fun j Z1 => ∃ (k : Nat) (B : Option Addr) (d : Nat) (l : List Gs) (s : Rs), (k ≤ n3 ∧ k ≤ 16) ∧ j = .int .i64 k ∧ Hid (l.length = k ∧ (PS w g A c b r q (n6 : Int) Z1 s (.slice B k d) nilV ∧ guestsV (q + 1) Z1 l (.slice B k d)) ∧ StepP (listC (guestC kOk) k) b t6 l s)) (fun j _ => n3 - (intOf j).toNat)
    case atStart => exact ⟨0, none, 0, [], t6, ⟨Nat.zero_le _, Nat.zero_le _⟩, rfl, Lib.hid ⟨rfl, ⟨HP.out, guestsV.nil _ _⟩, list_none _ _ _⟩⟩
    case round =>
      obtain ⟨k, BL, dL, l, s, ⟨hk, hk2⟩, rfl, HI⟩ := hrel
      obtain ⟨wk, hwk⟩ : ∃ W : World, W = wr := ⟨_, rfl⟩
      subst hwk
      have ce := HI.out.2.1.1.rq.at2
      obtain ⟨E, hE⟩ : ∃ E, E = erN s.err := ⟨_, rfl⟩
      rw [← hE] at ce
      have HEE := Lib.hid hE
      clear hE
      by_cases hlt : k < n3
      · have hki : (k : Int) < (n3 : Int) := by omega
        by_cases h0 : E = 0
        · subst h0
          have z0 : (((0 : Nat) : Int) == 0) = true := rfl
          have HE0 : Hid (s.err = none) := Lib.hid (erN_zero HI.out.2.1.1.rq.err HEE.out.symm)
          have HLT : Hid (k + 1 ≤ n3 ∧ k + 1 ≤ 16) := Lib.hid (by
            have h9 : t6.err = none := (HI.out.2.2.on HE0.out).1
            have := HB3.out h9
            omega)
          have HLK : Hid (l.length = k ∧ k ≤ 16) := Lib.hid ⟨HI.out.1, hk2⟩
          have HST := Lib.hid HI.out.2.2
          have HCF : Hid (∀ (Z : World) (s' : Rs), PS w g A c b r q (n6 : Int) Z s' (.slice BL k dL) nilV → Z.cell? ⟨q, 1, none⟩ = some (.slice BL k dL)) := Lib.hid (fun Z s' hz => hz.cells.1.1)
          have hk9 : k ≤ 64 := by omega
          clear hlt hk hk2
          go_upto_region 17 with fail
          clear ce z0
          obtain ⟨Y0, hY0⟩ : ∃ Y, Y = wk.drew := ⟨_, rfl⟩
          have hbY : Below wk.heap.size wk Y0 := by rw [hY0]; exact ⟨rfl, rfl, rfl, Nat.le_refl _, fun _ _ => rfl⟩
          have HL : Hid (PS w g A c b r q (n6 : Int) Y0 s (.slice BL k dL) nilV) := Lib.hid (HI.out.2.1.1.on hbY)
          have HGV : Hid (guestsV (q + 1) Y0 l (.slice BL k dL) ∧ q + 1 ≤ Y0.heap.size) := Lib.hid ⟨HI.out.2.1.2.on hbY (Nat.le_refl _), HL.out.box.lt⟩
          have HY0 := Lib.hid hY0
          clear hY0 hbY HI
          refine wp_region_held_drew (S := fun _ => True) (by kernel_rfl) trivial (fun hS => ?_)
          rw [← HY0.out]
          revert hS
          apply meet_of
          case h =>
            intro tail hS
            (refine held_take (i := 0) (oi := ?ot1) (v := ?vt1) ?at1 (by kernel_rfl) (by kernel_rfl) (by kernel_rfl) ?bt1 ?ct1 ?dt1 (by assumption) ?rt1; (case at1 => (simp only [List.getElem?_toArray, List.getElem?_cons_zero]; rfl)); (case bt1 => exact fun _ _ _ h => h); (case ct1 => kernel_rfl); (case dt1 => (intro W hW; clear hW; go_simp; (try with_reducible rfl))); (case' rt1 => simp only [Act.put, List.setIfInBounds_toArray, List.set_cons_zero, List.set_cons_succ]))
            (refine held_take (i := 2) (oi := ?ot2) (v := ?vt2) ?at2 (by kernel_rfl) (by kernel_rfl) (by kernel_rfl) ?bt2 ?ct2 ?dt2 (by assumption) ?rt2; (case at2 => (simp only [List.getElem?_toArray, List.getElem?_cons_zero, List.getElem?_cons_succ]; rfl)); (case bt2 => exact fun _ _ _ h => h); (case ct2 => kernel_rfl); (case dt2 => (intro W hW; clear hW; go_simp; (try with_reducible rfl))); (case' rt2 => simp only [Act.put, List.setIfInBounds_toArray, List.set_cons_zero, List.set_cons_succ]))
            refine held_two (i := 1) (j := 3) (oi := ?oit11) (oj := ?ojt11) (by kernel_rfl) ?ait11 ?ajt11 ?cit11 ?cjt11 (fun K1 hK1 => ?hit11) (fun K3 hK3 => ?hjt11)
            (case ait11 => (simp only [List.getElem?_toArray, List.getElem?_cons_zero, List.getElem?_cons_succ]; rfl))
            (case ajt11 => (simp only [List.getElem?_toArray, List.getElem?_cons_zero, List.getElem?_cons_succ]; rfl))
            (case cit11 => kernel_rfl)
            (case cjt11 => kernel_rfl)
            case hit11 =>
              have k0 := HCF.out _ _ HL.out
              go_simp
              refine hK1 _ _ trivial (fun hS1 => ?_)
              clear k0 hK1 K1 hS
              refine held_one (i := 3) (oi := ?ot3) (by kernel_rfl) ?at3 ?ct3 (fun K3 hK3 => ?_)
              (case at3 => (simp only [List.getElem?_toArray, List.getElem?_cons_zero, List.getElem?_cons_succ]; rfl))
              (case ct3 => kernel_rfl)
              go_simp
              refine (rguest_any HL.out.rq).mono ?_
              rintro e w3 ⟨y, s3, rfl, hkl, hgo, hst, hr, hsv⟩
              replace HL := Lib.hid (HL.out.call hr hsv)
              have HC3 := Lib.hid (And.intro hst (And.intro hkl (And.intro hgo hsv)))
              have hy1 := hgo.one
              have HY1 := Lib.hid hy1
              refine hK3 _ _ trivial (fun hS3 => ?_)
              clear hkl hgo hst hr hsv hy1 hK3 K3 hS1
              refine held_one (i := 4) (oi := ?ot4) (by kernel_rfl) ?at4 ?ct4 (fun K4 hK4 => ?_)
              (case at4 => (simp only [List.getElem?_toArray, List.getElem?_cons_zero, List.getElem?_cons_succ]; rfl))
              (case ct4 => kernel_rfl)
              refine ow_bs1 25 _ rfl (.agg (vec 79 (guestE y))) rfl _ (build_guest y _) ?_
              intro p y0 hp hy
              obtain ⟨BN, dN, w2, hrun, hgv, hbl⟩ := guestsV.app HGV.out.1 HC3.out.2.2.2 (by have := HL.out.gq; omega) HGV.out.2 (by have := HLK.out; omega) rfl HC3.out.2.1 HC3.out.2.2.1
              rw [HLK.out.1] at hrun hgv
              rw [← hp] at hrun
              rw [← hy] at hrun
              have hps := HL.out.deep hbl
              have hcc := hps.cells
              replace HL := Lib.hid (HL.out.on (W' := y0) (by rw [hy]; exact (Below.refl _ _).alloc (Nat.le_refl _) _))
              have HRUN := Lib.hid hrun
              have HFIN := Lib.hid (And.intro hcc.1.1 (And.intro hcc.2.1 (And.intro (And.intro (show PS w g A c b r q (n6 : Int) (w2.setCell ⟨q, 1, none⟩ (.slice BN (k + 1) dN)) s3 (.slice BN (k + 1) dN) nilV from hps.set 1 _ (upd_cf1 _ _ _ _)) (show guestsV (q + 1) (w2.setCell ⟨q, 1, none⟩ (.slice BN (k + 1) dN)) (l ++ [y.g]) (.slice BN (k + 1) dN) from hgv.save ((Save.refl _ _).setCell 1 _) (Nat.lt_succ_self _))) HC3.out.1)))
              refine hK4 _ _ trivial (fun hS4 => ?_)
              clear hp hy hrun hgv hbl hps hcc hK4 K4 hS3
              refine held_one (i := 5) (oi := ?ot5) (by kernel_rfl) ?at5 ?ct5 (fun K5 hK5 => ?_)
              (case at5 => (simp only [List.getElem?_toArray, List.getElem?_cons_zero, List.getElem?_cons_succ]; rfl))
              (case ct5 => kernel_rfl)
              refine Lib.wp_append_run _ _ _ _ _ rfl (.slice BL k dL) (.slice (some ⟨p, 0, none⟩) 1 1) ?sa1 ?sb2 (.slice BN (k + 1) dN) w2 ?sc3 ?_
              case sa1 => rfl
              case sb2 => rfl
              case sc3 => (have h0 := HRUN.out; show (Builtin.append_ #[_, _] 25 _).run Tryd.prog _ = _; exact h0)
              refine hK5 _ _ trivial (fun hS5 => ?_)
              clear HRUN HC3 HY1 hK5 K5 hS4
              clear HL
              revert hS5
              revert HFIN
              revert w2
              revert dN
              revert BN
              revert p
              revert s3
              revert y
              exact tail 0
            case hjt11 =>
              go_simp
              refine (rguest_any HL.out.rq).mono ?_
              rintro e w3 ⟨y, s3, rfl, hkl, hgo, hst, hr, hsv⟩
              replace HL := Lib.hid (HL.out.call hr hsv)
              have HC3 := Lib.hid (And.intro hst (And.intro hkl (And.intro hgo hsv)))
              have hy1 := hgo.one
              have HY1 := Lib.hid hy1
              refine hK3 _ _ trivial (fun hS3 => ?_)
              clear hkl hgo hst hr hsv hy1 hK3 K3 hS
              refine held_two (i := 1) (j := 4) (oi := ?oit10) (oj := ?ojt10) (by kernel_rfl) ?ait10 ?ajt10 ?cit10 ?cjt10 (fun K1 hK1 => ?hit10) (fun K4 hK4 => ?hjt10)
              (case ait10 => (simp only [List.getElem?_toArray, List.getElem?_cons_zero, List.getElem?_cons_succ]; rfl))
              (case ajt10 => (simp only [List.getElem?_toArray, List.getElem?_cons_zero, List.getElem?_cons_succ]; rfl))
              (case cit10 => kernel_rfl)
              (case cjt10 => kernel_rfl)
              case hit10 =>
                have k0 := HCF.out _ _ HL.out
                go_simp
                refine hK1 _ _ trivial (fun hS1 => ?_)
                clear k0 hK1 K1 hS3
                refine held_one (i := 4) (oi := ?ot6) (by kernel_rfl) ?at6 ?ct6 (fun K4 hK4 => ?_)
                (case at6 => (simp only [List.getElem?_toArray, List.getElem?_cons_zero, List.getElem?_cons_succ]; rfl))
                (case ct6 => kernel_rfl)
                refine ow_bs1 25 _ rfl (.agg (vec 79 (guestE y))) rfl _ (build_guest y _) ?_
                intro p y0 hp hy
                obtain ⟨BN, dN, w2, hrun, hgv, hbl⟩ := guestsV.app HGV.out.1 HC3.out.2.2.2 (by have := HL.out.gq; omega) HGV.out.2 (by have := HLK.out; omega) rfl HC3.out.2.1 HC3.out.2.2.1
                rw [HLK.out.1] at hrun hgv
                rw [← hp] at hrun
                rw [← hy] at hrun
                have hps := HL.out.deep hbl
                have hcc := hps.cells
                replace HL := Lib.hid (HL.out.on (W' := y0) (by rw [hy]; exact (Below.refl _ _).alloc (Nat.le_refl _) _))
                have HRUN := Lib.hid hrun
                have HFIN := Lib.hid (And.intro hcc.1.1 (And.intro hcc.2.1 (And.intro (And.intro (show PS w g A c b r q (n6 : Int) (w2.setCell ⟨q, 1, none⟩ (.slice BN (k + 1) dN)) s3 (.slice BN (k + 1) dN) nilV from hps.set 1 _ (upd_cf1 _ _ _ _)) (show guestsV (q + 1) (w2.setCell ⟨q, 1, none⟩ (.slice BN (k + 1) dN)) (l ++ [y.g]) (.slice BN (k + 1) dN) from hgv.save ((Save.refl _ _).setCell 1 _) (Nat.lt_succ_self _))) HC3.out.1)))
                refine hK4 _ _ trivial (fun hS4 => ?_)
                clear hp hy hrun hgv hbl hps hcc hK4 K4 hS1
                refine held_one (i := 5) (oi := ?ot7) (by kernel_rfl) ?at7 ?ct7 (fun K5 hK5 => ?_)
                (case at7 => (simp only [List.getElem?_toArray, List.getElem?_cons_zero, List.getElem?_cons_succ]; rfl))
                (case ct7 => kernel_rfl)
                refine Lib.wp_append_run _ _ _ _ _ rfl (.slice BL k dL) (.slice (some ⟨p, 0, none⟩) 1 1) ?sa4 ?sb5 (.slice BN (k + 1) dN) w2 ?sc6 ?_
                case sa4 => rfl
                case sb5 => rfl
                case sc6 => (have h0 := HRUN.out; show (Builtin.append_ #[_, _] 25 _).run Tryd.prog _ = _; exact h0)
                refine hK5 _ _ trivial (fun hS5 => ?_)
                clear HRUN HC3 HY1 hK5 K5 hS4
                clear HL
                revert hS5
                revert HFIN
                revert w2
                revert dN
                revert BN
                revert p
                revert s3
                revert y
                exact tail 0
              case hjt10 =>
                refine ow_bs1 25 _ rfl (.agg (vec 79 (guestE y))) rfl _ (build_guest y _) ?_
                intro p y0 hp hy
                obtain ⟨BN, dN, w2, hrun, hgv, hbl⟩ := guestsV.app HGV.out.1 HC3.out.2.2.2 (by have := HL.out.gq; omega) HGV.out.2 (by have := HLK.out; omega) rfl HC3.out.2.1 HC3.out.2.2.1
                rw [HLK.out.1] at hrun hgv
                rw [← hp] at hrun
                rw [← hy] at hrun
                have hps := HL.out.deep hbl
                have hcc := hps.cells
                replace HL := Lib.hid (HL.out.on (W' := y0) (by rw [hy]; exact (Below.refl _ _).alloc (Nat.le_refl _) _))
                have HRUN := Lib.hid hrun
                have HFIN := Lib.hid (And.intro hcc.1.1 (And.intro hcc.2.1 (And.intro (And.intro (show PS w g A c b r q (n6 : Int) (w2.setCell ⟨q, 1, none⟩ (.slice BN (k + 1) dN)) s3 (.slice BN (k + 1) dN) nilV from hps.set 1 _ (upd_cf1 _ _ _ _)) (show guestsV (q + 1) (w2.setCell ⟨q, 1, none⟩ (.slice BN (k + 1) dN)) (l ++ [y.g]) (.slice BN (k + 1) dN) from hgv.save ((Save.refl _ _).setCell 1 _) (Nat.lt_succ_self _))) HC3.out.1)))
                refine hK4 _ _ trivial (fun hS4 => ?_)
                clear hp hy hrun hgv hbl hps hcc hK4 K4 hS3
                refine held_one (i := 1) (oi := ?ot8) (by kernel_rfl) ?at8 ?ct8 (fun K1 hK1 => ?_)
                (case at8 => (simp only [List.getElem?_toArray, List.getElem?_cons_zero, List.getElem?_cons_succ]; rfl))
                (case ct8 => kernel_rfl)
                have k0 := HCF.out _ _ HL.out
                go_simp
                refine hK1 _ _ trivial (fun hS1 => ?_)
                clear k0 hK1 K1 hS4
                refine held_one (i := 5) (oi := ?ot9) (by kernel_rfl) ?at9 ?ct9 (fun K5 hK5 => ?_)
                (case at9 => (simp only [List.getElem?_toArray, List.getElem?_cons_zero, List.getElem?_cons_succ]; rfl))
                (case ct9 => kernel_rfl)
                refine Lib.wp_append_run _ _ _ _ _ rfl (.slice BL k dL) (.slice (some ⟨p, 0, none⟩) 1 1) ?sa7 ?sb8 (.slice BN (k + 1) dN) w2 ?sc9 ?_
                case sa7 => rfl
                case sb8 => rfl
                case sc9 => (have h0 := HRUN.out; show (Builtin.append_ #[_, _] 25 _).run Tryd.prog _ = _; exact h0)
                refine hK5 _ _ trivial (fun hS5 => ?_)
                clear HRUN HC3 HY1 hK5 K5 hS1
                clear HL
                revert hS5
                revert HFIN
                revert w2
                revert dN
                revert BN
                revert p
                revert s3
                revert y
                exact tail 0
          case t =>
            intro y s3 p BN dN w2 HFIN hS5
            (refine held_take (i := 6) (oi := ?ot12) (v := ?vt12) ?at12 (by kernel_rfl) (by kernel_rfl) (by kernel_rfl) ?bt12 ?ct12 ?dt12 (by assumption) ?rt12; (case at12 => (simp only [List.getElem?_toArray, List.getElem?_cons_zero, List.getElem?_cons_succ]; rfl)); (case bt12 => exact fun _ _ _ h => h); (case ct12 => kernel_rfl); (case dt12 => (intro W hW; clear hW; go_simp; (try with_reducible rfl))); (case' rt12 => simp only [Act.put, List.setIfInBounds_toArray, List.set_cons_zero, List.set_cons_succ]))
            refine held_one (i := 7) (oi := ?ot13) (by kernel_rfl) ?at13 ?ct13 (fun K7 hK7 => ?_)
            (case at13 => (simp only [List.getElem?_toArray, List.getElem?_cons_zero, List.getElem?_cons_succ]; rfl))
            (case ct13 => kernel_rfl)
            have k3 := HFIN.out.1
            have k4 := HFIN.out.2.1
            go_simp
            refine hK7 _ _ trivial (fun hS7 => ?_)
            clear k3 k4 hK7 K7 hS5
            refine wpAnyH_done (by kernel_rfl) ?_ _
            clear hS7
            obtain ⟨WN, hWN⟩ : ∃ W, W = w2.setCell ⟨q, 1, none⟩ (.slice BN (k + 1) dN) := ⟨_, rfl⟩
            have HFN := Lib.hid HFIN.out.2.2
            rw [← hWN] at HFN ⊢
            clear hWN HFIN
            go_wp2_with fail
            go_roundw
            case rel => exact ⟨k + 1, BN, dN, l ++ [y.g], s3, by have := HLT.out; omega, by go_num, Lib.hid ⟨by rw [List.length_append, HLK.out.1]; rfl, HFN.out.1, HST.out.snoc HE0.out HFN.out.2⟩⟩
            case measure => have := HLT.out; simp [intOf]; omega
        · have z0 : ((E : Int) == 0) = false := by simp; omega
          have z1 : ¬ (E : Int) = 0 := by omega
          have HNE : Hid (s.err ≠ none) := Lib.hid (erN_some (by rw [← HEE.out]; exact h0))
          clear h0
          go_wp2_with fail
          go_meet
          exact ⟨_, l, s, Lib.hid ⟨HI.out.2.1.1, HI.out.2.1.2, HI.out.2.2.ends (Or.inr ⟨hk, HNE.out⟩)⟩⟩
      · have hki : ¬ (k : Int) < (n3 : Int) := by omega
        have HKE : Hid (k = n3) := Lib.hid (by omega)
        go_wp2_with fail
        go_meet
        exact ⟨_, l, s, Lib.hid ⟨HI.out.2.1.1, HI.out.2.1.2, HI.out.2.2.ends (Or.inl HKE.out)⟩⟩
  obtain ⟨v1, l1, s7, HH⟩ := hcut
  obtain ⟨WA, hwx⟩ : ∃ W : World, W = wc := ⟨_, rfl⟩
  subst hwx
  have HP := Lib.hid HH.out.1
  have HGS := Lib.hid HH.out.2.1
  have HL1 := Lib.hid HH.out.2.2
  have HB4 : Hid (s7.err = none → n4 ≤ 32) := Lib.hid (fun h => (HB3.out (HL1.out.on h).1).2)
  have HWQ : Hid (g < WA.heap.size ∧ q < WA.heap.size) := Lib.hid ⟨Nat.lt_trans HP.out.gq HP.out.box.lt, HP.out.box.lt⟩
  clear HH HB3
  go_upto_block 2 with fail
  go_cut [10] from 65 to 103 (fun _ wx => ∃ (v : Value) (m : List Ch) (s : Rs), Hid (PS w g A c b r q (n6 : Int) wx s v1 v ∧ (FT g q WA wx ∧ OwnE 71 8 chE wx WA.heap.size v m) ∧ StepP (listC chC n4) b s7 m s))
  case first =>
    go_wp2_with fail
    go_loopw [10] (fun j Z1 => ∃ (k : Nat) (B : Option Addr) (d : Nat) (m : List Ch) (s : Rs), (k ≤ n4 ∧ k ≤ 32) ∧ j = .int .i64 k ∧ Hid (m.length = k ∧ (PS w g A c b r q (n6 : Int) Z1 s v1 (.slice B k d) ∧ FT g q WA Z1 ∧ OwnE 71 8 chE Z1 WA.heap.size (.slice B k d) m) ∧ StepP (listC chC k) b s7 m s)) (fun j _ => n4 - (intOf j).toNat)
    case atStart => exact ⟨0, none, 0, [], s7, ⟨Nat.zero_le _, Nat.zero_le _⟩, rfl, Lib.hid ⟨rfl, ⟨HP.out, FT.refl _ _ _, OwnE.nil _ _⟩, list_none _ _ _⟩⟩
    case round =>
      obtain ⟨k, BL, dL, m, s, ⟨hk, hk2⟩, rfl, HI⟩ := hrel
      obtain ⟨wk, hwk⟩ : ∃ W : World, W = wr := ⟨_, rfl⟩
      subst hwk
      have ce := HI.out.2.1.1.rq.at2
      obtain ⟨E, hE⟩ : ∃ E, E = erN s.err := ⟨_, rfl⟩
      rw [← hE] at ce
      have HEE := Lib.hid hE
      clear hE
      by_cases hlt : k < n4
      · have hki : (k : Int) < (n4 : Int) := by omega
        by_cases h0 : E = 0
        · subst h0
          have z0 : (((0 : Nat) : Int) == 0) = true := rfl
          have HE0 : Hid (s.err = none) := Lib.hid (erN_zero HI.out.2.1.1.rq.err HEE.out.symm)
          have HLT : Hid (k + 1 ≤ n4 ∧ k + 1 ≤ 32) := Lib.hid (by
            have h9 : s7.err = none := (HI.out.2.2.on HE0.out).1
            have := HB4.out h9
            omega)
          have HLK : Hid (m.length = k ∧ k ≤ 32) := Lib.hid ⟨HI.out.1, hk2⟩
          have hk9 : k ≤ 64 := by omega
          have HC1 := Lib.hid (rwide_any HI.out.2.1.1.rq)
          clear hlt hk hk2
          go_upto_region 22 with (first
            | (go_at_call 24; (with_reducible show Calls _ _ _ wk _); refine HC1.out.mono ?_; rintro x w2 ⟨m1, t1, rfl, hn, hst, hr, hsv⟩; have HD1 := Lib.hid (And.intro hst (And.intro hr hsv)); have HC2 := Lib.hid (rwide_any hr); clear hn hst hr hsv)
            | (go_at_call 24; refine HC2.out.mono ?_; rintro x w3 ⟨m2, t2, rfl, hn, hst, hr, hsv⟩; have HD2 := Lib.hid (And.intro hst (And.intro hr hsv)); clear hn hst hr hsv)
            | ((with_reducible show wpList _ _ _ (Oper.mk _ (.build _ _) _ _ _ _ :: _) _ _); refine wl_build rfl 71 _ rfl (vec 8 (chE ⟨(m1 : Int), (m2 : Int), zEn, zEn⟩)) (by kernel_rfl) ?_)
            | ((with_reducible show wpList _ _ _ (Oper.mk _ (.store _ _ _) _ _ _ _ :: _) _ _); refine wl_store rfl 71 _ _ rfl _ rfl _ rfl (run_store_arr (Arr.new w3 _ _ _) (chE ⟨(m1 : Int), (m2 : Int), zEn, zEn⟩) infoCh (chE_one _ _)) ?_))
          clear ce z0
          obtain ⟨ub, hub⟩ : ∃ u, u = w3.heap.size := ⟨_, rfl⟩
          obtain ⟨X, hX⟩ : ∃ X, X = (w3.alloc (.cells (vec 8 (chE zCh)) 71)).setRow w3.heap.size (vec 8 (chE ⟨(m1 : Int), (m2 : Int), zEn, zEn⟩)) := ⟨_, rfl⟩
          have hbX : Below w3.heap.size w3 X := by rw [hX]; exact below_row ((Below.refl _ _).alloc (Nat.le_refl _) _) (Nat.le_refl _) _
          have haX : Arr X w3.heap.size 71 8 (chE ⟨(m1 : Int), (m2 : Int), zEn, zEn⟩) := by rw [hX]; exact (Arr.new w3 _ _ _).row _
          rw [← hub] at haX
          have hsvX : Save g wk X := (HD1.out.2.2.trans HD2.out.2.2).trans (Save.of_below hbX)
          have HUB : Hid (g < ub ∧ wk.heap.size ≤ ub) := Lib.hid (by rw [hub]; exact ⟨HD2.out.2.1.lt, (HD1.out.2.2.trans HD2.out.2.2).size⟩)
          have HXL : Hid (Arr X ub 71 8 (chE ⟨(m1 : Int), (m2 : Int), zEn, zEn⟩) ∧ RQ X g A c b t2 ∧ Save g wk X) := Lib.hid ⟨haX, HD2.out.2.1.under hbX, hsvX⟩
          have HX := Lib.hid hX
          have HU := Lib.hid hub
          clear hX hub hbX haX hsvX
          rw [← HX.out, ← HU.out]
          clear HX HU
          go_wp2_with fail
          go_loopw [12, 82] (fun _ j Z2 => ∃ (i : Nat) (e1 e2 : En) (s' : Rs), i ≤ 2 ∧ j = .int .i64 i ∧ Hid (Arr Z2 ub 71 8 (chE ⟨(m1 : Int), (m2 : Int), e1, e2⟩) ∧ RQ Z2 g A c b s' ∧ Save g wk Z2 ∧ EndP b t2 i e1 e2 s')) (fun _ j _ => 2 - (intOf j).toNat)
          case atStart => exact ⟨0, zEn, zEn, t2, by decide, rfl, Lib.hid ⟨HXL.out.1, HXL.out.2.1, HXL.out.2.2, rfl⟩⟩
          case round =>
            obtain ⟨i, e1, e2, s', hi, rfl, HJ⟩ := hrel
            obtain ⟨wj, hwj⟩ : ∃ W : World, W = wr := ⟨_, rfl⟩
            subst hwj
            clear HXL
            rcases (by omega : i = 0 ∨ i = 1 ∨ i = 2) with rfl | rfl | rfl
            · have HC3 := Lib.hid (rnum_any 2 65535 144 (by decide) (by decide) (by decide) HJ.out.2.1)
              go_upto_region 26 with (first
                | (go_at_call 21; (with_reducible show Calls _ _ #[_, _, .int .u64 65535, _] _ _); refine HC3.out.mono ?_; rintro x v3 ⟨o1, u1, rfl, hn, hst, hr, hsv⟩; have hw1 : IntKind.i64.wrap (o1 : Int) = (o1 : Int) := (by rw [IntKind.wrap_i64]; have := lt2 hn; omega); have HF1 := Lib.hid (And.intro hst (And.intro hr hsv)); have HC4 := Lib.hid (rnum_any 2 7 144 (by decide) (by decide) (by decide) hr); clear hn hst hr hsv)
                | (go_at_call 21; refine HC4.out.mono ?_; rintro x v4 ⟨o2, u2, rfl, hn, hst, hr, hsv⟩; have hw2 : IntKind.i64.wrap (o2 : Int) = (o2 : Int) := (by rw [IntKind.wrap_i64]; have := lt2 hn; omega); have HF2 := Lib.hid (And.intro hst (And.intro hr hsv)); have HC5 := Lib.hid (rwide_any hr); clear hn hst hr hsv)
                | (go_at_call 24; refine HC5.out.mono ?_; rintro x v5 ⟨o3, u3, rfl, hn, hst, hr, hsv⟩; have HF3 := Lib.hid (And.intro hst (And.intro hr hsv)); have HBX := Lib.hid (((HJ.out.1.save HF1.out.2.2 (by have := HUB.out; omega)).save HF2.out.2.2 (by have := HUB.out; omega)).save hsv (by have := HUB.out; omega)); clear hn hst hr hsv)
                | ((with_reducible show wpList _ _ _ (Oper.mk _ (.build _ _) _ _ _ _ :: _) _ _); refine wl_build rfl 68 _ rfl (vec 3 (endE (⟨(o1 : Int), (o2 : Int), (o3 : Int)⟩ : En))) (by kernel_rfl) ?_)
                | ((with_reducible show wpList _ _ _ (Oper.mk _ (.store _ _ _) _ _ _ _ :: _) _ _); refine wl_store_q rfl 68 _ _ rfl ⟨ub, 2, none⟩ rfl _ rfl (run_store_spl HBX.out (endE (⟨(o1 : Int), (o2 : Int), (o3 : Int)⟩ : En)) (by decide) infoEn (endE_one _ _)) ?_))
              clear hw1 hw2
              obtain ⟨WJ, hWJ⟩ : ∃ W, W = v5.setRow ub (vec 8 (spl 2 3 (endE (⟨(o1 : Int), (o2 : Int), (o3 : Int)⟩ : En)) (chE ⟨(m1 : Int), (m2 : Int), e1, e2⟩))) := ⟨_, rfl⟩
              have hsJ : Save ub v5 WJ := by rw [hWJ]; exact (Save.refl _ _).setRow _
              have haJ : Arr WJ ub 71 8 (chE ⟨(m1 : Int), (m2 : Int), (⟨(o1 : Int), (o2 : Int), (o3 : Int)⟩ : En), e2⟩) := by rw [hWJ]; exact (HBX.out.row _).congr (spl_a _ _ _ _ _)
              have hsv5 : Save g wk v5 := ((HJ.out.2.2.1.trans HF1.out.2.2).trans HF2.out.2.2).trans HF3.out.2.2
              have HJ2 : Hid (Arr WJ ub 71 8 (chE ⟨(m1 : Int), (m2 : Int), (⟨(o1 : Int), (o2 : Int), (o3 : Int)⟩ : En), e2⟩) ∧ RQ WJ g A c b u3 ∧ Save g wk WJ ∧ EndP b t2 1 (⟨(o1 : Int), (o2 : Int), (o3 : Int)⟩ : En) e2 u3) := Lib.hid ⟨haJ, HF3.out.2.1.save hsJ HUB.out.1, ⟨hsJ.os.trans hsv5.os, hsJ.tape.trans hsv5.tape, hsJ.output.trans hsv5.output, Nat.le_trans hsv5.size hsJ.size, fun k hk hkg => (hsJ.block k (Nat.lt_of_lt_of_le hk hsv5.size) (by have := HUB.out; omega)).trans (hsv5.block k hk hkg)⟩, by have hj := HJ.out.2.2.2; have hj : s' = t2 := hj; rw [← hj]; exact step_end HF1.out.1 HF2.out.1 HF3.out.1⟩
              rw [← hWJ]
              clear hWJ hsJ haJ hsv5
              go_wp2_with fail
              go_roundw
              case rel => exact ⟨1, (⟨(o1 : Int), (o2 : Int), (o3 : Int)⟩ : En), e2, u3, by decide, rfl, HJ2⟩
              case measure => simp [intOf]
            · have HC3 := Lib.hid (rnum_any 2 65535 144 (by decide) (by decide) (by decide) HJ.out.2.1)
              go_upto_region 26 with (first
                | (go_at_call 21; (with_reducible show Calls _ _ #[_, _, .int .u64 65535, _] _ _); refine HC3.out.mono ?_; rintro x v3 ⟨o1, u1, rfl, hn, hst, hr, hsv⟩; have hw1 : IntKind.i64.wrap (o1 : Int) = (o1 : Int) := (by rw [IntKind.wrap_i64]; have := lt2 hn; omega); have HF1 := Lib.hid (And.intro hst (And.intro hr hsv)); have HC4 := Lib.hid (rnum_any 2 7 144 (by decide) (by decide) (by decide) hr); clear hn hst hr hsv)
                | (go_at_call 21; refine HC4.out.mono ?_; rintro x v4 ⟨o2, u2, rfl, hn, hst, hr, hsv⟩; have hw2 : IntKind.i64.wrap (o2 : Int) = (o2 : Int) := (by rw [IntKind.wrap_i64]; have := lt2 hn; omega); have HF2 := Lib.hid (And.intro hst (And.intro hr hsv)); have HC5 := Lib.hid (rwide_any hr); clear hn hst hr hsv)
                | (go_at_call 24; refine HC5.out.mono ?_; rintro x v5 ⟨o3, u3, rfl, hn, hst, hr, hsv⟩; have HF3 := Lib.hid (And.intro hst (And.intro hr hsv)); have HBX := Lib.hid (((HJ.out.1.save HF1.out.2.2 (by have := HUB.out; omega)).save HF2.out.2.2 (by have := HUB.out; omega)).save hsv (by have := HUB.out; omega)); clear hn hst hr hsv)
                | ((with_reducible show wpList _ _ _ (Oper.mk _ (.build _ _) _ _ _ _ :: _) _ _); refine wl_build rfl 68 _ rfl (vec 3 (endE (⟨(o1 : Int), (o2 : Int), (o3 : Int)⟩ : En))) (by kernel_rfl) ?_)
                | ((with_reducible show wpList _ _ _ (Oper.mk _ (.store _ _ _) _ _ _ _ :: _) _ _); refine wl_store_q rfl 68 _ _ rfl ⟨ub, 5, none⟩ rfl _ rfl (run_store_spl HBX.out (endE (⟨(o1 : Int), (o2 : Int), (o3 : Int)⟩ : En)) (by decide) infoEn (endE_one _ _)) ?_))
              clear hw1 hw2
              obtain ⟨WJ, hWJ⟩ : ∃ W, W = v5.setRow ub (vec 8 (spl 5 3 (endE (⟨(o1 : Int), (o2 : Int), (o3 : Int)⟩ : En)) (chE ⟨(m1 : Int), (m2 : Int), e1, e2⟩))) := ⟨_, rfl⟩
              have hsJ : Save ub v5 WJ := by rw [hWJ]; exact (Save.refl _ _).setRow _
              have haJ : Arr WJ ub 71 8 (chE ⟨(m1 : Int), (m2 : Int), e1, (⟨(o1 : Int), (o2 : Int), (o3 : Int)⟩ : En)⟩) := by rw [hWJ]; exact (HBX.out.row _).congr (spl_b _ _ _ _ _)
              have hsv5 : Save g wk v5 := ((HJ.out.2.2.1.trans HF1.out.2.2).trans HF2.out.2.2).trans HF3.out.2.2
              have HJ2 : Hid (Arr WJ ub 71 8 (chE ⟨(m1 : Int), (m2 : Int), e1, (⟨(o1 : Int), (o2 : Int), (o3 : Int)⟩ : En)⟩) ∧ RQ WJ g A c b u3 ∧ Save g wk WJ ∧ EndP b t2 2 e1 (⟨(o1 : Int), (o2 : Int), (o3 : Int)⟩ : En) u3) := Lib.hid ⟨haJ, HF3.out.2.1.save hsJ HUB.out.1, ⟨hsJ.os.trans hsv5.os, hsJ.tape.trans hsv5.tape, hsJ.output.trans hsv5.output, Nat.le_trans hsv5.size hsJ.size, fun k hk hkg => (hsJ.block k (Nat.lt_of_lt_of_le hk hsv5.size) (by have := HUB.out; omega)).trans (hsv5.block k hk hkg)⟩, ⟨s', HJ.out.2.2.2, step_end HF1.out.1 HF2.out.1 HF3.out.1⟩⟩
              rw [← hWJ]
              clear hWJ hsJ haJ hsv5
              go_wp2_with fail
              go_roundw
              case rel => exact ⟨2, e1, (⟨(o1 : Int), (o2 : Int), (o3 : Int)⟩ : En), u3, by decide, rfl, HJ2⟩
              case measure => simp [intOf]
            · have hps := HI.out.2.1.1.call HJ.out.2.1 HJ.out.2.2.1
              have hown := HI.out.2.1.2.2.save HJ.out.2.2.1 HWQ.out.1
              have hft := HI.out.2.1.2.1.save HJ.out.2.2.1
              obtain ⟨xc, hxc⟩ : ∃ x : Ch, x = ⟨(m1 : Int), (m2 : Int), e1, e2⟩ := ⟨_, rfl⟩
              have HXA : Hid (Arr wj ub 71 8 (chE xc)) := Lib.hid (by rw [hxc]; exact HJ.out.1)
              have HXS : Hid (StepP chC b s xc s') := Lib.hid (by
                rw [hxc]
                obtain ⟨sm, j1, j2⟩ := HJ.out.2.2.2
                exact step_ch HD1.out.1 HD2.out.1 j1 j2)
              obtain ⟨BN, dN, w2, hrun, ho2, hbl⟩ := app_E (P := Tryd.prog) (n := 8) (enc := chE) (ts := 26) (t := 71) Tryd.underlying26 info_channel (vec_size _ _) (by decide) (fun x i hi => chE_one x _ i hi) xc hown hft.size (by have := HLK.out; omega) (by decide) 26
              rw [HLK.out.1] at hrun ho2
              have k0 := hps.cells.1.2
              have hp2 := hps.deep (hbl.mono HWQ.out.2)
              have k3 := hp2.cells.1.2
              have k4 := hp2.cells.2.2
              have HFN : Hid ((PS w g A c b r q (n6 : Int) (w2.setCell ⟨q, 2, none⟩ (.slice BN (k + 1) dN)) s' v1 (.slice BN (k + 1) dN) ∧ FT g q WA (w2.setCell ⟨q, 2, none⟩ (.slice BN (k + 1) dN)) ∧ OwnE 71 8 chE (w2.setCell ⟨q, 2, none⟩ (.slice BN (k + 1) dN)) WA.heap.size (.slice BN (k + 1) dN) (m ++ [xc]))) := Lib.hid
                ⟨hp2.set 2 _ (upd_cf2 _ _ _ _), (hft.on hbl hbl.size).saveU ((Save.refl _ _).setCell 2 _), ho2.save ((Save.refl _ _).setCell 2 _) HWQ.out.2⟩
              clear hps hown hft hp2 ho2 hbl hxc
              go_wp2_with (first
                | ((with_reducible show wpList _ _ _ (Oper.mk _ (.load 71 _) _ _ _ _ :: _) _ _); refine wl_load rfl 71 _ rfl _ rfl _ (run_load_arr HXA.out Tryd.underlying71 rfl infoCh) ?_)
                | ((with_reducible show wpList _ _ _ (Oper.mk _ (.buildSlice _ _ _) _ _ _ _ :: _) _ _); refine wl_bs1 rfl _ rfl _ rfl (build_channel xc wj) ?_))
              go_roundw
              case rel => exact ⟨k + 1, BN, dN, m ++ [xc], s', by have := HLT.out; omega, by go_num, Lib.hid ⟨by rw [List.length_append, HLK.out.1]; rfl, HFN.out, HI.out.2.2.snoc HE0.out HXS.out⟩⟩
              case measure => have := HLT.out; simp [intOf]; omega
        · have z0 : ((E : Int) == 0) = false := by simp; omega
          have z1 : ¬ (E : Int) = 0 := by omega
          have HNE : Hid (s.err ≠ none) := Lib.hid (erN_some (by rw [← HEE.out]; exact h0))
          clear h0
          go_wp2_with fail
          go_meet
          exact ⟨_, m, s, Lib.hid ⟨HI.out.2.1.1, HI.out.2.1.2, HI.out.2.2.ends (Or.inr ⟨hk, HNE.out⟩)⟩⟩
      · have hki : ¬ (k : Int) < (n4 : Int) := by omega
        have HKE : Hid (k = n4) := Lib.hid (by omega)
        go_wp2_with fail
        go_meet
        exact ⟨_, m, s, Lib.hid ⟨HI.out.2.1.1, HI.out.2.1.2, HI.out.2.2.ends (Or.inl HKE.out)⟩⟩
  obtain ⟨v2, m, s8, HH⟩ := hcut
  obtain ⟨WB, hwx⟩ : ∃ W : World, W = wc := ⟨_, rfl⟩
  subst hwx
  have HP := Lib.hid HH.out.1
  have HOW := Lib.hid (And.intro (HGS.out.ft HH.out.2.1.1 (Nat.lt_succ_of_lt HP.out.gq) (Nat.lt_succ_self _)) (HH.out.2.1.2.low (base' := q + 1) HWQ.out.2))
  have HCFG : Hid (StepP (cfC kOk) b ⟨0, none⟩ ⟨(n6 : Int), l1, m⟩ s8) := Lib.hid (step_cf HS1.out HS2.out HS3.out HT4.out HT5.out HT6.out HL1.out HH.out.2.2)
  clear HH HB4 HGS HL1 HWQ
  have c2 := HP.out.rq.at2
  have c1 := HP.out.rq.at1
  obtain ⟨E, hE⟩ : ∃ E, E = erN s8.err := ⟨_, rfl⟩
  obtain ⟨a8, ha8⟩ : ∃ a, a = s8.at_ := ⟨_, rfl⟩
  rw [← hE] at c2
  rw [← ha8] at c1
  obtain ⟨nz, hnz⟩ : ∃ x, x = (decide (E = 0) && decide (a8 < N)) := ⟨_, rfl⟩
  have HEA := Lib.hid (And.intro hE (And.intro ha8 hnz))
  clear hE ha8
  go_upto_region 28 with fail
  go_cut [117] from 104 to 117 (fun s117 wx => s117 = .bool nz ∧ wx = WB)
  case first =>
    by_cases h0 : E = 0
    · have z0 : ((E : Int) == 0) = true := by rw [h0]; rfl
      have z2 : (E : Int) = 0 := by omega
      by_cases h1 : a8 < N
      · have y0 : decide ((a8 : Int) < (N : Int)) = true := decide_eq_true (by omega)
        have y1 : decide (a8 < N) = true := decide_eq_true h1
        obtain rfl : nz = true := by rw [hnz, y1]; simp [h0]
        clear hnz h0 h1
        go_wp2_with fail
        go_meet
        exact ⟨rfl, rfl⟩
      · have y0 : decide ((a8 : Int) < (N : Int)) = false := decide_eq_false (by omega)
        have y1 : decide (a8 < N) = false := decide_eq_false h1
        obtain rfl : nz = false := by rw [hnz, y1]; simp
        clear hnz h0 h1
        go_wp2_with fail
        go_meet
        exact ⟨rfl, rfl⟩
    · have z0 : ((E : Int) == 0) = false := by simp; omega
      have z2 : ¬ (E : Int) = 0 := by omega
      obtain rfl : nz = false := by rw [hnz]; simp [h0]
      clear hnz h0
      go_wp2_with fail
      go_meet
      exact ⟨rfl, rfl⟩
  obtain ⟨rfl, hwc⟩ := hcut
  clear hnz c2
  rw [hwc]
  clear hwc
  have HEND : Hid (endR b s8 = if nz = true then s8.fail 145 a8 else s8) := Lib.hid (by
    rw [HEA.out.2.2, HEA.out.1, HEA.out.2.1]
    unfold endR
    rw [← HNB.out]
    cases he : s8.err with
    | none =>
      by_cases hl : s8.at_ < N
      · rw [if_pos ⟨rfl, hl⟩]; simp [erN, hl]
      · rw [if_neg (by rintro ⟨_, h2⟩; exact hl h2)]; simp [erN, hl]
    | some x =>
      have hx := HP.out.rq.err x he
      rw [if_neg (by rintro ⟨h1, _⟩; cases h1)]
      have : erN (some x) ≠ 0 := hx
      simp [this])
  go_upto_if 117 with fail
  go_cut [] from 118 to 123 (fun wx => Hid (PS w g A c b r q (n6 : Int) wx (if nz = true then s8.fail 145 a8 else s8) v1 v2 ∧ guestsV (q + 1) wx l1 v1 ∧ OwnE 71 8 chE wx (q + 1) v2 m))
  case first =>
    cases nz
    · go_wp2_with fail
      go_meet
      exact Lib.hid ⟨HP.out, HOW.out.1, HOW.out.2⟩
    · have HF := Lib.hid (rfail_any 145 a8 (by decide) HP.out.rq)
      go_wp2_with (go_at_call 22; refine HF.out.mono ?_; rintro x wf ⟨rfl, hr, hsv⟩; have HR2 : Hid (PS w g A c b r q (n6 : Int) wf (s8.fail 145 a8) v1 v2 ∧ guestsV (q + 1) wf l1 v1 ∧ OwnE 71 8 chE wf (q + 1) v2 m) := Lib.hid ⟨HP.out.call hr hsv, HOW.out.1.save hsv (Nat.lt_succ_of_lt HP.out.gq), HOW.out.2.save hsv (Nat.lt_succ_of_lt HP.out.gq)⟩; clear hr hsv)
      go_meet
      exact HR2
  rw [← HEND.out] at hcut
  obtain ⟨sF, hsF⟩ : ∃ x, x = endR b s8 := ⟨_, rfl⟩
  rw [← hsF] at hcut
  have HSF := Lib.hid hsF
  have HP := Lib.hid hcut.out.1
  have HOW := Lib.hid hcut.out.2
  clear hcut hsF HEND HEA
  obtain ⟨WC, hwx⟩ : ∃ W : World, W = wc := ⟨_, rfl⟩
  rw [← hwx] at HP HOW ⊢
  clear hwx c1
  have c2 := HP.out.rq.at2
  have c3 := HP.out.rq.at3
  by_cases h0 : erN sF.err = 0
  · have hno := erN_zero HP.out.rq.err h0
    rw [hno] at c2
    have c2 : WC.cell? ⟨g, 2, none⟩ = some (.int .i64 0) := c2
    have z0 : ((0 : Int) != 0) = false := rfl
    have HOK : Hid (getC kOk b = .ok ⟨(n6 : Int), l1, m⟩) := Lib.hid (getC_endN HLEN.out HCFG.out (by rw [← HSF.out]; exact hno))
    have HV1 : Hid (v1.oneCell' = true ∧ v2.oneCell' = true) := Lib.hid (by
      obtain ⟨A1, d1, e1⟩ := HOW.out.1.form
      obtain ⟨A2, d2, e2, _⟩ := HOW.out.2.form
      rw [e1, e2]
      exact ⟨rfl, rfl⟩)
    clear h0 hno c3
    go_wp2_with (first
      | ((with_reducible show wpList _ _ _ (Oper.mk _ (.load 28 _) _ _ _ _ :: _) _ _); refine wl_load rfl 28 _ rfl _ rfl _ (run_load_arr HP.out.box Tryd.underlying28 rfl infoCf) ?_)
      | ((with_reducible show wpList _ _ _ (Oper.mk _ (.store _ _ _) _ _ _ _ :: _) _ _); refine wl_store rfl 28 _ _ rfl _ rfl _ rfl (run_store_arr HP.out.res (cfE (n6 : Int) v1 v2) infoCf (cfE_one _ _ _ HV1.out.1 HV1.out.2 _)) ?_))
    have hs : Save r WC (WC.setRow r (vec 3 (cfE (n6 : Int) v1 v2))) := (Save.refl _ _).setRow _
    exact bodyPost_ret (results_ctt rfl _ _ _ rfl (run_load_arr (HP.out.res.row _) Tryd.underlying28 rfl infoCf)) rfl (by
      have hrg := HP.out.rg
      have hgq := HP.out.gq
      have hwr := HP.out.wr
      exact HQO.out ⟨(n6 : Int), l1, m⟩ _ _ HOK.out ⟨v1, v2, rfl, (HOW.out.1.save hs (by omega)).low (by omega), (HOW.out.2.save hs (by omega)).low (by omega)⟩ (HP.out.bel.trans (hs.below (by omega) HP.out.bel.size)))
  · obtain ⟨er, her⟩ : ∃ e, e = erN sF.err := ⟨_, rfl⟩
    obtain ⟨pl, hpl⟩ : ∃ p, p = plN sF.err := ⟨_, rfl⟩
    rw [← her] at c2 h0
    rw [← hpl] at c3
    have z0 : ((er : Int) != 0) = true := bne_iff_ne.2 (by omega)
    have z1 : ¬ (er : Int) = 0 := by omega
    have HER : Hid (getC kOk b = .error (er, pl)) := Lib.hid (by
      cases he : sF.err with
      | none => rw [he] at her; exact absurd her h0
      | some x =>
        rw [he] at her hpl
        have := getC_endS HLEN.out HCFG.out (by rw [← HSF.out]; exact he)
        rw [this, her, hpl]
        rfl)
    have HC23 : Hid (∀ Y, Save r WC Y → Y.cell? ⟨g, 2, none⟩ = some (.int .i64 (er : Int)) ∧ Y.cell? ⟨g, 3, none⟩ = some (.int .i64 (pl : Int))) := Lib.hid (fun Y hY => by
      have hg := HP.out.rq.lt
      have hrg := HP.out.rg
      exact ⟨(hY.cell (p := ⟨g, 2, none⟩) hg (by show g ≠ r; omega)).trans c2, (hY.cell (p := ⟨g, 3, none⟩) hg (by show g ≠ r; omega)).trans c3⟩)
    have HRS := Lib.hid HP.out.res
    have HFI : Hid (∀ Y, Save r WC Y → Below w.heap.size w Y) := Lib.hid (fun Y hY => HP.out.bel.trans (hY.below (by have := HP.out.wr; omega) HP.out.bel.size))
    clear h0 her hpl c3
    go_upto_region 31 with fail
    clear c2 z0 z1
    refine wp_region_held_drew (S := fun Y => Save r WC Y) (by kernel_rfl) (show Save r WC WC.drew from ⟨rfl, rfl, rfl, Nat.le_refl _, fun _ _ _ => rfl⟩) (fun hS => ?_)
    (refine held_take (i := 0) (oi := ?ot14) (v := .agg (vec 3 (cfE 0 nilV nilV))) ?at14 (by kernel_rfl) (by kernel_rfl) (by kernel_rfl) ?bt14 ?ct14 ?dt14 (by assumption) ?rt14; (case at14 => (simp only [List.getElem?_toArray, List.getElem?_cons_zero]; rfl)); (case bt14 => exact fun _ _ _ h => h); (case ct14 => kernel_rfl); (case dt14 => (intro W hW; exact exec_build 28 _ rfl (vec 3 (cfE 0 nilV nilV)) (by kernel_rfl) W)); (case' rt14 => simp only [Act.put, List.setIfInBounds_toArray, List.set_cons_zero, List.set_cons_succ]))
    (refine held_take (i := 1) (oi := ?ot15) (v := ?vt15) ?at15 (by kernel_rfl) (by kernel_rfl) (by kernel_rfl) ?bt15 ?ct15 ?dt15 (by assumption) ?rt15; (case at15 => (simp only [List.getElem?_toArray, List.getElem?_cons_zero, List.getElem?_cons_succ]; rfl)); (case bt15 => exact fun _ _ _ h => h); (case ct15 => kernel_rfl); (case dt15 => (intro W hW; (try dsimp only at hW); go_split_ands; go_simp; (try with_reducible rfl))); (case' rt15 => simp only [Act.put, List.setIfInBounds_toArray, List.set_cons_zero, List.set_cons_succ]))
    (refine held_take (i := 2) (oi := ?ot16) (v := ?vt16) ?at16 (by kernel_rfl) (by kernel_rfl) (by kernel_rfl) ?bt16 ?ct16 ?dt16 (by assumption) ?rt16; (case at16 => (simp only [List.getElem?_toArray, List.getElem?_cons_zero, List.getElem?_cons_succ]; rfl)); (case bt16 => exact fun _ _ _ h => h); (case ct16 => kernel_rfl); (case dt16 => (intro W hW; (try dsimp only at hW); go_split_ands; go_simp; (try with_reducible rfl))); (case' rt16 => simp only [Act.put, List.setIfInBounds_toArray, List.set_cons_zero, List.set_cons_succ]))
    (refine held_take (i := 3) (oi := ?ot17) (v := ?vt17) ?at17 (by kernel_rfl) (by kernel_rfl) (by kernel_rfl) ?bt17 ?ct17 ?dt17 (by assumption) ?rt17; (case at17 => (simp only [List.getElem?_toArray, List.getElem?_cons_zero, List.getElem?_cons_succ]; rfl)); (case bt17 => exact fun _ _ _ h => h); (case ct17 => kernel_rfl); (case dt17 => (intro W hW; (try dsimp only at hW); go_split_ands; go_simp; (try with_reducible rfl))); (case' rt17 => simp only [Act.put, List.setIfInBounds_toArray, List.set_cons_zero, List.set_cons_succ]))
    (refine held_take (i := 4) (oi := ?ot18) (v := .int .i64 (pl : Int)) ?at18 (by kernel_rfl) (by kernel_rfl) (by kernel_rfl) ?bt18 ?ct18 ?dt18 (by assumption) ?rt18; (case at18 => (simp only [List.getElem?_toArray, List.getElem?_cons_zero, List.getElem?_cons_succ]; rfl)); (case bt18 => exact fun _ _ _ h => h); (case ct18 => kernel_rfl); (case dt18 => (intro W hW; have c3 := (HC23.out W hW).2; clear hW; go_simp; (try with_reducible rfl))); (case' rt18 => simp only [Act.put, List.setIfInBounds_toArray, List.set_cons_zero, List.set_cons_succ]))
    (refine held_take (i := 5) (oi := ?ot19) (v := ?vt19) ?at19 (by kernel_rfl) (by kernel_rfl) (by kernel_rfl) ?bt19 ?ct19 ?dt19 (by assumption) ?rt19; (case at19 => (simp only [List.getElem?_toArray, List.getElem?_cons_zero, List.getElem?_cons_succ]; rfl)); (case bt19 => exact fun _ _ _ h => h); (case ct19 => kernel_rfl); (case dt19 => (intro W hW; (try dsimp only at hW); go_split_ands; go_simp; (try with_reducible rfl))); (case' rt19 => simp only [Act.put, List.setIfInBounds_toArray, List.set_cons_zero, List.set_cons_succ]))
    (refine held_take (i := 6) (oi := ?ot20) (v := ?vt20) ?at20 (by kernel_rfl) (by kernel_rfl) (by kernel_rfl) ?bt20 ?ct20 ?dt20 (by assumption) ?rt20; (case at20 => (simp only [List.getElem?_toArray, List.getElem?_cons_zero, List.getElem?_cons_succ]; rfl)); (case bt20 => exact fun _ _ _ h => h); (case ct20 => kernel_rfl); (case dt20 => (intro W hW; (try dsimp only at hW); go_split_ands; go_simp; (try with_reducible rfl))); (case' rt20 => simp only [Act.put, List.setIfInBounds_toArray, List.set_cons_zero, List.set_cons_succ]))
    (refine held_take (i := 7) (oi := ?ot21) (v := ?vt21) ?at21 (by kernel_rfl) (by kernel_rfl) (by kernel_rfl) ?bt21 ?ct21 ?dt21 (by assumption) ?rt21; (case at21 => (simp only [List.getElem?_toArray, List.getElem?_cons_zero, List.getElem?_cons_succ]; rfl)); (case bt21 => exact fun _ _ _ h => h); (case ct21 => kernel_rfl); (case dt21 => (intro W hW; (try dsimp only at hW); go_split_ands; go_simp; (try with_reducible rfl))); (case' rt21 => simp only [Act.put, List.setIfInBounds_toArray, List.set_cons_zero, List.set_cons_succ]))
    (refine held_take (i := 8) (oi := ?ot22) (v := .int .i64 (er : Int)) ?at22 (by kernel_rfl) (by kernel_rfl) (by kernel_rfl) ?bt22 ?ct22 ?dt22 (by assumption) ?rt22; (case at22 => (simp only [List.getElem?_toArray, List.getElem?_cons_zero, List.getElem?_cons_succ]; rfl)); (case bt22 => exact fun _ _ _ h => h); (case ct22 => kernel_rfl); (case dt22 => (intro W hW; have c2 := (HC23.out W hW).1; clear hW; go_simp; (try with_reducible rfl))); (case' rt22 => simp only [Act.put, List.setIfInBounds_toArray, List.set_cons_zero, List.set_cons_succ]))
    refine held_one (i := 9) (oi := ?ot23) (by kernel_rfl) ?at23 ?ct23 (fun K9 hK9 => ?_)
    (case at23 => (simp only [List.getElem?_toArray, List.getElem?_cons_zero, List.getElem?_cons_succ]; rfl))
    (case ct23 => kernel_rfl)
    refine ow_store 28 _ _ rfl _ rfl _ rfl (run_store_arr (show Arr WC.drew r 28 3 _ from HRS.out) (cfE 0 nilV nilV) infoCf (cfE_one _ _ _ rfl rfl _)) ?_
    have HST := Lib.hid ((show Arr WC.drew r 28 3 _ from HRS.out).row (cfE 0 nilV nilV))
    refine hK9 _ _ (hS.setRow _) (fun hS9 => ?_)
    clear hK9 K9 hS
    (refine held_take (i := 10) (oi := ?ot24) (v := ?vt24) ?at24 (by kernel_rfl) (by kernel_rfl) (by kernel_rfl) ?bt24 ?ct24 ?dt24 (by assumption) ?rt24; (case at24 => (simp only [List.getElem?_toArray, List.getElem?_cons_zero, List.getElem?_cons_succ]; rfl)); (case bt24 => exact fun _ _ _ h => h); (case ct24 => kernel_rfl); (case dt24 => (intro W hW; (try dsimp only at hW); go_split_ands; go_simp; (try with_reducible rfl))); (case' rt24 => simp only [Act.put, List.setIfInBounds_toArray, List.set_cons_zero, List.set_cons_succ]))
    (refine held_take (i := 11) (oi := ?ot25) (v := ?vt25) ?at25 (by kernel_rfl) (by kernel_rfl) (by kernel_rfl) ?bt25 ?ct25 ?dt25 (by assumption) ?rt25; (case at25 => (simp only [List.getElem?_toArray, List.getElem?_cons_zero, List.getElem?_cons_succ]; rfl)); (case bt25 => exact fun _ _ _ h => h); (case ct25 => kernel_rfl); (case dt25 => (intro W hW; (try dsimp only at hW); go_split_ands; go_simp; (try with_reducible rfl))); (case' rt25 => simp only [Act.put, List.setIfInBounds_toArray, List.set_cons_zero, List.set_cons_succ]))
    refine wpAnyH_done (by kernel_rfl) ?_ _
    go_wp2_with fail
    exact bodyPost_ret (results_ctt rfl _ _ _ rfl (run_load_arr HST.out Tryd.underlying28 rfl infoCf)) rfl (by exact HQE.out er pl _ HER.out (HFI.out _ hS9))
end Go.Proofs.YtmcpmcicolpoeaaDoor
