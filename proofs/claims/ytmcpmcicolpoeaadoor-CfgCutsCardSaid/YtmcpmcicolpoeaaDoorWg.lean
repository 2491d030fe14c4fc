/- The reference's writer: guest. -/
import Derived.Test.YtmcpmcicolpoeaaDoorWx
import Derived.Test.YtmcpmcicolpoeaaDoorWk
import Derived.Lib.AppendZeros
import Derived.Deep.CutBlock
import Derived.Deep.CutRange
namespace Go.Proofs.YtmcpmcicolpoeaaDoor
open Go.RowKit
attribute [local go_sem ↓ high] zeroKey zeroWi

section
variable {V W W' : World} {b0 : Option Nat} {g : Nat} {l l' : By} {m m' e : Nat}
/-- A box made since: a new ground to stand on. -/
theorem WS.box (h : WS V b0 g l m e W) (hb : Below W.heap.size W W') : ∃ b, WS W' b g l m e W' ∧ (∀ q, W.heap.size ≤ q → q ≠ g ∧ b ≠ some q) ∧ ∀ l' m' e' W'', WS W' b g l' m' e' W'' → WS V b0 g l' m' e' W'' := by
  obtain ⟨b, h1, h2⟩ := h.ww
  have h3 := h1.on hb
  refine ⟨b, h3.begin, fun q hq => ⟨fun e => by have := h1.lt; omega, fun e => by have := h1.off q e; omega⟩, fun l' m' e' W'' k => ?_⟩
  obtain ⟨b', k1, k2⟩ := k.ww
  have hsz := hb.size
  refine ⟨⟨b', k1, fun i hi => ?_⟩, (h.tu.trans (WT.of_below (b := none) hb) (fun _ e => by cases e)).trans k.tu h2, h.lt, h.off⟩
  rcases k2 i hi with h3 | h3
  · exact h2 i h3
  · exact Or.inr (Nat.le_trans (Nat.le_trans h.tu.size hsz) h3)
theorem WS.blk (h : WS V b0 g l m e W) {q : Nat} {t : TypeId} {cs : Array Value} (ha : Blk V q t cs) (h1 : q ≠ g) (h2 : b0 ≠ some q) : Blk W q t cs := (h.tu.block q ha.lt h1 h2).trans ha
theorem WS.drew (h : WS V b0 g l m e W) : WS V b0 g l m e W.drew := h.on ⟨rfl, rfl, rfl, Nat.le_refl _, fun _ _ => rfl⟩
end
theorem errL_sq {α : Type} (e : α → Nat) : ∀ (l : List α) (x : α), errL e (l ++ [x]) = seqE (errL e l) (e x)
  | [], x => by
    show (if e x = 0 then 0 else e x) = _
    unfold seqE errL
    rw [if_pos rfl]
    split <;> omega
  | y :: ys, x => by
    show (if e y = 0 then errL e (ys ++ [x]) else e y) = seqE (if e y = 0 then errL e ys else e y) (e x)
    rw [errL_sq e ys x]
    by_cases h : e y = 0
    · rw [if_pos h, if_pos h]
    · rw [if_neg h, if_neg h, seqE_of h]
theorem errL_app {α : Type} (e : α → Nat) : ∀ (l k : List α), errL e (l ++ k) = seqE (errL e l) (errL e k)
  | [], k => rfl
  | y :: ys, k => by
    show (if e y = 0 then errL e (ys ++ k) else e y) = seqE (if e y = 0 then errL e ys else e y) (errL e k)
    rw [errL_app e ys k]
    by_cases h : e y = 0
    · rw [if_pos h, if_pos h]
    · rw [if_neg h, if_neg h, seqE_of h]
/-- The first error is told whatever follows. -/
theorem seqE_stop {α : Type} (e : α → Nat) (E : Nat) (l : List α) (k : Nat) (h : seqE E (errL e (l.take k)) ≠ 0) : seqE E (errL e l) = seqE E (errL e (l.take k)) := by
  have h1 : errL e l = seqE (errL e (l.take k)) (errL e (l.drop k)) := by rw [← errL_app, List.take_append_drop]
  rw [h1]
  unfold seqE at *
  by_cases hE : E = 0
  · rw [if_pos hE] at h ⊢
    rw [if_pos hE, if_neg h]
  · rw [if_neg hE, if_neg hE]
theorem take_flat {α : Type} (f : α → By) (l : List α) (k : Nat) (h : k < l.length) : (l.take (k + 1)).flatMap f = (l.take k).flatMap f ++ f l[k] := by
  rw [List.take_succ_eq_append_getElem h, List.flatMap_append]; simp
theorem take_err {α : Type} (e : α → Nat) (l : List α) (k : Nat) (h : k < l.length) : errL e (l.take (k + 1)) = seqE (errL e (l.take k)) (e l[k]) := by
  rw [List.take_succ_eq_append_getElem h, errL_sq]
def cnt4 (a b c d : Nat) (k : Nat) : Nat := if k = 0 then a else if k = 1 then b else if k = 2 then c else d
theorem add_at (q a i : Nat) : (⟨q, a, none⟩ : Addr).add i = ⟨q, a + i, none⟩ := by
  unfold Addr.add; by_cases h0 : i = 0 <;> simp [h0]
theorem eLzero {α : Type} (l : List α) : errL (fun _ : α => 0) l = 0 := errL_none l fun _ _ => rfl
section
variable {V : World} {b0 : Option Nat} {g : Nat} {l : By} {m e : Nat}
set_option maxHeartbeats 16000000 in
set_option maxRecDepth 100000 in
theorem wguest_any (x : GV) (W0 : World) (h : WS V b0 g l m e W0) (hr : GRow W0 g x) (hb : GsB x.g) (hnk : x.g.name.length ≤ 1000000) (hm : m ≤ 500000) : Calls Tryd.prog 29 #[.pointer (some ⟨g, 0, none⟩), .agg (vec 79 (guestE x))] W0 (WPo V b0 g (l ++ layG x.g) (m + 3000) (seqE e (errG x.g))) := by
  obtain ⟨V1, hV1⟩ : ∃ V1, V1 = W0.alloc (.cells (vec 79 (guestE x)) 64) := ⟨_, rfl⟩
  have hB : Below W0.heap.size W0 V1 := by rw [hV1]; exact (Below.refl _ _).alloc (Nat.le_refl _) _
  have k1 : Arr V1 W0.heap.size 64 79 (guestE x) := by rw [hV1]; exact Arr.new W0 _ _ _
  obtain ⟨b, hS, hoff, hback⟩ := h.box hB
  have hgl := hr.below (hB.mono (Nat.le_of_lt h.ltW))
  have HW0 := Lib.hid hV1
  have HERR : Hid (errG x.g = seqE (if nameOk x.g.name = true then 0 else 143) (seqE (if kOk x.g.key = true then 0 else 144) (seqE (if cntOk x.g = true then 0 else 142) (seqE (errL (fun y => e144 (badWi y)) x.g.wins) (errL (fun y => e144 (badIr y)) x.g.irqs))))) := Lib.hid (by
    rw [errL_all (e := fun y => e144 (badWi y)) (b := badWi) (n := 144) (fun _ => rfl) (by decide), errL_all (e := fun y => e144 (badIr y)) (b := badIr) (n := 144) (fun _ => rfl) (by decide)]
    unfold errG e144 seqE
    cases nameOk x.g.name <;> cases kOk x.g.key <;> cases cntOk x.g <;> cases x.g.wins.any badWi <;> cases x.g.irqs.any badIr <;> rfl)
  obtain ⟨⟨nm, mu, off, ln, cp, en, dt, ky, wins, devs, irqs, strs⟩, wv, dv, iv, sv⟩ := x
  obtain ⟨⟨A0, d0, ev0, r0, n0⟩, ⟨A1, d1, ev1, r1, n1⟩, ⟨A2, d2, ev2, r2, n2⟩, ⟨A3, d3, ev3, r3, n3⟩⟩ := hgl
  simp only at ev0 r0 n0 ev1 r1 n1 ev2 r2 n2 ev3 r3 n3 HERR hnk
  obtain ⟨p1, p2, p3, p4, p5, p6, p7, p8, p9, p10⟩ := hb
  simp only at p1 p2 p3 p4 p5 p6 p7 p8 p9 p10
  obtain ⟨N0, e0⟩ : ∃ n, n = wins.length := ⟨_, rfl⟩
  obtain ⟨N1, e1⟩ : ∃ n, n = devs.length := ⟨_, rfl⟩
  obtain ⟨N2, e2⟩ : ∃ n, n = irqs.length := ⟨_, rfl⟩
  obtain ⟨N3, e3⟩ : ∃ n, n = strs.length := ⟨_, rfl⟩
  rw [← e0] at ev0 n0
  rw [← e1] at ev1 n1
  rw [← e2] at ev2 n2
  rw [← e3] at ev3 n3
  subst ev0 ev1 ev2 ev3
  obtain ⟨q, hq⟩ : ∃ q, q = W0.heap.size := ⟨_, rfl⟩
  rw [← hq] at k1 hoff
  have HQ0 := Lib.hid hq
  have HK : Hid (∀ (l' : By) (m' e' : Nat) (Y : World), WS V1 b g l' m' e' Y → Arr Y q 64 79 (guestE ⟨⟨nm, mu, off, ln, cp, en, dt, ky, wins, devs, irqs, strs⟩, .slice A0 N0 d0, .slice A1 N1 d1, .slice A2 N2 d2, .slice A3 N3 d3⟩)) := Lib.hid (fun l' m' e' Y hs => hs.arr k1 (hoff q (Nat.le_refl _)).1 (hoff q (Nat.le_refl _)).2)
  have HC : Hid (∀ (l' : By) (m' e' : Nat) (Y : World), WS V1 b g l' m' e' Y → Y.cell? ⟨q, 0, none⟩ = some (.string (strOf nm)) ∧ Y.cell? ⟨q, 1, none⟩ = some (.bool mu) ∧ Y.cell? ⟨q, 2, none⟩ = some (.int .u32 off) ∧ Y.cell? ⟨q, 3, none⟩ = some (.int .u32 ln) ∧ Y.cell? ⟨q, 4, none⟩ = some (.int .u32 cp) ∧ Y.cell? ⟨q, 5, none⟩ = some (.int .u64 en) ∧ Y.cell? ⟨q, 6, none⟩ = some (.int .u64 dt) ∧ Y.cell? ⟨q, 75, none⟩ = some (.slice A0 N0 d0) ∧ Y.cell? ⟨q, 76, none⟩ = some (.slice A1 N1 d1) ∧ Y.cell? ⟨q, 77, none⟩ = some (.slice A2 N2 d2) ∧ Y.cell? ⟨q, 78, none⟩ = some (.slice A3 N3 d3)) := Lib.hid (fun l' m' e' Y hs => ⟨(HK.out _ _ _ _ hs).cell (i := 0) (by decide), (HK.out _ _ _ _ hs).cell (i := 1) (by decide), (HK.out _ _ _ _ hs).cell (i := 2) (by decide), (HK.out _ _ _ _ hs).cell (i := 3) (by decide), (HK.out _ _ _ _ hs).cell (i := 4) (by decide), (HK.out _ _ _ _ hs).cell (i := 5) (by decide), (HK.out _ _ _ _ hs).cell (i := 6) (by decide), (HK.out _ _ _ _ hs).cell (i := 75) (by decide), (HK.out _ _ _ _ hs).cell (i := 76) (by decide), (HK.out _ _ _ _ hs).cell (i := 77) (by decide), (HK.out _ _ _ _ hs).cell (i := 78) (by decide)⟩)
  have HR : Hid (∀ (l' : By) (m' e' : Nat) (Y : World), WS V1 b g l' m' e' Y → RowE 4 winE Y g A0 wins ∧ RowE 3 devE Y g A1 devs ∧ RowE 3 irqE Y g A2 irqs ∧ RowE 1 numE Y g A3 strs) := Lib.hid (fun l' m' e' Y hs => ⟨r0.below hs.below, r1.below hs.below, r2.below hs.below, r3.below hs.below⟩)
  have HNL := Lib.hid (And.intro e0 (And.intro e1 (And.intro e2 e3)))
  have HBW := Lib.hid (And.intro p7 (And.intro p8 (And.intro p9 p10)))
  have HNB := Lib.hid (And.intro n0 (And.intro n1 (And.intro n2 n3)))
  have HKY := Lib.hid p6
  obtain ⟨cb, hcb⟩ : ∃ cb, cb = cntOk ⟨nm, mu, off, ln, cp, en, dt, ky, wins, devs, irqs, strs⟩ := ⟨_, rfl⟩
  have HCB : Hid (cb = (decide (1 ≤ N0) && decide (N0 ≤ 16) && decide (N1 ≤ 16) && decide (N2 ≤ 64) && decide (N3 ≤ 32))) := Lib.hid (by
    rw [hcb, e0, e1, e2, e3]
    unfold cntOk inB
    simp only
    rw [Bool.eq_iff_iff]
    simp only [Bool.and_eq_true, decide_eq_true_eq]
    omega)
  obtain ⟨ek, hek⟩ : ∃ ek, ek = kOk ky := ⟨_, rfl⟩
  rw [← hcb, ← hek] at HERR
  have HEK := Lib.hid hek
  obtain ⟨Q, hQ⟩ : ∃ Q, Q = WPo V b0 g (l ++ layG ⟨nm, mu, off, ln, cp, en, dt, ky, wins, devs, irqs, strs⟩) (m + 3000) (seqE e (errG ⟨nm, mu, off, ln, cp, en, dt, ky, wins, devs, irqs, strs⟩)) := ⟨_, rfl⟩
  have HQ : Hid (∀ (M E : Nat) (Y : World), M ≤ m + 3000 → E = seqE (seqE (seqE (seqE (seqE e (if nameOk nm = true then 0 else 143)) (if ek = true then 0 else 144)) (if cb = true then 0 else 142)) (errL (fun y => e144 (badWi y)) wins)) (errL (fun y => e144 (badIr y)) irqs) → WS V1 b g (l ++ layG ⟨nm, mu, off, ln, cp, en, dt, ky, wins, devs, irqs, strs⟩) M E Y → Q (.returned (.tuple #[])) Y) := Lib.hid (fun M E Y hM hE hs => by
    rw [hQ]
    refine ⟨rfl, (hback _ _ _ _ hs).any (fun _ => rfl) hM |> fun h => ?_⟩
    rw [HERR.out, ← seqE_seqE, ← seqE_seqE, ← seqE_seqE, ← seqE_seqE, ← hE]
    exact h)
  rw [← hQ]
  have HLAY : Hid (layG ⟨nm, mu, off, ln, cp, en, dt, ky, wins, devs, irqs, strs⟩ = nameE nm ++ (be 4 (flagN mu) ++ (be 4 off.toNat ++ (be 4 ln.toNat ++ (be 4 cp.toNat ++ (be 8 en.toNat ++ (be 8 dt.toNat ++ ky)))))) ++ ((be 2 N0 ++ (be 2 N1 ++ (be 2 N2 ++ be 2 N3))) ++ (wins.flatMap layWi ++ (devs.flatMap layDe ++ (irqs.flatMap layIr ++ strs.flatMap layNu))))) := Lib.hid (by rw [e0, e1, e2, e3]; rfl)
  have HS : Hid (WS V1 b g l m e V1) := Lib.hid hS
  have c2 : IntKind.u64.wrap off = off := by rw [IntKind.wrap_u64]; unfold u32B at p1; omega
  have c3 : IntKind.u64.wrap ln = ln := by rw [IntKind.wrap_u64]; unfold u32B at p2; omega
  have c4 : IntKind.u64.wrap cp = cp := by rw [IntKind.wrap_u64]; unfold u32B at p3; omega
  have HP := Lib.hid (And.intro p1.1 (And.intro p2.1 (And.intro p3.1 (And.intro p4.1 (And.intro p5.1 (And.intro hnk hm))))))
  clear h hr hV1 hB k1 hS hoff hback hq hcb hek hQ p1 p2 p3 p4 p5 p6 p7 p8 p9 p10 r0 r1 r2 r3 e0 e1 e2 e3 n0 n1 n2 n3 hnk hm
  go_enter Tryd.func29, Tryd.ntmps29
  go_upto_region 1 with fail
  rw [show W0.alloc (.cells (vec 79 (guestE ⟨⟨nm, mu, off, ln, cp, en, dt, ky, wins, devs, irqs, strs⟩, .slice A0 N0 d0, .slice A1 N1 d1, .slice A2 N2 d2, .slice A3 N3 d3⟩)) 64) = V1 from HW0.out.symm, ← HQ0.out]
  clear HW0 HQ0
  have cx := (HC.out _ _ _ _ HS.out).1
  go_upto_region 2 with (go_at_call 62; refine (wname_any nm HP.out.2.2.2.2.2.1 (by have := HP.out.2.2.2.2.2.2; omega) _ HS.out).mono ?_; rintro y w1 ⟨rfl, hs⟩; replace HS := Lib.hid hs; clear hs)
  clear cx
  have cx := (HC.out _ _ _ _ HS.out).2.1
  go_upto_region 3 with (go_at_call 63; refine (wtruth_any mu (by have := HP.out.2.2.2.2.2.2; omega) _ HS.out).mono ?_; rintro y w1 ⟨rfl, hs⟩; replace HS := Lib.hid hs; clear hs)
  clear cx
  have cx := (HC.out _ _ _ _ HS.out).2.2.1
  go_upto_region 4 with (go_at_call 28; refine (wput_any off HP.out.1 4 (by decide) (by have := HP.out.2.2.2.2.2.2; omega) _ HS.out).mono ?_; rintro y w1 ⟨rfl, hs⟩; replace HS := Lib.hid hs; clear hs)
  clear cx
  have cx := (HC.out _ _ _ _ HS.out).2.2.2.1
  go_upto_region 5 with (go_at_call 28; refine (wput_any ln HP.out.2.1 4 (by decide) (by have := HP.out.2.2.2.2.2.2; omega) _ HS.out).mono ?_; rintro y w1 ⟨rfl, hs⟩; replace HS := Lib.hid hs; clear hs)
  clear cx
  have cx := (HC.out _ _ _ _ HS.out).2.2.2.2.1
  go_upto_region 6 with (go_at_call 28; refine (wput_any cp HP.out.2.2.1 4 (by decide) (by have := HP.out.2.2.2.2.2.2; omega) _ HS.out).mono ?_; rintro y w1 ⟨rfl, hs⟩; replace HS := Lib.hid hs; clear hs)
  clear cx
  have cx := (HC.out _ _ _ _ HS.out).2.2.2.2.2.1
  go_upto_region 7 with (go_at_call 28; refine (wput_any en HP.out.2.2.2.1 8 (by decide) (by have := HP.out.2.2.2.2.2.2; omega) _ HS.out).mono ?_; rintro y w1 ⟨rfl, hs⟩; replace HS := Lib.hid hs; clear hs)
  clear cx
  have cx := (HC.out _ _ _ _ HS.out).2.2.2.2.2.2.1
  go_upto_region 8 with (go_at_call 28; refine (wput_any dt HP.out.2.2.2.2.1 8 (by decide) (by have := HP.out.2.2.2.2.2.2; omega) _ HS.out).mono ?_; rintro y w1 ⟨rfl, hs⟩; replace HS := Lib.hid hs; clear hs)
  clear cx
  obtain ⟨LA, hLA⟩ : ∃ L, L = l ++ nameE nm ++ be 4 (flagN mu) ++ be 4 off.toNat ++ be 4 ln.toNat ++ be 4 cp.toNat ++ be 8 en.toNat ++ be 8 dt.toNat := ⟨_, rfl⟩
  obtain ⟨EA, hEA⟩ : ∃ E, E = seqE e (if nameOk nm = true then 0 else 143) := ⟨_, rfl⟩
  replace HS : Hid (WS V1 b g LA (m + 48) EA w1) := Lib.hid (by rw [hLA, hEA]; exact HS.out)
  have HLA := Lib.hid hLA
  have HEA := Lib.hid hEA
  clear hLA hEA c2 c3 c4
  have hkp : ∀ i, i < 68 → w1.cell? ((⟨q, 7, none⟩ : Addr).add i) = some (bys (kF ky) i) := fun i hi => by
    rw [add_at, (HK.out _ _ _ _ HS.out).cell (by omega), Nat.add_comm 7 i]
    show some (if i < 68 then bys (kF ky) i else _) = _
    rw [if_pos hi]
  have hky := rkey_any ky HKY.out ⟨q, 7, none⟩ 68 (Nat.le_refl _) w1 (HK.out _ _ _ _ HS.out).lt hkp
  obtain ⟨kc, hkc⟩ : ∃ kc : Nat, kc = if kOk ky = true then 0 else 80 := ⟨_, rfl⟩
  have HKC : Hid (Calls Tryd.prog 50 #[.slice (some ⟨q, 7, none⟩) 68 68] w1 fun y w2 => ∃ f : Nat → Value, y = .returned (.tuple #[.agg (vec 65 f), .int .i64 (kc : Int)]) ∧ (∀ i, i < 65 → (f i).oneCell' = true) ∧ Below w1.heap.size w1 w2) := Lib.hid (by rw [hkc]; exact hky)
  have hkd : ((kc : Int) == 0) = ek := by
    rw [hkc, HEK.out]
    cases kOk ky <;> rfl
  clear hkp hky hkc
  go_upto_region 9 with (first
    | (go_at_call 50; refine HKC.out.mono ?_; rintro y w2 ⟨f, rfl, hf, hd⟩; replace HS := Lib.hid (HS.out.on hd); have HF := Lib.hid hf; clear hd hf)
    | ((with_reducible show wpList _ _ _ (Oper.mk _ (.store _ _ _) _ _ _ _ :: _) _ _); refine wl_store rfl 102 _ _ rfl _ rfl _ rfl (run_store_arr (Arr.new w2 _ _ _) f infoKey HF.out) ?_))
  obtain ⟨w3, hw3⟩ : ∃ W, W = (w2.alloc (.cells (vec 65 (keyF 0 zb zb)) 102)).setRow w2.heap.size (vec 65 f) := ⟨_, rfl⟩
  replace HS : Hid (WS V1 b g LA (m + 48) EA w3) := Lib.hid (HS.out.on (by rw [hw3]; exact below_row ((Below.refl _ _).alloc (Nat.le_refl _) _) (Nat.le_refl _) _))
  rw [← hw3]
  clear hw3 HKC HF
  go_upto_region 10 with (go_at_call 31; refine (wmust_any ek 144 (by decide) _ HS.out).mono ?_; rintro y w1 ⟨rfl, hs⟩; replace HS := Lib.hid hs; clear hs)
  clear hkd
  obtain ⟨Y0, hY0⟩ : ∃ Y, Y = w1.drew := ⟨_, rfl⟩
  replace HS : Hid (WS V1 b g LA (m + 48) (seqE EA (if ek = true then 0 else 144)) Y0) := Lib.hid (by rw [hY0]; exact HS.out.drew)
  have HY0 := Lib.hid hY0
  clear hY0
  obtain ⟨AL, cL, LL, -, k0, -, -, -, -, -, happ⟩ := HS.out.open
  obtain ⟨BL, dL, w2, hrun, ⟨k3, k4⟩, hws⟩ := happ Y0 ⟨q, 7, none⟩ ky 68 (LL.length + 68) (by rw [HKY.out]) (Below.refl _ _) (fun j u hu => by
    have hj : j < 68 := by
      have := (List.getElem?_eq_some_iff.1 hu).1
      simpa [u8s, HKY.out] using this
    rw [add_at, (HK.out _ _ _ _ HS.out).cell (by omega), Nat.add_comm 7 j]
    show some (if j < 68 then bys (kF ky) j else _) = _
    rw [if_pos hj, ← hu]
    simp [u8s, bys, kF, HKY.out, hj]) (by have := HP.out.2.2.2.2.2.2; rw [HKY.out]; omega)
  rw [HKY.out] at hrun hws
  obtain ⟨NL, hNL⟩ : ∃ n, n = LL.length := ⟨_, rfl⟩
  obtain ⟨NM, hNM⟩ : ∃ n, n = LL.length + 68 := ⟨_, rfl⟩
  rw [← hNM] at hrun hws
  rw [← hNL] at hrun k0 k3
  have HRUN := Lib.hid hrun
  have HK0 := Lib.hid k0
  have HK3 := Lib.hid (And.intro k3 k4)
  replace HS : Hid (WS V1 b g (LA ++ ky) (m + 48 + 68) (seqE EA (if ek = true then 0 else 144)) (w2.setCell ⟨g, 0, none⟩ (.slice BL NM dL))) := Lib.hid hws
  clear happ hrun hws k0 k3 k4 hNL hNM
  refine wp_region_held_drew (S := fun Y => True) (by kernel_rfl) trivial (fun hS => ?_)
  (refine held_take (i := 0) (oi := ?ot1) (v := ?vt1) ?at1 (by kernel_rfl) (by kernel_rfl) (by kernel_rfl) ?bt1 ?ct1 ?dt1 (by assumption) ?rt1; (case at1 => (simp only [List.getElem?_toArray, List.getElem?_cons_zero]; rfl)); (case bt1 => exact fun _ _ _ h => h); (case ct1 => kernel_rfl); (case dt1 => (intro W hW; clear hW; go_simp; (try with_reducible rfl))); (case' rt1 => simp only [Act.put, List.setIfInBounds_toArray, List.set_cons_zero, List.set_cons_succ]))
  (refine held_take (i := 1) (oi := ?ot2) (v := ?vt2) ?at2 (by kernel_rfl) (by kernel_rfl) (by kernel_rfl) ?bt2 ?ct2 ?dt2 (by assumption) ?rt2; (case at2 => (simp only [List.getElem?_toArray, List.getElem?_cons_zero, List.getElem?_cons_succ]; rfl)); (case bt2 => exact fun _ _ _ h => h); (case ct2 => kernel_rfl); (case dt2 => (intro W hW; clear hW; go_simp; (try with_reducible rfl))); (case' rt2 => simp only [Act.put, List.setIfInBounds_toArray, List.set_cons_zero, List.set_cons_succ]))
  (refine held_take (i := 2) (oi := ?ot3) (v := ?vt3) ?at3 (by kernel_rfl) (by kernel_rfl) (by kernel_rfl) ?bt3 ?ct3 ?dt3 (by assumption) ?rt3; (case at3 => (simp only [List.getElem?_toArray, List.getElem?_cons_zero, List.getElem?_cons_succ]; rfl)); (case bt3 => exact fun _ _ _ h => h); (case ct3 => kernel_rfl); (case dt3 => (intro W hW; clear hW; go_simp; (try with_reducible rfl))); (case' rt3 => simp only [Act.put, List.setIfInBounds_toArray, List.set_cons_zero, List.set_cons_succ]))
  (refine held_take (i := 3) (oi := ?ot4) (v := ?vt4) ?at4 (by kernel_rfl) (by kernel_rfl) (by kernel_rfl) ?bt4 ?ct4 ?dt4 (by assumption) ?rt4; (case at4 => (simp only [List.getElem?_toArray, List.getElem?_cons_zero, List.getElem?_cons_succ]; rfl)); (case bt4 => exact fun _ _ _ h => h); (case ct4 => kernel_rfl); (case dt4 => (intro W hW; clear hW; go_simp; (try with_reducible rfl))); (case' rt4 => simp only [Act.put, List.setIfInBounds_toArray, List.set_cons_zero, List.set_cons_succ]))
  (refine held_take (i := 5) (oi := ?ot5) (v := ?vt5) ?at5 (by kernel_rfl) (by kernel_rfl) (by kernel_rfl) ?bt5 ?ct5 ?dt5 (by assumption) ?rt5; (case at5 => (simp only [List.getElem?_toArray, List.getElem?_cons_zero, List.getElem?_cons_succ]; rfl)); (case bt5 => exact fun _ _ _ h => h); (case ct5 => kernel_rfl); (case dt5 => (intro W hW; clear hW; go_simp; (try with_reducible rfl))); (case' rt5 => simp only [Act.put, List.setIfInBounds_toArray, List.set_cons_zero, List.set_cons_succ]))
  (refine held_take (i := 6) (oi := ?ot6) (v := ?vt6) ?at6 (by kernel_rfl) (by kernel_rfl) (by kernel_rfl) ?bt6 ?ct6 ?dt6 (by assumption) ?rt6; (case at6 => (simp only [List.getElem?_toArray, List.getElem?_cons_zero, List.getElem?_cons_succ]; rfl)); (case bt6 => exact fun _ _ _ h => h); (case ct6 => kernel_rfl); (case dt6 => (intro W hW; clear hW; go_simp; (try with_reducible rfl))); (case' rt6 => simp only [Act.put, List.setIfInBounds_toArray, List.set_cons_zero, List.set_cons_succ]))
  refine held_one (i := 4) (oi := ?ot7) (by kernel_rfl) ?at7 ?ct7 (fun K4 hK4 => ?_)
  (case at7 => (simp only [List.getElem?_toArray, List.getElem?_cons_zero, List.getElem?_cons_succ]; rfl))
  (case ct7 => kernel_rfl)
  rw [← HY0.out]
  have k0 := HK0.out
  go_simp
  refine hK4 _ _ trivial (fun hS4 => ?_)
  clear k0 hK4 K4 hS
  refine held_one (i := 7) (oi := ?ot8) (by kernel_rfl) ?at8 ?ct8 (fun K7 hK7 => ?_)
  (case at8 => (simp only [List.getElem?_toArray, List.getElem?_cons_zero, List.getElem?_cons_succ]; rfl))
  (case ct8 => kernel_rfl)
  refine Lib.wp_append_run _ _ _ _ _ rfl (.slice AL NL cL) (.slice (some ⟨q, 7, none⟩) 68 68) ?s1 ?s2 (.slice BL NM dL) w2 ?s3 ?_
  case s1 => rfl
  case s2 => rfl
  case s3 => (have h0 := HRUN.out; show (Builtin.append_ #[_, _] 22 _).run Tryd.prog _ = _; exact h0)
  refine hK7 _ _ trivial (fun hS7 => ?_)
  clear hK7 K7 hS4
  (refine held_take (i := 8) (oi := ?ot9) (v := ?vt9) ?at9 (by kernel_rfl) (by kernel_rfl) (by kernel_rfl) ?bt9 ?ct9 ?dt9 (by assumption) ?rt9; (case at9 => (simp only [List.getElem?_toArray, List.getElem?_cons_zero, List.getElem?_cons_succ]; rfl)); (case bt9 => exact fun _ _ _ h => h); (case ct9 => kernel_rfl); (case dt9 => (intro W hW; clear hW; go_simp; (try with_reducible rfl))); (case' rt9 => simp only [Act.put, List.setIfInBounds_toArray, List.set_cons_zero, List.set_cons_succ]))
  (refine held_take (i := 9) (oi := ?ot10) (v := ?vt10) ?at10 (by kernel_rfl) (by kernel_rfl) (by kernel_rfl) ?bt10 ?ct10 ?dt10 (by assumption) ?rt10; (case at10 => (simp only [List.getElem?_toArray, List.getElem?_cons_zero, List.getElem?_cons_succ]; rfl)); (case bt10 => exact fun _ _ _ h => h); (case ct10 => kernel_rfl); (case dt10 => (intro W hW; clear hW; go_simp; (try with_reducible rfl))); (case' rt10 => simp only [Act.put, List.setIfInBounds_toArray, List.set_cons_zero, List.set_cons_succ]))
  refine held_one (i := 10) (oi := ?ot11) (by kernel_rfl) ?at11 ?ct11 (fun K10 hK10 => ?_)
  (case at11 => (simp only [List.getElem?_toArray, List.getElem?_cons_zero, List.getElem?_cons_succ]; rfl))
  (case ct11 => kernel_rfl)
  have k3 := HK3.out.1
  have k4 := HK3.out.2
  go_simp
  refine hK10 _ _ trivial (fun hS10 => ?_)
  clear k3 k4 hK10 K10 hS7
  refine wpAnyH_done (by kernel_rfl) ?_ _
  clear hS10 HY0 HRUN HK0 HK3
  obtain ⟨w4, hw4⟩ : ∃ W, W = w2.setCell ⟨g, 0, none⟩ (.slice BL NM dL) := ⟨_, rfl⟩
  rw [← hw4] at HS ⊢
  clear hw4
  obtain ⟨EB, hEB⟩ : ∃ E, E = seqE EA (if ek = true then 0 else 144) := ⟨_, rfl⟩
  rw [← hEB] at HS
  have HEB := Lib.hid hEB
  clear hEB
  go_upto_region 11 with fail
  go_cut [] from 64 to 93 (fun wx => Hid (WS V1 b g (LA ++ ky) (m + 48 + 68) (seqE EB (if cb = true then 0 else 142)) wx))
  case first =>
    have f8 := (HC.out _ _ _ _ HS.out).2.2.2.2.2.2.2.1
    have f9 := (HC.out _ _ _ _ HS.out).2.2.2.2.2.2.2.2.1
    have f10 := (HC.out _ _ _ _ HS.out).2.2.2.2.2.2.2.2.2.1
    have f11 := (HC.out _ _ _ _ HS.out).2.2.2.2.2.2.2.2.2.2
    have hcb := HCB.out
    by_cases t0 : 1 ≤ N0
    rotate_left
    · obtain rfl : cb = false := by rw [hcb]; simp; omega
      have z0 : decide ((1 : Int) ≤ (N0 : Int)) = false := by simp; omega
      clear hcb t0
      go_wp2_with (go_at_call 31; refine (wmust_any false 142 (by decide) _ HS.out).mono ?_; rintro y w5 ⟨rfl, hs⟩; have HS5 := Lib.hid hs; clear hs)
      go_meet
      exact HS5
    by_cases t1 : N0 ≤ 16
    rotate_left
    · obtain rfl : cb = false := by rw [hcb]; simp; omega
      have z0 : decide ((1 : Int) ≤ (N0 : Int)) = true := by simp; omega
      have z1 : decide ((N0 : Int) ≤ 16) = false := by simp; omega
      clear hcb t0 t1
      go_wp2_with (go_at_call 31; refine (wmust_any false 142 (by decide) _ HS.out).mono ?_; rintro y w5 ⟨rfl, hs⟩; have HS5 := Lib.hid hs; clear hs)
      go_meet
      exact HS5
    by_cases t2 : N1 ≤ 16
    rotate_left
    · obtain rfl : cb = false := by rw [hcb]; simp; omega
      have z0 : decide ((1 : Int) ≤ (N0 : Int)) = true := by simp; omega
      have z1 : decide ((N0 : Int) ≤ 16) = true := by simp; omega
      have z2 : decide ((N1 : Int) ≤ 16) = false := by simp; omega
      clear hcb t0 t1 t2
      go_wp2_with (go_at_call 31; refine (wmust_any false 142 (by decide) _ HS.out).mono ?_; rintro y w5 ⟨rfl, hs⟩; have HS5 := Lib.hid hs; clear hs)
      go_meet
      exact HS5
    by_cases t3 : N2 ≤ 64
    rotate_left
    · obtain rfl : cb = false := by rw [hcb]; simp; omega
      have z0 : decide ((1 : Int) ≤ (N0 : Int)) = true := by simp; omega
      have z1 : decide ((N0 : Int) ≤ 16) = true := by simp; omega
      have z2 : decide ((N1 : Int) ≤ 16) = true := by simp; omega
      have z3 : decide ((N2 : Int) ≤ 64) = false := by simp; omega
      clear hcb t0 t1 t2 t3
      go_wp2_with (go_at_call 31; refine (wmust_any false 142 (by decide) _ HS.out).mono ?_; rintro y w5 ⟨rfl, hs⟩; have HS5 := Lib.hid hs; clear hs)
      go_meet
      exact HS5
    by_cases t4 : N3 ≤ 32
    rotate_left
    · obtain rfl : cb = false := by rw [hcb]; simp; omega
      have z0 : decide ((1 : Int) ≤ (N0 : Int)) = true := by simp; omega
      have z1 : decide ((N0 : Int) ≤ 16) = true := by simp; omega
      have z2 : decide ((N1 : Int) ≤ 16) = true := by simp; omega
      have z3 : decide ((N2 : Int) ≤ 64) = true := by simp; omega
      have z4 : decide ((N3 : Int) ≤ 32) = false := by simp; omega
      clear hcb t0 t1 t2 t3 t4
      go_wp2_with (go_at_call 31; refine (wmust_any false 142 (by decide) _ HS.out).mono ?_; rintro y w5 ⟨rfl, hs⟩; have HS5 := Lib.hid hs; clear hs)
      go_meet
      exact HS5
    obtain rfl : cb = true := by rw [hcb]; simp; omega
    have z0 : decide ((1 : Int) ≤ (N0 : Int)) = true := by simp; omega
    have z1 : decide ((N0 : Int) ≤ 16) = true := by simp; omega
    have z2 : decide ((N1 : Int) ≤ 16) = true := by simp; omega
    have z3 : decide ((N2 : Int) ≤ 64) = true := by simp; omega
    have z4 : decide ((N3 : Int) ≤ 32) = true := by simp; omega
    clear hcb t0 t1 t2 t3 t4
    go_wp2_with (go_at_call 31; refine (wmust_any true 142 (by decide) _ HS.out).mono ?_; rintro y w5 ⟨rfl, hs⟩; have HS5 := Lib.hid hs; clear hs)
    go_meet
    exact HS5
  clear HS
  obtain ⟨w5, rfl⟩ : ∃ W : World, W = wc := ⟨_, rfl⟩
  obtain ⟨EC, hEC⟩ : ∃ E, E = seqE EB (if cb = true then 0 else 142) := ⟨_, rfl⟩
  rw [← hEC] at hcut
  have HS := hcut
  have HBD : Hid (EC = 0 → (1 ≤ N0 ∧ N0 ≤ 16) ∧ N1 ≤ 16 ∧ N2 ≤ 64 ∧ N3 ≤ 32) := Lib.hid (fun h0 => by
    rw [hEC] at h0
    have h1 := (seqE_ok h0).2
    have h2 : cb = true := by cases cb; cases h1; rfl
    have h3 := HCB.out
    rw [h2] at h3
    have h3 := h3.symm
    simp only [Bool.and_eq_true, decide_eq_true_eq] at h3
    omega)
  have HEC := Lib.hid hEC
  clear hcut hEC HCB
  have f8 := (HC.out _ _ _ _ HS.out).2.2.2.2.2.2.2.1
  have f9 := (HC.out _ _ _ _ HS.out).2.2.2.2.2.2.2.2.1
  have f10 := (HC.out _ _ _ _ HS.out).2.2.2.2.2.2.2.2.2.1
  have f11 := (HC.out _ _ _ _ HS.out).2.2.2.2.2.2.2.2.2.2
  obtain ⟨X, hX⟩ : ∃ X, X = w5.alloc (.cells #[.int .i64 (N0 : Int), .int .i64 (N1 : Int), .int .i64 (N2 : Int), .int .i64 (N3 : Int)] 3) := ⟨_, rfl⟩
  have hbX : Below w5.heap.size w5 X := by rw [hX]; exact (Below.refl _ _).alloc (Nat.le_refl _) _
  have hkX : Blk X w5.heap.size 3 #[.int .i64 (N0 : Int), .int .i64 (N1 : Int), .int .i64 (N2 : Int), .int .i64 (N3 : Int)] := by rw [hX]; exact Blk.new _ _ _ rfl
  obtain ⟨b2, hS2, hoff2, hback2⟩ := HS.out.box hbX
  obtain ⟨rq, hrq⟩ : ∃ r, r = w5.heap.size := ⟨_, rfl⟩
  rw [← hrq] at hkX hoff2
  have HN4 : Hid (∀ (l' : By) (m' e' : Nat) (Y : World), WS X b2 g l' m' e' Y → ∀ k, k < 4 → Y.cell? ⟨rq, k, none⟩ = some (.int .i64 (cnt4 N0 N1 N2 N3 k : Nat))) := Lib.hid (fun l' m' e' Y hs k hk => by
    have hh := hs.blk hkX (hoff2 rq (Nat.le_refl _)).1 (hoff2 rq (Nat.le_refl _)).2
    rcases (by omega : k = 0 ∨ k = 1 ∨ k = 2 ∨ k = 3) with rfl | rfl | rfl | rfl
    · exact hh.cellAt 0 rfl
    · exact hh.cellAt 1 rfl
    · exact hh.cellAt 2 rfl
    · exact hh.cellAt 3 rfl)
  have HBK2 := Lib.hid hback2
  have HX := Lib.hid hX
  have HRQ := Lib.hid hrq
  have HS2 := Lib.hid hS2
  obtain ⟨bl4, hbl4⟩ : ∃ f : Nat → By, f = fun k => (List.range k).flatMap fun j => be 2 (cnt4 N0 N1 N2 N3 j) := ⟨_, rfl⟩
  have HBL : Hid ((bl4 0 = [] ∧ ∀ k, bl4 (k + 1) = bl4 k ++ be 2 (cnt4 N0 N1 N2 N3 k)) ∧ bl4 4 = be 2 N0 ++ (be 2 N1 ++ (be 2 N2 ++ be 2 N3))) := Lib.hid (by
    subst hbl4
    refine ⟨⟨rfl, fun k => ?_⟩, rfl⟩
    show (List.range (k + 1)).flatMap _ = _
    rw [List.range_succ, List.flatMap_append]
    simp)
  clear hX hbX hkX hS2 hoff2 hback2 hrq hbl4
  go_upto_block 0 with fail
  rw [← HX.out, ← HRQ.out]
  clear HX HRQ f8 f9 f10 f11
  go_cut [7, 108] from 109 to 116 (fun s7 s108 wx => Hid (WS V1 b g (LA ++ ky ++ bl4 4) (m + 48 + 68 + 8) EC wx))
  case first =>
    go_wp2_with fail
    go_loopw [7, 108] (fun _ j W => ∃ k : Nat, k ≤ 4 ∧ j = .int .i64 k ∧ Hid (WS X b2 g (LA ++ ky ++ bl4 k) (m + 48 + 68 + 2 * k) EC W)) (fun _ j _ => 4 - (intOf j).toNat)
    case atStart => exact ⟨0, Nat.zero_le _, rfl, Lib.hid (HS2.out.any (fun _ => by rw [HBL.out.1.1, List.append_nil]) (by omega))⟩
    case round =>
      obtain ⟨k, hk, rfl, HSk⟩ := hrel
      obtain ⟨W, hW⟩ : ∃ W : World, W = wr := ⟨_, rfl⟩
      subst hW
      by_cases hlt : k < 4
      · have hki : (k : Int) < 4 := by omega
        have hcell := HN4.out _ _ _ _ HSk.out k hlt
        have hcb := HNB.out
        obtain ⟨n, hn⟩ : ∃ n, n = cnt4 N0 N1 N2 N3 k := ⟨_, rfl⟩
        have hnb : n ≤ 9223372036854775807 := by rw [hn]; unfold cnt4; split <;> (try split) <;> (try split) <;> omega
        have hwn : IntKind.u64.wrap (n : Int) = (n : Int) := by rw [IntKind.wrap_u64]; omega
        rw [← hn] at hcell
        have HBS : Hid (bl4 (k + 1) = bl4 k ++ be 2 n) := Lib.hid (by rw [HBL.out.1.2 k, ← hn])
        clear hn hnb hcb
        go_wp2_with (go_at_call 28; refine (wput_any (n : Int) (by omega) 2 (by decide) (by have := HP.out.2.2.2.2.2.2; omega) _ HSk.out).mono ?_; rintro y w6 ⟨rfl, hs⟩; have HS6 := Lib.hid hs; clear hs)
        go_roundw
        case rel => exact ⟨k + 1, by omega, by go_num, Lib.hid (HS6.out.any (fun _ => by rw [HBS.out]; simp) (by omega))⟩
        case measure => simp [intOf]; omega
      · obtain rfl : k = 4 := by omega
        go_wp2_with fail
        go_meet
        exact Lib.hid ((HBK2.out _ _ _ _ HSk.out).any (fun _ => rfl) (by omega))

  clear HS HS2 HN4 HBK2
  obtain ⟨w7, rfl⟩ : ∃ W : World, W = wc := ⟨_, rfl⟩
  obtain ⟨LB, hLB⟩ : ∃ L, L = LA ++ ky ++ bl4 4 := ⟨_, rfl⟩
  rw [← hLB] at hcut
  have HS := hcut
  have HLB := Lib.hid hLB
  clear hcut hLB
  go_upto_block 2 with fail
  go_cut [8, 9] from 117 to 151 (fun s8 s9 wx => Hid (WS V1 b g (LB ++ wins.flatMap layWi) (m + 48 + 68 + 8 + 448) (seqE EC (errL (fun y => e144 (badWi y)) wins)) wx))
  case first =>
    go_wp2_with fail
    go_loopw [8, 9] (fun j _ W => ∃ k : Nat, (k ≤ N0 ∧ k ≤ 16) ∧ j = .int .i64 k ∧ Hid (WS V1 b g (LB ++ (wins.take k).flatMap layWi) (m + 48 + 68 + 8 + 28 * k) (seqE EC (errL (fun y => e144 (badWi y)) (wins.take k))) W)) (fun j _ _ => N0 - (intOf j).toNat)
    case atStart => exact ⟨0, ⟨Nat.zero_le _, Nat.zero_le _⟩, rfl, Lib.hid (by rw [show errL (fun y => e144 (badWi y)) (wins.take 0) = 0 from rfl, seqE_zero]; exact HS.out.any (l' := LB ++ (wins.take 0).flatMap layWi) (m' := m + 48 + 68 + 8 + 28 * 0) (fun _ => by simp) (by omega))⟩
    case round =>
      obtain ⟨k, ⟨hk, hk2⟩, rfl, HSk⟩ := hrel
      obtain ⟨W, hW⟩ : ∃ W : World, W = wr := ⟨_, rfl⟩
      subst hW
      have fc := (HC.out _ _ _ _ HSk.out).2.2.2.2.2.2.2.1
      obtain ⟨fe, ff⟩ := HSk.out.err
      have HNN : Hid (N0 = wins.length) := Lib.hid HNL.out.1
      have HSTP := Lib.hid (seqE_stop (fun y => e144 (badWi y)) EC wins k)
      obtain ⟨E, hE⟩ : ∃ E, E = seqE EC (errL (fun y => e144 (badWi y)) (wins.take k)) := ⟨_, rfl⟩
      rw [← hE] at HSk HSTP fe
      have HE := Lib.hid hE
      clear hE
      by_cases hlt : k < N0
      · have hki : (k : Int) < (N0 : Int) := by omega
        by_cases h0 : E = 0
        · subst h0
          have z0 : (((0 : Nat) : Int) == 0) = true := rfl
          have hBD := HBD.out (by have := HE.out.symm; first | exact (seqE_ok this).1 | exact (seqE_ok (seqE_ok this).1).1 | exact (seqE_ok (seqE_ok (seqE_ok this).1).1).1)
          have hlt2 : k < wins.length := by have := HNN.out; omega
          obtain ⟨a, p, ra, hp, hpb, hcp⟩ := ((HR.out _ _ _ _ HSk.out).1).at hlt2
          subst ra
          obtain ⟨y, hy⟩ : ∃ y, y = wins[k] := ⟨_, rfl⟩
          have hyb : WiB y := by rw [hy]; exact HBW.out.1 _ (List.getElem_mem _)
          rw [← hy] at hcp
          have HYL : Hid ((wins.take (k + 1)).flatMap layWi = (wins.take k).flatMap layWi ++ (be 8 y.ipa.toNat ++ (be 8 y.pa.toNat ++ (be 8 y.size.toNat ++ be 4 y.perm.toNat)))) := Lib.hid (by rw [take_flat layWi wins k hlt2, ← hy]; rfl)
          have HYE : Hid (seqE EC (errL (fun y => e144 (badWi y)) (wins.take (k + 1))) = seqE 0 (if inB y.perm 0 7 = true then 0 else 144)) := Lib.hid (by
            rw [take_err (fun y => e144 (badWi y)) wins k hlt2, ← hy, ← seqE_seqE, ← HE.out]
            unfold e144 badWi
            cases inB y.perm 0 7 <;> rfl)
          have HYB := Lib.hid hyb
          have HCP := Lib.hid hcp
          obtain ⟨XX, hXX⟩ : ∃ X, X = (W.alloc (.cells (vec 4 (winE zWi)) 108)).setRow W.heap.size (vec 4 (winE y)) := ⟨_, rfl⟩
          have bX : Below W.heap.size W XX := by rw [hXX]; exact below_row ((Below.refl _ _).alloc (Nat.le_refl _) _) (Nat.le_refl _) _
          have aX : Arr XX W.heap.size 108 4 (winE y) := by rw [hXX]; exact (Arr.new W _ _ _).row _
          obtain ⟨b3, hS3, hoff3, hback3⟩ := HSk.out.box bX
          obtain ⟨u, hu⟩ : ∃ u, u = W.heap.size := ⟨_, rfl⟩
          rw [← hu] at aX hoff3
          have HF : Hid (∀ (l' : By) (m' e' : Nat) (Y : World), WS XX b3 g l' m' e' Y → Y.cell? ⟨u, 0, none⟩ = some (.int .u64 y.ipa) ∧ Y.cell? ⟨u, 1, none⟩ = some (.int .u64 y.pa) ∧ Y.cell? ⟨u, 2, none⟩ = some (.int .u64 y.size) ∧ Y.cell? ⟨u, 3, none⟩ = some (.int .i64 y.perm)) := Lib.hid (fun l' m' e' Y hs => by
            have ha := hs.arr aX (hoff3 u (Nat.le_refl _)).1 (hoff3 u (Nat.le_refl _)).2
            exact ⟨ha.cell (i := 0) (by decide), ha.cell (i := 1) (by decide), ha.cell (i := 2) (by decide), ha.cell (i := 3) (by decide)⟩)
          have HBK := Lib.hid hback3
          have HXX := Lib.hid hXX
          have HU := Lib.hid hu
          have HT : Hid (WS XX b3 g (LB ++ (wins.take k).flatMap layWi) (m + 48 + 68 + 8 + 28 * k) 0 XX) := Lib.hid hS3
          have HBB : Hid (k + 1 ≤ N0 ∧ k + 1 ≤ 16) := Lib.hid (by omega)
          have HM := Lib.hid HP.out.2.2.2.2.2.2
          clear hy hyb hcp hXX bX aX hS3 hoff3 hback3 hu hpb hBD hlt2 hlt
          go_upto_region 21 with (first
            | ((with_reducible show wpList _ _ _ (Oper.mk _ (.load 108 _) _ _ _ _ :: _) _ _); refine wl_load_q rfl 108 _ rfl p rfl _ (run_load_q HCP.out Tryd.underlying108 rfl infoWi) ?_)
            | ((with_reducible show wpList _ _ _ (Oper.mk _ (.store _ _ _) _ _ _ _ :: _) _ _); refine wl_store rfl 108 _ _ rfl _ rfl _ rfl (run_store_arr (Arr.new W _ _ _) (winE y) infoWi (winE_one _ _)) ?_))
          rw [← HXX.out, ← HU.out]
          clear HXX HU fc fe ff HCP
          have cx := (HF.out _ _ _ _ HT.out).1
          go_upto_region 22 with (go_at_call 28; refine (wput_any y.ipa HYB.out.1.1 8 (by decide) (by have := HM.out; omega) _ HT.out).mono ?_; rintro y1 w8 ⟨rfl, hs⟩; replace HT := Lib.hid hs; clear hs)
          clear cx
          have cx := (HF.out _ _ _ _ HT.out).2.1
          go_upto_region 23 with (go_at_call 28; refine (wput_any y.pa HYB.out.2.1.1 8 (by decide) (by have := HM.out; omega) _ HT.out).mono ?_; rintro y1 w8 ⟨rfl, hs⟩; replace HT := Lib.hid hs; clear hs)
          clear cx
          have cx := (HF.out _ _ _ _ HT.out).2.2.1
          go_upto_region 24 with (go_at_call 28; refine (wput_any y.size HYB.out.2.2.1.1 8 (by decide) (by have := HM.out; omega) _ HT.out).mono ?_; rintro y1 w8 ⟨rfl, hs⟩; replace HT := Lib.hid hs; clear hs)
          clear cx
          have cx := (HF.out _ _ _ _ HT.out).2.2.2
          go_wp2_with (go_at_call 30; refine (wsmall_any y.perm HYB.out.2.2.2 7 4 (by decide) (by have := HM.out; omega) _ HT.out).mono ?_; rintro y1 w8 ⟨rfl, hs⟩; replace HT := Lib.hid hs; clear hs)
          go_roundw
          case rel => exact ⟨k + 1, HBB.out, by go_num, Lib.hid (by rw [HYE.out]; exact (HBK.out _ _ _ _ HT.out).any (fun _ => by rw [HYL.out]; simp) (by omega))⟩
          case measure => have := HBB.out.1; simp [intOf]; omega
        · have z0 : ((E : Int) == 0) = false := by simp; omega
          have z1 : ¬ (E : Int) = 0 := by omega
          have HST := Lib.hid (HSTP.out h0)
          have H0 := Lib.hid h0
          clear h0
          go_wp2_with fail
          go_meet
          exact Lib.hid (by rw [HST.out]; exact (HSk.out.any (l' := LB ++ wins.flatMap layWi) (m' := m + 48 + 68 + 8 + 448) (fun h => absurd h H0.out) (by omega)))
      · have hki : ¬ (k : Int) < (N0 : Int) := by omega
        have hEE : E = seqE EC (errL (fun y => e144 (badWi y)) wins) := by rw [HE.out, List.take_of_length_le (by have := HNN.out; omega)]
        have HEE := Lib.hid hEE
        clear hEE
        go_wp2_with fail
        go_meet
        exact Lib.hid (by rw [← HEE.out]; exact (by have h := HSk.out; rw [show wins.take k = wins by rw [List.take_of_length_le (by have := HNN.out; omega)]] at h; exact h.any (l' := LB ++ wins.flatMap layWi) (m' := m + 48 + 68 + 8 + 448) (fun _ => rfl) (by omega)))
  clear HS
  obtain ⟨w9, rfl⟩ : ∃ W : World, W = wc := ⟨_, rfl⟩
  obtain ⟨LC, hLC⟩ : ∃ L, L = LB ++ wins.flatMap layWi := ⟨_, rfl⟩
  obtain ⟨ED, hED⟩ : ∃ E, E = seqE EC (errL (fun y => e144 (badWi y)) wins) := ⟨_, rfl⟩
  rw [← hLC, ← hED] at hcut
  have HS := hcut
  have HLC := Lib.hid hLC
  have HED := Lib.hid hED
  clear hcut hLC hED
  have HBD : Hid (ED = 0 → (1 ≤ N0 ∧ N0 ≤ 16) ∧ N1 ≤ 16 ∧ N2 ≤ 64 ∧ N3 ≤ 32) := Lib.hid (fun h0 => HBD.out (seqE_ok (by rw [← HED.out]; exact h0)).1)
  go_upto_block 4 with fail
  go_cut [10] from 152 to 189 (fun s10 wx => Hid (WS V1 b g (LC ++ devs.flatMap layDe) (m + 48 + 68 + 8 + 448 + 384) (seqE ED (errL (fun _ : De => 0) devs)) wx))
  case first =>
    go_wp2_with fail
    go_loopw [10] (fun j  W => ∃ k : Nat, (k ≤ N1 ∧ k ≤ 16) ∧ j = .int .i64 k ∧ Hid (WS V1 b g (LC ++ (devs.take k).flatMap layDe) (m + 48 + 68 + 8 + 448 + 24 * k) (seqE ED (errL (fun _ : De => 0) (devs.take k))) W)) (fun j  _ => N1 - (intOf j).toNat)
    case atStart => exact ⟨0, ⟨Nat.zero_le _, Nat.zero_le _⟩, rfl, Lib.hid (by rw [show errL (fun _ : De => 0) (devs.take 0) = 0 from rfl, seqE_zero]; exact HS.out.any (l' := LC ++ (devs.take 0).flatMap layDe) (m' := m + 48 + 68 + 8 + 448 + 24 * 0) (fun _ => by simp) (by omega))⟩
    case round =>
      obtain ⟨k, ⟨hk, hk2⟩, rfl, HSk⟩ := hrel
      obtain ⟨W, hW⟩ : ∃ W : World, W = wr := ⟨_, rfl⟩
      subst hW
      have fc := (HC.out _ _ _ _ HSk.out).2.2.2.2.2.2.2.2.1
      obtain ⟨fe, ff⟩ := HSk.out.err
      have HNN : Hid (N1 = devs.length) := Lib.hid HNL.out.2.1
      have HSTP := Lib.hid (seqE_stop (fun _ : De => 0) ED devs k)
      obtain ⟨E, hE⟩ : ∃ E, E = seqE ED (errL (fun _ : De => 0) (devs.take k)) := ⟨_, rfl⟩
      rw [← hE] at HSk HSTP fe
      have HE := Lib.hid hE
      clear hE
      by_cases hlt : k < N1
      · have hki : (k : Int) < (N1 : Int) := by omega
        by_cases h0 : E = 0
        · subst h0
          have z0 : (((0 : Nat) : Int) == 0) = true := rfl
          have hBD := HBD.out (by have := HE.out.symm; first | exact (seqE_ok this).1 | exact (seqE_ok (seqE_ok this).1).1 | exact (seqE_ok (seqE_ok (seqE_ok this).1).1).1)
          have hlt2 : k < devs.length := by have := HNN.out; omega
          obtain ⟨a, p, ra, hp, hpb, hcp⟩ := ((HR.out _ _ _ _ HSk.out).2.1).at hlt2
          subst ra
          obtain ⟨y, hy⟩ : ∃ y, y = devs[k] := ⟨_, rfl⟩
          have hyb := HBW.out.2.1 _ (List.getElem_mem hlt2)
          rw [← hy] at hcp hyb
          have HYB := Lib.hid hyb
          have hp0 := hp
          have HYL : Hid ((devs.take (k + 1)).flatMap layDe = (devs.take k).flatMap layDe ++ (be 8 y.ipa.toNat ++ (be 8 y.pa.toNat ++ be 8 y.size.toNat))) := Lib.hid (by rw [take_flat layDe devs k hlt2, ← hy]; rfl)
          have HYE : Hid (seqE ED (errL (fun _ : De => 0) (devs.take (k + 1))) = 0) := Lib.hid (by rw [eLzero]; have := HE.out; rw [eLzero] at this; exact this.symm)
          have HF : Hid (∀ (l' : By) (m' e' : Nat) (Y : World), WS V1 b g l' m' e' Y → Y.cell? p = some (.int .u64 y.ipa) ∧ Y.cell? ⟨p.block, p.off + 1, none⟩ = some (.int .u64 y.pa) ∧ Y.cell? ⟨p.block, p.off + 2, none⟩ = some (.int .u64 y.size)) := Lib.hid (fun l' m' e' Y hs => by
            have hrow := (HR.out _ _ _ _ hs).2.1
            obtain ⟨a2, p2, ra2, hp2, -, hcp2⟩ := hrow.at hlt2
            injection ra2 with ra2
            subst ra2
            rw [hp0] at hp2
            subst hp2
            rw [← hy] at hcp2
            exact ⟨hcp2 0 (by decide), hcp2 1 (by decide), hcp2 2 (by decide)⟩)
          have HBB : Hid (k + 1 ≤ N1 ∧ k + 1 ≤ 16) := Lib.hid (by omega)
          have HM := Lib.hid HP.out.2.2.2.2.2.2
          have HT := HSk
          clear hy hyb hcp hpb hBD hlt2 hlt ff hp0
          have cx := (HF.out _ _ _ _ HT.out).1
          go_upto_region 29 with (go_at_call 28; refine (wput_any y.ipa HYB.out.1.1 8 (by decide) (by have := HM.out; omega) _ HT.out).mono ?_; rintro y1 w8 ⟨rfl, hs⟩; replace HT := Lib.hid hs; clear hs)
          clear cx
          have cx := (HF.out _ _ _ _ HT.out).2.1
          replace fc := (HC.out _ _ _ _ HT.out).2.2.2.2.2.2.2.2.1
          go_upto_region 30 with (go_at_call 28; refine (wput_any y.pa HYB.out.2.1.1 8 (by decide) (by have := HM.out; omega) _ HT.out).mono ?_; rintro y1 w8 ⟨rfl, hs⟩; replace HT := Lib.hid hs; clear hs)
          clear cx
          have cx := (HF.out _ _ _ _ HT.out).2.2
          replace fc := (HC.out _ _ _ _ HT.out).2.2.2.2.2.2.2.2.1
          go_wp2_with (go_at_call 28; refine (wput_any y.size HYB.out.2.2.1 8 (by decide) (by have := HM.out; omega) _ HT.out).mono ?_; rintro y1 w8 ⟨rfl, hs⟩; replace HT := Lib.hid hs; clear hs)
          clear cx
          go_roundw
          case rel => exact ⟨k + 1, HBB.out, by go_num, Lib.hid (by rw [HYE.out]; exact HT.out.any (fun _ => by rw [HYL.out]; simp) (by omega))⟩
          case measure => have := HBB.out.1; simp [intOf]; omega
        · have z0 : ((E : Int) == 0) = false := by simp; omega
          have z1 : ¬ (E : Int) = 0 := by omega
          have HST := Lib.hid (HSTP.out h0)
          have H0 := Lib.hid h0
          clear h0
          go_wp2_with fail
          go_meet
          exact Lib.hid (by rw [HST.out]; exact (HSk.out.any (l' := LC ++ devs.flatMap layDe) (m' := m + 48 + 68 + 8 + 448 + 384) (fun h => absurd h H0.out) (by omega)))
      · have hki : ¬ (k : Int) < (N1 : Int) := by omega
        have hEE : E = seqE ED (errL (fun _ : De => 0) devs) := by rw [HE.out, List.take_of_length_le (by have := HNN.out; omega)]
        have HEE := Lib.hid hEE
        clear hEE
        go_wp2_with fail
        go_meet
        exact Lib.hid (by rw [← HEE.out]; exact (by have h := HSk.out; rw [show devs.take k = devs by rw [List.take_of_length_le (by have := HNN.out; omega)]] at h; exact h.any (l' := LC ++ devs.flatMap layDe) (m' := m + 48 + 68 + 8 + 448 + 384) (fun _ => rfl) (by omega)))
  clear HS
  obtain ⟨w10, rfl⟩ : ∃ W : World, W = wc := ⟨_, rfl⟩
  obtain ⟨LD, hLD⟩ : ∃ L, L = LC ++ devs.flatMap layDe := ⟨_, rfl⟩
  obtain ⟨EF, hEF⟩ : ∃ E, E = seqE ED (errL (fun _ : De => 0) devs) := ⟨_, rfl⟩
  rw [← hLD, ← hEF] at hcut
  have HS := hcut
  have HLD := Lib.hid hLD
  have HEF := Lib.hid hEF
  clear hcut hLD hEF
  have HBD : Hid (EF = 0 → (1 ≤ N0 ∧ N0 ≤ 16) ∧ N1 ≤ 16 ∧ N2 ≤ 64 ∧ N3 ≤ 32) := Lib.hid (fun h0 => HBD.out (seqE_ok (by rw [← HEF.out]; exact h0)).1)
  go_upto_block 6 with fail
  go_cut [11] from 190 to 227 (fun s11 wx => Hid (WS V1 b g (LD ++ irqs.flatMap layIr) (m + 48 + 68 + 8 + 448 + 384 + 512) (seqE EF (errL (fun y => e144 (badIr y)) irqs)) wx))
  case first =>
    go_wp2_with fail
    go_loopw [11] (fun j  W => ∃ k : Nat, (k ≤ N2 ∧ k ≤ 64) ∧ j = .int .i64 k ∧ Hid (WS V1 b g (LD ++ (irqs.take k).flatMap layIr) (m + 48 + 68 + 8 + 448 + 384 + 8 * k) (seqE EF (errL (fun y => e144 (badIr y)) (irqs.take k))) W)) (fun j  _ => N2 - (intOf j).toNat)
    case atStart => exact ⟨0, ⟨Nat.zero_le _, Nat.zero_le _⟩, rfl, Lib.hid (by rw [show errL (fun y => e144 (badIr y)) (irqs.take 0) = 0 from rfl, seqE_zero]; exact HS.out.any (l' := LD ++ (irqs.take 0).flatMap layIr) (m' := m + 48 + 68 + 8 + 448 + 384 + 8 * 0) (fun _ => by simp) (by omega))⟩
    case round =>
      obtain ⟨k, ⟨hk, hk2⟩, rfl, HSk⟩ := hrel
      obtain ⟨W, hW⟩ : ∃ W : World, W = wr := ⟨_, rfl⟩
      subst hW
      have fc := (HC.out _ _ _ _ HSk.out).2.2.2.2.2.2.2.2.2.1
      obtain ⟨fe, ff⟩ := HSk.out.err
      have HNN : Hid (N2 = irqs.length) := Lib.hid HNL.out.2.2.1
      have HSTP := Lib.hid (seqE_stop (fun y => e144 (badIr y)) EF irqs k)
      obtain ⟨E, hE⟩ : ∃ E, E = seqE EF (errL (fun y => e144 (badIr y)) (irqs.take k)) := ⟨_, rfl⟩
      rw [← hE] at HSk HSTP fe
      have HE := Lib.hid hE
      clear hE
      by_cases hlt : k < N2
      · have hki : (k : Int) < (N2 : Int) := by omega
        by_cases h0 : E = 0
        · subst h0
          have z0 : (((0 : Nat) : Int) == 0) = true := rfl
          have hBD := HBD.out (by have := HE.out.symm; first | exact (seqE_ok this).1 | exact (seqE_ok (seqE_ok this).1).1 | exact (seqE_ok (seqE_ok (seqE_ok this).1).1).1)
          have hlt2 : k < irqs.length := by have := HNN.out; omega
          obtain ⟨a, p, ra, hp, hpb, hcp⟩ := ((HR.out _ _ _ _ HSk.out).2.2.1).at hlt2
          subst ra
          obtain ⟨y, hy⟩ : ∃ y, y = irqs[k] := ⟨_, rfl⟩
          have hyb := HBW.out.2.2.1 _ (List.getElem_mem hlt2)
          rw [← hy] at hcp hyb
          have HYB := Lib.hid hyb
          have hp0 := hp
          have HYL : Hid ((irqs.take (k + 1)).flatMap layIr = (irqs.take k).flatMap layIr ++ (be 2 y.number.toNat ++ (be 2 y.cpu.toNat ++ be 4 (flagN y.edge)))) := Lib.hid (by rw [take_flat layIr irqs k hlt2, ← hy]; rfl)
          have HYE : Hid (seqE EF (errL (fun y => e144 (badIr y)) (irqs.take (k + 1))) = seqE (seqE 0 (if inB y.number 0 65535 = true then 0 else 144)) (if inB y.cpu 0 65535 = true then 0 else 144)) := Lib.hid (by
            rw [take_err (fun y => e144 (badIr y)) irqs k hlt2, ← hy, ← seqE_seqE, ← HE.out]
            unfold e144 badIr
            cases inB y.number 0 65535 <;> cases inB y.cpu 0 65535 <;> rfl)
          have HF : Hid (∀ (l' : By) (m' e' : Nat) (Y : World), WS V1 b g l' m' e' Y → Y.cell? p = some (.int .i64 y.number) ∧ Y.cell? ⟨p.block, p.off + 1, none⟩ = some (.int .i64 y.cpu) ∧ Y.cell? ⟨p.block, p.off + 2, none⟩ = some (.bool y.edge)) := Lib.hid (fun l' m' e' Y hs => by
            have hrow := (HR.out _ _ _ _ hs).2.2.1
            obtain ⟨a2, p2, ra2, hp2, -, hcp2⟩ := hrow.at hlt2
            injection ra2 with ra2
            subst ra2
            rw [hp0] at hp2
            subst hp2
            rw [← hy] at hcp2
            exact ⟨hcp2 0 (by decide), hcp2 1 (by decide), hcp2 2 (by decide)⟩)
          have HBB : Hid (k + 1 ≤ N2 ∧ k + 1 ≤ 64) := Lib.hid (by omega)
          have HM := Lib.hid HP.out.2.2.2.2.2.2
          have HT := HSk
          clear hy hyb hcp hpb hBD hlt2 hlt ff hp0
          have cx := (HF.out _ _ _ _ HT.out).1
          go_upto_region 35 with (go_at_call 30; refine (wsmall_any y.number HYB.out.1 65535 2 (by decide) (by have := HM.out; omega) _ HT.out).mono ?_; rintro y1 w8 ⟨rfl, hs⟩; replace HT := Lib.hid hs; clear hs)
          clear cx
          have cx := (HF.out _ _ _ _ HT.out).2.1
          replace fc := (HC.out _ _ _ _ HT.out).2.2.2.2.2.2.2.2.2.1
          go_upto_region 36 with (go_at_call 30; refine (wsmall_any y.cpu HYB.out.2 65535 2 (by decide) (by have := HM.out; omega) _ HT.out).mono ?_; rintro y1 w8 ⟨rfl, hs⟩; replace HT := Lib.hid hs; clear hs)
          clear cx
          have cx := (HF.out _ _ _ _ HT.out).2.2
          replace fc := (HC.out _ _ _ _ HT.out).2.2.2.2.2.2.2.2.2.1
          go_wp2_with (go_at_call 63; refine (wtruth_any y.edge (by have := HM.out; omega) _ HT.out).mono ?_; rintro y1 w8 ⟨rfl, hs⟩; replace HT := Lib.hid hs; clear hs)
          clear cx
          go_roundw
          case rel => exact ⟨k + 1, HBB.out, by go_num, Lib.hid (by rw [HYE.out]; exact HT.out.any (fun _ => by rw [HYL.out]; simp) (by omega))⟩
          case measure => have := HBB.out.1; simp [intOf]; omega
        · have z0 : ((E : Int) == 0) = false := by simp; omega
          have z1 : ¬ (E : Int) = 0 := by omega
          have HST := Lib.hid (HSTP.out h0)
          have H0 := Lib.hid h0
          clear h0
          go_wp2_with fail
          go_meet
          exact Lib.hid (by rw [HST.out]; exact (HSk.out.any (l' := LD ++ irqs.flatMap layIr) (m' := m + 48 + 68 + 8 + 448 + 384 + 512) (fun h => absurd h H0.out) (by omega)))
      · have hki : ¬ (k : Int) < (N2 : Int) := by omega
        have hEE : E = seqE EF (errL (fun y => e144 (badIr y)) irqs) := by rw [HE.out, List.take_of_length_le (by have := HNN.out; omega)]
        have HEE := Lib.hid hEE
        clear hEE
        go_wp2_with fail
        go_meet
        exact Lib.hid (by rw [← HEE.out]; exact (by have h := HSk.out; rw [show irqs.take k = irqs by rw [List.take_of_length_le (by have := HNN.out; omega)]] at h; exact h.any (l' := LD ++ irqs.flatMap layIr) (m' := m + 48 + 68 + 8 + 448 + 384 + 512) (fun _ => rfl) (by omega)))
  clear HS
  obtain ⟨w11, rfl⟩ : ∃ W : World, W = wc := ⟨_, rfl⟩
  obtain ⟨LE, hLE⟩ : ∃ L, L = LD ++ irqs.flatMap layIr := ⟨_, rfl⟩
  obtain ⟨EG, hEG⟩ : ∃ E, E = seqE EF (errL (fun y => e144 (badIr y)) irqs) := ⟨_, rfl⟩
  rw [← hLE, ← hEG] at hcut
  have HS := hcut
  have HLE := Lib.hid hLE
  have HEG := Lib.hid hEG
  clear hcut hLE hEG
  have HBD : Hid (EG = 0 → (1 ≤ N0 ∧ N0 ≤ 16) ∧ N1 ≤ 16 ∧ N2 ≤ 64 ∧ N3 ≤ 32) := Lib.hid (fun h0 => HBD.out (seqE_ok (by rw [← HEG.out]; exact h0)).1)
  have HQE : Hid (∀ (Y : World), WS V1 b g (LE ++ strs.flatMap layNu) (m + 48 + 68 + 8 + 448 + 384 + 512 + 128) (seqE EG (errL (fun _ : Int => 0) strs)) Y → Q (.returned (.tuple #[])) Y) := Lib.hid (fun Y hs => by
    refine HQ.out (m + 48 + 68 + 8 + 448 + 384 + 512 + 128) (seqE EG (errL (fun _ : Int => 0) strs)) Y (by omega) ?_ (hs.any (fun _ => ?_) (Nat.le_refl _))
    · rw [eLzero, seqE_zero, HEG.out, HEF.out, eLzero, seqE_zero, HED.out, HEC.out, HEB.out, HEA.out]
    · rw [HLAY.out, HLE.out, HLD.out, HLC.out, HLB.out, HLA.out, HBL.out.2]
      simp)
  go_upto_block 8 with fail
  go_wp2_with fail
  go_loopw [12] (fun j  W => ∃ k : Nat, (k ≤ N3 ∧ k ≤ 32) ∧ j = .int .i64 k ∧ Hid (WS V1 b g (LE ++ (strs.take k).flatMap layNu) (m + 48 + 68 + 8 + 448 + 384 + 512 + 4 * k) (seqE EG (errL (fun _ : Int => 0) (strs.take k))) W)) (fun j  _ => N3 - (intOf j).toNat)
  case atStart => exact ⟨0, ⟨Nat.zero_le _, Nat.zero_le _⟩, rfl, Lib.hid (by rw [show errL (fun _ : Int => 0) (strs.take 0) = 0 from rfl, seqE_zero]; exact HS.out.any (l' := LE ++ (strs.take 0).flatMap layNu) (m' := m + 48 + 68 + 8 + 448 + 384 + 512 + 4 * 0) (fun _ => by simp) (by omega))⟩
  case round =>
    obtain ⟨k, ⟨hk, hk2⟩, rfl, HSk⟩ := hrel
    obtain ⟨W, hW⟩ : ∃ W : World, W = wr := ⟨_, rfl⟩
    subst hW
    have fc := (HC.out _ _ _ _ HSk.out).2.2.2.2.2.2.2.2.2.2
    obtain ⟨fe, ff⟩ := HSk.out.err
    have HNN : Hid (N3 = strs.length) := Lib.hid HNL.out.2.2.2
    have HSTP := Lib.hid (seqE_stop (fun _ : Int => 0) EG strs k)
    obtain ⟨E, hE⟩ : ∃ E, E = seqE EG (errL (fun _ : Int => 0) (strs.take k)) := ⟨_, rfl⟩
    rw [← hE] at HSk HSTP fe
    have HE := Lib.hid hE
    clear hE
    by_cases hlt : k < N3
    · have hki : (k : Int) < (N3 : Int) := by omega
      by_cases h0 : E = 0
      · subst h0
        have z0 : (((0 : Nat) : Int) == 0) = true := rfl
        have hBD := HBD.out (by have := HE.out.symm; first | exact (seqE_ok this).1 | exact (seqE_ok (seqE_ok this).1).1 | exact (seqE_ok (seqE_ok (seqE_ok this).1).1).1)
        have hlt2 : k < strs.length := by have := HNN.out; omega
        obtain ⟨a, p, ra, hp, hpb, hcp⟩ := ((HR.out _ _ _ _ HSk.out).2.2.2).at hlt2
        subst ra
        obtain ⟨y, hy⟩ : ∃ y, y = strs[k] := ⟨_, rfl⟩
        have hyb := HBW.out.2.2.2 _ (List.getElem_mem hlt2)
        rw [← hy] at hcp hyb
        have HYB := Lib.hid hyb
        have hp0 := hp
        rw [Nat.mul_one] at hp
        have hwy : IntKind.u64.wrap y = y := by rw [IntKind.wrap_u64]; unfold u32B at hyb; omega
        have HYL : Hid ((strs.take (k + 1)).flatMap layNu = (strs.take k).flatMap layNu ++ be 4 y.toNat) := Lib.hid (by rw [take_flat layNu strs k hlt2, ← hy]; rfl)
        have HYE : Hid (seqE EG (errL (fun _ : Int => 0) (strs.take (k + 1))) = 0) := Lib.hid (by rw [eLzero]; have := HE.out; rw [eLzero] at this; exact this.symm)
        have HF : Hid (∀ (l' : By) (m' e' : Nat) (Y : World), WS V1 b g l' m' e' Y → Y.cell? p = some (.int .u32 y)) := Lib.hid (fun l' m' e' Y hs => by
          have hrow := (HR.out _ _ _ _ hs).2.2.2
          obtain ⟨a2, p2, ra2, hp2, -, hcp2⟩ := hrow.at hlt2
          injection ra2 with ra2
          subst ra2
          rw [hp0] at hp2
          subst hp2
          rw [← hy] at hcp2
          exact hcp2 0 (by decide))
        have HBB : Hid (k + 1 ≤ N3 ∧ k + 1 ≤ 32) := Lib.hid (by omega)
        have HM := Lib.hid HP.out.2.2.2.2.2.2
        have HT := HSk
        clear hy hyb hcp hpb hBD hlt2 hlt ff hp0
        have cx := (HF.out _ _ _ _ HT.out)
        go_wp2_with (go_at_call 28; refine (wput_any y HYB.out.1 4 (by decide) (by have := HM.out; omega) _ HT.out).mono ?_; rintro y1 w8 ⟨rfl, hs⟩; replace HT := Lib.hid hs; clear hs)
        clear cx
        go_roundw
        case rel => exact ⟨k + 1, HBB.out, by go_num, Lib.hid (by rw [HYE.out]; exact HT.out.any (fun _ => by rw [HYL.out]; simp) (by omega))⟩
        case measure => have := HBB.out.1; simp [intOf]; omega
      · have z0 : ((E : Int) == 0) = false := by simp; omega
        have z1 : ¬ (E : Int) = 0 := by omega
        have HST := Lib.hid (HSTP.out h0)
        have H0 := Lib.hid h0
        clear h0
        go_wp2_with fail
        go_end0
        exact HQE.out _ (by rw [HST.out]; exact (HSk.out.any (l' := LE ++ strs.flatMap layNu) (m' := m + 48 + 68 + 8 + 448 + 384 + 512 + 128) (fun h => absurd h H0.out) (by omega)))
    · have hki : ¬ (k : Int) < (N3 : Int) := by omega
      have hEE : E = seqE EG (errL (fun _ : Int => 0) strs) := by rw [HE.out, List.take_of_length_le (by have := HNN.out; omega)]
      have HEE := Lib.hid hEE
      clear hEE
      go_wp2_with fail
      go_end0
      exact HQE.out _ (by rw [← HEE.out]; exact (by have h := HSk.out; rw [show strs.take k = strs by rw [List.take_of_length_le (by have := HNN.out; omega)]] at h; exact h.any (l' := LE ++ strs.flatMap layNu) (m' := m + 48 + 68 + 8 + 448 + 384 + 512 + 128) (fun _ => rfl) (by omega)))
end
end Go.Proofs.YtmcpmcicolpoeaaDoor
