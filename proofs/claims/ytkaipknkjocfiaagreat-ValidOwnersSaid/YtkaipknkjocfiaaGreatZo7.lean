import Derived.Test.YtkaipknkjocfiaaGreatZo6
namespace Go.Proofs.YtkaipknkjocfiaaGreat
open Go.RowKit
attribute [local go_sem ↓ high] zeroGu
def gFew (x : Gs) : Bool := decide (x.wins.length ≤ 20) && (decide (x.devs.length ≤ 20) && (decide (x.irqs.length ≤ 70) && (decide (x.strs.length ≤ 40) && decide (x.name.length ≤ 100))))
def fewC (c : Cf) : Bool := decide (c.gs.length ≤ 20) && (decide (c.chs.length ≤ 40) && c.gs.all gFew)
theorem few_gs {c : Cf} (h : fewC c = true) : c.gs.length ≤ 20 ∧ c.chs.length ≤ 40 ∧ ∀ g ∈ c.gs, gFew g = true := by
 unfold fewC at h
 simp only [Bool.and_eq_true, decide_eq_true_eq, List.all_eq_true] at h
 exact h
theorem gFew_iff {g : Gs} (h : gFew g = true) : g.wins.length ≤ 20 ∧ g.devs.length ≤ 20 ∧ g.irqs.length ≤ 70 ∧ g.strs.length ≤ 40 ∧ g.name.length ≤ 100 := by
 unfold gFew at h
 simp only [Bool.and_eq_true, decide_eq_true_eq] at h
 exact h
theorem all_snoc {α : Type} (f : α → Bool) (l : List α) (k : Nat) (h : k < l.length) (hp : (l.take k).all f = true) (hf : f l[k] = true) : (l.take (k + 1)).all f = true := by
 rw [List.take_add_one, List.getElem?_eq_getElem h, List.all_append, hp]
 simp [hf]
theorem all_not {α : Type} (f : α → Bool) (l : List α) (k : Nat) (h : k < l.length) (hf : f l[k] = false) : l.all f = false := by
 rw [← Bool.not_eq_true]
 intro hh
 have := List.all_eq_true.1 hh _ (List.getElem_mem h)
 rw [hf] at this
 cases this
def FewP (b : Bool) (w : World) (e : Ending) (w' : World) : Prop := e = .returned (.bool b) ∧ Below w.heap.size w w'
set_option maxHeartbeats 8000000 in
set_option maxRecDepth 100000 in
theorem few_any (x : Cf) (a c : Value) (w : World) (hx : CfR w w.heap.size x a c) : Calls Tryz.prog 9 #[cfVal x a c] w (FewP (fewC x) w) := by
 obtain ⟨V, hV⟩ : ∃ V, V = w.alloc (.cells (vec 3 (cfE x.ver a c)) 31) := ⟨_, rfl⟩
 have k1 : Arr V w.heap.size 31 3 (cfE x.ver a c) := by rw [hV]; exact Arr.new w _ _ _
 have hB : Below w.heap.size w V := by rw [hV]; exact (Below.refl _ _).alloc (Nat.le_refl _) _
 obtain ⟨x0, x1, x2⟩ := cf_cells k1
 obtain ⟨⟨A, d, ys, rfl, hm, hr, hl⟩, ⟨A2, d2, rfl, hr2, hl2⟩⟩ := hx.up hB
 have hlen : x.gs.length = ys.length := by rw [← hm, List.length_map]
 obtain ⟨G, hG⟩ : ∃ G, G = fewC x := ⟨_, rfl⟩
 have hall : x.gs.all gFew = ys.all fun y => gFew y.g := by rw [← hm, List.all_map]; rfl
 have HGF : Hid (G = (decide (x.gs.length ≤ 20) && (decide (x.chs.length ≤ 40) && ys.all fun y => gFew y.g))) := Lib.hid (by rw [hG, ← hall]; rfl)
 rw [← hG]
 unfold cfVal FewP
 obtain ⟨N, hN⟩ : ∃ N, N = x.gs.length := ⟨_, rfl⟩
 obtain ⟨M, hM⟩ : ∃ M, M = x.chs.length := ⟨_, rfl⟩
 rw [← hN] at x1 hl hV HGF ⊢
 rw [← hM] at x2 hl2 hV HGF ⊢
 have HNL : Hid (N = ys.length) := Lib.hid (by rw [hN, hlen])
 have HR := Lib.hid hr
 have HK := Lib.hid hB
 have HW := Lib.hid hV
 clear hV k1 hB hr hr2 hx hm hlen hG hall hN hM
 go_enter Tryz.func9, Tryz.ntmps9
 go_upto_region 1 with fail
 rw [← HW.out]
 clear HW
 by_cases c1 : 20 < N
 · have HF : Hid (G = false) := Lib.hid (by rw [HGF.out, decide_eq_false (by omega)]; rfl)
   have c1 : (20 : Int) < (N : Int) := by omega
   go_wp2_with fail
   go_ret
   exact ⟨by rw [HF.out]; rfl, HK.out⟩
 by_cases c2 : 40 < M
 · have HF : Hid (G = false) := Lib.hid (by rw [HGF.out, decide_eq_false (p := M ≤ 40) (by omega)]; simp)
   have c1 : ¬ (20 : Int) < (N : Int) := by omega
   have c2 : (40 : Int) < (M : Int) := by omega
   go_wp2_with fail
   go_ret
   exact ⟨by rw [HF.out]; rfl, HK.out⟩
 have HGA : Hid (G = ys.all fun y => gFew y.g) := Lib.hid (by rw [HGF.out, decide_eq_true (by omega), decide_eq_true (p := M ≤ 40) (by omega)]; rfl)
 clear HGF
 have d1 : ¬ (20 : Int) < (N : Int) := by omega
 have d2 : ¬ (40 : Int) < (M : Int) := by omega
 go_upto_region 3 with fail
 clear c1 c2 d1 d2
 have HX1 := Lib.hid x1
 go_wp2_with fail
 go_loopw [4, 18] (fun _ v W => ∃ k : Nat, k ≤ N ∧ v = .int .i64 k ∧ Hid ((ys.take k).all (fun y => gFew y.g) = true) ∧ Hid (Below V.heap.size V W)) (fun _ i _ => N - (intOf i).toNat)
 case atStart => exact ⟨0, Nat.zero_le _, rfl, Lib.hid rfl, Lib.hid (Below.refl _ _)⟩
 case round =>
   obtain ⟨k, hk, rfl, HP0, HB⟩ := hrel
   obtain ⟨W, hW⟩ : ∃ W : World, W = wr := ⟨_, rfl⟩
   subst hW
   by_cases hlt0 : k < N
   · have hlt : k < ys.length := by have := HNL.out; omega
     have g1 := HR.out.up HB.out
     obtain ⟨a, p, rfl, hp, -, hcp⟩ := g1.row.at hlt
     obtain ⟨y, hy⟩ : ∃ y, y = ys[k] := ⟨_, rfl⟩
     rw [← hy] at hcp
     have ry : GRow W W.heap.size y := by rw [hy]; exact g1.all _ (List.getElem_mem _)
     have HNO : Hid (gFew y.g = false → G = false) := Lib.hid (fun h => by rw [HGA.out]; exact all_not _ _ _ hlt (by rw [← hy]; exact h))
     have HYES : Hid (gFew y.g = true → (ys.take (k + 1)).all (fun y => gFew y.g) = true) := Lib.hid (fun h => all_snoc _ _ _ hlt HP0.out (by rw [← hy]; exact h))
     have h1 := ry.one
     have hki : (k : Int) < (N : Int) := by omega
     obtain ⟨X, hX⟩ : ∃ X, X = (W.alloc (.cells (vec 79 (guestE zGV)) 63)).setRow W.heap.size (vec 79 (guestE y)) := ⟨_, rfl⟩
     have b1 : Below W.heap.size W X := by rw [hX]; exact below_row ((Below.refl _ _).alloc (Nat.le_refl _) _) (Nat.le_refl _) _
     have a1 : Arr X W.heap.size 63 79 (guestE y) := by rw [hX]; exact (Arr.new W _ _ _).row _
     have HBX := Lib.hid (HB.out.trans (b1.mono HB.out.size))
     have HCP := Lib.hid hcp
     have HX := Lib.hid hX
     have HA := Lib.hid a1
     have HRY := Lib.hid ry
     have HG1 := Lib.hid h1
     clear g1 hcp ry hy hlt h1 hX b1 a1
     go_upto_region 6 with (first
       | ((with_reducible show wpList _ _ _ (Oper.mk _ (.load _ _) _ _ _ _ :: _) _ _); refine wl_load_q rfl 63 _ rfl p rfl _ (run_load_q HCP.out Tryz.underlying63 rfl infoGu) ?_)
       | ((with_reducible show wpList _ _ _ (Oper.mk _ (.store _ _ _) _ _ _ _ :: _) _ _); refine wl_store rfl 63 _ _ rfl _ rfl _ rfl (run_store_arr (Arr.new W _ _ _) (guestE y) infoGu (guestE_one _ HG1.out _)) ?_))
     rw [← HX.out]
     clear HX HCP
     obtain ⟨⟨A1, e1, f1, _, _⟩, ⟨A2, e2, f2, _, _⟩, ⟨A3, e3, f3, _, _⟩, ⟨A4, e4, f4, _, _⟩⟩ := HRY.out
     have y0 : X.cell? ⟨W.heap.size, 0, none⟩ = some (.string (strOf y.g.name)) := HA.out.cell (i := 0) (by decide)
     have y1 : X.cell? ⟨W.heap.size, 75, none⟩ = some (.slice A1 y.g.wins.length e1) := f1 ▸ HA.out.cell (i := 75) (by decide)
     have y2 : X.cell? ⟨W.heap.size, 76, none⟩ = some (.slice A2 y.g.devs.length e2) := f2 ▸ HA.out.cell (i := 76) (by decide)
     have y3 : X.cell? ⟨W.heap.size, 77, none⟩ = some (.slice A3 y.g.irqs.length e3) := f3 ▸ HA.out.cell (i := 77) (by decide)
     have y4 : X.cell? ⟨W.heap.size, 78, none⟩ = some (.slice A4 y.g.strs.length e4) := f4 ▸ HA.out.cell (i := 78) (by decide)
     have hsz : (strOf y.g.name).size = y.g.name.length := strOf_size _
     obtain ⟨S, hS⟩ : ∃ S, S = strOf y.g.name := ⟨_, rfl⟩
     rw [← hS] at y0 hsz
     obtain ⟨n0, q0⟩ : ∃ n, n = y.g.name.length := ⟨_, rfl⟩
     obtain ⟨n1, q1⟩ : ∃ n, n = y.g.wins.length := ⟨_, rfl⟩
     obtain ⟨n2, q2⟩ : ∃ n, n = y.g.devs.length := ⟨_, rfl⟩
     obtain ⟨n3, q3⟩ : ∃ n, n = y.g.irqs.length := ⟨_, rfl⟩
     obtain ⟨n4, q4⟩ : ∃ n, n = y.g.strs.length := ⟨_, rfl⟩
     have HE : Hid (gFew y.g = (decide (n1 ≤ 20) && (decide (n2 ≤ 20) && (decide (n3 ≤ 70) && (decide (n4 ≤ 40) && decide (n0 ≤ 100)))))) := Lib.hid (by rw [q0, q1, q2, q3, q4]; rfl)
     rw [← q0] at hsz
     rw [← q1] at y1
     rw [← q2] at y2
     rw [← q3] at y3
     rw [← q4] at y4
     clear q0 q1 q2 q3 q4 hS f1 f2 f3 f4
     by_cases t1 : 20 < n1
     · have HF : Hid (G = false) := Lib.hid (HNO.out (by rw [HE.out, decide_eq_false (by omega)]; rfl))
       have t1 : (20 : Int) < (n1 : Int) := by omega
       go_wp2_with fail
       go_ret
       exact ⟨by rw [HF.out]; rfl, HK.out.trans (HBX.out.mono HK.out.size)⟩
     by_cases t2 : 20 < n2
     · have HF : Hid (G = false) := Lib.hid (HNO.out (by rw [HE.out, decide_eq_false (p := n2 ≤ 20) (by omega)]; simp))
       have t1 : ¬ (20 : Int) < (n1 : Int) := by omega
       have t2 : (20 : Int) < (n2 : Int) := by omega
       go_wp2_with fail
       go_ret
       exact ⟨by rw [HF.out]; rfl, HK.out.trans (HBX.out.mono HK.out.size)⟩
     by_cases t3 : 70 < n3
     · have HF : Hid (G = false) := Lib.hid (HNO.out (by rw [HE.out, decide_eq_false (p := n3 ≤ 70) (by omega)]; simp))
       have t1 : ¬ (20 : Int) < (n1 : Int) := by omega
       have t2 : ¬ (20 : Int) < (n2 : Int) := by omega
       have t3 : (70 : Int) < (n3 : Int) := by omega
       go_wp2_with fail
       go_ret
       exact ⟨by rw [HF.out]; rfl, HK.out.trans (HBX.out.mono HK.out.size)⟩
     by_cases t4 : 40 < n4
     · have HF : Hid (G = false) := Lib.hid (HNO.out (by rw [HE.out, decide_eq_false (p := n4 ≤ 40) (by omega)]; simp))
       have t1 : ¬ (20 : Int) < (n1 : Int) := by omega
       have t2 : ¬ (20 : Int) < (n2 : Int) := by omega
       have t3 : ¬ (70 : Int) < (n3 : Int) := by omega
       have t4 : (40 : Int) < (n4 : Int) := by omega
       go_wp2_with fail
       go_ret
       exact ⟨by rw [HF.out]; rfl, HK.out.trans (HBX.out.mono HK.out.size)⟩
     by_cases t5 : 100 < n0
     · have HF : Hid (G = false) := Lib.hid (HNO.out (by rw [HE.out, decide_eq_false (p := n0 ≤ 100) (by omega)]; simp))
       have t1 : ¬ (20 : Int) < (n1 : Int) := by omega
       have t2 : ¬ (20 : Int) < (n2 : Int) := by omega
       have t3 : ¬ (70 : Int) < (n3 : Int) := by omega
       have t4 : ¬ (40 : Int) < (n4 : Int) := by omega
       have t5 : (100 : Int) < (n0 : Int) := by omega
       go_wp2_with fail
       go_ret
       exact ⟨by rw [HF.out]; rfl, HK.out.trans (HBX.out.mono HK.out.size)⟩
     have HS := Lib.hid (HYES.out (by rw [HE.out, decide_eq_true (by omega), decide_eq_true (p := n2 ≤ 20) (by omega), decide_eq_true (p := n3 ≤ 70) (by omega), decide_eq_true (p := n4 ≤ 40) (by omega), decide_eq_true (p := n0 ≤ 100) (by omega)]; rfl))
     have d1 : ¬ (20 : Int) < (n1 : Int) := by omega
     have d2 : ¬ (20 : Int) < (n2 : Int) := by omega
     have d3 : ¬ (70 : Int) < (n3 : Int) := by omega
     have d4 : ¬ (40 : Int) < (n4 : Int) := by omega
     have d5 : ¬ (100 : Int) < (n0 : Int) := by omega
     go_wp2_with fail
     go_roundw
     case rel => exact ⟨k + 1, by omega, by go_num, HS, HBX⟩
     case measure => simp [intOf]; omega
   · obtain rfl : k = N := by omega
     have HF : Hid (G = true) := Lib.hid (by rw [HGA.out]; have h := HP0.out; rw [HNL.out, List.take_length] at h; exact h)
     clear hlt0
     go_wp2_with fail
     go_ret
     exact ⟨by rw [HF.out]; rfl, HK.out.trans (HB.out.mono HK.out.size)⟩
end Go.Proofs.YtkaipknkjocfiaaGreat
namespace Go.Proofs.YtkaipknkjocfiaaGreat
open Go.RowKit
theorem cf_guest {x : Cf} {a c : Value} {V : World} (hx : CfR V V.heap.size x a c) : ∃ (A : Option Addr) (d : Nat) (A2 : Option Addr) (d2 : Nat), a = .slice A x.gs.length d ∧ c = .slice A2 x.chs.length d2 ∧ (∀ Y, Below V.heap.size V Y → RowE 8 chE Y Y.heap.size A2 x.chs) ∧
  ∀ i (hi : i < x.gs.length), ∃ (a0 q : Addr) (A1 : Option Addr) (e1 : Nat) (A3 : Option Addr) (e3 : Nat), A = some a0 ∧ a0.add (i * 79) = q ∧ ∀ Y, Below V.heap.size V Y → (Y.cell? ⟨q.block, q.off + 75, none⟩ = some (.slice A1 (x.gs[i]).wins.length e1) ∧ Y.cell? ⟨q.block, q.off + 76, none⟩ = some (.slice A3 (x.gs[i]).devs.length e3)) ∧ RowE 4 winE Y Y.heap.size A1 (x.gs[i]).wins ∧ RowE 3 devE Y Y.heap.size A3 (x.gs[i]).devs := by
 obtain ⟨⟨A, d, ys, rfl, hm, hr, -⟩, ⟨A2, d2, rfl, hr2, -⟩⟩ := hx
 refine ⟨A, d, A2, d2, rfl, rfl, fun Y hY => hr2.up hY, fun i hi => ?_⟩
 have hlen : ys.length = x.gs.length := by rw [← hm, List.length_map]
 have hiy : i < ys.length := by omega
 have hg : ys[i].g = x.gs[i] := by simp [← hm]
 obtain ⟨a0, q, rfl, hq, -, -⟩ := hr.row.at hiy
 obtain ⟨⟨A1, e1, f1, r1, -⟩, ⟨A3, e3, f3, r3, -⟩, -, -⟩ := hr.all _ (List.getElem_mem hiy)
 rw [hg] at f1 f3 r1 r3
 refine ⟨a0, q, A1, e1, A3, e3, rfl, hq, fun Y hY => ?_⟩
 obtain ⟨a', q', ea, hq', -, hcp⟩ := (hr.up hY).row.at hiy
 injection ea with ea
 subst ea
 rw [hq] at hq'
 subst hq'
 have z1 := hcp 75 (by decide)
 have z2 := hcp 76 (by decide)
 have w1 : guestE ys[i] 75 = ys[i].wv := rfl
 have w2 : guestE ys[i] 76 = ys[i].dv := rfl
 rw [w1, f1] at z1
 rw [w2, f3] at z2
 exact ⟨⟨z1, z2⟩, r1.up hY, r3.up hY⟩
theorem info_span : (Tryz.prog.info? 24).map (fun i => (i.zero, i.size, i.bytes)) = some (some (.agg (vec 2 (spE (0, 0)))), 2, 16) := by kernel_rfl
set_option maxRecDepth 100000 in
theorem build_span (x : Sp) (w : World) : (Instr.buildSlice 40 1 #[(0, .agg (vec 2 (spE x)))]).run Tryz.prog w = .ok (.slice (some ⟨w.heap.size, 0, none⟩) 1 1) (w.alloc (.cells (vec 2 (spE x)) 24)) := by
 obtain ⟨i0, hi, hz0, hz1, hz2⟩ := info_parts info_span
 refine run_buildSlice (P := Tryz.prog) w 40 24 1 _ _ i0 (.agg (vec 2 (spE (0, 0)))) Tryz.underlying40 hi hz0 (by rw [hz1]; decide) (by rw [hz1]; decide) ?_
 rw [hz1]
 kernel_rfl
abbrev OwnS (w : World) (base : Nat) (v : Value) (l : List Sp) : Prop := OwnE 24 2 spE w base v l
def SpansP (l : List Sp) (w : World) (e : Ending) (w' : World) : Prop := ∃ v, e = .returned v ∧ OwnS w' w.heap.size v l ∧ Below w.heap.size w w'
end Go.Proofs.YtkaipknkjocfiaaGreat
namespace Go.Proofs.YtkaipknkjocfiaaGreat
open Go.RowKit
theorem has_bel (a b p : Nat) (hx : fit (a, b)) (w : World) :
 Calls Tryz.prog 84 #[.agg #[.int .u64 (a : Int), .int .u64 (b : Int)], .int .u64 (p : Int)] w fun e w' => e = .returned (.bool (has (a, b) p)) ∧ Below w.heap.size w w' := has_any a b p hx w
theorem within_eq (a b c d : Nat) (h : good (a, b) = true) : within (a, b) (c, d) = (has (c, d) a && has (c, d) (last (a, b))) := by
 have hl := last_good h
 have hg := (good_iff _).1 h
 simp only at hl hg
 rw [Bool.eq_iff_iff]
 simp only [within, has, h, Bool.true_and, Bool.and_eq_true, decide_eq_true_eq]
 constructor
 · rintro ⟨h1, h2, h3⟩; exact ⟨⟨h1, by omega, by omega⟩, h1, by omega, by omega⟩
 · rintro ⟨⟨h1, h2, h3⟩, h4, h5, h6⟩; exact ⟨h1, by omega, by omega⟩
set_option maxHeartbeats 1000000 in
theorem within_any (a b c d : Nat) (hx : fit (a, b)) (hy : fit (c, d)) (w : World) :
   Calls Tryz.prog 69 #[.agg #[.int .u64 (a : Int), .int .u64 (b : Int)], .agg #[.int .u64 (c : Int), .int .u64 (d : Int)]] w fun e w' => e = .returned (.bool (within (a, b) (c, d))) ∧ Below w.heap.size w w' := by
 have Hx := Lib.hid hx
 have Hy := Lib.hid hy
 by_cases h : good (a, b) = true
 · rw [within_eq a b c d h]
   by_cases h1 : has (c, d) a = true
   · rw [h1, Bool.true_and]
     go_enter Tryz.func69, Tryz.ntmps69
     go_wp2
     refine wp_region_held_drew (S := fun W => Below w.heap.size w W ∧ W.cell? ⟨w.heap.size, 0, none⟩ = some (.int .u64 (a : Int)) ∧ W.cell? ⟨w.heap.size, 1, none⟩ = some (.int .u64 (b : Int)) ∧ W.cell? ⟨w.heap.size + 1, 0, none⟩ = some (.int .u64 (c : Int)) ∧ W.cell? ⟨w.heap.size + 1, 1, none⟩ = some (.int .u64 (d : Int))) (by kernel_rfl) (keep4_start w a b c d _ rfl) (fun hS => ?_)
     refine tA 0 (h := ?_)
     refine oQ 1 (h := fun K1 hK1 => ?_)
     go_simp
     refine (good_bel a b Hx.out _).mono ?_
     rintro e w1 ⟨rfl, hd⟩
     refine hK1 _ _ (keep4 hd hS) (fun hS1 => ?_)
     clear hS hd hK1 K1
     refine tA 2 (h := ?_)
     refine tA 3 (h := ?_)
     refine tA 4 (h := ?_)
     refine tA 5 (h := ?_)
     refine oQ 6 (h := fun K6 hK6 => ?_)
     go_simp
     refine (has_bel c d a Hy.out _).mono ?_
     rintro e w1 ⟨rfl, hd⟩
     refine hK6 _ _ (keep4 hd hS1) (fun hS6 => ?_)
     clear hS1 hd hK6 K6
     refine tA 7 (h := ?_)
     refine tA 8 (h := ?_)
     refine tA 9 (h := ?_)
     refine tA 10 (h := ?_)
     refine oQ 11 (h := fun K11 hK11 => ?_)
     go_simp
     refine (last_bel a b Hx.out _).mono ?_
     rintro e w1 ⟨rfl, hd⟩
     refine hK11 _ _ (keep4 hd hS6) (fun hS11 => ?_)
     clear hS6 hd hK11 K11
     refine oQ 12 (h := fun K12 hK12 => ?_)
     go_simp
     refine (has_bel c d (last (a, b)) Hy.out _).mono ?_
     rintro e w1 ⟨rfl, hd⟩
     refine hK12 _ _ (keep4 hd hS11) (fun hS12 => ?_)
     clear hS11 hd hK12 K12
     refine tA 13 (h := ?_)
     refine tA 14 (h := ?_)
     refine wpAnyH_done (by kernel_rfl) ?_ _
     go_wp2
     go_ret
     exact ⟨rfl, hS12.1⟩
   · have h1' : has (c, d) a = false := by simpa using h1
     clear h1
     rw [h1', Bool.false_and]
     go_enter Tryz.func69, Tryz.ntmps69
     go_wp2
     refine wp_region_held_drew (S := fun W => Below w.heap.size w W ∧ W.cell? ⟨w.heap.size, 0, none⟩ = some (.int .u64 (a : Int)) ∧ W.cell? ⟨w.heap.size, 1, none⟩ = some (.int .u64 (b : Int)) ∧ W.cell? ⟨w.heap.size + 1, 0, none⟩ = some (.int .u64 (c : Int)) ∧ W.cell? ⟨w.heap.size + 1, 1, none⟩ = some (.int .u64 (d : Int))) (by kernel_rfl) (keep4_start w a b c d _ rfl) (fun hS => ?_)
     refine tA 0 (h := ?_)
     refine oQ 1 (h := fun K1 hK1 => ?_)
     go_simp
     refine (good_bel a b Hx.out _).mono ?_
     rintro e w1 ⟨rfl, hd⟩
     refine hK1 _ _ (keep4 hd hS) (fun hS1 => ?_)
     clear hS hd hK1 K1
     refine tA 2 (h := ?_)
     refine tA 3 (h := ?_)
     refine tA 4 (h := ?_)
     refine tA 5 (h := ?_)
     refine oQ 6 (h := fun K6 hK6 => ?_)
     go_simp
     refine (has_bel c d a Hy.out _).mono ?_
     rintro e w1 ⟨rfl, hd⟩
     refine hK6 _ _ (keep4 hd hS1) (fun hS6 => ?_)
     clear hS1 hd hK6 K6
     refine tA 7 (h := ?_)
     refine tA 8 (h := ?_)
     refine sQ 9 (h := ?_)
     refine sQ 10 (h := ?_)
     refine sQ 11 (h := ?_)
     refine sQ 12 (h := ?_)
     refine tA 13 (h := ?_)
     refine tA 14 (h := ?_)
     refine wpAnyH_done (by kernel_rfl) ?_ _
     go_wp2
     go_ret
     exact ⟨rfl, hS6.1⟩
 · have h' : good (a, b) = false := by simpa using h
   clear h
   rw [show within (a, b) (c, d) = false from by simp [within, h']]
   go_enter Tryz.func69, Tryz.ntmps69
   go_wp2
   refine wp_region_held_drew (S := fun W => Below w.heap.size w W ∧ W.cell? ⟨w.heap.size, 0, none⟩ = some (.int .u64 (a : Int)) ∧ W.cell? ⟨w.heap.size, 1, none⟩ = some (.int .u64 (b : Int)) ∧ W.cell? ⟨w.heap.size + 1, 0, none⟩ = some (.int .u64 (c : Int)) ∧ W.cell? ⟨w.heap.size + 1, 1, none⟩ = some (.int .u64 (d : Int))) (by kernel_rfl) (keep4_start w a b c d _ rfl) (fun hS => ?_)
   refine tA 0 (h := ?_)
   refine oQ 1 (h := fun K1 hK1 => ?_)
   go_simp
   refine (good_bel a b Hx.out _).mono ?_
   rintro e w1 ⟨rfl, hd⟩
   refine hK1 _ _ (keep4 hd hS) (fun hS1 => ?_)
   clear hS hd hK1 K1
   refine tA 2 (h := ?_)
   refine sQ 3 (h := ?_)
   refine sQ 4 (h := ?_)
   refine sQ 5 (h := ?_)
   refine sQ 6 (h := ?_)
   refine tA 7 (h := ?_)
   refine tA 8 (h := ?_)
   refine sQ 9 (h := ?_)
   refine sQ 10 (h := ?_)
   refine sQ 11 (h := ?_)
   refine sQ 12 (h := ?_)
   refine tA 13 (h := ?_)
   refine tA 14 (h := ?_)
   refine wpAnyH_done (by kernel_rfl) ?_ _
   go_wp2
   go_ret
   exact ⟨rfl, hS1.1⟩
end Go.Proofs.YtkaipknkjocfiaaGreat
namespace Go.Proofs.YtkaipknkjocfiaaGreat
open Go.RowKit
def boxSp (a b : Nat) : Array Value := #[.int .u64 (a : Int), .int .u64 (b : Int)]
theorem row_lit (w : World) (a b : Nat) : Row (w.alloc (spo a b)) (w.heap.size + 1) (some ⟨w.heap.size, 0, none⟩) [(a, b)] := fun _ =>
 ⟨_, rfl, Nat.lt_succ_self _, fun j hj => by
  simp only [List.length_cons, List.length_nil] at hj
  obtain rfl : j = 0 := by omega
  refine ⟨?_, ?_⟩ <;> simp [Addr.add]⟩
theorem pages1 (a b : Nat) (hx : fit (a, b)) (w : World) (g : Nat) (hg : g = w.heap.size) :
  Calls Tryz.prog 68 #[.slice (some ⟨g, 0, none⟩) 1 1] (w.alloc (spo a b)) fun e w' => e = .returned (.bool (paged (a, b))) ∧ Below w.heap.size w w' := by
 subst hg
 have h := pages_any (some ⟨w.heap.size, 0, none⟩) 1 [(a, b)] (by simp) (fun x hx' => by simp only [List.mem_cons, List.not_mem_nil, or_false] at hx'; subst hx'; exact hx) (w.alloc (spo a b)) ((row_lit w a b).wide (by simp))
 have e : [(a, b)].all paged = paged (a, b) := by simp
 rw [e] at h
 exact h.mono fun e w' ⟨h1, h2⟩ => ⟨h1, ((Below.refl _ w).alloc (Nat.le_refl _) _).trans (h2.mono (by simp))⟩
def addrB (r : Sp) : Bool := paged r && decide (last r < 1099511627776)
set_option maxRecDepth 100000 in
set_option maxHeartbeats 1000000 in
theorem addressed_any (a b : Nat) (hx : fit (a, b)) (w : World) :
  Calls Tryz.prog 67 #[.agg #[.int .u64 (a : Int), .int .u64 (b : Int)]] w fun e w' => e = .returned (.bool (addrB (a, b))) ∧ Below w.heap.size w w' := by
 have hb : Below w.heap.size w (w.alloc (spo a b)) := (Below.refl _ _).alloc (Nat.le_refl _) _
 have hp := pages1 a b hx (w.alloc (spo a b)) (w.heap.size + 1) (by simp)
 obtain ⟨z, hz⟩ : ∃ z, z = addrB (a, b) := ⟨_, rfl⟩
 obtain ⟨l, hl⟩ : ∃ l, l = last (a, b) := ⟨_, rfl⟩
 have HL : Hid (∀ W, Calls Tryz.prog 105 #[.agg #[.int .u64 (a : Int), .int .u64 (b : Int)]] W fun e w' => e = .returned (.int .u64 (l : Int)) ∧ Below W.heap.size W w') := Lib.hid fun W => by rw [hl]; exact last_bel a b hx W
 have HBA : Hid (∀ v, Below (w.alloc (spo a b)).heap.size (w.alloc (spo a b)) v → v.cell? ⟨w.heap.size, 0, none⟩ = some (.int .u64 (a : Int)) ∧ v.cell? ⟨w.heap.size, 1, none⟩ = some (.int .u64 (b : Int))) := Lib.hid fun v hv => by
  have h : Blk v w.heap.size 24 (boxSp a b) := Blk.under (Blk.new _ _ _ rfl) hv
  exact ⟨h.cellAt 0 rfl, h.cellAt 1 rfl⟩
 have HB := Lib.hid hb
 rw [← hz]
 cases hpg : paged (a, b) with
 | false =>
  rw [hpg] at hp
  have hz0 : z = false := by rw [hz]; unfold addrB; rw [hpg]; rfl
  subst hz0
  have HP := Lib.hid hp
  clear hp hz hl hpg hx hb
  go_enter Tryz.func67, Tryz.ntmps67
  go_wp2_with (go_at_call 68; refine HP.out.mono ?_; rintro e w1 ⟨rfl, hd⟩; have HD := Lib.hid hd; clear hd)
  go_ret
  exact ⟨rfl, HB.out.trans (HD.out.mono HB.out.size)⟩
 | true =>
  rw [hpg] at hp
  have HP := Lib.hid hp
  by_cases hlt : l < 1099511627776
  · have hz0 : z = true := by rw [hz]; unfold addrB; rw [hpg, ← hl, decide_eq_true hlt]; rfl
    subst hz0
    have hlt' : (l : Int) < 1099511627776 := by omega
    clear hp hz hl hpg hx hb hlt
    go_enter Tryz.func67, Tryz.ntmps67
    go_wp2_with (first
     | (go_at_call 68; refine HP.out.mono ?_; rintro e w1 ⟨rfl, hd⟩; have HD := Lib.hid hd; obtain ⟨c0, c1⟩ := HBA.out w1 hd; clear hd)
     | (go_at_call 105; refine (HL.out _).mono ?_; rintro e w2 ⟨rfl, hd⟩; have HD2 := Lib.hid hd; clear hd))
    go_ret
    have h3 := HB.out.trans (HD.out.mono HB.out.size)
    exact ⟨rfl, h3.trans (HD2.out.mono h3.size)⟩
  · have hz0 : z = false := by rw [hz]; unfold addrB; rw [hpg, ← hl, decide_eq_false hlt]; rfl
    subst hz0
    have hlt' : ¬ (l : Int) < 1099511627776 := by omega
    have hlt2 : decide ((l : Int) < 1099511627776) = false := decide_eq_false hlt'
    have hlt3 : (1099511627776 : Int) ≤ l := by omega
    clear hp hz hl hpg hx hb hlt
    go_enter Tryz.func67, Tryz.ntmps67
    go_wp2_with (first
     | (go_at_call 68; refine HP.out.mono ?_; rintro e w1 ⟨rfl, hd⟩; have HD := Lib.hid hd; obtain ⟨c0, c1⟩ := HBA.out w1 hd; clear hd)
     | (go_at_call 105; refine (HL.out _).mono ?_; rintro e w2 ⟨rfl, hd⟩; have HD2 := Lib.hid hd; clear hd))
    go_ret
    have h3 := HB.out.trans (HD.out.mono HB.out.size)
    exact ⟨by rw [← hlt2]; rfl, h3.trans (HD2.out.mono h3.size)⟩
set_option maxRecDepth 100000 in
theorem among9_any (n lo hi : Int) (w : World) :
   Calls Tryz.prog 70 #[.int .i64 n, .int .i64 lo, .int .i64 hi] w fun e w' => e = .returned (.bool (decide (lo ≤ n ∧ n ≤ hi))) ∧ w' = w := by
 by_cases h1 : lo ≤ n
 · by_cases h2 : n ≤ hi
   · rw [decide_eq_true ⟨h1, h2⟩]
     go_enter Tryz.func70, Tryz.ntmps70
     go_wp2
     go_ret
     exact ⟨rfl, rfl⟩
   · rw [decide_eq_false (fun h => h2 h.2)]
     go_enter Tryz.func70, Tryz.ntmps70
     go_wp2
     go_ret
     exact ⟨rfl, rfl⟩
 · rw [decide_eq_false (fun h => h1 h.1)]
   go_enter Tryz.func70, Tryz.ntmps70
   go_wp2
   go_ret
   exact ⟨rfl, rfl⟩
end Go.Proofs.YtkaipknkjocfiaaGreat
