/- portreevelaw14.Few: configurations that are small. -/
import Derived.Test.YtgnihceefpijiaaSf
namespace Go.Proofs.Ytgnihceefpijiaa
open Go.RowKit
attribute [local go_sem ↓ high] zeroGu
def gFew (x : Gs) : Bool := decide (x.wins.length ≤ 20) && (decide (x.devs.length ≤ 20) && (decide (x.irqs.length ≤ 70) && (decide (x.strs.length ≤ 40) && decide (x.name.length ≤ 100))))
def fewC (c : Cf) : Bool := decide (c.gs.length ≤ 20) && (decide (c.chs.length ≤ 40) && c.gs.all gFew)
theorem few_gs {c : Cf} (h : fewC c = true) : c.gs.length ≤ 20 ∧ c.chs.length ≤ 40 ∧ ∀ g ∈ c.gs, gFew g = true := by
  unfold fewC at h
  simp only [Bool.and_eq_true, decide_eq_true_eq, List.all_eq_true] at h
  exact h
theorem gFew_iff {g : Gs} (h : gFew g = true) : g.wins.length ≤ 20 ∧ g.devs.length ≤ 20 ∧ g.irqs.length ≤ 70 ∧ g.strs.length ≤ 40 ∧ g.name.length ≤ 100 := by
  unfold gFew at h
  simp only [Bool.and_eq_true, decide_eq_true_eq] at h
  exact h
theorem all_snoc {α : Type} (f : α → Bool) (l : List α) (k : Nat) (h : k < l.length) (hp : (l.take k).all f = true) (hf : f l[k] = true) : (l.take (k + 1)).all f = true := by
  rw [List.take_add_one, List.getElem?_eq_getElem h, List.all_append, hp]
  simp [hf]
theorem all_not {α : Type} (f : α → Bool) (l : List α) (k : Nat) (h : k < l.length) (hf : f l[k] = false) : l.all f = false := by
  rw [← Bool.not_eq_true]
  intro hh
  have := List.all_eq_true.1 hh _ (List.getElem_mem h)
  rw [hf] at this
  cases this
def FewP (b : Bool) (w : World) (e : Ending) (w' : World) : Prop := e = .returned (.bool b) ∧ Below w.heap.size w w'
set_option maxHeartbeats 8000000 in
set_option maxRecDepth 100000 in
theorem few_any (x : Cf) (a c : Value) (w : World) (hx : CfR w w.heap.size x a c) : Calls Try.prog 8 #[cfVal x a c] w (FewP (fewC x) w) := by
  obtain ⟨V, hV⟩ : ∃ V, V = w.alloc (.cells (vec 3 (cfE x.ver a c)) 26) := ⟨_, rfl⟩
  have k1 : Arr V w.heap.size 26 3 (cfE x.ver a c) := by rw [hV]; exact Arr.new w _ _ _
  have hB : Below w.heap.size w V := by rw [hV]; exact (Below.refl _ _).alloc (Nat.le_refl _) _
  obtain ⟨x0, x1, x2⟩ := cf_cells k1
  obtain ⟨⟨A, d, ys, rfl, hm, hr, hl⟩, ⟨A2, d2, rfl, hr2, hl2⟩⟩ := hx.up hB
  have hlen : x.gs.length = ys.length := by rw [← hm, List.length_map]
  obtain ⟨G, hG⟩ : ∃ G, G = fewC x := ⟨_, rfl⟩
  have hall : x.gs.all gFew = ys.all fun y => gFew y.g := by rw [← hm, List.all_map]; rfl
  have HGF : Hid (G = (decide (x.gs.length ≤ 20) && (decide (x.chs.length ≤ 40) && ys.all fun y => gFew y.g))) := Lib.hid (by rw [hG, ← hall]; rfl)
  rw [← hG]
  unfold cfVal FewP
  obtain ⟨N, hN⟩ : ∃ N, N = x.gs.length := ⟨_, rfl⟩
  obtain ⟨M, hM⟩ : ∃ M, M = x.chs.length := ⟨_, rfl⟩
  rw [← hN] at x1 hl hV HGF ⊢
  rw [← hM] at x2 hl2 hV HGF ⊢
  have HNL : Hid (N = ys.length) := Lib.hid (by rw [hN, hlen])
  have HR := Lib.hid hr
  have HK := Lib.hid hB
  have HW := Lib.hid hV
  clear hV k1 hB hr hr2 hx hm hlen hG hall hN hM
  go_enter Try.func8, Try.ntmps8
  go_upto_region 1 with fail
  rw [← HW.out]
  clear HW
  by_cases c1 : 20 < N
  · have HF : Hid (G = false) := Lib.hid (by rw [HGF.out, decide_eq_false (by omega)]; rfl)
    have c1 : (20 : Int) < (N : Int) := by omega
    go_wp2_with fail
    go_ret
    exact ⟨by rw [HF.out]; rfl, HK.out⟩
  by_cases c2 : 40 < M
  · have HF : Hid (G = false) := Lib.hid (by rw [HGF.out, decide_eq_false (p := M ≤ 40) (by omega)]; simp)
    have c1 : ¬ (20 : Int) < (N : Int) := by omega
    have c2 : (40 : Int) < (M : Int) := by omega
    go_wp2_with fail
    go_ret
    exact ⟨by rw [HF.out]; rfl, HK.out⟩
  have HGA : Hid (G = ys.all fun y => gFew y.g) := Lib.hid (by rw [HGF.out, decide_eq_true (by omega), decide_eq_true (p := M ≤ 40) (by omega)]; rfl)
  clear HGF
  have d1 : ¬ (20 : Int) < (N : Int) := by omega
  have d2 : ¬ (40 : Int) < (M : Int) := by omega
  go_upto_region 3 with fail
  clear c1 c2 d1 d2
  have HX1 := Lib.hid x1
  go_wp2_with fail
  go_loopw [4, 18] (fun _ v W => ∃ k : Nat, k ≤ N ∧ v = .int .i64 k ∧ Hid ((ys.take k).all (fun y => gFew y.g) = true) ∧ Hid (Below V.heap.size V W)) (fun _ i _ => N - (intOf i).toNat)
  case atStart => exact ⟨0, Nat.zero_le _, rfl, Lib.hid rfl, Lib.hid (Below.refl _ _)⟩
  case round =>
    obtain ⟨k, hk, rfl, HP0, HB⟩ := hrel
    obtain ⟨W, hW⟩ : ∃ W : World, W = wr := ⟨_, rfl⟩
    subst hW
    by_cases hlt0 : k < N
    · have hlt : k < ys.length := by have := HNL.out; omega
      have g1 := HR.out.up HB.out
      obtain ⟨a, p, rfl, hp, -, hcp⟩ := g1.row.at hlt
      obtain ⟨y, hy⟩ : ∃ y, y = ys[k] := ⟨_, rfl⟩
      rw [← hy] at hcp
      have ry : GRow W W.heap.size y := by rw [hy]; exact g1.all _ (List.getElem_mem _)
      have HNO : Hid (gFew y.g = false → G = false) := Lib.hid (fun h => by rw [HGA.out]; exact all_not _ _ _ hlt (by rw [← hy]; exact h))
      have HYES : Hid (gFew y.g = true → (ys.take (k + 1)).all (fun y => gFew y.g) = true) := Lib.hid (fun h => all_snoc _ _ _ hlt HP0.out (by rw [← hy]; exact h))
      have h1 := ry.one
      have hki : (k : Int) < (N : Int) := by omega
      obtain ⟨X, hX⟩ : ∃ X, X = (W.alloc (.cells (vec 79 (guestE zGV)) 61)).setRow W.heap.size (vec 79 (guestE y)) := ⟨_, rfl⟩
      have b1 : Below W.heap.size W X := by rw [hX]; exact below_row ((Below.refl _ _).alloc (Nat.le_refl _) _) (Nat.le_refl _) _
      have a1 : Arr X W.heap.size 61 79 (guestE y) := by rw [hX]; exact (Arr.new W _ _ _).row _
      have HBX := Lib.hid (HB.out.trans (b1.mono HB.out.size))
      have HCP := Lib.hid hcp
      have HX := Lib.hid hX
      have HA := Lib.hid a1
      have HRY := Lib.hid ry
      have HG1 := Lib.hid h1
      clear g1 hcp ry hy hlt h1 hX b1 a1
      go_upto_region 6 with (first
        | ((with_reducible show wpList _ _ _ (Oper.mk _ (.load _ _) _ _ _ _ :: _) _ _); refine wl_load_q rfl 61 _ rfl p rfl _ (run_load_q HCP.out Try.underlying61 rfl infoGu) ?_)
        | ((with_reducible show wpList _ _ _ (Oper.mk _ (.store _ _ _) _ _ _ _ :: _) _ _); refine wl_store rfl 61 _ _ rfl _ rfl _ rfl (run_store_arr (Arr.new W _ _ _) (guestE y) infoGu (guestE_one _ HG1.out _)) ?_))
      rw [← HX.out]
      clear HX HCP
      obtain ⟨⟨A1, e1, f1, _, _⟩, ⟨A2, e2, f2, _, _⟩, ⟨A3, e3, f3, _, _⟩, ⟨A4, e4, f4, _, _⟩⟩ := HRY.out
      have y0 : X.cell? ⟨W.heap.size, 0, none⟩ = some (.string (strOf y.g.name)) := HA.out.cell (i := 0) (by decide)
      have y1 : X.cell? ⟨W.heap.size, 75, none⟩ = some (.slice A1 y.g.wins.length e1) := f1 ▸ HA.out.cell (i := 75) (by decide)
      have y2 : X.cell? ⟨W.heap.size, 76, none⟩ = some (.slice A2 y.g.devs.length e2) := f2 ▸ HA.out.cell (i := 76) (by decide)
      have y3 : X.cell? ⟨W.heap.size, 77, none⟩ = some (.slice A3 y.g.irqs.length e3) := f3 ▸ HA.out.cell (i := 77) (by decide)
      have y4 : X.cell? ⟨W.heap.size, 78, none⟩ = some (.slice A4 y.g.strs.length e4) := f4 ▸ HA.out.cell (i := 78) (by decide)
      have hsz : (strOf y.g.name).size = y.g.name.length := strOf_size _
      obtain ⟨S, hS⟩ : ∃ S, S = strOf y.g.name := ⟨_, rfl⟩
      rw [← hS] at y0 hsz
      obtain ⟨n0, q0⟩ : ∃ n, n = y.g.name.length := ⟨_, rfl⟩
      obtain ⟨n1, q1⟩ : ∃ n, n = y.g.wins.length := ⟨_, rfl⟩
      obtain ⟨n2, q2⟩ : ∃ n, n = y.g.devs.length := ⟨_, rfl⟩
      obtain ⟨n3, q3⟩ : ∃ n, n = y.g.irqs.length := ⟨_, rfl⟩
      obtain ⟨n4, q4⟩ : ∃ n, n = y.g.strs.length := ⟨_, rfl⟩
      have HE : Hid (gFew y.g = (decide (n1 ≤ 20) && (decide (n2 ≤ 20) && (decide (n3 ≤ 70) && (decide (n4 ≤ 40) && decide (n0 ≤ 100)))))) := Lib.hid (by rw [q0, q1, q2, q3, q4]; rfl)
      rw [← q0] at hsz
      rw [← q1] at y1
      rw [← q2] at y2
      rw [← q3] at y3
      rw [← q4] at y4
      clear q0 q1 q2 q3 q4 hS f1 f2 f3 f4
      by_cases t1 : 20 < n1
      · have HF : Hid (G = false) := Lib.hid (HNO.out (by rw [HE.out, decide_eq_false (by omega)]; rfl))
        have t1 : (20 : Int) < (n1 : Int) := by omega
        go_wp2_with fail
        go_ret
        exact ⟨by rw [HF.out]; rfl, HK.out.trans (HBX.out.mono HK.out.size)⟩
      by_cases t2 : 20 < n2
      · have HF : Hid (G = false) := Lib.hid (HNO.out (by rw [HE.out, decide_eq_false (p := n2 ≤ 20) (by omega)]; simp))
        have t1 : ¬ (20 : Int) < (n1 : Int) := by omega
        have t2 : (20 : Int) < (n2 : Int) := by omega
        go_wp2_with fail
        go_ret
        exact ⟨by rw [HF.out]; rfl, HK.out.trans (HBX.out.mono HK.out.size)⟩
      by_cases t3 : 70 < n3
      · have HF : Hid (G = false) := Lib.hid (HNO.out (by rw [HE.out, decide_eq_false (p := n3 ≤ 70) (by omega)]; simp))
        have t1 : ¬ (20 : Int) < (n1 : Int) := by omega
        have t2 : ¬ (20 : Int) < (n2 : Int) := by omega
        have t3 : (70 : Int) < (n3 : Int) := by omega
        go_wp2_with fail
        go_ret
        exact ⟨by rw [HF.out]; rfl, HK.out.trans (HBX.out.mono HK.out.size)⟩
      by_cases t4 : 40 < n4
      · have HF : Hid (G = false) := Lib.hid (HNO.out (by rw [HE.out, decide_eq_false (p := n4 ≤ 40) (by omega)]; simp))
        have t1 : ¬ (20 : Int) < (n1 : Int) := by omega
        have t2 : ¬ (20 : Int) < (n2 : Int) := by omega
        have t3 : ¬ (70 : Int) < (n3 : Int) := by omega
        have t4 : (40 : Int) < (n4 : Int) := by omega
        go_wp2_with fail
        go_ret
        exact ⟨by rw [HF.out]; rfl, HK.out.trans (HBX.out.mono HK.out.size)⟩
      by_cases t5 : 100 < n0
      · have HF : Hid (G = false) := Lib.hid (HNO.out (by rw [HE.out, decide_eq_false (p := n0 ≤ 100) (by omega)]; simp))
        have t1 : ¬ (20 : Int) < (n1 : Int) := by omega
        have t2 : ¬ (20 : Int) < (n2 : Int) := by omega
        have t3 : ¬ (70 : Int) < (n3 : Int) := by omega
        have t4 : ¬ (40 : Int) < (n4 : Int) := by omega
        have t5 : (100 : Int) < (n0 : Int) := by omega
        go_wp2_with fail
        go_ret
        exact ⟨by rw [HF.out]; rfl, HK.out.trans (HBX.out.mono HK.out.size)⟩
      have HS := Lib.hid (HYES.out (by rw [HE.out, decide_eq_true (by omega), decide_eq_true (p := n2 ≤ 20) (by omega), decide_eq_true (p := n3 ≤ 70) (by omega), decide_eq_true (p := n4 ≤ 40) (by omega), decide_eq_true (p := n0 ≤ 100) (by omega)]; rfl))
      have d1 : ¬ (20 : Int) < (n1 : Int) := by omega
      have d2 : ¬ (20 : Int) < (n2 : Int) := by omega
      have d3 : ¬ (70 : Int) < (n3 : Int) := by omega
      have d4 : ¬ (40 : Int) < (n4 : Int) := by omega
      have d5 : ¬ (100 : Int) < (n0 : Int) := by omega
      go_wp2_with fail
      go_roundw
      case rel => exact ⟨k + 1, by omega, by go_num, HS, HBX⟩
      case measure => simp [intOf]; omega
    · obtain rfl : k = N := by omega
      have HF : Hid (G = true) := Lib.hid (by rw [HGA.out]; have h := HP0.out; rw [HNL.out, List.take_length] at h; exact h)
      clear hlt0
      go_wp2_with fail
      go_ret
      exact ⟨by rw [HF.out]; rfl, HK.out.trans (HB.out.mono HK.out.size)⟩
end Go.Proofs.Ytgnihceefpijiaa
