/- Merged: Rpu. -/
import Derived.BigQuiet
import Derived.Test.YtkaipknkjocfiaaGreatZm10
namespace Go.Proofs.YtkaipknkjocfiaaGreat
open Go.RowKit
attribute [local go_sem ↓ high] zeroMp
theorem ins_at {l : List Mp} {x : Mp} {k : Nat} (hk : k ≤ l.length) (h1 : ∀ j (hj : j < l.length), j < k → l[j].ipa ≤ x.ipa) (h2 : ∀ (hj : k < l.length), ¬ l[k].ipa ≤ x.ipa) : insP l x = l.take k ++ x :: l.drop k := by
 unfold insP
 have hT : ∀ y ∈ l.take k, (fun y : Mp => decide (y.ipa ≤ x.ipa)) y = true := fun y hy => by
  obtain ⟨j, hj, rfl⟩ := List.mem_iff_getElem.1 hy
  rw [List.length_take] at hj
  rw [List.getElem_take]
  exact decide_eq_true (h1 j (by omega) (by omega))
 have hD : (l.drop k).takeWhile (fun y : Mp => decide (y.ipa ≤ x.ipa)) = [] ∧ (l.drop k).dropWhile (fun y : Mp => decide (y.ipa ≤ x.ipa)) = l.drop k := by
  by_cases hlt : k < l.length
  · rw [List.drop_eq_getElem_cons hlt, List.takeWhile_cons, List.dropWhile_cons]
    have : decide (l[k].ipa ≤ x.ipa) = false := decide_eq_false (h2 hlt)
    rw [this]
    exact ⟨rfl, rfl⟩
  · rw [List.drop_eq_nil_of_le (by omega)]; exact ⟨rfl, rfl⟩
 have e := List.take_append_drop k l
 have e1 : l.takeWhile (fun y : Mp => decide (y.ipa ≤ x.ipa)) = l.take k := by
  conv => lhs; rw [← e]
  rw [List.takeWhile_append_of_pos hT, hD.1, List.append_nil]
 have e2 : l.dropWhile (fun y : Mp => decide (y.ipa ≤ x.ipa)) = l.drop k := by
  conv => lhs; rw [← e]
  rw [List.dropWhile_append_of_pos hT, hD.2]
 rw [e1, e2]
theorem RowE.take {w : World} {B : Nat} {a : Addr} {l : List Mp} (h : RowE 5 mpE w B (some a) l) (k : Nat) : RowE 5 mpE w B (some a) (l.take k) := fun hne => by
 have hl : l ≠ [] := fun e => hne (by rw [e]; exact List.take_nil)
 obtain ⟨a', e, hb, hc⟩ := h hl
 refine ⟨a', e, hb, fun j hj i hi => ?_⟩
 rw [List.length_take] at hj
 rw [List.getElem_take]
 exact hc j (by omega) i hi
def cut5 (a : Addr) (c k : Nat) : Addr := if c = k then a else a.add (k * 5)
theorem RowE.drop {w : World} {B : Nat} {a : Addr} {l : List Mp} {c k : Nat} (h : RowE 5 mpE w B (some a) l) (hc : l.length ≤ c) : RowE 5 mpE w B (some (cut5 a c k)) (l.drop k) := fun hne => by
 have hkl : k < l.length := by
  by_cases hh : k < l.length
  · exact hh
  · exact absurd (List.drop_eq_nil_of_le (by omega)) hne
 obtain ⟨a', e, hb, hcc⟩ := h (fun e => by rw [e] at hkl; cases hkl)
 injection e with e
 subst e
 unfold cut5
 rw [if_neg (by omega)]
 refine ⟨_, rfl, by rw [addr_add_block]; exact hb, fun j hj i hi => ?_⟩
 rw [List.length_drop] at hj
 rw [addr_add_add, List.getElem_drop]
 have := hcc (k + j) (by omega) i hi
 rw [show k * 5 + (j * 5 + i) = (k + j) * 5 + i by omega]
 exact this
theorem mp_elem : Tryz.prog.underlying 48 = some (.slice (Tryz.prog.elem 48)) := by kernel_rfl
theorem mp_size (W : World) : (sizeOf (Tryz.prog.elem 48)).run Tryz.prog W = .ok 5 W := by kernel_rfl
set_option maxRecDepth 100000 in
theorem slice5_lo (a : Addr) (N c k : Nat) (hk : k ≤ N) (W : World) : (Instr.sliceAt 48 (.slice (some a) N c) (some (.int .i64 (k : Int))) none none).run Tryz.prog W = .ok (.slice (some (cut5 a c k)) (N - k) (c - k)) W := by
 rw [run_sliceAt_slice W _ _ _ _ _ mp_elem, run_slice_l W _ _ _ _ mp_elem .i64 (k : Int) (by omega) (by omega), mp_size]
 simp only [Result.andThen_ok, sliced, Int.toNat_natCast]
 unfold cut5
 by_cases h : c = k
 · rw [if_pos h, if_pos h]
 · rw [if_neg h, if_neg h]; rfl
set_option maxRecDepth 100000 in
theorem slice5_hm (a : Addr) (N c k : Nat) (hk : k ≤ N) (hc : N ≤ c) (W : World) : (Instr.sliceAt 48 (.slice (some a) N c) none (some (.int .i64 (k : Int))) (some (.int .i64 (k : Int)))).run Tryz.prog W = .ok (.slice (some a) k k) W := by
 rw [run_sliceAt_slice W _ _ _ _ _ mp_elem, run_slice_hm W _ _ _ _ mp_elem .i64 .i64 (k : Int) (k : Int) (by omega) (by omega) (by omega), mp_size]
 simp [Result.andThen_ok, sliced, Addr.add]
theorem exec_sl {P : Program} {w : World} {o : Oper} {a : Act} (t : TypeId) (x lo : Operand) (ho : o.op = .slice t x (some lo) none none) (vx vl : Value) (hx : a.eval x = vx) (hl : a.eval lo = vl) {v : Value} (hr : (Instr.sliceAt t vx (some vl) none none).run P w = .ok v w) :
  (execOp a.eval o).run P w = .ok (.value v) w := by
 unfold execOp
 simp only [ho, Option.map_none, Option.map_some, hx, hl, Sem.run_bind, hr, Result.andThen_ok, Sem.run_pure]
theorem exec_shm {P : Program} {w : World} {o : Oper} {a : Act} (t : TypeId) (x hi mx : Operand) (ho : o.op = .slice t x none (some hi) (some mx)) (vx vh vm : Value) (hx : a.eval x = vx) (hh : a.eval hi = vh) (hm : a.eval mx = vm) {v : Value} (hr : (Instr.sliceAt t vx none (some vh) (some vm)).run P w = .ok v w) :
  (execOp a.eval o).run P w = .ok (.value v) w := by
 unfold execOp
 simp only [ho, Option.map_none, Option.map_some, hx, hh, hm, Sem.run_bind, hr, Result.andThen_ok, Sem.run_pure]
theorem put_worlds {l : List Mp} {a : Addr} {c k : Nat} (x : Mp) (X : World) (hr : RowE 5 mpE X X.heap.size (some a) l) (hc : l.length ≤ c) (hl : l.length ≤ 1000) (hk : k ≤ l.length) (ty ty2 : TypeId) : ∃ a2 c2 w2 v3 w3,
  (Builtin.append_ #[48, 48] ty #[.slice (some ⟨X.heap.size, 0, none⟩) 1 1, .slice (some (cut5 a c k)) (l.length - k) (c - k)]).run Tryz.prog (X.alloc (.cells (vec 5 (mpE x)) 87)) = .ok (.slice (some a2) (1 + (l.length - k)) c2) w2 ∧
  (Builtin.append_ #[48, 48] ty2 #[.slice (some a) k k, .slice (some a2) (1 + (l.length - k)) c2]).run Tryz.prog w2 = .ok v3 w3 ∧
  Below X.heap.size X (X.alloc (.cells (vec 5 (mpE x)) 87)) ∧ Below X.heap.size X w2 ∧ Below X.heap.size X w3 ∧ OwnM w3 X.heap.size v3 (l.take k ++ x :: l.drop k) := by
 have b1 : Below X.heap.size X (X.alloc (.cells (vec 5 (mpE x)) 87)) := (Below.refl _ _).alloc (Nat.le_refl _) _
 have hd := (hr.below b1).drop (c := c) (k := k) hc
 obtain ⟨v2, w2, hrun2, ho2, hb2⟩ := app_maps (own_map x X) b1.size (by simp) (by rw [List.length_drop]; omega) hd (c := c - k) ty
 rw [List.length_drop] at hrun2
 obtain ⟨A2, c2, e2, -, hr2, -⟩ := ho2.form
 obtain ⟨a2, ea2, -, -⟩ := hr2 (by simp)
 subst ea2
 have el : ([x] ++ l.drop k).length = 1 + (l.length - k) := by rw [List.length_append, List.length_drop]; rfl
 rw [el] at e2
 subst e2
 have b2 : Below X.heap.size X w2 := b1.trans hb2
 obtain ⟨v3, w3, hrun3, ho3, hb3⟩ := app_full (l := l.take k) (k := [x] ++ l.drop k) (b := a) (a := a2) (c := c2) (by rw [List.length_take]; omega) (by rw [el]; omega) (by simp) ((hr.below b2).take k) hr2 ty2
 rw [List.length_take, Nat.min_eq_left hk, el] at hrun3
 exact ⟨a2, c2, w2, v3, w3, hrun2, hrun3, b1, b2, b2.trans (hb3.mono b2.size), by have := ho3.low b2.size; exact this⟩
def PutM (l : List Mp) (w : World) (e : Ending) (w' : World) : Prop := ∃ v, e = .returned v ∧ OwnM w' w.heap.size v l ∧ Below w.heap.size w w'
set_option maxHeartbeats 2000000 in
set_option maxRecDepth 100000 in
theorem rputM_some (l : List Mp) (a : Addr) (c : Nat) (x : Mp) (hc : l.length ≤ c) (hlen : l.length ≤ 1000) (w : World) (hr : RowE 5 mpE w w.heap.size (some a) l) : Calls Tryz.prog 32 #[.slice (some a) l.length c, .agg (vec 5 (mpE x))] w (PutM (insP l x) w) := by
 obtain ⟨g0, hg0⟩ : ∃ g, g = w.heap.size := ⟨_, rfl⟩
 obtain ⟨V, hV⟩ : ∃ V, V = w.alloc (.cells (vec 5 (mpE x)) 87) := ⟨_, rfl⟩
 have k0 : Arr V g0 87 5 (mpE x) := by rw [hV, hg0]; exact Arr.new w _ _ _
 have hB : Below w.heap.size w V := by rw [hV]; exact (Below.refl _ _).alloc (Nat.le_refl _) _
 obtain ⟨N, hN⟩ : ∃ n, n = l.length := ⟨_, rfl⟩
 have HNL := Lib.hid hN
 have HR := Lib.hid (hr.up hB)
 have HK := Lib.hid (And.intro k0 hB)
 have HW := Lib.hid hV
 have HG := Lib.hid hg0
 have HNB : Hid (N ≤ 1000 ∧ N ≤ c) := Lib.hid (by omega)
 have hN1 : N ≤ 1000 := by omega
 have hNc : N ≤ c := by omega
 have HINS : Hid (∀ k, k ≤ N → (∀ j (hj : j < l.length), j < k → l[j].ipa ≤ x.ipa) → (∀ (hj : k < l.length), ¬ l[k].ipa ≤ x.ipa) → insP l x = l.take k ++ x :: l.drop k) := Lib.hid (fun k hk h1 h2 => ins_at (by omega) h1 h2)
 have HEND : Hid (∀ v W k, insP l x = l.take k ++ x :: l.drop k → OwnM W V.heap.size v (l.take k ++ x :: l.drop k) → Below V.heap.size V W → PutM (insP l x) w (.returned v) W) := Lib.hid (fun v W k h1 h2 h3 => ⟨v, rfl, by rw [h1]; exact h2.low hB.size, hB.trans (h3.mono hB.size)⟩)
 rw [← hN]
 obtain ⟨Q, hQ⟩ : ∃ Q, Q = PutM (insP l x) w := ⟨_, rfl⟩
 rw [← hQ] at HEND ⊢
 clear hV k0 hB hr hg0 hN hQ hc hlen
 go_enter Tryz.func32, Tryz.ntmps32
 go_upto_region 1 with fail
 rw [← HW.out, ← HG.out]
 clear HW
 go_wp2_with fail
 go_loopw [5] (fun v W => ∃ k : Nat, k ≤ N ∧ v = .int .i64 k ∧ Hid (∀ j (hj : j < l.length), j < k → l[j].ipa ≤ x.ipa) ∧ Hid (Below V.heap.size V W)) (fun i _ => N - (intOf i).toNat)
 case atStart => exact ⟨0, Nat.zero_le _, rfl, Lib.hid (fun j _ hj => absurd hj (Nat.not_lt_zero _)), Lib.hid (Below.refl _ _)⟩
 case round =>
  obtain ⟨k, hk, rfl, HP0, HB⟩ := hrel
  obtain ⟨W, hW⟩ : ∃ W : World, W = wr := ⟨_, rfl⟩
  subst hW
  have c0 : W.cell? ⟨g0, 0, none⟩ = some (.int .u64 x.ipa) := (HK.out.1.under HB.out).cell (i := 0) (by decide)
  by_cases hlt0 : k < N
  · have hlt : k < l.length := by have := HNL.out; omega
    obtain ⟨a', q, ea, hq, -, hcp⟩ := (HR.out.up HB.out).at hlt
    injection ea with ea
    subst ea
    obtain ⟨y, hy⟩ : ∃ y, y = l[k] := ⟨_, rfl⟩
    rw [← hy] at hcp
    have cy : W.cell? q = some (.int .u64 y.ipa) := by
      have h := hcp 0 (by decide)
      have e0 : q.add 0 = q := by simp [Addr.add]
      rw [e0] at h; exact h
    have HNEXT : Hid (y.ipa ≤ x.ipa → ∀ j (hj : j < l.length), j < k + 1 → l[j].ipa ≤ x.ipa) := Lib.hid (fun h j hj hjk => by
      by_cases e : j = k
      · subst e; rw [← hy]; exact h
      · exact HP0.out j hj (by omega))
    have HSTOP : Hid (¬ y.ipa ≤ x.ipa → insP l x = l.take k ++ x :: l.drop k) := Lib.hid (fun h => HINS.out k hk HP0.out (fun hj => by rw [← hy]; omega))
    have hki : (k : Int) < (N : Int) := by omega
    clear hcp hlt hy
    by_cases hle : y.ipa ≤ x.ipa
    · have HS := Lib.hid (HNEXT.out hle)
      clear HNEXT HSTOP
      go_upto_region 2 with fail
      go_quiet (fail)
      go_wp2_with fail
      go_roundw
      case rel => exact ⟨k + 1, by omega, by go_num, HS, Lib.hid (below_drewN HB.out _)⟩
      case measure => simp [intOf]; omega
    · have HI := Lib.hid (HSTOP.out hle)
      clear HNEXT HSTOP
      go_upto_region 2 with fail
      go_quiet (fail)
      go_upto_region 4 with fail
      clear hle hki cy c0 hq
      obtain ⟨X, hX⟩ : ∃ X : World, X = W.drewN nq := ⟨_, rfl⟩
      have hVX : Below V.heap.size V X := by rw [hX]; exact below_drewN HB.out _
      rw [← hX]
      have hkl : k ≤ l.length := by have := HNL.out; omega
      obtain ⟨a2, c2, w2, v3, w3, hr2, hr3, b1, b2, b3, ho3⟩ := put_worlds (c := c) (k := k) x X.drew ((HR.out.up (hVX.trans ((show Below X.heap.size X X.drew from VS.begin X).mono hVX.size)))) (by have := HNL.out; have := HNB.out.2; omega) (by have := HNL.out; have := HNB.out.1; omega) hkl 48 48
      rw [← HNL.out] at hr2 hr3
      have hbs := build_map x X.drew
      have HX := Lib.hid (And.intro hVX (HK.out.1.under hVX))
      have HRUN := Lib.hid (And.intro hbs (And.intro hr2 hr3))
      have HBB := Lib.hid (And.intro b1 (And.intro b2 b3))
      have HO3 := Lib.hid ho3
      have HS8 := Lib.hid (fun W => slice5_lo a N c k hk W)
      have HS3 := Lib.hid (fun W => slice5_hm a N c k hk hNc W)
      clear hX hVX hkl hr2 hr3 hbs b1 b2 b3 ho3
      refine wp_region_held_drew (S := fun Y => Arr Y g0 87 5 (mpE x)) (by kernel_rfl) (HX.out.2.drewN 1) (fun hS => ?_)
      refine tA 0 (h := ?_)
      refine tA 1 (h := ?_)
      refine tA 2 (h := ?_)
      refine tP 3 (v := .slice (some a) k k) (hy := by (intro W hW; exact exec_shm 48 _ _ _ rfl (.slice (some a) N c) (.int .i64 (k : Int)) (.int .i64 (k : Int)) rfl rfl rfl (HS3.out W))) (h := ?_)
      refine tP 4 (v := .agg (vec 5 (mpE x))) (hy := by (intro W hW; exact exec_load_at 87 _ rfl _ _ rfl _ (run_load_arr hW Tryz.underlying87 rfl infoMp))) (h := ?_)
      refine tA 6 (h := ?_)
      refine tA 7 (h := ?_)
      refine tP 8 (v := .slice (some (cut5 a c k)) (N - k) (c - k)) (hy := by (intro W hW; exact exec_sl 48 _ _ rfl (.slice (some a) N c) (.int .i64 (k : Int)) rfl rfl (HS8.out W))) (h := ?_)
      refine oQ 5 (h := fun K5 hK5 => ?_)
      refine ow_bsM _ _ rfl (.agg (vec 5 (mpE x))) rfl HRUN.out.1 ?_
      refine hK5 _ _ ((HX.out.2.drewN 1).under HBB.out.1) (fun hS5 => ?_)
      clear hS hK5 K5
      refine oQ 9 (h := fun K9 hK9 => ?_)
      refine ow_app _ _ 48 rfl _ _ rfl rfl HRUN.out.2.1 ?_
      refine hK9 _ _ ((HX.out.2.drewN 1).under HBB.out.2.1) (fun hS9 => ?_)
      clear hS5 hK9 K9
      refine oQ 10 (h := fun K10 hK10 => ?_)
      refine ow_app _ _ 48 rfl _ _ rfl rfl HRUN.out.2.2 ?_
      refine hK10 _ _ ((HX.out.2.drewN 1).under HBB.out.2.2) (fun hS10 => ?_)
      clear hS9 hK10 K10
      refine tA 11 (h := ?_)
      refine wpAnyH_done (by kernel_rfl) ?_ _
      go_wp2
      exact HEND.out _ _ k HI.out (HO3.out.low HX.out.1.size) (HX.out.1.trans (((show Below X.heap.size X X.drew from VS.begin X).trans HBB.out.2.2).mono HX.out.1.size))
  · have HI := Lib.hid (HINS.out k hk HP0.out (fun hj => by have := HNL.out; omega))
    have hki : ¬ (k : Int) < (N : Int) := by omega
    go_upto_region 2 with fail
    go_quiet (fail)
    go_upto_region 4 with fail
    clear hki c0
    obtain ⟨X, hX⟩ : ∃ X : World, X = W.drewN nq := ⟨_, rfl⟩
    have hVX : Below V.heap.size V X := by rw [hX]; exact below_drewN HB.out _
    rw [← hX]
    have hkl : k ≤ l.length := by have := HNL.out; omega
    obtain ⟨a2, c2, w2, v3, w3, hr2, hr3, b1, b2, b3, ho3⟩ := put_worlds (c := c) (k := k) x X.drew ((HR.out.up (hVX.trans ((show Below X.heap.size X X.drew from VS.begin X).mono hVX.size)))) (by have := HNL.out; have := HNB.out.2; omega) (by have := HNL.out; have := HNB.out.1; omega) hkl 48 48
    rw [← HNL.out] at hr2 hr3
    have hbs := build_map x X.drew
    have HX := Lib.hid (And.intro hVX (HK.out.1.under hVX))
    have HRUN := Lib.hid (And.intro hbs (And.intro hr2 hr3))
    have HBB := Lib.hid (And.intro b1 (And.intro b2 b3))
    have HO3 := Lib.hid ho3
    have HS8 := Lib.hid (fun W => slice5_lo a N c k hk W)
    have HS3 := Lib.hid (fun W => slice5_hm a N c k hk hNc W)
    clear hX hVX hkl hr2 hr3 hbs b1 b2 b3 ho3
    refine wp_region_held_drew (S := fun Y => Arr Y g0 87 5 (mpE x)) (by kernel_rfl) (HX.out.2.drewN 1) (fun hS => ?_)
    refine tA 0 (h := ?_)
    refine tA 1 (h := ?_)
    refine tA 2 (h := ?_)
    refine tP 3 (v := .slice (some a) k k) (hy := by (intro W hW; exact exec_shm 48 _ _ _ rfl (.slice (some a) N c) (.int .i64 (k : Int)) (.int .i64 (k : Int)) rfl rfl rfl (HS3.out W))) (h := ?_)
    refine tP 4 (v := .agg (vec 5 (mpE x))) (hy := by (intro W hW; exact exec_load_at 87 _ rfl _ _ rfl _ (run_load_arr hW Tryz.underlying87 rfl infoMp))) (h := ?_)
    refine tA 6 (h := ?_)
    refine tA 7 (h := ?_)
    refine tP 8 (v := .slice (some (cut5 a c k)) (N - k) (c - k)) (hy := by (intro W hW; exact exec_sl 48 _ _ rfl (.slice (some a) N c) (.int .i64 (k : Int)) rfl rfl (HS8.out W))) (h := ?_)
    refine oQ 5 (h := fun K5 hK5 => ?_)
    refine ow_bsM _ _ rfl (.agg (vec 5 (mpE x))) rfl HRUN.out.1 ?_
    refine hK5 _ _ ((HX.out.2.drewN 1).under HBB.out.1) (fun hS5 => ?_)
    clear hS hK5 K5
    refine oQ 9 (h := fun K9 hK9 => ?_)
    refine ow_app _ _ 48 rfl _ _ rfl rfl HRUN.out.2.1 ?_
    refine hK9 _ _ ((HX.out.2.drewN 1).under HBB.out.2.1) (fun hS9 => ?_)
    clear hS5 hK9 K9
    refine oQ 10 (h := fun K10 hK10 => ?_)
    refine ow_app _ _ 48 rfl _ _ rfl rfl HRUN.out.2.2 ?_
    refine hK10 _ _ ((HX.out.2.drewN 1).under HBB.out.2.2) (fun hS10 => ?_)
    clear hS9 hK10 K10
    refine tA 11 (h := ?_)
    refine wpAnyH_done (by kernel_rfl) ?_ _
    go_wp2
    exact HEND.out _ _ k HI.out (HO3.out.low HX.out.1.size) (HX.out.1.trans (((show Below X.heap.size X X.drew from VS.begin X).trans HBB.out.2.2).mono HX.out.1.size))
theorem slice0_lo (W : World) : (Instr.sliceAt 48 (.slice none 0 0) (some (.int .i64 0)) none none).run Tryz.prog W = .ok (.slice none 0 0) W := by
 rw [run_sliceAt_slice W _ _ _ _ _ mp_elem, run_slice_l W _ _ _ _ mp_elem .i64 (0 : Int) (by omega) (by omega), mp_size]
 simp [Result.andThen_ok, sliced]
theorem slice0_hm (W : World) : (Instr.sliceAt 48 (.slice none 0 0) none (some (.int .i64 0)) (some (.int .i64 0))).run Tryz.prog W = .ok (.slice none 0 0) W := by
 rw [run_sliceAt_slice W _ _ _ _ _ mp_elem, run_slice_hm W _ _ _ _ mp_elem .i64 .i64 (0 : Int) (0 : Int) (by omega) (by omega) (by omega), mp_size]
 simp [Result.andThen_ok, sliced]
theorem put_worlds0 (x : Mp) (X : World) (ty ty2 : TypeId) : ∃ v3 w3,
  (Builtin.append_ #[48, 48] ty #[.slice (some ⟨X.heap.size, 0, none⟩) 1 1, .slice none 0 0]).run Tryz.prog (X.alloc (.cells (vec 5 (mpE x)) 87)) = .ok (.slice (some ⟨X.heap.size, 0, none⟩) 1 1) (X.alloc (.cells (vec 5 (mpE x)) 87)) ∧
  (Builtin.append_ #[48, 48] ty2 #[.slice none 0 0, .slice (some ⟨X.heap.size, 0, none⟩) 1 1]).run Tryz.prog (X.alloc (.cells (vec 5 (mpE x)) 87)) = .ok v3 w3 ∧
  Below X.heap.size X (X.alloc (.cells (vec 5 (mpE x)) 87)) ∧ Below X.heap.size X w3 ∧ OwnM w3 X.heap.size v3 [x] := by
 have b1 : Below X.heap.size X (X.alloc (.cells (vec 5 (mpE x)) 87)) := (Below.refl _ _).alloc (Nat.le_refl _) _
 obtain ⟨i0, hi, -, -, -⟩ := info_parts info_map
 obtain ⟨A2, c2, e2, -, hr2, -⟩ := (own_map x X).form
 obtain ⟨a2, ea2, -, -⟩ := hr2 (by simp)
 subst ea2
 obtain ⟨v3, w3, h3, ho3, hb3⟩ := app_maps (l := []) (OwnE.nil (X.alloc (.cells (vec 5 (mpE x)) 87)) X.heap.size) b1.size (by simp) (by simp) hr2 (c := c2) ty2
 injection e2 with e2 e3 e4
 rw [← e2, show ([x] : List Mp).length = 1 from rfl, ← e4] at h3
 refine ⟨v3, w3, ?_, h3, b1, b1.trans hb3, ho3⟩
 simp [Builtin.append_, Builtin.lenOf, Builtin.firstCells, run_underlying Tryz.underlying48, sizeOf, typeInfo, hi, storeCells]
set_option maxHeartbeats 2000000 in
set_option maxRecDepth 100000 in
theorem rputM_none (x : Mp) (w : World) : Calls Tryz.prog 32 #[.slice none 0 0, .agg (vec 5 (mpE x))] w (PutM [x] w) := by
 obtain ⟨g0, hg0⟩ : ∃ g, g = w.heap.size := ⟨_, rfl⟩
 obtain ⟨V, hV⟩ : ∃ V, V = w.alloc (.cells (vec 5 (mpE x)) 87) := ⟨_, rfl⟩
 have k0 : Arr V g0 87 5 (mpE x) := by rw [hV, hg0]; exact Arr.new w _ _ _
 have hB : Below w.heap.size w V := by rw [hV]; exact (Below.refl _ _).alloc (Nat.le_refl _) _
 have HK := Lib.hid (And.intro k0 hB)
 have HW := Lib.hid hV
 have HG := Lib.hid hg0
 have HEND : Hid (∀ v W, OwnM W V.heap.size v [x] → Below V.heap.size V W → PutM [x] w (.returned v) W) := Lib.hid (fun v W h2 h3 => ⟨v, rfl, h2.low hB.size, hB.trans (h3.mono hB.size)⟩)
 obtain ⟨Q, hQ⟩ : ∃ Q, Q = PutM [x] w := ⟨_, rfl⟩
 rw [← hQ] at HEND ⊢
 clear hV k0 hB hg0 hQ
 go_enter Tryz.func32, Tryz.ntmps32
 go_upto_region 1 with fail
 rw [← HW.out, ← HG.out]
 clear HW
 go_wp2_with fail
 go_loopw [5] (fun v W => v = .int .i64 0 ∧ Hid (Below V.heap.size V W)) (fun _ _ => 0)
 case atStart => exact ⟨rfl, Lib.hid (Below.refl _ _)⟩
 case round =>
  obtain ⟨rfl, HB⟩ := hrel
  obtain ⟨W, hW⟩ : ∃ W : World, W = wr := ⟨_, rfl⟩
  subst hW
  go_upto_region 2 with fail
  go_quiet (fail)
  go_upto_region 4 with fail
  obtain ⟨X, hX⟩ : ∃ X : World, X = W.drewN nq := ⟨_, rfl⟩
  have hVX : Below V.heap.size V X := by rw [hX]; exact below_drewN HB.out _
  rw [← hX]
  obtain ⟨v3, w3, hr2, hr3, b1, b3, ho3⟩ := put_worlds0 x X.drew 48 48
  have hbs := build_map x X.drew
  have HX := Lib.hid (And.intro hVX (HK.out.1.under hVX))
  have HRUN := Lib.hid (And.intro hbs (And.intro hr2 hr3))
  have HBB := Lib.hid (And.intro b1 b3)
  have HO3 := Lib.hid ho3
  clear hX hVX hr2 hr3 hbs b1 b3 ho3
  refine wp_region_held_drew (S := fun Y => Arr Y g0 87 5 (mpE x)) (by kernel_rfl) (HX.out.2.drewN 1) (fun hS => ?_)
  refine tA 0 (h := ?_)
  refine tA 1 (h := ?_)
  refine tA 2 (h := ?_)
  refine tP 3 (v := .slice none 0 0) (hy := by (intro W hW; exact exec_shm 48 _ _ _ rfl (.slice none 0 0) (.int .i64 0) (.int .i64 0) rfl rfl rfl (slice0_hm W))) (h := ?_)
  refine tP 4 (v := .agg (vec 5 (mpE x))) (hy := by (intro W hW; exact exec_load_at 87 _ rfl _ _ rfl _ (run_load_arr hW Tryz.underlying87 rfl infoMp))) (h := ?_)
  refine tA 6 (h := ?_)
  refine tA 7 (h := ?_)
  refine tP 8 (v := .slice none 0 0) (hy := by (intro W hW; exact exec_sl 48 _ _ rfl (.slice none 0 0) (.int .i64 0) rfl rfl (slice0_lo W))) (h := ?_)
  refine oQ 5 (h := fun K5 hK5 => ?_)
  refine ow_bsM _ _ rfl (.agg (vec 5 (mpE x))) rfl HRUN.out.1 ?_
  refine hK5 _ _ ((HX.out.2.drewN 1).under HBB.out.1) (fun hS5 => ?_)
  clear hS hK5 K5
  refine oQ 9 (h := fun K9 hK9 => ?_)
  refine ow_app _ _ 48 rfl _ _ rfl rfl HRUN.out.2.1 ?_
  refine hK9 _ _ ((HX.out.2.drewN 1).under HBB.out.1) (fun hS9 => ?_)
  clear hS5 hK9 K9
  refine oQ 10 (h := fun K10 hK10 => ?_)
  refine ow_app _ _ 48 rfl _ _ rfl rfl HRUN.out.2.2 ?_
  refine hK10 _ _ ((HX.out.2.drewN 1).under HBB.out.2) (fun hS10 => ?_)
  clear hS9 hK10 K10
  refine tA 11 (h := ?_)
  refine wpAnyH_done (by kernel_rfl) ?_ _
  go_wp2
  exact HEND.out _ _ (HO3.out.low HX.out.1.size) (HX.out.1.trans (((show Below X.heap.size X X.drew from VS.begin X).trans HBB.out.2).mono HX.out.1.size))
theorem rput16_any {w : World} {base : Nat} {v : Value} {l : List Mp} (x : Mp) (hown : OwnM w base v l) (hl : l.length ≤ 1000) : Calls Tryz.prog 32 #[v, .agg (vec 5 (mpE x))] w (PutM (insP l x) w) := by
 obtain ⟨A, c, e, hc, hr, hq⟩ := hown.form
 rcases A with _ | a
 · rcases hown.2 with ⟨e2, h2⟩ | ⟨g, cap, cur, e2, _⟩
   · have hn : l = [] := by
      by_cases h : l = []
      · exact h
      · obtain ⟨a', ea, -, -⟩ := hr h
        cases ea
     subst hn
     rw [e2]
     exact rputM_none x w
   · rw [e] at e2; cases e2
 · subst e
   refine rputM_some l a c x hc hl w (fun hne => ?_)
   obtain ⟨a', ea, hb, hcc⟩ := hr hne
   refine ⟨a', ea, ?_, hcc⟩
   trivial
end Go.Proofs.YtkaipknkjocfiaaGreat
