/- Merged: Rc, Ps, Aw. -/
import Derived.Recover
import Derived.Laws.Pointers
import Derived.Laws.OwnMore
import Derived.Test.YtmcpmcicolpoeaaDoorCg
/- What a parse that is given up answers: the deferred function. -/
namespace Go.Proofs.YtmcpmcicolpoeaaDoor
open Go.RowKit
attribute [local go_sem ↓ high] zeroCf

theorem Blk.farCell {w : World} {g : Nat} {t : TypeId} {cs : Array Value} (h : Blk w g t cs) {p : Addr} (hp : g ≠ p.block) (u : Value) : Blk (w.setCell p u) g t cs := (Below.heap_setCell w p u g hp).trans h
set_option maxRecDepth 100000 in
theorem catch_idle (q0 q1 q2 : Value) (w : World) : CallsD Tryd.prog 17 #[q0, q1, q2] .returning w fun e u' w' => e = .returned (.tuple #[]) ∧ u' = .returning ∧ w' = w := by
  refine callsD_of_wpS Tryd.func17 rfl fun c₀ cs hu => ?_
  apply wpS_seq
  apply wpS_region
  simp [wpOpsS, go_sem, recoverD, hu, Tryd.ntmps17, Exit.thenS]
  refine wpS_of_wp ?_
  rw [show (#[q0, q1, q2] ++ ((Array.replicate 12 undef).setIfInBounds 2 Value.nilIface).setIfInBounds 0 Value.nilIface) = #[q0, q1, q2, Value.nilIface, undef, Value.nilIface, undef, undef, undef, undef, undef, undef, undef, undef, undef] from rfl]
  go_wp2
  cases c₀
  simp_all [bodyPostS, results, Tryd.results17]
theorem assert_any (v : Value) (T : TypeId) (w : World) : (Instr.typeAssert (.iface 45 v) T 45 false).run Tryd.prog w = .ok v w := by
  simp [Instr.typeAssert, run_underlying Tryd.underlying45]
set_option maxRecDepth 100000 in
set_option maxHeartbeats 2000000 in
theorem catch_pan (g0 g1 g2 m : Nat) (pl er : Nat) (z1 z2 : Int) (f0 : Nat → Value) (older : List PanicEntry) (w : World) (h0 : Arr w g0 28 3 f0) (h1 : Blk w g1 3 #[.int .i64 z1]) (h2 : Blk w g2 29 #[.int .i64 z2]) (d1 : g1 ≠ g0) (d2 : g2 ≠ g0) (d3 : g1 ≠ g2) (m0 : m ≤ g0) (m1 : m ≤ g1) (m2 : m ≤ g2) :
    CallsD Tryd.prog 17 #[.pointer (some ⟨g0, 0, none⟩), .pointer (some ⟨g1, 0, none⟩), .pointer (some ⟨g2, 0, none⟩)] (.panicking ({ v := faultV pl er, recovered := false } :: older)) w fun e u' w' =>
      e = .returned (.tuple #[]) ∧ u' = .panicking ({ v := faultV pl er, recovered := true } :: older) ∧ Arr w' g0 28 3 (cfE 0 nilV nilV) ∧ Blk w' g1 3 #[.int .i64 (pl : Int)] ∧ Blk w' g2 29 #[.int .i64 (er : Int)] ∧ Below m w w' := by
  unfold faultV
  refine callsD_of_wpS Tryd.func17 rfl fun c₀ cs hu => ?_
  apply wpS_seq
  apply wpS_region
  simp [wpOpsS, go_sem, recoverD, hu, Tryd.ntmps17, Exit.thenS]
  refine wpS_of_wp ?_
  rw [show (#[Value.pointer (some ⟨g0, 0, none⟩), Value.pointer (some ⟨g1, 0, none⟩), Value.pointer (some ⟨g2, 0, none⟩)] ++ ((Array.replicate 12 undef).setIfInBounds 2 (Value.iface 45 (Value.agg #[Value.int IntKind.i64 ↑pl, Value.int IntKind.i64 ↑er]))).setIfInBounds 0 (Value.iface 45 (Value.agg #[Value.int IntKind.i64 ↑pl, Value.int IntKind.i64 ↑er])))
    = #[Value.pointer (some ⟨g0, 0, none⟩), Value.pointer (some ⟨g1, 0, none⟩), Value.pointer (some ⟨g2, 0, none⟩), Value.iface 45 (Value.agg #[Value.int IntKind.i64 ↑pl, Value.int IntKind.i64 ↑er]), undef, Value.iface 45 (Value.agg #[Value.int IntKind.i64 ↑pl, Value.int IntKind.i64 ↑er]), undef, undef, undef, undef, undef, undef, undef, undef, undef] from rfl]
  obtain ⟨W3, hW3⟩ : ∃ W3, W3 = w.alloc (.cells #[Value.int IntKind.i64 (pl : Int), Value.int IntKind.i64 (er : Int)] 45) := ⟨_, rfl⟩
  have hB : Below w.heap.size w W3 := by rw [hW3]; exact (Below.refl _ _).alloc (Nat.le_refl _) _
  obtain ⟨g3, hg3⟩ : ∃ g, g = w.heap.size := ⟨_, rfl⟩
  have h3 : Blk W3 g3 45 #[Value.int IntKind.i64 (pl : Int), Value.int IntKind.i64 (er : Int)] := by rw [hW3]; exact Blk.new _ _ _ hg3
  have l0 := h0.lt
  have l1 := h1.lt
  have l2 := h2.lt
  have HA := Lib.hid (And.intro (h0.under hB) (And.intro (h1.under hB) (And.intro (h2.under hB) (And.intro h3 (hB.mono (Nat.le_trans m0 (Nat.le_of_lt l0)))))))
  have HN := Lib.hid (And.intro d1 (And.intro d2 (And.intro d3 (And.intro (show g3 ≠ g0 by omega) (And.intro (show g3 ≠ g1 by omega) (And.intro (show g3 ≠ g2 by omega) (And.intro m0 (And.intro m1 m2))))))))
  have HW := Lib.hid hW3
  have HG := Lib.hid hg3
  clear hB h3 l0 l1 l2 h0 h1 h2 hW3 hg3 d1 d2 d3 m0 m1 m2
  have hta := assert_any
  go_upto_region 3 with fail
  clear hta
  rw [← HW.out, ← HG.out]
  clear HW HG
  refine wp_region_held_drew (S := fun Y => Y.cell? ⟨g3, 0, none⟩ = some (.int .i64 (pl : Int)) ∧ Y.cell? ⟨g3, 1, none⟩ = some (.int .i64 (er : Int))) (by kernel_rfl) ⟨HA.out.2.2.2.1.cellAt 0 rfl, HA.out.2.2.2.1.cellAt 1 rfl⟩ (fun hS => ?_)
  (refine held_take (i := 0) (oi := ?ot1) (v := .agg (vec 3 (cfE 0 nilV nilV))) ?at1 (by kernel_rfl) (by kernel_rfl) (by kernel_rfl) ?bt1 ?ct1 ?dt1 (by assumption) ?rt1; (case at1 => (simp only [List.getElem?_toArray, List.getElem?_cons_zero]; rfl)); (case bt1 => exact fun _ _ _ h => h); (case ct1 => kernel_rfl); (case dt1 => (intro W _; exact exec_build 28 _ rfl (vec 3 (cfE 0 nilV nilV)) (by kernel_rfl) W)); (case' rt1 => simp only [Act.put, List.setIfInBounds_toArray, List.set_cons_zero, List.set_cons_succ]))
  (refine held_take (i := 1) (oi := ?ot2) (v := ?vt2) ?at2 (by kernel_rfl) (by kernel_rfl) (by kernel_rfl) ?bt2 ?ct2 ?dt2 (by assumption) ?rt2; (case at2 => (simp only [List.getElem?_toArray, List.getElem?_cons_zero, List.getElem?_cons_succ]; rfl)); (case bt2 => exact fun _ _ _ h => h); (case ct2 => kernel_rfl); (case dt2 => (intro W hW; (try dsimp only at hW); go_split_ands; go_simp; (try with_reducible rfl))); (case' rt2 => simp only [Act.put, List.setIfInBounds_toArray, List.set_cons_zero, List.set_cons_succ]))
  (refine held_take (i := 2) (oi := ?ot3) (v := .int .i64 (pl : Int)) ?at3 (by kernel_rfl) (by kernel_rfl) (by kernel_rfl) ?bt3 ?ct3 ?dt3 (by assumption) ?rt3; (case at3 => (simp only [List.getElem?_toArray, List.getElem?_cons_zero, List.getElem?_cons_succ]; rfl)); (case bt3 => exact fun _ _ _ h => h); (case ct3 => kernel_rfl); (case dt3 => (intro W hW; obtain ⟨k0, k1⟩ := hW; go_simp; (try with_reducible rfl))); (case' rt3 => simp only [Act.put, List.setIfInBounds_toArray, List.set_cons_zero, List.set_cons_succ]))
  (refine held_take (i := 3) (oi := ?ot4) (v := ?vt4) ?at4 (by kernel_rfl) (by kernel_rfl) (by kernel_rfl) ?bt4 ?ct4 ?dt4 (by assumption) ?rt4; (case at4 => (simp only [List.getElem?_toArray, List.getElem?_cons_zero, List.getElem?_cons_succ]; rfl)); (case bt4 => exact fun _ _ _ h => h); (case ct4 => kernel_rfl); (case dt4 => (intro W hW; (try dsimp only at hW); go_split_ands; go_simp; (try with_reducible rfl))); (case' rt4 => simp only [Act.put, List.setIfInBounds_toArray, List.set_cons_zero, List.set_cons_succ]))
  (refine held_take (i := 4) (oi := ?ot5) (v := .int .i64 (er : Int)) ?at5 (by kernel_rfl) (by kernel_rfl) (by kernel_rfl) ?bt5 ?ct5 ?dt5 (by assumption) ?rt5; (case at5 => (simp only [List.getElem?_toArray, List.getElem?_cons_zero, List.getElem?_cons_succ]; rfl)); (case bt5 => exact fun _ _ _ h => h); (case ct5 => kernel_rfl); (case dt5 => (intro W hW; obtain ⟨k0, k1⟩ := hW; go_simp; (try with_reducible rfl))); (case' rt5 => simp only [Act.put, List.setIfInBounds_toArray, List.set_cons_zero, List.set_cons_succ]))
  refine held_one (i := 5) (oi := ?ot6) (by kernel_rfl) ?at6 ?ct6 (fun K5 hK5 => ?_)
  (case at6 => (simp only [List.getElem?_toArray, List.getElem?_cons_zero, List.getElem?_cons_succ]; rfl))
  (case ct6 => kernel_rfl)
  obtain ⟨k0, k1⟩ := hS
  refine ow_store 28 _ _ rfl _ rfl _ rfl (run_store_arr (show Arr W3.drew g0 28 3 f0 from HA.out.1.drewN 1) (cfE 0 nilV nilV) infoCf (cfE_one _ _ _ rfl rfl _)) ?_
  obtain ⟨Y5, hY⟩ : ∃ Z, Z = World.setRow W3.drew g0 (vec 3 (cfE 0 nilV nilV)) := ⟨_, rfl⟩
  have b0 : Arr Y5 g0 28 3 (cfE 0 nilV nilV) := by rw [hY]; exact (show Arr W3.drew g0 28 3 f0 from HA.out.1.drewN 1).row _
  have b1 : Blk Y5 g1 3 #[.int .i64 z1] := by rw [hY]; exact (show Blk W3.drew g1 _ _ from HA.out.2.1.drewN 1).rowFar HN.out.1 _
  have b2 : Blk Y5 g2 29 #[.int .i64 z2] := by rw [hY]; exact (show Blk W3.drew g2 _ _ from HA.out.2.2.1.drewN 1).rowFar HN.out.2.1 _
  have b3 : Blk Y5 g3 45 #[.int .i64 (pl : Int), .int .i64 (er : Int)] := by rw [hY]; exact (show Blk W3.drew g3 _ _ from HA.out.2.2.2.1.drewN 1).rowFar HN.out.2.2.2.1 _
  have b4 : Below m W3 Y5 := by rw [hY]; exact below_row (show Below m W3 W3.drew from below_drewN (Below.refl _ _) 1) HN.out.2.2.2.2.2.2.1 _
  rw [← hY]
  clear hY
  have HB := Lib.hid (And.intro b0 (And.intro b1 (And.intro b2 (And.intro b3 b4))))
  have e1 := b1.cellAt 0 (v := .int .i64 z1) rfl
  have f1 := b1.free 0
  refine hK5 _ _ ⟨b3.cellAt 0 rfl, b3.cellAt 1 rfl⟩ (fun hS5 => ?_)
  clear hK5 K5 b0 b1 b2 b3 b4 k0 k1
  refine held_one (i := 6) (oi := ?ot7) (by kernel_rfl) ?at7 ?ct7 (fun K6 hK6 => ?_)
  (case at7 => (simp only [List.getElem?_toArray, List.getElem?_cons_zero, List.getElem?_cons_succ]; rfl))
  (case ct7 => kernel_rfl)
  clear hS5
  go_simp
  obtain ⟨Y6, hY⟩ : ∃ Z, Z = Y5.setCell ⟨g1, 0, none⟩ (.int .i64 (pl : Int)) := ⟨_, rfl⟩
  have b0 : Arr Y6 g0 28 3 (cfE 0 nilV nilV) := by rw [hY]; exact HB.out.1.far HN.out.1.symm _
  have b1 : Blk Y6 g1 3 #[.int .i64 (pl : Int)] := by rw [hY]; exact HB.out.2.1.setAt 0 _
  have b2 : Blk Y6 g2 29 #[.int .i64 z2] := by rw [hY]; exact HB.out.2.2.1.farCell HN.out.2.2.1.symm _
  have b3 : Blk Y6 g3 45 #[.int .i64 (pl : Int), .int .i64 (er : Int)] := by rw [hY]; exact HB.out.2.2.2.1.farCell HN.out.2.2.2.2.1 _
  have b4 : Below m W3 Y6 := by rw [hY]; exact HB.out.2.2.2.2.setCell HN.out.2.2.2.2.2.2.2.1 _
  rw [← hY]
  clear hY e1 f1
  have HB := Lib.hid (And.intro b0 (And.intro b1 (And.intro b2 (And.intro b3 b4))))
  have e2 := b2.cellAt 0 (v := .int .i64 z2) rfl
  have f2 := b2.free 0
  refine hK6 _ _ ⟨b3.cellAt 0 rfl, b3.cellAt 1 rfl⟩ (fun hS6 => ?_)
  clear hK6 K6 b0 b1 b2 b3 b4
  refine held_one (i := 7) (oi := ?ot8) (by kernel_rfl) ?at8 ?ct8 (fun K7 hK7 => ?_)
  (case at8 => (simp only [List.getElem?_toArray, List.getElem?_cons_zero, List.getElem?_cons_succ]; rfl))
  (case ct8 => kernel_rfl)
  clear hS6
  go_simp
  obtain ⟨Y7, hY⟩ : ∃ Z, Z = Y6.setCell ⟨g2, 0, none⟩ (.int .i64 (er : Int)) := ⟨_, rfl⟩
  have b0 : Arr Y7 g0 28 3 (cfE 0 nilV nilV) := by rw [hY]; exact HB.out.1.far HN.out.2.1.symm _
  have b1 : Blk Y7 g1 3 #[.int .i64 (pl : Int)] := by rw [hY]; exact HB.out.2.1.farCell HN.out.2.2.1 _
  have b2 : Blk Y7 g2 29 #[.int .i64 (er : Int)] := by rw [hY]; exact HB.out.2.2.1.setAt 0 _
  have b3 : Blk Y7 g3 45 #[.int .i64 (pl : Int), .int .i64 (er : Int)] := by rw [hY]; exact HB.out.2.2.2.1.farCell HN.out.2.2.2.2.2.1 _
  have b4 : Below m W3 Y7 := by rw [hY]; exact HB.out.2.2.2.2.setCell HN.out.2.2.2.2.2.2.2.2 _
  rw [← hY]
  clear hY e2 f2
  have HB := Lib.hid (And.intro b0 (And.intro b1 (And.intro b2 b4)))
  refine hK7 _ _ ⟨b3.cellAt 0 rfl, b3.cellAt 1 rfl⟩ (fun hS7 => ?_)
  clear hK7 K7 b0 b1 b2 b3 b4
  refine wpAnyH_done (by kernel_rfl) ?_ _
  exact ⟨rfl, _, rfl, _, results_none rfl _ _ _, rfl, rfl, HB.out.1, HB.out.2.1, HB.out.2.2.1, HA.out.2.2.2.2.trans HB.out.2.2.2⟩
end Go.Proofs.YtmcpmcicolpoeaaDoor
/- Parse. -/
namespace Go.Proofs.YtmcpmcicolpoeaaDoor
open Go.RowKit
attribute [local go_sem ↓ high] zeroCf

/-- What Parse answers. -/
def ParseP (b : By) (w : World) (e : Ending) (w' : World) : Prop := match getC kOk b with
  | .ok cf => ∃ v, e = .returned (.tuple #[v, .int .i64 0, .int .i64 0]) ∧ cfgV w.heap.size w' cf v ∧ Below w.heap.size w w'
  | .error (er, pl) => e = .returned (.tuple #[.agg (vec 3 (cfE 0 nilV nilV)), .int .i64 (pl : Int), .int .i64 (er : Int)]) ∧ Below w.heap.size w w'
set_option maxRecDepth 100000 in
theorem tooLong_any (A : Option Addr) (n c : Nat) (w : World) : Calls Tryd.prog 18 #[.slice A n c] w fun e w' => e = .returned (.bool (decide (65536 < n))) ∧ w = w' := by
  by_cases h : 65536 < n
  · rw [decide_eq_true h]
    have h1 : decide ((65536 : Int) < (n : Int)) = true := decide_eq_true (by omega)
    have h2 : (65536 : Int) < (n : Int) := by omega
    clear h
    go_enter Tryd.func18, Tryd.ntmps18
    go_wp2
    go_ret
    exact ⟨by simp, rfl⟩
  · rw [decide_eq_false h]
    have h1 : decide ((65536 : Int) < (n : Int)) = false := decide_eq_false (by omega)
    have h2 : ¬ (65536 : Int) < (n : Int) := by omega
    clear h
    go_enter Tryd.func18, Tryd.ntmps18
    go_wp2
    go_ret
    exact ⟨by simp, rfl⟩
theorem results_cii {fn : Func} {p q r : Tmp} {ty t1 t2 : TypeId} {P : Program} {w : World} (h : fn.results = #[.cell p ty, .cell q t1, .cell r t2]) (tmps : Array Value) (g0 g1 g2 : Nat) (v x y : Value)
    (h0 : tmps.getD p undef = .pointer (some ⟨g0, 0, none⟩)) (h1 : tmps.getD q undef = .pointer (some ⟨g1, 0, none⟩)) (h2 : tmps.getD r undef = .pointer (some ⟨g2, 0, none⟩))
    (l0 : (loadVar ty ⟨g0, 0, none⟩).run P w = .ok v w) (l1 : (loadVar t1 ⟨g1, 0, none⟩).run P w = .ok x w) (l2 : (loadVar t2 ⟨g2, 0, none⟩).run P w = .ok y w) : (results fn tmps).run P w = .ok (.tuple #[v, x, y]) w := by
  have k0 : tmps[p]?.getD undef = .pointer (some ⟨g0, 0, none⟩) := by simpa using h0
  have k1 : tmps[q]?.getD undef = .pointer (some ⟨g1, 0, none⟩) := by simpa using h1
  have k2 : tmps[r]?.getD undef = .pointer (some ⟨g2, 0, none⟩) := by simpa using h2
  simp [results, h, k0, k1, k2, asAddr, l0, l1, l2]
/-- The three results' cells are laid. -/
structure PsAt (w V : World) (x : Nat → Value) (p e : Int) : Prop where
  a : Arr V w.heap.size 28 3 x
  p : Blk V (w.heap.size + 1) 3 #[.int .i64 p]
  e : Blk V (w.heap.size + 1 + 1) 29 #[.int .i64 e]
  b : Below w.heap.size w V
theorem PsAt.begin (w : World) : PsAt w (((w.alloc (.cells (vec 3 (cfE 0 nilV nilV)) 28)).alloc (.cells #[.int .i64 0] 3)).alloc (.cells #[.int .i64 0] 29)) (cfE 0 nilV nilV) 0 0 :=
  ⟨((Arr.new w _ _ _).alloc _).alloc _, (Blk.new _ _ _ (by simp)).alloc _, Blk.new _ _ _ (by simp), (((Below.refl _ _).alloc (Nat.le_refl _) _).alloc (by simp) _).alloc (by simp <;> omega) _⟩
section
variable {w V W : World} {x y : Nat → Value} {p e p' e' : Int}
theorem PsAt.on (h : PsAt w V x p e) (hb : Below V.heap.size V W) : PsAt w W x p e := ⟨h.a.under hb, h.p.under hb, h.e.under hb, h.b.trans (hb.mono h.b.size)⟩
theorem PsAt.setA (h : PsAt w V x p e) (y : Nat → Value) : PsAt w (V.setRow w.heap.size (vec 3 y)) y p e := ⟨h.a.row _, h.p.rowFar (by omega) _, h.e.rowFar (by omega) _, below_row h.b (Nat.le_refl _) _⟩
theorem PsAt.setP (h : PsAt w V x p e) (z : Int) : PsAt w (V.setCell ⟨w.heap.size + 1, 0, none⟩ (.int .i64 z)) x z e := ⟨h.a.far (by simp) _, h.p.setAt 0 _, h.e.farCell (by simp) _, h.b.setCell (by simp) _⟩
theorem PsAt.setE (h : PsAt w V x p e) (z : Int) : PsAt w (V.setCell ⟨w.heap.size + 1 + 1, 0, none⟩ (.int .i64 z)) x p z := ⟨h.a.far (by simp; omega) _, h.p.farCell (by simp) _, h.e.setAt 0 _, h.b.setCell (by simp; omega) _⟩
theorem PsAt.loads (h : PsAt w V x p e) : (loadVar 28 ⟨w.heap.size, 0, none⟩).run Tryd.prog V = .ok (.agg (vec 3 x)) V ∧ (loadVar 3 ⟨w.heap.size + 1, 0, none⟩).run Tryd.prog V = .ok (.int .i64 p) V ∧ (loadVar 29 ⟨w.heap.size + 1 + 1, 0, none⟩).run Tryd.prog V = .ok (.int .i64 e) V := by
  have c1 := h.p.cellAt 0 (v := .int .i64 p) rfl
  have c2 := h.e.cellAt 0 (v := .int .i64 e) rfl
  refine ⟨run_load_arr h.a Tryd.underlying28 rfl infoCf, ?_, ?_⟩
  · simp [loadVar, go_sem, Tryd.isAgg3, c1]
  · simp [loadVar, go_sem, Tryd.isAgg29, c2]
end
set_option maxHeartbeats 4000000 in
set_option maxRecDepth 100000 in
theorem parse_long (A : Option Addr) (c : Nat) (b : By) (w : World) (hb : 65536 < b.length) : Calls Tryd.prog 8 #[.slice A b.length c] w (ParseP b w) := by
  have hg : getC kOk b = .error (2, 0) := by unfold getC; rw [if_pos hb]
  have HP : Hid (∀ e w', (e = .returned (.tuple #[.agg (vec 3 (cfE 0 nilV nilV)), .int .i64 (0 : Int), .int .i64 (2 : Int)]) ∧ Below w.heap.size w w') → ParseP b w e w') := Lib.hid fun e w' h => by
    unfold ParseP
    rw [hg]
    exact h
  have HT := Lib.hid (tooLong_any A b.length c)
  rw [decide_eq_true hb] at HT
  have hmf : ∀ (fn : Fn) (first cap : Array Value) (w : World), (Instr.makeFunc fn first cap).run Tryd.prog w = .ok (.func fn first cap) w := fun _ _ _ _ => rfl
  obtain ⟨V, hV⟩ : ∃ V, V = ((w.alloc (.cells (vec 3 (cfE 0 nilV nilV)) 28)).alloc (.cells #[.int .i64 0] 3)).alloc (.cells #[.int .i64 0] 29) := ⟨_, rfl⟩
  have h0 : PsAt w V (cfE 0 nilV nilV) 0 0 := by rw [hV]; exact PsAt.begin w
  have c1 := (h0.setA (cfE 0 nilV nilV)).p.cellAt 0 (v := .int .i64 0) rfl
  have z1 := (h0.setA (cfE 0 nilV nilV)).p.free 0
  have c2 := ((h0.setA (cfE 0 nilV nilV)).setP 0).e.cellAt 0 (v := .int .i64 0) rfl
  have z2 := ((h0.setA (cfE 0 nilV nilV)).setP 0).e.free 0
  have HA := Lib.hid h0
  have HW := Lib.hid hV
  refine Calls.mono ?_ fun e w' h => HP.out e w' h
  clear HP hg hb hV h0
  go_enter_defers Tryd.func8, Tryd.ntmps8
  go_upto_region 1 with fail
  rw [← HW.out]
  clear HW
  go_wp2_with (first
    | (go_at_call 18; refine (HT.out _).mono ?_; rintro e w1 ⟨rfl, rfl⟩)
    | ((with_reducible show wpList _ _ _ (Oper.mk _ (.build _ _) _ _ _ _ :: _) _ _); refine wl_build rfl 28 _ rfl (vec 3 (cfE 0 nilV nilV)) (by kernel_rfl) ?_)
    | ((with_reducible show wpList _ _ _ (Oper.mk _ (.store 28 _ _) _ _ _ _ :: _) _ _); refine wl_store rfl 28 _ _ rfl _ rfl _ rfl (run_store_arr HA.out.a (cfE 0 nilV nilV) infoCf (cfE_one _ _ _ rfl rfl _)) ?_))
  refine leaves_cons (f := 17) (args := #[.pointer (some ⟨w.heap.size, 0, none⟩), .pointer (some ⟨w.heap.size + 1, 0, none⟩), .pointer (some ⟨w.heap.size + 1 + 1, 0, none⟩)]) (by simp) (by simp [go_sem]) ?_
  refine (catch_idle _ _ _ _).mono ?_
  rintro e u' w'' ⟨rfl, rfl, rfl⟩
  obtain ⟨l0, l1, l2⟩ := (((HA.out.setA (cfE 0 nilV nilV)).setP 0).setE 2).loads
  exact ⟨_, results_cii rfl _ _ _ _ _ _ _ rfl rfl rfl l0 l1 l2, rfl, (((HA.out.setA (cfE 0 nilV nilV)).setP 0).setE 2).b⟩
theorem getC_err {b : By} {x : Nat × Nat} (hb : ¬ 65536 < b.length) (h : (cfC kOk).get b 0 = .error x) : getC kOk b = .error x := by unfold getC; rw [if_neg hb, h]
theorem getC_trail {b : By} {x : Cf} {q : Nat} (hb : ¬ 65536 < b.length) (h : (cfC kOk).get b 0 = .ok (x, q)) (hq : q < b.length) : getC kOk b = .error (145, q) := by
  unfold getC; rw [if_neg hb, h]; dsimp only; rw [if_pos hq]
theorem getC_ok {b : By} {x : Cf} {q : Nat} (hb : ¬ 65536 < b.length) (h : (cfC kOk).get b 0 = .ok (x, q)) (hq : ¬ q < b.length) : getC kOk b = .ok x := by
  unfold getC; rw [if_neg hb, h]; dsimp only; rw [if_neg hq]
theorem PsAt.save {w V W : World} {x : Nat → Value} {p e : Int} {g : Nat} (h : PsAt w V x p e) (hs : Save g V W) (hg : w.heap.size + 2 < g) : PsAt w W x p e :=
  ⟨h.a.save hs (by omega), h.p.save hs (by omega), h.e.save hs (by omega), h.b.trans (hs.below (by omega) h.b.size)⟩
set_option maxHeartbeats 4000000 in
set_option maxRecDepth 100000 in
theorem parse_any (A : Option Addr) (c : Nat) (b : By) (w : World) (hbc : b.length ≤ c) (hl : Lies w w.heap.size 1 A b.length (u8s b)) : Calls Tryd.prog 8 #[.slice A b.length c] w (ParseP b w) := by
  by_cases hb : 65536 < b.length
  · exact parse_long A c b w hb
  have HGC := Lib.hid hb
  have HLB := Lib.hid hl
  have HT := Lib.hid (tooLong_any A b.length c)
  rw [decide_eq_false hb] at HT
  have hmf : ∀ (fn : Fn) (first cap : Array Value) (w : World), (Instr.makeFunc fn first cap).run Tryd.prog w = .ok (.func fn first cap) w := fun _ _ _ _ => rfl
  obtain ⟨V, hV⟩ : ∃ V, V = ((w.alloc (.cells (vec 3 (cfE 0 nilV nilV)) 28)).alloc (.cells #[.int .i64 0] 3)).alloc (.cells #[.int .i64 0] 29) := ⟨_, rfl⟩
  have h0 : PsAt w V (cfE 0 nilV nilV) 0 0 := by rw [hV]; exact PsAt.begin w
  have hVs : V.heap.size = w.heap.size + 3 := by rw [hV]; simp
  obtain ⟨g, hg⟩ : ∃ g, g = V.heap.size := ⟨_, rfl⟩
  obtain ⟨W1, hW1⟩ : ∃ W1, W1 = V.alloc (.cells #[.slice A b.length c, .int .i64 0, .int .i64 0] 50) := ⟨_, rfl⟩
  have hB1 : Below V.heap.size V W1 := by rw [hW1]; exact (Below.refl _ _).alloc (Nat.le_refl _) _
  have hps : PsAt w W1 (cfE 0 nilV nilV) 0 0 := h0.on hB1
  have hcur : Cur W1 g A c b 0 0 := ⟨by rw [hW1]; exact Blk.new _ _ _ hg, (hl.below hps.b).wide (by omega), hbc, by omega, Nat.le_refl _, Nat.zero_le _⟩
  have HPS := Lib.hid (And.intro hps (show w.heap.size + 2 < g by omega))
  have HC := Lib.hid hcur
  have HG := Lib.hid hg
  have HW1 := Lib.hid hW1
  have HW := Lib.hid hV
  clear hb hV h0 hVs hg hW1 hB1 hps hcur hl
  go_enter_defers Tryd.func8, Tryd.ntmps8
  go_upto_region 1 with fail
  rw [← HW.out]
  clear HW
  go_upto_region 5 with (go_at_call 18; refine (HT.out _).mono ?_; rintro e w1 ⟨rfl, rfl⟩)
  rw [← HG.out, ← HW1.out]
  clear HG HW1 HT hmf
  go_wp2_with fail
  refine (config_any HC.out).mono ?_
  intro e y hh
  rcases hh with hh | hh
  rotate_left
  · obtain ⟨er, pl, hget, rfl, hs⟩ := hh
    have HGET : Hid (getC kOk b = .error (er, pl)) := Lib.hid (getC_err HGC.out hget)
    have HQ := Lib.hid (HPS.out.1.save hs HPS.out.2)
    refine leaves_cons (f := 17) (args := #[.pointer (some ⟨w.heap.size, 0, none⟩), .pointer (some ⟨w.heap.size + 1, 0, none⟩), .pointer (some ⟨w.heap.size + 1 + 1, 0, none⟩)]) (by simp) (by simp [go_sem]) ?_
    refine (catch_pan w.heap.size (w.heap.size + 1) (w.heap.size + 1 + 1) w.heap.size pl er 0 0 _ [] _ HQ.out.a HQ.out.p HQ.out.e (by omega) (by omega) (by omega) (Nat.le_refl _) (by omega) (by omega)).mono ?_
    rintro e u' w2 ⟨rfl, rfl, k0, k1, k2, kb⟩
    have hp2 : PsAt w w2 (cfE 0 nilV nilV) (pl : Int) (er : Int) := ⟨k0, k1, k2, HQ.out.b.trans kb⟩
    obtain ⟨l0, l1, l2⟩ := hp2.loads
    have hpost : ParseP b w (.returned (.tuple #[.agg (vec 3 (cfE 0 nilV nilV)), .int .i64 (pl : Int), .int .i64 (er : Int)])) w2 := by unfold ParseP; rw [HGET.out]; exact ⟨rfl, hp2.b⟩
    exact ⟨_, results_cii rfl _ _ _ _ _ _ _ rfl rfl rfl l0 l1 l2, hpost⟩
  obtain ⟨x, q, v, tt, hget, rfl, hv, hc, hs⟩ := hh
  obtain ⟨va, vc, rfl, hva, hvc⟩ := hv
  obtain ⟨Ba, da, rfl⟩ := hva.form
  obtain ⟨Bc, dc, rfl, -, -, -⟩ := hvc.form
  obtain ⟨F, hF⟩ : ∃ F, F = cfE x.ver (.slice Ba x.gs.length da) (.slice Bc x.chs.length dc) := ⟨_, rfl⟩
  have hF1 : ∀ i, i < 3 → (F i).oneCell' = true := by rw [hF]; exact cfE_one _ _ _ rfl rfl _
  rw [← hF]
  have hp1 := HPS.out.1.save hs HPS.out.2
  have hW1s : W1.heap.size ≤ y.heap.size := hs.size
  have hgW1 := HC.out.lt
  obtain ⟨y1, hy1⟩ : ∃ y1, y1 = y.setRow w.heap.size (vec 3 F) := ⟨_, rfl⟩
  have hs1 : Save w.heap.size y y1 := by rw [hy1]; exact (Save.refl _ _).setRow _
  have hp2 : PsAt w y1 F 0 0 := by rw [hy1]; exact hp1.setA F
  have hne : g ≠ w.heap.size := by have := HPS.out.2; omega
  have hcu : Cur y1 g A c b tt q := ⟨hc.blk.save hs1 hne, (HLB.out.below hp2.b).wide (by have := HPS.out.2; omega), hc.cap, hc.len, hc.ge, hc.le⟩
  have hb0 : w.heap.size < W1.heap.size := by have := HPS.out.2; omega
  have HV := Lib.hid (And.intro (hva.save hs1 hb0) (And.intro (OwnE.save hvc hs1 hb0) hb0))
  have HP1 := Lib.hid hp1
  have HP2 := Lib.hid hp2
  have HCU := Lib.hid hcu
  have HGQ := Lib.hid hget
  have HF := Lib.hid (And.intro hF hF1)
  have HGW := Lib.hid hgW1
  have HY := Lib.hid hy1
  clear hs hc hva hvc hp1 hp2 hcu hs1 hget hy1 hF hF1 hW1s hgW1 hb0 hne
  go_upto_region 6 with ((with_reducible show wpList _ _ _ (Oper.mk _ (.store 28 _ _) _ _ _ _ :: _) _ _); refine wl_store rfl 28 _ _ rfl _ rfl _ rfl (run_store_arr HP1.out.a F infoCf HF.out.2) ?_)
  rw [← HY.out]
  clear HY
  go_wp2_with fail
  refine (over_any HCU.out).mono ?_
  intro e y2 hh
  obtain ⟨he, hs⟩ := hh
  have hle := HCU.out.le
  by_cases hq : q = b.length
  rotate_left
  · rw [if_neg hq] at he
    subst he
    have HGET : Hid (getC kOk b = .error (145, q)) := Lib.hid (getC_trail HGC.out HGQ.out (by omega))
    have HQ := Lib.hid (HP2.out.save hs HPS.out.2)
    refine leaves_cons (f := 17) (args := #[.pointer (some ⟨w.heap.size, 0, none⟩), .pointer (some ⟨w.heap.size + 1, 0, none⟩), .pointer (some ⟨w.heap.size + 1 + 1, 0, none⟩)]) (by simp) (by simp [go_sem]) ?_
    refine (catch_pan w.heap.size (w.heap.size + 1) (w.heap.size + 1 + 1) w.heap.size q 145 0 0 _ [] _ HQ.out.a HQ.out.p HQ.out.e (by omega) (by omega) (by omega) (Nat.le_refl _) (by omega) (by omega)).mono ?_
    rintro e u' w2 ⟨rfl, rfl, k0, k1, k2, kb⟩
    have hp2 : PsAt w w2 (cfE 0 nilV nilV) (q : Int) ((145 : Nat) : Int) := ⟨k0, k1, k2, HQ.out.b.trans kb⟩
    obtain ⟨l0, l1, l2⟩ := hp2.loads
    have hpost : ParseP b w (.returned (.tuple #[.agg (vec 3 (cfE 0 nilV nilV)), .int .i64 (q : Int), .int .i64 (145 : Int)])) w2 := by unfold ParseP; rw [HGET.out]; exact ⟨rfl, hp2.b⟩
    exact ⟨_, results_cii rfl _ _ _ _ _ _ _ rfl rfl rfl l0 l1 l2, hpost⟩
  rw [if_pos hq] at he
  subst he
  have HGET : Hid (getC kOk b = .ok x) := Lib.hid (getC_ok HGC.out HGQ.out (by omega))
  have hp3 := HP2.out.save hs HPS.out.2
  have HQ := Lib.hid hp3
  have c1 := (hp3.setA F).p.cellAt 0 (v := .int .i64 0) rfl
  have z1 := (hp3.setA F).p.free 0
  have c2 := ((hp3.setA F).setP 0).e.cellAt 0 (v := .int .i64 0) rfl
  have z2 := ((hp3.setA F).setP 0).e.free 0
  have HV2 := Lib.hid (And.intro (HV.out.1.save hs HGW.out) (OwnE.save HV.out.2.1 hs HGW.out))
  clear hp3 hq hle hs
  go_wp2_with (first
    | ((with_reducible show wpList _ _ _ (Oper.mk _ (.load 28 _) _ _ _ _ :: _) _ _); refine wl_load rfl 28 _ rfl _ rfl _ (run_load_arr HQ.out.a Tryd.underlying28 rfl infoCf) ?_)
    | ((with_reducible show wpList _ _ _ (Oper.mk _ (.store 28 _ _) _ _ _ _ :: _) _ _); refine wl_store rfl 28 _ _ rfl _ rfl _ rfl (run_store_arr HQ.out.a F infoCf HF.out.2) ?_))
  refine leaves_cons (f := 17) (args := #[.pointer (some ⟨w.heap.size, 0, none⟩), .pointer (some ⟨w.heap.size + 1, 0, none⟩), .pointer (some ⟨w.heap.size + 1 + 1, 0, none⟩)]) (by simp) (by simp [go_sem]) ?_
  refine (catch_idle _ _ _ _).mono ?_
  rintro e u' w'' ⟨rfl, rfl, rfl⟩
  have hp4 := ((HQ.out.setA F).setP 0).setE 0
  obtain ⟨l0, l1, l2⟩ := hp4.loads
  have hs4 : ∀ k, k < y2.heap.size → k ≠ w.heap.size → k ≠ w.heap.size + 1 → k ≠ w.heap.size + 1 + 1 → (((y2.setRow w.heap.size (vec 3 F)).setCell ⟨w.heap.size + 1, 0, none⟩ (.int .i64 0)).setCell ⟨w.heap.size + 1 + 1, 0, none⟩ (.int .i64 0)).heap[k]? = y2.heap[k]? := fun k _ h0 h1 h2 => by
    rw [Below.heap_setCell _ _ _ k h2, Below.heap_setCell _ _ _ k h1]
    simp [World.setRow, Array.getElem?_modify, Ne.symm h0]
  have hs5 : Save w.heap.size y2 (y2.setRow w.heap.size (vec 3 F)) := (Save.refl _ _).setRow _
  have hs6 : Save (w.heap.size + 1) (y2.setRow w.heap.size (vec 3 F)) ((y2.setRow w.heap.size (vec 3 F)).setCell ⟨w.heap.size + 1, 0, none⟩ (.int .i64 0)) := (Save.refl _ _).setCell 0 _
  have hs7 : Save (w.heap.size + 1 + 1) ((y2.setRow w.heap.size (vec 3 F)).setCell ⟨w.heap.size + 1, 0, none⟩ (.int .i64 0)) (((y2.setRow w.heap.size (vec 3 F)).setCell ⟨w.heap.size + 1, 0, none⟩ (.int .i64 0)).setCell ⟨w.heap.size + 1 + 1, 0, none⟩ (.int .i64 0)) := (Save.refl _ _).setCell 0 _
  have hb2 : w.heap.size + 1 + 1 < W1.heap.size := by have := HGW.out; have := HPS.out.2; omega
  have hpost : ParseP b w (.returned (.tuple #[.agg (vec 3 F), .int .i64 0, .int .i64 0])) (((y2.setRow w.heap.size (vec 3 F)).setCell ⟨w.heap.size + 1, 0, none⟩ (.int .i64 0)).setCell ⟨w.heap.size + 1 + 1, 0, none⟩ (.int .i64 0)) := by
    unfold ParseP
    rw [HGET.out]
    refine ⟨_, rfl, ⟨.slice Ba x.gs.length da, .slice Bc x.chs.length dc, by rw [HF.out.1], ?_, ?_⟩, hp4.b⟩
    · exact (((HV2.out.1.save hs5 (by omega)).save hs6 (by omega)).save hs7 hb2).low (by omega)
    · exact (((HV2.out.2.save hs5 (by omega)).save hs6 (by omega)).save hs7 hb2).low (by omega)
  exact ⟨_, results_cii rfl _ _ _ _ _ _ _ rfl rfl rfl l0 l1 l2, hpost⟩
end Go.Proofs.YtmcpmcicolpoeaaDoor
/- portreevelaw14.awake: the chapter's examples. -/
namespace Go.Proofs.YtmcpmcicolpoeaaDoor
open Go.RowKit
attribute [local go_sem ↓ high] zeroCf

set_option maxRecDepth 100000 in
theorem make4 (w : World) : (Instr.makeSlice 22 (.int .i64 4) (.int .i64 4)).run Tryd.prog w = .ok (.slice (some ⟨w.heap.size, 0, none⟩) 4 4) (w.alloc (.cells (vec 4 (fun _ => .int .u8 0)) 5)) := by
  obtain ⟨i0, hi, hz0, hz1, hz2⟩ := info_parts u8_info
  have h := run_make (P := Tryd.prog) (w := w) 22 5 i0 (.int .u8 0) Tryd.underlying22 hi hz0 .i64 .i64 4 4 (by omega) (by omega) (by rw [hz2]; omega) (by omega)
  rw [hz1] at h
  rw [h]
  congr 3
  kernel_rfl
theorem get_nil : getC kOk [] = .error (141, 0) := by rfl
theorem get_noughts : getC kOk [0, 0, 0, 0] = .error (140, 0) := by rfl
theorem parse_err {A : Option Addr} {c : Nat} {b : By} {w : World} {er pl : Nat} (hbc : b.length ≤ c) (hl : Lies w w.heap.size 1 A b.length (u8s b)) (h : getC kOk b = .error (er, pl)) : Calls Tryd.prog 8 #[.slice A b.length c] w fun e w' => e = .returned (.tuple #[.agg (vec 3 (cfE 0 nilV nilV)), .int .i64 (pl : Int), .int .i64 (er : Int)]) ∧ Below w.heap.size w w' := by
  refine (parse_any A c b w hbc hl).mono ?_
  intro e w' hh
  unfold ParseP at hh
  rw [h] at hh
  exact hh
set_option maxHeartbeats 4000000 in
set_option maxRecDepth 100000 in
theorem awake_any (w : World) : Calls Tryd.prog 7 #[] w fun e w' => e = .returned (.bool true) ∧ Below w.heap.size w w' := by
  have hmk := make4
  have HP1 := Lib.hid (parse_err (A := none) (c := 0) (b := []) (w := w) (Nat.le_refl _) (Lies.nil _ _ _ _) get_nil)
  have HP2 := Lib.hid (fun (W : World) => parse_err (A := some ⟨W.heap.size, 0, none⟩) (c := 4) (b := [0, 0, 0, 0]) (w := W.alloc (.cells (vec 4 (fun _ => .int .u8 0)) 5)) (Nat.le_refl _) ((lies_new W (vec 4 (fun _ => .int .u8 0)) 5 4 _ (by rfl) (by rfl)).wide (by simp)) get_noughts)
  go_enter Tryd.func7, Tryd.ntmps7
  go_upto_region 2 with (first
    | (go_at_call 8; refine HP1.out.mono ?_; rintro e w1 ⟨rfl, hd⟩; have HD := Lib.hid hd; clear hd)
    | ((with_reducible show wpList _ _ _ (Oper.mk _ (.store _ _ _) _ _ _ _ :: _) _ _); refine wl_store rfl 28 _ _ rfl _ rfl _ rfl (run_store_arr (Arr.new w1 _ _ _) (cfE 0 nilV nilV) infoCf (cfE_one _ _ _ rfl rfl _)) ?_))
  obtain ⟨V, hV⟩ : ∃ V, V = (w1.alloc (.cells (vec 3 (cfE 0 nilV nilV)) 28)).setRow w1.heap.size (vec 3 (cfE 0 nilV nilV)) := ⟨_, rfl⟩
  have HB : Hid (Below w.heap.size w V) := Lib.hid (by rw [hV]; exact below_row (HD.out.alloc HD.out.size _) HD.out.size _)
  rw [← hV]
  clear hV
  go_upto_region 3 with (first
    | (go_at_call 8; refine (HP2.out V).mono ?_; rintro e w2 ⟨rfl, hd⟩; have HD2 := Lib.hid hd; clear hd)
    | ((with_reducible show wpList _ _ _ (Oper.mk _ (.store _ _ _) _ _ _ _ :: _) _ _); refine wl_store rfl 28 _ _ rfl _ rfl _ rfl (run_store_arr (Arr.new w2 _ _ _) (cfE 0 nilV nilV) infoCf (cfE_one _ _ _ rfl rfl _)) ?_))
  have h3 : Below w.heap.size w w2 := (HB.out.alloc HB.out.size _).trans (HD2.out.mono (by have := HB.out.size; simp; omega))
  have HB2 : Hid (Below w.heap.size w ((w2.alloc (.cells (vec 3 (cfE 0 nilV nilV)) 28)).setRow w2.heap.size (vec 3 (cfE 0 nilV nilV)))) := Lib.hid (below_row (h3.alloc h3.size _) h3.size _)
  clear h3
  go_wp2_with fail
  go_ret
  exact ⟨rfl, HB2.out⟩
end Go.Proofs.YtmcpmcicolpoeaaDoor
