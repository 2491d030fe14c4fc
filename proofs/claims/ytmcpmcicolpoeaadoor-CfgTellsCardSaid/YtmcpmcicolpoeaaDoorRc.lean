/- What a parse that is given up answers: the deferred function. -/
import Derived.Test.YtmcpmcicolpoeaaDoorCg
import Derived.Recover
import Derived.Laws.Pointers
namespace Go.Proofs.YtmcpmcicolpoeaaDoor
open Go.RowKit
attribute [local go_sem ↓ high] zeroCf

theorem Blk.farCell {w : World} {g : Nat} {t : TypeId} {cs : Array Value} (h : Blk w g t cs) {p : Addr} (hp : g ≠ p.block) (u : Value) : Blk (w.setCell p u) g t cs := (Below.heap_setCell w p u g hp).trans h
set_option maxRecDepth 100000 in
theorem catch_idle (q0 q1 q2 : Value) (w : World) : CallsD Tryd.prog 17 #[q0, q1, q2] .returning w fun e u' w' => e = .returned (.tuple #[]) ∧ u' = .returning ∧ w' = w := by
  refine callsD_of_wpS Tryd.func17 rfl fun c₀ cs hu => ?_
  apply wpS_seq
  apply wpS_region
  simp [wpOpsS, go_sem, recoverD, hu, Tryd.ntmps17, Exit.thenS]
  refine wpS_of_wp ?_
  rw [show (#[q0, q1, q2] ++ ((Array.replicate 12 undef).setIfInBounds 2 Value.nilIface).setIfInBounds 0 Value.nilIface) = #[q0, q1, q2, Value.nilIface, undef, Value.nilIface, undef, undef, undef, undef, undef, undef, undef, undef, undef] from rfl]
  go_wp2
  cases c₀
  simp_all [bodyPostS, results, Tryd.results17]
theorem assert_any (v : Value) (T : TypeId) (w : World) : (Instr.typeAssert (.iface 45 v) T 45 false).run Tryd.prog w = .ok v w := by
  simp [Instr.typeAssert, run_underlying Tryd.underlying45]
set_option maxRecDepth 100000 in
set_option maxHeartbeats 2000000 in
theorem catch_pan (g0 g1 g2 m : Nat) (pl er : Nat) (z1 z2 : Int) (f0 : Nat → Value) (older : List PanicEntry) (w : World) (h0 : Arr w g0 28 3 f0) (h1 : Blk w g1 3 #[.int .i64 z1]) (h2 : Blk w g2 29 #[.int .i64 z2]) (d1 : g1 ≠ g0) (d2 : g2 ≠ g0) (d3 : g1 ≠ g2) (m0 : m ≤ g0) (m1 : m ≤ g1) (m2 : m ≤ g2) :
    CallsD Tryd.prog 17 #[.pointer (some ⟨g0, 0, none⟩), .pointer (some ⟨g1, 0, none⟩), .pointer (some ⟨g2, 0, none⟩)] (.panicking ({ v := faultV pl er, recovered := false } :: older)) w fun e u' w' =>
      e = .returned (.tuple #[]) ∧ u' = .panicking ({ v := faultV pl er, recovered := true } :: older) ∧ Arr w' g0 28 3 (cfE 0 nilV nilV) ∧ Blk w' g1 3 #[.int .i64 (pl : Int)] ∧ Blk w' g2 29 #[.int .i64 (er : Int)] ∧ Below m w w' := by
  unfold faultV
  refine callsD_of_wpS Tryd.func17 rfl fun c₀ cs hu => ?_
  apply wpS_seq
  apply wpS_region
  simp [wpOpsS, go_sem, recoverD, hu, Tryd.ntmps17, Exit.thenS]
  refine wpS_of_wp ?_
  rw [show (#[Value.pointer (some ⟨g0, 0, none⟩), Value.pointer (some ⟨g1, 0, none⟩), Value.pointer (some ⟨g2, 0, none⟩)] ++ ((Array.replicate 12 undef).setIfInBounds 2 (Value.iface 45 (Value.agg #[Value.int IntKind.i64 ↑pl, Value.int IntKind.i64 ↑er]))).setIfInBounds 0 (Value.iface 45 (Value.agg #[Value.int IntKind.i64 ↑pl, Value.int IntKind.i64 ↑er])))
    = #[Value.pointer (some ⟨g0, 0, none⟩), Value.pointer (some ⟨g1, 0, none⟩), Value.pointer (some ⟨g2, 0, none⟩), Value.iface 45 (Value.agg #[Value.int IntKind.i64 ↑pl, Value.int IntKind.i64 ↑er]), undef, Value.iface 45 (Value.agg #[Value.int IntKind.i64 ↑pl, Value.int IntKind.i64 ↑er]), undef, undef, undef, undef, undef, undef, undef, undef, undef] from rfl]
  obtain ⟨W3, hW3⟩ : ∃ W3, W3 = w.alloc (.cells #[Value.int IntKind.i64 (pl : Int), Value.int IntKind.i64 (er : Int)] 45) := ⟨_, rfl⟩
  have hB : Below w.heap.size w W3 := by rw [hW3]; exact (Below.refl _ _).alloc (Nat.le_refl _) _
  obtain ⟨g3, hg3⟩ : ∃ g, g = w.heap.size := ⟨_, rfl⟩
  have h3 : Blk W3 g3 45 #[Value.int IntKind.i64 (pl : Int), Value.int IntKind.i64 (er : Int)] := by rw [hW3]; exact Blk.new _ _ _ hg3
  have l0 := h0.lt
  have l1 := h1.lt
  have l2 := h2.lt
  have HA := Lib.hid (And.intro (h0.under hB) (And.intro (h1.under hB) (And.intro (h2.under hB) (And.intro h3 (hB.mono (Nat.le_trans m0 (Nat.le_of_lt l0)))))))
  have HN := Lib.hid (And.intro d1 (And.intro d2 (And.intro d3 (And.intro (show g3 ≠ g0 by omega) (And.intro (show g3 ≠ g1 by omega) (And.intro (show g3 ≠ g2 by omega) (And.intro m0 (And.intro m1 m2))))))))
  have HW := Lib.hid hW3
  have HG := Lib.hid hg3
  clear hB h3 l0 l1 l2 h0 h1 h2 hW3 hg3 d1 d2 d3 m0 m1 m2
  have hta := assert_any
  go_upto_region 3 with fail
  clear hta
  rw [← HW.out, ← HG.out]
  clear HW HG
  refine wp_region_held_drew (S := fun Y => Y.cell? ⟨g3, 0, none⟩ = some (.int .i64 (pl : Int)) ∧ Y.cell? ⟨g3, 1, none⟩ = some (.int .i64 (er : Int))) (by kernel_rfl) ⟨HA.out.2.2.2.1.cellAt 0 rfl, HA.out.2.2.2.1.cellAt 1 rfl⟩ (fun hS => ?_)
  (refine held_take (i := 0) (oi := ?ot1) (v := .agg (vec 3 (cfE 0 nilV nilV))) ?at1 (by kernel_rfl) (by kernel_rfl) (by kernel_rfl) ?bt1 ?ct1 ?dt1 (by assumption) ?rt1; (case at1 => (simp only [List.getElem?_toArray, List.getElem?_cons_zero]; rfl)); (case bt1 => exact fun _ _ _ h => h); (case ct1 => kernel_rfl); (case dt1 => (intro W _; exact exec_build 28 _ rfl (vec 3 (cfE 0 nilV nilV)) (by kernel_rfl) W)); (case' rt1 => simp only [Act.put, List.setIfInBounds_toArray, List.set_cons_zero, List.set_cons_succ]))
  (refine held_take (i := 1) (oi := ?ot2) (v := ?vt2) ?at2 (by kernel_rfl) (by kernel_rfl) (by kernel_rfl) ?bt2 ?ct2 ?dt2 (by assumption) ?rt2; (case at2 => (simp only [List.getElem?_toArray, List.getElem?_cons_zero, List.getElem?_cons_succ]; rfl)); (case bt2 => exact fun _ _ _ h => h); (case ct2 => kernel_rfl); (case dt2 => (intro W hW; (try dsimp only at hW); go_split_ands; go_simp; (try with_reducible rfl))); (case' rt2 => simp only [Act.put, List.setIfInBounds_toArray, List.set_cons_zero, List.set_cons_succ]))
  (refine held_take (i := 2) (oi := ?ot3) (v := .int .i64 (pl : Int)) ?at3 (by kernel_rfl) (by kernel_rfl) (by kernel_rfl) ?bt3 ?ct3 ?dt3 (by assumption) ?rt3; (case at3 => (simp only [List.getElem?_toArray, List.getElem?_cons_zero, List.getElem?_cons_succ]; rfl)); (case bt3 => exact fun _ _ _ h => h); (case ct3 => kernel_rfl); (case dt3 => (intro W hW; obtain ⟨k0, k1⟩ := hW; go_simp; (try with_reducible rfl))); (case' rt3 => simp only [Act.put, List.setIfInBounds_toArray, List.set_cons_zero, List.set_cons_succ]))
  (refine held_take (i := 3) (oi := ?ot4) (v := ?vt4) ?at4 (by kernel_rfl) (by kernel_rfl) (by kernel_rfl) ?bt4 ?ct4 ?dt4 (by assumption) ?rt4; (case at4 => (simp only [List.getElem?_toArray, List.getElem?_cons_zero, List.getElem?_cons_succ]; rfl)); (case bt4 => exact fun _ _ _ h => h); (case ct4 => kernel_rfl); (case dt4 => (intro W hW; (try dsimp only at hW); go_split_ands; go_simp; (try with_reducible rfl))); (case' rt4 => simp only [Act.put, List.setIfInBounds_toArray, List.set_cons_zero, List.set_cons_succ]))
  (refine held_take (i := 4) (oi := ?ot5) (v := .int .i64 (er : Int)) ?at5 (by kernel_rfl) (by kernel_rfl) (by kernel_rfl) ?bt5 ?ct5 ?dt5 (by assumption) ?rt5; (case at5 => (simp only [List.getElem?_toArray, List.getElem?_cons_zero, List.getElem?_cons_succ]; rfl)); (case bt5 => exact fun _ _ _ h => h); (case ct5 => kernel_rfl); (case dt5 => (intro W hW; obtain ⟨k0, k1⟩ := hW; go_simp; (try with_reducible rfl))); (case' rt5 => simp only [Act.put, List.setIfInBounds_toArray, List.set_cons_zero, List.set_cons_succ]))
  refine held_one (i := 5) (oi := ?ot6) (by kernel_rfl) ?at6 ?ct6 (fun K5 hK5 => ?_)
  (case at6 => (simp only [List.getElem?_toArray, List.getElem?_cons_zero, List.getElem?_cons_succ]; rfl))
  (case ct6 => kernel_rfl)
  obtain ⟨k0, k1⟩ := hS
  refine ow_store 28 _ _ rfl _ rfl _ rfl (run_store_arr (show Arr W3.drew g0 28 3 f0 from HA.out.1.drewN 1) (cfE 0 nilV nilV) infoCf (cfE_one _ _ _ rfl rfl _)) ?_
  obtain ⟨Y5, hY⟩ : ∃ Z, Z = World.setRow W3.drew g0 (vec 3 (cfE 0 nilV nilV)) := ⟨_, rfl⟩
  have b0 : Arr Y5 g0 28 3 (cfE 0 nilV nilV) := by rw [hY]; exact (show Arr W3.drew g0 28 3 f0 from HA.out.1.drewN 1).row _
  have b1 : Blk Y5 g1 3 #[.int .i64 z1] := by rw [hY]; exact (show Blk W3.drew g1 _ _ from HA.out.2.1.drewN 1).rowFar HN.out.1 _
  have b2 : Blk Y5 g2 29 #[.int .i64 z2] := by rw [hY]; exact (show Blk W3.drew g2 _ _ from HA.out.2.2.1.drewN 1).rowFar HN.out.2.1 _
  have b3 : Blk Y5 g3 45 #[.int .i64 (pl : Int), .int .i64 (er : Int)] := by rw [hY]; exact (show Blk W3.drew g3 _ _ from HA.out.2.2.2.1.drewN 1).rowFar HN.out.2.2.2.1 _
  have b4 : Below m W3 Y5 := by rw [hY]; exact below_row (show Below m W3 W3.drew from below_drewN (Below.refl _ _) 1) HN.out.2.2.2.2.2.2.1 _
  rw [← hY]
  clear hY
  have HB := Lib.hid (And.intro b0 (And.intro b1 (And.intro b2 (And.intro b3 b4))))
  have e1 := b1.cellAt 0 (v := .int .i64 z1) rfl
  have f1 := b1.free 0
  refine hK5 _ _ ⟨b3.cellAt 0 rfl, b3.cellAt 1 rfl⟩ (fun hS5 => ?_)
  clear hK5 K5 b0 b1 b2 b3 b4 k0 k1
  refine held_one (i := 6) (oi := ?ot7) (by kernel_rfl) ?at7 ?ct7 (fun K6 hK6 => ?_)
  (case at7 => (simp only [List.getElem?_toArray, List.getElem?_cons_zero, List.getElem?_cons_succ]; rfl))
  (case ct7 => kernel_rfl)
  clear hS5
  go_simp
  obtain ⟨Y6, hY⟩ : ∃ Z, Z = Y5.setCell ⟨g1, 0, none⟩ (.int .i64 (pl : Int)) := ⟨_, rfl⟩
  have b0 : Arr Y6 g0 28 3 (cfE 0 nilV nilV) := by rw [hY]; exact HB.out.1.far HN.out.1.symm _
  have b1 : Blk Y6 g1 3 #[.int .i64 (pl : Int)] := by rw [hY]; exact HB.out.2.1.setAt 0 _
  have b2 : Blk Y6 g2 29 #[.int .i64 z2] := by rw [hY]; exact HB.out.2.2.1.farCell HN.out.2.2.1.symm _
  have b3 : Blk Y6 g3 45 #[.int .i64 (pl : Int), .int .i64 (er : Int)] := by rw [hY]; exact HB.out.2.2.2.1.farCell HN.out.2.2.2.2.1 _
  have b4 : Below m W3 Y6 := by rw [hY]; exact HB.out.2.2.2.2.setCell HN.out.2.2.2.2.2.2.2.1 _
  rw [← hY]
  clear hY e1 f1
  have HB := Lib.hid (And.intro b0 (And.intro b1 (And.intro b2 (And.intro b3 b4))))
  have e2 := b2.cellAt 0 (v := .int .i64 z2) rfl
  have f2 := b2.free 0
  refine hK6 _ _ ⟨b3.cellAt 0 rfl, b3.cellAt 1 rfl⟩ (fun hS6 => ?_)
  clear hK6 K6 b0 b1 b2 b3 b4
  refine held_one (i := 7) (oi := ?ot8) (by kernel_rfl) ?at8 ?ct8 (fun K7 hK7 => ?_)
  (case at8 => (simp only [List.getElem?_toArray, List.getElem?_cons_zero, List.getElem?_cons_succ]; rfl))
  (case ct8 => kernel_rfl)
  clear hS6
  go_simp
  obtain ⟨Y7, hY⟩ : ∃ Z, Z = Y6.setCell ⟨g2, 0, none⟩ (.int .i64 (er : Int)) := ⟨_, rfl⟩
  have b0 : Arr Y7 g0 28 3 (cfE 0 nilV nilV) := by rw [hY]; exact HB.out.1.far HN.out.2.1.symm _
  have b1 : Blk Y7 g1 3 #[.int .i64 (pl : Int)] := by rw [hY]; exact HB.out.2.1.farCell HN.out.2.2.1 _
  have b2 : Blk Y7 g2 29 #[.int .i64 (er : Int)] := by rw [hY]; exact HB.out.2.2.1.setAt 0 _
  have b3 : Blk Y7 g3 45 #[.int .i64 (pl : Int), .int .i64 (er : Int)] := by rw [hY]; exact HB.out.2.2.2.1.farCell HN.out.2.2.2.2.2.1 _
  have b4 : Below m W3 Y7 := by rw [hY]; exact HB.out.2.2.2.2.setCell HN.out.2.2.2.2.2.2.2.2 _
  rw [← hY]
  clear hY e2 f2
  have HB := Lib.hid (And.intro b0 (And.intro b1 (And.intro b2 b4)))
  refine hK7 _ _ ⟨b3.cellAt 0 rfl, b3.cellAt 1 rfl⟩ (fun hS7 => ?_)
  clear hK7 K7 b0 b1 b2 b3 b4
  refine wpAnyH_done (by kernel_rfl) ?_ _
  exact ⟨rfl, _, rfl, _, results_none rfl _ _ _, rfl, rfl, HB.out.1, HB.out.2.1, HB.out.2.2.1, HA.out.2.2.2.2.trans HB.out.2.2.2⟩
end Go.Proofs.YtmcpmcicolpoeaaDoor
