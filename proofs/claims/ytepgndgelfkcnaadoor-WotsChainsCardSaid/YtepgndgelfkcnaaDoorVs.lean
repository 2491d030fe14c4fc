/- A region that leaves all as it was; two arrays of 67 numbers, alike. -/
import Derived.Test.YtepgndgelfkcnaaDoorRDig
namespace Go.Proofs.YtepgndgelfkcnaaDoor
open Go.RowKit
theorem exec_build {P : Program} {o : Oper} {a : Act} (t : TypeId) (parts : Array (Nat × Operand)) (ho : o.op = .build t parts) (cs : Array Value)
    (hb : P.built t (parts.map fun (i, x) => (i, a.eval x)).toList = some cs) (w : World) : (execOp a.eval o).run P w = .ok (.value (.agg cs)) w := by
  unfold execOp
  simp only [ho, Sem.run_bind, run_build w t _ cs hb, Result.andThen_ok, Sem.run_pure]
/-- A region that leaves all as it was in V. -/
def VS (V Y : World) : Prop := Below V.heap.size V Y
theorem VS.keep {V Y Z : World} (h : VS V Y) (hd : Below Y.heap.size Y Z) : VS V Z := Below.trans h (hd.mono h.size)
theorem VS.begin (V : World) : VS V V.drew := ⟨rfl, rfl, rfl, Nat.le_refl _, fun _ _ => rfl⟩
theorem VS.below0 {w V Y : World} (h : VS V Y) (hV : Below w.heap.size w V) : Below w.heap.size w Y := hV.trans (Below.mono h hV.size)
theorem eq_items67 (f : Nat → Nat) (d : Nat) (w : World) : ∀ is : List Nat, (∀ i ∈ is, i < 67) → (Op.eqItems (d + 1) 3 1 (vec 67 (ints f)) (vec 67 (ints f)) is).run Tryd.prog w = .ok true w
  | [], _ => by simp [Op.eqItems]
  | i :: is, h => by
    have ih := eq_items67 f d w is (fun j hj => h j (by simp [hj]))
    have hv := vec_at 67 (ints f) i (h i (by simp))
    have hp : (Go.part 3 (vec 67 (ints f)) (i * 1)).run Tryd.prog w = .ok (ints f i) w := by
      simp [Go.part, go_sem, Tryd.isAgg3, Tryd.sizeOf3, hv]
    have he : (Op.equalIn (d + 1) 3 (ints f i) (ints f i)).run Tryd.prog w = .ok true w := by
      have := run_equalIn_int (P := Tryd.prog) w d 3 .i64 .i64 (f i : Int) (f i : Int) Tryd.underlying3
      rw [beq_self_eq_true] at this
      exact this
    simp only [Op.eqItems, Sem.run_bind, hp, Result.andThen_ok, he]
    exact ih
set_option maxRecDepth 100000 in
theorem eql67 (f : Nat → Nat) (w : World) : (binOp .eql 32 (.agg (vec 67 (ints f))) (.agg (vec 67 (ints f)))).run Tryd.prog w = .ok (.bool true) w := by
  rw [run_eql_struct]
  obtain ⟨i, hi, hs⟩ : ∃ i, Tryd.prog.info? 3 = some i ∧ i.size = 1 := by
    have h : (Tryd.prog.info? 3).map (·.size) = some 1 := by kernel_rfl
    cases hq : Tryd.prog.info? 3 with
    | none => simp [hq] at h
    | some i => exact ⟨i, rfl, by simpa [hq] using h⟩
  have := run_equalIn_array (P := Tryd.prog) w 9999 (vec 67 (ints f)) (vec 67 (ints f)) Tryd.underlying32 hi
  have hc : Tryd.prog.cellsOf 3 = 1 := by kernel_rfl
  rw [hc, eq_items67 f 9998 w (List.range 67) (fun i hi => List.mem_range.1 hi)] at this
  rw [this]; rfl
theorem eqg67 (op : BinOp) (x y : Operand) (f : Nat → Nat) (w : World) : (eqGuard op 32 x y (.agg (vec 67 (ints f))) (.agg (vec 67 (ints f)))).run Tryd.prog w = .ok () w :=
  run_eqGuard_agg w op 32 x y _ _ (by kernel_rfl)
theorem exec_eql67 {o : Oper} {a : Act} (x y : Operand) (t : TypeId) (ho : o.op = .binOp .eql 32 x y t) (f : Nat → Nat) (hx : a.eval x = .agg (vec 67 (ints f))) (hy : a.eval y = .agg (vec 67 (ints f))) (w : World) :
    (execOp a.eval o).run Tryd.prog w = .ok (.value (.bool true)) w := by
  unfold execOp
  simp only [ho, hx, hy, Sem.run_bind, Sem.run_pure, eqg67, eql67, Result.andThen_ok]
end Go.Proofs.YtepgndgelfkcnaaDoor
