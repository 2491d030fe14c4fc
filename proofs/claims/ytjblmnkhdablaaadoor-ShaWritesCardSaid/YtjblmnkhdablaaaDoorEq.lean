/- An array is equal to itself. -/
import Derived.Test.YtjblmnkhdablaaaDoorAbc
import Derived.DeepKeys
import Derived.Laws.StructEq
namespace Go.Proofs.YtjblmnkhdablaaaDoor
open Go.RowKit
theorem eq_items8 (f : Nat → W32) (d : Nat) (w : World) : ∀ is : List Nat, (∀ i ∈ is, i < 8) → (Op.eqItems (d + 1) 31 1 (vec 8 (wds f)) (vec 8 (wds f)) is).run Tryd.prog w = .ok true w
  | [], _ => by simp [Op.eqItems]
  | i :: is, h => by
    have ih := eq_items8 f d w is (fun j hj => h j (by simp [hj]))
    have hv := vec_at 8 (wds f) i (h i (by simp))
    have hp : (Go.part 31 (vec 8 (wds f)) (i * 1)).run Tryd.prog w = .ok (wds f i) w := by
      simp [Go.part, go_sem, Tryd.isAgg31, Tryd.sizeOf31, hv]
    have he : (Op.equalIn (d + 1) 31 (wds f i) (wds f i)).run Tryd.prog w = .ok true w := by
      have := run_equalIn_int (P := Tryd.prog) w d 31 .u32 .u32 (num (f i)) (num (f i)) Tryd.underlying31
      rw [beq_self_eq_true] at this
      exact this
    simp only [Op.eqItems, Sem.run_bind, hp, Result.andThen_ok, he]
    exact ih
theorem eql8 (f : Nat → W32) (w : World) : (binOp .eql 34 (.agg (vec 8 (wds f))) (.agg (vec 8 (wds f)))).run Tryd.prog w = .ok (.bool true) w := by
  rw [run_eql_struct]
  obtain ⟨i, hi, hs⟩ : ∃ i, Tryd.prog.info? 31 = some i ∧ i.size = 1 := by
    have h : (Tryd.prog.info? 31).map (·.size) = some 1 := by kernel_rfl
    cases hq : Tryd.prog.info? 31 with
    | none => simp [hq] at h
    | some i => exact ⟨i, rfl, by simpa [hq] using h⟩
  have := run_equalIn_array (P := Tryd.prog) w 9999 (vec 8 (wds f)) (vec 8 (wds f)) Tryd.underlying34 hi
  have hc : Tryd.prog.cellsOf 31 = 1 := by kernel_rfl
  rw [hc, eq_items8 f 9998 w (List.range 8) (fun i hi => List.mem_range.1 hi)] at this
  rw [this]; rfl
theorem eqg8 (op : BinOp) (x y : Operand) (f : Nat → W32) (w : World) : (eqGuard op 34 x y (.agg (vec 8 (wds f))) (.agg (vec 8 (wds f)))).run Tryd.prog w = .ok () w :=
  run_eqGuard_agg w op 34 x y _ _ (by kernel_rfl)
theorem eq_items32 (f : Nat → UInt8) (d : Nat) (w : World) : ∀ is : List Nat, (∀ i ∈ is, i < 32) → (Op.eqItems (d + 1) 5 1 (vec 32 (bys f)) (vec 32 (bys f)) is).run Tryd.prog w = .ok true w
  | [], _ => by simp [Op.eqItems]
  | i :: is, h => by
    have ih := eq_items32 f d w is (fun j hj => h j (by simp [hj]))
    have hv := vec_at 32 (bys f) i (h i (by simp))
    have hp : (Go.part 5 (vec 32 (bys f)) (i * 1)).run Tryd.prog w = .ok (bys f i) w := by
      simp [Go.part, go_sem, Tryd.isAgg5, Tryd.sizeOf5, hv]
    have he : (Op.equalIn (d + 1) 5 (bys f i) (bys f i)).run Tryd.prog w = .ok true w := by
      have := run_equalIn_int (P := Tryd.prog) w d 5 .u8 .u8 ((f i).toNat : Int) ((f i).toNat : Int) Tryd.underlying5
      rw [beq_self_eq_true] at this
      exact this
    simp only [Op.eqItems, Sem.run_bind, hp, Result.andThen_ok, he]
    exact ih
theorem eql32 (f : Nat → UInt8) (w : World) : (binOp .eql 26 (.agg (vec 32 (bys f))) (.agg (vec 32 (bys f)))).run Tryd.prog w = .ok (.bool true) w := by
  rw [run_eql_struct]
  obtain ⟨i, hi, hs⟩ : ∃ i, Tryd.prog.info? 5 = some i ∧ i.size = 1 := by
    have h : (Tryd.prog.info? 5).map (·.size) = some 1 := by kernel_rfl
    cases hq : Tryd.prog.info? 5 with
    | none => simp [hq] at h
    | some i => exact ⟨i, rfl, by simpa [hq] using h⟩
  have := run_equalIn_array (P := Tryd.prog) w 9999 (vec 32 (bys f)) (vec 32 (bys f)) Tryd.underlying26 hi
  have hc : Tryd.prog.cellsOf 5 = 1 := by kernel_rfl
  rw [hc, eq_items32 f 9998 w (List.range 32) (fun i hi => List.mem_range.1 hi)] at this
  rw [this]; rfl
theorem eqg32 (op : BinOp) (x y : Operand) (f : Nat → UInt8) (w : World) : (eqGuard op 26 x y (.agg (vec 32 (bys f))) (.agg (vec 32 (bys f)))).run Tryd.prog w = .ok () w :=
  run_eqGuard_agg w op 26 x y _ _ (by kernel_rfl)
theorem exec_eql8 {o : Oper} {a : Act} (x y : Operand) (t : TypeId) (ho : o.op = .binOp .eql 34 x y t) (f : Nat → W32) (hx : a.eval x = .agg (vec 8 (wds f))) (hy : a.eval y = .agg (vec 8 (wds f))) (w : World) :
    (execOp a.eval o).run Tryd.prog w = .ok (.value (.bool true)) w := by
  unfold execOp
  simp only [ho, hx, hy, Sem.run_bind, Sem.run_pure, eqg8, eql8, Result.andThen_ok]
theorem exec_eql32 {o : Oper} {a : Act} (x y : Operand) (t : TypeId) (ho : o.op = .binOp .eql 26 x y t) (f : Nat → UInt8) (hx : a.eval x = .agg (vec 32 (bys f))) (hy : a.eval y = .agg (vec 32 (bys f))) (w : World) :
    (execOp a.eval o).run Tryd.prog w = .ok (.value (.bool true)) w := by
  unfold execOp
  simp only [ho, hx, hy, Sem.run_bind, Sem.run_pure, eqg32, eql32, Result.andThen_ok]
end Go.Proofs.YtjblmnkhdablaaaDoor
