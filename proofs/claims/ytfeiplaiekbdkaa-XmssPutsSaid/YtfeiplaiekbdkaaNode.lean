/- A node: 32 bytes by value. -/
import Derived.Test.YtfeiplaiekbdkaaChecked
import Derived.Test.YtfeiplaiekbdkaaVec
import Derived.DeepKeys
import Derived.Laws.StructEq
import Derived.KernelRfl
namespace Go.Proofs.Ytfeiplaiekbdkaa
open Go.RowKit

def zb : Nat → UInt8 := fun _ => 0
theorem info26 : (Try.prog.info? 29).map (·.size) = some 32 := by kernel_rfl
theorem zeroV26 (w : World) : (zeroValue 29).run Try.prog w = .ok (.agg (vec 32 (bys zb))) w :=
  (zero_of_info (P := Try.prog) (t := 29) (v := .agg (vec 32 (bys zb))) (n := 32) (by kernel_rfl)).1 w
theorem arr_at (g c : Nat) (hc : 32 ≤ c) (w : World) : (Instr.arrayAt 29 (.slice (some ⟨g, 0, none⟩) 32 c)).run Try.prog w = .ok (.pointer (some ⟨g, 0, none⟩)) w := by
  have _ := hc
  simp [Instr.arrayAt, run_underlying Try.underlying29]
theorem eq_items32 (f : Nat → UInt8) (d : Nat) (w : World) : ∀ is : List Nat, (∀ i ∈ is, i < 32) → (Op.eqItems (d + 1) 5 1 (vec 32 (bys f)) (vec 32 (bys f)) is).run Try.prog w = .ok true w
  | [], _ => by simp [Op.eqItems]
  | i :: is, h => by
    have ih := eq_items32 f d w is (fun j hj => h j (by simp [hj]))
    have hv := vec_at 32 (bys f) i (h i (by simp))
    have hp : (Go.part 5 (vec 32 (bys f)) (i * 1)).run Try.prog w = .ok (bys f i) w := by
      simp [Go.part, go_sem, Try.isAgg5, Try.sizeOf5, hv]
    have he : (Op.equalIn (d + 1) 5 (bys f i) (bys f i)).run Try.prog w = .ok true w := by
      have := run_equalIn_int (P := Try.prog) w d 5 .u8 .u8 ((f i).toNat : Int) ((f i).toNat : Int) Try.underlying5
      rw [beq_self_eq_true] at this
      exact this
    simp only [Op.eqItems, Sem.run_bind, hp, Result.andThen_ok, he]
    exact ih
theorem eql32 (f : Nat → UInt8) (w : World) : (binOp .eql 29 (.agg (vec 32 (bys f))) (.agg (vec 32 (bys f)))).run Try.prog w = .ok (.bool true) w := by
  rw [run_eql_struct]
  obtain ⟨i, hi, hs⟩ : ∃ i, Try.prog.info? 5 = some i ∧ i.size = 1 := by
    have h : (Try.prog.info? 5).map (·.size) = some 1 := by kernel_rfl
    cases hq : Try.prog.info? 5 with
    | none => simp [hq] at h
    | some i => exact ⟨i, rfl, by simpa [hq] using h⟩
  have := run_equalIn_array (P := Try.prog) w 9999 (vec 32 (bys f)) (vec 32 (bys f)) Try.underlying29 hi
  have hc : Try.prog.cellsOf 5 = 1 := by kernel_rfl
  rw [hc, eq_items32 f 9998 w (List.range 32) (fun i hi => List.mem_range.1 hi)] at this
  rw [this]; rfl
theorem eqg32 (op : BinOp) (x y : Operand) (f : Nat → UInt8) (w : World) : (eqGuard op 29 x y (.agg (vec 32 (bys f))) (.agg (vec 32 (bys f)))).run Try.prog w = .ok () w :=
  run_eqGuard_agg w op 29 x y _ _ (by kernel_rfl)
theorem exec_eql32 {o : Oper} {a : Act} (x y : Operand) (t : TypeId) (ho : o.op = .binOp .eql 29 x y t) (f : Nat → UInt8) (hx : a.eval x = .agg (vec 32 (bys f))) (hy : a.eval y = .agg (vec 32 (bys f))) (w : World) :
    (execOp a.eval o).run Try.prog w = .ok (.value (.bool true)) w := by
  unfold execOp
  simp only [ho, hx, hy, Sem.run_bind, Sem.run_pure, eqg32, eql32, Result.andThen_ok]
/-- Two nodes, like or unlike. -/
def nodeEq (f g : Nat → UInt8) : Bool := (List.range 32).all fun i => f i == g i
theorem nodeEq_iff (f g : Nat → UInt8) : nodeEq f g = true ↔ ∀ i, i < 32 → f i = g i := by simp [nodeEq]
theorem eq_items_two (f g : Nat → UInt8) (d : Nat) (w : World) : ∀ is : List Nat, (∀ i ∈ is, i < 32) → (Op.eqItems (d + 1) 5 1 (vec 32 (bys f)) (vec 32 (bys g)) is).run Try.prog w = .ok (is.all fun i => f i == g i) w
  | [], _ => by simp [Op.eqItems]
  | i :: is, h => by
    have ih := eq_items_two f g d w is (fun j hj => h j (by simp [hj]))
    have hv := vec_at 32 (bys f) i (h i (by simp))
    have hu := vec_at 32 (bys g) i (h i (by simp))
    have hp : (Go.part 5 (vec 32 (bys f)) (i * 1)).run Try.prog w = .ok (bys f i) w := by
      simp [Go.part, go_sem, Try.isAgg5, Try.sizeOf5, hv]
    have hq : (Go.part 5 (vec 32 (bys g)) (i * 1)).run Try.prog w = .ok (bys g i) w := by
      simp [Go.part, go_sem, Try.isAgg5, Try.sizeOf5, hu]
    have he : (Op.equalIn (d + 1) 5 (bys f i) (bys g i)).run Try.prog w = .ok (f i == g i) w := by
      have := run_equalIn_int (P := Try.prog) w d 5 .u8 .u8 ((f i).toNat : Int) ((g i).toNat : Int) Try.underlying5
      have e : (((f i).toNat : Int) == ((g i).toNat : Int)) = (f i == g i) := by
        by_cases hx : f i = g i
        · simp [hx]
        · have hn : ¬ (f i).toNat = (g i).toNat := fun hh => hx (UInt8.toNat_inj.1 hh)
          have h1 : ((f i) == (g i)) = false := by simp [hx]
          have h2 : (((f i).toNat : Int) == ((g i).toNat : Int)) = false := by simp; omega
          rw [h1, h2]
      rw [e] at this
      exact this
    simp only [Op.eqItems, Sem.run_bind, hp, hq, Result.andThen_ok, he, List.all_cons]
    cases hx : (f i == g i)
    · simp
    · simp only [Bool.true_and]; exact ih
theorem equalIn_two (f g : Nat → UInt8) (w : World) : (Op.equalIn 10000 29 (.agg (vec 32 (bys f))) (.agg (vec 32 (bys g)))).run Try.prog w = .ok (nodeEq f g) w := by
  obtain ⟨i, hi, hs⟩ : ∃ i, Try.prog.info? 5 = some i ∧ i.size = 1 := by
    have h : (Try.prog.info? 5).map (·.size) = some 1 := by kernel_rfl
    cases hq : Try.prog.info? 5 with
    | none => simp [hq] at h
    | some i => exact ⟨i, rfl, by simpa [hq] using h⟩
  have := run_equalIn_array (P := Try.prog) w 9999 (vec 32 (bys f)) (vec 32 (bys g)) Try.underlying29 hi
  have hc : Try.prog.cellsOf 5 = 1 := by kernel_rfl
  rw [hc, eq_items_two f g 9998 w (List.range 32) (fun i hi => List.mem_range.1 hi)] at this
  exact this
theorem eql_two (f g : Nat → UInt8) (w : World) : (binOp .eql 29 (.agg (vec 32 (bys f))) (.agg (vec 32 (bys g)))).run Try.prog w = .ok (.bool (nodeEq f g)) w := by
  rw [run_eql_struct, equalIn_two]; rfl
theorem neq_two (f g : Nat → UInt8) (w : World) : (binOp .neq 29 (.agg (vec 32 (bys f))) (.agg (vec 32 (bys g)))).run Try.prog w = .ok (.bool (!nodeEq f g)) w := by
  rw [run_neq_struct, equalIn_two]; rfl
theorem eqg_two (op : BinOp) (x y : Operand) (f g : Nat → UInt8) (w : World) : (eqGuard op 29 x y (.agg (vec 32 (bys f))) (.agg (vec 32 (bys g)))).run Try.prog w = .ok () w :=
  run_eqGuard_agg w op 29 x y _ _ (by kernel_rfl)
theorem exec_eql_two {o : Oper} {a : Act} (x y : Operand) (t : TypeId) (ho : o.op = .binOp .eql 29 x y t) (f g : Nat → UInt8) (hx : a.eval x = .agg (vec 32 (bys f))) (hy : a.eval y = .agg (vec 32 (bys g))) (w : World) :
    (execOp a.eval o).run Try.prog w = .ok (.value (.bool (nodeEq f g))) w := by
  unfold execOp
  simp only [ho, hx, hy, Sem.run_bind, Sem.run_pure, eqg_two, eql_two, Result.andThen_ok]
theorem exec_neq_two {o : Oper} {a : Act} (x y : Operand) (t : TypeId) (ho : o.op = .binOp .neq 29 x y t) (f g : Nat → UInt8) (hx : a.eval x = .agg (vec 32 (bys f))) (hy : a.eval y = .agg (vec 32 (bys g))) (w : World) :
    (execOp a.eval o).run Try.prog w = .ok (.value (.bool (!nodeEq f g))) w := by
  unfold execOp
  simp only [ho, hx, hy, Sem.run_bind, Sem.run_pure, eqg_two, neq_two, Result.andThen_ok]
end Go.Proofs.Ytfeiplaiekbdkaa
