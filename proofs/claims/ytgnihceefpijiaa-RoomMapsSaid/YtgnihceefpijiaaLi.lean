/- list, of five kinds. -/
import Derived.Test.YtgnihceefpijiaaWm
import Derived.Test.YtgnihceefpijiaaMb
namespace Go.Proofs.Ytgnihceefpijiaa
open Go.RowKit
attribute [local go_sem ↓ high] builtin_appS
/-- A list of a kind was read: its elements lie in a row of the call's own. -/
def ownV {α : Type} (t : TypeId) (n : Nat) (enc : α → Nat → Value) (base : Nat) (w : World) (l : List α) (v : Value) : Prop := OwnE t n enc w base v l
section
variable {P : Program} {w w' : World} {ops : Array Oper} {rest : List Oper} {o : Oper} {a : Act} {Q : Exit → Act → World → Prop}
theorem wl_bs1 (hg : o.guard = none) {t : TypeId} {n : Nat} (y : Operand) (ho : o.op = .buildSlice t n #[(0, y)]) (v0 : Value) (hy : a.eval y = v0) {v : Value} (hr : (Instr.buildSlice t n #[(0, v0)]).run P w = .ok v w')
    (h : wpList P ops Q rest (a.put o.dst v) w') : wpList P ops Q (o :: rest) a w :=
  wpList_plain hg fun K hK => by
    unfold Oper.wp execOp
    subst hy
    simp only [ho, Sem.run_bind, List.map_toArray, List.map_cons, List.map_nil, hr, Result.andThen_ok, Sem.run_pure]
    exact hK _ _ h
end
theorem list_get0 {α : Type} (c : Cod α) (b : By) (q : Nat) : (listC c 0).get b q = .ok ([], q) := rfl
theorem info_window : (Try.prog.info? 64).map (fun i => (i.zero, i.size, i.bytes)) = some (some (.agg (vec 4 (winE zWi))), 4, 32) := by kernel_rfl
set_option maxRecDepth 100000 in
theorem build_window (x : Wi) (w : World) : (Instr.buildSlice 56 1 #[(0, .agg (vec 4 (winE x)))]).run Try.prog w = .ok (.slice (some ⟨w.heap.size, 0, none⟩) 1 1) (w.alloc (.cells (vec 4 (winE x)) 64)) := by
  obtain ⟨i0, hi, hz0, hz1, hz2⟩ := info_parts info_window
  refine run_buildSlice (P := Try.prog) w 56 64 1 _ _ i0 (.agg (vec 4 (winE zWi))) Try.underlying56 hi hz0 (by rw [hz1]; decide) (by rw [hz1]; decide) ?_
  rw [hz1]
  kernel_rfl
theorem info_device : (Try.prog.info? 72).map (fun i => (i.zero, i.size, i.bytes)) = some (some (.agg (vec 3 (devE zDe))), 3, 24) := by kernel_rfl
set_option maxRecDepth 100000 in
theorem build_device (x : De) (w : World) : (Instr.buildSlice 57 1 #[(0, .agg (vec 3 (devE x)))]).run Try.prog w = .ok (.slice (some ⟨w.heap.size, 0, none⟩) 1 1) (w.alloc (.cells (vec 3 (devE x)) 72)) := by
  obtain ⟨i0, hi, hz0, hz1, hz2⟩ := info_parts info_device
  refine run_buildSlice (P := Try.prog) w 57 72 1 _ _ i0 (.agg (vec 3 (devE zDe))) Try.underlying57 hi hz0 (by rw [hz1]; decide) (by rw [hz1]; decide) ?_
  rw [hz1]
  kernel_rfl
theorem info_irq : (Try.prog.info? 118).map (fun i => (i.zero, i.size, i.bytes)) = some (some (.agg (vec 3 (irqE zIr))), 3, 24) := by kernel_rfl
set_option maxRecDepth 100000 in
theorem build_irq (x : Ir) (w : World) : (Instr.buildSlice 58 1 #[(0, .agg (vec 3 (irqE x)))]).run Try.prog w = .ok (.slice (some ⟨w.heap.size, 0, none⟩) 1 1) (w.alloc (.cells (vec 3 (irqE x)) 118)) := by
  obtain ⟨i0, hi, hz0, hz1, hz2⟩ := info_parts info_irq
  refine run_buildSlice (P := Try.prog) w 58 118 1 _ _ i0 (.agg (vec 3 (irqE zIr))) Try.underlying58 hi hz0 (by rw [hz1]; decide) (by rw [hz1]; decide) ?_
  rw [hz1]
  kernel_rfl
theorem info_channel : (Try.prog.info? 54).map (fun i => (i.zero, i.size, i.bytes)) = some (some (.agg (vec 8 (chE zCh))), 8, 64) := by kernel_rfl
set_option maxRecDepth 100000 in
theorem build_channel (x : Ch) (w : World) : (Instr.buildSlice 24 1 #[(0, .agg (vec 8 (chE x)))]).run Try.prog w = .ok (.slice (some ⟨w.heap.size, 0, none⟩) 1 1) (w.alloc (.cells (vec 8 (chE x)) 54)) := by
  obtain ⟨i0, hi, hz0, hz1, hz2⟩ := info_parts info_channel
  refine run_buildSlice (P := Try.prog) w 24 54 1 _ _ i0 (.agg (vec 8 (chE zCh))) Try.underlying24 hi hz0 (by rw [hz1]; decide) (by rw [hz1]; decide) ?_
  rw [hz1]
  kernel_rfl
theorem info_num : (Try.prog.info? 22).map (fun i => (i.zero, i.size, i.bytes)) = some (some (.int .u32 0), 1, 4) := by kernel_rfl
set_option maxRecDepth 100000 in
theorem build_num (x : Int) (w : World) : (Instr.buildSlice 59 1 #[(0, .int .u32 x)]).run Try.prog w = .ok (.slice (some ⟨w.heap.size, 0, none⟩) 1 1) (w.alloc (.cells (vec 1 (numE x)) 22)) := by
  obtain ⟨i0, hi, hz0, hz1, hz2⟩ := info_parts info_num
  refine run_buildSlice (P := Try.prog) w 59 22 1 _ _ i0 (.int .u32 0) Try.underlying59 hi hz0 (by rw [hz1]; decide) (by rw [hz1]; decide) ?_
  rw [hz1]
  kernel_rfl
end Go.Proofs.Ytgnihceefpijiaa
