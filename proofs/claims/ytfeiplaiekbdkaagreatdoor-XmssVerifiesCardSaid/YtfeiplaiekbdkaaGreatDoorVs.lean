/- A region that leaves all as it was. -/
import Derived.Deep.Cut
import Derived.BigQuiet
import Derived.Deep.QuietTactic
import Derived.Test.YtfeiplaiekbdkaaGreatDoorWa
namespace Go.Proofs.YtfeiplaiekbdkaaGreatDoor
open Go.RowKit
theorem exec_build {P : Program} {o : Oper} {a : Act} (t : TypeId) (parts : Array (Nat × Operand)) (ho : o.op = .build t parts) (cs : Array Value)
    (hb : P.built t (parts.map fun (i, x) => (i, a.eval x)).toList = some cs) (w : World) : (execOp a.eval o).run P w = .ok (.value (.agg cs)) w := by
  unfold execOp
  simp only [ho, Sem.run_bind, run_build w t _ cs hb, Result.andThen_ok, Sem.run_pure]
/-- A region that leaves all as it was in V. -/
def VS (V Y : World) : Prop := Below V.heap.size V Y
theorem VS.keep {V Y Z : World} (h : VS V Y) (hd : Below Y.heap.size Y Z) : VS V Z := Below.trans h (hd.mono h.size)
theorem VS.begin (V : World) : VS V V.drew := ⟨rfl, rfl, rfl, Nat.le_refl _, fun _ _ => rfl⟩
theorem VS.below0 {w V Y : World} (h : VS V Y) (hV : Below w.heap.size w V) : Below w.heap.size w Y := hV.trans (Below.mono h hV.size)
end Go.Proofs.YtfeiplaiekbdkaaGreatDoor
