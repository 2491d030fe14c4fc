/- parser.guest. -/
import Derived.Test.YtgnihceefpijiaaGu
import Derived.Deep.CutRange
namespace Go.Proofs.Ytgnihceefpijiaa
open Go.RowKit
attribute [local go_sem ↓ high] zeroGu
/-- A guest was read. -/
def guestV (base : Nat) (w : World) (x : Gs) (v : Value) : Prop := ∃ y : GV, y.g = x ∧ x.key.length = 68 ∧ v = .agg (vec 79 (guestE y)) ∧ GOwn w base y
end Go.Proofs.Ytgnihceefpijiaa
