/- Counts, of six kinds. -/
import Derived.Test.YtgnihceefpijiaaMc
namespace Go.Proofs.Ytgnihceefpijiaa
open Go.RowKit
section
variable {w : World} {g c at_ q : Nat} {A : Option Addr} {b : By}
end
end Go.Proofs.Ytgnihceefpijiaa
