/- RoomMaps, closed. -/
import Derived.Test.YtgnihceefpijiaaAw16
import Derived.Test.YtgnihceefpijiaaMx
namespace Go.Proofs.Ytgnihceefpijiaa
open Go.RowKit

theorem fin_maps (x : Cf) (a c : Value) (g : Int) (w : World) (hx : CfR w w.heap.size x a c) (hb : CfB x) (_ : -9223372036854775808 ≤ g) (_ : g ≤ 9223372036854775807) :
    Calls Try.prog 3 #[cfVal x a c, .int .i64 g] w fun e w' => e = .returned (.bool true) ∧ Below w.heap.size w w' :=
  roomMaps_walk (awake16_any codeMaps) codeMaps x a c g w hx hb
end Go.Proofs.Ytgnihceefpijiaa
