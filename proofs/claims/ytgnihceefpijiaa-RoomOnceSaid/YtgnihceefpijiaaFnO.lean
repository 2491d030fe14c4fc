/- RoomOnce, closed. -/
import Derived.Test.YtgnihceefpijiaaAw16
import Derived.Test.YtgnihceefpijiaaMx
import Derived.Test.YtgnihceefpijiaaLz16
namespace Go.Proofs.Ytgnihceefpijiaa
open Go.RowKit

theorem fin_once (x : Cf) (a c : Value) (g : Int) (p : Nat) (w : World) (hx : CfR w w.heap.size x a c) (hb : CfB x) (_ : -9223372036854775808 ≤ g) (_ : g ≤ 9223372036854775807) (hp : p < 18446744073709551616) :
    Calls Try.prog 6 #[cfVal x a c, .int .i64 g, .int .u64 (p : Int)] w fun e w' => e = .returned (.bool true) ∧ Below w.heap.size w w' :=
  roomOnce_walk (awake16_any codeMaps) codeMaps x a c g p hp w hx hb
end Go.Proofs.Ytgnihceefpijiaa
