/- RoomAt, closed. -/
import Derived.Test.YtgnihceefpijiaaAw16
import Derived.Test.YtgnihceefpijiaaMx
import Derived.Test.YtgnihceefpijiaaCat
import Derived.Test.YtgnihceefpijiaaWh
namespace Go.Proofs.Ytgnihceefpijiaa
open Go.RowKit

theorem fin_at (l : List Mp) (A : Option Addr) (c p : Nat) (w : World) (hl : l.length ≤ 9223372036854775807) (hr : RowE 5 mpE w w.heap.size A l) (hb : ∀ x ∈ l, MpB x) (hp : p < 18446744073709551616) :
    Calls Try.prog 4 #[.slice A l.length c, .int .u64 (p : Int)] w fun e w' => e = .returned (.bool true) ∧ Below w.heap.size w w' :=
  roomAt_walk (awake16_any codeMaps) codeAt codeGood l A c hl p hp w hr hb
end Go.Proofs.Ytgnihceefpijiaa
