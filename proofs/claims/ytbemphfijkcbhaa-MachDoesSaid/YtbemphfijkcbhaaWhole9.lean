/- mach.whole, mach.bases. -/
import Derived.Test.YtbemphfijkcbhaaPg
import Derived.Test.YtbemphfijkcbhaaWb
import Derived.Test.YtbemphfijkcbhaaDown
namespace Go.Proofs.Ytbemphfijkcbhaa
open Go.RowKit

theorem infoSp : (Try.prog.info? 24).map (·.size) = some 2 := by kernel_rfl
def boxSp (a b : Nat) : Array Value := #[.int .u64 (a : Int), .int .u64 (b : Int)]
set_option maxRecDepth 100000 in
theorem whole_any (x : Nat) (w : World) :
    Calls Try.prog 77 #[.int .u64 (x : Int)] w fun e w' => e = .returned (.agg #[.int .u64 (x : Int), .int .u64 4096]) ∧ Below w.heap.size w w' := by
  go_enter Try.func77, Try.ntmps77
  go_wp2
  refine bodyPost_ret (results_cell1 rfl _ _ _ rfl (Blk.load (Blk.new _ _ _ rfl) Try.underlying24 rfl infoSp)) rfl ⟨rfl, ?_⟩
  exact (Below.refl _ _).alloc (Nat.le_refl _) _
theorem bases_any (a b : Nat) (w : World) :
    Calls Try.prog 65 #[.agg #[.int .u64 (a : Int), .int .u64 (b : Int)]] w fun e w' => e = .returned (.func (.func 74) #[] #[.pointer (some ⟨w.heap.size, 0, none⟩)]) ∧ w' = w.alloc (.cells (boxSp a b) 24) := by
  go_enter Try.func65, Try.ntmps65
  go_wp2
  go_ret
  exact ⟨rfl, rfl⟩
end Go.Proofs.Ytbemphfijkcbhaa
