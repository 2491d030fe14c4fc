/- adrs.common with words of its own. -/
import Derived.Test.YtfeiplaiekbdkaaGreatDoorAdrs
namespace Go.Proofs.YtfeiplaiekbdkaaGreatDoor
open Go.RowKit

set_option maxHeartbeats 400000 in
theorem with_any (l t k m a b c : Int) (w : World) :
    Calls Tryz.prog 106 #[coV l t k m, .int .u32 a, .int .u32 b, .int .u32 c] w fun e w' => e = .returned (adV l t k a b c m) ∧ Below w.heap.size w w' := by
  go_enter Tryz.func106, Tryz.ntmps106
  go_wp2
  refine bodyPost_ret (results_cell1 rfl _ _ _ rfl (Blk.load (Blk.new _ _ _ (by simp)) Tryz.underlying86 rfl infoAd)) rfl ⟨rfl, ?_⟩
  exact ((Below.refl _ _).alloc (Nat.le_refl _) _).alloc (by simp) _
end Go.Proofs.YtfeiplaiekbdkaaGreatDoor
