/- Addresses by value: the small functions of adrs. -/
import Derived.Test.YtfeiplaiekbdkaaDoorWa
import Derived.Test.YtfeiplaiekbdkaaDoorWc
namespace Go.Proofs.YtfeiplaiekbdkaaDoor
open Go.RowKit

abbrev adA (l t k a b c m : Int) : Array Value := #[.int .u32 l, .int .u64 t, .int .u32 k, .int .u32 a, .int .u32 b, .int .u32 c, .int .u32 m]
abbrev adV (l t k a b c m : Int) : Value := .agg (adA l t k a b c m)
abbrev coV (l t k m : Int) : Value := .agg #[.int .u32 l, .int .u64 t, .int .u32 k, .int .u32 m]
theorem infoAd : (Tryd.prog.info? 83).map (·.size) = some 7 := by kernel_rfl
theorem infoCo : (Tryd.prog.info? 118).map (·.size) = some 4 := by kernel_rfl
set_option maxHeartbeats 400000 in
theorem commonOf_any (l t k a b c m : Int) (w : World) :
    Calls Tryd.prog 80 #[adV l t k a b c m] w fun e w' => e = .returned (coV l t k m) ∧ Below w.heap.size w w' := by
  go_enter Tryd.func80, Tryd.ntmps80
  go_wp2
  refine bodyPost_ret (results_cell1 rfl _ _ _ rfl (Blk.load (Blk.new _ _ _ (by simp)) Tryd.underlying118 rfl infoCo)) rfl ⟨rfl, ?_⟩
  exact ((Below.refl _ _).alloc (Nat.le_refl _) _).alloc (by simp) _

set_option maxHeartbeats 400000 in
theorem masked_any (l t k a b c m n : Int) (w : World) :
    Calls Tryd.prog 67 #[adV l t k a b c m, .int .u32 n] w fun e w' => e = .returned (adV l t k a b c n) ∧ Below w.heap.size w w' := by
  go_enter Tryd.func67, Tryd.ntmps67
  go_wp2
  refine bodyPost_ret (results_cell1 rfl _ _ _ rfl (Blk.load (Blk.new _ _ _ (by simp)) Tryd.underlying83 rfl infoAd)) rfl ⟨rfl, ?_⟩
  exact ((Below.refl _ _).alloc (Nat.le_refl _) _).alloc (by simp) _
end Go.Proofs.YtfeiplaiekbdkaaDoor
