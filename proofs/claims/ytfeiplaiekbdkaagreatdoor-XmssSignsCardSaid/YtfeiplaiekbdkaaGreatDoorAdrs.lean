/- Addresses by value: the small functions of adrs. -/
import Derived.Test.YtfeiplaiekbdkaaGreatDoorWa
import Derived.Test.YtfeiplaiekbdkaaGreatDoorWc
namespace Go.Proofs.YtfeiplaiekbdkaaGreatDoor
open Go.RowKit

abbrev adA (l t k a b c m : Int) : Array Value := #[.int .u32 l, .int .u64 t, .int .u32 k, .int .u32 a, .int .u32 b, .int .u32 c, .int .u32 m]
abbrev adV (l t k a b c m : Int) : Value := .agg (adA l t k a b c m)
abbrev coV (l t k m : Int) : Value := .agg #[.int .u32 l, .int .u64 t, .int .u32 k, .int .u32 m]
theorem infoAd : (Tryz.prog.info? 86).map (·.size) = some 7 := by kernel_rfl
theorem infoCo : (Tryz.prog.info? 136).map (·.size) = some 4 := by kernel_rfl
set_option maxHeartbeats 400000 in
theorem commonOf_any (l t k a b c m : Int) (w : World) :
    Calls Tryz.prog 127 #[adV l t k a b c m] w fun e w' => e = .returned (coV l t k m) ∧ Below w.heap.size w w' := by
  go_enter Tryz.func127, Tryz.ntmps127
  go_wp2
  refine bodyPost_ret (results_cell1 rfl _ _ _ rfl (Blk.load (Blk.new _ _ _ (by simp)) Tryz.underlying136 rfl infoCo)) rfl ⟨rfl, ?_⟩
  exact ((Below.refl _ _).alloc (Nat.le_refl _) _).alloc (by simp) _

set_option maxHeartbeats 400000 in
theorem masked_any (l t k a b c m n : Int) (w : World) :
    Calls Tryz.prog 110 #[adV l t k a b c m, .int .u32 n] w fun e w' => e = .returned (adV l t k a b c n) ∧ Below w.heap.size w w' := by
  go_enter Tryz.func110, Tryz.ntmps110
  go_wp2
  refine bodyPost_ret (results_cell1 rfl _ _ _ rfl (Blk.load (Blk.new _ _ _ (by simp)) Tryz.underlying86 rfl infoAd)) rfl ⟨rfl, ?_⟩
  exact ((Below.refl _ _).alloc (Nat.le_refl _) _).alloc (by simp) _
end Go.Proofs.YtfeiplaiekbdkaaGreatDoor
