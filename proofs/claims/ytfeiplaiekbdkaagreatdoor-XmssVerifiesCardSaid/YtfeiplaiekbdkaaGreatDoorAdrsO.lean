/- adrs.Ots. -/
import Derived.Test.YtfeiplaiekbdkaaGreatDoorAdrsW
namespace Go.Proofs.YtfeiplaiekbdkaaGreatDoor
open Go.RowKit

set_option maxHeartbeats 400000 in
set_option maxRecDepth 100000 in
theorem otsAdrs_any (l t k m a b c : Int) (w : World) :
    Calls Tryz.prog 108 #[.agg #[.int .u32 l, .int .u64 t, .int .u32 k, .int .u32 m, .int .u32 a, .int .u32 b, .int .u32 c]] w fun e w' => e = .returned (adV l t k a b c m) ∧ Below w.heap.size w w' := by
  go_enter Tryz.func108, Tryz.ntmps108
  go_wp2_with (first
    | (go_at_call 106; refine (with_any l t k m a b c _).mono ?_; rintro e w1 ⟨rfl, hd⟩; have HD := Lib.hid hd; clear hd)
    | (refine wl_store rfl 86 _ _ rfl _ rfl _ rfl (Blk.store (Blk.under (Blk.new _ _ _ (by simp)) HD.out) (adA l t k a b c m) rfl infoAd rfl) ?_))
  refine bodyPost_ret (results_cell1 rfl _ _ _ rfl (Blk.load (Blk.row (Blk.under (Blk.new _ _ _ (by simp)) HD.out) (adA l t k a b c m)) Tryz.underlying86 rfl infoAd)) rfl ⟨rfl, ?_⟩
  exact below_row ((((Below.refl _ _).alloc (Nat.le_refl _) _).alloc (by simp) _).trans (HD.out.mono (by simp; omega))) (by omega) _

set_option maxHeartbeats 400000 in
set_option maxRecDepth 100000 in
theorem ots_any (a b c : Int) (w : World) :
    Calls Tryz.prog 92 #[.int .u32 a, .int .u32 b, .int .u32 c] w fun e w' => e = .returned (adV 0 0 0 a b c 0) ∧ Below w.heap.size w w' := by
  go_enter Tryz.func92, Tryz.ntmps92
  go_wp2_with (first
    | (go_at_call 108; refine (otsAdrs_any 0 0 0 0 a b c _).mono ?_; rintro e w1 ⟨rfl, hd⟩; have HD := Lib.hid hd; clear hd)
    | (refine wl_store rfl 86 _ _ rfl _ rfl _ rfl (Blk.store (Blk.under (Blk.new _ _ _ (by simp)) HD.out) (adA 0 0 0 a b c 0) rfl infoAd rfl) ?_))
  refine bodyPost_ret (results_cell1 rfl _ _ _ rfl (Blk.load (Blk.row (Blk.under (Blk.new _ _ _ (by simp)) HD.out) (adA 0 0 0 a b c 0)) Tryz.underlying86 rfl infoAd)) rfl ⟨rfl, ?_⟩
  exact below_row (((Below.refl _ _).alloc (Nat.le_refl _) _).trans (HD.out.mono (by simp))) (by omega) _
end Go.Proofs.YtfeiplaiekbdkaaGreatDoor
