/- adrs.Tree. -/
import Derived.Test.YtfeiplaiekbdkaaGreatDoorAdrsW
namespace Go.Proofs.YtfeiplaiekbdkaaGreatDoor
open Go.RowKit

set_option maxHeartbeats 400000 in
set_option maxRecDepth 100000 in
theorem treeAdrs_any (l t k m a b : Int) (w : World) :
    Calls Tryz.prog 88 #[.agg #[.int .u32 l, .int .u64 t, .int .u32 k, .int .u32 m, .int .u32 a, .int .u32 b]] w fun e w' => e = .returned (adV l t k 0 a b m) ∧ Below w.heap.size w w' := by
  go_enter Tryz.func88, Tryz.ntmps88
  go_wp2_with (first
    | (go_at_call 106; refine (with_any l t k m 0 a b _).mono ?_; rintro e w1 ⟨rfl, hd⟩; have HD := Lib.hid hd; clear hd)
    | (refine wl_store rfl 86 _ _ rfl _ rfl _ rfl (Blk.store (Blk.under (Blk.new _ _ _ (by simp)) HD.out) (adA l t k 0 a b m) rfl infoAd rfl) ?_))
  refine bodyPost_ret (results_cell1 rfl _ _ _ rfl (Blk.load (Blk.row (Blk.under (Blk.new _ _ _ (by simp)) HD.out) (adA l t k 0 a b m)) Tryz.underlying86 rfl infoAd)) rfl ⟨rfl, ?_⟩
  exact below_row ((((Below.refl _ _).alloc (Nat.le_refl _) _).alloc (by simp) _).trans (HD.out.mono (by simp; omega))) (by omega) _

set_option maxHeartbeats 400000 in
set_option maxRecDepth 100000 in
theorem tree_any (a b : Int) (w : World) :
    Calls Tryz.prog 63 #[.int .u32 a, .int .u32 b] w fun e w' => e = .returned (adV 0 0 2 0 a b 0) ∧ Below w.heap.size w w' := by
  go_enter Tryz.func63, Tryz.ntmps63
  go_wp2_with (first
    | (go_at_call 88; refine (treeAdrs_any 0 0 2 0 a b _).mono ?_; rintro e w1 ⟨rfl, hd⟩; have HD := Lib.hid hd; clear hd)
    | (refine wl_store rfl 86 _ _ rfl _ rfl _ rfl (Blk.store (Blk.under (Blk.new _ _ _ (by simp)) HD.out) (adA 0 0 2 0 a b 0) rfl infoAd rfl) ?_))
  refine bodyPost_ret (results_cell1 rfl _ _ _ rfl (Blk.load (Blk.row (Blk.under (Blk.new _ _ _ (by simp)) HD.out) (adA 0 0 2 0 a b 0)) Tryz.underlying86 rfl infoAd)) rfl ⟨rfl, ?_⟩
  exact below_row (((Below.refl _ _).alloc (Nat.le_refl _) _).trans (HD.out.mono (by simp))) (by omega) _
end Go.Proofs.YtfeiplaiekbdkaaGreatDoor
