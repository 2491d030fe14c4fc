/- Addresses by value: the small functions of adrs. -/
import Derived.Test.YtaopggcfaoabaaaNode
import Derived.Test.YtaopggcfaoabaaaPut
namespace Go.Proofs.Ytaopggcfaoabaaa
open Go.RowKit

abbrev adA (l t k a b c m : Int) : Array Value := #[.int .u32 l, .int .u64 t, .int .u32 k, .int .u32 a, .int .u32 b, .int .u32 c, .int .u32 m]
abbrev adV (l t k a b c m : Int) : Value := .agg (adA l t k a b c m)
abbrev coV (l t k m : Int) : Value := .agg #[.int .u32 l, .int .u64 t, .int .u32 k, .int .u32 m]
theorem infoAd : (Try.prog.info? 25).map (·.size) = some 7 := by kernel_rfl
theorem infoCo : (Try.prog.info? 39).map (·.size) = some 4 := by kernel_rfl
set_option maxHeartbeats 400000 in
theorem commonOf_any (l t k a b c m : Int) (w : World) :
    Calls Try.prog 15 #[adV l t k a b c m] w fun e w' => e = .returned (coV l t k m) ∧ Below w.heap.size w w' := by
  go_enter Try.func15, Try.ntmps15
  go_wp2
  refine bodyPost_ret (results_cell1 rfl _ _ _ rfl (Blk.load (Blk.new _ _ _ (by simp)) Try.underlying39 rfl infoCo)) rfl ⟨rfl, ?_⟩
  exact ((Below.refl _ _).alloc (Nat.le_refl _) _).alloc (by simp) _

set_option maxHeartbeats 400000 in
theorem with_any (l t k m a b c : Int) (w : World) :
    Calls Try.prog 24 #[coV l t k m, .int .u32 a, .int .u32 b, .int .u32 c] w fun e w' => e = .returned (adV l t k a b c m) ∧ Below w.heap.size w w' := by
  go_enter Try.func24, Try.ntmps24
  go_wp2
  refine bodyPost_ret (results_cell1 rfl _ _ _ rfl (Blk.load (Blk.new _ _ _ (by simp)) Try.underlying25 rfl infoAd)) rfl ⟨rfl, ?_⟩
  exact ((Below.refl _ _).alloc (Nat.le_refl _) _).alloc (by simp) _

set_option maxHeartbeats 400000 in
theorem masked_any (l t k a b c m n : Int) (w : World) :
    Calls Try.prog 11 #[adV l t k a b c m, .int .u32 n] w fun e w' => e = .returned (adV l t k a b c n) ∧ Below w.heap.size w w' := by
  go_enter Try.func11, Try.ntmps11
  go_wp2
  refine bodyPost_ret (results_cell1 rfl _ _ _ rfl (Blk.load (Blk.new _ _ _ (by simp)) Try.underlying25 rfl infoAd)) rfl ⟨rfl, ?_⟩
  exact ((Below.refl _ _).alloc (Nat.le_refl _) _).alloc (by simp) _

set_option maxHeartbeats 400000 in
theorem treeAdrs_any (l t k m a b : Int) (w : World) :
    Calls Try.prog 19 #[.agg #[.int .u32 l, .int .u64 t, .int .u32 k, .int .u32 m, .int .u32 a, .int .u32 b]] w fun e w' => e = .returned (adV l t k 0 a b m) ∧ Below w.heap.size w w' := by
  go_enter Try.func19, Try.ntmps19
  go_wp2_with (first
    | (go_at_call 24; refine (with_any l t k m 0 a b _).mono ?_; rintro e w1 ⟨rfl, hd⟩; have HD := Lib.hid hd; clear hd)
    | (refine wl_store rfl 25 _ _ rfl _ rfl _ rfl (Blk.store (Blk.under (Blk.new _ _ _ (by simp)) HD.out) (adA l t k 0 a b m) rfl infoAd rfl) ?_))
  refine bodyPost_ret (results_cell1 rfl _ _ _ rfl (Blk.load (Blk.row (Blk.under (Blk.new _ _ _ (by simp)) HD.out) (adA l t k 0 a b m)) Try.underlying25 rfl infoAd)) rfl ⟨rfl, ?_⟩
  exact below_row ((((Below.refl _ _).alloc (Nat.le_refl _) _).alloc (by simp) _).trans (HD.out.mono (by simp; omega))) (by omega) _

set_option maxHeartbeats 400000 in
theorem otsAdrs_any (l t k m a b c : Int) (w : World) :
    Calls Try.prog 20 #[.agg #[.int .u32 l, .int .u64 t, .int .u32 k, .int .u32 m, .int .u32 a, .int .u32 b, .int .u32 c]] w fun e w' => e = .returned (adV l t k a b c m) ∧ Below w.heap.size w w' := by
  go_enter Try.func20, Try.ntmps20
  go_wp2_with (first
    | (go_at_call 24; refine (with_any l t k m a b c _).mono ?_; rintro e w1 ⟨rfl, hd⟩; have HD := Lib.hid hd; clear hd)
    | (refine wl_store rfl 25 _ _ rfl _ rfl _ rfl (Blk.store (Blk.under (Blk.new _ _ _ (by simp)) HD.out) (adA l t k a b c m) rfl infoAd rfl) ?_))
  refine bodyPost_ret (results_cell1 rfl _ _ _ rfl (Blk.load (Blk.row (Blk.under (Blk.new _ _ _ (by simp)) HD.out) (adA l t k a b c m)) Try.underlying25 rfl infoAd)) rfl ⟨rfl, ?_⟩
  exact below_row ((((Below.refl _ _).alloc (Nat.le_refl _) _).alloc (by simp) _).trans (HD.out.mono (by simp; omega))) (by omega) _

set_option maxHeartbeats 400000 in
theorem ltreeAdrs_any (l t k m a b c : Int) (w : World) :
    Calls Try.prog 21 #[.agg #[.int .u32 l, .int .u64 t, .int .u32 k, .int .u32 m, .int .u32 a, .int .u32 b, .int .u32 c]] w fun e w' => e = .returned (adV l t k a b c m) ∧ Below w.heap.size w w' := by
  go_enter Try.func21, Try.ntmps21
  go_wp2_with (first
    | (go_at_call 24; refine (with_any l t k m a b c _).mono ?_; rintro e w1 ⟨rfl, hd⟩; have HD := Lib.hid hd; clear hd)
    | (refine wl_store rfl 25 _ _ rfl _ rfl _ rfl (Blk.store (Blk.under (Blk.new _ _ _ (by simp)) HD.out) (adA l t k a b c m) rfl infoAd rfl) ?_))
  refine bodyPost_ret (results_cell1 rfl _ _ _ rfl (Blk.load (Blk.row (Blk.under (Blk.new _ _ _ (by simp)) HD.out) (adA l t k a b c m)) Try.underlying25 rfl infoAd)) rfl ⟨rfl, ?_⟩
  exact below_row ((((Below.refl _ _).alloc (Nat.le_refl _) _).alloc (by simp) _).trans (HD.out.mono (by simp; omega))) (by omega) _

set_option maxHeartbeats 400000 in
theorem tree_any (a b : Int) (w : World) :
    Calls Try.prog 12 #[.int .u32 a, .int .u32 b] w fun e w' => e = .returned (adV 0 0 2 0 a b 0) ∧ Below w.heap.size w w' := by
  go_enter Try.func12, Try.ntmps12
  go_wp2_with (first
    | (go_at_call 19; refine (treeAdrs_any 0 0 2 0 a b _).mono ?_; rintro e w1 ⟨rfl, hd⟩; have HD := Lib.hid hd; clear hd)
    | (refine wl_store rfl 25 _ _ rfl _ rfl _ rfl (Blk.store (Blk.under (Blk.new _ _ _ (by simp)) HD.out) (adA 0 0 2 0 a b 0) rfl infoAd rfl) ?_))
  refine bodyPost_ret (results_cell1 rfl _ _ _ rfl (Blk.load (Blk.row (Blk.under (Blk.new _ _ _ (by simp)) HD.out) (adA 0 0 2 0 a b 0)) Try.underlying25 rfl infoAd)) rfl ⟨rfl, ?_⟩
  exact below_row (((Below.refl _ _).alloc (Nat.le_refl _) _).trans (HD.out.mono (by simp))) (by omega) _

set_option maxHeartbeats 400000 in
theorem ots_any (a b c : Int) (w : World) :
    Calls Try.prog 13 #[.int .u32 a, .int .u32 b, .int .u32 c] w fun e w' => e = .returned (adV 0 0 0 a b c 0) ∧ Below w.heap.size w w' := by
  go_enter Try.func13, Try.ntmps13
  go_wp2_with (first
    | (go_at_call 20; refine (otsAdrs_any 0 0 0 0 a b c _).mono ?_; rintro e w1 ⟨rfl, hd⟩; have HD := Lib.hid hd; clear hd)
    | (refine wl_store rfl 25 _ _ rfl _ rfl _ rfl (Blk.store (Blk.under (Blk.new _ _ _ (by simp)) HD.out) (adA 0 0 0 a b c 0) rfl infoAd rfl) ?_))
  refine bodyPost_ret (results_cell1 rfl _ _ _ rfl (Blk.load (Blk.row (Blk.under (Blk.new _ _ _ (by simp)) HD.out) (adA 0 0 0 a b c 0)) Try.underlying25 rfl infoAd)) rfl ⟨rfl, ?_⟩
  exact below_row (((Below.refl _ _).alloc (Nat.le_refl _) _).trans (HD.out.mono (by simp))) (by omega) _

set_option maxHeartbeats 400000 in
theorem ltree_any (a b c : Int) (w : World) :
    Calls Try.prog 14 #[.int .u32 a, .int .u32 b, .int .u32 c] w fun e w' => e = .returned (adV 0 0 1 a b c 0) ∧ Below w.heap.size w w' := by
  go_enter Try.func14, Try.ntmps14
  go_wp2_with (first
    | (go_at_call 21; refine (ltreeAdrs_any 0 0 1 0 a b c _).mono ?_; rintro e w1 ⟨rfl, hd⟩; have HD := Lib.hid hd; clear hd)
    | (refine wl_store rfl 25 _ _ rfl _ rfl _ rfl (Blk.store (Blk.under (Blk.new _ _ _ (by simp)) HD.out) (adA 0 0 1 a b c 0) rfl infoAd rfl) ?_))
  refine bodyPost_ret (results_cell1 rfl _ _ _ rfl (Blk.load (Blk.row (Blk.under (Blk.new _ _ _ (by simp)) HD.out) (adA 0 0 1 a b c 0)) Try.underlying25 rfl infoAd)) rfl ⟨rfl, ?_⟩
  exact below_row (((Below.refl _ _).alloc (Nat.le_refl _) _).trans (HD.out.mono (by simp))) (by omega) _
end Go.Proofs.Ytaopggcfaoabaaa
