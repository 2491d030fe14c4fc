import Derived.Recover
import Derived.Laws.Pointers
import Derived.Laws.OwnMore
import Derived.Test.YtkaipknkjocfiaaGreatZa4
namespace Go.Proofs.YtkaipknkjocfiaaGreat
open Go.RowKit
attribute [local go_sem ↓ high] zeroCf
theorem Blk.farCell {w : World} {g : Nat} {t : TypeId} {cs : Array Value} (h : Blk w g t cs) {p : Addr} (hp : g ≠ p.block) (u : Value) : Blk (w.setCell p u) g t cs := (Below.heap_setCell w p u g hp).trans h
end Go.Proofs.YtkaipknkjocfiaaGreat
namespace Go.Proofs.YtkaipknkjocfiaaGreat
open Go.RowKit
attribute [local go_sem ↓ high] zeroCf
set_option maxRecDepth 100000 in
theorem tooLong_any (A : Option Addr) (n c : Nat) (w : World) : Calls Tryz.prog 73 #[.slice A n c] w fun e w' => e = .returned (.bool (decide (65536 < n))) ∧ w = w' := by
 by_cases h : 65536 < n
 · rw [decide_eq_true h]
   have h1 : decide ((65536 : Int) < (n : Int)) = true := decide_eq_true (by omega)
   have h2 : (65536 : Int) < (n : Int) := by omega
   clear h
   go_enter Tryz.func73, Tryz.ntmps73
   go_wp2
   go_ret
   exact ⟨by simp, rfl⟩
 · rw [decide_eq_false h]
   have h1 : decide ((65536 : Int) < (n : Int)) = false := decide_eq_false (by omega)
   have h2 : ¬ (65536 : Int) < (n : Int) := by omega
   clear h
   go_enter Tryz.func73, Tryz.ntmps73
   go_wp2
   go_ret
   exact ⟨by simp, rfl⟩
theorem results_cii {fn : Func} {p q r : Tmp} {ty t1 t2 : TypeId} {P : Program} {w : World} (h : fn.results = #[.cell p ty, .cell q t1, .cell r t2]) (tmps : Array Value) (g0 g1 g2 : Nat) (v x y : Value)
  (h0 : tmps.getD p undef = .pointer (some ⟨g0, 0, none⟩)) (h1 : tmps.getD q undef = .pointer (some ⟨g1, 0, none⟩)) (h2 : tmps.getD r undef = .pointer (some ⟨g2, 0, none⟩))
  (l0 : (loadVar ty ⟨g0, 0, none⟩).run P w = .ok v w) (l1 : (loadVar t1 ⟨g1, 0, none⟩).run P w = .ok x w) (l2 : (loadVar t2 ⟨g2, 0, none⟩).run P w = .ok y w) : (results fn tmps).run P w = .ok (.tuple #[v, x, y]) w := by
 have k0 : tmps[p]?.getD undef = .pointer (some ⟨g0, 0, none⟩) := by simpa using h0
 have k1 : tmps[q]?.getD undef = .pointer (some ⟨g1, 0, none⟩) := by simpa using h1
 have k2 : tmps[r]?.getD undef = .pointer (some ⟨g2, 0, none⟩) := by simpa using h2
 simp [results, h, k0, k1, k2, asAddr, l0, l1, l2]
structure PsAt (w V : World) (x : Nat → Value) (p e : Int) : Prop where
 a : Arr V w.heap.size 31 3 x
 p : Blk V (w.heap.size + 1) 3 #[.int .i64 p]
 e : Blk V (w.heap.size + 1 + 1) 34 #[.int .i64 e]
 b : Below w.heap.size w V
theorem PsAt.begin (w : World) : PsAt w (((w.alloc (.cells (vec 3 (cfE 0 nilV nilV)) 31)).alloc (.cells #[.int .i64 0] 3)).alloc (.cells #[.int .i64 0] 34)) (cfE 0 nilV nilV) 0 0 :=
 ⟨((Arr.new w _ _ _).alloc _).alloc _, (Blk.new _ _ _ (by simp)).alloc _, Blk.new _ _ _ (by simp), (((Below.refl _ _).alloc (Nat.le_refl _) _).alloc (by simp) _).alloc (by simp <;> omega) _⟩
section
variable {w V W : World} {x y : Nat → Value} {p e p' e' : Int}
theorem PsAt.on (h : PsAt w V x p e) (hb : Below V.heap.size V W) : PsAt w W x p e := ⟨h.a.under hb, h.p.under hb, h.e.under hb, h.b.trans (hb.mono h.b.size)⟩
theorem PsAt.loads (h : PsAt w V x p e) : (loadVar 31 ⟨w.heap.size, 0, none⟩).run Tryz.prog V = .ok (.agg (vec 3 x)) V ∧ (loadVar 3 ⟨w.heap.size + 1, 0, none⟩).run Tryz.prog V = .ok (.int .i64 p) V ∧ (loadVar 34 ⟨w.heap.size + 1 + 1, 0, none⟩).run Tryz.prog V = .ok (.int .i64 e) V := by
 have c1 := h.p.cellAt 0 (v := .int .i64 p) rfl
 have c2 := h.e.cellAt 0 (v := .int .i64 e) rfl
 refine ⟨run_load_arr h.a Tryz.underlying31 rfl infoCf, ?_, ?_⟩
 · simp [loadVar, go_sem, Tryz.isAgg3, c1]
 · simp [loadVar, go_sem, Tryz.isAgg34, c2]
end
theorem PsAt.save {w V W : World} {x : Nat → Value} {p e : Int} {g : Nat} (h : PsAt w V x p e) (hs : Save g V W) (hg : w.heap.size + 2 < g) : PsAt w W x p e :=
 ⟨h.a.save hs (by omega), h.p.save hs (by omega), h.e.save hs (by omega), h.b.trans (hs.below (by omega) h.b.size)⟩
end Go.Proofs.YtkaipknkjocfiaaGreat
namespace Go.Proofs.YtkaipknkjocfiaaGreat
open Go.RowKit
attribute [local go_sem ↓ high] zeroCf
end Go.Proofs.YtkaipknkjocfiaaGreat
