/- Four words, records, writes as values: zeros, sizes, equality. -/
import Derived.Test.YtpeebdhbcglibaaQw
import Derived.Test.YtpeebdhbcglibaaVs9
import Derived.DeepKeys
import Derived.Laws.StructEq
import Derived.KernelRfl
namespace Go.Proofs.Ytpeebdhbcglibaa
open Go.RowKit

set_option maxRecDepth 100000 in
theorem infoQ : (Try.prog.info? 73).map (·.size) = some 4 := by kernel_rfl
set_option maxRecDepth 100000 in
theorem infoR : (Try.prog.info? 35).map (·.size) = some 2 := by kernel_rfl
set_option maxRecDepth 100000 in
theorem infoP : (Try.prog.info? 84).map (·.size) = some 2 := by kernel_rfl
def zw : Nat → W32 := fun _ => 0
set_option maxRecDepth 100000 in
theorem zeroQ (w : World) : (zeroValue 73).run Try.prog w = .ok (.agg (vec 4 (wds zw))) w :=
  (zero_of_info (P := Try.prog) (t := 73) (v := .agg (vec 4 (wds zw))) (n := 4) (by kernel_rfl)).1 w
set_option maxRecDepth 100000 in
theorem num_beq (x y : W32) : (num x == num y) = (x == y) := by
  by_cases h : x = y
  · subst h; simp
  · have h1 : (x == y) = false := by simp [h]
    have h2 : ¬ num x = num y := fun e => h (num_inj e)
    rw [h1]; simp [h2]
set_option maxRecDepth 100000 in
theorem eq_items4 (f g : Nat → W32) (d : Nat) (w : World) : ∀ is : List Nat, (∀ i ∈ is, i < 4) → (Op.eqItems (d + 1) 30 1 (vec 4 (wds f)) (vec 4 (wds g)) is).run Try.prog w = .ok (is.all fun i => f i == g i) w
  | [], _ => by simp [Op.eqItems]
  | i :: is, h => by
    have ih := eq_items4 f g d w is (fun j hj => h j (by simp [hj]))
    have hv := vec_at 4 (wds f) i (h i (by simp))
    have hu := vec_at 4 (wds g) i (h i (by simp))
    have hp : (Go.part 30 (vec 4 (wds f)) (i * 1)).run Try.prog w = .ok (wds f i) w := by
      simp [Go.part, go_sem, Try.isAgg30, Try.sizeOf30, hv]
    have hq : (Go.part 30 (vec 4 (wds g)) (i * 1)).run Try.prog w = .ok (wds g i) w := by
      simp [Go.part, go_sem, Try.isAgg30, Try.sizeOf30, hu]
    have he : (Op.equalIn (d + 1) 30 (wds f i) (wds g i)).run Try.prog w = .ok (f i == g i) w := by
      have := run_equalIn_int (P := Try.prog) w d 30 .u32 .u32 (num (f i)) (num (g i)) Try.underlying30
      rw [num_beq] at this
      exact this
    simp only [Op.eqItems, Sem.run_bind, hp, hq, Result.andThen_ok, he, List.all_cons]
    cases hx : (f i == g i)
    · simp
    · simp only [Bool.true_and]; exact ih
set_option maxRecDepth 100000 in
theorem equalIn4 (f g : Nat → W32) (w : World) : (Op.equalIn 10000 73 (.agg (vec 4 (wds f))) (.agg (vec 4 (wds g)))).run Try.prog w = .ok (quadEq f g) w := by
  obtain ⟨i, hi, hs⟩ : ∃ i, Try.prog.info? 30 = some i ∧ i.size = 1 := by
    have h : (Try.prog.info? 30).map (·.size) = some 1 := by kernel_rfl
    cases hq : Try.prog.info? 30 with
    | none => simp [hq] at h
    | some i => exact ⟨i, rfl, by simpa [hq] using h⟩
  have := run_equalIn_array (P := Try.prog) w 9999 (vec 4 (wds f)) (vec 4 (wds g)) Try.underlying73 hi
  have hc : Try.prog.cellsOf 30 = 1 := by kernel_rfl
  rw [hc, eq_items4 f g 9998 w (List.range 4) (fun i hi => List.mem_range.1 hi)] at this
  exact this
set_option maxRecDepth 100000 in
theorem eql4 (f g : Nat → W32) (w : World) : (binOp .eql 73 (.agg (vec 4 (wds f))) (.agg (vec 4 (wds g)))).run Try.prog w = .ok (.bool (quadEq f g)) w := by
  rw [run_eql_struct, equalIn4]; rfl
set_option maxRecDepth 100000 in
theorem neq4 (f g : Nat → W32) (w : World) : (binOp .neq 73 (.agg (vec 4 (wds f))) (.agg (vec 4 (wds g)))).run Try.prog w = .ok (.bool (!quadEq f g)) w := by
  rw [run_neq_struct, equalIn4]; rfl
set_option maxRecDepth 100000 in
theorem eqg4 (op : BinOp) (x y : Operand) (f g : Nat → W32) (w : World) : (eqGuard op 73 x y (.agg (vec 4 (wds f))) (.agg (vec 4 (wds g)))).run Try.prog w = .ok () w :=
  run_eqGuard_agg w op 73 x y _ _ (by kernel_rfl)
set_option maxRecDepth 100000 in
theorem exec_eql4 {o : Oper} {a : Act} (x y : Operand) (t : TypeId) (ho : o.op = .binOp .eql 73 x y t) (f g : Nat → W32) (hx : a.eval x = .agg (vec 4 (wds f))) (hy : a.eval y = .agg (vec 4 (wds g))) (w : World) {b : Bool} (hb : quadEq f g = b) :
    (execOp a.eval o).run Try.prog w = .ok (.value (.bool b)) w := by
  subst hb
  unfold execOp
  simp only [ho, hx, hy, Sem.run_bind, Sem.run_pure, eqg4, eql4, Result.andThen_ok]
set_option maxRecDepth 100000 in
theorem exec_neq4 {o : Oper} {a : Act} (x y : Operand) (t : TypeId) (ho : o.op = .binOp .neq 73 x y t) (f g : Nat → W32) (hx : a.eval x = .agg (vec 4 (wds f))) (hy : a.eval y = .agg (vec 4 (wds g))) (w : World) {b : Bool} (hb : (!quadEq f g) = b) :
    (execOp a.eval o).run Try.prog w = .ok (.value (.bool b)) w := by
  subst hb
  unfold execOp
  simp only [ho, hx, hy, Sem.run_bind, Sem.run_pure, eqg4, neq4, Result.andThen_ok]
set_option maxRecDepth 100000 in
/-- Two structs of two numbers. -/
theorem eq_fields2 {P : Program} (d : Nat) (xs ys : Array Value) (w : World) (f0 f1 : Field) (n0 : f0.name ≠ "_") (n1 : f1.name ≠ "_") (k0 k1 : IntKind) (z0 z1 u0 u1 : Int)
    (t0 : P.underlying f0.type = some (.int k0)) (t1 : P.underlying f1.type = some (.int k1))
    (p0 : (Go.part f0.type xs f0.offset).run P w = .ok (.int k0 z0) w) (p1 : (Go.part f1.type xs f1.offset).run P w = .ok (.int k1 z1) w)
    (q0 : (Go.part f0.type ys f0.offset).run P w = .ok (.int k0 u0) w) (q1 : (Go.part f1.type ys f1.offset).run P w = .ok (.int k1 u1) w) :
    (Op.eqFields (d + 1) xs ys [f0, f1]).run P w = .ok ((z0 == u0) && (z1 == u1)) w := by
  have h0 := run_equalIn_int (P := P) w d f0.type k0 k0 z0 u0 t0
  have h1 := run_equalIn_int (P := P) w d f1.type k1 k1 z1 u1 t1
  unfold Op.eqFields
  rw [if_pos n0]
  simp only [Sem.run_bind, p0, q0, h0, Result.andThen_ok]
  cases hz : (z0 == u0)
  · simp
  · unfold Op.eqFields
    rw [if_pos n1]
    simp only [Sem.run_bind, p1, q1, h1, Result.andThen_ok, Bool.not_true, Bool.false_eq_true, if_false, Bool.true_and]
    cases hy : (z1 == u1)
    · simp
    · simp [Op.eqFields]
set_option maxRecDepth 100000 in
theorem two_fields {P : Program} {t : TypeId} {t0 t1 : TypeId} (h : (P.fieldsOf t).toList.map (fun f => (f.name == "_", f.type, f.offset)) = [(false, t0, 0), (false, t1, 1)]) :
    ∃ f0 f1 : Field, (P.fieldsOf t).toList = [f0, f1] ∧ f0.name ≠ "_" ∧ f1.name ≠ "_" ∧ f0.type = t0 ∧ f1.type = t1 ∧ f0.offset = 0 ∧ f1.offset = 1 := by
  match hl : (P.fieldsOf t).toList with
  | [] => rw [hl] at h; simp at h
  | [_] => rw [hl] at h; simp at h
  | [f0, f1] =>
    rw [hl] at h
    simp only [List.map_cons, List.map_nil, List.cons.injEq, Prod.mk.injEq, and_true, beq_eq_false_iff_ne] at h
    exact ⟨f0, f1, rfl, h.1.1, h.2.1, h.1.2.1, h.2.2.1, h.1.2.2, h.2.2.2⟩
  | _ :: _ :: _ :: _ => rw [hl] at h; simp at h
set_option maxRecDepth 100000 in
theorem partW (xs : Array Value) (k : Nat) (v : Value) (h : xs[k]? = some v) (w : World) : (Go.part 30 xs k).run Try.prog w = .ok v w := by
  simp [Go.part, go_sem, Try.isAgg30, Try.sizeOf30, h]
set_option maxRecDepth 100000 in
theorem partI (xs : Array Value) (k : Nat) (v : Value) (h : xs[k]? = some v) (w : World) : (Go.part 3 xs k).run Try.prog w = .ok v w := by
  simp [Go.part, go_sem, Try.isAgg3, Try.sizeOf3, h]
set_option maxRecDepth 100000 in
theorem equalInR (s v s' v' : W32) (w : World) : (Op.equalIn 10000 35 (.agg #[.int .u32 (num s), .int .u32 (num v)]) (.agg #[.int .u32 (num s'), .int .u32 (num v')])).run Try.prog w = .ok ((s == s') && (v == v')) w := by
  obtain ⟨f0, f1, hl, n0, n1, t0, t1, o0, o1⟩ := two_fields (P := Try.prog) (t := 35) (t0 := 30) (t1 := 30) (by kernel_rfl)
  rw [run_equalIn_struct w 9999 35 _ _ Try.underlying35 (by kernel_rfl), hl]
  rw [eq_fields2 9998 _ _ w f0 f1 n0 n1 .u32 .u32 (num s) (num v) (num s') (num v') (by rw [t0]; exact Try.underlying30) (by rw [t1]; exact Try.underlying30) (by rw [t0, o0]; exact partW _ _ _ rfl w) (by rw [t1, o1]; exact partW _ _ _ rfl w)
    (by rw [t0, o0]; exact partW _ _ _ rfl w) (by rw [t1, o1]; exact partW _ _ _ rfl w), num_beq, num_beq]
set_option maxRecDepth 100000 in
theorem equalInP (a : Int) (x : W32) (w : World) : (Op.equalIn 10000 84 (.agg #[.int .i64 a, .int .u32 (num x)]) (.agg #[.int .i64 a, .int .u32 (num x)])).run Try.prog w = .ok true w := by
  obtain ⟨f0, f1, hl, n0, n1, t0, t1, o0, o1⟩ := two_fields (P := Try.prog) (t := 84) (t0 := 3) (t1 := 30) (by kernel_rfl)
  rw [run_equalIn_struct w 9999 84 _ _ Try.underlying84 (by kernel_rfl), hl]
  rw [eq_fields2 9998 _ _ w f0 f1 n0 n1 .i64 .u32 a (num x) a (num x) (by rw [t0]; exact Try.underlying3) (by rw [t1]; exact Try.underlying30) (by rw [t0, o0]; exact partI _ _ _ rfl w) (by rw [t1, o1]; exact partW _ _ _ rfl w)
    (by rw [t0, o0]; exact partI _ _ _ rfl w) (by rw [t1, o1]; exact partW _ _ _ rfl w), beq_self_eq_true, beq_self_eq_true]
  rfl
set_option maxRecDepth 100000 in
theorem eqlR (s v s' v' : W32) (w : World) : (binOp .eql 35 (.agg #[.int .u32 (num s), .int .u32 (num v)]) (.agg #[.int .u32 (num s'), .int .u32 (num v')])).run Try.prog w = .ok (.bool ((s == s') && (v == v'))) w := by
  rw [run_eql_struct, equalInR]; rfl
set_option maxRecDepth 100000 in
theorem eqgR (op : BinOp) (x y : Operand) (a b : Array Value) (w : World) : (eqGuard op 35 x y (.agg a) (.agg b)).run Try.prog w = .ok () w :=
  run_eqGuard_agg w op 35 x y _ _ (by kernel_rfl)
set_option maxRecDepth 100000 in
theorem exec_eqlR {o : Oper} {a : Act} (x y : Operand) (t : TypeId) (ho : o.op = .binOp .eql 35 x y t) (s v s' v' : W32) (hx : a.eval x = .agg #[.int .u32 (num s), .int .u32 (num v)]) (hy : a.eval y = .agg #[.int .u32 (num s'), .int .u32 (num v')]) (w : World) {b : Bool} (hb : ((s == s') && (v == v')) = b) :
    (execOp a.eval o).run Try.prog w = .ok (.value (.bool b)) w := by
  subst hb
  unfold execOp
  simp only [ho, hx, hy, Sem.run_bind, Sem.run_pure, eqgR, eqlR, Result.andThen_ok]
set_option maxRecDepth 100000 in
theorem neqP (a : Int) (x : W32) (w : World) : (binOp .neq 84 (.agg #[.int .i64 a, .int .u32 (num x)]) (.agg #[.int .i64 a, .int .u32 (num x)])).run Try.prog w = .ok (.bool false) w := by
  rw [run_neq_struct, equalInP]; rfl
set_option maxRecDepth 100000 in
theorem eqgP (op : BinOp) (x y : Operand) (a b : Array Value) (w : World) : (eqGuard op 84 x y (.agg a) (.agg b)).run Try.prog w = .ok () w :=
  run_eqGuard_agg w op 84 x y _ _ (by kernel_rfl)
/-- All but the result's block, an array of four words, is as it was in V. -/
structure SQ (V : World) (r : Nat) (Y : World) : Prop where
  save : Save r V Y
  res : ∃ f, Arr Y r 73 4 (wds f)
  lt : r < V.heap.size
section
variable {w V Y Z : World} {r g n : Nat} {t : TypeId} {f : Nat → Value}
set_option maxRecDepth 100000 in
theorem SQ.begin {h : Nat → W32} (ha : Arr V r 73 4 (wds h)) : SQ V r V.drew := ⟨⟨rfl, rfl, rfl, Nat.le_refl _, fun _ _ _ => rfl⟩, ⟨h, ha⟩, ha.lt⟩
set_option maxRecDepth 100000 in
theorem SQ.keep (h : SQ V r Y) (hd : Below Y.heap.size Y Z) : SQ V r Z := ⟨h.save.trans (Save.of_below hd), h.res.elim fun f hf => ⟨f, hf.under hd⟩, h.lt⟩
set_option maxRecDepth 100000 in
theorem SQ.put (h : SQ V r Y) (f : Nat → W32) : SQ V r (Y.setRow r (vec 4 (wds f))) := ⟨h.save.setRow _, ⟨f, h.res.elim fun _ hf => hf.row _⟩, h.lt⟩
set_option maxRecDepth 100000 in
theorem SQ.arr (h : SQ V r Y) (ha : Arr V g t n f) (hg : g ≠ r) : Arr Y g t n f := ha.save h.save hg
set_option maxRecDepth 100000 in
theorem SQ.blk {cs : Array Value} (h : SQ V r Y) (ha : Blk V g t cs) (hg : g ≠ r) : Blk Y g t cs := ha.save h.save hg
set_option maxRecDepth 100000 in
theorem SQ.below (h : SQ V r Y) (hV : Below w.heap.size w V) (hr : w.heap.size ≤ r) : Below w.heap.size w Y := hV.trans (h.save.below hr hV.size)
set_option maxRecDepth 100000 in
theorem SQ.lies {B m s : Nat} {A : Option Addr} {xs : List Value} (h : SQ V r Y) (hl : Lies V B s A m xs) (hB : B ≤ r) : Lies Y B s A m xs := hl.same fun p hp => h.save.cell (by have := h.lt; omega) (by omega)
end
end Go.Proofs.Ytpeebdhbcglibaa
