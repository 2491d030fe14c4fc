/- Merged: Eq1, Es. -/
import Derived.Laws.StructEq
import Derived.Laws.Small
import Derived.ChangeKeysEq
import Derived.Test.YtmcpmcicolpoeaaDoorMc
/- Windows, devices, irqs, ends, channels, keys: alike or not. -/
namespace Go.Proofs.YtmcpmcicolpoeaaDoor
open Go.RowKit

def wiEq (x y : Wi) : Bool := x.ipa == y.ipa && (x.pa == y.pa && (x.size == y.size && (x.perm == y.perm && true)))
def deEq (x y : De) : Bool := x.ipa == y.ipa && (x.pa == y.pa && (x.size == y.size && true))
def irEq (x y : Ir) : Bool := x.number == y.number && (x.cpu == y.cpu && (x.edge == y.edge && true))
def enEq (x y : En) : Bool := x.guest == y.guest && (x.perm == y.perm && (x.ipa == y.ipa && true))
def chEq (x y : Ch) : Bool := x.pa == y.pa && (x.size == y.size && ((enEq x.a y.a && enEq x.b y.b) && true))
theorem wiEq_self (x : Wi) : wiEq x x = true := by simp [wiEq]
theorem deEq_self (x : De) : deEq x x = true := by simp [deEq]
theorem irEq_self (x : Ir) : irEq x x = true := by simp [irEq]
theorem enEq_self (x : En) : enEq x x = true := by simp [enEq]
theorem chEq_self (x : Ch) : chEq x x = true := by simp [chEq, enEq_self]
theorem eqF_nil {P : Program} (d : Nat) (xs ys : Array Value) (w : World) : (Op.eqFields (d + 1) xs ys []).run P w = .ok true w := by simp [Op.eqFields]
theorem eqF_cons {P : Program} (d : Nat) (xs ys : Array Value) (w : World) (f : Field) (fs : List Field) (hn : f.name ≠ "_") (v u : Value) (b r : Bool) (hp : (Go.part f.type xs f.offset).run P w = .ok v w) (hq : (Go.part f.type ys f.offset).run P w = .ok u w)
    (he : (Op.equalIn (d + 1) f.type v u).run P w = .ok b w) (hr : (Op.eqFields (d + 1) xs ys fs).run P w = .ok r w) : (Op.eqFields (d + 1) xs ys (f :: fs)).run P w = .ok (b && r) w := by
  unfold Op.eqFields
  rw [if_pos hn]
  simp only [Sem.run_bind, hp, hq, he, Result.andThen_ok]
  cases b
  · simp
  · simp only [Bool.not_true, Bool.false_eq_true, if_false, Bool.true_and]
    exact hr
theorem partU64 (xs : Array Value) (k : Nat) (v : Value) (h : xs[k]? = some v) (w : World) : (Go.part 55 xs k).run Tryd.prog w = .ok v w := by
  simp [Go.part, go_sem, Tryd.isAgg55, Tryd.sizeOf55, h]
theorem partU32 (xs : Array Value) (k : Nat) (v : Value) (h : xs[k]? = some v) (w : World) : (Go.part 24 xs k).run Tryd.prog w = .ok v w := by
  simp [Go.part, go_sem, Tryd.isAgg24, Tryd.sizeOf24, h]
theorem partI (xs : Array Value) (k : Nat) (v : Value) (h : xs[k]? = some v) (w : World) : (Go.part 3 xs k).run Tryd.prog w = .ok v w := by
  simp [Go.part, go_sem, Tryd.isAgg3, Tryd.sizeOf3, h]
theorem partB (xs : Array Value) (k : Nat) (v : Value) (h : xs[k]? = some v) (w : World) : (Go.part 4 xs k).run Tryd.prog w = .ok v w := by
  simp [Go.part, go_sem, Tryd.isAgg4, Tryd.sizeOf4, h]
theorem partU8 (xs : Array Value) (k : Nat) (v : Value) (h : xs[k]? = some v) (w : World) : (Go.part 5 xs k).run Tryd.prog w = .ok v w := by
  simp [Go.part, go_sem, Tryd.isAgg5, Tryd.sizeOf5, h]
set_option maxRecDepth 100000 in
theorem equalIn_win (d : Nat) (x y : Wi) (w : World) : (Op.equalIn (d + 2) 108 (.agg (vec 4 (winE x))) (.agg (vec 4 (winE y)))).run Tryd.prog w = .ok (wiEq x y) w := by
  rw [run_equalIn_struct (P := Tryd.prog) w (d + 1) 108 _ _ (by kernel_rfl) (by kernel_rfl)]
  unfold Program.fieldsOf
  rw [Tryd.underlying108]
  exact eqF_cons _ _ _ w _ _ (by decide) _ _ _ _ (partU64 _ 0 _ (vec_at 4 _ 0 (by decide)) w) (partU64 _ 0 _ (vec_at 4 _ 0 (by decide)) w) (run_equalIn_int (P := Tryd.prog) w _ 55 .u64 .u64 _ _ Tryd.underlying55) (eqF_cons _ _ _ w _ _ (by decide) _ _ _ _ (partU64 _ 1 _ (vec_at 4 _ 1 (by decide)) w) (partU64 _ 1 _ (vec_at 4 _ 1 (by decide)) w) (run_equalIn_int (P := Tryd.prog) w _ 55 .u64 .u64 _ _ Tryd.underlying55) (eqF_cons _ _ _ w _ _ (by decide) _ _ _ _ (partU64 _ 2 _ (vec_at 4 _ 2 (by decide)) w) (partU64 _ 2 _ (vec_at 4 _ 2 (by decide)) w) (run_equalIn_int (P := Tryd.prog) w _ 55 .u64 .u64 _ _ Tryd.underlying55) (eqF_cons _ _ _ w _ _ (by decide) _ _ _ _ (partI _ 3 _ (vec_at 4 _ 3 (by decide)) w) (partI _ 3 _ (vec_at 4 _ 3 (by decide)) w) (run_equalIn_int (P := Tryd.prog) w _ 3 .i64 .i64 _ _ Tryd.underlying3) (eqF_nil _ _ _ w))))
set_option maxRecDepth 100000 in
theorem equalIn_dev (d : Nat) (x y : De) (w : World) : (Op.equalIn (d + 2) 110 (.agg (vec 3 (devE x))) (.agg (vec 3 (devE y)))).run Tryd.prog w = .ok (deEq x y) w := by
  rw [run_equalIn_struct (P := Tryd.prog) w (d + 1) 110 _ _ (by kernel_rfl) (by kernel_rfl)]
  unfold Program.fieldsOf
  rw [Tryd.underlying110]
  exact eqF_cons _ _ _ w _ _ (by decide) _ _ _ _ (partU64 _ 0 _ (vec_at 3 _ 0 (by decide)) w) (partU64 _ 0 _ (vec_at 3 _ 0 (by decide)) w) (run_equalIn_int (P := Tryd.prog) w _ 55 .u64 .u64 _ _ Tryd.underlying55) (eqF_cons _ _ _ w _ _ (by decide) _ _ _ _ (partU64 _ 1 _ (vec_at 3 _ 1 (by decide)) w) (partU64 _ 1 _ (vec_at 3 _ 1 (by decide)) w) (run_equalIn_int (P := Tryd.prog) w _ 55 .u64 .u64 _ _ Tryd.underlying55) (eqF_cons _ _ _ w _ _ (by decide) _ _ _ _ (partU64 _ 2 _ (vec_at 3 _ 2 (by decide)) w) (partU64 _ 2 _ (vec_at 3 _ 2 (by decide)) w) (run_equalIn_int (P := Tryd.prog) w _ 55 .u64 .u64 _ _ Tryd.underlying55) (eqF_nil _ _ _ w)))
set_option maxRecDepth 100000 in
theorem equalIn_irq (d : Nat) (x y : Ir) (w : World) : (Op.equalIn (d + 2) 112 (.agg (vec 3 (irqE x))) (.agg (vec 3 (irqE y)))).run Tryd.prog w = .ok (irEq x y) w := by
  rw [run_equalIn_struct (P := Tryd.prog) w (d + 1) 112 _ _ (by kernel_rfl) (by kernel_rfl)]
  unfold Program.fieldsOf
  rw [Tryd.underlying112]
  exact eqF_cons _ _ _ w _ _ (by decide) _ _ _ _ (partI _ 0 _ (vec_at 3 _ 0 (by decide)) w) (partI _ 0 _ (vec_at 3 _ 0 (by decide)) w) (run_equalIn_int (P := Tryd.prog) w _ 3 .i64 .i64 _ _ Tryd.underlying3) (eqF_cons _ _ _ w _ _ (by decide) _ _ _ _ (partI _ 1 _ (vec_at 3 _ 1 (by decide)) w) (partI _ 1 _ (vec_at 3 _ 1 (by decide)) w) (run_equalIn_int (P := Tryd.prog) w _ 3 .i64 .i64 _ _ Tryd.underlying3) (eqF_cons _ _ _ w _ _ (by decide) _ _ _ _ (partB _ 2 _ (vec_at 3 _ 2 (by decide)) w) (partB _ 2 _ (vec_at 3 _ 2 (by decide)) w) (run_equalIn_bool (P := Tryd.prog) w _ 4 _ _ Tryd.underlying4) (eqF_nil _ _ _ w)))
set_option maxRecDepth 100000 in
theorem equalIn_end (d : Nat) (x y : En) (w : World) : (Op.equalIn (d + 2) 68 (.agg (vec 3 (endE x))) (.agg (vec 3 (endE y)))).run Tryd.prog w = .ok (enEq x y) w := by
  rw [run_equalIn_struct (P := Tryd.prog) w (d + 1) 68 _ _ (by kernel_rfl) (by kernel_rfl)]
  unfold Program.fieldsOf
  rw [Tryd.underlying68]
  exact eqF_cons _ _ _ w _ _ (by decide) _ _ _ _ (partI _ 0 _ (vec_at 3 _ 0 (by decide)) w) (partI _ 0 _ (vec_at 3 _ 0 (by decide)) w) (run_equalIn_int (P := Tryd.prog) w _ 3 .i64 .i64 _ _ Tryd.underlying3) (eqF_cons _ _ _ w _ _ (by decide) _ _ _ _ (partI _ 1 _ (vec_at 3 _ 1 (by decide)) w) (partI _ 1 _ (vec_at 3 _ 1 (by decide)) w) (run_equalIn_int (P := Tryd.prog) w _ 3 .i64 .i64 _ _ Tryd.underlying3) (eqF_cons _ _ _ w _ _ (by decide) _ _ _ _ (partU64 _ 2 _ (vec_at 3 _ 2 (by decide)) w) (partU64 _ 2 _ (vec_at 3 _ 2 (by decide)) w) (run_equalIn_int (P := Tryd.prog) w _ 55 .u64 .u64 _ _ Tryd.underlying55) (eqF_nil _ _ _ w)))
theorem vec_ext (n o m : Nat) (f : Nat → Value) (h : o + m ≤ n) : (vec n f).extract o (o + m) = vec m (fun i => f (o + i)) := by
  apply Array.ext_getElem?
  intro i
  by_cases hi : i < m
  · rw [vec_at m _ i hi, Array.getElem?_extract, if_pos (by rw [vec_size]; omega), vec_at n f _ (by omega)]
  · rw [Array.getElem?_eq_none (by rw [Array.size_extract, vec_size]; omega), Array.getElem?_eq_none (by rw [vec_size]; omega)]
theorem part_ends (x : Ch) (w : World) : (Go.part 69 (vec 8 (chE x)) 2).run Tryd.prog w = .ok (.agg (vec 6 (twoE x.a x.b))) w := by
  have e : vec 6 (fun i => chE x (2 + i)) = vec 6 (twoE x.a x.b) := vec_congr fun i _ => by rw [Nat.add_comm]; rfl
  have h := vec_ext 8 2 6 (chE x) (by decide)
  rw [e] at h
  simp [Go.part, go_sem, Tryd.isAgg69, Tryd.sizeOf69, h]
theorem part_enda (a b : En) (w : World) : (Go.part 68 (vec 6 (twoE a b)) 0).run Tryd.prog w = .ok (.agg (vec 3 (endE a))) w := by
  have e : vec 3 (fun i => twoE a b (0 + i)) = vec 3 (endE a) := vec_congr fun i hi => by unfold twoE; rw [Nat.zero_add, if_pos hi]
  have h := vec_ext 6 0 3 (twoE a b) (by decide)
  rw [e] at h
  simp [Go.part, go_sem, Tryd.isAgg68, Tryd.sizeOf68, h]
theorem part_endb (a b : En) (w : World) : (Go.part 68 (vec 6 (twoE a b)) 3).run Tryd.prog w = .ok (.agg (vec 3 (endE b))) w := by
  have e : vec 3 (fun i => twoE a b (3 + i)) = vec 3 (endE b) := vec_congr fun i hi => by unfold twoE; rw [if_neg (by omega), show 3 + i - 3 = i by omega]
  have h := vec_ext 6 3 3 (twoE a b) (by decide)
  rw [e] at h
  simp [Go.part, go_sem, Tryd.isAgg68, Tryd.sizeOf68, h]
set_option maxRecDepth 100000 in
theorem equalIn_two (d : Nat) (a b a' b' : En) (w : World) : (Op.equalIn (d + 4) 69 (.agg (vec 6 (twoE a b))) (.agg (vec 6 (twoE a' b')))).run Tryd.prog w = .ok (enEq a a' && enEq b b') w := by
  obtain ⟨i, hi, hs⟩ : ∃ i, Tryd.prog.info? 68 = some i ∧ i.size = 3 := by
    have h : (Tryd.prog.info? 68).map (·.size) = some 3 := by kernel_rfl
    cases hq : Tryd.prog.info? 68 with
    | none => simp [hq] at h
    | some i => exact ⟨i, rfl, by simpa [hq] using h⟩
  have := run_equalIn_array (P := Tryd.prog) w (d + 3) (vec 6 (twoE a b)) (vec 6 (twoE a' b')) Tryd.underlying69 hi
  have hc : Tryd.prog.cellsOf 68 = 3 := by kernel_rfl
  have h1 := equalIn_end (d + 1) a a' w
  have h2 := equalIn_end (d + 1) b b' w
  have hit : (Op.eqItems (d + 3) 68 3 (vec 6 (twoE a b)) (vec 6 (twoE a' b')) [0, 1]).run Tryd.prog w = .ok (enEq a a' && enEq b b') w := by
    have p0 := part_enda a b w
    have p1 := part_endb a b w
    have q0 := part_enda a' b' w
    have q1 := part_endb a' b' w
    cases e1 : enEq a a' <;> cases e2 : enEq b b' <;> rw [e1] at h1 <;> rw [e2] at h2 <;> simp [Op.eqItems, Sem.run_bind, p0, p1, q0, q1, h1, h2]
  rw [hc, show List.range 2 = [0, 1] from rfl, hit] at this
  exact this
set_option maxRecDepth 100000 in
theorem equalIn_ch (d : Nat) (x y : Ch) (w : World) : (Op.equalIn (d + 6) 71 (.agg (vec 8 (chE x))) (.agg (vec 8 (chE y)))).run Tryd.prog w = .ok (chEq x y) w := by
  rw [run_equalIn_struct (P := Tryd.prog) w (d + 5) 71 _ _ (by kernel_rfl) (by kernel_rfl)]
  unfold Program.fieldsOf
  rw [Tryd.underlying71]
  exact eqF_cons _ _ _ w _ _ (by decide) _ _ _ _ (partU64 _ 0 _ (vec_at 8 _ 0 (by decide)) w) (partU64 _ 0 _ (vec_at 8 _ 0 (by decide)) w) (run_equalIn_int (P := Tryd.prog) w _ 55 .u64 .u64 _ _ Tryd.underlying55) (eqF_cons _ _ _ w _ _ (by decide) _ _ _ _ (partU64 _ 1 _ (vec_at 8 _ 1 (by decide)) w) (partU64 _ 1 _ (vec_at 8 _ 1 (by decide)) w) (run_equalIn_int (P := Tryd.prog) w _ 55 .u64 .u64 _ _ Tryd.underlying55)
    (eqF_cons _ _ _ w _ _ (by decide) _ _ _ _ (part_ends x w) (part_ends y w) (equalIn_two (d + 1) _ _ _ _ w) (eqF_nil _ _ _ w)))
theorem neq_win (x y : Wi) (w : World) : (binOp .neq 108 (.agg (vec 4 (winE x))) (.agg (vec 4 (winE y)))).run Tryd.prog w = .ok (.bool (!wiEq x y)) w := by
  rw [run_neq_struct, equalIn_win 9998]; rfl
theorem exec_neq_win {o : Oper} {a : Act} (x y : Operand) (t : TypeId) (ho : o.op = .binOp .neq 108 x y t) (p q : Wi) (hx : a.eval x = .agg (vec 4 (winE p))) (hy : a.eval y = .agg (vec 4 (winE q))) (w : World) {b : Bool} (hb : (!wiEq p q) = b) :
    (execOp a.eval o).run Tryd.prog w = .ok (.value (.bool b)) w := by
  subst hb
  unfold execOp
  simp only [ho, hx, hy, Sem.run_bind, Sem.run_pure, run_eqGuard_agg (P := Tryd.prog) w .neq 108 x y _ _ (by kernel_rfl), neq_win, Result.andThen_ok]
theorem neq_dev (x y : De) (w : World) : (binOp .neq 110 (.agg (vec 3 (devE x))) (.agg (vec 3 (devE y)))).run Tryd.prog w = .ok (.bool (!deEq x y)) w := by
  rw [run_neq_struct, equalIn_dev 9998]; rfl
theorem exec_neq_dev {o : Oper} {a : Act} (x y : Operand) (t : TypeId) (ho : o.op = .binOp .neq 110 x y t) (p q : De) (hx : a.eval x = .agg (vec 3 (devE p))) (hy : a.eval y = .agg (vec 3 (devE q))) (w : World) {b : Bool} (hb : (!deEq p q) = b) :
    (execOp a.eval o).run Tryd.prog w = .ok (.value (.bool b)) w := by
  subst hb
  unfold execOp
  simp only [ho, hx, hy, Sem.run_bind, Sem.run_pure, run_eqGuard_agg (P := Tryd.prog) w .neq 110 x y _ _ (by kernel_rfl), neq_dev, Result.andThen_ok]
theorem neq_irq (x y : Ir) (w : World) : (binOp .neq 112 (.agg (vec 3 (irqE x))) (.agg (vec 3 (irqE y)))).run Tryd.prog w = .ok (.bool (!irEq x y)) w := by
  rw [run_neq_struct, equalIn_irq 9998]; rfl
theorem exec_neq_irq {o : Oper} {a : Act} (x y : Operand) (t : TypeId) (ho : o.op = .binOp .neq 112 x y t) (p q : Ir) (hx : a.eval x = .agg (vec 3 (irqE p))) (hy : a.eval y = .agg (vec 3 (irqE q))) (w : World) {b : Bool} (hb : (!irEq p q) = b) :
    (execOp a.eval o).run Tryd.prog w = .ok (.value (.bool b)) w := by
  subst hb
  unfold execOp
  simp only [ho, hx, hy, Sem.run_bind, Sem.run_pure, run_eqGuard_agg (P := Tryd.prog) w .neq 112 x y _ _ (by kernel_rfl), neq_irq, Result.andThen_ok]
theorem neq_ch (x y : Ch) (w : World) : (binOp .neq 71 (.agg (vec 8 (chE x))) (.agg (vec 8 (chE y)))).run Tryd.prog w = .ok (.bool (!chEq x y)) w := by
  rw [run_neq_struct, equalIn_ch 9994]; rfl
theorem exec_neq_ch {o : Oper} {a : Act} (x y : Operand) (t : TypeId) (ho : o.op = .binOp .neq 71 x y t) (p q : Ch) (hx : a.eval x = .agg (vec 8 (chE p))) (hy : a.eval y = .agg (vec 8 (chE q))) (w : World) {b : Bool} (hb : (!chEq p q) = b) :
    (execOp a.eval o).run Tryd.prog w = .ok (.value (.bool b)) w := by
  subst hb
  unfold execOp
  simp only [ho, hx, hy, Sem.run_bind, Sem.run_pure, run_eqGuard_agg (P := Tryd.prog) w .neq 71 x y _ _ (by kernel_rfl), neq_ch, Result.andThen_ok]
/-- Two keys. -/
def kyEq (f g : Nat → UInt8) : Bool := (List.range 68).all fun i => f i == g i
theorem kyEq_self (f : Nat → UInt8) : kyEq f f = true := by simp [kyEq]
theorem eq_items_k (f g : Nat → UInt8) (d : Nat) (w : World) : ∀ is : List Nat, (∀ i ∈ is, i < 68) → (Op.eqItems (d + 1) 5 1 (vec 68 (bys f)) (vec 68 (bys g)) is).run Tryd.prog w = .ok (is.all fun i => f i == g i) w
  | [], _ => by simp [Op.eqItems]
  | i :: is, h => by
    have ih := eq_items_k f g d w is (fun j hj => h j (by simp [hj]))
    have hp := partU8 (vec 68 (bys f)) (i * 1) (bys f i) (by rw [Nat.mul_one]; exact vec_at 68 _ i (h i (by simp))) w
    have hq := partU8 (vec 68 (bys g)) (i * 1) (bys g i) (by rw [Nat.mul_one]; exact vec_at 68 _ i (h i (by simp))) w
    have he : (Op.equalIn (d + 1) 5 (bys f i) (bys g i)).run Tryd.prog w = .ok (f i == g i) w := by
      have := run_equalIn_int (P := Tryd.prog) w d 5 .u8 .u8 ((f i).toNat : Int) ((g i).toNat : Int) Tryd.underlying5
      have e : (((f i).toNat : Int) == ((g i).toNat : Int)) = (f i == g i) := by
        by_cases h : f i = g i
        · rw [h]; simp
        · have h1 : (f i == g i) = false := by simp [h]
          have h2 : ¬ ((f i).toNat : Int) = ((g i).toNat : Int) := fun e => h (UInt8.toNat_inj.1 (Int.ofNat.inj e))
          rw [h1]; simp only [beq_eq_false_iff_ne, ne_eq]; exact h2
      rw [e] at this
      exact this
    simp only [Op.eqItems, Sem.run_bind, hp, hq, Result.andThen_ok, he, List.all_cons]
    cases hx : (f i == g i)
    · simp
    · simp only [Bool.true_and]; exact ih
set_option maxRecDepth 100000 in
theorem equalIn_key (f g : Nat → UInt8) (w : World) : (Op.equalIn 10000 58 (.agg (vec 68 (bys f))) (.agg (vec 68 (bys g)))).run Tryd.prog w = .ok (kyEq f g) w := by
  obtain ⟨i, hi, hs⟩ : ∃ i, Tryd.prog.info? 5 = some i ∧ i.size = 1 := by
    have h : (Tryd.prog.info? 5).map (·.size) = some 1 := by kernel_rfl
    cases hq : Tryd.prog.info? 5 with
    | none => simp [hq] at h
    | some i => exact ⟨i, rfl, by simpa [hq] using h⟩
  have := run_equalIn_array (P := Tryd.prog) w 9999 (vec 68 (bys f)) (vec 68 (bys g)) Tryd.underlying58 hi
  have hc : Tryd.prog.cellsOf 5 = 1 := by kernel_rfl
  rw [hc, eq_items_k f g 9998 w (List.range 68) (fun i hi => List.mem_range.1 hi)] at this
  exact this
theorem eql_key (f g : Nat → UInt8) (w : World) : (binOp .eql 58 (.agg (vec 68 (bys f))) (.agg (vec 68 (bys g)))).run Tryd.prog w = .ok (.bool (kyEq f g)) w := by
  rw [run_eql_struct, equalIn_key]; rfl
theorem neq_key (f g : Nat → UInt8) (w : World) : (binOp .neq 58 (.agg (vec 68 (bys f))) (.agg (vec 68 (bys g)))).run Tryd.prog w = .ok (.bool (!kyEq f g)) w := by
  rw [run_neq_struct, equalIn_key]; rfl
theorem exec_eql_key {o : Oper} {a : Act} (x y : Operand) (t : TypeId) (ho : o.op = .binOp .eql 58 x y t) (f g : Nat → UInt8) (hx : a.eval x = .agg (vec 68 (bys f))) (hy : a.eval y = .agg (vec 68 (bys g))) (w : World) {b : Bool} (hb : kyEq f g = b) :
    (execOp a.eval o).run Tryd.prog w = .ok (.value (.bool b)) w := by
  subst hb
  unfold execOp
  simp only [ho, hx, hy, Sem.run_bind, Sem.run_pure, run_eqGuard_agg (P := Tryd.prog) w .eql 58 x y _ _ (by kernel_rfl), eql_key, Result.andThen_ok]
theorem exec_neq_key {o : Oper} {a : Act} (x y : Operand) (t : TypeId) (ho : o.op = .binOp .neq 58 x y t) (f g : Nat → UInt8) (hx : a.eval x = .agg (vec 68 (bys f))) (hy : a.eval y = .agg (vec 68 (bys g))) (w : World) {b : Bool} (hb : (!kyEq f g) = b) :
    (execOp a.eval o).run Tryd.prog w = .ok (.value (.bool b)) w := by
  subst hb
  unfold execOp
  simp only [ho, hx, hy, Sem.run_bind, Sem.run_pure, run_eqGuard_agg (P := Tryd.prog) w .neq 58 x y _ _ (by kernel_rfl), neq_key, Result.andThen_ok]
/-- Two lists, up to place k. -/
def eqTo {α : Type} (f : α → α → Bool) (l m : List α) (k : Nat) : Bool := (List.range k).all fun j => match l[j]?, m[j]? with | some x, some y => f x y | _, _ => false
def eqL {α : Type} (f : α → α → Bool) (l m : List α) : Bool := decide (l.length = m.length) && eqTo f l m l.length
theorem eqTo_zero {α : Type} (f : α → α → Bool) (l m : List α) : eqTo f l m 0 = true := rfl
theorem eqTo_succ {α : Type} (f : α → α → Bool) (l m : List α) (k : Nat) (hl : k < l.length) (hm : k < m.length) : eqTo f l m (k + 1) = (eqTo f l m k && f l[k] m[k]) := by
  unfold eqTo
  rw [List.range_succ, List.all_append]
  simp [hl, hm]
theorem eqTo_no {α : Type} {f : α → α → Bool} {l m : List α} {k n : Nat} (h : eqTo f l m k = false) (hk : k ≤ n) : eqTo f l m n = false := by
  unfold eqTo at *
  rw [List.all_eq_false] at *
  obtain ⟨x, hx, h⟩ := h
  exact ⟨x, List.mem_range.2 (by have := List.mem_range.1 hx; omega), h⟩
theorem eqL_no {α : Type} {f : α → α → Bool} {l m : List α} {k : Nat} (h : eqTo f l m k = false) (hk : k ≤ l.length) : eqL f l m = false := by
  unfold eqL
  rw [eqTo_no h hk]; simp
theorem eqL_len {α : Type} {f : α → α → Bool} {l m : List α} (h : l.length ≠ m.length) : eqL f l m = false := by
  unfold eqL; simp [h]
theorem eqL_all {α : Type} {f : α → α → Bool} {l m : List α} (h : l.length = m.length) : eqL f l m = eqTo f l m l.length := by
  unfold eqL; simp [h]
theorem eqL_self {α : Type} {f : α → α → Bool} (hf : ∀ x, f x x = true) (l : List α) : eqL f l l = true := by
  rw [eqL_all rfl]
  unfold eqTo
  rw [List.all_eq_true]
  intro j hj
  have hj := List.mem_range.1 hj
  simp [hj, hf]
end Go.Proofs.YtmcpmcicolpoeaaDoor
/- slices.Equal, of five kinds. -/
namespace Go.Proofs.YtmcpmcicolpoeaaDoor
open Go.RowKit

def nuEq (x y : Int) : Bool := x == y
theorem nuEq_self (x : Int) : nuEq x x = true := by simp [nuEq]
/-- Lists alike, or not. -/
def EqP (r : Bool) (w : World) (e : Ending) (w' : World) : Prop := e = .returned (.bool r) ∧ ∃ k, w' = w.drewN k
set_option maxRecDepth 100000 in
set_option maxHeartbeats 2000000 in
theorem equal_win (l m : List Wi) (A B : Option Addr) (c d : Nat) (w : World) (hl : l.length ≤ 9223372036854775807) (h1 : RowE 4 winE w w.heap.size A l) (h2 : RowE 4 winE w w.heap.size B m) :
    Calls Tryd.prog 64 #[.slice A l.length c, .slice B m.length d] w (EqP (eqL wiEq l m) w) := by
  by_cases hlen : l.length = m.length
  case neg =>
    rw [eqL_len hlen]
    have d1 : ((l.length : Int) != (m.length : Int)) = true := bne_iff_ne.2 (by omega)
    have d2 : ¬ (l.length : Int) = (m.length : Int) := by omega
    unfold EqP
    clear hlen h1 h2
    go_enter Tryd.func64, Tryd.ntmps64
    go_wp2
    go_ret
    exact ⟨rfl, 0, rfl⟩
  have HE := Lib.hid (eqL_all (f := wiEq) hlen)
  have HNO := Lib.hid (fun k (h : eqTo wiEq l m k = false) (hk : k ≤ l.length) => eqL_no h hk)
  have HL := Lib.hid hlen
  have H1 := Lib.hid h1
  have H2 := Lib.hid h2
  obtain ⟨rr, hrr⟩ : ∃ rr, rr = eqL wiEq l m := ⟨_, rfl⟩
  rw [← hrr] at HE HNO ⊢
  rw [← hlen]
  obtain ⟨N, hN⟩ : ∃ N, N = l.length := ⟨_, rfl⟩
  rw [← hN] at hl HE ⊢
  have HNL := Lib.hid hN
  have HNO := Lib.hid (fun k (h : eqTo wiEq l m k = false) (hk : k ≤ N) => HNO.out k h (by omega))
  clear h1 h2 hrr hlen hN
  unfold EqP
  go_enter Tryd.func64, Tryd.ntmps64
  go_wp2
  go_loopw [5, 13] (fun _ v W => ∃ k j : Nat, k ≤ N ∧ v = .int .i64 k ∧ Hid (eqTo wiEq l m k = true) ∧ w.drewN j = W) (fun _ i _ => N - (intOf i).toNat)
  case atStart => exact ⟨0, 0, Nat.zero_le _, rfl, Lib.hid rfl, rfl⟩
  case round =>
    obtain ⟨k, j, hk, rfl, HP0, rfl⟩ := hrel
    by_cases hlt0 : k < N
    · have hlt : k < l.length := by have := HNL.out; omega
      have hltm : k < m.length := by have := HL.out; omega
      obtain ⟨a, p, rfl, hp, -, hcp⟩ := H1.out.at hlt
      obtain ⟨a', q, rfl, hq, -, hcq⟩ := H2.out.at hltm
      obtain ⟨x, hx⟩ : ∃ x, x = l[k] := ⟨_, rfl⟩
      obtain ⟨y, hy⟩ : ∃ y, y = m[k] := ⟨_, rfl⟩
      have hs := eqTo_succ wiEq l m k hlt hltm
      rw [HP0.out, Bool.true_and, ← hx, ← hy] at hs
      rw [← hx] at hcp
      rw [← hy] at hcq
      have HP := Lib.hid (And.intro hcp hcq)
      clear hcp hcq hx hy hltm hlt
      have hki : (k : Int) < (N : Int) := by omega
      obtain ⟨b, hb⟩ : ∃ b, b = wiEq x y := ⟨_, rfl⟩
      rw [← hb] at hs
      cases b
      · have HB : Hid ((!wiEq x y) = true) := Lib.hid (by rw [← hb]; rfl)
        have HN := Lib.hid (HNO.out (k + 1) hs (by omega))
        clear hb hs
        go_upto_region 6 with fail
        refine wp_region_held_drew (S := fun Y => Y = (w.drewN j).drew) (by kernel_rfl) rfl (fun hS => ?_)
        (refine held_take (i := 0) (oi := ?ot1) (v := ?vt1) ?at1 (by kernel_rfl) (by kernel_rfl) (by kernel_rfl) ?bt1 ?ct1 ?dt1 (by assumption) ?rt1; (case at1 => (simp only [List.getElem?_toArray, List.getElem?_cons_zero]; rfl)); (case bt1 => exact fun _ _ _ h => h); (case ct1 => kernel_rfl); (case dt1 => (intro W hW; (try dsimp only at hW); go_split_ands; go_simp; (try with_reducible rfl))); (case' rt1 => simp only [Act.put, List.setIfInBounds_toArray, List.set_cons_zero, List.set_cons_succ]))
        (refine held_take (i := 1) (oi := ?ot2) (v := ?vt2) ?at2 (by kernel_rfl) (by kernel_rfl) (by kernel_rfl) ?bt2 ?ct2 ?dt2 (by assumption) ?rt2; (case at2 => (simp only [List.getElem?_toArray, List.getElem?_cons_zero, List.getElem?_cons_succ]; rfl)); (case bt2 => exact fun _ _ _ h => h); (case ct2 => kernel_rfl); (case dt2 => (intro W hW; (try dsimp only at hW); go_split_ands; go_simp; (try with_reducible rfl))); (case' rt2 => simp only [Act.put, List.setIfInBounds_toArray, List.set_cons_zero, List.set_cons_succ]))
        (refine held_take (i := 2) (oi := ?ot3) (v := .pointer (some p)) ?at3 (by kernel_rfl) (by kernel_rfl) (by kernel_rfl) ?bt3 ?ct3 ?dt3 (by assumption) ?rt3; (case at3 => (simp only [List.getElem?_toArray, List.getElem?_cons_zero, List.getElem?_cons_succ]; rfl)); (case bt3 => exact fun _ _ _ h => h); (case ct3 => kernel_rfl); (case dt3 => (intro W hW; clear hW; go_simp; (try with_reducible rfl); (try (intro h; omega)))); (case' rt3 => simp only [Act.put, List.setIfInBounds_toArray, List.set_cons_zero, List.set_cons_succ]))
        (refine held_take (i := 3) (oi := ?ot4) (v := .agg (vec 4 (winE x))) ?at4 (by kernel_rfl) (by kernel_rfl) (by kernel_rfl) ?bt4 ?ct4 ?dt4 (by assumption) ?rt4; (case at4 => (simp only [List.getElem?_toArray, List.getElem?_cons_zero, List.getElem?_cons_succ]; rfl)); (case bt4 => exact fun _ _ _ h => h); (case ct4 => kernel_rfl); (case dt4 => (intro W hW; subst hW; exact exec_load_q 108 _ rfl p rfl _ (run_load_q HP.out.1 Tryd.underlying108 rfl infoWi))); (case' rt4 => simp only [Act.put, List.setIfInBounds_toArray, List.set_cons_zero, List.set_cons_succ]))
        (refine held_take (i := 4) (oi := ?ot5) (v := ?vt5) ?at5 (by kernel_rfl) (by kernel_rfl) (by kernel_rfl) ?bt5 ?ct5 ?dt5 (by assumption) ?rt5; (case at5 => (simp only [List.getElem?_toArray, List.getElem?_cons_zero, List.getElem?_cons_succ]; rfl)); (case bt5 => exact fun _ _ _ h => h); (case ct5 => kernel_rfl); (case dt5 => (intro W hW; (try dsimp only at hW); go_split_ands; go_simp; (try with_reducible rfl))); (case' rt5 => simp only [Act.put, List.setIfInBounds_toArray, List.set_cons_zero, List.set_cons_succ]))
        (refine held_take (i := 5) (oi := ?ot6) (v := ?vt6) ?at6 (by kernel_rfl) (by kernel_rfl) (by kernel_rfl) ?bt6 ?ct6 ?dt6 (by assumption) ?rt6; (case at6 => (simp only [List.getElem?_toArray, List.getElem?_cons_zero, List.getElem?_cons_succ]; rfl)); (case bt6 => exact fun _ _ _ h => h); (case ct6 => kernel_rfl); (case dt6 => (intro W hW; (try dsimp only at hW); go_split_ands; go_simp; (try with_reducible rfl))); (case' rt6 => simp only [Act.put, List.setIfInBounds_toArray, List.set_cons_zero, List.set_cons_succ]))
        (refine held_take (i := 6) (oi := ?ot7) (v := .pointer (some q)) ?at7 (by kernel_rfl) (by kernel_rfl) (by kernel_rfl) ?bt7 ?ct7 ?dt7 (by assumption) ?rt7; (case at7 => (simp only [List.getElem?_toArray, List.getElem?_cons_zero, List.getElem?_cons_succ]; rfl)); (case bt7 => exact fun _ _ _ h => h); (case ct7 => kernel_rfl); (case dt7 => (intro W hW; clear hW; go_simp; (try with_reducible rfl); (try (intro h; omega)))); (case' rt7 => simp only [Act.put, List.setIfInBounds_toArray, List.set_cons_zero, List.set_cons_succ]))
        (refine held_take (i := 7) (oi := ?ot8) (v := .agg (vec 4 (winE y))) ?at8 (by kernel_rfl) (by kernel_rfl) (by kernel_rfl) ?bt8 ?ct8 ?dt8 (by assumption) ?rt8; (case at8 => (simp only [List.getElem?_toArray, List.getElem?_cons_zero, List.getElem?_cons_succ]; rfl)); (case bt8 => exact fun _ _ _ h => h); (case ct8 => kernel_rfl); (case dt8 => (intro W hW; subst hW; exact exec_load_q 108 _ rfl q rfl _ (run_load_q HP.out.2 Tryd.underlying108 rfl infoWi))); (case' rt8 => simp only [Act.put, List.setIfInBounds_toArray, List.set_cons_zero, List.set_cons_succ]))
        (refine held_take (i := 8) (oi := ?ot9) (v := .bool true) ?at9 (by kernel_rfl) (by kernel_rfl) (by kernel_rfl) ?bt9 ?ct9 ?dt9 (by assumption) ?rt9; (case at9 => (simp only [List.getElem?_toArray, List.getElem?_cons_zero, List.getElem?_cons_succ]; rfl)); (case bt9 => exact fun _ _ _ h => h); (case ct9 => kernel_rfl); (case dt9 => (intro W _; exact exec_neq_win _ _ _ rfl x y rfl rfl W HB.out)); (case' rt9 => simp only [Act.put, List.setIfInBounds_toArray, List.set_cons_zero, List.set_cons_succ]))
        refine wpAnyH_done (by kernel_rfl) ?_ _
        go_wp2
        go_ret
        exact ⟨by rw [HN.out]; rfl, j + 1, rfl⟩
      · have HB : Hid ((!wiEq x y) = false) := Lib.hid (by rw [← hb]; rfl)
        have HN := Lib.hid hs
        clear hb hs
        go_upto_region 6 with fail
        refine wp_region_held_drew (S := fun Y => Y = (w.drewN j).drew) (by kernel_rfl) rfl (fun hS => ?_)
        (refine held_take (i := 0) (oi := ?ot10) (v := ?vt10) ?at10 (by kernel_rfl) (by kernel_rfl) (by kernel_rfl) ?bt10 ?ct10 ?dt10 (by assumption) ?rt10; (case at10 => (simp only [List.getElem?_toArray, List.getElem?_cons_zero]; rfl)); (case bt10 => exact fun _ _ _ h => h); (case ct10 => kernel_rfl); (case dt10 => (intro W hW; (try dsimp only at hW); go_split_ands; go_simp; (try with_reducible rfl))); (case' rt10 => simp only [Act.put, List.setIfInBounds_toArray, List.set_cons_zero, List.set_cons_succ]))
        (refine held_take (i := 1) (oi := ?ot11) (v := ?vt11) ?at11 (by kernel_rfl) (by kernel_rfl) (by kernel_rfl) ?bt11 ?ct11 ?dt11 (by assumption) ?rt11; (case at11 => (simp only [List.getElem?_toArray, List.getElem?_cons_zero, List.getElem?_cons_succ]; rfl)); (case bt11 => exact fun _ _ _ h => h); (case ct11 => kernel_rfl); (case dt11 => (intro W hW; (try dsimp only at hW); go_split_ands; go_simp; (try with_reducible rfl))); (case' rt11 => simp only [Act.put, List.setIfInBounds_toArray, List.set_cons_zero, List.set_cons_succ]))
        (refine held_take (i := 2) (oi := ?ot12) (v := .pointer (some p)) ?at12 (by kernel_rfl) (by kernel_rfl) (by kernel_rfl) ?bt12 ?ct12 ?dt12 (by assumption) ?rt12; (case at12 => (simp only [List.getElem?_toArray, List.getElem?_cons_zero, List.getElem?_cons_succ]; rfl)); (case bt12 => exact fun _ _ _ h => h); (case ct12 => kernel_rfl); (case dt12 => (intro W hW; clear hW; go_simp; (try with_reducible rfl); (try (intro h; omega)))); (case' rt12 => simp only [Act.put, List.setIfInBounds_toArray, List.set_cons_zero, List.set_cons_succ]))
        (refine held_take (i := 3) (oi := ?ot13) (v := .agg (vec 4 (winE x))) ?at13 (by kernel_rfl) (by kernel_rfl) (by kernel_rfl) ?bt13 ?ct13 ?dt13 (by assumption) ?rt13; (case at13 => (simp only [List.getElem?_toArray, List.getElem?_cons_zero, List.getElem?_cons_succ]; rfl)); (case bt13 => exact fun _ _ _ h => h); (case ct13 => kernel_rfl); (case dt13 => (intro W hW; subst hW; exact exec_load_q 108 _ rfl p rfl _ (run_load_q HP.out.1 Tryd.underlying108 rfl infoWi))); (case' rt13 => simp only [Act.put, List.setIfInBounds_toArray, List.set_cons_zero, List.set_cons_succ]))
        (refine held_take (i := 4) (oi := ?ot14) (v := ?vt14) ?at14 (by kernel_rfl) (by kernel_rfl) (by kernel_rfl) ?bt14 ?ct14 ?dt14 (by assumption) ?rt14; (case at14 => (simp only [List.getElem?_toArray, List.getElem?_cons_zero, List.getElem?_cons_succ]; rfl)); (case bt14 => exact fun _ _ _ h => h); (case ct14 => kernel_rfl); (case dt14 => (intro W hW; (try dsimp only at hW); go_split_ands; go_simp; (try with_reducible rfl))); (case' rt14 => simp only [Act.put, List.setIfInBounds_toArray, List.set_cons_zero, List.set_cons_succ]))
        (refine held_take (i := 5) (oi := ?ot15) (v := ?vt15) ?at15 (by kernel_rfl) (by kernel_rfl) (by kernel_rfl) ?bt15 ?ct15 ?dt15 (by assumption) ?rt15; (case at15 => (simp only [List.getElem?_toArray, List.getElem?_cons_zero, List.getElem?_cons_succ]; rfl)); (case bt15 => exact fun _ _ _ h => h); (case ct15 => kernel_rfl); (case dt15 => (intro W hW; (try dsimp only at hW); go_split_ands; go_simp; (try with_reducible rfl))); (case' rt15 => simp only [Act.put, List.setIfInBounds_toArray, List.set_cons_zero, List.set_cons_succ]))
        (refine held_take (i := 6) (oi := ?ot16) (v := .pointer (some q)) ?at16 (by kernel_rfl) (by kernel_rfl) (by kernel_rfl) ?bt16 ?ct16 ?dt16 (by assumption) ?rt16; (case at16 => (simp only [List.getElem?_toArray, List.getElem?_cons_zero, List.getElem?_cons_succ]; rfl)); (case bt16 => exact fun _ _ _ h => h); (case ct16 => kernel_rfl); (case dt16 => (intro W hW; clear hW; go_simp; (try with_reducible rfl); (try (intro h; omega)))); (case' rt16 => simp only [Act.put, List.setIfInBounds_toArray, List.set_cons_zero, List.set_cons_succ]))
        (refine held_take (i := 7) (oi := ?ot17) (v := .agg (vec 4 (winE y))) ?at17 (by kernel_rfl) (by kernel_rfl) (by kernel_rfl) ?bt17 ?ct17 ?dt17 (by assumption) ?rt17; (case at17 => (simp only [List.getElem?_toArray, List.getElem?_cons_zero, List.getElem?_cons_succ]; rfl)); (case bt17 => exact fun _ _ _ h => h); (case ct17 => kernel_rfl); (case dt17 => (intro W hW; subst hW; exact exec_load_q 108 _ rfl q rfl _ (run_load_q HP.out.2 Tryd.underlying108 rfl infoWi))); (case' rt17 => simp only [Act.put, List.setIfInBounds_toArray, List.set_cons_zero, List.set_cons_succ]))
        (refine held_take (i := 8) (oi := ?ot18) (v := .bool false) ?at18 (by kernel_rfl) (by kernel_rfl) (by kernel_rfl) ?bt18 ?ct18 ?dt18 (by assumption) ?rt18; (case at18 => (simp only [List.getElem?_toArray, List.getElem?_cons_zero, List.getElem?_cons_succ]; rfl)); (case bt18 => exact fun _ _ _ h => h); (case ct18 => kernel_rfl); (case dt18 => (intro W _; exact exec_neq_win _ _ _ rfl x y rfl rfl W HB.out)); (case' rt18 => simp only [Act.put, List.setIfInBounds_toArray, List.set_cons_zero, List.set_cons_succ]))
        refine wpAnyH_done (by kernel_rfl) ?_ _
        go_wp2
        go_roundw
        case rel => exact ⟨k + 1, j + 1, by omega, by go_num, HN, rfl⟩
        case measure => simp [intOf]; omega
    · obtain rfl : k = N := by omega
      have HR : Hid (rr = true) := Lib.hid (by rw [HE.out, HP0.out])
      clear hlt0
      go_wp2_with fail
      go_ret
      exact ⟨by rw [HR.out]; rfl, j, rfl⟩
set_option maxRecDepth 100000 in
set_option maxHeartbeats 2000000 in
theorem equal_dev (l m : List De) (A B : Option Addr) (c d : Nat) (w : World) (hl : l.length ≤ 9223372036854775807) (h1 : RowE 3 devE w w.heap.size A l) (h2 : RowE 3 devE w w.heap.size B m) :
    Calls Tryd.prog 65 #[.slice A l.length c, .slice B m.length d] w (EqP (eqL deEq l m) w) := by
  by_cases hlen : l.length = m.length
  case neg =>
    rw [eqL_len hlen]
    have d1 : ((l.length : Int) != (m.length : Int)) = true := bne_iff_ne.2 (by omega)
    have d2 : ¬ (l.length : Int) = (m.length : Int) := by omega
    unfold EqP
    clear hlen h1 h2
    go_enter Tryd.func65, Tryd.ntmps65
    go_wp2
    go_ret
    exact ⟨rfl, 0, rfl⟩
  have HE := Lib.hid (eqL_all (f := deEq) hlen)
  have HNO := Lib.hid (fun k (h : eqTo deEq l m k = false) (hk : k ≤ l.length) => eqL_no h hk)
  have HL := Lib.hid hlen
  have H1 := Lib.hid h1
  have H2 := Lib.hid h2
  obtain ⟨rr, hrr⟩ : ∃ rr, rr = eqL deEq l m := ⟨_, rfl⟩
  rw [← hrr] at HE HNO ⊢
  rw [← hlen]
  obtain ⟨N, hN⟩ : ∃ N, N = l.length := ⟨_, rfl⟩
  rw [← hN] at hl HE ⊢
  have HNL := Lib.hid hN
  have HNO := Lib.hid (fun k (h : eqTo deEq l m k = false) (hk : k ≤ N) => HNO.out k h (by omega))
  clear h1 h2 hrr hlen hN
  unfold EqP
  go_enter Tryd.func65, Tryd.ntmps65
  go_wp2
  go_loopw [5, 13] (fun _ v W => ∃ k j : Nat, k ≤ N ∧ v = .int .i64 k ∧ Hid (eqTo deEq l m k = true) ∧ w.drewN j = W) (fun _ i _ => N - (intOf i).toNat)
  case atStart => exact ⟨0, 0, Nat.zero_le _, rfl, Lib.hid rfl, rfl⟩
  case round =>
    obtain ⟨k, j, hk, rfl, HP0, rfl⟩ := hrel
    by_cases hlt0 : k < N
    · have hlt : k < l.length := by have := HNL.out; omega
      have hltm : k < m.length := by have := HL.out; omega
      obtain ⟨a, p, rfl, hp, -, hcp⟩ := H1.out.at hlt
      obtain ⟨a', q, rfl, hq, -, hcq⟩ := H2.out.at hltm
      obtain ⟨x, hx⟩ : ∃ x, x = l[k] := ⟨_, rfl⟩
      obtain ⟨y, hy⟩ : ∃ y, y = m[k] := ⟨_, rfl⟩
      have hs := eqTo_succ deEq l m k hlt hltm
      rw [HP0.out, Bool.true_and, ← hx, ← hy] at hs
      rw [← hx] at hcp
      rw [← hy] at hcq
      have HP := Lib.hid (And.intro hcp hcq)
      clear hcp hcq hx hy hltm hlt
      have hki : (k : Int) < (N : Int) := by omega
      obtain ⟨b, hb⟩ : ∃ b, b = deEq x y := ⟨_, rfl⟩
      rw [← hb] at hs
      cases b
      · have HB : Hid ((!deEq x y) = true) := Lib.hid (by rw [← hb]; rfl)
        have HN := Lib.hid (HNO.out (k + 1) hs (by omega))
        clear hb hs
        go_upto_region 6 with fail
        refine wp_region_held_drew (S := fun Y => Y = (w.drewN j).drew) (by kernel_rfl) rfl (fun hS => ?_)
        (refine held_take (i := 0) (oi := ?ot19) (v := ?vt19) ?at19 (by kernel_rfl) (by kernel_rfl) (by kernel_rfl) ?bt19 ?ct19 ?dt19 (by assumption) ?rt19; (case at19 => (simp only [List.getElem?_toArray, List.getElem?_cons_zero]; rfl)); (case bt19 => exact fun _ _ _ h => h); (case ct19 => kernel_rfl); (case dt19 => (intro W hW; (try dsimp only at hW); go_split_ands; go_simp; (try with_reducible rfl))); (case' rt19 => simp only [Act.put, List.setIfInBounds_toArray, List.set_cons_zero, List.set_cons_succ]))
        (refine held_take (i := 1) (oi := ?ot20) (v := ?vt20) ?at20 (by kernel_rfl) (by kernel_rfl) (by kernel_rfl) ?bt20 ?ct20 ?dt20 (by assumption) ?rt20; (case at20 => (simp only [List.getElem?_toArray, List.getElem?_cons_zero, List.getElem?_cons_succ]; rfl)); (case bt20 => exact fun _ _ _ h => h); (case ct20 => kernel_rfl); (case dt20 => (intro W hW; (try dsimp only at hW); go_split_ands; go_simp; (try with_reducible rfl))); (case' rt20 => simp only [Act.put, List.setIfInBounds_toArray, List.set_cons_zero, List.set_cons_succ]))
        (refine held_take (i := 2) (oi := ?ot21) (v := .pointer (some p)) ?at21 (by kernel_rfl) (by kernel_rfl) (by kernel_rfl) ?bt21 ?ct21 ?dt21 (by assumption) ?rt21; (case at21 => (simp only [List.getElem?_toArray, List.getElem?_cons_zero, List.getElem?_cons_succ]; rfl)); (case bt21 => exact fun _ _ _ h => h); (case ct21 => kernel_rfl); (case dt21 => (intro W hW; clear hW; go_simp; (try with_reducible rfl); (try (intro h; omega)))); (case' rt21 => simp only [Act.put, List.setIfInBounds_toArray, List.set_cons_zero, List.set_cons_succ]))
        (refine held_take (i := 3) (oi := ?ot22) (v := .agg (vec 3 (devE x))) ?at22 (by kernel_rfl) (by kernel_rfl) (by kernel_rfl) ?bt22 ?ct22 ?dt22 (by assumption) ?rt22; (case at22 => (simp only [List.getElem?_toArray, List.getElem?_cons_zero, List.getElem?_cons_succ]; rfl)); (case bt22 => exact fun _ _ _ h => h); (case ct22 => kernel_rfl); (case dt22 => (intro W hW; subst hW; exact exec_load_q 110 _ rfl p rfl _ (run_load_q HP.out.1 Tryd.underlying110 rfl infoDe))); (case' rt22 => simp only [Act.put, List.setIfInBounds_toArray, List.set_cons_zero, List.set_cons_succ]))
        (refine held_take (i := 4) (oi := ?ot23) (v := ?vt23) ?at23 (by kernel_rfl) (by kernel_rfl) (by kernel_rfl) ?bt23 ?ct23 ?dt23 (by assumption) ?rt23; (case at23 => (simp only [List.getElem?_toArray, List.getElem?_cons_zero, List.getElem?_cons_succ]; rfl)); (case bt23 => exact fun _ _ _ h => h); (case ct23 => kernel_rfl); (case dt23 => (intro W hW; (try dsimp only at hW); go_split_ands; go_simp; (try with_reducible rfl))); (case' rt23 => simp only [Act.put, List.setIfInBounds_toArray, List.set_cons_zero, List.set_cons_succ]))
        (refine held_take (i := 5) (oi := ?ot24) (v := ?vt24) ?at24 (by kernel_rfl) (by kernel_rfl) (by kernel_rfl) ?bt24 ?ct24 ?dt24 (by assumption) ?rt24; (case at24 => (simp only [List.getElem?_toArray, List.getElem?_cons_zero, List.getElem?_cons_succ]; rfl)); (case bt24 => exact fun _ _ _ h => h); (case ct24 => kernel_rfl); (case dt24 => (intro W hW; (try dsimp only at hW); go_split_ands; go_simp; (try with_reducible rfl))); (case' rt24 => simp only [Act.put, List.setIfInBounds_toArray, List.set_cons_zero, List.set_cons_succ]))
        (refine held_take (i := 6) (oi := ?ot25) (v := .pointer (some q)) ?at25 (by kernel_rfl) (by kernel_rfl) (by kernel_rfl) ?bt25 ?ct25 ?dt25 (by assumption) ?rt25; (case at25 => (simp only [List.getElem?_toArray, List.getElem?_cons_zero, List.getElem?_cons_succ]; rfl)); (case bt25 => exact fun _ _ _ h => h); (case ct25 => kernel_rfl); (case dt25 => (intro W hW; clear hW; go_simp; (try with_reducible rfl); (try (intro h; omega)))); (case' rt25 => simp only [Act.put, List.setIfInBounds_toArray, List.set_cons_zero, List.set_cons_succ]))
        (refine held_take (i := 7) (oi := ?ot26) (v := .agg (vec 3 (devE y))) ?at26 (by kernel_rfl) (by kernel_rfl) (by kernel_rfl) ?bt26 ?ct26 ?dt26 (by assumption) ?rt26; (case at26 => (simp only [List.getElem?_toArray, List.getElem?_cons_zero, List.getElem?_cons_succ]; rfl)); (case bt26 => exact fun _ _ _ h => h); (case ct26 => kernel_rfl); (case dt26 => (intro W hW; subst hW; exact exec_load_q 110 _ rfl q rfl _ (run_load_q HP.out.2 Tryd.underlying110 rfl infoDe))); (case' rt26 => simp only [Act.put, List.setIfInBounds_toArray, List.set_cons_zero, List.set_cons_succ]))
        (refine held_take (i := 8) (oi := ?ot27) (v := .bool true) ?at27 (by kernel_rfl) (by kernel_rfl) (by kernel_rfl) ?bt27 ?ct27 ?dt27 (by assumption) ?rt27; (case at27 => (simp only [List.getElem?_toArray, List.getElem?_cons_zero, List.getElem?_cons_succ]; rfl)); (case bt27 => exact fun _ _ _ h => h); (case ct27 => kernel_rfl); (case dt27 => (intro W _; exact exec_neq_dev _ _ _ rfl x y rfl rfl W HB.out)); (case' rt27 => simp only [Act.put, List.setIfInBounds_toArray, List.set_cons_zero, List.set_cons_succ]))
        refine wpAnyH_done (by kernel_rfl) ?_ _
        go_wp2
        go_ret
        exact ⟨by rw [HN.out]; rfl, j + 1, rfl⟩
      · have HB : Hid ((!deEq x y) = false) := Lib.hid (by rw [← hb]; rfl)
        have HN := Lib.hid hs
        clear hb hs
        go_upto_region 6 with fail
        refine wp_region_held_drew (S := fun Y => Y = (w.drewN j).drew) (by kernel_rfl) rfl (fun hS => ?_)
        (refine held_take (i := 0) (oi := ?ot28) (v := ?vt28) ?at28 (by kernel_rfl) (by kernel_rfl) (by kernel_rfl) ?bt28 ?ct28 ?dt28 (by assumption) ?rt28; (case at28 => (simp only [List.getElem?_toArray, List.getElem?_cons_zero]; rfl)); (case bt28 => exact fun _ _ _ h => h); (case ct28 => kernel_rfl); (case dt28 => (intro W hW; (try dsimp only at hW); go_split_ands; go_simp; (try with_reducible rfl))); (case' rt28 => simp only [Act.put, List.setIfInBounds_toArray, List.set_cons_zero, List.set_cons_succ]))
        (refine held_take (i := 1) (oi := ?ot29) (v := ?vt29) ?at29 (by kernel_rfl) (by kernel_rfl) (by kernel_rfl) ?bt29 ?ct29 ?dt29 (by assumption) ?rt29; (case at29 => (simp only [List.getElem?_toArray, List.getElem?_cons_zero, List.getElem?_cons_succ]; rfl)); (case bt29 => exact fun _ _ _ h => h); (case ct29 => kernel_rfl); (case dt29 => (intro W hW; (try dsimp only at hW); go_split_ands; go_simp; (try with_reducible rfl))); (case' rt29 => simp only [Act.put, List.setIfInBounds_toArray, List.set_cons_zero, List.set_cons_succ]))
        (refine held_take (i := 2) (oi := ?ot30) (v := .pointer (some p)) ?at30 (by kernel_rfl) (by kernel_rfl) (by kernel_rfl) ?bt30 ?ct30 ?dt30 (by assumption) ?rt30; (case at30 => (simp only [List.getElem?_toArray, List.getElem?_cons_zero, List.getElem?_cons_succ]; rfl)); (case bt30 => exact fun _ _ _ h => h); (case ct30 => kernel_rfl); (case dt30 => (intro W hW; clear hW; go_simp; (try with_reducible rfl); (try (intro h; omega)))); (case' rt30 => simp only [Act.put, List.setIfInBounds_toArray, List.set_cons_zero, List.set_cons_succ]))
        (refine held_take (i := 3) (oi := ?ot31) (v := .agg (vec 3 (devE x))) ?at31 (by kernel_rfl) (by kernel_rfl) (by kernel_rfl) ?bt31 ?ct31 ?dt31 (by assumption) ?rt31; (case at31 => (simp only [List.getElem?_toArray, List.getElem?_cons_zero, List.getElem?_cons_succ]; rfl)); (case bt31 => exact fun _ _ _ h => h); (case ct31 => kernel_rfl); (case dt31 => (intro W hW; subst hW; exact exec_load_q 110 _ rfl p rfl _ (run_load_q HP.out.1 Tryd.underlying110 rfl infoDe))); (case' rt31 => simp only [Act.put, List.setIfInBounds_toArray, List.set_cons_zero, List.set_cons_succ]))
        (refine held_take (i := 4) (oi := ?ot32) (v := ?vt32) ?at32 (by kernel_rfl) (by kernel_rfl) (by kernel_rfl) ?bt32 ?ct32 ?dt32 (by assumption) ?rt32; (case at32 => (simp only [List.getElem?_toArray, List.getElem?_cons_zero, List.getElem?_cons_succ]; rfl)); (case bt32 => exact fun _ _ _ h => h); (case ct32 => kernel_rfl); (case dt32 => (intro W hW; (try dsimp only at hW); go_split_ands; go_simp; (try with_reducible rfl))); (case' rt32 => simp only [Act.put, List.setIfInBounds_toArray, List.set_cons_zero, List.set_cons_succ]))
        (refine held_take (i := 5) (oi := ?ot33) (v := ?vt33) ?at33 (by kernel_rfl) (by kernel_rfl) (by kernel_rfl) ?bt33 ?ct33 ?dt33 (by assumption) ?rt33; (case at33 => (simp only [List.getElem?_toArray, List.getElem?_cons_zero, List.getElem?_cons_succ]; rfl)); (case bt33 => exact fun _ _ _ h => h); (case ct33 => kernel_rfl); (case dt33 => (intro W hW; (try dsimp only at hW); go_split_ands; go_simp; (try with_reducible rfl))); (case' rt33 => simp only [Act.put, List.setIfInBounds_toArray, List.set_cons_zero, List.set_cons_succ]))
        (refine held_take (i := 6) (oi := ?ot34) (v := .pointer (some q)) ?at34 (by kernel_rfl) (by kernel_rfl) (by kernel_rfl) ?bt34 ?ct34 ?dt34 (by assumption) ?rt34; (case at34 => (simp only [List.getElem?_toArray, List.getElem?_cons_zero, List.getElem?_cons_succ]; rfl)); (case bt34 => exact fun _ _ _ h => h); (case ct34 => kernel_rfl); (case dt34 => (intro W hW; clear hW; go_simp; (try with_reducible rfl); (try (intro h; omega)))); (case' rt34 => simp only [Act.put, List.setIfInBounds_toArray, List.set_cons_zero, List.set_cons_succ]))
        (refine held_take (i := 7) (oi := ?ot35) (v := .agg (vec 3 (devE y))) ?at35 (by kernel_rfl) (by kernel_rfl) (by kernel_rfl) ?bt35 ?ct35 ?dt35 (by assumption) ?rt35; (case at35 => (simp only [List.getElem?_toArray, List.getElem?_cons_zero, List.getElem?_cons_succ]; rfl)); (case bt35 => exact fun _ _ _ h => h); (case ct35 => kernel_rfl); (case dt35 => (intro W hW; subst hW; exact exec_load_q 110 _ rfl q rfl _ (run_load_q HP.out.2 Tryd.underlying110 rfl infoDe))); (case' rt35 => simp only [Act.put, List.setIfInBounds_toArray, List.set_cons_zero, List.set_cons_succ]))
        (refine held_take (i := 8) (oi := ?ot36) (v := .bool false) ?at36 (by kernel_rfl) (by kernel_rfl) (by kernel_rfl) ?bt36 ?ct36 ?dt36 (by assumption) ?rt36; (case at36 => (simp only [List.getElem?_toArray, List.getElem?_cons_zero, List.getElem?_cons_succ]; rfl)); (case bt36 => exact fun _ _ _ h => h); (case ct36 => kernel_rfl); (case dt36 => (intro W _; exact exec_neq_dev _ _ _ rfl x y rfl rfl W HB.out)); (case' rt36 => simp only [Act.put, List.setIfInBounds_toArray, List.set_cons_zero, List.set_cons_succ]))
        refine wpAnyH_done (by kernel_rfl) ?_ _
        go_wp2
        go_roundw
        case rel => exact ⟨k + 1, j + 1, by omega, by go_num, HN, rfl⟩
        case measure => simp [intOf]; omega
    · obtain rfl : k = N := by omega
      have HR : Hid (rr = true) := Lib.hid (by rw [HE.out, HP0.out])
      clear hlt0
      go_wp2_with fail
      go_ret
      exact ⟨by rw [HR.out]; rfl, j, rfl⟩
set_option maxRecDepth 100000 in
set_option maxHeartbeats 2000000 in
theorem equal_irq (l m : List Ir) (A B : Option Addr) (c d : Nat) (w : World) (hl : l.length ≤ 9223372036854775807) (h1 : RowE 3 irqE w w.heap.size A l) (h2 : RowE 3 irqE w w.heap.size B m) :
    Calls Tryd.prog 66 #[.slice A l.length c, .slice B m.length d] w (EqP (eqL irEq l m) w) := by
  by_cases hlen : l.length = m.length
  case neg =>
    rw [eqL_len hlen]
    have d1 : ((l.length : Int) != (m.length : Int)) = true := bne_iff_ne.2 (by omega)
    have d2 : ¬ (l.length : Int) = (m.length : Int) := by omega
    unfold EqP
    clear hlen h1 h2
    go_enter Tryd.func66, Tryd.ntmps66
    go_wp2
    go_ret
    exact ⟨rfl, 0, rfl⟩
  have HE := Lib.hid (eqL_all (f := irEq) hlen)
  have HNO := Lib.hid (fun k (h : eqTo irEq l m k = false) (hk : k ≤ l.length) => eqL_no h hk)
  have HL := Lib.hid hlen
  have H1 := Lib.hid h1
  have H2 := Lib.hid h2
  obtain ⟨rr, hrr⟩ : ∃ rr, rr = eqL irEq l m := ⟨_, rfl⟩
  rw [← hrr] at HE HNO ⊢
  rw [← hlen]
  obtain ⟨N, hN⟩ : ∃ N, N = l.length := ⟨_, rfl⟩
  rw [← hN] at hl HE ⊢
  have HNL := Lib.hid hN
  have HNO := Lib.hid (fun k (h : eqTo irEq l m k = false) (hk : k ≤ N) => HNO.out k h (by omega))
  clear h1 h2 hrr hlen hN
  unfold EqP
  go_enter Tryd.func66, Tryd.ntmps66
  go_wp2
  go_loopw [5, 13] (fun _ v W => ∃ k j : Nat, k ≤ N ∧ v = .int .i64 k ∧ Hid (eqTo irEq l m k = true) ∧ w.drewN j = W) (fun _ i _ => N - (intOf i).toNat)
  case atStart => exact ⟨0, 0, Nat.zero_le _, rfl, Lib.hid rfl, rfl⟩
  case round =>
    obtain ⟨k, j, hk, rfl, HP0, rfl⟩ := hrel
    by_cases hlt0 : k < N
    · have hlt : k < l.length := by have := HNL.out; omega
      have hltm : k < m.length := by have := HL.out; omega
      obtain ⟨a, p, rfl, hp, -, hcp⟩ := H1.out.at hlt
      obtain ⟨a', q, rfl, hq, -, hcq⟩ := H2.out.at hltm
      obtain ⟨x, hx⟩ : ∃ x, x = l[k] := ⟨_, rfl⟩
      obtain ⟨y, hy⟩ : ∃ y, y = m[k] := ⟨_, rfl⟩
      have hs := eqTo_succ irEq l m k hlt hltm
      rw [HP0.out, Bool.true_and, ← hx, ← hy] at hs
      rw [← hx] at hcp
      rw [← hy] at hcq
      have HP := Lib.hid (And.intro hcp hcq)
      clear hcp hcq hx hy hltm hlt
      have hki : (k : Int) < (N : Int) := by omega
      obtain ⟨b, hb⟩ : ∃ b, b = irEq x y := ⟨_, rfl⟩
      rw [← hb] at hs
      cases b
      · have HB : Hid ((!irEq x y) = true) := Lib.hid (by rw [← hb]; rfl)
        have HN := Lib.hid (HNO.out (k + 1) hs (by omega))
        clear hb hs
        go_upto_region 6 with fail
        refine wp_region_held_drew (S := fun Y => Y = (w.drewN j).drew) (by kernel_rfl) rfl (fun hS => ?_)
        (refine held_take (i := 0) (oi := ?ot37) (v := ?vt37) ?at37 (by kernel_rfl) (by kernel_rfl) (by kernel_rfl) ?bt37 ?ct37 ?dt37 (by assumption) ?rt37; (case at37 => (simp only [List.getElem?_toArray, List.getElem?_cons_zero]; rfl)); (case bt37 => exact fun _ _ _ h => h); (case ct37 => kernel_rfl); (case dt37 => (intro W hW; (try dsimp only at hW); go_split_ands; go_simp; (try with_reducible rfl))); (case' rt37 => simp only [Act.put, List.setIfInBounds_toArray, List.set_cons_zero, List.set_cons_succ]))
        (refine held_take (i := 1) (oi := ?ot38) (v := ?vt38) ?at38 (by kernel_rfl) (by kernel_rfl) (by kernel_rfl) ?bt38 ?ct38 ?dt38 (by assumption) ?rt38; (case at38 => (simp only [List.getElem?_toArray, List.getElem?_cons_zero, List.getElem?_cons_succ]; rfl)); (case bt38 => exact fun _ _ _ h => h); (case ct38 => kernel_rfl); (case dt38 => (intro W hW; (try dsimp only at hW); go_split_ands; go_simp; (try with_reducible rfl))); (case' rt38 => simp only [Act.put, List.setIfInBounds_toArray, List.set_cons_zero, List.set_cons_succ]))
        (refine held_take (i := 2) (oi := ?ot39) (v := .pointer (some p)) ?at39 (by kernel_rfl) (by kernel_rfl) (by kernel_rfl) ?bt39 ?ct39 ?dt39 (by assumption) ?rt39; (case at39 => (simp only [List.getElem?_toArray, List.getElem?_cons_zero, List.getElem?_cons_succ]; rfl)); (case bt39 => exact fun _ _ _ h => h); (case ct39 => kernel_rfl); (case dt39 => (intro W hW; clear hW; go_simp; (try with_reducible rfl); (try (intro h; omega)))); (case' rt39 => simp only [Act.put, List.setIfInBounds_toArray, List.set_cons_zero, List.set_cons_succ]))
        (refine held_take (i := 3) (oi := ?ot40) (v := .agg (vec 3 (irqE x))) ?at40 (by kernel_rfl) (by kernel_rfl) (by kernel_rfl) ?bt40 ?ct40 ?dt40 (by assumption) ?rt40; (case at40 => (simp only [List.getElem?_toArray, List.getElem?_cons_zero, List.getElem?_cons_succ]; rfl)); (case bt40 => exact fun _ _ _ h => h); (case ct40 => kernel_rfl); (case dt40 => (intro W hW; subst hW; exact exec_load_q 112 _ rfl p rfl _ (run_load_q HP.out.1 Tryd.underlying112 rfl infoIr))); (case' rt40 => simp only [Act.put, List.setIfInBounds_toArray, List.set_cons_zero, List.set_cons_succ]))
        (refine held_take (i := 4) (oi := ?ot41) (v := ?vt41) ?at41 (by kernel_rfl) (by kernel_rfl) (by kernel_rfl) ?bt41 ?ct41 ?dt41 (by assumption) ?rt41; (case at41 => (simp only [List.getElem?_toArray, List.getElem?_cons_zero, List.getElem?_cons_succ]; rfl)); (case bt41 => exact fun _ _ _ h => h); (case ct41 => kernel_rfl); (case dt41 => (intro W hW; (try dsimp only at hW); go_split_ands; go_simp; (try with_reducible rfl))); (case' rt41 => simp only [Act.put, List.setIfInBounds_toArray, List.set_cons_zero, List.set_cons_succ]))
        (refine held_take (i := 5) (oi := ?ot42) (v := ?vt42) ?at42 (by kernel_rfl) (by kernel_rfl) (by kernel_rfl) ?bt42 ?ct42 ?dt42 (by assumption) ?rt42; (case at42 => (simp only [List.getElem?_toArray, List.getElem?_cons_zero, List.getElem?_cons_succ]; rfl)); (case bt42 => exact fun _ _ _ h => h); (case ct42 => kernel_rfl); (case dt42 => (intro W hW; (try dsimp only at hW); go_split_ands; go_simp; (try with_reducible rfl))); (case' rt42 => simp only [Act.put, List.setIfInBounds_toArray, List.set_cons_zero, List.set_cons_succ]))
        (refine held_take (i := 6) (oi := ?ot43) (v := .pointer (some q)) ?at43 (by kernel_rfl) (by kernel_rfl) (by kernel_rfl) ?bt43 ?ct43 ?dt43 (by assumption) ?rt43; (case at43 => (simp only [List.getElem?_toArray, List.getElem?_cons_zero, List.getElem?_cons_succ]; rfl)); (case bt43 => exact fun _ _ _ h => h); (case ct43 => kernel_rfl); (case dt43 => (intro W hW; clear hW; go_simp; (try with_reducible rfl); (try (intro h; omega)))); (case' rt43 => simp only [Act.put, List.setIfInBounds_toArray, List.set_cons_zero, List.set_cons_succ]))
        (refine held_take (i := 7) (oi := ?ot44) (v := .agg (vec 3 (irqE y))) ?at44 (by kernel_rfl) (by kernel_rfl) (by kernel_rfl) ?bt44 ?ct44 ?dt44 (by assumption) ?rt44; (case at44 => (simp only [List.getElem?_toArray, List.getElem?_cons_zero, List.getElem?_cons_succ]; rfl)); (case bt44 => exact fun _ _ _ h => h); (case ct44 => kernel_rfl); (case dt44 => (intro W hW; subst hW; exact exec_load_q 112 _ rfl q rfl _ (run_load_q HP.out.2 Tryd.underlying112 rfl infoIr))); (case' rt44 => simp only [Act.put, List.setIfInBounds_toArray, List.set_cons_zero, List.set_cons_succ]))
        (refine held_take (i := 8) (oi := ?ot45) (v := .bool true) ?at45 (by kernel_rfl) (by kernel_rfl) (by kernel_rfl) ?bt45 ?ct45 ?dt45 (by assumption) ?rt45; (case at45 => (simp only [List.getElem?_toArray, List.getElem?_cons_zero, List.getElem?_cons_succ]; rfl)); (case bt45 => exact fun _ _ _ h => h); (case ct45 => kernel_rfl); (case dt45 => (intro W _; exact exec_neq_irq _ _ _ rfl x y rfl rfl W HB.out)); (case' rt45 => simp only [Act.put, List.setIfInBounds_toArray, List.set_cons_zero, List.set_cons_succ]))
        refine wpAnyH_done (by kernel_rfl) ?_ _
        go_wp2
        go_ret
        exact ⟨by rw [HN.out]; rfl, j + 1, rfl⟩
      · have HB : Hid ((!irEq x y) = false) := Lib.hid (by rw [← hb]; rfl)
        have HN := Lib.hid hs
        clear hb hs
        go_upto_region 6 with fail
        refine wp_region_held_drew (S := fun Y => Y = (w.drewN j).drew) (by kernel_rfl) rfl (fun hS => ?_)
        (refine held_take (i := 0) (oi := ?ot46) (v := ?vt46) ?at46 (by kernel_rfl) (by kernel_rfl) (by kernel_rfl) ?bt46 ?ct46 ?dt46 (by assumption) ?rt46; (case at46 => (simp only [List.getElem?_toArray, List.getElem?_cons_zero]; rfl)); (case bt46 => exact fun _ _ _ h => h); (case ct46 => kernel_rfl); (case dt46 => (intro W hW; (try dsimp only at hW); go_split_ands; go_simp; (try with_reducible rfl))); (case' rt46 => simp only [Act.put, List.setIfInBounds_toArray, List.set_cons_zero, List.set_cons_succ]))
        (refine held_take (i := 1) (oi := ?ot47) (v := ?vt47) ?at47 (by kernel_rfl) (by kernel_rfl) (by kernel_rfl) ?bt47 ?ct47 ?dt47 (by assumption) ?rt47; (case at47 => (simp only [List.getElem?_toArray, List.getElem?_cons_zero, List.getElem?_cons_succ]; rfl)); (case bt47 => exact fun _ _ _ h => h); (case ct47 => kernel_rfl); (case dt47 => (intro W hW; (try dsimp only at hW); go_split_ands; go_simp; (try with_reducible rfl))); (case' rt47 => simp only [Act.put, List.setIfInBounds_toArray, List.set_cons_zero, List.set_cons_succ]))
        (refine held_take (i := 2) (oi := ?ot48) (v := .pointer (some p)) ?at48 (by kernel_rfl) (by kernel_rfl) (by kernel_rfl) ?bt48 ?ct48 ?dt48 (by assumption) ?rt48; (case at48 => (simp only [List.getElem?_toArray, List.getElem?_cons_zero, List.getElem?_cons_succ]; rfl)); (case bt48 => exact fun _ _ _ h => h); (case ct48 => kernel_rfl); (case dt48 => (intro W hW; clear hW; go_simp; (try with_reducible rfl); (try (intro h; omega)))); (case' rt48 => simp only [Act.put, List.setIfInBounds_toArray, List.set_cons_zero, List.set_cons_succ]))
        (refine held_take (i := 3) (oi := ?ot49) (v := .agg (vec 3 (irqE x))) ?at49 (by kernel_rfl) (by kernel_rfl) (by kernel_rfl) ?bt49 ?ct49 ?dt49 (by assumption) ?rt49; (case at49 => (simp only [List.getElem?_toArray, List.getElem?_cons_zero, List.getElem?_cons_succ]; rfl)); (case bt49 => exact fun _ _ _ h => h); (case ct49 => kernel_rfl); (case dt49 => (intro W hW; subst hW; exact exec_load_q 112 _ rfl p rfl _ (run_load_q HP.out.1 Tryd.underlying112 rfl infoIr))); (case' rt49 => simp only [Act.put, List.setIfInBounds_toArray, List.set_cons_zero, List.set_cons_succ]))
        (refine held_take (i := 4) (oi := ?ot50) (v := ?vt50) ?at50 (by kernel_rfl) (by kernel_rfl) (by kernel_rfl) ?bt50 ?ct50 ?dt50 (by assumption) ?rt50; (case at50 => (simp only [List.getElem?_toArray, List.getElem?_cons_zero, List.getElem?_cons_succ]; rfl)); (case bt50 => exact fun _ _ _ h => h); (case ct50 => kernel_rfl); (case dt50 => (intro W hW; (try dsimp only at hW); go_split_ands; go_simp; (try with_reducible rfl))); (case' rt50 => simp only [Act.put, List.setIfInBounds_toArray, List.set_cons_zero, List.set_cons_succ]))
        (refine held_take (i := 5) (oi := ?ot51) (v := ?vt51) ?at51 (by kernel_rfl) (by kernel_rfl) (by kernel_rfl) ?bt51 ?ct51 ?dt51 (by assumption) ?rt51; (case at51 => (simp only [List.getElem?_toArray, List.getElem?_cons_zero, List.getElem?_cons_succ]; rfl)); (case bt51 => exact fun _ _ _ h => h); (case ct51 => kernel_rfl); (case dt51 => (intro W hW; (try dsimp only at hW); go_split_ands; go_simp; (try with_reducible rfl))); (case' rt51 => simp only [Act.put, List.setIfInBounds_toArray, List.set_cons_zero, List.set_cons_succ]))
        (refine held_take (i := 6) (oi := ?ot52) (v := .pointer (some q)) ?at52 (by kernel_rfl) (by kernel_rfl) (by kernel_rfl) ?bt52 ?ct52 ?dt52 (by assumption) ?rt52; (case at52 => (simp only [List.getElem?_toArray, List.getElem?_cons_zero, List.getElem?_cons_succ]; rfl)); (case bt52 => exact fun _ _ _ h => h); (case ct52 => kernel_rfl); (case dt52 => (intro W hW; clear hW; go_simp; (try with_reducible rfl); (try (intro h; omega)))); (case' rt52 => simp only [Act.put, List.setIfInBounds_toArray, List.set_cons_zero, List.set_cons_succ]))
        (refine held_take (i := 7) (oi := ?ot53) (v := .agg (vec 3 (irqE y))) ?at53 (by kernel_rfl) (by kernel_rfl) (by kernel_rfl) ?bt53 ?ct53 ?dt53 (by assumption) ?rt53; (case at53 => (simp only [List.getElem?_toArray, List.getElem?_cons_zero, List.getElem?_cons_succ]; rfl)); (case bt53 => exact fun _ _ _ h => h); (case ct53 => kernel_rfl); (case dt53 => (intro W hW; subst hW; exact exec_load_q 112 _ rfl q rfl _ (run_load_q HP.out.2 Tryd.underlying112 rfl infoIr))); (case' rt53 => simp only [Act.put, List.setIfInBounds_toArray, List.set_cons_zero, List.set_cons_succ]))
        (refine held_take (i := 8) (oi := ?ot54) (v := .bool false) ?at54 (by kernel_rfl) (by kernel_rfl) (by kernel_rfl) ?bt54 ?ct54 ?dt54 (by assumption) ?rt54; (case at54 => (simp only [List.getElem?_toArray, List.getElem?_cons_zero, List.getElem?_cons_succ]; rfl)); (case bt54 => exact fun _ _ _ h => h); (case ct54 => kernel_rfl); (case dt54 => (intro W _; exact exec_neq_irq _ _ _ rfl x y rfl rfl W HB.out)); (case' rt54 => simp only [Act.put, List.setIfInBounds_toArray, List.set_cons_zero, List.set_cons_succ]))
        refine wpAnyH_done (by kernel_rfl) ?_ _
        go_wp2
        go_roundw
        case rel => exact ⟨k + 1, j + 1, by omega, by go_num, HN, rfl⟩
        case measure => simp [intOf]; omega
    · obtain rfl : k = N := by omega
      have HR : Hid (rr = true) := Lib.hid (by rw [HE.out, HP0.out])
      clear hlt0
      go_wp2_with fail
      go_ret
      exact ⟨by rw [HR.out]; rfl, j, rfl⟩
set_option maxRecDepth 100000 in
set_option maxHeartbeats 2000000 in
theorem equal_ch (l m : List Ch) (A B : Option Addr) (c d : Nat) (w : World) (hl : l.length ≤ 9223372036854775807) (h1 : RowE 8 chE w w.heap.size A l) (h2 : RowE 8 chE w w.heap.size B m) :
    Calls Tryd.prog 36 #[.slice A l.length c, .slice B m.length d] w (EqP (eqL chEq l m) w) := by
  by_cases hlen : l.length = m.length
  case neg =>
    rw [eqL_len hlen]
    have d1 : ((l.length : Int) != (m.length : Int)) = true := bne_iff_ne.2 (by omega)
    have d2 : ¬ (l.length : Int) = (m.length : Int) := by omega
    unfold EqP
    clear hlen h1 h2
    go_enter Tryd.func36, Tryd.ntmps36
    go_wp2
    go_ret
    exact ⟨rfl, 0, rfl⟩
  have HE := Lib.hid (eqL_all (f := chEq) hlen)
  have HNO := Lib.hid (fun k (h : eqTo chEq l m k = false) (hk : k ≤ l.length) => eqL_no h hk)
  have HL := Lib.hid hlen
  have H1 := Lib.hid h1
  have H2 := Lib.hid h2
  obtain ⟨rr, hrr⟩ : ∃ rr, rr = eqL chEq l m := ⟨_, rfl⟩
  rw [← hrr] at HE HNO ⊢
  rw [← hlen]
  obtain ⟨N, hN⟩ : ∃ N, N = l.length := ⟨_, rfl⟩
  rw [← hN] at hl HE ⊢
  have HNL := Lib.hid hN
  have HNO := Lib.hid (fun k (h : eqTo chEq l m k = false) (hk : k ≤ N) => HNO.out k h (by omega))
  clear h1 h2 hrr hlen hN
  unfold EqP
  go_enter Tryd.func36, Tryd.ntmps36
  go_wp2
  go_loopw [5, 13] (fun _ v W => ∃ k j : Nat, k ≤ N ∧ v = .int .i64 k ∧ Hid (eqTo chEq l m k = true) ∧ w.drewN j = W) (fun _ i _ => N - (intOf i).toNat)
  case atStart => exact ⟨0, 0, Nat.zero_le _, rfl, Lib.hid rfl, rfl⟩
  case round =>
    obtain ⟨k, j, hk, rfl, HP0, rfl⟩ := hrel
    by_cases hlt0 : k < N
    · have hlt : k < l.length := by have := HNL.out; omega
      have hltm : k < m.length := by have := HL.out; omega
      obtain ⟨a, p, rfl, hp, -, hcp⟩ := H1.out.at hlt
      obtain ⟨a', q, rfl, hq, -, hcq⟩ := H2.out.at hltm
      obtain ⟨x, hx⟩ : ∃ x, x = l[k] := ⟨_, rfl⟩
      obtain ⟨y, hy⟩ : ∃ y, y = m[k] := ⟨_, rfl⟩
      have hs := eqTo_succ chEq l m k hlt hltm
      rw [HP0.out, Bool.true_and, ← hx, ← hy] at hs
      rw [← hx] at hcp
      rw [← hy] at hcq
      have HP := Lib.hid (And.intro hcp hcq)
      clear hcp hcq hx hy hltm hlt
      have hki : (k : Int) < (N : Int) := by omega
      obtain ⟨b, hb⟩ : ∃ b, b = chEq x y := ⟨_, rfl⟩
      rw [← hb] at hs
      cases b
      · have HB : Hid ((!chEq x y) = true) := Lib.hid (by rw [← hb]; rfl)
        have HN := Lib.hid (HNO.out (k + 1) hs (by omega))
        clear hb hs
        go_upto_region 6 with fail
        refine wp_region_held_drew (S := fun Y => Y = (w.drewN j).drew) (by kernel_rfl) rfl (fun hS => ?_)
        (refine held_take (i := 0) (oi := ?ot55) (v := ?vt55) ?at55 (by kernel_rfl) (by kernel_rfl) (by kernel_rfl) ?bt55 ?ct55 ?dt55 (by assumption) ?rt55; (case at55 => (simp only [List.getElem?_toArray, List.getElem?_cons_zero]; rfl)); (case bt55 => exact fun _ _ _ h => h); (case ct55 => kernel_rfl); (case dt55 => (intro W hW; (try dsimp only at hW); go_split_ands; go_simp; (try with_reducible rfl))); (case' rt55 => simp only [Act.put, List.setIfInBounds_toArray, List.set_cons_zero, List.set_cons_succ]))
        (refine held_take (i := 1) (oi := ?ot56) (v := ?vt56) ?at56 (by kernel_rfl) (by kernel_rfl) (by kernel_rfl) ?bt56 ?ct56 ?dt56 (by assumption) ?rt56; (case at56 => (simp only [List.getElem?_toArray, List.getElem?_cons_zero, List.getElem?_cons_succ]; rfl)); (case bt56 => exact fun _ _ _ h => h); (case ct56 => kernel_rfl); (case dt56 => (intro W hW; (try dsimp only at hW); go_split_ands; go_simp; (try with_reducible rfl))); (case' rt56 => simp only [Act.put, List.setIfInBounds_toArray, List.set_cons_zero, List.set_cons_succ]))
        (refine held_take (i := 2) (oi := ?ot57) (v := .pointer (some p)) ?at57 (by kernel_rfl) (by kernel_rfl) (by kernel_rfl) ?bt57 ?ct57 ?dt57 (by assumption) ?rt57; (case at57 => (simp only [List.getElem?_toArray, List.getElem?_cons_zero, List.getElem?_cons_succ]; rfl)); (case bt57 => exact fun _ _ _ h => h); (case ct57 => kernel_rfl); (case dt57 => (intro W hW; clear hW; go_simp; (try with_reducible rfl); (try (intro h; omega)))); (case' rt57 => simp only [Act.put, List.setIfInBounds_toArray, List.set_cons_zero, List.set_cons_succ]))
        (refine held_take (i := 3) (oi := ?ot58) (v := .agg (vec 8 (chE x))) ?at58 (by kernel_rfl) (by kernel_rfl) (by kernel_rfl) ?bt58 ?ct58 ?dt58 (by assumption) ?rt58; (case at58 => (simp only [List.getElem?_toArray, List.getElem?_cons_zero, List.getElem?_cons_succ]; rfl)); (case bt58 => exact fun _ _ _ h => h); (case ct58 => kernel_rfl); (case dt58 => (intro W hW; subst hW; exact exec_load_q 71 _ rfl p rfl _ (run_load_q HP.out.1 Tryd.underlying71 rfl infoCh))); (case' rt58 => simp only [Act.put, List.setIfInBounds_toArray, List.set_cons_zero, List.set_cons_succ]))
        (refine held_take (i := 4) (oi := ?ot59) (v := ?vt59) ?at59 (by kernel_rfl) (by kernel_rfl) (by kernel_rfl) ?bt59 ?ct59 ?dt59 (by assumption) ?rt59; (case at59 => (simp only [List.getElem?_toArray, List.getElem?_cons_zero, List.getElem?_cons_succ]; rfl)); (case bt59 => exact fun _ _ _ h => h); (case ct59 => kernel_rfl); (case dt59 => (intro W hW; (try dsimp only at hW); go_split_ands; go_simp; (try with_reducible rfl))); (case' rt59 => simp only [Act.put, List.setIfInBounds_toArray, List.set_cons_zero, List.set_cons_succ]))
        (refine held_take (i := 5) (oi := ?ot60) (v := ?vt60) ?at60 (by kernel_rfl) (by kernel_rfl) (by kernel_rfl) ?bt60 ?ct60 ?dt60 (by assumption) ?rt60; (case at60 => (simp only [List.getElem?_toArray, List.getElem?_cons_zero, List.getElem?_cons_succ]; rfl)); (case bt60 => exact fun _ _ _ h => h); (case ct60 => kernel_rfl); (case dt60 => (intro W hW; (try dsimp only at hW); go_split_ands; go_simp; (try with_reducible rfl))); (case' rt60 => simp only [Act.put, List.setIfInBounds_toArray, List.set_cons_zero, List.set_cons_succ]))
        (refine held_take (i := 6) (oi := ?ot61) (v := .pointer (some q)) ?at61 (by kernel_rfl) (by kernel_rfl) (by kernel_rfl) ?bt61 ?ct61 ?dt61 (by assumption) ?rt61; (case at61 => (simp only [List.getElem?_toArray, List.getElem?_cons_zero, List.getElem?_cons_succ]; rfl)); (case bt61 => exact fun _ _ _ h => h); (case ct61 => kernel_rfl); (case dt61 => (intro W hW; clear hW; go_simp; (try with_reducible rfl); (try (intro h; omega)))); (case' rt61 => simp only [Act.put, List.setIfInBounds_toArray, List.set_cons_zero, List.set_cons_succ]))
        (refine held_take (i := 7) (oi := ?ot62) (v := .agg (vec 8 (chE y))) ?at62 (by kernel_rfl) (by kernel_rfl) (by kernel_rfl) ?bt62 ?ct62 ?dt62 (by assumption) ?rt62; (case at62 => (simp only [List.getElem?_toArray, List.getElem?_cons_zero, List.getElem?_cons_succ]; rfl)); (case bt62 => exact fun _ _ _ h => h); (case ct62 => kernel_rfl); (case dt62 => (intro W hW; subst hW; exact exec_load_q 71 _ rfl q rfl _ (run_load_q HP.out.2 Tryd.underlying71 rfl infoCh))); (case' rt62 => simp only [Act.put, List.setIfInBounds_toArray, List.set_cons_zero, List.set_cons_succ]))
        (refine held_take (i := 8) (oi := ?ot63) (v := .bool true) ?at63 (by kernel_rfl) (by kernel_rfl) (by kernel_rfl) ?bt63 ?ct63 ?dt63 (by assumption) ?rt63; (case at63 => (simp only [List.getElem?_toArray, List.getElem?_cons_zero, List.getElem?_cons_succ]; rfl)); (case bt63 => exact fun _ _ _ h => h); (case ct63 => kernel_rfl); (case dt63 => (intro W _; exact exec_neq_ch _ _ _ rfl x y rfl rfl W HB.out)); (case' rt63 => simp only [Act.put, List.setIfInBounds_toArray, List.set_cons_zero, List.set_cons_succ]))
        refine wpAnyH_done (by kernel_rfl) ?_ _
        go_wp2
        go_ret
        exact ⟨by rw [HN.out]; rfl, j + 1, rfl⟩
      · have HB : Hid ((!chEq x y) = false) := Lib.hid (by rw [← hb]; rfl)
        have HN := Lib.hid hs
        clear hb hs
        go_upto_region 6 with fail
        refine wp_region_held_drew (S := fun Y => Y = (w.drewN j).drew) (by kernel_rfl) rfl (fun hS => ?_)
        (refine held_take (i := 0) (oi := ?ot64) (v := ?vt64) ?at64 (by kernel_rfl) (by kernel_rfl) (by kernel_rfl) ?bt64 ?ct64 ?dt64 (by assumption) ?rt64; (case at64 => (simp only [List.getElem?_toArray, List.getElem?_cons_zero]; rfl)); (case bt64 => exact fun _ _ _ h => h); (case ct64 => kernel_rfl); (case dt64 => (intro W hW; (try dsimp only at hW); go_split_ands; go_simp; (try with_reducible rfl))); (case' rt64 => simp only [Act.put, List.setIfInBounds_toArray, List.set_cons_zero, List.set_cons_succ]))
        (refine held_take (i := 1) (oi := ?ot65) (v := ?vt65) ?at65 (by kernel_rfl) (by kernel_rfl) (by kernel_rfl) ?bt65 ?ct65 ?dt65 (by assumption) ?rt65; (case at65 => (simp only [List.getElem?_toArray, List.getElem?_cons_zero, List.getElem?_cons_succ]; rfl)); (case bt65 => exact fun _ _ _ h => h); (case ct65 => kernel_rfl); (case dt65 => (intro W hW; (try dsimp only at hW); go_split_ands; go_simp; (try with_reducible rfl))); (case' rt65 => simp only [Act.put, List.setIfInBounds_toArray, List.set_cons_zero, List.set_cons_succ]))
        (refine held_take (i := 2) (oi := ?ot66) (v := .pointer (some p)) ?at66 (by kernel_rfl) (by kernel_rfl) (by kernel_rfl) ?bt66 ?ct66 ?dt66 (by assumption) ?rt66; (case at66 => (simp only [List.getElem?_toArray, List.getElem?_cons_zero, List.getElem?_cons_succ]; rfl)); (case bt66 => exact fun _ _ _ h => h); (case ct66 => kernel_rfl); (case dt66 => (intro W hW; clear hW; go_simp; (try with_reducible rfl); (try (intro h; omega)))); (case' rt66 => simp only [Act.put, List.setIfInBounds_toArray, List.set_cons_zero, List.set_cons_succ]))
        (refine held_take (i := 3) (oi := ?ot67) (v := .agg (vec 8 (chE x))) ?at67 (by kernel_rfl) (by kernel_rfl) (by kernel_rfl) ?bt67 ?ct67 ?dt67 (by assumption) ?rt67; (case at67 => (simp only [List.getElem?_toArray, List.getElem?_cons_zero, List.getElem?_cons_succ]; rfl)); (case bt67 => exact fun _ _ _ h => h); (case ct67 => kernel_rfl); (case dt67 => (intro W hW; subst hW; exact exec_load_q 71 _ rfl p rfl _ (run_load_q HP.out.1 Tryd.underlying71 rfl infoCh))); (case' rt67 => simp only [Act.put, List.setIfInBounds_toArray, List.set_cons_zero, List.set_cons_succ]))
        (refine held_take (i := 4) (oi := ?ot68) (v := ?vt68) ?at68 (by kernel_rfl) (by kernel_rfl) (by kernel_rfl) ?bt68 ?ct68 ?dt68 (by assumption) ?rt68; (case at68 => (simp only [List.getElem?_toArray, List.getElem?_cons_zero, List.getElem?_cons_succ]; rfl)); (case bt68 => exact fun _ _ _ h => h); (case ct68 => kernel_rfl); (case dt68 => (intro W hW; (try dsimp only at hW); go_split_ands; go_simp; (try with_reducible rfl))); (case' rt68 => simp only [Act.put, List.setIfInBounds_toArray, List.set_cons_zero, List.set_cons_succ]))
        (refine held_take (i := 5) (oi := ?ot69) (v := ?vt69) ?at69 (by kernel_rfl) (by kernel_rfl) (by kernel_rfl) ?bt69 ?ct69 ?dt69 (by assumption) ?rt69; (case at69 => (simp only [List.getElem?_toArray, List.getElem?_cons_zero, List.getElem?_cons_succ]; rfl)); (case bt69 => exact fun _ _ _ h => h); (case ct69 => kernel_rfl); (case dt69 => (intro W hW; (try dsimp only at hW); go_split_ands; go_simp; (try with_reducible rfl))); (case' rt69 => simp only [Act.put, List.setIfInBounds_toArray, List.set_cons_zero, List.set_cons_succ]))
        (refine held_take (i := 6) (oi := ?ot70) (v := .pointer (some q)) ?at70 (by kernel_rfl) (by kernel_rfl) (by kernel_rfl) ?bt70 ?ct70 ?dt70 (by assumption) ?rt70; (case at70 => (simp only [List.getElem?_toArray, List.getElem?_cons_zero, List.getElem?_cons_succ]; rfl)); (case bt70 => exact fun _ _ _ h => h); (case ct70 => kernel_rfl); (case dt70 => (intro W hW; clear hW; go_simp; (try with_reducible rfl); (try (intro h; omega)))); (case' rt70 => simp only [Act.put, List.setIfInBounds_toArray, List.set_cons_zero, List.set_cons_succ]))
        (refine held_take (i := 7) (oi := ?ot71) (v := .agg (vec 8 (chE y))) ?at71 (by kernel_rfl) (by kernel_rfl) (by kernel_rfl) ?bt71 ?ct71 ?dt71 (by assumption) ?rt71; (case at71 => (simp only [List.getElem?_toArray, List.getElem?_cons_zero, List.getElem?_cons_succ]; rfl)); (case bt71 => exact fun _ _ _ h => h); (case ct71 => kernel_rfl); (case dt71 => (intro W hW; subst hW; exact exec_load_q 71 _ rfl q rfl _ (run_load_q HP.out.2 Tryd.underlying71 rfl infoCh))); (case' rt71 => simp only [Act.put, List.setIfInBounds_toArray, List.set_cons_zero, List.set_cons_succ]))
        (refine held_take (i := 8) (oi := ?ot72) (v := .bool false) ?at72 (by kernel_rfl) (by kernel_rfl) (by kernel_rfl) ?bt72 ?ct72 ?dt72 (by assumption) ?rt72; (case at72 => (simp only [List.getElem?_toArray, List.getElem?_cons_zero, List.getElem?_cons_succ]; rfl)); (case bt72 => exact fun _ _ _ h => h); (case ct72 => kernel_rfl); (case dt72 => (intro W _; exact exec_neq_ch _ _ _ rfl x y rfl rfl W HB.out)); (case' rt72 => simp only [Act.put, List.setIfInBounds_toArray, List.set_cons_zero, List.set_cons_succ]))
        refine wpAnyH_done (by kernel_rfl) ?_ _
        go_wp2
        go_roundw
        case rel => exact ⟨k + 1, j + 1, by omega, by go_num, HN, rfl⟩
        case measure => simp [intOf]; omega
    · obtain rfl : k = N := by omega
      have HR : Hid (rr = true) := Lib.hid (by rw [HE.out, HP0.out])
      clear hlt0
      go_wp2_with fail
      go_ret
      exact ⟨by rw [HR.out]; rfl, j, rfl⟩
set_option maxRecDepth 100000 in
set_option maxHeartbeats 2000000 in
theorem equal_num (l m : List Int) (A B : Option Addr) (c d : Nat) (w : World) (hl : l.length ≤ 9223372036854775807) (h1 : RowE 1 numE w w.heap.size A l) (h2 : RowE 1 numE w w.heap.size B m) :
    Calls Tryd.prog 67 #[.slice A l.length c, .slice B m.length d] w (EqP (eqL nuEq l m) w) := by
  by_cases hlen : l.length = m.length
  case neg =>
    rw [eqL_len hlen]
    have d1 : ((l.length : Int) != (m.length : Int)) = true := bne_iff_ne.2 (by omega)
    have d2 : ¬ (l.length : Int) = (m.length : Int) := by omega
    unfold EqP
    clear hlen h1 h2
    go_enter Tryd.func67, Tryd.ntmps67
    go_wp2
    go_ret
    exact ⟨rfl, 0, rfl⟩
  have HE := Lib.hid (eqL_all (f := nuEq) hlen)
  have HNO := Lib.hid (fun k (h : eqTo nuEq l m k = false) (hk : k ≤ l.length) => eqL_no h hk)
  have HL := Lib.hid hlen
  have H1 := Lib.hid h1
  have H2 := Lib.hid h2
  obtain ⟨rr, hrr⟩ : ∃ rr, rr = eqL nuEq l m := ⟨_, rfl⟩
  rw [← hrr] at HE HNO ⊢
  rw [← hlen]
  obtain ⟨N, hN⟩ : ∃ N, N = l.length := ⟨_, rfl⟩
  rw [← hN] at hl HE ⊢
  have HNL := Lib.hid hN
  have HNO := Lib.hid (fun k (h : eqTo nuEq l m k = false) (hk : k ≤ N) => HNO.out k h (by omega))
  clear h1 h2 hrr hlen hN
  unfold EqP
  go_enter Tryd.func67, Tryd.ntmps67
  go_wp2
  go_loopw [5, 13] (fun _ v W => ∃ k j : Nat, k ≤ N ∧ v = .int .i64 k ∧ Hid (eqTo nuEq l m k = true) ∧ w.drewN j = W) (fun _ i _ => N - (intOf i).toNat)
  case atStart => exact ⟨0, 0, Nat.zero_le _, rfl, Lib.hid rfl, rfl⟩
  case round =>
    obtain ⟨k, j, hk, rfl, HP0, rfl⟩ := hrel
    by_cases hlt0 : k < N
    · have hlt : k < l.length := by have := HNL.out; omega
      have hltm : k < m.length := by have := HL.out; omega
      obtain ⟨a, p, rfl, hp, -, hcp⟩ := H1.out.at hlt
      obtain ⟨a', q, rfl, hq, -, hcq⟩ := H2.out.at hltm
      obtain ⟨x, hx⟩ : ∃ x, x = l[k] := ⟨_, rfl⟩
      obtain ⟨y, hy⟩ : ∃ y, y = m[k] := ⟨_, rfl⟩
      have hs := eqTo_succ nuEq l m k hlt hltm
      rw [HP0.out, Bool.true_and, ← hx, ← hy] at hs
      rw [← hx] at hcp
      rw [← hy] at hcq
      have HP := Lib.hid (And.intro hcp hcq)
      have hcp1 : w.cell? (a.add k) = some (.int .u32 x) := by have := hcp 0 (by decide); rw [← hp, addr_add_add, Nat.mul_one, Nat.add_zero] at this; exact this
      have hcq1 : w.cell? (a'.add k) = some (.int .u32 y) := by have := hcq 0 (by decide); rw [← hq, addr_add_add, Nat.mul_one, Nat.add_zero] at this; exact this
      clear hp hq
      clear hcp hcq hx hy hltm hlt
      have hki : (k : Int) < (N : Int) := by omega
      obtain ⟨b, hb⟩ : ∃ b, b = nuEq x y := ⟨_, rfl⟩
      rw [← hb] at hs
      cases b
      · have HB : Hid ((!nuEq x y) = true) := Lib.hid (by rw [← hb]; rfl)
        have HN := Lib.hid (HNO.out (k + 1) hs (by omega))
        clear hb hs
        go_upto_region 6 with fail
        have d1 : (x != y) = true := HB.out
        go_quiet (fail)
        go_wp2
        go_ret
        exact ⟨by rw [HN.out]; rfl, j + nq, by first | rfl | rw [World.drewN_drewN]⟩
      · have HB : Hid ((!nuEq x y) = false) := Lib.hid (by rw [← hb]; rfl)
        have HN := Lib.hid hs
        clear hb hs
        go_upto_region 6 with fail
        have d1 : (x != y) = false := HB.out
        go_quiet (fail)
        go_wp2
        go_roundw
        case rel => exact ⟨k + 1, j + nq, by omega, by go_num, HN, by first | rfl | rw [World.drewN_drewN]⟩
        case measure => simp [intOf]; omega
    · obtain rfl : k = N := by omega
      have HR : Hid (rr = true) := Lib.hid (by rw [HE.out, HP0.out])
      clear hlt0
      go_wp2_with fail
      go_ret
      exact ⟨by rw [HR.out]; rfl, j, rfl⟩
end Go.Proofs.YtmcpmcicolpoeaaDoor
