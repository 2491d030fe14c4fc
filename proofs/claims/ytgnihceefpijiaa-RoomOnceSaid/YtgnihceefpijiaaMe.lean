/- Merged: Eq1, Es. -/
import Derived.Laws.StructEq
import Derived.Laws.Small
import Derived.ChangeKeysEq
import Derived.Test.YtgnihceefpijiaaMc
/- Windows, devices, irqs, ends, channels, keys: alike or not. -/
namespace Go.Proofs.Ytgnihceefpijiaa
open Go.RowKit

def wiEq (x y : Wi) : Bool := x.ipa == y.ipa && (x.pa == y.pa && (x.size == y.size && (x.perm == y.perm && true)))
def deEq (x y : De) : Bool := x.ipa == y.ipa && (x.pa == y.pa && (x.size == y.size && true))
def irEq (x y : Ir) : Bool := x.number == y.number && (x.cpu == y.cpu && (x.edge == y.edge && true))
def enEq (x y : En) : Bool := x.guest == y.guest && (x.perm == y.perm && (x.ipa == y.ipa && true))
def chEq (x y : Ch) : Bool := x.pa == y.pa && (x.size == y.size && ((enEq x.a y.a && enEq x.b y.b) && true))
theorem wiEq_self (x : Wi) : wiEq x x = true := by simp [wiEq]
theorem deEq_self (x : De) : deEq x x = true := by simp [deEq]
theorem irEq_self (x : Ir) : irEq x x = true := by simp [irEq]
theorem enEq_self (x : En) : enEq x x = true := by simp [enEq]
theorem chEq_self (x : Ch) : chEq x x = true := by simp [chEq, enEq_self]
theorem eqF_nil {P : Program} (d : Nat) (xs ys : Array Value) (w : World) : (Op.eqFields (d + 1) xs ys []).run P w = .ok true w := by simp [Op.eqFields]
theorem eqF_cons {P : Program} (d : Nat) (xs ys : Array Value) (w : World) (f : Field) (fs : List Field) (hn : f.name ≠ "_") (v u : Value) (b r : Bool) (hp : (Go.part f.type xs f.offset).run P w = .ok v w) (hq : (Go.part f.type ys f.offset).run P w = .ok u w)
    (he : (Op.equalIn (d + 1) f.type v u).run P w = .ok b w) (hr : (Op.eqFields (d + 1) xs ys fs).run P w = .ok r w) : (Op.eqFields (d + 1) xs ys (f :: fs)).run P w = .ok (b && r) w := by
  unfold Op.eqFields
  rw [if_pos hn]
  simp only [Sem.run_bind, hp, hq, he, Result.andThen_ok]
  cases b
  · simp
  · simp only [Bool.not_true, Bool.false_eq_true, if_false, Bool.true_and]
    exact hr
theorem partU64 (xs : Array Value) (k : Nat) (v : Value) (h : xs[k]? = some v) (w : World) : (Go.part 37 xs k).run Try.prog w = .ok v w := by
  simp [Go.part, go_sem, Try.isAgg37, Try.sizeOf37, h]
theorem partU32 (xs : Array Value) (k : Nat) (v : Value) (h : xs[k]? = some v) (w : World) : (Go.part 22 xs k).run Try.prog w = .ok v w := by
  simp [Go.part, go_sem, Try.isAgg22, Try.sizeOf22, h]
theorem partI (xs : Array Value) (k : Nat) (v : Value) (h : xs[k]? = some v) (w : World) : (Go.part 3 xs k).run Try.prog w = .ok v w := by
  simp [Go.part, go_sem, Try.isAgg3, Try.sizeOf3, h]
theorem partB (xs : Array Value) (k : Nat) (v : Value) (h : xs[k]? = some v) (w : World) : (Go.part 4 xs k).run Try.prog w = .ok v w := by
  simp [Go.part, go_sem, Try.isAgg4, Try.sizeOf4, h]
theorem partU8 (xs : Array Value) (k : Nat) (v : Value) (h : xs[k]? = some v) (w : World) : (Go.part 5 xs k).run Try.prog w = .ok v w := by
  simp [Go.part, go_sem, Try.isAgg5, Try.sizeOf5, h]
set_option maxRecDepth 100000 in
theorem equalIn_win (d : Nat) (x y : Wi) (w : World) : (Op.equalIn (d + 2) 64 (.agg (vec 4 (winE x))) (.agg (vec 4 (winE y)))).run Try.prog w = .ok (wiEq x y) w := by
  rw [run_equalIn_struct (P := Try.prog) w (d + 1) 64 _ _ (by kernel_rfl) (by kernel_rfl)]
  unfold Program.fieldsOf
  rw [Try.underlying64]
  exact eqF_cons _ _ _ w _ _ (by decide) _ _ _ _ (partU64 _ 0 _ (vec_at 4 _ 0 (by decide)) w) (partU64 _ 0 _ (vec_at 4 _ 0 (by decide)) w) (run_equalIn_int (P := Try.prog) w _ 37 .u64 .u64 _ _ Try.underlying37) (eqF_cons _ _ _ w _ _ (by decide) _ _ _ _ (partU64 _ 1 _ (vec_at 4 _ 1 (by decide)) w) (partU64 _ 1 _ (vec_at 4 _ 1 (by decide)) w) (run_equalIn_int (P := Try.prog) w _ 37 .u64 .u64 _ _ Try.underlying37) (eqF_cons _ _ _ w _ _ (by decide) _ _ _ _ (partU64 _ 2 _ (vec_at 4 _ 2 (by decide)) w) (partU64 _ 2 _ (vec_at 4 _ 2 (by decide)) w) (run_equalIn_int (P := Try.prog) w _ 37 .u64 .u64 _ _ Try.underlying37) (eqF_cons _ _ _ w _ _ (by decide) _ _ _ _ (partI _ 3 _ (vec_at 4 _ 3 (by decide)) w) (partI _ 3 _ (vec_at 4 _ 3 (by decide)) w) (run_equalIn_int (P := Try.prog) w _ 3 .i64 .i64 _ _ Try.underlying3) (eqF_nil _ _ _ w))))
set_option maxRecDepth 100000 in
theorem equalIn_dev (d : Nat) (x y : De) (w : World) : (Op.equalIn (d + 2) 72 (.agg (vec 3 (devE x))) (.agg (vec 3 (devE y)))).run Try.prog w = .ok (deEq x y) w := by
  rw [run_equalIn_struct (P := Try.prog) w (d + 1) 72 _ _ (by kernel_rfl) (by kernel_rfl)]
  unfold Program.fieldsOf
  rw [Try.underlying72]
  exact eqF_cons _ _ _ w _ _ (by decide) _ _ _ _ (partU64 _ 0 _ (vec_at 3 _ 0 (by decide)) w) (partU64 _ 0 _ (vec_at 3 _ 0 (by decide)) w) (run_equalIn_int (P := Try.prog) w _ 37 .u64 .u64 _ _ Try.underlying37) (eqF_cons _ _ _ w _ _ (by decide) _ _ _ _ (partU64 _ 1 _ (vec_at 3 _ 1 (by decide)) w) (partU64 _ 1 _ (vec_at 3 _ 1 (by decide)) w) (run_equalIn_int (P := Try.prog) w _ 37 .u64 .u64 _ _ Try.underlying37) (eqF_cons _ _ _ w _ _ (by decide) _ _ _ _ (partU64 _ 2 _ (vec_at 3 _ 2 (by decide)) w) (partU64 _ 2 _ (vec_at 3 _ 2 (by decide)) w) (run_equalIn_int (P := Try.prog) w _ 37 .u64 .u64 _ _ Try.underlying37) (eqF_nil _ _ _ w)))
set_option maxRecDepth 100000 in
theorem equalIn_irq (d : Nat) (x y : Ir) (w : World) : (Op.equalIn (d + 2) 118 (.agg (vec 3 (irqE x))) (.agg (vec 3 (irqE y)))).run Try.prog w = .ok (irEq x y) w := by
  rw [run_equalIn_struct (P := Try.prog) w (d + 1) 118 _ _ (by kernel_rfl) (by kernel_rfl)]
  unfold Program.fieldsOf
  rw [Try.underlying118]
  exact eqF_cons _ _ _ w _ _ (by decide) _ _ _ _ (partI _ 0 _ (vec_at 3 _ 0 (by decide)) w) (partI _ 0 _ (vec_at 3 _ 0 (by decide)) w) (run_equalIn_int (P := Try.prog) w _ 3 .i64 .i64 _ _ Try.underlying3) (eqF_cons _ _ _ w _ _ (by decide) _ _ _ _ (partI _ 1 _ (vec_at 3 _ 1 (by decide)) w) (partI _ 1 _ (vec_at 3 _ 1 (by decide)) w) (run_equalIn_int (P := Try.prog) w _ 3 .i64 .i64 _ _ Try.underlying3) (eqF_cons _ _ _ w _ _ (by decide) _ _ _ _ (partB _ 2 _ (vec_at 3 _ 2 (by decide)) w) (partB _ 2 _ (vec_at 3 _ 2 (by decide)) w) (run_equalIn_bool (P := Try.prog) w _ 4 _ _ Try.underlying4) (eqF_nil _ _ _ w)))
set_option maxRecDepth 100000 in
theorem equalIn_end (d : Nat) (x y : En) (w : World) : (Op.equalIn (d + 2) 51 (.agg (vec 3 (endE x))) (.agg (vec 3 (endE y)))).run Try.prog w = .ok (enEq x y) w := by
  rw [run_equalIn_struct (P := Try.prog) w (d + 1) 51 _ _ (by kernel_rfl) (by kernel_rfl)]
  unfold Program.fieldsOf
  rw [Try.underlying51]
  exact eqF_cons _ _ _ w _ _ (by decide) _ _ _ _ (partI _ 0 _ (vec_at 3 _ 0 (by decide)) w) (partI _ 0 _ (vec_at 3 _ 0 (by decide)) w) (run_equalIn_int (P := Try.prog) w _ 3 .i64 .i64 _ _ Try.underlying3) (eqF_cons _ _ _ w _ _ (by decide) _ _ _ _ (partI _ 1 _ (vec_at 3 _ 1 (by decide)) w) (partI _ 1 _ (vec_at 3 _ 1 (by decide)) w) (run_equalIn_int (P := Try.prog) w _ 3 .i64 .i64 _ _ Try.underlying3) (eqF_cons _ _ _ w _ _ (by decide) _ _ _ _ (partU64 _ 2 _ (vec_at 3 _ 2 (by decide)) w) (partU64 _ 2 _ (vec_at 3 _ 2 (by decide)) w) (run_equalIn_int (P := Try.prog) w _ 37 .u64 .u64 _ _ Try.underlying37) (eqF_nil _ _ _ w)))
theorem vec_ext (n o m : Nat) (f : Nat → Value) (h : o + m ≤ n) : (vec n f).extract o (o + m) = vec m (fun i => f (o + i)) := by
  apply Array.ext_getElem?
  intro i
  by_cases hi : i < m
  · rw [vec_at m _ i hi, Array.getElem?_extract, if_pos (by rw [vec_size]; omega), vec_at n f _ (by omega)]
  · rw [Array.getElem?_eq_none (by rw [Array.size_extract, vec_size]; omega), Array.getElem?_eq_none (by rw [vec_size]; omega)]
theorem part_ends (x : Ch) (w : World) : (Go.part 52 (vec 8 (chE x)) 2).run Try.prog w = .ok (.agg (vec 6 (twoE x.a x.b))) w := by
  have e : vec 6 (fun i => chE x (2 + i)) = vec 6 (twoE x.a x.b) := vec_congr fun i _ => by rw [Nat.add_comm]; rfl
  have h := vec_ext 8 2 6 (chE x) (by decide)
  rw [e] at h
  simp [Go.part, go_sem, Try.isAgg52, Try.sizeOf52, h]
theorem part_enda (a b : En) (w : World) : (Go.part 51 (vec 6 (twoE a b)) 0).run Try.prog w = .ok (.agg (vec 3 (endE a))) w := by
  have e : vec 3 (fun i => twoE a b (0 + i)) = vec 3 (endE a) := vec_congr fun i hi => by unfold twoE; rw [Nat.zero_add, if_pos hi]
  have h := vec_ext 6 0 3 (twoE a b) (by decide)
  rw [e] at h
  simp [Go.part, go_sem, Try.isAgg51, Try.sizeOf51, h]
theorem part_endb (a b : En) (w : World) : (Go.part 51 (vec 6 (twoE a b)) 3).run Try.prog w = .ok (.agg (vec 3 (endE b))) w := by
  have e : vec 3 (fun i => twoE a b (3 + i)) = vec 3 (endE b) := vec_congr fun i hi => by unfold twoE; rw [if_neg (by omega), show 3 + i - 3 = i by omega]
  have h := vec_ext 6 3 3 (twoE a b) (by decide)
  rw [e] at h
  simp [Go.part, go_sem, Try.isAgg51, Try.sizeOf51, h]
set_option maxRecDepth 100000 in
theorem equalIn_two (d : Nat) (a b a' b' : En) (w : World) : (Op.equalIn (d + 4) 52 (.agg (vec 6 (twoE a b))) (.agg (vec 6 (twoE a' b')))).run Try.prog w = .ok (enEq a a' && enEq b b') w := by
  obtain ⟨i, hi, hs⟩ : ∃ i, Try.prog.info? 51 = some i ∧ i.size = 3 := by
    have h : (Try.prog.info? 51).map (·.size) = some 3 := by kernel_rfl
    cases hq : Try.prog.info? 51 with
    | none => simp [hq] at h
    | some i => exact ⟨i, rfl, by simpa [hq] using h⟩
  have := run_equalIn_array (P := Try.prog) w (d + 3) (vec 6 (twoE a b)) (vec 6 (twoE a' b')) Try.underlying52 hi
  have hc : Try.prog.cellsOf 51 = 3 := by kernel_rfl
  have h1 := equalIn_end (d + 1) a a' w
  have h2 := equalIn_end (d + 1) b b' w
  have hit : (Op.eqItems (d + 3) 51 3 (vec 6 (twoE a b)) (vec 6 (twoE a' b')) [0, 1]).run Try.prog w = .ok (enEq a a' && enEq b b') w := by
    have p0 := part_enda a b w
    have p1 := part_endb a b w
    have q0 := part_enda a' b' w
    have q1 := part_endb a' b' w
    cases e1 : enEq a a' <;> cases e2 : enEq b b' <;> rw [e1] at h1 <;> rw [e2] at h2 <;> simp [Op.eqItems, Sem.run_bind, p0, p1, q0, q1, h1, h2]
  rw [hc, show List.range 2 = [0, 1] from rfl, hit] at this
  exact this
set_option maxRecDepth 100000 in
theorem equalIn_ch (d : Nat) (x y : Ch) (w : World) : (Op.equalIn (d + 6) 54 (.agg (vec 8 (chE x))) (.agg (vec 8 (chE y)))).run Try.prog w = .ok (chEq x y) w := by
  rw [run_equalIn_struct (P := Try.prog) w (d + 5) 54 _ _ (by kernel_rfl) (by kernel_rfl)]
  unfold Program.fieldsOf
  rw [Try.underlying54]
  exact eqF_cons _ _ _ w _ _ (by decide) _ _ _ _ (partU64 _ 0 _ (vec_at 8 _ 0 (by decide)) w) (partU64 _ 0 _ (vec_at 8 _ 0 (by decide)) w) (run_equalIn_int (P := Try.prog) w _ 37 .u64 .u64 _ _ Try.underlying37) (eqF_cons _ _ _ w _ _ (by decide) _ _ _ _ (partU64 _ 1 _ (vec_at 8 _ 1 (by decide)) w) (partU64 _ 1 _ (vec_at 8 _ 1 (by decide)) w) (run_equalIn_int (P := Try.prog) w _ 37 .u64 .u64 _ _ Try.underlying37)
    (eqF_cons _ _ _ w _ _ (by decide) _ _ _ _ (part_ends x w) (part_ends y w) (equalIn_two (d + 1) _ _ _ _ w) (eqF_nil _ _ _ w)))
theorem neq_win (x y : Wi) (w : World) : (binOp .neq 64 (.agg (vec 4 (winE x))) (.agg (vec 4 (winE y)))).run Try.prog w = .ok (.bool (!wiEq x y)) w := by
  rw [run_neq_struct, equalIn_win 9998]; rfl
theorem exec_neq_win {o : Oper} {a : Act} (x y : Operand) (t : TypeId) (ho : o.op = .binOp .neq 64 x y t) (p q : Wi) (hx : a.eval x = .agg (vec 4 (winE p))) (hy : a.eval y = .agg (vec 4 (winE q))) (w : World) {b : Bool} (hb : (!wiEq p q) = b) :
    (execOp a.eval o).run Try.prog w = .ok (.value (.bool b)) w := by
  subst hb
  unfold execOp
  simp only [ho, hx, hy, Sem.run_bind, Sem.run_pure, run_eqGuard_agg (P := Try.prog) w .neq 64 x y _ _ (by kernel_rfl), neq_win, Result.andThen_ok]
theorem neq_dev (x y : De) (w : World) : (binOp .neq 72 (.agg (vec 3 (devE x))) (.agg (vec 3 (devE y)))).run Try.prog w = .ok (.bool (!deEq x y)) w := by
  rw [run_neq_struct, equalIn_dev 9998]; rfl
theorem exec_neq_dev {o : Oper} {a : Act} (x y : Operand) (t : TypeId) (ho : o.op = .binOp .neq 72 x y t) (p q : De) (hx : a.eval x = .agg (vec 3 (devE p))) (hy : a.eval y = .agg (vec 3 (devE q))) (w : World) {b : Bool} (hb : (!deEq p q) = b) :
    (execOp a.eval o).run Try.prog w = .ok (.value (.bool b)) w := by
  subst hb
  unfold execOp
  simp only [ho, hx, hy, Sem.run_bind, Sem.run_pure, run_eqGuard_agg (P := Try.prog) w .neq 72 x y _ _ (by kernel_rfl), neq_dev, Result.andThen_ok]
theorem neq_irq (x y : Ir) (w : World) : (binOp .neq 118 (.agg (vec 3 (irqE x))) (.agg (vec 3 (irqE y)))).run Try.prog w = .ok (.bool (!irEq x y)) w := by
  rw [run_neq_struct, equalIn_irq 9998]; rfl
theorem exec_neq_irq {o : Oper} {a : Act} (x y : Operand) (t : TypeId) (ho : o.op = .binOp .neq 118 x y t) (p q : Ir) (hx : a.eval x = .agg (vec 3 (irqE p))) (hy : a.eval y = .agg (vec 3 (irqE q))) (w : World) {b : Bool} (hb : (!irEq p q) = b) :
    (execOp a.eval o).run Try.prog w = .ok (.value (.bool b)) w := by
  subst hb
  unfold execOp
  simp only [ho, hx, hy, Sem.run_bind, Sem.run_pure, run_eqGuard_agg (P := Try.prog) w .neq 118 x y _ _ (by kernel_rfl), neq_irq, Result.andThen_ok]
theorem neq_ch (x y : Ch) (w : World) : (binOp .neq 54 (.agg (vec 8 (chE x))) (.agg (vec 8 (chE y)))).run Try.prog w = .ok (.bool (!chEq x y)) w := by
  rw [run_neq_struct, equalIn_ch 9994]; rfl
theorem exec_neq_ch {o : Oper} {a : Act} (x y : Operand) (t : TypeId) (ho : o.op = .binOp .neq 54 x y t) (p q : Ch) (hx : a.eval x = .agg (vec 8 (chE p))) (hy : a.eval y = .agg (vec 8 (chE q))) (w : World) {b : Bool} (hb : (!chEq p q) = b) :
    (execOp a.eval o).run Try.prog w = .ok (.value (.bool b)) w := by
  subst hb
  unfold execOp
  simp only [ho, hx, hy, Sem.run_bind, Sem.run_pure, run_eqGuard_agg (P := Try.prog) w .neq 54 x y _ _ (by kernel_rfl), neq_ch, Result.andThen_ok]
/-- Two keys. -/
def kyEq (f g : Nat → UInt8) : Bool := (List.range 68).all fun i => f i == g i
theorem kyEq_self (f : Nat → UInt8) : kyEq f f = true := by simp [kyEq]
theorem eq_items_k (f g : Nat → UInt8) (d : Nat) (w : World) : ∀ is : List Nat, (∀ i ∈ is, i < 68) → (Op.eqItems (d + 1) 5 1 (vec 68 (bys f)) (vec 68 (bys g)) is).run Try.prog w = .ok (is.all fun i => f i == g i) w
  | [], _ => by simp [Op.eqItems]
  | i :: is, h => by
    have ih := eq_items_k f g d w is (fun j hj => h j (by simp [hj]))
    have hp := partU8 (vec 68 (bys f)) (i * 1) (bys f i) (by rw [Nat.mul_one]; exact vec_at 68 _ i (h i (by simp))) w
    have hq := partU8 (vec 68 (bys g)) (i * 1) (bys g i) (by rw [Nat.mul_one]; exact vec_at 68 _ i (h i (by simp))) w
    have he : (Op.equalIn (d + 1) 5 (bys f i) (bys g i)).run Try.prog w = .ok (f i == g i) w := by
      have := run_equalIn_int (P := Try.prog) w d 5 .u8 .u8 ((f i).toNat : Int) ((g i).toNat : Int) Try.underlying5
      have e : (((f i).toNat : Int) == ((g i).toNat : Int)) = (f i == g i) := by
        by_cases h : f i = g i
        · rw [h]; simp
        · have h1 : (f i == g i) = false := by simp [h]
          have h2 : ¬ ((f i).toNat : Int) = ((g i).toNat : Int) := fun e => h (UInt8.toNat_inj.1 (Int.ofNat.inj e))
          rw [h1]; simp only [beq_eq_false_iff_ne, ne_eq]; exact h2
      rw [e] at this
      exact this
    simp only [Op.eqItems, Sem.run_bind, hp, hq, Result.andThen_ok, he, List.all_cons]
    cases hx : (f i == g i)
    · simp
    · simp only [Bool.true_and]; exact ih
set_option maxRecDepth 100000 in
theorem equalIn_key (f g : Nat → UInt8) (w : World) : (Op.equalIn 10000 55 (.agg (vec 68 (bys f))) (.agg (vec 68 (bys g)))).run Try.prog w = .ok (kyEq f g) w := by
  obtain ⟨i, hi, hs⟩ : ∃ i, Try.prog.info? 5 = some i ∧ i.size = 1 := by
    have h : (Try.prog.info? 5).map (·.size) = some 1 := by kernel_rfl
    cases hq : Try.prog.info? 5 with
    | none => simp [hq] at h
    | some i => exact ⟨i, rfl, by simpa [hq] using h⟩
  have := run_equalIn_array (P := Try.prog) w 9999 (vec 68 (bys f)) (vec 68 (bys g)) Try.underlying55 hi
  have hc : Try.prog.cellsOf 5 = 1 := by kernel_rfl
  rw [hc, eq_items_k f g 9998 w (List.range 68) (fun i hi => List.mem_range.1 hi)] at this
  exact this
theorem eql_key (f g : Nat → UInt8) (w : World) : (binOp .eql 55 (.agg (vec 68 (bys f))) (.agg (vec 68 (bys g)))).run Try.prog w = .ok (.bool (kyEq f g)) w := by
  rw [run_eql_struct, equalIn_key]; rfl
theorem neq_key (f g : Nat → UInt8) (w : World) : (binOp .neq 55 (.agg (vec 68 (bys f))) (.agg (vec 68 (bys g)))).run Try.prog w = .ok (.bool (!kyEq f g)) w := by
  rw [run_neq_struct, equalIn_key]; rfl
theorem exec_eql_key {o : Oper} {a : Act} (x y : Operand) (t : TypeId) (ho : o.op = .binOp .eql 55 x y t) (f g : Nat → UInt8) (hx : a.eval x = .agg (vec 68 (bys f))) (hy : a.eval y = .agg (vec 68 (bys g))) (w : World) {b : Bool} (hb : kyEq f g = b) :
    (execOp a.eval o).run Try.prog w = .ok (.value (.bool b)) w := by
  subst hb
  unfold execOp
  simp only [ho, hx, hy, Sem.run_bind, Sem.run_pure, run_eqGuard_agg (P := Try.prog) w .eql 55 x y _ _ (by kernel_rfl), eql_key, Result.andThen_ok]
theorem exec_neq_key {o : Oper} {a : Act} (x y : Operand) (t : TypeId) (ho : o.op = .binOp .neq 55 x y t) (f g : Nat → UInt8) (hx : a.eval x = .agg (vec 68 (bys f))) (hy : a.eval y = .agg (vec 68 (bys g))) (w : World) {b : Bool} (hb : (!kyEq f g) = b) :
    (execOp a.eval o).run Try.prog w = .ok (.value (.bool b)) w := by
  subst hb
  unfold execOp
  simp only [ho, hx, hy, Sem.run_bind, Sem.run_pure, run_eqGuard_agg (P := Try.prog) w .neq 55 x y _ _ (by kernel_rfl), neq_key, Result.andThen_ok]
/-- Two lists, up to place k. -/
def eqTo {α : Type} (f : α → α → Bool) (l m : List α) (k : Nat) : Bool := (List.range k).all fun j => match l[j]?, m[j]? with | some x, some y => f x y | _, _ => false
def eqL {α : Type} (f : α → α → Bool) (l m : List α) : Bool := decide (l.length = m.length) && eqTo f l m l.length
theorem eqTo_zero {α : Type} (f : α → α → Bool) (l m : List α) : eqTo f l m 0 = true := rfl
theorem eqTo_succ {α : Type} (f : α → α → Bool) (l m : List α) (k : Nat) (hl : k < l.length) (hm : k < m.length) : eqTo f l m (k + 1) = (eqTo f l m k && f l[k] m[k]) := by
  unfold eqTo
  rw [List.range_succ, List.all_append]
  simp [hl, hm]
theorem eqTo_no {α : Type} {f : α → α → Bool} {l m : List α} {k n : Nat} (h : eqTo f l m k = false) (hk : k ≤ n) : eqTo f l m n = false := by
  unfold eqTo at *
  rw [List.all_eq_false] at *
  obtain ⟨x, hx, h⟩ := h
  exact ⟨x, List.mem_range.2 (by have := List.mem_range.1 hx; omega), h⟩
theorem eqL_no {α : Type} {f : α → α → Bool} {l m : List α} {k : Nat} (h : eqTo f l m k = false) (hk : k ≤ l.length) : eqL f l m = false := by
  unfold eqL
  rw [eqTo_no h hk]; simp
theorem eqL_len {α : Type} {f : α → α → Bool} {l m : List α} (h : l.length ≠ m.length) : eqL f l m = false := by
  unfold eqL; simp [h]
theorem eqL_all {α : Type} {f : α → α → Bool} {l m : List α} (h : l.length = m.length) : eqL f l m = eqTo f l m l.length := by
  unfold eqL; simp [h]
theorem eqL_self {α : Type} {f : α → α → Bool} (hf : ∀ x, f x x = true) (l : List α) : eqL f l l = true := by
  rw [eqL_all rfl]
  unfold eqTo
  rw [List.all_eq_true]
  intro j hj
  have hj := List.mem_range.1 hj
  simp [hj, hf]
end Go.Proofs.Ytgnihceefpijiaa
/- slices.Equal, of five kinds. -/
namespace Go.Proofs.Ytgnihceefpijiaa
open Go.RowKit

def nuEq (x y : Int) : Bool := x == y
theorem nuEq_self (x : Int) : nuEq x x = true := by simp [nuEq]
/-- Lists alike, or not. -/
def EqP (r : Bool) (w : World) (e : Ending) (w' : World) : Prop := e = .returned (.bool r) ∧ ∃ k, w' = w.drewN k
end Go.Proofs.Ytgnihceefpijiaa
