/- Headers as values: cells, sizes, zeros, equality; a header with its bytes. -/
import Derived.Laws.StructEq
import Derived.Laws.Small
import Derived.ChangeKeysEq
import Derived.Test.YtgoblolbkchggaaDoorIh
namespace Go.Proofs.YtgoblolbkchggaaDoor
open Go.RowKit

def hdF (h : Hd) : Nat → Value
  | 0 => .int .u32 h.ver
  | 1 => .int .u32 h.size
  | 2 => .string (strOf h.name)
  | i + 3 => bys (kF h.dig) i
def hvF (h : Hd) (b : By) : Nat → Value := fun i => if i < 35 then hdF h i else bys (kF b) (i - 35)
theorem hdF_one (h : Hd) (n : Nat) : ∀ i, i < n → (hdF h i).oneCell' = true := by
  intro i _
  unfold hdF
  split <;> rfl
theorem hvF_one (h : Hd) (b : By) (n : Nat) : ∀ i, i < n → (hvF h b i).oneCell' = true := by
  intro i _
  unfold hvF
  split
  · exact hdF_one h (i + 1) i (Nat.lt_succ_self _)
  · rfl
theorem hvF_hd (h : Hd) (b : By) (i : Nat) (hi : i < 35) : hvF h b i = hdF h i := by unfold hvF; rw [if_pos hi]
theorem hvF_by (h : Hd) (b : By) (i : Nat) : hvF h b (35 + i) = bys (kF b) i := by unfold hvF; rw [if_neg (by omega), Nat.add_sub_cancel_left]
theorem hdF_dig (h : Hd) (i : Nat) : hdF h (3 + i) = bys (kF h.dig) i := by rw [Nat.add_comm]; rfl
def zs (n : Nat) : By := List.replicate n 0
def zHd : Hd := ⟨0, 0, [], zs 32⟩
theorem zs_len (n : Nat) : (zs n).length = n := by simp [zs]
theorem zHd_b : HdB zHd := ⟨⟨by decide, by decide⟩, ⟨by decide, by decide⟩, rfl⟩
theorem info32 : (Tryd.prog.info? 24).map (·.size) = some 32 := by kernel_rfl
theorem infoHd : (Tryd.prog.info? 26).map (·.size) = some 35 := by kernel_rfl
theorem infoHv : (Tryd.prog.info? 49).map (·.size) = some 99 := by kernel_rfl
theorem info64 : (Tryd.prog.info? 47).map (·.size) = some 64 := by kernel_rfl
theorem info16 : (Tryd.prog.info? 66).map (·.size) = some 16 := by kernel_rfl
theorem zeroHd (w : World) : (zeroValue 26).run Tryd.prog w = .ok (.agg (vec 35 (hdF zHd))) w :=
  (zero_of_info (P := Tryd.prog) (t := 26) (v := .agg (vec 35 (hdF zHd))) (n := 35) (by kernel_rfl)).1 w
theorem zeroHv (w : World) : (zeroValue 49).run Tryd.prog w = .ok (.agg (vec 99 (hvF zHd (zs 64)))) w :=
  (zero_of_info (P := Tryd.prog) (t := 49) (v := .agg (vec 99 (hvF zHd (zs 64)))) (n := 99) (by kernel_rfl)).1 w
theorem zero16 (w : World) : (zeroValue 66).run Tryd.prog w = .ok (.agg (vec 16 (bys (kF (zs 16))))) w :=
  (zero_of_info (P := Tryd.prog) (t := 66) (v := .agg (vec 16 (bys (kF (zs 16))))) (n := 16) (by kernel_rfl)).1 w
theorem built_hv (h : Hd) (b : By) : Tryd.prog.built 49 [(0, .agg (vec 35 (hdF h))), (1, .agg (vec 64 (bys (kF b))))] = some (vec 99 (hvF h b)) := by kernel_rfl
theorem built_hd (v s : Int) (n d : By) : Tryd.prog.built 26 [(0, .int .u32 v), (1, .int .u32 s), (2, .string (strOf n)), (3, .agg (vec 32 (bys (kF d))))] = some (vec 35 (hdF ⟨v, s, n, d⟩)) := by kernel_rfl
theorem built_vs (v s : Int) : Tryd.prog.built 26 [(0, .int .u32 v), (1, .int .u32 s)] = some (vec 35 (hdF ⟨v, s, [], zs 32⟩)) := by kernel_rfl
theorem built_z : Tryd.prog.built 26 [] = some (vec 35 (hdF zHd)) := by kernel_rfl
/-! ### Equality -/
theorem vec_extract (n o m : Nat) (f : Nat → Value) (h : o + m ≤ n) : (vec n f).extract o (o + m) = vec m (fun i => f (o + i)) := by
  apply Array.ext_getElem?
  intro i
  by_cases hi : i < m
  · rw [vec_at m _ i hi, Array.getElem?_extract, if_pos (by rw [vec_size]; omega), vec_at n f _ (by omega)]
  · rw [Array.getElem?_eq_none (by rw [Array.size_extract, vec_size]; omega), Array.getElem?_eq_none (by rw [vec_size]; omega)]
theorem eqF_nil {P : Program} (d : Nat) (xs ys : Array Value) (w : World) : (Op.eqFields (d + 1) xs ys []).run P w = .ok true w := by simp [Op.eqFields]
theorem eqF_cons {P : Program} (d : Nat) (xs ys : Array Value) (w : World) (f : Field) (fs : List Field) (hn : f.name ≠ "_") (v u : Value) (b r : Bool) (hp : (Go.part f.type xs f.offset).run P w = .ok v w) (hq : (Go.part f.type ys f.offset).run P w = .ok u w)
    (he : (Op.equalIn (d + 1) f.type v u).run P w = .ok b w) (hr : (Op.eqFields (d + 1) xs ys fs).run P w = .ok r w) : (Op.eqFields (d + 1) xs ys (f :: fs)).run P w = .ok (b && r) w := by
  unfold Op.eqFields
  rw [if_pos hn]
  simp only [Sem.run_bind, hp, hq, he, Result.andThen_ok]
  cases b
  · simp
  · simp only [Bool.not_true, Bool.false_eq_true, if_false, Bool.true_and]
    exact hr
theorem partU32 (xs : Array Value) (k : Nat) (v : Value) (h : xs[k]? = some v) (w : World) : (Go.part 22 xs k).run Tryd.prog w = .ok v w := by
  simp [Go.part, go_sem, Tryd.isAgg22, Tryd.sizeOf22, h]
theorem partStr (xs : Array Value) (k : Nat) (v : Value) (h : xs[k]? = some v) (w : World) : (Go.part 9 xs k).run Tryd.prog w = .ok v w := by
  simp [Go.part, go_sem, Tryd.isAgg9, Tryd.sizeOf9, h]
theorem partU8 (xs : Array Value) (k : Nat) (v : Value) (h : xs[k]? = some v) (w : World) : (Go.part 5 xs k).run Tryd.prog w = .ok v w := by
  simp [Go.part, go_sem, Tryd.isAgg5, Tryd.sizeOf5, h]
theorem partDig (h : Hd) (w : World) : (Go.part 24 (vec 35 (hdF h)) 3).run Tryd.prog w = .ok (.agg (vec 32 (bys (kF h.dig)))) w := by
  have e : vec 32 (fun i => hdF h (3 + i)) = vec 32 (bys (kF h.dig)) := vec_congr fun i _ => hdF_dig h i
  have k := vec_extract 35 3 32 (hdF h) (by decide)
  rw [e] at k
  simp [Go.part, go_sem, Tryd.isAgg24, Tryd.sizeOf24, k]
theorem partHd (h : Hd) (b : By) (w : World) : (Go.part 26 (vec 99 (hvF h b)) 0).run Tryd.prog w = .ok (.agg (vec 35 (hdF h))) w := by
  have e : vec 35 (fun i => hvF h b (0 + i)) = vec 35 (hdF h) := vec_congr fun i hi => by rw [Nat.zero_add]; exact hvF_hd h b i hi
  have k := vec_extract 99 0 35 (hvF h b) (by decide)
  rw [e] at k
  simp [Go.part, go_sem, Tryd.isAgg26, Tryd.sizeOf26, k]
theorem partBy (h : Hd) (b : By) (w : World) : (Go.part 47 (vec 99 (hvF h b)) 35).run Tryd.prog w = .ok (.agg (vec 64 (bys (kF b)))) w := by
  have e : vec 64 (fun i => hvF h b (35 + i)) = vec 64 (bys (kF b)) := vec_congr fun i _ => hvF_by h b i
  have k := vec_extract 99 35 64 (hvF h b) (by decide)
  rw [e] at k
  simp [Go.part, go_sem, Tryd.isAgg47, Tryd.sizeOf47, k]
theorem eq_items_b (n : Nat) (f g : Nat → UInt8) (d : Nat) (w : World) : ∀ is : List Nat, (∀ i ∈ is, i < n) → (Op.eqItems (d + 1) 5 1 (vec n (bys f)) (vec n (bys g)) is).run Tryd.prog w = .ok (is.all fun i => f i == g i) w
  | [], _ => by simp [Op.eqItems]
  | i :: is, h => by
    have ih := eq_items_b n f g d w is (fun j hj => h j (by simp [hj]))
    have hp := partU8 (vec n (bys f)) (i * 1) (bys f i) (by rw [Nat.mul_one]; exact vec_at n _ i (h i (by simp))) w
    have hq := partU8 (vec n (bys g)) (i * 1) (bys g i) (by rw [Nat.mul_one]; exact vec_at n _ i (h i (by simp))) w
    have he : (Op.equalIn (d + 1) 5 (bys f i) (bys g i)).run Tryd.prog w = .ok (f i == g i) w := by
      have := run_equalIn_int (P := Tryd.prog) w d 5 .u8 .u8 ((f i).toNat : Int) ((g i).toNat : Int) Tryd.underlying5
      have e : (((f i).toNat : Int) == ((g i).toNat : Int)) = (f i == g i) := by
        by_cases h : f i = g i
        · rw [h]; simp
        · have h1 : (f i == g i) = false := by simp [h]
          have h2 : ¬ ((f i).toNat : Int) = ((g i).toNat : Int) := fun e => h (UInt8.toNat_inj.1 (Int.ofNat.inj e))
          rw [h1]; simp only [beq_eq_false_iff_ne, ne_eq]; exact h2
      rw [e] at this
      exact this
    simp only [Op.eqItems, Sem.run_bind, hp, hq, Result.andThen_ok, he, List.all_cons]
    cases hx : (f i == g i)
    · simp
    · simp only [Bool.true_and]; exact ih
def bEq (n : Nat) (f g : Nat → UInt8) : Bool := (List.range n).all fun i => f i == g i
theorem bEq_self (n : Nat) (f : Nat → UInt8) : bEq n f f = true := by simp [bEq]
theorem bEq_is {a b : By} (n : Nat) (ha : a.length = n) (hb : b.length = n) : bEq n (kF a) (kF b) = decide (a = b) := by
  by_cases h : a = b
  · subst h; rw [bEq_self]; simp
  · rw [decide_eq_false h]
    cases hx : bEq n (kF a) (kF b)
    · rfl
    · exfalso
      apply h
      refine List.ext_getElem (ha.trans hb.symm) fun i h1 h2 => ?_
      have := List.all_eq_true.1 hx i (List.mem_range.2 (by omega))
      simpa [kF, h1, h2] using this
theorem info_u8' : ∃ i, Tryd.prog.info? 5 = some i ∧ i.size = 1 := by
  have h : (Tryd.prog.info? 5).map (·.size) = some 1 := by kernel_rfl
  cases hq : Tryd.prog.info? 5 with
  | none => simp [hq] at h
  | some i => exact ⟨i, rfl, by simpa [hq] using h⟩
theorem equalIn_node (d : Nat) (f g : Nat → UInt8) (w : World) : (Op.equalIn (d + 2) 24 (.agg (vec 32 (bys f))) (.agg (vec 32 (bys g)))).run Tryd.prog w = .ok (bEq 32 f g) w := by
  obtain ⟨i, hi, hs⟩ := info_u8'
  have := run_equalIn_array (P := Tryd.prog) w (d + 1) (vec 32 (bys f)) (vec 32 (bys g)) Tryd.underlying24 hi
  have hc : Tryd.prog.cellsOf 5 = 1 := by kernel_rfl
  rw [hc, eq_items_b 32 f g d w (List.range 32) (fun i hi => List.mem_range.1 hi)] at this
  exact this
theorem equalIn_b64 (d : Nat) (f g : Nat → UInt8) (w : World) : (Op.equalIn (d + 2) 47 (.agg (vec 64 (bys f))) (.agg (vec 64 (bys g)))).run Tryd.prog w = .ok (bEq 64 f g) w := by
  obtain ⟨i, hi, hs⟩ := info_u8'
  have := run_equalIn_array (P := Tryd.prog) w (d + 1) (vec 64 (bys f)) (vec 64 (bys g)) Tryd.underlying47 hi
  have hc : Tryd.prog.cellsOf 5 = 1 := by kernel_rfl
  rw [hc, eq_items_b 64 f g d w (List.range 64) (fun i hi => List.mem_range.1 hi)] at this
  exact this
set_option maxRecDepth 100000 in
theorem equalIn_hd (d : Nat) (h : Hd) (w : World) : (Op.equalIn (d + 4) 26 (.agg (vec 35 (hdF h))) (.agg (vec 35 (hdF h)))).run Tryd.prog w = .ok true w := by
  rw [run_equalIn_struct (P := Tryd.prog) w (d + 3) 26 _ _ (by kernel_rfl) (by kernel_rfl)]
  unfold Program.fieldsOf
  rw [Tryd.underlying26]
  have e1 := run_equalIn_int (P := Tryd.prog) w (d + 2) 22 .u32 .u32 h.ver h.ver Tryd.underlying22
  have e2 := run_equalIn_int (P := Tryd.prog) w (d + 2) 22 .u32 .u32 h.size h.size Tryd.underlying22
  have e3 := run_equalIn_string (P := Tryd.prog) w (d + 2) 9 (strOf h.name) (strOf h.name) Tryd.underlying9
  have e4 := equalIn_node (d + 1) (kF h.dig) (kF h.dig) w
  rw [beq_self_eq_true] at e1 e2 e3
  rw [bEq_self] at e4
  exact eqF_cons _ _ _ w _ _ (by decide) _ _ true true (partU32 _ 0 _ (vec_at 35 (hdF h) 0 (by decide)) w) (partU32 _ 0 _ (vec_at 35 (hdF h) 0 (by decide)) w) e1
    (eqF_cons _ _ _ w _ _ (by decide) _ _ true true (partU32 _ 1 _ (vec_at 35 (hdF h) 1 (by decide)) w) (partU32 _ 1 _ (vec_at 35 (hdF h) 1 (by decide)) w) e2
      (eqF_cons _ _ _ w _ _ (by decide) _ _ true true (partStr _ 2 _ (vec_at 35 (hdF h) 2 (by decide)) w) (partStr _ 2 _ (vec_at 35 (hdF h) 2 (by decide)) w) e3
        (eqF_cons _ _ _ w _ _ (by decide) _ _ true true (partDig h w) (partDig h w) e4 (eqF_nil _ _ _ w))))
set_option maxRecDepth 100000 in
theorem equalIn_hv (d : Nat) (h : Hd) (a b : By) (w : World) : (Op.equalIn (d + 6) 49 (.agg (vec 99 (hvF h a))) (.agg (vec 99 (hvF h b)))).run Tryd.prog w = .ok (bEq 64 (kF a) (kF b)) w := by
  rw [run_equalIn_struct (P := Tryd.prog) w (d + 5) 49 _ _ (by kernel_rfl) (by kernel_rfl)]
  unfold Program.fieldsOf
  rw [Tryd.underlying49]
  have e1 := equalIn_hd (d + 1) h w
  have e2 := equalIn_b64 (d + 3) (kF a) (kF b) w
  have hr : bEq 64 (kF a) (kF b) = (true && (bEq 64 (kF a) (kF b) && true)) := by simp
  rw [hr]
  exact eqF_cons _ _ _ w _ _ (by decide) _ _ true _ (partHd h a w) (partHd h b w) e1 (eqF_cons _ _ _ w _ _ (by decide) _ _ _ true (partBy h a w) (partBy h b w) e2 (eqF_nil _ _ _ w))
theorem eql_hd (h : Hd) (w : World) : (binOp .eql 26 (.agg (vec 35 (hdF h))) (.agg (vec 35 (hdF h)))).run Tryd.prog w = .ok (.bool true) w := by
  rw [run_eql_struct, equalIn_hd 9996]; rfl
theorem neq_hd (h : Hd) (w : World) : (binOp .neq 26 (.agg (vec 35 (hdF h))) (.agg (vec 35 (hdF h)))).run Tryd.prog w = .ok (.bool false) w := by
  rw [run_neq_struct, equalIn_hd 9996]; rfl
theorem eql_hv (h : Hd) (a b : By) (w : World) : (binOp .eql 49 (.agg (vec 99 (hvF h a))) (.agg (vec 99 (hvF h b)))).run Tryd.prog w = .ok (.bool (bEq 64 (kF a) (kF b))) w := by
  rw [run_eql_struct, equalIn_hv 9994]; rfl
theorem exec_eql_hd {o : Oper} {a : Act} (x y : Operand) (t : TypeId) (ho : o.op = .binOp .eql 26 x y t) (h : Hd) (hx : a.eval x = .agg (vec 35 (hdF h))) (hy : a.eval y = .agg (vec 35 (hdF h))) (w : World) :
    (execOp a.eval o).run Tryd.prog w = .ok (.value (.bool true)) w := by
  unfold execOp
  simp only [ho, hx, hy, Sem.run_bind, Sem.run_pure, run_eqGuard_agg (P := Tryd.prog) w .eql 26 x y _ _ (by kernel_rfl), eql_hd, Result.andThen_ok]
theorem exec_neq_hd {o : Oper} {a : Act} (x y : Operand) (t : TypeId) (ho : o.op = .binOp .neq 26 x y t) (h : Hd) (hx : a.eval x = .agg (vec 35 (hdF h))) (hy : a.eval y = .agg (vec 35 (hdF h))) (w : World) :
    (execOp a.eval o).run Tryd.prog w = .ok (.value (.bool false)) w := by
  unfold execOp
  simp only [ho, hx, hy, Sem.run_bind, Sem.run_pure, run_eqGuard_agg (P := Tryd.prog) w .neq 26 x y _ _ (by kernel_rfl), neq_hd, Result.andThen_ok]
theorem exec_eql_hv {o : Oper} {a : Act} (x y : Operand) (t : TypeId) (ho : o.op = .binOp .eql 49 x y t) (h : Hd) (p q : By) (hx : a.eval x = .agg (vec 99 (hvF h p))) (hy : a.eval y = .agg (vec 99 (hvF h q))) (w : World) {b : Bool} (hb : bEq 64 (kF p) (kF q) = b) :
    (execOp a.eval o).run Tryd.prog w = .ok (.value (.bool b)) w := by
  subst hb
  unfold execOp
  simp only [ho, hx, hy, Sem.run_bind, Sem.run_pure, run_eqGuard_agg (P := Tryd.prog) w .eql 49 x y _ _ (by kernel_rfl), eql_hv, Result.andThen_ok]
/-! ### In memory -/
theorem wl_execG {P : Program} {ops : Array Oper} {Q : Exit → Act → World → Prop} {a : Act} {w : World} {rest : List Oper} {o : Oper} {v : Value} (hw : Region.wanted o (yielded ops a.tmps) = true)
    (he : (execOp a.eval o).run P w = .ok (.value v) w) (h : wpList P ops Q rest (a.put o.dst v) w) : wpList P ops Q (o :: rest) a w :=
  wpList_step fun K hK => by
    simp only [hw, if_true]
    unfold Oper.wp
    rw [he]
    exact hK _ _ h
set_option maxRecDepth 100000 in
/-- The header within a header with its bytes. -/
theorem hv_hd {w : World} {g : Nat} {h : Hd} {b : By} (k : Arr w g 49 99 (hvF h b)) : ∀ i, i < 35 → w.cell? ⟨g, 0 + i, none⟩ = some (hdF h i) := fun i hi => by
  rw [Nat.zero_add, k.cell (by omega), hvF_hd h b i hi]
set_option maxRecDepth 100000 in
theorem hv_by {w : World} {g : Nat} {h : Hd} {b : By} (k : Arr w g 49 99 (hvF h b)) : ∀ i, i < 64 → w.cell? ⟨g, 35 + i, none⟩ = some (bys (kF b) i) := fun i hi => by
  rw [k.cell (by omega), hvF_by]
theorem u8s_kF {l : By} {n : Nat} (h : l.length = n) : (List.range n).map (bys (kF l)) = u8s l := by
  refine List.ext_getElem? fun i => ?_
  by_cases hi : i < n
  · simp [u8s, bys, kF, hi, show i < l.length by omega]
  · simp [u8s, hi, show ¬ i < l.length by omega]
set_option maxRecDepth 100000 in
theorem hv_lies {w : World} {g B : Nat} {h : Hd} {b : By} (k : Arr w g 49 99 (hvF h b)) (hb : b.length = 64) (hB : g < B) : Lies w B 1 (some ⟨g, 35, none⟩) 64 (u8s b) := by
  have := k.lies hB 35 64 (by decide)
  rw [show (List.range 64).map (fun i => hvF h b (35 + i)) = u8s b from by rw [← u8s_kF hb]; exact List.map_congr_left fun i _ => hvF_by h b i] at this
  exact this
theorem arr_at64 (a : Addr) (n c : Nat) (h : 64 ≤ n) (w : World) : (Instr.arrayAt 47 (.slice (some a) n c)).run Tryd.prog w = .ok (.pointer (some a)) w := by
  simp [Instr.arrayAt, run_underlying Tryd.underlying47]; omega
theorem arr_at32 (a : Addr) (n c : Nat) (h : 32 ≤ n) (w : World) : (Instr.arrayAt 24 (.slice (some a) n c)).run Tryd.prog w = .ok (.pointer (some a)) w := by
  simp [Instr.arrayAt, run_underlying Tryd.underlying24]; omega
/-- The first m bytes of a row. -/
theorem lies_cells {w : World} {B n m : Nat} {A : Option Addr} {l : By} (h : Lies w B 1 A n (u8s l)) (hn : l.length = n) (hm : m ≤ n) (h0 : 0 < m) : ∃ a, A = some a ∧ a.block < B ∧ ∀ i, i < m → w.cell? (a.add i) = some (bys (kF l) i) := by
  obtain ⟨h1, h2⟩ := h
  obtain ⟨a, rfl, hb, hc⟩ := h2 (by omega)
  refine ⟨a, rfl, hb, fun i hi => ?_⟩
  have := hc i (by rw [u8s_length]; omega)
  rw [this]
  simp [u8s, bys, kF, show i < l.length by omega]
end Go.Proofs.YtgoblolbkchggaaDoor
