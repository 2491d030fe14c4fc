/- Arrays and blocks of cells that are told by a function: of any program. -/
import Derived.Test.YtmcpmcicolpoeaaDoorMem
import Derived.Test.YtmcpmcicolpoeaaDoorApp
import Derived.Deep.WholeRow
import Derived.Laws.CopyRow
import Derived.WalkKit
namespace Go.Proofs.YtmcpmcicolpoeaaDoor
open Go.RowKit

def vec (n : Nat) (f : Nat → Value) : Array Value := ((List.range n).map f).toArray
theorem vec_size (n : Nat) (f : Nat → Value) : (vec n f).size = n := by simp [vec]
theorem vec_at (n : Nat) (f : Nat → Value) (i : Nat) (h : i < n) : (vec n f)[i]? = some (f i) := by
  simp [vec, h]
theorem vec_congr {n : Nat} {f g : Nat → Value} (h : ∀ i, i < n → f i = g i) : vec n f = vec n g := by
  unfold vec
  congr 1
  exact List.map_congr_left fun i hi => h i (List.mem_range.1 hi)
theorem vec_inj {n : Nat} {f g : Nat → Value} (h : vec n f = vec n g) : ∀ i, i < n → f i = g i := by
  intro i hi
  have h1 := vec_at n f i hi
  rw [h, vec_at n g i hi] at h1
  exact (Option.some.inj h1).symm
def upd {α : Type} (f : Nat → α) (i : Nat) (x : α) : Nat → α := fun j => if j = i then x else f j
theorem upd_at {α : Type} (f : Nat → α) (i : Nat) (x : α) : upd f i x i = x := by simp [upd]
theorem upd_ne {α : Type} (f : Nat → α) (i : Nat) (x : α) (j : Nat) (h : j ≠ i) : upd f i x j = f j := by simp [upd, h]
theorem vec_set (n : Nat) (f : Nat → Value) (i : Nat) (x : Value) : (vec n f).setIfInBounds i x = vec n (upd f i x) := by
  apply Array.ext_getElem?
  intro j
  rw [Array.getElem?_setIfInBounds, vec_size]
  by_cases hj : j < n
  · rw [vec_at n _ j hj, vec_at n _ j hj]
    by_cases e : i = j
    · subst e; simp [upd, hj]
    · simp [upd, e, Ne.symm e]
  · by_cases e : i = j
    · subst e; simp [hj, vec]
    · simp [e, hj, vec]

/-- Block g is an array of n cells, no more. -/
def Arr (w : World) (g : Nat) (t : TypeId) (n : Nat) (f : Nat → Value) : Prop := w.heap[g]? = some (.cells (vec n f) t (0, 0))
section
variable {w w' : World} {g n : Nat} {t : TypeId} {f f' : Nat → Value}
theorem Arr.lt (h : Arr w g t n f) : g < w.heap.size := by
  rcases Nat.lt_or_ge g w.heap.size with hlt | hge
  · exact hlt
  · unfold Arr at h; rw [Array.getElem?_eq_none hge] at h; cases h
theorem Arr.cell (h : Arr w g t n f) {i : Nat} (hi : i < n) : w.cell? ⟨g, i, none⟩ = some (f i) := (cell_of_row w g i _ t (0, 0) h).trans (vec_at n f i hi)
theorem Arr.frozen (h : Arr w g t n f) (i : Nat) : w.frozen? ⟨g, i, none⟩ = false := by
  unfold Arr at h; simp [World.frozen?, h]
theorem Arr.new (w : World) (t : TypeId) (n : Nat) (f : Nat → Value) : Arr (w.alloc (.cells (vec n f) t)) w.heap.size t n f := heap_alloc_new w _
theorem Arr.new' (w : World) (t : TypeId) (n : Nat) (f : Nat → Value) (cs : Array Value) (hc : cs = vec n f) : Arr (w.alloc (.cells cs t)) w.heap.size t n f := by
  subst hc; exact Arr.new w t n f
theorem Arr.newAt (w : World) (t : TypeId) (n : Nat) (f : Nat → Value) {g : Nat} (hg : g = w.heap.size) : Arr (w.alloc (.cells (vec n f) t)) g t n f := by
  subst hg; exact Arr.new w t n f
theorem Arr.drewN (h : Arr w g t n f) (k : Nat) : Arr (w.drewN k) g t n f := h
theorem Arr.alloc (h : Arr w g t n f) (o : Obj) : Arr (w.alloc o) g t n f := (Below.heap_alloc w o g h.lt).trans h
theorem Arr.set (h : Arr w g t n f) (i : Nat) (u : Value) : Arr (w.setCell ⟨g, i, none⟩ u) g t n (upd f i u) := by
  unfold Arr at h ⊢
  rw [← vec_set]
  simp [World.setCell, Array.getElem?_modify, h]
theorem Arr.far (h : Arr w g t n f) {p : Addr} (hp : g ≠ p.block) (u : Value) : Arr (w.setCell p u) g t n f := (Below.heap_setCell w p u g hp).trans h
theorem Arr.below {B : Nat} (h : Arr w g t n f) (hb : Below B w w') (hg : g < B) : Arr w' g t n f := (hb.block g hg).trans h
theorem Arr.under (h : Arr w g t n f) (hb : Below w.heap.size w w') : Arr w' g t n f := h.below hb h.lt
theorem Arr.grown {row : Option Nat} (h : Arr w g t n f) (hb : w.grownBy w' row) (hg : some g ≠ row) : Arr w' g t n f := (hb.block g h.lt hg).trans h
theorem Arr.congr (h : Arr w g t n f) (hf : ∀ i, i < n → f i = f' i) : Arr w g t n f' := by
  unfold Arr at h ⊢; rw [← vec_congr hf]; exact h
theorem Arr.row (h : Arr w g t n f) (f' : Nat → Value) : Arr (w.setRow g (vec n f')) g t n f' := by
  unfold Arr at h ⊢
  simp [World.setRow, Array.getElem?_modify, h]
theorem Arr.rowFar (h : Arr w g t n f) {g' : Nat} (hp : g ≠ g') (c : Array Value) : Arr (w.setRow g' c) g t n f := by
  unfold Arr at h ⊢
  simp [World.setRow, Array.getElem?_modify, h, Ne.symm hp]
theorem Arr.lies {B : Nat} (h : Arr w g t n f) (hB : g < B) (a m : Nat) (hm : a + m ≤ n) : Lies w B 1 (some ⟨g, a, none⟩) m ((List.range m).map fun i => f (a + i)) := by
  refine ⟨by simp, fun _ => ⟨_, rfl, hB, fun j hj => ?_⟩⟩
  have e : ((⟨g, a, none⟩ : Addr).add j) = ⟨g, a + j, none⟩ := by
    unfold Addr.add; by_cases h0 : j = 0 <;> simp [h0]
  simp at hj
  rw [e, h.cell (by omega)]
  simp
theorem below_drewN {B : Nat} (h : Below B w w') (k : Nat) : Below B w (w'.drewN k) := ⟨h.1, h.2, h.3, h.4, h.5⟩
theorem below_row {B : Nat} (h : Below B w w') (hB : B ≤ g) (c : Array Value) : Below B w (w'.setRow g c) := by
  refine ⟨h.1, h.2, h.3, by have := h.4; simpa [World.setRow] using this, fun b hb => ?_⟩
  rw [← h.5 b hb]
  simp [World.setRow, Array.getElem?_modify, show g ≠ b by omega]
theorem run_load_arr {P : Program} {ty : TypeId} {d : TypeDesc} (h : Arr w g t n f) (hu : P.underlying ty = some d) (hd : (match d with | .struct _ | .array _ _ => true | _ => false) = true) (hi : (P.info? ty).map (·.size) = some n) :
    (loadVar ty ⟨g, 0, none⟩).run P w = .ok (.agg (vec n f)) w :=
  run_loadVar_row w g t ty (vec n f) (0, 0) d h hu hd (by rw [vec_size]; exact hi)
theorem run_store_arr {P : Program} {ty : TypeId} (h : Arr w g t n f) (f' : Nat → Value) (hi : (P.info? ty).map (·.size) = some n) (h1 : ∀ i, i < n → (f' i).oneCell' = true) :
    (storeVar ty ⟨g, 0, none⟩ (.agg (vec n f'))).run P w = .ok () (w.setRow g (vec n f')) :=
  run_storeVar_row w g t ty (vec n f) (vec n f') h (by rw [vec_size]; exact hi) (by rw [vec_size, vec_size]) (by
    rw [Array.all_eq_true_iff_forall_mem]
    intro v hv
    simp [vec] at hv
    obtain ⟨i, hi, rfl⟩ := hv
    exact h1 i hi)
end
def bys (b : Nat → UInt8) : Nat → Value := fun i => .int .u8 ((b i).toNat : Int)
theorem bys_one (h : Nat → UInt8) (n : Nat) : ∀ i, i < n → (bys h i).oneCell' = true := fun _ _ => rfl
theorem bys_upd (h : Nat → UInt8) (i : Nat) (x : UInt8) : upd (bys h) i (.int .u8 (x.toNat : Int)) = bys (upd h i x) := by
  funext j; by_cases e : j = i <;> simp [upd, bys, e]
section
variable {P : Program} {w w' : World} {ops : Array Oper} {rest : List Oper} {o : Oper} {a : Act} {Q : Exit → Act → World → Prop}
theorem results_cell1 {fn : Func} {p : Tmp} {ty : TypeId} (h : fn.results = #[.cell p ty]) (tmps : Array Value) (g : Nat) (v : Value)
    (ha : tmps.getD p undef = .pointer (some ⟨g, 0, none⟩)) (hl : (loadVar ty ⟨g, 0, none⟩).run P w = .ok v w) : (results fn tmps).run P w = .ok v w := by
  have hp' : tmps[p]?.getD undef = .pointer (some ⟨g, 0, none⟩) := by simpa using ha
  simp [results, h, hp', asAddr, hl]
theorem wl_load (hgd : o.guard = none) (ty : TypeId) (x : Operand) (ho : o.op = .load ty x) (g : Nat) (hx : a.eval x = .pointer (some ⟨g, 0, none⟩)) (v : Value)
    (hl : (loadVar ty ⟨g, 0, none⟩).run P w = .ok v w) (h : wpList P ops Q rest (a.put o.dst v) w) : wpList P ops Q (o :: rest) a w :=
  wpList_plain hgd fun K hK => by
    unfold Oper.wp execOp
    simp only [ho, hx, Instr.loadAt, Instr.sureAddr, Sem.run_bind, Sem.run_pure, Result.andThen_ok, hl]
    exact hK _ _ h
theorem exec_load (ty : TypeId) (x : Operand) (ho : o.op = .load ty x) (g : Nat) (hx : a.eval x = .pointer (some ⟨g, 0, none⟩)) (v : Value)
    (hl : (loadVar ty ⟨g, 0, none⟩).run P w = .ok v w) : (execOp a.eval o).run P w = .ok (.value v) w := by
  unfold execOp
  simp only [ho, hx, Instr.loadAt, Instr.sureAddr, Sem.run_bind, Sem.run_pure, Result.andThen_ok, hl]
theorem ow_store {K : Act → World → Prop} (ty : TypeId) (x y : Operand) (ho : o.op = .store ty x y) (g : Nat) (hx : a.eval x = .pointer (some ⟨g, 0, none⟩)) (v : Value) (hy : a.eval y = v)
    (hs : (storeVar ty ⟨g, 0, none⟩ v).run P w = .ok () w') (h : K (a.put o.dst undef) w') : o.wp P a w K Q := by
  unfold Oper.wp execOp
  simp only [ho, hx, hy, Instr.storeAt, Instr.sureAddr, Sem.run_bind, Sem.run_pure, Result.andThen_ok, hs]
  exact h
theorem wl_store (hgd : o.guard = none) (ty : TypeId) (x y : Operand) (ho : o.op = .store ty x y) (g : Nat) (hx : a.eval x = .pointer (some ⟨g, 0, none⟩)) (v : Value) (hy : a.eval y = v)
    (hs : (storeVar ty ⟨g, 0, none⟩ v).run P w = .ok () w') (h : wpList P ops Q rest (a.put o.dst undef) w') : wpList P ops Q (o :: rest) a w :=
  wpList_plain hgd fun K hK => by
    unfold Oper.wp execOp
    simp only [ho, hx, hy, Instr.storeAt, Instr.sureAddr, Sem.run_bind, Sem.run_pure, Result.andThen_ok, hs]
    exact hK _ _ h
end
theorem agg_cells (c : Array Value) : (Value.agg c).cells = c := rfl
theorem run_load_cells {P : Program} {w : World} {g n : Nat} {ty : TypeId} {d : TypeDesc} {f : Nat → Value} (h : ∀ i, i < n → w.cell? ⟨g, i, none⟩ = some (f i)) (hu : P.underlying ty = some d)
    (hd : (match d with | .struct _ | .array _ _ => true | _ => false) = true) (hi : (P.info? ty).map (·.size) = some n) :
    (loadVar ty ⟨g, 0, none⟩).run P w = .ok (.agg (vec n f)) w := by
  have hl : (loadCells ⟨g, 0, none⟩ (vec n f).toList.length).run P w = .ok (vec n f).toList.toArray w :=
    run_loadCells_list (P := P) w ⟨g, 0, none⟩ (vec n f).toList (fun j v hv => by
      have hadd : (⟨g, 0, none⟩ : Addr).add j = ⟨g, j, none⟩ := by unfold Addr.add; split <;> simp_all
      have hj : j < n := by
        have := (List.getElem?_eq_some_iff.1 hv).1
        simpa [vec] using this
      have hv2 : (vec n f)[j]? = some v := by simpa using hv
      rw [vec_at n f j hj] at hv2
      rw [hadd, h j hj, hv2])
  cases hq : P.info? ty with
  | none => simp [hq] at hi
  | some i =>
    have hs : i.size = n := by simpa [hq] using hi
    have hagg : (isAgg ty).run P w = .ok true w := by
      unfold isAgg
      rw [Sem.run_bind, run_underlying hu w]
      cases d <;> simp_all
    have hz : (vec n f).size = n := vec_size n f
    simp only [Array.length_toList, Array.toArray_toList] at hl
    rw [hz] at hl
    simp [loadVar, Sem.run_bind, hagg, sizeOf, typeInfo, hq, hs, hl]

def spl (o m : Nat) (c f : Nat → Value) : Nat → Value := fun i => if o ≤ i ∧ i < o + m then c (i - o) else f i
theorem vec_spl (n o m : Nat) (c f : Nat → Value) (h : o + m ≤ n) : ((vec n f).toList.take o ++ (List.range m).map c ++ (vec n f).toList.drop (o + m)).toArray = vec n (spl o m c f) := by
  unfold vec
  congr 1
  apply List.ext_getElem?
  intro i
  simp only [List.getElem?_append, List.length_append, List.length_take, List.length_map, List.length_range, List.getElem?_take, List.getElem?_drop, List.getElem?_map]
  by_cases h1 : i < o
  · rw [if_pos (by omega), if_pos (by omega), if_pos h1]
    by_cases hn : i < n
    · simp [List.getElem?_range hn, spl]; omega
    · omega
  · by_cases h2 : i < o + m
    · rw [if_pos (by omega), if_neg (by omega)]
      have e : i - min o n = i - o := by omega
      rw [e, List.getElem?_range (by omega), List.getElem?_range (by omega)]
      simp [spl]; omega
    · rw [if_neg (by omega)]
      have e : o + m + (i - (min o n + m)) = i := by omega
      rw [e]
      by_cases hn : i < n
      · rw [List.getElem?_range hn]; simp [spl]; omega
      · rw [List.getElem?_eq_none (by simp; omega)]; rfl
/-- All but block g is as it was. -/
structure Save (g : Nat) (w w' : World) : Prop where
  os : w'.os = w.os
  tape : w'.tape = w.tape
  output : w'.output = w.output
  size : w.heap.size ≤ w'.heap.size
  block : ∀ k, k < w.heap.size → k ≠ g → w'.heap[k]? = w.heap[k]?
theorem Save.refl (g : Nat) (w : World) : Save g w w := ⟨rfl, rfl, rfl, Nat.le_refl _, fun _ _ _ => rfl⟩
theorem Save.trans {g : Nat} {a b c : World} (h : Save g a b) (k : Save g b c) : Save g a c :=
  ⟨k.os.trans h.os, k.tape.trans h.tape, k.output.trans h.output, Nat.le_trans h.size k.size, fun i hi hg => (k.block i (Nat.lt_of_lt_of_le hi h.size) hg).trans (h.block i hi hg)⟩
theorem Save.of_below {g : Nat} {w w' : World} (h : Below w.heap.size w w') : Save g w w' := ⟨h.1, h.2, h.3, h.4, fun k hk _ => h.5 k hk⟩
theorem Save.below {g B : Nat} {w w' : World} (h : Save g w w') (hB : B ≤ g) (hs : B ≤ w.heap.size) : Below B w w' := ⟨h.1, h.2, h.3, h.4, fun k hk => h.5 k (by omega) (by omega)⟩
theorem Save.drewN {g : Nat} {w w' : World} (h : Save g w w') (n : Nat) : Save g w (w'.drewN n) := ⟨h.1, h.2, h.3, h.4, h.5⟩
theorem Save.setCell {g : Nat} {w w' : World} (h : Save g w w') (i : Nat) (u : Value) : Save g w (w'.setCell ⟨g, i, none⟩ u) := by
  refine ⟨h.1, h.2, h.3, by have := h.4; simpa [World.setCell] using this, fun k hk hg => ?_⟩
  rw [← h.5 k hk hg]
  exact Below.heap_setCell w' ⟨g, i, none⟩ u k hg
theorem Save.setRow {g : Nat} {w w' : World} (h : Save g w w') (c : Array Value) : Save g w (w'.setRow g c) := by
  refine ⟨h.1, h.2, h.3, by have := h.4; simpa [World.setRow] using this, fun k hk hg => ?_⟩
  rw [← h.5 k hk hg]
  simp [World.setRow, Array.getElem?_modify, Ne.symm hg]
theorem Save.cell {g : Nat} {w w' : World} (h : Save g w w') {p : Addr} (hp : p.block < w.heap.size) (hg : p.block ≠ g) : w'.cell? p = w.cell? p :=
  World.cell?_of_block (h.5 p.block hp hg)
theorem Arr.save {g g' n : Nat} {w w' : World} {t : TypeId} {f : Nat → Value} (h : Arr w g n t f) (hs : Save g' w w') (hg : g ≠ g') : Arr w' g n t f := (hs.block g h.lt hg).trans h
/-- Cells into a longer block, from place o on. -/
theorem run_store_spl {P : Program} {w : World} {g n o m : Nat} {t ty : TypeId} {f : Nat → Value} (h : Arr w g t n f) (c : Nat → Value) (ho : o + m ≤ n) (hi : (P.info? ty).map (·.size) = some m) (h1 : ∀ i, i < m → (c i).oneCell' = true) :
    (storeVar ty ⟨g, o, none⟩ (.agg (vec m c))).run P w = .ok () (w.setRow g (vec n (spl o m c f))) := by
  have hst := run_storeCells_at P g o t ((List.range m).map c) 0 (vec n f) w h (by rw [vec_size]; simp; omega) (by
    intro v hv
    simp at hv
    obtain ⟨i, hi, rfl⟩ := hv
    exact h1 i hi)
  have e := vec_spl n o m c f ho
  cases hq : P.info? ty with
  | none => simp [hq] at hi
  | some i =>
    have hs : i.size = m := by simpa [hq] using hi
    have hz : (vec m c).size = m := vec_size m c
    have hl : (vec m c).toList = (List.range m).map c := by simp [vec]
    simp only [Nat.add_zero, List.length_map, List.length_range] at hst
    rw [e] at hst
    simp [storeVar, sizeOf, typeInfo, hq, hs, Value.cells, hz, hl, hst]
theorem run_load_spl {P : Program} {w : World} {g o n : Nat} {ty : TypeId} {d : TypeDesc} {f : Nat → Value} (h : ∀ i, i < n → w.cell? ⟨g, o + i, none⟩ = some (f i)) (hu : P.underlying ty = some d)
    (hd : (match d with | .struct _ | .array _ _ => true | _ => false) = true) (hi : (P.info? ty).map (·.size) = some n) :
    (loadVar ty ⟨g, o, none⟩).run P w = .ok (.agg (vec n f)) w := by
  have hl : (loadCells ⟨g, o, none⟩ (vec n f).toList.length).run P w = .ok (vec n f).toList.toArray w :=
    run_loadCells_list (P := P) w ⟨g, o, none⟩ (vec n f).toList (fun j v hv => by
      have hadd : (⟨g, o, none⟩ : Addr).add j = ⟨g, o + j, none⟩ := by unfold Addr.add; split <;> simp_all
      have hj : j < n := by
        have := (List.getElem?_eq_some_iff.1 hv).1
        simpa [vec] using this
      have hv2 : (vec n f)[j]? = some v := by simpa using hv
      rw [vec_at n f j hj] at hv2
      rw [hadd, h j hj, hv2])
  cases hq : P.info? ty with
  | none => simp [hq] at hi
  | some i =>
    have hs : i.size = n := by simpa [hq] using hi
    have hagg : (isAgg ty).run P w = .ok true w := by
      unfold isAgg
      rw [Sem.run_bind, run_underlying hu w]
      cases d <;> simp_all
    have hz : (vec n f).size = n := vec_size n f
    simp only [Array.length_toList, Array.toArray_toList] at hl
    rw [hz] at hl
    simp [loadVar, Sem.run_bind, hagg, sizeOf, typeInfo, hq, hs, hl]
/-- copy into a longer block. -/
theorem run_copy_spl {P : Program} {w : World} {g n o dLen dCap sLen sCap : Nat} {dT sT ty elem t : TypeId} {a : Addr} {f c : Nat → Value} (m : Nat) (h : Arr w g t n f)
    (hu : P.underlying dT = some (.slice elem)) (hs : (P.info? elem).map (·.size) = some 1) (hm : m = Nat.min sLen dLen)
    (hsrc : ∀ j, j < m → w.cell? (a.add j) = some (c j)) (ho : o + m ≤ n) (h1 : ∀ i, i < m → (c i).oneCell' = true) :
    (Builtin.copy_ #[dT, sT] ty #[.slice (some ⟨g, o, none⟩) dLen dCap, .slice (some a) sLen sCap]).run P w = .ok (goInt (m : Nat)) (w.setRow g (vec n (spl o m c f))) := by
  have := run_copy_row P w dT sT ty elem g o dLen dCap a sLen sCap (vec n f) t ((List.range m).map c) hu hs h (by simpa using hm) (by
    intro j v hv
    obtain ⟨hj, rfl⟩ := List.getElem?_eq_some_iff.1 hv
    simp at hj ⊢
    exact hsrc j hj) (by rw [vec_size]; simp; omega) (by
    intro v hv
    simp at hv
    obtain ⟨i, hi, rfl⟩ := hv
    exact h1 i hi)
  rw [List.length_map, List.length_range, vec_spl n o m c f ho] at this
  exact this
theorem ow_copy {P : Program} {w w' : World} {o : Oper} {a : Act} {K : Act → World → Prop} {Q : Exit → Act → World → Prop} (d s : Operand) (t t' : TypeId)
    (ho : o.op = .call { callee := .builtin .copy, args := #[d, s], argTypes := #[t, t'] }) (v u : Value) (hd : a.eval d = v) (hs : a.eval s = u) {v' : Value}
    (hr : (Builtin.copy_ #[t, t'] o.type #[v, u]).run P w = .ok v' w') (h : K (a.put o.dst v') w') : o.wp P a w K Q := by
  unfold Oper.wp execOp
  simp only [ho, resolve, invoke, builtin, Sem.run_bind, Sem.run_pure, Result.andThen_ok, List.map_toArray, List.map_cons, List.map_nil, hd, hs, hr]
  exact h
theorem ow_load {P : Program} {w : World} {o : Oper} {a : Act} {K : Act → World → Prop} {Q : Exit → Act → World → Prop} (ty : TypeId) (x : Operand) (ho : o.op = .load ty x) (g k : Nat) (hx : a.eval x = .pointer (some ⟨g, k, none⟩)) (v : Value)
    (hl : (loadVar ty ⟨g, k, none⟩).run P w = .ok v w) (h : K (a.put o.dst v) w) : o.wp P a w K Q := by
  unfold Oper.wp execOp
  simp only [ho, hx, Instr.loadAt, Instr.sureAddr, Sem.run_bind, Sem.run_pure, Result.andThen_ok, hl]
  exact h
theorem exec_load_at {P : Program} {w : World} {o : Oper} {a : Act} (ty : TypeId) (x : Operand) (ho : o.op = .load ty x) (g k : Nat) (hx : a.eval x = .pointer (some ⟨g, k, none⟩)) (v : Value)
    (hl : (loadVar ty ⟨g, k, none⟩).run P w = .ok v w) : (execOp a.eval o).run P w = .ok (.value v) w := by
  unfold execOp
  simp only [ho, hx, Instr.loadAt, Instr.sureAddr, Sem.run_bind, Sem.run_pure, Result.andThen_ok, hl]
theorem wl_build {P : Program} {w : World} {ops : Array Oper} {rest : List Oper} {o : Oper} {a : Act} {Q : Exit → Act → World → Prop} (hg : o.guard = none) (t : TypeId) (parts : Array (Nat × Operand)) (ho : o.op = .build t parts)
    (cs : Array Value) (hb : P.built t (parts.map fun (i, x) => (i, a.eval x)).toList = some cs) (h : wpList P ops Q rest (a.put o.dst (.agg cs)) w) : wpList P ops Q (o :: rest) a w :=
  wpList_build hg t parts ho (by rw [hb]; rfl) (by rw [hb]; exact h)
theorem wl_load_at {P : Program} {w : World} {ops : Array Oper} {rest : List Oper} {o : Oper} {a : Act} {Q : Exit → Act → World → Prop} (hgd : o.guard = none) (ty : TypeId) (x : Operand) (ho : o.op = .load ty x) (g k : Nat) (hx : a.eval x = .pointer (some ⟨g, k, none⟩)) (v : Value)
    (hl : (loadVar ty ⟨g, k, none⟩).run P w = .ok v w) (h : wpList P ops Q rest (a.put o.dst v) w) : wpList P ops Q (o :: rest) a w :=
  wpList_plain hgd fun _ hK => ow_load ty x ho g k hx v hl (hK _ _ h)
theorem owns_cap {w : World} {base : Nat} {e : TypeId} {v : Value} {n : Nat} {xs : List Value} (h : w.ownsRow base e 1 v n xs) :
    ∃ A c, v = .slice A n c ∧ n ≤ c ∧ (∀ a, A = some a → base ≤ a.block) ∧ Lies w w.heap.size 1 A n xs := by
  rcases h.2 with ⟨rfl, rfl⟩ | ⟨g, cap, cur, rfl, hb, _, hc, _⟩
  · exact ⟨none, 0, rfl, Nat.le_refl _, (fun _ h => by cases h), Lies.of_owns h⟩
  · exact ⟨_, cap, rfl, hc, fun a ha => by injection ha with ha; subst ha; exact hb, Lies.of_owns h⟩
theorem owns_blk {w : World} {base : Nat} {e : TypeId} {v : Value} {n : Nat} {xs : List Value} (h : w.ownsRow base e 1 v n xs) (hn : n ≠ 0) :
    ∃ g c, v = .slice (some ⟨g, 0, none⟩) n c ∧ base ≤ g ∧ n ≤ c ∧ ∀ j (hj : j < xs.length), w.cell? ⟨g, 0 + j, none⟩ = some xs[j] := by
  rcases h.2 with ⟨_, h0⟩ | ⟨g, cap, cur, rfl, hb, hg, hc, hm, hs, hx⟩
  · exact absurd h0 hn
  · refine ⟨g, cap, rfl, hb, hc, fun j hj => ?_⟩
    have := h.cells (g := g) rfl j _ (List.getElem?_eq_getElem hj)
    rw [Nat.zero_add]
    have e : ((⟨g, 0, none⟩ : Addr).add j) = ⟨g, j, none⟩ := by unfold Addr.add; by_cases h0 : j = 0 <;> simp [h0]
    rw [e] at this; exact this

/-- Block g holds just these cells. -/
def Blk (w : World) (g : Nat) (t : TypeId) (cs : Array Value) : Prop := w.heap[g]? = some (.cells cs t (0, 0))
section
variable {w w' : World} {g : Nat} {t : TypeId} {cs : Array Value}
theorem Blk.lt (h : Blk w g t cs) : g < w.heap.size := by
  rcases Nat.lt_or_ge g w.heap.size with hlt | hge
  · exact hlt
  · unfold Blk at h; rw [Array.getElem?_eq_none hge] at h; cases h
theorem Blk.new (w : World) (t : TypeId) (cs : Array Value) {g : Nat} (h : g = w.heap.size) : Blk (w.alloc (.cells cs t)) g t cs := by subst h; exact heap_alloc_new w _
theorem Blk.alloc (h : Blk w g t cs) (o : Obj) : Blk (w.alloc o) g t cs := (Below.heap_alloc w o g h.lt).trans h
theorem Blk.under (h : Blk w g t cs) (hb : Below w.heap.size w w') : Blk w' g t cs := (hb.block g h.lt).trans h
theorem Blk.below {B : Nat} (h : Blk w g t cs) (hb : Below B w w') (hg : g < B) : Blk w' g t cs := (hb.block g hg).trans h
theorem Blk.save {g' : Nat} (h : Blk w g t cs) (hs : Save g' w w') (hg : g ≠ g') : Blk w' g t cs := (hs.block g h.lt hg).trans h
theorem Blk.row (h : Blk w g t cs) (cs' : Array Value) : Blk (w.setRow g cs') g t cs' := by
  unfold Blk at h ⊢
  simp [World.setRow, Array.getElem?_modify, h]
theorem Blk.rowFar (h : Blk w g t cs) {g' : Nat} (hp : g ≠ g') (c : Array Value) : Blk (w.setRow g' c) g t cs := by
  unfold Blk at h ⊢
  simp [World.setRow, Array.getElem?_modify, h, Ne.symm hp]
theorem Blk.drewN (h : Blk w g t cs) (k : Nat) : Blk (w.drewN k) g t cs := h
theorem Blk.grown {row : Option Nat} (h : Blk w g t cs) (hb : w.grownBy w' row) (hg : some g ≠ row) : Blk w' g t cs := (hb.block g h.lt hg).trans h
theorem Blk.cell (h : Blk w g t cs) (i : Nat) : w.cell? ⟨g, i, none⟩ = cs[i]? := cell_of_row w g i _ t (0, 0) h
theorem Blk.cellAt (h : Blk w g t cs) (i : Nat) {v : Value} (hv : cs[i]? = some v) : w.cell? ⟨g, i, none⟩ = some v := (h.cell i).trans hv
theorem Blk.load {P : Program} {ty : TypeId} {d : TypeDesc} (h : Blk w g t cs) (hu : P.underlying ty = some d)
    (hd : (match d with | .struct _ | .array _ _ => true | _ => false) = true) (hi : (P.info? ty).map (·.size) = some cs.size) : (loadVar ty ⟨g, 0, none⟩).run P w = .ok (.agg cs) w :=
  run_loadVar_row w g t ty cs (0, 0) d h hu hd hi
theorem Blk.store {P : Program} {ty : TypeId} (h : Blk w g t cs) (cs' : Array Value) (hs : cs'.size = cs.size) (hi : (P.info? ty).map (·.size) = some cs'.size) (h1 : cs'.toList.all Value.oneCell' = true) :
    (storeVar ty ⟨g, 0, none⟩ (.agg cs')).run P w = .ok () (w.setRow g cs') :=
  run_storeVar_row w g t ty cs cs' h hi hs.symm (by rw [← Array.all_toList]; exact h1)
end
end Go.Proofs.YtmcpmcicolpoeaaDoor
