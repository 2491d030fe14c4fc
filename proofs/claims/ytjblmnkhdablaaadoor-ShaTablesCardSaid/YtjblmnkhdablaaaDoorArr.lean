/- Arrays that lie in a block of their own, told by a function. -/
import Derived.Test.YtjblmnkhdablaaaDoorWrd
import Derived.Test.YtjblmnkhdablaaaDoorApp
import Derived.Deep.WholeRow
namespace Go.Proofs.YtjblmnkhdablaaaDoor
open Go.RowKit

def vec (n : Nat) (f : Nat → Value) : Array Value := ((List.range n).map f).toArray
theorem vec_size (n : Nat) (f : Nat → Value) : (vec n f).size = n := by simp [vec]
theorem vec_at (n : Nat) (f : Nat → Value) (i : Nat) (h : i < n) : (vec n f)[i]? = some (f i) := by
  simp [vec, h]
theorem vec_congr {n : Nat} {f g : Nat → Value} (h : ∀ i, i < n → f i = g i) : vec n f = vec n g := by
  unfold vec
  congr 1
  exact List.map_congr_left fun i hi => h i (List.mem_range.1 hi)
theorem vec_inj {n : Nat} {f g : Nat → Value} (h : vec n f = vec n g) : ∀ i, i < n → f i = g i := by
  intro i hi
  have h1 := vec_at n f i hi
  rw [h, vec_at n g i hi] at h1
  exact (Option.some.inj h1).symm
def upd {α : Type} (f : Nat → α) (i : Nat) (x : α) : Nat → α := fun j => if j = i then x else f j
theorem upd_at {α : Type} (f : Nat → α) (i : Nat) (x : α) : upd f i x i = x := by simp [upd]
theorem upd_ne {α : Type} (f : Nat → α) (i : Nat) (x : α) (j : Nat) (h : j ≠ i) : upd f i x j = f j := by simp [upd, h]
theorem vec_set (n : Nat) (f : Nat → Value) (i : Nat) (x : Value) : (vec n f).setIfInBounds i x = vec n (upd f i x) := by
  apply Array.ext_getElem?
  intro j
  rw [Array.getElem?_setIfInBounds, vec_size]
  by_cases hj : j < n
  · rw [vec_at n _ j hj, vec_at n _ j hj]
    by_cases e : i = j
    · subst e; simp [upd, hj]
    · simp [upd, e, Ne.symm e]
  · by_cases e : i = j
    · subst e; simp [hj, vec]
    · simp [e, hj, vec]

/-- Block g is an array of n cells, no more. -/
def Arr (w : World) (g : Nat) (t : TypeId) (n : Nat) (f : Nat → Value) : Prop := w.heap[g]? = some (.cells (vec n f) t (0, 0))
section
variable {w w' : World} {g n : Nat} {t : TypeId} {f f' : Nat → Value}
theorem Arr.lt (h : Arr w g t n f) : g < w.heap.size := by
  rcases Nat.lt_or_ge g w.heap.size with hlt | hge
  · exact hlt
  · unfold Arr at h; rw [Array.getElem?_eq_none hge] at h; cases h
theorem Arr.cell (h : Arr w g t n f) {i : Nat} (hi : i < n) : w.cell? ⟨g, i, none⟩ = some (f i) := (cell_of_row w g i _ t (0, 0) h).trans (vec_at n f i hi)
theorem Arr.frozen (h : Arr w g t n f) (i : Nat) : w.frozen? ⟨g, i, none⟩ = false := by
  unfold Arr at h; simp [World.frozen?, h]
theorem Arr.new (w : World) (t : TypeId) (n : Nat) (f : Nat → Value) : Arr (w.alloc (.cells (vec n f) t)) w.heap.size t n f := heap_alloc_new w _
theorem Arr.new' (w : World) (t : TypeId) (n : Nat) (f : Nat → Value) (cs : Array Value) (hc : cs = vec n f) : Arr (w.alloc (.cells cs t)) w.heap.size t n f := by
  subst hc; exact Arr.new w t n f
theorem Arr.newAt (w : World) (t : TypeId) (n : Nat) (f : Nat → Value) {g : Nat} (hg : g = w.heap.size) : Arr (w.alloc (.cells (vec n f) t)) g t n f := by
  subst hg; exact Arr.new w t n f
theorem Arr.drewN (h : Arr w g t n f) (k : Nat) : Arr (w.drewN k) g t n f := h
theorem Arr.alloc (h : Arr w g t n f) (o : Obj) : Arr (w.alloc o) g t n f := (Below.heap_alloc w o g h.lt).trans h
theorem Arr.set (h : Arr w g t n f) (i : Nat) (u : Value) : Arr (w.setCell ⟨g, i, none⟩ u) g t n (upd f i u) := by
  unfold Arr at h ⊢
  rw [← vec_set]
  simp [World.setCell, Array.getElem?_modify, h]
theorem Arr.far (h : Arr w g t n f) {p : Addr} (hp : g ≠ p.block) (u : Value) : Arr (w.setCell p u) g t n f := (Below.heap_setCell w p u g hp).trans h
theorem Arr.below {B : Nat} (h : Arr w g t n f) (hb : Below B w w') (hg : g < B) : Arr w' g t n f := (hb.block g hg).trans h
theorem Arr.under (h : Arr w g t n f) (hb : Below w.heap.size w w') : Arr w' g t n f := h.below hb h.lt
theorem Arr.grown {row : Option Nat} (h : Arr w g t n f) (hb : w.grownBy w' row) (hg : some g ≠ row) : Arr w' g t n f := (hb.block g h.lt hg).trans h
theorem Arr.congr (h : Arr w g t n f) (hf : ∀ i, i < n → f i = f' i) : Arr w g t n f' := by
  unfold Arr at h ⊢; rw [← vec_congr hf]; exact h
theorem Arr.row (h : Arr w g t n f) (f' : Nat → Value) : Arr (w.setRow g (vec n f')) g t n f' := by
  unfold Arr at h ⊢
  simp [World.setRow, Array.getElem?_modify, h]
theorem Arr.rowFar (h : Arr w g t n f) {g' : Nat} (hp : g ≠ g') (c : Array Value) : Arr (w.setRow g' c) g t n f := by
  unfold Arr at h ⊢
  simp [World.setRow, Array.getElem?_modify, h, Ne.symm hp]
theorem Arr.lies {B : Nat} (h : Arr w g t n f) (hB : g < B) (a m : Nat) (hm : a + m ≤ n) : Lies w B 1 (some ⟨g, a, none⟩) m ((List.range m).map fun i => f (a + i)) := by
  refine ⟨by simp, fun _ => ⟨_, rfl, hB, fun j hj => ?_⟩⟩
  have e : ((⟨g, a, none⟩ : Addr).add j) = ⟨g, a + j, none⟩ := by
    unfold Addr.add; by_cases h0 : j = 0 <;> simp [h0]
  simp at hj
  rw [e, h.cell (by omega)]
  simp
theorem below_drewN {B : Nat} (h : Below B w w') (k : Nat) : Below B w (w'.drewN k) := ⟨h.1, h.2, h.3, h.4, h.5⟩
theorem below_row {B : Nat} (h : Below B w w') (hB : B ≤ g) (c : Array Value) : Below B w (w'.setRow g c) := by
  refine ⟨h.1, h.2, h.3, by have := h.4; simpa [World.setRow] using this, fun b hb => ?_⟩
  rw [← h.5 b hb]
  simp [World.setRow, Array.getElem?_modify, show g ≠ b by omega]
theorem run_load_arr {P : Program} {ty : TypeId} {d : TypeDesc} (h : Arr w g t n f) (hu : P.underlying ty = some d) (hd : (match d with | .struct _ | .array _ _ => true | _ => false) = true) (hi : (P.info? ty).map (·.size) = some n) :
    (loadVar ty ⟨g, 0, none⟩).run P w = .ok (.agg (vec n f)) w :=
  run_loadVar_row w g t ty (vec n f) (0, 0) d h hu hd (by rw [vec_size]; exact hi)
theorem run_store_arr {P : Program} {ty : TypeId} (h : Arr w g t n f) (f' : Nat → Value) (hi : (P.info? ty).map (·.size) = some n) (h1 : ∀ i, i < n → (f' i).oneCell' = true) :
    (storeVar ty ⟨g, 0, none⟩ (.agg (vec n f'))).run P w = .ok () (w.setRow g (vec n f')) :=
  run_storeVar_row w g t ty (vec n f) (vec n f') h (by rw [vec_size]; exact hi) (by rw [vec_size, vec_size]) (by
    rw [Array.all_eq_true_iff_forall_mem]
    intro v hv
    simp [vec] at hv
    obtain ⟨i, hi, rfl⟩ := hv
    exact h1 i hi)
end
/-- Words, bytes as cells. -/
def wds (h : Nat → W32) : Nat → Value := fun i => .int .u32 (num (h i))
def bys (b : Nat → UInt8) : Nat → Value := fun i => .int .u8 ((b i).toNat : Int)
theorem wds_one (h : Nat → W32) (n : Nat) : ∀ i, i < n → (wds h i).oneCell' = true := fun _ _ => rfl
theorem bys_one (h : Nat → UInt8) (n : Nat) : ∀ i, i < n → (bys h i).oneCell' = true := fun _ _ => rfl
theorem wds_upd (h : Nat → W32) (i : Nat) (x : W32) : upd (wds h) i (.int .u32 (num x)) = wds (upd h i x) := by
  funext j; by_cases e : j = i <;> simp [upd, wds, e]
theorem bys_upd (h : Nat → UInt8) (i : Nat) (x : UInt8) : upd (bys h) i (.int .u8 (x.toNat : Int)) = bys (upd h i x) := by
  funext j; by_cases e : j = i <;> simp [upd, bys, e]
theorem wds_inj {n : Nat} {f g : Nat → W32} (h : vec n (wds f) = vec n (wds g)) : ∀ i, i < n → f i = g i := by
  intro i hi
  have := vec_inj h i hi
  simp only [wds, Value.int.injEq, true_and] at this
  exact num_inj this
end Go.Proofs.YtjblmnkhdablaaaDoor
