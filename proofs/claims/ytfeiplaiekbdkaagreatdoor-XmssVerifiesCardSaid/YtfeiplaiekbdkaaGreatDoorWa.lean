/- Merged: Mem, App, Vec, Node, Wrd, Arr, Num, Held. -/
import Derived.Below
import Derived.WalkKit
import Derived.Laws.OwnMore
import Derived.Deep.Draws
import Derived.Lib.Hide
import Derived.Deep.QuietTactic
import Derived.IntWalk
import Derived.Maps.AppendAt
import Derived.Deep.AppendLies
import Derived.RegionTactic
import Derived.OwnWalk
import Derived.Deep.WholeRow
import Derived.Laws.CopyRow
import Derived.DeepKeys
import Derived.Laws.StructEq
import Derived.KernelRfl
import Derived.Laws.BitsAllLaws
import Derived.BigQuiet
import Derived.WalkSpells
import Derived.Shelf.Strconv.Itoa0
import Derived.Deep.RegionHeld
import Derived.Test.YtfeiplaiekbdkaaGreatDoorChecked
/- Words for memory: a slice that reads as a list of cells. Own lemmas of the verifier. -/
namespace Go.Proofs.YtfeiplaiekbdkaaGreatDoor
open Go.RowKit

theorem addr_add_block (a : Addr) (n : Nat) : (a.add n).block = a.block := by
  unfold Addr.add
  by_cases h : n = 0 <;> simp [h]
theorem addr_add_add (a : Addr) (i j : Nat) : (a.add i).add j = a.add (i + j) := by
  unfold Addr.add
  by_cases hi : i = 0 <;> by_cases hj : j = 0 <;> simp [hi, hj, Nat.add_assoc]

/-- The slice of n elements of 'size' cells at A holds the cells xs; all of it lies below block B. -/
def Lies (w : World) (B size : Nat) (A : Option Addr) (n : Nat) (xs : List Value) : Prop :=
  xs.length = n * size ∧ (n ≠ 0 → ∃ a, A = some a ∧ a.block < B ∧ ∀ j (h : j < xs.length), w.cell? (a.add j) = some xs[j])

section
variable {w w' : World} {B B' size n : Nat} {A : Option Addr} {xs : List Value}
theorem Lies.nil (w : World) (B size : Nat) (A : Option Addr) : Lies w B size A 0 [] := ⟨by simp, fun h => absurd rfl h⟩
theorem Lies.at1 {k : Nat} (h : Lies w B 1 A n xs) (hk : k < n) : ∃ (a : Addr) (hx : k < xs.length), A = some a ∧ a.block < B ∧ w.cell? (a.add k) = some xs[k] := by
  obtain ⟨a, e, hb, hc⟩ := h.2 (by omega)
  have hl : k < xs.length := by have := h.1; omega
  exact ⟨a, hl, e, hb, hc k hl⟩
theorem Lies.atMap {α : Type} {f : α → Value} {ys : List α} {k : Nat} (h : Lies w B 1 A n (ys.map f)) (hk : k < n) : ∃ (a : Addr) (hx : k < ys.length), A = some a ∧ a.block < B ∧ w.cell? (a.add k) = some (f ys[k]) := by
  obtain ⟨a, hl, e, hb, hc⟩ := h.at1 hk
  exact ⟨a, by simpa using hl, e, hb, by simpa using hc⟩
theorem Lies.same (h : Lies w B size A n xs) (hk : ∀ p : Addr, p.block < B → w'.cell? p = w.cell? p) : Lies w' B size A n xs :=
  ⟨h.1, fun hn => by
    obtain ⟨a, e, hb, hc⟩ := h.2 hn
    exact ⟨a, e, hb, fun j hj => (hk _ (by rw [addr_add_block]; exact hb)).trans (hc j hj)⟩⟩
theorem Lies.wide (h : Lies w B size A n xs) (hB : B ≤ B') : Lies w B' size A n xs :=
  ⟨h.1, fun hn => by
    obtain ⟨a, e, hb, hc⟩ := h.2 hn
    exact ⟨a, e, Nat.lt_of_lt_of_le hb hB, hc⟩⟩
theorem Lies.below (h : Lies w B size A n xs) (hb : Below B w w') : Lies w' B size A n xs := h.same fun _ hp => hb.cell hp
theorem Lies.drew (h : Lies w B size A n xs) : Lies w.drew B size A n xs := h
theorem Lies.drewN (h : Lies w B size A n xs) (k : Nat) : Lies (w.drewN k) B size A n xs := h
theorem Lies.alloc (h : Lies w B size A n xs) (hB : B ≤ w.heap.size) (o : Obj) : Lies (w.alloc o) B size A n xs := h.same fun p hp => World.cell?_alloc_lt w o p (by omega)
theorem Lies.set (h : Lies w B size A n xs) {p : Addr} (hB : B ≤ p.block) (u : Value) : Lies (w.setCell p u) B size A n xs :=
  h.same fun q hq => World.cell?_setCell_other w p q u (fun e => by subst e; omega)
theorem Lies.grown (h : Lies w B size A n xs) {row : Option Nat} (hg : w.grownBy w' row) (hB : B ≤ w.heap.size) (hr : ∀ g, row = some g → B ≤ g) : Lies w' B size A n xs :=
  h.same fun p hp => World.cell?_of_block (hg.block p.block (by omega) (fun e => by have := hr _ e.symm; omega))
theorem Lies.of_owns {base : Nat} {e : TypeId} {c : Nat} (h : w.ownsRow base e size (.slice A n c) n xs) : Lies w w.heap.size size A n xs := by
  refine ⟨h.1, fun hn => ?_⟩
  rcases h.2 with ⟨_, hz⟩ | ⟨g, cap, cur, hv, hg, hh, _⟩
  · exact absurd hz hn
  · injection hv with hA
    subst hA
    have hlt : g < w.heap.size := by
      rcases Nat.lt_or_ge g w.heap.size with hl | hl
      · exact hl
      · rw [Array.getElem?_eq_none hl] at hh; cases hh
    exact ⟨_, rfl, hlt, fun j hj => h.cells (g := g) rfl j _ (List.getElem?_eq_getElem hj)⟩
end

/-- A callee that leaves the world as it was, inside a region that draws its order. -/
theorem quiet_eq {P : Program} {f : FuncId} {args : Array Value} {w : World} {n : Nat} {v : Value}
    (h : Calls P f args (w.drewN n) fun e w' => e = .returned v ∧ w.drewN n = w') : Calls P f args (w.drewN n) fun e w'' => e = .returned v ∧ ∃ m, w'' = w.drewN m :=
  h.mono fun _ _ ⟨he, hm⟩ => ⟨he, n, hm.symm⟩

/-- Bytes as cells. -/
def u8s (l : List UInt8) : List Value := l.map fun b => Value.int .u8 (b.toNat : Int)
theorem u8s_length (l : List UInt8) : (u8s l).length = l.length := by simp [u8s]
theorem u8_lt (b : UInt8) : (b.toNat : Int) < 256 := by have := b.toNat_lt; omega
theorem lies_new (w : World) (cs : Array Value) (t : TypeId) (n : Nat) (xs : List Value) (h : cs.toList = xs) (hn : xs.length = n) :
    Lies (w.alloc (.cells cs t)) (w.heap.size + 1) 1 (some ⟨w.heap.size, 0, none⟩) n xs := by
  refine ⟨by omega, fun _ => ⟨_, rfl, Nat.lt_succ_self _, fun j hj => ?_⟩⟩
  subst h
  have e : ((⟨w.heap.size, 0, none⟩ : Addr).add j) = ⟨w.heap.size, j, none⟩ := by
    unfold Addr.add; by_cases h0 : j = 0 <;> simp [h0]
  rw [e, cell_of_row _ w.heap.size j cs t (0, 0) (heap_alloc_new w _)]
  simp at hj ⊢
end Go.Proofs.YtfeiplaiekbdkaaGreatDoor
/- append onto a row of the call's own: the source may be nil, empty or not. -/
namespace Go.Proofs.YtfeiplaiekbdkaaGreatDoor
open Go.RowKit
section
variable {P : Program} {w : World}

theorem run_app_nil (base : Nat) (t ty e : TypeId) (i : TypeInfo) (ht : P.underlying t = some (.slice e)) (hi : P.info? e = some i)
    (v : Value) (n : Nat) (xs : List Value) (hown : w.ownsRow base e 1 v n xs) (c : Nat) : (Builtin.append_ #[t, t] ty #[v, .slice none 0 c]).run P w = .ok v w := by
  rcases hown.2 with ⟨rfl, _⟩ | ⟨g, cap, cur, rfl, _, _, hle, _⟩
  · simp [Builtin.append_, Builtin.lenOf, Builtin.firstCells, run_underlying ht, sizeOf, typeInfo, hi]
  · simp [Builtin.append_, Builtin.lenOf, Builtin.firstCells, run_underlying ht, sizeOf, typeInfo, hi, hle, storeCells]

theorem run_app (base : Nat) (t ty e : TypeId) (i : TypeInfo) (z : Value) (bytes : Nat) (ht : P.underlying t = some (.slice e)) (hi : P.info? e = some i) (hz : i.zero = some z)
    (hsize : i.size = 1) (hby : i.bytes = bytes) (hzs : z.cells.size = 1) (v : Value) (n : Nat) (xs : List Value) (hown : w.ownsRow base e 1 v n xs)
    (B : Nat) (A : Option Addr) (m c : Nat) (news : List Value) (hr : Lies w B 1 A m news) (h1 : ∀ u ∈ news, u.oneCell' = true)
    (h63 : n + m ≤ maxLen) (hbytes : (n + m) * bytes ≤ 140737488355328) (hbase : base ≤ w.heap.size) :
    ∃ v' w', (Builtin.append_ #[t, t] ty #[v, .slice A m c]).run P w = .ok v' w' ∧ w'.ownsRow base e 1 v' (n + m) (xs ++ news) ∧ w.grownBy w' v.ownBlock ∧
      (v'.ownBlock = v.ownBlock ∨ v'.ownBlock = some w.heap.size) := by
  have hlen : news.length = m * 1 := hr.1
  rcases A with _ | a
  · obtain rfl : m = 0 := by
      rcases Nat.eq_zero_or_pos m with h0 | h0
      · exact h0
      · obtain ⟨_, h, _⟩ := hr.2 (by omega)
        cases h
    obtain rfl : news = [] := List.eq_nil_of_length_eq_zero (by omega)
    exact ⟨v, w, run_app_nil base t ty e i ht hi v n xs hown c, by simpa using hown, World.grownBy.refl w _, Or.inl rfl⟩
  · have hc : ∀ (j : Nat) (u : Value), news[j]? = some u → w.cell? (a.add j) = some u := by
      intro j u hu
      obtain ⟨hj, rfl⟩ := List.getElem?_eq_some_iff.1 hu
      obtain ⟨a', h, _, hc⟩ := hr.2 (by omega)
      injection h with h
      subst h
      exact hc j hj
    obtain ⟨v', w', hrun, h2, h3, _, h5⟩ := run_append_own_at (P := P) w base t ty e i z 1 bytes ht hi hz hsize hby hzs (by omega) v n xs hown a m c news hlen hc h1 h63 hbytes hbase
    exact ⟨v', w', hrun, h2, h3, h5⟩

theorem wpList_app {ops : Array Oper} {rest : List Oper} {o : Oper} {a : Act} {Q : Exit → Act → World → Prop} (hgd : o.guard = none) (s x : Operand) (t : TypeId)
    (ho : o.op = .call { callee := .builtin .append, args := #[s, x], argTypes := #[t, t] })
    (base : Nat) (e : TypeId) (i : TypeInfo) (z : Value) (bytes : Nat) (ht : P.underlying t = some (.slice e)) (hi : P.info? e = some i) (hz : i.zero = some z)
    (hsize : i.size = 1) (hby : i.bytes = bytes) (hzs : z.cells.size = 1) (v : Value) (n : Nat) (xs : List Value) (hs : a.eval s = v) (hown : w.ownsRow base e 1 v n xs)
    (B : Nat) (A : Option Addr) (m c : Nat) (news : List Value) (hx : a.eval x = .slice A m c) (hr : Lies w B 1 A m news) (h1 : ∀ u ∈ news, u.oneCell' = true)
    (h63 : n + m ≤ maxLen) (hbytes : (n + m) * bytes ≤ 140737488355328) (hbase : base ≤ w.heap.size)
    (h : ∀ v' w', w'.ownsRow base e 1 v' (n + m) (xs ++ news) → w.grownBy w' v.ownBlock → (v'.ownBlock = v.ownBlock ∨ v'.ownBlock = some w.heap.size) → wpList P ops Q rest (a.put o.dst v') w') :
    wpList P ops Q (o :: rest) a w := by
  refine wpList_plain hgd fun K hK => ?_
  obtain ⟨v', w', hrun, h2, h3, h4⟩ := run_app (P := P) base t o.type e i z bytes ht hi hz hsize hby hzs v n xs hown B A m c news hr h1 h63 hbytes hbase
  unfold Oper.wp execOp
  simp only [ho, resolve, invoke, builtin, Sem.run_bind, Sem.run_pure, Result.andThen_ok, List.map_toArray, List.map_cons, List.map_nil, hs, hx, hrun]
  exact hK _ _ (h v' w' h2 h3 h4)
end

/-- An owned row is the call's own: a slice value with its cells. -/
theorem owns_form {w : World} {base : Nat} {e : TypeId} {v : Value} {n : Nat} {xs : List Value} (h : w.ownsRow base e 1 v n xs) :
    ∃ A c, v = .slice A n c ∧ Lies w w.heap.size 1 A n xs := by
  rcases h.2 with ⟨rfl, rfl⟩ | ⟨g, cap, cur, rfl, _⟩
  · exact ⟨none, 0, rfl, Lies.of_owns h⟩
  · exact ⟨_, cap, rfl, Lies.of_owns h⟩
theorem owns_below {w w' : World} {base : Nat} {e : TypeId} {v : Value} {n : Nat} {xs : List Value} (h : w.ownsRow base e 1 v n xs) (hb : Below w.heap.size w w') : w'.ownsRow base e 1 v n xs := by
  refine ⟨h.1, ?_⟩
  rcases h.2 with h2 | ⟨g, cap, cur, hv, hg, hh, r⟩
  · exact Or.inl h2
  · have hlt : g < w.heap.size := by
      rcases Nat.lt_or_ge g w.heap.size with hl | hl
      · exact hl
      · rw [Array.getElem?_eq_none hl] at hh; cases hh
    exact Or.inr ⟨g, cap, cur, hv, hg, (hb.block g hlt).trans hh, r⟩
theorem owns_mono {w : World} {base base' : Nat} {e : TypeId} {v : Value} {n : Nat} {xs : List Value} (h : w.ownsRow base e 1 v n xs) (hb : base' ≤ base) : w.ownsRow base' e 1 v n xs := by
  refine ⟨h.1, ?_⟩
  rcases h.2 with h2 | ⟨g, cap, cur, hv, hg, r⟩
  · exact Or.inl h2
  · exact Or.inr ⟨g, cap, cur, hv, Nat.le_trans hb hg, r⟩
theorem u8s_one (l : List UInt8) : ∀ u ∈ u8s l, u.oneCell' = true := by
  intro u hu
  obtain ⟨b, _, rfl⟩ := List.mem_map.1 hu
  rfl
theorem u8s_append (a b : List UInt8) : u8s a ++ u8s b = u8s (a ++ b) := by simp [u8s]
/-- What grew by an append onto an owned row, below a base. -/
theorem below_app {B base : Nat} {a w w' : World} {v : Value} (h : Below B a w) (hg : w.grownBy w' v.ownBlock) (hB : B ≤ w.heap.size) (hv : ∀ k, v.ownBlock = some k → base ≤ k) (hb : B ≤ base) : Below B a w' :=
  h.grown hg hB fun k hk => Nat.le_trans hb (hv k hk)
theorem below_up {B : Nat} {w w1 : World} (h : Below B w w1) (o : Obj) : w.heap.size ≤ (w1.alloc o).heap.size := by
  have := h.size
  simp; omega
theorem lies_up {w w1 : World} {A : Option Addr} {n : Nat} {xs : List Value} (h : Lies w w.heap.size 1 A n xs) (hb : Below w.heap.size w w1) (o : Obj) : Lies (w1.alloc o) (w1.alloc o).heap.size 1 A n xs :=
  ((h.below hb).alloc hb.size o).wide (below_up hb o)
theorem lies_one (w : World) (x : Value) (t : TypeId) : Lies (w.alloc (.cells #[x] t)) (w.alloc (.cells #[x] t)).heap.size 1 (some ⟨w.heap.size, 0, none⟩) 1 [x] := by
  have := lies_new w #[x] t 1 [x] rfl rfl
  simpa using this

end Go.Proofs.YtfeiplaiekbdkaaGreatDoor
/- Arrays and blocks of cells that are told by a function: of any program. -/
namespace Go.Proofs.YtfeiplaiekbdkaaGreatDoor
open Go.RowKit

def vec (n : Nat) (f : Nat → Value) : Array Value := ((List.range n).map f).toArray
theorem vec_size (n : Nat) (f : Nat → Value) : (vec n f).size = n := by simp [vec]
theorem vec_at (n : Nat) (f : Nat → Value) (i : Nat) (h : i < n) : (vec n f)[i]? = some (f i) := by
  simp [vec, h]
theorem vec_congr {n : Nat} {f g : Nat → Value} (h : ∀ i, i < n → f i = g i) : vec n f = vec n g := by
  unfold vec
  congr 1
  exact List.map_congr_left fun i hi => h i (List.mem_range.1 hi)
theorem vec_inj {n : Nat} {f g : Nat → Value} (h : vec n f = vec n g) : ∀ i, i < n → f i = g i := by
  intro i hi
  have h1 := vec_at n f i hi
  rw [h, vec_at n g i hi] at h1
  exact (Option.some.inj h1).symm
def upd {α : Type} (f : Nat → α) (i : Nat) (x : α) : Nat → α := fun j => if j = i then x else f j
theorem upd_at {α : Type} (f : Nat → α) (i : Nat) (x : α) : upd f i x i = x := by simp [upd]
theorem upd_ne {α : Type} (f : Nat → α) (i : Nat) (x : α) (j : Nat) (h : j ≠ i) : upd f i x j = f j := by simp [upd, h]
theorem vec_set (n : Nat) (f : Nat → Value) (i : Nat) (x : Value) : (vec n f).setIfInBounds i x = vec n (upd f i x) := by
  apply Array.ext_getElem?
  intro j
  rw [Array.getElem?_setIfInBounds, vec_size]
  by_cases hj : j < n
  · rw [vec_at n _ j hj, vec_at n _ j hj]
    by_cases e : i = j
    · subst e; simp [upd, hj]
    · simp [upd, e, Ne.symm e]
  · by_cases e : i = j
    · subst e; simp [hj, vec]
    · simp [e, hj, vec]

/-- Block g is an array of n cells, no more. -/
def Arr (w : World) (g : Nat) (t : TypeId) (n : Nat) (f : Nat → Value) : Prop := w.heap[g]? = some (.cells (vec n f) t (0, 0))
section
variable {w w' : World} {g n : Nat} {t : TypeId} {f f' : Nat → Value}
theorem Arr.lt (h : Arr w g t n f) : g < w.heap.size := by
  rcases Nat.lt_or_ge g w.heap.size with hlt | hge
  · exact hlt
  · unfold Arr at h; rw [Array.getElem?_eq_none hge] at h; cases h
theorem Arr.cell (h : Arr w g t n f) {i : Nat} (hi : i < n) : w.cell? ⟨g, i, none⟩ = some (f i) := (cell_of_row w g i _ t (0, 0) h).trans (vec_at n f i hi)
theorem Arr.frozen (h : Arr w g t n f) (i : Nat) : w.frozen? ⟨g, i, none⟩ = false := by
  unfold Arr at h; simp [World.frozen?, h]
theorem Arr.new (w : World) (t : TypeId) (n : Nat) (f : Nat → Value) : Arr (w.alloc (.cells (vec n f) t)) w.heap.size t n f := heap_alloc_new w _
theorem Arr.new' (w : World) (t : TypeId) (n : Nat) (f : Nat → Value) (cs : Array Value) (hc : cs = vec n f) : Arr (w.alloc (.cells cs t)) w.heap.size t n f := by
  subst hc; exact Arr.new w t n f
theorem Arr.newAt (w : World) (t : TypeId) (n : Nat) (f : Nat → Value) {g : Nat} (hg : g = w.heap.size) : Arr (w.alloc (.cells (vec n f) t)) g t n f := by
  subst hg; exact Arr.new w t n f
theorem Arr.drewN (h : Arr w g t n f) (k : Nat) : Arr (w.drewN k) g t n f := h
theorem Arr.alloc (h : Arr w g t n f) (o : Obj) : Arr (w.alloc o) g t n f := (Below.heap_alloc w o g h.lt).trans h
theorem Arr.set (h : Arr w g t n f) (i : Nat) (u : Value) : Arr (w.setCell ⟨g, i, none⟩ u) g t n (upd f i u) := by
  unfold Arr at h ⊢
  rw [← vec_set]
  simp [World.setCell, Array.getElem?_modify, h]
theorem Arr.far (h : Arr w g t n f) {p : Addr} (hp : g ≠ p.block) (u : Value) : Arr (w.setCell p u) g t n f := (Below.heap_setCell w p u g hp).trans h
theorem Arr.below {B : Nat} (h : Arr w g t n f) (hb : Below B w w') (hg : g < B) : Arr w' g t n f := (hb.block g hg).trans h
theorem Arr.under (h : Arr w g t n f) (hb : Below w.heap.size w w') : Arr w' g t n f := h.below hb h.lt
theorem Arr.grown {row : Option Nat} (h : Arr w g t n f) (hb : w.grownBy w' row) (hg : some g ≠ row) : Arr w' g t n f := (hb.block g h.lt hg).trans h
theorem Arr.congr (h : Arr w g t n f) (hf : ∀ i, i < n → f i = f' i) : Arr w g t n f' := by
  unfold Arr at h ⊢; rw [← vec_congr hf]; exact h
theorem Arr.row (h : Arr w g t n f) (f' : Nat → Value) : Arr (w.setRow g (vec n f')) g t n f' := by
  unfold Arr at h ⊢
  simp [World.setRow, Array.getElem?_modify, h]
theorem Arr.rowFar (h : Arr w g t n f) {g' : Nat} (hp : g ≠ g') (c : Array Value) : Arr (w.setRow g' c) g t n f := by
  unfold Arr at h ⊢
  simp [World.setRow, Array.getElem?_modify, h, Ne.symm hp]
theorem Arr.lies {B : Nat} (h : Arr w g t n f) (hB : g < B) (a m : Nat) (hm : a + m ≤ n) : Lies w B 1 (some ⟨g, a, none⟩) m ((List.range m).map fun i => f (a + i)) := by
  refine ⟨by simp, fun _ => ⟨_, rfl, hB, fun j hj => ?_⟩⟩
  have e : ((⟨g, a, none⟩ : Addr).add j) = ⟨g, a + j, none⟩ := by
    unfold Addr.add; by_cases h0 : j = 0 <;> simp [h0]
  simp at hj
  rw [e, h.cell (by omega)]
  simp
theorem below_drewN {B : Nat} (h : Below B w w') (k : Nat) : Below B w (w'.drewN k) := ⟨h.1, h.2, h.3, h.4, h.5⟩
theorem below_row {B : Nat} (h : Below B w w') (hB : B ≤ g) (c : Array Value) : Below B w (w'.setRow g c) := by
  refine ⟨h.1, h.2, h.3, by have := h.4; simpa [World.setRow] using this, fun b hb => ?_⟩
  rw [← h.5 b hb]
  simp [World.setRow, Array.getElem?_modify, show g ≠ b by omega]
theorem run_load_arr {P : Program} {ty : TypeId} {d : TypeDesc} (h : Arr w g t n f) (hu : P.underlying ty = some d) (hd : (match d with | .struct _ | .array _ _ => true | _ => false) = true) (hi : (P.info? ty).map (·.size) = some n) :
    (loadVar ty ⟨g, 0, none⟩).run P w = .ok (.agg (vec n f)) w :=
  run_loadVar_row w g t ty (vec n f) (0, 0) d h hu hd (by rw [vec_size]; exact hi)
theorem run_store_arr {P : Program} {ty : TypeId} (h : Arr w g t n f) (f' : Nat → Value) (hi : (P.info? ty).map (·.size) = some n) (h1 : ∀ i, i < n → (f' i).oneCell' = true) :
    (storeVar ty ⟨g, 0, none⟩ (.agg (vec n f'))).run P w = .ok () (w.setRow g (vec n f')) :=
  run_storeVar_row w g t ty (vec n f) (vec n f') h (by rw [vec_size]; exact hi) (by rw [vec_size, vec_size]) (by
    rw [Array.all_eq_true_iff_forall_mem]
    intro v hv
    simp [vec] at hv
    obtain ⟨i, hi, rfl⟩ := hv
    exact h1 i hi)
end
def bys (b : Nat → UInt8) : Nat → Value := fun i => .int .u8 ((b i).toNat : Int)
theorem bys_one (h : Nat → UInt8) (n : Nat) : ∀ i, i < n → (bys h i).oneCell' = true := fun _ _ => rfl
theorem bys_upd (h : Nat → UInt8) (i : Nat) (x : UInt8) : upd (bys h) i (.int .u8 (x.toNat : Int)) = bys (upd h i x) := by
  funext j; by_cases e : j = i <;> simp [upd, bys, e]
section
variable {P : Program} {w w' : World} {ops : Array Oper} {rest : List Oper} {o : Oper} {a : Act} {Q : Exit → Act → World → Prop}
theorem results_cell1 {fn : Func} {p : Tmp} {ty : TypeId} (h : fn.results = #[.cell p ty]) (tmps : Array Value) (g : Nat) (v : Value)
    (ha : tmps.getD p undef = .pointer (some ⟨g, 0, none⟩)) (hl : (loadVar ty ⟨g, 0, none⟩).run P w = .ok v w) : (results fn tmps).run P w = .ok v w := by
  have hp' : tmps[p]?.getD undef = .pointer (some ⟨g, 0, none⟩) := by simpa using ha
  simp [results, h, hp', asAddr, hl]
theorem wl_load (hgd : o.guard = none) (ty : TypeId) (x : Operand) (ho : o.op = .load ty x) (g : Nat) (hx : a.eval x = .pointer (some ⟨g, 0, none⟩)) (v : Value)
    (hl : (loadVar ty ⟨g, 0, none⟩).run P w = .ok v w) (h : wpList P ops Q rest (a.put o.dst v) w) : wpList P ops Q (o :: rest) a w :=
  wpList_plain hgd fun K hK => by
    unfold Oper.wp execOp
    simp only [ho, hx, Instr.loadAt, Instr.sureAddr, Sem.run_bind, Sem.run_pure, Result.andThen_ok, hl]
    exact hK _ _ h
theorem exec_load (ty : TypeId) (x : Operand) (ho : o.op = .load ty x) (g : Nat) (hx : a.eval x = .pointer (some ⟨g, 0, none⟩)) (v : Value)
    (hl : (loadVar ty ⟨g, 0, none⟩).run P w = .ok v w) : (execOp a.eval o).run P w = .ok (.value v) w := by
  unfold execOp
  simp only [ho, hx, Instr.loadAt, Instr.sureAddr, Sem.run_bind, Sem.run_pure, Result.andThen_ok, hl]
theorem ow_store {K : Act → World → Prop} (ty : TypeId) (x y : Operand) (ho : o.op = .store ty x y) (g : Nat) (hx : a.eval x = .pointer (some ⟨g, 0, none⟩)) (v : Value) (hy : a.eval y = v)
    (hs : (storeVar ty ⟨g, 0, none⟩ v).run P w = .ok () w') (h : K (a.put o.dst undef) w') : o.wp P a w K Q := by
  unfold Oper.wp execOp
  simp only [ho, hx, hy, Instr.storeAt, Instr.sureAddr, Sem.run_bind, Sem.run_pure, Result.andThen_ok, hs]
  exact h
theorem wl_store (hgd : o.guard = none) (ty : TypeId) (x y : Operand) (ho : o.op = .store ty x y) (g : Nat) (hx : a.eval x = .pointer (some ⟨g, 0, none⟩)) (v : Value) (hy : a.eval y = v)
    (hs : (storeVar ty ⟨g, 0, none⟩ v).run P w = .ok () w') (h : wpList P ops Q rest (a.put o.dst undef) w') : wpList P ops Q (o :: rest) a w :=
  wpList_plain hgd fun K hK => by
    unfold Oper.wp execOp
    simp only [ho, hx, hy, Instr.storeAt, Instr.sureAddr, Sem.run_bind, Sem.run_pure, Result.andThen_ok, hs]
    exact hK _ _ h
end
theorem agg_cells (c : Array Value) : (Value.agg c).cells = c := rfl
theorem run_load_cells {P : Program} {w : World} {g n : Nat} {ty : TypeId} {d : TypeDesc} {f : Nat → Value} (h : ∀ i, i < n → w.cell? ⟨g, i, none⟩ = some (f i)) (hu : P.underlying ty = some d)
    (hd : (match d with | .struct _ | .array _ _ => true | _ => false) = true) (hi : (P.info? ty).map (·.size) = some n) :
    (loadVar ty ⟨g, 0, none⟩).run P w = .ok (.agg (vec n f)) w := by
  have hl : (loadCells ⟨g, 0, none⟩ (vec n f).toList.length).run P w = .ok (vec n f).toList.toArray w :=
    run_loadCells_list (P := P) w ⟨g, 0, none⟩ (vec n f).toList (fun j v hv => by
      have hadd : (⟨g, 0, none⟩ : Addr).add j = ⟨g, j, none⟩ := by unfold Addr.add; split <;> simp_all
      have hj : j < n := by
        have := (List.getElem?_eq_some_iff.1 hv).1
        simpa [vec] using this
      have hv2 : (vec n f)[j]? = some v := by simpa using hv
      rw [vec_at n f j hj] at hv2
      rw [hadd, h j hj, hv2])
  cases hq : P.info? ty with
  | none => simp [hq] at hi
  | some i =>
    have hs : i.size = n := by simpa [hq] using hi
    have hagg : (isAgg ty).run P w = .ok true w := by
      unfold isAgg
      rw [Sem.run_bind, run_underlying hu w]
      cases d <;> simp_all
    have hz : (vec n f).size = n := vec_size n f
    simp only [Array.length_toList, Array.toArray_toList] at hl
    rw [hz] at hl
    simp [loadVar, Sem.run_bind, hagg, sizeOf, typeInfo, hq, hs, hl]

def spl (o m : Nat) (c f : Nat → Value) : Nat → Value := fun i => if o ≤ i ∧ i < o + m then c (i - o) else f i
theorem vec_spl (n o m : Nat) (c f : Nat → Value) (h : o + m ≤ n) : ((vec n f).toList.take o ++ (List.range m).map c ++ (vec n f).toList.drop (o + m)).toArray = vec n (spl o m c f) := by
  unfold vec
  congr 1
  apply List.ext_getElem?
  intro i
  simp only [List.getElem?_append, List.length_append, List.length_take, List.length_map, List.length_range, List.getElem?_take, List.getElem?_drop, List.getElem?_map]
  by_cases h1 : i < o
  · rw [if_pos (by omega), if_pos (by omega), if_pos h1]
    by_cases hn : i < n
    · simp [List.getElem?_range hn, spl]; omega
    · omega
  · by_cases h2 : i < o + m
    · rw [if_pos (by omega), if_neg (by omega)]
      have e : i - min o n = i - o := by omega
      rw [e, List.getElem?_range (by omega), List.getElem?_range (by omega)]
      simp [spl]; omega
    · rw [if_neg (by omega)]
      have e : o + m + (i - (min o n + m)) = i := by omega
      rw [e]
      by_cases hn : i < n
      · rw [List.getElem?_range hn]; simp [spl]; omega
      · rw [List.getElem?_eq_none (by simp; omega)]; rfl
/-- All but block g is as it was. -/
structure Save (g : Nat) (w w' : World) : Prop where
  os : w'.os = w.os
  tape : w'.tape = w.tape
  output : w'.output = w.output
  size : w.heap.size ≤ w'.heap.size
  block : ∀ k, k < w.heap.size → k ≠ g → w'.heap[k]? = w.heap[k]?
theorem Save.refl (g : Nat) (w : World) : Save g w w := ⟨rfl, rfl, rfl, Nat.le_refl _, fun _ _ _ => rfl⟩
theorem Save.trans {g : Nat} {a b c : World} (h : Save g a b) (k : Save g b c) : Save g a c :=
  ⟨k.os.trans h.os, k.tape.trans h.tape, k.output.trans h.output, Nat.le_trans h.size k.size, fun i hi hg => (k.block i (Nat.lt_of_lt_of_le hi h.size) hg).trans (h.block i hi hg)⟩
theorem Save.of_below {g : Nat} {w w' : World} (h : Below w.heap.size w w') : Save g w w' := ⟨h.1, h.2, h.3, h.4, fun k hk _ => h.5 k hk⟩
theorem Save.below {g B : Nat} {w w' : World} (h : Save g w w') (hB : B ≤ g) (hs : B ≤ w.heap.size) : Below B w w' := ⟨h.1, h.2, h.3, h.4, fun k hk => h.5 k (by omega) (by omega)⟩
theorem Save.drewN {g : Nat} {w w' : World} (h : Save g w w') (n : Nat) : Save g w (w'.drewN n) := ⟨h.1, h.2, h.3, h.4, h.5⟩
theorem Save.setCell {g : Nat} {w w' : World} (h : Save g w w') (i : Nat) (u : Value) : Save g w (w'.setCell ⟨g, i, none⟩ u) := by
  refine ⟨h.1, h.2, h.3, by have := h.4; simpa [World.setCell] using this, fun k hk hg => ?_⟩
  rw [← h.5 k hk hg]
  exact Below.heap_setCell w' ⟨g, i, none⟩ u k hg
theorem Save.setRow {g : Nat} {w w' : World} (h : Save g w w') (c : Array Value) : Save g w (w'.setRow g c) := by
  refine ⟨h.1, h.2, h.3, by have := h.4; simpa [World.setRow] using this, fun k hk hg => ?_⟩
  rw [← h.5 k hk hg]
  simp [World.setRow, Array.getElem?_modify, Ne.symm hg]
theorem Save.cell {g : Nat} {w w' : World} (h : Save g w w') {p : Addr} (hp : p.block < w.heap.size) (hg : p.block ≠ g) : w'.cell? p = w.cell? p :=
  World.cell?_of_block (h.5 p.block hp hg)
theorem Arr.save {g g' n : Nat} {w w' : World} {t : TypeId} {f : Nat → Value} (h : Arr w g n t f) (hs : Save g' w w') (hg : g ≠ g') : Arr w' g n t f := (hs.block g h.lt hg).trans h
/-- Cells into a longer block, from place o on. -/
theorem run_store_spl {P : Program} {w : World} {g n o m : Nat} {t ty : TypeId} {f : Nat → Value} (h : Arr w g t n f) (c : Nat → Value) (ho : o + m ≤ n) (hi : (P.info? ty).map (·.size) = some m) (h1 : ∀ i, i < m → (c i).oneCell' = true) :
    (storeVar ty ⟨g, o, none⟩ (.agg (vec m c))).run P w = .ok () (w.setRow g (vec n (spl o m c f))) := by
  have hst := run_storeCells_at P g o t ((List.range m).map c) 0 (vec n f) w h (by rw [vec_size]; simp; omega) (by
    intro v hv
    simp at hv
    obtain ⟨i, hi, rfl⟩ := hv
    exact h1 i hi)
  have e := vec_spl n o m c f ho
  cases hq : P.info? ty with
  | none => simp [hq] at hi
  | some i =>
    have hs : i.size = m := by simpa [hq] using hi
    have hz : (vec m c).size = m := vec_size m c
    have hl : (vec m c).toList = (List.range m).map c := by simp [vec]
    simp only [Nat.add_zero, List.length_map, List.length_range] at hst
    rw [e] at hst
    simp [storeVar, sizeOf, typeInfo, hq, hs, Value.cells, hz, hl, hst]
theorem run_load_spl {P : Program} {w : World} {g o n : Nat} {ty : TypeId} {d : TypeDesc} {f : Nat → Value} (h : ∀ i, i < n → w.cell? ⟨g, o + i, none⟩ = some (f i)) (hu : P.underlying ty = some d)
    (hd : (match d with | .struct _ | .array _ _ => true | _ => false) = true) (hi : (P.info? ty).map (·.size) = some n) :
    (loadVar ty ⟨g, o, none⟩).run P w = .ok (.agg (vec n f)) w := by
  have hl : (loadCells ⟨g, o, none⟩ (vec n f).toList.length).run P w = .ok (vec n f).toList.toArray w :=
    run_loadCells_list (P := P) w ⟨g, o, none⟩ (vec n f).toList (fun j v hv => by
      have hadd : (⟨g, o, none⟩ : Addr).add j = ⟨g, o + j, none⟩ := by unfold Addr.add; split <;> simp_all
      have hj : j < n := by
        have := (List.getElem?_eq_some_iff.1 hv).1
        simpa [vec] using this
      have hv2 : (vec n f)[j]? = some v := by simpa using hv
      rw [vec_at n f j hj] at hv2
      rw [hadd, h j hj, hv2])
  cases hq : P.info? ty with
  | none => simp [hq] at hi
  | some i =>
    have hs : i.size = n := by simpa [hq] using hi
    have hagg : (isAgg ty).run P w = .ok true w := by
      unfold isAgg
      rw [Sem.run_bind, run_underlying hu w]
      cases d <;> simp_all
    have hz : (vec n f).size = n := vec_size n f
    simp only [Array.length_toList, Array.toArray_toList] at hl
    rw [hz] at hl
    simp [loadVar, Sem.run_bind, hagg, sizeOf, typeInfo, hq, hs, hl]
/-- copy into a longer block. -/
theorem run_copy_spl {P : Program} {w : World} {g n o dLen dCap sLen sCap : Nat} {dT sT ty elem t : TypeId} {a : Addr} {f c : Nat → Value} (m : Nat) (h : Arr w g t n f)
    (hu : P.underlying dT = some (.slice elem)) (hs : (P.info? elem).map (·.size) = some 1) (hm : m = Nat.min sLen dLen)
    (hsrc : ∀ j, j < m → w.cell? (a.add j) = some (c j)) (ho : o + m ≤ n) (h1 : ∀ i, i < m → (c i).oneCell' = true) :
    (Builtin.copy_ #[dT, sT] ty #[.slice (some ⟨g, o, none⟩) dLen dCap, .slice (some a) sLen sCap]).run P w = .ok (goInt (m : Nat)) (w.setRow g (vec n (spl o m c f))) := by
  have := run_copy_row P w dT sT ty elem g o dLen dCap a sLen sCap (vec n f) t ((List.range m).map c) hu hs h (by simpa using hm) (by
    intro j v hv
    obtain ⟨hj, rfl⟩ := List.getElem?_eq_some_iff.1 hv
    simp at hj ⊢
    exact hsrc j hj) (by rw [vec_size]; simp; omega) (by
    intro v hv
    simp at hv
    obtain ⟨i, hi, rfl⟩ := hv
    exact h1 i hi)
  rw [List.length_map, List.length_range, vec_spl n o m c f ho] at this
  exact this
theorem ow_copy {P : Program} {w w' : World} {o : Oper} {a : Act} {K : Act → World → Prop} {Q : Exit → Act → World → Prop} (d s : Operand) (t t' : TypeId)
    (ho : o.op = .call { callee := .builtin .copy, args := #[d, s], argTypes := #[t, t'] }) (v u : Value) (hd : a.eval d = v) (hs : a.eval s = u) {v' : Value}
    (hr : (Builtin.copy_ #[t, t'] o.type #[v, u]).run P w = .ok v' w') (h : K (a.put o.dst v') w') : o.wp P a w K Q := by
  unfold Oper.wp execOp
  simp only [ho, resolve, invoke, builtin, Sem.run_bind, Sem.run_pure, Result.andThen_ok, List.map_toArray, List.map_cons, List.map_nil, hd, hs, hr]
  exact h
theorem ow_load {P : Program} {w : World} {o : Oper} {a : Act} {K : Act → World → Prop} {Q : Exit → Act → World → Prop} (ty : TypeId) (x : Operand) (ho : o.op = .load ty x) (g k : Nat) (hx : a.eval x = .pointer (some ⟨g, k, none⟩)) (v : Value)
    (hl : (loadVar ty ⟨g, k, none⟩).run P w = .ok v w) (h : K (a.put o.dst v) w) : o.wp P a w K Q := by
  unfold Oper.wp execOp
  simp only [ho, hx, Instr.loadAt, Instr.sureAddr, Sem.run_bind, Sem.run_pure, Result.andThen_ok, hl]
  exact h
theorem exec_load_at {P : Program} {w : World} {o : Oper} {a : Act} (ty : TypeId) (x : Operand) (ho : o.op = .load ty x) (g k : Nat) (hx : a.eval x = .pointer (some ⟨g, k, none⟩)) (v : Value)
    (hl : (loadVar ty ⟨g, k, none⟩).run P w = .ok v w) : (execOp a.eval o).run P w = .ok (.value v) w := by
  unfold execOp
  simp only [ho, hx, Instr.loadAt, Instr.sureAddr, Sem.run_bind, Sem.run_pure, Result.andThen_ok, hl]
theorem wl_build {P : Program} {w : World} {ops : Array Oper} {rest : List Oper} {o : Oper} {a : Act} {Q : Exit → Act → World → Prop} (hg : o.guard = none) (t : TypeId) (parts : Array (Nat × Operand)) (ho : o.op = .build t parts)
    (cs : Array Value) (hb : P.built t (parts.map fun (i, x) => (i, a.eval x)).toList = some cs) (h : wpList P ops Q rest (a.put o.dst (.agg cs)) w) : wpList P ops Q (o :: rest) a w :=
  wpList_build hg t parts ho (by rw [hb]; rfl) (by rw [hb]; exact h)
theorem wl_load_at {P : Program} {w : World} {ops : Array Oper} {rest : List Oper} {o : Oper} {a : Act} {Q : Exit → Act → World → Prop} (hgd : o.guard = none) (ty : TypeId) (x : Operand) (ho : o.op = .load ty x) (g k : Nat) (hx : a.eval x = .pointer (some ⟨g, k, none⟩)) (v : Value)
    (hl : (loadVar ty ⟨g, k, none⟩).run P w = .ok v w) (h : wpList P ops Q rest (a.put o.dst v) w) : wpList P ops Q (o :: rest) a w :=
  wpList_plain hgd fun _ hK => ow_load ty x ho g k hx v hl (hK _ _ h)
theorem owns_cap {w : World} {base : Nat} {e : TypeId} {v : Value} {n : Nat} {xs : List Value} (h : w.ownsRow base e 1 v n xs) :
    ∃ A c, v = .slice A n c ∧ n ≤ c ∧ (∀ a, A = some a → base ≤ a.block) ∧ Lies w w.heap.size 1 A n xs := by
  rcases h.2 with ⟨rfl, rfl⟩ | ⟨g, cap, cur, rfl, hb, _, hc, _⟩
  · exact ⟨none, 0, rfl, Nat.le_refl _, (fun _ h => by cases h), Lies.of_owns h⟩
  · exact ⟨_, cap, rfl, hc, fun a ha => by injection ha with ha; subst ha; exact hb, Lies.of_owns h⟩
theorem owns_blk {w : World} {base : Nat} {e : TypeId} {v : Value} {n : Nat} {xs : List Value} (h : w.ownsRow base e 1 v n xs) (hn : n ≠ 0) :
    ∃ g c, v = .slice (some ⟨g, 0, none⟩) n c ∧ base ≤ g ∧ n ≤ c ∧ ∀ j (hj : j < xs.length), w.cell? ⟨g, 0 + j, none⟩ = some xs[j] := by
  rcases h.2 with ⟨_, h0⟩ | ⟨g, cap, cur, rfl, hb, hg, hc, hm, hs, hx⟩
  · exact absurd h0 hn
  · refine ⟨g, cap, rfl, hb, hc, fun j hj => ?_⟩
    have := h.cells (g := g) rfl j _ (List.getElem?_eq_getElem hj)
    rw [Nat.zero_add]
    have e : ((⟨g, 0, none⟩ : Addr).add j) = ⟨g, j, none⟩ := by unfold Addr.add; by_cases h0 : j = 0 <;> simp [h0]
    rw [e] at this; exact this

/-- Block g holds just these cells. -/
def Blk (w : World) (g : Nat) (t : TypeId) (cs : Array Value) : Prop := w.heap[g]? = some (.cells cs t (0, 0))
section
variable {w w' : World} {g : Nat} {t : TypeId} {cs : Array Value}
theorem Blk.lt (h : Blk w g t cs) : g < w.heap.size := by
  rcases Nat.lt_or_ge g w.heap.size with hlt | hge
  · exact hlt
  · unfold Blk at h; rw [Array.getElem?_eq_none hge] at h; cases h
theorem Blk.new (w : World) (t : TypeId) (cs : Array Value) {g : Nat} (h : g = w.heap.size) : Blk (w.alloc (.cells cs t)) g t cs := by subst h; exact heap_alloc_new w _
theorem Blk.alloc (h : Blk w g t cs) (o : Obj) : Blk (w.alloc o) g t cs := (Below.heap_alloc w o g h.lt).trans h
theorem Blk.under (h : Blk w g t cs) (hb : Below w.heap.size w w') : Blk w' g t cs := (hb.block g h.lt).trans h
theorem Blk.below {B : Nat} (h : Blk w g t cs) (hb : Below B w w') (hg : g < B) : Blk w' g t cs := (hb.block g hg).trans h
theorem Blk.save {g' : Nat} (h : Blk w g t cs) (hs : Save g' w w') (hg : g ≠ g') : Blk w' g t cs := (hs.block g h.lt hg).trans h
theorem Blk.row (h : Blk w g t cs) (cs' : Array Value) : Blk (w.setRow g cs') g t cs' := by
  unfold Blk at h ⊢
  simp [World.setRow, Array.getElem?_modify, h]
theorem Blk.rowFar (h : Blk w g t cs) {g' : Nat} (hp : g ≠ g') (c : Array Value) : Blk (w.setRow g' c) g t cs := by
  unfold Blk at h ⊢
  simp [World.setRow, Array.getElem?_modify, h, Ne.symm hp]
theorem Blk.drewN (h : Blk w g t cs) (k : Nat) : Blk (w.drewN k) g t cs := h
theorem Blk.grown {row : Option Nat} (h : Blk w g t cs) (hb : w.grownBy w' row) (hg : some g ≠ row) : Blk w' g t cs := (hb.block g h.lt hg).trans h
theorem Blk.cell (h : Blk w g t cs) (i : Nat) : w.cell? ⟨g, i, none⟩ = cs[i]? := cell_of_row w g i _ t (0, 0) h
theorem Blk.cellAt (h : Blk w g t cs) (i : Nat) {v : Value} (hv : cs[i]? = some v) : w.cell? ⟨g, i, none⟩ = some v := (h.cell i).trans hv
theorem Blk.load {P : Program} {ty : TypeId} {d : TypeDesc} (h : Blk w g t cs) (hu : P.underlying ty = some d)
    (hd : (match d with | .struct _ | .array _ _ => true | _ => false) = true) (hi : (P.info? ty).map (·.size) = some cs.size) : (loadVar ty ⟨g, 0, none⟩).run P w = .ok (.agg cs) w :=
  run_loadVar_row w g t ty cs (0, 0) d h hu hd hi
theorem Blk.store {P : Program} {ty : TypeId} (h : Blk w g t cs) (cs' : Array Value) (hs : cs'.size = cs.size) (hi : (P.info? ty).map (·.size) = some cs'.size) (h1 : cs'.toList.all Value.oneCell' = true) :
    (storeVar ty ⟨g, 0, none⟩ (.agg cs')).run P w = .ok () (w.setRow g cs') :=
  run_storeVar_row w g t ty cs cs' h hi hs.symm (by rw [← Array.all_toList]; exact h1)
end
end Go.Proofs.YtfeiplaiekbdkaaGreatDoor
/- A node: 32 bytes by value. -/
namespace Go.Proofs.YtfeiplaiekbdkaaGreatDoor
open Go.RowKit

def zb : Nat → UInt8 := fun _ => 0
theorem info26 : (Tryz.prog.info? 30).map (·.size) = some 32 := by kernel_rfl
theorem zeroV26 (w : World) : (zeroValue 30).run Tryz.prog w = .ok (.agg (vec 32 (bys zb))) w :=
  (zero_of_info (P := Tryz.prog) (t := 30) (v := .agg (vec 32 (bys zb))) (n := 32) (by kernel_rfl)).1 w
theorem arr_at (g c : Nat) (hc : 32 ≤ c) (w : World) : (Instr.arrayAt 30 (.slice (some ⟨g, 0, none⟩) 32 c)).run Tryz.prog w = .ok (.pointer (some ⟨g, 0, none⟩)) w := by
  have _ := hc
  simp [Instr.arrayAt, run_underlying Tryz.underlying30]
theorem eq_items32 (f : Nat → UInt8) (d : Nat) (w : World) : ∀ is : List Nat, (∀ i ∈ is, i < 32) → (Op.eqItems (d + 1) 5 1 (vec 32 (bys f)) (vec 32 (bys f)) is).run Tryz.prog w = .ok true w
  | [], _ => by simp [Op.eqItems]
  | i :: is, h => by
    have ih := eq_items32 f d w is (fun j hj => h j (by simp [hj]))
    have hv := vec_at 32 (bys f) i (h i (by simp))
    have hp : (Go.part 5 (vec 32 (bys f)) (i * 1)).run Tryz.prog w = .ok (bys f i) w := by
      simp [Go.part, go_sem, Tryz.isAgg5, Tryz.sizeOf5, hv]
    have he : (Op.equalIn (d + 1) 5 (bys f i) (bys f i)).run Tryz.prog w = .ok true w := by
      have := run_equalIn_int (P := Tryz.prog) w d 5 .u8 .u8 ((f i).toNat : Int) ((f i).toNat : Int) Tryz.underlying5
      rw [beq_self_eq_true] at this
      exact this
    simp only [Op.eqItems, Sem.run_bind, hp, Result.andThen_ok, he]
    exact ih
theorem eql32 (f : Nat → UInt8) (w : World) : (binOp .eql 30 (.agg (vec 32 (bys f))) (.agg (vec 32 (bys f)))).run Tryz.prog w = .ok (.bool true) w := by
  rw [run_eql_struct]
  obtain ⟨i, hi, hs⟩ : ∃ i, Tryz.prog.info? 5 = some i ∧ i.size = 1 := by
    have h : (Tryz.prog.info? 5).map (·.size) = some 1 := by kernel_rfl
    cases hq : Tryz.prog.info? 5 with
    | none => simp [hq] at h
    | some i => exact ⟨i, rfl, by simpa [hq] using h⟩
  have := run_equalIn_array (P := Tryz.prog) w 9999 (vec 32 (bys f)) (vec 32 (bys f)) Tryz.underlying30 hi
  have hc : Tryz.prog.cellsOf 5 = 1 := by kernel_rfl
  rw [hc, eq_items32 f 9998 w (List.range 32) (fun i hi => List.mem_range.1 hi)] at this
  rw [this]; rfl
theorem eqg32 (op : BinOp) (x y : Operand) (f : Nat → UInt8) (w : World) : (eqGuard op 30 x y (.agg (vec 32 (bys f))) (.agg (vec 32 (bys f)))).run Tryz.prog w = .ok () w :=
  run_eqGuard_agg w op 30 x y _ _ (by kernel_rfl)
theorem exec_eql32 {o : Oper} {a : Act} (x y : Operand) (t : TypeId) (ho : o.op = .binOp .eql 30 x y t) (f : Nat → UInt8) (hx : a.eval x = .agg (vec 32 (bys f))) (hy : a.eval y = .agg (vec 32 (bys f))) (w : World) :
    (execOp a.eval o).run Tryz.prog w = .ok (.value (.bool true)) w := by
  unfold execOp
  simp only [ho, hx, hy, Sem.run_bind, Sem.run_pure, eqg32, eql32, Result.andThen_ok]
/-- Two nodes, like or unlike. -/
def nodeEq (f g : Nat → UInt8) : Bool := (List.range 32).all fun i => f i == g i
theorem nodeEq_iff (f g : Nat → UInt8) : nodeEq f g = true ↔ ∀ i, i < 32 → f i = g i := by simp [nodeEq]
theorem eq_items_two (f g : Nat → UInt8) (d : Nat) (w : World) : ∀ is : List Nat, (∀ i ∈ is, i < 32) → (Op.eqItems (d + 1) 5 1 (vec 32 (bys f)) (vec 32 (bys g)) is).run Tryz.prog w = .ok (is.all fun i => f i == g i) w
  | [], _ => by simp [Op.eqItems]
  | i :: is, h => by
    have ih := eq_items_two f g d w is (fun j hj => h j (by simp [hj]))
    have hv := vec_at 32 (bys f) i (h i (by simp))
    have hu := vec_at 32 (bys g) i (h i (by simp))
    have hp : (Go.part 5 (vec 32 (bys f)) (i * 1)).run Tryz.prog w = .ok (bys f i) w := by
      simp [Go.part, go_sem, Tryz.isAgg5, Tryz.sizeOf5, hv]
    have hq : (Go.part 5 (vec 32 (bys g)) (i * 1)).run Tryz.prog w = .ok (bys g i) w := by
      simp [Go.part, go_sem, Tryz.isAgg5, Tryz.sizeOf5, hu]
    have he : (Op.equalIn (d + 1) 5 (bys f i) (bys g i)).run Tryz.prog w = .ok (f i == g i) w := by
      have := run_equalIn_int (P := Tryz.prog) w d 5 .u8 .u8 ((f i).toNat : Int) ((g i).toNat : Int) Tryz.underlying5
      have e : (((f i).toNat : Int) == ((g i).toNat : Int)) = (f i == g i) := by
        by_cases hx : f i = g i
        · simp [hx]
        · have hn : ¬ (f i).toNat = (g i).toNat := fun hh => hx (UInt8.toNat_inj.1 hh)
          have h1 : ((f i) == (g i)) = false := by simp [hx]
          have h2 : (((f i).toNat : Int) == ((g i).toNat : Int)) = false := by simp; omega
          rw [h1, h2]
      rw [e] at this
      exact this
    simp only [Op.eqItems, Sem.run_bind, hp, hq, Result.andThen_ok, he, List.all_cons]
    cases hx : (f i == g i)
    · simp
    · simp only [Bool.true_and]; exact ih
theorem equalIn_two (f g : Nat → UInt8) (w : World) : (Op.equalIn 10000 30 (.agg (vec 32 (bys f))) (.agg (vec 32 (bys g)))).run Tryz.prog w = .ok (nodeEq f g) w := by
  obtain ⟨i, hi, hs⟩ : ∃ i, Tryz.prog.info? 5 = some i ∧ i.size = 1 := by
    have h : (Tryz.prog.info? 5).map (·.size) = some 1 := by kernel_rfl
    cases hq : Tryz.prog.info? 5 with
    | none => simp [hq] at h
    | some i => exact ⟨i, rfl, by simpa [hq] using h⟩
  have := run_equalIn_array (P := Tryz.prog) w 9999 (vec 32 (bys f)) (vec 32 (bys g)) Tryz.underlying30 hi
  have hc : Tryz.prog.cellsOf 5 = 1 := by kernel_rfl
  rw [hc, eq_items_two f g 9998 w (List.range 32) (fun i hi => List.mem_range.1 hi)] at this
  exact this
theorem eql_two (f g : Nat → UInt8) (w : World) : (binOp .eql 30 (.agg (vec 32 (bys f))) (.agg (vec 32 (bys g)))).run Tryz.prog w = .ok (.bool (nodeEq f g)) w := by
  rw [run_eql_struct, equalIn_two]; rfl
theorem neq_two (f g : Nat → UInt8) (w : World) : (binOp .neq 30 (.agg (vec 32 (bys f))) (.agg (vec 32 (bys g)))).run Tryz.prog w = .ok (.bool (!nodeEq f g)) w := by
  rw [run_neq_struct, equalIn_two]; rfl
theorem eqg_two (op : BinOp) (x y : Operand) (f g : Nat → UInt8) (w : World) : (eqGuard op 30 x y (.agg (vec 32 (bys f))) (.agg (vec 32 (bys g)))).run Tryz.prog w = .ok () w :=
  run_eqGuard_agg w op 30 x y _ _ (by kernel_rfl)
theorem exec_eql_two {o : Oper} {a : Act} (x y : Operand) (t : TypeId) (ho : o.op = .binOp .eql 30 x y t) (f g : Nat → UInt8) (hx : a.eval x = .agg (vec 32 (bys f))) (hy : a.eval y = .agg (vec 32 (bys g))) (w : World) :
    (execOp a.eval o).run Tryz.prog w = .ok (.value (.bool (nodeEq f g))) w := by
  unfold execOp
  simp only [ho, hx, hy, Sem.run_bind, Sem.run_pure, eqg_two, eql_two, Result.andThen_ok]
theorem exec_neq_two {o : Oper} {a : Act} (x y : Operand) (t : TypeId) (ho : o.op = .binOp .neq 30 x y t) (f g : Nat → UInt8) (hx : a.eval x = .agg (vec 32 (bys f))) (hy : a.eval y = .agg (vec 32 (bys g))) (w : World) :
    (execOp a.eval o).run Tryz.prog w = .ok (.value (.bool (!nodeEq f g))) w := by
  unfold execOp
  simp only [ho, hx, hy, Sem.run_bind, Sem.run_pure, eqg_two, neq_two, Result.andThen_ok]
end Go.Proofs.YtfeiplaiekbdkaaGreatDoor
/- Words of 32 bits as the walk spells them; the small functions of sha. -/
namespace Go.Proofs.YtfeiplaiekbdkaaGreatDoor
open Go.RowKit

abbrev W32 := BitVec 32
def num (x : W32) : Int := (x.toNat : Int)
theorem num_lo (x : W32) : 0 ≤ num x := Int.natCast_nonneg _
theorem num_hi (x : W32) : num x < 4294967296 := by have := x.isLt; unfold num; omega
theorem num_inj {x y : W32} (h : num x = num y) : x = y := BitVec.eq_of_toNat_eq (by unfold num at h; omega)
theorem ofInt32 (x : W32) : BitVec.ofInt 32 (num x) = x := by
  unfold num
  rw [BitVec.ofInt_natCast, BitVec.ofNat_toNat]; simp
theorem wrap_num (x : W32) : IntKind.u32.wrap (x.toNat : Int) = num x := by
  have := x.isLt
  rw [IntKind.wrap_u32']; unfold num; omega
theorem num_xor (x y : W32) : bits .xor .u32 (num x) (num y) = num (x ^^^ y) := by
  show IntKind.u32.wrap ((BitVec.ofInt 32 (num x) ^^^ BitVec.ofInt 32 (num y)).toNat : Int) = _
  rw [ofInt32, ofInt32, wrap_num]
theorem num_and (x y : W32) : bits .and .u32 (num x) (num y) = num (x &&& y) := by
  show IntKind.u32.wrap ((BitVec.ofInt 32 (num x) &&& BitVec.ofInt 32 (num y)).toNat : Int) = _
  rw [ofInt32, ofInt32, wrap_num]
theorem num_or (x y : W32) : bits .or .u32 (num x) (num y) = num (x ||| y) := by
  show IntKind.u32.wrap ((BitVec.ofInt 32 (num x) ||| BitVec.ofInt 32 (num y)).toNat : Int) = _
  rw [ofInt32, ofInt32, wrap_num]
theorem num_add (x y : W32) : IntKind.u32.wrap (num x + num y) = num (x + y) := by
  rw [IntKind.wrap_u32']
  unfold num
  rw [BitVec.toNat_add]; omega
theorem num_shr (x : W32) (k : Nat) : num x / 2 ^ k = num (x >>> k) := by
  unfold num
  rw [BitVec.toNat_ushiftRight, Nat.shiftRight_eq_div_pow]
  simp
theorem num_shl (x : W32) (k : Nat) : IntKind.u32.wrap (num x * 2 ^ k) = num (x <<< k) := by
  unfold num
  rw [IntKind.wrap_u32', BitVec.toNat_shiftLeft, Nat.shiftLeft_eq]
  simp
theorem num_not (x : W32) : bits .xor .u32 IntKind.u32.max (num x) = num (~~~x) := by
  show IntKind.u32.wrap ((BitVec.ofInt 32 IntKind.u32.max ^^^ BitVec.ofInt 32 (num x)).toNat : Int) = _
  rw [ofInt32, wrap_num, show BitVec.ofInt 32 IntKind.u32.max = BitVec.allOnes 32 by decide, BitVec.allOnes_xor]
theorem u32_unsigned : IntKind.u32.signed = false := rfl

def rotr (x : W32) (n : Nat) : W32 := x >>> n ||| x <<< (32 - n)
def fch (x y z : W32) : W32 := x &&& y ^^^ ~~~x &&& z
def fmaj (x y z : W32) : W32 := x &&& y ^^^ x &&& z ^^^ y &&& z
def fS0 (x : W32) : W32 := rotr x 2 ^^^ rotr x 13 ^^^ rotr x 22
def fS1 (x : W32) : W32 := rotr x 6 ^^^ rotr x 11 ^^^ rotr x 25
def fs0 (x : W32) : W32 := rotr x 7 ^^^ rotr x 18 ^^^ x >>> 3
def fs1 (x : W32) : W32 := rotr x 17 ^^^ rotr x 19 ^^^ x >>> 10

theorem shr3 (x : W32) : num x / (8 : Int) = num (x >>> 3) := num_shr x 3
theorem shr10 (x : W32) : num x / (1024 : Int) = num (x >>> 10) := num_shr x 10
attribute [local go_sem] shr3 shr10 u32_unsigned num_xor num_and num_or num_add num_shl num_not

theorem choose_any (x y z : W32) (w : World) :
    Calls Tryz.prog 121 #[.int .u32 (num x), .int .u32 (num y), .int .u32 (num z)] w fun e w' => e = .returned (.int .u32 (num (fch x y z))) ∧ w = w' := by
  go_enter Tryz.func121, Tryz.ntmps121
  go_wp2
  go_ret
  exact ⟨rfl, rfl⟩
theorem most_any (x y z : W32) (w : World) :
    Calls Tryz.prog 123 #[.int .u32 (num x), .int .u32 (num y), .int .u32 (num z)] w fun e w' => e = .returned (.int .u32 (num (fmaj x y z))) ∧ w = w' := by
  go_enter Tryz.func123, Tryz.ntmps123
  go_wp2
  go_ret
  exact ⟨rfl, rfl⟩
theorem or_comm32 (a b : W32) : a ||| b = b ||| a := BitVec.or_comm a b
theorem rotl2 (x : W32) (w : World) :
    Calls Tryz.prog 131 #[.int .u32 (num x), .int .i64 (-2)] w fun e w' => e = .returned (.int .u32 (num (rotr x 2))) ∧ w = w' := by
  have e : bits BinOp.and .u64 (IntKind.u64.wrap (-2)) 31 = 30 := by decide
  have e2 : num x * 1073741824 = num x * 2 ^ 30 := rfl
  go_enter Tryz.func131, Tryz.ntmps131
  go_wp2
  go_ret
  refine ⟨?_, rfl⟩
  show Ending.returned (Value.int .u32 (bits BinOp.or .u32 (num (x <<< 30)) (num x / 4))) = _
  rw [show num x / (4 : Int) = num (x >>> 2) from num_shr x 2, num_or, or_comm32]; rfl
theorem rotl6 (x : W32) (w : World) :
    Calls Tryz.prog 131 #[.int .u32 (num x), .int .i64 (-6)] w fun e w' => e = .returned (.int .u32 (num (rotr x 6))) ∧ w = w' := by
  have e : bits BinOp.and .u64 (IntKind.u64.wrap (-6)) 31 = 26 := by decide
  have e2 : num x * 67108864 = num x * 2 ^ 26 := rfl
  go_enter Tryz.func131, Tryz.ntmps131
  go_wp2
  go_ret
  refine ⟨?_, rfl⟩
  show Ending.returned (Value.int .u32 (bits BinOp.or .u32 (num (x <<< 26)) (num x / 64))) = _
  rw [show num x / (64 : Int) = num (x >>> 6) from num_shr x 6, num_or, or_comm32]; rfl
theorem rotl7 (x : W32) (w : World) :
    Calls Tryz.prog 131 #[.int .u32 (num x), .int .i64 (-7)] w fun e w' => e = .returned (.int .u32 (num (rotr x 7))) ∧ w = w' := by
  have e : bits BinOp.and .u64 (IntKind.u64.wrap (-7)) 31 = 25 := by decide
  have e2 : num x * 33554432 = num x * 2 ^ 25 := rfl
  go_enter Tryz.func131, Tryz.ntmps131
  go_wp2
  go_ret
  refine ⟨?_, rfl⟩
  show Ending.returned (Value.int .u32 (bits BinOp.or .u32 (num (x <<< 25)) (num x / 128))) = _
  rw [show num x / (128 : Int) = num (x >>> 7) from num_shr x 7, num_or, or_comm32]; rfl
theorem rotl11 (x : W32) (w : World) :
    Calls Tryz.prog 131 #[.int .u32 (num x), .int .i64 (-11)] w fun e w' => e = .returned (.int .u32 (num (rotr x 11))) ∧ w = w' := by
  have e : bits BinOp.and .u64 (IntKind.u64.wrap (-11)) 31 = 21 := by decide
  have e2 : num x * 2097152 = num x * 2 ^ 21 := rfl
  go_enter Tryz.func131, Tryz.ntmps131
  go_wp2
  go_ret
  refine ⟨?_, rfl⟩
  show Ending.returned (Value.int .u32 (bits BinOp.or .u32 (num (x <<< 21)) (num x / 2048))) = _
  rw [show num x / (2048 : Int) = num (x >>> 11) from num_shr x 11, num_or, or_comm32]; rfl
theorem rotl13 (x : W32) (w : World) :
    Calls Tryz.prog 131 #[.int .u32 (num x), .int .i64 (-13)] w fun e w' => e = .returned (.int .u32 (num (rotr x 13))) ∧ w = w' := by
  have e : bits BinOp.and .u64 (IntKind.u64.wrap (-13)) 31 = 19 := by decide
  have e2 : num x * 524288 = num x * 2 ^ 19 := rfl
  go_enter Tryz.func131, Tryz.ntmps131
  go_wp2
  go_ret
  refine ⟨?_, rfl⟩
  show Ending.returned (Value.int .u32 (bits BinOp.or .u32 (num (x <<< 19)) (num x / 8192))) = _
  rw [show num x / (8192 : Int) = num (x >>> 13) from num_shr x 13, num_or, or_comm32]; rfl
theorem rotl17 (x : W32) (w : World) :
    Calls Tryz.prog 131 #[.int .u32 (num x), .int .i64 (-17)] w fun e w' => e = .returned (.int .u32 (num (rotr x 17))) ∧ w = w' := by
  have e : bits BinOp.and .u64 (IntKind.u64.wrap (-17)) 31 = 15 := by decide
  have e2 : num x * 32768 = num x * 2 ^ 15 := rfl
  go_enter Tryz.func131, Tryz.ntmps131
  go_wp2
  go_ret
  refine ⟨?_, rfl⟩
  show Ending.returned (Value.int .u32 (bits BinOp.or .u32 (num (x <<< 15)) (num x / 131072))) = _
  rw [show num x / (131072 : Int) = num (x >>> 17) from num_shr x 17, num_or, or_comm32]; rfl
theorem rotl18 (x : W32) (w : World) :
    Calls Tryz.prog 131 #[.int .u32 (num x), .int .i64 (-18)] w fun e w' => e = .returned (.int .u32 (num (rotr x 18))) ∧ w = w' := by
  have e : bits BinOp.and .u64 (IntKind.u64.wrap (-18)) 31 = 14 := by decide
  have e2 : num x * 16384 = num x * 2 ^ 14 := rfl
  go_enter Tryz.func131, Tryz.ntmps131
  go_wp2
  go_ret
  refine ⟨?_, rfl⟩
  show Ending.returned (Value.int .u32 (bits BinOp.or .u32 (num (x <<< 14)) (num x / 262144))) = _
  rw [show num x / (262144 : Int) = num (x >>> 18) from num_shr x 18, num_or, or_comm32]; rfl
theorem rotl19 (x : W32) (w : World) :
    Calls Tryz.prog 131 #[.int .u32 (num x), .int .i64 (-19)] w fun e w' => e = .returned (.int .u32 (num (rotr x 19))) ∧ w = w' := by
  have e : bits BinOp.and .u64 (IntKind.u64.wrap (-19)) 31 = 13 := by decide
  have e2 : num x * 8192 = num x * 2 ^ 13 := rfl
  go_enter Tryz.func131, Tryz.ntmps131
  go_wp2
  go_ret
  refine ⟨?_, rfl⟩
  show Ending.returned (Value.int .u32 (bits BinOp.or .u32 (num (x <<< 13)) (num x / 524288))) = _
  rw [show num x / (524288 : Int) = num (x >>> 19) from num_shr x 19, num_or, or_comm32]; rfl
theorem rotl22 (x : W32) (w : World) :
    Calls Tryz.prog 131 #[.int .u32 (num x), .int .i64 (-22)] w fun e w' => e = .returned (.int .u32 (num (rotr x 22))) ∧ w = w' := by
  have e : bits BinOp.and .u64 (IntKind.u64.wrap (-22)) 31 = 10 := by decide
  have e2 : num x * 1024 = num x * 2 ^ 10 := rfl
  go_enter Tryz.func131, Tryz.ntmps131
  go_wp2
  go_ret
  refine ⟨?_, rfl⟩
  show Ending.returned (Value.int .u32 (bits BinOp.or .u32 (num (x <<< 10)) (num x / 4194304))) = _
  rw [show num x / (4194304 : Int) = num (x >>> 22) from num_shr x 22, num_or, or_comm32]; rfl
theorem rotl25 (x : W32) (w : World) :
    Calls Tryz.prog 131 #[.int .u32 (num x), .int .i64 (-25)] w fun e w' => e = .returned (.int .u32 (num (rotr x 25))) ∧ w = w' := by
  have e : bits BinOp.and .u64 (IntKind.u64.wrap (-25)) 31 = 7 := by decide
  have e2 : num x * 128 = num x * 2 ^ 7 := rfl
  go_enter Tryz.func131, Tryz.ntmps131
  go_wp2
  go_ret
  refine ⟨?_, rfl⟩
  show Ending.returned (Value.int .u32 (bits BinOp.or .u32 (num (x <<< 7)) (num x / 33554432))) = _
  rw [show num x / (33554432 : Int) = num (x >>> 25) from num_shr x 25, num_or, or_comm32]; rfl
theorem turn_any (x : W32) (k : Nat) (hk : k = 2 ∨ k = 6 ∨ k = 7 ∨ k = 11 ∨ k = 13 ∨ k = 17 ∨ k = 18 ∨ k = 19 ∨ k = 22 ∨ k = 25) (w : World) :
    Calls Tryz.prog 129 #[.int .u32 (num x), .int .i64 (k : Int)] w fun e w' => e = .returned (.int .u32 (num (rotr x k))) ∧ w = w' := by
  rcases hk with rfl | rfl | rfl | rfl | rfl | rfl | rfl | rfl | rfl | rfl
  · go_enter Tryz.func129, Tryz.ntmps129
    go_wp2_with (go_at_call 131; refine (rotl2 x w).mono ?_; rintro e w' ⟨rfl, rfl⟩)
    go_ret
    exact ⟨rfl, rfl⟩
  · go_enter Tryz.func129, Tryz.ntmps129
    go_wp2_with (go_at_call 131; refine (rotl6 x w).mono ?_; rintro e w' ⟨rfl, rfl⟩)
    go_ret
    exact ⟨rfl, rfl⟩
  · go_enter Tryz.func129, Tryz.ntmps129
    go_wp2_with (go_at_call 131; refine (rotl7 x w).mono ?_; rintro e w' ⟨rfl, rfl⟩)
    go_ret
    exact ⟨rfl, rfl⟩
  · go_enter Tryz.func129, Tryz.ntmps129
    go_wp2_with (go_at_call 131; refine (rotl11 x w).mono ?_; rintro e w' ⟨rfl, rfl⟩)
    go_ret
    exact ⟨rfl, rfl⟩
  · go_enter Tryz.func129, Tryz.ntmps129
    go_wp2_with (go_at_call 131; refine (rotl13 x w).mono ?_; rintro e w' ⟨rfl, rfl⟩)
    go_ret
    exact ⟨rfl, rfl⟩
  · go_enter Tryz.func129, Tryz.ntmps129
    go_wp2_with (go_at_call 131; refine (rotl17 x w).mono ?_; rintro e w' ⟨rfl, rfl⟩)
    go_ret
    exact ⟨rfl, rfl⟩
  · go_enter Tryz.func129, Tryz.ntmps129
    go_wp2_with (go_at_call 131; refine (rotl18 x w).mono ?_; rintro e w' ⟨rfl, rfl⟩)
    go_ret
    exact ⟨rfl, rfl⟩
  · go_enter Tryz.func129, Tryz.ntmps129
    go_wp2_with (go_at_call 131; refine (rotl19 x w).mono ?_; rintro e w' ⟨rfl, rfl⟩)
    go_ret
    exact ⟨rfl, rfl⟩
  · go_enter Tryz.func129, Tryz.ntmps129
    go_wp2_with (go_at_call 131; refine (rotl22 x w).mono ?_; rintro e w' ⟨rfl, rfl⟩)
    go_ret
    exact ⟨rfl, rfl⟩
  · go_enter Tryz.func129, Tryz.ntmps129
    go_wp2_with (go_at_call 131; refine (rotl25 x w).mono ?_; rintro e w' ⟨rfl, rfl⟩)
    go_ret
    exact ⟨rfl, rfl⟩
theorem turn_at (x : W32) (k : Int) (hk : k ∈ [2, 6, 7, 11, 13, 17, 18, 19, 22, 25]) (w : World) :
    Calls Tryz.prog 129 #[.int .u32 (num x), .int .i64 k] w fun e w' => e = .returned (.int .u32 (num (rotr x k.toNat))) ∧ w = w' := by
  have h : ∀ j : Int, j ∈ [2, 6, 7, 11, 13, 17, 18, 19, 22, 25] → j = (j.toNat : Int) ∧ (j.toNat = 2 ∨ j.toNat = 6 ∨ j.toNat = 7 ∨ j.toNat = 11 ∨ j.toNat = 13 ∨ j.toNat = 17 ∨ j.toNat = 18 ∨ j.toNat = 19 ∨ j.toNat = 22 ∨ j.toNat = 25) := by decide
  obtain ⟨h1, h2⟩ := h k hk
  have := turn_any x k.toNat h2 w
  rw [← h1] at this
  exact this
theorem rturn_any (x : W32) (k : Nat) (hk : k = 2 ∨ k = 6 ∨ k = 7 ∨ k = 11 ∨ k = 13 ∨ k = 17 ∨ k = 18 ∨ k = 19 ∨ k = 22 ∨ k = 25) (w : World) :
    Calls Tryz.prog 112 #[.int .u32 (num x), .int .i64 (k : Int)] w fun e w' => e = .returned (.int .u32 (num (rotr x k))) ∧ ∃ m, w' = w.drewN m := by
  rcases hk with rfl | rfl | rfl | rfl | rfl | rfl | rfl | rfl | rfl | rfl
  · have e2 : num x * 1073741824 = num x * 2 ^ 30 := rfl
    go_enter Tryz.func112, Tryz.ntmps112
    go_wp2_with fail
    go_quiet (fail)
    go_wp2
    go_ret
    refine ⟨?_, _, rfl⟩
    show Ending.returned (Value.int .u32 (bits BinOp.or .u32 (num x / 4) (num (x <<< 30)))) = _
    rw [show num x / (4 : Int) = num (x >>> 2) from num_shr x 2, num_or]; rfl
  · have e2 : num x * 67108864 = num x * 2 ^ 26 := rfl
    go_enter Tryz.func112, Tryz.ntmps112
    go_wp2_with fail
    go_quiet (fail)
    go_wp2
    go_ret
    refine ⟨?_, _, rfl⟩
    show Ending.returned (Value.int .u32 (bits BinOp.or .u32 (num x / 64) (num (x <<< 26)))) = _
    rw [show num x / (64 : Int) = num (x >>> 6) from num_shr x 6, num_or]; rfl
  · have e2 : num x * 33554432 = num x * 2 ^ 25 := rfl
    go_enter Tryz.func112, Tryz.ntmps112
    go_wp2_with fail
    go_quiet (fail)
    go_wp2
    go_ret
    refine ⟨?_, _, rfl⟩
    show Ending.returned (Value.int .u32 (bits BinOp.or .u32 (num x / 128) (num (x <<< 25)))) = _
    rw [show num x / (128 : Int) = num (x >>> 7) from num_shr x 7, num_or]; rfl
  · have e2 : num x * 2097152 = num x * 2 ^ 21 := rfl
    go_enter Tryz.func112, Tryz.ntmps112
    go_wp2_with fail
    go_quiet (fail)
    go_wp2
    go_ret
    refine ⟨?_, _, rfl⟩
    show Ending.returned (Value.int .u32 (bits BinOp.or .u32 (num x / 2048) (num (x <<< 21)))) = _
    rw [show num x / (2048 : Int) = num (x >>> 11) from num_shr x 11, num_or]; rfl
  · have e2 : num x * 524288 = num x * 2 ^ 19 := rfl
    go_enter Tryz.func112, Tryz.ntmps112
    go_wp2_with fail
    go_quiet (fail)
    go_wp2
    go_ret
    refine ⟨?_, _, rfl⟩
    show Ending.returned (Value.int .u32 (bits BinOp.or .u32 (num x / 8192) (num (x <<< 19)))) = _
    rw [show num x / (8192 : Int) = num (x >>> 13) from num_shr x 13, num_or]; rfl
  · have e2 : num x * 32768 = num x * 2 ^ 15 := rfl
    go_enter Tryz.func112, Tryz.ntmps112
    go_wp2_with fail
    go_quiet (fail)
    go_wp2
    go_ret
    refine ⟨?_, _, rfl⟩
    show Ending.returned (Value.int .u32 (bits BinOp.or .u32 (num x / 131072) (num (x <<< 15)))) = _
    rw [show num x / (131072 : Int) = num (x >>> 17) from num_shr x 17, num_or]; rfl
  · have e2 : num x * 16384 = num x * 2 ^ 14 := rfl
    go_enter Tryz.func112, Tryz.ntmps112
    go_wp2_with fail
    go_quiet (fail)
    go_wp2
    go_ret
    refine ⟨?_, _, rfl⟩
    show Ending.returned (Value.int .u32 (bits BinOp.or .u32 (num x / 262144) (num (x <<< 14)))) = _
    rw [show num x / (262144 : Int) = num (x >>> 18) from num_shr x 18, num_or]; rfl
  · have e2 : num x * 8192 = num x * 2 ^ 13 := rfl
    go_enter Tryz.func112, Tryz.ntmps112
    go_wp2_with fail
    go_quiet (fail)
    go_wp2
    go_ret
    refine ⟨?_, _, rfl⟩
    show Ending.returned (Value.int .u32 (bits BinOp.or .u32 (num x / 524288) (num (x <<< 13)))) = _
    rw [show num x / (524288 : Int) = num (x >>> 19) from num_shr x 19, num_or]; rfl
  · have e2 : num x * 1024 = num x * 2 ^ 10 := rfl
    go_enter Tryz.func112, Tryz.ntmps112
    go_wp2_with fail
    go_quiet (fail)
    go_wp2
    go_ret
    refine ⟨?_, _, rfl⟩
    show Ending.returned (Value.int .u32 (bits BinOp.or .u32 (num x / 4194304) (num (x <<< 10)))) = _
    rw [show num x / (4194304 : Int) = num (x >>> 22) from num_shr x 22, num_or]; rfl
  · have e2 : num x * 128 = num x * 2 ^ 7 := rfl
    go_enter Tryz.func112, Tryz.ntmps112
    go_wp2_with fail
    go_quiet (fail)
    go_wp2
    go_ret
    refine ⟨?_, _, rfl⟩
    show Ending.returned (Value.int .u32 (bits BinOp.or .u32 (num x / 33554432) (num (x <<< 7)))) = _
    rw [show num x / (33554432 : Int) = num (x >>> 25) from num_shr x 25, num_or]; rfl
theorem rturn_at (x : W32) (k : Int) (hk : k ∈ [2, 6, 7, 11, 13, 17, 18, 19, 22, 25]) (w : World) :
    Calls Tryz.prog 112 #[.int .u32 (num x), .int .i64 k] w fun e w' => e = .returned (.int .u32 (num (rotr x k.toNat))) ∧ ∃ m, w' = w.drewN m := by
  have h : ∀ j : Int, j ∈ [2, 6, 7, 11, 13, 17, 18, 19, 22, 25] → j = (j.toNat : Int) ∧ (j.toNat = 2 ∨ j.toNat = 6 ∨ j.toNat = 7 ∨ j.toNat = 11 ∨ j.toNat = 13 ∨ j.toNat = 17 ∨ j.toNat = 18 ∨ j.toNat = 19 ∨ j.toNat = 22 ∨ j.toNat = 25) := by decide
  obtain ⟨h1, h2⟩ := h k hk
  have := rturn_any x k.toNat h2 w
  rw [← h1] at this
  exact this
theorem bigSum0_any (x : W32) (w : World) :
    Calls Tryz.prog 122 #[.int .u32 (num x)] w fun e w' => e = .returned (.int .u32 (num (fS0 x))) ∧ w = w' := by
  go_enter Tryz.func122, Tryz.ntmps122
  go_wp2_with (go_at_call 129; refine (turn_at x _ (by decide) w).mono ?_; rintro e w' ⟨rfl, rfl⟩)
  go_ret
  exact ⟨rfl, rfl⟩
theorem bigSum1_any (x : W32) (w : World) :
    Calls Tryz.prog 120 #[.int .u32 (num x)] w fun e w' => e = .returned (.int .u32 (num (fS1 x))) ∧ w = w' := by
  go_enter Tryz.func120, Tryz.ntmps120
  go_wp2_with (go_at_call 129; refine (turn_at x _ (by decide) w).mono ?_; rintro e w' ⟨rfl, rfl⟩)
  go_ret
  exact ⟨rfl, rfl⟩
theorem smallSum0_any (x : W32) (w : World) :
    Calls Tryz.prog 125 #[.int .u32 (num x)] w fun e w' => e = .returned (.int .u32 (num (fs0 x))) ∧ w = w' := by
  go_enter Tryz.func125, Tryz.ntmps125
  go_wp2_with (go_at_call 129; refine (turn_at x _ (by decide) w).mono ?_; rintro e w' ⟨rfl, rfl⟩)
  go_ret
  exact ⟨rfl, rfl⟩
theorem smallSum1_any (x : W32) (w : World) :
    Calls Tryz.prog 124 #[.int .u32 (num x)] w fun e w' => e = .returned (.int .u32 (num (fs1 x))) ∧ w = w' := by
  go_enter Tryz.func124, Tryz.ntmps124
  go_wp2_with (go_at_call 129; refine (turn_at x _ (by decide) w).mono ?_; rintro e w' ⟨rfl, rfl⟩)
  go_ret
  exact ⟨rfl, rfl⟩
theorem place_any (k i : Nat) (hk : k < 8) (hi : i < 64) (w : World) :
    Calls Tryz.prog 119 #[.int .i64 (k : Int), .int .i64 (i : Int)] w fun e w' => e = .returned (.int .i64 ((k + 64 - i) % 8 : Nat)) ∧ w = w' := by
  have h : ∀ k, k < 8 → ∀ i, i < 64 → bits BinOp.and .i64 ((k : Nat) - (i : Nat) : Int) 7 = (((k + 64 - i) % 8 : Nat) : Int) := by decide +kernel
  have h2 := h k hk i hi
  clear h
  go_enter Tryz.func119, Tryz.ntmps119
  go_wp2
  go_ret
  exact ⟨rfl, rfl⟩
end Go.Proofs.YtfeiplaiekbdkaaGreatDoor
/- Arrays that lie in a block of their own, told by a function. -/
namespace Go.Proofs.YtfeiplaiekbdkaaGreatDoor
open Go.RowKit

/-- Words, bytes as cells. -/
def wds (h : Nat → W32) : Nat → Value := fun i => .int .u32 (num (h i))
theorem wds_one (h : Nat → W32) (n : Nat) : ∀ i, i < n → (wds h i).oneCell' = true := fun _ _ => rfl
theorem wds_upd (h : Nat → W32) (i : Nat) (x : W32) : upd (wds h) i (.int .u32 (num x)) = wds (upd h i x) := by
  funext j; by_cases e : j = i <;> simp [upd, wds, e]
theorem wds_inj {n : Nat} {f g : Nat → W32} (h : vec n (wds f) = vec n (wds g)) : ∀ i, i < n → f i = g i := by
  intro i hi
  have := vec_inj h i hi
  simp only [wds, Value.int.injEq, true_and] at this
  exact num_inj this
end Go.Proofs.YtfeiplaiekbdkaaGreatDoor
/- word.read and its parts: sizes, shifts, numbers out of bytes. -/
namespace Go.Proofs.YtfeiplaiekbdkaaGreatDoor
open Go.RowKit


def ren129 : Go.Shelf.Ren := ⟨fun | 129 => 100 | n => n, fun | 53 => 80 | 3 => 3 | 4 => 4 | 46 => 121 | 5 => 5 | 9 => 9 | n => n, fun | n => n⟩
theorem lays129 : Go.Proofs.Lays.n129 Tryz.prog ren129 := {
  mixed := by kernel_rfl
  f129 := Tryz.func100.trans (congrArg some (by kernel_rfl))
  t3 := Tryz.underlying3
  a3 := Tryz.isAgg3
  z3 := Tryz.sizeOf3
  v3 := Tryz.zeroValue3
  t4 := Tryz.underlying4
  a4 := Tryz.isAgg4
  z4 := Tryz.sizeOf4
  v4 := Tryz.zeroValue4
  t5 := Tryz.underlying5
  a5 := Tryz.isAgg5
  z5 := Tryz.sizeOf5
  v5 := Tryz.zeroValue5
  t9 := Tryz.underlying9
  a9 := Tryz.isAgg9
  z9 := Tryz.sizeOf9
  v9 := Tryz.zeroValue9
  t46 := Tryz.underlying121
  a46 := Tryz.isAgg121
  z46 := Tryz.sizeOf121
  v46 := Tryz.zeroValue121
  t53 := Tryz.underlying80
  a53 := Tryz.isAgg80
  z53 := Tryz.sizeOf80
  v53 := Tryz.zeroValue80 }
theorem len64_any (x : Int) (w : World) (h0 : 0 ≤ x) (h1 : x ≤ 18446744073709551615) :
    Calls Tryz.prog 100 #[.int .u64 x] w fun e w' => e = .returned (.int .i64 (Lib.bitLen x.toNat)) ∧ w' = w := Any.bits_Len64 lays129 x w h0 h1
theorem len64_half (w : World) : Calls Tryz.prog 100 #[.int .u64 4294967295] w fun e w' => e = .returned (.int .i64 32) ∧ w = w' :=
  (len64_any _ w (by decide) (by decide)).mono fun e w' ⟨h1, h2⟩ => ⟨h1.trans (congrArg (fun n : Nat => Ending.returned (.int .i64 (n : Int))) (show Lib.bitLen _ = 32 by decide +kernel)), h2.symm⟩
theorem size32_any (w : World) : Calls Tryz.prog 80 #[] w fun e w' => e = .returned (.int .i64 4) ∧ w = w' := by
  go_enter Tryz.func80, Tryz.ntmps80
  go_wp2_with (go_at_call 100; refine (len64_half _).mono ?_; rintro e w' ⟨rfl, rfl⟩)
  go_ret
  exact ⟨rfl, rfl⟩
def shAt (o i m : Int) : Int := if o = 1 then 8 * i else 8 * (m - 1 - i)
theorem shAt_low (i m : Int) : shAt 1 i m = 8 * i := rfl
theorem shAt_high (i m : Int) : shAt 0 i m = 8 * (m - 1 - i) := rfl
theorem shift_any (o i m : Int) (ho : o = 0 ∨ o = 1) (h0 : 0 ≤ i) (h1 : i < m) (h2 : m ≤ 8) (w : World) :
    Calls Tryz.prog 81 #[.int .i64 o, .int .i64 i, .int .i64 m] w fun e w' => e = .returned (.int .i64 (shAt o i m)) ∧ w = w' := by
  rcases ho with rfl | rfl
  · go_enter Tryz.func81, Tryz.ntmps81
    go_wp2
    go_ret
    exact ⟨rfl, rfl⟩
  · go_enter Tryz.func81, Tryz.ntmps81
    go_wp2
    go_ret
    exact ⟨rfl, rfl⟩

/-- What stands in the number behind k rounds. -/
def accN (o : Int) (wide : Nat) (m : Nat) (b : Nat → UInt8) : Nat → Nat
  | 0 => 0
  | k + 1 => accN o wide m b k ||| ((b k).toNat * 2 ^ min (shAt o k wide).toNat (8 * wide) % m)
theorem accN_lt (o : Int) (wide n : Nat) (b : Nat → UInt8) (k : Nat) : accN o wide (2 ^ n) b k < 2 ^ n := by
  induction k with
  | zero => exact Nat.pow_pos (by decide)
  | succ k ih => exact Nat.or_lt_two_pow ih (Nat.mod_lt _ (Nat.pow_pos (by decide)))
theorem or_u32 (o : Int) (b : Nat → UInt8) (k : Nat) (x : Int) (hx : x = ((b k).toNat : Int)) :
    bits .or .u32 ((accN o 4 4294967296 b k : Nat) : Int) (x * 2 ^ min (shAt o k 4).toNat 32 % 4294967296) = ((accN o 4 4294967296 b (k + 1) : Nat) : Int) := by
  subst hx
  have h := accN_lt o 4 32 b k
  have e : ((b k).toNat : Int) * 2 ^ min (shAt o k 4).toNat 32 % 4294967296 = (((b k).toNat * 2 ^ min (shAt o k 4).toNat 32 % 4294967296 : Nat) : Int) := by simp
  rw [e, u32_or_nat _ _ h (Nat.mod_lt _ (by decide))]
  rfl
def bAt (l : List UInt8) (at_ : Nat) : Nat → UInt8 := fun j => l.getD (at_ + j) 0
theorem bAt_eq (l : List UInt8) (at_ k : Nat) (h : at_ + k < l.length) : ((l[at_ + k].toNat : Nat) : Int) = ((bAt l at_ k).toNat : Int) := by
  unfold bAt
  rw [List.getD_eq_getElem?_getD, List.getElem?_eq_getElem h]; rfl

set_option maxHeartbeats 400000 in
set_option maxRecDepth 100000 in
theorem read32_in (l : List UInt8) (A : Option Addr) (c B : Nat) (at_ : Nat) (o : Int) (ho : o = 0 ∨ o = 1) (w : World) (hat : at_ + 4 ≤ l.length) (hl : l.length ≤ maxLen) (h : Lies w B 1 A l.length (u8s l)) :
    Calls Tryz.prog 82 #[.slice A l.length c, .int .i64 (at_ : Int), .int .i64 o] w fun e w' => e = .returned (.tuple #[.int .u32 (accN o 4 4294967296 (bAt l at_) 4 : Nat), .bool true]) ∧ ∃ n, w' = w.drewN n := by
  unfold maxLen at hl
  have HO := Lib.hid ho
  clear ho
  have Hw := Lib.hid h
  clear h
  go_enter Tryz.func82, Tryz.ntmps82
  go_wp2_with (go_at_call 80; refine (size32_any _).mono ?_; rintro e w' ⟨rfl, rfl⟩)
  go_loopw [9, 10, 24] (fun n i24 j W => ∃ k : Nat, k ≤ 4 ∧ j = .int .i64 k ∧ n = .int .u32 (accN o 4 4294967296 (bAt l at_) k : Nat) ∧ ∃ m, W = w.drewN m) (fun _ _ i _ => 4 - (intOf i).toNat)
  case atStart => exact ⟨0, Nat.zero_le _, rfl, rfl, 0, rfl⟩
  case round =>
    obtain ⟨k, hk, rfl, rfl, m, hm⟩ := hrel
    have hw : Lies wr B 1 A l.length (u8s l) := by rw [hm]; exact Hw.out.drewN m
    have Hm := Lib.hid hm
    clear hm
    by_cases hlt : k < 4
    · obtain ⟨a, hx, rfl, hb, hc⟩ := hw.atMap (k := at_ + k) (by omega)
      have hb8 := u8_lt l[at_ + k]
      go_wp2
      have s0 := or_u32 o (bAt l at_) k _ (bAt_eq l at_ k hx)
      have s1 : IntKind.i64.wrap ((at_ : Int) + k) = at_ + k := IntWalk.i64_in _ (by omega)
      have s2 : (0 : Int) ≤ at_ + k := by omega
      have s3 : ((at_ : Int) + k).toNat = at_ + k := by omega
      have s4 : (at_ : Int) + k < l.length := by omega
      have s5 : 0 ≤ shAt o k 4 := by rcases HO.out with rfl | rfl <;> simp only [shAt_low, shAt_high] <;> omega
      go_quiet ((go_at_call 81; exact quiet_eq (shift_any _ _ _ HO.out (by omega) (by omega) (by omega) _)))
      clear s0 s1 s2 s3 s4 s5
      go_wp2
      go_roundw
      case rel => exact ⟨k + 1, by omega, by go_num, rfl, m + nq, by rw [Hm.out, World.drewN_drewN]⟩
      case measure => simp [intOf]; omega
    · obtain rfl : k = 4 := by omega
      go_wp2
      go_ret2
      exact ⟨rfl, m, Hm.out⟩
theorem read32_out (A : Option Addr) (n c : Nat) (at_ o : Int) (w : World) (hat : at_ < 0 ∨ (n : Int) - 4 < at_) (hl : n ≤ maxLen) :
    Calls Tryz.prog 82 #[.slice A n c, .int .i64 at_, .int .i64 o] w fun e w' => e = .returned (.tuple #[.int .u32 0, .bool false]) ∧ w = w' := by
  unfold maxLen at hl
  by_cases h0 : at_ < 0
  · clear hat
    go_enter Tryz.func82, Tryz.ntmps82
    go_wp2_with (go_at_call 80; refine (size32_any _).mono ?_; rintro e w' ⟨rfl, rfl⟩)
    go_ret2
    exact ⟨rfl, rfl⟩
  · have h1 : (n : Int) - 4 < at_ := by omega
    have h2 : ¬ at_ < 0 := h0
    clear hat h0
    go_enter Tryz.func82, Tryz.ntmps82
    go_wp2_with (go_at_call 80; refine (size32_any _).mono ?_; rintro e w' ⟨rfl, rfl⟩)
    go_ret2
    exact ⟨rfl, rfl⟩

def u64s (xs : List Nat) : List Value := xs.map fun (x : Nat) => Value.int .u64 (x : Int)
end Go.Proofs.YtfeiplaiekbdkaaGreatDoor
/- A region that draws its order, walked with a condition that may grow stronger on the way: what a call has made may then be read like what was there. -/
namespace Go.Proofs.YtfeiplaiekbdkaaGreatDoor
open Go.RowKit
section
variable {P : Program} {ops : Array Oper} {Q : Exit → Act → World → Prop} {md : Region.Mode} {S S' : World → Prop}

theorem held_mono (hs : ∀ W, S' W → S W) : ∀ (fuel : Nat) (listed : Array Bool) (a : Act) (w : World), wpAnyH P md ops Q S' fuel listed a w → wpAnyH P md ops Q S fuel listed a w
  | 0, _, _, _, h => h
  | fuel + 1, _, _, _, h => ⟨h.1, fun i hi => wpOp_mono (fun a' w' h' => ⟨hs _ h'.1, held_mono hs fuel _ a' w' h'.2⟩) (h.2 i hi)⟩

/-- From here on more is known of the world. -/
theorem held_and {T : World → Prop} {fuel : Nat} {listed : Array Bool} {a : Act} {w : World} (hS : S w) (hT : T w) (h : S w ∧ T w → wpAnyH P md ops Q (fun W => S W ∧ T W) fuel listed a w) : wpAnyH P md ops Q S fuel listed a w :=
  held_mono (fun _ h => h.1) fuel listed a w (h ⟨hS, hT⟩)

/-- One operation alone may come up, and it is wanted: it is carried out. -/
theorem held_one {i : Nat} {oi : Oper} {fuel : Nat} {listed : Array Bool} {a : Act} {w : World} (hr : Region.ready md ops listed = [i]) (hi : ops[i]? = some oi)
    (hw : Region.wanted oi (yielded ops a.tmps) = true)
    (h : ∀ K' : Act → World → Prop, (∀ a w, S w → (S w → wpAnyH P md ops Q S fuel (listed.setIfInBounds i true) a w) → K' a w) → Oper.wp P oi a w K' Q) :
    wpAnyH P md ops Q S (fuel + 1) listed a w := by
  refine wpAnyH_ready hr (by simp) (AllReadyH.cons hi (fun K' hK => ?_) AllReadyH.nil)
  rw [if_pos hw]
  exact h K' fun a w h1 h2 => hK.out a w h1 h2
/-- Two operations may come up, in either order: both are wanted. -/
theorem held_two {i j : Nat} {oi oj : Oper} {fuel : Nat} {listed : Array Bool} {a : Act} {w : World} (hr : Region.ready md ops listed = [i, j]) (hi : ops[i]? = some oi) (hj : ops[j]? = some oj)
    (hwi : Region.wanted oi (yielded ops a.tmps) = true) (hwj : Region.wanted oj (yielded ops a.tmps) = true)
    (h1 : ∀ K' : Act → World → Prop, (∀ a w, S w → (S w → wpAnyH P md ops Q S fuel (listed.setIfInBounds i true) a w) → K' a w) → Oper.wp P oi a w K' Q)
    (h2 : ∀ K' : Act → World → Prop, (∀ a w, S w → (S w → wpAnyH P md ops Q S fuel (listed.setIfInBounds j true) a w) → K' a w) → Oper.wp P oj a w K' Q) :
    wpAnyH P md ops Q S (fuel + 1) listed a w := by
  refine wpAnyH_ready hr (by simp) (AllReadyH.cons hi (fun K' hK => ?_) (AllReadyH.cons hj (fun K' hK => ?_) AllReadyH.nil))
  · rw [if_pos hwi]
    exact h1 K' fun a w h1 h2 => hK.out a w h1 h2
  · rw [if_pos hwj]
    exact h2 K' fun a w h1 h2 => hK.out a w h1 h2
/-- An operation that looks at the world, and yields in every world that meets S, is taken first. -/
theorem held_take {i : Nat} {oi : Oper} {v : Value} {fuel : Nat} {listed : Array Bool} {a : Act} {w : World} (hi : ops[i]? = some oi)
    (hs : Region.noSelect ops = true) (hf : Region.free md ops listed i = true) (hr : (Region.ready md ops listed).contains i = true)
    (hQ : ∀ c a w, Q (.panic c) (a.put oi.dst v) w → Q (.panic c) a w) (hw : Region.wanted oi (yielded ops a.tmps) = true) (hy : ∀ w, S w → (execOp a.eval oi).run P w = .ok (.value v) w) (hS : S w)
    (h : wpAnyH P md ops Q S fuel (listed.setIfInBounds i true) (a.put oi.dst v) w) : wpAnyH P md ops Q S (fuel + 1) listed a w :=
  wpAnyH_take hi hs hf hr hQ (Or.inl ⟨hw, hy⟩) hS h
/-- An operation whose guard says no is passed over. -/
theorem held_skip {i : Nat} {oi : Oper} {fuel : Nat} {listed : Array Bool} {a : Act} {w : World} (hi : ops[i]? = some oi)
    (hs : Region.noSelect ops = true) (hf : Region.free md ops listed i = true) (hr : (Region.ready md ops listed).contains i = true)
    (hQ : ∀ c a w, Q (.panic c) (a.put oi.dst undef) w → Q (.panic c) a w) (hw : Region.wanted oi (yielded ops a.tmps) = false) (hS : S w)
    (h : wpAnyH P md ops Q S fuel (listed.setIfInBounds i true) (a.put oi.dst undef) w) : wpAnyH P md ops Q S (fuel + 1) listed a w :=
  wpAnyH_take hi hs hf hr hQ (Or.inr ⟨hw, rfl⟩) hS h
end
end Go.Proofs.YtfeiplaiekbdkaaGreatDoor
