import Derived.Deep.Strs
import Derived.Deep.Slices
import Derived.Lib.SmallJoins
import Derived.Lib.LaidU8
import Derived.ChangeArms
import Derived.Lib.Hide
import Derived.Test.YtkaipknkjocfiaaGreatZa4
namespace Go.Proofs.YtkaipknkjocfiaaGreat
open Go.RowKit
attribute [local go_sem ↓ high] zeroGu
theorem GRow.one {w : World} {B : Nat} {x : GV} (h : GRow w B x) : GV1 x := by
 obtain ⟨⟨A, c, e, _, _⟩, ⟨A2, c2, e2, _, _⟩, ⟨A3, c3, e3, _, _⟩, ⟨A4, c4, e4, _, _⟩⟩ := h
 exact ⟨by rw [e]; rfl, by rw [e2]; rfl, by rw [e3]; rfl, by rw [e4]; rfl⟩
structure GsR (w : World) (B : Nat) (A : Option Addr) (ys : List GV) : Prop where
 row : RowE 79 guestE w B A ys
 all : ∀ y ∈ ys, GRow w B y
theorem GsR.below {w w' : World} {B : Nat} {A : Option Addr} {ys : List GV} (h : GsR w B A ys) (hb : Below B w w') : GsR w' B A ys := ⟨h.row.below hb, fun y hy => (h.all y hy).below hb⟩
theorem GsR.wide {w : World} {B B' : Nat} {A : Option Addr} {ys : List GV} (h : GsR w B A ys) (hb : B ≤ B') : GsR w B' A ys := ⟨h.row.wide hb, fun y hy => (h.all y hy).wide hb⟩
theorem GsR.up {w w' : World} {A : Option Addr} {ys : List GV} (h : GsR w w.heap.size A ys) (hb : Below w.heap.size w w') : GsR w' w'.heap.size A ys := (h.below hb).wide hb.size
structure CfR (w : World) (B : Nat) (x : Cf) (a c : Value) : Prop where
 gs : ∃ A d ys, a = .slice A x.gs.length d ∧ ys.map GV.g = x.gs ∧ GsR w B A ys ∧ x.gs.length ≤ 9223372036854775807
 chs : ∃ A d, c = .slice A x.chs.length d ∧ RowE 8 chE w B A x.chs ∧ x.chs.length ≤ 9223372036854775807
theorem CfR.below {w w' : World} {B : Nat} {x : Cf} {a c : Value} (h : CfR w B x a c) (hb : Below B w w') : CfR w' B x a c := by
 obtain ⟨⟨A, d, ys, e, hm, hr, hl⟩, ⟨A2, d2, e2, hr2, hl2⟩⟩ := h
 exact ⟨⟨A, d, ys, e, hm, hr.below hb, hl⟩, ⟨A2, d2, e2, hr2.below hb, hl2⟩⟩
theorem CfR.wide {w : World} {B B' : Nat} {x : Cf} {a c : Value} (h : CfR w B x a c) (hb : B ≤ B') : CfR w B' x a c := by
 obtain ⟨⟨A, d, ys, e, hm, hr, hl⟩, ⟨A2, d2, e2, hr2, hl2⟩⟩ := h
 exact ⟨⟨A, d, ys, e, hm, hr.wide hb, hl⟩, ⟨A2, d2, e2, hr2.wide hb, hl2⟩⟩
theorem CfR.up {w w' : World} {x : Cf} {a c : Value} (h : CfR w w.heap.size x a c) (hb : Below w.heap.size w w') : CfR w' w'.heap.size x a c := (h.below hb).wide hb.size
def cfVal (x : Cf) (a c : Value) : Value := .agg (vec 3 (cfE x.ver a c))
theorem cf_cells {w : World} {g : Nat} {t : TypeId} {x : Cf} {a c : Value} (h : Arr w g t 3 (cfE x.ver a c)) : w.cell? ⟨g, 0, none⟩ = some (.int .u32 x.ver) ∧ w.cell? ⟨g, 1, none⟩ = some a ∧ w.cell? ⟨g, 2, none⟩ = some c := ⟨h.cell (i := 0) (by decide), h.cell (i := 1) (by decide), h.cell (i := 2) (by decide)⟩
end Go.Proofs.YtkaipknkjocfiaaGreat
namespace Go.Proofs.YtkaipknkjocfiaaGreat
open Go.ChangeShapes Go.WideShapes Go.ChangeAt Go.RowKit Go.Deep
def u64B (z : Int) : Prop := 0 ≤ z ∧ z ≤ 18446744073709551615
def u32B (z : Int) : Prop := 0 ≤ z ∧ z ≤ 4294967295
def i64B (z : Int) : Prop := -9223372036854775808 ≤ z ∧ z ≤ 9223372036854775807
def WiB (x : Wi) : Prop := u64B x.ipa ∧ u64B x.pa ∧ u64B x.size ∧ i64B x.perm
def DeB (x : De) : Prop := u64B x.ipa ∧ u64B x.pa ∧ u64B x.size
def IrB (x : Ir) : Prop := i64B x.number ∧ i64B x.cpu
def EnB (x : En) : Prop := i64B x.guest ∧ i64B x.perm ∧ u64B x.ipa
def ChB (x : Ch) : Prop := u64B x.pa ∧ u64B x.size ∧ EnB x.a ∧ EnB x.b
structure GsB (g : Gs) : Prop where
 off : u32B g.off
 len : u32B g.len
 cpus : u32B g.cpus
 entry : u64B g.entry
 dtb : u64B g.dtb
 key : g.key.length = 68
 wins : ∀ y ∈ g.wins, WiB y
 devs : ∀ y ∈ g.devs, DeB y
 irqs : ∀ y ∈ g.irqs, IrB y
 strs : ∀ y ∈ g.strs, u32B y
structure CfB (c : Cf) : Prop where
 ver : u32B c.ver
 gs : ∀ g ∈ c.gs, GsB g
 chs : ∀ y ∈ c.chs, ChB y
def CapW (y : GV) : Prop := ∃ A c, y.wv = .slice A y.g.wins.length c ∧ y.g.wins.length ≤ c
def CfRW (w : World) (B : Nat) (x : Cf) (a c : Value) : Prop := CfR w B x a c ∧ ∃ A d ys, a = .slice A x.gs.length d ∧ ys.map GV.g = x.gs ∧ GsR w B A ys ∧ ∀ y ∈ ys, CapW y
theorem CfRW.below {w w' : World} {B : Nat} {x : Cf} {a c : Value} (h : CfRW w B x a c) (hb : Below B w w') : CfRW w' B x a c := by
 obtain ⟨h1, A, d, ys, e, hm, hr, hc⟩ := h
 exact ⟨h1.below hb, A, d, ys, e, hm, hr.below hb, hc⟩
theorem CfRW.wide {w : World} {B B' : Nat} {x : Cf} {a c : Value} (h : CfRW w B x a c) (hb : B ≤ B') : CfRW w B' x a c := by
 obtain ⟨h1, A, d, ys, e, hm, hr, hc⟩ := h
 exact ⟨h1.wide hb, A, d, ys, e, hm, hr.wide hb, hc⟩
theorem list_of {α : Type} {Φ : Nat → α → Prop} : ∀ n, (∀ i, i < n → ∃ x, Φ i x) → ∃ l : List α, l.length = n ∧ ∀ j (h : j < l.length), Φ j l[j]
 | 0, _ => ⟨[], rfl, fun j h => by cases h⟩
 | n + 1, h => by
  obtain ⟨l, hl, hf⟩ := list_of n fun i hi => h i (by omega)
  obtain ⟨x, hx⟩ := h n (by omega)
  refine ⟨l ++ [x], by simp [hl], fun j hj => ?_⟩
  rw [List.getElem_append]
  split
  · rename_i h1; exact hf j h1
  · rename_i h1
    have : j = n := by simp at hj; omega
    subst this
    simp only [hl, Nat.sub_self, List.getElem_cons_zero]
    exact hx
theorem take1_at {L : List Value} {o : Nat} (h : o < L.length) : (L.drop o).take 1 = [L[o]] := by
 rw [List.drop_eq_getElem_cons h]; rfl
section
variable {H : Type} {enc : TypeId × Value → H} {P : Program} {W : World} {r : Reach} {base : Nat} {sp : Nat → Bool} {held : Bool} {fuel : Nat}
theorem trod_arr_form {t e : TypeId} {n : Nat} {cs : List Value} {x : DataW H × List MemPlace} (ht : P.underlying t = some (.array n e))
  (h : DataW.trod enc P W base sp held fuel t cs = some x) : ∃ ds p, x = (.agg ds, p) := by
 cases fuel with
 | zero => simp [DataW.trod] at h
 | succ fuel =>
  simp only [DataW.trod, ht] at h
  split at h
  · obtain ⟨xs, hm, hx⟩ := Option.map_eq_some_iff.1 h
    exact ⟨_, _, hx.symm⟩
  · cases h
section
variable {t : TypeId} {L : List Value} {o : Nat} {y : DataW H × List MemPlace}
theorem cell_int {k : IntKind} (ht : P.underlying t = some (.int k)) (hc : P.cellsOf t = 1) (ho : o < L.length) (h : DataW.trod enc P W base sp held fuel t ((L.drop o).take (P.cellsOf t)) = some y) : ∃ z, L[o]? = some (.int k z) ∧ (Lit.int k z).wf = true := by
 rw [hc, take1_at ho] at h
 obtain ⟨z, e, _, hw⟩ := DataW.trod_int ht h
 simp at e
 exact ⟨z, by rw [List.getElem?_eq_getElem ho, e], hw⟩
theorem cell_bool (ht : P.underlying t = some .bool) (hc : P.cellsOf t = 1) (ho : o < L.length) (h : DataW.trod enc P W base sp held fuel t ((L.drop o).take (P.cellsOf t)) = some y) : ∃ z, L[o]? = some (.bool z) := by
 rw [hc, take1_at ho] at h
 obtain ⟨z, e, _⟩ := DataW.trod_bool ht h
 simp at e
 exact ⟨z, by rw [List.getElem?_eq_getElem ho, e]⟩
theorem cell_str (ht : P.underlying t = some .string) (hc : P.cellsOf t = 1) (ho : o < L.length) (h : DataW.trod enc P W base sp held fuel t ((L.drop o).take (P.cellsOf t)) = some y) : ∃ s : By, L[o]? = some (.string (strOf s)) := by
 rw [hc, take1_at ho] at h
 obtain ⟨z, e, _⟩ := DataW.trod_string ht h
 simp at e
 refine ⟨z.data.toList, ?_⟩
 rw [List.getElem?_eq_getElem ho, e]
 rfl
end
theorem row_cells {α : Type} {n : Nat} {enE : α → Nat → Value} {Φ : α → Prop} {ts te : TypeId} {v : Value} {x : DataW H × List MemPlace} (ht : P.underlying ts = some (.slice te)) (hC : P.cellsOf te = n) (hn : 0 < n)
   (hel : ∀ {fuel : Nat} {L : List Value} {x : DataW H × List MemPlace}, L.length = n → DataW.trod enc P W 0 sp held fuel te L = some x → ∃ y : α, (∀ i, i < n → L[i]? = some (enE y i)) ∧ Φ y)
   (h : DataW.trod enc P W 0 sp held fuel ts [v] = some x) :
   ∃ (A : Option Addr) (c : Nat) (l : List α), v = .slice A l.length c ∧ l.length ≤ 9223372036854775807 ∧ RowE n enE W W.heap.size A l ∧ (∀ y ∈ l, Φ y) ∧ l.length ≤ c := by
 rcases open_slice ht h with ⟨hcs, _⟩ | ⟨a, len, cap, m, n', D, Pl, hcs, _, hle, hm, hmm, _, hi⟩
 · injection hcs with hcs
   exact ⟨none, 0, [], hcs, Nat.zero_le _, RowE.nil _ _ _, (fun x hx => by cases hx), Nat.le_refl _⟩
 · injection hcs with hcs
   have hlm : len ≤ m := by rw [hmm]; split <;> omega
   have key : ∀ i, i < len → ∃ y : α, (∀ j, j < n → W.cell? (a.add (i * n + j)) = some (enE y j)) ∧ Φ y := by
     intro i hil
     obtain ⟨cs, hc, ht'⟩ := hi i (by omega)
     rw [hC] at hc
     obtain ⟨_, hcl, hat⟩ := World.cells?_some hc
     obtain ⟨y, hf, hφ⟩ := hel (by omega) ht'
     refine ⟨y, fun j hj => ?_, hφ⟩
     have := hat j (by omega)
     rw [← Go.Deep.add_add, this]
     exact hf j hj
   obtain ⟨l, hl, hc⟩ := list_of len key
   subst hl
   refine ⟨some a, cap, l, hcs, by unfold maxLen at hm; omega, fun hne => ⟨a, rfl, ?_, fun j hj i hi => (hc j hj).1 i hi⟩, fun x hx => ?_, hle⟩
   · have hpos : 0 < l.length := List.length_pos_iff.2 hne
     have := (hc 0 hpos).1 0 hn
     have e0 : a.add (0 * n + 0) = a := by simp [Addr.add]
     rw [e0] at this
     exact World.block_lt_of_cell? W a this
   · obtain ⟨j, hj, rfl⟩ := List.mem_iff_getElem.1 hx
     exact (hc j hj).2
end
section
variable {H : Type} {enc : TypeId × Value → H} {W : World} {r : Reach} {base : Nat} {sp : Nat → Bool} {held : Bool} {fuel : Nat} {L : List Value} {x : DataW H × List MemPlace}
theorem c1U64 : Tryz.prog.cellsOf 22 = 1 := by kernel_rfl
theorem c1U32 : Tryz.prog.cellsOf 27 = 1 := by kernel_rfl
theorem c1I : Tryz.prog.cellsOf 3 = 1 := by kernel_rfl
theorem c1B : Tryz.prog.cellsOf 4 = 1 := by kernel_rfl
theorem c1S : Tryz.prog.cellsOf 9 = 1 := by kernel_rfl
theorem c1U8 : Tryz.prog.cellsOf 5 = 1 := by kernel_rfl
theorem u64B_of {z : Int} (h : (Lit.int .u64 z).wf = true) : u64B z := by have := bounds_u64 h; unfold u64B; first | omega | (unfold two64 at this; omega)
theorem u32B_of {z : Int} (h : (Lit.int .u32 z).wf = true) : u32B z := by have := bounds_u32 h; unfold u32B; omega
theorem i64B_of {z : Int} (h : (Lit.int .i64 z).wf = true) : i64B z := by have := bounds_i64 h; unfold i64B; omega
theorem wi_cells (hl : L.length = 4) (h : DataW.trod enc Tryz.prog W 0 sp held fuel 67 L = some x) : ∃ y : Wi, (∀ i, i < 4 → L[i]? = some (winE y i)) ∧ WiB y := by
 obtain ⟨y0, y1, y2, y3, n, -, -, h0, h1, h2, h3⟩ := Joins.trod_struct4 Tryz.underlying67 h
 obtain ⟨z0, e0, w0⟩ := cell_int (o := 0) Tryz.underlying22 c1U64 (by omega) h0
 obtain ⟨z1, e1, w1⟩ := cell_int (o := 1) Tryz.underlying22 c1U64 (by omega) h1
 obtain ⟨z2, e2, w2⟩ := cell_int (o := 2) Tryz.underlying22 c1U64 (by omega) h2
 obtain ⟨z3, e3, w3⟩ := cell_int (o := 3) Tryz.underlying3 c1I (by omega) h3
 refine ⟨⟨z0, z1, z2, z3⟩, fun i hi => ?_, u64B_of w0, u64B_of w1, u64B_of w2, i64B_of w3⟩
 match i, hi with
 | 0, _ => exact e0
 | 1, _ => exact e1
 | 2, _ => exact e2
 | 3, _ => exact e3
theorem de_cells (hl : L.length = 3) (h : DataW.trod enc Tryz.prog W 0 sp held fuel 83 L = some x) : ∃ y : De, (∀ i, i < 3 → L[i]? = some (devE y i)) ∧ DeB y := by
 obtain ⟨y0, y1, y2, n, -, -, h0, h1, h2⟩ := trod_struct3 Tryz.underlying83 h
 obtain ⟨z0, e0, w0⟩ := cell_int (o := 0) Tryz.underlying22 c1U64 (by omega) h0
 obtain ⟨z1, e1, w1⟩ := cell_int (o := 1) Tryz.underlying22 c1U64 (by omega) h1
 obtain ⟨z2, e2, w2⟩ := cell_int (o := 2) Tryz.underlying22 c1U64 (by omega) h2
 refine ⟨⟨z0, z1, z2⟩, fun i hi => ?_, u64B_of w0, u64B_of w1, u64B_of w2⟩
 match i, hi with
 | 0, _ => exact e0
 | 1, _ => exact e1
 | 2, _ => exact e2
theorem ir_cells (hl : L.length = 3) (h : DataW.trod enc Tryz.prog W 0 sp held fuel 65 L = some x) : ∃ y : Ir, (∀ i, i < 3 → L[i]? = some (irqE y i)) ∧ IrB y := by
 obtain ⟨y0, y1, y2, n, -, -, h0, h1, h2⟩ := trod_struct3 Tryz.underlying65 h
 obtain ⟨z0, e0, w0⟩ := cell_int (o := 0) Tryz.underlying3 c1I (by omega) h0
 obtain ⟨z1, e1, w1⟩ := cell_int (o := 1) Tryz.underlying3 c1I (by omega) h1
 obtain ⟨z2, e2⟩ := cell_bool (o := 2) Tryz.underlying4 c1B (by omega) h2
 refine ⟨⟨z0, z1, z2⟩, fun i hi => ?_, i64B_of w0, i64B_of w1⟩
 match i, hi with
 | 0, _ => exact e0
 | 1, _ => exact e1
 | 2, _ => exact e2
set_option maxRecDepth 100000 in
theorem en_cells (hl : L.length = 3) (h : DataW.trod enc Tryz.prog W 0 sp held fuel 44 L = some x) : ∃ y : En, (∀ i, i < 3 → L[i]? = some (endE y i)) ∧ EnB y := by
 obtain ⟨y0, y1, y2, n, -, -, h0, h1, h2⟩ := trod_struct3 Tryz.underlying44 h
 obtain ⟨z0, e0, w0⟩ := cell_int (o := 0) Tryz.underlying3 c1I (by omega) h0
 obtain ⟨z1, e1, w1⟩ := cell_int (o := 1) Tryz.underlying3 c1I (by omega) h1
 obtain ⟨z2, e2, w2⟩ := cell_int (o := 2) Tryz.underlying22 c1U64 (by omega) h2
 refine ⟨⟨z0, z1, z2⟩, fun i hi => ?_, i64B_of w0, i64B_of w1, u64B_of w2⟩
 match i, hi with
 | 0, _ => exact e0
 | 1, _ => exact e1
 | 2, _ => exact e2
theorem num_cells (_hl : L.length = 1) (h : DataW.trod enc Tryz.prog W 0 sp held fuel 27 L = some x) : ∃ y : Int, (∀ i, i < 1 → L[i]? = some (numE y i)) ∧ u32B y := by
 obtain ⟨z, e, _, hw⟩ := DataW.trod_int Tryz.underlying27 h
 refine ⟨z, fun i hi => ?_, u32B_of hw⟩
 obtain rfl : i = 0 := by omega
 rw [e]; rfl
set_option maxRecDepth 100000 in
theorem ch_cells (hl : L.length = 8) (h : DataW.trod enc Tryz.prog W 0 sp held fuel 47 L = some x) : ∃ y : Ch, (∀ i, i < 8 → L[i]? = some (chE y i)) ∧ ChB y := by
 obtain ⟨y0, y1, y2, n, -, -, h0, h1, h2⟩ := trod_struct3 Tryz.underlying47 h
 obtain ⟨z0, e0, w0⟩ := cell_int (o := 0) Tryz.underlying22 c1U64 (by omega) h0
 obtain ⟨z1, e1, w1⟩ := cell_int (o := 1) Tryz.underlying22 c1U64 (by omega) h1
 have hE : Tryz.prog.cellsOf 44 = 3 := by kernel_rfl
 have h2' : DataW.trod enc Tryz.prog W 0 sp held n 45 ((L.drop 2).take (Tryz.prog.cellsOf 45)) = some y2 := h2
 rw [show Tryz.prog.cellsOf 45 = 6 by kernel_rfl] at h2'
 obtain ⟨ds, p, hx⟩ := trod_arr_form Tryz.underlying45 h2'
 rw [hx] at h2'
 obtain ⟨f1, d1, q1, _, g1⟩ := Lib.array_elem Tryz.underlying45 h2' 0 (by decide)
 obtain ⟨f2, d2, q2, _, g2⟩ := Lib.array_elem Tryz.underlying45 h2' 1 (by decide)
 rw [hE] at g1 g2
 obtain ⟨u, hu, bu⟩ := en_cells (by simp [hl]) g1
 obtain ⟨v, hv, bv⟩ := en_cells (by simp [hl]) g2
 have hu' : ∀ i, i < 3 → L[2 + i]? = some (endE u i) := fun i hi => by
  have := hu i hi
  simp only [List.getElem?_take, List.getElem?_drop] at this
  rw [if_pos hi, if_pos (by omega)] at this
  rw [← this]; congr 1; omega
 have hv' : ∀ i, i < 3 → L[5 + i]? = some (endE v i) := fun i hi => by
  have := hv i hi
  simp only [List.getElem?_take, List.getElem?_drop] at this
  rw [if_pos hi, if_pos (by omega)] at this
  rw [← this]; congr 1; omega
 refine ⟨⟨z0, z1, u, v⟩, fun i hi => ?_, u64B_of w0, u64B_of w1, bu, bv⟩
 match i, hi with
 | 0, _ => exact e0
 | 1, _ => exact e1
 | 2, _ => exact hu' 0 (by decide)
 | 3, _ => exact hu' 1 (by decide)
 | 4, _ => exact hu' 2 (by decide)
 | 5, _ => exact hv' 0 (by decide)
 | 6, _ => exact hv' 1 (by decide)
 | 7, _ => exact hv' 2 (by decide)
set_option maxRecDepth 100000 in
theorem key_cells (hl : L.length = 68) (h : DataW.trod enc Tryz.prog W 0 sp held fuel 52 L = some x) : ∃ k : By, k.length = 68 ∧ ∀ i, i < 68 → L[i]? = some (bys (kF k) i) := by
 obtain ⟨ds, p, hx⟩ := trod_arr_form Tryz.underlying52 h
 rw [hx] at h
 have hel : ∀ j, j < 68 → ∃ b : UInt8, L[j]? = some (.int .u8 (b.toNat : Int)) := by
  intro j hj
  obtain ⟨f1, d1, q1, _, g1⟩ := Lib.array_elem Tryz.underlying52 h j hj
  rw [c1U8, Nat.mul_one] at g1
  rw [take1_at (by omega)] at g1
  obtain ⟨z, e2, _, hw⟩ := DataW.trod_int Tryz.underlying5 g1
  simp at e2
  have hb := bounds_u8 hw
  refine ⟨UInt8.ofNat z.toNat, ?_⟩
  rw [List.getElem?_eq_getElem (by omega), e2]
  congr 2
  rw [UInt8.toNat_ofNat']; omega
 obtain ⟨k, hk, hc⟩ := list_of 68 hel
 refine ⟨k, hk, fun i hi => ?_⟩
 rw [hc i (by omega)]
 simp [bys, kF, List.getElem?_eq_getElem (show i < k.length by omega)]
theorem c1Ws : Tryz.prog.cellsOf 58 = 1 := by kernel_rfl
theorem c1Ds : Tryz.prog.cellsOf 59 = 1 := by kernel_rfl
theorem c1Is : Tryz.prog.cellsOf 60 = 1 := by kernel_rfl
theorem c1Ns : Tryz.prog.cellsOf 61 = 1 := by kernel_rfl
theorem c1Gs : Tryz.prog.cellsOf 28 = 1 := by kernel_rfl
theorem c1Cs : Tryz.prog.cellsOf 29 = 1 := by kernel_rfl
set_option maxHeartbeats 2000000 in
set_option maxRecDepth 100000 in
theorem guest_cells (hl : L.length = 79) (h : DataW.trod enc Tryz.prog W 0 sp held fuel 63 L = some x) : ∃ y : GV, (∀ i, i < 79 → L[i]? = some (guestE y i)) ∧ (GRow W W.heap.size y ∧ GsB y.g) ∧ CapW y := by
 obtain ⟨xs, n, -, -, -, hlen, hg⟩ := DataW.trod_struct Tryz.underlying63 h
 match xs, hlen with
 | [y0, y1, y2, y3, y4, y5, y6, y7, y8, y9, y10, y11], _ =>
  have h0 : DataW.trod enc Tryz.prog W 0 sp held n 9 ((L.drop 0).take (Tryz.prog.cellsOf 9)) = some y0 := hg 0 _ rfl
  have h1 : DataW.trod enc Tryz.prog W 0 sp held n 4 ((L.drop 1).take (Tryz.prog.cellsOf 4)) = some y1 := hg 1 _ rfl
  have h2 : DataW.trod enc Tryz.prog W 0 sp held n 27 ((L.drop 2).take (Tryz.prog.cellsOf 27)) = some y2 := hg 2 _ rfl
  have h3 : DataW.trod enc Tryz.prog W 0 sp held n 27 ((L.drop 3).take (Tryz.prog.cellsOf 27)) = some y3 := hg 3 _ rfl
  have h4 : DataW.trod enc Tryz.prog W 0 sp held n 27 ((L.drop 4).take (Tryz.prog.cellsOf 27)) = some y4 := hg 4 _ rfl
  have h5 : DataW.trod enc Tryz.prog W 0 sp held n 22 ((L.drop 5).take (Tryz.prog.cellsOf 22)) = some y5 := hg 5 _ rfl
  have h6 : DataW.trod enc Tryz.prog W 0 sp held n 22 ((L.drop 6).take (Tryz.prog.cellsOf 22)) = some y6 := hg 6 _ rfl
  have h7 : DataW.trod enc Tryz.prog W 0 sp held n 52 ((L.drop 7).take (Tryz.prog.cellsOf 52)) = some y7 := hg 7 _ rfl
  have h8 : DataW.trod enc Tryz.prog W 0 sp held n 58 ((L.drop 75).take (Tryz.prog.cellsOf 58)) = some y8 := hg 8 _ rfl
  have h9 : DataW.trod enc Tryz.prog W 0 sp held n 59 ((L.drop 76).take (Tryz.prog.cellsOf 59)) = some y9 := hg 9 _ rfl
  have h10 : DataW.trod enc Tryz.prog W 0 sp held n 60 ((L.drop 77).take (Tryz.prog.cellsOf 60)) = some y10 := hg 10 _ rfl
  have h11 : DataW.trod enc Tryz.prog W 0 sp held n 61 ((L.drop 78).take (Tryz.prog.cellsOf 61)) = some y11 := hg 11 _ rfl
  obtain ⟨z0, e0⟩ := cell_str Tryz.underlying9 c1S (by omega) h0
  obtain ⟨z1, e1⟩ := cell_bool Tryz.underlying4 c1B (by omega) h1
  obtain ⟨z2, e2, w2⟩ := cell_int Tryz.underlying27 c1U32 (by omega) h2
  obtain ⟨z3, e3, w3⟩ := cell_int Tryz.underlying27 c1U32 (by omega) h3
  obtain ⟨z4, e4, w4⟩ := cell_int Tryz.underlying27 c1U32 (by omega) h4
  obtain ⟨z5, e5, w5⟩ := cell_int Tryz.underlying22 c1U64 (by omega) h5
  obtain ⟨z6, e6, w6⟩ := cell_int Tryz.underlying22 c1U64 (by omega) h6
  rw [show Tryz.prog.cellsOf 52 = 68 by kernel_rfl] at h7
  obtain ⟨z7, k7, e7⟩ := key_cells (by simp [hl]) h7
  have e7' : ∀ i, i < 68 → L[7 + i]? = some (bys (kF z7) i) := fun i hi => by
   have := e7 i hi
   simp only [List.getElem?_take, List.getElem?_drop] at this
   rw [if_pos hi] at this
   exact this
  rw [c1Ws, take1_at (by omega)] at h8
  obtain ⟨A0, c0, l0, e8, b0, r0, q0, k0⟩ := row_cells Tryz.underlying58 (by kernel_rfl) (by decide) (fun hl h => wi_cells hl h) h8
  have e8' : L[75]? = some (.slice A0 l0.length c0) := by rw [List.getElem?_eq_getElem (by omega), e8]
  rw [c1Ds, take1_at (by omega)] at h9
  obtain ⟨A1, c1, l1, e9, b1, r1, q1, -⟩ := row_cells Tryz.underlying59 (by kernel_rfl) (by decide) (fun hl h => de_cells hl h) h9
  have e9' : L[76]? = some (.slice A1 l1.length c1) := by rw [List.getElem?_eq_getElem (by omega), e9]
  rw [c1Is, take1_at (by omega)] at h10
  obtain ⟨A2, c2, l2, e10, b2, r2, q2, -⟩ := row_cells Tryz.underlying60 (by kernel_rfl) (by decide) (fun hl h => ir_cells hl h) h10
  have e10' : L[77]? = some (.slice A2 l2.length c2) := by rw [List.getElem?_eq_getElem (by omega), e10]
  rw [c1Ns, take1_at (by omega)] at h11
  obtain ⟨A3, c3, l3, e11, b3, r3, q3, -⟩ := row_cells Tryz.underlying61 (by kernel_rfl) (by decide) (fun hl h => num_cells hl h) h11
  have e11' : L[78]? = some (.slice A3 l3.length c3) := by rw [List.getElem?_eq_getElem (by omega), e11]
  refine ⟨⟨⟨z0, z1, z2, z3, z4, z5, z6, z7, l0, l1, l2, l3⟩, .slice A0 l0.length c0, .slice A1 l1.length c1, .slice A2 l2.length c2, .slice A3 l3.length c3⟩, fun i hi => ?_, ⟨⟨⟨_, _, rfl, r0, b0⟩, ⟨_, _, rfl, r1, b1⟩, ⟨_, _, rfl, r2, b2⟩, ⟨_, _, rfl, r3, b3⟩⟩, ⟨u32B_of w2, u32B_of w3, u32B_of w4, u64B_of w5, u64B_of w6, k7, q0, q1, q2, q3⟩⟩, ⟨_, _, rfl, k0⟩⟩
  match i, hi with
  | 0, _ => exact e0
  | 1, _ => exact e1
  | 2, _ => exact e2
  | 3, _ => exact e3
  | 4, _ => exact e4
  | 5, _ => exact e5
  | 6, _ => exact e6
  | i + 7, hi =>
   show _ = some (if i < 68 then bys (kF z7) i else if i = 68 then _ else if i = 69 then _ else if i = 70 then _ else _)
   by_cases h1 : i < 68
   · rw [if_pos h1, Nat.add_comm]; exact e7' i h1
   rw [if_neg h1]
   by_cases h2 : i = 68
   · subst h2; exact e8'
   rw [if_neg h2]
   by_cases h3 : i = 69
   · subst h3; exact e9'
   rw [if_neg h3]
   by_cases h4 : i = 70
   · subst h4; exact e10'
   obtain rfl : i = 71 := by omega
   exact e11'
set_option maxRecDepth 100000 in
theorem open_config {v : Value} {d : DataW H} {ps : List MemPlace} (hv : Value.okWide Tryz.prog W r base 31 v) (h : DataW.Trod enc Tryz.prog W 0 (fun _ => true) true 31 v d ps) :
   ∃ (x : Cf) (a c : Value), v = .agg (vec 3 (cfE x.ver a c)) ∧ CfRW W W.heap.size x a c ∧ CfB x := by
 have hs := Tryz.underlying31
 obtain ⟨cs, rfl, hsz⟩ := okWide_struct hs hv
 have hC : Tryz.prog.cellsOf 31 = 3 := by kernel_rfl
 rw [hC] at hsz
 obtain ⟨fuel, hf⟩ := h
 have hcs : (Value.agg cs).cells.toList = cs.toList := rfl
 rw [hcs] at hf
 obtain ⟨y0, y1, y2, n, -, -, h0, h1, h2⟩ := trod_struct3 hs hf
 have hL : cs.toList.length = 3 := by simpa using hsz
 obtain ⟨z0, e0, w0⟩ := cell_int (o := 0) Tryz.underlying27 c1U32 (by omega) h0
 have h1' : DataW.trod enc Tryz.prog W 0 (fun _ => true) true n 28 ((cs.toList.drop 1).take (Tryz.prog.cellsOf 28)) = some y1 := h1
 have h2' : DataW.trod enc Tryz.prog W 0 (fun _ => true) true n 29 ((cs.toList.drop 2).take (Tryz.prog.cellsOf 29)) = some y2 := h2
 rw [c1Gs, take1_at (by omega)] at h1'
 rw [c1Cs, take1_at (by omega)] at h2'
 obtain ⟨A, c, ys, e1, b1, r1, q1, -⟩ := row_cells Tryz.underlying28 (by kernel_rfl) (by decide) (fun hl h => guest_cells hl h) h1'
 obtain ⟨A2, c2, l2, e2, b2, r2, q2, -⟩ := row_cells Tryz.underlying29 (by kernel_rfl) (by decide) (fun hl h => ch_cells hl h) h2'
 refine ⟨⟨z0, ys.map GV.g, l2⟩, .slice A ys.length c, .slice A2 l2.length c2, ?_, ⟨⟨⟨A, c, ys, by simp, rfl, ⟨r1, fun y hy => (q1 y hy).1.1⟩, by simpa using b1⟩, ⟨A2, c2, rfl, r2, b2⟩⟩, ⟨A, c, ys, by simp, rfl, ⟨r1, fun y hy => (q1 y hy).1.1⟩, fun y hy => (q1 y hy).2⟩⟩, ⟨u32B_of w0, fun g hg => ?_, q2⟩⟩
 · congr 1
   obtain ⟨L⟩ := cs
   match L, hsz with
   | [c0, c1, c2'], _ =>
    simp at e0 e1 e2
    subst e0 e1 e2
    rfl
 · obtain ⟨y, hy, rfl⟩ := List.mem_map.1 hg
   exact (q1 y hy).1.2
end
section
variable {H : Type} {enc : TypeId × Value → H} {W : World} {r : Reach} {base : Nat} {sp : Nat → Bool} {held : Bool} {fuel : Nat}
end
end Go.Proofs.YtkaipknkjocfiaaGreat
namespace Go.Proofs.YtkaipknkjocfiaaGreat
abbrev Sp := Nat × Nat
def TT : Nat := 18446744073709551616
def fit (x : Sp) : Prop := x.1 < 18446744073709551616 ∧ x.2 < 18446744073709551616
def good (x : Sp) : Bool := decide (0 < x.2) && decide (x.1 + x.2 ≤ 18446744073709551616)
def last (x : Sp) : Nat := if good x then x.1 + x.2 - 1 else 0
def has (x : Sp) (p : Nat) : Bool := good x && (decide (x.1 ≤ p) && decide (p < x.1 + x.2))
def overlap (x y : Sp) : Bool := good x && (good y && (decide (x.1 < y.1 + y.2) && decide (y.1 < x.1 + x.2)))
def within (x y : Sp) : Bool := good x && (good y && (decide (y.1 ≤ x.1) && decide (x.1 + x.2 ≤ y.1 + y.2)))
def paged (x : Sp) : Bool := good x && (decide (x.1 % 4096 = 0) && decide (x.2 % 4096 = 0))
theorem good_iff (x : Sp) : good x = true ↔ 0 < x.2 ∧ x.1 + x.2 ≤ 18446744073709551616 := by simp [good]
theorem has_iff (x : Sp) (p : Nat) : has x p = true ↔ good x = true ∧ x.1 ≤ p ∧ p < x.1 + x.2 := by simp [has]
theorem overlap_iff (x y : Sp) : overlap x y = true ↔ good x = true ∧ good y = true ∧ x.1 < y.1 + y.2 ∧ y.1 < x.1 + x.2 := by simp [overlap]
theorem last_good {x : Sp} (h : good x = true) : last x + 1 = x.1 + x.2 := by
 unfold last; rw [if_pos h]; have := (good_iff x).1 h; omega
theorem last_bad {x : Sp} (h : good x = false) : last x = 0 := by unfold last; rw [h]; rfl
def Rise : Nat → List Sp → Prop
 | _, [] => True
 | lo, x :: r => lo ≤ x.1 ∧ 0 < x.2 ∧ x.1 + x.2 ≤ TT ∧ Rise (x.1 + x.2 + 1) r
def Mem (l : List Sp) (p : Nat) : Prop := ∃ x ∈ l, x.1 ≤ p ∧ p < x.1 + x.2
theorem Rise.mono {a b : Nat} (h : a ≤ b) : ∀ {l : List Sp}, Rise b l → Rise a l
 | [], _ => trivial
 | _ :: _, ⟨h1, h2, h3, h4⟩ => ⟨Nat.le_trans h h1, h2, h3, h4⟩
theorem Rise.lo {a p : Nat} : ∀ {l : List Sp}, Rise a l → Mem l p → a ≤ p
 | [], _, ⟨_, hx, _⟩ => by cases hx
 | y :: r, ⟨h1, h2, h3, h4⟩, ⟨x, hx, hp1, hp2⟩ => by
  rcases List.mem_cons.1 hx with rfl | hx
  · omega
  · have := Rise.lo h4 ⟨x, hx, hp1, hp2⟩; omega
theorem mem_cons {x : Sp} {r : List Sp} {p : Nat} : Mem (x :: r) p ↔ (x.1 ≤ p ∧ p < x.1 + x.2) ∨ Mem r p := by
 constructor
 · rintro ⟨y, hy, h⟩
   rcases List.mem_cons.1 hy with rfl | hy
   · exact .inl h
   · exact .inr ⟨y, hy, h⟩
 · rintro (h | ⟨y, hy, h⟩)
   · exact ⟨x, by simp, h⟩
   · exact ⟨y, by simp [hy], h⟩
def half : Nat := 9223372036854775808
def split (l : List Sp) : List Sp := l.flatMap fun x => if x = (0, TT) then [(0, half), (half, half)] else [x]
def ERise : Nat → List Sp → Prop
 | _, [] => True
 | lo, x :: r => lo ≤ x.1 ∧ x.1 ≤ x.2 ∧ x.2 < TT ∧ ERise (x.2 + 2) r
theorem ERise.mono {a b : Nat} (h : a ≤ b) : ∀ {l : List Sp}, ERise b l → ERise a l
 | [], _ => trivial
 | _ :: _, ⟨h1, h2, h3, h4⟩ => ⟨Nat.le_trans h h1, h2, h3, h4⟩
end Go.Proofs.YtkaipknkjocfiaaGreat
