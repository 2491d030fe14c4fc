/- slices.EqualFunc at guests; Same. -/
import Derived.Test.YtgnihceefpijiaaSg
import Derived.Test.YtgnihceefpijiaaCg
namespace Go.Proofs.Ytgnihceefpijiaa
open Go.RowKit
attribute [local go_sem ↓ high] zeroGu
theorem GRow.one {w : World} {B : Nat} {x : GV} (h : GRow w B x) : GV1 x := by
  obtain ⟨⟨A, c, e, _, _⟩, ⟨A2, c2, e2, _, _⟩, ⟨A3, c3, e3, _, _⟩, ⟨A4, c4, e4, _, _⟩⟩ := h
  exact ⟨by rw [e]; rfl, by rw [e2]; rfl, by rw [e3]; rfl, by rw [e4]; rfl⟩
/-- Guests in a row that can be read. -/
structure GsR (w : World) (B : Nat) (A : Option Addr) (ys : List GV) : Prop where
  row : RowE 79 guestE w B A ys
  all : ∀ y ∈ ys, GRow w B y
theorem GsR.below {w w' : World} {B : Nat} {A : Option Addr} {ys : List GV} (h : GsR w B A ys) (hb : Below B w w') : GsR w' B A ys := ⟨h.row.below hb, fun y hy => (h.all y hy).below hb⟩
theorem GsR.wide {w : World} {B B' : Nat} {A : Option Addr} {ys : List GV} (h : GsR w B A ys) (hb : B ≤ B') : GsR w B' A ys := ⟨h.row.wide hb, fun y hy => (h.all y hy).wide hb⟩
theorem GsR.up {w w' : World} {A : Option Addr} {ys : List GV} (h : GsR w w.heap.size A ys) (hb : Below w.heap.size w w') : GsR w' w'.heap.size A ys := (h.below hb).wide hb.size
def yEq (x y : GV) : Bool := gsEq x.g y.g
theorem eqTo_map (l m : List GV) (k : Nat) : eqTo yEq l m k = eqTo gsEq (l.map GV.g) (m.map GV.g) k := by
  unfold eqTo
  refine congrArg (fun f => (List.range k).all f) (funext fun j => ?_)
  simp only [List.getElem?_map]
  cases l[j]? <;> cases m[j]? <;> rfl
theorem eqL_map (l m : List GV) : eqL yEq l m = eqL gsEq (l.map GV.g) (m.map GV.g) := by
  unfold eqL
  rw [eqTo_map, List.length_map, List.length_map]
/-- A configuration that can be read. -/
structure CfR (w : World) (B : Nat) (x : Cf) (a c : Value) : Prop where
  gs : ∃ A d ys, a = .slice A x.gs.length d ∧ ys.map GV.g = x.gs ∧ GsR w B A ys ∧ x.gs.length ≤ 9223372036854775807
  chs : ∃ A d, c = .slice A x.chs.length d ∧ RowE 8 chE w B A x.chs ∧ x.chs.length ≤ 9223372036854775807
theorem CfR.below {w w' : World} {B : Nat} {x : Cf} {a c : Value} (h : CfR w B x a c) (hb : Below B w w') : CfR w' B x a c := by
  obtain ⟨⟨A, d, ys, e, hm, hr, hl⟩, ⟨A2, d2, e2, hr2, hl2⟩⟩ := h
  exact ⟨⟨A, d, ys, e, hm, hr.below hb, hl⟩, ⟨A2, d2, e2, hr2.below hb, hl2⟩⟩
theorem CfR.wide {w : World} {B B' : Nat} {x : Cf} {a c : Value} (h : CfR w B x a c) (hb : B ≤ B') : CfR w B' x a c := by
  obtain ⟨⟨A, d, ys, e, hm, hr, hl⟩, ⟨A2, d2, e2, hr2, hl2⟩⟩ := h
  exact ⟨⟨A, d, ys, e, hm, hr.wide hb, hl⟩, ⟨A2, d2, e2, hr2.wide hb, hl2⟩⟩
theorem CfR.up {w w' : World} {x : Cf} {a c : Value} (h : CfR w w.heap.size x a c) (hb : Below w.heap.size w w') : CfR w' w'.heap.size x a c := (h.below hb).wide hb.size
def cfEq (x y : Cf) : Bool := x.ver == y.ver && (eqL gsEq x.gs y.gs && eqL chEq x.chs y.chs)
theorem cfEq_self (x : Cf) : cfEq x x = true := by simp [cfEq, eqL_self gsEq_self, eqL_self chEq_self]
def cfVal (x : Cf) (a c : Value) : Value := .agg (vec 3 (cfE x.ver a c))
theorem cf_cells {w : World} {g : Nat} {t : TypeId} {x : Cf} {a c : Value} (h : Arr w g t 3 (cfE x.ver a c)) : w.cell? ⟨g, 0, none⟩ = some (.int .u32 x.ver) ∧ w.cell? ⟨g, 1, none⟩ = some a ∧ w.cell? ⟨g, 2, none⟩ = some c := ⟨h.cell (i := 0) (by decide), h.cell (i := 1) (by decide), h.cell (i := 2) (by decide)⟩
end Go.Proofs.Ytgnihceefpijiaa
