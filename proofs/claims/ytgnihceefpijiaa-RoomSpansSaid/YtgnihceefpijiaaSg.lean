/- Guests alike: sameGuest. -/
import Derived.Test.YtgnihceefpijiaaMe
import Derived.Test.YtgnihceefpijiaaGu
import Derived.Deep.CutRange
namespace Go.Proofs.Ytgnihceefpijiaa
open Go.RowKit

def nmEq (a b : By) : Bool := (strOf a).toList == (strOf b).toList
def gR1 (x y : Gs) : Bool := nmEq x.name y.name && (x.must == y.must && kyEq (kF x.key) (kF y.key))
def gR2 (x y : Gs) : Bool := x.off == y.off && (x.len == y.len && (x.cpus == y.cpus && (x.entry == y.entry && x.dtb == y.dtb)))
def gR3 (x y : Gs) : Bool := eqL wiEq x.wins y.wins && eqL deEq x.devs y.devs
def gsEq (x y : Gs) : Bool := gR1 x y && (gR2 x y && (gR3 x y && (eqL irEq x.irqs y.irqs && eqL nuEq x.strs y.strs)))
theorem gsEq_self (x : Gs) : gsEq x x = true := by
  simp [gsEq, gR1, gR2, gR3, nmEq, kyEq_self, eqL_self wiEq_self, eqL_self deEq_self, eqL_self irEq_self, eqL_self nuEq_self]
/-- A guest's lists can be read. -/
structure GRow (w : World) (B : Nat) (x : GV) : Prop where
  wi : ∃ A c, x.wv = .slice A x.g.wins.length c ∧ RowE 4 winE w B A x.g.wins ∧ x.g.wins.length ≤ 9223372036854775807
  de : ∃ A c, x.dv = .slice A x.g.devs.length c ∧ RowE 3 devE w B A x.g.devs ∧ x.g.devs.length ≤ 9223372036854775807
  ir : ∃ A c, x.iv = .slice A x.g.irqs.length c ∧ RowE 3 irqE w B A x.g.irqs ∧ x.g.irqs.length ≤ 9223372036854775807
  st : ∃ A c, x.sv = .slice A x.g.strs.length c ∧ RowE 1 numE w B A x.g.strs ∧ x.g.strs.length ≤ 9223372036854775807
theorem GRow.below {w w' : World} {B : Nat} {x : GV} (h : GRow w B x) (hb : Below B w w') : GRow w' B x := by
  obtain ⟨⟨A, c, e, r, l⟩, ⟨A2, c2, e2, r2, l2⟩, ⟨A3, c3, e3, r3, l3⟩, ⟨A4, c4, e4, r4, l4⟩⟩ := h
  exact ⟨⟨A, c, e, r.below hb, l⟩, ⟨A2, c2, e2, r2.below hb, l2⟩, ⟨A3, c3, e3, r3.below hb, l3⟩, ⟨A4, c4, e4, r4.below hb, l4⟩⟩
theorem GRow.wide {w : World} {B B' : Nat} {x : GV} (h : GRow w B x) (hb : B ≤ B') : GRow w B' x := by
  obtain ⟨⟨A, c, e, r, l⟩, ⟨A2, c2, e2, r2, l2⟩, ⟨A3, c3, e3, r3, l3⟩, ⟨A4, c4, e4, r4, l4⟩⟩ := h
  exact ⟨⟨A, c, e, r.wide hb, l⟩, ⟨A2, c2, e2, r2.wide hb, l2⟩, ⟨A3, c3, e3, r3.wide hb, l3⟩, ⟨A4, c4, e4, r4.wide hb, l4⟩⟩
theorem GRow.drewN {w : World} {B : Nat} {x : GV} (h : GRow w B x) (k : Nat) : GRow (w.drewN k) B x := h.below (below_drewN (Below.refl B w) k)
theorem wl_execG {P : Program} {ops : Array Oper} {Q : Exit → Act → World → Prop} {a : Act} {w : World} {rest : List Oper} {o : Oper} {v : Value} (hw : Region.wanted o (yielded ops a.tmps) = true)
    (he : (execOp a.eval o).run P w = .ok (.value v) w) (h : wpList P ops Q rest (a.put o.dst v) w) : wpList P ops Q (o :: rest) a w :=
  wpList_step fun K hK => by
    simp only [hw, if_true]
    unfold Oper.wp
    rw [he]
    exact hK _ _ h
/-- A Bool is told; the heap stays. -/
def EqV (r : Bool) (w : World) (e : Ending) (w' : World) : Prop := e = .returned (.bool r) ∧ Below w.heap.size w w'
theorem guest_key {w : World} {g : Nat} {t : TypeId} {x : GV} (h : Arr w g t 79 (guestE x)) : ∀ i, i < 68 → w.cell? ⟨g, 7 + i, none⟩ = some (bys (kF x.g.key) i) := fun i hi => by
  rw [h.cell (by omega), Nat.add_comm 7 i]
  show some (if i < 68 then bys (kF x.g.key) i else _) = _
  rw [if_pos hi]
theorem and3 (a b c : Bool) : (a = false ∧ (a && (b && c)) = false) ∨ (a = true ∧ b = false ∧ (a && (b && c)) = false) ∨ (a = true ∧ b = true ∧ c = false ∧ (a && (b && c)) = false) ∨ (a = true ∧ b = true ∧ c = true ∧ (a && (b && c)) = true) := by
  cases a <;> cases b <;> cases c <;> simp
theorem and5 (a b c d e : Bool) : (a = false ∧ (a && (b && (c && (d && e)))) = false) ∨ (a = true ∧ b = false ∧ (a && (b && (c && (d && e)))) = false) ∨ (a = true ∧ b = true ∧ c = false ∧ (a && (b && (c && (d && e)))) = false) ∨ (a = true ∧ b = true ∧ c = true ∧ d = false ∧ (a && (b && (c && (d && e)))) = false) ∨
    (a = true ∧ b = true ∧ c = true ∧ d = true ∧ e = false ∧ (a && (b && (c && (d && e)))) = false) ∨ (a = true ∧ b = true ∧ c = true ∧ d = true ∧ e = true ∧ (a && (b && (c && (d && e)))) = true) := by
  cases a <;> cases b <;> cases c <;> cases d <;> cases e <;> simp
end Go.Proofs.Ytgnihceefpijiaa
