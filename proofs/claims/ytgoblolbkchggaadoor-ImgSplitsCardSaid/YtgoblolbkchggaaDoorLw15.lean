/- What the laws of headers and images hold against each other: answers without cases. -/
import Derived.Test.YtgoblolbkchggaaDoorAw15
namespace Go.Proofs.YtgoblolbkchggaaDoor
open Go.RowKit
attribute [local go_sem ↓ high] zeroHd

def oL (o : Option By) : By := o.getD []
def oE {α : Type} (o : Option α) : Int := match o with | some _ => 0 | none => 150
def oH (o : Option Hd) : Hd := o.getD zHd
def BytesE (l : By) (n : Nat) (z : Int) (w : World) (e : Ending) (w' : World) : Prop := ∃ A c, e = .returned (.tuple #[.slice A n c, .int .i64 z]) ∧ n ≤ c ∧ Lies w' w'.heap.size 1 A n (u8s l) ∧ Below w.heap.size w w'
theorem OptP.gen {o : Option By} {w w' : World} {e : Ending} (h : OptP o w e w') : BytesE (oL o) (oL o).length (oE o) w e w' := by
  cases o with
  | none => exact ⟨none, 0, h.1, Nat.le_refl _, Lies.nil _ _ _ _, h.2⟩
  | some l =>
    obtain ⟨v, rfl, hv, hb⟩ := h
    obtain ⟨A, c, rfl, hc, hl⟩ := (own_of hv).lies
    exact ⟨A, c, rfl, hc, hl, hb⟩
def HeadE (h : Hd) (z : Int) (w : World) (e : Ending) (w' : World) : Prop := e = .returned (.tuple #[.agg (vec 35 (hdF h)), .int .i64 z]) ∧ Below w.heap.size w w'
theorem OfP.gen {o : Option Hd} {w w' : World} {e : Ending} (h : OfP o w e w') : HeadE (oH o) (oE o) w e w' := by
  cases o with
  | none => exact ⟨h.1, h.2⟩
  | some l => exact ⟨h.1, h.2⟩
def sH (o : Except Nat (Hd × By × By × By)) : Hd := match o with | .ok x => x.1 | .error _ => zHd
def s1 (o : Except Nat (Hd × By × By × By)) : By := match o with | .ok x => x.2.1 | .error _ => []
def s2 (o : Except Nat (Hd × By × By × By)) : By := match o with | .ok x => x.2.2.1 | .error _ => []
def s3 (o : Except Nat (Hd × By × By × By)) : By := match o with | .ok x => x.2.2.2 | .error _ => []
def sE (o : Except Nat (Hd × By × By × By)) : Int := match o with | .ok _ => 0 | .error n => (n : Int)
def PartsE (h : Hd) (a b c : By) (na nb nc : Nat) (z : Int) (w : World) (e : Ending) (w' : World) : Prop := ∃ A1 c1 A2 c2 A3 c3, e = .returned (.tuple #[.agg (vec 35 (hdF h)), .slice A1 na c1, .slice A2 nb c2, .slice A3 nc c3, .int .i64 z]) ∧
  Lies w' w'.heap.size 1 A1 na (u8s a) ∧ Lies w' w'.heap.size 1 A2 nb (u8s b) ∧ Lies w' w'.heap.size 1 A3 nc (u8s c) ∧ Below w.heap.size w w'
theorem SpP.gen {o : Except Nat (Hd × By × By × By)} {w w' : World} {e : Ending} (h : SpP o w e w') : PartsE (sH o) (s1 o) (s2 o) (s3 o) (s1 o).length (s2 o).length (s3 o).length (sE o) w e w' := by
  cases o with
  | error n => exact ⟨none, 0, none, 0, none, 0, h.1, Lies.nil _ _ _ _, Lies.nil _ _ _ _, Lies.nil _ _ _ _, h.2⟩
  | ok x =>
    obtain ⟨⟨v1, v2, v3, rfl, ⟨A1, c1, rfl, -, l1⟩, ⟨A2, c2, rfl, -, l2⟩, ⟨A3, c3, rfl, -, l3⟩⟩, hb⟩ := h
    exact ⟨A1, c1, A2, c2, A3, c3, rfl, l1, l2, l3, hb⟩
theorem strS (l : By) : ∃ S : ByteArray, S = strOf l ∧ S.size = l.length := ⟨_, rfl, strOf_size l⟩
end Go.Proofs.YtgoblolbkchggaaDoor
