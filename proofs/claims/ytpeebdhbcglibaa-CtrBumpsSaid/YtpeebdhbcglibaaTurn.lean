/- What an object of several blocks may change: the blocks of its own, and no others. -/
import Derived.Test.YtpeebdhbcglibaaVec
import Derived.Maps.RangeWalk
namespace Go.Proofs.Ytpeebdhbcglibaa
open Go.RowKit

/-- All but the blocks of G is as it was. -/
structure Turn (G : Nat → Prop) (w w' : World) : Prop where
  os : w'.os = w.os
  tape : w'.tape = w.tape
  output : w'.output = w.output
  size : w.heap.size ≤ w'.heap.size
  block : ∀ k, k < w.heap.size → ¬ G k → w'.heap[k]? = w.heap[k]?
section
variable {G G' : Nat → Prop} {a b c w w' : World}
theorem Turn.refl (G : Nat → Prop) (w : World) : Turn G w w := ⟨rfl, rfl, rfl, Nat.le_refl _, fun _ _ _ => rfl⟩
theorem Turn.trans (h : Turn G a b) (k : Turn G' b c) (hG : ∀ i, G' i → G i ∨ a.heap.size ≤ i) : Turn G a c :=
  ⟨k.os.trans h.os, k.tape.trans h.tape, k.output.trans h.output, Nat.le_trans h.size k.size, fun i hi hg =>
    (k.block i (Nat.lt_of_lt_of_le hi h.size) fun e => by rcases hG i e with h1 | h1; exact hg h1; omega).trans (h.block i hi hg)⟩
theorem Turn.andThen (h : Turn G a b) (k : Turn G b c) : Turn G a c := h.trans k fun _ h => Or.inl h
theorem Turn.mono (h : Turn G a b) (hG : ∀ i, G i → G' i) : Turn G' a b := ⟨h.1, h.2, h.3, h.4, fun i hi hg => h.5 i hi fun e => hg (hG i e)⟩
theorem Turn.of_below (h : Below w.heap.size w w') : Turn G w w' := ⟨h.1, h.2, h.3, h.4, fun k hk _ => h.5 k hk⟩
theorem Turn.below {B : Nat} (h : Turn G w w') (hG : ∀ i, G i → B ≤ i) (hB : B ≤ w.heap.size) : Below B w w' :=
  ⟨h.1, h.2, h.3, h.4, fun k hk => h.5 k (by omega) fun e => by have := hG k e; omega⟩
theorem Turn.alloc (h : Turn G a b) (o : Obj) : Turn G a (b.alloc o) := h.andThen (Turn.of_below ((Below.refl _ _).alloc (Nat.le_refl _) o))
theorem Turn.drewN (h : Turn G a b) (n : Nat) : Turn G a (b.drewN n) := ⟨h.1, h.2, h.3, h.4, h.5⟩
theorem Turn.drew (h : Turn G a b) : Turn G a b.drew := ⟨h.1, h.2, h.3, h.4, h.5⟩
theorem Turn.setRow {g : Nat} (h : Turn G a b) (hg : G g ∨ a.heap.size ≤ g) (cs : Array Value) : Turn G a (b.setRow g cs) := by
  refine ⟨h.1, h.2, h.3, by have := h.4; simpa [World.setRow] using this, fun k hk hn => ?_⟩
  rw [← h.5 k hk hn]
  have : g ≠ k := fun e => by subst e; rcases hg with h1 | h1; exact hn h1; omega
  simp [World.setRow, Array.getElem?_modify, this]
theorem Turn.setCell {p : Addr} (h : Turn G a b) (hg : G p.block ∨ a.heap.size ≤ p.block) (u : Value) : Turn G a (b.setCell p u) := by
  refine ⟨h.1, h.2, h.3, by have := h.4; simpa [World.setCell] using this, fun k hk hn => ?_⟩
  rw [← h.5 k hk hn]
  exact Below.heap_setCell b p u k fun e => by subst e; rcases hg with h1 | h1; exact hn h1; omega
theorem Turn.of_grown {row : Option Nat} (h : w.grownBy w' row) (hr : ∀ g, row = some g → G g) : Turn G w w' :=
  ⟨h.1, h.2, h.3, h.4, fun k hk hg => h.5 k hk fun e => hg (hr k e.symm)⟩
theorem Turn.cell {p : Addr} (h : Turn G w w') (hp : p.block < w.heap.size) (hg : ¬ G p.block) : w'.cell? p = w.cell? p := World.cell?_of_block (h.5 p.block hp hg)
theorem Turn.froz {p : Addr} (h : Turn G w w') (hp : p.block < w.heap.size) (hg : ¬ G p.block) : w'.frozen? p = w.frozen? p := World.frozen?_of_block (h.5 p.block hp hg)
theorem Arr.turn {g n : Nat} {t : TypeId} {f : Nat → Value} (h : Arr w g t n f) (k : Turn G w w') (hg : ¬ G g) : Arr w' g t n f := (k.block g h.lt hg).trans h
theorem Blk.turn {g : Nat} {t : TypeId} {cs : Array Value} (h : Blk w g t cs) (k : Turn G w w') (hg : ¬ G g) : Blk w' g t cs := (k.block g h.lt hg).trans h
theorem Lies.turn {B size n : Nat} {A : Option Addr} {xs : List Value} (h : Lies w B size A n xs) (k : Turn G w w') (hB : B ≤ w.heap.size) (hg : ∀ p, A = some p → n ≠ 0 → ¬ G p.block) : Lies w' B size A n xs :=
  ⟨h.1, fun hn => by
    obtain ⟨p, e, hb, hc⟩ := h.2 hn
    refine ⟨p, e, hb, fun j hj => (k.cell ?_ ?_).trans (hc j hj)⟩
    · rw [addr_add_block]; omega
    · rw [addr_add_block]; exact hg p e hn⟩
theorem KB_of_turn_heap (h : Turn G w w') {B : Nat} (hB : B < w.heap.size) (hg : ¬ G B) : w'.heap[B]? = w.heap[B]? := h.block B hB hg
end
/-- Bytes of a slice, cut. -/
theorem Lies.cut {w : World} {B n : Nat} {A : Option Addr} {l : List UInt8} (h : Lies w B 1 A n (u8s l)) (hn : n = l.length) (i m : Nat) (hm : i + m ≤ n) : Lies w B 1 (A.map fun a => a.add i) m (u8s ((l.drop i).take m)) := by
  subst hn
  refine ⟨by simp [u8s]; omega, fun h0 => ?_⟩
  obtain ⟨a, rfl, hb, hc⟩ := h.2 (by omega)
  refine ⟨a.add i, rfl, by rw [addr_add_block]; exact hb, fun j hj => ?_⟩
  have hj2 : j < m := by simp [u8s] at hj; omega
  rw [addr_add_add, hc (i + j) (by simp [u8s]; omega)]
  simp [u8s]
end Go.Proofs.Ytpeebdhbcglibaa
