/- Rows of elements of n cells, told by a function of the element: laid, the call's own, grown at their end. Of any program. -/
import Derived.Maps.AppendAt
import Derived.Great.BuildSlice
import Derived.Test.YtmcpmcicolpoeaaDoorVec
namespace Go.Proofs.YtmcpmcicolpoeaaDoor
open Go.RowKit

section
variable {α : Type} {n : Nat} {enc : α → Nat → Value}
def elC (n : Nat) (f : Nat → Value) : List Value := (List.range n).map f
theorem elC_length (n : Nat) (f : Nat → Value) : (elC n f).length = n := by simp [elC]
theorem elC_at {n i : Nat} (f : Nat → Value) (h : i < n) : (elC n f)[i]? = some (f i) := by simp [elC, h]
theorem elC_vec (n : Nat) (f : Nat → Value) : (vec n f).toList = elC n f := by simp [vec, elC]
def cellsE (n : Nat) (enc : α → Nat → Value) (l : List α) : List Value := l.flatMap fun x => elC n (enc x)
theorem cellsE_append (a b : List α) : cellsE n enc (a ++ b) = cellsE n enc a ++ cellsE n enc b := by simp [cellsE]
theorem cellsE_cons (x : α) (l : List α) : cellsE n enc (x :: l) = elC n (enc x) ++ cellsE n enc l := by simp [cellsE]
theorem cellsE_snoc (a : List α) (x : α) : cellsE n enc (a ++ [x]) = cellsE n enc a ++ elC n (enc x) := by simp [cellsE]
theorem cellsE_length (l : List α) : (cellsE n enc l).length = l.length * n := by
  induction l with
  | nil => simp [cellsE]
  | cons x r ih => rw [cellsE_cons, List.length_append, elC_length, ih, List.length_cons, Nat.add_mul, Nat.one_mul, Nat.add_comm]
theorem cellsE_get : ∀ (l : List α) (j : Nat) (h : j < l.length) (i : Nat), i < n → (cellsE n enc l)[j * n + i]? = some (enc l[j] i)
  | [], j, h, _, _ => by cases h
  | x :: r, 0, _, i, hi => by
    rw [cellsE_cons, Nat.zero_mul, Nat.zero_add, List.getElem?_append_left (by rw [elC_length]; exact hi)]
    exact elC_at _ hi
  | x :: r, j + 1, h, i, hi => by
    have ih := cellsE_get r j (by simpa using h) i hi
    have e : (j + 1) * n + i - n = j * n + i := by rw [Nat.add_mul, Nat.one_mul]; omega
    rw [cellsE_cons, List.getElem?_append_right (by rw [elC_length, Nat.add_mul, Nat.one_mul]; omega), elC_length, e, ih]
    rfl
theorem cellsE_one (h1 : ∀ (x : α) i, i < n → (enc x i).oneCell' = true) (l : List α) : ∀ u ∈ cellsE n enc l, u.oneCell' = true := by
  intro u hu
  obtain ⟨x, _, hx⟩ := List.mem_flatMap.1 hu
  obtain ⟨i, hi, rfl⟩ := List.mem_map.1 hx
  exact h1 x i (List.mem_range.1 hi)
/-- The slice of l.length elements at A holds l; all of it lies below block B. -/
def RowE (n : Nat) (enc : α → Nat → Value) (w : World) (B : Nat) (A : Option Addr) (l : List α) : Prop :=
  l ≠ [] → ∃ a, A = some a ∧ a.block < B ∧ ∀ j (h : j < l.length) i, i < n → w.cell? (a.add (j * n + i)) = some (enc l[j] i)
variable {w w' : World} {B B' : Nat} {A : Option Addr} {l : List α}
theorem RowE.nil (w : World) (B : Nat) (A : Option Addr) : RowE n enc w B A [] := fun h => absurd rfl h
theorem RowE.same (h : RowE n enc w B A l) (hk : ∀ p : Addr, p.block < B → w'.cell? p = w.cell? p) : RowE n enc w' B A l := fun hn => by
  obtain ⟨a, e, hb, hc⟩ := h hn
  exact ⟨a, e, hb, fun j hj i hi => (hk _ (by rw [addr_add_block]; exact hb)).trans (hc j hj i hi)⟩
theorem RowE.wide (h : RowE n enc w B A l) (hB : B ≤ B') : RowE n enc w B' A l := fun hn => by
  obtain ⟨a, e, hb, hc⟩ := h hn
  exact ⟨a, e, Nat.lt_of_lt_of_le hb hB, hc⟩
theorem RowE.below (h : RowE n enc w B A l) (hb : Below B w w') : RowE n enc w' B A l := h.same fun _ hp => hb.cell hp
theorem RowE.up (h : RowE n enc w w.heap.size A l) (hb : Below w.heap.size w w') : RowE n enc w' w'.heap.size A l := (h.below hb).wide hb.size
/-- Element k: where it lies. -/
theorem RowE.at {k : Nat} (h : RowE n enc w B A l) (hk : k < l.length) : ∃ a p, A = some a ∧ a.add (k * n) = p ∧ p.block < B ∧ ∀ i, i < n → w.cell? (p.add i) = some (enc l[k] i) := by
  obtain ⟨a, e, hb, hc⟩ := h (fun hn => by subst hn; cases hk)
  refine ⟨a, _, e, rfl, by rw [addr_add_block]; exact hb, fun i hi => ?_⟩
  rw [addr_add_add]; exact hc k hk i hi
end
end Go.Proofs.YtmcpmcicolpoeaaDoor
