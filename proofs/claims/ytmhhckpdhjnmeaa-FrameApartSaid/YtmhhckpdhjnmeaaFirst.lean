/- The first pair that overlaps: what the reference answers. -/
import Derived.Test.YtmhhckpdhjnmeaaRise
import Derived.Lib.SlBy
namespace Go.Proofs.Ytmhhckpdhjnmeaa

def hitAt (l : List Sp) (i j : Nat) : Bool := overlap (l.getD i (0, 0)) (l.getD j (0, 0))
theorem hitAt_lt {l : List Sp} {i j : Nat} (hi : i < l.length) (hj : j < l.length) : hitAt l i j = overlap l[i] l[j] := by simp [hitAt, hi, hj]
/-- What First answers: the least j, then the least i. -/
def FirstIs (l : List Sp) (i j : Nat) (b : Bool) : Prop :=
  (b = true ∧ i < j ∧ j < l.length ∧ hitAt l i j = true ∧ (∀ i' j', i' < j' → j' < j → hitAt l i' j' = false) ∧ ∀ i', i' < i → hitAt l i' j = false) ∨
  (b = false ∧ i = 0 ∧ j = 0 ∧ ∀ i' j', i' < j' → j' < l.length → hitAt l i' j' = false)
theorem first_apart {l : List Sp} (h : l.Pairwise (fun x y => overlap x y = false)) {i j : Nat} {b : Bool} (hf : FirstIs l i j b) : b = false := by
  rcases hf with ⟨_, h1, h2, h3, _⟩ | ⟨h1, _⟩
  · rw [hitAt_lt (by omega) h2] at h3
    have := List.pairwise_iff_getElem.1 h i j (by omega) h2 h1
    rw [this] at h3
    cases h3
  · exact h1
end Go.Proofs.Ytmhhckpdhjnmeaa
