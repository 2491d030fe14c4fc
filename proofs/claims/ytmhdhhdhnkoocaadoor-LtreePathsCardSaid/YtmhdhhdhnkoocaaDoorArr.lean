/- Arrays that lie in a block of their own, told by a function. -/
import Derived.Test.YtmhdhhdhnkoocaaDoorWrd
import Derived.Test.YtmhdhhdhnkoocaaDoorVec
namespace Go.Proofs.YtmhdhhdhnkoocaaDoor
open Go.RowKit

/-- Words, bytes as cells. -/
def wds (h : Nat → W32) : Nat → Value := fun i => .int .u32 (num (h i))
theorem wds_one (h : Nat → W32) (n : Nat) : ∀ i, i < n → (wds h i).oneCell' = true := fun _ _ => rfl
theorem wds_upd (h : Nat → W32) (i : Nat) (x : W32) : upd (wds h) i (.int .u32 (num x)) = wds (upd h i x) := by
  funext j; by_cases e : j = i <;> simp [upd, wds, e]
theorem wds_inj {n : Nat} {f g : Nat → W32} (h : vec n (wds f) = vec n (wds g)) : ∀ i, i < n → f i = g i := by
  intro i hi
  have := vec_inj h i hi
  simp only [wds, Value.int.injEq, true_and] at this
  exact num_inj this
end Go.Proofs.YtmhdhhdhnkoocaaDoor
