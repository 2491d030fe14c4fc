/- Rows of spans in memory. -/
import Derived.Test.YtmhhckpdhjnmeaaSpans
import Derived.Test.YtmhhckpdhjnmeaaMem
namespace Go.Proofs.Ytmhhckpdhjnmeaa
open Go.RowKit

/-- The slice of l.length spans at A holds l; all of it lies below block B. -/
def Row (w : World) (B : Nat) (A : Option Addr) (l : List Sp) : Prop :=
  l ≠ [] → ∃ a, A = some a ∧ a.block < B ∧ ∀ j (h : j < l.length), w.cell? (a.add (j * 2)) = some (.int .u64 (l[j].1 : Int)) ∧ w.cell? (a.add (j * 2 + 1)) = some (.int .u64 (l[j].2 : Int))
section
variable {w w' : World} {B B' : Nat} {A : Option Addr} {l : List Sp}
theorem Row.nil (w : World) (B : Nat) (A : Option Addr) : Row w B A [] := fun h => absurd rfl h
theorem Row.same (h : Row w B A l) (hk : ∀ p : Addr, p.block < B → w'.cell? p = w.cell? p) : Row w' B A l := fun hn => by
  obtain ⟨a, e, hb, hc⟩ := h hn
  exact ⟨a, e, hb, fun j hj => ⟨(hk _ (by rw [addr_add_block]; exact hb)).trans (hc j hj).1, (hk _ (by rw [addr_add_block]; exact hb)).trans (hc j hj).2⟩⟩
theorem Row.wide (h : Row w B A l) (hB : B ≤ B') : Row w B' A l := fun hn => by
  obtain ⟨a, e, hb, hc⟩ := h hn
  exact ⟨a, e, Nat.lt_of_lt_of_le hb hB, hc⟩
theorem Row.below (h : Row w B A l) (hb : Below B w w') : Row w' B A l := h.same fun _ hp => hb.cell hp
theorem Row.drew (h : Row w B A l) : Row w.drew B A l := h
theorem Row.alloc (h : Row w B A l) (hB : B ≤ w.heap.size) (o : Obj) : Row (w.alloc o) B A l := h.same fun p hp => World.cell?_alloc_lt w o p (by omega)
theorem Row.at {k : Nat} (h : Row w B A l) (hk : k < l.length) : ∃ a p, A = some a ∧ a.add (k * 2) = p ∧ p.block < B ∧ w.cell? p = some (.int .u64 (l[k].1 : Int)) ∧ w.cell? ⟨p.block, p.off + 1, none⟩ = some (.int .u64 (l[k].2 : Int)) := by
  obtain ⟨a, e, hb, hc⟩ := h (fun hn => by subst hn; cases hk)
  refine ⟨a, _, e, rfl, by rw [addr_add_block]; exact hb, (hc k hk).1, ?_⟩
  have h2 := (hc k hk).2
  rw [← addr_add_add] at h2
  exact h2
end
end Go.Proofs.Ytmhhckpdhjnmeaa
