/- Arguments opened: a cut, rises. -/
import Derived.Test.YtpeebdhbcglibaaOpn10
import Derived.Deep.Fields
namespace Go.Proofs.Ytpeebdhbcglibaa
open Go.ChangeShapes Go.WideShapes Go.ChangeAt Go.RowKit Go.Deep
/-- A rise. -/
structure Rz where
  id : Int
  v : W32
  boot : Bool
/-- A row of rises. -/
def RRow (w : World) (B : Nat) (A : Option Addr) (l : List Rz) : Prop :=
  l ≠ [] → ∃ a, A = some a ∧ a.block < B ∧ ∀ j (h : j < l.length), w.cell? (a.add (j * 3)) = some (.int .i64 l[j].id) ∧ w.cell? (a.add (j * 3 + 1)) = some (.int .u32 (num l[j].v)) ∧ w.cell? (a.add (j * 3 + 2)) = some (.bool l[j].boot)
theorem RRow.nil (w : World) (B : Nat) (A : Option Addr) : RRow w B A [] := fun h => absurd rfl h
theorem RRow.below {w w' : World} {B : Nat} {A : Option Addr} {l : List Rz} (h : RRow w B A l) (hb : Below B w w') : RRow w' B A l := fun hn => by
  obtain ⟨a, e, h1, h2⟩ := h hn
  have hc : ∀ i, w'.cell? (a.add i) = w.cell? (a.add i) := fun i => hb.cell (by rw [addr_add_block]; exact h1)
  refine ⟨a, e, h1, fun j hj => ?_⟩
  rw [hc, hc, hc]
  exact h2 j hj
theorem RRow.at {w : World} {B k : Nat} {A : Option Addr} {l : List Rz} (h : RRow w B A l) (hk : k < l.length) : ∃ a p, A = some a ∧ a.add (k * 3) = p ∧ p.block < B ∧ w.cell? p = some (.int .i64 l[k].id) ∧ w.cell? ⟨p.block, p.off + 1, none⟩ = some (.int .u32 (num l[k].v)) ∧
    w.cell? ⟨p.block, p.off + 2, none⟩ = some (.bool l[k].boot) := by
  obtain ⟨a, e, hb, hc⟩ := h (fun hn => by subst hn; cases hk)
  obtain ⟨h0, h1, h2⟩ := hc k hk
  rw [← addr_add_add] at h1 h2
  exact ⟨a, _, e, rfl, by rw [addr_add_block]; exact hb, h0, h1, h2⟩
section
variable {H : Type} {enc : TypeId × Value → H} {W : World} {r : Reach} {base : Nat}
set_option maxRecDepth 100000 in
theorem open_cut {v : Value} {d : DataW H} {ps : List MemPlace} (hv : Value.okWide Try.prog W r base 53 v) (h : DataW.Trod enc Try.prog W 0 (fun _ => true) true 53 v d ps) :
    ∃ (a : Int) (m : W32), v = .agg #[.int .i64 a, .int .u32 (num m)] ∧ (-9223372036854775808 ≤ a ∧ a ≤ 9223372036854775807) := by
  have hE := Try.underlying53
  have hC : Try.prog.cellsOf 53 = 2 := by kernel_rfl
  have hI : Try.prog.cellsOf 3 = 1 := by kernel_rfl
  have hU : Try.prog.cellsOf 30 = 1 := by kernel_rfl
  obtain ⟨cs, rfl, hsz⟩ := okWide_struct hE hv
  rw [hC] at hsz
  obtain ⟨fuel, hf⟩ := h
  obtain ⟨l⟩ := cs
  have hcl : l.length = 2 := hsz
  have hcs : (Value.agg ⟨l⟩).cells.toList = l := rfl
  rw [hcs] at hf
  obtain ⟨y0, y1, n', -, -, h0, h1⟩ := trod_struct2 hE hf
  simp only [hI, hU] at h0 h1
  rw [take1_at (by omega)] at h0 h1
  obtain ⟨z0, e0, _, w0⟩ := DataW.trod_int Try.underlying3 h0
  obtain ⟨z1, e1, _, w1⟩ := DataW.trod_int Try.underlying30 h1
  have b0 := bounds_i64 w0
  have b1 := bounds_u32 w1
  obtain ⟨x1, rfl⟩ := num_ex (z := z1) b1.1 (by omega)
  match l, hcl with
  | [c0, c1], _ =>
    simp at e0 e1
    exact ⟨z0, x1, by rw [e0, e1], b0⟩
set_option maxRecDepth 100000 in
theorem open_rises {v : Value} {d : DataW H} {ps : List MemPlace} (hv : Value.okWide Try.prog W r base 44 v) (h : DataW.Trod enc Try.prog W 0 (fun _ => true) true 44 v d ps) :
    ∃ (A : Option Addr) (c : Nat) (l : List Rz), v = .slice A l.length c ∧ (l.length ≤ c ∧ c ≤ maxLen) ∧ RRow W W.heap.size A l := by
  have ht := Try.underlying44
  have hE := Try.underlying46
  have hC : Try.prog.cellsOf 46 = 3 := by kernel_rfl
  have hI : Try.prog.cellsOf 3 = 1 := by kernel_rfl
  have hU : Try.prog.cellsOf 30 = 1 := by kernel_rfl
  have hB : Try.prog.cellsOf 4 = 1 := by kernel_rfl
  obtain ⟨a0, len, cap, rfl⟩ := okWide_slice ht hv
  obtain ⟨fuel, hf⟩ := h
  rcases open_slice ht hf with ⟨hcs, _⟩ | ⟨a, len', cap', m, n, D, Pl, hcs, _, hle, hm, hmm, _, hi⟩
  · simp [Value.cells] at hcs
    obtain ⟨rfl, rfl, rfl⟩ := hcs
    exact ⟨none, 0, [], rfl, ⟨Nat.le_refl _, Nat.zero_le _⟩, RRow.nil _ _ _⟩
  · simp [Value.cells] at hcs
    obtain ⟨rfl, rfl, rfl⟩ := hcs
    have hlm : len ≤ m := by rw [hmm]; split <;> omega
    have key : ∀ i, i < len → ∃ x : Rz, W.cell? (a.add (i * 3)) = some (.int .i64 x.id) ∧ W.cell? (a.add (i * 3 + 1)) = some (.int .u32 (num x.v)) ∧ W.cell? (a.add (i * 3 + 2)) = some (.bool x.boot) := by
      intro i hil
      obtain ⟨cs, hc, ht'⟩ := hi i (by omega)
      rw [hC] at hc
      obtain ⟨_, hcl, hat⟩ := World.cells?_some hc
      obtain ⟨y0, y1, y2, n', -, -, h0, h1, h2⟩ := trod_struct3 hE ht'
      simp only [hI, hU, hB] at h0 h1 h2
      rw [take1_at (by omega)] at h0 h1 h2
      obtain ⟨z0, e0, _, _⟩ := DataW.trod_int Try.underlying3 h0
      obtain ⟨z1, e1, _, w1⟩ := DataW.trod_int Try.underlying30 h1
      obtain ⟨z2, e2, _⟩ := DataW.trod_bool Try.underlying4 h2
      have b1 := bounds_u32 w1
      obtain ⟨x1, rfl⟩ := num_ex (z := z1) b1.1 (by omega)
      match cs, hcl with
      | [c0, c1, c2], _ =>
        simp at e0 e1 e2
        refine ⟨⟨z0, x1, z2⟩, ?_, ?_, ?_⟩
        · have := hat 0 (by simp)
          rw [show a.add (i * 3) = (a.add (i * 3)).add 0 from by simp [Addr.add], this, ← e0]; rfl
        · have := hat 1 (by simp)
          rw [← Go.Deep.add_add, this, ← e1]; rfl
        · have := hat 2 (by simp)
          rw [← Go.Deep.add_add, this, ← e2]; rfl
    obtain ⟨l, hl, hc⟩ := list_of len key
    subst hl
    refine ⟨some a, cap, l, rfl, ⟨by omega, by omega⟩, fun hn => ⟨a, rfl, ?_, fun j hj => hc j hj⟩⟩
    have hpos : 0 < l.length := List.length_pos_iff.2 hn
    have := (hc 0 hpos).1
    have e0 : a.add (0 * 3) = a := by simp [Addr.add]
    rw [e0] at this
    exact World.block_lt_of_cell? W a this
end
end Go.Proofs.Ytpeebdhbcglibaa
