/- A slice of deeds that came in. -/
import Derived.Test.YtfmdebnenmklbaaOpn10
namespace Go.Proofs.Ytfmdebnenmklbaa
open Go.ChangeShapes Go.WideShapes Go.ChangeAt Go.RowKit Go.Deep
section
variable {H : Type} {enc : TypeId × Value → H} {W : World} {r : Reach} {base : Nat}
set_option maxRecDepth 100000 in
theorem open_deeds {v : Value} {d : DataW H} {ps : List MemPlace} (hv : Value.okWide Try.prog W r base 24 v) (h : DataW.Trod enc Try.prog W 0 (fun _ => true) true 24 v d ps) :
    ∃ (A : Option Addr) (c : Nat) (l : List D3), v = .slice A l.length c ∧ (l.length ≤ c ∧ c ≤ maxLen) ∧ DRow3 W W.heap.size A l ∧ ∀ x ∈ l, (-9223372036854775808 ≤ x.kind ∧ x.kind ≤ 9223372036854775807) ∧ (-9223372036854775808 ≤ x.i ∧ x.i ≤ 9223372036854775807) := by
  have ht := Try.underlying24
  have hE := Try.underlying33
  have hC : Try.prog.cellsOf 33 = 3 := by kernel_rfl
  have hI : Try.prog.cellsOf 3 = 1 := by kernel_rfl
  have hU : Try.prog.cellsOf 31 = 1 := by kernel_rfl
  obtain ⟨a0, len, cap, rfl⟩ := okWide_slice ht hv
  obtain ⟨fuel, hf⟩ := h
  rcases open_slice ht hf with ⟨hcs, _⟩ | ⟨a, len', cap', m, n, D, Pl, hcs, _, hle, hm, hmm, _, hi⟩
  · simp [Value.cells] at hcs
    obtain ⟨rfl, rfl, rfl⟩ := hcs
    exact ⟨none, 0, [], rfl, ⟨Nat.le_refl _, Nat.zero_le _⟩, DRow3.nil _ _ _, fun x hx => by cases hx⟩
  · simp [Value.cells] at hcs
    obtain ⟨rfl, rfl, rfl⟩ := hcs
    have hlm : len ≤ m := by rw [hmm]; split <;> omega
    have key : ∀ i, i < len → ∃ x : D3, ((-9223372036854775808 ≤ x.kind ∧ x.kind ≤ 9223372036854775807) ∧ (-9223372036854775808 ≤ x.i ∧ x.i ≤ 9223372036854775807)) ∧ W.cell? (a.add (i * 3)) = some (.int .i64 x.kind) ∧ W.cell? (a.add (i * 3 + 1)) = some (.int .i64 x.i) ∧ W.cell? (a.add (i * 3 + 2)) = some (.int .u32 (num x.x)) := by
      intro i hil
      obtain ⟨cs, hc, ht'⟩ := hi i (by omega)
      rw [hC] at hc
      obtain ⟨_, hcl, hat⟩ := World.cells?_some hc
      obtain ⟨y0, y1, y2, n', -, -, h0, h1, h2⟩ := trod_struct3 hE ht'
      simp only [hI, hU] at h0 h1 h2
      rw [take1_at (by omega)] at h0 h1 h2
      obtain ⟨z0, e0, _, w0⟩ := DataW.trod_int Try.underlying3 h0
      obtain ⟨z1, e1, _, w1⟩ := DataW.trod_int Try.underlying3 h1
      obtain ⟨z2, e2, _, w2⟩ := DataW.trod_int Try.underlying31 h2
      have b0 := bounds_i64 w0
      have b1 := bounds_i64 w1
      have b2 := bounds_u32 w2
      obtain ⟨x2, rfl⟩ := num_ex (z := z2) b2.1 (by omega)
      match cs, hcl with
      | [c0, c1, c2], _ =>
        simp at e0 e1 e2
        refine ⟨⟨z0, z1, x2⟩, ⟨b0, b1⟩, ?_, ?_, ?_⟩
        · have := hat 0 (by simp)
          rw [show a.add (i * 3) = (a.add (i * 3)).add 0 from by simp [Addr.add], this, ← e0]; rfl
        · have := hat 1 (by simp)
          rw [← Go.Deep.add_add, this, ← e1]; rfl
        · have := hat 2 (by simp)
          rw [← Go.Deep.add_add, this, ← e2]; rfl
    obtain ⟨l, hl, hc⟩ := list_of len key
    subst hl
    refine ⟨some a, cap, l, rfl, ⟨by omega, by omega⟩, fun hn => ⟨a, rfl, ?_, fun j hj => (hc j hj).2⟩, fun x hx => ?_⟩
    · have hpos : 0 < l.length := List.length_pos_iff.2 hn
      have := (hc 0 hpos).2.1
      have e0 : a.add (0 * 3) = a := by simp [Addr.add]
      rw [e0] at this
      exact World.block_lt_of_cell? W a this
    · obtain ⟨j, hj, rfl⟩ := List.mem_iff_getElem.1 hx
      exact (hc j hj).1
end
end Go.Proofs.Ytfmdebnenmklbaa
