/- A slice of deeds that came in. -/
import Derived.Lib.SmallJoins
import Derived.Test.YtbemphfijkcbhaaOpn9
import Derived.Test.YtbemphfijkcbhaaFew9
namespace Go.Proofs.Ytbemphfijkcbhaa
open Go.ChangeShapes Go.WideShapes Go.ChangeAt Go.RowKit Go.Deep

section
variable {H : Type} {enc : TypeId × Value → H} {W : World} {r : Reach} {base : Nat} {sp : Nat → Bool} {held : Bool} {fuel : Nat}
set_option maxRecDepth 100000 in
theorem open_deeds {v : Value} {d : DataW H} {ps : List MemPlace} (hv : Value.okWide Try.prog W r base 33 v) (h : DataW.Trod enc Try.prog W 0 (fun _ => true) true 33 v d ps) :
    ∃ (A : Option Addr) (c : Nat) (l : List Dd), v = .slice A l.length c ∧ (l.length ≤ c ∧ c ≤ maxLen) ∧ DRow W W.heap.size A l := by
  have ht := Try.underlying33
  have hE := Try.underlying43
  have hC : Try.prog.cellsOf 43 = 4 := by kernel_rfl
  have hI : Try.prog.cellsOf 3 = 1 := by kernel_rfl
  have hU : Try.prog.cellsOf 22 = 1 := by kernel_rfl
  have hB : Try.prog.cellsOf 41 = 1 := by kernel_rfl
  obtain ⟨a0, len, cap, rfl⟩ := okWide_slice ht hv
  obtain ⟨fuel, hf⟩ := h
  rcases open_slice ht hf with ⟨hcs, _⟩ | ⟨a, len', cap', m, n, D, Pl, hcs, _, hle, hm, hmm, _, hi⟩
  · simp [Value.cells] at hcs
    obtain ⟨rfl, rfl, rfl⟩ := hcs
    exact ⟨none, 0, [], rfl, ⟨Nat.le_refl _, Nat.zero_le _⟩, DRow.nil _ _ _⟩
  · simp [Value.cells] at hcs
    obtain ⟨rfl, rfl, rfl⟩ := hcs
    have hlm : len ≤ m := by rw [hmm]; split <;> omega
    have key : ∀ i, i < len → ∃ x : Dd, DdAt W W.heap.size x ∧ W.cell? (a.add (i * 4)) = some (.int .i64 x.kind) ∧ W.cell? (a.add (i * 4 + 1)) = some (.int .u64 (x.at_ : Int)) ∧ W.cell? (a.add (i * 4 + 2)) = some (.int .u64 (x.n : Int)) ∧ W.cell? (a.add (i * 4 + 3)) = some (.slice x.A x.l.length x.c) := by
      intro i hil
      obtain ⟨cs, hc, ht'⟩ := hi i (by omega)
      rw [hC] at hc
      obtain ⟨_, hcl, hat⟩ := World.cells?_some hc
      obtain ⟨y0, y1, y2, y3, n', -, -, h0, h1, h2, h3⟩ := Go.Joins.trod_struct4 hE ht'
      simp only [hI, hU, hB] at h0 h1 h2 h3
      rw [take1_at (by omega)] at h0 h1 h2 h3
      obtain ⟨z0, e0, _, w0⟩ := DataW.trod_int Try.underlying3 h0
      obtain ⟨z1, e1, _, w1⟩ := DataW.trod_int Try.underlying22 h1
      obtain ⟨z2, e2, _, w2⟩ := DataW.trod_int Try.underlying22 h2
      obtain ⟨A, c, l, e3, hl1, hl2, hl3⟩ := bytes_cell Try.underlying41 Try.underlying5 (by kernel_rfl) h3
      have b0 := bounds_i64 w0
      have b1 := bounds_u64 w1
      have b2 := bounds_u64 w2
      obtain ⟨z1, rfl⟩ := Int.eq_ofNat_of_zero_le b1.1
      obtain ⟨z2, rfl⟩ := Int.eq_ofNat_of_zero_le b2.1
      match cs, hcl with
      | [c0, c1, c2, c3], _ =>
        simp at e0 e1 e2 e3
        refine ⟨⟨z0, z1, z2, A, c, l⟩, ⟨by simp only; omega, by simp only; omega, by simp only; omega, hl3, hl1, hl2⟩, ?_, ?_, ?_, ?_⟩
        · have := hat 0 (by simp)
          rw [show a.add (i * 4) = (a.add (i * 4)).add 0 from by simp [Addr.add], this, ← e0]; rfl
        · have := hat 1 (by simp)
          rw [← Go.Deep.add_add, this, ← e1]; rfl
        · have := hat 2 (by simp)
          rw [← Go.Deep.add_add, this, ← e2]; rfl
        · have := hat 3 (by simp)
          rw [← Go.Deep.add_add, this, ← e3]; rfl
    obtain ⟨l, hl, hc⟩ := list_of len key
    subst hl
    refine ⟨some a, cap, l, rfl, ⟨by omega, by omega⟩, fun hn => ⟨a, rfl, ?_, fun j hj => (hc j hj).2⟩, fun x hx => ?_⟩
    · have hpos : 0 < l.length := List.length_pos_iff.2 hn
      have := (hc 0 hpos).2.1
      have e0 : a.add (0 * 4) = a := by simp [Addr.add]
      rw [e0] at this
      exact World.block_lt_of_cell? W a this
    · obtain ⟨j, hj, rfl⟩ := List.mem_iff_getElem.1 hx
      exact (hc j hj).1
end
end Go.Proofs.Ytbemphfijkcbhaa
