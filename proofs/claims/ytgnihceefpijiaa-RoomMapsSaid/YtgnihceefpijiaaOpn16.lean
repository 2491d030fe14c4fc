/- A row of parts out of what a law is handed. -/
import Derived.Test.YtgnihceefpijiaaOpn14
import Derived.Test.YtgnihceefpijiaaRp
namespace Go.Proofs.Ytgnihceefpijiaa
open Go.ChangeShapes Go.WideShapes Go.ChangeAt Go.RowKit Go.WideElems
section
variable {H : Type} {enc : TypeId × Value → H} {W : World} {r : Reach} {base : Nat} {sp : Nat → Bool} {held : Bool} {fuel : Nat} {L : List Value} {x : DataW H × List MemPlace}
theorem mp_cells (hl : L.length = 5) (h : DataW.trod enc Try.prog W 0 sp held fuel 39 L = some x) : ∃ y : Mp, (∀ i, i < 5 → L[i]? = some (mpE y i)) ∧ MpB y := by
  obtain ⟨xs, n, -, -, -, hlen, hg⟩ := DataW.trod_struct Try.underlying39 h
  match xs, hlen with
  | [y0, y1, y2, y3, y4], _ =>
    have h0 : DataW.trod enc Try.prog W 0 sp held n 37 ((L.drop 0).take (Try.prog.cellsOf 37)) = some y0 := hg 0 _ rfl
    have h1 : DataW.trod enc Try.prog W 0 sp held n 37 ((L.drop 1).take (Try.prog.cellsOf 37)) = some y1 := hg 1 _ rfl
    have h2 : DataW.trod enc Try.prog W 0 sp held n 37 ((L.drop 2).take (Try.prog.cellsOf 37)) = some y2 := hg 2 _ rfl
    have h3 : DataW.trod enc Try.prog W 0 sp held n 3 ((L.drop 3).take (Try.prog.cellsOf 3)) = some y3 := hg 3 _ rfl
    have h4 : DataW.trod enc Try.prog W 0 sp held n 3 ((L.drop 4).take (Try.prog.cellsOf 3)) = some y4 := hg 4 _ rfl
    obtain ⟨z0, e0, w0⟩ := cell_int Try.underlying37 c1U64 (by omega) h0
    obtain ⟨z1, e1, w1⟩ := cell_int Try.underlying37 c1U64 (by omega) h1
    obtain ⟨z2, e2, w2⟩ := cell_int Try.underlying37 c1U64 (by omega) h2
    obtain ⟨z3, e3, w3⟩ := cell_int Try.underlying3 c1I (by omega) h3
    obtain ⟨z4, e4, w4⟩ := cell_int Try.underlying3 c1I (by omega) h4
    have u0 := u64B_of w0
    have u1 := u64B_of w1
    have u2 := u64B_of w2
    unfold u64B at u0 u1 u2
    refine ⟨⟨z0, z1, z2, z3, z4⟩, fun i hi => ?_, ⟨by unfold u64Z; simp only; omega, by unfold u64Z; simp only; omega, by unfold u64Z; simp only; omega⟩⟩
    match i, hi with
    | 0, _ => exact e0
    | 1, _ => exact e1
    | 2, _ => exact e2
    | 3, _ => exact e3
    | 4, _ => exact e4
theorem open_maps {v : Value} {d : DataW H} {ps : List MemPlace} (hv : Value.okWide Try.prog W r base 29 v) (h : DataW.Trod enc Try.prog W 0 (fun _ => true) true 29 v d ps) :
    ∃ (A : Option Addr) (c : Nat) (l : List Mp), v = .slice A l.length c ∧ l.length ≤ 9223372036854775807 ∧ RowE 5 mpE W W.heap.size A l ∧ ∀ y ∈ l, MpB y := by
  obtain ⟨a0, len, cap, rfl⟩ := okWide_slice Try.underlying29 hv
  obtain ⟨fuel, hf⟩ := h
  obtain ⟨A, c, l, e, hb, hr, hq⟩ := row_cells (v := .slice a0 len cap) Try.underlying29 (by kernel_rfl) (by decide) (fun hl h => mp_cells hl h) hf
  exact ⟨A, c, l, e, hb, hr, hq⟩
end
end Go.Proofs.Ytgnihceefpijiaa
