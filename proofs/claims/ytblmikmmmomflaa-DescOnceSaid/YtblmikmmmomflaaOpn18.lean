/- Arguments opened: a descriptor. -/
import Derived.Deep.Strs
import Derived.Deep.Slices
import Derived.Lib.SmallJoins
import Derived.Lib.LaidU8
import Derived.ChangeArms
import Derived.Test.YtblmikmmmomflaaMa
import Derived.Test.YtblmikmmmomflaaDl
namespace Go.Proofs.Ytblmikmmmomflaa
open Go.ChangeShapes Go.WideShapes Go.ChangeAt Go.RowKit Go.Deep

theorem take1_at {L : List Value} {o : Nat} (h : o < L.length) : (L.drop o).take 1 = [L[o]] := by
  rw [List.drop_eq_getElem_cons h]; rfl
section
variable {H : Type} {enc : TypeId × Value → H} {W : World} {r : Reach} {base : Nat}
set_option maxRecDepth 100000 in
theorem open_desc {v : Value} {d : DataW H} {ps : List MemPlace} (hv : Value.okWide Try.prog W r base 25 v) (h : DataW.Trod enc Try.prog W 0 (fun _ => true) true 25 v d ps) :
    ∃ x : Ds, v = .agg (vec 5 (descE x)) ∧ DsB x := by
  have hs := Try.underlying25
  obtain ⟨cs, rfl, hsz⟩ := okWide_struct hs hv
  have hC : Try.prog.cellsOf 25 = 5 := by kernel_rfl
  have hU : Try.prog.cellsOf 22 = 1 := by kernel_rfl
  have hI : Try.prog.cellsOf 3 = 1 := by kernel_rfl
  have hB : Try.prog.cellsOf 4 = 1 := by kernel_rfl
  rw [hC] at hsz
  obtain ⟨fuel, hf⟩ := h
  have hcs : (Value.agg cs).cells.toList = cs.toList := rfl
  rw [hcs] at hf
  obtain ⟨xs, n, -, -, -, hlen, hg⟩ := DataW.trod_struct hs hf
  match xs, hlen with
  | [y0, y1, y2, y3, y4], _ =>
    have h0 : DataW.trod enc Try.prog W 0 (fun _ => true) true n 3 ((cs.toList.drop 0).take (Try.prog.cellsOf 3)) = some y0 := hg 0 _ rfl
    have h1 : DataW.trod enc Try.prog W 0 (fun _ => true) true n 22 ((cs.toList.drop 1).take (Try.prog.cellsOf 22)) = some y1 := hg 1 _ rfl
    have h2 : DataW.trod enc Try.prog W 0 (fun _ => true) true n 3 ((cs.toList.drop 2).take (Try.prog.cellsOf 3)) = some y2 := hg 2 _ rfl
    have h3 : DataW.trod enc Try.prog W 0 (fun _ => true) true n 3 ((cs.toList.drop 3).take (Try.prog.cellsOf 3)) = some y3 := hg 3 _ rfl
    have h4 : DataW.trod enc Try.prog W 0 (fun _ => true) true n 4 ((cs.toList.drop 4).take (Try.prog.cellsOf 4)) = some y4 := hg 4 _ rfl
    simp only [hU, hI, hB] at h0 h1 h2 h3 h4
    have hL : cs.toList.length = 5 := by simpa using hsz
    rw [take1_at (by omega)] at h0 h1 h2 h3 h4
    obtain ⟨k, e0, _, w0⟩ := DataW.trod_int Try.underlying3 h0
    obtain ⟨p, e1, _, w1⟩ := DataW.trod_int Try.underlying22 h1
    obtain ⟨m, e2, _, w2⟩ := DataW.trod_int Try.underlying3 h2
    obtain ⟨u, e3, _, w3⟩ := DataW.trod_int Try.underlying3 h3
    obtain ⟨f, e4, _⟩ := DataW.trod_bool Try.underlying4 h4
    have b0 := bounds_i64 w0
    have b1 := bounds_u64 w1
    have b2 := bounds_i64 w2
    have b3 := bounds_i64 w3
    obtain ⟨a, rfl⟩ := Int.eq_ofNat_of_zero_le b1.1
    obtain ⟨L⟩ := cs
    match L, hsz with
    | [c0, c1, c2, c3, c4], _ =>
      simp at e0 e1 e2 e3 e4
      subst e0 e1 e2 e3 e4
      exact ⟨⟨k, a, m, u, f⟩, rfl, b0, by simp only; omega, b2, b3⟩
end
end Go.Proofs.Ytblmikmmmomflaa
