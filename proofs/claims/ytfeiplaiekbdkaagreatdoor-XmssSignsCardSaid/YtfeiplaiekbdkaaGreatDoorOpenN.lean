/- Arguments opened: a node. -/
import Derived.Test.YtfeiplaiekbdkaaGreatDoorWa
import Derived.Test.YtfeiplaiekbdkaaGreatDoorLaw
import Derived.Lib.SmallJoins
import Derived.Deep.Fields
import Derived.Deep.Matrix
import Derived.Lib.LaidU8
import Derived.ChangeSame
namespace Go.Proofs.YtfeiplaiekbdkaaGreatDoor
open Go.ChangeShapes Go.WideShapes Go.ChangeAt Go.RowKit Go.Deep
section
variable {H : Type} {enc : TypeId × Value → H} {P : Program} {W : World} {r : Reach} {base : Nat}
set_option maxRecDepth 100000 in
theorem trod_arr_form {sp : Nat → Bool} {held : Bool} {fuel : Nat} {t e : TypeId} {n : Nat} {cs : List Value} {x : DataW H × List MemPlace} (ht : P.underlying t = some (.array n e))
    (h : DataW.trod enc P W base sp held fuel t cs = some x) : ∃ ds p, x = (.agg ds, p) := by
  cases fuel with
  | zero => simp [DataW.trod] at h
  | succ fuel =>
    simp only [DataW.trod, ht] at h
    split at h
    · obtain ⟨xs, hm, hx⟩ := Option.map_eq_some_iff.1 h
      exact ⟨_, _, hx.symm⟩
    · cases h
set_option maxRecDepth 100000 in
/-- An array of integers: its cells. -/
theorem open_arr_of {t e : TypeId} {n : Nat} {k : IntKind} {v : Value} {d : DataW H} {ps : List MemPlace}
    (ht : P.underlying t = some (.array n e)) (he : P.underlying e = some (.int k)) (hc : P.cellsOf e = 1) (hct : P.cellsOf t = n) (hv : Value.okWide P W r base t v)
    (h : DataW.Trod enc P W 0 (fun _ => true) true t v d ps) : ∃ z : Nat → Int, v = .agg (vec n fun i => .int k (z i)) ∧ ∀ i, i < n → (Lit.int k (z i)).wf = true := by
  obtain ⟨cs, rfl, hsz, _⟩ : ∃ cs, v = .agg cs ∧ cs.size = P.cellsOf t ∧ Row.okWide P W r base t cs := by
    simpa [Value.okWide, ht] using hv
  obtain ⟨fuel, hf⟩ := h
  have hcs : (Value.agg cs).cells.toList = cs.toList := rfl
  rw [hcs] at hf
  obtain ⟨ds, p, hx⟩ := trod_arr_form ht hf
  rw [hx] at hf
  have hel : ∀ i, i < n → ∃ z, cs[i]? = some (.int k z) ∧ (Lit.int k z).wf = true := by
    intro i hi
    obtain ⟨fuel', d', q, _, h2⟩ := Lib.array_elem ht hf i hi
    rw [hc, Nat.mul_one] at h2
    have hlt : i < cs.size := by rw [hsz, hct]; exact hi
    have e1 : (cs.toList.drop i).take 1 = [cs[i]] := by
      rw [List.drop_eq_getElem_cons (by simpa using hlt)]; simp
    rw [e1] at h2
    obtain ⟨z, e2, _, hw⟩ := DataW.trod_int he h2
    simp at e2
    exact ⟨z, by rw [Array.getElem?_eq_getElem hlt, e2], hw⟩
  refine ⟨fun i => match cs[i]? with | some (.int _ z) => z | _ => 0, ?_, ?_⟩
  · congr 1
    apply Array.ext_getElem?
    intro i
    by_cases hi : i < n
    · obtain ⟨z, hz, _⟩ := hel i hi
      rw [vec_at n _ i hi, hz]
      simp only [hz]
    · rw [Array.getElem?_eq_none (by omega), Array.getElem?_eq_none (by rw [vec_size]; omega)]
  · intro i hi
    obtain ⟨z, hz, hw⟩ := hel i hi
    simp only [hz]
    exact hw
end
section
variable {H : Type} {enc : TypeId × Value → H} {W : World} {r : Reach} {base : Nat}
set_option maxRecDepth 100000 in
theorem open_node {v : Value} {d : DataW H} {ps : List MemPlace} (hv : Value.okWide Tryz.prog W r base 30 v) (h : DataW.Trod enc Tryz.prog W 0 (fun _ => true) true 30 v d ps) :
    ∃ f : Nat → UInt8, v = .agg (vec 32 (bys f)) := by
  obtain ⟨z, rfl, hw⟩ := open_arr_of Tryz.underlying30 Tryz.underlying5 (by kernel_rfl) (by kernel_rfl) hv h
  refine ⟨fun i => UInt8.ofNat (z i).toNat, congrArg Value.agg (vec_congr fun i hi => ?_)⟩
  have hb := bounds_u8 (hw i hi)
  have : ((UInt8.ofNat (z i).toNat).toNat : Int) = z i := by
    rw [UInt8.toNat_ofNat']; omega
  rw [bys, this]
end
end Go.Proofs.YtfeiplaiekbdkaaGreatDoor
