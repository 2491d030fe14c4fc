/- Arguments opened: a struct of integers; an address; a node. -/
import Derived.Test.YtjmlelojilpcaaaDoorNode
import Derived.Test.YtjmlelojilpcaaaDoorLaw
import Derived.Test.YtjmlelojilpcaaaDoorLayB
import Derived.Lib.SmallJoins
import Derived.Deep.Fields
import Derived.Deep.Matrix
import Derived.Lib.LaidU8
import Derived.ChangeSame
namespace Go.Proofs.YtjmlelojilpcaaaDoor
open Go.ChangeShapes Go.WideShapes Go.ChangeAt Go.RowKit Go.Deep
section
variable {H : Type} {enc : TypeId × Value → H} {P : Program} {W : World} {r : Reach} {base : Nat}

/-- A struct of integers: its cells. -/
theorem open_ints_struct {t : TypeId} {fs : Array Field} {ks : Nat → IntKind} {v : Value} {d : DataW H} {p : List MemPlace} (hs : P.underlying t = some (.struct fs)) (hone : oneCellFields P fs = true) (hC : P.cellsOf t = fs.size)
    (hk : ∀ i f, fs[i]? = some f → P.underlying f.type = some (.int (ks i))) (hv : Value.okWide P W r base t v) (h : DataW.Trod enc P W 0 (fun _ => true) true t v d p) :
    ∃ z : Nat → Int, v = .agg (vec fs.size fun i => .int (ks i) (z i)) ∧ ∀ i, i < fs.size → (Lit.int (ks i) (z i)).wf = true := by
  obtain ⟨cs, rfl, hsz⟩ := okWide_struct hs hv
  obtain ⟨fuel, hf⟩ := h
  have hcs : (Value.agg cs).cells.toList = cs.toList := rfl
  rw [hcs] at hf
  obtain ⟨xs, n, _, _, hl, hlen, hg⟩ := DataW.trod_struct hs hf
  have hel : ∀ i, i < fs.size → ∃ z, cs[i]? = some (.int (ks i) z) ∧ (Lit.int (ks i) z).wf = true := by
    intro i hi
    have hfi : fs[i]? = some fs[i] := Array.getElem?_eq_getElem hi
    obtain ⟨o, k⟩ := hone_of hone i fs[i] hfi
    have h2 := hg i fs[i] hfi
    rw [o, k] at h2
    have hlt : i < cs.size := by rw [hsz, hC]; exact hi
    have e1 : (cs.toList.drop i).take 1 = [cs[i]] := by
      rw [List.drop_eq_getElem_cons (by simpa using hlt)]; simp
    rw [e1] at h2
    cases hx : xs[i]? with
    | none => have := List.getElem?_eq_none_iff.1 hx; omega
    | some x =>
      rw [hx] at h2
      obtain ⟨z, e2, _, hw⟩ := DataW.trod_int (hk i _ hfi) h2
      simp at e2
      exact ⟨z, by rw [Array.getElem?_eq_getElem hlt, e2], hw⟩
  refine ⟨fun i => match cs[i]? with | some (.int _ z) => z | _ => 0, ?_, ?_⟩
  · congr 1
    apply Array.ext_getElem?
    intro i
    by_cases hi : i < fs.size
    · obtain ⟨z, hz, _⟩ := hel i hi
      rw [vec_at _ _ i hi, hz]
      simp only [hz]
    · rw [Array.getElem?_eq_none (by omega), Array.getElem?_eq_none (by rw [vec_size]; omega)]
  · intro i hi
    obtain ⟨z, hz, hw⟩ := hel i hi
    simp only [hz]
    exact hw
theorem trod_arr_form {sp : Nat → Bool} {held : Bool} {fuel : Nat} {t e : TypeId} {n : Nat} {cs : List Value} {x : DataW H × List MemPlace} (ht : P.underlying t = some (.array n e))
    (h : DataW.trod enc P W base sp held fuel t cs = some x) : ∃ ds p, x = (.agg ds, p) := by
  cases fuel with
  | zero => simp [DataW.trod] at h
  | succ fuel =>
    simp only [DataW.trod, ht] at h
    split at h
    · obtain ⟨xs, hm, hx⟩ := Option.map_eq_some_iff.1 h
      exact ⟨_, _, hx.symm⟩
    · cases h
/-- An array of integers: its cells. -/
theorem open_arr_of {t e : TypeId} {n : Nat} {k : IntKind} {v : Value} {d : DataW H} {ps : List MemPlace}
    (ht : P.underlying t = some (.array n e)) (he : P.underlying e = some (.int k)) (hc : P.cellsOf e = 1) (hct : P.cellsOf t = n) (hv : Value.okWide P W r base t v)
    (h : DataW.Trod enc P W 0 (fun _ => true) true t v d ps) : ∃ z : Nat → Int, v = .agg (vec n fun i => .int k (z i)) ∧ ∀ i, i < n → (Lit.int k (z i)).wf = true := by
  obtain ⟨cs, rfl, hsz, _⟩ : ∃ cs, v = .agg cs ∧ cs.size = P.cellsOf t ∧ Row.okWide P W r base t cs := by
    simpa [Value.okWide, ht] using hv
  obtain ⟨fuel, hf⟩ := h
  have hcs : (Value.agg cs).cells.toList = cs.toList := rfl
  rw [hcs] at hf
  obtain ⟨ds, p, hx⟩ := trod_arr_form ht hf
  rw [hx] at hf
  have hel : ∀ i, i < n → ∃ z, cs[i]? = some (.int k z) ∧ (Lit.int k z).wf = true := by
    intro i hi
    obtain ⟨fuel', d', q, _, h2⟩ := Lib.array_elem ht hf i hi
    rw [hc, Nat.mul_one] at h2
    have hlt : i < cs.size := by rw [hsz, hct]; exact hi
    have e1 : (cs.toList.drop i).take 1 = [cs[i]] := by
      rw [List.drop_eq_getElem_cons (by simpa using hlt)]; simp
    rw [e1] at h2
    obtain ⟨z, e2, _, hw⟩ := DataW.trod_int he h2
    simp at e2
    exact ⟨z, by rw [Array.getElem?_eq_getElem hlt, e2], hw⟩
  refine ⟨fun i => match cs[i]? with | some (.int _ z) => z | _ => 0, ?_, ?_⟩
  · congr 1
    apply Array.ext_getElem?
    intro i
    by_cases hi : i < n
    · obtain ⟨z, hz, _⟩ := hel i hi
      rw [vec_at n _ i hi, hz]
      simp only [hz]
    · rw [Array.getElem?_eq_none (by omega), Array.getElem?_eq_none (by rw [vec_size]; omega)]
  · intro i hi
    obtain ⟨z, hz, hw⟩ := hel i hi
    simp only [hz]
    exact hw
end
section
variable {H : Type} {enc : TypeId × Value → H} {W : World} {r : Reach} {base : Nat}
theorem open_node {v : Value} {d : DataW H} {ps : List MemPlace} (hv : Value.okWide Tryd.prog W r base 27 v) (h : DataW.Trod enc Tryd.prog W 0 (fun _ => true) true 27 v d ps) :
    ∃ f : Nat → UInt8, v = .agg (vec 32 (bys f)) := by
  obtain ⟨z, rfl, hw⟩ := open_arr_of Tryd.underlying27 Tryd.underlying5 (by kernel_rfl) (by kernel_rfl) hv h
  refine ⟨fun i => UInt8.ofNat (z i).toNat, congrArg Value.agg (vec_congr fun i hi => ?_)⟩
  have hb := bounds_u8 (hw i hi)
  have : ((UInt8.ofNat (z i).toNat).toNat : Int) = z i := by
    rw [UInt8.toNat_ofNat']; omega
  rw [bys, this]
theorem open_adrs {v : Value} {d : DataW H} {ps : List MemPlace} (hv : Value.okWide Tryd.prog W r base 39 v) (h : DataW.Trod enc Tryd.prog W 0 (fun _ => true) true 39 v d ps) :
    ∃ l t k a b c m : Nat, v = adV l t k a b c m ∧ AdOk l t k a b c m := by
  obtain ⟨z, hz, hw⟩ := open_ints_struct (ks := fun i => if i = 1 then .u64 else .u32) Tryd.underlying39 (by kernel_rfl) (by kernel_rfl) (fun i f hf => by
    match i, hf with
    | 0, hf => cases hf; exact Tryd.underlying22
    | 1, hf => cases hf; exact Tryd.underlying37
    | 2, hf => cases hf; exact Tryd.underlying22
    | 3, hf => cases hf; exact Tryd.underlying22
    | 4, hf => cases hf; exact Tryd.underlying22
    | 5, hf => cases hf; exact Tryd.underlying22
    | 6, hf => cases hf; exact Tryd.underlying22
    | n + 7, hf => simp at hf) hv h
  have b0 := bounds_u32 (hw 0 (by decide))
  have b1 := bounds_u64 (hw 1 (by decide))
  have b2 := bounds_u32 (hw 2 (by decide))
  have b3 := bounds_u32 (hw 3 (by decide))
  have b4 := bounds_u32 (hw 4 (by decide))
  have b5 := bounds_u32 (hw 5 (by decide))
  have b6 := bounds_u32 (hw 6 (by decide))
  refine ⟨(z 0).toNat, (z 1).toNat, (z 2).toNat, (z 3).toNat, (z 4).toNat, (z 5).toNat, (z 6).toNat, ?_, ⟨by omega, by omega, by omega, by omega, by omega, by omega, by omega⟩⟩
  rw [hz]
  simp only [adV, adA]
  rw [Int.toNat_of_nonneg b0.1, Int.toNat_of_nonneg b1.1, Int.toNat_of_nonneg b2.1, Int.toNat_of_nonneg b3.1, Int.toNat_of_nonneg b4.1, Int.toNat_of_nonneg b5.1, Int.toNat_of_nonneg b6.1]
  rfl
end
end Go.Proofs.YtjmlelojilpcaaaDoor
