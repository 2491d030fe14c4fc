/- Arguments opened: a record, four words, writes. -/
import Derived.Deep.Strs
import Derived.Deep.Fields
import Derived.Deep.Matrix
import Derived.Lib.LaidU8
import Derived.ChangeSame
import Derived.Lib.SmallJoins
import Derived.Test.YtdkjigdihfidgaaLaw
import Derived.Test.YtdkjigdihfidgaaQe
namespace Go.Proofs.Ytdkjigdihfidgaa
open Go.ChangeShapes Go.WideShapes Go.ChangeAt Go.RowKit Go.Deep
section
variable {H : Type} {enc : TypeId × Value → H} {P : Program} {W : World} {r : Reach} {base : Nat}

/-- A struct of integers: its cells. -/
theorem open_ints_struct {t : TypeId} {fs : Array Field} {ks : Nat → IntKind} {v : Value} {d : DataW H} {p : List MemPlace} (hs : P.underlying t = some (.struct fs)) (hone : oneCellFields P fs = true) (hC : P.cellsOf t = fs.size)
    (hk : ∀ i f, fs[i]? = some f → P.underlying f.type = some (.int (ks i))) (hv : Value.okWide P W r base t v) (h : DataW.Trod enc P W 0 (fun _ => true) true t v d p) :
    ∃ z : Nat → Int, v = .agg (vec fs.size fun i => .int (ks i) (z i)) ∧ ∀ i, i < fs.size → (Lit.int (ks i) (z i)).wf = true := by
  obtain ⟨cs, rfl, hsz⟩ := okWide_struct hs hv
  obtain ⟨fuel, hf⟩ := h
  have hcs : (Value.agg cs).cells.toList = cs.toList := rfl
  rw [hcs] at hf
  obtain ⟨xs, n, _, _, hl, hlen, hg⟩ := DataW.trod_struct hs hf
  have hel : ∀ i, i < fs.size → ∃ z, cs[i]? = some (.int (ks i) z) ∧ (Lit.int (ks i) z).wf = true := by
    intro i hi
    have hfi : fs[i]? = some fs[i] := Array.getElem?_eq_getElem hi
    obtain ⟨o, k⟩ := hone_of hone i fs[i] hfi
    have h2 := hg i fs[i] hfi
    rw [o, k] at h2
    have hlt : i < cs.size := by rw [hsz, hC]; exact hi
    have e1 : (cs.toList.drop i).take 1 = [cs[i]] := by
      rw [List.drop_eq_getElem_cons (by simpa using hlt)]; simp
    rw [e1] at h2
    cases hx : xs[i]? with
    | none => have := List.getElem?_eq_none_iff.1 hx; omega
    | some x =>
      rw [hx] at h2
      obtain ⟨z, e2, _, hw⟩ := DataW.trod_int (hk i _ hfi) h2
      simp at e2
      exact ⟨z, by rw [Array.getElem?_eq_getElem hlt, e2], hw⟩
  refine ⟨fun i => match cs[i]? with | some (.int _ z) => z | _ => 0, ?_, ?_⟩
  · congr 1
    apply Array.ext_getElem?
    intro i
    by_cases hi : i < fs.size
    · obtain ⟨z, hz, _⟩ := hel i hi
      rw [vec_at _ _ i hi, hz]
      simp only [hz]
    · rw [Array.getElem?_eq_none (by omega), Array.getElem?_eq_none (by rw [vec_size]; omega)]
  · intro i hi
    obtain ⟨z, hz, hw⟩ := hel i hi
    simp only [hz]
    exact hw
theorem trod_arr_form {sp : Nat → Bool} {held : Bool} {fuel : Nat} {t e : TypeId} {n : Nat} {cs : List Value} {x : DataW H × List MemPlace} (ht : P.underlying t = some (.array n e))
    (h : DataW.trod enc P W base sp held fuel t cs = some x) : ∃ ds p, x = (.agg ds, p) := by
  cases fuel with
  | zero => simp [DataW.trod] at h
  | succ fuel =>
    simp only [DataW.trod, ht] at h
    split at h
    · obtain ⟨xs, hm, hx⟩ := Option.map_eq_some_iff.1 h
      exact ⟨_, _, hx.symm⟩
    · cases h
/-- An array of integers: its cells. -/
theorem open_arr_of {t e : TypeId} {n : Nat} {k : IntKind} {v : Value} {d : DataW H} {ps : List MemPlace}
    (ht : P.underlying t = some (.array n e)) (he : P.underlying e = some (.int k)) (hc : P.cellsOf e = 1) (hct : P.cellsOf t = n) (hv : Value.okWide P W r base t v)
    (h : DataW.Trod enc P W 0 (fun _ => true) true t v d ps) : ∃ z : Nat → Int, v = .agg (vec n fun i => .int k (z i)) ∧ ∀ i, i < n → (Lit.int k (z i)).wf = true := by
  obtain ⟨cs, rfl, hsz, _⟩ : ∃ cs, v = .agg cs ∧ cs.size = P.cellsOf t ∧ Row.okWide P W r base t cs := by
    simpa [Value.okWide, ht] using hv
  obtain ⟨fuel, hf⟩ := h
  have hcs : (Value.agg cs).cells.toList = cs.toList := rfl
  rw [hcs] at hf
  obtain ⟨ds, p, hx⟩ := trod_arr_form ht hf
  rw [hx] at hf
  have hel : ∀ i, i < n → ∃ z, cs[i]? = some (.int k z) ∧ (Lit.int k z).wf = true := by
    intro i hi
    obtain ⟨fuel', d', q, _, h2⟩ := Lib.array_elem ht hf i hi
    rw [hc, Nat.mul_one] at h2
    have hlt : i < cs.size := by rw [hsz, hct]; exact hi
    have e1 : (cs.toList.drop i).take 1 = [cs[i]] := by
      rw [List.drop_eq_getElem_cons (by simpa using hlt)]; simp
    rw [e1] at h2
    obtain ⟨z, e2, _, hw⟩ := DataW.trod_int he h2
    simp at e2
    exact ⟨z, by rw [Array.getElem?_eq_getElem hlt, e2], hw⟩
  refine ⟨fun i => match cs[i]? with | some (.int _ z) => z | _ => 0, ?_, ?_⟩
  · congr 1
    apply Array.ext_getElem?
    intro i
    by_cases hi : i < n
    · obtain ⟨z, hz, _⟩ := hel i hi
      rw [vec_at n _ i hi, hz]
      simp only [hz]
    · rw [Array.getElem?_eq_none (by omega), Array.getElem?_eq_none (by rw [vec_size]; omega)]
  · intro i hi
    obtain ⟨z, hz, hw⟩ := hel i hi
    simp only [hz]
    exact hw
end
/-- A list of what there is at each place. -/
theorem list_of {α : Type} {Φ : Nat → α → Prop} : ∀ n, (∀ i, i < n → ∃ x, Φ i x) → ∃ l : List α, l.length = n ∧ ∀ j (h : j < l.length), Φ j l[j]
  | 0, _ => ⟨[], rfl, fun j h => by cases h⟩
  | n + 1, h => by
    obtain ⟨l, hl, hf⟩ := list_of n fun i hi => h i (by omega)
    obtain ⟨x, hx⟩ := h n (by omega)
    refine ⟨l ++ [x], by simp [hl], fun j hj => ?_⟩
    rw [List.getElem_append]
    split
    · rename_i h1; exact hf j h1
    · rename_i h1
      have : j = n := by simp at hj; omega
      subst this
      simp only [hl, Nat.sub_self, List.getElem_cons_zero]
      exact hx
theorem take1_at {L : List Value} {o : Nat} (h : o < L.length) : (L.drop o).take 1 = [L[o]] := by
  rw [List.drop_eq_getElem_cons h]; rfl
section
variable {H : Type} {enc : TypeId × Value → H} {W : World} {r : Reach} {base : Nat}
theorem open_quad {v : Value} {d : DataW H} {ps : List MemPlace} (hv : Value.okWide Try.prog W r base 25 v) (h : DataW.Trod enc Try.prog W 0 (fun _ => true) true 25 v d ps) :
    ∃ f : Nat → W32, v = .agg (vec 4 (wds f)) := by
  obtain ⟨z, rfl, hw⟩ := open_arr_of Try.underlying25 Try.underlying22 (by kernel_rfl) (by kernel_rfl) hv h
  refine ⟨fun i => BitVec.ofInt 32 (z i), congrArg Value.agg (vec_congr fun i hi => ?_)⟩
  have hb := bounds_u32 (hw i hi)
  have : num (BitVec.ofInt 32 (z i)) = z i := by
    rw [num_ofInt, IntKind.wrap_u32']; omega
  rw [wds, this]
theorem open_rec {v : Value} {d : DataW H} {ps : List MemPlace} (hv : Value.okWide Try.prog W r base 24 v) (h : DataW.Trod enc Try.prog W 0 (fun _ => true) true 24 v d ps) :
    ∃ s x : W32, v = .agg #[.int .u32 (num s), .int .u32 (num x)] := by
  obtain ⟨z, hz, hw⟩ := open_ints_struct (ks := fun _ => .u32) Try.underlying24 (by kernel_rfl) (by kernel_rfl) (fun i f hf => by
    match i, hf with
    | 0, hf => cases hf; exact Try.underlying22
    | 1, hf => cases hf; exact Try.underlying22
    | n + 2, hf => simp at hf) hv h
  have b0 := bounds_u32 (hw 0 (by decide))
  have b1 := bounds_u32 (hw 1 (by decide))
  obtain ⟨s, hs⟩ := num_ex (z := z 0) b0.1 (by omega)
  obtain ⟨x, hx⟩ := num_ex (z := z 1) b1.1 (by omega)
  refine ⟨s, x, ?_⟩
  rw [hz, ← hs, ← hx]
  rfl
set_option maxRecDepth 100000 in
theorem open_puts {v : Value} {d : DataW H} {ps : List MemPlace} (hv : Value.okWide Try.prog W r base 32 v) (h : DataW.Trod enc Try.prog W 0 (fun _ => true) true 32 v d ps) :
    ∃ (A : Option Addr) (c : Nat) (l : List Ct), v = .slice A l.length c ∧ (l.length ≤ c ∧ c ≤ maxLen) ∧ Lies W W.heap.size 2 A l.length (cellsC l) ∧ ∀ x ∈ l, CtOk x := by
  have ht := Try.underlying32
  have hE := Try.underlying35
  have hC : Try.prog.cellsOf 35 = 2 := by kernel_rfl
  have hI : Try.prog.cellsOf 3 = 1 := by kernel_rfl
  have hU : Try.prog.cellsOf 22 = 1 := by kernel_rfl
  obtain ⟨a0, len, cap, rfl⟩ := okWide_slice ht hv
  obtain ⟨fuel, hf⟩ := h
  rcases open_slice ht hf with ⟨hcs, _⟩ | ⟨a, len', cap', m, n, D, Pl, hcs, _, hle, hm, hmm, _, hi⟩
  · simp [Value.cells] at hcs
    obtain ⟨rfl, rfl, rfl⟩ := hcs
    exact ⟨none, 0, [], rfl, ⟨Nat.le_refl _, Nat.zero_le _⟩, Lies.nil _ _ _ _, fun x hx => by cases hx⟩
  · simp [Value.cells] at hcs
    obtain ⟨rfl, rfl, rfl⟩ := hcs
    have hlm : len ≤ m := by rw [hmm]; split <;> omega
    have key : ∀ i, i < len → ∃ x : Ct, CtOk x ∧ W.cell? (a.add (i * 2)) = some (.int .i64 x.after) ∧ W.cell? (a.add (i * 2 + 1)) = some (.int .u32 (num x.mask)) := by
      intro i hil
      obtain ⟨cs, hc, ht'⟩ := hi i (by omega)
      rw [hC] at hc
      obtain ⟨_, hcl, hat⟩ := World.cells?_some hc
      obtain ⟨y0, y1, n', -, -, h0, h1⟩ := trod_struct2 hE ht'
      simp only [hI, hU] at h0 h1
      rw [take1_at (by omega)] at h0 h1
      obtain ⟨z0, e0, _, w0⟩ := DataW.trod_int Try.underlying3 h0
      obtain ⟨z1, e1, _, w1⟩ := DataW.trod_int Try.underlying22 h1
      have b0 := bounds_i64 w0
      have b1 := bounds_u32 w1
      obtain ⟨x1, rfl⟩ := num_ex (z := z1) b1.1 (by omega)
      match cs, hcl with
      | [c0, c1], _ =>
        simp at e0 e1
        refine ⟨⟨z0, x1⟩, b0, ?_, ?_⟩
        · have := hat 0 (by simp)
          rw [show a.add (i * 2) = (a.add (i * 2)).add 0 from by simp [Addr.add], this, ← e0]; rfl
        · have := hat 1 (by simp)
          rw [← Go.Deep.add_add, this, ← e1]; rfl
    obtain ⟨l, hl, hc⟩ := list_of len key
    subst hl
    refine ⟨some a, cap, l, rfl, ⟨by omega, by omega⟩, ⟨cellsC_length l, fun hn => ⟨a, rfl, ?_, fun j hj => ?_⟩⟩, fun x hx => ?_⟩
    · have := (hc 0 (by omega)).2.1
      have e0 : a.add (0 * 2) = a := by simp [Addr.add]
      rw [e0] at this
      exact World.block_lt_of_cell? W a this
    · rw [cellsC_length] at hj
      obtain ⟨h1, h2⟩ := cellsC_at l (j / 2) (by omega)
      obtain ⟨_, h3, h4⟩ := hc (j / 2) (by omega)
      have hjj : j < (cellsC l).length := by rw [cellsC_length]; exact hj
      rcases Nat.mod_two_eq_zero_or_one j with h | h
      · have e : j / 2 * 2 = j := by omega
        rw [e] at h1 h3
        rw [h3, ← h1, List.getElem?_eq_getElem hjj]
      · have e : j / 2 * 2 + 1 = j := by omega
        rw [e] at h2 h4
        rw [h4, ← h2, List.getElem?_eq_getElem hjj]
    · obtain ⟨j, hj, rfl⟩ := List.mem_iff_getElem.1 hx
      exact (hc j hj).1
end
end Go.Proofs.Ytdkjigdihfidgaa
