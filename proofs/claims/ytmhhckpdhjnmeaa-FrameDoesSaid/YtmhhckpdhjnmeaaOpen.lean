/- Arguments opened: a span by value, a slice of spans. -/
import Derived.Test.YtmhhckpdhjnmeaaRow
import Derived.Test.YtmhhckpdhjnmeaaLaw
import Derived.Lib.SmallJoins
import Derived.Deep.Slices
import Derived.Deep.Fields
import Derived.ChangeSame
namespace Go.Proofs.Ytmhhckpdhjnmeaa
open Go.ChangeShapes Go.WideShapes Go.ChangeAt Go.RowKit Go.Deep
section
variable {H : Type} {enc : TypeId × Value → H} {P : Program} {W : World} {r : Reach} {base : Nat}

theorem open_span {t : TypeId} {f0 f1 : Field} {v : Value} {d : DataW H} {p : List MemPlace} (hs : P.underlying t = some (.struct #[f0, f1])) (hone : oneCellFields P #[f0, f1] = true) (hC : P.cellsOf t = 2)
    (h0 : P.underlying f0.type = some (.int .u64)) (h1 : P.underlying f1.type = some (.int .u64)) (hv : Value.okWide P W r base t v) (h : DataW.Trod enc P W 0 (fun _ => true) true t v d p) :
    ∃ a b : Nat, v = .agg #[.int .u64 (a : Int), .int .u64 (b : Int)] ∧ fit (a, b) := by
  obtain ⟨v0, v1, y0, y1, n, rfl, rfl, rfl, k0, k1⟩ := Joins.open_agg2 hs hone hC hv h
  obtain ⟨x, e0, _, w0⟩ := DataW.trod_int h0 k0
  obtain ⟨y, e1, _, w1⟩ := DataW.trod_int h1 k1
  have b0 := bounds_u64 w0
  have b1 := bounds_u64 w1
  obtain ⟨a, rfl⟩ := Int.eq_ofNat_of_zero_le b0.1
  obtain ⟨b, rfl⟩ := Int.eq_ofNat_of_zero_le b1.1
  cases e0
  cases e1
  exact ⟨a, b, rfl, by constructor <;> simp only <;> omega⟩

theorem open_spans {t e : TypeId} {f0 f1 : Field} {v : Value} {d : DataW H} {p : List MemPlace} (ht : P.underlying t = some (.slice e)) (he : P.underlying e = some (.struct #[f0, f1])) (hone : oneCellFields P #[f0, f1] = true) (hC : P.cellsOf e = 2)
    (h0 : P.underlying f0.type = some (.int .u64)) (h1 : P.underlying f1.type = some (.int .u64)) (hv : Value.okWide P W r base t v) (h : DataW.Trod enc P W 0 (fun _ => true) true t v d p) :
    ∃ (A : Option Addr) (c : Nat) (l : List Sp), v = .slice A l.length c ∧ (l.length ≤ c ∧ c ≤ maxLen) ∧ (∀ x ∈ l, fit x) ∧ Row W W.heap.size A l := by
  obtain ⟨a0, len, cap, rfl⟩ := okWide_slice ht hv
  obtain ⟨fuel, hf⟩ := h
  rcases open_slice ht hf with ⟨hcs, _⟩ | ⟨a, len', cap', m, n, D, Pl, hcs, _, hle, hm, hmm, _, hi⟩
  · simp [Value.cells] at hcs
    obtain ⟨rfl, rfl, rfl⟩ := hcs
    exact ⟨none, 0, [], rfl, ⟨Nat.le_refl _, Nat.zero_le _⟩, (fun _ h => by cases h), Row.nil _ _ _⟩
  · simp [Value.cells] at hcs
    obtain ⟨rfl, rfl, rfl⟩ := hcs
    have hlm : len ≤ m := by rw [hmm]; split <;> omega
    have key : ∀ i, i < len → ∃ x y : Nat, fit (x, y) ∧ W.cell? (a.add (i * 2)) = some (.int .u64 (x : Int)) ∧ W.cell? (a.add (i * 2 + 1)) = some (.int .u64 (y : Int)) := by
      intro i hil
      obtain ⟨cs, hc, ht'⟩ := hi i (by omega)
      rw [hC] at hc
      obtain ⟨ys, n', hn', hy, hlen, hyl, hg⟩ := DataW.trod_struct he ht'
      obtain ⟨_, hcl, hat⟩ := World.cells?_some hc
      match cs, hcl with
      | [c0, c1], _ =>
        obtain ⟨o0, k0⟩ := hone_of hone 0 f0 rfl
        obtain ⟨o1, k1⟩ := hone_of hone 1 f1 rfl
        match ys, hyl with
        | [y0, y1], _ =>
          have g0 : DataW.trod enc P W 0 (fun _ => true) true n' f0.type [c0] = some y0 := by simpa [o0, k0] using hg 0 f0 rfl
          have g1 : DataW.trod enc P W 0 (fun _ => true) true n' f1.type [c1] = some y1 := by simpa [o1, k1] using hg 1 f1 rfl
          obtain ⟨x, e0, _, w0⟩ := DataW.trod_int h0 g0
          obtain ⟨y, e1, _, w1⟩ := DataW.trod_int h1 g1
          have b0 := bounds_u64 w0
          have b1 := bounds_u64 w1
          obtain ⟨x, rfl⟩ := Int.eq_ofNat_of_zero_le b0.1
          obtain ⟨y, rfl⟩ := Int.eq_ofNat_of_zero_le b1.1
          cases e0
          cases e1
          refine ⟨x, y, by constructor <;> simp only <;> omega, ?_, ?_⟩
          · have := hat 0 (by simp)
            rw [show a.add (i * 2) = (a.add (i * 2)).add 0 from by simp [Addr.add], this]; rfl
          · have := hat 1 (by simp)
            rw [← Go.Deep.add_add, this]; rfl
    have all : ∀ k, k ≤ len → ∃ l : List Sp, l.length = k ∧ (∀ x ∈ l, fit x) ∧ ∀ j (h : j < l.length), W.cell? (a.add (j * 2)) = some (.int .u64 (l[j].1 : Int)) ∧ W.cell? (a.add (j * 2 + 1)) = some (.int .u64 (l[j].2 : Int)) := by
      intro k
      induction k with
      | zero => exact fun _ => ⟨[], rfl, (fun _ h => by cases h), fun j h => by cases h⟩
      | succ k ih =>
        intro hk
        obtain ⟨l, hl, hf', hc⟩ := ih (by omega)
        obtain ⟨x, y, hxy, c0, c1⟩ := key k (by omega)
        refine ⟨l ++ [(x, y)], by simp [hl], fun z hz => ?_, fun j hj => ?_⟩
        · rcases List.mem_append.1 hz with h | h
          · exact hf' z h
          · rw [List.mem_singleton.1 h]; exact hxy
        · rw [List.getElem_append]
          split
          · rename_i h; exact hc j h
          · rename_i h
            have : j = k := by simp at hj; omega
            subst this
            simp only [hl, Nat.sub_self, List.getElem_cons_zero]
            exact ⟨c0, c1⟩
    obtain ⟨l, hl, hf', hc⟩ := all len (Nat.le_refl _)
    subst hl
    refine ⟨some a, cap, l, rfl, ⟨by omega, by omega⟩, hf', fun hn => ⟨a, rfl, ?_, hc⟩⟩
    have hpos : 0 < l.length := List.length_pos_iff.2 hn
    have := (hc 0 hpos).1
    have e0 : a.add (0 * 2) = a := by simp [Addr.add]
    rw [e0] at this
    exact World.block_lt_of_cell? W a this
end
end Go.Proofs.Ytmhhckpdhjnmeaa
