/- Rows of spans in a block that is told by a function over its cells: copy, clear, append of zeros; slices.overlaps. -/
import Derived.Test.YtmhhckpdhjnmeaaCollect
import Derived.Test.YtmhhckpdhjnmeaaVec
import Derived.Lib.Overlaps
import Derived.Lib.AppendZerosOnto
import Derived.Laws.Externs
import Derived.Laws.IdiomCopy
namespace Go.Proofs.Ytmhhckpdhjnmeaa
open Go.RowKit

def spf (l : List Sp) : Nat → Value := fun j => (cells2 l).getD j undef
theorem spf_at (l : List Sp) {j : Nat} (h : j < l.length * 2) : (cells2 l)[j]? = some (spf l j) := by
  have : j < (cells2 l).length := by rw [cells2_length]; exact h
  unfold spf
  rw [List.getElem?_eq_getElem this, List.getD_eq_getElem?_getD, List.getElem?_eq_getElem this]; rfl
theorem spf_one (l : List Sp) : ∀ j, j < l.length * 2 → (spf l j).oneCell' = true := fun _ h =>
  cells2_one l _ (List.mem_of_getElem? (spf_at l h))
theorem spf_app (a b : List Sp) {j : Nat} (h : j < (a ++ b).length * 2) : spf (a ++ b) j = if j < a.length * 2 then spf a j else spf b (j - a.length * 2) := by
  have h0 := spf_at (a ++ b) h
  rw [cells2_append, List.getElem?_append, cells2_length] at h0
  rw [List.length_append] at h
  split
  · rename_i hlt
    rw [if_pos hlt, spf_at a hlt] at h0
    exact (Option.some.inj h0).symm
  · rename_i hge
    rw [if_neg hge, spf_at b (by omega)] at h0
    exact (Option.some.inj h0).symm
theorem spf_take (l : List Sp) {i j : Nat} (hi : i ≤ l.length) (h : j < i * 2) : spf (l.take i) j = spf l j := by
  have e : l.take i ++ l.drop i = l := List.take_append_drop _ _
  have hl : (l.take i).length = i := by rw [List.length_take]; omega
  have := spf_app (l.take i) (l.drop i) (j := j) (by rw [e]; omega)
  rw [e, hl, if_pos h] at this
  exact this.symm
theorem spf_drop (l : List Sp) {i j : Nat} (hi : i ≤ l.length) (h : j < (l.length - i) * 2) : spf (l.drop i) j = spf l (i * 2 + j) := by
  have e : l.take i ++ l.drop i = l := List.take_append_drop _ _
  have hl : (l.take i).length = i := by rw [List.length_take]; omega
  have := spf_app (l.take i) (l.drop i) (j := i * 2 + j) (by rw [e]; omega)
  rw [e, hl, if_neg (by omega), show i * 2 + j - i * 2 = j by omega] at this
  exact this.symm
theorem blk_vec (cur : Array Value) : cur = vec cur.size (fun j => cur.getD j undef) := by
  apply Array.ext_getElem?
  intro j
  by_cases h : j < cur.size
  · rw [vec_at _ _ _ h]; simp [h]
  · rw [Array.getElem?_eq_none (by omega), Array.getElem?_eq_none (by rw [vec_size]; omega)]
theorem OwnS.arr {w : World} {base : Nat} {v : Value} {l : List Sp} (h : OwnS w base v l) (hl : l ≠ []) :
    ∃ g cap F, v = .slice (some ⟨g, 0, none⟩) l.length cap ∧ base ≤ g ∧ l.length ≤ cap ∧ cap ≤ maxLen ∧ Arr w g 24 (cap * 2) F ∧ ∀ j, j < l.length * 2 → F j = spf l j := by
  rcases h.2 with ⟨_, h0⟩ | ⟨g, cap, cur, rfl, hb, hg, hn, hc, hs, ht⟩
  · exact absurd (List.eq_nil_of_length_eq_zero h0) hl
  · refine ⟨g, cap, fun j => cur.getD j undef, rfl, hb, hn, hc, ?_, fun j hj => ?_⟩
    · unfold Arr
      rw [hg, ← hs, ← blk_vec]
    · have h1 := spf_at l hj
      have hjc : j < cur.size := by omega
      rw [← ht, List.getElem?_take, if_pos hj] at h1
      have : cur[j]? = some (spf l j) := by simpa using h1
      show cur.getD j undef = _
      simp [hjc] at this ⊢
      exact this
theorem OwnS.of_arr {w : World} {base g cap : Nat} {F : Nat → Value} {l : List Sp} (h : Arr w g 24 (cap * 2) F) (hF : ∀ j, j < l.length * 2 → F j = spf l j) (hn : l.length ≤ cap) (hc : cap ≤ maxLen) (hb : base ≤ g) :
    OwnS w base (.slice (some ⟨g, 0, none⟩) l.length cap) l := by
  refine ⟨cells2_length l, .inr ⟨g, cap, _, rfl, hb, h, hn, hc, vec_size _ _, ?_⟩⟩
  apply List.ext_getElem?
  intro j
  rw [List.getElem?_take]
  by_cases hj : j < l.length * 2
  · rw [if_pos hj, spf_at l hj, Array.getElem?_toList, vec_at _ _ _ (by omega), hF j hj]
  · rw [if_neg hj, List.getElem?_eq_none (by rw [cells2_length]; omega)]
/-- copy of spans into a row. -/
theorem run_copy2 {w : World} {g n o dLen dCap sLen sCap : Nat} {ty t : TypeId} {a : Addr} {f c : Nat → Value} (m : Nat) (h : Arr w g t n f) (hm : m = Nat.min sLen dLen)
    (hsrc : ∀ j, j < m * 2 → w.cell? (a.add j) = some (c j)) (ho : o + m * 2 ≤ n) (h1 : ∀ i, i < m * 2 → (c i).oneCell' = true) :
    (Builtin.copy_ #[46, 46] ty #[.slice (some ⟨g, o, none⟩) dLen dCap, .slice (some a) sLen sCap]).run Try.prog w = .ok (goInt (m : Nat)) (w.setRow g (vec n (spl o (m * 2) c f))) := by
  obtain ⟨i0, hi, hz0, hz1, hz2⟩ := info_parts infoS
  have hl : (loadCells a (m * 2)).run Try.prog w = .ok ((List.range (m * 2)).map c).toArray w := by
    have := run_loadCells_list (P := Try.prog) w a ((List.range (m * 2)).map c) (by
      intro j v hv
      obtain ⟨hj, rfl⟩ := List.getElem?_eq_some_iff.1 hv
      simp at hj ⊢
      exact hsrc j hj)
    simpa using this
  have hst := run_storeCells_at Try.prog g o t ((List.range (m * 2)).map c) 0 (vec n f) w h (by rw [vec_size]; simp; omega) (by
    intro v hv
    simp at hv
    obtain ⟨i, hi, rfl⟩ := hv
    exact h1 i hi)
  simp only [Nat.add_zero, List.length_map, List.length_range, vec_spl n o (m * 2) c f ho] at hst
  simp [Builtin.copy_, run_underlying Try.underlying46, Builtin.lenOf, Builtin.firstCells, sizeOf, typeInfo, hi, hz1, ← hm, hl, hst]
theorem run_copy2_nil {w : World} {g o dLen dCap c : Nat} {ty : TypeId} :
    (Builtin.copy_ #[46, 46] ty #[.slice (some ⟨g, o, none⟩) dLen dCap, .slice none 0 c]).run Try.prog w = .ok (goInt (0 : Nat)) w := by
  obtain ⟨i0, hi, hz0, hz1, hz2⟩ := info_parts infoS
  simp [Builtin.copy_, run_underlying Try.underlying46, Builtin.lenOf, Builtin.firstCells, sizeOf, typeInfo, hi, storeCells]
def zeroF : Nat → Value := fun _ => .int .u64 0
theorem zeroCells2 (n : Nat) : (Builtin.zeroCells (Value.agg #[.int .u64 0, .int .u64 0]).cells n) = vec (n * 2) zeroF := by
  apply Array.ext_getElem?
  intro j
  have e : n * #[Value.int IntKind.u64 0, Value.int IntKind.u64 0].size = n * 2 := rfl
  by_cases h : j < n * 2
  · rw [vec_at _ _ _ h]
    simp only [Builtin.zeroCells, Value.cells]
    rw [e, Array.getElem?_map, Array.getElem?_range, if_pos h]
    show some (#[Value.int IntKind.u64 0, Value.int IntKind.u64 0][j % 2]!) = some (.int .u64 0)
    rcases Nat.mod_two_eq_zero_or_one j with hj | hj <;> rw [hj] <;> rfl
  · have e1 : (Builtin.zeroCells (Value.agg #[.int .u64 0, .int .u64 0]).cells n).size = n * 2 := by simp only [Builtin.zeroCells, Value.cells]; rw [Array.size_map, Array.size_range]; exact e
    rw [Array.getElem?_eq_none (by rw [e1]; omega), Array.getElem?_eq_none (by rw [vec_size]; omega)]
/-- clear of spans in a row. -/
theorem run_clear2 {w : World} {g n o c : Nat} {ty t : TypeId} {f : Nat → Value} (m : Nat) (h : Arr w g t n f) (ho : o + m * 2 ≤ n) :
    ∃ w', (Builtin.clear_ #[46] ty #[.slice (some ⟨g, o, none⟩) m c]).run Try.prog w = .ok (.tuple #[]) w' ∧ w' = w.setRow g (vec n (spl o (m * 2) zeroF f)) := by
  cases m with
  | zero =>
    refine ⟨w, by simp [Builtin.clear_, run_underlying Try.underlying46], ?_⟩
    have e : spl o (0 * 2) zeroF f = f := by funext i; unfold spl; rw [if_neg (by omega)]
    rw [e]
    exact (setRow_self w g _ t (0, 0) h).symm
  | succ m =>
    refine ⟨_, ?_, rfl⟩
    have hst := run_storeCells_at Try.prog g o t ((List.range ((m + 1) * 2)).map zeroF) 0 (vec n f) w h (by rw [vec_size]; simp; omega) (by
      intro v hv
      simp at hv
      obtain ⟨i, hi, rfl⟩ := hv
      rfl)
    simp only [Nat.add_zero, List.length_map, List.length_range, vec_spl n o ((m + 1) * 2) zeroF f ho] at hst
    obtain ⟨i0, hi, hz0, hz1, hz2⟩ := info_parts infoS
    have hz : (zeroValue 24).run Try.prog w = .ok (.agg #[.int .u64 0, .int .u64 0]) w := by simp [zeroValue, typeInfo, hi, hz0]
    have hv : (vec ((m + 1) * 2) zeroF).toList = (List.range ((m + 1) * 2)).map zeroF := by simp [vec]
    simp [Builtin.clear_, run_underlying Try.underlying46, hz, zeroCells2, hv, hst]
end Go.Proofs.Ytmhhckpdhjnmeaa
