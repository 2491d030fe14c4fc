/- Rows of the call's own that grow by one element: of any kind. -/
import Derived.Test.YtmcpmcicolpoeaaDoorEc
import Derived.Test.YtmcpmcicolpoeaaDoorPut
namespace Go.Proofs.YtmcpmcicolpoeaaDoor
open Go.RowKit

def appS (ts : Array TypeId) (ty : TypeId) (vs : Array Value) : Sem Value := Builtin.append_ ts ty vs
theorem builtin_appS (ats : Array TypeId) (ty : TypeId) (cs : Array Bool) (args : Array Value) : builtin .append ats ty cs args = (do pure (.value (← appS ats ty args))) := rfl
section
variable {α : Type} {n : Nat} {enc : α → Nat → Value} {w w' : World} {base : Nat} {t : TypeId} {v : Value} {l : List α}
/-- A row that is the call's own. -/
def OwnE (t : TypeId) (n : Nat) (enc : α → Nat → Value) (w : World) (base : Nat) (v : Value) (l : List α) : Prop := w.ownsRow base t n v l.length (cellsE n enc l)
theorem OwnE.nil (w : World) (base : Nat) : OwnE t n enc w base (.slice none 0 0) [] := World.ownsRow_nil _ _ _ _
theorem OwnE.save {g : Nat} (h : OwnE t n enc w base v l) (hs : Save g w w') (hg : g < base) : OwnE t n enc w' base v l := by
  refine ⟨h.1, ?_⟩
  rcases h.2 with h2 | ⟨k, cap, cur, hv, hk, hh, r⟩
  · exact Or.inl h2
  · exact Or.inr ⟨k, cap, cur, hv, hk, (hs.block k (Array.getElem?_eq_some_iff.1 hh).1 (by omega)).trans hh, r⟩
theorem OwnE.on {m : Nat} (h : OwnE t n enc w base v l) (hs : Below m w w') (hm : w.heap.size ≤ m) : OwnE t n enc w' base v l := by
  refine ⟨h.1, ?_⟩
  rcases h.2 with h2 | ⟨k, cap, cur, hv, hk, hh, r⟩
  · exact Or.inl h2
  · exact Or.inr ⟨k, cap, cur, hv, hk, (hs.block k (Nat.lt_of_lt_of_le (Array.getElem?_eq_some_iff.1 hh).1 hm)).trans hh, r⟩
theorem OwnE.low {base' : Nat} (h : OwnE t n enc w base v l) (hb : base' ≤ base) : OwnE t n enc w base' v l := by
  refine ⟨h.1, ?_⟩
  rcases h.2 with h2 | ⟨g, cap, cur, hv, hg, r⟩
  · exact Or.inl h2
  · exact Or.inr ⟨g, cap, cur, hv, Nat.le_trans hb hg, r⟩
/-- What such a row is: a slice whose cells lie in one block, which is new. -/
theorem OwnE.form (h : OwnE t n enc w base v l) : ∃ A c, v = .slice A l.length c ∧ l.length ≤ c ∧ RowE n enc w w.heap.size A l ∧ ∀ k, v.ownBlock = some k → base ≤ k ∧ k < w.heap.size := by
  rcases h.2 with ⟨rfl, h0⟩ | ⟨g, cap, cur, rfl, hg, hh, hnc, hr⟩
  · have : l = [] := List.eq_nil_of_length_eq_zero h0
    subst this
    exact ⟨none, 0, rfl, Nat.le_refl _, RowE.nil _ _ _, fun k hk => by simp [Value.ownBlock] at hk⟩
  · refine ⟨_, cap, rfl, hnc, fun _ => ⟨_, rfl, (Array.getElem?_eq_some_iff.1 hh).1, fun j hj i hi => ?_⟩, fun k hk => by
      simp [Value.ownBlock] at hk
      subst hk
      exact ⟨hg, (Array.getElem?_eq_some_iff.1 hh).1⟩⟩
    obtain ⟨q1, e1⟩ := List.getElem?_eq_some_iff.1 (cellsE_get (enc := enc) l j hj i hi)
    exact (h.cells (g := g) rfl (j * n + i) _ (List.getElem?_eq_getElem q1)).trans (by rw [e1])
theorem elC_new (w : World) (f : Nat → Value) (t : TypeId) (n : Nat) : ∀ j u, (elC n f)[j]? = some u → (w.alloc (.cells (vec n f) t)).cell? ((⟨w.heap.size, 0, none⟩ : Addr).add j) = some u := by
  intro j u hu
  have e : ((⟨w.heap.size, 0, none⟩ : Addr).add j) = ⟨w.heap.size, j, none⟩ := by unfold Addr.add; by_cases h0 : j = 0 <;> simp [h0]
  rw [e, cell_of_row _ w.heap.size j _ t (0, 0) (heap_alloc_new w _)]
  rw [← Array.getElem?_toList, elC_vec]
  exact hu
theorem app_E {P : Program} {ts : TypeId} {bytes : Nat} {z : Value} (hu : P.underlying ts = some (.slice t)) (hinfo : (P.info? t).map (fun i => (i.zero, i.size, i.bytes)) = some (some z, n, bytes)) (hz : z.cells.size = n) (hn : 0 < n)
    (h1 : ∀ (x : α) i, i < n → (enc x i).oneCell' = true) (x : α) (hown : OwnE t n enc w base v l) (hb : base ≤ w.heap.size) (hl : l.length ≤ 1000000) (hby : bytes ≤ 100000) (ty : TypeId) :
    ∃ B d w', (appS #[ts, ts] ty #[v, .slice (some ⟨w.heap.size, 0, none⟩) 1 1]).run P (w.alloc (.cells (vec n (enc x)) t)) = .ok (.slice B (l.length + 1) d) w' ∧ OwnE t n enc w' base (.slice B (l.length + 1) d) (l ++ [x]) ∧ Below base w w' := by
  obtain ⟨i0, hi, hz0, hz1, hz2⟩ := info_parts hinfo
  have hbz : (l.length + 1) * bytes ≤ 140737488355328 := Nat.le_trans (Nat.mul_le_mul (show l.length + 1 ≤ 1000001 by omega) hby) (by decide)
  obtain ⟨v', w', hr, h2, h3, _, h5⟩ := run_append_own_at (P := P) (w.alloc (.cells (vec n (enc x)) t)) base ts ty t i0 z n bytes hu hi hz0 hz1 hz2 hz hn v l.length (cellsE n enc l) (hown.on ((Below.refl _ _).alloc (Nat.le_refl _) _) (Nat.le_refl _))
    ⟨w.heap.size, 0, none⟩ 1 1 (elC n (enc x)) (by rw [elC_length, Nat.one_mul]) (elC_new w (enc x) t n) (by
      intro u hu
      obtain ⟨i, hi, rfl⟩ := List.mem_map.1 hu
      exact h1 x i (List.mem_range.1 hi)) (by unfold maxLen; omega) hbz (by simp; omega)
  have hown2 : OwnE t n enc w' base v' (l ++ [x]) := by
    unfold OwnE
    rw [cellsE_snoc, List.length_append]
    exact h2
  obtain ⟨B, d, e, _, _, hbk⟩ := hown2.form
  obtain ⟨_, _, _, _, _, hbv⟩ := hown.form
  rw [List.length_append, List.length_singleton] at e
  subst e
  exact ⟨B, d, w', hr, hown2, ((Below.refl base w).alloc hb _).grown h3 (by simp; omega) fun k hk => (hbv k hk).1⟩
end
end Go.Proofs.YtmcpmcicolpoeaaDoor
