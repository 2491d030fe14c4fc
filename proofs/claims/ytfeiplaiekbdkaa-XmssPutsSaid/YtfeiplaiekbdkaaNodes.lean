/- Rows of nodes. -/
import Derived.Maps.AppendAt
import Derived.RangeFuncBox
import Derived.Great.BuildSlice
import Derived.Lib.AppendZeros
import Derived.Laws.MakeOwn
import Derived.KernelRfl
import Derived.Test.YtfeiplaiekbdkaaNode
namespace Go.Proofs.Ytfeiplaiekbdkaa
open Go.RowKit

abbrev Nd := Nat → UInt8
theorem addr_add2 (a : Addr) (i j : Nat) : (a.add i).add j = a.add (i + j) := by
  unfold Addr.add
  by_cases hi : i = 0 <;> by_cases hj : j = 0 <;> simp [hi, hj, Nat.add_assoc]
def nodeC (f : Nd) : List Value := (List.range 32).map (bys f)
theorem nodeC_vec (f : Nd) : (nodeC f).toArray = vec 32 (bys f) := rfl
def cellsN (l : List Nd) : List Value := l.flatMap nodeC
theorem cellsN_append (a b : List Nd) : cellsN (a ++ b) = cellsN a ++ cellsN b := by simp [cellsN]
theorem cellsN_snoc (a : List Nd) (f : Nd) : cellsN (a ++ [f]) = cellsN a ++ nodeC f := by simp [cellsN]
theorem cellsN_cons (f : Nd) (l : List Nd) : cellsN (f :: l) = nodeC f ++ cellsN l := by simp [cellsN]
theorem nodeC_length (f : Nd) : (nodeC f).length = 32 := by simp [nodeC]
theorem cellsN_length (l : List Nd) : (cellsN l).length = l.length * 32 := by
  induction l with
  | nil => rfl
  | cons x r ih => rw [cellsN_cons, List.length_append, nodeC_length, ih, List.length_cons]; omega
theorem cellsN_get : ∀ (l : List Nd) (j : Nat) (h : j < l.length) (i : Nat), i < 32 → (cellsN l)[j * 32 + i]? = some (bys l[j] i)
  | [], j, h, _, _ => by cases h
  | x :: r, 0, _, i, hi => by
    rw [cellsN_cons, Nat.zero_mul, Nat.zero_add, List.getElem?_append_left (by rw [nodeC_length]; exact hi)]
    simp [nodeC, hi]
  | x :: r, j + 1, h, i, hi => by
    have ih := cellsN_get r j (by simpa using h) i hi
    rw [cellsN_cons, List.getElem?_append_right (by rw [nodeC_length]; omega), nodeC_length, show (j + 1) * 32 + i - 32 = j * 32 + i by omega, ih]
    rfl
theorem nodeC_one (f : Nd) : ∀ u ∈ nodeC f, u.oneCell' = true := by
  intro u hu
  obtain ⟨i, _, rfl⟩ := List.mem_map.1 hu
  rfl
/-- The slice of l.length nodes at A holds l; all of it lies below block B. -/
def NRow (w : World) (B : Nat) (A : Option Addr) (l : List Nd) : Prop :=
  l ≠ [] → ∃ a, A = some a ∧ a.block < B ∧ ∀ j (h : j < l.length) i, i < 32 → w.cell? (a.add (j * 32 + i)) = some (bys l[j] i)
section
variable {w w' : World} {B B' : Nat} {A : Option Addr} {l : List Nd}
theorem NRow.nil (w : World) (B : Nat) (A : Option Addr) : NRow w B A [] := fun h => absurd rfl h
theorem NRow.same (h : NRow w B A l) (hk : ∀ p : Addr, p.block < B → w'.cell? p = w.cell? p) : NRow w' B A l := fun hn => by
  obtain ⟨a, e, hb, hc⟩ := h hn
  exact ⟨a, e, hb, fun j hj i hi => (hk _ (by rw [addr_add_block]; exact hb)).trans (hc j hj i hi)⟩
theorem NRow.wide (h : NRow w B A l) (hB : B ≤ B') : NRow w B' A l := fun hn => by
  obtain ⟨a, e, hb, hc⟩ := h hn
  exact ⟨a, e, Nat.lt_of_lt_of_le hb hB, hc⟩
theorem NRow.below (h : NRow w B A l) (hb : Below B w w') : NRow w' B A l := h.same fun _ hp => hb.cell hp
theorem NRow.at {k : Nat} (h : NRow w B A l) (hk : k < l.length) : ∃ a p, A = some a ∧ a.add (k * 32) = p ∧ p.block < B ∧ ∀ i, i < 32 → w.cell? (p.add i) = some (bys l[k] i) := by
  obtain ⟨a, e, hb, hc⟩ := h (fun hn => by subst hn; cases hk)
  refine ⟨a, _, e, rfl, by rw [addr_add_block]; exact hb, fun i hi => ?_⟩
  have h2 := hc k hk i hi
  rw [← addr_add2] at h2
  exact h2
end
/-- A row of the call's own with the nodes l. -/
def OwnN (w : World) (base : Nat) (v : Value) (l : List Nd) : Prop := w.ownsRow base 29 32 v l.length (cellsN l)
theorem OwnN.row {w : World} {base : Nat} {v : Value} {l : List Nd} (h : OwnN w base v l) : ∃ A c, v = .slice A l.length c ∧ l.length ≤ c ∧ NRow w w.heap.size A l := by
  rcases h.2 with ⟨rfl, h0⟩ | ⟨g, cap, cur, rfl, _, hh, hnc, hr⟩
  · have : l = [] := List.eq_nil_of_length_eq_zero h0
    subst this
    exact ⟨none, 0, rfl, Nat.le_refl _, NRow.nil _ _ _⟩
  · refine ⟨_, cap, rfl, hnc, fun _ => ⟨_, rfl, (Array.getElem?_eq_some_iff.1 hh).1, fun j hj i hi => ?_⟩⟩
    obtain ⟨q1, e1⟩ := List.getElem?_eq_some_iff.1 (cellsN_get l j hj i hi)
    exact (h.cells (g := g) rfl (j * 32 + i) _ (List.getElem?_eq_getElem q1)).trans (by rw [e1])
theorem OwnN.low {w : World} {base base' : Nat} {v : Value} {l : List Nd} (h : OwnN w base v l) (hb : base' ≤ base) : OwnN w base' v l := by
  refine ⟨h.1, ?_⟩
  rcases h.2 with h2 | ⟨g, cap, cur, hv, hg, r⟩
  · exact Or.inl h2
  · exact Or.inr ⟨g, cap, cur, hv, Nat.le_trans hb hg, r⟩
theorem ownsN_below {w w' : World} {base size n : Nat} {e : TypeId} {v : Value} {xs : List Value} (h : w.ownsRow base e size v n xs) (hb : Below w.heap.size w w') : w'.ownsRow base e size v n xs := by
  refine ⟨h.1, ?_⟩
  rcases h.2 with h2 | ⟨g, cap, cur, hv, hg, hh, r⟩
  · exact Or.inl h2
  · exact Or.inr ⟨g, cap, cur, hv, hg, (hb.block g (Array.getElem?_eq_some_iff.1 hh).1).trans hh, r⟩
theorem OwnN.below {w w' : World} {base : Nat} {v : Value} {l : List Nd} (h : OwnN w base v l) (hb : Below w.heap.size w w') : OwnN w' base v l := ownsN_below h hb
theorem infoN : (Try.prog.info? 29).map (fun i => (i.zero, i.size, i.bytes)) = some (some (.agg (vec 32 (bys zb))), 32, 32) := by kernel_rfl
set_option maxRecDepth 100000 in
/-- []api.Node{x}: a new block. -/
theorem build1 (f : Nd) (w : World) : (Instr.buildSlice 42 1 #[(0, .agg (vec 32 (bys f)))]).run Try.prog w = .ok (.slice (some ⟨w.heap.size, 0, none⟩) 1 1) (w.alloc (.cells (vec 32 (bys f)) 29)) := by
  obtain ⟨i0, hi, hz0, hz1, hz2⟩ := info_parts infoN
  refine run_buildSlice (P := Try.prog) w 42 29 1 _ _ i0 (.agg (vec 32 (bys zb))) Try.underlying42 hi hz0 (by rw [hz1]; decide) (by rw [hz1]; decide) ?_
  rw [hz1]
  kernel_rfl
theorem ow_build1 {o : Oper} {a : Act} {w : World} {K : Act → World → Prop} {Q : Exit → Act → World → Prop} (x : Operand) (ho : o.op = .buildSlice 42 1 #[(0, x)]) (f : Nd) (hx : a.eval x = .agg (vec 32 (bys f)))
    (h : K (a.put o.dst (.slice (some ⟨w.heap.size, 0, none⟩) 1 1)) (w.alloc (.cells (vec 32 (bys f)) 29))) : o.wp Try.prog a w K Q := by
  unfold Oper.wp execOp
  have e : (#[(0, x)].map fun (i, x) => (i, a.eval x)) = #[(0, .agg (vec 32 (bys f)))] := by simp [hx]
  simp only [ho, Sem.run_bind, e, build1 f w, Result.andThen_ok, Sem.run_pure]
  exact h
theorem node_cells_new {W : World} {f : Nd} {g : Nat} {t : TypeId} (h : Arr W g t 32 (bys f)) : ∀ j u, (nodeC f)[j]? = some u → W.cell? ((⟨g, 0, none⟩ : Addr).add j) = some u := by
  intro j u hj
  have hlt : j < 32 := by
    have := (List.getElem?_eq_some_iff.1 hj).1
    rwa [nodeC_length] at this
  have hadd : (⟨g, 0, none⟩ : Addr).add j = ⟨g, j, none⟩ := by unfold Addr.add; split <;> simp_all
  rw [hadd, h.cell hlt, ← hj]
  simp [nodeC, hlt]
/-- append(own, x) -/
theorem app_own {w : World} {base : Nat} {v : Value} {n : Nat} {xs : List Value} {g : Nat} {t : TypeId} {f : Nd} (hown : w.ownsRow base 29 32 v n xs) (h : Arr w g t 32 (bys f)) (hn : n ≤ 1000000) (hb : base ≤ w.heap.size) (ty : TypeId) :
    ∃ v' w', (Builtin.append_ #[42, 42] ty #[v, .slice (some ⟨g, 0, none⟩) 1 1]).run Try.prog w = .ok v' w' ∧ w'.ownsRow base 29 32 v' (n + 1) (xs ++ nodeC f) ∧ w.grownBy w' v.ownBlock := by
  obtain ⟨i0, hi, hz0, hz1, hz2⟩ := info_parts infoN
  obtain ⟨v', w', hr, h1, h2, _⟩ := run_append_own (P := Try.prog) w base 42 ty 29 i0 (.agg (vec 32 (bys zb))) 32 32 Try.underlying42 hi hz0 hz1 hz2 (vec_size _ _) (by decide) v n xs hown ⟨g, 0, none⟩ 1 1 (nodeC f) (by rw [nodeC_length])
    (node_cells_new h) (nodeC_one f) (by unfold maxLen; omega) (by omega) hb
  exact ⟨v', w', hr, h1, h2⟩
section
variable {P : Program} {w : World} {o : Oper} {a : Act} {n : Nat} {f : Nat → Value}
theorem run_load_p {p : Addr} {ty : TypeId} {d : TypeDesc} (h : ∀ i, i < n → w.cell? (p.add i) = some (f i)) (hu : P.underlying ty = some d)
    (hd : (match d with | .struct _ | .array _ _ => true | _ => false) = true) (hi : (P.info? ty).map (·.size) = some n) :
    (loadVar ty p).run P w = .ok (.agg (vec n f)) w := by
  have hl : (loadCells p (vec n f).toList.length).run P w = .ok (vec n f).toList.toArray w :=
    run_loadCells_list (P := P) w p (vec n f).toList (fun j v hv => by
      have hj : j < n := by
        have := (List.getElem?_eq_some_iff.1 hv).1
        simpa [vec] using this
      have hv2 : (vec n f)[j]? = some v := by simpa using hv
      rw [vec_at n f j hj] at hv2
      rw [h j hj, hv2])
  cases hq : P.info? ty with
  | none => simp [hq] at hi
  | some i =>
    have hs : i.size = n := by simpa [hq] using hi
    have hagg : (isAgg ty).run P w = .ok true w := by
      unfold isAgg
      rw [Sem.run_bind, run_underlying hu w]
      cases d <;> simp_all
    have hz : (vec n f).size = n := vec_size n f
    simp only [Array.length_toList, Array.toArray_toList] at hl
    rw [hz] at hl
    simp [loadVar, Sem.run_bind, hagg, sizeOf, typeInfo, hq, hs, hl]
theorem exec_load_p (ty : TypeId) (x : Operand) (ho : o.op = .load ty x) (p : Addr) (hx : a.eval x = .pointer (some p)) (v : Value)
    (hl : (loadVar ty p).run P w = .ok v w) : (execOp a.eval o).run P w = .ok (.value v) w := by
  unfold execOp
  simp only [ho, hx, Instr.loadAt, Instr.sureAddr, Sem.run_bind, Sem.run_pure, Result.andThen_ok, hl]
end
theorem load_p {w : World} {p : Addr} {f : Nd} (h : ∀ i, i < 32 → w.cell? (p.add i) = some (bys f i)) : (loadVar 29 p).run Try.prog w = .ok (.agg (vec 32 (bys f))) w :=
  run_load_p h Try.underlying29 rfl info26
end Go.Proofs.Ytfeiplaiekbdkaa
