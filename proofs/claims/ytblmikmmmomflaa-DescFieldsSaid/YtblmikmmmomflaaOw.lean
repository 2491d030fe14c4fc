/- Rows of the call's own that grow by one element; loads at any place; slices that are built. -/
import Derived.Test.YtblmikmmmomflaaFb
namespace Go.Proofs.Ytblmikmmmomflaa
open Go.RowKit

def appS (ts : Array TypeId) (ty : TypeId) (vs : Array Value) : Sem Value := Builtin.append_ ts ty vs
theorem builtin_appS (ats : Array TypeId) (ty : TypeId) (cs : Array Bool) (args : Array Value) : builtin .append ats ty cs args = (do pure (.value (← appS ats ty args))) := rfl
section
variable {α : Type} {n : Nat} {enc : α → Nat → Value} {w w' : World} {base : Nat} {t : TypeId} {v : Value} {l : List α}
/-- A row that is the call's own. -/
def OwnE (t : TypeId) (n : Nat) (enc : α → Nat → Value) (w : World) (base : Nat) (v : Value) (l : List α) : Prop := w.ownsRow base t n v l.length (cellsE n enc l)
theorem OwnE.nil (w : World) (base : Nat) : OwnE t n enc w base (.slice none 0 0) [] := World.ownsRow_nil _ _ _ _
theorem OwnE.save {g : Nat} (h : OwnE t n enc w base v l) (hs : Save g w w') (hg : g < base) : OwnE t n enc w' base v l := by
  refine ⟨h.1, ?_⟩
  rcases h.2 with h2 | ⟨k, cap, cur, hv, hk, hh, r⟩
  · exact Or.inl h2
  · exact Or.inr ⟨k, cap, cur, hv, hk, (hs.block k (Array.getElem?_eq_some_iff.1 hh).1 (by omega)).trans hh, r⟩
theorem OwnE.on {m : Nat} (h : OwnE t n enc w base v l) (hs : Below m w w') (hm : w.heap.size ≤ m) : OwnE t n enc w' base v l := by
  refine ⟨h.1, ?_⟩
  rcases h.2 with h2 | ⟨k, cap, cur, hv, hk, hh, r⟩
  · exact Or.inl h2
  · exact Or.inr ⟨k, cap, cur, hv, hk, (hs.block k (Nat.lt_of_lt_of_le (Array.getElem?_eq_some_iff.1 hh).1 hm)).trans hh, r⟩
theorem OwnE.low {base' : Nat} (h : OwnE t n enc w base v l) (hb : base' ≤ base) : OwnE t n enc w base' v l := by
  refine ⟨h.1, ?_⟩
  rcases h.2 with h2 | ⟨g, cap, cur, hv, hg, r⟩
  · exact Or.inl h2
  · exact Or.inr ⟨g, cap, cur, hv, Nat.le_trans hb hg, r⟩
/-- What such a row is: a slice whose cells lie in one block, which is new. -/
theorem OwnE.form (h : OwnE t n enc w base v l) : ∃ A c, v = .slice A l.length c ∧ l.length ≤ c ∧ RowE n enc w w.heap.size A l ∧ ∀ k, v.ownBlock = some k → base ≤ k ∧ k < w.heap.size := by
  rcases h.2 with ⟨rfl, h0⟩ | ⟨g, cap, cur, rfl, hg, hh, hnc, hr⟩
  · have : l = [] := List.eq_nil_of_length_eq_zero h0
    subst this
    exact ⟨none, 0, rfl, Nat.le_refl _, RowE.nil _ _ _, fun k hk => by simp [Value.ownBlock] at hk⟩
  · refine ⟨_, cap, rfl, hnc, fun _ => ⟨_, rfl, (Array.getElem?_eq_some_iff.1 hh).1, fun j hj i hi => ?_⟩, fun k hk => by
      simp [Value.ownBlock] at hk
      subst hk
      exact ⟨hg, (Array.getElem?_eq_some_iff.1 hh).1⟩⟩
    obtain ⟨q1, e1⟩ := List.getElem?_eq_some_iff.1 (cellsE_get (enc := enc) l j hj i hi)
    exact (h.cells (g := g) rfl (j * n + i) _ (List.getElem?_eq_getElem q1)).trans (by rw [e1])
theorem elC_new (w : World) (f : Nat → Value) (t : TypeId) (n : Nat) : ∀ j u, (elC n f)[j]? = some u → (w.alloc (.cells (vec n f) t)).cell? ((⟨w.heap.size, 0, none⟩ : Addr).add j) = some u := by
  intro j u hu
  have e : ((⟨w.heap.size, 0, none⟩ : Addr).add j) = ⟨w.heap.size, j, none⟩ := by unfold Addr.add; by_cases h0 : j = 0 <;> simp [h0]
  rw [e, cell_of_row _ w.heap.size j _ t (0, 0) (heap_alloc_new w _)]
  rw [← Array.getElem?_toList, elC_vec]
  exact hu
theorem app_E {P : Program} {ts : TypeId} {bytes : Nat} {z : Value} (hu : P.underlying ts = some (.slice t)) (hinfo : (P.info? t).map (fun i => (i.zero, i.size, i.bytes)) = some (some z, n, bytes)) (hz : z.cells.size = n) (hn : 0 < n)
    (h1 : ∀ (x : α) i, i < n → (enc x i).oneCell' = true) (x : α) (hown : OwnE t n enc w base v l) (hb : base ≤ w.heap.size) (hl : l.length ≤ 1000000) (hby : bytes ≤ 100000) (ty : TypeId) :
    ∃ B d w', (appS #[ts, ts] ty #[v, .slice (some ⟨w.heap.size, 0, none⟩) 1 1]).run P (w.alloc (.cells (vec n (enc x)) t)) = .ok (.slice B (l.length + 1) d) w' ∧ OwnE t n enc w' base (.slice B (l.length + 1) d) (l ++ [x]) ∧ Below base w w' := by
  obtain ⟨i0, hi, hz0, hz1, hz2⟩ := info_parts hinfo
  have hbz : (l.length + 1) * bytes ≤ 140737488355328 := Nat.le_trans (Nat.mul_le_mul (show l.length + 1 ≤ 1000001 by omega) hby) (by decide)
  obtain ⟨v', w', hr, h2, h3, _, h5⟩ := run_append_own_at (P := P) (w.alloc (.cells (vec n (enc x)) t)) base ts ty t i0 z n bytes hu hi hz0 hz1 hz2 hz hn v l.length (cellsE n enc l) (hown.on ((Below.refl _ _).alloc (Nat.le_refl _) _) (Nat.le_refl _))
    ⟨w.heap.size, 0, none⟩ 1 1 (elC n (enc x)) (by rw [elC_length, Nat.one_mul]) (elC_new w (enc x) t n) (by
      intro u hu
      obtain ⟨i, hi, rfl⟩ := List.mem_map.1 hu
      exact h1 x i (List.mem_range.1 hi)) (by unfold maxLen; omega) hbz (by simp; omega)
  have hown2 : OwnE t n enc w' base v' (l ++ [x]) := by
    unfold OwnE
    rw [cellsE_snoc, List.length_append]
    exact h2
  obtain ⟨B, d, e, _, _, hbk⟩ := hown2.form
  obtain ⟨_, _, _, _, _, hbv⟩ := hown.form
  rw [List.length_append, List.length_singleton] at e
  subst e
  exact ⟨B, d, w', hr, hown2, ((Below.refl base w).alloc hb _).grown h3 (by simp; omega) fun k hk => (hbv k hk).1⟩
end
section
variable {P : Program} {w : World} {ops : Array Oper} {rest : List Oper} {o : Oper} {a : Act} {Q : Exit → Act → World → Prop}
theorem run_load_q {n : Nat} {f : Nat → Value} {p : Addr} {ty : TypeId} {d : TypeDesc} (h : ∀ i, i < n → w.cell? (p.add i) = some (f i)) (hu : P.underlying ty = some d)
    (hd : (match d with | .struct _ | .array _ _ => true | _ => false) = true) (hi : (P.info? ty).map (·.size) = some n) :
    (loadVar ty p).run P w = .ok (.agg (vec n f)) w := by
  have hl : (loadCells p (vec n f).toList.length).run P w = .ok (vec n f).toList.toArray w :=
    run_loadCells_list (P := P) w p (vec n f).toList (fun j v hv => by
      have hj : j < n := by
        have := (List.getElem?_eq_some_iff.1 hv).1
        simpa [vec] using this
      have hv2 : (vec n f)[j]? = some v := by simpa using hv
      rw [vec_at n f j hj] at hv2
      rw [h j hj, hv2])
  cases hq : P.info? ty with
  | none => simp [hq] at hi
  | some i =>
    have hs : i.size = n := by simpa [hq] using hi
    have hagg : (isAgg ty).run P w = .ok true w := by
      unfold isAgg
      rw [Sem.run_bind, run_underlying hu w]
      cases d <;> simp_all
    have hz : (vec n f).size = n := vec_size n f
    simp only [Array.length_toList, Array.toArray_toList] at hl
    rw [hz] at hl
    simp [loadVar, Sem.run_bind, hagg, sizeOf, typeInfo, hq, hs, hl]
theorem exec_load_q (ty : TypeId) (x : Operand) (ho : o.op = .load ty x) (p : Addr) (hx : a.eval x = .pointer (some p)) (v : Value)
    (hl : (loadVar ty p).run P w = .ok v w) : (execOp a.eval o).run P w = .ok (.value v) w := by
  unfold execOp
  simp only [ho, hx, Instr.loadAt, Instr.sureAddr, Sem.run_bind, Sem.run_pure, Result.andThen_ok, hl]
theorem wl_load_q (hgd : o.guard = none) (ty : TypeId) (x : Operand) (ho : o.op = .load ty x) (p : Addr) (hx : a.eval x = .pointer (some p)) (v : Value)
    (hl : (loadVar ty p).run P w = .ok v w) (h : wpList P ops Q rest (a.put o.dst v) w) : wpList P ops Q (o :: rest) a w :=
  wpList_plain hgd fun _ hK => by
    unfold Oper.wp
    rw [exec_load_q ty x ho p hx v hl]
    exact hK _ _ h
end
section
variable {P : Program} {w w' : World} {ops : Array Oper} {rest : List Oper} {o : Oper} {a : Act} {Q : Exit → Act → World → Prop}
theorem wl_bs1 (hg : o.guard = none) {t : TypeId} {n : Nat} (y : Operand) (ho : o.op = .buildSlice t n #[(0, y)]) (v0 : Value) (hy : a.eval y = v0) {v : Value} (hr : (Instr.buildSlice t n #[(0, v0)]).run P w = .ok v w')
    (h : wpList P ops Q rest (a.put o.dst v) w') : wpList P ops Q (o :: rest) a w :=
  wpList_plain hg fun K hK => by
    unfold Oper.wp execOp
    subst hy
    simp only [ho, Sem.run_bind, List.map_toArray, List.map_cons, List.map_nil, hr, Result.andThen_ok, Sem.run_pure]
    exact hK _ _ h
end
theorem ow_of_run {o : Oper} {a : Act} {w : World} {K : Act → World → Prop} {Q : Exit → Act → World → Prop} {t : TypeId} {n : Nat} {parts : Array (Nat × Operand)} (ho : o.op = .buildSlice t n parts) {vs : Array (Nat × Value)} (hv : (parts.map fun (i, x) => (i, a.eval x)) = vs) {v : Value} {w' : World} (hr : (Instr.buildSlice t n vs).run Try.prog w = .ok v w') (h : K (a.put o.dst v) w') : o.wp Try.prog a w K Q := by
  unfold Oper.wp execOp
  subst hv
  simp only [ho, Sem.run_bind, hr, Result.andThen_ok, Sem.run_pure]
  exact h
theorem add_atM (b o i : Nat) : ((⟨b, o, none⟩ : Addr).add i) = ⟨b, o + i, none⟩ := by simp [Addr.add]
end Go.Proofs.Ytblmikmmmomflaa
