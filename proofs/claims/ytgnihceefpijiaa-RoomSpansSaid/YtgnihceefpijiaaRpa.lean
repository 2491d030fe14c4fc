/- Rows of parts: one more in front, one row behind another; slices of them. -/
import Derived.Test.YtgnihceefpijiaaWr
import Derived.ArgAppend
namespace Go.Proofs.Ytgnihceefpijiaa
open Go.RowKit

abbrev OwnM (w : World) (base : Nat) (v : Value) (l : List Mp) : Prop := OwnE 39 5 mpE w base v l
theorem info_map : (Try.prog.info? 39).map (fun i => (i.zero, i.size, i.bytes)) = some (some (.agg (vec 5 (mpE zMp))), 5, 40) := by kernel_rfl
set_option maxRecDepth 100000 in
theorem build_map (x : Mp) (w : World) : (Instr.buildSlice 29 1 #[(0, .agg (vec 5 (mpE x)))]).run Try.prog w = .ok (.slice (some ⟨w.heap.size, 0, none⟩) 1 1) (w.alloc (.cells (vec 5 (mpE x)) 39)) := by
  obtain ⟨i0, hi, hz0, hz1, hz2⟩ := info_parts info_map
  refine run_buildSlice (P := Try.prog) w 29 39 1 _ _ i0 (.agg (vec 5 (mpE zMp))) Try.underlying29 hi hz0 (by rw [hz1]; decide) (by rw [hz1]; decide) ?_
  rw [hz1]
  kernel_rfl
theorem own_map (x : Mp) (w : World) : OwnM (w.alloc (.cells (vec 5 (mpE x)) 39)) w.heap.size (.slice (some ⟨w.heap.size, 0, none⟩) 1 1) [x] := by
  have h := World.ownsRow_lit (base := w.heap.size) (e := 39) (size := 5) w (vec 5 (mpE x)) 1 (Nat.le_refl _) (by decide) (by rw [vec_size])
  unfold OwnM OwnE
  have e : (vec 5 (mpE x)).toList = cellsE 5 mpE [x] := by rw [elC_vec]; simp [cellsE]
  rw [e] at h
  exact h
/-- The cells of a row that isn't empty, one by one. -/
theorem RowE.flat {w : World} {B : Nat} {a : Addr} {l : List Mp} (h : RowE 5 mpE w B (some a) l) (hne : l ≠ []) : ∀ j u, (cellsE 5 mpE l)[j]? = some u → w.cell? (a.add j) = some u := by
  intro j u hu
  obtain ⟨a', e, -, hc⟩ := h hne
  injection e with e
  subst e
  have hl : j < l.length * 5 := by
    have := (List.getElem?_eq_some_iff.1 hu).1
    rwa [cellsE_length] at this
  have h1 : j / 5 < l.length := by omega
  have h2 := cellsE_get (n := 5) (enc := mpE) l (j / 5) h1 (j % 5) (by omega)
  rw [show j / 5 * 5 + j % 5 = j by omega] at h2
  have h3 := hc (j / 5) h1 (j % 5) (by omega)
  rw [show j / 5 * 5 + j % 5 = j by omega] at h3
  rw [h3]
  exact h2.symm.trans hu
theorem ow_bsM {o : Oper} {a : Act} {w w' : World} {K : Act → World → Prop} {Q : Exit → Act → World → Prop} (t : TypeId) (x : Operand) (ho : o.op = .buildSlice t 1 #[(0, x)]) (v0 : Value) (hy : a.eval x = v0) {v : Value} (hr : (Instr.buildSlice t 1 #[(0, v0)]).run Try.prog w = .ok v w') (h : K (a.put o.dst v) w') : o.wp Try.prog a w K Q := by
  unfold Oper.wp execOp
  subst hy
  simp only [ho, Sem.run_bind, List.map_toArray, List.map_cons, List.map_nil, hr, Result.andThen_ok, Sem.run_pure]
  exact h
theorem ow_app {P : Program} {w w' : World} {o : Oper} {a : Act} {K : Act → World → Prop} {Q : Exit → Act → World → Prop} (s x : Operand) (t : TypeId) (ho : o.op = .call { callee := .builtin .append, args := #[s, x], argTypes := #[t, t] }) (v u : Value) (hs : a.eval s = v) (hx : a.eval x = u) {v' : Value}
    (hr : (Builtin.append_ #[t, t] o.type #[v, u]).run P w = .ok v' w') (h : K (a.put o.dst v') w') : o.wp P a w K Q := by
  unfold Oper.wp execOp
  simp only [ho, resolve, invoke, builtin, Sem.run_bind, Sem.run_pure, Result.andThen_ok, List.map_toArray, List.map_cons, List.map_nil, hs, hx, hr]
  exact h
/-- Own parts, and others behind them. -/
theorem app_maps {w : World} {base : Nat} {v : Value} {l k : List Mp} {a : Addr} {c B : Nat} (hown : OwnM w base v l) (hb : base ≤ w.heap.size) (hl : l.length ≤ 100000) (hk : k.length ≤ 100000) (hr : RowE 5 mpE w B (some a) k) (ty : TypeId) :
    ∃ v' w', (Builtin.append_ #[29, 29] ty #[v, .slice (some a) k.length c]).run Try.prog w = .ok v' w' ∧ OwnM w' base v' (l ++ k) ∧ Below base w w' := by
  obtain ⟨i0, hi, hz0, hz1, hz2⟩ := info_parts info_map
  obtain ⟨v', w', hrun, h2, h3, -, -⟩ := run_append_own_at (P := Try.prog) w base 29 ty 39 i0 (.agg (vec 5 (mpE zMp))) 5 40 Try.underlying29 hi hz0 hz1 hz2 (vec_size _ _) (by decide) v l.length (cellsE 5 mpE l) hown a k.length c (cellsE 5 mpE k) (cellsE_length _) (fun j u hu => by
    by_cases hne : k = []
    · subst hne; cases hu
    · exact hr.flat hne j u hu) (cellsE_one (fun x i hi => mpE_one x 5 i hi) k) (by unfold maxLen; omega) (by omega) hb
  refine ⟨v', w', hrun, ?_, (Below.refl _ _).grown h3 hb fun g hg => ?_⟩
  · unfold OwnM OwnE
    rw [cellsE_append, List.length_append]
    exact h2
  · obtain ⟨_, _, _, _, _, hq⟩ := hown.form
    exact (hq g hg).1
/-- Parts behind a full slice of others: a new row. -/
theorem app_full {w : World} {l k : List Mp} {b a : Addr} {c B B2 : Nat} (hl : l.length ≤ 100000) (hk : k.length ≤ 100000) (hk0 : k ≠ []) (h1 : RowE 5 mpE w B (some b) l) (hr : RowE 5 mpE w B2 (some a) k) (ty : TypeId) :
    ∃ v' w', (Builtin.append_ #[29, 29] ty #[.slice (some b) l.length l.length, .slice (some a) k.length c]).run Try.prog w = .ok v' w' ∧ OwnM w' w.heap.size v' (l ++ k) ∧ Below w.heap.size w w' := by
  obtain ⟨i0, hi, hz0, hz1, hz2⟩ := info_parts info_map
  have hkl : 0 < k.length := List.length_pos_iff.2 hk0
  obtain ⟨v', w', hrun, h2, h3⟩ := run_append_arg_grows (P := Try.prog) w 29 ty 39 i0 (.agg (vec 5 (mpE zMp))) 5 40 Try.underlying29 hi hz0 hz1 hz2 (vec_size _ _) (by decide) b l.length l.length (cellsE 5 mpE l) (cellsE_length _) (fun j u hu => by
    by_cases hne : l = []
    · subst hne; cases hu
    · exact h1.flat hne j u hu) a k.length c (cellsE 5 mpE k) (cellsE_length _) (hr.flat hk0) (by omega) (by unfold maxLen; omega) (by omega)
  refine ⟨v', w', hrun, ?_, (Below.refl _ _).grown h3 (Nat.le_refl _) fun g hg => by cases hg⟩
  unfold OwnM OwnE
  rw [cellsE_append, List.length_append]
  exact h2
end Go.Proofs.Ytgnihceefpijiaa
