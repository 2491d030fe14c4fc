/- list, of guests. -/
import Derived.Test.YtgnihceefpijiaaGw
namespace Go.Proofs.Ytgnihceefpijiaa
open Go.RowKit
attribute [local go_sem ↓ high] builtin_appS
theorem app_E1 {α : Type} {n : Nat} {enc : α → Nat → Value} {w : World} {base : Nat} {t : TypeId} {v : Value} {l : List α} {P : Program} {ts : TypeId} {bytes : Nat} {z : Value} (hu : P.underlying ts = some (.slice t)) (hinfo : (P.info? t).map (fun i => (i.zero, i.size, i.bytes)) = some (some z, n, bytes)) (hz : z.cells.size = n) (hn : 0 < n)
    (x : α) (h1 : ∀ i, i < n → (enc x i).oneCell' = true) (hown : OwnE t n enc w base v l) (hb : base ≤ w.heap.size) (hl : l.length ≤ 1000000) (hby : bytes ≤ 100000) (ty : TypeId) :
    ∃ B d w', (appS #[ts, ts] ty #[v, .slice (some ⟨w.heap.size, 0, none⟩) 1 1]).run P (w.alloc (.cells (vec n (enc x)) t)) = .ok (.slice B (l.length + 1) d) w' ∧ OwnE t n enc w' base (.slice B (l.length + 1) d) (l ++ [x]) ∧ Below base w w' ∧ w.heap.size ≤ w'.heap.size ∧ (∀ k, k < w.heap.size → some k ≠ v.ownBlock → w'.heap[k]? = w.heap[k]?) ∧ ((Value.slice B (l.length + 1) d).ownBlock = v.ownBlock ∨ (Value.slice B (l.length + 1) d).ownBlock = some (w.heap.size + 1)) := by
  obtain ⟨i0, hi, hz0, hz1, hz2⟩ := info_parts hinfo
  have hbz : (l.length + 1) * bytes ≤ 140737488355328 := Nat.le_trans (Nat.mul_le_mul (show l.length + 1 ≤ 1000001 by omega) hby) (by decide)
  obtain ⟨v', w', hr, h2, h3, _, h5⟩ := run_append_own_at (P := P) (w.alloc (.cells (vec n (enc x)) t)) base ts ty t i0 z n bytes hu hi hz0 hz1 hz2 hz hn v l.length (cellsE n enc l) (hown.on ((Below.refl _ _).alloc (Nat.le_refl _) _) (Nat.le_refl _))
    ⟨w.heap.size, 0, none⟩ 1 1 (elC n (enc x)) (by rw [elC_length, Nat.one_mul]) (elC_new w (enc x) t n) (by
      intro u hu
      obtain ⟨i, hi, rfl⟩ := List.mem_map.1 hu
      exact h1 i (List.mem_range.1 hi)) (by unfold maxLen; omega) hbz (by simp; omega)
  have hown2 : OwnE t n enc w' base v' (l ++ [x]) := by
    unfold OwnE
    rw [cellsE_snoc, List.length_append]
    exact h2
  obtain ⟨B, d, e, _, _, hbk⟩ := hown2.form
  obtain ⟨_, _, _, _, _, hbv⟩ := hown.form
  rw [List.length_append, List.length_singleton] at e
  subst e
  have hbl : Below base w w' := ((Below.refl base w).alloc hb _).grown h3 (by simp; omega) fun k hk => (hbv k hk).1
  exact ⟨B, d, w', hr, hown2, hbl, hbl.size, fun k hk hne => (h3.block k (by simp; omega) hne).trans (Below.heap_alloc w _ k hk), h5.imp id fun h => by rw [h]; simp⟩
/-- A row that is another block than the one that grows. -/
theorem OwnE.grown {α : Type} {n : Nat} {enc : α → Nat → Value} {w w' : World} {base : Nat} {t : TypeId} {v : Value} {l : List α} (h : OwnE t n enc w base v l) {o : Option Nat} (hs : ∀ k, k < w.heap.size → some k ≠ o → w'.heap[k]? = w.heap[k]?) (ho : v.ownBlock = none ∨ v.ownBlock ≠ o) : OwnE t n enc w' base v l := by
  refine ⟨h.1, ?_⟩
  rcases h.2 with h2 | ⟨k, cap, cur, rfl, hk, hh, r⟩
  · exact Or.inl h2
  · refine Or.inr ⟨k, cap, cur, rfl, hk, (hs k (Array.getElem?_eq_some_iff.1 hh).1 fun e => ?_).trans hh, r⟩
    rcases ho with h0 | h0
    · simp [Value.ownBlock] at h0
    · exact h0 (by simp [Value.ownBlock]; exact e)
/-- Where the lists of a guest lie: not in the block of v. -/
structure Apart (y : GV) (v : Value) : Prop where
  w : ∀ k, y.wv.ownBlock = some k → v.ownBlock ≠ some k
  d : ∀ k, y.dv.ownBlock = some k → v.ownBlock ≠ some k
  i : ∀ k, y.iv.ownBlock = some k → v.ownBlock ≠ some k
  s : ∀ k, y.sv.ownBlock = some k → v.ownBlock ≠ some k
theorem OwnE.bnd {α : Type} {n : Nat} {enc : α → Nat → Value} {w : World} {base : Nat} {t : TypeId} {v : Value} {l : List α} (h : OwnE t n enc w base v l) {k : Nat} (hk : v.ownBlock = some k) : base ≤ k ∧ k < w.heap.size := by
  obtain ⟨_, _, _, _, _, hb⟩ := h.form
  exact hb k hk
theorem OwnE.growN {α : Type} {n : Nat} {enc : α → Nat → Value} {w w' : World} {base : Nat} {t : TypeId} {v : Value} {l : List α} (h : OwnE t n enc w base v l) {o : Option Nat} (hs : ∀ k, k < w.heap.size → some k ≠ o → w'.heap[k]? = w.heap[k]?) (ho : ∀ k, v.ownBlock = some k → o ≠ some k) : OwnE t n enc w' base v l := by
  refine h.grown hs ?_
  cases hv : v.ownBlock with
  | none => exact .inl rfl
  | some k => exact .inr fun e => ho k hv e.symm
theorem GOwn.growN {w w' : World} {base : Nat} {y : GV} {v : Value} (h : GOwn w base y) (hs : ∀ k, k < w.heap.size → some k ≠ v.ownBlock → w'.heap[k]? = w.heap[k]?) (ha : Apart y v) : GOwn w' base y :=
  ⟨h.wi.growN hs ha.w, h.de.growN hs ha.d, h.ir.growN hs ha.i, h.st.growN hs ha.s⟩
theorem Apart.next {w : World} {base m : Nat} {y : GV} {v v' : Value} (ha : Apart y v) (h : GOwn w base y) (hm : w.heap.size ≤ m) (ho : v'.ownBlock = v.ownBlock ∨ v'.ownBlock = some m) : Apart y v' := by
  refine ⟨fun k hk => ?_, fun k hk => ?_, fun k hk => ?_, fun k hk => ?_⟩
  · rcases ho with e | e <;> rw [e]
    · exact ha.w k hk
    · intro e2; injection e2 with e2; have := (h.wi.bnd hk).2; omega
  · rcases ho with e | e <;> rw [e]
    · exact ha.d k hk
    · intro e2; injection e2 with e2; have := (h.de.bnd hk).2; omega
  · rcases ho with e | e <;> rw [e]
    · exact ha.i k hk
    · intro e2; injection e2 with e2; have := (h.ir.bnd hk).2; omega
  · rcases ho with e | e <;> rw [e]
    · exact ha.s k hk
    · intro e2; injection e2 with e2; have := (h.st.bnd hk).2; omega
theorem Apart.new {w : World} {m : Nat} {y : GV} {v : Value} (h : GOwn w m y) (hv : ∀ k, v.ownBlock = some k → k < m) : Apart y v := by
  refine ⟨fun k hk e => ?_, fun k hk e => ?_, fun k hk e => ?_, fun k hk e => ?_⟩
  · have := hv k e; have := (h.wi.bnd hk).1; omega
  · have := hv k e; have := (h.de.bnd hk).1; omega
  · have := hv k e; have := (h.ir.bnd hk).1; omega
  · have := hv k e; have := (h.st.bnd hk).1; omega
/-- Guests in a row, and where each guest's lists lie. -/
def guestsV (base : Nat) (w : World) (l : List Gs) (v : Value) : Prop := ∃ ys : List GV, ys.map GV.g = l ∧ (∀ y ∈ ys, y.g.key.length = 68) ∧ OwnE 61 79 guestE w base v ys ∧ ∀ y ∈ ys, GOwn w base y ∧ Apart y v
theorem guestsV.nil (base : Nat) (w : World) : guestsV base w [] (.slice none 0 0) := ⟨[], rfl, (fun _ h => by cases h), OwnE.nil _ _, (fun _ h => by cases h)⟩
theorem guestsV.save {base g : Nat} {w w' : World} {l : List Gs} {v : Value} (h : guestsV base w l v) (hs : Save g w w') (hg : g < base) : guestsV base w' l v := by
  obtain ⟨ys, h1, h2, h3, h4⟩ := h
  exact ⟨ys, h1, h2, h3.save hs hg, fun y hy => ⟨(h4 y hy).1.save hs hg, (h4 y hy).2⟩⟩
theorem guestsV.on {base m : Nat} {w w' : World} {l : List Gs} {v : Value} (h : guestsV base w l v) (hs : Below m w w') (hm : w.heap.size ≤ m) : guestsV base w' l v := by
  obtain ⟨ys, h1, h2, h3, h4⟩ := h
  exact ⟨ys, h1, h2, h3.on hs hm, fun y hy => ⟨(h4 y hy).1.on hs hm, (h4 y hy).2⟩⟩
theorem guestsV.form {base : Nat} {w : World} {l : List Gs} {v : Value} (h : guestsV base w l v) : ∃ A c, v = .slice A l.length c := by
  obtain ⟨ys, h1, h2, h3, h4⟩ := h
  obtain ⟨A, c, e, _⟩ := h3.form
  exact ⟨A, c, by rw [e, ← h1, List.length_map]⟩
theorem info_guest : (Try.prog.info? 61).map (fun i => (i.zero, i.size, i.bytes)) = some (some (.agg (vec 79 (guestE zGV))), 79, 216) := by kernel_rfl
set_option maxRecDepth 100000 in
theorem build_guest (x : GV) (w : World) : (Instr.buildSlice 23 1 #[(0, .agg (vec 79 (guestE x)))]).run Try.prog w = .ok (.slice (some ⟨w.heap.size, 0, none⟩) 1 1) (w.alloc (.cells (vec 79 (guestE x)) 61)) := by
  obtain ⟨i0, hi, hz0, hz1, hz2⟩ := info_parts info_guest
  refine run_buildSlice (P := Try.prog) w 23 61 1 _ _ i0 (.agg (vec 79 (guestE zGV))) Try.underlying23 hi hz0 (by rw [hz1]; decide) (by rw [hz1]; decide) ?_
  rw [hz1]
  kernel_rfl
/-- One guest more. -/
theorem guestsV.app {base : Nat} {w w1 : World} {g : Nat} {l : List Gs} {v : Value} {x : Gs} {y : GV} (h : guestsV base w l v) (hs : Save g w w1) (hg : g < base) (hb : base ≤ w.heap.size) (hl : l.length ≤ 1000) (hy : y.g = x) (hk : x.key.length = 68) (ho : GOwn w1 w.heap.size y) :
    ∃ B d w2, (appS #[23, 23] 23 #[v, .slice (some ⟨w1.heap.size, 0, none⟩) 1 1]).run Try.prog (w1.alloc (.cells (vec 79 (guestE y)) 61)) = .ok (.slice B (l.length + 1) d) w2 ∧ guestsV base w2 (l ++ [x]) (.slice B (l.length + 1) d) ∧ Below base w1 w2 := by
  obtain ⟨ys, h1, h2, h3, h4⟩ := h
  have hlen : ys.length = l.length := by rw [← h1, List.length_map]
  obtain ⟨B, d, w2, hr, h5, h6, h7, h8, h9⟩ := app_E1 (P := Try.prog) Try.underlying23 info_guest (vec_size _ _) (by decide) y (guestE_one y ho.one 79) (h3.save hs hg) (Nat.le_trans hb hs.size) (by omega) (by decide) 23
  rw [hlen] at hr h5 h9
  have hvb : ∀ k, v.ownBlock = some k → k < w.heap.size := fun k hk => (h3.bnd hk).2
  refine ⟨B, d, w2, hr, ⟨ys ++ [y], by rw [List.map_append, h1]; simp [hy], fun z hz => ?_, h5, fun z hz => ?_⟩, h6⟩
  · rcases List.mem_append.1 hz with hz | hz
    · exact h2 z hz
    · obtain rfl : z = y := by simpa using hz
      rw [hy]; exact hk
  · rcases List.mem_append.1 hz with hz | hz
    · have ho1 := (h4 z hz).1.save hs hg
      exact ⟨ho1.growN h8 (h4 z hz).2, (h4 z hz).2.next ho1 (Nat.le_succ _) h9⟩
    · obtain rfl : z = y := by simpa using hz
      have ha := Apart.new ho hvb
      exact ⟨(ho.growN h8 ha).low hb, ha.next ho (Nat.le_succ _) h9⟩
end Go.Proofs.Ytgnihceefpijiaa
