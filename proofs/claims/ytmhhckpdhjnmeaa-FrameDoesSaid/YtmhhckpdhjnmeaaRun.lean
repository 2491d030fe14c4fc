/- span.runs: along the borders. -/
import Derived.Test.YtmhhckpdhjnmeaaBord
namespace Go.Proofs.Ytmhhckpdhjnmeaa
open Go.RowKit Go.Shelf
attribute [local go_sem] Oper.semAt_some
attribute [local go_sem ↓ high] builtin_appS

/-! ### the plain fold, with sizes that wrap: for rising borders it is the other -/
def wsub (p f : Nat) : Nat := (p + TT - f) % TT
def stepW (must : Nat → Bool) (st : Nat × Bool × List Sp) (p : Nat) : Nat × Bool × List Sp :=
  (if must p && !st.2.1 then p else st.1, must p, if st.2.1 && !must p then st.2.2 ++ [(st.1, wsub p st.1)] else st.2.2)
def foldW (must : Nat → Bool) (bs : List Nat) : Nat × Bool × List Sp := bs.foldl (stepW must) (0, false, [])
theorem foldW_snoc (must : Nat → Bool) (bs : List Nat) (p : Nat) : foldW must (bs ++ [p]) = stepW must (foldW must bs) p := by simp [foldW]
theorem snoc_ind {α : Type} {C : List α → Prop} (h0 : C []) (h1 : ∀ l a, C l → C (l ++ [a])) (l : List α) : C l := by
  rw [← List.reverse_reverse l]
  induction l.reverse with
  | nil => exact h0
  | cons a r ih => rw [List.reverse_cons]; exact h1 _ _ ih
theorem foldW_from (must : Nat → Bool) (bs : List Nat) : (foldW must bs).1 = 0 ∨ (foldW must bs).1 ∈ bs := by
  refine snoc_ind (C := fun bs => (foldW must bs).1 = 0 ∨ (foldW must bs).1 ∈ bs) (.inl rfl) (fun bs p ih => ?_) bs
  · rw [foldW_snoc]
    unfold stepW
    by_cases h : (must p && !(foldW must bs).2.1) = true
    · rw [if_pos h]; exact .inr (by simp)
    · rw [if_neg h]
      rcases ih with ih | ih
      · exact .inl ih
      · exact .inr (by simp [ih])
theorem sub_mod (p f T : Nat) (h : f ≤ p) (hp : p < T) : (p + T - f) % T = p - f := by
  rw [show p + T - f = (p - f) + T by omega, Nat.add_mod_right, Nat.mod_eq_of_lt (by omega)]
theorem wsub_le (p f : Nat) (h : f ≤ p) (hp : p < TT) : wsub p f = p - f := sub_mod p f TT h hp
theorem step_eq (must : Nat → Bool) (st : Nat × Bool × List Sp) (p : Nat) (h : wsub p st.1 = p - st.1) : stepW must st p = stepS must st p := by
  unfold stepW stepS
  rw [h]
theorem foldW_eq (must : Nat → Bool) (bs : List Nat) (hp : bs.Pairwise (· < ·)) (hl : ∀ b ∈ bs, b < TT) : foldW must bs = foldS must bs := by
  revert hp hl
  refine snoc_ind (C := fun bs => bs.Pairwise (· < ·) → (∀ b ∈ bs, b < TT) → foldW must bs = foldS must bs) (fun _ _ => by unfold foldW foldS; rw [List.foldl_nil, List.foldl_nil]) (fun bs p ih hp hl => ?_) bs
  · obtain ⟨h1, _, h3⟩ := List.pairwise_append.1 hp
    have ih' := ih h1 (fun b hb => hl b (by simp [hb]))
    have hle : (foldW must bs).1 ≤ p := by
      rcases foldW_from must bs with h | h
      · omega
      · have := h3 _ h p (by simp); omega
    have hpl := hl p (by simp)
    rw [foldW_snoc, foldS_snoc, step_eq must _ p (wsub_le p _ hle hpl), ih']
theorem foldW_len (must : Nat → Bool) (bs : List Nat) : (foldW must bs).2.2.length ≤ bs.length := by
  refine snoc_ind (C := fun bs => (foldW must bs).2.2.length ≤ bs.length) (by simp [foldW]) (fun bs p ih => ?_) bs
  · rw [foldW_snoc]
    unfold stepW
    simp only [List.length_append, List.length_singleton]
    split
    · rw [List.length_append]; simp; exact ih
    · omega
theorem foldW_lt (must : Nat → Bool) (bs : List Nat) (hl : ∀ b ∈ bs, b < TT) : (foldW must bs).1 < TT := by
  rcases foldW_from must bs with h | h
  · rw [h]; decide
  · exact hl _ h
theorem wrap_sub (p f : Nat) (hp : p < TT) (hf : f < TT) : IntKind.u64.wrap ((p : Int) - f) = (wsub p f : Nat) := by
  unfold wsub TT at *
  simp [IntKind.wrap, IntKind.bits, IntKind.signed]
  omega

theorem top_zero (w : World) : Calls Try.prog 46 #[.int .u64 0] w fun e w' => e = .returned (.slice (some ⟨w.heap.size, 0, none⟩) 2 2) ∧ w' = w.alloc (.cells #[.int .u64 0, .int .u64 9223372036854775808, .int .u64 9223372036854775808, .int .u64 9223372036854775808] 24) := by
  go_enter Try.func46, Try.ntmps46
  go_wp2
  go_ret
  exact ⟨rfl, rfl⟩
theorem top_some (f : Nat) (h0 : f ≠ 0) (hf : f < TT) (w : World) : Calls Try.prog 46 #[.int .u64 (f : Int)] w fun e w' => e = .returned (.slice (some ⟨w.heap.size, 0, none⟩) 1 1) ∧ w' = w.alloc (.cells #[.int .u64 (f : Int), .int .u64 ((TT - f : Nat) : Int)] 24) := by
  obtain ⟨y, hy⟩ : ∃ y : Int, y = (f : Int) := ⟨_, rfl⟩
  obtain ⟨z, hz⟩ : ∃ z : Int, z = ((TT - f : Nat) : Int) := ⟨_, rfl⟩
  rw [← hy, ← hz]
  have hy0 : ¬ y = 0 := by omega
  have w1 : IntKind.u64.wrap (18446744073709551615 - y) = 18446744073709551615 - y := by unfold TT at hf; simp [IntKind.wrap, IntKind.bits, IntKind.signed]; omega
  have w2 : IntKind.u64.wrap (18446744073709551615 - y + 1) = z := by unfold TT at hf hz; simp [IntKind.wrap, IntKind.bits, IntKind.signed]; omega
  clear hf hy hz h0
  go_enter Try.func46, Try.ntmps46
  go_wp2
  go_ret
  exact ⟨rfl, rfl⟩

/-- What a round of runs may lean on: the four boxes, the row, what was there. -/
def RunAt (w : World) (mv : Value) (must : Nat → Bool) (bs : List Nat) (W : World) : Prop :=
  (((Boxed W (w.heap.size + 1 + 1) 22 (.int .u64 ((foldW must bs).1 : Int)) ∧ Boxed W (w.heap.size + 1 + 1 + 1) 4 (.bool (foldW must bs).2.1)) ∧
    (∃ v, Boxed W (w.heap.size + 1) 46 v ∧ W.ownsRow w.heap.size 24 2 v (foldW must bs).2.2.length (cells2 (foldW must bs).2.2) ∧ True)) ∧
    Boxed W w.heap.size 43 mv) ∧ Below w.heap.size w W
theorem runAt_own (w : World) (mv : Value) (must : Nat → Bool) (B : Nat) (hB : w.heap.size ≤ B) : OwnFrom B (fun (pre : List N64) W => RunAt w mv must (nums pre) W) :=
  OwnFrom.and (OwnFrom.and (OwnFrom.and (OwnFrom.and (Own.from (boxed_own _ _ fun pre : List N64 => .int .u64 ((foldW must (nums pre)).1 : Int)) _) (Own.from (boxed_own _ _ fun pre : List N64 => .bool (foldW must (nums pre)).2.1) _))
    (Own.from (holdsRow_own w.heap.size (w.heap.size + 1) 46 24 2 (fun pre : List N64 => (foldW must (nums pre)).2.2.length) (fun pre => cells2 (foldW must (nums pre)).2.2) (fun _ _ => True)) _)) (Own.from (boxed_own _ _ fun _ : List N64 => mv) _)) (ownFrom_below (Nat.le_refl _) hB)
/-- An append of some spans onto a row of the call's own, as an equation. -/
theorem app2_run (w : World) (base : Nat) (v : Value) (l m : List Sp) (hown : w.ownsRow base 24 2 v l.length (cells2 l)) (hb : base ≤ w.heap.size) (hk : l.length + m.length ≤ 1000000) (ty : TypeId) (cs : Array Value) (hcs : cs.toList = cells2 m) :
    ∃ v' w', (appS #[46, 46] ty #[v, .slice (some ⟨w.heap.size, 0, none⟩) m.length m.length]).run Try.prog (w.alloc (.cells cs 24)) = .ok v' w' ∧
      w'.ownsRow base 24 2 v' (l ++ m).length (cells2 (l ++ m)) ∧ (w.alloc (.cells cs 24)).grownBy w' v.ownBlock := by
  obtain ⟨i0, hi, hz0, hz1, hz2⟩ := info_parts infoS
  have hnews : ∀ j u, (cells2 m)[j]? = some u → (w.alloc (.cells cs 24)).cell? ((⟨w.heap.size, 0, none⟩ : Addr).add j) = some u := by
    intro j u hu
    have e : ((⟨w.heap.size, 0, none⟩ : Addr).add j) = ⟨w.heap.size, j, none⟩ := by unfold Addr.add; by_cases h0 : j = 0 <;> simp [h0]
    rw [e, cell_of_row _ w.heap.size j cs 24 (0, 0) (heap_alloc_new w _)]
    rw [← hcs, Array.getElem?_toList] at hu
    exact hu
  obtain ⟨v', w', h1, h2, h3, _, _⟩ := run_append_own_at (P := Try.prog) (w.alloc (.cells cs 24)) base 46 ty 24 i0 (.agg #[.int .u64 0, .int .u64 0]) 2 16 Try.underlying46 hi hz0 hz1 hz2 rfl (by decide) v l.length (cells2 l) (hown.alloc _)
    ⟨w.heap.size, 0, none⟩ m.length m.length (cells2 m) (cells2_length m) hnews (cells2_one m) (by unfold maxLen; omega) (by omega) (by simp; omega)
  exact ⟨v', w', h1, by rw [cells2_append, List.length_append]; exact h2, h3⟩

section
variable {w W W' : World} {mv : Value} {must : Nat → Bool} {bs : List Nat} {p : Nat} {N0 B0 : Nat}
theorem nums_snoc (l : List N64) (x : N64) : nums (l ++ [x]) = nums l ++ [x.1] := by simp [nums]
theorem RunAt.below (h : RunAt w mv must bs W) (hd : Below W.heap.size W W') : RunAt w mv must bs W' := by
  obtain ⟨⟨⟨⟨h1, h2⟩, v, h3, h4, _⟩, h5⟩, h6⟩ := h
  refine ⟨⟨⟨⟨(hd.block _ h1.lt).trans h1, (hd.block _ h2.lt).trans h2⟩, v, (hd.block _ h3.lt).trans h3, ?_, trivial⟩, (hd.block _ h5.lt).trans h5⟩, h6.trans (hd.mono h6.size)⟩
  exact OwnS.below h4 hd
theorem keepsOthers_below (hd : Below W.heap.size W W') : KeepsOthers W W' := ⟨hd.size, fun k _ hk _ => (hd.block k (Array.getElem?_eq_some_iff.1 hk).1).trans hk⟩
theorem keeps_below (hd : Below W.heap.size W W') : Keeps N0 W W' := ⟨hd.size, fun k _ _ hk _ => (hd.block k (Array.getElem?_eq_some_iff.1 hk).1).trans hk⟩
theorem keeps_set (b : Nat) (hb : b < N0) (v : Value) : Keeps N0 W (W.setCell ⟨b, 0, none⟩ v) := ⟨by simp [World.setCell], fun k o hk ho _ => (Below.heap_setCell W _ v k (by show k ≠ b; omega)).trans ho⟩
theorem runAt_tf (h : RunAt w mv must bs W) (hm : must p = true) (ho : (foldW must bs).2.1 = false) :
    RunAt w mv must (bs ++ [p]) ((W.setCell ⟨w.heap.size + 1 + 1, 0, none⟩ (.int .u64 (p : Int))).setCell ⟨w.heap.size + 1 + 1 + 1, 0, none⟩ (.bool true)) := by
  have e : foldW must (bs ++ [p]) = (p, true, (foldW must bs).2.2) := by rw [foldW_snoc]; simp [stepW, hm, ho]
  obtain ⟨⟨⟨⟨h1, h2⟩, v, h3, h4, _⟩, h5⟩, h6⟩ := h
  unfold RunAt
  rw [e]
  have k4 : (W.setCell ⟨w.heap.size + 1 + 1, 0, none⟩ (.int .u64 (p : Int))).ownsRow w.heap.size 24 2 v (foldW must bs).2.2.length (cells2 (foldW must bs).2.2) := h4.kept (grownBy_setCell' _ _ _) (.inr (h1.not_row (by decide) h4).symm)
  refine ⟨⟨⟨⟨(h1.set _).other (by omega) _, (h2.other (by omega) _).set _⟩, v, (h3.other (by omega) _).other (by omega) _, ?_, trivial⟩, (h5.other (by omega) _).other (by omega) _⟩, ?_⟩
  · exact k4.kept (grownBy_setCell' _ _ _) (.inr ((h2.other (by omega) _).not_row (by decide) k4).symm)
  · exact (h6.setCell (p := ⟨w.heap.size + 1 + 1, 0, none⟩) (by show w.heap.size ≤ w.heap.size + 1 + 1; omega) _).setCell (p := ⟨w.heap.size + 1 + 1 + 1, 0, none⟩) (by show w.heap.size ≤ w.heap.size + 1 + 1 + 1; omega) _
theorem runAt_same (h : RunAt w mv must bs W) (hm : must p = (foldW must bs).2.1) :
    RunAt w mv must (bs ++ [p]) (W.setCell ⟨w.heap.size + 1 + 1 + 1, 0, none⟩ (.bool (foldW must bs).2.1)) := by
  have e : foldW must (bs ++ [p]) = ((foldW must bs).1, (foldW must bs).2.1, (foldW must bs).2.2) := by
    rw [foldW_snoc]
    cases ho : (foldW must bs).2.1 <;> simp [stepW, hm, ho]
  obtain ⟨⟨⟨⟨h1, h2⟩, v, h3, h4, _⟩, h5⟩, h6⟩ := h
  unfold RunAt
  rw [e]
  refine ⟨⟨⟨⟨h1.other (by omega) _, h2.set _⟩, v, h3.other (by omega) _, ?_, trivial⟩, h5.other (by omega) _⟩, ?_⟩
  · exact h4.kept (grownBy_setCell' _ _ _) (.inr (h2.not_row (by decide) h4).symm)
  · exact h6.setCell (p := ⟨w.heap.size + 1 + 1 + 1, 0, none⟩) (by show w.heap.size ≤ w.heap.size + 1 + 1 + 1; omega) _
/-- A box that is no row stays where a row of spans was appended to. -/
theorem Boxed.past {w1 : World} {B t n₀ k : Nat} {u v : Value} {xs : List Value} {tmp : Obj} (h : Boxed W B t u) (ht : t ≠ 24) (hrow : W.ownsRow n₀ 24 2 v k xs) (hgrow : (W.alloc tmp).grownBy w1 v.ownBlock) : Boxed w1 B t u :=
  (h.alloc tmp).kept hgrow (h.not_row ht hrow)
theorem runAt_ft {w1 : World} {v v' : Value} {tmp : Obj} (h : RunAt w mv must bs W) (hm : must p = false) (ho : (foldW must bs).2.1 = true)
    (hv : Boxed W (w.heap.size + 1) 46 v) (hrow : W.ownsRow w.heap.size 24 2 v (foldW must bs).2.2.length (cells2 (foldW must bs).2.2))
    (hown : w1.ownsRow w.heap.size 24 2 v' ((foldW must bs).2.2 ++ [((foldW must bs).1, wsub p (foldW must bs).1)]).length (cells2 ((foldW must bs).2.2 ++ [((foldW must bs).1, wsub p (foldW must bs).1)])))
    (hgrow : (W.alloc tmp).grownBy w1 v.ownBlock) (hN : w.heap.size + 1 + 1 + 1 < N0) :
    RunAt w mv must (bs ++ [p]) ((w1.setCell ⟨w.heap.size + 1, 0, none⟩ v').setCell ⟨w.heap.size + 1 + 1 + 1, 0, none⟩ (.bool false)) ∧
      KeepsOthers W ((w1.setCell ⟨w.heap.size + 1, 0, none⟩ v').setCell ⟨w.heap.size + 1 + 1 + 1, 0, none⟩ (.bool false)) ∧ Keeps N0 W ((w1.setCell ⟨w.heap.size + 1, 0, none⟩ v').setCell ⟨w.heap.size + 1 + 1 + 1, 0, none⟩ (.bool false)) := by
  have e : foldW must (bs ++ [p]) = ((foldW must bs).1, false, (foldW must bs).2.2 ++ [((foldW must bs).1, wsub p (foldW must bs).1)]) := by rw [foldW_snoc]; simp [stepW, hm, ho]
  obtain ⟨⟨⟨⟨h1, h2⟩, _, _, _, _⟩, h5⟩, h6⟩ := h
  obtain ⟨a1, a2, a3, a4, a5⟩ := hv.appended (by decide) hrow h6.size (by omega) hown hgrow
  have b2 := Boxed.past h2 (by decide) hrow hgrow
  refine ⟨?_, a4.trans (KeepsOthers.setCell _ _ _), ?_, ?_⟩
  · unfold RunAt
    rw [e]
    refine ⟨⟨⟨⟨((Boxed.past h1 (by decide) hrow hgrow).other (by omega) _).other (by omega) _, (b2.other (by omega) _).set _⟩, v', a2.other (by omega) _, ?_, trivial⟩, ((Boxed.past h5 (by decide) hrow hgrow).other (by omega) _).other (by omega) _⟩, ?_⟩
    · exact a3.kept (grownBy_setCell' _ _ _) (.inr ((b2.other (by omega) _).not_row (by decide) a3).symm)
    · exact (h6.trans a5).setCell (p := ⟨w.heap.size + 1 + 1 + 1, 0, none⟩) (by show w.heap.size ≤ w.heap.size + 1 + 1 + 1; omega) _
  · have := a4.size
    simp [World.setCell] at this ⊢
    exact this
  · intro k o hk hko hkept
    rw [Below.heap_setCell _ _ _ _ (by show k ≠ w.heap.size + 1 + 1 + 1; omega), Below.heap_setCell _ _ _ _ (by show k ≠ w.heap.size + 1; omega)]
    have hlt := (Array.getElem?_eq_some_iff.1 hko).1
    have hno : some k ≠ v.ownBlock := by
      rcases hrow.2 with ⟨rfl, _⟩ | ⟨g, cap, cur, rfl, _, hgb, _⟩
      · simp [Value.ownBlock]
      · intro e'
        obtain rfl : k = g := by simpa [Value.ownBlock] using e'
        rw [hko] at hgb
        cases hgb
        exact absurd hkept (by show ¬ (_ : Nat) = _; decide)
    rw [hgrow.block k (by simp; omega) hno]
    exact (Below.heap_alloc _ _ _ hlt).trans hko
end
end Go.Proofs.Ytmhhckpdhjnmeaa
