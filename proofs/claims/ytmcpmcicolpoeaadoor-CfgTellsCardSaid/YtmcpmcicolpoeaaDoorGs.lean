/- A reader that keeps its first error; lists that grow at their end; a writer that keeps its first error. Plain. -/
import Derived.Test.YtmcpmcicolpoeaaDoorGc
namespace Go.Proofs.YtmcpmcicolpoeaaDoor

/-- How far is read; the first error and its place. -/
structure Rs where
  at_ : Nat
  err : Option (Nat × Nat)
/-- What reading by c makes of a reader; what was read counts only where there is no error. -/
def StepP {α : Type} (c : Cod α) (b : By) (st : Rs) (a : α) (st' : Rs) : Prop := match st.err with
  | some x => st'.err = some x
  | none => match c.get b st.at_ with
    | .ok (a', q) => a = a' ∧ st' = ⟨q, none⟩
    | .error x => st'.err = some x
section
variable {α β : Type} {b : By} {st s1 s2 : Rs}
theorem StepP.on {c : Cod α} {a : α} (h : StepP c b st a s1) (hn : s1.err = none) : st.err = none ∧ c.get b st.at_ = .ok (a, s1.at_) := by
  unfold StepP at h
  cases he : st.err with
  | some x => rw [he] at h; simp only at h; rw [hn] at h; cases h
  | none =>
    rw [he] at h
    simp only at h
    refine ⟨rfl, ?_⟩
    cases hg : c.get b st.at_ with
    | ok aq =>
      obtain ⟨a', q⟩ := aq
      rw [hg] at h
      obtain ⟨rfl, rfl⟩ := h
      rfl
    | error x => rw [hg] at h; simp only at h; rw [hn] at h; cases h
theorem StepP.of_some {c : Cod α} {a : α} {x : Nat × Nat} (h : st.err = some x) (h1 : s1.err = some x) : StepP c b st a s1 := by
  unfold StepP; rw [h]; exact h1
theorem StepP.stays {c : Cod α} {a : α} {x : Nat × Nat} (h : StepP c b st a s1) (hx : st.err = some x) : s1.err = some x := by
  unfold StepP at h; rw [hx] at h; exact h
theorem StepP.of_ok {c : Cod α} {a : α} {q : Nat} (h : st.err = none) (hg : c.get b st.at_ = .ok (a, q)) (h1 : s1 = ⟨q, none⟩) : StepP c b st a s1 := by
  unfold StepP; rw [h]; simp only; rw [hg]; exact ⟨rfl, h1⟩
theorem StepP.of_err {c : Cod α} {a : α} {x : Nat × Nat} (h : st.err = none) (hg : c.get b st.at_ = .error x) (h1 : s1.err = some x) : StepP c b st a s1 := by
  unfold StepP; rw [h]; simp only; rw [hg]; exact h1
theorem StepP.fails {c : Cod α} {a : α} {x : Nat × Nat} (h : StepP c b st a s1) (hn : st.err = none) (hx : s1.err = some x) : c.get b st.at_ = .error x := by
  unfold StepP at h
  rw [hn] at h
  simp only at h
  cases hg : c.get b st.at_ with
  | ok aq =>
    obtain ⟨a', q⟩ := aq
    rw [hg] at h
    obtain ⟨_, rfl⟩ := h
    cases hx
  | error y => rw [hg] at h; simp only at h; rw [hx] at h; cases h; rfl
theorem StepP.dep {c : Cod α} {d : α → Cod β} {a : α} {y : β} (h1 : StepP c b st a s1) (h2 : StepP (d a) b s1 y s2) : StepP (c.dep d) b st (a, y) s2 := by
  cases he : st.err with
  | some x => exact .of_some he (h2.stays (h1.stays he))
  | none =>
    cases e1 : s1.err with
    | some x =>
      refine .of_err he ?_ (h2.stays e1)
      show (match c.get b st.at_ with | .ok (a, q) => _ | .error e => _) = _
      rw [h1.fails he e1]
    | none =>
      obtain ⟨_, g1⟩ := h1.on e1
      cases e2 : s2.err with
      | some x =>
        refine .of_err he ?_ e2
        show (match c.get b st.at_ with | .ok (a, q) => _ | .error e => _) = _
        rw [g1]
        show (match (d a).get b s1.at_ with | .ok (y, r) => _ | .error e => _) = _
        rw [h2.fails e1 e2]
      | none =>
        obtain ⟨_, g2⟩ := h2.on e2
        refine .of_ok (q := s2.at_) he ?_ (by cases s2; simp only at e2; subst e2; rfl)
        show (match c.get b st.at_ with | .ok (a, q) => _ | .error e => _) = _
        rw [g1]
        show (match (d a).get b s1.at_ with | .ok (y, r) => _ | .error e => _) = _
        rw [g2]
theorem StepP.map {c : Cod α} {f : α → β} {g : β → α} {a : α} (h : StepP c b st a s1) : StepP (c.map f g) b st (f a) s1 := by
  cases he : st.err with
  | some x => exact .of_some he (h.stays he)
  | none =>
    cases e1 : s1.err with
    | some x =>
      refine .of_err he ?_ e1
      show (match c.get b st.at_ with | .ok (a, q) => _ | .error e => _) = _
      rw [h.fails he e1]
    | none =>
      obtain ⟨_, g1⟩ := h.on e1
      refine .of_ok (q := s1.at_) he ?_ (by cases s1; simp only at e1; subst e1; rfl)
      show (match c.get b st.at_ with | .ok (a, q) => _ | .error e => _) = _
      rw [g1]
/-- What is read under an error may be anything. -/
theorem StepP.any {c : Cod α} {a a' : α} (h : StepP c b st a s1) (ha : s1.err = none → a = a') : StepP c b st a' s1 := by
  cases he : st.err with
  | some x => exact .of_some he (h.stays he)
  | none =>
    cases e1 : s1.err with
    | some x => exact .of_err he (h.fails he e1) e1
    | none => rw [← ha e1]; exact h
end
section
variable {α : Type} {c : Cod α} {b : By}
theorem list_zero (p : Nat) : (listC c 0).get b p = .ok ([], p) := rfl
theorem list_succ (n p : Nat) : (listC c (n + 1)).get b p = match c.get b p with
    | .ok (a, q) => (match (listC c n).get b q with
      | .ok (l, r) => .ok (a :: l, r)
      | .error e => .error e)
    | .error e => .error e := by
  have e : (listC c (n + 1)).get b p = (match (c.dep fun _ => listC c n).get b p with
    | .ok (x, q) => .ok (x.1 :: x.2, q)
    | .error e => .error e) := rfl
  rw [e]
  unfold Cod.dep
  dsimp only
  cases c.get b p with
  | error e => rfl
  | ok aq =>
    obtain ⟨a, q⟩ := aq
    dsimp only
    cases (listC c n).get b q with
    | error e => rfl
    | ok lr => rfl
theorem list_snoc : ∀ (k p : Nat) (l : List α) (q : Nat) (a : α) (r : Nat), (listC c k).get b p = .ok (l, q) → c.get b q = .ok (a, r) → (listC c (k + 1)).get b p = .ok (l ++ [a], r)
  | 0, p, l, q, a, r, h, ha => by
    cases h
    rw [list_succ, ha]
    rfl
  | k + 1, p, l, q, a, r, h, ha => by
    rw [list_succ] at h ⊢
    cases h1 : c.get b p with
    | error e => rw [h1] at h; cases h
    | ok yq =>
      obtain ⟨y, q1⟩ := yq
      rw [h1] at h
      simp only at h ⊢
      cases h2 : (listC c k).get b q1 with
      | error e => rw [h2] at h; cases h
      | ok lr =>
        obtain ⟨l', r'⟩ := lr
        rw [h2] at h
        cases h
        rw [list_snoc k q1 l' q a r h2 ha]
        rfl
theorem list_stop : ∀ (k p : Nat) (l : List α) (q n : Nat) (e : Nat × Nat), (listC c k).get b p = .ok (l, q) → c.get b q = .error e → k < n → (listC c n).get b p = .error e
  | 0, p, l, q, n + 1, e, h, he, _ => by
    cases h
    rw [list_succ, he]
  | k + 1, p, l, q, n + 1, e, h, he, hk => by
    rw [list_succ] at h ⊢
    cases h1 : c.get b p with
    | error e => rw [h1] at h; cases h
    | ok yq =>
      obtain ⟨y, q1⟩ := yq
      rw [h1] at h
      simp only at h ⊢
      cases h2 : (listC c k).get b q1 with
      | error e => rw [h2] at h; cases h
      | ok lr =>
        obtain ⟨l', r'⟩ := lr
        rw [h2] at h
        cases h
        rw [list_stop k q1 l' q n e h2 he (by omega)]
/-- Lists written: one behind the other, up to the first error. -/
def putL (c : Cod α) : List α → Except Nat By
  | [] => .ok []
  | x :: xs => match c.put x with
    | .ok l => (match putL c xs with
      | .ok m => .ok (l ++ m)
      | .error e => .error e)
    | .error e => .error e
theorem putL_nil : putL c [] = .ok [] := rfl
theorem putL_cons (x : α) (xs : List α) : putL c (x :: xs) = match c.put x with
    | .ok l => (match putL c xs with
      | .ok m => .ok (l ++ m)
      | .error e => .error e)
    | .error e => .error e := rfl
theorem put_list : ∀ l : List α, (listC c l.length).put l = putL c l
  | [] => rfl
  | x :: xs => by
    show (match c.put x with | .ok l => (match (listC c xs.length).put xs with | .ok m => Except.ok (l ++ m) | .error e => Except.error e) | .error e => Except.error e) = _
    rw [put_list xs]
    rfl
theorem putL_snoc : ∀ (l : List α) (x : α), putL c (l ++ [x]) = match putL c l with
    | .ok m => (match c.put x with
      | .ok y => .ok (m ++ y)
      | .error e => .error e)
    | .error e => .error e
  | [], x => by
    show (match c.put x with | .ok l => (match Except.ok [] with | .ok m => Except.ok (l ++ m) | .error e => Except.error e) | .error e => Except.error e) = (match c.put x with | .ok y => Except.ok ([] ++ y) | .error e => Except.error e)
    cases c.put x with
    | error e => rfl
    | ok y => simp
  | z :: zs, x => by
    rw [List.cons_append, putL_cons, putL_cons, putL_snoc zs x]
    cases c.put z with
    | error e => rfl
    | ok l =>
      simp only
      cases putL c zs with
      | error e => rfl
      | ok m =>
        simp only
        cases c.put x with
        | error e => rfl
        | ok y => simp
theorem putL_stop : ∀ (l m : List α) (e : Nat), putL c l = .error e → putL c (l ++ m) = .error e
  | [], _, _, h => by cases h
  | z :: zs, m, e, h => by
    rw [List.cons_append, putL_cons]
    rw [putL_cons] at h
    cases h1 : c.put z with
    | error e' => rw [h1] at h; exact h
    | ok l =>
      rw [h1] at h
      simp only at h ⊢
      cases h2 : putL c zs with
      | error e' => rw [h2] at h; simp only at h; cases h; rw [putL_stop zs m e h2]
      | ok m' => rw [h2] at h; cases h
end
end Go.Proofs.YtmcpmcicolpoeaaDoor
