/- Stretches of addresses as pairs (base, size), and lists of such as sets. Own lemmas; no program. -/
import Derived.Lib.Hide
namespace Go.Proofs.Ytgnihceefpijiaa

abbrev Sp := Nat × Nat
def TT : Nat := 18446744073709551616
def fit (x : Sp) : Prop := x.1 < 18446744073709551616 ∧ x.2 < 18446744073709551616
def good (x : Sp) : Bool := decide (0 < x.2) && decide (x.1 + x.2 ≤ 18446744073709551616)
def last (x : Sp) : Nat := if good x then x.1 + x.2 - 1 else 0
def has (x : Sp) (p : Nat) : Bool := good x && (decide (x.1 ≤ p) && decide (p < x.1 + x.2))
def overlap (x y : Sp) : Bool := good x && (good y && (decide (x.1 < y.1 + y.2) && decide (y.1 < x.1 + x.2)))
def within (x y : Sp) : Bool := good x && (good y && (decide (y.1 ≤ x.1) && decide (x.1 + x.2 ≤ y.1 + y.2)))
def paged (x : Sp) : Bool := good x && (decide (x.1 % 4096 = 0) && decide (x.2 % 4096 = 0))
def inn (l : List Sp) (p : Nat) : Bool := l.any fun x => has x p

theorem good_iff (x : Sp) : good x = true ↔ 0 < x.2 ∧ x.1 + x.2 ≤ 18446744073709551616 := by simp [good]
theorem has_iff (x : Sp) (p : Nat) : has x p = true ↔ good x = true ∧ x.1 ≤ p ∧ p < x.1 + x.2 := by simp [has]
theorem overlap_iff (x y : Sp) : overlap x y = true ↔ good x = true ∧ good y = true ∧ x.1 < y.1 + y.2 ∧ y.1 < x.1 + x.2 := by simp [overlap]
theorem inn_iff (l : List Sp) (p : Nat) : inn l p = true ↔ ∃ x ∈ l, has x p = true := by simp [inn]
theorem last_good {x : Sp} (h : good x = true) : last x + 1 = x.1 + x.2 := by
  unfold last; rw [if_pos h]; have := (good_iff x).1 h; omega
theorem last_bad {x : Sp} (h : good x = false) : last x = 0 := by unfold last; rw [h]; rfl
theorem last_lt (x : Sp) : last x < 18446744073709551616 := by
  by_cases h : good x = true
  · have := last_good h; have := (good_iff x).1 h; omega
  · rw [last_bad (by simpa using h)]; decide

/-! ### rising lists: what the addresses fix -/
def Rise : Nat → List Sp → Prop
  | _, [] => True
  | lo, x :: r => lo ≤ x.1 ∧ 0 < x.2 ∧ x.1 + x.2 ≤ TT ∧ Rise (x.1 + x.2 + 1) r
def Mem (l : List Sp) (p : Nat) : Prop := ∃ x ∈ l, x.1 ≤ p ∧ p < x.1 + x.2
theorem Rise.mono {a b : Nat} (h : a ≤ b) : ∀ {l : List Sp}, Rise b l → Rise a l
  | [], _ => trivial
  | _ :: _, ⟨h1, h2, h3, h4⟩ => ⟨Nat.le_trans h h1, h2, h3, h4⟩
theorem Rise.lo {a p : Nat} : ∀ {l : List Sp}, Rise a l → Mem l p → a ≤ p
  | [], _, ⟨_, hx, _⟩ => by cases hx
  | y :: r, ⟨h1, h2, h3, h4⟩, ⟨x, hx, hp1, hp2⟩ => by
    rcases List.mem_cons.1 hx with rfl | hx
    · omega
    · have := Rise.lo h4 ⟨x, hx, hp1, hp2⟩; omega
theorem mem_cons {x : Sp} {r : List Sp} {p : Nat} : Mem (x :: r) p ↔ (x.1 ≤ p ∧ p < x.1 + x.2) ∨ Mem r p := by
  constructor
  · rintro ⟨y, hy, h⟩
    rcases List.mem_cons.1 hy with rfl | hy
    · exact .inl h
    · exact .inr ⟨y, hy, h⟩
  · rintro (h | ⟨y, hy, h⟩)
    · exact ⟨x, by simp, h⟩
    · exact ⟨y, by simp [hy], h⟩
theorem mem_nil (p : Nat) : ¬ Mem [] p := fun ⟨_, h, _⟩ => by cases h
theorem rise_unique : ∀ {l l' : List Sp} {a a' : Nat}, Rise a l → Rise a' l' → (∀ p, Mem l p ↔ Mem l' p) → l = l'
  | [], [], _, _, _, _, _ => rfl
  | [], y :: r', _, _, _, ⟨_, h2, _, _⟩, h => absurd ((h y.1).2 (mem_cons.2 (.inl ⟨Nat.le_refl _, by omega⟩))) (mem_nil _)
  | x :: r, [], _, _, ⟨_, h2, _, _⟩, _, h => absurd ((h x.1).1 (mem_cons.2 (.inl ⟨Nat.le_refl _, by omega⟩))) (mem_nil _)
  | x :: r, y :: r', a, a', ⟨h1, h2, h3, h4⟩, ⟨k1, k2, k3, k4⟩, h => by
    have lo1 : y.1 ≤ x.1 := by
      rcases mem_cons.1 ((h x.1).1 (mem_cons.2 (.inl ⟨Nat.le_refl _, by omega⟩))) with h' | h'
      · exact h'.1
      · have := k4.lo h'; omega
    have lo2 : x.1 ≤ y.1 := by
      rcases mem_cons.1 ((h y.1).2 (mem_cons.2 (.inl ⟨Nat.le_refl _, by omega⟩))) with h' | h'
      · exact h'.1
      · have := h4.lo h'; omega
    have hi1 : ¬ x.1 + x.2 < y.1 + y.2 := fun hlt => by
      rcases mem_cons.1 ((h (x.1 + x.2)).2 (mem_cons.2 (.inl ⟨by omega, hlt⟩))) with h' | h'
      · omega
      · have := h4.lo h'; omega
    have hi2 : ¬ y.1 + y.2 < x.1 + x.2 := fun hlt => by
      rcases mem_cons.1 ((h (y.1 + y.2)).1 (mem_cons.2 (.inl ⟨by omega, hlt⟩))) with h' | h'
      · omega
      · have := k4.lo h'; omega
    have e : x = y := Prod.ext (by omega) (by omega)
    subst e
    refine congrArg _ (rise_unique h4 k4 fun p => ⟨fun hp => ?_, fun hp => ?_⟩)
    · have hl := h4.lo hp
      rcases mem_cons.1 ((h p).1 (mem_cons.2 (.inr hp))) with h' | h'
      · omega
      · exact h'
    · have hl := k4.lo hp
      rcases mem_cons.1 ((h p).2 (mem_cons.2 (.inr hp))) with h' | h'
      · omega
      · exact h'

/-! ### runs: along the borders -/
def half : Nat := 9223372036854775808
def topS (f : Nat) : List Sp := if f = 0 then [(0, half), (half, half)] else [(f, TT - f)]
/-- One border: (from, open, out). -/
def stepS (must : Nat → Bool) (st : Nat × Bool × List Sp) (p : Nat) : Nat × Bool × List Sp :=
  (if must p && !st.2.1 then p else st.1, must p, if st.2.1 && !must p then st.2.2 ++ [(st.1, p - st.1)] else st.2.2)
def foldS (must : Nat → Bool) (bs : List Nat) : Nat × Bool × List Sp := bs.foldl (stepS must) (0, false, [])
def runS (must : Nat → Bool) (bs : List Nat) : List Sp :=
  if (foldS must bs).2.1 then (foldS must bs).2.2 ++ topS (foldS must bs).1 else (foldS must bs).2.2
theorem foldS_snoc (must : Nat → Bool) (bs : List Nat) (p : Nat) : foldS must (bs ++ [p]) = stepS must (foldS must bs) p := by simp [foldS]
/-- All addresses in one become two. -/
def split (l : List Sp) : List Sp := l.flatMap fun x => if x = (0, TT) then [(0, half), (half, half)] else [x]

def runR (must : Nat → Bool) : List Nat → Nat → Bool → List Sp
  | [], f, o => if o then [(f, TT - f)] else []
  | a :: r, f, o => if o && !must a then (f, a - f) :: runR must r f false else runR must r (if must a && !o then a else f) (must a)
def Follows (must : Nat → Bool) : Nat → Bool → List Nat → Prop
  | p, o, [] => p ≤ TT ∧ ∀ q, p ≤ q → q < TT → must q = o
  | p, o, a :: r => p ≤ a ∧ a < TT ∧ (∀ q, p ≤ q → q < a → must q = o) ∧ Follows must (a + 1) (must a) r

theorem runR_spec (must : Nat → Bool) : ∀ (bs : List Nat),
    (∀ p f, Follows must p true bs → f < p → Rise f (runR must bs f true) ∧ ∀ q, Mem (runR must bs f true) q ↔ (f ≤ q ∧ q < p) ∨ (p ≤ q ∧ q < TT ∧ must q = true)) ∧
    (∀ p f, Follows must p false bs → Rise p (runR must bs f false) ∧ ∀ q, Mem (runR must bs f false) q ↔ (p ≤ q ∧ q < TT ∧ must q = true))
  | [] => by
    refine ⟨fun p f ⟨h1, h2⟩ hf => ?_, fun p f ⟨h1, h2⟩ => ?_⟩
    · have e : runR must [] f true = [(f, TT - f)] := rfl
      rw [e]
      refine ⟨⟨Nat.le_refl _, by simp; omega, by simp; omega, trivial⟩, fun q => ?_⟩
      rw [mem_cons]
      simp only [mem_nil, or_false]
      constructor
      · intro h
        rcases Nat.lt_or_ge q p with h' | h'
        · exact .inl ⟨h.1, h'⟩
        · exact .inr ⟨h', by omega, h2 q h' (by omega)⟩
      · rintro (h | h) <;> omega
    · have e : runR must [] f false = [] := rfl
      rw [e]
      refine ⟨trivial, fun q => ⟨fun h => absurd h (mem_nil _), fun ⟨h, h', h''⟩ => ?_⟩⟩
      rw [h2 q h h'] at h''; cases h''
  | a :: r => by
    have ih := runR_spec must r
    refine ⟨fun p f ⟨h1, h2, h3, h4⟩ hf => ?_, fun p f ⟨h1, h2, h3, h4⟩ => ?_⟩
    · by_cases hm : must a = true
      · have e : runR must (a :: r) f true = runR must r f true := by simp [runR, hm]
        rw [hm] at h4
        obtain ⟨i1, i2⟩ := ih.1 (a + 1) f h4 (by omega)
        rw [e]
        refine ⟨i1, fun q => (i2 q).trans ⟨?_, ?_⟩⟩
        · rintro (h | h)
          · rcases Nat.lt_or_ge q p with h' | h'
            · exact .inl ⟨h.1, h'⟩
            · refine .inr ⟨h', by omega, ?_⟩
              rcases Nat.lt_or_ge q a with h'' | h''
              · exact h3 q h' h''
              · obtain rfl : q = a := by omega
                exact hm
          · exact .inr ⟨by omega, h.2⟩
        · rintro (h | h)
          · exact .inl (by omega)
          · rcases Nat.lt_or_ge q (a + 1) with h' | h'
            · exact .inl (by omega)
            · exact .inr ⟨h', h.2⟩
      · have hm' : must a = false := by simpa using hm
        have e : runR must (a :: r) f true = (f, a - f) :: runR must r f false := by simp [runR, hm']
        rw [hm'] at h4
        obtain ⟨i1, i2⟩ := ih.2 (a + 1) f h4
        rw [e]
        refine ⟨⟨Nat.le_refl _, by simp; omega, by simp; omega, i1.mono (by simp; omega)⟩, fun q => ?_⟩
        rw [mem_cons, i2 q]
        simp only
        constructor
        · rintro (h | h)
          · rcases Nat.lt_or_ge q p with h' | h'
            · exact .inl ⟨h.1, h'⟩
            · exact .inr ⟨h', by omega, h3 q h' (by omega)⟩
          · exact .inr ⟨by omega, h.2⟩
        · rintro (h | h)
          · exact .inl (by omega)
          · rcases Nat.lt_or_ge q a with h' | h'
            · exact .inl (by omega)
            · rcases Nat.lt_or_ge a q with h'' | h''
              · exact .inr ⟨h'', h.2⟩
              · obtain rfl : q = a := by omega
                rw [hm'] at h; exact absurd h.2.2 (by simp)
    · by_cases hm : must a = true
      · have e : runR must (a :: r) f false = runR must r a true := by simp [runR, hm]
        rw [hm] at h4
        obtain ⟨i1, i2⟩ := ih.1 (a + 1) a h4 (by omega)
        rw [e]
        refine ⟨i1.mono h1, fun q => (i2 q).trans ⟨?_, ?_⟩⟩
        · rintro (h | h)
          · obtain rfl : q = a := by omega
            exact ⟨h1, h2, hm⟩
          · exact ⟨by omega, h.2⟩
        · rintro h
          rcases Nat.lt_or_ge q a with h' | h'
          · rw [h3 q h.1 h'] at h; exact absurd h.2.2 (by simp)
          · rcases Nat.lt_or_ge a q with h'' | h''
            · exact .inr ⟨h'', h.2⟩
            · exact .inl (by omega)
      · have hm' : must a = false := by simpa using hm
        have e : runR must (a :: r) f false = runR must r f false := by simp [runR, hm']
        rw [hm'] at h4
        obtain ⟨i1, i2⟩ := ih.2 (a + 1) f h4
        rw [e]
        refine ⟨i1.mono (by omega), fun q => (i2 q).trans ⟨fun h => ⟨by omega, h.2⟩, fun h => ?_⟩⟩
        rcases Nat.lt_or_ge q a with h' | h'
        · rw [h3 q h.1 h'] at h; exact absurd h.2.2 (by simp)
        · rcases Nat.lt_or_ge a q with h'' | h''
          · exact ⟨h'', h.2⟩
          · obtain rfl : q = a := by omega
            rw [hm'] at h; exact absurd h.2.2 (by simp)

def finS (st : Nat × Bool × List Sp) : List Sp := if st.2.1 then st.2.2 ++ topS st.1 else st.2.2
theorem split_cons_lt (f a : Nat) (h : a < TT) (r : List Sp) : split ((f, a - f) :: r) = (f, a - f) :: split r := by
  have : ¬ (((f, a - f) : Sp) = (0, TT)) := by
    intro e
    injection e with e1 e2
    omega
  simp [split, this]
theorem topS_split (f : Nat) : topS f = split [(f, TT - f)] := by
  unfold topS split
  by_cases h : f = 0
  · subst h; simp
  · simp [h]
theorem fin_fold (must : Nat → Bool) : ∀ (bs : List Nat) (f : Nat) (o : Bool) (out : List Sp), (∀ b ∈ bs, b < TT) →
    finS (bs.foldl (stepS must) (f, o, out)) = out ++ split (runR must bs f o)
  | [], f, o, out, _ => by
    cases o
    · simp [finS, runR, split]
    · have e : runR must [] f true = [(f, TT - f)] := rfl
      simp only [List.foldl_nil, finS, if_true]
      rw [e, topS_split]
  | a :: r, f, o, out, h => by
    have ha := h a (by simp)
    have hr : ∀ b ∈ r, b < TT := fun b hb => h b (by simp [hb])
    rw [List.foldl_cons]
    cases o <;> cases hm : must a
    · have e : stepS must (f, false, out) a = (f, false, out) := by simp [stepS, hm]
      rw [e, fin_fold must r _ _ _ hr]; simp [runR, hm]
    · have e : stepS must (f, false, out) a = (a, true, out) := by simp [stepS, hm]
      rw [e, fin_fold must r _ _ _ hr]; simp [runR, hm]
    · have e : stepS must (f, true, out) a = (f, false, out ++ [(f, a - f)]) := by simp [stepS, hm]
      rw [e, fin_fold must r _ _ _ hr]
      have e2 : runR must (a :: r) f true = (f, a - f) :: runR must r f false := by simp [runR, hm]
      rw [e2, split_cons_lt _ _ ha]; simp
    · have e : stepS must (f, true, out) a = (f, true, out) := by simp [stepS, hm]
      rw [e, fin_fold must r _ _ _ hr]; simp [runR, hm]
theorem runS_eq (must : Nat → Bool) (bs : List Nat) (h : ∀ b ∈ bs, b < TT) : runS must bs = split (runR must bs 0 false) := by
  have := fin_fold must bs 0 false [] h
  rw [List.nil_append] at this
  exact this

/-! ### what the borders must be -/
theorem follows_of (must : Nat → Bool) : ∀ (bs : List Nat) (p : Nat) (o : Bool), p ≤ TT → bs.Pairwise (· < ·) → (∀ b ∈ bs, p ≤ b ∧ b < TT) →
    (p = 0 → o = false) → (0 < p → must (p - 1) = o) → (∀ q, p ≤ q → q < TT → q ∉ bs → (q = 0 → must q = false) ∧ (0 < q → must q = must (q - 1))) → Follows must p o bs
  | [], p, o, hp, _, _, h0, h1, hs => by
    refine ⟨hp, fun q => ?_⟩
    induction q with
    | zero => intro hq hT; rw [(hs 0 hq hT (by simp)).1 rfl, h0 (by omega)]
    | succ q ih =>
      intro hq hT
      have e := (hs (q + 1) hq hT (by simp)).2 (by omega)
      rw [e]
      rcases Nat.lt_or_ge q p with h | h
      · have : p = q + 1 := by omega
        subst this
        exact h1 (by omega)
      · exact ih h (by omega)
  | a :: r, p, o, hp, hpw, hb, h0, h1, hs => by
    obtain ⟨ha1, ha2⟩ := hb a (by simp)
    obtain ⟨hp1, hp2⟩ := List.pairwise_cons.1 hpw
    have flat : ∀ q, p ≤ q → q < a → must q = o := by
      intro q
      have hn : ∀ q, q < a → q ∉ a :: r := fun q hq hm => by
        rcases List.mem_cons.1 hm with rfl | hm
        · omega
        · have := hp1 q hm; omega
      induction q with
      | zero => intro hq hqa; rw [(hs 0 hq (by omega) (hn 0 hqa)).1 rfl, h0 (by omega)]
      | succ q ih =>
        intro hq hqa
        rw [(hs (q + 1) hq (by omega) (hn _ hqa)).2 (by omega)]
        rcases Nat.lt_or_ge q p with h | h
        · have : p = q + 1 := by omega
          subst this
          exact h1 (by omega)
        · exact ih h (by omega)
    refine ⟨ha1, ha2, flat, follows_of must r (a + 1) (must a) (by omega) hp2 (fun b hbr => ⟨hp1 b hbr, (hb b (by simp [hbr])).2⟩) (by omega) (fun _ => by simp) fun q hq hT hn => hs q (by omega) hT ?_⟩
    intro hm
    rcases List.mem_cons.1 hm with rfl | hm
    · omega
    · exact hn hm

/-- The borders of some spans: where a good one begins, or right behind where it ended. -/
def ends1 (x : Sp) : List Nat := if good x then x.1 :: (if last x < 18446744073709551615 then [last x + 1] else []) else []
def allB (l : List Sp) : List Nat := l.flatMap ends1
def Borders (l : List Sp) (bs : List Nat) : Prop := bs.Pairwise (· < ·) ∧ ∀ b, b ∈ bs ↔ b ∈ allB l
theorem ends1_mem {x : Sp} {b : Nat} : b ∈ ends1 x ↔ good x = true ∧ (b = x.1 ∨ (b = x.1 + x.2 ∧ b < 18446744073709551616)) := by
  unfold ends1
  by_cases h : good x = true
  · have hl := last_good h
    have hg := (good_iff x).1 h
    rw [if_pos h]
    by_cases h2 : last x < 18446744073709551615
    · rw [if_pos h2]; simp [h]; omega
    · rw [if_neg h2]; simp [h]; omega
  · rw [if_neg h]; simp [h]
theorem allB_lt {l : List Sp} (_ : ∀ x ∈ l, fit x) {b : Nat} (h : b ∈ allB l) : b < TT := by
  obtain ⟨x, hx, hb⟩ := List.mem_flatMap.1 h
  obtain ⟨hg, h1 | h1⟩ := ends1_mem.1 hb
  · have := (good_iff x).1 hg; unfold TT; omega
  · exact h1.2
theorem allB_inn_step {l : List Sp} {q : Nat} (hq : q < TT) (hn : q ∉ allB l) : (q = 0 → inn l q = false) ∧ (0 < q → inn l q = inn l (q - 1)) := by
  have key : ∀ x ∈ l, good x = true → q ≠ x.1 ∧ q ≠ x.1 + x.2 := fun x hx hg => by
    refine ⟨fun e => hn ?_, fun e => hn ?_⟩
    · exact List.mem_flatMap.2 ⟨x, hx, ends1_mem.2 ⟨hg, .inl e⟩⟩
    · exact List.mem_flatMap.2 ⟨x, hx, ends1_mem.2 ⟨hg, .inr ⟨e, hq⟩⟩⟩
  refine ⟨fun h0 => ?_, fun h0 => ?_⟩
  · cases hi : inn l q with
    | false => rfl
    | true =>
      obtain ⟨x, hx, hh⟩ := (inn_iff l q).1 hi
      obtain ⟨hg, h1, h2⟩ := (has_iff x q).1 hh
      have := key x hx hg
      omega
  · rw [Bool.eq_iff_iff, inn_iff, inn_iff]
    constructor
    · rintro ⟨x, hx, hh⟩
      obtain ⟨hg, h1, h2⟩ := (has_iff x q).1 hh
      have := key x hx hg
      exact ⟨x, hx, (has_iff x _).2 ⟨hg, by omega, by omega⟩⟩
    · rintro ⟨x, hx, hh⟩
      obtain ⟨hg, h1, h2⟩ := (has_iff x _).1 hh
      have := key x hx hg
      exact ⟨x, hx, (has_iff x _).2 ⟨hg, by omega, by omega⟩⟩
def leftS (s : Sp) (l : List Sp) (p : Nat) : Bool := has s p && !inn l p
theorem inn_one (s : Sp) (p : Nat) : inn [s] p = has s p := by simp [inn]
theorem left_step {s : Sp} {l : List Sp} {q : Nat} (hq : q < TT) (hn : q ∉ allB (s :: l)) : (q = 0 → leftS s l q = false) ∧ (0 < q → leftS s l q = leftS s l (q - 1)) := by
  have hn1 : q ∉ allB [s] := fun h => hn (by simp [allB] at h ⊢; exact .inl h)
  have hn2 : q ∉ allB l := fun h => hn (by simp [allB] at h ⊢; exact .inr h)
  obtain ⟨a1, a2⟩ := allB_inn_step hq hn1
  obtain ⟨b1, b2⟩ := allB_inn_step hq hn2
  simp only [inn_one] at a1 a2
  refine ⟨fun h => by simp [leftS, a1 h], fun h => by simp only [leftS, a2 h, b2 h]⟩
theorem runs_rise {must : Nat → Bool} {l : List Sp} {bs : List Nat} (hl : ∀ x ∈ l, fit x) (hb : Borders l bs) (hs : ∀ q, q < TT → q ∉ allB l → (q = 0 → must q = false) ∧ (0 < q → must q = must (q - 1))) :
    ∃ L, runS must bs = split L ∧ Rise 0 L ∧ ∀ q, Mem L q ↔ q < TT ∧ must q = true := by
  have hlt : ∀ b ∈ bs, b < TT := fun b h => allB_lt hl ((hb.2 b).1 h)
  have hF : Follows must 0 false bs := follows_of must bs 0 false (Nat.zero_le _) hb.1 (fun b h => ⟨Nat.zero_le _, hlt b h⟩) (fun _ => rfl) (fun h => by omega) (fun q _ hq hn => hs q hq (fun h => hn ((hb.2 q).2 h)))
  obtain ⟨h1, h2⟩ := (runR_spec must bs).2 0 0 hF
  exact ⟨_, runS_eq must bs hlt, h1, fun q => (h2 q).trans ⟨fun h => h.2, fun h => ⟨Nat.zero_le _, h⟩⟩⟩

/-! ### the reference's Merge -/
def insStep (st : List Sp × Bool × Sp) (x : Sp) : List Sp × Bool × Sp :=
  if x.2 + 1 < st.2.2.1 then (st.1 ++ [x], st.2.1, st.2.2)
  else if st.2.2.2 + 1 < x.1 then ((if st.2.1 then st.1 else st.1 ++ [st.2.2]) ++ [x], true, st.2.2)
  else (st.1, st.2.1, (min x.1 st.2.2.1, max x.2 st.2.2.2))
def insFin (st : List Sp × Bool × Sp) : List Sp := if st.2.1 then st.1 else st.1 ++ [st.2.2]
def insS (l : List Sp) (s : Sp) : List Sp := insFin (l.foldl insStep ([], false, s))
def mergeE (l : List Sp) : List Sp := l.foldl (fun all x => if good x then insS all (x.1, last x) else all) []
def outE (e : Sp) : List Sp := if e.1 = 0 ∧ e.2 = 18446744073709551615 then [(0, half), (half, half)] else [(e.1, e.2 - e.1 + 1)]
def mergeS (l : List Sp) : List Sp := (mergeE l).flatMap outE

def ERise : Nat → List Sp → Prop
  | _, [] => True
  | lo, x :: r => lo ≤ x.1 ∧ x.1 ≤ x.2 ∧ x.2 < TT ∧ ERise (x.2 + 2) r
def EMem (l : List Sp) (p : Nat) : Prop := ∃ x ∈ l, x.1 ≤ p ∧ p ≤ x.2
theorem ERise.mono {a b : Nat} (h : a ≤ b) : ∀ {l : List Sp}, ERise b l → ERise a l
  | [], _ => trivial
  | _ :: _, ⟨h1, h2, h3, h4⟩ => ⟨Nat.le_trans h h1, h2, h3, h4⟩
theorem emem_cons {x : Sp} {r : List Sp} {p : Nat} : EMem (x :: r) p ↔ (x.1 ≤ p ∧ p ≤ x.2) ∨ EMem r p := by
  constructor
  · rintro ⟨y, hy, h⟩
    rcases List.mem_cons.1 hy with rfl | hy
    · exact .inl h
    · exact .inr ⟨y, hy, h⟩
  · rintro (h | ⟨y, hy, h⟩)
    · exact ⟨x, by simp, h⟩
    · exact ⟨y, by simp [hy], h⟩
theorem emem_nil (p : Nat) : ¬ EMem [] p := fun ⟨_, h, _⟩ => by cases h
def insR : List Sp → Sp → Bool → List Sp
  | [], s, d => if d then [] else [s]
  | x :: r, s, d => if x.2 + 1 < s.1 then x :: insR r s d else if s.2 + 1 < x.1 then (if d then [] else [s]) ++ x :: insR r s true else insR r (min x.1 s.1, max x.2 s.2) d
theorem ins_fold : ∀ (l : List Sp) (out : List Sp) (d : Bool) (s : Sp), insFin (l.foldl insStep (out, d, s)) = out ++ insR l s d
  | [], out, d, s => by cases d <;> simp [insFin, insR]
  | x :: r, out, d, s => by
    rw [List.foldl_cons]
    by_cases h1 : x.2 + 1 < s.1
    · have e : insStep (out, d, s) x = (out ++ [x], d, s) := by simp [insStep, h1]
      rw [e, ins_fold r]; simp [insR, h1]
    · by_cases h2 : s.2 + 1 < x.1
      · have e : insStep (out, d, s) x = ((if d then out else out ++ [s]) ++ [x], true, s) := by simp [insStep, h1, h2]
        rw [e, ins_fold r]
        cases d <;> simp [insR, h1, h2]
      · have e : insStep (out, d, s) x = (out, d, (min x.1 s.1, max x.2 s.2)) := by simp [insStep, h1, h2]
        rw [e, ins_fold r]; simp [insR, h1, h2]
theorem insR_done : ∀ (l : List Sp) (s : Sp), s.1 ≤ s.2 → ERise (s.2 + 2) l → insR l s true = l
  | [], _, _, _ => rfl
  | x :: r, s, hs, ⟨h1, h2, h3, h4⟩ => by
    have e1 : ¬ x.2 + 1 < s.1 := by omega
    have e2 : s.2 + 1 < x.1 := by omega
    simp only [insR, e1, e2, if_true, if_false, List.nil_append]
    rw [insR_done r s hs (h4.mono (by omega))]
theorem insR_spec : ∀ (l : List Sp) (lo : Nat) (s : Sp), ERise lo l → lo ≤ s.1 → s.1 ≤ s.2 → s.2 < TT → ERise lo (insR l s false) ∧ ∀ p, EMem (insR l s false) p ↔ EMem l p ∨ (s.1 ≤ p ∧ p ≤ s.2)
  | [], lo, s, _, h1, h2, h3 => by
    have e : insR [] s false = [s] := rfl
    rw [e]
    exact ⟨⟨h1, h2, h3, trivial⟩, fun p => by rw [emem_cons]; simp [emem_nil]⟩
  | x :: r, lo, s, ⟨k1, k2, k3, k4⟩, h1, h2, h3 => by
    by_cases c1 : x.2 + 1 < s.1
    · have e : insR (x :: r) s false = x :: insR r s false := by simp [insR, c1]
      obtain ⟨i1, i2⟩ := insR_spec r (x.2 + 2) s k4 (by omega) h2 h3
      rw [e]
      refine ⟨⟨k1, k2, k3, i1⟩, fun p => ?_⟩
      rw [emem_cons, emem_cons, i2 p, or_assoc]
    · by_cases c2 : s.2 + 1 < x.1
      · have e : insR (x :: r) s false = s :: x :: r := by
          have := insR_done r s h2 (k4.mono (by omega))
          simp [insR, c1, c2, this]
        rw [e]
        refine ⟨⟨h1, h2, h3, by omega, k2, k3, k4⟩, fun p => ?_⟩
        rw [emem_cons]; exact or_comm
      · have e : insR (x :: r) s false = insR r (min x.1 s.1, max x.2 s.2) false := by simp [insR, c1, c2]
        obtain ⟨i1, i2⟩ := insR_spec r lo (min x.1 s.1, max x.2 s.2) (k4.mono (by omega)) (by simp; omega) (by simp; omega) (by simp; omega)
        rw [e]
        refine ⟨i1, fun p => ?_⟩
        rw [i2 p, emem_cons]
        simp only
        constructor
        · rintro (h | h)
          · exact .inl (.inr h)
          · by_cases hx : x.1 ≤ p ∧ p ≤ x.2
            · exact .inl (.inl hx)
            · exact .inr (by omega)
        · rintro ((h | h) | h)
          · exact .inr (by omega)
          · exact .inl h
          · exact .inr (by omega)
theorem mergeE_spec (l : List Sp) : ERise 0 (mergeE l) ∧ ∀ p, EMem (mergeE l) p ↔ inn l p = true := by
  have main : ∀ (r done all : List Sp), ERise 0 all → (∀ p, EMem all p ↔ inn done p = true) →
      ERise 0 (r.foldl (fun all x => if good x then insS all (x.1, last x) else all) all) ∧ ∀ p, EMem (r.foldl (fun all x => if good x then insS all (x.1, last x) else all) all) p ↔ inn (done ++ r) p = true := by
    intro r
    induction r with
    | nil => intro done all h1 h2; simpa using ⟨h1, h2⟩
    | cons x r ih =>
      intro done all h1 h2
      rw [List.foldl_cons]
      have e : done ++ x :: r = (done ++ [x]) ++ r := by simp
      rw [e]
      have hi : ∀ p, inn (done ++ [x]) p = (inn done p || has x p) := fun p => by simp [inn]
      by_cases hg : good x = true
      · rw [if_pos hg]
        have hl := last_good hg
        have hgi := (good_iff x).1 hg
        have eI : insS all (x.1, last x) = insR all (x.1, last x) false := by
          have := ins_fold all [] false (x.1, last x)
          simpa [insS] using this
        rw [eI]
        obtain ⟨i1, i2⟩ := insR_spec all 0 (x.1, last x) h1 (Nat.zero_le _) (by simp; omega) (by have := last_lt x; unfold TT; simpa using this)
        refine ih (done ++ [x]) _ i1 fun p => ?_
        rw [i2 p, h2 p, hi p]
        simp only [Bool.or_eq_true, has_iff, hg, true_and]
        constructor
        · rintro (h | h)
          · exact .inl h
          · exact .inr (by omega)
        · rintro (h | h)
          · exact .inl h
          · exact .inr (by omega)
      · rw [if_neg hg]
        refine ih (done ++ [x]) _ h1 fun p => ?_
        rw [h2 p, hi p]
        have : has x p = false := by simp [has, hg]
        rw [this, Bool.or_false]
  have := main l [] [] trivial (fun p => by simp [emem_nil, inn])
  simpa [mergeE] using this
def toSp (e : Sp) : Sp := (e.1, e.2 - e.1 + 1)
theorem outE_split : ∀ (l : List Sp) (a : Nat), ERise a l → l.flatMap outE = split (l.map toSp)
  | [], _, _ => rfl
  | x :: r, a, ⟨h1, h2, h3, h4⟩ => by
    have ih := outE_split r _ h4
    simp only [List.flatMap_cons, List.map_cons]
    rw [ih]
    unfold split
    rw [List.flatMap_cons]
    congr 1
    unfold outE toSp
    have e : (x.1 = 0 ∧ x.2 = 18446744073709551615) ↔ (((x.1, x.2 - x.1 + 1) : Sp) = (0, TT)) := by
      rw [Prod.mk.injEq]; unfold TT at h3 ⊢; omega
    by_cases h : x.1 = 0 ∧ x.2 = 18446744073709551615
    · rw [if_pos h, if_pos (e.1 h)]
    · rw [if_neg h, if_neg (fun h' => h (e.2 h'))]
theorem erise_rise : ∀ (l : List Sp) (a : Nat), ERise a l → Rise a (l.map toSp)
  | [], _, _ => trivial
  | x :: r, a, ⟨h1, h2, h3, h4⟩ => ⟨h1, by simp [toSp], by simp [toSp]; omega, (erise_rise r _ h4).mono (by simp [toSp]; omega)⟩
theorem emem_mem : ∀ (l : List Sp) (a p : Nat), ERise a l → (Mem (l.map toSp) p ↔ EMem l p)
  | [], _, p, _ => ⟨fun h => absurd h (mem_nil p), fun h => absurd h (emem_nil p)⟩
  | x :: r, a, p, ⟨h1, h2, h3, h4⟩ => by
    rw [List.map_cons, mem_cons, emem_cons, emem_mem r _ p h4]
    simp only [toSp]
    constructor
    · rintro (h | h)
      · exact .inl (by omega)
      · exact .inr h
    · rintro (h | h)
      · exact .inl (by omega)
      · exact .inr h
theorem has_lt {x : Sp} {p : Nat} (h : has x p = true) : p < TT := by
  obtain ⟨hg, h1, h2⟩ := (has_iff x p).1 h
  have := (good_iff x).1 hg
  unfold TT; omega
theorem inn_lt {l : List Sp} {p : Nat} (h : inn l p = true) : p < TT := by
  obtain ⟨x, _, hx⟩ := (inn_iff l p).1 h
  exact has_lt hx
theorem mergeS_eq (l : List Sp) : ∃ L, mergeS l = split L ∧ Rise 0 L ∧ ∀ q, Mem L q ↔ inn l q = true := by
  obtain ⟨h1, h2⟩ := mergeE_spec l
  exact ⟨_, outE_split _ _ h1, erise_rise _ _ h1, fun q => (emem_mem _ _ q h1).trans (h2 q)⟩
/-- **Merge is the reference's.** -/
theorem merge_eq {l : List Sp} {bs : List Nat} (hl : ∀ x ∈ l, fit x) (hb : Borders l bs) : runS (inn l) bs = mergeS l := by
  obtain ⟨L, e, hL, hm⟩ := runs_rise hl hb fun q hq hn => allB_inn_step hq hn
  obtain ⟨M, e2, hM, hm2⟩ := mergeS_eq l
  rw [e, e2, rise_unique hL hM fun p => (hm p).trans ⟨fun h => (hm2 p).2 h.2, fun h => ⟨inn_lt ((hm2 p).1 h), (hm2 p).1 h⟩⟩]

/-! ### the reference's Cut -/
def pieces (x y : Sp) : List Sp :=
  if overlap x y then (if y.1 < x.1 then [(y.1, x.1 - y.1)] else []) ++ (if last x < last y then [(last x + 1, last y - last x)] else []) else [y]
def cutF (out : List Sp) (x : Sp) : List Sp := if good x then out.flatMap (pieces x) else out
def cutS (s : Sp) (l : List Sp) : List Sp := if good s then l.foldl cutF [s] else []
theorem rise_good {a : Nat} : ∀ {l : List Sp}, Rise a l → ∀ y ∈ l, good y = true
  | [], _, _, h => by cases h
  | x :: r, ⟨h1, h2, h3, h4⟩, y, h => by
    rcases List.mem_cons.1 h with rfl | h
    · exact (good_iff _).2 ⟨h2, h3⟩
    · exact rise_good h4 y h
theorem pieces_spec {x : Sp} (hg : good x = true) : ∀ (l : List Sp) (a : Nat), Rise a l → Rise a (l.flatMap (pieces x)) ∧ ∀ p, Mem (l.flatMap (pieces x)) p ↔ Mem l p ∧ has x p = false
  | [], _, _ => ⟨trivial, fun p => by simp [mem_nil]⟩
  | y :: r, a, h => by
    obtain ⟨h1, h2, h3, h4⟩ := h
    obtain ⟨i1, i2⟩ := pieces_spec hg r _ h4
    have gy : good y = true := (good_iff y).2 ⟨h2, h3⟩
    have hlx := last_good hg
    have hly := last_good gy
    have hgx := (good_iff x).1 hg
    have hhas : ∀ p, has x p = false ↔ ¬ (x.1 ≤ p ∧ p < x.1 + x.2) := fun p => by
      rw [← Bool.not_eq_true, has_iff]; simp [hg]
    rw [List.flatMap_cons]
    unfold pieces
    by_cases ho : overlap x y = true
    · rw [if_pos ho]
      have ho' := (overlap_iff x y).1 ho
      by_cases c1 : y.1 < x.1 <;> by_cases c2 : last x < last y
      · rw [if_pos c1, if_pos c2]
        refine ⟨⟨h1, by simp; omega, by simp; omega, by simp; omega, by simp; omega, by simp; omega, i1.mono (by simp; omega)⟩, fun p => ?_⟩
        simp only [List.cons_append, List.nil_append]
        rw [mem_cons, mem_cons, mem_cons]
        erw [i2 p]
        rw [hhas p]
        constructor
        · rintro (h | h | ⟨h, h'⟩)
          · exact ⟨.inl (by simp at h; omega), by simp at h; omega⟩
          · exact ⟨.inl (by simp at h; omega), by simp at h; omega⟩
          · exact ⟨.inr h, h'⟩
        · rintro ⟨h | h, h'⟩
          · simp only; omega
          · exact .inr (.inr ⟨h, h'⟩)
      · rw [if_pos c1, if_neg c2]
        refine ⟨⟨h1, by simp; omega, by simp; omega, i1.mono (by simp; omega)⟩, fun p => ?_⟩
        simp only [List.append_nil, List.cons_append, List.nil_append]
        rw [mem_cons, mem_cons]
        erw [i2 p]
        rw [hhas p]
        constructor
        · rintro (h | ⟨h, h'⟩)
          · exact ⟨.inl (by simp at h; omega), by simp at h; omega⟩
          · exact ⟨.inr h, h'⟩
        · rintro ⟨h | h, h'⟩
          · simp only; omega
          · exact .inr ⟨h, h'⟩
      · rw [if_neg c1, if_pos c2]
        refine ⟨⟨by simp; omega, by simp; omega, by simp; omega, i1.mono (by simp; omega)⟩, fun p => ?_⟩
        simp only [List.cons_append, List.nil_append]
        rw [mem_cons, mem_cons]
        erw [i2 p]
        rw [hhas p]
        constructor
        · rintro (h | ⟨h, h'⟩)
          · exact ⟨.inl (by simp at h; omega), by simp at h; omega⟩
          · exact ⟨.inr h, h'⟩
        · rintro ⟨h | h, h'⟩
          · simp only; omega
          · exact .inr ⟨h, h'⟩
      · rw [if_neg c1, if_neg c2]
        refine ⟨i1.mono (by omega), fun p => ?_⟩
        simp only [List.append_nil, List.nil_append]
        rw [mem_cons]
        erw [i2 p]
        rw [hhas p]
        constructor
        · rintro ⟨h, h'⟩; exact ⟨.inr h, h'⟩
        · rintro ⟨h | h, h'⟩
          · omega
          · exact ⟨h, h'⟩
    · rw [if_neg ho]
      have ho' : ¬ (x.1 < y.1 + y.2 ∧ y.1 < x.1 + x.2) := fun h => ho ((overlap_iff x y).2 ⟨hg, gy, h⟩)
      refine ⟨⟨h1, h2, h3, i1⟩, fun p => ?_⟩
      rw [List.cons_append, List.nil_append, mem_cons, mem_cons]
      erw [i2 p]
      rw [hhas p]
      constructor
      · rintro (h | ⟨h, h'⟩)
        · exact ⟨.inl h, by omega⟩
        · exact ⟨.inr h, h'⟩
      · rintro ⟨h | h, h'⟩
        · exact .inl h
        · exact .inr ⟨h, h'⟩
theorem cut_fold : ∀ (l : List Sp) (out : List Sp), Rise 0 out → Rise 0 (l.foldl cutF out) ∧ ∀ p, Mem (l.foldl cutF out) p ↔ Mem out p ∧ inn l p = false
  | [], out, h => ⟨h, fun p => by simp [inn]⟩
  | x :: r, out, h => by
    rw [List.foldl_cons]
    have hi : ∀ p, inn (x :: r) p = (has x p || inn r p) := fun p => by simp [inn]
    by_cases hg : good x = true
    · have e : cutF out x = out.flatMap (pieces x) := by simp [cutF, hg]
      obtain ⟨k1, k2⟩ := pieces_spec hg out 0 h
      obtain ⟨i1, i2⟩ := cut_fold r _ k1
      rw [e]
      refine ⟨i1, fun p => ?_⟩
      rw [i2 p, k2 p, hi p, Bool.or_eq_false_iff, and_assoc]
    · have e : cutF out x = out := by simp [cutF, hg]
      obtain ⟨i1, i2⟩ := cut_fold r _ h
      rw [e]
      refine ⟨i1, fun p => ?_⟩
      have : has x p = false := by simp [has, hg]
      rw [i2 p, hi p, this, Bool.false_or]
theorem cutS_spec (s : Sp) (l : List Sp) : Rise 0 (cutS s l) ∧ ∀ p, Mem (cutS s l) p ↔ has s p = true ∧ inn l p = false := by
  unfold cutS
  by_cases hg : good s = true
  · rw [if_pos hg]
    have h := (good_iff s).1 hg
    obtain ⟨i1, i2⟩ := cut_fold l [s] ⟨Nat.zero_le _, h.1, h.2, trivial⟩
    refine ⟨i1, fun p => ?_⟩
    rw [i2 p, mem_cons, has_iff]
    simp [mem_nil, hg]
  · rw [if_neg hg]
    refine ⟨trivial, fun p => ⟨fun h => absurd h (mem_nil p), fun h => ?_⟩⟩
    have := ((has_iff s p).1 h.1).1
    exact absurd this hg
theorem split_id : ∀ (l : List Sp), ((0, TT) : Sp) ∉ l → split l = l
  | [], _ => rfl
  | x :: r, h => by
    have h1 : x ≠ (0, TT) := fun e => h (by simp [e])
    have ih := split_id r (fun hm => h (by simp [hm]))
    unfold split at ih ⊢
    rw [List.flatMap_cons, ih]
    simp [h1]
theorem cut_eq' {s : Sp} {l : List Sp} {bs : List Nat} (hs : fit s) (hl : ∀ x ∈ l, fit x) (hb : Borders (s :: l) bs) : runS (leftS s l) bs = cutS s l := by
  have hall : ∀ x ∈ s :: l, fit x := by
    intro x hx
    rcases List.mem_cons.1 hx with h | h
    · exact h ▸ hs
    · exact hl x h
  obtain ⟨L, e, hL, hm⟩ := runs_rise (l := s :: l) hall hb fun q hq hn => left_step hq hn
  obtain ⟨hM, hm2⟩ := cutS_spec s l
  have e3 : ∀ p, leftS s l p = true ↔ has s p = true ∧ inn l p = false := fun p => by simp [leftS]
  have e2 : L = cutS s l := rise_unique hL hM fun p => (hm p).trans ⟨fun h => (hm2 p).2 ((e3 p).1 h.2), fun h => ⟨has_lt ((hm2 p).1 h).1, (e3 p).2 ((hm2 p).1 h)⟩⟩
  rw [e, split_id L, e2]
  intro hmem
  have h0 := ((e3 0).1 ((hm 0).1 ⟨_, hmem, by simp, by simp [TT]⟩).2).1
  have h1 := ((e3 (TT - 1)).1 ((hm (TT - 1)).1 ⟨_, hmem, by simp [TT], by simp [TT]⟩).2).1
  have a := (has_iff s _).1 h0
  have b := (has_iff s _).1 h1
  have := hs.2
  unfold TT at b
  omega
/-- Of lists with the same addresses the cuts are one. -/
theorem cutS_same (s : Sp) (l l' : List Sp) (h : ∀ p, inn l p = inn l' p) : cutS s l = cutS s l' := by
  obtain ⟨h1, h2⟩ := cutS_spec s l
  obtain ⟨k1, k2⟩ := cutS_spec s l'
  exact rise_unique h1 k1 fun p => by rw [h2 p, k2 p, h p]
theorem split_mem : ∀ (l : List Sp) (p : Nat), Mem (split l) p ↔ Mem l p
  | [], p => by simp [split, mem_nil]
  | x :: r, p => by
    have ih := split_mem r p
    unfold split at ih ⊢
    rw [List.flatMap_cons, mem_cons]
    by_cases h : x = (0, TT)
    · subst h
      rw [if_pos rfl]
      simp only [List.cons_append, List.nil_append]
      rw [mem_cons, mem_cons, ih]
      have a : half + half = TT := rfl
      have b : half ≤ TT := by decide
      constructor
      · rintro (h | h | h)
        · exact .inl (by simp at h ⊢; omega)
        · exact .inl (by simp at h ⊢; omega)
        · exact .inr h
      · rintro (h | h)
        · by_cases h' : p < half
          · exact .inl (by simp; omega)
          · exact .inr (.inl (by simp at h ⊢; omega))
        · exact .inr (.inr h)
    · rw [if_neg h]
      simp only [List.cons_append, List.nil_append]
      rw [mem_cons, ih]
theorem mem_inn {l : List Sp} (hl : ∀ x ∈ l, good x = true) (p : Nat) : inn l p = true ↔ Mem l p := by
  rw [inn_iff]
  exact ⟨fun ⟨x, hx, h⟩ => ⟨x, hx, ((has_iff x p).1 h).2⟩, fun ⟨x, hx, h⟩ => ⟨x, hx, (has_iff x p).2 ⟨hl x hx, h⟩⟩⟩
theorem split_good {l : List Sp} (hl : ∀ x ∈ l, good x = true) : ∀ x ∈ split l, good x = true := by
  intro x hx
  obtain ⟨y, hy, h⟩ := List.mem_flatMap.1 hx
  by_cases e : y = (0, TT)
  · rw [if_pos e] at h
    simp at h
    rcases h with rfl | rfl <;> decide
  · rw [if_neg e] at h
    rw [List.mem_singleton] at h
    rw [h]
    exact hl y hy
/-- P2.5 -/
theorem inn_mergeS (l : List Sp) (p : Nat) : inn (mergeS l) p = inn l p := by
  obtain ⟨L, e, hL, hm⟩ := mergeS_eq l
  rw [Bool.eq_iff_iff, e, mem_inn (split_good (rise_good hL)), split_mem, hm p]
theorem inn_cutS (s : Sp) (l : List Sp) (p : Nat) : inn (cutS s l) p = leftS s l p := by
  obtain ⟨hM, hm⟩ := cutS_spec s l
  rw [Bool.eq_iff_iff, mem_inn (rise_good hM), hm p]
  simp [leftS]
end Go.Proofs.Ytgnihceefpijiaa
