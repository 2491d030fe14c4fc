/- Merged: Spans, Mem, Row, Law, Open, Held, Vs9, App, Vec, Turn, Pm. -/
import Derived.Lib.Hide
import Derived.Below
import Derived.WalkKit
import Derived.Laws.OwnMore
import Derived.Deep.Draws
import Derived.Deep.QuietTactic
import Derived.IntWalk
import Derived.ProofKit
import Derived.OpenShut
import Derived.Deep.DeepHandedRow
import Derived.Lib.LaidTab
import Derived.Lib.SmallJoins
import Derived.Deep.Slices
import Derived.Deep.Fields
import Derived.ChangeSame
import Derived.Deep.RegionHeld
import Derived.Deep.Cut
import Derived.BigQuiet
import Derived.Maps.AppendAt
import Derived.Deep.AppendLies
import Derived.RegionTactic
import Derived.OwnWalk
import Derived.Deep.WholeRow
import Derived.Laws.CopyRow
import Derived.Maps.RangeWalk
/- Stretches of addresses as pairs (base, size), and lists of such as sets. Own lemmas; no program. -/
namespace Go.Proofs.Ytbemphfijkcbhaa

abbrev Sp := Nat × Nat
def TT : Nat := 18446744073709551616
def fit (x : Sp) : Prop := x.1 < 18446744073709551616 ∧ x.2 < 18446744073709551616
def good (x : Sp) : Bool := decide (0 < x.2) && decide (x.1 + x.2 ≤ 18446744073709551616)
def last (x : Sp) : Nat := if good x then x.1 + x.2 - 1 else 0
def has (x : Sp) (p : Nat) : Bool := good x && (decide (x.1 ≤ p) && decide (p < x.1 + x.2))
def overlap (x y : Sp) : Bool := good x && (good y && (decide (x.1 < y.1 + y.2) && decide (y.1 < x.1 + x.2)))
def within (x y : Sp) : Bool := good x && (good y && (decide (y.1 ≤ x.1) && decide (x.1 + x.2 ≤ y.1 + y.2)))
def paged (x : Sp) : Bool := good x && (decide (x.1 % 4096 = 0) && decide (x.2 % 4096 = 0))
def inn (l : List Sp) (p : Nat) : Bool := l.any fun x => has x p

theorem good_iff (x : Sp) : good x = true ↔ 0 < x.2 ∧ x.1 + x.2 ≤ 18446744073709551616 := by simp [good]
theorem has_iff (x : Sp) (p : Nat) : has x p = true ↔ good x = true ∧ x.1 ≤ p ∧ p < x.1 + x.2 := by simp [has]
theorem overlap_iff (x y : Sp) : overlap x y = true ↔ good x = true ∧ good y = true ∧ x.1 < y.1 + y.2 ∧ y.1 < x.1 + x.2 := by simp [overlap]
theorem inn_iff (l : List Sp) (p : Nat) : inn l p = true ↔ ∃ x ∈ l, has x p = true := by simp [inn]
theorem last_good {x : Sp} (h : good x = true) : last x + 1 = x.1 + x.2 := by
  unfold last; rw [if_pos h]; have := (good_iff x).1 h; omega
theorem last_bad {x : Sp} (h : good x = false) : last x = 0 := by unfold last; rw [h]; rfl
theorem last_lt (x : Sp) : last x < 18446744073709551616 := by
  by_cases h : good x = true
  · have := last_good h; have := (good_iff x).1 h; omega
  · rw [last_bad (by simpa using h)]; decide

/-! ### rising lists: what the addresses fix -/
def Rise : Nat → List Sp → Prop
  | _, [] => True
  | lo, x :: r => lo ≤ x.1 ∧ 0 < x.2 ∧ x.1 + x.2 ≤ TT ∧ Rise (x.1 + x.2 + 1) r
def Mem (l : List Sp) (p : Nat) : Prop := ∃ x ∈ l, x.1 ≤ p ∧ p < x.1 + x.2
theorem Rise.mono {a b : Nat} (h : a ≤ b) : ∀ {l : List Sp}, Rise b l → Rise a l
  | [], _ => trivial
  | _ :: _, ⟨h1, h2, h3, h4⟩ => ⟨Nat.le_trans h h1, h2, h3, h4⟩
theorem Rise.lo {a p : Nat} : ∀ {l : List Sp}, Rise a l → Mem l p → a ≤ p
  | [], _, ⟨_, hx, _⟩ => by cases hx
  | y :: r, ⟨h1, h2, h3, h4⟩, ⟨x, hx, hp1, hp2⟩ => by
    rcases List.mem_cons.1 hx with rfl | hx
    · omega
    · have := Rise.lo h4 ⟨x, hx, hp1, hp2⟩; omega
theorem mem_cons {x : Sp} {r : List Sp} {p : Nat} : Mem (x :: r) p ↔ (x.1 ≤ p ∧ p < x.1 + x.2) ∨ Mem r p := by
  constructor
  · rintro ⟨y, hy, h⟩
    rcases List.mem_cons.1 hy with rfl | hy
    · exact .inl h
    · exact .inr ⟨y, hy, h⟩
  · rintro (h | ⟨y, hy, h⟩)
    · exact ⟨x, by simp, h⟩
    · exact ⟨y, by simp [hy], h⟩
theorem mem_nil (p : Nat) : ¬ Mem [] p := fun ⟨_, h, _⟩ => by cases h
theorem rise_unique : ∀ {l l' : List Sp} {a a' : Nat}, Rise a l → Rise a' l' → (∀ p, Mem l p ↔ Mem l' p) → l = l'
  | [], [], _, _, _, _, _ => rfl
  | [], y :: r', _, _, _, ⟨_, h2, _, _⟩, h => absurd ((h y.1).2 (mem_cons.2 (.inl ⟨Nat.le_refl _, by omega⟩))) (mem_nil _)
  | x :: r, [], _, _, ⟨_, h2, _, _⟩, _, h => absurd ((h x.1).1 (mem_cons.2 (.inl ⟨Nat.le_refl _, by omega⟩))) (mem_nil _)
  | x :: r, y :: r', a, a', ⟨h1, h2, h3, h4⟩, ⟨k1, k2, k3, k4⟩, h => by
    have lo1 : y.1 ≤ x.1 := by
      rcases mem_cons.1 ((h x.1).1 (mem_cons.2 (.inl ⟨Nat.le_refl _, by omega⟩))) with h' | h'
      · exact h'.1
      · have := k4.lo h'; omega
    have lo2 : x.1 ≤ y.1 := by
      rcases mem_cons.1 ((h y.1).2 (mem_cons.2 (.inl ⟨Nat.le_refl _, by omega⟩))) with h' | h'
      · exact h'.1
      · have := h4.lo h'; omega
    have hi1 : ¬ x.1 + x.2 < y.1 + y.2 := fun hlt => by
      rcases mem_cons.1 ((h (x.1 + x.2)).2 (mem_cons.2 (.inl ⟨by omega, hlt⟩))) with h' | h'
      · omega
      · have := h4.lo h'; omega
    have hi2 : ¬ y.1 + y.2 < x.1 + x.2 := fun hlt => by
      rcases mem_cons.1 ((h (y.1 + y.2)).1 (mem_cons.2 (.inl ⟨by omega, hlt⟩))) with h' | h'
      · omega
      · have := k4.lo h'; omega
    have e : x = y := Prod.ext (by omega) (by omega)
    subst e
    refine congrArg _ (rise_unique h4 k4 fun p => ⟨fun hp => ?_, fun hp => ?_⟩)
    · have hl := h4.lo hp
      rcases mem_cons.1 ((h p).1 (mem_cons.2 (.inr hp))) with h' | h'
      · omega
      · exact h'
    · have hl := k4.lo hp
      rcases mem_cons.1 ((h p).2 (mem_cons.2 (.inr hp))) with h' | h'
      · omega
      · exact h'

/-! ### runs: along the borders -/
def half : Nat := 9223372036854775808
def topS (f : Nat) : List Sp := if f = 0 then [(0, half), (half, half)] else [(f, TT - f)]
/-- One border: (from, open, out). -/
def stepS (must : Nat → Bool) (st : Nat × Bool × List Sp) (p : Nat) : Nat × Bool × List Sp :=
  (if must p && !st.2.1 then p else st.1, must p, if st.2.1 && !must p then st.2.2 ++ [(st.1, p - st.1)] else st.2.2)
def foldS (must : Nat → Bool) (bs : List Nat) : Nat × Bool × List Sp := bs.foldl (stepS must) (0, false, [])
def runS (must : Nat → Bool) (bs : List Nat) : List Sp :=
  if (foldS must bs).2.1 then (foldS must bs).2.2 ++ topS (foldS must bs).1 else (foldS must bs).2.2
theorem foldS_snoc (must : Nat → Bool) (bs : List Nat) (p : Nat) : foldS must (bs ++ [p]) = stepS must (foldS must bs) p := by simp [foldS]
/-- All addresses in one become two. -/
def split (l : List Sp) : List Sp := l.flatMap fun x => if x = (0, TT) then [(0, half), (half, half)] else [x]

def runR (must : Nat → Bool) : List Nat → Nat → Bool → List Sp
  | [], f, o => if o then [(f, TT - f)] else []
  | a :: r, f, o => if o && !must a then (f, a - f) :: runR must r f false else runR must r (if must a && !o then a else f) (must a)
def Follows (must : Nat → Bool) : Nat → Bool → List Nat → Prop
  | p, o, [] => p ≤ TT ∧ ∀ q, p ≤ q → q < TT → must q = o
  | p, o, a :: r => p ≤ a ∧ a < TT ∧ (∀ q, p ≤ q → q < a → must q = o) ∧ Follows must (a + 1) (must a) r

theorem runR_spec (must : Nat → Bool) : ∀ (bs : List Nat),
    (∀ p f, Follows must p true bs → f < p → Rise f (runR must bs f true) ∧ ∀ q, Mem (runR must bs f true) q ↔ (f ≤ q ∧ q < p) ∨ (p ≤ q ∧ q < TT ∧ must q = true)) ∧
    (∀ p f, Follows must p false bs → Rise p (runR must bs f false) ∧ ∀ q, Mem (runR must bs f false) q ↔ (p ≤ q ∧ q < TT ∧ must q = true))
  | [] => by
    refine ⟨fun p f ⟨h1, h2⟩ hf => ?_, fun p f ⟨h1, h2⟩ => ?_⟩
    · have e : runR must [] f true = [(f, TT - f)] := rfl
      rw [e]
      refine ⟨⟨Nat.le_refl _, by simp; omega, by simp; omega, trivial⟩, fun q => ?_⟩
      rw [mem_cons]
      simp only [mem_nil, or_false]
      constructor
      · intro h
        rcases Nat.lt_or_ge q p with h' | h'
        · exact .inl ⟨h.1, h'⟩
        · exact .inr ⟨h', by omega, h2 q h' (by omega)⟩
      · rintro (h | h) <;> omega
    · have e : runR must [] f false = [] := rfl
      rw [e]
      refine ⟨trivial, fun q => ⟨fun h => absurd h (mem_nil _), fun ⟨h, h', h''⟩ => ?_⟩⟩
      rw [h2 q h h'] at h''; cases h''
  | a :: r => by
    have ih := runR_spec must r
    refine ⟨fun p f ⟨h1, h2, h3, h4⟩ hf => ?_, fun p f ⟨h1, h2, h3, h4⟩ => ?_⟩
    · by_cases hm : must a = true
      · have e : runR must (a :: r) f true = runR must r f true := by simp [runR, hm]
        rw [hm] at h4
        obtain ⟨i1, i2⟩ := ih.1 (a + 1) f h4 (by omega)
        rw [e]
        refine ⟨i1, fun q => (i2 q).trans ⟨?_, ?_⟩⟩
        · rintro (h | h)
          · rcases Nat.lt_or_ge q p with h' | h'
            · exact .inl ⟨h.1, h'⟩
            · refine .inr ⟨h', by omega, ?_⟩
              rcases Nat.lt_or_ge q a with h'' | h''
              · exact h3 q h' h''
              · obtain rfl : q = a := by omega
                exact hm
          · exact .inr ⟨by omega, h.2⟩
        · rintro (h | h)
          · exact .inl (by omega)
          · rcases Nat.lt_or_ge q (a + 1) with h' | h'
            · exact .inl (by omega)
            · exact .inr ⟨h', h.2⟩
      · have hm' : must a = false := by simpa using hm
        have e : runR must (a :: r) f true = (f, a - f) :: runR must r f false := by simp [runR, hm']
        rw [hm'] at h4
        obtain ⟨i1, i2⟩ := ih.2 (a + 1) f h4
        rw [e]
        refine ⟨⟨Nat.le_refl _, by simp; omega, by simp; omega, i1.mono (by simp; omega)⟩, fun q => ?_⟩
        rw [mem_cons, i2 q]
        simp only
        constructor
        · rintro (h | h)
          · rcases Nat.lt_or_ge q p with h' | h'
            · exact .inl ⟨h.1, h'⟩
            · exact .inr ⟨h', by omega, h3 q h' (by omega)⟩
          · exact .inr ⟨by omega, h.2⟩
        · rintro (h | h)
          · exact .inl (by omega)
          · rcases Nat.lt_or_ge q a with h' | h'
            · exact .inl (by omega)
            · rcases Nat.lt_or_ge a q with h'' | h''
              · exact .inr ⟨h'', h.2⟩
              · obtain rfl : q = a := by omega
                rw [hm'] at h; exact absurd h.2.2 (by simp)
    · by_cases hm : must a = true
      · have e : runR must (a :: r) f false = runR must r a true := by simp [runR, hm]
        rw [hm] at h4
        obtain ⟨i1, i2⟩ := ih.1 (a + 1) a h4 (by omega)
        rw [e]
        refine ⟨i1.mono h1, fun q => (i2 q).trans ⟨?_, ?_⟩⟩
        · rintro (h | h)
          · obtain rfl : q = a := by omega
            exact ⟨h1, h2, hm⟩
          · exact ⟨by omega, h.2⟩
        · rintro h
          rcases Nat.lt_or_ge q a with h' | h'
          · rw [h3 q h.1 h'] at h; exact absurd h.2.2 (by simp)
          · rcases Nat.lt_or_ge a q with h'' | h''
            · exact .inr ⟨h'', h.2⟩
            · exact .inl (by omega)
      · have hm' : must a = false := by simpa using hm
        have e : runR must (a :: r) f false = runR must r f false := by simp [runR, hm']
        rw [hm'] at h4
        obtain ⟨i1, i2⟩ := ih.2 (a + 1) f h4
        rw [e]
        refine ⟨i1.mono (by omega), fun q => (i2 q).trans ⟨fun h => ⟨by omega, h.2⟩, fun h => ?_⟩⟩
        rcases Nat.lt_or_ge q a with h' | h'
        · rw [h3 q h.1 h'] at h; exact absurd h.2.2 (by simp)
        · rcases Nat.lt_or_ge a q with h'' | h''
          · exact ⟨h'', h.2⟩
          · obtain rfl : q = a := by omega
            rw [hm'] at h; exact absurd h.2.2 (by simp)

def finS (st : Nat × Bool × List Sp) : List Sp := if st.2.1 then st.2.2 ++ topS st.1 else st.2.2
theorem split_cons_lt (f a : Nat) (h : a < TT) (r : List Sp) : split ((f, a - f) :: r) = (f, a - f) :: split r := by
  have : ¬ (((f, a - f) : Sp) = (0, TT)) := by
    intro e
    injection e with e1 e2
    omega
  simp [split, this]
theorem topS_split (f : Nat) : topS f = split [(f, TT - f)] := by
  unfold topS split
  by_cases h : f = 0
  · subst h; simp
  · simp [h]
theorem fin_fold (must : Nat → Bool) : ∀ (bs : List Nat) (f : Nat) (o : Bool) (out : List Sp), (∀ b ∈ bs, b < TT) →
    finS (bs.foldl (stepS must) (f, o, out)) = out ++ split (runR must bs f o)
  | [], f, o, out, _ => by
    cases o
    · simp [finS, runR, split]
    · have e : runR must [] f true = [(f, TT - f)] := rfl
      simp only [List.foldl_nil, finS, if_true]
      rw [e, topS_split]
  | a :: r, f, o, out, h => by
    have ha := h a (by simp)
    have hr : ∀ b ∈ r, b < TT := fun b hb => h b (by simp [hb])
    rw [List.foldl_cons]
    cases o <;> cases hm : must a
    · have e : stepS must (f, false, out) a = (f, false, out) := by simp [stepS, hm]
      rw [e, fin_fold must r _ _ _ hr]; simp [runR, hm]
    · have e : stepS must (f, false, out) a = (a, true, out) := by simp [stepS, hm]
      rw [e, fin_fold must r _ _ _ hr]; simp [runR, hm]
    · have e : stepS must (f, true, out) a = (f, false, out ++ [(f, a - f)]) := by simp [stepS, hm]
      rw [e, fin_fold must r _ _ _ hr]
      have e2 : runR must (a :: r) f true = (f, a - f) :: runR must r f false := by simp [runR, hm]
      rw [e2, split_cons_lt _ _ ha]; simp
    · have e : stepS must (f, true, out) a = (f, true, out) := by simp [stepS, hm]
      rw [e, fin_fold must r _ _ _ hr]; simp [runR, hm]
theorem runS_eq (must : Nat → Bool) (bs : List Nat) (h : ∀ b ∈ bs, b < TT) : runS must bs = split (runR must bs 0 false) := by
  have := fin_fold must bs 0 false [] h
  rw [List.nil_append] at this
  exact this

/-! ### what the borders must be -/
theorem follows_of (must : Nat → Bool) : ∀ (bs : List Nat) (p : Nat) (o : Bool), p ≤ TT → bs.Pairwise (· < ·) → (∀ b ∈ bs, p ≤ b ∧ b < TT) →
    (p = 0 → o = false) → (0 < p → must (p - 1) = o) → (∀ q, p ≤ q → q < TT → q ∉ bs → (q = 0 → must q = false) ∧ (0 < q → must q = must (q - 1))) → Follows must p o bs
  | [], p, o, hp, _, _, h0, h1, hs => by
    refine ⟨hp, fun q => ?_⟩
    induction q with
    | zero => intro hq hT; rw [(hs 0 hq hT (by simp)).1 rfl, h0 (by omega)]
    | succ q ih =>
      intro hq hT
      have e := (hs (q + 1) hq hT (by simp)).2 (by omega)
      rw [e]
      rcases Nat.lt_or_ge q p with h | h
      · have : p = q + 1 := by omega
        subst this
        exact h1 (by omega)
      · exact ih h (by omega)
  | a :: r, p, o, hp, hpw, hb, h0, h1, hs => by
    obtain ⟨ha1, ha2⟩ := hb a (by simp)
    obtain ⟨hp1, hp2⟩ := List.pairwise_cons.1 hpw
    have flat : ∀ q, p ≤ q → q < a → must q = o := by
      intro q
      have hn : ∀ q, q < a → q ∉ a :: r := fun q hq hm => by
        rcases List.mem_cons.1 hm with rfl | hm
        · omega
        · have := hp1 q hm; omega
      induction q with
      | zero => intro hq hqa; rw [(hs 0 hq (by omega) (hn 0 hqa)).1 rfl, h0 (by omega)]
      | succ q ih =>
        intro hq hqa
        rw [(hs (q + 1) hq (by omega) (hn _ hqa)).2 (by omega)]
        rcases Nat.lt_or_ge q p with h | h
        · have : p = q + 1 := by omega
          subst this
          exact h1 (by omega)
        · exact ih h (by omega)
    refine ⟨ha1, ha2, flat, follows_of must r (a + 1) (must a) (by omega) hp2 (fun b hbr => ⟨hp1 b hbr, (hb b (by simp [hbr])).2⟩) (by omega) (fun _ => by simp) fun q hq hT hn => hs q (by omega) hT ?_⟩
    intro hm
    rcases List.mem_cons.1 hm with rfl | hm
    · omega
    · exact hn hm

/-- The borders of some spans: where a good one begins, or right behind where it ended. -/
def ends1 (x : Sp) : List Nat := if good x then x.1 :: (if last x < 18446744073709551615 then [last x + 1] else []) else []
def allB (l : List Sp) : List Nat := l.flatMap ends1
def Borders (l : List Sp) (bs : List Nat) : Prop := bs.Pairwise (· < ·) ∧ ∀ b, b ∈ bs ↔ b ∈ allB l
theorem ends1_mem {x : Sp} {b : Nat} : b ∈ ends1 x ↔ good x = true ∧ (b = x.1 ∨ (b = x.1 + x.2 ∧ b < 18446744073709551616)) := by
  unfold ends1
  by_cases h : good x = true
  · have hl := last_good h
    have hg := (good_iff x).1 h
    rw [if_pos h]
    by_cases h2 : last x < 18446744073709551615
    · rw [if_pos h2]; simp [h]; omega
    · rw [if_neg h2]; simp [h]; omega
  · rw [if_neg h]; simp [h]
theorem allB_lt {l : List Sp} (_ : ∀ x ∈ l, fit x) {b : Nat} (h : b ∈ allB l) : b < TT := by
  obtain ⟨x, hx, hb⟩ := List.mem_flatMap.1 h
  obtain ⟨hg, h1 | h1⟩ := ends1_mem.1 hb
  · have := (good_iff x).1 hg; unfold TT; omega
  · exact h1.2
theorem allB_inn_step {l : List Sp} {q : Nat} (hq : q < TT) (hn : q ∉ allB l) : (q = 0 → inn l q = false) ∧ (0 < q → inn l q = inn l (q - 1)) := by
  have key : ∀ x ∈ l, good x = true → q ≠ x.1 ∧ q ≠ x.1 + x.2 := fun x hx hg => by
    refine ⟨fun e => hn ?_, fun e => hn ?_⟩
    · exact List.mem_flatMap.2 ⟨x, hx, ends1_mem.2 ⟨hg, .inl e⟩⟩
    · exact List.mem_flatMap.2 ⟨x, hx, ends1_mem.2 ⟨hg, .inr ⟨e, hq⟩⟩⟩
  refine ⟨fun h0 => ?_, fun h0 => ?_⟩
  · cases hi : inn l q with
    | false => rfl
    | true =>
      obtain ⟨x, hx, hh⟩ := (inn_iff l q).1 hi
      obtain ⟨hg, h1, h2⟩ := (has_iff x q).1 hh
      have := key x hx hg
      omega
  · rw [Bool.eq_iff_iff, inn_iff, inn_iff]
    constructor
    · rintro ⟨x, hx, hh⟩
      obtain ⟨hg, h1, h2⟩ := (has_iff x q).1 hh
      have := key x hx hg
      exact ⟨x, hx, (has_iff x _).2 ⟨hg, by omega, by omega⟩⟩
    · rintro ⟨x, hx, hh⟩
      obtain ⟨hg, h1, h2⟩ := (has_iff x _).1 hh
      have := key x hx hg
      exact ⟨x, hx, (has_iff x _).2 ⟨hg, by omega, by omega⟩⟩
def leftS (s : Sp) (l : List Sp) (p : Nat) : Bool := has s p && !inn l p
theorem inn_one (s : Sp) (p : Nat) : inn [s] p = has s p := by simp [inn]
theorem left_step {s : Sp} {l : List Sp} {q : Nat} (hq : q < TT) (hn : q ∉ allB (s :: l)) : (q = 0 → leftS s l q = false) ∧ (0 < q → leftS s l q = leftS s l (q - 1)) := by
  have hn1 : q ∉ allB [s] := fun h => hn (by simp [allB] at h ⊢; exact .inl h)
  have hn2 : q ∉ allB l := fun h => hn (by simp [allB] at h ⊢; exact .inr h)
  obtain ⟨a1, a2⟩ := allB_inn_step hq hn1
  obtain ⟨b1, b2⟩ := allB_inn_step hq hn2
  simp only [inn_one] at a1 a2
  refine ⟨fun h => by simp [leftS, a1 h], fun h => by simp only [leftS, a2 h, b2 h]⟩
theorem runs_rise {must : Nat → Bool} {l : List Sp} {bs : List Nat} (hl : ∀ x ∈ l, fit x) (hb : Borders l bs) (hs : ∀ q, q < TT → q ∉ allB l → (q = 0 → must q = false) ∧ (0 < q → must q = must (q - 1))) :
    ∃ L, runS must bs = split L ∧ Rise 0 L ∧ ∀ q, Mem L q ↔ q < TT ∧ must q = true := by
  have hlt : ∀ b ∈ bs, b < TT := fun b h => allB_lt hl ((hb.2 b).1 h)
  have hF : Follows must 0 false bs := follows_of must bs 0 false (Nat.zero_le _) hb.1 (fun b h => ⟨Nat.zero_le _, hlt b h⟩) (fun _ => rfl) (fun h => by omega) (fun q _ hq hn => hs q hq (fun h => hn ((hb.2 q).2 h)))
  obtain ⟨h1, h2⟩ := (runR_spec must bs).2 0 0 hF
  exact ⟨_, runS_eq must bs hlt, h1, fun q => (h2 q).trans ⟨fun h => h.2, fun h => ⟨Nat.zero_le _, h⟩⟩⟩

/-! ### the reference's Merge -/
def insStep (st : List Sp × Bool × Sp) (x : Sp) : List Sp × Bool × Sp :=
  if x.2 + 1 < st.2.2.1 then (st.1 ++ [x], st.2.1, st.2.2)
  else if st.2.2.2 + 1 < x.1 then ((if st.2.1 then st.1 else st.1 ++ [st.2.2]) ++ [x], true, st.2.2)
  else (st.1, st.2.1, (min x.1 st.2.2.1, max x.2 st.2.2.2))
def insFin (st : List Sp × Bool × Sp) : List Sp := if st.2.1 then st.1 else st.1 ++ [st.2.2]
def insS (l : List Sp) (s : Sp) : List Sp := insFin (l.foldl insStep ([], false, s))
def mergeE (l : List Sp) : List Sp := l.foldl (fun all x => if good x then insS all (x.1, last x) else all) []
def outE (e : Sp) : List Sp := if e.1 = 0 ∧ e.2 = 18446744073709551615 then [(0, half), (half, half)] else [(e.1, e.2 - e.1 + 1)]
def mergeS (l : List Sp) : List Sp := (mergeE l).flatMap outE

def ERise : Nat → List Sp → Prop
  | _, [] => True
  | lo, x :: r => lo ≤ x.1 ∧ x.1 ≤ x.2 ∧ x.2 < TT ∧ ERise (x.2 + 2) r
def EMem (l : List Sp) (p : Nat) : Prop := ∃ x ∈ l, x.1 ≤ p ∧ p ≤ x.2
theorem ERise.mono {a b : Nat} (h : a ≤ b) : ∀ {l : List Sp}, ERise b l → ERise a l
  | [], _ => trivial
  | _ :: _, ⟨h1, h2, h3, h4⟩ => ⟨Nat.le_trans h h1, h2, h3, h4⟩
theorem emem_cons {x : Sp} {r : List Sp} {p : Nat} : EMem (x :: r) p ↔ (x.1 ≤ p ∧ p ≤ x.2) ∨ EMem r p := by
  constructor
  · rintro ⟨y, hy, h⟩
    rcases List.mem_cons.1 hy with rfl | hy
    · exact .inl h
    · exact .inr ⟨y, hy, h⟩
  · rintro (h | ⟨y, hy, h⟩)
    · exact ⟨x, by simp, h⟩
    · exact ⟨y, by simp [hy], h⟩
theorem emem_nil (p : Nat) : ¬ EMem [] p := fun ⟨_, h, _⟩ => by cases h
def insR : List Sp → Sp → Bool → List Sp
  | [], s, d => if d then [] else [s]
  | x :: r, s, d => if x.2 + 1 < s.1 then x :: insR r s d else if s.2 + 1 < x.1 then (if d then [] else [s]) ++ x :: insR r s true else insR r (min x.1 s.1, max x.2 s.2) d
theorem ins_fold : ∀ (l : List Sp) (out : List Sp) (d : Bool) (s : Sp), insFin (l.foldl insStep (out, d, s)) = out ++ insR l s d
  | [], out, d, s => by cases d <;> simp [insFin, insR]
  | x :: r, out, d, s => by
    rw [List.foldl_cons]
    by_cases h1 : x.2 + 1 < s.1
    · have e : insStep (out, d, s) x = (out ++ [x], d, s) := by simp [insStep, h1]
      rw [e, ins_fold r]; simp [insR, h1]
    · by_cases h2 : s.2 + 1 < x.1
      · have e : insStep (out, d, s) x = ((if d then out else out ++ [s]) ++ [x], true, s) := by simp [insStep, h1, h2]
        rw [e, ins_fold r]
        cases d <;> simp [insR, h1, h2]
      · have e : insStep (out, d, s) x = (out, d, (min x.1 s.1, max x.2 s.2)) := by simp [insStep, h1, h2]
        rw [e, ins_fold r]; simp [insR, h1, h2]
theorem insR_done : ∀ (l : List Sp) (s : Sp), s.1 ≤ s.2 → ERise (s.2 + 2) l → insR l s true = l
  | [], _, _, _ => rfl
  | x :: r, s, hs, ⟨h1, h2, h3, h4⟩ => by
    have e1 : ¬ x.2 + 1 < s.1 := by omega
    have e2 : s.2 + 1 < x.1 := by omega
    simp only [insR, e1, e2, if_true, if_false, List.nil_append]
    rw [insR_done r s hs (h4.mono (by omega))]
theorem insR_spec : ∀ (l : List Sp) (lo : Nat) (s : Sp), ERise lo l → lo ≤ s.1 → s.1 ≤ s.2 → s.2 < TT → ERise lo (insR l s false) ∧ ∀ p, EMem (insR l s false) p ↔ EMem l p ∨ (s.1 ≤ p ∧ p ≤ s.2)
  | [], lo, s, _, h1, h2, h3 => by
    have e : insR [] s false = [s] := rfl
    rw [e]
    exact ⟨⟨h1, h2, h3, trivial⟩, fun p => by rw [emem_cons]; simp [emem_nil]⟩
  | x :: r, lo, s, ⟨k1, k2, k3, k4⟩, h1, h2, h3 => by
    by_cases c1 : x.2 + 1 < s.1
    · have e : insR (x :: r) s false = x :: insR r s false := by simp [insR, c1]
      obtain ⟨i1, i2⟩ := insR_spec r (x.2 + 2) s k4 (by omega) h2 h3
      rw [e]
      refine ⟨⟨k1, k2, k3, i1⟩, fun p => ?_⟩
      rw [emem_cons, emem_cons, i2 p, or_assoc]
    · by_cases c2 : s.2 + 1 < x.1
      · have e : insR (x :: r) s false = s :: x :: r := by
          have := insR_done r s h2 (k4.mono (by omega))
          simp [insR, c1, c2, this]
        rw [e]
        refine ⟨⟨h1, h2, h3, by omega, k2, k3, k4⟩, fun p => ?_⟩
        rw [emem_cons]; exact or_comm
      · have e : insR (x :: r) s false = insR r (min x.1 s.1, max x.2 s.2) false := by simp [insR, c1, c2]
        obtain ⟨i1, i2⟩ := insR_spec r lo (min x.1 s.1, max x.2 s.2) (k4.mono (by omega)) (by simp; omega) (by simp; omega) (by simp; omega)
        rw [e]
        refine ⟨i1, fun p => ?_⟩
        rw [i2 p, emem_cons]
        simp only
        constructor
        · rintro (h | h)
          · exact .inl (.inr h)
          · by_cases hx : x.1 ≤ p ∧ p ≤ x.2
            · exact .inl (.inl hx)
            · exact .inr (by omega)
        · rintro ((h | h) | h)
          · exact .inr (by omega)
          · exact .inl h
          · exact .inr (by omega)
theorem mergeE_spec (l : List Sp) : ERise 0 (mergeE l) ∧ ∀ p, EMem (mergeE l) p ↔ inn l p = true := by
  have main : ∀ (r done all : List Sp), ERise 0 all → (∀ p, EMem all p ↔ inn done p = true) →
      ERise 0 (r.foldl (fun all x => if good x then insS all (x.1, last x) else all) all) ∧ ∀ p, EMem (r.foldl (fun all x => if good x then insS all (x.1, last x) else all) all) p ↔ inn (done ++ r) p = true := by
    intro r
    induction r with
    | nil => intro done all h1 h2; simpa using ⟨h1, h2⟩
    | cons x r ih =>
      intro done all h1 h2
      rw [List.foldl_cons]
      have e : done ++ x :: r = (done ++ [x]) ++ r := by simp
      rw [e]
      have hi : ∀ p, inn (done ++ [x]) p = (inn done p || has x p) := fun p => by simp [inn]
      by_cases hg : good x = true
      · rw [if_pos hg]
        have hl := last_good hg
        have hgi := (good_iff x).1 hg
        have eI : insS all (x.1, last x) = insR all (x.1, last x) false := by
          have := ins_fold all [] false (x.1, last x)
          simpa [insS] using this
        rw [eI]
        obtain ⟨i1, i2⟩ := insR_spec all 0 (x.1, last x) h1 (Nat.zero_le _) (by simp; omega) (by have := last_lt x; unfold TT; simpa using this)
        refine ih (done ++ [x]) _ i1 fun p => ?_
        rw [i2 p, h2 p, hi p]
        simp only [Bool.or_eq_true, has_iff, hg, true_and]
        constructor
        · rintro (h | h)
          · exact .inl h
          · exact .inr (by omega)
        · rintro (h | h)
          · exact .inl h
          · exact .inr (by omega)
      · rw [if_neg hg]
        refine ih (done ++ [x]) _ h1 fun p => ?_
        rw [h2 p, hi p]
        have : has x p = false := by simp [has, hg]
        rw [this, Bool.or_false]
  have := main l [] [] trivial (fun p => by simp [emem_nil, inn])
  simpa [mergeE] using this
def toSp (e : Sp) : Sp := (e.1, e.2 - e.1 + 1)
theorem outE_split : ∀ (l : List Sp) (a : Nat), ERise a l → l.flatMap outE = split (l.map toSp)
  | [], _, _ => rfl
  | x :: r, a, ⟨h1, h2, h3, h4⟩ => by
    have ih := outE_split r _ h4
    simp only [List.flatMap_cons, List.map_cons]
    rw [ih]
    unfold split
    rw [List.flatMap_cons]
    congr 1
    unfold outE toSp
    have e : (x.1 = 0 ∧ x.2 = 18446744073709551615) ↔ (((x.1, x.2 - x.1 + 1) : Sp) = (0, TT)) := by
      rw [Prod.mk.injEq]; unfold TT at h3 ⊢; omega
    by_cases h : x.1 = 0 ∧ x.2 = 18446744073709551615
    · rw [if_pos h, if_pos (e.1 h)]
    · rw [if_neg h, if_neg (fun h' => h (e.2 h'))]
theorem erise_rise : ∀ (l : List Sp) (a : Nat), ERise a l → Rise a (l.map toSp)
  | [], _, _ => trivial
  | x :: r, a, ⟨h1, h2, h3, h4⟩ => ⟨h1, by simp [toSp], by simp [toSp]; omega, (erise_rise r _ h4).mono (by simp [toSp]; omega)⟩
theorem emem_mem : ∀ (l : List Sp) (a p : Nat), ERise a l → (Mem (l.map toSp) p ↔ EMem l p)
  | [], _, p, _ => ⟨fun h => absurd h (mem_nil p), fun h => absurd h (emem_nil p)⟩
  | x :: r, a, p, ⟨h1, h2, h3, h4⟩ => by
    rw [List.map_cons, mem_cons, emem_cons, emem_mem r _ p h4]
    simp only [toSp]
    constructor
    · rintro (h | h)
      · exact .inl (by omega)
      · exact .inr h
    · rintro (h | h)
      · exact .inl (by omega)
      · exact .inr h
theorem has_lt {x : Sp} {p : Nat} (h : has x p = true) : p < TT := by
  obtain ⟨hg, h1, h2⟩ := (has_iff x p).1 h
  have := (good_iff x).1 hg
  unfold TT; omega
theorem inn_lt {l : List Sp} {p : Nat} (h : inn l p = true) : p < TT := by
  obtain ⟨x, _, hx⟩ := (inn_iff l p).1 h
  exact has_lt hx
theorem mergeS_eq (l : List Sp) : ∃ L, mergeS l = split L ∧ Rise 0 L ∧ ∀ q, Mem L q ↔ inn l q = true := by
  obtain ⟨h1, h2⟩ := mergeE_spec l
  exact ⟨_, outE_split _ _ h1, erise_rise _ _ h1, fun q => (emem_mem _ _ q h1).trans (h2 q)⟩
/-- **Merge is the reference's.** -/
theorem merge_eq {l : List Sp} {bs : List Nat} (hl : ∀ x ∈ l, fit x) (hb : Borders l bs) : runS (inn l) bs = mergeS l := by
  obtain ⟨L, e, hL, hm⟩ := runs_rise hl hb fun q hq hn => allB_inn_step hq hn
  obtain ⟨M, e2, hM, hm2⟩ := mergeS_eq l
  rw [e, e2, rise_unique hL hM fun p => (hm p).trans ⟨fun h => (hm2 p).2 h.2, fun h => ⟨inn_lt ((hm2 p).1 h), (hm2 p).1 h⟩⟩]

/-! ### the reference's Cut -/
def pieces (x y : Sp) : List Sp :=
  if overlap x y then (if y.1 < x.1 then [(y.1, x.1 - y.1)] else []) ++ (if last x < last y then [(last x + 1, last y - last x)] else []) else [y]
def cutF (out : List Sp) (x : Sp) : List Sp := if good x then out.flatMap (pieces x) else out
def cutS (s : Sp) (l : List Sp) : List Sp := if good s then l.foldl cutF [s] else []
theorem rise_good {a : Nat} : ∀ {l : List Sp}, Rise a l → ∀ y ∈ l, good y = true
  | [], _, _, h => by cases h
  | x :: r, ⟨h1, h2, h3, h4⟩, y, h => by
    rcases List.mem_cons.1 h with rfl | h
    · exact (good_iff _).2 ⟨h2, h3⟩
    · exact rise_good h4 y h
theorem pieces_spec {x : Sp} (hg : good x = true) : ∀ (l : List Sp) (a : Nat), Rise a l → Rise a (l.flatMap (pieces x)) ∧ ∀ p, Mem (l.flatMap (pieces x)) p ↔ Mem l p ∧ has x p = false
  | [], _, _ => ⟨trivial, fun p => by simp [mem_nil]⟩
  | y :: r, a, h => by
    obtain ⟨h1, h2, h3, h4⟩ := h
    obtain ⟨i1, i2⟩ := pieces_spec hg r _ h4
    have gy : good y = true := (good_iff y).2 ⟨h2, h3⟩
    have hlx := last_good hg
    have hly := last_good gy
    have hgx := (good_iff x).1 hg
    have hhas : ∀ p, has x p = false ↔ ¬ (x.1 ≤ p ∧ p < x.1 + x.2) := fun p => by
      rw [← Bool.not_eq_true, has_iff]; simp [hg]
    rw [List.flatMap_cons]
    unfold pieces
    by_cases ho : overlap x y = true
    · rw [if_pos ho]
      have ho' := (overlap_iff x y).1 ho
      by_cases c1 : y.1 < x.1 <;> by_cases c2 : last x < last y
      · rw [if_pos c1, if_pos c2]
        refine ⟨⟨h1, by simp; omega, by simp; omega, by simp; omega, by simp; omega, by simp; omega, i1.mono (by simp; omega)⟩, fun p => ?_⟩
        simp only [List.cons_append, List.nil_append]
        rw [mem_cons, mem_cons, mem_cons]
        erw [i2 p]
        rw [hhas p]
        constructor
        · rintro (h | h | ⟨h, h'⟩)
          · exact ⟨.inl (by simp at h; omega), by simp at h; omega⟩
          · exact ⟨.inl (by simp at h; omega), by simp at h; omega⟩
          · exact ⟨.inr h, h'⟩
        · rintro ⟨h | h, h'⟩
          · simp only; omega
          · exact .inr (.inr ⟨h, h'⟩)
      · rw [if_pos c1, if_neg c2]
        refine ⟨⟨h1, by simp; omega, by simp; omega, i1.mono (by simp; omega)⟩, fun p => ?_⟩
        simp only [List.append_nil, List.cons_append, List.nil_append]
        rw [mem_cons, mem_cons]
        erw [i2 p]
        rw [hhas p]
        constructor
        · rintro (h | ⟨h, h'⟩)
          · exact ⟨.inl (by simp at h; omega), by simp at h; omega⟩
          · exact ⟨.inr h, h'⟩
        · rintro ⟨h | h, h'⟩
          · simp only; omega
          · exact .inr ⟨h, h'⟩
      · rw [if_neg c1, if_pos c2]
        refine ⟨⟨by simp; omega, by simp; omega, by simp; omega, i1.mono (by simp; omega)⟩, fun p => ?_⟩
        simp only [List.cons_append, List.nil_append]
        rw [mem_cons, mem_cons]
        erw [i2 p]
        rw [hhas p]
        constructor
        · rintro (h | ⟨h, h'⟩)
          · exact ⟨.inl (by simp at h; omega), by simp at h; omega⟩
          · exact ⟨.inr h, h'⟩
        · rintro ⟨h | h, h'⟩
          · simp only; omega
          · exact .inr ⟨h, h'⟩
      · rw [if_neg c1, if_neg c2]
        refine ⟨i1.mono (by omega), fun p => ?_⟩
        simp only [List.append_nil, List.nil_append]
        rw [mem_cons]
        erw [i2 p]
        rw [hhas p]
        constructor
        · rintro ⟨h, h'⟩; exact ⟨.inr h, h'⟩
        · rintro ⟨h | h, h'⟩
          · omega
          · exact ⟨h, h'⟩
    · rw [if_neg ho]
      have ho' : ¬ (x.1 < y.1 + y.2 ∧ y.1 < x.1 + x.2) := fun h => ho ((overlap_iff x y).2 ⟨hg, gy, h⟩)
      refine ⟨⟨h1, h2, h3, i1⟩, fun p => ?_⟩
      rw [List.cons_append, List.nil_append, mem_cons, mem_cons]
      erw [i2 p]
      rw [hhas p]
      constructor
      · rintro (h | ⟨h, h'⟩)
        · exact ⟨.inl h, by omega⟩
        · exact ⟨.inr h, h'⟩
      · rintro ⟨h | h, h'⟩
        · exact .inl h
        · exact .inr ⟨h, h'⟩
theorem cut_fold : ∀ (l : List Sp) (out : List Sp), Rise 0 out → Rise 0 (l.foldl cutF out) ∧ ∀ p, Mem (l.foldl cutF out) p ↔ Mem out p ∧ inn l p = false
  | [], out, h => ⟨h, fun p => by simp [inn]⟩
  | x :: r, out, h => by
    rw [List.foldl_cons]
    have hi : ∀ p, inn (x :: r) p = (has x p || inn r p) := fun p => by simp [inn]
    by_cases hg : good x = true
    · have e : cutF out x = out.flatMap (pieces x) := by simp [cutF, hg]
      obtain ⟨k1, k2⟩ := pieces_spec hg out 0 h
      obtain ⟨i1, i2⟩ := cut_fold r _ k1
      rw [e]
      refine ⟨i1, fun p => ?_⟩
      rw [i2 p, k2 p, hi p, Bool.or_eq_false_iff, and_assoc]
    · have e : cutF out x = out := by simp [cutF, hg]
      obtain ⟨i1, i2⟩ := cut_fold r _ h
      rw [e]
      refine ⟨i1, fun p => ?_⟩
      have : has x p = false := by simp [has, hg]
      rw [i2 p, hi p, this, Bool.false_or]
theorem cutS_spec (s : Sp) (l : List Sp) : Rise 0 (cutS s l) ∧ ∀ p, Mem (cutS s l) p ↔ has s p = true ∧ inn l p = false := by
  unfold cutS
  by_cases hg : good s = true
  · rw [if_pos hg]
    have h := (good_iff s).1 hg
    obtain ⟨i1, i2⟩ := cut_fold l [s] ⟨Nat.zero_le _, h.1, h.2, trivial⟩
    refine ⟨i1, fun p => ?_⟩
    rw [i2 p, mem_cons, has_iff]
    simp [mem_nil, hg]
  · rw [if_neg hg]
    refine ⟨trivial, fun p => ⟨fun h => absurd h (mem_nil p), fun h => ?_⟩⟩
    have := ((has_iff s p).1 h.1).1
    exact absurd this hg
theorem split_id : ∀ (l : List Sp), ((0, TT) : Sp) ∉ l → split l = l
  | [], _ => rfl
  | x :: r, h => by
    have h1 : x ≠ (0, TT) := fun e => h (by simp [e])
    have ih := split_id r (fun hm => h (by simp [hm]))
    unfold split at ih ⊢
    rw [List.flatMap_cons, ih]
    simp [h1]
theorem cut_eq' {s : Sp} {l : List Sp} {bs : List Nat} (hs : fit s) (hl : ∀ x ∈ l, fit x) (hb : Borders (s :: l) bs) : runS (leftS s l) bs = cutS s l := by
  have hall : ∀ x ∈ s :: l, fit x := by
    intro x hx
    rcases List.mem_cons.1 hx with h | h
    · exact h ▸ hs
    · exact hl x h
  obtain ⟨L, e, hL, hm⟩ := runs_rise (l := s :: l) hall hb fun q hq hn => left_step hq hn
  obtain ⟨hM, hm2⟩ := cutS_spec s l
  have e3 : ∀ p, leftS s l p = true ↔ has s p = true ∧ inn l p = false := fun p => by simp [leftS]
  have e2 : L = cutS s l := rise_unique hL hM fun p => (hm p).trans ⟨fun h => (hm2 p).2 ((e3 p).1 h.2), fun h => ⟨has_lt ((hm2 p).1 h).1, (e3 p).2 ((hm2 p).1 h)⟩⟩
  rw [e, split_id L, e2]
  intro hmem
  have h0 := ((e3 0).1 ((hm 0).1 ⟨_, hmem, by simp, by simp [TT]⟩).2).1
  have h1 := ((e3 (TT - 1)).1 ((hm (TT - 1)).1 ⟨_, hmem, by simp [TT], by simp [TT]⟩).2).1
  have a := (has_iff s _).1 h0
  have b := (has_iff s _).1 h1
  have := hs.2
  unfold TT at b
  omega
/-- Of lists with the same addresses the cuts are one. -/
theorem cutS_same (s : Sp) (l l' : List Sp) (h : ∀ p, inn l p = inn l' p) : cutS s l = cutS s l' := by
  obtain ⟨h1, h2⟩ := cutS_spec s l
  obtain ⟨k1, k2⟩ := cutS_spec s l'
  exact rise_unique h1 k1 fun p => by rw [h2 p, k2 p, h p]
theorem split_mem : ∀ (l : List Sp) (p : Nat), Mem (split l) p ↔ Mem l p
  | [], p => by simp [split, mem_nil]
  | x :: r, p => by
    have ih := split_mem r p
    unfold split at ih ⊢
    rw [List.flatMap_cons, mem_cons]
    by_cases h : x = (0, TT)
    · subst h
      rw [if_pos rfl]
      simp only [List.cons_append, List.nil_append]
      rw [mem_cons, mem_cons, ih]
      have a : half + half = TT := rfl
      have b : half ≤ TT := by decide
      constructor
      · rintro (h | h | h)
        · exact .inl (by simp at h ⊢; omega)
        · exact .inl (by simp at h ⊢; omega)
        · exact .inr h
      · rintro (h | h)
        · by_cases h' : p < half
          · exact .inl (by simp; omega)
          · exact .inr (.inl (by simp at h ⊢; omega))
        · exact .inr (.inr h)
    · rw [if_neg h]
      simp only [List.cons_append, List.nil_append]
      rw [mem_cons, ih]
theorem mem_inn {l : List Sp} (hl : ∀ x ∈ l, good x = true) (p : Nat) : inn l p = true ↔ Mem l p := by
  rw [inn_iff]
  exact ⟨fun ⟨x, hx, h⟩ => ⟨x, hx, ((has_iff x p).1 h).2⟩, fun ⟨x, hx, h⟩ => ⟨x, hx, (has_iff x p).2 ⟨hl x hx, h⟩⟩⟩
theorem split_good {l : List Sp} (hl : ∀ x ∈ l, good x = true) : ∀ x ∈ split l, good x = true := by
  intro x hx
  obtain ⟨y, hy, h⟩ := List.mem_flatMap.1 hx
  by_cases e : y = (0, TT)
  · rw [if_pos e] at h
    simp at h
    rcases h with rfl | rfl <;> decide
  · rw [if_neg e] at h
    rw [List.mem_singleton] at h
    rw [h]
    exact hl y hy
/-- P2.5 -/
theorem inn_mergeS (l : List Sp) (p : Nat) : inn (mergeS l) p = inn l p := by
  obtain ⟨L, e, hL, hm⟩ := mergeS_eq l
  rw [Bool.eq_iff_iff, e, mem_inn (split_good (rise_good hL)), split_mem, hm p]
theorem inn_cutS (s : Sp) (l : List Sp) (p : Nat) : inn (cutS s l) p = leftS s l p := by
  obtain ⟨hM, hm⟩ := cutS_spec s l
  rw [Bool.eq_iff_iff, mem_inn (rise_good hM), hm p]
  simp [leftS]
end Go.Proofs.Ytbemphfijkcbhaa
/- Words for memory: a slice that reads as a list of cells. Own lemmas of the verifier. -/
namespace Go.Proofs.Ytbemphfijkcbhaa
open Go.RowKit

theorem addr_add_block (a : Addr) (n : Nat) : (a.add n).block = a.block := by
  unfold Addr.add
  by_cases h : n = 0 <;> simp [h]
theorem addr_add_add (a : Addr) (i j : Nat) : (a.add i).add j = a.add (i + j) := by
  unfold Addr.add
  by_cases hi : i = 0 <;> by_cases hj : j = 0 <;> simp [hi, hj, Nat.add_assoc]

/-- The slice of n elements of 'size' cells at A holds the cells xs; all of it lies below block B. -/
def Lies (w : World) (B size : Nat) (A : Option Addr) (n : Nat) (xs : List Value) : Prop :=
  xs.length = n * size ∧ (n ≠ 0 → ∃ a, A = some a ∧ a.block < B ∧ ∀ j (h : j < xs.length), w.cell? (a.add j) = some xs[j])

section
variable {w w' : World} {B B' size n : Nat} {A : Option Addr} {xs : List Value}
theorem Lies.nil (w : World) (B size : Nat) (A : Option Addr) : Lies w B size A 0 [] := ⟨by simp, fun h => absurd rfl h⟩
theorem Lies.at1 {k : Nat} (h : Lies w B 1 A n xs) (hk : k < n) : ∃ (a : Addr) (hx : k < xs.length), A = some a ∧ a.block < B ∧ w.cell? (a.add k) = some xs[k] := by
  obtain ⟨a, e, hb, hc⟩ := h.2 (by omega)
  have hl : k < xs.length := by have := h.1; omega
  exact ⟨a, hl, e, hb, hc k hl⟩
theorem Lies.atMap {α : Type} {f : α → Value} {ys : List α} {k : Nat} (h : Lies w B 1 A n (ys.map f)) (hk : k < n) : ∃ (a : Addr) (hx : k < ys.length), A = some a ∧ a.block < B ∧ w.cell? (a.add k) = some (f ys[k]) := by
  obtain ⟨a, hl, e, hb, hc⟩ := h.at1 hk
  exact ⟨a, by simpa using hl, e, hb, by simpa using hc⟩
theorem Lies.same (h : Lies w B size A n xs) (hk : ∀ p : Addr, p.block < B → w'.cell? p = w.cell? p) : Lies w' B size A n xs :=
  ⟨h.1, fun hn => by
    obtain ⟨a, e, hb, hc⟩ := h.2 hn
    exact ⟨a, e, hb, fun j hj => (hk _ (by rw [addr_add_block]; exact hb)).trans (hc j hj)⟩⟩
theorem Lies.wide (h : Lies w B size A n xs) (hB : B ≤ B') : Lies w B' size A n xs :=
  ⟨h.1, fun hn => by
    obtain ⟨a, e, hb, hc⟩ := h.2 hn
    exact ⟨a, e, Nat.lt_of_lt_of_le hb hB, hc⟩⟩
theorem Lies.below (h : Lies w B size A n xs) (hb : Below B w w') : Lies w' B size A n xs := h.same fun _ hp => hb.cell hp
theorem Lies.drew (h : Lies w B size A n xs) : Lies w.drew B size A n xs := h
theorem Lies.drewN (h : Lies w B size A n xs) (k : Nat) : Lies (w.drewN k) B size A n xs := h
theorem Lies.alloc (h : Lies w B size A n xs) (hB : B ≤ w.heap.size) (o : Obj) : Lies (w.alloc o) B size A n xs := h.same fun p hp => World.cell?_alloc_lt w o p (by omega)
theorem Lies.set (h : Lies w B size A n xs) {p : Addr} (hB : B ≤ p.block) (u : Value) : Lies (w.setCell p u) B size A n xs :=
  h.same fun q hq => World.cell?_setCell_other w p q u (fun e => by subst e; omega)
theorem Lies.grown (h : Lies w B size A n xs) {row : Option Nat} (hg : w.grownBy w' row) (hB : B ≤ w.heap.size) (hr : ∀ g, row = some g → B ≤ g) : Lies w' B size A n xs :=
  h.same fun p hp => World.cell?_of_block (hg.block p.block (by omega) (fun e => by have := hr _ e.symm; omega))
theorem Lies.of_owns {base : Nat} {e : TypeId} {c : Nat} (h : w.ownsRow base e size (.slice A n c) n xs) : Lies w w.heap.size size A n xs := by
  refine ⟨h.1, fun hn => ?_⟩
  rcases h.2 with ⟨_, hz⟩ | ⟨g, cap, cur, hv, hg, hh, _⟩
  · exact absurd hz hn
  · injection hv with hA
    subst hA
    have hlt : g < w.heap.size := by
      rcases Nat.lt_or_ge g w.heap.size with hl | hl
      · exact hl
      · rw [Array.getElem?_eq_none hl] at hh; cases hh
    exact ⟨_, rfl, hlt, fun j hj => h.cells (g := g) rfl j _ (List.getElem?_eq_getElem hj)⟩
end

/-- A callee that leaves the world as it was, inside a region that draws its order. -/
theorem quiet_eq {P : Program} {f : FuncId} {args : Array Value} {w : World} {n : Nat} {v : Value}
    (h : Calls P f args (w.drewN n) fun e w' => e = .returned v ∧ w.drewN n = w') : Calls P f args (w.drewN n) fun e w'' => e = .returned v ∧ ∃ m, w'' = w.drewN m :=
  h.mono fun _ _ ⟨he, hm⟩ => ⟨he, n, hm.symm⟩

/-- Bytes as cells. -/
def u8s (l : List UInt8) : List Value := l.map fun b => Value.int .u8 (b.toNat : Int)
theorem u8s_length (l : List UInt8) : (u8s l).length = l.length := by simp [u8s]
theorem u8_lt (b : UInt8) : (b.toNat : Int) < 256 := by have := b.toNat_lt; omega
theorem lies_new (w : World) (cs : Array Value) (t : TypeId) (n : Nat) (xs : List Value) (h : cs.toList = xs) (hn : xs.length = n) :
    Lies (w.alloc (.cells cs t)) (w.heap.size + 1) 1 (some ⟨w.heap.size, 0, none⟩) n xs := by
  refine ⟨by omega, fun _ => ⟨_, rfl, Nat.lt_succ_self _, fun j hj => ?_⟩⟩
  subst h
  have e : ((⟨w.heap.size, 0, none⟩ : Addr).add j) = ⟨w.heap.size, j, none⟩ := by
    unfold Addr.add; by_cases h0 : j = 0 <;> simp [h0]
  rw [e, cell_of_row _ w.heap.size j cs t (0, 0) (heap_alloc_new w _)]
  simp at hj ⊢
end Go.Proofs.Ytbemphfijkcbhaa
/- Rows of spans in memory. -/
namespace Go.Proofs.Ytbemphfijkcbhaa
open Go.RowKit

/-- The slice of l.length spans at A holds l; all of it lies below block B. -/
def Row (w : World) (B : Nat) (A : Option Addr) (l : List Sp) : Prop :=
  l ≠ [] → ∃ a, A = some a ∧ a.block < B ∧ ∀ j (h : j < l.length), w.cell? (a.add (j * 2)) = some (.int .u64 (l[j].1 : Int)) ∧ w.cell? (a.add (j * 2 + 1)) = some (.int .u64 (l[j].2 : Int))
section
variable {w w' : World} {B B' : Nat} {A : Option Addr} {l : List Sp}
theorem Row.nil (w : World) (B : Nat) (A : Option Addr) : Row w B A [] := fun h => absurd rfl h
theorem Row.same (h : Row w B A l) (hk : ∀ p : Addr, p.block < B → w'.cell? p = w.cell? p) : Row w' B A l := fun hn => by
  obtain ⟨a, e, hb, hc⟩ := h hn
  exact ⟨a, e, hb, fun j hj => ⟨(hk _ (by rw [addr_add_block]; exact hb)).trans (hc j hj).1, (hk _ (by rw [addr_add_block]; exact hb)).trans (hc j hj).2⟩⟩
theorem Row.wide (h : Row w B A l) (hB : B ≤ B') : Row w B' A l := fun hn => by
  obtain ⟨a, e, hb, hc⟩ := h hn
  exact ⟨a, e, Nat.lt_of_lt_of_le hb hB, hc⟩
theorem Row.below (h : Row w B A l) (hb : Below B w w') : Row w' B A l := h.same fun _ hp => hb.cell hp
theorem Row.drew (h : Row w B A l) : Row w.drew B A l := h
theorem Row.alloc (h : Row w B A l) (hB : B ≤ w.heap.size) (o : Obj) : Row (w.alloc o) B A l := h.same fun p hp => World.cell?_alloc_lt w o p (by omega)
theorem Row.at {k : Nat} (h : Row w B A l) (hk : k < l.length) : ∃ a p, A = some a ∧ a.add (k * 2) = p ∧ p.block < B ∧ w.cell? p = some (.int .u64 (l[k].1 : Int)) ∧ w.cell? ⟨p.block, p.off + 1, none⟩ = some (.int .u64 (l[k].2 : Int)) := by
  obtain ⟨a, e, hb, hc⟩ := h (fun hn => by subst hn; cases hk)
  refine ⟨a, _, e, rfl, by rw [addr_add_block]; exact hb, (hc k hk).1, ?_⟩
  have h2 := (hc k hk).2
  rw [← addr_add_add] at h2
  exact h2
end
end Go.Proofs.Ytbemphfijkcbhaa
/- The frame of every law: a call that returns true and leaves what was there as it was. -/
namespace Go.Proofs.Ytbemphfijkcbhaa
open Go.ChangeShapes Go.WideShapes Go.ChangeAt Go.RowKit
section
variable {H : Type} {enc : TypeId × Value → H} {P : Program}

theorem trodAll_still {W W' : World} {sp : Nat → Bool} (hl : laidOutB P = true) : ∀ (ts : List TypeId) (vs : List Value) (ds : List (DataW H)) (ps : List MemPlace),
    (∀ t ∈ ts, P.readableRec t = true ∧ t < P.types.size) → DataW.TrodAll enc P W 0 (fun _ => true) true ts vs ds ps → (∀ p ∈ ps, W.sameAt W' p) → (∀ p ∈ ps, sp p.block = true) →
    DataW.TrodAll enc P W' 0 sp true ts vs ds ps
  | [], [], [], _, _, h, _, _ => h
  | [], [], _ :: _, _, _, h, _, _ => (h : False).elim
  | [], _ :: _, _, _, _, h, _, _ => (h : False).elim
  | _ :: _, [], _, _, _, h, _, _ => (h : False).elim
  | _ :: _, _ :: _, [], _, _, h, _, _ => (h : False).elim
  | t :: ts, v :: vs, d :: ds, ps, hr, h, hs, hp => by
    obtain ⟨p, q, h1, h2, rfl⟩ := h
    have ht := hr t (by simp)
    exact ⟨p, q, WideElems.Trod_stays hl ht.1 ht.2 h1 (fun x hx => hs x (by simp [hx])) (fun x hx => hp x (by simp [hx])),
      trodAll_still hl ts vs ds q (fun t' h' => hr t' (by simp [h'])) h2 (fun x hx => hs x (by simp [hx])) (fun x hx => hp x (by simp [hx])), rfl⟩

/-- WHAT EVERY LAW's END ASKS: 'true', and nothing that was there has turned. -/
theorem law_post {f : Func} {s : ChangeSpec} {W W' : World} {args : Array Value} {ds gs : List (DataW H)} {before : List MemPlace} {tb : TypeId} (hl : laidOutB P = true)
    (hr : ∀ t ∈ f.params.toList, P.readableRec t = true ∧ t < P.types.size) (hv : s.vars = []) (hf : f.resultTypes = #[tb]) (hb : P.underlying tb = some .bool)
    (hfn : gs = [] → (s.fn H ds).results = [.lit (.bool true)] ∧ (s.fn H ds).args = ds ∧ (s.fn H ds).vars = [])
    (hW : DataW.Whole enc P f.params.toList s.vars false W args.toList ds gs before) (hbel : Below W.heap.size W W') :
    s.post enc P f false true false false W args (.bool true) W' := by
  have hlt : ∀ p ∈ before, p.block < W.heap.size := fun p hp => hW.lt p hp
  have hW2 := hW
  obtain ⟨p, q, hA, hV, rfl, _, _⟩ := hW
  rw [hv] at hV
  obtain ⟨rfl, rfl⟩ := trodVars_none hV
  obtain ⟨e1, e2, e3⟩ := hfn rfl
  simp only [List.append_nil] at hlt hW2
  refine ⟨ds, [], p, [], p, [], hW2, ?_, ?_, ?_, hbel.frame _, fun h => by cases h⟩
  · rw [List.append_nil, e1, hf]
    exact trodAll_mk1 (shut_bool hb _)
  · rw [List.append_nil, e2]
    exact trodAll_still hl _ _ _ _ hr hA (fun x hx => hbel.same (hlt x hx)) (fun x hx => by simpa using hlt x hx)
  · rw [List.append_nil, e3, hv]
    exact rfl
end

theorem u8_of_wf {z : Int} (h : (Lit.int .u8 z).wf = true) : ∃ b : UInt8, z = (b.toNat : Int) := by
  have hb := bounds_u8 h
  refine ⟨UInt8.ofNat z.toNat, ?_⟩
  rw [UInt8.toNat_ofNat']
  omega
theorem u8s_of_wf : ∀ (zs : List Int), (∀ n ∈ zs, (Lit.int .u8 n).wf = true) → ∃ l : List UInt8, zs = l.map fun b => (b.toNat : Int)
  | [], _ => ⟨[], rfl⟩
  | z :: zs, h => by
    obtain ⟨b, rfl⟩ := u8_of_wf (h z (by simp))
    obtain ⟨l, rfl⟩ := u8s_of_wf zs (fun n hn => h n (by simp [hn]))
    exact ⟨b :: l, rfl⟩
/-- An argument of type []byte: bytes, below the heap's end. -/
theorem open_bytes {H : Type} {enc : TypeId × Value → H} {P : Program} {W : World} {t e : TypeId} {v : Value} {d : DataW H} {ps : List MemPlace} {r : Reach} {base : Nat}
    (ht : P.underlying t = some (.slice e)) (he : P.underlying e = some (.int .u8)) (hc : P.cellsOf e = 1) (hv : Value.okWide P W r base t v)
    (h : DataW.Trod enc P W 0 (fun _ => true) true t v d ps) : ∃ (A : Option Addr) (c : Nat) (l : List UInt8), v = .slice A l.length c ∧ l.length ≤ maxLen ∧ Lies W W.heap.size 1 A l.length (u8s l) := by
  obtain ⟨a0, len, cap, rfl⟩ := okWide_slice ht hv
  obtain ⟨fuel, hf⟩ := h
  rcases open_ints ht he hc hf with ⟨hcs, _⟩ | ⟨a, len', cap', zs, hcs, _, hle, hm, hz, _, hcell, hwz⟩
  · simp [Value.cells] at hcs
    obtain ⟨rfl, rfl, rfl⟩ := hcs
    exact ⟨none, 0, [], rfl, Nat.zero_le _, Lies.nil _ _ _ _⟩
  · simp [Value.cells] at hcs
    obtain ⟨rfl, rfl, rfl⟩ := hcs
    obtain ⟨l, hl⟩ := u8s_of_wf (zs.take len) (fun n hn => hwz n (List.mem_of_mem_take hn))
    simp at hz
    have hll : l.length = len := by
      have := congrArg List.length hl
      simp at this; omega
    refine ⟨some a, cap, l, by rw [hll], by omega, by rw [u8s_length]; omega, fun hn => ⟨a, rfl, ?_, fun j hj => ?_⟩⟩
    · have h0 := hcell 0 (by omega)
      have e0 : a.add 0 = a := by simp [Addr.add]
      rw [e0] at h0
      exact World.block_lt_of_cell? W a h0
    · rw [u8s_length] at hj
      rw [hcell j (by omega)]
      have hj2 : (zs.take len)[j]? = (l.map fun b => (b.toNat : Int))[j]? := by rw [hl]
      rw [List.getElem?_take, if_pos (by omega), List.getElem?_map, List.getElem?_eq_getElem hj] at hj2
      simp only [u8s, List.getElem_map]
      rw [List.getD_eq_getElem?_getD, hj2]
      rfl

theorem laid_mem {P : Program} {w : World} : ∀ (l : List (String × DataW Unit)) (ps : List MemPlace), DataW.LaidVars P w l ps → ∀ n d, (n, d) ∈ l →
    ∃ g t cs fuel p, P.globalNamed n = some g ∧ (P.globals[g]?).map (·.type) = some t ∧ w.var? P n = some cs ∧ DataW.trod (fun _ => ()) P w 0 (fun _ => true) false fuel t cs.toList = some (d, p)
  | [], _, _, _, _, h => by cases h
  | (n', d') :: r, ps, hl, n, d, h => by
    obtain ⟨g, t, cs, fuel, p, q, h1, h2, h3, h4, h5, _⟩ := hl
    rcases List.mem_cons.1 h with h | h
    · injection h with e1 e2
      subst e1 e2
      exact ⟨g, t, cs, fuel, p, h1, h2, h3, h4⟩
    · exact laid_mem r q h5 n d h
/-- A table of integers that is listed, wherever it stands on the list: its cells. -/
theorem laid_tab {P : Program} {W : World} {l : List (String × DataW Unit)} {name : String} {k : IntKind} {zs : List Int} {g : Nat} {t e : TypeId} {n : Nat} (h : laidMet P l W) (hm : (name, Lib.tabData k zs) ∈ l)
    (hg : P.globalNamed name = some g) (hty : (P.globals[g]?).map (·.type) = some t) (ht : P.underlying t = some (.array n e)) (he : P.underlying e = some (.int k)) (hce : P.cellsOf e = 1) (hct : P.cellsOf t = n)
    (i : Nat) (hi : i < zs.length) : W.cell? ⟨g, i, none⟩ = some (.int k (zs.getD i 0)) := by
  obtain ⟨ps, hl, _⟩ := h
  obtain ⟨g', t', cs, fuel, p, h1, h2, h3, h4⟩ := laid_mem l ps hl _ _ hm
  obtain rfl := Option.some.inj (hg.symm.trans h1)
  obtain rfl := Option.some.inj (hty.symm.trans h2)
  have hcs := Lib.cells_of_tab ht he hce hct h4
  have h5 := World.var?_cell hg h3 i
  rw [h5]
  have : cs[i]? = cs.toList[i]? := by simp
  rw [this, hcs, List.getElem?_map, List.getElem?_eq_getElem hi, List.getD_eq_getElem?_getD, List.getElem?_eq_getElem hi]
  rfl
end Go.Proofs.Ytbemphfijkcbhaa
/- Arguments opened: a span by value, a slice of spans. -/
namespace Go.Proofs.Ytbemphfijkcbhaa
open Go.ChangeShapes Go.WideShapes Go.ChangeAt Go.RowKit Go.Deep
section
variable {H : Type} {enc : TypeId × Value → H} {P : Program} {W : World} {r : Reach} {base : Nat}

theorem open_span {t : TypeId} {f0 f1 : Field} {v : Value} {d : DataW H} {p : List MemPlace} (hs : P.underlying t = some (.struct #[f0, f1])) (hone : oneCellFields P #[f0, f1] = true) (hC : P.cellsOf t = 2)
    (h0 : P.underlying f0.type = some (.int .u64)) (h1 : P.underlying f1.type = some (.int .u64)) (hv : Value.okWide P W r base t v) (h : DataW.Trod enc P W 0 (fun _ => true) true t v d p) :
    ∃ a b : Nat, v = .agg #[.int .u64 (a : Int), .int .u64 (b : Int)] ∧ fit (a, b) := by
  obtain ⟨v0, v1, y0, y1, n, rfl, rfl, rfl, k0, k1⟩ := Joins.open_agg2 hs hone hC hv h
  obtain ⟨x, e0, _, w0⟩ := DataW.trod_int h0 k0
  obtain ⟨y, e1, _, w1⟩ := DataW.trod_int h1 k1
  have b0 := bounds_u64 w0
  have b1 := bounds_u64 w1
  obtain ⟨a, rfl⟩ := Int.eq_ofNat_of_zero_le b0.1
  obtain ⟨b, rfl⟩ := Int.eq_ofNat_of_zero_le b1.1
  cases e0
  cases e1
  exact ⟨a, b, rfl, by constructor <;> simp only <;> omega⟩

theorem open_spans {t e : TypeId} {f0 f1 : Field} {v : Value} {d : DataW H} {p : List MemPlace} (ht : P.underlying t = some (.slice e)) (he : P.underlying e = some (.struct #[f0, f1])) (hone : oneCellFields P #[f0, f1] = true) (hC : P.cellsOf e = 2)
    (h0 : P.underlying f0.type = some (.int .u64)) (h1 : P.underlying f1.type = some (.int .u64)) (hv : Value.okWide P W r base t v) (h : DataW.Trod enc P W 0 (fun _ => true) true t v d p) :
    ∃ (A : Option Addr) (c : Nat) (l : List Sp), v = .slice A l.length c ∧ (l.length ≤ c ∧ c ≤ maxLen) ∧ (∀ x ∈ l, fit x) ∧ Row W W.heap.size A l := by
  obtain ⟨a0, len, cap, rfl⟩ := okWide_slice ht hv
  obtain ⟨fuel, hf⟩ := h
  rcases open_slice ht hf with ⟨hcs, _⟩ | ⟨a, len', cap', m, n, D, Pl, hcs, _, hle, hm, hmm, _, hi⟩
  · simp [Value.cells] at hcs
    obtain ⟨rfl, rfl, rfl⟩ := hcs
    exact ⟨none, 0, [], rfl, ⟨Nat.le_refl _, Nat.zero_le _⟩, (fun _ h => by cases h), Row.nil _ _ _⟩
  · simp [Value.cells] at hcs
    obtain ⟨rfl, rfl, rfl⟩ := hcs
    have hlm : len ≤ m := by rw [hmm]; split <;> omega
    have key : ∀ i, i < len → ∃ x y : Nat, fit (x, y) ∧ W.cell? (a.add (i * 2)) = some (.int .u64 (x : Int)) ∧ W.cell? (a.add (i * 2 + 1)) = some (.int .u64 (y : Int)) := by
      intro i hil
      obtain ⟨cs, hc, ht'⟩ := hi i (by omega)
      rw [hC] at hc
      obtain ⟨ys, n', hn', hy, hlen, hyl, hg⟩ := DataW.trod_struct he ht'
      obtain ⟨_, hcl, hat⟩ := World.cells?_some hc
      match cs, hcl with
      | [c0, c1], _ =>
        obtain ⟨o0, k0⟩ := hone_of hone 0 f0 rfl
        obtain ⟨o1, k1⟩ := hone_of hone 1 f1 rfl
        match ys, hyl with
        | [y0, y1], _ =>
          have g0 : DataW.trod enc P W 0 (fun _ => true) true n' f0.type [c0] = some y0 := by simpa [o0, k0] using hg 0 f0 rfl
          have g1 : DataW.trod enc P W 0 (fun _ => true) true n' f1.type [c1] = some y1 := by simpa [o1, k1] using hg 1 f1 rfl
          obtain ⟨x, e0, _, w0⟩ := DataW.trod_int h0 g0
          obtain ⟨y, e1, _, w1⟩ := DataW.trod_int h1 g1
          have b0 := bounds_u64 w0
          have b1 := bounds_u64 w1
          obtain ⟨x, rfl⟩ := Int.eq_ofNat_of_zero_le b0.1
          obtain ⟨y, rfl⟩ := Int.eq_ofNat_of_zero_le b1.1
          cases e0
          cases e1
          refine ⟨x, y, by constructor <;> simp only <;> omega, ?_, ?_⟩
          · have := hat 0 (by simp)
            rw [show a.add (i * 2) = (a.add (i * 2)).add 0 from by simp [Addr.add], this]; rfl
          · have := hat 1 (by simp)
            rw [← Go.Deep.add_add, this]; rfl
    have all : ∀ k, k ≤ len → ∃ l : List Sp, l.length = k ∧ (∀ x ∈ l, fit x) ∧ ∀ j (h : j < l.length), W.cell? (a.add (j * 2)) = some (.int .u64 (l[j].1 : Int)) ∧ W.cell? (a.add (j * 2 + 1)) = some (.int .u64 (l[j].2 : Int)) := by
      intro k
      induction k with
      | zero => exact fun _ => ⟨[], rfl, (fun _ h => by cases h), fun j h => by cases h⟩
      | succ k ih =>
        intro hk
        obtain ⟨l, hl, hf', hc⟩ := ih (by omega)
        obtain ⟨x, y, hxy, c0, c1⟩ := key k (by omega)
        refine ⟨l ++ [(x, y)], by simp [hl], fun z hz => ?_, fun j hj => ?_⟩
        · rcases List.mem_append.1 hz with h | h
          · exact hf' z h
          · rw [List.mem_singleton.1 h]; exact hxy
        · rw [List.getElem_append]
          split
          · rename_i h; exact hc j h
          · rename_i h
            have : j = k := by simp at hj; omega
            subst this
            simp only [hl, Nat.sub_self, List.getElem_cons_zero]
            exact ⟨c0, c1⟩
    obtain ⟨l, hl, hf', hc⟩ := all len (Nat.le_refl _)
    subst hl
    refine ⟨some a, cap, l, rfl, ⟨by omega, by omega⟩, hf', fun hn => ⟨a, rfl, ?_, hc⟩⟩
    have hpos : 0 < l.length := List.length_pos_iff.2 hn
    have := (hc 0 hpos).1
    have e0 : a.add (0 * 2) = a := by simp [Addr.add]
    rw [e0] at this
    exact World.block_lt_of_cell? W a this
end
end Go.Proofs.Ytbemphfijkcbhaa
/- A region that draws its order, walked with a condition that may grow stronger on the way: what a call has made may then be read like what was there. -/
namespace Go.Proofs.Ytbemphfijkcbhaa
open Go.RowKit
section
variable {P : Program} {ops : Array Oper} {Q : Exit → Act → World → Prop} {md : Region.Mode} {S S' : World → Prop}

theorem held_mono (hs : ∀ W, S' W → S W) : ∀ (fuel : Nat) (listed : Array Bool) (a : Act) (w : World), wpAnyH P md ops Q S' fuel listed a w → wpAnyH P md ops Q S fuel listed a w
  | 0, _, _, _, h => h
  | fuel + 1, _, _, _, h => ⟨h.1, fun i hi => wpOp_mono (fun a' w' h' => ⟨hs _ h'.1, held_mono hs fuel _ a' w' h'.2⟩) (h.2 i hi)⟩

/-- From here on more is known of the world. -/
theorem held_and {T : World → Prop} {fuel : Nat} {listed : Array Bool} {a : Act} {w : World} (hS : S w) (hT : T w) (h : S w ∧ T w → wpAnyH P md ops Q (fun W => S W ∧ T W) fuel listed a w) : wpAnyH P md ops Q S fuel listed a w :=
  held_mono (fun _ h => h.1) fuel listed a w (h ⟨hS, hT⟩)

/-- One operation alone may come up, and it is wanted: it is carried out. -/
theorem held_one {i : Nat} {oi : Oper} {fuel : Nat} {listed : Array Bool} {a : Act} {w : World} (hr : Region.ready md ops listed = [i]) (hi : ops[i]? = some oi)
    (hw : Region.wanted oi (yielded ops a.tmps) = true)
    (h : ∀ K' : Act → World → Prop, (∀ a w, S w → (S w → wpAnyH P md ops Q S fuel (listed.setIfInBounds i true) a w) → K' a w) → Oper.wp P oi a w K' Q) :
    wpAnyH P md ops Q S (fuel + 1) listed a w := by
  refine wpAnyH_ready hr (by simp) (AllReadyH.cons hi (fun K' hK => ?_) AllReadyH.nil)
  rw [if_pos hw]
  exact h K' fun a w h1 h2 => hK.out a w h1 h2
/-- Two operations may come up, in either order: both are wanted. -/
theorem held_two {i j : Nat} {oi oj : Oper} {fuel : Nat} {listed : Array Bool} {a : Act} {w : World} (hr : Region.ready md ops listed = [i, j]) (hi : ops[i]? = some oi) (hj : ops[j]? = some oj)
    (hwi : Region.wanted oi (yielded ops a.tmps) = true) (hwj : Region.wanted oj (yielded ops a.tmps) = true)
    (h1 : ∀ K' : Act → World → Prop, (∀ a w, S w → (S w → wpAnyH P md ops Q S fuel (listed.setIfInBounds i true) a w) → K' a w) → Oper.wp P oi a w K' Q)
    (h2 : ∀ K' : Act → World → Prop, (∀ a w, S w → (S w → wpAnyH P md ops Q S fuel (listed.setIfInBounds j true) a w) → K' a w) → Oper.wp P oj a w K' Q) :
    wpAnyH P md ops Q S (fuel + 1) listed a w := by
  refine wpAnyH_ready hr (by simp) (AllReadyH.cons hi (fun K' hK => ?_) (AllReadyH.cons hj (fun K' hK => ?_) AllReadyH.nil))
  · rw [if_pos hwi]
    exact h1 K' fun a w h1 h2 => hK.out a w h1 h2
  · rw [if_pos hwj]
    exact h2 K' fun a w h1 h2 => hK.out a w h1 h2
/-- An operation that looks at the world, and yields in every world that meets S, is taken first. -/
theorem held_take {i : Nat} {oi : Oper} {v : Value} {fuel : Nat} {listed : Array Bool} {a : Act} {w : World} (hi : ops[i]? = some oi)
    (hs : Region.noSelect ops = true) (hf : Region.free md ops listed i = true) (hr : (Region.ready md ops listed).contains i = true)
    (hQ : ∀ c a w, Q (.panic c) (a.put oi.dst v) w → Q (.panic c) a w) (hw : Region.wanted oi (yielded ops a.tmps) = true) (hy : ∀ w, S w → (execOp a.eval oi).run P w = .ok (.value v) w) (hS : S w)
    (h : wpAnyH P md ops Q S fuel (listed.setIfInBounds i true) (a.put oi.dst v) w) : wpAnyH P md ops Q S (fuel + 1) listed a w :=
  wpAnyH_take hi hs hf hr hQ (Or.inl ⟨hw, hy⟩) hS h
/-- An operation whose guard says no is passed over. -/
theorem held_skip {i : Nat} {oi : Oper} {fuel : Nat} {listed : Array Bool} {a : Act} {w : World} (hi : ops[i]? = some oi)
    (hs : Region.noSelect ops = true) (hf : Region.free md ops listed i = true) (hr : (Region.ready md ops listed).contains i = true)
    (hQ : ∀ c a w, Q (.panic c) (a.put oi.dst undef) w → Q (.panic c) a w) (hw : Region.wanted oi (yielded ops a.tmps) = false) (hS : S w)
    (h : wpAnyH P md ops Q S fuel (listed.setIfInBounds i true) (a.put oi.dst undef) w) : wpAnyH P md ops Q S (fuel + 1) listed a w :=
  wpAnyH_take hi hs hf hr hQ (Or.inr ⟨hw, rfl⟩) hS h
end
end Go.Proofs.Ytbemphfijkcbhaa
/- A region that leaves all as it was in V. -/
namespace Go.Proofs.Ytbemphfijkcbhaa
open Go.RowKit
theorem exec_build {P : Program} {o : Oper} {a : Act} (t : TypeId) (parts : Array (Nat × Operand)) (ho : o.op = .build t parts) (cs : Array Value)
    (hb : P.built t (parts.map fun (i, x) => (i, a.eval x)).toList = some cs) (w : World) : (execOp a.eval o).run P w = .ok (.value (.agg cs)) w := by
  unfold execOp
  simp only [ho, Sem.run_bind, run_build w t _ cs hb, Result.andThen_ok, Sem.run_pure]
/-- A region that leaves all as it was in V. -/
def VS (V Y : World) : Prop := Below V.heap.size V Y
theorem VS.keep {V Y Z : World} (h : VS V Y) (hd : Below Y.heap.size Y Z) : VS V Z := Below.trans h (hd.mono h.size)
theorem VS.begin (V : World) : VS V V.drew := ⟨rfl, rfl, rfl, Nat.le_refl _, fun _ _ => rfl⟩
theorem VS.below0 {w V Y : World} (h : VS V Y) (hV : Below w.heap.size w V) : Below w.heap.size w Y := hV.trans (Below.mono h hV.size)
theorem keep2 {w W W1 : World} {p q : Addr} {x y : Value} (hd : Below W.heap.size W W1) (h : Below w.heap.size w W ∧ W.cell? p = some x ∧ W.cell? q = some y) :
    Below w.heap.size w W1 ∧ W1.cell? p = some x ∧ W1.cell? q = some y := by
  obtain ⟨h0, h1, h2⟩ := h
  exact ⟨h0.trans (hd.mono h0.size), (hd.cell (World.block_lt_of_cell? W p h1)).trans h1, (hd.cell (World.block_lt_of_cell? W q h2)).trans h2⟩
theorem drew2 {w W : World} {p q : Addr} {x y : Value} (h : Below w.heap.size w W ∧ W.cell? p = some x ∧ W.cell? q = some y) :
    Below w.heap.size w W.drew ∧ W.drew.cell? p = some x ∧ W.drew.cell? q = some y := ⟨⟨h.1.os, h.1.tape, h.1.output, h.1.size, h.1.block⟩, h.2.1, h.2.2⟩
end Go.Proofs.Ytbemphfijkcbhaa
/- append onto a row of the call's own: the source may be nil, empty or not. -/
namespace Go.Proofs.Ytbemphfijkcbhaa
open Go.RowKit
section
variable {P : Program} {w : World}

theorem run_app_nil (base : Nat) (t ty e : TypeId) (i : TypeInfo) (ht : P.underlying t = some (.slice e)) (hi : P.info? e = some i)
    (v : Value) (n : Nat) (xs : List Value) (hown : w.ownsRow base e 1 v n xs) (c : Nat) : (Builtin.append_ #[t, t] ty #[v, .slice none 0 c]).run P w = .ok v w := by
  rcases hown.2 with ⟨rfl, _⟩ | ⟨g, cap, cur, rfl, _, _, hle, _⟩
  · simp [Builtin.append_, Builtin.lenOf, Builtin.firstCells, run_underlying ht, sizeOf, typeInfo, hi]
  · simp [Builtin.append_, Builtin.lenOf, Builtin.firstCells, run_underlying ht, sizeOf, typeInfo, hi, hle, storeCells]

theorem run_app (base : Nat) (t ty e : TypeId) (i : TypeInfo) (z : Value) (bytes : Nat) (ht : P.underlying t = some (.slice e)) (hi : P.info? e = some i) (hz : i.zero = some z)
    (hsize : i.size = 1) (hby : i.bytes = bytes) (hzs : z.cells.size = 1) (v : Value) (n : Nat) (xs : List Value) (hown : w.ownsRow base e 1 v n xs)
    (B : Nat) (A : Option Addr) (m c : Nat) (news : List Value) (hr : Lies w B 1 A m news) (h1 : ∀ u ∈ news, u.oneCell' = true)
    (h63 : n + m ≤ maxLen) (hbytes : (n + m) * bytes ≤ 140737488355328) (hbase : base ≤ w.heap.size) :
    ∃ v' w', (Builtin.append_ #[t, t] ty #[v, .slice A m c]).run P w = .ok v' w' ∧ w'.ownsRow base e 1 v' (n + m) (xs ++ news) ∧ w.grownBy w' v.ownBlock ∧
      (v'.ownBlock = v.ownBlock ∨ v'.ownBlock = some w.heap.size) := by
  have hlen : news.length = m * 1 := hr.1
  rcases A with _ | a
  · obtain rfl : m = 0 := by
      rcases Nat.eq_zero_or_pos m with h0 | h0
      · exact h0
      · obtain ⟨_, h, _⟩ := hr.2 (by omega)
        cases h
    obtain rfl : news = [] := List.eq_nil_of_length_eq_zero (by omega)
    exact ⟨v, w, run_app_nil base t ty e i ht hi v n xs hown c, by simpa using hown, World.grownBy.refl w _, Or.inl rfl⟩
  · have hc : ∀ (j : Nat) (u : Value), news[j]? = some u → w.cell? (a.add j) = some u := by
      intro j u hu
      obtain ⟨hj, rfl⟩ := List.getElem?_eq_some_iff.1 hu
      obtain ⟨a', h, _, hc⟩ := hr.2 (by omega)
      injection h with h
      subst h
      exact hc j hj
    obtain ⟨v', w', hrun, h2, h3, _, h5⟩ := run_append_own_at (P := P) w base t ty e i z 1 bytes ht hi hz hsize hby hzs (by omega) v n xs hown a m c news hlen hc h1 h63 hbytes hbase
    exact ⟨v', w', hrun, h2, h3, h5⟩

theorem wpList_app {ops : Array Oper} {rest : List Oper} {o : Oper} {a : Act} {Q : Exit → Act → World → Prop} (hgd : o.guard = none) (s x : Operand) (t : TypeId)
    (ho : o.op = .call { callee := .builtin .append, args := #[s, x], argTypes := #[t, t] })
    (base : Nat) (e : TypeId) (i : TypeInfo) (z : Value) (bytes : Nat) (ht : P.underlying t = some (.slice e)) (hi : P.info? e = some i) (hz : i.zero = some z)
    (hsize : i.size = 1) (hby : i.bytes = bytes) (hzs : z.cells.size = 1) (v : Value) (n : Nat) (xs : List Value) (hs : a.eval s = v) (hown : w.ownsRow base e 1 v n xs)
    (B : Nat) (A : Option Addr) (m c : Nat) (news : List Value) (hx : a.eval x = .slice A m c) (hr : Lies w B 1 A m news) (h1 : ∀ u ∈ news, u.oneCell' = true)
    (h63 : n + m ≤ maxLen) (hbytes : (n + m) * bytes ≤ 140737488355328) (hbase : base ≤ w.heap.size)
    (h : ∀ v' w', w'.ownsRow base e 1 v' (n + m) (xs ++ news) → w.grownBy w' v.ownBlock → (v'.ownBlock = v.ownBlock ∨ v'.ownBlock = some w.heap.size) → wpList P ops Q rest (a.put o.dst v') w') :
    wpList P ops Q (o :: rest) a w := by
  refine wpList_plain hgd fun K hK => ?_
  obtain ⟨v', w', hrun, h2, h3, h4⟩ := run_app (P := P) base t o.type e i z bytes ht hi hz hsize hby hzs v n xs hown B A m c news hr h1 h63 hbytes hbase
  unfold Oper.wp execOp
  simp only [ho, resolve, invoke, builtin, Sem.run_bind, Sem.run_pure, Result.andThen_ok, List.map_toArray, List.map_cons, List.map_nil, hs, hx, hrun]
  exact hK _ _ (h v' w' h2 h3 h4)
end

/-- An owned row is the call's own: a slice value with its cells. -/
theorem owns_form {w : World} {base : Nat} {e : TypeId} {v : Value} {n : Nat} {xs : List Value} (h : w.ownsRow base e 1 v n xs) :
    ∃ A c, v = .slice A n c ∧ Lies w w.heap.size 1 A n xs := by
  rcases h.2 with ⟨rfl, rfl⟩ | ⟨g, cap, cur, rfl, _⟩
  · exact ⟨none, 0, rfl, Lies.of_owns h⟩
  · exact ⟨_, cap, rfl, Lies.of_owns h⟩
theorem owns_below {w w' : World} {base : Nat} {e : TypeId} {v : Value} {n : Nat} {xs : List Value} (h : w.ownsRow base e 1 v n xs) (hb : Below w.heap.size w w') : w'.ownsRow base e 1 v n xs := by
  refine ⟨h.1, ?_⟩
  rcases h.2 with h2 | ⟨g, cap, cur, hv, hg, hh, r⟩
  · exact Or.inl h2
  · have hlt : g < w.heap.size := by
      rcases Nat.lt_or_ge g w.heap.size with hl | hl
      · exact hl
      · rw [Array.getElem?_eq_none hl] at hh; cases hh
    exact Or.inr ⟨g, cap, cur, hv, hg, (hb.block g hlt).trans hh, r⟩
theorem owns_mono {w : World} {base base' : Nat} {e : TypeId} {v : Value} {n : Nat} {xs : List Value} (h : w.ownsRow base e 1 v n xs) (hb : base' ≤ base) : w.ownsRow base' e 1 v n xs := by
  refine ⟨h.1, ?_⟩
  rcases h.2 with h2 | ⟨g, cap, cur, hv, hg, r⟩
  · exact Or.inl h2
  · exact Or.inr ⟨g, cap, cur, hv, Nat.le_trans hb hg, r⟩
theorem u8s_one (l : List UInt8) : ∀ u ∈ u8s l, u.oneCell' = true := by
  intro u hu
  obtain ⟨b, _, rfl⟩ := List.mem_map.1 hu
  rfl
theorem u8s_append (a b : List UInt8) : u8s a ++ u8s b = u8s (a ++ b) := by simp [u8s]
/-- What grew by an append onto an owned row, below a base. -/
theorem below_app {B base : Nat} {a w w' : World} {v : Value} (h : Below B a w) (hg : w.grownBy w' v.ownBlock) (hB : B ≤ w.heap.size) (hv : ∀ k, v.ownBlock = some k → base ≤ k) (hb : B ≤ base) : Below B a w' :=
  h.grown hg hB fun k hk => Nat.le_trans hb (hv k hk)
theorem below_up {B : Nat} {w w1 : World} (h : Below B w w1) (o : Obj) : w.heap.size ≤ (w1.alloc o).heap.size := by
  have := h.size
  simp; omega
theorem lies_up {w w1 : World} {A : Option Addr} {n : Nat} {xs : List Value} (h : Lies w w.heap.size 1 A n xs) (hb : Below w.heap.size w w1) (o : Obj) : Lies (w1.alloc o) (w1.alloc o).heap.size 1 A n xs :=
  ((h.below hb).alloc hb.size o).wide (below_up hb o)
theorem lies_one (w : World) (x : Value) (t : TypeId) : Lies (w.alloc (.cells #[x] t)) (w.alloc (.cells #[x] t)).heap.size 1 (some ⟨w.heap.size, 0, none⟩) 1 [x] := by
  have := lies_new w #[x] t 1 [x] rfl rfl
  simpa using this

end Go.Proofs.Ytbemphfijkcbhaa
/- Arrays and blocks of cells that are told by a function: of any program. -/
namespace Go.Proofs.Ytbemphfijkcbhaa
open Go.RowKit

def vec (n : Nat) (f : Nat → Value) : Array Value := ((List.range n).map f).toArray
theorem vec_size (n : Nat) (f : Nat → Value) : (vec n f).size = n := by simp [vec]
theorem vec_at (n : Nat) (f : Nat → Value) (i : Nat) (h : i < n) : (vec n f)[i]? = some (f i) := by
  simp [vec, h]
theorem vec_congr {n : Nat} {f g : Nat → Value} (h : ∀ i, i < n → f i = g i) : vec n f = vec n g := by
  unfold vec
  congr 1
  exact List.map_congr_left fun i hi => h i (List.mem_range.1 hi)
theorem vec_inj {n : Nat} {f g : Nat → Value} (h : vec n f = vec n g) : ∀ i, i < n → f i = g i := by
  intro i hi
  have h1 := vec_at n f i hi
  rw [h, vec_at n g i hi] at h1
  exact (Option.some.inj h1).symm
def upd {α : Type} (f : Nat → α) (i : Nat) (x : α) : Nat → α := fun j => if j = i then x else f j
theorem upd_at {α : Type} (f : Nat → α) (i : Nat) (x : α) : upd f i x i = x := by simp [upd]
theorem upd_ne {α : Type} (f : Nat → α) (i : Nat) (x : α) (j : Nat) (h : j ≠ i) : upd f i x j = f j := by simp [upd, h]
theorem vec_set (n : Nat) (f : Nat → Value) (i : Nat) (x : Value) : (vec n f).setIfInBounds i x = vec n (upd f i x) := by
  apply Array.ext_getElem?
  intro j
  rw [Array.getElem?_setIfInBounds, vec_size]
  by_cases hj : j < n
  · rw [vec_at n _ j hj, vec_at n _ j hj]
    by_cases e : i = j
    · subst e; simp [upd, hj]
    · simp [upd, e, Ne.symm e]
  · by_cases e : i = j
    · subst e; simp [hj, vec]
    · simp [e, hj, vec]

/-- Block g is an array of n cells, no more. -/
def Arr (w : World) (g : Nat) (t : TypeId) (n : Nat) (f : Nat → Value) : Prop := w.heap[g]? = some (.cells (vec n f) t (0, 0))
section
variable {w w' : World} {g n : Nat} {t : TypeId} {f f' : Nat → Value}
theorem Arr.lt (h : Arr w g t n f) : g < w.heap.size := by
  rcases Nat.lt_or_ge g w.heap.size with hlt | hge
  · exact hlt
  · unfold Arr at h; rw [Array.getElem?_eq_none hge] at h; cases h
theorem Arr.cell (h : Arr w g t n f) {i : Nat} (hi : i < n) : w.cell? ⟨g, i, none⟩ = some (f i) := (cell_of_row w g i _ t (0, 0) h).trans (vec_at n f i hi)
theorem Arr.frozen (h : Arr w g t n f) (i : Nat) : w.frozen? ⟨g, i, none⟩ = false := by
  unfold Arr at h; simp [World.frozen?, h]
theorem Arr.new (w : World) (t : TypeId) (n : Nat) (f : Nat → Value) : Arr (w.alloc (.cells (vec n f) t)) w.heap.size t n f := heap_alloc_new w _
theorem Arr.new' (w : World) (t : TypeId) (n : Nat) (f : Nat → Value) (cs : Array Value) (hc : cs = vec n f) : Arr (w.alloc (.cells cs t)) w.heap.size t n f := by
  subst hc; exact Arr.new w t n f
theorem Arr.newAt (w : World) (t : TypeId) (n : Nat) (f : Nat → Value) {g : Nat} (hg : g = w.heap.size) : Arr (w.alloc (.cells (vec n f) t)) g t n f := by
  subst hg; exact Arr.new w t n f
theorem Arr.drewN (h : Arr w g t n f) (k : Nat) : Arr (w.drewN k) g t n f := h
theorem Arr.alloc (h : Arr w g t n f) (o : Obj) : Arr (w.alloc o) g t n f := (Below.heap_alloc w o g h.lt).trans h
theorem Arr.set (h : Arr w g t n f) (i : Nat) (u : Value) : Arr (w.setCell ⟨g, i, none⟩ u) g t n (upd f i u) := by
  unfold Arr at h ⊢
  rw [← vec_set]
  simp [World.setCell, Array.getElem?_modify, h]
theorem Arr.far (h : Arr w g t n f) {p : Addr} (hp : g ≠ p.block) (u : Value) : Arr (w.setCell p u) g t n f := (Below.heap_setCell w p u g hp).trans h
theorem Arr.below {B : Nat} (h : Arr w g t n f) (hb : Below B w w') (hg : g < B) : Arr w' g t n f := (hb.block g hg).trans h
theorem Arr.under (h : Arr w g t n f) (hb : Below w.heap.size w w') : Arr w' g t n f := h.below hb h.lt
theorem Arr.grown {row : Option Nat} (h : Arr w g t n f) (hb : w.grownBy w' row) (hg : some g ≠ row) : Arr w' g t n f := (hb.block g h.lt hg).trans h
theorem Arr.congr (h : Arr w g t n f) (hf : ∀ i, i < n → f i = f' i) : Arr w g t n f' := by
  unfold Arr at h ⊢; rw [← vec_congr hf]; exact h
theorem Arr.row (h : Arr w g t n f) (f' : Nat → Value) : Arr (w.setRow g (vec n f')) g t n f' := by
  unfold Arr at h ⊢
  simp [World.setRow, Array.getElem?_modify, h]
theorem Arr.rowFar (h : Arr w g t n f) {g' : Nat} (hp : g ≠ g') (c : Array Value) : Arr (w.setRow g' c) g t n f := by
  unfold Arr at h ⊢
  simp [World.setRow, Array.getElem?_modify, h, Ne.symm hp]
theorem Arr.lies {B : Nat} (h : Arr w g t n f) (hB : g < B) (a m : Nat) (hm : a + m ≤ n) : Lies w B 1 (some ⟨g, a, none⟩) m ((List.range m).map fun i => f (a + i)) := by
  refine ⟨by simp, fun _ => ⟨_, rfl, hB, fun j hj => ?_⟩⟩
  have e : ((⟨g, a, none⟩ : Addr).add j) = ⟨g, a + j, none⟩ := by
    unfold Addr.add; by_cases h0 : j = 0 <;> simp [h0]
  simp at hj
  rw [e, h.cell (by omega)]
  simp
theorem below_drewN {B : Nat} (h : Below B w w') (k : Nat) : Below B w (w'.drewN k) := ⟨h.1, h.2, h.3, h.4, h.5⟩
theorem below_row {B : Nat} (h : Below B w w') (hB : B ≤ g) (c : Array Value) : Below B w (w'.setRow g c) := by
  refine ⟨h.1, h.2, h.3, by have := h.4; simpa [World.setRow] using this, fun b hb => ?_⟩
  rw [← h.5 b hb]
  simp [World.setRow, Array.getElem?_modify, show g ≠ b by omega]
theorem run_load_arr {P : Program} {ty : TypeId} {d : TypeDesc} (h : Arr w g t n f) (hu : P.underlying ty = some d) (hd : (match d with | .struct _ | .array _ _ => true | _ => false) = true) (hi : (P.info? ty).map (·.size) = some n) :
    (loadVar ty ⟨g, 0, none⟩).run P w = .ok (.agg (vec n f)) w :=
  run_loadVar_row w g t ty (vec n f) (0, 0) d h hu hd (by rw [vec_size]; exact hi)
theorem run_store_arr {P : Program} {ty : TypeId} (h : Arr w g t n f) (f' : Nat → Value) (hi : (P.info? ty).map (·.size) = some n) (h1 : ∀ i, i < n → (f' i).oneCell' = true) :
    (storeVar ty ⟨g, 0, none⟩ (.agg (vec n f'))).run P w = .ok () (w.setRow g (vec n f')) :=
  run_storeVar_row w g t ty (vec n f) (vec n f') h (by rw [vec_size]; exact hi) (by rw [vec_size, vec_size]) (by
    rw [Array.all_eq_true_iff_forall_mem]
    intro v hv
    simp [vec] at hv
    obtain ⟨i, hi, rfl⟩ := hv
    exact h1 i hi)
end
def bys (b : Nat → UInt8) : Nat → Value := fun i => .int .u8 ((b i).toNat : Int)
theorem bys_one (h : Nat → UInt8) (n : Nat) : ∀ i, i < n → (bys h i).oneCell' = true := fun _ _ => rfl
theorem bys_upd (h : Nat → UInt8) (i : Nat) (x : UInt8) : upd (bys h) i (.int .u8 (x.toNat : Int)) = bys (upd h i x) := by
  funext j; by_cases e : j = i <;> simp [upd, bys, e]
section
variable {P : Program} {w w' : World} {ops : Array Oper} {rest : List Oper} {o : Oper} {a : Act} {Q : Exit → Act → World → Prop}
theorem results_cell1 {fn : Func} {p : Tmp} {ty : TypeId} (h : fn.results = #[.cell p ty]) (tmps : Array Value) (g : Nat) (v : Value)
    (ha : tmps.getD p undef = .pointer (some ⟨g, 0, none⟩)) (hl : (loadVar ty ⟨g, 0, none⟩).run P w = .ok v w) : (results fn tmps).run P w = .ok v w := by
  have hp' : tmps[p]?.getD undef = .pointer (some ⟨g, 0, none⟩) := by simpa using ha
  simp [results, h, hp', asAddr, hl]
theorem wl_load (hgd : o.guard = none) (ty : TypeId) (x : Operand) (ho : o.op = .load ty x) (g : Nat) (hx : a.eval x = .pointer (some ⟨g, 0, none⟩)) (v : Value)
    (hl : (loadVar ty ⟨g, 0, none⟩).run P w = .ok v w) (h : wpList P ops Q rest (a.put o.dst v) w) : wpList P ops Q (o :: rest) a w :=
  wpList_plain hgd fun K hK => by
    unfold Oper.wp execOp
    simp only [ho, hx, Instr.loadAt, Instr.sureAddr, Sem.run_bind, Sem.run_pure, Result.andThen_ok, hl]
    exact hK _ _ h
theorem exec_load (ty : TypeId) (x : Operand) (ho : o.op = .load ty x) (g : Nat) (hx : a.eval x = .pointer (some ⟨g, 0, none⟩)) (v : Value)
    (hl : (loadVar ty ⟨g, 0, none⟩).run P w = .ok v w) : (execOp a.eval o).run P w = .ok (.value v) w := by
  unfold execOp
  simp only [ho, hx, Instr.loadAt, Instr.sureAddr, Sem.run_bind, Sem.run_pure, Result.andThen_ok, hl]
theorem ow_store {K : Act → World → Prop} (ty : TypeId) (x y : Operand) (ho : o.op = .store ty x y) (g : Nat) (hx : a.eval x = .pointer (some ⟨g, 0, none⟩)) (v : Value) (hy : a.eval y = v)
    (hs : (storeVar ty ⟨g, 0, none⟩ v).run P w = .ok () w') (h : K (a.put o.dst undef) w') : o.wp P a w K Q := by
  unfold Oper.wp execOp
  simp only [ho, hx, hy, Instr.storeAt, Instr.sureAddr, Sem.run_bind, Sem.run_pure, Result.andThen_ok, hs]
  exact h
theorem wl_store (hgd : o.guard = none) (ty : TypeId) (x y : Operand) (ho : o.op = .store ty x y) (g : Nat) (hx : a.eval x = .pointer (some ⟨g, 0, none⟩)) (v : Value) (hy : a.eval y = v)
    (hs : (storeVar ty ⟨g, 0, none⟩ v).run P w = .ok () w') (h : wpList P ops Q rest (a.put o.dst undef) w') : wpList P ops Q (o :: rest) a w :=
  wpList_plain hgd fun K hK => by
    unfold Oper.wp execOp
    simp only [ho, hx, hy, Instr.storeAt, Instr.sureAddr, Sem.run_bind, Sem.run_pure, Result.andThen_ok, hs]
    exact hK _ _ h
end
theorem agg_cells (c : Array Value) : (Value.agg c).cells = c := rfl
theorem run_load_cells {P : Program} {w : World} {g n : Nat} {ty : TypeId} {d : TypeDesc} {f : Nat → Value} (h : ∀ i, i < n → w.cell? ⟨g, i, none⟩ = some (f i)) (hu : P.underlying ty = some d)
    (hd : (match d with | .struct _ | .array _ _ => true | _ => false) = true) (hi : (P.info? ty).map (·.size) = some n) :
    (loadVar ty ⟨g, 0, none⟩).run P w = .ok (.agg (vec n f)) w := by
  have hl : (loadCells ⟨g, 0, none⟩ (vec n f).toList.length).run P w = .ok (vec n f).toList.toArray w :=
    run_loadCells_list (P := P) w ⟨g, 0, none⟩ (vec n f).toList (fun j v hv => by
      have hadd : (⟨g, 0, none⟩ : Addr).add j = ⟨g, j, none⟩ := by unfold Addr.add; split <;> simp_all
      have hj : j < n := by
        have := (List.getElem?_eq_some_iff.1 hv).1
        simpa [vec] using this
      have hv2 : (vec n f)[j]? = some v := by simpa using hv
      rw [vec_at n f j hj] at hv2
      rw [hadd, h j hj, hv2])
  cases hq : P.info? ty with
  | none => simp [hq] at hi
  | some i =>
    have hs : i.size = n := by simpa [hq] using hi
    have hagg : (isAgg ty).run P w = .ok true w := by
      unfold isAgg
      rw [Sem.run_bind, run_underlying hu w]
      cases d <;> simp_all
    have hz : (vec n f).size = n := vec_size n f
    simp only [Array.length_toList, Array.toArray_toList] at hl
    rw [hz] at hl
    simp [loadVar, Sem.run_bind, hagg, sizeOf, typeInfo, hq, hs, hl]

def spl (o m : Nat) (c f : Nat → Value) : Nat → Value := fun i => if o ≤ i ∧ i < o + m then c (i - o) else f i
theorem vec_spl (n o m : Nat) (c f : Nat → Value) (h : o + m ≤ n) : ((vec n f).toList.take o ++ (List.range m).map c ++ (vec n f).toList.drop (o + m)).toArray = vec n (spl o m c f) := by
  unfold vec
  congr 1
  apply List.ext_getElem?
  intro i
  simp only [List.getElem?_append, List.length_append, List.length_take, List.length_map, List.length_range, List.getElem?_take, List.getElem?_drop, List.getElem?_map]
  by_cases h1 : i < o
  · rw [if_pos (by omega), if_pos (by omega), if_pos h1]
    by_cases hn : i < n
    · simp [List.getElem?_range hn, spl]; omega
    · omega
  · by_cases h2 : i < o + m
    · rw [if_pos (by omega), if_neg (by omega)]
      have e : i - min o n = i - o := by omega
      rw [e, List.getElem?_range (by omega), List.getElem?_range (by omega)]
      simp [spl]; omega
    · rw [if_neg (by omega)]
      have e : o + m + (i - (min o n + m)) = i := by omega
      rw [e]
      by_cases hn : i < n
      · rw [List.getElem?_range hn]; simp [spl]; omega
      · rw [List.getElem?_eq_none (by simp; omega)]; rfl
/-- All but block g is as it was. -/
structure Save (g : Nat) (w w' : World) : Prop where
  os : w'.os = w.os
  tape : w'.tape = w.tape
  output : w'.output = w.output
  size : w.heap.size ≤ w'.heap.size
  block : ∀ k, k < w.heap.size → k ≠ g → w'.heap[k]? = w.heap[k]?
theorem Save.refl (g : Nat) (w : World) : Save g w w := ⟨rfl, rfl, rfl, Nat.le_refl _, fun _ _ _ => rfl⟩
theorem Save.trans {g : Nat} {a b c : World} (h : Save g a b) (k : Save g b c) : Save g a c :=
  ⟨k.os.trans h.os, k.tape.trans h.tape, k.output.trans h.output, Nat.le_trans h.size k.size, fun i hi hg => (k.block i (Nat.lt_of_lt_of_le hi h.size) hg).trans (h.block i hi hg)⟩
theorem Save.of_below {g : Nat} {w w' : World} (h : Below w.heap.size w w') : Save g w w' := ⟨h.1, h.2, h.3, h.4, fun k hk _ => h.5 k hk⟩
theorem Save.below {g B : Nat} {w w' : World} (h : Save g w w') (hB : B ≤ g) (hs : B ≤ w.heap.size) : Below B w w' := ⟨h.1, h.2, h.3, h.4, fun k hk => h.5 k (by omega) (by omega)⟩
theorem Save.drewN {g : Nat} {w w' : World} (h : Save g w w') (n : Nat) : Save g w (w'.drewN n) := ⟨h.1, h.2, h.3, h.4, h.5⟩
theorem Save.setCell {g : Nat} {w w' : World} (h : Save g w w') (i : Nat) (u : Value) : Save g w (w'.setCell ⟨g, i, none⟩ u) := by
  refine ⟨h.1, h.2, h.3, by have := h.4; simpa [World.setCell] using this, fun k hk hg => ?_⟩
  rw [← h.5 k hk hg]
  exact Below.heap_setCell w' ⟨g, i, none⟩ u k hg
theorem Save.setRow {g : Nat} {w w' : World} (h : Save g w w') (c : Array Value) : Save g w (w'.setRow g c) := by
  refine ⟨h.1, h.2, h.3, by have := h.4; simpa [World.setRow] using this, fun k hk hg => ?_⟩
  rw [← h.5 k hk hg]
  simp [World.setRow, Array.getElem?_modify, Ne.symm hg]
theorem Save.cell {g : Nat} {w w' : World} (h : Save g w w') {p : Addr} (hp : p.block < w.heap.size) (hg : p.block ≠ g) : w'.cell? p = w.cell? p :=
  World.cell?_of_block (h.5 p.block hp hg)
theorem Arr.save {g g' n : Nat} {w w' : World} {t : TypeId} {f : Nat → Value} (h : Arr w g n t f) (hs : Save g' w w') (hg : g ≠ g') : Arr w' g n t f := (hs.block g h.lt hg).trans h
/-- Cells into a longer block, from place o on. -/
theorem run_store_spl {P : Program} {w : World} {g n o m : Nat} {t ty : TypeId} {f : Nat → Value} (h : Arr w g t n f) (c : Nat → Value) (ho : o + m ≤ n) (hi : (P.info? ty).map (·.size) = some m) (h1 : ∀ i, i < m → (c i).oneCell' = true) :
    (storeVar ty ⟨g, o, none⟩ (.agg (vec m c))).run P w = .ok () (w.setRow g (vec n (spl o m c f))) := by
  have hst := run_storeCells_at P g o t ((List.range m).map c) 0 (vec n f) w h (by rw [vec_size]; simp; omega) (by
    intro v hv
    simp at hv
    obtain ⟨i, hi, rfl⟩ := hv
    exact h1 i hi)
  have e := vec_spl n o m c f ho
  cases hq : P.info? ty with
  | none => simp [hq] at hi
  | some i =>
    have hs : i.size = m := by simpa [hq] using hi
    have hz : (vec m c).size = m := vec_size m c
    have hl : (vec m c).toList = (List.range m).map c := by simp [vec]
    simp only [Nat.add_zero, List.length_map, List.length_range] at hst
    rw [e] at hst
    simp [storeVar, sizeOf, typeInfo, hq, hs, Value.cells, hz, hl, hst]
theorem run_load_spl {P : Program} {w : World} {g o n : Nat} {ty : TypeId} {d : TypeDesc} {f : Nat → Value} (h : ∀ i, i < n → w.cell? ⟨g, o + i, none⟩ = some (f i)) (hu : P.underlying ty = some d)
    (hd : (match d with | .struct _ | .array _ _ => true | _ => false) = true) (hi : (P.info? ty).map (·.size) = some n) :
    (loadVar ty ⟨g, o, none⟩).run P w = .ok (.agg (vec n f)) w := by
  have hl : (loadCells ⟨g, o, none⟩ (vec n f).toList.length).run P w = .ok (vec n f).toList.toArray w :=
    run_loadCells_list (P := P) w ⟨g, o, none⟩ (vec n f).toList (fun j v hv => by
      have hadd : (⟨g, o, none⟩ : Addr).add j = ⟨g, o + j, none⟩ := by unfold Addr.add; split <;> simp_all
      have hj : j < n := by
        have := (List.getElem?_eq_some_iff.1 hv).1
        simpa [vec] using this
      have hv2 : (vec n f)[j]? = some v := by simpa using hv
      rw [vec_at n f j hj] at hv2
      rw [hadd, h j hj, hv2])
  cases hq : P.info? ty with
  | none => simp [hq] at hi
  | some i =>
    have hs : i.size = n := by simpa [hq] using hi
    have hagg : (isAgg ty).run P w = .ok true w := by
      unfold isAgg
      rw [Sem.run_bind, run_underlying hu w]
      cases d <;> simp_all
    have hz : (vec n f).size = n := vec_size n f
    simp only [Array.length_toList, Array.toArray_toList] at hl
    rw [hz] at hl
    simp [loadVar, Sem.run_bind, hagg, sizeOf, typeInfo, hq, hs, hl]
/-- copy into a longer block. -/
theorem run_copy_spl {P : Program} {w : World} {g n o dLen dCap sLen sCap : Nat} {dT sT ty elem t : TypeId} {a : Addr} {f c : Nat → Value} (m : Nat) (h : Arr w g t n f)
    (hu : P.underlying dT = some (.slice elem)) (hs : (P.info? elem).map (·.size) = some 1) (hm : m = Nat.min sLen dLen)
    (hsrc : ∀ j, j < m → w.cell? (a.add j) = some (c j)) (ho : o + m ≤ n) (h1 : ∀ i, i < m → (c i).oneCell' = true) :
    (Builtin.copy_ #[dT, sT] ty #[.slice (some ⟨g, o, none⟩) dLen dCap, .slice (some a) sLen sCap]).run P w = .ok (goInt (m : Nat)) (w.setRow g (vec n (spl o m c f))) := by
  have := run_copy_row P w dT sT ty elem g o dLen dCap a sLen sCap (vec n f) t ((List.range m).map c) hu hs h (by simpa using hm) (by
    intro j v hv
    obtain ⟨hj, rfl⟩ := List.getElem?_eq_some_iff.1 hv
    simp at hj ⊢
    exact hsrc j hj) (by rw [vec_size]; simp; omega) (by
    intro v hv
    simp at hv
    obtain ⟨i, hi, rfl⟩ := hv
    exact h1 i hi)
  rw [List.length_map, List.length_range, vec_spl n o m c f ho] at this
  exact this
theorem ow_copy {P : Program} {w w' : World} {o : Oper} {a : Act} {K : Act → World → Prop} {Q : Exit → Act → World → Prop} (d s : Operand) (t t' : TypeId)
    (ho : o.op = .call { callee := .builtin .copy, args := #[d, s], argTypes := #[t, t'] }) (v u : Value) (hd : a.eval d = v) (hs : a.eval s = u) {v' : Value}
    (hr : (Builtin.copy_ #[t, t'] o.type #[v, u]).run P w = .ok v' w') (h : K (a.put o.dst v') w') : o.wp P a w K Q := by
  unfold Oper.wp execOp
  simp only [ho, resolve, invoke, builtin, Sem.run_bind, Sem.run_pure, Result.andThen_ok, List.map_toArray, List.map_cons, List.map_nil, hd, hs, hr]
  exact h
theorem ow_load {P : Program} {w : World} {o : Oper} {a : Act} {K : Act → World → Prop} {Q : Exit → Act → World → Prop} (ty : TypeId) (x : Operand) (ho : o.op = .load ty x) (g k : Nat) (hx : a.eval x = .pointer (some ⟨g, k, none⟩)) (v : Value)
    (hl : (loadVar ty ⟨g, k, none⟩).run P w = .ok v w) (h : K (a.put o.dst v) w) : o.wp P a w K Q := by
  unfold Oper.wp execOp
  simp only [ho, hx, Instr.loadAt, Instr.sureAddr, Sem.run_bind, Sem.run_pure, Result.andThen_ok, hl]
  exact h
theorem exec_load_at {P : Program} {w : World} {o : Oper} {a : Act} (ty : TypeId) (x : Operand) (ho : o.op = .load ty x) (g k : Nat) (hx : a.eval x = .pointer (some ⟨g, k, none⟩)) (v : Value)
    (hl : (loadVar ty ⟨g, k, none⟩).run P w = .ok v w) : (execOp a.eval o).run P w = .ok (.value v) w := by
  unfold execOp
  simp only [ho, hx, Instr.loadAt, Instr.sureAddr, Sem.run_bind, Sem.run_pure, Result.andThen_ok, hl]
theorem wl_build {P : Program} {w : World} {ops : Array Oper} {rest : List Oper} {o : Oper} {a : Act} {Q : Exit → Act → World → Prop} (hg : o.guard = none) (t : TypeId) (parts : Array (Nat × Operand)) (ho : o.op = .build t parts)
    (cs : Array Value) (hb : P.built t (parts.map fun (i, x) => (i, a.eval x)).toList = some cs) (h : wpList P ops Q rest (a.put o.dst (.agg cs)) w) : wpList P ops Q (o :: rest) a w :=
  wpList_build hg t parts ho (by rw [hb]; rfl) (by rw [hb]; exact h)
theorem wl_load_at {P : Program} {w : World} {ops : Array Oper} {rest : List Oper} {o : Oper} {a : Act} {Q : Exit → Act → World → Prop} (hgd : o.guard = none) (ty : TypeId) (x : Operand) (ho : o.op = .load ty x) (g k : Nat) (hx : a.eval x = .pointer (some ⟨g, k, none⟩)) (v : Value)
    (hl : (loadVar ty ⟨g, k, none⟩).run P w = .ok v w) (h : wpList P ops Q rest (a.put o.dst v) w) : wpList P ops Q (o :: rest) a w :=
  wpList_plain hgd fun _ hK => ow_load ty x ho g k hx v hl (hK _ _ h)
theorem owns_cap {w : World} {base : Nat} {e : TypeId} {v : Value} {n : Nat} {xs : List Value} (h : w.ownsRow base e 1 v n xs) :
    ∃ A c, v = .slice A n c ∧ n ≤ c ∧ (∀ a, A = some a → base ≤ a.block) ∧ Lies w w.heap.size 1 A n xs := by
  rcases h.2 with ⟨rfl, rfl⟩ | ⟨g, cap, cur, rfl, hb, _, hc, _⟩
  · exact ⟨none, 0, rfl, Nat.le_refl _, (fun _ h => by cases h), Lies.of_owns h⟩
  · exact ⟨_, cap, rfl, hc, fun a ha => by injection ha with ha; subst ha; exact hb, Lies.of_owns h⟩
theorem owns_blk {w : World} {base : Nat} {e : TypeId} {v : Value} {n : Nat} {xs : List Value} (h : w.ownsRow base e 1 v n xs) (hn : n ≠ 0) :
    ∃ g c, v = .slice (some ⟨g, 0, none⟩) n c ∧ base ≤ g ∧ n ≤ c ∧ ∀ j (hj : j < xs.length), w.cell? ⟨g, 0 + j, none⟩ = some xs[j] := by
  rcases h.2 with ⟨_, h0⟩ | ⟨g, cap, cur, rfl, hb, hg, hc, hm, hs, hx⟩
  · exact absurd h0 hn
  · refine ⟨g, cap, rfl, hb, hc, fun j hj => ?_⟩
    have := h.cells (g := g) rfl j _ (List.getElem?_eq_getElem hj)
    rw [Nat.zero_add]
    have e : ((⟨g, 0, none⟩ : Addr).add j) = ⟨g, j, none⟩ := by unfold Addr.add; by_cases h0 : j = 0 <;> simp [h0]
    rw [e] at this; exact this

/-- Block g holds just these cells. -/
def Blk (w : World) (g : Nat) (t : TypeId) (cs : Array Value) : Prop := w.heap[g]? = some (.cells cs t (0, 0))
section
variable {w w' : World} {g : Nat} {t : TypeId} {cs : Array Value}
theorem Blk.lt (h : Blk w g t cs) : g < w.heap.size := by
  rcases Nat.lt_or_ge g w.heap.size with hlt | hge
  · exact hlt
  · unfold Blk at h; rw [Array.getElem?_eq_none hge] at h; cases h
theorem Blk.new (w : World) (t : TypeId) (cs : Array Value) {g : Nat} (h : g = w.heap.size) : Blk (w.alloc (.cells cs t)) g t cs := by subst h; exact heap_alloc_new w _
theorem Blk.alloc (h : Blk w g t cs) (o : Obj) : Blk (w.alloc o) g t cs := (Below.heap_alloc w o g h.lt).trans h
theorem Blk.under (h : Blk w g t cs) (hb : Below w.heap.size w w') : Blk w' g t cs := (hb.block g h.lt).trans h
theorem Blk.below {B : Nat} (h : Blk w g t cs) (hb : Below B w w') (hg : g < B) : Blk w' g t cs := (hb.block g hg).trans h
theorem Blk.save {g' : Nat} (h : Blk w g t cs) (hs : Save g' w w') (hg : g ≠ g') : Blk w' g t cs := (hs.block g h.lt hg).trans h
theorem Blk.row (h : Blk w g t cs) (cs' : Array Value) : Blk (w.setRow g cs') g t cs' := by
  unfold Blk at h ⊢
  simp [World.setRow, Array.getElem?_modify, h]
theorem Blk.rowFar (h : Blk w g t cs) {g' : Nat} (hp : g ≠ g') (c : Array Value) : Blk (w.setRow g' c) g t cs := by
  unfold Blk at h ⊢
  simp [World.setRow, Array.getElem?_modify, h, Ne.symm hp]
theorem Blk.drewN (h : Blk w g t cs) (k : Nat) : Blk (w.drewN k) g t cs := h
theorem Blk.grown {row : Option Nat} (h : Blk w g t cs) (hb : w.grownBy w' row) (hg : some g ≠ row) : Blk w' g t cs := (hb.block g h.lt hg).trans h
theorem Blk.cell (h : Blk w g t cs) (i : Nat) : w.cell? ⟨g, i, none⟩ = cs[i]? := cell_of_row w g i _ t (0, 0) h
theorem Blk.cellAt (h : Blk w g t cs) (i : Nat) {v : Value} (hv : cs[i]? = some v) : w.cell? ⟨g, i, none⟩ = some v := (h.cell i).trans hv
theorem Blk.load {P : Program} {ty : TypeId} {d : TypeDesc} (h : Blk w g t cs) (hu : P.underlying ty = some d)
    (hd : (match d with | .struct _ | .array _ _ => true | _ => false) = true) (hi : (P.info? ty).map (·.size) = some cs.size) : (loadVar ty ⟨g, 0, none⟩).run P w = .ok (.agg cs) w :=
  run_loadVar_row w g t ty cs (0, 0) d h hu hd hi
theorem Blk.store {P : Program} {ty : TypeId} (h : Blk w g t cs) (cs' : Array Value) (hs : cs'.size = cs.size) (hi : (P.info? ty).map (·.size) = some cs'.size) (h1 : cs'.toList.all Value.oneCell' = true) :
    (storeVar ty ⟨g, 0, none⟩ (.agg cs')).run P w = .ok () (w.setRow g cs') :=
  run_storeVar_row w g t ty cs cs' h hi hs.symm (by rw [← Array.all_toList]; exact h1)
end
end Go.Proofs.Ytbemphfijkcbhaa
/- What an object of several blocks may change: the blocks of its own, and no others. -/
namespace Go.Proofs.Ytbemphfijkcbhaa
open Go.RowKit

/-- All but the blocks of G is as it was. -/
structure Turn (G : Nat → Prop) (w w' : World) : Prop where
  os : w'.os = w.os
  tape : w'.tape = w.tape
  output : w'.output = w.output
  size : w.heap.size ≤ w'.heap.size
  block : ∀ k, k < w.heap.size → ¬ G k → w'.heap[k]? = w.heap[k]?
section
variable {G G' : Nat → Prop} {a b c w w' : World}
theorem Turn.refl (G : Nat → Prop) (w : World) : Turn G w w := ⟨rfl, rfl, rfl, Nat.le_refl _, fun _ _ _ => rfl⟩
theorem Turn.trans (h : Turn G a b) (k : Turn G' b c) (hG : ∀ i, G' i → G i ∨ a.heap.size ≤ i) : Turn G a c :=
  ⟨k.os.trans h.os, k.tape.trans h.tape, k.output.trans h.output, Nat.le_trans h.size k.size, fun i hi hg =>
    (k.block i (Nat.lt_of_lt_of_le hi h.size) fun e => by rcases hG i e with h1 | h1; exact hg h1; omega).trans (h.block i hi hg)⟩
theorem Turn.andThen (h : Turn G a b) (k : Turn G b c) : Turn G a c := h.trans k fun _ h => Or.inl h
theorem Turn.mono (h : Turn G a b) (hG : ∀ i, G i → G' i) : Turn G' a b := ⟨h.1, h.2, h.3, h.4, fun i hi hg => h.5 i hi fun e => hg (hG i e)⟩
theorem Turn.of_below (h : Below w.heap.size w w') : Turn G w w' := ⟨h.1, h.2, h.3, h.4, fun k hk _ => h.5 k hk⟩
theorem Turn.below {B : Nat} (h : Turn G w w') (hG : ∀ i, G i → B ≤ i) (hB : B ≤ w.heap.size) : Below B w w' :=
  ⟨h.1, h.2, h.3, h.4, fun k hk => h.5 k (by omega) fun e => by have := hG k e; omega⟩
theorem Turn.alloc (h : Turn G a b) (o : Obj) : Turn G a (b.alloc o) := h.andThen (Turn.of_below ((Below.refl _ _).alloc (Nat.le_refl _) o))
theorem Turn.drewN (h : Turn G a b) (n : Nat) : Turn G a (b.drewN n) := ⟨h.1, h.2, h.3, h.4, h.5⟩
theorem Turn.drew (h : Turn G a b) : Turn G a b.drew := ⟨h.1, h.2, h.3, h.4, h.5⟩
theorem Turn.setRow {g : Nat} (h : Turn G a b) (hg : G g ∨ a.heap.size ≤ g) (cs : Array Value) : Turn G a (b.setRow g cs) := by
  refine ⟨h.1, h.2, h.3, by have := h.4; simpa [World.setRow] using this, fun k hk hn => ?_⟩
  rw [← h.5 k hk hn]
  have : g ≠ k := fun e => by subst e; rcases hg with h1 | h1; exact hn h1; omega
  simp [World.setRow, Array.getElem?_modify, this]
theorem Turn.setCell {p : Addr} (h : Turn G a b) (hg : G p.block ∨ a.heap.size ≤ p.block) (u : Value) : Turn G a (b.setCell p u) := by
  refine ⟨h.1, h.2, h.3, by have := h.4; simpa [World.setCell] using this, fun k hk hn => ?_⟩
  rw [← h.5 k hk hn]
  exact Below.heap_setCell b p u k fun e => by subst e; rcases hg with h1 | h1; exact hn h1; omega
theorem Turn.of_grown {row : Option Nat} (h : w.grownBy w' row) (hr : ∀ g, row = some g → G g) : Turn G w w' :=
  ⟨h.1, h.2, h.3, h.4, fun k hk hg => h.5 k hk fun e => hg (hr k e.symm)⟩
theorem Turn.cell {p : Addr} (h : Turn G w w') (hp : p.block < w.heap.size) (hg : ¬ G p.block) : w'.cell? p = w.cell? p := World.cell?_of_block (h.5 p.block hp hg)
theorem Turn.froz {p : Addr} (h : Turn G w w') (hp : p.block < w.heap.size) (hg : ¬ G p.block) : w'.frozen? p = w.frozen? p := World.frozen?_of_block (h.5 p.block hp hg)
theorem Arr.turn {g n : Nat} {t : TypeId} {f : Nat → Value} (h : Arr w g t n f) (k : Turn G w w') (hg : ¬ G g) : Arr w' g t n f := (k.block g h.lt hg).trans h
theorem Blk.turn {g : Nat} {t : TypeId} {cs : Array Value} (h : Blk w g t cs) (k : Turn G w w') (hg : ¬ G g) : Blk w' g t cs := (k.block g h.lt hg).trans h
theorem Lies.turn {B size n : Nat} {A : Option Addr} {xs : List Value} (h : Lies w B size A n xs) (k : Turn G w w') (hB : B ≤ w.heap.size) (hg : ∀ p, A = some p → n ≠ 0 → ¬ G p.block) : Lies w' B size A n xs :=
  ⟨h.1, fun hn => by
    obtain ⟨p, e, hb, hc⟩ := h.2 hn
    refine ⟨p, e, hb, fun j hj => (k.cell ?_ ?_).trans (hc j hj)⟩
    · rw [addr_add_block]; omega
    · rw [addr_add_block]; exact hg p e hn⟩
theorem KB_of_turn_heap (h : Turn G w w') {B : Nat} (hB : B < w.heap.size) (hg : ¬ G B) : w'.heap[B]? = w.heap[B]? := h.block B hB hg
end
/-- Bytes of a slice, cut. -/
theorem Lies.cut {w : World} {B n : Nat} {A : Option Addr} {l : List UInt8} (h : Lies w B 1 A n (u8s l)) (hn : n = l.length) (i m : Nat) (hm : i + m ≤ n) : Lies w B 1 (A.map fun a => a.add i) m (u8s ((l.drop i).take m)) := by
  subst hn
  refine ⟨by simp [u8s]; omega, fun h0 => ?_⟩
  obtain ⟨a, rfl, hb, hc⟩ := h.2 (by omega)
  refine ⟨a.add i, rfl, by rw [addr_add_block]; exact hb, fun j hj => ?_⟩
  have hj2 : j < m := by simp [u8s] at hj; omega
  rw [addr_add_add, hc (i + j) (by simp [u8s]; omega)]
  simp [u8s]
end Go.Proofs.Ytbemphfijkcbhaa
/- Plain maths of memory: bytes by their addresses; writing, zeroing, pages. -/
namespace Go.Proofs.Ytbemphfijkcbhaa

abbrev Bytes8 := Nat → UInt8
/-- Written: l from at on. -/
def wrM (m : Bytes8) (at_ : Nat) (l : List UInt8) : Bytes8 := fun a => if at_ ≤ a ∧ a < at_ + l.length then l.getD (a - at_) 0 else m a
/-- Zeroed. -/
def zrM (m : Bytes8) (s n : Nat) : Bytes8 := fun a => if s ≤ a ∧ a < s + n then 0 else m a
def rdM (m : Bytes8) (at_ n : Nat) : List UInt8 := (List.range n).map fun i => m (at_ + i)
theorem rdM_length (m : Bytes8) (at_ n : Nat) : (rdM m at_ n).length = n := by simp [rdM]
theorem rdM_get (m : Bytes8) (at_ n i : Nat) (h : i < n) : (rdM m at_ n)[i]? = some (m (at_ + i)) := by simp [rdM, h]
theorem wrM_nil (m : Bytes8) (at_ : Nat) : wrM m at_ [] = m := by funext a; simp [wrM]; omega
/-- The page of an address. -/
def pgOf (a : Nat) : Nat := a / 4096 * 4096
theorem pgOf_le (a : Nat) : pgOf a ≤ a := Nat.div_mul_le_self a 4096
theorem pgOf_mod (a : Nat) : pgOf a % 4096 = 0 := Nat.mul_mod_left _ _
theorem pgOf_lt (a : Nat) : a < pgOf a + 4096 := by unfold pgOf; omega
theorem pgOf_eq {a k : Nat} (hk : k % 4096 = 0) (h1 : k ≤ a) (h2 : a < k + 4096) : pgOf a = k := by unfold pgOf; omega
theorem pgOf_add (a : Nat) : pgOf a + a % 4096 = a := by unfold pgOf; omega
/-- A page that a span has addresses of. -/
def Touch (s : Sp) (x : Nat) : Prop := x % 4096 = 0 ∧ x < s.1 + s.2 ∧ s.1 < x + 4096 ∧ 0 < s.2
instance (s : Sp) (x : Nat) : Decidable (Touch s x) := by unfold Touch; exact inferInstance
abbrev PB (s : Sp) := { x : Nat // Touch s x }
/-- All pages of a span, in order. -/
def pcnt (s : Sp) : Nat := if s.2 = 0 then 0 else (s.1 + s.2 - 1) / 4096 - s.1 / 4096 + 1
theorem touch_at (s : Sp) (i : Nat) (h : i < pcnt s) : Touch s (pgOf s.1 + 4096 * i) := by
  unfold pcnt at h
  unfold Touch pgOf
  split at h
  · omega
  · omega
theorem touch_end (s : Sp) (h : 0 < s.2) : ¬ (pgOf s.1 + 4096 * pcnt s < s.1 + s.2) := by
  unfold pcnt pgOf
  rw [if_neg (by omega)]; omega
theorem touch_on (s : Sp) (i : Nat) (h : 0 < s.2) : i < pcnt s ↔ pgOf s.1 + 4096 * i < s.1 + s.2 := by
  unfold pcnt pgOf
  rw [if_neg (by omega)]; omega
theorem pcnt_le (s : Sp) (h : s.2 ≤ 1048576) : pcnt s ≤ 257 := by unfold pcnt; split <;> omega
def basesL (s : Sp) (k : Nat) : List (PB s) := (List.range k).filterMap fun i => if h : Touch s (pgOf s.1 + 4096 * i) then some ⟨_, h⟩ else none
theorem basesL_succ (s : Sp) (k : Nat) (h : k < pcnt s) : basesL s (k + 1) = basesL s k ++ [⟨_, touch_at s k h⟩] := by
  unfold basesL
  rw [List.range_succ, List.filterMap_append]
  simp [touch_at s k h]
theorem basesL_length (s : Sp) : ∀ k, k ≤ pcnt s → (basesL s k).length = k
  | 0, _ => rfl
  | k + 1, h => by rw [basesL_succ s k (by omega), List.length_append, basesL_length s k (by omega)]; rfl
/-- An address lies in one of these pages. -/
def inP {s : Sp} (pre : List (PB s)) (a : Nat) : Bool := pre.any fun x => decide (x.1 ≤ a) && decide (a < x.1 + 4096)
theorem inP_nil {s : Sp} (a : Nat) : inP ([] : List (PB s)) a = false := rfl
theorem inP_snoc {s : Sp} (pre : List (PB s)) (x : PB s) (a : Nat) : inP (pre ++ [x]) a = (inP pre a || (decide (x.1 ≤ a) && decide (a < x.1 + 4096))) := by simp [inP]
theorem inP_all {s : Sp} (a : Nat) (h1 : s.1 ≤ a) (h2 : a < s.1 + s.2) : inP (basesL s (pcnt s)) a = true := by
  have h0 : 0 < s.2 := by omega
  have hk : a / 4096 - s.1 / 4096 < pcnt s := by unfold pcnt; rw [if_neg (by omega)]; omega
  have key : ∀ k, k ≤ pcnt s → ∀ i, i < k → ∃ x ∈ basesL s k, x.1 = pgOf s.1 + 4096 * i := by
    intro k
    induction k with
    | zero => intro _ i hi; omega
    | succ k ih =>
      intro hk i hi
      rw [basesL_succ s k (by omega)]
      rcases Nat.lt_succ_iff_lt_or_eq.1 hi with h | rfl
      · obtain ⟨x, hx, e⟩ := ih (by omega) i h
        exact ⟨x, List.mem_append_left _ hx, e⟩
      · exact ⟨_, List.mem_append_right _ (List.mem_singleton.2 rfl), rfl⟩
  obtain ⟨x, hx, e⟩ := key _ (Nat.le_refl _) _ hk
  unfold inP
  refine List.any_eq_true.2 ⟨x, hx, ?_⟩
  rw [Bool.and_eq_true, decide_eq_true_eq, decide_eq_true_eq, e]
  unfold pgOf
  omega
/-- Within a page: the places that a span has of it. -/
def wFrom (x : Nat) (s : Sp) : Nat := max s.1 x - x
def wTo (x : Nat) (s : Sp) : Nat := min (s.1 + s.2 - 1 - x) 4095 + 1
theorem within_bounds {s : Sp} {x : Nat} (h : Touch s x) : wFrom x s < wTo x s ∧ wTo x s ≤ 4096 ∧ s.1 ≤ x + wFrom x s ∧ x + wTo x s ≤ s.1 + s.2 := by
  unfold Touch at h; unfold wFrom wTo; omega
theorem within_iff {s : Sp} {x : Nat} (h : Touch s x) (a : Nat) : (x + wFrom x s ≤ a ∧ a < x + wTo x s) ↔ (s.1 ≤ a ∧ a < s.1 + s.2 ∧ x ≤ a ∧ a < x + 4096) := by
  unfold Touch at h; unfold wFrom wTo; omega
/-- Written so far: of l, from s.1 on, what lies in the pages of pre. -/
def wrP (m : Bytes8) {s : Sp} (l : List UInt8) (pre : List (PB s)) : Bytes8 := fun a => if (s.1 ≤ a ∧ a < s.1 + s.2) ∧ inP pre a = true then l.getD (a - s.1) 0 else m a
theorem wrP_nil (m : Bytes8) {s : Sp} (l : List UInt8) : wrP m l ([] : List (PB s)) = m := by funext a; simp [wrP, inP_nil]
theorem wrP_all (m : Bytes8) (at_ : Nat) (l : List UInt8) : wrP m l (basesL (at_, l.length) (pcnt (at_, l.length))) = wrM m at_ l := by
  funext a
  unfold wrP wrM
  by_cases h : at_ ≤ a ∧ a < at_ + l.length
  · rw [if_pos h, if_pos ⟨h, inP_all a h.1 h.2⟩]
  · rw [if_neg h, if_neg (fun hh => h hh.1)]
theorem wrP_snoc (m : Bytes8) {s : Sp} (l : List UInt8) (hl : s.2 = l.length) (pre : List (PB s)) (x : PB s) : wrP m l (pre ++ [x]) = wrM (wrP m l pre) (x.1 + wFrom x.1 s) ((l.drop (x.1 + wFrom x.1 s - s.1)).take (wTo x.1 s - wFrom x.1 s)) := by
  obtain ⟨x, hx⟩ := x
  have hb := within_bounds hx
  funext a
  have hi := within_iff hx a
  have hlen : ((l.drop (x + wFrom x s - s.1)).take (wTo x s - wFrom x s)).length = wTo x s - wFrom x s := by simp; omega
  unfold wrM
  simp only [hlen]
  by_cases h : x + wFrom x s ≤ a ∧ a < x + wTo x s
  · have h2 := hi.1 h
    rw [if_pos (by omega)]
    unfold wrP
    rw [if_pos ⟨⟨h2.1, h2.2.1⟩, by rw [inP_snoc]; simp [h2.2.2.1, h2.2.2.2]⟩]
    rw [List.getD_eq_getElem?_getD, List.getD_eq_getElem?_getD, List.getElem?_take, if_pos (by omega), List.getElem?_drop]
    congr 2; omega
  · rw [if_neg (by omega)]
    unfold wrP
    rw [inP_snoc]
    by_cases h3 : s.1 ≤ a ∧ a < s.1 + s.2
    · have : (decide (x ≤ a) && decide (a < x + 4096)) = false := by
        rw [Bool.and_eq_false_iff, decide_eq_false_iff_not, decide_eq_false_iff_not]; omega
      rw [this, Bool.or_false]
    · rw [if_neg (fun hh => h3 hh.1), if_neg (fun hh => h3 hh.1)]
/-- Zeroed so far. -/
def zrP (m : Bytes8) {s : Sp} (pre : List (PB s)) : Bytes8 := fun a => if (s.1 ≤ a ∧ a < s.1 + s.2) ∧ inP pre a = true then 0 else m a
theorem zrP_nil (m : Bytes8) {s : Sp} : zrP m ([] : List (PB s)) = m := by funext a; simp [zrP, inP_nil]
theorem zrP_all (m : Bytes8) (s : Sp) : zrP m (basesL s (pcnt s)) = zrM m s.1 s.2 := by
  funext a
  unfold zrP zrM
  by_cases h : s.1 ≤ a ∧ a < s.1 + s.2
  · rw [if_pos h, if_pos ⟨h, inP_all a h.1 h.2⟩]
  · rw [if_neg h, if_neg (fun hh => h hh.1)]
/-- What a page loses. -/
def zrX (m : Bytes8) (s : Sp) (x : Nat) : Bytes8 := fun a => if (s.1 ≤ a ∧ a < s.1 + s.2) ∧ (x ≤ a ∧ a < x + 4096) then 0 else m a
theorem zrP_snoc (m : Bytes8) {s : Sp} (pre : List (PB s)) (x : PB s) : zrP m (pre ++ [x]) = zrX (zrP m pre) s x.1 := by
  funext a
  unfold zrP zrX
  rw [inP_snoc]
  by_cases h : s.1 ≤ a ∧ a < s.1 + s.2
  · by_cases h2 : x.1 ≤ a ∧ a < x.1 + 4096
    · rw [if_pos ⟨h, by simp [h2.1, h2.2]⟩, if_pos ⟨h, h2⟩]
    · have : (decide (x.1 ≤ a) && decide (a < x.1 + 4096)) = false := by
        rw [Bool.and_eq_false_iff, decide_eq_false_iff_not, decide_eq_false_iff_not]; omega
      rw [if_neg (c := (s.1 ≤ a ∧ a < s.1 + s.2) ∧ x.1 ≤ a ∧ a < x.1 + 4096) (fun hh => h2 hh.2), this, Bool.or_false]
  · rw [if_neg (fun hh => h hh.1), if_neg (fun hh => h hh.1)]
    exact (if_neg (fun hh => h hh.1)).symm
theorem zrX_off (m : Bytes8) (s : Sp) (x a : Nat) (h : ¬ (x ≤ a ∧ a < x + 4096)) : zrX m s x a = m a := by unfold zrX; rw [if_neg fun hh => h hh.2]
/-- Read so far, by places. -/
def rdP (m : Bytes8) {s : Sp} (pre : List (PB s)) : Bytes8 := fun j => if inP pre (s.1 + j) = true then m (s.1 + j) else 0
theorem rdP_nil (m : Bytes8) {s : Sp} : rdP m ([] : List (PB s)) = fun _ => 0 := by funext a; simp [rdP, inP_nil]
theorem rdP_all (m : Bytes8) (s : Sp) (j : Nat) (h : j < s.2) : rdP m (basesL s (pcnt s)) j = m (s.1 + j) := by
  unfold rdP; rw [inP_all (s.1 + j) (by omega) (by omega), if_pos rfl]
theorem rdP_snoc (m : Bytes8) {s : Sp} (pre : List (PB s)) (x : PB s) (j : Nat) (hj : j < s.2) : rdP m (pre ++ [x]) j = if x.1 + wFrom x.1 s - s.1 ≤ j ∧ j < x.1 + wFrom x.1 s - s.1 + (wTo x.1 s - wFrom x.1 s) then m (s.1 + j) else rdP m pre j := by
  obtain ⟨x, hx⟩ := x
  have hb := within_bounds hx
  have hi := within_iff hx (s.1 + j)
  unfold rdP
  rw [inP_snoc]
  by_cases h : x + wFrom x s ≤ s.1 + j ∧ s.1 + j < x + wTo x s
  · have h2 := hi.1 h
    rw [if_pos (by simp [h2.2.2.1, h2.2.2.2]), if_pos (by simp only; omega)]
  · have : (decide (x ≤ s.1 + j) && decide (s.1 + j < x + 4096)) = false := by
      rw [Bool.and_eq_false_iff, decide_eq_false_iff_not, decide_eq_false_iff_not]; omega
    simp only [this, Bool.or_false]
    rw [if_neg (c := x + wFrom x s - s.1 ≤ j ∧ j < x + wFrom x s - s.1 + (wTo x s - wFrom x s)) (by omega)]
/-- A page that nobody keeps reads 0. -/
theorem rdP_zero (m : Bytes8) {s : Sp} (pre : List (PB s)) (x : PB s) (hz : ∀ i, i < 4096 → m (x.1 + i) = 0) (j : Nat) : rdP m (pre ++ [x]) j = rdP m pre j := by
  unfold rdP
  rw [inP_snoc]
  by_cases h : x.1 ≤ s.1 + j ∧ s.1 + j < x.1 + 4096
  · have e := hz (s.1 + j - x.1) (by omega)
    rw [show x.1 + (s.1 + j - x.1) = s.1 + j by omega] at e
    rw [e]
    cases inP pre (s.1 + j) <;> simp
  · have : (decide (x.1 ≤ s.1 + j) && decide (s.1 + j < x.1 + 4096)) = false := by
      rw [Bool.and_eq_false_iff, decide_eq_false_iff_not, decide_eq_false_iff_not]; omega
    rw [this, Bool.or_false]
end Go.Proofs.Ytbemphfijkcbhaa
