/- Zeroing by going through a map's keys: what is 0 so far, as a function of what is left. -/
import Derived.Test.YtbemphfijkcbhaaRead9
import Derived.Sort.MapsRangeIn
namespace Go.Proofs.Ytbemphfijkcbhaa
open Go.RowKit Go.Maps

def zm (D0 : DataW Unit) (a c : Nat) (m : Bytes8) (left : Lit → Bool) : Bytes8 := fun y => if (a ≤ y ∧ y < a + c) ∧ Maps.has D0 (klit (pgOf y)) = true ∧ left (klit (pgOf y)) = false then 0 else m y
theorem zm_start (D0 : DataW Unit) (a c : Nat) (m : Bytes8) : zm D0 a c m (Maps.has D0) = m := by
  funext y
  unfold zm
  rw [if_neg fun h => by rw [h.2.1] at h; cases h.2.2]
theorem klit_same {j k : Nat} (hk : k < 18446744073709551616) : (klit j).sameKey (klit k) = decide (j = k) := by
  by_cases h : j = k
  · subst h
    rw [decide_eq_true rfl]
    exact WideAt.sameKey_self (klit_is hk)
  · rw [decide_eq_false h]
    exact sameKey_ne fun e => h (klit_inj e)
theorem zm_step (D0 : DataW Unit) (a c x : Nat) (m : Bytes8) (left : Lit → Bool) (hx : x < 18446744073709551616) (hx4 : x % 4096 = 0) (hl : Maps.has D0 (klit x) = true) :
    zm D0 a c m (fun z => left z && !z.sameKey (klit x)) = zrX (zm D0 a c m left) (a, c) x := by
  funext y
  unfold zrX zm
  simp only [klit_same hx]
  by_cases h1 : a ≤ y ∧ y < a + c
  · by_cases h2 : x ≤ y ∧ y < x + 4096
    · have e := pgOf_eq hx4 h2.1 h2.2
      rw [if_pos (show (a ≤ y ∧ y < a + c) ∧ (x ≤ y ∧ y < x + 4096) from ⟨h1, h2⟩), if_pos ⟨h1, by rw [e]; exact hl, by rw [e]; simp⟩]
    · have e : ¬ pgOf y = x := fun e => h2 (by rw [← e]; exact ⟨pgOf_le y, pgOf_lt y⟩)
      rw [if_neg (c := (a ≤ y ∧ y < a + c) ∧ x ≤ y ∧ y < x + 4096) (fun h => h2 h.2)]
      simp [e]
  · rw [if_neg (fun h => h1 h.1), if_neg (fun h => h1 h.1), if_neg (fun h => h1 h.1)]
theorem zm_end {w : World} {G : Nat → Prop} {b n : Nat} {D0 : DataW Unit} {m : Bytes8} (hP : Pg w G b n D0 m noX) (a c : Nat) (left : Lit → Bool) (hl : ∀ z, left z = false) : zm D0 a c m left = zrM m a c := by
  funext y
  unfold zm zrM
  by_cases h : a ≤ y ∧ y < a + c
  · rw [if_pos h]
    cases hh : Maps.has D0 (klit (pgOf y))
    · rw [if_neg (fun hc => by cases hc.2.1)]
      have hpm : pm D0 (pgOf y) = none := by unfold pm; rw [atKey_of_not_has hh]
      have := hP.no (pgOf y) (pgOf_mod y) hpm (y % 4096) (Nat.mod_lt _ (by decide))
      rw [pgOf_add] at this
      exact this
    · rw [if_pos ⟨h, rfl, hl _⟩]
  · rw [if_neg (fun hc => h hc.1), if_neg h]
/-- A range over the pages, under way. -/
structure ZI (V wr : World) (G : Nat → Prop) (b r n a c : Nat) (D0 D' : DataW Unit) (m : Bytes8) (left : Lit → Bool) (cnt : Nat) : Prop where
  rg : wr.ranges Try.prog 22 ptrR b r n D' left cnt
  pg : Pg wr G b n D' (zm D0 a c m left) noX
  tn : Turn G V wr
  sub : ∀ l, left l = true → Maps.has D0 l = true
theorem ranges_same {wr w' : World} {b r n cnt : Nat} {D : DataW Unit} {left : Lit → Bool} (h : wr.ranges Try.prog 22 ptrR b r n D left cnt) (hb : w'.heap[b]? = wr.heap[b]?) (hr : w'.heap[r]? = wr.heap[r]?) :
    w'.ranges Try.prog 22 ptrR b r n D left cnt := by
  obtain ⟨es, clock, since, seen, c0, h1, h2, h3, h4, h5, h6⟩ := h
  exact ⟨es, clock, since, seen, c0, hb.trans h1, h2, h3, h4, hr.trans h5, h6⟩
/-- A key has come. -/
theorem ZI.next {V wr w1 : World} {G : Nat → Prop} {b r n a c cnt : Nat} {D0 D' : DataW Unit} {m : Bytes8} {left : Lit → Bool} (h : ZI V wr G b r n a c D0 D' m left cnt) (hrG : ¬ G r) (hrV : V.heap.size ≤ r) (hg : wr.grownBy w1 (some r)) :
    Pg w1 G b n D' (zm D0 a c m left) noX ∧ Turn G V w1 :=
  ⟨h.pg.same hg.size fun i hi => hg.block i (h.pg.lt i hi) fun e => by cases e; exact hrG hi, ⟨hg.os.trans h.tn.os, hg.tape.trans h.tn.tape, hg.output.trans h.tn.output, Nat.le_trans h.tn.size hg.size, fun k hk hn =>
    (hg.block k (Nat.lt_of_lt_of_le hk h.tn.size) fun e => by cases e; omega).trans (h.tn.block k hk hn)⟩⟩
/-- Its page was gone through. -/
theorem ZI.step {V w1 w2 : World} {G : Nat → Prop} {b r n a c x cnt1 : Nat} {D0 D' : DataW Unit} {m : Bytes8} {left : Lit → Bool} (hrG : ¬ G r) (hsub : ∀ l, left l = true → Maps.has D0 l = true) (hlx : left (klit x) = true) (hx : x < 18446744073709551616) (hx4 : x % 4096 = 0)
    (hrg : w1.ranges Try.prog 22 ptrR b r n D' (fun z => left z && !z.sameKey (klit x)) cnt1) (hT : Turn G V w1) (hB : Blanked w1 w2 G b n x D' (zrX (zm D0 a c m left) (a, c) x)) :
    ∃ cnt2 D2, ZI V w2 G b r n a c D0 D2 m (fun z => left z && !z.sameKey (klit x)) cnt2 ∧ cnt2 ≤ cnt1 := by
  obtain ⟨W, D2, h1, h2, h3, h4, h5⟩ := hB
  have hr1 : W.heap[r]? = w1.heap[r]? := h1.block r hrg.lt hrG
  have hrW := ranges_same hrg h2 hr1
  rw [← zm_step D0 a c x m left hx hx4 (hsub _ hlx)] at h4
  have hsub2 : ∀ l, (left l && !l.sameKey (klit x)) = true → Maps.has D0 l = true := fun l hl => hsub l (by simp at hl; exact hl.1)
  rcases h3 with ⟨rfl, rfl⟩ | ⟨hd, rfl⟩
  · exact ⟨cnt1, D2, ⟨hrW, h4, hT.andThen h5, hsub2⟩, Nat.le_refl _⟩
  · obtain ⟨w', cnt2, hrun, hr2, hle, _⟩ := hrW.drop kLaw Try.underlying85 (klit_key hx) 0
    obtain rfl : w2 = w' := by
      unfold DelRun at hd
      rw [hd] at hrun
      injection hrun
    rw [strike_twice] at hr2
    exact ⟨cnt2, _, ⟨hr2, h4, hT.andThen h5, hsub2⟩, hle⟩
end Go.Proofs.Ytbemphfijkcbhaa
