/- A hash's state as a plain thing; bytes fed one by one. -/
import Derived.Test.YtmhdhhdhnkoocaaDoorBlock
import Derived.Laws.CopyRow
namespace Go.Proofs.YtmhdhhdhnkoocaaDoor
open Go.RowKit

structure St where
  h : Nat → W32
  b : Nat → UInt8
  t : Nat
def step1 (s : St) (x : UInt8) : St :=
  ⟨if (s.t + 1) % 64 = 0 then comp s.h (upd s.b (s.t % 64) x) else s.h, upd s.b (s.t % 64) x, s.t + 1⟩
def feed (s : St) (l : List UInt8) : St := l.foldl step1 s
theorem feed_nil (s : St) : feed s [] = s := rfl
theorem feed_cons (s : St) (x : UInt8) (l : List UInt8) : feed s (x :: l) = feed (step1 s x) l := rfl
theorem feed_append (s : St) (l m : List UInt8) : feed s (l ++ m) = feed (feed s l) m := List.foldl_append
theorem feed_t (s : St) (l : List UInt8) : (feed s l).t = s.t + l.length := by
  induction l generalizing s with
  | nil => rfl
  | cons x l ih => rw [feed_cons, ih]; simp [step1]; omega
/-- bytes laid from place r on -/
def lay (b : Nat → UInt8) (r : Nat) (l : List UInt8) : Nat → UInt8 := fun i => if r ≤ i ∧ i < r + l.length then l.getD (i - r) 0 else b i
theorem lay_nil (b : Nat → UInt8) (r : Nat) : lay b r [] = b := by funext i; simp [lay]; omega
theorem lay_cons (b : Nat → UInt8) (r : Nat) (x : UInt8) (l : List UInt8) : lay (upd b r x) (r + 1) l = lay b r (x :: l) := by
  funext i
  unfold lay upd
  by_cases h1 : i = r
  · subst h1
    rw [if_neg (by omega), if_pos rfl, if_pos ⟨Nat.le_refl _, by simp⟩]; simp
  · by_cases h2 : r + 1 ≤ i ∧ i < r + 1 + l.length
    · have e : i - r = (i - (r + 1)) + 1 := by omega
      rw [if_pos h2, if_pos ⟨by omega, by simp; omega⟩, e]; simp
    · rw [if_neg h2, if_neg h1, if_neg (by simp; omega)]
theorem feed_lt (l : List UInt8) : ∀ (h : Nat → W32) (b : Nat → UInt8) (t : Nat), t % 64 + l.length < 64 → feed ⟨h, b, t⟩ l = ⟨h, lay b (t % 64) l, t + l.length⟩ := by
  induction l with
  | nil => intro h b t _; rw [feed_nil, lay_nil]; rfl
  | cons x l ih =>
    intro h b t hl
    simp at hl
    have e : (t + 1) % 64 = t % 64 + 1 := by omega
    rw [feed_cons]
    have : step1 ⟨h, b, t⟩ x = ⟨h, upd b (t % 64) x, t + 1⟩ := by simp only [step1]; rw [if_neg (by omega)]
    rw [this, ih _ _ _ (by omega), e, lay_cons]
    simp; omega
theorem feed_full (l : List UInt8) (h : Nat → W32) (b : Nat → UInt8) (t : Nat) (hl : t % 64 + l.length = 64) : feed ⟨h, b, t⟩ l = ⟨comp h (lay b (t % 64) l), lay b (t % 64) l, t + l.length⟩ := by
  rcases List.eq_nil_or_concat l with rfl | ⟨l', x, rfl⟩
  · simp at hl; omega
  · rw [List.concat_eq_append] at hl ⊢
    simp at hl
    rw [feed_append, feed_lt l' h b t (by omega)]
    have e1 : (t + l'.length) % 64 = t % 64 + l'.length := by omega
    have e2 : upd (lay b (t % 64) l') (t % 64 + l'.length) x = lay b (t % 64) (l' ++ [x]) := by
      funext i
      unfold upd lay
      by_cases h1 : i = t % 64 + l'.length
      · subst h1
        rw [if_pos rfl, if_pos ⟨by omega, by simp⟩]
        simp [List.getD_eq_getElem?_getD]
      · rw [if_neg h1]
        by_cases h2 : t % 64 ≤ i ∧ i < t % 64 + l'.length
        · rw [if_pos h2, if_pos ⟨by omega, by simp; omega⟩]
          simp [List.getD_eq_getElem?_getD, List.getElem?_append, show i - t % 64 < l'.length by omega]
        · rw [if_neg h2, if_neg (by simp; omega)]
    show step1 _ x = _
    simp only [step1, e1, e2]
    rw [if_pos (by omega)]
    simp; omega

/-- A state's cells, then others. -/
def stf (s : St) (f0 : Nat → Value) : Nat → Value := fun i =>
  if i < 8 then .int .u32 (num (s.h i)) else if i < 72 then .int .u8 ((s.b (i - 8)).toNat : Int) else if i = 72 then .int .u64 (s.t : Int) else f0 i
theorem stf_h (s : St) (f0 : Nat → Value) (i : Nat) (h : i < 8) : stf s f0 i = wds s.h i := by simp [stf, wds, h]
theorem stf_b (s : St) (f0 : Nat → Value) (i : Nat) (h : i < 64) : stf s f0 (8 + i) = bys s.b i := by
  unfold stf bys
  rw [if_neg (by omega), if_pos (by omega), Nat.add_sub_cancel_left]
theorem stf_t (s : St) (f0 : Nat → Value) : stf s f0 72 = .int .u64 (s.t : Int) := by simp [stf]
theorem stf_t_upd (s : St) (f0 : Nat → Value) (t : Nat) : upd (stf s f0) 72 (.int .u64 (t : Int)) = stf ⟨s.h, s.b, t⟩ f0 := by
  funext i
  unfold upd stf
  by_cases h : i = 72
  · subst h; simp
  · simp [h]
theorem stf_h_spl (s : St) (f0 : Nat → Value) (h : Nat → W32) : spl 0 8 (wds h) (stf s f0) = stf ⟨h, s.b, s.t⟩ f0 := by
  funext i
  unfold spl stf wds
  by_cases h1 : i < 8
  · simp [h1]
  · simp [h1]
theorem stf_b_spl (s : St) (f0 : Nat → Value) (r : Nat) (l : List UInt8) (hr : r + l.length ≤ 64) : spl (8 + r) l.length (bys fun j => l.getD j 0) (stf s f0) = stf ⟨s.h, lay s.b r l, s.t⟩ f0 := by
  funext i
  unfold spl stf bys lay
  by_cases h1 : 8 + r ≤ i ∧ i < 8 + r + l.length
  · rw [if_pos h1, if_neg (by omega), if_pos (by omega)]
    dsimp only
    rw [if_pos (by omega), show i - 8 - r = i - (8 + r) by omega]
  · rw [if_neg h1]
    by_cases h2 : i < 8
    · simp [h2]
    · by_cases h3 : i < 72
      · simp only [h2, h3, if_true, if_false]
        rw [if_neg (by omega)]
      · simp [h2, h3]
theorem tabs_save {g : Nat} {w w' : World} (hT : Tabs w) (h : Save g w w') (h0 : g ≠ 1) (h1 : g ≠ 0) : Tabs w' :=
  ⟨fun i hi => (h.cell (World.block_lt_of_cell? w _ (hT.1 i hi)) (Ne.symm h0)).trans (hT.1 i hi), fun i hi => (h.cell (World.block_lt_of_cell? w _ (hT.2 i hi)) (Ne.symm h1)).trans (hT.2 i hi)⟩
end Go.Proofs.YtmhdhhdhnkoocaaDoor
