/- Counters in a row of words: which slot counts, what is told of it, what a rise makes of the words. Plain. -/
import Derived.Test.YtpeebdhbcglibaaQw
import Derived.Test.YtpeebdhbcglibaaNv
namespace Go.Proofs.Ytpeebdhbcglibaa
open Go.RowKit

/-- A slot's words. -/
def slotF (ws : List W32) (id p : Nat) : Nat → W32 := fun i => ws.getD (8 * id + 4 * p + i) 0
def idW (id : Nat) : W32 := BitVec.ofNat 32 id
theorem wrap_idW (id : Nat) : IntKind.u32.wrap (id : Int) = num (idW id) := by
  rw [IntKind.wrap_u32']
  unfold idW num
  rw [BitVec.toNat_ofNat]
  omega
/-- Which of two slots counts. -/
def top2 (x : W32) (f g : Nat → W32) : Option Bool :=
  if isRec x f = true then
    if isRec x g = true then
      if (f 1).toNat < (g 1).toNat then some true
      else if f 1 = g 1 ∧ f 2 ≠ g 2 then none
      else some false
    else some false
  else if isRec x g = true then some true
  else none
/-- What is told of a counter: the error, whether the second slot counts, its record. -/
structure Rv where
  err : Nat
  snd : Bool
  seq : W32
  val : W32
def rvOf (x : W32) (f g : Nat → W32) : Rv := match top2 x f g with
  | none => ⟨130, false, 0, 0⟩
  | some b => if (cond b g f) 1 = ones ∨ (cond b g f) 2 = ones then ⟨131, false, 0, 0⟩ else ⟨0, b, (cond b g f) 1, (cond b g f) 2⟩
def rv (ws : List W32) (id : Int) : Rv := if 0 ≤ id ∧ id < ((ws.length / 8 : Nat) : Int) then rvOf (idW id.toNat) (slotF ws id.toNat 0) (slotF ws id.toNat 1) else ⟨1, false, 0, 0⟩
theorem rv_at (ws : List W32) (k : Nat) (h : k < ws.length / 8) : rv ws (k : Int) = rvOf (idW k) (slotF ws k 0) (slotF ws k 1) := by
  unfold rv
  rw [if_pos ⟨by omega, by omega⟩, Int.toNat_natCast]
theorem rv_out (ws : List W32) (id : Int) (h : ¬ (0 ≤ id ∧ id < ((ws.length / 8 : Nat) : Int))) : rv ws id = ⟨1, false, 0, 0⟩ := by unfold rv; rw [if_neg h]
/-- The place of the slot that a rise writes. -/
def offB (b : Bool) : Nat := cond b 0 1
/-- Writes, one by one, up to the first error. -/
def wrAll : St → Nat → List Ct → Nat × St
  | s, _, [] => (0, s)
  | s, a, p :: ps => if s.wrE ((a : Int) + p.after) = 0 then wrAll (s.wr ((a : Int) + p.after) p.mask) a ps else (s.wrE ((a : Int) + p.after), s.wr ((a : Int) + p.after) p.mask)
/-- A rise. -/
def bumpA (id : Int) (b : Bool) : Nat := 8 * id.toNat + 4 * offB b
def bumpL (ws : List W32) (id : Int) (v : W32) : List Ct := stepsL (idW id.toNat) (slotF ws id.toNat (offB (rv ws id).snd)) ((rv ws id).seq + 1) v
def bump (s : St) (id : Int) (v : W32) : Nat × St :=
  if (rv s.ws id).err ≠ 0 then ((rv s.ws id).err, s)
  else if v.toNat ≤ (rv s.ws id).val.toNat then (132, s)
  else if v = ones then (131, s)
  else wrAll s (bumpA id (rv s.ws id).snd) (bumpL s.ws id v)
theorem wrAll_len : ∀ (l : List Ct) (s : St) (a : Nat), (wrAll s a l).2.ws.length = s.ws.length
  | [], _, _ => rfl
  | p :: ps, s, a => by
    unfold wrAll
    split
    · rw [wrAll_len ps, St.wr_len]
    · exact St.wr_len _ _ _
theorem wrAll_cs : ∀ (l : List Ct) (s : St) (a : Nat), (wrAll s a l).2.cs = s.cs
  | [], _, _ => rfl
  | p :: ps, s, a => by
    unfold wrAll
    split
    · rw [wrAll_cs ps, St.wr_cs]
    · exact St.wr_cs _ _ _
theorem wrAll_cnt : ∀ (l : List Ct) (s : St) (a : Nat), (wrAll s a l).2.cnt ≤ s.cnt + l.length
  | [], _, _ => by simp [wrAll]
  | p :: ps, s, a => by
    have h0 := St.wr_cnt s ((a : Int) + p.after) p.mask
    unfold wrAll
    split
    · have := wrAll_cnt ps (s.wr ((a : Int) + p.after) p.mask) a
      simp only [List.length_cons]; omega
    · simp only [List.length_cons]; omega
theorem stepsL_len (x : W32) (f : Nat → W32) (s v : W32) : (stepsL x f s v).length ≤ 5 := by
  unfold stepsL body4
  split <;> simp
theorem bump_len (s : St) (id : Int) (v : W32) : (bump s id v).2.ws.length = s.ws.length := by
  unfold bump
  split
  · rfl
  · split
    · rfl
    · split
      · rfl
      · exact wrAll_len _ _ _
theorem bump_cs (s : St) (id : Int) (v : W32) : (bump s id v).2.cs = s.cs := by
  unfold bump
  split
  · rfl
  · split
    · rfl
    · split
      · rfl
      · exact wrAll_cs _ _ _
theorem bump_cnt (s : St) (id : Int) (v : W32) : (bump s id v).2.cnt ≤ s.cnt + 5 := by
  unfold bump
  split
  · simp only; omega
  · split
    · simp only; omega
    · split
      · simp only; omega
      · have h1 := wrAll_cnt (bumpL s.ws id v) s (bumpA id (rv s.ws id).snd)
        have h2 : (bumpL s.ws id v).length ≤ 5 := stepsL_len _ _ _ _
        omega
/-- Words from a place on. -/
def fromA (ws : List W32) (a : Nat) : Nat → W32 := fun i => ws.getD (a + i) 0
theorem slot_from (ws : List W32) (id p : Nat) : slotF ws id p = fromA ws (8 * id + 4 * p) := rfl
theorem from_set (ws : List W32) (a k : Nat) (x : W32) (h : a + k < ws.length) : fromA (ws.set (a + k) x) a = upd (fromA ws a) k x := by
  funext i
  unfold fromA upd
  by_cases e : i = k
  · subst e
    simp [List.getD_eq_getElem?_getD, h]
  · have h1 : ¬ k = i := fun h => e h.symm
    simp [List.getD_eq_getElem?_getD, e, h1]
theorem getD_set_far (ws : List W32) (k j : Nat) (x : W32) (h : j ≠ k) : (ws.set k x).getD j 0 = ws.getD j 0 := by
  have : k ≠ j := fun e => h e.symm
  simp [List.getD_eq_getElem?_getD, this]
theorem torn_succ (f : Nat → W32) (p : Ct) (l : List Ct) (n : Nat) (m : W32) : torn f (p :: l) (n + 1) m = torn (put1 f p ones) l n m := rfl
theorem aft_cons (f : Nat → W32) (p : Ct) (l : List Ct) : aft f (p :: l) = aft (put1 f p ones) l := rfl
theorem St.wr_at {s : St} {k : Nat} (x : W32) (hon : s.on = true) (hk : k < s.ws.length) : (s.hit = none ∧ s.wrE (k : Int) = 0 ∧ s.wr (k : Int) x = ⟨s.ws.set k x, s.cs, s.cnt + 1, true⟩) ∨
    (∃ m, s.hit = some m ∧ s.wrE (k : Int) = 100 ∧ s.wr (k : Int) x = ⟨s.ws.set k (tornW (s.ws.getD k 0) x m), s.cs, s.cnt, false⟩) := by
  have h1 : ¬ s.on = false := by rw [hon]; simp
  have h2 : ¬ ¬ (0 ≤ (k : Int) ∧ (k : Int) < (s.ws.length : Int)) := fun h => h ⟨by omega, by omega⟩
  cases hh : s.hit with
  | none => exact .inl ⟨rfl, by unfold St.wrE; rw [if_neg h1, if_neg h2, hh], by unfold St.wr; rw [if_neg h1, if_neg h2, hh]; rfl⟩
  | some m => exact .inr ⟨m, rfl, by unfold St.wrE; rw [if_neg h1, if_neg h2, hh], by unfold St.wr; rw [if_neg h1, if_neg h2, hh]; rfl⟩
/-- What a row of writes into four words does. -/
theorem wrAll_is : ∀ (l : List Ct) (s : St) (a : Nat), s.on = true → a + 4 ≤ s.ws.length → (∀ p ∈ l, 0 ≤ p.after ∧ p.after < 4) →
    (∀ j, (j < a ∨ a + 4 ≤ j) → (wrAll s a l).2.ws.getD j 0 = s.ws.getD j 0) ∧
    (((wrAll s a l).1 = 0 ∧ fromA (wrAll s a l).2.ws a = aft (fromA s.ws a) l) ∨ (s.cs ≠ [] ∧ (wrAll s a l).1 = 100 ∧ ∃ n m, fromA (wrAll s a l).2.ws a = torn (fromA s.ws a) l n m))
  | [], s, a, _, _, _ => ⟨fun _ _ => rfl, .inl ⟨rfl, rfl⟩⟩
  | p :: ps, s, a, hon, ha, hl => by
    obtain ⟨h0, h4⟩ := hl p (by simp)
    obtain ⟨k, hk⟩ := Int.eq_ofNat_of_zero_le h0
    have hk4 : k < 4 := by omega
    have hka : (a : Int) + p.after = ((a + k : Nat) : Int) := by omega
    have hlt : a + k < s.ws.length := by omega
    rcases St.wr_at (s := s) (k := a + k) p.mask hon hlt with ⟨_, e1, e2⟩ | ⟨m, hm, e1, e2⟩
    · have ih := wrAll_is ps ⟨s.ws.set (a + k) p.mask, s.cs, s.cnt + 1, true⟩ a rfl (by simpa using ha) (fun q hq => hl q (by simp [hq]))
      have he : wrAll s a (p :: ps) = wrAll ⟨s.ws.set (a + k) p.mask, s.cs, s.cnt + 1, true⟩ a ps := by
        show (if s.wrE ((a : Int) + p.after) = 0 then _ else _) = _
        rw [hka, e1, if_pos rfl, e2]
      have hf : put1 (fromA s.ws a) p ones = fromA (s.ws.set (a + k) p.mask) a := by
        rw [put1_in _ _ _ k hk hk4, tornW_ones, from_set _ _ _ _ hlt]
      rw [he]
      refine ⟨fun j hj => ?_, ?_⟩
      · rw [ih.1 j hj]
        exact getD_set_far _ _ _ _ (by omega)
      · rcases ih.2 with ⟨i1, i2⟩ | ⟨i0, i1, n, m, i2⟩
        · exact .inl ⟨i1, by rw [i2, aft_cons, hf]⟩
        · exact .inr ⟨i0, i1, n + 1, m, by rw [i2, torn_succ, hf]⟩
    · have he : wrAll s a (p :: ps) = (100, ⟨s.ws.set (a + k) (tornW (s.ws.getD (a + k) 0) p.mask m), s.cs, s.cnt, false⟩) := by
        show (if s.wrE ((a : Int) + p.after) = 0 then _ else _) = _
        rw [hka, e1, if_neg (by decide), e2]
      rw [he]
      refine ⟨fun j hj => getD_set_far _ _ _ _ (by omega), .inr ⟨fun h => ?_, rfl, 0, m, ?_⟩⟩
      · unfold St.hit at hm
        rw [h] at hm
        cases hm
      · show fromA (s.ws.set (a + k) _) a = put1 (fromA s.ws a) p m
        rw [put1_in _ _ _ k hk hk4, from_set _ _ _ _ hlt]
        rfl
theorem steps_in (x : W32) (f : Nat → W32) (s v : W32) : ∀ p ∈ stepsL x f s v, 0 ≤ p.after ∧ p.after < 4 := by
  intro p hp
  unfold stepsL body4 at hp
  rcases List.mem_append.1 hp with h | h
  · split at h
    · simp at h; subst h; simp
    · cases h
  · simp at h
    rcases h with rfl | rfl | rfl | rfl <;> simp
/-- What is told depends on little. -/
theorem isRec_congr (x : W32) {f g : Nat → W32} (h : ∀ i, i < 4 → f i = g i) : isRec x f = isRec x g := by
  rw [Bool.eq_iff_iff, isRec_iff, isRec_iff, h 0 (by decide), h 1 (by decide), h 2 (by decide), h 3 (by decide)]
theorem top2_congr (x : W32) {f g f' g' : Nat → W32} (hf : isRec x f = isRec x f') (hg : isRec x g = isRec x g') (f1 : isRec x f = true → f 1 = f' 1 ∧ f 2 = f' 2) (g1 : isRec x g = true → g 1 = g' 1 ∧ g 2 = g' 2) : top2 x f g = top2 x f' g' := by
  unfold top2
  rw [← hf, ← hg]
  by_cases a : isRec x f = true
  · by_cases b : isRec x g = true
    · rw [if_pos a, if_pos b, if_pos a, if_pos b, (f1 a).1, (f1 a).2, (g1 b).1, (g1 b).2]
    · rw [if_pos a, if_neg b, if_pos a, if_neg b]
  · rw [if_neg a, if_neg a]
theorem top2_rec {x : W32} {f g : Nat → W32} {b : Bool} (h : top2 x f g = some b) : isRec x (cond b g f) = true := by
  unfold top2 at h
  split at h
  · split at h
    · split at h
      · cases h; assumption
      · split at h
        · cases h
        · cases h; assumption
    · cases h; assumption
  · split at h
    · cases h; assumption
    · cases h
theorem rvOf_congr (x : W32) {f g f' g' : Nat → W32} (hf : isRec x f = isRec x f') (hg : isRec x g = isRec x g') (f1 : isRec x f = true → f 1 = f' 1 ∧ f 2 = f' 2) (g1 : isRec x g = true → g 1 = g' 1 ∧ g 2 = g' 2) : rvOf x f g = rvOf x f' g' := by
  have e := top2_congr x hf hg f1 g1
  unfold rvOf
  rw [← e]
  cases ht : top2 x f g with
  | none => rfl
  | some b =>
    have hr := top2_rec ht
    cases b with
    | false => simp only [cond_false] at hr ⊢; rw [(f1 hr).1, (f1 hr).2]
    | true => simp only [cond_true] at hr ⊢; rw [(g1 hr).1, (g1 hr).2]
theorem rv_congr {ws ws' : List W32} (k : Nat) (hk : k < ws.length / 8) (hl : ws'.length = ws.length) (h : ∀ j, 8 * k ≤ j → j < 8 * k + 8 → ws'.getD j 0 = ws.getD j 0) : rv ws' (k : Int) = rv ws (k : Int) := by
  rw [rv_at _ _ (by omega), rv_at _ _ hk]
  have h0 : ∀ i, i < 4 → slotF ws' k 0 i = slotF ws k 0 i := fun i hi => h _ (by omega) (by omega)
  have h1 : ∀ i, i < 4 → slotF ws' k 1 i = slotF ws k 1 i := fun i hi => h _ (by omega) (by omega)
  exact rvOf_congr _ (isRec_congr _ h0) (isRec_congr _ h1) (fun _ => ⟨h0 1 (by decide), h0 2 (by decide)⟩) (fun _ => ⟨h1 1 (by decide), h1 2 (by decide)⟩)
theorem rvOf_ok {x : W32} {f g : Nat → W32} (h : (rvOf x f g).err = 0) : top2 x f g = some (rvOf x f g).snd ∧ (rvOf x f g).seq = (cond (rvOf x f g).snd g f) 1 ∧ (rvOf x f g).val = (cond (rvOf x f g).snd g f) 2 ∧ (rvOf x f g).seq ≠ ones ∧ (rvOf x f g).val ≠ ones := by
  unfold rvOf at h ⊢
  cases ht : top2 x f g with
  | none => rw [ht] at h; cases h
  | some b =>
    rw [ht] at h
    simp only at h ⊢
    by_cases hc : (cond b g f) 1 = ones ∨ (cond b g f) 2 = ones
    · rw [if_pos hc] at h; cases h
    · rw [if_neg hc]
      exact ⟨rfl, rfl, rfl, fun e => hc (.inl e), fun e => hc (.inr e)⟩
theorem seq_up {s : W32} (h : s ≠ ones) : s.toNat < (s + 1).toNat := by
  have h1 : s.toNat ≠ ones.toNat := fun e => h (BitVec.eq_of_toNat_eq e)
  have h2 : ones.toNat = 4294967295 := by decide
  have h3 := s.isLt
  rw [BitVec.toNat_add]
  have : (1 : W32).toNat = 1 := by decide
  rw [this]
  omega
/-- A slot beside the one that counts becomes the next record. -/
theorem rvOf_new {x : W32} {f g : Nat → W32} {s v : W32} (b : Bool) (ho : isRec x (cond b g f) = true) (hn : isRec x (cond b f g) = true) (h1 : (cond b f g) 1 = s) (h2 : (cond b f g) 2 = v) (hs : ((cond b g f) 1).toNat < s.toNat) (hv : v ≠ ones) :
    rvOf x f g = if s = ones then ⟨131, false, 0, 0⟩ else ⟨0, !b, s, v⟩ := by
  have ht : top2 x f g = some (!b) := by
    unfold top2
    cases b with
    | false =>
      simp only [cond_false] at *
      rw [if_pos ho, if_pos hn, if_pos (by rw [h1]; exact hs)]
      rfl
    | true =>
      simp only [cond_true] at *
      rw [if_pos hn, if_pos ho, if_neg (by rw [h1]; omega), if_neg (by rintro ⟨e, _⟩; rw [h1] at e; rw [← e] at hs; omega)]
      rfl
  unfold rvOf
  rw [ht]
  cases b with
  | false => simp only [cond_false, Bool.not_false, cond_true] at *; rw [h1, h2]; simp [hv]
  | true => simp only [cond_true, Bool.not_true, cond_false] at *; rw [h1, h2]; simp [hv]
/-- A slot beside the one that counts is spoilt. -/
theorem rvOf_less {x : W32} {f g f' g' : Nat → W32} (h0 : (rvOf x f g).err = 0) (b : Bool) (hb : (rvOf x f g).snd = b) (ho : ∀ i, i < 4 → (cond b g' f') i = (cond b g f) i) (hn : isRec x (cond b f' g') = false) : rvOf x f' g' = rvOf x f g := by
  obtain ⟨ht, hs, hv, hs1, hv1⟩ := rvOf_ok h0
  have hr := top2_rec ht
  rw [hb] at ht hs hv hr
  have hr' : isRec x (cond b g' f') = true := (isRec_congr x ho).trans hr
  have ht' : top2 x f' g' = some b := by
    unfold top2
    cases b with
    | false => simp only [cond_false] at *; rw [if_pos hr', if_neg (by rw [hn]; decide)]
    | true => simp only [cond_true] at *; rw [if_neg (by rw [hn]; decide), if_pos hr']
  unfold rvOf
  rw [ht, ht']
  simp only
  rw [ho 1 (by decide), ho 2 (by decide)]
/-- What a rise makes of the words: nothing, or ..; b is the slot that counts. -/
theorem bump_is (s : St) (hon : s.on = true) (k : Nat) (hk : k < s.ws.length / 8) (v : W32) (h0 : (rv s.ws (k : Int)).err = 0) (hv : (rv s.ws (k : Int)).val.toNat < v.toNat) (ho : v ≠ ones) :
    (∀ j, (j < 8 * k ∨ 8 * k + 8 ≤ j) → (bump s (k : Int) v).2.ws.getD j 0 = s.ws.getD j 0) ∧
    (((bump s (k : Int) v).1 = 0 ∨ (s.cs ≠ [] ∧ (bump s (k : Int) v).1 = 100)) ∧
     (((rv (bump s (k : Int) v).2.ws (k : Int)).err = 131 ∨ ((rv (bump s (k : Int) v).2.ws (k : Int)).err = 0 ∧ (rv (bump s (k : Int) v).2.ws (k : Int)).val = v)) ∨
      ((bump s (k : Int) v).1 = 100 ∧ rv (bump s (k : Int) v).2.ws (k : Int) = rv s.ws (k : Int)))) := by
  have hb : bump s (k : Int) v = wrAll s (bumpA (k : Int) (rv s.ws (k : Int)).snd) (bumpL s.ws (k : Int) v) := by
    unfold bump
    rw [if_neg (by rw [h0]; simp), if_neg (by omega), if_neg ho]
  obtain ⟨b, hbb⟩ : ∃ b, b = (rv s.ws (k : Int)).snd := ⟨_, rfl⟩
  obtain ⟨sq, hsq⟩ : ∃ sq, sq = (rv s.ws (k : Int)).seq := ⟨_, rfl⟩
  have hA : bumpA (k : Int) b = 8 * k + 4 * offB b := rfl
  have hL : bumpL s.ws (k : Int) v = stepsL (idW k) (slotF s.ws k (offB b)) (sq + 1) v := by unfold bumpL; rw [← hbb, ← hsq]; rfl
  rw [← hbb, hA, hL] at hb
  have hoff : offB b ≤ 1 := by cases b <;> decide
  have hw := wrAll_is (stepsL (idW k) (slotF s.ws k (offB b)) (sq + 1) v) s (8 * k + 4 * offB b) hon (by omega) (steps_in _ _ _ _)
  rw [← hb] at hw
  obtain ⟨e, t, het⟩ : ∃ e t, bump s (k : Int) v = (e, t) := ⟨_, _, rfl⟩
  have hlen : t.ws.length = s.ws.length := by have := bump_len s (k : Int) v; rw [het] at this; exact this
  rw [het] at hw ⊢
  obtain ⟨hw1, hw2⟩ := hw
  have hrv := rv_at s.ws k hk
  rw [hrv] at h0 hbb hsq
  have hrv' := rv_at t.ws k (by omega)
  obtain ⟨q1, q2, q3, q4, q5⟩ := rvOf_ok h0
  rw [← hbb, ← hsq] at q2
  rw [← hbb] at q1
  rw [← hsq] at q4
  have hrec := top2_rec q1
  -- the slot that counts is as it was
  have hold : ∀ i, i < 4 → (cond b (slotF t.ws k 1) (slotF t.ws k 0)) i = (cond b (slotF s.ws k 1) (slotF s.ws k 0)) i := by
    intro i hi
    cases b with
    | false => exact hw1 _ (by simp only [offB, cond_false]; omega)
    | true => exact hw1 _ (by simp only [offB, cond_true]; omega)
  have hnew : cond b (slotF t.ws k 0) (slotF t.ws k 1) = fromA t.ws (8 * k + 4 * offB b) := by cases b <;> rfl
  have hwas : slotF s.ws k (offB b) = fromA s.ws (8 * k + 4 * offB b) := rfl
  have hwas2 : cond b (slotF s.ws k 0) (slotF s.ws k 1) = fromA s.ws (8 * k + 4 * offB b) := by cases b <;> rfl
  refine ⟨fun j hj => hw1 j (by omega), ?_⟩
  rw [hwas] at hw2
  have hyes : isRec (idW k) (fromA t.ws (8 * k + 4 * offB b)) = true → fromA t.ws (8 * k + 4 * offB b) 1 = sq + 1 → fromA t.ws (8 * k + 4 * offB b) 2 = v → (rv t.ws (k : Int)).err = 131 ∨ ((rv t.ws (k : Int)).err = 0 ∧ (rv t.ws (k : Int)).val = v) := by
    intro r0 r1 r2
    rw [hrv', rvOf_new (s := sq + 1) (v := v) b ((isRec_congr _ hold).trans hrec) (by rw [hnew]; exact r0) (by rw [hnew]; exact r1) (by rw [hnew]; exact r2) (by rw [hold 1 (by decide), ← q2]; exact seq_up q4) ho]
    split
    · exact .inl rfl
    · exact .inr ⟨rfl, rfl⟩
  rcases hw2 with ⟨e0, ef⟩ | ⟨ec, e1, n, m, ef⟩
  · refine ⟨.inl e0, .inl ?_⟩
    have ha := aft_steps (idW k) (fromA s.ws (8 * k + 4 * offB b)) (sq + 1) v
    rw [← ef] at ha
    exact hyes ((isRec_congr _ ha).trans (isRec_rec _ _ _)) (ha 1 (by decide)) (ha 2 (by decide))
  · refine ⟨.inr ⟨ec, e1⟩, ?_⟩
    cases hr : isRec (idW k) (fromA t.ws (8 * k + 4 * offB b)) with
    | true =>
      have hr2 := hr
      rw [ef] at hr2
      rcases whole (idW k) _ (sq + 1) v n m hr2 with ⟨w1, w2⟩ | ⟨w0, w1, w2⟩
      · rw [← ef] at w1 w2
        exact .inl (hyes hr w1 w2)
      · rw [← ef] at w1 w2
        refine .inr ⟨e1, ?_⟩
        rw [hrv, hrv']
        cases b with
        | false =>
          exact rvOf_congr _ (isRec_congr _ hold) ((congrArg _ hnew).trans (hr.trans (w0.symm.trans (congrArg _ hwas2.symm)))) (fun _ => ⟨hold 1 (by decide), hold 2 (by decide)⟩) (fun _ => ⟨w1, w2⟩)
        | true =>
          exact rvOf_congr _ ((congrArg _ hnew).trans (hr.trans (w0.symm.trans (congrArg _ hwas2.symm)))) (isRec_congr _ hold) (fun _ => ⟨w1, w2⟩) (fun _ => ⟨hold 1 (by decide), hold 2 (by decide)⟩)
    | false =>
      refine .inr ⟨e1, ?_⟩
      rw [hrv, hrv']
      exact rvOf_less h0 b hbb.symm hold (by rw [hnew]; exact hr)
end Go.Proofs.Ytpeebdhbcglibaa
