/- The first pair that overlaps: plain mathematics. -/
import Derived.Test.YthedpjlafapfeaaRise
import Derived.Test.YthedpjlafapfeaaMutual
import Derived.Lib.SlBy
namespace Go.Proofs.Ythedpjlafapfeaa

def clashB : List Sp → Bool
  | [] => false
  | x :: t => t.any (overlap x) || clashB t
theorem clashB_false : ∀ l : List Sp, clashB l = false ↔ l.Pairwise (fun x y => overlap x y = false)
  | [] => by simp [clashB]
  | x :: t => by
    rw [clashB, Bool.or_eq_false_iff, List.pairwise_cons, clashB_false t, List.any_eq_false]
    simp only [Bool.not_eq_true]
theorem overlap_bad {x y : Sp} (h : ¬ (good x = true ∧ good y = true)) : overlap x y = false := by
  rw [← Bool.not_eq_true]
  intro h2
  exact h ⟨((overlap_iff x y).1 h2).1, ((overlap_iff x y).1 h2).2.1⟩
theorem clash_perm {l r : List Sp} (h : Rising (l.filter good) r) : clashB l = false ↔ r.Pairwise (fun x y => overlap x y = false) := by
  rw [clashB_false, h.1.pairwise_iff (fun {x y} hxy => by rw [overlap_comm]; exact hxy), List.pairwise_filter]
  constructor
  · exact fun hp => hp.imp fun {a b} hab _ _ => hab
  · exact fun hp => hp.imp fun {a b} hab => by
      by_cases hg : good a = true ∧ good b = true
      · exact hab hg.1 hg.2
      · exact overlap_bad hg
theorem clash_near : ∀ r : List Sp, r.Pairwise (fun x y => x.1 ≤ y.1) → (∀ x ∈ r, good x = true) → (∀ i (h : i + 1 < r.length), overlap r[i] r[i + 1] = false) → r.Pairwise (fun x y => overlap x y = false)
  | [], _, _, _ => List.Pairwise.nil
  | [x], _, _, _ => by simp
  | x :: y :: t, hs, hg, hn => by
    obtain ⟨h1, h2⟩ := List.pairwise_cons.1 hs
    have ih := clash_near (y :: t) h2 (fun z hz => hg z (by simp [hz])) (fun i h => hn (i + 1) (by simp at h ⊢; omega))
    refine List.pairwise_cons.2 ⟨fun z hz => ?_, ih⟩
    have h0 := hn 0 (by simp)
    simp only [List.getElem_cons_zero, List.getElem_cons_succ, Nat.zero_add] at h0
    have gx := hg x (by simp)
    have gy := hg y (by simp)
    have gz := hg z (by simp [hz])
    have gx' := (good_iff x).1 gx
    have gy' := (good_iff y).1 gy
    have hxy := h1 y (by simp)
    have hyz : y.1 ≤ z.1 := by
      rcases List.mem_cons.1 hz with rfl | hz
      · exact Nat.le_refl _
      · exact (List.pairwise_cons.1 h2).1 z hz
    have e0 : ¬ (y.1 < x.1 + x.2) := fun h => by
      rw [(overlap_iff x y).2 ⟨gx, gy, by omega, h⟩] at h0; cases h0
    rw [← Bool.not_eq_true]
    intro h
    have := ((overlap_iff x z).1 h).2.2.2
    omega

def hitAt (l : List Sp) (i j : Nat) : Bool := overlap (l.getD i (0, 0)) (l.getD j (0, 0))
theorem hitAt_lt {l : List Sp} {i j : Nat} (hi : i < l.length) (hj : j < l.length) : hitAt l i j = overlap l[i] l[j] := by simp [hitAt, hi, hj]
theorem clashB_hit (l : List Sp) : clashB l = false ↔ ∀ i j, i < j → j < l.length → hitAt l i j = false := by
  rw [clashB_false, List.pairwise_iff_getElem]
  constructor
  · intro h i j hij hj
    rw [hitAt_lt (by omega) hj]
    exact h i j (by omega) hj hij
  · intro h i j hi hj hij
    rw [← hitAt_lt hi hj]
    exact h i j hij hj
theorem hitAt_take (l : List Sp) {n i j : Nat} (hi : i < n) (hj : j < n) : hitAt (l.take n) i j = hitAt l i j := by
  unfold hitAt
  simp only [List.getD_eq_getElem?_getD, List.getElem?_take_of_lt hi, List.getElem?_take_of_lt hj]
theorem clash_take (l : List Sp) {n : Nat} (hn : n ≤ l.length) : clashB (l.take n) = false ↔ ∀ i j, i < j → j < n → hitAt l i j = false := by
  rw [clashB_hit]
  have e : (l.take n).length = n := by simp [hn]
  rw [e]
  exact ⟨fun h i j hij hj => by rw [← hitAt_take l (n := n) (by omega) hj]; exact h i j hij hj, fun h i j hij hj => by rw [hitAt_take l (n := n) (by omega) hj]; exact h i j hij hj⟩
theorem clash_mono (l : List Sp) (a b : Nat) (hab : a ≤ b) (hb : b < l.length) (h : clashB (l.take (a + 1)) = true) : clashB (l.take (b + 1)) = true := by
  rw [← Bool.not_eq_false] at h ⊢
  intro h2
  apply h
  rw [clash_take l (by omega)] at h2 ⊢
  exact fun i j hij hj => h2 i j hij (by omega)

/-- What First answers: the least j, then the least i. -/
def FirstIs (l : List Sp) (i j : Nat) (b : Bool) : Prop :=
  (b = true ∧ i < j ∧ j < l.length ∧ hitAt l i j = true ∧ (∀ i' j', i' < j' → j' < j → hitAt l i' j' = false) ∧ ∀ i', i' < i → hitAt l i' j = false) ∨
  (b = false ∧ i = 0 ∧ j = 0 ∧ ∀ i' j', i' < j' → j' < l.length → hitAt l i' j' = false)
theorem first_unique {l : List Sp} {i j i2 j2 : Nat} {b b2 : Bool} (h : FirstIs l i j b) (h2 : FirstIs l i2 j2 b2) : i = i2 ∧ j = j2 ∧ b = b2 := by
  rcases h with ⟨rfl, hij, hj, hh, hn, hm⟩ | ⟨rfl, rfl, rfl, hn⟩ <;> rcases h2 with ⟨rfl, hij2, hj2, hh2, hn2, hm2⟩ | ⟨rfl, rfl, rfl, hn2⟩
  · have ej : j = j2 := by
      rcases Nat.lt_trichotomy j j2 with h | h | h
      · have := hn2 i j hij h; rw [hh] at this; cases this
      · exact h
      · have := hn i2 j2 hij2 h; rw [hh2] at this; cases this
    subst ej
    have ei : i = i2 := by
      rcases Nat.lt_trichotomy i i2 with h | h | h
      · have := hm2 i h; rw [hh] at this; cases this
      · exact h
      · have := hm i2 h; rw [hh2] at this; cases this
    exact ⟨ei, rfl, rfl⟩
  · have := hn2 i j hij hj; rw [hh] at this; cases this
  · have := hn i2 j2 hij2 hj2; rw [hh2] at this; cases this
  · exact ⟨rfl, rfl, rfl⟩

theorem least_hit (q : Nat → Bool) : ∀ n, (∃ i, i < n ∧ q i = true) → ∃ i, i < n ∧ q i = true ∧ ∀ i', i' < i → q i' = false
  | 0, ⟨_, h, _⟩ => absurd h (Nat.not_lt_zero _)
  | n + 1, ⟨i, hi, hq⟩ => by
    by_cases h : ∃ i, i < n ∧ q i = true
    · obtain ⟨i, h1, h2, h3⟩ := least_hit q n h
      exact ⟨i, by omega, h2, h3⟩
    · refine ⟨i, hi, hq, fun i' hi' => ?_⟩
      rw [← Bool.not_eq_true]
      exact fun h' => h ⟨i', by omega, h'⟩
/-- A span with its numbers cut to 64 bits. -/
def cut64 (x : Sp) : Sp := (x.1 % 18446744073709551616, x.2 % 18446744073709551616)
theorem cut64_fit (x : Sp) : fit (cut64 x) := ⟨Nat.mod_lt _ (by decide), Nat.mod_lt _ (by decide)⟩
theorem cut64_eq {x : Sp} (h : fit x) : cut64 x = x := by
  unfold cut64
  rw [Nat.mod_eq_of_lt h.1, Nat.mod_eq_of_lt h.2]
theorem search_none {l : List Sp} {k : Nat} (hk : k = l.length) (hf : ∀ t, t < k → clashB (l.take (t + 1)) = false) : FirstIs l 0 0 false := by
  refine .inr ⟨rfl, rfl, rfl, fun i j hij hj => ?_⟩
  have := hf (l.length - 1) (by omega)
  rw [clash_take l (by omega)] at this
  exact this i j hij (by omega)
theorem search_hit {l : List Sp} {k : Nat} (hk : k < l.length) (hfit : ∀ x ∈ l, fit x) (hf : ∀ t, t < k → clashB (l.take (t + 1)) = false) (ht : clashB (l.take (k + 1)) = true) :
    ∃ i, FirstIs l i k true ∧ Lib.idxBy (fun _ y => overlap (cut64 y) l[k]) (l.take l.length) default = (i : Nat) := by
  have hno : ∀ i' j', i' < j' → j' < k → hitAt l i' j' = false := by
    intro i j hij hj
    have := hf (k - 1) (by omega)
    rw [clash_take l (by omega)] at this
    exact this i j hij (by omega)
  have hex : ∃ i, i < k ∧ hitAt l i k = true := by
    apply Classical.byContradiction
    intro hc
    have : clashB (l.take (k + 1)) = false := by
      rw [clash_take l (by omega)]
      intro i j hij hj
      rcases Nat.lt_or_ge j k with h | h
      · exact hno i j hij h
      · obtain rfl : j = k := by omega
        rw [← Bool.not_eq_true]
        exact fun h' => hc ⟨i, hij, h'⟩
    rw [this] at ht
    cases ht
  obtain ⟨i, hi, hh, hm⟩ := least_hit (fun i => hitAt l i k) k hex
  refine ⟨i, .inl ⟨rfl, hi, hk, hh, hno, hm⟩, ?_⟩
  refine Lib.idxBy_hit _ l l.length i default (by omega) (Nat.le_refl _) ?_ (fun j hj => ?_)
  · have e : l[i]! = l[i] := getElem!_pos l i (by omega)
    simp only [e, cut64_eq (hfit _ (List.getElem_mem (show i < l.length by omega)))]
    rw [← hitAt_lt (by omega) hk]; exact hh
  · have e : l[j]! = l[j] := getElem!_pos l j (by omega)
    simp only [e, cut64_eq (hfit _ (List.getElem_mem (show j < l.length by omega)))]
    rw [← hitAt_lt (by omega) hk]; exact hm j hj
end Go.Proofs.Ythedpjlafapfeaa
