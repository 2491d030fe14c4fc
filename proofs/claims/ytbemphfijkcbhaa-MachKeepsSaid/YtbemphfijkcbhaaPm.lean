/- Plain maths of memory: bytes by their addresses; writing, zeroing, pages. -/
import Derived.Test.YtbemphfijkcbhaaSpans
namespace Go.Proofs.Ytbemphfijkcbhaa

abbrev Bytes8 := Nat → UInt8
/-- Written: l from at on. -/
def wrM (m : Bytes8) (at_ : Nat) (l : List UInt8) : Bytes8 := fun a => if at_ ≤ a ∧ a < at_ + l.length then l.getD (a - at_) 0 else m a
/-- Zeroed. -/
def zrM (m : Bytes8) (s n : Nat) : Bytes8 := fun a => if s ≤ a ∧ a < s + n then 0 else m a
def rdM (m : Bytes8) (at_ n : Nat) : List UInt8 := (List.range n).map fun i => m (at_ + i)
theorem rdM_length (m : Bytes8) (at_ n : Nat) : (rdM m at_ n).length = n := by simp [rdM]
theorem rdM_get (m : Bytes8) (at_ n i : Nat) (h : i < n) : (rdM m at_ n)[i]? = some (m (at_ + i)) := by simp [rdM, h]
theorem wrM_nil (m : Bytes8) (at_ : Nat) : wrM m at_ [] = m := by funext a; simp [wrM]; omega
/-- The page of an address. -/
def pgOf (a : Nat) : Nat := a / 4096 * 4096
theorem pgOf_le (a : Nat) : pgOf a ≤ a := Nat.div_mul_le_self a 4096
theorem pgOf_mod (a : Nat) : pgOf a % 4096 = 0 := Nat.mul_mod_left _ _
theorem pgOf_lt (a : Nat) : a < pgOf a + 4096 := by unfold pgOf; omega
theorem pgOf_eq {a k : Nat} (hk : k % 4096 = 0) (h1 : k ≤ a) (h2 : a < k + 4096) : pgOf a = k := by unfold pgOf; omega
theorem pgOf_add (a : Nat) : pgOf a + a % 4096 = a := by unfold pgOf; omega
/-- A page that a span has addresses of. -/
def Touch (s : Sp) (x : Nat) : Prop := x % 4096 = 0 ∧ x < s.1 + s.2 ∧ s.1 < x + 4096 ∧ 0 < s.2
instance (s : Sp) (x : Nat) : Decidable (Touch s x) := by unfold Touch; exact inferInstance
abbrev PB (s : Sp) := { x : Nat // Touch s x }
/-- All pages of a span, in order. -/
def pcnt (s : Sp) : Nat := if s.2 = 0 then 0 else (s.1 + s.2 - 1) / 4096 - s.1 / 4096 + 1
theorem touch_at (s : Sp) (i : Nat) (h : i < pcnt s) : Touch s (pgOf s.1 + 4096 * i) := by
  unfold pcnt at h
  unfold Touch pgOf
  split at h
  · omega
  · omega
theorem touch_end (s : Sp) (h : 0 < s.2) : ¬ (pgOf s.1 + 4096 * pcnt s < s.1 + s.2) := by
  unfold pcnt pgOf
  rw [if_neg (by omega)]; omega
theorem touch_on (s : Sp) (i : Nat) (h : 0 < s.2) : i < pcnt s ↔ pgOf s.1 + 4096 * i < s.1 + s.2 := by
  unfold pcnt pgOf
  rw [if_neg (by omega)]; omega
theorem pcnt_le (s : Sp) (h : s.2 ≤ 1048576) : pcnt s ≤ 257 := by unfold pcnt; split <;> omega
def basesL (s : Sp) (k : Nat) : List (PB s) := (List.range k).filterMap fun i => if h : Touch s (pgOf s.1 + 4096 * i) then some ⟨_, h⟩ else none
theorem basesL_succ (s : Sp) (k : Nat) (h : k < pcnt s) : basesL s (k + 1) = basesL s k ++ [⟨_, touch_at s k h⟩] := by
  unfold basesL
  rw [List.range_succ, List.filterMap_append]
  simp [touch_at s k h]
theorem basesL_length (s : Sp) : ∀ k, k ≤ pcnt s → (basesL s k).length = k
  | 0, _ => rfl
  | k + 1, h => by rw [basesL_succ s k (by omega), List.length_append, basesL_length s k (by omega)]; rfl
/-- An address lies in one of these pages. -/
def inP {s : Sp} (pre : List (PB s)) (a : Nat) : Bool := pre.any fun x => decide (x.1 ≤ a) && decide (a < x.1 + 4096)
theorem inP_nil {s : Sp} (a : Nat) : inP ([] : List (PB s)) a = false := rfl
theorem inP_snoc {s : Sp} (pre : List (PB s)) (x : PB s) (a : Nat) : inP (pre ++ [x]) a = (inP pre a || (decide (x.1 ≤ a) && decide (a < x.1 + 4096))) := by simp [inP]
theorem inP_all {s : Sp} (a : Nat) (h1 : s.1 ≤ a) (h2 : a < s.1 + s.2) : inP (basesL s (pcnt s)) a = true := by
  have h0 : 0 < s.2 := by omega
  have hk : a / 4096 - s.1 / 4096 < pcnt s := by unfold pcnt; rw [if_neg (by omega)]; omega
  have key : ∀ k, k ≤ pcnt s → ∀ i, i < k → ∃ x ∈ basesL s k, x.1 = pgOf s.1 + 4096 * i := by
    intro k
    induction k with
    | zero => intro _ i hi; omega
    | succ k ih =>
      intro hk i hi
      rw [basesL_succ s k (by omega)]
      rcases Nat.lt_succ_iff_lt_or_eq.1 hi with h | rfl
      · obtain ⟨x, hx, e⟩ := ih (by omega) i h
        exact ⟨x, List.mem_append_left _ hx, e⟩
      · exact ⟨_, List.mem_append_right _ (List.mem_singleton.2 rfl), rfl⟩
  obtain ⟨x, hx, e⟩ := key _ (Nat.le_refl _) _ hk
  unfold inP
  refine List.any_eq_true.2 ⟨x, hx, ?_⟩
  rw [Bool.and_eq_true, decide_eq_true_eq, decide_eq_true_eq, e]
  unfold pgOf
  omega
/-- Within a page: the places that a span has of it. -/
def wFrom (x : Nat) (s : Sp) : Nat := max s.1 x - x
def wTo (x : Nat) (s : Sp) : Nat := min (s.1 + s.2 - 1 - x) 4095 + 1
theorem within_bounds {s : Sp} {x : Nat} (h : Touch s x) : wFrom x s < wTo x s ∧ wTo x s ≤ 4096 ∧ s.1 ≤ x + wFrom x s ∧ x + wTo x s ≤ s.1 + s.2 := by
  unfold Touch at h; unfold wFrom wTo; omega
theorem within_iff {s : Sp} {x : Nat} (h : Touch s x) (a : Nat) : (x + wFrom x s ≤ a ∧ a < x + wTo x s) ↔ (s.1 ≤ a ∧ a < s.1 + s.2 ∧ x ≤ a ∧ a < x + 4096) := by
  unfold Touch at h; unfold wFrom wTo; omega
/-- Written so far: of l, from s.1 on, what lies in the pages of pre. -/
def wrP (m : Bytes8) {s : Sp} (l : List UInt8) (pre : List (PB s)) : Bytes8 := fun a => if (s.1 ≤ a ∧ a < s.1 + s.2) ∧ inP pre a = true then l.getD (a - s.1) 0 else m a
theorem wrP_nil (m : Bytes8) {s : Sp} (l : List UInt8) : wrP m l ([] : List (PB s)) = m := by funext a; simp [wrP, inP_nil]
theorem wrP_all (m : Bytes8) (at_ : Nat) (l : List UInt8) : wrP m l (basesL (at_, l.length) (pcnt (at_, l.length))) = wrM m at_ l := by
  funext a
  unfold wrP wrM
  by_cases h : at_ ≤ a ∧ a < at_ + l.length
  · rw [if_pos h, if_pos ⟨h, inP_all a h.1 h.2⟩]
  · rw [if_neg h, if_neg (fun hh => h hh.1)]
theorem wrP_snoc (m : Bytes8) {s : Sp} (l : List UInt8) (hl : s.2 = l.length) (pre : List (PB s)) (x : PB s) : wrP m l (pre ++ [x]) = wrM (wrP m l pre) (x.1 + wFrom x.1 s) ((l.drop (x.1 + wFrom x.1 s - s.1)).take (wTo x.1 s - wFrom x.1 s)) := by
  obtain ⟨x, hx⟩ := x
  have hb := within_bounds hx
  funext a
  have hi := within_iff hx a
  have hlen : ((l.drop (x + wFrom x s - s.1)).take (wTo x s - wFrom x s)).length = wTo x s - wFrom x s := by simp; omega
  unfold wrM
  simp only [hlen]
  by_cases h : x + wFrom x s ≤ a ∧ a < x + wTo x s
  · have h2 := hi.1 h
    rw [if_pos (by omega)]
    unfold wrP
    rw [if_pos ⟨⟨h2.1, h2.2.1⟩, by rw [inP_snoc]; simp [h2.2.2.1, h2.2.2.2]⟩]
    rw [List.getD_eq_getElem?_getD, List.getD_eq_getElem?_getD, List.getElem?_take, if_pos (by omega), List.getElem?_drop]
    congr 2; omega
  · rw [if_neg (by omega)]
    unfold wrP
    rw [inP_snoc]
    by_cases h3 : s.1 ≤ a ∧ a < s.1 + s.2
    · have : (decide (x ≤ a) && decide (a < x + 4096)) = false := by
        rw [Bool.and_eq_false_iff, decide_eq_false_iff_not, decide_eq_false_iff_not]; omega
      rw [this, Bool.or_false]
    · rw [if_neg (fun hh => h3 hh.1), if_neg (fun hh => h3 hh.1)]
/-- Zeroed so far. -/
def zrP (m : Bytes8) {s : Sp} (pre : List (PB s)) : Bytes8 := fun a => if (s.1 ≤ a ∧ a < s.1 + s.2) ∧ inP pre a = true then 0 else m a
theorem zrP_nil (m : Bytes8) {s : Sp} : zrP m ([] : List (PB s)) = m := by funext a; simp [zrP, inP_nil]
theorem zrP_all (m : Bytes8) (s : Sp) : zrP m (basesL s (pcnt s)) = zrM m s.1 s.2 := by
  funext a
  unfold zrP zrM
  by_cases h : s.1 ≤ a ∧ a < s.1 + s.2
  · rw [if_pos h, if_pos ⟨h, inP_all a h.1 h.2⟩]
  · rw [if_neg h, if_neg (fun hh => h hh.1)]
/-- What a page loses. -/
def zrX (m : Bytes8) (s : Sp) (x : Nat) : Bytes8 := fun a => if (s.1 ≤ a ∧ a < s.1 + s.2) ∧ (x ≤ a ∧ a < x + 4096) then 0 else m a
theorem zrP_snoc (m : Bytes8) {s : Sp} (pre : List (PB s)) (x : PB s) : zrP m (pre ++ [x]) = zrX (zrP m pre) s x.1 := by
  funext a
  unfold zrP zrX
  rw [inP_snoc]
  by_cases h : s.1 ≤ a ∧ a < s.1 + s.2
  · by_cases h2 : x.1 ≤ a ∧ a < x.1 + 4096
    · rw [if_pos ⟨h, by simp [h2.1, h2.2]⟩, if_pos ⟨h, h2⟩]
    · have : (decide (x.1 ≤ a) && decide (a < x.1 + 4096)) = false := by
        rw [Bool.and_eq_false_iff, decide_eq_false_iff_not, decide_eq_false_iff_not]; omega
      rw [if_neg (c := (s.1 ≤ a ∧ a < s.1 + s.2) ∧ x.1 ≤ a ∧ a < x.1 + 4096) (fun hh => h2 hh.2), this, Bool.or_false]
  · rw [if_neg (fun hh => h hh.1), if_neg (fun hh => h hh.1)]
    exact (if_neg (fun hh => h hh.1)).symm
theorem zrX_off (m : Bytes8) (s : Sp) (x a : Nat) (h : ¬ (x ≤ a ∧ a < x + 4096)) : zrX m s x a = m a := by unfold zrX; rw [if_neg fun hh => h hh.2]
/-- Read so far, by places. -/
def rdP (m : Bytes8) {s : Sp} (pre : List (PB s)) : Bytes8 := fun j => if inP pre (s.1 + j) = true then m (s.1 + j) else 0
theorem rdP_nil (m : Bytes8) {s : Sp} : rdP m ([] : List (PB s)) = fun _ => 0 := by funext a; simp [rdP, inP_nil]
theorem rdP_all (m : Bytes8) (s : Sp) (j : Nat) (h : j < s.2) : rdP m (basesL s (pcnt s)) j = m (s.1 + j) := by
  unfold rdP; rw [inP_all (s.1 + j) (by omega) (by omega), if_pos rfl]
theorem rdP_snoc (m : Bytes8) {s : Sp} (pre : List (PB s)) (x : PB s) (j : Nat) (hj : j < s.2) : rdP m (pre ++ [x]) j = if x.1 + wFrom x.1 s - s.1 ≤ j ∧ j < x.1 + wFrom x.1 s - s.1 + (wTo x.1 s - wFrom x.1 s) then m (s.1 + j) else rdP m pre j := by
  obtain ⟨x, hx⟩ := x
  have hb := within_bounds hx
  have hi := within_iff hx (s.1 + j)
  unfold rdP
  rw [inP_snoc]
  by_cases h : x + wFrom x s ≤ s.1 + j ∧ s.1 + j < x + wTo x s
  · have h2 := hi.1 h
    rw [if_pos (by simp [h2.2.2.1, h2.2.2.2]), if_pos (by simp only; omega)]
  · have : (decide (x ≤ s.1 + j) && decide (s.1 + j < x + 4096)) = false := by
      rw [Bool.and_eq_false_iff, decide_eq_false_iff_not, decide_eq_false_iff_not]; omega
    simp only [this, Bool.or_false]
    rw [if_neg (c := x + wFrom x s - s.1 ≤ j ∧ j < x + wFrom x s - s.1 + (wTo x s - wFrom x s)) (by omega)]
/-- A page that nobody keeps reads 0. -/
theorem rdP_zero (m : Bytes8) {s : Sp} (pre : List (PB s)) (x : PB s) (hz : ∀ i, i < 4096 → m (x.1 + i) = 0) (j : Nat) : rdP m (pre ++ [x]) j = rdP m pre j := by
  unfold rdP
  rw [inP_snoc]
  by_cases h : x.1 ≤ s.1 + j ∧ s.1 + j < x.1 + 4096
  · have e := hz (s.1 + j - x.1) (by omega)
    rw [show x.1 + (s.1 + j - x.1) = s.1 + j by omega] at e
    rw [e]
    cases inP pre (s.1 + j) <;> simp
  · have : (decide (x.1 ≤ s.1 + j) && decide (s.1 + j < x.1 + 4096)) = false := by
      rw [Bool.and_eq_false_iff, decide_eq_false_iff_not, decide_eq_false_iff_not]; omega
    rw [this, Bool.or_false]
end Go.Proofs.Ytbemphfijkcbhaa
