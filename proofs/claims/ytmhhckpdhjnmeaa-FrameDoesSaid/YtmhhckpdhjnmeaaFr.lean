/- Page frames, plainly: the free stretches of a pool, the lowest place for so many frames, what is left; and the frames that are handed out, as a list. No program stands here. -/
import Derived.Test.YtmhhckpdhjnmeaaSpans
namespace Go.Proofs.Ytmhhckpdhjnmeaa

/-! ### multiples -/
def alu (x a : Nat) : Nat := (x + (a - 1)) / a * a
theorem alu_mod (x a : Nat) : alu x a % a = 0 := Nat.mul_mod_left _ _
theorem alu_bounds (x : Nat) {a : Nat} (h : 0 < a) : x ≤ alu x a ∧ alu x a < x + a := by
  have h1 := Nat.div_add_mod (x + (a - 1)) a
  have h2 := Nat.mod_lt (x + (a - 1)) h
  have h3 : alu x a = a * ((x + (a - 1)) / a) := Nat.mul_comm _ _
  omega
theorem mult_gap {a x y : Nat} (hx : x % a = 0) (hy : y % a = 0) (h : x < y) : x + a ≤ y := by
  obtain ⟨k, rfl⟩ := Nat.dvd_of_mod_eq_zero hx
  obtain ⟨m, rfl⟩ := Nat.dvd_of_mod_eq_zero hy
  have : k < m := Nat.lt_of_mul_lt_mul_left h
  have := Nat.mul_le_mul_left a (show k + 1 ≤ m from this)
  rw [Nat.mul_succ] at this
  exact this
theorem alu_least {x a y : Nat} (h : 0 < a) (hy : y % a = 0) (hxy : x ≤ y) : alu x a ≤ y := by
  have hb := alu_bounds x h
  rcases Nat.lt_or_ge y (alu x a) with hlt | hge
  · have := mult_gap hy (alu_mod x a) hlt; omega
  · exact hge
theorem alu_eq {x a y : Nat} (h : 0 < a) (hy : y % a = 0) (hxy : x ≤ y) (hl : y < x + a) : alu x a = y := by
  have hb := alu_bounds x h
  have h1 := alu_least h hy hxy
  rcases Nat.lt_or_ge (alu x a) y with hlt | hge
  · have := mult_gap (alu_mod x a) hy hlt; omega
  · omega
theorem alu_self {x a : Nat} (h : 0 < a) (hx : x % a = 0) : alu x a = x := alu_eq h hx (Nat.le_refl _) (by omega)
theorem mod_trans {x a b : Nat} (hb : a % b = 0) (h : x % a = 0) : x % b = 0 := Nat.mod_eq_zero_of_dvd (Nat.dvd_trans (Nat.dvd_of_mod_eq_zero hb) (Nat.dvd_of_mod_eq_zero h))

/-! ### a span's frames -/
/-- Where the first frame begins; how many bytes they are. -/
def fB (s : Sp) : Sp := if good s = true ∧ alu s.1 4096 < s.1 + s.2 then (alu s.1 4096, (s.1 + s.2 - alu s.1 4096) / 4096 * 4096) else (0, 0)
structure BOk (b : Sp) : Prop where
  lo : b.1 % 4096 = 0
  sz : b.2 % 4096 = 0
  hi : b.1 + b.2 ≤ TT
  lt : b.2 < TT
  bl : b.1 < TT
theorem fB_ok {s : Sp} (hs : fit s) : BOk (fB s) := by
  unfold fB
  have h2 := hs.2
  split
  · rename_i h
    have hg := (good_iff s).1 h.1
    have hb := alu_bounds s.1 (a := 4096) (by decide)
    have hm := alu_mod s.1 4096
    refine ⟨hm, Nat.mul_mod_left _ _, ?_, ?_, ?_⟩ <;> simp only [TT] <;> omega
  · exact ⟨rfl, rfl, by decide, by decide, by decide⟩
theorem fB_in {s : Sp} (h : 0 < (fB s).2) : good s = true ∧ s.1 ≤ (fB s).1 ∧ (fB s).1 + (fB s).2 ≤ s.1 + s.2 := by
  unfold fB at h ⊢
  split at h
  · rename_i k
    have hb := alu_bounds s.1 (a := 4096) (by decide)
    rw [if_pos k]
    refine ⟨k.1, hb.1, ?_⟩
    simp only
    omega
  · simp at h

/-! ### free stretches -/
def bytes (L : List Sp) : Nat := (L.map (·.2)).sum
theorem bytes_cons (x : Sp) (r : List Sp) : bytes (x :: r) = x.2 + bytes r := by simp [bytes]
theorem bytes_append (a b : List Sp) : bytes (a ++ b) = bytes a + bytes b := by simp [bytes]
def cutR (x : Sp) (t n : Nat) : List Sp := (if x.1 < t then [(x.1, t - x.1)] else []) ++ (if t + n < x.1 + x.2 then [(t + n, x.1 + x.2 - (t + n))] else [])
theorem cutR_len (x : Sp) (t n : Nat) : (cutR x t n).length ≤ 2 := by
  unfold cutR
  split <;> split <;> simp
theorem cutR_bytes {x : Sp} {t n : Nat} (h1 : x.1 ≤ t) (h2 : t + n ≤ x.1 + x.2) : bytes (cutR x t n) = x.2 - n := by
  unfold cutR
  split <;> split <;> simp [bytes] <;> omega
theorem cutR_rise {x : Sp} {t n a : Nat} {r : List Sp} (hn : 0 < n) (h1 : x.1 ≤ t) (h2 : t + n ≤ x.1 + x.2) (h : Rise a (x :: r)) : Rise a (cutR x t n ++ r) := by
  obtain ⟨k1, k2, k3, k4⟩ := h
  unfold cutR
  split <;> split
  · exact ⟨k1, by simp only; omega, by simp only; omega, by simp only; omega, by simp only; omega, by simp only; omega, k4.mono (by simp only; omega)⟩
  · exact ⟨k1, by simp only; omega, by simp only; omega, k4.mono (by simp only; omega)⟩
  · exact ⟨by simp only; omega, by simp only; omega, by simp only; omega, k4.mono (by simp only; omega)⟩
  · exact k4.mono (by omega)
theorem mem_append (a b : List Sp) (p : Nat) : Mem (a ++ b) p ↔ Mem a p ∨ Mem b p := by
  constructor
  · rintro ⟨x, hx, h⟩
    rcases List.mem_append.1 hx with hx | hx
    · exact .inl ⟨x, hx, h⟩
    · exact .inr ⟨x, hx, h⟩
  · rintro (⟨x, hx, h⟩ | ⟨x, hx, h⟩)
    · exact ⟨x, List.mem_append.2 (.inl hx), h⟩
    · exact ⟨x, List.mem_append.2 (.inr hx), h⟩
theorem cutR_mem {x : Sp} {t n : Nat} (h1 : x.1 ≤ t) (h2 : t + n ≤ x.1 + x.2) (p : Nat) : Mem (cutR x t n) p ↔ (x.1 ≤ p ∧ p < x.1 + x.2) ∧ ¬ (t ≤ p ∧ p < t + n) := by
  unfold cutR
  rw [mem_append]
  have e1 : Mem (if x.1 < t then [(x.1, t - x.1)] else []) p ↔ x.1 ≤ p ∧ p < t := by
    split
    · rw [mem_cons]; simp only [mem_nil, or_false]; omega
    · simp only [mem_nil, false_iff]; omega
  have e2 : Mem (if t + n < x.1 + x.2 then [(t + n, x.1 + x.2 - (t + n))] else []) p ↔ t + n ≤ p ∧ p < x.1 + x.2 := by
    split
    · rw [mem_cons]; simp only [mem_nil, or_false]; omega
    · simp only [mem_nil, false_iff]; omega
  rw [e1, e2]
  omega
theorem rise_put {x : Sp} {t n : Nat} (hn : 0 < n) (h1 : x.1 ≤ t) (h2 : t + n ≤ x.1 + x.2) : ∀ {l r : List Sp} {a : Nat}, Rise a (l ++ x :: r) → Rise a (l ++ (cutR x t n ++ r))
  | [], _, _, h => cutR_rise hn h1 h2 h
  | _ :: _, _, _, ⟨k1, k2, k3, k4⟩ => ⟨k1, k2, k3, rise_put hn h1 h2 k4⟩
theorem mem_put {x : Sp} {t n : Nat} (hn : 0 < n) (h1 : x.1 ≤ t) (h2 : t + n ≤ x.1 + x.2) (p : Nat) : ∀ {l r : List Sp} {a : Nat}, Rise a (l ++ x :: r) → (Mem (l ++ (cutR x t n ++ r)) p ↔ Mem (l ++ x :: r) p ∧ ¬ (t ≤ p ∧ p < t + n))
  | [], r, _, ⟨_, _, _, k4⟩ => by
    rw [List.nil_append, List.nil_append, mem_append, cutR_mem h1 h2, mem_cons]
    constructor
    · rintro (h | h)
      · exact ⟨.inl h.1, h.2⟩
      · have := k4.lo h; exact ⟨.inr h, by omega⟩
    · rintro ⟨h | h, k⟩
      · exact .inl ⟨h, k⟩
      · exact .inr h
  | y :: l, r, _, ⟨_, _, _, k4⟩ => by
    have ih := mem_put hn h1 h2 p k4
    rw [List.cons_append, List.cons_append, mem_cons, mem_cons, ih]
    have hx : y.1 + y.2 + 1 ≤ x.1 := k4.lo (p := x.1) ⟨x, by simp, Nat.le_refl _, by omega⟩
    constructor
    · rintro (h | h)
      · exact ⟨.inl h, by omega⟩
      · exact ⟨.inr h.1, h.2⟩
    · rintro ⟨h | h, k⟩
      · exact .inl h
      · exact .inr ⟨h, k⟩
/-- What is free from end to end lies in one stretch. -/
theorem rise_one {u v : Nat} (huv : u < v) : ∀ {l : List Sp} {a : Nat}, Rise a l → (∀ p, u ≤ p → p < v → Mem l p) → ∃ i, ∃ h : i < l.length, l[i].1 ≤ u ∧ v ≤ l[i].1 + l[i].2
  | [], _, _, h => absurd (h u (Nat.le_refl _) huv) (mem_nil _)
  | x :: r, _, ⟨_, _, _, k4⟩, h => by
    rcases mem_cons.1 (h u (Nat.le_refl _) huv) with hx | hr
    · refine ⟨0, by simp, hx.1, ?_⟩
      simp only [List.getElem_cons_zero]
      rcases Nat.lt_or_ge (x.1 + x.2) v with hlt | hge
      · rcases mem_cons.1 (h (x.1 + x.2) (by omega) hlt) with h' | h'
        · omega
        · have := k4.lo h'; omega
      · exact hge
    · have hu := k4.lo hr
      obtain ⟨i, hi, h1, h2⟩ := rise_one huv k4 fun p hp hv => by
        rcases mem_cons.1 (h p hp hv) with h' | h'
        · omega
        · exact h'
      exact ⟨i + 1, by simp; omega, by simpa using h1, by simpa using h2⟩
theorem rise_lt : ∀ {l : List Sp} {a : Nat}, Rise a l → ∀ {i j : Nat} (hi : i < j) (hj : j < l.length), l[i].1 + l[i].2 < l[j].1
  | x :: r, _, ⟨_, _, _, k4⟩, 0, j + 1, _, hj => by
    have hj' : j < r.length := by simpa using hj
    have := k4.lo (p := r[j].1) ⟨r[j], List.getElem_mem hj', Nat.le_refl _, by
      have := rise_good k4 r[j] (List.getElem_mem hj')
      have := (good_iff _).1 this
      omega⟩
    simp only [List.getElem_cons_zero, List.getElem_cons_succ]
    omega
  | x :: r, _, ⟨_, _, _, k4⟩, i + 1, j + 1, hi, hj => by
    simpa using rise_lt k4 (i := i) (j := j) (by omega) (by simpa using hj)

/-! ### what is asked of a pool -/
def fitsIn (n a : Nat) (x : Sp) : Bool := decide (alu x.1 a + n ≤ x.1 + x.2)
def idx (L : List Sp) (n a : Nat) : Option Nat := L.findIdx? (fitsIn n a)
def at1 (L : List Sp) (i a : Nat) : Nat := alu (L.getD i (0, 0)).1 a
def putL (L : List Sp) (i n a : Nat) : List Sp := L.take i ++ cutR (L.getD i (0, 0)) (at1 L i a) n ++ L.drop (i + 1)
def takeV (L : List Sp) (n a : Nat) : Nat := match idx L n a with | some i => at1 L i a | none => 0
def takeE (L : List Sp) (n a : Nat) : Nat := match idx L n a with | some _ => 0 | none => 110
def takeL (L : List Sp) (n a : Nat) : List Sp := match idx L n a with | some i => putL L i n a | none => L
def askOk (n : Int) (a : Nat) : Bool := decide (1 ≤ n) && decide (n ≤ 4096) && decide (a ≠ 0) && decide (a % 4096 = 0)
def runV (L : List Sp) (n : Int) (a : Nat) : Nat := if askOk n a = true then takeV L (n.toNat * 4096) a else 0
def runE (L : List Sp) (n : Int) (a : Nat) : Nat := if askOk n a = true then takeE L (n.toNat * 4096) a else 1
def runL (L : List Sp) (n : Int) (a : Nat) : List Sp := if askOk n a = true then takeL L (n.toNat * 4096) a else L
theorem askOk_iff {n : Int} {a : Nat} : askOk n a = true ↔ 1 ≤ n ∧ n ≤ 4096 ∧ a ≠ 0 ∧ a % 4096 = 0 := by simp [askOk, and_assoc]
theorem idx_some {L : List Sp} {n a i : Nat} (h : idx L n a = some i) : ∃ hi : i < L.length, fitsIn n a L[i] = true ∧ ∀ j (hj : j < i), fitsIn n a (L[j]'(by omega)) = false := by
  obtain ⟨h1, h2, h3⟩ := List.findIdx?_eq_some_iff_getElem.1 h
  exact ⟨h1, h2, fun j hj => by simpa using h3 j hj⟩
theorem idx_none {L : List Sp} {n a : Nat} (h : idx L n a = none) : ∀ x ∈ L, fitsIn n a x = false := by
  intro x hx
  have := List.findIdx?_eq_none_iff.1 h x hx
  simpa using this
theorem idx_is {L : List Sp} {n a i : Nat} (hi : i < L.length) (h : fitsIn n a L[i] = true) (hb : ∀ j (hj : j < i), fitsIn n a (L[j]'(by omega)) = false) : idx L n a = some i :=
  List.findIdx?_eq_some_iff_getElem.2 ⟨hi, h, fun j hj => by simp [hb j hj]⟩
theorem idx_no {L : List Sp} {n a : Nat} (h : ∀ j (hj : j < L.length), fitsIn n a L[j] = false) : idx L n a = none :=
  List.findIdx?_eq_none_iff.2 fun x hx => by
    obtain ⟨j, hj, rfl⟩ := List.getElem_of_mem hx
    simp [h j hj]
theorem getD_at {L : List Sp} {i : Nat} (h : i < L.length) : L.getD i (0, 0) = L[i] := by simp [h]
theorem split_at {L : List Sp} {i : Nat} (h : i < L.length) : L = L.take i ++ L[i] :: L.drop (i + 1) := by
  rw [List.getElem_cons_drop, List.take_append_drop]

/-! ### the pool's state -/
structure Fr (b : Sp) (L : List Sp) : Prop where
  rise : Rise 0 L
  al : ∀ x ∈ L, x.1 % 4096 = 0 ∧ x.2 % 4096 = 0
  ins : ∀ p, Mem L p → b.1 ≤ p ∧ p < b.1 + b.2
  fits : BOk b
theorem Fr.fit {b : Sp} {L : List Sp} (h : Fr b L) : ∀ x ∈ L, fit x := by
  intro x hx
  have hg := (good_iff x).1 (rise_good h.rise x hx)
  have h1 := (h.ins x.1 ⟨x, hx, Nat.le_refl _, by omega⟩)
  have h2 := (h.ins (x.1 + x.2 - 1) ⟨x, hx, by omega, by omega⟩)
  have h3 := h.fits.lt
  have h4 := h.fits.hi
  unfold TT at h3 h4
  exact ⟨by omega, by omega⟩
theorem Fr.top {b : Sp} {L : List Sp} (h : Fr b L) {x : Sp} (hx : x ∈ L) : x.1 + x.2 ≤ TT ∧ 0 < x.2 := by
  have hg := (good_iff x).1 (rise_good h.rise x hx)
  exact ⟨hg.2, hg.1⟩
def startL (b : Sp) : List Sp := if b.2 = 0 then [] else [b]
theorem start_mem (b : Sp) (p : Nat) : Mem (startL b) p ↔ b.1 ≤ p ∧ p < b.1 + b.2 := by
  unfold startL
  split
  · simp only [mem_nil, false_iff]; omega
  · rw [mem_cons]; simp [mem_nil]
theorem start_rise {b : Sp} (hb : BOk b) : Rise 0 (startL b) := by
  unfold startL
  split
  · trivial
  · exact ⟨Nat.zero_le _, by omega, hb.hi, trivial⟩
theorem Fr.start {b : Sp} (hb : BOk b) : Fr b (startL b) := by
  refine ⟨start_rise hb, ?_, fun p hp => (start_mem b p).1 hp, hb⟩
  intro x hx
  unfold startL at hx
  split at hx
  · cases hx
  · simp at hx
    subst hx
    exact ⟨hb.lo, hb.sz⟩
theorem start_bytes (b : Sp) : bytes (startL b) = b.2 := by
  unfold startL
  split <;> simp [bytes] <;> omega
theorem merge_start {b : Sp} (hb : BOk b) : mergeS [b] = startL b := by
  obtain ⟨L, h1, h2, h3⟩ := mergeS_eq [b]
  have e : L = startL b := rise_unique h2 (start_rise hb) fun p => by
    rw [h3 p, start_mem b p, inn_one, has_iff, good_iff]
    have := hb.hi
    unfold TT at this
    omega
  rw [h1, e]
  apply split_id
  intro h
  unfold startL at h
  split at h
  · cases h
  · simp at h
    have := hb.lt
    rw [← h] at this
    simp at this
theorem cut_at {x : Sp} {t n : Nat} (hg : good x = true) (hn : 0 < n) (h1 : x.1 ≤ t) (h2 : t + n ≤ x.1 + x.2) : cutS x [(t, n)] = cutR x t n := by
  obtain ⟨k1, k2⟩ := cutS_spec x [(t, n)]
  have hx := (good_iff x).1 hg
  have hr : Rise 0 (cutR x t n) := by
    have := cutR_rise (r := []) hn h1 h2 (show Rise 0 [x] from ⟨Nat.zero_le _, hx.1, hx.2, trivial⟩)
    simpa using this
  refine rise_unique k1 hr fun p => ?_
  rw [k2 p, cutR_mem h1 h2, has_iff, inn_one]
  have hgt : good (t, n) = true := (good_iff _).2 ⟨hn, by simp only; omega⟩
  have : (has (t, n) p = false) ↔ ¬ (t ≤ p ∧ p < t + n) := by
    rw [← Bool.not_eq_true, has_iff]; simp [hgt]
  rw [this]
  simp [hg]

section
variable {b : Sp} {L : List Sp} {n a i : Nat}
/-- What lies at the first place that serves. -/
structure Hit (L : List Sp) (n a i : Nat) : Prop where
  lt : i < L.length
  lo : (L.getD i (0, 0)).1 ≤ at1 L i a
  hi : at1 L i a + n ≤ (L.getD i (0, 0)).1 + (L.getD i (0, 0)).2
  mod : at1 L i a % a = 0
  eq : L = L.take i ++ L.getD i (0, 0) :: L.drop (i + 1)
theorem hit_of (ha : 0 < a) (h : idx L n a = some i) : Hit L n a i := by
  obtain ⟨hi, h1, _⟩ := idx_some h
  have hb := alu_bounds L[i].1 ha
  unfold fitsIn at h1
  have h1 := of_decide_eq_true h1
  refine ⟨hi, ?_, ?_, alu_mod _ _, ?_⟩
  · unfold at1; rw [getD_at hi]; exact hb.1
  · unfold at1; rw [getD_at hi]; exact h1
  · rw [getD_at hi]; exact split_at hi
theorem Hit.mem (h : Hit L n a i) : L.getD i (0, 0) ∈ L := by rw [getD_at h.lt]; exact List.getElem_mem _
theorem Hit.free (h : Hit L n a i) {p : Nat} (h1 : at1 L i a ≤ p) (h2 : p < at1 L i a + n) : Mem L p :=
  ⟨_, h.mem, Nat.le_trans h.lo h1, Nat.lt_of_lt_of_le h2 h.hi⟩
theorem Hit.memL (h : Hit L n a i) (hn : 0 < n) {c : Nat} (hr : Rise c L) (p : Nat) : Mem (putL L i n a) p ↔ Mem L p ∧ ¬ (at1 L i a ≤ p ∧ p < at1 L i a + n) := by
  unfold putL
  rw [List.append_assoc, mem_put hn h.lo h.hi p (a := c) (by rw [← h.eq]; exact hr), ← h.eq]
theorem Hit.fr (h : Hit L n a i) (hn : 0 < n) (hn4 : n % 4096 = 0) (ha4 : a % 4096 = 0) (hF : Fr b L) : Fr b (putL L i n a) := by
  refine ⟨?_, ?_, fun p hp => hF.ins p ((h.memL hn hF.rise p).1 hp).1, hF.fits⟩
  · unfold putL
    rw [List.append_assoc]
    exact rise_put hn h.lo h.hi (by rw [← h.eq]; exact hF.rise)
  · intro x hx
    unfold putL at hx
    have hx0 := hF.al _ h.mem
    have ht := mod_trans ha4 h.mod
    have h1 := h.lo
    have h2 := h.hi
    generalize L.getD i (0, 0) = y at hx hx0 h1 h2
    rcases List.mem_append.1 hx with hx | hx
    · rcases List.mem_append.1 hx with hx | hx
      · exact hF.al x (List.mem_of_mem_take hx)
      · unfold cutR at hx
        rcases List.mem_append.1 hx with hx | hx
        · split at hx
          · simp at hx; subst hx; exact ⟨hx0.1, by simp only; omega⟩
          · cases hx
        · split at hx
          · simp at hx; subst hx; exact ⟨by simp only; omega, by simp only; omega⟩
          · cases hx
    · exact hF.al x (List.mem_of_mem_drop hx)
theorem Hit.bytes (h : Hit L n a i) : bytes (putL L i n a) + n = bytes L := by
  have h1 := h.lo
  have h2 := h.hi
  have e := congrArg Proofs.Ytmhhckpdhjnmeaa.bytes h.eq
  rw [bytes_append, bytes_cons] at e
  unfold putL
  rw [bytes_append, bytes_append, cutR_bytes h.lo h.hi]
  omega
theorem Hit.len (h : Hit L n a i) : (putL L i n a).length ≤ L.length + 1 := by
  have h1 := cutR_len (L.getD i (0, 0)) (at1 L i a) n
  have h2 := h.lt
  unfold putL
  simp only [List.length_append, List.length_take, List.length_drop]
  omega
end
theorem takeL_len (L : List Sp) (n : Nat) {a : Nat} (ha : 0 < a) : (takeL L n a).length ≤ L.length + 1 := by
  unfold takeL
  split
  · rename_i i h; exact (hit_of ha h).len
  · omega
theorem runL_len (L : List Sp) (n : Int) (a : Nat) : (runL L n a).length ≤ L.length + 1 := by
  unfold runL
  split
  · rename_i h; exact takeL_len L _ (by have := (askOk_iff.1 h).2.2.1; omega)
  · omega
theorem Fr.run {b : Sp} {L : List Sp} (h : Fr b L) (n : Int) (a : Nat) : Fr b (runL L n a) := by
  unfold runL
  split
  · rename_i hk
    obtain ⟨h1, h2, h3, h4⟩ := askOk_iff.1 hk
    unfold takeL
    split
    · rename_i i hi
      exact (hit_of (by omega) hi).fr (by omega) (Nat.mul_mod_left _ _) h4 h
    · exact h
  · exact h
/-- A pool is empty just if nothing is left. -/
theorem Fr.empty {b : Sp} {L : List Sp} (h : Fr b L) : bytes L = 0 ↔ L = [] := by
  constructor
  · intro h0
    rcases L with _ | ⟨x, r⟩
    · rfl
    · have := (h.top (x := x) (by simp)).2
      rw [bytes_cons] at h0
      omega
  · rintro rfl; rfl
theorem Fr.bytes_mod {b : Sp} : ∀ {L : List Sp}, (∀ x ∈ L, x.1 % 4096 = 0 ∧ x.2 % 4096 = 0) → bytes L % 4096 = 0
  | [], _ => rfl
  | x :: r, h => by
    have h1 := (h x (by simp)).2
    have h2 := Fr.bytes_mod (b := b) (L := r) fun y hy => h y (by simp [hy])
    rw [bytes_cons]; omega
theorem rise_bytes : ∀ {L : List Sp} {a e : Nat}, Rise a L → (∀ p, Mem L p → p < e) → a ≤ e → bytes L + a ≤ e
  | [], a, e, _, _, hae => by simp [bytes]; omega
  | x :: r, a, e, ⟨h1, h2, _, h4⟩, hm, hae => by
    rw [bytes_cons]
    have hx := hm (x.1 + x.2 - 1) (mem_cons.2 (.inl ⟨by omega, by omega⟩))
    rcases r with _ | ⟨y, r⟩
    · simp [bytes]; omega
    · have hy := hm y.1 (mem_cons.2 (.inr (mem_cons.2 (.inl ⟨Nat.le_refl _, by have := h4.2.1; omega⟩))))
      have := h4.1
      have := rise_bytes (L := y :: r) (e := e) h4 (fun p hp => hm p (mem_cons.2 (.inr hp))) (by omega)
      omega
theorem rise_low : ∀ {L : List Sp} {a c : Nat}, Rise a L → (∀ p, Mem L p → c ≤ p) → Rise c L
  | [], _, _, _, _ => trivial
  | x :: r, _, c, ⟨_, h2, h3, h4⟩, hm => ⟨hm x.1 (mem_cons.2 (.inl ⟨Nat.le_refl _, by omega⟩)), h2, h3, h4⟩
theorem Fr.le {b : Sp} {L : List Sp} (h : Fr b L) : bytes L ≤ b.2 := by
  have := rise_bytes (a := b.1) (e := b.1 + b.2) (rise_low h.rise fun p hp => (h.ins p hp).1) (fun p hp => (h.ins p hp).2) (by omega)
  omega
/-- One frame is had wherever something is left. -/
theorem Fr.one {b : Sp} {L : List Sp} (h : Fr b L) (h0 : L ≠ []) : ∃ i, idx L 4096 4096 = some i := by
  cases hi : idx L 4096 4096 with
  | some i => exact ⟨i, rfl⟩
  | none =>
    rcases L with _ | ⟨x, r⟩
    · exact absurd rfl h0
    · have hx := idx_none hi x (by simp)
      have h1 := h.al x (by simp)
      have h2 := (h.top (x := x) (by simp)).2
      unfold fitsIn at hx
      rw [alu_self (by decide) h1.1] at hx
      have := of_decide_eq_false hx
      omega
end Go.Proofs.Ytmhhckpdhjnmeaa
