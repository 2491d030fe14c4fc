/- The frames that are handed out, as the list of their addresses; what it has to do with the free stretches; the lowest place, told by that list. No program stands here. -/
import Derived.Test.YtmhhckpdhjnmeaaFr
namespace Go.Proofs.Ytmhhckpdhjnmeaa

def frs (x n : Nat) : List Nat := (List.range n).map fun k => x + 4096 * k
theorem frs_len (x n : Nat) : (frs x n).length = n := by simp [frs]
theorem frs_succ (x n : Nat) : frs x (n + 1) = frs x n ++ [x + 4096 * n] := by simp [frs, List.range_succ]
theorem frs_mem {x n u : Nat} : u ∈ frs x n ↔ ∃ k, k < n ∧ x + 4096 * k = u := by simp [frs]
theorem frs_in {x n p : Nat} (hx : x % 4096 = 0) : p / 4096 * 4096 ∈ frs x n ↔ x ≤ p ∧ p < x + n * 4096 := by
  rw [frs_mem]
  constructor
  · rintro ⟨k, hk, h⟩; omega
  · rintro ⟨h1, h2⟩; exact ⟨(p - x) / 4096, by omega, by omega⟩
structure Rel (b : Sp) (L : List Sp) (U : List Nat) : Prop where
  fr : Fr b L
  mem : ∀ p, Mem L p ↔ (b.1 ≤ p ∧ p < b.1 + b.2) ∧ p / 4096 * 4096 ∉ U
  sum : bytes L + 4096 * U.length = b.2
  sub : ∀ u ∈ U, u % 4096 = 0 ∧ b.1 ≤ u ∧ u + 4096 ≤ b.1 + b.2
theorem Rel.start {b : Sp} (hb : BOk b) : Rel b (startL b) [] :=
  ⟨Fr.start hb, fun p => by rw [start_mem b p]; simp, by rw [start_bytes]; simp, fun _ h => by cases h⟩
def Free (b : Sp) (U : List Nat) (n a x : Nat) : Prop := x % a = 0 ∧ b.1 ≤ x ∧ x + n * 4096 ≤ b.1 + b.2 ∧ ∀ k, k < n → x + 4096 * k ∉ U
section
variable {b : Sp} {L : List Sp} {U : List Nat} {n a i x : Nat}
theorem Rel.free_iff (h : Rel b L U) (ha : a % 4096 = 0) (hn : 0 < n) : Free b U n a x ↔ x % a = 0 ∧ ∀ p, x ≤ p → p < x + n * 4096 → Mem L p := by
  constructor
  · rintro ⟨h1, h2, h3, h4⟩
    have hx := mod_trans ha h1
    refine ⟨h1, fun p hp hq => (h.mem p).2 ⟨⟨by omega, by omega⟩, ?_⟩⟩
    have e : p / 4096 * 4096 = x + 4096 * ((p - x) / 4096) := by omega
    rw [e]
    exact h4 _ (by omega)
  · rintro ⟨h1, h2⟩
    have hx := mod_trans ha h1
    have k1 := ((h.mem x).1 (h2 x (Nat.le_refl _) (by omega))).1
    have k2 := ((h.mem (x + n * 4096 - 1)).1 (h2 _ (by omega) (by omega))).1
    refine ⟨h1, k1.1, by omega, fun k hk hu => ?_⟩
    have k3 := ((h.mem (x + 4096 * k)).1 (h2 _ (by omega) (by omega))).2
    have e : (x + 4096 * k) / 4096 * 4096 = x + 4096 * k := by omega
    rw [e] at k3
    exact k3 hu
theorem Rel.hit (h : Rel b L U) (ha0 : 0 < a) (ha : a % 4096 = 0) (hn : 0 < n) (hi : idx L (n * 4096) a = some i) : Free b U n a (at1 L i a) ∧ ∀ y, Free b U n a y → at1 L i a ≤ y := by
  have hh := hit_of ha0 hi
  refine ⟨(h.free_iff ha hn).2 ⟨hh.mod, fun p hp hq => hh.free hp hq⟩, fun y hy => ?_⟩
  obtain ⟨hy1, hy2⟩ := (h.free_iff ha hn).1 hy
  obtain ⟨j, hj, h1, h2⟩ := rise_one (u := y) (v := y + n * 4096) (by omega) h.fr.rise hy2
  have hl := alu_least ha0 hy1 h1
  obtain ⟨hi1, _, hb⟩ := idx_some hi
  rcases Nat.lt_trichotomy j i with hlt | rfl | hgt
  · have := hb j hlt
    unfold fitsIn at this
    have := of_decide_eq_false this
    omega
  · unfold at1; rw [getD_at hi1]; exact hl
  · have := rise_lt h.fr.rise hgt hj
    have h3 := hh.hi
    rw [getD_at hi1] at h3
    omega
theorem Rel.miss (h : Rel b L U) (ha0 : 0 < a) (ha : a % 4096 = 0) (hn : 0 < n) (hi : idx L (n * 4096) a = none) : ∀ y, ¬ Free b U n a y := by
  intro y hy
  obtain ⟨hy1, hy2⟩ := (h.free_iff ha hn).1 hy
  obtain ⟨j, hj, h1, h2⟩ := rise_one (u := y) (v := y + n * 4096) (by omega) h.fr.rise hy2
  have hl := alu_least ha0 hy1 h1
  have := idx_none hi L[j] (List.getElem_mem hj)
  unfold fitsIn at this
  have := of_decide_eq_false this
  omega
theorem Rel.found (h : Rel b L U) (ha0 : 0 < a) (ha : a % 4096 = 0) (hn : 0 < n) (hx : Free b U n a x) (hl : ∀ y, Free b U n a y → x ≤ y) : ∃ i, idx L (n * 4096) a = some i ∧ at1 L i a = x := by
  cases hi : idx L (n * 4096) a with
  | none => exact absurd hx (h.miss ha0 ha hn hi x)
  | some i =>
    obtain ⟨h1, h2⟩ := h.hit ha0 ha hn hi
    exact ⟨i, rfl, Nat.le_antisymm (h2 x hx) (hl _ h1)⟩
theorem Rel.lost (h : Rel b L U) (ha0 : 0 < a) (ha : a % 4096 = 0) (hn : 0 < n) (hno : ∀ y, ¬ Free b U n a y) : idx L (n * 4096) a = none := by
  cases hi : idx L (n * 4096) a with
  | none => rfl
  | some i => exact absurd (h.hit ha0 ha hn hi).1 (hno _)
theorem Rel.step (h : Rel b L U) (ha0 : 0 < a) (ha : a % 4096 = 0) (hn : 0 < n) (hi : idx L (n * 4096) a = some i) : Rel b (putL L i (n * 4096) a) (U ++ frs (at1 L i a) n) := by
  have hh := hit_of ha0 hi
  have hx := mod_trans ha hh.mod
  obtain ⟨⟨_, f2, f3, _⟩, _⟩ := h.hit ha0 ha hn hi
  refine ⟨hh.fr (by omega) (Nat.mul_mod_left _ _) ha h.fr, fun p => ?_, ?_, ?_⟩
  · rw [hh.memL (by omega) h.fr.rise, h.mem p, List.mem_append, not_or, frs_in hx]
    exact and_assoc
  · have h1 := hh.bytes
    have h2 := h.sum
    rw [List.length_append, frs_len]
    omega
  · intro u hu
    rcases List.mem_append.1 hu with hu | hu
    · exact h.sub u hu
    · obtain ⟨k, hk, rfl⟩ := frs_mem.1 hu
      omega
end
def usedN (L : List Sp) (U : List Nat) (n : Int) (a : Nat) : List Nat := if askOk n a = true then (match idx L (n.toNat * 4096) a with | some i => U ++ frs (at1 L i a) n.toNat | none => U) else U
theorem Rel.run {b : Sp} {L : List Sp} {U : List Nat} (h : Rel b L U) (n : Int) (a : Nat) : Rel b (runL L n a) (usedN L U n a) := by
  unfold runL usedN
  split
  · rename_i hk
    obtain ⟨h1, h2, h3, h4⟩ := askOk_iff.1 hk
    unfold takeL
    cases hi : idx L (n.toNat * 4096) a with
    | some i => exact h.step (by omega) h4 (by omega) hi
    | none => exact h
  · exact h
def cnt (n : Int) : Nat := if 0 < n ∧ n ≤ 4096 then n.toNat else 0
theorem used_len (L : List Sp) (U : List Nat) (n : Int) (a : Nat) : (usedN L U n a).length ≤ U.length + cnt n := by
  unfold usedN
  split
  · rename_i hk
    obtain ⟨h1, h2, _, _⟩ := askOk_iff.1 hk
    unfold cnt
    rw [if_pos ⟨by omega, by omega⟩]
    split
    · rw [List.length_append, frs_len]; omega
    · omega
  · omega
def hasC (b : Sp) (L : List Sp) (p : Nat) : Bool := has b p && !(inn L p)
theorem Rel.has {b : Sp} {L : List Sp} {U : List Nat} (h : Rel b L U) (p : Nat) : hasC b L p = decide (p / 4096 * 4096 ∈ U) := by
  have hm := h.mem p
  have hg : inn L p = true ↔ Mem L p := mem_inn (fun x hx => rise_good h.fr.rise x hx) p
  have hb := h.fr.fits.hi
  unfold TT at hb
  unfold hasC
  rw [Bool.eq_iff_iff, Bool.and_eq_true, Bool.not_eq_true', ← Bool.not_eq_true, hg, hm, has_iff, good_iff, decide_eq_true_iff]
  constructor
  · rintro ⟨⟨_, h1⟩, h2⟩
    exact Decidable.byContradiction fun hu => h2 ⟨h1, hu⟩
  · intro hu
    have hs := h.sub _ hu
    exact ⟨⟨⟨by omega, by omega⟩, by omega, by omega⟩, fun k => k.2 hu⟩

/-! ### runs of frames lie apart -/
structure Had (s b : Sp) (L H : List Sp) : Prop where
  gone : ∀ y ∈ H, good y = true ∧ fit y ∧ ∀ p, has y p = true → ¬ Mem L p
  apart : H.Pairwise (fun x y => overlap x y = false)
theorem Had.none (s b : Sp) (L : List Sp) : Had s b L [] := ⟨fun _ h => (by cases h), List.Pairwise.nil⟩
theorem Had.step {s b : Sp} {L H : List Sp} {n a i : Nat} (h : Had s b L H) (hF : Fr b L) (ha0 : 0 < a) (hn : 0 < n) (hnl : n < TT) (hi : idx L n a = some i) : Had s b (putL L i n a) (H ++ [(at1 L i a, n)]) := by
  have hh := hit_of ha0 hi
  have ht := (hF.top hh.mem).1
  have hlo := hh.lo
  have hhi := hh.hi
  have hg : good (at1 L i a, n) = true := (good_iff _).2 ⟨hn, by simp only; unfold TT at ht; omega⟩
  refine ⟨fun y hy => ?_, ?_⟩
  · rcases List.mem_append.1 hy with hy | hy
    · obtain ⟨h1, h2, h3⟩ := h.gone y hy
      exact ⟨h1, h2, fun p hp hm => h3 p hp ((hh.memL hn hF.rise p).1 hm).1⟩
    · simp at hy
      subst hy
      refine ⟨hg, ⟨by simp only; unfold TT at ht; omega, hnl⟩, fun p hp hm => ?_⟩
      exact ((hh.memL hn hF.rise p).1 hm).2 ((has_iff _ _).1 hp).2
  · rw [List.pairwise_append]
    refine ⟨h.apart, List.pairwise_singleton _ _, fun y hy z hz => ?_⟩
    simp at hz
    subst hz
    obtain ⟨h1, _, h3⟩ := h.gone y hy
    rw [← Bool.not_eq_true, overlap_iff]
    rintro ⟨_, _, k1, k2⟩
    simp only at k1 k2
    have hy0 := (good_iff y).1 h1
    refine h3 (max y.1 (at1 L i a)) ((has_iff _ _).2 ⟨h1, by omega, by omega⟩) (hh.free (by omega) (by omega))
theorem Had.skip {s b : Sp} {L H : List Sp} (h : Had s b L H) : Had s b L H := h
end Go.Proofs.Ytmhhckpdhjnmeaa
