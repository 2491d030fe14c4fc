/- Digits of a message, their check sum: plain mathematics. -/
import Derived.Test.YtfeiplaiekbdkaaGreatDoorWa
namespace Go.Proofs.YtfeiplaiekbdkaaGreatDoor

def halfN (m : Nat → UInt8) (i : Nat) : Nat := if i % 2 = 0 then (m (i / 2)).toNat / 16 else (m (i / 2)).toNat % 16
theorem halfN_le (m : Nat → UInt8) (i : Nat) : halfN m i ≤ 15 := by
  have := (m (i / 2)).toNat_lt
  unfold halfN; split <;> omega
theorem halfN_even (m : Nat → UInt8) (k : Nat) : halfN m (2 * k) = (m k).toNat / 16 := by
  unfold halfN; rw [if_pos (by omega), show 2 * k / 2 = k by omega]
theorem halfN_odd (m : Nat → UInt8) (k : Nat) : halfN m (2 * k + 1) = (m k).toNat % 16 := by
  unfold halfN; rw [if_neg (by omega), show (2 * k + 1) / 2 = k by omega]
def sumN (m : Nat → UInt8) : Nat → Nat
  | 0 => 0
  | k + 1 => sumN m k + (15 - halfN m k)
theorem sumN_le (m : Nat → UInt8) (k : Nat) : sumN m k ≤ 15 * k := by
  induction k with
  | zero => simp [sumN]
  | succ k ih => unfold sumN; omega
def digN (m : Nat → UInt8) (i : Nat) : Nat := if i < 64 then halfN m i else sumN m 64 / 16 ^ (66 - i) % 16
theorem digN_le (m : Nat → UInt8) (i : Nat) : digN m i ≤ 15 := by
  unfold digN; split
  · exact halfN_le m i
  · have : sumN m 64 / 16 ^ (66 - i) % 16 < 16 := Nat.mod_lt _ (by decide)
    omega
theorem digN_lo (m : Nat → UInt8) {i : Nat} (h : i < 64) : digN m i = halfN m i := if_pos h
theorem digN_64 (m : Nat → UInt8) : digN m 64 = sumN m 64 / 256 % 16 := by unfold digN; rw [if_neg (by decide)]
theorem digN_65 (m : Nat → UInt8) : digN m 65 = sumN m 64 / 16 % 16 := by unfold digN; rw [if_neg (by decide)]
theorem digN_66 (m : Nat → UInt8) : digN m 66 = sumN m 64 % 16 := by unfold digN; rw [if_neg (by decide)]; simp

theorem sumN_lt (m n : Nat → UInt8) (k : Nat) (h : ∀ j, j < k → halfN n j ≤ halfN m j) : sumN m k ≤ sumN n k ∧ ((∃ j, j < k ∧ halfN n j < halfN m j) → sumN m k < sumN n k) := by
  induction k with
  | zero => exact ⟨Nat.le_refl _, fun ⟨j, hj, _⟩ => by omega⟩
  | succ k ih =>
    obtain ⟨h1, h2⟩ := ih fun j hj => h j (by omega)
    have hk := h k (by omega)
    have h3 := halfN_le m k
    unfold sumN
    refine ⟨by omega, fun ⟨j, hj, hlt⟩ => ?_⟩
    by_cases e : j = k
    · subst e; omega
    · have := h2 ⟨j, by omega, hlt⟩
      omega
/-- Of two messages that are unlike one digit at least is less. -/
theorem digN_less (m n : Nat → UInt8) (h : ¬ ∀ i, i < 32 → m i = n i) : ∃ i, i < 67 ∧ digN m i < digN n i := by
  by_cases hlo : ∃ j, j < 64 ∧ halfN m j < halfN n j
  · obtain ⟨j, hj, hlt⟩ := hlo
    exact ⟨j, by omega, by rw [digN_lo m hj, digN_lo n hj]; exact hlt⟩
  · have hge : ∀ j, j < 64 → halfN n j ≤ halfN m j := fun j hj => Nat.le_of_not_lt fun hh => hlo ⟨j, hj, hh⟩
    have hgt : ∃ j, j < 64 ∧ halfN n j < halfN m j := Classical.byContradiction fun hno => h fun i hi => by
      have e : ∀ j, j < 64 → halfN m j = halfN n j := fun j hj => Nat.le_antisymm (Nat.le_of_not_lt fun hh => hno ⟨j, hj, hh⟩) (hge j hj)
      have e0 := e (2 * i) (by omega)
      have e1 := e (2 * i + 1) (by omega)
      rw [halfN_even, halfN_even] at e0
      rw [halfN_odd, halfN_odd] at e1
      exact UInt8.toNat_inj.1 (by omega)
    have hs := (sumN_lt m n 64 hge).2 hgt
    have b1 := sumN_le m 64
    have b2 := sumN_le n 64
    by_cases h4 : digN m 64 < digN n 64
    · exact ⟨64, by decide, h4⟩
    · by_cases h5 : digN m 65 < digN n 65
      · exact ⟨65, by decide, h5⟩
      · refine ⟨66, by decide, ?_⟩
        rw [digN_64, digN_64] at h4
        rw [digN_65, digN_65] at h5
        rw [digN_66, digN_66]
        generalize sumN m 64 = s at *
        generalize sumN n 64 = t at *
        omega

end Go.Proofs.YtfeiplaiekbdkaaGreatDoor
