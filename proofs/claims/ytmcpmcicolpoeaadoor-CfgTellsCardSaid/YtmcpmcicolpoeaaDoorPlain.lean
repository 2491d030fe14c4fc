/- Plain facts on numbers out of bytes: no program stands here. -/
import Derived.Laws.BitsAllLaws
namespace Go.Proofs.YtmcpmcicolpoeaaDoor

/-- Bytes, the highest ahead; the lowest ahead. -/
def accB (b : Nat → UInt8) : Nat → Nat
  | 0 => 0
  | k + 1 => accB b k * 256 + (b k).toNat
def leSum (b : Nat → UInt8) : Nat → Nat
  | 0 => 0
  | k + 1 => leSum b k + (b k).toNat * 256 ^ k
theorem accB_lt (b : Nat → UInt8) (k : Nat) : accB b k < 256 ^ k := by
  induction k with
  | zero => exact Nat.one_pos
  | succ k ih => have := (b k).toNat_lt; simp only [accB]; rw [Nat.pow_succ]; omega
theorem leSum_lt (b : Nat → UInt8) (k : Nat) : leSum b k < 256 ^ k := by
  induction k with
  | zero => exact Nat.one_pos
  | succ k ih =>
    have := (b k).toNat_lt
    simp only [leSum]
    have h2 : (b k).toNat * 256 ^ k ≤ 255 * 256 ^ k := Nat.mul_le_mul_right _ (by omega)
    rw [Nat.pow_succ]; omega
theorem pow256 (k : Nat) : (256 : Nat) ^ k = 2 ^ (8 * k) := by
  rw [show (256 : Nat) = 2 ^ 8 from rfl, ← Nat.pow_mul]
theorem accB_or (b : Nat → UInt8) (k : Nat) : accB b k * 256 ||| (b k).toNat = accB b (k + 1) := by
  have := (b k).toNat_lt
  exact nat_join 8 _ _ (by omega) (by omega)
theorem high_or (b : Nat → UInt8) (w k : Nat) (hk : k < w) :
    accB b k * 256 ^ (w - k) ||| ((b k).toNat * 2 ^ (8 * (w - 1 - k)) % 2 ^ (8 * w)) = accB b (k + 1) * 256 ^ (w - (k + 1)) := by
  have hb := (b k).toNat_lt
  have e1 : w - k = (w - (k + 1)) + 1 := by omega
  have e2 : w - 1 - k = w - (k + 1) := by omega
  have hlt : (b k).toNat * 2 ^ (8 * (w - (k + 1))) < 2 ^ (8 * (w - k)) := by
    rw [← pow256, ← pow256, e1, Nat.pow_succ, Nat.mul_comm _ 256]
    exact Nat.mul_lt_mul_of_pos_right (by omega) (Nat.pow_pos (by decide))
  have hle : 2 ^ (8 * (w - k)) ≤ 2 ^ (8 * w) := Nat.pow_le_pow_right (by decide) (by omega)
  rw [e2, Nat.mod_eq_of_lt (by omega)]
  rw [pow256 (w - k), nat_join (8 * (w - k)) _ _ (Nat.mul_mod_left _ _) hlt, ← pow256, ← pow256, e1, Nat.pow_succ]
  simp only [accB]
  rw [Nat.add_mul, Nat.mul_assoc, Nat.mul_comm 256]
theorem low_or (b : Nat → UInt8) (w k : Nat) (hk : k < w) :
    leSum b k ||| ((b k).toNat * 2 ^ (8 * k) % 2 ^ (8 * w)) = leSum b (k + 1) := by
  have hb := (b k).toNat_lt
  have hlt : (b k).toNat * 2 ^ (8 * k) < 2 ^ (8 * w) := by
    have h1 : (b k).toNat * 2 ^ (8 * k) < 2 ^ 8 * 2 ^ (8 * k) := Nat.mul_lt_mul_of_pos_right (by omega) (Nat.pow_pos (by decide))
    rw [← Nat.pow_add] at h1
    exact Nat.lt_of_lt_of_le h1 (Nat.pow_le_pow_right (by decide) (by omega))
  have hs := leSum_lt b k
  rw [pow256] at hs
  rw [Nat.mod_eq_of_lt hlt, Nat.or_comm, nat_join (8 * k) _ _ (Nat.mul_mod_left _ _) hs]
  simp only [leSum]
  rw [pow256, Nat.add_comm]
theorem accB_rev4 (b c : Nat → UInt8) (h : ∀ j, j < 4 → c j = b (3 - j)) : accB c 4 = leSum b 4 := by
  have e0 : c 0 = b 3 := h 0 (by omega)
  have e1 : c 1 = b 2 := h 1 (by omega)
  have e2 : c 2 = b 1 := h 2 (by omega)
  have e3 : c 3 = b 0 := h 3 (by omega)
  simp only [accB, leSum, e0, e1, e2, e3]
  omega
theorem accB_rev8 (b c : Nat → UInt8) (h : ∀ j, j < 8 → c j = b (7 - j)) : accB c 8 = leSum b 8 := by
  have e0 : c 0 = b 7 := h 0 (by omega)
  have e1 : c 1 = b 6 := h 1 (by omega)
  have e2 : c 2 = b 5 := h 2 (by omega)
  have e3 : c 3 = b 4 := h 3 (by omega)
  have e4 : c 4 = b 3 := h 4 (by omega)
  have e5 : c 5 = b 2 := h 5 (by omega)
  have e6 : c 6 = b 1 := h 6 (by omega)
  have e7 : c 7 = b 0 := h 7 (by omega)
  simp only [accB, leSum, e0, e1, e2, e3, e4, e5, e6, e7]
  omega
end Go.Proofs.YtmcpmcicolpoeaaDoor
