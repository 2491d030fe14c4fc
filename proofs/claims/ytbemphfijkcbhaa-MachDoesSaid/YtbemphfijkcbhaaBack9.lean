/- A word that was put is read. -/
import Derived.Test.YtbemphfijkcbhaaWord9
import Derived.Test.YtbemphfijkcbhaaWn
namespace Go.Proofs.Ytbemphfijkcbhaa
open Go.RowKit

theorem acc_back (m n : Nat) (c : Nat → UInt8) (h : ∀ j, j < m → (c j).toNat = n / 256 ^ (m - 1 - j) % 256) (hn : n < 256 ^ m) : accB c m = n := by
  have key : ∀ k, k ≤ m → accB c k = n / 256 ^ (m - k) := by
    intro k
    induction k with
    | zero => intro _; rw [Nat.sub_zero, Nat.div_eq_of_lt hn]; rfl
    | succ k ih =>
      intro hk
      rw [accB, ih (by omega), h k (by omega)]
      have e : m - k = (m - (k + 1)) + 1 := by omega
      have e2 : m - 1 - k = m - (k + 1) := by omega
      rw [e, e2, Nat.pow_succ, ← Nat.div_div_eq_div_mul]
      omega
  have := key m (Nat.le_refl _)
  rw [Nat.sub_self, Nat.pow_zero, Nat.div_one] at this
  exact this
theorem putByte_nat (o : Int) (m n i e : Nat) (h : (shAt o i m).toNat = 8 * e) : (putByte o m n i).toNat = n / 256 ^ e % 256 := by
  have h1 := toNat_ofNat_mod (n / 2 ^ (8 * e))
  unfold putByte
  rw [h, pow256]
  omega
theorem put_one (o : Int) (m n : Nat) : putAll o m [n] = numBytes o m n := by simp [putAll]
theorem back_high (b : List UInt8) (m n : Nat) (hn : n < 256 ^ m) : numOf (b ++ putAll 0 m [n]) b.length m false = n := by
  rw [put_one, numOf, if_pos (by rw [List.length_append, numBytes_length]; omega), if_neg (by decide)]
  refine acc_back m n _ (fun j hj => ?_) hn
  rw [Int.toNat_natCast]
  have e : bAt (b ++ numBytes 0 m n) b.length j = putByte 0 m n j := by
    unfold bAt numBytes
    rw [List.getD_eq_getElem?_getD, List.getElem?_append_right (by omega)]
    simp [hj]
  rw [e]
  exact putByte_nat _ _ _ _ _ (by rw [shAt_high]; omega)
theorem back_low (b : List UInt8) (m n : Nat) (hn : n < 256 ^ m) : numOf (b ++ putAll 1 m [n]) b.length m true = n := by
  rw [put_one, numOf, if_pos (by rw [List.length_append, numBytes_length]; omega), if_pos rfl]
  refine acc_back m n _ (fun j hj => ?_) hn
  rw [Int.toNat_natCast]
  have e : dnAt (b ++ numBytes 1 m n) b.length m j = putByte 1 m n (m - 1 - j) := by
    unfold dnAt numBytes
    rw [List.getD_eq_getElem?_getD, List.getElem?_append_right (by omega), show b.length + m - 1 - j - b.length = m - 1 - j by omega]
    simp [show m - 1 - j < m by omega]
  rw [e]
  exact putByte_nat _ _ _ _ _ (by rw [shAt_low]; omega)
theorem pwL_back (x : Nat) (hx : x < 18446744073709551616) : numOf (pwL x) 0 8 true = x := by
  have := back_low [] 8 x (by simpa using hx)
  simpa [pwL] using this
theorem rdM_wrM (m : Bytes8) (a : Nat) (l : List UInt8) : rdM (wrM m a l) a l.length = l := by
  refine List.ext_getElem? fun i => ?_
  by_cases h : i < l.length
  · rw [rdM_get _ _ _ _ h]
    unfold wrM
    rw [if_pos (by omega), List.getD_eq_getElem?_getD, show a + i - a = i by omega, List.getElem?_eq_getElem h]
    rfl
  · rw [List.getElem?_eq_none (by rw [rdM_length]; omega), List.getElem?_eq_none (by omega)]
theorem wrM_off (m : Bytes8) (a : Nat) (l : List UInt8) (x : Nat) (h : ¬ (a ≤ x ∧ x < a + l.length)) : wrM m a l x = m x := by unfold wrM; rw [if_neg h]
end Go.Proofs.Ytbemphfijkcbhaa
