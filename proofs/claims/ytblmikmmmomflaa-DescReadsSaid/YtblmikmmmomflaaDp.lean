/- Fields of words, plainly, and the reference's. -/
import Derived.Laws.Shifts
import Derived.Laws.BitsAllLaws
import Derived.Test.YtblmikmmmomflaaProg
import Derived.Test.YtblmikmmmomflaaMa
namespace Go.Proofs.Ytblmikmmmomflaa
open Go.RowKit

/-- The bits hi to lo of a word. -/
def bitsN (w hi lo : Nat) : Nat := w / 2 ^ lo % 2 ^ (hi + 1 - lo)
def fieldP (w : Nat) (hi lo : Int) : Nat := if 63 < hi ∨ lo < 0 ∨ hi < lo then 0 else bitsN w hi.toNat lo.toNat
theorem bit_step (w i k : Nat) : w / 2 ^ i % 2 ^ (k + 1) = 2 * (w / 2 ^ (i + 1) % 2 ^ k) + w / 2 ^ i % 2 := by
  rw [Nat.pow_succ 2 i, ← Nat.div_div_eq_div_mul, Nat.pow_succ, Nat.mul_comm (2 ^ k) 2, Nat.mod_mul]
  omega
theorem fieldP_bits {w : Nat} {hi lo : Nat} (h : lo ≤ hi ∧ hi ≤ 63) : fieldP w (hi : Int) (lo : Int) = bitsN w hi lo := by
  unfold fieldP
  rw [if_neg (by omega)]
  rfl
theorem bitsN_lt (w hi lo : Nat) : bitsN w hi lo < 2 ^ (hi + 1 - lo) := Nat.mod_lt _ (Nat.pos_of_ne_zero (by simp))
theorem u64_or_even (n b : Nat) (hn : n < 2 ^ 63) (hb : b < 2) : bits .or .u64 ((2 * n : Nat) : Int) (b : Int) = ((2 * n + b : Nat) : Int) := by
  rw [u64_or_nat (2 * n) b (by omega) (by omega)]
  congr 1
  rw [show 2 * n = n <<< 1 by rw [Nat.shiftLeft_eq]; omega, ← Nat.shiftLeft_add_eq_or_of_lt (show b < 2 ^ 1 by omega)]
theorem u64_and_one (n : Nat) (hn : n < 2 ^ 64) : bits .and .u64 (n : Int) 1 = ((n % 2 : Nat) : Int) := by
  rw [show (1 : Int) = ((1 : Nat) : Int) from rfl, u64_and_nat n 1 (by omega) (by omega)]
  norm_cast
  simp [Nat.and_one_is_mod]
set_option maxRecDepth 100000 in
set_option maxHeartbeats 1000000 in
theorem rfield_any (w : Nat) (hw : w < 2 ^ 64) (hi lo : Int) (W : World) : Calls Try.prog 11 #[.int .u64 (w : Int), .int .i64 hi, .int .i64 lo] W fun e w' => e = .returned (.int .u64 ((fieldP w hi lo : Nat) : Int)) ∧ w' = W := by
  by_cases h1 : 63 < hi
  · have d1 : decide (63 < hi) = true := decide_eq_true h1
    have hf : fieldP w hi lo = 0 := if_pos (.inl h1)
    rw [hf]
    clear hf
    go_enter Try.func11, Try.ntmps11
    go_wp2_with fail
    go_ret
    exact ⟨rfl, rfl⟩
  by_cases h2 : lo < 0
  · have d1 : decide (63 < hi) = false := decide_eq_false h1
    have d2 : decide (lo < 0) = true := decide_eq_true h2
    have hf : fieldP w hi lo = 0 := if_pos (.inr (.inl h2))
    rw [hf]
    clear hf
    go_enter Try.func11, Try.ntmps11
    go_wp2_with fail
    go_ret
    exact ⟨rfl, rfl⟩
  by_cases h3 : hi < lo
  · have d1 : decide (63 < hi) = false := decide_eq_false h1
    have d2 : decide (lo < 0) = false := decide_eq_false h2
    have d3 : decide (hi < lo) = true := decide_eq_true h3
    have hf : fieldP w hi lo = 0 := if_pos (.inr (.inr h3))
    rw [hf]
    clear hf
    go_enter Try.func11, Try.ntmps11
    go_wp2_with fail
    go_ret
    exact ⟨rfl, rfl⟩
  have d1 : decide (63 < hi) = false := decide_eq_false h1
  have d2 : decide (lo < 0) = false := decide_eq_false h2
  have d3 : decide (hi < lo) = false := decide_eq_false h3
  obtain ⟨l, hl⟩ := Int.eq_ofNat_of_zero_le (show 0 ≤ lo by omega)
  obtain ⟨h, hh⟩ := Int.eq_ofNat_of_zero_le (show 0 ≤ hi by omega)
  have hlh : l ≤ h := by omega
  have hh63 : h ≤ 63 := by omega
  obtain ⟨F, hF⟩ : ∃ F, F = fieldP w hi lo := ⟨_, rfl⟩
  have HF : Hid (F = w / 2 ^ l % 2 ^ (h + 1 - l)) := Lib.hid (by rw [hF, hh, hl, fieldP_bits ⟨hlh, hh63⟩]; rfl)
  rw [← hF]
  subst hl hh
  clear hF
  go_enter Try.func11, Try.ntmps11
  go_upto_region 4 with fail
  go_wp2_with fail
  clear d1 d2 d3 h1 h2 h3
  go_loopw [7, 8] (fun a b V => ∃ (k N : Nat) (i : Int), i + k = (h : Int) ∧ (l : Int) ≤ i + 1 ∧ b = .int .i64 i ∧ a = .int .u64 (N : Int) ∧ Hid (N = w / 2 ^ (h + 1 - k) % 2 ^ k) ∧ V = W) (fun _ b _ => (intOf b + 1 - l).toNat)
  case atStart => exact ⟨0, 0, h, by omega, by omega, rfl, rfl, Lib.hid (by simp [Nat.mod_one]), rfl⟩
  case round =>
    obtain ⟨k, N, i, hik, hil, rfl, rfl, HN, rfl⟩ := hrel
    by_cases hlt : (l : Int) ≤ i
    · obtain ⟨q, hq⟩ := Int.eq_ofNat_of_zero_le (show 0 ≤ i by omega)
      subst hq
      have hqh : q + k = h := by omega
      have hNb : N < 2 ^ 63 := by
        rw [HN.out]
        exact Nat.lt_of_lt_of_le (Nat.mod_lt _ (Nat.pos_of_ne_zero (by simp))) (Nat.pow_le_pow_right (by decide) (by omega))
      obtain ⟨B, hB⟩ : ∃ B, B = w / 2 ^ q := ⟨_, rfl⟩
      have hBb : B < 2 ^ 64 := by rw [hB]; exact Nat.lt_of_le_of_lt (Nat.div_le_self _ _) hw
      have hmin : min q 64 = q := by omega
      have hshr : (w : Int) / 2 ^ q = (B : Int) := by rw [hB]; norm_cast
      have hand := u64_and_one B hBb
      obtain ⟨b, hb⟩ : ∃ b, b = B % 2 := ⟨_, rfl⟩
      have hb2 : b < 2 := by rw [hb]; exact Nat.mod_lt _ (by decide)
      rw [← hb] at hand
      have hshl : IntKind.u64.wrap ((N : Int) * 2) = ((2 * N : Nat) : Int) := by rw [IntKind.wrap_u64]; omega
      have hor := u64_or_even N b hNb hb2
      obtain ⟨N2, hN2⟩ : ∃ N2, N2 = 2 * N := ⟨_, rfl⟩
      obtain ⟨N3, hN3⟩ : ∃ N3, N3 = N2 + b := ⟨_, rfl⟩
      rw [← hN2] at hshl hor
      rw [← hN3] at hor
      have HN3 : Hid (N3 = w / 2 ^ (h + 1 - (k + 1)) % 2 ^ (k + 1)) := Lib.hid (by
        rw [hN3, hN2, hb, hB, HN.out, show h + 1 - k = q + 1 by omega, show h + 1 - (k + 1) = q by omega, bit_step])
      clear HN hN2 hN3 hb hB
      go_wp2_with fail
      go_roundw
      case rel => exact ⟨k + 1, N3, (q : Int) - 1, by omega, by omega, by first | rfl | (congr 1; omega), rfl, HN3, by first | rfl | trivial⟩
      case measure => simp [intOf]; omega
    · have HE : Hid (N = F) := Lib.hid (by rw [HN.out, HF.out, show h + 1 - k = l by omega, show h + 1 - l = k by omega])
      go_wp2_with fail
      go_ret
      exact ⟨by rw [HE.out]; rfl, rfl⟩
end Go.Proofs.Ytblmikmmmomflaa
