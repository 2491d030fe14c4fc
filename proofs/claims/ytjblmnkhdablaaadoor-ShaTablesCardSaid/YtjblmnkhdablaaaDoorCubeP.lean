/- A cube in digits of 32 bits: plain. -/
import Derived.Test.YtjblmnkhdablaaaDoorSquare
import Derived.Test.YtjblmnkhdablaaaDoorArr
namespace Go.Proofs.YtjblmnkhdablaaaDoor
open Go.RowKit

def u64f (c : Nat → Nat) : Nat → Value := fun i => .int .u64 (c i : Int)
theorem u64f_upd (c : Nat → Nat) (i x : Nat) : upd (u64f c) i (.int .u64 (x : Int)) = u64f (upd c i x) := by
  funext j; by_cases e : j = i <;> simp [upd, u64f, e]
def q4 (a b c d : Nat) : Nat → Nat := fun i => if i = 0 then a else if i = 1 then b else if i = 2 then c else d
/-- The digits of the product, i of them done. -/
def cs (q : Nat → Nat) (a b : Nat) : Nat → Nat → Nat
  | 0 => fun _ => 0
  | i + 1 =>
    let c1 := upd (cs q a b i) i (cs q a b i i + q i * a % 4294967296)
    let c2 := upd c1 (i + 1) (c1 (i + 1) + q i * a / 4294967296)
    if i < 3 then
      let c3 := upd c2 (i + 1) (c2 (i + 1) + q i * b % 4294967296)
      upd c3 (i + 2) (c3 (i + 2) + q i * b / 4294967296)
    else c2
/-- The digits, i of them made small. -/
def ns (c : Nat → Nat) : Nat → Nat → Nat
  | 0 => c
  | i + 1 =>
    let c1 := upd (ns c i) (i + 1) (ns c i (i + 1) + ns c i i / 4294967296)
    upd c1 i (c1 i % 4294967296)
def val (c : Nat → Nat) : Nat := c 0 + c 1 * 4294967296 + c 2 * 18446744073709551616 + c 3 * 79228162514264337593543950336 + c 4 * 340282366920938463463374607431768211456
theorem cs_at (q : Nat → Nat) (a b : Nat) : cs q a b 4 0 = 0 + q 0 * a % 4294967296 ∧ cs q a b 4 1 = 0 + q 0 * a / 4294967296 + q 0 * b % 4294967296 + q 1 * a % 4294967296 ∧
    cs q a b 4 2 = 0 + q 0 * b / 4294967296 + q 1 * a / 4294967296 + q 1 * b % 4294967296 + q 2 * a % 4294967296 ∧
    cs q a b 4 3 = 0 + q 1 * b / 4294967296 + q 2 * a / 4294967296 + q 2 * b % 4294967296 + q 3 * a % 4294967296 ∧ cs q a b 4 4 = 0 + q 2 * b / 4294967296 + q 3 * a / 4294967296 := ⟨rfl, rfl, rfl, rfl, rfl⟩
theorem norm_val (d : Nat → Nat) (i : Nat) (hi : i < 4) : val (upd (upd d (i + 1) (d (i + 1) + d i / 4294967296)) i (upd d (i + 1) (d (i + 1) + d i / 4294967296) i % 4294967296)) = val d := by
  have h : i = 0 ∨ i = 1 ∨ i = 2 ∨ i = 3 := by omega
  rcases h with rfl | rfl | rfl | rfl <;> simp only [val, upd] <;> simp <;> omega
theorem ns_val (c : Nat → Nat) (i : Nat) (hi : i < 4) : val (ns c (i + 1)) = val (ns c i) := norm_val (ns c i) i hi
theorem ns_small (c : Nat → Nat) : ∀ i, i ≤ 4 → ∀ j, j < i → ns c i j < 4294967296
  | 0, _, j, hj => by omega
  | i + 1, hi, j, hj => by
    unfold ns
    by_cases e : j = i
    · subst e; rw [upd_at]; omega
    · rw [upd_ne _ _ _ _ e, upd_ne _ _ _ _ (by omega)]
      exact ns_small c i (by omega) j (by omega)
theorem ns_le (c : Nat → Nat) (hc : ∀ j, c j ≤ 68719476736) : ∀ i, i ≤ 4 → ∀ j, ns c i j ≤ 68719476736 + i * 64
  | 0, _, j => by have := hc j; simpa [ns] using this
  | i + 1, hi, j => by
    have ih := ns_le c hc i (by omega)
    have h1 := ih i
    have h2 := ih j
    have h3 := ih (i + 1)
    unfold ns
    by_cases e : j = i
    · subst e
      rw [upd_at, upd_ne _ _ _ _ (by omega)]; omega
    · rw [upd_ne _ _ _ _ e]
      by_cases e2 : j = i + 1
      · subst e2; rw [upd_at]; omega
      · rw [upd_ne _ _ _ _ e2]; omega
theorem upd_le {c : Nat → Nat} {B t : Nat} (i : Nat) (h : ∀ j, c j ≤ B) (ht : t ≤ 4294967296) : ∀ j, upd c i (c i + t) j ≤ B + 4294967296 := by
  intro j
  by_cases e : j = i
  · subst e; rw [upd_at]; have := h j; omega
  · rw [upd_ne _ _ _ _ e]; have := h j; omega
theorem cs_le (q : Nat → Nat) (a b : Nat) (hq : ∀ i, q i < 4294967296) (ha : a < 4294967296) (hb : b < 8) : ∀ i, i ≤ 4 → ∀ j, cs q a b i j ≤ i * 17179869184
  | 0, _, j => by simp [cs]
  | i + 1, hi, j => by
    have ih := cs_le q a b hq ha hb i (by omega)
    have m1 : q i * a / 4294967296 ≤ 4294967296 := by
      have := Nat.mul_le_mul (show q i ≤ 4294967295 by have := hq i; omega) (show a ≤ 4294967295 by omega)
      omega
    have m2 : q i * b / 4294967296 ≤ 4294967296 := by
      have := Nat.mul_le_mul (show q i ≤ 4294967295 by have := hq i; omega) (show b ≤ 7 by omega)
      omega
    have n1 : q i * a % 4294967296 ≤ 4294967296 := by omega
    have n2 : q i * b % 4294967296 ≤ 4294967296 := by omega
    have s1 := upd_le i ih n1
    have s2 := upd_le (i + 1) s1 m1
    have s3 := upd_le (i + 1) s2 n2
    have s4 := upd_le (i + 2) s3 m2
    unfold cs
    by_cases h3 : i < 3
    · simp only [h3, if_true]
      have := s4 j
      refine Nat.le_trans this ?_
      rw [Nat.succ_mul]; omega
    · simp only [h3, if_false]
      have := s2 j
      refine Nat.le_trans this ?_
      rw [Nat.succ_mul]; omega
set_option maxRecDepth 100000 in
/-- The cube's digits. -/
theorem cube_val (x a b aa ab bb : Nat) (hx : x = b * 4294967296 + a) (haa : aa = a * a) (hab : ab = a * b) (hbb : bb = b * b) (q0 q1 q2 : Nat)
    (h0 : q0 = aa % 4294967296) (h1 : q1 = (aa / 4294967296 + 2 * (ab % 4294967296)) % 4294967296) (h2 : q2 = 2 * (ab / 4294967296) + bb + (aa / 4294967296 + 2 * (ab % 4294967296)) / 4294967296) :
    val (cs (q4 q0 q1 q2 0) a b 4) = x * x * x := by
  have hS : x * x = q0 + q1 * 4294967296 + q2 * 18446744073709551616 := by
    have hsq : x * x = bb * 18446744073709551616 + 2 * ab * 4294967296 + aa := by
      rw [hx, Nat.add_mul, Nat.mul_add, Nat.mul_add, hbb, hab, haa]
      have e1 : b * 4294967296 * (b * 4294967296) = b * b * 18446744073709551616 := Nat.mul_mul_mul_comm b 4294967296 b 4294967296
      have e2 : b * 4294967296 * a = a * b * 4294967296 := by rw [Nat.mul_comm a b, Nat.mul_right_comm]
      have e3 : a * (b * 4294967296) = a * b * 4294967296 := by rw [Nat.mul_assoc]
      rw [e1, e2, e3]
      omega
    omega
  have hC : x * x * x = q0 * a + (q0 * b + q1 * a) * 4294967296 + (q1 * b + q2 * a) * 18446744073709551616 + q2 * b * 79228162514264337593543950336 := by
    rw [hS]
    obtain ⟨y, hy⟩ : ∃ y, y = x := ⟨_, rfl⟩
    rw [← hy, hy, hx]
    have e1 : q0 * (b * 4294967296 + a) = q0 * b * 4294967296 + q0 * a := by rw [Nat.mul_add, Nat.mul_assoc]
    have e2 : q1 * 4294967296 * (b * 4294967296 + a) = q1 * b * 18446744073709551616 + q1 * a * 4294967296 := by
      rw [Nat.mul_add, Nat.mul_mul_mul_comm, Nat.mul_right_comm q1 4294967296 a]
    have e3 : q2 * 18446744073709551616 * (b * 4294967296 + a) = q2 * b * 79228162514264337593543950336 + q2 * a * 18446744073709551616 := by
      rw [Nat.mul_add, Nat.mul_mul_mul_comm, Nat.mul_right_comm q2 18446744073709551616 a]
    rw [Nat.add_mul, Nat.add_mul, e1, e2, e3]
    omega
  rw [hC]
  obtain ⟨c0, c1, c2, c3, c4⟩ := cs_at (q4 q0 q1 q2 0) a b
  unfold val
  rw [c0, c1, c2, c3, c4]
  have f0 : q4 q0 q1 q2 0 0 = q0 := rfl
  have f1 : q4 q0 q1 q2 0 1 = q1 := rfl
  have f2 : q4 q0 q1 q2 0 2 = q2 := rfl
  have f3 : q4 q0 q1 q2 0 3 = 0 := rfl
  rw [f0, f1, f2, f3, Nat.zero_mul]
  omega
/-- What the last tests ask. -/
def fitD (c : Nat → Nat) (p : Nat) : Bool := !(decide (c 4 ≠ 0) || decide (p < c 3)) && (decide (c 3 < p) || (decide (c 0 = 0) && decide (c 1 = 0) && decide (c 2 = 0)))
theorem fitD_val (c : Nat → Nat) (p : Nat) (hp : p ≤ 311) (hs : ∀ j, j < 4 → c j < 4294967296) : fitD c p = decide (val c ≤ p * 79228162514264337593543950336) := by
  have s0 := hs 0 (by decide)
  have s1 := hs 1 (by decide)
  have s2 := hs 2 (by decide)
  have s3 := hs 3 (by decide)
  unfold fitD val
  rw [Bool.eq_iff_iff]
  simp only [Bool.and_eq_true, Bool.or_eq_true, Bool.not_eq_true', Bool.or_eq_false_iff, decide_eq_true_eq, decide_eq_false_iff_not]
  omega
end Go.Proofs.YtjblmnkhdablaaaDoor
