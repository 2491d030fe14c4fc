/- The primes up to 311. -/
import Derived.Test.YtjblmnkhdablaaaDoorChecked
import Derived.Test.YtjblmnkhdablaaaDoorMem
import Derived.WalkKit
import Derived.WalkSpells
import Derived.BigQuiet
import Derived.Deep.QuietTactic
namespace Go.Proofs.YtjblmnkhdablaaaDoor
open Go.RowKit

def primeB (p : Nat) : Bool := (List.range 21).all fun e => !(decide (2 ≤ e) && decide (e * e ≤ p) && decide (p % e = 0))
theorem primeB_iff (p : Nat) : primeB p = true ↔ ∀ e : Nat, e < 21 → 2 ≤ e → e * e ≤ p → p % e ≠ 0 := by
  simp only [primeB, List.all_eq_true, List.mem_range, Bool.not_eq_true', Bool.and_eq_false_iff, decide_eq_false_iff_not]
  constructor
  · intro h e h1 h2 h3 h4
    rcases h e h1 with (h5 | h5) | h5
    · exact h5 h2
    · exact h5 h3
    · exact h5 h4
  · intro h e h1
    by_cases h2 : 2 ≤ e
    · by_cases h3 : e * e ≤ p
      · exact Or.inr (h e h1 h2 h3)
      · exact Or.inl (Or.inr h3)
    · exact Or.inl (Or.inl h2)
def Pl : List Nat := [2, 3, 5, 7, 11, 13, 17, 19, 23, 29, 31, 37, 41, 43, 47, 53, 59, 61, 67, 71, 73, 79, 83, 89, 97, 101, 103, 107, 109, 113, 127, 131, 137, 139, 149, 151, 157, 163, 167, 173, 179, 181, 191, 193, 197, 199, 211, 223, 227, 229, 233, 239, 241, 251, 257, 263, 269, 271, 277, 281, 283, 293, 307, 311]
def cl : List Nat := [0, 0, 1, 2, 2, 3, 3, 4, 4, 4, 4, 5, 5, 6, 6, 6, 6, 7, 7, 8, 8, 8, 8, 9, 9, 9, 9, 9, 9, 10, 10, 11, 11, 11, 11, 11, 11, 12, 12, 12, 12, 13, 13, 14, 14, 14, 14, 15, 15, 15, 15, 15, 15, 16, 16, 16, 16, 16, 16, 17, 17, 18, 18, 18, 18, 18, 18, 19, 19, 19, 19, 20, 20, 21, 21, 21, 21, 21, 21, 22, 22, 22, 22, 23, 23, 23, 23, 23, 23, 24, 24, 24, 24, 24, 24, 24, 24, 25, 25, 25, 25, 26, 26, 27, 27, 27, 27, 28, 28, 29, 29, 29, 29, 30, 30, 30, 30, 30, 30, 30, 30, 30, 30, 30, 30, 30, 30, 31, 31, 31, 31, 32, 32, 32, 32, 32, 32, 33, 33, 34, 34, 34, 34, 34, 34, 34, 34, 34, 34, 35, 35, 36, 36, 36, 36, 36, 36, 37, 37, 37, 37, 37, 37, 38, 38, 38, 38, 39, 39, 39, 39, 39, 39, 40, 40, 40, 40, 40, 40, 41, 41, 42, 42, 42, 42, 42, 42, 42, 42, 42, 42, 43, 43, 44, 44, 44, 44, 45, 45, 46, 46, 46, 46, 46, 46, 46, 46, 46, 46, 46, 46, 47, 47, 47, 47, 47, 47, 47, 47, 47, 47, 47, 47, 48, 48, 48, 48, 49, 49, 50, 50, 50, 50, 51, 51, 51, 51, 51, 51, 52, 52, 53, 53, 53, 53, 53, 53, 53, 53, 53, 53, 54, 54, 54, 54, 54, 54, 55, 55, 55, 55, 55, 55, 56, 56, 56, 56, 56, 56, 57, 57, 58, 58, 58, 58, 58, 58, 59, 59, 59, 59, 60, 60, 61, 61, 61, 61, 61, 61, 61, 61, 61, 61, 62, 62, 62, 62, 62, 62, 62, 62, 62, 62, 62, 62, 62, 62, 63, 63, 63, 63, 64]
def Pn (k : Nat) : Nat := Pl.getD k 0
def cn (p : Nat) : Nat := cl.getD p 0
set_option maxRecDepth 100000 in
theorem pn_next : ∀ k, k < 63 → primeB (Pn (k + 1)) = true ∧ 2 ≤ Pn k ∧ Pn k < Pn (k + 1) ∧ Pn (k + 1) ≤ 311 := by decide +kernel
set_option maxRecDepth 100000 in
theorem pn_gap : ∀ k, k < 63 → ∀ q, q < 312 → Pn k < q → q < Pn (k + 1) → primeB q = false := by decide +kernel
set_option maxRecDepth 100000 in
theorem cn_step : ∀ p, p < 311 → 1 ≤ p → (primeB (p + 1) = true → cn (p + 1) = cn p + 1 ∧ Pn (cn p) = p + 1) ∧ (primeB (p + 1) = false → cn (p + 1) = cn p) := by decide +kernel
theorem cn_end : cn 311 = 64 := by decide +kernel

set_option maxHeartbeats 400000 in
theorem isPrime_any (p : Nat) (h2 : 2 ≤ p) (hp : p ≤ 311) (w : World) :
    Calls Tryd.prog 47 #[.int .i64 (p : Int)] w fun e w' => e = .returned (.bool (primeB p)) ∧ w = w' := by
  obtain ⟨v, hv⟩ : ∃ v, v = primeB p := ⟨_, rfl⟩
  rw [← hv]
  have HV := Lib.hid hv
  have HP := Lib.hid (And.intro h2 hp)
  clear hv h2 hp
  go_enter Tryd.func47, Tryd.ntmps47
  go_wp2
  go_loop [3] (fun j => ∃ d : Nat, 2 ≤ d ∧ d ≤ 18 ∧ j = .int .i64 d ∧ Hid (∀ e, 2 ≤ e → e < d → p % e ≠ 0)) (fun i => 19 - (intOf i).toNat)
  case atStart => exact ⟨2, Nat.le_refl _, by decide, rfl, Lib.hid fun e h1 h2 => by omega⟩
  case round =>
    obtain ⟨d, hd2, hd18, rfl, hall⟩ := hrel
    obtain ⟨dd, hdd⟩ : ∃ dd, dd = d * d := ⟨_, rfl⟩
    have hddI : (d : Int) * (d : Int) = (dd : Int) := by rw [hdd]; exact (Int.natCast_mul d d).symm
    have hdb : dd ≤ 324 := by rw [hdd]; exact Nat.mul_le_mul hd18 hd18
    have HD := Lib.hid hdd
    clear hdd
    by_cases hlt : dd ≤ p
    · have hle : (dd : Int) ≤ (p : Int) := by omega
      have hd17 : d ≤ 17 := by
        have h1 := HD.out
        have h2 := HP.out.2
        rcases Nat.lt_or_ge 17 d with h | h
        · have := Nat.mul_le_mul (show 18 ≤ d from h) (show 18 ≤ d from h); omega
        · exact h
      obtain ⟨r, hr⟩ : ∃ r, r = p % d := ⟨_, rfl⟩
      have hrI : (p : Int).tmod (d : Int) = (r : Int) := by rw [Int.tmod_eq_emod_of_nonneg (by omega), hr]; exact (Int.natCast_emod p d).symm
      have hd0 : ¬ (d : Int) = 0 := by omega
      have HR := Lib.hid hr
      clear hr
      by_cases hr0 : r = 0
      · have ht : ((r : Int) == 0) = true := by simp [hr0]
        have hvf : v = false := by
          rw [HV.out]
          rw [Bool.eq_false_iff]
          intro h
          exact (primeB_iff p).1 h d (by omega) hd2 (by rw [← HD.out]; exact hlt) (by rw [← HR.out]; exact hr0)
        have HVf := Lib.hid hvf
        clear hr0 hvf
        go_wp2
        go_ret
        exact ⟨by rw [HVf.out]; rfl, rfl⟩
      · have ht : ((r : Int) == 0) = false := by simp; omega
        have HN := Lib.hid hr0
        clear hr0
        go_wp2
        go_round
        case rel => exact ⟨d + 1, by omega, by omega, by go_num, Lib.hid fun e h1 h2 => by
          rcases Nat.lt_succ_iff_lt_or_eq.1 h2 with h | rfl
          · exact hall.out e h1 h
          · rw [← HR.out]; exact HN.out⟩
        case measure => simp [intOf]; omega
    · have hle : ¬ (dd : Int) ≤ (p : Int) := by omega
      have hvt : v = true := by
        rw [HV.out]
        rw [primeB_iff]
        intro e _ he2 hep
        rcases Nat.lt_or_ge e d with h | h
        · exact hall.out e he2 h
        · have := Nat.mul_le_mul h h
          have := HD.out
          omega
      have HVt := Lib.hid hvt
      clear hvt
      go_wp2
      go_ret
      exact ⟨by rw [HVt.out]; rfl, rfl⟩

set_option maxHeartbeats 400000 in
theorem nextPrime_any (k : Nat) (hk : k < 63) (w : World) :
    Calls Tryd.prog 35 #[.int .i64 (Pn k : Int)] w fun e w' => e = .returned (.int .i64 (Pn (k + 1) : Int)) ∧ w = w' := by
  obtain ⟨p, hp⟩ : ∃ p, p = Pn k := ⟨_, rfl⟩
  obtain ⟨n, hn⟩ : ∃ n, n = Pn (k + 1) := ⟨_, rfl⟩
  have h1 := pn_next k hk
  have h2 := pn_gap k hk
  rw [← hp, ← hn] at h1 h2
  rw [← hp, ← hn]
  have HA := Lib.hid (And.intro h1 h2)
  have hp2 : 2 ≤ p := h1.2.1
  have hpn : p < n := h1.2.2.1
  have hn311 : n ≤ 311 := h1.2.2.2
  clear hp hn h1 h2 hk
  go_enter Tryd.func35, Tryd.ntmps35
  go_wp2
  go_loop [0] (fun j => ∃ q : Nat, p < q ∧ q ≤ n ∧ j = .int .i64 q) (fun i => 312 - (intOf i).toNat)
  case atStart => exact ⟨p + 1, by omega, by omega, by go_num⟩
  case round =>
    obtain ⟨q, hpq, hqn, rfl⟩ := hrel
    have HC := Lib.hid (fun W => isPrime_any q (by omega) (by omega) W)
    by_cases hlt : q < n
    · have hb : primeB q = false := HA.out.2 q (by omega) hpq hlt
      go_wp2_with (go_at_call 47; refine (HC.out _).mono ?_; rintro e w' ⟨rfl, rfl⟩)
      go_round
      case rel => exact ⟨q + 1, by omega, by omega, by go_num⟩
      case measure => simp [intOf]; omega
    · obtain rfl : q = n := by omega
      have hb : primeB q = true := HA.out.1.1
      go_wp2_with (go_at_call 47; refine (HC.out _).mono ?_; rintro e w' ⟨rfl, rfl⟩)
      go_ret
      exact ⟨rfl, rfl⟩

/-- The i-th prime. -/
def primeN (i : Int) : Nat := if 0 ≤ i ∧ i < 64 then Pn i.toNat else 0
set_option maxHeartbeats 400000 in
theorem prime_any (i : Int) (w : World) :
    Calls Tryd.prog 16 #[.int .i64 i] w fun e w' => e = .returned (.int .i64 (primeN i : Int)) ∧ w = w' := by
  by_cases h0 : i < 0
  · have e : primeN i = 0 := by unfold primeN; rw [if_neg (by omega)]
    rw [e]
    go_enter Tryd.func16, Tryd.ntmps16
    go_wp2
    go_ret
    exact ⟨rfl, rfl⟩
  · by_cases h64 : 64 ≤ i
    · have e : primeN i = 0 := by unfold primeN; rw [if_neg (by omega)]
      rw [e]
      go_enter Tryd.func16, Tryd.ntmps16
      go_wp2
      go_ret
      exact ⟨rfl, rfl⟩
    · obtain ⟨n, rfl⟩ := Int.eq_ofNat_of_zero_le (show 0 ≤ i by omega)
      have hn : n < 64 := by omega
      have e : primeN (n : Int) = Pn n := by unfold primeN; rw [if_pos (by omega), Int.toNat_natCast]
      rw [e]
      obtain ⟨z, hz⟩ : ∃ z, z = Pn n := ⟨_, rfl⟩
      rw [← hz]
      have HZ := Lib.hid hz
      clear hz e
      go_enter Tryd.func16, Tryd.ntmps16
      go_wp2
      go_loop [3, 11] (fun u j => ∃ k : Nat, k ≤ n ∧ j = .int .i64 k ∧ u = .int .i64 (Pn k : Int)) (fun _ j => n - (intOf j).toNat)
      case atStart => exact ⟨0, Nat.zero_le _, rfl, rfl⟩
      case round =>
        obtain ⟨k, hk, rfl, rfl⟩ := hrel
        by_cases hlt : k < n
        · go_wp2_with (go_at_call 35; refine (nextPrime_any k (by omega) w).mono ?_; rintro e w' ⟨rfl, rfl⟩)
          go_round
          case rel => exact ⟨k + 1, by omega, by go_num, rfl⟩
          case measure => simp [intOf]; omega
        · obtain rfl : k = n := by omega
          go_wp2
          go_ret
          exact ⟨by rw [HZ.out]; rfl, rfl⟩
end Go.Proofs.YtjblmnkhdablaaaDoor
