/- sha.fits, sha.fraction, Root2, Root3. -/
import Derived.Test.YtjblmnkhdablaaaDoorWrd
import Derived.Shelf.Bits.Mul64
import Derived.KernelRfl
import Derived.WalkSpells
namespace Go.Proofs.YtjblmnkhdablaaaDoor
open Go.RowKit

def ren264 : Go.Shelf.Ren := ⟨fun | 264 => 59 | n => n, fun | 53 => 43 | 46 => 62 | n => n, fun | n => n⟩
theorem mul64_any (x y : Nat) (hx : x < 18446744073709551616) (hy : y < 18446744073709551616) (w : World) :
    Calls Tryd.prog 59 #[.int .u64 x, .int .u64 y] w fun e w' => e = .returned (.tuple #[.int .u64 ((x * y / 18446744073709551616 : Nat) : Int), .int .u64 ((x * y % 18446744073709551616 : Nat) : Int)]) ∧ w = w' := by
  have L : Go.Proofs.Lays.n264 Tryd.prog ren264 := {
    mixed := by kernel_rfl
    f264 := Tryd.func59.trans (congrArg some (by kernel_rfl))
    t46 := Tryd.underlying62
    a46 := Tryd.isAgg62
    z46 := Tryd.sizeOf62
    v46 := Tryd.zeroValue62
    t53 := Tryd.underlying43
    a53 := Tryd.isAgg43
    z53 := Tryd.sizeOf43
    v53 := Tryd.zeroValue43 }
  exact (Any.bits_Mul64 L x y hx hy w).mono fun e w' ⟨h1, h2⟩ => ⟨h1, h2.symm⟩

def fit2 (p r : Nat) : Bool := decide (r * r ≤ p * 18446744073709551616)
def fit3 (p r : Nat) : Bool := decide (r * r * r ≤ p * 79228162514264337593543950336)
/-- The last step of both: high < p || high == p && low == 0. -/
def fitHL (h l p : Nat) : Bool := decide (h < p) || (decide (h = p) && decide (l = 0))
theorem fitHL_iff (h l p : Nat) (hl : l < 18446744073709551616) : fitHL h l p = decide (h * 18446744073709551616 + l ≤ p * 18446744073709551616) := by
  unfold fitHL
  rw [Bool.eq_iff_iff]
  simp only [Bool.or_eq_true, Bool.and_eq_true, decide_eq_true_eq]
  omega

set_option maxHeartbeats 400000 in
theorem fits2_any (r p : Nat) (hr : r < 137438953472) (hp : p ≤ 311) (w : World) :
    Calls Tryd.prog 48 #[.int .u64 (r : Int), .int .u64 (p : Int), .int .i64 2] w fun e w' => e = .returned (.bool (fit2 p r)) ∧ w = w' := by
  obtain ⟨x, hx⟩ : ∃ x, x = r * r := ⟨_, rfl⟩
  have HC := Lib.hid (mul64_any r r (by omega) (by omega) w)
  rw [← hx] at HC
  obtain ⟨h, hh⟩ : ∃ h, h = x / 18446744073709551616 := ⟨_, rfl⟩
  obtain ⟨l, hl⟩ : ∃ l, l = x % 18446744073709551616 := ⟨_, rfl⟩
  rw [← hh, ← hl] at HC
  have hf : fit2 p r = fitHL h l p := by
    rw [fitHL_iff h l p (by omega)]
    unfold fit2
    rw [← hx]
    congr 1
    rw [show h * 18446744073709551616 + l = x by omega]
  rw [hf]
  clear hf hx hh hl
  by_cases h1 : h < p
  · have e : fitHL h l p = true := by simp [fitHL, h1]
    rw [e]
    have h2 : (h : Int) < (p : Int) := by omega
    clear e
    go_enter Tryd.func48, Tryd.ntmps48
    go_wp2_with (go_at_call 59; refine HC.out.mono ?_; rintro e w' ⟨rfl, rfl⟩)
    go_ret
    exact ⟨rfl, rfl⟩
  · have h2 : ¬ (h : Int) < (p : Int) := by omega
    by_cases h3 : h = p
    · subst h3
      by_cases h4 : l = 0
      · subst h4
        have e : fitHL h 0 h = true := by simp [fitHL]
        rw [e]
        clear e
        go_enter Tryd.func48, Tryd.ntmps48
        go_wp2_with (go_at_call 59; refine HC.out.mono ?_; rintro e w' ⟨rfl, rfl⟩)
        go_ret
        exact ⟨rfl, rfl⟩
      · have e : fitHL h l h = false := by simp [fitHL, h4]
        rw [e]
        have h5 : ((l : Int) == 0) = false := by simp; omega
        clear e
        go_enter Tryd.func48, Tryd.ntmps48
        go_wp2_with (go_at_call 59; refine HC.out.mono ?_; rintro e w' ⟨rfl, rfl⟩)
        go_ret
        exact ⟨rfl, rfl⟩
    · have e : fitHL h l p = false := by simp [fitHL, h1, h3]
      rw [e]
      have h5 : ((h : Int) == (p : Int)) = false := by simp; omega
      clear e
      go_enter Tryd.func48, Tryd.ntmps48
      go_wp2_with (go_at_call 59; refine HC.out.mono ?_; rintro e w' ⟨rfl, rfl⟩)
      go_ret
      exact ⟨rfl, rfl⟩

set_option maxHeartbeats 400000 in
theorem fits3_any (r p : Nat) (hr : r < 137438953472) (hp : p ≤ 311) (w : World) :
    Calls Tryd.prog 48 #[.int .u64 (r : Int), .int .u64 (p : Int), .int .i64 3] w fun e w' => e = .returned (.bool (fit3 p r)) ∧ w = w' := by
  obtain ⟨x, hx⟩ : ∃ x, x = r * r := ⟨_, rfl⟩
  have hxb : x ≤ 137438953471 * 137438953471 := by rw [hx]; exact Nat.mul_le_mul (by omega) (by omega)
  have HC := Lib.hid (mul64_any r r (by omega) (by omega) w)
  rw [← hx] at HC
  obtain ⟨h, hh⟩ : ∃ h, h = x / 18446744073709551616 := ⟨_, rfl⟩
  obtain ⟨l, hl⟩ : ∃ l, l = x % 18446744073709551616 := ⟨_, rfl⟩
  rw [← hh, ← hl] at HC
  obtain ⟨y, hy⟩ : ∃ y, y = l * r := ⟨_, rfl⟩
  have HC2 := Lib.hid (mul64_any l r (by omega) (by omega) w)
  rw [← hy] at HC2
  obtain ⟨c, hc⟩ : ∃ c, c = y / 18446744073709551616 := ⟨_, rfl⟩
  obtain ⟨z, hz⟩ : ∃ z, z = y % 18446744073709551616 := ⟨_, rfl⟩
  rw [← hc, ← hz] at HC2
  obtain ⟨m, hm⟩ : ∃ m, m = h * r := ⟨_, rfl⟩
  have hh10 : h ≤ 1024 := by omega
  have hmb : m ≤ 1024 * 137438953471 := by rw [hm]; exact Nat.mul_le_mul hh10 (by omega)
  have hyb : y ≤ 18446744073709551615 * 137438953471 := by rw [hy]; exact Nat.mul_le_mul (by omega) (by omega)
  obtain ⟨g, hg⟩ : ∃ g, g = m + c := ⟨_, rfl⟩
  obtain ⟨q, hq⟩ : ∃ q, q = p * 4294967296 := ⟨_, rfl⟩
  have e1 : (h : Int) * (r : Int) = (m : Int) := by rw [hm]; exact (Int.natCast_mul h r).symm
  have e2 : IntKind.u64.wrap (m : Int) = (m : Int) := by rw [IntKind.wrap_u64]; omega
  have e3 : IntKind.u64.wrap ((m : Int) + (c : Int)) = (g : Int) := by rw [IntKind.wrap_u64]; omega
  have e4 : IntKind.u64.wrap ((p : Int) * 4294967296) = (q : Int) := by rw [IntKind.wrap_u64]; omega
  have hf : fit3 p r = fitHL g z q := by
    rw [fitHL_iff g z q (by omega)]
    unfold fit3
    have e5 : r * r * r = g * 18446744073709551616 + z := by
      rw [← hx]
      have e6 : x * r = (h * 18446744073709551616 + l) * r := by rw [show h * 18446744073709551616 + l = x by omega]
      rw [e6, Nat.add_mul, ← hy, Nat.mul_right_comm, ← hm]
      omega
    rw [e5, hq]
    exact decide_eq_decide.2 (by omega)
  rw [hf]
  have HE := Lib.hid (And.intro e1 (And.intro e2 (And.intro e3 e4)))
  clear hf hx hh hl hy hc hz hm hg hq hxb hmb hyb hh10
  by_cases h1 : g < q
  · have e : fitHL g z q = true := by simp [fitHL, h1]
    rw [e]
    have h2 : (g : Int) < (q : Int) := by omega
    clear e
    go_enter Tryd.func48, Tryd.ntmps48
    obtain ⟨e1, e2, e3, e4⟩ := HE.out
    go_wp2_with (first
      | (go_at_call 59; refine HC.out.mono ?_; rintro e w' ⟨rfl, rfl⟩; clear HC)
      | (go_at_call 59; refine HC2.out.mono ?_; rintro e w' ⟨rfl, rfl⟩))
    go_ret
    exact ⟨rfl, rfl⟩
  · have h2 : ¬ (g : Int) < (q : Int) := by omega
    by_cases h3 : g = q
    · have h3b : ((g : Int) == (q : Int)) = true := by simp [h3]
      by_cases h4 : z = 0
      · have e : fitHL g z q = true := by simp [fitHL, h3, h4]
        rw [e]
        have h5 : ((z : Int) == 0) = true := by simp [h4]
        clear e h3 h4
        go_enter Tryd.func48, Tryd.ntmps48
        obtain ⟨e1, e2, e3, e4⟩ := HE.out
        go_wp2_with (first
          | (go_at_call 59; refine HC.out.mono ?_; rintro e w' ⟨rfl, rfl⟩; clear HC)
          | (go_at_call 59; refine HC2.out.mono ?_; rintro e w' ⟨rfl, rfl⟩))
        go_ret
        exact ⟨rfl, rfl⟩
      · have e : fitHL g z q = false := by simp [fitHL, h3, h4]
        rw [e]
        have h5 : ((z : Int) == 0) = false := by simp; omega
        clear e h3 h4
        go_enter Tryd.func48, Tryd.ntmps48
        obtain ⟨e1, e2, e3, e4⟩ := HE.out
        go_wp2_with (first
          | (go_at_call 59; refine HC.out.mono ?_; rintro e w' ⟨rfl, rfl⟩; clear HC)
          | (go_at_call 59; refine HC2.out.mono ?_; rintro e w' ⟨rfl, rfl⟩))
        go_ret
        exact ⟨rfl, rfl⟩
    · have e : fitHL g z q = false := by simp [fitHL, h1, h3]
      rw [e]
      have h5 : ((g : Int) == (q : Int)) = false := by simp; omega
      clear e h3
      go_enter Tryd.func48, Tryd.ntmps48
      obtain ⟨e1, e2, e3, e4⟩ := HE.out
      go_wp2_with (first
        | (go_at_call 59; refine HC.out.mono ?_; rintro e w' ⟨rfl, rfl⟩; clear HC)
        | (go_at_call 59; refine HC2.out.mono ?_; rintro e w' ⟨rfl, rfl⟩))
      go_ret
      exact ⟨rfl, rfl⟩
end Go.Proofs.YtjblmnkhdablaaaDoor
