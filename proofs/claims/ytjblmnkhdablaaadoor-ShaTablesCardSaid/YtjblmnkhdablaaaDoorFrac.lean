/- sha.fraction. -/
import Derived.Test.YtjblmnkhdablaaaDoorRoot
namespace Go.Proofs.YtjblmnkhdablaaaDoor
open Go.RowKit

/-- The root behind i bits. -/
def rtF (fit : Nat → Bool) : Nat → Nat
  | 0 => 0
  | i + 1 => if fit (rtF fit i ||| 2 ^ (36 - i)) then rtF fit i ||| 2 ^ (36 - i) else rtF fit i
theorem rtF_lt (fit : Nat → Bool) : ∀ i, rtF fit i < 2 ^ 37
  | 0 => Nat.pow_pos (by decide)
  | i + 1 => by
    have ih := rtF_lt fit i
    have hb : 2 ^ (36 - i) < 2 ^ 37 := Nat.pow_lt_pow_right (by decide) (by omega)
    unfold rtF
    split
    · exact Nat.or_lt_two_pow ih hb
    · exact ih
def rootN (fit : Nat → Nat → Bool) (p : Int) : Nat := if 1 ≤ p ∧ p ≤ 311 then rtF (fit p.toNat) 37 % 4294967296 else 0

set_option maxHeartbeats 1000000 in
set_option maxRecDepth 100000 in
theorem fraction_any (k : Int) (fit : Nat → Nat → Bool) (p : Int)
    (HF : ∀ (r n : Nat) (w : World), r < 137438953472 → n ≤ 311 → Calls Tryd.prog 48 #[.int .u64 (r : Int), .int .u64 (n : Int), .int .i64 k] w fun e w' => e = .returned (.bool (fit n r)) ∧ w = w') (w : World) :
    Calls Tryd.prog 36 #[.int .i64 p, .int .i64 k] w fun e w' => e = .returned (.int .u32 (rootN fit p : Int)) ∧ w = w' := by
  by_cases h0 : p < 1
  · have e : rootN fit p = 0 := by unfold rootN; rw [if_neg (by omega)]
    rw [e]
    go_enter Tryd.func36, Tryd.ntmps36
    go_wp2
    go_ret
    exact ⟨rfl, rfl⟩
  · by_cases h311 : 311 < p
    · have e : rootN fit p = 0 := by unfold rootN; rw [if_neg (by omega)]
      rw [e]
      go_enter Tryd.func36, Tryd.ntmps36
      go_wp2
      go_ret
      exact ⟨rfl, rfl⟩
    · obtain ⟨n, rfl⟩ := Int.eq_ofNat_of_zero_le (show 0 ≤ p by omega)
      have hn : n ≤ 311 := by omega
      have e : rootN fit (n : Int) = rtF (fit n) 37 % 4294967296 := by unfold rootN; rw [if_pos (by omega), Int.toNat_natCast]
      rw [e]
      obtain ⟨z, hz⟩ : ∃ z, z = rtF (fit n) 37 % 4294967296 := ⟨_, rfl⟩
      rw [← hz]
      have HZ := Lib.hid hz
      have HC := Lib.hid (fun r w hr => HF r n w hr hn)
      have ew : IntKind.u64.wrap (n : Int) = (n : Int) := by rw [IntKind.wrap_u64]; omega
      clear hz e HF
      go_enter Tryd.func36, Tryd.ntmps36
      go_wp2
      go_loop [5, 14] (fun u j => ∃ i : Nat, i ≤ 37 ∧ j = .int .i64 i ∧ u = .int .u64 (rtF (fit n) i : Int)) (fun _ j => 37 - (intOf j).toNat)
      case atStart => exact ⟨0, by decide, rfl, rfl⟩
      case round =>
        obtain ⟨i, hi, rfl, rfl⟩ := hrel
        have hrl := rtF_lt (fit n) i
        by_cases hlt : i < 37
        · obtain ⟨r, hr⟩ : ∃ r, r = rtF (fit n) i := ⟨_, rfl⟩
          rw [← hr] at hrl
          rw [← hr]
          have hr2 : r < 137438953472 := hrl
          obtain ⟨sh, hsh⟩ : ∃ sh, sh = 36 - i := ⟨_, rfl⟩
          have hshI : (36 : Int) - (i : Int) = (sh : Int) := by omega
          have hsh36 : sh ≤ 36 := by omega
          obtain ⟨b, hb⟩ : ∃ b, b = 2 ^ sh := ⟨_, rfl⟩
          have hb37 : b < 2 ^ 37 := by rw [hb]; exact Nat.pow_lt_pow_right (by decide) (by omega)
          obtain ⟨m, hm⟩ : ∃ m, m = r ||| b := ⟨_, rfl⟩
          have hm37 : m < 2 ^ 37 := by rw [hm]; exact Nat.or_lt_two_pow hrl hb37
          have hm2 : m < 137438953472 := hm37
          have e1 : IntKind.u64.wrap (2 ^ sh) = (b : Int) := by
            rw [hb, IntKind.wrap_u64]
            have : ((2 : Int) ^ sh) = ((2 ^ sh : Nat) : Int) := by simp
            rw [this, ← hb]
            have h3 : b < 137438953472 := hb37
            omega
          have e2 : bits BinOp.or .u64 (r : Int) (b : Int) = (m : Int) := by
            have h3 : b < 137438953472 := hb37
            rw [u64_or_nat r b (by omega) (by omega), hm]
          have hstep : rtF (fit n) (i + 1) = if fit n m then m else r := by rw [rtF, ← hr, ← hsh, ← hb, ← hm]
          have HStep := Lib.hid hstep
          clear hsh hb hm hr hrl hb37 hm37 hstep hi
          cases hfit : fit n m
          · have HFt := Lib.hid hfit
            go_wp2_with (go_at_call 48; refine (HC.out m _ hm2).mono ?_; rintro e w' ⟨rfl, rfl⟩)
            go_round
            case rel => exact ⟨i + 1, by omega, by go_num, by rw [HStep.out, HFt.out]; rfl⟩
            case measure => simp [intOf]; omega
          · have HFt := Lib.hid hfit
            go_wp2_with (go_at_call 48; refine (HC.out m _ hm2).mono ?_; rintro e w' ⟨rfl, rfl⟩)
            go_round
            case rel => exact ⟨i + 1, by omega, by go_num, by rw [HStep.out, HFt.out]; rfl⟩
            case measure => simp [intOf]; omega
        · obtain rfl : i = 37 := by omega
          obtain ⟨r, hr⟩ : ∃ r, r = rtF (fit n) 37 := ⟨_, rfl⟩
          rw [← hr]
          rw [← hr] at HZ
          have e32 : IntKind.u32.wrap (r : Int) = (z : Int) := by rw [HZ.out, IntKind.wrap_u32']; omega
          clear hr hrl
          go_wp2
          go_ret
          exact ⟨rfl, rfl⟩
theorem root2_any (p : Int) (w : World) : Calls Tryd.prog 18 #[.int .i64 p] w fun e w' => e = .returned (.int .u32 (rootN fit2 p : Int)) ∧ w = w' := by
  have HF := Lib.hid (fraction_any 2 fit2 p (fun r n w hr hn => fits2_any r n hr hn w) w)
  go_enter Tryd.func18, Tryd.ntmps18
  go_wp2_with (go_at_call 36; refine HF.out.mono ?_; rintro e w' ⟨rfl, rfl⟩)
  go_ret
  exact ⟨rfl, rfl⟩
theorem root3_any (p : Int) (w : World) : Calls Tryd.prog 20 #[.int .i64 p] w fun e w' => e = .returned (.int .u32 (rootN fit3 p : Int)) ∧ w = w' := by
  have HF := Lib.hid (fraction_any 3 fit3 p (fun r n w hr hn => fits3_any r n hr hn w) w)
  go_enter Tryd.func20, Tryd.ntmps20
  go_wp2_with (go_at_call 36; refine HF.out.mono ?_; rintro e w' ⟨rfl, rfl⟩)
  go_ret
  exact ⟨rfl, rfl⟩
end Go.Proofs.YtjblmnkhdablaaaDoor
