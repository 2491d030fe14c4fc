/- portreeveref03.Root3. -/
import Derived.Test.YtjblmnkhdablaaaDoorCube
namespace Go.Proofs.YtjblmnkhdablaaaDoor
open Go.RowKit

/-- The cube root's bits behind the first two, which fit never. -/
def rt3 (n i : Nat) : Nat := rtF (fit3 n) (i + 2)
theorem fit3_no (n m : Nat) (hn : n ≤ 311) (hm : 34359738368 ≤ m) : fit3 n m = false := by
  unfold fit3
  rw [decide_eq_false_iff_not]
  have h1 := Nat.mul_le_mul (Nat.mul_le_mul hm hm) hm
  omega
theorem rt3_0 (n : Nat) (hn : n ≤ 311) : rt3 n 0 = 0 := by
  have e1 : rtF (fit3 n) 1 = 0 := by
    rw [rtF, fit3_no n _ hn (by simp [rtF])]; rfl
  show rtF (fit3 n) (1 + 1) = 0
  rw [rtF, e1, fit3_no n _ hn (by simp)]; rfl
theorem rt3_step (n i : Nat) (h : i < 35) : rt3 n (i + 1) = if fit3 n (rt3 n i ||| 2 ^ (34 - i)) then rt3 n i ||| 2 ^ (34 - i) else rt3 n i := by
  show rtF (fit3 n) ((i + 2) + 1) = _
  rw [rtF, show 36 - (i + 2) = 34 - i by omega]
  rfl
theorem rt3_lt (n : Nat) (hn : n ≤ 311) : ∀ i, rt3 n i < 2 ^ 35
  | 0 => by rw [rt3_0 n hn]; decide
  | i + 1 => by
    have ih := rt3_lt n hn i
    have hb : 2 ^ (34 - i) < 2 ^ 35 := Nat.pow_lt_pow_right (by decide) (by omega)
    by_cases h : i < 35
    · rw [rt3_step n i h]
      split
      · exact Nat.or_lt_two_pow ih hb
      · exact ih
    · show rtF (fit3 n) ((i + 2) + 1) < _
      rw [rtF, show 36 - (i + 2) = 34 - i by omega]
      split
      · exact Nat.or_lt_two_pow ih hb
      · exact ih

set_option maxHeartbeats 1000000 in
set_option maxRecDepth 100000 in
theorem rRoot3_any (p : Int) (w : World) : Calls Tryd.prog 21 #[.int .i64 p] w fun e w' => e = .returned (.int .u32 (rootN fit3 p : Int)) ∧ Below w.heap.size w w' := by
  by_cases h0 : p < 1
  · have e : rootN fit3 p = 0 := by unfold rootN; rw [if_neg (by omega)]
    rw [e]
    go_enter Tryd.func21, Tryd.ntmps21
    go_wp2
    go_ret
    exact ⟨rfl, Below.refl _ _⟩
  · by_cases h311 : 311 < p
    · have e : rootN fit3 p = 0 := by unfold rootN; rw [if_neg (by omega)]
      rw [e]
      go_enter Tryd.func21, Tryd.ntmps21
      go_wp2
      go_ret
      exact ⟨rfl, Below.refl _ _⟩
    · obtain ⟨n, rfl⟩ := Int.eq_ofNat_of_zero_le (show 0 ≤ p by omega)
      have hn : n ≤ 311 := by omega
      have e : rootN fit3 (n : Int) = rtF (fit3 n) 37 % 4294967296 := by unfold rootN; rw [if_pos (by omega), Int.toNat_natCast]
      rw [e]
      obtain ⟨z, hz⟩ : ∃ z, z = rtF (fit3 n) 37 % 4294967296 := ⟨_, rfl⟩
      rw [← hz]
      have HZ := Lib.hid hz
      have HN := Lib.hid hn
      have ew : IntKind.u64.wrap (n : Int) = (n : Int) := by rw [IntKind.wrap_u64]; omega
      clear hz e
      go_enter Tryd.func21, Tryd.ntmps21
      go_wp2
      go_loopw [3, 4] (fun u j W => ∃ i : Nat, 0 ≤ i ∧ i ≤ 35 ∧ j = .int .i64 ((34 : Int) - (i : Int)) ∧ u = .int .u64 (rt3 n i : Int) ∧ Below w.heap.size w W) (fun _ j _ => ((intOf j) + 1).toNat)
      case atStart => exact ⟨0, Nat.le_refl _, by decide, rfl, by rw [rt3_0 n HN.out]; rfl, Below.refl _ _⟩
      case round =>
        obtain ⟨i, hoff, hi, rfl, rfl, hB⟩ := hrel
        have HB := Lib.hid hB
        clear hB
        have hrl : rt3 n i < 2 ^ 35 := rt3_lt n HN.out i
        by_cases hlt : i < 35
        · obtain ⟨r, hr⟩ : ∃ r, r = rt3 n i := ⟨_, rfl⟩
          rw [← hr] at hrl
          rw [← hr]
          obtain ⟨sh, hsh⟩ : ∃ sh, sh = 34 - i := ⟨_, rfl⟩
          have hshI : (34 : Int) - (i : Int) = (sh : Int) := by omega
          have hsh34 : sh ≤ 34 := by omega
          have hge : (0 : Int) ≤ (sh : Int) := by omega
          rw [hshI]
          obtain ⟨b, hb⟩ : ∃ b, b = 2 ^ sh := ⟨_, rfl⟩
          have hb35 : b < 2 ^ 35 := by rw [hb]; exact Nat.pow_lt_pow_right (by decide) (by omega)
          obtain ⟨m, hm⟩ : ∃ m, m = r ||| b := ⟨_, rfl⟩
          have hm35 : m < 2 ^ 35 := by rw [hm]; exact Nat.or_lt_two_pow hrl hb35
          have hm2 : m < 34359738368 := hm35
          have e1 : IntKind.u64.wrap (2 ^ sh) = (b : Int) := by
            rw [hb, IntKind.wrap_u64]
            have : ((2 : Int) ^ sh) = ((2 ^ sh : Nat) : Int) := by simp
            rw [this, ← hb]
            have h3 : b < 34359738368 := hb35
            omega
          have e2 : bits BinOp.or .u64 (r : Int) (b : Int) = (m : Int) := by
            have h3 : b < 34359738368 := hb35
            have h4 : r < 34359738368 := hrl
            rw [u64_or_nat r b (by omega) (by omega), hm]
          have hstep : rt3 n (i + 1) = if fit3 n m then m else r := by rw [rt3_step n i hlt, ← hr, ← hsh, ← hb, ← hm]
          have HStep := Lib.hid hstep
          have HSh := Lib.hid hsh
          clear hsh hb hm hr hrl hb35 hm35 hstep
          cases hfit : fit3 n m
          · have HFt := Lib.hid hfit
            go_wp2_with (go_at_call 38; refine (cube_any m n hm2 HN.out _).mono ?_; rintro e w1 ⟨rfl, hd⟩; have H1 := Lib.hid (HB.out.trans (hd.mono HB.out.size)); clear hd)
            go_roundw
            case rel => exact ⟨i + 1, by omega, by omega, congrArg (Value.int .i64) (by have := HSh.out; omega), by rw [HStep.out, HFt.out]; rfl, H1.out⟩
            case measure => have := HSh.out; simp [intOf] <;> omega
          · have HFt := Lib.hid hfit
            go_wp2_with (go_at_call 38; refine (cube_any m n hm2 HN.out _).mono ?_; rintro e w1 ⟨rfl, hd⟩; have H1 := Lib.hid (HB.out.trans (hd.mono HB.out.size)); clear hd)
            go_roundw
            case rel => exact ⟨i + 1, by omega, by omega, congrArg (Value.int .i64) (by have := HSh.out; omega), by rw [HStep.out, HFt.out]; rfl, H1.out⟩
            case measure => have := HSh.out; simp [intOf] <;> omega
        · obtain rfl : i = 35 := by omega
          obtain ⟨r, hr⟩ : ∃ r, r = rtF (fit3 n) 37 := ⟨_, rfl⟩
          rw [show rt3 n 35 = rtF (fit3 n) 37 from rfl]
          rw [← hr]
          rw [← hr] at HZ
          have e32 : IntKind.u32.wrap (r : Int) = (z : Int) := by rw [HZ.out, IntKind.wrap_u32']; omega
          clear hr hrl
          go_wp2
          go_ret
          exact ⟨rfl, HB.out⟩
end Go.Proofs.YtjblmnkhdablaaaDoor
