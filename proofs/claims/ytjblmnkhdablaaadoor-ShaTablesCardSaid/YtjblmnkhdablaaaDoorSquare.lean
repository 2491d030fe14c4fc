/- portreeveref03.square, portreeveref03.Root2. -/
import Derived.Test.YtjblmnkhdablaaaDoorFrac
import Derived.Lib.Mul64
namespace Go.Proofs.YtjblmnkhdablaaaDoor
open Go.RowKit

theorem mask32 (a : Nat) (ha : a < 18446744073709551616) : bits BinOp.and .u64 (a : Int) 4294967295 = ((a % 4294967296 : Nat) : Int) := by
  have h := u64_and_nat a 4294967295 ha (by decide)
  have e : a &&& 4294967295 = a % 4294967296 := Nat.and_two_pow_sub_one_eq_mod a 32
  rw [e] at h
  exact h
theorem wrap64 (a : Nat) (ha : a < 18446744073709551616) : IntKind.u64.wrap (a : Int) = (a : Int) := by rw [IntKind.wrap_u64]; omega
theorem mulC (a b : Nat) : (a : Int) * (b : Int) = ((a * b : Nat) : Int) := (Int.natCast_mul a b).symm

set_option maxHeartbeats 1000000 in
theorem square_any (x p : Nat) (hx : x < 137438953472) (_ : p ≤ 311) (w : World) :
    Calls Tryd.prog 37 #[.int .u64 (x : Int), .int .u64 (p : Int)] w fun e w' => e = .returned (.bool (fit2 p x)) ∧ w = w' := by
  obtain ⟨a, ha⟩ : ∃ a, a = x % 4294967296 := ⟨_, rfl⟩
  obtain ⟨b, hb⟩ : ∃ b, b = x / 4294967296 := ⟨_, rfl⟩
  have hxab : x = b * 4294967296 + a := by omega
  obtain ⟨lo, hlo⟩ : ∃ lo, lo = a * a := ⟨_, rfl⟩
  obtain ⟨ab, hab⟩ : ∃ ab, ab = a * b := ⟨_, rfl⟩
  obtain ⟨bb, hbb⟩ : ∃ bb, bb = b * b := ⟨_, rfl⟩
  have blo : lo ≤ 4294967295 * 4294967295 := by rw [hlo]; exact Nat.mul_le_mul (by omega) (by omega)
  have bab : ab ≤ 4294967295 * 31 := by rw [hab]; exact Nat.mul_le_mul (by omega) (by omega)
  have bbb : bb ≤ 31 * 31 := by rw [hbb]; exact Nat.mul_le_mul (by omega) (by omega)
  have hsq : x * x = bb * 18446744073709551616 + 2 * ab * 4294967296 + lo := by
    rw [hxab, Nat.add_mul, Nat.mul_add, Nat.mul_add, hbb, hab, hlo]
    have e1 : b * 4294967296 * (b * 4294967296) = b * b * 18446744073709551616 := by
      rw [show (18446744073709551616 : Nat) = 4294967296 * 4294967296 by decide, Nat.mul_mul_mul_comm]
    have e2 : b * 4294967296 * a = a * b * 4294967296 := by rw [Nat.mul_comm a b, Nat.mul_right_comm]
    have e3 : a * (b * 4294967296) = a * b * 4294967296 := by rw [Nat.mul_assoc]
    rw [e1, e2, e3]
    omega
  obtain ⟨a2, ha2⟩ : ∃ a2, a2 = 2 * a := ⟨_, rfl⟩
  obtain ⟨mid, hmid⟩ : ∃ mid, mid = 2 * ab := ⟨_, rfl⟩
  obtain ⟨mh, hmh⟩ : ∃ mh, mh = mid / 4294967296 := ⟨_, rfl⟩
  obtain ⟨h0, hh0⟩ : ∃ h0, h0 = bb + mh := ⟨_, rfl⟩
  obtain ⟨ms, hms⟩ : ∃ ms, ms = mid % 4294967296 * 4294967296 := ⟨_, rfl⟩
  obtain ⟨ad, had⟩ : ∃ ad, ad = (lo + ms) % 18446744073709551616 := ⟨_, rfl⟩
  obtain ⟨h1', hh1⟩ : ∃ h1', h1' = h0 + 1 := ⟨_, rfl⟩
  have ea : bits BinOp.and .u64 (x : Int) 4294967295 = (a : Int) := by rw [ha]; exact mask32 x (by omega)
  have eb : (x : Int) / 4294967296 = (b : Int) := by omega
  have elo : (a : Int) * (a : Int) = (lo : Int) := by rw [hlo]; exact mulC a a
  have wlo : IntKind.u64.wrap (lo : Int) = (lo : Int) := wrap64 lo (by omega)
  have e2 : IntKind.u64.wrap (2 * (a : Int)) = (a2 : Int) := by rw [IntKind.wrap_u64]; omega
  have em : (a2 : Int) * (b : Int) = (mid : Int) := by
    rw [hmid, hab, ha2, ← Nat.mul_assoc]; exact mulC (2 * a) b
  have wm : IntKind.u64.wrap (mid : Int) = (mid : Int) := wrap64 mid (by omega)
  have ebb : (b : Int) * (b : Int) = (bb : Int) := by rw [hbb]; exact mulC b b
  have wbb : IntKind.u64.wrap (bb : Int) = (bb : Int) := wrap64 bb (by omega)
  have emh : (mid : Int) / 4294967296 = (mh : Int) := by omega
  have ehi : IntKind.u64.wrap ((bb : Int) + (mh : Int)) = (h0 : Int) := by rw [IntKind.wrap_u64]; omega
  have esl : IntKind.u64.wrap ((mid : Int) * 4294967296) = (ms : Int) := by rw [IntKind.wrap_u64]; omega
  have ead : IntKind.u64.wrap ((lo : Int) + (ms : Int)) = (ad : Int) := by rw [IntKind.wrap_u64]; omega
  have eh1 : IntKind.u64.wrap ((h0 : Int) + 1) = (h1' : Int) := by rw [IntKind.wrap_u64]; omega
  have HE := Lib.hid (And.intro ea (And.intro eb (And.intro elo (And.intro wlo (And.intro e2 (And.intro em (And.intro wm (And.intro ebb (And.intro wbb (And.intro emh (And.intro ehi (And.intro esl (And.intro ead eh1)))))))))))))
  have hf : fit2 p x = fitHL (if ad < lo then h1' else h0) ad p := by
    rw [fitHL_iff _ ad p (by omega)]
    unfold fit2
    apply decide_eq_decide.2
    rw [hsq]
    by_cases hc : ad < lo
    · rw [if_pos hc]; omega
    · rw [if_neg hc]; omega
  rw [hf]
  clear hf ea eb elo wlo e2 em wm ebb wbb emh ehi esl ead eh1 ha hb hxab hlo hab hbb blo bab bbb hsq ha2 hmid hmh hh0 hms had hh1
  by_cases hc : ad < lo
  · rw [if_pos hc]
    have hcI : (ad : Int) < (lo : Int) := by omega
    clear hc
    by_cases h1 : h1' < p
    · have e : fitHL h1' ad p = true := by simp [fitHL, h1]
      rw [e]
      have h2 : (h1' : Int) < (p : Int) := by omega
      clear e
      go_enter Tryd.func37, Tryd.ntmps37
      obtain ⟨ea, eb, elo, wlo, e2, em, wm, ebb, wbb, emh, ehi, esl, ead, eh1⟩ := HE.out
      go_wp2
      go_ret
      exact ⟨rfl, rfl⟩
    · have h2 : ¬ (h1' : Int) < (p : Int) := by omega
      by_cases h3 : h1' = p
      · have h3b : ((h1' : Int) == (p : Int)) = true := by simp [h3]
        by_cases h4 : ad = 0
        · have e : fitHL h1' ad p = true := by simp [fitHL, h3, h4]
          rw [e]
          have h5 : ((ad : Int) == 0) = true := by simp [h4]
          clear e h3 h4
          go_enter Tryd.func37, Tryd.ntmps37
          obtain ⟨ea, eb, elo, wlo, e2, em, wm, ebb, wbb, emh, ehi, esl, ead, eh1⟩ := HE.out
          go_wp2
          go_ret
          exact ⟨rfl, rfl⟩
        · have e : fitHL h1' ad p = false := by simp [fitHL, h3, h4]
          rw [e]
          have h5 : ((ad : Int) == 0) = false := by simp; omega
          clear e h3 h4
          go_enter Tryd.func37, Tryd.ntmps37
          obtain ⟨ea, eb, elo, wlo, e2, em, wm, ebb, wbb, emh, ehi, esl, ead, eh1⟩ := HE.out
          go_wp2
          go_ret
          exact ⟨rfl, rfl⟩
      · have e : fitHL h1' ad p = false := by simp [fitHL, h1, h3]
        rw [e]
        have h5 : ((h1' : Int) == (p : Int)) = false := by simp; omega
        clear e h3
        go_enter Tryd.func37, Tryd.ntmps37
        obtain ⟨ea, eb, elo, wlo, e2, em, wm, ebb, wbb, emh, ehi, esl, ead, eh1⟩ := HE.out
        go_wp2
        go_ret
        exact ⟨rfl, rfl⟩
  · rw [if_neg hc]
    have hcI : ¬ (ad : Int) < (lo : Int) := by omega
    clear hc
    by_cases h1 : h0 < p
    · have e : fitHL h0 ad p = true := by simp [fitHL, h1]
      rw [e]
      have h2 : (h0 : Int) < (p : Int) := by omega
      clear e
      go_enter Tryd.func37, Tryd.ntmps37
      obtain ⟨ea, eb, elo, wlo, e2, em, wm, ebb, wbb, emh, ehi, esl, ead, eh1⟩ := HE.out
      go_wp2
      go_ret
      exact ⟨rfl, rfl⟩
    · have h2 : ¬ (h0 : Int) < (p : Int) := by omega
      by_cases h3 : h0 = p
      · have h3b : ((h0 : Int) == (p : Int)) = true := by simp [h3]
        by_cases h4 : ad = 0
        · have e : fitHL h0 ad p = true := by simp [fitHL, h3, h4]
          rw [e]
          have h5 : ((ad : Int) == 0) = true := by simp [h4]
          clear e h3 h4
          go_enter Tryd.func37, Tryd.ntmps37
          obtain ⟨ea, eb, elo, wlo, e2, em, wm, ebb, wbb, emh, ehi, esl, ead, eh1⟩ := HE.out
          go_wp2
          go_ret
          exact ⟨rfl, rfl⟩
        · have e : fitHL h0 ad p = false := by simp [fitHL, h3, h4]
          rw [e]
          have h5 : ((ad : Int) == 0) = false := by simp; omega
          clear e h3 h4
          go_enter Tryd.func37, Tryd.ntmps37
          obtain ⟨ea, eb, elo, wlo, e2, em, wm, ebb, wbb, emh, ehi, esl, ead, eh1⟩ := HE.out
          go_wp2
          go_ret
          exact ⟨rfl, rfl⟩
      · have e : fitHL h0 ad p = false := by simp [fitHL, h1, h3]
        rw [e]
        have h5 : ((h0 : Int) == (p : Int)) = false := by simp; omega
        clear e h3
        go_enter Tryd.func37, Tryd.ntmps37
        obtain ⟨ea, eb, elo, wlo, e2, em, wm, ebb, wbb, emh, ehi, esl, ead, eh1⟩ := HE.out
        go_wp2
        go_ret
        exact ⟨rfl, rfl⟩

set_option maxHeartbeats 1000000 in
set_option maxRecDepth 100000 in
theorem rRoot2_any (p : Int) (w : World) : Calls Tryd.prog 19 #[.int .i64 p] w fun e w' => e = .returned (.int .u32 (rootN fit2 p : Int)) ∧ w = w' := by
  by_cases h0 : p < 1
  · have e : rootN fit2 p = 0 := by unfold rootN; rw [if_neg (by omega)]
    rw [e]
    go_enter Tryd.func19, Tryd.ntmps19
    go_wp2
    go_ret
    exact ⟨rfl, rfl⟩
  · by_cases h311 : 311 < p
    · have e : rootN fit2 p = 0 := by unfold rootN; rw [if_neg (by omega)]
      rw [e]
      go_enter Tryd.func19, Tryd.ntmps19
      go_wp2
      go_ret
      exact ⟨rfl, rfl⟩
    · obtain ⟨n, rfl⟩ := Int.eq_ofNat_of_zero_le (show 0 ≤ p by omega)
      have hn : n ≤ 311 := by omega
      have e : rootN fit2 (n : Int) = rtF (fit2 n) 37 % 4294967296 := by unfold rootN; rw [if_pos (by omega), Int.toNat_natCast]
      rw [e]
      obtain ⟨z, hz⟩ : ∃ z, z = rtF (fit2 n) 37 % 4294967296 := ⟨_, rfl⟩
      rw [← hz]
      have HZ := Lib.hid hz
      have HN := Lib.hid hn
      have ew : IntKind.u64.wrap (n : Int) = (n : Int) := by rw [IntKind.wrap_u64]; omega
      clear hz e
      go_enter Tryd.func19, Tryd.ntmps19
      go_wp2
      go_loop [3, 4] (fun u j => ∃ i : Nat, 0 ≤ i ∧ i ≤ 37 ∧ j = .int .i64 ((36 : Int) - (i : Int)) ∧ u = .int .u64 (rtF (fit2 n) i : Int)) (fun _ j => ((intOf j) + 1).toNat)
      case atStart => exact ⟨0, Nat.le_refl _, by decide, rfl, rfl⟩
      case round =>
        obtain ⟨i, hoff, hi, rfl, rfl⟩ := hrel
        have hrl : rtF (fit2 n) i < 2 ^ 37 := rtF_lt (fit2 n) i
        by_cases hlt : i < 37
        · obtain ⟨r, hr⟩ : ∃ r, r = rtF (fit2 n) i := ⟨_, rfl⟩
          rw [← hr] at hrl
          rw [← hr]
          obtain ⟨sh, hsh⟩ : ∃ sh, sh = 36 - i := ⟨_, rfl⟩
          have hshI : (36 : Int) - (i : Int) = (sh : Int) := by omega
          have hsh36 : sh ≤ 36 := by omega
          have hge : (0 : Int) ≤ (sh : Int) := by omega
          rw [hshI]
          obtain ⟨b, hb⟩ : ∃ b, b = 2 ^ sh := ⟨_, rfl⟩
          have hb37 : b < 2 ^ 37 := by rw [hb]; exact Nat.pow_lt_pow_right (by decide) (by omega)
          obtain ⟨m, hm⟩ : ∃ m, m = r ||| b := ⟨_, rfl⟩
          have hm37 : m < 2 ^ 37 := by rw [hm]; exact Nat.or_lt_two_pow hrl hb37
          have hm2 : m < 137438953472 := hm37
          have e1 : IntKind.u64.wrap (2 ^ sh) = (b : Int) := by
            rw [hb, IntKind.wrap_u64]
            have : ((2 : Int) ^ sh) = ((2 ^ sh : Nat) : Int) := by simp
            rw [this, ← hb]
            have h3 : b < 137438953472 := hb37
            omega
          have e2 : bits BinOp.or .u64 (r : Int) (b : Int) = (m : Int) := by
            have h3 : b < 137438953472 := hb37
            have h4 : r < 137438953472 := hrl
            rw [u64_or_nat r b (by omega) (by omega), hm]
          have hstep : rtF (fit2 n) (i + 1) = if fit2 n m then m else r := by rw [rtF, ← hr, ← hsh, ← hb, ← hm]
          have HStep := Lib.hid hstep
          have HSh := Lib.hid hsh
          clear hsh hb hm hr hrl hb37 hm37 hstep
          cases hfit : fit2 n m
          · have HFt := Lib.hid hfit
            go_wp2_with (go_at_call 37; refine (square_any m n hm2 HN.out _).mono ?_; rintro e w' ⟨rfl, rfl⟩)
            go_round
            case rel => exact ⟨i + 1, by omega, by omega, congrArg (Value.int .i64) (by have := HSh.out; omega), by rw [HStep.out, HFt.out]; rfl⟩
            case measure => have := HSh.out; simp [intOf] <;> omega
          · have HFt := Lib.hid hfit
            go_wp2_with (go_at_call 37; refine (square_any m n hm2 HN.out _).mono ?_; rintro e w' ⟨rfl, rfl⟩)
            go_round
            case rel => exact ⟨i + 1, by omega, by omega, congrArg (Value.int .i64) (by have := HSh.out; omega), by rw [HStep.out, HFt.out]; rfl⟩
            case measure => have := HSh.out; simp [intOf] <;> omega
        · obtain rfl : i = 37 := by omega
          obtain ⟨r, hr⟩ : ∃ r, r = rtF (fit2 n) 37 := ⟨_, rfl⟩
          rw [← hr]
          rw [← hr] at HZ
          have e32 : IntKind.u32.wrap (r : Int) = (z : Int) := by rw [HZ.out, IntKind.wrap_u32']; omega
          clear hr hrl
          go_wp2
          go_ret
          exact ⟨rfl, rfl⟩
end Go.Proofs.YtjblmnkhdablaaaDoor
