/- portreeveref03.Prime. -/
import Derived.Test.YtjblmnkhdablaaaDoorPrime
namespace Go.Proofs.YtjblmnkhdablaaaDoor
open Go.RowKit

set_option maxHeartbeats 1000000 in
set_option maxRecDepth 100000 in
theorem rprime_any (i : Int) (w : World) :
    Calls Tryd.prog 17 #[.int .i64 i] w fun e w' => e = .returned (.int .i64 (primeN i : Int)) ∧ w = w' := by
  by_cases h0 : i < 0
  · have e : primeN i = 0 := by unfold primeN; rw [if_neg (by omega)]
    rw [e]
    go_enter Tryd.func17, Tryd.ntmps17
    go_wp2
    go_ret
    exact ⟨rfl, rfl⟩
  · by_cases h64 : 63 < i
    · have e : primeN i = 0 := by unfold primeN; rw [if_neg (by omega)]
      rw [e]
      go_enter Tryd.func17, Tryd.ntmps17
      go_wp2
      go_ret
      exact ⟨rfl, rfl⟩
    · obtain ⟨n, rfl⟩ := Int.eq_ofNat_of_zero_le (show 0 ≤ i by omega)
      have hn : n < 64 := by omega
      have e : primeN (n : Int) = Pn n := by unfold primeN; rw [if_pos (by omega), Int.toNat_natCast]
      rw [e]
      obtain ⟨z, hz⟩ : ∃ z, z = Pn n := ⟨_, rfl⟩
      rw [← hz]
      have HZ := Lib.hid hz
      clear hz e
      go_enter Tryd.func17, Tryd.ntmps17
      go_wp2
      go_loop [3, 4] (fun u j => ∃ p k : Nat, 1 ≤ p ∧ p ≤ 311 ∧ k ≤ n + 1 ∧ u = .int .i64 p ∧ j = .int .i64 ((k : Int) - 1) ∧ Hid (cn p = k ∧ (k = n + 1 → p = z))) (fun u _ => 312 - (intOf u).toNat)
      case atStart => exact ⟨1, 0, by decide, by decide, by omega, rfl, rfl, Lib.hid ⟨by decide +kernel, fun h => by omega⟩⟩
      case round =>
        obtain ⟨p, k, hp1, hp311, hk, rfl, rfl, hin⟩ := hrel
        by_cases hlt : k ≤ n
        · have hp : p < 311 := by
            have h1 := hin.out.1
            rcases Nat.lt_or_ge p 311 with h | h
            · exact h
            · obtain rfl : p = 311 := by omega
              rw [cn_end] at h1; omega
          have hkn : (k : Int) - 1 < (n : Int) := by omega
          obtain ⟨q, hq⟩ : ∃ q, q = p + 1 := ⟨_, rfl⟩
          have hqI : (p : Int) + 1 = (q : Int) := by omega
          have hq312 : q ≤ 311 := by omega
          have HQ := Lib.hid hq
          clear hq
          go_wp2
          go_loop [5, 6] (fun f j => ∃ (d : Nat) (b : Bool), 2 ≤ d ∧ d ≤ 18 ∧ f = .bool b ∧ j = .int .i64 d ∧ Hid (b = true ↔ ∀ e, 2 ≤ e → e < d → q % e ≠ 0) ∧ Hid (d = 2 ∨ (d - 1) * (d - 1) ≤ q)) (fun _ j => 19 - (intOf j).toNat)
          case atStart => exact ⟨2, true, Nat.le_refl _, by decide, rfl, rfl, Lib.hid ⟨fun _ e h1 h2 => by omega, fun _ => rfl⟩, Lib.hid (Or.inl rfl)⟩
          case round =>
            obtain ⟨d, b, hd2, hd18, rfl, rfl, hall, hlast⟩ := hrel
            obtain ⟨dd, hdd⟩ : ∃ dd, dd = d * d := ⟨_, rfl⟩
            have hddI : (d : Int) * (d : Int) = (dd : Int) := by rw [hdd]; exact (Int.natCast_mul d d).symm
            have hdb : dd ≤ 324 := by rw [hdd]; exact Nat.mul_le_mul hd18 hd18
            have HD := Lib.hid hdd
            clear hdd
            by_cases hle0 : dd ≤ q
            · have hle : (dd : Int) ≤ (q : Int) := by omega
              have hd17 : d ≤ 17 := by
                have h1 := HD.out
                rcases Nat.lt_or_ge 17 d with h | h
                · have := Nat.mul_le_mul (show 18 ≤ d from h) (show 18 ≤ d from h); omega
                · exact h
              obtain ⟨r, hr⟩ : ∃ r, r = q % d := ⟨_, rfl⟩
              have hrI : (q : Int).tmod (d : Int) = (r : Int) := by rw [Int.tmod_eq_emod_of_nonneg (by omega), hr]; exact (Int.natCast_emod q d).symm
              have hd0 : ¬ (d : Int) = 0 := by omega
              have HR := Lib.hid hr
              clear hr
              have hstep : ∀ b2 : Bool, (b2 = true ↔ b = true ∧ r ≠ 0) → (b2 = true ↔ ∀ e, 2 ≤ e → e < d + 1 → q % e ≠ 0) := fun b2 h => by
                rw [h, hall.out, HR.out]
                constructor
                · rintro ⟨h1, h2⟩ e he2 he
                  rcases Nat.lt_succ_iff_lt_or_eq.1 he with h3 | rfl
                  · exact h1 e he2 h3
                  · exact h2
                · intro h1
                  exact ⟨fun e he2 he => h1 e he2 (by omega), h1 d hd2 (by omega)⟩
              have HStep := Lib.hid hstep
              have HL2 : Hid (d + 1 = 2 ∨ (d + 1 - 1) * (d + 1 - 1) ≤ q) := Lib.hid (Or.inr (by rw [Nat.add_sub_cancel, ← HD.out]; exact hle0))
              clear hstep
              cases b
              · go_wp2
                go_round
                case rel => exact ⟨d + 1, false, by omega, by omega, rfl, by go_num, Lib.hid (HStep.out false (by simp)), HL2⟩
                case measure => simp [intOf]; omega
              · by_cases hr0 : r = 0
                · have ht : ((r : Int) != 0) = false := by simp [hr0]
                  have HR0 := Lib.hid hr0
                  clear hr0
                  go_wp2
                  go_round
                  case rel => exact ⟨d + 1, false, by omega, by omega, rfl, by go_num, Lib.hid (HStep.out false (by have := HR0.out; simp [this])), HL2⟩
                  case measure => simp [intOf]; omega
                · have ht : ((r : Int) != 0) = true := by simp; omega
                  have HR0 := Lib.hid hr0
                  clear hr0
                  go_wp2
                  go_round
                  case rel => exact ⟨d + 1, true, by omega, by omega, rfl, by go_num, Lib.hid (HStep.out true (by have := HR0.out; simp [this])), HL2⟩
                  case measure => simp [intOf]; omega
            · have hle : ¬ (dd : Int) ≤ (q : Int) := by omega
              have hb : b = primeB q := by
                rw [Bool.eq_iff_iff, hall.out, primeB_iff]
                constructor
                · intro h e _ he2 hee
                  rcases Nat.lt_or_ge e d with h1 | h1
                  · exact h e he2 h1
                  · have := Nat.mul_le_mul h1 h1; have := HD.out; omega
                · intro h e he2 he
                  rcases hlast.out with h1 | h1
                  · omega
                  · exact h e (by omega) he2 (Nat.le_trans (Nat.mul_le_mul (show e ≤ d - 1 by omega) (show e ≤ d - 1 by omega)) h1)
              have HB := Lib.hid hb
              have hcs := cn_step p hp hp1
              have HCs := Lib.hid hcs
              clear hb hcs hall hlast
              cases b
              · go_wp2
                go_round
                case rel =>
                  have h2 := HCs.out.2 (by rw [← HQ.out]; exact HB.out.symm)
                  exact ⟨q, k, by omega, hq312, hk, rfl, rfl, Lib.hid ⟨by rw [HQ.out, h2]; exact hin.out.1, fun h => by omega⟩⟩
                case measure => have := HQ.out; simp [intOf]; omega
              · go_wp2
                go_round
                case rel =>
                  have h2 := HCs.out.1 (by rw [← HQ.out]; exact HB.out.symm)
                  refine ⟨q, k + 1, by omega, hq312, by omega, rfl, by go_num, Lib.hid ⟨by rw [HQ.out, h2.1, hin.out.1], fun h => ?_⟩⟩
                  rw [HZ.out, show n = k by omega, ← hin.out.1, h2.2]; exact HQ.out
                case measure => have := HQ.out; simp [intOf]; omega
        · have hkn : ¬ (k : Int) - 1 < (n : Int) := by omega
          have hpz := hin.out.2 (by omega)
          have HPz := Lib.hid hpz
          clear hpz
          go_wp2
          go_ret
          exact ⟨by rw [← HPz.out]; rfl, rfl⟩
end Go.Proofs.YtjblmnkhdablaaaDoor
