/- The walk of FrameNone. -/
import Derived.Test.YtmhhckpdhjnmeaaMp
namespace Go.Proofs.Ytmhhckpdhjnmeaa
open Go.RowKit

set_option maxRecDepth 100000 in
set_option maxHeartbeats 2000000 in
theorem none_walk (n : Int) (a x : Nat) (w : World) (_ : -9223372036854775808 ≤ n) (_ : n ≤ 9223372036854775807) (ha : a < 18446744073709551616) (_ : x < 18446744073709551616) :
    Calls Try.prog 6 #[.int .i64 n, .int .u64 (a : Int), .int .u64 (x : Int)] w fun e w' => e = .returned (.bool true) ∧ Below w.heap.size w w' := by
  have HA := Lib.hid (fun X => awake_any X)
  obtain ⟨E, hE⟩ : ∃ E : Nat, E = (if askOk n a = true then 110 else 1) := ⟨_, rfl⟩
  have HR := Lib.hid (fun X => run_nil n a ha X)
  rw [← hE] at HR
  have HL : Hid (∀ X, Calls Try.prog 16 #[.pointer none] X fun e w' => e = .returned (.int .u64 0) ∧ Below X.heap.size X w') := Lib.hid fun X => left_of (HeldC.nil X) (by simp) (by decide)
  have HU : Hid (∀ X, Calls Try.prog 15 #[.pointer none] X fun e w' => e = .returned (.int .u64 0) ∧ Below X.heap.size X w') := Lib.hid fun X => used_of (HeldC.nil X) (by simp) (by decide) (by decide)
  have HH : Hid (∀ X, Calls Try.prog 13 #[.pointer none, .int .u64 (x : Int)] X fun e w' => e = .returned (.bool false) ∧ Below X.heap.size X w') := Lib.hid fun X => has_of (HeldC.nil X) (by simp) (by decide) (fun _ h => (by cases h)) x
  cases hk : askOk n a with
  | true =>
    obtain ⟨h1, h2, h3, h4⟩ := askOk_iff.1 hk
    rw [hk] at hE
    simp only [if_true] at hE
    subst hE
    have k1 : (1 : Int) ≤ n := h1
    have k3 : ((a : Int) != 0) = true := by simp; omega
    have k4 : ((a : Int) % 4096 == 0) = true := by simp; omega
    clear hk h1 h3 h4 ha
    go_enter Try.func6, Try.ntmps6
    go_wp2_with (first
      | (go_at_call 7; refine (HA.out _).mono ?_; rintro e w1 ⟨rfl, hd⟩; have D1 := Lib.hid hd; clear hd)
      | (go_at_call 11; refine (HR.out _).mono ?_; rintro e w2 ⟨v, rfl, hd⟩; have D2 := Lib.hid (D1.out.trans (hd.mono D1.out.size)); clear hd)
      | (go_at_call 16; refine (HL.out _).mono ?_; rintro e w3 ⟨rfl, hd⟩; have D3 := Lib.hid (D2.out.trans (hd.mono D2.out.size)); clear hd)
      | (go_at_call 15; refine (HU.out _).mono ?_; rintro e w4 ⟨rfl, hd⟩; have D4 := Lib.hid (D3.out.trans (hd.mono D3.out.size)); clear hd)
      | (go_at_call 13; refine (HH.out _).mono ?_; rintro e w5 ⟨rfl, hd⟩; have D5 := Lib.hid (D4.out.trans (hd.mono D4.out.size)); clear hd))
    go_ret
    exact ⟨rfl, D5.out⟩
  | false =>
    rw [hk] at hE
    have hE1 : E = 1 := by rw [hE]; rfl
    subst hE1
    clear hE
    by_cases h1 : n < 1
    · have k1 : ¬ (1 : Int) ≤ n := by omega
      clear hk ha
      go_enter Try.func6, Try.ntmps6
      go_wp2_with (first
        | (go_at_call 7; refine (HA.out _).mono ?_; rintro e w1 ⟨rfl, hd⟩; have D1 := Lib.hid hd; clear hd)
        | (go_at_call 11; refine (HR.out _).mono ?_; rintro e w2 ⟨v, rfl, hd⟩; have D2 := Lib.hid (D1.out.trans (hd.mono D1.out.size)); clear hd)
        | (go_at_call 16; refine (HL.out _).mono ?_; rintro e w3 ⟨rfl, hd⟩; have D3 := Lib.hid (D2.out.trans (hd.mono D2.out.size)); clear hd)
        | (go_at_call 15; refine (HU.out _).mono ?_; rintro e w4 ⟨rfl, hd⟩; have D4 := Lib.hid (D3.out.trans (hd.mono D3.out.size)); clear hd)
        | (go_at_call 13; refine (HH.out _).mono ?_; rintro e w5 ⟨rfl, hd⟩; have D5 := Lib.hid (D4.out.trans (hd.mono D4.out.size)); clear hd))
      go_ret
      exact ⟨rfl, D5.out⟩
    by_cases h2 : 4096 < n
    · have k1 : (1 : Int) ≤ n := by omega
      have k2 : ¬ n ≤ 4096 := by omega
      clear hk ha
      go_enter Try.func6, Try.ntmps6
      go_wp2_with (first
        | (go_at_call 7; refine (HA.out _).mono ?_; rintro e w1 ⟨rfl, hd⟩; have D1 := Lib.hid hd; clear hd)
        | (go_at_call 11; refine (HR.out _).mono ?_; rintro e w2 ⟨v, rfl, hd⟩; have D2 := Lib.hid (D1.out.trans (hd.mono D1.out.size)); clear hd)
        | (go_at_call 16; refine (HL.out _).mono ?_; rintro e w3 ⟨rfl, hd⟩; have D3 := Lib.hid (D2.out.trans (hd.mono D2.out.size)); clear hd)
        | (go_at_call 15; refine (HU.out _).mono ?_; rintro e w4 ⟨rfl, hd⟩; have D4 := Lib.hid (D3.out.trans (hd.mono D3.out.size)); clear hd)
        | (go_at_call 13; refine (HH.out _).mono ?_; rintro e w5 ⟨rfl, hd⟩; have D5 := Lib.hid (D4.out.trans (hd.mono D4.out.size)); clear hd))
      go_ret
      exact ⟨rfl, D5.out⟩
    have k1 : (1 : Int) ≤ n := by omega
    have k2 : n ≤ 4096 := by omega
    by_cases h3 : a = 0
    · have k3 : ((a : Int) != 0) = false := by simp; omega
      clear hk ha h1 h2 h3
      go_enter Try.func6, Try.ntmps6
      go_wp2_with (first
        | (go_at_call 7; refine (HA.out _).mono ?_; rintro e w1 ⟨rfl, hd⟩; have D1 := Lib.hid hd; clear hd)
        | (go_at_call 11; refine (HR.out _).mono ?_; rintro e w2 ⟨v, rfl, hd⟩; have D2 := Lib.hid (D1.out.trans (hd.mono D1.out.size)); clear hd)
        | (go_at_call 16; refine (HL.out _).mono ?_; rintro e w3 ⟨rfl, hd⟩; have D3 := Lib.hid (D2.out.trans (hd.mono D2.out.size)); clear hd)
        | (go_at_call 15; refine (HU.out _).mono ?_; rintro e w4 ⟨rfl, hd⟩; have D4 := Lib.hid (D3.out.trans (hd.mono D3.out.size)); clear hd)
        | (go_at_call 13; refine (HH.out _).mono ?_; rintro e w5 ⟨rfl, hd⟩; have D5 := Lib.hid (D4.out.trans (hd.mono D4.out.size)); clear hd))
      go_ret
      exact ⟨rfl, D5.out⟩
    · have h4 : ¬ a % 4096 = 0 := fun h4 => by
        rw [← Bool.not_eq_true, askOk_iff] at hk
        exact hk ⟨k1, k2, h3, h4⟩
      have k3 : ((a : Int) != 0) = true := by simp; omega
      have k4 : ((a : Int) % 4096 == 0) = false := by simp; omega
      clear hk ha h1 h2 h3 h4
      go_enter Try.func6, Try.ntmps6
      go_wp2_with (first
        | (go_at_call 7; refine (HA.out _).mono ?_; rintro e w1 ⟨rfl, hd⟩; have D1 := Lib.hid hd; clear hd)
        | (go_at_call 11; refine (HR.out _).mono ?_; rintro e w2 ⟨v, rfl, hd⟩; have D2 := Lib.hid (D1.out.trans (hd.mono D1.out.size)); clear hd)
        | (go_at_call 16; refine (HL.out _).mono ?_; rintro e w3 ⟨rfl, hd⟩; have D3 := Lib.hid (D2.out.trans (hd.mono D2.out.size)); clear hd)
        | (go_at_call 15; refine (HU.out _).mono ?_; rintro e w4 ⟨rfl, hd⟩; have D4 := Lib.hid (D3.out.trans (hd.mono D3.out.size)); clear hd)
        | (go_at_call 13; refine (HH.out _).mono ?_; rintro e w5 ⟨rfl, hd⟩; have D5 := Lib.hid (D4.out.trans (hd.mono D4.out.size)); clear hd))
      go_ret
      exact ⟨rfl, D5.out⟩
end Go.Proofs.Ytmhhckpdhjnmeaa
