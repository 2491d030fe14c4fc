/- Bounds; signs; names: of the code and of the reference. -/
import Derived.Test.YtmcpmcicolpoeaaDoorCn1
import Derived.Test.YtmcpmcicolpoeaaDoorStr
namespace Go.Proofs.YtmcpmcicolpoeaaDoor
open Go.RowKit

def inB (n lo hi : Int) : Bool := decide (lo ≤ n ∧ n ≤ hi)
set_option maxRecDepth 100000 in
theorem among_any (n lo hi : Int) (w : World) : Calls Tryd.prog 33 #[.int .i64 n, .int .i64 lo, .int .i64 hi] w fun e w' => e = .returned (.bool (inB n lo hi)) ∧ w = w' := by
  unfold inB
  by_cases h1 : lo ≤ n
  · by_cases h2 : n ≤ hi
    · rw [decide_eq_true (show lo ≤ n ∧ n ≤ hi from ⟨h1, h2⟩)]
      have d1 := decide_eq_true h1
      have d2 := decide_eq_true h2
      clear h1 h2
      go_enter Tryd.func33, Tryd.ntmps33
      go_wp2
      go_ret
      exact ⟨rfl, rfl⟩
    · rw [decide_eq_false (show ¬ (lo ≤ n ∧ n ≤ hi) from fun h => h2 h.2)]
      have d1 := decide_eq_true h1
      have d2 := decide_eq_false h2
      clear h1 h2
      go_enter Tryd.func33, Tryd.ntmps33
      go_wp2
      go_ret
      exact ⟨rfl, rfl⟩
  · rw [decide_eq_false (show ¬ (lo ≤ n ∧ n ≤ hi) from fun h => h1 h.1)]
    have d1 := decide_eq_false h1
    clear h1
    go_enter Tryd.func33, Tryd.ntmps33
    go_wp2
    go_ret
    exact ⟨rfl, rfl⟩
set_option maxRecDepth 100000 in
theorem guestsFit_any (n : Int) (w : World) : Calls Tryd.prog 41 #[.int .i64 n] w fun e w' => e = .returned (.bool (inB n 1 16)) ∧ w = w' := by
  have HA := Lib.hid (among_any n 1 16)
  obtain ⟨r, hr⟩ : ∃ r, r = inB n 1 16 := ⟨_, rfl⟩
  rw [← hr] at HA ⊢
  clear hr
  go_enter Tryd.func41, Tryd.ntmps41
  go_wp2_with (go_at_call 33; refine (HA.out _).mono ?_; rintro e w1 ⟨rfl, rfl⟩)
  go_ret
  exact ⟨rfl, rfl⟩
set_option maxRecDepth 100000 in
theorem channelsFit_any (n : Int) (w : World) : Calls Tryd.prog 42 #[.int .i64 n] w fun e w' => e = .returned (.bool (inB n 0 32)) ∧ w = w' := by
  have HA := Lib.hid (among_any n 0 32)
  obtain ⟨r, hr⟩ : ∃ r, r = inB n 0 32 := ⟨_, rfl⟩
  rw [← hr] at HA ⊢
  clear hr
  go_enter Tryd.func42, Tryd.ntmps42
  go_wp2_with (go_at_call 33; refine (HA.out _).mono ?_; rintro e w1 ⟨rfl, rfl⟩)
  go_ret
  exact ⟨rfl, rfl⟩
set_option maxRecDepth 100000 in
theorem windowsFit_any (n : Int) (w : World) : Calls Tryd.prog 74 #[.int .i64 n] w fun e w' => e = .returned (.bool (inB n 1 16)) ∧ w = w' := by
  have HA := Lib.hid (among_any n 1 16)
  obtain ⟨r, hr⟩ : ∃ r, r = inB n 1 16 := ⟨_, rfl⟩
  rw [← hr] at HA ⊢
  clear hr
  go_enter Tryd.func74, Tryd.ntmps74
  go_wp2_with (go_at_call 33; refine (HA.out _).mono ?_; rintro e w1 ⟨rfl, rfl⟩)
  go_ret
  exact ⟨rfl, rfl⟩
set_option maxRecDepth 100000 in
theorem devicesFit_any (n : Int) (w : World) : Calls Tryd.prog 75 #[.int .i64 n] w fun e w' => e = .returned (.bool (inB n 0 16)) ∧ w = w' := by
  have HA := Lib.hid (among_any n 0 16)
  obtain ⟨r, hr⟩ : ∃ r, r = inB n 0 16 := ⟨_, rfl⟩
  rw [← hr] at HA ⊢
  clear hr
  go_enter Tryd.func75, Tryd.ntmps75
  go_wp2_with (go_at_call 33; refine (HA.out _).mono ?_; rintro e w1 ⟨rfl, rfl⟩)
  go_ret
  exact ⟨rfl, rfl⟩
set_option maxRecDepth 100000 in
theorem irqsFit_any (n : Int) (w : World) : Calls Tryd.prog 76 #[.int .i64 n] w fun e w' => e = .returned (.bool (inB n 0 64)) ∧ w = w' := by
  have HA := Lib.hid (among_any n 0 64)
  obtain ⟨r, hr⟩ : ∃ r, r = inB n 0 64 := ⟨_, rfl⟩
  rw [← hr] at HA ⊢
  clear hr
  go_enter Tryd.func76, Tryd.ntmps76
  go_wp2_with (go_at_call 33; refine (HA.out _).mono ?_; rintro e w1 ⟨rfl, rfl⟩)
  go_ret
  exact ⟨rfl, rfl⟩
set_option maxRecDepth 100000 in
theorem streamsFit_any (n : Int) (w : World) : Calls Tryd.prog 77 #[.int .i64 n] w fun e w' => e = .returned (.bool (inB n 0 32)) ∧ w = w' := by
  have HA := Lib.hid (among_any n 0 32)
  obtain ⟨r, hr⟩ : ∃ r, r = inB n 0 32 := ⟨_, rfl⟩
  rw [← hr] at HA ⊢
  clear hr
  go_enter Tryd.func77, Tryd.ntmps77
  go_wp2_with (go_at_call 33; refine (HA.out _).mono ?_; rintro e w1 ⟨rfl, rfl⟩)
  go_ret
  exact ⟨rfl, rfl⟩
set_option maxRecDepth 100000 in
theorem permFits_any (n : Int) (w : World) : Calls Tryd.prog 113 #[.int .i64 n] w fun e w' => e = .returned (.bool (inB n 0 7)) ∧ w = w' := by
  have HA := Lib.hid (among_any n 0 7)
  obtain ⟨r, hr⟩ : ∃ r, r = inB n 0 7 := ⟨_, rfl⟩
  rw [← hr] at HA ⊢
  clear hr
  go_enter Tryd.func113, Tryd.ntmps113
  go_wp2_with (go_at_call 33; refine (HA.out _).mono ?_; rintro e w1 ⟨rfl, rfl⟩)
  go_ret
  exact ⟨rfl, rfl⟩
set_option maxRecDepth 100000 in
theorem shortFits_any (n : Int) (w : World) : Calls Tryd.prog 115 #[.int .i64 n] w fun e w' => e = .returned (.bool (inB n 0 65535)) ∧ w = w' := by
  have HA := Lib.hid (among_any n 0 65535)
  obtain ⟨r, hr⟩ : ∃ r, r = inB n 0 65535 := ⟨_, rfl⟩
  rw [← hr] at HA ⊢
  clear hr
  go_enter Tryd.func115, Tryd.ntmps115
  go_wp2_with (go_at_call 33; refine (HA.out _).mono ?_; rintro e w1 ⟨rfl, rfl⟩)
  go_ret
  exact ⟨rfl, rfl⟩
theorem sign_of (n : Nat) (h : n < 256) : sign (UInt8.ofNat n) = (decide (97 ≤ n) && decide (n ≤ 122) || decide (48 ≤ n) && decide (n ≤ 57) || decide (n = 45)) := by
  revert n; decide +kernel
theorem sign_eq (c : UInt8) : sign c = (decide (97 ≤ c.toNat) && decide (c.toNat ≤ 122) || decide (48 ≤ c.toNat) && decide (c.toNat ≤ 57) || decide (c.toNat = 45)) := by
  have := sign_of c.toNat c.toNat_lt
  rwa [UInt8.ofNat_toNat] at this
/-- Which of the intervals a sign lies in. -/
theorem sign_cases (c : UInt8) : (97 ≤ c.toNat ∧ c.toNat ≤ 122 ∧ sign c = true) ∨ (48 ≤ c.toNat ∧ c.toNat ≤ 57 ∧ sign c = true) ∨ (c.toNat = 45 ∧ sign c = true) ∨ (122 < c.toNat ∧ sign c = false) ∨ (57 < c.toNat ∧ c.toNat < 97 ∧ sign c = false) ∨ (c.toNat < 48 ∧ c.toNat ≠ 45 ∧ sign c = false) := by
  have h := sign_eq c
  have := c.toNat_lt
  by_cases h1 : 97 ≤ c.toNat
  · by_cases h2 : c.toNat ≤ 122
    · exact .inl ⟨h1, h2, by rw [h]; simp [h1, h2]⟩
    · refine .inr (.inr (.inr (.inl ⟨by omega, ?_⟩)))
      rw [h]; simp; omega
  · by_cases h3 : 48 ≤ c.toNat
    · by_cases h4 : c.toNat ≤ 57
      · exact .inr (.inl ⟨h3, h4, by rw [h]; simp [h3, h4]⟩)
      · refine .inr (.inr (.inr (.inr (.inl ⟨by omega, by omega, ?_⟩))))
        rw [h]; simp; omega
    · by_cases h5 : c.toNat = 45
      · exact .inr (.inr (.inl ⟨h5, by rw [h]; simp [h5]⟩))
      · refine .inr (.inr (.inr (.inr (.inr ⟨by omega, h5, ?_⟩))))
        rw [h]; simp; omega
set_option maxRecDepth 100000 in
theorem sign_any (c : UInt8) (w : World) : Calls Tryd.prog 32 #[.int .u8 (c.toNat : Int)] w fun e w' => e = .returned (.bool (sign c)) ∧ w = w' := by
  obtain ⟨n, hn⟩ : ∃ n, n = c.toNat := ⟨_, rfl⟩
  have hc := sign_cases c
  rw [← hn] at hc ⊢
  clear hn
  rcases hc with ⟨h1, h2, h⟩ | ⟨h1, h2, h⟩ | ⟨h1, h⟩ | ⟨h1, h⟩ | ⟨h1, h2, h⟩ | ⟨h1, h2, h⟩
  all_goals
    rw [h]
    clear h
    try subst h1
  · have d1 : decide ((97 : Int) ≤ n) = true := by simp; omega
    have d2 : decide ((n : Int) ≤ 122) = true := by simp; omega
    clear h1 h2
    go_enter Tryd.func32, Tryd.ntmps32
    go_wp2
    go_ret
    exact ⟨rfl, rfl⟩
  · have d1 : decide ((97 : Int) ≤ n) = false := by simp; omega
    have d2 : decide ((48 : Int) ≤ n) = true := by simp; omega
    have d3 : decide ((n : Int) ≤ 57) = true := by simp; omega
    clear h1 h2
    go_enter Tryd.func32, Tryd.ntmps32
    go_wp2
    go_ret
    exact ⟨rfl, rfl⟩
  · go_enter Tryd.func32, Tryd.ntmps32
    go_wp2
    go_ret
    exact ⟨rfl, rfl⟩
  · have d1 : decide ((97 : Int) ≤ n) = true := by simp; omega
    have d2 : decide ((n : Int) ≤ 122) = false := by simp; omega
    have d3 : decide ((48 : Int) ≤ n) = true := by simp; omega
    have d4 : decide ((n : Int) ≤ 57) = false := by simp; omega
    have d5 : ((n : Int) == 45) = false := by simp; omega
    clear h1
    go_enter Tryd.func32, Tryd.ntmps32
    go_wp2
    go_ret
    exact ⟨rfl, rfl⟩
  · have d1 : decide ((97 : Int) ≤ n) = false := by simp; omega
    have d3 : decide ((48 : Int) ≤ n) = true := by simp; omega
    have d4 : decide ((n : Int) ≤ 57) = false := by simp; omega
    have d5 : ((n : Int) == 45) = false := by simp; omega
    clear h1 h2
    go_enter Tryd.func32, Tryd.ntmps32
    go_wp2
    go_ret
    exact ⟨rfl, rfl⟩
  · have d1 : decide ((97 : Int) ≤ n) = false := by simp; omega
    have d3 : decide ((48 : Int) ≤ n) = false := by simp; omega
    have d5 : ((n : Int) == 45) = false := by simp; omega
    clear h1 h2
    go_enter Tryd.func32, Tryd.ntmps32
    go_wp2
    go_ret
    exact ⟨rfl, rfl⟩
end Go.Proofs.YtmcpmcicolpoeaaDoor
