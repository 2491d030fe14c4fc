/- The walk of XmssKinds. -/
import Derived.Test.YtfeiplaiekbdkaaXawake
namespace Go.Proofs.Ytfeiplaiekbdkaa
open Go.RowKit

set_option maxHeartbeats 2000000 in
set_option maxRecDepth 100000 in
theorem xmssKinds_walk (oid : Nat) (w : World) (hoid : oid < 4294967296) :
    Calls Try.prog 3 #[.int .u32 (oid : Int)] w fun e w' => e = .returned (.bool true) ∧ Below w.heap.size w w' := by
  have H1 := Lib.hid (fun W => height_any oid hoid W)
  have H2 := Lib.hid (fun W => rheight_any oid hoid W)
  have H3 := Lib.hid (fun W => size_any oid hoid W)
  obtain ⟨h, hh⟩ : ∃ h, h = hgtO oid := ⟨_, rfl⟩
  obtain ⟨b, hb⟩ : ∃ b, b = isO oid := ⟨_, rfl⟩
  obtain ⟨s, hs⟩ : ∃ s, s = sizeO oid := ⟨_, rfl⟩
  rw [← hh, ← hb] at H1 H2
  rw [← hs, ← hb] at H3
  have hcase : (b = false ∧ h = 0 ∧ s = 0) ∨ (b = true ∧ h = 10 ∧ s = 2500) ∨ (b = true ∧ h = 16 ∧ s = 2692) ∨ (b = true ∧ h = 20 ∧ s = 2820) := by
    rw [hb, hh, hs]
    unfold sizeO
    cases hi : isO oid with
    | false => exact .inl ⟨rfl, hgtO_off hi, by simp⟩
    | true => rcases isO_cases hi with ⟨_, e⟩ | ⟨_, e⟩ | ⟨_, e⟩ <;> simp [e]
  clear hh hb hs
  rcases hcase with ⟨rfl, rfl, rfl⟩ | ⟨rfl, rfl, rfl⟩ | ⟨rfl, rfl, rfl⟩ | ⟨rfl, rfl, rfl⟩
  all_goals
    go_enter Try.func3, Try.ntmps3
    go_wp2_with (first
      | (go_at_call 7; refine (awake8_any _).mono ?_; rintro e w0 ⟨rfl, hd⟩; have HD := Lib.hid hd; clear hd)
      | (go_at_call 8; refine (H1.out _).mono ?_; rintro e w1 ⟨rfl, hw1⟩; rw [← hw1]; clear hw1)
      | (go_at_call 9; refine (H2.out _).mono ?_; rintro e w1 ⟨rfl, hw1⟩; rw [← hw1]; clear hw1)
      | (go_at_call 10; refine (H3.out _).mono ?_; rintro e w1 ⟨rfl, hw1⟩; rw [← hw1]; clear hw1))
    go_ret
    exact ⟨rfl, HD.out⟩
end Go.Proofs.Ytfeiplaiekbdkaa
