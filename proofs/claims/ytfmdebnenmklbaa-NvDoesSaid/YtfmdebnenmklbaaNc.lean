/- The program's store: the small functions. -/
import Derived.Test.YtfmdebnenmklbaaNv
namespace Go.Proofs.Ytfmdebnenmklbaa
open Go.RowKit

attribute [local go_sem] num_and num_or num_andn
theorem torn_any (o x m : W32) (w : World) : Calls Try.prog 24 #[.int .u32 (num o), .int .u32 (num x), .int .u32 (num m)] w fun e w' => e = .returned (.int .u32 (num (tornW o x m))) ∧ w = w' := by
  go_enter Try.func24, Try.ntmps24
  go_wp2
  go_ret
  exact ⟨rfl, rfl⟩
theorem held_any (p : Nat) (w : World) : Calls Try.prog 27 #[.pointer (some ⟨p, 0, none⟩)] w fun e w' => e = .returned (.pointer (some ⟨p, 0, none⟩)) ∧ w = w' := by
  go_enter Try.func27, Try.ntmps27
  go_wp2
  go_ret
  exact ⟨rfl, rfl⟩
theorem powered_any (p : Nat) (b : Bool) (w : World) (h : w.cell? ⟨p, 0, none⟩ = some (.bool b)) : Calls Try.prog 29 #[.pointer (some ⟨p, 0, none⟩)] w fun e w' => e = .returned (.bool b) ∧ w = w' := by
  go_enter Try.func29, Try.ntmps29
  go_wp2
  go_ret
  exact ⟨rfl, rfl⟩
theorem counted_any (p n : Nat) (w : World) (h : w.cell? ⟨p, 1, none⟩ = some (.int .i64 (n : Int))) : Calls Try.prog 28 #[.pointer (some ⟨p, 0, none⟩)] w fun e w' => e = .returned (.int .i64 (n : Int)) ∧ w = w' := by
  go_enter Try.func28, Try.ntmps28
  go_wp2
  go_ret
  exact ⟨rfl, rfl⟩
theorem count_any (p n : Nat) (hn : n < 1000000) (w : World) (h : w.cell? ⟨p, 1, none⟩ = some (.int .i64 (n : Int))) (hf : w.frozen? ⟨p, 1, none⟩ = false) : Calls Try.prog 26 #[.pointer (some ⟨p, 0, none⟩)] w fun e w' => e = .returned (.tuple #[]) ∧ w' = w.setCell ⟨p, 1, none⟩ (.int .i64 ((n + 1 : Nat) : Int)) := by
  obtain ⟨m, hm⟩ : ∃ m, m = n + 1 := ⟨_, rfl⟩
  have e1 : (n : Int) + 1 = (m : Int) := by omega
  rw [← hm]
  clear hm
  go_enter Try.func26, Try.ntmps26
  go_wp2
  go_end0
  exact ⟨rfl, rfl⟩
theorem lose_any (p : Nat) (b : Bool) (w : World) (h : w.cell? ⟨p, 0, none⟩ = some (.bool b)) (hf : w.frozen? ⟨p, 0, none⟩ = false) : Calls Try.prog 25 #[.pointer (some ⟨p, 0, none⟩)] w fun e w' => e = .returned (.tuple #[]) ∧ w' = w.setCell ⟨p, 0, none⟩ (.bool false) := by
  go_enter Try.func25, Try.ntmps25
  go_wp2
  go_end0
  exact ⟨rfl, rfl⟩
theorem restore_any (p : Nat) (b : Bool) (n : Nat) (w : World) (h0 : w.cell? ⟨p, 0, none⟩ = some (.bool b)) (h1 : w.cell? ⟨p, 1, none⟩ = some (.int .i64 (n : Int))) (hf0 : w.frozen? ⟨p, 0, none⟩ = false) (hf1 : w.frozen? ⟨p, 1, none⟩ = false) :
    Calls Try.prog 21 #[.pointer (some ⟨p, 0, none⟩)] w fun e w' => e = .returned (.tuple #[]) ∧ w' = (w.setCell ⟨p, 0, none⟩ (.bool true)).setCell ⟨p, 1, none⟩ (.int .i64 0) := by
  go_enter Try.func21, Try.ntmps21
  go_wp2
  go_end0
  exact ⟨rfl, rfl⟩
end Go.Proofs.Ytfmdebnenmklbaa
