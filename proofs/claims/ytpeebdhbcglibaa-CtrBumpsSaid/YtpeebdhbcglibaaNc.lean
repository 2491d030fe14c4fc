/- The program's store: the small functions. -/
import Derived.Test.YtpeebdhbcglibaaNv
namespace Go.Proofs.Ytpeebdhbcglibaa
open Go.RowKit

attribute [local go_sem] num_and num_or num_andn
theorem torn_any (o x m : W32) (w : World) : Calls Try.prog 54 #[.int .u32 (num o), .int .u32 (num x), .int .u32 (num m)] w fun e w' => e = .returned (.int .u32 (num (tornW o x m))) ∧ w = w' := by
  go_enter Try.func54, Try.ntmps54
  go_wp2
  go_ret
  exact ⟨rfl, rfl⟩
theorem held_any (p : Nat) (w : World) : Calls Try.prog 32 #[.pointer (some ⟨p, 0, none⟩)] w fun e w' => e = .returned (.pointer (some ⟨p, 0, none⟩)) ∧ w = w' := by
  go_enter Try.func32, Try.ntmps32
  go_wp2
  go_ret
  exact ⟨rfl, rfl⟩
theorem powered_any (p : Nat) (b : Bool) (w : World) (h : w.cell? ⟨p, 0, none⟩ = some (.bool b)) : Calls Try.prog 60 #[.pointer (some ⟨p, 0, none⟩)] w fun e w' => e = .returned (.bool b) ∧ w = w' := by
  go_enter Try.func60, Try.ntmps60
  go_wp2
  go_ret
  exact ⟨rfl, rfl⟩
theorem counted_any (p n : Nat) (w : World) (h : w.cell? ⟨p, 1, none⟩ = some (.int .i64 (n : Int))) : Calls Try.prog 37 #[.pointer (some ⟨p, 0, none⟩)] w fun e w' => e = .returned (.int .i64 (n : Int)) ∧ w = w' := by
  go_enter Try.func37, Try.ntmps37
  go_wp2
  go_ret
  exact ⟨rfl, rfl⟩
theorem count_any (p n : Nat) (hn : n < 1000000) (w : World) (h : w.cell? ⟨p, 1, none⟩ = some (.int .i64 (n : Int))) (hf : w.frozen? ⟨p, 1, none⟩ = false) : Calls Try.prog 56 #[.pointer (some ⟨p, 0, none⟩)] w fun e w' => e = .returned (.tuple #[]) ∧ w' = w.setCell ⟨p, 1, none⟩ (.int .i64 ((n + 1 : Nat) : Int)) := by
  obtain ⟨m, hm⟩ : ∃ m, m = n + 1 := ⟨_, rfl⟩
  have e1 : (n : Int) + 1 = (m : Int) := by omega
  rw [← hm]
  clear hm
  go_enter Try.func56, Try.ntmps56
  go_wp2
  go_end0
  exact ⟨rfl, rfl⟩
theorem lose_any (p : Nat) (b : Bool) (w : World) (h : w.cell? ⟨p, 0, none⟩ = some (.bool b)) (hf : w.frozen? ⟨p, 0, none⟩ = false) : Calls Try.prog 55 #[.pointer (some ⟨p, 0, none⟩)] w fun e w' => e = .returned (.tuple #[]) ∧ w' = w.setCell ⟨p, 0, none⟩ (.bool false) := by
  go_enter Try.func55, Try.ntmps55
  go_wp2
  go_end0
  exact ⟨rfl, rfl⟩
theorem restore_any (p : Nat) (b : Bool) (n : Nat) (w : World) (h0 : w.cell? ⟨p, 0, none⟩ = some (.bool b)) (h1 : w.cell? ⟨p, 1, none⟩ = some (.int .i64 (n : Int))) (hf0 : w.frozen? ⟨p, 0, none⟩ = false) (hf1 : w.frozen? ⟨p, 1, none⟩ = false) :
    Calls Try.prog 27 #[.pointer (some ⟨p, 0, none⟩)] w fun e w' => e = .returned (.tuple #[]) ∧ w' = (w.setCell ⟨p, 0, none⟩ (.bool true)).setCell ⟨p, 1, none⟩ (.int .i64 0) := by
  go_enter Try.func27, Try.ntmps27
  go_wp2
  go_end0
  exact ⟨rfl, rfl⟩
end Go.Proofs.Ytpeebdhbcglibaa
