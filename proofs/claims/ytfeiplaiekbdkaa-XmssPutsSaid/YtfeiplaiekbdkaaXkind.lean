/- Kinds: Height, Size. -/
import Derived.Test.YtfeiplaiekbdkaaXval
namespace Go.Proofs.Ytfeiplaiekbdkaa
open Go.RowKit

set_option maxRecDepth 100000 in
theorem height_any (oid : Nat) (_hoid : oid < 4294967296) (w : World) :
    Calls Try.prog 8 #[.int .u32 (oid : Int)] w fun e w' => e = .returned (.tuple #[.int .i64 ((hgtO oid : Nat) : Int), .bool (isO oid)]) ∧ w = w' := by
  by_cases h1 : oid = 1
  · subst h1
    go_enter Try.func8, Try.ntmps8
    go_wp2
    go_ret2
    exact ⟨rfl, rfl⟩
  by_cases h2 : oid = 2
  · subst h2
    go_enter Try.func8, Try.ntmps8
    go_wp2
    go_ret2
    exact ⟨rfl, rfl⟩
  by_cases h3 : oid = 3
  · subst h3
    go_enter Try.func8, Try.ntmps8
    go_wp2
    go_ret2
    exact ⟨rfl, rfl⟩
  have e1 : ((oid : Int) == 1) = false := by simp; omega
  have e2 : ((oid : Int) == 2) = false := by simp; omega
  have e3 : ((oid : Int) == 3) = false := by simp; omega
  have e0 : isO oid = false := by unfold isO; exact decide_eq_false (by omega)
  rw [hgtO_off e0, e0]
  go_enter Try.func8, Try.ntmps8
  go_wp2
  go_ret2
  exact ⟨rfl, rfl⟩
set_option maxRecDepth 100000 in
theorem rheight_any (oid : Nat) (_hoid : oid < 4294967296) (w : World) :
    Calls Try.prog 9 #[.int .u32 (oid : Int)] w fun e w' => e = .returned (.tuple #[.int .i64 ((hgtO oid : Nat) : Int), .bool (isO oid)]) ∧ w = w' := by
  by_cases h1 : oid = 1
  · subst h1
    go_enter Try.func9, Try.ntmps9
    go_wp2
    go_ret2
    exact ⟨rfl, rfl⟩
  by_cases h2 : oid = 2
  · subst h2
    go_enter Try.func9, Try.ntmps9
    go_wp2
    go_ret2
    exact ⟨rfl, rfl⟩
  by_cases h3 : oid = 3
  · subst h3
    go_enter Try.func9, Try.ntmps9
    go_wp2
    go_ret2
    exact ⟨rfl, rfl⟩
  have e1 : ((oid : Int) == 1) = false := by simp; omega
  have e2 : ((oid : Int) == 2) = false := by simp; omega
  have e3 : ((oid : Int) == 3) = false := by simp; omega
  have e0 : isO oid = false := by unfold isO; exact decide_eq_false (by omega)
  rw [hgtO_off e0, e0]
  go_enter Try.func9, Try.ntmps9
  go_wp2
  go_ret2
  exact ⟨rfl, rfl⟩
def sizeO (oid : Nat) : Nat := if isO oid then 4 + 32 * (68 + hgtO oid) else 0
set_option maxRecDepth 100000 in
theorem size_any (oid : Nat) (hoid : oid < 4294967296) (w : World) :
    Calls Try.prog 10 #[.int .u32 (oid : Int)] w fun e w' => e = .returned (.tuple #[.int .i64 ((sizeO oid : Nat) : Int), .bool (isO oid)]) ∧ w = w' := by
  have HH := Lib.hid (height_any oid hoid w)
  have hle := hgtO_le oid
  have HS : Hid (sizeO oid = if isO oid then 4 + 32 * (68 + hgtO oid) else 0) := Lib.hid rfl
  obtain ⟨h, hh⟩ : ∃ h, h = hgtO oid := ⟨_, rfl⟩
  obtain ⟨s, hs⟩ : ∃ s, s = sizeO oid := ⟨_, rfl⟩
  obtain ⟨b, hb⟩ : ∃ b, b = isO oid := ⟨_, rfl⟩
  rw [← hs]
  rw [← hh] at HH HS hle
  rw [← hb] at HH HS ⊢
  rw [← hs] at HS
  clear hh hs hb
  cases b
  · go_enter Try.func10, Try.ntmps10
    go_wp2_with (go_at_call 8; refine HH.out.mono ?_; rintro e w1 ⟨rfl, hw1⟩; rw [← hw1]; clear hw1)
    go_ret2
    have hs3 := HS.out
    rw [if_neg (by decide)] at hs3
    exact ⟨by rw [hs3]; rfl, rfl⟩
  · go_enter Try.func10, Try.ntmps10
    go_wp2_with (go_at_call 8; refine HH.out.mono ?_; rintro e w1 ⟨rfl, hw1⟩; rw [← hw1]; clear hw1)
    go_ret2
    have hs3 := HS.out
    rw [if_pos trivial] at hs3
    exact ⟨by rw [hs3]; simp, rfl⟩
end Go.Proofs.Ytfeiplaiekbdkaa
