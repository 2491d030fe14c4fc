/- word.Aligned, word.Down. -/
import Derived.Test.YtbemphfijkcbhaaChecked
import Derived.Test.YtbemphfijkcbhaaWa
import Derived.WalkKit
import Derived.WalkSpells
import Derived.Deep.QuietTactic
import Derived.BigQuiet
namespace Go.Proofs.Ytbemphfijkcbhaa
open Go.RowKit

def two64 : Nat := 18446744073709551616
def u64s (xs : List Nat) : List Value := xs.map fun (x : Nat) => Value.int .u64 (x : Int)
/-- Aligned -/
def alignedB (a : Nat) (xs : List Nat) : Bool := decide (a ≠ 0) && xs.all fun x => decide (x % a = 0)
theorem aligned_take_succ (a : Nat) (xs : List Nat) (k : Nat) (h : k < xs.length) (hp : ((xs.take k).all fun x => decide (x % a = 0)) = true) (hm : xs[k] % a = 0) :
    ((xs.take (k + 1)).all fun x => decide (x % a = 0)) = true := by
  rw [List.take_succ_eq_append_getElem h, List.all_append, hp]
  simp [hm]
theorem aligned_no (a : Nat) (xs : List Nat) (k : Nat) (h : k < xs.length) (hm : ¬ xs[k] % a = 0) : alignedB a xs = false := by
  unfold alignedB
  rw [Bool.and_eq_false_iff]
  right
  rw [List.all_eq_false]
  exact ⟨xs[k], List.getElem_mem _, by simpa using hm⟩
theorem cast_mod0 {x a : Nat} (h : x % a = 0) : (((x : Int) % (a : Int)) != 0) = false := by
  have : ((x : Int) % (a : Int)) = ((x % a : Nat) : Int) := by omega
  rw [this, h]; decide
theorem cast_mod1 {x a : Nat} (h : ¬ x % a = 0) : (((x : Int) % (a : Int)) != 0) = true := by
  have : ((x : Int) % (a : Int)) = ((x % a : Nat) : Int) := by omega
  rw [this]
  simp only [bne_iff_ne, ne_eq]
  omega
set_option maxHeartbeats 400000 in
theorem aligned_zero (A : Option Addr) (n c : Nat) (w : World) :
    Calls Try.prog 50 #[.int .u64 0, .slice A n c] w fun e w' => e = .returned (.bool false) ∧ w = w' := by
  go_enter Try.func50, Try.ntmps50
  go_wp2
  go_ret
  exact ⟨rfl, rfl⟩
set_option maxHeartbeats 400000 in
theorem aligned_pos (a : Nat) (ha : 0 < a) (xs : List Nat) (hx : ∀ x ∈ xs, x < two64) (A : Option Addr) (c B : Nat) (w : World) (hn : xs.length ≤ maxLen) (h : Lies w B 1 A xs.length (u64s xs)) :
    Calls Try.prog 50 #[.int .u64 (a : Int), .slice A xs.length c] w fun e w' => e = .returned (.bool (alignedB a xs)) ∧ w = w' := by
  unfold maxLen at hn
  have ha0 : ((a : Int) == 0) = false := by simp; omega
  have hres : ((xs.all fun x => decide (x % a = 0)) = true) → alignedB a xs = true := fun hh => by simp only [alignedB, hh]; simp; omega
  have Hres := Lib.hid hres
  clear hres
  go_enter Try.func50, Try.ntmps50
  go_wp2
  go_loop [11] (fun i => ∃ k : Nat, k ≤ xs.length ∧ i = .int .i64 k ∧ ((xs.take k).all fun x => decide (x % a = 0)) = true) (fun i => xs.length - (intOf i).toNat)
  case atStart => exact ⟨0, Nat.zero_le _, rfl, rfl⟩
  case round =>
    obtain ⟨k, hk, rfl, hs⟩ := hrel
    have HS := Lib.hid hs
    clear hs
    by_cases hlt : k < xs.length
    · obtain ⟨q, hl, rfl, hb, hc⟩ := h.atMap hlt
      have hq := hx _ (List.getElem_mem hl)
      unfold two64 at hq
      by_cases hf : xs[k] % a = 0
      · have e3 := cast_mod0 hf
        have HF := Lib.hid hf
        clear hf
        go_wp2
        go_round
        case rel => exact ⟨k + 1, by omega, by go_num, aligned_take_succ a xs k hlt HS.out HF.out⟩
        case measure => simp [intOf]; omega
      · have e3 := cast_mod1 hf
        have e4 := aligned_no a xs k hlt hf
        clear hf
        go_wp2
        go_ret
        exact ⟨rfl, rfl⟩
    · obtain rfl : k = xs.length := by omega
      have e4 : alignedB a xs = true := Hres.out (by have := HS.out; rwa [List.take_length] at this)
      go_wp2
      go_ret
      exact ⟨rfl, rfl⟩
/-- Down, Up -/
def downN (n a : Nat) : Nat := if a = 0 then 0 else n - n % a
theorem downN_div (n a : Nat) : downN n a = if a = 0 then 0 else n / a * a := by
  unfold downN
  have := Nat.div_add_mod n a
  rw [Nat.mul_comm] at this
  split
  · rfl
  · omega
theorem ret_u64 {a b : Int} (h : a = b) : Ending.returned (.int .u64 a) = .returned (.int .u64 b) := by rw [h]
theorem down_any (n a : Nat) (hn : n < two64) (ha : a < two64) (w : World) :
    Calls Try.prog 75 #[.int .u64 (n : Int), .int .u64 (a : Int)] w fun e w' => e = .returned (.int .u64 (downN n a : Nat)) ∧ w = w' := by
  unfold two64 at hn ha
  by_cases h0 : a = 0
  · subst h0
    go_enter Try.func75, Try.ntmps75
    go_wp2
    go_ret
    exact ⟨rfl, rfl⟩
  · have ha0 : ((a : Int) == 0) = false := by simp; omega
    have hle : n % a ≤ n := Nat.mod_le _ _
    have hd : ((downN n a : Nat) : Int) = (n : Int) - (n : Int) % (a : Int) := by
      unfold downN; rw [if_neg h0]; omega
    have Hd := Lib.hid hd
    clear hd
    have hle2 : (n : Int) % (a : Int) ≤ n := by omega
    have hle3 : 0 ≤ (n : Int) % (a : Int) := by omega
    go_enter Try.func75, Try.ntmps75
    go_wp2
    go_ret
    exact ⟨ret_u64 Hd.out.symm, rfl⟩
end Go.Proofs.Ytbemphfijkcbhaa
