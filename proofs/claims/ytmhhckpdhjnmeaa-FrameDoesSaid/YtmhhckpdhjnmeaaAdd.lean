/- word.Add, Aligned, Up, Down; their answers as plain functions. -/
import Derived.Test.YtmhhckpdhjnmeaaChecked
import Derived.Test.YtmhhckpdhjnmeaaMem
import Derived.WalkKit
import Derived.WalkSpells
import Derived.Deep.QuietTactic
import Derived.BigQuiet
namespace Go.Proofs.Ytmhhckpdhjnmeaa
open Go.RowKit

def two64 : Nat := 18446744073709551616
def s64 (x y : Nat) : Nat := (x + y) % 18446744073709551616
def c64 (x y : Nat) : Nat := (x + y) / 18446744073709551616

theorem add64_run (x y : Nat) (w : World) :
    (callFunc 57 #[.int .u64 (x : Int), .int .u64 (y : Int), .int .u64 0]).run Try.prog w = .ok (.value (.tuple #[.int .u64 (s64 x y : Nat), .int .u64 (c64 x y : Nat)])) w := by
  rw [run_callFunc_extern Try.func57 (by kernel_rfl) (by kernel_rfl) (by kernel_rfl) (e := add64Entry) (by kernel_rfl)]
  have h := run_add64 (P := Try.prog) (x : Int) (y : Int) 0 (by omega) (by omega) (by omega) (by omega) w
  rw [h]
  simp only [Result.andThen, s64, c64]
  congr 5 <;> omega

def u64A (xs : List Nat) : List Value := xs.map fun (x : Nat) => Value.int .u64 (x : Int)
def addSum (xs : List Nat) : Nat := if xs.sum < two64 then xs.sum else 0
def addFits (xs : List Nat) : Bool := decide (xs.sum < two64)

theorem sum_take_le (xs : List Nat) (k : Nat) : (xs.take k).sum ≤ xs.sum := by
  induction xs generalizing k with
  | nil => simp
  | cons x xs ih =>
    cases k with
    | zero => simp
    | succ k => simp only [List.take_succ_cons, List.sum_cons]; have := ih k; omega
theorem sum_take_succ (xs : List Nat) (k : Nat) (h : k < xs.length) : (xs.take (k + 1)).sum = (xs.take k).sum + xs[k] := by
  rw [List.take_succ_eq_append_getElem h, List.sum_append]; simp

theorem add_next (xs : List Nat) (k : Nat) (h : k < xs.length) (hs : (xs.take (k + 1)).sum < two64) :
    s64 (xs.take k).sum xs[k] = (xs.take (k + 1)).sum ∧ c64 (xs.take k).sum xs[k] = 0 := by
  rw [sum_take_succ xs k h] at hs ⊢
  unfold two64 at hs; unfold s64 c64
  exact ⟨Nat.mod_eq_of_lt hs, Nat.div_eq_of_lt hs⟩
theorem add_over (xs : List Nat) (k : Nat) (h : k < xs.length) (hx : xs[k] < two64) (h0 : (xs.take k).sum < two64) (hs : ¬ (xs.take (k + 1)).sum < two64) :
    c64 (xs.take k).sum xs[k] = 1 ∧ addSum xs = 0 ∧ addFits xs = false := by
  have hle := sum_take_le xs (k + 1)
  have h2 : ¬ xs.sum < two64 := by omega
  rw [sum_take_succ xs k h] at hs
  unfold two64 at hs h0 hx
  refine ⟨?_, by simp [addSum, h2], by simp [addFits, h2]⟩
  unfold c64
  omega
theorem bool_ne0 {n : Nat} (h : n = 1) : ((n : Int) != 0) = true := by subst h; decide
theorem bool_eq0 {n : Nat} (h : n = 0) : ((n : Int) != 0) = false := by subst h; decide

set_option maxHeartbeats 400000 in
theorem add_any (xs : List Nat) (hx : ∀ x ∈ xs, x < two64) (A : Option Addr) (c B : Nat) (w : World) (hn : xs.length ≤ maxLen) (h : Lies w B 1 A xs.length (u64A xs)) :
    Calls Try.prog 44 #[.slice A xs.length c] w fun e w' => e = .returned (.tuple #[.int .u64 (addSum xs : Nat), .bool (addFits xs)]) ∧ w = w' := by
  unfold maxLen at hn
  have hadd := add64_run
  go_enter Try.func44, Try.ntmps44
  go_wp2
  go_loop [4, 11] (fun s i => ∃ k : Nat, k ≤ xs.length ∧ i = .int .i64 k ∧ s = .int .u64 ((xs.take k).sum : Nat) ∧ (xs.take k).sum < two64) (fun _ i => xs.length - (intOf i).toNat)
  case atStart => exact ⟨0, Nat.zero_le _, rfl, rfl, by simp [two64]⟩
  case round =>
    obtain ⟨k, hk, rfl, rfl, hs⟩ := hrel
    by_cases hlt : k < xs.length
    · obtain ⟨a, hl, rfl, hb, hc⟩ := h.atMap hlt
      by_cases hf : (xs.take (k + 1)).sum < two64
      · obtain ⟨e1, e2⟩ := add_next xs k hlt hf
        have e3 := bool_eq0 e2
        clear e2
        go_wp2
        go_round
        case rel => exact ⟨k + 1, by omega, by go_num, rfl, hf⟩
        case measure => simp [intOf]; omega
      · obtain ⟨e1, e2, e4⟩ := add_over xs k hlt (hx _ (List.getElem_mem _)) hs hf
        have e3 := bool_ne0 e1
        clear e1
        go_wp2
        go_ret2
        exact ⟨rfl, rfl⟩
    · obtain rfl : k = xs.length := by omega
      go_wp2
      go_ret2
      rw [List.take_length] at hs
      exact ⟨by simp [addSum, addFits, hs], rfl⟩

/-- Aligned -/
def alignedB (a : Nat) (xs : List Nat) : Bool := decide (a ≠ 0) && xs.all fun x => decide (x % a = 0)
theorem aligned_take_succ (a : Nat) (xs : List Nat) (k : Nat) (h : k < xs.length) (hp : ((xs.take k).all fun x => decide (x % a = 0)) = true) (hm : xs[k] % a = 0) :
    ((xs.take (k + 1)).all fun x => decide (x % a = 0)) = true := by
  rw [List.take_succ_eq_append_getElem h, List.all_append, hp]
  simp [hm]
theorem aligned_no (a : Nat) (xs : List Nat) (k : Nat) (h : k < xs.length) (hm : ¬ xs[k] % a = 0) : alignedB a xs = false := by
  unfold alignedB
  rw [Bool.and_eq_false_iff]
  right
  rw [List.all_eq_false]
  exact ⟨xs[k], List.getElem_mem _, by simpa using hm⟩
theorem cast_mod0 {x a : Nat} (h : x % a = 0) : (((x : Int) % (a : Int)) != 0) = false := by
  have : ((x : Int) % (a : Int)) = ((x % a : Nat) : Int) := by omega
  rw [this, h]; decide
theorem cast_mod1 {x a : Nat} (h : ¬ x % a = 0) : (((x : Int) % (a : Int)) != 0) = true := by
  have : ((x : Int) % (a : Int)) = ((x % a : Nat) : Int) := by omega
  rw [this]
  simp only [bne_iff_ne, ne_eq]
  omega

set_option maxHeartbeats 400000 in
theorem aligned_zero (A : Option Addr) (n c : Nat) (w : World) :
    Calls Try.prog 25 #[.int .u64 0, .slice A n c] w fun e w' => e = .returned (.bool false) ∧ w = w' := by
  go_enter Try.func25, Try.ntmps25
  go_wp2
  go_ret
  exact ⟨rfl, rfl⟩

set_option maxHeartbeats 400000 in
theorem aligned_pos (a : Nat) (ha : 0 < a) (xs : List Nat) (hx : ∀ x ∈ xs, x < two64) (A : Option Addr) (c B : Nat) (w : World) (hn : xs.length ≤ maxLen) (h : Lies w B 1 A xs.length (u64A xs)) :
    Calls Try.prog 25 #[.int .u64 (a : Int), .slice A xs.length c] w fun e w' => e = .returned (.bool (alignedB a xs)) ∧ w = w' := by
  unfold maxLen at hn
  have ha0 : ((a : Int) == 0) = false := by simp; omega
  have hres : ((xs.all fun x => decide (x % a = 0)) = true) → alignedB a xs = true := fun hh => by simp only [alignedB, hh]; simp; omega
  have Hres := Lib.hid hres
  clear hres
  go_enter Try.func25, Try.ntmps25
  go_wp2
  go_loop [11] (fun i => ∃ k : Nat, k ≤ xs.length ∧ i = .int .i64 k ∧ ((xs.take k).all fun x => decide (x % a = 0)) = true) (fun i => xs.length - (intOf i).toNat)
  case atStart => exact ⟨0, Nat.zero_le _, rfl, rfl⟩
  case round =>
    obtain ⟨k, hk, rfl, hs⟩ := hrel
    have HS := Lib.hid hs
    clear hs
    by_cases hlt : k < xs.length
    · obtain ⟨q, hl, rfl, hb, hc⟩ := h.atMap hlt
      have hq := hx _ (List.getElem_mem hl)
      unfold two64 at hq
      by_cases hf : xs[k] % a = 0
      · have e3 := cast_mod0 hf
        have HF := Lib.hid hf
        clear hf
        go_wp2
        go_round
        case rel => exact ⟨k + 1, by omega, by go_num, aligned_take_succ a xs k hlt HS.out HF.out⟩
        case measure => simp [intOf]; omega
      · have e3 := cast_mod1 hf
        have e4 := aligned_no a xs k hlt hf
        clear hf
        go_wp2
        go_ret
        exact ⟨rfl, rfl⟩
    · obtain rfl : k = xs.length := by omega
      have e4 : alignedB a xs = true := Hres.out (by have := HS.out; rwa [List.take_length] at this)
      go_wp2
      go_ret
      exact ⟨rfl, rfl⟩

/-- Down, Up -/
def downN (n a : Nat) : Nat := if a = 0 then 0 else n - n % a
def upN (n a : Nat) : Nat := if a = 0 then 0 else if n % a = 0 then n else if n + (a - n % a) < two64 then n + (a - n % a) else 0
def upIs (n a : Nat) : Bool := if a = 0 then false else if n % a = 0 then true else decide (n + (a - n % a) < two64)
theorem downN_div (n a : Nat) : downN n a = if a = 0 then 0 else n / a * a := by
  unfold downN
  have := Nat.div_add_mod n a
  rw [Nat.mul_comm] at this
  split
  · rfl
  · omega
theorem ret_u64 {a b : Int} (h : a = b) : Ending.returned (.int .u64 a) = .returned (.int .u64 b) := by rw [h]

theorem down_any (n a : Nat) (hn : n < two64) (ha : a < two64) (w : World) :
    Calls Try.prog 35 #[.int .u64 (n : Int), .int .u64 (a : Int)] w fun e w' => e = .returned (.int .u64 (downN n a : Nat)) ∧ w = w' := by
  unfold two64 at hn ha
  by_cases h0 : a = 0
  · subst h0
    go_enter Try.func35, Try.ntmps35
    go_wp2
    go_ret
    exact ⟨rfl, rfl⟩
  · have ha0 : ((a : Int) == 0) = false := by simp; omega
    have hle : n % a ≤ n := Nat.mod_le _ _
    have hd : ((downN n a : Nat) : Int) = (n : Int) - (n : Int) % (a : Int) := by
      unfold downN; rw [if_neg h0]; omega
    have Hd := Lib.hid hd
    clear hd
    have hle2 : (n : Int) % (a : Int) ≤ n := by omega
    have hle3 : 0 ≤ (n : Int) % (a : Int) := by omega
    go_enter Try.func35, Try.ntmps35
    go_wp2
    go_ret
    exact ⟨ret_u64 Hd.out.symm, rfl⟩
theorem upN_two (n a : Nat) (h0 : ¬ a = 0) (h1 : ¬ n % a = 0) : upN n a = addSum [n, a - n % a] ∧ upIs n a = addFits [n, a - n % a] := by
  unfold upN upIs addSum addFits
  simp only [if_neg h0, if_neg h1, List.sum_cons, List.sum_nil, Nat.add_zero]
  exact ⟨rfl, rfl⟩

set_option maxHeartbeats 400000 in
theorem up_any (n a : Nat) (hn : n < two64) (ha : a < two64) (w : World) :
    Calls Try.prog 34 #[.int .u64 (n : Int), .int .u64 (a : Int)] w fun e w' => e = .returned (.tuple #[.int .u64 (upN n a : Nat), .bool (upIs n a)]) ∧ Below w.heap.size w w' := by
  have hn' := hn
  have ha' := ha
  unfold two64 at hn ha
  by_cases h0 : a = 0
  · subst h0
    go_enter Try.func34, Try.ntmps34
    go_wp2
    go_ret2
    exact ⟨rfl, Below.refl _ _⟩
  · have ha0 : ((a : Int) == 0) = false := by simp; omega
    by_cases h1 : n % a = 0
    · have hm : ((n : Int) % (a : Int)) = 0 := by omega
      have he : upN n a = n ∧ upIs n a = true := by simp [upN, upIs, h0, h1]
      have He := Lib.hid he
      clear he h1
      go_enter Try.func34, Try.ntmps34
      go_wp2
      go_ret2
      exact ⟨by rw [He.out.1, He.out.2]; rfl, Below.refl _ _⟩
    · have hm : (((n : Int) % (a : Int)) == 0) = false := by simp; omega
      have hlt : n % a < a := Nat.mod_lt _ (by omega)
      have he := upN_two n a h0 h1
      have hr0 : (n : Int) % (a : Int) ≤ a := by omega
      have hr1 : 0 ≤ (n : Int) % (a : Int) := by omega
      have hx : ∀ x ∈ [n, a - n % a], x < two64 := by intro x hx; simp at hx; rcases hx with rfl | rfl <;> omega
      have hc : ((a - n % a : Nat) : Int) = (a : Int) - (n : Int) % (a : Int) := by omega
      have L := add_any [n, a - n % a] hx
      unfold u64A at L
      simp only [List.map_cons, List.map_nil, hc, List.length_cons, List.length_nil] at L
      rw [← he.1, ← he.2] at L
      have HL := Lib.hid L
      clear L he h1 hc hx
      go_enter Try.func34, Try.ntmps34
      go_wp2_with (go_at_call 44; refine (HL.out _ _ _ _ (by unfold maxLen; omega) (lies_new _ _ _ _ _ rfl rfl)).mono ?_; rintro e w' ⟨rfl, rfl⟩)
      go_ret2
      exact ⟨rfl, (Below.refl _ _).alloc (Nat.le_refl _) _⟩

def sumNo (n d : Int) : Bool := decide (18446744073709551615 - d < n)
set_option maxHeartbeats 400000 in
theorem rup_any (n a : Nat) (hn : n < two64) (ha : a < two64) (w : World) :
    Calls Try.prog 23 #[.int .u64 (n : Int), .int .u64 (a : Int)] w fun e w' => e = .returned (.tuple #[.int .u64 (upN n a : Nat), .bool (upIs n a)]) ∧ w = w' := by
  unfold two64 at hn ha
  by_cases h0 : a = 0
  · subst h0
    go_enter Try.func23, Try.ntmps23
    go_wp2
    go_ret2
    exact ⟨rfl, rfl⟩
  · have ha0 : ((a : Int) == 0) = false := by simp; omega
    by_cases h1 : n % a = 0
    · have hm : ((n : Int) % (a : Int)) = 0 := by omega
      have he : upN n a = n ∧ upIs n a = true := by simp [upN, upIs, h0, h1]
      have He := Lib.hid he
      clear he h1
      go_enter Try.func23, Try.ntmps23
      go_wp2
      go_ret2
      exact ⟨by rw [He.out.1, He.out.2]; rfl, rfl⟩
    · have hm : (((n : Int) % (a : Int)) == 0) = false := by simp; omega
      have hlt : n % a < a := Nat.mod_lt _ (by omega)
      have hr0 : (n : Int) % (a : Int) ≤ a := by omega
      have hr1 : 0 ≤ (n : Int) % (a : Int) := by omega
      have hc : ((a - n % a : Nat) : Int) = (a : Int) - (n : Int) % (a : Int) := by omega
      by_cases h2 : n + (a - n % a) < two64
      · have he : upN n a = n + (a - n % a) ∧ upIs n a = true := by simp [upN, upIs, h0, h1, h2]
        unfold two64 at h2
        have h3 : ¬ (18446744073709551615 - ((a : Int) - (n : Int) % (a : Int)) < n) := by omega
        have h4 : (n : Int) + ((a : Int) - (n : Int) % (a : Int)) ≤ 18446744073709551615 := by omega
        have He := Lib.hid he
        have Hc := Lib.hid hc
        clear he h1 hc
        go_enter Try.func23, Try.ntmps23
        go_wp2
        go_ret2
        exact ⟨by rw [He.out.1, He.out.2, Int.natCast_add, Hc.out]; rfl, rfl⟩
      · have he : upN n a = 0 ∧ upIs n a = false := by simp [upN, upIs, h0, h1, h2]
        unfold two64 at h2
        have h3 : (18446744073709551615 - ((a : Int) - (n : Int) % (a : Int)) < n) := by omega
        have He := Lib.hid he
        clear he h1 hc
        go_enter Try.func23, Try.ntmps23
        go_wp2
        go_ret2
        exact ⟨by rw [He.out.1, He.out.2]; rfl, rfl⟩
end Go.Proofs.Ytmhhckpdhjnmeaa
