/- The calls on one span or two: the program's and the reference's. -/
import Derived.Test.YtgnihceefpijiaaSpans
import Derived.Test.YtgnihceefpijiaaMa
import Derived.Test.YtgnihceefpijiaaProg
import Derived.Deep.RegionWith
namespace Go.Proofs.Ytgnihceefpijiaa
open Go.RowKit

abbrev spv (x : Sp) : Value := .agg #[.int .u64 (x.1 : Int), .int .u64 (x.2 : Int)]
abbrev spo (a b : Nat) : Obj := .cells #[.int .u64 (a : Int), .int .u64 (b : Int)] 49
theorem wrap_sub1 {b : Nat} (h : 0 < b) (h2 : b < 18446744073709551616) : IntKind.u64.wrap ((b : Int) - 1) = (b : Int) - 1 := by simp [IntKind.wrap, IntKind.bits, IntKind.signed]; omega
theorem wrap_top {a : Nat} (h : a < 18446744073709551616) : IntKind.u64.wrap (18446744073709551615 - (a : Int)) = 18446744073709551615 - (a : Int) := by simp [IntKind.wrap, IntKind.bits, IntKind.signed]; omega

set_option maxHeartbeats 400000 in
theorem good_any (a b : Nat) (hx : fit (a, b)) (w : World) :
    Calls Try.prog 36 #[.agg #[.int .u64 (a : Int), .int .u64 (b : Int)]] w fun e w' => e = .returned (.bool (good (a, b))) ∧ w' = w.alloc (spo a b) := by
  have Hx := Lib.hid hx
  obtain ⟨h1, h2⟩ := hx
  simp only at h1 h2
  by_cases h : 0 < b
  · have h' : (0 : Int) < b := by omega
    have e1 := wrap_sub1 h h2
    have e2 := wrap_top h1
    by_cases h3 : (b : Int) - 1 ≤ 18446744073709551615 - a
    · have e3 : good (a, b) = true := (good_iff _).2 ⟨h, by simp only; omega⟩
      rw [e3]
      clear h h1 h2
      go_enter Try.func36, Try.ntmps36
      go_wp2
      go_ret
      exact ⟨rfl, rfl⟩
    · have e3 : good (a, b) = false := by rw [← Bool.not_eq_true, good_iff]; simp only; omega
      rw [e3]
      clear h h1 h2
      go_enter Try.func36, Try.ntmps36
      go_wp2
      go_ret
      exact ⟨rfl, rfl⟩
  · obtain rfl : b = 0 := by omega
    have e3 : good (a, 0) = false := by simp [good]
    rw [e3]
    go_enter Try.func36, Try.ntmps36
    go_wp2
    go_ret
    exact ⟨rfl, rfl⟩
set_option maxHeartbeats 400000 in
theorem last_any (a b : Nat) (hx : fit (a, b)) (w : World) :
    Calls Try.prog 41 #[.agg #[.int .u64 (a : Int), .int .u64 (b : Int)]] w fun e w' => e = .returned (.int .u64 (last (a, b) : Nat)) ∧ w' = (w.alloc (spo a b)).alloc (spo a b) := by
  have Hx := Lib.hid hx
  obtain ⟨h1, h2⟩ := hx
  simp only at h1 h2
  by_cases h : good (a, b) = true
  · have hg := (good_iff _).1 h
    have hl := last_good h
    simp only at hg hl
    have e1 := wrap_sub1 hg.1 h2
    have e2 : IntKind.u64.wrap ((a : Int) + ((b : Int) - 1)) = (last (a, b) : Nat) := by simp [IntKind.wrap, IntKind.bits, IntKind.signed]; omega
    clear h1 h2 hg hl
    go_enter Try.func41, Try.ntmps41
    go_wp2_with (go_at_call 36; refine (good_any a b Hx.out _).mono ?_; rintro e w1 ⟨rfl, rfl⟩)
    go_ret
    exact ⟨rfl, rfl⟩
  · have h' : good (a, b) = false := by simpa using h
    have e2 : last (a, b) = 0 := last_bad h'
    rw [e2]
    clear h h1 h2
    go_enter Try.func41, Try.ntmps41
    go_wp2_with (go_at_call 36; refine (good_any a b Hx.out _).mono ?_; rintro e w1 ⟨rfl, rfl⟩)
    go_ret
    exact ⟨rfl, rfl⟩
set_option maxHeartbeats 400000 in
theorem rgood_any (a b : Nat) (hx : fit (a, b)) (w : World) :
    Calls Try.prog 27 #[.agg #[.int .u64 (a : Int), .int .u64 (b : Int)]] w fun e w' => e = .returned (.bool (good (a, b))) ∧ w' = w.alloc (spo a b) := by
  obtain ⟨h1, h2⟩ := hx
  simp only at h1 h2
  by_cases h : 0 < b
  · have h' : (0 : Int) < b := by omega
    have e1 := wrap_sub1 h h2
    have e2 : IntKind.u64.wrap (18446744073709551615 - ((b : Int) - 1)) = 18446744073709551615 - ((b : Int) - 1) := by simp [IntKind.wrap, IntKind.bits, IntKind.signed]; omega
    by_cases h3 : (a : Int) ≤ 18446744073709551615 - ((b : Int) - 1)
    · have e3 : good (a, b) = true := (good_iff _).2 ⟨h, by simp only; omega⟩
      rw [e3]
      clear h h1 h2
      go_enter Try.func27, Try.ntmps27
      go_wp2
      go_ret
      exact ⟨rfl, rfl⟩
    · have e3 : good (a, b) = false := by rw [← Bool.not_eq_true, good_iff]; simp only; omega
      rw [e3]
      clear h h1 h2
      go_enter Try.func27, Try.ntmps27
      go_wp2
      go_ret
      exact ⟨rfl, rfl⟩
  · obtain rfl : b = 0 := by omega
    have e3 : good (a, 0) = false := by simp [good]
    rw [e3]
    go_enter Try.func27, Try.ntmps27
    go_wp2
    go_ret
    exact ⟨rfl, rfl⟩
set_option maxHeartbeats 400000 in
theorem rlast_any (a b : Nat) (hx : fit (a, b)) (w : World) :
    Calls Try.prog 40 #[.agg #[.int .u64 (a : Int), .int .u64 (b : Int)]] w fun e w' => e = .returned (.int .u64 (last (a, b) : Nat)) ∧ w' = (w.alloc (spo a b)).alloc (spo a b) := by
  have Hx := Lib.hid hx
  obtain ⟨h1, h2⟩ := hx
  simp only at h1 h2
  by_cases h : good (a, b) = true
  · have hg := (good_iff _).1 h
    have hl := last_good h
    simp only at hg hl
    have e1 := wrap_sub1 hg.1 h2
    have e2 : IntKind.u64.wrap ((a : Int) + ((b : Int) - 1)) = (last (a, b) : Nat) := by simp [IntKind.wrap, IntKind.bits, IntKind.signed]; omega
    clear h1 h2 hg hl
    go_enter Try.func40, Try.ntmps40
    go_wp2_with (go_at_call 27; refine (rgood_any a b Hx.out _).mono ?_; rintro e w1 ⟨rfl, rfl⟩)
    go_ret
    exact ⟨rfl, rfl⟩
  · have h' : good (a, b) = false := by simpa using h
    have e2 : last (a, b) = 0 := last_bad h'
    rw [e2]
    clear h h1 h2
    go_enter Try.func40, Try.ntmps40
    go_wp2_with (go_at_call 27; refine (rgood_any a b Hx.out _).mono ?_; rintro e w1 ⟨rfl, rfl⟩)
    go_ret
    exact ⟨rfl, rfl⟩

/-- The boxes that a call lays. -/
def Laid (w w' : World) : Prop := ∃ os : List Obj, w' = os.foldl World.alloc w
theorem Laid.below {w w' : World} (h : Laid w w') : Below w.heap.size w w' := by
  obtain ⟨os, rfl⟩ := h
  have : ∀ (os : List Obj) (a : World), Below w.heap.size w a → Below w.heap.size w (os.foldl World.alloc a) := by
    intro os
    induction os with
    | nil => intro a h; exact h
    | cons o os ih => intro a h; exact ih _ (h.alloc h.size o)
  exact this os w (Below.refl _ _)

set_option maxHeartbeats 400000 in
theorem has_any (a b p : Nat) (hx : fit (a, b)) (w : World) :
    Calls Try.prog 29 #[.agg #[.int .u64 (a : Int), .int .u64 (b : Int)], .int .u64 (p : Int)] w fun e w' => e = .returned (.bool (has (a, b) p)) ∧ Below w.heap.size w w' := by
  have Hx := Lib.hid hx
  by_cases h : good (a, b) = true
  · have hg := (good_iff _).1 h
    have hl := last_good h
    simp only at hg hl
    by_cases h1 : a ≤ p
    · by_cases h2 : p ≤ last (a, b)
      · have e : has (a, b) p = true := (has_iff _ _).2 ⟨h, by simp only; omega, by simp only; omega⟩
        rw [e]
        clear hg hl
        go_enter Try.func29, Try.ntmps29
        go_wp2_with (first
          | (go_at_call 36; refine (good_any a b Hx.out _).mono ?_; rintro e w1 ⟨rfl, rfl⟩)
          | (go_at_call 41; refine (last_any a b Hx.out _).mono ?_; rintro e w1 ⟨rfl, rfl⟩))
        go_ret
        exact ⟨rfl, Laid.below ⟨[_, _, _, _], rfl⟩⟩
      · have e : has (a, b) p = false := by rw [← Bool.not_eq_true, has_iff]; simp only; omega
        rw [e]
        clear hg hl
        go_enter Try.func29, Try.ntmps29
        go_wp2_with (first
          | (go_at_call 36; refine (good_any a b Hx.out _).mono ?_; rintro e w1 ⟨rfl, rfl⟩)
          | (go_at_call 41; refine (last_any a b Hx.out _).mono ?_; rintro e w1 ⟨rfl, rfl⟩))
        go_ret
        exact ⟨rfl, Laid.below ⟨[_, _, _, _], rfl⟩⟩
    · have e : has (a, b) p = false := by rw [← Bool.not_eq_true, has_iff]; simp only; omega
      rw [e]
      clear hg hl
      go_enter Try.func29, Try.ntmps29
      go_wp2_with (go_at_call 36; refine (good_any a b Hx.out _).mono ?_; rintro e w1 ⟨rfl, rfl⟩)
      go_ret
      exact ⟨rfl, Laid.below ⟨[_, _], rfl⟩⟩
  · have h' : good (a, b) = false := by simpa using h
    have e : has (a, b) p = false := by simp [has, h']
    rw [e]
    go_enter Try.func29, Try.ntmps29
    go_wp2_with (go_at_call 36; refine (good_any a b Hx.out _).mono ?_; rintro e w1 ⟨rfl, rfl⟩)
    go_ret
    exact ⟨rfl, Laid.below ⟨[_, _], rfl⟩⟩
set_option maxHeartbeats 400000 in
theorem rhas_any (a b p : Nat) (hx : fit (a, b)) (hp : p < 18446744073709551616) (w : World) :
    Calls Try.prog 21 #[.agg #[.int .u64 (a : Int), .int .u64 (b : Int)], .int .u64 (p : Int)] w fun e w' => e = .returned (.bool (has (a, b) p)) ∧ Below w.heap.size w w' := by
  have Hx := Lib.hid hx
  by_cases h : good (a, b) = true
  · have hg := (good_iff _).1 h
    simp only at hg
    by_cases h1 : a ≤ p
    · have e1 : IntKind.u64.wrap ((p : Int) - a) = (p - a : Nat) := by simp [IntKind.wrap, IntKind.bits, IntKind.signed]; omega
      by_cases h2 : p - a < b
      · have e : has (a, b) p = true := (has_iff _ _).2 ⟨h, by simp only; omega, by simp only; omega⟩
        rw [e]
        clear hg
        go_enter Try.func21, Try.ntmps21
        go_wp2_with (go_at_call 27; refine (rgood_any a b Hx.out _).mono ?_; rintro e w1 ⟨rfl, rfl⟩)
        go_ret
        exact ⟨rfl, Laid.below ⟨[_, _], rfl⟩⟩
      · have e : has (a, b) p = false := by rw [← Bool.not_eq_true, has_iff]; simp only; omega
        rw [e]
        clear hg
        go_enter Try.func21, Try.ntmps21
        go_wp2_with (go_at_call 27; refine (rgood_any a b Hx.out _).mono ?_; rintro e w1 ⟨rfl, rfl⟩)
        go_ret
        exact ⟨rfl, Laid.below ⟨[_, _], rfl⟩⟩
    · have e : has (a, b) p = false := by rw [← Bool.not_eq_true, has_iff]; simp only; omega
      rw [e]
      clear hg
      go_enter Try.func21, Try.ntmps21
      go_wp2_with (go_at_call 27; refine (rgood_any a b Hx.out _).mono ?_; rintro e w1 ⟨rfl, rfl⟩)
      go_ret
      exact ⟨rfl, Laid.below ⟨[_, _], rfl⟩⟩
  · have h' : good (a, b) = false := by simpa using h
    have e : has (a, b) p = false := by simp [has, h']
    rw [e]
    go_enter Try.func21, Try.ntmps21
    go_wp2_with (go_at_call 27; refine (rgood_any a b Hx.out _).mono ?_; rintro e w1 ⟨rfl, rfl⟩)
    go_ret
    exact ⟨rfl, Laid.below ⟨[_, _], rfl⟩⟩

theorem good_bel (a b : Nat) (hx : fit (a, b)) (w : World) :
    Calls Try.prog 36 #[.agg #[.int .u64 (a : Int), .int .u64 (b : Int)]] w fun e w' => e = .returned (.bool (good (a, b))) ∧ Below w.heap.size w w' :=
  (good_any a b hx w).mono fun _ _ ⟨h1, h2⟩ => ⟨h1, Laid.below ⟨[_], h2⟩⟩
theorem last_bel (a b : Nat) (hx : fit (a, b)) (w : World) :
    Calls Try.prog 41 #[.agg #[.int .u64 (a : Int), .int .u64 (b : Int)]] w fun e w' => e = .returned (.int .u64 (last (a, b) : Nat)) ∧ Below w.heap.size w w' :=
  (last_any a b hx w).mono fun _ _ ⟨h1, h2⟩ => ⟨h1, Laid.below ⟨[_, _], h2⟩⟩
theorem rgood_bel (a b : Nat) (hx : fit (a, b)) (w : World) :
    Calls Try.prog 27 #[.agg #[.int .u64 (a : Int), .int .u64 (b : Int)]] w fun e w' => e = .returned (.bool (good (a, b))) ∧ Below w.heap.size w w' :=
  (rgood_any a b hx w).mono fun _ _ ⟨h1, h2⟩ => ⟨h1, Laid.below ⟨[_], h2⟩⟩
theorem rlast_bel (a b : Nat) (hx : fit (a, b)) (w : World) :
    Calls Try.prog 40 #[.agg #[.int .u64 (a : Int), .int .u64 (b : Int)]] w fun e w' => e = .returned (.int .u64 (last (a, b) : Nat)) ∧ Below w.heap.size w w' :=
  (rlast_any a b hx w).mono fun _ _ ⟨h1, h2⟩ => ⟨h1, Laid.below ⟨[_, _], h2⟩⟩
/-- The two boxes of a call on two spans, behind a call that leaves what was there. -/
theorem keep4 {w W W1 : World} {p q r s : Addr} {x y z u : Value} (hd : Below W.heap.size W W1)
    (h : Below w.heap.size w W ∧ W.cell? p = some x ∧ W.cell? q = some y ∧ W.cell? r = some z ∧ W.cell? s = some u) :
    Below w.heap.size w W1 ∧ W1.cell? p = some x ∧ W1.cell? q = some y ∧ W1.cell? r = some z ∧ W1.cell? s = some u := by
  obtain ⟨h0, h1, h2, h3, h4⟩ := h
  exact ⟨h0.trans (hd.mono h0.size), (hd.cell (World.block_lt_of_cell? W p h1)).trans h1, (hd.cell (World.block_lt_of_cell? W q h2)).trans h2, (hd.cell (World.block_lt_of_cell? W r h3)).trans h3, (hd.cell (World.block_lt_of_cell? W s h4)).trans h4⟩
theorem keep4_start (w : World) (a b c d : Nat) (W : World) (hW : W = ((w.alloc (spo a b)).alloc (spo c d)).drew) :
    Below w.heap.size w W ∧ W.cell? ⟨w.heap.size, 0, none⟩ = some (.int .u64 (a : Int)) ∧ W.cell? ⟨w.heap.size, 1, none⟩ = some (.int .u64 (b : Int)) ∧
      W.cell? ⟨w.heap.size + 1, 0, none⟩ = some (.int .u64 (c : Int)) ∧ W.cell? ⟨w.heap.size + 1, 1, none⟩ = some (.int .u64 (d : Int)) := by
  subst hW
  refine ⟨(Laid.below ⟨[_, _], rfl⟩).drew, ?_, ?_, ?_, ?_⟩ <;> simp
end Go.Proofs.Ytgnihceefpijiaa
