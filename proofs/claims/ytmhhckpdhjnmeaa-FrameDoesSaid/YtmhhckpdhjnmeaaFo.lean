/- frame.Pool: Run, Alloc. -/
import Derived.Test.YtmhhckpdhjnmeaaFt
namespace Go.Proofs.Ytmhhckpdhjnmeaa
open Go.RowKit

theorem al_page (a : Nat) (ha : a < TT) (w : World) (d : Nat) :
    Calls Try.prog 25 #[.int .u64 4096, .slice (some ⟨w.heap.size, 0, none⟩) 1 d] (w.alloc (.cells #[.int .u64 (a : Int)] 22)) fun e w' =>
      e = .returned (.bool (decide (a % 4096 = 0))) ∧ w.alloc (.cells #[.int .u64 (a : Int)] 22) = w' := by
  have hl : Lies (w.alloc (.cells #[.int .u64 (a : Int)] 22)) (w.heap.size + 1) 1 (some ⟨w.heap.size, 0, none⟩) [a].length (u64A [a]) := ⟨rfl, fun _ => ⟨_, rfl, Nat.lt_succ_self _, fun j hj => by
    have : j = 0 := by simpa [u64A] using hj
    subst this
    simp [Addr.add, u64A]⟩⟩
  have := aligned_pos 4096 (by decide) [a] (by intro x hx; simp at hx; subst hx; exact ha) (some ⟨w.heap.size, 0, none⟩) d _ _ (by unfold maxLen; simp) hl
  have e : alignedB 4096 [a] = decide (a % 4096 = 0) := by simp [alignedB]
  rw [e] at this
  exact this
theorem ask_no {n : Int} {a : Nat} (h : n < 1 ∨ 4096 < n ∨ a = 0 ∨ ¬ a % 4096 = 0) : askOk n a = false := by
  rw [← Bool.not_eq_true, askOk_iff]
  omega
/-- How Run ends where it may not be. -/
def RunBad (P : Value) (n : Int) (a : Nat) (w : World) : Prop := Calls Try.prog 11 #[P, .int .i64 n, .int .u64 (a : Int)] w fun e w' => e = .returned (.tuple #[.int .u64 0, .int .i64 1]) ∧ Below w.heap.size w w'
set_option maxRecDepth 100000 in
set_option maxHeartbeats 1000000 in
theorem run_bad (ptr : Option Addr) (n : Int) (a : Nat) (ha : a < TT) (h : askOk n a = false) (w : World) : RunBad (.pointer ptr) n a w := by
  have HAL := Lib.hid (fun X d => al_page a ha X d)
  unfold RunBad
  by_cases h1 : n < 1
  · clear h ha
    go_enter Try.func11, Try.ntmps11
    go_wp2
    go_ret2
    exact ⟨rfl, Below.refl _ _⟩
  by_cases h2 : 4096 < n
  · clear h ha
    go_enter Try.func11, Try.ntmps11
    go_wp2
    go_ret2
    exact ⟨rfl, Below.refl _ _⟩
  by_cases h3 : a = 0
  · subst h3
    clear h ha
    go_enter Try.func11, Try.ntmps11
    go_wp2
    go_ret2
    exact ⟨rfl, Below.refl _ _⟩
  have h4 : decide (a % 4096 = 0) = false := decide_eq_false fun h4 => by
    rw [← Bool.not_eq_true, askOk_iff] at h
    exact h ⟨by omega, by omega, h3, h4⟩
  rw [h4] at HAL
  have h0 : ((a : Int) == 0) = false := by simp; omega
  clear h ha h4 h3
  go_enter Try.func11, Try.ntmps11
  go_wp2_with (go_at_call 25; refine (HAL.out _ _).mono ?_; rintro e w1 ⟨rfl, rfl⟩)
  go_ret2
  exact ⟨rfl, below_alloc1 _ _⟩
set_option maxRecDepth 100000 in
set_option maxHeartbeats 1000000 in
/-- Run, where it may be: held and take in a row. -/
theorem run_ok (ptr : Option Addr) (n a : Nat) (hn : 1 ≤ n) (hn2 : n ≤ 4096) (ha : a < TT) (ha0 : a ≠ 0) (ha4 : a % 4096 = 0) (w : World) (R : World → Nat → Prop) (Q : Ending → World → Prop)
    (hheld : ∀ X, Below w.heap.size w X → Calls Try.prog 26 #[.pointer ptr] X fun e w' => ∃ p, e = .returned (.pointer (some ⟨p, 0, none⟩)) ∧ R w' p)
    (htake : ∀ X p, R X p → Calls Try.prog 27 #[.pointer (some ⟨p, 0, none⟩), .int .u64 ((n * 4096 : Nat) : Int), .int .u64 (a : Int)] X fun e w' => ∃ x y : Int, e = .returned (.tuple #[.int .u64 x, .int .i64 y]) ∧ Q (.returned (.tuple #[.int .u64 x, .int .i64 y])) w') :
    Calls Try.prog 11 #[.pointer ptr, .int .i64 (n : Int), .int .u64 (a : Int)] w Q := by
  have HAL := Lib.hid (fun X d => al_page a ha X d)
  rw [decide_eq_true ha4] at HAL
  have h0 : ((a : Int) == 0) = false := by simp; omega
  have h1 : ¬ ((n : Int) < 1) := by omega
  have h2 : ¬ ((4096 : Int) < (n : Int)) := by omega
  obtain ⟨N, hN⟩ : ∃ N, N = n * 4096 := ⟨_, rfl⟩
  rw [← hN] at htake
  have hw1 : IntKind.u64.wrap (n : Int) = (n : Int) := by simp [IntKind.wrap, IntKind.bits, IntKind.signed]; omega
  have hw2 : IntKind.u64.wrap ((n : Int) * 4096) = (N : Int) := by simp [IntKind.wrap, IntKind.bits, IntKind.signed]; omega
  have HH := Lib.hid hheld
  have HT := Lib.hid htake
  have hb : Below w.heap.size w (w.alloc (.cells #[.int .u64 (a : Int)] 22)) := below_alloc1 _ _
  have HB := Lib.hid hb
  clear hheld htake ha ha0 ha4 hN hn hn2 hb
  go_enter Try.func11, Try.ntmps11
  go_wp2_with (first
    | (go_at_call 25; refine (HAL.out _ _).mono ?_; rintro e w1 ⟨rfl, rfl⟩)
    | (go_at_call 26; refine (HH.out _ HB.out).mono ?_; rintro e w2 ⟨p, rfl, hr⟩; have HR := Lib.hid hr; clear hr)
    | (go_at_call 27; refine (HT.out _ _ HR.out).mono ?_; rintro e w3 ⟨x, y, rfl, hq⟩; have HQ := Lib.hid hq; clear hq))
  exact HQ.out
theorem run_any {w : World} {p : Nat} {v : Value} {b : Sp} {L : List Sp} (hP : PC w p v b L) (hF : Fr b L) (hl : L.length ≤ 100000) (n : Int) (a : Nat) (ha : a < TT) :
    Calls Try.prog 11 #[.pointer (some ⟨p, 0, none⟩), .int .i64 n, .int .u64 (a : Int)] w fun e w' =>
      ∃ u, e = .returned (.tuple #[.int .u64 (runV L n a : Nat), .int .i64 (runE L n a : Nat)]) ∧ PC w' p u b (runL L n a) ∧ Turn (FpC p v) w w' ∧ ∀ k, u.ownBlock = some k → v.ownBlock = some k ∨ w.heap.size ≤ k := by
  cases hk : askOk n a with
  | false =>
    refine (run_bad (some ⟨p, 0, none⟩) n a ha hk w).mono ?_
    rintro e w' ⟨rfl, hd⟩
    unfold runV runE runL
    rw [hk]
    exact ⟨v, rfl, hP.under hd, Turn.of_below hd, fun k h => .inl h⟩
  | true =>
    obtain ⟨h1, h2, h3, h4⟩ := askOk_iff.1 hk
    obtain ⟨m, rfl⟩ := Int.eq_ofNat_of_zero_le (show 0 ≤ n by omega)
    have ht : (m : Int).toNat = m := rfl
    unfold runV runE runL
    rw [hk, ht]
    simp only [if_true]
    refine run_ok (some ⟨p, 0, none⟩) m a (by omega) (by omega) ha h3 h4 w (fun X q => q = p ∧ Below w.heap.size w X) _ (fun X hX => (held_any p X).mono ?_) ?_
    · rintro e w' ⟨rfl, rfl⟩
      exact ⟨p, rfl, rfl, hX⟩
    · rintro X q ⟨rfl, hX⟩
      refine (take_any (hP.under hX) hF hl (m * 4096) a (by omega) (by unfold TT; omega) (by omega) ha).mono ?_
      rintro e w' ⟨u, rfl, h5, h6, h7⟩
      exact ⟨_, _, rfl, u, rfl, h5, (Turn.of_below hX).andThen h6, fun k hk => (h7 k hk).imp id fun h => Nat.le_trans hX.size h⟩
theorem fr_none : Fr (0, 0) [] := ⟨trivial, fun _ h => (by cases h), fun p h => absurd h (mem_nil p), ⟨rfl, rfl, by decide, by decide, by decide⟩⟩
theorem run_nil (n : Int) (a : Nat) (ha : a < TT) (w : World) :
    Calls Try.prog 11 #[.pointer none, .int .i64 n, .int .u64 (a : Int)] w fun e w' => ∃ x : Int, e = .returned (.tuple #[.int .u64 x, .int .i64 (if askOk n a = true then 110 else 1 : Nat)]) ∧ Below w.heap.size w w' := by
  cases hk : askOk n a with
  | false =>
    refine (run_bad none n a ha hk w).mono ?_
    rintro e w' ⟨rfl, hd⟩
    exact ⟨0, rfl, hd⟩
  | true =>
    obtain ⟨h1, h2, h3, h4⟩ := askOk_iff.1 hk
    obtain ⟨m, rfl⟩ := Int.eq_ofNat_of_zero_le (show 0 ≤ n by omega)
    refine run_ok none m a (by omega) (by omega) ha h3 h4 w (fun X q => w.heap.size ≤ q ∧ PC X q (.slice none 0 0) (0, 0) [] ∧ Below w.heap.size w X) _ (fun X hX => (held_nil X).mono ?_) ?_
    · rintro e w' ⟨rfl, h5, h6⟩
      exact ⟨X.heap.size, rfl, hX.size, h5, hX.trans (h6.mono hX.size)⟩
    · rintro X q ⟨hq, hp, hX⟩
      refine (take_any hp fr_none (by simp) (m * 4096) a (by omega) (by unfold TT; omega) (by omega) ha).mono ?_
      rintro e w' ⟨u, rfl, h5, h6, h7⟩
      refine ⟨_, _, rfl, _, rfl, hX.trans (h6.below (fun i hi => ?_) hX.size)⟩
      rcases hi with rfl | hi
      · exact hq
      · simp [Value.ownBlock] at hi
set_option maxRecDepth 100000 in
theorem alloc_any {w : World} {p : Nat} {v : Value} {b : Sp} {L : List Sp} (hP : PC w p v b L) (hF : Fr b L) (hl : L.length ≤ 100000) :
    Calls Try.prog 19 #[.pointer (some ⟨p, 0, none⟩)] w fun e w' =>
      ∃ u, e = .returned (.tuple #[.int .u64 (runV L 1 4096 : Nat), .int .i64 (runE L 1 4096 : Nat)]) ∧ PC w' p u b (runL L 1 4096) ∧ Turn (FpC p v) w w' ∧ ∀ k, u.ownBlock = some k → v.ownBlock = some k ∨ w.heap.size ≤ k := by
  have HR := Lib.hid (run_any hP hF hl 1 4096 (by decide))
  generalize runV L 1 4096 = x at HR ⊢
  generalize runE L 1 4096 = y at HR ⊢
  clear hP hF hl
  go_enter Try.func19, Try.ntmps19
  go_wp2_with (go_at_call 11; refine HR.out.mono ?_; rintro e w1 ⟨u, rfl, hq⟩; have HQ := Lib.hid hq; clear hq)
  go_ret2
  exact ⟨u, rfl, HQ.out⟩
end Go.Proofs.Ytmhhckpdhjnmeaa
