/- The program's store: what is asked of it; a cut that strikes. -/
import Derived.Test.YtpeebdhbcglibaaNc
namespace Go.Proofs.Ytpeebdhbcglibaa
open Go.RowKit

/-- The program's store. -/
structure NC (w : World) (G : Nat → Prop) (p : Nat) (s : St) (v : Value) (A : Option Addr) (c : Nat) : Prop where
  lay : Lay w G p s v A c
  blk : Blk w p 66 #[.bool s.on, .int .i64 (s.cnt : Int), v, .slice A s.cs.length c, .bool true]
section
variable {w w' : World} {G : Nat → Prop} {p c : Nat} {s : St} {v : Value} {A : Option Addr}
theorem NC.under (h : NC w G p s v A c) (k : Below w.heap.size w w') : NC w' G p s v A c := ⟨h.lay.under k, h.blk.under k⟩
theorem NC.turn {G' : Nat → Prop} (h : NC w G p s v A c) (k : Turn G' w w') (hd : ∀ i, G i → ¬ G' i) (hn : ∀ a, A = some a → s.cs.length ≠ 0 → ¬ G' a.block) : NC w' G p s v A c :=
  ⟨h.lay.turn k hd hn, h.blk.turn k (hd p h.lay.gp)⟩
theorem len_any (h : NC w G p s v A c) : Calls Try.prog 31 #[.pointer (some ⟨p, 0, none⟩)] w fun e w' => e = .returned (.int .i64 (s.ws.length : Int)) ∧ w = w' := by
  obtain ⟨B, d, rfl, _, _⟩ := h.lay.form
  have c2 := h.blk.cellAt 2 rfl
  clear h
  go_enter Try.func31, Try.ntmps31
  go_wp2_with (go_at_call 32; refine (held_any _ _).mono ?_; rintro e w1 ⟨rfl, rfl⟩)
  go_ret
  exact ⟨rfl, rfl⟩
theorem dead_any (h : NC w G p s v A c) : Calls Try.prog 51 #[.pointer (some ⟨p, 0, none⟩)] w fun e w' => e = .returned (.bool (!s.on)) ∧ w = w' := by
  have c0 := h.blk.cellAt 0 rfl
  clear h
  go_enter Try.func51, Try.ntmps51
  go_wp2_with (first
    | (go_at_call 32; refine (held_any _ _).mono ?_; rintro e w1 ⟨rfl, rfl⟩)
    | (go_at_call 60; refine (powered_any _ _ _ c0).mono ?_; rintro e w1 ⟨rfl, rfl⟩))
  go_ret
  exact ⟨rfl, rfl⟩
theorem writes_any (h : NC w G p s v A c) : Calls Try.prog 22 #[.pointer (some ⟨p, 0, none⟩)] w fun e w' => e = .returned (.int .i64 (s.cnt : Int)) ∧ w = w' := by
  have c1 := h.blk.cellAt 1 rfl
  clear h
  go_enter Try.func22, Try.ntmps22
  go_wp2_with (first
    | (go_at_call 32; refine (held_any _ _).mono ?_; rintro e w1 ⟨rfl, rfl⟩)
    | (go_at_call 37; refine (counted_any _ _ _ c1).mono ?_; rintro e w1 ⟨rfl, rfl⟩))
  go_ret
  exact ⟨rfl, rfl⟩
theorem has_any (h : NC w G p s v A c) (i : Int) : Calls Try.prog 52 #[.pointer (some ⟨p, 0, none⟩), .int .i64 i] w fun e w' => e = .returned (.bool (decide (0 ≤ i ∧ i < (s.ws.length : Int)))) ∧ w = w' := by
  have HL := Lib.hid (len_any h)
  clear h
  by_cases h0 : 0 ≤ i
  · by_cases h1 : i < (s.ws.length : Int)
    · rw [decide_eq_true (⟨h0, h1⟩ : 0 ≤ i ∧ i < (s.ws.length : Int))]
      go_enter Try.func52, Try.ntmps52
      go_wp2_with (go_at_call 31; refine HL.out.mono ?_; rintro e w1 ⟨rfl, rfl⟩)
      go_ret
      exact ⟨rfl, rfl⟩
    · rw [decide_eq_false (fun hh : 0 ≤ i ∧ i < (s.ws.length : Int) => h1 hh.2)]
      go_enter Try.func52, Try.ntmps52
      go_wp2_with (go_at_call 31; refine HL.out.mono ?_; rintro e w1 ⟨rfl, rfl⟩)
      go_ret
      refine ⟨?_, rfl⟩
      show Ending.returned (Value.bool (decide (i < (s.ws.length : Int)))) = _
      rw [decide_eq_false (Int.not_lt.2 h1)]
  · rw [decide_eq_false (fun hh : 0 ≤ i ∧ i < (s.ws.length : Int) => h0 hh.1)]
    go_enter Try.func52, Try.ntmps52
    go_wp2
    go_ret
    exact ⟨rfl, rfl⟩
end
end Go.Proofs.Ytpeebdhbcglibaa
