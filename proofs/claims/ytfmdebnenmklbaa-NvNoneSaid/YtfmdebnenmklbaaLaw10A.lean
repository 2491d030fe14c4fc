/- The walk of NvNone. -/
import Derived.Test.YtfmdebnenmklbaaAwake10
namespace Go.Proofs.Ytfmdebnenmklbaa
open Go.RowKit

/-- A store of a zero value. -/
def zst : Obj := .cells #[.bool false, .int .i64 0, .slice none 0 0, .slice none 0 0, .bool false] 53
theorem held_nil (w : World) : Calls Try.prog 27 #[.pointer none] w fun e w' => e = .returned (.pointer (some ⟨w.heap.size, 0, none⟩)) ∧ w' = w.alloc zst := by
  go_enter Try.func27, Try.ntmps27
  go_wp2
  go_ret
  exact ⟨rfl, rfl⟩
/-- What a callee may read of it. -/
theorem held_nil' (w : World) : Calls Try.prog 27 #[.pointer none] w fun e w' => ∃ g, e = .returned (.pointer (some ⟨g, 0, none⟩)) ∧ w'.cell? ⟨g, 0, none⟩ = some (.bool false) ∧ w'.cell? ⟨g, 1, none⟩ = some (.int .i64 0) ∧ w'.cell? ⟨g, 2, none⟩ = some (.slice none 0 0) ∧ w'.cell? ⟨g, 4, none⟩ = some (.bool false) ∧ Below w.heap.size w w' := by
  refine (held_nil w).mono ?_
  rintro e w' ⟨rfl, rfl⟩
  have h : Blk (w.alloc zst) w.heap.size 53 _ := Blk.new w _ _ rfl
  exact ⟨_, rfl, h.cellAt 0 rfl, h.cellAt 1 rfl, h.cellAt 2 rfl, h.cellAt 4 rfl, (Below.refl _ _).alloc (Nat.le_refl _) _⟩
theorem len_nil (w : World) : Calls Try.prog 16 #[.pointer none] w fun e w' => e = .returned (.int .i64 0) ∧ Below w.heap.size w w' := by
  go_enter Try.func16, Try.ntmps16
  go_wp2_with (go_at_call 27; refine (held_nil' _).mono ?_; rintro e w1 ⟨g, rfl, c0, c1, c2, c4, hd⟩; have HD := Lib.hid hd; clear hd)
  go_ret
  exact ⟨rfl, HD.out⟩
theorem dead_nil (w : World) : Calls Try.prog 15 #[.pointer none] w fun e w' => e = .returned (.bool true) ∧ Below w.heap.size w w' := by
  go_enter Try.func15, Try.ntmps15
  go_wp2_with (first
    | (go_at_call 27; refine (held_nil' _).mono ?_; rintro e w1 ⟨g, rfl, c0, c1, c2, c4, hd⟩; have HD := Lib.hid hd; clear hd)
    | (go_at_call 29; refine (powered_any _ _ _ c0).mono ?_; rintro e w2 ⟨rfl, rfl⟩))
  go_ret
  exact ⟨rfl, HD.out⟩
theorem writes_nil (w : World) : Calls Try.prog 14 #[.pointer none] w fun e w' => e = .returned (.int .i64 0) ∧ Below w.heap.size w w' := by
  go_enter Try.func14, Try.ntmps14
  go_wp2_with (first
    | (go_at_call 27; refine (held_nil' _).mono ?_; rintro e w1 ⟨g, rfl, c0, c1, c2, c4, hd⟩; have HD := Lib.hid hd; clear hd)
    | (go_at_call 28; refine (counted_any _ 0 _ c1).mono ?_; rintro e w2 ⟨rfl, rfl⟩))
  go_ret
  exact ⟨rfl, HD.out⟩
theorem has_nil (i : Int) (w : World) : Calls Try.prog 22 #[.pointer none, .int .i64 i] w fun e w' => e = .returned (.bool false) ∧ Below w.heap.size w w' := by
  by_cases h0 : 0 ≤ i
  · have h1 : ¬ i < 0 := by omega
    go_enter Try.func22, Try.ntmps22
    go_wp2_with (go_at_call 16; refine (len_nil _).mono ?_; rintro e w1 ⟨rfl, hd⟩; have HD := Lib.hid hd; clear hd)
    go_ret
    exact ⟨by rw [decide_eq_false (Int.not_lt.2 h1)]; rfl, HD.out⟩
  · go_enter Try.func22, Try.ntmps22
    go_wp2
    go_ret
    exact ⟨rfl, Below.refl _ _⟩
theorem read_nil (i : Int) (w : World) : Calls Try.prog 11 #[.pointer none, .int .i64 i] w fun e w' => e = .returned (.tuple #[.int .u32 0, .int .i64 1]) ∧ Below w.heap.size w w' := by
  go_enter Try.func11, Try.ntmps11
  go_wp2_with (go_at_call 22; refine (has_nil _ _).mono ?_; rintro e w1 ⟨rfl, hd⟩; have HD := Lib.hid hd; clear hd)
  go_ret2
  exact ⟨rfl, HD.out⟩
theorem reboot_nil (w : World) : Calls Try.prog 12 #[.pointer none] w fun e w' => e = .returned (.tuple #[]) ∧ Below w.heap.size w w' := by
  go_enter Try.func12, Try.ntmps12
  go_wp2_with (go_at_call 27; refine (held_nil' _).mono ?_; rintro e w1 ⟨g, rfl, c0, c1, c2, c4, hd⟩; have HD := Lib.hid hd; clear hd)
  (try simp only [Exit.inBlock, Exit.then])
  refine bodyPost_ret (results_none rfl _ _ _) rfl ?_
  exact ⟨rfl, HD.out⟩
theorem write_nil (i : Int) (x : W32) (w : World) : Calls Try.prog 9 #[.pointer none, .int .i64 i, .int .u32 (num x)] w fun e w' => e = .returned (.int .i64 100) ∧ Below w.heap.size w w' := by
  go_enter Try.func9, Try.ntmps9
  go_wp2_with (go_at_call 15; refine (dead_nil _).mono ?_; rintro e w1 ⟨rfl, hd⟩; have HD := Lib.hid hd; clear hd)
  go_ret
  exact ⟨rfl, HD.out⟩
theorem words_nil (w : World) : Calls Try.prog 18 #[.pointer none] w fun e w' => ∃ A d, e = .returned (.slice A 0 d) ∧ Below w.heap.size w w' := by
  go_enter Try.func18, Try.ntmps18
  go_wp2_with (first
    | (go_at_call 27; refine (held_nil' _).mono ?_; rintro e w1 ⟨g, rfl, c0, c1, c2, c4, hd⟩; have HD := Lib.hid hd; clear hd)
    | (go_at_call 19; refine (clone32_any none 0 [] (by decide) _ (Lies.nil _ _ _ _)).mono ?_; rintro e w2 ⟨v2, rfl, ho, hd⟩; have H2 := Lib.hid (And.intro ho (HD.out.trans (hd.mono HD.out.size))); clear ho hd))
  go_ret
  obtain ⟨A, d, rfl, _⟩ := owns_form H2.out.1
  exact ⟨A, d, rfl, H2.out.2⟩
set_option maxRecDepth 100000 in
set_option maxHeartbeats 2000000 in
theorem nvNone_walk (i : Int) (n : Nat) (w : World) (_h0 : -9223372036854775808 ≤ i) (_h1 : i ≤ 9223372036854775807) (hn : n < 4294967296) :
    Calls Try.prog 6 #[.int .i64 i, .int .u32 (n : Int)] w fun e w' => e = .returned (.bool true) ∧ Below w.heap.size w w' := by
  obtain ⟨x, hx⟩ := num_ex (z := (n : Int)) (by omega) (by omega)
  rw [hx]
  have HWN := Lib.hid (write_nil i x)
  have HRN := Lib.hid (read_nil i)
  clear hn hx
  go_enter Try.func6, Try.ntmps6
  go_wp2_with (first
    | (go_at_call 7; refine (awake_any _).mono ?_; rintro e w1 ⟨rfl, hd⟩; have H1 := Lib.hid hd; clear hd)
    | (go_at_call 11; refine (HRN.out _).mono ?_; rintro e w2 ⟨rfl, hd⟩; have H2 := Lib.hid (H1.out.trans (hd.mono H1.out.size)); clear hd)
    | (go_at_call 12; refine (reboot_nil _).mono ?_; rintro e w3 ⟨rfl, hd⟩; have H3 := Lib.hid (H2.out.trans (hd.mono H2.out.size)); clear hd)
    | (go_at_call 9; refine (HWN.out _).mono ?_; rintro e w4 ⟨rfl, hd⟩; have H4 := Lib.hid (H3.out.trans (hd.mono H3.out.size)); clear hd)
    | (go_at_call 16; refine (len_nil _).mono ?_; rintro e w5 ⟨rfl, hd⟩; have H5 := Lib.hid (H4.out.trans (hd.mono H4.out.size)); clear hd)
    | (go_at_call 15; refine (dead_nil _).mono ?_; rintro e w6 ⟨rfl, hd⟩; have H6 := Lib.hid (H5.out.trans (hd.mono H5.out.size)); clear hd)
    | (go_at_call 14; refine (writes_nil _).mono ?_; rintro e w7 ⟨rfl, hd⟩; have H7 := Lib.hid (H6.out.trans (hd.mono H6.out.size)); clear hd)
    | (go_at_call 18; refine (words_nil _).mono ?_; rintro e w8 ⟨A8, d8, rfl, hd⟩; have H8 := Lib.hid (H7.out.trans (hd.mono H7.out.size)); clear hd))
  go_ret
  exact ⟨rfl, H8.out⟩
end Go.Proofs.Ytfmdebnenmklbaa
