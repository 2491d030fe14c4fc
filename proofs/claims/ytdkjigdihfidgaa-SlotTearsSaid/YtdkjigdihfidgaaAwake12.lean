/- portreevelaw12.awake: a record that is laid, and one that is none. -/
import Derived.Test.YtdkjigdihfidgaaQv
namespace Go.Proofs.Ytdkjigdihfidgaa
open Go.RowKit

theorem isRec_zero (x : W32) : isRec x zw = false := by
  cases h : isRec x zw with
  | false => rfl
  | true => exact absurd ((isRec_iff x zw).1 h).1 mark_ne
set_option maxRecDepth 100000 in
set_option maxHeartbeats 2000000 in
theorem awake_any (w : World) : Calls Try.prog 7 #[] w fun e w' => e = .returned (.bool true) ∧ Below w.heap.size w w' := by
  have hx : IntKind.u32.wrap 3 = num 3 := by decide
  obtain ⟨R, hR⟩ : ∃ R, R = recW 3 1 7 := ⟨_, rfl⟩
  have h1 : isRec 3 R = true := by rw [hR]; exact isRec_rec _ _ _
  have h2 : ofS 3 R = 1 := by unfold ofS; rw [if_pos h1, hR]; rfl
  have h3 : ofV 3 R = 7 := by unfold ofV; rw [if_pos h1, hR]; rfl
  have HW : Hid (∀ W, Calls Try.prog 10 #[.int .i64 3, .agg #[.int .u32 1, .int .u32 7]] W fun e w' => e = .returned (.agg (vec 4 (wds R))) ∧ Below W.heap.size W w') := Lib.hid fun W => by
    rw [hR]; exact words_any 3 3 hx 1 7 W
  have HO1 : Hid (∀ W, Calls Try.prog 8 #[.int .i64 3, .agg (vec 4 (wds R))] W fun e w' => e = .returned (.tuple #[.agg #[.int .u32 1, .int .u32 7], .bool true]) ∧ Below W.heap.size W w') := Lib.hid fun W => by
    have := of_any 3 3 hx R W
    rw [h1, h2, h3] at this
    exact this
  have HO2 : Hid (∀ W, Calls Try.prog 8 #[.int .i64 3, .agg #[.int .u32 0, .int .u32 0, .int .u32 0, .int .u32 0]] W fun e w' => e = .returned (.tuple #[.agg #[.int .u32 0, .int .u32 0], .bool false]) ∧ Below W.heap.size W w') := Lib.hid fun W => by
    have := of_any 3 3 hx zw W
    have e1 : ofS 3 zw = 0 := by unfold ofS; rw [isRec_zero]; rfl
    have e2 : ofV 3 zw = 0 := by unfold ofV; rw [isRec_zero]; rfl
    rw [isRec_zero, e1, e2] at this
    exact this
  have HS : Hid (∀ W, Calls Try.prog 14 #[.int .i64 3, .agg #[.int .u32 0, .int .u32 0, .int .u32 0, .int .u32 0], .agg #[.int .u32 1, .int .u32 7]] W fun e w' => ∃ A c, e = .returned (.slice A 4 c) ∧ Hid (Below W.heap.size W w')) := Lib.hid fun W => by
    refine (steps_any 3 3 hx zw 1 7 W).mono ?_
    rintro e w' ⟨A, c, rfl, _, _, h⟩
    have e3 : (stepsL 3 zw 1 7).length = 4 := by unfold stepsL; rw [if_neg (show ¬ zw 0 = mark from fun h => mark_ne h)]; rfl
    rw [e3]
    exact ⟨A, c, rfl, Lib.hid h⟩
  have q1 : ∀ W, (binOp .eql 24 (.agg #[.int .u32 1, .int .u32 7]) (.agg #[.int .u32 1, .int .u32 7])).run Try.prog W = .ok (.bool true) W := fun W => eqlR 1 7 1 7 W
  have q2 : ∀ x y W, (eqGuard .eql 24 x y (.agg #[.int .u32 1, .int .u32 7]) (.agg #[.int .u32 1, .int .u32 7])).run Try.prog W = .ok () W := fun x y W => eqgR .eql x y _ _ W
  clear hx hR h1 h2 h3
  go_enter Try.func7, Try.ntmps7
  go_wp2_with (first
    | (go_at_call 10; refine (HW.out _).mono ?_; rintro e w1 ⟨rfl, hd⟩; have H1 := Lib.hid (And.intro ((Blk.new w _ _ rfl).under hd) (((Below.refl _ w).alloc (Nat.le_refl _) _).trans (hd.mono (by simp)))); clear hd)
    | (go_at_call 8; (with_reducible show Calls _ _ #[_, .agg (vec 4 (wds R))] _ _); refine (HO1.out _).mono ?_; rintro e w2 ⟨rfl, hd⟩; have H2 := Lib.hid (And.intro (H1.out.1.under hd) (H1.out.2.trans (hd.mono H1.out.2.size))); clear hd)
    | (go_at_call 8
       refine (HO2.out _).mono ?_
       rintro e w3 ⟨rfl, hd⟩
       have b1 := (H2.out.1.alloc _).under hd
       have b2 := (Blk.new w2 _ _ rfl).under hd
       have H3 := Lib.hid ((H2.out.2.alloc H2.out.2.size _).trans (hd.mono (by have := H2.out.2.size; simp; omega)))
       have c0 : ∀ o, (w3.alloc o).cell? ⟨w.heap.size, 0, none⟩ = some (.int .u32 1) := fun o => (b1.alloc o).cellAt 0 rfl
       have c1 : ∀ o, (w3.alloc o).cell? ⟨w.heap.size, 1, none⟩ = some (.int .u32 7) := fun o => (b1.alloc o).cellAt 1 rfl
       have c2 : ∀ o, (w3.alloc o).cell? ⟨w2.heap.size, 0, none⟩ = some (.int .u32 1) := fun o => (b2.alloc o).cellAt 0 rfl
       have c3 : ∀ o, (w3.alloc o).cell? ⟨w2.heap.size, 1, none⟩ = some (.int .u32 7) := fun o => (b2.alloc o).cellAt 1 rfl
       clear hd b1 b2)
    | (go_at_call 14; refine (HS.out _).mono ?_; rintro e w4 ⟨A, c, rfl, H4⟩))
  go_ret
  have h3 := H3.out.alloc H3.out.size (.cells #[.int .u32 0, .int .u32 0] 24)
  exact ⟨rfl, h3.trans (H4.out.mono h3.size)⟩
end Go.Proofs.Ytdkjigdihfidgaa
