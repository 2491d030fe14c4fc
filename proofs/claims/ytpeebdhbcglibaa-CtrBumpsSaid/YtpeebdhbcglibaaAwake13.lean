/- portreevelaw13.awake: chapter 13's example. -/
import Derived.Test.YtpeebdhbcglibaaCf
import Derived.Test.YtpeebdhbcglibaaCl
namespace Go.Proofs.Ytpeebdhbcglibaa
open Go.RowKit

def s13 : St := ⟨fmtL [3] 1, [], 0, true⟩
def t13 : St := (bump s13 0 5).2
theorem s13_rv : (rv s13.ws 0).err = 0 ∧ (rv s13.ws 0).val = 3 := by decide +kernel
theorem s13_b : (bump s13 0 5).1 = 0 := by decide +kernel
theorem t13_rv : (rv t13.ws 0).err = 0 ∧ (rv t13.ws 0).val = 5 := by decide +kernel
theorem t13_c : t13.cnt = 4 ∧ t13.ws.length = 8 := by decide +kernel
theorem t13_b : (bump t13 0 5).1 = 132 := by decide +kernel
theorem new_none (A : Option Addr) (c : Nat) (ws : List W32) (hl : ws.length ≤ 1000000) (w : World) (hA : Lies w w.heap.size 1 A ws.length (u32s ws)) :
    Calls Try.prog 9 #[.slice A ws.length c, .slice none 0 0] w (NewP w ws []) := by
  have := new_any A c ws hl none 0 [] (by decide) (fun x hx => by cases hx) w hA (Lies.nil _ _ _ _)
  exact this
set_option maxRecDepth 100000 in
set_option maxHeartbeats 2000000 in
theorem awake_any (w : World) : Calls Try.prog 8 #[] w fun e w' => e = .returned (.bool true) ∧ Below w.heap.size w w' := by
  have n3 : num 3 = 3 := by decide
  have n5 : num 5 = 5 := by decide
  have HF : Hid (Calls Try.prog 23 #[.slice (some ⟨w.heap.size, 0, none⟩) 1 1] (w.alloc (.cells #[.int .u32 3] 30)) fun e w' => ∃ B d, e = .returned (.slice B 8 d) ∧ Hid (Lies w' w'.heap.size 1 B s13.ws.length (u32s s13.ws) ∧ Below w.heap.size w w')) := Lib.hid (by
    obtain ⟨V, hV⟩ : ∃ V, V = w.alloc (.cells #[.int .u32 3] 30) := ⟨_, rfl⟩
    have b1 : Blk V w.heap.size 30 (u32s [3]).toArray := by rw [hV]; exact Blk.new w _ _ rfl
    have hb : Below w.heap.size w V := by rw [hV]; exact (Below.refl _ _).alloc (Nat.le_refl _) _
    rw [← hV]
    refine (format_any (some ⟨w.heap.size, 0, none⟩) 1 [3] (by decide) V (blk_lies32 b1)).mono ?_
    rintro e w' ⟨B, d, rfl, _, h2, h3⟩
    exact ⟨B, d, rfl, Lib.hid ⟨h2, hb.trans (h3.mono hb.size)⟩⟩)
  have HN : Hid (∀ w1 B d, Lies w1 w1.heap.size 1 B s13.ws.length (u32s s13.ws) → Below w.heap.size w w1 → Calls Try.prog 9 #[.slice B 8 d, .slice none 0 0] w1 fun e w' => ∃ p G v A c, e = .returned (.pointer (some ⟨p, 0, none⟩)) ∧ Hid (NC w' G p s13 v A c ∧ (∀ i, G i → w.heap.size ≤ i) ∧ Below w.heap.size w w')) := Lib.hid fun w1 B d h hb => by
    refine (new_none B d s13.ws (by decide) w1 h).mono ?_
    rintro e w' ⟨p, G, v, A, c, rfl, h1, h2, _, h3⟩
    exact ⟨p, G, v, A, c, rfl, Lib.hid ⟨h1, fun i hi => Nat.le_trans hb.size (h2 i hi), hb.trans (h3.mono hb.size)⟩⟩
  have HR1 : Hid (∀ w1 G p v A c, NC w1 G p s13 v A c → Calls Try.prog 10 #[.pointer (some ⟨p, 0, none⟩), .int .i64 0] w1 fun e w' => e = .returned (.tuple #[.int .u32 3, .int .i64 0]) ∧ Hid (NC w' G p s13 v A c ∧ Below w1.heap.size w1 w')) := Lib.hid fun w1 G p v A c h => by
    have := recover_any h (by decide) 0 _ rfl
    rw [s13_rv.1, s13_rv.2, n3] at this
    exact this.mono fun e w' ⟨h1, h2⟩ => ⟨h1, Lib.hid ⟨h.under h2, h2⟩⟩
  have HB1 : Hid (∀ w1 G p v A c, NC w1 G p s13 v A c → Calls Try.prog 18 #[.pointer (some ⟨p, 0, none⟩), .int .i64 0, .int .u32 5] w1 fun e w' => e = .returned (.int .i64 0) ∧ Hid (NC w' G p t13 v A c ∧ Turn G w1 w')) := Lib.hid fun w1 G p v A c h => by
    have := bump_any h (by decide) (by decide) 0 5
    rw [s13_b, n5] at this
    exact this.mono fun e w' ⟨h1, h2, h3⟩ => ⟨h1, Lib.hid ⟨h2, h3⟩⟩
  have HR2 : Hid (∀ w1 G p v A c, NC w1 G p t13 v A c → Calls Try.prog 10 #[.pointer (some ⟨p, 0, none⟩), .int .i64 0] w1 fun e w' => e = .returned (.tuple #[.int .u32 5, .int .i64 0]) ∧ Hid (NC w' G p t13 v A c ∧ Below w1.heap.size w1 w')) := Lib.hid fun w1 G p v A c h => by
    have := recover_any h (by rw [t13_c.2]; decide) 0 _ rfl
    rw [t13_rv.1, t13_rv.2, n5] at this
    exact this.mono fun e w' ⟨h1, h2⟩ => ⟨h1, Lib.hid ⟨h.under h2, h2⟩⟩
  have HB2 : Hid (∀ w1 G p v A c, NC w1 G p t13 v A c → Calls Try.prog 18 #[.pointer (some ⟨p, 0, none⟩), .int .i64 0, .int .u32 5] w1 fun e w' => e = .returned (.int .i64 132) ∧ Hid (Turn G w1 w')) := Lib.hid fun w1 G p v A c h => by
    have := bump_any h (by rw [t13_c.2]; decide) (by rw [t13_c.1]; decide) 0 5
    rw [t13_b, n5] at this
    exact this.mono fun e w' ⟨h1, _, h3⟩ => ⟨h1, Lib.hid h3⟩
  have HWR : Hid (∀ w1 G p v A c, NC w1 G p t13 v A c → Calls Try.prog 22 #[.pointer (some ⟨p, 0, none⟩)] w1 fun e w' => e = .returned (.int .i64 4) ∧ w1 = w') := Lib.hid fun w1 G p v A c h => by
    have := writes_any h
    rw [t13_c.1] at this
    exact this
  clear n3 n5
  go_enter Try.func8, Try.ntmps8
  go_wp2_with (first
    | (go_at_call 23; refine HF.out.mono ?_; rintro e w1 ⟨B, d, rfl, H1⟩)
    | (go_at_call 9; refine (HN.out w1 B d H1.out.1 H1.out.2).mono ?_; rintro e w2 ⟨p, G, v, A, c, rfl, H2⟩)
    | (go_at_call 10; refine (HR1.out _ G p v A c H2.out.1).mono ?_; rintro e w3 ⟨rfl, H3⟩)
    | (go_at_call 18; refine (HB1.out _ G p v A c H3.out.1).mono ?_; rintro e w4 ⟨rfl, H4⟩)
    | (go_at_call 10; refine (HR2.out _ G p v A c H4.out.1).mono ?_; rintro e w5 ⟨rfl, H5⟩)
    | (go_at_call 22; refine (HWR.out _ G p v A c H5.out.1).mono ?_; rintro e w6 ⟨rfl, rfl⟩)
    | (go_at_call 18; refine (HB2.out _ G p v A c H5.out.1).mono ?_; rintro e w7 ⟨rfl, H7⟩))
  go_ret
  have h3 := H2.out.2.2.trans (H3.out.2.mono H2.out.2.2.size)
  have h4 := h3.trans (H4.out.2.below H2.out.2.1 h3.size)
  have h5 := h4.trans (H5.out.2.mono h4.size)
  exact ⟨rfl, h5.trans (H7.out.below H2.out.2.1 h5.size)⟩
end Go.Proofs.Ytpeebdhbcglibaa
