/- awake: the chapter's examples hold. -/
import Derived.Test.YtnjgneophllciaaDoorRef
import Derived.Test.YtnjgneophllciaaDoorRPut
import Derived.Test.YtnjgneophllciaaDoorHex
namespace Go.Proofs.YtnjgneophllciaaDoor
open Go.RowKit

theorem below_drawn {B : Nat} {w w1 : World} (h : ∃ n, w1 = w.drewN n) : Below B w w1 := by
  obtain ⟨n, rfl⟩ := h
  exact ⟨rfl, rfl, rfl, Nat.le_refl _, fun _ _ => rfl⟩
theorem tab_below {w w1 : World} (hT : Tab16 w) (h : Below w.heap.size w w1) : Tab16 w1 :=
  (h.cell (World.block_lt_of_cell? w _ hT)).trans hT
def eight : List UInt8 := [0, 0, 0, 1, 0, 0, 1, 2]
theorem put_eight (W : World) (A : Option Addr) (d : Nat) (h : Lies W W.heap.size 1 A 2 (u32s [1, 258])) :
    Calls Tryd.prog 17 #[.slice none 0 0, .slice A 2 d] W (Bytes W eight) := by
  have := putBe32_any [] [1, 258] (by decide) none A 0 d W.heap.size W (Nat.le_refl _) (Lies.nil _ _ _ _) h (by decide)
  have e : ([] : List UInt8) ++ putAll 0 4 [1, 258] = eight := by decide
  rw [e] at this
  exact this
theorem le_eight (W : World) (A : Option Addr) (c : Nat) (h : Lies W W.heap.size 1 A 8 (u8s eight)) :
    Calls Tryd.prog 13 #[.slice A 8 c, .int .i64 4] W fun e w' => e = .returned (.tuple #[.int .u32 33619968, .bool true]) ∧ ∃ n, w' = W.drewN n := by
  have := le32_any eight A c W.heap.size 4 W (by decide) h
  have e1 : numOf eight 4 4 true = 33619968 := by decide
  have e2 : numHas eight.length 4 4 = true := by decide
  rw [e1, e2] at this
  exact this
theorem hex_ff (W : World) (hT : Tab16 W) : Calls Tryd.prog 28 #[.int .u64 255] W fun e w' => e = .returned (.string ⟨#[102, 102]⟩) ∧ Below W.heap.size W w' := by
  have := hex_any 255 (by decide) W hT
  have e : strOf (hexL 255) = ⟨#[102, 102]⟩ := by decide +kernel
  rw [e] at this
  exact this
theorem eight_at {W : World} {A : Option Addr} (h : Lies W W.heap.size 1 A 8 (u8s eight)) : ∃ a, A = some a ∧ W.cell? ⟨a.block, a.off + 3, none⟩ = some (.int .u8 1) ∧ W.cell? ⟨a.block, a.off + 6, none⟩ = some (.int .u8 1) := by
  obtain ⟨a, rfl, _, hc⟩ := h.2 (by decide)
  exact ⟨a, rfl, hc 3 (by decide), hc 6 (by decide)⟩

set_option maxHeartbeats 400000 in
theorem awake_any (w : World) (hT : Tab16 w) :
    Calls Tryd.prog 10 #[] w fun e w' => e = .returned (.bool true) ∧ Below w.heap.size w w' := by
  have HT := Lib.hid hT
  clear hT
  go_enter Tryd.func10, Tryd.ntmps10
  go_wp2_with (go_at_call 17; refine (put_eight _ _ _ (by have := lies_new w #[.int .u32 1, .int .u32 258] 24 2 (u32s [1, 258]) rfl rfl; simpa using this)).mono ?_; rintro e w1 ⟨v, rfl, hown, hbel⟩)
  obtain ⟨A, c, rfl, hl⟩ := owns_form (n := 8) hown
  obtain ⟨a, rfl, h3, h6⟩ := eight_at hl
  have hb1 : Below w.heap.size w w1 := ((Below.refl _ _).alloc (Nat.le_refl _) _).trans (hbel.mono (by simp))
  have Hl := Lib.hid hl
  have Hb := Lib.hid hb1
  clear hown hl hbel hb1
  go_wp2_with (first
    | (go_at_call 13; refine (le_eight _ _ _ Hl.out).mono ?_; rintro e w2 ⟨rfl, hd⟩; have H2 := Lib.hid (below_drawn (B := w1.heap.size) hd); clear hd
       have g3 := (H2.out.cell (World.block_lt_of_cell? w1 _ h3)).trans h3
       have g6 := (H2.out.cell (World.block_lt_of_cell? w1 _ h6)).trans h6
       clear h3 h6
       have Hb2 := Lib.hid (Hb.out.trans (H2.out.mono Hb.out.size)))
    | (go_at_call 28; refine (hex_ff _ (tab_below HT.out Hb2.out)).mono ?_; rintro e w3 ⟨rfl, hd⟩; have H3 := Lib.hid hd; clear hd))
  go_ret
  exact ⟨rfl, Hb2.out.trans (H3.out.mono Hb2.out.size)⟩
end Go.Proofs.YtnjgneophllciaaDoor
