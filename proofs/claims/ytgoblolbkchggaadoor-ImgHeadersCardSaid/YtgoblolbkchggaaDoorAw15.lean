/- awake: the chapter's example, and a header. -/
import Derived.Test.YtgoblolbkchggaaDoorHq
import Derived.Test.YtgoblolbkchggaaDoorRs
namespace Go.Proofs.YtgoblolbkchggaaDoor
open Go.RowKit
attribute [local go_sem ↓ high] zeroHd

/-- A header stored in a block that was just made. -/
theorem hd_new {h : Hd} {w w1 : World} (hb : Below w.heap.size w w1) : ∃ r X, X = (w1.alloc (.cells (vec 35 (hdF zHd)) 26)).setRow w1.heap.size (vec 35 (hdF h)) ∧ r = w1.heap.size ∧ Arr X r 26 35 (hdF h) ∧ Below w.heap.size w X ∧ Below w1.heap.size w1 X ∧ r < X.heap.size := by
  have h1 := (Arr.new w1 26 35 (hdF zHd)).row (hdF h)
  exact ⟨_, _, rfl, rfl, h1, below_row (hb.alloc hb.size _) hb.size _, below_row ((Below.refl _ _).alloc (Nat.le_refl _) _) (Nat.le_refl _) _, h1.lt⟩
set_option maxRecDepth 100000 in
theorem header_a : (u8s (layH ⟨1, 0, [97], zs 32⟩))[0]? = some (.int .u8 66) ∧ (u8s (layH ⟨1, 0, [97], zs 32⟩))[16]? = some (.int .u8 97) ∧ (layH ⟨1, 0, [97], zs 32⟩).length = 64 ∧ nameOk [97] = true := ⟨by kernel_rfl, by kernel_rfl, by kernel_rfl, by kernel_rfl⟩
set_option maxHeartbeats 1000000 in
set_option maxRecDepth 100000 in
theorem awake_any (w : World) : Calls Tryd.prog 7 #[] w fun e w' => e = .returned (.bool true) ∧ Below w.heap.size w w' := by
  have hmk : ∀ W : World, (Instr.makeSlice 27 (.int .i64 63) (.int .i64 63)).run Tryd.prog W = .ok (.slice (some ⟨W.heap.size, 0, none⟩) 63 63) (W.alloc (.cells (vec 63 bz) 5)) := fun W => make_i 63 (by decide) W
  have HOF : Hid (∀ W : World, Calls Tryd.prog 10 #[.slice (some ⟨W.heap.size, 0, none⟩) 63 63] (W.alloc (.cells (vec 63 bz) 5)) fun e w' => e = .returned (.tuple #[.agg (vec 35 (hdF zHd)), .int .i64 150]) ∧ Below W.heap.size W w') := Lib.hid (fun W => by
    have h := of_any (zerosL 63) (some ⟨W.heap.size, 0, none⟩) 63 (W.alloc (.cells (vec 63 bz) 5)) (by rw [zerosL_length]; exact (lies_zeros W 63).wide (by simp))
    rw [zerosL_length, ofH_no (isH_off (by rw [zerosL_length]; decide))] at h
    exact h.mono fun e w' he => ⟨he.1, ((Below.refl _ _).alloc (Nat.le_refl _) _).trans (he.2.mono (by simp))⟩)
  have HPU : Hid (∀ W : World, Calls Tryd.prog 8 #[.agg (vec 35 (hdF ⟨1, 0, [97], zs 32⟩))] W fun e w' => ∃ g c, e = .returned (.tuple #[.slice (some ⟨g, 0, none⟩) 64 c, .int .i64 0]) ∧ w'.cell? ⟨g, 0, none⟩ = some (.int .u8 66) ∧ w'.cell? ⟨g, 16, none⟩ = some (.int .u8 97) ∧ Below W.heap.size W w') := Lib.hid (fun W => by
    obtain ⟨h0, h16, hl, hn⟩ := header_a
    refine (put_any ⟨1, 0, [97], zs 32⟩ ⟨⟨by decide, by decide⟩, ⟨by decide, by decide⟩, rfl⟩ (by decide) W).mono fun e w' he => ?_
    unfold putP at he
    rw [if_pos hn] at he
    obtain ⟨v, rfl, hv, hb⟩ := he
    obtain ⟨g, c, rfl, -⟩ := hv.form (by rw [hl]; decide)
    have q0 := hv.cellAt 0 (by rw [hl]; decide)
    have q1 := hv.cellAt 16 (by rw [hl]; decide)
    exact ⟨g, c, by rw [hl], q0.trans h0, q1.trans h16, hb⟩)
  go_enter Tryd.func7, Tryd.ntmps7
  go_upto_region 2 with (first
    | (go_at_call 10; refine (HOF.out _).mono ?_; rintro e w1 ⟨rfl, hd⟩; have HD := Lib.hid hd; clear hd)
    | ((with_reducible show wpList _ _ _ (Oper.mk _ (.store _ _ _) _ _ _ _ :: _) _ _); refine wl_store rfl 26 _ _ rfl _ rfl _ rfl (run_store_arr (Arr.new w1 _ _ _) (hdF zHd) infoHd (hdF_one _ _)) ?_))
  obtain ⟨r, X, hX, hr, -, hXb, -, -⟩ := hd_new (h := zHd) HD.out
  rw [← hX]
  have HX := Lib.hid hXb
  clear hX hr hXb HD HOF hmk
  go_upto_region 3 with (first
    | ((with_reducible show wpList _ _ _ (Oper.mk _ (.build _ _) _ _ _ _ :: _) _ _); refine wl_build rfl 26 _ rfl (vec 35 (hdF ⟨1, 0, [97], zs 32⟩)) (by kernel_rfl) ?_)
    | (go_at_call 8; refine (HPU.out _).mono ?_; rintro e w2 ⟨g, c, rfl, c0, c16, hd⟩; have HD := Lib.hid hd; clear hd))
  go_wp2_with fail
  go_ret
  exact ⟨rfl, HX.out.trans (HD.out.mono HX.out.size)⟩
end Go.Proofs.YtgoblolbkchggaaDoor
