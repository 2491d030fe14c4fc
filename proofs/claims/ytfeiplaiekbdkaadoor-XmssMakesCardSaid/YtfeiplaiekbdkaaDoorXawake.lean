/- The chapter's examples: awake. -/
import Derived.Test.YtfeiplaiekbdkaaDoorWx
namespace Go.Proofs.YtfeiplaiekbdkaaDoor
open Go.RowKit
attribute [local go_sem ↓ high] zeroV26 zeroKey

set_option maxRecDepth 100000 in
theorem make68 (w : World) : (Instr.makeSlice 28 (.int .i64 68) (.int .i64 68)).run Tryd.prog w = .ok (.slice (some ⟨w.heap.size, 0, none⟩) 68 68) (w.alloc (.cells (vec 68 (bys zb)) 5)) := by
  obtain ⟨i0, hi, hz0, hz1, hz2⟩ := info_parts u8_info
  have h := run_make (P := Tryd.prog) (w := w) 28 5 i0 (.int .u8 0) Tryd.underlying28 hi hz0 .i64 .i64 68 68 (by omega) (by omega) (by rw [hz2]; omega) (by omega)
  rw [hz1] at h
  rw [h]
  congr 3
  kernel_rfl
set_option maxRecDepth 100000 in
theorem zeros_key : (vec 68 (bys zb)).toList = u8s (keyL 0 zb zb) := by kernel_rfl
set_option maxHeartbeats 1000000 in
set_option maxRecDepth 100000 in
theorem awake8_any (w : World) :
    Calls Tryd.prog 4 #[] w fun e w' => e = .returned (.bool true) ∧ Below w.heap.size w w' := by
  have hmk := make68 w
  obtain ⟨V, hV⟩ : ∃ V, V = w.alloc (.cells (vec 68 (bys zb)) 5) := ⟨_, rfl⟩
  have hl : Lies V V.heap.size 1 (some ⟨w.heap.size, 0, none⟩) 68 (u8s (keyL 0 zb zb)) := by
    rw [hV]; exact (lies_new w (vec 68 (bys zb)) 5 68 _ zeros_key (by rw [u8s_length, keyL_length])).wide (by simp)
  have hB : Below w.heap.size w V := by rw [hV]; exact (Below.refl _ _).alloc (Nat.le_refl _) _
  rw [← hV] at hmk
  have HK := Lib.hid (keyOf_yes (some ⟨w.heap.size, 0, none⟩) 68 0 zb zb V (by decide) (Nat.le_refl _) hl)
  have HS := Lib.hid (fun W => size_any 1 (by decide) W)
  have HB := Lib.hid hB
  clear hl hB hV
  go_enter Tryd.func4, Tryd.ntmps4
  go_wp2_with (first
    | (go_at_call 7; refine (HS.out _).mono ?_; rintro e w1 ⟨rfl, hw1⟩; rw [← hw1]; clear hw1)
    | (go_at_call 8; refine HK.out.mono ?_; rintro e w1 ⟨rfl, hd⟩; have HD := Lib.hid hd; clear hd)
    | ((with_reducible show wpList _ _ _ (Oper.mk _ (.store _ _ _) _ _ _ _ :: _) _ _); refine wl_store rfl 26 _ _ rfl _ rfl _ rfl (run_store_arr (Arr.new w1 _ _ _) (keyR 0 zb zb) infoKey (keyR_one _ _ _ _)) ?_))
  go_ret
  exact ⟨rfl, HB.out.trans ((HD.out.mono HB.out.size).trans (below_row ((Below.refl _ _).alloc (Nat.le_trans HB.out.size HD.out.size) _) (Nat.le_trans HB.out.size HD.out.size) _))⟩
end Go.Proofs.YtfeiplaiekbdkaaDoor
