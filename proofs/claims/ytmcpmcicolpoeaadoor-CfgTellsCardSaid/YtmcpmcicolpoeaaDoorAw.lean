/- portreevelaw14.awake: the chapter's examples. -/
import Derived.Test.YtmcpmcicolpoeaaDoorPs
namespace Go.Proofs.YtmcpmcicolpoeaaDoor
open Go.RowKit
attribute [local go_sem ↓ high] zeroCf

set_option maxRecDepth 100000 in
theorem make4 (w : World) : (Instr.makeSlice 22 (.int .i64 4) (.int .i64 4)).run Tryd.prog w = .ok (.slice (some ⟨w.heap.size, 0, none⟩) 4 4) (w.alloc (.cells (vec 4 (fun _ => .int .u8 0)) 5)) := by
  obtain ⟨i0, hi, hz0, hz1, hz2⟩ := info_parts u8_info
  have h := run_make (P := Tryd.prog) (w := w) 22 5 i0 (.int .u8 0) Tryd.underlying22 hi hz0 .i64 .i64 4 4 (by omega) (by omega) (by rw [hz2]; omega) (by omega)
  rw [hz1] at h
  rw [h]
  congr 3
  kernel_rfl
theorem get_nil : getC kOk [] = .error (141, 0) := by rfl
theorem get_noughts : getC kOk [0, 0, 0, 0] = .error (140, 0) := by rfl
theorem parse_err {A : Option Addr} {c : Nat} {b : By} {w : World} {er pl : Nat} (hbc : b.length ≤ c) (hl : Lies w w.heap.size 1 A b.length (u8s b)) (h : getC kOk b = .error (er, pl)) : Calls Tryd.prog 8 #[.slice A b.length c] w fun e w' => e = .returned (.tuple #[.agg (vec 3 (cfE 0 nilV nilV)), .int .i64 (pl : Int), .int .i64 (er : Int)]) ∧ Below w.heap.size w w' := by
  refine (parse_any A c b w hbc hl).mono ?_
  intro e w' hh
  unfold ParseP at hh
  rw [h] at hh
  exact hh
set_option maxHeartbeats 4000000 in
set_option maxRecDepth 100000 in
theorem awake_any (w : World) : Calls Tryd.prog 7 #[] w fun e w' => e = .returned (.bool true) ∧ Below w.heap.size w w' := by
  have hmk := make4
  have HP1 := Lib.hid (parse_err (A := none) (c := 0) (b := []) (w := w) (Nat.le_refl _) (Lies.nil _ _ _ _) get_nil)
  have HP2 := Lib.hid (fun (W : World) => parse_err (A := some ⟨W.heap.size, 0, none⟩) (c := 4) (b := [0, 0, 0, 0]) (w := W.alloc (.cells (vec 4 (fun _ => .int .u8 0)) 5)) (Nat.le_refl _) ((lies_new W (vec 4 (fun _ => .int .u8 0)) 5 4 _ (by rfl) (by rfl)).wide (by simp)) get_noughts)
  go_enter Tryd.func7, Tryd.ntmps7
  go_upto_region 2 with (first
    | (go_at_call 8; refine HP1.out.mono ?_; rintro e w1 ⟨rfl, hd⟩; have HD := Lib.hid hd; clear hd)
    | ((with_reducible show wpList _ _ _ (Oper.mk _ (.store _ _ _) _ _ _ _ :: _) _ _); refine wl_store rfl 28 _ _ rfl _ rfl _ rfl (run_store_arr (Arr.new w1 _ _ _) (cfE 0 nilV nilV) infoCf (cfE_one _ _ _ rfl rfl _)) ?_))
  obtain ⟨V, hV⟩ : ∃ V, V = (w1.alloc (.cells (vec 3 (cfE 0 nilV nilV)) 28)).setRow w1.heap.size (vec 3 (cfE 0 nilV nilV)) := ⟨_, rfl⟩
  have HB : Hid (Below w.heap.size w V) := Lib.hid (by rw [hV]; exact below_row (HD.out.alloc HD.out.size _) HD.out.size _)
  rw [← hV]
  clear hV
  go_upto_region 3 with (first
    | (go_at_call 8; refine (HP2.out V).mono ?_; rintro e w2 ⟨rfl, hd⟩; have HD2 := Lib.hid hd; clear hd)
    | ((with_reducible show wpList _ _ _ (Oper.mk _ (.store _ _ _) _ _ _ _ :: _) _ _); refine wl_store rfl 28 _ _ rfl _ rfl _ rfl (run_store_arr (Arr.new w2 _ _ _) (cfE 0 nilV nilV) infoCf (cfE_one _ _ _ rfl rfl _)) ?_))
  have h3 : Below w.heap.size w w2 := (HB.out.alloc HB.out.size _).trans (HD2.out.mono (by have := HB.out.size; simp; omega))
  have HB2 : Hid (Below w.heap.size w ((w2.alloc (.cells (vec 3 (cfE 0 nilV nilV)) 28)).setRow w2.heap.size (vec 3 (cfE 0 nilV nilV)))) := Lib.hid (below_row (h3.alloc h3.size _) h3.size _)
  clear h3
  go_wp2_with fail
  go_ret
  exact ⟨rfl, HB2.out⟩
end Go.Proofs.YtmcpmcicolpoeaaDoor
