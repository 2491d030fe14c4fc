/- The chapter's example: awake. -/
import Derived.Test.YtaopggcfaoabaaaLayB
namespace Go.Proofs.Ytaopggcfaoabaaa
open Go.RowKit
attribute [local go_sem ↓ high] zeroV26

theorem ok123 : AdOk 0 0 0 1 2 3 0 := ⟨by decide, by decide, by decide, by decide, by decide, by decide, by decide⟩
set_option maxHeartbeats 1000000 in
set_option maxRecDepth 100000 in
theorem awake4_any (w : World) :
    Calls Try.prog 7 #[] w fun e w' => e = .returned (.bool true) ∧ Below w.heap.size w w' := by
  go_enter Try.func7, Try.ntmps7
  go_upto_region 2 with (first
    | (go_at_call 13; refine (ots_any 1 2 3 _).mono ?_; rintro e w1 ⟨rfl, hd⟩; have H1 := Lib.hid hd; clear hd)
    | (go_at_call 8; refine (bytes_any 0 0 0 1 2 3 0 ok123 _).mono ?_; rintro e w2 ⟨rfl, hd⟩; have H2 := Lib.hid (H1.out.trans (hd.mono H1.out.size)); clear hd)
    | (refine wl_store rfl 28 _ _ rfl _ rfl _ rfl (run_store_arr (Arr.new _ _ _ _) (bys (adB 0 0 0 1 2 3 0)) info26 (bys_one _ _)) ?_))
  obtain ⟨V, hV⟩ : ∃ V, V = (w2.alloc (.cells (vec 32 (bys zb)) 28)).setRow w2.heap.size (vec 32 (bys (adB 0 0 0 1 2 3 0))) := ⟨_, rfl⟩
  have hA : Arr V w2.heap.size 28 32 (bys (adB 0 0 0 1 2 3 0)) := by rw [hV]; exact (Arr.new w2 _ _ _).row _
  have hB : Below w.heap.size w V := by rw [hV]; exact below_row (H2.out.alloc H2.out.size _) H2.out.size _
  have c15 : V.cell? ⟨w2.heap.size, 15, none⟩ = some (.int .u8 0) := hA.cell (i := 15) (by decide)
  have c19 : V.cell? ⟨w2.heap.size, 19, none⟩ = some (.int .u8 1) := hA.cell (i := 19) (by decide)
  have c23 : V.cell? ⟨w2.heap.size, 23, none⟩ = some (.int .u8 2) := hA.cell (i := 23) (by decide)
  have c27 : V.cell? ⟨w2.heap.size, 27, none⟩ = some (.int .u8 3) := hA.cell (i := 27) (by decide)
  rw [← hV]
  have HB := Lib.hid hB
  clear hV hA hB
  go_wp2_with fail
  go_ret
  exact ⟨rfl, HB.out⟩
end Go.Proofs.Ytaopggcfaoabaaa
