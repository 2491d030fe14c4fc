/- The reference: Steps. -/
import Derived.Great.BuildSlice
import Derived.Test.YtpeebdhbcglibaaQs
namespace Go.Proofs.Ytpeebdhbcglibaa
open Go.RowKit

attribute [local go_sem ↓ high] zeroQ builtin_appS
set_option maxRecDepth 100000 in
set_option maxHeartbeats 4000000 in
theorem rsteps_any (id : Int) (x : W32) (hx : IntKind.u32.wrap id = num x) (f : Nat → W32) (s v : W32) (w : World) :
    Calls Try.prog 35 #[.int .i64 id, .agg (vec 4 (wds f)), .agg #[.int .u32 (num s), .int .u32 (num v)]] w fun e w' => ∃ A c, e = .returned (.slice A (stepsL x f s v).length c) ∧ (stepsL x f s v).length ≤ c ∧ Lies w' w'.heap.size 2 A (stepsL x f s v).length (cellsC (stepsL x f s v)) ∧ (∀ a, A = some a → w.heap.size ≤ a.block) ∧ Below w.heap.size w w' := by
  have HC := Lib.hid (fun W => rwords_any id x hx s v W)
  clear hx
  obtain ⟨V, hV⟩ : ∃ V, V = (w.alloc (.cells (vec 4 (wds f)) 73)).alloc (.cells #[.int .u32 (num s), .int .u32 (num v)] 35) := ⟨_, rfl⟩
  have hF : Arr V w.heap.size 73 4 (wds f) := by rw [hV]; exact (Arr.new _ _ _ _).alloc _
  have hR : Blk V (w.heap.size + 1) 35 #[.int .u32 (num s), .int .u32 (num v)] := by rw [hV]; exact Blk.new _ _ _ (by simp)
  have hB : Below w.heap.size w V := by rw [hV]; exact ((Below.refl _ _).alloc (Nat.le_refl _) _).alloc (by simp) _
  have cf : V.cell? ⟨w.heap.size, 0, none⟩ = some (.int .u32 (num (f 0))) := hF.cell (i := 0) (by decide)
  have c0 := hR.cellAt 0 rfl
  have c1 := hR.cellAt 1 rfl
  have HX := Lib.hid (And.intro hR hB)
  have HV := Lib.hid hV
  clear hF hR hB hV
  by_cases h0 : f 0 = mark
  · have g0 : ((num (f 0) : Int) == 3282393660) = true := by
      rw [show (3282393660 : Int) = num mark from rfl, num_beq]; simp [h0]
    have g1 : num (f 0) = 3282393660 := by
      rw [show (3282393660 : Int) = num mark from rfl]; rw [h0]
    have hl : stepsL x f s v = [⟨0, 0⟩] ++ body4 x s v := by unfold stepsL; rw [if_pos h0]
    have HLL := Lib.hid hl
    clear hl h0
    obtain ⟨v', w', hrun, hown, hgr, hob⟩ := app_put V w.heap.size (.slice none 0 0) [] [⟨0, 0⟩] (OwnP.nil _ _) HX.out.2.size (by simp) 81 #[.int .i64 0, .int .u32 0] rfl
    have hbs := build_put 0 0 V
    simp only [List.length_cons, List.length_nil, Nat.zero_add] at hrun
    have HO : Hid (OwnP w' w.heap.size v' [⟨0, 0⟩] ∧ Below w.heap.size w w') := Lib.hid ⟨hown, (HX.out.2.alloc HX.out.2.size _).grown hgr (by have := HX.out.2.size; simp; omega) (fun k hk => by simp [Value.ownBlock] at hk)⟩
    have hR2 : Blk w' (w.heap.size + 1) 35 #[.int .u32 (num s), .int .u32 (num v)] := (HX.out.1.alloc _).grown hgr (by simp [Value.ownBlock])
    obtain ⟨A0, c0', rfl, _⟩ := hown.form
    have d0 := hR2.cellAt 0 rfl
    have d1 := hR2.cellAt 1 rfl
    clear hown hgr hob hR2
    go_enter Try.func35, Try.ntmps35
    go_upto_region 2 with fail
    rw [← HV.out]
    clear HV
    go_upto_region 5 with (first
      | (go_at_call 39; refine (HC.out _).mono ?_; rintro e w1 ⟨rfl, hd⟩; have HD := Lib.hid hd; clear hd)
      | ((with_reducible show wpList _ _ _ (Oper.mk _ (.store 73 _ _) _ _ _ _ :: _) _ _); refine wl_store rfl 73 _ _ rfl _ rfl _ rfl (run_store_arr (Arr.new _ _ _ _) (wds (recW x s v)) infoQ (wds_one _ _)) ?_))
    obtain ⟨G, hG⟩ : ∃ G, G = w1.heap.size := ⟨_, rfl⟩
    obtain ⟨W, hW0⟩ : ∃ W, W = (w1.alloc (.cells (vec 4 (wds zw)) 73)).setRow w1.heap.size (vec 4 (wds (recW x s v))) := ⟨_, rfl⟩
    have HI : Hid (StepsAt w W G (recW x s v) (.slice A0 1 c0') [⟨0, 0⟩]) := Lib.hid (by
      have h1 := HO.out.1.under HD.out
      obtain ⟨_, _, _, _, _, _, hk⟩ := h1.form
      have hbe := HO.out.2.trans (HD.out.mono HO.out.2.size)
      rw [hW0]
      refine ⟨h1.under (below_row ((Below.refl _ _).alloc (Nat.le_refl _) _) (Nat.le_refl _) _), by rw [hG]; exact (Arr.new _ _ _ _).row _, fun e => ?_, below_row (hbe.alloc hbe.size _) hbe.size _⟩
      have := (hk _ e).2
      omega)
    rw [← hW0, ← hG]
    clear hW0 hG HD HO
    have k0 : W.cell? ⟨G, 0, none⟩ = some (.int .u32 (num mark)) := HI.out.arr.cell (i := 0) (by decide)
    have k1 : W.cell? ⟨G, 1, none⟩ = some (.int .u32 (num s)) := HI.out.arr.cell (i := 1) (by decide)
    have k2 : W.cell? ⟨G, 2, none⟩ = some (.int .u32 (num v)) := HI.out.arr.cell (i := 2) (by decide)
    have k3 : W.cell? ⟨G, 3, none⟩ = some (.int .u32 (num (sumW x s v))) := HI.out.arr.cell (i := 3) (by decide)
    obtain ⟨v', w', hrun, hown, hgr, hob⟩ := app_put W w.heap.size (.slice A0 1 c0') [⟨0, 0⟩] (body4 x s v) HI.out.own HI.out.be.size (by simp [body4]) 81 #[.int .i64 1, .int .u32 (num s), .int .i64 2, .int .u32 (num v), .int .i64 3, .int .u32 (num (sumW x s v)), .int .i64 0, .int .u32 (num mark)] rfl
    have hbs := build_put4 1 (num s) 2 (num v) 3 (num (sumW x s v)) 0 (num mark) W
    rw [show (body4 x s v).length = 4 from rfl] at hrun
    have HR := Lib.hid (HI.out.app hown hgr hob)
    clear hown hgr hob
    go_wp2_with fail
    go_ret
    rw [HLL.out]
    obtain ⟨A', c', rfl, hc4, hlie, hob, hko⟩ := HR.out.own.form
    exact ⟨A', c', rfl, hc4, hlie, fun a ha => (hko a.block (by rw [hob, ha]; rfl)).1, HR.out.be⟩
  · have g0 : ((num (f 0) : Int) == 3282393660) = false := by
      rw [show (3282393660 : Int) = num mark from rfl, num_beq]; simp [h0]
    have g1 : ¬ num (f 0) = 3282393660 := by
      rw [show (3282393660 : Int) = num mark from rfl]; exact fun e => h0 (num_inj e)
    have hl : stepsL x f s v = [] ++ body4 x s v := by unfold stepsL; rw [if_neg h0]
    have HLL := Lib.hid hl
    clear hl h0
    have HO : Hid (OwnP V w.heap.size (.slice none 0 0) [] ∧ Below w.heap.size w V) := Lib.hid ⟨OwnP.nil _ _, HX.out.2⟩
    go_enter Try.func35, Try.ntmps35
    go_upto_region 2 with fail
    rw [← HV.out]
    clear HV
    go_upto_region 5 with (first
      | (go_at_call 39; refine (HC.out _).mono ?_; rintro e w1 ⟨rfl, hd⟩; have HD := Lib.hid hd; clear hd)
      | ((with_reducible show wpList _ _ _ (Oper.mk _ (.store 73 _ _) _ _ _ _ :: _) _ _); refine wl_store rfl 73 _ _ rfl _ rfl _ rfl (run_store_arr (Arr.new _ _ _ _) (wds (recW x s v)) infoQ (wds_one _ _)) ?_))
    obtain ⟨G, hG⟩ : ∃ G, G = w1.heap.size := ⟨_, rfl⟩
    obtain ⟨W, hW0⟩ : ∃ W, W = (w1.alloc (.cells (vec 4 (wds zw)) 73)).setRow w1.heap.size (vec 4 (wds (recW x s v))) := ⟨_, rfl⟩
    have HI : Hid (StepsAt w W G (recW x s v) (.slice none 0 0) []) := Lib.hid (by
      have h1 := HO.out.1.under HD.out
      obtain ⟨_, _, _, _, _, _, hk⟩ := h1.form
      have hbe := HO.out.2.trans (HD.out.mono HO.out.2.size)
      rw [hW0]
      refine ⟨h1.under (below_row ((Below.refl _ _).alloc (Nat.le_refl _) _) (Nat.le_refl _) _), by rw [hG]; exact (Arr.new _ _ _ _).row _, fun e => ?_, below_row (hbe.alloc hbe.size _) hbe.size _⟩
      have := (hk _ e).2
      omega)
    rw [← hW0, ← hG]
    clear hW0 hG HD HO
    have k0 : W.cell? ⟨G, 0, none⟩ = some (.int .u32 (num mark)) := HI.out.arr.cell (i := 0) (by decide)
    have k1 : W.cell? ⟨G, 1, none⟩ = some (.int .u32 (num s)) := HI.out.arr.cell (i := 1) (by decide)
    have k2 : W.cell? ⟨G, 2, none⟩ = some (.int .u32 (num v)) := HI.out.arr.cell (i := 2) (by decide)
    have k3 : W.cell? ⟨G, 3, none⟩ = some (.int .u32 (num (sumW x s v))) := HI.out.arr.cell (i := 3) (by decide)
    obtain ⟨v', w', hrun, hown, hgr, hob⟩ := app_put W w.heap.size (.slice none 0 0) [] (body4 x s v) HI.out.own HI.out.be.size (by simp [body4]) 81 #[.int .i64 1, .int .u32 (num s), .int .i64 2, .int .u32 (num v), .int .i64 3, .int .u32 (num (sumW x s v)), .int .i64 0, .int .u32 (num mark)] rfl
    have hbs := build_put4 1 (num s) 2 (num v) 3 (num (sumW x s v)) 0 (num mark) W
    rw [show (body4 x s v).length = 4 from rfl] at hrun
    have HR := Lib.hid (HI.out.app hown hgr hob)
    clear hown hgr hob
    go_wp2_with fail
    go_ret
    rw [HLL.out]
    obtain ⟨A', c', rfl, hc4, hlie, hob, hko⟩ := HR.out.own.form
    exact ⟨A', c', rfl, hc4, hlie, fun a ha => (hko a.block (by rw [hob, ha]; rfl)).1, HR.out.be⟩
end Go.Proofs.Ytpeebdhbcglibaa
