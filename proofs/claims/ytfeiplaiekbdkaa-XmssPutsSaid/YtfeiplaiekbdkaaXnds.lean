/- The cutter's nodes. -/
import Derived.Test.YtfeiplaiekbdkaaXnd
namespace Go.Proofs.Ytfeiplaiekbdkaa
open Go.RowKit
attribute [local go_sem ↓ high] zeroV26

theorem make_nodes (n : Nat) (hn : n ≤ 1000) : ∃ C : Array Value, C.size = n * 32 ∧ ∀ w : World, (Instr.makeSlice 42 (.int .i64 0) (.int .i64 (n : Int))).run Try.prog w = .ok (.slice (some ⟨w.heap.size, 0, none⟩) 0 n) (w.alloc (.cells C 29)) := by
  obtain ⟨i0, hi, hz0, hz1, hz2⟩ := info_parts infoN
  refine ⟨madeCells (Value.agg (vec 32 (bys zb))).cells (n * 32), size_madeCells _ _, fun w => ?_⟩
  have h := run_make (P := Try.prog) (w := w) 42 29 i0 (.agg (vec 32 (bys zb))) Try.underlying42 hi hz0 .i64 .i64 0 (n : Int) (by omega) (by omega) (by rw [hz2]; omega) (by omega)
  rw [hz1] at h
  simpa using h
theorem made_nodes (w : World) (n : Nat) (hn : n ≤ 1000) (C : Array Value) (hC : C.size = n * 32) : (w.alloc (.cells C 29)).ownsRow w.heap.size 29 32 (.slice (some ⟨w.heap.size, 0, none⟩) 0 n) 0 [] :=
  ⟨rfl, .inr ⟨w.heap.size, n, C, rfl, Nat.le_refl _, heap_alloc_new w _, Nat.zero_le _, by unfold maxLen; omega, hC, by simp⟩⟩

/-- What a round of nodes keeps. -/
structure NC (w : World) (B g : Nat) (ls : List Nd) (l2 : List UInt8) (k : Nat) (v : Value) (W : World) : Prop where
  cut : CutAt W B g (nodesL (ls.drop k) ++ l2)
  row : OwnN W w.heap.size v (ls.take k)
  save : Save g w W
set_option maxHeartbeats 1000000 in
set_option maxRecDepth 100000 in
theorem nodes_cut (ls : List Nd) (hn : ls.length ≤ 1000) (l2 : List UInt8) (B g : Nat) (w : World) (h : CutAt w B g (nodesL ls ++ l2)) :
    Calls Try.prog 35 #[cutV g, .int .i64 (ls.length : Int)] w fun e w' => ∃ v, e = .returned v ∧ OwnN w' w.heap.size v ls ∧ CutAt w' B g l2 ∧ Save g w w' := by
  obtain ⟨C, hC, hmk⟩ := make_nodes ls.length hn
  have hO := made_nodes w ls.length hn C hC
  obtain ⟨V, hV⟩ : ∃ V, V = w.alloc (.cells C 29) := ⟨_, rfl⟩
  have hB : Below w.heap.size w V := by rw [hV]; exact (Below.refl _ _).alloc (Nat.le_refl _) _
  rw [← hV] at hO
  have HI : Hid (NC w B g ls l2 0 (.slice (some ⟨w.heap.size, 0, none⟩) 0 ls.length) V) := Lib.hid ⟨by rw [List.drop_zero]; exact h.on hB h.lt, by rw [List.take_zero]; exact hO, (Save.refl g w).on hB (Nat.le_refl _)⟩
  have HG := Lib.hid h.lt
  have hmk1 := hmk w
  rw [← hV] at hmk1
  clear hV hB hO h hmk hC
  unfold cutV
  go_enter Try.func35, Try.ntmps35
  go_wp2
  go_loopw [5, 9] (fun v j W => ∃ k : Nat, k ≤ ls.length ∧ j = .int .i64 k ∧ Hid (NC w B g ls l2 k v W)) (fun _ i _ => ls.length - (intOf i).toNat)
  case atStart => exact ⟨0, Nat.zero_le _, rfl, HI⟩
  case round =>
    obtain ⟨k, hk, rfl, hQ⟩ := hrel
    clear hmk1
    by_cases hlt : k < ls.length
    · have hkI : (k : Int) < (ls.length : Int) := by omega
      have hcut := hQ.out.cut
      obtain ⟨f, hf⟩ : ∃ f, f = ls[k] := ⟨_, rfl⟩
      rw [List.drop_eq_getElem_cons hlt, ← hf, nodesL_cons, List.append_assoc] at hcut
      have HC := Lib.hid hcut
      have HT : Hid (ls.take (k + 1) = ls.take k ++ [f]) := Lib.hid (by rw [List.take_succ_eq_append_getElem hlt, hf])
      have hkl : (ls.take k).length = k := by rw [List.length_take]; omega
      clear hcut hf
      go_wp2_with (first
        | (go_at_call 22
           refine (node_cut f (nodesL (ls.drop (k + 1)) ++ l2) B g _ HC.out).mono ?_
           rintro e w1 ⟨rfl, hct, hs⟩
           have hrow : OwnN w1 w.heap.size u5 (ls.take k) := by
             refine ⟨hQ.out.row.1, ?_⟩
             rcases hQ.out.row.2 with h2 | ⟨r, cap, cur, hv, hr, hh, rr⟩
             · exact Or.inl h2
             · exact Or.inr ⟨r, cap, cur, hv, hr, (hs.block r (Array.getElem?_eq_some_iff.1 hh).1 (by have := HG.out; omega)).trans hh, rr⟩
           have hsv : Save g w w1 := hQ.out.save.trans hs
           have H1 := Lib.hid (And.intro hct (And.intro hrow hsv))
           clear hct hs hrow hsv)
        | ((with_reducible show wpList _ _ _ (Oper.mk _ (.buildSlice _ _ _) _ _ _ _ :: _) _ _); refine wpList_plain rfl fun K hK => ow_build1 _ rfl f rfl (hK _ _ ?_); clear hK K
           obtain ⟨v9, y9, hr9, hown9, hg9⟩ := app_own (H1.out.2.1.alloc (.cells (vec 32 (bys f)) 29)) (Arr.new w1 29 32 (bys f)) (by rw [hkl]; omega) (by have := H1.out.2.2.size; simp; omega) 42)
        | ((with_reducible show wpList _ _ _ (Oper.mk _ (.call ⟨.builtin .append, _, _⟩) _ _ _ _ :: _) _ _); refine wpList_plain rfl fun K hK => Lib.wp_append_run _ _ _ _ _ rfl _ _ rfl rfl _ _ hr9 (hK _ _ ?_); clear hK K))
      have hb9 : Below w.heap.size w1 y9 := ((Below.refl w.heap.size w1).alloc H1.out.2.2.size _).grown hg9 (by have := H1.out.2.2.size; simp; omega) (fun r hr => (H1.out.2.1.lt r hr).1)
      go_roundw
      case rel => exact ⟨k + 1, by omega, by simp, Lib.hid ⟨H1.out.1.on hb9 HG.out, by unfold OwnN; rw [HT.out, cellsN_snoc, List.length_append, hkl]; rw [hkl] at hown9; exact hown9, H1.out.2.2.on hb9 (Nat.le_refl _)⟩⟩
      case measure => simp [intOf]; omega
    · obtain rfl : k = ls.length := by omega
      go_wp2
      go_ret
      have hR := hQ.out.row
      have hC := hQ.out.cut
      rw [List.take_length] at hR
      rw [List.drop_length] at hC
      exact ⟨_, rfl, hR, hC, hQ.out.save⟩
end Go.Proofs.Ytfeiplaiekbdkaa
