/- Nodes laid behind one another. -/
import Derived.Test.YtfeiplaiekbdkaaXnd
import Derived.Test.YtfeiplaiekbdkaaNl
namespace Go.Proofs.Ytfeiplaiekbdkaa
open Go.RowKit
attribute [local go_sem ↓ high] zeroV26

/-- What a round of laid keeps. -/
structure LA (w : World) (base : Nat) (xs : List UInt8) (v : Value) (W : World) : Prop where
  row : W.ownsRow base 5 1 v xs.length (u8s xs)
  b : Below base w W
/-- One node more. -/
theorem LA.step {w W : World} {base : Nat} {xs : List UInt8} {v : Value} (h : LA w base xs v W) (hw : base ≤ w.heap.size) (f : Nd) (hn : xs.length ≤ 1000000000) (ty : TypeId) :
    ∃ v' w', (Builtin.append_ #[27, 27] ty #[v, .slice (some ⟨W.heap.size, 0, none⟩) 32 32]).run Try.prog ((W.alloc (.cells (vec 32 (bys zb)) 29)).setRow W.heap.size (vec 32 (bys f))) = .ok v' w' ∧ LA w base (xs ++ nodeL f) v' w' := by
  have hsz := h.b.size
  have hb1 : Below W.heap.size W ((W.alloc (.cells (vec 32 (bys zb)) 29)).setRow W.heap.size (vec 32 (bys f))) := below_row ((Below.refl _ _).alloc (Nat.le_refl _) _) (Nat.le_refl _) _
  obtain ⟨v', w', hr, ho, hb⟩ := app_node (ownsN_below h.row hb1) ((Arr.new W 29 32 (bys zb)).row (bys f)) hn (by have := hb1.size; omega) ty
  refine ⟨v', w', hr, ⟨by rw [List.length_append, nodeL_length]; exact ho, h.b.trans ((hb1.mono (by omega)).trans hb)⟩⟩
set_option maxHeartbeats 1000000 in
set_option maxRecDepth 100000 in
theorem laid_any (A : Option Addr) (c : Nat) (ls : List Nd) (hn : ls.length ≤ 1000) (w : World) (hr : NRow w w.heap.size A ls) :
    Calls Try.prog 26 #[.slice A ls.length c] w (Bytes w (nodesL ls)) := by
  obtain ⟨cur, hcur, hmk⟩ := make_u8 (32 * ls.length) (by omega) w
  rw [show ((32 * ls.length : Nat) : Int) = 32 * (ls.length : Int) by simp] at hmk
  obtain ⟨V, hV⟩ : ∃ V, V = w.alloc (.cells cur 5) := ⟨_, rfl⟩
  have hown0 : V.ownsRow w.heap.size 5 1 (.slice (some ⟨w.heap.size, 0, none⟩) 0 (32 * ls.length)) 0 (u8s []) := by
    rw [hV]; exact World.ownsRow_made w cur _ (Nat.le_refl _) (by unfold maxLen; omega) (by rw [hcur, Nat.mul_one])
  have hbel0 : Below w.heap.size w V := by rw [hV]; exact (Below.refl _ _).alloc (Nat.le_refl _) _
  have HI : Hid (LA w w.heap.size (nodesL (ls.take 0)) (.slice (some ⟨w.heap.size, 0, none⟩) 0 (32 * ls.length)) V) := Lib.hid ⟨hown0, hbel0⟩
  have HR := Lib.hid hr
  rw [← hV] at hmk
  have hwn : wrap64 (32 * (ls.length : Int)) = 32 * (ls.length : Int) := by unfold wrap64; omega
  clear hV hown0 hbel0 hr hcur
  go_enter Try.func26, Try.ntmps26
  go_wp2
  go_loopw [3, 12] (fun v j W => ∃ k : Nat, k ≤ ls.length ∧ j = .int .i64 k ∧ Hid (LA w w.heap.size (nodesL (ls.take k)) v W)) (fun _ i _ => ls.length - (intOf i).toNat)
  case atStart => exact ⟨0, Nat.zero_le _, rfl, HI⟩
  case round =>
    obtain ⟨k, hk, rfl, hQ⟩ := hrel
    clear hmk
    by_cases hlt : k < ls.length
    · have hkI : (k : Int) < (ls.length : Int) := by omega
      obtain ⟨a, p, rfl, hp, hpb, hc⟩ := (HR.out.below hQ.out.b).at hlt
      obtain ⟨f, hf⟩ : ∃ f, f = ls[k] := ⟨_, rfl⟩
      rw [← hf] at hc
      have HC := Lib.hid hc
      have HT : Hid (nodesL (ls.take (k + 1)) = nodesL (ls.take k) ++ nodeL f) := Lib.hid (by rw [List.take_succ_eq_append_getElem hlt, hf, nodesL_snoc])
      have hle : (nodesL (ls.take k)).length ≤ 1000000000 := by rw [nodesL_length, List.length_take]; omega
      obtain ⟨v9, y9, hr9, h9⟩ := hQ.out.step (Nat.le_refl _) f hle 27
      have H9 := Lib.hid h9
      clear hc hf hpb h9 hle
      go_wp2_with (first
        | ((with_reducible show wpList _ _ _ (Oper.mk _ (.load _ _) _ _ _ _ :: _) _ _); refine wl_load_q rfl 29 _ rfl p rfl _ (load_p HC.out) ?_)
        | ((with_reducible show wpList _ _ _ (Oper.mk _ (.store _ _ _) _ _ _ _ :: _) _ _); refine wl_store rfl 29 _ _ rfl _ rfl _ rfl (run_store_arr (Arr.new wr _ _ _) (bys f) info26 (bys_one _ _)) ?_)
        | ((with_reducible show wpList _ _ _ (Oper.mk _ (.call ⟨.builtin .append, _, _⟩) _ _ _ _ :: _) _ _); refine wpList_plain rfl fun K hK => Lib.wp_append_run _ _ _ _ _ rfl _ _ rfl rfl _ _ hr9 (hK _ _ ?_); clear hK K))
      clear hr9
      go_roundw
      case rel => exact ⟨k + 1, by omega, by simp, Lib.hid (by rw [HT.out]; exact H9.out)⟩
      case measure => simp [intOf]; omega
    · obtain rfl : k = ls.length := by omega
      go_wp2
      go_ret
      have h := hQ.out
      rw [List.take_length] at h
      exact ⟨_, rfl, h.row, h.b⟩
end Go.Proofs.Ytfeiplaiekbdkaa
