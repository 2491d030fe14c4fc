/- prf.Xor, and the reference's. -/
import Derived.Test.YtfeiplaiekbdkaaGreatDoorPrf
namespace Go.Proofs.YtfeiplaiekbdkaaGreatDoor
open Go.RowKit
attribute [local go_sem ↓ high] zeroV26

def xorF (a b : Nat → UInt8) : Nat → UInt8 := fun i => a i ^^^ b i
def xorTo (a b : Nat → UInt8) (k : Nat) : Nat → UInt8 := fun i => if i < k then a i ^^^ b i else a i
set_option maxRecDepth 100000 in
theorem xorTo_at (a b : Nat → UInt8) (k : Nat) : xorTo a b k k = a k := by simp [xorTo]
set_option maxRecDepth 100000 in
theorem xorTo_upd (a b : Nat → UInt8) (k : Nat) : upd (xorTo a b k) k (a k ^^^ b k) = xorTo a b (k + 1) := by
  funext j
  by_cases e : j = k
  · subst e; simp [upd, xorTo]
  · by_cases h : j < k
    · simp [upd, xorTo, e, h, show j < k + 1 by omega]
    · simp [upd, xorTo, e, h, show ¬ j < k + 1 by omega]
set_option maxRecDepth 100000 in
theorem xor_u8 (x y : UInt8) : bits .xor .u8 (x.toNat : Int) (y.toNat : Int) = ((x ^^^ y).toNat : Int) := by
  rw [u8_xor_nat _ _ x.toNat_lt y.toNat_lt, UInt8.toNat_xor]
set_option maxRecDepth 100000 in
theorem index32 (f : Nat → UInt8) (i : Nat) (hi : i < 32) (w : World) :
    (Instr.index 30 (.agg (vec 32 (bys f))) (.int .i64 (i : Int))).run Tryz.prog w = .ok (.int .u8 ((f i).toNat : Int)) w := by
  have hv := vec_at 32 (bys f) i hi
  simp [Instr.index, run_underlying Tryz.underlying30, asIntOf, go_sem, Tryz.sizeOf5, Tryz.isAgg5, hv, hi]
  rfl
attribute [local go_sem] xor_u8

set_option maxHeartbeats 1000000 in
set_option maxRecDepth 100000 in
theorem xor_any (a b : Nat → UInt8) (w : World) :
    Calls Tryz.prog 95 #[.agg (vec 32 (bys a)), .agg (vec 32 (bys b))] w fun e w' => e = .returned (.agg (vec 32 (bys (xorF a b)))) ∧ Below w.heap.size w w' := by
  obtain ⟨V, hV⟩ : ∃ V, V = ((w.alloc (.cells (vec 32 (bys a)) 30)).alloc (.cells (vec 32 (bys b)) 30)).alloc (.cells (vec 32 (bys zb)) 30) := ⟨_, rfl⟩
  have hA0 : Arr V w.heap.size 30 32 (bys a) := by rw [hV]; exact (((Arr.newAt _ _ _ _ (by simp)).alloc _).alloc _)
  have hA1 : Arr V (w.heap.size + 1) 30 32 (bys b) := by rw [hV]; exact ((Arr.newAt _ _ _ _ (by simp)).alloc _)
  have hA2 : Arr V (w.heap.size + 2) 30 32 (bys zb) := by rw [hV]; exact (Arr.newAt _ _ _ _ (by simp))
  have hB : Below w.heap.size w V := by rw [hV]; exact ((((Below.refl _ _).alloc (by simp <;> omega) _).alloc (by simp <;> omega) _).alloc (by simp <;> omega) _)
  have hsz : V.heap.size = w.heap.size + 3 := by rw [hV]; simp
  have HI := Lib.hid (And.intro hA0 (And.intro hA1 (And.intro hA2 hB)))
  have HW := Lib.hid hV
  clear hA0 hA1 hA2 hB hsz hV
  go_enter Tryz.func95, Tryz.ntmps95
  go_upto_region 1 with fail
  rw [← HW.out]
  clear HW
  go_upto_region 2 with (first
    | ((with_reducible show wpList _ _ _ (Oper.mk _ (.load _ _) _ _ _ _ :: _) _ _); refine wl_load rfl 30 _ rfl _ rfl _ (run_load_arr HI.out.2.1 Tryz.underlying30 rfl info26) ?_))
  go_loopw [8] (fun i W => ∃ k : Nat, k ≤ 32 ∧ i = .int .i64 k ∧ Arr W w.heap.size 30 32 (bys (xorTo a b k)) ∧ Arr W (w.heap.size + 2) 30 32 (bys zb) ∧ Below w.heap.size w W) (fun i _ => 32 - (intOf i).toNat)
  case atStart => exact ⟨0, by decide, rfl, HI.out.1, HI.out.2.2.1, HI.out.2.2.2⟩
  case round =>
    obtain ⟨k, hk, rfl, hA, hR, hB⟩ := hrel
    by_cases hlt : k < 32
    · have hix := fun W => index32 b k hlt W
      have hc : wr.cell? ⟨w.heap.size, k, none⟩ = some (.int .u8 ((a k).toNat : Int)) := by
        have := hA.cell (i := k) hlt
        rw [bys, xorTo_at] at this
        exact this
      have hf := hA.frozen k
      have HAl := Lib.hid (And.intro hA (And.intro hR hB))
      clear hA hR hB hk
      go_wp2
      go_roundw
      case rel =>
        obtain ⟨hA, hR, hB⟩ := HAl.out
        have hA2 := hA.set k (.int .u8 ((a k ^^^ b k).toNat : Int))
        rw [bys_upd, xorTo_upd] at hA2
        exact ⟨k + 1, by omega, by go_num, hA2, hR.far (p := ⟨w.heap.size, k, none⟩) (show w.heap.size + 2 ≠ w.heap.size by omega) _, hB.setCell (show w.heap.size ≤ w.heap.size by omega) _⟩
      case measure => simp [intOf]; omega
    · obtain rfl : k = 32 := by omega
      have hA2 : Arr wr w.heap.size 30 32 (bys (xorF a b)) := hA.congr fun j hj => by simp [bys, xorTo, xorF, hj]
      have HL := Lib.hid (And.intro hA2 (And.intro hR hB))
      clear hA hR hB hA2 hlt hk
      go_wp2_with (first
        | ((with_reducible show wpList _ _ _ (Oper.mk _ (.load _ _) _ _ _ _ :: _) _ _); refine wl_load rfl 30 _ rfl _ rfl _ (run_load_arr HL.out.1 Tryz.underlying30 rfl info26) ?_)
        | ((with_reducible show wpList _ _ _ (Oper.mk _ (.store _ _ _) _ _ _ _ :: _) _ _); refine wl_store rfl 30 _ _ rfl _ rfl _ rfl (run_store_arr HL.out.2.1 (bys (xorF a b)) info26 (bys_one _ _)) ?_))
      exact bodyPost_ret (results_cell1 rfl _ _ _ rfl (run_load_arr (HL.out.2.1.row _) Tryz.underlying30 rfl info26)) rfl ⟨rfl, below_row HL.out.2.2 (by omega) _⟩

set_option maxHeartbeats 1000000 in
set_option maxRecDepth 100000 in
theorem rxor_any (a b : Nat → UInt8) (w : World) :
    Calls Tryz.prog 75 #[.agg (vec 32 (bys a)), .agg (vec 32 (bys b))] w fun e w' => e = .returned (.agg (vec 32 (bys (xorF a b)))) ∧ Below w.heap.size w w' := by
  obtain ⟨V, hV⟩ : ∃ V, V = ((w.alloc (.cells (vec 32 (bys a)) 30)).alloc (.cells (vec 32 (bys b)) 30)).alloc (.cells (vec 32 (bys zb)) 30) := ⟨_, rfl⟩
  have hA0 : Arr V w.heap.size 30 32 (bys a) := by rw [hV]; exact (((Arr.newAt _ _ _ _ (by simp)).alloc _).alloc _)
  have hA1 : Arr V (w.heap.size + 1) 30 32 (bys b) := by rw [hV]; exact ((Arr.newAt _ _ _ _ (by simp)).alloc _)
  have hA2 : Arr V (w.heap.size + 2) 30 32 (bys zb) := by rw [hV]; exact (Arr.newAt _ _ _ _ (by simp))
  have hB : Below w.heap.size w V := by rw [hV]; exact ((((Below.refl _ _).alloc (by simp <;> omega) _).alloc (by simp <;> omega) _).alloc (by simp <;> omega) _)
  have hsz : V.heap.size = w.heap.size + 3 := by rw [hV]; simp
  have HI := Lib.hid (And.intro hA0 (And.intro hA1 (And.intro hA2 hB)))
  have HW := Lib.hid hV
  clear hA0 hA1 hA2 hB hsz hV
  go_enter Tryz.func75, Tryz.ntmps75
  go_upto_region 1 with fail
  rw [← HW.out]
  clear HW
  go_wp2
  go_loopw [6] (fun i W => ∃ k : Nat, k ≤ 32 ∧ i = .int .i64 k ∧ Hid (Arr W w.heap.size 30 32 (bys (xorTo a b k)) ∧ Arr W (w.heap.size + 1) 30 32 (bys b) ∧ Arr W (w.heap.size + 2) 30 32 (bys zb) ∧ Below w.heap.size w W)) (fun i _ => 32 - (intOf i).toNat)
  case atStart => exact ⟨0, by decide, rfl, Lib.hid ⟨HI.out.1, HI.out.2.1, HI.out.2.2.1, HI.out.2.2.2⟩⟩
  case round =>
    obtain ⟨k, hk, rfl, hS0⟩ := hrel
    by_cases hlt : k < 32
    · go_upto_region 4 with fail
      have hA : Arr wr.drew w.heap.size 30 32 (bys (xorTo a b k)) := hS0.out.1
      have hc0 := hA.cell (i := k) hlt
      rw [bys, xorTo_at] at hc0
      have hf0 := hA.frozen k
      refine wp_region_held_drew (S := fun Y => Arr Y (w.heap.size + 1) 30 32 (bys b) ∧ Arr Y (w.heap.size + 2) 30 32 (bys zb) ∧ Below w.heap.size w Y) (by kernel_rfl) ⟨hS0.out.2.1, hS0.out.2.2.1, below_drewN hS0.out.2.2.2 1⟩ (fun hS => ?_)
      (refine held_take (i := 0) (oi := ?ot1) (v := ?vt1) ?at1 (by kernel_rfl) (by kernel_rfl) (by kernel_rfl) ?bt1 ?ct1 ?dt1 (by assumption) ?rt1; (case at1 => (simp only [List.getElem?_toArray, List.getElem?_cons_zero]; rfl)); (case bt1 => exact fun _ _ _ h => h); (case ct1 => kernel_rfl); (case dt1 => (intro W hW; (try dsimp only at hW); go_split_ands; go_simp; (try with_reducible rfl))); (case' rt1 => simp only [Act.put, List.setIfInBounds_toArray, List.set_cons_zero, List.set_cons_succ]))
      (refine held_take (i := 1) (oi := ?ot2) (v := ?vt2) ?at2 (by kernel_rfl) (by kernel_rfl) (by kernel_rfl) ?bt2 ?ct2 ?dt2 (by assumption) ?rt2; (case at2 => (simp only [List.getElem?_toArray, List.getElem?_cons_zero, List.getElem?_cons_succ]; rfl)); (case bt2 => exact fun _ _ _ h => h); (case ct2 => kernel_rfl); (case dt2 => (intro W hW; (try dsimp only at hW); go_split_ands; go_simp; (try with_reducible rfl))); (case' rt2 => simp only [Act.put, List.setIfInBounds_toArray, List.set_cons_zero, List.set_cons_succ]))
      (refine held_take (i := 3) (oi := ?ot3) (v := ?vt3) ?at3 (by kernel_rfl) (by kernel_rfl) (by kernel_rfl) ?bt3 ?ct3 ?dt3 (by assumption) ?rt3; (case at3 => (simp only [List.getElem?_toArray, List.getElem?_cons_zero, List.getElem?_cons_succ]; rfl)); (case bt3 => exact fun _ _ _ h => h); (case ct3 => kernel_rfl); (case dt3 => (intro W hW; (try dsimp only at hW); go_split_ands; go_simp; (try with_reducible rfl))); (case' rt3 => simp only [Act.put, List.setIfInBounds_toArray, List.set_cons_zero, List.set_cons_succ]))
      (refine held_take (i := 4) (oi := ?ot4) (v := ?vt4) ?at4 (by kernel_rfl) (by kernel_rfl) (by kernel_rfl) ?bt4 ?ct4 ?dt4 (by assumption) ?rt4; (case at4 => (simp only [List.getElem?_toArray, List.getElem?_cons_zero, List.getElem?_cons_succ]; rfl)); (case bt4 => exact fun _ _ _ h => h); (case ct4 => kernel_rfl); (case dt4 => (intro W hW; (try dsimp only at hW); go_split_ands; go_simp; (try with_reducible rfl))); (case' rt4 => simp only [Act.put, List.setIfInBounds_toArray, List.set_cons_zero, List.set_cons_succ]))
      (refine held_take (i := 5) (oi := ?ot5) (v := .int .u8 ((b k).toNat : Int)) ?at5 (by kernel_rfl) (by kernel_rfl) (by kernel_rfl) ?bt5 ?ct5 ?dt5 (by assumption) ?rt5; (case at5 => (simp only [List.getElem?_toArray, List.getElem?_cons_zero, List.getElem?_cons_succ]; rfl)); (case bt5 => exact fun _ _ _ h => h); (case ct5 => kernel_rfl); (case dt5 => (intro W hW; have hc : W.cell? ⟨w.heap.size + 1, k, none⟩ = some (.int .u8 ((b k).toNat : Int)) := hW.1.cell (i := k) hlt; clear hW; go_simp; (try with_reducible rfl))); (case' rt5 => simp only [Act.put, List.setIfInBounds_toArray, List.set_cons_zero, List.set_cons_succ]))
      refine held_one (i := 2) (oi := ?ot6) (by kernel_rfl) ?at6 ?ct6 (fun K2 hK2 => ?_)
      (case at6 => (simp only [List.getElem?_toArray, List.getElem?_cons_zero, List.getElem?_cons_succ]; rfl))
      (case ct6 => kernel_rfl)
      go_simp
      refine hK2 _ _ hS (fun hS2 => ?_)
      clear hK2 K2
      (refine held_take (i := 6) (oi := ?ot7) (v := ?vt7) ?at7 (by kernel_rfl) (by kernel_rfl) (by kernel_rfl) ?bt7 ?ct7 ?dt7 (by assumption) ?rt7; (case at7 => (simp only [List.getElem?_toArray, List.getElem?_cons_zero, List.getElem?_cons_succ]; rfl)); (case bt7 => exact fun _ _ _ h => h); (case ct7 => kernel_rfl); (case dt7 => (intro W hW; (try dsimp only at hW); go_split_ands; go_simp; (try with_reducible rfl))); (case' rt7 => simp only [Act.put, List.setIfInBounds_toArray, List.set_cons_zero, List.set_cons_succ]))
      (refine held_take (i := 7) (oi := ?ot8) (v := ?vt8) ?at8 (by kernel_rfl) (by kernel_rfl) (by kernel_rfl) ?bt8 ?ct8 ?dt8 (by assumption) ?rt8; (case at8 => (simp only [List.getElem?_toArray, List.getElem?_cons_zero, List.getElem?_cons_succ]; rfl)); (case bt8 => exact fun _ _ _ h => h); (case ct8 => kernel_rfl); (case dt8 => (intro W hW; (try dsimp only at hW); go_split_ands; go_simp; (try with_reducible rfl))); (case' rt8 => simp only [Act.put, List.setIfInBounds_toArray, List.set_cons_zero, List.set_cons_succ]))
      refine held_one (i := 8) (oi := ?ot9) (by kernel_rfl) ?at9 ?ct9 (fun K8 hK8 => ?_)
      (case at9 => (simp only [List.getElem?_toArray, List.getElem?_cons_zero, List.getElem?_cons_succ]; rfl))
      (case ct9 => kernel_rfl)
      go_simp
      refine hK8 _ _ ⟨hS2.1.far (p := ⟨w.heap.size, k, none⟩) (show w.heap.size + 1 ≠ w.heap.size by omega) _, hS2.2.1.far (p := ⟨w.heap.size, k, none⟩) (show w.heap.size + 2 ≠ w.heap.size by omega) _, hS2.2.2.setCell (Nat.le_refl _) _⟩ (fun hS8 => ?_)
      clear hK8 K8
      refine wpAnyH_done (by kernel_rfl) ?_ _
      have hA2 := hA.set k (.int .u8 ((a k ^^^ b k).toNat : Int))
      rw [bys_upd, xorTo_upd] at hA2
      have HN := Lib.hid (And.intro hA2 hS8)
      clear hA hA2 hc0 hf0 hS8
      go_wp2
      go_roundw
      case rel => exact ⟨k + 1, by omega, by go_num, Lib.hid HN.out⟩
      case measure => simp [intOf]; omega
    · obtain rfl : k = 32 := by omega
      have hA2 : Arr wr w.heap.size 30 32 (bys (xorF a b)) := hS0.out.1.congr fun j hj => by simp [bys, xorTo, xorF, hj]
      have HL := Lib.hid (And.intro hA2 hS0.out.2.2)
      clear hA2 hlt hk hS0
      go_wp2_with (first
        | ((with_reducible show wpList _ _ _ (Oper.mk _ (.load _ _) _ _ _ _ :: _) _ _); refine wl_load rfl 30 _ rfl _ rfl _ (run_load_arr HL.out.1 Tryz.underlying30 rfl info26) ?_)
        | ((with_reducible show wpList _ _ _ (Oper.mk _ (.store _ _ _) _ _ _ _ :: _) _ _); refine wl_store rfl 30 _ _ rfl _ rfl _ rfl (run_store_arr HL.out.2.1 (bys (xorF a b)) info26 (bys_one _ _)) ?_))
      exact bodyPost_ret (results_cell1 rfl _ _ _ rfl (run_load_arr (HL.out.2.1.row _) Tryz.underlying30 rfl info26)) rfl ⟨rfl, below_row HL.out.2.2 (by omega) _⟩
end Go.Proofs.YtfeiplaiekbdkaaGreatDoor
