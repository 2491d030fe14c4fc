/- The reference's Digits. -/
import Derived.BigQuiet
import Derived.Deep.QuietTactic
import Derived.Test.YtepgndgelfkcnaaDoorDigs
import Derived.Test.YtepgndgelfkcnaaDoorHeld
namespace Go.Proofs.YtepgndgelfkcnaaDoor
open Go.RowKit
attribute [local go_sem ↓ high] zeroV26 zeroV67

def rdTo (m : Nat → UInt8) (k : Nat) : Nat → Nat := fun i => if i < 2 * k then halfN m i else 0
theorem rdTo_next (m : Nat → UInt8) (k : Nat) : upd (upd (rdTo m k) (2 * k) ((m k).toNat / 16)) (2 * k + 1) ((m k).toNat % 16) = rdTo m (k + 1) := by
  funext j
  by_cases e1 : j = 2 * k + 1
  · subst e1; simp [upd, rdTo, ← halfN_odd, show 2 * k + 1 < 2 * (k + 1) by omega]
  · by_cases e0 : j = 2 * k
    · subst e0; simp [upd, rdTo, ← halfN_even, show 2 * k < 2 * (k + 1) by omega]
    · rw [upd_ne _ _ _ _ e1, upd_ne _ _ _ _ e0]
      unfold rdTo
      by_cases h : j < 2 * k
      · rw [if_pos h, if_pos (by omega)]
      · rw [if_neg h, if_neg (by omega)]
theorem rdTo_end (m : Nat → UInt8) : ∀ i, i < 67 → upd (upd (upd (rdTo m 32) 64 (digN m 64)) 65 (digN m 65)) 66 (digN m 66) i = digN m i := fun i hi => by
  by_cases e6 : i = 66
  · subst e6; simp [upd]
  · by_cases e5 : i = 65
    · subst e5; simp [upd]
    · by_cases e4 : i = 64
      · subst e4; simp [upd]
      · rw [upd_ne _ _ _ _ e6, upd_ne _ _ _ _ e5, upd_ne _ _ _ _ e4, digN_lo m (by omega)]
        exact if_pos (by omega)
theorem sumN_two (m : Nat → UInt8) (k : Nat) : ((sumN m (2 * (k + 1)) : Nat) : Int) = (sumN m (2 * k) : Int) + (30 - ((m k).toNat / 16 : Nat) - ((m k).toNat % 16 : Nat)) := by
  rw [show 2 * (k + 1) = 2 * k + 1 + 1 by omega, sumN_succ, sumN_succ, halfN_even, halfN_odd]
  omega
theorem idx32 (f : Nat → UInt8) (i : Nat) (hi : i < 32) (w : World) :
    (Instr.index 23 (.agg (vec 32 (bys f))) (.int .i64 (i : Int))).run Tryd.prog w = .ok (.int .u8 ((f i).toNat : Int)) w := by
  have hv := vec_at 32 (bys f) i hi
  simp [Instr.index, run_underlying Tryd.underlying23, asIntOf, go_sem, Tryd.sizeOf5, Tryd.isAgg5, hv, hi]
  rfl

set_option maxHeartbeats 1000000 in
set_option maxRecDepth 100000 in
theorem rdigits_any (m : Nat → UInt8) (w : World) :
    Calls Tryd.prog 14 #[.agg (vec 32 (bys m))] w fun e w' => e = .returned (.agg (vec 67 (ints (digN m)))) ∧ Below w.heap.size w w' := by
  obtain ⟨V, hV⟩ : ∃ V, V = ((w.alloc (.cells (vec 32 (bys m)) 23)).alloc (.cells (vec 67 (ints z67)) 32)).alloc (.cells (vec 67 (ints z67)) 32) := ⟨_, rfl⟩
  have hM : Arr V w.heap.size 23 32 (bys m) := by rw [hV]; exact ((Arr.newAt _ _ _ _ (by simp)).alloc _).alloc _
  have hR : Arr V (w.heap.size + 1) 32 67 (ints z67) := by rw [hV]; exact (Arr.newAt _ _ _ _ (by simp)).alloc _
  have hA : Arr V (w.heap.size + 1 + 1) 32 67 (ints z67) := by rw [hV]; exact Arr.newAt _ _ _ _ (by simp)
  have hB : Below w.heap.size w V := by rw [hV]; exact ((((Below.refl _ _).alloc (by simp <;> omega) _).alloc (by simp <;> omega) _).alloc (by simp <;> omega) _)
  have HA := Lib.hid (And.intro hM (And.intro hR (And.intro hA hB)))
  have HW := Lib.hid hV
  clear hV hM hR hA hB
  go_enter Tryd.func14, Tryd.ntmps14
  go_upto_region 2 with fail
  rw [← HW.out]
  clear HW
  go_wp2_with ((with_reducible show wpList _ _ _ (Oper.mk _ (.load _ _) _ _ _ _ :: _) _ _); refine wl_load rfl 23 _ rfl _ rfl _ (run_load_arr HA.out.1 Tryd.underlying23 rfl info26) ?_)
  go_loopw [4, 8] (fun s i W => ∃ k : Nat, k ≤ 32 ∧ i = .int .i64 k ∧ s = .int .i64 (sumN m (2 * k) : Int) ∧ Hid (Arr W (w.heap.size + 1) 32 67 (ints z67) ∧ Arr W (w.heap.size + 1 + 1) 32 67 (ints (rdTo m k)) ∧ Below w.heap.size w W)) (fun _ i _ => 32 - (intOf i).toNat)
  case atStart => exact ⟨0, Nat.zero_le _, rfl, rfl, Lib.hid ⟨HA.out.2.1, HA.out.2.2.1.congr fun i _ => by simp [ints, z67, rdTo], HA.out.2.2.2⟩⟩
  case round =>
    obtain ⟨k, hk, rfl, rfl, hR⟩ := hrel
    by_cases hlt : k < 32
    · have hix := fun W => idx32 m k hlt W
      have hm := (m k).toNat_lt
      have hs := sumN_le m (2 * k)
      have hA := hR.out.2.1
      have hc0 := hA.cell (i := 2 * k) (by omega)
      have hf0 := hA.frozen (2 * k)
      have hc1 : ∀ u, (wr.setCell ⟨w.heap.size + 1 + 1, 2 * k, none⟩ u).cell? ⟨w.heap.size + 1 + 1, 2 * k + 1, none⟩ = some _ := fun u => (hA.set (2 * k) u).cell (i := 2 * k + 1) (by omega)
      have hf1 : ∀ u, (wr.setCell ⟨w.heap.size + 1 + 1, 2 * k, none⟩ u).frozen? ⟨w.heap.size + 1 + 1, 2 * k + 1, none⟩ = false := fun u => (hA.set (2 * k) u).frozen (2 * k + 1)
      clear hA
      go_upto_region 7 with fail
      obtain ⟨V2, hV2⟩ : ∃ V2, V2 = (wr.setCell ⟨w.heap.size + 1 + 1, 2 * k, none⟩ (.int .i64 (((m k).toNat : Int) / 16))).setCell ⟨w.heap.size + 1 + 1, 2 * k + 1, none⟩ (.int .i64 (((m k).toNat : Int) % 16)) := ⟨_, rfl⟩
      have e0 : ((m k).toNat : Int) / 16 = (((m k).toNat / 16 : Nat) : Int) := by omega
      have e1 : ((m k).toNat : Int) % 16 = (((m k).toNat % 16 : Nat) : Int) := by omega
      have hA2 := (hR.out.2.1.set (2 * k) (.int .i64 (((m k).toNat : Int) / 16))).set (2 * k + 1) (.int .i64 (((m k).toNat : Int) % 16))
      rw [← hV2] at hA2 ⊢
      rw [e0, e1, ints_upd, ints_upd, rdTo_next] at hA2
      have d0 := hA2.cell (i := 2 * k) (by omega)
      have d1 := hA2.cell (i := 2 * k + 1) (by omega)
      unfold ints at d0 d1
      rw [show rdTo m (k + 1) (2 * k) = (m k).toNat / 16 by unfold rdTo; rw [if_pos (by omega), halfN_even], ← e0] at d0
      rw [show rdTo m (k + 1) (2 * k + 1) = (m k).toNat % 16 by unfold rdTo; rw [if_pos (by omega), halfN_odd], ← e1] at d1
      have hR2 : Arr V2 (w.heap.size + 1) 32 67 (ints z67) := by
        rw [hV2]; exact (hR.out.1.far (p := ⟨w.heap.size + 1 + 1, 2 * k, none⟩) (show w.heap.size + 1 ≠ w.heap.size + 1 + 1 by omega) _).far (p := ⟨w.heap.size + 1 + 1, 2 * k + 1, none⟩) (show w.heap.size + 1 ≠ w.heap.size + 1 + 1 by omega) _
      have hB2 : Below w.heap.size w V2 := by
        rw [hV2]; exact (hR.out.2.2.setCell (p := ⟨w.heap.size + 1 + 1, 2 * k, none⟩) (show w.heap.size ≤ w.heap.size + 1 + 1 by omega) _).setCell (p := ⟨w.heap.size + 1 + 1, 2 * k + 1, none⟩) (show w.heap.size ≤ w.heap.size + 1 + 1 by omega) _
      have HN := Lib.hid (And.intro hR2 (And.intro hA2 hB2))
      have HE := Lib.hid (And.intro e0 e1)
      clear hV2 hA2 hR2 hB2 hc0 hf0 hc1 hf1 hix hR e0 e1
      go_quiet (fail)
      go_wp2
      go_roundw
      case rel => exact ⟨k + 1, by omega, by simp, by rw [sumN_two, ← HE.out.1, ← HE.out.2], Lib.hid ⟨HN.out.1.drewN nq, HN.out.2.1.drewN nq, below_drewN HN.out.2.2 nq⟩⟩
      case measure => simp [intOf]; omega
    · obtain rfl : k = 32 := by omega
      rw [show 2 * 32 = 64 from rfl]
      have hs := sumN_le m 64
      have hA := hR.out.2.1
      have hc0 := hA.cell (i := 64) (by omega)
      have hf0 := hA.frozen 64
      have hc1 : ∀ u, (wr.setCell ⟨w.heap.size + 1 + 1, 64, none⟩ u).cell? ⟨w.heap.size + 1 + 1, 65, none⟩ = some _ := fun u => (hA.set 64 u).cell (i := 65) (by omega)
      have hf1 : ∀ u, (wr.setCell ⟨w.heap.size + 1 + 1, 64, none⟩ u).frozen? ⟨w.heap.size + 1 + 1, 65, none⟩ = false := fun u => (hA.set 64 u).frozen 65
      have hc2 : ∀ u v, ((wr.setCell ⟨w.heap.size + 1 + 1, 64, none⟩ u).setCell ⟨w.heap.size + 1 + 1, 65, none⟩ v).cell? ⟨w.heap.size + 1 + 1, 66, none⟩ = some _ := fun u v => ((hA.set 64 u).set 65 v).cell (i := 66) (by omega)
      have hf2 : ∀ u v, ((wr.setCell ⟨w.heap.size + 1 + 1, 64, none⟩ u).setCell ⟨w.heap.size + 1 + 1, 65, none⟩ v).frozen? ⟨w.heap.size + 1 + 1, 66, none⟩ = false := fun u v => ((hA.set 64 u).set 65 v).frozen 66
      have hb0 : bits .and .i64 ((sumN m 64 : Int) / 256) 15 = ((digN m 64 : Nat) : Int) := by rw [digN_64, ← and15_i64 _ (by omega)]; congr 1
      have hb1 : bits .and .i64 ((sumN m 64 : Int) / 16) 15 = ((digN m 65 : Nat) : Int) := by rw [digN_65, ← and15_i64 _ (by omega)]; congr 1
      have hb2 : bits .and .i64 (sumN m 64 : Int) 15 = ((digN m 66 : Nat) : Int) := by rw [digN_66, ← and15_i64 _ (by omega)]
      clear hA hk hlt
      go_upto_region 10 with fail
      obtain ⟨V3, hV3⟩ : ∃ V3, V3 = ((wr.setCell ⟨w.heap.size + 1 + 1, 64, none⟩ (.int .i64 (digN m 64 : Int))).setCell ⟨w.heap.size + 1 + 1, 65, none⟩ (.int .i64 (digN m 65 : Int))).setCell ⟨w.heap.size + 1 + 1, 66, none⟩ (.int .i64 (digN m 66 : Int)) := ⟨_, rfl⟩
      have h3 := ((hR.out.2.1.set 64 (.int .i64 (digN m 64 : Int))).set 65 (.int .i64 (digN m 65 : Int))).set 66 (.int .i64 (digN m 66 : Int))
      rw [← hV3, ints_upd, ints_upd, ints_upd] at h3
      rw [← hV3]
      have h3 : Arr V3 (w.heap.size + 1 + 1) 32 67 (ints (digN m)) := h3.congr fun i hi => by unfold ints; rw [rdTo_end m i hi]
      have ne : w.heap.size + 1 ≠ w.heap.size + 1 + 1 := by omega
      have le : w.heap.size ≤ w.heap.size + 1 + 1 := by omega
      have h4 : Arr V3 (w.heap.size + 1) 32 67 (ints z67) := by
        rw [hV3]; exact ((hR.out.1.far (p := ⟨w.heap.size + 1 + 1, 64, none⟩) ne _).far (p := ⟨w.heap.size + 1 + 1, 65, none⟩) ne _).far (p := ⟨w.heap.size + 1 + 1, 66, none⟩) ne _
      have h5 : Below w.heap.size w V3 := by
        rw [hV3]; exact ((hR.out.2.2.setCell (p := ⟨w.heap.size + 1 + 1, 64, none⟩) le _).setCell (p := ⟨w.heap.size + 1 + 1, 65, none⟩) le _).setCell (p := ⟨w.heap.size + 1 + 1, 66, none⟩) le _
      have HL := Lib.hid (And.intro h3 (And.intro h4 h5))
      clear hV3 h3 h4 h5 ne le hc0 hf0 hc1 hf1 hc2 hf2 hb0 hb1 hb2 hR
      go_wp2_with (first
        | ((with_reducible show wpList _ _ _ (Oper.mk _ (.load _ _) _ _ _ _ :: _) _ _); refine wl_load rfl 32 _ rfl _ rfl _ (run_load_arr HL.out.1 Tryd.underlying32 rfl info67) ?_)
        | ((with_reducible show wpList _ _ _ (Oper.mk _ (.store _ _ _) _ _ _ _ :: _) _ _); refine wl_store rfl 32 _ _ rfl _ rfl _ rfl (run_store_arr HL.out.2.1 (ints (digN m)) info67 (ints_one _ _)) ?_))
      exact bodyPost_ret (results_cell1 rfl _ _ _ rfl (run_load_arr (HL.out.2.1.row _) Tryd.underlying32 rfl info67)) rfl ⟨rfl, below_row HL.out.2.2 (by omega) _⟩
end Go.Proofs.YtepgndgelfkcnaaDoor
