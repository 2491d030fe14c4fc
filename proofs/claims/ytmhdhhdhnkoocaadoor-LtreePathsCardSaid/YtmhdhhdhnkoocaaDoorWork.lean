/- sha.work: the rounds, in an array whose places turn. -/
import Derived.Test.YtmhdhhdhnkoocaaDoorSched
import Derived.Deep.Cut
import Derived.Deep.QuietTactic
import Derived.BigQuiet
namespace Go.Proofs.YtmhdhhdhnkoocaaDoor
open Go.RowKit
attribute [local go_sem ↓ high] zeroV32 zeroV34
attribute [local go_sem] num_add

def rot (i : Nat) (f : Nat → W32) : Nat → W32 := fun j => f ((j + i) % 8)
theorem rot_at (i k : Nat) (f : Nat → W32) (hk : k < 8) (hi : i < 64) : rot i f ((k + 64 - i) % 8) = f k := by
  unfold rot
  congr 1
  omega
theorem rot_step (i : Nat) (f : Nat → W32) (k w : W32) (hi : i < 64) : ∀ j, j < 8 →
    upd (upd (rot i f) ((3 + 64 - i) % 8) (f 3 + one k w f)) ((7 + 64 - i) % 8) (one k w f + two f) j = rot (i + 1) (rnd k w f) j := by
  intro j hj
  by_cases h7 : j = (7 + 64 - i) % 8
  · have e : (j + (i + 1)) % 8 = 0 := by omega
    unfold rot rnd
    rw [h7, upd_at, ← h7, e]; rfl
  · rw [upd_ne _ _ _ _ h7]
    by_cases h3 : j = (3 + 64 - i) % 8
    · have e : (j + (i + 1)) % 8 = 4 := by omega
      unfold rot rnd
      rw [h3, upd_at, ← h3, e]; rfl
    · rw [upd_ne _ _ _ _ h3]
      unfold rot rnd
      rw [if_neg (by omega), if_neg (by omega)]
      congr 1
      omega
theorem place_at (P : Int → Int) (i : Nat) (hP : ∀ k, P k = (((k.toNat + 64 - i) % 8 : Nat) : Int)) (hi : i < 64) (k : Int) (h0 : 0 ≤ k) (h8 : k < 8) (w : World) :
    Calls Tryd.prog 74 #[.int .i64 k, .int .i64 (i : Int)] w fun e w' => e = .returned (.int .i64 (P k)) ∧ w = w' := by
  obtain ⟨n, rfl⟩ := Int.eq_ofNat_of_zero_le h0
  rw [hP]
  exact place_any n i (by omega) hi w

theorem index64 (f : Nat → W32) (i : Nat) (hi : i < 64) (w : World) :
    (Instr.index 88 (.agg (vec 64 (wds f))) (.int .i64 (i : Int))).run Tryd.prog w = .ok (.int .u32 (num (f i))) w := by
  have hv := vec_at 64 (wds f) i hi
  simp [Instr.index, run_underlying Tryd.underlying88, asIntOf, go_sem, Tryd.sizeOf25, Tryd.isAgg25, hv, hi]
  rfl
theorem index8 (f : Nat → W32) (i : Nat) (hi : i < 8) (w : World) :
    (Instr.index 82 (.agg (vec 8 (wds f))) (.int .i64 (i : Int))).run Tryd.prog w = .ok (.int .u32 (num (f i))) w := by
  have hv := vec_at 8 (wds f) i hi
  simp [Instr.index, run_underlying Tryd.underlying82, asIntOf, go_sem, Tryd.sizeOf25, Tryd.isAgg25, hv, hi]
  rfl
set_option maxHeartbeats 1000000 in
set_option maxRecDepth 100000 in
theorem work_any (v ws : Nat → W32) (w : World) (hT : Tabs w) :
    Calls Tryd.prog 70 #[.agg (vec 8 (wds v)), .agg (vec 64 (wds ws))] w fun e w' => e = .returned (.agg (vec 8 (wds (rounds Kt ws v 64)))) ∧ Below w.heap.size w w' := by
  obtain ⟨W0, hW0⟩ : ∃ W0, W0 = ((w.alloc (.cells (vec 8 (wds v)) 82)).alloc (.cells (vec 64 (wds ws)) 88)).alloc (.cells (vec 8 (wds zw)) 82) := ⟨_, rfl⟩
  have hA : Arr W0 w.heap.size 82 8 (wds (rot 0 v)) := by
    rw [hW0]; exact (((Arr.new w _ _ _).alloc _).alloc _).congr (fun i hi => by simp [wds, rot, Nat.mod_eq_of_lt hi])
  have hM : Arr W0 (w.heap.size + 1) 88 64 (wds ws) := by rw [hW0]; exact (Arr.newAt (w.alloc (.cells (vec 8 (wds v)) 82)) 88 64 (wds ws) (by simp)).alloc _
  have hR : Arr W0 (w.heap.size + 1 + 1) 82 8 (wds zw) := by rw [hW0]; exact Arr.newAt ((w.alloc (.cells (vec 8 (wds v)) 82)).alloc (.cells (vec 64 (wds ws)) 88)) 82 8 (wds zw) (by simp)
  have hB : Below w.heap.size w W0 := by rw [hW0]; exact (((Below.refl _ _).alloc (Nat.le_refl _) _).alloc (by simp) _).alloc (by simp; omega) _
  have hI : Hid (∃ k : Nat, k ≤ 64 ∧ (Value.int .i64 0) = .int .i64 k ∧ Arr W0 w.heap.size 82 8 (wds (rot k (rounds Kt ws v k))) ∧ Arr W0 (w.heap.size + 1 + 1) 82 8 (wds zw) ∧ Below w.heap.size w W0) := Lib.hid ⟨0, by decide, rfl, hA, hR, hB⟩
  have HL := Lib.hid (run_load_arr (P := Tryd.prog) hM Tryd.underlying88 rfl info32)
  have HT := Lib.hid hT
  have HW := Lib.hid hW0
  clear hA hM hR hB hT hW0
  go_enter Tryd.func70, Tryd.ntmps70
  go_upto_region 1 with fail
  rw [← HW.out]
  clear HW
  go_wp2_with (refine wl_load rfl 88 _ rfl _ rfl _ HL.out ?_)
  clear HL
  go_loopw [18] (fun i W => ∃ k : Nat, k ≤ 64 ∧ i = .int .i64 k ∧ Arr W w.heap.size 82 8 (wds (rot k (rounds Kt ws v k))) ∧ Arr W (w.heap.size + 1 + 1) 82 8 (wds zw) ∧ Below w.heap.size w W) (fun i _ => 64 - (intOf i).toNat)
  case atStart => exact hI.out
  case round =>
    obtain ⟨i, hi, rfl, hA, hR, hB⟩ := hrel
    clear hI
    by_cases hlt : i < 64
    · obtain ⟨S, hS⟩ : ∃ S, rounds Kt ws v i = S := ⟨_, rfl⟩
      rw [hS] at hA
      obtain ⟨P, hP⟩ : ∃ P : Int → Int, ∀ k, P k = (((k.toNat + 64 - i) % 8 : Nat) : Int) := ⟨_, fun _ => rfl⟩
      have hcell : ∀ n : Nat, n < 8 → wr.cell? ⟨w.heap.size, (P n).toNat, none⟩ = some (.int .u32 (num (S n))) := fun n hn => by
        have h1 := hA.cell (i := (n + 64 - i) % 8) (by omega)
        rw [wds, rot_at i n S hn hlt] at h1
        rw [hP, Int.toNat_natCast, Int.toNat_natCast]; exact h1
      have hlo : ∀ n : Int, 0 ≤ P n := fun n => by rw [hP]; omega
      have hup : ∀ n : Int, P n < 8 := fun n => by rw [hP]; omega
      have hk := (tabs_below HT.out hB).1 i hlt
      rw [wds] at hk
      have hw : ∀ W, (Instr.index 88 (.agg (vec 64 (wds ws))) (.int .i64 (i : Int))).run Tryd.prog W = .ok (.int .u32 (num (ws i))) W := index64 ws i hlt
      have HP := Lib.hid (fun k h0 h8 W => place_at P i hP hlt k h0 h8 W)
      have HS := Lib.hid hS
      have HAl := Lib.hid (And.intro hA (And.intro hR hB))
      have HC := Lib.hid hcell
      have HK := Lib.hid hk
      have HPe := Lib.hid hP
      have HB := Lib.hid (And.intro hlo hup)
      clear hS hP hA hR hB hcell hlo hup hk hi
      go_wp2_with (go_at_call 74; refine (HP.out _ (by decide) (by decide) _).mono ?_; rintro e w1 ⟨rfl, rfl⟩)
      have c4 : wr.cell? ⟨w.heap.size, (P 4).toNat, none⟩ = some (.int .u32 (num (S 4))) := HC.out 4 (by decide)
      have c5 : wr.cell? ⟨w.heap.size, (P 5).toNat, none⟩ = some (.int .u32 (num (S 5))) := HC.out 5 (by decide)
      have c6 : wr.cell? ⟨w.heap.size, (P 6).toNat, none⟩ = some (.int .u32 (num (S 6))) := HC.out 6 (by decide)
      have c7 : wr.cell? ⟨w.heap.size, (P 7).toNat, none⟩ = some (.int .u32 (num (S 7))) := HC.out 7 (by decide)
      have l4 := HB.out.1 4
      have l5 := HB.out.1 5
      have l6 := HB.out.1 6
      have l7 := HB.out.1 7
      have g4 := HB.out.2 4
      have g5 := HB.out.2 5
      have g6 := HB.out.2 6
      have g7 := HB.out.2 7
      have hk := HK.out
      have hi64 : (i : Int) < 64 := by omega
      go_quiet (first
        | (go_at_call 75; exact quiet_eq (bigSum1_any _ _))
        | (go_at_call 76; exact quiet_eq (choose_any _ _ _ _)))
      clear c4 c5 c6 c7 l4 l5 l6 g4 g5 g6 hk
      obtain ⟨V, hV⟩ : ∃ V, V = wr.drewN nq := ⟨_, rfl⟩
      have hCV : ∀ n : Nat, n < 8 → V.cell? ⟨w.heap.size, (P n).toNat, none⟩ = some (.int .u32 (num (S n))) := by rw [hV]; exact HC.out
      have hAV : Arr V w.heap.size 82 8 (wds (rot i S)) ∧ Arr V (w.heap.size + 1 + 1) 82 8 (wds zw) ∧ Below w.heap.size w V := by rw [hV]; exact ⟨HAl.out.1, HAl.out.2.1, below_drewN HAl.out.2.2 nq⟩
      rw [← hV]
      have HCV := Lib.hid hCV
      have HAV := Lib.hid hAV
      clear hV hCV hAV HC HAl
      have c0 : V.cell? ⟨w.heap.size, (P 0).toNat, none⟩ = some (.int .u32 (num (S 0))) := HCV.out 0 (by decide)
      have c1 : V.cell? ⟨w.heap.size, (P 1).toNat, none⟩ = some (.int .u32 (num (S 1))) := HCV.out 1 (by decide)
      have c2 : V.cell? ⟨w.heap.size, (P 2).toNat, none⟩ = some (.int .u32 (num (S 2))) := HCV.out 2 (by decide)
      have l0 := HB.out.1 0
      have l1 := HB.out.1 1
      have l2 := HB.out.1 2
      have g0 := HB.out.2 0
      have g1 := HB.out.2 1
      have g2 := HB.out.2 2
      go_wp2_with fail
      go_quiet (first
        | (go_at_call 77; exact quiet_eq (bigSum0_any _ _))
        | (go_at_call 78; exact quiet_eq (most_any _ _ _ _)))
      clear c0 c1 c2 l0 l1 l2 g0 g1 g2
      obtain ⟨W1, hW1⟩ : ∃ W1, W1 = V.drewN nq := ⟨_, rfl⟩
      have hc7 : W1.cell? ⟨w.heap.size, (P 7).toNat, none⟩ = some (.int .u32 (num (S 7))) := by rw [hW1]; exact HCV.out 7 (by decide)
      have hc3 : W1.cell? ⟨w.heap.size, (P 3).toNat, none⟩ = some (.int .u32 (num (S 3))) := by rw [hW1]; exact HCV.out 3 (by decide)
      have hf : ∀ k, W1.frozen? ⟨w.heap.size, k, none⟩ = false := by rw [hW1]; exact HAV.out.1.frozen
      have l3 := HB.out.1 3
      have g3 := HB.out.2 3
      have hA1 : Arr W1 w.heap.size 82 8 (wds (rot i S)) ∧ Arr W1 (w.heap.size + 1 + 1) 82 8 (wds zw) ∧ Below w.heap.size w W1 := by rw [hW1]; exact ⟨HAV.out.1, HAV.out.2.1, below_drewN HAV.out.2.2 nq⟩
      have hne : (P 3).toNat ≠ (P 7).toNat := by
        have h3 := HPe.out 3
        have h7 := HPe.out 7
        rw [h3, h7, Int.toNat_natCast, Int.toNat_natCast]
        have e3 : (3 : Int).toNat = 3 := rfl
        have e7 : (7 : Int).toNat = 7 := rfl
        rw [e3, e7]; omega
      have hx7 : ∀ u, (W1.setCell ⟨w.heap.size, (P 3).toNat, none⟩ u).cell? ⟨w.heap.size, (P 7).toNat, none⟩ = some (.int .u32 (num (S 7))) := fun u =>
        (World.cell?_setCell_other W1 _ _ _ (by intro e; injection e with _ e2; exact hne e2)).trans hc7
      have hf7 : ∀ u k, (W1.setCell ⟨w.heap.size, (P 3).toNat, none⟩ u).frozen? ⟨w.heap.size, k, none⟩ = false := fun u k => (hA1.1.set _ u).frozen k
      have HA1 := Lib.hid hA1
      rw [← hW1]
      clear hW1 hA1 hc7 hne
      go_wp2
      go_roundw
      case rel =>
        obtain ⟨hA, hR, hB⟩ := HA1.out
        have e3 : (P 3).toNat = (3 + 64 - i) % 8 := by rw [HPe.out 3]; rfl
        have e7 : (P 7).toNat = (7 + 64 - i) % 8 := by rw [HPe.out 7]; rfl
        have hA2 := ((hA.set (P 3).toNat (.int .u32 (num (S 3 + one (Kt i) (ws i) S)))).set (P 7).toNat (.int .u32 (num (one (Kt i) (ws i) S + two S))))
        rw [wds_upd, wds_upd, e3, e7] at hA2
        have hA3 := hA2.congr (f' := wds (rot (i + 1) (rounds Kt ws v (i + 1)))) (fun j hj => by
          rw [rounds, HS.out]
          simp only [wds]
          rw [rot_step i S _ _ hlt j hj])
        rw [← e3, ← e7] at hA3
        refine ⟨i + 1, by omega, by go_num, hA3, (hR.far (p := ⟨w.heap.size, _, none⟩) (show w.heap.size + 1 + 1 ≠ w.heap.size by omega) _).far (p := ⟨w.heap.size, _, none⟩) (show w.heap.size + 1 + 1 ≠ w.heap.size by omega) _, ?_⟩
        exact (hB.setCell (show w.heap.size ≤ w.heap.size by omega) _).setCell (show w.heap.size ≤ w.heap.size by omega) _
      case measure => simp [intOf]; omega
    · obtain rfl : i = 64 := by omega
      have hA2 : Arr wr w.heap.size 82 8 (wds (rounds Kt ws v 64)) := hA.congr fun j hj => by simp only [wds, rot]; rw [show (j + 64) % 8 = j by omega]
      have HL := Lib.hid (run_load_arr (P := Tryd.prog) hA2 Tryd.underlying82 rfl info34)
      have HW := Lib.hid (run_store_arr (P := Tryd.prog) hR (wds (rounds Kt ws v 64)) info34 (wds_one _ _))
      have HR2 := Lib.hid (run_load_arr (P := Tryd.prog) (hR.row (wds (rounds Kt ws v 64))) Tryd.underlying82 rfl info34)
      have HB := Lib.hid (below_row hB (show w.heap.size ≤ w.heap.size + 1 + 1 by omega) (vec 8 (wds (rounds Kt ws v 64))))
      clear hA hR hB hA2 hlt hi
      go_wp2_with (first
        | (refine wl_load rfl 82 _ rfl _ rfl _ HL.out ?_)
        | (refine wl_store rfl 82 _ _ rfl _ rfl _ rfl HW.out ?_))
      exact bodyPost_ret (results_cell1 rfl _ _ _ rfl HR2.out) rfl ⟨rfl, HB.out⟩
end Go.Proofs.YtmhdhhdhnkoocaaDoor
