/- portreeveref03.Block. -/
import Derived.Test.YtfeiplaiekbdkaaGreatDoorRTab
namespace Go.Proofs.YtfeiplaiekbdkaaGreatDoor
open Go.RowKit
attribute [local go_sem ↓ high] zeroV32 zeroV34
attribute [local go_sem] u32_unsigned shr3 shr10 num_xor num_and num_or num_add num_not wrap_z8 shl24 shl16 shl8
/-- The blocks that stay as they are, and what lay there. -/
def RB (w : World) (g5 : Nat) (h : Nat → W32) (Y : World) : Prop :=
  Arr Y w.heap.size 129 8 (wds h) ∧ Arr Y (w.heap.size + 1) 129 8 (wds zw) ∧ Arr Y g5 159 64 (wds Kt) ∧ Below w.heap.size w Y
set_option maxRecDepth 100000 in
theorem RB.drew {w : World} {g5 : Nat} {h : Nat → W32} {Y : World} (H : RB w g5 h Y) (n : Nat) : RB w g5 h (Y.drewN n) := ⟨H.1, H.2.1, H.2.2.1, below_drewN H.2.2.2 n⟩
set_option maxRecDepth 100000 in
theorem RB.far {w : World} {g5 : Nat} {h : Nat → W32} {Y : World} (H : RB w g5 h Y) {p : Addr} (h0 : w.heap.size + 1 < p.block) (h5 : g5 ≠ p.block) (u : Value) : RB w g5 h (Y.setCell p u) :=
  ⟨H.1.far (by omega) u, H.2.1.far (by omega) u, H.2.2.1.far h5 u, H.2.2.2.setCell (by omega) u⟩
set_option maxRecDepth 100000 in
theorem RB.row {w : World} {g5 : Nat} {h : Nat → W32} {Y : World} (H : RB w g5 h Y) {p : Nat} (h0 : w.heap.size + 1 < p) (h5 : g5 ≠ p) (c : Array Value) : RB w g5 h (Y.setRow p c) :=
  ⟨H.1.rowFar (by omega) c, H.2.1.rowFar (by omega) c, H.2.2.1.rowFar h5 c, below_row H.2.2.2 (by omega) c⟩
set_option maxRecDepth 100000 in
theorem RB.alloc {w : World} {g5 : Nat} {h : Nat → W32} {Y : World} (H : RB w g5 h Y) (o : Obj) : RB w g5 h (Y.alloc o) :=
  ⟨H.1.alloc o, H.2.1.alloc o, H.2.2.1.alloc o, H.2.2.2.alloc (H.2.2.2.size) o⟩
set_option maxRecDepth 100000 in
theorem addr_off {w : World} {a : Addr} {n : Nat} {v : Value} (h0 : 0 < n) (h : w.cell? (a.add n) = some v) : w.cell? ⟨a.block, a.off + n, none⟩ = some v := by
  unfold Addr.add at h; rwa [if_neg (by omega)] at h
set_option maxRecDepth 100000 in
theorem drew_trans {a b c : World} (h : ∃ n, b = a.drewN n) (h2 : ∃ m, c = b.drewN m) : ∃ n, c = a.drewN n := by
  obtain ⟨n, rfl⟩ := h
  obtain ⟨m, rfl⟩ := h2
  exact ⟨n + m, by rw [World.drewN_drewN]⟩

set_option maxHeartbeats 2000000 in
set_option maxRecDepth 100000 in
theorem rblock_any (h : Nat → W32) (b : Nat → UInt8) (A : Option Addr) (c : Nat) (w : World) (hb : Lies w w.heap.size 1 A 64 (u8s (l64 b))) :
    Calls Tryz.prog 98 #[.agg (vec 8 (wds h)), .slice A 64 c] w fun e w' => e = .returned (.agg (vec 8 (wds (comp h b)))) ∧ Below w.heap.size w w' := by
  obtain ⟨a, rfl, hab, hcell⟩ := hb.2 (by decide)
  have hby : ∀ j, j < 64 → w.cell? (a.add j) = some (.int .u8 (num (z8 (b j)))) := fun j hj => by
    have := hcell j (by simp [u8s, l64, hj])
    rw [this]
    simp only [u8s_l64, List.getElem_map, List.getElem_range, bys, Nat.zero_add, num_z8]
  obtain ⟨W0, hW0⟩ : ∃ W0, W0 = (w.alloc (.cells (vec 8 (wds h)) 129)).alloc (.cells (vec 8 (wds zw)) 129) := ⟨_, rfl⟩
  have hA : Arr W0 w.heap.size 129 8 (wds h) := by rw [hW0]; exact (Arr.new w _ _ _).alloc _
  have hR : Arr W0 (w.heap.size + 1) 129 8 (wds zw) := by rw [hW0]; exact Arr.newAt (w.alloc (.cells (vec 8 (wds h)) 129)) 129 8 (wds zw) (by simp)
  have hB : Below w.heap.size w W0 := by rw [hW0]; exact ((Below.refl _ _).alloc (Nat.le_refl _) _).alloc (by simp) _
  have hsz : W0.heap.size = w.heap.size + 1 + 1 := by rw [hW0]; simp
  have HI := Lib.hid (And.intro hA (And.intro hR (And.intro hB hsz)))
  have HY := Lib.hid hby
  have HAB := Lib.hid hab
  have HW := Lib.hid hW0
  clear hA hR hB hW0 hsz hb hcell hby hab
  go_enter Tryz.func98, Tryz.ntmps98
  go_upto_region 1 with fail
  rw [← HW.out]
  clear HW
  have HX : Hid (∀ W1, Below W0.heap.size W0 W1 → (storeVar 159 ⟨W1.heap.size, 0, none⟩ (.agg (vec 64 (wds Kt)))).run Tryz.prog (W1.alloc (.cells (vec 64 (wds zw)) 159)) = .ok () ((W1.alloc (.cells (vec 64 (wds zw)) 159)).setRow W1.heap.size (vec 64 (wds Kt)))) :=
    Lib.hid fun W1 _ => run_store_arr (P := Tryz.prog) (Arr.new W1 _ _ _) (wds Kt) info32 (wds_one _ _)
  go_upto_region 2 with (first
    | (go_at_call 111; refine (rtable_any _).mono ?_; rintro e w1 ⟨rfl, hd⟩; have HD := Lib.hid hd; clear hd)
    | (refine wl_store rfl 159 _ _ rfl _ rfl _ rfl (HX.out _ HD.out) ?_))
  obtain ⟨g5, hg5⟩ : ∃ g5, g5 = w1.heap.size := ⟨_, rfl⟩
  obtain ⟨V, hV⟩ : ∃ V, V = (w1.alloc (.cells (vec 64 (wds zw)) 159)).setRow w1.heap.size (vec 64 (wds Kt)) := ⟨_, rfl⟩
  have hlt5 : w.heap.size + 1 < g5 := by have := HI.out.2.2.2; have := HD.out.size; omega
  have hrb : RB w g5 h V := by
    obtain ⟨hA, hR, hB, hsz⟩ := HI.out
    have hd := HD.out
    have e1 : V = _ := hV
    have hBV : Below w.heap.size w w1 := hB.trans (hd.mono (by omega))
    rw [e1]
    refine ⟨((hA.under hd).alloc _).rowFar (by omega) _, ((hR.under hd).alloc _).rowFar (by omega) _, ?_, below_row (hBV.alloc (by omega) _) (by omega) _⟩
    rw [hg5]; exact (Arr.new w1 _ _ _).row _
  have hszV : V.heap.size = g5 + 1 := by rw [hV, hg5]; simp
  rw [← hV, ← hg5]
  have HV : Hid (V.heap.size = g5 + 1 ∧ w.heap.size + 1 < g5 ∧ RB w g5 h V) := Lib.hid ⟨hszV, hlt5, hrb⟩
  clear hV hg5 hlt5 hrb hszV HD HX HI
  go_wp2
  obtain ⟨g6, hg6⟩ : ∃ g6, g6 = V.heap.size := ⟨_, rfl⟩
  obtain ⟨U, hU⟩ : ∃ U, U = V.alloc (.cells (vec 64 (wds zw)) 159) := ⟨_, rfl⟩
  have hI : g5 < g6 ∧ w.heap.size + 1 < g5 ∧ RB w g5 h U ∧ Arr U g6 159 64 (wds (part (mW b) 0)) := by
    obtain ⟨h1, h2, h3⟩ := HV.out
    refine ⟨by omega, h2, by rw [hU]; exact h3.alloc _, ?_⟩
    rw [hU]; exact (Arr.newAt V 159 64 (wds zw) hg6).congr (fun i _ => by simp [wds, part, zw])
  rw [← hU, ← hg6]
  obtain ⟨lt56, lt15, hrb, hM⟩ := hI
  have HI := Lib.hid (And.intro hrb hM)
  clear hU hg6 HV hrb hM
  go_loopw [7] (fun i W => ∃ k : Nat, k ≤ 16 ∧ i = .int .i64 k ∧ RB w g5 h W ∧ Arr W g6 159 64 (wds (part (mW b) k))) (fun i _ => 16 - (intOf i).toNat)
  case atStart => exact ⟨0, by decide, rfl, HI.out⟩
  case round =>
    obtain ⟨k, hk, rfl, hrb, hM⟩ := hrel
    clear HI
    by_cases hlt : k < 16
    · have hz : Hid (∀ j, j < 64 → wr.cell? (a.add j) = some (.int .u8 (num (z8 (b j))))) := Lib.hid fun j hj => (hrb.2.2.2.cell (show (a.add j).block < w.heap.size by rw [addr_add_block]; exact HAB.out)).trans (HY.out j hj)
      have hc0 := hz.out (4 * k) (by omega)
      have hc1 := addr_off (n := 4 * k + 1) (by omega) (hz.out (4 * k + 1) (by omega))
      have hc2 := addr_off (n := 4 * k + 2) (by omega) (hz.out (4 * k + 2) (by omega))
      have hc3 := addr_off (n := 4 * k + 3) (by omega) (hz.out (4 * k + 3) (by omega))
      have hm := mW_z8 b k
      obtain ⟨x0, hx0⟩ : ∃ x, z8 (b (4 * k)) = x := ⟨_, rfl⟩
      obtain ⟨x1, hx1⟩ : ∃ x, z8 (b (4 * k + 1)) = x := ⟨_, rfl⟩
      obtain ⟨x2, hx2⟩ : ∃ x, z8 (b (4 * k + 2)) = x := ⟨_, rfl⟩
      obtain ⟨x3, hx3⟩ : ∃ x, z8 (b (4 * k + 3)) = x := ⟨_, rfl⟩
      rw [hx0] at hc0 hm
      rw [hx1] at hc1 hm
      rw [hx2] at hc2 hm
      rw [hx3] at hc3 hm
      have HM := Lib.hid hm
      have HC := Lib.hid (And.intro hc0 (And.intro hc1 (And.intro hc2 hc3)))
      have HN := Lib.hid (And.intro (hM.cell (i := k) (by omega)) (hM.frozen k))
      have HAl := Lib.hid (And.intro hrb hM)
      clear hm hx0 hx1 hx2 hx3 hc0 hc1 hc2 hc3 hz hrb hM hk
      go_wp2_with fail
      have a0 : (4 * (k : Int)).toNat = 4 * k := by omega
      have b0 : (0 : Int) ≤ 4 * (k : Int) := by omega
      have c0 : 4 * (k : Int) < 64 := by omega
      have d0 : IntKind.i64.wrap (4 * (k : Int)) = 4 * (k : Int) := IntWalk.i64_in _ (by omega)
      have hk64 : (k : Int) < 64 := by omega
      have a1 : (4 * (k : Int) + 1).toNat = 4 * k + 1 := by omega
      have b1 : (0 : Int) ≤ 4 * (k : Int) + 1 := by omega
      have c1 : 4 * (k : Int) + 1 < 64 := by omega
      have d1 : IntKind.i64.wrap (4 * (k : Int) + 1) = 4 * (k : Int) + 1 := IntWalk.i64_in _ (by omega)
      have a2 : (4 * (k : Int) + 2).toNat = 4 * k + 2 := by omega
      have b2 : (0 : Int) ≤ 4 * (k : Int) + 2 := by omega
      have c2 : 4 * (k : Int) + 2 < 64 := by omega
      have d2 : IntKind.i64.wrap (4 * (k : Int) + 2) = 4 * (k : Int) + 2 := IntWalk.i64_in _ (by omega)
      have a3 : (4 * (k : Int) + 3).toNat = 4 * k + 3 := by omega
      have b3 : (0 : Int) ≤ 4 * (k : Int) + 3 := by omega
      have c3 : 4 * (k : Int) + 3 < 64 := by omega
      have d3 : IntKind.i64.wrap (4 * (k : Int) + 3) = 4 * (k : Int) + 3 := IntWalk.i64_in _ (by omega)
      refine wp_region_held_drew (S := fun Y => Y.cell? (a.add (4 * k)) = some (.int .u8 (num x0)) ∧ Y.cell? ⟨a.block, a.off + (4 * k + 1), none⟩ = some (.int .u8 (num x1)) ∧ Y.cell? ⟨a.block, a.off + (4 * k + 2), none⟩ = some (.int .u8 (num x2)) ∧ Y.cell? ⟨a.block, a.off + (4 * k + 3), none⟩ = some (.int .u8 (num x3))) (by kernel_rfl) HC.out (fun hS => ?_)
      (refine held_take (i := 0) (oi := ?ot1) (v := ?vt1) ?at1 (by kernel_rfl) (by kernel_rfl) (by kernel_rfl) ?bt1 ?ct1 ?dt1 (by assumption) ?rt1; (case at1 => (simp only [List.getElem?_toArray, List.getElem?_cons_zero]; rfl)); (case bt1 => exact fun _ _ _ h => h); (case ct1 => kernel_rfl); (case dt1 => (intro W hW; (try dsimp only at hW); go_split_ands; go_simp; (try with_reducible rfl))); (case' rt1 => simp only [Act.put, List.setIfInBounds_toArray, List.set_cons_zero, List.set_cons_succ]))
      (refine held_take (i := 1) (oi := ?ot2) (v := ?vt2) ?at2 (by kernel_rfl) (by kernel_rfl) (by kernel_rfl) ?bt2 ?ct2 ?dt2 (by assumption) ?rt2; (case at2 => (simp only [List.getElem?_toArray, List.getElem?_cons_zero, List.getElem?_cons_succ]; rfl)); (case bt2 => exact fun _ _ _ h => h); (case ct2 => kernel_rfl); (case dt2 => (intro W hW; (try dsimp only at hW); go_split_ands; go_simp; (try with_reducible rfl))); (case' rt2 => simp only [Act.put, List.setIfInBounds_toArray, List.set_cons_zero, List.set_cons_succ]))
      (refine held_take (i := 2) (oi := ?ot3) (v := ?vt3) ?at3 (by kernel_rfl) (by kernel_rfl) (by kernel_rfl) ?bt3 ?ct3 ?dt3 (by assumption) ?rt3; (case at3 => (simp only [List.getElem?_toArray, List.getElem?_cons_zero, List.getElem?_cons_succ]; rfl)); (case bt3 => exact fun _ _ _ h => h); (case ct3 => kernel_rfl); (case dt3 => (intro W hW; (try dsimp only at hW); go_split_ands; go_simp; (try with_reducible rfl))); (case' rt3 => simp only [Act.put, List.setIfInBounds_toArray, List.set_cons_zero, List.set_cons_succ]))
      (refine held_take (i := 3) (oi := ?ot4) (v := ?vt4) ?at4 (by kernel_rfl) (by kernel_rfl) (by kernel_rfl) ?bt4 ?ct4 ?dt4 (by assumption) ?rt4; (case at4 => (simp only [List.getElem?_toArray, List.getElem?_cons_zero, List.getElem?_cons_succ]; rfl)); (case bt4 => exact fun _ _ _ h => h); (case ct4 => kernel_rfl); (case dt4 => (intro W hW; (try dsimp only at hW); go_split_ands; go_simp; (try with_reducible rfl))); (case' rt4 => simp only [Act.put, List.setIfInBounds_toArray, List.set_cons_zero, List.set_cons_succ]))
      (refine held_take (i := 4) (oi := ?ot5) (v := ?vt5) ?at5 (by kernel_rfl) (by kernel_rfl) (by kernel_rfl) ?bt5 ?ct5 ?dt5 (by assumption) ?rt5; (case at5 => (simp only [List.getElem?_toArray, List.getElem?_cons_zero, List.getElem?_cons_succ]; rfl)); (case bt5 => exact fun _ _ _ h => h); (case ct5 => kernel_rfl); (case dt5 => (intro W hW; (try dsimp only at hW); go_split_ands; go_simp; (try with_reducible rfl))); (case' rt5 => simp only [Act.put, List.setIfInBounds_toArray, List.set_cons_zero, List.set_cons_succ]))
      (refine held_take (i := 5) (oi := ?ot6) (v := ?vt6) ?at6 (by kernel_rfl) (by kernel_rfl) (by kernel_rfl) ?bt6 ?ct6 ?dt6 (by assumption) ?rt6; (case at6 => (simp only [List.getElem?_toArray, List.getElem?_cons_zero, List.getElem?_cons_succ]; rfl)); (case bt6 => exact fun _ _ _ h => h); (case ct6 => kernel_rfl); (case dt6 => (intro W hW; (try dsimp only at hW); go_split_ands; go_simp; (try with_reducible rfl))); (case' rt6 => simp only [Act.put, List.setIfInBounds_toArray, List.set_cons_zero, List.set_cons_succ]))
      (refine held_take (i := 6) (oi := ?ot7) (v := ?vt7) ?at7 (by kernel_rfl) (by kernel_rfl) (by kernel_rfl) ?bt7 ?ct7 ?dt7 (by assumption) ?rt7; (case at7 => (simp only [List.getElem?_toArray, List.getElem?_cons_zero, List.getElem?_cons_succ]; rfl)); (case bt7 => exact fun _ _ _ h => h); (case ct7 => kernel_rfl); (case dt7 => (intro W hW; (try dsimp only at hW); go_split_ands; go_simp; (try with_reducible rfl))); (case' rt7 => simp only [Act.put, List.setIfInBounds_toArray, List.set_cons_zero, List.set_cons_succ]))
      (refine held_take (i := 7) (oi := ?ot8) (v := ?vt8) ?at8 (by kernel_rfl) (by kernel_rfl) (by kernel_rfl) ?bt8 ?ct8 ?dt8 (by assumption) ?rt8; (case at8 => (simp only [List.getElem?_toArray, List.getElem?_cons_zero, List.getElem?_cons_succ]; rfl)); (case bt8 => exact fun _ _ _ h => h); (case ct8 => kernel_rfl); (case dt8 => (intro W hW; (try dsimp only at hW); go_split_ands; go_simp; (try with_reducible rfl))); (case' rt8 => simp only [Act.put, List.setIfInBounds_toArray, List.set_cons_zero, List.set_cons_succ]))
      (refine held_take (i := 8) (oi := ?ot9) (v := ?vt9) ?at9 (by kernel_rfl) (by kernel_rfl) (by kernel_rfl) ?bt9 ?ct9 ?dt9 (by assumption) ?rt9; (case at9 => (simp only [List.getElem?_toArray, List.getElem?_cons_zero, List.getElem?_cons_succ]; rfl)); (case bt9 => exact fun _ _ _ h => h); (case ct9 => kernel_rfl); (case dt9 => (intro W hW; (try dsimp only at hW); go_split_ands; go_simp; (try with_reducible rfl))); (case' rt9 => simp only [Act.put, List.setIfInBounds_toArray, List.set_cons_zero, List.set_cons_succ]))
      (refine held_take (i := 9) (oi := ?ot10) (v := ?vt10) ?at10 (by kernel_rfl) (by kernel_rfl) (by kernel_rfl) ?bt10 ?ct10 ?dt10 (by assumption) ?rt10; (case at10 => (simp only [List.getElem?_toArray, List.getElem?_cons_zero, List.getElem?_cons_succ]; rfl)); (case bt10 => exact fun _ _ _ h => h); (case ct10 => kernel_rfl); (case dt10 => (intro W hW; (try dsimp only at hW); go_split_ands; go_simp; (try with_reducible rfl))); (case' rt10 => simp only [Act.put, List.setIfInBounds_toArray, List.set_cons_zero, List.set_cons_succ]))
      (refine held_take (i := 10) (oi := ?ot11) (v := ?vt11) ?at11 (by kernel_rfl) (by kernel_rfl) (by kernel_rfl) ?bt11 ?ct11 ?dt11 (by assumption) ?rt11; (case at11 => (simp only [List.getElem?_toArray, List.getElem?_cons_zero, List.getElem?_cons_succ]; rfl)); (case bt11 => exact fun _ _ _ h => h); (case ct11 => kernel_rfl); (case dt11 => (intro W hW; (try dsimp only at hW); go_split_ands; go_simp; (try with_reducible rfl))); (case' rt11 => simp only [Act.put, List.setIfInBounds_toArray, List.set_cons_zero, List.set_cons_succ]))
      (refine held_take (i := 11) (oi := ?ot12) (v := ?vt12) ?at12 (by kernel_rfl) (by kernel_rfl) (by kernel_rfl) ?bt12 ?ct12 ?dt12 (by assumption) ?rt12; (case at12 => (simp only [List.getElem?_toArray, List.getElem?_cons_zero, List.getElem?_cons_succ]; rfl)); (case bt12 => exact fun _ _ _ h => h); (case ct12 => kernel_rfl); (case dt12 => (intro W hW; (try dsimp only at hW); go_split_ands; go_simp; (try with_reducible rfl))); (case' rt12 => simp only [Act.put, List.setIfInBounds_toArray, List.set_cons_zero, List.set_cons_succ]))
      (refine held_take (i := 12) (oi := ?ot13) (v := ?vt13) ?at13 (by kernel_rfl) (by kernel_rfl) (by kernel_rfl) ?bt13 ?ct13 ?dt13 (by assumption) ?rt13; (case at13 => (simp only [List.getElem?_toArray, List.getElem?_cons_zero, List.getElem?_cons_succ]; rfl)); (case bt13 => exact fun _ _ _ h => h); (case ct13 => kernel_rfl); (case dt13 => (intro W hW; (try dsimp only at hW); go_split_ands; go_simp; (try with_reducible rfl))); (case' rt13 => simp only [Act.put, List.setIfInBounds_toArray, List.set_cons_zero, List.set_cons_succ]))
      (refine held_take (i := 13) (oi := ?ot14) (v := ?vt14) ?at14 (by kernel_rfl) (by kernel_rfl) (by kernel_rfl) ?bt14 ?ct14 ?dt14 (by assumption) ?rt14; (case at14 => (simp only [List.getElem?_toArray, List.getElem?_cons_zero, List.getElem?_cons_succ]; rfl)); (case bt14 => exact fun _ _ _ h => h); (case ct14 => kernel_rfl); (case dt14 => (intro W hW; (try dsimp only at hW); go_split_ands; go_simp; (try with_reducible rfl))); (case' rt14 => simp only [Act.put, List.setIfInBounds_toArray, List.set_cons_zero, List.set_cons_succ]))
      (refine held_take (i := 14) (oi := ?ot15) (v := ?vt15) ?at15 (by kernel_rfl) (by kernel_rfl) (by kernel_rfl) ?bt15 ?ct15 ?dt15 (by assumption) ?rt15; (case at15 => (simp only [List.getElem?_toArray, List.getElem?_cons_zero, List.getElem?_cons_succ]; rfl)); (case bt15 => exact fun _ _ _ h => h); (case ct15 => kernel_rfl); (case dt15 => (intro W hW; (try dsimp only at hW); go_split_ands; go_simp; (try with_reducible rfl))); (case' rt15 => simp only [Act.put, List.setIfInBounds_toArray, List.set_cons_zero, List.set_cons_succ]))
      (refine held_take (i := 15) (oi := ?ot16) (v := ?vt16) ?at16 (by kernel_rfl) (by kernel_rfl) (by kernel_rfl) ?bt16 ?ct16 ?dt16 (by assumption) ?rt16; (case at16 => (simp only [List.getElem?_toArray, List.getElem?_cons_zero, List.getElem?_cons_succ]; rfl)); (case bt16 => exact fun _ _ _ h => h); (case ct16 => kernel_rfl); (case dt16 => (intro W hW; (try dsimp only at hW); go_split_ands; go_simp; (try with_reducible rfl))); (case' rt16 => simp only [Act.put, List.setIfInBounds_toArray, List.set_cons_zero, List.set_cons_succ]))
      (refine held_take (i := 16) (oi := ?ot17) (v := ?vt17) ?at17 (by kernel_rfl) (by kernel_rfl) (by kernel_rfl) ?bt17 ?ct17 ?dt17 (by assumption) ?rt17; (case at17 => (simp only [List.getElem?_toArray, List.getElem?_cons_zero, List.getElem?_cons_succ]; rfl)); (case bt17 => exact fun _ _ _ h => h); (case ct17 => kernel_rfl); (case dt17 => (intro W hW; (try dsimp only at hW); go_split_ands; go_simp; (try with_reducible rfl))); (case' rt17 => simp only [Act.put, List.setIfInBounds_toArray, List.set_cons_zero, List.set_cons_succ]))
      (refine held_take (i := 17) (oi := ?ot18) (v := ?vt18) ?at18 (by kernel_rfl) (by kernel_rfl) (by kernel_rfl) ?bt18 ?ct18 ?dt18 (by assumption) ?rt18; (case at18 => (simp only [List.getElem?_toArray, List.getElem?_cons_zero, List.getElem?_cons_succ]; rfl)); (case bt18 => exact fun _ _ _ h => h); (case ct18 => kernel_rfl); (case dt18 => (intro W hW; (try dsimp only at hW); go_split_ands; go_simp; (try with_reducible rfl))); (case' rt18 => simp only [Act.put, List.setIfInBounds_toArray, List.set_cons_zero, List.set_cons_succ]))
      (refine held_take (i := 18) (oi := ?ot19) (v := ?vt19) ?at19 (by kernel_rfl) (by kernel_rfl) (by kernel_rfl) ?bt19 ?ct19 ?dt19 (by assumption) ?rt19; (case at19 => (simp only [List.getElem?_toArray, List.getElem?_cons_zero, List.getElem?_cons_succ]; rfl)); (case bt19 => exact fun _ _ _ h => h); (case ct19 => kernel_rfl); (case dt19 => (intro W hW; (try dsimp only at hW); go_split_ands; go_simp; (try with_reducible rfl))); (case' rt19 => simp only [Act.put, List.setIfInBounds_toArray, List.set_cons_zero, List.set_cons_succ]))
      (refine held_take (i := 19) (oi := ?ot20) (v := ?vt20) ?at20 (by kernel_rfl) (by kernel_rfl) (by kernel_rfl) ?bt20 ?ct20 ?dt20 (by assumption) ?rt20; (case at20 => (simp only [List.getElem?_toArray, List.getElem?_cons_zero, List.getElem?_cons_succ]; rfl)); (case bt20 => exact fun _ _ _ h => h); (case ct20 => kernel_rfl); (case dt20 => (intro W hW; (try dsimp only at hW); go_split_ands; go_simp; (try with_reducible rfl))); (case' rt20 => simp only [Act.put, List.setIfInBounds_toArray, List.set_cons_zero, List.set_cons_succ]))
      (refine held_take (i := 20) (oi := ?ot21) (v := ?vt21) ?at21 (by kernel_rfl) (by kernel_rfl) (by kernel_rfl) ?bt21 ?ct21 ?dt21 (by assumption) ?rt21; (case at21 => (simp only [List.getElem?_toArray, List.getElem?_cons_zero, List.getElem?_cons_succ]; rfl)); (case bt21 => exact fun _ _ _ h => h); (case ct21 => kernel_rfl); (case dt21 => (intro W hW; (try dsimp only at hW); go_split_ands; go_simp; (try with_reducible rfl))); (case' rt21 => simp only [Act.put, List.setIfInBounds_toArray, List.set_cons_zero, List.set_cons_succ]))
      (refine held_take (i := 21) (oi := ?ot22) (v := ?vt22) ?at22 (by kernel_rfl) (by kernel_rfl) (by kernel_rfl) ?bt22 ?ct22 ?dt22 (by assumption) ?rt22; (case at22 => (simp only [List.getElem?_toArray, List.getElem?_cons_zero, List.getElem?_cons_succ]; rfl)); (case bt22 => exact fun _ _ _ h => h); (case ct22 => kernel_rfl); (case dt22 => (intro W hW; (try dsimp only at hW); go_split_ands; go_simp; (try with_reducible rfl))); (case' rt22 => simp only [Act.put, List.setIfInBounds_toArray, List.set_cons_zero, List.set_cons_succ]))
      (refine held_take (i := 22) (oi := ?ot23) (v := ?vt23) ?at23 (by kernel_rfl) (by kernel_rfl) (by kernel_rfl) ?bt23 ?ct23 ?dt23 (by assumption) ?rt23; (case at23 => (simp only [List.getElem?_toArray, List.getElem?_cons_zero, List.getElem?_cons_succ]; rfl)); (case bt23 => exact fun _ _ _ h => h); (case ct23 => kernel_rfl); (case dt23 => (intro W hW; (try dsimp only at hW); go_split_ands; go_simp; (try with_reducible rfl))); (case' rt23 => simp only [Act.put, List.setIfInBounds_toArray, List.set_cons_zero, List.set_cons_succ]))
      (refine held_take (i := 23) (oi := ?ot24) (v := ?vt24) ?at24 (by kernel_rfl) (by kernel_rfl) (by kernel_rfl) ?bt24 ?ct24 ?dt24 (by assumption) ?rt24; (case at24 => (simp only [List.getElem?_toArray, List.getElem?_cons_zero, List.getElem?_cons_succ]; rfl)); (case bt24 => exact fun _ _ _ h => h); (case ct24 => kernel_rfl); (case dt24 => (intro W hW; (try dsimp only at hW); go_split_ands; go_simp; (try with_reducible rfl))); (case' rt24 => simp only [Act.put, List.setIfInBounds_toArray, List.set_cons_zero, List.set_cons_succ]))
      (refine held_take (i := 24) (oi := ?ot25) (v := ?vt25) ?at25 (by kernel_rfl) (by kernel_rfl) (by kernel_rfl) ?bt25 ?ct25 ?dt25 (by assumption) ?rt25; (case at25 => (simp only [List.getElem?_toArray, List.getElem?_cons_zero, List.getElem?_cons_succ]; rfl)); (case bt25 => exact fun _ _ _ h => h); (case ct25 => kernel_rfl); (case dt25 => (intro W hW; (try dsimp only at hW); go_split_ands; go_simp; (try with_reducible rfl))); (case' rt25 => simp only [Act.put, List.setIfInBounds_toArray, List.set_cons_zero, List.set_cons_succ]))
      (refine held_take (i := 25) (oi := ?ot26) (v := ?vt26) ?at26 (by kernel_rfl) (by kernel_rfl) (by kernel_rfl) ?bt26 ?ct26 ?dt26 (by assumption) ?rt26; (case at26 => (simp only [List.getElem?_toArray, List.getElem?_cons_zero, List.getElem?_cons_succ]; rfl)); (case bt26 => exact fun _ _ _ h => h); (case ct26 => kernel_rfl); (case dt26 => (intro W hW; (try dsimp only at hW); go_split_ands; go_simp; (try with_reducible rfl))); (case' rt26 => simp only [Act.put, List.setIfInBounds_toArray, List.set_cons_zero, List.set_cons_succ]))
      (refine held_take (i := 26) (oi := ?ot27) (v := ?vt27) ?at27 (by kernel_rfl) (by kernel_rfl) (by kernel_rfl) ?bt27 ?ct27 ?dt27 (by assumption) ?rt27; (case at27 => (simp only [List.getElem?_toArray, List.getElem?_cons_zero, List.getElem?_cons_succ]; rfl)); (case bt27 => exact fun _ _ _ h => h); (case ct27 => kernel_rfl); (case dt27 => (intro W hW; (try dsimp only at hW); go_split_ands; go_simp; (try with_reducible rfl))); (case' rt27 => simp only [Act.put, List.setIfInBounds_toArray, List.set_cons_zero, List.set_cons_succ]))
      (refine held_take (i := 27) (oi := ?ot28) (v := ?vt28) ?at28 (by kernel_rfl) (by kernel_rfl) (by kernel_rfl) ?bt28 ?ct28 ?dt28 (by assumption) ?rt28; (case at28 => (simp only [List.getElem?_toArray, List.getElem?_cons_zero, List.getElem?_cons_succ]; rfl)); (case bt28 => exact fun _ _ _ h => h); (case ct28 => kernel_rfl); (case dt28 => (intro W hW; (try dsimp only at hW); go_split_ands; go_simp; (try with_reducible rfl))); (case' rt28 => simp only [Act.put, List.setIfInBounds_toArray, List.set_cons_zero, List.set_cons_succ]))
      (refine held_take (i := 28) (oi := ?ot29) (v := ?vt29) ?at29 (by kernel_rfl) (by kernel_rfl) (by kernel_rfl) ?bt29 ?ct29 ?dt29 (by assumption) ?rt29; (case at29 => (simp only [List.getElem?_toArray, List.getElem?_cons_zero, List.getElem?_cons_succ]; rfl)); (case bt29 => exact fun _ _ _ h => h); (case ct29 => kernel_rfl); (case dt29 => (intro W hW; (try dsimp only at hW); go_split_ands; go_simp; (try with_reducible rfl))); (case' rt29 => simp only [Act.put, List.setIfInBounds_toArray, List.set_cons_zero, List.set_cons_succ]))
      (refine held_take (i := 29) (oi := ?ot30) (v := ?vt30) ?at30 (by kernel_rfl) (by kernel_rfl) (by kernel_rfl) ?bt30 ?ct30 ?dt30 (by assumption) ?rt30; (case at30 => (simp only [List.getElem?_toArray, List.getElem?_cons_zero, List.getElem?_cons_succ]; rfl)); (case bt30 => exact fun _ _ _ h => h); (case ct30 => kernel_rfl); (case dt30 => (intro W hW; (try dsimp only at hW); go_split_ands; go_simp; (try with_reducible rfl))); (case' rt30 => simp only [Act.put, List.setIfInBounds_toArray, List.set_cons_zero, List.set_cons_succ]))
      (refine held_take (i := 30) (oi := ?ot31) (v := ?vt31) ?at31 (by kernel_rfl) (by kernel_rfl) (by kernel_rfl) ?bt31 ?ct31 ?dt31 (by assumption) ?rt31; (case at31 => (simp only [List.getElem?_toArray, List.getElem?_cons_zero, List.getElem?_cons_succ]; rfl)); (case bt31 => exact fun _ _ _ h => h); (case ct31 => kernel_rfl); (case dt31 => (intro W hW; (try dsimp only at hW); go_split_ands; go_simp; (try with_reducible rfl))); (case' rt31 => simp only [Act.put, List.setIfInBounds_toArray, List.set_cons_zero, List.set_cons_succ]))
      (refine held_take (i := 31) (oi := ?ot32) (v := ?vt32) ?at32 (by kernel_rfl) (by kernel_rfl) (by kernel_rfl) ?bt32 ?ct32 ?dt32 (by assumption) ?rt32; (case at32 => (simp only [List.getElem?_toArray, List.getElem?_cons_zero, List.getElem?_cons_succ]; rfl)); (case bt32 => exact fun _ _ _ h => h); (case ct32 => kernel_rfl); (case dt32 => (intro W hW; (try dsimp only at hW); go_split_ands; go_simp; (try with_reducible rfl))); (case' rt32 => simp only [Act.put, List.setIfInBounds_toArray, List.set_cons_zero, List.set_cons_succ]))
      (refine held_take (i := 32) (oi := ?ot33) (v := ?vt33) ?at33 (by kernel_rfl) (by kernel_rfl) (by kernel_rfl) ?bt33 ?ct33 ?dt33 (by assumption) ?rt33; (case at33 => (simp only [List.getElem?_toArray, List.getElem?_cons_zero, List.getElem?_cons_succ]; rfl)); (case bt33 => exact fun _ _ _ h => h); (case ct33 => kernel_rfl); (case dt33 => (intro W hW; (try dsimp only at hW); go_split_ands; go_simp; (try with_reducible rfl))); (case' rt33 => simp only [Act.put, List.setIfInBounds_toArray, List.set_cons_zero, List.set_cons_succ]))
      (refine held_take (i := 33) (oi := ?ot34) (v := ?vt34) ?at34 (by kernel_rfl) (by kernel_rfl) (by kernel_rfl) ?bt34 ?ct34 ?dt34 (by assumption) ?rt34; (case at34 => (simp only [List.getElem?_toArray, List.getElem?_cons_zero, List.getElem?_cons_succ]; rfl)); (case bt34 => exact fun _ _ _ h => h); (case ct34 => kernel_rfl); (case dt34 => (intro W hW; (try dsimp only at hW); go_split_ands; go_simp; (try with_reducible rfl))); (case' rt34 => simp only [Act.put, List.setIfInBounds_toArray, List.set_cons_zero, List.set_cons_succ]))
      (refine held_take (i := 34) (oi := ?ot35) (v := ?vt35) ?at35 (by kernel_rfl) (by kernel_rfl) (by kernel_rfl) ?bt35 ?ct35 ?dt35 (by assumption) ?rt35; (case at35 => (simp only [List.getElem?_toArray, List.getElem?_cons_zero, List.getElem?_cons_succ]; rfl)); (case bt35 => exact fun _ _ _ h => h); (case ct35 => kernel_rfl); (case dt35 => (intro W hW; (try dsimp only at hW); go_split_ands; go_simp; (try with_reducible rfl))); (case' rt35 => simp only [Act.put, List.setIfInBounds_toArray, List.set_cons_zero, List.set_cons_succ]))
      refine held_one (i := 35) (oi := ?ot36) (by kernel_rfl) ?at36 ?ct36 (fun K35 hK35 => ?_)
      (case at36 => (simp only [List.getElem?_toArray, List.getElem?_cons_zero, List.getElem?_cons_succ]; rfl))
      (case ct36 => kernel_rfl)
      have hcN := HN.out.1
      have hfN := HN.out.2
      go_simp
      clear hcN hfN
      have hX : ∀ q x, q.block ≠ g6 → wr.cell? q = some x → (wr.setCell ⟨g6, k, none⟩ (.int .u32 (num (x0 <<< 24 ||| x1 <<< 16 ||| x2 <<< 8 ||| x3)))).drew.cell? q = some x := fun q x hj h => (World.cell?_setCell_other wr _ _ _ (fun e => hj (by rw [← e]))).trans h
      have hne : a.block ≠ g6 := by have := HAB.out; omega
      refine hK35 _ _ ⟨hX _ _ (by rw [addr_add_block]; exact hne) hS.1, hX _ _ hne hS.2.1, hX _ _ hne hS.2.2.1, hX _ _ hne hS.2.2.2⟩ (fun hS35 => ?_)
      clear hX hne hS hK35 K35
      refine wpAnyH_done (by kernel_rfl) ?_ _
      clear hS35 hk64 a0 b0 c0 d0 a1 b1 c1 d1 a2 b2 c2 d2 a3 b3 c3 d3
      go_wp2
      go_roundw
      case rel =>
        obtain ⟨hrb, hM⟩ := HAl.out
        have hM2 := hM.set k (.int .u32 (num (x0 <<< 24 ||| x1 <<< 16 ||| x2 <<< 8 ||| x3)))
        rw [← HM.out, wds_upd, part_upd, HM.out] at hM2
        exact ⟨k + 1, by omega, by go_num, (hrb.far (p := ⟨g6, k, none⟩) (show w.heap.size + 1 < g6 by omega) (show g5 ≠ g6 by omega) _).drew 1, hM2.drewN 1⟩
      case measure => simp [intOf]; omega
    · obtain rfl : k = 16 := by omega
      rw [show ((16 : Nat) : Int) = 16 from rfl]
      have HI := Lib.hid (show RB w g5 h wr ∧ Arr wr g6 159 64 (wds (sch (mW b) 0)) from ⟨hrb, hM⟩)
      clear hrb hM hlt hk
      go_wp2
      obtain ⟨W1, rfl⟩ : ∃ W1 : World, W1 = wr := ⟨_, rfl⟩
      go_loopw [8] (fun i W => ∃ k : Nat, k ≤ 48 ∧ i = .int .i64 ((16 + k : Nat) : Int) ∧ RB w g5 h W ∧ Arr W g6 159 64 (wds (sch (mW b) k))) (fun i _ => 64 - (intOf i).toNat)
      case atStart => exact ⟨0, by decide, rfl, HI.out⟩
      case round =>
        obtain ⟨k, hk, rfl, hrb, hM⟩ := hrel
        clear HI
        by_cases hlt : k < 48
        · obtain ⟨t, ht⟩ : ∃ t, t = 16 + k := ⟨_, rfl⟩
          obtain ⟨f, hf⟩ : ∃ f, sch (mW b) k = f := ⟨_, rfl⟩
          rw [← ht]
          rw [hf] at hM
          have hs : sch (mW b) (k + 1) = upd f t (f (t - 16) + fs0 (f (t - 15)) + f (t - 7) + fs1 (f (t - 2))) := by
            rw [sch, hf, ht, show 16 + k - 2 = 14 + k by omega, show 16 + k - 7 = 9 + k by omega, show 16 + k - 15 = 1 + k by omega, show 16 + k - 16 = k by omega]
            congr 1
            ac_rfl
          have hc2 := hM.cell (i := t - 2) (by omega)
          have hc7 := hM.cell (i := t - 7) (by omega)
          have hc15 := hM.cell (i := t - 15) (by omega)
          have hc16 := hM.cell (i := t - 16) (by omega)
          have hcN := hM.cell (i := t) (by omega)
          have hfN := hM.frozen t
          simp only [wds] at hc2 hc7 hc15 hc16 hcN
          obtain ⟨x2, hx2⟩ : ∃ x, f (t - 2) = x := ⟨_, rfl⟩
          obtain ⟨x7, hx7⟩ : ∃ x, f (t - 7) = x := ⟨_, rfl⟩
          obtain ⟨x15, hx15⟩ : ∃ x, f (t - 15) = x := ⟨_, rfl⟩
          obtain ⟨x16, hx16⟩ : ∃ x, f (t - 16) = x := ⟨_, rfl⟩
          rw [hx2] at hc2 hs
          rw [hx7] at hc7 hs
          rw [hx15] at hc15 hs
          rw [hx16] at hc16 hs
          have HS := Lib.hid hs
          have HT := Lib.hid ht
          have HAl := Lib.hid (And.intro hrb hM)
          have HC := Lib.hid (And.intro hc16 hc7)
          have HN := Lib.hid (And.intro hcN hfN)
          have hlt2 : t < 64 := by omega
          have hge : 16 ≤ t := by omega
          clear hs ht hf hx2 hx7 hx15 hx16 hrb hM hc7 hc16 hcN hfN hk
          go_wp2_with fail
          have a2 : ((t : Int) - 2).toNat = t - 2 := by omega
          have b2 : (2 : Int) ≤ (t : Int) := by omega
          have c2 : (t : Int) - 2 < 64 := by omega
          have d2 : IntKind.i64.wrap ((t : Int) - 2) = (t : Int) - 2 := IntWalk.i64_in _ (by omega)
          have a7 : ((t : Int) - 7).toNat = t - 7 := by omega
          have b7 : (7 : Int) ≤ (t : Int) := by omega
          have c7 : (t : Int) - 7 < 64 := by omega
          have d7 : IntKind.i64.wrap ((t : Int) - 7) = (t : Int) - 7 := IntWalk.i64_in _ (by omega)
          have a15 : ((t : Int) - 15).toNat = t - 15 := by omega
          have b15 : (15 : Int) ≤ (t : Int) := by omega
          have c15 : (t : Int) - 15 < 64 := by omega
          have d15 : IntKind.i64.wrap ((t : Int) - 15) = (t : Int) - 15 := IntWalk.i64_in _ (by omega)
          have a16 : ((t : Int) - 16).toNat = t - 16 := by omega
          have b16 : (16 : Int) ≤ (t : Int) := by omega
          have c16 : (t : Int) - 16 < 64 := by omega
          have d16 : IntKind.i64.wrap ((t : Int) - 16) = (t : Int) - 16 := IntWalk.i64_in _ (by omega)
          have d0 : (t : Int) < 64 := by omega
          have e2 : (0 : Int) ≤ (t : Int) - 2 := by omega
          have e15 : (0 : Int) ≤ (t : Int) - 15 := by omega
          go_quiet (fail)
          obtain ⟨V2, hV2⟩ : ∃ V2, V2 = wr.drewN nq := ⟨_, rfl⟩
          rw [← hV2]
          have HC2 : Hid (V2.cell? ⟨g6, t - 16, none⟩ = some (.int .u32 (num x16)) ∧ V2.cell? ⟨g6, t - 7, none⟩ = some (.int .u32 (num x7))) := Lib.hid (by rw [hV2]; exact HC.out)
          have HN2 : Hid (V2.cell? ⟨g6, t, none⟩ = some (.int .u32 (num (f t))) ∧ V2.frozen? ⟨g6, t, none⟩ = false) := Lib.hid (by rw [hV2]; exact HN.out)
          have HAl2 : Hid (RB w g5 h V2 ∧ Arr V2 g6 159 64 (wds f)) := Lib.hid (by rw [hV2]; exact ⟨HAl.out.1.drew nq, HAl.out.2.drewN nq⟩)
          have HD : Hid (∃ m, V2.drew = V2.drewN m) := Lib.hid ⟨1, rfl⟩
          clear hV2 HC HN HAl hc2 hc15 e2 e15
          go_wp2_with fail
          refine wp_region_held_drew (S := fun Y => Y.cell? ⟨g6, t - 16, none⟩ = some (.int .u32 (num x16)) ∧ Y.cell? ⟨g6, t - 7, none⟩ = some (.int .u32 (num x7))) (by kernel_rfl) HC2.out (fun hS => ?_)
          (refine held_take (i := 0) (oi := ?ot37) (v := ?vt37) ?at37 (by kernel_rfl) (by kernel_rfl) (by kernel_rfl) ?bt37 ?ct37 ?dt37 (by assumption) ?rt37; (case at37 => (simp only [List.getElem?_toArray, List.getElem?_cons_zero]; rfl)); (case bt37 => exact fun _ _ _ h => h); (case ct37 => kernel_rfl); (case dt37 => (intro W hW; (try dsimp only at hW); go_split_ands; go_simp; (try with_reducible rfl))); (case' rt37 => simp only [Act.put, List.setIfInBounds_toArray, List.set_cons_zero, List.set_cons_succ]))
          (refine held_take (i := 1) (oi := ?ot38) (v := ?vt38) ?at38 (by kernel_rfl) (by kernel_rfl) (by kernel_rfl) ?bt38 ?ct38 ?dt38 (by assumption) ?rt38; (case at38 => (simp only [List.getElem?_toArray, List.getElem?_cons_zero, List.getElem?_cons_succ]; rfl)); (case bt38 => exact fun _ _ _ h => h); (case ct38 => kernel_rfl); (case dt38 => (intro W hW; (try dsimp only at hW); go_split_ands; go_simp; (try with_reducible rfl))); (case' rt38 => simp only [Act.put, List.setIfInBounds_toArray, List.set_cons_zero, List.set_cons_succ]))
          (refine held_take (i := 2) (oi := ?ot39) (v := ?vt39) ?at39 (by kernel_rfl) (by kernel_rfl) (by kernel_rfl) ?bt39 ?ct39 ?dt39 (by assumption) ?rt39; (case at39 => (simp only [List.getElem?_toArray, List.getElem?_cons_zero, List.getElem?_cons_succ]; rfl)); (case bt39 => exact fun _ _ _ h => h); (case ct39 => kernel_rfl); (case dt39 => (intro W hW; (try dsimp only at hW); go_split_ands; go_simp; (try with_reducible rfl))); (case' rt39 => simp only [Act.put, List.setIfInBounds_toArray, List.set_cons_zero, List.set_cons_succ]))
          (refine held_take (i := 3) (oi := ?ot40) (v := ?vt40) ?at40 (by kernel_rfl) (by kernel_rfl) (by kernel_rfl) ?bt40 ?ct40 ?dt40 (by assumption) ?rt40; (case at40 => (simp only [List.getElem?_toArray, List.getElem?_cons_zero, List.getElem?_cons_succ]; rfl)); (case bt40 => exact fun _ _ _ h => h); (case ct40 => kernel_rfl); (case dt40 => (intro W hW; (try dsimp only at hW); go_split_ands; go_simp; (try with_reducible rfl))); (case' rt40 => simp only [Act.put, List.setIfInBounds_toArray, List.set_cons_zero, List.set_cons_succ]))
          (refine held_take (i := 4) (oi := ?ot41) (v := ?vt41) ?at41 (by kernel_rfl) (by kernel_rfl) (by kernel_rfl) ?bt41 ?ct41 ?dt41 (by assumption) ?rt41; (case at41 => (simp only [List.getElem?_toArray, List.getElem?_cons_zero, List.getElem?_cons_succ]; rfl)); (case bt41 => exact fun _ _ _ h => h); (case ct41 => kernel_rfl); (case dt41 => (intro W hW; (try dsimp only at hW); go_split_ands; go_simp; (try with_reducible rfl))); (case' rt41 => simp only [Act.put, List.setIfInBounds_toArray, List.set_cons_zero, List.set_cons_succ]))
          (refine held_take (i := 5) (oi := ?ot42) (v := ?vt42) ?at42 (by kernel_rfl) (by kernel_rfl) (by kernel_rfl) ?bt42 ?ct42 ?dt42 (by assumption) ?rt42; (case at42 => (simp only [List.getElem?_toArray, List.getElem?_cons_zero, List.getElem?_cons_succ]; rfl)); (case bt42 => exact fun _ _ _ h => h); (case ct42 => kernel_rfl); (case dt42 => (intro W hW; (try dsimp only at hW); go_split_ands; go_simp; (try with_reducible rfl))); (case' rt42 => simp only [Act.put, List.setIfInBounds_toArray, List.set_cons_zero, List.set_cons_succ]))
          (refine held_take (i := 7) (oi := ?ot43) (v := ?vt43) ?at43 (by kernel_rfl) (by kernel_rfl) (by kernel_rfl) ?bt43 ?ct43 ?dt43 (by assumption) ?rt43; (case at43 => (simp only [List.getElem?_toArray, List.getElem?_cons_zero, List.getElem?_cons_succ]; rfl)); (case bt43 => exact fun _ _ _ h => h); (case ct43 => kernel_rfl); (case dt43 => (intro W hW; (try dsimp only at hW); go_split_ands; go_simp; (try with_reducible rfl))); (case' rt43 => simp only [Act.put, List.setIfInBounds_toArray, List.set_cons_zero, List.set_cons_succ]))
          (refine held_take (i := 10) (oi := ?ot44) (v := ?vt44) ?at44 (by kernel_rfl) (by kernel_rfl) (by kernel_rfl) ?bt44 ?ct44 ?dt44 (by assumption) ?rt44; (case at44 => (simp only [List.getElem?_toArray, List.getElem?_cons_zero, List.getElem?_cons_succ]; rfl)); (case bt44 => exact fun _ _ _ h => h); (case ct44 => kernel_rfl); (case dt44 => (intro W hW; (try dsimp only at hW); go_split_ands; go_simp; (try with_reducible rfl))); (case' rt44 => simp only [Act.put, List.setIfInBounds_toArray, List.set_cons_zero, List.set_cons_succ]))
          (refine held_take (i := 11) (oi := ?ot45) (v := ?vt45) ?at45 (by kernel_rfl) (by kernel_rfl) (by kernel_rfl) ?bt45 ?ct45 ?dt45 (by assumption) ?rt45; (case at45 => (simp only [List.getElem?_toArray, List.getElem?_cons_zero, List.getElem?_cons_succ]; rfl)); (case bt45 => exact fun _ _ _ h => h); (case ct45 => kernel_rfl); (case dt45 => (intro W hW; (try dsimp only at hW); go_split_ands; go_simp; (try with_reducible rfl))); (case' rt45 => simp only [Act.put, List.setIfInBounds_toArray, List.set_cons_zero, List.set_cons_succ]))
          (refine held_take (i := 14) (oi := ?ot46) (v := ?vt46) ?at46 (by kernel_rfl) (by kernel_rfl) (by kernel_rfl) ?bt46 ?ct46 ?dt46 (by assumption) ?rt46; (case at46 => (simp only [List.getElem?_toArray, List.getElem?_cons_zero, List.getElem?_cons_succ]; rfl)); (case bt46 => exact fun _ _ _ h => h); (case ct46 => kernel_rfl); (case dt46 => (intro W hW; (try dsimp only at hW); go_split_ands; go_simp; (try with_reducible rfl))); (case' rt46 => simp only [Act.put, List.setIfInBounds_toArray, List.set_cons_zero, List.set_cons_succ]))
          (refine held_take (i := 15) (oi := ?ot47) (v := ?vt47) ?at47 (by kernel_rfl) (by kernel_rfl) (by kernel_rfl) ?bt47 ?ct47 ?dt47 (by assumption) ?rt47; (case at47 => (simp only [List.getElem?_toArray, List.getElem?_cons_zero, List.getElem?_cons_succ]; rfl)); (case bt47 => exact fun _ _ _ h => h); (case ct47 => kernel_rfl); (case dt47 => (intro W hW; (try dsimp only at hW); go_split_ands; go_simp; (try with_reducible rfl))); (case' rt47 => simp only [Act.put, List.setIfInBounds_toArray, List.set_cons_zero, List.set_cons_succ]))
          (refine held_take (i := 16) (oi := ?ot48) (v := ?vt48) ?at48 (by kernel_rfl) (by kernel_rfl) (by kernel_rfl) ?bt48 ?ct48 ?dt48 (by assumption) ?rt48; (case at48 => (simp only [List.getElem?_toArray, List.getElem?_cons_zero, List.getElem?_cons_succ]; rfl)); (case bt48 => exact fun _ _ _ h => h); (case ct48 => kernel_rfl); (case dt48 => (intro W hW; (try dsimp only at hW); go_split_ands; go_simp; (try with_reducible rfl))); (case' rt48 => simp only [Act.put, List.setIfInBounds_toArray, List.set_cons_zero, List.set_cons_succ]))
          (refine held_take (i := 17) (oi := ?ot49) (v := ?vt49) ?at49 (by kernel_rfl) (by kernel_rfl) (by kernel_rfl) ?bt49 ?ct49 ?dt49 (by assumption) ?rt49; (case at49 => (simp only [List.getElem?_toArray, List.getElem?_cons_zero, List.getElem?_cons_succ]; rfl)); (case bt49 => exact fun _ _ _ h => h); (case ct49 => kernel_rfl); (case dt49 => (intro W hW; (try dsimp only at hW); go_split_ands; go_simp; (try with_reducible rfl))); (case' rt49 => simp only [Act.put, List.setIfInBounds_toArray, List.set_cons_zero, List.set_cons_succ]))
          (refine held_take (i := 19) (oi := ?ot50) (v := ?vt50) ?at50 (by kernel_rfl) (by kernel_rfl) (by kernel_rfl) ?bt50 ?ct50 ?dt50 (by assumption) ?rt50; (case at50 => (simp only [List.getElem?_toArray, List.getElem?_cons_zero, List.getElem?_cons_succ]; rfl)); (case bt50 => exact fun _ _ _ h => h); (case ct50 => kernel_rfl); (case dt50 => (intro W hW; (try dsimp only at hW); go_split_ands; go_simp; (try with_reducible rfl))); (case' rt50 => simp only [Act.put, List.setIfInBounds_toArray, List.set_cons_zero, List.set_cons_succ]))
          (refine held_take (i := 21) (oi := ?ot51) (v := ?vt51) ?at51 (by kernel_rfl) (by kernel_rfl) (by kernel_rfl) ?bt51 ?ct51 ?dt51 (by assumption) ?rt51; (case at51 => (simp only [List.getElem?_toArray, List.getElem?_cons_zero, List.getElem?_cons_succ]; rfl)); (case bt51 => exact fun _ _ _ h => h); (case ct51 => kernel_rfl); (case dt51 => (intro W hW; (try dsimp only at hW); go_split_ands; go_simp; (try with_reducible rfl))); (case' rt51 => simp only [Act.put, List.setIfInBounds_toArray, List.set_cons_zero, List.set_cons_succ]))
          (refine held_take (i := 24) (oi := ?ot52) (v := ?vt52) ?at52 (by kernel_rfl) (by kernel_rfl) (by kernel_rfl) ?bt52 ?ct52 ?dt52 (by assumption) ?rt52; (case at52 => (simp only [List.getElem?_toArray, List.getElem?_cons_zero, List.getElem?_cons_succ]; rfl)); (case bt52 => exact fun _ _ _ h => h); (case ct52 => kernel_rfl); (case dt52 => (intro W hW; (try dsimp only at hW); go_split_ands; go_simp; (try with_reducible rfl))); (case' rt52 => simp only [Act.put, List.setIfInBounds_toArray, List.set_cons_zero, List.set_cons_succ]))
          (refine held_take (i := 25) (oi := ?ot53) (v := ?vt53) ?at53 (by kernel_rfl) (by kernel_rfl) (by kernel_rfl) ?bt53 ?ct53 ?dt53 (by assumption) ?rt53; (case at53 => (simp only [List.getElem?_toArray, List.getElem?_cons_zero, List.getElem?_cons_succ]; rfl)); (case bt53 => exact fun _ _ _ h => h); (case ct53 => kernel_rfl); (case dt53 => (intro W hW; (try dsimp only at hW); go_split_ands; go_simp; (try with_reducible rfl))); (case' rt53 => simp only [Act.put, List.setIfInBounds_toArray, List.set_cons_zero, List.set_cons_succ]))
          refine held_one (i := 6) (oi := ?ot54) (by kernel_rfl) ?at54 ?ct54 (fun K6 hK6 => ?_)
          (case at54 => (simp only [List.getElem?_toArray, List.getElem?_cons_zero, List.getElem?_cons_succ]; rfl))
          (case ct54 => kernel_rfl)
          go_simp
          refine (rturn_at _ _ (by decide) _).mono ?_
          rintro e w2 ⟨rfl, hd⟩
          have HD2 := Lib.hid (drew_trans HD.out hd)
          clear HD
          have HD := Lib.hid HD2.out
          clear HD2
          refine hK6 _ _ (by obtain ⟨m, rfl⟩ := hd; exact hS) (fun hS6 => ?_)
          clear hS hd hK6 K6
          refine held_one (i := 8) (oi := ?ot55) (by kernel_rfl) ?at55 ?ct55 (fun K8 hK8 => ?_)
          (case at55 => (simp only [List.getElem?_toArray, List.getElem?_cons_zero, List.getElem?_cons_succ]; rfl))
          (case ct55 => kernel_rfl)
          go_simp
          refine (rturn_at _ _ (by decide) _).mono ?_
          rintro e w2 ⟨rfl, hd⟩
          have HD2 := Lib.hid (drew_trans HD.out hd)
          clear HD
          have HD := Lib.hid HD2.out
          clear HD2
          refine hK8 _ _ (by obtain ⟨m, rfl⟩ := hd; exact hS6) (fun hS8 => ?_)
          clear hS6 hd hK8 K8
          (refine held_take (i := 9) (oi := ?ot56) (v := ?vt56) ?at56 (by kernel_rfl) (by kernel_rfl) (by kernel_rfl) ?bt56 ?ct56 ?dt56 (by assumption) ?rt56; (case at56 => (simp only [List.getElem?_toArray, List.getElem?_cons_zero, List.getElem?_cons_succ]; rfl)); (case bt56 => exact fun _ _ _ h => h); (case ct56 => kernel_rfl); (case dt56 => (intro W hW; (try dsimp only at hW); go_split_ands; go_simp; (try with_reducible rfl))); (case' rt56 => simp only [Act.put, List.setIfInBounds_toArray, List.set_cons_zero, List.set_cons_succ]))
          (refine held_take (i := 12) (oi := ?ot57) (v := ?vt57) ?at57 (by kernel_rfl) (by kernel_rfl) (by kernel_rfl) ?bt57 ?ct57 ?dt57 (by assumption) ?rt57; (case at57 => (simp only [List.getElem?_toArray, List.getElem?_cons_zero, List.getElem?_cons_succ]; rfl)); (case bt57 => exact fun _ _ _ h => h); (case ct57 => kernel_rfl); (case dt57 => (intro W hW; (try dsimp only at hW); go_split_ands; go_simp; (try with_reducible rfl))); (case' rt57 => simp only [Act.put, List.setIfInBounds_toArray, List.set_cons_zero, List.set_cons_succ]))
          (refine held_take (i := 13) (oi := ?ot58) (v := ?vt58) ?at58 (by kernel_rfl) (by kernel_rfl) (by kernel_rfl) ?bt58 ?ct58 ?dt58 (by assumption) ?rt58; (case at58 => (simp only [List.getElem?_toArray, List.getElem?_cons_zero, List.getElem?_cons_succ]; rfl)); (case bt58 => exact fun _ _ _ h => h); (case ct58 => kernel_rfl); (case dt58 => (intro W hW; (try dsimp only at hW); go_split_ands; go_simp; (try with_reducible rfl))); (case' rt58 => simp only [Act.put, List.setIfInBounds_toArray, List.set_cons_zero, List.set_cons_succ]))
          (refine held_take (i := 18) (oi := ?ot59) (v := ?vt59) ?at59 (by kernel_rfl) (by kernel_rfl) (by kernel_rfl) ?bt59 ?ct59 ?dt59 (by assumption) ?rt59; (case at59 => (simp only [List.getElem?_toArray, List.getElem?_cons_zero, List.getElem?_cons_succ]; rfl)); (case bt59 => exact fun _ _ _ h => h); (case ct59 => kernel_rfl); (case dt59 => (intro W hW; (try dsimp only at hW); go_split_ands; go_simp; (try with_reducible rfl))); (case' rt59 => simp only [Act.put, List.setIfInBounds_toArray, List.set_cons_zero, List.set_cons_succ]))
          refine held_one (i := 20) (oi := ?ot60) (by kernel_rfl) ?at60 ?ct60 (fun K20 hK20 => ?_)
          (case at60 => (simp only [List.getElem?_toArray, List.getElem?_cons_zero, List.getElem?_cons_succ]; rfl))
          (case ct60 => kernel_rfl)
          go_simp
          refine (rturn_at _ _ (by decide) _).mono ?_
          rintro e w2 ⟨rfl, hd⟩
          have HD2 := Lib.hid (drew_trans HD.out hd)
          clear HD
          have HD := Lib.hid HD2.out
          clear HD2
          refine hK20 _ _ (by obtain ⟨m, rfl⟩ := hd; exact hS8) (fun hS20 => ?_)
          clear hS8 hd hK20 K20
          refine held_one (i := 22) (oi := ?ot61) (by kernel_rfl) ?at61 ?ct61 (fun K22 hK22 => ?_)
          (case at61 => (simp only [List.getElem?_toArray, List.getElem?_cons_zero, List.getElem?_cons_succ]; rfl))
          (case ct61 => kernel_rfl)
          go_simp
          refine (rturn_at _ _ (by decide) _).mono ?_
          rintro e w2 ⟨rfl, hd⟩
          have HD2 := Lib.hid (drew_trans HD.out hd)
          clear HD
          have HD := Lib.hid HD2.out
          clear HD2
          refine hK22 _ _ (by obtain ⟨m, rfl⟩ := hd; exact hS20) (fun hS22 => ?_)
          clear hS20 hd hK22 K22
          (refine held_take (i := 23) (oi := ?ot62) (v := ?vt62) ?at62 (by kernel_rfl) (by kernel_rfl) (by kernel_rfl) ?bt62 ?ct62 ?dt62 (by assumption) ?rt62; (case at62 => (simp only [List.getElem?_toArray, List.getElem?_cons_zero, List.getElem?_cons_succ]; rfl)); (case bt62 => exact fun _ _ _ h => h); (case ct62 => kernel_rfl); (case dt62 => (intro W hW; (try dsimp only at hW); go_split_ands; go_simp; (try with_reducible rfl))); (case' rt62 => simp only [Act.put, List.setIfInBounds_toArray, List.set_cons_zero, List.set_cons_succ]))
          (refine held_take (i := 26) (oi := ?ot63) (v := ?vt63) ?at63 (by kernel_rfl) (by kernel_rfl) (by kernel_rfl) ?bt63 ?ct63 ?dt63 (by assumption) ?rt63; (case at63 => (simp only [List.getElem?_toArray, List.getElem?_cons_zero, List.getElem?_cons_succ]; rfl)); (case bt63 => exact fun _ _ _ h => h); (case ct63 => kernel_rfl); (case dt63 => (intro W hW; (try dsimp only at hW); go_split_ands; go_simp; (try with_reducible rfl))); (case' rt63 => simp only [Act.put, List.setIfInBounds_toArray, List.set_cons_zero, List.set_cons_succ]))
          (refine held_take (i := 27) (oi := ?ot64) (v := ?vt64) ?at64 (by kernel_rfl) (by kernel_rfl) (by kernel_rfl) ?bt64 ?ct64 ?dt64 (by assumption) ?rt64; (case at64 => (simp only [List.getElem?_toArray, List.getElem?_cons_zero, List.getElem?_cons_succ]; rfl)); (case bt64 => exact fun _ _ _ h => h); (case ct64 => kernel_rfl); (case dt64 => (intro W hW; (try dsimp only at hW); go_split_ands; go_simp; (try with_reducible rfl))); (case' rt64 => simp only [Act.put, List.setIfInBounds_toArray, List.set_cons_zero, List.set_cons_succ]))
          (refine held_take (i := 28) (oi := ?ot65) (v := ?vt65) ?at65 (by kernel_rfl) (by kernel_rfl) (by kernel_rfl) ?bt65 ?ct65 ?dt65 (by assumption) ?rt65; (case at65 => (simp only [List.getElem?_toArray, List.getElem?_cons_zero, List.getElem?_cons_succ]; rfl)); (case bt65 => exact fun _ _ _ h => h); (case ct65 => kernel_rfl); (case dt65 => (intro W hW; (try dsimp only at hW); go_split_ands; go_simp; (try with_reducible rfl))); (case' rt65 => simp only [Act.put, List.setIfInBounds_toArray, List.set_cons_zero, List.set_cons_succ]))
          refine held_one (i := 29) (oi := ?ot66) (by kernel_rfl) ?at66 ?ct66 (fun K29 hK29 => ?_)
          (case at66 => (simp only [List.getElem?_toArray, List.getElem?_cons_zero, List.getElem?_cons_succ]; rfl))
          (case ct66 => kernel_rfl)
          obtain ⟨m, hm⟩ := HD.out
          have hcN : w2.cell? ⟨g6, t, none⟩ = some (.int .u32 (num (f t))) := by rw [hm]; exact HN2.out.1
          have hfN : w2.frozen? ⟨g6, t, none⟩ = false := by rw [hm]; exact HN2.out.2
          clear hm
          go_simp
          clear hcN hfN
          have hX : ∀ j x u, j < t → w2.cell? ⟨g6, j, none⟩ = some x → (w2.setCell ⟨g6, t, none⟩ u).cell? ⟨g6, j, none⟩ = some x := fun j x u hj h => (World.cell?_setCell_other w2 _ _ _ (by intro e; injection e; omega)).trans h
          refine hK29 _ _ ⟨hX _ _ _ (by omega) hS22.1, hX _ _ _ (by omega) hS22.2⟩ (fun hS29 => ?_)
          clear hX hS22 hK29 K29
          refine wpAnyH_done (by kernel_rfl) ?_ _
          clear hS29 a2 a7 a15 a16 b2 b7 b15 b16 c2 c7 c15 c16 d2 d7 d15 d16 d0
          go_wp2
          go_roundw
          case rel =>
            obtain ⟨m, rfl⟩ := HD.out
            obtain ⟨hrb, hM⟩ := HAl2.out
            have hM2 := (hM.drewN m).set t (.int .u32 (num (x16 + fs0 x15 + x7 + fs1 x2)))
            rw [wds_upd, ← HS.out] at hM2
            exact ⟨k + 1, by omega, by have := HT.out; go_num, (hrb.drew m).far (p := ⟨g6, t, none⟩) (show w.heap.size + 1 < g6 by omega) (show g5 ≠ g6 by omega) _, hM2⟩
          case measure => have := HT.out; simp [intOf]; omega
        · obtain rfl : k = 48 := by omega
          rw [show ((16 + 48 : Nat) : Int) = 64 from rfl]
          obtain ⟨ws, hws⟩ : ∃ ws, sch (mW b) 48 = ws := ⟨_, rfl⟩
          rw [hws] at hM
          have HWS := Lib.hid hws
          obtain ⟨g11, hg11⟩ : ∃ g11, g11 = wr.heap.size := ⟨_, rfl⟩
          obtain ⟨X, hX⟩ : ∃ X, X = (wr.alloc (.cells (vec 8 (wds zw)) 129)).setRow wr.heap.size (vec 8 (wds h)) := ⟨_, rfl⟩
          have lt6 : g6 < g11 := by rw [hg11]; exact hM.lt
          have hI : RB w g5 h X ∧ Arr X g6 159 64 (wds ws) ∧ Arr X g11 129 8 (wds (rounds Kt ws h 0)) := by
            rw [hX]
            refine ⟨(hrb.alloc _).row (by omega) (by omega) _, (hM.alloc _).rowFar (by omega) _, ?_⟩
            rw [hg11]; exact (Arr.new wr _ _ _).row _
          have HL := Lib.hid (run_load_arr (P := Tryz.prog) hrb.1 Tryz.underlying129 rfl info34)
          have HW2 := Lib.hid (run_store_arr (P := Tryz.prog) (Arr.new wr 129 8 (wds zw)) (wds h) info34 (wds_one _ _))
          have HI := Lib.hid hI
          have HX := Lib.hid hX
          clear hrb hM hlt hk hws hI hX
          go_wp2_with (first
            | (refine wl_load rfl 129 _ rfl _ rfl _ HL.out ?_)
            | (refine wl_store rfl 129 _ _ rfl _ rfl _ rfl HW2.out ?_))
          rw [← HX.out, ← hg11]
          clear HX HL HW2 hg11
          go_loopw [12] (fun i W => ∃ k : Nat, k ≤ 64 ∧ i = .int .i64 k ∧ RB w g5 h W ∧ Arr W g6 159 64 (wds ws) ∧ Arr W g11 129 8 (wds (rounds Kt ws h k))) (fun i _ => 64 - (intOf i).toNat)
          case atStart => exact ⟨0, by decide, rfl, HI.out⟩
          case round =>
            obtain ⟨k, hk, rfl, hrb, hM, hV⟩ := hrel
            clear HI
            by_cases hlt : k < 64
            · obtain ⟨f, hf⟩ : ∃ f, rounds Kt ws h k = f := ⟨_, rfl⟩
              rw [hf] at hV
              have hs : rounds Kt ws h (k + 1) = rnd (Kt k) (ws k) f := by rw [rounds, hf]
              have HS := Lib.hid hs
              have HAl := Lib.hid (And.intro hrb (And.intro hM hV))
              have hkK := hrb.2.2.1.cell hlt
              have hkW := hM.cell hlt
              have hcs : ∀ n, n < 8 → wr.cell? ⟨g11, n, none⟩ = some (.int .u32 (num (f n))) := fun n hn => hV.cell hn
              simp only [wds] at hkK hkW
              have HC := Lib.hid (And.intro hkK (And.intro hkW hcs))
              have c0 := hcs 0 (by decide)
              have c4 := hcs 4 (by decide)
              have hk64 : (k : Int) < 64 := by omega
              clear hf hs hrb hM hV hkK hkW hcs hk
              go_wp2_with fail
              go_quiet (fail)
              clear c0 c4
              obtain ⟨V2, hV2⟩ : ∃ V2, V2 = wr.drewN nq := ⟨_, rfl⟩
              have HAl2 : Hid (RB w g5 h V2 ∧ Arr V2 g6 159 64 (wds ws) ∧ Arr V2 g11 129 8 (wds f)) := Lib.hid (by rw [hV2]; exact ⟨HAl.out.1.drew nq, HAl.out.2.1, HAl.out.2.2⟩)
              have HC2 : Hid (V2.cell? ⟨g5, k, none⟩ = some (.int .u32 (num (Kt k))) ∧ V2.cell? ⟨g6, k, none⟩ = some (.int .u32 (num (ws k))) ∧ ∀ n, n < 8 → V2.cell? ⟨g11, n, none⟩ = some (.int .u32 (num (f n)))) := Lib.hid (by rw [hV2]; exact HC.out)
              rw [← hV2]
              clear hV2 HAl HC
              obtain ⟨ck, cw, hcs⟩ := HC2.out
              have c5 := hcs 5 (by decide)
              have c6 := hcs 6 (by decide)
              have c7 := hcs 7 (by decide)
              clear hcs
              go_wp2_with fail
              go_quiet ((go_at_call 112; exact Calls.quiet_of (rturn_at _ _ (by decide) _)))
              clear c5 c6 c7 ck cw
              obtain ⟨V3, hV3⟩ : ∃ V3, V3 = V2.drewN nq := ⟨_, rfl⟩
              have HAl3 : Hid (RB w g5 h V3 ∧ Arr V3 g6 159 64 (wds ws) ∧ Arr V3 g11 129 8 (wds f)) := Lib.hid (by rw [hV3]; exact ⟨HAl2.out.1.drew nq, HAl2.out.2.1, HAl2.out.2.2⟩)
              have HC3 : Hid (∀ n, n < 8 → V3.cell? ⟨g11, n, none⟩ = some (.int .u32 (num (f n)))) := Lib.hid (by rw [hV3]; exact HC2.out.2.2)
              rw [← hV3]
              clear hV3 HAl2 HC2
              have c1 := HC3.out 1 (by decide)
              have c2 := HC3.out 2 (by decide)
              go_wp2_with fail
              go_quiet ((go_at_call 112; exact Calls.quiet_of (rturn_at _ _ (by decide) _)))
              clear c1 c2
              obtain ⟨V4, hV4⟩ : ∃ V4, V4 = V3.drewN nq := ⟨_, rfl⟩
              have HAl4 : Hid (RB w g5 h V4 ∧ Arr V4 g6 159 64 (wds ws) ∧ Arr V4 g11 129 8 (wds f)) := Lib.hid (by rw [hV4]; exact ⟨HAl3.out.1.drew nq, HAl3.out.2.1, HAl3.out.2.2⟩)
              have HC4 : Hid (∀ n, n < 8 → V4.cell? ⟨g11, n, none⟩ = some (.int .u32 (num (f n)))) := Lib.hid (by rw [hV4]; exact HC3.out)
              rw [← hV4]
              clear hV4 HAl3 HC3
              have c0 := HC4.out 0 (by decide)
              have c1 := HC4.out 1 (by decide)
              have c2 := HC4.out 2 (by decide)
              have c3 := HC4.out 3 (by decide)
              have c4 := HC4.out 4 (by decide)
              have c5 := HC4.out 5 (by decide)
              have c6 := HC4.out 6 (by decide)
              have HW3 := Lib.hid (run_store_arr (P := Tryz.prog) HAl4.out.2.2 (wds (rnd (Kt k) (ws k) f)) info34 (wds_one _ _))
              go_wp2_with (first
                | (refine wl_build rfl 129 _ rfl (vec 8 (wds (rnd (Kt k) (ws k) f))) (by rfl) ?_)
                | (refine wl_store rfl 129 _ _ rfl _ rfl _ rfl HW3.out ?_))
              clear c0 c1 c2 c3 c4 c5 c6 HW3
              go_roundw
              case rel =>
                obtain ⟨hrb, hM, hV⟩ := HAl4.out
                have hV2 := hV.row (wds (rnd (Kt k) (ws k) f))
                refine ⟨k + 1, by omega, by go_num, hrb.row (by omega) (by omega) _, hM.rowFar (by omega) _, ?_⟩
                rw [HS.out]; exact hV2
              case measure => simp [intOf]; omega
            · obtain rfl : k = 64 := by omega
              rw [show ((64 : Nat) : Int) = 64 from rfl]
              obtain ⟨v, hv⟩ : ∃ v, rounds Kt ws h 64 = v := ⟨_, rfl⟩
              rw [hv] at hV
              have HVV := Lib.hid hv
              have HI := Lib.hid (show Arr wr w.heap.size 129 8 (wds (mix h v 0)) ∧ Arr wr (w.heap.size + 1) 129 8 (wds zw) ∧ Arr wr g11 129 8 (wds v) ∧ Below w.heap.size w wr from ⟨hrb.1, hrb.2.1, hV, hrb.2.2.2⟩)
              clear hrb hM hlt hk hv hV
              go_wp2
              obtain ⟨W2, rfl⟩ : ∃ W2 : World, W2 = wr := ⟨_, rfl⟩
              go_loopw [17] (fun i W => ∃ k : Nat, k ≤ 8 ∧ i = .int .i64 k ∧ Arr W w.heap.size 129 8 (wds (mix h v k)) ∧ Arr W (w.heap.size + 1) 129 8 (wds zw) ∧ Arr W g11 129 8 (wds v) ∧ Below w.heap.size w W) (fun i _ => 8 - (intOf i).toNat)
              case atStart => exact ⟨0, by decide, rfl, HI.out⟩
              case round =>
                obtain ⟨k, hk, rfl, hA, hR, hV, hB⟩ := hrel
                clear HI
                by_cases hlt : k < 8
                · have hc : wr.cell? ⟨w.heap.size, k, none⟩ = some (.int .u32 (num (h k))) := by
                    have := hA.cell (i := k) hlt
                    rw [wds, mix_at] at this
                    exact this
                  have hc2 : wr.cell? ⟨g11, k, none⟩ = some (.int .u32 (num (v k))) := hV.cell hlt
                  have HN := Lib.hid (And.intro hc (hA.frozen k))
                  have HC := Lib.hid (And.intro hc hc2)
                  have HAl := Lib.hid (And.intro hA (And.intro hR (And.intro hV hB)))
                  have hk8 : (k : Int) < 8 := by omega
                  clear hA hR hV hB hk hc hc2
                  go_wp2_with fail
                  obtain ⟨hc, hc2⟩ := HC.out
                  have hfN := HN.out.2
                  go_region
                  go_goals
                  clear hc hc2 hfN hk8
                  go_wp2
                  go_roundw
                  case rel =>
                    obtain ⟨hA, hR, hV, hB⟩ := HAl.out
                    have hA2 := hA.set k (.int .u32 (num (h k + v k)))
                    rw [wds_upd, mix_upd] at hA2
                    exact ⟨k + 1, by omega, by go_num, hA2.drewN 1, (hR.far (p := ⟨w.heap.size, k, none⟩) (show w.heap.size + 1 ≠ w.heap.size by omega) _).drewN 1, (hV.far (p := ⟨w.heap.size, k, none⟩) (show g11 ≠ w.heap.size by omega) _).drewN 1, below_drewN (hB.setCell (show w.heap.size ≤ w.heap.size by omega) _) 1⟩
                  case measure => simp [intOf]; omega
                · obtain rfl : k = 8 := by omega
                  have hA2 : Arr wr w.heap.size 129 8 (wds (comp h b)) := hA.congr fun j hj => by simp only [wds, mix_all h v j hj, comp]; rw [HWS.out, HVV.out]
                  have HL := Lib.hid (run_load_arr (P := Tryz.prog) hA2 Tryz.underlying129 rfl info34)
                  have HW4 := Lib.hid (run_store_arr (P := Tryz.prog) hR (wds (comp h b)) info34 (wds_one _ _))
                  have HR2 := Lib.hid (run_load_arr (P := Tryz.prog) (hR.row (wds (comp h b))) Tryz.underlying129 rfl info34)
                  have HB := Lib.hid (below_row hB (show w.heap.size ≤ w.heap.size + 1 by omega) (vec 8 (wds (comp h b))))
                  clear hA hR hV hB hA2 hlt hk
                  go_wp2_with (first
                    | (refine wl_load rfl 129 _ rfl _ rfl _ HL.out ?_)
                    | (refine wl_store rfl 129 _ _ rfl _ rfl _ rfl HW4.out ?_))
                  exact bodyPost_ret (results_cell1 rfl _ _ _ rfl HR2.out) rfl ⟨rfl, HB.out⟩
end Go.Proofs.YtfeiplaiekbdkaaGreatDoor
