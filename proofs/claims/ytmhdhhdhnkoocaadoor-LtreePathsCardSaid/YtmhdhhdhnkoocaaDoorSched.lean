/- sha.schedule. -/
import Derived.Test.YtmhdhhdhnkoocaaDoorSha
import Derived.Test.YtmhdhhdhnkoocaaDoorHeld
import Derived.WalkSpells
namespace Go.Proofs.YtmhdhhdhnkoocaaDoor
open Go.RowKit

attribute [local go_sem ↓ high] zeroV32 zeroV34
attribute [local go_sem] num_add
/-- The first k words. -/
def part (m : Nat → W32) (k : Nat) : Nat → W32 := fun j => if j < k then m j else 0
theorem part_upd (m : Nat → W32) (k : Nat) : upd (part m k) k (m k) = part m (k + 1) := by
  funext j
  unfold upd part
  by_cases h : j = k
  · subst h; simp
  · by_cases h2 : j < k
    · simp [h, h2, show j < k + 1 by omega]
    · simp [h, h2, show ¬ j < k + 1 by omega]

set_option maxHeartbeats 1000000 in
set_option maxRecDepth 100000 in
theorem schedule_any (b : Nat → UInt8) (w : World) :
    Calls Tryd.prog 71 #[.agg (vec 64 (bys b))] w fun e w' => e = .returned (.agg (vec 64 (wds (sch (mW b) 48)))) ∧ Below w.heap.size w w' := by
  go_enter Tryd.func71, Tryd.ntmps71
  go_wp2
  obtain ⟨W0, hW0⟩ : ∃ W0, W0 = ((w.alloc (.cells (vec 64 (bys b)) 94)).alloc (.cells (vec 64 (wds zw)) 88)).alloc (.cells (vec 64 (wds zw)) 88) := ⟨_, rfl⟩
  have hA : Arr W0 w.heap.size 94 64 (bys b) := by rw [hW0]; exact ((Arr.new w _ _ _).alloc _).alloc _
  have hR : Arr W0 (w.heap.size + 1) 88 64 (wds zw) := by rw [hW0]; exact (Arr.newAt (w.alloc (.cells (vec 64 (bys b)) 94)) 88 64 (wds zw) (by simp)).alloc _
  have hM : Arr W0 (w.heap.size + 1 + 1) 88 64 (wds (part (mW b) 0)) := by rw [hW0]; exact (Arr.newAt ((w.alloc (.cells (vec 64 (bys b)) 94)).alloc (.cells (vec 64 (wds zw)) 88)) 88 64 (wds zw) (by simp)).congr (fun i _ => by simp [wds, part, zw])
  have hB : Below w.heap.size w W0 := by rw [hW0]; exact (((Below.refl _ _).alloc (Nat.le_refl _) _).alloc (by simp) _).alloc (by simp; omega) _
  rw [← hW0]
  clear hW0
  go_loopw [6] (fun i W => ∃ k : Nat, k ≤ 16 ∧ i = .int .i64 k ∧ Arr W w.heap.size 94 64 (bys b) ∧ Arr W (w.heap.size + 1) 88 64 (wds zw) ∧ Arr W (w.heap.size + 1 + 1) 88 64 (wds (part (mW b) k)) ∧ Below w.heap.size w W) (fun i _ => 16 - (intOf i).toNat)
  case atStart => exact ⟨0, by decide, rfl, hA, hR, hM, hB⟩
  case round =>
    obtain ⟨k, hk, rfl, hA, hR, hM, hB⟩ := hrel
    by_cases hlt : k < 16
    · have hli := hA.lies hA.lt 0 64 (by decide)
      rw [← u8s_l64] at hli
      have HL := Lib.hid hli
      have hc := fun n => (hM.drewN n).cell (i := k) (by omega)
      have HC := Lib.hid hc
      have HF := Lib.hid (fun n => (hM.drewN n).frozen k)
      have HAl := Lib.hid (And.intro hA (And.intro hR (And.intro hM hB)))
      clear hA hR hM hB hli hc
      go_wp2_with (go_at_call 79; refine (be32_in b k hlt _ _ _ _ HL.out).mono ?_; rintro e w1 ⟨rfl, n, rfl⟩; have h1 := HC.out n; have h2 := HF.out n)
      go_roundw
      case rel =>
        obtain ⟨hA, hR, hM, hB⟩ := HAl.out
        have hM2 := (hM.drewN n).set k (.int .u32 (num (mW b k)))
        rw [wds_upd, part_upd] at hM2
        exact ⟨k + 1, by omega, by go_num, (hA.drewN n).far (p := ⟨w.heap.size + 1 + 1, k, none⟩) (show w.heap.size ≠ w.heap.size + 1 + 1 by omega) _, (hR.drewN n).far (p := ⟨w.heap.size + 1 + 1, k, none⟩) (show w.heap.size + 1 ≠ w.heap.size + 1 + 1 by omega) _, hM2, (below_drewN hB n).setCell (show w.heap.size ≤ w.heap.size + 1 + 1 by omega) _⟩
      case measure => simp [intOf]; omega
    · obtain rfl : k = 16 := by omega
      rw [show ((16 : Nat) : Int) = 16 from rfl]
      have hAl : Hid (Arr wr (w.heap.size + 1) 88 64 (wds zw) ∧ Arr wr (w.heap.size + 1 + 1) 88 64 (wds (sch (mW b) 0)) ∧ Below w.heap.size w wr) := Lib.hid ⟨hR, hM, hB⟩
      clear hA hR hM hB hlt hk
      go_wp2
      obtain ⟨W1, rfl⟩ : ∃ W1 : World, W1 = wr := ⟨_, rfl⟩
      go_loopw [5] (fun i W => ∃ k : Nat, k ≤ 48 ∧ i = .int .i64 ((16 + k : Nat) : Int) ∧ Arr W (w.heap.size + 1) 88 64 (wds zw) ∧ Arr W (w.heap.size + 1 + 1) 88 64 (wds (sch (mW b) k)) ∧ Below w.heap.size w W) (fun i _ => 64 - (intOf i).toNat)
      case atStart => exact ⟨0, by decide, rfl, hAl.out⟩
      case round =>
        obtain ⟨k, hk, rfl, hR, hM, hB⟩ := hrel
        clear hAl
        by_cases hlt : k < 48
        · obtain ⟨t, ht⟩ : ∃ t, t = 16 + k := ⟨_, rfl⟩
          obtain ⟨f, hf⟩ : ∃ f, sch (mW b) k = f := ⟨_, rfl⟩
          rw [← ht]
          rw [hf] at hM
          have hs : sch (mW b) (k + 1) = upd f t (fs1 (f (t - 2)) + f (t - 7) + fs0 (f (t - 15)) + f (t - 16)) := by
            rw [sch, hf, ht, show 16 + k - 2 = 14 + k by omega, show 16 + k - 7 = 9 + k by omega, show 16 + k - 15 = 1 + k by omega, show 16 + k - 16 = k by omega]
          have hc2 := hM.cell (i := t - 2) (by omega)
          have hc7 := hM.cell (i := t - 7) (by omega)
          have hc15 := hM.cell (i := t - 15) (by omega)
          have hc16 := hM.cell (i := t - 16) (by omega)
          have hcN := hM.cell (i := t) (by omega)
          have hfN := hM.frozen t
          simp only [wds] at hc2 hc7 hc15 hc16 hcN
          obtain ⟨x2, hx2⟩ : ∃ x, f (t - 2) = x := ⟨_, rfl⟩
          obtain ⟨x7, hx7⟩ : ∃ x, f (t - 7) = x := ⟨_, rfl⟩
          obtain ⟨x15, hx15⟩ : ∃ x, f (t - 15) = x := ⟨_, rfl⟩
          obtain ⟨x16, hx16⟩ : ∃ x, f (t - 16) = x := ⟨_, rfl⟩
          rw [hx2] at hc2 hs
          rw [hx7] at hc7 hs
          rw [hx15] at hc15 hs
          rw [hx16] at hc16 hs
          have HS := Lib.hid hs
          have HT := Lib.hid ht
          have HAl := Lib.hid (And.intro hR (And.intro hM hB))
          have HC := Lib.hid (And.intro hc2 (And.intro hc7 (And.intro hc15 hc16)))
          have HN := Lib.hid (And.intro hcN hfN)
          have hlt2 : t < 64 := by omega
          have hge : 16 ≤ t := by omega
          clear hs ht hf hx2 hx7 hx15 hx16 hR hM hB hc2 hc7 hc15 hc16 hcN hfN hk
          go_wp2_with fail
          have a2 : ((t : Int) - 2).toNat = t - 2 := by omega
          have b2 : (2 : Int) ≤ (t : Int) := by omega
          have c2 : (t : Int) - 2 < 64 := by omega
          have d2 : IntKind.i64.wrap ((t : Int) - 2) = (t : Int) - 2 := IntWalk.i64_in _ (by omega)
          have a7 : ((t : Int) - 7).toNat = t - 7 := by omega
          have b7 : (7 : Int) ≤ (t : Int) := by omega
          have c7 : (t : Int) - 7 < 64 := by omega
          have d7 : IntKind.i64.wrap ((t : Int) - 7) = (t : Int) - 7 := IntWalk.i64_in _ (by omega)
          have a15 : ((t : Int) - 15).toNat = t - 15 := by omega
          have b15 : (15 : Int) ≤ (t : Int) := by omega
          have c15 : (t : Int) - 15 < 64 := by omega
          have d15 : IntKind.i64.wrap ((t : Int) - 15) = (t : Int) - 15 := IntWalk.i64_in _ (by omega)
          have a16 : ((t : Int) - 16).toNat = t - 16 := by omega
          have b16 : (16 : Int) ≤ (t : Int) := by omega
          have c16 : (t : Int) - 16 < 64 := by omega
          have d16 : IntKind.i64.wrap ((t : Int) - 16) = (t : Int) - 16 := IntWalk.i64_in _ (by omega)
          have d0 : (t : Int) < 64 := by omega
          refine wp_region_held_drew (S := fun Y => Y.cell? ⟨w.heap.size + 1 + 1, t - 2, none⟩ = some (.int .u32 (num x2)) ∧ Y.cell? ⟨w.heap.size + 1 + 1, t - 7, none⟩ = some (.int .u32 (num x7)) ∧ Y.cell? ⟨w.heap.size + 1 + 1, t - 15, none⟩ = some (.int .u32 (num x15)) ∧ Y.cell? ⟨w.heap.size + 1 + 1, t - 16, none⟩ = some (.int .u32 (num x16))) (by kernel_rfl) HC.out (fun hS => ?_)
          (refine held_take (i := 0) (oi := ?ot1) (v := ?vt1) ?at1 (by kernel_rfl) (by kernel_rfl) (by kernel_rfl) ?bt1 ?ct1 ?dt1 (by assumption) ?rt1; (case at1 => (simp only [List.getElem?_toArray, List.getElem?_cons_zero]; rfl)); (case bt1 => exact fun _ _ _ h => h); (case ct1 => kernel_rfl); (case dt1 => (intro W hW; (try dsimp only at hW); go_split_ands; go_simp; (try with_reducible rfl))); (case' rt1 => simp only [Act.put, List.setIfInBounds_toArray, List.set_cons_zero, List.set_cons_succ]))
          (refine held_take (i := 1) (oi := ?ot2) (v := ?vt2) ?at2 (by kernel_rfl) (by kernel_rfl) (by kernel_rfl) ?bt2 ?ct2 ?dt2 (by assumption) ?rt2; (case at2 => (simp only [List.getElem?_toArray, List.getElem?_cons_zero, List.getElem?_cons_succ]; rfl)); (case bt2 => exact fun _ _ _ h => h); (case ct2 => kernel_rfl); (case dt2 => (intro W hW; (try dsimp only at hW); go_split_ands; go_simp; (try with_reducible rfl))); (case' rt2 => simp only [Act.put, List.setIfInBounds_toArray, List.set_cons_zero, List.set_cons_succ]))
          (refine held_take (i := 2) (oi := ?ot3) (v := ?vt3) ?at3 (by kernel_rfl) (by kernel_rfl) (by kernel_rfl) ?bt3 ?ct3 ?dt3 (by assumption) ?rt3; (case at3 => (simp only [List.getElem?_toArray, List.getElem?_cons_zero, List.getElem?_cons_succ]; rfl)); (case bt3 => exact fun _ _ _ h => h); (case ct3 => kernel_rfl); (case dt3 => (intro W hW; (try dsimp only at hW); go_split_ands; go_simp; (try with_reducible rfl))); (case' rt3 => simp only [Act.put, List.setIfInBounds_toArray, List.set_cons_zero, List.set_cons_succ]))
          (refine held_take (i := 3) (oi := ?ot4) (v := ?vt4) ?at4 (by kernel_rfl) (by kernel_rfl) (by kernel_rfl) ?bt4 ?ct4 ?dt4 (by assumption) ?rt4; (case at4 => (simp only [List.getElem?_toArray, List.getElem?_cons_zero, List.getElem?_cons_succ]; rfl)); (case bt4 => exact fun _ _ _ h => h); (case ct4 => kernel_rfl); (case dt4 => (intro W hW; (try dsimp only at hW); go_split_ands; go_simp; (try with_reducible rfl))); (case' rt4 => simp only [Act.put, List.setIfInBounds_toArray, List.set_cons_zero, List.set_cons_succ]))
          (refine held_take (i := 4) (oi := ?ot5) (v := ?vt5) ?at5 (by kernel_rfl) (by kernel_rfl) (by kernel_rfl) ?bt5 ?ct5 ?dt5 (by assumption) ?rt5; (case at5 => (simp only [List.getElem?_toArray, List.getElem?_cons_zero, List.getElem?_cons_succ]; rfl)); (case bt5 => exact fun _ _ _ h => h); (case ct5 => kernel_rfl); (case dt5 => (intro W hW; (try dsimp only at hW); go_split_ands; go_simp; (try with_reducible rfl))); (case' rt5 => simp only [Act.put, List.setIfInBounds_toArray, List.set_cons_zero, List.set_cons_succ]))
          (refine held_take (i := 6) (oi := ?ot6) (v := ?vt6) ?at6 (by kernel_rfl) (by kernel_rfl) (by kernel_rfl) ?bt6 ?ct6 ?dt6 (by assumption) ?rt6; (case at6 => (simp only [List.getElem?_toArray, List.getElem?_cons_zero, List.getElem?_cons_succ]; rfl)); (case bt6 => exact fun _ _ _ h => h); (case ct6 => kernel_rfl); (case dt6 => (intro W hW; (try dsimp only at hW); go_split_ands; go_simp; (try with_reducible rfl))); (case' rt6 => simp only [Act.put, List.setIfInBounds_toArray, List.set_cons_zero, List.set_cons_succ]))
          (refine held_take (i := 7) (oi := ?ot7) (v := ?vt7) ?at7 (by kernel_rfl) (by kernel_rfl) (by kernel_rfl) ?bt7 ?ct7 ?dt7 (by assumption) ?rt7; (case at7 => (simp only [List.getElem?_toArray, List.getElem?_cons_zero, List.getElem?_cons_succ]; rfl)); (case bt7 => exact fun _ _ _ h => h); (case ct7 => kernel_rfl); (case dt7 => (intro W hW; (try dsimp only at hW); go_split_ands; go_simp; (try with_reducible rfl))); (case' rt7 => simp only [Act.put, List.setIfInBounds_toArray, List.set_cons_zero, List.set_cons_succ]))
          (refine held_take (i := 8) (oi := ?ot8) (v := ?vt8) ?at8 (by kernel_rfl) (by kernel_rfl) (by kernel_rfl) ?bt8 ?ct8 ?dt8 (by assumption) ?rt8; (case at8 => (simp only [List.getElem?_toArray, List.getElem?_cons_zero, List.getElem?_cons_succ]; rfl)); (case bt8 => exact fun _ _ _ h => h); (case ct8 => kernel_rfl); (case dt8 => (intro W hW; (try dsimp only at hW); go_split_ands; go_simp; (try with_reducible rfl))); (case' rt8 => simp only [Act.put, List.setIfInBounds_toArray, List.set_cons_zero, List.set_cons_succ]))
          (refine held_take (i := 9) (oi := ?ot9) (v := ?vt9) ?at9 (by kernel_rfl) (by kernel_rfl) (by kernel_rfl) ?bt9 ?ct9 ?dt9 (by assumption) ?rt9; (case at9 => (simp only [List.getElem?_toArray, List.getElem?_cons_zero, List.getElem?_cons_succ]; rfl)); (case bt9 => exact fun _ _ _ h => h); (case ct9 => kernel_rfl); (case dt9 => (intro W hW; (try dsimp only at hW); go_split_ands; go_simp; (try with_reducible rfl))); (case' rt9 => simp only [Act.put, List.setIfInBounds_toArray, List.set_cons_zero, List.set_cons_succ]))
          (refine held_take (i := 11) (oi := ?ot10) (v := ?vt10) ?at10 (by kernel_rfl) (by kernel_rfl) (by kernel_rfl) ?bt10 ?ct10 ?dt10 (by assumption) ?rt10; (case at10 => (simp only [List.getElem?_toArray, List.getElem?_cons_zero, List.getElem?_cons_succ]; rfl)); (case bt10 => exact fun _ _ _ h => h); (case ct10 => kernel_rfl); (case dt10 => (intro W hW; (try dsimp only at hW); go_split_ands; go_simp; (try with_reducible rfl))); (case' rt10 => simp only [Act.put, List.setIfInBounds_toArray, List.set_cons_zero, List.set_cons_succ]))
          (refine held_take (i := 12) (oi := ?ot11) (v := ?vt11) ?at11 (by kernel_rfl) (by kernel_rfl) (by kernel_rfl) ?bt11 ?ct11 ?dt11 (by assumption) ?rt11; (case at11 => (simp only [List.getElem?_toArray, List.getElem?_cons_zero, List.getElem?_cons_succ]; rfl)); (case bt11 => exact fun _ _ _ h => h); (case ct11 => kernel_rfl); (case dt11 => (intro W hW; (try dsimp only at hW); go_split_ands; go_simp; (try with_reducible rfl))); (case' rt11 => simp only [Act.put, List.setIfInBounds_toArray, List.set_cons_zero, List.set_cons_succ]))
          (refine held_take (i := 13) (oi := ?ot12) (v := ?vt12) ?at12 (by kernel_rfl) (by kernel_rfl) (by kernel_rfl) ?bt12 ?ct12 ?dt12 (by assumption) ?rt12; (case at12 => (simp only [List.getElem?_toArray, List.getElem?_cons_zero, List.getElem?_cons_succ]; rfl)); (case bt12 => exact fun _ _ _ h => h); (case ct12 => kernel_rfl); (case dt12 => (intro W hW; (try dsimp only at hW); go_split_ands; go_simp; (try with_reducible rfl))); (case' rt12 => simp only [Act.put, List.setIfInBounds_toArray, List.set_cons_zero, List.set_cons_succ]))
          (refine held_take (i := 14) (oi := ?ot13) (v := ?vt13) ?at13 (by kernel_rfl) (by kernel_rfl) (by kernel_rfl) ?bt13 ?ct13 ?dt13 (by assumption) ?rt13; (case at13 => (simp only [List.getElem?_toArray, List.getElem?_cons_zero, List.getElem?_cons_succ]; rfl)); (case bt13 => exact fun _ _ _ h => h); (case ct13 => kernel_rfl); (case dt13 => (intro W hW; (try dsimp only at hW); go_split_ands; go_simp; (try with_reducible rfl))); (case' rt13 => simp only [Act.put, List.setIfInBounds_toArray, List.set_cons_zero, List.set_cons_succ]))
          (refine held_take (i := 17) (oi := ?ot14) (v := ?vt14) ?at14 (by kernel_rfl) (by kernel_rfl) (by kernel_rfl) ?bt14 ?ct14 ?dt14 (by assumption) ?rt14; (case at14 => (simp only [List.getElem?_toArray, List.getElem?_cons_zero, List.getElem?_cons_succ]; rfl)); (case bt14 => exact fun _ _ _ h => h); (case ct14 => kernel_rfl); (case dt14 => (intro W hW; (try dsimp only at hW); go_split_ands; go_simp; (try with_reducible rfl))); (case' rt14 => simp only [Act.put, List.setIfInBounds_toArray, List.set_cons_zero, List.set_cons_succ]))
          (refine held_take (i := 18) (oi := ?ot15) (v := ?vt15) ?at15 (by kernel_rfl) (by kernel_rfl) (by kernel_rfl) ?bt15 ?ct15 ?dt15 (by assumption) ?rt15; (case at15 => (simp only [List.getElem?_toArray, List.getElem?_cons_zero, List.getElem?_cons_succ]; rfl)); (case bt15 => exact fun _ _ _ h => h); (case ct15 => kernel_rfl); (case dt15 => (intro W hW; (try dsimp only at hW); go_split_ands; go_simp; (try with_reducible rfl))); (case' rt15 => simp only [Act.put, List.setIfInBounds_toArray, List.set_cons_zero, List.set_cons_succ]))
          (refine held_take (i := 19) (oi := ?ot16) (v := ?vt16) ?at16 (by kernel_rfl) (by kernel_rfl) (by kernel_rfl) ?bt16 ?ct16 ?dt16 (by assumption) ?rt16; (case at16 => (simp only [List.getElem?_toArray, List.getElem?_cons_zero, List.getElem?_cons_succ]; rfl)); (case bt16 => exact fun _ _ _ h => h); (case ct16 => kernel_rfl); (case dt16 => (intro W hW; (try dsimp only at hW); go_split_ands; go_simp; (try with_reducible rfl))); (case' rt16 => simp only [Act.put, List.setIfInBounds_toArray, List.set_cons_zero, List.set_cons_succ]))
          (refine held_take (i := 20) (oi := ?ot17) (v := ?vt17) ?at17 (by kernel_rfl) (by kernel_rfl) (by kernel_rfl) ?bt17 ?ct17 ?dt17 (by assumption) ?rt17; (case at17 => (simp only [List.getElem?_toArray, List.getElem?_cons_zero, List.getElem?_cons_succ]; rfl)); (case bt17 => exact fun _ _ _ h => h); (case ct17 => kernel_rfl); (case dt17 => (intro W hW; (try dsimp only at hW); go_split_ands; go_simp; (try with_reducible rfl))); (case' rt17 => simp only [Act.put, List.setIfInBounds_toArray, List.set_cons_zero, List.set_cons_succ]))
          refine held_one (i := 5) (oi := ?ot18) (by kernel_rfl) ?at18 ?ct18 (fun K5 hK5 => ?_)
          (case at18 => (simp only [List.getElem?_toArray, List.getElem?_cons_zero, List.getElem?_cons_succ]; rfl))
          (case ct18 => kernel_rfl)
          go_simp
          refine (smallSum1_any _ _).mono ?_
          rintro e w1 ⟨rfl, rfl⟩
          refine hK5 _ _ hS (fun hS5 => ?_)
          clear hS hK5 K5
          (refine held_take (i := 10) (oi := ?ot19) (v := ?vt19) ?at19 (by kernel_rfl) (by kernel_rfl) (by kernel_rfl) ?bt19 ?ct19 ?dt19 (by assumption) ?rt19; (case at19 => (simp only [List.getElem?_toArray, List.getElem?_cons_zero, List.getElem?_cons_succ]; rfl)); (case bt19 => exact fun _ _ _ h => h); (case ct19 => kernel_rfl); (case dt19 => (intro W hW; (try dsimp only at hW); go_split_ands; go_simp; (try with_reducible rfl))); (case' rt19 => simp only [Act.put, List.setIfInBounds_toArray, List.set_cons_zero, List.set_cons_succ]))
          refine held_one (i := 15) (oi := ?ot20) (by kernel_rfl) ?at20 ?ct20 (fun K15 hK15 => ?_)
          (case at20 => (simp only [List.getElem?_toArray, List.getElem?_cons_zero, List.getElem?_cons_succ]; rfl))
          (case ct20 => kernel_rfl)
          go_simp
          refine (smallSum0_any _ _).mono ?_
          rintro e w1 ⟨rfl, rfl⟩
          refine hK15 _ _ hS5 (fun hS15 => ?_)
          clear hS5 hK15 K15
          (refine held_take (i := 16) (oi := ?ot21) (v := ?vt21) ?at21 (by kernel_rfl) (by kernel_rfl) (by kernel_rfl) ?bt21 ?ct21 ?dt21 (by assumption) ?rt21; (case at21 => (simp only [List.getElem?_toArray, List.getElem?_cons_zero, List.getElem?_cons_succ]; rfl)); (case bt21 => exact fun _ _ _ h => h); (case ct21 => kernel_rfl); (case dt21 => (intro W hW; (try dsimp only at hW); go_split_ands; go_simp; (try with_reducible rfl))); (case' rt21 => simp only [Act.put, List.setIfInBounds_toArray, List.set_cons_zero, List.set_cons_succ]))
          (refine held_take (i := 21) (oi := ?ot22) (v := ?vt22) ?at22 (by kernel_rfl) (by kernel_rfl) (by kernel_rfl) ?bt22 ?ct22 ?dt22 (by assumption) ?rt22; (case at22 => (simp only [List.getElem?_toArray, List.getElem?_cons_zero, List.getElem?_cons_succ]; rfl)); (case bt22 => exact fun _ _ _ h => h); (case ct22 => kernel_rfl); (case dt22 => (intro W hW; (try dsimp only at hW); go_split_ands; go_simp; (try with_reducible rfl))); (case' rt22 => simp only [Act.put, List.setIfInBounds_toArray, List.set_cons_zero, List.set_cons_succ]))
          (refine held_take (i := 22) (oi := ?ot23) (v := ?vt23) ?at23 (by kernel_rfl) (by kernel_rfl) (by kernel_rfl) ?bt23 ?ct23 ?dt23 (by assumption) ?rt23; (case at23 => (simp only [List.getElem?_toArray, List.getElem?_cons_zero, List.getElem?_cons_succ]; rfl)); (case bt23 => exact fun _ _ _ h => h); (case ct23 => kernel_rfl); (case dt23 => (intro W hW; (try dsimp only at hW); go_split_ands; go_simp; (try with_reducible rfl))); (case' rt23 => simp only [Act.put, List.setIfInBounds_toArray, List.set_cons_zero, List.set_cons_succ]))
          refine held_one (i := 23) (oi := ?ot24) (by kernel_rfl) ?at24 ?ct24 (fun K23 hK23 => ?_)
          (case at24 => (simp only [List.getElem?_toArray, List.getElem?_cons_zero, List.getElem?_cons_succ]; rfl))
          (case ct24 => kernel_rfl)
          have hcN := HN.out.1
          have hfN := HN.out.2
          go_simp
          clear hcN hfN
          have hX : ∀ j x, j < t → wr.cell? ⟨w.heap.size + 1 + 1, j, none⟩ = some x → (wr.setCell ⟨w.heap.size + 1 + 1, t, none⟩ (.int .u32 (num (fs1 x2 + x7 + fs0 x15 + x16)))).drew.cell? ⟨w.heap.size + 1 + 1, j, none⟩ = some x := fun j x hj h => (World.cell?_setCell_other wr _ _ _ (by intro e; injection e; omega)).trans h
          refine hK23 _ _ ⟨hX _ _ (by omega) hS15.1, hX _ _ (by omega) hS15.2.1, hX _ _ (by omega) hS15.2.2.1, hX _ _ (by omega) hS15.2.2.2⟩ (fun hS23 => ?_)
          clear hX hS15 hK23 K23
          refine wpAnyH_done (by kernel_rfl) ?_ _
          clear hS23 a2 a7 a15 a16 b2 b7 b15 b16 c2 c7 c15 c16 d2 d7 d15 d16 d0
          go_wp2
          go_roundw
          case rel =>
            obtain ⟨hR, hM, hB⟩ := HAl.out
            have hM2 := hM.set t (.int .u32 (num (fs1 x2 + x7 + fs0 x15 + x16)))
            rw [wds_upd, ← HS.out] at hM2
            exact ⟨k + 1, by omega, by have := HT.out; go_num, hR.far (p := ⟨w.heap.size + 1 + 1, t, none⟩) (show w.heap.size + 1 ≠ w.heap.size + 1 + 1 by omega) _, hM2, below_drewN (hB.setCell (show w.heap.size ≤ w.heap.size + 1 + 1 by omega) _) 1⟩
          case measure => have := HT.out; simp [intOf]; omega
        · obtain rfl : k = 48 := by omega
          have hR2 := hR.row (wds (sch (mW b) 48))
          have HL := Lib.hid (run_load_arr (P := Tryd.prog) hM Tryd.underlying88 rfl info32)
          have HW := Lib.hid (run_store_arr (P := Tryd.prog) hR (wds (sch (mW b) 48)) info32 (wds_one _ _))
          have HR2 := Lib.hid (run_load_arr (P := Tryd.prog) hR2 Tryd.underlying88 rfl info32)
          have HB := Lib.hid (below_row hB (show w.heap.size ≤ w.heap.size + 1 by omega) (vec 64 (wds (sch (mW b) 48))))
          clear hR hM hB hR2 hlt hk
          go_wp2_with (first
            | (refine wl_load rfl 88 _ rfl _ rfl _ HL.out ?_)
            | (refine wl_store rfl 88 _ _ rfl _ rfl _ rfl HW.out ?_))
          exact bodyPost_ret (results_cell1 rfl _ _ _ rfl HR2.out) rfl ⟨rfl, HB.out⟩
end Go.Proofs.YtmhdhhdhnkoocaaDoor
