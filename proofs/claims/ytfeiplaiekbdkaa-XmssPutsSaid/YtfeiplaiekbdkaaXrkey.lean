/- The reference's KeyOf. -/
import Derived.Test.YtfeiplaiekbdkaaXkey
namespace Go.Proofs.Ytfeiplaiekbdkaa
open Go.RowKit
attribute [local go_sem ↓ high] zeroV26 zeroKey

theorem numOf_lt (b : List UInt8) : numOf b 0 4 false < 4294967296 := by
  unfold numOf
  split
  · have := accB_lt (bAt b (0 : Int).toNat) 4
    simpa using this
  · decide
theorem lies_two {w : World} {B : Nat} {A : Option Addr} {n : Nat} {oid : Nat} {root seed : Nd} (h : Lies w B 1 A n (u8s (keyL oid root seed))) (hn : n = 68) : ∃ a, A = some a ∧ a.block < B ∧ (∀ i, i < 32 → w.cell? ((a.add 4).add i) = some (bys root i)) ∧ (∀ i, i < 32 → w.cell? ((a.add 36).add i) = some (bys seed i)) := by
  have hl := keyL_length oid root seed
  rw [hn, ← hl] at h
  have e : keyL oid root seed ≠ [] := fun e => by rw [e] at hl; cases hl
  obtain ⟨a, rfl, hab, -⟩ := h.2 (by rw [hl]; decide)
  unfold keyL at h e
  have h1 := (lies_left h e).2
  rw [numBytes_len] at h1
  have e2 : nodeL root ++ nodeL seed ≠ [] := fun e => by have h2 := congrArg List.length e; rw [List.length_append, nodeL_length, nodeL_length] at h2; cases h2
  obtain ⟨h2, h3⟩ := lies_left h1 e2
  rw [nodeL_length, addr_add_add] at h3
  obtain ⟨a1, e1, _, c1⟩ := lies_node h2
  obtain ⟨a2, e3, _, c2⟩ := lies_node (by rw [nodeL_length]; exact h3)
  injection e1 with e1
  injection e3 with e3
  subst e1 e3
  exact ⟨a, rfl, hab, c1, c2⟩
set_option maxHeartbeats 1000000 in
set_option maxRecDepth 100000 in
theorem rkeyOf_no : KeyNo 12 := by
  intro A c b w hbl hb hl
  have h0 : Arr (w.alloc (.cells (vec 65 (keyF 0 zb zb)) 31)) w.heap.size 31 65 (keyF 0 zb zb) := Arr.new w _ _ _
  have t1 : ((b.length : Int) != 68) = true := bne_iff_ne.2 (by omega)
  obtain ⟨n, hn⟩ : ∃ n, n = numOf b 0 4 false := ⟨_, rfl⟩
  have hn4 : n < 4294967296 := by rw [hn]; exact numOf_lt b
  have hwn : IntKind.u32.wrap (n : Int) = (n : Int) := by rw [IntKind.wrap_u32]; omega
  have HN := Lib.hid (fun W (h : Lies W w.heap.size 1 A b.length (u8s b)) => by have := number_any b A c w.heap.size 0 4 false (by decide) W (by unfold maxLen; omega) h; rw [← hn] at this; exact this)
  have HL := Lib.hid (hl.alloc (Nat.le_refl _) (.cells (vec 65 (keyF 0 zb zb)) 31))
  have HH := Lib.hid (fun W => rheight_any n hn4 W)
  clear hl hn
  go_enter Try.func12, Try.ntmps12
  go_wp2_with (first
    | (go_at_call 23; refine (HN.out _ HL.out).mono ?_; rintro e w1 ⟨rfl, hw1⟩; rw [← hw1]; clear hw1)
    | (go_at_call 9; refine (HH.out _).mono ?_; rintro e w1 ⟨rfl, hw1⟩; rw [← hw1]; clear hw1)
    | ((with_reducible show wpList _ _ _ (Oper.mk _ (.build _ _) _ _ _ _ :: _) _ _); refine wl_build rfl 31 _ rfl (vec 65 (keyF 0 zb zb)) (by kernel_rfl) ?_)
    | ((with_reducible show wpList _ _ _ (Oper.mk _ (.store _ _ _) _ _ _ _ :: _) _ _); refine wl_store rfl 31 _ _ rfl _ rfl _ rfl (run_store_arr h0 (keyF 0 zb zb) infoKey (keyF_one _ _ _ _)) ?_))
  exact bodyPost_ret (results_ct rfl _ _ _ rfl (run_load_arr (h0.row _) Try.underlying31 rfl infoKey)) rfl ⟨rfl, below_row ((Below.refl _ _).alloc (Nat.le_refl _) _) (Nat.le_refl _) _⟩

set_option maxHeartbeats 1000000 in
set_option maxRecDepth 100000 in
theorem rkeyOf_yes : KeyYes 12 := by
  intro A c oid root seed w hoid hc hl
  obtain ⟨V, hV⟩ : ∃ V, V = w.alloc (.cells (vec 65 (keyF 0 zb zb)) 31) := ⟨_, rfl⟩
  have h0 : Arr V w.heap.size 31 65 (keyF 0 zb zb) := by rw [hV]; exact Arr.new w _ _ _
  have hB : Below w.heap.size w V := by rw [hV]; exact (Below.refl _ _).alloc (Nat.le_refl _) _
  have hlV := (hl.below hB).wide hB.size
  obtain ⟨a, rfl, hab, -, -⟩ := lies_two hl rfl
  obtain ⟨a', e', -, c1, c2⟩ := lies_two hlV rfl
  injection e' with e'
  subst e'
  have hacc : numOf (keyL oid root seed) 0 4 false = oid := by
    unfold numOf
    rw [if_pos (by rw [keyL_length]; decide)]
    exact acc_num oid hoid _
  have hnum := number_any (keyL oid root seed) (some a) c V.heap.size 0 4 false (by decide) V (by rw [keyL_length]; decide) (by rw [keyL_length]; exact hlV)
  rw [keyL_length, hacc] at hnum
  have HN := Lib.hid hnum
  have i36 : (36 : Int) ≤ (c : Int) := by omega
  have i4 : ¬ c = 4 := by omega
  have j36 : ¬ c = 36 := by omega
  have hwn : IntKind.u32.wrap (oid : Int) = (oid : Int) := by rw [IntKind.wrap_u32]; omega
  have HA := Lib.hid (And.intro h0 hB)
  have HC := Lib.hid (And.intro hab (And.intro c1 c2))
  have HW := Lib.hid hV
  have HH := Lib.hid (fun W => rheight_any oid hoid W)
  have HE : Hid (keyR oid root seed = (if isO oid then keyF (oid : Int) root seed else keyF 0 zb zb) ∧ keyE oid = if isO oid then 0 else 80) := Lib.hid ⟨rfl, rfl⟩
  obtain ⟨kr, hkr⟩ : ∃ kr, kr = keyR oid root seed := ⟨_, rfl⟩
  obtain ⟨ke, hke⟩ : ∃ ke, ke = keyE oid := ⟨_, rfl⟩
  obtain ⟨is, his⟩ : ∃ is, is = isO oid := ⟨_, rfl⟩
  rw [← hkr, ← hke, ← his] at HE
  rw [← hkr, ← hke]
  rw [← his] at HH
  obtain ⟨ht, hht⟩ : ∃ ht, ht = hgtO oid := ⟨_, rfl⟩
  rw [← hht] at HH
  clear hV h0 hB hlV hab c1 c2 hnum hacc hkr hke his hht hl
  cases is
  · have hk := HE.out
    rw [if_neg (by decide), if_neg (by decide)] at hk
    obtain ⟨rfl, rfl⟩ := hk
    clear HE
    go_enter Try.func12, Try.ntmps12
    go_upto_region 1 with fail
    rw [← HW.out]
    clear HW
    go_wp2_with (first
      | (go_at_call 23; refine HN.out.mono ?_; rintro e w1 ⟨rfl, hw1⟩; rw [← hw1]; clear hw1)
      | (go_at_call 9; refine (HH.out _).mono ?_; rintro e w1 ⟨rfl, hw1⟩; rw [← hw1]; clear hw1)
      | ((with_reducible show wpList _ _ _ (Oper.mk _ (.build _ _) _ _ _ _ :: _) _ _); refine wl_build rfl 31 _ rfl (vec 65 (keyF 0 zb zb)) (by kernel_rfl) ?_)
      | ((with_reducible show wpList _ _ _ (Oper.mk _ (.store _ _ _) _ _ _ _ :: _) _ _); refine wl_store rfl 31 _ _ rfl _ rfl _ rfl (run_store_arr HA.out.1 (keyF 0 zb zb) infoKey (keyF_one _ _ _ _)) ?_))
    exact bodyPost_ret (results_ct rfl _ _ _ rfl (run_load_arr (HA.out.1.row _) Try.underlying31 rfl infoKey)) rfl ⟨rfl, below_row HA.out.2 (Nat.le_refl _) _⟩
  · have hk := HE.out
    rw [if_pos rfl, if_pos rfl] at hk
    obtain ⟨rfl, rfl⟩ := hk
    clear HE
    go_enter Try.func12, Try.ntmps12
    go_upto_region 1 with fail
    rw [← HW.out]
    clear HW
    go_upto_region 5 with (first
      | (go_at_call 23; refine HN.out.mono ?_; rintro e w1 ⟨rfl, hw1⟩; rw [← hw1]; clear hw1)
      | (go_at_call 9; refine (HH.out _).mono ?_; rintro e w1 ⟨rfl, hw1⟩; rw [← hw1]; clear hw1))
    refine wp_region_held_drew (S := fun Y => Save w.heap.size V Y ∧ ∃ f, Arr Y w.heap.size 31 65 f) (by kernel_rfl) ⟨Save.of_below (VS.begin V), _, HA.out.1⟩ (fun hS => ?_)
    (refine held_take (i := 0) (oi := ?ot1) (v := ?vt1) ?at1 (by kernel_rfl) (by kernel_rfl) (by kernel_rfl) ?bt1 ?ct1 ?dt1 (by assumption) ?rt1; (case at1 => (simp only [List.getElem?_toArray, List.getElem?_cons_zero]; rfl)); (case bt1 => exact fun _ _ _ h => h); (case ct1 => kernel_rfl); (case dt1 => (intro W hW; (try dsimp only at hW); go_split_ands; go_simp; (try with_reducible rfl))); (case' rt1 => simp only [Act.put, List.setIfInBounds_toArray, List.set_cons_zero, List.set_cons_succ]))
    (refine held_take (i := 1) (oi := ?ot2) (v := .int .u32 (oid : Int)) ?at2 (by kernel_rfl) (by kernel_rfl) (by kernel_rfl) ?bt2 ?ct2 ?dt2 (by assumption) ?rt2; (case at2 => (simp only [List.getElem?_toArray, List.getElem?_cons_zero, List.getElem?_cons_succ]; rfl)); (case bt2 => exact fun _ _ _ h => h); (case ct2 => kernel_rfl); (case dt2 => (intro W hW; (try dsimp only at hW); go_simp; (try with_reducible rfl))); (case' rt2 => simp only [Act.put, List.setIfInBounds_toArray, List.set_cons_zero, List.set_cons_succ]))
    (refine held_take (i := 2) (oi := ?ot3) (v := ?vt3) ?at3 (by kernel_rfl) (by kernel_rfl) (by kernel_rfl) ?bt3 ?ct3 ?dt3 (by assumption) ?rt3; (case at3 => (simp only [List.getElem?_toArray, List.getElem?_cons_zero, List.getElem?_cons_succ]; rfl)); (case bt3 => exact fun _ _ _ h => h); (case ct3 => kernel_rfl); (case dt3 => (intro W hW; (try dsimp only at hW); go_split_ands; go_simp; (try with_reducible rfl))); (case' rt3 => simp only [Act.put, List.setIfInBounds_toArray, List.set_cons_zero, List.set_cons_succ]))
    (refine held_take (i := 3) (oi := ?ot4) (v := .slice (some (a.add 4)) 32 (c - 4)) ?at4 (by kernel_rfl) (by kernel_rfl) (by kernel_rfl) ?bt4 ?ct4 ?dt4 (by assumption) ?rt4; (case at4 => (simp only [List.getElem?_toArray, List.getElem?_cons_zero, List.getElem?_cons_succ]; rfl)); (case bt4 => exact fun _ _ _ h => h); (case ct4 => kernel_rfl); (case dt4 => (intro W hW; clear hW; go_simp; (try with_reducible rfl); (try (intro h; omega)))); (case' rt4 => simp only [Act.put, List.setIfInBounds_toArray, List.set_cons_zero, List.set_cons_succ]))
    (refine held_take (i := 4) (oi := ?ot5) (v := .pointer (some (a.add 4))) ?at5 (by kernel_rfl) (by kernel_rfl) (by kernel_rfl) ?bt5 ?ct5 ?dt5 (by assumption) ?rt5; (case at5 => (simp only [List.getElem?_toArray, List.getElem?_cons_zero, List.getElem?_cons_succ]; rfl)); (case bt5 => exact fun _ _ _ h => h); (case ct5 => kernel_rfl); (case dt5 => (intro W hW; clear hW; have har := arr_at_q ⟨a.block, a.off + 4, none⟩ (c - 4) W; go_simp; (try with_reducible rfl))); (case' rt5 => simp only [Act.put, List.setIfInBounds_toArray, List.set_cons_zero, List.set_cons_succ]))
    (refine held_take (i := 5) (oi := ?ot6) (v := .agg (vec 32 (bys root))) ?at6 (by kernel_rfl) (by kernel_rfl) (by kernel_rfl) ?bt6 ?ct6 ?dt6 (by assumption) ?rt6; (case at6 => (simp only [List.getElem?_toArray, List.getElem?_cons_zero, List.getElem?_cons_succ]; rfl)); (case bt6 => exact fun _ _ _ h => h); (case ct6 => kernel_rfl); (case dt6 => (intro W hW; exact exec_load_p 29 _ rfl (a.add 4) rfl _ (load_p fun i hi => (hW.1.cell (p := (a.add 4).add i) (by rw [addr_add_block, addr_add_block]; exact Nat.lt_of_lt_of_le HC.out.1 HA.out.2.size) (by rw [addr_add_block, addr_add_block]; exact Nat.ne_of_lt HC.out.1)).trans (HC.out.2.1 i hi)))); (case' rt6 => simp only [Act.put, List.setIfInBounds_toArray, List.set_cons_zero, List.set_cons_succ]))
    (refine held_take (i := 6) (oi := ?ot7) (v := ?vt7) ?at7 (by kernel_rfl) (by kernel_rfl) (by kernel_rfl) ?bt7 ?ct7 ?dt7 (by assumption) ?rt7; (case at7 => (simp only [List.getElem?_toArray, List.getElem?_cons_zero, List.getElem?_cons_succ]; rfl)); (case bt7 => exact fun _ _ _ h => h); (case ct7 => kernel_rfl); (case dt7 => (intro W hW; (try dsimp only at hW); go_split_ands; go_simp; (try with_reducible rfl))); (case' rt7 => simp only [Act.put, List.setIfInBounds_toArray, List.set_cons_zero, List.set_cons_succ]))
    (refine held_take (i := 7) (oi := ?ot8) (v := .slice (some (a.add 36)) 32 (c - 36)) ?at8 (by kernel_rfl) (by kernel_rfl) (by kernel_rfl) ?bt8 ?ct8 ?dt8 (by assumption) ?rt8; (case at8 => (simp only [List.getElem?_toArray, List.getElem?_cons_zero, List.getElem?_cons_succ]; rfl)); (case bt8 => exact fun _ _ _ h => h); (case ct8 => kernel_rfl); (case dt8 => (intro W hW; clear hW; go_simp; (try with_reducible rfl); (try (intro h; omega)))); (case' rt8 => simp only [Act.put, List.setIfInBounds_toArray, List.set_cons_zero, List.set_cons_succ]))
    (refine held_take (i := 8) (oi := ?ot9) (v := .pointer (some (a.add 36))) ?at9 (by kernel_rfl) (by kernel_rfl) (by kernel_rfl) ?bt9 ?ct9 ?dt9 (by assumption) ?rt9; (case at9 => (simp only [List.getElem?_toArray, List.getElem?_cons_zero, List.getElem?_cons_succ]; rfl)); (case bt9 => exact fun _ _ _ h => h); (case ct9 => kernel_rfl); (case dt9 => (intro W hW; clear hW; have har := arr_at_q ⟨a.block, a.off + 36, none⟩ (c - 36) W; go_simp; (try with_reducible rfl))); (case' rt9 => simp only [Act.put, List.setIfInBounds_toArray, List.set_cons_zero, List.set_cons_succ]))
    (refine held_take (i := 9) (oi := ?ot10) (v := .agg (vec 32 (bys seed))) ?at10 (by kernel_rfl) (by kernel_rfl) (by kernel_rfl) ?bt10 ?ct10 ?dt10 (by assumption) ?rt10; (case at10 => (simp only [List.getElem?_toArray, List.getElem?_cons_zero, List.getElem?_cons_succ]; rfl)); (case bt10 => exact fun _ _ _ h => h); (case ct10 => kernel_rfl); (case dt10 => (intro W hW; exact exec_load_p 29 _ rfl (a.add 36) rfl _ (load_p fun i hi => (hW.1.cell (p := (a.add 36).add i) (by rw [addr_add_block, addr_add_block]; exact Nat.lt_of_lt_of_le HC.out.1 HA.out.2.size) (by rw [addr_add_block, addr_add_block]; exact Nat.ne_of_lt HC.out.1)).trans (HC.out.2.2 i hi)))); (case' rt10 => simp only [Act.put, List.setIfInBounds_toArray, List.set_cons_zero, List.set_cons_succ]))
    (refine held_take (i := 10) (oi := ?ot11) (v := .agg (vec 65 (keyF (oid : Int) root seed))) ?at11 (by kernel_rfl) (by kernel_rfl) (by kernel_rfl) ?bt11 ?ct11 ?dt11 (by assumption) ?rt11; (case at11 => (simp only [List.getElem?_toArray, List.getElem?_cons_zero, List.getElem?_cons_succ]; rfl)); (case bt11 => exact fun _ _ _ h => h); (case ct11 => kernel_rfl); (case dt11 => (intro W hW; exact exec_build 31 _ rfl (vec 65 (keyF (oid : Int) root seed)) (by kernel_rfl) W)); (case' rt11 => simp only [Act.put, List.setIfInBounds_toArray, List.set_cons_zero, List.set_cons_succ]))
    refine held_one (i := 11) (oi := ?ot12) (by kernel_rfl) ?at12 ?ct12 (fun K11 hK11 => ?_)
    (case at12 => (simp only [List.getElem?_toArray, List.getElem?_cons_zero, List.getElem?_cons_succ]; rfl))
    (case ct12 => kernel_rfl)
    obtain ⟨fR, hR⟩ := hS.2
    refine ow_store 31 _ _ rfl _ rfl _ rfl (run_store_arr hR (keyF (oid : Int) root seed) infoKey (keyF_one _ _ _ _)) ?_
    have hRR := hR.row (keyF (oid : Int) root seed)
    refine hK11 _ _ ⟨hS.1.setRow _, _, hRR⟩ (fun hS11 => ?_)
    have HF := Lib.hid hRR
    clear hK11 K11 hRR
    (refine held_take (i := 12) (oi := ?ot13) (v := ?vt13) ?at13 (by kernel_rfl) (by kernel_rfl) (by kernel_rfl) ?bt13 ?ct13 ?dt13 (by assumption) ?rt13; (case at13 => (simp only [List.getElem?_toArray, List.getElem?_cons_zero, List.getElem?_cons_succ]; rfl)); (case bt13 => exact fun _ _ _ h => h); (case ct13 => kernel_rfl); (case dt13 => (intro W hW; (try dsimp only at hW); go_split_ands; go_simp; (try with_reducible rfl))); (case' rt13 => simp only [Act.put, List.setIfInBounds_toArray, List.set_cons_zero, List.set_cons_succ]))
    refine wpAnyH_done (by kernel_rfl) ?_ _
    go_wp2
    exact bodyPost_ret (results_ct rfl _ _ _ rfl (run_load_arr HF.out Try.underlying31 rfl infoKey)) rfl ⟨rfl, HA.out.2.trans (hS11.1.below (Nat.le_refl _) HA.out.2.size)⟩
end Go.Proofs.Ytfeiplaiekbdkaa
