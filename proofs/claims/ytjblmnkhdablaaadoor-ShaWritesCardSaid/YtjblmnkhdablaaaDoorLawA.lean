/- The laws ShaPads, ShaBlocks, ShaSums. -/
import Derived.Test.YtjblmnkhdablaaaDoorEq
import Derived.Test.YtjblmnkhdablaaaDoorStr
import Derived.Test.YtjblmnkhdablaaaDoorHeld
import Derived.Test.YtjblmnkhdablaaaDoorLaw
namespace Go.Proofs.YtjblmnkhdablaaaDoor
open Go.RowKit
attribute [local go_sem ↓ high] zeroV53 zeroV26 zeroV32 zeroV34

set_option maxHeartbeats 1000000 in
set_option maxRecDepth 100000 in
theorem pads_walk (n : Nat) (w : World) (hn : n < 18446744073709551616) (hT : Tabs w) :
    Calls Tryd.prog 6 #[.int .u64 (n : Int)] w fun e w' => e = .returned (.bool true) ∧ Below w.heap.size w w' := by
  obtain ⟨sl, hsl⟩ : ∃ s, s = strOf (padL n) := ⟨_, rfl⟩
  have cv : ∀ (W : World) (E : Option Addr) (ce : Nat), Lies W W.heap.size 1 E (padL n).length (u8s (padL n)) → (convert 29 9 (.slice E (padL n).length ce)).run Tryd.prog W = .ok (.string sl) W := fun W E ce h => by
    rw [hsl]; exact conv_str W _ E _ ce _ h
  obtain ⟨L, hL⟩ : ∃ L, L = (padL n).length := ⟨_, rfl⟩
  have CV : Hid (∀ (W : World) (E : Option Addr) (ce : Nat), Lies W W.heap.size 1 E L (u8s (padL n)) → (convert 29 9 (.slice E L ce)).run Tryd.prog W = .ok (.string sl) W) := Lib.hid (by rw [hL]; exact cv)
  have PA : Hid (∀ W, Calls Tryd.prog 24 #[.int .u64 (n : Int)] W fun e w' => ∃ v, e = .returned v ∧ w'.ownsRow W.heap.size 5 1 v L (u8s (padL n)) ∧ Below W.heap.size W w') := Lib.hid (by rw [hL]; exact fun W => pad_any n hn W)
  have PB : Hid (∀ W, Calls Tryd.prog 25 #[.int .u64 (n : Int)] W fun e w' => ∃ v, e = .returned v ∧ w'.ownsRow W.heap.size 5 1 v L (u8s (padL n)) ∧ Below W.heap.size W w') := Lib.hid (by rw [hL]; exact fun W => rpad_any n hn W)
  have HA := Lib.hid (awake_any w hT)
  clear hsl cv hL hT hn
  go_enter Tryd.func6, Tryd.ntmps6
  go_upto_region 3 with (go_at_call 9; refine HA.out.mono ?_; rintro e w1 ⟨rfl, hd⟩; have H1 := Lib.hid hd; clear hd)
  refine wp_region_held_drew (S := fun Y => Below w.heap.size w Y) (by kernel_rfl) (below_drewN H1.out 1) (fun hS => ?_)
  (refine held_take (i := 0) (oi := ?ot1) (v := ?vt1) ?at1 (by kernel_rfl) (by kernel_rfl) (by kernel_rfl) ?bt1 ?ct1 ?dt1 (by assumption) ?rt1; (case at1 => (simp only [List.getElem?_toArray, List.getElem?_cons_zero]; rfl)); (case bt1 => exact fun _ _ _ h => h); (case ct1 => kernel_rfl); (case dt1 => (intro W hW; (try dsimp only at hW); go_split_ands; go_simp; (try with_reducible rfl))); (case' rt1 => simp only [Act.put, List.setIfInBounds_toArray, List.set_cons_zero, List.set_cons_succ]))
  (refine held_take (i := 3) (oi := ?ot2) (v := ?vt2) ?at2 (by kernel_rfl) (by kernel_rfl) (by kernel_rfl) ?bt2 ?ct2 ?dt2 (by assumption) ?rt2; (case at2 => (simp only [List.getElem?_toArray, List.getElem?_cons_zero, List.getElem?_cons_succ]; rfl)); (case bt2 => exact fun _ _ _ h => h); (case ct2 => kernel_rfl); (case dt2 => (intro W hW; (try dsimp only at hW); go_split_ands; go_simp; (try with_reducible rfl))); (case' rt2 => simp only [Act.put, List.setIfInBounds_toArray, List.set_cons_zero, List.set_cons_succ]))
  refine held_one (i := 1) (oi := ?ot3) (by kernel_rfl) ?at3 ?ct3 (fun K1 hK1 => ?_)
  (case at3 => (simp only [List.getElem?_toArray, List.getElem?_cons_zero, List.getElem?_cons_succ]; rfl))
  (case ct3 => kernel_rfl)
  go_simp
  refine (PA.out _).mono ?_
  rintro e y1 ⟨v, rfl, hv1, hv2⟩
  obtain ⟨E1, ce1, rfl, hl⟩ := owns_form hv1
  have HL1 := Lib.hid hl
  have HB1 := Lib.hid hv2
  refine hK1 _ _ (below_drewN ((hS).trans (hv2.mono (hS).size)) 0) (fun hq => ?_)
  refine held_and (T := fun W => (convert 29 9 (.slice E1 L ce1)).run Tryd.prog W = .ok (.string sl) W) hq (CV.out _ _ _ hl) (fun hS1 => ?_)
  clear hq hK1 K1
  (refine held_take (i := 2) (oi := ?ot4) (v := ?vt4) ?at4 (by kernel_rfl) (by kernel_rfl) (by kernel_rfl) ?bt4 ?ct4 ?dt4 (by assumption) ?rt4; (case at4 => (simp only [List.getElem?_toArray, List.getElem?_cons_zero, List.getElem?_cons_succ]; rfl)); (case bt4 => exact fun _ _ _ h => h); (case ct4 => kernel_rfl); (case dt4 => (intro W hW; (try dsimp only at hW); go_split_ands; go_simp; (try with_reducible rfl))); (case' rt4 => simp only [Act.put, List.setIfInBounds_toArray, List.set_cons_zero, List.set_cons_succ]))
  refine held_one (i := 4) (oi := ?ot5) (by kernel_rfl) ?at5 ?ct5 (fun K4 hK4 => ?_)
  (case at5 => (simp only [List.getElem?_toArray, List.getElem?_cons_zero, List.getElem?_cons_succ]; rfl))
  (case ct5 => kernel_rfl)
  go_simp
  refine (PB.out _).mono ?_
  rintro e y4 ⟨v, rfl, hv1, hv2⟩
  obtain ⟨E4, ce4, rfl, hl⟩ := owns_form hv1
  have hb := HL1.out.below hv2
  refine hK4 _ _ ⟨(hS1).1.trans (hv2.mono (hS1).1.size), CV.out _ _ _ (hb.wide hv2.size)⟩ (fun hq => ?_)
  refine held_and (T := fun W => (convert 29 9 (.slice E4 L ce4)).run Tryd.prog W = .ok (.string sl) W) hq (CV.out _ _ _ hl) (fun hS4 => ?_)
  clear hq hK4 K4
  (refine held_take (i := 5) (oi := ?ot6) (v := ?vt6) ?at6 (by kernel_rfl) (by kernel_rfl) (by kernel_rfl) ?bt6 ?ct6 ?dt6 (by assumption) ?rt6; (case at6 => (simp only [List.getElem?_toArray, List.getElem?_cons_zero, List.getElem?_cons_succ]; rfl)); (case bt6 => exact fun _ _ _ h => h); (case ct6 => kernel_rfl); (case dt6 => (intro W hW; (try dsimp only at hW); go_split_ands; go_simp; (try with_reducible rfl))); (case' rt6 => simp only [Act.put, List.setIfInBounds_toArray, List.set_cons_zero, List.set_cons_succ]))
  (refine held_take (i := 6) (oi := ?ot7) (v := ?vt7) ?at7 (by kernel_rfl) (by kernel_rfl) (by kernel_rfl) ?bt7 ?ct7 ?dt7 (by assumption) ?rt7; (case at7 => (simp only [List.getElem?_toArray, List.getElem?_cons_zero, List.getElem?_cons_succ]; rfl)); (case bt7 => exact fun _ _ _ h => h); (case ct7 => kernel_rfl); (case dt7 => (intro W hW; (try dsimp only at hW); go_split_ands; go_simp; (try with_reducible rfl))); (case' rt7 => simp only [Act.put, List.setIfInBounds_toArray, List.set_cons_zero, List.set_cons_succ]))
  (refine held_take (i := 7) (oi := ?ot8) (v := ?vt8) ?at8 (by kernel_rfl) (by kernel_rfl) (by kernel_rfl) ?bt8 ?ct8 ?dt8 (by assumption) ?rt8; (case at8 => (simp only [List.getElem?_toArray, List.getElem?_cons_zero, List.getElem?_cons_succ]; rfl)); (case bt8 => exact fun _ _ _ h => h); (case ct8 => kernel_rfl); (case dt8 => (intro W hW; (try dsimp only at hW); go_split_ands; go_simp; (try with_reducible rfl))); (case' rt8 => simp only [Act.put, List.setIfInBounds_toArray, List.set_cons_zero, List.set_cons_succ]))
  refine wpAnyH_done (by kernel_rfl) ?_ _
  go_wp2
  go_ret
  exact ⟨rfl, hS4.1.1⟩

/-- What ShaBlocks' region knows. -/
def LB (w : World) (h : Nat → W32) (b : Nat → UInt8) (Y : World) : Prop :=
  Arr Y w.heap.size 34 8 (wds h) ∧ Arr Y (w.heap.size + 1) 39 64 (bys b) ∧ Below w.heap.size w Y
theorem LB.keep {w : World} {h : Nat → W32} {b : Nat → UInt8} {Y Z : World} (H : LB w h b Y) (hb : Below Y.heap.size Y Z) : LB w h b Z :=
  ⟨H.1.under hb, H.2.1.under hb, H.2.2.trans (hb.mono H.2.2.size)⟩
set_option maxHeartbeats 1000000 in
set_option maxRecDepth 100000 in
theorem blocks_walk (h : Nat → W32) (b : Nat → UInt8) (w : World) (hT : Tabs w) :
    Calls Tryd.prog 5 #[.agg (vec 8 (wds h)), .agg (vec 64 (bys b))] w fun e w' => e = .returned (.bool true) ∧ Below w.heap.size w w' := by
  obtain ⟨W0, hW0⟩ : ∃ W0, W0 = (w.alloc (.cells (vec 8 (wds h)) 34)).alloc (.cells (vec 64 (bys b)) 39) := ⟨_, rfl⟩
  have hA : Arr W0 w.heap.size 34 8 (wds h) := by rw [hW0]; exact (Arr.new w _ _ _).alloc _
  have hM : Arr W0 (w.heap.size + 1) 39 64 (bys b) := by rw [hW0]; exact Arr.newAt (w.alloc (.cells (vec 8 (wds h)) 34)) 39 64 (bys b) (by simp)
  have hB : Below w.heap.size w W0 := by rw [hW0]; exact ((Below.refl _ _).alloc (Nat.le_refl _) _).alloc (by simp) _
  have hAw := awake_any W0 (tabs_below hT hB)
  have HI : Hid (LB w h b W0) := Lib.hid ⟨hA, hM, hB⟩
  have HT := Lib.hid hT
  have HA := Lib.hid hAw
  have HW := Lib.hid hW0
  clear hA hM hB hT hAw hW0
  go_enter Tryd.func5, Tryd.ntmps5
  go_upto_region 1 with fail
  rw [← HW.out]
  clear HW
  go_upto_region 3 with (go_at_call 9; refine HA.out.mono ?_; rintro e w1 ⟨rfl, hd⟩; have H1 := Lib.hid (HI.out.keep hd); clear hd)
  refine wp_region_held_drew (S := fun Y => LB w h b Y) (by kernel_rfl) (H1.out.keep ⟨rfl, rfl, rfl, Nat.le_refl _, fun _ _ => rfl⟩) (fun hS => ?_)
  (refine held_take (i := 0) (oi := ?ot9) (v := Value.agg (vec 8 (wds h))) ?at9 (by kernel_rfl) (by kernel_rfl) (by kernel_rfl) ?bt9 ?ct9 ?dt9 (by assumption) ?rt9; (case at9 => (simp only [List.getElem?_toArray, List.getElem?_cons_zero]; rfl)); (case bt9 => exact fun _ _ _ h => h); (case ct9 => kernel_rfl); (case dt9 => (intro W hW; exact exec_load 34 _ rfl _ rfl _ (run_load_arr hW.1 Tryd.underlying34 rfl info34))); (case' rt9 => simp only [Act.put, List.setIfInBounds_toArray, List.set_cons_zero, List.set_cons_succ]))
  (refine held_take (i := 1) (oi := ?ot10) (v := Value.agg (vec 64 (bys b))) ?at10 (by kernel_rfl) (by kernel_rfl) (by kernel_rfl) ?bt10 ?ct10 ?dt10 (by assumption) ?rt10; (case at10 => (simp only [List.getElem?_toArray, List.getElem?_cons_zero, List.getElem?_cons_succ]; rfl)); (case bt10 => exact fun _ _ _ h => h); (case ct10 => kernel_rfl); (case dt10 => (intro W hW; exact exec_load 39 _ rfl _ rfl _ (run_load_arr hW.2.1 Tryd.underlying39 rfl info39))); (case' rt10 => simp only [Act.put, List.setIfInBounds_toArray, List.set_cons_zero, List.set_cons_succ]))
  (refine held_take (i := 3) (oi := ?ot11) (v := Value.agg (vec 8 (wds h))) ?at11 (by kernel_rfl) (by kernel_rfl) (by kernel_rfl) ?bt11 ?ct11 ?dt11 (by assumption) ?rt11; (case at11 => (simp only [List.getElem?_toArray, List.getElem?_cons_zero, List.getElem?_cons_succ]; rfl)); (case bt11 => exact fun _ _ _ h => h); (case ct11 => kernel_rfl); (case dt11 => (intro W hW; exact exec_load 34 _ rfl _ rfl _ (run_load_arr hW.1 Tryd.underlying34 rfl info34))); (case' rt11 => simp only [Act.put, List.setIfInBounds_toArray, List.set_cons_zero, List.set_cons_succ]))
  (refine held_take (i := 4) (oi := ?ot12) (v := ?vt12) ?at12 (by kernel_rfl) (by kernel_rfl) (by kernel_rfl) ?bt12 ?ct12 ?dt12 (by assumption) ?rt12; (case at12 => (simp only [List.getElem?_toArray, List.getElem?_cons_zero, List.getElem?_cons_succ]; rfl)); (case bt12 => exact fun _ _ _ h => h); (case ct12 => kernel_rfl); (case dt12 => (intro W hW; (try dsimp only at hW); go_split_ands; go_simp; (try with_reducible rfl))); (case' rt12 => simp only [Act.put, List.setIfInBounds_toArray, List.set_cons_zero, List.set_cons_succ]))
  refine held_one (i := 2) (oi := ?ot13) (by kernel_rfl) ?at13 ?ct13 (fun K2 hK2 => ?_)
  (case at13 => (simp only [List.getElem?_toArray, List.getElem?_cons_zero, List.getElem?_cons_succ]; rfl))
  (case ct13 => kernel_rfl)
  go_simp
  refine (block_any _ _ _ (tabs_below HT.out hS.2.2)).mono ?_
  rintro e y2 ⟨rfl, hd⟩
  refine hK2 _ _ (LB.keep hS hd) (fun hS2 => ?_)
  clear hS hd hK2 K2
  refine held_one (i := 5) (oi := ?ot14) (by kernel_rfl) ?at14 ?ct14 (fun K5 hK5 => ?_)
  (case at14 => (simp only [List.getElem?_toArray, List.getElem?_cons_zero, List.getElem?_cons_succ]; rfl))
  (case ct14 => kernel_rfl)
  go_simp
  refine (rblock_any h b (some ⟨w.heap.size + 1, 0, none⟩) 64 _ (by have := hS2.2.1.lies hS2.2.1.lt 0 64 (by decide); rw [← u8s_l64] at this; exact this)).mono ?_
  rintro e y5 ⟨rfl, hd⟩
  refine hK5 _ _ (LB.keep hS2 hd) (fun hS5 => ?_)
  clear hS2 hd hK5 K5
  (refine held_take (i := 6) (oi := ?ot15) (v := Value.bool true) ?at15 (by kernel_rfl) (by kernel_rfl) (by kernel_rfl) ?bt15 ?ct15 ?dt15 (by assumption) ?rt15; (case at15 => (simp only [List.getElem?_toArray, List.getElem?_cons_zero, List.getElem?_cons_succ]; rfl)); (case bt15 => exact fun _ _ _ h => h); (case ct15 => kernel_rfl); (case dt15 => (intro W hW; exact exec_eql8 _ _ _ rfl (comp h b) rfl rfl W)); (case' rt15 => simp only [Act.put, List.setIfInBounds_toArray, List.set_cons_zero, List.set_cons_succ]))
  (refine held_take (i := 7) (oi := ?ot16) (v := ?vt16) ?at16 (by kernel_rfl) (by kernel_rfl) (by kernel_rfl) ?bt16 ?ct16 ?dt16 (by assumption) ?rt16; (case at16 => (simp only [List.getElem?_toArray, List.getElem?_cons_zero, List.getElem?_cons_succ]; rfl)); (case bt16 => exact fun _ _ _ h => h); (case ct16 => kernel_rfl); (case dt16 => (intro W hW; (try dsimp only at hW); go_split_ands; go_simp; (try with_reducible rfl))); (case' rt16 => simp only [Act.put, List.setIfInBounds_toArray, List.set_cons_zero, List.set_cons_succ]))
  refine wpAnyH_done (by kernel_rfl) ?_ _
  go_wp2
  go_ret
  exact ⟨rfl, hS5.2.2⟩

/-- Whether parts are short. -/
def shortB (ps : List Part) : Bool := decide (ps.length ≤ 20) && ps.all fun p => decide (p.2.2.length ≤ 300)
theorem shortB_iff (ps : List Part) : shortB ps = true ↔ ps.length ≤ 20 ∧ ∀ p ∈ ps, p.2.2.length ≤ 300 := by simp [shortB]
theorem short_cat {ps : List Part} (h : shortB ps = true) : (catAll ps).length ≤ 6000 := by
  obtain ⟨h1, h2⟩ := (shortB_iff ps).1 h
  have : (catAll ps).length ≤ 300 * ps.length := by
    clear h h1
    induction ps with
    | nil => simp [catAll]
    | cons p ps ih =>
      have e : catAll (p :: ps) = p.2.2 ++ catAll ps := by simp [catAll]
      have := ih fun q hq => h2 q (by simp [hq])
      have := h2 p (by simp)
      rw [e, List.length_append, List.length_cons]; omega
  omega
set_option maxHeartbeats 400000 in
theorem short_any (ps : List Part) (A : Option Addr) (c : Nat) (w : World) (hP : Parts w A ps) (hm : ps.length ≤ maxLen) :
    Calls Tryd.prog 10 #[.slice A ps.length c] w fun e w' => e = .returned (.bool (shortB ps)) ∧ w = w' := by
  obtain ⟨v, hv⟩ : ∃ v, v = shortB ps := ⟨_, rfl⟩
  rw [← hv]
  have HV := Lib.hid hv
  have HP := Lib.hid hP
  unfold maxLen at hm
  clear hv hP
  by_cases hlen : ps.length ≤ 20
  · have h20 : ¬ (20 : Int) < (ps.length : Int) := by omega
    go_enter Tryd.func10, Tryd.ntmps10
    go_wp2
    clear h20
    go_loop [10] (fun j => ∃ k : Nat, k ≤ ps.length ∧ j = .int .i64 k ∧ Hid (∀ p ∈ ps.take k, p.2.2.length ≤ 300)) (fun i => ps.length - (intOf i).toNat)
    case atStart => exact ⟨0, Nat.zero_le _, rfl, Lib.hid (by simp)⟩
    case round =>
      obtain ⟨k, hk, rfl, hall⟩ := hrel
      by_cases hlt : k < ps.length
      · obtain ⟨a, hx, rfl, hb, hc⟩ := HP.out.row.atMap hlt
        have hmem := List.getElem_mem hlt
        obtain ⟨p, hp⟩ : ∃ p, p = ps[k] := ⟨_, rfl⟩
        rw [← hp] at hc hmem
        have hall2 : p.2.2.length ≤ 300 → ∀ q ∈ ps.take (k + 1), q.2.2.length ≤ 300 := fun h q hq => by
          rw [List.take_succ_eq_append_getElem hlt] at hq
          rcases List.mem_append.1 hq with h1 | h1
          · exact hall.out q h1
          · simp at h1; rw [h1, ← hp]; exact h
        have HA2 := Lib.hid hall2
        have HM := Lib.hid hmem
        obtain ⟨A1, c1, l1⟩ := p
        unfold partV at hc
        simp only at hc
        clear hall2 hp hmem
        by_cases h3 : l1.length ≤ 300
        · have h300 : ¬ (300 : Int) < (l1.length : Int) := by omega
          go_wp2
          go_round
          case rel => exact ⟨k + 1, by omega, by go_num, Lib.hid (HA2.out h3)⟩
          case measure => simp [intOf]; omega
        · have h300 : (300 : Int) < (l1.length : Int) := by omega
          have hvf : v = false := by
            rw [HV.out, Bool.eq_false_iff]
            intro h
            exact h3 (((shortB_iff ps).1 h).2 _ HM.out)
          go_wp2
          go_ret
          exact ⟨rfl, rfl⟩
      · obtain rfl : k = ps.length := by omega
        have hvt : v = true := by
          rw [HV.out, shortB_iff]
          refine ⟨hlen, fun p hp => hall.out p ?_⟩
          rw [List.take_length]; exact hp
        go_wp2
        go_ret
        exact ⟨rfl, rfl⟩
  · have h20 : (20 : Int) < (ps.length : Int) := by omega
    have hvf : v = false := by
      rw [HV.out, Bool.eq_false_iff]
      intro h
      exact hlen ((shortB_iff ps).1 h).1
    go_enter Tryd.func10, Tryd.ntmps10
    go_wp2
    go_ret
    exact ⟨by rw [hvf]; rfl, rfl⟩

set_option maxHeartbeats 1000000 in
set_option maxRecDepth 100000 in
theorem sums_walk (A : Option Addr) (c : Nat) (ps : List Part) (w : World) (hm : ps.length ≤ maxLen) (hP : Parts w A ps) (hT : Tabs w) :
    Calls Tryd.prog 3 #[.slice A ps.length c] w fun e w' => e = .returned (.bool true) ∧ Below w.heap.size w w' := by
  have HA := Lib.hid (awake_any w hT)
  have HP := Lib.hid hP
  have HT := Lib.hid hT
  have HM := Lib.hid hm
  clear hP hT hm
  by_cases hs : shortB ps = true
  · have hcl := short_cat hs
    have hpl := ((shortB_iff ps).1 hs).1
    have q1 := fun W => eql32 (shaL (catAll ps)) W
    have q2 := fun x y W => eqg32 .eql x y (shaL (catAll ps)) W
    obtain ⟨f, hf⟩ : ∃ f, f = shaL (catAll ps) := ⟨_, rfl⟩
    have HS := Lib.hid (And.intro hs (And.intro hcl (And.intro hpl hf)))
    rw [← hf] at q1 q2
    clear hs hcl hpl hf
    go_enter Tryd.func3, Tryd.ntmps3
    go_wp2_with (first
      | (go_at_call 9; refine HA.out.mono ?_; rintro e w1 ⟨rfl, hd⟩; have H1 := Lib.hid hd; clear hd)
      | (go_at_call 10; refine (short_any ps A c _ (HP.out.below H1.out) HM.out).mono ?_; rw [HS.out.1]; rintro e w2 ⟨rfl, rfl⟩)
      | (go_at_call 11; refine (sum_any ps A c _ (HP.out.below H1.out) (by have := HS.out.2.2.1; omega) (by have := HS.out.2.1; omega) (tabs_below HT.out H1.out)).mono ?_; rw [← HS.out.2.2.2]; rintro e w3 ⟨rfl, hd⟩; have H3 := Lib.hid (H1.out.trans (hd.mono H1.out.size)); clear hd)
      | (go_at_call 13; refine (rcat_any ps A c _ (HP.out.below H3.out) (by have := HS.out.2.1; omega) (by have := HS.out.2.2.1; omega)).mono ?_; rintro e w4 ⟨v, rfl, hv1, hv2⟩; obtain ⟨E, ce, rfl, hl⟩ := owns_form hv1; have HL := Lib.hid hl; have H4 := Lib.hid (H3.out.trans (hv2.mono H3.out.size)); clear hl hv1 hv2)
      | (go_at_call 12; refine (rsum_any (catAll ps) E ce _ HL.out (by have := HS.out.2.1; omega)).mono ?_; rw [← HS.out.2.2.2]; rintro e w5 ⟨rfl, hd⟩; have H5 := Lib.hid (H4.out.trans (hd.mono H4.out.size)); clear hd))
    go_ret
    exact ⟨rfl, H5.out⟩
  · have hs2 : shortB ps = false := by simpa using hs
    have HS := Lib.hid hs2
    clear hs hs2
    go_enter Tryd.func3, Tryd.ntmps3
    go_wp2_with (first
      | (go_at_call 9; refine HA.out.mono ?_; rintro e w1 ⟨rfl, hd⟩; have H1 := Lib.hid hd; clear hd)
      | (go_at_call 10; refine (short_any ps A c _ (HP.out.below H1.out) HM.out).mono ?_; rw [HS.out]; rintro e w2 ⟨rfl, rfl⟩))
    go_ret
    exact ⟨rfl, H1.out⟩
end Go.Proofs.YtjblmnkhdablaaaDoor
