/- The walks of WotsChains, WotsSteps. -/
import Derived.Test.YtepgndgelfkcnaaDoorWt
import Derived.Test.YtepgndgelfkcnaaDoorWd
namespace Go.Proofs.YtepgndgelfkcnaaDoor
open Go.RowKit
attribute [local go_sem ↓ high] zeroV26 zeroV45

abbrev I64 (i : Int) : Prop := -9223372036854775808 ≤ i ∧ i ≤ 9223372036854775807
theorem chain_nat (x : Nat → UInt8) (i k : Nat) (seed : Nat → UInt8) (idx : Nat) (hidx : idx < 4294967296) (n : Nat) (hn : n ≤ 66) (hik : i + k ≤ 15) (w : World) (hT : Tabs w) :
    Calls Tryd.prog 9 #[.agg (vec 32 (bys x)), .int .i64 (i : Int), .int .i64 (k : Int), .agg (vec 32 (bys seed)), .int .u32 (idx : Int), .int .i64 (n : Int)] w fun e w' => e = .returned (.agg (vec 32 (bys (chF seed idx n x i k)))) ∧ Below w.heap.size w w' := by
  have h := chain_any x (i : Int) (k : Int) seed idx hidx (n : Int) (by omega) (by omega) w hT
  rw [chainF_nat x i k seed idx n hn hik] at h
  exact h
theorem chain_on (x : Nat → UInt8) (i k : Nat) (seed : Nat → UInt8) (idx : Nat) (hidx : idx < 4294967296) (n : Nat) (hn : n ≤ 66) (hik : i + k ≤ 15) (w : World) (hT : Tabs w) :
    Calls Tryd.prog 9 #[.agg (vec 32 (bys (chF seed idx n x 0 i))), .int .i64 (i : Int), .int .i64 (k : Int), .agg (vec 32 (bys seed)), .int .u32 (idx : Int), .int .i64 (n : Int)] w fun e w' => e = .returned (.agg (vec 32 (bys (chF seed idx n x 0 (i + k))))) ∧ Below w.heap.size w w' := by
  have h := chain_nat (chF seed idx n x 0 i) i k seed idx hidx n hn hik w hT
  have e := chF_add seed idx n x 0 i k
  rw [Nat.zero_add] at e
  rw [e] at h
  exact h

set_option maxHeartbeats 1000000 in
set_option maxRecDepth 100000 in
theorem wotsChains_walk (x : Nat → UInt8) (i k : Int) (seed : Nat → UInt8) (idx : Nat) (chain : Int) (w : World) (bi : I64 i) (bk : I64 k) (hidx : idx < 4294967296) (_bc : I64 chain) (hT : Tabs w) :
    Calls Tryd.prog 3 #[.agg (vec 32 (bys x)), .int .i64 i, .int .i64 k, .agg (vec 32 (bys seed)), .int .u32 (idx : Int), .int .i64 chain] w fun e w' => e = .returned (.bool true) ∧ Below w.heap.size w w' := by
  obtain ⟨V, hV⟩ : ∃ V, V = (w.alloc (.cells (vec 32 (bys x)) 23)).alloc (.cells (vec 32 (bys seed)) 23) := ⟨_, rfl⟩
  have hA0 : Arr V w.heap.size 23 32 (bys x) := by rw [hV]; exact (Arr.newAt _ _ _ _ (by simp)).alloc _
  have hA1 : Arr V (w.heap.size + 1) 23 32 (bys seed) := by rw [hV]; exact Arr.newAt _ _ _ _ (by simp)
  have hB : Below w.heap.size w V := by rw [hV]; exact (((Below.refl _ _).alloc (by simp <;> omega) _).alloc (by simp <;> omega) _)
  have HB0 := Lib.hid hB
  have HT := Lib.hid hT
  have HP0 := Lib.hid hA0
  have HP1 := Lib.hid hA1
  have HW := Lib.hid hV
  clear hV hB hT hA0 hA1
  go_enter Tryd.func3, Tryd.ntmps3
  go_upto_region 1 with fail
  rw [← HW.out]
  clear HW
  go_upto_region 3 with (go_at_call 8; refine (awake6_any _).mono ?_; rintro e V1 ⟨rfl, hd⟩; have HD := Lib.hid hd; clear hd)
  have HB := Lib.hid (HB0.out.trans (HD.out.mono HB0.out.size))
  have HQ0 := Lib.hid (HP0.out.under HD.out)
  have HQ1 := Lib.hid (HP1.out.under HD.out)
  clear HB0 HD HP0 HP1
  refine wp_region_held_drew (S := fun Y => VS V1 Y) (by kernel_rfl) (VS.begin V1) (fun hS => ?_)
  (refine held_take (i := 0) (oi := ?ot1) (v := .agg (vec 32 (bys x))) ?at1 (by kernel_rfl) (by kernel_rfl) (by kernel_rfl) ?bt1 ?ct1 ?dt1 (by assumption) ?rt1; (case at1 => (simp only [List.getElem?_toArray, List.getElem?_cons_zero]; rfl)); (case bt1 => exact fun _ _ _ h => h); (case ct1 => kernel_rfl); (case dt1 => (intro W hW; exact exec_load 23 _ rfl _ rfl _ (run_load_arr (HQ0.out.under hW) Tryd.underlying23 rfl info26))); (case' rt1 => simp only [Act.put, List.setIfInBounds_toArray, List.set_cons_zero, List.set_cons_succ]))
  (refine held_take (i := 1) (oi := ?ot2) (v := ?vt2) ?at2 (by kernel_rfl) (by kernel_rfl) (by kernel_rfl) ?bt2 ?ct2 ?dt2 (by assumption) ?rt2; (case at2 => (simp only [List.getElem?_toArray, List.getElem?_cons_zero, List.getElem?_cons_succ]; rfl)); (case bt2 => exact fun _ _ _ h => h); (case ct2 => kernel_rfl); (case dt2 => (intro W hW; (try dsimp only at hW); go_split_ands; go_simp; (try with_reducible rfl))); (case' rt2 => simp only [Act.put, List.setIfInBounds_toArray, List.set_cons_zero, List.set_cons_succ]))
  (refine held_take (i := 2) (oi := ?ot3) (v := ?vt3) ?at3 (by kernel_rfl) (by kernel_rfl) (by kernel_rfl) ?bt3 ?ct3 ?dt3 (by assumption) ?rt3; (case at3 => (simp only [List.getElem?_toArray, List.getElem?_cons_zero, List.getElem?_cons_succ]; rfl)); (case bt3 => exact fun _ _ _ h => h); (case ct3 => kernel_rfl); (case dt3 => (intro W hW; (try dsimp only at hW); go_split_ands; go_simp; (try with_reducible rfl))); (case' rt3 => simp only [Act.put, List.setIfInBounds_toArray, List.set_cons_zero, List.set_cons_succ]))
  (refine held_take (i := 3) (oi := ?ot4) (v := .agg (vec 32 (bys seed))) ?at4 (by kernel_rfl) (by kernel_rfl) (by kernel_rfl) ?bt4 ?ct4 ?dt4 (by assumption) ?rt4; (case at4 => (simp only [List.getElem?_toArray, List.getElem?_cons_zero, List.getElem?_cons_succ]; rfl)); (case bt4 => exact fun _ _ _ h => h); (case ct4 => kernel_rfl); (case dt4 => (intro W hW; exact exec_load 23 _ rfl _ rfl _ (run_load_arr (HQ1.out.under hW) Tryd.underlying23 rfl info26))); (case' rt4 => simp only [Act.put, List.setIfInBounds_toArray, List.set_cons_zero, List.set_cons_succ]))
  (refine held_take (i := 4) (oi := ?ot5) (v := ?vt5) ?at5 (by kernel_rfl) (by kernel_rfl) (by kernel_rfl) ?bt5 ?ct5 ?dt5 (by assumption) ?rt5; (case at5 => (simp only [List.getElem?_toArray, List.getElem?_cons_zero, List.getElem?_cons_succ]; rfl)); (case bt5 => exact fun _ _ _ h => h); (case ct5 => kernel_rfl); (case dt5 => (intro W hW; (try dsimp only at hW); go_split_ands; go_simp; (try with_reducible rfl))); (case' rt5 => simp only [Act.put, List.setIfInBounds_toArray, List.set_cons_zero, List.set_cons_succ]))
  (refine held_take (i := 5) (oi := ?ot6) (v := ?vt6) ?at6 (by kernel_rfl) (by kernel_rfl) (by kernel_rfl) ?bt6 ?ct6 ?dt6 (by assumption) ?rt6; (case at6 => (simp only [List.getElem?_toArray, List.getElem?_cons_zero, List.getElem?_cons_succ]; rfl)); (case bt6 => exact fun _ _ _ h => h); (case ct6 => kernel_rfl); (case dt6 => (intro W hW; (try dsimp only at hW); go_split_ands; go_simp; (try with_reducible rfl))); (case' rt6 => simp only [Act.put, List.setIfInBounds_toArray, List.set_cons_zero, List.set_cons_succ]))
  (refine held_take (i := 7) (oi := ?ot7) (v := .agg (vec 32 (bys x))) ?at7 (by kernel_rfl) (by kernel_rfl) (by kernel_rfl) ?bt7 ?ct7 ?dt7 (by assumption) ?rt7; (case at7 => (simp only [List.getElem?_toArray, List.getElem?_cons_zero, List.getElem?_cons_succ]; rfl)); (case bt7 => exact fun _ _ _ h => h); (case ct7 => kernel_rfl); (case dt7 => (intro W hW; exact exec_load 23 _ rfl _ rfl _ (run_load_arr (HQ0.out.under hW) Tryd.underlying23 rfl info26))); (case' rt7 => simp only [Act.put, List.setIfInBounds_toArray, List.set_cons_zero, List.set_cons_succ]))
  (refine held_take (i := 8) (oi := ?ot8) (v := ?vt8) ?at8 (by kernel_rfl) (by kernel_rfl) (by kernel_rfl) ?bt8 ?ct8 ?dt8 (by assumption) ?rt8; (case at8 => (simp only [List.getElem?_toArray, List.getElem?_cons_zero, List.getElem?_cons_succ]; rfl)); (case bt8 => exact fun _ _ _ h => h); (case ct8 => kernel_rfl); (case dt8 => (intro W hW; (try dsimp only at hW); go_split_ands; go_simp; (try with_reducible rfl))); (case' rt8 => simp only [Act.put, List.setIfInBounds_toArray, List.set_cons_zero, List.set_cons_succ]))
  (refine held_take (i := 9) (oi := ?ot9) (v := ?vt9) ?at9 (by kernel_rfl) (by kernel_rfl) (by kernel_rfl) ?bt9 ?ct9 ?dt9 (by assumption) ?rt9; (case at9 => (simp only [List.getElem?_toArray, List.getElem?_cons_zero, List.getElem?_cons_succ]; rfl)); (case bt9 => exact fun _ _ _ h => h); (case ct9 => kernel_rfl); (case dt9 => (intro W hW; (try dsimp only at hW); go_split_ands; go_simp; (try with_reducible rfl))); (case' rt9 => simp only [Act.put, List.setIfInBounds_toArray, List.set_cons_zero, List.set_cons_succ]))
  (refine held_take (i := 10) (oi := ?ot10) (v := .agg (vec 32 (bys seed))) ?at10 (by kernel_rfl) (by kernel_rfl) (by kernel_rfl) ?bt10 ?ct10 ?dt10 (by assumption) ?rt10; (case at10 => (simp only [List.getElem?_toArray, List.getElem?_cons_zero, List.getElem?_cons_succ]; rfl)); (case bt10 => exact fun _ _ _ h => h); (case ct10 => kernel_rfl); (case dt10 => (intro W hW; exact exec_load 23 _ rfl _ rfl _ (run_load_arr (HQ1.out.under hW) Tryd.underlying23 rfl info26))); (case' rt10 => simp only [Act.put, List.setIfInBounds_toArray, List.set_cons_zero, List.set_cons_succ]))
  (refine held_take (i := 11) (oi := ?ot11) (v := ?vt11) ?at11 (by kernel_rfl) (by kernel_rfl) (by kernel_rfl) ?bt11 ?ct11 ?dt11 (by assumption) ?rt11; (case at11 => (simp only [List.getElem?_toArray, List.getElem?_cons_zero, List.getElem?_cons_succ]; rfl)); (case bt11 => exact fun _ _ _ h => h); (case ct11 => kernel_rfl); (case dt11 => (intro W hW; (try dsimp only at hW); go_split_ands; go_simp; (try with_reducible rfl))); (case' rt11 => simp only [Act.put, List.setIfInBounds_toArray, List.set_cons_zero, List.set_cons_succ]))
  (refine held_take (i := 12) (oi := ?ot12) (v := ?vt12) ?at12 (by kernel_rfl) (by kernel_rfl) (by kernel_rfl) ?bt12 ?ct12 ?dt12 (by assumption) ?rt12; (case at12 => (simp only [List.getElem?_toArray, List.getElem?_cons_zero, List.getElem?_cons_succ]; rfl)); (case bt12 => exact fun _ _ _ h => h); (case ct12 => kernel_rfl); (case dt12 => (intro W hW; (try dsimp only at hW); go_split_ands; go_simp; (try with_reducible rfl))); (case' rt12 => simp only [Act.put, List.setIfInBounds_toArray, List.set_cons_zero, List.set_cons_succ]))
  refine held_one (i := 6) (oi := ?ot13) (by kernel_rfl) ?at13 ?ct13 (fun K6 hK6 => ?_)
  (case at13 => (simp only [List.getElem?_toArray, List.getElem?_cons_zero, List.getElem?_cons_succ]; rfl))
  (case ct13 => kernel_rfl)
  go_simp
  refine (chain_any x i k seed idx hidx chain bi bk _ (tabs_below HT.out (hS.below0 HB.out))).mono ?_
  rintro e y6 ⟨rfl, hd⟩
  refine hK6 _ _ (hS.keep hd) (fun hS6 => ?_)
  clear hS hd hK6 K6
  refine held_one (i := 13) (oi := ?ot14) (by kernel_rfl) ?at14 ?ct14 (fun K13 hK13 => ?_)
  (case at14 => (simp only [List.getElem?_toArray, List.getElem?_cons_zero, List.getElem?_cons_succ]; rfl))
  (case ct14 => kernel_rfl)
  go_simp
  refine (rchain_any x i k seed idx hidx chain bi bk _ (tabs_below HT.out (hS6.below0 HB.out))).mono ?_
  rintro e y13 ⟨rfl, hd⟩
  refine hK13 _ _ (hS6.keep hd) (fun hS13 => ?_)
  clear hS6 hd hK13 K13
  (refine held_take (i := 14) (oi := ?ot15) (v := .bool true) ?at15 (by kernel_rfl) (by kernel_rfl) (by kernel_rfl) ?bt15 ?ct15 ?dt15 (by assumption) ?rt15; (case at15 => (simp only [List.getElem?_toArray, List.getElem?_cons_zero, List.getElem?_cons_succ]; rfl)); (case bt15 => exact fun _ _ _ h => h); (case ct15 => kernel_rfl); (case dt15 => (intro W hW; exact exec_eql32 _ _ _ rfl (chainF x i k seed idx chain) rfl rfl W)); (case' rt15 => simp only [Act.put, List.setIfInBounds_toArray, List.set_cons_zero, List.set_cons_succ]))
  (refine held_take (i := 15) (oi := ?ot16) (v := ?vt16) ?at16 (by kernel_rfl) (by kernel_rfl) (by kernel_rfl) ?bt16 ?ct16 ?dt16 (by assumption) ?rt16; (case at16 => (simp only [List.getElem?_toArray, List.getElem?_cons_zero, List.getElem?_cons_succ]; rfl)); (case bt16 => exact fun _ _ _ h => h); (case ct16 => kernel_rfl); (case dt16 => (intro W hW; (try dsimp only at hW); go_split_ands; go_simp; (try with_reducible rfl))); (case' rt16 => simp only [Act.put, List.setIfInBounds_toArray, List.set_cons_zero, List.set_cons_succ]))
  refine wpAnyH_done (by kernel_rfl) ?_ _
  go_wp2
  go_ret
  exact ⟨rfl, hS13.below0 HB.out⟩

set_option maxHeartbeats 1000000 in
set_option maxRecDepth 100000 in
theorem wotsSteps_walk (x : Nat → UInt8) (a b : Int) (seed : Nat → UInt8) (idx : Nat) (chain : Int) (w : World) (_ba : I64 a) (_bb : I64 b) (hidx : idx < 4294967296) (_bc : I64 chain) (hT : Tabs w) :
    Calls Tryd.prog 4 #[.agg (vec 32 (bys x)), .int .i64 a, .int .i64 b, .agg (vec 32 (bys seed)), .int .u32 (idx : Int), .int .i64 chain] w fun e w' => e = .returned (.bool true) ∧ Below w.heap.size w w' := by
  obtain ⟨V, hV⟩ : ∃ V, V = (w.alloc (.cells (vec 32 (bys x)) 23)).alloc (.cells (vec 32 (bys seed)) 23) := ⟨_, rfl⟩
  have hA0 : Arr V w.heap.size 23 32 (bys x) := by rw [hV]; exact (Arr.newAt _ _ _ _ (by simp)).alloc _
  have hA1 : Arr V (w.heap.size + 1) 23 32 (bys seed) := by rw [hV]; exact Arr.newAt _ _ _ _ (by simp)
  have hB : Below w.heap.size w V := by rw [hV]; exact (((Below.refl _ _).alloc (by simp <;> omega) _).alloc (by simp <;> omega) _)
  have HB0 := Lib.hid hB
  have HT := Lib.hid hT
  have HP0 := Lib.hid hA0
  have HP1 := Lib.hid hA1
  have HW := Lib.hid hV
  clear hV hB hT hA0 hA1
  by_cases a1 : a < 0
  · have ta1 : decide (a < 0) = true := by simp [a1]
    go_enter Tryd.func4, Tryd.ntmps4
    go_upto_region 1 with fail
    rw [← HW.out]
    clear HW
    go_upto_region 3 with (go_at_call 8; refine (awake6_any _).mono ?_; rintro e V1 ⟨rfl, hd⟩; have HD := Lib.hid hd; clear hd)
    have HB := Lib.hid (HB0.out.trans (HD.out.mono HB0.out.size))
    have HQ0 := Lib.hid (HP0.out.under HD.out)
    have HQ1 := Lib.hid (HP1.out.under HD.out)
    clear HB0 HD HP0 HP1
    go_wp2_with fail
    go_ret
    exact ⟨rfl, HB.out⟩
  · have ta1 : decide (a < 0) = false := by simp; omega
    by_cases a2 : b < 0
    · have ta2 : decide (b < 0) = true := by simp [a2]
      go_enter Tryd.func4, Tryd.ntmps4
      go_upto_region 1 with fail
      rw [← HW.out]
      clear HW
      go_upto_region 3 with (go_at_call 8; refine (awake6_any _).mono ?_; rintro e V1 ⟨rfl, hd⟩; have HD := Lib.hid hd; clear hd)
      have HB := Lib.hid (HB0.out.trans (HD.out.mono HB0.out.size))
      have HQ0 := Lib.hid (HP0.out.under HD.out)
      have HQ1 := Lib.hid (HP1.out.under HD.out)
      clear HB0 HD HP0 HP1
      go_wp2_with fail
      go_ret
      exact ⟨rfl, HB.out⟩
    · have ta2 : decide (b < 0) = false := by simp; omega
      by_cases a3 : 15 < a
      · have ta3 : decide (15 < a) = true := by simp [a3]
        go_enter Tryd.func4, Tryd.ntmps4
        go_upto_region 1 with fail
        rw [← HW.out]
        clear HW
        go_upto_region 3 with (go_at_call 8; refine (awake6_any _).mono ?_; rintro e V1 ⟨rfl, hd⟩; have HD := Lib.hid hd; clear hd)
        have HB := Lib.hid (HB0.out.trans (HD.out.mono HB0.out.size))
        have HQ0 := Lib.hid (HP0.out.under HD.out)
        have HQ1 := Lib.hid (HP1.out.under HD.out)
        clear HB0 HD HP0 HP1
        go_wp2_with fail
        go_ret
        exact ⟨rfl, HB.out⟩
      · have ta3 : decide (15 < a) = false := by simp; omega
        by_cases a4 : 15 - a < b
        · have ta4 : decide (15 - a < b) = true := by simp [a4]
          go_enter Tryd.func4, Tryd.ntmps4
          go_upto_region 1 with fail
          rw [← HW.out]
          clear HW
          go_upto_region 3 with (go_at_call 8; refine (awake6_any _).mono ?_; rintro e V1 ⟨rfl, hd⟩; have HD := Lib.hid hd; clear hd)
          have HB := Lib.hid (HB0.out.trans (HD.out.mono HB0.out.size))
          have HQ0 := Lib.hid (HP0.out.under HD.out)
          have HQ1 := Lib.hid (HP1.out.under HD.out)
          clear HB0 HD HP0 HP1
          go_wp2_with fail
          go_ret
          exact ⟨rfl, HB.out⟩
        · have ta4 : decide (15 - a < b) = false := by simp; omega
          by_cases a5 : chain < 0
          · have ta5 : decide (chain < 0) = true := by simp [a5]
            go_enter Tryd.func4, Tryd.ntmps4
            go_upto_region 1 with fail
            rw [← HW.out]
            clear HW
            go_upto_region 3 with (go_at_call 8; refine (awake6_any _).mono ?_; rintro e V1 ⟨rfl, hd⟩; have HD := Lib.hid hd; clear hd)
            have HB := Lib.hid (HB0.out.trans (HD.out.mono HB0.out.size))
            have HQ0 := Lib.hid (HP0.out.under HD.out)
            have HQ1 := Lib.hid (HP1.out.under HD.out)
            clear HB0 HD HP0 HP1
            go_wp2_with fail
            go_ret
            exact ⟨rfl, HB.out⟩
          · have ta5 : decide (chain < 0) = false := by simp; omega
            by_cases a6 : 66 < chain
            · have ta6 : decide (66 < chain) = true := by simp [a6]
              go_enter Tryd.func4, Tryd.ntmps4
              go_upto_region 1 with fail
              rw [← HW.out]
              clear HW
              go_upto_region 3 with (go_at_call 8; refine (awake6_any _).mono ?_; rintro e V1 ⟨rfl, hd⟩; have HD := Lib.hid hd; clear hd)
              have HB := Lib.hid (HB0.out.trans (HD.out.mono HB0.out.size))
              have HQ0 := Lib.hid (HP0.out.under HD.out)
              have HQ1 := Lib.hid (HP1.out.under HD.out)
              clear HB0 HD HP0 HP1
              go_wp2_with fail
              go_ret
              exact ⟨rfl, HB.out⟩
            · have ta6 : decide (66 < chain) = false := by simp; omega
              obtain ⟨n, rfl⟩ := Int.eq_ofNat_of_zero_le (Int.not_lt.1 a5)
              obtain ⟨a, rfl⟩ := Int.eq_ofNat_of_zero_le (Int.not_lt.1 a1)
              obtain ⟨b, rfl⟩ := Int.eq_ofNat_of_zero_le (Int.not_lt.1 a2)
              have hn : n ≤ 66 := by omega
              have hab : a + b ≤ 15 := by omega
              have ha : 0 + a ≤ 15 := by omega
              have hab0 : 0 + (a + b) ≤ 15 := by omega
              have hwn : IntKind.i64.wrap ((a : Int) + (b : Int)) = ((a + b : Nat) : Int) := by rw [IntKind.wrap_i64]; omega
              clear a1 a2 a3 a4 a5 a6
              go_enter Tryd.func4, Tryd.ntmps4
              go_upto_region 1 with fail
              rw [← HW.out]
              clear HW
              go_upto_region 3 with (go_at_call 8; refine (awake6_any _).mono ?_; rintro e V1 ⟨rfl, hd⟩; have HD := Lib.hid hd; clear hd)
              have HB := Lib.hid (HB0.out.trans (HD.out.mono HB0.out.size))
              have HQ0 := Lib.hid (HP0.out.under HD.out)
              have HQ1 := Lib.hid (HP1.out.under HD.out)
              clear HB0 HD HP0 HP1
              go_upto_region 5 with fail
              refine wp_region_held_drew (S := fun Y => VS V1 Y) (by kernel_rfl) (VS.begin V1) (fun hS => ?_)
              (refine held_take (i := 0) (oi := ?ot17) (v := .agg (vec 32 (bys x))) ?at17 (by kernel_rfl) (by kernel_rfl) (by kernel_rfl) ?bt17 ?ct17 ?dt17 (by assumption) ?rt17; (case at17 => (simp only [List.getElem?_toArray, List.getElem?_cons_zero]; rfl)); (case bt17 => exact fun _ _ _ h => h); (case ct17 => kernel_rfl); (case dt17 => (intro W hW; exact exec_load 23 _ rfl _ rfl _ (run_load_arr (HQ0.out.under hW) Tryd.underlying23 rfl info26))); (case' rt17 => simp only [Act.put, List.setIfInBounds_toArray, List.set_cons_zero, List.set_cons_succ]))
              (refine held_take (i := 1) (oi := ?ot18) (v := ?vt18) ?at18 (by kernel_rfl) (by kernel_rfl) (by kernel_rfl) ?bt18 ?ct18 ?dt18 (by assumption) ?rt18; (case at18 => (simp only [List.getElem?_toArray, List.getElem?_cons_zero, List.getElem?_cons_succ]; rfl)); (case bt18 => exact fun _ _ _ h => h); (case ct18 => kernel_rfl); (case dt18 => (intro W hW; (try dsimp only at hW); go_split_ands; go_simp; (try with_reducible rfl))); (case' rt18 => simp only [Act.put, List.setIfInBounds_toArray, List.set_cons_zero, List.set_cons_succ]))
              (refine held_take (i := 2) (oi := ?ot19) (v := .agg (vec 32 (bys seed))) ?at19 (by kernel_rfl) (by kernel_rfl) (by kernel_rfl) ?bt19 ?ct19 ?dt19 (by assumption) ?rt19; (case at19 => (simp only [List.getElem?_toArray, List.getElem?_cons_zero, List.getElem?_cons_succ]; rfl)); (case bt19 => exact fun _ _ _ h => h); (case ct19 => kernel_rfl); (case dt19 => (intro W hW; exact exec_load 23 _ rfl _ rfl _ (run_load_arr (HQ1.out.under hW) Tryd.underlying23 rfl info26))); (case' rt19 => simp only [Act.put, List.setIfInBounds_toArray, List.set_cons_zero, List.set_cons_succ]))
              (refine held_take (i := 3) (oi := ?ot20) (v := ?vt20) ?at20 (by kernel_rfl) (by kernel_rfl) (by kernel_rfl) ?bt20 ?ct20 ?dt20 (by assumption) ?rt20; (case at20 => (simp only [List.getElem?_toArray, List.getElem?_cons_zero, List.getElem?_cons_succ]; rfl)); (case bt20 => exact fun _ _ _ h => h); (case ct20 => kernel_rfl); (case dt20 => (intro W hW; (try dsimp only at hW); go_split_ands; go_simp; (try with_reducible rfl))); (case' rt20 => simp only [Act.put, List.setIfInBounds_toArray, List.set_cons_zero, List.set_cons_succ]))
              (refine held_take (i := 4) (oi := ?ot21) (v := ?vt21) ?at21 (by kernel_rfl) (by kernel_rfl) (by kernel_rfl) ?bt21 ?ct21 ?dt21 (by assumption) ?rt21; (case at21 => (simp only [List.getElem?_toArray, List.getElem?_cons_zero, List.getElem?_cons_succ]; rfl)); (case bt21 => exact fun _ _ _ h => h); (case ct21 => kernel_rfl); (case dt21 => (intro W hW; (try dsimp only at hW); go_split_ands; go_simp; (try with_reducible rfl))); (case' rt21 => simp only [Act.put, List.setIfInBounds_toArray, List.set_cons_zero, List.set_cons_succ]))
              (refine held_take (i := 6) (oi := ?ot22) (v := ?vt22) ?at22 (by kernel_rfl) (by kernel_rfl) (by kernel_rfl) ?bt22 ?ct22 ?dt22 (by assumption) ?rt22; (case at22 => (simp only [List.getElem?_toArray, List.getElem?_cons_zero, List.getElem?_cons_succ]; rfl)); (case bt22 => exact fun _ _ _ h => h); (case ct22 => kernel_rfl); (case dt22 => (intro W hW; (try dsimp only at hW); go_split_ands; go_simp; (try with_reducible rfl))); (case' rt22 => simp only [Act.put, List.setIfInBounds_toArray, List.set_cons_zero, List.set_cons_succ]))
              (refine held_take (i := 7) (oi := ?ot23) (v := ?vt23) ?at23 (by kernel_rfl) (by kernel_rfl) (by kernel_rfl) ?bt23 ?ct23 ?dt23 (by assumption) ?rt23; (case at23 => (simp only [List.getElem?_toArray, List.getElem?_cons_zero, List.getElem?_cons_succ]; rfl)); (case bt23 => exact fun _ _ _ h => h); (case ct23 => kernel_rfl); (case dt23 => (intro W hW; (try dsimp only at hW); go_split_ands; go_simp; (try with_reducible rfl))); (case' rt23 => simp only [Act.put, List.setIfInBounds_toArray, List.set_cons_zero, List.set_cons_succ]))
              (refine held_take (i := 8) (oi := ?ot24) (v := .agg (vec 32 (bys seed))) ?at24 (by kernel_rfl) (by kernel_rfl) (by kernel_rfl) ?bt24 ?ct24 ?dt24 (by assumption) ?rt24; (case at24 => (simp only [List.getElem?_toArray, List.getElem?_cons_zero, List.getElem?_cons_succ]; rfl)); (case bt24 => exact fun _ _ _ h => h); (case ct24 => kernel_rfl); (case dt24 => (intro W hW; exact exec_load 23 _ rfl _ rfl _ (run_load_arr (HQ1.out.under hW) Tryd.underlying23 rfl info26))); (case' rt24 => simp only [Act.put, List.setIfInBounds_toArray, List.set_cons_zero, List.set_cons_succ]))
              (refine held_take (i := 9) (oi := ?ot25) (v := ?vt25) ?at25 (by kernel_rfl) (by kernel_rfl) (by kernel_rfl) ?bt25 ?ct25 ?dt25 (by assumption) ?rt25; (case at25 => (simp only [List.getElem?_toArray, List.getElem?_cons_zero, List.getElem?_cons_succ]; rfl)); (case bt25 => exact fun _ _ _ h => h); (case ct25 => kernel_rfl); (case dt25 => (intro W hW; (try dsimp only at hW); go_split_ands; go_simp; (try with_reducible rfl))); (case' rt25 => simp only [Act.put, List.setIfInBounds_toArray, List.set_cons_zero, List.set_cons_succ]))
              (refine held_take (i := 10) (oi := ?ot26) (v := ?vt26) ?at26 (by kernel_rfl) (by kernel_rfl) (by kernel_rfl) ?bt26 ?ct26 ?dt26 (by assumption) ?rt26; (case at26 => (simp only [List.getElem?_toArray, List.getElem?_cons_zero, List.getElem?_cons_succ]; rfl)); (case bt26 => exact fun _ _ _ h => h); (case ct26 => kernel_rfl); (case dt26 => (intro W hW; (try dsimp only at hW); go_split_ands; go_simp; (try with_reducible rfl))); (case' rt26 => simp only [Act.put, List.setIfInBounds_toArray, List.set_cons_zero, List.set_cons_succ]))
              (refine held_take (i := 12) (oi := ?ot27) (v := .agg (vec 32 (bys x))) ?at27 (by kernel_rfl) (by kernel_rfl) (by kernel_rfl) ?bt27 ?ct27 ?dt27 (by assumption) ?rt27; (case at27 => (simp only [List.getElem?_toArray, List.getElem?_cons_zero, List.getElem?_cons_succ]; rfl)); (case bt27 => exact fun _ _ _ h => h); (case ct27 => kernel_rfl); (case dt27 => (intro W hW; exact exec_load 23 _ rfl _ rfl _ (run_load_arr (HQ0.out.under hW) Tryd.underlying23 rfl info26))); (case' rt27 => simp only [Act.put, List.setIfInBounds_toArray, List.set_cons_zero, List.set_cons_succ]))
              (refine held_take (i := 13) (oi := ?ot28) (v := ?vt28) ?at28 (by kernel_rfl) (by kernel_rfl) (by kernel_rfl) ?bt28 ?ct28 ?dt28 (by assumption) ?rt28; (case at28 => (simp only [List.getElem?_toArray, List.getElem?_cons_zero, List.getElem?_cons_succ]; rfl)); (case bt28 => exact fun _ _ _ h => h); (case ct28 => kernel_rfl); (case dt28 => (intro W hW; (try dsimp only at hW); go_split_ands; go_simp; (try with_reducible rfl))); (case' rt28 => simp only [Act.put, List.setIfInBounds_toArray, List.set_cons_zero, List.set_cons_succ]))
              (refine held_take (i := 14) (oi := ?ot29) (v := ?vt29) ?at29 (by kernel_rfl) (by kernel_rfl) (by kernel_rfl) ?bt29 ?ct29 ?dt29 (by assumption) ?rt29; (case at29 => (simp only [List.getElem?_toArray, List.getElem?_cons_zero, List.getElem?_cons_succ]; rfl)); (case bt29 => exact fun _ _ _ h => h); (case ct29 => kernel_rfl); (case dt29 => (intro W hW; (try dsimp only at hW); go_split_ands; go_simp; (try with_reducible rfl))); (case' rt29 => simp only [Act.put, List.setIfInBounds_toArray, List.set_cons_zero, List.set_cons_succ]))
              (refine held_take (i := 15) (oi := ?ot30) (v := ?vt30) ?at30 (by kernel_rfl) (by kernel_rfl) (by kernel_rfl) ?bt30 ?ct30 ?dt30 (by assumption) ?rt30; (case at30 => (simp only [List.getElem?_toArray, List.getElem?_cons_zero, List.getElem?_cons_succ]; rfl)); (case bt30 => exact fun _ _ _ h => h); (case ct30 => kernel_rfl); (case dt30 => (intro W hW; (try dsimp only at hW); go_split_ands; go_simp; (try with_reducible rfl))); (case' rt30 => simp only [Act.put, List.setIfInBounds_toArray, List.set_cons_zero, List.set_cons_succ]))
              (refine held_take (i := 16) (oi := ?ot31) (v := .agg (vec 32 (bys seed))) ?at31 (by kernel_rfl) (by kernel_rfl) (by kernel_rfl) ?bt31 ?ct31 ?dt31 (by assumption) ?rt31; (case at31 => (simp only [List.getElem?_toArray, List.getElem?_cons_zero, List.getElem?_cons_succ]; rfl)); (case bt31 => exact fun _ _ _ h => h); (case ct31 => kernel_rfl); (case dt31 => (intro W hW; exact exec_load 23 _ rfl _ rfl _ (run_load_arr (HQ1.out.under hW) Tryd.underlying23 rfl info26))); (case' rt31 => simp only [Act.put, List.setIfInBounds_toArray, List.set_cons_zero, List.set_cons_succ]))
              (refine held_take (i := 17) (oi := ?ot32) (v := ?vt32) ?at32 (by kernel_rfl) (by kernel_rfl) (by kernel_rfl) ?bt32 ?ct32 ?dt32 (by assumption) ?rt32; (case at32 => (simp only [List.getElem?_toArray, List.getElem?_cons_zero, List.getElem?_cons_succ]; rfl)); (case bt32 => exact fun _ _ _ h => h); (case ct32 => kernel_rfl); (case dt32 => (intro W hW; (try dsimp only at hW); go_split_ands; go_simp; (try with_reducible rfl))); (case' rt32 => simp only [Act.put, List.setIfInBounds_toArray, List.set_cons_zero, List.set_cons_succ]))
              (refine held_take (i := 18) (oi := ?ot33) (v := ?vt33) ?at33 (by kernel_rfl) (by kernel_rfl) (by kernel_rfl) ?bt33 ?ct33 ?dt33 (by assumption) ?rt33; (case at33 => (simp only [List.getElem?_toArray, List.getElem?_cons_zero, List.getElem?_cons_succ]; rfl)); (case bt33 => exact fun _ _ _ h => h); (case ct33 => kernel_rfl); (case dt33 => (intro W hW; (try dsimp only at hW); go_split_ands; go_simp; (try with_reducible rfl))); (case' rt33 => simp only [Act.put, List.setIfInBounds_toArray, List.set_cons_zero, List.set_cons_succ]))
              refine held_one (i := 5) (oi := ?ot34) (by kernel_rfl) ?at34 ?ct34 (fun K5 hK5 => ?_)
              (case at34 => (simp only [List.getElem?_toArray, List.getElem?_cons_zero, List.getElem?_cons_succ]; rfl))
              (case ct34 => kernel_rfl)
              go_simp
              refine (chain_nat x 0 a seed idx hidx n hn ha _ (tabs_below HT.out (hS.below0 HB.out))).mono ?_
              rintro e y5 ⟨rfl, hd⟩
              refine hK5 _ _ (hS.keep hd) (fun hS5 => ?_)
              clear hS hd hK5 K5
              refine held_one (i := 11) (oi := ?ot35) (by kernel_rfl) ?at35 ?ct35 (fun K11 hK11 => ?_)
              (case at35 => (simp only [List.getElem?_toArray, List.getElem?_cons_zero, List.getElem?_cons_succ]; rfl))
              (case ct35 => kernel_rfl)
              go_simp
              refine (chain_on x a b seed idx hidx n hn hab _ (tabs_below HT.out (hS5.below0 HB.out))).mono ?_
              rintro e y11 ⟨rfl, hd⟩
              refine hK11 _ _ (hS5.keep hd) (fun hS11 => ?_)
              clear hS5 hd hK11 K11
              refine held_one (i := 19) (oi := ?ot36) (by kernel_rfl) ?at36 ?ct36 (fun K19 hK19 => ?_)
              (case at36 => (simp only [List.getElem?_toArray, List.getElem?_cons_zero, List.getElem?_cons_succ]; rfl))
              (case ct36 => kernel_rfl)
              go_simp
              refine (chain_nat x 0 (a + b) seed idx hidx n hn hab0 _ (tabs_below HT.out (hS11.below0 HB.out))).mono ?_
              rintro e y19 ⟨rfl, hd⟩
              refine hK19 _ _ (hS11.keep hd) (fun hS19 => ?_)
              clear hS11 hd hK19 K19
              (refine held_take (i := 20) (oi := ?ot37) (v := .bool true) ?at37 (by kernel_rfl) (by kernel_rfl) (by kernel_rfl) ?bt37 ?ct37 ?dt37 (by assumption) ?rt37; (case at37 => (simp only [List.getElem?_toArray, List.getElem?_cons_zero, List.getElem?_cons_succ]; rfl)); (case bt37 => exact fun _ _ _ h => h); (case ct37 => kernel_rfl); (case dt37 => (intro W hW; exact exec_eql32 _ _ _ rfl (chF seed idx n x 0 (a + b)) rfl rfl W)); (case' rt37 => simp only [Act.put, List.setIfInBounds_toArray, List.set_cons_zero, List.set_cons_succ]))
              (refine held_take (i := 21) (oi := ?ot38) (v := ?vt38) ?at38 (by kernel_rfl) (by kernel_rfl) (by kernel_rfl) ?bt38 ?ct38 ?dt38 (by assumption) ?rt38; (case at38 => (simp only [List.getElem?_toArray, List.getElem?_cons_zero, List.getElem?_cons_succ]; rfl)); (case bt38 => exact fun _ _ _ h => h); (case ct38 => kernel_rfl); (case dt38 => (intro W hW; (try dsimp only at hW); go_split_ands; go_simp; (try with_reducible rfl))); (case' rt38 => simp only [Act.put, List.setIfInBounds_toArray, List.set_cons_zero, List.set_cons_succ]))
              refine wpAnyH_done (by kernel_rfl) ?_ _
              go_wp2
              go_ret
              exact ⟨rfl, hS19.below0 HB.out⟩
end Go.Proofs.YtepgndgelfkcnaaDoor
