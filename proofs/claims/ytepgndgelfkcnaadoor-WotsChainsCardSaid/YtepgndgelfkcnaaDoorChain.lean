/- wots.Chain. -/
import Derived.Test.YtepgndgelfkcnaaDoorPlaced
namespace Go.Proofs.YtepgndgelfkcnaaDoor
open Go.RowKit
attribute [local go_sem ↓ high] zeroV26 zeroV45

/-- What Chain's loop keeps. -/
structure CL (w : World) (g : Nat) (seed : Nat → UInt8) (idx n : Nat) (x : Nat → UInt8) (W : World) : Prop where
  x : Arr W w.heap.size 23 32 (bys x)
  r : Arr W (w.heap.size + 2) 23 32 (bys zb)
  p : Arr W g 45 39 (plF (idx : Int) (n : Int) ((0 : Nat) : Int) seed)
  b : Below w.heap.size w W
  far : w.heap.size + 2 < g
set_option maxHeartbeats 2000000 in
set_option maxRecDepth 100000 in
theorem chain_any (x : Nat → UInt8) (i k : Int) (seed : Nat → UInt8) (idx : Nat) (hidx : idx < 4294967296) (chain : Int) (bi : -9223372036854775808 ≤ i ∧ i ≤ 9223372036854775807) (bk : -9223372036854775808 ≤ k ∧ k ≤ 9223372036854775807) (w : World) (hT : Tabs w) :
    Calls Tryd.prog 9 #[.agg (vec 32 (bys x)), .int .i64 i, .int .i64 k, .agg (vec 32 (bys seed)), .int .u32 (idx : Int), .int .i64 chain] w fun e w' => e = .returned (.agg (vec 32 (bys (chainF x i k seed idx chain)))) ∧ Below w.heap.size w w' := by
  obtain ⟨V, hV⟩ : ∃ V, V = ((w.alloc (.cells (vec 32 (bys x)) 23)).alloc (.cells (vec 32 (bys seed)) 23)).alloc (.cells (vec 32 (bys zb)) 23) := ⟨_, rfl⟩
  have hA : Arr V w.heap.size 23 32 (bys x) := by rw [hV]; exact ((Arr.newAt _ _ _ _ (by simp)).alloc _).alloc _
  have hS : Arr V (w.heap.size + 1) 23 32 (bys seed) := by rw [hV]; exact (Arr.newAt _ _ _ _ (by simp)).alloc _
  have hR : Arr V (w.heap.size + 2) 23 32 (bys zb) := by rw [hV]; exact Arr.newAt _ _ _ _ (by simp)
  have hB : Below w.heap.size w V := by rw [hV]; exact ((((Below.refl _ _).alloc (by simp <;> omega) _).alloc (by simp <;> omega) _).alloc (by simp <;> omega) _)
  have hsz : V.heap.size = w.heap.size + 3 := by rw [hV]; simp
  have HA := Lib.hid (And.intro hA (And.intro hS (And.intro hR (And.intro hB (And.intro hsz hT)))))
  have HW := Lib.hid hV
  clear hV hA hS hR hB hsz hT
  obtain ⟨pf, hpf⟩ : ∃ pf, pf = placedV seed idx chain := ⟨_, rfl⟩
  have hone : ∀ i, i < 39 → (pf i).oneCell' = true := by rw [hpf]; exact placedV_one _ _ _ _
  have hpl := fun W => placed_any seed idx chain W
  rw [← hpf] at hpl
  have HPL := Lib.hid (And.intro hpl (And.intro hone hpf))
  clear hpl hone hpf
  have mk : ∀ b : Bool, isCh chain = b → Calls Tryd.prog 9 #[.agg (vec 32 (bys x)), .int .i64 i, .int .i64 k, .agg (vec 32 (bys seed)), .int .u32 (idx : Int), .int .i64 chain] w fun e w' => e = .returned (.agg (vec 32 (bys (chainF x i k seed idx chain)))) ∧ Below w.heap.size w w' := by
    intro b hb
    have HPL2 := Lib.hid (And.intro (fun W => hb ▸ HPL.out.1 W) HPL.out.2)
    have HB := Lib.hid hb
    clear HPL hb
    go_enter Tryd.func9, Tryd.ntmps9
    go_upto_region 1 with fail
    rw [← HW.out]
    clear HW
    go_upto_region 2 with (first
      | ((with_reducible show wpList _ _ _ (Oper.mk _ (.load _ _) _ _ _ _ :: _) _ _); refine wl_load rfl 23 _ rfl _ rfl _ (run_load_arr HA.out.2.1 Tryd.underlying23 rfl info26) ?_)
      | (go_at_call 21; refine (HPL2.out.1 _).mono ?_; rintro e w1 ⟨rfl, hd⟩; have H1 := Lib.hid hd; clear hd)
      | ((with_reducible show wpList _ _ _ (Oper.mk _ (.store _ _ _) _ _ _ _ :: _) _ _); refine wl_store rfl 45 _ _ rfl _ rfl _ rfl (run_store_arr (Arr.new w1 _ _ _) pf info45 HPL2.out.2.1) ?_))
    obtain ⟨g, hg⟩ : ∃ g, g = w1.heap.size := ⟨_, rfl⟩
    obtain ⟨V2, hV2⟩ : ∃ V2, V2 = (w1.alloc (.cells (vec 39 (plF 0 0 0 zb)) 45)).setRow w1.heap.size (vec 39 pf) := ⟨_, rfl⟩
    have hP : Arr V2 g 45 39 pf := by rw [hV2, hg]; exact (Arr.new w1 _ _ _).row _
    have hb2 : Below V.heap.size V V2 := by rw [hV2]; exact below_row (H1.out.alloc H1.out.size _) H1.out.size _
    have hB2 : Below w.heap.size w V2 := HA.out.2.2.2.1.trans (hb2.mono HA.out.2.2.2.1.size)
    have hfar : w.heap.size + 2 < g := by have := H1.out.size; have := HA.out.2.2.2.2.1; omega
    rw [← hV2, ← hg]
    have H2 := Lib.hid (And.intro hP (And.intro (HA.out.1.under hb2) (And.intro (HA.out.2.2.1.under hb2) (And.intro hB2 (And.intro hfar HA.out.2.2.2.2.2)))))
    clear hV2 hP hb2 hB2 H1 hg hfar HA
    cases b with
    | false =>
      have hc : ¬ (0 ≤ chain ∧ chain ≤ 66) := of_decide_eq_false HB.out
      have HST : Hid (steppy i k chain = false) := Lib.hid (decide_eq_false (by omega))
      go_wp2_with (first
        | ((with_reducible show wpList _ _ _ (Oper.mk _ (.build _ _) _ _ _ _ :: _) _ _); refine wl_build rfl 23 _ rfl (vec 32 (bys zb)) (by kernel_rfl) ?_)
        | ((with_reducible show wpList _ _ _ (Oper.mk _ (.store _ _ _) _ _ _ _ :: _) _ _); refine wl_store rfl 23 _ _ rfl _ rfl _ rfl (run_store_arr H2.out.2.2.1 (bys zb) info26 (bys_one _ _)) ?_))
      refine bodyPost_ret (results_cell1 rfl _ _ _ rfl (run_load_arr (H2.out.2.2.1.row _) Tryd.underlying23 rfl info26)) rfl ⟨?_, below_row H2.out.2.2.2.1 (by omega) _⟩
      unfold chainF
      rw [HST.out]
      rfl
    | true =>
      have hc : 0 ≤ chain ∧ chain ≤ 66 := of_decide_eq_true HB.out
      by_cases hi : i < 0
      · have t1 : decide (i < 0) = true := by simp [hi]
        have HST : Hid (steppy i k chain = false) := Lib.hid (decide_eq_false (by omega))
        go_wp2_with (first
          | ((with_reducible show wpList _ _ _ (Oper.mk _ (.build _ _) _ _ _ _ :: _) _ _); refine wl_build rfl 23 _ rfl (vec 32 (bys zb)) (by kernel_rfl) ?_)
          | ((with_reducible show wpList _ _ _ (Oper.mk _ (.store _ _ _) _ _ _ _ :: _) _ _); refine wl_store rfl 23 _ _ rfl _ rfl _ rfl (run_store_arr H2.out.2.2.1 (bys zb) info26 (bys_one _ _)) ?_))
        refine bodyPost_ret (results_cell1 rfl _ _ _ rfl (run_load_arr (H2.out.2.2.1.row _) Tryd.underlying23 rfl info26)) rfl ⟨?_, below_row H2.out.2.2.2.1 (by omega) _⟩
        unfold chainF
        rw [HST.out]
        rfl
      · have t1 : decide (i < 0) = false := by simp; omega
        by_cases hk : k < 0
        · have t2 : decide (k < 0) = true := by simp [hk]
          have HST : Hid (steppy i k chain = false) := Lib.hid (decide_eq_false (by omega))
          go_wp2_with (first
            | ((with_reducible show wpList _ _ _ (Oper.mk _ (.build _ _) _ _ _ _ :: _) _ _); refine wl_build rfl 23 _ rfl (vec 32 (bys zb)) (by kernel_rfl) ?_)
            | ((with_reducible show wpList _ _ _ (Oper.mk _ (.store _ _ _) _ _ _ _ :: _) _ _); refine wl_store rfl 23 _ _ rfl _ rfl _ rfl (run_store_arr H2.out.2.2.1 (bys zb) info26 (bys_one _ _)) ?_))
          refine bodyPost_ret (results_cell1 rfl _ _ _ rfl (run_load_arr (H2.out.2.2.1.row _) Tryd.underlying23 rfl info26)) rfl ⟨?_, below_row H2.out.2.2.2.1 (by omega) _⟩
          unfold chainF
          rw [HST.out]
          rfl
        · have t2 : decide (k < 0) = false := by simp; omega
          by_cases hs : 15 - i < k
          · have t3 : decide (15 - i < k) = true := by simp [hs]
            have HST : Hid (steppy i k chain = false) := Lib.hid (decide_eq_false (by omega))
            go_wp2_with (first
              | ((with_reducible show wpList _ _ _ (Oper.mk _ (.build _ _) _ _ _ _ :: _) _ _); refine wl_build rfl 23 _ rfl (vec 32 (bys zb)) (by kernel_rfl) ?_)
              | ((with_reducible show wpList _ _ _ (Oper.mk _ (.store _ _ _) _ _ _ _ :: _) _ _); refine wl_store rfl 23 _ _ rfl _ rfl _ rfl (run_store_arr H2.out.2.2.1 (bys zb) info26 (bys_one _ _)) ?_))
            refine bodyPost_ret (results_cell1 rfl _ _ _ rfl (run_load_arr (H2.out.2.2.1.row _) Tryd.underlying23 rfl info26)) rfl ⟨?_, below_row H2.out.2.2.2.1 (by omega) _⟩
            unfold chainF
            rw [HST.out]
            rfl
          · have t3 : decide (15 - i < k) = false := by simp; omega
            obtain ⟨n, rfl⟩ := Int.eq_ofNat_of_zero_le hc.1
            obtain ⟨i, rfl⟩ := Int.eq_ofNat_of_zero_le (Int.not_lt.1 hi)
            obtain ⟨k, rfl⟩ := Int.eq_ofNat_of_zero_le (Int.not_lt.1 hk)
            have hn : n ≤ 66 := by omega
            have hik : i + k ≤ 15 := by omega
            have HCH := Lib.hid (chainF_nat x i k seed idx n hn hik)
            have hP : Arr V2 g 45 39 (plF (idx : Int) (n : Int) ((0 : Nat) : Int) seed) := by
              have := H2.out.1
              rw [HPL2.out.2.2] at this
              unfold placedV at this
              rw [if_pos HB.out] at this
              exact this
            have HC : Hid (CL w g seed idx n x V2 ∧ Tabs w) := Lib.hid ⟨⟨H2.out.2.1, H2.out.2.2.1, hP, H2.out.2.2.2.1, H2.out.2.2.2.2.1⟩, H2.out.2.2.2.2.2⟩
            clear hP H2 HPL2 HB hc hi hk
            go_wp2_with fail
            go_loopw [41] (fun j W => ∃ q : Nat, q ≤ k ∧ j = .int .i64 q ∧ Hid (CL w g seed idx n (chF seed idx n x i q) W)) (fun j _ => k - (intOf j).toNat)
            case atStart => exact ⟨0, Nat.zero_le _, rfl, Lib.hid HC.out.1⟩
            case round =>
              obtain ⟨q, hq, rfl, hR⟩ := hrel
              by_cases hlt : q < k
              · have hwn : IntKind.i64.wrap ((i : Int) + (q : Int)) = ((i + q : Nat) : Int) := by rw [IntKind.wrap_i64]; omega
                have HTw := Lib.hid (tabs_below HC.out.2 hR.out.b)
                have HF := Lib.hid (tabs_far HC.out.2 (Nat.le_refl _))
                have hltI : (q : Int) < (k : Int) := by omega
                go_upto_region 7 with fail
                have HX : Hid (Arr wr.drew w.heap.size 23 32 (bys (chF seed idx n x i q))) := Lib.hid (hR.out.x.drewN 1)
                refine wp_region_held_drew (S := fun Y => SR wr w.heap.size Y) (by kernel_rfl) (SR.begin hR.out.x) (fun hS => ?_)
                (refine held_take (i := 0) (oi := ?ot9) (v := .agg (vec 39 (plF (idx : Int) (n : Int) ((0 : Nat) : Int) seed))) ?at9 (by kernel_rfl) (by kernel_rfl) (by kernel_rfl) ?bt9 ?ct9 ?dt9 (by assumption) ?rt9; (case at9 => (simp only [List.getElem?_toArray, List.getElem?_cons_zero]; rfl)); (case bt9 => exact fun _ _ _ h => h); (case ct9 => kernel_rfl); (case dt9 => (intro W hW; exact exec_load 45 _ rfl _ rfl _ (run_load_arr (hW.arr hR.out.p (by have := hR.out.far; omega)) Tryd.underlying45 rfl info45))); (case' rt9 => simp only [Act.put, List.setIfInBounds_toArray, List.set_cons_zero, List.set_cons_succ]))
                (refine held_take (i := 1) (oi := ?ot10) (v := ?vt10) ?at10 (by kernel_rfl) (by kernel_rfl) (by kernel_rfl) ?bt10 ?ct10 ?dt10 (by assumption) ?rt10; (case at10 => (simp only [List.getElem?_toArray, List.getElem?_cons_zero, List.getElem?_cons_succ]; rfl)); (case bt10 => exact fun _ _ _ h => h); (case ct10 => kernel_rfl); (case dt10 => (intro W hW; (try dsimp only at hW); go_split_ands; go_simp; (try with_reducible rfl))); (case' rt10 => simp only [Act.put, List.setIfInBounds_toArray, List.set_cons_zero, List.set_cons_succ]))
                (refine held_take (i := 2) (oi := ?ot11) (v := ?vt11) ?at11 (by kernel_rfl) (by kernel_rfl) (by kernel_rfl) ?bt11 ?ct11 ?dt11 (by assumption) ?rt11; (case at11 => (simp only [List.getElem?_toArray, List.getElem?_cons_zero, List.getElem?_cons_succ]; rfl)); (case bt11 => exact fun _ _ _ h => h); (case ct11 => kernel_rfl); (case dt11 => (intro W hW; (try dsimp only at hW); go_split_ands; go_simp; (try with_reducible rfl))); (case' rt11 => simp only [Act.put, List.setIfInBounds_toArray, List.set_cons_zero, List.set_cons_succ]))
                (refine held_take (i := 3) (oi := ?ot12) (v := ?vt12) ?at12 (by kernel_rfl) (by kernel_rfl) (by kernel_rfl) ?bt12 ?ct12 ?dt12 (by assumption) ?rt12; (case at12 => (simp only [List.getElem?_toArray, List.getElem?_cons_zero, List.getElem?_cons_succ]; rfl)); (case bt12 => exact fun _ _ _ h => h); (case ct12 => kernel_rfl); (case dt12 => (intro W hW; (try dsimp only at hW); go_split_ands; go_simp; (try with_reducible rfl))); (case' rt12 => simp only [Act.put, List.setIfInBounds_toArray, List.set_cons_zero, List.set_cons_succ]))
                refine held_two (i := 4) (j := 5) (oi := ?oit19) (oj := ?ojt19) (by kernel_rfl) ?ait19 ?ajt19 ?cit19 ?cjt19 (fun K4 hK4 => ?hit19) (fun K5 hK5 => ?hjt19)
                (case ait19 => (simp only [List.getElem?_toArray, List.getElem?_cons_zero, List.getElem?_cons_succ]; rfl))
                (case ajt19 => (simp only [List.getElem?_toArray, List.getElem?_cons_zero, List.getElem?_cons_succ]; rfl))
                (case cit19 => kernel_rfl)
                (case cjt19 => kernel_rfl)
                case hit19 =>
                  go_simp
                  refine (at_any (idx : Int) (n : Int) ((0 : Nat) : Int) seed (i + q) (by omega) _).mono ?_
                  rintro e y4 ⟨rfl, hd⟩
                  have HX := Lib.hid (HX.out.under hd)
                  refine hK4 _ _ (hS.keep hd) (fun hS4 => ?_)
                  clear hS hd hK4 K4
                  refine held_one (i := 5) (oi := ?ot13) (by kernel_rfl) ?at13 ?ct13 (fun K5 hK5 => ?_)
                  (case at13 => (simp only [List.getElem?_toArray, List.getElem?_cons_zero, List.getElem?_cons_succ]; rfl))
                  (case ct13 => kernel_rfl)
                  refine ow_load 23 _ rfl _ _ rfl _ (run_load_arr HX.out Tryd.underlying23 rfl info26) ?_
                  refine hK5 _ _ hS4 (fun hS5 => ?_)
                  clear hK5 K5
                  refine held_one (i := 6) (oi := ?ot14) (by kernel_rfl) ?at14 ?ct14 (fun K6 hK6 => ?_)
                  (case at14 => (simp only [List.getElem?_toArray, List.getElem?_cons_zero, List.getElem?_cons_succ]; rfl))
                  (case ct14 => kernel_rfl)
                  go_simp
                  refine (step_any idx n (i + q) seed (chF seed idx n x i q) hidx (by omega) (by omega) _ (hS5.tabs HTw.out HF.out.1 HF.out.2)).mono ?_
                  rintro e y6 ⟨rfl, hd⟩
                  refine hK6 _ _ (hS5.keep hd) (fun hS6 => ?_)
                  clear hS5 hd hK6 K6
                  refine held_one (i := 7) (oi := ?ot15) (by kernel_rfl) ?at15 ?ct15 (fun K7 hK7 => ?_)
                  (case at15 => (simp only [List.getElem?_toArray, List.getElem?_cons_zero, List.getElem?_cons_succ]; rfl))
                  (case ct15 => kernel_rfl)
                  obtain ⟨f0, hf0⟩ := hS6.res
                  refine ow_store 23 _ _ rfl _ rfl _ rfl (run_store_arr hf0 (bys (chF seed idx n x i (q + 1))) info26 (bys_one _ _)) ?_
                  refine hK7 _ _ (hS6.put _) (fun hS7 => ?_)
                  clear hK7 K7
                  refine wpAnyH_done (by kernel_rfl) ?_ _
                  have HN : Hid (CL w g seed idx n (chF seed idx n x i (q + 1)) _) := Lib.hid ⟨hf0.row _, hS7.arr hR.out.r (by omega), hS7.arr hR.out.p (by have := hR.out.far; omega), hS7.below hR.out.b (Nat.le_refl _), hR.out.far⟩
                  clear hf0 hS7 HX
                  go_wp2
                  go_roundw
                  case rel => exact ⟨q + 1, by omega, by go_num, Lib.hid HN.out⟩
                  case measure => simp [intOf]; omega
                case hjt19 =>
                  refine ow_load 23 _ rfl _ _ rfl _ (run_load_arr HX.out Tryd.underlying23 rfl info26) ?_
                  refine hK5 _ _ hS (fun hS5 => ?_)
                  clear hK5 K5
                  refine held_one (i := 4) (oi := ?ot16) (by kernel_rfl) ?at16 ?ct16 (fun K4 hK4 => ?_)
                  (case at16 => (simp only [List.getElem?_toArray, List.getElem?_cons_zero, List.getElem?_cons_succ]; rfl))
                  (case ct16 => kernel_rfl)
                  go_simp
                  refine (at_any (idx : Int) (n : Int) ((0 : Nat) : Int) seed (i + q) (by omega) _).mono ?_
                  rintro e y4 ⟨rfl, hd⟩
                  have HX := Lib.hid (HX.out.under hd)
                  refine hK4 _ _ (hS5.keep hd) (fun hS4 => ?_)
                  clear hS5 hd hK4 K4
                  refine held_one (i := 6) (oi := ?ot17) (by kernel_rfl) ?at17 ?ct17 (fun K6 hK6 => ?_)
                  (case at17 => (simp only [List.getElem?_toArray, List.getElem?_cons_zero, List.getElem?_cons_succ]; rfl))
                  (case ct17 => kernel_rfl)
                  go_simp
                  refine (step_any idx n (i + q) seed (chF seed idx n x i q) hidx (by omega) (by omega) _ (hS4.tabs HTw.out HF.out.1 HF.out.2)).mono ?_
                  rintro e y6 ⟨rfl, hd⟩
                  refine hK6 _ _ (hS4.keep hd) (fun hS6 => ?_)
                  clear hS4 hd hK6 K6
                  refine held_one (i := 7) (oi := ?ot18) (by kernel_rfl) ?at18 ?ct18 (fun K7 hK7 => ?_)
                  (case at18 => (simp only [List.getElem?_toArray, List.getElem?_cons_zero, List.getElem?_cons_succ]; rfl))
                  (case ct18 => kernel_rfl)
                  obtain ⟨f0, hf0⟩ := hS6.res
                  refine ow_store 23 _ _ rfl _ rfl _ rfl (run_store_arr hf0 (bys (chF seed idx n x i (q + 1))) info26 (bys_one _ _)) ?_
                  refine hK7 _ _ (hS6.put _) (fun hS7 => ?_)
                  clear hK7 K7
                  refine wpAnyH_done (by kernel_rfl) ?_ _
                  have HN : Hid (CL w g seed idx n (chF seed idx n x i (q + 1)) _) := Lib.hid ⟨hf0.row _, hS7.arr hR.out.r (by omega), hS7.arr hR.out.p (by have := hR.out.far; omega), hS7.below hR.out.b (Nat.le_refl _), hR.out.far⟩
                  clear hf0 hS7 HX
                  go_wp2
                  go_roundw
                  case rel => exact ⟨q + 1, by omega, by go_num, Lib.hid HN.out⟩
                  case measure => simp [intOf]; omega
              · obtain rfl : q = k := by omega
                have hltI : ¬ ((q : Int) < (q : Int)) := by omega
                go_wp2_with (first
                  | ((with_reducible show wpList _ _ _ (Oper.mk _ (.load _ _) _ _ _ _ :: _) _ _); refine wl_load rfl 23 _ rfl _ rfl _ (run_load_arr hR.out.x Tryd.underlying23 rfl info26) ?_)
                  | ((with_reducible show wpList _ _ _ (Oper.mk _ (.store _ _ _) _ _ _ _ :: _) _ _); refine wl_store rfl 23 _ _ rfl _ rfl _ rfl (run_store_arr hR.out.r (bys (chF seed idx n x i q)) info26 (bys_one _ _)) ?_))
                exact bodyPost_ret (results_cell1 rfl _ _ _ rfl (run_load_arr (hR.out.r.row _) Tryd.underlying23 rfl info26)) rfl ⟨by rw [HCH.out], below_row hR.out.b (by omega) _⟩
  exact mk _ rfl
end Go.Proofs.YtepgndgelfkcnaaDoor
