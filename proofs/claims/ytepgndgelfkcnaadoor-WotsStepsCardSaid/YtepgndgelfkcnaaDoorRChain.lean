/- The reference's Secret, Chain. -/
import Derived.Deep.Cut
import Derived.Test.YtepgndgelfkcnaaDoorChn
import Derived.Test.YtepgndgelfkcnaaDoorRPrf
import Derived.Test.YtepgndgelfkcnaaDoorBlk
import Derived.Test.YtepgndgelfkcnaaDoorVs
namespace Go.Proofs.YtepgndgelfkcnaaDoor
open Go.RowKit
attribute [local go_sem ↓ high] zeroV26

set_option maxHeartbeats 1000000 in
set_option maxRecDepth 100000 in
theorem rsecret_any (secret : Nat → UInt8) (idx : Nat) (hidx : idx < 4294967296) (chain : Int) (w : World) (hT : Tabs w) :
    Calls Tryd.prog 19 #[.agg (vec 32 (bys secret)), .int .u32 (idx : Int), .int .i64 chain] w fun e w' => e = .returned (.agg (vec 32 (bys (secretF secret idx chain)))) ∧ Below w.heap.size w w' := by
  obtain ⟨V, hV⟩ : ∃ V, V = (w.alloc (.cells (vec 32 (bys secret)) 23)).alloc (.cells (vec 32 (bys zb)) 23) := ⟨_, rfl⟩
  have hA : Arr V w.heap.size 23 32 (bys secret) := by rw [hV]; exact (Arr.newAt _ _ _ _ (by simp)).alloc _
  have hR : Arr V (w.heap.size + 1) 23 32 (bys zb) := by rw [hV]; exact Arr.newAt _ _ _ _ (by simp)
  have hB : Below w.heap.size w V := by rw [hV]; exact (((Below.refl _ _).alloc (by simp <;> omega) _).alloc (by simp <;> omega) _)
  have HA := Lib.hid (And.intro hA (And.intro hR (And.intro hB (tabs_below hT hB))))
  have HW := Lib.hid hV
  clear hV hA hR hB hT
  by_cases h0 : chain < 0
  · have t1 : decide (chain < 0) = true := by simp [h0]
    go_enter Tryd.func19, Tryd.ntmps19
    go_upto_region 1 with fail
    rw [← HW.out]
    clear HW
    go_wp2_with (first
      | ((with_reducible show wpList _ _ _ (Oper.mk _ (.build _ _) _ _ _ _ :: _) _ _); refine wl_build rfl 23 _ rfl (vec 32 (bys zb)) (by kernel_rfl) ?_)
      | ((with_reducible show wpList _ _ _ (Oper.mk _ (.store _ _ _) _ _ _ _ :: _) _ _); refine wl_store rfl 23 _ _ rfl _ rfl _ rfl (run_store_arr HA.out.2.1 (bys zb) info26 (bys_one _ _)) ?_))
    refine bodyPost_ret (results_cell1 rfl _ _ _ rfl (run_load_arr (HA.out.2.1.row _) Tryd.underlying23 rfl info26)) rfl ⟨?_, below_row HA.out.2.2.1 (by omega) _⟩
    have : ¬ (0 ≤ chain ∧ chain ≤ 66) := by omega
    unfold secretF
    rw [if_neg this]
  · have t1 : decide (chain < 0) = false := by simp; omega
    by_cases h1 : 66 < chain
    · have t2 : decide (66 < chain) = true := by simp [h1]
      go_enter Tryd.func19, Tryd.ntmps19
      go_upto_region 1 with fail
      rw [← HW.out]
      clear HW
      go_wp2_with (first
        | ((with_reducible show wpList _ _ _ (Oper.mk _ (.build _ _) _ _ _ _ :: _) _ _); refine wl_build rfl 23 _ rfl (vec 32 (bys zb)) (by kernel_rfl) ?_)
        | ((with_reducible show wpList _ _ _ (Oper.mk _ (.store _ _ _) _ _ _ _ :: _) _ _); refine wl_store rfl 23 _ _ rfl _ rfl _ rfl (run_store_arr HA.out.2.1 (bys zb) info26 (bys_one _ _)) ?_))
      refine bodyPost_ret (results_cell1 rfl _ _ _ rfl (run_load_arr (HA.out.2.1.row _) Tryd.underlying23 rfl info26)) rfl ⟨?_, below_row HA.out.2.2.1 (by omega) _⟩
      have : ¬ (0 ≤ chain ∧ chain ≤ 66) := by omega
      unfold secretF
      rw [if_neg this]
    · have t2 : decide (66 < chain) = false := by simp; omega
      obtain ⟨n, rfl⟩ := Int.eq_ofNat_of_zero_le (Int.not_lt.1 h0)
      have hn : n ≤ 66 := by omega
      have HS := Lib.hid (secretF_nat secret idx n hn)
      have HP := Lib.hid (rprf_any secret 0 0 0 idx n 0 0 ⟨by decide, by decide, by decide, hidx, by omega, by decide, by decide⟩ V HA.out.2.2.2)
      have hwn : IntKind.u32.wrap (n : Int) = (n : Int) := by rw [IntKind.wrap_u32']; omega
      clear h0 h1
      go_enter Tryd.func19, Tryd.ntmps19
      go_upto_region 1 with fail
      rw [← HW.out]
      clear HW
      go_wp2_with (first
        | ((with_reducible show wpList _ _ _ (Oper.mk _ (.load _ _) _ _ _ _ :: _) _ _); refine wl_load rfl 23 _ rfl _ rfl _ (run_load_arr HA.out.1 Tryd.underlying23 rfl info26) ?_)
        | (go_at_call 24; refine HP.out.mono ?_; rintro e w3 ⟨rfl, hd⟩; have H3 := Lib.hid (And.intro (HA.out.2.1.under hd) (HA.out.2.2.1.trans (hd.mono HA.out.2.2.1.size))); clear hd)
        | ((with_reducible show wpList _ _ _ (Oper.mk _ (.store _ _ _) _ _ _ _ :: _) _ _); refine wl_store rfl 23 _ _ rfl _ rfl _ rfl (run_store_arr H3.out.1 (bys (prfF secret 0 0 0 idx n 0 0)) info26 (bys_one _ _)) ?_))
      exact bodyPost_ret (results_cell1 rfl _ _ _ rfl (run_load_arr (H3.out.1.row _) Tryd.underlying23 rfl info26)) rfl ⟨by rw [HS.out], below_row H3.out.2 (by omega) _⟩

theorem chF_succ (seed : Nat → UInt8) (idx chain : Nat) (x : Nat → UInt8) (i k : Nat) : chF seed idx chain x i (k + 1) = stepF seed idx chain (i + k) (chF seed idx chain x i k) := rfl
/-- What the reference's loop keeps. -/
structure RL (w : World) (seed x : Nat → UInt8) (W : World) : Prop where
  x : Arr W w.heap.size 23 32 (bys x)
  s : Arr W (w.heap.size + 1) 23 32 (bys seed)
  r : Arr W (w.heap.size + 2) 23 32 (bys zb)
  b : Below w.heap.size w W
theorem RL.keep {w W Z : World} {seed x : Nat → UInt8} (h : RL w seed x W) (hd : Below W.heap.size W Z) : RL w seed x Z := ⟨h.x.under hd, h.s.under hd, h.r.under hd, h.b.trans (hd.mono h.b.size)⟩
theorem RL.lt {w W : World} {seed x : Nat → UInt8} (h : RL w seed x W) : w.heap.size + 2 < W.heap.size := h.r.lt
set_option maxHeartbeats 2000000 in
set_option maxRecDepth 100000 in
theorem rchain_any (x : Nat → UInt8) (i k : Int) (seed : Nat → UInt8) (idx : Nat) (hidx : idx < 4294967296) (chain : Int) (bi : -9223372036854775808 ≤ i ∧ i ≤ 9223372036854775807) (bk : -9223372036854775808 ≤ k ∧ k ≤ 9223372036854775807) (w : World) (hT : Tabs w) :
    Calls Tryd.prog 10 #[.agg (vec 32 (bys x)), .int .i64 i, .int .i64 k, .agg (vec 32 (bys seed)), .int .u32 (idx : Int), .int .i64 chain] w fun e w' => e = .returned (.agg (vec 32 (bys (chainF x i k seed idx chain)))) ∧ Below w.heap.size w w' := by
  obtain ⟨V, hV⟩ : ∃ V, V = ((w.alloc (.cells (vec 32 (bys x)) 23)).alloc (.cells (vec 32 (bys seed)) 23)).alloc (.cells (vec 32 (bys zb)) 23) := ⟨_, rfl⟩
  have hA : Arr V w.heap.size 23 32 (bys x) := by rw [hV]; exact ((Arr.newAt _ _ _ _ (by simp)).alloc _).alloc _
  have hS : Arr V (w.heap.size + 1) 23 32 (bys seed) := by rw [hV]; exact (Arr.newAt _ _ _ _ (by simp)).alloc _
  have hR : Arr V (w.heap.size + 2) 23 32 (bys zb) := by rw [hV]; exact Arr.newAt _ _ _ _ (by simp)
  have hB : Below w.heap.size w V := by rw [hV]; exact ((((Below.refl _ _).alloc (by simp <;> omega) _).alloc (by simp <;> omega) _).alloc (by simp <;> omega) _)
  have HA : Hid (RL w seed x V ∧ Tabs w) := Lib.hid ⟨⟨hA, hS, hR, hB⟩, hT⟩
  have HW := Lib.hid hV
  clear hV hA hS hR hB hT
  by_cases a1 : i < 0
  · have ta1 : decide (i < 0) = true := by simp [a1]
    go_enter Tryd.func10, Tryd.ntmps10
    go_upto_region 1 with fail
    rw [← HW.out]
    clear HW
    go_wp2_with (first
      | ((with_reducible show wpList _ _ _ (Oper.mk _ (.build _ _) _ _ _ _ :: _) _ _); refine wl_build rfl 23 _ rfl (vec 32 (bys zb)) (by kernel_rfl) ?_)
      | ((with_reducible show wpList _ _ _ (Oper.mk _ (.store _ _ _) _ _ _ _ :: _) _ _); refine wl_store rfl 23 _ _ rfl _ rfl _ rfl (run_store_arr HA.out.1.r (bys zb) info26 (bys_one _ _)) ?_))
    refine bodyPost_ret (results_cell1 rfl _ _ _ rfl (run_load_arr (HA.out.1.r.row _) Tryd.underlying23 rfl info26)) rfl ⟨?_, below_row HA.out.1.b (by omega) _⟩
    have : steppy i k chain = false := decide_eq_false (by omega)
    unfold chainF
    rw [this]
    rfl
  · have ta1 : decide (i < 0) = false := by simp; omega
    by_cases a2 : k < 0
    · have ta2 : decide (k < 0) = true := by simp [a2]
      go_enter Tryd.func10, Tryd.ntmps10
      go_upto_region 1 with fail
      rw [← HW.out]
      clear HW
      go_wp2_with (first
        | ((with_reducible show wpList _ _ _ (Oper.mk _ (.build _ _) _ _ _ _ :: _) _ _); refine wl_build rfl 23 _ rfl (vec 32 (bys zb)) (by kernel_rfl) ?_)
        | ((with_reducible show wpList _ _ _ (Oper.mk _ (.store _ _ _) _ _ _ _ :: _) _ _); refine wl_store rfl 23 _ _ rfl _ rfl _ rfl (run_store_arr HA.out.1.r (bys zb) info26 (bys_one _ _)) ?_))
      refine bodyPost_ret (results_cell1 rfl _ _ _ rfl (run_load_arr (HA.out.1.r.row _) Tryd.underlying23 rfl info26)) rfl ⟨?_, below_row HA.out.1.b (by omega) _⟩
      have : steppy i k chain = false := decide_eq_false (by omega)
      unfold chainF
      rw [this]
      rfl
    · have ta2 : decide (k < 0) = false := by simp; omega
      by_cases a3 : 15 < i
      · have ta3 : decide (15 < i) = true := by simp [a3]
        go_enter Tryd.func10, Tryd.ntmps10
        go_upto_region 1 with fail
        rw [← HW.out]
        clear HW
        go_wp2_with (first
          | ((with_reducible show wpList _ _ _ (Oper.mk _ (.build _ _) _ _ _ _ :: _) _ _); refine wl_build rfl 23 _ rfl (vec 32 (bys zb)) (by kernel_rfl) ?_)
          | ((with_reducible show wpList _ _ _ (Oper.mk _ (.store _ _ _) _ _ _ _ :: _) _ _); refine wl_store rfl 23 _ _ rfl _ rfl _ rfl (run_store_arr HA.out.1.r (bys zb) info26 (bys_one _ _)) ?_))
        refine bodyPost_ret (results_cell1 rfl _ _ _ rfl (run_load_arr (HA.out.1.r.row _) Tryd.underlying23 rfl info26)) rfl ⟨?_, below_row HA.out.1.b (by omega) _⟩
        have : steppy i k chain = false := decide_eq_false (by omega)
        unfold chainF
        rw [this]
        rfl
      · have ta3 : decide (15 < i) = false := by simp; omega
        by_cases a4 : 15 - i < k
        · have ta4 : decide (15 - i < k) = true := by simp [a4]
          go_enter Tryd.func10, Tryd.ntmps10
          go_upto_region 1 with fail
          rw [← HW.out]
          clear HW
          go_wp2_with (first
            | ((with_reducible show wpList _ _ _ (Oper.mk _ (.build _ _) _ _ _ _ :: _) _ _); refine wl_build rfl 23 _ rfl (vec 32 (bys zb)) (by kernel_rfl) ?_)
            | ((with_reducible show wpList _ _ _ (Oper.mk _ (.store _ _ _) _ _ _ _ :: _) _ _); refine wl_store rfl 23 _ _ rfl _ rfl _ rfl (run_store_arr HA.out.1.r (bys zb) info26 (bys_one _ _)) ?_))
          refine bodyPost_ret (results_cell1 rfl _ _ _ rfl (run_load_arr (HA.out.1.r.row _) Tryd.underlying23 rfl info26)) rfl ⟨?_, below_row HA.out.1.b (by omega) _⟩
          have : steppy i k chain = false := decide_eq_false (by omega)
          unfold chainF
          rw [this]
          rfl
        · have ta4 : decide (15 - i < k) = false := by simp; omega
          by_cases a5 : chain < 0
          · have ta5 : decide (chain < 0) = true := by simp [a5]
            go_enter Tryd.func10, Tryd.ntmps10
            go_upto_region 1 with fail
            rw [← HW.out]
            clear HW
            go_wp2_with (first
              | ((with_reducible show wpList _ _ _ (Oper.mk _ (.build _ _) _ _ _ _ :: _) _ _); refine wl_build rfl 23 _ rfl (vec 32 (bys zb)) (by kernel_rfl) ?_)
              | ((with_reducible show wpList _ _ _ (Oper.mk _ (.store _ _ _) _ _ _ _ :: _) _ _); refine wl_store rfl 23 _ _ rfl _ rfl _ rfl (run_store_arr HA.out.1.r (bys zb) info26 (bys_one _ _)) ?_))
            refine bodyPost_ret (results_cell1 rfl _ _ _ rfl (run_load_arr (HA.out.1.r.row _) Tryd.underlying23 rfl info26)) rfl ⟨?_, below_row HA.out.1.b (by omega) _⟩
            have : steppy i k chain = false := decide_eq_false (by omega)
            unfold chainF
            rw [this]
            rfl
          · have ta5 : decide (chain < 0) = false := by simp; omega
            by_cases a6 : 66 < chain
            · have ta6 : decide (66 < chain) = true := by simp [a6]
              go_enter Tryd.func10, Tryd.ntmps10
              go_upto_region 1 with fail
              rw [← HW.out]
              clear HW
              go_wp2_with (first
                | ((with_reducible show wpList _ _ _ (Oper.mk _ (.build _ _) _ _ _ _ :: _) _ _); refine wl_build rfl 23 _ rfl (vec 32 (bys zb)) (by kernel_rfl) ?_)
                | ((with_reducible show wpList _ _ _ (Oper.mk _ (.store _ _ _) _ _ _ _ :: _) _ _); refine wl_store rfl 23 _ _ rfl _ rfl _ rfl (run_store_arr HA.out.1.r (bys zb) info26 (bys_one _ _)) ?_))
              refine bodyPost_ret (results_cell1 rfl _ _ _ rfl (run_load_arr (HA.out.1.r.row _) Tryd.underlying23 rfl info26)) rfl ⟨?_, below_row HA.out.1.b (by omega) _⟩
              have : steppy i k chain = false := decide_eq_false (by omega)
              unfold chainF
              rw [this]
              rfl
            · have ta6 : decide (66 < chain) = false := by simp; omega
              obtain ⟨n, rfl⟩ := Int.eq_ofNat_of_zero_le (Int.not_lt.1 a5)
              obtain ⟨i, rfl⟩ := Int.eq_ofNat_of_zero_le (Int.not_lt.1 a1)
              obtain ⟨k, rfl⟩ := Int.eq_ofNat_of_zero_le (Int.not_lt.1 a2)
              have hn : n ≤ 66 := by omega
              have hik : i + k ≤ 15 := by omega
              have HCH := Lib.hid (chainF_nat x i k seed idx n hn hik)
              clear a1 a2 a3 a4 a5 a6
              go_enter Tryd.func10, Tryd.ntmps10
              go_upto_region 1 with fail
              rw [← HW.out]
              clear HW
              go_wp2_with fail
              go_loopw [13] (fun j W => ∃ q : Nat, q ≤ k ∧ j = .int .i64 ((i + q : Nat) : Int) ∧ Hid (RL w seed (chF seed idx n x i q) W)) (fun j _ => i + k - (intOf j).toNat)
              case atStart => exact ⟨0, Nat.zero_le _, rfl, Lib.hid HA.out.1⟩
              case round =>
                obtain ⟨q, hq, rfl, hR⟩ := hrel
                by_cases hlt : q < k
                · have HOK : Hid (∀ m, m < 4294967296 → AdOk 0 0 0 idx n (i + q) m) := Lib.hid fun m hm => ⟨by decide, by decide, by decide, hidx, by omega, by omega, hm⟩
                  have HTw := Lib.hid (tabs_below HA.out.2 hR.out.b)
                  have HF := Lib.hid (tabs_far HA.out.2 (Nat.le_refl _))
                  have hltI : ((i + q : Nat) : Int) < (i : Int) + (k : Int) := by omega
                  have hltD : decide (((i + q : Nat) : Int) < (i : Int) + (k : Int)) = true := by simp; omega
                  have hw1 : IntKind.u32.wrap ((i + q : Nat) : Int) = ((i + q : Nat) : Int) := by rw [IntKind.wrap_u32']; omega
                  have hw2 : IntKind.u32.wrap (n : Int) = (n : Int) := by rw [IntKind.wrap_u32']; omega
                  obtain ⟨c, hc⟩ : ∃ c, c = i + q := ⟨_, rfl⟩
                  rw [← hc] at hltI hltD hw1 HOK ⊢
                  have hcb : c ≤ 15 := by omega
                  have HC := Lib.hid hc
                  clear hc
                  go_upto_region 7 with fail
                  obtain ⟨xq, hxq⟩ : ∃ xq, xq = chF seed idx n x i q := ⟨_, rfl⟩
                  have hR1 := hR.out
                  rw [← hxq] at hR1
                  obtain ⟨g, hg⟩ : ∃ g, g = wr.heap.size := ⟨_, rfl⟩
                  obtain ⟨V1, hV1⟩ : ∃ V1, V1 = wr.alloc (.cells (adA 0 0 0 (idx : Int) (n : Int) (c : Int) 0) 43) := ⟨_, rfl⟩
                  have hAd : Blk V1 g 43 (adA 0 0 0 (idx : Int) (n : Int) (c : Int) 0) := by rw [hV1, hg]; exact Blk.new _ _ _ rfl
                  have hL1 : RL w seed xq V1 := by rw [hV1]; exact hR1.keep ((Below.refl _ _).alloc (Nat.le_refl _) _)
                  have hT1 : Tabs V1 := tabs_below HA.out.2 hL1.b
                  have hgl : w.heap.size + 2 < g := by have := hR1.lt; omega
                  rw [← hV1, ← hg]
                  have HL1 := Lib.hid (And.intro hL1 (And.intro hAd (And.intro hT1 hgl)))
                  have HQ := Lib.hid hxq
                  clear hg hV1 hAd hL1 hT1 hgl hxq hR1 hR HTw
                  go_upto_region 8 with (first
                    | ((with_reducible show wpList _ _ _ (Oper.mk _ (.load 23 _) _ _ _ _ :: _) _ _); refine wl_load rfl 23 _ rfl _ rfl _ (run_load_arr HL1.out.1.s Tryd.underlying23 rfl info26) ?_)
                    | ((with_reducible show wpList _ _ _ (Oper.mk _ (.load 43 _) _ _ _ _ :: _) _ _); refine wl_load rfl 43 _ rfl _ rfl _ (HL1.out.2.1.load Tryd.underlying43 rfl infoAd) ?_)
                    | (go_at_call 24; refine (rprf_any seed 0 0 0 idx n c 0 (HOK.out 0 (by decide)) _ HL1.out.2.2.1).mono ?_; rintro e w1 ⟨rfl, hd⟩; have H1 := Lib.hid hd; clear hd)
                    | ((with_reducible show wpList _ _ _ (Oper.mk _ (.store 23 _ _) _ _ _ _ :: _) _ _); refine wl_store rfl 23 _ _ rfl _ rfl _ rfl (run_store_arr (Arr.new w1 _ _ _) (bys (prfF seed 0 0 0 idx n c 0)) info26 (bys_one _ _)) ?_))
                  obtain ⟨gk, hgk⟩ : ∃ gk, gk = w1.heap.size := ⟨_, rfl⟩
                  obtain ⟨V3, hV3⟩ : ∃ V3, V3 = (w1.alloc (.cells (vec 32 (bys zb)) 23)).setRow w1.heap.size (vec 32 (bys (prfF seed 0 0 0 idx n c 0))) := ⟨_, rfl⟩
                  have hK3 : Arr V3 gk 23 32 (bys (prfF seed 0 0 0 idx n c 0)) := by rw [hV3, hgk]; exact (Arr.new w1 _ _ _).row _
                  have hb3 : Below V1.heap.size V1 V3 := by rw [hV3]; exact below_row (H1.out.alloc H1.out.size _) H1.out.size _
                  have hAd3 := HL1.out.2.1.under hb3
                  have hL3 := HL1.out.1.keep hb3
                  have hggk : g < gk := by have := HL1.out.2.1.lt; have := H1.out.size; omega
                  have hc6 := hAd3.cellAt 6 rfl
                  have hf6 := hAd3.frozen 6
                  rw [← hV3, ← hgk]
                  have HL3 := Lib.hid (And.intro hL3 (And.intro hAd3 (And.intro hK3 (And.intro hggk HL1.out.2.2.2))))
                  clear hgk hV3 hK3 hb3 hAd3 hL3 hggk H1 HL1
                  go_upto_region 9 with fail
                  obtain ⟨V4, hV4⟩ : ∃ V4, V4 = V3.setCell ⟨g, 6, none⟩ (.int .u32 1) := ⟨_, rfl⟩
                  have hAd4 : Blk V4 g 43 (adA 0 0 0 (idx : Int) (n : Int) (c : Int) 1) := by rw [hV4]; exact HL3.out.2.1.set 6 _
                  have hgl := HL3.out.2.2.2.2
                  have hggk := HL3.out.2.2.2.1
                  have hL4 : RL w seed xq V4 := by
                    rw [hV4]
                    exact ⟨HL3.out.1.x.far (p := ⟨g, 6, none⟩) (show w.heap.size ≠ g by omega) _, HL3.out.1.s.far (p := ⟨g, 6, none⟩) (show w.heap.size + 1 ≠ g by omega) _, HL3.out.1.r.far (p := ⟨g, 6, none⟩) (show w.heap.size + 2 ≠ g by omega) _, HL3.out.1.b.setCell (p := ⟨g, 6, none⟩) (show w.heap.size ≤ g by omega) _⟩
                  have hK4 : Arr V4 gk 23 32 (bys (prfF seed 0 0 0 idx n c 0)) := by rw [hV4]; exact HL3.out.2.2.1.far (p := ⟨g, 6, none⟩) (show gk ≠ g by omega) _
                  rw [← hV4]
                  have HT4 := Lib.hid (tabs_below HA.out.2 hL4.b)
                  have HX : Hid (Arr V4.drew w.heap.size 23 32 (bys xq)) := Lib.hid (hL4.x.drewN 1)
                  have HL4 := Lib.hid (And.intro hL4 (And.intro hAd4 hK4))
                  clear hV4 hAd4 hL4 hK4 HL3 hc6 hf6
                  refine wp_region_held_drew (S := fun Y => SR V4 w.heap.size Y) (by kernel_rfl) (SR.begin HL4.out.1.x) (fun hS => ?_)
                  (refine held_take (i := 0) (oi := ?ot1) (v := .agg (vec 32 (bys (prfF seed 0 0 0 idx n c 0)))) ?at1 (by kernel_rfl) (by kernel_rfl) (by kernel_rfl) ?bt1 ?ct1 ?dt1 (by assumption) ?rt1; (case at1 => (simp only [List.getElem?_toArray, List.getElem?_cons_zero]; rfl)); (case bt1 => exact fun _ _ _ h => h); (case ct1 => kernel_rfl); (case dt1 => (intro W hW; exact exec_load 23 _ rfl _ rfl _ (run_load_arr (hW.arr HL4.out.2.2 (by omega)) Tryd.underlying23 rfl info26))); (case' rt1 => simp only [Act.put, List.setIfInBounds_toArray, List.set_cons_zero, List.set_cons_succ]))
                  (refine held_take (i := 2) (oi := ?ot2) (v := .agg (vec 32 (bys seed))) ?at2 (by kernel_rfl) (by kernel_rfl) (by kernel_rfl) ?bt2 ?ct2 ?dt2 (by assumption) ?rt2; (case at2 => (simp only [List.getElem?_toArray, List.getElem?_cons_zero, List.getElem?_cons_succ]; rfl)); (case bt2 => exact fun _ _ _ h => h); (case ct2 => kernel_rfl); (case dt2 => (intro W hW; exact exec_load 23 _ rfl _ rfl _ (run_load_arr (hW.arr HL4.out.1.s (by omega)) Tryd.underlying23 rfl info26))); (case' rt2 => simp only [Act.put, List.setIfInBounds_toArray, List.set_cons_zero, List.set_cons_succ]))
                  (refine held_take (i := 3) (oi := ?ot3) (v := adV 0 0 0 (idx : Int) (n : Int) (c : Int) 1) ?at3 (by kernel_rfl) (by kernel_rfl) (by kernel_rfl) ?bt3 ?ct3 ?dt3 (by assumption) ?rt3; (case at3 => (simp only [List.getElem?_toArray, List.getElem?_cons_zero, List.getElem?_cons_succ]; rfl)); (case bt3 => exact fun _ _ _ h => h); (case ct3 => kernel_rfl); (case dt3 => (intro W hW; exact exec_load 43 _ rfl _ rfl _ ((hW.blk HL4.out.2.1 (by omega)).load Tryd.underlying43 rfl infoAd))); (case' rt3 => simp only [Act.put, List.setIfInBounds_toArray, List.set_cons_zero, List.set_cons_succ]))
                  refine held_two (i := 1) (j := 4) (oi := ?oit12) (oj := ?ojt12) (by kernel_rfl) ?ait12 ?ajt12 ?cit12 ?cjt12 (fun K1 hK1 => ?hit12) (fun K4 hK4 => ?hjt12)
                  (case ait12 => (simp only [List.getElem?_toArray, List.getElem?_cons_zero, List.getElem?_cons_succ]; rfl))
                  (case ajt12 => (simp only [List.getElem?_toArray, List.getElem?_cons_zero, List.getElem?_cons_succ]; rfl))
                  (case cit12 => kernel_rfl)
                  (case cjt12 => kernel_rfl)
                  case hit12 =>
                    refine ow_load 23 _ rfl _ _ rfl _ (run_load_arr HX.out Tryd.underlying23 rfl info26) ?_
                    refine hK1 _ _ hS (fun hS1 => ?_)
                    clear hK1 K1
                    refine held_one (i := 4) (oi := ?ot4) (by kernel_rfl) ?at4 ?ct4 (fun K4 hK4 => ?_)
                    (case at4 => (simp only [List.getElem?_toArray, List.getElem?_cons_zero, List.getElem?_cons_succ]; rfl))
                    (case ct4 => kernel_rfl)
                    go_simp
                    refine (rprf_any seed 0 0 0 idx n c 1 (HOK.out 1 (by decide)) _ (hS1.tabs HT4.out HF.out.1 HF.out.2)).mono ?_
                    rintro e y4 ⟨rfl, hd⟩
                    have HX := Lib.hid (HX.out.under hd)
                    refine hK4 _ _ (hS1.keep hd) (fun hS4 => ?_)
                    clear hS1 hd hK4 K4
                    refine held_one (i := 5) (oi := ?ot5) (by kernel_rfl) ?at5 ?ct5 (fun K5 hK5 => ?_)
                    (case at5 => (simp only [List.getElem?_toArray, List.getElem?_cons_zero, List.getElem?_cons_succ]; rfl))
                    (case ct5 => kernel_rfl)
                    go_simp
                    refine (rxor_any xq (prfF seed 0 0 0 idx n c 1) _).mono ?_
                    rintro e y5 ⟨rfl, hd⟩
                    refine hK5 _ _ (hS4.keep hd) (fun hS5 => ?_)
                    clear hS4 hd hK5 K5
                    refine held_one (i := 6) (oi := ?ot6) (by kernel_rfl) ?at6 ?ct6 (fun K6 hK6 => ?_)
                    (case at6 => (simp only [List.getElem?_toArray, List.getElem?_cons_zero, List.getElem?_cons_succ]; rfl))
                    (case ct6 => kernel_rfl)
                    go_simp
                    refine (rf_any (prfF seed 0 0 0 idx n c 0) (xorF xq (prfF seed 0 0 0 idx n c 1)) _).mono ?_
                    rintro e y6 ⟨rfl, hd⟩
                    refine hK6 _ _ (hS5.keep hd) (fun hS6 => ?_)
                    clear hS5 hd hK6 K6
                    refine held_one (i := 7) (oi := ?ot7) (by kernel_rfl) ?at7 ?ct7 (fun K7 hK7 => ?_)
                    (case at7 => (simp only [List.getElem?_toArray, List.getElem?_cons_zero, List.getElem?_cons_succ]; rfl))
                    (case ct7 => kernel_rfl)
                    obtain ⟨f0, hf0⟩ := hS6.res
                    refine ow_store 23 _ _ rfl _ rfl _ rfl (run_store_arr hf0 (bys (stepF seed idx n c xq)) info26 (bys_one _ _)) ?_
                    refine hK7 _ _ (hS6.put _) (fun hS7 => ?_)
                    clear hK7 K7
                    refine wpAnyH_done (by kernel_rfl) ?_ _
                    have HN : Hid (RL w seed (stepF seed idx n c xq) _) := Lib.hid ⟨hf0.row _, hS7.arr HL4.out.1.s (by omega), hS7.arr HL4.out.1.r (by omega), hS7.below HL4.out.1.b (Nat.le_refl _)⟩
                    clear hf0 hS7 HX
                    go_wp2
                    go_roundw
                    case rel => exact ⟨q + 1, by omega, by have := HC.out; congr 1; omega, Lib.hid (by rw [chF_succ, ← HQ.out, ← HC.out]; exact HN.out)⟩
                    case measure => have := HC.out; simp [intOf]; omega
                  case hjt12 =>
                    go_simp
                    refine (rprf_any seed 0 0 0 idx n c 1 (HOK.out 1 (by decide)) _ (hS.tabs HT4.out HF.out.1 HF.out.2)).mono ?_
                    rintro e y4 ⟨rfl, hd⟩
                    have HX := Lib.hid (HX.out.under hd)
                    refine hK4 _ _ (hS.keep hd) (fun hS4 => ?_)
                    clear hS hd hK4 K4
                    refine held_one (i := 1) (oi := ?ot8) (by kernel_rfl) ?at8 ?ct8 (fun K1 hK1 => ?_)
                    (case at8 => (simp only [List.getElem?_toArray, List.getElem?_cons_zero, List.getElem?_cons_succ]; rfl))
                    (case ct8 => kernel_rfl)
                    refine ow_load 23 _ rfl _ _ rfl _ (run_load_arr HX.out Tryd.underlying23 rfl info26) ?_
                    refine hK1 _ _ hS4 (fun hS1 => ?_)
                    clear hK1 K1
                    refine held_one (i := 5) (oi := ?ot9) (by kernel_rfl) ?at9 ?ct9 (fun K5 hK5 => ?_)
                    (case at9 => (simp only [List.getElem?_toArray, List.getElem?_cons_zero, List.getElem?_cons_succ]; rfl))
                    (case ct9 => kernel_rfl)
                    go_simp
                    refine (rxor_any xq (prfF seed 0 0 0 idx n c 1) _).mono ?_
                    rintro e y5 ⟨rfl, hd⟩
                    refine hK5 _ _ (hS1.keep hd) (fun hS5 => ?_)
                    clear hS1 hd hK5 K5
                    refine held_one (i := 6) (oi := ?ot10) (by kernel_rfl) ?at10 ?ct10 (fun K6 hK6 => ?_)
                    (case at10 => (simp only [List.getElem?_toArray, List.getElem?_cons_zero, List.getElem?_cons_succ]; rfl))
                    (case ct10 => kernel_rfl)
                    go_simp
                    refine (rf_any (prfF seed 0 0 0 idx n c 0) (xorF xq (prfF seed 0 0 0 idx n c 1)) _).mono ?_
                    rintro e y6 ⟨rfl, hd⟩
                    refine hK6 _ _ (hS5.keep hd) (fun hS6 => ?_)
                    clear hS5 hd hK6 K6
                    refine held_one (i := 7) (oi := ?ot11) (by kernel_rfl) ?at11 ?ct11 (fun K7 hK7 => ?_)
                    (case at11 => (simp only [List.getElem?_toArray, List.getElem?_cons_zero, List.getElem?_cons_succ]; rfl))
                    (case ct11 => kernel_rfl)
                    obtain ⟨f0, hf0⟩ := hS6.res
                    refine ow_store 23 _ _ rfl _ rfl _ rfl (run_store_arr hf0 (bys (stepF seed idx n c xq)) info26 (bys_one _ _)) ?_
                    refine hK7 _ _ (hS6.put _) (fun hS7 => ?_)
                    clear hK7 K7
                    refine wpAnyH_done (by kernel_rfl) ?_ _
                    have HN : Hid (RL w seed (stepF seed idx n c xq) _) := Lib.hid ⟨hf0.row _, hS7.arr HL4.out.1.s (by omega), hS7.arr HL4.out.1.r (by omega), hS7.below HL4.out.1.b (Nat.le_refl _)⟩
                    clear hf0 hS7 HX
                    go_wp2
                    go_roundw
                    case rel => exact ⟨q + 1, by omega, by have := HC.out; congr 1; omega, Lib.hid (by rw [chF_succ, ← HQ.out, ← HC.out]; exact HN.out)⟩
                    case measure => have := HC.out; simp [intOf]; omega
                · obtain rfl : q = k := by omega
                  have hltI : ¬ (((i + q : Nat) : Int) < (i : Int) + (q : Int)) := by omega
                  go_wp2_with (first
                    | ((with_reducible show wpList _ _ _ (Oper.mk _ (.load _ _) _ _ _ _ :: _) _ _); refine wl_load rfl 23 _ rfl _ rfl _ (run_load_arr hR.out.x Tryd.underlying23 rfl info26) ?_)
                    | ((with_reducible show wpList _ _ _ (Oper.mk _ (.store _ _ _) _ _ _ _ :: _) _ _); refine wl_store rfl 23 _ _ rfl _ rfl _ rfl (run_store_arr hR.out.r (bys (chF seed idx n x i q)) info26 (bys_one _ _)) ?_))
                  exact bodyPost_ret (results_cell1 rfl _ _ _ rfl (run_load_arr (hR.out.r.row _) Tryd.underlying23 rfl info26)) rfl ⟨by rw [HCH.out], below_row hR.out.b (by omega) _⟩
end Go.Proofs.YtepgndgelfkcnaaDoor
