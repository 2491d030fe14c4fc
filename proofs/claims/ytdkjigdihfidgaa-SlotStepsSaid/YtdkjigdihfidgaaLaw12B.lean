/- The walk of SlotSteps. -/
import Derived.Test.YtdkjigdihfidgaaLaw12A
namespace Go.Proofs.Ytdkjigdihfidgaa
open Go.RowKit

attribute [local go_sem ↓ high] zeroQ
set_option maxRecDepth 100000 in
set_option maxHeartbeats 4000000 in
theorem slotSteps_walk (id : Int) (f : Nat → W32) (s v : W32) (w : World) (_h1 : -9223372036854775808 ≤ id) (_h2 : id ≤ 9223372036854775807) :
    Calls Try.prog 4 #[.int .i64 id, .agg (vec 4 (wds f)), .agg #[.int .u32 (num s), .int .u32 (num v)]] w fun e w' => e = .returned (.bool true) ∧ Below w.heap.size w w' := by
  obtain ⟨x, hx⟩ : ∃ x, IntKind.u32.wrap id = num x := ⟨_, (num_ofInt id).symm⟩
  have HA := Lib.hid (fun W => awake_any W)
  obtain ⟨l, hl⟩ : ∃ l, l = stepsL x f s v := ⟨_, rfl⟩
  obtain ⟨n, hn⟩ : ∃ n, n = l.length := ⟨_, rfl⟩
  have hn5 : n ≤ 5 := by
    rw [hn, hl]; unfold stepsL
    split <;> simp [body4]
  have HS : Hid (∀ W, Calls Try.prog 14 #[.int .i64 id, .agg (vec 4 (wds f)), .agg #[.int .u32 (num s), .int .u32 (num v)]] W fun e w' => ∃ A c, e = .returned (.slice A n c) ∧ Hid (n ≤ c ∧ Lies w' w'.heap.size 2 A l.length (cellsC l) ∧ Below W.heap.size W w')) := Lib.hid fun W => by
    rw [hn, hl]
    refine (steps_any id x hx f s v W).mono ?_
    rintro e w' ⟨A, c, rfl, h1, h2, h3⟩
    exact ⟨A, c, rfl, Lib.hid ⟨h1, h2, h3⟩⟩
  have HRS : Hid (∀ W, Calls Try.prog 15 #[.int .i64 id, .agg (vec 4 (wds f)), .agg #[.int .u32 (num s), .int .u32 (num v)]] W fun e w' => ∃ A c, e = .returned (.slice A n c) ∧ Hid (n ≤ c ∧ Lies w' w'.heap.size 2 A l.length (cellsC l) ∧ Below W.heap.size W w')) := Lib.hid fun W => by
    rw [hn, hl]
    refine (rsteps_any id x hx f s v W).mono ?_
    rintro e w' ⟨A, c, rfl, h1, h2, h3⟩
    exact ⟨A, c, rfl, Lib.hid ⟨h1, h2, h3⟩⟩
  have HRW := Lib.hid (fun W => rwords_any id x hx s v W)
  have HE : Hid (quadEq (aft f l) (recW x s v) = true) := Lib.hid (by rw [hl]; exact (quadEq_iff _ _).2 (aft_steps x f s v))
  have HN := Lib.hid hn
  clear hx _h1 _h2 hl hn
  obtain ⟨V0, hV0⟩ : ∃ V0, V0 = (w.alloc (.cells (vec 4 (wds f)) 25)).alloc (.cells #[.int .u32 (num s), .int .u32 (num v)] 24) := ⟨_, rfl⟩
  have K0 : Hid (Two w V0 (w.heap.size + 1) w.heap.size s v f) := Lib.hid (by
    rw [hV0]
    exact ⟨Blk.new _ _ _ (by simp), (Arr.new _ _ _ _).alloc _, ((Below.refl _ _).alloc (Nat.le_refl _) _).alloc (by simp) _⟩)
  have HV0 := Lib.hid hV0
  clear hV0
  go_enter Try.func4, Try.ntmps4
  go_upto_region 1 with fail
  rw [← HV0.out]
  clear HV0
  go_upto_region 3 with (go_at_call 7; refine (HA.out _).mono ?_; rintro e w1 ⟨rfl, hd⟩; have K1 := Lib.hid (K0.out.under hd); clear hd)
  clear K0 HA
  have HQ : Hid (∀ W, VS w1 W → (loadVar 25 ⟨w.heap.size, 0, none⟩).run Try.prog W = .ok (.agg (vec 4 (wds f))) W) := Lib.hid fun W hW => (K1.out.under hW).loadQ
  have HR : Hid (∀ W, VS w1 W → (loadVar 24 ⟨w.heap.size + 1, 0, none⟩).run Try.prog W = .ok (.agg #[.int .u32 (num s), .int .u32 (num v)]) W) := Lib.hid fun W hW => (K1.out.under hW).loadR
  refine wp_region_held_drew (S := fun Y => VS w1 Y) (by kernel_rfl) (VS.begin w1) (fun hS => ?_)
  (refine held_take (i := 0) (oi := ?ot1) (v := ?vt1) ?at1 (by kernel_rfl) (by kernel_rfl) (by kernel_rfl) ?bt1 ?ct1 ?dt1 (by assumption) ?rt1; (case at1 => (simp only [List.getElem?_toArray, List.getElem?_cons_zero]; rfl)); (case bt1 => exact fun _ _ _ h => h); (case ct1 => kernel_rfl); (case dt1 => (intro W hW; (try dsimp only at hW); go_split_ands; go_simp; (try with_reducible rfl))); (case' rt1 => simp only [Act.put, List.setIfInBounds_toArray, List.set_cons_zero, List.set_cons_succ]))
  (refine held_take (i := 1) (oi := ?ot2) (v := .agg (vec 4 (wds f))) ?at2 (by kernel_rfl) (by kernel_rfl) (by kernel_rfl) ?bt2 ?ct2 ?dt2 (by assumption) ?rt2; (case at2 => (simp only [List.getElem?_toArray, List.getElem?_cons_zero, List.getElem?_cons_succ]; rfl)); (case bt2 => exact fun _ _ _ h => h); (case ct2 => kernel_rfl); (case dt2 => (intro W hW; exact exec_load _ _ rfl _ rfl _ (HQ.out W hW))); (case' rt2 => simp only [Act.put, List.setIfInBounds_toArray, List.set_cons_zero, List.set_cons_succ]))
  (refine held_take (i := 2) (oi := ?ot3) (v := .agg #[.int .u32 (num s), .int .u32 (num v)]) ?at3 (by kernel_rfl) (by kernel_rfl) (by kernel_rfl) ?bt3 ?ct3 ?dt3 (by assumption) ?rt3; (case at3 => (simp only [List.getElem?_toArray, List.getElem?_cons_zero, List.getElem?_cons_succ]; rfl)); (case bt3 => exact fun _ _ _ h => h); (case ct3 => kernel_rfl); (case dt3 => (intro W hW; exact exec_load _ _ rfl _ rfl _ (HR.out W hW))); (case' rt3 => simp only [Act.put, List.setIfInBounds_toArray, List.set_cons_zero, List.set_cons_succ]))
  (refine held_take (i := 4) (oi := ?ot4) (v := ?vt4) ?at4 (by kernel_rfl) (by kernel_rfl) (by kernel_rfl) ?bt4 ?ct4 ?dt4 (by assumption) ?rt4; (case at4 => (simp only [List.getElem?_toArray, List.getElem?_cons_zero, List.getElem?_cons_succ]; rfl)); (case bt4 => exact fun _ _ _ h => h); (case ct4 => kernel_rfl); (case dt4 => (intro W hW; (try dsimp only at hW); go_split_ands; go_simp; (try with_reducible rfl))); (case' rt4 => simp only [Act.put, List.setIfInBounds_toArray, List.set_cons_zero, List.set_cons_succ]))
  (refine held_take (i := 5) (oi := ?ot5) (v := .agg (vec 4 (wds f))) ?at5 (by kernel_rfl) (by kernel_rfl) (by kernel_rfl) ?bt5 ?ct5 ?dt5 (by assumption) ?rt5; (case at5 => (simp only [List.getElem?_toArray, List.getElem?_cons_zero, List.getElem?_cons_succ]; rfl)); (case bt5 => exact fun _ _ _ h => h); (case ct5 => kernel_rfl); (case dt5 => (intro W hW; exact exec_load _ _ rfl _ rfl _ (HQ.out W hW))); (case' rt5 => simp only [Act.put, List.setIfInBounds_toArray, List.set_cons_zero, List.set_cons_succ]))
  (refine held_take (i := 6) (oi := ?ot6) (v := .agg #[.int .u32 (num s), .int .u32 (num v)]) ?at6 (by kernel_rfl) (by kernel_rfl) (by kernel_rfl) ?bt6 ?ct6 ?dt6 (by assumption) ?rt6; (case at6 => (simp only [List.getElem?_toArray, List.getElem?_cons_zero, List.getElem?_cons_succ]; rfl)); (case bt6 => exact fun _ _ _ h => h); (case ct6 => kernel_rfl); (case dt6 => (intro W hW; exact exec_load _ _ rfl _ rfl _ (HR.out W hW))); (case' rt6 => simp only [Act.put, List.setIfInBounds_toArray, List.set_cons_zero, List.set_cons_succ]))
  refine held_one (i := 3) (oi := ?ot7) (by kernel_rfl) ?at7 ?ct7 (fun K3 hK3 => ?_)
  (case at7 => (simp only [List.getElem?_toArray, List.getElem?_cons_zero, List.getElem?_cons_succ]; rfl))
  (case ct7 => kernel_rfl)
  have hSb := hS
  go_simp
  refine (HS.out _).mono ?_
  rintro e y3 ⟨A1, c1, rfl, HY1⟩
  refine hK3 _ _ (hSb.keep HY1.out.2.2) (fun hS3 => ?_)
  clear hS hSb hK3 K3
  refine held_one (i := 7) (oi := ?ot8) (by kernel_rfl) ?at8 ?ct8 (fun K7 hK7 => ?_)
  (case at8 => (simp only [List.getElem?_toArray, List.getElem?_cons_zero, List.getElem?_cons_succ]; rfl))
  (case ct8 => kernel_rfl)
  have hSb := hS3
  go_simp
  refine (HRS.out _).mono ?_
  rintro e y7 ⟨A2, c2, rfl, HY2⟩
  refine hK7 _ _ (hSb.keep HY2.out.2.2) (fun hS7 => ?_)
  clear hS3 hSb hK7 K7
  (refine held_take (i := 8) (oi := ?ot9) (v := ?vt9) ?at9 (by kernel_rfl) (by kernel_rfl) (by kernel_rfl) ?bt9 ?ct9 ?dt9 (by assumption) ?rt9; (case at9 => (simp only [List.getElem?_toArray, List.getElem?_cons_zero, List.getElem?_cons_succ]; rfl)); (case bt9 => exact fun _ _ _ h => h); (case ct9 => kernel_rfl); (case dt9 => (intro W hW; (try dsimp only at hW); go_split_ands; go_simp; (try with_reducible rfl))); (case' rt9 => simp only [Act.put, List.setIfInBounds_toArray, List.set_cons_zero, List.set_cons_succ]))
  (refine held_take (i := 9) (oi := ?ot10) (v := ?vt10) ?at10 (by kernel_rfl) (by kernel_rfl) (by kernel_rfl) ?bt10 ?ct10 ?dt10 (by assumption) ?rt10; (case at10 => (simp only [List.getElem?_toArray, List.getElem?_cons_zero, List.getElem?_cons_succ]; rfl)); (case bt10 => exact fun _ _ _ h => h); (case ct10 => kernel_rfl); (case dt10 => (intro W hW; (try dsimp only at hW); go_split_ands; go_simp; (try with_reducible rfl))); (case' rt10 => simp only [Act.put, List.setIfInBounds_toArray, List.set_cons_zero, List.set_cons_succ]))
  refine wpAnyH_done (by kernel_rfl) ?_ _
  have K2 := Lib.hid (K1.out.under hS7)
  have HL1 : Hid (Lies y7 y7.heap.size 2 A1 l.length (cellsC l)) := Lib.hid ((HY1.out.2.1.below HY2.out.2.2).wide HY2.out.2.2.size)
  have HL2 := Lib.hid HY2.out.2.1
  clear hS7 HQ HR HS HRS HY1 HY2 K1
  go_wp2_with fail
  go_loopw [27] (fun i W => ∃ k : Nat, k ≤ n ∧ i = .int .i64 k ∧ Hid (Below y7.heap.size y7 W)) (fun i _ => n - (intOf i).toNat)
  case atStart => exact ⟨0, Nat.zero_le _, rfl, Lib.hid (Below.refl _ _)⟩
  case round =>
    obtain ⟨k, hk, rfl, HB⟩ := hrel
    obtain ⟨W, hWr⟩ : ∃ W : World, W = wr := ⟨_, rfl⟩
    subst hWr
    by_cases hlt : k < n
    · have hlt2 : k < l.length := by have := HN.out; omega
      obtain ⟨a, p, rfl, hp, hc0, hc1⟩ := put_at (HL1.out.below HB.out) hlt2
      obtain ⟨b, q, rfl, hq, hd0, hd1⟩ := put_at (HL2.out.below HB.out) hlt2
      obtain ⟨⟨t, y⟩, hy⟩ : ∃ x, l[k] = x := ⟨_, rfl⟩
      rw [hy] at hc0 hc1 hd0 hd1
      simp only at hc0 hc1 hd0 hd1
      have q1 : ∀ W, (binOp .neq 35 (.agg #[.int .i64 t, .int .u32 (num y)]) (.agg #[.int .i64 t, .int .u32 (num y)])).run Try.prog W = .ok (.bool false) W := fun W => neqP t y W
      have q2 : ∀ x z W, (eqGuard .neq 35 x z (.agg #[.int .i64 t, .int .u32 (num y)]) (.agg #[.int .i64 t, .int .u32 (num y)])).run Try.prog W = .ok () W := fun x z W => eqgP .neq x z _ _ W
      have HK := Lib.hid hlt
      have h0 : (k : Int) < (n : Int) := by omega
      clear hy hk hlt2
      go_wp2_with fail
      go_quiet (fail)
      go_wp2_with fail
      go_roundw
      case rel => exact ⟨k + 1, HK.out, by go_num, Lib.hid ⟨HB.out.1, HB.out.2, HB.out.3, HB.out.4, HB.out.5⟩⟩
      case measure => have := HK.out; simp [intOf]; omega
    · obtain rfl : k = n := by omega
      have K3 := Lib.hid (K2.out.under HB.out)
      have HL3 := Lib.hid ((HL1.out.below HB.out).wide HB.out.size)
      clear hlt hk HL1 HL2 HB K2
      go_upto_region 12 with fail
      have HQ2 : Hid (∀ Z, VS W Z → (loadVar 25 ⟨w.heap.size, 0, none⟩).run Try.prog Z = .ok (.agg (vec 4 (wds f))) Z) := Lib.hid fun Z hZ => (K3.out.under hZ).loadQ
      have HR2 : Hid (∀ Z, VS W Z → (loadVar 24 ⟨w.heap.size + 1, 0, none⟩).run Try.prog Z = .ok (.agg #[.int .u32 (num s), .int .u32 (num v)]) Z) := Lib.hid fun Z hZ => (K3.out.under hZ).loadR
      have HAF : Hid (∀ Z, VS W Z → Calls Try.prog 16 #[.agg (vec 4 (wds f)), .slice A1 k c1] Z fun e w' => e = .returned (.agg (vec 4 (wds (aft f l)))) ∧ Below Z.heap.size Z w') := Lib.hid fun Z hZ => by
        rw [HN.out]
        exact after_any f A1 c1 l (by have := HN.out; omega) Z ((HL3.out.below hZ).wide hZ.size)
      refine wp_region_held_drew (S := fun Y => VS W Y) (by kernel_rfl) (VS.begin W) (fun hS => ?_)
      (refine held_take (i := 0) (oi := ?ot11) (v := .agg (vec 4 (wds f))) ?at11 (by kernel_rfl) (by kernel_rfl) (by kernel_rfl) ?bt11 ?ct11 ?dt11 (by assumption) ?rt11; (case at11 => (simp only [List.getElem?_toArray, List.getElem?_cons_zero]; rfl)); (case bt11 => exact fun _ _ _ h => h); (case ct11 => kernel_rfl); (case dt11 => (intro W hW; exact exec_load _ _ rfl _ rfl _ (HQ2.out W hW))); (case' rt11 => simp only [Act.put, List.setIfInBounds_toArray, List.set_cons_zero, List.set_cons_succ]))
      (refine held_take (i := 1) (oi := ?ot12) (v := ?vt12) ?at12 (by kernel_rfl) (by kernel_rfl) (by kernel_rfl) ?bt12 ?ct12 ?dt12 (by assumption) ?rt12; (case at12 => (simp only [List.getElem?_toArray, List.getElem?_cons_zero, List.getElem?_cons_succ]; rfl)); (case bt12 => exact fun _ _ _ h => h); (case ct12 => kernel_rfl); (case dt12 => (intro W hW; (try dsimp only at hW); go_split_ands; go_simp; (try with_reducible rfl))); (case' rt12 => simp only [Act.put, List.setIfInBounds_toArray, List.set_cons_zero, List.set_cons_succ]))
      (refine held_take (i := 3) (oi := ?ot13) (v := ?vt13) ?at13 (by kernel_rfl) (by kernel_rfl) (by kernel_rfl) ?bt13 ?ct13 ?dt13 (by assumption) ?rt13; (case at13 => (simp only [List.getElem?_toArray, List.getElem?_cons_zero, List.getElem?_cons_succ]; rfl)); (case bt13 => exact fun _ _ _ h => h); (case ct13 => kernel_rfl); (case dt13 => (intro W hW; (try dsimp only at hW); go_split_ands; go_simp; (try with_reducible rfl))); (case' rt13 => simp only [Act.put, List.setIfInBounds_toArray, List.set_cons_zero, List.set_cons_succ]))
      (refine held_take (i := 4) (oi := ?ot14) (v := .agg #[.int .u32 (num s), .int .u32 (num v)]) ?at14 (by kernel_rfl) (by kernel_rfl) (by kernel_rfl) ?bt14 ?ct14 ?dt14 (by assumption) ?rt14; (case at14 => (simp only [List.getElem?_toArray, List.getElem?_cons_zero, List.getElem?_cons_succ]; rfl)); (case bt14 => exact fun _ _ _ h => h); (case ct14 => kernel_rfl); (case dt14 => (intro W hW; exact exec_load _ _ rfl _ rfl _ (HR2.out W hW))); (case' rt14 => simp only [Act.put, List.setIfInBounds_toArray, List.set_cons_zero, List.set_cons_succ]))
      refine held_one (i := 2) (oi := ?ot15) (by kernel_rfl) ?at15 ?ct15 (fun K2 hK2 => ?_)
      (case at15 => (simp only [List.getElem?_toArray, List.getElem?_cons_zero, List.getElem?_cons_succ]; rfl))
      (case ct15 => kernel_rfl)
      have hSb := hS
      go_simp
      refine (HAF.out _ hSb).mono ?_
      rintro e y2 ⟨rfl, hd⟩
      refine hK2 _ _ (hSb.keep hd) (fun hS2 => ?_)
      clear hS hSb hd hK2 K2
      refine held_one (i := 5) (oi := ?ot16) (by kernel_rfl) ?at16 ?ct16 (fun K5 hK5 => ?_)
      (case at16 => (simp only [List.getElem?_toArray, List.getElem?_cons_zero, List.getElem?_cons_succ]; rfl))
      (case ct16 => kernel_rfl)
      have hSb := hS2
      go_simp
      refine (HRW.out _).mono ?_
      rintro e y5 ⟨rfl, hd⟩
      refine hK5 _ _ (hSb.keep hd) (fun hS5 => ?_)
      clear hS2 hSb hd hK5 K5
      (refine held_take (i := 6) (oi := ?ot17) (v := .bool true) ?at17 (by kernel_rfl) (by kernel_rfl) (by kernel_rfl) ?bt17 ?ct17 ?dt17 (by assumption) ?rt17; (case at17 => (simp only [List.getElem?_toArray, List.getElem?_cons_zero, List.getElem?_cons_succ]; rfl)); (case bt17 => exact fun _ _ _ h => h); (case ct17 => kernel_rfl); (case dt17 => (intro Z _; exact exec_eql4 _ _ _ rfl _ _ rfl rfl Z HE.out)); (case' rt17 => simp only [Act.put, List.setIfInBounds_toArray, List.set_cons_zero, List.set_cons_succ]))
      (refine held_take (i := 7) (oi := ?ot18) (v := ?vt18) ?at18 (by kernel_rfl) (by kernel_rfl) (by kernel_rfl) ?bt18 ?ct18 ?dt18 (by assumption) ?rt18; (case at18 => (simp only [List.getElem?_toArray, List.getElem?_cons_zero, List.getElem?_cons_succ]; rfl)); (case bt18 => exact fun _ _ _ h => h); (case ct18 => kernel_rfl); (case dt18 => (intro W hW; (try dsimp only at hW); go_split_ands; go_simp; (try with_reducible rfl))); (case' rt18 => simp only [Act.put, List.setIfInBounds_toArray, List.set_cons_zero, List.set_cons_succ]))
      refine wpAnyH_done (by kernel_rfl) ?_ _
      have HF := Lib.hid hS5
      clear hS5
      go_wp2
      go_ret
      exact ⟨rfl, HF.out.below0 K3.out.be⟩
end Go.Proofs.Ytdkjigdihfidgaa
