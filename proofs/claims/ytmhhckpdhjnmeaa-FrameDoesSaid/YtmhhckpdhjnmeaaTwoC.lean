/- Within: the program's. -/
import Derived.Test.YtmhhckpdhjnmeaaOne
import Derived.Test.YtmhhckpdhjnmeaaHeld
namespace Go.Proofs.Ytmhhckpdhjnmeaa
open Go.RowKit

theorem has_bel (a b p : Nat) (hx : fit (a, b)) (w : World) :
    Calls Try.prog 31 #[.agg #[.int .u64 (a : Int), .int .u64 (b : Int)], .int .u64 (p : Int)] w fun e w' => e = .returned (.bool (has (a, b) p)) ∧ Below w.heap.size w w' := has_any a b p hx w
theorem within_eq (a b c d : Nat) (h : good (a, b) = true) : within (a, b) (c, d) = (has (c, d) a && has (c, d) (last (a, b))) := by
  have hl := last_good h
  have hg := (good_iff _).1 h
  simp only at hl hg
  rw [Bool.eq_iff_iff]
  simp only [within, has, h, Bool.true_and, Bool.and_eq_true, decide_eq_true_eq]
  constructor
  · rintro ⟨h1, h2, h3⟩; exact ⟨⟨h1, by omega, by omega⟩, h1, by omega, by omega⟩
  · rintro ⟨⟨h1, h2, h3⟩, h4, h5, h6⟩; exact ⟨h1, by omega, by omega⟩
set_option maxHeartbeats 1000000 in
theorem within_any (a b c d : Nat) (hx : fit (a, b)) (hy : fit (c, d)) (w : World) :
    Calls Try.prog 51 #[.agg #[.int .u64 (a : Int), .int .u64 (b : Int)], .agg #[.int .u64 (c : Int), .int .u64 (d : Int)]] w fun e w' => e = .returned (.bool (within (a, b) (c, d))) ∧ Below w.heap.size w w' := by
  have Hx := Lib.hid hx
  have Hy := Lib.hid hy
  by_cases h : good (a, b) = true
  · rw [within_eq a b c d h]
    by_cases h1 : has (c, d) a = true
    · rw [h1, Bool.true_and]
      go_enter Try.func51, Try.ntmps51
      go_wp2
      refine wp_region_held_drew (S := fun W => Below w.heap.size w W ∧ W.cell? ⟨w.heap.size, 0, none⟩ = some (.int .u64 (a : Int)) ∧ W.cell? ⟨w.heap.size, 1, none⟩ = some (.int .u64 (b : Int)) ∧ W.cell? ⟨w.heap.size + 1, 0, none⟩ = some (.int .u64 (c : Int)) ∧ W.cell? ⟨w.heap.size + 1, 1, none⟩ = some (.int .u64 (d : Int))) (by kernel_rfl) (keep4_start w a b c d _ rfl) (fun hS => ?_)
      (refine held_take (i := 0) (oi := ?ot316) (v := ?vt316) ?at316 (by kernel_rfl) (by kernel_rfl) (by kernel_rfl) ?bt316 ?ct316 ?dt316 (by assumption) ?rt316; (case at316 => (simp only [List.getElem?_toArray, List.getElem?_cons_zero]; rfl)); (case bt316 => exact fun _ _ _ h => h); (case ct316 => kernel_rfl); (case dt316 => (intro W hW; (try dsimp only at hW); go_split_ands; go_simp; (try with_reducible rfl))); (case' rt316 => simp only [Act.put, List.setIfInBounds_toArray, List.set_cons_zero, List.set_cons_succ]))
      refine held_one (i := 1) (oi := ?ot317) (by kernel_rfl) ?at317 ?ct317 (fun K1 hK1 => ?_)
      (case at317 => (simp only [List.getElem?_toArray, List.getElem?_cons_zero, List.getElem?_cons_succ]; rfl))
      (case ct317 => kernel_rfl)
      go_simp
      refine (good_bel a b Hx.out _).mono ?_
      rintro e w1 ⟨rfl, hd⟩
      refine hK1 _ _ (keep4 hd hS) (fun hS1 => ?_)
      clear hS hd hK1 K1
      (refine held_take (i := 2) (oi := ?ot318) (v := ?vt318) ?at318 (by kernel_rfl) (by kernel_rfl) (by kernel_rfl) ?bt318 ?ct318 ?dt318 (by assumption) ?rt318; (case at318 => (simp only [List.getElem?_toArray, List.getElem?_cons_zero, List.getElem?_cons_succ]; rfl)); (case bt318 => exact fun _ _ _ h => h); (case ct318 => kernel_rfl); (case dt318 => (intro W hW; (try dsimp only at hW); go_split_ands; go_simp; (try with_reducible rfl))); (case' rt318 => simp only [Act.put, List.setIfInBounds_toArray, List.set_cons_zero, List.set_cons_succ]))
      (refine held_take (i := 3) (oi := ?ot319) (v := ?vt319) ?at319 (by kernel_rfl) (by kernel_rfl) (by kernel_rfl) ?bt319 ?ct319 ?dt319 (by assumption) ?rt319; (case at319 => (simp only [List.getElem?_toArray, List.getElem?_cons_zero, List.getElem?_cons_succ]; rfl)); (case bt319 => exact fun _ _ _ h => h); (case ct319 => kernel_rfl); (case dt319 => (intro W hW; (try dsimp only at hW); go_split_ands; go_simp; (try with_reducible rfl))); (case' rt319 => simp only [Act.put, List.setIfInBounds_toArray, List.set_cons_zero, List.set_cons_succ]))
      (refine held_take (i := 4) (oi := ?ot320) (v := ?vt320) ?at320 (by kernel_rfl) (by kernel_rfl) (by kernel_rfl) ?bt320 ?ct320 ?dt320 (by assumption) ?rt320; (case at320 => (simp only [List.getElem?_toArray, List.getElem?_cons_zero, List.getElem?_cons_succ]; rfl)); (case bt320 => exact fun _ _ _ h => h); (case ct320 => kernel_rfl); (case dt320 => (intro W hW; (try dsimp only at hW); go_split_ands; go_simp; (try with_reducible rfl))); (case' rt320 => simp only [Act.put, List.setIfInBounds_toArray, List.set_cons_zero, List.set_cons_succ]))
      (refine held_take (i := 5) (oi := ?ot321) (v := ?vt321) ?at321 (by kernel_rfl) (by kernel_rfl) (by kernel_rfl) ?bt321 ?ct321 ?dt321 (by assumption) ?rt321; (case at321 => (simp only [List.getElem?_toArray, List.getElem?_cons_zero, List.getElem?_cons_succ]; rfl)); (case bt321 => exact fun _ _ _ h => h); (case ct321 => kernel_rfl); (case dt321 => (intro W hW; (try dsimp only at hW); go_split_ands; go_simp; (try with_reducible rfl))); (case' rt321 => simp only [Act.put, List.setIfInBounds_toArray, List.set_cons_zero, List.set_cons_succ]))
      refine held_one (i := 6) (oi := ?ot322) (by kernel_rfl) ?at322 ?ct322 (fun K6 hK6 => ?_)
      (case at322 => (simp only [List.getElem?_toArray, List.getElem?_cons_zero, List.getElem?_cons_succ]; rfl))
      (case ct322 => kernel_rfl)
      go_simp
      refine (has_bel c d a Hy.out _).mono ?_
      rintro e w1 ⟨rfl, hd⟩
      refine hK6 _ _ (keep4 hd hS1) (fun hS6 => ?_)
      clear hS1 hd hK6 K6
      (refine held_take (i := 7) (oi := ?ot323) (v := ?vt323) ?at323 (by kernel_rfl) (by kernel_rfl) (by kernel_rfl) ?bt323 ?ct323 ?dt323 (by assumption) ?rt323; (case at323 => (simp only [List.getElem?_toArray, List.getElem?_cons_zero, List.getElem?_cons_succ]; rfl)); (case bt323 => exact fun _ _ _ h => h); (case ct323 => kernel_rfl); (case dt323 => (intro W hW; (try dsimp only at hW); go_split_ands; go_simp; (try with_reducible rfl))); (case' rt323 => simp only [Act.put, List.setIfInBounds_toArray, List.set_cons_zero, List.set_cons_succ]))
      (refine held_take (i := 8) (oi := ?ot324) (v := ?vt324) ?at324 (by kernel_rfl) (by kernel_rfl) (by kernel_rfl) ?bt324 ?ct324 ?dt324 (by assumption) ?rt324; (case at324 => (simp only [List.getElem?_toArray, List.getElem?_cons_zero, List.getElem?_cons_succ]; rfl)); (case bt324 => exact fun _ _ _ h => h); (case ct324 => kernel_rfl); (case dt324 => (intro W hW; (try dsimp only at hW); go_split_ands; go_simp; (try with_reducible rfl))); (case' rt324 => simp only [Act.put, List.setIfInBounds_toArray, List.set_cons_zero, List.set_cons_succ]))
      (refine held_take (i := 9) (oi := ?ot325) (v := ?vt325) ?at325 (by kernel_rfl) (by kernel_rfl) (by kernel_rfl) ?bt325 ?ct325 ?dt325 (by assumption) ?rt325; (case at325 => (simp only [List.getElem?_toArray, List.getElem?_cons_zero, List.getElem?_cons_succ]; rfl)); (case bt325 => exact fun _ _ _ h => h); (case ct325 => kernel_rfl); (case dt325 => (intro W hW; (try dsimp only at hW); go_split_ands; go_simp; (try with_reducible rfl))); (case' rt325 => simp only [Act.put, List.setIfInBounds_toArray, List.set_cons_zero, List.set_cons_succ]))
      (refine held_take (i := 10) (oi := ?ot326) (v := ?vt326) ?at326 (by kernel_rfl) (by kernel_rfl) (by kernel_rfl) ?bt326 ?ct326 ?dt326 (by assumption) ?rt326; (case at326 => (simp only [List.getElem?_toArray, List.getElem?_cons_zero, List.getElem?_cons_succ]; rfl)); (case bt326 => exact fun _ _ _ h => h); (case ct326 => kernel_rfl); (case dt326 => (intro W hW; (try dsimp only at hW); go_split_ands; go_simp; (try with_reducible rfl))); (case' rt326 => simp only [Act.put, List.setIfInBounds_toArray, List.set_cons_zero, List.set_cons_succ]))
      refine held_one (i := 11) (oi := ?ot327) (by kernel_rfl) ?at327 ?ct327 (fun K11 hK11 => ?_)
      (case at327 => (simp only [List.getElem?_toArray, List.getElem?_cons_zero, List.getElem?_cons_succ]; rfl))
      (case ct327 => kernel_rfl)
      go_simp
      refine (last_bel a b Hx.out _).mono ?_
      rintro e w1 ⟨rfl, hd⟩
      refine hK11 _ _ (keep4 hd hS6) (fun hS11 => ?_)
      clear hS6 hd hK11 K11
      refine held_one (i := 12) (oi := ?ot328) (by kernel_rfl) ?at328 ?ct328 (fun K12 hK12 => ?_)
      (case at328 => (simp only [List.getElem?_toArray, List.getElem?_cons_zero, List.getElem?_cons_succ]; rfl))
      (case ct328 => kernel_rfl)
      go_simp
      refine (has_bel c d (last (a, b)) Hy.out _).mono ?_
      rintro e w1 ⟨rfl, hd⟩
      refine hK12 _ _ (keep4 hd hS11) (fun hS12 => ?_)
      clear hS11 hd hK12 K12
      (refine held_take (i := 13) (oi := ?ot329) (v := ?vt329) ?at329 (by kernel_rfl) (by kernel_rfl) (by kernel_rfl) ?bt329 ?ct329 ?dt329 (by assumption) ?rt329; (case at329 => (simp only [List.getElem?_toArray, List.getElem?_cons_zero, List.getElem?_cons_succ]; rfl)); (case bt329 => exact fun _ _ _ h => h); (case ct329 => kernel_rfl); (case dt329 => (intro W hW; (try dsimp only at hW); go_split_ands; go_simp; (try with_reducible rfl))); (case' rt329 => simp only [Act.put, List.setIfInBounds_toArray, List.set_cons_zero, List.set_cons_succ]))
      (refine held_take (i := 14) (oi := ?ot330) (v := ?vt330) ?at330 (by kernel_rfl) (by kernel_rfl) (by kernel_rfl) ?bt330 ?ct330 ?dt330 (by assumption) ?rt330; (case at330 => (simp only [List.getElem?_toArray, List.getElem?_cons_zero, List.getElem?_cons_succ]; rfl)); (case bt330 => exact fun _ _ _ h => h); (case ct330 => kernel_rfl); (case dt330 => (intro W hW; (try dsimp only at hW); go_split_ands; go_simp; (try with_reducible rfl))); (case' rt330 => simp only [Act.put, List.setIfInBounds_toArray, List.set_cons_zero, List.set_cons_succ]))
      refine wpAnyH_done (by kernel_rfl) ?_ _
      go_wp2
      go_ret
      exact ⟨rfl, hS12.1⟩
    · have h1' : has (c, d) a = false := by simpa using h1
      clear h1
      rw [h1', Bool.false_and]
      go_enter Try.func51, Try.ntmps51
      go_wp2
      refine wp_region_held_drew (S := fun W => Below w.heap.size w W ∧ W.cell? ⟨w.heap.size, 0, none⟩ = some (.int .u64 (a : Int)) ∧ W.cell? ⟨w.heap.size, 1, none⟩ = some (.int .u64 (b : Int)) ∧ W.cell? ⟨w.heap.size + 1, 0, none⟩ = some (.int .u64 (c : Int)) ∧ W.cell? ⟨w.heap.size + 1, 1, none⟩ = some (.int .u64 (d : Int))) (by kernel_rfl) (keep4_start w a b c d _ rfl) (fun hS => ?_)
      (refine held_take (i := 0) (oi := ?ot331) (v := ?vt331) ?at331 (by kernel_rfl) (by kernel_rfl) (by kernel_rfl) ?bt331 ?ct331 ?dt331 (by assumption) ?rt331; (case at331 => (simp only [List.getElem?_toArray, List.getElem?_cons_zero]; rfl)); (case bt331 => exact fun _ _ _ h => h); (case ct331 => kernel_rfl); (case dt331 => (intro W hW; (try dsimp only at hW); go_split_ands; go_simp; (try with_reducible rfl))); (case' rt331 => simp only [Act.put, List.setIfInBounds_toArray, List.set_cons_zero, List.set_cons_succ]))
      refine held_one (i := 1) (oi := ?ot332) (by kernel_rfl) ?at332 ?ct332 (fun K1 hK1 => ?_)
      (case at332 => (simp only [List.getElem?_toArray, List.getElem?_cons_zero, List.getElem?_cons_succ]; rfl))
      (case ct332 => kernel_rfl)
      go_simp
      refine (good_bel a b Hx.out _).mono ?_
      rintro e w1 ⟨rfl, hd⟩
      refine hK1 _ _ (keep4 hd hS) (fun hS1 => ?_)
      clear hS hd hK1 K1
      (refine held_take (i := 2) (oi := ?ot333) (v := ?vt333) ?at333 (by kernel_rfl) (by kernel_rfl) (by kernel_rfl) ?bt333 ?ct333 ?dt333 (by assumption) ?rt333; (case at333 => (simp only [List.getElem?_toArray, List.getElem?_cons_zero, List.getElem?_cons_succ]; rfl)); (case bt333 => exact fun _ _ _ h => h); (case ct333 => kernel_rfl); (case dt333 => (intro W hW; (try dsimp only at hW); go_split_ands; go_simp; (try with_reducible rfl))); (case' rt333 => simp only [Act.put, List.setIfInBounds_toArray, List.set_cons_zero, List.set_cons_succ]))
      (refine held_take (i := 3) (oi := ?ot334) (v := ?vt334) ?at334 (by kernel_rfl) (by kernel_rfl) (by kernel_rfl) ?bt334 ?ct334 ?dt334 (by assumption) ?rt334; (case at334 => (simp only [List.getElem?_toArray, List.getElem?_cons_zero, List.getElem?_cons_succ]; rfl)); (case bt334 => exact fun _ _ _ h => h); (case ct334 => kernel_rfl); (case dt334 => (intro W hW; (try dsimp only at hW); go_split_ands; go_simp; (try with_reducible rfl))); (case' rt334 => simp only [Act.put, List.setIfInBounds_toArray, List.set_cons_zero, List.set_cons_succ]))
      (refine held_take (i := 4) (oi := ?ot335) (v := ?vt335) ?at335 (by kernel_rfl) (by kernel_rfl) (by kernel_rfl) ?bt335 ?ct335 ?dt335 (by assumption) ?rt335; (case at335 => (simp only [List.getElem?_toArray, List.getElem?_cons_zero, List.getElem?_cons_succ]; rfl)); (case bt335 => exact fun _ _ _ h => h); (case ct335 => kernel_rfl); (case dt335 => (intro W hW; (try dsimp only at hW); go_split_ands; go_simp; (try with_reducible rfl))); (case' rt335 => simp only [Act.put, List.setIfInBounds_toArray, List.set_cons_zero, List.set_cons_succ]))
      (refine held_take (i := 5) (oi := ?ot336) (v := ?vt336) ?at336 (by kernel_rfl) (by kernel_rfl) (by kernel_rfl) ?bt336 ?ct336 ?dt336 (by assumption) ?rt336; (case at336 => (simp only [List.getElem?_toArray, List.getElem?_cons_zero, List.getElem?_cons_succ]; rfl)); (case bt336 => exact fun _ _ _ h => h); (case ct336 => kernel_rfl); (case dt336 => (intro W hW; (try dsimp only at hW); go_split_ands; go_simp; (try with_reducible rfl))); (case' rt336 => simp only [Act.put, List.setIfInBounds_toArray, List.set_cons_zero, List.set_cons_succ]))
      refine held_one (i := 6) (oi := ?ot337) (by kernel_rfl) ?at337 ?ct337 (fun K6 hK6 => ?_)
      (case at337 => (simp only [List.getElem?_toArray, List.getElem?_cons_zero, List.getElem?_cons_succ]; rfl))
      (case ct337 => kernel_rfl)
      go_simp
      refine (has_bel c d a Hy.out _).mono ?_
      rintro e w1 ⟨rfl, hd⟩
      refine hK6 _ _ (keep4 hd hS1) (fun hS6 => ?_)
      clear hS1 hd hK6 K6
      (refine held_take (i := 7) (oi := ?ot338) (v := ?vt338) ?at338 (by kernel_rfl) (by kernel_rfl) (by kernel_rfl) ?bt338 ?ct338 ?dt338 (by assumption) ?rt338; (case at338 => (simp only [List.getElem?_toArray, List.getElem?_cons_zero, List.getElem?_cons_succ]; rfl)); (case bt338 => exact fun _ _ _ h => h); (case ct338 => kernel_rfl); (case dt338 => (intro W hW; (try dsimp only at hW); go_split_ands; go_simp; (try with_reducible rfl))); (case' rt338 => simp only [Act.put, List.setIfInBounds_toArray, List.set_cons_zero, List.set_cons_succ]))
      (refine held_take (i := 8) (oi := ?ot339) (v := ?vt339) ?at339 (by kernel_rfl) (by kernel_rfl) (by kernel_rfl) ?bt339 ?ct339 ?dt339 (by assumption) ?rt339; (case at339 => (simp only [List.getElem?_toArray, List.getElem?_cons_zero, List.getElem?_cons_succ]; rfl)); (case bt339 => exact fun _ _ _ h => h); (case ct339 => kernel_rfl); (case dt339 => (intro W hW; (try dsimp only at hW); go_split_ands; go_simp; (try with_reducible rfl))); (case' rt339 => simp only [Act.put, List.setIfInBounds_toArray, List.set_cons_zero, List.set_cons_succ]))
      (refine held_skip (i := 9) (oi := ?ot340) ?at340 (by kernel_rfl) (by kernel_rfl) (by kernel_rfl) ?bt340 ?ct340 (by assumption) ?rt340; (case at340 => (simp only [List.getElem?_toArray, List.getElem?_cons_zero, List.getElem?_cons_succ]; rfl)); (case bt340 => exact fun _ _ _ h => h); (case ct340 => kernel_rfl); (case' rt340 => simp only [Act.put, List.setIfInBounds_toArray, List.set_cons_zero, List.set_cons_succ]))
      (refine held_skip (i := 10) (oi := ?ot341) ?at341 (by kernel_rfl) (by kernel_rfl) (by kernel_rfl) ?bt341 ?ct341 (by assumption) ?rt341; (case at341 => (simp only [List.getElem?_toArray, List.getElem?_cons_zero, List.getElem?_cons_succ]; rfl)); (case bt341 => exact fun _ _ _ h => h); (case ct341 => kernel_rfl); (case' rt341 => simp only [Act.put, List.setIfInBounds_toArray, List.set_cons_zero, List.set_cons_succ]))
      (refine held_skip (i := 11) (oi := ?ot342) ?at342 (by kernel_rfl) (by kernel_rfl) (by kernel_rfl) ?bt342 ?ct342 (by assumption) ?rt342; (case at342 => (simp only [List.getElem?_toArray, List.getElem?_cons_zero, List.getElem?_cons_succ]; rfl)); (case bt342 => exact fun _ _ _ h => h); (case ct342 => kernel_rfl); (case' rt342 => simp only [Act.put, List.setIfInBounds_toArray, List.set_cons_zero, List.set_cons_succ]))
      (refine held_skip (i := 12) (oi := ?ot343) ?at343 (by kernel_rfl) (by kernel_rfl) (by kernel_rfl) ?bt343 ?ct343 (by assumption) ?rt343; (case at343 => (simp only [List.getElem?_toArray, List.getElem?_cons_zero, List.getElem?_cons_succ]; rfl)); (case bt343 => exact fun _ _ _ h => h); (case ct343 => kernel_rfl); (case' rt343 => simp only [Act.put, List.setIfInBounds_toArray, List.set_cons_zero, List.set_cons_succ]))
      (refine held_take (i := 13) (oi := ?ot344) (v := ?vt344) ?at344 (by kernel_rfl) (by kernel_rfl) (by kernel_rfl) ?bt344 ?ct344 ?dt344 (by assumption) ?rt344; (case at344 => (simp only [List.getElem?_toArray, List.getElem?_cons_zero, List.getElem?_cons_succ]; rfl)); (case bt344 => exact fun _ _ _ h => h); (case ct344 => kernel_rfl); (case dt344 => (intro W hW; (try dsimp only at hW); go_split_ands; go_simp; (try with_reducible rfl))); (case' rt344 => simp only [Act.put, List.setIfInBounds_toArray, List.set_cons_zero, List.set_cons_succ]))
      (refine held_take (i := 14) (oi := ?ot345) (v := ?vt345) ?at345 (by kernel_rfl) (by kernel_rfl) (by kernel_rfl) ?bt345 ?ct345 ?dt345 (by assumption) ?rt345; (case at345 => (simp only [List.getElem?_toArray, List.getElem?_cons_zero, List.getElem?_cons_succ]; rfl)); (case bt345 => exact fun _ _ _ h => h); (case ct345 => kernel_rfl); (case dt345 => (intro W hW; (try dsimp only at hW); go_split_ands; go_simp; (try with_reducible rfl))); (case' rt345 => simp only [Act.put, List.setIfInBounds_toArray, List.set_cons_zero, List.set_cons_succ]))
      refine wpAnyH_done (by kernel_rfl) ?_ _
      go_wp2
      go_ret
      exact ⟨rfl, hS6.1⟩
  · have h' : good (a, b) = false := by simpa using h
    clear h
    rw [show within (a, b) (c, d) = false from by simp [within, h']]
    go_enter Try.func51, Try.ntmps51
    go_wp2
    refine wp_region_held_drew (S := fun W => Below w.heap.size w W ∧ W.cell? ⟨w.heap.size, 0, none⟩ = some (.int .u64 (a : Int)) ∧ W.cell? ⟨w.heap.size, 1, none⟩ = some (.int .u64 (b : Int)) ∧ W.cell? ⟨w.heap.size + 1, 0, none⟩ = some (.int .u64 (c : Int)) ∧ W.cell? ⟨w.heap.size + 1, 1, none⟩ = some (.int .u64 (d : Int))) (by kernel_rfl) (keep4_start w a b c d _ rfl) (fun hS => ?_)
    (refine held_take (i := 0) (oi := ?ot346) (v := ?vt346) ?at346 (by kernel_rfl) (by kernel_rfl) (by kernel_rfl) ?bt346 ?ct346 ?dt346 (by assumption) ?rt346; (case at346 => (simp only [List.getElem?_toArray, List.getElem?_cons_zero]; rfl)); (case bt346 => exact fun _ _ _ h => h); (case ct346 => kernel_rfl); (case dt346 => (intro W hW; (try dsimp only at hW); go_split_ands; go_simp; (try with_reducible rfl))); (case' rt346 => simp only [Act.put, List.setIfInBounds_toArray, List.set_cons_zero, List.set_cons_succ]))
    refine held_one (i := 1) (oi := ?ot347) (by kernel_rfl) ?at347 ?ct347 (fun K1 hK1 => ?_)
    (case at347 => (simp only [List.getElem?_toArray, List.getElem?_cons_zero, List.getElem?_cons_succ]; rfl))
    (case ct347 => kernel_rfl)
    go_simp
    refine (good_bel a b Hx.out _).mono ?_
    rintro e w1 ⟨rfl, hd⟩
    refine hK1 _ _ (keep4 hd hS) (fun hS1 => ?_)
    clear hS hd hK1 K1
    (refine held_take (i := 2) (oi := ?ot348) (v := ?vt348) ?at348 (by kernel_rfl) (by kernel_rfl) (by kernel_rfl) ?bt348 ?ct348 ?dt348 (by assumption) ?rt348; (case at348 => (simp only [List.getElem?_toArray, List.getElem?_cons_zero, List.getElem?_cons_succ]; rfl)); (case bt348 => exact fun _ _ _ h => h); (case ct348 => kernel_rfl); (case dt348 => (intro W hW; (try dsimp only at hW); go_split_ands; go_simp; (try with_reducible rfl))); (case' rt348 => simp only [Act.put, List.setIfInBounds_toArray, List.set_cons_zero, List.set_cons_succ]))
    (refine held_skip (i := 3) (oi := ?ot349) ?at349 (by kernel_rfl) (by kernel_rfl) (by kernel_rfl) ?bt349 ?ct349 (by assumption) ?rt349; (case at349 => (simp only [List.getElem?_toArray, List.getElem?_cons_zero, List.getElem?_cons_succ]; rfl)); (case bt349 => exact fun _ _ _ h => h); (case ct349 => kernel_rfl); (case' rt349 => simp only [Act.put, List.setIfInBounds_toArray, List.set_cons_zero, List.set_cons_succ]))
    (refine held_skip (i := 4) (oi := ?ot350) ?at350 (by kernel_rfl) (by kernel_rfl) (by kernel_rfl) ?bt350 ?ct350 (by assumption) ?rt350; (case at350 => (simp only [List.getElem?_toArray, List.getElem?_cons_zero, List.getElem?_cons_succ]; rfl)); (case bt350 => exact fun _ _ _ h => h); (case ct350 => kernel_rfl); (case' rt350 => simp only [Act.put, List.setIfInBounds_toArray, List.set_cons_zero, List.set_cons_succ]))
    (refine held_skip (i := 5) (oi := ?ot351) ?at351 (by kernel_rfl) (by kernel_rfl) (by kernel_rfl) ?bt351 ?ct351 (by assumption) ?rt351; (case at351 => (simp only [List.getElem?_toArray, List.getElem?_cons_zero, List.getElem?_cons_succ]; rfl)); (case bt351 => exact fun _ _ _ h => h); (case ct351 => kernel_rfl); (case' rt351 => simp only [Act.put, List.setIfInBounds_toArray, List.set_cons_zero, List.set_cons_succ]))
    (refine held_skip (i := 6) (oi := ?ot352) ?at352 (by kernel_rfl) (by kernel_rfl) (by kernel_rfl) ?bt352 ?ct352 (by assumption) ?rt352; (case at352 => (simp only [List.getElem?_toArray, List.getElem?_cons_zero, List.getElem?_cons_succ]; rfl)); (case bt352 => exact fun _ _ _ h => h); (case ct352 => kernel_rfl); (case' rt352 => simp only [Act.put, List.setIfInBounds_toArray, List.set_cons_zero, List.set_cons_succ]))
    (refine held_take (i := 7) (oi := ?ot353) (v := ?vt353) ?at353 (by kernel_rfl) (by kernel_rfl) (by kernel_rfl) ?bt353 ?ct353 ?dt353 (by assumption) ?rt353; (case at353 => (simp only [List.getElem?_toArray, List.getElem?_cons_zero, List.getElem?_cons_succ]; rfl)); (case bt353 => exact fun _ _ _ h => h); (case ct353 => kernel_rfl); (case dt353 => (intro W hW; (try dsimp only at hW); go_split_ands; go_simp; (try with_reducible rfl))); (case' rt353 => simp only [Act.put, List.setIfInBounds_toArray, List.set_cons_zero, List.set_cons_succ]))
    (refine held_take (i := 8) (oi := ?ot354) (v := ?vt354) ?at354 (by kernel_rfl) (by kernel_rfl) (by kernel_rfl) ?bt354 ?ct354 ?dt354 (by assumption) ?rt354; (case at354 => (simp only [List.getElem?_toArray, List.getElem?_cons_zero, List.getElem?_cons_succ]; rfl)); (case bt354 => exact fun _ _ _ h => h); (case ct354 => kernel_rfl); (case dt354 => (intro W hW; (try dsimp only at hW); go_split_ands; go_simp; (try with_reducible rfl))); (case' rt354 => simp only [Act.put, List.setIfInBounds_toArray, List.set_cons_zero, List.set_cons_succ]))
    (refine held_skip (i := 9) (oi := ?ot355) ?at355 (by kernel_rfl) (by kernel_rfl) (by kernel_rfl) ?bt355 ?ct355 (by assumption) ?rt355; (case at355 => (simp only [List.getElem?_toArray, List.getElem?_cons_zero, List.getElem?_cons_succ]; rfl)); (case bt355 => exact fun _ _ _ h => h); (case ct355 => kernel_rfl); (case' rt355 => simp only [Act.put, List.setIfInBounds_toArray, List.set_cons_zero, List.set_cons_succ]))
    (refine held_skip (i := 10) (oi := ?ot356) ?at356 (by kernel_rfl) (by kernel_rfl) (by kernel_rfl) ?bt356 ?ct356 (by assumption) ?rt356; (case at356 => (simp only [List.getElem?_toArray, List.getElem?_cons_zero, List.getElem?_cons_succ]; rfl)); (case bt356 => exact fun _ _ _ h => h); (case ct356 => kernel_rfl); (case' rt356 => simp only [Act.put, List.setIfInBounds_toArray, List.set_cons_zero, List.set_cons_succ]))
    (refine held_skip (i := 11) (oi := ?ot357) ?at357 (by kernel_rfl) (by kernel_rfl) (by kernel_rfl) ?bt357 ?ct357 (by assumption) ?rt357; (case at357 => (simp only [List.getElem?_toArray, List.getElem?_cons_zero, List.getElem?_cons_succ]; rfl)); (case bt357 => exact fun _ _ _ h => h); (case ct357 => kernel_rfl); (case' rt357 => simp only [Act.put, List.setIfInBounds_toArray, List.set_cons_zero, List.set_cons_succ]))
    (refine held_skip (i := 12) (oi := ?ot358) ?at358 (by kernel_rfl) (by kernel_rfl) (by kernel_rfl) ?bt358 ?ct358 (by assumption) ?rt358; (case at358 => (simp only [List.getElem?_toArray, List.getElem?_cons_zero, List.getElem?_cons_succ]; rfl)); (case bt358 => exact fun _ _ _ h => h); (case ct358 => kernel_rfl); (case' rt358 => simp only [Act.put, List.setIfInBounds_toArray, List.set_cons_zero, List.set_cons_succ]))
    (refine held_take (i := 13) (oi := ?ot359) (v := ?vt359) ?at359 (by kernel_rfl) (by kernel_rfl) (by kernel_rfl) ?bt359 ?ct359 ?dt359 (by assumption) ?rt359; (case at359 => (simp only [List.getElem?_toArray, List.getElem?_cons_zero, List.getElem?_cons_succ]; rfl)); (case bt359 => exact fun _ _ _ h => h); (case ct359 => kernel_rfl); (case dt359 => (intro W hW; (try dsimp only at hW); go_split_ands; go_simp; (try with_reducible rfl))); (case' rt359 => simp only [Act.put, List.setIfInBounds_toArray, List.set_cons_zero, List.set_cons_succ]))
    (refine held_take (i := 14) (oi := ?ot360) (v := ?vt360) ?at360 (by kernel_rfl) (by kernel_rfl) (by kernel_rfl) ?bt360 ?ct360 ?dt360 (by assumption) ?rt360; (case at360 => (simp only [List.getElem?_toArray, List.getElem?_cons_zero, List.getElem?_cons_succ]; rfl)); (case bt360 => exact fun _ _ _ h => h); (case ct360 => kernel_rfl); (case dt360 => (intro W hW; (try dsimp only at hW); go_split_ands; go_simp; (try with_reducible rfl))); (case' rt360 => simp only [Act.put, List.setIfInBounds_toArray, List.set_cons_zero, List.set_cons_succ]))
    refine wpAnyH_done (by kernel_rfl) ?_ _
    go_wp2
    go_ret
    exact ⟨rfl, hS1.1⟩
end Go.Proofs.Ytmhhckpdhjnmeaa
