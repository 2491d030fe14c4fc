/- The walk of SpanTells. -/
import Derived.Test.YthedpjlafapfeaaMutual
import Derived.Test.YthedpjlafapfeaaPages
namespace Go.Proofs.Ythedpjlafapfeaa
open Go.RowKit

theorem keep4_row {w W : World} {p q r s : Addr} {x y z u : Value}
    (h : Below w.heap.size w W ∧ W.cell? p = some x ∧ W.cell? q = some y ∧ W.cell? r = some z ∧ W.cell? s = some u) (o : Obj) :
    Below w.heap.size w (W.alloc o) ∧ (W.alloc o).cell? p = some x ∧ (W.alloc o).cell? q = some y ∧ (W.alloc o).cell? r = some z ∧ (W.alloc o).cell? s = some u :=
  keep4 ((Below.refl _ W).alloc (Nat.le_refl _) o) h
theorem pages_lit (a b c d n : Nat) (hx : fit (a, b)) (hy : fit (c, d)) (w : World) :
    Calls Try.prog 20 #[.slice (some ⟨w.heap.size, 0, none⟩) 2 n] (w.alloc (.cells #[.int .u64 (a : Int), .int .u64 (b : Int), .int .u64 (c : Int), .int .u64 (d : Int)] 24)) fun e w' => e = .returned (.bool (paged (a, b) && paged (c, d))) ∧ Below (w.alloc (.cells #[.int .u64 (a : Int), .int .u64 (b : Int), .int .u64 (c : Int), .int .u64 (d : Int)] 24)).heap.size (w.alloc (.cells #[.int .u64 (a : Int), .int .u64 (b : Int), .int .u64 (c : Int), .int .u64 (d : Int)] 24)) w' := by
  have h := pages_any (some ⟨w.heap.size, 0, none⟩) n [(a, b), (c, d)] (by simp) (fun x hx' => by
    simp only [List.mem_cons, List.not_mem_nil, or_false] at hx'
    rcases hx' with rfl | rfl
    · exact hx
    · exact hy) (w.alloc (.cells #[.int .u64 (a : Int), .int .u64 (b : Int), .int .u64 (c : Int), .int .u64 (d : Int)] 24)) (by
    have := row_lit2 w a b c d
    exact this.wide (by simp))
  simpa only [List.all_cons, List.all_nil, Bool.and_true, List.length_cons, List.length_nil] using h
set_option maxHeartbeats 2000000 in
theorem tells_any (a b c d p : Nat) (w : World) (hx : fit (a, b)) (hy : fit (c, d)) (hp : p < 18446744073709551616) :
    Calls Try.prog 3 #[.agg #[.int .u64 (a : Int), .int .u64 (b : Int)], .agg #[.int .u64 (c : Int), .int .u64 (d : Int)], .int .u64 (p : Int)] w (fun e w' => e = .returned (.bool true) ∧ Below w.heap.size w w') := by
  obtain ⟨q, hq⟩ : ∃ q : Int, q = (p : Int) := ⟨_, rfl⟩
  obtain ⟨g, hg⟩ : ∃ g, g = good (a, b) := ⟨_, rfl⟩
  obtain ⟨l, hl⟩ : ∃ l : Int, l = (last (a, b) : Nat) := ⟨_, rfl⟩
  obtain ⟨h, hh⟩ : ∃ h, h = has (a, b) p := ⟨_, rfl⟩
  obtain ⟨i, hi⟩ : ∃ i, i = within (a, b) (c, d) := ⟨_, rfl⟩
  obtain ⟨o, ho⟩ : ∃ o, o = overlap (a, b) (c, d) := ⟨_, rfl⟩
  obtain ⟨t, ht⟩ : ∃ t, t = paged (c, d) := ⟨_, rfl⟩
  have C1 := Lib.hid (show ∀ w, Calls Try.prog 10 #[.agg #[.int .u64 (a : Int), .int .u64 (b : Int)]] w (fun e w' => e = .returned (.bool g) ∧ Below w.heap.size w w') from by rw [hg]; exact good_bel a b hx)
  have C3 := Lib.hid (show ∀ w, Calls Try.prog 11 #[.agg #[.int .u64 (a : Int), .int .u64 (b : Int)]] w (fun e w' => e = .returned (.bool g) ∧ Below w.heap.size w w') from by rw [hg]; exact rgood_bel a b hx)
  have C7 := Lib.hid (show ∀ w, Calls Try.prog 12 #[.agg #[.int .u64 (a : Int), .int .u64 (b : Int)]] w (fun e w' => e = .returned (.int .u64 l) ∧ Below w.heap.size w w') from by rw [hl]; exact last_bel a b hx)
  have C9 := Lib.hid (show ∀ w, Calls Try.prog 13 #[.agg #[.int .u64 (a : Int), .int .u64 (b : Int)]] w (fun e w' => e = .returned (.int .u64 l) ∧ Below w.heap.size w w') from by rw [hl]; exact rlast_bel a b hx)
  have C15 := Lib.hid (show ∀ w, Calls Try.prog 14 #[.agg #[.int .u64 (a : Int), .int .u64 (b : Int)], .int .u64 q] w (fun e w' => e = .returned (.bool h) ∧ Below w.heap.size w w') from by rw [hq, hh]; exact has_any a b p hx)
  have C18 := Lib.hid (show ∀ w, Calls Try.prog 15 #[.agg #[.int .u64 (a : Int), .int .u64 (b : Int)], .int .u64 q] w (fun e w' => e = .returned (.bool h) ∧ Below w.heap.size w w') from by rw [hq, hh]; exact rhas_any a b p hx hp)
  have C24 := Lib.hid (show ∀ w, Calls Try.prog 16 #[.agg #[.int .u64 (a : Int), .int .u64 (b : Int)], .agg #[.int .u64 (c : Int), .int .u64 (d : Int)]] w (fun e w' => e = .returned (.bool i) ∧ Below w.heap.size w w') from by rw [hi]; exact within_any a b c d hx hy)
  have C27 := Lib.hid (show ∀ w, Calls Try.prog 17 #[.agg #[.int .u64 (a : Int), .int .u64 (b : Int)], .agg #[.int .u64 (c : Int), .int .u64 (d : Int)]] w (fun e w' => e = .returned (.bool i) ∧ Below w.heap.size w w') from by rw [hi]; exact rwithin_any a b c d hx hy)
  have C33 := Lib.hid (show ∀ w, Calls Try.prog 18 #[.agg #[.int .u64 (a : Int), .int .u64 (b : Int)], .agg #[.int .u64 (c : Int), .int .u64 (d : Int)]] w (fun e w' => e = .returned (.bool o) ∧ Below w.heap.size w w') from by rw [ho]; exact overlap_any a b c d hx hy)
  have C36 := Lib.hid (show ∀ w, Calls Try.prog 19 #[.agg #[.int .u64 (a : Int), .int .u64 (b : Int)], .agg #[.int .u64 (c : Int), .int .u64 (d : Int)]] w (fun e w' => e = .returned (.bool o) ∧ Below w.heap.size w w') from by rw [ho]; exact roverlap_any a b c d hx hy)
  have C48 := Lib.hid (show ∀ w, Calls Try.prog 21 #[.agg #[.int .u64 (c : Int), .int .u64 (d : Int)]] w (fun e w' => e = .returned (.bool t) ∧ Below w.heap.size w w') from by rw [ht]; exact rpages_any c d hy)
  rw [← hq]
  by_cases hs : paged (a, b) = true
  · have C45 := Lib.hid (show ∀ w, Calls Try.prog 21 #[.agg #[.int .u64 (a : Int), .int .u64 (b : Int)]] w (fun e w' => e = .returned (.bool true) ∧ Below w.heap.size w w') from by rw [← hs]; exact rpages_any a b hx)
    have C43 := Lib.hid (show ∀ (w : World) (n : Nat), Calls Try.prog 20 #[.slice (some ⟨w.heap.size, 0, none⟩) 2 n] (w.alloc (.cells #[.int .u64 (a : Int), .int .u64 (b : Int), .int .u64 (c : Int), .int .u64 (d : Int)] 24)) fun e w' => e = .returned (.bool t) ∧ Below (w.alloc (.cells #[.int .u64 (a : Int), .int .u64 (b : Int), .int .u64 (c : Int), .int .u64 (d : Int)] 24)).heap.size (w.alloc (.cells #[.int .u64 (a : Int), .int .u64 (b : Int), .int .u64 (c : Int), .int .u64 (d : Int)] 24)) w' from fun w n => by
      have := pages_lit a b c d n hx hy w
      rw [hs, Bool.true_and, ← ht] at this
      exact this)
    clear hg hl hh hi ho ht hs hx hy hp hq
    go_enter Try.func3, Try.ntmps3
    go_wp2_with (go_at_call 9; refine (awake_any _).mono ?_; rintro e w1 ⟨rfl, hd⟩; have H1 := Lib.hid hd; clear hd)
    refine wp_region_held_drew (S := fun W => Below w.heap.size w W ∧ W.cell? ⟨w.heap.size, 0, none⟩ = some (.int .u64 (a : Int)) ∧ W.cell? ⟨w.heap.size, 1, none⟩ = some (.int .u64 (b : Int)) ∧ W.cell? ⟨w.heap.size + 1, 0, none⟩ = some (.int .u64 (c : Int)) ∧ W.cell? ⟨w.heap.size + 1, 1, none⟩ = some (.int .u64 (d : Int))) (by kernel_rfl) (keep4_after w a b c d H1.out) (fun hS => ?_)
    (refine held_take (i := 0) (oi := ?ot55) (v := ?vt55) ?at55 (by kernel_rfl) (by kernel_rfl) (by kernel_rfl) ?bt55 ?ct55 ?dt55 (by assumption) ?rt55; (case at55 => (simp only [List.getElem?_toArray, List.getElem?_cons_zero]; rfl)); (case bt55 => exact fun _ _ _ h => h); (case ct55 => kernel_rfl); (case dt55 => (intro W hW; (try dsimp only at hW); go_split_ands; go_simp; (try with_reducible rfl))); (case' rt55 => simp only [Act.put, List.setIfInBounds_toArray, List.set_cons_zero, List.set_cons_succ]))
    (refine held_take (i := 2) (oi := ?ot56) (v := ?vt56) ?at56 (by kernel_rfl) (by kernel_rfl) (by kernel_rfl) ?bt56 ?ct56 ?dt56 (by assumption) ?rt56; (case at56 => (simp only [List.getElem?_toArray, List.getElem?_cons_zero, List.getElem?_cons_succ]; rfl)); (case bt56 => exact fun _ _ _ h => h); (case ct56 => kernel_rfl); (case dt56 => (intro W hW; (try dsimp only at hW); go_split_ands; go_simp; (try with_reducible rfl))); (case' rt56 => simp only [Act.put, List.setIfInBounds_toArray, List.set_cons_zero, List.set_cons_succ]))
    refine held_one (i := 1) (oi := ?ot57) (by kernel_rfl) ?at57 ?ct57 (fun K1 hK1 => ?_)
    (case at57 => (simp only [List.getElem?_toArray, List.getElem?_cons_zero, List.getElem?_cons_succ]; rfl))
    (case ct57 => kernel_rfl)
    go_simp
    refine (C1.out _).mono ?_
    rintro e w1 ⟨rfl, hd⟩
    refine hK1 _ _ (keep4 hd hS) (fun hS1 => ?_)
    clear hS hd hK1 K1
    refine held_one (i := 3) (oi := ?ot58) (by kernel_rfl) ?at58 ?ct58 (fun K3 hK3 => ?_)
    (case at58 => (simp only [List.getElem?_toArray, List.getElem?_cons_zero, List.getElem?_cons_succ]; rfl))
    (case ct58 => kernel_rfl)
    go_simp
    refine (C3.out _).mono ?_
    rintro e w1 ⟨rfl, hd⟩
    refine hK3 _ _ (keep4 hd hS1) (fun hS3 => ?_)
    clear hS1 hd hK3 K3
    (refine held_take (i := 4) (oi := ?ot59) (v := ?vt59) ?at59 (by kernel_rfl) (by kernel_rfl) (by kernel_rfl) ?bt59 ?ct59 ?dt59 (by assumption) ?rt59; (case at59 => (simp only [List.getElem?_toArray, List.getElem?_cons_zero, List.getElem?_cons_succ]; rfl)); (case bt59 => exact fun _ _ _ h => h); (case ct59 => kernel_rfl); (case dt59 => (intro W hW; (try dsimp only at hW); go_split_ands; go_simp; (try with_reducible rfl))); (case' rt59 => simp only [Act.put, List.setIfInBounds_toArray, List.set_cons_zero, List.set_cons_succ]))
    (refine held_take (i := 5) (oi := ?ot60) (v := ?vt60) ?at60 (by kernel_rfl) (by kernel_rfl) (by kernel_rfl) ?bt60 ?ct60 ?dt60 (by assumption) ?rt60; (case at60 => (simp only [List.getElem?_toArray, List.getElem?_cons_zero, List.getElem?_cons_succ]; rfl)); (case bt60 => exact fun _ _ _ h => h); (case ct60 => kernel_rfl); (case dt60 => (intro W hW; (try dsimp only at hW); go_split_ands; go_simp; (try with_reducible rfl))); (case' rt60 => simp only [Act.put, List.setIfInBounds_toArray, List.set_cons_zero, List.set_cons_succ]))
    (refine held_take (i := 6) (oi := ?ot61) (v := ?vt61) ?at61 (by kernel_rfl) (by kernel_rfl) (by kernel_rfl) ?bt61 ?ct61 ?dt61 (by assumption) ?rt61; (case at61 => (simp only [List.getElem?_toArray, List.getElem?_cons_zero, List.getElem?_cons_succ]; rfl)); (case bt61 => exact fun _ _ _ h => h); (case ct61 => kernel_rfl); (case dt61 => (intro W hW; (try dsimp only at hW); go_split_ands; go_simp; (try with_reducible rfl))); (case' rt61 => simp only [Act.put, List.setIfInBounds_toArray, List.set_cons_zero, List.set_cons_succ]))
    (refine held_take (i := 8) (oi := ?ot62) (v := ?vt62) ?at62 (by kernel_rfl) (by kernel_rfl) (by kernel_rfl) ?bt62 ?ct62 ?dt62 (by assumption) ?rt62; (case at62 => (simp only [List.getElem?_toArray, List.getElem?_cons_zero, List.getElem?_cons_succ]; rfl)); (case bt62 => exact fun _ _ _ h => h); (case ct62 => kernel_rfl); (case dt62 => (intro W hW; (try dsimp only at hW); go_split_ands; go_simp; (try with_reducible rfl))); (case' rt62 => simp only [Act.put, List.setIfInBounds_toArray, List.set_cons_zero, List.set_cons_succ]))
    refine held_one (i := 7) (oi := ?ot63) (by kernel_rfl) ?at63 ?ct63 (fun K7 hK7 => ?_)
    (case at63 => (simp only [List.getElem?_toArray, List.getElem?_cons_zero, List.getElem?_cons_succ]; rfl))
    (case ct63 => kernel_rfl)
    go_simp
    refine (C7.out _).mono ?_
    rintro e w1 ⟨rfl, hd⟩
    refine hK7 _ _ (keep4 hd hS3) (fun hS7 => ?_)
    clear hS3 hd hK7 K7
    refine held_one (i := 9) (oi := ?ot64) (by kernel_rfl) ?at64 ?ct64 (fun K9 hK9 => ?_)
    (case at64 => (simp only [List.getElem?_toArray, List.getElem?_cons_zero, List.getElem?_cons_succ]; rfl))
    (case ct64 => kernel_rfl)
    go_simp
    refine (C9.out _).mono ?_
    rintro e w1 ⟨rfl, hd⟩
    refine hK9 _ _ (keep4 hd hS7) (fun hS9 => ?_)
    clear hS7 hd hK9 K9
    (refine held_take (i := 10) (oi := ?ot65) (v := ?vt65) ?at65 (by kernel_rfl) (by kernel_rfl) (by kernel_rfl) ?bt65 ?ct65 ?dt65 (by assumption) ?rt65; (case at65 => (simp only [List.getElem?_toArray, List.getElem?_cons_zero, List.getElem?_cons_succ]; rfl)); (case bt65 => exact fun _ _ _ h => h); (case ct65 => kernel_rfl); (case dt65 => (intro W hW; (try dsimp only at hW); go_split_ands; go_simp; (try with_reducible rfl))); (case' rt65 => simp only [Act.put, List.setIfInBounds_toArray, List.set_cons_zero, List.set_cons_succ]))
    (refine held_take (i := 11) (oi := ?ot66) (v := ?vt66) ?at66 (by kernel_rfl) (by kernel_rfl) (by kernel_rfl) ?bt66 ?ct66 ?dt66 (by assumption) ?rt66; (case at66 => (simp only [List.getElem?_toArray, List.getElem?_cons_zero, List.getElem?_cons_succ]; rfl)); (case bt66 => exact fun _ _ _ h => h); (case ct66 => kernel_rfl); (case dt66 => (intro W hW; (try dsimp only at hW); go_split_ands; go_simp; (try with_reducible rfl))); (case' rt66 => simp only [Act.put, List.setIfInBounds_toArray, List.set_cons_zero, List.set_cons_succ]))
    (refine held_take (i := 12) (oi := ?ot67) (v := ?vt67) ?at67 (by kernel_rfl) (by kernel_rfl) (by kernel_rfl) ?bt67 ?ct67 ?dt67 (by assumption) ?rt67; (case at67 => (simp only [List.getElem?_toArray, List.getElem?_cons_zero, List.getElem?_cons_succ]; rfl)); (case bt67 => exact fun _ _ _ h => h); (case ct67 => kernel_rfl); (case dt67 => (intro W hW; (try dsimp only at hW); go_split_ands; go_simp; (try with_reducible rfl))); (case' rt67 => simp only [Act.put, List.setIfInBounds_toArray, List.set_cons_zero, List.set_cons_succ]))
    (refine held_take (i := 13) (oi := ?ot68) (v := ?vt68) ?at68 (by kernel_rfl) (by kernel_rfl) (by kernel_rfl) ?bt68 ?ct68 ?dt68 (by assumption) ?rt68; (case at68 => (simp only [List.getElem?_toArray, List.getElem?_cons_zero, List.getElem?_cons_succ]; rfl)); (case bt68 => exact fun _ _ _ h => h); (case ct68 => kernel_rfl); (case dt68 => (intro W hW; (try dsimp only at hW); go_split_ands; go_simp; (try with_reducible rfl))); (case' rt68 => simp only [Act.put, List.setIfInBounds_toArray, List.set_cons_zero, List.set_cons_succ]))
    (refine held_take (i := 14) (oi := ?ot69) (v := ?vt69) ?at69 (by kernel_rfl) (by kernel_rfl) (by kernel_rfl) ?bt69 ?ct69 ?dt69 (by assumption) ?rt69; (case at69 => (simp only [List.getElem?_toArray, List.getElem?_cons_zero, List.getElem?_cons_succ]; rfl)); (case bt69 => exact fun _ _ _ h => h); (case ct69 => kernel_rfl); (case dt69 => (intro W hW; (try dsimp only at hW); go_split_ands; go_simp; (try with_reducible rfl))); (case' rt69 => simp only [Act.put, List.setIfInBounds_toArray, List.set_cons_zero, List.set_cons_succ]))
    (refine held_take (i := 16) (oi := ?ot70) (v := ?vt70) ?at70 (by kernel_rfl) (by kernel_rfl) (by kernel_rfl) ?bt70 ?ct70 ?dt70 (by assumption) ?rt70; (case at70 => (simp only [List.getElem?_toArray, List.getElem?_cons_zero, List.getElem?_cons_succ]; rfl)); (case bt70 => exact fun _ _ _ h => h); (case ct70 => kernel_rfl); (case dt70 => (intro W hW; (try dsimp only at hW); go_split_ands; go_simp; (try with_reducible rfl))); (case' rt70 => simp only [Act.put, List.setIfInBounds_toArray, List.set_cons_zero, List.set_cons_succ]))
    (refine held_take (i := 17) (oi := ?ot71) (v := ?vt71) ?at71 (by kernel_rfl) (by kernel_rfl) (by kernel_rfl) ?bt71 ?ct71 ?dt71 (by assumption) ?rt71; (case at71 => (simp only [List.getElem?_toArray, List.getElem?_cons_zero, List.getElem?_cons_succ]; rfl)); (case bt71 => exact fun _ _ _ h => h); (case ct71 => kernel_rfl); (case dt71 => (intro W hW; (try dsimp only at hW); go_split_ands; go_simp; (try with_reducible rfl))); (case' rt71 => simp only [Act.put, List.setIfInBounds_toArray, List.set_cons_zero, List.set_cons_succ]))
    refine held_one (i := 15) (oi := ?ot72) (by kernel_rfl) ?at72 ?ct72 (fun K15 hK15 => ?_)
    (case at72 => (simp only [List.getElem?_toArray, List.getElem?_cons_zero, List.getElem?_cons_succ]; rfl))
    (case ct72 => kernel_rfl)
    go_simp
    refine (C15.out _).mono ?_
    rintro e w1 ⟨rfl, hd⟩
    refine hK15 _ _ (keep4 hd hS9) (fun hS15 => ?_)
    clear hS9 hd hK15 K15
    refine held_one (i := 18) (oi := ?ot73) (by kernel_rfl) ?at73 ?ct73 (fun K18 hK18 => ?_)
    (case at73 => (simp only [List.getElem?_toArray, List.getElem?_cons_zero, List.getElem?_cons_succ]; rfl))
    (case ct73 => kernel_rfl)
    go_simp
    refine (C18.out _).mono ?_
    rintro e w1 ⟨rfl, hd⟩
    refine hK18 _ _ (keep4 hd hS15) (fun hS18 => ?_)
    clear hS15 hd hK18 K18
    (refine held_take (i := 19) (oi := ?ot74) (v := ?vt74) ?at74 (by kernel_rfl) (by kernel_rfl) (by kernel_rfl) ?bt74 ?ct74 ?dt74 (by assumption) ?rt74; (case at74 => (simp only [List.getElem?_toArray, List.getElem?_cons_zero, List.getElem?_cons_succ]; rfl)); (case bt74 => exact fun _ _ _ h => h); (case ct74 => kernel_rfl); (case dt74 => (intro W hW; (try dsimp only at hW); go_split_ands; go_simp; (try with_reducible rfl))); (case' rt74 => simp only [Act.put, List.setIfInBounds_toArray, List.set_cons_zero, List.set_cons_succ]))
    (refine held_take (i := 20) (oi := ?ot75) (v := ?vt75) ?at75 (by kernel_rfl) (by kernel_rfl) (by kernel_rfl) ?bt75 ?ct75 ?dt75 (by assumption) ?rt75; (case at75 => (simp only [List.getElem?_toArray, List.getElem?_cons_zero, List.getElem?_cons_succ]; rfl)); (case bt75 => exact fun _ _ _ h => h); (case ct75 => kernel_rfl); (case dt75 => (intro W hW; (try dsimp only at hW); go_split_ands; go_simp; (try with_reducible rfl))); (case' rt75 => simp only [Act.put, List.setIfInBounds_toArray, List.set_cons_zero, List.set_cons_succ]))
    (refine held_take (i := 21) (oi := ?ot76) (v := ?vt76) ?at76 (by kernel_rfl) (by kernel_rfl) (by kernel_rfl) ?bt76 ?ct76 ?dt76 (by assumption) ?rt76; (case at76 => (simp only [List.getElem?_toArray, List.getElem?_cons_zero, List.getElem?_cons_succ]; rfl)); (case bt76 => exact fun _ _ _ h => h); (case ct76 => kernel_rfl); (case dt76 => (intro W hW; (try dsimp only at hW); go_split_ands; go_simp; (try with_reducible rfl))); (case' rt76 => simp only [Act.put, List.setIfInBounds_toArray, List.set_cons_zero, List.set_cons_succ]))
    (refine held_take (i := 22) (oi := ?ot77) (v := ?vt77) ?at77 (by kernel_rfl) (by kernel_rfl) (by kernel_rfl) ?bt77 ?ct77 ?dt77 (by assumption) ?rt77; (case at77 => (simp only [List.getElem?_toArray, List.getElem?_cons_zero, List.getElem?_cons_succ]; rfl)); (case bt77 => exact fun _ _ _ h => h); (case ct77 => kernel_rfl); (case dt77 => (intro W hW; (try dsimp only at hW); go_split_ands; go_simp; (try with_reducible rfl))); (case' rt77 => simp only [Act.put, List.setIfInBounds_toArray, List.set_cons_zero, List.set_cons_succ]))
    (refine held_take (i := 23) (oi := ?ot78) (v := ?vt78) ?at78 (by kernel_rfl) (by kernel_rfl) (by kernel_rfl) ?bt78 ?ct78 ?dt78 (by assumption) ?rt78; (case at78 => (simp only [List.getElem?_toArray, List.getElem?_cons_zero, List.getElem?_cons_succ]; rfl)); (case bt78 => exact fun _ _ _ h => h); (case ct78 => kernel_rfl); (case dt78 => (intro W hW; (try dsimp only at hW); go_split_ands; go_simp; (try with_reducible rfl))); (case' rt78 => simp only [Act.put, List.setIfInBounds_toArray, List.set_cons_zero, List.set_cons_succ]))
    (refine held_take (i := 25) (oi := ?ot79) (v := ?vt79) ?at79 (by kernel_rfl) (by kernel_rfl) (by kernel_rfl) ?bt79 ?ct79 ?dt79 (by assumption) ?rt79; (case at79 => (simp only [List.getElem?_toArray, List.getElem?_cons_zero, List.getElem?_cons_succ]; rfl)); (case bt79 => exact fun _ _ _ h => h); (case ct79 => kernel_rfl); (case dt79 => (intro W hW; (try dsimp only at hW); go_split_ands; go_simp; (try with_reducible rfl))); (case' rt79 => simp only [Act.put, List.setIfInBounds_toArray, List.set_cons_zero, List.set_cons_succ]))
    (refine held_take (i := 26) (oi := ?ot80) (v := ?vt80) ?at80 (by kernel_rfl) (by kernel_rfl) (by kernel_rfl) ?bt80 ?ct80 ?dt80 (by assumption) ?rt80; (case at80 => (simp only [List.getElem?_toArray, List.getElem?_cons_zero, List.getElem?_cons_succ]; rfl)); (case bt80 => exact fun _ _ _ h => h); (case ct80 => kernel_rfl); (case dt80 => (intro W hW; (try dsimp only at hW); go_split_ands; go_simp; (try with_reducible rfl))); (case' rt80 => simp only [Act.put, List.setIfInBounds_toArray, List.set_cons_zero, List.set_cons_succ]))
    refine held_one (i := 24) (oi := ?ot81) (by kernel_rfl) ?at81 ?ct81 (fun K24 hK24 => ?_)
    (case at81 => (simp only [List.getElem?_toArray, List.getElem?_cons_zero, List.getElem?_cons_succ]; rfl))
    (case ct81 => kernel_rfl)
    go_simp
    refine (C24.out _).mono ?_
    rintro e w1 ⟨rfl, hd⟩
    refine hK24 _ _ (keep4 hd hS18) (fun hS24 => ?_)
    clear hS18 hd hK24 K24
    refine held_one (i := 27) (oi := ?ot82) (by kernel_rfl) ?at82 ?ct82 (fun K27 hK27 => ?_)
    (case at82 => (simp only [List.getElem?_toArray, List.getElem?_cons_zero, List.getElem?_cons_succ]; rfl))
    (case ct82 => kernel_rfl)
    go_simp
    refine (C27.out _).mono ?_
    rintro e w1 ⟨rfl, hd⟩
    refine hK27 _ _ (keep4 hd hS24) (fun hS27 => ?_)
    clear hS24 hd hK27 K27
    (refine held_take (i := 28) (oi := ?ot83) (v := ?vt83) ?at83 (by kernel_rfl) (by kernel_rfl) (by kernel_rfl) ?bt83 ?ct83 ?dt83 (by assumption) ?rt83; (case at83 => (simp only [List.getElem?_toArray, List.getElem?_cons_zero, List.getElem?_cons_succ]; rfl)); (case bt83 => exact fun _ _ _ h => h); (case ct83 => kernel_rfl); (case dt83 => (intro W hW; (try dsimp only at hW); go_split_ands; go_simp; (try with_reducible rfl))); (case' rt83 => simp only [Act.put, List.setIfInBounds_toArray, List.set_cons_zero, List.set_cons_succ]))
    (refine held_take (i := 29) (oi := ?ot84) (v := ?vt84) ?at84 (by kernel_rfl) (by kernel_rfl) (by kernel_rfl) ?bt84 ?ct84 ?dt84 (by assumption) ?rt84; (case at84 => (simp only [List.getElem?_toArray, List.getElem?_cons_zero, List.getElem?_cons_succ]; rfl)); (case bt84 => exact fun _ _ _ h => h); (case ct84 => kernel_rfl); (case dt84 => (intro W hW; (try dsimp only at hW); go_split_ands; go_simp; (try with_reducible rfl))); (case' rt84 => simp only [Act.put, List.setIfInBounds_toArray, List.set_cons_zero, List.set_cons_succ]))
    (refine held_take (i := 30) (oi := ?ot85) (v := ?vt85) ?at85 (by kernel_rfl) (by kernel_rfl) (by kernel_rfl) ?bt85 ?ct85 ?dt85 (by assumption) ?rt85; (case at85 => (simp only [List.getElem?_toArray, List.getElem?_cons_zero, List.getElem?_cons_succ]; rfl)); (case bt85 => exact fun _ _ _ h => h); (case ct85 => kernel_rfl); (case dt85 => (intro W hW; (try dsimp only at hW); go_split_ands; go_simp; (try with_reducible rfl))); (case' rt85 => simp only [Act.put, List.setIfInBounds_toArray, List.set_cons_zero, List.set_cons_succ]))
    (refine held_take (i := 31) (oi := ?ot86) (v := ?vt86) ?at86 (by kernel_rfl) (by kernel_rfl) (by kernel_rfl) ?bt86 ?ct86 ?dt86 (by assumption) ?rt86; (case at86 => (simp only [List.getElem?_toArray, List.getElem?_cons_zero, List.getElem?_cons_succ]; rfl)); (case bt86 => exact fun _ _ _ h => h); (case ct86 => kernel_rfl); (case dt86 => (intro W hW; (try dsimp only at hW); go_split_ands; go_simp; (try with_reducible rfl))); (case' rt86 => simp only [Act.put, List.setIfInBounds_toArray, List.set_cons_zero, List.set_cons_succ]))
    (refine held_take (i := 32) (oi := ?ot87) (v := ?vt87) ?at87 (by kernel_rfl) (by kernel_rfl) (by kernel_rfl) ?bt87 ?ct87 ?dt87 (by assumption) ?rt87; (case at87 => (simp only [List.getElem?_toArray, List.getElem?_cons_zero, List.getElem?_cons_succ]; rfl)); (case bt87 => exact fun _ _ _ h => h); (case ct87 => kernel_rfl); (case dt87 => (intro W hW; (try dsimp only at hW); go_split_ands; go_simp; (try with_reducible rfl))); (case' rt87 => simp only [Act.put, List.setIfInBounds_toArray, List.set_cons_zero, List.set_cons_succ]))
    (refine held_take (i := 34) (oi := ?ot88) (v := ?vt88) ?at88 (by kernel_rfl) (by kernel_rfl) (by kernel_rfl) ?bt88 ?ct88 ?dt88 (by assumption) ?rt88; (case at88 => (simp only [List.getElem?_toArray, List.getElem?_cons_zero, List.getElem?_cons_succ]; rfl)); (case bt88 => exact fun _ _ _ h => h); (case ct88 => kernel_rfl); (case dt88 => (intro W hW; (try dsimp only at hW); go_split_ands; go_simp; (try with_reducible rfl))); (case' rt88 => simp only [Act.put, List.setIfInBounds_toArray, List.set_cons_zero, List.set_cons_succ]))
    (refine held_take (i := 35) (oi := ?ot89) (v := ?vt89) ?at89 (by kernel_rfl) (by kernel_rfl) (by kernel_rfl) ?bt89 ?ct89 ?dt89 (by assumption) ?rt89; (case at89 => (simp only [List.getElem?_toArray, List.getElem?_cons_zero, List.getElem?_cons_succ]; rfl)); (case bt89 => exact fun _ _ _ h => h); (case ct89 => kernel_rfl); (case dt89 => (intro W hW; (try dsimp only at hW); go_split_ands; go_simp; (try with_reducible rfl))); (case' rt89 => simp only [Act.put, List.setIfInBounds_toArray, List.set_cons_zero, List.set_cons_succ]))
    refine held_one (i := 33) (oi := ?ot90) (by kernel_rfl) ?at90 ?ct90 (fun K33 hK33 => ?_)
    (case at90 => (simp only [List.getElem?_toArray, List.getElem?_cons_zero, List.getElem?_cons_succ]; rfl))
    (case ct90 => kernel_rfl)
    go_simp
    refine (C33.out _).mono ?_
    rintro e w1 ⟨rfl, hd⟩
    refine hK33 _ _ (keep4 hd hS27) (fun hS33 => ?_)
    clear hS27 hd hK33 K33
    refine held_one (i := 36) (oi := ?ot91) (by kernel_rfl) ?at91 ?ct91 (fun K36 hK36 => ?_)
    (case at91 => (simp only [List.getElem?_toArray, List.getElem?_cons_zero, List.getElem?_cons_succ]; rfl))
    (case ct91 => kernel_rfl)
    go_simp
    refine (C36.out _).mono ?_
    rintro e w1 ⟨rfl, hd⟩
    refine hK36 _ _ (keep4 hd hS33) (fun hS36 => ?_)
    clear hS33 hd hK36 K36
    (refine held_take (i := 37) (oi := ?ot92) (v := ?vt92) ?at92 (by kernel_rfl) (by kernel_rfl) (by kernel_rfl) ?bt92 ?ct92 ?dt92 (by assumption) ?rt92; (case at92 => (simp only [List.getElem?_toArray, List.getElem?_cons_zero, List.getElem?_cons_succ]; rfl)); (case bt92 => exact fun _ _ _ h => h); (case ct92 => kernel_rfl); (case dt92 => (intro W hW; (try dsimp only at hW); go_split_ands; go_simp; (try with_reducible rfl))); (case' rt92 => simp only [Act.put, List.setIfInBounds_toArray, List.set_cons_zero, List.set_cons_succ]))
    (refine held_take (i := 38) (oi := ?ot93) (v := ?vt93) ?at93 (by kernel_rfl) (by kernel_rfl) (by kernel_rfl) ?bt93 ?ct93 ?dt93 (by assumption) ?rt93; (case at93 => (simp only [List.getElem?_toArray, List.getElem?_cons_zero, List.getElem?_cons_succ]; rfl)); (case bt93 => exact fun _ _ _ h => h); (case ct93 => kernel_rfl); (case dt93 => (intro W hW; (try dsimp only at hW); go_split_ands; go_simp; (try with_reducible rfl))); (case' rt93 => simp only [Act.put, List.setIfInBounds_toArray, List.set_cons_zero, List.set_cons_succ]))
    (refine held_take (i := 39) (oi := ?ot94) (v := ?vt94) ?at94 (by kernel_rfl) (by kernel_rfl) (by kernel_rfl) ?bt94 ?ct94 ?dt94 (by assumption) ?rt94; (case at94 => (simp only [List.getElem?_toArray, List.getElem?_cons_zero, List.getElem?_cons_succ]; rfl)); (case bt94 => exact fun _ _ _ h => h); (case ct94 => kernel_rfl); (case dt94 => (intro W hW; (try dsimp only at hW); go_split_ands; go_simp; (try with_reducible rfl))); (case' rt94 => simp only [Act.put, List.setIfInBounds_toArray, List.set_cons_zero, List.set_cons_succ]))
    (refine held_take (i := 40) (oi := ?ot95) (v := ?vt95) ?at95 (by kernel_rfl) (by kernel_rfl) (by kernel_rfl) ?bt95 ?ct95 ?dt95 (by assumption) ?rt95; (case at95 => (simp only [List.getElem?_toArray, List.getElem?_cons_zero, List.getElem?_cons_succ]; rfl)); (case bt95 => exact fun _ _ _ h => h); (case ct95 => kernel_rfl); (case dt95 => (intro W hW; (try dsimp only at hW); go_split_ands; go_simp; (try with_reducible rfl))); (case' rt95 => simp only [Act.put, List.setIfInBounds_toArray, List.set_cons_zero, List.set_cons_succ]))
    (refine held_take (i := 41) (oi := ?ot96) (v := ?vt96) ?at96 (by kernel_rfl) (by kernel_rfl) (by kernel_rfl) ?bt96 ?ct96 ?dt96 (by assumption) ?rt96; (case at96 => (simp only [List.getElem?_toArray, List.getElem?_cons_zero, List.getElem?_cons_succ]; rfl)); (case bt96 => exact fun _ _ _ h => h); (case ct96 => kernel_rfl); (case dt96 => (intro W hW; (try dsimp only at hW); go_split_ands; go_simp; (try with_reducible rfl))); (case' rt96 => simp only [Act.put, List.setIfInBounds_toArray, List.set_cons_zero, List.set_cons_succ]))
    (refine held_take (i := 44) (oi := ?ot97) (v := ?vt97) ?at97 (by kernel_rfl) (by kernel_rfl) (by kernel_rfl) ?bt97 ?ct97 ?dt97 (by assumption) ?rt97; (case at97 => (simp only [List.getElem?_toArray, List.getElem?_cons_zero, List.getElem?_cons_succ]; rfl)); (case bt97 => exact fun _ _ _ h => h); (case ct97 => kernel_rfl); (case dt97 => (intro W hW; (try dsimp only at hW); go_split_ands; go_simp; (try with_reducible rfl))); (case' rt97 => simp only [Act.put, List.setIfInBounds_toArray, List.set_cons_zero, List.set_cons_succ]))
    refine held_one (i := 42) (oi := ?ot98) (by kernel_rfl) ?at98 ?ct98 (fun K42 hK42 => ?_)
    (case at98 => (simp only [List.getElem?_toArray, List.getElem?_cons_zero, List.getElem?_cons_succ]; rfl))
    (case ct98 => kernel_rfl)
    go_simp
    refine hK42 _ _ (keep4_row hS36 _) (fun hS42 => ?_)
    clear hK42 K42
    refine held_one (i := 43) (oi := ?ot99) (by kernel_rfl) ?at99 ?ct99 (fun K43 hK43 => ?_)
    (case at99 => (simp only [List.getElem?_toArray, List.getElem?_cons_zero, List.getElem?_cons_succ]; rfl))
    (case ct99 => kernel_rfl)
    go_simp
    refine (C43.out _ _).mono ?_
    rintro e w1 ⟨rfl, hd⟩
    refine hK43 _ _ (keep4 hd hS42) (fun hS43 => ?_)
    clear hS42 hd hK43 K43
    refine held_one (i := 45) (oi := ?ot100) (by kernel_rfl) ?at100 ?ct100 (fun K45 hK45 => ?_)
    (case at100 => (simp only [List.getElem?_toArray, List.getElem?_cons_zero, List.getElem?_cons_succ]; rfl))
    (case ct100 => kernel_rfl)
    go_simp
    refine (C45.out _).mono ?_
    rintro e w1 ⟨rfl, hd⟩
    refine hK45 _ _ (keep4 hd hS43) (fun hS45 => ?_)
    clear hS43 hd hK45 K45
    (refine held_take (i := 46) (oi := ?ot101) (v := ?vt101) ?at101 (by kernel_rfl) (by kernel_rfl) (by kernel_rfl) ?bt101 ?ct101 ?dt101 (by assumption) ?rt101; (case at101 => (simp only [List.getElem?_toArray, List.getElem?_cons_zero, List.getElem?_cons_succ]; rfl)); (case bt101 => exact fun _ _ _ h => h); (case ct101 => kernel_rfl); (case dt101 => (intro W hW; (try dsimp only at hW); go_split_ands; go_simp; (try with_reducible rfl))); (case' rt101 => simp only [Act.put, List.setIfInBounds_toArray, List.set_cons_zero, List.set_cons_succ]))
    (refine held_take (i := 47) (oi := ?ot102) (v := ?vt102) ?at102 (by kernel_rfl) (by kernel_rfl) (by kernel_rfl) ?bt102 ?ct102 ?dt102 (by assumption) ?rt102; (case at102 => (simp only [List.getElem?_toArray, List.getElem?_cons_zero, List.getElem?_cons_succ]; rfl)); (case bt102 => exact fun _ _ _ h => h); (case ct102 => kernel_rfl); (case dt102 => (intro W hW; (try dsimp only at hW); go_split_ands; go_simp; (try with_reducible rfl))); (case' rt102 => simp only [Act.put, List.setIfInBounds_toArray, List.set_cons_zero, List.set_cons_succ]))
    refine held_one (i := 48) (oi := ?ot103) (by kernel_rfl) ?at103 ?ct103 (fun K48 hK48 => ?_)
    (case at103 => (simp only [List.getElem?_toArray, List.getElem?_cons_zero, List.getElem?_cons_succ]; rfl))
    (case ct103 => kernel_rfl)
    go_simp
    refine (C48.out _).mono ?_
    rintro e w1 ⟨rfl, hd⟩
    refine hK48 _ _ (keep4 hd hS45) (fun hS48 => ?_)
    clear hS45 hd hK48 K48
    (refine held_take (i := 49) (oi := ?ot104) (v := ?vt104) ?at104 (by kernel_rfl) (by kernel_rfl) (by kernel_rfl) ?bt104 ?ct104 ?dt104 (by assumption) ?rt104; (case at104 => (simp only [List.getElem?_toArray, List.getElem?_cons_zero, List.getElem?_cons_succ]; rfl)); (case bt104 => exact fun _ _ _ h => h); (case ct104 => kernel_rfl); (case dt104 => (intro W hW; (try dsimp only at hW); go_split_ands; go_simp; (try with_reducible rfl))); (case' rt104 => simp only [Act.put, List.setIfInBounds_toArray, List.set_cons_zero, List.set_cons_succ]))
    (refine held_take (i := 50) (oi := ?ot105) (v := ?vt105) ?at105 (by kernel_rfl) (by kernel_rfl) (by kernel_rfl) ?bt105 ?ct105 ?dt105 (by assumption) ?rt105; (case at105 => (simp only [List.getElem?_toArray, List.getElem?_cons_zero, List.getElem?_cons_succ]; rfl)); (case bt105 => exact fun _ _ _ h => h); (case ct105 => kernel_rfl); (case dt105 => (intro W hW; (try dsimp only at hW); go_split_ands; go_simp; (try with_reducible rfl))); (case' rt105 => simp only [Act.put, List.setIfInBounds_toArray, List.set_cons_zero, List.set_cons_succ]))
    (refine held_take (i := 51) (oi := ?ot106) (v := ?vt106) ?at106 (by kernel_rfl) (by kernel_rfl) (by kernel_rfl) ?bt106 ?ct106 ?dt106 (by assumption) ?rt106; (case at106 => (simp only [List.getElem?_toArray, List.getElem?_cons_zero, List.getElem?_cons_succ]; rfl)); (case bt106 => exact fun _ _ _ h => h); (case ct106 => kernel_rfl); (case dt106 => (intro W hW; (try dsimp only at hW); go_split_ands; go_simp; (try with_reducible rfl))); (case' rt106 => simp only [Act.put, List.setIfInBounds_toArray, List.set_cons_zero, List.set_cons_succ]))
    (refine held_take (i := 52) (oi := ?ot107) (v := ?vt107) ?at107 (by kernel_rfl) (by kernel_rfl) (by kernel_rfl) ?bt107 ?ct107 ?dt107 (by assumption) ?rt107; (case at107 => (simp only [List.getElem?_toArray, List.getElem?_cons_zero, List.getElem?_cons_succ]; rfl)); (case bt107 => exact fun _ _ _ h => h); (case ct107 => kernel_rfl); (case dt107 => (intro W hW; (try dsimp only at hW); go_split_ands; go_simp; (try with_reducible rfl))); (case' rt107 => simp only [Act.put, List.setIfInBounds_toArray, List.set_cons_zero, List.set_cons_succ]))
    refine wpAnyH_done (by kernel_rfl) ?_ _
    go_wp2
    go_ret
    exact ⟨rfl, hS48.1⟩
  · have hs' : paged (a, b) = false := by simpa using hs
    have C45 := Lib.hid (show ∀ w, Calls Try.prog 21 #[.agg #[.int .u64 (a : Int), .int .u64 (b : Int)]] w (fun e w' => e = .returned (.bool false) ∧ Below w.heap.size w w') from by rw [← hs']; exact rpages_any a b hx)
    have C43 := Lib.hid (show ∀ (w : World) (n : Nat), Calls Try.prog 20 #[.slice (some ⟨w.heap.size, 0, none⟩) 2 n] (w.alloc (.cells #[.int .u64 (a : Int), .int .u64 (b : Int), .int .u64 (c : Int), .int .u64 (d : Int)] 24)) fun e w' => e = .returned (.bool false) ∧ Below (w.alloc (.cells #[.int .u64 (a : Int), .int .u64 (b : Int), .int .u64 (c : Int), .int .u64 (d : Int)] 24)).heap.size (w.alloc (.cells #[.int .u64 (a : Int), .int .u64 (b : Int), .int .u64 (c : Int), .int .u64 (d : Int)] 24)) w' from fun w n => by
      have := pages_lit a b c d n hx hy w
      rw [hs', Bool.false_and] at this
      exact this)
    clear hg hl hh hi ho ht hs hs' hx hy hp hq
    go_enter Try.func3, Try.ntmps3
    go_wp2_with (go_at_call 9; refine (awake_any _).mono ?_; rintro e w1 ⟨rfl, hd⟩; have H1 := Lib.hid hd; clear hd)
    refine wp_region_held_drew (S := fun W => Below w.heap.size w W ∧ W.cell? ⟨w.heap.size, 0, none⟩ = some (.int .u64 (a : Int)) ∧ W.cell? ⟨w.heap.size, 1, none⟩ = some (.int .u64 (b : Int)) ∧ W.cell? ⟨w.heap.size + 1, 0, none⟩ = some (.int .u64 (c : Int)) ∧ W.cell? ⟨w.heap.size + 1, 1, none⟩ = some (.int .u64 (d : Int))) (by kernel_rfl) (keep4_after w a b c d H1.out) (fun hS => ?_)
    (refine held_take (i := 0) (oi := ?ot108) (v := ?vt108) ?at108 (by kernel_rfl) (by kernel_rfl) (by kernel_rfl) ?bt108 ?ct108 ?dt108 (by assumption) ?rt108; (case at108 => (simp only [List.getElem?_toArray, List.getElem?_cons_zero]; rfl)); (case bt108 => exact fun _ _ _ h => h); (case ct108 => kernel_rfl); (case dt108 => (intro W hW; (try dsimp only at hW); go_split_ands; go_simp; (try with_reducible rfl))); (case' rt108 => simp only [Act.put, List.setIfInBounds_toArray, List.set_cons_zero, List.set_cons_succ]))
    (refine held_take (i := 2) (oi := ?ot109) (v := ?vt109) ?at109 (by kernel_rfl) (by kernel_rfl) (by kernel_rfl) ?bt109 ?ct109 ?dt109 (by assumption) ?rt109; (case at109 => (simp only [List.getElem?_toArray, List.getElem?_cons_zero, List.getElem?_cons_succ]; rfl)); (case bt109 => exact fun _ _ _ h => h); (case ct109 => kernel_rfl); (case dt109 => (intro W hW; (try dsimp only at hW); go_split_ands; go_simp; (try with_reducible rfl))); (case' rt109 => simp only [Act.put, List.setIfInBounds_toArray, List.set_cons_zero, List.set_cons_succ]))
    refine held_one (i := 1) (oi := ?ot110) (by kernel_rfl) ?at110 ?ct110 (fun K1 hK1 => ?_)
    (case at110 => (simp only [List.getElem?_toArray, List.getElem?_cons_zero, List.getElem?_cons_succ]; rfl))
    (case ct110 => kernel_rfl)
    go_simp
    refine (C1.out _).mono ?_
    rintro e w1 ⟨rfl, hd⟩
    refine hK1 _ _ (keep4 hd hS) (fun hS1 => ?_)
    clear hS hd hK1 K1
    refine held_one (i := 3) (oi := ?ot111) (by kernel_rfl) ?at111 ?ct111 (fun K3 hK3 => ?_)
    (case at111 => (simp only [List.getElem?_toArray, List.getElem?_cons_zero, List.getElem?_cons_succ]; rfl))
    (case ct111 => kernel_rfl)
    go_simp
    refine (C3.out _).mono ?_
    rintro e w1 ⟨rfl, hd⟩
    refine hK3 _ _ (keep4 hd hS1) (fun hS3 => ?_)
    clear hS1 hd hK3 K3
    (refine held_take (i := 4) (oi := ?ot112) (v := ?vt112) ?at112 (by kernel_rfl) (by kernel_rfl) (by kernel_rfl) ?bt112 ?ct112 ?dt112 (by assumption) ?rt112; (case at112 => (simp only [List.getElem?_toArray, List.getElem?_cons_zero, List.getElem?_cons_succ]; rfl)); (case bt112 => exact fun _ _ _ h => h); (case ct112 => kernel_rfl); (case dt112 => (intro W hW; (try dsimp only at hW); go_split_ands; go_simp; (try with_reducible rfl))); (case' rt112 => simp only [Act.put, List.setIfInBounds_toArray, List.set_cons_zero, List.set_cons_succ]))
    (refine held_take (i := 5) (oi := ?ot113) (v := ?vt113) ?at113 (by kernel_rfl) (by kernel_rfl) (by kernel_rfl) ?bt113 ?ct113 ?dt113 (by assumption) ?rt113; (case at113 => (simp only [List.getElem?_toArray, List.getElem?_cons_zero, List.getElem?_cons_succ]; rfl)); (case bt113 => exact fun _ _ _ h => h); (case ct113 => kernel_rfl); (case dt113 => (intro W hW; (try dsimp only at hW); go_split_ands; go_simp; (try with_reducible rfl))); (case' rt113 => simp only [Act.put, List.setIfInBounds_toArray, List.set_cons_zero, List.set_cons_succ]))
    (refine held_take (i := 6) (oi := ?ot114) (v := ?vt114) ?at114 (by kernel_rfl) (by kernel_rfl) (by kernel_rfl) ?bt114 ?ct114 ?dt114 (by assumption) ?rt114; (case at114 => (simp only [List.getElem?_toArray, List.getElem?_cons_zero, List.getElem?_cons_succ]; rfl)); (case bt114 => exact fun _ _ _ h => h); (case ct114 => kernel_rfl); (case dt114 => (intro W hW; (try dsimp only at hW); go_split_ands; go_simp; (try with_reducible rfl))); (case' rt114 => simp only [Act.put, List.setIfInBounds_toArray, List.set_cons_zero, List.set_cons_succ]))
    (refine held_take (i := 8) (oi := ?ot115) (v := ?vt115) ?at115 (by kernel_rfl) (by kernel_rfl) (by kernel_rfl) ?bt115 ?ct115 ?dt115 (by assumption) ?rt115; (case at115 => (simp only [List.getElem?_toArray, List.getElem?_cons_zero, List.getElem?_cons_succ]; rfl)); (case bt115 => exact fun _ _ _ h => h); (case ct115 => kernel_rfl); (case dt115 => (intro W hW; (try dsimp only at hW); go_split_ands; go_simp; (try with_reducible rfl))); (case' rt115 => simp only [Act.put, List.setIfInBounds_toArray, List.set_cons_zero, List.set_cons_succ]))
    refine held_one (i := 7) (oi := ?ot116) (by kernel_rfl) ?at116 ?ct116 (fun K7 hK7 => ?_)
    (case at116 => (simp only [List.getElem?_toArray, List.getElem?_cons_zero, List.getElem?_cons_succ]; rfl))
    (case ct116 => kernel_rfl)
    go_simp
    refine (C7.out _).mono ?_
    rintro e w1 ⟨rfl, hd⟩
    refine hK7 _ _ (keep4 hd hS3) (fun hS7 => ?_)
    clear hS3 hd hK7 K7
    refine held_one (i := 9) (oi := ?ot117) (by kernel_rfl) ?at117 ?ct117 (fun K9 hK9 => ?_)
    (case at117 => (simp only [List.getElem?_toArray, List.getElem?_cons_zero, List.getElem?_cons_succ]; rfl))
    (case ct117 => kernel_rfl)
    go_simp
    refine (C9.out _).mono ?_
    rintro e w1 ⟨rfl, hd⟩
    refine hK9 _ _ (keep4 hd hS7) (fun hS9 => ?_)
    clear hS7 hd hK9 K9
    (refine held_take (i := 10) (oi := ?ot118) (v := ?vt118) ?at118 (by kernel_rfl) (by kernel_rfl) (by kernel_rfl) ?bt118 ?ct118 ?dt118 (by assumption) ?rt118; (case at118 => (simp only [List.getElem?_toArray, List.getElem?_cons_zero, List.getElem?_cons_succ]; rfl)); (case bt118 => exact fun _ _ _ h => h); (case ct118 => kernel_rfl); (case dt118 => (intro W hW; (try dsimp only at hW); go_split_ands; go_simp; (try with_reducible rfl))); (case' rt118 => simp only [Act.put, List.setIfInBounds_toArray, List.set_cons_zero, List.set_cons_succ]))
    (refine held_take (i := 11) (oi := ?ot119) (v := ?vt119) ?at119 (by kernel_rfl) (by kernel_rfl) (by kernel_rfl) ?bt119 ?ct119 ?dt119 (by assumption) ?rt119; (case at119 => (simp only [List.getElem?_toArray, List.getElem?_cons_zero, List.getElem?_cons_succ]; rfl)); (case bt119 => exact fun _ _ _ h => h); (case ct119 => kernel_rfl); (case dt119 => (intro W hW; (try dsimp only at hW); go_split_ands; go_simp; (try with_reducible rfl))); (case' rt119 => simp only [Act.put, List.setIfInBounds_toArray, List.set_cons_zero, List.set_cons_succ]))
    (refine held_take (i := 12) (oi := ?ot120) (v := ?vt120) ?at120 (by kernel_rfl) (by kernel_rfl) (by kernel_rfl) ?bt120 ?ct120 ?dt120 (by assumption) ?rt120; (case at120 => (simp only [List.getElem?_toArray, List.getElem?_cons_zero, List.getElem?_cons_succ]; rfl)); (case bt120 => exact fun _ _ _ h => h); (case ct120 => kernel_rfl); (case dt120 => (intro W hW; (try dsimp only at hW); go_split_ands; go_simp; (try with_reducible rfl))); (case' rt120 => simp only [Act.put, List.setIfInBounds_toArray, List.set_cons_zero, List.set_cons_succ]))
    (refine held_take (i := 13) (oi := ?ot121) (v := ?vt121) ?at121 (by kernel_rfl) (by kernel_rfl) (by kernel_rfl) ?bt121 ?ct121 ?dt121 (by assumption) ?rt121; (case at121 => (simp only [List.getElem?_toArray, List.getElem?_cons_zero, List.getElem?_cons_succ]; rfl)); (case bt121 => exact fun _ _ _ h => h); (case ct121 => kernel_rfl); (case dt121 => (intro W hW; (try dsimp only at hW); go_split_ands; go_simp; (try with_reducible rfl))); (case' rt121 => simp only [Act.put, List.setIfInBounds_toArray, List.set_cons_zero, List.set_cons_succ]))
    (refine held_take (i := 14) (oi := ?ot122) (v := ?vt122) ?at122 (by kernel_rfl) (by kernel_rfl) (by kernel_rfl) ?bt122 ?ct122 ?dt122 (by assumption) ?rt122; (case at122 => (simp only [List.getElem?_toArray, List.getElem?_cons_zero, List.getElem?_cons_succ]; rfl)); (case bt122 => exact fun _ _ _ h => h); (case ct122 => kernel_rfl); (case dt122 => (intro W hW; (try dsimp only at hW); go_split_ands; go_simp; (try with_reducible rfl))); (case' rt122 => simp only [Act.put, List.setIfInBounds_toArray, List.set_cons_zero, List.set_cons_succ]))
    (refine held_take (i := 16) (oi := ?ot123) (v := ?vt123) ?at123 (by kernel_rfl) (by kernel_rfl) (by kernel_rfl) ?bt123 ?ct123 ?dt123 (by assumption) ?rt123; (case at123 => (simp only [List.getElem?_toArray, List.getElem?_cons_zero, List.getElem?_cons_succ]; rfl)); (case bt123 => exact fun _ _ _ h => h); (case ct123 => kernel_rfl); (case dt123 => (intro W hW; (try dsimp only at hW); go_split_ands; go_simp; (try with_reducible rfl))); (case' rt123 => simp only [Act.put, List.setIfInBounds_toArray, List.set_cons_zero, List.set_cons_succ]))
    (refine held_take (i := 17) (oi := ?ot124) (v := ?vt124) ?at124 (by kernel_rfl) (by kernel_rfl) (by kernel_rfl) ?bt124 ?ct124 ?dt124 (by assumption) ?rt124; (case at124 => (simp only [List.getElem?_toArray, List.getElem?_cons_zero, List.getElem?_cons_succ]; rfl)); (case bt124 => exact fun _ _ _ h => h); (case ct124 => kernel_rfl); (case dt124 => (intro W hW; (try dsimp only at hW); go_split_ands; go_simp; (try with_reducible rfl))); (case' rt124 => simp only [Act.put, List.setIfInBounds_toArray, List.set_cons_zero, List.set_cons_succ]))
    refine held_one (i := 15) (oi := ?ot125) (by kernel_rfl) ?at125 ?ct125 (fun K15 hK15 => ?_)
    (case at125 => (simp only [List.getElem?_toArray, List.getElem?_cons_zero, List.getElem?_cons_succ]; rfl))
    (case ct125 => kernel_rfl)
    go_simp
    refine (C15.out _).mono ?_
    rintro e w1 ⟨rfl, hd⟩
    refine hK15 _ _ (keep4 hd hS9) (fun hS15 => ?_)
    clear hS9 hd hK15 K15
    refine held_one (i := 18) (oi := ?ot126) (by kernel_rfl) ?at126 ?ct126 (fun K18 hK18 => ?_)
    (case at126 => (simp only [List.getElem?_toArray, List.getElem?_cons_zero, List.getElem?_cons_succ]; rfl))
    (case ct126 => kernel_rfl)
    go_simp
    refine (C18.out _).mono ?_
    rintro e w1 ⟨rfl, hd⟩
    refine hK18 _ _ (keep4 hd hS15) (fun hS18 => ?_)
    clear hS15 hd hK18 K18
    (refine held_take (i := 19) (oi := ?ot127) (v := ?vt127) ?at127 (by kernel_rfl) (by kernel_rfl) (by kernel_rfl) ?bt127 ?ct127 ?dt127 (by assumption) ?rt127; (case at127 => (simp only [List.getElem?_toArray, List.getElem?_cons_zero, List.getElem?_cons_succ]; rfl)); (case bt127 => exact fun _ _ _ h => h); (case ct127 => kernel_rfl); (case dt127 => (intro W hW; (try dsimp only at hW); go_split_ands; go_simp; (try with_reducible rfl))); (case' rt127 => simp only [Act.put, List.setIfInBounds_toArray, List.set_cons_zero, List.set_cons_succ]))
    (refine held_take (i := 20) (oi := ?ot128) (v := ?vt128) ?at128 (by kernel_rfl) (by kernel_rfl) (by kernel_rfl) ?bt128 ?ct128 ?dt128 (by assumption) ?rt128; (case at128 => (simp only [List.getElem?_toArray, List.getElem?_cons_zero, List.getElem?_cons_succ]; rfl)); (case bt128 => exact fun _ _ _ h => h); (case ct128 => kernel_rfl); (case dt128 => (intro W hW; (try dsimp only at hW); go_split_ands; go_simp; (try with_reducible rfl))); (case' rt128 => simp only [Act.put, List.setIfInBounds_toArray, List.set_cons_zero, List.set_cons_succ]))
    (refine held_take (i := 21) (oi := ?ot129) (v := ?vt129) ?at129 (by kernel_rfl) (by kernel_rfl) (by kernel_rfl) ?bt129 ?ct129 ?dt129 (by assumption) ?rt129; (case at129 => (simp only [List.getElem?_toArray, List.getElem?_cons_zero, List.getElem?_cons_succ]; rfl)); (case bt129 => exact fun _ _ _ h => h); (case ct129 => kernel_rfl); (case dt129 => (intro W hW; (try dsimp only at hW); go_split_ands; go_simp; (try with_reducible rfl))); (case' rt129 => simp only [Act.put, List.setIfInBounds_toArray, List.set_cons_zero, List.set_cons_succ]))
    (refine held_take (i := 22) (oi := ?ot130) (v := ?vt130) ?at130 (by kernel_rfl) (by kernel_rfl) (by kernel_rfl) ?bt130 ?ct130 ?dt130 (by assumption) ?rt130; (case at130 => (simp only [List.getElem?_toArray, List.getElem?_cons_zero, List.getElem?_cons_succ]; rfl)); (case bt130 => exact fun _ _ _ h => h); (case ct130 => kernel_rfl); (case dt130 => (intro W hW; (try dsimp only at hW); go_split_ands; go_simp; (try with_reducible rfl))); (case' rt130 => simp only [Act.put, List.setIfInBounds_toArray, List.set_cons_zero, List.set_cons_succ]))
    (refine held_take (i := 23) (oi := ?ot131) (v := ?vt131) ?at131 (by kernel_rfl) (by kernel_rfl) (by kernel_rfl) ?bt131 ?ct131 ?dt131 (by assumption) ?rt131; (case at131 => (simp only [List.getElem?_toArray, List.getElem?_cons_zero, List.getElem?_cons_succ]; rfl)); (case bt131 => exact fun _ _ _ h => h); (case ct131 => kernel_rfl); (case dt131 => (intro W hW; (try dsimp only at hW); go_split_ands; go_simp; (try with_reducible rfl))); (case' rt131 => simp only [Act.put, List.setIfInBounds_toArray, List.set_cons_zero, List.set_cons_succ]))
    (refine held_take (i := 25) (oi := ?ot132) (v := ?vt132) ?at132 (by kernel_rfl) (by kernel_rfl) (by kernel_rfl) ?bt132 ?ct132 ?dt132 (by assumption) ?rt132; (case at132 => (simp only [List.getElem?_toArray, List.getElem?_cons_zero, List.getElem?_cons_succ]; rfl)); (case bt132 => exact fun _ _ _ h => h); (case ct132 => kernel_rfl); (case dt132 => (intro W hW; (try dsimp only at hW); go_split_ands; go_simp; (try with_reducible rfl))); (case' rt132 => simp only [Act.put, List.setIfInBounds_toArray, List.set_cons_zero, List.set_cons_succ]))
    (refine held_take (i := 26) (oi := ?ot133) (v := ?vt133) ?at133 (by kernel_rfl) (by kernel_rfl) (by kernel_rfl) ?bt133 ?ct133 ?dt133 (by assumption) ?rt133; (case at133 => (simp only [List.getElem?_toArray, List.getElem?_cons_zero, List.getElem?_cons_succ]; rfl)); (case bt133 => exact fun _ _ _ h => h); (case ct133 => kernel_rfl); (case dt133 => (intro W hW; (try dsimp only at hW); go_split_ands; go_simp; (try with_reducible rfl))); (case' rt133 => simp only [Act.put, List.setIfInBounds_toArray, List.set_cons_zero, List.set_cons_succ]))
    refine held_one (i := 24) (oi := ?ot134) (by kernel_rfl) ?at134 ?ct134 (fun K24 hK24 => ?_)
    (case at134 => (simp only [List.getElem?_toArray, List.getElem?_cons_zero, List.getElem?_cons_succ]; rfl))
    (case ct134 => kernel_rfl)
    go_simp
    refine (C24.out _).mono ?_
    rintro e w1 ⟨rfl, hd⟩
    refine hK24 _ _ (keep4 hd hS18) (fun hS24 => ?_)
    clear hS18 hd hK24 K24
    refine held_one (i := 27) (oi := ?ot135) (by kernel_rfl) ?at135 ?ct135 (fun K27 hK27 => ?_)
    (case at135 => (simp only [List.getElem?_toArray, List.getElem?_cons_zero, List.getElem?_cons_succ]; rfl))
    (case ct135 => kernel_rfl)
    go_simp
    refine (C27.out _).mono ?_
    rintro e w1 ⟨rfl, hd⟩
    refine hK27 _ _ (keep4 hd hS24) (fun hS27 => ?_)
    clear hS24 hd hK27 K27
    (refine held_take (i := 28) (oi := ?ot136) (v := ?vt136) ?at136 (by kernel_rfl) (by kernel_rfl) (by kernel_rfl) ?bt136 ?ct136 ?dt136 (by assumption) ?rt136; (case at136 => (simp only [List.getElem?_toArray, List.getElem?_cons_zero, List.getElem?_cons_succ]; rfl)); (case bt136 => exact fun _ _ _ h => h); (case ct136 => kernel_rfl); (case dt136 => (intro W hW; (try dsimp only at hW); go_split_ands; go_simp; (try with_reducible rfl))); (case' rt136 => simp only [Act.put, List.setIfInBounds_toArray, List.set_cons_zero, List.set_cons_succ]))
    (refine held_take (i := 29) (oi := ?ot137) (v := ?vt137) ?at137 (by kernel_rfl) (by kernel_rfl) (by kernel_rfl) ?bt137 ?ct137 ?dt137 (by assumption) ?rt137; (case at137 => (simp only [List.getElem?_toArray, List.getElem?_cons_zero, List.getElem?_cons_succ]; rfl)); (case bt137 => exact fun _ _ _ h => h); (case ct137 => kernel_rfl); (case dt137 => (intro W hW; (try dsimp only at hW); go_split_ands; go_simp; (try with_reducible rfl))); (case' rt137 => simp only [Act.put, List.setIfInBounds_toArray, List.set_cons_zero, List.set_cons_succ]))
    (refine held_take (i := 30) (oi := ?ot138) (v := ?vt138) ?at138 (by kernel_rfl) (by kernel_rfl) (by kernel_rfl) ?bt138 ?ct138 ?dt138 (by assumption) ?rt138; (case at138 => (simp only [List.getElem?_toArray, List.getElem?_cons_zero, List.getElem?_cons_succ]; rfl)); (case bt138 => exact fun _ _ _ h => h); (case ct138 => kernel_rfl); (case dt138 => (intro W hW; (try dsimp only at hW); go_split_ands; go_simp; (try with_reducible rfl))); (case' rt138 => simp only [Act.put, List.setIfInBounds_toArray, List.set_cons_zero, List.set_cons_succ]))
    (refine held_take (i := 31) (oi := ?ot139) (v := ?vt139) ?at139 (by kernel_rfl) (by kernel_rfl) (by kernel_rfl) ?bt139 ?ct139 ?dt139 (by assumption) ?rt139; (case at139 => (simp only [List.getElem?_toArray, List.getElem?_cons_zero, List.getElem?_cons_succ]; rfl)); (case bt139 => exact fun _ _ _ h => h); (case ct139 => kernel_rfl); (case dt139 => (intro W hW; (try dsimp only at hW); go_split_ands; go_simp; (try with_reducible rfl))); (case' rt139 => simp only [Act.put, List.setIfInBounds_toArray, List.set_cons_zero, List.set_cons_succ]))
    (refine held_take (i := 32) (oi := ?ot140) (v := ?vt140) ?at140 (by kernel_rfl) (by kernel_rfl) (by kernel_rfl) ?bt140 ?ct140 ?dt140 (by assumption) ?rt140; (case at140 => (simp only [List.getElem?_toArray, List.getElem?_cons_zero, List.getElem?_cons_succ]; rfl)); (case bt140 => exact fun _ _ _ h => h); (case ct140 => kernel_rfl); (case dt140 => (intro W hW; (try dsimp only at hW); go_split_ands; go_simp; (try with_reducible rfl))); (case' rt140 => simp only [Act.put, List.setIfInBounds_toArray, List.set_cons_zero, List.set_cons_succ]))
    (refine held_take (i := 34) (oi := ?ot141) (v := ?vt141) ?at141 (by kernel_rfl) (by kernel_rfl) (by kernel_rfl) ?bt141 ?ct141 ?dt141 (by assumption) ?rt141; (case at141 => (simp only [List.getElem?_toArray, List.getElem?_cons_zero, List.getElem?_cons_succ]; rfl)); (case bt141 => exact fun _ _ _ h => h); (case ct141 => kernel_rfl); (case dt141 => (intro W hW; (try dsimp only at hW); go_split_ands; go_simp; (try with_reducible rfl))); (case' rt141 => simp only [Act.put, List.setIfInBounds_toArray, List.set_cons_zero, List.set_cons_succ]))
    (refine held_take (i := 35) (oi := ?ot142) (v := ?vt142) ?at142 (by kernel_rfl) (by kernel_rfl) (by kernel_rfl) ?bt142 ?ct142 ?dt142 (by assumption) ?rt142; (case at142 => (simp only [List.getElem?_toArray, List.getElem?_cons_zero, List.getElem?_cons_succ]; rfl)); (case bt142 => exact fun _ _ _ h => h); (case ct142 => kernel_rfl); (case dt142 => (intro W hW; (try dsimp only at hW); go_split_ands; go_simp; (try with_reducible rfl))); (case' rt142 => simp only [Act.put, List.setIfInBounds_toArray, List.set_cons_zero, List.set_cons_succ]))
    refine held_one (i := 33) (oi := ?ot143) (by kernel_rfl) ?at143 ?ct143 (fun K33 hK33 => ?_)
    (case at143 => (simp only [List.getElem?_toArray, List.getElem?_cons_zero, List.getElem?_cons_succ]; rfl))
    (case ct143 => kernel_rfl)
    go_simp
    refine (C33.out _).mono ?_
    rintro e w1 ⟨rfl, hd⟩
    refine hK33 _ _ (keep4 hd hS27) (fun hS33 => ?_)
    clear hS27 hd hK33 K33
    refine held_one (i := 36) (oi := ?ot144) (by kernel_rfl) ?at144 ?ct144 (fun K36 hK36 => ?_)
    (case at144 => (simp only [List.getElem?_toArray, List.getElem?_cons_zero, List.getElem?_cons_succ]; rfl))
    (case ct144 => kernel_rfl)
    go_simp
    refine (C36.out _).mono ?_
    rintro e w1 ⟨rfl, hd⟩
    refine hK36 _ _ (keep4 hd hS33) (fun hS36 => ?_)
    clear hS33 hd hK36 K36
    (refine held_take (i := 37) (oi := ?ot145) (v := ?vt145) ?at145 (by kernel_rfl) (by kernel_rfl) (by kernel_rfl) ?bt145 ?ct145 ?dt145 (by assumption) ?rt145; (case at145 => (simp only [List.getElem?_toArray, List.getElem?_cons_zero, List.getElem?_cons_succ]; rfl)); (case bt145 => exact fun _ _ _ h => h); (case ct145 => kernel_rfl); (case dt145 => (intro W hW; (try dsimp only at hW); go_split_ands; go_simp; (try with_reducible rfl))); (case' rt145 => simp only [Act.put, List.setIfInBounds_toArray, List.set_cons_zero, List.set_cons_succ]))
    (refine held_take (i := 38) (oi := ?ot146) (v := ?vt146) ?at146 (by kernel_rfl) (by kernel_rfl) (by kernel_rfl) ?bt146 ?ct146 ?dt146 (by assumption) ?rt146; (case at146 => (simp only [List.getElem?_toArray, List.getElem?_cons_zero, List.getElem?_cons_succ]; rfl)); (case bt146 => exact fun _ _ _ h => h); (case ct146 => kernel_rfl); (case dt146 => (intro W hW; (try dsimp only at hW); go_split_ands; go_simp; (try with_reducible rfl))); (case' rt146 => simp only [Act.put, List.setIfInBounds_toArray, List.set_cons_zero, List.set_cons_succ]))
    (refine held_take (i := 39) (oi := ?ot147) (v := ?vt147) ?at147 (by kernel_rfl) (by kernel_rfl) (by kernel_rfl) ?bt147 ?ct147 ?dt147 (by assumption) ?rt147; (case at147 => (simp only [List.getElem?_toArray, List.getElem?_cons_zero, List.getElem?_cons_succ]; rfl)); (case bt147 => exact fun _ _ _ h => h); (case ct147 => kernel_rfl); (case dt147 => (intro W hW; (try dsimp only at hW); go_split_ands; go_simp; (try with_reducible rfl))); (case' rt147 => simp only [Act.put, List.setIfInBounds_toArray, List.set_cons_zero, List.set_cons_succ]))
    (refine held_take (i := 40) (oi := ?ot148) (v := ?vt148) ?at148 (by kernel_rfl) (by kernel_rfl) (by kernel_rfl) ?bt148 ?ct148 ?dt148 (by assumption) ?rt148; (case at148 => (simp only [List.getElem?_toArray, List.getElem?_cons_zero, List.getElem?_cons_succ]; rfl)); (case bt148 => exact fun _ _ _ h => h); (case ct148 => kernel_rfl); (case dt148 => (intro W hW; (try dsimp only at hW); go_split_ands; go_simp; (try with_reducible rfl))); (case' rt148 => simp only [Act.put, List.setIfInBounds_toArray, List.set_cons_zero, List.set_cons_succ]))
    (refine held_take (i := 41) (oi := ?ot149) (v := ?vt149) ?at149 (by kernel_rfl) (by kernel_rfl) (by kernel_rfl) ?bt149 ?ct149 ?dt149 (by assumption) ?rt149; (case at149 => (simp only [List.getElem?_toArray, List.getElem?_cons_zero, List.getElem?_cons_succ]; rfl)); (case bt149 => exact fun _ _ _ h => h); (case ct149 => kernel_rfl); (case dt149 => (intro W hW; (try dsimp only at hW); go_split_ands; go_simp; (try with_reducible rfl))); (case' rt149 => simp only [Act.put, List.setIfInBounds_toArray, List.set_cons_zero, List.set_cons_succ]))
    (refine held_take (i := 44) (oi := ?ot150) (v := ?vt150) ?at150 (by kernel_rfl) (by kernel_rfl) (by kernel_rfl) ?bt150 ?ct150 ?dt150 (by assumption) ?rt150; (case at150 => (simp only [List.getElem?_toArray, List.getElem?_cons_zero, List.getElem?_cons_succ]; rfl)); (case bt150 => exact fun _ _ _ h => h); (case ct150 => kernel_rfl); (case dt150 => (intro W hW; (try dsimp only at hW); go_split_ands; go_simp; (try with_reducible rfl))); (case' rt150 => simp only [Act.put, List.setIfInBounds_toArray, List.set_cons_zero, List.set_cons_succ]))
    refine held_one (i := 42) (oi := ?ot151) (by kernel_rfl) ?at151 ?ct151 (fun K42 hK42 => ?_)
    (case at151 => (simp only [List.getElem?_toArray, List.getElem?_cons_zero, List.getElem?_cons_succ]; rfl))
    (case ct151 => kernel_rfl)
    go_simp
    refine hK42 _ _ (keep4_row hS36 _) (fun hS42 => ?_)
    clear hK42 K42
    refine held_one (i := 43) (oi := ?ot152) (by kernel_rfl) ?at152 ?ct152 (fun K43 hK43 => ?_)
    (case at152 => (simp only [List.getElem?_toArray, List.getElem?_cons_zero, List.getElem?_cons_succ]; rfl))
    (case ct152 => kernel_rfl)
    go_simp
    refine (C43.out _ _).mono ?_
    rintro e w1 ⟨rfl, hd⟩
    refine hK43 _ _ (keep4 hd hS42) (fun hS43 => ?_)
    clear hS42 hd hK43 K43
    refine held_one (i := 45) (oi := ?ot153) (by kernel_rfl) ?at153 ?ct153 (fun K45 hK45 => ?_)
    (case at153 => (simp only [List.getElem?_toArray, List.getElem?_cons_zero, List.getElem?_cons_succ]; rfl))
    (case ct153 => kernel_rfl)
    go_simp
    refine (C45.out _).mono ?_
    rintro e w1 ⟨rfl, hd⟩
    refine hK45 _ _ (keep4 hd hS43) (fun hS45 => ?_)
    clear hS43 hd hK45 K45
    (refine held_take (i := 46) (oi := ?ot154) (v := ?vt154) ?at154 (by kernel_rfl) (by kernel_rfl) (by kernel_rfl) ?bt154 ?ct154 ?dt154 (by assumption) ?rt154; (case at154 => (simp only [List.getElem?_toArray, List.getElem?_cons_zero, List.getElem?_cons_succ]; rfl)); (case bt154 => exact fun _ _ _ h => h); (case ct154 => kernel_rfl); (case dt154 => (intro W hW; (try dsimp only at hW); go_split_ands; go_simp; (try with_reducible rfl))); (case' rt154 => simp only [Act.put, List.setIfInBounds_toArray, List.set_cons_zero, List.set_cons_succ]))
    (refine held_skip (i := 47) (oi := ?ot155) ?at155 (by kernel_rfl) (by kernel_rfl) (by kernel_rfl) ?bt155 ?ct155 (by assumption) ?rt155; (case at155 => (simp only [List.getElem?_toArray, List.getElem?_cons_zero, List.getElem?_cons_succ]; rfl)); (case bt155 => exact fun _ _ _ h => h); (case ct155 => kernel_rfl); (case' rt155 => simp only [Act.put, List.setIfInBounds_toArray, List.set_cons_zero, List.set_cons_succ]))
    (refine held_skip (i := 48) (oi := ?ot156) ?at156 (by kernel_rfl) (by kernel_rfl) (by kernel_rfl) ?bt156 ?ct156 (by assumption) ?rt156; (case at156 => (simp only [List.getElem?_toArray, List.getElem?_cons_zero, List.getElem?_cons_succ]; rfl)); (case bt156 => exact fun _ _ _ h => h); (case ct156 => kernel_rfl); (case' rt156 => simp only [Act.put, List.setIfInBounds_toArray, List.set_cons_zero, List.set_cons_succ]))
    (refine held_take (i := 49) (oi := ?ot157) (v := ?vt157) ?at157 (by kernel_rfl) (by kernel_rfl) (by kernel_rfl) ?bt157 ?ct157 ?dt157 (by assumption) ?rt157; (case at157 => (simp only [List.getElem?_toArray, List.getElem?_cons_zero, List.getElem?_cons_succ]; rfl)); (case bt157 => exact fun _ _ _ h => h); (case ct157 => kernel_rfl); (case dt157 => (intro W hW; (try dsimp only at hW); go_split_ands; go_simp; (try with_reducible rfl))); (case' rt157 => simp only [Act.put, List.setIfInBounds_toArray, List.set_cons_zero, List.set_cons_succ]))
    (refine held_take (i := 50) (oi := ?ot158) (v := ?vt158) ?at158 (by kernel_rfl) (by kernel_rfl) (by kernel_rfl) ?bt158 ?ct158 ?dt158 (by assumption) ?rt158; (case at158 => (simp only [List.getElem?_toArray, List.getElem?_cons_zero, List.getElem?_cons_succ]; rfl)); (case bt158 => exact fun _ _ _ h => h); (case ct158 => kernel_rfl); (case dt158 => (intro W hW; (try dsimp only at hW); go_split_ands; go_simp; (try with_reducible rfl))); (case' rt158 => simp only [Act.put, List.setIfInBounds_toArray, List.set_cons_zero, List.set_cons_succ]))
    (refine held_take (i := 51) (oi := ?ot159) (v := ?vt159) ?at159 (by kernel_rfl) (by kernel_rfl) (by kernel_rfl) ?bt159 ?ct159 ?dt159 (by assumption) ?rt159; (case at159 => (simp only [List.getElem?_toArray, List.getElem?_cons_zero, List.getElem?_cons_succ]; rfl)); (case bt159 => exact fun _ _ _ h => h); (case ct159 => kernel_rfl); (case dt159 => (intro W hW; (try dsimp only at hW); go_split_ands; go_simp; (try with_reducible rfl))); (case' rt159 => simp only [Act.put, List.setIfInBounds_toArray, List.set_cons_zero, List.set_cons_succ]))
    (refine held_take (i := 52) (oi := ?ot160) (v := ?vt160) ?at160 (by kernel_rfl) (by kernel_rfl) (by kernel_rfl) ?bt160 ?ct160 ?dt160 (by assumption) ?rt160; (case at160 => (simp only [List.getElem?_toArray, List.getElem?_cons_zero, List.getElem?_cons_succ]; rfl)); (case bt160 => exact fun _ _ _ h => h); (case ct160 => kernel_rfl); (case dt160 => (intro W hW; (try dsimp only at hW); go_split_ands; go_simp; (try with_reducible rfl))); (case' rt160 => simp only [Act.put, List.setIfInBounds_toArray, List.set_cons_zero, List.set_cons_succ]))
    refine wpAnyH_done (by kernel_rfl) ?_ _
    go_wp2
    go_ret
    exact ⟨rfl, hS45.1⟩
end Go.Proofs.Ythedpjlafapfeaa
