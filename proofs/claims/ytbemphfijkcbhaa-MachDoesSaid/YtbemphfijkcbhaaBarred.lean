/- mach.Mem.space, barred: what forbids an access. -/
import Derived.Test.YtbemphfijkcbhaaZero9
import Derived.Test.YtbemphfijkcbhaaWb
namespace Go.Proofs.Ytbemphfijkcbhaa
open Go.RowKit

/-- What is forbidden, of memory at r. -/
def askR (r : Sp) (a c : Nat) : Nat := if 1048576 < c then 2 else if c = 0 ∧ good r = true then 0 else if within (a, c) r = true then 0 else 90
set_option maxRecDepth 100000 in
theorem space_nil (w : World) :
    Calls Try.prog 56 #[.pointer none] w fun e w' => e = .returned (.agg #[.int .u64 0, .int .u64 0]) ∧ Below w.heap.size w w' := by
  go_enter Try.func56, Try.ntmps56
  go_wp2
  refine bodyPost_ret (results_cell1 rfl _ _ _ rfl (Blk.load (Blk.new _ _ _ rfl) Try.underlying24 rfl infoSp)) rfl ⟨rfl, ?_⟩
  exact (Below.refl _ _).alloc (Nat.le_refl _) _
theorem infoMem : (Try.prog.info? 87).map (·.size) = some 3 := by kernel_rfl
set_option maxRecDepth 100000 in
theorem space_any (p r1 r2 : Nat) (v : Value) (w : World) (hB : Blk w p 87 #[.int .u64 (r1 : Int), .int .u64 (r2 : Int), v]) :
    Calls Try.prog 56 #[.pointer (some ⟨p, 0, none⟩)] w fun e w' => e = .returned (.agg #[.int .u64 (r1 : Int), .int .u64 (r2 : Int)]) ∧ Below w.heap.size w w' := by
  have c0 := (hB.alloc (.cells (boxSp 0 0) 24)).cellAt 0 (v := .int .u64 (r1 : Int)) rfl
  have c1 := (hB.alloc (.cells (boxSp 0 0) 24)).cellAt 1 (v := .int .u64 (r2 : Int)) rfl
  have hlt := hB.lt
  have c0' := hB.cellAt 0 (v := .int .u64 (r1 : Int)) rfl
  have c1' := hB.cellAt 1 (v := .int .u64 (r2 : Int)) rfl
  clear hB
  go_enter Try.func56, Try.ntmps56
  go_wp2
  refine bodyPost_ret (results_cell1 rfl _ _ _ rfl (Blk.load (Blk.new _ _ _ rfl) Try.underlying24 rfl infoSp)) rfl ⟨rfl, ?_⟩
  exact (Below.refl _ _).alloc (Nat.le_refl _) _
set_option maxRecDepth 100000 in
set_option maxHeartbeats 1000000 in
theorem barred_any (v : Value) (r1 r2 a c : Nat) (w : World) (hr : fit (r1, r2)) (hs : fit (a, c))
    (hsp : ∀ W, Below w.heap.size w W → Calls Try.prog 56 #[v] W fun e w' => e = .returned (.agg #[.int .u64 (r1 : Int), .int .u64 (r2 : Int)]) ∧ Below W.heap.size W w') :
    Calls Try.prog 46 #[v, .agg #[.int .u64 (a : Int), .int .u64 (c : Int)]] w fun e w' => e = .returned (.int .i64 (askR (r1, r2) a c : Nat)) ∧ Below w.heap.size w w' := by
  have HSP := Lib.hid hsp
  have H0 := Lib.hid (start9 w a c)
  clear hsp
  obtain ⟨q, hq⟩ : ∃ q, q = askR (r1, r2) a c := ⟨_, rfl⟩
  rw [← hq]
  by_cases h1 : 1048576 < c
  · have h1' : (1048576 : Int) < c := by omega
    have hq0 : q = 2 := by rw [hq]; unfold askR; rw [if_pos h1]
    subst hq0
    clear hq h1 hr hs
    go_enter Try.func46, Try.ntmps46
    go_wp2
    go_ret
    exact ⟨rfl, H0.out.1⟩
  · have h1' : ¬ (1048576 : Int) < c := by omega
    by_cases h2 : c = 0
    · subst h2
      have H0 : Hid (Below w.heap.size w (w.alloc (spo a 0)) ∧ (w.alloc (spo a 0)).cell? ⟨w.heap.size, 0, none⟩ = some (.int .u64 (a : Int)) ∧ (w.alloc (spo a 0)).cell? ⟨w.heap.size, 1, none⟩ = some (.int .u64 0)) := H0
      have HG := Lib.hid (good_bel r1 r2 hr)
      cases hg : good (r1, r2) with
      | true =>
        rw [hg] at HG
        have hq0 : q = 0 := by rw [hq]; unfold askR; rw [if_neg h1, if_pos ⟨rfl, hg⟩]
        subst hq0
        clear hq h1 hr hs hg
        go_enter Try.func46, Try.ntmps46
        go_wp2_with (first
          | (go_at_call 56; refine (HSP.out _ H0.out.1).mono ?_; rintro e w1 ⟨rfl, hd⟩; have HD1 := Lib.hid hd; clear hd)
          | (go_at_call 59; refine (HG.out _).mono ?_; rintro e w2 ⟨rfl, hd⟩; have HD2 := Lib.hid hd; clear hd))
        have hS0 := keep2 HD2.out (keep2 HD1.out H0.out)
        refine wp_region_held_drew (S := fun Y => Below w.heap.size w Y ∧ Y.cell? ⟨w.heap.size, 0, none⟩ = some (.int .u64 (a : Int)) ∧ Y.cell? ⟨w.heap.size, 1, none⟩ = some (.int .u64 0)) (by kernel_rfl) (drew2 hS0) (fun hS => ?_)
        (refine held_take (i := 0) (oi := ?ot1) (v := ?vt1) ?at1 (by kernel_rfl) (by kernel_rfl) (by kernel_rfl) ?bt1 ?ct1 ?dt1 (by assumption) ?rt1; (case at1 => (simp only [List.getElem?_toArray, List.getElem?_cons_zero]; rfl)); (case bt1 => exact fun _ _ _ h => h); (case ct1 => kernel_rfl); (case dt1 => (intro W hW; (try dsimp only at hW); go_split_ands; go_simp; (try with_reducible rfl))); (case' rt1 => simp only [Act.put, List.setIfInBounds_toArray, List.set_cons_zero, List.set_cons_succ]))
        (refine held_take (i := 1) (oi := ?ot2) (v := ?vt2) ?at2 (by kernel_rfl) (by kernel_rfl) (by kernel_rfl) ?bt2 ?ct2 ?dt2 (by assumption) ?rt2; (case at2 => (simp only [List.getElem?_toArray, List.getElem?_cons_zero, List.getElem?_cons_succ]; rfl)); (case bt2 => exact fun _ _ _ h => h); (case ct2 => kernel_rfl); (case dt2 => (intro W hW; (try dsimp only at hW); go_split_ands; go_simp; (try with_reducible rfl))); (case' rt2 => simp only [Act.put, List.setIfInBounds_toArray, List.set_cons_zero, List.set_cons_succ]))
        (refine held_take (i := 2) (oi := ?ot3) (v := ?vt3) ?at3 (by kernel_rfl) (by kernel_rfl) (by kernel_rfl) ?bt3 ?ct3 ?dt3 (by assumption) ?rt3; (case at3 => (simp only [List.getElem?_toArray, List.getElem?_cons_zero, List.getElem?_cons_succ]; rfl)); (case bt3 => exact fun _ _ _ h => h); (case ct3 => kernel_rfl); (case dt3 => (intro W hW; (try dsimp only at hW); go_split_ands; go_simp; (try with_reducible rfl))); (case' rt3 => simp only [Act.put, List.setIfInBounds_toArray, List.set_cons_zero, List.set_cons_succ]))
        (refine held_skip (i := 3) (oi := ?ot4) ?at4 (by kernel_rfl) (by kernel_rfl) (by kernel_rfl) ?bt4 ?ct4 (by assumption) ?rt4; (case at4 => (simp only [List.getElem?_toArray, List.getElem?_cons_zero, List.getElem?_cons_succ]; rfl)); (case bt4 => exact fun _ _ _ h => h); (case ct4 => kernel_rfl); (case' rt4 => simp only [Act.put, List.setIfInBounds_toArray, List.set_cons_zero, List.set_cons_succ]))
        (refine held_skip (i := 4) (oi := ?ot5) ?at5 (by kernel_rfl) (by kernel_rfl) (by kernel_rfl) ?bt5 ?ct5 (by assumption) ?rt5; (case at5 => (simp only [List.getElem?_toArray, List.getElem?_cons_zero, List.getElem?_cons_succ]; rfl)); (case bt5 => exact fun _ _ _ h => h); (case ct5 => kernel_rfl); (case' rt5 => simp only [Act.put, List.setIfInBounds_toArray, List.set_cons_zero, List.set_cons_succ]))
        (refine held_skip (i := 5) (oi := ?ot6) ?at6 (by kernel_rfl) (by kernel_rfl) (by kernel_rfl) ?bt6 ?ct6 (by assumption) ?rt6; (case at6 => (simp only [List.getElem?_toArray, List.getElem?_cons_zero, List.getElem?_cons_succ]; rfl)); (case bt6 => exact fun _ _ _ h => h); (case ct6 => kernel_rfl); (case' rt6 => simp only [Act.put, List.setIfInBounds_toArray, List.set_cons_zero, List.set_cons_succ]))
        (refine held_skip (i := 6) (oi := ?ot7) ?at7 (by kernel_rfl) (by kernel_rfl) (by kernel_rfl) ?bt7 ?ct7 (by assumption) ?rt7; (case at7 => (simp only [List.getElem?_toArray, List.getElem?_cons_zero, List.getElem?_cons_succ]; rfl)); (case bt7 => exact fun _ _ _ h => h); (case ct7 => kernel_rfl); (case' rt7 => simp only [Act.put, List.setIfInBounds_toArray, List.set_cons_zero, List.set_cons_succ]))
        (refine held_skip (i := 7) (oi := ?ot8) ?at8 (by kernel_rfl) (by kernel_rfl) (by kernel_rfl) ?bt8 ?ct8 (by assumption) ?rt8; (case at8 => (simp only [List.getElem?_toArray, List.getElem?_cons_zero, List.getElem?_cons_succ]; rfl)); (case bt8 => exact fun _ _ _ h => h); (case ct8 => kernel_rfl); (case' rt8 => simp only [Act.put, List.setIfInBounds_toArray, List.set_cons_zero, List.set_cons_succ]))
        (refine held_take (i := 8) (oi := ?ot9) (v := ?vt9) ?at9 (by kernel_rfl) (by kernel_rfl) (by kernel_rfl) ?bt9 ?ct9 ?dt9 (by assumption) ?rt9; (case at9 => (simp only [List.getElem?_toArray, List.getElem?_cons_zero, List.getElem?_cons_succ]; rfl)); (case bt9 => exact fun _ _ _ h => h); (case ct9 => kernel_rfl); (case dt9 => (intro W hW; (try dsimp only at hW); go_split_ands; go_simp; (try with_reducible rfl))); (case' rt9 => simp only [Act.put, List.setIfInBounds_toArray, List.set_cons_zero, List.set_cons_succ]))
        refine wpAnyH_done (by kernel_rfl) ?_ _
        go_wp2
        go_ret
        exact ⟨rfl, hS.1⟩
      | false =>
        rw [hg] at HG
        have hwi : within (a, 0) (r1, r2) = false := by simp [within, hg]
        have HWI : Hid (∀ W, Calls Try.prog 35 #[.agg #[.int .u64 (a : Int), .int .u64 0], .agg #[.int .u64 (r1 : Int), .int .u64 (r2 : Int)]] W fun e w' => e = .returned (.bool false) ∧ Below W.heap.size W w') := Lib.hid fun W => by rw [← hwi]; exact within_any a 0 r1 r2 hs hr W
        have hq0 : q = 90 := by rw [hq]; unfold askR; rw [if_neg h1, if_neg (fun hh => by rw [hg] at hh; cases hh.2), hwi]; rfl
        subst hq0
        clear hq h1 hr hs hg hwi
        go_enter Try.func46, Try.ntmps46
        go_wp2_with (first
          | (go_at_call 56; refine (HSP.out _ H0.out.1).mono ?_; rintro e w1 ⟨rfl, hd⟩; have HD1 := Lib.hid hd; clear hd)
          | (go_at_call 59; refine (HG.out _).mono ?_; rintro e w2 ⟨rfl, hd⟩; have HD2 := Lib.hid hd; clear hd))
        have hS0 := keep2 HD2.out (keep2 HD1.out H0.out)
        refine wp_region_held_drew (S := fun Y => Below w.heap.size w Y ∧ Y.cell? ⟨w.heap.size, 0, none⟩ = some (.int .u64 (a : Int)) ∧ Y.cell? ⟨w.heap.size, 1, none⟩ = some (.int .u64 0)) (by kernel_rfl) (drew2 hS0) (fun hS => ?_)
        (refine held_take (i := 0) (oi := ?ot10) (v := ?vt10) ?at10 (by kernel_rfl) (by kernel_rfl) (by kernel_rfl) ?bt10 ?ct10 ?dt10 (by assumption) ?rt10; (case at10 => (simp only [List.getElem?_toArray, List.getElem?_cons_zero]; rfl)); (case bt10 => exact fun _ _ _ h => h); (case ct10 => kernel_rfl); (case dt10 => (intro W hW; (try dsimp only at hW); go_split_ands; go_simp; (try with_reducible rfl))); (case' rt10 => simp only [Act.put, List.setIfInBounds_toArray, List.set_cons_zero, List.set_cons_succ]))
        (refine held_take (i := 1) (oi := ?ot11) (v := ?vt11) ?at11 (by kernel_rfl) (by kernel_rfl) (by kernel_rfl) ?bt11 ?ct11 ?dt11 (by assumption) ?rt11; (case at11 => (simp only [List.getElem?_toArray, List.getElem?_cons_zero, List.getElem?_cons_succ]; rfl)); (case bt11 => exact fun _ _ _ h => h); (case ct11 => kernel_rfl); (case dt11 => (intro W hW; (try dsimp only at hW); go_split_ands; go_simp; (try with_reducible rfl))); (case' rt11 => simp only [Act.put, List.setIfInBounds_toArray, List.set_cons_zero, List.set_cons_succ]))
        (refine held_take (i := 2) (oi := ?ot12) (v := ?vt12) ?at12 (by kernel_rfl) (by kernel_rfl) (by kernel_rfl) ?bt12 ?ct12 ?dt12 (by assumption) ?rt12; (case at12 => (simp only [List.getElem?_toArray, List.getElem?_cons_zero, List.getElem?_cons_succ]; rfl)); (case bt12 => exact fun _ _ _ h => h); (case ct12 => kernel_rfl); (case dt12 => (intro W hW; (try dsimp only at hW); go_split_ands; go_simp; (try with_reducible rfl))); (case' rt12 => simp only [Act.put, List.setIfInBounds_toArray, List.set_cons_zero, List.set_cons_succ]))
        (refine held_take (i := 3) (oi := ?ot13) (v := ?vt13) ?at13 (by kernel_rfl) (by kernel_rfl) (by kernel_rfl) ?bt13 ?ct13 ?dt13 (by assumption) ?rt13; (case at13 => (simp only [List.getElem?_toArray, List.getElem?_cons_zero, List.getElem?_cons_succ]; rfl)); (case bt13 => exact fun _ _ _ h => h); (case ct13 => kernel_rfl); (case dt13 => (intro W hW; (try dsimp only at hW); go_split_ands; go_simp; (try with_reducible rfl))); (case' rt13 => simp only [Act.put, List.setIfInBounds_toArray, List.set_cons_zero, List.set_cons_succ]))
        (refine held_take (i := 4) (oi := ?ot14) (v := ?vt14) ?at14 (by kernel_rfl) (by kernel_rfl) (by kernel_rfl) ?bt14 ?ct14 ?dt14 (by assumption) ?rt14; (case at14 => (simp only [List.getElem?_toArray, List.getElem?_cons_zero, List.getElem?_cons_succ]; rfl)); (case bt14 => exact fun _ _ _ h => h); (case ct14 => kernel_rfl); (case dt14 => (intro W hW; (try dsimp only at hW); go_split_ands; go_simp; (try with_reducible rfl))); (case' rt14 => simp only [Act.put, List.setIfInBounds_toArray, List.set_cons_zero, List.set_cons_succ]))
        refine held_one (i := 5) (oi := ?ot15) (by kernel_rfl) ?at15 ?ct15 (fun K5 hK5 => ?_)
        (case at15 => (simp only [List.getElem?_toArray, List.getElem?_cons_zero, List.getElem?_cons_succ]; rfl))
        (case ct15 => kernel_rfl)
        go_simp
        refine (HSP.out _ hS.1).mono ?_
        rintro e w5 ⟨rfl, hd⟩
        refine hK5 _ _ (keep2 hd hS) (fun hS5 => ?_)
        clear hS hd hK5 K5
        refine held_one (i := 6) (oi := ?ot16) (by kernel_rfl) ?at16 ?ct16 (fun K6 hK6 => ?_)
        (case at16 => (simp only [List.getElem?_toArray, List.getElem?_cons_zero, List.getElem?_cons_succ]; rfl))
        (case ct16 => kernel_rfl)
        go_simp
        refine (HWI.out _).mono ?_
        rintro e w6 ⟨rfl, hd⟩
        refine hK6 _ _ (keep2 hd hS5) (fun hS6 => ?_)
        clear hS5 hd hK6 K6
        (refine held_take (i := 7) (oi := ?ot17) (v := ?vt17) ?at17 (by kernel_rfl) (by kernel_rfl) (by kernel_rfl) ?bt17 ?ct17 ?dt17 (by assumption) ?rt17; (case at17 => (simp only [List.getElem?_toArray, List.getElem?_cons_zero, List.getElem?_cons_succ]; rfl)); (case bt17 => exact fun _ _ _ h => h); (case ct17 => kernel_rfl); (case dt17 => (intro W hW; (try dsimp only at hW); go_split_ands; go_simp; (try with_reducible rfl))); (case' rt17 => simp only [Act.put, List.setIfInBounds_toArray, List.set_cons_zero, List.set_cons_succ]))
        (refine held_take (i := 8) (oi := ?ot18) (v := ?vt18) ?at18 (by kernel_rfl) (by kernel_rfl) (by kernel_rfl) ?bt18 ?ct18 ?dt18 (by assumption) ?rt18; (case at18 => (simp only [List.getElem?_toArray, List.getElem?_cons_zero, List.getElem?_cons_succ]; rfl)); (case bt18 => exact fun _ _ _ h => h); (case ct18 => kernel_rfl); (case dt18 => (intro W hW; (try dsimp only at hW); go_split_ands; go_simp; (try with_reducible rfl))); (case' rt18 => simp only [Act.put, List.setIfInBounds_toArray, List.set_cons_zero, List.set_cons_succ]))
        refine wpAnyH_done (by kernel_rfl) ?_ _
        go_wp2
        go_ret
        exact ⟨rfl, hS6.1⟩
    · have h2' : ((c : Int) == 0) = false := by simp; omega
      have h2'' : ¬ (c : Int) = 0 := by omega
      cases hwi : within (a, c) (r1, r2) with
      | true =>
        have HWI : Hid (∀ W, Calls Try.prog 35 #[.agg #[.int .u64 (a : Int), .int .u64 (c : Int)], .agg #[.int .u64 (r1 : Int), .int .u64 (r2 : Int)]] W fun e w' => e = .returned (.bool true) ∧ Below W.heap.size W w') := Lib.hid fun W => by rw [← hwi]; exact within_any a c r1 r2 hs hr W
        have hq0 : q = 0 := by rw [hq]; unfold askR; rw [if_neg h1, if_neg (fun hh => h2 hh.1), if_pos hwi]
        subst hq0
        clear hq h1 h2 hr hs hwi
        go_enter Try.func46, Try.ntmps46
        go_wp2_with fail
        have hS0 := H0.out
        refine wp_region_held_drew (S := fun Y => Below w.heap.size w Y ∧ Y.cell? ⟨w.heap.size, 0, none⟩ = some (.int .u64 (a : Int)) ∧ Y.cell? ⟨w.heap.size, 1, none⟩ = some (.int .u64 (c : Int))) (by kernel_rfl) (drew2 hS0) (fun hS => ?_)
        (refine held_take (i := 0) (oi := ?ot19) (v := ?vt19) ?at19 (by kernel_rfl) (by kernel_rfl) (by kernel_rfl) ?bt19 ?ct19 ?dt19 (by assumption) ?rt19; (case at19 => (simp only [List.getElem?_toArray, List.getElem?_cons_zero]; rfl)); (case bt19 => exact fun _ _ _ h => h); (case ct19 => kernel_rfl); (case dt19 => (intro W hW; (try dsimp only at hW); go_split_ands; go_simp; (try with_reducible rfl))); (case' rt19 => simp only [Act.put, List.setIfInBounds_toArray, List.set_cons_zero, List.set_cons_succ]))
        (refine held_take (i := 1) (oi := ?ot20) (v := ?vt20) ?at20 (by kernel_rfl) (by kernel_rfl) (by kernel_rfl) ?bt20 ?ct20 ?dt20 (by assumption) ?rt20; (case at20 => (simp only [List.getElem?_toArray, List.getElem?_cons_zero, List.getElem?_cons_succ]; rfl)); (case bt20 => exact fun _ _ _ h => h); (case ct20 => kernel_rfl); (case dt20 => (intro W hW; (try dsimp only at hW); go_split_ands; go_simp; (try with_reducible rfl))); (case' rt20 => simp only [Act.put, List.setIfInBounds_toArray, List.set_cons_zero, List.set_cons_succ]))
        (refine held_take (i := 2) (oi := ?ot21) (v := ?vt21) ?at21 (by kernel_rfl) (by kernel_rfl) (by kernel_rfl) ?bt21 ?ct21 ?dt21 (by assumption) ?rt21; (case at21 => (simp only [List.getElem?_toArray, List.getElem?_cons_zero, List.getElem?_cons_succ]; rfl)); (case bt21 => exact fun _ _ _ h => h); (case ct21 => kernel_rfl); (case dt21 => (intro W hW; (try dsimp only at hW); go_split_ands; go_simp; (try with_reducible rfl))); (case' rt21 => simp only [Act.put, List.setIfInBounds_toArray, List.set_cons_zero, List.set_cons_succ]))
        (refine held_take (i := 3) (oi := ?ot22) (v := ?vt22) ?at22 (by kernel_rfl) (by kernel_rfl) (by kernel_rfl) ?bt22 ?ct22 ?dt22 (by assumption) ?rt22; (case at22 => (simp only [List.getElem?_toArray, List.getElem?_cons_zero, List.getElem?_cons_succ]; rfl)); (case bt22 => exact fun _ _ _ h => h); (case ct22 => kernel_rfl); (case dt22 => (intro W hW; (try dsimp only at hW); go_split_ands; go_simp; (try with_reducible rfl))); (case' rt22 => simp only [Act.put, List.setIfInBounds_toArray, List.set_cons_zero, List.set_cons_succ]))
        (refine held_take (i := 4) (oi := ?ot23) (v := ?vt23) ?at23 (by kernel_rfl) (by kernel_rfl) (by kernel_rfl) ?bt23 ?ct23 ?dt23 (by assumption) ?rt23; (case at23 => (simp only [List.getElem?_toArray, List.getElem?_cons_zero, List.getElem?_cons_succ]; rfl)); (case bt23 => exact fun _ _ _ h => h); (case ct23 => kernel_rfl); (case dt23 => (intro W hW; (try dsimp only at hW); go_split_ands; go_simp; (try with_reducible rfl))); (case' rt23 => simp only [Act.put, List.setIfInBounds_toArray, List.set_cons_zero, List.set_cons_succ]))
        refine held_one (i := 5) (oi := ?ot24) (by kernel_rfl) ?at24 ?ct24 (fun K5 hK5 => ?_)
        (case at24 => (simp only [List.getElem?_toArray, List.getElem?_cons_zero, List.getElem?_cons_succ]; rfl))
        (case ct24 => kernel_rfl)
        go_simp
        refine (HSP.out _ hS.1).mono ?_
        rintro e w5 ⟨rfl, hd⟩
        refine hK5 _ _ (keep2 hd hS) (fun hS5 => ?_)
        clear hS hd hK5 K5
        refine held_one (i := 6) (oi := ?ot25) (by kernel_rfl) ?at25 ?ct25 (fun K6 hK6 => ?_)
        (case at25 => (simp only [List.getElem?_toArray, List.getElem?_cons_zero, List.getElem?_cons_succ]; rfl))
        (case ct25 => kernel_rfl)
        go_simp
        refine (HWI.out _).mono ?_
        rintro e w6 ⟨rfl, hd⟩
        refine hK6 _ _ (keep2 hd hS5) (fun hS6 => ?_)
        clear hS5 hd hK6 K6
        (refine held_take (i := 7) (oi := ?ot26) (v := ?vt26) ?at26 (by kernel_rfl) (by kernel_rfl) (by kernel_rfl) ?bt26 ?ct26 ?dt26 (by assumption) ?rt26; (case at26 => (simp only [List.getElem?_toArray, List.getElem?_cons_zero, List.getElem?_cons_succ]; rfl)); (case bt26 => exact fun _ _ _ h => h); (case ct26 => kernel_rfl); (case dt26 => (intro W hW; (try dsimp only at hW); go_split_ands; go_simp; (try with_reducible rfl))); (case' rt26 => simp only [Act.put, List.setIfInBounds_toArray, List.set_cons_zero, List.set_cons_succ]))
        (refine held_take (i := 8) (oi := ?ot27) (v := ?vt27) ?at27 (by kernel_rfl) (by kernel_rfl) (by kernel_rfl) ?bt27 ?ct27 ?dt27 (by assumption) ?rt27; (case at27 => (simp only [List.getElem?_toArray, List.getElem?_cons_zero, List.getElem?_cons_succ]; rfl)); (case bt27 => exact fun _ _ _ h => h); (case ct27 => kernel_rfl); (case dt27 => (intro W hW; (try dsimp only at hW); go_split_ands; go_simp; (try with_reducible rfl))); (case' rt27 => simp only [Act.put, List.setIfInBounds_toArray, List.set_cons_zero, List.set_cons_succ]))
        refine wpAnyH_done (by kernel_rfl) ?_ _
        go_wp2
        go_ret
        exact ⟨rfl, hS6.1⟩
      | false =>
        have HWI : Hid (∀ W, Calls Try.prog 35 #[.agg #[.int .u64 (a : Int), .int .u64 (c : Int)], .agg #[.int .u64 (r1 : Int), .int .u64 (r2 : Int)]] W fun e w' => e = .returned (.bool false) ∧ Below W.heap.size W w') := Lib.hid fun W => by rw [← hwi]; exact within_any a c r1 r2 hs hr W
        have hq0 : q = 90 := by rw [hq]; unfold askR; rw [if_neg h1, if_neg (fun hh => h2 hh.1), hwi]; rfl
        subst hq0
        clear hq h1 h2 hr hs hwi
        go_enter Try.func46, Try.ntmps46
        go_wp2_with fail
        have hS0 := H0.out
        refine wp_region_held_drew (S := fun Y => Below w.heap.size w Y ∧ Y.cell? ⟨w.heap.size, 0, none⟩ = some (.int .u64 (a : Int)) ∧ Y.cell? ⟨w.heap.size, 1, none⟩ = some (.int .u64 (c : Int))) (by kernel_rfl) (drew2 hS0) (fun hS => ?_)
        (refine held_take (i := 0) (oi := ?ot28) (v := ?vt28) ?at28 (by kernel_rfl) (by kernel_rfl) (by kernel_rfl) ?bt28 ?ct28 ?dt28 (by assumption) ?rt28; (case at28 => (simp only [List.getElem?_toArray, List.getElem?_cons_zero]; rfl)); (case bt28 => exact fun _ _ _ h => h); (case ct28 => kernel_rfl); (case dt28 => (intro W hW; (try dsimp only at hW); go_split_ands; go_simp; (try with_reducible rfl))); (case' rt28 => simp only [Act.put, List.setIfInBounds_toArray, List.set_cons_zero, List.set_cons_succ]))
        (refine held_take (i := 1) (oi := ?ot29) (v := ?vt29) ?at29 (by kernel_rfl) (by kernel_rfl) (by kernel_rfl) ?bt29 ?ct29 ?dt29 (by assumption) ?rt29; (case at29 => (simp only [List.getElem?_toArray, List.getElem?_cons_zero, List.getElem?_cons_succ]; rfl)); (case bt29 => exact fun _ _ _ h => h); (case ct29 => kernel_rfl); (case dt29 => (intro W hW; (try dsimp only at hW); go_split_ands; go_simp; (try with_reducible rfl))); (case' rt29 => simp only [Act.put, List.setIfInBounds_toArray, List.set_cons_zero, List.set_cons_succ]))
        (refine held_take (i := 2) (oi := ?ot30) (v := ?vt30) ?at30 (by kernel_rfl) (by kernel_rfl) (by kernel_rfl) ?bt30 ?ct30 ?dt30 (by assumption) ?rt30; (case at30 => (simp only [List.getElem?_toArray, List.getElem?_cons_zero, List.getElem?_cons_succ]; rfl)); (case bt30 => exact fun _ _ _ h => h); (case ct30 => kernel_rfl); (case dt30 => (intro W hW; (try dsimp only at hW); go_split_ands; go_simp; (try with_reducible rfl))); (case' rt30 => simp only [Act.put, List.setIfInBounds_toArray, List.set_cons_zero, List.set_cons_succ]))
        (refine held_take (i := 3) (oi := ?ot31) (v := ?vt31) ?at31 (by kernel_rfl) (by kernel_rfl) (by kernel_rfl) ?bt31 ?ct31 ?dt31 (by assumption) ?rt31; (case at31 => (simp only [List.getElem?_toArray, List.getElem?_cons_zero, List.getElem?_cons_succ]; rfl)); (case bt31 => exact fun _ _ _ h => h); (case ct31 => kernel_rfl); (case dt31 => (intro W hW; (try dsimp only at hW); go_split_ands; go_simp; (try with_reducible rfl))); (case' rt31 => simp only [Act.put, List.setIfInBounds_toArray, List.set_cons_zero, List.set_cons_succ]))
        (refine held_take (i := 4) (oi := ?ot32) (v := ?vt32) ?at32 (by kernel_rfl) (by kernel_rfl) (by kernel_rfl) ?bt32 ?ct32 ?dt32 (by assumption) ?rt32; (case at32 => (simp only [List.getElem?_toArray, List.getElem?_cons_zero, List.getElem?_cons_succ]; rfl)); (case bt32 => exact fun _ _ _ h => h); (case ct32 => kernel_rfl); (case dt32 => (intro W hW; (try dsimp only at hW); go_split_ands; go_simp; (try with_reducible rfl))); (case' rt32 => simp only [Act.put, List.setIfInBounds_toArray, List.set_cons_zero, List.set_cons_succ]))
        refine held_one (i := 5) (oi := ?ot33) (by kernel_rfl) ?at33 ?ct33 (fun K5 hK5 => ?_)
        (case at33 => (simp only [List.getElem?_toArray, List.getElem?_cons_zero, List.getElem?_cons_succ]; rfl))
        (case ct33 => kernel_rfl)
        go_simp
        refine (HSP.out _ hS.1).mono ?_
        rintro e w5 ⟨rfl, hd⟩
        refine hK5 _ _ (keep2 hd hS) (fun hS5 => ?_)
        clear hS hd hK5 K5
        refine held_one (i := 6) (oi := ?ot34) (by kernel_rfl) ?at34 ?ct34 (fun K6 hK6 => ?_)
        (case at34 => (simp only [List.getElem?_toArray, List.getElem?_cons_zero, List.getElem?_cons_succ]; rfl))
        (case ct34 => kernel_rfl)
        go_simp
        refine (HWI.out _).mono ?_
        rintro e w6 ⟨rfl, hd⟩
        refine hK6 _ _ (keep2 hd hS5) (fun hS6 => ?_)
        clear hS5 hd hK6 K6
        (refine held_take (i := 7) (oi := ?ot35) (v := ?vt35) ?at35 (by kernel_rfl) (by kernel_rfl) (by kernel_rfl) ?bt35 ?ct35 ?dt35 (by assumption) ?rt35; (case at35 => (simp only [List.getElem?_toArray, List.getElem?_cons_zero, List.getElem?_cons_succ]; rfl)); (case bt35 => exact fun _ _ _ h => h); (case ct35 => kernel_rfl); (case dt35 => (intro W hW; (try dsimp only at hW); go_split_ands; go_simp; (try with_reducible rfl))); (case' rt35 => simp only [Act.put, List.setIfInBounds_toArray, List.set_cons_zero, List.set_cons_succ]))
        (refine held_take (i := 8) (oi := ?ot36) (v := ?vt36) ?at36 (by kernel_rfl) (by kernel_rfl) (by kernel_rfl) ?bt36 ?ct36 ?dt36 (by assumption) ?rt36; (case at36 => (simp only [List.getElem?_toArray, List.getElem?_cons_zero, List.getElem?_cons_succ]; rfl)); (case bt36 => exact fun _ _ _ h => h); (case ct36 => kernel_rfl); (case dt36 => (intro W hW; (try dsimp only at hW); go_split_ands; go_simp; (try with_reducible rfl))); (case' rt36 => simp only [Act.put, List.setIfInBounds_toArray, List.set_cons_zero, List.set_cons_succ]))
        refine wpAnyH_done (by kernel_rfl) ?_ _
        go_wp2
        go_ret
        exact ⟨rfl, hS6.1⟩
end Go.Proofs.Ytbemphfijkcbhaa
