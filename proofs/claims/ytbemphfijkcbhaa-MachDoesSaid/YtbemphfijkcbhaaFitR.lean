/- portreeveref09.Fit. -/
import Derived.Test.YtbemphfijkcbhaaFitA
import Derived.Test.YtbemphfijkcbhaaRwithin
namespace Go.Proofs.Ytbemphfijkcbhaa
open Go.RowKit

set_option maxRecDepth 100000 in
set_option maxHeartbeats 4000000 in
theorem rfit_any (r1 r2 l1 l2 : Nat) (i s c : Int) (hr : fit (r1, r2)) (hl : fit (l1, l2)) (w : World) :
    Calls Try.prog 12 #[.agg #[.int .u64 (r1 : Int), .int .u64 (r2 : Int), .int .u64 (l1 : Int), .int .u64 (l2 : Int), .int .i64 i, .int .i64 s, .int .i64 c]] w fun e w' => e = .returned (.int .i64 (fitE r1 r2 l1 l2 i s c : Nat)) ∧ Below w.heap.size w w' := by
  obtain ⟨V, hV⟩ : ∃ V, V = w.alloc (.cells (boxBd r1 r2 l1 l2 i s c) 26) := ⟨_, rfl⟩
  have HBA : Hid (∀ v, Below V.heap.size V v → BdAt w r1 r2 l1 l2 i s c v) := Lib.hid (by rw [hV]; exact fun v h => BdAt.of h)
  have HS : Hid (Below V.heap.size V V) := Lib.hid (Below.refl _ _)
  have HW : Hid (Below w.heap.size w V) := Lib.hid (by rw [hV]; exact (Below.refl _ _).alloc (Nat.le_refl _) _)
  obtain ⟨zR, hzR⟩ : ∃ z, z = paged (r1, r2) := ⟨_, rfl⟩
  obtain ⟨zP, hzP⟩ : ∃ z, z = paged (l1, l2) := ⟨_, rfl⟩
  obtain ⟨l, hzL⟩ : ∃ z, z = last (r1, r2) := ⟨_, rfl⟩
  obtain ⟨zW, hzW⟩ : ∃ z, z = within (l1, l2) (r1, r2) := ⟨_, rfl⟩
  have CR := Lib.hid (fun W => rpages_any r1 r2 hr W)
  have CP := Lib.hid (fun W => rpages_any l1 l2 hl W)
  have CL := Lib.hid (fun W => rlast_bel r1 r2 hr W)
  have CW := Lib.hid (fun W => rwithin_any l1 l2 r1 r2 hl hr W)
  obtain ⟨E, hE⟩ : ∃ E, E = fitE r1 r2 l1 l2 i s c := ⟨_, rfl⟩
  have he : E = if (((zR && decide (l < 1099511627776)) && (zP && zW)) && restB i s c) = true then 0 else 282 := by rw [hE, hzR, hzP, hzW, hzL]; rfl
  rw [← hE]
  rw [← hzR] at CR
  rw [← hzP] at CP
  rw [← hzL] at CL
  rw [← hzW] at CW
  have HV := Lib.hid hV
  clear hr hl hE hzR hzP hzW hzL hV
  obtain ⟨c0, c1, c2, c3, c4, c5, c6⟩ := HBA.out V HS.out
  rw [HV.out] at c0 c1 c2 c3 c4 c5 c6
  simp only [boxBd] at c0 c1 c2 c3 c4 c5 c6
  cases zR with
  | false =>
    obtain rfl : E = 282 := by rw [he]; simp
    clear he
    go_enter Try.func12, Try.ntmps12
    go_wp2_with (first
      | (go_at_call 37; first | ((with_reducible show Calls _ _ #[.agg #[.int .u64 (r1 : Int), _]] _ _); refine (CR.out _).mono ?_; rintro e v ⟨rfl, hd⟩; have hd : Below V.heap.size V v := (by rw [HV.out]; exact hd); have HS := Lib.hid (HS.out.trans (hd.mono HS.out.size)); obtain ⟨c0, c1, c2, c3, c4, c5, c6⟩ := HBA.out v HS.out; clear hd)))
    go_ret
    exact ⟨rfl, HW.out.trans (HS.out.mono HW.out.size)⟩
  | true =>
    cases zP with
    | false =>
      obtain rfl : E = 282 := by rw [he]; simp
      clear he
      go_enter Try.func12, Try.ntmps12
      go_wp2_with (first
        | (go_at_call 37; first | ((with_reducible show Calls _ _ #[.agg #[.int .u64 (r1 : Int), _]] _ _); refine (CR.out _).mono ?_; rintro e v ⟨rfl, hd⟩; have hd : Below V.heap.size V v := (by rw [HV.out]; exact hd); have HS := Lib.hid (HS.out.trans (hd.mono HS.out.size)); obtain ⟨c0, c1, c2, c3, c4, c5, c6⟩ := HBA.out v HS.out; clear hd) | ((with_reducible show Calls _ _ #[.agg #[.int .u64 (l1 : Int), _]] _ _); refine (CP.out _).mono ?_; rintro e v ⟨rfl, hd⟩; have HS := Lib.hid (HS.out.trans (hd.mono HS.out.size)); obtain ⟨c0, c1, c2, c3, c4, c5, c6⟩ := HBA.out v HS.out; clear hd)))
      go_ret
      exact ⟨rfl, HW.out.trans (HS.out.mono HW.out.size)⟩
    | true =>
      by_cases hlt : l < 1099511627776
      · have hl1 : ¬ (1099511627776 : Int) ≤ l := by omega
        have hl2 : decide ((1099511627776 : Int) ≤ l) = false := decide_eq_false hl1
        rw [decide_eq_true hlt] at he
        clear hlt
        cases zW with
        | false =>
          obtain rfl : E = 282 := by rw [he]; simp
          clear he
          go_enter Try.func12, Try.ntmps12
          go_wp2_with (first
            | (go_at_call 37; first | ((with_reducible show Calls _ _ #[.agg #[.int .u64 (r1 : Int), _]] _ _); refine (CR.out _).mono ?_; rintro e v ⟨rfl, hd⟩; have hd : Below V.heap.size V v := (by rw [HV.out]; exact hd); have HS := Lib.hid (HS.out.trans (hd.mono HS.out.size)); obtain ⟨c0, c1, c2, c3, c4, c5, c6⟩ := HBA.out v HS.out; clear hd) | ((with_reducible show Calls _ _ #[.agg #[.int .u64 (l1 : Int), _]] _ _); refine (CP.out _).mono ?_; rintro e v ⟨rfl, hd⟩; have HS := Lib.hid (HS.out.trans (hd.mono HS.out.size)); obtain ⟨c0, c1, c2, c3, c4, c5, c6⟩ := HBA.out v HS.out; clear hd))
            | (go_at_call 38; refine (CL.out _).mono ?_; rintro e v ⟨rfl, hd⟩; have HS := Lib.hid (HS.out.trans (hd.mono HS.out.size)); obtain ⟨c0, c1, c2, c3, c4, c5, c6⟩ := HBA.out v HS.out; clear hd)
            | (go_at_call 39; refine (CW.out _).mono ?_; rintro e v ⟨rfl, hd⟩; have HS := Lib.hid (HS.out.trans (hd.mono HS.out.size)); obtain ⟨c0, c1, c2, c3, c4, c5, c6⟩ := HBA.out v HS.out; clear hd))
          go_ret
          exact ⟨rfl, HW.out.trans (HS.out.mono HW.out.size)⟩
        | true =>
          by_cases n1 : i < 0
          · obtain rfl : E = 282 := by rw [he]; unfold restB; rw [if_neg]; simp; omega
            clear he
            go_enter Try.func12, Try.ntmps12
            go_wp2_with (first
              | (go_at_call 37; first | ((with_reducible show Calls _ _ #[.agg #[.int .u64 (r1 : Int), _]] _ _); refine (CR.out _).mono ?_; rintro e v ⟨rfl, hd⟩; have hd : Below V.heap.size V v := (by rw [HV.out]; exact hd); have HS := Lib.hid (HS.out.trans (hd.mono HS.out.size)); obtain ⟨c0, c1, c2, c3, c4, c5, c6⟩ := HBA.out v HS.out; clear hd) | ((with_reducible show Calls _ _ #[.agg #[.int .u64 (l1 : Int), _]] _ _); refine (CP.out _).mono ?_; rintro e v ⟨rfl, hd⟩; have HS := Lib.hid (HS.out.trans (hd.mono HS.out.size)); obtain ⟨c0, c1, c2, c3, c4, c5, c6⟩ := HBA.out v HS.out; clear hd))
              | (go_at_call 38; refine (CL.out _).mono ?_; rintro e v ⟨rfl, hd⟩; have HS := Lib.hid (HS.out.trans (hd.mono HS.out.size)); obtain ⟨c0, c1, c2, c3, c4, c5, c6⟩ := HBA.out v HS.out; clear hd)
              | (go_at_call 39; refine (CW.out _).mono ?_; rintro e v ⟨rfl, hd⟩; have HS := Lib.hid (HS.out.trans (hd.mono HS.out.size)); obtain ⟨c0, c1, c2, c3, c4, c5, c6⟩ := HBA.out v HS.out; clear hd))
            go_ret
            exact ⟨rfl, HW.out.trans (HS.out.mono HW.out.size)⟩
          · skip
            by_cases n2 : 1020 < i
            · obtain rfl : E = 282 := by rw [he]; unfold restB; rw [if_neg]; simp; omega
              clear he
              go_enter Try.func12, Try.ntmps12
              go_wp2_with (first
                | (go_at_call 37; first | ((with_reducible show Calls _ _ #[.agg #[.int .u64 (r1 : Int), _]] _ _); refine (CR.out _).mono ?_; rintro e v ⟨rfl, hd⟩; have hd : Below V.heap.size V v := (by rw [HV.out]; exact hd); have HS := Lib.hid (HS.out.trans (hd.mono HS.out.size)); obtain ⟨c0, c1, c2, c3, c4, c5, c6⟩ := HBA.out v HS.out; clear hd) | ((with_reducible show Calls _ _ #[.agg #[.int .u64 (l1 : Int), _]] _ _); refine (CP.out _).mono ?_; rintro e v ⟨rfl, hd⟩; have HS := Lib.hid (HS.out.trans (hd.mono HS.out.size)); obtain ⟨c0, c1, c2, c3, c4, c5, c6⟩ := HBA.out v HS.out; clear hd))
                | (go_at_call 38; refine (CL.out _).mono ?_; rintro e v ⟨rfl, hd⟩; have HS := Lib.hid (HS.out.trans (hd.mono HS.out.size)); obtain ⟨c0, c1, c2, c3, c4, c5, c6⟩ := HBA.out v HS.out; clear hd)
                | (go_at_call 39; refine (CW.out _).mono ?_; rintro e v ⟨rfl, hd⟩; have HS := Lib.hid (HS.out.trans (hd.mono HS.out.size)); obtain ⟨c0, c1, c2, c3, c4, c5, c6⟩ := HBA.out v HS.out; clear hd))
              go_ret
              exact ⟨rfl, HW.out.trans (HS.out.mono HW.out.size)⟩
            · skip
              by_cases n3 : s < 0
              · obtain rfl : E = 282 := by rw [he]; unfold restB; rw [if_neg]; simp; omega
                clear he
                go_enter Try.func12, Try.ntmps12
                go_wp2_with (first
                  | (go_at_call 37; first | ((with_reducible show Calls _ _ #[.agg #[.int .u64 (r1 : Int), _]] _ _); refine (CR.out _).mono ?_; rintro e v ⟨rfl, hd⟩; have hd : Below V.heap.size V v := (by rw [HV.out]; exact hd); have HS := Lib.hid (HS.out.trans (hd.mono HS.out.size)); obtain ⟨c0, c1, c2, c3, c4, c5, c6⟩ := HBA.out v HS.out; clear hd) | ((with_reducible show Calls _ _ #[.agg #[.int .u64 (l1 : Int), _]] _ _); refine (CP.out _).mono ?_; rintro e v ⟨rfl, hd⟩; have HS := Lib.hid (HS.out.trans (hd.mono HS.out.size)); obtain ⟨c0, c1, c2, c3, c4, c5, c6⟩ := HBA.out v HS.out; clear hd))
                  | (go_at_call 38; refine (CL.out _).mono ?_; rintro e v ⟨rfl, hd⟩; have HS := Lib.hid (HS.out.trans (hd.mono HS.out.size)); obtain ⟨c0, c1, c2, c3, c4, c5, c6⟩ := HBA.out v HS.out; clear hd)
                  | (go_at_call 39; refine (CW.out _).mono ?_; rintro e v ⟨rfl, hd⟩; have HS := Lib.hid (HS.out.trans (hd.mono HS.out.size)); obtain ⟨c0, c1, c2, c3, c4, c5, c6⟩ := HBA.out v HS.out; clear hd))
                go_ret
                exact ⟨rfl, HW.out.trans (HS.out.mono HW.out.size)⟩
              · skip
                by_cases n4 : 256 < s
                · obtain rfl : E = 282 := by rw [he]; unfold restB; rw [if_neg]; simp; omega
                  clear he
                  go_enter Try.func12, Try.ntmps12
                  go_wp2_with (first
                    | (go_at_call 37; first | ((with_reducible show Calls _ _ #[.agg #[.int .u64 (r1 : Int), _]] _ _); refine (CR.out _).mono ?_; rintro e v ⟨rfl, hd⟩; have hd : Below V.heap.size V v := (by rw [HV.out]; exact hd); have HS := Lib.hid (HS.out.trans (hd.mono HS.out.size)); obtain ⟨c0, c1, c2, c3, c4, c5, c6⟩ := HBA.out v HS.out; clear hd) | ((with_reducible show Calls _ _ #[.agg #[.int .u64 (l1 : Int), _]] _ _); refine (CP.out _).mono ?_; rintro e v ⟨rfl, hd⟩; have HS := Lib.hid (HS.out.trans (hd.mono HS.out.size)); obtain ⟨c0, c1, c2, c3, c4, c5, c6⟩ := HBA.out v HS.out; clear hd))
                    | (go_at_call 38; refine (CL.out _).mono ?_; rintro e v ⟨rfl, hd⟩; have HS := Lib.hid (HS.out.trans (hd.mono HS.out.size)); obtain ⟨c0, c1, c2, c3, c4, c5, c6⟩ := HBA.out v HS.out; clear hd)
                    | (go_at_call 39; refine (CW.out _).mono ?_; rintro e v ⟨rfl, hd⟩; have HS := Lib.hid (HS.out.trans (hd.mono HS.out.size)); obtain ⟨c0, c1, c2, c3, c4, c5, c6⟩ := HBA.out v HS.out; clear hd))
                  go_ret
                  exact ⟨rfl, HW.out.trans (HS.out.mono HW.out.size)⟩
                · skip
                  by_cases n5 : c < 1
                  · obtain rfl : E = 282 := by rw [he]; unfold restB; rw [if_neg]; simp; omega
                    clear he
                    go_enter Try.func12, Try.ntmps12
                    go_wp2_with (first
                      | (go_at_call 37; first | ((with_reducible show Calls _ _ #[.agg #[.int .u64 (r1 : Int), _]] _ _); refine (CR.out _).mono ?_; rintro e v ⟨rfl, hd⟩; have hd : Below V.heap.size V v := (by rw [HV.out]; exact hd); have HS := Lib.hid (HS.out.trans (hd.mono HS.out.size)); obtain ⟨c0, c1, c2, c3, c4, c5, c6⟩ := HBA.out v HS.out; clear hd) | ((with_reducible show Calls _ _ #[.agg #[.int .u64 (l1 : Int), _]] _ _); refine (CP.out _).mono ?_; rintro e v ⟨rfl, hd⟩; have HS := Lib.hid (HS.out.trans (hd.mono HS.out.size)); obtain ⟨c0, c1, c2, c3, c4, c5, c6⟩ := HBA.out v HS.out; clear hd))
                      | (go_at_call 38; refine (CL.out _).mono ?_; rintro e v ⟨rfl, hd⟩; have HS := Lib.hid (HS.out.trans (hd.mono HS.out.size)); obtain ⟨c0, c1, c2, c3, c4, c5, c6⟩ := HBA.out v HS.out; clear hd)
                      | (go_at_call 39; refine (CW.out _).mono ?_; rintro e v ⟨rfl, hd⟩; have HS := Lib.hid (HS.out.trans (hd.mono HS.out.size)); obtain ⟨c0, c1, c2, c3, c4, c5, c6⟩ := HBA.out v HS.out; clear hd))
                    go_ret
                    exact ⟨rfl, HW.out.trans (HS.out.mono HW.out.size)⟩
                  · skip
                    by_cases n6 : 32 < c
                    · obtain rfl : E = 282 := by rw [he]; unfold restB; rw [if_neg]; simp; omega
                      clear he
                      go_enter Try.func12, Try.ntmps12
                      go_wp2_with (first
                        | (go_at_call 37; first | ((with_reducible show Calls _ _ #[.agg #[.int .u64 (r1 : Int), _]] _ _); refine (CR.out _).mono ?_; rintro e v ⟨rfl, hd⟩; have hd : Below V.heap.size V v := (by rw [HV.out]; exact hd); have HS := Lib.hid (HS.out.trans (hd.mono HS.out.size)); obtain ⟨c0, c1, c2, c3, c4, c5, c6⟩ := HBA.out v HS.out; clear hd) | ((with_reducible show Calls _ _ #[.agg #[.int .u64 (l1 : Int), _]] _ _); refine (CP.out _).mono ?_; rintro e v ⟨rfl, hd⟩; have HS := Lib.hid (HS.out.trans (hd.mono HS.out.size)); obtain ⟨c0, c1, c2, c3, c4, c5, c6⟩ := HBA.out v HS.out; clear hd))
                        | (go_at_call 38; refine (CL.out _).mono ?_; rintro e v ⟨rfl, hd⟩; have HS := Lib.hid (HS.out.trans (hd.mono HS.out.size)); obtain ⟨c0, c1, c2, c3, c4, c5, c6⟩ := HBA.out v HS.out; clear hd)
                        | (go_at_call 39; refine (CW.out _).mono ?_; rintro e v ⟨rfl, hd⟩; have HS := Lib.hid (HS.out.trans (hd.mono HS.out.size)); obtain ⟨c0, c1, c2, c3, c4, c5, c6⟩ := HBA.out v HS.out; clear hd))
                      go_ret
                      exact ⟨rfl, HW.out.trans (HS.out.mono HW.out.size)⟩
                    · skip
                      obtain rfl : E = 0 := by rw [he]; unfold restB; rw [if_pos]; simp; omega
                      clear he
                      have HNN := Lib.hid (And.intro n1 (And.intro n2 (And.intro n3 (And.intro n4 (And.intro n5 n6)))))
                      clear n1 n2 n3 n4 n5 n6
                      go_enter Try.func12, Try.ntmps12
                      obtain ⟨n1, n2, n3, n4, n5, n6⟩ := HNN.out
                      have d1 : decide (i < 0) = false := decide_eq_false n1
                      have d2 : decide ((1020 : Int) < i) = false := decide_eq_false n2
                      have d3 : decide (s < 0) = false := decide_eq_false n3
                      have d4 : decide ((256 : Int) < s) = false := decide_eq_false n4
                      have d5 : decide (c < 1) = false := decide_eq_false n5
                      have d6 : decide ((32 : Int) < c) = false := decide_eq_false n6
                      clear n1 n2 n3 n4 n5 n6
                      go_wp2_with (first
                        | (go_at_call 37; first | ((with_reducible show Calls _ _ #[.agg #[.int .u64 (r1 : Int), _]] _ _); refine (CR.out _).mono ?_; rintro e v ⟨rfl, hd⟩; have hd : Below V.heap.size V v := (by rw [HV.out]; exact hd); have HS := Lib.hid (HS.out.trans (hd.mono HS.out.size)); obtain ⟨c0, c1, c2, c3, c4, c5, c6⟩ := HBA.out v HS.out; clear hd) | ((with_reducible show Calls _ _ #[.agg #[.int .u64 (l1 : Int), _]] _ _); refine (CP.out _).mono ?_; rintro e v ⟨rfl, hd⟩; have HS := Lib.hid (HS.out.trans (hd.mono HS.out.size)); obtain ⟨c0, c1, c2, c3, c4, c5, c6⟩ := HBA.out v HS.out; clear hd))
                        | (go_at_call 38; refine (CL.out _).mono ?_; rintro e v ⟨rfl, hd⟩; have HS := Lib.hid (HS.out.trans (hd.mono HS.out.size)); obtain ⟨c0, c1, c2, c3, c4, c5, c6⟩ := HBA.out v HS.out; clear hd)
                        | (go_at_call 39; refine (CW.out _).mono ?_; rintro e v ⟨rfl, hd⟩; have HS := Lib.hid (HS.out.trans (hd.mono HS.out.size)); obtain ⟨c0, c1, c2, c3, c4, c5, c6⟩ := HBA.out v HS.out; clear hd))
                      go_ret
                      exact ⟨rfl, HW.out.trans (HS.out.mono HW.out.size)⟩
      · have hl1 : (1099511627776 : Int) ≤ l := by omega
        have hl2 : decide ((1099511627776 : Int) ≤ l) = true := decide_eq_true hl1
        rw [decide_eq_false hlt] at he
        clear hlt
        obtain rfl : E = 282 := by rw [he]; simp
        clear he
        go_enter Try.func12, Try.ntmps12
        go_wp2_with (first
          | (go_at_call 37; first | ((with_reducible show Calls _ _ #[.agg #[.int .u64 (r1 : Int), _]] _ _); refine (CR.out _).mono ?_; rintro e v ⟨rfl, hd⟩; have hd : Below V.heap.size V v := (by rw [HV.out]; exact hd); have HS := Lib.hid (HS.out.trans (hd.mono HS.out.size)); obtain ⟨c0, c1, c2, c3, c4, c5, c6⟩ := HBA.out v HS.out; clear hd) | ((with_reducible show Calls _ _ #[.agg #[.int .u64 (l1 : Int), _]] _ _); refine (CP.out _).mono ?_; rintro e v ⟨rfl, hd⟩; have HS := Lib.hid (HS.out.trans (hd.mono HS.out.size)); obtain ⟨c0, c1, c2, c3, c4, c5, c6⟩ := HBA.out v HS.out; clear hd))
          | (go_at_call 38; refine (CL.out _).mono ?_; rintro e v ⟨rfl, hd⟩; have HS := Lib.hid (HS.out.trans (hd.mono HS.out.size)); obtain ⟨c0, c1, c2, c3, c4, c5, c6⟩ := HBA.out v HS.out; clear hd))
        go_ret
        exact ⟨rfl, HW.out.trans (HS.out.mono HW.out.size)⟩
end Go.Proofs.Ytbemphfijkcbhaa
