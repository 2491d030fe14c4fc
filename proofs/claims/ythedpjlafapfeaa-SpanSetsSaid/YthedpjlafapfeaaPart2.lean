/- partitionOrdered. -/
import Derived.Test.YthedpjlafapfeaaPart
namespace Go.Proofs.Ythedpjlafapfeaa
open Go.RowKit Go.Shelf Go.Lib Go.Sort Go.Proofs

/-- What partition has so far: between a and i all less than p, right of j none. -/
structure PT (a b : Nat) (d : Array Int) (p : Int) (i j : Nat) (dk : Array Int) : Prop where
  perm : PermIn a b d dk
  piv : dk[a]! = p
  left : ∀ t, a < t → t < i → ltInt dk[t]! p = true
  right : ∀ t, j < t → t < b → ltInt dk[t]! p = false
theorem PT.up {a b : Nat} {d dk : Array Int} {p : Int} {i j : Nat} (h : PT a b d p i j dk) (hi : ltInt dk[i]! p = true) : PT a b d p (i + 1) j dk :=
  ⟨h.perm, h.piv, fun t h1 h2 => (Nat.lt_succ_iff_lt_or_eq.1 h2).elim (h.left t h1) (fun e => e ▸ hi), h.right⟩
theorem PT.down {a b : Nat} {d dk : Array Int} {p : Int} {i j : Nat} (h : PT a b d p i j dk) (hj : ltInt dk[j]! p = false) (h0 : 0 < j) : PT a b d p i (j - 1) dk :=
  ⟨h.perm, h.piv, h.left, fun t h1 h2 => (Nat.lt_or_ge j t).elim (fun h3 => h.right t h3 h2) (fun h3 => (show t = j by omega) ▸ hj)⟩
theorem PT.swap {a b : Nat} {d dk : Array Int} {p : Int} {i j : Nat} (h : PT a b d p i j dk) (hb : b ≤ d.size) (hai : a < i) (hij : i < j) (hjb : j < b) (hi : ltInt dk[i]! p = false) (hj : ltInt dk[j]! p = true) : PT a b d p (i + 1) (j - 1) (swp dk i j) := by
  have hs := h.perm.1
  have g := swp_at (d := dk) (i := i) (j := j) (by omega) (by omega)
  refine ⟨perm_swp h.perm hb (by omega) (by omega) (by omega) hjb, by rw [g, if_neg (by omega), if_neg (by omega)]; exact h.piv, fun t h1 h2 => ?_, fun t h1 h2 => ?_⟩
  · rw [g, if_neg (by omega)]
    split
    · exact hj
    · exact h.left t h1 (by omega)
  · rw [g]
    split
    · exact hi
    · rw [if_neg (by omega)]; exact h.right t (by omega) h2
theorem PT.fin {a b : Nat} {d dk : Array Int} {p : Int} {j : Nat} (h : PT a b d p (j + 1) j dk) (hb : b ≤ d.size) (haj : a ≤ j) (hjb : j < b) : a ≤ j ∧ j < b ∧ PermIn a b d (swp dk j a) ∧
    (∀ t, a ≤ t → t < j → ltInt (swp dk j a)[t]! (swp dk j a)[j]! = true) ∧ (∀ t, j < t → t < b → ltInt (swp dk j a)[t]! (swp dk j a)[j]! = false) := by
  have hs := h.perm.1
  have g := swp_at (d := dk) (i := j) (j := a) (by omega) (by omega)
  have gj : (swp dk j a)[j]! = p := by
    rw [g]
    split
    · rename_i e; rw [e]; exact h.piv
    · rw [if_pos rfl]; exact h.piv
  refine ⟨haj, hjb, perm_swp h.perm hb haj hjb (Nat.le_refl _) (by omega), fun t h1 h2 => ?_, fun t h1 h2 => ?_⟩
  · rw [gj, g]
    split
    · exact h.left j (by omega) (by omega)
    · rw [if_neg (by omega)]; exact h.left t (by omega) (by omega)
  · rw [gj, g, if_neg (by omega), if_neg (by omega)]
    exact h.right t h1 h2
theorem lt_fact2 {G : Nat → Int} {dk : Array Int} {p : Int} {a : Nat} (HG : Hid (∀ t, G t = dk[t]!)) (hp : dk[a]! = p) {i : Nat} {o : Bool} (h : ltInt (G i) (G a) = o) : ltInt dk[i]! p = o := by
  rw [HG.out, HG.out, hp] at h; exact h

set_option maxHeartbeats 4000000 in
set_option maxRecDepth 100000 in
theorem part_any (blk off cap a b pivot : Nat) (d : Array Int) (w : World) (hH : Holds encU w blk off d) (hap : a < pivot) (hpb : pivot < b) (hb : b ≤ d.size) (hsz : d.size < 1000000) :
    Calls Try.prog 69 #[.slice (some ⟨blk, off, none⟩) d.size cap, .int .i64 a, .int .i64 b, .int .i64 pivot] w fun e w' =>
      ∃ (m : Nat) (f : Bool) (n : Nat) (d' : Array Int), e = .returned (.tuple #[.int .i64 m, .bool f]) ∧ a ≤ m ∧ m < b ∧ PermIn a b d d' ∧ (∀ t, a ≤ t → t < m → ltInt d'[t]! d'[m]! = true) ∧ (∀ t, m < t → t < b → ltInt d'[t]! d'[m]! = false) ∧ w' = putRow encU (Sort.ahead w n) blk off d' := by
  obtain ⟨p, hp⟩ : ∃ p, p = d[pivot]! := ⟨_, rfl⟩
  have HH := Lib.hid hH
  obtain ⟨G, hG, hcw, hfw⟩ := row_view (n := 0) hH rfl (putRow_self encU w blk off d hH).symm
  have hsw := swap_worldA encU w 0 1 blk off d a pivot (by omega) (by omega)
  rw [show putRow encU (Sort.ahead w 0) blk off d = w from putRow_self encU w blk off d hH, ← hG, ← hG] at hsw
  have hpa : (swp d a pivot)[a]! = p := by rw [swp_left d a pivot (by omega) (by omega)]; exact hp.symm
  have HS := Lib.hid hsw
  have HP0 := Lib.hid (show PT a b d p (a + 1) (b - 1) (swp d a pivot) from ⟨swp_permIn d a b a pivot (Nat.le_refl _) (by omega) (by omega) hpb hb, hpa, fun t h1 h2 => by omega, fun t h1 h2 => by omega⟩)
  have hsk : (swp d a pivot).size = d.size := size_swp d a pivot
  clear hG hsw hpa hp hH
  go_enter Try.func69, Try.ntmps69
  go_wp2
  go_region
  all_goals go_wp2
  clear hcw hfw
  obtain ⟨d1, hd1⟩ : ∃ d1, d1 = swp d a pivot := ⟨_, rfl⟩
  obtain ⟨j1, hj1⟩ : ∃ j1, j1 = b - 1 := ⟨_, rfl⟩
  have hjz : (b : Int) - 1 = (j1 : Int) := by omega
  have hab1 : a + 1 ≤ j1 + 1 := by omega
  have hjb : j1 < b := by omega
  rw [← hd1] at HP0 hsk HS
  rw [← hj1] at HP0
  rw [hjz]
  clear hd1 hj1 hjz
  go_loopw [10] (fun vi wr2 => ∃ (i n : Nat), vi = .int .i64 i ∧ (a + 1) ≤ i ∧ i ≤ j1 + 1 ∧ Hid (PT a b d p i j1 d1) ∧ Hid (wr2 = putRow encU (Sort.ahead w n) blk off d1)) (fun vi _ => j1 + 1 - (intOf vi).toNat)
  case atStart => exact ⟨(a + 1), 1, by go_num, Nat.le_refl _, hab1, HP0, HS⟩
  case round =>
    obtain ⟨i, n, rfl, hai, hij, HP, HW⟩ := hrel
    obtain ⟨G, hG, hcw, hfw⟩ := row_view HH.out hsk HW.out
    have HG := Lib.hid hG
    clear hG
    by_cases h1 : i ≤ j1
    · have h1z : (i : Int) ≤ (j1 : Nat) := by omega
      go_wp2_with fail
      go_big_quiet (first | (go_at_call 67; refine Calls.quiet_of_same (less_any _ _ _)))
      go_wp2_with fail
      · have hx : ltInt (G i) (G a) = true := by assumption
        have HX := Lib.hid (lt_fact2 HG HP.out.piv hx)
        clear hx
        go_wp2
        go_roundw
        case rel => exact ⟨i + 1, n + nq, by go_num, by omega, by omega, Lib.hid (HP.out.up HX.out), Lib.hid (by rw [HW.out]; exact putRow_drewN _ _ _ _ _ _ _)⟩
        case measure => simp [intOf]; omega
      · have hx : ltInt (G i) (G a) = false := by assumption
        have HX := Lib.hid (lt_fact2 HG HP.out.piv hx)
        clear hx
        obtain ⟨W2, hWq, HW2, hcw2, hfw2⟩ := drew_view (q := nq) HW hcw hfw
        rw [← hWq]
        clear hcw hfw hWq hcw2 hfw2
        go_wp2
        go_loopw [11] (fun vj wr2 => ∃ (j2 n : Nat), vj = .int .i64 j2 ∧ i ≤ j2 + 1 ∧ j2 ≤ j1 ∧ Hid (PT a b d p i j2 d1) ∧ Hid (wr2 = putRow encU (Sort.ahead w n) blk off d1)) (fun vj _ => (intOf vj).toNat)
        case atStart => exact ⟨j1, n + nq, by go_num, hij, Nat.le_refl _, HP, HW2⟩
        case round =>
          obtain ⟨j2, n2, rfl, hij2, hjj, HP2, HW3⟩ := hrel
          obtain ⟨G2, hG2, hcw2, hfw2⟩ := row_view HH.out hsk HW3.out
          have HG2 := Lib.hid hG2
          clear hG2
          by_cases h2 : i ≤ j2
          · have h2z : (i : Int) ≤ (j2 : Int) := by omega
            go_wp2_with fail
            go_big_quiet (first | (go_at_call 67; refine Calls.quiet_of_same (less_any _ _ _)))
            go_wp2_with fail
            · have hx : (!ltInt (G2 j2) (G2 a)) = true := by assumption
              have HY := Lib.hid (lt_fact2 HG2 HP2.out.piv (not_true hx))
              clear hx
              go_wp2
              go_roundw
              case rel => exact ⟨j2 - 1, n2 + nq, by go_num, by omega, by omega, Lib.hid (HP2.out.down HY.out (by omega)), Lib.hid (by rw [HW3.out]; exact putRow_drewN _ _ _ _ _ _ _)⟩
              case measure => simp [intOf]; omega
            · have hx : (!ltInt (G2 j2) (G2 a)) = false := by assumption
              have HY := Lib.hid (lt_fact2 HG2 HP2.out.piv (not_false' hx))
              clear hx
              have hlt : i < j2 := by
                rcases Nat.lt_or_ge i j2 with h | h
                · exact h
                · obtain rfl : i = j2 := by omega
                  have := HX.out; rw [HY.out] at this; cases this
              revert nq; intro nq1
              obtain ⟨W4, hWq, HW4, hcw3, hfw3⟩ := drew_view (q := nq1) HW3 hcw2 hfw2
              rw [← hWq]
              clear hcw2 hfw2 hWq
              go_wp2
              go_region
              all_goals go_wp2
              have HS4 := Lib.hid (show (((W4.drewN 1).setCell ⟨blk, off + i, none⟩ (.int .u64 (G2 j2))).setCell ⟨blk, off + j2, none⟩ (.int .u64 (G2 i))) = putRow encU (Sort.ahead w (n2 + nq1 + 1)) blk off (swp d1 i j2) from by
                rw [HW4.out, HG2.out, HG2.out]; exact swap_worldA encU w (n2 + nq1) 1 blk off d1 i j2 (by omega) (by omega))
              have HPS := Lib.hid (HP2.out.swap hb (by omega) hlt (by omega) HX.out HY.out)
              go_loopw [10, 11] (fun vi vj wr => ∃ (i j n : Nat) (dk : Array Int), vi = .int .i64 i ∧ vj = .int .i64 j ∧ a < i ∧ i ≤ j + 1 ∧ j < b ∧ Hid (PT a b d p i j dk) ∧ Hid (wr = putRow encU (Sort.ahead w n) blk off dk)) (fun vi vj _ => (intOf vj + 1).toNat - (intOf vi).toNat)
              case atStart => exact ⟨i + 1, j2 - 1, n2 + nq1 + 1, _, by go_num, by go_num, by omega, by omega, by omega, HPS, HS4⟩
              case round =>
                clear HPS HS4 HW4 HW3 HW2 hcw3 hfw3 HX HY HP HP2 HG HG2 HW h1z h2z hij2 hjj hij hai hlt
                obtain ⟨i0, j, n0, dk, rfl, rfl, hai0, hij0, hjb, HP0, HW0⟩ := hrel
                have hsk := HP0.out.perm.1
                go_wp2
                go_loopw [10] (fun vi wr2 => ∃ (i n : Nat), vi = .int .i64 i ∧ i0 ≤ i ∧ i ≤ j + 1 ∧ Hid (PT a b d p i j dk) ∧ Hid (wr2 = putRow encU (Sort.ahead w n) blk off dk)) (fun vi _ => j + 1 - (intOf vi).toNat)
                case atStart => exact ⟨i0, n0, by go_num, Nat.le_refl _, hij0, HP0, HW0⟩
                case round =>
                  obtain ⟨i, n, rfl, hai, hij, HP, HW⟩ := hrel
                  obtain ⟨G, hG, hcw, hfw⟩ := row_view HH.out hsk HW.out
                  have HG := Lib.hid hG
                  clear hG
                  by_cases h1 : i ≤ j
                  · have h1z : (i : Int) ≤ (j : Nat) := by omega
                    go_wp2_with fail
                    go_big_quiet (first | (go_at_call 67; refine Calls.quiet_of_same (less_any _ _ _)))
                    go_wp2_with fail
                    · have hx : ltInt (G i) (G a) = true := by assumption
                      have HX := Lib.hid (lt_fact2 HG HP.out.piv hx)
                      clear hx
                      go_wp2
                      go_roundw
                      case rel => exact ⟨i + 1, n + nq, by go_num, by omega, by omega, Lib.hid (HP.out.up HX.out), Lib.hid (by rw [HW.out]; exact putRow_drewN _ _ _ _ _ _ _)⟩
                      case measure => simp [intOf]; omega
                    · have hx : ltInt (G i) (G a) = false := by assumption
                      have HX := Lib.hid (lt_fact2 HG HP.out.piv hx)
                      clear hx
                      obtain ⟨W2, hWq, HW2, hcw2, hfw2⟩ := drew_view (q := nq) HW hcw hfw
                      rw [← hWq]
                      clear hcw hfw hWq hcw2 hfw2
                      go_wp2
                      go_loopw [11] (fun vj wr2 => ∃ (j2 n : Nat), vj = .int .i64 j2 ∧ i ≤ j2 + 1 ∧ j2 ≤ j ∧ Hid (PT a b d p i j2 dk) ∧ Hid (wr2 = putRow encU (Sort.ahead w n) blk off dk)) (fun vj _ => (intOf vj).toNat)
                      case atStart => exact ⟨j, n + nq, by go_num, hij, Nat.le_refl _, HP, HW2⟩
                      case round =>
                        obtain ⟨j2, n2, rfl, hij2, hjj, HP2, HW3⟩ := hrel
                        obtain ⟨G2, hG2, hcw2, hfw2⟩ := row_view HH.out hsk HW3.out
                        have HG2 := Lib.hid hG2
                        clear hG2
                        by_cases h2 : i ≤ j2
                        · have h2z : (i : Int) ≤ (j2 : Int) := by omega
                          go_wp2_with fail
                          go_big_quiet (first | (go_at_call 67; refine Calls.quiet_of_same (less_any _ _ _)))
                          go_wp2_with fail
                          · have hx : (!ltInt (G2 j2) (G2 a)) = true := by assumption
                            have HY := Lib.hid (lt_fact2 HG2 HP2.out.piv (not_true hx))
                            clear hx
                            go_wp2
                            go_roundw
                            case rel => exact ⟨j2 - 1, n2 + nq, by go_num, by omega, by omega, Lib.hid (HP2.out.down HY.out (by omega)), Lib.hid (by rw [HW3.out]; exact putRow_drewN _ _ _ _ _ _ _)⟩
                            case measure => simp [intOf]; omega
                          · have hx : (!ltInt (G2 j2) (G2 a)) = false := by assumption
                            have HY := Lib.hid (lt_fact2 HG2 HP2.out.piv (not_false' hx))
                            clear hx
                            have hlt : i < j2 := by
                              rcases Nat.lt_or_ge i j2 with h | h
                              · exact h
                              · obtain rfl : i = j2 := by omega
                                have := HX.out; rw [HY.out] at this; cases this
                            revert nq; intro nq1
                            obtain ⟨W4, hWq, HW4, hcw3, hfw3⟩ := drew_view (q := nq1) HW3 hcw2 hfw2
                            rw [← hWq]
                            clear hcw2 hfw2 hWq
                            go_wp2
                            go_region
                            all_goals go_wp2
                            have HS4 := Lib.hid (show (((W4.drewN 1).setCell ⟨blk, off + i, none⟩ (.int .u64 (G2 j2))).setCell ⟨blk, off + j2, none⟩ (.int .u64 (G2 i))) = putRow encU (Sort.ahead w (n2 + nq1 + 1)) blk off (swp dk i j2) from by
                              rw [HW4.out, HG2.out, HG2.out]; exact swap_worldA encU w (n2 + nq1) 1 blk off dk i j2 (by omega) (by omega))
                            have HPS := Lib.hid (HP2.out.swap hb (by omega) hlt (by omega) HX.out HY.out)
                            go_roundw
                            case rel => exact ⟨i + 1, j2 - 1, n2 + nq1 + 1, _, by go_num, by go_num, by omega, by omega, by omega, HPS, HS4⟩
                            case measure => simp [intOf]; omega
                        · have h2z : ¬ ((i : Int) ≤ (j2 : Int)) := by omega
                          have h3z : (j2 : Int) < (i : Int) := by omega
                          go_wp2_with fail
                          go_big_quiet (first | (go_at_call 67; refine Calls.quiet_of_same (less_any _ _ _)))
                          revert nq; intro nq1
                          obtain ⟨W4, hWq, HW4, hcw3, hfw3⟩ := drew_view (q := nq1) HW3 hcw2 hfw2
                          rw [← hWq]
                          clear hcw2 hfw2 hWq
                          go_wp2
                          obtain rfl : i = j2 + 1 := by omega
                          have HPE := HP2
                          have HGE := HG2
                          have hjb2 : j2 < b := by omega
                          have haj2 : a ≤ j2 := by omega
                          have hF := HPE.out.fin hb haj2 hjb2
                          rcases Nat.lt_or_ge a (j2) with haj | haj
                          · go_region
                            all_goals go_wp2
                            go_ret2
                            refine ⟨j2, _, n2 + nq1 + 1, swp dk j2 a, rfl, hF.1, hF.2.1, hF.2.2.1, hF.2.2.2.1, hF.2.2.2.2, ?_⟩
                            rw [HW4.out]
                            simp only [HGE.out]
                            exact swap_worldA encU w (n2 + nq1) 1 blk off dk j2 a (by omega) (by omega)
                          · have hja : j2 = a := by omega
                            subst hja
                            go_region
                            all_goals go_wp2
                            go_ret2
                            refine ⟨j2, _, n2 + nq1 + 1, swp dk j2 j2, rfl, hF.1, hF.2.1, hF.2.2.1, hF.2.2.2.1, hF.2.2.2.2, ?_⟩
                            rw [HW4.out]
                            simp only [HGE.out]
                            exact swap_worldA encU w (n2 + nq1) 1 blk off dk j2 j2 (by omega) (by omega)
                  · have h1z : ¬ ((i : Int) ≤ (j : Nat)) := by omega
                    have h3z : ((j : Nat) : Int) < (i : Int) := by omega
                    go_wp2_with fail
                    go_big_quiet (first | (go_at_call 67; refine Calls.quiet_of_same (less_any _ _ _)))
                    go_wp2_with fail
                    obtain ⟨W2, hWq, HW2, hcw2, hfw2⟩ := drew_view (q := nq) HW hcw hfw
                    rw [← hWq]
                    clear hcw hfw hWq hcw2 hfw2
                    go_loopw [11] (fun vj wr2 => vj = .int .i64 (j : Nat) ∧ ∃ n : Nat, Hid (wr2 = putRow encU (Sort.ahead w n) blk off dk)) (fun _ _ => 0)
                    case atStart => exact ⟨by go_num, _, HW2⟩
                    case round =>
                      obtain ⟨rfl, n3, HW3⟩ := hrel
                      obtain ⟨G3, hG3, hcw3, hfw3⟩ := row_view HH.out hsk HW3.out
                      have HGE := Lib.hid hG3
                      clear hG3
                      go_wp2_with fail
                      go_big_quiet (first | (go_at_call 67; refine Calls.quiet_of_same (less_any _ _ _)))
                      revert nq; intro nq1
                      obtain ⟨W4, hWq, HW4, hcw4, hfw4⟩ := drew_view (q := nq1) HW3 hcw3 hfw3
                      rw [← hWq]
                      clear hcw3 hfw3 hWq
                      go_wp2
                      obtain rfl : i = j + 1 := by omega
                      have HPE := HP
                      have hjb2 : j < b := by omega
                      have haj2 : a ≤ j := by omega
                      have hF := HPE.out.fin hb haj2 hjb2
                      rcases Nat.lt_or_ge a (j) with haj | haj
                      · go_region
                        all_goals go_wp2
                        go_ret2
                        refine ⟨j, _, n3 + nq1 + 1, swp dk j a, rfl, hF.1, hF.2.1, hF.2.2.1, hF.2.2.2.1, hF.2.2.2.2, ?_⟩
                        rw [HW4.out]
                        simp only [HGE.out]
                        exact swap_worldA encU w (n3 + nq1) 1 blk off dk j a (by omega) (by omega)
                      · have hja : j = a := by omega
                        subst hja
                        go_region
                        all_goals go_wp2
                        go_ret2
                        refine ⟨j, _, n3 + nq1 + 1, swp dk j j, rfl, hF.1, hF.2.1, hF.2.2.1, hF.2.2.2.1, hF.2.2.2.2, ?_⟩
                        rw [HW4.out]
                        simp only [HGE.out]
                        exact swap_worldA encU w (n3 + nq1) 1 blk off dk j j (by omega) (by omega)
          · have h2z : ¬ ((i : Int) ≤ (j2 : Int)) := by omega
            have h3z : (j2 : Int) < (i : Int) := by omega
            go_wp2_with fail
            go_big_quiet (first | (go_at_call 67; refine Calls.quiet_of_same (less_any _ _ _)))
            revert nq; intro nq1
            obtain ⟨W4, hWq, HW4, hcw3, hfw3⟩ := drew_view (q := nq1) HW3 hcw2 hfw2
            rw [← hWq]
            clear hcw2 hfw2 hWq
            go_wp2
            obtain rfl : i = j2 + 1 := by omega
            have HPE := HP2
            have HGE := HG2
            have hjb2 : j2 < b := by omega
            have haj2 : a ≤ j2 := by omega
            have hF := HPE.out.fin hb haj2 hjb2
            rcases Nat.lt_or_ge a (j2) with haj | haj
            · go_region
              all_goals go_wp2
              go_ret2
              refine ⟨j2, _, n2 + nq1 + 1, swp d1 j2 a, rfl, hF.1, hF.2.1, hF.2.2.1, hF.2.2.2.1, hF.2.2.2.2, ?_⟩
              rw [HW4.out]
              simp only [HGE.out]
              exact swap_worldA encU w (n2 + nq1) 1 blk off d1 j2 a (by omega) (by omega)
            · have hja : j2 = a := by omega
              subst hja
              go_region
              all_goals go_wp2
              go_ret2
              refine ⟨j2, _, n2 + nq1 + 1, swp d1 j2 j2, rfl, hF.1, hF.2.1, hF.2.2.1, hF.2.2.2.1, hF.2.2.2.2, ?_⟩
              rw [HW4.out]
              simp only [HGE.out]
              exact swap_worldA encU w (n2 + nq1) 1 blk off d1 j2 j2 (by omega) (by omega)
    · have h1z : ¬ ((i : Int) ≤ (j1 : Nat)) := by omega
      have h3z : ((j1 : Nat) : Int) < (i : Int) := by omega
      go_wp2_with fail
      go_big_quiet (first | (go_at_call 67; refine Calls.quiet_of_same (less_any _ _ _)))
      go_wp2_with fail
      obtain ⟨W2, hWq, HW2, hcw2, hfw2⟩ := drew_view (q := nq) HW hcw hfw
      rw [← hWq]
      clear hcw hfw hWq hcw2 hfw2
      go_loopw [11] (fun vj wr2 => vj = .int .i64 (j1 : Nat) ∧ ∃ n : Nat, Hid (wr2 = putRow encU (Sort.ahead w n) blk off d1)) (fun _ _ => 0)
      case atStart => exact ⟨by go_num, _, HW2⟩
      case round =>
        obtain ⟨rfl, n3, HW3⟩ := hrel
        obtain ⟨G3, hG3, hcw3, hfw3⟩ := row_view HH.out hsk HW3.out
        have HGE := Lib.hid hG3
        clear hG3
        go_wp2_with fail
        go_big_quiet (first | (go_at_call 67; refine Calls.quiet_of_same (less_any _ _ _)))
        revert nq; intro nq1
        obtain ⟨W4, hWq, HW4, hcw4, hfw4⟩ := drew_view (q := nq1) HW3 hcw3 hfw3
        rw [← hWq]
        clear hcw3 hfw3 hWq
        go_wp2
        obtain rfl : i = j1 + 1 := by omega
        have HPE := HP
        have hjb2 : j1 < b := by omega
        have haj2 : a ≤ j1 := by omega
        have hF := HPE.out.fin hb haj2 hjb2
        rcases Nat.lt_or_ge a (j1) with haj | haj
        · go_region
          all_goals go_wp2
          go_ret2
          refine ⟨j1, _, n3 + nq1 + 1, swp d1 j1 a, rfl, hF.1, hF.2.1, hF.2.2.1, hF.2.2.2.1, hF.2.2.2.2, ?_⟩
          rw [HW4.out]
          simp only [HGE.out]
          exact swap_worldA encU w (n3 + nq1) 1 blk off d1 j1 a (by omega) (by omega)
        · have hja : j1 = a := by omega
          subst hja
          go_region
          all_goals go_wp2
          go_ret2
          refine ⟨j1, _, n3 + nq1 + 1, swp d1 j1 j1, rfl, hF.1, hF.2.1, hF.2.2.1, hF.2.2.2.1, hF.2.2.2.2, ?_⟩
          rw [HW4.out]
          simp only [HGE.out]
          exact swap_worldA encU w (n3 + nq1) 1 blk off d1 j1 j1 (by omega) (by omega)
end Go.Proofs.Ythedpjlafapfeaa
