/- partialInsertionSortOrdered at []uint64: the scan, the two shifts, each walked once. -/
import Derived.Test.YthedpjlafapfeaaBreak
import Derived.Sort.WalkA6
import Derived.Deep.CutBlock
namespace Go.Proofs.Ythedpjlafapfeaa
open Go.RowKit Go.Shelf Go.Lib Go.Sort Go.Proofs

set_option maxHeartbeats 8000000 in
set_option maxRecDepth 100000 in
theorem pins_any (blk off cap a b : Nat) (d : Array Int) (w : World) (hH : Holds encU w blk off d) (hab : a < b) (hb : b ≤ d.size) (hsz : d.size < 1000000) :
    Calls Try.prog 66 #[.slice (some ⟨blk, off, none⟩) d.size cap, .int .i64 a, .int .i64 b] w fun e w' =>
      e = .returned (.bool (Sort.partialInsertionSort ltInt d a b).2) ∧ ∃ n, w' = putRow encU (Sort.ahead w n) blk off (Sort.partialInsertionSort ltInt d a b).1 := by
  have HH := Lib.hid hH
  have HST := Lib.hid (putRow_self encU w blk off d hH).symm
  clear hH
  go_enter Try.func66, Try.ntmps66
  go_wp2
  go_loopw [7, 8] (fun vi vs wr => ∃ (i s n : Nat) (dk : Array Int), vi = .int .i64 i ∧ vs = .int .i64 s ∧ s ≤ 5 ∧ a < i ∧ i ≤ b ∧ dk.size = d.size ∧ Hid (wr = putRow encU (Sort.ahead w n) blk off dk) ∧ Hid (partialIns ltInt a b (5 - s) i dk = partialIns ltInt a b 5 (a + 1) d)) (fun _ vs _ => 5 - (intOf vs).toNat)
  case atStart => exact ⟨a + 1, 0, 0, d, by go_num, rfl, by omega, by omega, by omega, rfl, HST, Lib.hid rfl⟩
  case round =>
    obtain ⟨i, s, n, dk, rfl, rfl, hs5, hai, hib, hsk, HW, HO⟩ := hrel
    clear HST
    rcases Nat.lt_or_ge s 5 with hs | hs
    · go_upto_block 2 with fail
      go_cut [7] from 13 to 132 (fun v7 wx => ∃ k m : Nat, v7 = .int .i64 k ∧ a < k ∧ k ≤ b ∧ Hid (scanSorted ltInt dk b i = k) ∧ Hid (wx = putRow encU (Sort.ahead w m) blk off dk))
      case first =>
        obtain ⟨wo, rfl⟩ : ∃ wo : World, wo = wr := ⟨_, rfl⟩
        go_wp2_with fail
        go_loopw [7] (fun vi wr2 => ∃ (k m : Nat), vi = .int .i64 k ∧ i ≤ k ∧ k ≤ b ∧ Hid (wr2 = putRow encU (Sort.ahead w m) blk off dk) ∧ Hid (scanSorted ltInt dk b i = scanSorted ltInt dk b k)) (fun vi _ => b - (intOf vi).toNat)
        case atStart => exact ⟨i, n, rfl, Nat.le_refl _, hib, HW, Lib.hid rfl⟩
        case round =>
          obtain ⟨k, m, rfl, hik, hkb, HW2, HS⟩ := hrel
          obtain ⟨G, hG, hcw, hfw⟩ := row_view HH.out hsk HW2.out
          have HG := Lib.hid hG
          clear hG
          by_cases hlt : k < b
          · have hltz : (k : Int) < (b : Int) := by omega
            go_wp2_with fail
            go_big_quiet (first | (go_at_call 67; refine Calls.quiet_of_same (less_any _ _ _)))
            go_wp2_with fail
            · have hx : (!ltInt (G k) (G (k - 1))) = true := by assumption
              have hl := not_true hx
              rw [HG.out, HG.out] at hl
              have HL := Lib.hid hl
              clear hx hl
              go_roundw
              case rel => exact ⟨k + 1, m + nq, by go_num, by omega, by omega, Lib.hid (by rw [HW2.out]; exact putRow_drewN _ _ _ _ _ _ _), Lib.hid (by rw [HS.out, scanSorted_go ltInt dk b k hlt HL.out])⟩
              case measure => simp [intOf]; omega
            · have hx : (!ltInt (G k) (G (k - 1))) = false := by assumption
              have hl := not_false' hx
              rw [HG.out, HG.out] at hl
              have HL := Lib.hid hl
              clear hx hl
              go_meet
              case rel => exact ⟨k, m + nq, rfl, by omega, by omega, Lib.hid (by rw [HS.out, scanSorted_stop ltInt dk b k (Or.inr HL.out)]), Lib.hid (by rw [HW2.out]; exact putRow_drewN _ _ _ _ _ _ _)⟩
          · have hltz : decide ((k : Int) < (b : Int)) = false := decide_eq_false (by omega)
            go_wp2_with fail
            go_big_quiet (first | (go_at_call 67; refine Calls.quiet_of_same (less_any _ _ _)))
            go_wp2_with fail
            go_meet
            case rel => exact ⟨k, m + nq, rfl, by omega, by omega, Lib.hid (by rw [HS.out, scanSorted_stop ltInt dk b k (Or.inl hlt)]), Lib.hid (by rw [HW2.out]; exact putRow_drewN _ _ _ _ _ _ _)⟩
      case rest =>
        obtain ⟨k, m, rfl, hak, hkb, HS, HW2⟩ := hcut
        obtain ⟨wa, rfl⟩ : ∃ wa : World, wa = wc := ⟨_, rfl⟩
        clear HW
        by_cases hkb2 : b = k
        · have HV := Lib.hid (show Sort.partialInsertionSort ltInt d a b = (dk, true) by unfold Sort.partialInsertionSort; rw [← HO.out, pi_true ltInt a b s i dk hs (by rw [HS.out, hkb2])])
          subst hkb2
          go_wp2_with fail
          go_ret
          rw [HV.out]
          exact ⟨rfl, m, HW2.out⟩
        · have hkz : ((k : Int) == (b : Int)) = false := by simp; omega
          have hkz2 : ¬ ((k : Int) = (b : Int)) := by omega
          by_cases h50 : b - a < 50
          · have h50z : (b : Int) - (a : Int) < 50 := by omega
            have HV := Lib.hid (show Sort.partialInsertionSort ltInt d a b = (dk, false) by unfold Sort.partialInsertionSort; rw [← HO.out, pi_short ltInt a b s i dk hs (by rw [HS.out]; omega) h50])
            go_wp2_with fail
            go_ret
            rw [HV.out]
            exact ⟨rfl, m, HW2.out⟩
          · have h50z : ¬ ((b : Int) - (a : Int) < 50) := by omega
            obtain ⟨G, hG, hcw, hfw⟩ := row_view HH.out hsk HW2.out
            have HS1 := Lib.hid (show (((wa.setCell ⟨blk, off + k, none⟩ (.int .u64 (G (k - 1)))).setCell ⟨blk, off + (k - 1), none⟩ (.int .u64 (G k)))).drew = putRow encU (Sort.ahead w (m + 1)) blk off (swp dk k (k - 1)) from by
              rw [HW2.out, hG, hG]; exact swap_worldA encU w m 1 blk off dk k (k - 1) (by omega) (by omega))
            have hz1 : (swp dk k (k - 1)).size = d.size := by rw [size_swp]; exact hsk
            have HZ1 := Lib.hid hz1
            clear hG hz1
            go_wp2_with fail
            go_region
            go_upto_if 61 with fail
            obtain ⟨w1, hw1⟩ : ∃ w1, w1 = (((wa.setCell ⟨blk, off + k, none⟩ (.int .u64 (G (k - 1)))).setCell ⟨blk, off + (k - 1), none⟩ (.int .u64 (G k)))).drew := ⟨_, rfl⟩
            have HW3 := Lib.hid (hw1.trans HS1.out)
            rw [← hw1]
            clear hw1 HS1 hcw hfw hkz hkz2 h50z
            go_cut [] from 13 to 132 (fun wx => ∃ m2, Hid (wx = putRow encU (Sort.ahead w m2) blk off (fixDown ltInt a k (swp dk k (k - 1)))))
            case first =>
              by_cases hka : k - a ≥ 2
              · have hkaz : 2 ≤ (k : Int) - (a : Int) := by omega
                go_wp2_with fail
                go_loopw [9] (fun vj wr2 => ∃ (j m2 : Nat) (dj : Array Int), vj = .int .i64 j ∧ j ≤ k - 1 ∧ dj.size = d.size ∧ Hid (wr2 = putRow encU (Sort.ahead w m2) blk off dj) ∧ Hid (shiftDown ltInt j dj = shiftDown ltInt (k - 1) (swp dk k (k - 1)))) (fun vj _ => (intOf vj).toNat)
                case atStart => exact ⟨k - 1, m + 1, _, by congr 1; omega, Nat.le_refl _, HZ1.out, HW3, Lib.hid rfl⟩
                case round =>
                  obtain ⟨j, m2, dj, rfl, hjk, hsj, HW4, HD⟩ := hrel
                  obtain ⟨G2, hG, hcw, hfw⟩ := row_view HH.out hsj HW4.out
                  have HG := Lib.hid hG
                  clear hG
                  by_cases hj : 1 ≤ j
                  · have hjz : 1 ≤ (j : Int) := by omega
                    go_wp2_with fail
                    go_big_quiet (first | (go_at_call 67; refine Calls.quiet_of_same (less_any _ _ _)))
                    go_wp2_with fail
                    · have hx : (!ltInt (G2 j) (G2 (j - 1))) = true := by assumption
                      have hl := not_true hx
                      rw [HG.out, HG.out] at hl
                      have HL := Lib.hid hl
                      clear hx hl
                      go_meet
                      case rel => exact ⟨m2 + nq, Lib.hid (by rw [show fixDown ltInt a k (swp dk k (k - 1)) = dj from by unfold fixDown; rw [if_pos hka, ← HD.out, shiftDown_stop ltInt j dj (Or.inr HL.out)], HW4.out]; exact putRow_drewN _ _ _ _ _ _ _)⟩
                    · have hx : (!ltInt (G2 j) (G2 (j - 1))) = false := by assumption
                      have hl := not_false' hx
                      rw [HG.out, HG.out] at hl
                      have HL := Lib.hid hl
                      clear hx hl
                      obtain ⟨W5, hWq, HW5, hcw2, hfw2⟩ := drew_view (q := nq) HW4 hcw hfw
                      rw [← hWq]
                      clear hcw hfw hWq
                      go_region
                      all_goals go_wp2_with fail
                      go_roundw
                      case rel =>
                        refine ⟨j - 1, m2 + nq + 1, swp dj j (j - 1), by congr 1; omega, by omega, by rw [size_swp]; exact hsj, Lib.hid ?_, Lib.hid ?_⟩
                        · rw [HW5.out, HG.out, HG.out]
                          exact swap_worldA encU w (m2 + nq) 1 blk off dj j (j - 1) (by omega) (by omega)
                        · rw [← HD.out, shiftDown_go ltInt j dj hj HL.out]
                      case measure => simp [intOf]; omega
                  · have hjz : ¬ (1 ≤ (j : Int)) := by omega
                    go_wp2_with fail
                    go_meet
                    case rel => exact ⟨m2, Lib.hid (by rw [show fixDown ltInt a k (swp dk k (k - 1)) = dj from by unfold fixDown; rw [if_pos hka, ← HD.out, shiftDown_stop ltInt j dj (Or.inl (by omega))]]; exact HW4.out)⟩
              · have hkaz : ¬ (2 ≤ (k : Int) - (a : Int)) := by omega
                go_wp2_with fail
                go_meet
                case rel => exact ⟨m + 1, Lib.hid (by rw [show fixDown ltInt a k (swp dk k (k - 1)) = swp dk k (k - 1) from by unfold fixDown; rw [if_neg hka]]; exact HW3.out)⟩
            case rest =>
              obtain ⟨m2, HW4⟩ := hcut
              obtain ⟨wb, rfl⟩ : ∃ wb : World, wb = wc := ⟨_, rfl⟩
              obtain ⟨d2, hd2⟩ : ∃ d2, d2 = fixDown ltInt a k (swp dk k (k - 1)) := ⟨_, rfl⟩
              have hs2 : d2.size = d.size := by
                rw [hd2]; unfold fixDown; split
                · rw [show ∀ (j : Nat) (x : Array Int), (shiftDown ltInt j x).size = x.size from fun j => by
                    induction j with
                    | zero => intro x; rfl
                    | succ j ih => intro x; unfold shiftDown; split; rfl; rw [ih, size_swp]]
                  exact HZ1.out
                · exact HZ1.out
              have HD2 := Lib.hid hd2
              rw [← hd2] at HW4
              clear hd2
              clear HW3
              have END := Lib.hid (show ∀ (dj : Array Int) (m3 : Nat) (W : World), fixUp ltInt b k d2 = dj → dj.size = d.size → W = putRow encU (Sort.ahead w m3) blk off dj →
                  ∃ (i s' n : Nat) (dk' : Array Int), Value.int .i64 (k : Int) = .int .i64 i ∧ Value.int .i64 ((s : Int) + 1) = .int .i64 s' ∧ s' ≤ 5 ∧ a < i ∧ i ≤ b ∧ dk'.size = d.size ∧ Hid (W = putRow encU (Sort.ahead w n) blk off dk') ∧ Hid (partialIns ltInt a b (5 - s') i dk' = partialIns ltInt a b 5 (a + 1) d) from
                fun dj m3 W h1 h2 h3 => ⟨k, s + 1, m3, dj, rfl, by go_num, by omega, hak, hkb, h2, Lib.hid h3, Lib.hid (by rw [← HO.out, pi_go ltInt a b s i k dk hs HS.out (by omega) h50, ← HD2.out, h1])⟩)
              clear HD2 HS HO
              by_cases hka : b - k ≥ 2
              · have hkaz : 2 ≤ (b : Int) - (k : Int) := by omega
                go_wp2_with fail
                go_loopw [10] (fun vj wr2 => ∃ (j m3 : Nat) (dj : Array Int), vj = .int .i64 j ∧ k + 1 ≤ j ∧ j ≤ b ∧ dj.size = d.size ∧ Hid (wr2 = putRow encU (Sort.ahead w m3) blk off dj) ∧ Hid (shiftUp ltInt b j dj = shiftUp ltInt b (k + 1) d2)) (fun vj _ => b - (intOf vj).toNat)
                case atStart => exact ⟨k + 1, m2, d2, by go_num, Nat.le_refl _, by omega, hs2, HW4, Lib.hid rfl⟩
                case round =>
                  obtain ⟨j, m3, dj, rfl, hjk, hjb, hsj, HW5, HD⟩ := hrel
                  obtain ⟨G2, hG, hcw, hfw⟩ := row_view HH.out hsj HW5.out
                  have HG := Lib.hid hG
                  clear hG
                  by_cases hj : j < b
                  · have hjz : (j : Int) < (b : Int) := by omega
                    go_wp2_with fail
                    go_big_quiet (first | (go_at_call 67; refine Calls.quiet_of_same (less_any _ _ _)))
                    go_wp2_with fail
                    · have hx : (!ltInt (G2 j) (G2 (j - 1))) = true := by assumption
                      have hl := not_true hx
                      rw [HG.out, HG.out] at hl
                      have HL := Lib.hid hl
                      clear hx hl
                      go_roundw
                      case rel => exact END.out dj (m3 + nq) _ (by unfold fixUp; rw [if_pos hka, ← HD.out, shiftUp_stop ltInt b j dj (Or.inr HL.out)]) hsj (by rw [HW5.out]; exact putRow_drewN _ _ _ _ _ _ _)
                      case measure => simp [intOf]; omega
                    · have hx : (!ltInt (G2 j) (G2 (j - 1))) = false := by assumption
                      have hl := not_false' hx
                      rw [HG.out, HG.out] at hl
                      have HL := Lib.hid hl
                      clear hx hl
                      obtain ⟨W5, hWq, HW6, hcw2, hfw2⟩ := drew_view (q := nq) HW5 hcw hfw
                      rw [← hWq]
                      clear hcw hfw hWq
                      go_region
                      all_goals go_wp2_with fail
                      go_roundw
                      case rel =>
                        refine ⟨j + 1, m3 + nq + 1, swp dj j (j - 1), by go_num, by omega, by omega, by rw [size_swp]; exact hsj, Lib.hid ?_, Lib.hid ?_⟩
                        · rw [HW6.out, HG.out, HG.out]
                          exact swap_worldA encU w (m3 + nq) 1 blk off dj j (j - 1) (by omega) (by omega)
                        · rw [← HD.out, shiftUp_go ltInt b j dj hj HL.out]
                      case measure => simp [intOf]; omega
                  · have hjz : ¬ ((j : Int) < (b : Int)) := by omega
                    go_wp2_with fail
                    go_roundw
                    case rel => exact END.out dj m3 _ (by unfold fixUp; rw [if_pos hka, ← HD.out, shiftUp_stop ltInt b j dj (Or.inl hj)]) hsj HW5.out
                    case measure => simp [intOf]; omega
              · have hkaz : ¬ (2 ≤ (b : Int) - (k : Int)) := by omega
                go_wp2_with fail
                go_roundw
                case rel => exact END.out d2 m2 _ (by unfold fixUp; rw [if_neg hka]) hs2 HW4.out
                case measure => simp [intOf]; omega
    · obtain rfl : s = 5 := by omega
      have HV := Lib.hid (show Sort.partialInsertionSort ltInt d a b = (dk, false) by unfold Sort.partialInsertionSort; rw [← HO.out]; rfl)
      go_wp2_with fail
      go_ret
      rw [HV.out]
      exact ⟨rfl, n, HW.out⟩
end Go.Proofs.Ythedpjlafapfeaa
