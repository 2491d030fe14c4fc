/- The heap. -/
import Derived.Test.YthedpjlafapfeaaRev
namespace Go.Proofs.Ythedpjlafapfeaa
open Go.RowKit Go.Shelf Go.Lib Go.Sort Go.Proofs

/-- Draws alone: the row is seen as it was. -/
theorem drew_view {blk off n q m : Nat} {dk : Array Int} {w wr : World} {G : Nat → Int} (hW : Hid (wr = putRow encU (Sort.ahead w n) blk off dk)) (hc : ∀ t, t < m → wr.cell? ⟨blk, off + t, none⟩ = some (.int .u64 (G t))) (hf : ∀ t, t < m → wr.frozen? ⟨blk, off + t, none⟩ = false) :
    ∃ W, W = wr.drewN q ∧ Hid (W = putRow encU (Sort.ahead w (n + q)) blk off dk) ∧ (∀ t, t < m → W.cell? ⟨blk, off + t, none⟩ = some (.int .u64 (G t))) ∧ (∀ t, t < m → W.frozen? ⟨blk, off + t, none⟩ = false) :=
  ⟨_, rfl, Lib.hid (by rw [hW.out]; exact putRow_drewN _ _ _ _ _ _ _), hc, hf⟩

set_option maxHeartbeats 4000000 in
set_option maxRecDepth 100000 in
theorem sift_any (blk off cap lo hi F : Nat) (d : Array Int) (w : World) (hH : Holds encU w blk off d) (hlo : lo ≤ hi) (hb : F + hi ≤ d.size) (hsz : d.size < 1000000) :
    Calls Try.prog 80 #[.slice (some ⟨blk, off, none⟩) d.size cap, .int .i64 lo, .int .i64 hi, .int .i64 F] w fun e w' =>
      e = .returned (.tuple #[]) ∧ ∃ n, w' = putRow encU (Sort.ahead w n) blk off (siftDown ltInt hi F lo d) := by
  go_enter Try.func80, Try.ntmps80
  go_wp2
  go_loopw [8] (fun vr wr => ∃ (root n : Nat) (dk : Array Int), vr = .int .i64 root ∧ root ≤ hi ∧ dk.size = d.size ∧ Hid (siftDown ltInt hi F root dk = siftDown ltInt hi F lo d) ∧ Hid (wr = putRow encU (Sort.ahead w n) blk off dk)) (fun vr _ => hi - (intOf vr).toNat)
  case atStart => exact ⟨lo, 0, d, rfl, hlo, rfl, Lib.hid rfl, Lib.hid (putRow_self _ _ _ _ _ hH).symm⟩
  case round =>
    obtain ⟨root, n, dk, rfl, hrh, hsk, HP, HW⟩ := hrel
    obtain ⟨G, hG, hcw, hfw⟩ := row_view hH hsk HW.out
    have HG := Lib.hid hG
    clear hG hH
    by_cases h0 : 2 * root + 1 < hi
    · have hz0 : ¬ ((hi : Int) ≤ 2 * (root : Int) + 1) := by omega
      by_cases h1 : 2 * root + 2 < hi
      · have hz1 : 2 * (root : Int) + 1 + 1 < (hi : Int) := by omega
        go_wp2_with fail
        go_big_quiet (first | (go_at_call 67; refine Calls.quiet_of_same (less_any _ _ _)))
        go_wp2_with fail
        · have hL : ltInt (G (F + 2 * root + 1)) (G (F + 2 * root + 2)) = true := by assumption
          have HL := Lib.hid hL
          clear hL
          revert nq; intro nq1
          obtain ⟨W2, hWq, HW2, hcw2, hfw2⟩ := drew_view (q := nq1) HW hcw hfw
          rw [← hWq]
          clear hcw hfw hWq
          go_big_quiet (first | (go_at_call 67; refine Calls.quiet_of_same (less_any _ _ _)))
          go_wp2_with fail
          · have hS : ltInt (G (F + root)) (G (F + 2 * root + 2)) = false := by
              have : (!ltInt (G (F + root)) (G (F + 2 * root + 2))) = true := by assumption
              simpa using this
            ((try simp only [Exit.inBlock, Exit.then]); refine bodyPost_ret (results_none rfl _ _ _) rfl ?_)
            refine ⟨rfl, n + nq1 + nq, ?_⟩
            rw [← HP.out, sd_right_stop ltInt dk h1 (by rw [← HG.out, ← HG.out]; exact HL.out) (by rw [← HG.out, ← HG.out]; exact hS), HW2.out]
            exact putRow_drewN _ _ _ _ _ _ _
          · have hS : ltInt (G (F + root)) (G (F + 2 * root + 2)) = true := by
              have : (!ltInt (G (F + root)) (G (F + 2 * root + 2))) = false := by assumption
              simpa using this
            have HS := Lib.hid hS
            clear hS
            obtain ⟨W3, hWq, HW3, hcw3, hfw3⟩ := drew_view (q := nq) HW2 hcw2 hfw2
            rw [← hWq]
            clear hcw2 hfw2 hWq
            go_region
            all_goals go_wp2
            go_roundw
            case rel =>
              refine ⟨2 * root + 2, n + nq1 + nq + 1, swp dk (F + root) (F + 2 * root + 2), by go_num, by omega, by rw [size_swp]; exact hsk, Lib.hid ?_, Lib.hid ?_⟩
              · rw [← HP.out, sd_right_go ltInt dk h1 (by rw [← HG.out, ← HG.out]; exact HL.out) (by rw [← HG.out, ← HG.out]; exact HS.out)]; simp only [Nat.add_assoc]
              · rw [HW3.out, HG.out, HG.out]
                exact swap_worldA _ w (n + nq1 + nq) 1 blk off dk (F + root) (F + 2 * root + 2) (by omega) (by omega)
            case measure => simp [intOf]; omega
        · have hL : ltInt (G (F + 2 * root + 1)) (G (F + 2 * root + 2)) = false := by assumption
          have HL := Lib.hid hL
          clear hL
          revert nq; intro nq1
          obtain ⟨W2, hWq, HW2, hcw2, hfw2⟩ := drew_view (q := nq1) HW hcw hfw
          rw [← hWq]
          clear hcw hfw hWq
          go_big_quiet (first | (go_at_call 67; refine Calls.quiet_of_same (less_any _ _ _)))
          go_wp2_with fail
          · have hS : ltInt (G (F + root)) (G (F + 2 * root + 1)) = false := by
              have : (!ltInt (G (F + root)) (G (F + 2 * root + 1))) = true := by assumption
              simpa using this
            ((try simp only [Exit.inBlock, Exit.then]); refine bodyPost_ret (results_none rfl _ _ _) rfl ?_)
            refine ⟨rfl, n + nq1 + nq, ?_⟩
            rw [← HP.out, sd_left_stop ltInt dk h0 (fun _ => (by rw [← HG.out, ← HG.out]; exact HL.out)) (by rw [← HG.out, ← HG.out]; exact hS), HW2.out]
            exact putRow_drewN _ _ _ _ _ _ _
          · have hS : ltInt (G (F + root)) (G (F + 2 * root + 1)) = true := by
              have : (!ltInt (G (F + root)) (G (F + 2 * root + 1))) = false := by assumption
              simpa using this
            have HS := Lib.hid hS
            clear hS
            obtain ⟨W3, hWq, HW3, hcw3, hfw3⟩ := drew_view (q := nq) HW2 hcw2 hfw2
            rw [← hWq]
            clear hcw2 hfw2 hWq
            go_region
            all_goals go_wp2
            go_roundw
            case rel =>
              refine ⟨2 * root + 1, n + nq1 + nq + 1, swp dk (F + root) (F + 2 * root + 1), by go_num, by omega, by rw [size_swp]; exact hsk, Lib.hid ?_, Lib.hid ?_⟩
              · rw [← HP.out, sd_left_go ltInt dk h0 (fun _ => (by rw [← HG.out, ← HG.out]; exact HL.out)) (by rw [← HG.out, ← HG.out]; exact HS.out)]; simp only [Nat.add_assoc]
              · rw [HW3.out, HG.out, HG.out]
                exact swap_worldA _ w (n + nq1 + nq) 1 blk off dk (F + root) (F + 2 * root + 1) (by omega) (by omega)
            case measure => simp [intOf]; omega
      · have hz1 : decide (2 * (root : Int) + 1 + 1 < (hi : Int)) = false := decide_eq_false (by omega)
        have hz2 : 2 * (root : Int) + 1 + 1 ≤ 1000001 := by omega
        go_wp2_with fail
        go_big_quiet (first | (go_at_call 67; refine Calls.quiet_of_same (less_any _ _ _)))
        go_wp2_with fail
        clear hz1 hz2
        revert nq; intro nq1
        obtain ⟨W2, hWq, HW2, hcw2, hfw2⟩ := drew_view (q := nq1) HW hcw hfw
        rw [← hWq]
        clear hcw hfw hWq
        go_big_quiet (first | (go_at_call 67; refine Calls.quiet_of_same (less_any _ _ _)))
        go_wp2_with fail
        · have hS : ltInt (G (F + root)) (G (F + 2 * root + 1)) = false := by
            have : (!ltInt (G (F + root)) (G (F + 2 * root + 1))) = true := by assumption
            simpa using this
          ((try simp only [Exit.inBlock, Exit.then]); refine bodyPost_ret (results_none rfl _ _ _) rfl ?_)
          refine ⟨rfl, n + nq1 + nq, ?_⟩
          rw [← HP.out, sd_left_stop ltInt dk h0 (fun h => absurd h h1) (by rw [← HG.out, ← HG.out]; exact hS), HW2.out]
          exact putRow_drewN _ _ _ _ _ _ _
        · have hS : ltInt (G (F + root)) (G (F + 2 * root + 1)) = true := by
            have : (!ltInt (G (F + root)) (G (F + 2 * root + 1))) = false := by assumption
            simpa using this
          have HS := Lib.hid hS
          clear hS
          obtain ⟨W3, hWq, HW3, hcw3, hfw3⟩ := drew_view (q := nq) HW2 hcw2 hfw2
          rw [← hWq]
          clear hcw2 hfw2 hWq
          go_region
          all_goals go_wp2
          go_roundw
          case rel =>
            refine ⟨2 * root + 1, n + nq1 + nq + 1, swp dk (F + root) (F + 2 * root + 1), by go_num, by omega, by rw [size_swp]; exact hsk, Lib.hid ?_, Lib.hid ?_⟩
            · rw [← HP.out, sd_left_go ltInt dk h0 (fun h => absurd h h1) (by rw [← HG.out, ← HG.out]; exact HS.out)]; simp only [Nat.add_assoc]
            · rw [HW3.out, HG.out, HG.out]
              exact swap_worldA _ w (n + nq1 + nq) 1 blk off dk (F + root) (F + 2 * root + 1) (by omega) (by omega)
          case measure => simp [intOf]; omega
    · have hz0 : (hi : Int) ≤ 2 * (root : Int) + 1 := by omega
      go_wp2
      go_end0
      exact ⟨rfl, n, by rw [← HP.out, sd_end ltInt dk (by omega)]; exact HW.out⟩
end Go.Proofs.Ythedpjlafapfeaa
