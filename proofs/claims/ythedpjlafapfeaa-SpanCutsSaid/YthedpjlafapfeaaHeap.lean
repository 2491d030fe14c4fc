/- The heap: the sort. -/
import Derived.Test.YthedpjlafapfeaaSift
namespace Go.Proofs.Ythedpjlafapfeaa
open Go.RowKit Go.Shelf Go.Lib Go.Sort Go.Proofs

theorem row_then {blk off n m : Nat} {dk d2 : Array Int} {w wr W : World} (hW : wr = putRow encU (Sort.ahead w n) blk off dk) (h2 : W = putRow encU (Sort.ahead wr m) blk off d2) (hs : d2.size = dk.size) : W = putRow encU (Sort.ahead w (n + m)) blk off d2 := by
  rw [h2, hW]
  exact putRow_ahead_putRow _ _ _ _ _ _ _ _ hs
theorem row_holds {blk off n : Nat} {d dk : Array Int} {w wr : World} (hH : Holds encU w blk off d) (hs : dk.size = d.size) (hW : wr = putRow encU (Sort.ahead w n) blk off dk) : Holds encU wr blk off dk := by
  rw [hW]; exact holds_putRow encU _ blk off d dk (holds_ahead encU w n blk off d hH) hs
theorem sift_size (hi F root : Nat) (d : Array Int) : (siftDown ltInt hi F root d).size = d.size := size_siftDown ltInt hi F _ root d (Nat.le_refl _)

set_option maxHeartbeats 4000000 in
set_option maxRecDepth 100000 in
theorem heap_any (blk off cap a N : Nat) (d : Array Int) (w : World) (hH : Holds encU w blk off d) (hN : 0 < N) (hb : a + N ≤ d.size) (hsz : d.size < 1000000) :
    Calls Try.prog 62 #[.slice (some ⟨blk, off, none⟩) d.size cap, .int .i64 a, .int .i64 ((a : Int) + N)] w fun e w' =>
      e = .returned (.tuple #[]) ∧ ∃ n, w' = putRow encU (Sort.ahead w n) blk off (heapPop ltInt a N (heapBuild ltInt N a ((N - 1) / 2 + 1) d)) := by
  have hst : ((N : Int) - 1).tdiv 2 = (((N - 1) / 2 : Nat) : Int) := by rw [Int.tdiv_eq_ediv_of_nonneg (by omega)]; omega
  obtain ⟨M, hM⟩ : ∃ M, M = (N - 1) / 2 := ⟨_, rfl⟩
  rw [← hM] at hst ⊢
  have hMN : M + 1 ≤ N := by omega
  have HH := Lib.hid hH
  have HM := Lib.hid hM
  clear hM hH
  go_enter Try.func62, Try.ntmps62
  go_wp2
  clear hst
  simp only [show ((a : Int) + N - a) = N from by omega]
  go_loopw [9] (fun vi wr => ∃ (k n : Nat) (dk : Array Int), vi = .int .i64 ((k : Int) - 1) ∧ k ≤ N ∧ dk.size = d.size ∧ Hid (heapBuild ltInt N a k dk = heapBuild ltInt N a (M + 1) d) ∧ Hid (wr = putRow encU (Sort.ahead w n) blk off dk)) (fun vi _ => (intOf vi + 1).toNat)
  case atStart => exact ⟨M + 1, 0, d, by congr 1; have := HM.out; omega, hMN, rfl, Lib.hid rfl, Lib.hid (putRow_self _ _ _ _ _ HH.out).symm⟩
  case round =>
    obtain ⟨k, n, dk, rfl, hk, hsk, HP, HW⟩ := hrel
    rcases k with _ | k
    · rw [show (((0 : Nat) : Int) - 1) = -1 from rfl]
      go_wp2
      go_loopw [10] (fun vi wr2 => ∃ (k n : Nat) (dj : Array Int), vi = .int .i64 ((k : Int) - 1) ∧ k ≤ N ∧ dj.size = d.size ∧ Hid (heapPop ltInt a k dj = heapPop ltInt a N dk) ∧ Hid (wr2 = putRow encU (Sort.ahead w n) blk off dj)) (fun vi _ => (intOf vi + 1).toNat)
      case atStart => exact ⟨N, n, dk, rfl, Nat.le_refl _, hsk, Lib.hid rfl, HW⟩
      case round =>
        obtain ⟨k, n2, dj, rfl, hk2, hsj, HP2, HW2⟩ := hrel
        rcases k with _ | k
        · go_wp2
          go_end0
          exact ⟨rfl, n2, by rw [HW2.out, ← HP.out]; simp only [heapBuild]; rw [← HP2.out]; rfl⟩
        · rw [show (((k + 1 : Nat) : Int) - 1) = (k : Int) by omega]
          obtain ⟨G, hG, hcw, hfw⟩ := row_view HH.out hsj HW2.out
          have HG := Lib.hid hG
          clear hG
          have hs2 : (swp dj a (a + k)).size = d.size := by rw [size_swp]; exact hsj
          have hcon := fun (W : World) (hW : W = putRow encU (Sort.ahead w (n2 + 1)) blk off (swp dj a (a + k))) => sift_any blk off cap 0 k a (swp dj a (a + k)) W (row_holds HH.out hs2 hW) (Nat.zero_le _) (by omega) (by omega)
          rw [hs2] at hcon
          have HC := Lib.hid hcon
          have hsw := swap_worldA encU w n2 1 blk off dj a (a + k) (by omega) (by omega)
          rw [← HW2.out, ← HG.out, ← HG.out] at hsw
          have HSW := Lib.hid hsw
          clear hcon hsw
          by_cases hk0 : k = 0
          · subst hk0
            have HS0 := Lib.hid hs2
            clear hs2
            go_wp2
            go_region
            all_goals go_wp2_with (go_at_call 80; refine (HC.out _ HSW.out).mono ?_; rintro e w2 ⟨rfl, m, hw2⟩; have H2 := Lib.hid (row_then HSW.out hw2 (sift_size _ _ _ _)); clear hw2)
            go_roundw
            case rel => exact ⟨0, _, _, rfl, by omega, by rw [sift_size]; exact HS0.out, Lib.hid (by rw [← HP2.out]; rfl), H2⟩
            case measure => simp [intOf]
          · have hak : a + k < d.size := by omega
            have hne : 0 < k := by omega
            go_wp2
            go_region
            all_goals go_wp2_with (go_at_call 80; refine (HC.out _ HSW.out).mono ?_; rintro e w2 ⟨rfl, m, hw2⟩; have H2 := Lib.hid (row_then HSW.out hw2 (sift_size _ _ _ _)); clear hw2)
            go_roundw
            case rel => exact ⟨k, _, _, rfl, by omega, by rw [sift_size]; exact hs2, Lib.hid (by rw [← HP2.out]; rfl), H2⟩
            case measure => simp [intOf]
    · rw [show (((k + 1 : Nat) : Int) - 1) = (k : Int) by omega]
      have hcon := sift_any blk off cap k N a dk wr (row_holds HH.out hsk HW.out) (by omega) (by omega) (by omega)
      rw [hsk] at hcon
      have HC := Lib.hid hcon
      clear hcon
      go_wp2_with (go_at_call 80; refine HC.out.mono ?_; rintro e w2 ⟨rfl, m, hw2⟩; have H2 := Lib.hid (row_then HW.out hw2 (sift_size _ _ _ _)); clear hw2)
      go_roundw
      case rel => exact ⟨k, _, _, rfl, by omega, by rw [sift_size]; exact hsk, Lib.hid (by rw [← HP.out]; rfl), H2⟩
      case measure => simp [intOf]
end Go.Proofs.Ythedpjlafapfeaa
