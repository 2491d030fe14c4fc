/- breakPatternsOrdered: the numbers are permuted within the part. -/
import Derived.Test.YthedpjlafapfeaaSt
namespace Go.Proofs.Ythedpjlafapfeaa
open Go.RowKit Go.Shelf Go.Lib Go.Sort Go.Proofs

theorem npot_any (n : Nat) (hn : n < 1000000) (w : World) : Calls Try.prog 81 #[.int .i64 n] w fun e w' => e = .returned (.int .u64 ((1 <<< bitsLen n : Nat) : Int)) ∧ w' = w :=
  AnyF.nextPowerOfTwo (P := Try.prog) (ρ := layF_ren) { layF with } n (by omega) w
theorem next_any (rb X : Nat) (hX : X < 18446744073709551616) (w : World) (hc : w.cell? ⟨rb, 0, none⟩ = some (.int .u64 X)) (hf : w.frozen? ⟨rb, 0, none⟩ = false) :
    Calls Try.prog 82 #[.pointer (some ⟨rb, 0, none⟩)] w fun e w' => e = .returned (.int .u64 (xorNextN X : Nat)) ∧ w' = (w.setCell ⟨rb, 0, none⟩ (.int .u64 (xorNextN X : Nat))).drewN 3 :=
  AnyF.xorshift_Next (P := Try.prog) (ρ := layF_ren) { layF with } rb 0 X hX w hc hf

theorem box_far {W : World} {sb blk : Nat} {v : Value} (h : W.cell? ⟨sb, 0, none⟩ = some v ∧ W.frozen? ⟨sb, 0, none⟩ = false) (hne : blk ≠ sb) (i j : Nat) (u u' : Value) {q : Nat} :
    (((W.drewN q).setCell ⟨blk, i, none⟩ u).setCell ⟨blk, j, none⟩ u').cell? ⟨sb, 0, none⟩ = some v ∧ (((W.drewN q).setCell ⟨blk, i, none⟩ u).setCell ⟨blk, j, none⟩ u').frozen? ⟨sb, 0, none⟩ = false := by
  refine ⟨?_, ?_⟩
  · rw [World.cell?_setCell_far _ ⟨blk, j, none⟩ ⟨sb, 0, none⟩ _ hne, World.cell?_setCell_far _ ⟨blk, i, none⟩ ⟨sb, 0, none⟩ _ hne, World.cell?_drewN]; exact h.1
  · rw [World.frozen?_setCell, World.frozen?_setCell, World.frozen?_drewN]; exact h.2
set_option maxHeartbeats 4000000 in
set_option maxRecDepth 100000 in
theorem break_any (blk off cap a N : Nat) (d : Array Int) (w0 w : World) (h0 : St w0 w blk off d) (hN : 12 < N) (hb : a + N ≤ d.size) (hsz : d.size < 1000000) :
    Calls Try.prog 63 #[.slice (some ⟨blk, off, none⟩) d.size cap, .int .i64 a, .int .i64 ((a : Int) + N)] w fun e w' =>
      e = .returned (.tuple #[]) ∧ ∃ d', PermIn a (a + N) d d' ∧ St w0 w' blk off d' := by
  obtain ⟨M, hM⟩ : ∃ M : Nat, M = 1 <<< bitsLen N := ⟨_, rfl⟩
  have hM1 : 1 ≤ M := by rw [hM, Nat.one_shiftLeft]; exact Nat.two_pow_pos _
  have hM2 : M ≤ 2 * N := by rw [hM, Nat.one_shiftLeft]; exact two_pow_bitsLen_le (by omega)
  have HN := Lib.hid (show ∀ w, Calls Try.prog 81 #[.int .i64 N] w fun e w' => e = .returned (.int .u64 (M : Int)) ∧ w' = w by rw [hM]; exact fun w => npot_any N (by omega) w)
  have H0 := Lib.hid h0
  have hsb := h0.grown.size
  have h8z : (8 : Int) ≤ (N : Int) := by omega
  have hLz : ((a : Int) + (N : Int) - (a : Int)) = (N : Int) := by omega
  clear hM h0
  go_enter Try.func63, Try.ntmps63
  go_wp2_with (go_at_call 81; refine (HN.out _).mono ?_; rintro e w' ⟨rfl, rfl⟩)
  obtain ⟨Q, hQ⟩ : ∃ Q, Q = N / 4 := ⟨_, rfl⟩
  have HQ := Lib.hid (show (N : Int) / 4 = (Q : Int) ∧ 4 * Q ≤ N ∧ N < 4 * Q + 4 by omega)
  have hQ3 : 3 ≤ Q := by omega
  have hQN : 4 * Q ≤ N := by omega
  have HNE := Lib.hid (show blk ≠ w.heap.size by have := H0.out.lt; have := H0.out.grown.size; omega)
  clear hQ
  go_loopw [9] (fun vi wr => ∃ (x X : Nat) (dk : Array Int), vi = .int .i64 x ∧ a ≤ x ∧ x ≤ a + Q * 2 + 2 ∧ Hid (PermIn a (a + N) d dk) ∧ X < 18446744073709551616 ∧ Hid (St w0 wr blk off dk) ∧ Hid (wr.cell? ⟨w.heap.size, 0, none⟩ = some (.int .u64 (X : Int)) ∧ wr.frozen? ⟨w.heap.size, 0, none⟩ = false)) (fun vi _ => a + Q * 2 + 2 - (intOf vi).toNat)
  case atStart => exact ⟨a + Q * 2 - 1, N, d, by congr 1; have := HQ.out; omega, by omega, by omega, Lib.hid (permIn_refl d a (a + N)), by omega, Lib.hid (H0.out.below ((RowKit.Below.refl _ w).alloc (Nat.le_refl _) _)), Lib.hid (by simp)⟩
  case round =>
    obtain ⟨x, X, dk, rfl, hax, hxq, HP, lX, HSt, BX0⟩ := hrel
    have hsk := HP.out.1
    by_cases hlt : x ≤ a + Q * 2 + 1
    · have hlt2 : (x : Int) ≤ (a : Int) + (N : Int) / 4 * 2 + 1 := by have := HQ.out; omega
      have hxN : x < a + N := by omega
      obtain ⟨R', hR'⟩ : ∃ R' : Nat, R' = xorNextN X := ⟨_, rfl⟩
      have lR' : R' < 18446744073709551616 := by rw [hR']; exact xorNextN_lt X lX
      obtain ⟨O, hO⟩ : ∃ O : Nat, O = R' &&& (M - 1) := ⟨_, rfl⟩
      have lO : O ≤ M - 1 := by rw [hO]; exact Nat.and_le_right
      have eAnd : bits .and .u64 (R' : Int) ((M : Int) - 1) = (O : Int) := by
        rw [show ((M : Int) - 1) = ((M - 1 : Nat) : Int) by omega, bits_and_u64_nat _ _ lR' (by omega), hO]
      have hNext := next_any w.heap.size X lX wr BX0.out.1 BX0.out.2
      rw [← hR'] at hNext
      have HX := Lib.hid hNext
      have S2 := Lib.hid (HSt.out.other (sb := w.heap.size) hsb (.int .u64 (R' : Int)) 3)
      have BX := Lib.hid (show ((wr.setCell ⟨w.heap.size, 0, none⟩ (.int .u64 (R' : Int))).drewN 3).cell? ⟨w.heap.size, 0, none⟩ = some (.int .u64 (R' : Int)) ∧ ((wr.setCell ⟨w.heap.size, 0, none⟩ (.int .u64 (R' : Int))).drewN 3).frozen? ⟨w.heap.size, 0, none⟩ = false by
        rw [World.cell?_drewN, World.frozen?_drewN, World.frozen?_setCell]
        exact ⟨World.cell?_setCell_same _ _ _ BX0.out.1, BX0.out.2⟩)
      clear hR' hO hNext HSt BX0
      generalize (wr.setCell ⟨w.heap.size, 0, none⟩ (.int .u64 (R' : Int))).drewN 3 = w2 at HX S2 BX
      obtain ⟨G, hG, hcw, hfw⟩ := st_view S2.out hsk
      have HG := Lib.hid hG
      clear hG
      have hOz : (O : Int) ≤ 2000000 := by omega
      by_cases hNO : N ≤ O
      · have hNOz : (N : Int) ≤ (O : Int) := by omega
        obtain ⟨y, hy⟩ : ∃ y, y = O - N := ⟨_, rfl⟩
        have hyN : y < N := by omega
        have hyz : (O : Int) - (N : Int) = (y : Int) := by omega
        clear hy
        go_wp2_with (go_at_call 82; refine HX.out.mono ?_; rintro e w3 ⟨rfl, rfl⟩)
        clear eAnd hlt2 hyz
        rcases Nat.lt_trichotomy x (a + y) with hxy | hxy | hxy
        · go_region
          all_goals go_wp2
          go_roundw
          case rel => exact ⟨x + 1, R', swp dk x (a + y), by go_num, by omega, by omega, Lib.hid (perm_swp HP.out (by omega) (by omega) (by omega) (by omega) (by omega)), lR', Lib.hid (by have := S2.out.swap (i := x) (j := (a + y)) (by omega) (by omega) 1; rw [← HG.out, ← HG.out] at this; exact this), Lib.hid (box_far BX.out HNE.out _ _ _ _)⟩
          case measure => simp [intOf]; omega
        · subst hxy
          go_region
          all_goals go_wp2
          go_roundw
          case rel => exact ⟨(a + y) + 1, R', swp dk (a + y) (a + y), by go_num, by omega, by omega, Lib.hid (perm_swp HP.out (by omega) (by omega) (by omega) (by omega) (by omega)), lR', Lib.hid (by have := S2.out.swap (i := (a + y)) (j := (a + y)) (by omega) (by omega) 1; rw [← HG.out] at this; exact this), Lib.hid (box_far BX.out HNE.out _ _ _ _)⟩
          case measure => simp [intOf]; omega
        · go_region
          all_goals go_wp2
          go_roundw
          case rel => exact ⟨x + 1, R', swp dk x (a + y), by go_num, by omega, by omega, Lib.hid (perm_swp HP.out (by omega) (by omega) (by omega) (by omega) (by omega)), lR', Lib.hid (by have := S2.out.swap (i := x) (j := (a + y)) (by omega) (by omega) 1; rw [← HG.out, ← HG.out] at this; exact this), Lib.hid (box_far BX.out HNE.out _ _ _ _)⟩
          case measure => simp [intOf]; omega
      · have hNOz : ¬ ((N : Int) ≤ (O : Int)) := by omega
        have hyN : O < N := by omega
        go_wp2_with (go_at_call 82; refine HX.out.mono ?_; rintro e w3 ⟨rfl, rfl⟩)
        clear eAnd hlt2
        rcases Nat.lt_trichotomy x (a + O) with hxy | hxy | hxy
        · go_region
          all_goals go_wp2
          go_roundw
          case rel => exact ⟨x + 1, R', swp dk x (a + O), by go_num, by omega, by omega, Lib.hid (perm_swp HP.out (by omega) (by omega) (by omega) (by omega) (by omega)), lR', Lib.hid (by have := S2.out.swap (i := x) (j := (a + O)) (by omega) (by omega) 1; rw [← HG.out, ← HG.out] at this; exact this), Lib.hid (box_far BX.out HNE.out _ _ _ _)⟩
          case measure => simp [intOf]; omega
        · subst hxy
          go_region
          all_goals go_wp2
          go_roundw
          case rel => exact ⟨(a + O) + 1, R', swp dk (a + O) (a + O), by go_num, by omega, by omega, Lib.hid (perm_swp HP.out (by omega) (by omega) (by omega) (by omega) (by omega)), lR', Lib.hid (by have := S2.out.swap (i := (a + O)) (j := (a + O)) (by omega) (by omega) 1; rw [← HG.out] at this; exact this), Lib.hid (box_far BX.out HNE.out _ _ _ _)⟩
          case measure => simp [intOf]; omega
        · go_region
          all_goals go_wp2
          go_roundw
          case rel => exact ⟨x + 1, R', swp dk x (a + O), by go_num, by omega, by omega, Lib.hid (perm_swp HP.out (by omega) (by omega) (by omega) (by omega) (by omega)), lR', Lib.hid (by have := S2.out.swap (i := x) (j := (a + O)) (by omega) (by omega) 1; rw [← HG.out, ← HG.out] at this; exact this), Lib.hid (box_far BX.out HNE.out _ _ _ _)⟩
          case measure => simp [intOf]; omega
    · have hlt2 : ¬ ((x : Int) ≤ (a : Int) + (N : Int) / 4 * 2 + 1) := by have := HQ.out; omega
      go_wp2
      go_end0
      exact ⟨rfl, dk, HP.out, HSt.out⟩
end Go.Proofs.Ythedpjlafapfeaa
