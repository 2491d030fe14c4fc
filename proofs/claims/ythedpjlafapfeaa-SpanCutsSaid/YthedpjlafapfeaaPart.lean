/- The partitions. -/
import Derived.Test.YthedpjlafapfeaaHeap
import Derived.Sort.LotC
namespace Go.Proofs.Ythedpjlafapfeaa
open Go.RowKit Go.Shelf Go.Lib Go.Sort Go.Proofs

theorem swp_at {d : Array Int} {i j : Nat} (hi : i < d.size) (hj : j < d.size) (k : Nat) : (swp d i j)[k]! = if k = j then d[i]! else if k = i then d[j]! else d[k]! := swp_get d hi hj k
/-- What partitionEqual has so far: left of i nothing that p is less than, right of j all such. -/
structure PE (a b : Nat) (d : Array Int) (p : Int) (i j : Nat) (dk : Array Int) : Prop where
  perm : PermIn a b d dk
  piv : dk[a]! = p
  left : ∀ t, a ≤ t → t < i → ltInt p dk[t]! = false
  right : ∀ t, j < t → t < b → ltInt p dk[t]! = true
theorem PE.up {a b : Nat} {d dk : Array Int} {p : Int} {i j : Nat} (h : PE a b d p i j dk) (hi : ltInt p dk[i]! = false) : PE a b d p (i + 1) j dk :=
  ⟨h.perm, h.piv, fun t h1 h2 => (Nat.lt_succ_iff_lt_or_eq.1 h2).elim (h.left t h1) (fun e => e ▸ hi), h.right⟩
theorem PE.down {a b : Nat} {d dk : Array Int} {p : Int} {i j : Nat} (h : PE a b d p i j dk) (hj : ltInt p dk[j]! = true) (h0 : 0 < j) : PE a b d p i (j - 1) dk :=
  ⟨h.perm, h.piv, h.left, fun t h1 h2 => (Nat.lt_or_ge j t).elim (fun h3 => h.right t h3 h2) (fun h3 => (show t = j by omega) ▸ hj)⟩
theorem PE.swap {a b : Nat} {d dk : Array Int} {p : Int} {i j : Nat} (h : PE a b d p i j dk) (hb : b ≤ d.size) (hai : a < i) (hij : i < j) (hjb : j < b) (hi : ltInt p dk[i]! = true) (hj : ltInt p dk[j]! = false) : PE a b d p (i + 1) (j - 1) (swp dk i j) := by
  have hs := h.perm.1
  have g := swp_at (d := dk) (i := i) (j := j) (by omega) (by omega)
  refine ⟨perm_swp h.perm hb (by omega) (by omega) (by omega) hjb, by rw [g, if_neg (by omega), if_neg (by omega)]; exact h.piv, fun t h1 h2 => ?_, fun t h1 h2 => ?_⟩
  · rw [g, if_neg (by omega)]
    split
    · exact hj
    · exact h.left t h1 (by omega)
  · rw [g]
    split
    · exact hi
    · rw [if_neg (by omega)]; exact h.right t (by omega) h2
theorem lt_fact {G : Nat → Int} {dk : Array Int} {p : Int} {a : Nat} (HG : Hid (∀ t, G t = dk[t]!)) (hp : dk[a]! = p) {i : Nat} {o : Bool} (h : ltInt (G a) (G i) = o) : ltInt p dk[i]! = o := by
  rw [HG.out, HG.out, hp] at h; exact h
theorem not_true {x : Bool} (h : (!x) = true) : x = false := by simpa using h
theorem not_false' {x : Bool} (h : (!x) = false) : x = true := by simpa using h

set_option maxHeartbeats 4000000 in
set_option maxRecDepth 100000 in
theorem parteq_any (blk off cap a b pivot : Nat) (d : Array Int) (w : World) (hH : Holds encU w blk off d) (hap : a < pivot) (hpb : pivot < b) (hb : b ≤ d.size) (hsz : d.size < 1000000) (hle : ∀ i, a ≤ i → i < b → ltInt d[i]! d[pivot]! = false) :
    Calls Try.prog 68 #[.slice (some ⟨blk, off, none⟩) d.size cap, .int .i64 a, .int .i64 b, .int .i64 pivot] w fun e w' =>
      ∃ (m n : Nat) (d' : Array Int), e = .returned (.int .i64 m) ∧ a < m ∧ m ≤ b ∧ PermIn a b d d' ∧ (∀ i, a ≤ i → i < m → ltInt d[pivot]! d'[i]! = false) ∧ (∀ i, m ≤ i → i < b → ltInt d[pivot]! d'[i]! = true) ∧ w' = putRow encU (Sort.ahead w n) blk off d' := by
  obtain ⟨p, hp⟩ : ∃ p, p = d[pivot]! := ⟨_, rfl⟩
  rw [← hp] at hle ⊢
  have HH := Lib.hid hH
  obtain ⟨G, hG, hcw, hfw⟩ := row_view (n := 0) hH rfl (putRow_self encU w blk off d hH).symm
  have hsw := swap_worldA encU w 0 1 blk off d a pivot (by omega) (by omega)
  rw [show putRow encU (Sort.ahead w 0) blk off d = w from putRow_self encU w blk off d hH, ← hG, ← hG] at hsw
  have hpa : (swp d a pivot)[a]! = p := by rw [swp_left d a pivot (by omega) (by omega)]; exact hp.symm
  have HS := Lib.hid hsw
  have HP0 := Lib.hid (show PE a b d p (a + 1) (b - 1) (swp d a pivot) from ⟨swp_permIn d a b a pivot (Nat.le_refl _) (by omega) (by omega) hpb hb, hpa, fun t h1 h2 => by
    obtain rfl : t = a := by omega
    rw [hpa]; simp [ltInt], fun t h1 h2 => by omega⟩)
  clear hG hsw hpa hp hH hle
  go_enter Try.func68, Try.ntmps68
  go_wp2
  go_region
  all_goals go_wp2
  go_loopw [9, 10] (fun vi vj wr => ∃ (i j n : Nat) (dk : Array Int), vi = .int .i64 i ∧ vj = .int .i64 j ∧ a < i ∧ i ≤ j + 1 ∧ j < b ∧ Hid (PE a b d p i j dk) ∧ Hid (wr = putRow encU (Sort.ahead w n) blk off dk)) (fun vi vj _ => (intOf vj + 1).toNat - (intOf vi).toNat)
  case atStart => exact ⟨a + 1, b - 1, 1, swp d a pivot, by go_num, by go_num, by omega, by omega, by omega, HP0, HS⟩
  case round =>
    obtain ⟨i0, j, n0, dk, rfl, rfl, hai0, hij0, hjb, HP0, HW0⟩ := hrel
    have hsk := HP0.out.perm.1
    clear hcw hfw
    go_wp2
    go_loopw [9] (fun vi wr2 => ∃ (i n : Nat), vi = .int .i64 i ∧ i0 ≤ i ∧ i ≤ j + 1 ∧ Hid (PE a b d p i j dk) ∧ Hid (wr2 = putRow encU (Sort.ahead w n) blk off dk)) (fun vi _ => j + 1 - (intOf vi).toNat)
    case atStart => exact ⟨i0, n0, rfl, Nat.le_refl _, hij0, HP0, HW0⟩
    case round =>
      obtain ⟨i, n, rfl, hai, hij, HP, HW⟩ := hrel
      obtain ⟨G, hG, hcw, hfw⟩ := row_view HH.out hsk HW.out
      have HG := Lib.hid hG
      clear hG
      by_cases h1 : i ≤ j
      · have h1z : (i : Int) ≤ (j : Int) := by omega
        go_wp2_with fail
        go_big_quiet (first | (go_at_call 67; refine Calls.quiet_of_same (less_any _ _ _)))
        go_wp2_with fail
        · have hx : (!ltInt (G a) (G i)) = true := by assumption
          have HX := Lib.hid (lt_fact HG HP.out.piv (not_true hx))
          clear hx
          go_wp2
          go_roundw
          case rel => exact ⟨i + 1, n + nq, by go_num, by omega, by omega, Lib.hid (HP.out.up HX.out), Lib.hid (by rw [HW.out]; exact putRow_drewN _ _ _ _ _ _ _)⟩
          case measure => simp [intOf]; omega
        · have hx : (!ltInt (G a) (G i)) = false := by assumption
          have HX := Lib.hid (lt_fact HG HP.out.piv (not_false' hx))
          clear hx
          obtain ⟨W2, hWq, HW2, hcw2, hfw2⟩ := drew_view (q := nq) HW hcw hfw
          rw [← hWq]
          clear hcw hfw hWq hcw2 hfw2
          go_wp2
          go_loopw [10] (fun vj wr2 => ∃ (j2 n : Nat), vj = .int .i64 j2 ∧ i ≤ j2 + 1 ∧ j2 ≤ j ∧ Hid (PE a b d p i j2 dk) ∧ Hid (wr2 = putRow encU (Sort.ahead w n) blk off dk)) (fun vj _ => (intOf vj).toNat)
          case atStart => exact ⟨j, n + nq, rfl, hij, Nat.le_refl _, HP, HW2⟩
          case round =>
            obtain ⟨j2, n2, rfl, hij2, hjj, HP2, HW3⟩ := hrel
            obtain ⟨G2, hG2, hcw2, hfw2⟩ := row_view HH.out hsk HW3.out
            have HG2 := Lib.hid hG2
            clear hG2
            by_cases h2 : i ≤ j2
            · have h2z : (i : Int) ≤ (j2 : Int) := by omega
              go_wp2_with fail
              go_big_quiet (first | (go_at_call 67; refine Calls.quiet_of_same (less_any _ _ _)))
              go_wp2_with fail
              · have hx : ltInt (G2 a) (G2 j2) = true := by assumption
                have HY := Lib.hid (lt_fact HG2 HP2.out.piv hx)
                clear hx
                go_wp2
                go_roundw
                case rel => exact ⟨j2 - 1, _, by go_num, by omega, by omega, Lib.hid (HP2.out.down HY.out (by omega)), Lib.hid (by rw [HW3.out]; exact putRow_drewN _ _ _ _ _ _ _)⟩
                case measure => simp [intOf]; omega
              · have hx : ltInt (G2 a) (G2 j2) = false := by assumption
                have HY := Lib.hid (lt_fact HG2 HP2.out.piv hx)
                clear hx
                have hlt : i < j2 := by
                  rcases Nat.lt_or_ge i j2 with h | h
                  · exact h
                  · obtain rfl : i = j2 := by omega
                    have := HX.out; rw [HY.out] at this; cases this
                obtain ⟨W4, hWq, HW4, hcw3, hfw3⟩ := drew_view (q := nq) HW3 hcw2 hfw2
                rw [← hWq]
                clear hcw2 hfw2 hWq
                go_wp2
                go_region
                all_goals go_wp2
                go_roundw
                case rel =>
                  refine ⟨i + 1, j2 - 1, n2 + nq + 1, swp dk i j2, by go_num, by go_num, by omega, by omega, by omega, Lib.hid (HP2.out.swap hb (by omega) hlt (by omega) HX.out HY.out), Lib.hid ?_⟩
                  rw [HW4.out, HG2.out, HG2.out]
                  exact swap_worldA _ w (n2 + nq) 1 blk off dk i j2 (by omega) (by omega)
                case measure => simp [intOf]; omega
            · have h2z : ¬ ((i : Int) ≤ (j2 : Int)) := by omega
              have h3z : (j2 : Int) < (i : Int) := by omega
              go_wp2_with fail
              go_big_quiet (first | (go_at_call 67; refine Calls.quiet_of_same (less_any _ _ _)))
              go_wp2
              go_ret
              obtain ⟨W4, hWq, HW4, hcw3, hfw3⟩ := drew_view (q := nq) HW3 hcw2 hfw2
              exact ⟨i, _, dk, rfl, by omega, by omega, HP2.out.perm, HP2.out.left, fun t h4 h5 => HP2.out.right t (by omega) h5, hWq ▸ HW4.out⟩
      · have h1z : ¬ ((i : Int) ≤ (j : Int)) := by omega
        have h3z : (j : Int) < (i : Int) := by omega
        go_wp2_with fail
        go_big_quiet (first | (go_at_call 67; refine Calls.quiet_of_same (less_any _ _ _)))
        go_wp2_with fail
        obtain ⟨W2, hWq, HW2, hcw2, hfw2⟩ := drew_view (q := nq) HW hcw hfw
        rw [← hWq]
        clear hcw hfw hWq hcw2 hfw2
        go_loopw [10] (fun vj wr2 => vj = .int .i64 j ∧ ∃ n : Nat, Hid (wr2 = putRow encU (Sort.ahead w n) blk off dk)) (fun _ _ => 0)
        case atStart => exact ⟨rfl, _, HW2⟩
        case round =>
          obtain ⟨rfl, n3, HW3⟩ := hrel
          obtain ⟨G3, hG3, hcw3, hfw3⟩ := row_view HH.out hsk HW3.out
          clear hG3
          go_wp2_with fail
          go_big_quiet (first | (go_at_call 67; refine Calls.quiet_of_same (less_any _ _ _)))
          go_wp2
          go_ret
          obtain ⟨W4, hWq, HW4, hcw4, hfw4⟩ := drew_view (q := nq) HW3 hcw3 hfw3
          exact ⟨i, _, dk, rfl, by omega, by omega, HP.out.perm, HP.out.left, fun t h4 h5 => HP.out.right t (by omega) h5, hWq ▸ HW4.out⟩
end Go.Proofs.Ythedpjlafapfeaa
