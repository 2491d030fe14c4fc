/- portreevelaw11.few: asks that are few. -/
import Derived.Test.YtmhhckpdhjnmeaaMp
namespace Go.Proofs.Ytmhhckpdhjnmeaa
open Go.RowKit

/-- An ask. -/
structure Ak where
  n : Int
  a : Nat
def AkOk (x : Ak) : Prop := -9223372036854775808 ≤ x.n ∧ x.n ≤ 9223372036854775807 ∧ x.a < 18446744073709551616
/-- The slice at A holds these asks. -/
def ARow (w : World) (B : Nat) (A : Option Addr) (l : List Ak) : Prop :=
  l ≠ [] → ∃ a, A = some a ∧ a.block < B ∧ ∀ j (h : j < l.length), w.cell? (a.add (j * 2)) = some (.int .i64 l[j].n) ∧ w.cell? (a.add (j * 2 + 1)) = some (.int .u64 (l[j].a : Int))
theorem ARow.nil (w : World) (B : Nat) (A : Option Addr) : ARow w B A [] := fun h => absurd rfl h
theorem ARow.below {w w' : World} {B : Nat} {A : Option Addr} {l : List Ak} (h : ARow w B A l) (hb : Below B w w') : ARow w' B A l := fun hn => by
  obtain ⟨a, e, h1, h2⟩ := h hn
  have hc : ∀ i, w'.cell? (a.add i) = w.cell? (a.add i) := fun i => hb.cell (by rw [addr_add_block]; exact h1)
  refine ⟨a, e, h1, fun j hj => ?_⟩
  rw [hc, hc]
  exact h2 j hj
theorem ARow.wide {w : World} {B B' : Nat} {A : Option Addr} {l : List Ak} (h : ARow w B A l) (hB : B ≤ B') : ARow w B' A l := fun hn => by
  obtain ⟨a, e, h1, h2⟩ := h hn
  exact ⟨a, e, Nat.lt_of_lt_of_le h1 hB, h2⟩
theorem ARow.at {w : World} {B k : Nat} {A : Option Addr} {l : List Ak} (h : ARow w B A l) (hk : k < l.length) : ∃ a p, A = some a ∧ a.add (k * 2) = p ∧ p.block < B ∧ w.cell? p = some (.int .i64 l[k].n) ∧ w.cell? ⟨p.block, p.off + 1, none⟩ = some (.int .u64 (l[k].a : Int)) := by
  obtain ⟨a, e, hb, hc⟩ := h (fun hn => by subst hn; cases hk)
  obtain ⟨h0, h1⟩ := hc k hk
  rw [← addr_add_add] at h1
  exact ⟨a, _, e, rfl, by rw [addr_add_block]; exact hb, h0, h1⟩
def tot (l : List Ak) : Nat := (l.map fun x => cnt x.n).sum
theorem tot_snoc (l : List Ak) (x : Ak) : tot (l ++ [x]) = tot l + cnt x.n := by simp [tot]
theorem tot_succ (l : List Ak) {k : Nat} (h : k < l.length) : tot (l.take (k + 1)) = tot (l.take k) + cnt l[k].n := by
  rw [List.take_succ_eq_append_getElem h, tot_snoc]
theorem tot_le (l : List Ak) (k : Nat) : tot (l.take k) ≤ tot l := by
  have : tot l = tot (l.take k) + tot (l.drop k) := by
    unfold tot
    rw [← List.sum_append, ← List.map_append, List.take_append_drop]
  omega
def fewB (l : List Ak) : Bool := decide (tot l ≤ 200) && decide (l.length ≤ 40)
theorem few_iff {l : List Ak} (h : fewB l = true) : tot l ≤ 200 ∧ l.length ≤ 40 := by simpa [fewB] using h
theorem few_over {l : List Ak} {k : Nat} (h : 200 < tot (l.take k)) : fewB l = false := by
  have := tot_le l k
  unfold fewB
  rw [decide_eq_false (by omega)]; rfl
theorem few_end {l : List Ak} (h : tot (l.take l.length) ≤ 200) : fewB l = decide (l.length ≤ 40) := by
  rw [List.take_length] at h
  unfold fewB
  rw [decide_eq_true h]; rfl
set_option maxRecDepth 100000 in
set_option maxHeartbeats 2000000 in
theorem few_any (A : Option Addr) (c : Nat) (l : List Ak) (hl : l.length ≤ 9223372036854775807) (w : World) (hA : ARow w w.heap.size A l) :
    Calls Try.prog 8 #[.slice A l.length c] w fun e w' => e = .returned (.bool (fewB l)) ∧ Below w.heap.size w w' := by
  obtain ⟨Q, hQ⟩ : ∃ Q, Q = fun (e : Ending) (w' : World) => e = .returned (.bool (fewB l)) ∧ Below w.heap.size w w' := ⟨_, rfl⟩
  rw [← hQ]
  have HQ := Lib.hid hQ
  have HA := Lib.hid hA
  clear hQ hA
  go_enter Try.func8, Try.ntmps8
  go_wp2
  go_loopw [3, 8] (fun s i wr => ∃ k : Nat, k ≤ l.length ∧ i = .int .i64 k ∧ ∃ n : Nat, s = .int .i64 n ∧ n ≤ 200 ∧ Hid (n = tot (l.take k) ∧ Below w.heap.size w wr)) (fun _ i _ => l.length - (intOf i).toNat)
  case atStart => exact ⟨0, Nat.zero_le _, rfl, 0, rfl, by decide, Lib.hid ⟨by simp [tot], Below.refl _ _⟩⟩
  case round =>
    obtain ⟨k, hk, rfl, n, rfl, hn, hR⟩ := hrel
    by_cases hlt : k < l.length
    · obtain ⟨a, q, rfl, hp, hpb, hc1, hc2⟩ := (HA.out.below hR.out.2).at hlt
      have hts := tot_succ l hlt
      obtain ⟨x, hx⟩ : ∃ x, x = l[k] := ⟨_, rfl⟩
      rw [← hx] at hc1 hc2 hts
      obtain ⟨N, a0⟩ := x
      simp only at hc1 hc2 hts
      rw [← hR.out.1] at hts
      have HB : Hid (Below w.heap.size w (wr.alloc (.cells #[.int .i64 N, .int .u64 (a0 : Int)] 37))) := Lib.hid (hR.out.2.alloc hR.out.2.size _)
      have HT := Lib.hid hts
      clear hx hpb hts hR
      by_cases h1 : 0 < N
      · by_cases h2 : N ≤ 4096
        · obtain ⟨m, rfl⟩ := Int.eq_ofNat_of_zero_le (show 0 ≤ N by omega)
          have hcn : cnt (m : Int) = m := by unfold cnt; rw [if_pos ⟨h1, h2⟩]; rfl
          rw [hcn] at HT
          by_cases h3 : 200 < n + m
          · have h3' : (200 : Int) < (n : Int) + (m : Int) := by omega
            have HF : Hid (fewB l = false) := Lib.hid (few_over (k := k + 1) (by rw [HT.out]; exact h3))
            clear hcn h3
            go_wp2
            rw [HQ.out]
            exact ⟨by rw [HF.out]; rfl, HB.out⟩
          · have h3' : ¬ ((200 : Int) < (n : Int) + (m : Int)) := by omega
            clear hcn
            go_wp2
            go_round
            case rel => exact ⟨k + 1, by omega, by simp, n + m, by simp, by omega, Lib.hid ⟨HT.out.symm, HB.out⟩⟩
            case measure => simp [intOf]; omega
        · have hcn : cnt N = 0 := by unfold cnt; rw [if_neg (by omega)]
          rw [hcn] at HT
          have h3' : ¬ ((200 : Int) < (n : Int)) := by omega
          clear hcn
          go_wp2
          go_round
          case rel => exact ⟨k + 1, by omega, by simp, n, rfl, hn, Lib.hid ⟨HT.out.symm, HB.out⟩⟩
          case measure => simp [intOf]; omega
      · have hcn : cnt N = 0 := by unfold cnt; rw [if_neg (by omega)]
        rw [hcn] at HT
        have h3' : ¬ ((200 : Int) < (n : Int)) := by omega
        clear hcn
        go_wp2
        go_round
        case rel => exact ⟨k + 1, by omega, by simp, n, rfl, hn, Lib.hid ⟨HT.out.symm, HB.out⟩⟩
        case measure => simp [intOf]; omega
    · obtain rfl : k = l.length := by omega
      have HF : Hid (fewB l = decide (l.length ≤ 40)) := Lib.hid (few_end (by rw [← hR.out.1]; exact hn))
      go_wp2
      rw [HQ.out]
      refine ⟨?_, hR.out.2⟩
      rw [HF.out]
      by_cases h4 : l.length ≤ 40
      · rw [decide_eq_true h4]; simp; omega
      · rw [decide_eq_false h4]; simp; omega
/-- What is free behind some asks. -/
def runsL (L : List Sp) (l : List Ak) : List Sp := l.foldl (fun L x => runL L x.n x.a) L
theorem runsL_succ (L : List Sp) (l : List Ak) {k : Nat} (h : k < l.length) : runsL L (l.take (k + 1)) = runL (runsL L (l.take k)) l[k].n l[k].a := by
  rw [List.take_succ_eq_append_getElem h]
  unfold runsL
  rw [List.foldl_append]; rfl
theorem runsL_fr {b : Sp} : ∀ (l : List Ak) {L : List Sp}, Fr b L → Fr b (runsL L l)
  | [], _, h => h
  | x :: r, _, h => runsL_fr r (h.run x.n x.a)
theorem runsL_len : ∀ (l : List Ak) (L : List Sp), (runsL L l).length ≤ L.length + l.length
  | [], _ => Nat.le_refl _
  | x :: r, L => by
    have := runsL_len r (runL L x.n x.a)
    have := runL_len L x.n x.a
    show (runsL (runL L x.n x.a) r).length ≤ L.length + (r.length + 1)
    omega
theorem start_len (b : Sp) : (startL b).length ≤ 1 := by unfold startL; split <;> simp
theorem last_zero {b : Sp} {L : List Sp} (hF : Fr b L) (h : bytes L / 4096 = 0) : runE L 1 4096 = 110 ∧ runL L 1 4096 = L := by
  have hm := Fr.bytes_mod (b := b) hF.al
  have h0 : L = [] := hF.empty.1 (by omega)
  subst h0
  exact ⟨by decide +kernel, by decide +kernel⟩
theorem last_some {b : Sp} {L : List Sp} (hF : Fr b L) (h : ¬ bytes L / 4096 = 0) : runE L 1 4096 = 0 ∧ bytes (runL L 1 4096) + 4096 = bytes L := by
  have h0 : L ≠ [] := fun e => h (by rw [e]; rfl)
  obtain ⟨i, hi⟩ := hF.one h0
  have hk : askOk 1 4096 = true := by decide
  have hn : (1 : Int).toNat * 4096 = 4096 := rfl
  unfold runE runL
  rw [hk, hn]
  simp only [if_true]
  unfold takeE takeL
  rw [hi]
  exact ⟨rfl, (hit_of (by decide) hi).bytes⟩
end Go.Proofs.Ytmhhckpdhjnmeaa
