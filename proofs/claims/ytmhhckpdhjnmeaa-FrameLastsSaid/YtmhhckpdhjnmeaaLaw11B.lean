/- The walk of FrameLasts. -/
import Derived.Test.YtmhhckpdhjnmeaaAk
namespace Go.Proofs.Ytmhhckpdhjnmeaa
open Go.RowKit

set_option maxRecDepth 100000 in
set_option maxHeartbeats 2000000 in
theorem lasts_walk (s1 s2 : Nat) (A : Option Addr) (c : Nat) (l : List Ak) (w : World) (hs : fit (s1, s2)) (hlc : l.length ≤ c ∧ c ≤ maxLen) (hA : ARow w w.heap.size A l) (hok : ∀ x ∈ l, AkOk x) :
    Calls Try.prog 5 #[.agg #[.int .u64 (s1 : Int), .int .u64 (s2 : Int)], .slice A l.length c] w fun e w' => e = .returned (.bool true) ∧ Below w.heap.size w w' := by
  have hll : l.length ≤ 9223372036854775807 := by unfold maxLen at hlc; omega
  have HAW := Lib.hid (fun X => awake_any X)
  have HFE := Lib.hid (fun X (hX : Below w.heap.size w X) => few_any A c l hll X ((hA.below hX).wide hX.size))
  have hb0 : Below w.heap.size w (w.alloc (spo s1 s2)) := below_alloc1 _ _
  have HB0 := Lib.hid hb0
  have HA := Lib.hid hA
  have HOK := Lib.hid hok
  cases hfew : fewB l with
  | false =>
    rw [hfew] at HFE
    clear hs hlc hA hok hll hfew hb0
    go_enter Try.func5, Try.ntmps5
    go_wp2_with (first
      | (go_at_call 7; refine (HAW.out _).mono ?_; rintro e w1 ⟨rfl, hd⟩; have D1 := Lib.hid (HB0.out.trans (hd.mono HB0.out.size)); clear hd)
      | (go_at_call 8; refine (HFE.out _ D1.out).mono ?_; rintro e w2 ⟨rfl, hd⟩; have D2 := Lib.hid (D1.out.trans (hd.mono D1.out.size)); clear hd))
    go_ret
    exact ⟨rfl, D2.out⟩
  | true =>
    obtain ⟨_, hl40⟩ := few_iff hfew
    rw [hfew] at HFE
    obtain ⟨b, hb⟩ : ∃ b, b = fB (s1, s2) := ⟨_, rfl⟩
    have HNW := Lib.hid (fun X => mp_new s1 s2 hs X)
    have hfr : Fr b (startL b) := Fr.start (by rw [hb]; exact fB_ok hs)
    rw [← hb] at HNW
    have HFR := Lib.hid (fun k => runsL_fr (l.take k) hfr)
    have HLN : Hid (∀ k, (runsL (startL b) (l.take k)).length ≤ 1000) := Lib.hid fun k => by
      have h1 := runsL_len (l.take k) (startL b)
      have h2 := start_len b
      have h3 : (l.take k).length ≤ l.length := by rw [List.length_take]; omega
      omega
    obtain ⟨S, hS⟩ : ∃ S, S = startL b := ⟨_, rfl⟩
    rw [← hS] at HNW HFR HLN
    have hat : ∀ X, Below (w.alloc (spo s1 s2)).heap.size (w.alloc (spo s1 s2)) X → X.cell? ⟨w.heap.size, 0, none⟩ = some (.int .u64 (s1 : Int)) ∧ X.cell? ⟨w.heap.size, 1, none⟩ = some (.int .u64 (s2 : Int)) := fun X hX => by
      have h := (Blk.new w 24 #[.int .u64 (s1 : Int), .int .u64 (s2 : Int)] rfl).under hX
      exact ⟨h.cellAt 0 rfl, h.cellAt 1 rfl⟩
    have HAT := Lib.hid hat
    clear hs hlc hA hok hfew hb0 hfr hb hS hat
    go_enter Try.func5, Try.ntmps5
    go_wp2_with (first
      | (go_at_call 7; refine (HAW.out _).mono ?_; rintro e w1 ⟨rfl, hd⟩; have C1 := Lib.hid hd; have D1 := Lib.hid (HB0.out.trans (hd.mono HB0.out.size)); clear hd)
      | (go_at_call 8; refine (HFE.out _ D1.out).mono ?_; rintro e w2 ⟨rfl, hd⟩; have hat := HAT.out _ (C1.out.trans (hd.mono C1.out.size)); have c0 := hat.1; have c1 := hat.2; have D2 := Lib.hid (D1.out.trans (hd.mono D1.out.size)); clear hd hat)
      | (go_at_call 9; refine (HNW.out _).mono ?_; rintro e w3 ⟨p, rfl, hp⟩; have M0 := Lib.hid (hp.lift D2.out); clear hp c0 c1))
    go_loopw [21] (fun i wr => ∃ k : Nat, k ≤ l.length ∧ i = .int .i64 k ∧ Hid (MP w wr p b (runsL S (l.take k)))) (fun i _ => l.length - (intOf i).toNat)
    case atStart => exact ⟨0, Nat.zero_le _, rfl, Lib.hid M0.out⟩
    case round =>
      obtain ⟨k, hk, rfl, hM⟩ := hrel
      by_cases hlt : k < l.length
      · obtain ⟨a, q, rfl, hq, hqb, hc0, hc1⟩ := (HA.out.below hM.out.below).at hlt
        have hrs := runsL_succ S l hlt
        have hxk := HOK.out _ (List.getElem_mem hlt)
        obtain ⟨x, hx⟩ : ∃ x, x = l[k] := ⟨_, rfl⟩
        rw [← hx] at hc0 hc1 hrs hxk
        obtain ⟨n, a0⟩ := x
        simp only at hc0 hc1 hrs
        have hm2 : MP w (wr.alloc (.cells #[.int .i64 n, .int .u64 (a0 : Int)] 37)) p b (runsL S (l.take k)) := hM.out.under (below_alloc1 _ _)
        have HR := Lib.hid (mp_run hm2 (HFR.out k) (by have := HLN.out k; omega) n a0 hxk.2.2)
        rw [← hrs] at HR
        clear hx hqb hm2 hrs hxk hM
        go_wp2_with (go_at_call 11; refine HR.out.mono ?_; rintro e w4 ⟨rfl, hp⟩; have M1 := Lib.hid hp; clear hp)
        go_roundw
        case rel => exact ⟨k + 1, by omega, by simp, M1⟩
        case measure => simp [intOf]; omega
      · obtain rfl : k = l.length := by omega
        have hfin := HFR.out l.length
        have hln := HLN.out l.length
        obtain ⟨L, hL⟩ : ∃ L, L = runsL S (l.take l.length) := ⟨_, rfl⟩
        rw [← hL] at hM hfin hln
        have hle := hfin.le
        have hbl := hfin.fits.lt
        unfold TT at hbl
        obtain ⟨m, hm⟩ : ∃ m, m = b.2 / 4096 := ⟨_, rfl⟩
        obtain ⟨g, hg⟩ : ∃ g, g = bytes L / 4096 := ⟨_, rfl⟩
        obtain ⟨u, hu⟩ : ∃ u, u = m - g := ⟨_, rfl⟩
        have HLE : Hid (∀ X, MP w X p b L → Calls Try.prog 16 #[.pointer (some ⟨p, 0, none⟩)] X fun e w' => e = .returned (.int .u64 (g : Int)) ∧ MP w w' p b L) := Lib.hid fun X h => by rw [hg]; exact mp_left h hfin (by omega)
        have HUS : Hid (∀ X, MP w X p b L → Calls Try.prog 15 #[.pointer (some ⟨p, 0, none⟩)] X fun e w' => e = .returned (.int .u64 (u : Int)) ∧ MP w w' p b L) := Lib.hid fun X h => by rw [hu, hm, hg]; exact mp_used h hfin (by omega)
        obtain ⟨E, hE⟩ : ∃ E, E = runE L 1 4096 := ⟨_, rfl⟩
        obtain ⟨L', hL'⟩ : ∃ L', L' = runL L 1 4096 := ⟨_, rfl⟩
        have HAL : Hid (∀ X, MP w X p b L → Calls Try.prog 19 #[.pointer (some ⟨p, 0, none⟩)] X fun e w' => ∃ x : Int, e = .returned (.tuple #[.int .u64 x, .int .i64 (E : Int)]) ∧ MP w w' p b L') := Lib.hid fun X h => by
          rw [hE, hL']
          exact (mp_alloc h hfin (by omega)).mono fun _ _ ⟨h1, h2⟩ => ⟨_, h1, h2⟩
        have hfr' := hfin.run 1 4096
        have hln' := runL_len L 1 4096
        have hml : m < 18446744073709551616 := by omega
        by_cases h0 : g = 0
        · obtain ⟨q1, q2⟩ := last_zero hfin (by rw [← hg]; exact h0)
          have e1 : E = 110 := by rw [hE]; exact q1
          have e2 : L' = L := by rw [hL']; exact q2
          subst e1 e2 h0
          clear hfin hln hL hle hbl hm hg hu hE hL' hfr' hln' hml q1 q2
          go_wp2_with (first
            | (go_at_call 16; refine (HLE.out _ hM.out).mono ?_; rintro e w5 ⟨rfl, hp⟩; have M2 := Lib.hid hp; clear hp)
            | (go_at_call 15; refine (HUS.out _ M3.out).mono ?_; rintro e w8 ⟨rfl, hp⟩; have M5 := Lib.hid hp; clear hp)
            | (go_at_call 15; refine (HUS.out _ M2.out).mono ?_; rintro e w6 ⟨rfl, hp⟩; have M4 := Lib.hid hp; clear hp)
            | (go_at_call 19; refine (HAL.out _ M4.out).mono ?_; rintro e w7 ⟨x, rfl, hp⟩; have M3 := Lib.hid hp; clear hp))
          go_ret
          exact ⟨rfl, M5.out.below⟩
        · obtain ⟨q1, q2⟩ := last_some hfin (by rw [← hg]; exact h0)
          have e1 : E = 0 := by rw [hE]; exact q1
          rw [← hL'] at q2 hfr' hln'
          have HLE2 : Hid (∀ X, MP w X p b L' → Calls Try.prog 16 #[.pointer (some ⟨p, 0, none⟩)] X fun e w' => e = .returned (.int .u64 ((g - 1 : Nat) : Int)) ∧ MP w w' p b L') := Lib.hid fun X h => by
            have := mp_left h hfr' (by omega)
            rw [show bytes L' / 4096 = g - 1 by omega] at this
            exact this
          have HUS2 : Hid (∀ X, MP w X p b L' → Calls Try.prog 15 #[.pointer (some ⟨p, 0, none⟩)] X fun e w' => e = .returned (.int .u64 ((u + 1 : Nat) : Int)) ∧ MP w w' p b L') := Lib.hid fun X h => by
            have := mp_used h hfr' (by omega)
            rw [show b.2 / 4096 - bytes L' / 4096 = u + 1 by omega] at this
            exact this
          have hw1 : IntKind.u64.wrap ((g : Int) - 1) = ((g - 1 : Nat) : Int) := by simp [IntKind.wrap, IntKind.bits, IntKind.signed]; omega
          have hw2 : IntKind.u64.wrap ((u : Int) + 1) = ((u + 1 : Nat) : Int) := by simp [IntKind.wrap, IntKind.bits, IntKind.signed]; omega
          obtain ⟨g1, hg1⟩ : ∃ g1, g1 = g - 1 := ⟨_, rfl⟩
          obtain ⟨u1, hu1⟩ : ∃ u1, u1 = u + 1 := ⟨_, rfl⟩
          rw [← hg1] at HLE2 hw1
          rw [← hu1] at HUS2 hw2
          have hg0 : ((g : Int) == 0) = false := by simp; omega
          subst e1
          clear hfin hln hL hle hbl hm hg hu hE hL' hfr' hln' hml q1 q2 hg1 hu1 h0
          go_wp2_with (first
            | (go_at_call 16; refine (HLE2.out _ M3.out).mono ?_; rintro e w9 ⟨rfl, hp⟩; have M6 := Lib.hid hp; clear hp)
            | (go_at_call 16; refine (HLE.out _ hM.out).mono ?_; rintro e w5 ⟨rfl, hp⟩; have M2 := Lib.hid hp; clear hp)
            | (go_at_call 15; refine (HUS2.out _ M6.out).mono ?_; rintro e w8 ⟨rfl, hp⟩; have M5 := Lib.hid hp; clear hp)
            | (go_at_call 15; refine (HUS.out _ M2.out).mono ?_; rintro e w6 ⟨rfl, hp⟩; have M4 := Lib.hid hp; clear hp)
            | (go_at_call 19; refine (HAL.out _ M4.out).mono ?_; rintro e w7 ⟨x, rfl, hp⟩; have M3 := Lib.hid hp; clear hp))
          go_ret
          exact ⟨rfl, M5.out.below⟩
end Go.Proofs.Ytmhhckpdhjnmeaa
