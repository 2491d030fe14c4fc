/- The walk of FrameApart. -/
import Derived.Test.YtmhhckpdhjnmeaaAp
namespace Go.Proofs.Ytmhhckpdhjnmeaa
open Go.RowKit
attribute [local go_sem ↓ high] builtin_appS

set_option maxRecDepth 100000 in
set_option maxHeartbeats 2000000 in
theorem apart_walk (s1 s2 : Nat) (A : Option Addr) (c : Nat) (l : List Ak) (w : World) (hs : fit (s1, s2)) (hlc : l.length ≤ c ∧ c ≤ maxLen) (hA : ARow w w.heap.size A l) (hok : ∀ x ∈ l, AkOk x) :
    Calls Try.prog 4 #[.agg #[.int .u64 (s1 : Int), .int .u64 (s2 : Int)], .slice A l.length c] w fun e w' => e = .returned (.bool true) ∧ Below w.heap.size w w' := by
  have hll : l.length ≤ 9223372036854775807 := by unfold maxLen at hlc; omega
  have HAW := Lib.hid (fun X => awake_any X)
  have HFE := Lib.hid (fun X (hX : Below w.heap.size w X) => few_any A c l hll X ((hA.below hX).wide hX.size))
  have hb0 : Below w.heap.size w (w.alloc (spo s1 s2)) := below_alloc1 _ _
  have HB0 := Lib.hid hb0
  have HA := Lib.hid hA
  have HOK := Lib.hid hok
  cases hfew : fewB l with
  | false =>
    rw [hfew] at HFE
    clear hs hlc hA hok hll hfew hb0
    go_enter Try.func4, Try.ntmps4
    go_wp2_with (first
      | (go_at_call 7; refine (HAW.out _).mono ?_; rintro e w1 ⟨rfl, hd⟩; have D1 := Lib.hid (HB0.out.trans (hd.mono HB0.out.size)); clear hd)
      | (go_at_call 8; refine (HFE.out _ D1.out).mono ?_; rintro e w2 ⟨rfl, hd⟩; have D2 := Lib.hid (D1.out.trans (hd.mono D1.out.size)); clear hd))
    go_ret
    exact ⟨rfl, D2.out⟩
  | true =>
    obtain ⟨_, hl40⟩ := few_iff hfew
    rw [hfew] at HFE
    obtain ⟨b, hb⟩ : ∃ b, b = fB (s1, s2) := ⟨_, rfl⟩
    have HNW := Lib.hid (fun X => mp_new s1 s2 hs X)
    have hfr : Fr b (startL b) := Fr.start (by rw [hb]; exact fB_ok hs)
    rw [← hb] at HNW
    have HFR := Lib.hid (fun k => runsL_fr (l.take k) hfr)
    have HLN : Hid (∀ k, (runsL (startL b) (l.take k)).length ≤ 1000) := Lib.hid fun k => by
      have h1 := runsL_len (l.take k) (startL b)
      have h2 := start_len b
      have h3 : (l.take k).length ≤ l.length := by rw [List.length_take]; omega
      omega
    obtain ⟨S, hS⟩ : ∃ S, S = startL b := ⟨_, rfl⟩
    rw [← hS] at HNW HFR HLN
    have HBF := Lib.hid hb
    have HSF := Lib.hid hs
    have HBX : Hid (Blk (w.alloc (spo s1 s2)) w.heap.size 24 #[.int .u64 (s1 : Int), .int .u64 (s2 : Int)]) := Lib.hid (Blk.new _ _ _ rfl)
    clear hs hlc hA hok hfew hb0 hfr hb hS
    go_enter Try.func4, Try.ntmps4
    go_wp2_with (first
      | (go_at_call 7; refine (HAW.out _).mono ?_; rintro e w1 ⟨rfl, hd⟩; have X1 := Lib.hid (HBX.out.under hd); have D1 := Lib.hid (HB0.out.trans (hd.mono HB0.out.size)); clear hd)
      | (go_at_call 8; refine (HFE.out _ D1.out).mono ?_; rintro e w2 ⟨rfl, hd⟩; have X2 := Lib.hid (X1.out.under hd); have c0 := X2.out.cellAt 0 rfl; have c1 := X2.out.cellAt 1 rfl; have D2 := Lib.hid (D1.out.trans (hd.mono D1.out.size)); clear hd)
      | (go_at_call 9; refine (HNW.out _).mono ?_; rintro e w3 ⟨p, rfl, hp⟩; have M0 := Lib.hid (And.intro (AP.start hp) (And.intro (X2.out.under hp.below) X2.out.lt)); clear hp c0 c1))
    go_loopw [6, 24] (fun v i wr => ∃ k : Nat, k ≤ l.length ∧ i = .int .i64 k ∧ ∃ H u, v = u ∧ H.length ≤ k ∧ Hid (AP w2 wr p b (runsL S (l.take k)) u H ∧ Blk wr w.heap.size 24 #[.int .u64 (s1 : Int), .int .u64 (s2 : Int)] ∧ Had (s1, s2) b (runsL S (l.take k)) H)) (fun _ i _ => l.length - (intOf i).toNat)
    case atStart => exact ⟨0, Nat.zero_le _, rfl, [], _, rfl, Nat.le_refl _, Lib.hid ⟨M0.out.1, M0.out.2.1, Had.none _ _ _⟩⟩
    case round =>
      obtain ⟨k, hk, rfl, H, v, hv, hH, hM⟩ := hrel
      have hv2 := hv.symm
      subst hv2
      have hbw : Below w.heap.size w wr := D2.out.trans (hM.out.1.below.mono D2.out.size)
      have HBW := Lib.hid hbw
      by_cases hlt : k < l.length
      · obtain ⟨a, q, rfl, hq, hqb, hc0, hc1⟩ := (HA.out.below hbw).at hlt
        have hrs := runsL_succ S l hlt
        have hxk := HOK.out _ (List.getElem_mem hlt)
        obtain ⟨x, hx⟩ : ∃ x, x = l[k] := ⟨_, rfl⟩
        rw [← hx] at hc0 hc1 hrs hxk
        obtain ⟨n, a0⟩ := x
        simp only at hc0 hc1 hrs
        obtain ⟨L, hL⟩ : ∃ L, L = runsL S (l.take k) := ⟨_, rfl⟩
        have hfl := HFR.out k
        have hln := HLN.out k
        rw [← hL] at hM hrs hfl hln
        have hsl := M0.out.2.2
        have hm2 : AP w2 (wr.alloc (.cells #[.int .i64 n, .int .u64 (a0 : Int)] 37)) p b L v H := hM.out.1.under (below_alloc1 _ _)
        have hr1 := ap_run hm2 hfl (by omega) n a0 hxk.2.2
        obtain ⟨V, hV⟩ : ∃ V, V = runV L n a0 := ⟨_, rfl⟩
        obtain ⟨E, hE⟩ : ∃ E, E = runE L n a0 := ⟨_, rfl⟩
        have HSX : Hid (Blk (wr.alloc (.cells #[.int .i64 n, .int .u64 (a0 : Int)] 37)) w.heap.size 24 #[.int .u64 (s1 : Int), .int .u64 (s2 : Int)]) := Lib.hid (hM.out.2.1.alloc _)
        have HAX : Hid (Blk (wr.alloc (.cells #[.int .i64 n, .int .u64 (a0 : Int)] 37)) wr.heap.size 37 #[.int .i64 n, .int .u64 (a0 : Int)]) := Lib.hid (Blk.new _ _ _ rfl)
        have hhd := hM.out.2.2
        rw [HBF.out] at hhd hfl
        by_cases he : runE L n a0 = 0
        · obtain ⟨m, rfl, m1, m2, m3, m4, m5, m6, m7, m8⟩ := had_run hhd hfl he
          have hE0 : E = 0 := by rw [hE]; exact he
          rw [← hV, ← hE] at hr1
          rw [← hV] at m4 m5 m6 m7 m8
          obtain ⟨N, hN⟩ : ∃ N, N = m * 4096 := ⟨_, rfl⟩
          rw [← hN] at m6 m7 m8
          rw [← HBF.out, ← hrs] at m8
          rw [← hrs] at hr1
          have hwi := fun X => rwithin_any V N s1 s2 m7 HSF.out X
          rw [m6] at hwi
          have HWI := Lib.hid hwi
          have HR := Lib.hid hr1
          have HHD := Lib.hid m8
          subst hE0
          have hw1 : IntKind.u64.wrap (m : Int) = (m : Int) := by simp [IntKind.wrap, IntKind.bits, IntKind.signed]; omega
          have hw2 : IntKind.u64.wrap ((4096 : Int) * (m : Int)) = (N : Int) := by simp [IntKind.wrap, IntKind.bits, IntKind.signed]; omega
          have ha0 : ((a0 : Int) == 0) = false := by simp; omega
          have ha1 : ¬ ((a0 : Int) = 0) := by omega
          have hv4 : ((V : Int) % 4096 != 0) = false := by simp; omega
          have hva : ((V : Int) % (a0 : Int) != 0) = false := cast_mod0 m5
          clear hx hqb hm2 hrs hxk hM hr1 he hE hV hL hfl hln hhd m1 m2 m3 m4 m5 m6 m7 m8 hwi hN hbw
          go_wp2_with (first
            | (go_at_call 11; refine HR.out.mono ?_; rintro e w4 ⟨rfl, hp, hbs⟩; have M1 := Lib.hid hp; have B1 := Lib.hid (hbs _ _ _ HAX.out (by decide) (.inl (by decide))); have B2 := Lib.hid (hbs _ _ _ HSX.out (by decide) (.inr hsl)); have d0 := B1.out.cellAt 0 rfl; have d1 := (B1.out.alloc (spo V N)).cellAt 1 rfl; have d2 := (B2.out.alloc (spo V N)).cellAt 0 rfl; have d3 := (B2.out.alloc (spo V N)).cellAt 1 rfl; clear hp hbs)
            | (go_at_call 17; refine (HWI.out _).mono ?_; rintro e w6 ⟨rfl, hd⟩; have hd6 := (below_alloc1 w4 (spo V N)).trans (hd.mono (below_alloc1 w4 (spo V N)).size); have M2 := Lib.hid (M1.out.under hd6); have B3 := Lib.hid (B2.out.under hd6); have e1 := (B1.out.under hd6).cellAt 1 rfl; have B4 := (Blk.new w4 24 #[.int .u64 (V : Int), .int .u64 (N : Int)] rfl).under hd; have e2 := B4.cellAt 0 rfl; have e3 := B4.cellAt 1 rfl; obtain ⟨v7, w7, e7, ap7, bl7, g7, c7, hv7⟩ := ap_app M2.out (by omega) V N; subst hv7; have M3 := Lib.hid (And.intro ap7 (B3.out.below bl7 hsl)); clear hd hd6 B4 ap7 bl7 d1 d2 d3))
          go_roundw
          case rel => exact ⟨k + 1, by omega, by simp, H ++ [(V, N)], _, rfl, by simp; omega, Lib.hid ⟨M3.out.1, M3.out.2, HHD.out⟩⟩
          case measure => simp [intOf]; omega
        · have hhd2 := had_no hhd he
          rw [← HBF.out, ← hrs] at hhd2
          have he2 : ((E : Int) != 0) = true := by rw [hE]; simp; omega
          rw [← hV, ← hE, ← hrs] at hr1
          have HR := Lib.hid hr1
          have HHD := Lib.hid hhd2
          clear hx hqb hm2 hrs hxk hM hr1 he hE hV hL hfl hln hhd hhd2 hbw
          go_wp2_with (go_at_call 11; refine HR.out.mono ?_; rintro e w4 ⟨rfl, hp, hbs⟩; have M1 := Lib.hid (And.intro hp (hbs _ _ _ HSX.out (by decide) (.inr hsl))); clear hp hbs)
          go_roundw
          case rel => exact ⟨k + 1, by omega, by simp, H, _, rfl, by omega, Lib.hid ⟨M1.out.1, M1.out.2, HHD.out⟩⟩
          case measure => simp [intOf]; omega
      · obtain rfl : k = l.length := by omega
        obtain ⟨A', c', rfl, hrow⟩ := hM.out.1.row.row
        have HFI := Lib.hid (rfirst_any A' c' H (by omega) (fun y hy => (hM.out.2.2.gone y hy).2.1) wr hrow)
        have HAP := Lib.hid hM.out.2.2.apart
        clear hrow hM hbw
        go_wp2_with (go_at_call 18; refine HFI.out.mono ?_; rintro e w8 ⟨fi, fj, fb, rfl, hfi, hd⟩; obtain rfl := first_apart HAP.out hfi; have HD := Lib.hid hd; clear hd hfi)
        go_ret
        exact ⟨rfl, HBW.out.trans (HD.out.mono HBW.out.size)⟩
end Go.Proofs.Ytmhhckpdhjnmeaa
