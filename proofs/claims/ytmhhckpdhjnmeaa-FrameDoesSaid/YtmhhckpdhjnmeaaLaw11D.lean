/- The walk of FrameDoes. -/
import Derived.Test.YtmhhckpdhjnmeaaDp
namespace Go.Proofs.Ytmhhckpdhjnmeaa
open Go.RowKit

set_option maxRecDepth 100000 in
set_option maxHeartbeats 1500000 in
theorem does_walk (s1 s2 : Nat) (A : Option Addr) (c : Nat) (l : List Ak) (x : Nat) (w : World) (hs : fit (s1, s2)) (hlc : l.length ≤ c ∧ c ≤ maxLen) (hA : ARow w w.heap.size A l) (hok : ∀ x ∈ l, AkOk x) (hxl : x < 18446744073709551616) :
    Calls Try.prog 3 #[.agg #[.int .u64 (s1 : Int), .int .u64 (s2 : Int)], .slice A l.length c, .int .u64 (x : Int)] w fun e w' => e = .returned (.bool true) ∧ Below w.heap.size w w' := by
  have hll : l.length ≤ 9223372036854775807 := by unfold maxLen at hlc; omega
  have HAW := Lib.hid (fun X => awake_any X)
  have HFE := Lib.hid (fun X (hX : Below w.heap.size w X) => few_any A c l hll X ((hA.below hX).wide hX.size))
  have hb0 : Below w.heap.size w (w.alloc (spo s1 s2)) := below_alloc1 _ _
  have HB0 := Lib.hid hb0
  have HA := Lib.hid hA
  have HOK := Lib.hid hok
  have HXL : Hid (x < TT) := Lib.hid hxl
  cases hfew : fewB l with
  | false =>
    rw [hfew] at HFE
    clear hs hlc hA hok hll hfew hb0 hxl
    go_enter Try.func3, Try.ntmps3
    go_wp2_with (first
      | (go_at_call 7; refine (HAW.out _).mono ?_; rintro e w1 ⟨rfl, hd⟩; have D1 := Lib.hid (HB0.out.trans (hd.mono HB0.out.size)); clear hd)
      | (go_at_call 8; refine (HFE.out _ D1.out).mono ?_; rintro e w2 ⟨rfl, hd⟩; have D2 := Lib.hid (D1.out.trans (hd.mono D1.out.size)); clear hd))
    go_ret
    exact ⟨rfl, D2.out⟩
  | true =>
    obtain ⟨htot, hl40⟩ := few_iff hfew
    rw [hfew] at HFE
    obtain ⟨b, hb⟩ : ∃ b, b = fB (s1, s2) := ⟨_, rfl⟩
    have HNW := Lib.hid (fun X => mp_new s1 s2 hs X)
    have hrel0 : Rel b (startL b) [] := Rel.start (by rw [hb]; exact fB_ok hs)
    rw [← hb] at HNW
    have HRE := Lib.hid (fun k => usedL_rel (l.take k) hrel0)
    have HLN : Hid (∀ k, (runsL (startL b) (l.take k)).length ≤ 1000) := Lib.hid fun k => by
      have h1 := runsL_len (l.take k) (startL b)
      have h2 := start_len b
      have h3 : (l.take k).length ≤ l.length := by rw [List.length_take]; omega
      omega
    have HUL : Hid (∀ k, (usedL (startL b) [] (l.take k)).length ≤ tot (l.take k)) := Lib.hid fun k => by
      have := usedL_len (l.take k) (startL b) []
      simpa using this
    have HUL : Hid (∀ k, (usedL (startL b) [] (l.take k)).length ≤ tot (l.take k) ∧ tot (l.take k) ≤ 200) := Lib.hid fun k => ⟨HUL.out k, Nat.le_trans (tot_le l k) htot⟩
    obtain ⟨C, hC⟩ : ∃ C, C = b.2 / 4096 := ⟨_, rfl⟩
    have HC : Hid (C = b.2 / 4096) := Lib.hid hC
    have HFA : Hid (∀ X p q, DP w X p b (startL b) q (s1, s2) [] → Calls Try.prog 10 #[.pointer (some ⟨q, 0, none⟩)] X fun e w' => e = .returned (.tuple #[.int .u64 (b.1 : Int), .int .u64 (C : Int)]) ∧ DP w w' p b (startL b) q (s1, s2) []) := Lib.hid fun X p q h => by
      have := dp_frames h hs
      rw [← hb, ← hC] at this
      exact this
    obtain ⟨S, hS0⟩ : ∃ S, S = startL b := ⟨_, rfl⟩
    rw [← hS0] at HNW HRE HLN HUL HFA
    have HBF := Lib.hid hb
    have HSF := Lib.hid hs
    have HBX0 : Hid (Blk (w.alloc (spo s1 s2)) w.heap.size 24 #[.int .u64 (s1 : Int), .int .u64 (s2 : Int)]) := Lib.hid (Blk.new _ _ _ rfl)
    clear hs hlc hA hok hfew hb0 hrel0 hb hS0 hC hxl
    go_enter Try.func3, Try.ntmps3
    go_upto_region 5 with (first
      | (go_at_call 7; refine (HAW.out _).mono ?_; rintro e w1 ⟨rfl, hd⟩; have X1 := Lib.hid (HBX0.out.under hd); have D1 := Lib.hid (HB0.out.trans (hd.mono HB0.out.size)); clear hd)
      | (go_at_call 8; refine (HFE.out _ D1.out).mono ?_; rintro e V ⟨rfl, hd⟩; have HBX := Lib.hid (X1.out.under hd); have D2 := Lib.hid (D1.out.trans (hd.mono D1.out.size)); clear hd))
    obtain ⟨Y0, hY0⟩ : ∃ Y0, Y0 = V.drew := ⟨_, rfl⟩
    have HW0 : Hid (Below w.heap.size w Y0) := Lib.hid (by rw [hY0]; exact VS.below0 (VS.begin V) D2.out)
    refine wp_region_held_drew (S := fun Y => VS V Y) (by kernel_rfl) (VS.begin V) (fun hS => ?_)
    rw [← hY0] at hS ⊢
    clear hY0
    (refine held_take (i := 0) (oi := ?ot1) (v := ?vt1) ?at1 (by kernel_rfl) (by kernel_rfl) (by kernel_rfl) ?bt1 ?ct1 ?dt1 (by assumption) ?rt1; (case at1 => (simp only [List.getElem?_toArray, List.getElem?_cons_zero]; rfl)); (case bt1 => exact fun _ _ _ h => h); (case ct1 => kernel_rfl); (case dt1 => (intro W6 hW; have b0 := HBX.out.under hW; have c0 := b0.cellAt 0 rfl; have c1 := b0.cellAt 1 rfl; clear b0 hW; go_simp; (try with_reducible rfl))); (case' rt1 => simp only [Act.put, List.setIfInBounds_toArray, List.set_cons_zero, List.set_cons_succ]))
    (refine held_take (i := 2) (oi := ?ot2) (v := ?vt2) ?at2 (by kernel_rfl) (by kernel_rfl) (by kernel_rfl) ?bt2 ?ct2 ?dt2 (by assumption) ?rt2; (case at2 => (simp only [List.getElem?_toArray, List.getElem?_cons_zero, List.getElem?_cons_succ]; rfl)); (case bt2 => exact fun _ _ _ h => h); (case ct2 => kernel_rfl); (case dt2 => (intro W6 hW; have b0 := HBX.out.under hW; have c0 := b0.cellAt 0 rfl; have c1 := b0.cellAt 1 rfl; clear b0 hW; go_simp; (try with_reducible rfl))); (case' rt2 => simp only [Act.put, List.setIfInBounds_toArray, List.set_cons_zero, List.set_cons_succ]))
    (refine held_take (i := 3) (oi := ?ot3) (v := ?vt3) ?at3 (by kernel_rfl) (by kernel_rfl) (by kernel_rfl) ?bt3 ?ct3 ?dt3 (by assumption) ?rt3; (case at3 => (simp only [List.getElem?_toArray, List.getElem?_cons_zero, List.getElem?_cons_succ]; rfl)); (case bt3 => exact fun _ _ _ h => h); (case ct3 => kernel_rfl); (case dt3 => (intro W hW; (try dsimp only at hW); go_split_ands; go_simp; (try with_reducible rfl))); (case' rt3 => simp only [Act.put, List.setIfInBounds_toArray, List.set_cons_zero, List.set_cons_succ]))
    refine held_two (i := 1) (j := 4) (oi := ?oit56) (oj := ?ojt56) (by kernel_rfl) ?ait56 ?ajt56 ?cit56 ?cjt56 (fun K1 hK1 => ?hit56) (fun K4 hK4 => ?hjt56)
    (case ait56 => (simp only [List.getElem?_toArray, List.getElem?_cons_zero, List.getElem?_cons_succ]; rfl))
    (case ajt56 => (simp only [List.getElem?_toArray, List.getElem?_cons_zero, List.getElem?_cons_succ]; rfl))
    (case cit56 => kernel_rfl)
    (case cjt56 => kernel_rfl)
    case hit56 =>
      have hSb := hS
      go_simp
      refine (HNW.out _).mono ?_
      rintro e y1 ⟨p, rfl, hp⟩
      have hd := hp.below
      have M1 := Lib.hid hp
      refine hK1 _ _ (VS.keep hSb hd) (fun hS1 => ?_)
      clear hS hSb hp hd hK1 K1
      (refine held_take (i := 5) (oi := ?ot4) (v := ?vt4) ?at4 (by kernel_rfl) (by kernel_rfl) (by kernel_rfl) ?bt4 ?ct4 ?dt4 (by assumption) ?rt4; (case at4 => (simp only [List.getElem?_toArray, List.getElem?_cons_zero, List.getElem?_cons_succ]; rfl)); (case bt4 => exact fun _ _ _ h => h); (case ct4 => kernel_rfl); (case dt4 => (intro W hW; (try dsimp only at hW); go_split_ands; go_simp; (try with_reducible rfl))); (case' rt4 => simp only [Act.put, List.setIfInBounds_toArray, List.set_cons_zero, List.set_cons_succ]))
      refine held_one (i := 4) (oi := ?ot5) (by kernel_rfl) ?at5 ?ct5 (fun K4 hK4 => ?_)
      (case at5 => (simp only [List.getElem?_toArray, List.getElem?_cons_zero, List.getElem?_cons_succ]; rfl))
      (case ct5 => kernel_rfl)
      have hSb := hS1
      go_simp
      have hd : Below y1.heap.size y1 (y1.alloc (.cells #[.int .u64 (s1 : Int), .int .u64 (s2 : Int), .slice none 0 0] 33)) := below_alloc1 _ _
      have hdp := (DP.new1 M1.out (s1, s2)).lift HW0.out
      obtain ⟨y4, hy4⟩ : ∃ y, y = y1.alloc (.cells #[.int .u64 (s1 : Int), .int .u64 (s2 : Int), .slice none 0 0] 33) := ⟨_, rfl⟩
      have HD := Lib.hid (show DP w y4 p b S y1.heap.size (s1, s2) [] from by rw [hy4]; exact hdp)
      rw [← hy4] at hd ⊢
      refine hK4 _ _ (VS.keep hSb hd) (fun hS4 => ?_)
      clear hS1 hSb hd hy4 hK4 K4
      (refine held_take (i := 6) (oi := ?ot6) (v := ?vt6) ?at6 (by kernel_rfl) (by kernel_rfl) (by kernel_rfl) ?bt6 ?ct6 ?dt6 (by assumption) ?rt6; (case at6 => (simp only [List.getElem?_toArray, List.getElem?_cons_zero, List.getElem?_cons_succ]; rfl)); (case bt6 => exact fun _ _ _ h => h); (case ct6 => kernel_rfl); (case dt6 => (intro W hW; (try dsimp only at hW); go_split_ands; go_simp; (try with_reducible rfl))); (case' rt6 => simp only [Act.put, List.setIfInBounds_toArray, List.set_cons_zero, List.set_cons_succ]))
      refine wpAnyH_done (by kernel_rfl) ?_ _
      obtain ⟨q, hq⟩ : ∃ q, q = y1.heap.size := ⟨_, rfl⟩
      rw [← hq] at HD ⊢
      clear hq hS4
      have H0 := HD
      clear HD
      go_wp2_with (go_at_call 10; refine (HFA.out _ _ _ H0.out).mono ?_; rintro e w4 ⟨rfl, hp⟩; have M4 := Lib.hid hp; clear hp)
      go_loopw [34] (fun i wr => ∃ k : Nat, k ≤ l.length ∧ i = .int .i64 k ∧ Hid (DP w wr p b (runsL S (l.take k)) q (s1, s2) (usedL S [] (l.take k)))) (fun i _ => l.length - (intOf i).toNat)
      case atStart => exact ⟨0, Nat.zero_le _, rfl, Lib.hid M4.out⟩
      case round =>
        obtain ⟨k, hk, rfl, hM⟩ := hrel
        by_cases hlt : k < l.length
        · obtain ⟨a, g, rfl, hg, hgb, hc0, hc1⟩ := (HA.out.below hM.out.below).at hlt
          have hrs := runsL_succ S l hlt
          have hus := usedL_succ S [] l hlt
          have hts := tot_succ l hlt
          have htl := tot_le l (k + 1)
          have hxk := HOK.out _ (List.getElem_mem hlt)
          have hrk := HRE.out k
          have hrk1 := HRE.out (k + 1)
          have hlk := HLN.out k
          have hlk1 := HLN.out (k + 1)
          have huk := HUL.out k
          have huk1 := HUL.out (k + 1)
          obtain ⟨xx, hx⟩ : ∃ xx, xx = l[k] := ⟨_, rfl⟩
          rw [← hx] at hc0 hc1 hrs hus hts hxk
          obtain ⟨n, a0⟩ := xx
          simp only at hc0 hc1 hrs hus hts
          obtain ⟨L, hL⟩ : ∃ L, L = runsL S (l.take k) := ⟨_, rfl⟩
          obtain ⟨U, hU⟩ : ∃ U, U = usedL S [] (l.take k) := ⟨_, rfl⟩
          rw [← hL] at hrs hus hM hrk hlk
          rw [← hU] at hus hM hrk huk
          obtain ⟨L1, hL1⟩ : ∃ L1, L1 = runsL S (l.take (k + 1)) := ⟨_, rfl⟩
          obtain ⟨U1, hU1⟩ : ∃ U1, U1 = usedL S [] (l.take (k + 1)) := ⟨_, rfl⟩
          rw [← hL1] at hrs hrk1 hlk1
          rw [← hU1] at hus hrk1 huk1
          have hvl := runV_lt hrk.fr n a0
          obtain ⟨V, hV⟩ : ∃ V, V = runV L n a0 := ⟨_, rfl⟩
          obtain ⟨E, hE⟩ : ∃ E, E = runE L n a0 := ⟨_, rfl⟩
          obtain ⟨hv, hhv⟩ : ∃ hv : Nat → Bool, hv = fun y => decide (y / 4096 * 4096 ∈ U1) := ⟨_, rfl⟩
          have hm2 : DP w (wr.alloc (.cells #[.int .i64 n, .int .u64 (a0 : Int)] 37)) p b L q (s1, s2) U := hM.out.under (below_alloc1 _ _)
          have hr1 := dp_run hm2 hrk.fr (by omega) n a0 hxk.2.2
          rw [← hV, ← hE, ← hrs] at hr1
          rw [← hV] at hvl
          have HR := Lib.hid hr1
          have HAX : Hid (Blk (wr.alloc (.cells #[.int .i64 n, .int .u64 (a0 : Int)] 37)) wr.heap.size 37 #[.int .i64 n, .int .u64 (a0 : Int)]) := Lib.hid (Blk.new _ _ _ rfl)
          have HRR : Hid (∀ X, DP w X p b L1 q (s1, s2) U → Calls Try.prog 12 #[.pointer (some ⟨q, 0, none⟩), .int .i64 n, .int .u64 (a0 : Int)] X fun e w' => e = .returned (.tuple #[.int .u64 (V : Int), .int .i64 (E : Int)]) ∧ DP w w' p b L1 q (s1, s2) U1) := Lib.hid fun X h => by
            have := dp_rrun h HSF.out (by rw [← HBF.out]; exact hrk) n a0 hxk.2.2 (by omega)
            rw [← hus, ← hV, ← hE] at this
            exact this
          have HHA : Hid (∀ X y, DP w X p b L1 q (s1, s2) U1 → Calls Try.prog 13 #[.pointer (some ⟨p, 0, none⟩), .int .u64 ((y : Nat) : Int)] X fun e w' => e = .returned (.bool (hv y)) ∧ DP w w' p b L1 q (s1, s2) U1) := Lib.hid fun X y h => by
            rw [hhv]
            exact dp_has h hrk1 (by omega) y
          have HRH : Hid (∀ X y, y < TT → DP w X p b L1 q (s1, s2) U1 → Calls Try.prog 14 #[.pointer (some ⟨q, 0, none⟩), .int .u64 ((y : Nat) : Int)] X fun e w' => e = .returned (.bool (hv y)) ∧ w' = X) := Lib.hid fun X y hy h => by
            rw [hhv]
            exact dp_rhas h (by omega) y hy
          have HVL := Lib.hid hvl
          have HKP : Hid (∀ W', DP w W' p b L1 q (s1, s2) U1 → DP w W' p b (runsL S (l.take (k + 1))) q (s1, s2) (usedL S [] (l.take (k + 1)))) := Lib.hid fun W' h => by rw [← hL1, ← hU1]; exact h
          clear hrs hus hts htl hxk hrk hrk1 hlk hlk1 huk huk1 hx hL hU hL1 hU1 hvl hV hE hhv hm2 hr1 hM hgb
          go_wp2_with (first
            | (go_at_call 11; refine HR.out.mono ?_; rintro e w5 ⟨rfl, hp, hka⟩; have d0 := (hka _ _ _ HAX.out (by decide) (by decide)).cellAt 0 rfl; have d1 := (hka _ _ _ HAX.out (by decide) (by decide)).cellAt 1 rfl; have M5 := Lib.hid hp; clear hp hka)
            | (go_at_call 12; refine (HRR.out _ M5.out).mono ?_; rintro e w6 ⟨rfl, hp⟩; have M6 := Lib.hid hp; clear hp)
            | (go_at_call 13; refine (HHA.out _ _ M7.out).mono ?_; rintro e w8 ⟨rfl, hp⟩; have M8 := Lib.hid hp; clear hp)
            | (go_at_call 13; refine (HHA.out _ _ M6.out).mono ?_; rintro e w7 ⟨rfl, hp⟩; have M7 := Lib.hid hp; clear hp)
            | (go_at_call 14; refine (HRH.out _ _ HXL.out M8.out).mono ?_; rintro e w9 ⟨rfl, hw⟩; have ew := hw.symm; subst ew; clear hw)
            | (go_at_call 14; refine (HRH.out _ _ HVL.out M7.out).mono ?_; rintro e w9 ⟨rfl, hw⟩; have ew := hw.symm; subst ew; clear hw))
          go_roundw
          case rel => exact ⟨k + 1, by omega, by simp, Lib.hid (HKP.out _ M8.out)⟩
          case measure => simp [intOf]; omega
        · obtain rfl : k = l.length := by omega
          have hre := HRE.out l.length
          have hln := HLN.out l.length
          have hul := HUL.out l.length
          obtain ⟨L, hL⟩ : ∃ L, L = runsL S (l.take l.length) := ⟨_, rfl⟩
          obtain ⟨U, hU⟩ : ∃ U, U = usedL S [] (l.take l.length) := ⟨_, rfl⟩
          rw [← hL] at hre hln hM
          rw [← hU] at hre hul hM
          obtain ⟨V5, hV5⟩ : ∃ V5, V5 = wr := ⟨_, rfl⟩
          rw [← hV5] at hM ⊢
          obtain ⟨A5, c5, hce, hqs⟩ := hM.out.cell
          obtain ⟨m, hm⟩ : ∃ m, m = U.length := ⟨_, rfl⟩
          rw [← hm] at hce hul
          have hsum := hre.sum
          have hbm := Fr.bytes_mod (b := b) hre.fr.al
          have hbl := hre.fr.fits.lt
          unfold TT at hbl
          obtain ⟨gg, hgg⟩ : ∃ gg, gg = bytes L / 4096 := ⟨_, rfl⟩
          have kcs : IntKind.u64.wrap ((C : Int) - (m : Int)) = (gg : Int) := by have := HC.out; simp [IntKind.wrap, IntKind.bits, IntKind.signed]; omega
          have kmm : IntKind.u64.wrap (m : Int) = (m : Int) := by simp [IntKind.wrap, IntKind.bits, IntKind.signed]; omega
          have HCE : Hid (∀ Y, VS V5 Y → Y.cell? ⟨q, 2, none⟩ = some (.slice A5 m c5)) := Lib.hid fun Y hY => ((show Below V5.heap.size V5 Y from hY).cell (p := ⟨q, 2, none⟩) hqs).trans hce
          have HUS : Hid (∀ Y, VS V5 Y → Calls Try.prog 15 #[.pointer (some ⟨p, 0, none⟩)] Y fun e w' => e = .returned (.int .u64 (m : Int)) ∧ Below Y.heap.size Y w') := Lib.hid fun Y hY => by rw [hm]; exact dp_used (hM.out.under hY) hre (by omega)
          have HLE : Hid (∀ Y, VS V5 Y → Calls Try.prog 16 #[.pointer (some ⟨p, 0, none⟩)] Y fun e w' => e = .returned (.int .u64 (gg : Int)) ∧ Below Y.heap.size Y w') := Lib.hid fun Y hY => by rw [hgg]; exact dp_left (hM.out.under hY) hre.fr (by omega)
          have HV5 := Lib.hid hM.out.below
          clear hV5 hre hln hL hU hM hce hqs hm hsum hbm hbl hgg
          go_wp2_with fail
          refine wp_region_held_drew (S := fun Y => VS V5 Y) (by kernel_rfl) (VS.begin V5) (fun hS => ?_)
          (refine held_take (i := 0) (oi := ?ot7) (v := ?vt7) ?at7 (by kernel_rfl) (by kernel_rfl) (by kernel_rfl) ?bt7 ?ct7 ?dt7 (by assumption) ?rt7; (case at7 => (simp only [List.getElem?_toArray, List.getElem?_cons_zero]; rfl)); (case bt7 => exact fun _ _ _ h => h); (case ct7 => kernel_rfl); (case dt7 => (intro W hW; (try dsimp only at hW); go_split_ands; go_simp; (try with_reducible rfl))); (case' rt7 => simp only [Act.put, List.setIfInBounds_toArray, List.set_cons_zero, List.set_cons_succ]))
          (refine held_take (i := 2) (oi := ?ot8) (v := ?vt8) ?at8 (by kernel_rfl) (by kernel_rfl) (by kernel_rfl) ?bt8 ?ct8 ?dt8 (by assumption) ?rt8; (case at8 => (simp only [List.getElem?_toArray, List.getElem?_cons_zero, List.getElem?_cons_succ]; rfl)); (case bt8 => exact fun _ _ _ h => h); (case ct8 => kernel_rfl); (case dt8 => (intro W hW; (try dsimp only at hW); go_split_ands; go_simp; (try with_reducible rfl))); (case' rt8 => simp only [Act.put, List.setIfInBounds_toArray, List.set_cons_zero, List.set_cons_succ]))
          (refine held_take (i := 3) (oi := ?ot9) (v := ?vt9) ?at9 (by kernel_rfl) (by kernel_rfl) (by kernel_rfl) ?bt9 ?ct9 ?dt9 (by assumption) ?rt9; (case at9 => (simp only [List.getElem?_toArray, List.getElem?_cons_zero, List.getElem?_cons_succ]; rfl)); (case bt9 => exact fun _ _ _ h => h); (case ct9 => kernel_rfl); (case dt9 => (intro W hW; (try dsimp only at hW); go_split_ands; go_simp; (try with_reducible rfl))); (case' rt9 => simp only [Act.put, List.setIfInBounds_toArray, List.set_cons_zero, List.set_cons_succ]))
          (refine held_take (i := 4) (oi := ?ot10) (v := ?vt10) ?at10 (by kernel_rfl) (by kernel_rfl) (by kernel_rfl) ?bt10 ?ct10 ?dt10 (by assumption) ?rt10; (case at10 => (simp only [List.getElem?_toArray, List.getElem?_cons_zero, List.getElem?_cons_succ]; rfl)); (case bt10 => exact fun _ _ _ h => h); (case ct10 => kernel_rfl); (case dt10 => (intro W hW; (try dsimp only at hW); go_split_ands; go_simp; (try with_reducible rfl))); (case' rt10 => simp only [Act.put, List.setIfInBounds_toArray, List.set_cons_zero, List.set_cons_succ]))
          (refine held_take (i := 5) (oi := ?ot11) (v := ?vt11) ?at11 (by kernel_rfl) (by kernel_rfl) (by kernel_rfl) ?bt11 ?ct11 ?dt11 (by assumption) ?rt11; (case at11 => (simp only [List.getElem?_toArray, List.getElem?_cons_zero, List.getElem?_cons_succ]; rfl)); (case bt11 => exact fun _ _ _ h => h); (case ct11 => kernel_rfl); (case dt11 => (intro W6 hW; have c2 := HCE.out W6 hW; clear hW; go_simp; (try with_reducible rfl))); (case' rt11 => simp only [Act.put, List.setIfInBounds_toArray, List.set_cons_zero, List.set_cons_succ]))
          (refine held_take (i := 6) (oi := ?ot12) (v := ?vt12) ?at12 (by kernel_rfl) (by kernel_rfl) (by kernel_rfl) ?bt12 ?ct12 ?dt12 (by assumption) ?rt12; (case at12 => (simp only [List.getElem?_toArray, List.getElem?_cons_zero, List.getElem?_cons_succ]; rfl)); (case bt12 => exact fun _ _ _ h => h); (case ct12 => kernel_rfl); (case dt12 => (intro W hW; (try dsimp only at hW); go_split_ands; go_simp; (try with_reducible rfl))); (case' rt12 => simp only [Act.put, List.setIfInBounds_toArray, List.set_cons_zero, List.set_cons_succ]))
          (refine held_take (i := 7) (oi := ?ot13) (v := ?vt13) ?at13 (by kernel_rfl) (by kernel_rfl) (by kernel_rfl) ?bt13 ?ct13 ?dt13 (by assumption) ?rt13; (case at13 => (simp only [List.getElem?_toArray, List.getElem?_cons_zero, List.getElem?_cons_succ]; rfl)); (case bt13 => exact fun _ _ _ h => h); (case ct13 => kernel_rfl); (case dt13 => (intro W hW; (try dsimp only at hW); go_split_ands; go_simp; (try with_reducible rfl))); (case' rt13 => simp only [Act.put, List.setIfInBounds_toArray, List.set_cons_zero, List.set_cons_succ]))
          refine held_one (i := 1) (oi := ?ot14) (by kernel_rfl) ?at14 ?ct14 (fun K1 hK1 => ?_)
          (case at14 => (simp only [List.getElem?_toArray, List.getElem?_cons_zero, List.getElem?_cons_succ]; rfl))
          (case ct14 => kernel_rfl)
          have hSb := hS
          go_simp
          refine (HUS.out _ hSb).mono ?_
          rintro e z1 ⟨rfl, hd⟩
          refine hK1 _ _ (VS.keep hSb hd) (fun hS1 => ?_)
          clear hS hSb hd hK1 K1
          (refine held_take (i := 8) (oi := ?ot15) (v := .bool true) ?at15 (by kernel_rfl) (by kernel_rfl) (by kernel_rfl) ?bt15 ?ct15 ?dt15 (by assumption) ?rt15; (case at15 => (simp only [List.getElem?_toArray, List.getElem?_cons_zero, List.getElem?_cons_succ]; rfl)); (case bt15 => exact fun _ _ _ h => h); (case ct15 => kernel_rfl); (case dt15 => (intro W6 hW; clear hW; go_simp)); (case' rt15 => simp only [Act.put, List.setIfInBounds_toArray, List.set_cons_zero, List.set_cons_succ]))
          (refine held_take (i := 9) (oi := ?ot16) (v := .bool true) ?at16 (by kernel_rfl) (by kernel_rfl) (by kernel_rfl) ?bt16 ?ct16 ?dt16 (by assumption) ?rt16; (case at16 => (simp only [List.getElem?_toArray, List.getElem?_cons_zero, List.getElem?_cons_succ]; rfl)); (case bt16 => exact fun _ _ _ h => h); (case ct16 => kernel_rfl); (case dt16 => (intro W6 hW; clear hW; go_simp)); (case' rt16 => simp only [Act.put, List.setIfInBounds_toArray, List.set_cons_zero, List.set_cons_succ]))
          (refine held_take (i := 10) (oi := ?ot17) (v := ?vt17) ?at17 (by kernel_rfl) (by kernel_rfl) (by kernel_rfl) ?bt17 ?ct17 ?dt17 (by assumption) ?rt17; (case at17 => (simp only [List.getElem?_toArray, List.getElem?_cons_zero, List.getElem?_cons_succ]; rfl)); (case bt17 => exact fun _ _ _ h => h); (case ct17 => kernel_rfl); (case dt17 => (intro W hW; (try dsimp only at hW); go_split_ands; go_simp; (try with_reducible rfl))); (case' rt17 => simp only [Act.put, List.setIfInBounds_toArray, List.set_cons_zero, List.set_cons_succ]))
          (refine held_take (i := 12) (oi := ?ot18) (v := ?vt18) ?at18 (by kernel_rfl) (by kernel_rfl) (by kernel_rfl) ?bt18 ?ct18 ?dt18 (by assumption) ?rt18; (case at18 => (simp only [List.getElem?_toArray, List.getElem?_cons_zero, List.getElem?_cons_succ]; rfl)); (case bt18 => exact fun _ _ _ h => h); (case ct18 => kernel_rfl); (case dt18 => (intro W hW; (try dsimp only at hW); go_split_ands; go_simp; (try with_reducible rfl))); (case' rt18 => simp only [Act.put, List.setIfInBounds_toArray, List.set_cons_zero, List.set_cons_succ]))
          (refine held_take (i := 13) (oi := ?ot19) (v := ?vt19) ?at19 (by kernel_rfl) (by kernel_rfl) (by kernel_rfl) ?bt19 ?ct19 ?dt19 (by assumption) ?rt19; (case at19 => (simp only [List.getElem?_toArray, List.getElem?_cons_zero, List.getElem?_cons_succ]; rfl)); (case bt19 => exact fun _ _ _ h => h); (case ct19 => kernel_rfl); (case dt19 => (intro W hW; (try dsimp only at hW); go_split_ands; go_simp; (try with_reducible rfl))); (case' rt19 => simp only [Act.put, List.setIfInBounds_toArray, List.set_cons_zero, List.set_cons_succ]))
          (refine held_take (i := 14) (oi := ?ot20) (v := ?vt20) ?at20 (by kernel_rfl) (by kernel_rfl) (by kernel_rfl) ?bt20 ?ct20 ?dt20 (by assumption) ?rt20; (case at20 => (simp only [List.getElem?_toArray, List.getElem?_cons_zero, List.getElem?_cons_succ]; rfl)); (case bt20 => exact fun _ _ _ h => h); (case ct20 => kernel_rfl); (case dt20 => (intro W hW; (try dsimp only at hW); go_split_ands; go_simp; (try with_reducible rfl))); (case' rt20 => simp only [Act.put, List.setIfInBounds_toArray, List.set_cons_zero, List.set_cons_succ]))
          (refine held_take (i := 15) (oi := ?ot21) (v := ?vt21) ?at21 (by kernel_rfl) (by kernel_rfl) (by kernel_rfl) ?bt21 ?ct21 ?dt21 (by assumption) ?rt21; (case at21 => (simp only [List.getElem?_toArray, List.getElem?_cons_zero, List.getElem?_cons_succ]; rfl)); (case bt21 => exact fun _ _ _ h => h); (case ct21 => kernel_rfl); (case dt21 => (intro W hW; (try dsimp only at hW); go_split_ands; go_simp; (try with_reducible rfl))); (case' rt21 => simp only [Act.put, List.setIfInBounds_toArray, List.set_cons_zero, List.set_cons_succ]))
          (refine held_take (i := 16) (oi := ?ot22) (v := ?vt22) ?at22 (by kernel_rfl) (by kernel_rfl) (by kernel_rfl) ?bt22 ?ct22 ?dt22 (by assumption) ?rt22; (case at22 => (simp only [List.getElem?_toArray, List.getElem?_cons_zero, List.getElem?_cons_succ]; rfl)); (case bt22 => exact fun _ _ _ h => h); (case ct22 => kernel_rfl); (case dt22 => (intro W6 hW; have c2 := HCE.out W6 hW; clear hW; go_simp; (try with_reducible rfl))); (case' rt22 => simp only [Act.put, List.setIfInBounds_toArray, List.set_cons_zero, List.set_cons_succ]))
          (refine held_take (i := 17) (oi := ?ot23) (v := ?vt23) ?at23 (by kernel_rfl) (by kernel_rfl) (by kernel_rfl) ?bt23 ?ct23 ?dt23 (by assumption) ?rt23; (case at23 => (simp only [List.getElem?_toArray, List.getElem?_cons_zero, List.getElem?_cons_succ]; rfl)); (case bt23 => exact fun _ _ _ h => h); (case ct23 => kernel_rfl); (case dt23 => (intro W hW; (try dsimp only at hW); go_split_ands; go_simp; (try with_reducible rfl))); (case' rt23 => simp only [Act.put, List.setIfInBounds_toArray, List.set_cons_zero, List.set_cons_succ]))
          (refine held_take (i := 18) (oi := ?ot24) (v := ?vt24) ?at24 (by kernel_rfl) (by kernel_rfl) (by kernel_rfl) ?bt24 ?ct24 ?dt24 (by assumption) ?rt24; (case at24 => (simp only [List.getElem?_toArray, List.getElem?_cons_zero, List.getElem?_cons_succ]; rfl)); (case bt24 => exact fun _ _ _ h => h); (case ct24 => kernel_rfl); (case dt24 => (intro W hW; (try dsimp only at hW); go_split_ands; go_simp; (try with_reducible rfl))); (case' rt24 => simp only [Act.put, List.setIfInBounds_toArray, List.set_cons_zero, List.set_cons_succ]))
          (refine held_take (i := 19) (oi := ?ot25) (v := ?vt25) ?at25 (by kernel_rfl) (by kernel_rfl) (by kernel_rfl) ?bt25 ?ct25 ?dt25 (by assumption) ?rt25; (case at25 => (simp only [List.getElem?_toArray, List.getElem?_cons_zero, List.getElem?_cons_succ]; rfl)); (case bt25 => exact fun _ _ _ h => h); (case ct25 => kernel_rfl); (case dt25 => (intro W hW; (try dsimp only at hW); go_split_ands; go_simp; (try with_reducible rfl))); (case' rt25 => simp only [Act.put, List.setIfInBounds_toArray, List.set_cons_zero, List.set_cons_succ]))
          refine held_one (i := 11) (oi := ?ot26) (by kernel_rfl) ?at26 ?ct26 (fun K11 hK11 => ?_)
          (case at26 => (simp only [List.getElem?_toArray, List.getElem?_cons_zero, List.getElem?_cons_succ]; rfl))
          (case ct26 => kernel_rfl)
          have hSb := hS1
          go_simp
          refine (HLE.out _ hSb).mono ?_
          rintro e z11 ⟨rfl, hd⟩
          refine hK11 _ _ (VS.keep hSb hd) (fun hS11 => ?_)
          clear hS1 hSb hd hK11 K11
          (refine held_take (i := 20) (oi := ?ot27) (v := ?vt27) ?at27 (by kernel_rfl) (by kernel_rfl) (by kernel_rfl) ?bt27 ?ct27 ?dt27 (by assumption) ?rt27; (case at27 => (simp only [List.getElem?_toArray, List.getElem?_cons_zero, List.getElem?_cons_succ]; rfl)); (case bt27 => exact fun _ _ _ h => h); (case ct27 => kernel_rfl); (case dt27 => (intro W hW; (try dsimp only at hW); go_split_ands; go_simp; (try with_reducible rfl))); (case' rt27 => simp only [Act.put, List.setIfInBounds_toArray, List.set_cons_zero, List.set_cons_succ]))
          (refine held_take (i := 21) (oi := ?ot28) (v := ?vt28) ?at28 (by kernel_rfl) (by kernel_rfl) (by kernel_rfl) ?bt28 ?ct28 ?dt28 (by assumption) ?rt28; (case at28 => (simp only [List.getElem?_toArray, List.getElem?_cons_zero, List.getElem?_cons_succ]; rfl)); (case bt28 => exact fun _ _ _ h => h); (case ct28 => kernel_rfl); (case dt28 => (intro W hW; (try dsimp only at hW); go_split_ands; go_simp; (try with_reducible rfl))); (case' rt28 => simp only [Act.put, List.setIfInBounds_toArray, List.set_cons_zero, List.set_cons_succ]))
          (refine held_take (i := 22) (oi := ?ot29) (v := ?vt29) ?at29 (by kernel_rfl) (by kernel_rfl) (by kernel_rfl) ?bt29 ?ct29 ?dt29 (by assumption) ?rt29; (case at29 => (simp only [List.getElem?_toArray, List.getElem?_cons_zero, List.getElem?_cons_succ]; rfl)); (case bt29 => exact fun _ _ _ h => h); (case ct29 => kernel_rfl); (case dt29 => (intro W hW; (try dsimp only at hW); go_split_ands; go_simp; (try with_reducible rfl))); (case' rt29 => simp only [Act.put, List.setIfInBounds_toArray, List.set_cons_zero, List.set_cons_succ]))
          refine wpAnyH_done (by kernel_rfl) ?_ _
          go_wp2_with fail
          go_ret
          exact ⟨rfl, VS.below0 hS11 HV5.out⟩
    case hjt56 =>
      have hSb := hS
      go_simp
      have hd : Below Y0.heap.size Y0 (Y0.alloc (.cells #[.int .u64 (s1 : Int), .int .u64 (s2 : Int), .slice none 0 0] 33)) := below_alloc1 _ _
      obtain ⟨y4, hy4⟩ : ∃ y, y = Y0.alloc (.cells #[.int .u64 (s1 : Int), .int .u64 (s2 : Int), .slice none 0 0] 33) := ⟨_, rfl⟩
      rw [← hy4] at hd ⊢
      have HY4 := Lib.hid hy4
      refine hK4 _ _ (VS.keep hSb hd) (fun hS4 => ?_)
      clear hS hSb hd hy4 hK4 K4
      refine held_one (i := 1) (oi := ?ot30) (by kernel_rfl) ?at30 ?ct30 (fun K1 hK1 => ?_)
      (case at30 => (simp only [List.getElem?_toArray, List.getElem?_cons_zero, List.getElem?_cons_succ]; rfl))
      (case ct30 => kernel_rfl)
      have hSb := hS4
      go_simp
      refine (HNW.out _).mono ?_
      rintro e y1 ⟨p, rfl, hp⟩
      have hd := hp.below
      have HD := Lib.hid (show DP w y1 p b S Y0.heap.size (s1, s2) [] from by rw [HY4.out] at hp; exact DP.new2 HW0.out hp)
      refine hK1 _ _ (VS.keep hSb hd) (fun hS1 => ?_)
      clear hS4 hSb hp hd hK1 K1
      (refine held_take (i := 5) (oi := ?ot31) (v := ?vt31) ?at31 (by kernel_rfl) (by kernel_rfl) (by kernel_rfl) ?bt31 ?ct31 ?dt31 (by assumption) ?rt31; (case at31 => (simp only [List.getElem?_toArray, List.getElem?_cons_zero, List.getElem?_cons_succ]; rfl)); (case bt31 => exact fun _ _ _ h => h); (case ct31 => kernel_rfl); (case dt31 => (intro W hW; (try dsimp only at hW); go_split_ands; go_simp; (try with_reducible rfl))); (case' rt31 => simp only [Act.put, List.setIfInBounds_toArray, List.set_cons_zero, List.set_cons_succ]))
      (refine held_take (i := 6) (oi := ?ot32) (v := ?vt32) ?at32 (by kernel_rfl) (by kernel_rfl) (by kernel_rfl) ?bt32 ?ct32 ?dt32 (by assumption) ?rt32; (case at32 => (simp only [List.getElem?_toArray, List.getElem?_cons_zero, List.getElem?_cons_succ]; rfl)); (case bt32 => exact fun _ _ _ h => h); (case ct32 => kernel_rfl); (case dt32 => (intro W hW; (try dsimp only at hW); go_split_ands; go_simp; (try with_reducible rfl))); (case' rt32 => simp only [Act.put, List.setIfInBounds_toArray, List.set_cons_zero, List.set_cons_succ]))
      refine wpAnyH_done (by kernel_rfl) ?_ _
      obtain ⟨q, hq⟩ : ∃ q, q = Y0.heap.size := ⟨_, rfl⟩
      rw [← hq] at HD ⊢
      clear hq hS1
      have H0 := HD
      clear HD
      go_wp2_with (go_at_call 10; refine (HFA.out _ _ _ H0.out).mono ?_; rintro e w4 ⟨rfl, hp⟩; have M4 := Lib.hid hp; clear hp)
      go_loopw [34] (fun i wr => ∃ k : Nat, k ≤ l.length ∧ i = .int .i64 k ∧ Hid (DP w wr p b (runsL S (l.take k)) q (s1, s2) (usedL S [] (l.take k)))) (fun i _ => l.length - (intOf i).toNat)
      case atStart => exact ⟨0, Nat.zero_le _, rfl, Lib.hid M4.out⟩
      case round =>
        obtain ⟨k, hk, rfl, hM⟩ := hrel
        by_cases hlt : k < l.length
        · obtain ⟨a, g, rfl, hg, hgb, hc0, hc1⟩ := (HA.out.below hM.out.below).at hlt
          have hrs := runsL_succ S l hlt
          have hus := usedL_succ S [] l hlt
          have hts := tot_succ l hlt
          have htl := tot_le l (k + 1)
          have hxk := HOK.out _ (List.getElem_mem hlt)
          have hrk := HRE.out k
          have hrk1 := HRE.out (k + 1)
          have hlk := HLN.out k
          have hlk1 := HLN.out (k + 1)
          have huk := HUL.out k
          have huk1 := HUL.out (k + 1)
          obtain ⟨xx, hx⟩ : ∃ xx, xx = l[k] := ⟨_, rfl⟩
          rw [← hx] at hc0 hc1 hrs hus hts hxk
          obtain ⟨n, a0⟩ := xx
          simp only at hc0 hc1 hrs hus hts
          obtain ⟨L, hL⟩ : ∃ L, L = runsL S (l.take k) := ⟨_, rfl⟩
          obtain ⟨U, hU⟩ : ∃ U, U = usedL S [] (l.take k) := ⟨_, rfl⟩
          rw [← hL] at hrs hus hM hrk hlk
          rw [← hU] at hus hM hrk huk
          obtain ⟨L1, hL1⟩ : ∃ L1, L1 = runsL S (l.take (k + 1)) := ⟨_, rfl⟩
          obtain ⟨U1, hU1⟩ : ∃ U1, U1 = usedL S [] (l.take (k + 1)) := ⟨_, rfl⟩
          rw [← hL1] at hrs hrk1 hlk1
          rw [← hU1] at hus hrk1 huk1
          have hvl := runV_lt hrk.fr n a0
          obtain ⟨V, hV⟩ : ∃ V, V = runV L n a0 := ⟨_, rfl⟩
          obtain ⟨E, hE⟩ : ∃ E, E = runE L n a0 := ⟨_, rfl⟩
          obtain ⟨hv, hhv⟩ : ∃ hv : Nat → Bool, hv = fun y => decide (y / 4096 * 4096 ∈ U1) := ⟨_, rfl⟩
          have hm2 : DP w (wr.alloc (.cells #[.int .i64 n, .int .u64 (a0 : Int)] 37)) p b L q (s1, s2) U := hM.out.under (below_alloc1 _ _)
          have hr1 := dp_run hm2 hrk.fr (by omega) n a0 hxk.2.2
          rw [← hV, ← hE, ← hrs] at hr1
          rw [← hV] at hvl
          have HR := Lib.hid hr1
          have HAX : Hid (Blk (wr.alloc (.cells #[.int .i64 n, .int .u64 (a0 : Int)] 37)) wr.heap.size 37 #[.int .i64 n, .int .u64 (a0 : Int)]) := Lib.hid (Blk.new _ _ _ rfl)
          have HRR : Hid (∀ X, DP w X p b L1 q (s1, s2) U → Calls Try.prog 12 #[.pointer (some ⟨q, 0, none⟩), .int .i64 n, .int .u64 (a0 : Int)] X fun e w' => e = .returned (.tuple #[.int .u64 (V : Int), .int .i64 (E : Int)]) ∧ DP w w' p b L1 q (s1, s2) U1) := Lib.hid fun X h => by
            have := dp_rrun h HSF.out (by rw [← HBF.out]; exact hrk) n a0 hxk.2.2 (by omega)
            rw [← hus, ← hV, ← hE] at this
            exact this
          have HHA : Hid (∀ X y, DP w X p b L1 q (s1, s2) U1 → Calls Try.prog 13 #[.pointer (some ⟨p, 0, none⟩), .int .u64 ((y : Nat) : Int)] X fun e w' => e = .returned (.bool (hv y)) ∧ DP w w' p b L1 q (s1, s2) U1) := Lib.hid fun X y h => by
            rw [hhv]
            exact dp_has h hrk1 (by omega) y
          have HRH : Hid (∀ X y, y < TT → DP w X p b L1 q (s1, s2) U1 → Calls Try.prog 14 #[.pointer (some ⟨q, 0, none⟩), .int .u64 ((y : Nat) : Int)] X fun e w' => e = .returned (.bool (hv y)) ∧ w' = X) := Lib.hid fun X y hy h => by
            rw [hhv]
            exact dp_rhas h (by omega) y hy
          have HVL := Lib.hid hvl
          have HKP : Hid (∀ W', DP w W' p b L1 q (s1, s2) U1 → DP w W' p b (runsL S (l.take (k + 1))) q (s1, s2) (usedL S [] (l.take (k + 1)))) := Lib.hid fun W' h => by rw [← hL1, ← hU1]; exact h
          clear hrs hus hts htl hxk hrk hrk1 hlk hlk1 huk huk1 hx hL hU hL1 hU1 hvl hV hE hhv hm2 hr1 hM hgb
          go_wp2_with (first
            | (go_at_call 11; refine HR.out.mono ?_; rintro e w5 ⟨rfl, hp, hka⟩; have d0 := (hka _ _ _ HAX.out (by decide) (by decide)).cellAt 0 rfl; have d1 := (hka _ _ _ HAX.out (by decide) (by decide)).cellAt 1 rfl; have M5 := Lib.hid hp; clear hp hka)
            | (go_at_call 12; refine (HRR.out _ M5.out).mono ?_; rintro e w6 ⟨rfl, hp⟩; have M6 := Lib.hid hp; clear hp)
            | (go_at_call 13; refine (HHA.out _ _ M7.out).mono ?_; rintro e w8 ⟨rfl, hp⟩; have M8 := Lib.hid hp; clear hp)
            | (go_at_call 13; refine (HHA.out _ _ M6.out).mono ?_; rintro e w7 ⟨rfl, hp⟩; have M7 := Lib.hid hp; clear hp)
            | (go_at_call 14; refine (HRH.out _ _ HXL.out M8.out).mono ?_; rintro e w9 ⟨rfl, hw⟩; have ew := hw.symm; subst ew; clear hw)
            | (go_at_call 14; refine (HRH.out _ _ HVL.out M7.out).mono ?_; rintro e w9 ⟨rfl, hw⟩; have ew := hw.symm; subst ew; clear hw))
          go_roundw
          case rel => exact ⟨k + 1, by omega, by simp, Lib.hid (HKP.out _ M8.out)⟩
          case measure => simp [intOf]; omega
        · obtain rfl : k = l.length := by omega
          have hre := HRE.out l.length
          have hln := HLN.out l.length
          have hul := HUL.out l.length
          obtain ⟨L, hL⟩ : ∃ L, L = runsL S (l.take l.length) := ⟨_, rfl⟩
          obtain ⟨U, hU⟩ : ∃ U, U = usedL S [] (l.take l.length) := ⟨_, rfl⟩
          rw [← hL] at hre hln hM
          rw [← hU] at hre hul hM
          obtain ⟨V5, hV5⟩ : ∃ V5, V5 = wr := ⟨_, rfl⟩
          rw [← hV5] at hM ⊢
          obtain ⟨A5, c5, hce, hqs⟩ := hM.out.cell
          obtain ⟨m, hm⟩ : ∃ m, m = U.length := ⟨_, rfl⟩
          rw [← hm] at hce hul
          have hsum := hre.sum
          have hbm := Fr.bytes_mod (b := b) hre.fr.al
          have hbl := hre.fr.fits.lt
          unfold TT at hbl
          obtain ⟨gg, hgg⟩ : ∃ gg, gg = bytes L / 4096 := ⟨_, rfl⟩
          have kcs : IntKind.u64.wrap ((C : Int) - (m : Int)) = (gg : Int) := by have := HC.out; simp [IntKind.wrap, IntKind.bits, IntKind.signed]; omega
          have kmm : IntKind.u64.wrap (m : Int) = (m : Int) := by simp [IntKind.wrap, IntKind.bits, IntKind.signed]; omega
          have HCE : Hid (∀ Y, VS V5 Y → Y.cell? ⟨q, 2, none⟩ = some (.slice A5 m c5)) := Lib.hid fun Y hY => ((show Below V5.heap.size V5 Y from hY).cell (p := ⟨q, 2, none⟩) hqs).trans hce
          have HUS : Hid (∀ Y, VS V5 Y → Calls Try.prog 15 #[.pointer (some ⟨p, 0, none⟩)] Y fun e w' => e = .returned (.int .u64 (m : Int)) ∧ Below Y.heap.size Y w') := Lib.hid fun Y hY => by rw [hm]; exact dp_used (hM.out.under hY) hre (by omega)
          have HLE : Hid (∀ Y, VS V5 Y → Calls Try.prog 16 #[.pointer (some ⟨p, 0, none⟩)] Y fun e w' => e = .returned (.int .u64 (gg : Int)) ∧ Below Y.heap.size Y w') := Lib.hid fun Y hY => by rw [hgg]; exact dp_left (hM.out.under hY) hre.fr (by omega)
          have HV5 := Lib.hid hM.out.below
          clear hV5 hre hln hL hU hM hce hqs hm hsum hbm hbl hgg
          go_wp2_with fail
          refine wp_region_held_drew (S := fun Y => VS V5 Y) (by kernel_rfl) (VS.begin V5) (fun hS => ?_)
          (refine held_take (i := 0) (oi := ?ot33) (v := ?vt33) ?at33 (by kernel_rfl) (by kernel_rfl) (by kernel_rfl) ?bt33 ?ct33 ?dt33 (by assumption) ?rt33; (case at33 => (simp only [List.getElem?_toArray, List.getElem?_cons_zero]; rfl)); (case bt33 => exact fun _ _ _ h => h); (case ct33 => kernel_rfl); (case dt33 => (intro W hW; (try dsimp only at hW); go_split_ands; go_simp; (try with_reducible rfl))); (case' rt33 => simp only [Act.put, List.setIfInBounds_toArray, List.set_cons_zero, List.set_cons_succ]))
          (refine held_take (i := 2) (oi := ?ot34) (v := ?vt34) ?at34 (by kernel_rfl) (by kernel_rfl) (by kernel_rfl) ?bt34 ?ct34 ?dt34 (by assumption) ?rt34; (case at34 => (simp only [List.getElem?_toArray, List.getElem?_cons_zero, List.getElem?_cons_succ]; rfl)); (case bt34 => exact fun _ _ _ h => h); (case ct34 => kernel_rfl); (case dt34 => (intro W hW; (try dsimp only at hW); go_split_ands; go_simp; (try with_reducible rfl))); (case' rt34 => simp only [Act.put, List.setIfInBounds_toArray, List.set_cons_zero, List.set_cons_succ]))
          (refine held_take (i := 3) (oi := ?ot35) (v := ?vt35) ?at35 (by kernel_rfl) (by kernel_rfl) (by kernel_rfl) ?bt35 ?ct35 ?dt35 (by assumption) ?rt35; (case at35 => (simp only [List.getElem?_toArray, List.getElem?_cons_zero, List.getElem?_cons_succ]; rfl)); (case bt35 => exact fun _ _ _ h => h); (case ct35 => kernel_rfl); (case dt35 => (intro W hW; (try dsimp only at hW); go_split_ands; go_simp; (try with_reducible rfl))); (case' rt35 => simp only [Act.put, List.setIfInBounds_toArray, List.set_cons_zero, List.set_cons_succ]))
          (refine held_take (i := 4) (oi := ?ot36) (v := ?vt36) ?at36 (by kernel_rfl) (by kernel_rfl) (by kernel_rfl) ?bt36 ?ct36 ?dt36 (by assumption) ?rt36; (case at36 => (simp only [List.getElem?_toArray, List.getElem?_cons_zero, List.getElem?_cons_succ]; rfl)); (case bt36 => exact fun _ _ _ h => h); (case ct36 => kernel_rfl); (case dt36 => (intro W hW; (try dsimp only at hW); go_split_ands; go_simp; (try with_reducible rfl))); (case' rt36 => simp only [Act.put, List.setIfInBounds_toArray, List.set_cons_zero, List.set_cons_succ]))
          (refine held_take (i := 5) (oi := ?ot37) (v := ?vt37) ?at37 (by kernel_rfl) (by kernel_rfl) (by kernel_rfl) ?bt37 ?ct37 ?dt37 (by assumption) ?rt37; (case at37 => (simp only [List.getElem?_toArray, List.getElem?_cons_zero, List.getElem?_cons_succ]; rfl)); (case bt37 => exact fun _ _ _ h => h); (case ct37 => kernel_rfl); (case dt37 => (intro W6 hW; have c2 := HCE.out W6 hW; clear hW; go_simp; (try with_reducible rfl))); (case' rt37 => simp only [Act.put, List.setIfInBounds_toArray, List.set_cons_zero, List.set_cons_succ]))
          (refine held_take (i := 6) (oi := ?ot38) (v := ?vt38) ?at38 (by kernel_rfl) (by kernel_rfl) (by kernel_rfl) ?bt38 ?ct38 ?dt38 (by assumption) ?rt38; (case at38 => (simp only [List.getElem?_toArray, List.getElem?_cons_zero, List.getElem?_cons_succ]; rfl)); (case bt38 => exact fun _ _ _ h => h); (case ct38 => kernel_rfl); (case dt38 => (intro W hW; (try dsimp only at hW); go_split_ands; go_simp; (try with_reducible rfl))); (case' rt38 => simp only [Act.put, List.setIfInBounds_toArray, List.set_cons_zero, List.set_cons_succ]))
          (refine held_take (i := 7) (oi := ?ot39) (v := ?vt39) ?at39 (by kernel_rfl) (by kernel_rfl) (by kernel_rfl) ?bt39 ?ct39 ?dt39 (by assumption) ?rt39; (case at39 => (simp only [List.getElem?_toArray, List.getElem?_cons_zero, List.getElem?_cons_succ]; rfl)); (case bt39 => exact fun _ _ _ h => h); (case ct39 => kernel_rfl); (case dt39 => (intro W hW; (try dsimp only at hW); go_split_ands; go_simp; (try with_reducible rfl))); (case' rt39 => simp only [Act.put, List.setIfInBounds_toArray, List.set_cons_zero, List.set_cons_succ]))
          refine held_one (i := 1) (oi := ?ot40) (by kernel_rfl) ?at40 ?ct40 (fun K1 hK1 => ?_)
          (case at40 => (simp only [List.getElem?_toArray, List.getElem?_cons_zero, List.getElem?_cons_succ]; rfl))
          (case ct40 => kernel_rfl)
          have hSb := hS
          go_simp
          refine (HUS.out _ hSb).mono ?_
          rintro e z1 ⟨rfl, hd⟩
          refine hK1 _ _ (VS.keep hSb hd) (fun hS1 => ?_)
          clear hS hSb hd hK1 K1
          (refine held_take (i := 8) (oi := ?ot41) (v := .bool true) ?at41 (by kernel_rfl) (by kernel_rfl) (by kernel_rfl) ?bt41 ?ct41 ?dt41 (by assumption) ?rt41; (case at41 => (simp only [List.getElem?_toArray, List.getElem?_cons_zero, List.getElem?_cons_succ]; rfl)); (case bt41 => exact fun _ _ _ h => h); (case ct41 => kernel_rfl); (case dt41 => (intro W6 hW; clear hW; go_simp)); (case' rt41 => simp only [Act.put, List.setIfInBounds_toArray, List.set_cons_zero, List.set_cons_succ]))
          (refine held_take (i := 9) (oi := ?ot42) (v := .bool true) ?at42 (by kernel_rfl) (by kernel_rfl) (by kernel_rfl) ?bt42 ?ct42 ?dt42 (by assumption) ?rt42; (case at42 => (simp only [List.getElem?_toArray, List.getElem?_cons_zero, List.getElem?_cons_succ]; rfl)); (case bt42 => exact fun _ _ _ h => h); (case ct42 => kernel_rfl); (case dt42 => (intro W6 hW; clear hW; go_simp)); (case' rt42 => simp only [Act.put, List.setIfInBounds_toArray, List.set_cons_zero, List.set_cons_succ]))
          (refine held_take (i := 10) (oi := ?ot43) (v := ?vt43) ?at43 (by kernel_rfl) (by kernel_rfl) (by kernel_rfl) ?bt43 ?ct43 ?dt43 (by assumption) ?rt43; (case at43 => (simp only [List.getElem?_toArray, List.getElem?_cons_zero, List.getElem?_cons_succ]; rfl)); (case bt43 => exact fun _ _ _ h => h); (case ct43 => kernel_rfl); (case dt43 => (intro W hW; (try dsimp only at hW); go_split_ands; go_simp; (try with_reducible rfl))); (case' rt43 => simp only [Act.put, List.setIfInBounds_toArray, List.set_cons_zero, List.set_cons_succ]))
          (refine held_take (i := 12) (oi := ?ot44) (v := ?vt44) ?at44 (by kernel_rfl) (by kernel_rfl) (by kernel_rfl) ?bt44 ?ct44 ?dt44 (by assumption) ?rt44; (case at44 => (simp only [List.getElem?_toArray, List.getElem?_cons_zero, List.getElem?_cons_succ]; rfl)); (case bt44 => exact fun _ _ _ h => h); (case ct44 => kernel_rfl); (case dt44 => (intro W hW; (try dsimp only at hW); go_split_ands; go_simp; (try with_reducible rfl))); (case' rt44 => simp only [Act.put, List.setIfInBounds_toArray, List.set_cons_zero, List.set_cons_succ]))
          (refine held_take (i := 13) (oi := ?ot45) (v := ?vt45) ?at45 (by kernel_rfl) (by kernel_rfl) (by kernel_rfl) ?bt45 ?ct45 ?dt45 (by assumption) ?rt45; (case at45 => (simp only [List.getElem?_toArray, List.getElem?_cons_zero, List.getElem?_cons_succ]; rfl)); (case bt45 => exact fun _ _ _ h => h); (case ct45 => kernel_rfl); (case dt45 => (intro W hW; (try dsimp only at hW); go_split_ands; go_simp; (try with_reducible rfl))); (case' rt45 => simp only [Act.put, List.setIfInBounds_toArray, List.set_cons_zero, List.set_cons_succ]))
          (refine held_take (i := 14) (oi := ?ot46) (v := ?vt46) ?at46 (by kernel_rfl) (by kernel_rfl) (by kernel_rfl) ?bt46 ?ct46 ?dt46 (by assumption) ?rt46; (case at46 => (simp only [List.getElem?_toArray, List.getElem?_cons_zero, List.getElem?_cons_succ]; rfl)); (case bt46 => exact fun _ _ _ h => h); (case ct46 => kernel_rfl); (case dt46 => (intro W hW; (try dsimp only at hW); go_split_ands; go_simp; (try with_reducible rfl))); (case' rt46 => simp only [Act.put, List.setIfInBounds_toArray, List.set_cons_zero, List.set_cons_succ]))
          (refine held_take (i := 15) (oi := ?ot47) (v := ?vt47) ?at47 (by kernel_rfl) (by kernel_rfl) (by kernel_rfl) ?bt47 ?ct47 ?dt47 (by assumption) ?rt47; (case at47 => (simp only [List.getElem?_toArray, List.getElem?_cons_zero, List.getElem?_cons_succ]; rfl)); (case bt47 => exact fun _ _ _ h => h); (case ct47 => kernel_rfl); (case dt47 => (intro W hW; (try dsimp only at hW); go_split_ands; go_simp; (try with_reducible rfl))); (case' rt47 => simp only [Act.put, List.setIfInBounds_toArray, List.set_cons_zero, List.set_cons_succ]))
          (refine held_take (i := 16) (oi := ?ot48) (v := ?vt48) ?at48 (by kernel_rfl) (by kernel_rfl) (by kernel_rfl) ?bt48 ?ct48 ?dt48 (by assumption) ?rt48; (case at48 => (simp only [List.getElem?_toArray, List.getElem?_cons_zero, List.getElem?_cons_succ]; rfl)); (case bt48 => exact fun _ _ _ h => h); (case ct48 => kernel_rfl); (case dt48 => (intro W6 hW; have c2 := HCE.out W6 hW; clear hW; go_simp; (try with_reducible rfl))); (case' rt48 => simp only [Act.put, List.setIfInBounds_toArray, List.set_cons_zero, List.set_cons_succ]))
          (refine held_take (i := 17) (oi := ?ot49) (v := ?vt49) ?at49 (by kernel_rfl) (by kernel_rfl) (by kernel_rfl) ?bt49 ?ct49 ?dt49 (by assumption) ?rt49; (case at49 => (simp only [List.getElem?_toArray, List.getElem?_cons_zero, List.getElem?_cons_succ]; rfl)); (case bt49 => exact fun _ _ _ h => h); (case ct49 => kernel_rfl); (case dt49 => (intro W hW; (try dsimp only at hW); go_split_ands; go_simp; (try with_reducible rfl))); (case' rt49 => simp only [Act.put, List.setIfInBounds_toArray, List.set_cons_zero, List.set_cons_succ]))
          (refine held_take (i := 18) (oi := ?ot50) (v := ?vt50) ?at50 (by kernel_rfl) (by kernel_rfl) (by kernel_rfl) ?bt50 ?ct50 ?dt50 (by assumption) ?rt50; (case at50 => (simp only [List.getElem?_toArray, List.getElem?_cons_zero, List.getElem?_cons_succ]; rfl)); (case bt50 => exact fun _ _ _ h => h); (case ct50 => kernel_rfl); (case dt50 => (intro W hW; (try dsimp only at hW); go_split_ands; go_simp; (try with_reducible rfl))); (case' rt50 => simp only [Act.put, List.setIfInBounds_toArray, List.set_cons_zero, List.set_cons_succ]))
          (refine held_take (i := 19) (oi := ?ot51) (v := ?vt51) ?at51 (by kernel_rfl) (by kernel_rfl) (by kernel_rfl) ?bt51 ?ct51 ?dt51 (by assumption) ?rt51; (case at51 => (simp only [List.getElem?_toArray, List.getElem?_cons_zero, List.getElem?_cons_succ]; rfl)); (case bt51 => exact fun _ _ _ h => h); (case ct51 => kernel_rfl); (case dt51 => (intro W hW; (try dsimp only at hW); go_split_ands; go_simp; (try with_reducible rfl))); (case' rt51 => simp only [Act.put, List.setIfInBounds_toArray, List.set_cons_zero, List.set_cons_succ]))
          refine held_one (i := 11) (oi := ?ot52) (by kernel_rfl) ?at52 ?ct52 (fun K11 hK11 => ?_)
          (case at52 => (simp only [List.getElem?_toArray, List.getElem?_cons_zero, List.getElem?_cons_succ]; rfl))
          (case ct52 => kernel_rfl)
          have hSb := hS1
          go_simp
          refine (HLE.out _ hSb).mono ?_
          rintro e z11 ⟨rfl, hd⟩
          refine hK11 _ _ (VS.keep hSb hd) (fun hS11 => ?_)
          clear hS1 hSb hd hK11 K11
          (refine held_take (i := 20) (oi := ?ot53) (v := ?vt53) ?at53 (by kernel_rfl) (by kernel_rfl) (by kernel_rfl) ?bt53 ?ct53 ?dt53 (by assumption) ?rt53; (case at53 => (simp only [List.getElem?_toArray, List.getElem?_cons_zero, List.getElem?_cons_succ]; rfl)); (case bt53 => exact fun _ _ _ h => h); (case ct53 => kernel_rfl); (case dt53 => (intro W hW; (try dsimp only at hW); go_split_ands; go_simp; (try with_reducible rfl))); (case' rt53 => simp only [Act.put, List.setIfInBounds_toArray, List.set_cons_zero, List.set_cons_succ]))
          (refine held_take (i := 21) (oi := ?ot54) (v := ?vt54) ?at54 (by kernel_rfl) (by kernel_rfl) (by kernel_rfl) ?bt54 ?ct54 ?dt54 (by assumption) ?rt54; (case at54 => (simp only [List.getElem?_toArray, List.getElem?_cons_zero, List.getElem?_cons_succ]; rfl)); (case bt54 => exact fun _ _ _ h => h); (case ct54 => kernel_rfl); (case dt54 => (intro W hW; (try dsimp only at hW); go_split_ands; go_simp; (try with_reducible rfl))); (case' rt54 => simp only [Act.put, List.setIfInBounds_toArray, List.set_cons_zero, List.set_cons_succ]))
          (refine held_take (i := 22) (oi := ?ot55) (v := ?vt55) ?at55 (by kernel_rfl) (by kernel_rfl) (by kernel_rfl) ?bt55 ?ct55 ?dt55 (by assumption) ?rt55; (case at55 => (simp only [List.getElem?_toArray, List.getElem?_cons_zero, List.getElem?_cons_succ]; rfl)); (case bt55 => exact fun _ _ _ h => h); (case ct55 => kernel_rfl); (case dt55 => (intro W hW; (try dsimp only at hW); go_split_ands; go_simp; (try with_reducible rfl))); (case' rt55 => simp only [Act.put, List.setIfInBounds_toArray, List.set_cons_zero, List.set_cons_succ]))
          refine wpAnyH_done (by kernel_rfl) ?_ _
          go_wp2_with fail
          go_ret
          exact ⟨rfl, VS.below0 hS11 HV5.out⟩
end Go.Proofs.Ytmhhckpdhjnmeaa
