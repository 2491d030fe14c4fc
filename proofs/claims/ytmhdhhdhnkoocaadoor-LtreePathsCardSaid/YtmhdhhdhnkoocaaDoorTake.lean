/- (*sha.state).take. -/
import Derived.Test.YtmhdhhdhnkoocaaDoorFeed
namespace Go.Proofs.YtmhdhhdhnkoocaaDoor
open Go.RowKit
theorem bySize : (Tryd.prog.info? 5).map (·.size) = some 1 := by kernel_rfl

set_option maxHeartbeats 1000000 in
set_option maxRecDepth 100000 in
theorem take_any (s : St) (l : List UInt8) (A : Option Addr) (c g : Nat) (ty : TypeId) (n : Nat) (f0 : Nat → Value) (w : World) (hn : 73 ≤ n) (hs : s.t + l.length < 1099511627776) (hc : l.length ≤ c)
    (hS : Arr w g ty n (stf s f0)) (hl : Lies w w.heap.size 1 A l.length (u8s l)) (hg : ∀ a, A = some a → l.length ≠ 0 → a.block ≠ g) (hT : Tabs w) (h0 : g ≠ 1) (h1 : g ≠ 0) :
    Calls Tryd.prog 61 #[.pointer (some ⟨g, 0, none⟩), .slice A l.length c] w fun e w' => e = .returned (.tuple #[]) ∧ Arr w' g ty n (stf (feed s l) f0) ∧ Save g w w' := by
  have HL := Lib.hid hl
  have HG := Lib.hid (And.intro hg (And.intro h0 h1))
  have HT := Lib.hid hT
  have HS := Lib.hid hS
  clear hl hg h0 h1 hT hS
  go_enter Tryd.func61, Tryd.ntmps61
  go_wp2
  go_loopw [1] (fun u W => ∃ (p : Nat) (A' : Option Addr) (c' : Nat), p ≤ l.length ∧ u = .slice A' (l.length - p) c' ∧ l.length - p ≤ c' ∧ Hid (∀ j, j < l.length - p → ∃ a', A' = some a' ∧ a'.block < w.heap.size ∧ a'.block ≠ g ∧ w.cell? (a'.add j) = some (.int .u8 ((l.getD (p + j) 0).toNat : Int))) ∧ Hid (Arr W g ty n (stf (feed s (l.take p)) f0)) ∧ Hid (Save g w W)) (fun u _ => match u with | .slice _ m _ => m | _ => 0)
  case atStart =>
    refine ⟨0, A, c, Nat.zero_le _, rfl, hc, Lib.hid fun j hj => ?_, HS, Lib.hid (Save.refl _ _)⟩
    obtain ⟨a, hx, rfl, hb, hcell⟩ := HL.out.atMap (k := j) (by omega)
    exact ⟨a, rfl, hb, HG.out.1 a rfl (by omega), by rw [hcell, Nat.zero_add, List.getD_eq_getElem?_getD, List.getElem?_eq_getElem hx]; rfl⟩
  case round =>
    obtain ⟨p, A', c', hp, rfl, hc', hby, hA, hsv⟩ := hrel
    by_cases hlt : p < l.length
    · obtain ⟨a', rfl, hab, hag, _⟩ := hby.out 0 (by omega)
      obtain ⟨q, hq⟩ : ∃ q, q = feed s (l.take p) := ⟨_, rfl⟩
      rw [← hq] at hA
      have hqt : q.t = s.t + p := by rw [hq, feed_t, List.length_take]; omega
      obtain ⟨r, hr⟩ : ∃ r, r = q.t % 64 := ⟨_, rfl⟩
      obtain ⟨m, hm⟩ : ∃ m, m = Nat.min (l.length - p) (64 - r) := ⟨_, rfl⟩
      have hmm : m = min (l.length - p) (64 - r) := hm
      have hr64 : r < 64 := by omega
      have hct := hA.out.cell (i := 72) (by omega)
      rw [stf_t] at hct
      have hft := hA.out.frozen 72
      have HC := Lib.hid hct
      have HF := Lib.hid hft
      have HQ := Lib.hid (And.intro hq (And.intro hqt hr))
      have e1 : (q.t : Int).tmod 64 = (r : Int) := by rw [Int.tmod_eq_emod_of_nonneg (by omega)]; omega
      have hpos : (0 : Int) < ((l.length - p : Nat) : Int) := by omega
      have hr0 : (0 : Int) ≤ (r : Int) := by omega
      have hr1 : (r : Int) ≤ 64 := by omega
      have hne64 : ¬ (64 = r) := by omega
      obtain ⟨seg, hseg⟩ : ∃ seg, seg = (l.drop p).take m := ⟨_, rfl⟩
      have hsl : seg.length = m := by rw [hseg, List.length_take, List.length_drop]; omega
      have hsd : ∀ j, j < m → seg.getD j 0 = l.getD (p + j) 0 := fun j hj => by
        rw [hseg, List.getD_eq_getElem?_getD, List.getElem?_take, if_pos hj, List.getElem?_drop, List.getD_eq_getElem?_getD]
      have hsrc : ∀ j, j < m → wr.drew.cell? (a'.add j) = some (bys (fun j => seg.getD j 0) j) := fun j hj => by
        obtain ⟨a2, h2, hb2, hg2, hc2⟩ := hby.out j (by omega)
        obtain rfl := Option.some.inj h2
        show wr.cell? _ = _
        rw [hsv.out.cell (by rw [addr_add_block]; exact hb2) (by rw [addr_add_block]; exact hg2), hc2]
        simp only [bys]
        rw [hsd j hj]
      have hcopy := run_copy_spl (P := Tryd.prog) (w := wr.drew) (g := g) (n := n) (o := 8 + r) (dLen := 64 - r) (dCap := 64 - r) (sLen := l.length - p) (sCap := c') (dT := 67) (sT := 67) (ty := 3) (elem := 5) (t := ty) (a := a') (f := stf q f0) (c := bys (fun j => seg.getD j 0)) m hA.out Tryd.underlying67 bySize hm hsrc (by omega) (bys_one _ _)
      have e9 : spl (8 + r) m (bys (fun j => seg.getD j 0)) (stf q f0) = stf ⟨q.h, lay q.b r seg, q.t⟩ f0 := by
        rw [← hsl]; exact stf_b_spl q f0 r seg (by omega)
      rw [e9] at hcopy
      have hA1 := (hA.out.drewN 1).row (stf ⟨q.h, lay q.b r seg, q.t⟩ f0)
      have hsv1 := (hsv.out.drewN 1).setRow (vec n (stf ⟨q.h, lay q.b r seg, q.t⟩ f0))
      have HA1 := Lib.hid (And.intro hA1 hsv1)
      have HCp := Lib.hid hcopy
      have HSg := Lib.hid (And.intro hseg hsl)
      have HM := Lib.hid hmm
      clear hseg hsl hsd hsrc hcopy e9 hA1 hsv1 hm hsv hmm
      clear hct hft hq hqt hr
      go_wp2_with fail
      refine wp_region_held_drew (S := fun Y => Y.cell? ⟨g, 72, none⟩ = some (.int .u64 (q.t : Int))) (by kernel_rfl) HC.out (fun hS => ?_)
      (refine held_take (i := 0) (oi := ?ot1) (v := ?vt1) ?at1 (by kernel_rfl) (by kernel_rfl) (by kernel_rfl) ?bt1 ?ct1 ?dt1 (by assumption) ?rt1; (case at1 => (simp only [List.getElem?_toArray, List.getElem?_cons_zero]; rfl)); (case bt1 => exact fun _ _ _ h => h); (case ct1 => kernel_rfl); (case dt1 => (intro W hW; (try dsimp only at hW); go_split_ands; go_simp; (try with_reducible rfl))); (case' rt1 => simp only [Act.put, List.setIfInBounds_toArray, List.set_cons_zero, List.set_cons_succ]))
      (refine held_take (i := 1) (oi := ?ot2) (v := ?vt2) ?at2 (by kernel_rfl) (by kernel_rfl) (by kernel_rfl) ?bt2 ?ct2 ?dt2 (by assumption) ?rt2; (case at2 => (simp only [List.getElem?_toArray, List.getElem?_cons_zero, List.getElem?_cons_succ]; rfl)); (case bt2 => exact fun _ _ _ h => h); (case ct2 => kernel_rfl); (case dt2 => (intro W hW; (try dsimp only at hW); go_split_ands; go_simp; (try with_reducible rfl))); (case' rt2 => simp only [Act.put, List.setIfInBounds_toArray, List.set_cons_zero, List.set_cons_succ]))
      (refine held_take (i := 2) (oi := ?ot3) (v := ?vt3) ?at3 (by kernel_rfl) (by kernel_rfl) (by kernel_rfl) ?bt3 ?ct3 ?dt3 (by assumption) ?rt3; (case at3 => (simp only [List.getElem?_toArray, List.getElem?_cons_zero, List.getElem?_cons_succ]; rfl)); (case bt3 => exact fun _ _ _ h => h); (case ct3 => kernel_rfl); (case dt3 => (intro W hW; (try dsimp only at hW); go_split_ands; go_simp; (try with_reducible rfl))); (case' rt3 => simp only [Act.put, List.setIfInBounds_toArray, List.set_cons_zero, List.set_cons_succ]))
      (refine held_take (i := 3) (oi := ?ot4) (v := ?vt4) ?at4 (by kernel_rfl) (by kernel_rfl) (by kernel_rfl) ?bt4 ?ct4 ?dt4 (by assumption) ?rt4; (case at4 => (simp only [List.getElem?_toArray, List.getElem?_cons_zero, List.getElem?_cons_succ]; rfl)); (case bt4 => exact fun _ _ _ h => h); (case ct4 => kernel_rfl); (case dt4 => (intro W hW; (try dsimp only at hW); go_split_ands; go_simp; (try with_reducible rfl))); (case' rt4 => simp only [Act.put, List.setIfInBounds_toArray, List.set_cons_zero, List.set_cons_succ]))
      (refine held_take (i := 4) (oi := ?ot5) (v := ?vt5) ?at5 (by kernel_rfl) (by kernel_rfl) (by kernel_rfl) ?bt5 ?ct5 ?dt5 (by assumption) ?rt5; (case at5 => (simp only [List.getElem?_toArray, List.getElem?_cons_zero, List.getElem?_cons_succ]; rfl)); (case bt5 => exact fun _ _ _ h => h); (case ct5 => kernel_rfl); (case dt5 => (intro W hW; (try dsimp only at hW); go_split_ands; go_simp; (try with_reducible rfl))); (case' rt5 => simp only [Act.put, List.setIfInBounds_toArray, List.set_cons_zero, List.set_cons_succ]))
      (refine held_take (i := 5) (oi := ?ot6) (v := ?vt6) ?at6 (by kernel_rfl) (by kernel_rfl) (by kernel_rfl) ?bt6 ?ct6 ?dt6 (by assumption) ?rt6; (case at6 => (simp only [List.getElem?_toArray, List.getElem?_cons_zero, List.getElem?_cons_succ]; rfl)); (case bt6 => exact fun _ _ _ h => h); (case ct6 => kernel_rfl); (case dt6 => (intro W hW; (try dsimp only at hW); go_split_ands; go_simp; (try with_reducible rfl))); (case' rt6 => simp only [Act.put, List.setIfInBounds_toArray, List.set_cons_zero, List.set_cons_succ]))
      (refine held_take (i := 6) (oi := ?ot7) (v := ?vt7) ?at7 (by kernel_rfl) (by kernel_rfl) (by kernel_rfl) ?bt7 ?ct7 ?dt7 (by assumption) ?rt7; (case at7 => (simp only [List.getElem?_toArray, List.getElem?_cons_zero, List.getElem?_cons_succ]; rfl)); (case bt7 => exact fun _ _ _ h => h); (case ct7 => kernel_rfl); (case dt7 => (intro W hW; (try dsimp only at hW); go_split_ands; go_simp; (try with_reducible rfl))); (case' rt7 => simp only [Act.put, List.setIfInBounds_toArray, List.set_cons_zero, List.set_cons_succ]))
      (refine held_take (i := 7) (oi := ?ot8) (v := ?vt8) ?at8 (by kernel_rfl) (by kernel_rfl) (by kernel_rfl) ?bt8 ?ct8 ?dt8 (by assumption) ?rt8; (case at8 => (simp only [List.getElem?_toArray, List.getElem?_cons_zero, List.getElem?_cons_succ]; rfl)); (case bt8 => exact fun _ _ _ h => h); (case ct8 => kernel_rfl); (case dt8 => (intro W hW; (try dsimp only at hW); go_split_ands; go_simp; (try with_reducible rfl))); (case' rt8 => simp only [Act.put, List.setIfInBounds_toArray, List.set_cons_zero, List.set_cons_succ]))
      (refine held_take (i := 8) (oi := ?ot9) (v := ?vt9) ?at9 (by kernel_rfl) (by kernel_rfl) (by kernel_rfl) ?bt9 ?ct9 ?dt9 (by assumption) ?rt9; (case at9 => (simp only [List.getElem?_toArray, List.getElem?_cons_zero, List.getElem?_cons_succ]; rfl)); (case bt9 => exact fun _ _ _ h => h); (case ct9 => kernel_rfl); (case dt9 => (intro W hW; (try dsimp only at hW); go_split_ands; go_simp; (try with_reducible rfl))); (case' rt9 => simp only [Act.put, List.setIfInBounds_toArray, List.set_cons_zero, List.set_cons_succ]))
      (refine held_take (i := 9) (oi := ?ot10) (v := ?vt10) ?at10 (by kernel_rfl) (by kernel_rfl) (by kernel_rfl) ?bt10 ?ct10 ?dt10 (by assumption) ?rt10; (case at10 => (simp only [List.getElem?_toArray, List.getElem?_cons_zero, List.getElem?_cons_succ]; rfl)); (case bt10 => exact fun _ _ _ h => h); (case ct10 => kernel_rfl); (case dt10 => (intro W hW; (try dsimp only at hW); go_split_ands; go_simp; (try with_reducible rfl))); (case' rt10 => simp only [Act.put, List.setIfInBounds_toArray, List.set_cons_zero, List.set_cons_succ]))
      refine held_one (i := 10) (oi := ?ot11) (by kernel_rfl) ?at11 ?ct11 (fun K10 hK10 => ?_)
      (case at11 => (simp only [List.getElem?_toArray, List.getElem?_cons_zero, List.getElem?_cons_succ]; rfl))
      (case ct11 => kernel_rfl)
      refine ow_copy _ _ _ _ rfl _ _ rfl rfl HCp.out ?_
      have hct1 := HA1.out.1.cell (i := 72) (by omega)
      rw [stf_t] at hct1
      refine hK10 _ _ hct1 (fun hS10 => ?_)
      clear hS hct1 hK10 K10
      (refine held_take (i := 11) (oi := ?ot12) (v := ?vt12) ?at12 (by kernel_rfl) (by kernel_rfl) (by kernel_rfl) ?bt12 ?ct12 ?dt12 (by assumption) ?rt12; (case at12 => (simp only [List.getElem?_toArray, List.getElem?_cons_zero, List.getElem?_cons_succ]; rfl)); (case bt12 => exact fun _ _ _ h => h); (case ct12 => kernel_rfl); (case dt12 => (intro W hW; (try dsimp only at hW); go_split_ands; go_simp; (try with_reducible rfl))); (case' rt12 => simp only [Act.put, List.setIfInBounds_toArray, List.set_cons_zero, List.set_cons_succ]))
      refine wpAnyH_done (by kernel_rfl) ?_ _
      clear hS10 hA HCp HC HF hne64
      obtain ⟨W1, hW1⟩ : ∃ W1, W1 = wr.drew.setRow g (vec n (stf ⟨q.h, lay q.b r seg, q.t⟩ f0)) := ⟨_, rfl⟩
      have HA2 : Hid (Arr W1 g ty n (stf ⟨q.h, lay q.b r seg, q.t⟩ f0) ∧ Save g w W1) := Lib.hid (by rw [hW1]; exact HA1.out)
      rw [← hW1]
      clear hW1 HA1
      have hct := HA2.out.1.cell (i := 72) (by omega)
      rw [stf_t] at hct
      have hft := HA2.out.1.frozen 72
      have hqt := HQ.out.2.1
      have hmm := HM.out
      have hqr := HQ.out.2.2
      have hm64 : IntKind.u64.wrap (m : Int) = (m : Int) := by rw [IntKind.wrap_u64]; omega
      have hw64 : IntKind.u64.wrap ((q.t : Int) + (m : Int)) = (q.t : Int) + (m : Int) := by rw [IntKind.wrap_u64]; omega
      have hmp : m ≤ l.length - p := by omega
      have hnext : l.take (p + m) = l.take p ++ seg := by
        rw [HSg.out.1, List.take_add]
      have hfeed : feed s (l.take (p + m)) = feed q seg := by rw [hnext, feed_append, ← HQ.out.1]
      have HFd := Lib.hid hfeed
      clear hnext hfeed
      have hA3 : Arr (W1.setCell ⟨g, 72, none⟩ (.int .u64 ((q.t : Int) + (m : Int)))) g ty n (stf ⟨q.h, lay q.b r seg, q.t + m⟩ f0) := by
        have := HA2.out.1.set 72 (.int .u64 ((q.t + m : Nat) : Int))
        rw [stf_t_upd] at this
        simpa using this
      have hsv3 := HA2.out.2.setCell 72 (.int .u64 ((q.t : Int) + (m : Int)))
      have HA3 := Lib.hid (And.intro hA3 hsv3)
      have hct3 := hA3.cell (i := 72) (by omega)
      rw [stf_t, show ((q.t + m : Nat) : Int) = (q.t : Int) + (m : Int) by omega] at hct3
      obtain ⟨W3, hW3⟩ : ∃ W3, W3 = W1.setCell ⟨g, 72, none⟩ (.int .u64 ((q.t : Int) + (m : Int))) := ⟨_, rfl⟩
      have hend : ∀ (W : World) (A2 : Option Addr) (c2 : Nat), A2 = (if c' = m then some a' else some (a'.add m)) → c2 = c' - m → Arr W g ty n (stf (feed s (l.take (p + m))) f0) → Save g w W →
          ∃ (p2 : Nat) (A3 : Option Addr) (c3 : Nat), p2 ≤ l.length ∧ (Value.slice A2 (l.length - p - m) c2) = .slice A3 (l.length - p2) c3 ∧ l.length - p2 ≤ c3 ∧ Hid (∀ j, j < l.length - p2 → ∃ a', A3 = some a' ∧ a'.block < w.heap.size ∧ a'.block ≠ g ∧ w.cell? (a'.add j) = some (.int .u8 ((l.getD (p2 + j) 0).toNat : Int))) ∧ Hid (Arr W g ty n (stf (feed s (l.take p2)) f0)) ∧ Hid (Save g w W) := by
        intro W A2 c2 hA2 hc2 h1 h2
        refine ⟨p + m, A2, c2, by omega, by rw [Nat.sub_sub], by omega, Lib.hid fun j hj => ?_, Lib.hid h1, Lib.hid h2⟩
        obtain ⟨a2, e2, hb2, hg2, hcc2⟩ := hby.out (m + j) (by omega)
        obtain rfl := Option.some.inj e2
        refine ⟨a'.add m, by rw [hA2, if_neg (by omega)], by rw [addr_add_block]; exact hb2, by rw [addr_add_block]; exact hg2, ?_⟩
        rw [addr_add_add, hcc2, Nat.add_assoc]
      have HEnd := Lib.hid hend
      clear hend
      by_cases hfull : r + m = 64
      · have e3 : ((q.t : Int) + (m : Int)).tmod 64 = 0 := by rw [Int.tmod_eq_emod_of_nonneg (by omega)]; omega
        have hfd : feed s (l.take (p + m)) = ⟨comp q.h (lay q.b r seg), lay q.b r seg, q.t + m⟩ := by
          rw [HFd.out]
          have := feed_full seg q.h q.b q.t (by rw [HSg.out.2, ← hqr]; exact hfull)
          rw [← hqr, HSg.out.2] at this
          exact this
        have HFd2 := Lib.hid hfd
        have HE := Lib.hid (And.intro hqt (And.intro hqr (And.intro hmm hfull)))
        clear hA3 hsv3 hfd hqt hqr hmm hfull hab hag
        have hmi : (m : Int) ≤ ((l.length - p : Nat) : Int) := by omega
        go_upto_region 5 with fail
        rw [← hW3]
        obtain ⟨A2, hA2⟩ : ∃ A2, A2 = (if c' = m then some a' else some (a'.add m)) := ⟨_, rfl⟩
        rw [← hA2]
        have HIf := Lib.hid hA2
        clear hA2
        have HA4 : Hid (Arr W3.drew g ty n (stf ⟨q.h, lay q.b r seg, q.t + m⟩ f0) ∧ Save g w W3) := Lib.hid (by rw [hW3]; exact HA3.out)
        have hSb : ∀ i, i < 64 → W3.drew.cell? ⟨g, 8 + i, none⟩ = some (bys (lay q.b r seg) i) := fun i hi => by
          rw [← stf_b ⟨q.h, lay q.b r seg, q.t + m⟩ f0 i hi]; exact HA4.out.1.cell (by omega)
        have hSh : ∀ i, i < 8 → W3.drew.cell? ⟨g, 0 + i, none⟩ = some (wds q.h i) := fun i hi => by
          rw [← stf_h ⟨q.h, lay q.b r seg, q.t + m⟩ f0 i hi, Nat.zero_add]; exact HA4.out.1.cell (by omega)
        have HSb := Lib.hid hSb
        have HLd := Lib.hid (run_load_spl (P := Tryd.prog) hSh Tryd.underlying82 rfl info34)
        have HTb : Hid (Tabs W3.drew) := Lib.hid (tabs_save HT.out (HA4.out.2.drewN 1) HG.out.2.1 HG.out.2.2)
        clear hW3 HA3 HA2 hct3 hct hft hSb hSh
        refine wp_region_held_drew (S := fun Y => ∀ i, i < 64 → Y.cell? ⟨g, 8 + i, none⟩ = some (bys (lay q.b r seg) i)) (by kernel_rfl) HSb.out (fun hS => ?_)
        (refine held_take (i := 0) (oi := ?ot13) (v := ?vt13) ?at13 (by kernel_rfl) (by kernel_rfl) (by kernel_rfl) ?bt13 ?ct13 ?dt13 (by assumption) ?rt13; (case at13 => (simp only [List.getElem?_toArray, List.getElem?_cons_zero]; rfl)); (case bt13 => exact fun _ _ _ h => h); (case ct13 => kernel_rfl); (case dt13 => (intro W hW; (try dsimp only at hW); go_split_ands; go_simp; (try with_reducible rfl))); (case' rt13 => simp only [Act.put, List.setIfInBounds_toArray, List.set_cons_zero, List.set_cons_succ]))
        (refine held_take (i := 1) (oi := ?ot14) (v := ?vt14) ?at14 (by kernel_rfl) (by kernel_rfl) (by kernel_rfl) ?bt14 ?ct14 ?dt14 (by assumption) ?rt14; (case at14 => (simp only [List.getElem?_toArray, List.getElem?_cons_zero, List.getElem?_cons_succ]; rfl)); (case bt14 => exact fun _ _ _ h => h); (case ct14 => kernel_rfl); (case dt14 => (intro W hW; (try dsimp only at hW); go_split_ands; go_simp; (try with_reducible rfl))); (case' rt14 => simp only [Act.put, List.setIfInBounds_toArray, List.set_cons_zero, List.set_cons_succ]))
        (refine held_take (i := 2) (oi := ?ot15) (v := ?vt15) ?at15 (by kernel_rfl) (by kernel_rfl) (by kernel_rfl) ?bt15 ?ct15 ?dt15 (by assumption) ?rt15; (case at15 => (simp only [List.getElem?_toArray, List.getElem?_cons_zero, List.getElem?_cons_succ]; rfl)); (case bt15 => exact fun _ _ _ h => h); (case ct15 => kernel_rfl); (case dt15 => (intro W hW; (try dsimp only at hW); go_split_ands; go_simp; (try with_reducible rfl))); (case' rt15 => simp only [Act.put, List.setIfInBounds_toArray, List.set_cons_zero, List.set_cons_succ]))
        (refine held_take (i := 3) (oi := ?ot16) (v := ?vt16) ?at16 (by kernel_rfl) (by kernel_rfl) (by kernel_rfl) ?bt16 ?ct16 ?dt16 (by assumption) ?rt16; (case at16 => (simp only [List.getElem?_toArray, List.getElem?_cons_zero, List.getElem?_cons_succ]; rfl)); (case bt16 => exact fun _ _ _ h => h); (case ct16 => kernel_rfl); (case dt16 => (intro W hW; (try dsimp only at hW); go_split_ands; go_simp; (try with_reducible rfl))); (case' rt16 => simp only [Act.put, List.setIfInBounds_toArray, List.set_cons_zero, List.set_cons_succ]))
        (refine held_take (i := 5) (oi := ?ot17) (v := ?vt17) ?at17 (by kernel_rfl) (by kernel_rfl) (by kernel_rfl) ?bt17 ?ct17 ?dt17 (by assumption) ?rt17; (case at17 => (simp only [List.getElem?_toArray, List.getElem?_cons_zero, List.getElem?_cons_succ]; rfl)); (case bt17 => exact fun _ _ _ h => h); (case ct17 => kernel_rfl); (case dt17 => (intro W hW; (try dsimp only at hW); go_split_ands; go_simp; (try with_reducible rfl))); (case' rt17 => simp only [Act.put, List.setIfInBounds_toArray, List.set_cons_zero, List.set_cons_succ]))
        (refine held_take (i := 6) (oi := ?ot18) (v := ?vt18) ?at18 (by kernel_rfl) (by kernel_rfl) (by kernel_rfl) ?bt18 ?ct18 ?dt18 (by assumption) ?rt18; (case at18 => (simp only [List.getElem?_toArray, List.getElem?_cons_zero, List.getElem?_cons_succ]; rfl)); (case bt18 => exact fun _ _ _ h => h); (case ct18 => kernel_rfl); (case dt18 => (intro W hW; (try dsimp only at hW); go_split_ands; go_simp; (try with_reducible rfl))); (case' rt18 => simp only [Act.put, List.setIfInBounds_toArray, List.set_cons_zero, List.set_cons_succ]))
        (refine held_take (i := 7) (oi := ?ot19) (v := ?vt19) ?at19 (by kernel_rfl) (by kernel_rfl) (by kernel_rfl) ?bt19 ?ct19 ?dt19 (by assumption) ?rt19; (case at19 => (simp only [List.getElem?_toArray, List.getElem?_cons_zero, List.getElem?_cons_succ]; rfl)); (case bt19 => exact fun _ _ _ h => h); (case ct19 => kernel_rfl); (case dt19 => (intro W hW; (try dsimp only at hW); go_split_ands; go_simp; (try with_reducible rfl))); (case' rt19 => simp only [Act.put, List.setIfInBounds_toArray, List.set_cons_zero, List.set_cons_succ]))
        (refine held_take (i := 8) (oi := ?ot20) (v := Value.agg (vec 64 (bys (lay q.b r seg)))) ?at20 (by kernel_rfl) (by kernel_rfl) (by kernel_rfl) ?bt20 ?ct20 ?dt20 (by assumption) ?rt20; (case at20 => (simp only [List.getElem?_toArray, List.getElem?_cons_zero, List.getElem?_cons_succ]; rfl)); (case bt20 => exact fun _ _ _ h => h); (case ct20 => kernel_rfl); (case dt20 => (intro W hW; exact exec_load_at 94 _ rfl _ _ rfl _ (run_load_spl hW Tryd.underlying94 rfl info39))); (case' rt20 => simp only [Act.put, List.setIfInBounds_toArray, List.set_cons_zero, List.set_cons_succ]))
        refine held_one (i := 4) (oi := ?ot21) (by kernel_rfl) ?at21 ?ct21 (fun K4 hK4 => ?_)
        (case at21 => (simp only [List.getElem?_toArray, List.getElem?_cons_zero, List.getElem?_cons_succ]; rfl))
        (case ct21 => kernel_rfl)
        refine ow_load 82 _ rfl _ _ rfl _ HLd.out ?_
        refine hK4 _ _ hS (fun hS4 => ?_)
        clear hS hK4 K4
        refine held_one (i := 9) (oi := ?ot22) (by kernel_rfl) ?at22 ?ct22 (fun K9 hK9 => ?_)
        (case at22 => (simp only [List.getElem?_toArray, List.getElem?_cons_zero, List.getElem?_cons_succ]; rfl))
        (case ct22 => kernel_rfl)
        go_simp
        refine (block_any _ _ _ HTb.out).mono ?_
        rintro e w2 ⟨rfl, hd⟩
        have hA5 := HA4.out.1.under hd
        have hsv5 : Save g w w2 := (HA4.out.2.drewN 1).trans (Save.of_below hd)
        have HA5 := Lib.hid (And.intro hA5 hsv5)
        refine hK9 _ _ (fun i hi => by rw [← stf_b ⟨q.h, lay q.b r seg, q.t + m⟩ f0 i hi]; exact HA5.out.1.cell (by omega)) (fun hS9 => ?_)
        clear hS4 hd hK9 K9 hA5 hsv5
        (refine held_take (i := 10) (oi := ?ot23) (v := ?vt23) ?at23 (by kernel_rfl) (by kernel_rfl) (by kernel_rfl) ?bt23 ?ct23 ?dt23 (by assumption) ?rt23; (case at23 => (simp only [List.getElem?_toArray, List.getElem?_cons_zero, List.getElem?_cons_succ]; rfl)); (case bt23 => exact fun _ _ _ h => h); (case ct23 => kernel_rfl); (case dt23 => (intro W hW; (try dsimp only at hW); go_split_ands; go_simp; (try with_reducible rfl))); (case' rt23 => simp only [Act.put, List.setIfInBounds_toArray, List.set_cons_zero, List.set_cons_succ]))
        (refine held_take (i := 11) (oi := ?ot24) (v := ?vt24) ?at24 (by kernel_rfl) (by kernel_rfl) (by kernel_rfl) ?bt24 ?ct24 ?dt24 (by assumption) ?rt24; (case at24 => (simp only [List.getElem?_toArray, List.getElem?_cons_zero, List.getElem?_cons_succ]; rfl)); (case bt24 => exact fun _ _ _ h => h); (case ct24 => kernel_rfl); (case dt24 => (intro W hW; (try dsimp only at hW); go_split_ands; go_simp; (try with_reducible rfl))); (case' rt24 => simp only [Act.put, List.setIfInBounds_toArray, List.set_cons_zero, List.set_cons_succ]))
        refine held_one (i := 12) (oi := ?ot25) (by kernel_rfl) ?at25 ?ct25 (fun K12 hK12 => ?_)
        (case at25 => (simp only [List.getElem?_toArray, List.getElem?_cons_zero, List.getElem?_cons_succ]; rfl))
        (case ct25 => kernel_rfl)
        have hA5 := HA5.out.1.row (spl 0 8 (wds (comp q.h (lay q.b r seg))) (stf ⟨q.h, lay q.b r seg, q.t + m⟩ f0))
        have hsv5 := HA5.out.2.setRow (vec n (spl 0 8 (wds (comp q.h (lay q.b r seg))) (stf ⟨q.h, lay q.b r seg, q.t + m⟩ f0)))
        refine ow_store _ _ _ rfl _ rfl _ rfl (run_store_spl HA5.out.1 (o := 0) (m := 8) _ (by omega) info34 (wds_one _ _)) ?_
        rw [stf_h_spl] at hA5
        rw [stf_h_spl] at hsv5
        rw [stf_h_spl]
        refine hK12 _ _ (fun i hi => by rw [← stf_b ⟨comp q.h (lay q.b r seg), lay q.b r seg, q.t + m⟩ f0 i hi]; exact hA5.cell (by omega)) (fun hS12 => ?_)
        clear hS9 hK12 K12
        refine wpAnyH_done (by kernel_rfl) ?_ _
        have HS5 := Lib.hid (And.intro hA5 hsv5)
        clear hS12 hA5 hsv5
        go_wp2
        go_roundw
        case rel =>
          obtain ⟨p2, A3, c3, h1, h2, h3, h4, h5, h6⟩ := HEnd.out _ _ _ HIf.out rfl (by rw [HFd2.out]; exact HS5.out.1) HS5.out.2
          injection h2 with e1 e2 e3
          exact ⟨p2, h1, A3, c3, ⟨e1, e2, e3⟩, by omega, Lib.hid (by simpa using h4.out), h5, h6⟩
        case measure => have := HE.out; show l.length - p - m < l.length - p; omega
      · have e3 : ((q.t : Int) + (m : Int)).tmod 64 = ((r + m : Nat) : Int) := by rw [Int.tmod_eq_emod_of_nonneg (by omega)]; omega
        have e4 : (((r + m : Nat) : Int) == 0) = false := by simp; omega
        clear hA3 hsv3
        have hfd : feed s (l.take (p + m)) = ⟨q.h, lay q.b r seg, q.t + m⟩ := by
          rw [HFd.out]
          have := feed_lt seg q.h q.b q.t (by rw [HSg.out.2, ← hqr]; omega)
          rw [← hqr, HSg.out.2] at this
          exact this
        have HFd2 := Lib.hid hfd
        have HE := Lib.hid (And.intro hqt (And.intro hqr (And.intro hmm hfull)))
        clear hfd hqt hqr hmm hfull hab hag
        have hmi : (m : Int) ≤ ((l.length - p : Nat) : Int) := by omega
        obtain ⟨k9, hk9⟩ : ∃ k9 : Int, k9 = ((r + m : Nat) : Int) := ⟨_, rfl⟩
        rw [← hk9] at e3 e4
        clear hk9
        go_wp2
        go_roundw
        case rel => exact HEnd.out _ _ _ rfl rfl (by rw [HFd2.out]; exact HA3.out.1) HA3.out.2
        case measure => have := HE.out; show l.length - p - m < l.length - p; omega
    · obtain rfl : p = l.length := by omega
      have hno : ¬ (0 : Int) < ((l.length - l.length : Nat) : Int) := by omega
      have hA2 := hA.out
      rw [List.take_length] at hA2
      have HA2 := Lib.hid hA2
      clear hA hA2 hlt hp hc' hby
      go_wp2
      exact bodyPost_end (results_none rfl _ _ _) rfl ⟨rfl, HA2.out, hsv.out⟩
end Go.Proofs.YtmhdhhdhnkoocaaDoor
