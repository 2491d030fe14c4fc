/- The walk of CtrBumps. -/
import Derived.Test.YtpeebdhbcglibaaAwake13
import Derived.Test.YtpeebdhbcglibaaTwo13
import Derived.Test.YtpeebdhbcglibaaOpn13
namespace Go.Proofs.Ytpeebdhbcglibaa
open Go.RowKit

set_option maxRecDepth 100000 in
set_option maxHeartbeats 8000000 in
theorem ctrBumps_walk (A : Option Addr) (c : Nat) (ws : List W32) (B : Option Addr) (d : Nat) (cs : List Ct) (D : Option Addr) (f : Nat) (ds : List Rz) (w : World) (_hc : ws.length ≤ c ∧ c ≤ maxLen) (hA : Lies w w.heap.size 1 A ws.length (u32s ws)) (hcd : cs.length ≤ d ∧ d ≤ maxLen) (hB : Lies w w.heap.size 2 B cs.length (cellsC cs)) (hok : ∀ x ∈ cs, CtOk x)
    (_hf : ds.length ≤ f ∧ f ≤ maxLen) (hD : RRow w w.heap.size D ds) :
    Calls Try.prog 4 #[.slice A ws.length c, .slice B cs.length d, .slice D ds.length f] w fun e w' => e = .returned (.bool true) ∧ Below w.heap.size w w' := by
  obtain ⟨L, hL⟩ : ∃ L, L = ws.length := ⟨_, rfl⟩
  obtain ⟨K, hK⟩ : ∃ K, K = cs.length := ⟨_, rfl⟩
  obtain ⟨M, hM⟩ : ∃ M, M = ds.length := ⟨_, rfl⟩
  by_cases hL1 : 200 < L
  · have e1 : (200 : Int) < L := by omega
    rw [← hL, ← hK, ← hM]
    clear hA hB hD hok hL hK hM hcd hL1
    go_enter Try.func4, Try.ntmps4
    go_wp2_with (go_at_call 8; refine (awake_any _).mono ?_; rintro e w1 ⟨rfl, hd⟩; have H1 := Lib.hid hd; clear hd)
    go_ret
    exact ⟨rfl, H1.out⟩
  have e1 : ¬ (200 : Int) < L := by omega
  by_cases hK1 : 10 < K
  · have e2 : (10 : Int) < K := by omega
    rw [← hL, ← hK, ← hM]
    clear hA hB hD hok hL hK hM hL1 hK1 hcd
    go_enter Try.func4, Try.ntmps4
    go_wp2_with (go_at_call 8; refine (awake_any _).mono ?_; rintro e w1 ⟨rfl, hd⟩; have H1 := Lib.hid hd; clear hd)
    go_ret
    exact ⟨rfl, H1.out⟩
  have e2 : ¬ (10 : Int) < K := by omega
  by_cases hM1 : 30 < M
  · have e3 : (30 : Int) < M := by omega
    rw [← hL, ← hK, ← hM]
    clear hA hB hD hok hL hK hM hL1 hK1 hM1 hcd
    go_enter Try.func4, Try.ntmps4
    go_wp2_with (go_at_call 8; refine (awake_any _).mono ?_; rintro e w1 ⟨rfl, hd⟩; have H1 := Lib.hid hd; clear hd)
    go_ret
    exact ⟨rfl, H1.out⟩
  have e3 : ¬ (30 : Int) < M := by omega
  have HN : Hid (∀ W, Below w.heap.size w W → Calls Try.prog 9 #[.slice A L c, .slice B K d] W fun e w' => ∃ p G v B2 d2, e = .returned (.pointer (some ⟨p, 0, none⟩)) ∧ Hid (NC w' G p ⟨ws, cs, 0, true⟩ v B2 d2 ∧ (∀ i, G i → w.heap.size ≤ i) ∧ Below w.heap.size w w')) := Lib.hid fun W hW => by
    rw [hL, hK]
    refine (new_any A c ws (by omega) B d cs (by omega) hok W ((hA.below hW).wide hW.size) ((hB.below hW).wide hW.size)).mono ?_
    rintro e w' ⟨p, G, v, B2, d2, rfl, h1, h2, _, h3⟩
    exact ⟨p, G, v, B2, d2, rfl, Lib.hid ⟨h1, fun i hi => Nat.le_trans hW.size (h2 i hi), hW.trans (h3.mono hW.size)⟩⟩
  have HAL : Hid (∀ W, Below w.heap.size w W → Lies W W.heap.size 1 A L (u32s ws)) := Lib.hid fun W hW => by rw [hL]; exact (hA.below hW).wide hW.size
  have HBL : Hid (∀ W, Below w.heap.size w W → Lies W w.heap.size 2 B cs.length (cellsC cs)) := Lib.hid fun W hW => hB.below hW
  have HDR : Hid (∀ W, Below w.heap.size w W → RRow W w.heap.size D ds) := Lib.hid fun W hW => hD.below hW
  have HQ := Lib.hid (And.intro hL (And.intro hK (And.intro hM (And.intro hcd.1 hok))))
  obtain ⟨i0, hi, hz0, hz1, hz2⟩ := info_parts infoU32
  have hLb : L ≤ 200 := by omega
  have hMb : M ≤ 30 := by omega
  rw [← hL, ← hK, ← hM]
  clear hA hB hD hok hL hK hM hcd hL1 hK1 hM1
  go_enter Try.func4, Try.ntmps4
  go_upto_region 6 with (first
    | (go_at_call 8; refine (awake_any _).mono ?_; rintro e w1 ⟨rfl, hd⟩; have H1 := Lib.hid hd; clear hd)
    | (go_at_call 9; refine (HN.out _ H1.out).mono ?_; rintro e w3 ⟨p, G, v, B2, d2, rfl, H3⟩))
  clear HN
  go_upto_region 7 with (at_builtin; (refine wpList_app rfl (.const (.slice none 0 0)) (.tmp 29) 22 rfl w3.heap.size 30 i0 (.int .u32 0) 4 Try.underlying22 hi hz0 hz1 hz2 rfl (.slice none 0 0) 0 [] rfl (World.ownsRow_nil _ _ _ _) _ _ _ _ _ rfl (HAL.out _ H3.out.2.2) (u32s_one _) (by unfold maxLen; omega) (by omega) (Nat.le_refl _) ?_); intro v4 w4 h1 h2 h3; (have h1' : w4.ownsRow w3.heap.size 30 1 v4 ws.length (u32s ws) := (by rw [← HQ.out.1]; simpa using h1)); (obtain ⟨A4, d4, hv4, _⟩ := owns_form h1'); (rw [hv4] at h1'); (have H4 := Lib.hid (And.intro h1' ((Below.refl w3.heap.size w3).grown h2 (Nat.le_refl _) (fun k hk => by cases hk)))); (rw [← HQ.out.1] at hv4); subst hv4; clear h1 h2 h3 h1')
  have HT0 : Hid (TwoE (w4.alloc (.cells #[.slice A4 L d4, .slice B K d, .int .i64 0, .bool false] 29)) w.heap.size p w4.heap.size ⟨ws, cs, 0, true⟩ ∧ Below w.heap.size w (w4.alloc (.cells #[.slice A4 L d4, .slice B K d, .int .i64 0, .bool false] 29))) := Lib.hid (by
    have h4 := H4.out
    have hb := H3.out.2.2
    refine ⟨?_, ?_⟩
    · rw [HQ.out.1, HQ.out.2.1]
      exact two_new h4.1 h4.2 (HBL.out _ hb) HQ.out.2.2.2.1 HQ.out.2.2.2.2 hb.size H3.out.1 H3.out.2.1
    · exact (hb.trans (h4.2.mono hb.size)).alloc (Nat.le_trans hb.size h4.2.size) _)
  obtain ⟨w5, hw5⟩ : ∃ w5, w5 = w4.alloc (.cells #[.slice A4 L d4, .slice B K d, .int .i64 0, .bool false] 29) := ⟨_, rfl⟩
  obtain ⟨r, hr⟩ : ∃ r, r = w4.heap.size := ⟨_, rfl⟩
  rw [← hw5, ← hr] at HT0
  rw [← hw5, ← hr]
  clear hw5 hr hi hz0 hz1 hz2
  go_wp2
  go_loopw [36] (fun vi wr => ∃ (k : Nat) (s : St), k ≤ M ∧ vi = .int .i64 k ∧ Hid (TwoE wr w.heap.size p r s ∧ Below w.heap.size w wr ∧ s.cnt ≤ 5 * k ∧ s.ws.length = L)) (fun vi _ => M - (intOf vi).toNat)
  case atStart => exact ⟨0, _, Nat.zero_le _, rfl, Lib.hid ⟨HT0.out.1, HT0.out.2, Nat.zero_le _, HQ.out.1.symm⟩⟩
  case round =>
    obtain ⟨k, s, hk, rfl, hI⟩ := hrel
    by_cases hlt : k < M
    · have hlt2 : k < ds.length := by have := HQ.out.2.2.1; omega
      obtain ⟨a, q, rfl, hq, hqb, hc0, hc1, hc2⟩ := (HDR.out wr hI.out.2.1).at hlt2
      obtain ⟨x, hx⟩ : ∃ x, ds[k] = x := ⟨_, rfl⟩
      rw [hx] at hc0 hc1 hc2
      obtain ⟨xi, xx, xb⟩ := x
      simp only at hc0 hc1 hc2
      have HK : Hid (k + 1 ≤ M) := Lib.hid hlt
      have hsb := hI.out.2.2.1
      have hcb : s.cnt < 900000 := by omega
      obtain ⟨V, hV⟩ : ∃ V, V = wr.alloc (.cells #[.int .i64 xi, .int .u32 (num xx), .bool xb] 46) := ⟨_, rfl⟩
      have hVB : Below wr.heap.size wr V := by rw [hV]; exact (Below.refl _ _).alloc (Nat.le_refl _) _
      have hbx : Blk V wr.heap.size 46 #[.int .i64 xi, .int .u32 (num xx), .bool xb] := by rw [hV]; exact Blk.new _ _ _ rfl
      obtain ⟨G1, H1, v1, u1, A1, C1, c1, d1, hT⟩ := hI.out.1
      have hTV := hT.under hVB
      have hwV : Below w.heap.size w V := hI.out.2.1.trans (hVB.mono hI.out.2.1.size)
      have hGl : ∀ i, G1 i → i < wr.heap.size := hT.nc.lay.lt
      have hHl : ∀ i, H1 i → i < wr.heap.size := hT.nr.lay.lt
      have hb0 := hbx.cellAt 0 rfl
      have hb1 := hbx.cellAt 1 rfl
      have hb2 := hbx.cellAt 2 rfl
      have HV := Lib.hid hV
      have HLS : Hid (s.ws.length = L) := Lib.hid hI.out.2.2.2
      have HCB := Lib.hid (And.intro hsb hcb)
      clear hx hlt hlt2 hk hV hqb hsb
      cases xb with
      | true =>
        have HCO : Hid (Calls Try.prog 16 #[.pointer (some ⟨p, 0, none⟩)] V fun e y1 => e = .returned (.tuple #[]) ∧ Hid (Calls Try.prog 17 #[.pointer (some ⟨r, 0, none⟩)] y1 fun e y2 => e = .returned (.tuple #[]) ∧ Hid (TwoE y2 w.heap.size p r s.boot ∧ Below w.heap.size w y2 ∧ s.boot.cnt ≤ 5 * (k + 1) ∧ s.boot.ws.length = L))) := Lib.hid (by
          refine hTV.reboot_any.mono ?_
          rintro e y1 ⟨rfl, t1, h2⟩
          refine ⟨rfl, Lib.hid (h2.mono ?_)⟩
          rintro e y2 ⟨rfl, t2, hE2⟩
          exact ⟨rfl, Lib.hid ⟨hE2, hTV.below hwV (Nat.le_refl _) t1 t2, Nat.zero_le _, HLS.out⟩⟩)
        clear hT hTV hwV hGl hHl hVB hbx hcb
        go_upto_region 10 with fail
        rw [← HV.out]
        clear HV hc0 hc1 hc2 hq
        go_wp2_with (first
          | (go_at_call 16; refine HCO.out.mono ?_; rintro e y1 ⟨rfl, H5⟩)
          | (go_at_call 17; refine H5.out.mono ?_; rintro e y2 ⟨rfl, HT⟩; clear hb0 hb1 hb2))
        go_roundw
        case rel => exact ⟨k + 1, s.boot, HK.out, by go_num, HT⟩
        case measure => have := HK.out; simp [intOf]; omega
      | false =>
        obtain ⟨E, hE⟩ : ∃ E, E = (bump s xi xx).1 := ⟨_, rfl⟩
        obtain ⟨t, ht⟩ : ∃ t, t = (bump s xi xx).2 := ⟨_, rfl⟩
        have htl : t.ws.length = L := by rw [ht, bump_len]; exact HLS.out
        have htc : t.cnt ≤ 5 * (k + 1) := by have := bump_cnt s xi xx; have := HCB.out.1; rw [ht]; omega
        obtain ⟨GH, hGH⟩ : ∃ GH : Nat → Prop, GH = fun i => G1 i ∨ H1 i := ⟨_, rfl⟩
        obtain ⟨A9, d9, hu, _, _⟩ := hTV.nr.lay.form
        rw [HLS.out] at hu
        subst hu
        have HCU : Hid (V.cell? ⟨r, 0, none⟩ = some (.slice A9 L d9)) := Lib.hid (hTV.nr.blk.cellAt 0 rfl)
        have HBX : Hid (∀ Y, Turn GH V Y → Y.cell? ⟨wr.heap.size, 0, none⟩ = some (.int .i64 xi) ∧ Y.cell? ⟨wr.heap.size, 1, none⟩ = some (.int .u32 (num xx))) := Lib.hid fun Y hY => by
          have hb := hbx.turn hY fun hi => by
            rw [hGH] at hi
            rcases hi with h | h
            · have := hGl _ h; omega
            · have := hHl _ h; omega
          exact ⟨hb.cellAt 0 rfl, hb.cellAt 1 rfl⟩
        have HCO : Hid (Calls Try.prog 18 #[.pointer (some ⟨p, 0, none⟩), .int .i64 xi, .int .u32 (num xx)] V.drew fun e y1 => e = .returned (.int .i64 (E : Int)) ∧ Hid ((Turn GH V y1 ∧ y1.cell? ⟨r, 0, none⟩ = some (.slice A9 L d9)) ∧
            Calls Try.prog 19 #[.pointer (some ⟨r, 0, none⟩), .int .i64 xi, .int .u32 (num xx)] y1 fun e y2 => e = .returned (.int .i64 (E : Int)) ∧ Hid ((Turn GH V y2 ∧ y2.cell? ⟨r, 0, none⟩ = some (.slice A9 L d9)) ∧ Two y2 w.heap.size p r t G1 H1 v1 (.slice A9 L d9) A1 C1 c1 d1 ∧ Below w.heap.size w y2))) := Lib.hid (by
          have hdr : Below V.heap.size V V.drew := ⟨rfl, rfl, rfl, Nat.le_refl _, fun _ _ => rfl⟩
          have hTd := hTV.under hdr
          rw [hE, ht]
          refine (hTd.bump_any (by have := HLS.out; omega) hcb xi xx).mono ?_
          rintro e y1 ⟨rfl, t1, hn1, h2⟩
          have t1' : Turn GH V y1 := ((Turn.of_below hdr).andThen t1).mono fun i hi => by rw [hGH]; exact Or.inl hi
          refine ⟨rfl, Lib.hid ⟨⟨t1', hn1.blk.cellAt 0 rfl⟩, h2.mono ?_⟩⟩
          rintro e y2 ⟨rfl, t2, hT2⟩
          exact ⟨rfl, Lib.hid ⟨⟨t1'.trans t2 (fun i hi => by rw [hGH]; exact Or.inl (Or.inr hi)), hT2.nr.blk.cellAt 0 rfl⟩, hT2, hTd.below (hwV.trans (hdr.mono hwV.size)) (Nat.le_refl _) t1 t2⟩⟩)
        have HWD : Hid (∀ Y, Two Y w.heap.size p r t G1 H1 v1 (.slice A9 L d9) A1 C1 c1 d1 ∧ Below w.heap.size w Y → Calls Try.prog 21 #[.pointer (some ⟨p, 0, none⟩)] Y fun e w' => ∃ B d, e = .returned (.slice B L d) ∧ Lies w' w'.heap.size 1 B L (u32s t.ws) ∧ Below Y.heap.size Y w') := Lib.hid fun Y hY => by
          have := nwords_any hY.1.nc (by omega)
          rw [htl] at this
          exact this
        have HSW : Hid (∀ X Y B7 d7, Two X w.heap.size p r t G1 H1 v1 (.slice A9 L d9) A1 C1 c1 d1 ∧ Below w.heap.size w X → Below X.heap.size X Y → Lies Y Y.heap.size 1 B7 L (u32s t.ws) → Calls Try.prog 20 #[.slice B7 L d7, .slice A9 L d9] Y fun e w' => e = .returned (.bool true) ∧ Below Y.heap.size Y w') := Lib.hid fun X Y B7 d7 hX hb h7 => by
          obtain ⟨A8, d8, e8, _, hl8⟩ := hX.1.nr.lay.form
          injection e8 with e8 _ _
          subst e8
          have h9 := (hl8.below hb).wide hb.size
          rw [← htl] at h7 ⊢
          exact samew_any B7 A9 d7 d9 t.ws Y (by omega) h7 h9
        have HTC := Lib.hid (And.intro htc htl)
        clear hT hTV hwV hGl hHl hVB hbx hE ht htl htc hGH hcb
        go_upto_region 10 with fail
        rw [← HV.out]
        clear HV hc0 hc1 hc2 hq
        go_upto_region 13 with fail
        clear hb0 hb1 hb2
        refine wp_region_held_drew (S := fun Y => (Turn GH V Y ∧ Y.cell? ⟨r, 0, none⟩ = some (.slice A9 L d9))) (by kernel_rfl) (show Turn GH V V.drew ∧ V.drew.cell? ⟨r, 0, none⟩ = some (.slice A9 L d9) from ⟨⟨rfl, rfl, rfl, Nat.le_refl _, fun _ _ _ => rfl⟩, HCU.out⟩) (fun hS => ?_)
        (refine held_take (i := 0) (oi := ?ot1) (v := ?vt1) ?at1 (by kernel_rfl) (by kernel_rfl) (by kernel_rfl) ?bt1 ?ct1 ?dt1 (by assumption) ?rt1; (case at1 => (simp only [List.getElem?_toArray, List.getElem?_cons_zero]; rfl)); (case bt1 => exact fun _ _ _ h => h); (case ct1 => kernel_rfl); (case dt1 => (intro W hW; (try dsimp only at hW); go_split_ands; go_simp; (try with_reducible rfl))); (case' rt1 => simp only [Act.put, List.setIfInBounds_toArray, List.set_cons_zero, List.set_cons_succ]))
        (refine held_take (i := 1) (oi := ?ot2) (v := ?vt2) ?at2 (by kernel_rfl) (by kernel_rfl) (by kernel_rfl) ?bt2 ?ct2 ?dt2 (by assumption) ?rt2; (case at2 => (simp only [List.getElem?_toArray, List.getElem?_cons_zero, List.getElem?_cons_succ]; rfl)); (case bt2 => exact fun _ _ _ h => h); (case ct2 => kernel_rfl); (case dt2 => (intro W hW; (try dsimp only at hW); go_split_ands; go_simp; (try with_reducible rfl))); (case' rt2 => simp only [Act.put, List.setIfInBounds_toArray, List.set_cons_zero, List.set_cons_succ]))
        (refine held_take (i := 2) (oi := ?ot3) (v := .int .i64 xi) ?at3 (by kernel_rfl) (by kernel_rfl) (by kernel_rfl) ?bt3 ?ct3 ?dt3 (by assumption) ?rt3; (case at3 => (simp only [List.getElem?_toArray, List.getElem?_cons_zero, List.getElem?_cons_succ]; rfl)); (case bt3 => exact fun _ _ _ h => h); (case ct3 => kernel_rfl); (case dt3 => (intro W hW; obtain ⟨b0, b1⟩ := HBX.out W hW.1; clear hW; go_simp; (try with_reducible rfl))); (case' rt3 => simp only [Act.put, List.setIfInBounds_toArray, List.set_cons_zero, List.set_cons_succ]))
        (refine held_take (i := 3) (oi := ?ot4) (v := ?vt4) ?at4 (by kernel_rfl) (by kernel_rfl) (by kernel_rfl) ?bt4 ?ct4 ?dt4 (by assumption) ?rt4; (case at4 => (simp only [List.getElem?_toArray, List.getElem?_cons_zero, List.getElem?_cons_succ]; rfl)); (case bt4 => exact fun _ _ _ h => h); (case ct4 => kernel_rfl); (case dt4 => (intro W hW; (try dsimp only at hW); go_split_ands; go_simp; (try with_reducible rfl))); (case' rt4 => simp only [Act.put, List.setIfInBounds_toArray, List.set_cons_zero, List.set_cons_succ]))
        (refine held_take (i := 4) (oi := ?ot5) (v := .int .u32 (num xx)) ?at5 (by kernel_rfl) (by kernel_rfl) (by kernel_rfl) ?bt5 ?ct5 ?dt5 (by assumption) ?rt5; (case at5 => (simp only [List.getElem?_toArray, List.getElem?_cons_zero, List.getElem?_cons_succ]; rfl)); (case bt5 => exact fun _ _ _ h => h); (case ct5 => kernel_rfl); (case dt5 => (intro W hW; obtain ⟨b0, b1⟩ := HBX.out W hW.1; clear hW; go_simp; (try with_reducible rfl))); (case' rt5 => simp only [Act.put, List.setIfInBounds_toArray, List.set_cons_zero, List.set_cons_succ]))
        (refine held_take (i := 6) (oi := ?ot6) (v := ?vt6) ?at6 (by kernel_rfl) (by kernel_rfl) (by kernel_rfl) ?bt6 ?ct6 ?dt6 (by assumption) ?rt6; (case at6 => (simp only [List.getElem?_toArray, List.getElem?_cons_zero, List.getElem?_cons_succ]; rfl)); (case bt6 => exact fun _ _ _ h => h); (case ct6 => kernel_rfl); (case dt6 => (intro W hW; (try dsimp only at hW); go_split_ands; go_simp; (try with_reducible rfl))); (case' rt6 => simp only [Act.put, List.setIfInBounds_toArray, List.set_cons_zero, List.set_cons_succ]))
        (refine held_take (i := 7) (oi := ?ot7) (v := ?vt7) ?at7 (by kernel_rfl) (by kernel_rfl) (by kernel_rfl) ?bt7 ?ct7 ?dt7 (by assumption) ?rt7; (case at7 => (simp only [List.getElem?_toArray, List.getElem?_cons_zero, List.getElem?_cons_succ]; rfl)); (case bt7 => exact fun _ _ _ h => h); (case ct7 => kernel_rfl); (case dt7 => (intro W hW; (try dsimp only at hW); go_split_ands; go_simp; (try with_reducible rfl))); (case' rt7 => simp only [Act.put, List.setIfInBounds_toArray, List.set_cons_zero, List.set_cons_succ]))
        (refine held_take (i := 8) (oi := ?ot8) (v := .int .i64 xi) ?at8 (by kernel_rfl) (by kernel_rfl) (by kernel_rfl) ?bt8 ?ct8 ?dt8 (by assumption) ?rt8; (case at8 => (simp only [List.getElem?_toArray, List.getElem?_cons_zero, List.getElem?_cons_succ]; rfl)); (case bt8 => exact fun _ _ _ h => h); (case ct8 => kernel_rfl); (case dt8 => (intro W hW; obtain ⟨b0, b1⟩ := HBX.out W hW.1; clear hW; go_simp; (try with_reducible rfl))); (case' rt8 => simp only [Act.put, List.setIfInBounds_toArray, List.set_cons_zero, List.set_cons_succ]))
        (refine held_take (i := 9) (oi := ?ot9) (v := ?vt9) ?at9 (by kernel_rfl) (by kernel_rfl) (by kernel_rfl) ?bt9 ?ct9 ?dt9 (by assumption) ?rt9; (case at9 => (simp only [List.getElem?_toArray, List.getElem?_cons_zero, List.getElem?_cons_succ]; rfl)); (case bt9 => exact fun _ _ _ h => h); (case ct9 => kernel_rfl); (case dt9 => (intro W hW; (try dsimp only at hW); go_split_ands; go_simp; (try with_reducible rfl))); (case' rt9 => simp only [Act.put, List.setIfInBounds_toArray, List.set_cons_zero, List.set_cons_succ]))
        (refine held_take (i := 10) (oi := ?ot10) (v := .int .u32 (num xx)) ?at10 (by kernel_rfl) (by kernel_rfl) (by kernel_rfl) ?bt10 ?ct10 ?dt10 (by assumption) ?rt10; (case at10 => (simp only [List.getElem?_toArray, List.getElem?_cons_zero, List.getElem?_cons_succ]; rfl)); (case bt10 => exact fun _ _ _ h => h); (case ct10 => kernel_rfl); (case dt10 => (intro W hW; obtain ⟨b0, b1⟩ := HBX.out W hW.1; clear hW; go_simp; (try with_reducible rfl))); (case' rt10 => simp only [Act.put, List.setIfInBounds_toArray, List.set_cons_zero, List.set_cons_succ]))
        refine held_one (i := 5) (oi := ?ot11) (by kernel_rfl) ?at11 ?ct11 (fun K5 hK5 => ?_)
        (case at11 => (simp only [List.getElem?_toArray, List.getElem?_cons_zero, List.getElem?_cons_succ]; rfl))
        (case ct11 => kernel_rfl)
        go_simp
        refine HCO.out.mono ?_
        rintro e y5 ⟨rfl, H5⟩
        refine hK5 _ _ H5.out.1 (fun hS5 => ?_)
        clear hS hK5 K5
        refine held_one (i := 11) (oi := ?ot12) (by kernel_rfl) ?at12 ?ct12 (fun K11 hK11 => ?_)
        (case at12 => (simp only [List.getElem?_toArray, List.getElem?_cons_zero, List.getElem?_cons_succ]; rfl))
        (case ct12 => kernel_rfl)
        go_simp
        refine H5.out.2.mono ?_
        rintro e y11 ⟨rfl, H11⟩
        refine hK11 _ _ H11.out.1 (fun hS11 => ?_)
        clear hS5 hK11 K11
        (refine held_take (i := 12) (oi := ?ot13) (v := .bool false) ?at13 (by kernel_rfl) (by kernel_rfl) (by kernel_rfl) ?bt13 ?ct13 ?dt13 (by assumption) ?rt13; (case at13 => (simp only [List.getElem?_toArray, List.getElem?_cons_zero, List.getElem?_cons_succ]; rfl)); (case bt13 => exact fun _ _ _ h => h); (case ct13 => kernel_rfl); (case dt13 => (intro W hW; clear hW; go_simp; (try with_reducible rfl); (try simp))); (case' rt13 => simp only [Act.put, List.setIfInBounds_toArray, List.set_cons_zero, List.set_cons_succ]))
        (refine held_take (i := 13) (oi := ?ot14) (v := ?vt14) ?at14 (by kernel_rfl) (by kernel_rfl) (by kernel_rfl) ?bt14 ?ct14 ?dt14 (by assumption) ?rt14; (case at14 => (simp only [List.getElem?_toArray, List.getElem?_cons_zero, List.getElem?_cons_succ]; rfl)); (case bt14 => exact fun _ _ _ h => h); (case ct14 => kernel_rfl); (case dt14 => (intro W hW; (try dsimp only at hW); go_split_ands; go_simp; (try with_reducible rfl))); (case' rt14 => simp only [Act.put, List.setIfInBounds_toArray, List.set_cons_zero, List.set_cons_succ]))
        (refine held_take (i := 14) (oi := ?ot15) (v := ?vt15) ?at15 (by kernel_rfl) (by kernel_rfl) (by kernel_rfl) ?bt15 ?ct15 ?dt15 (by assumption) ?rt15; (case at15 => (simp only [List.getElem?_toArray, List.getElem?_cons_zero, List.getElem?_cons_succ]; rfl)); (case bt15 => exact fun _ _ _ h => h); (case ct15 => kernel_rfl); (case dt15 => (intro W hW; (try dsimp only at hW); go_split_ands; go_simp; (try with_reducible rfl))); (case' rt15 => simp only [Act.put, List.setIfInBounds_toArray, List.set_cons_zero, List.set_cons_succ]))
        (refine held_take (i := 16) (oi := ?ot16) (v := ?vt16) ?at16 (by kernel_rfl) (by kernel_rfl) (by kernel_rfl) ?bt16 ?ct16 ?dt16 (by assumption) ?rt16; (case at16 => (simp only [List.getElem?_toArray, List.getElem?_cons_zero, List.getElem?_cons_succ]; rfl)); (case bt16 => exact fun _ _ _ h => h); (case ct16 => kernel_rfl); (case dt16 => (intro W hW; (try dsimp only at hW); go_split_ands; go_simp; (try with_reducible rfl))); (case' rt16 => simp only [Act.put, List.setIfInBounds_toArray, List.set_cons_zero, List.set_cons_succ]))
        (refine held_take (i := 17) (oi := ?ot17) (v := ?vt17) ?at17 (by kernel_rfl) (by kernel_rfl) (by kernel_rfl) ?bt17 ?ct17 ?dt17 (by assumption) ?rt17; (case at17 => (simp only [List.getElem?_toArray, List.getElem?_cons_zero, List.getElem?_cons_succ]; rfl)); (case bt17 => exact fun _ _ _ h => h); (case ct17 => kernel_rfl); (case dt17 => (intro W hW; (try dsimp only at hW); go_split_ands; go_simp; (try with_reducible rfl))); (case' rt17 => simp only [Act.put, List.setIfInBounds_toArray, List.set_cons_zero, List.set_cons_succ]))
        (refine held_take (i := 18) (oi := ?ot18) (v := ?vt18) ?at18 (by kernel_rfl) (by kernel_rfl) (by kernel_rfl) ?bt18 ?ct18 ?dt18 (by assumption) ?rt18; (case at18 => (simp only [List.getElem?_toArray, List.getElem?_cons_zero, List.getElem?_cons_succ]; rfl)); (case bt18 => exact fun _ _ _ h => h); (case ct18 => kernel_rfl); (case dt18 => (intro W hW; (try dsimp only at hW); go_split_ands; go_simp; (try with_reducible rfl))); (case' rt18 => simp only [Act.put, List.setIfInBounds_toArray, List.set_cons_zero, List.set_cons_succ]))
        (refine held_take (i := 19) (oi := ?ot19) (v := .slice A9 L d9) ?at19 (by kernel_rfl) (by kernel_rfl) (by kernel_rfl) ?bt19 ?ct19 ?dt19 (by assumption) ?rt19; (case at19 => (simp only [List.getElem?_toArray, List.getElem?_cons_zero, List.getElem?_cons_succ]; rfl)); (case bt19 => exact fun _ _ _ h => h); (case ct19 => kernel_rfl); (case dt19 => (intro W hW; have c0 := hW.2; clear hW; go_simp; (try with_reducible rfl))); (case' rt19 => simp only [Act.put, List.setIfInBounds_toArray, List.set_cons_zero, List.set_cons_succ]))
        refine held_one (i := 15) (oi := ?ot20) (by kernel_rfl) ?at20 ?ct20 (fun K15 hK15 => ?_)
        (case at20 => (simp only [List.getElem?_toArray, List.getElem?_cons_zero, List.getElem?_cons_succ]; rfl))
        (case ct20 => kernel_rfl)
        have hSb := hS11
        go_simp
        refine (HWD.out _ H11.out.2).mono ?_
        rintro e y15 ⟨B7, d7, rfl, hl7, hd⟩
        have H15 := Lib.hid (And.intro hl7 hd)
        have hcu : y15.cell? ⟨r, 0, none⟩ = some (.slice A9 L d9) := (hd.cell (World.block_lt_of_cell? _ _ hSb.2)).trans hSb.2
        refine hK15 _ _ ⟨hSb.1.andThen (Turn.of_below hd), hcu⟩ (fun hS15 => ?_)
        clear hS11 hSb hl7 hd hcu hK15 K15
        refine held_one (i := 20) (oi := ?ot21) (by kernel_rfl) ?at21 ?ct21 (fun K20 hK20 => ?_)
        (case at21 => (simp only [List.getElem?_toArray, List.getElem?_cons_zero, List.getElem?_cons_succ]; rfl))
        (case ct21 => kernel_rfl)
        have hSb := hS15
        go_simp
        refine (HSW.out _ _ B7 d7 H11.out.2 H15.out.2 H15.out.1).mono ?_
        rintro e y20 ⟨rfl, hd⟩
        have H20 := Lib.hid hd
        have hcu : y20.cell? ⟨r, 0, none⟩ = some (.slice A9 L d9) := (hd.cell (World.block_lt_of_cell? _ _ hSb.2)).trans hSb.2
        refine hK20 _ _ ⟨hSb.1.andThen (Turn.of_below hd), hcu⟩ (fun hS20 => ?_)
        clear hS15 hSb hd hcu hK20 K20
        (refine held_take (i := 21) (oi := ?ot22) (v := ?vt22) ?at22 (by kernel_rfl) (by kernel_rfl) (by kernel_rfl) ?bt22 ?ct22 ?dt22 (by assumption) ?rt22; (case at22 => (simp only [List.getElem?_toArray, List.getElem?_cons_zero, List.getElem?_cons_succ]; rfl)); (case bt22 => exact fun _ _ _ h => h); (case ct22 => kernel_rfl); (case dt22 => (intro W hW; (try dsimp only at hW); go_split_ands; go_simp; (try with_reducible rfl))); (case' rt22 => simp only [Act.put, List.setIfInBounds_toArray, List.set_cons_zero, List.set_cons_succ]))
        (refine held_take (i := 22) (oi := ?ot23) (v := ?vt23) ?at23 (by kernel_rfl) (by kernel_rfl) (by kernel_rfl) ?bt23 ?ct23 ?dt23 (by assumption) ?rt23; (case at23 => (simp only [List.getElem?_toArray, List.getElem?_cons_zero, List.getElem?_cons_succ]; rfl)); (case bt23 => exact fun _ _ _ h => h); (case ct23 => kernel_rfl); (case dt23 => (intro W hW; (try dsimp only at hW); go_split_ands; go_simp; (try with_reducible rfl))); (case' rt23 => simp only [Act.put, List.setIfInBounds_toArray, List.set_cons_zero, List.set_cons_succ]))
        refine wpAnyH_done (by kernel_rfl) ?_ _
        clear hS20
        go_wp2
        go_roundw
        case rel => exact ⟨k + 1, t, HK.out, by go_num, Lib.hid ⟨⟨_, _, _, _, _, _, _, _, (H11.out.2.1.under H15.out.2).under H20.out⟩, (H11.out.2.2.trans (H15.out.2.mono H11.out.2.2.size)).trans (H20.out.mono (Nat.le_trans H11.out.2.2.size H15.out.2.size)), HTC.out.1, HTC.out.2⟩⟩
        case measure => have := HK.out; simp [intOf]; omega
    · obtain rfl : k = M := by omega
      clear hlt hk
      go_wp2
      go_ret
      exact ⟨rfl, hI.out.2.1⟩
end Go.Proofs.Ytpeebdhbcglibaa
