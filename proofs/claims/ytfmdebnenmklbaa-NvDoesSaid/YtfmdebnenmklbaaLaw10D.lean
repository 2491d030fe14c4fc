/- The walk of NvDoes. -/
import Derived.Test.YtfmdebnenmklbaaOpd10
import Derived.Test.YtfmdebnenmklbaaTwo10
namespace Go.Proofs.Ytfmdebnenmklbaa
open Go.RowKit

theorem rdV_no' {s : St} {i : Int} (h : ¬ (0 ≤ i ∧ i < (s.ws.length : Int))) : rdV s i = .tuple #[.int .u32 0, .int .i64 1] := by unfold rdV; rw [if_neg h]
theorem rdV_at' {s : St} {k : Nat} (h : k < s.ws.length) : rdV s (k : Int) = .tuple #[.int .u32 (num (s.ws.getD k 0)), .int .i64 0] := by
  unfold rdV
  rw [if_pos ⟨by omega, by omega⟩, Int.toNat_natCast]
set_option maxRecDepth 100000 in
set_option maxHeartbeats 8000000 in
theorem nvDoes_walk (A : Option Addr) (c : Nat) (ws : List W32) (B : Option Addr) (d : Nat) (cs : List Ct) (D : Option Addr) (f : Nat) (ds : List D3) (w : World) (_hc : ws.length ≤ c ∧ c ≤ maxLen) (hA : Lies w w.heap.size 1 A ws.length (u32s ws)) (hcd : cs.length ≤ d ∧ d ≤ maxLen) (hB : Lies w w.heap.size 2 B cs.length (cellsC cs)) (hok : ∀ x ∈ cs, CtOk x)
    (_hf : ds.length ≤ f ∧ f ≤ maxLen) (hD : DRow3 w w.heap.size D ds) (_hdk : ∀ x ∈ ds, (-9223372036854775808 ≤ x.kind ∧ x.kind ≤ 9223372036854775807) ∧ (-9223372036854775808 ≤ x.i ∧ x.i ≤ 9223372036854775807)) :
    Calls Try.prog 3 #[.slice A ws.length c, .slice B cs.length d, .slice D ds.length f] w fun e w' => e = .returned (.bool true) ∧ Below w.heap.size w w' := by
  obtain ⟨L, hL⟩ : ∃ L, L = ws.length := ⟨_, rfl⟩
  obtain ⟨K, hK⟩ : ∃ K, K = cs.length := ⟨_, rfl⟩
  obtain ⟨M, hM⟩ : ∃ M, M = ds.length := ⟨_, rfl⟩
  by_cases hL1 : 100 < L
  · have e1 : (100 : Int) < L := by omega
    rw [← hL, ← hK, ← hM]
    clear hA hB hD hok hL hK hM hL1 hcd
    go_enter Try.func3, Try.ntmps3
    go_wp2_with (go_at_call 7; refine (awake_any _).mono ?_; rintro e w1 ⟨rfl, hd⟩; have H1 := Lib.hid hd; clear hd)
    go_ret
    exact ⟨rfl, H1.out⟩
  have e1 : ¬ (100 : Int) < L := by omega
  by_cases hK1 : 10 < K
  · have e2 : (10 : Int) < K := by omega
    rw [← hL, ← hK, ← hM]
    clear hA hB hD hok hL hK hM hL1 hK1 hcd
    go_enter Try.func3, Try.ntmps3
    go_wp2_with (go_at_call 7; refine (awake_any _).mono ?_; rintro e w1 ⟨rfl, hd⟩; have H1 := Lib.hid hd; clear hd)
    go_ret
    exact ⟨rfl, H1.out⟩
  have e2 : ¬ (10 : Int) < K := by omega
  by_cases hM1 : 60 < M
  · have e3 : (60 : Int) < M := by omega
    rw [← hL, ← hK, ← hM]
    clear hA hB hD hok hL hK hM hL1 hK1 hM1 hcd
    go_enter Try.func3, Try.ntmps3
    go_wp2_with (go_at_call 7; refine (awake_any _).mono ?_; rintro e w1 ⟨rfl, hd⟩; have H1 := Lib.hid hd; clear hd)
    go_ret
    exact ⟨rfl, H1.out⟩
  have e3 : ¬ (60 : Int) < M := by omega
  have HN : Hid (∀ W, Below w.heap.size w W → Calls Try.prog 8 #[.slice A L c, .slice B K d] W fun e w' => ∃ p G v B2 d2, e = .returned (.pointer (some ⟨p, 0, none⟩)) ∧ Hid (NC w' G p ⟨ws, cs, 0, true⟩ v B2 d2 ∧ (∀ i, G i → w.heap.size ≤ i) ∧ Below w.heap.size w w')) := Lib.hid fun W hW => by
    rw [hL, hK]
    refine (new_any A c ws (by omega) B d cs (by omega) hok W ((hA.below hW).wide hW.size) ((hB.below hW).wide hW.size)).mono ?_
    rintro e w' ⟨p, G, v, B2, d2, rfl, h1, h2, _, h3⟩
    exact ⟨p, G, v, B2, d2, rfl, Lib.hid ⟨h1, fun i hi => Nat.le_trans hW.size (h2 i hi), hW.trans (h3.mono hW.size)⟩⟩
  have HAL : Hid (∀ W, Below w.heap.size w W → Lies W W.heap.size 1 A L (u32s ws)) := Lib.hid fun W hW => by rw [hL]; exact (hA.below hW).wide hW.size
  have HBL : Hid (∀ W, Below w.heap.size w W → Lies W w.heap.size 2 B cs.length (cellsC cs)) := Lib.hid fun W hW => hB.below hW
  have HDR : Hid (∀ W, Below w.heap.size w W → DRow3 W w.heap.size D ds) := Lib.hid fun W hW => hD.below hW
  have HQ := Lib.hid (And.intro hL (And.intro hK (And.intro hM (And.intro hcd.1 hok))))
  obtain ⟨i0, hi, hz0, hz1, hz2⟩ := info_parts infoU32
  have hLb : L ≤ 100 := by omega
  have hMb : M ≤ 60 := by omega
  rw [← hL, ← hK, ← hM]
  clear hA hB hD hok hL hK hM hcd hL1 hK1 hM1
  go_enter Try.func3, Try.ntmps3
  go_upto_region 6 with (first
    | (go_at_call 7; refine (awake_any _).mono ?_; rintro e w1 ⟨rfl, hd⟩; have H1 := Lib.hid hd; clear hd)
    | (go_at_call 8; refine (HN.out _ H1.out).mono ?_; rintro e w3 ⟨p, G, v, B2, d2, rfl, H3⟩))
  clear HN
  go_upto_region 9 with (at_builtin; (refine wpList_app rfl (.const (.slice none 0 0)) (.tmp 32) 22 rfl w3.heap.size 31 i0 (.int .u32 0) 4 Try.underlying22 hi hz0 hz1 hz2 rfl (.slice none 0 0) 0 [] rfl (World.ownsRow_nil _ _ _ _) _ _ _ _ _ rfl (HAL.out _ H3.out.2.2) (u32s_one _) (by unfold maxLen; omega) (by omega) (Nat.le_refl _) ?_); intro v4 w4 h1 h2 h3; (have h1' : w4.ownsRow w3.heap.size 31 1 v4 ws.length (u32s ws) := (by rw [← HQ.out.1]; simpa using h1)); (obtain ⟨A4, d4, hv4, _⟩ := owns_form h1'); (rw [hv4] at h1'); (have H4 := Lib.hid (And.intro h1' ((Below.refl w3.heap.size w3).grown h2 (Nat.le_refl _) (fun k hk => by cases hk)))); (rw [← HQ.out.1] at hv4); subst hv4; clear h1 h2 h3 h1')
  have HT0 : Hid (TwoE (w4.alloc (.cells #[.slice A4 L d4, .slice B K d, .int .i64 0, .bool false] 30)) w.heap.size p w4.heap.size ⟨ws, cs, 0, true⟩ ∧ Below w.heap.size w (w4.alloc (.cells #[.slice A4 L d4, .slice B K d, .int .i64 0, .bool false] 30))) := Lib.hid (by
    have h4 := H4.out
    have hb := H3.out.2.2
    refine ⟨?_, ?_⟩
    · rw [HQ.out.1, HQ.out.2.1]
      exact two_new h4.1 h4.2 (HBL.out _ hb) HQ.out.2.2.2.1 HQ.out.2.2.2.2 hb.size H3.out.1 H3.out.2.1
    · exact (hb.trans (h4.2.mono hb.size)).alloc (Nat.le_trans hb.size h4.2.size) _)
  obtain ⟨w5, hw5⟩ : ∃ w5, w5 = w4.alloc (.cells #[.slice A4 L d4, .slice B K d, .int .i64 0, .bool false] 30) := ⟨_, rfl⟩
  obtain ⟨r, hr⟩ : ∃ r, r = w4.heap.size := ⟨_, rfl⟩
  rw [← hw5, ← hr] at HT0
  rw [← hw5, ← hr]
  clear hw5 hr hi hz0 hz1 hz2
  go_wp2
  go_loopw [41] (fun vi wr => ∃ (k : Nat) (s : St), k ≤ M ∧ vi = .int .i64 k ∧ Hid (TwoE wr w.heap.size p r s ∧ Below w.heap.size w wr ∧ s.cnt ≤ k ∧ s.ws.length = L)) (fun vi _ => M - (intOf vi).toNat)
  case atStart => exact ⟨0, _, Nat.zero_le _, rfl, Lib.hid ⟨HT0.out.1, HT0.out.2, Nat.le_refl _, HQ.out.1.symm⟩⟩
  case round =>
    obtain ⟨k, s, hk, rfl, hI⟩ := hrel
    by_cases hlt : k < M
    · have hlt2 : k < ds.length := by have := HQ.out.2.2.1; omega
      obtain ⟨a, q, rfl, hq, hqb, hc0, hc1, hc2⟩ := (HDR.out wr hI.out.2.1).at hlt2
      obtain ⟨x, hx⟩ : ∃ x, ds[k] = x := ⟨_, rfl⟩
      rw [hx] at hc0 hc1 hc2
      obtain ⟨xk, xi, xx⟩ := x
      simp only at hc0 hc1 hc2
      have HK : Hid (k + 1 ≤ M) := Lib.hid hlt
      have hsb := hI.out.2.2.1
      have hcb : s.cnt < 1000000 := by omega
      obtain ⟨V, hV⟩ : ∃ V, V = wr.alloc (.cells #[.int .i64 xk, .int .i64 xi, .int .u32 (num xx)] 33) := ⟨_, rfl⟩
      have hVB : Below wr.heap.size wr V := by rw [hV]; exact (Below.refl _ _).alloc (Nat.le_refl _) _
      have hbx : Blk V wr.heap.size 33 #[.int .i64 xk, .int .i64 xi, .int .u32 (num xx)] := by rw [hV]; exact Blk.new _ _ _ rfl
      obtain ⟨G1, H1, v1, u1, A1, C1, c1, d1, hT⟩ := hI.out.1
      have hTV := hT.under hVB
      have hwV : Below w.heap.size w V := hI.out.2.1.trans (hVB.mono hI.out.2.1.size)
      have hGl : ∀ i, G1 i → i < wr.heap.size := hT.nc.lay.lt
      have hHl : ∀ i, H1 i → i < wr.heap.size := hT.nr.lay.lt
      have hb0 := hbx.cellAt 0 rfl
      have hb1 := hbx.cellAt 1 rfl
      have hb2 := hbx.cellAt 2 rfl
      have HV := Lib.hid hV
      have HLS : Hid (s.ws.length = L) := Lib.hid hI.out.2.2.2
      have HCB := Lib.hid (And.intro hsb hcb)
      clear hx hlt hlt2 hk hV hqb hsb
      by_cases k0 : xk = 0
      · subst k0
        obtain ⟨E, hE⟩ : ∃ E, E = s.wrE xi := ⟨_, rfl⟩
        obtain ⟨GH, hGH⟩ : ∃ GH : Nat → Prop, GH = fun i => G1 i ∨ H1 i := ⟨_, rfl⟩
        have HBX : Hid (∀ Y, Turn GH V Y → Y.cell? ⟨wr.heap.size, 0, none⟩ = some (.int .i64 0) ∧ Y.cell? ⟨wr.heap.size, 1, none⟩ = some (.int .i64 xi) ∧ Y.cell? ⟨wr.heap.size, 2, none⟩ = some (.int .u32 (num xx))) := Lib.hid fun Y hY => by
          have hb := hbx.turn hY fun hi => by
            rw [hGH] at hi
            rcases hi with h | h
            · have := hGl _ h; omega
            · have := hHl _ h; omega
          exact ⟨hb.cellAt 0 rfl, hb.cellAt 1 rfl, hb.cellAt 2 rfl⟩
        have HCO : Hid (Calls Try.prog 9 #[.pointer (some ⟨p, 0, none⟩), .int .i64 xi, .int .u32 (num xx)] V.drew fun e y1 => e = .returned (.int .i64 (E : Int)) ∧ Hid (Turn GH V y1 ∧
            Calls Try.prog 10 #[.pointer (some ⟨r, 0, none⟩), .int .i64 xi, .int .u32 (num xx)] y1 fun e y2 => e = .returned (.int .i64 (E : Int)) ∧ Hid (Turn GH V y2 ∧ TwoE y2 w.heap.size p r (s.wr xi xx) ∧ Below w.heap.size w y2 ∧ (s.wr xi xx).cnt ≤ k + 1 ∧ (s.wr xi xx).ws.length = L))) := Lib.hid (by
          have hdr : Below V.heap.size V V.drew := ⟨rfl, rfl, rfl, Nat.le_refl _, fun _ _ => rfl⟩
          have hTd := hTV.under hdr
          rw [hE]
          refine (hTd.write_any hcb xi xx).mono ?_
          rintro e y1 ⟨rfl, t1, h2⟩
          have t1' : Turn GH V y1 := ((Turn.of_below hdr).andThen t1).mono fun i hi => by rw [hGH]; exact Or.inl hi
          refine ⟨rfl, Lib.hid ⟨t1', h2.mono ?_⟩⟩
          rintro e y2 ⟨rfl, t2, hE2⟩
          refine ⟨rfl, Lib.hid ⟨t1'.trans t2 (fun i hi => by rw [hGH]; exact Or.inl (Or.inr hi)), hE2, ?_, ?_, ?_⟩⟩
          · exact hTd.below (hwV.trans (hdr.mono hwV.size)) (Nat.le_refl _) t1 t2
          · have := s.wr_cnt xi xx; have := HCB.out.1; omega
          · rw [St.wr_len]; exact HLS.out)
        clear hT hTV hwV hGl hHl hVB hbx hE hGH hcb
        go_upto_region 12 with fail
        rw [← HV.out]
        clear HV hc0 hc1 hc2 hq
        go_upto_region 16 with fail
        clear hb0 hb1 hb2
        refine wp_region_held_drew (S := fun Y => Turn GH V Y) (by kernel_rfl) (show Turn GH V V.drew from ⟨rfl, rfl, rfl, Nat.le_refl _, fun _ _ _ => rfl⟩) (fun hS => ?_)
        (refine held_take (i := 0) (oi := ?ot1) (v := ?vt1) ?at1 (by kernel_rfl) (by kernel_rfl) (by kernel_rfl) ?bt1 ?ct1 ?dt1 (by assumption) ?rt1; (case at1 => (simp only [List.getElem?_toArray, List.getElem?_cons_zero]; rfl)); (case bt1 => exact fun _ _ _ h => h); (case ct1 => kernel_rfl); (case dt1 => (intro W hW; (try dsimp only at hW); go_split_ands; go_simp; (try with_reducible rfl))); (case' rt1 => simp only [Act.put, List.setIfInBounds_toArray, List.set_cons_zero, List.set_cons_succ]))
        (refine held_take (i := 1) (oi := ?ot2) (v := ?vt2) ?at2 (by kernel_rfl) (by kernel_rfl) (by kernel_rfl) ?bt2 ?ct2 ?dt2 (by assumption) ?rt2; (case at2 => (simp only [List.getElem?_toArray, List.getElem?_cons_zero, List.getElem?_cons_succ]; rfl)); (case bt2 => exact fun _ _ _ h => h); (case ct2 => kernel_rfl); (case dt2 => (intro W hW; (try dsimp only at hW); go_split_ands; go_simp; (try with_reducible rfl))); (case' rt2 => simp only [Act.put, List.setIfInBounds_toArray, List.set_cons_zero, List.set_cons_succ]))
        (refine held_take (i := 2) (oi := ?ot3) (v := .int .i64 xi) ?at3 (by kernel_rfl) (by kernel_rfl) (by kernel_rfl) ?bt3 ?ct3 ?dt3 (by assumption) ?rt3; (case at3 => (simp only [List.getElem?_toArray, List.getElem?_cons_zero, List.getElem?_cons_succ]; rfl)); (case bt3 => exact fun _ _ _ h => h); (case ct3 => kernel_rfl); (case dt3 => (intro W hW; obtain ⟨b0, b1, b2⟩ := HBX.out W hW; clear hW; go_simp; (try with_reducible rfl))); (case' rt3 => simp only [Act.put, List.setIfInBounds_toArray, List.set_cons_zero, List.set_cons_succ]))
        (refine held_take (i := 3) (oi := ?ot4) (v := ?vt4) ?at4 (by kernel_rfl) (by kernel_rfl) (by kernel_rfl) ?bt4 ?ct4 ?dt4 (by assumption) ?rt4; (case at4 => (simp only [List.getElem?_toArray, List.getElem?_cons_zero, List.getElem?_cons_succ]; rfl)); (case bt4 => exact fun _ _ _ h => h); (case ct4 => kernel_rfl); (case dt4 => (intro W hW; (try dsimp only at hW); go_split_ands; go_simp; (try with_reducible rfl))); (case' rt4 => simp only [Act.put, List.setIfInBounds_toArray, List.set_cons_zero, List.set_cons_succ]))
        (refine held_take (i := 4) (oi := ?ot5) (v := .int .u32 (num xx)) ?at5 (by kernel_rfl) (by kernel_rfl) (by kernel_rfl) ?bt5 ?ct5 ?dt5 (by assumption) ?rt5; (case at5 => (simp only [List.getElem?_toArray, List.getElem?_cons_zero, List.getElem?_cons_succ]; rfl)); (case bt5 => exact fun _ _ _ h => h); (case ct5 => kernel_rfl); (case dt5 => (intro W hW; obtain ⟨b0, b1, b2⟩ := HBX.out W hW; clear hW; go_simp; (try with_reducible rfl))); (case' rt5 => simp only [Act.put, List.setIfInBounds_toArray, List.set_cons_zero, List.set_cons_succ]))
        (refine held_take (i := 6) (oi := ?ot6) (v := ?vt6) ?at6 (by kernel_rfl) (by kernel_rfl) (by kernel_rfl) ?bt6 ?ct6 ?dt6 (by assumption) ?rt6; (case at6 => (simp only [List.getElem?_toArray, List.getElem?_cons_zero, List.getElem?_cons_succ]; rfl)); (case bt6 => exact fun _ _ _ h => h); (case ct6 => kernel_rfl); (case dt6 => (intro W hW; (try dsimp only at hW); go_split_ands; go_simp; (try with_reducible rfl))); (case' rt6 => simp only [Act.put, List.setIfInBounds_toArray, List.set_cons_zero, List.set_cons_succ]))
        (refine held_take (i := 7) (oi := ?ot7) (v := ?vt7) ?at7 (by kernel_rfl) (by kernel_rfl) (by kernel_rfl) ?bt7 ?ct7 ?dt7 (by assumption) ?rt7; (case at7 => (simp only [List.getElem?_toArray, List.getElem?_cons_zero, List.getElem?_cons_succ]; rfl)); (case bt7 => exact fun _ _ _ h => h); (case ct7 => kernel_rfl); (case dt7 => (intro W hW; (try dsimp only at hW); go_split_ands; go_simp; (try with_reducible rfl))); (case' rt7 => simp only [Act.put, List.setIfInBounds_toArray, List.set_cons_zero, List.set_cons_succ]))
        (refine held_take (i := 8) (oi := ?ot8) (v := .int .i64 xi) ?at8 (by kernel_rfl) (by kernel_rfl) (by kernel_rfl) ?bt8 ?ct8 ?dt8 (by assumption) ?rt8; (case at8 => (simp only [List.getElem?_toArray, List.getElem?_cons_zero, List.getElem?_cons_succ]; rfl)); (case bt8 => exact fun _ _ _ h => h); (case ct8 => kernel_rfl); (case dt8 => (intro W hW; obtain ⟨b0, b1, b2⟩ := HBX.out W hW; clear hW; go_simp; (try with_reducible rfl))); (case' rt8 => simp only [Act.put, List.setIfInBounds_toArray, List.set_cons_zero, List.set_cons_succ]))
        (refine held_take (i := 9) (oi := ?ot9) (v := ?vt9) ?at9 (by kernel_rfl) (by kernel_rfl) (by kernel_rfl) ?bt9 ?ct9 ?dt9 (by assumption) ?rt9; (case at9 => (simp only [List.getElem?_toArray, List.getElem?_cons_zero, List.getElem?_cons_succ]; rfl)); (case bt9 => exact fun _ _ _ h => h); (case ct9 => kernel_rfl); (case dt9 => (intro W hW; (try dsimp only at hW); go_split_ands; go_simp; (try with_reducible rfl))); (case' rt9 => simp only [Act.put, List.setIfInBounds_toArray, List.set_cons_zero, List.set_cons_succ]))
        (refine held_take (i := 10) (oi := ?ot10) (v := .int .u32 (num xx)) ?at10 (by kernel_rfl) (by kernel_rfl) (by kernel_rfl) ?bt10 ?ct10 ?dt10 (by assumption) ?rt10; (case at10 => (simp only [List.getElem?_toArray, List.getElem?_cons_zero, List.getElem?_cons_succ]; rfl)); (case bt10 => exact fun _ _ _ h => h); (case ct10 => kernel_rfl); (case dt10 => (intro W hW; obtain ⟨b0, b1, b2⟩ := HBX.out W hW; clear hW; go_simp; (try with_reducible rfl))); (case' rt10 => simp only [Act.put, List.setIfInBounds_toArray, List.set_cons_zero, List.set_cons_succ]))
        refine held_one (i := 5) (oi := ?ot11) (by kernel_rfl) ?at11 ?ct11 (fun K5 hK5 => ?_)
        (case at11 => (simp only [List.getElem?_toArray, List.getElem?_cons_zero, List.getElem?_cons_succ]; rfl))
        (case ct11 => kernel_rfl)
        go_simp
        refine HCO.out.mono ?_
        rintro e y5 ⟨rfl, H5⟩
        refine hK5 _ _ H5.out.1 (fun hS5 => ?_)
        clear hS hK5 K5
        refine held_one (i := 11) (oi := ?ot12) (by kernel_rfl) ?at12 ?ct12 (fun K11 hK11 => ?_)
        (case at12 => (simp only [List.getElem?_toArray, List.getElem?_cons_zero, List.getElem?_cons_succ]; rfl))
        (case ct12 => kernel_rfl)
        go_simp
        refine H5.out.2.mono ?_
        rintro e y11 ⟨rfl, H11⟩
        refine hK11 _ _ H11.out.1 (fun hS11 => ?_)
        clear hS5 hK11 K11
        (refine held_take (i := 12) (oi := ?ot13) (v := ?vt13) ?at13 (by kernel_rfl) (by kernel_rfl) (by kernel_rfl) ?bt13 ?ct13 ?dt13 (by assumption) ?rt13; (case at13 => (simp only [List.getElem?_toArray, List.getElem?_cons_zero, List.getElem?_cons_succ]; rfl)); (case bt13 => exact fun _ _ _ h => h); (case ct13 => kernel_rfl); (case dt13 => (intro W hW; (try dsimp only at hW); go_split_ands; go_simp; (try with_reducible rfl))); (case' rt13 => simp only [Act.put, List.setIfInBounds_toArray, List.set_cons_zero, List.set_cons_succ]))
        refine wpAnyH_done (by kernel_rfl) ?_ _
        have HT : Hid (TwoE y11 w.heap.size p r (s.wr xi xx) ∧ Below w.heap.size w y11 ∧ (s.wr xi xx).cnt ≤ k + 1 ∧ (s.wr xi xx).ws.length = L) := Lib.hid H11.out.2
        clear hS11
        go_upto_region 23 with fail
        obtain ⟨G2, H2, v2, u2, A2, C2, c2, d2, h2⟩ := HT.out.1
        obtain ⟨ct, hct⟩ : ∃ ct, ct = (s.wr xi xx).cnt := ⟨_, rfl⟩
        obtain ⟨bo, hbo⟩ : ∃ bo, bo = !(s.wr xi xx).on := ⟨_, rfl⟩
        have HF : Hid (∀ Y, VS (y11) Y → Y.cell? ⟨r, 2, none⟩ = some (.int .i64 (ct : Int)) ∧ Y.cell? ⟨r, 3, none⟩ = some (.bool bo)) := Lib.hid fun Y hY => by
          rw [hct, hbo]
          have hb := h2.nr.blk.under hY
          exact ⟨hb.cellAt 2 rfl, hb.cellAt 3 rfl⟩
        have HWR : Hid (∀ Y, VS (y11) Y → Calls Try.prog 14 #[.pointer (some ⟨p, 0, none⟩)] Y fun e w' => e = .returned (.int .i64 (ct : Int)) ∧ Y = w') := Lib.hid fun Y hY => by rw [hct]; exact writes_any (h2.nc.under hY)
        have HDD : Hid (∀ Y, VS (y11) Y → Calls Try.prog 15 #[.pointer (some ⟨p, 0, none⟩)] Y fun e w' => e = .returned (.bool bo) ∧ Y = w') := Lib.hid fun Y hY => by rw [hbo]; exact dead_any (h2.nc.under hY)
        clear h2 hct hbo
        refine wp_region_held_drew (S := fun Y => VS (y11) Y) (by kernel_rfl) (show VS (y11) _ from ⟨rfl, rfl, rfl, Nat.le_refl _, fun _ _ => rfl⟩) (fun hS => ?_)
        (refine held_take (i := 0) (oi := ?ot29) (v := ?vt29) ?at29 (by kernel_rfl) (by kernel_rfl) (by kernel_rfl) ?bt29 ?ct29 ?dt29 (by assumption) ?rt29; (case at29 => (simp only [List.getElem?_toArray, List.getElem?_cons_zero]; rfl)); (case bt29 => exact fun _ _ _ h => h); (case ct29 => kernel_rfl); (case dt29 => (intro W hW; (try dsimp only at hW); go_split_ands; go_simp; (try with_reducible rfl))); (case' rt29 => simp only [Act.put, List.setIfInBounds_toArray, List.set_cons_zero, List.set_cons_succ]))
        (refine held_take (i := 2) (oi := ?ot30) (v := ?vt30) ?at30 (by kernel_rfl) (by kernel_rfl) (by kernel_rfl) ?bt30 ?ct30 ?dt30 (by assumption) ?rt30; (case at30 => (simp only [List.getElem?_toArray, List.getElem?_cons_zero, List.getElem?_cons_succ]; rfl)); (case bt30 => exact fun _ _ _ h => h); (case ct30 => kernel_rfl); (case dt30 => (intro W hW; (try dsimp only at hW); go_split_ands; go_simp; (try with_reducible rfl))); (case' rt30 => simp only [Act.put, List.setIfInBounds_toArray, List.set_cons_zero, List.set_cons_succ]))
        (refine held_take (i := 3) (oi := ?ot31) (v := ?vt31) ?at31 (by kernel_rfl) (by kernel_rfl) (by kernel_rfl) ?bt31 ?ct31 ?dt31 (by assumption) ?rt31; (case at31 => (simp only [List.getElem?_toArray, List.getElem?_cons_zero, List.getElem?_cons_succ]; rfl)); (case bt31 => exact fun _ _ _ h => h); (case ct31 => kernel_rfl); (case dt31 => (intro W hW; (try dsimp only at hW); go_split_ands; go_simp; (try with_reducible rfl))); (case' rt31 => simp only [Act.put, List.setIfInBounds_toArray, List.set_cons_zero, List.set_cons_succ]))
        (refine held_take (i := 4) (oi := ?ot32) (v := ?vt32) ?at32 (by kernel_rfl) (by kernel_rfl) (by kernel_rfl) ?bt32 ?ct32 ?dt32 (by assumption) ?rt32; (case at32 => (simp only [List.getElem?_toArray, List.getElem?_cons_zero, List.getElem?_cons_succ]; rfl)); (case bt32 => exact fun _ _ _ h => h); (case ct32 => kernel_rfl); (case dt32 => (intro W hW; (try dsimp only at hW); go_split_ands; go_simp; (try with_reducible rfl))); (case' rt32 => simp only [Act.put, List.setIfInBounds_toArray, List.set_cons_zero, List.set_cons_succ]))
        (refine held_take (i := 5) (oi := ?ot33) (v := .int .i64 (ct : Int)) ?at33 (by kernel_rfl) (by kernel_rfl) (by kernel_rfl) ?bt33 ?ct33 ?dt33 (by assumption) ?rt33; (case at33 => (simp only [List.getElem?_toArray, List.getElem?_cons_zero, List.getElem?_cons_succ]; rfl)); (case bt33 => exact fun _ _ _ h => h); (case ct33 => kernel_rfl); (case dt33 => (intro W hW; obtain ⟨b0, b1⟩ := HF.out W hW; clear hW; go_simp; (try with_reducible rfl))); (case' rt33 => simp only [Act.put, List.setIfInBounds_toArray, List.set_cons_zero, List.set_cons_succ]))
        refine held_one (i := 1) (oi := ?ot34) (by kernel_rfl) ?at34 ?ct34 (fun K1 hK1 => ?_)
        (case at34 => (simp only [List.getElem?_toArray, List.getElem?_cons_zero, List.getElem?_cons_succ]; rfl))
        (case ct34 => kernel_rfl)
        have hSb := hS
        go_simp
        refine (HWR.out _ hSb).mono ?_
        rintro e z1 ⟨rfl, rfl⟩
        refine hK1 _ _ hSb (fun hS1 => ?_)
        clear hS hSb hK1 K1
        (refine held_take (i := 6) (oi := ?ot35) (v := ?vt35) ?at35 (by kernel_rfl) (by kernel_rfl) (by kernel_rfl) ?bt35 ?ct35 ?dt35 (by assumption) ?rt35; (case at35 => (simp only [List.getElem?_toArray, List.getElem?_cons_zero, List.getElem?_cons_succ]; rfl)); (case bt35 => exact fun _ _ _ h => h); (case ct35 => kernel_rfl); (case dt35 => (intro W hW; (try dsimp only at hW); go_split_ands; go_simp; (try with_reducible rfl))); (case' rt35 => simp only [Act.put, List.setIfInBounds_toArray, List.set_cons_zero, List.set_cons_succ]))
        (refine held_take (i := 7) (oi := ?ot36) (v := ?vt36) ?at36 (by kernel_rfl) (by kernel_rfl) (by kernel_rfl) ?bt36 ?ct36 ?dt36 (by assumption) ?rt36; (case at36 => (simp only [List.getElem?_toArray, List.getElem?_cons_zero, List.getElem?_cons_succ]; rfl)); (case bt36 => exact fun _ _ _ h => h); (case ct36 => kernel_rfl); (case dt36 => (intro W hW; (try dsimp only at hW); go_split_ands; go_simp; (try with_reducible rfl))); (case' rt36 => simp only [Act.put, List.setIfInBounds_toArray, List.set_cons_zero, List.set_cons_succ]))
        (refine held_take (i := 8) (oi := ?ot37) (v := ?vt37) ?at37 (by kernel_rfl) (by kernel_rfl) (by kernel_rfl) ?bt37 ?ct37 ?dt37 (by assumption) ?rt37; (case at37 => (simp only [List.getElem?_toArray, List.getElem?_cons_zero, List.getElem?_cons_succ]; rfl)); (case bt37 => exact fun _ _ _ h => h); (case ct37 => kernel_rfl); (case dt37 => (intro W hW; (try dsimp only at hW); go_split_ands; go_simp; (try with_reducible rfl))); (case' rt37 => simp only [Act.put, List.setIfInBounds_toArray, List.set_cons_zero, List.set_cons_succ]))
        (refine held_take (i := 10) (oi := ?ot38) (v := ?vt38) ?at38 (by kernel_rfl) (by kernel_rfl) (by kernel_rfl) ?bt38 ?ct38 ?dt38 (by assumption) ?rt38; (case at38 => (simp only [List.getElem?_toArray, List.getElem?_cons_zero, List.getElem?_cons_succ]; rfl)); (case bt38 => exact fun _ _ _ h => h); (case ct38 => kernel_rfl); (case dt38 => (intro W hW; (try dsimp only at hW); go_split_ands; go_simp; (try with_reducible rfl))); (case' rt38 => simp only [Act.put, List.setIfInBounds_toArray, List.set_cons_zero, List.set_cons_succ]))
        (refine held_take (i := 11) (oi := ?ot39) (v := ?vt39) ?at39 (by kernel_rfl) (by kernel_rfl) (by kernel_rfl) ?bt39 ?ct39 ?dt39 (by assumption) ?rt39; (case at39 => (simp only [List.getElem?_toArray, List.getElem?_cons_zero, List.getElem?_cons_succ]; rfl)); (case bt39 => exact fun _ _ _ h => h); (case ct39 => kernel_rfl); (case dt39 => (intro W hW; (try dsimp only at hW); go_split_ands; go_simp; (try with_reducible rfl))); (case' rt39 => simp only [Act.put, List.setIfInBounds_toArray, List.set_cons_zero, List.set_cons_succ]))
        (refine held_take (i := 12) (oi := ?ot40) (v := ?vt40) ?at40 (by kernel_rfl) (by kernel_rfl) (by kernel_rfl) ?bt40 ?ct40 ?dt40 (by assumption) ?rt40; (case at40 => (simp only [List.getElem?_toArray, List.getElem?_cons_zero, List.getElem?_cons_succ]; rfl)); (case bt40 => exact fun _ _ _ h => h); (case ct40 => kernel_rfl); (case dt40 => (intro W hW; (try dsimp only at hW); go_split_ands; go_simp; (try with_reducible rfl))); (case' rt40 => simp only [Act.put, List.setIfInBounds_toArray, List.set_cons_zero, List.set_cons_succ]))
        (refine held_take (i := 13) (oi := ?ot41) (v := .bool bo) ?at41 (by kernel_rfl) (by kernel_rfl) (by kernel_rfl) ?bt41 ?ct41 ?dt41 (by assumption) ?rt41; (case at41 => (simp only [List.getElem?_toArray, List.getElem?_cons_zero, List.getElem?_cons_succ]; rfl)); (case bt41 => exact fun _ _ _ h => h); (case ct41 => kernel_rfl); (case dt41 => (intro W hW; obtain ⟨b0, b1⟩ := HF.out W hW; clear hW; go_simp; (try with_reducible rfl))); (case' rt41 => simp only [Act.put, List.setIfInBounds_toArray, List.set_cons_zero, List.set_cons_succ]))
        refine held_one (i := 9) (oi := ?ot42) (by kernel_rfl) ?at42 ?ct42 (fun K9 hK9 => ?_)
        (case at42 => (simp only [List.getElem?_toArray, List.getElem?_cons_zero, List.getElem?_cons_succ]; rfl))
        (case ct42 => kernel_rfl)
        have hSb := hS1
        go_simp
        refine (HDD.out _ hSb).mono ?_
        rintro e z9 ⟨rfl, rfl⟩
        refine hK9 _ _ hSb (fun hS9 => ?_)
        clear hS1 hSb hK9 K9
        (refine held_take (i := 14) (oi := ?ot43) (v := ?vt43) ?at43 (by kernel_rfl) (by kernel_rfl) (by kernel_rfl) ?bt43 ?ct43 ?dt43 (by assumption) ?rt43; (case at43 => (simp only [List.getElem?_toArray, List.getElem?_cons_zero, List.getElem?_cons_succ]; rfl)); (case bt43 => exact fun _ _ _ h => h); (case ct43 => kernel_rfl); (case dt43 => (intro W hW; (try dsimp only at hW); go_split_ands; go_simp; (try with_reducible rfl))); (case' rt43 => simp only [Act.put, List.setIfInBounds_toArray, List.set_cons_zero, List.set_cons_succ]))
        (refine held_take (i := 15) (oi := ?ot44) (v := ?vt44) ?at44 (by kernel_rfl) (by kernel_rfl) (by kernel_rfl) ?bt44 ?ct44 ?dt44 (by assumption) ?rt44; (case at44 => (simp only [List.getElem?_toArray, List.getElem?_cons_zero, List.getElem?_cons_succ]; rfl)); (case bt44 => exact fun _ _ _ h => h); (case ct44 => kernel_rfl); (case dt44 => (intro W hW; (try dsimp only at hW); go_split_ands; go_simp; (try with_reducible rfl))); (case' rt44 => simp only [Act.put, List.setIfInBounds_toArray, List.set_cons_zero, List.set_cons_succ]))
        refine wpAnyH_done (by kernel_rfl) ?_ _
        have HS := Lib.hid hS9
        clear hS9
        go_wp2
        go_roundw
        case rel => exact ⟨k + 1, s.wr xi xx, HK.out, by go_num, Lib.hid ⟨HT.out.1.under HS.out, HT.out.2.1.trans (HS.out.mono HT.out.2.1.size), HT.out.2.2.1, HT.out.2.2.2⟩⟩
        case measure => have := HK.out; simp [intOf]; omega
      have k0' : (xk == 0) = false := by simp [k0]
      by_cases k1 : xk = 1
      · subst k1
        have HT : Hid (TwoE V w.heap.size p r s ∧ Below w.heap.size w V ∧ s.cnt ≤ k + 1 ∧ s.ws.length = L) := Lib.hid ⟨⟨_, _, _, _, _, _, _, _, hTV⟩, hwV, by have := HCB.out.1; omega, HLS.out⟩
        obtain ⟨A9, d9, hu, hd9, _⟩ := hTV.nr.lay.form
        have hr0 := hTV.nr.blk.cellAt 0 rfl
        rw [hu, HLS.out] at hr0
        have HRD := Lib.hid (read_any hTV.nc xi)
        have hsl := HLS.out
        by_cases hin : 0 ≤ xi ∧ xi < (L : Int)
        · obtain ⟨z, rfl⟩ := Int.eq_ofNat_of_zero_le hin.1
          have hz : z < s.ws.length := by omega
          obtain ⟨g, d8, hu2, _, _, _, hcell, _⟩ := hTV.nr.lay.at hz
          obtain rfl : A9 = some ⟨g, 0, none⟩ := by
            rw [hu] at hu2
            injection hu2
          have HRD2 : Hid (Calls Try.prog 11 #[.pointer (some ⟨p, 0, none⟩), .int .i64 (z : Int)] V fun e w' => e = .returned (.tuple #[.int .u32 (num (s.ws.getD z 0)), .int .i64 0]) ∧ V = w') := by
            rw [rdV_at' hz] at HRD
            exact HRD
          obtain ⟨o, ho⟩ : ∃ o, o = s.ws.getD z 0 := ⟨_, rfl⟩
          rw [← ho] at HRD2 hcell
          have hzL : z < L := by omega
          have hzi : (z : Int) < (L : Int) := by omega
          have hzd : decide ((z : Int) < (L : Int)) = true := decide_eq_true hzi
          rw [hsl] at hd9
          clear hT hTV hwV hGl hHl hVB hbx hcb k0 hu hu2 HRD hsl hin hz ho
          go_upto_region 12 with fail
          rw [← HV.out]
          clear HV hc0 hc1 hc2 hq
          go_upto_region 20 with (go_at_call 11; refine HRD2.out.mono ?_; rintro e y1 ⟨rfl, rfl⟩)
          go_quiet (fail)
          rename Nat => n1
          go_upto_region 21 with fail
          go_quiet (fail)
          go_upto_region 23 with fail
          obtain ⟨y, hy⟩ : ∃ y, y = (V.drewN n1).drewN nq := ⟨_, rfl⟩
          rw [← hy]
          have HY : Hid (VS V y) := Lib.hid (by rw [hy]; exact ⟨rfl, rfl, rfl, Nat.le_refl _, fun _ _ => rfl⟩)
          clear hy
          clear hb0 hb1 hb2 hr0 hcell
          obtain ⟨G2, H2, v2, u2, A2, C2, c2, d2, h2⟩ := HT.out.1
          obtain ⟨ct, hct⟩ : ∃ ct, ct = (s).cnt := ⟨_, rfl⟩
          obtain ⟨bo, hbo⟩ : ∃ bo, bo = !(s).on := ⟨_, rfl⟩
          have HF : Hid (∀ Y, VS (V) Y → Y.cell? ⟨r, 2, none⟩ = some (.int .i64 (ct : Int)) ∧ Y.cell? ⟨r, 3, none⟩ = some (.bool bo)) := Lib.hid fun Y hY => by
            rw [hct, hbo]
            have hb := h2.nr.blk.under hY
            exact ⟨hb.cellAt 2 rfl, hb.cellAt 3 rfl⟩
          have HWR : Hid (∀ Y, VS (V) Y → Calls Try.prog 14 #[.pointer (some ⟨p, 0, none⟩)] Y fun e w' => e = .returned (.int .i64 (ct : Int)) ∧ Y = w') := Lib.hid fun Y hY => by rw [hct]; exact writes_any (h2.nc.under hY)
          have HDD : Hid (∀ Y, VS (V) Y → Calls Try.prog 15 #[.pointer (some ⟨p, 0, none⟩)] Y fun e w' => e = .returned (.bool bo) ∧ Y = w') := Lib.hid fun Y hY => by rw [hbo]; exact dead_any (h2.nc.under hY)
          clear h2 hct hbo
          refine wp_region_held_drew (S := fun Y => VS (V) Y) (by kernel_rfl) (show VS V y.drew from ⟨HY.out.1, HY.out.2, HY.out.3, HY.out.4, HY.out.5⟩) (fun hS => ?_)
          (refine held_take (i := 0) (oi := ?ot45) (v := ?vt45) ?at45 (by kernel_rfl) (by kernel_rfl) (by kernel_rfl) ?bt45 ?ct45 ?dt45 (by assumption) ?rt45; (case at45 => (simp only [List.getElem?_toArray, List.getElem?_cons_zero]; rfl)); (case bt45 => exact fun _ _ _ h => h); (case ct45 => kernel_rfl); (case dt45 => (intro W hW; (try dsimp only at hW); go_split_ands; go_simp; (try with_reducible rfl))); (case' rt45 => simp only [Act.put, List.setIfInBounds_toArray, List.set_cons_zero, List.set_cons_succ]))
          (refine held_take (i := 2) (oi := ?ot46) (v := ?vt46) ?at46 (by kernel_rfl) (by kernel_rfl) (by kernel_rfl) ?bt46 ?ct46 ?dt46 (by assumption) ?rt46; (case at46 => (simp only [List.getElem?_toArray, List.getElem?_cons_zero, List.getElem?_cons_succ]; rfl)); (case bt46 => exact fun _ _ _ h => h); (case ct46 => kernel_rfl); (case dt46 => (intro W hW; (try dsimp only at hW); go_split_ands; go_simp; (try with_reducible rfl))); (case' rt46 => simp only [Act.put, List.setIfInBounds_toArray, List.set_cons_zero, List.set_cons_succ]))
          (refine held_take (i := 3) (oi := ?ot47) (v := ?vt47) ?at47 (by kernel_rfl) (by kernel_rfl) (by kernel_rfl) ?bt47 ?ct47 ?dt47 (by assumption) ?rt47; (case at47 => (simp only [List.getElem?_toArray, List.getElem?_cons_zero, List.getElem?_cons_succ]; rfl)); (case bt47 => exact fun _ _ _ h => h); (case ct47 => kernel_rfl); (case dt47 => (intro W hW; (try dsimp only at hW); go_split_ands; go_simp; (try with_reducible rfl))); (case' rt47 => simp only [Act.put, List.setIfInBounds_toArray, List.set_cons_zero, List.set_cons_succ]))
          (refine held_take (i := 4) (oi := ?ot48) (v := ?vt48) ?at48 (by kernel_rfl) (by kernel_rfl) (by kernel_rfl) ?bt48 ?ct48 ?dt48 (by assumption) ?rt48; (case at48 => (simp only [List.getElem?_toArray, List.getElem?_cons_zero, List.getElem?_cons_succ]; rfl)); (case bt48 => exact fun _ _ _ h => h); (case ct48 => kernel_rfl); (case dt48 => (intro W hW; (try dsimp only at hW); go_split_ands; go_simp; (try with_reducible rfl))); (case' rt48 => simp only [Act.put, List.setIfInBounds_toArray, List.set_cons_zero, List.set_cons_succ]))
          (refine held_take (i := 5) (oi := ?ot49) (v := .int .i64 (ct : Int)) ?at49 (by kernel_rfl) (by kernel_rfl) (by kernel_rfl) ?bt49 ?ct49 ?dt49 (by assumption) ?rt49; (case at49 => (simp only [List.getElem?_toArray, List.getElem?_cons_zero, List.getElem?_cons_succ]; rfl)); (case bt49 => exact fun _ _ _ h => h); (case ct49 => kernel_rfl); (case dt49 => (intro W hW; obtain ⟨b0, b1⟩ := HF.out W hW; clear hW; go_simp; (try with_reducible rfl))); (case' rt49 => simp only [Act.put, List.setIfInBounds_toArray, List.set_cons_zero, List.set_cons_succ]))
          refine held_one (i := 1) (oi := ?ot50) (by kernel_rfl) ?at50 ?ct50 (fun K1 hK1 => ?_)
          (case at50 => (simp only [List.getElem?_toArray, List.getElem?_cons_zero, List.getElem?_cons_succ]; rfl))
          (case ct50 => kernel_rfl)
          have hSb := hS
          go_simp
          refine (HWR.out _ hSb).mono ?_
          rintro e z1 ⟨rfl, rfl⟩
          refine hK1 _ _ hSb (fun hS1 => ?_)
          clear hS hSb hK1 K1
          (refine held_take (i := 6) (oi := ?ot51) (v := ?vt51) ?at51 (by kernel_rfl) (by kernel_rfl) (by kernel_rfl) ?bt51 ?ct51 ?dt51 (by assumption) ?rt51; (case at51 => (simp only [List.getElem?_toArray, List.getElem?_cons_zero, List.getElem?_cons_succ]; rfl)); (case bt51 => exact fun _ _ _ h => h); (case ct51 => kernel_rfl); (case dt51 => (intro W hW; (try dsimp only at hW); go_split_ands; go_simp; (try with_reducible rfl))); (case' rt51 => simp only [Act.put, List.setIfInBounds_toArray, List.set_cons_zero, List.set_cons_succ]))
          (refine held_take (i := 7) (oi := ?ot52) (v := ?vt52) ?at52 (by kernel_rfl) (by kernel_rfl) (by kernel_rfl) ?bt52 ?ct52 ?dt52 (by assumption) ?rt52; (case at52 => (simp only [List.getElem?_toArray, List.getElem?_cons_zero, List.getElem?_cons_succ]; rfl)); (case bt52 => exact fun _ _ _ h => h); (case ct52 => kernel_rfl); (case dt52 => (intro W hW; (try dsimp only at hW); go_split_ands; go_simp; (try with_reducible rfl))); (case' rt52 => simp only [Act.put, List.setIfInBounds_toArray, List.set_cons_zero, List.set_cons_succ]))
          (refine held_take (i := 8) (oi := ?ot53) (v := ?vt53) ?at53 (by kernel_rfl) (by kernel_rfl) (by kernel_rfl) ?bt53 ?ct53 ?dt53 (by assumption) ?rt53; (case at53 => (simp only [List.getElem?_toArray, List.getElem?_cons_zero, List.getElem?_cons_succ]; rfl)); (case bt53 => exact fun _ _ _ h => h); (case ct53 => kernel_rfl); (case dt53 => (intro W hW; (try dsimp only at hW); go_split_ands; go_simp; (try with_reducible rfl))); (case' rt53 => simp only [Act.put, List.setIfInBounds_toArray, List.set_cons_zero, List.set_cons_succ]))
          (refine held_take (i := 10) (oi := ?ot54) (v := ?vt54) ?at54 (by kernel_rfl) (by kernel_rfl) (by kernel_rfl) ?bt54 ?ct54 ?dt54 (by assumption) ?rt54; (case at54 => (simp only [List.getElem?_toArray, List.getElem?_cons_zero, List.getElem?_cons_succ]; rfl)); (case bt54 => exact fun _ _ _ h => h); (case ct54 => kernel_rfl); (case dt54 => (intro W hW; (try dsimp only at hW); go_split_ands; go_simp; (try with_reducible rfl))); (case' rt54 => simp only [Act.put, List.setIfInBounds_toArray, List.set_cons_zero, List.set_cons_succ]))
          (refine held_take (i := 11) (oi := ?ot55) (v := ?vt55) ?at55 (by kernel_rfl) (by kernel_rfl) (by kernel_rfl) ?bt55 ?ct55 ?dt55 (by assumption) ?rt55; (case at55 => (simp only [List.getElem?_toArray, List.getElem?_cons_zero, List.getElem?_cons_succ]; rfl)); (case bt55 => exact fun _ _ _ h => h); (case ct55 => kernel_rfl); (case dt55 => (intro W hW; (try dsimp only at hW); go_split_ands; go_simp; (try with_reducible rfl))); (case' rt55 => simp only [Act.put, List.setIfInBounds_toArray, List.set_cons_zero, List.set_cons_succ]))
          (refine held_take (i := 12) (oi := ?ot56) (v := ?vt56) ?at56 (by kernel_rfl) (by kernel_rfl) (by kernel_rfl) ?bt56 ?ct56 ?dt56 (by assumption) ?rt56; (case at56 => (simp only [List.getElem?_toArray, List.getElem?_cons_zero, List.getElem?_cons_succ]; rfl)); (case bt56 => exact fun _ _ _ h => h); (case ct56 => kernel_rfl); (case dt56 => (intro W hW; (try dsimp only at hW); go_split_ands; go_simp; (try with_reducible rfl))); (case' rt56 => simp only [Act.put, List.setIfInBounds_toArray, List.set_cons_zero, List.set_cons_succ]))
          (refine held_take (i := 13) (oi := ?ot57) (v := .bool bo) ?at57 (by kernel_rfl) (by kernel_rfl) (by kernel_rfl) ?bt57 ?ct57 ?dt57 (by assumption) ?rt57; (case at57 => (simp only [List.getElem?_toArray, List.getElem?_cons_zero, List.getElem?_cons_succ]; rfl)); (case bt57 => exact fun _ _ _ h => h); (case ct57 => kernel_rfl); (case dt57 => (intro W hW; obtain ⟨b0, b1⟩ := HF.out W hW; clear hW; go_simp; (try with_reducible rfl))); (case' rt57 => simp only [Act.put, List.setIfInBounds_toArray, List.set_cons_zero, List.set_cons_succ]))
          refine held_one (i := 9) (oi := ?ot58) (by kernel_rfl) ?at58 ?ct58 (fun K9 hK9 => ?_)
          (case at58 => (simp only [List.getElem?_toArray, List.getElem?_cons_zero, List.getElem?_cons_succ]; rfl))
          (case ct58 => kernel_rfl)
          have hSb := hS1
          go_simp
          refine (HDD.out _ hSb).mono ?_
          rintro e z9 ⟨rfl, rfl⟩
          refine hK9 _ _ hSb (fun hS9 => ?_)
          clear hS1 hSb hK9 K9
          (refine held_take (i := 14) (oi := ?ot59) (v := ?vt59) ?at59 (by kernel_rfl) (by kernel_rfl) (by kernel_rfl) ?bt59 ?ct59 ?dt59 (by assumption) ?rt59; (case at59 => (simp only [List.getElem?_toArray, List.getElem?_cons_zero, List.getElem?_cons_succ]; rfl)); (case bt59 => exact fun _ _ _ h => h); (case ct59 => kernel_rfl); (case dt59 => (intro W hW; (try dsimp only at hW); go_split_ands; go_simp; (try with_reducible rfl))); (case' rt59 => simp only [Act.put, List.setIfInBounds_toArray, List.set_cons_zero, List.set_cons_succ]))
          (refine held_take (i := 15) (oi := ?ot60) (v := ?vt60) ?at60 (by kernel_rfl) (by kernel_rfl) (by kernel_rfl) ?bt60 ?ct60 ?dt60 (by assumption) ?rt60; (case at60 => (simp only [List.getElem?_toArray, List.getElem?_cons_zero, List.getElem?_cons_succ]; rfl)); (case bt60 => exact fun _ _ _ h => h); (case ct60 => kernel_rfl); (case dt60 => (intro W hW; (try dsimp only at hW); go_split_ands; go_simp; (try with_reducible rfl))); (case' rt60 => simp only [Act.put, List.setIfInBounds_toArray, List.set_cons_zero, List.set_cons_succ]))
          refine wpAnyH_done (by kernel_rfl) ?_ _
          have HS := Lib.hid hS9
          clear hS9
          go_wp2
          go_roundw
          case rel => exact ⟨k + 1, s, HK.out, by go_num, Lib.hid ⟨HT.out.1.under HS.out, HT.out.2.1.trans (HS.out.mono HT.out.2.1.size), HT.out.2.2.1, HT.out.2.2.2⟩⟩
          case measure => have := HK.out; simp [intOf]; omega
        · have HRD2 : Hid (Calls Try.prog 11 #[.pointer (some ⟨p, 0, none⟩), .int .i64 xi] V fun e w' => e = .returned (.tuple #[.int .u32 0, .int .i64 1]) ∧ V = w') := by
            rw [rdV_no' (by rw [hsl]; exact hin)] at HRD
            exact HRD
          by_cases hneg : xi < 0
          · have hneg2 : ¬ (0 ≤ xi) := by omega
            have hneg3 : decide (0 ≤ xi) = false := decide_eq_false hneg2
            clear hT hTV hwV hGl hHl hVB hbx hcb k0 hu HRD hsl hin hd9
            go_upto_region 12 with fail
            rw [← HV.out]
            clear HV hc0 hc1 hc2 hq
            go_upto_region 20 with (go_at_call 11; refine HRD2.out.mono ?_; rintro e y1 ⟨rfl, rfl⟩)
            go_quiet (fail)
            rename Nat => n1
            go_upto_region 21 with fail
            go_quiet (fail)
            go_upto_region 23 with fail
            obtain ⟨y, hy⟩ : ∃ y, y = (V.drewN n1).drewN nq := ⟨_, rfl⟩
            rw [← hy]
            have HY : Hid (VS V y) := Lib.hid (by rw [hy]; exact ⟨rfl, rfl, rfl, Nat.le_refl _, fun _ _ => rfl⟩)
            clear hy
            clear hb0 hb1 hb2 hr0
            obtain ⟨G2, H2, v2, u2, A2, C2, c2, d2, h2⟩ := HT.out.1
            obtain ⟨ct, hct⟩ : ∃ ct, ct = (s).cnt := ⟨_, rfl⟩
            obtain ⟨bo, hbo⟩ : ∃ bo, bo = !(s).on := ⟨_, rfl⟩
            have HF : Hid (∀ Y, VS (V) Y → Y.cell? ⟨r, 2, none⟩ = some (.int .i64 (ct : Int)) ∧ Y.cell? ⟨r, 3, none⟩ = some (.bool bo)) := Lib.hid fun Y hY => by
              rw [hct, hbo]
              have hb := h2.nr.blk.under hY
              exact ⟨hb.cellAt 2 rfl, hb.cellAt 3 rfl⟩
            have HWR : Hid (∀ Y, VS (V) Y → Calls Try.prog 14 #[.pointer (some ⟨p, 0, none⟩)] Y fun e w' => e = .returned (.int .i64 (ct : Int)) ∧ Y = w') := Lib.hid fun Y hY => by rw [hct]; exact writes_any (h2.nc.under hY)
            have HDD : Hid (∀ Y, VS (V) Y → Calls Try.prog 15 #[.pointer (some ⟨p, 0, none⟩)] Y fun e w' => e = .returned (.bool bo) ∧ Y = w') := Lib.hid fun Y hY => by rw [hbo]; exact dead_any (h2.nc.under hY)
            clear h2 hct hbo
            refine wp_region_held_drew (S := fun Y => VS (V) Y) (by kernel_rfl) (show VS V y.drew from ⟨HY.out.1, HY.out.2, HY.out.3, HY.out.4, HY.out.5⟩) (fun hS => ?_)
            (refine held_take (i := 0) (oi := ?ot61) (v := ?vt61) ?at61 (by kernel_rfl) (by kernel_rfl) (by kernel_rfl) ?bt61 ?ct61 ?dt61 (by assumption) ?rt61; (case at61 => (simp only [List.getElem?_toArray, List.getElem?_cons_zero]; rfl)); (case bt61 => exact fun _ _ _ h => h); (case ct61 => kernel_rfl); (case dt61 => (intro W hW; (try dsimp only at hW); go_split_ands; go_simp; (try with_reducible rfl))); (case' rt61 => simp only [Act.put, List.setIfInBounds_toArray, List.set_cons_zero, List.set_cons_succ]))
            (refine held_take (i := 2) (oi := ?ot62) (v := ?vt62) ?at62 (by kernel_rfl) (by kernel_rfl) (by kernel_rfl) ?bt62 ?ct62 ?dt62 (by assumption) ?rt62; (case at62 => (simp only [List.getElem?_toArray, List.getElem?_cons_zero, List.getElem?_cons_succ]; rfl)); (case bt62 => exact fun _ _ _ h => h); (case ct62 => kernel_rfl); (case dt62 => (intro W hW; (try dsimp only at hW); go_split_ands; go_simp; (try with_reducible rfl))); (case' rt62 => simp only [Act.put, List.setIfInBounds_toArray, List.set_cons_zero, List.set_cons_succ]))
            (refine held_take (i := 3) (oi := ?ot63) (v := ?vt63) ?at63 (by kernel_rfl) (by kernel_rfl) (by kernel_rfl) ?bt63 ?ct63 ?dt63 (by assumption) ?rt63; (case at63 => (simp only [List.getElem?_toArray, List.getElem?_cons_zero, List.getElem?_cons_succ]; rfl)); (case bt63 => exact fun _ _ _ h => h); (case ct63 => kernel_rfl); (case dt63 => (intro W hW; (try dsimp only at hW); go_split_ands; go_simp; (try with_reducible rfl))); (case' rt63 => simp only [Act.put, List.setIfInBounds_toArray, List.set_cons_zero, List.set_cons_succ]))
            (refine held_take (i := 4) (oi := ?ot64) (v := ?vt64) ?at64 (by kernel_rfl) (by kernel_rfl) (by kernel_rfl) ?bt64 ?ct64 ?dt64 (by assumption) ?rt64; (case at64 => (simp only [List.getElem?_toArray, List.getElem?_cons_zero, List.getElem?_cons_succ]; rfl)); (case bt64 => exact fun _ _ _ h => h); (case ct64 => kernel_rfl); (case dt64 => (intro W hW; (try dsimp only at hW); go_split_ands; go_simp; (try with_reducible rfl))); (case' rt64 => simp only [Act.put, List.setIfInBounds_toArray, List.set_cons_zero, List.set_cons_succ]))
            (refine held_take (i := 5) (oi := ?ot65) (v := .int .i64 (ct : Int)) ?at65 (by kernel_rfl) (by kernel_rfl) (by kernel_rfl) ?bt65 ?ct65 ?dt65 (by assumption) ?rt65; (case at65 => (simp only [List.getElem?_toArray, List.getElem?_cons_zero, List.getElem?_cons_succ]; rfl)); (case bt65 => exact fun _ _ _ h => h); (case ct65 => kernel_rfl); (case dt65 => (intro W hW; obtain ⟨b0, b1⟩ := HF.out W hW; clear hW; go_simp; (try with_reducible rfl))); (case' rt65 => simp only [Act.put, List.setIfInBounds_toArray, List.set_cons_zero, List.set_cons_succ]))
            refine held_one (i := 1) (oi := ?ot66) (by kernel_rfl) ?at66 ?ct66 (fun K1 hK1 => ?_)
            (case at66 => (simp only [List.getElem?_toArray, List.getElem?_cons_zero, List.getElem?_cons_succ]; rfl))
            (case ct66 => kernel_rfl)
            have hSb := hS
            go_simp
            refine (HWR.out _ hSb).mono ?_
            rintro e z1 ⟨rfl, rfl⟩
            refine hK1 _ _ hSb (fun hS1 => ?_)
            clear hS hSb hK1 K1
            (refine held_take (i := 6) (oi := ?ot67) (v := ?vt67) ?at67 (by kernel_rfl) (by kernel_rfl) (by kernel_rfl) ?bt67 ?ct67 ?dt67 (by assumption) ?rt67; (case at67 => (simp only [List.getElem?_toArray, List.getElem?_cons_zero, List.getElem?_cons_succ]; rfl)); (case bt67 => exact fun _ _ _ h => h); (case ct67 => kernel_rfl); (case dt67 => (intro W hW; (try dsimp only at hW); go_split_ands; go_simp; (try with_reducible rfl))); (case' rt67 => simp only [Act.put, List.setIfInBounds_toArray, List.set_cons_zero, List.set_cons_succ]))
            (refine held_take (i := 7) (oi := ?ot68) (v := ?vt68) ?at68 (by kernel_rfl) (by kernel_rfl) (by kernel_rfl) ?bt68 ?ct68 ?dt68 (by assumption) ?rt68; (case at68 => (simp only [List.getElem?_toArray, List.getElem?_cons_zero, List.getElem?_cons_succ]; rfl)); (case bt68 => exact fun _ _ _ h => h); (case ct68 => kernel_rfl); (case dt68 => (intro W hW; (try dsimp only at hW); go_split_ands; go_simp; (try with_reducible rfl))); (case' rt68 => simp only [Act.put, List.setIfInBounds_toArray, List.set_cons_zero, List.set_cons_succ]))
            (refine held_take (i := 8) (oi := ?ot69) (v := ?vt69) ?at69 (by kernel_rfl) (by kernel_rfl) (by kernel_rfl) ?bt69 ?ct69 ?dt69 (by assumption) ?rt69; (case at69 => (simp only [List.getElem?_toArray, List.getElem?_cons_zero, List.getElem?_cons_succ]; rfl)); (case bt69 => exact fun _ _ _ h => h); (case ct69 => kernel_rfl); (case dt69 => (intro W hW; (try dsimp only at hW); go_split_ands; go_simp; (try with_reducible rfl))); (case' rt69 => simp only [Act.put, List.setIfInBounds_toArray, List.set_cons_zero, List.set_cons_succ]))
            (refine held_take (i := 10) (oi := ?ot70) (v := ?vt70) ?at70 (by kernel_rfl) (by kernel_rfl) (by kernel_rfl) ?bt70 ?ct70 ?dt70 (by assumption) ?rt70; (case at70 => (simp only [List.getElem?_toArray, List.getElem?_cons_zero, List.getElem?_cons_succ]; rfl)); (case bt70 => exact fun _ _ _ h => h); (case ct70 => kernel_rfl); (case dt70 => (intro W hW; (try dsimp only at hW); go_split_ands; go_simp; (try with_reducible rfl))); (case' rt70 => simp only [Act.put, List.setIfInBounds_toArray, List.set_cons_zero, List.set_cons_succ]))
            (refine held_take (i := 11) (oi := ?ot71) (v := ?vt71) ?at71 (by kernel_rfl) (by kernel_rfl) (by kernel_rfl) ?bt71 ?ct71 ?dt71 (by assumption) ?rt71; (case at71 => (simp only [List.getElem?_toArray, List.getElem?_cons_zero, List.getElem?_cons_succ]; rfl)); (case bt71 => exact fun _ _ _ h => h); (case ct71 => kernel_rfl); (case dt71 => (intro W hW; (try dsimp only at hW); go_split_ands; go_simp; (try with_reducible rfl))); (case' rt71 => simp only [Act.put, List.setIfInBounds_toArray, List.set_cons_zero, List.set_cons_succ]))
            (refine held_take (i := 12) (oi := ?ot72) (v := ?vt72) ?at72 (by kernel_rfl) (by kernel_rfl) (by kernel_rfl) ?bt72 ?ct72 ?dt72 (by assumption) ?rt72; (case at72 => (simp only [List.getElem?_toArray, List.getElem?_cons_zero, List.getElem?_cons_succ]; rfl)); (case bt72 => exact fun _ _ _ h => h); (case ct72 => kernel_rfl); (case dt72 => (intro W hW; (try dsimp only at hW); go_split_ands; go_simp; (try with_reducible rfl))); (case' rt72 => simp only [Act.put, List.setIfInBounds_toArray, List.set_cons_zero, List.set_cons_succ]))
            (refine held_take (i := 13) (oi := ?ot73) (v := .bool bo) ?at73 (by kernel_rfl) (by kernel_rfl) (by kernel_rfl) ?bt73 ?ct73 ?dt73 (by assumption) ?rt73; (case at73 => (simp only [List.getElem?_toArray, List.getElem?_cons_zero, List.getElem?_cons_succ]; rfl)); (case bt73 => exact fun _ _ _ h => h); (case ct73 => kernel_rfl); (case dt73 => (intro W hW; obtain ⟨b0, b1⟩ := HF.out W hW; clear hW; go_simp; (try with_reducible rfl))); (case' rt73 => simp only [Act.put, List.setIfInBounds_toArray, List.set_cons_zero, List.set_cons_succ]))
            refine held_one (i := 9) (oi := ?ot74) (by kernel_rfl) ?at74 ?ct74 (fun K9 hK9 => ?_)
            (case at74 => (simp only [List.getElem?_toArray, List.getElem?_cons_zero, List.getElem?_cons_succ]; rfl))
            (case ct74 => kernel_rfl)
            have hSb := hS1
            go_simp
            refine (HDD.out _ hSb).mono ?_
            rintro e z9 ⟨rfl, rfl⟩
            refine hK9 _ _ hSb (fun hS9 => ?_)
            clear hS1 hSb hK9 K9
            (refine held_take (i := 14) (oi := ?ot75) (v := ?vt75) ?at75 (by kernel_rfl) (by kernel_rfl) (by kernel_rfl) ?bt75 ?ct75 ?dt75 (by assumption) ?rt75; (case at75 => (simp only [List.getElem?_toArray, List.getElem?_cons_zero, List.getElem?_cons_succ]; rfl)); (case bt75 => exact fun _ _ _ h => h); (case ct75 => kernel_rfl); (case dt75 => (intro W hW; (try dsimp only at hW); go_split_ands; go_simp; (try with_reducible rfl))); (case' rt75 => simp only [Act.put, List.setIfInBounds_toArray, List.set_cons_zero, List.set_cons_succ]))
            (refine held_take (i := 15) (oi := ?ot76) (v := ?vt76) ?at76 (by kernel_rfl) (by kernel_rfl) (by kernel_rfl) ?bt76 ?ct76 ?dt76 (by assumption) ?rt76; (case at76 => (simp only [List.getElem?_toArray, List.getElem?_cons_zero, List.getElem?_cons_succ]; rfl)); (case bt76 => exact fun _ _ _ h => h); (case ct76 => kernel_rfl); (case dt76 => (intro W hW; (try dsimp only at hW); go_split_ands; go_simp; (try with_reducible rfl))); (case' rt76 => simp only [Act.put, List.setIfInBounds_toArray, List.set_cons_zero, List.set_cons_succ]))
            refine wpAnyH_done (by kernel_rfl) ?_ _
            have HS := Lib.hid hS9
            clear hS9
            go_wp2
            go_roundw
            case rel => exact ⟨k + 1, s, HK.out, by go_num, Lib.hid ⟨HT.out.1.under HS.out, HT.out.2.1.trans (HS.out.mono HT.out.2.1.size), HT.out.2.2.1, HT.out.2.2.2⟩⟩
            case measure => have := HK.out; simp [intOf]; omega
          · have hneg2 : 0 ≤ xi := by omega
            have hge : ¬ (xi < (L : Int)) := by omega
            have hged : decide (xi < (L : Int)) = false := decide_eq_false hge
            clear hT hTV hwV hGl hHl hVB hbx hcb k0 hu HRD hsl hin hd9
            go_upto_region 12 with fail
            rw [← HV.out]
            clear HV hc0 hc1 hc2 hq
            go_upto_region 20 with (go_at_call 11; refine HRD2.out.mono ?_; rintro e y1 ⟨rfl, rfl⟩)
            go_quiet (fail)
            rename Nat => n1
            go_upto_region 21 with fail
            go_quiet (fail)
            go_upto_region 23 with fail
            obtain ⟨y, hy⟩ : ∃ y, y = (V.drewN n1).drewN nq := ⟨_, rfl⟩
            rw [← hy]
            have HY : Hid (VS V y) := Lib.hid (by rw [hy]; exact ⟨rfl, rfl, rfl, Nat.le_refl _, fun _ _ => rfl⟩)
            clear hy
            clear hb0 hb1 hb2 hr0
            obtain ⟨G2, H2, v2, u2, A2, C2, c2, d2, h2⟩ := HT.out.1
            obtain ⟨ct, hct⟩ : ∃ ct, ct = (s).cnt := ⟨_, rfl⟩
            obtain ⟨bo, hbo⟩ : ∃ bo, bo = !(s).on := ⟨_, rfl⟩
            have HF : Hid (∀ Y, VS (V) Y → Y.cell? ⟨r, 2, none⟩ = some (.int .i64 (ct : Int)) ∧ Y.cell? ⟨r, 3, none⟩ = some (.bool bo)) := Lib.hid fun Y hY => by
              rw [hct, hbo]
              have hb := h2.nr.blk.under hY
              exact ⟨hb.cellAt 2 rfl, hb.cellAt 3 rfl⟩
            have HWR : Hid (∀ Y, VS (V) Y → Calls Try.prog 14 #[.pointer (some ⟨p, 0, none⟩)] Y fun e w' => e = .returned (.int .i64 (ct : Int)) ∧ Y = w') := Lib.hid fun Y hY => by rw [hct]; exact writes_any (h2.nc.under hY)
            have HDD : Hid (∀ Y, VS (V) Y → Calls Try.prog 15 #[.pointer (some ⟨p, 0, none⟩)] Y fun e w' => e = .returned (.bool bo) ∧ Y = w') := Lib.hid fun Y hY => by rw [hbo]; exact dead_any (h2.nc.under hY)
            clear h2 hct hbo
            refine wp_region_held_drew (S := fun Y => VS (V) Y) (by kernel_rfl) (show VS V y.drew from ⟨HY.out.1, HY.out.2, HY.out.3, HY.out.4, HY.out.5⟩) (fun hS => ?_)
            (refine held_take (i := 0) (oi := ?ot77) (v := ?vt77) ?at77 (by kernel_rfl) (by kernel_rfl) (by kernel_rfl) ?bt77 ?ct77 ?dt77 (by assumption) ?rt77; (case at77 => (simp only [List.getElem?_toArray, List.getElem?_cons_zero]; rfl)); (case bt77 => exact fun _ _ _ h => h); (case ct77 => kernel_rfl); (case dt77 => (intro W hW; (try dsimp only at hW); go_split_ands; go_simp; (try with_reducible rfl))); (case' rt77 => simp only [Act.put, List.setIfInBounds_toArray, List.set_cons_zero, List.set_cons_succ]))
            (refine held_take (i := 2) (oi := ?ot78) (v := ?vt78) ?at78 (by kernel_rfl) (by kernel_rfl) (by kernel_rfl) ?bt78 ?ct78 ?dt78 (by assumption) ?rt78; (case at78 => (simp only [List.getElem?_toArray, List.getElem?_cons_zero, List.getElem?_cons_succ]; rfl)); (case bt78 => exact fun _ _ _ h => h); (case ct78 => kernel_rfl); (case dt78 => (intro W hW; (try dsimp only at hW); go_split_ands; go_simp; (try with_reducible rfl))); (case' rt78 => simp only [Act.put, List.setIfInBounds_toArray, List.set_cons_zero, List.set_cons_succ]))
            (refine held_take (i := 3) (oi := ?ot79) (v := ?vt79) ?at79 (by kernel_rfl) (by kernel_rfl) (by kernel_rfl) ?bt79 ?ct79 ?dt79 (by assumption) ?rt79; (case at79 => (simp only [List.getElem?_toArray, List.getElem?_cons_zero, List.getElem?_cons_succ]; rfl)); (case bt79 => exact fun _ _ _ h => h); (case ct79 => kernel_rfl); (case dt79 => (intro W hW; (try dsimp only at hW); go_split_ands; go_simp; (try with_reducible rfl))); (case' rt79 => simp only [Act.put, List.setIfInBounds_toArray, List.set_cons_zero, List.set_cons_succ]))
            (refine held_take (i := 4) (oi := ?ot80) (v := ?vt80) ?at80 (by kernel_rfl) (by kernel_rfl) (by kernel_rfl) ?bt80 ?ct80 ?dt80 (by assumption) ?rt80; (case at80 => (simp only [List.getElem?_toArray, List.getElem?_cons_zero, List.getElem?_cons_succ]; rfl)); (case bt80 => exact fun _ _ _ h => h); (case ct80 => kernel_rfl); (case dt80 => (intro W hW; (try dsimp only at hW); go_split_ands; go_simp; (try with_reducible rfl))); (case' rt80 => simp only [Act.put, List.setIfInBounds_toArray, List.set_cons_zero, List.set_cons_succ]))
            (refine held_take (i := 5) (oi := ?ot81) (v := .int .i64 (ct : Int)) ?at81 (by kernel_rfl) (by kernel_rfl) (by kernel_rfl) ?bt81 ?ct81 ?dt81 (by assumption) ?rt81; (case at81 => (simp only [List.getElem?_toArray, List.getElem?_cons_zero, List.getElem?_cons_succ]; rfl)); (case bt81 => exact fun _ _ _ h => h); (case ct81 => kernel_rfl); (case dt81 => (intro W hW; obtain ⟨b0, b1⟩ := HF.out W hW; clear hW; go_simp; (try with_reducible rfl))); (case' rt81 => simp only [Act.put, List.setIfInBounds_toArray, List.set_cons_zero, List.set_cons_succ]))
            refine held_one (i := 1) (oi := ?ot82) (by kernel_rfl) ?at82 ?ct82 (fun K1 hK1 => ?_)
            (case at82 => (simp only [List.getElem?_toArray, List.getElem?_cons_zero, List.getElem?_cons_succ]; rfl))
            (case ct82 => kernel_rfl)
            have hSb := hS
            go_simp
            refine (HWR.out _ hSb).mono ?_
            rintro e z1 ⟨rfl, rfl⟩
            refine hK1 _ _ hSb (fun hS1 => ?_)
            clear hS hSb hK1 K1
            (refine held_take (i := 6) (oi := ?ot83) (v := ?vt83) ?at83 (by kernel_rfl) (by kernel_rfl) (by kernel_rfl) ?bt83 ?ct83 ?dt83 (by assumption) ?rt83; (case at83 => (simp only [List.getElem?_toArray, List.getElem?_cons_zero, List.getElem?_cons_succ]; rfl)); (case bt83 => exact fun _ _ _ h => h); (case ct83 => kernel_rfl); (case dt83 => (intro W hW; (try dsimp only at hW); go_split_ands; go_simp; (try with_reducible rfl))); (case' rt83 => simp only [Act.put, List.setIfInBounds_toArray, List.set_cons_zero, List.set_cons_succ]))
            (refine held_take (i := 7) (oi := ?ot84) (v := ?vt84) ?at84 (by kernel_rfl) (by kernel_rfl) (by kernel_rfl) ?bt84 ?ct84 ?dt84 (by assumption) ?rt84; (case at84 => (simp only [List.getElem?_toArray, List.getElem?_cons_zero, List.getElem?_cons_succ]; rfl)); (case bt84 => exact fun _ _ _ h => h); (case ct84 => kernel_rfl); (case dt84 => (intro W hW; (try dsimp only at hW); go_split_ands; go_simp; (try with_reducible rfl))); (case' rt84 => simp only [Act.put, List.setIfInBounds_toArray, List.set_cons_zero, List.set_cons_succ]))
            (refine held_take (i := 8) (oi := ?ot85) (v := ?vt85) ?at85 (by kernel_rfl) (by kernel_rfl) (by kernel_rfl) ?bt85 ?ct85 ?dt85 (by assumption) ?rt85; (case at85 => (simp only [List.getElem?_toArray, List.getElem?_cons_zero, List.getElem?_cons_succ]; rfl)); (case bt85 => exact fun _ _ _ h => h); (case ct85 => kernel_rfl); (case dt85 => (intro W hW; (try dsimp only at hW); go_split_ands; go_simp; (try with_reducible rfl))); (case' rt85 => simp only [Act.put, List.setIfInBounds_toArray, List.set_cons_zero, List.set_cons_succ]))
            (refine held_take (i := 10) (oi := ?ot86) (v := ?vt86) ?at86 (by kernel_rfl) (by kernel_rfl) (by kernel_rfl) ?bt86 ?ct86 ?dt86 (by assumption) ?rt86; (case at86 => (simp only [List.getElem?_toArray, List.getElem?_cons_zero, List.getElem?_cons_succ]; rfl)); (case bt86 => exact fun _ _ _ h => h); (case ct86 => kernel_rfl); (case dt86 => (intro W hW; (try dsimp only at hW); go_split_ands; go_simp; (try with_reducible rfl))); (case' rt86 => simp only [Act.put, List.setIfInBounds_toArray, List.set_cons_zero, List.set_cons_succ]))
            (refine held_take (i := 11) (oi := ?ot87) (v := ?vt87) ?at87 (by kernel_rfl) (by kernel_rfl) (by kernel_rfl) ?bt87 ?ct87 ?dt87 (by assumption) ?rt87; (case at87 => (simp only [List.getElem?_toArray, List.getElem?_cons_zero, List.getElem?_cons_succ]; rfl)); (case bt87 => exact fun _ _ _ h => h); (case ct87 => kernel_rfl); (case dt87 => (intro W hW; (try dsimp only at hW); go_split_ands; go_simp; (try with_reducible rfl))); (case' rt87 => simp only [Act.put, List.setIfInBounds_toArray, List.set_cons_zero, List.set_cons_succ]))
            (refine held_take (i := 12) (oi := ?ot88) (v := ?vt88) ?at88 (by kernel_rfl) (by kernel_rfl) (by kernel_rfl) ?bt88 ?ct88 ?dt88 (by assumption) ?rt88; (case at88 => (simp only [List.getElem?_toArray, List.getElem?_cons_zero, List.getElem?_cons_succ]; rfl)); (case bt88 => exact fun _ _ _ h => h); (case ct88 => kernel_rfl); (case dt88 => (intro W hW; (try dsimp only at hW); go_split_ands; go_simp; (try with_reducible rfl))); (case' rt88 => simp only [Act.put, List.setIfInBounds_toArray, List.set_cons_zero, List.set_cons_succ]))
            (refine held_take (i := 13) (oi := ?ot89) (v := .bool bo) ?at89 (by kernel_rfl) (by kernel_rfl) (by kernel_rfl) ?bt89 ?ct89 ?dt89 (by assumption) ?rt89; (case at89 => (simp only [List.getElem?_toArray, List.getElem?_cons_zero, List.getElem?_cons_succ]; rfl)); (case bt89 => exact fun _ _ _ h => h); (case ct89 => kernel_rfl); (case dt89 => (intro W hW; obtain ⟨b0, b1⟩ := HF.out W hW; clear hW; go_simp; (try with_reducible rfl))); (case' rt89 => simp only [Act.put, List.setIfInBounds_toArray, List.set_cons_zero, List.set_cons_succ]))
            refine held_one (i := 9) (oi := ?ot90) (by kernel_rfl) ?at90 ?ct90 (fun K9 hK9 => ?_)
            (case at90 => (simp only [List.getElem?_toArray, List.getElem?_cons_zero, List.getElem?_cons_succ]; rfl))
            (case ct90 => kernel_rfl)
            have hSb := hS1
            go_simp
            refine (HDD.out _ hSb).mono ?_
            rintro e z9 ⟨rfl, rfl⟩
            refine hK9 _ _ hSb (fun hS9 => ?_)
            clear hS1 hSb hK9 K9
            (refine held_take (i := 14) (oi := ?ot91) (v := ?vt91) ?at91 (by kernel_rfl) (by kernel_rfl) (by kernel_rfl) ?bt91 ?ct91 ?dt91 (by assumption) ?rt91; (case at91 => (simp only [List.getElem?_toArray, List.getElem?_cons_zero, List.getElem?_cons_succ]; rfl)); (case bt91 => exact fun _ _ _ h => h); (case ct91 => kernel_rfl); (case dt91 => (intro W hW; (try dsimp only at hW); go_split_ands; go_simp; (try with_reducible rfl))); (case' rt91 => simp only [Act.put, List.setIfInBounds_toArray, List.set_cons_zero, List.set_cons_succ]))
            (refine held_take (i := 15) (oi := ?ot92) (v := ?vt92) ?at92 (by kernel_rfl) (by kernel_rfl) (by kernel_rfl) ?bt92 ?ct92 ?dt92 (by assumption) ?rt92; (case at92 => (simp only [List.getElem?_toArray, List.getElem?_cons_zero, List.getElem?_cons_succ]; rfl)); (case bt92 => exact fun _ _ _ h => h); (case ct92 => kernel_rfl); (case dt92 => (intro W hW; (try dsimp only at hW); go_split_ands; go_simp; (try with_reducible rfl))); (case' rt92 => simp only [Act.put, List.setIfInBounds_toArray, List.set_cons_zero, List.set_cons_succ]))
            refine wpAnyH_done (by kernel_rfl) ?_ _
            have HS := Lib.hid hS9
            clear hS9
            go_wp2
            go_roundw
            case rel => exact ⟨k + 1, s, HK.out, by go_num, Lib.hid ⟨HT.out.1.under HS.out, HT.out.2.1.trans (HS.out.mono HT.out.2.1.size), HT.out.2.2.1, HT.out.2.2.2⟩⟩
            case measure => have := HK.out; simp [intOf]; omega
      have k1' : (xk == 1) = false := by simp [k1]
      have HCO : Hid (Calls Try.prog 12 #[.pointer (some ⟨p, 0, none⟩)] V fun e y1 => e = .returned (.tuple #[]) ∧ Hid (Calls Try.prog 13 #[.pointer (some ⟨r, 0, none⟩)] y1 fun e y2 => e = .returned (.tuple #[]) ∧ Hid (TwoE y2 w.heap.size p r s.boot ∧ Below w.heap.size w y2 ∧ s.boot.cnt ≤ k + 1 ∧ s.boot.ws.length = L))) := Lib.hid (by
        refine hTV.reboot_any.mono ?_
        rintro e y1 ⟨rfl, t1, h2⟩
        refine ⟨rfl, Lib.hid (h2.mono ?_)⟩
        rintro e y2 ⟨rfl, t2, hE2⟩
        exact ⟨rfl, Lib.hid ⟨hE2, hTV.below hwV (Nat.le_refl _) t1 t2, Nat.zero_le _, HLS.out⟩⟩)
      clear hT hTV hwV hGl hHl hVB hbx hcb
      go_upto_region 12 with fail
      rw [← HV.out]
      clear HV hc0 hc1 hc2 hq
      go_upto_region 23 with (first
        | (go_at_call 12; refine HCO.out.mono ?_; rintro e y1 ⟨rfl, H5⟩)
        | (go_at_call 13; refine H5.out.mono ?_; rintro e y2 ⟨rfl, HT⟩; clear hb0 hb1 hb2))
      obtain ⟨G2, H2, v2, u2, A2, C2, c2, d2, h2⟩ := HT.out.1
      obtain ⟨ct, hct⟩ : ∃ ct, ct = (s.boot).cnt := ⟨_, rfl⟩
      obtain ⟨bo, hbo⟩ : ∃ bo, bo = !(s.boot).on := ⟨_, rfl⟩
      have HF : Hid (∀ Y, VS (y2) Y → Y.cell? ⟨r, 2, none⟩ = some (.int .i64 (ct : Int)) ∧ Y.cell? ⟨r, 3, none⟩ = some (.bool bo)) := Lib.hid fun Y hY => by
        rw [hct, hbo]
        have hb := h2.nr.blk.under hY
        exact ⟨hb.cellAt 2 rfl, hb.cellAt 3 rfl⟩
      have HWR : Hid (∀ Y, VS (y2) Y → Calls Try.prog 14 #[.pointer (some ⟨p, 0, none⟩)] Y fun e w' => e = .returned (.int .i64 (ct : Int)) ∧ Y = w') := Lib.hid fun Y hY => by rw [hct]; exact writes_any (h2.nc.under hY)
      have HDD : Hid (∀ Y, VS (y2) Y → Calls Try.prog 15 #[.pointer (some ⟨p, 0, none⟩)] Y fun e w' => e = .returned (.bool bo) ∧ Y = w') := Lib.hid fun Y hY => by rw [hbo]; exact dead_any (h2.nc.under hY)
      clear h2 hct hbo
      refine wp_region_held_drew (S := fun Y => VS (y2) Y) (by kernel_rfl) (show VS (y2) _ from ⟨rfl, rfl, rfl, Nat.le_refl _, fun _ _ => rfl⟩) (fun hS => ?_)
      (refine held_take (i := 0) (oi := ?ot93) (v := ?vt93) ?at93 (by kernel_rfl) (by kernel_rfl) (by kernel_rfl) ?bt93 ?ct93 ?dt93 (by assumption) ?rt93; (case at93 => (simp only [List.getElem?_toArray, List.getElem?_cons_zero]; rfl)); (case bt93 => exact fun _ _ _ h => h); (case ct93 => kernel_rfl); (case dt93 => (intro W hW; (try dsimp only at hW); go_split_ands; go_simp; (try with_reducible rfl))); (case' rt93 => simp only [Act.put, List.setIfInBounds_toArray, List.set_cons_zero, List.set_cons_succ]))
      (refine held_take (i := 2) (oi := ?ot94) (v := ?vt94) ?at94 (by kernel_rfl) (by kernel_rfl) (by kernel_rfl) ?bt94 ?ct94 ?dt94 (by assumption) ?rt94; (case at94 => (simp only [List.getElem?_toArray, List.getElem?_cons_zero, List.getElem?_cons_succ]; rfl)); (case bt94 => exact fun _ _ _ h => h); (case ct94 => kernel_rfl); (case dt94 => (intro W hW; (try dsimp only at hW); go_split_ands; go_simp; (try with_reducible rfl))); (case' rt94 => simp only [Act.put, List.setIfInBounds_toArray, List.set_cons_zero, List.set_cons_succ]))
      (refine held_take (i := 3) (oi := ?ot95) (v := ?vt95) ?at95 (by kernel_rfl) (by kernel_rfl) (by kernel_rfl) ?bt95 ?ct95 ?dt95 (by assumption) ?rt95; (case at95 => (simp only [List.getElem?_toArray, List.getElem?_cons_zero, List.getElem?_cons_succ]; rfl)); (case bt95 => exact fun _ _ _ h => h); (case ct95 => kernel_rfl); (case dt95 => (intro W hW; (try dsimp only at hW); go_split_ands; go_simp; (try with_reducible rfl))); (case' rt95 => simp only [Act.put, List.setIfInBounds_toArray, List.set_cons_zero, List.set_cons_succ]))
      (refine held_take (i := 4) (oi := ?ot96) (v := ?vt96) ?at96 (by kernel_rfl) (by kernel_rfl) (by kernel_rfl) ?bt96 ?ct96 ?dt96 (by assumption) ?rt96; (case at96 => (simp only [List.getElem?_toArray, List.getElem?_cons_zero, List.getElem?_cons_succ]; rfl)); (case bt96 => exact fun _ _ _ h => h); (case ct96 => kernel_rfl); (case dt96 => (intro W hW; (try dsimp only at hW); go_split_ands; go_simp; (try with_reducible rfl))); (case' rt96 => simp only [Act.put, List.setIfInBounds_toArray, List.set_cons_zero, List.set_cons_succ]))
      (refine held_take (i := 5) (oi := ?ot97) (v := .int .i64 (ct : Int)) ?at97 (by kernel_rfl) (by kernel_rfl) (by kernel_rfl) ?bt97 ?ct97 ?dt97 (by assumption) ?rt97; (case at97 => (simp only [List.getElem?_toArray, List.getElem?_cons_zero, List.getElem?_cons_succ]; rfl)); (case bt97 => exact fun _ _ _ h => h); (case ct97 => kernel_rfl); (case dt97 => (intro W hW; obtain ⟨b0, b1⟩ := HF.out W hW; clear hW; go_simp; (try with_reducible rfl))); (case' rt97 => simp only [Act.put, List.setIfInBounds_toArray, List.set_cons_zero, List.set_cons_succ]))
      refine held_one (i := 1) (oi := ?ot98) (by kernel_rfl) ?at98 ?ct98 (fun K1 hK1 => ?_)
      (case at98 => (simp only [List.getElem?_toArray, List.getElem?_cons_zero, List.getElem?_cons_succ]; rfl))
      (case ct98 => kernel_rfl)
      have hSb := hS
      go_simp
      refine (HWR.out _ hSb).mono ?_
      rintro e z1 ⟨rfl, rfl⟩
      refine hK1 _ _ hSb (fun hS1 => ?_)
      clear hS hSb hK1 K1
      (refine held_take (i := 6) (oi := ?ot99) (v := ?vt99) ?at99 (by kernel_rfl) (by kernel_rfl) (by kernel_rfl) ?bt99 ?ct99 ?dt99 (by assumption) ?rt99; (case at99 => (simp only [List.getElem?_toArray, List.getElem?_cons_zero, List.getElem?_cons_succ]; rfl)); (case bt99 => exact fun _ _ _ h => h); (case ct99 => kernel_rfl); (case dt99 => (intro W hW; (try dsimp only at hW); go_split_ands; go_simp; (try with_reducible rfl))); (case' rt99 => simp only [Act.put, List.setIfInBounds_toArray, List.set_cons_zero, List.set_cons_succ]))
      (refine held_take (i := 7) (oi := ?ot100) (v := ?vt100) ?at100 (by kernel_rfl) (by kernel_rfl) (by kernel_rfl) ?bt100 ?ct100 ?dt100 (by assumption) ?rt100; (case at100 => (simp only [List.getElem?_toArray, List.getElem?_cons_zero, List.getElem?_cons_succ]; rfl)); (case bt100 => exact fun _ _ _ h => h); (case ct100 => kernel_rfl); (case dt100 => (intro W hW; (try dsimp only at hW); go_split_ands; go_simp; (try with_reducible rfl))); (case' rt100 => simp only [Act.put, List.setIfInBounds_toArray, List.set_cons_zero, List.set_cons_succ]))
      (refine held_take (i := 8) (oi := ?ot101) (v := ?vt101) ?at101 (by kernel_rfl) (by kernel_rfl) (by kernel_rfl) ?bt101 ?ct101 ?dt101 (by assumption) ?rt101; (case at101 => (simp only [List.getElem?_toArray, List.getElem?_cons_zero, List.getElem?_cons_succ]; rfl)); (case bt101 => exact fun _ _ _ h => h); (case ct101 => kernel_rfl); (case dt101 => (intro W hW; (try dsimp only at hW); go_split_ands; go_simp; (try with_reducible rfl))); (case' rt101 => simp only [Act.put, List.setIfInBounds_toArray, List.set_cons_zero, List.set_cons_succ]))
      (refine held_take (i := 10) (oi := ?ot102) (v := ?vt102) ?at102 (by kernel_rfl) (by kernel_rfl) (by kernel_rfl) ?bt102 ?ct102 ?dt102 (by assumption) ?rt102; (case at102 => (simp only [List.getElem?_toArray, List.getElem?_cons_zero, List.getElem?_cons_succ]; rfl)); (case bt102 => exact fun _ _ _ h => h); (case ct102 => kernel_rfl); (case dt102 => (intro W hW; (try dsimp only at hW); go_split_ands; go_simp; (try with_reducible rfl))); (case' rt102 => simp only [Act.put, List.setIfInBounds_toArray, List.set_cons_zero, List.set_cons_succ]))
      (refine held_take (i := 11) (oi := ?ot103) (v := ?vt103) ?at103 (by kernel_rfl) (by kernel_rfl) (by kernel_rfl) ?bt103 ?ct103 ?dt103 (by assumption) ?rt103; (case at103 => (simp only [List.getElem?_toArray, List.getElem?_cons_zero, List.getElem?_cons_succ]; rfl)); (case bt103 => exact fun _ _ _ h => h); (case ct103 => kernel_rfl); (case dt103 => (intro W hW; (try dsimp only at hW); go_split_ands; go_simp; (try with_reducible rfl))); (case' rt103 => simp only [Act.put, List.setIfInBounds_toArray, List.set_cons_zero, List.set_cons_succ]))
      (refine held_take (i := 12) (oi := ?ot104) (v := ?vt104) ?at104 (by kernel_rfl) (by kernel_rfl) (by kernel_rfl) ?bt104 ?ct104 ?dt104 (by assumption) ?rt104; (case at104 => (simp only [List.getElem?_toArray, List.getElem?_cons_zero, List.getElem?_cons_succ]; rfl)); (case bt104 => exact fun _ _ _ h => h); (case ct104 => kernel_rfl); (case dt104 => (intro W hW; (try dsimp only at hW); go_split_ands; go_simp; (try with_reducible rfl))); (case' rt104 => simp only [Act.put, List.setIfInBounds_toArray, List.set_cons_zero, List.set_cons_succ]))
      (refine held_take (i := 13) (oi := ?ot105) (v := .bool bo) ?at105 (by kernel_rfl) (by kernel_rfl) (by kernel_rfl) ?bt105 ?ct105 ?dt105 (by assumption) ?rt105; (case at105 => (simp only [List.getElem?_toArray, List.getElem?_cons_zero, List.getElem?_cons_succ]; rfl)); (case bt105 => exact fun _ _ _ h => h); (case ct105 => kernel_rfl); (case dt105 => (intro W hW; obtain ⟨b0, b1⟩ := HF.out W hW; clear hW; go_simp; (try with_reducible rfl))); (case' rt105 => simp only [Act.put, List.setIfInBounds_toArray, List.set_cons_zero, List.set_cons_succ]))
      refine held_one (i := 9) (oi := ?ot106) (by kernel_rfl) ?at106 ?ct106 (fun K9 hK9 => ?_)
      (case at106 => (simp only [List.getElem?_toArray, List.getElem?_cons_zero, List.getElem?_cons_succ]; rfl))
      (case ct106 => kernel_rfl)
      have hSb := hS1
      go_simp
      refine (HDD.out _ hSb).mono ?_
      rintro e z9 ⟨rfl, rfl⟩
      refine hK9 _ _ hSb (fun hS9 => ?_)
      clear hS1 hSb hK9 K9
      (refine held_take (i := 14) (oi := ?ot107) (v := ?vt107) ?at107 (by kernel_rfl) (by kernel_rfl) (by kernel_rfl) ?bt107 ?ct107 ?dt107 (by assumption) ?rt107; (case at107 => (simp only [List.getElem?_toArray, List.getElem?_cons_zero, List.getElem?_cons_succ]; rfl)); (case bt107 => exact fun _ _ _ h => h); (case ct107 => kernel_rfl); (case dt107 => (intro W hW; (try dsimp only at hW); go_split_ands; go_simp; (try with_reducible rfl))); (case' rt107 => simp only [Act.put, List.setIfInBounds_toArray, List.set_cons_zero, List.set_cons_succ]))
      (refine held_take (i := 15) (oi := ?ot108) (v := ?vt108) ?at108 (by kernel_rfl) (by kernel_rfl) (by kernel_rfl) ?bt108 ?ct108 ?dt108 (by assumption) ?rt108; (case at108 => (simp only [List.getElem?_toArray, List.getElem?_cons_zero, List.getElem?_cons_succ]; rfl)); (case bt108 => exact fun _ _ _ h => h); (case ct108 => kernel_rfl); (case dt108 => (intro W hW; (try dsimp only at hW); go_split_ands; go_simp; (try with_reducible rfl))); (case' rt108 => simp only [Act.put, List.setIfInBounds_toArray, List.set_cons_zero, List.set_cons_succ]))
      refine wpAnyH_done (by kernel_rfl) ?_ _
      have HS := Lib.hid hS9
      clear hS9
      go_wp2
      go_roundw
      case rel => exact ⟨k + 1, s.boot, HK.out, by go_num, Lib.hid ⟨HT.out.1.under HS.out, HT.out.2.1.trans (HS.out.mono HT.out.2.1.size), HT.out.2.2.1, HT.out.2.2.2⟩⟩
      case measure => have := HK.out; simp [intOf]; omega
    · obtain rfl : k = M := by omega
      obtain ⟨G1, H1, v1, u1, A1, C1, c1, d1, hT⟩ := hI.out.1
      have HB := Lib.hid hI.out.2.1
      have hsl := hI.out.2.2.2
      obtain ⟨A9, d9, hu, _, hl9⟩ := hT.nr.lay.form
      rw [hsl] at hu hl9
      have HLE : Hid (∀ Y, VS wr Y → Calls Try.prog 16 #[.pointer (some ⟨p, 0, none⟩)] Y fun e w' => e = .returned (.int .i64 (L : Int)) ∧ Y = w') := Lib.hid fun Y hY => by
        rw [← hsl]; exact len_any (hT.nc.under hY)
      have HU : Hid (∀ Y, VS wr Y → Y.cell? ⟨r, 0, none⟩ = some (.slice A9 L d9)) := Lib.hid fun Y hY => by
        have := (hT.nr.blk.under hY).cellAt 0 rfl
        rw [hu] at this
        exact this
      have HWD : Hid (∀ Y, VS wr Y → Calls Try.prog 18 #[.pointer (some ⟨p, 0, none⟩)] Y fun e w' => ∃ B d, e = .returned (.slice B L d) ∧ Lies w' w'.heap.size 1 B L (u32s s.ws) ∧ Below Y.heap.size Y w') := Lib.hid fun Y hY => by
        have := words_any (hT.nc.under hY) (by omega)
        rw [hsl] at this
        exact this
      have HSW : Hid (∀ Y B7 d7, VS wr Y → Lies Y Y.heap.size 1 B7 L (u32s s.ws) → Calls Try.prog 17 #[.slice B7 L d7, .slice A9 L d9] Y fun e w' => e = .returned (.bool true) ∧ Below Y.heap.size Y w') := Lib.hid fun Y B7 d7 hY h7 => by
        have h9 := (hl9.below hY).wide hY.size
        rw [← hsl] at h7 h9 ⊢
        exact samew_any B7 A9 d7 d9 s.ws Y (by omega) h7 h9
      clear hT hI hu hl9 hsl hlt hk
      go_upto_region 26 with fail
      refine wp_region_held_drew (S := fun Y => VS wr Y) (by kernel_rfl) (show VS wr _ from ⟨rfl, rfl, rfl, Nat.le_refl _, fun _ _ => rfl⟩) (fun hS => ?_)
      (refine held_take (i := 0) (oi := ?ot14) (v := ?vt14) ?at14 (by kernel_rfl) (by kernel_rfl) (by kernel_rfl) ?bt14 ?ct14 ?dt14 (by assumption) ?rt14; (case at14 => (simp only [List.getElem?_toArray, List.getElem?_cons_zero]; rfl)); (case bt14 => exact fun _ _ _ h => h); (case ct14 => kernel_rfl); (case dt14 => (intro W hW; (try dsimp only at hW); go_split_ands; go_simp; (try with_reducible rfl))); (case' rt14 => simp only [Act.put, List.setIfInBounds_toArray, List.set_cons_zero, List.set_cons_succ]))
      (refine held_take (i := 2) (oi := ?ot15) (v := ?vt15) ?at15 (by kernel_rfl) (by kernel_rfl) (by kernel_rfl) ?bt15 ?ct15 ?dt15 (by assumption) ?rt15; (case at15 => (simp only [List.getElem?_toArray, List.getElem?_cons_zero, List.getElem?_cons_succ]; rfl)); (case bt15 => exact fun _ _ _ h => h); (case ct15 => kernel_rfl); (case dt15 => (intro W hW; (try dsimp only at hW); go_split_ands; go_simp; (try with_reducible rfl))); (case' rt15 => simp only [Act.put, List.setIfInBounds_toArray, List.set_cons_zero, List.set_cons_succ]))
      (refine held_take (i := 3) (oi := ?ot16) (v := ?vt16) ?at16 (by kernel_rfl) (by kernel_rfl) (by kernel_rfl) ?bt16 ?ct16 ?dt16 (by assumption) ?rt16; (case at16 => (simp only [List.getElem?_toArray, List.getElem?_cons_zero, List.getElem?_cons_succ]; rfl)); (case bt16 => exact fun _ _ _ h => h); (case ct16 => kernel_rfl); (case dt16 => (intro W hW; (try dsimp only at hW); go_split_ands; go_simp; (try with_reducible rfl))); (case' rt16 => simp only [Act.put, List.setIfInBounds_toArray, List.set_cons_zero, List.set_cons_succ]))
      refine held_one (i := 1) (oi := ?ot17) (by kernel_rfl) ?at17 ?ct17 (fun K1 hK1 => ?_)
      (case at17 => (simp only [List.getElem?_toArray, List.getElem?_cons_zero, List.getElem?_cons_succ]; rfl))
      (case ct17 => kernel_rfl)
      have hSb := hS
      go_simp
      refine (HLE.out _ hSb).mono ?_
      rintro e z1 ⟨rfl, rfl⟩
      refine hK1 _ _ hSb (fun hS1 => ?_)
      clear hS hSb hK1 K1
      (refine held_take (i := 4) (oi := ?ot18) (v := ?vt18) ?at18 (by kernel_rfl) (by kernel_rfl) (by kernel_rfl) ?bt18 ?ct18 ?dt18 (by assumption) ?rt18; (case at18 => (simp only [List.getElem?_toArray, List.getElem?_cons_zero, List.getElem?_cons_succ]; rfl)); (case bt18 => exact fun _ _ _ h => h); (case ct18 => kernel_rfl); (case dt18 => (intro W hW; (try dsimp only at hW); go_split_ands; go_simp; (try with_reducible rfl))); (case' rt18 => simp only [Act.put, List.setIfInBounds_toArray, List.set_cons_zero, List.set_cons_succ]))
      (refine held_take (i := 5) (oi := ?ot19) (v := ?vt19) ?at19 (by kernel_rfl) (by kernel_rfl) (by kernel_rfl) ?bt19 ?ct19 ?dt19 (by assumption) ?rt19; (case at19 => (simp only [List.getElem?_toArray, List.getElem?_cons_zero, List.getElem?_cons_succ]; rfl)); (case bt19 => exact fun _ _ _ h => h); (case ct19 => kernel_rfl); (case dt19 => (intro W hW; (try dsimp only at hW); go_split_ands; go_simp; (try with_reducible rfl))); (case' rt19 => simp only [Act.put, List.setIfInBounds_toArray, List.set_cons_zero, List.set_cons_succ]))
      (refine held_take (i := 6) (oi := ?ot20) (v := ?vt20) ?at20 (by kernel_rfl) (by kernel_rfl) (by kernel_rfl) ?bt20 ?ct20 ?dt20 (by assumption) ?rt20; (case at20 => (simp only [List.getElem?_toArray, List.getElem?_cons_zero, List.getElem?_cons_succ]; rfl)); (case bt20 => exact fun _ _ _ h => h); (case ct20 => kernel_rfl); (case dt20 => (intro W hW; (try dsimp only at hW); go_split_ands; go_simp; (try with_reducible rfl))); (case' rt20 => simp only [Act.put, List.setIfInBounds_toArray, List.set_cons_zero, List.set_cons_succ]))
      (refine held_take (i := 8) (oi := ?ot21) (v := ?vt21) ?at21 (by kernel_rfl) (by kernel_rfl) (by kernel_rfl) ?bt21 ?ct21 ?dt21 (by assumption) ?rt21; (case at21 => (simp only [List.getElem?_toArray, List.getElem?_cons_zero, List.getElem?_cons_succ]; rfl)); (case bt21 => exact fun _ _ _ h => h); (case ct21 => kernel_rfl); (case dt21 => (intro W hW; (try dsimp only at hW); go_split_ands; go_simp; (try with_reducible rfl))); (case' rt21 => simp only [Act.put, List.setIfInBounds_toArray, List.set_cons_zero, List.set_cons_succ]))
      (refine held_take (i := 9) (oi := ?ot22) (v := ?vt22) ?at22 (by kernel_rfl) (by kernel_rfl) (by kernel_rfl) ?bt22 ?ct22 ?dt22 (by assumption) ?rt22; (case at22 => (simp only [List.getElem?_toArray, List.getElem?_cons_zero, List.getElem?_cons_succ]; rfl)); (case bt22 => exact fun _ _ _ h => h); (case ct22 => kernel_rfl); (case dt22 => (intro W hW; (try dsimp only at hW); go_split_ands; go_simp; (try with_reducible rfl))); (case' rt22 => simp only [Act.put, List.setIfInBounds_toArray, List.set_cons_zero, List.set_cons_succ]))
      (refine held_take (i := 10) (oi := ?ot23) (v := ?vt23) ?at23 (by kernel_rfl) (by kernel_rfl) (by kernel_rfl) ?bt23 ?ct23 ?dt23 (by assumption) ?rt23; (case at23 => (simp only [List.getElem?_toArray, List.getElem?_cons_zero, List.getElem?_cons_succ]; rfl)); (case bt23 => exact fun _ _ _ h => h); (case ct23 => kernel_rfl); (case dt23 => (intro W hW; (try dsimp only at hW); go_split_ands; go_simp; (try with_reducible rfl))); (case' rt23 => simp only [Act.put, List.setIfInBounds_toArray, List.set_cons_zero, List.set_cons_succ]))
      (refine held_take (i := 11) (oi := ?ot24) (v := .slice A9 L d9) ?at24 (by kernel_rfl) (by kernel_rfl) (by kernel_rfl) ?bt24 ?ct24 ?dt24 (by assumption) ?rt24; (case at24 => (simp only [List.getElem?_toArray, List.getElem?_cons_zero, List.getElem?_cons_succ]; rfl)); (case bt24 => exact fun _ _ _ h => h); (case ct24 => kernel_rfl); (case dt24 => (intro W hW; have b0 := HU.out W hW; clear hW; go_simp; (try with_reducible rfl))); (case' rt24 => simp only [Act.put, List.setIfInBounds_toArray, List.set_cons_zero, List.set_cons_succ]))
      refine held_one (i := 7) (oi := ?ot25) (by kernel_rfl) ?at25 ?ct25 (fun K7 hK7 => ?_)
      (case at25 => (simp only [List.getElem?_toArray, List.getElem?_cons_zero, List.getElem?_cons_succ]; rfl))
      (case ct25 => kernel_rfl)
      have hSb := hS1
      go_simp
      refine (HWD.out _ hSb).mono ?_
      rintro e y7 ⟨B7, d7, rfl, hl7, hd⟩
      have HL7 := Lib.hid (And.intro hl7 (hSb.keep hd))
      refine hK7 _ _ (hSb.keep hd) (fun hS7 => ?_)
      clear hS1 hSb hl7 hd hK7 K7
      refine held_one (i := 12) (oi := ?ot26) (by kernel_rfl) ?at26 ?ct26 (fun K12 hK12 => ?_)
      (case at26 => (simp only [List.getElem?_toArray, List.getElem?_cons_zero, List.getElem?_cons_succ]; rfl))
      (case ct26 => kernel_rfl)
      have hSb := hS7
      go_simp
      refine (HSW.out _ B7 d7 hSb HL7.out.1).mono ?_
      rintro e y12 ⟨rfl, hd⟩
      refine hK12 _ _ (hSb.keep hd) (fun hS12 => ?_)
      clear hS7 hSb hd hK12 K12
      (refine held_take (i := 13) (oi := ?ot27) (v := ?vt27) ?at27 (by kernel_rfl) (by kernel_rfl) (by kernel_rfl) ?bt27 ?ct27 ?dt27 (by assumption) ?rt27; (case at27 => (simp only [List.getElem?_toArray, List.getElem?_cons_zero, List.getElem?_cons_succ]; rfl)); (case bt27 => exact fun _ _ _ h => h); (case ct27 => kernel_rfl); (case dt27 => (intro W hW; (try dsimp only at hW); go_split_ands; go_simp; (try with_reducible rfl))); (case' rt27 => simp only [Act.put, List.setIfInBounds_toArray, List.set_cons_zero, List.set_cons_succ]))
      (refine held_take (i := 14) (oi := ?ot28) (v := ?vt28) ?at28 (by kernel_rfl) (by kernel_rfl) (by kernel_rfl) ?bt28 ?ct28 ?dt28 (by assumption) ?rt28; (case at28 => (simp only [List.getElem?_toArray, List.getElem?_cons_zero, List.getElem?_cons_succ]; rfl)); (case bt28 => exact fun _ _ _ h => h); (case ct28 => kernel_rfl); (case dt28 => (intro W hW; (try dsimp only at hW); go_split_ands; go_simp; (try with_reducible rfl))); (case' rt28 => simp only [Act.put, List.setIfInBounds_toArray, List.set_cons_zero, List.set_cons_succ]))
      refine wpAnyH_done (by kernel_rfl) ?_ _
      have HS := Lib.hid hS12
      clear hS12
      go_wp2
      go_ret
      exact ⟨rfl, HB.out.trans (HS.out.mono HB.out.size)⟩
end Go.Proofs.Ytfmdebnenmklbaa
