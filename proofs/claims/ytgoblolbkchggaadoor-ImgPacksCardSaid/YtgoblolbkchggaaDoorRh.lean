/- The reference's PutHeader. -/
import Derived.Test.YtgoblolbkchggaaDoorWx
import Derived.Test.YtgoblolbkchggaaDoorHp
namespace Go.Proofs.YtgoblolbkchggaaDoor
open Go.RowKit

theorem ow_app {P : Program} {w w' : World} {o : Oper} {a : Act} {K : Act → World → Prop} {Q : Exit → Act → World → Prop} (s x : Operand) (t : TypeId) (ho : o.op = .call { callee := .builtin .append, args := #[s, x], argTypes := #[t, t] }) (v u : Value) (hs : a.eval s = v) (hx : a.eval x = u) {v' : Value}
    (hr : (Builtin.append_ #[t, t] o.type #[v, u]).run P w = .ok v' w') (h : K (a.put o.dst v') w') : o.wp P a w K Q := by
  unfold Oper.wp execOp
  simp only [ho, resolve, invoke, builtin, Sem.run_bind, Sem.run_pure, Result.andThen_ok, List.map_toArray, List.map_cons, List.map_nil, hs, hx, hr]
  exact h
theorem WS.row {V W : World} {g : Nat} {l : By} {m : Nat} (h : WS V none g l m 0 W) : ∃ (A : Option Addr) (c : Nat), W.cell? ⟨g, 0, none⟩ = some (.slice A l.length c) ∧ OwnB W (g + 1) (.slice A l.length c) l ∧ l.length ≤ m := by
  obtain ⟨A, c, L, -, h2, h3, -, h5, h6, -, -⟩ := h.open
  have := h5 rfl
  subst this
  exact ⟨A, c, h2, h3, h6⟩
set_option maxHeartbeats 2000000 in
set_option maxRecDepth 100000 in
theorem rput_h (h : Hd) (hb : HdB h) (hn : h.name.length ≤ 1000000) (w : World) : Calls Tryd.prog 9 #[.agg (vec 35 (hdF h))] w (OptP (putP h) w) := by
  obtain ⟨q, hq⟩ : ∃ q, q = w.heap.size := ⟨_, rfl⟩
  obtain ⟨V, hV⟩ : ∃ V, V = w.alloc (.cells (vec 35 (hdF h)) 26) := ⟨_, rfl⟩
  have k1 : Arr V q 26 35 (hdF h) := by rw [hV, hq]; exact Arr.new w _ _ _
  have hB : Below w.heap.size w V := by rw [hV]; exact (Below.refl _ _).alloc (Nat.le_refl _) _
  obtain ⟨g, hg⟩ : ∃ g, g = V.heap.size := ⟨_, rfl⟩
  obtain ⟨V2, hV2⟩ : ∃ V2, V2 = V.alloc (.cells #[.slice none 0 0, .int .i64 0] 54) := ⟨_, rfl⟩
  have hB2 : Below V.heap.size V V2 := by rw [hV2]; exact (Below.refl _ _).alloc (Nat.le_refl _) _
  have hA2 : Arr V2 g 54 2 (wrF (.slice none 0 0) 0) := by rw [hV2]; rw [hg]; exact Arr.new' V 54 2 (wrF (.slice none 0 0) 0) #[.slice none 0 0, .int .i64 0] rfl
  have hS : WS V2 none g [] 0 0 V2 := (WW.begin ⟨none, 0, [], hA2, OwnE.nil _ _, rfl, fun _ => rfl, Nat.le_refl _⟩)
  have hqg : q < g := by rw [hg]; exact k1.lt
  obtain ⟨vn, hvn⟩ : ∃ v, v = h.ver := ⟨_, rfl⟩
  obtain ⟨sn, hsn⟩ : ∃ v, v = h.size := ⟨_, rfl⟩
  obtain ⟨s, hs0⟩ : ∃ s, s = h.name := ⟨_, rfl⟩
  obtain ⟨D, hD⟩ : ∃ d, d = h.dig := ⟨_, rfl⟩
  have hDl : D.length = 32 := by rw [hD]; exact hb.dig
  obtain ⟨v1, v2⟩ := hb.ver
  obtain ⟨s1, s2⟩ := hb.size
  rw [← hvn] at v1 v2
  rw [← hsn] at s1 s2
  have HK : Hid (∀ (l' : By) (m' e' : Nat) (Y : World), WS V2 none g l' m' e' Y → Y.cell? ⟨q, 0, none⟩ = some (.int .u32 vn) ∧ Y.cell? ⟨q, 1, none⟩ = some (.int .u32 sn) ∧ Y.cell? ⟨q, 2, none⟩ = some (.string (strOf s)) ∧ Lies Y g 1 (some ⟨q, 3, none⟩) 32 (u8s D)) := Lib.hid (fun l' m' e' Y hs => by
    have h1 := (k1.under hB2).below hs.below hqg
    rw [hvn, hsn, hs0, hD]
    refine ⟨h1.cell (i := 0) (by decide), h1.cell (i := 1) (by decide), h1.cell (i := 2) (by decide), ?_⟩
    have := h1.lies hqg 3 32 (by decide)
    rw [show (List.range 32).map (fun i => hdF h (3 + i)) = u8s h.dig from by rw [← u8s_kF hb.dig]; exact List.map_congr_left fun i _ => hdF_dig h i] at this
    exact this)
  have HBEL : Hid (∀ (l' : By) (m' e' : Nat) (Y : World), WS V2 none g l' m' e' Y → Below w.heap.size w Y) := Lib.hid (fun l' m' e' Y hs => (hB.trans (hB2.mono hB.size)).trans (hs.below.mono (by rw [hg]; exact hB.size)))
  have HSZ : Hid (s.length ≤ 1000000) := Lib.hid (by rw [hs0]; exact hn)
  have HLG : Hid (w.heap.size ≤ g) := Lib.hid (by rw [hg]; exact hB.size)
  have wv : IntKind.u64.wrap vn = vn := by rw [IntKind.wrap_u64]; omega
  have ws : IntKind.u64.wrap sn = sn := by rw [IntKind.wrap_u64]; omega
  unfold putP
  have HL : Hid (layH h = [] ++ be 4 (1112100167 : Int).toNat ++ be 4 vn.toNat ++ be 4 sn.toNat ++ be 4 (0 : Int).toNat ++ nameE s ++ D) := Lib.hid (by rw [hvn, hsn, hs0, hD]; simp [layH, layF])
  rw [← hs0]
  obtain ⟨LH, hLH⟩ : ∃ l, l = layH h := ⟨_, rfl⟩
  rw [← hLH] at HL ⊢
  obtain ⟨r, hr⟩ : ∃ r, r = nameOk s := ⟨_, rfl⟩
  have HNM := Lib.hid (fun l m W (hm : m ≤ 800000) (hw : WS V2 none g l m 0 W) => wname_any s HSZ.out hm W hw)
  rw [← hr] at HNM ⊢
  have HS := Lib.hid hS
  have HW := Lib.hid hV
  have HQ := Lib.hid hq
  have HG := Lib.hid hg
  have HW2 := Lib.hid hV2
  have HDL := Lib.hid hDl
  have hv0 := Lib.hid v1
  have hs00 := Lib.hid s1
  clear hV k1 hB hg hV2 hB2 hA2 hS hqg hvn hsn hs0 hD hLH hr hb hn hDl hq v1 v2 s1 s2
  unfold WPo at HNM
  cases r
  · rw [if_neg (by decide)]
    unfold OptP
    go_enter Tryd.func9, Tryd.ntmps9
    go_upto_region 1 with fail
    rw [← HW.out, ← HQ.out]
    clear HW
    go_upto_region 2 with fail
    rw [← HW2.out, ← HG.out]
    clear HW2
    go_upto_region 3 with (go_at_call 18; refine (wput_any 1112100167 (by decide) 4 (by decide) (by decide) _ HS.out).mono ?_; rintro x w1 ⟨rfl, hs⟩; have HS := Lib.hid hs; obtain ⟨x0, -⟩ := HK.out _ _ _ _ hs; clear hs)
    go_upto_region 4 with (go_at_call 18; refine (wput_any vn hv0.out 4 (by decide) (by decide) _ HS.out).mono ?_; rintro x w2 ⟨rfl, hs⟩; have HS := Lib.hid hs; obtain ⟨-, x1, -⟩ := HK.out _ _ _ _ hs; clear hs)
    go_upto_region 5 with (go_at_call 18; refine (wput_any sn hs00.out 4 (by decide) (by decide) _ HS.out).mono ?_; rintro x w3 ⟨rfl, hs⟩; have HS := Lib.hid hs; clear hs)
    go_upto_region 6 with (go_at_call 18; refine (wput_any 0 (by decide) 4 (by decide) (by decide) _ HS.out).mono ?_; rintro x w4 ⟨rfl, hs⟩; have HS := Lib.hid hs; obtain ⟨-, -, x2, -⟩ := HK.out _ _ _ _ hs; clear hs)
    go_upto_region 7 with (go_at_call 19; refine (HNM.out _ _ _ (by decide) HS.out).mono ?_; rintro x W ⟨rfl, hs⟩; have HS := Lib.hid hs; clear hs)
    obtain ⟨e1, -⟩ := HS.out.err
    rw [show ((seqE 0 (if false = true then 0 else 143) : Nat) : Int) = 143 from rfl] at e1
    go_wp2_with fail
    go_ret2
    exact ⟨rfl, HBEL.out _ _ _ _ HS.out⟩
  · rw [if_pos rfl]
    unfold OptP
    go_enter Tryd.func9, Tryd.ntmps9
    go_upto_region 1 with fail
    rw [← HW.out, ← HQ.out]
    clear HW
    go_upto_region 2 with fail
    rw [← HW2.out, ← HG.out]
    clear HW2
    go_upto_region 3 with (go_at_call 18; refine (wput_any 1112100167 (by decide) 4 (by decide) (by decide) _ HS.out).mono ?_; rintro x w1 ⟨rfl, hs⟩; have HS := Lib.hid hs; obtain ⟨x0, -⟩ := HK.out _ _ _ _ hs; clear hs)
    go_upto_region 4 with (go_at_call 18; refine (wput_any vn hv0.out 4 (by decide) (by decide) _ HS.out).mono ?_; rintro x w2 ⟨rfl, hs⟩; have HS := Lib.hid hs; obtain ⟨-, x1, -⟩ := HK.out _ _ _ _ hs; clear hs)
    go_upto_region 5 with (go_at_call 18; refine (wput_any sn hs00.out 4 (by decide) (by decide) _ HS.out).mono ?_; rintro x w3 ⟨rfl, hs⟩; have HS := Lib.hid hs; clear hs)
    go_upto_region 6 with (go_at_call 18; refine (wput_any 0 (by decide) 4 (by decide) (by decide) _ HS.out).mono ?_; rintro x w4 ⟨rfl, hs⟩; have HS := Lib.hid hs; obtain ⟨-, -, x2, -⟩ := HK.out _ _ _ _ hs; clear hs)
    go_upto_region 7 with (go_at_call 19; refine (HNM.out _ _ _ (by decide) HS.out).mono ?_; rintro x W ⟨rfl, hs⟩; have HS := Lib.hid hs; clear hs)
    have HS : Hid (WS V2 none g _ _ 0 W) := HS
    obtain ⟨e1, -⟩ := HS.out.err
    obtain ⟨A, c, r0, r1, r2⟩ := HS.out.row
    have HO := Lib.hid r1
    obtain ⟨N, hN⟩ : ∃ n, n = ([] ++ be 4 (1112100167 : Int).toNat ++ be 4 vn.toNat ++ be 4 sn.toNat ++ be 4 (0 : Int).toNat ++ nameE s).length := ⟨_, rfl⟩
    rw [← hN] at r0 HO r2
    have HLI := Lib.hid (HK.out _ _ _ _ HS.out).2.2.2
    have HBW := Lib.hid (HBEL.out _ _ _ _ HS.out)
    have HGW := Lib.hid HS.out.ltW
    obtain ⟨i0, hi, hz0, hz1, hz2⟩ := info_parts info_u8
    have HAP : Hid (∃ v' w', (Builtin.append_ #[27, 27] 27 #[.slice A N c, .slice (some ⟨q, 3, none⟩) 32 32]).run Tryd.prog W.drew = .ok v' w' ∧ w'.cell? ⟨g, 0, none⟩ = some (.slice A N c) ∧ w'.ownsRow w.heap.size 5 1 v' LH.length (u8s LH) ∧ Below w.heap.size w w') := Lib.hid (by
      have ho := own_to HO.out
      rw [← hN] at ho
      obtain ⟨v', w', hr, h2, h3, h4⟩ := run_app (P := Tryd.prog) (w := W.drew) (g + 1) 27 27 5 i0 (.int .u8 0) 1 Tryd.underlying27 hi hz0 hz1 hz2 rfl (.slice A N c) N _ ho g (some ⟨q, 3, none⟩) 32 32 (u8s D) HLI.out (u8s_one _) (by unfold maxLen; omega) (by omega) (by have := HGW.out; exact this)
      obtain ⟨_, _, _, _, _, hk⟩ := HO.out.form
      refine ⟨v', w', hr, ?_, ?_, ?_⟩
      · exact h3.cell (a := ⟨g, 0, none⟩) (h := r0) (hne := fun e => by have := hk g e.symm; omega)
      · rw [u8s_append, ← HL.out] at h2
        have e : N + 32 = LH.length := by rw [HL.out, List.length_append, ← hN, HDL.out]
        rw [e] at h2
        exact owns_mono h2 (by have := HLG.out; omega)
      · exact (HBW.out.trans (below_drewN (Below.refl _ _) 1)).grown h3 (show w.heap.size ≤ W.heap.size from HBW.out.size) fun k hk2 => by have := hk k hk2; have := HLG.out; omega)
    obtain ⟨v', w', hr, hc0, hv1, hv2⟩ := HAP.out
    have HR := Lib.hid hr
    have HC0 := Lib.hid hc0
    have HV := Lib.hid (And.intro hv1 hv2)
    clear HAP hr hc0 hv1 hv2 hi hz0 hz1 hz2 r1 r2 hN
    go_upto_region 9 with fail
    refine wp_region_held_drew (S := fun Y => Y.cell? ⟨g, 0, none⟩ = some (.slice A N c)) (by kernel_rfl) r0 (fun hS => ?_)
    (refine held_take (i := 0) (oi := ?ot1) (v := ?vt1) ?at1 (by kernel_rfl) (by kernel_rfl) (by kernel_rfl) ?bt1 ?ct1 ?dt1 (by assumption) ?rt1; (case at1 => (simp only [List.getElem?_toArray, List.getElem?_cons_zero]; rfl)); (case bt1 => exact fun _ _ _ h => h); (case ct1 => kernel_rfl); (case dt1 => (intro W hW; (try dsimp only at hW); go_split_ands; go_simp; (try with_reducible rfl))); (case' rt1 => simp only [Act.put, List.setIfInBounds_toArray, List.set_cons_zero, List.set_cons_succ]))
    (refine held_take (i := 1) (oi := ?ot2) (v := ?vt2) ?at2 (by kernel_rfl) (by kernel_rfl) (by kernel_rfl) ?bt2 ?ct2 ?dt2 (by assumption) ?rt2; (case at2 => (simp only [List.getElem?_toArray, List.getElem?_cons_zero, List.getElem?_cons_succ]; rfl)); (case bt2 => exact fun _ _ _ h => h); (case ct2 => kernel_rfl); (case dt2 => (intro W hW; (try dsimp only at hW); go_split_ands; go_simp; (try with_reducible rfl))); (case' rt2 => simp only [Act.put, List.setIfInBounds_toArray, List.set_cons_zero, List.set_cons_succ]))
    (refine held_take (i := 2) (oi := ?ot3) (v := ?vt3) ?at3 (by kernel_rfl) (by kernel_rfl) (by kernel_rfl) ?bt3 ?ct3 ?dt3 (by assumption) ?rt3; (case at3 => (simp only [List.getElem?_toArray, List.getElem?_cons_zero, List.getElem?_cons_succ]; rfl)); (case bt3 => exact fun _ _ _ h => h); (case ct3 => kernel_rfl); (case dt3 => (intro W hW; (try dsimp only at hW); go_split_ands; go_simp; (try with_reducible rfl))); (case' rt3 => simp only [Act.put, List.setIfInBounds_toArray, List.set_cons_zero, List.set_cons_succ]))
    (refine held_take (i := 3) (oi := ?ot4) (v := ?vt4) ?at4 (by kernel_rfl) (by kernel_rfl) (by kernel_rfl) ?bt4 ?ct4 ?dt4 (by assumption) ?rt4; (case at4 => (simp only [List.getElem?_toArray, List.getElem?_cons_zero, List.getElem?_cons_succ]; rfl)); (case bt4 => exact fun _ _ _ h => h); (case ct4 => kernel_rfl); (case dt4 => (intro W hW; (try dsimp only at hW); go_split_ands; go_simp; (try with_reducible rfl))); (case' rt4 => simp only [Act.put, List.setIfInBounds_toArray, List.set_cons_zero, List.set_cons_succ]))
    (refine held_take (i := 4) (oi := ?ot5) (v := ?vt5) ?at5 (by kernel_rfl) (by kernel_rfl) (by kernel_rfl) ?bt5 ?ct5 ?dt5 (by assumption) ?rt5; (case at5 => (simp only [List.getElem?_toArray, List.getElem?_cons_zero, List.getElem?_cons_succ]; rfl)); (case bt5 => exact fun _ _ _ h => h); (case ct5 => kernel_rfl); (case dt5 => (intro W hW; (try dsimp only at hW); go_split_ands; go_simp; (try with_reducible rfl))); (case' rt5 => simp only [Act.put, List.setIfInBounds_toArray, List.set_cons_zero, List.set_cons_succ]))
    (refine held_take (i := 5) (oi := ?ot6) (v := ?vt6) ?at6 (by kernel_rfl) (by kernel_rfl) (by kernel_rfl) ?bt6 ?ct6 ?dt6 (by assumption) ?rt6; (case at6 => (simp only [List.getElem?_toArray, List.getElem?_cons_zero, List.getElem?_cons_succ]; rfl)); (case bt6 => exact fun _ _ _ h => h); (case ct6 => kernel_rfl); (case dt6 => (intro W hW; (try dsimp only at hW); go_split_ands; go_simp; (try with_reducible rfl))); (case' rt6 => simp only [Act.put, List.setIfInBounds_toArray, List.set_cons_zero, List.set_cons_succ]))
    refine held_one (i := 6) (oi := ?ot7) (by kernel_rfl) ?at7 ?ct7 (fun K6 hK6 => ?_)
    (case at7 => (simp only [List.getElem?_toArray, List.getElem?_cons_zero, List.getElem?_cons_succ]; rfl))
    (case ct7 => kernel_rfl)
    refine ow_app _ _ 27 rfl (.slice A N c) (.slice (some ⟨q, 3, none⟩) 32 32) rfl rfl HR.out ?_
    refine hK6 _ _ HC0.out (fun hS6 => ?_)
    clear hK6 K6
    (refine held_take (i := 7) (oi := ?ot8) (v := ?vt8) ?at8 (by kernel_rfl) (by kernel_rfl) (by kernel_rfl) ?bt8 ?ct8 ?dt8 (by assumption) ?rt8; (case at8 => (simp only [List.getElem?_toArray, List.getElem?_cons_zero, List.getElem?_cons_succ]; rfl)); (case bt8 => exact fun _ _ _ h => h); (case ct8 => kernel_rfl); (case dt8 => (intro W hW; (try dsimp only at hW); go_split_ands; go_simp; (try with_reducible rfl))); (case' rt8 => simp only [Act.put, List.setIfInBounds_toArray, List.set_cons_zero, List.set_cons_succ]))
    (refine held_take (i := 8) (oi := ?ot9) (v := ?vt9) ?at9 (by kernel_rfl) (by kernel_rfl) (by kernel_rfl) ?bt9 ?ct9 ?dt9 (by assumption) ?rt9; (case at9 => (simp only [List.getElem?_toArray, List.getElem?_cons_zero, List.getElem?_cons_succ]; rfl)); (case bt9 => exact fun _ _ _ h => h); (case ct9 => kernel_rfl); (case dt9 => (intro W hW; (try dsimp only at hW); go_split_ands; go_simp; (try with_reducible rfl))); (case' rt9 => simp only [Act.put, List.setIfInBounds_toArray, List.set_cons_zero, List.set_cons_succ]))
    refine wpAnyH_done (by kernel_rfl) ?_ _
    go_wp2
    go_ret2
    exact ⟨v', rfl, HV.out.1, HV.out.2⟩
end Go.Proofs.YtgoblolbkchggaaDoor
