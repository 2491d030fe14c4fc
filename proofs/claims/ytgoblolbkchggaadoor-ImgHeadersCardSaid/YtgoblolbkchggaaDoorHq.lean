/- Pack: a header, a signature, a payload, one behind the other. -/
import Derived.Test.YtgoblolbkchggaaDoorHp
namespace Go.Proofs.YtgoblolbkchggaaDoor
open Go.RowKit
attribute [local go_sem ↓ high] zeroHv

theorem wl_pt_2 {ops : Array Oper} {rest : List Oper} {o : Oper} {a : Act} {w : World} {Q : Exit → Act → World → Prop} (hgd : o.guard = none) (x0 x1 : Operand) (ho : o.op = .buildSlice 69 2 #[(0, x0), (1, x1)]) (n0 n1 : Part) (h0 : a.eval x0 = partV n0) (h1 : a.eval x1 = partV n1)
    (h : ∀ y p, Lies y y.heap.size 1 (some p) 2 (List.map partV [n0, n1]) → Below w.heap.size w y → wpList Tryd.prog ops Q rest (a.put o.dst (.slice (some p) 2 2)) y) : wpList Tryd.prog ops Q (o :: rest) a w :=
  wpList_plain hgd fun _ hK => ow_pt_2 x0 x1 ho n0 n1 h0 h1 fun y p hl hb => hK _ _ (h y p hl hb)
set_option maxHeartbeats 1000000 in
set_option maxRecDepth 100000 in
theorem pack_any (h : Hd) (hb : HdB h) (hn : h.name.length ≤ 1000000) (sig pay : By) (A1 A2 : Option Addr) (c1 c2 : Nat) (hs : sig.length ≤ 100000) (hp : pay.length ≤ 100000) (w : World) (l1 : Lies w w.heap.size 1 A1 sig.length (u8s sig)) (l2 : Lies w w.heap.size 1 A2 pay.length (u8s pay)) :
    Calls Tryd.prog 14 #[.agg (vec 35 (hdF h)), .slice A1 sig.length c1, .slice A2 pay.length c2] w (OptP (packP h sig pay) w) := by
  obtain ⟨g0, hg0⟩ : ∃ g, g = w.heap.size := ⟨_, rfl⟩
  obtain ⟨V, hV⟩ : ∃ V, V = w.alloc (.cells (vec 35 (hdF h)) 26) := ⟨_, rfl⟩
  have k0 : Arr V g0 26 35 (hdF h) := by rw [hV, hg0]; exact Arr.new w _ _ _
  have hB : Below w.heap.size w V := by rw [hV]; exact (Below.refl _ _).alloc (Nat.le_refl _) _
  have HK := Lib.hid (And.intro k0 hB)
  have HN := Lib.hid (fun W => named_any h (layL h) hn W)
  have HL := Lib.hid (fun W => laid_any h hb W)
  have HS := Lib.hid (fun W => sized_any h hb (layL h) A2 pay.length c2 (by omega) W)
  have HA : Hid (∀ W p, Below w.heap.size w W → Lies W W.heap.size 1 (some p) 2 (List.map partV [(A1, c1, sig), (A2, c2, pay)]) → Calls Tryd.prog 17 #[.agg (vec 99 (hvF h (layL h))), .slice (some p) 2 2] W (Bytes W (layL h ++ (sig ++ pay)))) := Lib.hid (fun W p hW hl => by
    have := ahead_any h (layL h) (layL_len hb.dig) [(A1, c1, sig), (A2, c2, pay)] (some p) 2 W hl (allc ((l1.below hW).wide hW.size) (allc ((l2.below hW).wide hW.size) (fun _ h => nomatch h))) (by simp [catAll]; omega) (by simp)
    simpa [catAll] using this)
  have HE : Hid (nameOk h.name = true → layL h ++ (sig ++ pay) = layH h ++ sig ++ pay) := Lib.hid (fun hq => by rw [layL_ok hq, List.append_assoc])
  obtain ⟨L, hL⟩ : ∃ l, l = layL h := ⟨_, rfl⟩
  have hpk : packP h sig pay = if (nameOk h.name && decide ((pay.length : Int) = h.size)) = true then some (layH h ++ sig ++ pay) else none := by
    unfold packP
    by_cases a : nameOk h.name = true <;> by_cases b : h.size = (pay.length : Int)
    · rw [if_pos ⟨a, b⟩, a, b]; simp
    · rw [if_neg (fun x => b x.2), if_neg (by simp; intro _ e; exact b e.symm)]
    · rw [if_neg (fun x => a x.1), if_neg (by simp; intro e; exact absurd e a)]
    · rw [if_neg (fun x => a x.1), if_neg (by simp; intro e; exact absurd e a)]
  rw [hpk]
  obtain ⟨r, hr⟩ : ∃ r, r = nameOk h.name := ⟨_, rfl⟩
  obtain ⟨q, hq⟩ : ∃ q, q = decide ((pay.length : Int) = h.size) := ⟨_, rfl⟩
  rw [← hL] at HN HL HA HE HS
  rw [← hr] at HN HE ⊢
  rw [← hq] at HS ⊢
  obtain ⟨N1, hN1⟩ : ∃ n, n = sig.length := ⟨_, rfl⟩
  obtain ⟨N2, hN2⟩ : ∃ n, n = pay.length := ⟨_, rfl⟩
  have HP1 : Hid (Value.slice A1 N1 c1 = partV (A1, c1, sig)) := Lib.hid (by rw [hN1]; rfl)
  have HP2 : Hid (Value.slice A2 N2 c2 = partV (A2, c2, pay)) := Lib.hid (by rw [hN2]; rfl)
  rw [← hN1, ← hN2]
  rw [← hN2] at HS
  have HW := Lib.hid hV
  have HG := Lib.hid hg0
  clear hV k0 hB hL hr hq hg0 hb hn hpk hN1 hN2 hs hp l1 l2
  cases r
  · rw [Bool.false_and, if_neg (by decide)]
    unfold OptP
    go_enter Tryd.func14, Tryd.ntmps14
    go_upto_region 1 with fail
    rw [← HW.out, ← HG.out]
    clear HW
    go_upto_region 2 with (first
      | ((with_reducible show wpList _ _ _ (Oper.mk _ (.load _ _) _ _ _ _ :: _) _ _); refine wl_load rfl 26 _ rfl g0 rfl _ (run_load_arr HK.out.1 Tryd.underlying26 rfl infoHd) ?_)
      | (go_at_call 15; refine (HL.out _).mono ?_; rintro e w1 ⟨rfl, hd⟩; have HD := Lib.hid hd; clear hd)
      | ((with_reducible show wpList _ _ _ (Oper.mk _ (.store _ _ _) _ _ _ _ :: _) _ _); refine wl_store rfl 49 _ _ rfl _ rfl _ rfl (run_store_arr (Arr.new w1 _ _ _) (hvF h L) infoHv (hvF_one _ _ _)) ?_))
    obtain ⟨r, X, hX, hr, hXr, hXb, hVr⟩ := hv_new (h := h) (b := L) HD.out
    rw [← hX, ← hr]
    have HX := Lib.hid (And.intro hXr hXb)
    clear hX hr hXr hXb hVr HD
    go_wp2_with (first
      | ((with_reducible show wpList _ _ _ (Oper.mk (some 11) (.load _ _) _ _ _ _ :: _) _ _); refine wl_load rfl 49 _ rfl r rfl _ (run_load_arr HX.out.1 Tryd.underlying49 rfl infoHv) ?_)
      | (go_at_call 16; refine (HN.out _).mono ?_; rintro e w2 ⟨rfl, hd⟩; have HD := Lib.hid hd; clear hd))
    go_ret2
    exact ⟨rfl, HK.out.2.trans ((HX.out.2.trans (HD.out.mono HX.out.2.size)).mono HK.out.2.size)⟩
  · rw [Bool.true_and]
    cases q
    · rw [if_neg (by decide)]
      unfold OptP
      go_enter Tryd.func14, Tryd.ntmps14
      go_upto_region 1 with fail
      rw [← HW.out, ← HG.out]
      clear HW
      go_upto_region 2 with (first
        | ((with_reducible show wpList _ _ _ (Oper.mk _ (.load _ _) _ _ _ _ :: _) _ _); refine wl_load rfl 26 _ rfl g0 rfl _ (run_load_arr HK.out.1 Tryd.underlying26 rfl infoHd) ?_)
        | (go_at_call 15; refine (HL.out _).mono ?_; rintro e w1 ⟨rfl, hd⟩; have HD := Lib.hid hd; clear hd)
        | ((with_reducible show wpList _ _ _ (Oper.mk _ (.store _ _ _) _ _ _ _ :: _) _ _); refine wl_store rfl 49 _ _ rfl _ rfl _ rfl (run_store_arr (Arr.new w1 _ _ _) (hvF h L) infoHv (hvF_one _ _ _)) ?_))
      obtain ⟨r, X, hX, hr, hXr, hXb, hVr⟩ := hv_new (h := h) (b := L) HD.out
      rw [← hX, ← hr]
      have HX := Lib.hid (And.intro hXr hXb)
      clear hX hr hXr hXb hVr HD
      go_wp2_with (first
        | ((with_reducible show wpList _ _ _ (Oper.mk (some 11) (.load _ _) _ _ _ _ :: _) _ _); refine wl_load rfl 49 _ rfl r rfl _ (run_load_arr HX.out.1 Tryd.underlying49 rfl infoHv) ?_)
        | (go_at_call 16; refine (HN.out _).mono ?_; rintro e w2 ⟨rfl, hd⟩; have HD := Lib.hid hd; clear hd)
        | ((with_reducible show wpList _ _ _ (Oper.mk (some 15) (.load _ _) _ _ _ _ :: _) _ _); refine wl_execG (by kernel_rfl) (exec_load_at 49 _ rfl r 0 rfl _ (run_load_arr (HX.out.1.under HD.out) Tryd.underlying49 rfl infoHv)) ?_)
        | (go_at_call 25; refine (HS.out _).mono ?_; rintro e w3 ⟨rfl, hd⟩; have HD2 := Lib.hid (HD.out.trans (hd.mono HD.out.size)); clear hd))
      go_ret2
      exact ⟨rfl, HK.out.2.trans ((HX.out.2.trans (HD2.out.mono HX.out.2.size)).mono HK.out.2.size)⟩
    · rw [if_pos rfl]
      have hLE := HE.out rfl
      rw [← hLE]
      clear hLE
      unfold OptP
      go_enter Tryd.func14, Tryd.ntmps14
      go_upto_region 1 with fail
      rw [← HW.out, ← HG.out]
      clear HW
      go_upto_region 2 with (first
        | ((with_reducible show wpList _ _ _ (Oper.mk _ (.load _ _) _ _ _ _ :: _) _ _); refine wl_load rfl 26 _ rfl g0 rfl _ (run_load_arr HK.out.1 Tryd.underlying26 rfl infoHd) ?_)
        | (go_at_call 15; refine (HL.out _).mono ?_; rintro e w1 ⟨rfl, hd⟩; have HD := Lib.hid hd; clear hd)
        | ((with_reducible show wpList _ _ _ (Oper.mk _ (.store _ _ _) _ _ _ _ :: _) _ _); refine wl_store rfl 49 _ _ rfl _ rfl _ rfl (run_store_arr (Arr.new w1 _ _ _) (hvF h L) infoHv (hvF_one _ _ _)) ?_))
      obtain ⟨r, X, hX, hr, hXr, hXb, hVr⟩ := hv_new (h := h) (b := L) HD.out
      rw [← hX, ← hr]
      have HX := Lib.hid (And.intro hXr hXb)
      clear hX hr hXr hXb hVr HD
      go_upto_region 4 with (first
        | ((with_reducible show wpList _ _ _ (Oper.mk (some 11) (.load _ _) _ _ _ _ :: _) _ _); refine wl_load rfl 49 _ rfl r rfl _ (run_load_arr HX.out.1 Tryd.underlying49 rfl infoHv) ?_)
        | (go_at_call 16; refine (HN.out _).mono ?_; rintro e w2 ⟨rfl, hd⟩; have HD := Lib.hid hd; clear hd)
        | ((with_reducible show wpList _ _ _ (Oper.mk (some 15) (.load _ _) _ _ _ _ :: _) _ _); refine wl_execG (by kernel_rfl) (exec_load_at 49 _ rfl r 0 rfl _ (run_load_arr (HX.out.1.under HD.out) Tryd.underlying49 rfl infoHv)) ?_)
        | (go_at_call 25; refine (HS.out _).mono ?_; rintro e w3 ⟨rfl, hd⟩; have HD2 := Lib.hid (HD.out.trans (hd.mono HD.out.size)); clear hd))
      have b3 := Lib.hid (HK.out.2.trans ((HX.out.2.trans (HD2.out.mono HX.out.2.size)).mono HK.out.2.size))
      go_wp2_with (first
        | ((with_reducible show wpList _ _ _ (Oper.mk (some 20) (.load _ _) _ _ _ _ :: _) _ _); refine wl_load rfl 49 _ rfl r rfl _ (run_load_arr (HX.out.1.under HD2.out) Tryd.underlying49 rfl infoHv) ?_)
        | ((with_reducible show wpList _ _ _ (Oper.mk _ (.buildSlice _ _ _) _ _ _ _ :: _) _ _); refine wl_pt_2 rfl _ _ rfl (A1, c1, sig) (A2, c2, pay) HP1.out HP2.out ?_; intro y p hl hd; have HY := Lib.hid (And.intro (And.intro (Below.trans b3.out (hd.mono b3.out.size)) hl) hd); clear hl hd)
        | (go_at_call 17; refine (HA.out _ _ HY.out.1.1 HY.out.1.2).mono ?_; rintro e w3 ⟨v, rfl, hv, hd⟩; have HV := Lib.hid (And.intro hv hd); clear hv hd))
      go_ret2
      exact ⟨v, rfl, owns_mono HV.out.1 HY.out.1.1.size, HY.out.1.1.trans (HV.out.2.mono HY.out.1.1.size)⟩
end Go.Proofs.YtgoblolbkchggaaDoor
