/- Of: the header that any bytes are. -/
import Derived.Test.YtgoblolbkchggaaDoorHp
namespace Go.Proofs.YtgoblolbkchggaaDoor
open Go.RowKit
attribute [local go_sem ↓ high] zeroHv zeroHd

theorem results_ct {fn : Func} {p q : Tmp} {ty : TypeId} {P : Program} {w : World} (h : fn.results = #[.cell p ty, .tmp q]) (tmps : Array Value) (g : Nat) (v : Value)
    (ha : tmps.getD p undef = .pointer (some ⟨g, 0, none⟩)) (hl : (loadVar ty ⟨g, 0, none⟩).run P w = .ok v w) : (results fn tmps).run P w = .ok (.tuple #[v, tmps.getD q undef]) w := by
  have hp' : tmps[p]?.getD undef = .pointer (some ⟨g, 0, none⟩) := by simpa using ha
  simp [results, h, hp', asAddr, hl]
/-- A header and no error, or none and ErrImage. -/
def OfP (o : Option Hd) (w : World) (e : Ending) (w' : World) : Prop := (match o with
  | some h => e = .returned (.tuple #[.agg (vec 35 (hdF h)), .int .i64 0])
  | none => e = .returned (.tuple #[.agg (vec 35 (hdF zHd)), .int .i64 150])) ∧ Below w.heap.size w w'
theorem ofH_no {b : By} (h : isH b = false) : ofH b = none := by unfold ofH; rw [h]; rfl
theorem ofH_yes {b : By} (h : isH b = true) : ofH b = some (readH b) := by unfold ofH; rw [h]; rfl
theorem isH_off {b : By} (h : b.length ≠ 64) : isH b = false := by unfold isH; rw [decide_eq_false h]; rfl
set_option maxHeartbeats 1000000 in
set_option maxRecDepth 100000 in
theorem of_any (b : By) (A : Option Addr) (c : Nat) (w : World) (hl : Lies w w.heap.size 1 A b.length (u8s b)) : Calls Tryd.prog 10 #[.slice A b.length c] w (OfP (ofH b) w) := by
  obtain ⟨g0, hg0⟩ : ∃ g, g = w.heap.size := ⟨_, rfl⟩
  obtain ⟨V, hV⟩ : ∃ V, V = w.alloc (.cells (vec 35 (hdF zHd)) 26) := ⟨_, rfl⟩
  have k0 : Arr V g0 26 35 (hdF zHd) := by rw [hV, hg0]; exact Arr.new w _ _ _
  have hB : Below w.heap.size w V := by rw [hV]; exact (Below.refl _ _).alloc (Nat.le_refl _) _
  have HG := Lib.hid hg0
  have HW := Lib.hid hV
  obtain ⟨N, hN⟩ : ∃ n, n = b.length := ⟨_, rfl⟩
  by_cases h64 : b.length = 64
  · have e64 : N = 64 := by rw [hN]; exact h64
    rw [← hN, e64]
    rw [h64] at hl
    obtain ⟨a, rfl, hab, hcl⟩ := lies_cells hl h64 (Nat.le_refl _) (by decide)
    have hcV : ∀ i, i < 64 → V.cell? (a.add i) = some (bys (kF b) i) := fun i hi => (hB.cell (by rw [addr_add_block]; exact hab)).trans (hcl i hi)
    have HK := Lib.hid (And.intro k0 (And.intro hB hcV))
    have hpt := fun W => arr_at64 a 64 c (Nat.le_refl _) W
    have HR := Lib.hid (fun W => read_any b h64 W)
    have HH : Hid (∀ h : Hd, HdB h → h.name.length ≤ 16 → (nameOk h.name && decide (layL h = b)) = isH b → ∀ W, Calls Tryd.prog 21 #[.agg (vec 99 (hvF h b))] W (EqV (isH b) W)) := Lib.hid (fun h h1 h2 h3 W => by
      have := whole_any h b h1 h64 (by omega) W
      rw [h3] at this
      exact this)
    have HF : Hid (ofH b = if isH b = true then some (readH b) else none) := Lib.hid rfl
    unfold ReP at HR
    obtain ⟨R, hRR⟩ : ∃ R, R = readH b := ⟨_, rfl⟩
    rw [← hRR] at HR HF
    obtain ⟨q, hq⟩ : ∃ q, q = isH b := ⟨_, rfl⟩
    obtain ⟨O, hO⟩ : ∃ O, O = ofH b := ⟨_, rfl⟩
    rw [← hq] at HR HH HF
    rw [← hO] at HF ⊢
    clear hV k0 hB hg0 hN e64 hl hcl hcV hab h64 hq hO hRR
    cases q
    · obtain rfl : O = none := by rw [HF.out]; rfl
      unfold OfP
      go_enter Tryd.func10, Tryd.ntmps10
      go_upto_region 1 with fail
      rw [← HW.out, ← HG.out]
      clear HW
      go_upto_region 4 with (first
        | ((with_reducible show wpList _ _ _ (Oper.mk _ (.load _ _) _ _ _ _ :: _) _ _); refine wl_load_q rfl 47 _ rfl a rfl _ (run_load_q HK.out.2.2 Tryd.underlying47 rfl info64) ?_)
        | (go_at_call 20; refine (HR.out _).mono ?_; rintro e w1 ⟨h, rfl, hhb, hhn, hhw, hhe, hd⟩; have HE := Lib.hid hhe; have HWH := Lib.hid (HH.out h hhb hhn hhw); have HD := Lib.hid hd; clear hd hhb hhn hhw hhe)
        | ((with_reducible show wpList _ _ _ (Oper.mk _ (.store 49 _ _) _ _ _ _ :: _) _ _); refine wl_store rfl 49 _ _ rfl _ rfl _ rfl (run_store_arr (Arr.new w1 _ _ _) (hvF h b) infoHv (hvF_one _ _ _)) ?_))
      obtain ⟨r, X, hX, hr, hXr, hXb, hVr⟩ := hv_new (h := h) (b := b) HD.out
      rw [← hX, ← hr]
      have hx0 : Arr X g0 26 35 (hdF zHd) := HK.out.1.under hXb
      have HX := Lib.hid (And.intro hXr (And.intro hx0 (And.intro (HK.out.2.1.trans (hXb.mono HK.out.2.1.size)) hVr)))
      clear hX hr hXr hXb hVr HD hx0 HK HR HH HF hpt
      go_wp2_with (first
        | ((with_reducible show wpList _ _ _ (Oper.mk (some 13) (.load _ _) _ _ _ _ :: _) _ _); refine wl_load rfl 49 _ rfl r rfl _ (run_load_arr HX.out.1 Tryd.underlying49 rfl infoHv) ?_)
        | (go_at_call 21; refine (HWH.out _).mono ?_; rintro e w2 ⟨rfl, hd⟩; have HD := Lib.hid hd; clear hd)
        | ((with_reducible show wpList _ _ _ (Oper.mk _ (.build _ _) _ _ _ _ :: _) _ _); refine wl_build rfl 26 _ rfl (vec 35 (hdF zHd)) (by kernel_rfl) ?_)
        | ((with_reducible show wpList _ _ _ (Oper.mk _ (.store 26 _ _) _ _ _ _ :: _) _ _); refine wl_store rfl 26 _ _ rfl g0 rfl _ rfl (run_store_arr (HX.out.2.1.under HD.out) (hdF zHd) infoHd (hdF_one _ _)) ?_))
      have b1 := (HX.out.2.2.1.trans (HD.out.mono HX.out.2.2.1.size))
      exact bodyPost_ret (results_ct rfl _ _ _ rfl (run_load_arr ((HX.out.2.1.under HD.out).row _) Tryd.underlying26 rfl infoHd)) rfl ⟨rfl, below_row b1 (by have := HG.out; omega) _⟩
    · obtain rfl : O = some R := by rw [HF.out]; rfl
      unfold OfP
      go_enter Tryd.func10, Tryd.ntmps10
      go_upto_region 1 with fail
      rw [← HW.out, ← HG.out]
      clear HW
      go_upto_region 4 with (first
        | ((with_reducible show wpList _ _ _ (Oper.mk _ (.load _ _) _ _ _ _ :: _) _ _); refine wl_load_q rfl 47 _ rfl a rfl _ (run_load_q HK.out.2.2 Tryd.underlying47 rfl info64) ?_)
        | (go_at_call 20; refine (HR.out _).mono ?_; rintro e w1 ⟨h, rfl, hhb, hhn, hhw, hhe, hd⟩; have HE := Lib.hid hhe; have HWH := Lib.hid (HH.out h hhb hhn hhw); have HD := Lib.hid hd; clear hd hhb hhn hhw hhe)
        | ((with_reducible show wpList _ _ _ (Oper.mk _ (.store 49 _ _) _ _ _ _ :: _) _ _); refine wl_store rfl 49 _ _ rfl _ rfl _ rfl (run_store_arr (Arr.new w1 _ _ _) (hvF h b) infoHv (hvF_one _ _ _)) ?_))
      obtain ⟨r, X, hX, hr, hXr, hXb, hVr⟩ := hv_new (h := h) (b := b) HD.out
      rw [← hX, ← hr]
      have hx0 : Arr X g0 26 35 (hdF zHd) := HK.out.1.under hXb
      have HX := Lib.hid (And.intro hXr (And.intro hx0 (And.intro (HK.out.2.1.trans (hXb.mono HK.out.2.1.size)) hVr)))
      clear hX hr hXr hXb hVr HD hx0 HK HR HH HF hpt
      obtain rfl := HE.out (by first | rfl | trivial)
      go_wp2_with (first
        | ((with_reducible show wpList _ _ _ (Oper.mk (some 13) (.load _ _) _ _ _ _ :: _) _ _); refine wl_load rfl 49 _ rfl r rfl _ (run_load_arr HX.out.1 Tryd.underlying49 rfl infoHv) ?_)
        | (go_at_call 21; refine (HWH.out _).mono ?_; rintro e w2 ⟨rfl, hd⟩; have HD := Lib.hid hd; clear hd)
        | ((with_reducible show wpList _ _ _ (Oper.mk (some 18) (.load _ _) _ _ _ _ :: _) _ _); refine wl_load_at rfl 26 _ rfl r 0 rfl _ (run_load_spl (hv_hd (HX.out.1.under HD.out)) Tryd.underlying26 rfl infoHd) ?_)
        | ((with_reducible show wpList _ _ _ (Oper.mk _ (.store 26 _ _) _ _ _ _ :: _) _ _); refine wl_store rfl 26 _ _ rfl g0 rfl _ rfl (run_store_arr (HX.out.2.1.under HD.out) (hdF h) infoHd (hdF_one _ _)) ?_))
      have b1 := (HX.out.2.2.1.trans (HD.out.mono HX.out.2.2.1.size))
      exact bodyPost_ret (results_ct rfl _ _ _ rfl (run_load_arr ((HX.out.2.1.under HD.out).row _) Tryd.underlying26 rfl infoHd)) rfl ⟨rfl, below_row b1 (by have := HG.out; omega) _⟩
  · rw [ofH_no (isH_off h64), ← hN]
    have hn : ¬ (N : Int) = 64 := by omega
    have hn2 : ((N : Int) == 64) = false := by simp; omega
    have HK := Lib.hid (And.intro k0 hB)
    clear hV k0 hB hg0 hN hl h64
    unfold OfP
    go_enter Tryd.func10, Tryd.ntmps10
    go_upto_region 1 with fail
    rw [← HW.out, ← HG.out]
    clear HW
    go_wp2_with (first
      | ((with_reducible show wpList _ _ _ (Oper.mk _ (.build _ _) _ _ _ _ :: _) _ _); refine wl_build rfl 26 _ rfl (vec 35 (hdF zHd)) (by kernel_rfl) ?_)
      | ((with_reducible show wpList _ _ _ (Oper.mk _ (.store 26 _ _) _ _ _ _ :: _) _ _); refine wl_store rfl 26 _ _ rfl g0 rfl _ rfl (run_store_arr HK.out.1 (hdF zHd) infoHd (hdF_one _ _)) ?_))
    exact bodyPost_ret (results_ct rfl _ _ _ rfl (run_load_arr (HK.out.1.row _) Tryd.underlying26 rfl infoHd)) rfl ⟨rfl, below_row HK.out.2 (by have := HG.out; omega) _⟩
end Go.Proofs.YtgoblolbkchggaaDoor
