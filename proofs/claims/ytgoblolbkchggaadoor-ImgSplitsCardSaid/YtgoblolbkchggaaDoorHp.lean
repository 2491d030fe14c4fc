/- Put, Pack: headers and images as bytes. -/
import Derived.Test.YtgoblolbkchggaaDoorHw
import Derived.Test.YtgoblolbkchggaaDoorHa
namespace Go.Proofs.YtgoblolbkchggaaDoor
open Go.RowKit
attribute [local go_sem ↓ high] zeroHv

/-- Bytes and no error, or none and ErrImage. -/
def OptP (o : Option By) (w : World) (e : Ending) (w' : World) : Prop := match o with
  | some l => ∃ v, e = .returned (.tuple #[v, .int .i64 0]) ∧ w'.ownsRow w.heap.size 5 1 v l.length (u8s l) ∧ Below w.heap.size w w'
  | none => e = .returned (.tuple #[.slice none 0 0, .int .i64 150]) ∧ Below w.heap.size w w'
def putP (h : Hd) : Option By := if nameOk h.name = true then some (layH h) else none
/-- A header with its bytes, laid in a new block. -/
theorem hv_new {h : Hd} {b : By} {w w1 : World} (hb : Below w.heap.size w w1) : ∃ r X, X = (w1.alloc (.cells (vec 99 (hvF zHd (zs 64))) 49)).setRow w1.heap.size (vec 99 (hvF h b)) ∧ r = w1.heap.size ∧ Arr X r 49 99 (hvF h b) ∧ Below w.heap.size w X ∧ w.heap.size ≤ r := by
  refine ⟨_, _, rfl, rfl, (Arr.new w1 _ _ _).row _, ?_, hb.size⟩
  exact below_row (hb.alloc hb.size _) hb.size _
set_option maxHeartbeats 1000000 in
set_option maxRecDepth 100000 in
theorem put_any (h : Hd) (hb : HdB h) (hn : h.name.length ≤ 1000000) (w : World) : Calls Tryd.prog 8 #[.agg (vec 35 (hdF h))] w (OptP (putP h) w) := by
  obtain ⟨g0, hg0⟩ : ∃ g, g = w.heap.size := ⟨_, rfl⟩
  obtain ⟨V, hV⟩ : ∃ V, V = w.alloc (.cells (vec 35 (hdF h)) 26) := ⟨_, rfl⟩
  have k0 : Arr V g0 26 35 (hdF h) := by rw [hV, hg0]; exact Arr.new w _ _ _
  have hB : Below w.heap.size w V := by rw [hV]; exact (Below.refl _ _).alloc (Nat.le_refl _) _
  have HK := Lib.hid (And.intro k0 hB)
  have HN := Lib.hid (fun W => named_any h (layL h) hn W)
  have HL := Lib.hid (fun W => laid_any h hb W)
  have HA : Hid (∀ W, Calls Tryd.prog 17 #[.agg (vec 99 (hvF h (layL h))), .slice none 0 0] W (Bytes W (layL h))) := Lib.hid (fun W => by
    have := ahead_any h (layL h) (layL_len hb.dig) [] none 0 W (Lies.nil _ _ _ _) (fun _ h => nomatch h) (by simp [catAll]) (by simp)
    simpa [catAll] using this)
  have HE : Hid (nameOk h.name = true → layL h = layH h) := Lib.hid (fun hq => layL_ok hq)
  obtain ⟨L, hL⟩ : ∃ l, l = layL h := ⟨_, rfl⟩
  unfold putP
  obtain ⟨r, hr⟩ : ∃ r, r = nameOk h.name := ⟨_, rfl⟩
  rw [← hL] at HN HL HA HE
  rw [← hr] at HN HE ⊢
  have HW := Lib.hid hV
  have HG := Lib.hid hg0
  clear hV k0 hB hL hr hg0 hb hn
  cases r
  · rw [if_neg (by decide)]
    unfold OptP
    go_enter Tryd.func8, Tryd.ntmps8
    go_upto_region 1 with fail
    rw [← HW.out, ← HG.out]
    clear HW
    go_upto_region 2 with (first
      | ((with_reducible show wpList _ _ _ (Oper.mk _ (.load _ _) _ _ _ _ :: _) _ _); refine wl_load rfl 26 _ rfl g0 rfl _ (run_load_arr HK.out.1 Tryd.underlying26 rfl infoHd) ?_)
      | (go_at_call 15; refine (HL.out _).mono ?_; rintro e w1 ⟨rfl, hd⟩; have HD := Lib.hid hd; clear hd)
      | ((with_reducible show wpList _ _ _ (Oper.mk _ (.store _ _ _) _ _ _ _ :: _) _ _); refine wl_store rfl 49 _ _ rfl _ rfl _ rfl (run_store_arr (Arr.new w1 _ _ _) (hvF h L) infoHv (hvF_one _ _ _)) ?_))
    obtain ⟨r, X, hX, hr, hXr, hXb, hVr⟩ := hv_new (h := h) (b := L) HD.out
    rw [← hX, ← hr]
    have HX := Lib.hid (And.intro hXr hXb)
    clear hX hr hXr hXb hVr HD
    go_wp2_with (first
      | ((with_reducible show wpList _ _ _ (Oper.mk _ (.load _ _) _ _ _ _ :: _) _ _); refine wl_load rfl 49 _ rfl r rfl _ (run_load_arr HX.out.1 Tryd.underlying49 rfl infoHv) ?_)
      | (go_at_call 16; refine (HN.out _).mono ?_; rintro e w2 ⟨rfl, hd⟩; have HD := Lib.hid hd; clear hd))
    go_ret2
    exact ⟨rfl, HK.out.2.trans ((HX.out.2.trans (HD.out.mono HX.out.2.size)).mono HK.out.2.size)⟩
  · rw [if_pos rfl]
    have hLE := HE.out rfl
    rw [← hLE]
    clear hLE
    unfold OptP
    go_enter Tryd.func8, Tryd.ntmps8
    go_upto_region 1 with fail
    rw [← HW.out, ← HG.out]
    clear HW
    go_upto_region 2 with (first
      | ((with_reducible show wpList _ _ _ (Oper.mk _ (.load _ _) _ _ _ _ :: _) _ _); refine wl_load rfl 26 _ rfl g0 rfl _ (run_load_arr HK.out.1 Tryd.underlying26 rfl infoHd) ?_)
      | (go_at_call 15; refine (HL.out _).mono ?_; rintro e w1 ⟨rfl, hd⟩; have HD := Lib.hid hd; clear hd)
      | ((with_reducible show wpList _ _ _ (Oper.mk _ (.store _ _ _) _ _ _ _ :: _) _ _); refine wl_store rfl 49 _ _ rfl _ rfl _ rfl (run_store_arr (Arr.new w1 _ _ _) (hvF h L) infoHv (hvF_one _ _ _)) ?_))
    obtain ⟨r, X, hX, hr, hXr, hXb, hVr⟩ := hv_new (h := h) (b := L) HD.out
    rw [← hX, ← hr]
    have HX := Lib.hid (And.intro hXr hXb)
    clear hX hr hXr hXb hVr HD
    go_wp2_with (first
      | ((with_reducible show wpList _ _ _ (Oper.mk (some 7) (.load _ _) _ _ _ _ :: _) _ _); refine wl_load rfl 49 _ rfl r rfl _ (run_load_arr HX.out.1 Tryd.underlying49 rfl infoHv) ?_)
      | ((with_reducible show wpList _ _ _ (Oper.mk (some 10) (.load _ _) _ _ _ _ :: _) _ _); refine wl_load rfl 49 _ rfl r rfl _ (run_load_arr (HX.out.1.under HD.out) Tryd.underlying49 rfl infoHv) ?_)
      | (go_at_call 16; refine (HN.out _).mono ?_; rintro e w2 ⟨rfl, hd⟩; have HD := Lib.hid hd; clear hd)
      | (go_at_call 17; refine (HA.out _).mono ?_; rintro e w3 ⟨v, rfl, hv, hd⟩; have HV := Lib.hid (And.intro hv hd); clear hv hd))
    go_ret2
    have b1 := HK.out.2.trans ((HX.out.2.trans (HD.out.mono HX.out.2.size)).mono HK.out.2.size)
    exact ⟨v, rfl, owns_mono HV.out.1 b1.size, b1.trans (HV.out.2.mono b1.size)⟩
end Go.Proofs.YtgoblolbkchggaaDoor
