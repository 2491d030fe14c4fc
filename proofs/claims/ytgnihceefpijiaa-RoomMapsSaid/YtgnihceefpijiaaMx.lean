/- room.Maps: the parts of a guest's addresses, in order, or why there are none. -/
import Derived.Test.YtgnihceefpijiaaAp
import Derived.Test.YtgnihceefpijiaaLw16
namespace Go.Proofs.Ytgnihceefpijiaa
open Go.RowKit
attribute [local go_sem ↓ high] zeroCf

theorem partsR_B {t : Gs} {chs : List Ch} {g : Int} (hw : ∀ y ∈ t.wins, WiB y) (hd : ∀ y ∈ t.devs, DeB y) (hc : ∀ y ∈ chs, ChB y) : ∀ y ∈ partsR t chs g, MpB y.m := fun y hy => by
  have h : y.m ∈ partsP t chs g := by rw [← parts_m]; exact List.mem_map.2 ⟨y, hy, rfl⟩
  exact parts_B hw hd hc _ ((sortP_perm _).mem_iff.2 h)
theorem gdAll_no {t : Gs} {chs : List Ch} {g : Int} (h : (partsR t chs g).all (fun y => gdS y.m) = false) : okM (sortP (partsP t chs g)) = false := by
  rw [← Bool.not_eq_true, okM_perm (sortP_perm _), okM_iff]
  rintro ⟨h1, -⟩
  rw [← Bool.not_eq_true, List.all_eq_true] at h
  refine h fun y hy => h1 _ ?_
  rw [← parts_m]
  exact List.mem_map.2 ⟨y, hy, rfl⟩
theorem sorted_m {r : List Rk} (h : SortR r) : Sorted (r.map Rk.m) := by
  unfold Sorted
  rw [List.pairwise_map]
  exact h
theorem maps_ok {t : Gs} {chs : List Ch} {g : Int} {r : List Rk} (hB : ∀ y ∈ partsR t chs g, MpB y.m) (hg : (partsR t chs g).all (fun y => gdS y.m) = true) (hp : r.Perm (partsR t chs g)) (hs : SortR r) :
    apartB r = okM (sortP (partsP t chs g)) ∧ (apartB r = true → r.map Rk.m = sortP (partsP t chs g)) := by
  have hm : (r.map Rk.m).Perm (partsP t chs g) := by rw [← parts_m]; exact hp.map _
  have h1 : apartB r = okM (r.map Rk.m) := apart_ok (fun y hy => hB y (hp.mem_iff.1 hy)) (fun y hy => List.all_eq_true.1 hg y (hp.mem_iff.1 hy)) hs
  have h2 : okM (r.map Rk.m) = okM (partsP t chs g) := okM_perm hm
  refine ⟨by rw [h1, h2, okM_perm (sortP_perm _)], fun h => ?_⟩
  refine sort_unique (fun z hz => ?_) hm (sorted_m hs) (by rw [← h2, ← h1]; exact h)
  rw [← parts_m] at hz
  obtain ⟨y, hy, rfl⟩ := List.mem_map.1 hz
  exact hB y hy
set_option maxHeartbeats 4000000 in
set_option maxRecDepth 100000 in
theorem codeMaps : CodeMaps := fun x a c g w hx hb hf => by
  obtain ⟨q0, hq0⟩ : ∃ q, q = w.heap.size := ⟨_, rfl⟩
  obtain ⟨V, hV⟩ : ∃ V, V = w.alloc (.cells (vec 3 (cfE x.ver a c)) 26) := ⟨_, rfl⟩
  have k1 : Arr V q0 26 3 (cfE x.ver a c) := by rw [hV, hq0]; exact Arr.new w _ _ _
  have hB : Below w.heap.size w V := by rw [hV]; exact (Below.refl _ _).alloc (Nat.le_refl _) _
  obtain ⟨A, d, A2, d2, rfl, rfl, hch, hgu⟩ := cf_guest hx
  have HV := Lib.hid hV
  have HQ0 := Lib.hid hq0
  have HB := Lib.hid hB
  have HK := Lib.hid k1
  have HX := Lib.hid hx
  have HCB := Lib.hid hb
  have HF := Lib.hid hf
  obtain ⟨Q, hQ⟩ : ∃ Q, Q = MapsC (mapsP x g) w := ⟨_, rfl⟩
  have HQE : Hid (∀ (n : Nat) (W : World), mapsP x g = .error n → Below w.heap.size w W → Q (.returned (.tuple #[.slice none 0 0, .int .i64 (n : Int)])) W) := Lib.hid (fun n W h1 h2 => by rw [hQ]; unfold MapsC; rw [h1]; exact ⟨none, 0, rfl, h2⟩)
  have HQO : Hid (∀ (l : List Mp) (v : Value) (W : World), mapsP x g = .ok l → OwnM W w.heap.size v l → Below w.heap.size w W → Q (.returned (.tuple #[v, .int .i64 0])) W) := Lib.hid (fun l v W h1 h2 h3 => by rw [hQ]; unfold MapsC; rw [h1]; exact ⟨v, rfl, h2, h3⟩)
  obtain ⟨NG, hNG⟩ : ∃ n, n = x.gs.length := ⟨_, rfl⟩
  obtain ⟨NC, hNC⟩ : ∃ n, n = x.chs.length := ⟨_, rfl⟩
  have HTH := Lib.hid (fun W => there_any x.ver A NG d (.slice A2 NC d2) g W)
  rw [← hQ]
  unfold cfVal
  rw [← hNG, ← hNC] at HK HV ⊢
  unfold EqV at HTH
  by_cases hno : g < 0 ∨ (x.gs.length : Int) ≤ g
  · have hm : mapsP x g = .error 1 := by unfold mapsP; rw [guestAt_no hno]
    rw [← hNG] at hno
    rw [thereB_no hno] at HTH
    have HM := Lib.hid hm
    clear hx hb hf hV hq0 k1 hB hQ hch hgu hno hm hNG hNC
    go_enter Try.func9, Try.ntmps9
    go_upto_region 1 with fail
    rw [← HV.out, ← HQ0.out]
    clear HV HQ0
    go_wp2_with (first
      | ((with_reducible show wpList _ _ _ (Oper.mk (some 8) (.load 26 _) _ _ _ _ :: _) _ _); refine wl_load rfl 26 _ rfl q0 rfl _ (run_load_arr HK.out Try.underlying26 rfl infoCf) ?_)
      | (go_at_call 22; refine (HTH.out _).mono ?_; rintro e w1 ⟨rfl, hd⟩; have HD1 := Lib.hid hd; clear hd))
    exact HQE.out 1 _ HM.out (HB.out.trans (HD1.out.mono HB.out.size))
  · obtain ⟨i, rfl⟩ := Int.eq_ofNat_of_zero_le (show 0 ≤ g by omega)
    have hi : i < x.gs.length := by omega
    have hga := guestAt_yes hi
    rw [thereB_yes (by omega)] at HTH
    have hgb := hb.gs _ (List.getElem_mem hi)
    obtain ⟨t, ht⟩ : ∃ t, t = x.gs[i] := ⟨_, rfl⟩
    rw [← ht] at hga hgb
    have hpg : partsG x (i : Int) = partsR t x.chs (i : Int) := by unfold partsG; rw [hga]
    have hpb := partsR_B (t := t) (chs := x.chs) (g := (i : Int)) hgb.wins hgb.devs hb.chs
    have hmp : mapsP x (i : Int) = if okM (sortP (partsP t x.chs (i : Int))) = true then .ok (sortP (partsP t x.chs (i : Int))) else .error 160 := by unfold mapsP; rw [hga]
    have hpl := partsG_len (i : Int) hf
    have HGA : Hid (∀ W, Below V.heap.size V W → Calls Try.prog 23 #[.agg (vec 3 (cfE x.ver (.slice A NG d) (.slice A2 NC d2))), .int .i64 (i : Int)] W (GathP x (i : Int) W)) := Lib.hid fun W hW => by
      have h := gathered_any x _ _ (i : Int) W (hx.up (hB.trans (hW.mono hB.size))) hb hf
      unfold cfVal at h
      rw [← hNG, ← hNC] at h
      exact h
    have HPG := Lib.hid hpg
    have HPB := Lib.hid hpb
    have HMP := Lib.hid hmp
    have HPL := Lib.hid hpl
    obtain ⟨b, hgd⟩ : ∃ b, b = gdAll x (i : Int) := ⟨_, rfl⟩
    unfold GathP at HGA
    rw [← hgd] at HGA
    have HGD := Lib.hid hgd
    clear hx hb hf hV hq0 k1 hB hQ hch hgu hno hNG hNC hi hga hgb ht hpg hpb hmp hpl hgd
    cases b
    · have hno := gdAll_no (t := t) (chs := x.chs) (g := (i : Int)) (by rw [← HPG.out]; exact HGD.out.symm)
      have HM : Hid (mapsP x (i : Int) = .error 160) := Lib.hid (by rw [HMP.out, hno]; rfl)
      clear hno
      go_enter Try.func9, Try.ntmps9
      go_upto_region 1 with fail
      rw [← HV.out, ← HQ0.out]
      clear HV HQ0
      go_wp2_with (first
        | ((with_reducible show wpList _ _ _ (Oper.mk (some 8) (.load 26 _) _ _ _ _ :: _) _ _); refine wl_load rfl 26 _ rfl q0 rfl _ (run_load_arr HK.out Try.underlying26 rfl infoCf) ?_)
        | ((with_reducible show wpList _ _ _ (Oper.mk (some 13) (.load 26 _) _ _ _ _ :: _) _ _); refine wl_load rfl 26 _ rfl q0 rfl _ (run_load_arr (HK.out.under HD1.out) Try.underlying26 rfl infoCf) ?_)
        | (go_at_call 22; refine (HTH.out _).mono ?_; rintro e w1 ⟨rfl, hd⟩; have HD1 := Lib.hid hd; clear hd)
        | (go_at_call 23; refine (HGA.out _ HD1.out).mono ?_; intro e w2 hg; rw [if_neg (by decide)] at hg; obtain ⟨rfl, hd⟩ := hg; have HD2 := Lib.hid (HD1.out.trans (hd.mono HD1.out.size)); clear hd HGA))
      exact HQE.out 160 _ HM.out (HB.out.trans (HD2.out.mono HB.out.size))
    · have HGA2 := Lib.hid (fun W hW => (HGA.out W hW).mono (fun e w' h => (show (∃ (v : Value) (r : List Rk), e = .returned (.tuple #[v, .bool true]) ∧ r.Perm (partsG x (i : Int)) ∧ SortR r ∧ OwnR w' W.heap.size v r ∧ Below W.heap.size W w') by simpa using h)))
      clear HGA
      have HOKR : Hid (∀ r : List Rk, r.Perm (partsG x (i : Int)) → SortR r → apartB r = okM (sortP (partsP t x.chs (i : Int))) ∧ (apartB r = true → r.map Rk.m = sortP (partsP t x.chs (i : Int)))) := Lib.hid fun r h1 h2 => maps_ok HPB.out (by rw [← HPG.out]; exact HGD.out.symm) (by rw [← HPG.out]; exact h1) h2
      go_enter Try.func9, Try.ntmps9
      go_upto_region 1 with fail
      rw [← HV.out, ← HQ0.out]
      clear HV HQ0
      go_upto_region 4 with (first
        | ((with_reducible show wpList _ _ _ (Oper.mk (some 8) (.load 26 _) _ _ _ _ :: _) _ _); refine wl_load rfl 26 _ rfl q0 rfl _ (run_load_arr HK.out Try.underlying26 rfl infoCf) ?_)
        | ((with_reducible show wpList _ _ _ (Oper.mk (some 13) (.load 26 _) _ _ _ _ :: _) _ _); refine wl_load rfl 26 _ rfl q0 rfl _ (run_load_arr (HK.out.under HD1.out) Try.underlying26 rfl infoCf) ?_)
        | (go_at_call 22; refine (HTH.out _).mono ?_; rintro e w1 ⟨rfl, hd⟩; have HD1 := Lib.hid hd; clear hd)
        | (go_at_call 23; refine (HGA2.out _ HD1.out).mono ?_; rintro e w2 ⟨v, r, rfl, hp, hs, ho, hd⟩; have HD2 := Lib.hid (HD1.out.trans (hd.mono HD1.out.size)); have HR := Lib.hid (And.intro hp (And.intro hs ho)); clear hd hp hs ho HGA2))
      obtain ⟨h1, h2⟩ := HOKR.out r HR.out.1 HR.out.2.1
      obtain ⟨B, e4, rfl, -, hrow, -⟩ := HR.out.2.2.form
      have hrl : r.length ≤ 1000000 := by rw [HR.out.1.length_eq]; have := HPL.out; omega
      have HRL := Lib.hid hrl
      have HROW := Lib.hid hrow
      have HAPA := Lib.hid (apart_any r B e4 w2 (fun y hy => HPB.out y (by rw [← HPG.out]; exact HR.out.1.mem_iff.1 hy)) hrow hrl)
      obtain ⟨ab, hab⟩ : ∃ b, b = apartB r := ⟨_, rfl⟩
      rw [← hab] at h1 h2 HAPA
      have H1 := Lib.hid h1
      have H2 := Lib.hid h2
      unfold EqV at HAPA
      clear h1 h2 hrow hrl hab HOKR
      cases ab
      · have HM : Hid (mapsP x (i : Int) = .error 160) := Lib.hid (by rw [HMP.out, ← H1.out]; rfl)
        go_wp2_with (go_at_call 24; refine HAPA.out.mono ?_; rintro e w3 ⟨rfl, hd⟩; have HD3 := Lib.hid (HD2.out.trans (hd.mono HD2.out.size)); clear hd)
        exact HQE.out 160 _ HM.out (HB.out.trans (HD3.out.mono HB.out.size))
      · have HM : Hid (mapsP x (i : Int) = .ok (r.map Rk.m)) := Lib.hid (by rw [HMP.out, ← H1.out, H2.out rfl]; rfl)
        go_wp2_with (first
          | (go_at_call 24; refine HAPA.out.mono ?_; rintro e w3 ⟨rfl, hd⟩; have HD3 := Lib.hid (HD2.out.trans (hd.mono HD2.out.size)); have HBA := Lib.hid (bare_any r B e4 w3 (HROW.out.up hd) HRL.out); clear hd)
          | (go_at_call 25; refine HBA.out.mono ?_; rintro e w4 ⟨v4, rfl, ho4, hd4⟩; have HD4 := Lib.hid (And.intro (HD3.out.trans (hd4.mono HD3.out.size)) ho4); clear hd4 ho4))
        exact HQO.out _ _ _ HM.out (HD4.out.2.low (Nat.le_trans HB.out.size HD3.out.size)) (HB.out.trans (HD4.out.1.mono HB.out.size))
end Go.Proofs.Ytgnihceefpijiaa
