/- The reference's At: the first part that has an address. -/
import Derived.Test.YtgnihceefpijiaaRp
import Derived.Deep.CutBlock
namespace Go.Proofs.Ytgnihceefpijiaa
open Go.RowKit
attribute [local go_sem ↓ high] zeroMp zeroSp

/-- Where an address lies within a part. -/
def adrP (x : Mp) (p : Nat) : Int := IntKind.u64.wrap (x.pa + ((p : Int) - x.ipa))
/-- What At answers. -/
def AtP (o : Option Mp) (p : Nat) (w : World) (e : Ending) (w' : World) : Prop := (match o with
  | some x => e = .returned (.tuple #[.agg (vec 5 (mpE x)), .int .u64 (adrP x p), .bool true])
  | none => e = .returned (.tuple #[.agg (vec 5 (mpE zMp)), .int .u64 0, .bool false])) ∧ Below w.heap.size w w'
theorem at_first {l : List Mp} {p k : Nat} (hk : k < l.length) (h : has (ipaS l[k]) p = true) (hb : ∀ j (hj : j < l.length), j < k → has (ipaS l[j]) p = false) : atP l p = some l[k] := by
  unfold atP
  rw [List.find?_eq_some_iff_getElem]
  exact ⟨h, k, hk, rfl, fun j hj => by rw [hb j (by omega) hj]; rfl⟩
theorem at_none {l : List Mp} {p : Nat} (hb : ∀ j (hj : j < l.length), has (ipaS l[j]) p = false) : atP l p = none := by
  unfold atP
  rw [List.find?_eq_none]
  intro x hx
  obtain ⟨j, hj, rfl⟩ := List.mem_iff_getElem.1 hx
  rw [hb j hj]; decide
theorem results_ctt {fn : Func} {p q r : Tmp} {ty : TypeId} {P : Program} {w : World} (h : fn.results = #[.cell p ty, .tmp q, .tmp r]) (tmps : Array Value) (g : Nat) (v : Value)
    (ha : tmps.getD p undef = .pointer (some ⟨g, 0, none⟩)) (hl : (loadVar ty ⟨g, 0, none⟩).run P w = .ok v w) : (results fn tmps).run P w = .ok (.tuple #[v, tmps.getD q undef, tmps.getD r undef]) w := by
  have hp' : tmps[p]?.getD undef = .pointer (some ⟨g, 0, none⟩) := by simpa using ha
  simp [results, h, hp', asAddr, hl]
set_option maxHeartbeats 2000000 in
set_option maxRecDepth 100000 in
theorem rat_any (l : List Mp) (A : Option Addr) (c : Nat) (hlen : l.length ≤ 1000000) (p : Nat) (hp : p < 18446744073709551616) (w : World) (hr : RowE 5 mpE w w.heap.size A l) (hb : ∀ x ∈ l, MpB x) : Calls Try.prog 13 #[.slice A l.length c, .int .u64 (p : Int)] w (AtP (atP l p) p w) := by
  obtain ⟨g0, hg0⟩ : ∃ g, g = w.heap.size := ⟨_, rfl⟩
  obtain ⟨V, hV⟩ : ∃ V, V = w.alloc (.cells (vec 5 (mpE zMp)) 39) := ⟨_, rfl⟩
  have k0 : Arr V g0 39 5 (mpE zMp) := by rw [hV, hg0]; exact Arr.new w _ _ _
  have hB : Below w.heap.size w V := by rw [hV]; exact (Below.refl _ _).alloc (Nat.le_refl _) _
  obtain ⟨N, hN⟩ : ∃ n, n = l.length := ⟨_, rfl⟩
  have HNL := Lib.hid hN
  have hN2 : N ≤ 1000000 := by rw [hN]; exact hlen
  have HR := Lib.hid (hr.up hB)
  have HMB := Lib.hid hb
  have HK := Lib.hid (And.intro k0 hB)
  have HW := Lib.hid hV
  have HG := Lib.hid hg0
  have HNO : Hid (∀ W, atP l p = none → Below w.heap.size w W → AtP (atP l p) p w (.returned (.tuple #[.agg (vec 5 (mpE zMp)), .int .u64 0, .bool false])) W) := Lib.hid (fun W h1 h2 => by rw [h1]; exact ⟨rfl, h2⟩)
  have HYES : Hid (∀ x W, atP l p = some x → Below w.heap.size w W → AtP (atP l p) p w (.returned (.tuple #[.agg (vec 5 (mpE x)), .int .u64 (adrP x p), .bool true])) W) := Lib.hid (fun x W h1 h2 => by rw [h1]; exact ⟨rfl, h2⟩)
  have HFI : Hid (∀ k (hk : k < l.length), has (ipaS l[k]) p = true → (∀ j (hj : j < l.length), j < k → has (ipaS l[j]) p = false) → atP l p = some l[k]) := Lib.hid (fun k hk h1 h2 => at_first hk h1 h2)
  have HFN : Hid ((∀ j (hj : j < l.length), has (ipaS l[j]) p = false) → atP l p = none) := Lib.hid at_none
  obtain ⟨O, hO⟩ : ∃ O, O = atP l p := ⟨_, rfl⟩
  rw [← hO] at HNO HYES HFI HFN ⊢
  obtain ⟨Q, hQ⟩ : ∃ Q, Q = AtP O p w := ⟨_, rfl⟩
  rw [← hQ] at HNO HYES ⊢
  rw [← hN]
  clear hV k0 hB hr hb hg0 hN hO hQ
  go_enter Try.func13, Try.ntmps13
  go_upto_region 1 with fail
  rw [← HW.out, ← HG.out]
  clear HW
  go_wp2_with fail
  go_loopw [5, 6, 11] (fun _ _ v W => ∃ k : Nat, k ≤ N ∧ v = .int .i64 k ∧ Hid (∀ j (hj : j < l.length), j < k → has (ipaS l[j]) p = false) ∧ Hid (Below V.heap.size V W)) (fun _ _ i _ => N - (intOf i).toNat)
  case atStart => exact ⟨0, Nat.zero_le _, rfl, Lib.hid (fun j _ hj => absurd hj (Nat.not_lt_zero _)), Lib.hid (Below.refl _ _)⟩
  case round =>
    obtain ⟨k, hk, rfl, HP0, HB⟩ := hrel
    obtain ⟨W, hW⟩ : ∃ W : World, W = wr := ⟨_, rfl⟩
    subst hW
    by_cases hlt0 : k < N
    · have hlt : k < l.length := by have := HNL.out; omega
      have g1 := HR.out.up HB.out
      obtain ⟨a, q, rfl, hq, -, hcp⟩ := g1.at hlt
      obtain ⟨y, hy⟩ : ∃ y, y = l[k] := ⟨_, rfl⟩
      rw [← hy] at hcp
      have hyb : MpB y := by rw [hy]; exact HMB.out _ (List.getElem_mem _)
      have HNEXT : Hid (has (ipaS y) p = false → ∀ j (hj : j < l.length), j < k + 1 → has (ipaS l[j]) p = false) := Lib.hid (fun h j hj hjk => by
        by_cases e : j = k
        · subst e; rw [← hy]; exact h
        · exact HP0.out j hj (by omega))
      have HFOUND : Hid (has (ipaS y) p = true → O = some y) := Lib.hid (fun h => by rw [hy]; exact HFI.out k hlt (by rw [← hy]; exact h) HP0.out)
      have hki : (k : Int) < (N : Int) := by omega
      obtain ⟨r, hr⟩ : ∃ r, r = W.heap.size := ⟨_, rfl⟩
      obtain ⟨X, hX⟩ : ∃ X, X = (W.alloc (.cells (vec 5 (mpE zMp)) 39)).setRow W.heap.size (vec 5 (mpE y)) := ⟨_, rfl⟩
      have b1 : Below W.heap.size W X := by rw [hX]; exact below_row ((Below.refl _ _).alloc (Nat.le_refl _) _) (Nat.le_refl _) _
      have a1 : Arr X r 39 5 (mpE y) := by rw [hX, hr]; exact (Arr.new W _ _ _).row _
      have hrg : r ≠ g0 := by have := HK.out.1.lt; have := HB.out.size; omega
      have HBX := Lib.hid (HB.out.trans (b1.mono HB.out.size))
      have HCP := Lib.hid hcp
      have HX := Lib.hid hX
      have HRR := Lib.hid hr
      have HA := Lib.hid (And.intro a1 hrg)
      have c0 : X.cell? ⟨r, 0, none⟩ = some (.int .u64 y.ipa) := a1.cell (i := 0) (by decide)
      have c2 : X.cell? ⟨r, 2, none⟩ = some (.int .u64 y.size) := a1.cell (i := 2) (by decide)
      have HYB := Lib.hid hyb
      have HH := Lib.hid (fun W => rhasE (ipaS y) (fit_ipa hyb) p hp W)
      have HSV : Hid (vec 2 (spE (ipaS y)) = #[.int .u64 y.ipa, .int .u64 y.size]) := Lib.hid (by
        have e1 := (u64Z_nat hyb.ipa).1
        have e2 := (u64Z_nat hyb.size).1
        show #[Value.int .u64 ((y.ipa.toNat : Nat) : Int), Value.int .u64 ((y.size.toNat : Nat) : Int)] = _
        rw [e1, e2])
      rw [HSV.out] at HH
      obtain ⟨is, his⟩ : ∃ is, is = has (ipaS y) p := ⟨_, rfl⟩
      rw [← his] at HH HNEXT HFOUND
      have hge : is = true → 0 ≤ (p : Int) - y.ipa ∧ (p : Int) - y.ipa < 18446744073709551616 := fun h => by
        rw [his, has_iff] at h
        have e1 := (u64Z_nat hyb.ipa).1
        have h2 := h.2.1
        unfold ipaS at h2
        simp only at h2
        omega
      have HGE := Lib.hid hge
      unfold EqV at HH
      clear g1 hcp hlt hr hX b1 a1 hrg hyb hy his hge
      go_upto_region 4 with (first
        | ((with_reducible show wpList _ _ _ (Oper.mk _ (.load _ _) _ _ _ _ :: _) _ _); refine wl_load_q rfl 39 _ rfl q rfl _ (run_load_q HCP.out Try.underlying39 rfl infoMp) ?_)
        | ((with_reducible show wpList _ _ _ (Oper.mk _ (.store _ _ _) _ _ _ _ :: _) _ _); refine wl_store rfl 39 _ _ rfl _ rfl _ rfl (run_store_arr (Arr.new W _ _ _) (mpE y) infoMp (mpE_one _ _)) ?_))
      rw [← HX.out, ← HRR.out]
      clear HX HCP HRR
      cases is
      · have HS := Lib.hid (HNEXT.out rfl)
        clear HNEXT HFOUND HGE
        go_wp2_with (first
          | ((with_reducible show wpList _ _ _ (Oper.mk _ (.build _ _) _ _ _ _ :: _) _ _); refine wl_build rfl 49 _ rfl #[.int .u64 y.ipa, .int .u64 y.size] (by kernel_rfl) ?_)
          | (go_at_call 21; refine (HH.out _).mono ?_; rintro e w2 ⟨rfl, hd⟩; have HD := Lib.hid (HBX.out.trans (hd.mono HBX.out.size)); clear hd))
        go_roundw
        case rel => exact ⟨k + 1, by omega, by go_num, HS, HD⟩
        case measure => simp [intOf]; omega
      · have HO := Lib.hid (HFOUND.out rfl)
        have hge := HGE.out rfl
        clear HNEXT HFOUND HGE
        go_upto_region 5 with (first
          | ((with_reducible show wpList _ _ _ (Oper.mk _ (.build _ _) _ _ _ _ :: _) _ _); refine wl_build rfl 49 _ rfl #[.int .u64 y.ipa, .int .u64 y.size] (by kernel_rfl) ?_)
          | (go_at_call 21; refine (HH.out _).mono ?_; rintro e w2 ⟨rfl, hd⟩; have HD := Lib.hid (HBX.out.trans (hd.mono HBX.out.size)); have HA2 := Lib.hid (HA.out.1.under hd); clear hd))
        have d0 : ∀ Y, Save g0 w2 Y → Y.cell? ⟨r, 0, none⟩ = some (.int .u64 y.ipa) ∧ Y.cell? ⟨r, 1, none⟩ = some (.int .u64 y.pa) := fun Y hY => by
          have h1 := HA2.out.save hY HA.out.2
          exact ⟨h1.cell (i := 0) (by decide), h1.cell (i := 1) (by decide)⟩
        have HDC := Lib.hid d0
        have w1 : IntKind.u64.wrap ((p : Int) - y.ipa) = (p : Int) - y.ipa := by rw [IntKind.wrap_u64]; omega
        have HWR := Lib.hid w1
        clear d0 w1 c0 c2
        refine wp_region_held_drew (S := fun Y => Save g0 w2 Y ∧ ∃ f, Arr Y g0 39 5 f) (by kernel_rfl) ⟨Save.of_below (VS.begin w2), _, (HK.out.1.under HD.out).drewN 1⟩ (fun hS => ?_)
        (refine held_take (i := 0) (oi := ?ot1) (v := .agg (vec 5 (mpE y))) ?at1 (by kernel_rfl) (by kernel_rfl) (by kernel_rfl) ?bt1 ?ct1 ?dt1 (by assumption) ?rt1; (case at1 => (simp only [List.getElem?_toArray, List.getElem?_cons_zero]; rfl)); (case bt1 => exact fun _ _ _ h => h); (case ct1 => kernel_rfl); (case dt1 => (intro W hW; exact exec_load_at 39 _ rfl _ _ rfl _ (run_load_arr (HA2.out.save hW.1 HA.out.2) Try.underlying39 rfl infoMp))); (case' rt1 => simp only [Act.put, List.setIfInBounds_toArray, List.set_cons_zero, List.set_cons_succ]))
        (refine held_take (i := 1) (oi := ?ot2) (v := ?vt2) ?at2 (by kernel_rfl) (by kernel_rfl) (by kernel_rfl) ?bt2 ?ct2 ?dt2 (by assumption) ?rt2; (case at2 => (simp only [List.getElem?_toArray, List.getElem?_cons_zero, List.getElem?_cons_succ]; rfl)); (case bt2 => exact fun _ _ _ h => h); (case ct2 => kernel_rfl); (case dt2 => (intro W hW; (try dsimp only at hW); go_split_ands; go_simp; (try with_reducible rfl))); (case' rt2 => simp only [Act.put, List.setIfInBounds_toArray, List.set_cons_zero, List.set_cons_succ]))
        (refine held_take (i := 2) (oi := ?ot3) (v := .int .u64 y.pa) ?at3 (by kernel_rfl) (by kernel_rfl) (by kernel_rfl) ?bt3 ?ct3 ?dt3 (by assumption) ?rt3; (case at3 => (simp only [List.getElem?_toArray, List.getElem?_cons_zero, List.getElem?_cons_succ]; rfl)); (case bt3 => exact fun _ _ _ h => h); (case ct3 => kernel_rfl); (case dt3 => (intro W hW; obtain ⟨z0, z1⟩ := HDC.out W hW.1; have w1 := HWR.out; clear hW; go_simp; (try with_reducible rfl))); (case' rt3 => simp only [Act.put, List.setIfInBounds_toArray, List.set_cons_zero, List.set_cons_succ]))
        (refine held_take (i := 3) (oi := ?ot4) (v := ?vt4) ?at4 (by kernel_rfl) (by kernel_rfl) (by kernel_rfl) ?bt4 ?ct4 ?dt4 (by assumption) ?rt4; (case at4 => (simp only [List.getElem?_toArray, List.getElem?_cons_zero, List.getElem?_cons_succ]; rfl)); (case bt4 => exact fun _ _ _ h => h); (case ct4 => kernel_rfl); (case dt4 => (intro W hW; (try dsimp only at hW); go_split_ands; go_simp; (try with_reducible rfl))); (case' rt4 => simp only [Act.put, List.setIfInBounds_toArray, List.set_cons_zero, List.set_cons_succ]))
        (refine held_take (i := 4) (oi := ?ot5) (v := ?vt5) ?at5 (by kernel_rfl) (by kernel_rfl) (by kernel_rfl) ?bt5 ?ct5 ?dt5 (by assumption) ?rt5; (case at5 => (simp only [List.getElem?_toArray, List.getElem?_cons_zero, List.getElem?_cons_succ]; rfl)); (case bt5 => exact fun _ _ _ h => h); (case ct5 => kernel_rfl); (case dt5 => (intro W hW; (try dsimp only at hW); go_split_ands; go_simp; (try with_reducible rfl))); (case' rt5 => simp only [Act.put, List.setIfInBounds_toArray, List.set_cons_zero, List.set_cons_succ]))
        (refine held_take (i := 5) (oi := ?ot6) (v := .int .u64 y.ipa) ?at6 (by kernel_rfl) (by kernel_rfl) (by kernel_rfl) ?bt6 ?ct6 ?dt6 (by assumption) ?rt6; (case at6 => (simp only [List.getElem?_toArray, List.getElem?_cons_zero, List.getElem?_cons_succ]; rfl)); (case bt6 => exact fun _ _ _ h => h); (case ct6 => kernel_rfl); (case dt6 => (intro W hW; obtain ⟨z0, z1⟩ := HDC.out W hW.1; have w1 := HWR.out; clear hW; go_simp; (try with_reducible rfl))); (case' rt6 => simp only [Act.put, List.setIfInBounds_toArray, List.set_cons_zero, List.set_cons_succ]))
        (refine held_take (i := 6) (oi := ?ot7) (v := .int .u64 ((p : Int) - y.ipa)) ?at7 (by kernel_rfl) (by kernel_rfl) (by kernel_rfl) ?bt7 ?ct7 ?dt7 (by assumption) ?rt7; (case at7 => (simp only [List.getElem?_toArray, List.getElem?_cons_zero, List.getElem?_cons_succ]; rfl)); (case bt7 => exact fun _ _ _ h => h); (case ct7 => kernel_rfl); (case dt7 => (intro W hW; obtain ⟨z0, z1⟩ := HDC.out W hW.1; have w1 := HWR.out; clear hW; go_simp; (try with_reducible rfl))); (case' rt7 => simp only [Act.put, List.setIfInBounds_toArray, List.set_cons_zero, List.set_cons_succ]))
        (refine held_take (i := 7) (oi := ?ot8) (v := .int .u64 (adrP y p)) ?at8 (by kernel_rfl) (by kernel_rfl) (by kernel_rfl) ?bt8 ?ct8 ?dt8 (by assumption) ?rt8; (case at8 => (simp only [List.getElem?_toArray, List.getElem?_cons_zero, List.getElem?_cons_succ]; rfl)); (case bt8 => exact fun _ _ _ h => h); (case ct8 => kernel_rfl); (case dt8 => (intro W hW; clear hW; unfold adrP; go_simp; (try with_reducible rfl))); (case' rt8 => simp only [Act.put, List.setIfInBounds_toArray, List.set_cons_zero, List.set_cons_succ]))
        refine held_one (i := 8) (oi := ?ot9) (by kernel_rfl) ?at9 ?ct9 (fun K8 hK8 => ?_)
        (case at9 => (simp only [List.getElem?_toArray, List.getElem?_cons_zero, List.getElem?_cons_succ]; rfl))
        (case ct9 => kernel_rfl)
        obtain ⟨fR, hR⟩ := hS.2
        refine ow_store 39 _ _ rfl _ rfl _ rfl (run_store_arr hR (mpE y) infoMp (mpE_one _ _)) ?_
        have hRR := hR.row (mpE y)
        refine hK8 _ _ ⟨hS.1.setRow _, _, hRR⟩ (fun hS8 => ?_)
        have HF := Lib.hid (And.intro hRR hS8.1)
        clear hK8 K8 hRR
        (refine held_take (i := 9) (oi := ?ot10) (v := ?vt10) ?at10 (by kernel_rfl) (by kernel_rfl) (by kernel_rfl) ?bt10 ?ct10 ?dt10 (by assumption) ?rt10; (case at10 => (simp only [List.getElem?_toArray, List.getElem?_cons_zero, List.getElem?_cons_succ]; rfl)); (case bt10 => exact fun _ _ _ h => h); (case ct10 => kernel_rfl); (case dt10 => (intro W hW; (try dsimp only at hW); go_split_ands; go_simp; (try with_reducible rfl))); (case' rt10 => simp only [Act.put, List.setIfInBounds_toArray, List.set_cons_zero, List.set_cons_succ]))
        (refine held_take (i := 10) (oi := ?ot11) (v := ?vt11) ?at11 (by kernel_rfl) (by kernel_rfl) (by kernel_rfl) ?bt11 ?ct11 ?dt11 (by assumption) ?rt11; (case at11 => (simp only [List.getElem?_toArray, List.getElem?_cons_zero, List.getElem?_cons_succ]; rfl)); (case bt11 => exact fun _ _ _ h => h); (case ct11 => kernel_rfl); (case dt11 => (intro W hW; (try dsimp only at hW); go_split_ands; go_simp; (try with_reducible rfl))); (case' rt11 => simp only [Act.put, List.setIfInBounds_toArray, List.set_cons_zero, List.set_cons_succ]))
        refine wpAnyH_done (by kernel_rfl) ?_ _
        go_wp2
        refine bodyPost_ret (results_ctt rfl _ _ _ rfl (run_load_arr HF.out.1 Try.underlying39 rfl infoMp)) rfl ?_
        exact HYES.out y _ HO.out ((HK.out.2.trans (HD.out.mono HK.out.2.size)).trans (HF.out.2.below (by have := HG.out; omega) (HK.out.2.trans (HD.out.mono HK.out.2.size)).size))
    · obtain rfl : k = N := by omega
      have HO := Lib.hid (HFN.out (fun j hj => HP0.out j hj (by have := HNL.out; omega)))
      clear hlt0
      go_wp2_with (first
        | ((with_reducible show wpList _ _ _ (Oper.mk _ (.build _ _) _ _ _ _ :: _) _ _); refine wl_build rfl 39 _ rfl (vec 5 (mpE zMp)) (by kernel_rfl) ?_)
        | ((with_reducible show wpList _ _ _ (Oper.mk _ (.store 39 _ _) _ _ _ _ :: _) _ _); refine wl_store rfl 39 _ _ rfl g0 rfl _ rfl (run_store_arr (HK.out.1.under HB.out) (mpE zMp) infoMp (mpE_one _ _)) ?_))
      refine bodyPost_ret (results_ctt rfl _ _ _ rfl (run_load_arr ((HK.out.1.under HB.out).row _) Try.underlying39 rfl infoMp)) rfl ?_
      exact HNO.out _ HO.out (below_row (HK.out.2.trans (HB.out.mono HK.out.2.size)) (by have := HG.out; omega) _)
end Go.Proofs.Ytgnihceefpijiaa
