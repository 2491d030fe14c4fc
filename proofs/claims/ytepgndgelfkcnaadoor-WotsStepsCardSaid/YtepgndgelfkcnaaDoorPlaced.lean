/- wots.placed, wots.Secret. -/
import Derived.Deep.Cut
import Derived.Test.YtepgndgelfkcnaaDoorPlace
import Derived.Test.YtepgndgelfkcnaaDoorVs
namespace Go.Proofs.YtepgndgelfkcnaaDoor
open Go.RowKit
attribute [local go_sem ↓ high] zeroV26 zeroV45

/-- What a region knows whose result, an array, lies in block r. -/
structure SA (t : TypeId) (n : Nat) (V : World) (r : Nat) (Y : World) : Prop where
  save : Save r V Y
  res : ∃ f, Arr Y r t n f
section
variable {V Y Z w : World} {r n : Nat} {t : TypeId}
theorem SA.begin {f : Nat → Value} (h : Arr V r t n f) : SA t n V r V.drew := ⟨(Save.refl _ _).drewN 1, f, h.drewN 1⟩
theorem SA.keep (h : SA t n V r Y) (hd : Below Y.heap.size Y Z) : SA t n V r Z := ⟨h.save.trans (Save.of_below hd), h.res.elim fun f hf => ⟨f, hf.under hd⟩⟩
theorem SA.put (h : SA t n V r Y) (f : Nat → Value) : SA t n V r (Y.setRow r (vec n f)) := ⟨h.save.setRow _, f, h.res.elim fun _ hf => hf.row _⟩
theorem SA.arr (h : SA t n V r Y) {g m : Nat} {t' : TypeId} {f : Nat → Value} (ha : Arr V g t' m f) (hg : g ≠ r) : Arr Y g t' m f := ha.save h.save hg
end
/-- Whether there is such a chain. -/
def isCh (chain : Int) : Bool := decide (0 ≤ chain ∧ chain ≤ 66)
/-- What placed answers. -/
def placedV (seed : Nat → UInt8) (idx : Nat) (chain : Int) : Nat → Value := if isCh chain = true then plF (idx : Int) chain 0 seed else plF 0 0 0 zb

set_option maxHeartbeats 1000000 in
set_option maxRecDepth 100000 in
theorem placed_any (seed : Nat → UInt8) (idx : Nat) (chain : Int) (w : World) :
    Calls Tryd.prog 21 #[.agg (vec 32 (bys seed)), .int .u32 (idx : Int), .int .i64 chain] w fun e w' => e = .returned (.tuple #[.agg (vec 39 (placedV seed idx chain)), .bool (isCh chain)]) ∧ Below w.heap.size w w' := by
  obtain ⟨V, hV⟩ : ∃ V, V = (w.alloc (.cells (vec 32 (bys seed)) 23)).alloc (.cells (vec 39 (plF 0 0 0 zb)) 45) := ⟨_, rfl⟩
  have hA : Arr V w.heap.size 23 32 (bys seed) := by rw [hV]; exact (Arr.newAt _ _ _ _ (by simp)).alloc _
  have hR : Arr V (w.heap.size + 1) 45 39 (plF 0 0 0 zb) := by rw [hV]; exact Arr.newAt _ _ _ _ (by simp)
  have hB : Below w.heap.size w V := by rw [hV]; exact (((Below.refl _ _).alloc (by simp <;> omega) _).alloc (by simp <;> omega) _)
  have HA := Lib.hid (And.intro hA (And.intro hR hB))
  have HW := Lib.hid hV
  clear hV hA hR hB
  by_cases hc : 0 ≤ chain ∧ chain ≤ 66
  · obtain ⟨n, rfl⟩ := Int.eq_ofNat_of_zero_le hc.1
    have hn : n ≤ 66 := by omega
    have e1 : isCh (n : Int) = true := decide_eq_true hc
    have e2 : placedV seed idx (n : Int) = plF (idx : Int) (n : Int) 0 seed := by unfold placedV; rw [if_pos e1]
    rw [e1, e2]
    have hwn : IntKind.u32.wrap (n : Int) = (n : Int) := by rw [IntKind.wrap_u32']; omega
    have t1 : decide ((n : Int) < 0) = false := by simp
    have t2 : ¬ ((n : Int) < 0) := by omega
    have t3 : decide (67 ≤ (n : Int)) = false := by simp; omega
    have t4 : ¬ (67 ≤ (n : Int)) := by omega
    clear e1 e2 hc
    go_enter Tryd.func21, Tryd.ntmps21
    go_upto_region 1 with fail
    rw [← HW.out]
    clear HW
    go_upto_region 3 with fail
    refine wp_region_held_drew (S := fun Y => SA 45 39 V (w.heap.size + 1) Y) (by kernel_rfl) (SA.begin HA.out.2.1) (fun hS => ?_)
    (refine held_take (i := 0) (oi := ?ot1) (v := ?vt1) ?at1 (by kernel_rfl) (by kernel_rfl) (by kernel_rfl) ?bt1 ?ct1 ?dt1 (by assumption) ?rt1; (case at1 => (simp only [List.getElem?_toArray, List.getElem?_cons_zero]; rfl)); (case bt1 => exact fun _ _ _ h => h); (case ct1 => kernel_rfl); (case dt1 => (intro W hW; (try dsimp only at hW); go_split_ands; go_simp; (try with_reducible rfl))); (case' rt1 => simp only [Act.put, List.setIfInBounds_toArray, List.set_cons_zero, List.set_cons_succ]))
    (refine held_take (i := 1) (oi := ?ot2) (v := ?vt2) ?at2 (by kernel_rfl) (by kernel_rfl) (by kernel_rfl) ?bt2 ?ct2 ?dt2 (by assumption) ?rt2; (case at2 => (simp only [List.getElem?_toArray, List.getElem?_cons_zero, List.getElem?_cons_succ]; rfl)); (case bt2 => exact fun _ _ _ h => h); (case ct2 => kernel_rfl); (case dt2 => (intro W hW; (try dsimp only at hW); go_split_ands; go_simp; (try with_reducible rfl))); (case' rt2 => simp only [Act.put, List.setIfInBounds_toArray, List.set_cons_zero, List.set_cons_succ]))
    (refine held_take (i := 2) (oi := ?ot3) (v := ?vt3) ?at3 (by kernel_rfl) (by kernel_rfl) (by kernel_rfl) ?bt3 ?ct3 ?dt3 (by assumption) ?rt3; (case at3 => (simp only [List.getElem?_toArray, List.getElem?_cons_zero, List.getElem?_cons_succ]; rfl)); (case bt3 => exact fun _ _ _ h => h); (case ct3 => kernel_rfl); (case dt3 => (intro W hW; (try dsimp only at hW); go_split_ands; go_simp; (try with_reducible rfl))); (case' rt3 => simp only [Act.put, List.setIfInBounds_toArray, List.set_cons_zero, List.set_cons_succ]))
    (refine held_take (i := 4) (oi := ?ot4) (v := .agg (vec 32 (bys seed))) ?at4 (by kernel_rfl) (by kernel_rfl) (by kernel_rfl) ?bt4 ?ct4 ?dt4 (by assumption) ?rt4; (case at4 => (simp only [List.getElem?_toArray, List.getElem?_cons_zero, List.getElem?_cons_succ]; rfl)); (case bt4 => exact fun _ _ _ h => h); (case ct4 => kernel_rfl); (case dt4 => (intro W hW; exact exec_load 23 _ rfl _ rfl _ (run_load_arr (hW.arr HA.out.1 (by omega)) Tryd.underlying23 rfl info26))); (case' rt4 => simp only [Act.put, List.setIfInBounds_toArray, List.set_cons_zero, List.set_cons_succ]))
    refine held_one (i := 3) (oi := ?ot5) (by kernel_rfl) ?at5 ?ct5 (fun K3 hK3 => ?_)
    (case at5 => (simp only [List.getElem?_toArray, List.getElem?_cons_zero, List.getElem?_cons_succ]; rfl))
    (case ct5 => kernel_rfl)
    go_simp
    refine (ots_any (idx : Int) (n : Int) 0 _).mono ?_
    rintro e y3 ⟨rfl, hd⟩
    refine hK3 _ _ (hS.keep hd) (fun hS3 => ?_)
    clear hS hd hK3 K3
    (refine held_take (i := 5) (oi := ?ot6) (v := .agg (vec 39 (plF (idx : Int) (n : Int) 0 seed))) ?at6 (by kernel_rfl) (by kernel_rfl) (by kernel_rfl) ?bt6 ?ct6 ?dt6 (by assumption) ?rt6; (case at6 => (simp only [List.getElem?_toArray, List.getElem?_cons_zero, List.getElem?_cons_succ]; rfl)); (case bt6 => exact fun _ _ _ h => h); (case ct6 => kernel_rfl); (case dt6 => (intro W hW; exact exec_build 45 _ rfl (vec 39 (plF (idx : Int) (n : Int) 0 seed)) (by kernel_rfl) W)); (case' rt6 => simp only [Act.put, List.setIfInBounds_toArray, List.set_cons_zero, List.set_cons_succ]))
    refine held_one (i := 6) (oi := ?ot7) (by kernel_rfl) ?at7 ?ct7 (fun K6 hK6 => ?_)
    (case at7 => (simp only [List.getElem?_toArray, List.getElem?_cons_zero, List.getElem?_cons_succ]; rfl))
    (case ct7 => kernel_rfl)
    obtain ⟨f0, hf0⟩ := hS3.res
    refine ow_store 45 _ _ rfl _ rfl _ rfl (run_store_arr hf0 (plF (idx : Int) (n : Int) 0 seed) info45 (plF_one _ _ _ _ _)) ?_
    refine hK6 _ _ (hS3.put _) (fun hS6 => ?_)
    clear hK6 K6
    (refine held_take (i := 7) (oi := ?ot8) (v := ?vt8) ?at8 (by kernel_rfl) (by kernel_rfl) (by kernel_rfl) ?bt8 ?ct8 ?dt8 (by assumption) ?rt8; (case at8 => (simp only [List.getElem?_toArray, List.getElem?_cons_zero, List.getElem?_cons_succ]; rfl)); (case bt8 => exact fun _ _ _ h => h); (case ct8 => kernel_rfl); (case dt8 => (intro W hW; (try dsimp only at hW); go_split_ands; go_simp; (try with_reducible rfl))); (case' rt8 => simp only [Act.put, List.setIfInBounds_toArray, List.set_cons_zero, List.set_cons_succ]))
    refine wpAnyH_done (by kernel_rfl) ?_ _
    go_wp2
    exact bodyPost_ret (results_cell_tmp rfl _ _ _ rfl (run_load_arr (hf0.row _) Tryd.underlying45 rfl info45)) rfl ⟨rfl, HA.out.2.2.trans (hS6.save.below (by omega) HA.out.2.2.size)⟩
  · have e1 : isCh chain = false := decide_eq_false hc
    have e2 : placedV seed idx chain = plF 0 0 0 zb := by unfold placedV; rw [e1]; rfl
    rw [e1, e2]
    by_cases h0 : chain < 0
    · have t1 : decide (chain < 0) = true := by simp [h0]
      clear e1 e2 hc
      go_enter Tryd.func21, Tryd.ntmps21
      go_upto_region 1 with fail
      rw [← HW.out]
      clear HW
      go_wp2_with (first
        | ((with_reducible show wpList _ _ _ (Oper.mk _ (.build _ _) _ _ _ _ :: _) _ _); refine wl_build rfl 45 _ rfl (vec 39 (plF 0 0 0 zb)) (by kernel_rfl) ?_)
        | ((with_reducible show wpList _ _ _ (Oper.mk _ (.store _ _ _) _ _ _ _ :: _) _ _); refine wl_store rfl 45 _ _ rfl _ rfl _ rfl (run_store_arr HA.out.2.1 (plF 0 0 0 zb) info45 (plF_one _ _ _ _ _)) ?_))
      exact bodyPost_ret (results_cell_tmp rfl _ _ _ rfl (run_load_arr (HA.out.2.1.row _) Tryd.underlying45 rfl info45)) rfl ⟨rfl, below_row HA.out.2.2 (by omega) _⟩
    · have t1 : decide (chain < 0) = false := by simp; omega
      have t3 : decide (67 ≤ chain) = true := by simp; omega
      have t4 : 67 ≤ chain := by omega
      clear e1 e2 hc
      go_enter Tryd.func21, Tryd.ntmps21
      go_upto_region 1 with fail
      rw [← HW.out]
      clear HW
      go_wp2_with (first
        | ((with_reducible show wpList _ _ _ (Oper.mk _ (.build _ _) _ _ _ _ :: _) _ _); refine wl_build rfl 45 _ rfl (vec 39 (plF 0 0 0 zb)) (by kernel_rfl) ?_)
        | ((with_reducible show wpList _ _ _ (Oper.mk _ (.store _ _ _) _ _ _ _ :: _) _ _); refine wl_store rfl 45 _ _ rfl _ rfl _ rfl (run_store_arr HA.out.2.1 (plF 0 0 0 zb) info45 (plF_one _ _ _ _ _)) ?_))
      exact bodyPost_ret (results_cell_tmp rfl _ _ _ rfl (run_load_arr (HA.out.2.1.row _) Tryd.underlying45 rfl info45)) rfl ⟨rfl, below_row HA.out.2.2 (by omega) _⟩

theorem placedV_one (seed : Nat → UInt8) (idx : Nat) (chain : Int) (n : Nat) : ∀ i, i < n → (placedV seed idx chain i).oneCell' = true := by
  unfold placedV; split
  · exact plF_one _ _ _ _ _
  · exact plF_one _ _ _ _ _
set_option maxHeartbeats 1000000 in
set_option maxRecDepth 100000 in
theorem secret_any (secret : Nat → UInt8) (idx : Nat) (hidx : idx < 4294967296) (chain : Int) (w : World) (hT : Tabs w) :
    Calls Tryd.prog 18 #[.agg (vec 32 (bys secret)), .int .u32 (idx : Int), .int .i64 chain] w fun e w' => e = .returned (.agg (vec 32 (bys (secretF secret idx chain)))) ∧ Below w.heap.size w w' := by
  obtain ⟨V, hV⟩ : ∃ V, V = (w.alloc (.cells (vec 32 (bys secret)) 23)).alloc (.cells (vec 32 (bys zb)) 23) := ⟨_, rfl⟩
  have hA : Arr V w.heap.size 23 32 (bys secret) := by rw [hV]; exact (Arr.newAt _ _ _ _ (by simp)).alloc _
  have hR : Arr V (w.heap.size + 1) 23 32 (bys zb) := by rw [hV]; exact Arr.newAt _ _ _ _ (by simp)
  have hB : Below w.heap.size w V := by rw [hV]; exact (((Below.refl _ _).alloc (by simp <;> omega) _).alloc (by simp <;> omega) _)
  have HA := Lib.hid (And.intro hA (And.intro hR (And.intro hB hT)))
  have HW := Lib.hid hV
  clear hV hA hR hB hT
  obtain ⟨pf, hpf⟩ : ∃ pf, pf = placedV secret idx chain := ⟨_, rfl⟩
  have hone : ∀ i, i < 39 → (pf i).oneCell' = true := by rw [hpf]; exact placedV_one _ _ _ _
  have hpl := fun W => placed_any secret idx chain W
  rw [← hpf] at hpl
  have HPL := Lib.hid (And.intro hpl (And.intro hone hpf))
  clear hpl hone hpf
  have mk : ∀ b : Bool, isCh chain = b → Calls Tryd.prog 18 #[.agg (vec 32 (bys secret)), .int .u32 (idx : Int), .int .i64 chain] w fun e w' => e = .returned (.agg (vec 32 (bys (secretF secret idx chain)))) ∧ Below w.heap.size w w' := by
    intro b hb
    have HPL2 := Lib.hid (And.intro (fun W => hb ▸ HPL.out.1 W) HPL.out.2)
    have HB := Lib.hid hb
    clear HPL hb
    go_enter Tryd.func18, Tryd.ntmps18
    go_upto_region 1 with fail
    rw [← HW.out]
    clear HW
    go_upto_region 2 with (first
      | ((with_reducible show wpList _ _ _ (Oper.mk _ (.load _ _) _ _ _ _ :: _) _ _); refine wl_load rfl 23 _ rfl _ rfl _ (run_load_arr HA.out.1 Tryd.underlying23 rfl info26) ?_)
      | (go_at_call 21; refine (HPL2.out.1 _).mono ?_; rintro e w1 ⟨rfl, hd⟩; have H1 := Lib.hid hd; clear hd)
      | ((with_reducible show wpList _ _ _ (Oper.mk _ (.store _ _ _) _ _ _ _ :: _) _ _); refine wl_store rfl 45 _ _ rfl _ rfl _ rfl (run_store_arr (Arr.new w1 _ _ _) pf info45 HPL2.out.2.1) ?_))
    obtain ⟨V2, hV2⟩ : ∃ V2, V2 = (w1.alloc (.cells (vec 39 (plF 0 0 0 zb)) 45)).setRow w1.heap.size (vec 39 pf) := ⟨_, rfl⟩
    rw [← hV2]
    have hP : Arr V2 w1.heap.size 45 39 pf := by rw [hV2]; exact (Arr.new w1 _ _ _).row _
    have hb2 : Below V.heap.size V V2 := by rw [hV2]; exact below_row (H1.out.alloc H1.out.size _) H1.out.size _
    have hB2 : Below w.heap.size w V2 := HA.out.2.2.1.trans (hb2.mono HA.out.2.2.1.size)
    have H2 := Lib.hid (And.intro hP (And.intro (HA.out.2.1.under hb2) (And.intro hB2 (tabs_below HA.out.2.2.2 hB2))))
    clear hV2 hP hb2 hB2 H1
    cases b with
    | false =>
      go_wp2_with (first
        | ((with_reducible show wpList _ _ _ (Oper.mk _ (.build _ _) _ _ _ _ :: _) _ _); refine wl_build rfl 23 _ rfl (vec 32 (bys zb)) (by kernel_rfl) ?_)
        | ((with_reducible show wpList _ _ _ (Oper.mk _ (.store _ _ _) _ _ _ _ :: _) _ _); refine wl_store rfl 23 _ _ rfl _ rfl _ rfl (run_store_arr H2.out.2.1 (bys zb) info26 (bys_one _ _)) ?_))
      refine bodyPost_ret (results_cell1 rfl _ _ _ rfl (run_load_arr (H2.out.2.1.row _) Tryd.underlying23 rfl info26)) rfl ⟨?_, below_row H2.out.2.2.1 (by omega) _⟩
      have : ¬ (0 ≤ chain ∧ chain ≤ 66) := of_decide_eq_false HB.out
      unfold secretF
      rw [if_neg this]
    | true =>
      have hc : 0 ≤ chain ∧ chain ≤ 66 := of_decide_eq_true HB.out
      obtain ⟨n, rfl⟩ := Int.eq_ofNat_of_zero_le hc.1
      have hn : n ≤ 66 := by omega
      have hP : Arr V2 w1.heap.size 45 39 (plF (idx : Int) (n : Int) ((0 : Nat) : Int) secret) := by
        have := H2.out.1
        rw [HPL2.out.2.2] at this
        unfold placedV at this
        rw [if_pos HB.out] at this
        exact this
      have HK := Lib.hid (And.intro hP (kept_any idx n 0 0 secret hidx (by omega) (by decide) (by decide) V2 H2.out.2.2.2))
      clear hP hc
      go_wp2_with (first
        | ((with_reducible show wpList _ _ _ (Oper.mk _ (.load _ _) _ _ _ _ :: _) _ _); refine wl_load rfl 45 _ rfl _ rfl _ (run_load_arr HK.out.1 Tryd.underlying45 rfl info45) ?_)
        | (go_at_call 32; refine HK.out.2.mono ?_; rintro e w3 ⟨rfl, hd⟩; have H3 := Lib.hid (And.intro (H2.out.2.1.under hd) (H2.out.2.2.1.trans (hd.mono H2.out.2.2.1.size))); clear hd)
        | ((with_reducible show wpList _ _ _ (Oper.mk _ (.store _ _ _) _ _ _ _ :: _) _ _); refine wl_store rfl 23 _ _ rfl _ rfl _ rfl (run_store_arr H3.out.1 (bys (prfF secret 0 0 0 idx n 0 0)) info26 (bys_one _ _)) ?_))
      refine bodyPost_ret (results_cell1 rfl _ _ _ rfl (run_load_arr (H3.out.1.row _) Tryd.underlying23 rfl info26)) rfl ⟨?_, below_row H3.out.2 (by omega) _⟩
      rw [secretF_nat _ _ _ hn]
  exact mk _ rfl
end Go.Proofs.YtepgndgelfkcnaaDoor
