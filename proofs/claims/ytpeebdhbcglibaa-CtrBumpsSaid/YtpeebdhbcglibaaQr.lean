/- The reference: mix, Check, Words, Of. -/
import Derived.Test.YtpeebdhbcglibaaQe
import Derived.Test.YtpeebdhbcglibaaQc
namespace Go.Proofs.Ytpeebdhbcglibaa
open Go.RowKit

attribute [local go_sem ↓ high] zeroQ
attribute [local go_sem] num_xor num_add num_mul num_or num_and num_andn
set_option maxRecDepth 100000 in
theorem mix_any (x y : W32) (w : World) : Calls Try.prog 58 #[.int .u32 (num x), .int .u32 (num y)] w fun e w' => e = .returned (.int .u32 (num (mixW x y))) ∧ w = w' := by
  have e4 : IntKind.u32.wrap (num (x ^^^ y) * 2654435761) = num ((x ^^^ y) * fac) := by rw [fac_eq]; exact num_mul _ _
  have e2 : IntKind.u32.wrap (num ((x ^^^ y) * fac) * 32768) = num (((x ^^^ y) * fac) <<< 15) := num_shl _ 15
  have e3 : num ((x ^^^ y) * fac) / (131072 : Int) = num (((x ^^^ y) * fac) >>> 17) := num_shr _ 17
  go_enter Try.func58, Try.ntmps58
  go_wp2
  go_ret
  exact ⟨rfl, rfl⟩
set_option maxRecDepth 100000 in
set_option maxHeartbeats 1000000 in
theorem rcheck_any (id : Int) (x : W32) (hx : IntKind.u32.wrap id = num x) (s v : W32) (w : World) :
    Calls Try.prog 47 #[.int .i64 id, .agg #[.int .u32 (num s), .int .u32 (num v)]] w fun e w' => e = .returned (.int .u32 (num (sumW x s v))) ∧ Below w.heap.size w w' := by
  have e0 : (1853252468 : Int) = num base0 := rfl
  go_enter Try.func47, Try.ntmps47
  go_upto_region 1 with fail
  rw [e0]
  go_quiet ((go_at_call 58; exact quiet_eq (mix_any _ _ _)))
  go_wp2
  go_ret
  exact ⟨rfl, (below_drewN ((Below.refl _ _).alloc (Nat.le_refl _) _) _)⟩
set_option maxRecDepth 100000 in
set_option maxHeartbeats 1000000 in
theorem rwords_any (id : Int) (x : W32) (hx : IntKind.u32.wrap id = num x) (s v : W32) (w : World) :
    Calls Try.prog 39 #[.int .i64 id, .agg #[.int .u32 (num s), .int .u32 (num v)]] w fun e w' => e = .returned (.agg (vec 4 (wds (recW x s v)))) ∧ Below w.heap.size w w' := by
  have HC := Lib.hid (fun W => rcheck_any id x hx s v W)
  clear hx
  go_enter Try.func39, Try.ntmps39
  go_upto_region 1 with fail
  obtain ⟨V, hV⟩ : ∃ V, V = (w.alloc (.cells #[.int .u32 (num s), .int .u32 (num v)] 35)).alloc (.cells (vec 4 (wds zw)) 73) := ⟨_, rfl⟩
  have hR : Blk V w.heap.size 35 #[.int .u32 (num s), .int .u32 (num v)] := by rw [hV]; exact (Blk.new _ _ _ rfl).alloc _
  have hQ : Arr V (w.heap.size + 1) 73 4 (wds zw) := by rw [hV]; exact Arr.newAt _ _ _ _ (by simp)
  have HB : Hid (Below w.heap.size w V) := Lib.hid (by rw [hV]; exact ((Below.refl _ _).alloc (Nat.le_refl _) _).alloc (by simp) _)
  have HF : Hid (∀ W, SQ V (w.heap.size + 1) W → W.cell? ⟨w.heap.size, 0, none⟩ = some (.int .u32 (num s)) ∧ W.cell? ⟨w.heap.size, 1, none⟩ = some (.int .u32 (num v))) := Lib.hid fun W hW => by
    have := hW.blk hR (by omega)
    exact ⟨this.cellAt 0 rfl, this.cellAt 1 rfl⟩
  rw [← hV]
  clear hV hR
  refine wp_region_held_drew (S := fun Y => SQ V (w.heap.size + 1) Y) (by kernel_rfl) (SQ.begin hQ) (fun hS => ?_)
  (refine held_take (i := 0) (oi := ?ot20) (v := ?vt20) ?at20 (by kernel_rfl) (by kernel_rfl) (by kernel_rfl) ?bt20 ?ct20 ?dt20 (by assumption) ?rt20; (case at20 => (simp only [List.getElem?_toArray, List.getElem?_cons_zero]; rfl)); (case bt20 => exact fun _ _ _ h => h); (case ct20 => kernel_rfl); (case dt20 => (intro W hW; (try dsimp only at hW); go_split_ands; go_simp; (try with_reducible rfl))); (case' rt20 => simp only [Act.put, List.setIfInBounds_toArray, List.set_cons_zero, List.set_cons_succ]))
  (refine held_take (i := 1) (oi := ?ot21) (v := .int .u32 (num s)) ?at21 (by kernel_rfl) (by kernel_rfl) (by kernel_rfl) ?bt21 ?ct21 ?dt21 (by assumption) ?rt21; (case at21 => (simp only [List.getElem?_toArray, List.getElem?_cons_zero, List.getElem?_cons_succ]; rfl)); (case bt21 => exact fun _ _ _ h => h); (case ct21 => kernel_rfl); (case dt21 => (intro W hW; obtain ⟨c0, c1⟩ := HF.out W hW; clear hW; go_simp; (try with_reducible rfl))); (case' rt21 => simp only [Act.put, List.setIfInBounds_toArray, List.set_cons_zero, List.set_cons_succ]))
  (refine held_take (i := 2) (oi := ?ot22) (v := ?vt22) ?at22 (by kernel_rfl) (by kernel_rfl) (by kernel_rfl) ?bt22 ?ct22 ?dt22 (by assumption) ?rt22; (case at22 => (simp only [List.getElem?_toArray, List.getElem?_cons_zero, List.getElem?_cons_succ]; rfl)); (case bt22 => exact fun _ _ _ h => h); (case ct22 => kernel_rfl); (case dt22 => (intro W hW; (try dsimp only at hW); go_split_ands; go_simp; (try with_reducible rfl))); (case' rt22 => simp only [Act.put, List.setIfInBounds_toArray, List.set_cons_zero, List.set_cons_succ]))
  (refine held_take (i := 3) (oi := ?ot23) (v := .int .u32 (num v)) ?at23 (by kernel_rfl) (by kernel_rfl) (by kernel_rfl) ?bt23 ?ct23 ?dt23 (by assumption) ?rt23; (case at23 => (simp only [List.getElem?_toArray, List.getElem?_cons_zero, List.getElem?_cons_succ]; rfl)); (case bt23 => exact fun _ _ _ h => h); (case ct23 => kernel_rfl); (case dt23 => (intro W hW; obtain ⟨c0, c1⟩ := HF.out W hW; clear hW; go_simp; (try with_reducible rfl))); (case' rt23 => simp only [Act.put, List.setIfInBounds_toArray, List.set_cons_zero, List.set_cons_succ]))
  (refine held_take (i := 4) (oi := ?ot24) (v := ?vt24) ?at24 (by kernel_rfl) (by kernel_rfl) (by kernel_rfl) ?bt24 ?ct24 ?dt24 (by assumption) ?rt24; (case at24 => (simp only [List.getElem?_toArray, List.getElem?_cons_zero, List.getElem?_cons_succ]; rfl)); (case bt24 => exact fun _ _ _ h => h); (case ct24 => kernel_rfl); (case dt24 => (intro W hW; (try dsimp only at hW); go_split_ands; go_simp; (try with_reducible rfl))); (case' rt24 => simp only [Act.put, List.setIfInBounds_toArray, List.set_cons_zero, List.set_cons_succ]))
  (refine held_take (i := 5) (oi := ?ot25) (v := .agg #[.int .u32 (num s), .int .u32 (num v)]) ?at25 (by kernel_rfl) (by kernel_rfl) (by kernel_rfl) ?bt25 ?ct25 ?dt25 (by assumption) ?rt25; (case at25 => (simp only [List.getElem?_toArray, List.getElem?_cons_zero, List.getElem?_cons_succ]; rfl)); (case bt25 => exact fun _ _ _ h => h); (case ct25 => kernel_rfl); (case dt25 => (intro W hW; obtain ⟨c0, c1⟩ := HF.out W hW; clear hW; go_simp; (try with_reducible rfl))); (case' rt25 => simp only [Act.put, List.setIfInBounds_toArray, List.set_cons_zero, List.set_cons_succ]))
  refine held_one (i := 6) (oi := ?ot26) (by kernel_rfl) ?at26 ?ct26 (fun K6 hK6 => ?_)
  (case at26 => (simp only [List.getElem?_toArray, List.getElem?_cons_zero, List.getElem?_cons_succ]; rfl))
  (case ct26 => kernel_rfl)
  have hSb := hS
  go_simp
  refine (HC.out _).mono ?_
  rintro e y6 ⟨rfl, hd⟩
  refine hK6 _ _ (hSb.keep hd) (fun hS6 => ?_)
  clear hS hSb hd hK6 K6
  (refine held_take (i := 7) (oi := ?ot27) (v := .agg (vec 4 (wds (recW x s v)))) ?at27 (by kernel_rfl) (by kernel_rfl) (by kernel_rfl) ?bt27 ?ct27 ?dt27 (by assumption) ?rt27; (case at27 => (simp only [List.getElem?_toArray, List.getElem?_cons_zero, List.getElem?_cons_succ]; rfl)); (case bt27 => exact fun _ _ _ h => h); (case ct27 => kernel_rfl); (case dt27 => (intro W _; exact exec_build 73 _ rfl (vec 4 (wds (recW x s v))) (by kernel_rfl) W)); (case' rt27 => simp only [Act.put, List.setIfInBounds_toArray, List.set_cons_zero, List.set_cons_succ]))
  refine held_one (i := 8) (oi := ?ot28) (by kernel_rfl) ?at28 ?ct28 (fun K8 hK8 => ?_)
  (case at28 => (simp only [List.getElem?_toArray, List.getElem?_cons_zero, List.getElem?_cons_succ]; rfl))
  (case ct28 => kernel_rfl)
  obtain ⟨f0, hf0⟩ := hS6.res
  refine ow_store 73 _ _ rfl _ rfl _ rfl (run_store_arr hf0 (wds (recW x s v)) infoQ (wds_one _ _)) ?_
  refine hK8 _ _ (hS6.put _) (fun hS8 => ?_)
  clear hK8 K8
  refine wpAnyH_done (by kernel_rfl) ?_ _
  go_wp2
  refine bodyPost_ret (results_cell1 rfl _ _ _ rfl (run_load_arr (hf0.row _) Try.underlying73 rfl infoQ)) rfl ⟨rfl, hS8.below HB.out (by omega)⟩
set_option maxRecDepth 100000 in
set_option maxHeartbeats 1000000 in
theorem rof_any (id : Int) (x : W32) (hx : IntKind.u32.wrap id = num x) (f : Nat → W32) (w : World) :
    Calls Try.prog 30 #[.int .i64 id, .agg (vec 4 (wds f))] w fun e w' => e = .returned (.tuple #[.agg #[.int .u32 (num (ofS x f)), .int .u32 (num (ofV x f))], .bool (isRec x f)]) ∧ Below w.heap.size w w' := by
  have HC := Lib.hid (fun W => rwords_any id x hx (f 1) (f 2) W)
  clear hx
  go_enter Try.func30, Try.ntmps30
  go_upto_region 1 with fail
  obtain ⟨V0, hV0⟩ : ∃ V0, V0 = (w.alloc (.cells (vec 4 (wds f)) 73)).alloc (.cells #[.int .u32 0, .int .u32 0] 35) := ⟨_, rfl⟩
  have hQ : Arr V0 w.heap.size 73 4 (wds f) := by rw [hV0]; exact (Arr.new _ _ _ _).alloc _
  have hR : Blk V0 (w.heap.size + 1) 35 #[.int .u32 0, .int .u32 0] := by rw [hV0]; exact Blk.new _ _ _ (by simp)
  have hB : Below w.heap.size w V0 := by rw [hV0]; exact ((Below.refl _ _).alloc (Nat.le_refl _) _).alloc (by simp) _
  have hs : V0.heap.size = w.heap.size + 2 := by rw [hV0]; simp
  have c1 : V0.cell? ⟨w.heap.size, 1, none⟩ = some (.int .u32 (num (f 1))) := hQ.cell (i := 1) (by decide)
  have c2 : V0.cell? ⟨w.heap.size, 2, none⟩ = some (.int .u32 (num (f 2))) := hQ.cell (i := 2) (by decide)
  rw [← hV0]
  clear hV0
  have HX := Lib.hid (And.intro hQ (And.intro hR (And.intro hB hs)))
  clear hQ hR hB hs
  go_upto_region 2 with fail
  rw [HX.out.2.2.2]
  obtain ⟨V, hV⟩ : ∃ V, V = V0.alloc (.cells #[.int .u32 (num (f 1)), .int .u32 (num (f 2))] 35) := ⟨_, rfl⟩
  have hQ : Arr V w.heap.size 73 4 (wds f) := by rw [hV]; exact HX.out.1.alloc _
  have hR : Blk V (w.heap.size + 1) 35 #[.int .u32 0, .int .u32 0] := by rw [hV]; exact HX.out.2.1.alloc _
  have hM : Blk V (w.heap.size + 2) 35 #[.int .u32 (num (f 1)), .int .u32 (num (f 2))] := by rw [hV]; exact Blk.new _ _ _ HX.out.2.2.2.symm
  have hB : Below w.heap.size w V := by rw [hV]; exact HX.out.2.2.1.alloc (by have := HX.out.2.2.2; omega) _
  rw [← hV]
  clear hV c1 c2 HX
  have HL : Hid (∀ W, VS V W → (loadVar 73 ⟨w.heap.size, 0, none⟩).run Try.prog W = .ok (.agg (vec 4 (wds f))) W) := Lib.hid fun W hW => run_load_arr (hQ.under hW) Try.underlying73 rfl infoQ
  have HM : Hid (∀ W, VS V W → (loadVar 35 ⟨w.heap.size + 2, 0, none⟩).run Try.prog W = .ok (.agg #[.int .u32 (num (f 1)), .int .u32 (num (f 2))]) W) := Lib.hid fun W hW => (hM.under hW).load Try.underlying35 rfl infoR
  have HB := Lib.hid hB
  have HR := Lib.hid hR
  clear hQ hM hB hR
  have H1 : Hid ((w.heap.size + 1 : Nat) ≥ w.heap.size) := Lib.hid (by omega)
  cases hr : isRec x f with
  | true =>
    have HE : Hid ((!quadEq f (recW x (f 1) (f 2))) = false) := Lib.hid (by unfold isRec at hr; rw [hr]; rfl)
    have e1 : ofS x f = f 1 := by unfold ofS; rw [if_pos hr]
    have e2 : ofV x f = f 2 := by unfold ofV; rw [if_pos hr]
    have HV := Lib.hid (And.intro e1 (And.intro e2 hr))
    clear e1 e2 hr
    refine wp_region_held_drew (S := fun Y => VS V Y) (by kernel_rfl) (VS.begin V) (fun hS => ?_)
    (refine held_take (i := 0) (oi := ?ot29) (v := .agg (vec 4 (wds f))) ?at29 (by kernel_rfl) (by kernel_rfl) (by kernel_rfl) ?bt29 ?ct29 ?dt29 (by assumption) ?rt29; (case at29 => (simp only [List.getElem?_toArray, List.getElem?_cons_zero]; rfl)); (case bt29 => exact fun _ _ _ h => h); (case ct29 => kernel_rfl); (case dt29 => (intro W hW; exact exec_load _ _ rfl _ rfl _ (HL.out W hW))); (case' rt29 => simp only [Act.put, List.setIfInBounds_toArray, List.set_cons_zero, List.set_cons_succ]))
    (refine held_take (i := 1) (oi := ?ot30) (v := ?vt30) ?at30 (by kernel_rfl) (by kernel_rfl) (by kernel_rfl) ?bt30 ?ct30 ?dt30 (by assumption) ?rt30; (case at30 => (simp only [List.getElem?_toArray, List.getElem?_cons_zero, List.getElem?_cons_succ]; rfl)); (case bt30 => exact fun _ _ _ h => h); (case ct30 => kernel_rfl); (case dt30 => (intro W hW; (try dsimp only at hW); go_split_ands; go_simp; (try with_reducible rfl))); (case' rt30 => simp only [Act.put, List.setIfInBounds_toArray, List.set_cons_zero, List.set_cons_succ]))
    (refine held_take (i := 2) (oi := ?ot31) (v := .agg #[.int .u32 (num (f 1)), .int .u32 (num (f 2))]) ?at31 (by kernel_rfl) (by kernel_rfl) (by kernel_rfl) ?bt31 ?ct31 ?dt31 (by assumption) ?rt31; (case at31 => (simp only [List.getElem?_toArray, List.getElem?_cons_zero, List.getElem?_cons_succ]; rfl)); (case bt31 => exact fun _ _ _ h => h); (case ct31 => kernel_rfl); (case dt31 => (intro W hW; exact exec_load _ _ rfl _ rfl _ (HM.out W hW))); (case' rt31 => simp only [Act.put, List.setIfInBounds_toArray, List.set_cons_zero, List.set_cons_succ]))
    refine held_one (i := 3) (oi := ?ot32) (by kernel_rfl) ?at32 ?ct32 (fun K3 hK3 => ?_)
    (case at32 => (simp only [List.getElem?_toArray, List.getElem?_cons_zero, List.getElem?_cons_succ]; rfl))
    (case ct32 => kernel_rfl)
    have hSb := hS
    go_simp
    refine (HC.out _).mono ?_
    rintro e y3 ⟨rfl, hd⟩
    refine hK3 _ _ (hSb.keep hd) (fun hS3 => ?_)
    clear hS hSb hd hK3 K3
    (refine held_take (i := 4) (oi := ?ot33) (v := .bool false) ?at33 (by kernel_rfl) (by kernel_rfl) (by kernel_rfl) ?bt33 ?ct33 ?dt33 (by assumption) ?rt33; (case at33 => (simp only [List.getElem?_toArray, List.getElem?_cons_zero, List.getElem?_cons_succ]; rfl)); (case bt33 => exact fun _ _ _ h => h); (case ct33 => kernel_rfl); (case dt33 => (intro W _; exact exec_neq4 _ _ _ rfl f (recW x (f 1) (f 2)) rfl rfl W (b := false) HE.out)); (case' rt33 => simp only [Act.put, List.setIfInBounds_toArray, List.set_cons_zero, List.set_cons_succ]))
    refine wpAnyH_done (by kernel_rfl) ?_ _
    have HS := Lib.hid hS3
    clear hS3
    go_wp2_with (first
      | ((with_reducible show wpList _ _ _ (Oper.mk _ (.load 35 _) _ _ _ _ :: _) _ _); refine wl_load rfl 35 _ rfl _ rfl _ (HM.out _ HS.out) ?_)
      | ((with_reducible show wpList _ _ _ (Oper.mk _ (.store 35 _ _) _ _ _ _ :: _) _ _); refine wl_store rfl 35 _ _ rfl _ rfl _ rfl ((HR.out.under HS.out).store #[.int .u32 (num (f 1)), .int .u32 (num (f 2))] rfl infoR rfl) ?_))
    exact bodyPost_ret (results_ct rfl _ _ _ rfl (((HR.out.under HS.out).row _).load Try.underlying35 rfl infoR)) rfl ⟨by rw [HV.out.1, HV.out.2.1, HV.out.2.2]; rfl, below_row (HS.out.below0 HB.out) (by omega) _⟩
  | false =>
    have HE : Hid ((!quadEq f (recW x (f 1) (f 2))) = true) := Lib.hid (by unfold isRec at hr; rw [hr]; rfl)
    have e1 : ofS x f = 0 := by unfold ofS; rw [hr]; rfl
    have e2 : ofV x f = 0 := by unfold ofV; rw [hr]; rfl
    have HV := Lib.hid (And.intro e1 (And.intro e2 hr))
    clear e1 e2 hr
    refine wp_region_held_drew (S := fun Y => VS V Y) (by kernel_rfl) (VS.begin V) (fun hS => ?_)
    (refine held_take (i := 0) (oi := ?ot34) (v := .agg (vec 4 (wds f))) ?at34 (by kernel_rfl) (by kernel_rfl) (by kernel_rfl) ?bt34 ?ct34 ?dt34 (by assumption) ?rt34; (case at34 => (simp only [List.getElem?_toArray, List.getElem?_cons_zero]; rfl)); (case bt34 => exact fun _ _ _ h => h); (case ct34 => kernel_rfl); (case dt34 => (intro W hW; exact exec_load _ _ rfl _ rfl _ (HL.out W hW))); (case' rt34 => simp only [Act.put, List.setIfInBounds_toArray, List.set_cons_zero, List.set_cons_succ]))
    (refine held_take (i := 1) (oi := ?ot35) (v := ?vt35) ?at35 (by kernel_rfl) (by kernel_rfl) (by kernel_rfl) ?bt35 ?ct35 ?dt35 (by assumption) ?rt35; (case at35 => (simp only [List.getElem?_toArray, List.getElem?_cons_zero, List.getElem?_cons_succ]; rfl)); (case bt35 => exact fun _ _ _ h => h); (case ct35 => kernel_rfl); (case dt35 => (intro W hW; (try dsimp only at hW); go_split_ands; go_simp; (try with_reducible rfl))); (case' rt35 => simp only [Act.put, List.setIfInBounds_toArray, List.set_cons_zero, List.set_cons_succ]))
    (refine held_take (i := 2) (oi := ?ot36) (v := .agg #[.int .u32 (num (f 1)), .int .u32 (num (f 2))]) ?at36 (by kernel_rfl) (by kernel_rfl) (by kernel_rfl) ?bt36 ?ct36 ?dt36 (by assumption) ?rt36; (case at36 => (simp only [List.getElem?_toArray, List.getElem?_cons_zero, List.getElem?_cons_succ]; rfl)); (case bt36 => exact fun _ _ _ h => h); (case ct36 => kernel_rfl); (case dt36 => (intro W hW; exact exec_load _ _ rfl _ rfl _ (HM.out W hW))); (case' rt36 => simp only [Act.put, List.setIfInBounds_toArray, List.set_cons_zero, List.set_cons_succ]))
    refine held_one (i := 3) (oi := ?ot37) (by kernel_rfl) ?at37 ?ct37 (fun K3 hK3 => ?_)
    (case at37 => (simp only [List.getElem?_toArray, List.getElem?_cons_zero, List.getElem?_cons_succ]; rfl))
    (case ct37 => kernel_rfl)
    have hSb := hS
    go_simp
    refine (HC.out _).mono ?_
    rintro e y3 ⟨rfl, hd⟩
    refine hK3 _ _ (hSb.keep hd) (fun hS3 => ?_)
    clear hS hSb hd hK3 K3
    (refine held_take (i := 4) (oi := ?ot38) (v := .bool true) ?at38 (by kernel_rfl) (by kernel_rfl) (by kernel_rfl) ?bt38 ?ct38 ?dt38 (by assumption) ?rt38; (case at38 => (simp only [List.getElem?_toArray, List.getElem?_cons_zero, List.getElem?_cons_succ]; rfl)); (case bt38 => exact fun _ _ _ h => h); (case ct38 => kernel_rfl); (case dt38 => (intro W _; exact exec_neq4 _ _ _ rfl f (recW x (f 1) (f 2)) rfl rfl W (b := true) HE.out)); (case' rt38 => simp only [Act.put, List.setIfInBounds_toArray, List.set_cons_zero, List.set_cons_succ]))
    refine wpAnyH_done (by kernel_rfl) ?_ _
    have HS := Lib.hid hS3
    clear hS3
    go_wp2_with (first
      | ((with_reducible show wpList _ _ _ (Oper.mk _ (.store 35 _ _) _ _ _ _ :: _) _ _); refine wl_store rfl 35 _ _ rfl _ rfl _ rfl ((HR.out.under HS.out).store #[.int .u32 0, .int .u32 0] rfl infoR rfl) ?_))
    exact bodyPost_ret (results_ct rfl _ _ _ rfl (((HR.out.under HS.out).row _).load Try.underlying35 rfl infoR)) rfl ⟨by rw [HV.out.1, HV.out.2.1, HV.out.2.2]; rfl, below_row (HS.out.below0 HB.out) (by omega) _⟩
end Go.Proofs.Ytpeebdhbcglibaa
