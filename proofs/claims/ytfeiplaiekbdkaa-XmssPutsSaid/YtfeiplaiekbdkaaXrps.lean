/- The reference's PutSig. -/
import Derived.Test.YtfeiplaiekbdkaaXps
import Derived.Test.YtfeiplaiekbdkaaXapp
import Derived.Test.YtfeiplaiekbdkaaVs
import Derived.BigQuiet
import Derived.Deep.QuietTactic
namespace Go.Proofs.Ytfeiplaiekbdkaa
open Go.RowKit
attribute [local go_sem ↓ high] zeroV26 zeroSig

theorem lies_sigr {w : World} {g B : Nat} {t : TypeId} {idx : Int} {r : Nd} {v1 v2 : Value} (h : Arr w g t 35 (sigF idx r v1 v2)) (hg : g < B) (hB : B ≤ w.heap.size) : Lies w w.heap.size 1 (some ⟨g, 1, none⟩) 32 (u8s (nodeL r)) := by
  have hl := h.lies (B := w.heap.size) (by omega) 1 32 (by decide)
  rw [u8s_nodeL]
  have e : ((List.range 32).map fun i => bys r (0 + i)) = (List.range 32).map fun i => sigF idx r v1 v2 (1 + i) := List.map_congr_left fun i hi => by rw [sigF_r _ _ _ _ _ (List.mem_range.1 hi), Nat.zero_add]
  rw [e]; exact hl
set_option maxHeartbeats 2000000 in
set_option maxRecDepth 100000 in
theorem rputSig_any : SigPut 19 := by
  intro oid idx r ots auth A1 A2 n1 n2 c1 c2 w hoid hidx ho ha hn1 hn2 h1 h2
  obtain ⟨V, hV⟩ : ∃ V, V = w.alloc (.cells (vec 35 (sigF (idx : Int) r (.slice A1 n1 c1) (.slice A2 n2 c2))) 44) := ⟨_, rfl⟩
  have h0 : Arr V w.heap.size 44 35 (sigF (idx : Int) r (.slice A1 n1 c1) (.slice A2 n2 c2)) := by rw [hV]; exact Arr.new w _ _ _
  have hB : Below w.heap.size w V := by rw [hV]; exact (Below.refl _ _).alloc (Nat.le_refl _) _
  have HA := Lib.hid (And.intro h0 hB)
  have HW := Lib.hid hV
  have HR := Lib.hid (And.intro ((h1.below hB).wide hB.size) ((h2.below hB).wide hB.size))
  have HH := Lib.hid (fun W => rheight_any oid hoid W)
  have a0 : V.cell? ⟨w.heap.size, 0, none⟩ = some (.int .u32 (idx : Int)) := h0.cell (i := 0) (by decide)
  have a33 : V.cell? ⟨w.heap.size, 33, none⟩ = some (.slice A1 n1 c1) := h0.cell (i := 33) (by decide)
  have a34 : V.cell? ⟨w.heap.size, 34, none⟩ = some (.slice A2 n2 c2) := h0.cell (i := 34) (by decide)
  cases his : isO oid with
  | false =>
    have e1 : psE oid idx n1 n2 = 80 := by unfold psE; rw [his]; rfl
    have e2 : psL oid idx r ots auth = [] := by unfold psL; rw [his]; rfl
    rw [e1, e2]
    rw [his] at HH
    obtain ⟨h, hh⟩ : ∃ h, h = hgtO oid := ⟨_, rfl⟩
    rw [← hh] at HH
    clear hV h0 hB h1 h2 e1 e2 his hh hn1 hn2
    go_enter Try.func19, Try.ntmps19
    go_upto_region 1 with fail
    rw [← HW.out]
    clear HW
    go_wp2_with (go_at_call 9; refine (HH.out _).mono ?_; rintro e w1 ⟨rfl, hw1⟩; rw [← hw1]; clear hw1)
    go_ret2
    exact ⟨_, rfl, World.ownsRow_nil _ _ _ _, HA.out.2⟩
  | true =>
    have hle := hgtO_le oid
    rw [his] at HH
    have hE : psE oid idx n1 n2 = (if psOk oid idx n1 n2 then 0 else 81) := by unfold psE; rw [his]; rfl
    have hL : psL oid idx r ots auth = (if psOk oid idx n1 n2 then sigL idx r ots auth else []) := by unfold psL; rw [his, Bool.true_and, hn1, hn2]
    obtain ⟨h, hh⟩ : ∃ h, h = hgtO oid := ⟨_, rfl⟩
    have hq : psOk oid idx n1 n2 = (decide (idx < 2 ^ h) && decide (n2 = h) && decide (n1 = 67)) := by unfold psOk plcd; rw [hh]
    rw [← hh] at HH hle
    obtain ⟨P, hP⟩ : ∃ P, P = 2 ^ h := ⟨_, rfl⟩
    have hP20 : P ≤ 1048576 := by rw [hP]; exact Nat.pow_le_pow_right (by decide) hle
    have hsh : IntKind.u32.wrap (2 ^ h) = (P : Int) := by
      have e : (2 : Int) ^ h = ((2 ^ h : Nat) : Int) := by rw [Int.natCast_pow]; rfl
      rw [e, ← hP, IntKind.wrap_u32]; omega
    rw [← hP] at hq
    rw [hE, hL]
    clear hE hL his hh hP
    by_cases g1 : n1 = 67
    · have t1 : ((n1 : Int) != 67) = false := by rw [g1]; rfl
      by_cases g2 : n2 = h
      · have t2 : ((n2 : Int) != (h : Int)) = false := by rw [g2]; simp
        by_cases g3 : idx < P
        · have t3 : ¬ (P : Int) ≤ (idx : Int) := by omega
          have hq2 : psOk oid idx n1 n2 = true := by rw [hq, decide_eq_true g3, decide_eq_true g2, decide_eq_true g1]; rfl
          rw [hq2, if_pos rfl, if_pos rfl]
          clear hq hq2
          have HN := Lib.hid (And.intro hn1 (And.intro hn2 (And.intro ho ha)))
          clear hV h0 hB h1 h2 hn1 hn2 ho ha g1 g2 g3
          go_enter Try.func19, Try.ntmps19
          go_upto_region 1 with fail
          rw [← HW.out]
          clear HW
          go_upto_region 4 with (go_at_call 9; refine (HH.out _).mono ?_; rintro e w1 ⟨rfl, hw1⟩; rw [← hw1]; clear hw1)
          go_quiet (fail)
          go_upto_region 6 with fail
          obtain ⟨U, hU⟩ : ∃ U, U = V.drewN nq := ⟨_, rfl⟩
          have HU : Hid (Arr U w.heap.size 44 35 (sigF (idx : Int) r (.slice A1 n1 c1) (.slice A2 n2 c2)) ∧ Below w.heap.size w U) := Lib.hid (by rw [hU]; exact ⟨HA.out.1, below_drewN HA.out.2 _⟩)
          have HRU : Hid (NRow U U.heap.size A1 ots ∧ NRow U U.heap.size A2 auth) := Lib.hid (by rw [hU]; exact HR.out)
          have hwn : IntKind.u64.wrap (idx : Int) = (idx : Int) := by rw [IntKind.wrap_u64]; omega
          rw [← hU]
          clear hU HA HR a0 a33 a34 HH t1 t2 t3 hsh hP20
          refine wp_region_held_drew (S := fun Y => VS U Y) (by kernel_rfl) (VS.begin U) (fun hS => ?_)
          (refine held_take (i := 0) (oi := ?ot1) (v := ?vt1) ?at1 (by kernel_rfl) (by kernel_rfl) (by kernel_rfl) ?bt1 ?ct1 ?dt1 (by assumption) ?rt1; (case at1 => (simp only [List.getElem?_toArray, List.getElem?_cons_zero]; rfl)); (case bt1 => exact fun _ _ _ h => h); (case ct1 => kernel_rfl); (case dt1 => (intro W hW; (try dsimp only at hW); go_split_ands; go_simp; (try with_reducible rfl))); (case' rt1 => simp only [Act.put, List.setIfInBounds_toArray, List.set_cons_zero, List.set_cons_succ]))
          (refine held_take (i := 1) (oi := ?ot2) (v := .int .u32 (idx : Int)) ?at2 (by kernel_rfl) (by kernel_rfl) (by kernel_rfl) ?bt2 ?ct2 ?dt2 (by assumption) ?rt2; (case at2 => (simp only [List.getElem?_toArray, List.getElem?_cons_zero, List.getElem?_cons_succ]; rfl)); (case bt2 => exact fun _ _ _ h => h); (case ct2 => kernel_rfl); (case dt2 => (intro W hW; have hc : W.cell? ⟨w.heap.size, 0, none⟩ = some (.int .u32 (idx : Int)) := (HU.out.1.under (show Below U.heap.size U W from hW)).cell (i := 0) (by decide); clear hW; go_simp; (try with_reducible rfl))); (case' rt2 => simp only [Act.put, List.setIfInBounds_toArray, List.set_cons_zero, List.set_cons_succ]))
          (refine held_take (i := 2) (oi := ?ot3) (v := ?vt3) ?at3 (by kernel_rfl) (by kernel_rfl) (by kernel_rfl) ?bt3 ?ct3 ?dt3 (by assumption) ?rt3; (case at3 => (simp only [List.getElem?_toArray, List.getElem?_cons_zero, List.getElem?_cons_succ]; rfl)); (case bt3 => exact fun _ _ _ h => h); (case ct3 => kernel_rfl); (case dt3 => (intro W hW; (try dsimp only at hW); go_split_ands; go_simp; (try with_reducible rfl))); (case' rt3 => simp only [Act.put, List.setIfInBounds_toArray, List.set_cons_zero, List.set_cons_succ]))
          (refine held_take (i := 4) (oi := ?ot4) (v := ?vt4) ?at4 (by kernel_rfl) (by kernel_rfl) (by kernel_rfl) ?bt4 ?ct4 ?dt4 (by assumption) ?rt4; (case at4 => (simp only [List.getElem?_toArray, List.getElem?_cons_zero, List.getElem?_cons_succ]; rfl)); (case bt4 => exact fun _ _ _ h => h); (case ct4 => kernel_rfl); (case dt4 => (intro W hW; (try dsimp only at hW); go_split_ands; go_simp; (try with_reducible rfl))); (case' rt4 => simp only [Act.put, List.setIfInBounds_toArray, List.set_cons_zero, List.set_cons_succ]))
          (refine held_take (i := 5) (oi := ?ot5) (v := ?vt5) ?at5 (by kernel_rfl) (by kernel_rfl) (by kernel_rfl) ?bt5 ?ct5 ?dt5 (by assumption) ?rt5; (case at5 => (simp only [List.getElem?_toArray, List.getElem?_cons_zero, List.getElem?_cons_succ]; rfl)); (case bt5 => exact fun _ _ _ h => h); (case ct5 => kernel_rfl); (case dt5 => (intro W hW; (try dsimp only at hW); go_split_ands; go_simp; (try with_reducible rfl))); (case' rt5 => simp only [Act.put, List.setIfInBounds_toArray, List.set_cons_zero, List.set_cons_succ]))
          refine held_one (i := 3) (oi := ?ot6) (by kernel_rfl) ?at6 ?ct6 (fun K3 hK3 => ?_)
          (case at6 => (simp only [List.getElem?_toArray, List.getElem?_cons_zero, List.getElem?_cons_succ]; rfl))
          (case ct6 => kernel_rfl)
          go_simp
          refine (rput_one idx _).mono ?_
          rintro e y3 ⟨v3, rfl, ho, hd⟩
          have HB := Lib.hid ho
          refine hK3 _ _ (hS.keep hd) (fun hS3 => ?_)
          clear hS ho hd hK3 K3
          refine held_one (i := 6) (oi := ?ot7) (by kernel_rfl) ?at7 ?ct7 (fun K6 hK6 => ?_)
          (case at7 => (simp only [List.getElem?_toArray, List.getElem?_cons_zero, List.getElem?_cons_succ]; rfl))
          (case ct7 => kernel_rfl)
          obtain ⟨v6, y6, hr, ho, hd⟩ := app_at (base := U.heap.size) HB.out (lies_sigr (HU.out.1.under (show Below U.heap.size U _ from hS3)) HU.out.1.lt (show Below U.heap.size U _ from hS3).size) (by rw [numBytes_len]; decide) (show Below U.heap.size U _ from hS3).size 27
          refine Lib.wp_append_run _ _ _ _ _ rfl _ _ rfl rfl _ _ hr ?_
          have HB := Lib.hid ho
          refine hK6 _ _ (Below.trans (show Below U.heap.size U _ from hS3) hd) (fun hS6 => ?_)
          clear hr ho hd hK6 K6
          (refine held_take (i := 7) (oi := ?ot8) (v := ?vt8) ?at8 (by kernel_rfl) (by kernel_rfl) (by kernel_rfl) ?bt8 ?ct8 ?dt8 (by assumption) ?rt8; (case at8 => (simp only [List.getElem?_toArray, List.getElem?_cons_zero, List.getElem?_cons_succ]; rfl)); (case bt8 => exact fun _ _ _ h => h); (case ct8 => kernel_rfl); (case dt8 => (intro W hW; (try dsimp only at hW); go_split_ands; go_simp; (try with_reducible rfl))); (case' rt8 => simp only [Act.put, List.setIfInBounds_toArray, List.set_cons_zero, List.set_cons_succ]))
          refine wpAnyH_done (by kernel_rfl) ?_ _
          have b33 : y6.cell? ⟨w.heap.size, 33, none⟩ = some (.slice A1 n1 c1) := (HU.out.1.below (show Below U.heap.size U y6 from hS6) HU.out.1.lt).cell (i := 33) (by decide)
          have HI : Hid (LA U U.heap.size (numBytes 0 4 idx ++ nodeL r) v6 y6) := Lib.hid ⟨HB.out, hS6⟩
          clear hS6 HB
          go_wp2
          go_loopw [8, 48] (fun v j W => ∃ k : Nat, k ≤ n1 ∧ j = .int .i64 k ∧ Hid (LA U U.heap.size ((numBytes 0 4 idx ++ nodeL r) ++ nodesL (ots.take k)) v W)) (fun _ i _ => n1 - (intOf i).toNat)
          case atStart => exact ⟨0, Nat.zero_le _, rfl, Lib.hid (by rw [List.take_zero, show nodesL [] = [] from rfl, List.append_nil]; exact HI.out)⟩
          case round =>
            obtain ⟨k, hk, rfl, hQ⟩ := hrel
            by_cases hlt : k < n1
            · have hkI : (k : Int) < (n1 : Int) := by omega
              have hk3 : (k : Int) ≤ 1000 := by have := HN.out.1; have := HN.out.2.1; have := HN.out.2.2.1; have := HN.out.2.2.2; omega
              obtain ⟨a, p, rfl, hp, hpb, hc⟩ := ((HRU.out.1.below hQ.out.b)).at (k := k) (by have := HN.out.1; omega)
              obtain ⟨f, hf⟩ : ∃ f, f = ots[k]'(by have := HN.out.1; omega) := ⟨_, rfl⟩
              rw [← hf] at hc
              have HC := Lib.hid hc
              have HT : Hid ((numBytes 0 4 idx ++ nodeL r) ++ nodesL (ots.take (k + 1)) = ((numBytes 0 4 idx ++ nodeL r) ++ nodesL (ots.take k)) ++ nodeL f) := Lib.hid (by rw [List.take_succ_eq_append_getElem (by have := HN.out.1; omega), ← hf, nodesL_snoc]; simp only [List.append_assoc])
              have hle : ((numBytes 0 4 idx ++ nodeL r) ++ nodesL (ots.take k)).length ≤ 1000000000 := by simp only [List.length_append, numBytes_len, nodeL_length, nodesL_length, List.length_take]; have := HN.out.2.2.1; have := HN.out.2.2.2; omega
              obtain ⟨v9, y9, hr9, h9⟩ := hQ.out.step (Nat.le_refl _) f hle 27
              have H9 := Lib.hid h9
              clear hc hf hpb h9 hle b33
              go_wp2_with (first
                | ((with_reducible show wpList _ _ _ (Oper.mk _ (.load _ _) _ _ _ _ :: _) _ _); refine wl_load_q rfl 29 _ rfl p rfl _ (load_p HC.out) ?_)
                | ((with_reducible show wpList _ _ _ (Oper.mk _ (.store _ _ _) _ _ _ _ :: _) _ _); refine wl_store rfl 29 _ _ rfl _ rfl _ rfl (run_store_arr (Arr.new wr _ _ _) (bys f) info26 (bys_one _ _)) ?_)
                | ((with_reducible show wpList _ _ _ (Oper.mk _ (.call ⟨.builtin .append, _, _⟩) _ _ _ _ :: _) _ _); refine wpList_plain rfl fun K hK => Lib.wp_append_run _ _ _ _ _ rfl _ _ rfl rfl _ _ hr9 (hK _ _ ?_); clear hK K))
              clear hr9
              go_roundw
              case rel => exact ⟨k + 1, by omega, by go_num, Lib.hid (by rw [HT.out]; exact H9.out)⟩
              case measure => simp [intOf]; omega
            · obtain rfl : k = n1 := by omega
              have hI := hQ.out
              rw [List.take_of_length_le (by have := HN.out.1; omega)] at hI
              have b34 : wr.cell? ⟨w.heap.size, 34, none⟩ = some (.slice A2 n2 c2) := (HU.out.1.below hI.b HU.out.1.lt).cell (i := 34) (by decide)
              have HI := Lib.hid hI
              clear hI
              go_wp2
              go_loopw [8, 59] (fun v j W => ∃ k : Nat, k ≤ n2 ∧ j = .int .i64 k ∧ Hid (LA U U.heap.size (((numBytes 0 4 idx ++ nodeL r) ++ nodesL ots) ++ nodesL (auth.take k)) v W)) (fun _ i _ => n2 - (intOf i).toNat)
              case atStart => exact ⟨0, Nat.zero_le _, rfl, Lib.hid (by rw [List.take_zero, show nodesL [] = [] from rfl, List.append_nil]; exact HI.out)⟩
              case round =>
                obtain ⟨k, hk, rfl, hQ⟩ := hrel
                by_cases hlt : k < n2
                · have hkI : (k : Int) < (n2 : Int) := by omega
                  have hk3 : (k : Int) ≤ 1000 := by have := HN.out.1; have := HN.out.2.1; have := HN.out.2.2.1; have := HN.out.2.2.2; omega
                  obtain ⟨a, p, rfl, hp, hpb, hc⟩ := ((HRU.out.2.below hQ.out.b)).at (k := k) (by have := HN.out.2.1; omega)
                  obtain ⟨f, hf⟩ : ∃ f, f = auth[k]'(by have := HN.out.2.1; omega) := ⟨_, rfl⟩
                  rw [← hf] at hc
                  have HC := Lib.hid hc
                  have HT : Hid (((numBytes 0 4 idx ++ nodeL r) ++ nodesL ots) ++ nodesL (auth.take (k + 1)) = (((numBytes 0 4 idx ++ nodeL r) ++ nodesL ots) ++ nodesL (auth.take k)) ++ nodeL f) := Lib.hid (by rw [List.take_succ_eq_append_getElem (by have := HN.out.2.1; omega), ← hf, nodesL_snoc]; simp only [List.append_assoc])
                  have hle : (((numBytes 0 4 idx ++ nodeL r) ++ nodesL ots) ++ nodesL (auth.take k)).length ≤ 1000000000 := by simp only [List.length_append, numBytes_len, nodeL_length, nodesL_length, List.length_take]; have := HN.out.2.2.1; have := HN.out.2.2.2; omega
                  obtain ⟨v9, y9, hr9, h9⟩ := hQ.out.step (Nat.le_refl _) f hle 27
                  have H9 := Lib.hid h9
                  clear hc hf hpb h9 hle b34
                  go_wp2_with (first
                    | ((with_reducible show wpList _ _ _ (Oper.mk _ (.load _ _) _ _ _ _ :: _) _ _); refine wl_load_q rfl 29 _ rfl p rfl _ (load_p HC.out) ?_)
                    | ((with_reducible show wpList _ _ _ (Oper.mk _ (.store _ _ _) _ _ _ _ :: _) _ _); refine wl_store rfl 29 _ _ rfl _ rfl _ rfl (run_store_arr (Arr.new wr _ _ _) (bys f) info26 (bys_one _ _)) ?_)
                    | ((with_reducible show wpList _ _ _ (Oper.mk _ (.call ⟨.builtin .append, _, _⟩) _ _ _ _ :: _) _ _); refine wpList_plain rfl fun K hK => Lib.wp_append_run _ _ _ _ _ rfl _ _ rfl rfl _ _ hr9 (hK _ _ ?_); clear hK K))
                  clear hr9
                  go_roundw
                  case rel => exact ⟨k + 1, by omega, by go_num, Lib.hid (by rw [HT.out]; exact H9.out)⟩
                  case measure => simp [intOf]; omega
                · obtain rfl : k = n2 := by omega
                  have hI := hQ.out
                  rw [List.take_of_length_le (by have := HN.out.2.1; omega)] at hI
                  go_wp2
                  go_ret2
                  have hrow := owns_mono hI.row HU.out.2.size
                  have e : ((numBytes 0 4 idx ++ nodeL r) ++ nodesL ots) ++ nodesL auth = sigL idx r ots auth := by simp only [sigL, List.append_assoc]
                  rw [e] at hrow
                  exact ⟨_, rfl, hrow, HU.out.2.trans (hI.b.mono HU.out.2.size)⟩
        · have t3 : (P : Int) ≤ (idx : Int) := by omega
          have hq2 : psOk oid idx n1 n2 = false := by rw [hq, decide_eq_false g3, Bool.false_and, Bool.false_and]
          rw [hq2, if_neg (by decide), if_neg (by decide)]
          clear hq hq2
          clear hV h0 hB h1 h2 hn1 hn2 g1 g2 g3
          go_enter Try.func19, Try.ntmps19
          go_upto_region 1 with fail
          rw [← HW.out]
          clear HW
          go_upto_region 4 with (go_at_call 9; refine (HH.out _).mono ?_; rintro e w1 ⟨rfl, hw1⟩; rw [← hw1]; clear hw1)
          go_quiet (fail)
          go_wp2
          go_ret2
          exact ⟨_, rfl, World.ownsRow_nil _ _ _ _, below_drewN HA.out.2 _⟩
      · have t2 : ((n2 : Int) != (h : Int)) = true := bne_iff_ne.2 (by omega)
        have hq2 : psOk oid idx n1 n2 = false := by rw [hq, decide_eq_false g2, Bool.and_false, Bool.false_and]
        rw [hq2, if_neg (by decide), if_neg (by decide)]
        clear hq hq2
        clear hV h0 hB h1 h2 hn1 hn2 g1 g2
        go_enter Try.func19, Try.ntmps19
        go_upto_region 1 with fail
        rw [← HW.out]
        clear HW
        go_upto_region 4 with (go_at_call 9; refine (HH.out _).mono ?_; rintro e w1 ⟨rfl, hw1⟩; rw [← hw1]; clear hw1)
        go_quiet (fail)
        go_wp2
        go_ret2
        exact ⟨_, rfl, World.ownsRow_nil _ _ _ _, below_drewN HA.out.2 _⟩
    · have t1 : ((n1 : Int) != 67) = true := bne_iff_ne.2 (by omega)
      have hq2 : psOk oid idx n1 n2 = false := by rw [hq, decide_eq_false g1, Bool.and_false]
      rw [hq2, if_neg (by decide), if_neg (by decide)]
      clear hq hq2
      clear hV h0 hB h1 h2 hn1 hn2 g1 
      go_enter Try.func19, Try.ntmps19
      go_upto_region 1 with fail
      rw [← HW.out]
      clear HW
      go_upto_region 4 with (go_at_call 9; refine (HH.out _).mono ?_; rintro e w1 ⟨rfl, hw1⟩; rw [← hw1]; clear hw1)
      go_quiet (fail)
      go_wp2
      go_ret2
      exact ⟨_, rfl, World.ownsRow_nil _ _ _ _, below_drewN HA.out.2 _⟩
end Go.Proofs.Ytfeiplaiekbdkaa
