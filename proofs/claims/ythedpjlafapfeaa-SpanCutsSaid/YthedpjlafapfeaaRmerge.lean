/- Merge: the reference's. -/
import Derived.Test.YthedpjlafapfeaaRins
import Derived.Test.YthedpjlafapfeaaRuns
import Derived.Test.YthedpjlafapfeaaTwoB
namespace Go.Proofs.Ythedpjlafapfeaa
open Go.RowKit
attribute [local go_sem ↓ high] builtin_appS

/-- A box of a call, behind a call that leaves what was there. -/
theorem keep2 {w W W1 : World} {p q : Addr} {x y : Value} (hd : Below W.heap.size W W1) (h : Below w.heap.size w W ∧ W.cell? p = some x ∧ W.cell? q = some y) :
    Below w.heap.size w W1 ∧ W1.cell? p = some x ∧ W1.cell? q = some y := by
  obtain ⟨h0, h1, h2⟩ := h
  exact ⟨h0.trans (hd.mono h0.size), (hd.cell (World.block_lt_of_cell? W p h1)).trans h1, (hd.cell (World.block_lt_of_cell? W q h2)).trans h2⟩
theorem insFin_step (st : List Sp × Bool × Sp) (x : Sp) : (insFin (insStep st x)).length ≤ (insFin st).length + 1 := by
  obtain ⟨out, d, s⟩ := st
  unfold insStep
  split
  · cases d <;> simp [insFin]
  · split
    · cases d <;> simp [insFin]
    · cases d <;> simp [insFin]
theorem ins_fold_len : ∀ (l : List Sp) (st : List Sp × Bool × Sp), (insFin (l.foldl insStep st)).length ≤ (insFin st).length + l.length
  | [], st => by simp
  | x :: r, st => by
    have h1 := ins_fold_len r (insStep st x)
    have h2 := insFin_step st x
    simp only [List.foldl_cons, List.length_cons]
    omega
theorem insS_len (l : List Sp) (s : Sp) : (insS l s).length ≤ l.length + 1 := by
  have := ins_fold_len l ([], false, s)
  unfold insS
  simp [insFin] at this ⊢
  omega
theorem mergeE_fold_len : ∀ (l acc : List Sp), (l.foldl (fun all x => if good x then insS all (x.1, last x) else all) acc).length ≤ acc.length + l.length
  | [], acc => by simp
  | x :: r, acc => by
    simp only [List.foldl_cons, List.length_cons]
    have h1 := mergeE_fold_len r (if good x then insS acc (x.1, last x) else acc)
    have h2 := insS_len acc (x.1, last x)
    split at h1 <;> rename_i h <;> simp only [h] <;> simp <;> omega
theorem mergeE_len (l : List Sp) : (mergeE l).length ≤ l.length := by
  have := mergeE_fold_len l []
  simpa [mergeE] using this
theorem mergeE_succ (l : List Sp) {k : Nat} (h : k < l.length) : mergeE (l.take (k + 1)) = if good l[k] then insS (mergeE (l.take k)) (l[k].1, last l[k]) else mergeE (l.take k) := by
  unfold mergeE
  rw [foldl_take_succ _ _ _ h]
theorem erise_fit : ∀ (l : List Sp) (a : Nat), ERise a l → ∀ x ∈ l, x.1 ≤ x.2 ∧ x.2 < 18446744073709551616
  | [], _, _, _, h => by cases h
  | y :: r, a, hr, x, h => by
    obtain ⟨_, h2, h3, h4⟩ := hr
    rcases List.mem_cons.1 h with rfl | h
    · exact ⟨h2, h3⟩
    · exact erise_fit r _ h4 x h
theorem mergeE_fit (l : List Sp) : ∀ x ∈ mergeE l, x.1 ≤ x.2 ∧ x.2 < 18446744073709551616 := erise_fit _ 0 (mergeE_spec l).1
theorem OwnS.block {w : World} {base : Nat} {v : Value} {l : List Sp} (h : OwnS w base v l) : ∀ k, v.ownBlock = some k → base ≤ k := by
  intro k hk
  rcases h.2 with ⟨rfl, _⟩ | ⟨g, cap, cur, rfl, hg, hh, _⟩
  · simp [Value.ownBlock] at hk
  · obtain rfl : g = k := by simpa [Value.ownBlock] using hk
    exact hg
theorem outE_len (e : Sp) : (outE e).length ≤ 2 := by unfold outE; split <;> simp
theorem flat_len (f : Sp → List Sp) (hf : ∀ e, (f e).length ≤ 2) : ∀ l : List Sp, (l.flatMap f).length ≤ 2 * l.length
  | [] => by simp
  | x :: r => by
    have := hf x
    have := flat_len f hf r
    simp only [List.flatMap_cons, List.length_append, List.length_cons]
    omega
theorem flat_succ (f : Sp → List Sp) (l : List Sp) {k : Nat} (h : k < l.length) : (l.take (k + 1)).flatMap f = (l.take k).flatMap f ++ f l[k] := by
  rw [List.take_succ_eq_append_getElem h, List.flatMap_append]; simp

set_option maxHeartbeats 4000000 in
set_option maxRecDepth 100000 in
theorem rmerge_any (A : Option Addr) (cap : Nat) (l : List Sp) (hl : l.length ≤ 100000) (hf : ∀ x ∈ l, fit x) (w : World) (hR : Row w w.heap.size A l) :
    Calls Try.prog 26 #[.slice A l.length cap] w fun e w' => ∃ v, e = .returned v ∧ OwnS w' w.heap.size v (mergeS l) ∧ Below w.heap.size w w' := by
  have Hl := Lib.hid hl
  have HF := Lib.hid hf
  have HR := Lib.hid hR
  have H0 := Lib.hid (show OwnE w w.heap.size (.slice none 0 0) (mergeE (l.take 0)) ∧ Below w.heap.size w w from ⟨World.ownsRow_nil _ _ _ _, Below.refl _ _⟩)
  clear hl hf hR
  go_enter Try.func26, Try.ntmps26
  go_wp2
  go_loopw [3, 11] (fun va vi W => ∃ k : Nat, k ≤ l.length ∧ vi = .int .i64 k ∧ Hid (OwnE W w.heap.size va (mergeE (l.take k)) ∧ Below w.heap.size w W)) (fun _ i _ => l.length - (intOf i).toNat)
  case atStart => exact ⟨0, Nat.zero_le _, rfl, H0⟩
  case round =>
    obtain ⟨k, hk, rfl, HI⟩ := hrel
    obtain ⟨W, rfl⟩ : ∃ W : World, W = wr := ⟨_, rfl⟩
    clear H0
    have hb3 : k + 1 ≤ 1000001 := by have := Hl.out; omega
    obtain ⟨A', c', rfl, hrow⟩ := HI.out.1.row
    have HML := Lib.hid (show (mergeE (l.take k)).length ≤ 100000 from by have h1 := mergeE_len (l.take k); rw [List.length_take] at h1; have := Hl.out; omega)
    have HMF := Lib.hid (show ∀ x ∈ mergeE (l.take k), fit x from fun x hx => by have := mergeE_fit _ x hx; unfold fit; omega)
    have HRow := Lib.hid (show ∀ X, Below W.heap.size W X → Row X X.heap.size A' (mergeE (l.take k)) from fun X hb => (hrow.below hb).wide hb.size)
    clear hrow
    by_cases hlt : k < l.length
    · obtain ⟨ad, p, rfl, hp, hpb, hc1, hc2⟩ := (HR.out.below HI.out.2).at hlt
      have hms := mergeE_succ l hlt
      obtain ⟨x, hx⟩ : ∃ x, l[k] = x := ⟨_, rfl⟩
      rw [hx] at hc1 hc2 hms
      obtain ⟨b, s⟩ := x
      have HFX := Lib.hid (show fit (b, s) from hx ▸ HF.out _ (List.getElem_mem hlt))
      have HAt := Lib.hid (show ∀ X, Below (W.alloc (spo b s)).heap.size (W.alloc (spo b s)) X → X.cell? ⟨W.heap.size, 0, none⟩ = some (.int .u64 (b : Int)) ∧ X.cell? ⟨W.heap.size, 1, none⟩ = some (.int .u64 (s : Int)) from fun X hd =>
        ⟨(hd.cell (p := ⟨W.heap.size, 0, none⟩) (by simp)).trans (by simp), (hd.cell (p := ⟨W.heap.size, 1, none⟩) (by simp)).trans (by simp)⟩)
      have HB1 := Lib.hid (show ∀ X, Below (W.alloc (spo b s)).heap.size (W.alloc (spo b s)) X → Below W.heap.size W X from fun X hd => ((Below.refl _ W).alloc (Nat.le_refl _) _).trans (hd.mono (by simp)))
      have hg := fun X => rgood_bel b s HFX.out X
      have HMS := Lib.hid hms
      clear hx hms
      simp only at hc1 hc2
      by_cases hgd : good (b, s) = true
      · rw [hgd] at hg
        have HG := Lib.hid hg
        clear hg
        go_upto_region 6 with (go_at_call 11; refine (HG.out _).mono ?_; rintro e w1 ⟨rfl, hd⟩; obtain ⟨cx0, cx1⟩ := HAt.out w1 hd; have Hd := Lib.hid hd; clear hd)
        clear hc1 hc2
        refine wp_region_held_drew (S := fun X => Below w1.heap.size w1 X ∧ X.cell? ⟨W.heap.size, 0, none⟩ = some (.int .u64 (b : Int)) ∧ X.cell? ⟨W.heap.size, 1, none⟩ = some (.int .u64 (s : Int))) (by kernel_rfl) (by exact ⟨(Below.refl _ _).drew, cx0, cx1⟩) (fun hS => ?_)
        (refine held_take (i := 0) (oi := ?ot1) (v := ?vt1) ?at1 (by kernel_rfl) (by kernel_rfl) (by kernel_rfl) ?bt1 ?ct1 ?dt1 (by assumption) ?rt1; (case at1 => (simp only [List.getElem?_toArray, List.getElem?_cons_zero]; rfl)); (case bt1 => exact fun _ _ _ h => h); (case ct1 => kernel_rfl); (case dt1 => (intro W hW; (try dsimp only at hW); go_split_ands; go_simp; (try with_reducible rfl))); (case' rt1 => simp only [Act.put, List.setIfInBounds_toArray, List.set_cons_zero, List.set_cons_succ]))
        (refine held_take (i := 1) (oi := ?ot2) (v := ?vt2) ?at2 (by kernel_rfl) (by kernel_rfl) (by kernel_rfl) ?bt2 ?ct2 ?dt2 (by assumption) ?rt2; (case at2 => (simp only [List.getElem?_toArray, List.getElem?_cons_zero, List.getElem?_cons_succ]; rfl)); (case bt2 => exact fun _ _ _ h => h); (case ct2 => kernel_rfl); (case dt2 => (intro W hW; (try dsimp only at hW); go_split_ands; go_simp; (try with_reducible rfl))); (case' rt2 => simp only [Act.put, List.setIfInBounds_toArray, List.set_cons_zero, List.set_cons_succ]))
        (refine held_take (i := 2) (oi := ?ot3) (v := ?vt3) ?at3 (by kernel_rfl) (by kernel_rfl) (by kernel_rfl) ?bt3 ?ct3 ?dt3 (by assumption) ?rt3; (case at3 => (simp only [List.getElem?_toArray, List.getElem?_cons_zero, List.getElem?_cons_succ]; rfl)); (case bt3 => exact fun _ _ _ h => h); (case ct3 => kernel_rfl); (case dt3 => (intro W hW; (try dsimp only at hW); go_split_ands; go_simp; (try with_reducible rfl))); (case' rt3 => simp only [Act.put, List.setIfInBounds_toArray, List.set_cons_zero, List.set_cons_succ]))
        (refine held_take (i := 3) (oi := ?ot4) (v := ?vt4) ?at4 (by kernel_rfl) (by kernel_rfl) (by kernel_rfl) ?bt4 ?ct4 ?dt4 (by assumption) ?rt4; (case at4 => (simp only [List.getElem?_toArray, List.getElem?_cons_zero, List.getElem?_cons_succ]; rfl)); (case bt4 => exact fun _ _ _ h => h); (case ct4 => kernel_rfl); (case dt4 => (intro W hW; (try dsimp only at hW); go_split_ands; go_simp; (try with_reducible rfl))); (case' rt4 => simp only [Act.put, List.setIfInBounds_toArray, List.set_cons_zero, List.set_cons_succ]))
        refine held_one (i := 4) (oi := ?ot5) (by kernel_rfl) ?at5 ?ct5 (fun K4 hK4 => ?_)
        (case at5 => (simp only [List.getElem?_toArray, List.getElem?_cons_zero, List.getElem?_cons_succ]; rfl))
        (case ct5 => kernel_rfl)
        go_simp
        refine (rlast_bel b s HFX.out _).mono ?_
        rintro e w2 ⟨rfl, hd2⟩
        refine hK4 _ _ (keep2 hd2 hS) (fun hS4 => ?_)
        clear hS hd2 hK4 K4
        (refine held_take (i := 5) (oi := ?ot6) (v := ?vt6) ?at6 (by kernel_rfl) (by kernel_rfl) (by kernel_rfl) ?bt6 ?ct6 ?dt6 (by assumption) ?rt6; (case at6 => (simp only [List.getElem?_toArray, List.getElem?_cons_zero, List.getElem?_cons_succ]; rfl)); (case bt6 => exact fun _ _ _ h => h); (case ct6 => kernel_rfl); (case dt6 => (intro W hW; (try dsimp only at hW); go_split_ands; go_simp; (try with_reducible rfl))); (case' rt6 => simp only [Act.put, List.setIfInBounds_toArray, List.set_cons_zero, List.set_cons_succ]))
        refine held_one (i := 6) (oi := ?ot7) (by kernel_rfl) ?at7 ?ct7 (fun K6 hK6 => ?_)
        (case at7 => (simp only [List.getElem?_toArray, List.getElem?_cons_zero, List.getElem?_cons_succ]; rfl))
        (case ct7 => kernel_rfl)
        go_simp
        refine (rinsert_any A' c' (mergeE (l.take k)) HML.out HMF.out b (last (b, s)) ⟨HFX.out.1, last_lt _⟩ w2 (HRow.out w2 (HB1.out w2 (Hd.out.trans (hS4.1.mono Hd.out.size))))).mono ?_
        rintro e w3 ⟨v3, rfl, hown3, hd3⟩
        have H3 := Lib.hid hown3
        have H2 := Lib.hid (HB1.out w2 (Hd.out.trans (hS4.1.mono Hd.out.size)))
        have H23 := Lib.hid hd3
        refine hK6 _ _ (keep2 hd3 hS4) (fun hS6 => ?_)
        clear hS4 hd3 hK6 K6 hown3
        (refine held_take (i := 7) (oi := ?ot8) (v := ?vt8) ?at8 (by kernel_rfl) (by kernel_rfl) (by kernel_rfl) ?bt8 ?ct8 ?dt8 (by assumption) ?rt8; (case at8 => (simp only [List.getElem?_toArray, List.getElem?_cons_zero, List.getElem?_cons_succ]; rfl)); (case bt8 => exact fun _ _ _ h => h); (case ct8 => kernel_rfl); (case dt8 => (intro W hW; (try dsimp only at hW); go_split_ands; go_simp; (try with_reducible rfl))); (case' rt8 => simp only [Act.put, List.setIfInBounds_toArray, List.set_cons_zero, List.set_cons_succ]))
        refine wpAnyH_done (by kernel_rfl) ?_ _
        clear hS6
        go_wp2_with fail
        go_roundw
        case rel => exact ⟨k + 1, by omega, by go_num, Lib.hid ⟨by rw [HMS.out, if_pos hgd]; exact H3.out.low (Nat.le_trans HI.out.2.size H2.out.size), HI.out.2.trans ((H2.out.trans (H23.out.mono H2.out.size)).mono HI.out.2.size)⟩⟩
        case measure => simp [intOf]; omega
      · have hgf : good (b, s) = false := by simpa using hgd
        rw [hgf] at hg
        have HG := Lib.hid hg
        clear hg
        go_wp2_with (go_at_call 11; refine (HG.out _).mono ?_; rintro e w1 ⟨rfl, hd⟩; have Hd := Lib.hid hd; clear hd)
        go_roundw
        case rel => exact ⟨k + 1, by omega, by go_num, Lib.hid ⟨by rw [HMS.out, if_neg hgd]; exact HI.out.1.below (HB1.out _ Hd.out), HI.out.2.trans ((HB1.out _ Hd.out).mono HI.out.2.size)⟩⟩
        case measure => simp [intOf]; omega
    · obtain rfl : k = l.length := by omega
      have e1 : l.take l.length = l := List.take_length
      rw [e1] at HRow HI HML
      clear HMF
      obtain ⟨m, hm⟩ : ∃ m, m = mergeE l := ⟨_, rfl⟩
      have hMF := mergeE_fit l
      rw [e1]
      rw [← hm] at HRow HI HML hMF ⊢
      have HM := Lib.hid (show mergeS l = m.flatMap outE by rw [hm]; rfl)
      have HMF := Lib.hid hMF
      clear hm e1 hMF
      have H0 := Lib.hid (show OwnS W W.heap.size (.slice none 0 0) ((m.take 0).flatMap outE) ∧ Below W.heap.size W W from ⟨World.ownsRow_nil _ _ _ _, Below.refl _ _⟩)
      go_wp2_with fail
      go_loopw [6, 27] (fun vo vi X => ∃ j : Nat, j ≤ m.length ∧ vi = .int .i64 j ∧ Hid (OwnS X W.heap.size vo ((m.take j).flatMap outE) ∧ Below W.heap.size W X)) (fun _ i _ => m.length - (intOf i).toNat)
      case atStart => exact ⟨0, Nat.zero_le _, rfl, H0⟩
      case round =>
        obtain ⟨j, hj, rfl, HJ⟩ := hrel
        obtain ⟨X, rfl⟩ : ∃ X : World, X = wr := ⟨_, rfl⟩
        clear H0
        have hb4 : j + 1 ≤ 1000001 := by have := HML.out; omega
        by_cases hjl : j < m.length
        · obtain ⟨ad, p, rfl, hp, hpb, hc1, hc2⟩ := (HRow.out X HJ.out.2).at hjl
          have hms := flat_succ outE m hjl
          have hfl := flat_len outE outE_len (m.take j)
          rw [List.length_take] at hfl
          have hme := HMF.out _ (List.getElem_mem hjl)
          obtain ⟨x, hx⟩ : ∃ x, m[j] = x := ⟨_, rfl⟩
          rw [hx] at hc1 hc2 hms hme
          obtain ⟨c, e⟩ := x
          have HCE := Lib.hid hme
          have HMS := Lib.hid hms
          obtain ⟨out, ho⟩ : ∃ out, out = (m.take j).flatMap outE := ⟨_, rfl⟩
          rw [← ho] at hfl HJ HMS
          have hol : out.length + 2 ≤ 1000000 := by have := HML.out; omega
          have hX1 := enb_new X c e
          have cx0 := hX1.cell0
          have cx1 := hX1.cell1
          simp only at hc1 hc2 cx0 cx1
          have HO1 := Lib.hid (show OwnS (X.alloc (enb c e)) W.heap.size u6 out ∧ Below W.heap.size W (X.alloc (enb c e)) from ⟨HJ.out.1.below ((Below.refl _ _).alloc (Nat.le_refl _) _), HJ.out.2.alloc HJ.out.2.size _⟩)
          clear hx hms hme hX1 hfl ho
          go_upto_region 12 with fail
          generalize hW1 : X.alloc (enb c e) = X1 at cx0 cx1 HO1 ⊢
          have hz1 : X1.heap.size = X.heap.size + 1 := by rw [← hW1]; simp
          clear hW1
          obtain ⟨q, hq⟩ : ∃ q, q = decide (c = 0 ∧ e = 18446744073709551615) := ⟨_, rfl⟩
          have HQ := Lib.hid hq
          clear hq
          go_cut [38] from 28 to 56 (fun v wx => v = .bool q ∧ wx = X1)
          case first =>
            by_cases h1 : c = 0
            · have h1z : (c : Int) = 0 := by omega
              by_cases h2 : e = 18446744073709551615
              · have h2z : (e : Int) = 18446744073709551615 := by omega
                go_wp2_with fail
                go_meet
                case rel => exact ⟨by rw [HQ.out]; simp [h1, h2], rfl⟩
              · have h2z : ¬ ((e : Int) = 18446744073709551615) := by omega
                go_wp2_with fail
                go_meet
                case rel => exact ⟨by rw [HQ.out]; simp [h2]; try omega, rfl⟩
            · have h1z : ¬ ((c : Int) = 0) := by omega
              have h1y : ((c : Int) == 0) = false := by simp; omega
              go_wp2_with fail
              go_meet
              case rel => exact ⟨by rw [HQ.out]; simp [h1], rfl⟩
          case rest =>
            obtain ⟨h38, hwc⟩ := hcut
            subst h38
            rw [hwc]
            clear hwc wc
            cases q
            · have hno : ¬ (c = 0 ∧ e = 18446744073709551615) := of_decide_eq_false HQ.out.symm
              have HNO := Lib.hid hno
              have hw1 := wrap_le HCE.out.1 HCE.out.2
              have hw2 : IntKind.u64.wrap ((e : Int) - (c : Int) + 1) = (e : Int) - (c : Int) + 1 := by
                have := HCE.out
                simp [IntKind.wrap, IntKind.bits, IntKind.signed]; omega
              obtain ⟨v', w', hrun, hown, hgr⟩ := app2_run X1 W.heap.size u6 out [(c, e - c + 1)] HO1.out.1 HO1.out.2.size (by simp only [List.length_cons, List.length_nil]; omega) 32 #[.int .u64 (c : Int), .int .u64 ((e : Int) - (c : Int) + 1)] (by have := HCE.out.1; simp [cells2]; omega)
              simp only [hz1, List.length_cons, List.length_nil, Nat.zero_add] at hrun
              have HOW := Lib.hid (show OwnS w' W.heap.size v' (out ++ [(c, e - c + 1)]) ∧ Below W.heap.size W w' from ⟨hown, below_app (HO1.out.2.alloc HO1.out.2.size _) hgr (by have := HO1.out.2.size; simp; omega) HO1.out.1.block (Nat.le_refl _)⟩)
              clear hown hgr hno HQ
              go_wp2_with fail
              go_roundw
              case rel => exact ⟨j + 1, by omega, by go_num, Lib.hid (by rw [HMS.out, show outE (c, e) = [(c, e - c + 1)] from if_neg HNO.out]; exact HOW.out)⟩
              case measure => simp [intOf]; omega
            · have hyes : c = 0 ∧ e = 18446744073709551615 := of_decide_eq_true HQ.out.symm
              have HY := Lib.hid hyes
              obtain ⟨v', w', hrun, hown, hgr⟩ := app2_run X1 W.heap.size u6 out [(0, half), (half, half)] HO1.out.1 HO1.out.2.size (by simp only [List.length_cons, List.length_nil]; omega) 32 #[.int .u64 0, .int .u64 9223372036854775808, .int .u64 9223372036854775808, .int .u64 9223372036854775808] (by rfl)
              simp only [hz1, List.length_cons, List.length_nil, Nat.zero_add] at hrun
              have HOW := Lib.hid (show OwnS w' W.heap.size v' (out ++ [(0, half), (half, half)]) ∧ Below W.heap.size W w' from ⟨hown, below_app (HO1.out.2.alloc HO1.out.2.size _) hgr (by have := HO1.out.2.size; simp; omega) HO1.out.1.block (Nat.le_refl _)⟩)
              clear hown hgr hyes HQ
              go_wp2_with fail
              go_roundw
              case rel => exact ⟨j + 1, by omega, by go_num, Lib.hid (by rw [HMS.out, show outE (c, e) = [(0, half), (half, half)] from if_pos HY.out]; exact HOW.out)⟩
              case measure => simp [intOf]; omega
        · obtain rfl : j = m.length := by omega
          have e2 : m.take m.length = m := List.take_length
          rw [e2] at HJ
          clear e2
          go_wp2_with fail
          go_ret
          exact ⟨_, rfl, by rw [HM.out]; exact HJ.out.1.low HI.out.2.size, HI.out.2.trans (HJ.out.2.mono HI.out.2.size)⟩
end Go.Proofs.Ythedpjlafapfeaa
