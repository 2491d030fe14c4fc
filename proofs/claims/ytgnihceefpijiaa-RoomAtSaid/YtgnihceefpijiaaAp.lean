/- room.apart, room.bare: parts in order that lie apart; parts without their ranks. -/
import Derived.Test.YtgnihceefpijiaaGh
namespace Go.Proofs.Ytgnihceefpijiaa
open Go.RowKit
attribute [local go_sem ↓ high] builtin_appS
attribute [local go_sem ↓ high] zeroRk zeroMp

/-- Part i lies apart from the one ahead. -/
def apAt (l : List Rk) (i : Nat) : Bool := match l[i - 1]?, l[i]? with
  | some x, some y => decide (i = 0) || !overlap (ipaS x.m) (ipaS y.m)
  | _, _ => true
def apartB (l : List Rk) : Bool := (List.range l.length).all (apAt l)
theorem apAt_zero (l : List Rk) : apAt l 0 = true := by
  unfold apAt
  cases l with
  | nil => rfl
  | cons x l => rfl
theorem apAt_succ {l : List Rk} {i : Nat} (h : i + 1 < l.length) : apAt l (i + 1) = !overlap (ipaS (l[i]'(by omega)).m) (ipaS l[i + 1].m) := by
  unfold apAt
  rw [Nat.add_sub_cancel, List.getElem?_eq_getElem (show i < l.length by omega), List.getElem?_eq_getElem h]
  simp
theorem apart_ok {l : List Rk} (hb : ∀ y ∈ l, MpB y.m) (hg : ∀ y ∈ l, gdS y.m = true) (hs : SortR l) : apartB l = okM (l.map Rk.m) := by
  rw [Bool.eq_iff_iff, okM_iff]
  unfold apartB
  rw [range_all]
  constructor
  · intro h
    refine ⟨fun x hx => ?_, ?_⟩
    · obtain ⟨y, hy, rfl⟩ := List.mem_map.1 hx
      exact hg y hy
    · have hstep : ∀ i (hi : i + 1 < l.length), (l[i]'(by omega)).m.ipa + (l[i]'(by omega)).m.size ≤ l[i + 1].m.ipa ∧ 0 < (l[i]'(by omega)).m.size := fun i hi => by
        have h1 := h (i + 1) hi
        rw [apAt_succ hi] at h1
        have h2 := List.pairwise_iff_getElem.1 hs i (i + 1) (by omega) hi (by omega)
        exact ok_rise (hb _ (List.getElem_mem _)) (hb _ (List.getElem_mem _)) (hg _ (List.getElem_mem _)) (hg _ (List.getElem_mem _)) (by simpa using h1) h2
      have hfar : ∀ d i (hi : i + d + 1 < l.length), (l[i]'(by omega)).m.ipa + (l[i]'(by omega)).m.size ≤ (l[i + d + 1]'hi).m.ipa := by
        intro d
        induction d with
        | zero => intro i hi; exact (hstep i hi).1
        | succ d ih =>
          intro i hi
          have h1 := ih i (by omega)
          have h2 := hstep (i + d + 1) (by omega)
          have e : l[i + (d + 1) + 1] = l[i + d + 1 + 1] := by congr 1
          rw [e]
          omega
      rw [List.pairwise_iff_getElem]
      intro i j hi hj hij
      rw [List.length_map] at hi hj
      rw [List.getElem_map, List.getElem_map]
      have h1 := hfar (j - i - 1) i (by omega)
      have e : l[i + (j - i - 1) + 1]'(by omega) = l[j] := by congr 1; omega
      rw [e] at h1
      have b1 := hb _ (List.getElem_mem hi)
      have b2 := hb _ (List.getElem_mem hj)
      rw [← Bool.not_eq_true, overlap_iff]
      rintro ⟨_, _, h3, h4⟩
      have z1 := b1.ipa.1
      have z2 := b1.size.1
      have z3 := b2.ipa.1
      unfold ipaS at h3 h4
      simp only at h3 h4
      have g1 := hg _ (List.getElem_mem hi)
      unfold gdS at g1
      rw [Bool.and_eq_true] at g1
      have g2 := (good_iff _).1 g1.1
      unfold ipaS at g2
      simp only at g2
      omega
  · rintro ⟨_, h⟩ i hi
    cases i with
    | zero => exact apAt_zero l
    | succ i =>
      rw [apAt_succ hi]
      have := List.pairwise_iff_getElem.1 h i (i + 1) (by rw [List.length_map]; omega) (by rw [List.length_map]; omega) (by omega)
      rw [List.getElem_map, List.getElem_map] at this
      rw [this]; rfl
theorem RowE.atM {w : World} {A : Option Addr} {l : List Rk} (h : RowE 6 rkE w w.heap.size A l) {k : Nat} (hk : k < l.length) : ∃ a p, A = some a ∧ a.add (k * 6) = p ∧ ∀ Y, Below w.heap.size w Y → ∀ i, i < 5 → Y.cell? (p.add i) = some (mpE l[k].m i) := by
  obtain ⟨a, p, e1, e2, e3, e4⟩ := h.at hk
  refine ⟨a, p, e1, e2, fun Y hY i hi => ?_⟩
  rw [hY.cell (p := p.add i) (by rw [addr_add_block]; exact e3), e4 i (by omega)]
  rcases (by omega : i = 0 ∨ i = 1 ∨ i = 2 ∨ i = 3 ∨ i = 4) with rfl | rfl | rfl | rfl | rfl <;> rfl
set_option maxHeartbeats 4000000 in
set_option maxRecDepth 100000 in
theorem apart_any (l : List Rk) (A : Option Addr) (c : Nat) (w : World) (hb : ∀ y ∈ l, MpB y.m) (hr : RowE 6 rkE w w.heap.size A l) (hl : l.length ≤ 1000000) : Calls Try.prog 24 #[.slice A l.length c] w (EqV (apartB l) w) := by
  obtain ⟨N, hN⟩ : ∃ n, n = l.length := ⟨_, rfl⟩
  have HN := Lib.hid hN
  have HR := Lib.hid hr
  have HB := Lib.hid hb
  have hNl : N ≤ 1000000 := by omega
  have HA : Hid ((List.range N).all (apAt l) = apartB l) := Lib.hid (by rw [hN]; rfl)
  generalize apartB l = q at HA ⊢
  unfold EqV
  rw [← hN]
  clear hN hr hb hl
  go_enter Try.func24, Try.ntmps24
  go_wp2
  go_loopw [3] (fun v W => ∃ k : Nat, v = .int .i64 k ∧ 1 ≤ k ∧ k ≤ N + 1 ∧ Hid ((List.range (min k N)).all (apAt l) = true) ∧ Hid (Below w.heap.size w W)) (fun v _ => N + 1 - (intOf v).toNat)
  case atStart => exact ⟨1, by first | rfl | go_num, Nat.le_refl _, by omega, Lib.hid (by
    rw [range_all]
    intro i hi
    obtain rfl : i = 0 := by omega
    exact apAt_zero l), Lib.hid (Below.refl _ _)⟩
  case round =>
    obtain ⟨k, rfl, hk1, hkN, HQ, HBW⟩ := hrel
    obtain ⟨V, hV⟩ : ∃ V : World, V = wr := ⟨_, rfl⟩
    subst hV
    by_cases hlt : k < N
    · have hlz : (k : Int) < (N : Int) := by omega
      obtain ⟨m, rfl⟩ : ∃ m, k = m + 1 := ⟨k - 1, by omega⟩
      have hmN : m + 1 < l.length := by rw [← HN.out]; exact hlt
      obtain ⟨a1, p1, ea, hp1, hc1⟩ := (HR.out.up HBW.out).atM (k := m) (by omega)
      subst ea
      obtain ⟨a2, p2, ea, hp2, hc2⟩ := (HR.out.up HBW.out).atM (k := m + 1) hmN
      injection ea with ea
      subst ea
      obtain ⟨x, hx⟩ : ∃ x, x = l[m] := ⟨_, rfl⟩
      obtain ⟨y, hy⟩ : ∃ y, y = l[m + 1] := ⟨_, rfl⟩
      have hbx : MpB x.m := by rw [hx]; exact HB.out _ (List.getElem_mem _)
      have hby : MpB y.m := by rw [hy]; exact HB.out _ (List.getElem_mem _)
      have hap := apAt_succ hmN
      rw [← hx, ← hy] at hap
      rw [← hx] at hc1
      rw [← hy] at hc2
      obtain ⟨o, ho⟩ : ∃ o, o = overlap (ipaS x.m) (ipaS y.m) := ⟨_, rfl⟩
      have HS1 := Lib.hid (fun W => seen_any x.m hbx W)
      have HS2 := Lib.hid (fun W => seen_any y.m hby W)
      have HOV := Lib.hid (fun W => overlapE (ipaS x.m) (ipaS y.m) (fit_ipa hbx) (fit_ipa hby) W)
      rw [← ho] at HOV hap
      unfold EqV at HOV
      have HC1 := Lib.hid hc1
      have HC2 := Lib.hid hc2
      have HAP := Lib.hid hap
      have wm : IntKind.i64.wrap (((m + 1 : Nat) : Int) - 1) = (m : Int) := by rw [IntKind.wrap_i64] <;> omega
      have wm2 : IntKind.i64.wrap ((m : Int) + 1 - 1) = (m : Int) := by rw [IntKind.wrap_i64] <;> omega
      have wm3 : IntKind.i64.wrap (m : Int) = (m : Int) := by rw [IntKind.wrap_i64] <;> omega
      have hmz : (m : Int) < (N : Int) := by omega
      have hm0 : (0 : Int) ≤ (m : Int) := by omega
      have hmt : ((m : Int)).toNat = m := by omega
      have hm1 : (0 : Int) ≤ (m : Int) + 1 := by omega
      have hmt1 : ((m : Int) + 1).toNat = m + 1 := by omega
      have hmz1 : (m : Int) + 1 < (N : Int) := by omega
      have hmin : min (m + 1) N = m + 1 := by omega
      have HMIN := Lib.hid hmin
      have HLT := Lib.hid hmN
      clear hc1 hc2 hap ho hx hy hbx hby hmN hmin
      cases o
      · go_upto_region 4 with fail
        refine wp_region_held_drew (S := fun Y => VS V Y) (by kernel_rfl) (VS.begin V) (fun hS => ?_)
        (refine held_take (i := 0) (oi := ?ot1) (v := ?vt1) ?at1 (by kernel_rfl) (by kernel_rfl) (by kernel_rfl) ?bt1 ?ct1 ?dt1 (by assumption) ?rt1; (case at1 => (simp only [List.getElem?_toArray, List.getElem?_cons_zero]; rfl)); (case bt1 => exact fun _ _ _ h => h); (case ct1 => kernel_rfl); (case dt1 => (intro W hW; (try dsimp only at hW); go_split_ands; go_simp; (try with_reducible rfl))); (case' rt1 => simp only [Act.put, List.setIfInBounds_toArray, List.set_cons_zero, List.set_cons_succ]))
        (refine held_take (i := 1) (oi := ?ot2) (v := ?vt2) ?at2 (by kernel_rfl) (by kernel_rfl) (by kernel_rfl) ?bt2 ?ct2 ?dt2 (by assumption) ?rt2; (case at2 => (simp only [List.getElem?_toArray, List.getElem?_cons_zero, List.getElem?_cons_succ]; rfl)); (case bt2 => exact fun _ _ _ h => h); (case ct2 => kernel_rfl); (case dt2 => (intro W hW; (try dsimp only at hW); go_split_ands; go_simp; (try with_reducible rfl))); (case' rt2 => simp only [Act.put, List.setIfInBounds_toArray, List.set_cons_zero, List.set_cons_succ]))
        (refine held_take (i := 2) (oi := ?ot3) (v := ?vt3) ?at3 (by kernel_rfl) (by kernel_rfl) (by kernel_rfl) ?bt3 ?ct3 ?dt3 (by assumption) ?rt3; (case at3 => (simp only [List.getElem?_toArray, List.getElem?_cons_zero, List.getElem?_cons_succ]; rfl)); (case bt3 => exact fun _ _ _ h => h); (case ct3 => kernel_rfl); (case dt3 => (intro W hW; (try dsimp only at hW); go_split_ands; go_simp; (try with_reducible rfl))); (case' rt3 => simp only [Act.put, List.setIfInBounds_toArray, List.set_cons_zero, List.set_cons_succ]))
        (refine held_take (i := 3) (oi := ?ot4) (v := ?vt4) ?at4 (by kernel_rfl) (by kernel_rfl) (by kernel_rfl) ?bt4 ?ct4 ?dt4 (by assumption) ?rt4; (case at4 => (simp only [List.getElem?_toArray, List.getElem?_cons_zero, List.getElem?_cons_succ]; rfl)); (case bt4 => exact fun _ _ _ h => h); (case ct4 => kernel_rfl); (case dt4 => (intro W hW; clear hW; go_simp; (try with_reducible rfl); (try (intro h; omega)))); (case' rt4 => simp only [Act.put, List.setIfInBounds_toArray, List.set_cons_zero, List.set_cons_succ]))
        (refine held_take (i := 4) (oi := ?ot5) (v := ?vt5) ?at5 (by kernel_rfl) (by kernel_rfl) (by kernel_rfl) ?bt5 ?ct5 ?dt5 (by assumption) ?rt5; (case at5 => (simp only [List.getElem?_toArray, List.getElem?_cons_zero, List.getElem?_cons_succ]; rfl)); (case bt5 => exact fun _ _ _ h => h); (case ct5 => kernel_rfl); (case dt5 => (intro W hW; (try dsimp only at hW); go_split_ands; go_simp; (try with_reducible rfl))); (case' rt5 => simp only [Act.put, List.setIfInBounds_toArray, List.set_cons_zero, List.set_cons_succ]))
        (refine held_take (i := 5) (oi := ?ot6) (v := .agg (vec 5 (mpE x.m))) ?at6 (by kernel_rfl) (by kernel_rfl) (by kernel_rfl) ?bt6 ?ct6 ?dt6 (by assumption) ?rt6; (case at6 => (simp only [List.getElem?_toArray, List.getElem?_cons_zero, List.getElem?_cons_succ]; rfl)); (case bt6 => exact fun _ _ _ h => h); (case ct6 => kernel_rfl); (case dt6 => (intro W hW; exact exec_load_q 39 _ rfl p1 (by first | rfl | (simp; done)) _ (run_load_q (HC1.out W (show Below V.heap.size V W from hW)) Try.underlying39 rfl infoMp))); (case' rt6 => simp only [Act.put, List.setIfInBounds_toArray, List.set_cons_zero, List.set_cons_succ]))
        (refine held_take (i := 7) (oi := ?ot7) (v := ?vt7) ?at7 (by kernel_rfl) (by kernel_rfl) (by kernel_rfl) ?bt7 ?ct7 ?dt7 (by assumption) ?rt7; (case at7 => (simp only [List.getElem?_toArray, List.getElem?_cons_zero, List.getElem?_cons_succ]; rfl)); (case bt7 => exact fun _ _ _ h => h); (case ct7 => kernel_rfl); (case dt7 => (intro W hW; (try dsimp only at hW); go_split_ands; go_simp; (try with_reducible rfl))); (case' rt7 => simp only [Act.put, List.setIfInBounds_toArray, List.set_cons_zero, List.set_cons_succ]))
        (refine held_take (i := 8) (oi := ?ot8) (v := ?vt8) ?at8 (by kernel_rfl) (by kernel_rfl) (by kernel_rfl) ?bt8 ?ct8 ?dt8 (by assumption) ?rt8; (case at8 => (simp only [List.getElem?_toArray, List.getElem?_cons_zero, List.getElem?_cons_succ]; rfl)); (case bt8 => exact fun _ _ _ h => h); (case ct8 => kernel_rfl); (case dt8 => (intro W hW; (try dsimp only at hW); go_split_ands; go_simp; (try with_reducible rfl))); (case' rt8 => simp only [Act.put, List.setIfInBounds_toArray, List.set_cons_zero, List.set_cons_succ]))
        (refine held_take (i := 9) (oi := ?ot9) (v := ?vt9) ?at9 (by kernel_rfl) (by kernel_rfl) (by kernel_rfl) ?bt9 ?ct9 ?dt9 (by assumption) ?rt9; (case at9 => (simp only [List.getElem?_toArray, List.getElem?_cons_zero, List.getElem?_cons_succ]; rfl)); (case bt9 => exact fun _ _ _ h => h); (case ct9 => kernel_rfl); (case dt9 => (intro W hW; clear hW; go_simp; (try with_reducible rfl); (try (intro h; omega)))); (case' rt9 => simp only [Act.put, List.setIfInBounds_toArray, List.set_cons_zero, List.set_cons_succ]))
        (refine held_take (i := 10) (oi := ?ot10) (v := ?vt10) ?at10 (by kernel_rfl) (by kernel_rfl) (by kernel_rfl) ?bt10 ?ct10 ?dt10 (by assumption) ?rt10; (case at10 => (simp only [List.getElem?_toArray, List.getElem?_cons_zero, List.getElem?_cons_succ]; rfl)); (case bt10 => exact fun _ _ _ h => h); (case ct10 => kernel_rfl); (case dt10 => (intro W hW; (try dsimp only at hW); go_split_ands; go_simp; (try with_reducible rfl))); (case' rt10 => simp only [Act.put, List.setIfInBounds_toArray, List.set_cons_zero, List.set_cons_succ]))
        (refine held_take (i := 11) (oi := ?ot11) (v := .agg (vec 5 (mpE y.m))) ?at11 (by kernel_rfl) (by kernel_rfl) (by kernel_rfl) ?bt11 ?ct11 ?dt11 (by assumption) ?rt11; (case at11 => (simp only [List.getElem?_toArray, List.getElem?_cons_zero, List.getElem?_cons_succ]; rfl)); (case bt11 => exact fun _ _ _ h => h); (case ct11 => kernel_rfl); (case dt11 => (intro W hW; exact exec_load_q 39 _ rfl p2 (by first | rfl | (simp; done)) _ (run_load_q (HC2.out W (show Below V.heap.size V W from hW)) Try.underlying39 rfl infoMp))); (case' rt11 => simp only [Act.put, List.setIfInBounds_toArray, List.set_cons_zero, List.set_cons_succ]))
        refine held_one (i := 6) (oi := ?ot12) (by kernel_rfl) ?at12 ?ct12 (fun K6 hK6 => ?_)
        (case at12 => (simp only [List.getElem?_toArray, List.getElem?_cons_zero, List.getElem?_cons_succ]; rfl))
        (case ct12 => kernel_rfl)
        go_simp
        refine (HS1.out _).mono ?_
        rintro e y6 ⟨rfl, hd⟩
        refine hK6 _ _ ((show VS V _ from hS).keep hd) (fun hS6 => ?_)
        clear hd hS hK6 K6
        refine held_one (i := 12) (oi := ?ot13) (by kernel_rfl) ?at13 ?ct13 (fun K12 hK12 => ?_)
        (case at13 => (simp only [List.getElem?_toArray, List.getElem?_cons_zero, List.getElem?_cons_succ]; rfl))
        (case ct13 => kernel_rfl)
        go_simp
        refine (HS2.out _).mono ?_
        rintro e y12 ⟨rfl, hd⟩
        refine hK12 _ _ ((show VS V _ from hS6).keep hd) (fun hS12 => ?_)
        clear hd hS6 hK12 K12
        refine held_one (i := 13) (oi := ?ot14) (by kernel_rfl) ?at14 ?ct14 (fun K13 hK13 => ?_)
        (case at14 => (simp only [List.getElem?_toArray, List.getElem?_cons_zero, List.getElem?_cons_succ]; rfl))
        (case ct14 => kernel_rfl)
        go_simp
        refine (HOV.out _).mono ?_
        rintro e y13 ⟨rfl, hd⟩
        refine hK13 _ _ ((show VS V _ from hS12).keep hd) (fun hS13 => ?_)
        clear hd hS12 hK13 K13
        refine wpAnyH_done (by kernel_rfl) ?_ _
        have HS := Lib.hid (show Below V.heap.size V _ from hS13)
        clear hS13
        go_wp2_with fail
        go_roundw
        case rel => exact ⟨m + 1 + 1, by go_num, by omega, by omega, Lib.hid (by rw [show min (m + 1 + 1) N = min (m + 1) N + 1 by omega]; refine range_snoc HQ.out ?_; rw [HMIN.out]; exact HAP.out), Lib.hid (HBW.out.trans (HS.out.mono HBW.out.size))⟩
        case measure => simp [intOf]; omega
      · go_upto_region 4 with fail
        refine wp_region_held_drew (S := fun Y => VS V Y) (by kernel_rfl) (VS.begin V) (fun hS => ?_)
        (refine held_take (i := 0) (oi := ?ot15) (v := ?vt15) ?at15 (by kernel_rfl) (by kernel_rfl) (by kernel_rfl) ?bt15 ?ct15 ?dt15 (by assumption) ?rt15; (case at15 => (simp only [List.getElem?_toArray, List.getElem?_cons_zero]; rfl)); (case bt15 => exact fun _ _ _ h => h); (case ct15 => kernel_rfl); (case dt15 => (intro W hW; (try dsimp only at hW); go_split_ands; go_simp; (try with_reducible rfl))); (case' rt15 => simp only [Act.put, List.setIfInBounds_toArray, List.set_cons_zero, List.set_cons_succ]))
        (refine held_take (i := 1) (oi := ?ot16) (v := ?vt16) ?at16 (by kernel_rfl) (by kernel_rfl) (by kernel_rfl) ?bt16 ?ct16 ?dt16 (by assumption) ?rt16; (case at16 => (simp only [List.getElem?_toArray, List.getElem?_cons_zero, List.getElem?_cons_succ]; rfl)); (case bt16 => exact fun _ _ _ h => h); (case ct16 => kernel_rfl); (case dt16 => (intro W hW; (try dsimp only at hW); go_split_ands; go_simp; (try with_reducible rfl))); (case' rt16 => simp only [Act.put, List.setIfInBounds_toArray, List.set_cons_zero, List.set_cons_succ]))
        (refine held_take (i := 2) (oi := ?ot17) (v := ?vt17) ?at17 (by kernel_rfl) (by kernel_rfl) (by kernel_rfl) ?bt17 ?ct17 ?dt17 (by assumption) ?rt17; (case at17 => (simp only [List.getElem?_toArray, List.getElem?_cons_zero, List.getElem?_cons_succ]; rfl)); (case bt17 => exact fun _ _ _ h => h); (case ct17 => kernel_rfl); (case dt17 => (intro W hW; (try dsimp only at hW); go_split_ands; go_simp; (try with_reducible rfl))); (case' rt17 => simp only [Act.put, List.setIfInBounds_toArray, List.set_cons_zero, List.set_cons_succ]))
        (refine held_take (i := 3) (oi := ?ot18) (v := ?vt18) ?at18 (by kernel_rfl) (by kernel_rfl) (by kernel_rfl) ?bt18 ?ct18 ?dt18 (by assumption) ?rt18; (case at18 => (simp only [List.getElem?_toArray, List.getElem?_cons_zero, List.getElem?_cons_succ]; rfl)); (case bt18 => exact fun _ _ _ h => h); (case ct18 => kernel_rfl); (case dt18 => (intro W hW; clear hW; go_simp; (try with_reducible rfl); (try (intro h; omega)))); (case' rt18 => simp only [Act.put, List.setIfInBounds_toArray, List.set_cons_zero, List.set_cons_succ]))
        (refine held_take (i := 4) (oi := ?ot19) (v := ?vt19) ?at19 (by kernel_rfl) (by kernel_rfl) (by kernel_rfl) ?bt19 ?ct19 ?dt19 (by assumption) ?rt19; (case at19 => (simp only [List.getElem?_toArray, List.getElem?_cons_zero, List.getElem?_cons_succ]; rfl)); (case bt19 => exact fun _ _ _ h => h); (case ct19 => kernel_rfl); (case dt19 => (intro W hW; (try dsimp only at hW); go_split_ands; go_simp; (try with_reducible rfl))); (case' rt19 => simp only [Act.put, List.setIfInBounds_toArray, List.set_cons_zero, List.set_cons_succ]))
        (refine held_take (i := 5) (oi := ?ot20) (v := .agg (vec 5 (mpE x.m))) ?at20 (by kernel_rfl) (by kernel_rfl) (by kernel_rfl) ?bt20 ?ct20 ?dt20 (by assumption) ?rt20; (case at20 => (simp only [List.getElem?_toArray, List.getElem?_cons_zero, List.getElem?_cons_succ]; rfl)); (case bt20 => exact fun _ _ _ h => h); (case ct20 => kernel_rfl); (case dt20 => (intro W hW; exact exec_load_q 39 _ rfl p1 (by first | rfl | (simp; done)) _ (run_load_q (HC1.out W (show Below V.heap.size V W from hW)) Try.underlying39 rfl infoMp))); (case' rt20 => simp only [Act.put, List.setIfInBounds_toArray, List.set_cons_zero, List.set_cons_succ]))
        (refine held_take (i := 7) (oi := ?ot21) (v := ?vt21) ?at21 (by kernel_rfl) (by kernel_rfl) (by kernel_rfl) ?bt21 ?ct21 ?dt21 (by assumption) ?rt21; (case at21 => (simp only [List.getElem?_toArray, List.getElem?_cons_zero, List.getElem?_cons_succ]; rfl)); (case bt21 => exact fun _ _ _ h => h); (case ct21 => kernel_rfl); (case dt21 => (intro W hW; (try dsimp only at hW); go_split_ands; go_simp; (try with_reducible rfl))); (case' rt21 => simp only [Act.put, List.setIfInBounds_toArray, List.set_cons_zero, List.set_cons_succ]))
        (refine held_take (i := 8) (oi := ?ot22) (v := ?vt22) ?at22 (by kernel_rfl) (by kernel_rfl) (by kernel_rfl) ?bt22 ?ct22 ?dt22 (by assumption) ?rt22; (case at22 => (simp only [List.getElem?_toArray, List.getElem?_cons_zero, List.getElem?_cons_succ]; rfl)); (case bt22 => exact fun _ _ _ h => h); (case ct22 => kernel_rfl); (case dt22 => (intro W hW; (try dsimp only at hW); go_split_ands; go_simp; (try with_reducible rfl))); (case' rt22 => simp only [Act.put, List.setIfInBounds_toArray, List.set_cons_zero, List.set_cons_succ]))
        (refine held_take (i := 9) (oi := ?ot23) (v := ?vt23) ?at23 (by kernel_rfl) (by kernel_rfl) (by kernel_rfl) ?bt23 ?ct23 ?dt23 (by assumption) ?rt23; (case at23 => (simp only [List.getElem?_toArray, List.getElem?_cons_zero, List.getElem?_cons_succ]; rfl)); (case bt23 => exact fun _ _ _ h => h); (case ct23 => kernel_rfl); (case dt23 => (intro W hW; clear hW; go_simp; (try with_reducible rfl); (try (intro h; omega)))); (case' rt23 => simp only [Act.put, List.setIfInBounds_toArray, List.set_cons_zero, List.set_cons_succ]))
        (refine held_take (i := 10) (oi := ?ot24) (v := ?vt24) ?at24 (by kernel_rfl) (by kernel_rfl) (by kernel_rfl) ?bt24 ?ct24 ?dt24 (by assumption) ?rt24; (case at24 => (simp only [List.getElem?_toArray, List.getElem?_cons_zero, List.getElem?_cons_succ]; rfl)); (case bt24 => exact fun _ _ _ h => h); (case ct24 => kernel_rfl); (case dt24 => (intro W hW; (try dsimp only at hW); go_split_ands; go_simp; (try with_reducible rfl))); (case' rt24 => simp only [Act.put, List.setIfInBounds_toArray, List.set_cons_zero, List.set_cons_succ]))
        (refine held_take (i := 11) (oi := ?ot25) (v := .agg (vec 5 (mpE y.m))) ?at25 (by kernel_rfl) (by kernel_rfl) (by kernel_rfl) ?bt25 ?ct25 ?dt25 (by assumption) ?rt25; (case at25 => (simp only [List.getElem?_toArray, List.getElem?_cons_zero, List.getElem?_cons_succ]; rfl)); (case bt25 => exact fun _ _ _ h => h); (case ct25 => kernel_rfl); (case dt25 => (intro W hW; exact exec_load_q 39 _ rfl p2 (by first | rfl | (simp; done)) _ (run_load_q (HC2.out W (show Below V.heap.size V W from hW)) Try.underlying39 rfl infoMp))); (case' rt25 => simp only [Act.put, List.setIfInBounds_toArray, List.set_cons_zero, List.set_cons_succ]))
        refine held_one (i := 6) (oi := ?ot26) (by kernel_rfl) ?at26 ?ct26 (fun K6 hK6 => ?_)
        (case at26 => (simp only [List.getElem?_toArray, List.getElem?_cons_zero, List.getElem?_cons_succ]; rfl))
        (case ct26 => kernel_rfl)
        go_simp
        refine (HS1.out _).mono ?_
        rintro e y6 ⟨rfl, hd⟩
        refine hK6 _ _ ((show VS V _ from hS).keep hd) (fun hS6 => ?_)
        clear hd hS hK6 K6
        refine held_one (i := 12) (oi := ?ot27) (by kernel_rfl) ?at27 ?ct27 (fun K12 hK12 => ?_)
        (case at27 => (simp only [List.getElem?_toArray, List.getElem?_cons_zero, List.getElem?_cons_succ]; rfl))
        (case ct27 => kernel_rfl)
        go_simp
        refine (HS2.out _).mono ?_
        rintro e y12 ⟨rfl, hd⟩
        refine hK12 _ _ ((show VS V _ from hS6).keep hd) (fun hS12 => ?_)
        clear hd hS6 hK12 K12
        refine held_one (i := 13) (oi := ?ot28) (by kernel_rfl) ?at28 ?ct28 (fun K13 hK13 => ?_)
        (case at28 => (simp only [List.getElem?_toArray, List.getElem?_cons_zero, List.getElem?_cons_succ]; rfl))
        (case ct28 => kernel_rfl)
        go_simp
        refine (HOV.out _).mono ?_
        rintro e y13 ⟨rfl, hd⟩
        refine hK13 _ _ ((show VS V _ from hS12).keep hd) (fun hS13 => ?_)
        clear hd hS12 hK13 K13
        refine wpAnyH_done (by kernel_rfl) ?_ _
        have HS := Lib.hid (show Below V.heap.size V _ from hS13)
        clear hS13
        have HF := Lib.hid (show q = false by rw [← HA.out]; exact range_off (k := m + 1) hlt HAP.out)
        go_wp2_with fail
        (try simp only [Exit.inBlock, Exit.then])
        go_ret
        exact ⟨by rw [HF.out]; rfl, HBW.out.trans (HS.out.mono HBW.out.size)⟩
    · have hlz : ¬ (k : Int) < (N : Int) := by omega
      have HF := Lib.hid (show q = true by rw [← HA.out]; have h := HQ.out; rwa [show min k N = N by omega] at h)
      go_wp2_with fail
      go_ret
      exact ⟨by rw [HF.out]; rfl, HBW.out⟩
theorem bare_next (l : List Rk) {k : Nat} (h : k < l.length) : (l.take (k + 1)).map Rk.m = (l.take k).map Rk.m ++ [l[k].m] := by
  rw [List.take_succ_eq_append_getElem h, List.map_append]; rfl
set_option maxHeartbeats 4000000 in
set_option maxRecDepth 100000 in
theorem bare_any (l : List Rk) (A : Option Addr) (c : Nat) (w : World) (hr : RowE 6 rkE w w.heap.size A l) (hl : l.length ≤ 1000000) : Calls Try.prog 25 #[.slice A l.length c] w fun e w' => ∃ v, e = .returned v ∧ OwnM w' w.heap.size v (l.map Rk.m) ∧ Below w.heap.size w w' := by
  obtain ⟨N, hN⟩ : ∃ n, n = l.length := ⟨_, rfl⟩
  have HN := Lib.hid hN
  have HR := Lib.hid hr
  have hNl : N ≤ 1000000 := by omega
  rw [← hN]
  clear hN hr hl
  go_enter Try.func25, Try.ntmps25
  go_wp2
  go_loopw [3, 8] (fun s v W => ∃ (k e : Nat) (B : Option Addr), k ≤ N ∧ v = .int .i64 k ∧ s = .slice B k e ∧ Hid (OwnM W w.heap.size (.slice B k e) ((l.take k).map Rk.m)) ∧ Hid (Below w.heap.size w W)) (fun _ v _ => N - (intOf v).toNat)
  case atStart => exact ⟨0, 0, none, Nat.zero_le _, rfl, rfl, Lib.hid (OwnE.nil _ _), Lib.hid (Below.refl _ _)⟩
  case round =>
    obtain ⟨k, e, B, hk, rfl, rfl, HO, HB⟩ := hrel
    obtain ⟨V, hV⟩ : ∃ V : World, V = wr := ⟨_, rfl⟩
    subst hV
    by_cases hlt0 : k < N
    · have hlt : k < l.length := by rw [← HN.out]; exact hlt0
      obtain ⟨b0, p, ea, hp, -, hcp⟩ := (HR.out.up HB.out).at hlt
      obtain ⟨y, hy⟩ : ∃ y, y = l[k] := ⟨_, rfl⟩
      rw [← hy] at hcp
      have hki : (k : Int) < (N : Int) := by omega
      obtain ⟨r, hr⟩ : ∃ r, r = V.heap.size := ⟨_, rfl⟩
      obtain ⟨X, hX⟩ : ∃ X, X = (V.alloc (.cells (vec 6 (rkE zRk)) 82)).setRow V.heap.size (vec 6 (rkE y)) := ⟨_, rfl⟩
      have b1 : Below V.heap.size V X := by rw [hX]; exact below_row ((Below.refl _ _).alloc (Nat.le_refl _) _) (Nat.le_refl _) _
      have a1 : Arr X r 82 6 (rkE y) := by rw [hX, hr]; exact (Arr.new V _ _ _).row _
      have hm5 : ∀ i, i < 5 → X.cell? ((⟨r, 0, none⟩ : Addr).add i) = some (mpE y.m i) := fun i hi => by
        rw [add_atM, Nat.zero_add, a1.cell (by omega)]
        rcases (by omega : i = 0 ∨ i = 1 ∨ i = 2 ∨ i = 3 ∨ i = 4) with rfl | rfl | rfl | rfl | rfl <;> rfl
      have HBX := Lib.hid (HB.out.trans (b1.mono HB.out.size))
      have HOX := Lib.hid (OwnE.on HO.out b1 (Nat.le_refl _))
      have hlen : ((l.take k).map Rk.m).length = k := by rw [List.length_map, List.length_take]; omega
      obtain ⟨B4, e4, w4, hrun, ho4, hb4⟩ := app_E (P := Try.prog) Try.underlying29 info_map (vec_size _ _) (by decide) (fun x => mpE_one x 5) y.m HOX.out HBX.out.size (by rw [hlen]; omega) (by decide) 29
      have hsn := bare_next l hlt
      rw [← hy] at hsn
      rw [hlen, ← hsn] at ho4
      rw [hlen] at hrun
      have hbs := build_map y.m X
      have HO4 := Lib.hid ho4
      have HB4 := Lib.hid (HBX.out.trans hb4)
      have HCP := Lib.hid hcp
      have HX := Lib.hid hX
      have HRR := Lib.hid hr
      have HM5 := Lib.hid hm5
      subst ea
      clear hcp hlt hr hX b1 a1 hy ho4 hb4 hm5 hlen hsn
      go_upto_region 5 with (first
        | ((with_reducible show wpList _ _ _ (Oper.mk _ (.load _ _) _ _ _ _ :: _) _ _); refine wl_load_q rfl 82 _ rfl p rfl _ (run_load_q HCP.out Try.underlying82 rfl infoRk) ?_)
        | ((with_reducible show wpList _ _ _ (Oper.mk _ (.store _ _ _) _ _ _ _ :: _) _ _); refine wl_store rfl 82 _ _ rfl _ rfl _ rfl (run_store_arr (Arr.new V _ _ _) (rkE y) infoRk (rkE_one _ _)) ?_))
      rw [← HX.out, ← HRR.out]
      clear HX HCP HRR
      go_wp2_with (first
        | ((with_reducible show wpList _ _ _ (Oper.mk _ (.load 39 _) _ _ _ _ :: _) _ _); refine wl_load_q rfl 39 _ rfl ⟨r, 0, none⟩ rfl _ (run_load_q HM5.out Try.underlying39 rfl infoMp) ?_)
        | ((with_reducible show wpList _ _ _ (Oper.mk _ (.buildSlice _ _ _) _ _ _ _ :: _) _ _); refine wl_bs1 rfl _ rfl (.agg (vec 5 (mpE y.m))) rfl hbs ?_))
      go_roundw
      case rel => exact ⟨k + 1, e4, B4, by omega, by go_num, rfl, HO4, HB4⟩
      case measure => simp [intOf]; omega
    · obtain rfl : k = N := by omega
      go_wp2_with fail
      go_ret
      exact ⟨_, rfl, by have h := HO.out; rw [HN.out, List.take_length] at h; rw [HN.out]; exact h, HB.out⟩
end Go.Proofs.Ytgnihceefpijiaa
