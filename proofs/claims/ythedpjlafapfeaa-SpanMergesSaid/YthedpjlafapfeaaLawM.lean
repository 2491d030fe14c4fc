/- The walks of SpanMerges, SpanCuts, SpanSets. -/
import Derived.Test.YthedpjlafapfeaaRest
import Derived.Test.YthedpjlafapfeaaPdq
import Derived.Test.YthedpjlafapfeaaFirstB
namespace Go.Proofs.Ythedpjlafapfeaa
open Go.RowKit

theorem allB_40 (l : List Sp) (h : l.length ≤ 1000) : (allB l).length ≤ 999999 := by
  have := ends_len l
  unfold allB
  omega
theorem mergeS_len (l : List Sp) : (mergeS l).length ≤ 2 * l.length := by
  have h1 := flat_len outE outE_len (mergeE l)
  have h2 := mergeE_len l
  unfold mergeS
  omega
theorem mergeS_fit (l : List Sp) : ∀ x ∈ mergeS l, fit x := by
  intro x hx
  obtain ⟨e, he, hx2⟩ := List.mem_flatMap.1 hx
  have hf := mergeE_fit l e he
  unfold outE at hx2
  unfold fit
  split at hx2
  · simp [half] at hx2
    rcases hx2 with rfl | rfl <;> simp
  · rename_i hne
    simp at hx2
    subst hx2
    simp only
    omega

/-- What the laws call, from any later world. -/
theorem mergeW (A : Option Addr) (cap : Nat) (l : List Sp) (w : World) (hlen : l.length ≤ 40) (hf : ∀ x ∈ l, fit x) (hR : Row w w.heap.size A l) (Y : World) (hb : Below w.heap.size w Y) :
    Calls Try.prog 25 #[.slice A l.length cap] Y fun e w' => ∃ A1 c1, e = .returned (.slice A1 (mergeS l).length c1) ∧ Row w' w'.heap.size A1 (mergeS l) ∧ Below Y.heap.size Y w' :=
  (merge_any 999999 sorts_all A cap l hf (by omega) (allB_40 l (by omega)) Y ((hR.below hb).wide hb.size)).mono fun e w' ⟨v, he, ho, hd⟩ => by
    obtain ⟨A1, c1, rfl, hr⟩ := ho.row
    exact ⟨A1, c1, he, hr, hd⟩
theorem rmergeW (A : Option Addr) (cap : Nat) (l : List Sp) (w : World) (hlen : l.length ≤ 40) (hf : ∀ x ∈ l, fit x) (hR : Row w w.heap.size A l) (Y : World) (hb : Below w.heap.size w Y) :
    Calls Try.prog 26 #[.slice A l.length cap] Y fun e w' => ∃ A1 c1, e = .returned (.slice A1 (mergeS l).length c1) ∧ Row w' w'.heap.size A1 (mergeS l) ∧ Below Y.heap.size Y w' :=
  (rmerge_any A cap l (by omega) hf Y ((hR.below hb).wide hb.size)).mono fun e w' ⟨v, he, ho, hd⟩ => by
    obtain ⟨A1, c1, rfl, hr⟩ := ho.row
    exact ⟨A1, c1, he, hr, hd⟩
theorem cutW (a b : Nat) (hx : fit (a, b)) (A : Option Addr) (cap : Nat) (l : List Sp) (w : World) (hlen : l.length ≤ 40) (hf : ∀ x ∈ l, fit x) (hR : Row w w.heap.size A l) (Y : World) (hb : Below w.heap.size w Y) :
    Calls Try.prog 27 #[.agg #[.int .u64 (a : Int), .int .u64 (b : Int)], .slice A l.length cap] Y fun e w' => ∃ A1 c1, e = .returned (.slice A1 (cutS (a, b) l).length c1) ∧ Row w' w'.heap.size A1 (cutS (a, b) l) ∧ Below Y.heap.size Y w' :=
  (cut_any 999999 sorts_all a b hx A cap l hf (by omega) (allB_40 _ (by simp; omega)) Y ((hR.below hb).wide hb.size)).mono fun e w' ⟨v, he, ho, hd⟩ => by
    obtain ⟨A1, c1, rfl, hr⟩ := ho.row
    exact ⟨A1, c1, he, hr, hd⟩
theorem inn_merge_eq (l : List Sp) (p : Nat) : inn (mergeS l) p = inn l p := inn_mergeS l p

set_option maxHeartbeats 2000000 in
theorem lawmerges_any (A : Option Addr) (cap : Nat) (l : List Sp) (w : World) (_ : l.length ≤ cap ∧ cap ≤ maxLen) (hf : ∀ x ∈ l, fit x) (hR : Row w w.heap.size A l) :
    Calls Try.prog 5 #[.slice A l.length cap] w fun e w' => e = .returned (.bool true) ∧ Below w.heap.size w w' := by
  by_cases hlen : l.length ≤ 40
  · have HM := Lib.hid (mergeW A cap l w hlen hf hR)
    have HN := Lib.hid (rmergeW A cap l w hlen hf hR)
    have hml := mergeS_len l
    obtain ⟨m, hm⟩ : ∃ m, m = mergeS l := ⟨_, rfl⟩
    rw [← hm] at HM HN hml
    have HML := Lib.hid (show m.length ≤ 1000000 by omega)
    have hlen' : ¬ (40 < (l.length : Int)) := by omega
    clear hf hR hlen hm hml
    go_enter Try.func5, Try.ntmps5
    go_wp2_with (first
      | (go_at_call 9; refine (awake_any _).mono ?_; rintro e w1 ⟨rfl, hd⟩; have H1 := Lib.hid hd; clear hd)
      | (go_at_call 25; refine (HM.out w1 H1.out).mono ?_; rintro e w2 ⟨A1, c1, rfl, hr, hd⟩; have H2 := Lib.hid (H1.out.trans (hd.mono H1.out.size)); have R1 := Lib.hid hr; clear hd hr)
      | (go_at_call 26; refine (HN.out w2 H2.out).mono ?_; rintro e w3 ⟨A2, c2, rfl, hr, hd⟩; have H3 := Lib.hid (H2.out.trans (hd.mono H2.out.size)); have R2 := Lib.hid hr; have R3 := Lib.hid ((R1.out.below hd).wide hd.size); clear hd hr)
      | (go_at_call 24; refine (same_any A1 A2 c1 c2 m m HML.out w3 R3.out R2.out).mono ?_; rintro e w4 ⟨rfl, hd⟩; have H4 := Lib.hid (H3.out.trans (hd.mono H3.out.size)); clear hd))
    go_ret
    exact ⟨by simp, H4.out⟩
  · have hlen' : 40 < (l.length : Int) := by omega
    clear hf hR hlen
    go_enter Try.func5, Try.ntmps5
    go_wp2_with (go_at_call 9; refine (awake_any _).mono ?_; rintro e w1 ⟨rfl, hd⟩; have H1 := Lib.hid hd; clear hd)
    go_ret
    exact ⟨rfl, H1.out⟩

theorem awake_box (a b : Nat) (w : World) : Calls Try.prog 9 #[] (w.alloc (spo a b)) fun e w' => e = .returned (.bool true) ∧ (Below w.heap.size w w' ∧ w'.cell? ⟨w.heap.size, 0, none⟩ = some (.int .u64 (a : Int)) ∧ w'.cell? ⟨w.heap.size, 1, none⟩ = some (.int .u64 (b : Int))) :=
  (awake_any _).mono fun e w' ⟨he, hd⟩ => ⟨he, ((Below.refl _ w).alloc (Nat.le_refl _) _).trans (hd.mono (by simp)), (hd.cell (p := ⟨w.heap.size, 0, none⟩) (by simp)).trans (by simp), (hd.cell (p := ⟨w.heap.size, 1, none⟩) (by simp)).trans (by simp)⟩
set_option maxHeartbeats 4000000 in
set_option maxRecDepth 100000 in
theorem lawcuts_any (a b : Nat) (A : Option Addr) (cap : Nat) (l : List Sp) (w : World) (hx : fit (a, b)) (_ : l.length ≤ cap ∧ cap ≤ maxLen) (hf : ∀ x ∈ l, fit x) (hR : Row w w.heap.size A l) :
    Calls Try.prog 6 #[.agg #[.int .u64 (a : Int), .int .u64 (b : Int)], .slice A l.length cap] w fun e w' => e = .returned (.bool true) ∧ Below w.heap.size w w' := by
  by_cases hlen : l.length ≤ 40
  · have HC := Lib.hid (cutW a b hx A cap l w hlen hf hR)
    have HN := Lib.hid (rmergeW A cap l w hlen hf hR)
    have hrc := fun (Y : World) (A2 : Option Addr) (c2 : Nat) (h : Row Y Y.heap.size A2 (mergeS l)) => rcut_any a b hx A2 c2 (mergeS l) (by have := mergeS_len l; omega) (mergeS_fit l) Y h
    rw [cutS_same (a, b) (mergeS l) l (inn_mergeS l)] at hrc
    have HRC := Lib.hid hrc
    have HV1 := Lib.hid (fun (Y : World) (hb : Below w.heap.size w Y) => covers_any a b A cap (cutS (a, b) l).length l.length (good (a, b)) Y (good_bel a b hx) (fun Z hZ => (cutW a b hx A cap l w hlen hf hR Z (hb.trans (hZ.mono hb.size))).mono fun e w' ⟨A1, c1, h1, _, h3⟩ => ⟨⟨A1, c1, h1⟩, h3⟩))
    have HV2 := Lib.hid (fun (Y : World) (hb : Below w.heap.size w Y) => rcovers_any a b A cap (cutS (a, b) l).length l.length (good (a, b)) Y (rgood_bel a b hx) (fun Z hZ => (rcut_any a b hx A cap l (by omega) hf Z ((hR.below (hb.trans (hZ.mono hb.size))).wide (hb.trans (hZ.mono hb.size)).size)).mono fun e w' ⟨A1, c1, h1, _, h3⟩ => ⟨⟨A1, c1, h1⟩, h3⟩))
    obtain ⟨m, hm⟩ : ∃ m, m = cutS (a, b) l := ⟨_, rfl⟩
    obtain ⟨q, hq⟩ : ∃ q, q = (good (a, b) && decide ((cutS (a, b) l).length = 0)) := ⟨_, rfl⟩
    obtain ⟨n, hn⟩ : ∃ n, n = mergeS l := ⟨_, rfl⟩
    have hml : m.length ≤ 1000000 := by
      rw [hm]
      have h1 : ∀ (k : Nat) (hg : good (a, b) = true) (_ : k ≤ l.length), ∃ out, Cuts (a, b) l k out := fun k hg => by
        induction k with
        | zero => intro _; exact ⟨_, Cuts.start l hg hx⟩
        | succ k ih =>
          intro hk
          obtain ⟨out, ho⟩ := ih (by omega)
          by_cases hgk : good l[k] = true
          · exact ⟨_, ho.cut (by omega) rfl hgk (hf _ (List.getElem_mem (by omega)))⟩
          · exact ⟨_, ho.same (by omega) rfl (by simpa using hgk)⟩
      unfold cutS
      split
      · rename_i hg
        obtain ⟨out, ho⟩ := h1 l.length hg (Nat.le_refl _)
        have h2 := ho.eq
        rw [List.take_length] at h2
        rw [h2]
        have := ho.len
        omega
      · simp
    rw [← hq] at HV1 HV2
    rw [← hm] at HC HRC
    rw [← hn] at HN HRC
    have HSM := Lib.hid (show ∀ (A1 A3 : Option Addr) (c1 c3 : Nat) (Y : World), Row Y Y.heap.size A1 m → Row Y Y.heap.size A3 m → Calls Try.prog 24 #[.slice A1 m.length c1, .slice A3 m.length c3] Y fun e w' => e = .returned (.bool true) ∧ Below Y.heap.size Y w' from
      fun A1 A3 c1 c3 Y h1 h2 => by have := same_any A1 A3 c1 c3 m m hml Y h1 h2; rwa [decide_eq_true (show m = m from rfl)] at this)
    have hlen' : ¬ (40 < (l.length : Int)) := by omega
    clear hf hR hlen hm hml hrc hq hn hx
    go_enter Try.func6, Try.ntmps6
    go_upto_region 5 with (go_at_call 9; refine (awake_box a b w).mono ?_; rintro e w1 ⟨rfl, hd, c0, c1⟩; have H1 := Lib.hid hd; clear hd)
    refine wp_region_held_drew (S := fun Y => Below w.heap.size w Y ∧ Y.cell? ⟨w.heap.size, 0, none⟩ = some (.int .u64 (a : Int)) ∧ Y.cell? ⟨w.heap.size, 1, none⟩ = some (.int .u64 (b : Int))) (by kernel_rfl) (by exact ⟨H1.out.drew, c0, c1⟩) (fun hS => ?_)
    (refine held_take (i := 0) (oi := ?ot1) (v := ?vt1) ?at1 (by kernel_rfl) (by kernel_rfl) (by kernel_rfl) ?bt1 ?ct1 ?dt1 (by assumption) ?rt1; (case at1 => (simp only [List.getElem?_toArray, List.getElem?_cons_zero]; rfl)); (case bt1 => exact fun _ _ _ h => h); (case ct1 => kernel_rfl); (case dt1 => (intro W hW; (try dsimp only at hW); go_split_ands; go_simp; (try with_reducible rfl))); (case' rt1 => simp only [Act.put, List.setIfInBounds_toArray, List.set_cons_zero, List.set_cons_succ]))
    (refine held_take (i := 1) (oi := ?ot2) (v := ?vt2) ?at2 (by kernel_rfl) (by kernel_rfl) (by kernel_rfl) ?bt2 ?ct2 ?dt2 (by assumption) ?rt2; (case at2 => (simp only [List.getElem?_toArray, List.getElem?_cons_zero, List.getElem?_cons_succ]; rfl)); (case bt2 => exact fun _ _ _ h => h); (case ct2 => kernel_rfl); (case dt2 => (intro W hW; (try dsimp only at hW); go_split_ands; go_simp; (try with_reducible rfl))); (case' rt2 => simp only [Act.put, List.setIfInBounds_toArray, List.set_cons_zero, List.set_cons_succ]))
    (refine held_take (i := 3) (oi := ?ot3) (v := ?vt3) ?at3 (by kernel_rfl) (by kernel_rfl) (by kernel_rfl) ?bt3 ?ct3 ?dt3 (by assumption) ?rt3; (case at3 => (simp only [List.getElem?_toArray, List.getElem?_cons_zero, List.getElem?_cons_succ]; rfl)); (case bt3 => exact fun _ _ _ h => h); (case ct3 => kernel_rfl); (case dt3 => (intro W hW; (try dsimp only at hW); go_split_ands; go_simp; (try with_reducible rfl))); (case' rt3 => simp only [Act.put, List.setIfInBounds_toArray, List.set_cons_zero, List.set_cons_succ]))
    (refine held_take (i := 4) (oi := ?ot4) (v := ?vt4) ?at4 (by kernel_rfl) (by kernel_rfl) (by kernel_rfl) ?bt4 ?ct4 ?dt4 (by assumption) ?rt4; (case at4 => (simp only [List.getElem?_toArray, List.getElem?_cons_zero, List.getElem?_cons_succ]; rfl)); (case bt4 => exact fun _ _ _ h => h); (case ct4 => kernel_rfl); (case dt4 => (intro W hW; (try dsimp only at hW); go_split_ands; go_simp; (try with_reducible rfl))); (case' rt4 => simp only [Act.put, List.setIfInBounds_toArray, List.set_cons_zero, List.set_cons_succ]))
    refine held_one (i := 2) (oi := ?ot5) (by kernel_rfl) ?at5 ?ct5 (fun K2 hK2 => ?_)
    (case at5 => (simp only [List.getElem?_toArray, List.getElem?_cons_zero, List.getElem?_cons_succ]; rfl))
    (case ct5 => kernel_rfl)
    go_simp
    refine (HC.out _ hS.1).mono ?_
    rintro e y1 ⟨A1, c1', rfl, hr, hd⟩
    have R1 := Lib.hid hr
    have D1 := Lib.hid hd
    clear hr
    refine hK2 _ _ (keep2 hd hS) (fun hS2 => ?_)
    clear hS hd hK2 K2
    refine held_one (i := 5) (oi := ?ot6) (by kernel_rfl) ?at6 ?ct6 (fun K5 hK5 => ?_)
    (case at6 => (simp only [List.getElem?_toArray, List.getElem?_cons_zero, List.getElem?_cons_succ]; rfl))
    (case ct6 => kernel_rfl)
    go_simp
    refine (HN.out _ hS2.1).mono ?_
    rintro e y2 ⟨A2, c2', rfl, hr, hd⟩
    have R2 := Lib.hid hr
    have D2 := Lib.hid hd
    clear hr
    refine hK5 _ _ (keep2 hd hS2) (fun hS5 => ?_)
    clear hS2 hd hK5 K5
    refine held_one (i := 6) (oi := ?ot7) (by kernel_rfl) ?at7 ?ct7 (fun K6 hK6 => ?_)
    (case at7 => (simp only [List.getElem?_toArray, List.getElem?_cons_zero, List.getElem?_cons_succ]; rfl))
    (case ct7 => kernel_rfl)
    go_simp
    refine (HRC.out y2 A2 c2' R2.out).mono ?_
    rintro e y3 ⟨A3, c3', rfl, hr, hd⟩
    have R3 := Lib.hid hr
    have D3 := Lib.hid hd
    have R13 := Lib.hid ((((R1.out.below D2.out).wide D2.out.size).below hd).wide hd.size)
    clear hr
    refine hK6 _ _ (keep2 hd hS5) (fun hS6 => ?_)
    clear hS5 hd hK6 K6
    refine held_one (i := 7) (oi := ?ot8) (by kernel_rfl) ?at8 ?ct8 (fun K7 hK7 => ?_)
    (case at8 => (simp only [List.getElem?_toArray, List.getElem?_cons_zero, List.getElem?_cons_succ]; rfl))
    (case ct8 => kernel_rfl)
    go_simp
    refine (HSM.out A1 A3 c1' c3' y3 R13.out R3.out).mono ?_
    rintro e y4 ⟨rfl, hd⟩
    refine hK7 _ _ (keep2 hd hS6) (fun hS7 => ?_)
    clear hS6 hd hK7 K7
    (refine held_take (i := 8) (oi := ?ot9) (v := ?vt9) ?at9 (by kernel_rfl) (by kernel_rfl) (by kernel_rfl) ?bt9 ?ct9 ?dt9 (by assumption) ?rt9; (case at9 => (simp only [List.getElem?_toArray, List.getElem?_cons_zero, List.getElem?_cons_succ]; rfl)); (case bt9 => exact fun _ _ _ h => h); (case ct9 => kernel_rfl); (case dt9 => (intro W hW; (try dsimp only at hW); go_split_ands; go_simp; (try with_reducible rfl))); (case' rt9 => simp only [Act.put, List.setIfInBounds_toArray, List.set_cons_zero, List.set_cons_succ]))
    (refine held_take (i := 9) (oi := ?ot10) (v := ?vt10) ?at10 (by kernel_rfl) (by kernel_rfl) (by kernel_rfl) ?bt10 ?ct10 ?dt10 (by assumption) ?rt10; (case at10 => (simp only [List.getElem?_toArray, List.getElem?_cons_zero, List.getElem?_cons_succ]; rfl)); (case bt10 => exact fun _ _ _ h => h); (case ct10 => kernel_rfl); (case dt10 => (intro W hW; (try dsimp only at hW); go_split_ands; go_simp; (try with_reducible rfl))); (case' rt10 => simp only [Act.put, List.setIfInBounds_toArray, List.set_cons_zero, List.set_cons_succ]))
    (refine held_take (i := 10) (oi := ?ot11) (v := ?vt11) ?at11 (by kernel_rfl) (by kernel_rfl) (by kernel_rfl) ?bt11 ?ct11 ?dt11 (by assumption) ?rt11; (case at11 => (simp only [List.getElem?_toArray, List.getElem?_cons_zero, List.getElem?_cons_succ]; rfl)); (case bt11 => exact fun _ _ _ h => h); (case ct11 => kernel_rfl); (case dt11 => (intro W hW; (try dsimp only at hW); go_split_ands; go_simp; (try with_reducible rfl))); (case' rt11 => simp only [Act.put, List.setIfInBounds_toArray, List.set_cons_zero, List.set_cons_succ]))
    (refine held_take (i := 12) (oi := ?ot12) (v := ?vt12) ?at12 (by kernel_rfl) (by kernel_rfl) (by kernel_rfl) ?bt12 ?ct12 ?dt12 (by assumption) ?rt12; (case at12 => (simp only [List.getElem?_toArray, List.getElem?_cons_zero, List.getElem?_cons_succ]; rfl)); (case bt12 => exact fun _ _ _ h => h); (case ct12 => kernel_rfl); (case dt12 => (intro W hW; (try dsimp only at hW); go_split_ands; go_simp; (try with_reducible rfl))); (case' rt12 => simp only [Act.put, List.setIfInBounds_toArray, List.set_cons_zero, List.set_cons_succ]))
    (refine held_take (i := 13) (oi := ?ot13) (v := ?vt13) ?at13 (by kernel_rfl) (by kernel_rfl) (by kernel_rfl) ?bt13 ?ct13 ?dt13 (by assumption) ?rt13; (case at13 => (simp only [List.getElem?_toArray, List.getElem?_cons_zero, List.getElem?_cons_succ]; rfl)); (case bt13 => exact fun _ _ _ h => h); (case ct13 => kernel_rfl); (case dt13 => (intro W hW; (try dsimp only at hW); go_split_ands; go_simp; (try with_reducible rfl))); (case' rt13 => simp only [Act.put, List.setIfInBounds_toArray, List.set_cons_zero, List.set_cons_succ]))
    refine held_one (i := 11) (oi := ?ot14) (by kernel_rfl) ?at14 ?ct14 (fun K11 hK11 => ?_)
    (case at14 => (simp only [List.getElem?_toArray, List.getElem?_cons_zero, List.getElem?_cons_succ]; rfl))
    (case ct14 => kernel_rfl)
    go_simp
    refine (HV1.out _ hS7.1).mono ?_
    rintro e y5 ⟨rfl, hd⟩
    refine hK11 _ _ (keep2 hd hS7) (fun hS11 => ?_)
    clear hS7 hd hK11 K11
    refine held_one (i := 14) (oi := ?ot15) (by kernel_rfl) ?at15 ?ct15 (fun K14 hK14 => ?_)
    (case at15 => (simp only [List.getElem?_toArray, List.getElem?_cons_zero, List.getElem?_cons_succ]; rfl))
    (case ct15 => kernel_rfl)
    go_simp
    refine (HV2.out _ hS11.1).mono ?_
    rintro e y6 ⟨rfl, hd⟩
    refine hK14 _ _ (keep2 hd hS11) (fun hS14 => ?_)
    clear hS11 hd hK14 K14
    (refine held_take (i := 15) (oi := ?ot16) (v := ?vt16) ?at16 (by kernel_rfl) (by kernel_rfl) (by kernel_rfl) ?bt16 ?ct16 ?dt16 (by assumption) ?rt16; (case at16 => (simp only [List.getElem?_toArray, List.getElem?_cons_zero, List.getElem?_cons_succ]; rfl)); (case bt16 => exact fun _ _ _ h => h); (case ct16 => kernel_rfl); (case dt16 => (intro W hW; (try dsimp only at hW); go_split_ands; go_simp; (try with_reducible rfl))); (case' rt16 => simp only [Act.put, List.setIfInBounds_toArray, List.set_cons_zero, List.set_cons_succ]))
    (refine held_take (i := 16) (oi := ?ot17) (v := ?vt17) ?at17 (by kernel_rfl) (by kernel_rfl) (by kernel_rfl) ?bt17 ?ct17 ?dt17 (by assumption) ?rt17; (case at17 => (simp only [List.getElem?_toArray, List.getElem?_cons_zero, List.getElem?_cons_succ]; rfl)); (case bt17 => exact fun _ _ _ h => h); (case ct17 => kernel_rfl); (case dt17 => (intro W hW; (try dsimp only at hW); go_split_ands; go_simp; (try with_reducible rfl))); (case' rt17 => simp only [Act.put, List.setIfInBounds_toArray, List.set_cons_zero, List.set_cons_succ]))
    (refine held_take (i := 17) (oi := ?ot18) (v := ?vt18) ?at18 (by kernel_rfl) (by kernel_rfl) (by kernel_rfl) ?bt18 ?ct18 ?dt18 (by assumption) ?rt18; (case at18 => (simp only [List.getElem?_toArray, List.getElem?_cons_zero, List.getElem?_cons_succ]; rfl)); (case bt18 => exact fun _ _ _ h => h); (case ct18 => kernel_rfl); (case dt18 => (intro W hW; (try dsimp only at hW); go_split_ands; go_simp; (try with_reducible rfl))); (case' rt18 => simp only [Act.put, List.setIfInBounds_toArray, List.set_cons_zero, List.set_cons_succ]))
    refine wpAnyH_done (by kernel_rfl) ?_ _
    go_wp2
    go_ret
    exact ⟨by simp, hS14.1⟩
  · have hlen' : 40 < (l.length : Int) := by omega
    clear hf hR hlen
    go_enter Try.func6, Try.ntmps6
    go_wp2_with (go_at_call 9; refine (awake_box a b w).mono ?_; rintro e w1 ⟨rfl, hd, c0, c1⟩; have H1 := Lib.hid hd; clear hd)
    go_ret
    exact ⟨rfl, H1.out⟩

set_option maxHeartbeats 4000000 in
set_option maxRecDepth 100000 in
theorem lawsets_any (a b : Nat) (A : Option Addr) (cap : Nat) (l : List Sp) (p : Nat) (w : World) (hx : fit (a, b)) (_ : l.length ≤ cap ∧ cap ≤ maxLen) (hf : ∀ x ∈ l, fit x) (hR : Row w w.heap.size A l) (hp : p < 18446744073709551616) :
    Calls Try.prog 7 #[.agg #[.int .u64 (a : Int), .int .u64 (b : Int)], .slice A l.length cap, .int .u64 (p : Int)] w fun e w' => e = .returned (.bool true) ∧ Below w.heap.size w w' := by
  by_cases hlen : l.length ≤ 40
  · have HM := Lib.hid (mergeW A cap l w hlen hf hR)
    have HC := Lib.hid (cutW a b hx A cap l w hlen hf hR)
    have hi := fun (Y : World) (hb : Below w.heap.size w Y) => in_any A cap l (by omega) hf p hp Y ((hR.below hb).wide hb.size)
    have hi1 := fun (Y : World) (A1 : Option Addr) (c1 : Nat) (h : Row Y Y.heap.size A1 (mergeS l)) => in_any A1 c1 (mergeS l) (by have := mergeS_len l; omega) (mergeS_fit l) p hp Y h
    have hcl : (cutS (a, b) l).length ≤ 1000000 ∧ ∀ z ∈ cutS (a, b) l, fit z := by
      have h1 : ∀ (k : Nat) (hg : good (a, b) = true) (_ : k ≤ l.length), ∃ out, Cuts (a, b) l k out := fun k hg => by
        induction k with
        | zero => intro _; exact ⟨_, Cuts.start l hg hx⟩
        | succ k ih =>
          intro hk
          obtain ⟨out, ho⟩ := ih (by omega)
          by_cases hgk : good l[k] = true
          · exact ⟨_, ho.cut (by omega) rfl hgk (hf _ (List.getElem_mem (by omega)))⟩
          · exact ⟨_, ho.same (by omega) rfl (by simpa using hgk)⟩
      unfold cutS
      split
      · rename_i hg
        obtain ⟨out, ho⟩ := h1 l.length hg (Nat.le_refl _)
        have h2 := ho.eq
        rw [List.take_length] at h2
        rw [h2]
        exact ⟨by have := ho.len; omega, ho.fits⟩
      · simp
    have hi2 := fun (Y : World) (A1 : Option Addr) (c1 : Nat) (h : Row Y Y.heap.size A1 (cutS (a, b) l)) => in_any A1 c1 (cutS (a, b) l) hcl.1 hcl.2 p hp Y h
    rw [inn_mergeS] at hi1
    rw [inn_cutS, show leftS (a, b) l p = (has (a, b) p && !inn l p) from rfl] at hi2
    have HH0 := fun Y => rhas_any a b p hx hp Y
    obtain ⟨o, ho⟩ : ∃ o, o = has (a, b) p := ⟨_, rfl⟩
    obtain ⟨q, hq⟩ : ∃ q, q = inn l p := ⟨_, rfl⟩
    obtain ⟨m, hm⟩ : ∃ m, m = cutS (a, b) l := ⟨_, rfl⟩
    obtain ⟨n, hn⟩ : ∃ n, n = mergeS l := ⟨_, rfl⟩
    rw [← ho] at HH0 hi2
    rw [← hq] at hi hi1 hi2
    rw [← hm] at HC hi2
    rw [← hn] at HM hi1
    have HI := Lib.hid hi
    have HI1 := Lib.hid hi1
    have hlen' : ¬ (40 < (l.length : Int)) := by omega
    clear hf hR hlen hm hn hi hi1 hcl ho hq hx hp
    cases o
    · rw [Bool.false_and] at hi2
      have HI2 := Lib.hid hi2
      have HH := Lib.hid HH0
      clear hi2 HH0
      go_enter Try.func7, Try.ntmps7
      go_upto_region 5 with (go_at_call 9; refine (awake_box a b w).mono ?_; rintro e w1 ⟨rfl, hd, c0, c1⟩; have H1 := Lib.hid hd; clear hd)
      refine wp_region_held_drew (S := fun Y => Below w.heap.size w Y ∧ Y.cell? ⟨w.heap.size, 0, none⟩ = some (.int .u64 (a : Int)) ∧ Y.cell? ⟨w.heap.size, 1, none⟩ = some (.int .u64 (b : Int))) (by kernel_rfl) (by exact ⟨H1.out.drew, c0, c1⟩) (fun hS => ?_)
      (refine held_take (i := 0) (oi := ?ot45) (v := ?vt45) ?at45 (by kernel_rfl) (by kernel_rfl) (by kernel_rfl) ?bt45 ?ct45 ?dt45 (by assumption) ?rt45; (case at45 => (simp only [List.getElem?_toArray, List.getElem?_cons_zero]; rfl)); (case bt45 => exact fun _ _ _ h => h); (case ct45 => kernel_rfl); (case dt45 => (intro W hW; (try dsimp only at hW); go_split_ands; go_simp; (try with_reducible rfl))); (case' rt45 => simp only [Act.put, List.setIfInBounds_toArray, List.set_cons_zero, List.set_cons_succ]))
      (refine held_take (i := 2) (oi := ?ot46) (v := ?vt46) ?at46 (by kernel_rfl) (by kernel_rfl) (by kernel_rfl) ?bt46 ?ct46 ?dt46 (by assumption) ?rt46; (case at46 => (simp only [List.getElem?_toArray, List.getElem?_cons_zero, List.getElem?_cons_succ]; rfl)); (case bt46 => exact fun _ _ _ h => h); (case ct46 => kernel_rfl); (case dt46 => (intro W hW; (try dsimp only at hW); go_split_ands; go_simp; (try with_reducible rfl))); (case' rt46 => simp only [Act.put, List.setIfInBounds_toArray, List.set_cons_zero, List.set_cons_succ]))
      (refine held_take (i := 4) (oi := ?ot47) (v := ?vt47) ?at47 (by kernel_rfl) (by kernel_rfl) (by kernel_rfl) ?bt47 ?ct47 ?dt47 (by assumption) ?rt47; (case at47 => (simp only [List.getElem?_toArray, List.getElem?_cons_zero, List.getElem?_cons_succ]; rfl)); (case bt47 => exact fun _ _ _ h => h); (case ct47 => kernel_rfl); (case dt47 => (intro W hW; (try dsimp only at hW); go_split_ands; go_simp; (try with_reducible rfl))); (case' rt47 => simp only [Act.put, List.setIfInBounds_toArray, List.set_cons_zero, List.set_cons_succ]))
      (refine held_take (i := 5) (oi := ?ot48) (v := ?vt48) ?at48 (by kernel_rfl) (by kernel_rfl) (by kernel_rfl) ?bt48 ?ct48 ?dt48 (by assumption) ?rt48; (case at48 => (simp only [List.getElem?_toArray, List.getElem?_cons_zero, List.getElem?_cons_succ]; rfl)); (case bt48 => exact fun _ _ _ h => h); (case ct48 => kernel_rfl); (case dt48 => (intro W hW; (try dsimp only at hW); go_split_ands; go_simp; (try with_reducible rfl))); (case' rt48 => simp only [Act.put, List.setIfInBounds_toArray, List.set_cons_zero, List.set_cons_succ]))
      refine held_one (i := 1) (oi := ?ot49) (by kernel_rfl) ?at49 ?ct49 (fun K1 hK1 => ?_)
      (case at49 => (simp only [List.getElem?_toArray, List.getElem?_cons_zero, List.getElem?_cons_succ]; rfl))
      (case ct49 => kernel_rfl)
      go_simp
      refine (HM.out _ hS.1).mono ?_
      rintro e y1 ⟨A1, c1', rfl, hr, hd⟩
      have R1 := Lib.hid hr
      clear hr
      refine hK1 _ _ (keep2 hd hS) (fun hS1 => ?_)
      clear hS hd hK1 K1
      refine held_one (i := 3) (oi := ?ot50) (by kernel_rfl) ?at50 ?ct50 (fun K3 hK3 => ?_)
      (case at50 => (simp only [List.getElem?_toArray, List.getElem?_cons_zero, List.getElem?_cons_succ]; rfl))
      (case ct50 => kernel_rfl)
      go_simp
      refine (HI1.out y1 A1 c1' R1.out).mono ?_
      rintro e y2 ⟨rfl, hd⟩
      refine hK3 _ _ (keep2 hd hS1) (fun hS3 => ?_)
      clear hS1 hd hK3 K3
      refine held_one (i := 6) (oi := ?ot51) (by kernel_rfl) ?at51 ?ct51 (fun K6 hK6 => ?_)
      (case at51 => (simp only [List.getElem?_toArray, List.getElem?_cons_zero, List.getElem?_cons_succ]; rfl))
      (case ct51 => kernel_rfl)
      go_simp
      refine (HI.out _ hS3.1).mono ?_
      rintro e y3 ⟨rfl, hd⟩
      refine hK6 _ _ (keep2 hd hS3) (fun hS6 => ?_)
      clear hS3 hd hK6 K6
      (refine held_take (i := 7) (oi := ?ot52) (v := ?vt52) ?at52 (by kernel_rfl) (by kernel_rfl) (by kernel_rfl) ?bt52 ?ct52 ?dt52 (by assumption) ?rt52; (case at52 => (simp only [List.getElem?_toArray, List.getElem?_cons_zero, List.getElem?_cons_succ]; rfl)); (case bt52 => exact fun _ _ _ h => h); (case ct52 => kernel_rfl); (case dt52 => (intro W hW; (try dsimp only at hW); go_split_ands; go_simp; (try with_reducible rfl))); (case' rt52 => simp only [Act.put, List.setIfInBounds_toArray, List.set_cons_zero, List.set_cons_succ]))
      (refine held_take (i := 8) (oi := ?ot53) (v := ?vt53) ?at53 (by kernel_rfl) (by kernel_rfl) (by kernel_rfl) ?bt53 ?ct53 ?dt53 (by assumption) ?rt53; (case at53 => (simp only [List.getElem?_toArray, List.getElem?_cons_zero, List.getElem?_cons_succ]; rfl)); (case bt53 => exact fun _ _ _ h => h); (case ct53 => kernel_rfl); (case dt53 => (intro W hW; (try dsimp only at hW); go_split_ands; go_simp; (try with_reducible rfl))); (case' rt53 => simp only [Act.put, List.setIfInBounds_toArray, List.set_cons_zero, List.set_cons_succ]))
      (refine held_take (i := 9) (oi := ?ot54) (v := ?vt54) ?at54 (by kernel_rfl) (by kernel_rfl) (by kernel_rfl) ?bt54 ?ct54 ?dt54 (by assumption) ?rt54; (case at54 => (simp only [List.getElem?_toArray, List.getElem?_cons_zero, List.getElem?_cons_succ]; rfl)); (case bt54 => exact fun _ _ _ h => h); (case ct54 => kernel_rfl); (case dt54 => (intro W hW; (try dsimp only at hW); go_split_ands; go_simp; (try with_reducible rfl))); (case' rt54 => simp only [Act.put, List.setIfInBounds_toArray, List.set_cons_zero, List.set_cons_succ]))
      (refine held_take (i := 10) (oi := ?ot55) (v := ?vt55) ?at55 (by kernel_rfl) (by kernel_rfl) (by kernel_rfl) ?bt55 ?ct55 ?dt55 (by assumption) ?rt55; (case at55 => (simp only [List.getElem?_toArray, List.getElem?_cons_zero, List.getElem?_cons_succ]; rfl)); (case bt55 => exact fun _ _ _ h => h); (case ct55 => kernel_rfl); (case dt55 => (intro W hW; (try dsimp only at hW); go_split_ands; go_simp; (try with_reducible rfl))); (case' rt55 => simp only [Act.put, List.setIfInBounds_toArray, List.set_cons_zero, List.set_cons_succ]))
      (refine held_take (i := 12) (oi := ?ot56) (v := ?vt56) ?at56 (by kernel_rfl) (by kernel_rfl) (by kernel_rfl) ?bt56 ?ct56 ?dt56 (by assumption) ?rt56; (case at56 => (simp only [List.getElem?_toArray, List.getElem?_cons_zero, List.getElem?_cons_succ]; rfl)); (case bt56 => exact fun _ _ _ h => h); (case ct56 => kernel_rfl); (case dt56 => (intro W hW; (try dsimp only at hW); go_split_ands; go_simp; (try with_reducible rfl))); (case' rt56 => simp only [Act.put, List.setIfInBounds_toArray, List.set_cons_zero, List.set_cons_succ]))
      (refine held_take (i := 14) (oi := ?ot57) (v := ?vt57) ?at57 (by kernel_rfl) (by kernel_rfl) (by kernel_rfl) ?bt57 ?ct57 ?dt57 (by assumption) ?rt57; (case at57 => (simp only [List.getElem?_toArray, List.getElem?_cons_zero, List.getElem?_cons_succ]; rfl)); (case bt57 => exact fun _ _ _ h => h); (case ct57 => kernel_rfl); (case dt57 => (intro W hW; (try dsimp only at hW); go_split_ands; go_simp; (try with_reducible rfl))); (case' rt57 => simp only [Act.put, List.setIfInBounds_toArray, List.set_cons_zero, List.set_cons_succ]))
      (refine held_take (i := 15) (oi := ?ot58) (v := ?vt58) ?at58 (by kernel_rfl) (by kernel_rfl) (by kernel_rfl) ?bt58 ?ct58 ?dt58 (by assumption) ?rt58; (case at58 => (simp only [List.getElem?_toArray, List.getElem?_cons_zero, List.getElem?_cons_succ]; rfl)); (case bt58 => exact fun _ _ _ h => h); (case ct58 => kernel_rfl); (case dt58 => (intro W hW; (try dsimp only at hW); go_split_ands; go_simp; (try with_reducible rfl))); (case' rt58 => simp only [Act.put, List.setIfInBounds_toArray, List.set_cons_zero, List.set_cons_succ]))
      refine held_one (i := 11) (oi := ?ot59) (by kernel_rfl) ?at59 ?ct59 (fun K11 hK11 => ?_)
      (case at59 => (simp only [List.getElem?_toArray, List.getElem?_cons_zero, List.getElem?_cons_succ]; rfl))
      (case ct59 => kernel_rfl)
      go_simp
      refine (HC.out _ hS6.1).mono ?_
      rintro e y4 ⟨A2, c2', rfl, hr, hd⟩
      have R2 := Lib.hid hr
      clear hr
      refine hK11 _ _ (keep2 hd hS6) (fun hS11 => ?_)
      clear hS6 hd hK11 K11
      refine held_one (i := 13) (oi := ?ot60) (by kernel_rfl) ?at60 ?ct60 (fun K13 hK13 => ?_)
      (case at60 => (simp only [List.getElem?_toArray, List.getElem?_cons_zero, List.getElem?_cons_succ]; rfl))
      (case ct60 => kernel_rfl)
      go_simp
      refine (HI2.out y4 A2 c2' R2.out).mono ?_
      rintro e y5 ⟨rfl, hd⟩
      refine hK13 _ _ (keep2 hd hS11) (fun hS13 => ?_)
      clear hS11 hd hK13 K13
      refine held_one (i := 16) (oi := ?ot61) (by kernel_rfl) ?at61 ?ct61 (fun K16 hK16 => ?_)
      (case at61 => (simp only [List.getElem?_toArray, List.getElem?_cons_zero, List.getElem?_cons_succ]; rfl))
      (case ct61 => kernel_rfl)
      go_simp
      refine (HH.out _).mono ?_
      rintro e y6 ⟨rfl, hd⟩
      refine hK16 _ _ (keep2 hd hS13) (fun hS16 => ?_)
      clear hS13 hd hK16 K16
      (refine held_take (i := 17) (oi := ?ot62) (v := ?vt62) ?at62 (by kernel_rfl) (by kernel_rfl) (by kernel_rfl) ?bt62 ?ct62 ?dt62 (by assumption) ?rt62; (case at62 => (simp only [List.getElem?_toArray, List.getElem?_cons_zero, List.getElem?_cons_succ]; rfl)); (case bt62 => exact fun _ _ _ h => h); (case ct62 => kernel_rfl); (case dt62 => (intro W hW; (try dsimp only at hW); go_split_ands; go_simp; (try with_reducible rfl))); (case' rt62 => simp only [Act.put, List.setIfInBounds_toArray, List.set_cons_zero, List.set_cons_succ]))
      (refine held_skip (i := 18) (oi := ?ot63) ?at63 (by kernel_rfl) (by kernel_rfl) (by kernel_rfl) ?bt63 ?ct63 (by assumption) ?rt63; (case at63 => (simp only [List.getElem?_toArray, List.getElem?_cons_zero, List.getElem?_cons_succ]; rfl)); (case bt63 => exact fun _ _ _ h => h); (case ct63 => kernel_rfl); (case' rt63 => simp only [Act.put, List.setIfInBounds_toArray, List.set_cons_zero, List.set_cons_succ]))
      (refine held_skip (i := 19) (oi := ?ot64) ?at64 (by kernel_rfl) (by kernel_rfl) (by kernel_rfl) ?bt64 ?ct64 (by assumption) ?rt64; (case at64 => (simp only [List.getElem?_toArray, List.getElem?_cons_zero, List.getElem?_cons_succ]; rfl)); (case bt64 => exact fun _ _ _ h => h); (case ct64 => kernel_rfl); (case' rt64 => simp only [Act.put, List.setIfInBounds_toArray, List.set_cons_zero, List.set_cons_succ]))
      (refine held_skip (i := 20) (oi := ?ot65) ?at65 (by kernel_rfl) (by kernel_rfl) (by kernel_rfl) ?bt65 ?ct65 (by assumption) ?rt65; (case at65 => (simp only [List.getElem?_toArray, List.getElem?_cons_zero, List.getElem?_cons_succ]; rfl)); (case bt65 => exact fun _ _ _ h => h); (case ct65 => kernel_rfl); (case' rt65 => simp only [Act.put, List.setIfInBounds_toArray, List.set_cons_zero, List.set_cons_succ]))
      (refine held_skip (i := 21) (oi := ?ot66) ?at66 (by kernel_rfl) (by kernel_rfl) (by kernel_rfl) ?bt66 ?ct66 (by assumption) ?rt66; (case at66 => (simp only [List.getElem?_toArray, List.getElem?_cons_zero, List.getElem?_cons_succ]; rfl)); (case bt66 => exact fun _ _ _ h => h); (case ct66 => kernel_rfl); (case' rt66 => simp only [Act.put, List.setIfInBounds_toArray, List.set_cons_zero, List.set_cons_succ]))
      (refine held_take (i := 22) (oi := ?ot67) (v := ?vt67) ?at67 (by kernel_rfl) (by kernel_rfl) (by kernel_rfl) ?bt67 ?ct67 ?dt67 (by assumption) ?rt67; (case at67 => (simp only [List.getElem?_toArray, List.getElem?_cons_zero, List.getElem?_cons_succ]; rfl)); (case bt67 => exact fun _ _ _ h => h); (case ct67 => kernel_rfl); (case dt67 => (intro W hW; (try dsimp only at hW); go_split_ands; go_simp; (try with_reducible rfl))); (case' rt67 => simp only [Act.put, List.setIfInBounds_toArray, List.set_cons_zero, List.set_cons_succ]))
      (refine held_take (i := 23) (oi := ?ot68) (v := ?vt68) ?at68 (by kernel_rfl) (by kernel_rfl) (by kernel_rfl) ?bt68 ?ct68 ?dt68 (by assumption) ?rt68; (case at68 => (simp only [List.getElem?_toArray, List.getElem?_cons_zero, List.getElem?_cons_succ]; rfl)); (case bt68 => exact fun _ _ _ h => h); (case ct68 => kernel_rfl); (case dt68 => (intro W hW; (try dsimp only at hW); go_split_ands; go_simp; (try with_reducible rfl))); (case' rt68 => simp only [Act.put, List.setIfInBounds_toArray, List.set_cons_zero, List.set_cons_succ]))
      (refine held_take (i := 24) (oi := ?ot69) (v := ?vt69) ?at69 (by kernel_rfl) (by kernel_rfl) (by kernel_rfl) ?bt69 ?ct69 ?dt69 (by assumption) ?rt69; (case at69 => (simp only [List.getElem?_toArray, List.getElem?_cons_zero, List.getElem?_cons_succ]; rfl)); (case bt69 => exact fun _ _ _ h => h); (case ct69 => kernel_rfl); (case dt69 => (intro W hW; (try dsimp only at hW); go_split_ands; go_simp; (try with_reducible rfl))); (case' rt69 => simp only [Act.put, List.setIfInBounds_toArray, List.set_cons_zero, List.set_cons_succ]))
      (refine held_take (i := 25) (oi := ?ot70) (v := ?vt70) ?at70 (by kernel_rfl) (by kernel_rfl) (by kernel_rfl) ?bt70 ?ct70 ?dt70 (by assumption) ?rt70; (case at70 => (simp only [List.getElem?_toArray, List.getElem?_cons_zero, List.getElem?_cons_succ]; rfl)); (case bt70 => exact fun _ _ _ h => h); (case ct70 => kernel_rfl); (case dt70 => (intro W hW; (try dsimp only at hW); go_split_ands; go_simp; (try with_reducible rfl))); (case' rt70 => simp only [Act.put, List.setIfInBounds_toArray, List.set_cons_zero, List.set_cons_succ]))
      refine wpAnyH_done (by kernel_rfl) ?_ _
      go_wp2
      go_ret
      exact ⟨by simp, hS16.1⟩
    · rw [Bool.true_and] at hi2
      have HI2 := Lib.hid hi2
      have HH := Lib.hid HH0
      clear hi2 HH0
      go_enter Try.func7, Try.ntmps7
      go_upto_region 5 with (go_at_call 9; refine (awake_box a b w).mono ?_; rintro e w1 ⟨rfl, hd, c0, c1⟩; have H1 := Lib.hid hd; clear hd)
      refine wp_region_held_drew (S := fun Y => Below w.heap.size w Y ∧ Y.cell? ⟨w.heap.size, 0, none⟩ = some (.int .u64 (a : Int)) ∧ Y.cell? ⟨w.heap.size, 1, none⟩ = some (.int .u64 (b : Int))) (by kernel_rfl) (by exact ⟨H1.out.drew, c0, c1⟩) (fun hS => ?_)
      (refine held_take (i := 0) (oi := ?ot19) (v := ?vt19) ?at19 (by kernel_rfl) (by kernel_rfl) (by kernel_rfl) ?bt19 ?ct19 ?dt19 (by assumption) ?rt19; (case at19 => (simp only [List.getElem?_toArray, List.getElem?_cons_zero]; rfl)); (case bt19 => exact fun _ _ _ h => h); (case ct19 => kernel_rfl); (case dt19 => (intro W hW; (try dsimp only at hW); go_split_ands; go_simp; (try with_reducible rfl))); (case' rt19 => simp only [Act.put, List.setIfInBounds_toArray, List.set_cons_zero, List.set_cons_succ]))
      (refine held_take (i := 2) (oi := ?ot20) (v := ?vt20) ?at20 (by kernel_rfl) (by kernel_rfl) (by kernel_rfl) ?bt20 ?ct20 ?dt20 (by assumption) ?rt20; (case at20 => (simp only [List.getElem?_toArray, List.getElem?_cons_zero, List.getElem?_cons_succ]; rfl)); (case bt20 => exact fun _ _ _ h => h); (case ct20 => kernel_rfl); (case dt20 => (intro W hW; (try dsimp only at hW); go_split_ands; go_simp; (try with_reducible rfl))); (case' rt20 => simp only [Act.put, List.setIfInBounds_toArray, List.set_cons_zero, List.set_cons_succ]))
      (refine held_take (i := 4) (oi := ?ot21) (v := ?vt21) ?at21 (by kernel_rfl) (by kernel_rfl) (by kernel_rfl) ?bt21 ?ct21 ?dt21 (by assumption) ?rt21; (case at21 => (simp only [List.getElem?_toArray, List.getElem?_cons_zero, List.getElem?_cons_succ]; rfl)); (case bt21 => exact fun _ _ _ h => h); (case ct21 => kernel_rfl); (case dt21 => (intro W hW; (try dsimp only at hW); go_split_ands; go_simp; (try with_reducible rfl))); (case' rt21 => simp only [Act.put, List.setIfInBounds_toArray, List.set_cons_zero, List.set_cons_succ]))
      (refine held_take (i := 5) (oi := ?ot22) (v := ?vt22) ?at22 (by kernel_rfl) (by kernel_rfl) (by kernel_rfl) ?bt22 ?ct22 ?dt22 (by assumption) ?rt22; (case at22 => (simp only [List.getElem?_toArray, List.getElem?_cons_zero, List.getElem?_cons_succ]; rfl)); (case bt22 => exact fun _ _ _ h => h); (case ct22 => kernel_rfl); (case dt22 => (intro W hW; (try dsimp only at hW); go_split_ands; go_simp; (try with_reducible rfl))); (case' rt22 => simp only [Act.put, List.setIfInBounds_toArray, List.set_cons_zero, List.set_cons_succ]))
      refine held_one (i := 1) (oi := ?ot23) (by kernel_rfl) ?at23 ?ct23 (fun K1 hK1 => ?_)
      (case at23 => (simp only [List.getElem?_toArray, List.getElem?_cons_zero, List.getElem?_cons_succ]; rfl))
      (case ct23 => kernel_rfl)
      go_simp
      refine (HM.out _ hS.1).mono ?_
      rintro e y1 ⟨A1, c1', rfl, hr, hd⟩
      have R1 := Lib.hid hr
      clear hr
      refine hK1 _ _ (keep2 hd hS) (fun hS1 => ?_)
      clear hS hd hK1 K1
      refine held_one (i := 3) (oi := ?ot24) (by kernel_rfl) ?at24 ?ct24 (fun K3 hK3 => ?_)
      (case at24 => (simp only [List.getElem?_toArray, List.getElem?_cons_zero, List.getElem?_cons_succ]; rfl))
      (case ct24 => kernel_rfl)
      go_simp
      refine (HI1.out y1 A1 c1' R1.out).mono ?_
      rintro e y2 ⟨rfl, hd⟩
      refine hK3 _ _ (keep2 hd hS1) (fun hS3 => ?_)
      clear hS1 hd hK3 K3
      refine held_one (i := 6) (oi := ?ot25) (by kernel_rfl) ?at25 ?ct25 (fun K6 hK6 => ?_)
      (case at25 => (simp only [List.getElem?_toArray, List.getElem?_cons_zero, List.getElem?_cons_succ]; rfl))
      (case ct25 => kernel_rfl)
      go_simp
      refine (HI.out _ hS3.1).mono ?_
      rintro e y3 ⟨rfl, hd⟩
      refine hK6 _ _ (keep2 hd hS3) (fun hS6 => ?_)
      clear hS3 hd hK6 K6
      (refine held_take (i := 7) (oi := ?ot26) (v := ?vt26) ?at26 (by kernel_rfl) (by kernel_rfl) (by kernel_rfl) ?bt26 ?ct26 ?dt26 (by assumption) ?rt26; (case at26 => (simp only [List.getElem?_toArray, List.getElem?_cons_zero, List.getElem?_cons_succ]; rfl)); (case bt26 => exact fun _ _ _ h => h); (case ct26 => kernel_rfl); (case dt26 => (intro W hW; (try dsimp only at hW); go_split_ands; go_simp; (try with_reducible rfl))); (case' rt26 => simp only [Act.put, List.setIfInBounds_toArray, List.set_cons_zero, List.set_cons_succ]))
      (refine held_take (i := 8) (oi := ?ot27) (v := ?vt27) ?at27 (by kernel_rfl) (by kernel_rfl) (by kernel_rfl) ?bt27 ?ct27 ?dt27 (by assumption) ?rt27; (case at27 => (simp only [List.getElem?_toArray, List.getElem?_cons_zero, List.getElem?_cons_succ]; rfl)); (case bt27 => exact fun _ _ _ h => h); (case ct27 => kernel_rfl); (case dt27 => (intro W hW; (try dsimp only at hW); go_split_ands; go_simp; (try with_reducible rfl))); (case' rt27 => simp only [Act.put, List.setIfInBounds_toArray, List.set_cons_zero, List.set_cons_succ]))
      (refine held_take (i := 9) (oi := ?ot28) (v := ?vt28) ?at28 (by kernel_rfl) (by kernel_rfl) (by kernel_rfl) ?bt28 ?ct28 ?dt28 (by assumption) ?rt28; (case at28 => (simp only [List.getElem?_toArray, List.getElem?_cons_zero, List.getElem?_cons_succ]; rfl)); (case bt28 => exact fun _ _ _ h => h); (case ct28 => kernel_rfl); (case dt28 => (intro W hW; (try dsimp only at hW); go_split_ands; go_simp; (try with_reducible rfl))); (case' rt28 => simp only [Act.put, List.setIfInBounds_toArray, List.set_cons_zero, List.set_cons_succ]))
      (refine held_take (i := 10) (oi := ?ot29) (v := ?vt29) ?at29 (by kernel_rfl) (by kernel_rfl) (by kernel_rfl) ?bt29 ?ct29 ?dt29 (by assumption) ?rt29; (case at29 => (simp only [List.getElem?_toArray, List.getElem?_cons_zero, List.getElem?_cons_succ]; rfl)); (case bt29 => exact fun _ _ _ h => h); (case ct29 => kernel_rfl); (case dt29 => (intro W hW; (try dsimp only at hW); go_split_ands; go_simp; (try with_reducible rfl))); (case' rt29 => simp only [Act.put, List.setIfInBounds_toArray, List.set_cons_zero, List.set_cons_succ]))
      (refine held_take (i := 12) (oi := ?ot30) (v := ?vt30) ?at30 (by kernel_rfl) (by kernel_rfl) (by kernel_rfl) ?bt30 ?ct30 ?dt30 (by assumption) ?rt30; (case at30 => (simp only [List.getElem?_toArray, List.getElem?_cons_zero, List.getElem?_cons_succ]; rfl)); (case bt30 => exact fun _ _ _ h => h); (case ct30 => kernel_rfl); (case dt30 => (intro W hW; (try dsimp only at hW); go_split_ands; go_simp; (try with_reducible rfl))); (case' rt30 => simp only [Act.put, List.setIfInBounds_toArray, List.set_cons_zero, List.set_cons_succ]))
      (refine held_take (i := 14) (oi := ?ot31) (v := ?vt31) ?at31 (by kernel_rfl) (by kernel_rfl) (by kernel_rfl) ?bt31 ?ct31 ?dt31 (by assumption) ?rt31; (case at31 => (simp only [List.getElem?_toArray, List.getElem?_cons_zero, List.getElem?_cons_succ]; rfl)); (case bt31 => exact fun _ _ _ h => h); (case ct31 => kernel_rfl); (case dt31 => (intro W hW; (try dsimp only at hW); go_split_ands; go_simp; (try with_reducible rfl))); (case' rt31 => simp only [Act.put, List.setIfInBounds_toArray, List.set_cons_zero, List.set_cons_succ]))
      (refine held_take (i := 15) (oi := ?ot32) (v := ?vt32) ?at32 (by kernel_rfl) (by kernel_rfl) (by kernel_rfl) ?bt32 ?ct32 ?dt32 (by assumption) ?rt32; (case at32 => (simp only [List.getElem?_toArray, List.getElem?_cons_zero, List.getElem?_cons_succ]; rfl)); (case bt32 => exact fun _ _ _ h => h); (case ct32 => kernel_rfl); (case dt32 => (intro W hW; (try dsimp only at hW); go_split_ands; go_simp; (try with_reducible rfl))); (case' rt32 => simp only [Act.put, List.setIfInBounds_toArray, List.set_cons_zero, List.set_cons_succ]))
      refine held_one (i := 11) (oi := ?ot33) (by kernel_rfl) ?at33 ?ct33 (fun K11 hK11 => ?_)
      (case at33 => (simp only [List.getElem?_toArray, List.getElem?_cons_zero, List.getElem?_cons_succ]; rfl))
      (case ct33 => kernel_rfl)
      go_simp
      refine (HC.out _ hS6.1).mono ?_
      rintro e y4 ⟨A2, c2', rfl, hr, hd⟩
      have R2 := Lib.hid hr
      clear hr
      refine hK11 _ _ (keep2 hd hS6) (fun hS11 => ?_)
      clear hS6 hd hK11 K11
      refine held_one (i := 13) (oi := ?ot34) (by kernel_rfl) ?at34 ?ct34 (fun K13 hK13 => ?_)
      (case at34 => (simp only [List.getElem?_toArray, List.getElem?_cons_zero, List.getElem?_cons_succ]; rfl))
      (case ct34 => kernel_rfl)
      go_simp
      refine (HI2.out y4 A2 c2' R2.out).mono ?_
      rintro e y5 ⟨rfl, hd⟩
      refine hK13 _ _ (keep2 hd hS11) (fun hS13 => ?_)
      clear hS11 hd hK13 K13
      refine held_one (i := 16) (oi := ?ot35) (by kernel_rfl) ?at35 ?ct35 (fun K16 hK16 => ?_)
      (case at35 => (simp only [List.getElem?_toArray, List.getElem?_cons_zero, List.getElem?_cons_succ]; rfl))
      (case ct35 => kernel_rfl)
      go_simp
      refine (HH.out _).mono ?_
      rintro e y6 ⟨rfl, hd⟩
      refine hK16 _ _ (keep2 hd hS13) (fun hS16 => ?_)
      clear hS13 hd hK16 K16
      (refine held_take (i := 17) (oi := ?ot36) (v := ?vt36) ?at36 (by kernel_rfl) (by kernel_rfl) (by kernel_rfl) ?bt36 ?ct36 ?dt36 (by assumption) ?rt36; (case at36 => (simp only [List.getElem?_toArray, List.getElem?_cons_zero, List.getElem?_cons_succ]; rfl)); (case bt36 => exact fun _ _ _ h => h); (case ct36 => kernel_rfl); (case dt36 => (intro W hW; (try dsimp only at hW); go_split_ands; go_simp; (try with_reducible rfl))); (case' rt36 => simp only [Act.put, List.setIfInBounds_toArray, List.set_cons_zero, List.set_cons_succ]))
      (refine held_take (i := 18) (oi := ?ot37) (v := ?vt37) ?at37 (by kernel_rfl) (by kernel_rfl) (by kernel_rfl) ?bt37 ?ct37 ?dt37 (by assumption) ?rt37; (case at37 => (simp only [List.getElem?_toArray, List.getElem?_cons_zero, List.getElem?_cons_succ]; rfl)); (case bt37 => exact fun _ _ _ h => h); (case ct37 => kernel_rfl); (case dt37 => (intro W hW; (try dsimp only at hW); go_split_ands; go_simp; (try with_reducible rfl))); (case' rt37 => simp only [Act.put, List.setIfInBounds_toArray, List.set_cons_zero, List.set_cons_succ]))
      (refine held_take (i := 19) (oi := ?ot38) (v := ?vt38) ?at38 (by kernel_rfl) (by kernel_rfl) (by kernel_rfl) ?bt38 ?ct38 ?dt38 (by assumption) ?rt38; (case at38 => (simp only [List.getElem?_toArray, List.getElem?_cons_zero, List.getElem?_cons_succ]; rfl)); (case bt38 => exact fun _ _ _ h => h); (case ct38 => kernel_rfl); (case dt38 => (intro W hW; (try dsimp only at hW); go_split_ands; go_simp; (try with_reducible rfl))); (case' rt38 => simp only [Act.put, List.setIfInBounds_toArray, List.set_cons_zero, List.set_cons_succ]))
      refine held_one (i := 20) (oi := ?ot39) (by kernel_rfl) ?at39 ?ct39 (fun K20 hK20 => ?_)
      (case at39 => (simp only [List.getElem?_toArray, List.getElem?_cons_zero, List.getElem?_cons_succ]; rfl))
      (case ct39 => kernel_rfl)
      go_simp
      refine (HI.out _ hS16.1).mono ?_
      rintro e y7 ⟨rfl, hd⟩
      refine hK20 _ _ (keep2 hd hS16) (fun hS20 => ?_)
      clear hS16 hd hK20 K20
      (refine held_take (i := 21) (oi := ?ot40) (v := ?vt40) ?at40 (by kernel_rfl) (by kernel_rfl) (by kernel_rfl) ?bt40 ?ct40 ?dt40 (by assumption) ?rt40; (case at40 => (simp only [List.getElem?_toArray, List.getElem?_cons_zero, List.getElem?_cons_succ]; rfl)); (case bt40 => exact fun _ _ _ h => h); (case ct40 => kernel_rfl); (case dt40 => (intro W hW; (try dsimp only at hW); go_split_ands; go_simp; (try with_reducible rfl))); (case' rt40 => simp only [Act.put, List.setIfInBounds_toArray, List.set_cons_zero, List.set_cons_succ]))
      (refine held_take (i := 22) (oi := ?ot41) (v := ?vt41) ?at41 (by kernel_rfl) (by kernel_rfl) (by kernel_rfl) ?bt41 ?ct41 ?dt41 (by assumption) ?rt41; (case at41 => (simp only [List.getElem?_toArray, List.getElem?_cons_zero, List.getElem?_cons_succ]; rfl)); (case bt41 => exact fun _ _ _ h => h); (case ct41 => kernel_rfl); (case dt41 => (intro W hW; (try dsimp only at hW); go_split_ands; go_simp; (try with_reducible rfl))); (case' rt41 => simp only [Act.put, List.setIfInBounds_toArray, List.set_cons_zero, List.set_cons_succ]))
      (refine held_take (i := 23) (oi := ?ot42) (v := ?vt42) ?at42 (by kernel_rfl) (by kernel_rfl) (by kernel_rfl) ?bt42 ?ct42 ?dt42 (by assumption) ?rt42; (case at42 => (simp only [List.getElem?_toArray, List.getElem?_cons_zero, List.getElem?_cons_succ]; rfl)); (case bt42 => exact fun _ _ _ h => h); (case ct42 => kernel_rfl); (case dt42 => (intro W hW; (try dsimp only at hW); go_split_ands; go_simp; (try with_reducible rfl))); (case' rt42 => simp only [Act.put, List.setIfInBounds_toArray, List.set_cons_zero, List.set_cons_succ]))
      (refine held_take (i := 24) (oi := ?ot43) (v := ?vt43) ?at43 (by kernel_rfl) (by kernel_rfl) (by kernel_rfl) ?bt43 ?ct43 ?dt43 (by assumption) ?rt43; (case at43 => (simp only [List.getElem?_toArray, List.getElem?_cons_zero, List.getElem?_cons_succ]; rfl)); (case bt43 => exact fun _ _ _ h => h); (case ct43 => kernel_rfl); (case dt43 => (intro W hW; (try dsimp only at hW); go_split_ands; go_simp; (try with_reducible rfl))); (case' rt43 => simp only [Act.put, List.setIfInBounds_toArray, List.set_cons_zero, List.set_cons_succ]))
      (refine held_take (i := 25) (oi := ?ot44) (v := ?vt44) ?at44 (by kernel_rfl) (by kernel_rfl) (by kernel_rfl) ?bt44 ?ct44 ?dt44 (by assumption) ?rt44; (case at44 => (simp only [List.getElem?_toArray, List.getElem?_cons_zero, List.getElem?_cons_succ]; rfl)); (case bt44 => exact fun _ _ _ h => h); (case ct44 => kernel_rfl); (case dt44 => (intro W hW; (try dsimp only at hW); go_split_ands; go_simp; (try with_reducible rfl))); (case' rt44 => simp only [Act.put, List.setIfInBounds_toArray, List.set_cons_zero, List.set_cons_succ]))
      refine wpAnyH_done (by kernel_rfl) ?_ _
      go_wp2
      go_ret
      exact ⟨by simp, hS20.1⟩
  · have hlen' : 40 < (l.length : Int) := by omega
    clear hf hR hlen
    go_enter Try.func7, Try.ntmps7
    go_wp2_with (go_at_call 9; refine (awake_box a b w).mono ?_; rintro e w1 ⟨rfl, hd, c0, c1⟩; have H1 := Lib.hid hd; clear hd)
    go_ret
    exact ⟨rfl, H1.out⟩
end Go.Proofs.Ythedpjlafapfeaa
