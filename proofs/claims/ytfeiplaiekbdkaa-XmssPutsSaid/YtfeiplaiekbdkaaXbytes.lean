/- sized.bytes. -/
import Derived.Test.YtfeiplaiekbdkaaXwhole
import Derived.Test.YtfeiplaiekbdkaaXbld
namespace Go.Proofs.Ytfeiplaiekbdkaa
open Go.RowKit
attribute [local go_sem ↓ high] zeroV26 zeroSig zeroSz

set_option maxHeartbeats 2000000 in
set_option maxRecDepth 100000 in
theorem bytes_any (idx : Nat) (hidx : idx < 4294967296) (r : Nd) (ots auth : List Nd) (ho : ots.length ≤ 1000) (ha : auth.length ≤ 1000) (A1 A2 : Option Addr) (n1 n2 c1 c2 : Nat) (hn1 : n1 = ots.length) (hn2 : n2 = auth.length) (h : Int) (w : World) (h1 : NRow w w.heap.size A1 ots) (h2 : NRow w w.heap.size A2 auth) :
    Calls Try.prog 31 #[.agg (vec 36 (szF (idx : Int) r (.slice A1 n1 c1) (.slice A2 n2 c2) h))] w (Bytes w (sigL idx r ots auth)) := by
  obtain ⟨V, hV⟩ : ∃ V, V = w.alloc (.cells (vec 36 (szF (idx : Int) r (.slice A1 n1 c1) (.slice A2 n2 c2) h)) 67) := ⟨_, rfl⟩
  have h0 : Arr V w.heap.size 67 36 (szF (idx : Int) r (.slice A1 n1 c1) (.slice A2 n2 c2) h) := by rw [hV]; exact Arr.new w _ _ _
  have hB : Below w.heap.size w V := by rw [hV]; exact (Below.refl _ _).alloc (Nat.le_refl _) _
  have HA := Lib.hid (And.intro h0 hB)
  have HW := Lib.hid hV
  have HO := Lib.hid (And.intro hidx (And.intro ho (And.intro ha (And.intro hn1 hn2))))
  have HN2 : Hid (NRow V.drew V.drew.heap.size A1 ots) := Lib.hid ((h1.below hB).wide hB.size)
  have HN3 : Hid (NRow V.drew V.drew.heap.size A2 auth) := Lib.hid ((h2.below hB).wide hB.size)
  clear hV h0 hB h1 h2 hidx ho ha hn1 hn2
  go_enter Try.func31, Try.ntmps31
  go_upto_region 1 with fail
  rw [← HW.out]
  clear HW
  refine wp_region_held_drew (S := fun Y => VS V Y) (by kernel_rfl) (VS.begin V) (fun hS => ?_)
  (refine held_take (i := 0) (oi := ?ot1) (v := ?vt1) ?at1 (by kernel_rfl) (by kernel_rfl) (by kernel_rfl) ?bt1 ?ct1 ?dt1 (by assumption) ?rt1; (case at1 => (simp only [List.getElem?_toArray, List.getElem?_cons_zero]; rfl)); (case bt1 => exact fun _ _ _ h => h); (case ct1 => kernel_rfl); (case dt1 => (intro W hW; (try dsimp only at hW); go_split_ands; go_simp; (try with_reducible rfl))); (case' rt1 => simp only [Act.put, List.setIfInBounds_toArray, List.set_cons_zero, List.set_cons_succ]))
  (refine held_take (i := 1) (oi := ?ot2) (v := ?vt2) ?at2 (by kernel_rfl) (by kernel_rfl) (by kernel_rfl) ?bt2 ?ct2 ?dt2 (by assumption) ?rt2; (case at2 => (simp only [List.getElem?_toArray, List.getElem?_cons_zero, List.getElem?_cons_succ]; rfl)); (case bt2 => exact fun _ _ _ h => h); (case ct2 => kernel_rfl); (case dt2 => (intro W hW; (try dsimp only at hW); go_split_ands; go_simp; (try with_reducible rfl))); (case' rt2 => simp only [Act.put, List.setIfInBounds_toArray, List.set_cons_zero, List.set_cons_succ]))
  (refine held_take (i := 2) (oi := ?ot3) (v := .int .u32 (idx : Int)) ?at3 (by kernel_rfl) (by kernel_rfl) (by kernel_rfl) ?bt3 ?ct3 ?dt3 (by assumption) ?rt3; (case at3 => (simp only [List.getElem?_toArray, List.getElem?_cons_zero, List.getElem?_cons_succ]; rfl)); (case bt3 => exact fun _ _ _ h => h); (case ct3 => kernel_rfl); (case dt3 => (intro W hW; have hc := sz_idx (HA.out.1.under (show Below V.heap.size V W from hW)); clear hW; go_simp; (try with_reducible rfl))); (case' rt3 => simp only [Act.put, List.setIfInBounds_toArray, List.set_cons_zero, List.set_cons_succ]))
  (refine held_take (i := 5) (oi := ?ot4) (v := ?vt4) ?at4 (by kernel_rfl) (by kernel_rfl) (by kernel_rfl) ?bt4 ?ct4 ?dt4 (by assumption) ?rt4; (case at4 => (simp only [List.getElem?_toArray, List.getElem?_cons_zero, List.getElem?_cons_succ]; rfl)); (case bt4 => exact fun _ _ _ h => h); (case ct4 => kernel_rfl); (case dt4 => (intro W hW; (try dsimp only at hW); go_split_ands; go_simp; (try with_reducible rfl))); (case' rt4 => simp only [Act.put, List.setIfInBounds_toArray, List.set_cons_zero, List.set_cons_succ]))
  (refine held_take (i := 6) (oi := ?ot5) (v := ?vt5) ?at5 (by kernel_rfl) (by kernel_rfl) (by kernel_rfl) ?bt5 ?ct5 ?dt5 (by assumption) ?rt5; (case at5 => (simp only [List.getElem?_toArray, List.getElem?_cons_zero, List.getElem?_cons_succ]; rfl)); (case bt5 => exact fun _ _ _ h => h); (case ct5 => kernel_rfl); (case dt5 => (intro W hW; (try dsimp only at hW); go_split_ands; go_simp; (try with_reducible rfl))); (case' rt5 => simp only [Act.put, List.setIfInBounds_toArray, List.set_cons_zero, List.set_cons_succ]))
  (refine held_take (i := 7) (oi := ?ot6) (v := .agg (vec 32 (bys r))) ?at6 (by kernel_rfl) (by kernel_rfl) (by kernel_rfl) ?bt6 ?ct6 ?dt6 (by assumption) ?rt6; (case at6 => (simp only [List.getElem?_toArray, List.getElem?_cons_zero, List.getElem?_cons_succ]; rfl)); (case bt6 => exact fun _ _ _ h => h); (case ct6 => kernel_rfl); (case dt6 => (intro W hW; exact exec_load_at 29 _ rfl _ _ rfl _ (sig_r (HA.out.1.under (show Below V.heap.size V W from hW)) (fun i hi => szF_low _ _ _ _ _ i hi) (by decide)))); (case' rt6 => simp only [Act.put, List.setIfInBounds_toArray, List.set_cons_zero, List.set_cons_succ]))
  (refine held_take (i := 10) (oi := ?ot7) (v := ?vt7) ?at7 (by kernel_rfl) (by kernel_rfl) (by kernel_rfl) ?bt7 ?ct7 ?dt7 (by assumption) ?rt7; (case at7 => (simp only [List.getElem?_toArray, List.getElem?_cons_zero, List.getElem?_cons_succ]; rfl)); (case bt7 => exact fun _ _ _ h => h); (case ct7 => kernel_rfl); (case dt7 => (intro W hW; (try dsimp only at hW); go_split_ands; go_simp; (try with_reducible rfl))); (case' rt7 => simp only [Act.put, List.setIfInBounds_toArray, List.set_cons_zero, List.set_cons_succ]))
  (refine held_take (i := 11) (oi := ?ot8) (v := ?vt8) ?at8 (by kernel_rfl) (by kernel_rfl) (by kernel_rfl) ?bt8 ?ct8 ?dt8 (by assumption) ?rt8; (case at8 => (simp only [List.getElem?_toArray, List.getElem?_cons_zero, List.getElem?_cons_succ]; rfl)); (case bt8 => exact fun _ _ _ h => h); (case ct8 => kernel_rfl); (case dt8 => (intro W hW; (try dsimp only at hW); go_split_ands; go_simp; (try with_reducible rfl))); (case' rt8 => simp only [Act.put, List.setIfInBounds_toArray, List.set_cons_zero, List.set_cons_succ]))
  (refine held_take (i := 12) (oi := ?ot9) (v := .slice A1 n1 c1) ?at9 (by kernel_rfl) (by kernel_rfl) (by kernel_rfl) ?bt9 ?ct9 ?dt9 (by assumption) ?rt9; (case at9 => (simp only [List.getElem?_toArray, List.getElem?_cons_zero, List.getElem?_cons_succ]; rfl)); (case bt9 => exact fun _ _ _ h => h); (case ct9 => kernel_rfl); (case dt9 => (intro W hW; have hc := sz_v1 (HA.out.1.under (show Below V.heap.size V W from hW)); clear hW; go_simp; (try with_reducible rfl))); (case' rt9 => simp only [Act.put, List.setIfInBounds_toArray, List.set_cons_zero, List.set_cons_succ]))
  (refine held_take (i := 14) (oi := ?ot10) (v := ?vt10) ?at10 (by kernel_rfl) (by kernel_rfl) (by kernel_rfl) ?bt10 ?ct10 ?dt10 (by assumption) ?rt10; (case at10 => (simp only [List.getElem?_toArray, List.getElem?_cons_zero, List.getElem?_cons_succ]; rfl)); (case bt10 => exact fun _ _ _ h => h); (case ct10 => kernel_rfl); (case dt10 => (intro W hW; (try dsimp only at hW); go_split_ands; go_simp; (try with_reducible rfl))); (case' rt10 => simp only [Act.put, List.setIfInBounds_toArray, List.set_cons_zero, List.set_cons_succ]))
  (refine held_take (i := 15) (oi := ?ot11) (v := ?vt11) ?at11 (by kernel_rfl) (by kernel_rfl) (by kernel_rfl) ?bt11 ?ct11 ?dt11 (by assumption) ?rt11; (case at11 => (simp only [List.getElem?_toArray, List.getElem?_cons_zero, List.getElem?_cons_succ]; rfl)); (case bt11 => exact fun _ _ _ h => h); (case ct11 => kernel_rfl); (case dt11 => (intro W hW; (try dsimp only at hW); go_split_ands; go_simp; (try with_reducible rfl))); (case' rt11 => simp only [Act.put, List.setIfInBounds_toArray, List.set_cons_zero, List.set_cons_succ]))
  (refine held_take (i := 16) (oi := ?ot12) (v := .slice A2 n2 c2) ?at12 (by kernel_rfl) (by kernel_rfl) (by kernel_rfl) ?bt12 ?ct12 ?dt12 (by assumption) ?rt12; (case at12 => (simp only [List.getElem?_toArray, List.getElem?_cons_zero, List.getElem?_cons_succ]; rfl)); (case bt12 => exact fun _ _ _ h => h); (case ct12 => kernel_rfl); (case dt12 => (intro W hW; have hc := sz_v2 (HA.out.1.under (show Below V.heap.size V W from hW)); clear hW; go_simp; (try with_reducible rfl))); (case' rt12 => simp only [Act.put, List.setIfInBounds_toArray, List.set_cons_zero, List.set_cons_succ]))
  refine held_two (i := 3) (j := 8) (oi := ?oit36) (oj := ?ojt36) (by kernel_rfl) ?ait36 ?ajt36 ?cit36 ?cjt36 (fun K3 hK3 => ?hit36) (fun K8 hK8 => ?hjt36)
  (case ait36 => (simp only [List.getElem?_toArray, List.getElem?_cons_zero, List.getElem?_cons_succ]; rfl))
  (case ajt36 => (simp only [List.getElem?_toArray, List.getElem?_cons_zero, List.getElem?_cons_succ]; rfl))
  (case cit36 => kernel_rfl)
  (case cjt36 => kernel_rfl)
  case hit36 =>
    refine ow_u32 _ rfl idx rfl (fun y3 p3 hl hd => ?_)
    (try have HU := Lib.hid ((HU.out.below hd).wide hd.size))
    (try have HN := Lib.hid ((HN.out.below hd).wide hd.size))
    (try have HN2 := Lib.hid ((HN2.out.below hd).wide hd.size))
    (try have HN3 := Lib.hid ((HN3.out.below hd).wide hd.size))
    (try have HP := Lib.hid ((HP.out.below hd).wide hd.size))
    (try have HL := Lib.hid ((HL.out.below hd).wide hd.size))
    (try have HL2 := Lib.hid ((HL2.out.below hd).wide hd.size))
    (try have HL3 := Lib.hid ((HL3.out.below hd).wide hd.size))
    (try have HR := Lib.hid ((HR.out.below hd).wide hd.size))
    have HU := Lib.hid hl
    refine hK3 _ _ (hS.keep hd) (fun hS3 => ?_)
    clear hS hl hd hK3 K3
    refine held_two (i := 4) (j := 8) (oi := ?oit27) (oj := ?ojt27) (by kernel_rfl) ?ait27 ?ajt27 ?cit27 ?cjt27 (fun K4 hK4 => ?hit27) (fun K8 hK8 => ?hjt27)
    (case ait27 => (simp only [List.getElem?_toArray, List.getElem?_cons_zero, List.getElem?_cons_succ]; rfl))
    (case ajt27 => (simp only [List.getElem?_toArray, List.getElem?_cons_zero, List.getElem?_cons_succ]; rfl))
    (case cit27 => kernel_rfl)
    (case cjt27 => kernel_rfl)
    case hit27 =>
      go_simp
      refine (put_one idx HO.out.1 (some p3) 1 _ HU.out).mono ?_
      rintro e y4 ⟨v, rfl, ho, hd⟩
      (try have HU := Lib.hid ((HU.out.below hd).wide hd.size))
      (try have HN := Lib.hid ((HN.out.below hd).wide hd.size))
      (try have HN2 := Lib.hid ((HN2.out.below hd).wide hd.size))
      (try have HN3 := Lib.hid ((HN3.out.below hd).wide hd.size))
      (try have HP := Lib.hid ((HP.out.below hd).wide hd.size))
      (try have HL := Lib.hid ((HL.out.below hd).wide hd.size))
      (try have HL2 := Lib.hid ((HL2.out.below hd).wide hd.size))
      (try have HL3 := Lib.hid ((HL3.out.below hd).wide hd.size))
      (try have HR := Lib.hid ((HR.out.below hd).wide hd.size))
      obtain ⟨E4, cE4, rfl, hcE4, hl⟩ := row_part ho
      have HP := Lib.hid hl
      refine hK4 _ _ (hS3.keep hd) (fun hS4 => ?_)
      clear hS3 ho hl hd hK4 K4
      refine held_one (i := 8) (oi := ?ot13) (by kernel_rfl) ?at13 ?ct13 (fun K8 hK8 => ?_)
      (case at13 => (simp only [List.getElem?_toArray, List.getElem?_cons_zero, List.getElem?_cons_succ]; rfl))
      (case ct13 => kernel_rfl)
      refine ow_node1 _ rfl r rfl (fun y8 p8 hl hd => ?_)
      (try have HU := Lib.hid ((HU.out.below hd).wide hd.size))
      (try have HN := Lib.hid ((HN.out.below hd).wide hd.size))
      (try have HN2 := Lib.hid ((HN2.out.below hd).wide hd.size))
      (try have HN3 := Lib.hid ((HN3.out.below hd).wide hd.size))
      (try have HP := Lib.hid ((HP.out.below hd).wide hd.size))
      (try have HL := Lib.hid ((HL.out.below hd).wide hd.size))
      (try have HL2 := Lib.hid ((HL2.out.below hd).wide hd.size))
      (try have HL3 := Lib.hid ((HL3.out.below hd).wide hd.size))
      (try have HR := Lib.hid ((HR.out.below hd).wide hd.size))
      have HN := Lib.hid hl
      refine hK8 _ _ (hS4.keep hd) (fun hS8 => ?_)
      clear hS4 hl hd hK8 K8
      refine held_one (i := 9) (oi := ?ot14) (by kernel_rfl) ?at14 ?ct14 (fun K9 hK9 => ?_)
      (case at14 => (simp only [List.getElem?_toArray, List.getElem?_cons_zero, List.getElem?_cons_succ]; rfl))
      (case ct14 => kernel_rfl)
      go_simp
      refine (laid_n 1 (some p8) 1 [r] rfl (by decide) _ HN.out).mono ?_
      rintro e y9 ⟨v, rfl, ho, hd⟩
      (try have HU := Lib.hid ((HU.out.below hd).wide hd.size))
      (try have HN := Lib.hid ((HN.out.below hd).wide hd.size))
      (try have HN2 := Lib.hid ((HN2.out.below hd).wide hd.size))
      (try have HN3 := Lib.hid ((HN3.out.below hd).wide hd.size))
      (try have HP := Lib.hid ((HP.out.below hd).wide hd.size))
      (try have HL := Lib.hid ((HL.out.below hd).wide hd.size))
      (try have HL2 := Lib.hid ((HL2.out.below hd).wide hd.size))
      (try have HL3 := Lib.hid ((HL3.out.below hd).wide hd.size))
      (try have HR := Lib.hid ((HR.out.below hd).wide hd.size))
      obtain ⟨E9, cE9, rfl, hcE9, hl⟩ := row_part ho
      have HL := Lib.hid hl
      refine hK9 _ _ (hS8.keep hd) (fun hS9 => ?_)
      clear hS8 ho hl hd hK9 K9
      refine held_one (i := 13) (oi := ?ot15) (by kernel_rfl) ?at15 ?ct15 (fun K13 hK13 => ?_)
      (case at15 => (simp only [List.getElem?_toArray, List.getElem?_cons_zero, List.getElem?_cons_succ]; rfl))
      (case ct15 => kernel_rfl)
      go_simp
      refine (laid_n n1 A1 c1 ots HO.out.2.2.2.1 (by have := HO.out.2.2.2.1; have := HO.out.2.1; omega) _ HN2.out).mono ?_
      rintro e y13 ⟨v, rfl, ho, hd⟩
      (try have HU := Lib.hid ((HU.out.below hd).wide hd.size))
      (try have HN := Lib.hid ((HN.out.below hd).wide hd.size))
      (try have HN2 := Lib.hid ((HN2.out.below hd).wide hd.size))
      (try have HN3 := Lib.hid ((HN3.out.below hd).wide hd.size))
      (try have HP := Lib.hid ((HP.out.below hd).wide hd.size))
      (try have HL := Lib.hid ((HL.out.below hd).wide hd.size))
      (try have HL2 := Lib.hid ((HL2.out.below hd).wide hd.size))
      (try have HL3 := Lib.hid ((HL3.out.below hd).wide hd.size))
      (try have HR := Lib.hid ((HR.out.below hd).wide hd.size))
      obtain ⟨E13, cE13, rfl, hcE13, hl⟩ := row_part ho
      have HL2 := Lib.hid hl
      refine hK13 _ _ (hS9.keep hd) (fun hS13 => ?_)
      clear hS9 ho hl hd hK13 K13
      refine held_one (i := 17) (oi := ?ot16) (by kernel_rfl) ?at16 ?ct16 (fun K17 hK17 => ?_)
      (case at16 => (simp only [List.getElem?_toArray, List.getElem?_cons_zero, List.getElem?_cons_succ]; rfl))
      (case ct16 => kernel_rfl)
      go_simp
      refine (laid_n n2 A2 c2 auth HO.out.2.2.2.2 (by have := HO.out.2.2.2.2; have := HO.out.2.2.1; omega) _ HN3.out).mono ?_
      rintro e y17 ⟨v, rfl, ho, hd⟩
      (try have HU := Lib.hid ((HU.out.below hd).wide hd.size))
      (try have HN := Lib.hid ((HN.out.below hd).wide hd.size))
      (try have HN2 := Lib.hid ((HN2.out.below hd).wide hd.size))
      (try have HN3 := Lib.hid ((HN3.out.below hd).wide hd.size))
      (try have HP := Lib.hid ((HP.out.below hd).wide hd.size))
      (try have HL := Lib.hid ((HL.out.below hd).wide hd.size))
      (try have HL2 := Lib.hid ((HL2.out.below hd).wide hd.size))
      (try have HL3 := Lib.hid ((HL3.out.below hd).wide hd.size))
      (try have HR := Lib.hid ((HR.out.below hd).wide hd.size))
      obtain ⟨E17, cE17, rfl, hcE17, hl⟩ := row_part ho
      have HL3 := Lib.hid hl
      refine hK17 _ _ (hS13.keep hd) (fun hS17 => ?_)
      clear hS13 ho hl hd hK17 K17
      refine held_one (i := 18) (oi := ?ot17) (by kernel_rfl) ?at17 ?ct17 (fun K18 hK18 => ?_)
      (case at17 => (simp only [List.getElem?_toArray, List.getElem?_cons_zero, List.getElem?_cons_succ]; rfl))
      (case ct17 => kernel_rfl)
      refine ow_part4 _ _ _ _ rfl (E4, cE4, numBytes 0 4 idx) (E9, cE9, nodesL [r]) (E13, cE13, nodesL ots) (E17, cE17, nodesL auth) rfl rfl rfl rfl (fun y18 p18 hl hd => ?_)
      (try have HU := Lib.hid ((HU.out.below hd).wide hd.size))
      (try have HN := Lib.hid ((HN.out.below hd).wide hd.size))
      (try have HN2 := Lib.hid ((HN2.out.below hd).wide hd.size))
      (try have HN3 := Lib.hid ((HN3.out.below hd).wide hd.size))
      (try have HP := Lib.hid ((HP.out.below hd).wide hd.size))
      (try have HL := Lib.hid ((HL.out.below hd).wide hd.size))
      (try have HL2 := Lib.hid ((HL2.out.below hd).wide hd.size))
      (try have HL3 := Lib.hid ((HL3.out.below hd).wide hd.size))
      (try have HR := Lib.hid ((HR.out.below hd).wide hd.size))
      have HC := Lib.hid hl
      refine hK18 _ _ (hS17.keep hd) (fun hS18 => ?_)
      clear hS17 hl hd hK18 K18
      refine held_one (i := 19) (oi := ?ot18) (by kernel_rfl) ?at18 ?ct18 (fun K19 hK19 => ?_)
      (case at18 => (simp only [List.getElem?_toArray, List.getElem?_cons_zero, List.getElem?_cons_succ]; rfl))
      (case ct18 => kernel_rfl)
      go_simp
      refine (cat_n 4 (some p18) 4 [(E4, cE4, numBytes 0 4 idx), (E9, cE9, nodesL [r]), (E13, cE13, nodesL ots), (E17, cE17, nodesL auth)] (sigL idx r ots auth) (by simp [catAll, sigL, nodesL]) rfl (by decide) (by rw [sigL_length]; have := HO.out.2.1; have := HO.out.2.2.1; omega) _ HC.out (fun p hp => ?_)).mono ?_
      · simp only [List.mem_cons, List.not_mem_nil, or_false] at hp
        rcases hp with rfl | rfl | rfl | rfl
        · exact HP.out
        · exact HL.out
        · exact HL2.out
        · exact HL3.out
      rintro e y19 ⟨v, rfl, ho, hd⟩
      have HR := Lib.hid (owns_mono ho ((HA.out.2.trans (Below.mono (show Below V.heap.size V _ from hS18) HA.out.2.size)).size))
      refine hK19 _ _ (hS18.keep hd) (fun hS19 => ?_)
      clear hS18 ho hd hK19 K19
      (refine held_take (i := 20) (oi := ?ot19) (v := ?vt19) ?at19 (by kernel_rfl) (by kernel_rfl) (by kernel_rfl) ?bt19 ?ct19 ?dt19 (by assumption) ?rt19; (case at19 => (simp only [List.getElem?_toArray, List.getElem?_cons_zero, List.getElem?_cons_succ]; rfl)); (case bt19 => exact fun _ _ _ h => h); (case ct19 => kernel_rfl); (case dt19 => (intro W hW; (try dsimp only at hW); go_split_ands; go_simp; (try with_reducible rfl))); (case' rt19 => simp only [Act.put, List.setIfInBounds_toArray, List.set_cons_zero, List.set_cons_succ]))
      refine wpAnyH_done (by kernel_rfl) ?_ _
      go_wp2
      go_ret
      exact ⟨_, rfl, HR.out, VS.below0 hS19 HA.out.2⟩
    case hjt27 =>
      refine ow_node1 _ rfl r rfl (fun y8 p8 hl hd => ?_)
      (try have HU := Lib.hid ((HU.out.below hd).wide hd.size))
      (try have HN := Lib.hid ((HN.out.below hd).wide hd.size))
      (try have HN2 := Lib.hid ((HN2.out.below hd).wide hd.size))
      (try have HN3 := Lib.hid ((HN3.out.below hd).wide hd.size))
      (try have HP := Lib.hid ((HP.out.below hd).wide hd.size))
      (try have HL := Lib.hid ((HL.out.below hd).wide hd.size))
      (try have HL2 := Lib.hid ((HL2.out.below hd).wide hd.size))
      (try have HL3 := Lib.hid ((HL3.out.below hd).wide hd.size))
      (try have HR := Lib.hid ((HR.out.below hd).wide hd.size))
      have HN := Lib.hid hl
      refine hK8 _ _ (hS3.keep hd) (fun hS8 => ?_)
      clear hS3 hl hd hK8 K8
      refine held_one (i := 4) (oi := ?ot20) (by kernel_rfl) ?at20 ?ct20 (fun K4 hK4 => ?_)
      (case at20 => (simp only [List.getElem?_toArray, List.getElem?_cons_zero, List.getElem?_cons_succ]; rfl))
      (case ct20 => kernel_rfl)
      go_simp
      refine (put_one idx HO.out.1 (some p3) 1 _ HU.out).mono ?_
      rintro e y4 ⟨v, rfl, ho, hd⟩
      (try have HU := Lib.hid ((HU.out.below hd).wide hd.size))
      (try have HN := Lib.hid ((HN.out.below hd).wide hd.size))
      (try have HN2 := Lib.hid ((HN2.out.below hd).wide hd.size))
      (try have HN3 := Lib.hid ((HN3.out.below hd).wide hd.size))
      (try have HP := Lib.hid ((HP.out.below hd).wide hd.size))
      (try have HL := Lib.hid ((HL.out.below hd).wide hd.size))
      (try have HL2 := Lib.hid ((HL2.out.below hd).wide hd.size))
      (try have HL3 := Lib.hid ((HL3.out.below hd).wide hd.size))
      (try have HR := Lib.hid ((HR.out.below hd).wide hd.size))
      obtain ⟨E4, cE4, rfl, hcE4, hl⟩ := row_part ho
      have HP := Lib.hid hl
      refine hK4 _ _ (hS8.keep hd) (fun hS4 => ?_)
      clear hS8 ho hl hd hK4 K4
      refine held_one (i := 9) (oi := ?ot21) (by kernel_rfl) ?at21 ?ct21 (fun K9 hK9 => ?_)
      (case at21 => (simp only [List.getElem?_toArray, List.getElem?_cons_zero, List.getElem?_cons_succ]; rfl))
      (case ct21 => kernel_rfl)
      go_simp
      refine (laid_n 1 (some p8) 1 [r] rfl (by decide) _ HN.out).mono ?_
      rintro e y9 ⟨v, rfl, ho, hd⟩
      (try have HU := Lib.hid ((HU.out.below hd).wide hd.size))
      (try have HN := Lib.hid ((HN.out.below hd).wide hd.size))
      (try have HN2 := Lib.hid ((HN2.out.below hd).wide hd.size))
      (try have HN3 := Lib.hid ((HN3.out.below hd).wide hd.size))
      (try have HP := Lib.hid ((HP.out.below hd).wide hd.size))
      (try have HL := Lib.hid ((HL.out.below hd).wide hd.size))
      (try have HL2 := Lib.hid ((HL2.out.below hd).wide hd.size))
      (try have HL3 := Lib.hid ((HL3.out.below hd).wide hd.size))
      (try have HR := Lib.hid ((HR.out.below hd).wide hd.size))
      obtain ⟨E9, cE9, rfl, hcE9, hl⟩ := row_part ho
      have HL := Lib.hid hl
      refine hK9 _ _ (hS4.keep hd) (fun hS9 => ?_)
      clear hS4 ho hl hd hK9 K9
      refine held_one (i := 13) (oi := ?ot22) (by kernel_rfl) ?at22 ?ct22 (fun K13 hK13 => ?_)
      (case at22 => (simp only [List.getElem?_toArray, List.getElem?_cons_zero, List.getElem?_cons_succ]; rfl))
      (case ct22 => kernel_rfl)
      go_simp
      refine (laid_n n1 A1 c1 ots HO.out.2.2.2.1 (by have := HO.out.2.2.2.1; have := HO.out.2.1; omega) _ HN2.out).mono ?_
      rintro e y13 ⟨v, rfl, ho, hd⟩
      (try have HU := Lib.hid ((HU.out.below hd).wide hd.size))
      (try have HN := Lib.hid ((HN.out.below hd).wide hd.size))
      (try have HN2 := Lib.hid ((HN2.out.below hd).wide hd.size))
      (try have HN3 := Lib.hid ((HN3.out.below hd).wide hd.size))
      (try have HP := Lib.hid ((HP.out.below hd).wide hd.size))
      (try have HL := Lib.hid ((HL.out.below hd).wide hd.size))
      (try have HL2 := Lib.hid ((HL2.out.below hd).wide hd.size))
      (try have HL3 := Lib.hid ((HL3.out.below hd).wide hd.size))
      (try have HR := Lib.hid ((HR.out.below hd).wide hd.size))
      obtain ⟨E13, cE13, rfl, hcE13, hl⟩ := row_part ho
      have HL2 := Lib.hid hl
      refine hK13 _ _ (hS9.keep hd) (fun hS13 => ?_)
      clear hS9 ho hl hd hK13 K13
      refine held_one (i := 17) (oi := ?ot23) (by kernel_rfl) ?at23 ?ct23 (fun K17 hK17 => ?_)
      (case at23 => (simp only [List.getElem?_toArray, List.getElem?_cons_zero, List.getElem?_cons_succ]; rfl))
      (case ct23 => kernel_rfl)
      go_simp
      refine (laid_n n2 A2 c2 auth HO.out.2.2.2.2 (by have := HO.out.2.2.2.2; have := HO.out.2.2.1; omega) _ HN3.out).mono ?_
      rintro e y17 ⟨v, rfl, ho, hd⟩
      (try have HU := Lib.hid ((HU.out.below hd).wide hd.size))
      (try have HN := Lib.hid ((HN.out.below hd).wide hd.size))
      (try have HN2 := Lib.hid ((HN2.out.below hd).wide hd.size))
      (try have HN3 := Lib.hid ((HN3.out.below hd).wide hd.size))
      (try have HP := Lib.hid ((HP.out.below hd).wide hd.size))
      (try have HL := Lib.hid ((HL.out.below hd).wide hd.size))
      (try have HL2 := Lib.hid ((HL2.out.below hd).wide hd.size))
      (try have HL3 := Lib.hid ((HL3.out.below hd).wide hd.size))
      (try have HR := Lib.hid ((HR.out.below hd).wide hd.size))
      obtain ⟨E17, cE17, rfl, hcE17, hl⟩ := row_part ho
      have HL3 := Lib.hid hl
      refine hK17 _ _ (hS13.keep hd) (fun hS17 => ?_)
      clear hS13 ho hl hd hK17 K17
      refine held_one (i := 18) (oi := ?ot24) (by kernel_rfl) ?at24 ?ct24 (fun K18 hK18 => ?_)
      (case at24 => (simp only [List.getElem?_toArray, List.getElem?_cons_zero, List.getElem?_cons_succ]; rfl))
      (case ct24 => kernel_rfl)
      refine ow_part4 _ _ _ _ rfl (E4, cE4, numBytes 0 4 idx) (E9, cE9, nodesL [r]) (E13, cE13, nodesL ots) (E17, cE17, nodesL auth) rfl rfl rfl rfl (fun y18 p18 hl hd => ?_)
      (try have HU := Lib.hid ((HU.out.below hd).wide hd.size))
      (try have HN := Lib.hid ((HN.out.below hd).wide hd.size))
      (try have HN2 := Lib.hid ((HN2.out.below hd).wide hd.size))
      (try have HN3 := Lib.hid ((HN3.out.below hd).wide hd.size))
      (try have HP := Lib.hid ((HP.out.below hd).wide hd.size))
      (try have HL := Lib.hid ((HL.out.below hd).wide hd.size))
      (try have HL2 := Lib.hid ((HL2.out.below hd).wide hd.size))
      (try have HL3 := Lib.hid ((HL3.out.below hd).wide hd.size))
      (try have HR := Lib.hid ((HR.out.below hd).wide hd.size))
      have HC := Lib.hid hl
      refine hK18 _ _ (hS17.keep hd) (fun hS18 => ?_)
      clear hS17 hl hd hK18 K18
      refine held_one (i := 19) (oi := ?ot25) (by kernel_rfl) ?at25 ?ct25 (fun K19 hK19 => ?_)
      (case at25 => (simp only [List.getElem?_toArray, List.getElem?_cons_zero, List.getElem?_cons_succ]; rfl))
      (case ct25 => kernel_rfl)
      go_simp
      refine (cat_n 4 (some p18) 4 [(E4, cE4, numBytes 0 4 idx), (E9, cE9, nodesL [r]), (E13, cE13, nodesL ots), (E17, cE17, nodesL auth)] (sigL idx r ots auth) (by simp [catAll, sigL, nodesL]) rfl (by decide) (by rw [sigL_length]; have := HO.out.2.1; have := HO.out.2.2.1; omega) _ HC.out (fun p hp => ?_)).mono ?_
      · simp only [List.mem_cons, List.not_mem_nil, or_false] at hp
        rcases hp with rfl | rfl | rfl | rfl
        · exact HP.out
        · exact HL.out
        · exact HL2.out
        · exact HL3.out
      rintro e y19 ⟨v, rfl, ho, hd⟩
      have HR := Lib.hid (owns_mono ho ((HA.out.2.trans (Below.mono (show Below V.heap.size V _ from hS18) HA.out.2.size)).size))
      refine hK19 _ _ (hS18.keep hd) (fun hS19 => ?_)
      clear hS18 ho hd hK19 K19
      (refine held_take (i := 20) (oi := ?ot26) (v := ?vt26) ?at26 (by kernel_rfl) (by kernel_rfl) (by kernel_rfl) ?bt26 ?ct26 ?dt26 (by assumption) ?rt26; (case at26 => (simp only [List.getElem?_toArray, List.getElem?_cons_zero, List.getElem?_cons_succ]; rfl)); (case bt26 => exact fun _ _ _ h => h); (case ct26 => kernel_rfl); (case dt26 => (intro W hW; (try dsimp only at hW); go_split_ands; go_simp; (try with_reducible rfl))); (case' rt26 => simp only [Act.put, List.setIfInBounds_toArray, List.set_cons_zero, List.set_cons_succ]))
      refine wpAnyH_done (by kernel_rfl) ?_ _
      go_wp2
      go_ret
      exact ⟨_, rfl, HR.out, VS.below0 hS19 HA.out.2⟩
  case hjt36 =>
    refine ow_node1 _ rfl r rfl (fun y8 p8 hl hd => ?_)
    (try have HU := Lib.hid ((HU.out.below hd).wide hd.size))
    (try have HN := Lib.hid ((HN.out.below hd).wide hd.size))
    (try have HN2 := Lib.hid ((HN2.out.below hd).wide hd.size))
    (try have HN3 := Lib.hid ((HN3.out.below hd).wide hd.size))
    (try have HP := Lib.hid ((HP.out.below hd).wide hd.size))
    (try have HL := Lib.hid ((HL.out.below hd).wide hd.size))
    (try have HL2 := Lib.hid ((HL2.out.below hd).wide hd.size))
    (try have HL3 := Lib.hid ((HL3.out.below hd).wide hd.size))
    (try have HR := Lib.hid ((HR.out.below hd).wide hd.size))
    have HN := Lib.hid hl
    refine hK8 _ _ (hS.keep hd) (fun hS8 => ?_)
    clear hS hl hd hK8 K8
    refine held_one (i := 3) (oi := ?ot28) (by kernel_rfl) ?at28 ?ct28 (fun K3 hK3 => ?_)
    (case at28 => (simp only [List.getElem?_toArray, List.getElem?_cons_zero, List.getElem?_cons_succ]; rfl))
    (case ct28 => kernel_rfl)
    refine ow_u32 _ rfl idx rfl (fun y3 p3 hl hd => ?_)
    (try have HU := Lib.hid ((HU.out.below hd).wide hd.size))
    (try have HN := Lib.hid ((HN.out.below hd).wide hd.size))
    (try have HN2 := Lib.hid ((HN2.out.below hd).wide hd.size))
    (try have HN3 := Lib.hid ((HN3.out.below hd).wide hd.size))
    (try have HP := Lib.hid ((HP.out.below hd).wide hd.size))
    (try have HL := Lib.hid ((HL.out.below hd).wide hd.size))
    (try have HL2 := Lib.hid ((HL2.out.below hd).wide hd.size))
    (try have HL3 := Lib.hid ((HL3.out.below hd).wide hd.size))
    (try have HR := Lib.hid ((HR.out.below hd).wide hd.size))
    have HU := Lib.hid hl
    refine hK3 _ _ (hS8.keep hd) (fun hS3 => ?_)
    clear hS8 hl hd hK3 K3
    refine held_one (i := 4) (oi := ?ot29) (by kernel_rfl) ?at29 ?ct29 (fun K4 hK4 => ?_)
    (case at29 => (simp only [List.getElem?_toArray, List.getElem?_cons_zero, List.getElem?_cons_succ]; rfl))
    (case ct29 => kernel_rfl)
    go_simp
    refine (put_one idx HO.out.1 (some p3) 1 _ HU.out).mono ?_
    rintro e y4 ⟨v, rfl, ho, hd⟩
    (try have HU := Lib.hid ((HU.out.below hd).wide hd.size))
    (try have HN := Lib.hid ((HN.out.below hd).wide hd.size))
    (try have HN2 := Lib.hid ((HN2.out.below hd).wide hd.size))
    (try have HN3 := Lib.hid ((HN3.out.below hd).wide hd.size))
    (try have HP := Lib.hid ((HP.out.below hd).wide hd.size))
    (try have HL := Lib.hid ((HL.out.below hd).wide hd.size))
    (try have HL2 := Lib.hid ((HL2.out.below hd).wide hd.size))
    (try have HL3 := Lib.hid ((HL3.out.below hd).wide hd.size))
    (try have HR := Lib.hid ((HR.out.below hd).wide hd.size))
    obtain ⟨E4, cE4, rfl, hcE4, hl⟩ := row_part ho
    have HP := Lib.hid hl
    refine hK4 _ _ (hS3.keep hd) (fun hS4 => ?_)
    clear hS3 ho hl hd hK4 K4
    refine held_one (i := 9) (oi := ?ot30) (by kernel_rfl) ?at30 ?ct30 (fun K9 hK9 => ?_)
    (case at30 => (simp only [List.getElem?_toArray, List.getElem?_cons_zero, List.getElem?_cons_succ]; rfl))
    (case ct30 => kernel_rfl)
    go_simp
    refine (laid_n 1 (some p8) 1 [r] rfl (by decide) _ HN.out).mono ?_
    rintro e y9 ⟨v, rfl, ho, hd⟩
    (try have HU := Lib.hid ((HU.out.below hd).wide hd.size))
    (try have HN := Lib.hid ((HN.out.below hd).wide hd.size))
    (try have HN2 := Lib.hid ((HN2.out.below hd).wide hd.size))
    (try have HN3 := Lib.hid ((HN3.out.below hd).wide hd.size))
    (try have HP := Lib.hid ((HP.out.below hd).wide hd.size))
    (try have HL := Lib.hid ((HL.out.below hd).wide hd.size))
    (try have HL2 := Lib.hid ((HL2.out.below hd).wide hd.size))
    (try have HL3 := Lib.hid ((HL3.out.below hd).wide hd.size))
    (try have HR := Lib.hid ((HR.out.below hd).wide hd.size))
    obtain ⟨E9, cE9, rfl, hcE9, hl⟩ := row_part ho
    have HL := Lib.hid hl
    refine hK9 _ _ (hS4.keep hd) (fun hS9 => ?_)
    clear hS4 ho hl hd hK9 K9
    refine held_one (i := 13) (oi := ?ot31) (by kernel_rfl) ?at31 ?ct31 (fun K13 hK13 => ?_)
    (case at31 => (simp only [List.getElem?_toArray, List.getElem?_cons_zero, List.getElem?_cons_succ]; rfl))
    (case ct31 => kernel_rfl)
    go_simp
    refine (laid_n n1 A1 c1 ots HO.out.2.2.2.1 (by have := HO.out.2.2.2.1; have := HO.out.2.1; omega) _ HN2.out).mono ?_
    rintro e y13 ⟨v, rfl, ho, hd⟩
    (try have HU := Lib.hid ((HU.out.below hd).wide hd.size))
    (try have HN := Lib.hid ((HN.out.below hd).wide hd.size))
    (try have HN2 := Lib.hid ((HN2.out.below hd).wide hd.size))
    (try have HN3 := Lib.hid ((HN3.out.below hd).wide hd.size))
    (try have HP := Lib.hid ((HP.out.below hd).wide hd.size))
    (try have HL := Lib.hid ((HL.out.below hd).wide hd.size))
    (try have HL2 := Lib.hid ((HL2.out.below hd).wide hd.size))
    (try have HL3 := Lib.hid ((HL3.out.below hd).wide hd.size))
    (try have HR := Lib.hid ((HR.out.below hd).wide hd.size))
    obtain ⟨E13, cE13, rfl, hcE13, hl⟩ := row_part ho
    have HL2 := Lib.hid hl
    refine hK13 _ _ (hS9.keep hd) (fun hS13 => ?_)
    clear hS9 ho hl hd hK13 K13
    refine held_one (i := 17) (oi := ?ot32) (by kernel_rfl) ?at32 ?ct32 (fun K17 hK17 => ?_)
    (case at32 => (simp only [List.getElem?_toArray, List.getElem?_cons_zero, List.getElem?_cons_succ]; rfl))
    (case ct32 => kernel_rfl)
    go_simp
    refine (laid_n n2 A2 c2 auth HO.out.2.2.2.2 (by have := HO.out.2.2.2.2; have := HO.out.2.2.1; omega) _ HN3.out).mono ?_
    rintro e y17 ⟨v, rfl, ho, hd⟩
    (try have HU := Lib.hid ((HU.out.below hd).wide hd.size))
    (try have HN := Lib.hid ((HN.out.below hd).wide hd.size))
    (try have HN2 := Lib.hid ((HN2.out.below hd).wide hd.size))
    (try have HN3 := Lib.hid ((HN3.out.below hd).wide hd.size))
    (try have HP := Lib.hid ((HP.out.below hd).wide hd.size))
    (try have HL := Lib.hid ((HL.out.below hd).wide hd.size))
    (try have HL2 := Lib.hid ((HL2.out.below hd).wide hd.size))
    (try have HL3 := Lib.hid ((HL3.out.below hd).wide hd.size))
    (try have HR := Lib.hid ((HR.out.below hd).wide hd.size))
    obtain ⟨E17, cE17, rfl, hcE17, hl⟩ := row_part ho
    have HL3 := Lib.hid hl
    refine hK17 _ _ (hS13.keep hd) (fun hS17 => ?_)
    clear hS13 ho hl hd hK17 K17
    refine held_one (i := 18) (oi := ?ot33) (by kernel_rfl) ?at33 ?ct33 (fun K18 hK18 => ?_)
    (case at33 => (simp only [List.getElem?_toArray, List.getElem?_cons_zero, List.getElem?_cons_succ]; rfl))
    (case ct33 => kernel_rfl)
    refine ow_part4 _ _ _ _ rfl (E4, cE4, numBytes 0 4 idx) (E9, cE9, nodesL [r]) (E13, cE13, nodesL ots) (E17, cE17, nodesL auth) rfl rfl rfl rfl (fun y18 p18 hl hd => ?_)
    (try have HU := Lib.hid ((HU.out.below hd).wide hd.size))
    (try have HN := Lib.hid ((HN.out.below hd).wide hd.size))
    (try have HN2 := Lib.hid ((HN2.out.below hd).wide hd.size))
    (try have HN3 := Lib.hid ((HN3.out.below hd).wide hd.size))
    (try have HP := Lib.hid ((HP.out.below hd).wide hd.size))
    (try have HL := Lib.hid ((HL.out.below hd).wide hd.size))
    (try have HL2 := Lib.hid ((HL2.out.below hd).wide hd.size))
    (try have HL3 := Lib.hid ((HL3.out.below hd).wide hd.size))
    (try have HR := Lib.hid ((HR.out.below hd).wide hd.size))
    have HC := Lib.hid hl
    refine hK18 _ _ (hS17.keep hd) (fun hS18 => ?_)
    clear hS17 hl hd hK18 K18
    refine held_one (i := 19) (oi := ?ot34) (by kernel_rfl) ?at34 ?ct34 (fun K19 hK19 => ?_)
    (case at34 => (simp only [List.getElem?_toArray, List.getElem?_cons_zero, List.getElem?_cons_succ]; rfl))
    (case ct34 => kernel_rfl)
    go_simp
    refine (cat_n 4 (some p18) 4 [(E4, cE4, numBytes 0 4 idx), (E9, cE9, nodesL [r]), (E13, cE13, nodesL ots), (E17, cE17, nodesL auth)] (sigL idx r ots auth) (by simp [catAll, sigL, nodesL]) rfl (by decide) (by rw [sigL_length]; have := HO.out.2.1; have := HO.out.2.2.1; omega) _ HC.out (fun p hp => ?_)).mono ?_
    · simp only [List.mem_cons, List.not_mem_nil, or_false] at hp
      rcases hp with rfl | rfl | rfl | rfl
      · exact HP.out
      · exact HL.out
      · exact HL2.out
      · exact HL3.out
    rintro e y19 ⟨v, rfl, ho, hd⟩
    have HR := Lib.hid (owns_mono ho ((HA.out.2.trans (Below.mono (show Below V.heap.size V _ from hS18) HA.out.2.size)).size))
    refine hK19 _ _ (hS18.keep hd) (fun hS19 => ?_)
    clear hS18 ho hd hK19 K19
    (refine held_take (i := 20) (oi := ?ot35) (v := ?vt35) ?at35 (by kernel_rfl) (by kernel_rfl) (by kernel_rfl) ?bt35 ?ct35 ?dt35 (by assumption) ?rt35; (case at35 => (simp only [List.getElem?_toArray, List.getElem?_cons_zero, List.getElem?_cons_succ]; rfl)); (case bt35 => exact fun _ _ _ h => h); (case ct35 => kernel_rfl); (case dt35 => (intro W hW; (try dsimp only at hW); go_split_ands; go_simp; (try with_reducible rfl))); (case' rt35 => simp only [Act.put, List.setIfInBounds_toArray, List.set_cons_zero, List.set_cons_succ]))
    refine wpAnyH_done (by kernel_rfl) ?_ _
    go_wp2
    go_ret
    exact ⟨_, rfl, HR.out, VS.below0 hS19 HA.out.2⟩
end Go.Proofs.Ytfeiplaiekbdkaa
